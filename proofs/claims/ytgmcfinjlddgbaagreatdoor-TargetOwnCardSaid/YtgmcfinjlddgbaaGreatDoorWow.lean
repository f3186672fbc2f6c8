/- TargetOwn, walked. -/
import Derived.Test.YtgmcfinjlddgbaaGreatDoorBg
import Derived.Test.YtgmcfinjlddgbaaGreatDoorOw0
import Derived.Test.YtgmcfinjlddgbaaGreatDoorEl
namespace Go.Proofs.YtgmcfinjlddgbaaGreatDoor
open Go.RowKit
set_option linter.unusedVariables false
set_option maxRecDepth 100000
def S1 (t : TypeId) : Bool := t == 2
def SI (t : TypeId) : Bool := t == 25
def S3 (t : TypeId) : Bool := t == 2 || (t == 25 || t == 64)
theorem s1_3 (t : TypeId) (h : S1 t = true) : S3 t = true := by unfold S1 at h; unfold S3; rw [h]; rfl
theorem si_3 (t : TypeId) (h : SI t = true) : S3 t = true := by unfold SI at h; unfold S3; rw [h]; simp
theorem FitT.w {o : Ob} (h : FitT o) : fitW o := ⟨by have := h.mem; omega, by have := h.cors; omega, fun c hc => by have := h.code c hc; omega⟩
/-- What stands ahead of the loops. -/
structure Wl (w : World) (B gx hi gk : Nat) (o : Ob) (ro : Array Value) (v1 v5 : Value) (L : List (Cor × Value)) (rk : Array Value) (W : World) : Prop where
  ob : Own W w.heap.size 29 ro
  bx : Own W gx 29 #[v1, .int .i64 o.sh, .int .i64 o.lk, .int .i64 o.bf, v5]
  kx : Own W gk 29 rk
  kp : ObKp hi o (.agg rk) W
  rd : RdV B o v1 v5 L W
  ft : FitT o
  lt1 : ∀ k, v1.ownBlock = some k → k < gx
  lt5 : ∀ k, v5.ownBlock = some k → k < gx
  ltc : ∀ x ∈ L, ∀ k, x.2.ownBlock = some k → k < gx
  wB : w.heap.size < B
  Bx : B ≤ gx
  xh : gx < hi
  hk : hi ≤ gk
  kW : gk < W.heap.size
  bel : Below w.heap.size w W
theorem rows_lt {W : World} {B : Nat} {T : TypeId} {n : Nat} {v : Value} {m : Nat} {xs : List Value} (h : W.ownsRow B T n v m xs) : ∀ k, v.ownBlock = some k → k < W.heap.size := fun k hk => (h.lt k hk).2
theorem wl_new {w w1 w2 w4 WA : World} {o : Ob} {ro : Array Value} {v1 v5 : Value} {L : List (Cor × Value)} {rk : Array Value} (h0 : Own w1 w.heap.size 29 ro) (hB1 : Below w.heap.size w w1) (hb2 : Below w1.heap.size w1 w2) (hrd : RdV w1.heap.size o v1 v5 L w2) (hft : FitT o)
    (hWA : WA = (w2.alloc (.cells #[.slice none 0 0, .int .i64 0, .int .i64 0, .int .i64 0, .slice none 0 0] 29)).setRow w2.heap.size #[v1, .int .i64 o.sh, .int .i64 o.lk, .int .i64 o.bf, v5]) (hkp : ObKp WA.heap.size o (.agg rk) w4) (hb4 : Below WA.heap.size WA w4) :
    Wl w w1.heap.size w2.heap.size WA.heap.size w4.heap.size o ro v1 v5 L rk ((w4.alloc (.cells #[.slice none 0 0, .int .i64 0, .int .i64 0, .int .i64 0, .slice none 0 0] 29)).setRow w4.heap.size rk) := by
  have al2 := (Below.refl _ w2).alloc (Nat.le_refl _) (.cells #[.slice none 0 0, .int .i64 0, .int .i64 0, .int .i64 0, .slice none 0 0] 29)
  have O2 := Own.new w2 29 #[.slice none 0 0, .int .i64 0, .int .i64 0, .int .i64 0, .slice none 0 0]
  have OA : Own WA w2.heap.size 29 #[v1, .int .i64 o.sh, .int .i64 o.lk, .int .i64 o.bf, v5] := by rw [hWA]; exact O2.row _
  have bA : Below w2.heap.size w2 WA := by rw [hWA]; exact Below.of_row al2 (Nat.le_refl _) _
  have al4 := (Below.refl _ w4).alloc (Nat.le_refl _) (.cells #[.slice none 0 0, .int .i64 0, .int .i64 0, .int .i64 0, .slice none 0 0] 29)
  have O4 := Own.new w4 29 #[.slice none 0 0, .int .i64 0, .int .i64 0, .int .i64 0, .slice none 0 0]
  have bL : Below w4.heap.size w4 ((w4.alloc (.cells #[.slice none 0 0, .int .i64 0, .int .i64 0, .int .i64 0, .slice none 0 0] 29)).setRow w4.heap.size rk) := Below.of_row al4 (Nat.le_refl _) _
  have b24 : Below w2.heap.size w2 w4 := bA.trans (hb4.mono bA.size)
  have b2L : Below w2.heap.size w2 ((w4.alloc (.cells #[.slice none 0 0, .int .i64 0, .int .i64 0, .int .i64 0, .slice none 0 0] 29)).setRow w4.heap.size rk) := b24.trans (bL.mono b24.size)
  have bAL : Below WA.heap.size WA ((w4.alloc (.cells #[.slice none 0 0, .int .i64 0, .int .i64 0, .int .i64 0, .slice none 0 0] 29)).setRow w4.heap.size rk) := hb4.trans (bL.mono hb4.size)
  have b1L : Below w1.heap.size w1 ((w4.alloc (.cells #[.slice none 0 0, .int .i64 0, .int .i64 0, .int .i64 0, .slice none 0 0] 29)).setRow w4.heap.size rk) := hb2.trans (b2L.mono hb2.size)
  exact ⟨h0.below b1L, OA.below bAL, O4.row _, hkp.stays fun b _ hl => bL.block b hl, hrd.below b2L, hft, rows_lt hrd.mem, rows_lt hrd.cors, fun x hx => rows_lt (hrd.codes.rows x hx), h0.lt, hb2.size, OA.lt, hb4.size, (O4.row rk).lt, hB1.trans (b1L.mono hB1.size)⟩
/-- The cores' slices of code that are not yet written over. -/
def CA (B gx : Nat) (v5 : Value) (L : List (Cor × Value)) (i : Nat) (X : World) : Prop := ∀ (j : Nat) (x : Cor × Value), i ≤ j → L[j]? = some x → ∃ g q cap cur, q = 0 ∧ v5 = .slice (some ⟨g, q, none⟩) L.length cap ∧ B ≤ g ∧ g < gx ∧ Own X g 64 cur ∧ L.length * 2 ≤ cur.size ∧ cur[q + j * 2 + 1]? = some x.2
theorem ca_new {B gx : Nat} {v5 : Value} {L : List (Cor × Value)} {X : World} (h : X.ownsRow B 64 2 v5 L.length (flatC L)) (hl : ∀ k, v5.ownBlock = some k → k < gx) : CA B gx v5 L 0 X := by
  intro j x _ hj
  have hjl : j < L.length := (List.getElem?_eq_some_iff.1 hj).1
  rcases h.2 with ⟨_, h1⟩ | ⟨g, cap, cur, h1, h2, h3, h4, h5, h6, h7⟩
  · omega
  · refine ⟨g, 0, cap, cur, rfl, h1, h2, hl g (by rw [h1]; rfl), h3, ?_, ?_⟩
    · rw [h6]; exact Nat.mul_le_mul_right _ h4
    · have f2 := (flatC_get L j x hj).2
      rw [← h7, List.getElem?_take] at f2
      split at f2
      · rw [Nat.zero_add]
        simpa using f2
      · cases f2
theorem CA.same {B gx : Nat} {v5 : Value} {L : List (Cor × Value)} {i lo hi : Nat} {S : TypeId → Bool} {X Y : World} (h : CA B gx v5 L i X) (hc : Chg lo hi S X Y) (hS : S 64 = false) : CA B gx v5 L i Y := by
  intro j x hi hj
  obtain ⟨g, q, cap, cur, h0, h1, h2, h3, h4, h5, h6⟩ := h j x hi hj
  exact ⟨g, q, cap, cur, h0, h1, h2, h3, own_unchg h4 hc hS, h5, h6⟩
theorem CA.set {B gx : Nat} {v5 : Value} {L : List (Cor × Value)} {i : Nat} {X : World} (h : CA B gx v5 L i X) {g q cap : Nat} (hq : q = 0) (hg : v5 = .slice (some ⟨g, q, none⟩) L.length cap) (u : Value) : CA B gx v5 L (i + 1) (X.setCell ⟨g, q + i * 2 + 1, none⟩ u) := by
  subst hq
  intro j x hi hj
  obtain ⟨g', q, cap', cur, h0, h1, h2, h3, h4, h5, h6⟩ := h j x (by omega) hj
  subst h0
  obtain rfl : g = g' := by
    rw [hg] at h1
    injection h1 with h1
    injection h1 with h1
    injection h1
  refine ⟨g, 0, cap', cur.setIfInBounds (0 + i * 2 + 1) u, rfl, h1, h2, h3, heap_setCell_same X g _ _ _ _ h4, by simpa using h5, ?_⟩
  rw [Array.getElem?_setIfInBounds_ne (by omega)]
  exact h6
structure We (w : World) (hi gk : Nat) (o : Ob) (ro rk : Array Value) (W : World) : Prop where
  ob : Own W w.heap.size 29 ro
  kx : Own W gk 29 rk
  kp : ObKp hi o (.agg rk) W
  gw : w.heap.size < W.heap.size
  bel : Below w.heap.size w W
theorem We.stays {w W W' : World} {hi gk : Nat} {o : Ob} {ro rk : Array Value} (h : We w hi gk o ro rk W) {B : Nat} (hB : B = W.heap.size) (hb : Below B W W') : We w hi gk o ro rk W' := by
  subst hB
  exact ⟨h.ob.below hb, h.kx.below hb, h.kp.stays fun b _ hl => hb.block b hl, Nat.lt_of_lt_of_le h.gw hb.size, h.bel.trans (hb.mono h.bel.size)⟩
theorem we_new {w WL X : World} {B gx hi gk : Nat} {o : Ob} {ro : Array Value} {v1 v5 : Value} {L : List (Cor × Value)} {rk : Array Value} (h : Wl w B gx hi gk o ro v1 v5 L rk WL) (hc : Chg B gx S3 WL X) (u : Value) : We w hi gk o ro rk (X.setCell ⟨gx, 0, none⟩ u) := by
  have hs : ∀ k, k < WL.heap.size → (k < B ∨ hi ≤ k) → (X.setCell ⟨gx, 0, none⟩ u).heap[k]? = WL.heap[k]? := fun k hk hq => by
    have h1 := h.Bx
    have h2 := h.xh
    rw [Below.heap_setCell X ⟨gx, 0, none⟩ u k (by show k ≠ gx; omega)]
    exact hc.same k hk fun p q => absurd q (by omega)
  have hwB := h.wB
  have hhk := h.hk
  have hkW := h.kW
  have hbe := h.bel
  have hsz : (X.setCell ⟨gx, 0, none⟩ u).heap.size = X.heap.size := by simp
  refine ⟨(hs _ (by have := h.ob.lt; omega) (.inl hwB)).trans h.ob, (hs _ hkW (.inr hhk)).trans h.kx, h.kp.stays fun b hb hl => hs b hl (.inr hb), ?_, ?_⟩
  · rw [hsz]
    have := hc.size
    have := h.ob.lt
    omega
  · exact hbe.trans ⟨hc.os, hc.tape, hc.output, by rw [hsz]; exact hc.size, fun k hk => hs k (by have := hbe.size; omega) (.inl (by omega))⟩
/-- What the second parse gives. -/
structure Wy (w : World) (hi gk gy : Nat) (o : Ob) (ro rk ry : Array Value) (W : World) : Prop where
  we : We w hi gk o ro rk W
  yx : Own W gy 29 ry
  ya : obA W o (.agg ry)
theorem Wy.stays {w W W' : World} {hi gk gy : Nat} {o : Ob} {ro rk ry : Array Value} (h : Wy w hi gk gy o ro rk ry W) {B : Nat} (hB : B = W.heap.size) (hb : Below B W W') : Wy w hi gk gy o ro rk ry W' := by
  subst hB
  exact ⟨h.we.stays rfl hb, h.yx.below hb, obA_below h.ya hb⟩
theorem wy_new {w w8 : World} {W : World} {hi gk : Nat} {o : Ob} {ro rk : Array Value} {v1 v5 : Value} {L : List (Cor × Value)} (h : We w hi gk o ro rk W) (hb : Below W.heap.size W w8) (hrd : RdV W.heap.size o v1 v5 L w8) : Wy w hi gk w8.heap.size o ro rk #[v1, .int .i64 o.sh, .int .i64 o.lk, .int .i64 o.bf, v5] ((w8.alloc (.cells #[.slice none 0 0, .int .i64 0, .int .i64 0, .int .i64 0, .slice none 0 0] 29)).setRow w8.heap.size #[v1, .int .i64 o.sh, .int .i64 o.lk, .int .i64 o.bf, v5]) := by
  have al := (Below.refl _ w8).alloc (Nat.le_refl _) (.cells #[.slice none 0 0, .int .i64 0, .int .i64 0, .int .i64 0, .slice none 0 0] 29)
  have O8 := Own.new w8 29 #[.slice none 0 0, .int .i64 0, .int .i64 0, .int .i64 0, .slice none 0 0]
  have b8 : Below w8.heap.size w8 ((w8.alloc (.cells #[.slice none 0 0, .int .i64 0, .int .i64 0, .int .i64 0, .slice none 0 0] 29)).setRow w8.heap.size #[v1, .int .i64 o.sh, .int .i64 o.lk, .int .i64 o.bf, v5]) := Below.of_row al (Nat.le_refl _) _
  exact ⟨(h.stays rfl hb).stays rfl b8, O8.row _, obA_below hrd.obA b8⟩
theorem row_bnews {W : World} {base : Nat} {a : Option Addr} {c n : Nat} {l : List Value} (hl : l.length = n) (h : W.ownsRow base 5 1 (.slice a n c) n l) : (a = none ∧ n = 0) ∨ ∃ d, a = some d ∧ ∀ j u, l[j]? = some u → W.cell? (d.add j) = some u := by
  rcases h.2 with ⟨h1, h2⟩ | ⟨g, cap, cur, h1, h2, h3, h4, h5, h6, h7⟩
  · injection h1 with e1 e2 e3
    exact .inl ⟨e1, h2⟩
  · have h1' := h1
    injection h1' with e1 e2 e3
    subst e1
    exact .inr ⟨_, rfl, h.cells (g := g) rfl⟩
def SU (t : TypeId) : Bool := t == 5
set_option maxHeartbeats 1000000 in
theorem run_bs2 {o : Oper} {a : Act} {w : World} {x y : Operand} (ho : o.op = .buildSlice 62 2 #[(0, x), (1, y)]) (hx : a.eval x = .agg #[.int .u8 0, .int .u8 0, .int .i64 0, .int .i64 0, .int .i64 0, .int .i64 0, .int .i64 0, .int .i64 0, .int .i64 0]) (hy : a.eval y = .agg #[.int .u8 0, .int .u8 0, .int .i64 0, .int .i64 0, .int .i64 0, .int .i64 0, .int .i64 0, .int .i64 0, .int .i64 0]) : (execOp a.eval o).run Tryz.prog w = .ok (.value (.slice (some ⟨w.heap.size, 0, none⟩) 2 2)) (w.alloc (.cells #[.int .u8 0, .int .u8 0, .int .i64 0, .int .i64 0, .int .i64 0, .int .i64 0, .int .i64 0, .int .i64 0, .int .i64 0, .int .u8 0, .int .u8 0, .int .i64 0, .int .i64 0, .int .i64 0, .int .i64 0, .int .i64 0, .int .i64 0, .int .i64 0] 25)) := by
  unfold execOp
  simp [ho, hx, hy]
  go_simp
set_option maxHeartbeats 16000000 in
theorem own_walk (s : ByteArray) (o : Ob) (hg : rgO o) (hf : fitO o) {v : Value} {w : World} (hv : obA w o v) (T : TgT w) (P : PwT w) : Calls Tryz.prog 11 #[.string s, v] w fun e w' => e = .returned (.bool true) ∧ Below w.heap.size w w' := by
  have HTT : Hid (∀ X, Below w.heap.size w X → TgT X ∧ PwT X) := fun X h => ⟨T.below h, P.below h⟩
  have HBG : Hid (∀ X, Below w.heap.size w X → Calls Tryz.prog 18 #[] X fun e w' => e = .returned (.bool true) ∧ Below X.heap.size X w') := fun X h => begins_any X (HTT.out X h).1 (HTT.out X h).2
  have HPA : Hid (∀ X, Below w.heap.size w X → Calls Tryz.prog 38 #[.string s] X (ParP X (parO s))) := fun X h => t_Parse s X (HTT.out X h).1
  have HEN : Hid (∀ X, Below w.heap.size w X → Calls Tryz.prog 32 #[v] X (EncP o X)) := fun X h => encode_any o hg hf (obA_below hv h) (HTT.out X h).1
  generalize parO s = pr at HPA
  obtain ⟨o1, why, at1⟩ := pr
  obtain ⟨a1, c1, a5, c5, rfl, _, _⟩ := hv
  obtain ⟨n1, hn1⟩ : ∃ n, n = o.mem.length := ⟨_, rfl⟩
  obtain ⟨n5, hn5⟩ : ∃ n, n = o.cores.length := ⟨_, rfl⟩
  simp only [obV] at HEN ⊢
  rw [← hn1, ← hn5] at HEN ⊢
  obtain ⟨enc, hec⟩ : ∃ l, l = encR o := ⟨_, rfl⟩
  obtain ⟨er, her⟩ : ∃ l, l = (chkO o).1 := ⟨_, rfl⟩
  replace HEN : Hid (∀ X, Below w.heap.size w X → Calls Tryz.prog 32 #[.agg #[.slice a1 n1 c1, .int .i64 o.sh, .int .i64 o.lk, .int .i64 o.bf, .slice a5 n5 c5]] X fun e w' => ∃ a c, e = .returned (.tuple #[.slice a enc.length c, .int .i64 er]) ∧ Below X.heap.size X w' ∧ w'.ownsRow X.heap.size 5 1 (.slice a enc.length c) enc.length (Lib.byteCells enc)) := by
    rw [hec, her]
    exact HEN.out
  have HEL : Hid (enc.length ≤ 200000000) := by
    rw [hec]
    exact enc_len o hg
  obtain ⟨sh, hsh⟩ : ∃ n, n = o.sh := ⟨_, rfl⟩
  obtain ⟨lk, hlk⟩ : ∃ n, n = o.lk := ⟨_, rfl⟩
  obtain ⟨bf, hbf⟩ : ∃ n, n = o.bf := ⟨_, rfl⟩
  rw [← hsh, ← hlk, ← hbf] at HEN ⊢
  have O0 := Own.new w 29 #[.slice a1 n1 c1, .int .i64 sh, .int .i64 lk, .int .i64 bf, .slice a5 n5 c5]
  have B0 := (Below.refl _ w).alloc (Nat.le_refl _) (.cells #[.slice a1 n1 c1, .int .i64 sh, .int .i64 lk, .int .i64 bf, .slice a5 n5 c5] 29)
  obtain ⟨W0, hW0⟩ : ∃ W, W = w.alloc (.cells #[.slice a1 n1 c1, .int .i64 sh, .int .i64 lk, .int .i64 bf, .slice a5 n5 c5] 29) := ⟨_, rfl⟩
  rw [← hW0] at O0 B0
  have HW0 := Lib.hid hW0
  have HO0 := Lib.hid O0
  have HB0 := Lib.hid B0
  clear hn1 hn5 hsh hlk hbf O0 B0 hW0 T P hg hf hec her
  go_enter Tryz.func11, Tryz.ntmps11
  go_upto_region 1 with fail
  rw [← HW0.out]
  clear HW0
  go_upto_region 3 with (go_at_call 18; refine (HBG.out _ HB0.out).mono ?_; rintro e w1 ⟨rfl, hb⟩; have HO1 := Lib.hid (HO0.out.below hb); have HB1 := Lib.hid (HB0.out.trans (hb.mono HB0.out.size)); clear hb)
  clear HO0 HB0 HBG
  go_upto_region 4 with (first | (go_at_call 38
                                  refine (HPA.out _ HB1.out).mono ?_
                                  rintro e w2 ⟨vx, rfl, ⟨v1, v5, L, rfl, hrd⟩, hft, hb2⟩
                                  simp only at hrd hft hb2
                                  have hrz := hrd
                                  obtain ⟨b1, d1, rfl⟩ := row_slice hrz.mem
                                  obtain ⟨b5, d5, rfl⟩ := row_slice hrz.cors
                                  clear hrz
                                  have HR2 := Lib.hid hrd
                                  have HF2 := Lib.hid hft
                                  have HB2 := Lib.hid hb2
                                  have O3 := Own.new w2 29 #[.slice none 0 0, .int .i64 0, .int .i64 0, .int .i64 0, .slice none 0 0]
                                  clear hrd hft hb2) | (refine st rowO rfl rfl O3 rfl rfl (by rfl) (by rfl) (by kernel_rfl) ?_))
  obtain ⟨WA, hWA⟩ : ∃ W, W = (w2.alloc (.cells #[.slice none 0 0, .int .i64 0, .int .i64 0, .int .i64 0, .slice none 0 0] 29)).setRow w2.heap.size #[.slice b1 o1.mem.length d1, .int .i64 o1.sh, .int .i64 o1.lk, .int .i64 o1.bf, .slice b5 L.length d5] := ⟨_, rfl⟩
  rw [← hWA]
  have OA : Own WA w2.heap.size 29 #[.slice b1 o1.mem.length d1, .int .i64 o1.sh, .int .i64 o1.lk, .int .i64 o1.bf, .slice b5 L.length d5] := by rw [hWA]; exact O3.row _
  have bA : Below w2.heap.size w2 WA := by rw [hWA]; exact Below.of_row ((Below.refl _ w2).alloc (Nat.le_refl _) _) (Nat.le_refl _) _
  have HCP : Hid (Calls Tryz.prog 14 #[.agg #[.slice b1 o1.mem.length d1, .int .i64 o1.sh, .int .i64 o1.lk, .int .i64 o1.bf, .slice b5 L.length d5]] WA fun e w' => ∃ v', e = .returned v' ∧ ObKp WA.heap.size o1 v' w' ∧ Below WA.heap.size WA w') := rcopy_own o1 HF2.out.w (HR2.out.below bA).obA
  have HWA := Lib.hid hWA
  clear O3 bA hWA
  go_upto_region 5 with (first | (go_at_call 14
                                  refine HCP.out.mono ?_
                                  rintro e w4 ⟨vk, rfl, hkp, hb4⟩
                                  have hkz := hkp
                                  obtain ⟨vk1, vk5, Lk, rfl, hk1, hk5⟩ := hkz
                                  obtain ⟨bk1, dk1, rfl⟩ := row_slice hk1
                                  obtain ⟨bk5, dk5, rfl⟩ := row_slice hk5.cors
                                  clear hk1 hk5
                                  have HWL := Lib.hid (wl_new HO1.out HB1.out HB2.out HR2.out HF2.out HWA.out hkp hb4)
                                  have O5 := Own.new w4 29 #[.slice none 0 0, .int .i64 0, .int .i64 0, .int .i64 0, .slice none 0 0]
                                  clear hkp hb4) | (refine ld rowO rfl rfl rfl OA rfl ?_) | (refine st rowO rfl rfl O5 rfl rfl (by rfl) (by rfl) (by kernel_rfl) ?_))
  clear OA HCP O5 HR2 HF2 HO1 HB1 HB2 HWA
  obtain ⟨WL, hWL⟩ : ∃ W, W = (w4.alloc (.cells #[.slice none 0 0, .int .i64 0, .int .i64 0, .int .i64 0, .slice none 0 0] 29)).setRow w4.heap.size #[.slice bk1 o1.mem.length dk1, .int .i64 o1.sh, .int .i64 o1.lk, .int .i64 o1.bf, .slice bk5 Lk.length dk5] := ⟨_, rfl⟩
  rw [← hWL] at HWL ⊢
  clear hWL
  generalize w1.heap.size = B at HWL
  generalize w2.heap.size = gx at HWL ⊢
  generalize WA.heap.size = hi at HWL
  generalize w4.heap.size = gk at HWL ⊢
  obtain ⟨m1, hm1⟩ : ∃ n, n = o1.mem.length := ⟨_, rfl⟩
  obtain ⟨m5, hm5⟩ : ∃ n, n = L.length := ⟨_, rfl⟩
  have HM1 := Lib.hid hm1
  have HM5 := Lib.hid hm5
  have HF1 : Hid (m1 ≤ 4097) := by rw [hm1]; exact HWL.out.ft.mem
  have HF5 : Hid (m5 ≤ 9) := by
    have h1 := HWL.out.ft.cors
    have h2 := congrArg List.length HWL.out.rd.fst
    rw [List.length_map] at h2
    rw [hm5]
    show L.length ≤ 9
    omega
  clear hm1 hm5
  go_wp2_with (fail)
  go_loopg [9] (m1 + 1) (fun m' y X => ∃ t : Nat, y = .int .i64 (t : Int) ∧ t ≤ m1 ∧ m' = m1 - t + 1 ∧ Chg B gx S1 WL X)
  case atStart => exact ⟨0, rfl, Nat.zero_le _, by omega, Chg.refl _ _ _ _⟩
  case round =>
    obtain ⟨t, rfl, ht, hm, hc⟩ := hrel
    have HM := Lib.hid hm
    have HC := Lib.hid hc
    have O1 := own_unchg HWL.out.bx hc rfl
    clear hm hc
    by_cases htn : t < m1
    · obtain ⟨xs, hr⟩ := row_chg HWL.out.rd.mem HC.out
      obtain ⟨g, cap, cur, e, hB, hl, hO, hz⟩ := row_own hr (by rw [← HM1.out]; omega)
      injection e with e1 e2 e3
      subst e1 e3
      have hgx := HWL.out.lt1 g rfl
      have htc : t < cur.size := by have := HM1.out; omega
      have p0 : wr.cell? ⟨gx, 0, none⟩ = some (.slice (some ⟨g, 0, none⟩) o1.mem.length d1) := row_cellsO O1 0 _ rfl
      obtain ⟨u1, hu1⟩ : ∃ u, cur[t]? = some u := ⟨_, Array.getElem?_eq_getElem htc⟩
      have p1 : wr.cell? ⟨g, t, none⟩ = some u1 := by rw [cell_of_row _ _ t _ _ _ hO]; exact hu1
      have q1 : wr.frozen? ⟨g, t, none⟩ = false := own_frozen hO t
      have HN := Lib.hid (HC.out.trans (Chg.setCell hO hB hgx rfl t (.int .i64 (-1))))
      have htm : (t : Int) < (o1.mem.length : Int) := by have := HM1.out; omega
      clear O1 hr hO hB hl hz hgx e2 htc hu1
      go_wp2_with (fail)
      go_roundg (m1 - (t + 1) + 1)
      case measure => have := HM.out; omega
      case rel => exact ⟨t + 1, by (have := HF1.out; first | (simp; done) | (simp; unfold wrap64; omega)), by omega, by omega, HN.out⟩
    · obtain rfl : t = m1 := by omega
      have HC2 := Lib.hid (HC.out.mono (Nat.le_refl _) (Nat.le_refl _) s1_3)
      have HA2 := Lib.hid ((ca_new (B := B) (gx := gx) HWL.out.rd.cors HWL.out.lt5).same HC.out rfl)
      have p0 : wr.cell? ⟨gx, 0, none⟩ = some (.slice b1 o1.mem.length d1) := row_cellsO O1 0 _ rfl
      have htm : ¬ (t : Int) < (o1.mem.length : Int) := by have := HM1.out; omega
      clear O1 HC HM htn
      go_wp2_with (fail)
      clear p0 htm
      go_loopg [10] (m5 + 1) (fun m' y X => ∃ i : Nat, y = .int .i64 (i : Int) ∧ i ≤ m5 ∧ m' = m5 - i + 1 ∧ Chg B gx S3 WL X ∧ CA B gx (.slice b5 L.length d5) L i X)
      case atStart => exact ⟨0, rfl, Nat.zero_le _, by omega, HC2.out, HA2.out⟩
      case round =>
        clear HC2 HA2
        obtain ⟨i, rfl, hil, hm, hc, ha⟩ := hrel
        have HM := Lib.hid hm
        have HC := Lib.hid hc
        have HA := Lib.hid ha
        have O1 := own_unchg HWL.out.bx hc rfl
        have HO1 := Lib.hid O1
        have p4 : wr.cell? ⟨gx, 4, none⟩ = some (.slice b5 L.length d5) := row_cellsO O1 4 _ rfl
        clear hm hc ha O1
        by_cases hin : i < m5
        · have il : i < L.length := by have := HM5.out; omega
          obtain ⟨x, hx⟩ : ∃ x, L[i]? = some x := ⟨_, List.getElem?_eq_getElem il⟩
          obtain ⟨g, q, cap, cur, hq, e, hB, hgx, hO, hz, hu⟩ := HA.out i x (Nat.le_refl _) hx
          injection e with e1 e2 e3
          subst e1 e3
          have hxm := List.mem_of_getElem? hx
          have hrw := HWL.out.rd.codes.rows x hxm
          have hlc := HWL.out.ltc x hxm
          have hfc : x.1.code.length ≤ 16385 := HWL.out.ft.code x.1 (by rw [← HWL.out.rd.fst]; exact List.mem_map_of_mem hxm)
          clear hx hxm
          obtain ⟨⟨nm, cd⟩, vc⟩ := x
          simp only at hrw hlc hu hfc
          obtain ⟨ac, cc, rfl⟩ := row_slice hrw
          have p5 : wr.cell? ⟨g, q + i * 2 + 1, none⟩ = some (.slice ac cd.length cc) := by rw [cell_of_row _ _ _ _ _ _ hO]; exact hu
          have hii : (i : Int) < (L.length : Int) := by omega
          have HRW := Lib.hid hrw
          have HLC := Lib.hid hlc
          have HFC := Lib.hid hfc
          have HO := Lib.hid hO
          have HU := Lib.hid hu
          have HQ := Lib.hid (And.intro hq (And.intro hB (And.intro hgx hz)))
          clear hrw hlc hfc hO hu hq hB hgx hz e2 il
          obtain ⟨nc, hnc⟩ : ∃ n, n = cd.length := ⟨_, rfl⟩
          have HNC := Lib.hid hnc
          clear hnc
          go_wp2_with (fail)
          go_loopg [11] (nc + 1) (fun m' y X => ∃ k : Nat, y = .int .i64 (k : Int) ∧ k ≤ nc ∧ m' = nc - k + 1 ∧ Chg B gx SI wr X)
          case atStart => exact ⟨0, rfl, Nat.zero_le _, by omega, Chg.refl _ _ _ _⟩
          case round =>
            obtain ⟨k, rfl, hk, hmk, hck⟩ := hrel
            have HK := Lib.hid hmk
            have HCK := Lib.hid hck
            clear p4 p5
            have p6 : wr.cell? ⟨gx, 4, none⟩ = some (.slice (some ⟨g, q, none⟩) L.length d5) := row_cellsO (own_unchg HO1.out hck rfl) 4 _ rfl
            have p7 : wr.cell? ⟨g, q + i * 2 + 1, none⟩ = some (.slice ac cd.length cc) := by rw [cell_of_row _ _ _ _ _ _ (own_unchg HO.out hck rfl)]; exact HU.out
            have HCW := Lib.hid (HC.out.trans (hck.mono (Nat.le_refl _) (Nat.le_refl _) si_3))
            clear hmk hck
            by_cases hkn : k < nc
            · obtain ⟨ys, hr⟩ := row_chg HRW.out HCW.out
              obtain ⟨g2, q2, cap2, cur2, hq2, e, hB2, hl2, hO3, hz2⟩ := row_ownq hr (by rw [← HNC.out]; omega)
              injection e with e1 e2 e3
              subst e1 e3
              have hgx2 := HLC.out g2 rfl
              have hth : wr.there g2 (q2 + k * 9) (#[.int .u8 0, .int .u8 0, .int .i64 0, .int .i64 0, .int .i64 0, .int .i64 0, .int .i64 0, .int .i64 0, .int .i64 0] : Array Value).size := own_there hO3 _ 9 (by have := HNC.out; omega)
              have hkc : (k : Int) < (cd.length : Int) := by have := HNC.out; omega
              have HN := Lib.hid (HCK.out.trans (Chg.setCells hB2 hgx2 rfl [.int .u8 0, .int .u8 0, .int .i64 0, .int .i64 0, .int .i64 0, .int .i64 0, .int .i64 0, .int .i64 0, .int .i64 0] (q2 + k * 9) _ _ hO3))
              have hsz : (Tryz.prog.info? 25).map (·.size) = some (#[.int .u8 0, .int .u8 0, .int .i64 0, .int .i64 0, .int .i64 0, .int .i64 0, .int .i64 0, .int .i64 0, .int .i64 0] : Array Value).size := by kernel_rfl
              have hone : (#[.int .u8 0, .int .u8 0, .int .i64 0, .int .i64 0, .int .i64 0, .int .i64 0, .int .i64 0, .int .i64 0, .int .i64 0] : Array Value).all (·.oneCell') = true := by kernel_rfl
              clear hr hB2 hl2 hO3 hz2 hgx2 e2 hq2
              go_wp2_with (refine wpList_store_mid rfl 25 (.tmp 68) (.tmp 67) rfl g2 (q2 + k * 9) #[.int .u8 0, .int .u8 0, .int .i64 0, .int .i64 0, .int .i64 0, .int .i64 0, .int .i64 0, .int .i64 0, .int .i64 0] (by kernel_rfl) (by kernel_rfl) ?_ hsz hone ?_; exact hth)
              go_roundg (nc - (k + 1) + 1)
              case measure => have := HK.out; omega
              case rel => exact ⟨k + 1, by (have := HFC.out; have := HNC.out; first | (simp; done) | (simp; unfold wrap64; omega)), by omega, by omega, HN.out⟩
            · obtain rfl : k = nc := by omega
              have hkc : ¬ (k : Int) < (cd.length : Int) := by have := HNC.out; omega
              go_upto_region 16 with (fail)
              clear p6 p7 hkc hkn hk HK
              have HSV : Hid (∀ V, Chg B gx SI wr V → V.cell? ⟨gx, 4, none⟩ = some (.slice (some ⟨g, q, none⟩) L.length d5) ∧ Own V g 64 cur) := fun V hV => ⟨row_cellsO (own_unchg HO1.out (HCK.out.trans hV) rfl) 4 _ rfl, own_unchg HO.out (HCK.out.trans hV) rfl⟩
              have HCD := Lib.hid (Chg.ofBelow (lo := B) (hi := gx) (S := SI) (below_drewN (Below.refl _ wr) 1))
              refine wp_region_held (S := fun V => V.cell? ⟨gx, 4, none⟩ = some (.slice (some ⟨g, q, none⟩) L.length d5)) (by kernel_rfl) ?_
              change wpAnyH _ _ _ _ _ _ _ _ wr.drew
              change Hid (Chg _ _ _ _ wr.drew) at HCD
              obtain ⟨W3, hW3⟩ : ∃ W, W = wr.drew := ⟨_, rfl⟩
              have hsd : W3.heap.size = wr.heap.size := by rw [hW3]; rfl
              rw [← hW3] at HCD ⊢
              clear hW3
              have HSX := Lib.hid (HSV.out _ HCD.out).1
              have d8 : W3.cell? ⟨g, q + i * 2 + 1, none⟩ = some (.slice ac cd.length cc) := by rw [cell_of_row _ _ _ _ _ _ (HSV.out _ HCD.out).2]; exact HU.out
              have hc4 : Chg B gx SI wr (W3.alloc (.cells #[.int .u8 0, .int .u8 0, .int .i64 0, .int .i64 0, .int .i64 0, .int .i64 0, .int .i64 0, .int .i64 0, .int .i64 0, .int .u8 0, .int .u8 0, .int .i64 0, .int .i64 0, .int .i64 0, .int .i64 0, .int .i64 0, .int .i64 0, .int .i64 0] 25)) := HCD.out.trans (Chg.ofBelow ((Below.refl _ W3).alloc (Nat.le_refl _) _))
              have HS4 := Lib.hid (HSV.out _ hc4).1
              have d9 : (W3.alloc (.cells #[.int .u8 0, .int .u8 0, .int .i64 0, .int .i64 0, .int .i64 0, .int .i64 0, .int .i64 0, .int .i64 0, .int .i64 0, .int .u8 0, .int .u8 0, .int .i64 0, .int .i64 0, .int .i64 0, .int .i64 0, .int .i64 0, .int .i64 0, .int .i64 0] 25)).cell? ⟨g, q + i * 2 + 1, none⟩ = some (.slice ac cd.length cc) := by rw [cell_of_row _ _ _ _ _ _ (HSV.out _ hc4).2]; exact HU.out
              obtain ⟨ys, hys⟩ := row_chg HRW.out (HC.out.trans ((HCK.out.trans hc4).mono (Nat.le_refl _) (Nat.le_refl _) si_3))
              have hnw : ∀ j u, ([.int .u8 0, .int .u8 0, .int .i64 0, .int .i64 0, .int .i64 0, .int .i64 0, .int .i64 0, .int .i64 0, .int .i64 0, .int .u8 0, .int .u8 0, .int .i64 0, .int .i64 0, .int .i64 0, .int .i64 0, .int .i64 0, .int .i64 0, .int .i64 0] : List Value)[j]? = some u → (W3.alloc (.cells #[.int .u8 0, .int .u8 0, .int .i64 0, .int .i64 0, .int .i64 0, .int .i64 0, .int .i64 0, .int .i64 0, .int .i64 0, .int .u8 0, .int .u8 0, .int .i64 0, .int .i64 0, .int .i64 0, .int .i64 0, .int .i64 0, .int .i64 0, .int .i64 0] 25)).cell? ((⟨W3.heap.size, 0, none⟩ : Addr).add j) = some u := fun j u hj => by
                rw [addr_add, Nat.zero_add]
                exact row_cellsO (Own.new W3 25 #[.int .u8 0, .int .u8 0, .int .i64 0, .int .i64 0, .int .i64 0, .int .i64 0, .int .i64 0, .int .i64 0, .int .i64 0, .int .u8 0, .int .u8 0, .int .i64 0, .int .i64 0, .int .i64 0, .int .i64 0, .int .i64 0, .int .i64 0, .int .i64 0]) j u (by simpa using hj)
              have hbs : B ≤ (W3.alloc (.cells #[.int .u8 0, .int .u8 0, .int .i64 0, .int .i64 0, .int .i64 0, .int .i64 0, .int .i64 0, .int .i64 0, .int .i64 0, .int .u8 0, .int .u8 0, .int .i64 0, .int .i64 0, .int .i64 0, .int .i64 0, .int .i64 0, .int .i64 0, .int .i64 0] 25)).heap.size := by
                rw [World.size_alloc]
                have := HC.out.size
                have := HCK.out.size
                have := HWL.out.Bx
                have := HWL.out.xh
                have := HWL.out.hk
                have := HWL.out.kW
                omega
              have hfc := HFC.out
              have HYS := Lib.hid hys
              have HNW := Lib.hid hnw
              have HC4 := Lib.hid hc4
              clear hys hnw hc4
              obtain ⟨i1, hi1, hy0, hy1, hy2⟩ := info_parts info_i
              change wpAnyH _ _ _ _ _ _ _ { tmps := List.toArray (_ :: _ :: _ :: _ :: _ :: _ :: _ :: _ :: _ :: _ :: _ :: _ :: _ :: _ :: _ :: _ :: _ :: _ :: _ :: _ :: _ :: _ :: _ :: _ :: _ :: _ :: _ :: _ :: _ :: _ :: _ :: _ :: _ :: _ :: _ :: _ :: _ :: _ :: _ :: _ :: _ :: _ :: _ :: _ :: _ :: _ :: _ :: _ :: _ :: _ :: _ :: _ :: _ :: _ :: _ :: _ :: _ :: _ :: _ :: _ :: _ :: _ :: _ :: _ :: _ :: _ :: _ :: _ :: _ :: _ :: _ :: _ :: _ :: _ :: _ :: _ :: _ :: _ :: _ :: _ :: _ :: _ :: _ :: _ :: _ :: _ :: _ :: _ :: _ :: _ :: _ :: _ :: _ :: _ :: _ :: _ :: _ :: _ :: _ :: _ :: _ :: _ :: _ :: _ :: _ :: _ :: _ :: _ :: _ :: _ :: _ :: _ :: _ :: _ :: _ :: _ :: _ :: _ :: _ :: _ :: _ :: _ :: _ :: _ :: _ :: _ :: _ :: _ :: _ :: _ :: _ :: _ :: _ :: _ :: _ :: []), defers := [] } _
              refine dr_take 0 (.pointer (some ⟨gx, 4, none⟩)) rfl rfl (by kernel_rfl) (by kernel_rfl) (by kernel_rfl) (fun _ _ _ h => h) (fun _ _ => by unfold execOp; go_simp) HSX.out ?_
              change wpAnyH _ _ _ _ _ _ _ { tmps := List.toArray (_ :: _ :: _ :: _ :: _ :: _ :: _ :: _ :: _ :: _ :: _ :: _ :: _ :: _ :: _ :: _ :: _ :: _ :: _ :: _ :: _ :: _ :: _ :: _ :: _ :: _ :: _ :: _ :: _ :: _ :: _ :: _ :: _ :: _ :: _ :: _ :: _ :: _ :: _ :: _ :: _ :: _ :: _ :: _ :: _ :: _ :: _ :: _ :: _ :: _ :: _ :: _ :: _ :: _ :: _ :: _ :: _ :: _ :: _ :: _ :: _ :: _ :: _ :: _ :: _ :: _ :: _ :: _ :: _ :: _ :: _ :: _ :: _ :: _ :: _ :: _ :: _ :: _ :: _ :: _ :: _ :: _ :: _ :: _ :: _ :: _ :: _ :: _ :: _ :: _ :: _ :: _ :: _ :: _ :: _ :: _ :: _ :: _ :: _ :: _ :: _ :: _ :: _ :: _ :: _ :: _ :: _ :: _ :: _ :: _ :: _ :: _ :: _ :: _ :: _ :: _ :: _ :: _ :: _ :: _ :: _ :: _ :: _ :: _ :: _ :: _ :: _ :: _ :: _ :: _ :: _ :: _ :: _ :: _ :: _ :: []), defers := [] } _
              refine dr_take 1 (.slice (some ⟨g, q, none⟩) L.length d5) rfl rfl (by kernel_rfl) (by kernel_rfl) (by kernel_rfl) (fun _ _ _ h => h) (fun _ h => by unfold execOp; go_simp) HSX.out ?_
              change wpAnyH _ _ _ _ _ _ _ { tmps := List.toArray (_ :: _ :: _ :: _ :: _ :: _ :: _ :: _ :: _ :: _ :: _ :: _ :: _ :: _ :: _ :: _ :: _ :: _ :: _ :: _ :: _ :: _ :: _ :: _ :: _ :: _ :: _ :: _ :: _ :: _ :: _ :: _ :: _ :: _ :: _ :: _ :: _ :: _ :: _ :: _ :: _ :: _ :: _ :: _ :: _ :: _ :: _ :: _ :: _ :: _ :: _ :: _ :: _ :: _ :: _ :: _ :: _ :: _ :: _ :: _ :: _ :: _ :: _ :: _ :: _ :: _ :: _ :: _ :: _ :: _ :: _ :: _ :: _ :: _ :: _ :: _ :: _ :: _ :: _ :: _ :: _ :: _ :: _ :: _ :: _ :: _ :: _ :: _ :: _ :: _ :: _ :: _ :: _ :: _ :: _ :: _ :: _ :: _ :: _ :: _ :: _ :: _ :: _ :: _ :: _ :: _ :: _ :: _ :: _ :: _ :: _ :: _ :: _ :: _ :: _ :: _ :: _ :: _ :: _ :: _ :: _ :: _ :: _ :: _ :: _ :: _ :: _ :: _ :: _ :: _ :: _ :: _ :: _ :: _ :: _ :: []), defers := [] } _
              refine dr_take 2 (.int .i64 (i : Int)) rfl rfl (by kernel_rfl) (by kernel_rfl) (by kernel_rfl) (fun _ _ _ h => h) (fun _ _ => by unfold execOp; go_simp) HSX.out ?_
              change wpAnyH _ _ _ _ _ _ _ { tmps := List.toArray (_ :: _ :: _ :: _ :: _ :: _ :: _ :: _ :: _ :: _ :: _ :: _ :: _ :: _ :: _ :: _ :: _ :: _ :: _ :: _ :: _ :: _ :: _ :: _ :: _ :: _ :: _ :: _ :: _ :: _ :: _ :: _ :: _ :: _ :: _ :: _ :: _ :: _ :: _ :: _ :: _ :: _ :: _ :: _ :: _ :: _ :: _ :: _ :: _ :: _ :: _ :: _ :: _ :: _ :: _ :: _ :: _ :: _ :: _ :: _ :: _ :: _ :: _ :: _ :: _ :: _ :: _ :: _ :: _ :: _ :: _ :: _ :: _ :: _ :: _ :: _ :: _ :: _ :: _ :: _ :: _ :: _ :: _ :: _ :: _ :: _ :: _ :: _ :: _ :: _ :: _ :: _ :: _ :: _ :: _ :: _ :: _ :: _ :: _ :: _ :: _ :: _ :: _ :: _ :: _ :: _ :: _ :: _ :: _ :: _ :: _ :: _ :: _ :: _ :: _ :: _ :: _ :: _ :: _ :: _ :: _ :: _ :: _ :: _ :: _ :: _ :: _ :: _ :: _ :: _ :: _ :: _ :: _ :: _ :: _ :: []), defers := [] } _
              refine dr_take 3 (.pointer (some ⟨gx, 4, none⟩)) rfl rfl (by kernel_rfl) (by kernel_rfl) (by kernel_rfl) (fun _ _ _ h => h) (fun _ _ => by unfold execOp; go_simp) HSX.out ?_
              change wpAnyH _ _ _ _ _ _ _ { tmps := List.toArray (_ :: _ :: _ :: _ :: _ :: _ :: _ :: _ :: _ :: _ :: _ :: _ :: _ :: _ :: _ :: _ :: _ :: _ :: _ :: _ :: _ :: _ :: _ :: _ :: _ :: _ :: _ :: _ :: _ :: _ :: _ :: _ :: _ :: _ :: _ :: _ :: _ :: _ :: _ :: _ :: _ :: _ :: _ :: _ :: _ :: _ :: _ :: _ :: _ :: _ :: _ :: _ :: _ :: _ :: _ :: _ :: _ :: _ :: _ :: _ :: _ :: _ :: _ :: _ :: _ :: _ :: _ :: _ :: _ :: _ :: _ :: _ :: _ :: _ :: _ :: _ :: _ :: _ :: _ :: _ :: _ :: _ :: _ :: _ :: _ :: _ :: _ :: _ :: _ :: _ :: _ :: _ :: _ :: _ :: _ :: _ :: _ :: _ :: _ :: _ :: _ :: _ :: _ :: _ :: _ :: _ :: _ :: _ :: _ :: _ :: _ :: _ :: _ :: _ :: _ :: _ :: _ :: _ :: _ :: _ :: _ :: _ :: _ :: _ :: _ :: _ :: _ :: _ :: _ :: _ :: _ :: _ :: _ :: _ :: _ :: []), defers := [] } _
              refine dr_take 4 (.slice (some ⟨g, q, none⟩) L.length d5) rfl rfl (by kernel_rfl) (by kernel_rfl) (by kernel_rfl) (fun _ _ _ h => h) (fun _ h => by unfold execOp; go_simp) HSX.out ?_
              change wpAnyH _ _ _ _ _ _ _ { tmps := List.toArray (_ :: _ :: _ :: _ :: _ :: _ :: _ :: _ :: _ :: _ :: _ :: _ :: _ :: _ :: _ :: _ :: _ :: _ :: _ :: _ :: _ :: _ :: _ :: _ :: _ :: _ :: _ :: _ :: _ :: _ :: _ :: _ :: _ :: _ :: _ :: _ :: _ :: _ :: _ :: _ :: _ :: _ :: _ :: _ :: _ :: _ :: _ :: _ :: _ :: _ :: _ :: _ :: _ :: _ :: _ :: _ :: _ :: _ :: _ :: _ :: _ :: _ :: _ :: _ :: _ :: _ :: _ :: _ :: _ :: _ :: _ :: _ :: _ :: _ :: _ :: _ :: _ :: _ :: _ :: _ :: _ :: _ :: _ :: _ :: _ :: _ :: _ :: _ :: _ :: _ :: _ :: _ :: _ :: _ :: _ :: _ :: _ :: _ :: _ :: _ :: _ :: _ :: _ :: _ :: _ :: _ :: _ :: _ :: _ :: _ :: _ :: _ :: _ :: _ :: _ :: _ :: _ :: _ :: _ :: _ :: _ :: _ :: _ :: _ :: _ :: _ :: _ :: _ :: _ :: _ :: _ :: _ :: _ :: _ :: _ :: []), defers := [] } _
              refine dr_take 5 (.int .i64 (i : Int)) rfl rfl (by kernel_rfl) (by kernel_rfl) (by kernel_rfl) (fun _ _ _ h => h) (fun _ _ => by unfold execOp; go_simp) HSX.out ?_
              change wpAnyH _ _ _ _ _ _ _ { tmps := List.toArray (_ :: _ :: _ :: _ :: _ :: _ :: _ :: _ :: _ :: _ :: _ :: _ :: _ :: _ :: _ :: _ :: _ :: _ :: _ :: _ :: _ :: _ :: _ :: _ :: _ :: _ :: _ :: _ :: _ :: _ :: _ :: _ :: _ :: _ :: _ :: _ :: _ :: _ :: _ :: _ :: _ :: _ :: _ :: _ :: _ :: _ :: _ :: _ :: _ :: _ :: _ :: _ :: _ :: _ :: _ :: _ :: _ :: _ :: _ :: _ :: _ :: _ :: _ :: _ :: _ :: _ :: _ :: _ :: _ :: _ :: _ :: _ :: _ :: _ :: _ :: _ :: _ :: _ :: _ :: _ :: _ :: _ :: _ :: _ :: _ :: _ :: _ :: _ :: _ :: _ :: _ :: _ :: _ :: _ :: _ :: _ :: _ :: _ :: _ :: _ :: _ :: _ :: _ :: _ :: _ :: _ :: _ :: _ :: _ :: _ :: _ :: _ :: _ :: _ :: _ :: _ :: _ :: _ :: _ :: _ :: _ :: _ :: _ :: _ :: _ :: _ :: _ :: _ :: _ :: _ :: _ :: _ :: _ :: _ :: _ :: []), defers := [] } _
              refine dr_take 6 (.pointer (some ⟨g, q + i * 2, none⟩)) rfl rfl (by kernel_rfl) (by kernel_rfl) (by kernel_rfl) (fun _ _ _ h => h) (fun _ _ => by unfold execOp; go_simp) HSX.out ?_
              change wpAnyH _ _ _ _ _ _ _ { tmps := List.toArray (_ :: _ :: _ :: _ :: _ :: _ :: _ :: _ :: _ :: _ :: _ :: _ :: _ :: _ :: _ :: _ :: _ :: _ :: _ :: _ :: _ :: _ :: _ :: _ :: _ :: _ :: _ :: _ :: _ :: _ :: _ :: _ :: _ :: _ :: _ :: _ :: _ :: _ :: _ :: _ :: _ :: _ :: _ :: _ :: _ :: _ :: _ :: _ :: _ :: _ :: _ :: _ :: _ :: _ :: _ :: _ :: _ :: _ :: _ :: _ :: _ :: _ :: _ :: _ :: _ :: _ :: _ :: _ :: _ :: _ :: _ :: _ :: _ :: _ :: _ :: _ :: _ :: _ :: _ :: _ :: _ :: _ :: _ :: _ :: _ :: _ :: _ :: _ :: _ :: _ :: _ :: _ :: _ :: _ :: _ :: _ :: _ :: _ :: _ :: _ :: _ :: _ :: _ :: _ :: _ :: _ :: _ :: _ :: _ :: _ :: _ :: _ :: _ :: _ :: _ :: _ :: _ :: _ :: _ :: _ :: _ :: _ :: _ :: _ :: _ :: _ :: _ :: _ :: _ :: _ :: _ :: _ :: _ :: _ :: _ :: []), defers := [] } _
              refine dr_take 7 (.pointer (some ⟨g, q + i * 2 + 1, none⟩)) rfl rfl (by kernel_rfl) (by kernel_rfl) (by kernel_rfl) (fun _ _ _ h => h) (fun _ _ => by unfold execOp; go_simp) HSX.out ?_
              change wpAnyH _ _ _ _ _ _ _ { tmps := List.toArray (_ :: _ :: _ :: _ :: _ :: _ :: _ :: _ :: _ :: _ :: _ :: _ :: _ :: _ :: _ :: _ :: _ :: _ :: _ :: _ :: _ :: _ :: _ :: _ :: _ :: _ :: _ :: _ :: _ :: _ :: _ :: _ :: _ :: _ :: _ :: _ :: _ :: _ :: _ :: _ :: _ :: _ :: _ :: _ :: _ :: _ :: _ :: _ :: _ :: _ :: _ :: _ :: _ :: _ :: _ :: _ :: _ :: _ :: _ :: _ :: _ :: _ :: _ :: _ :: _ :: _ :: _ :: _ :: _ :: _ :: _ :: _ :: _ :: _ :: _ :: _ :: _ :: _ :: _ :: _ :: _ :: _ :: _ :: _ :: _ :: _ :: _ :: _ :: _ :: _ :: _ :: _ :: _ :: _ :: _ :: _ :: _ :: _ :: _ :: _ :: _ :: _ :: _ :: _ :: _ :: _ :: _ :: _ :: _ :: _ :: _ :: _ :: _ :: _ :: _ :: _ :: _ :: _ :: _ :: _ :: _ :: _ :: _ :: _ :: _ :: _ :: _ :: _ :: _ :: _ :: _ :: _ :: _ :: _ :: _ :: []), defers := [] } _
              refine dr_take 9 (.agg #[.int .u8 0, .int .u8 0, .int .i64 0, .int .i64 0, .int .i64 0, .int .i64 0, .int .i64 0, .int .i64 0, .int .i64 0]) rfl rfl (by kernel_rfl) (by kernel_rfl) (by kernel_rfl) (fun _ _ _ h => h) (fun _ _ => by unfold execOp; go_simp) HSX.out ?_
              change wpAnyH _ _ _ _ _ _ _ { tmps := List.toArray (_ :: _ :: _ :: _ :: _ :: _ :: _ :: _ :: _ :: _ :: _ :: _ :: _ :: _ :: _ :: _ :: _ :: _ :: _ :: _ :: _ :: _ :: _ :: _ :: _ :: _ :: _ :: _ :: _ :: _ :: _ :: _ :: _ :: _ :: _ :: _ :: _ :: _ :: _ :: _ :: _ :: _ :: _ :: _ :: _ :: _ :: _ :: _ :: _ :: _ :: _ :: _ :: _ :: _ :: _ :: _ :: _ :: _ :: _ :: _ :: _ :: _ :: _ :: _ :: _ :: _ :: _ :: _ :: _ :: _ :: _ :: _ :: _ :: _ :: _ :: _ :: _ :: _ :: _ :: _ :: _ :: _ :: _ :: _ :: _ :: _ :: _ :: _ :: _ :: _ :: _ :: _ :: _ :: _ :: _ :: _ :: _ :: _ :: _ :: _ :: _ :: _ :: _ :: _ :: _ :: _ :: _ :: _ :: _ :: _ :: _ :: _ :: _ :: _ :: _ :: _ :: _ :: _ :: _ :: _ :: _ :: _ :: _ :: _ :: _ :: _ :: _ :: _ :: _ :: _ :: _ :: _ :: _ :: _ :: _ :: []), defers := [] } _
              refine dr_take 10 (.agg #[.int .u8 0, .int .u8 0, .int .i64 0, .int .i64 0, .int .i64 0, .int .i64 0, .int .i64 0, .int .i64 0, .int .i64 0]) rfl rfl (by kernel_rfl) (by kernel_rfl) (by kernel_rfl) (fun _ _ _ h => h) (fun _ _ => by unfold execOp; go_simp) HSX.out ?_
              change wpAnyH _ _ _ _ _ _ _ { tmps := List.toArray (_ :: _ :: _ :: _ :: _ :: _ :: _ :: _ :: _ :: _ :: _ :: _ :: _ :: _ :: _ :: _ :: _ :: _ :: _ :: _ :: _ :: _ :: _ :: _ :: _ :: _ :: _ :: _ :: _ :: _ :: _ :: _ :: _ :: _ :: _ :: _ :: _ :: _ :: _ :: _ :: _ :: _ :: _ :: _ :: _ :: _ :: _ :: _ :: _ :: _ :: _ :: _ :: _ :: _ :: _ :: _ :: _ :: _ :: _ :: _ :: _ :: _ :: _ :: _ :: _ :: _ :: _ :: _ :: _ :: _ :: _ :: _ :: _ :: _ :: _ :: _ :: _ :: _ :: _ :: _ :: _ :: _ :: _ :: _ :: _ :: _ :: _ :: _ :: _ :: _ :: _ :: _ :: _ :: _ :: _ :: _ :: _ :: _ :: _ :: _ :: _ :: _ :: _ :: _ :: _ :: _ :: _ :: _ :: _ :: _ :: _ :: _ :: _ :: _ :: _ :: _ :: _ :: _ :: _ :: _ :: _ :: _ :: _ :: _ :: _ :: _ :: _ :: _ :: _ :: _ :: _ :: _ :: _ :: _ :: _ :: []), defers := [] } _
              refine dr_two 8 11 rfl rfl rfl rfl (by kernel_rfl) ?_ ?_
              · refine wp_ldJ rfl rfl d8 ⟨HSX.out, ?_⟩
                change wpAnyH _ _ _ _ _ _ _ { tmps := List.toArray (_ :: _ :: _ :: _ :: _ :: _ :: _ :: _ :: _ :: _ :: _ :: _ :: _ :: _ :: _ :: _ :: _ :: _ :: _ :: _ :: _ :: _ :: _ :: _ :: _ :: _ :: _ :: _ :: _ :: _ :: _ :: _ :: _ :: _ :: _ :: _ :: _ :: _ :: _ :: _ :: _ :: _ :: _ :: _ :: _ :: _ :: _ :: _ :: _ :: _ :: _ :: _ :: _ :: _ :: _ :: _ :: _ :: _ :: _ :: _ :: _ :: _ :: _ :: _ :: _ :: _ :: _ :: _ :: _ :: _ :: _ :: _ :: _ :: _ :: _ :: _ :: _ :: _ :: _ :: _ :: _ :: _ :: _ :: _ :: _ :: _ :: _ :: _ :: _ :: _ :: _ :: _ :: _ :: _ :: _ :: _ :: _ :: _ :: _ :: _ :: _ :: _ :: _ :: _ :: _ :: _ :: _ :: _ :: _ :: _ :: _ :: _ :: _ :: _ :: _ :: _ :: _ :: _ :: _ :: _ :: _ :: _ :: _ :: _ :: _ :: _ :: _ :: _ :: _ :: _ :: _ :: _ :: _ :: _ :: _ :: []), defers := [] } _
                refine dr_one 11 rfl rfl (by kernel_rfl) ?_
                refine wv_val (run_bs2 rfl rfl rfl) ⟨HS4.out, ?_⟩
                change wpAnyH _ _ _ _ _ _ _ { tmps := List.toArray (_ :: _ :: _ :: _ :: _ :: _ :: _ :: _ :: _ :: _ :: _ :: _ :: _ :: _ :: _ :: _ :: _ :: _ :: _ :: _ :: _ :: _ :: _ :: _ :: _ :: _ :: _ :: _ :: _ :: _ :: _ :: _ :: _ :: _ :: _ :: _ :: _ :: _ :: _ :: _ :: _ :: _ :: _ :: _ :: _ :: _ :: _ :: _ :: _ :: _ :: _ :: _ :: _ :: _ :: _ :: _ :: _ :: _ :: _ :: _ :: _ :: _ :: _ :: _ :: _ :: _ :: _ :: _ :: _ :: _ :: _ :: _ :: _ :: _ :: _ :: _ :: _ :: _ :: _ :: _ :: _ :: _ :: _ :: _ :: _ :: _ :: _ :: _ :: _ :: _ :: _ :: _ :: _ :: _ :: _ :: _ :: _ :: _ :: _ :: _ :: _ :: _ :: _ :: _ :: _ :: _ :: _ :: _ :: _ :: _ :: _ :: _ :: _ :: _ :: _ :: _ :: _ :: _ :: _ :: _ :: _ :: _ :: _ :: _ :: _ :: _ :: _ :: _ :: _ :: _ :: _ :: _ :: _ :: _ :: _ :: []), defers := [] } _
                refine dr_one 12 rfl rfl (by kernel_rfl) ?_
                refine wp_append_chg _ _ 62 rfl B 25 i1 _ 9 64 Tryz.underlying62 hi1 hy0 hy1 hy2 rfl (by decide) (.slice ac cd.length cc) cd.length ys rfl HYS.out (Nat.le_refl _) HLC.out (S := SI) rfl ⟨W3.heap.size, 0, none⟩ 2 2 [.int .u8 0, .int .u8 0, .int .i64 0, .int .i64 0, .int .i64 0, .int .i64 0, .int .i64 0, .int .i64 0, .int .i64 0, .int .u8 0, .int .u8 0, .int .i64 0, .int .i64 0, .int .i64 0, .int .i64 0, .int .i64 0, .int .i64 0, .int .i64 0] rfl rfl HNW.out (by simp [Value.oneCell']) (by simp only [maxLen]; omega) (by omega) hbs (by decide) ?_
                intro v7 W5 hr5 hc5
                obtain ⟨a7, c7, rfl⟩ := row_slice hr5
                have HC5 := Lib.hid (HC4.out.trans hc5)
                have O5 := (HSV.out _ HC5.out).2
                have HS5 := Lib.hid (HSV.out _ HC5.out).1
                have d10 : W5.cell? ⟨g, q + i * 2 + 1, none⟩ = some (.slice ac cd.length cc) := by rw [cell_of_row _ _ _ _ _ _ O5]; exact HU.out
                have f10 : W5.frozen? ⟨g, q + i * 2 + 1, none⟩ = false := own_frozen O5 _
                have hc6 : Chg B gx S3 WL (W5.setCell ⟨g, q + i * 2 + 1, none⟩ (.slice a7 (cd.length + 2) c7)) := (HC.out.trans ((HCK.out.trans HC5.out).mono (Nat.le_refl _) (Nat.le_refl _) si_3)).trans (Chg.setCell O5 HQ.out.2.1 HQ.out.2.2.1 rfl _ _)
                have HN := Lib.hid hc6
                have HAN := Lib.hid ((HA.out.same (HCK.out.trans HC5.out) rfl).set HQ.out.1 rfl (.slice a7 (cd.length + 2) c7))
                have HS6 : Hid ((W5.setCell ⟨g, q + i * 2 + 1, none⟩ (.slice a7 (cd.length + 2) c7)).cell? ⟨gx, 4, none⟩ = some (.slice (some ⟨g, q, none⟩) L.length d5)) := row_cellsO (own_unchg HWL.out.bx hc6 rfl) 4 _ rfl
                clear hr5 hc5 O5 hc6
                refine ⟨HS5.out, ?_⟩
                change wpAnyH _ _ _ _ _ _ _ { tmps := List.toArray (_ :: _ :: _ :: _ :: _ :: _ :: _ :: _ :: _ :: _ :: _ :: _ :: _ :: _ :: _ :: _ :: _ :: _ :: _ :: _ :: _ :: _ :: _ :: _ :: _ :: _ :: _ :: _ :: _ :: _ :: _ :: _ :: _ :: _ :: _ :: _ :: _ :: _ :: _ :: _ :: _ :: _ :: _ :: _ :: _ :: _ :: _ :: _ :: _ :: _ :: _ :: _ :: _ :: _ :: _ :: _ :: _ :: _ :: _ :: _ :: _ :: _ :: _ :: _ :: _ :: _ :: _ :: _ :: _ :: _ :: _ :: _ :: _ :: _ :: _ :: _ :: _ :: _ :: _ :: _ :: _ :: _ :: _ :: _ :: _ :: _ :: _ :: _ :: _ :: _ :: _ :: _ :: _ :: _ :: _ :: _ :: _ :: _ :: _ :: _ :: _ :: _ :: _ :: _ :: _ :: _ :: _ :: _ :: _ :: _ :: _ :: _ :: _ :: _ :: _ :: _ :: _ :: _ :: _ :: _ :: _ :: _ :: _ :: _ :: _ :: _ :: _ :: _ :: _ :: _ :: _ :: _ :: _ :: _ :: _ :: []), defers := [] } _
                refine dr_one 13 rfl rfl (by kernel_rfl) ?_
                refine wv_val (v := .pointer (some ⟨g, q + i * 2, none⟩)) (by unfold execOp; go_simp) ⟨HS5.out, ?_⟩
                change wpAnyH _ _ _ _ _ _ _ { tmps := List.toArray (_ :: _ :: _ :: _ :: _ :: _ :: _ :: _ :: _ :: _ :: _ :: _ :: _ :: _ :: _ :: _ :: _ :: _ :: _ :: _ :: _ :: _ :: _ :: _ :: _ :: _ :: _ :: _ :: _ :: _ :: _ :: _ :: _ :: _ :: _ :: _ :: _ :: _ :: _ :: _ :: _ :: _ :: _ :: _ :: _ :: _ :: _ :: _ :: _ :: _ :: _ :: _ :: _ :: _ :: _ :: _ :: _ :: _ :: _ :: _ :: _ :: _ :: _ :: _ :: _ :: _ :: _ :: _ :: _ :: _ :: _ :: _ :: _ :: _ :: _ :: _ :: _ :: _ :: _ :: _ :: _ :: _ :: _ :: _ :: _ :: _ :: _ :: _ :: _ :: _ :: _ :: _ :: _ :: _ :: _ :: _ :: _ :: _ :: _ :: _ :: _ :: _ :: _ :: _ :: _ :: _ :: _ :: _ :: _ :: _ :: _ :: _ :: _ :: _ :: _ :: _ :: _ :: _ :: _ :: _ :: _ :: _ :: _ :: _ :: _ :: _ :: _ :: _ :: _ :: _ :: _ :: _ :: _ :: _ :: _ :: []), defers := [] } _
                refine dr_one 14 rfl rfl (by kernel_rfl) ?_
                refine wv_val (v := .pointer (some ⟨g, q + i * 2 + 1, none⟩)) (by unfold execOp; go_simp) ⟨HS5.out, ?_⟩
                change wpAnyH _ _ _ _ _ _ _ { tmps := List.toArray (_ :: _ :: _ :: _ :: _ :: _ :: _ :: _ :: _ :: _ :: _ :: _ :: _ :: _ :: _ :: _ :: _ :: _ :: _ :: _ :: _ :: _ :: _ :: _ :: _ :: _ :: _ :: _ :: _ :: _ :: _ :: _ :: _ :: _ :: _ :: _ :: _ :: _ :: _ :: _ :: _ :: _ :: _ :: _ :: _ :: _ :: _ :: _ :: _ :: _ :: _ :: _ :: _ :: _ :: _ :: _ :: _ :: _ :: _ :: _ :: _ :: _ :: _ :: _ :: _ :: _ :: _ :: _ :: _ :: _ :: _ :: _ :: _ :: _ :: _ :: _ :: _ :: _ :: _ :: _ :: _ :: _ :: _ :: _ :: _ :: _ :: _ :: _ :: _ :: _ :: _ :: _ :: _ :: _ :: _ :: _ :: _ :: _ :: _ :: _ :: _ :: _ :: _ :: _ :: _ :: _ :: _ :: _ :: _ :: _ :: _ :: _ :: _ :: _ :: _ :: _ :: _ :: _ :: _ :: _ :: _ :: _ :: _ :: _ :: _ :: _ :: _ :: _ :: _ :: _ :: _ :: _ :: _ :: _ :: _ :: []), defers := [] } _
                refine dr_one 15 rfl rfl (by kernel_rfl) ?_
                refine wp_stJ rfl rfl rfl d10 f10 ⟨HS6.out, ?_⟩
                refine wpAnyH_done (by kernel_rfl) ?_ _
                clear HYS HNW HC4 HC5 HS5 HS6 d10 f10 d8 d9 hbs hfc HSV HCD HSX HS4
                go_wp2_with (fail)
                go_roundg (m5 - (i + 1) + 1)
                case measure => have := HM.out; omega
                case rel => exact ⟨i + 1, by (have := HF5.out; first | (simp; done) | (simp; unfold wrap64; omega)), by omega, by omega, HN.out, HAN.out⟩
              · refine wv_val (run_bs2 rfl rfl rfl) ⟨HS4.out, ?_⟩
                change wpAnyH _ _ _ _ _ _ _ { tmps := List.toArray (_ :: _ :: _ :: _ :: _ :: _ :: _ :: _ :: _ :: _ :: _ :: _ :: _ :: _ :: _ :: _ :: _ :: _ :: _ :: _ :: _ :: _ :: _ :: _ :: _ :: _ :: _ :: _ :: _ :: _ :: _ :: _ :: _ :: _ :: _ :: _ :: _ :: _ :: _ :: _ :: _ :: _ :: _ :: _ :: _ :: _ :: _ :: _ :: _ :: _ :: _ :: _ :: _ :: _ :: _ :: _ :: _ :: _ :: _ :: _ :: _ :: _ :: _ :: _ :: _ :: _ :: _ :: _ :: _ :: _ :: _ :: _ :: _ :: _ :: _ :: _ :: _ :: _ :: _ :: _ :: _ :: _ :: _ :: _ :: _ :: _ :: _ :: _ :: _ :: _ :: _ :: _ :: _ :: _ :: _ :: _ :: _ :: _ :: _ :: _ :: _ :: _ :: _ :: _ :: _ :: _ :: _ :: _ :: _ :: _ :: _ :: _ :: _ :: _ :: _ :: _ :: _ :: _ :: _ :: _ :: _ :: _ :: _ :: _ :: _ :: _ :: _ :: _ :: _ :: _ :: _ :: _ :: _ :: _ :: _ :: []), defers := [] } _
                refine dr_one 8 rfl rfl (by kernel_rfl) ?_
                refine wp_ldJ rfl rfl d9 ⟨HS4.out, ?_⟩
                change wpAnyH _ _ _ _ _ _ _ { tmps := List.toArray (_ :: _ :: _ :: _ :: _ :: _ :: _ :: _ :: _ :: _ :: _ :: _ :: _ :: _ :: _ :: _ :: _ :: _ :: _ :: _ :: _ :: _ :: _ :: _ :: _ :: _ :: _ :: _ :: _ :: _ :: _ :: _ :: _ :: _ :: _ :: _ :: _ :: _ :: _ :: _ :: _ :: _ :: _ :: _ :: _ :: _ :: _ :: _ :: _ :: _ :: _ :: _ :: _ :: _ :: _ :: _ :: _ :: _ :: _ :: _ :: _ :: _ :: _ :: _ :: _ :: _ :: _ :: _ :: _ :: _ :: _ :: _ :: _ :: _ :: _ :: _ :: _ :: _ :: _ :: _ :: _ :: _ :: _ :: _ :: _ :: _ :: _ :: _ :: _ :: _ :: _ :: _ :: _ :: _ :: _ :: _ :: _ :: _ :: _ :: _ :: _ :: _ :: _ :: _ :: _ :: _ :: _ :: _ :: _ :: _ :: _ :: _ :: _ :: _ :: _ :: _ :: _ :: _ :: _ :: _ :: _ :: _ :: _ :: _ :: _ :: _ :: _ :: _ :: _ :: _ :: _ :: _ :: _ :: _ :: _ :: []), defers := [] } _
                refine dr_one 12 rfl rfl (by kernel_rfl) ?_
                refine wp_append_chg _ _ 62 rfl B 25 i1 _ 9 64 Tryz.underlying62 hi1 hy0 hy1 hy2 rfl (by decide) (.slice ac cd.length cc) cd.length ys rfl HYS.out (Nat.le_refl _) HLC.out (S := SI) rfl ⟨W3.heap.size, 0, none⟩ 2 2 [.int .u8 0, .int .u8 0, .int .i64 0, .int .i64 0, .int .i64 0, .int .i64 0, .int .i64 0, .int .i64 0, .int .i64 0, .int .u8 0, .int .u8 0, .int .i64 0, .int .i64 0, .int .i64 0, .int .i64 0, .int .i64 0, .int .i64 0, .int .i64 0] rfl rfl HNW.out (by simp [Value.oneCell']) (by simp only [maxLen]; omega) (by omega) hbs (by decide) ?_
                intro v7 W5 hr5 hc5
                obtain ⟨a7, c7, rfl⟩ := row_slice hr5
                have HC5 := Lib.hid (HC4.out.trans hc5)
                have O5 := (HSV.out _ HC5.out).2
                have HS5 := Lib.hid (HSV.out _ HC5.out).1
                have d10 : W5.cell? ⟨g, q + i * 2 + 1, none⟩ = some (.slice ac cd.length cc) := by rw [cell_of_row _ _ _ _ _ _ O5]; exact HU.out
                have f10 : W5.frozen? ⟨g, q + i * 2 + 1, none⟩ = false := own_frozen O5 _
                have hc6 : Chg B gx S3 WL (W5.setCell ⟨g, q + i * 2 + 1, none⟩ (.slice a7 (cd.length + 2) c7)) := (HC.out.trans ((HCK.out.trans HC5.out).mono (Nat.le_refl _) (Nat.le_refl _) si_3)).trans (Chg.setCell O5 HQ.out.2.1 HQ.out.2.2.1 rfl _ _)
                have HN := Lib.hid hc6
                have HAN := Lib.hid ((HA.out.same (HCK.out.trans HC5.out) rfl).set HQ.out.1 rfl (.slice a7 (cd.length + 2) c7))
                have HS6 : Hid ((W5.setCell ⟨g, q + i * 2 + 1, none⟩ (.slice a7 (cd.length + 2) c7)).cell? ⟨gx, 4, none⟩ = some (.slice (some ⟨g, q, none⟩) L.length d5)) := row_cellsO (own_unchg HWL.out.bx hc6 rfl) 4 _ rfl
                clear hr5 hc5 O5 hc6
                refine ⟨HS5.out, ?_⟩
                change wpAnyH _ _ _ _ _ _ _ { tmps := List.toArray (_ :: _ :: _ :: _ :: _ :: _ :: _ :: _ :: _ :: _ :: _ :: _ :: _ :: _ :: _ :: _ :: _ :: _ :: _ :: _ :: _ :: _ :: _ :: _ :: _ :: _ :: _ :: _ :: _ :: _ :: _ :: _ :: _ :: _ :: _ :: _ :: _ :: _ :: _ :: _ :: _ :: _ :: _ :: _ :: _ :: _ :: _ :: _ :: _ :: _ :: _ :: _ :: _ :: _ :: _ :: _ :: _ :: _ :: _ :: _ :: _ :: _ :: _ :: _ :: _ :: _ :: _ :: _ :: _ :: _ :: _ :: _ :: _ :: _ :: _ :: _ :: _ :: _ :: _ :: _ :: _ :: _ :: _ :: _ :: _ :: _ :: _ :: _ :: _ :: _ :: _ :: _ :: _ :: _ :: _ :: _ :: _ :: _ :: _ :: _ :: _ :: _ :: _ :: _ :: _ :: _ :: _ :: _ :: _ :: _ :: _ :: _ :: _ :: _ :: _ :: _ :: _ :: _ :: _ :: _ :: _ :: _ :: _ :: _ :: _ :: _ :: _ :: _ :: _ :: _ :: _ :: _ :: _ :: _ :: _ :: []), defers := [] } _
                refine dr_one 13 rfl rfl (by kernel_rfl) ?_
                refine wv_val (v := .pointer (some ⟨g, q + i * 2, none⟩)) (by unfold execOp; go_simp) ⟨HS5.out, ?_⟩
                change wpAnyH _ _ _ _ _ _ _ { tmps := List.toArray (_ :: _ :: _ :: _ :: _ :: _ :: _ :: _ :: _ :: _ :: _ :: _ :: _ :: _ :: _ :: _ :: _ :: _ :: _ :: _ :: _ :: _ :: _ :: _ :: _ :: _ :: _ :: _ :: _ :: _ :: _ :: _ :: _ :: _ :: _ :: _ :: _ :: _ :: _ :: _ :: _ :: _ :: _ :: _ :: _ :: _ :: _ :: _ :: _ :: _ :: _ :: _ :: _ :: _ :: _ :: _ :: _ :: _ :: _ :: _ :: _ :: _ :: _ :: _ :: _ :: _ :: _ :: _ :: _ :: _ :: _ :: _ :: _ :: _ :: _ :: _ :: _ :: _ :: _ :: _ :: _ :: _ :: _ :: _ :: _ :: _ :: _ :: _ :: _ :: _ :: _ :: _ :: _ :: _ :: _ :: _ :: _ :: _ :: _ :: _ :: _ :: _ :: _ :: _ :: _ :: _ :: _ :: _ :: _ :: _ :: _ :: _ :: _ :: _ :: _ :: _ :: _ :: _ :: _ :: _ :: _ :: _ :: _ :: _ :: _ :: _ :: _ :: _ :: _ :: _ :: _ :: _ :: _ :: _ :: _ :: []), defers := [] } _
                refine dr_one 14 rfl rfl (by kernel_rfl) ?_
                refine wv_val (v := .pointer (some ⟨g, q + i * 2 + 1, none⟩)) (by unfold execOp; go_simp) ⟨HS5.out, ?_⟩
                change wpAnyH _ _ _ _ _ _ _ { tmps := List.toArray (_ :: _ :: _ :: _ :: _ :: _ :: _ :: _ :: _ :: _ :: _ :: _ :: _ :: _ :: _ :: _ :: _ :: _ :: _ :: _ :: _ :: _ :: _ :: _ :: _ :: _ :: _ :: _ :: _ :: _ :: _ :: _ :: _ :: _ :: _ :: _ :: _ :: _ :: _ :: _ :: _ :: _ :: _ :: _ :: _ :: _ :: _ :: _ :: _ :: _ :: _ :: _ :: _ :: _ :: _ :: _ :: _ :: _ :: _ :: _ :: _ :: _ :: _ :: _ :: _ :: _ :: _ :: _ :: _ :: _ :: _ :: _ :: _ :: _ :: _ :: _ :: _ :: _ :: _ :: _ :: _ :: _ :: _ :: _ :: _ :: _ :: _ :: _ :: _ :: _ :: _ :: _ :: _ :: _ :: _ :: _ :: _ :: _ :: _ :: _ :: _ :: _ :: _ :: _ :: _ :: _ :: _ :: _ :: _ :: _ :: _ :: _ :: _ :: _ :: _ :: _ :: _ :: _ :: _ :: _ :: _ :: _ :: _ :: _ :: _ :: _ :: _ :: _ :: _ :: _ :: _ :: _ :: _ :: _ :: _ :: []), defers := [] } _
                refine dr_one 15 rfl rfl (by kernel_rfl) ?_
                refine wp_stJ rfl rfl rfl d10 f10 ⟨HS6.out, ?_⟩
                refine wpAnyH_done (by kernel_rfl) ?_ _
                clear HYS HNW HC4 HC5 HS5 HS6 d10 f10 d8 d9 hbs hfc HSV HCD HSX HS4
                go_wp2_with (fail)
                go_roundg (m5 - (i + 1) + 1)
                case measure => have := HM.out; omega
                case rel => exact ⟨i + 1, by (have := HF5.out; first | (simp; done) | (simp; unfold wrap64; omega)), by omega, by omega, HN.out, HAN.out⟩
        · obtain rfl : i = m5 := by omega
          have hii : ¬ (i : Int) < (L.length : Int) := by have := HM5.out; omega
          have p0 : wr.cell? ⟨gx, 0, none⟩ = some (.slice b1 o1.mem.length d1) := row_cellsO HO1.out 0 _ rfl
          obtain ⟨i0, hi0, hz0, hz1, hz2⟩ := info_parts info_w
          obtain ⟨ys, hys⟩ := row_chg HWL.out.rd.mem (HC.out.trans (Chg.ofBelow ((Below.refl _ wr).alloc (Nat.le_refl _) (.cells #[.int .i64 1, .int .i64 2] 2))))
          have HYS := Lib.hid hys
          have HNW : Hid (∀ j u, ([.int .i64 1, .int .i64 2] : List Value)[j]? = some u → (wr.alloc (.cells #[.int .i64 1, .int .i64 2] 2)).cell? ((⟨wr.heap.size, 0, none⟩ : Addr).add j) = some u) := fun j u hj => by
            rw [addr_add, Nat.zero_add]
            exact row_cellsO (Own.new wr 2 #[.int .i64 1, .int .i64 2]) j u (by simpa using hj)
          have hbs : B ≤ (wr.alloc (.cells #[.int .i64 1, .int .i64 2] 2)).heap.size := by
            rw [World.size_alloc]
            have := HC.out.size
            have := HWL.out.Bx
            have := HWL.out.xh
            have := HWL.out.hk
            have := HWL.out.kW
            omega
          have hmf : o1.mem.length ≤ 4097 := HWL.out.ft.mem
          clear hys HM hin
          go_upto_region 18 with (first | fail | (at_builtin
                                                  refine wpList_append_chg rfl _ _ 26 rfl B 2 i0 _ 1 8 Tryz.underlying26 hi0 hz0 hz1 hz2 rfl (by decide) (.slice b1 o1.mem.length d1) o1.mem.length ys rfl ?_ (Nat.le_refl _) HWL.out.lt1 (S := S1) rfl ⟨wr.heap.size, 0, none⟩ 2 2 [.int .i64 1, .int .i64 2] rfl rfl ?_ (by simp [Value.oneCell']) (by simp only [maxLen]; omega) (by omega) hbs (by decide) ?_
                                                  · exact HYS.out
                                                  · exact HNW.out
                                                  intro v7 W5 hr5 hc5
                                                  obtain ⟨a7, c7, rfl⟩ := row_slice hr5
                                                  have HC5 := Lib.hid ((HC.out.trans (Chg.ofBelow ((Below.refl _ wr).alloc (Nat.le_refl _) (.cells #[.int .i64 1, .int .i64 2] 2)))).trans (hc5.mono (Nat.le_refl _) (Nat.le_refl _) s1_3))
                                                  have O5 := own_unchg HWL.out.bx HC5.out rfl
                                                  have p9 : W5.cell? ⟨gx, 0, none⟩ = some (.slice b1 o1.mem.length d1) := row_cellsO O5 0 _ rfl
                                                  have q9 : W5.frozen? ⟨gx, 0, none⟩ = false := own_frozen O5 0
                                                  clear hr5 hc5 O5))
          have HWE := Lib.hid (we_new HWL.out HC5.out (.slice a7 (o1.mem.length + 2) c7))
          have HFT : Hid (fitO o1) := HWL.out.ft.fit
          clear p9 q9 HC5 HYS HNW hbs p0 hii HC HA HO1 HWL HM1 HM5 HF1 HF5
          obtain ⟨W6, hW6⟩ : ∃ W, W = W5.setCell ⟨gx, 0, none⟩ (.slice a7 (o1.mem.length + 2) c7) := ⟨_, rfl⟩
          rw [← hW6] at HWE ⊢
          clear hW6
          go_upto_region 19 with (first | (go_at_call 38
                                           refine (HPA.out _ HWE.out.bel).mono ?_
                                           rintro e w8 ⟨vy, rfl, ⟨y1, y5, Ly, rfl, hrd⟩, hft, hb8⟩
                                           simp only at hrd hft hb8
                                           have hrz := hrd
                                           obtain ⟨yb1, yd1, rfl⟩ := row_slice hrz.mem
                                           obtain ⟨yb5, yd5, rfl⟩ := row_slice hrz.cors
                                           clear hrz
                                           have HWY := Lib.hid (wy_new HWE.out hb8 hrd)
                                           have O9 := Own.new w8 29 #[.slice none 0 0, .int .i64 0, .int .i64 0, .int .i64 0, .slice none 0 0]
                                           clear hrd hft hb8) | (refine st rowO rfl rfl O9 rfl rfl (by rfl) (by rfl) (by kernel_rfl) ?_))
          clear O9 HWE HPA
          obtain ⟨W8, hW8⟩ : ∃ W, W = (w8.alloc (.cells #[.slice none 0 0, .int .i64 0, .int .i64 0, .int .i64 0, .slice none 0 0] 29)).setRow w8.heap.size #[.slice yb1 o1.mem.length yd1, .int .i64 o1.sh, .int .i64 o1.lk, .int .i64 o1.bf, .slice yb5 Ly.length yd5] := ⟨_, rfl⟩
          rw [← hW8] at HWY ⊢
          clear hW8
          generalize w8.heap.size = gy at HWY ⊢
          have OX := HWY.out.we.ob
          go_upto_region 20 with (first | (go_at_call 32
                                           refine (HEN.out _ HWY.out.we.bel).mono ?_
                                           rintro e w9 ⟨ab, cb, rfl, hb9, hrb⟩
                                           have HB9 := Lib.hid hb9
                                           have HRB := Lib.hid hrb
                                           clear hb9 hrb) | (refine ld rowO rfl rfl rfl OX rfl ?_))
          clear OX
          obtain ⟨iu, hiu, hu0, hu1, hu2⟩ := info_parts infoU8'
          have hown0 := World.ownsRow_lit (base := w9.heap.size) (e := 5) (size := 1) w9 #[] 0 (Nat.le_refl _) (Nat.zero_le _) rfl
          have al9 := (Below.refl _ w9).alloc (Nat.le_refl _) (.cells #[] 5)
          have hbl : (Lib.byteCells enc).length = enc.length := by simp [Lib.byteCells]
          have HNB := Lib.hid (row_bnews hbl (row_below HRB.out al9))
          have hob : ∀ u ∈ Lib.byteCells enc, u.oneCell' = true := by simp [Lib.byteCells, Value.oneCell']
          have hel := HEL.out
          have hls : w9.heap.size ≤ (w9.alloc (.cells #[] 5)).heap.size := al9.size
          have HOE := Lib.hid hown0
          have HAL := Lib.hid al9
          clear hown0 al9
          go_upto_region 21 with (first | fail | (at_builtin
                                                  refine wpList_append_list rfl _ _ 50 rfl w9.heap.size 5 iu _ 1 1 Tryz.underlying50 hiu hu0 hu1 hu2 rfl (by decide) (.slice (some ⟨w9.heap.size, 0, none⟩) 0 0) 0 [] rfl ?_ ab enc.length cb (Lib.byteCells enc) rfl (by rw [hbl, Nat.mul_one]) ?_ hob (by simp only [maxLen]; omega) (by omega) hls ?_
                                                  · exact HOE.out
                                                  · exact HNB.out
                                                  intro vf WF hrf hgf
                                                  rw [Nat.zero_add, List.nil_append] at hrf
                                                  obtain ⟨af, cf, rfl⟩ := row_slice hrf
                                                  have HRF := Lib.hid hrf
                                                  have HGF := Lib.hid hgf
                                                  clear hrf hgf))
          have hbF : Below w9.heap.size w9 WF := by
            have hneB : ∀ k, k < w9.heap.size → some k ≠ (Value.slice (some ⟨w9.heap.size, 0, none⟩) 0 0).ownBlock := fun k hk e => by
              have e2 : k = w9.heap.size := by simpa [Value.ownBlock] using e
              omega
            have hgB := HGF.out
            exact ⟨hgB.os, hgB.tape, hgB.output, by have := hgB.size; rw [World.size_alloc] at this; omega, fun k hk => (hgB.block k (by rw [World.size_alloc]; omega) (hneB k hk)).trans (HAL.out.block k hk)⟩
          have HBF := Lib.hid hbF
          have hltb : ∀ k, (Value.slice ab enc.length cb).ownBlock = some k → k < w9.heap.size := rows_lt HRB.out
          have HLB := Lib.hid hltb
          have HRE := Lib.hid (row_below HRB.out hbF)
          have HLL : Hid (W8.heap.size ≤ w9.heap.size ∧ w9.heap.size ≤ WF.heap.size) := ⟨HB9.out.size, hbF.size⟩
          obtain ⟨ne, hne⟩ : ∃ n, n = enc.length := ⟨_, rfl⟩
          have HNE := Lib.hid hne
          clear hne hbl hob hel hls HOE HNB HAL HGF hbF hltb HRB
          go_wp2_with (fail)
          go_loopg [18] (ne + 1) (fun m' y X => ∃ t : Nat, y = .int .i64 (t : Int) ∧ t ≤ ne ∧ m' = ne - t + 1 ∧ Chg W8.heap.size w9.heap.size SU WF X)
          case atStart => exact ⟨0, rfl, Nat.zero_le _, by omega, Chg.refl _ _ _ _⟩
          case round =>
            obtain ⟨j, rfl, hj, hm, hc⟩ := hrel
            have HM := Lib.hid hm
            have HC := Lib.hid hc
            clear hm hc
            by_cases hjn : j < ne
            · obtain ⟨xs, hr⟩ := row_chg HRE.out HC.out
              obtain ⟨g, cap, cur, e, hB, hl, hO, hz⟩ := row_own hr (by rw [← HNE.out]; omega)
              injection e with e1 e2 e3
              subst e1 e3
              have hgx := HLB.out g rfl
              have hjc : j < cur.size := by have := HNE.out; omega
              obtain ⟨u1, hu1⟩ : ∃ u, cur[j]? = some u := ⟨_, Array.getElem?_eq_getElem hjc⟩
              have p1 : wr.cell? ⟨g, j, none⟩ = some u1 := by rw [cell_of_row _ _ j _ _ _ hO]; exact hu1
              have q1 : wr.frozen? ⟨g, j, none⟩ = false := own_frozen hO j
              have HN := Lib.hid (HC.out.trans (Chg.setCell hO hB hgx rfl j (.int .u8 85)))
              have hjm : (j : Int) < (enc.length : Int) := by have := HNE.out; omega
              clear hr hO hB hl hz hgx e2 hjc hu1
              go_wp2_with (fail)
              go_roundg (ne - (j + 1) + 1)
              case measure => have := HM.out; omega
              case rel => exact ⟨j + 1, by (have := HEL.out; have := HNE.out; first | (simp; done) | (simp; unfold wrap64; omega)), by omega, by omega, HN.out⟩
            · obtain rfl : j = ne := by omega
              have hjm : ¬ (j : Int) < (enc.length : Int) := by have := HNE.out; omega
              have bR : Below W8.heap.size W8 wr := HB9.out.trans ((HBF.out.mono HLL.out.1).trans (HC.out.below _ (Nat.le_refl _) (Nat.le_trans HLL.out.1 HLL.out.2)))
              have HWR := Lib.hid (HWY.out.stays rfl bR)
              have HRR : Hid (wr.ownsRow w9.heap.size 5 1 (.slice af enc.length cf) enc.length (Lib.byteCells enc)) := row_stays HRF.out fun g h1 _ h3 => HC.out.same g h3 fun _ h => absurd h (by omega)
              have OX := HWR.out.we.ob
              clear bR HM hjn HC
              go_upto_region 26 with (first | (go_at_call 32
                                               refine (HEN.out _ HWR.out.we.bel).mono ?_
                                               rintro e wz ⟨az, cz, rfl, hbz, hrz⟩
                                               have HBZ := Lib.hid hbz
                                               have HRZ := Lib.hid hrz
                                               clear hbz hrz) | (refine ld rowO rfl rfl rfl OX rfl ?_))
              have hwz := HWR.out.stays rfl HBZ.out
              obtain ⟨_, _, e1, hf1⟩ := row_bys (row_below HRR.out HBZ.out)
              obtain ⟨_, _, e2, hf2⟩ := row_bys HRZ.out
              injection e1 with e11 e12 e13
              injection e2 with e21 e22 e23
              subst e11 e21
              have HSM : Hid (Calls Tryz.prog 17 #[.agg #[.slice bk1 o1.mem.length dk1, .int .i64 o1.sh, .int .i64 o1.lk, .int .i64 o1.bf, .slice bk5 Lk.length dk5], .agg #[.slice yb1 o1.mem.length yd1, .int .i64 o1.sh, .int .i64 o1.lk, .int .i64 o1.bf, .slice yb5 Ly.length yd5]] wz fun e w' => e = .returned (.bool true) ∧ Below wz.heap.size wz w') := rsame_any o1 HFT.out hwz.we.kp.obA hwz.ya
              have hel := HEL.out
              have HBY : Hid (∀ X, Below wz.heap.size wz X → Calls Tryz.prog 34 #[.slice af enc.length cf, .slice az enc.length cz] X fun e w' => e = .returned (.bool true) ∧ Below X.heap.size X w') := fun X h => bys_same enc (by omega) (bysAt_below hf1 h) (bysAt_below hf2 h)
              have k0 := row_cellsO hwz.we.kx 0 _ rfl
              have k1 := row_cellsO hwz.we.kx 1 _ rfl
              have k2 := row_cellsO hwz.we.kx 2 _ rfl
              have k3 := row_cellsO hwz.we.kx 3 _ rfl
              have k4 := row_cellsO hwz.we.kx 4 _ rfl
              have j0 := row_cellsO hwz.yx 0 _ rfl
              have j1 := row_cellsO hwz.yx 1 _ rfl
              have j2 := row_cellsO hwz.yx 2 _ rfl
              have j3 := row_cellsO hwz.yx 3 _ rfl
              have j4 := row_cellsO hwz.yx 4 _ rfl
              have HWZ := Lib.hid hwz
              have e3 : (why == why) = true := by simp
              have e4 : (er == er) = true := by simp
              clear hwz e12 e13 e22 e23 hf1 hf2 hel HRZ HRR HWR OX HBZ hjm
              go_wp2_with (first | (go_at_call 17; refine HSM.out.mono ?_; rintro e wy ⟨rfl, hby⟩; have HB1 := Lib.hid hby; clear hby k0 k1 k2 k3 k4 j0 j1 j2 j3 j4) | (go_at_call 34; refine (HBY.out _ HB1.out).mono ?_; rintro e wv ⟨rfl, hbv⟩; have HB2 := Lib.hid hbv; clear hbv))
              go_ret
              exact ⟨rfl, HWZ.out.we.bel.trans ((HB1.out.trans (HB2.out.mono HB1.out.size)).mono HWZ.out.we.bel.size)⟩
end Go.Proofs.YtgmcfinjlddgbaaGreatDoor

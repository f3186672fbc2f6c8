/- The proof, part 5: texts that belong together, in one. -/
import Derived.Test.YtjpmdafaaonpoaaDoorMD
namespace Go.Proofs.YtjpmdafaaonpoaaDoor
open Go.RowKit
set_option linter.unusedVariables false

def stopH : List UInt8 → Bool
  | [] => true
  | c :: _ => blankB (c.toNat : Int)
theorem blank_vals {c : UInt8} (h : blankB (c.toNat : Int) = true) : c = 32 ∨ c = 9 ∨ c = 10 ∨ c = 13 := by
  unfold blankB at h
  rcases of_decide_eq_true h with h | h | h | h
  · exact .inl (u8_int.1 h)
  · exact .inr (.inl (u8_int.1 h))
  · exact .inr (.inr (.inl (u8_int.1 h)))
  · exact .inr (.inr (.inr (u8_int.1 h)))
theorem span_stop {f : Int → Bool} {X : List UInt8} (hX : stopH X = true) (hf : ∀ c : UInt8, blankB (c.toNat : Int) = true → f (c.toNat : Int) = false) : ∀ p : List UInt8, spanN f (p ++ X) = spanN f p
  | [] => by
    cases X with
    | nil => rfl
    | cons c r => simp only [List.nil_append, spanN]; rw [if_neg (by rw [hf c hX]; decide)]
  | c :: p => by simp only [List.cons_append, spanN, span_stop hX hf p]
theorem span_cut {f : Int → Bool} (X : List UInt8) : ∀ p : List UInt8, spanN f (p ++ X) ≤ p.length → spanN f p = spanN f (p ++ X)
  | [], h => by simp only [List.length_nil] at h; simp only [spanN]; omega
  | c :: p, h => by
    simp only [List.cons_append, spanN, List.length_cons] at h ⊢
    split
    · rename_i hc
      rw [if_pos hc] at h
      rw [span_cut X p (by omega)]
    · rfl
theorem named_blank (c : UInt8) (h : blankB (c.toNat : Int) = true) : namedB (c.toNat : Int) = false := by
  rcases blank_vals h with rfl | rfl | rfl | rfl <;> decide
theorem digit_blank (c : UInt8) (h : blankB (c.toNat : Int) = true) : digitB (c.toNat : Int) = false := by
  rcases blank_vals h with rfl | rfl | rfl | rfl <;> decide
theorem letter_blank (c : UInt8) (h : blankB (c.toNat : Int) = true) : letterB (c.toNat : Int) = false := by
  rcases blank_vals h with rfl | rfl | rfl | rfl <;> decide
theorem letterH_stop {X : List UInt8} (h : stopH X = true) : letterH X = false := by
  cases X with
  | nil => rfl
  | cons c r => exact letter_blank c h
def longW (l : List UInt8) : Bool := List.isPrefixOf [61, 61] l || List.isPrefixOf [33, 61] l || List.isPrefixOf [60, 61] l || List.isPrefixOf [62, 61] l || List.isPrefixOf [60, 60] l || List.isPrefixOf [62, 62] l
theorem longW_eq (l : List UInt8) : longB l = longW l := rfl
theorem longW_nil : longB [] = false := by rw [longW_eq]; rfl
theorem longW_one (c : UInt8) : longB [c] = false := by
  rw [longW_eq]; simp [longW, List.isPrefixOf]
theorem longW_cons (c d : UInt8) (r : List UInt8) : longB (c :: d :: r) = longB [c, d] := by
  rw [longW_eq, longW_eq]; simp only [longW, List.isPrefixOf_cons_cons, List.isPrefixOf_nil_left]
theorem longW_blank (c d : UInt8) (h : blankB (d.toNat : Int) = true) : longB [c, d] = false := by
  rw [longW_eq]
  rcases blank_vals h with rfl | rfl | rfl | rfl <;> simp [longW, List.isPrefixOf]
theorem ahead_stop (c : UInt8) (p : List UInt8) {X : List UInt8} (hX : stopH X = true) : aheadN (c :: p ++ X) = aheadN (c :: p) := by
  unfold aheadN
  have e : longB (c :: p ++ X) = longB (c :: p) := by
    cases p with
    | nil =>
      cases X with
      | nil => rfl
      | cons d r => rw [longW_one, List.cons_append, List.nil_append, longW_cons, longW_blank c d hX]
    | cons d p => simp only [List.cons_append]; rw [longW_cons, longW_cons c d p]
  rw [e]
  rfl
theorem ahead_cut (c : UInt8) (p X : List UInt8) (h : aheadN (c :: p ++ X) ≤ (c :: p).length) : aheadN (c :: p) = aheadN (c :: p ++ X) := by
  unfold aheadN at h ⊢
  cases p with
  | cons d p =>
    simp only [List.cons_append] at h ⊢
    rw [longW_cons c d (p ++ X), longW_cons c d p]
    rfl
  | nil =>
    by_cases hl : longB ([c] ++ X) = true
    · rw [if_pos hl] at h; simp at h
    · rw [if_neg hl, if_neg (by rw [longW_one]; decide)]
      rfl
theorem nextL_stop {p X : List UInt8} (hp : ¬ p = []) (hX : stopH X = true) : nextL (p ++ X) = nextL p := by
  cases p with
  | nil => exact absurd rfl hp
  | cons c p =>
    have hn := span_stop hX named_blank (c :: p)
    have hd := span_stop hX digit_blank (c :: p)
    have hnl := spanN_le namedB (c :: p)
    have hdl := spanN_le digitB (c :: p)
    have hs := ahead_stop c p hX
    have e1 : nameL (c :: p ++ X) = nameL (c :: p) := by
      unfold nameL
      rw [hn, List.take_append_of_le_length hnl]
    have e2 : numL (c :: p ++ X) = numL (c :: p) := by
      unfold numL
      rw [hd, List.take_append_of_le_length hdl, List.drop_append_of_le_length hdl]
      have : letterH (List.drop (spanN digitB (c :: p)) (c :: p) ++ X) = letterH (List.drop (spanN digitB (c :: p)) (c :: p)) := by
        cases h : List.drop (spanN digitB (c :: p)) (c :: p) with
        | nil => rw [List.nil_append, letterH_stop hX]; rfl
        | cons d r => rfl
      rw [this]
    simp only [List.cons_append] at e1 e2 hs ⊢
    simp only [nextL]
    rw [e1, e2, hs]
theorem nextL_cut {p X : List UInt8} (hp : ¬ p = []) (h : (nextL (p ++ X)).fr = 0) (hn : (nextL (p ++ X)).n ≤ p.length) : nextL p = nextL (p ++ X) := by
  cases p with
  | nil => exact absurd rfl hp
  | cons c p =>
    simp only [List.cons_append, nextL] at h hn ⊢
    by_cases h0 : letterB (c.toNat : Int) = true
    · rw [if_pos h0] at h hn
      rw [if_pos h0, if_pos h0]
      have hle : spanN namedB (c :: (p ++ X)) ≤ (c :: p).length := by
        unfold nameL at h hn
        split at h
        · rename_i hw; rw [if_pos hw] at hn; exact hn
        · rename_i hw
          rw [if_neg hw] at hn
          split at h
          · simp at h
          · rename_i h3; rw [if_neg h3] at hn; exact hn
      have k := span_cut X (c :: p) hle
      have kl := spanN_le namedB (c :: p)
      unfold nameL
      have e := (List.take_append_of_le_length (l₂ := X) kl).symm
      simp only [List.cons_append] at k e
      rw [k] at e
      rw [k, e]
    · rw [if_neg h0] at h hn
      rw [if_neg h0, if_neg h0]
      by_cases h1 : digitB (c.toNat : Int) = true
      · rw [if_pos h1] at h hn
        rw [if_pos h1, if_pos h1]
        unfold numL at h hn ⊢
        cases hv : valueO ((c :: (p ++ X)).take (spanN digitB (c :: (p ++ X)))) with
        | none => rw [hv] at h; simp [numK] at h
        | some v =>
          rw [hv] at h hn
          simp only [numK] at h hn
          have hb : letterH ((c :: (p ++ X)).drop (spanN digitB (c :: (p ++ X)))) = false := by
            cases hb : letterH ((c :: (p ++ X)).drop (spanN digitB (c :: (p ++ X)))) with
            | false => rfl
            | true => rw [hb] at h; simp at h
          rw [hb] at hn
          have hle : spanN digitB (c :: (p ++ X)) ≤ (c :: p).length := hn
          have k := span_cut X (c :: p) hle
          have kl := spanN_le digitB (c :: p)
          have e := (List.take_append_of_le_length (l₂ := X) kl).symm
          have e2 := (List.drop_append_of_le_length (l₂ := X) kl)
          simp only [List.cons_append] at k e e2
          rw [k] at e e2
          rw [k, e, hv, hb]
          have : letterH (List.drop (spanN digitB (c :: (p ++ X))) (c :: p)) = false := by
            rw [e2] at hb
            cases hd : List.drop (spanN digitB (c :: (p ++ X))) (c :: p) with
            | nil => rfl
            | cons d r => rw [hd] at hb; exact hb
          rw [this]
      · rw [if_neg h1] at h hn
        rw [if_neg h1, if_neg h1]
        by_cases h2 : signB (c.toNat : Int) = true
        · rw [if_pos h2] at hn
          rw [if_pos h2, if_pos h2]
          have k := ahead_cut c p X hn
          simp only [List.cons_append] at k
          rw [k]
        · rw [if_neg h2, if_neg h2]
end Go.Proofs.YtjpmdafaaonpoaaDoor

namespace Go.Proofs.YtjpmdafaaonpoaaDoor
open Go.RowKit
set_option linter.unusedVariables false
mutual
/-- The same, but for places. -/
def sameE : Ex → Ex → Bool
  | .mk k o w n ks _, .mk k' o' w' n' ks' _ => k == k' && o == o' && w == w' && n.data.toList == n'.data.toList && sameEs ks ks'
def sameEs : List Ex → List Ex → Bool
  | [], [] => true
  | x :: r, y :: s => sameE x y && sameEs r s
  | _, _ => false
end
theorem sameEs_len : ∀ (l m : List Ex), sameEs l m = true → l.length = m.length
  | [], [], _ => rfl
  | [], _ :: _, h => by simp [sameEs] at h
  | _ :: _, [], h => by simp [sameEs] at h
  | x :: r, y :: s, h => by
    simp only [sameEs, Bool.and_eq_true] at h
    have := sameEs_len r s h.2
    simp [this]
/-- From so many on. -/
def sameFrom (l m : List Ex) (i : Nat) : Bool := sameEs (l.drop i) (m.drop i)
theorem sameFrom_step {l m : List Ex} {i : Nat} (hl : i < l.length) (hm : i < m.length) : sameFrom l m i = (sameE l[i] m[i] && sameFrom l m (i + 1)) := by
  unfold sameFrom
  rw [List.drop_eq_getElem_cons hl, List.drop_eq_getElem_cons hm]
  rfl
theorem sameFrom_end {l m : List Ex} {i : Nat} (hl : l.length ≤ i) (hm : m.length ≤ i) : sameFrom l m i = true := by
  unfold sameFrom
  rw [List.drop_of_length_le hl, List.drop_of_length_le hm]
  rfl
theorem sameEs_ne {l m : List Ex} (h : l.length ≠ m.length) : sameEs l m = false := by
  cases hs : sameEs l m with
  | false => rfl
  | true => exact absurd (sameEs_len l m hs) h
/-- An expression's value, wherever its parts lie. -/
def exA (w : World) (e : Ex) (v : Value) : Prop := ∃ a cap, v = .agg #[.int .u8 e.kind, .int .u8 e.op, .int .i64 e.wd, .string e.name, .slice a e.kids.length cap, .int .i64 e.pos] ∧ exsAt (fun _ => True) w e.kids a
theorem exA_of {n : Nat} {w : World} {e : Ex} {v : Value} (h : exR n e v w) : exA w e v := by
  obtain ⟨a, cap, h1, h2⟩ := h
  exact ⟨a, cap, h1, exsAt_mono h2 (fun _ _ => trivial)⟩
mutual
/-- Its lists are short. -/
def okE : Ex → Prop
  | .mk _ _ _ _ ks _ => ks.length ≤ 65536 ∧ okEs ks
def okEs : List Ex → Prop
  | [] => True
  | x :: r => okE x ∧ okEs r
end
theorem okEs_mem : ∀ {l : List Ex}, okEs l → ∀ x ∈ l, okE x
  | [], _, x, hx => by simp at hx
  | y :: r, h, x, hx => by
    rcases List.mem_cons.1 hx with rfl | hx
    · exact h.1
    · exact okEs_mem h.2 x hx
def SameC (e : Ex) : Prop := okE e → ∀ (f : Ex) (v u : Value) (w : World), exA w e v → exA w f u → Calls Tryd.prog 15 #[v, u] w fun e' w' => e' = .returned (.bool (sameE e f)) ∧ Below w.heap.size w w'
theorem exsAt_below {w w' : World} {l : List Ex} {a : Option Addr} (h : exsAt (fun _ => True) w l a) (hb : Below w.heap.size w w') : exsAt (fun _ => True) w' l a := by
  have h := exsAt_in h
  exact exsAt_stays (R := fun b => True ∧ b < w.heap.size) (fun b o v hb2 hv => by rw [← hv]; exact hb.cell (p := ⟨b, o, none⟩) hb2.2) (fun _ _ => trivial) h
set_option maxRecDepth 100000 in
set_option maxHeartbeats 4000000 in
theorem equal_ex {l : List Ex} (HI : ∀ x ∈ l, SameC x) (HO : okEs l) {m : List Ex} {a b : Option Addr} {c1 c2 : Nat} {w : World} (hl : l.length ≤ 65536) (h1 : exsAt (fun _ => True) w l a) (h2 : exsAt (fun _ => True) w m b) :
    Calls Tryd.prog 33 #[.slice a l.length c1, .slice b m.length c2, .func (.func 15) #[] #[]] w fun e w' => e = .returned (.bool (sameEs l m)) ∧ Below w.heap.size w w' := by
  by_cases hne : l.length = m.length
  · obtain ⟨R, hR⟩ : ∃ R, R = sameEs l m := ⟨_, rfl⟩
    rw [← hR]
    have HRR := Lib.hid hR
    have HI := Lib.hid HI
    have HO := Lib.hid HO
    have HL := Lib.hid hl
    have HLM := Lib.hid hne
    have E1 := Lib.hid h1
    have E2 := Lib.hid h2
    rw [← hne]
    obtain ⟨n, hn⟩ : ∃ n, n = l.length := ⟨_, rfl⟩
    rw [← hn]
    have HN := Lib.hid hn
    have hn6 : n ≤ 65536 := by omega
    clear hl hne h1 h2 hR hn
    go_enter Tryd.func33, Tryd.ntmps33
    go_wp2_with fail
    go_loopg [17] (n + 1) (fun m' u W => ∃ i : Nat, u = .int .i64 (i : Int) ∧ i ≤ n ∧ m' = n - i + 1 ∧ sameFrom l m i = R ∧ Below w.heap.size w W)
    case atStart => exact ⟨0, rfl, Nat.zero_le _, by omega, HRR.out.symm, Below.refl _ w⟩
    case round =>
      obtain ⟨i, rfl, hi, hm, hR, hb⟩ := hrel
      have HB := Lib.hid hb
      have HRI := Lib.hid hR
      have HM := Lib.hid hm
      clear hb hR hm
      by_cases hin : i < n
      · have HIN := Lib.hid hin
        have il : i < l.length := by have := HN.out; omega
        have im : i < m.length := by have := HLM.out; omega
        have g1 : l[i]? = some l[i] := List.getElem?_eq_getElem il
        have g2 : m[i]? = some m[i] := List.getElem?_eq_getElem im
        have hmem : l[i] ∈ l := List.getElem_mem il
        have hst := sameFrom_step il im
        generalize l[i] = x at g1 hst hmem
        generalize m[i] = y at g2 hst
        have HX := Lib.hid (HI.out x hmem (okEs_mem HO.out x hmem))
        rcases E1.out with e | ⟨g, q, rfl, _, e1⟩
        · cases l with
          | nil => simp at il
          | cons => cases e
        rcases E2.out with e | ⟨g', q', rfl, _, e2⟩
        · cases m with
          | nil => simp at im
          | cons => cases e
        have x1 := exsIn_get i x e1 g1
        have y1 := exsIn_get i y e2 g2
        have HST := Lib.hid (HRI.out.symm.trans hst)
        obtain ⟨k, o, wd, nm, ks, ps⟩ := x
        obtain ⟨k', o', wd', nm', ks', ps'⟩ := y
        obtain ⟨a0, a1, a2, a3, ⟨ka, kc, a4, hka⟩, a5⟩ := x1
        obtain ⟨b0, b1, b2, b3, ⟨kb, kd, b4, hkb⟩, b5⟩ := y1
        have HKA := Lib.hid hka
        have HKB := Lib.hid hkb
        have lg := lt_of_at a0
        have lg' := lt_of_at b0
        simp only at lg lg'
        have BX := HB.out
        have a0 := (BX.cell (p := ⟨g, q + i * 6, none⟩) lg).trans a0
        have a1 := (BX.cell (p := ⟨g, q + i * 6 + 1, none⟩) lg).trans a1
        have a2 := (BX.cell (p := ⟨g, q + i * 6 + 2, none⟩) lg).trans a2
        have a3 := (BX.cell (p := ⟨g, q + i * 6 + 3, none⟩) lg).trans a3
        have a4 := (BX.cell (p := ⟨g, q + i * 6 + 4, none⟩) lg).trans a4
        have a5 := (BX.cell (p := ⟨g, q + i * 6 + 5, none⟩) lg).trans a5
        have hbs := BX.size
        have BB := Lib.hid (And.intro b0 (And.intro b1 (And.intro b2 (And.intro b3 (And.intro b4 b5)))))
        clear hst hmem g1 g2 e1 e2 hka hkb b0 b1 b2 b3 b4 b5 il im
        have Z1 := Own.new wr 26 #[.int .u8 0, .int .u8 0, .int .i64 0, .string ⟨#[]⟩, .slice none 0 0, .int .i64 0]
        have K1 := Below.of_row ((Below.refl wr.heap.size wr).alloc (Nat.le_refl _) (.cells #[.int .u8 0, .int .u8 0, .int .i64 0, .string ⟨#[]⟩, .slice none 0 0, .int .i64 0] 26)) (g := wr.heap.size) (Nat.le_refl _) #[.int .u8 k, .int .u8 o, .int .i64 wd, .string nm, .slice ka ks.length kc, .int .i64 ps]
        have P1 := Lib.hid (Z1.row #[.int .u8 k, .int .u8 o, .int .i64 wd, .string nm, .slice ka ks.length kc, .int .i64 ps])
        have s1 := (size_setRow (wr.alloc (.cells #[.int .u8 0, .int .u8 0, .int .i64 0, .string ⟨#[]⟩, .slice none 0 0, .int .i64 0] 26)) wr.heap.size #[.int .u8 k, .int .u8 o, .int .i64 wd, .string nm, .slice ka ks.length kc, .int .i64 ps]).trans (World.size_alloc _ _)
        have HK1 := Lib.hid K1
        have HS1 := Lib.hid s1
        clear K1 s1
        go_upto_region 6 with (first | (refine st rowEx rfl rfl Z1 rfl rfl (by rfl) (by rfl) (by kernel_rfl) ?_))
        obtain ⟨W1, hW1⟩ : ∃ W, W = (wr.alloc (.cells #[.int .u8 0, .int .u8 0, .int .i64 0, .string ⟨#[]⟩, .slice none 0 0, .int .i64 0] 26)).setRow wr.heap.size #[.int .u8 k, .int .u8 o, .int .i64 wd, .string nm, .slice ka ks.length kc, .int .i64 ps] := ⟨_, rfl⟩
        rw [← hW1] at P1 HK1 HS1 ⊢
        clear hW1 Z1 a0 a1 a2 a3 a4 a5
        obtain ⟨b0, b1, b2, b3, b4, b5⟩ := BB.out
        have BX := HB.out.trans (HK1.out.mono hbs)
        have b0 := (BX.cell (p := ⟨g', q' + i * 6, none⟩) lg').trans b0
        have b1 := (BX.cell (p := ⟨g', q' + i * 6 + 1, none⟩) lg').trans b1
        have b2 := (BX.cell (p := ⟨g', q' + i * 6 + 2, none⟩) lg').trans b2
        have b3 := (BX.cell (p := ⟨g', q' + i * 6 + 3, none⟩) lg').trans b3
        have b4 := (BX.cell (p := ⟨g', q' + i * 6 + 4, none⟩) lg').trans b4
        have b5 := (BX.cell (p := ⟨g', q' + i * 6 + 5, none⟩) lg').trans b5
        have Z2 := Own.new W1 26 #[.int .u8 0, .int .u8 0, .int .i64 0, .string ⟨#[]⟩, .slice none 0 0, .int .i64 0]
        have K2 := Lib.hid (Below.of_row ((Below.refl W1.heap.size W1).alloc (Nat.le_refl _) (.cells #[.int .u8 0, .int .u8 0, .int .i64 0, .string ⟨#[]⟩, .slice none 0 0, .int .i64 0] 26)) (g := W1.heap.size) (Nat.le_refl _) #[.int .u8 k', .int .u8 o', .int .i64 wd', .string nm', .slice kb ks'.length kd, .int .i64 ps'])
        have P2 := Lib.hid (Z2.row #[.int .u8 k', .int .u8 o', .int .i64 wd', .string nm', .slice kb ks'.length kd, .int .i64 ps'])
        clear BX
        go_upto_region 7 with (first | (refine st rowEx rfl rfl Z2 rfl rfl (by rfl) (by rfl) (by kernel_rfl) ?_))
        obtain ⟨W2, hW2⟩ : ∃ W, W = (W1.alloc (.cells #[.int .u8 0, .int .u8 0, .int .i64 0, .string ⟨#[]⟩, .slice none 0 0, .int .i64 0] 26)).setRow W1.heap.size #[.int .u8 k', .int .u8 o', .int .i64 wd', .string nm', .slice kb ks'.length kd, .int .i64 ps'] := ⟨_, rfl⟩
        rw [← hW2] at P2 K2 ⊢
        clear hW2 Z2 b0 b1 b2 b3 b4 b5
        have o1 := P1.out.below K2.out
        have o2 := P2.out
        have BW : Hid (Below w.heap.size w W2) := (HB.out.trans (HK1.out.mono hbs)).trans (K2.out.mono (by have := HS1.out; omega))
        have HC : Hid (Calls Tryd.prog 15 #[.agg #[.int .u8 k, .int .u8 o, .int .i64 wd, .string nm, .slice ka ks.length kc, .int .i64 ps], .agg #[.int .u8 k', .int .u8 o', .int .i64 wd', .string nm', .slice kb ks'.length kd, .int .i64 ps']] W2 fun e' w' => e' = .returned (.bool (sameE (.mk k o wd nm ks ps) (.mk k' o' wd' nm' ks' ps'))) ∧ Below W2.heap.size W2 w') :=
          HX.out _ _ _ _ ⟨ka, kc, rfl, exsAt_below HKA.out BW.out⟩ ⟨kb, kd, rfl, exsAt_below HKB.out BW.out⟩
        generalize sameE (.mk k o wd nm ks ps) (.mk k' o' wd' nm' ks' ps') = B at HST HC
        cases B with
        | false =>
          go_wp2_with (first | (refine ld rowEx rfl rfl rfl o1 rfl ?_) | (refine ld rowEx rfl rfl rfl o2 rfl ?_) | (go_at_call 15; refine (HC.out).mono ?_; rintro e w3 ⟨rfl, hb3⟩; have HB3 := Lib.hid hb3; clear hb3))
          go_ret
          refine ⟨by rw [HST.out]; rfl, BW.out.trans (HB3.out.mono (BW.out.size))⟩
        | true =>
          go_wp2_with (first | (refine ld rowEx rfl rfl rfl o1 rfl ?_) | (refine ld rowEx rfl rfl rfl o2 rfl ?_) | (go_at_call 15; refine (HC.out).mono ?_; rintro e w3 ⟨rfl, hb3⟩; have HB3 := Lib.hid hb3; clear hb3))
          go_roundg (n - (i + 1) + 1)
          case measure => have := HM.out; omega
          case rel => exact ⟨i + 1, rfl, by omega, by omega, by rw [HST.out]; simp, BW.out.trans (HB3.out.mono (BW.out.size))⟩
      · have : i = n := by omega
        subst this
        have hR : R = true := by rw [← HRI.out]; exact sameFrom_end (by have := HN.out; omega) (by have := HLM.out; have := HN.out; omega)
        have HRT := Lib.hid hR
        clear hR
        go_wp2_with fail
        go_ret
        exact ⟨by rw [HRT.out]; rfl, HB.out⟩
  · rw [sameEs_ne hne]
    obtain ⟨n, hn⟩ : ∃ n, n = l.length := ⟨_, rfl⟩
    obtain ⟨k, hk⟩ : ∃ k, k = m.length := ⟨_, rfl⟩
    rw [← hn] at hne hl ⊢
    rw [← hk] at hne ⊢
    have hq : ((n : Int) == (k : Int)) = false := by simp; omega
    clear h1 h2 HI HO hn hk
    go_enter Tryd.func33, Tryd.ntmps33
    go_wp2_with fail
    go_ret
    exact ⟨rfl, Below.refl _ w⟩
set_option maxRecDepth 100000 in
set_option maxHeartbeats 4000000 in
theorem same_no0 {k o wd ps k' o' wd' ps' : Int} {nm nm' : ByteArray} {n n' kc kd : Nat} {ka kb : Option Addr} (w : World) (qk : (k == k') = false) :
    Calls Tryd.prog 15 #[.agg #[.int .u8 k, .int .u8 o, .int .i64 wd, .string nm, .slice ka n kc, .int .i64 ps], .agg #[.int .u8 k', .int .u8 o', .int .i64 wd', .string nm', .slice kb n' kd, .int .i64 ps']] w fun e' w' => e' = .returned (.bool false) ∧ Below w.heap.size w w' := by
  go_enter Tryd.func15, Tryd.ntmps15
  go_wp2_with fail
  go_ret
  exact ⟨rfl, (((Below.refl _ w).alloc (Nat.le_refl _) _).alloc (by rw [World.size_alloc]; omega) _)⟩
set_option maxRecDepth 100000 in
set_option maxHeartbeats 4000000 in
theorem same_no1 {k o wd ps k' o' wd' ps' : Int} {nm nm' : ByteArray} {n n' kc kd : Nat} {ka kb : Option Addr} (w : World) (qk : (k == k') = true) (qo : (o == o') = false) :
    Calls Tryd.prog 15 #[.agg #[.int .u8 k, .int .u8 o, .int .i64 wd, .string nm, .slice ka n kc, .int .i64 ps], .agg #[.int .u8 k', .int .u8 o', .int .i64 wd', .string nm', .slice kb n' kd, .int .i64 ps']] w fun e' w' => e' = .returned (.bool false) ∧ Below w.heap.size w w' := by
  go_enter Tryd.func15, Tryd.ntmps15
  go_wp2_with fail
  go_ret
  exact ⟨rfl, (((Below.refl _ w).alloc (Nat.le_refl _) _).alloc (by rw [World.size_alloc]; omega) _)⟩
set_option maxRecDepth 100000 in
set_option maxHeartbeats 4000000 in
theorem same_no2 {k o wd ps k' o' wd' ps' : Int} {nm nm' : ByteArray} {n n' kc kd : Nat} {ka kb : Option Addr} (w : World) (qk : (k == k') = true) (qo : (o == o') = true) (qw : (wd == wd') = false) :
    Calls Tryd.prog 15 #[.agg #[.int .u8 k, .int .u8 o, .int .i64 wd, .string nm, .slice ka n kc, .int .i64 ps], .agg #[.int .u8 k', .int .u8 o', .int .i64 wd', .string nm', .slice kb n' kd, .int .i64 ps']] w fun e' w' => e' = .returned (.bool false) ∧ Below w.heap.size w w' := by
  go_enter Tryd.func15, Tryd.ntmps15
  go_wp2_with fail
  go_ret
  exact ⟨rfl, (((Below.refl _ w).alloc (Nat.le_refl _) _).alloc (by rw [World.size_alloc]; omega) _)⟩
set_option maxRecDepth 100000 in
set_option maxHeartbeats 4000000 in
theorem same_no3 {k o wd ps k' o' wd' ps' : Int} {nm nm' : ByteArray} {n n' kc kd : Nat} {ka kb : Option Addr} (w : World) (qk : (k == k') = true) (qo : (o == o') = true) (qw : (wd == wd') = true) (qn : (nm.toList == nm'.toList) = false) :
    Calls Tryd.prog 15 #[.agg #[.int .u8 k, .int .u8 o, .int .i64 wd, .string nm, .slice ka n kc, .int .i64 ps], .agg #[.int .u8 k', .int .u8 o', .int .i64 wd', .string nm', .slice kb n' kd, .int .i64 ps']] w fun e' w' => e' = .returned (.bool false) ∧ Below w.heap.size w w' := by
  go_enter Tryd.func15, Tryd.ntmps15
  go_wp2_with fail
  go_ret
  exact ⟨rfl, (((Below.refl _ w).alloc (Nat.le_refl _) _).alloc (by rw [World.size_alloc]; omega) _)⟩
set_option maxRecDepth 100000 in
set_option maxHeartbeats 4000000 in
theorem same_yes {k o wd ps k' o' wd' ps' : Int} {nm nm' : ByteArray} {n n' kc kd : Nat} {ka kb : Option Addr} (w : World) (qk : (k == k') = true) (qo : (o == o') = true) (qw : (wd == wd') = true) (qn : (nm.toList == nm'.toList) = true) {B : Bool} (HC : ∀ W, Below w.heap.size w W → Calls Tryd.prog 33 #[.slice ka n kc, .slice kb n' kd, .func (.func 15) #[] #[]] W fun e w' => e = .returned (.bool B) ∧ Below W.heap.size W w') :
    Calls Tryd.prog 15 #[.agg #[.int .u8 k, .int .u8 o, .int .i64 wd, .string nm, .slice ka n kc, .int .i64 ps], .agg #[.int .u8 k', .int .u8 o', .int .i64 wd', .string nm', .slice kb n' kd, .int .i64 ps']] w fun e' w' => e' = .returned (.bool B) ∧ Below w.heap.size w w' := by
  have HC := Lib.hid HC
  have HB : Hid (Below w.heap.size w ((w.alloc (.cells #[.int .u8 k, .int .u8 o, .int .i64 wd, .string nm, .slice ka n kc, .int .i64 ps] 26)).alloc (.cells #[.int .u8 k', .int .u8 o', .int .i64 wd', .string nm', .slice kb n' kd, .int .i64 ps'] 26))) := (((Below.refl _ w).alloc (Nat.le_refl _) _).alloc (by rw [World.size_alloc]; omega) _)
  go_enter Tryd.func15, Tryd.ntmps15
  go_wp2_with (go_at_call 33; refine (HC.out _ HB.out).mono ?_; rintro e w3 ⟨rfl, hb3⟩; have HB3 := Lib.hid hb3; clear hb3)
  go_ret
  exact ⟨rfl, HB.out.trans (HB3.out.mono HB.out.size)⟩
theorem p_same : ∀ e, SameC e := by
  intro e
  induction e using Ex.ind with
  | h k o wd nm ks ps ih =>
    intro hok f v u w hv hu
    obtain ⟨k', o', wd', nm', ks', ps'⟩ := f
    obtain ⟨ka, kc, rfl, hka⟩ := hv
    obtain ⟨kb, kd, rfl, hkb⟩ := hu
    simp only [Ex.kind, Ex.op, Ex.wd, Ex.name, Ex.kids, Ex.pos]
    have e0 : sameE (.mk k o wd nm ks ps) (.mk k' o' wd' nm' ks' ps') = (k == k' && o == o' && wd == wd' && nm.data.toList == nm'.data.toList && sameEs ks ks') := by simp only [sameE]
    rw [e0]
    by_cases h1 : k = k'
    · by_cases h2 : o = o'
      · by_cases h3 : wd = wd'
        · by_cases h4 : nm.data.toList = nm'.data.toList
          · rw [show (k == k' && o == o' && wd == wd' && nm.data.toList == nm'.data.toList && sameEs ks ks') = sameEs ks ks' by simp [h1, h2, h3, h4]]
            exact same_yes w (by simpa using h1) (by simpa using h2) (by simpa using h3) (by rw [Lib.toList_data, Lib.toList_data]; simpa using h4) fun W hb => equal_ex ih hok.2 hok.1 (exsAt_below hka hb) (exsAt_below hkb hb)
          · rw [show (k == k' && o == o' && wd == wd' && nm.data.toList == nm'.data.toList && sameEs ks ks') = false by rw [beq_eq_false_iff_ne.2 h4]; simp]
            exact same_no3 w (by simpa using h1) (by simpa using h2) (by simpa using h3) (by rw [Lib.toList_data, Lib.toList_data]; simpa using h4)
        · rw [show (k == k' && o == o' && wd == wd' && nm.data.toList == nm'.data.toList && sameEs ks ks') = false by simp [h3]]
          exact same_no2 w (by simpa using h1) (by simpa using h2) (by simpa using h3)
      · rw [show (k == k' && o == o' && wd == wd' && nm.data.toList == nm'.data.toList && sameEs ks ks') = false by simp [h2]]
        exact same_no1 w (by simpa using h1) (by simpa using h2)
    · rw [show (k == k' && o == o' && wd == wd' && nm.data.toList == nm'.data.toList && sameEs ks ks') = false by simp [h1]]
      exact same_no0 w (by simpa using h1)
end Go.Proofs.YtjpmdafaaonpoaaDoor

namespace Go.Proofs.YtjpmdafaaonpoaaDoor
set_option linter.unusedVariables false
def bareR (x : Res) : Int × ByteArray × Int := (x.kind, x.text, x.wd)
theorem like_of {xs ys : List Res} (h : xs.map bareR = ys.map bareR) : Like (xs.map Res.tk) (ys.map Res.tk) := by
  unfold Like
  rw [List.map_map, List.map_map]
  exact h
theorem rest_end (Z : List UInt8) : ∀ (k : Nat) (l : List UInt8) (e e' : Nat) (xs : List Res), l.length ≤ k → restL e l = (xs, 0, 0) →
    ∃ ys q, restL e' (l ++ 10 :: Z) = (ys ++ (restL q Z).1, (restL q Z).2) ∧ xs.map bareR = ys.map bareR := by
  intro k
  induction k with
  | zero =>
    intro l e e' xs hl h
    have : l = [] := List.eq_nil_of_length_eq_zero (by omega)
    subst this
    have hx : xs = [] := by
      have : restL e [] = ([], 0, 0) := rfl
      rw [this] at h
      exact (congrArg Prod.fst h).symm
    subst hx
    refine ⟨[], e' + 1, ?_, rfl⟩
    have hs : sk false (10 :: Z) = 1 + sk false Z := rfl
    show lexL (e' + sk false (10 :: Z)) ((10 :: Z).drop (sk false (10 :: Z))) = _
    rw [hs, Nat.add_comm 1 (sk false Z), List.drop_succ_cons]
    show _ = lexL (e' + 1 + sk false Z) (Z.drop (sk false Z))
    rw [show e' + (sk false Z + 1) = e' + 1 + sk false Z by omega]
  | succ k ih =>
    intro l e e' xs hl h
    by_cases hm : l.drop (sk false l) = []
    · have hx : xs = [] := by
        rw [rest_nil hm] at h
        exact (congrArg Prod.fst h).symm
      subst hx
      have hlen : sk false l = l.length := by
        have h1 := sk_le false l
        have h2 : l.length ≤ sk false l := by simpa using hm
        omega
      obtain ⟨b', _, hb⟩ := sk_over false l [] (by simpa using hlen)
      refine ⟨[], e' + l.length + 1, ?_, rfl⟩
      have hs : sk false (l ++ 10 :: Z) = l.length + (1 + sk false Z) := by
        rw [hb]
        cases b' <;> rfl
      show lexL (e' + sk false (l ++ 10 :: Z)) ((l ++ 10 :: Z).drop (sk false (l ++ 10 :: Z))) = _
      rw [hs, List.drop_append, List.drop_of_length_le (by omega), List.nil_append, show l.length + (1 + sk false Z) - l.length = sk false Z + 1 by omega, List.drop_succ_cons]
      show _ = lexL (e' + l.length + 1 + sk false Z) (Z.drop (sk false Z))
      rw [show e' + (l.length + (1 + sk false Z)) = e' + l.length + 1 + sk false Z by omega]
    · have hlt : sk false l < l.length := by
        apply Nat.lt_of_not_le
        intro hn
        exact hm (by simpa using hn)
      have hskY : sk false (l ++ 10 :: Z) = sk false l := by
        have := sk_in false l [] (10 :: Z) (by simpa using hlt) (by simp)
        simpa using this
      obtain ⟨m, hmm⟩ : ∃ m, l.drop (sk false l) = m := ⟨_, rfl⟩
      rw [hmm] at hm
      have hmY : (l ++ 10 :: Z).drop (sk false (l ++ 10 :: Z)) = m ++ 10 :: Z := by
        rw [hskY, List.drop_append_of_le_length (by omega), hmm]
      have hnx : nextL (m ++ 10 :: Z) = nextL m := nextL_stop hm (by rfl)
      have hf : (nextL m).fr = 0 := by
        apply Classical.byContradiction
        intro hf
        rw [rest_fault hmm hm hf] at h
        exact hf (congrArg (fun x => x.2.2) h)
      have hg := nextL_good m hf
      rw [rest_tok hmm hf] at h
      have hmk : (m.drop (nextL m).n).length ≤ k := by
        have : m.length ≤ l.length := by rw [← hmm]; simp
        rw [List.length_drop]; omega
      have h2 : restL (e + sk false l + (nextL m).n) (m.drop (nextL m).n) = ((restL (e + sk false l + (nextL m).n) (m.drop (nextL m).n)).1, 0, 0) := by
        have := congrArg Prod.snd h
        simp only at this
        rw [← this]
      obtain ⟨ys, q, h3, h4⟩ := ih _ _ (e' + sk false l + (nextL m).n) _ hmk h2
      have hfY : (nextL (m ++ 10 :: Z)).fr = 0 := by rw [hnx]; exact hf
      refine ⟨toRes (e' + sk false l) (m ++ 10 :: Z) (nextL m) :: ys, q, ?_, ?_⟩
      · rw [rest_tok hmY hfY, hnx, hskY, List.drop_append_of_le_length hg.2, h3]
        rfl
      · have hx := congrArg Prod.fst h
        simp only at hx
        rw [← hx, List.map_cons, List.map_cons, h4]
        congr 1
        unfold toRes
        rw [if_pos hf, if_pos hf]
        simp only [bareR]
        rw [List.take_append_of_le_length hg.2]
theorem rest_open (X : List UInt8) : restL 0 (40 :: X) = (⟨4, ⟨#[40]⟩, 0, 0, 0, 0⟩ :: (restL 1 X).1, (restL 1 X).2) := by
  have ha : aheadN (40 :: X) = 1 := by
    unfold aheadN
    have : longB (40 :: X) = false := by
      cases X with
      | nil => exact longW_one 40
      | cons d r => rw [longW_cons, longW_eq]; simp [longW, List.isPrefixOf]
    rw [this]
    rfl
  have hn : nextL (40 :: X) = ⟨4, 1, 0, 0, 0⟩ := by
    show (if letterB ((40 : UInt8).toNat : Int) = true then nameL (40 :: X) else if digitB ((40 : UInt8).toNat : Int) = true then numL (40 :: X) else if signB ((40 : UInt8).toNat : Int) = true then (⟨4, aheadN (40 :: X), 0, 0, 0⟩ : Nx) else ⟨0, 0, 0, 0, 1⟩) = _
    rw [if_neg (by decide), if_neg (by decide), if_pos (by decide), ha]
  have hs : sk false (40 :: X) = 0 := by
    show (if blankB ((40 : UInt8).toNat : Int) = true then 1 + sk false X else if (40 : UInt8) = 47 ∧ X.head? = some 47 then 1 + sk true X else 0) = 0
    rw [if_neg (by decide), if_neg (fun h => absurd h.1 (by decide))]
  have h := rest_tok (e := 0) (l := 40 :: X) (m := 40 :: X) (by rw [hs]; rfl) (by rw [hn])
  rw [h, hs, hn]
  rfl
theorem rest_close (q : Nat) : restL q [41] = ([⟨4, ⟨#[41]⟩, 0, q, 0, 0⟩], 0, 0) := by
  have h := rest_tok (e := q) (l := [41]) (m := [41]) (by rfl) (by rfl)
  rw [h]
  rfl
end Go.Proofs.YtjpmdafaaonpoaaDoor

namespace Go.Proofs.YtjpmdafaaonpoaaDoor
set_option linter.unusedVariables false
section
variable {fnd : Bs → Int × Bool} {L L' : Int}
theorem more_fuel : ∀ n : Nat, (∀ d ts e r, opnd fnd L n d ts = .ok e r → ∀ m, n ≤ m → opnd fnd L m d ts = .ok e r) ∧ (∀ v d ts e r, binE fnd L n v d ts = .ok e r → ∀ m, n ≤ m → binE fnd L m v d ts = .ok e r) ∧ (∀ v d a ts e r, binL fnd L n v d a ts = .ok e r → ∀ m, n ≤ m → binL fnd L m v d a ts = .ok e r) := by
  intro n
  induction n with
  | zero => exact ⟨fun d ts e r h => by simp [opnd] at h, fun v d ts e r h => by simp [binE] at h, fun v d a ts e r h => by simp [binL] at h⟩
  | succ n ih =>
    obtain ⟨i1, i2, i3⟩ := ih
    refine ⟨fun d ts e r h m hm => ?_, fun v d ts e r h m hm => ?_, fun v d a ts e r h m hm => ?_⟩
    · obtain ⟨m, rfl⟩ : ∃ k, m = k + 1 := ⟨m - 1, by omega⟩
      have hm : n ≤ m := by omega
      cases ts with
      | nil => simp [opnd] at h
      | cons t q =>
        simp only [opnd] at h ⊢
        split at h
        · rename_i h1; rw [if_pos h1]; exact h
        rename_i h1; rw [if_neg h1]
        split at h
        · rename_i h2; rw [if_pos h2]; exact h
        rename_i h2; rw [if_neg h2]
        split at h
        · rename_i h3
          rw [if_pos h3]
          split at h
          · cases h
          · rename_i h4
            rw [if_neg h4]
            obtain ⟨x, y, k1, k2⟩ := PR.then_eq_ok h
            rw [i1 _ _ _ _ k1 m hm]
            exact k2
        rename_i h3; rw [if_neg h3]
        split at h
        · rename_i h4
          rw [if_pos h4]
          split at h
          · cases h
          · rename_i h5
            rw [if_neg h5]
            obtain ⟨x, y, k1, k2⟩ := PR.then_eq_ok h
            rw [i1 _ _ _ _ k1 m hm]
            exact k2
        rename_i h4; rw [if_neg h4]
        split at h
        · rename_i h5
          rw [if_pos h5]
          split at h
          · cases h
          · rename_i h6
            rw [if_neg h6]
            obtain ⟨x, y, k1, k2⟩ := PR.then_eq_ok h
            rw [i2 _ _ _ _ _ k1 m hm]
            exact k2
        · cases h
    · obtain ⟨m, rfl⟩ : ∃ k, m = k + 1 := ⟨m - 1, by omega⟩
      have hm : n ≤ m := by omega
      simp only [binE] at h ⊢
      obtain ⟨x, y, k1, k2⟩ := PR.then_eq_ok h
      rw [i1 _ _ _ _ k1 m hm]
      exact i3 _ _ _ _ _ _ k2 m hm
    · obtain ⟨m, rfl⟩ : ∃ k, m = k + 1 := ⟨m - 1, by omega⟩
      have hm : n ≤ m := by omega
      cases ts with
      | nil => simp only [binL] at h ⊢; exact h
      | cons t q =>
        simp only [binL] at h ⊢
        split at h
        · rename_i h1
          rw [if_pos h1]
          obtain ⟨x, y, k1, k2⟩ := PR.then_eq_ok h
          rw [i2 _ _ _ _ _ k1 m hm]
          exact i3 _ _ _ _ _ _ k2 m hm
        · rename_i h1
          rw [if_neg h1]
          exact h
/-- It is as said, or it lies too deep. -/
def Or3 {α : Type} (x : PR α) (a : α) (r : List Tk) : Prop := x = .ok a r ∨ ∃ p, x = .bad p 3
theorem or3_then {α β : Type} {x : PR α} {a : α} {r : List Tk} (h : Or3 x a r) {f : α → List Tk → PR β} {b : β} {s : List Tk} (hf : Or3 (f a r) b s) : Or3 (x.then f) b s := by
  rcases h with rfl | ⟨p, rfl⟩
  · exact hf
  · exact .inr ⟨p, rfl⟩
theorem need_more {s : Bs} {ts r : List Tk} {X : List Tk} {u : Unit} (h : need L s ts = .ok u r) : need L' s (ts ++ X) = .ok u (r ++ X) := by
  unfold need at h ⊢
  cases ts with
  | nil => simp [isT] at h
  | cons t q =>
    split at h
    · rename_i hi
      have : isT s (t :: q ++ X) = true := hi
      rw [if_pos this]
      cases h
      rfl
    · cases h
theorem deeper {x : Tk} (hx : (fnd x.tx).2 = false) : ∀ n : Nat, (∀ d ts e r, opnd fnd L n d ts = .ok e r → Or3 (opnd fnd L' n (d + 1) (ts ++ [x])) e (r ++ [x])) ∧ (∀ v d ts e r, binE fnd L n v d ts = .ok e r → Or3 (binE fnd L' n v (d + 1) (ts ++ [x])) e (r ++ [x])) ∧ (∀ v d a ts e r, binL fnd L n v d a ts = .ok e r → Or3 (binL fnd L' n v (d + 1) a (ts ++ [x])) e (r ++ [x])) := by
  intro n
  induction n with
  | zero => exact ⟨fun d ts e r h => by simp [opnd] at h, fun v d ts e r h => by simp [binE] at h, fun v d a ts e r h => by simp [binL] at h⟩
  | succ n ih =>
    obtain ⟨i1, i2, i3⟩ := ih
    refine ⟨fun d ts e r h => ?_, fun v d ts e r h => ?_, fun v d a ts e r h => ?_⟩
    · cases ts with
      | nil => simp [opnd] at h
      | cons t q =>
        rw [List.cons_append]
        simp only [opnd] at h ⊢
        split at h
        · rename_i h1; rw [if_pos h1]; cases h; exact .inl rfl
        rename_i h1; rw [if_neg h1]
        split at h
        · rename_i h2; rw [if_pos h2]; cases h; exact .inl rfl
        rename_i h2; rw [if_neg h2]
        split at h
        · rename_i h3
          rw [if_pos h3]
          split at h
          · cases h
          · by_cases h5 : d + 1 = 64
            · rw [if_pos h5]; exact .inr ⟨_, rfl⟩
            · rw [if_neg h5]
              obtain ⟨y, z, k1, k2⟩ := PR.then_eq_ok h
              cases k2
              exact or3_then (i1 _ _ _ _ k1) (.inl rfl)
        rename_i h3; rw [if_neg h3]
        split at h
        · rename_i h4
          rw [if_pos h4]
          split at h
          · cases h
          · by_cases h5 : d + 1 = 64
            · rw [if_pos h5]; exact .inr ⟨_, rfl⟩
            · rw [if_neg h5]
              obtain ⟨y, z, k1, k2⟩ := PR.then_eq_ok h
              cases k2
              exact or3_then (i1 _ _ _ _ k1) (.inl rfl)
        rename_i h4; rw [if_neg h4]
        split at h
        · rename_i h5
          rw [if_pos h5]
          split at h
          · cases h
          · by_cases h6 : d + 1 = 64
            · rw [if_pos h6]; exact .inr ⟨_, rfl⟩
            · rw [if_neg h6]
              obtain ⟨y, z, k1, k2⟩ := PR.then_eq_ok h
              obtain ⟨y2, z2, k3, k4⟩ := PR.then_eq_ok k2
              cases k4
              exact or3_then (i2 _ _ _ _ _ k1) (or3_then (.inl (need_more k3)) (.inl rfl))
        · cases h
    · simp only [binE] at h ⊢
      obtain ⟨y, z, k1, k2⟩ := PR.then_eq_ok h
      exact or3_then (i1 _ _ _ _ k1) (i3 _ _ _ _ _ _ k2)
    · cases ts with
      | nil =>
        simp only [binL] at h
        cases h
        rw [List.nil_append]
        simp only [binL]
        rw [if_neg (by rw [hx]; simp)]
        exact .inl rfl
      | cons t q =>
        rw [List.cons_append]
        simp only [binL] at h ⊢
        split at h
        · rename_i h1
          rw [if_pos h1]
          obtain ⟨y, z, k1, k2⟩ := PR.then_eq_ok h
          exact or3_then (i2 _ _ _ _ _ k1) (i3 _ _ _ _ _ _ k2)
        · rename_i h1
          rw [if_neg h1]
          cases h
          exact .inl rfl
end
end Go.Proofs.YtjpmdafaaonpoaaDoor

namespace Go.Proofs.YtjpmdafaaonpoaaDoor
set_option linter.unusedVariables false
section
variable {fnd : Bs → Int × Bool} {L : Int}
theorem expr_ok : ∀ n : Nat, (∀ d ts e r, opnd fnd L n d ts = .ok e r → okE e) ∧ (∀ v d ts e r, binE fnd L n v d ts = .ok e r → okE e) ∧ (∀ v d a ts e r, okE a → binL fnd L n v d a ts = .ok e r → okE e) := by
  intro n
  induction n with
  | zero => exact ⟨fun d ts e r h => by simp [opnd] at h, fun v d ts e r h => by simp [binE] at h, fun v d a ts e r _ h => by simp [binL] at h⟩
  | succ n ih =>
    obtain ⟨i1, i2, i3⟩ := ih
    refine ⟨fun d ts e r h => ?_, fun v d ts e r h => ?_, fun v d a ts e r ha h => ?_⟩
    · cases ts with
      | nil => simp [opnd] at h
      | cons t q =>
        simp only [opnd] at h
        split at h
        · cases h; exact ⟨by simp, trivial⟩
        split at h
        · cases h; exact ⟨by simp, trivial⟩
        split at h
        · split at h
          · cases h
          · obtain ⟨x, y, k1, k2⟩ := PR.then_eq_ok h
            cases k2
            exact ⟨by simp, i1 _ _ _ _ k1, trivial⟩
        split at h
        · split at h
          · cases h
          · obtain ⟨x, y, k1, k2⟩ := PR.then_eq_ok h
            cases k2
            exact ⟨by simp, i1 _ _ _ _ k1, trivial⟩
        split at h
        · split at h
          · cases h
          · obtain ⟨x, y, k1, k2⟩ := PR.then_eq_ok h
            obtain ⟨x2, y2, k3, k4⟩ := PR.then_eq_ok k2
            cases k4
            exact i2 _ _ _ _ _ k1
        · cases h
    · simp only [binE] at h
      obtain ⟨x, y, k1, k2⟩ := PR.then_eq_ok h
      exact i3 _ _ _ _ _ _ (i1 _ _ _ _ k1) k2
    · cases ts with
      | nil => simp only [binL] at h; cases h; exact ha
      | cons t q =>
        simp only [binL] at h
        split at h
        · obtain ⟨x, y, k1, k2⟩ := PR.then_eq_ok h
          exact i3 _ _ _ _ _ _ (show okE (.mk 4 _ _ _ [a, x] _) from ⟨by simp, ha, i2 _ _ _ _ _ k1, trivial⟩) k2
        · cases h; exact ha
end
theorem endP_ok {α : Type} {x : PR α} {a : α} {r : List Tk} (h : endP x = .ok a r) : x = .ok a [] := by
  unfold endP at h
  obtain ⟨b, s, h1, h2⟩ := PR.then_eq_ok h
  cases s with
  | nil => simp only at h2; cases h2; exact h1
  | cons t q => simp only at h2; cases h2
theorem endR_ok {α : Type} {x : PR α} {a : α} (h : endR x = (some a, 0, 0, 0)) : ∃ r, x = .ok a r := by
  cases x with
  | ok b r => simp only [endR] at h; cases h; exact ⟨r, rfl⟩
  | bad p q => simp only [endR] at h; cases h
theorem said_some {s : ByteArray} {e : Ex} {a b c : Int} (h : said_E s = (some e, a, b, c)) : a = 0 ∧ b = 0 ∧ c = 0 ∧ s.size ≤ 65536 ∧ (restL 0 s.data.toList).2.2 = 0 ∧ binE fnd (s.size : Int) (fuel ((restL 0 s.data.toList).1.map Res.tk)) 1 0 ((restL 0 s.data.toList).1.map Res.tk) = .ok e [] := by
  unfold said_E wholeR at h
  split at h
  · cases h
  · rename_i h1
    split at h
    · cases h
    · rename_i h2
      have hf : (frontR s).2.2 = 0 := by simpa using h2
      rw [scan_toks h1 hf, front_list] at h
      rw [front_list] at hf
      have h : endR (endP (binE fnd (s.size : Int) (fuel ((restL 0 s.data.toList).1.map Res.tk)) 1 0 ((restL 0 s.data.toList).1.map Res.tk))) = (some e, a, b, c) := h
      generalize hZ : endP (binE fnd (s.size : Int) (fuel ((restL 0 s.data.toList).1.map Res.tk)) 1 0 ((restL 0 s.data.toList).1.map Res.tk)) = Z at h
      cases Z with
      | bad p q => simp only [endR] at h; cases h
      | ok x r =>
        simp only [endR] at h
        cases h
        exact ⟨rfl, rfl, rfl, by omega, hf, endP_ok hZ⟩
def roundT (s : ByteArray) : List UInt8 := 40 :: (s.data.toList ++ 10 :: [41])
theorem round_said {s : ByteArray} {e : Ex} (h : said_E s = (some e, 0, 0, 0)) : okE e ∧
    ((said_E ⟨(roundT s).toArray⟩ = (none, 4, 0, 0) ∧ 65536 < s.size + 3) ∨ (∃ p, said_E ⟨(roundT s).toArray⟩ = (none, 30, p, 3)) ∨ ∃ f, said_E ⟨(roundT s).toArray⟩ = (some f, 0, 0, 0) ∧ e.bare = f.bare) := by
  obtain ⟨_, _, _, hsz, hf, hb⟩ := said_some h
  refine ⟨(expr_ok _).2.1 _ _ _ _ _ hb, ?_⟩
  have hlen : (roundT s).length = s.size + 3 := by
    unfold roundT
    have : s.data.toList.length = s.size := by rw [Array.length_toList]; rfl
    simp [this]
  by_cases hbig : 65536 < s.size + 3
  · left
    refine ⟨?_, hbig⟩
    unfold said_E wholeR
    rw [if_pos (by
      have : (⟨(roundT s).toArray⟩ : ByteArray).size = (roundT s).length := by simp [ByteArray.size]
      rw [this, hlen]; exact hbig)]
  · right
    have hcl := goL_clean _ _ _ (show (goL ((s.data.toList.drop (sk false s.data.toList)).length + 1) (0 + sk false s.data.toList) (s.data.toList.drop (sk false s.data.toList))).2.2 = 0 from hf)
    have h0 : restL 0 s.data.toList = ((restL 0 s.data.toList).1, 0, 0) := by
      have a1 : (restL 0 s.data.toList).2.1 = 0 := hcl
      generalize restL 0 s.data.toList = Z at a1 hf ⊢
      obtain ⟨z1, z2, z3⟩ := Z
      simp only at a1 hf
      rw [a1, hf]
    obtain ⟨ys, q, h1, h2⟩ := rest_end [41] _ s.data.toList 0 1 _ (Nat.le_refl _) h0
    rw [rest_close] at h1
    have h3 : restL 0 (roundT s) = (⟨4, ⟨#[40]⟩, 0, 0, 0, 0⟩ :: (ys ++ [⟨4, ⟨#[41]⟩, 0, q, 0, 0⟩]), 0, 0) := by
      unfold roundT
      rw [rest_open, h1]
    have hlike := like_of h2
    have hs := said_list (l := roundT s) (by rw [hlen]; omega) (by rw [h3])
    rw [h3] at hs
    simp only [List.map_cons, List.map_append, List.map_nil] at hs
    rw [hs]
    have hx : exprP fnd (s.size : Int) ((restL 0 s.data.toList).1.map Res.tk) = .ok e [] := by
      unfold exprP endP
      rw [hb]; rfl
    have hsim := sim_exprP (fnd := fnd) (L := (s.size : Int)) (L' := ((roundT s).length : Int)) hlike
    rw [hx] at hsim
    generalize hus : ys.map Res.tk = us at hsim ⊢
    generalize hY : exprP fnd ((roundT s).length : Int) us = Y at hsim
    cases Y with
    | bad p r => exact hsim.elim
    | ok f r =>
      obtain ⟨hbare, hr⟩ := hsim
      have hr : r = [] := by
        have := hr.len
        simpa using this.symm
      subst hr
      have hbf := endP_ok hY
      have hbm := (more_fuel _).2.1 _ _ _ _ _ hbf (3 * us.length + 9) (by unfold fuel; omega)
      have hd := (deeper (L' := ((roundT s).length : Int)) (x := Res.tk ⟨4, ⟨#[41]⟩, 0, q, 0, 0⟩) (by rfl) _).2.1 _ _ _ _ _ hbm
      have hfu : fuel (Res.tk ⟨4, ⟨#[40]⟩, 0, 0, 0, 0⟩ :: (us ++ [Res.tk ⟨4, ⟨#[41]⟩, 0, q, 0, 0⟩])) = 3 * us.length + 9 + 1 + 1 := by
        unfold fuel
        simp only [List.length_cons, List.length_append, List.length_nil]
        omega
      rw [hfu]
      have ho : opnd fnd ((roundT s).length : Int) (3 * us.length + 9 + 1) 0 (Res.tk ⟨4, ⟨#[40]⟩, 0, 0, 0, 0⟩ :: (us ++ [Res.tk ⟨4, ⟨#[41]⟩, 0, q, 0, 0⟩])) = (binE fnd ((roundT s).length : Int) (3 * us.length + 9) 1 (0 + 1) (us ++ [Res.tk ⟨4, ⟨#[41]⟩, 0, q, 0, 0⟩])).then fun e r => (need ((roundT s).length : Int) [41] r).then fun _ r => .ok e r := by
        simp only [opnd]
        rw [if_neg (by decide), if_neg (by decide), if_neg (by decide), if_neg (by decide), if_pos (by decide), if_neg (by decide)]
      have hbE : binE fnd ((roundT s).length : Int) (3 * us.length + 9 + 1 + 1) 1 0 (Res.tk ⟨4, ⟨#[40]⟩, 0, 0, 0, 0⟩ :: (us ++ [Res.tk ⟨4, ⟨#[41]⟩, 0, q, 0, 0⟩])) = (opnd fnd ((roundT s).length : Int) (3 * us.length + 9 + 1) 0 (Res.tk ⟨4, ⟨#[40]⟩, 0, 0, 0, 0⟩ :: (us ++ [Res.tk ⟨4, ⟨#[41]⟩, 0, q, 0, 0⟩]))).then fun e r => binL fnd ((roundT s).length : Int) (3 * us.length + 9 + 1) 1 0 e r := by
        simp only [binE]
      rw [hbE, ho]
      rcases hd with hd | ⟨p, hd⟩
      · right
        refine ⟨f, ?_, hbare⟩
        rw [hd]
        simp only [PR.then_ok, List.nil_append]
        rw [show need ((roundT s).length : Int) [41] [Res.tk ⟨4, ⟨#[41]⟩, 0, q, 0, 0⟩] = .ok () [] from rfl]
        simp only [PR.then_ok, binL]
        rfl
      · left
        refine ⟨p, ?_⟩
        rw [hd]
        rfl
theorem round_empty : said_E ⟨#[40, 10, 41]⟩ = (none, 30, 2, 2) := by
  have h := said_list (l := [40, 10, 41]) (by decide) (by kernel_rfl)
  rw [show (⟨#[40, 10, 41]⟩ : ByteArray) = ⟨[40, 10, 41].toArray⟩ from rfl, h]
  have key : endR (endP (binE fnd (3 : Int) (fuel ((restL 0 [40, 10, 41]).1.map Res.tk)) 1 0 ((restL 0 [40, 10, 41]).1.map Res.tk))) = (none, 30, 2, 2) := by kernel_rfl
  exact key
theorem bare_same : ∀ (e f : Ex), e.bare = f.bare → sameE e f = true := by
  intro e
  induction e using Ex.ind with
  | h k o wd nm ks ps ih =>
    intro f hf
    obtain ⟨k', o', wd', nm', ks', ps'⟩ := f
    simp only [Ex.bare, Ex.mk.injEq] at hf
    obtain ⟨rfl, rfl, rfl, rfl, hk, _⟩ := hf
    simp only [sameE, beq_self_eq_true, Bool.true_and]
    clear ps ps'
    induction ks generalizing ks' with
    | nil =>
      cases ks' with
      | nil => rfl
      | cons y s => simp [exsBare] at hk
    | cons x r ihr =>
      cases ks' with
      | nil => simp [exsBare] at hk
      | cons y s =>
        simp only [exsBare, List.cons.injEq] at hk
        simp only [sameEs, Bool.and_eq_true]
        exact ⟨ih x (.head _) y hk.1, ihr (fun z hz => ih z (.tail _ hz)) s hk.2⟩
end Go.Proofs.YtjpmdafaaonpoaaDoor

namespace Go.Proofs.YtjpmdafaaonpoaaDoor
open Go.RowKit
set_option linter.unusedVariables false
theorem wh_row {w w' : World} {r : Option Ex × Int × Int × Int} {e : Ending} (h : WhPost w zEx exR r e w') : Below w.heap.size w w' ∧ ∃ VV : Array Value, e = .returned (.tuple #[.agg VV, .int .i64 r.2.1, .agg #[.int .i64 r.2.2.1, .int .i64 r.2.2.2]]) ∧ VV.size = 6 ∧ VV.all (·.oneCell') = true ∧ ∀ x, r.1 = some x → exA w' x (.agg VV) := by
  obtain ⟨hb, v, rfl, hv⟩ := h
  refine ⟨hb, ?_⟩
  obtain ⟨r1, r2, r3, r4⟩ := r
  cases r1 with
  | none =>
    obtain rfl : v = .agg zEx := hv
    exact ⟨_, rfl, rfl, by kernel_rfl, fun x hx => by cases hx⟩
  | some x =>
    have hv : exR w.heap.size x v w' := hv
    have ha := exA_of hv
    obtain ⟨a, cap, rfl, _⟩ := hv
    exact ⟨_, rfl, rfl, by kernel_rfl, fun y hy => by cases hy; exact ha⟩
theorem etx_of {s : ByteArray} {r : Option Ex × Int × Int × Int} (h : said_E ⟨(roundT s).toArray⟩ = r) : Hid (∀ t : ByteArray, t.data.toList = roundT s → said_E t = r) := fun t ht => by
  have : t = ⟨(roundT s).toArray⟩ := ByteArray.ext (Array.ext' (by rw [ht]))
  rw [this]; exact h
theorem said_none {s : ByteArray} {a b c : Int} (h : said_E s = (none, a, b, c)) : a = 4 ∨ a = 30 := by
  unfold said_E wholeR at h
  split at h
  · cases h; exact .inl rfl
  · split at h
    · cases h; exact .inr rfl
    · revert h
      generalize endP _ = Z
      intro h
      cases Z with
      | ok x r => simp only [endR] at h; cases h
      | bad p q => simp only [endR] at h; cases h; exact .inr rfl
theorem exA_below {w w' : World} {e : Ex} {v : Value} (h : exA w e v) (hb : Below w.heap.size w w') : exA w' e v := by
  obtain ⟨a, cap, h1, h2⟩ := h
  exact ⟨a, cap, h1, exsAt_below h2 hb⟩
set_option maxRecDepth 100000 in
set_option maxHeartbeats 8000000 in
theorem round_bb4 (s : ByteArray) (w : World) (TT : LTabs w ∧ Tabs w) (hs : s.size ≤ 281474976710656) {a b c b2 c2 : Int} (h1 : said_E s = (none, a, b, c)) (h2 : said_E ⟨(roundT s).toArray⟩ = (none, 4, b2, c2)) (ha : (a == 0) = false) : Calls Tryd.prog 5 #[.string s] w fun e w' => e = .returned (.bool true) ∧ Below w.heap.size w w' := by
  have HL := Lib.hid (p_lives TT.1 TT.2)
  have HX : Hid (∀ s W, Below w.heap.size w W → Calls Tryd.prog 7 #[.string s] W fun e w' => Below W.heap.size W w' ∧ ∃ VV : Array Value, e = .returned (.tuple #[.agg VV, .int .i64 (said_E s).2.1, .agg #[.int .i64 (said_E s).2.2.1, .int .i64 (said_E s).2.2.2]]) ∧ VV.size = 6 ∧ VV.all (·.oneCell') = true ∧ ∀ x, (said_E s).1 = some x → exA w' x (.agg VV)) := fun s W hb => (p_Expr s (TT.1.below (Nat.le_refl _) hb) (TT.2.below (Nat.le_refl _) hb)).mono fun e w' h => wh_row h
  have HR1 := Lib.hid h1
  have HR2 := Lib.hid h2
  clear h1 h2
  have ETX := etx_of HR2.out
  clear TT
  go_enter Tryd.func5, Tryd.ntmps5
  go_wp2_with fail
  go_at_call 9
  refine (HL.out).mono ?_
  rintro e w1 ⟨rfl, hb1⟩
  have HB1 := Lib.hid hb1
  clear hb1
  go_wp2_with fail
  go_at_call 7
  refine (HX.out _ _ HB1.out).mono ?_
  rintro e w2 ⟨hb2, V1, rfl, hz1, ho1, hv1⟩
  rw [HR1.out] at hv1 ⊢
  have HV1 := Lib.hid hv1
  have HZ1 := Lib.hid (And.intro hz1 ho1)
  have Z1 := (Own.new w2 26 #[.int .u8 0, .int .u8 0, .int .i64 0, .string ⟨#[]⟩, .slice none 0 0, .int .i64 0]).alloc (.cells #[.int .i64 0, .int .i64 0] 29)
  have Z2 := Own.new (w2.alloc (.cells #[.int .u8 0, .int .u8 0, .int .i64 0, .string ⟨#[]⟩, .slice none 0 0, .int .i64 0] 26)) 29 #[.int .i64 0, .int .i64 0]
  rw [World.size_alloc] at Z2
  have Z2' := Z2.other (g := w2.heap.size) V1 (by omega)
  have P1 := Lib.hid ((Z1.row V1).other (g := w2.heap.size + 1) #[.int .i64 b, .int .i64 c] (by omega))
  have B3 := Below.of_row (Below.of_row (((Below.refl w2.heap.size w2).alloc (Nat.le_refl _) (.cells #[.int .u8 0, .int .u8 0, .int .i64 0, .string ⟨#[]⟩, .slice none 0 0, .int .i64 0] 26)).alloc (by rw [World.size_alloc]; omega) (.cells #[.int .i64 0, .int .i64 0] 29)) (g := w2.heap.size) (Nat.le_refl _) V1) (g := w2.heap.size + 1) (by omega) #[.int .i64 b, .int .i64 c]
  have zz : Hid (((((w2.alloc (.cells #[.int .u8 0, .int .u8 0, .int .i64 0, .string ⟨#[]⟩, .slice none 0 0, .int .i64 0] 26)).alloc (.cells #[.int .i64 0, .int .i64 0] 29)).setRow w2.heap.size V1).setRow (w2.heap.size + 1) #[.int .i64 b, .int .i64 c]).heap.size = w2.heap.size + 2) := by simp only [Hid, size_setRow, World.size_alloc]
  have HB2 := Lib.hid ((HB1.out.trans (hb2.mono HB1.out.size)).trans (B3.mono (Nat.le_trans HB1.out.size hb2.size)))
  have HB3 := Lib.hid B3
  clear Z2 hb2 B3 hv1 hz1 ho1
  go_upto_region 4 with (first | (refine st rowEx rfl rfl Z1 rfl rfl HZ1.out.1 (by rfl) HZ1.out.2 ?_) | (refine st rowFl rfl rfl Z2' rfl rfl (by rfl) (by rfl) (by kernel_rfl) ?_))
  obtain ⟨W3, hW3⟩ : ∃ W, W = ((((w2.alloc (.cells #[.int .u8 0, .int .u8 0, .int .i64 0, .string ⟨#[]⟩, .slice none 0 0, .int .i64 0] 26)).alloc (.cells #[.int .i64 0, .int .i64 0] 29)).setRow w2.heap.size V1).setRow (w2.heap.size + 1) #[.int .i64 b, .int .i64 c]) := ⟨_, rfl⟩
  rw [← hW3] at P1 HB2 HB3 zz ⊢
  clear hW3 Z1 Z2'
  go_wp2_with fail
  go_at_call 7
  refine (HX.out _ _ HB2.out).mono ?_
  rintro e w4 ⟨hb4, V2, rfl, hz2, ho2, hv2⟩
  rw [ETX.out _ (by simp [roundT])] at hv2 ⊢
  have HV2 := Lib.hid hv2
  have HZ2 := Lib.hid (And.intro hz2 ho2)
  have Y1 := (Own.new w4 26 #[.int .u8 0, .int .u8 0, .int .i64 0, .string ⟨#[]⟩, .slice none 0 0, .int .i64 0]).alloc (.cells #[.int .i64 0, .int .i64 0] 29)
  have Y2 := Own.new (w4.alloc (.cells #[.int .u8 0, .int .u8 0, .int .i64 0, .string ⟨#[]⟩, .slice none 0 0, .int .i64 0] 26)) 29 #[.int .i64 0, .int .i64 0]
  rw [World.size_alloc] at Y2
  have Y2' := Y2.other (g := w4.heap.size) V2 (by omega)
  have P2 := Lib.hid ((Y1.row V2).other (g := w4.heap.size + 1) #[.int .i64 b2, .int .i64 c2] (by omega))
  have F2 := Lib.hid (Y2'.row #[.int .i64 b2, .int .i64 c2])
  have B5 := Below.of_row (Below.of_row (((Below.refl w4.heap.size w4).alloc (Nat.le_refl _) (.cells #[.int .u8 0, .int .u8 0, .int .i64 0, .string ⟨#[]⟩, .slice none 0 0, .int .i64 0] 26)).alloc (by rw [World.size_alloc]; omega) (.cells #[.int .i64 0, .int .i64 0] 29)) (g := w4.heap.size) (Nat.le_refl _) V2) (g := w4.heap.size + 1) (by omega) #[.int .i64 b2, .int .i64 c2]
  have P1 := Lib.hid ((P1.out.below hb4).below B5)
  have HB5 := Lib.hid B5
  have HB4 := Lib.hid hb4
  have HBZ := Lib.hid ((HB2.out.trans (hb4.mono HB2.out.size)).trans (B5.mono (Nat.le_trans HB2.out.size hb4.size)))
  clear Y2 hb4 B5 hv2 hz2 ho2
  go_upto_region 5 with (first | (refine st rowEx rfl rfl Y1 rfl rfl HZ2.out.1 (by rfl) HZ2.out.2 ?_) | (refine st rowFl rfl rfl Y2' rfl rfl (by rfl) (by rfl) (by kernel_rfl) ?_))
  obtain ⟨W5, hW5⟩ : ∃ W, W = ((((w4.alloc (.cells #[.int .u8 0, .int .u8 0, .int .i64 0, .string ⟨#[]⟩, .slice none 0 0, .int .i64 0] 26)).alloc (.cells #[.int .i64 0, .int .i64 0] 29)).setRow w4.heap.size V2).setRow (w4.heap.size + 1) #[.int .i64 b2, .int .i64 c2]) := ⟨_, rfl⟩
  rw [← hW5] at P1 P2 F2 HB5 HBZ ⊢
  clear hW5 Y1 Y2'
  go_wp2_with fail
  go_ret
  exact ⟨rfl, HBZ.out⟩
set_option maxRecDepth 100000 in
set_option maxHeartbeats 8000000 in
theorem round_bb30 (s : ByteArray) (w : World) (TT : LTabs w ∧ Tabs w) (hs : s.size ≤ 281474976710656) {a b c b2 c2 : Int} (h1 : said_E s = (none, a, b, c)) (h2 : said_E ⟨(roundT s).toArray⟩ = (none, 30, b2, c2)) (ha : (a == 0) = false) : Calls Tryd.prog 5 #[.string s] w fun e w' => e = .returned (.bool true) ∧ Below w.heap.size w w' := by
  have HL := Lib.hid (p_lives TT.1 TT.2)
  have HX : Hid (∀ s W, Below w.heap.size w W → Calls Tryd.prog 7 #[.string s] W fun e w' => Below W.heap.size W w' ∧ ∃ VV : Array Value, e = .returned (.tuple #[.agg VV, .int .i64 (said_E s).2.1, .agg #[.int .i64 (said_E s).2.2.1, .int .i64 (said_E s).2.2.2]]) ∧ VV.size = 6 ∧ VV.all (·.oneCell') = true ∧ ∀ x, (said_E s).1 = some x → exA w' x (.agg VV)) := fun s W hb => (p_Expr s (TT.1.below (Nat.le_refl _) hb) (TT.2.below (Nat.le_refl _) hb)).mono fun e w' h => wh_row h
  have HR1 := Lib.hid h1
  have HR2 := Lib.hid h2
  clear h1 h2
  have ETX := etx_of HR2.out
  clear TT
  go_enter Tryd.func5, Tryd.ntmps5
  go_wp2_with fail
  go_at_call 9
  refine (HL.out).mono ?_
  rintro e w1 ⟨rfl, hb1⟩
  have HB1 := Lib.hid hb1
  clear hb1
  go_wp2_with fail
  go_at_call 7
  refine (HX.out _ _ HB1.out).mono ?_
  rintro e w2 ⟨hb2, V1, rfl, hz1, ho1, hv1⟩
  rw [HR1.out] at hv1 ⊢
  have HV1 := Lib.hid hv1
  have HZ1 := Lib.hid (And.intro hz1 ho1)
  have Z1 := (Own.new w2 26 #[.int .u8 0, .int .u8 0, .int .i64 0, .string ⟨#[]⟩, .slice none 0 0, .int .i64 0]).alloc (.cells #[.int .i64 0, .int .i64 0] 29)
  have Z2 := Own.new (w2.alloc (.cells #[.int .u8 0, .int .u8 0, .int .i64 0, .string ⟨#[]⟩, .slice none 0 0, .int .i64 0] 26)) 29 #[.int .i64 0, .int .i64 0]
  rw [World.size_alloc] at Z2
  have Z2' := Z2.other (g := w2.heap.size) V1 (by omega)
  have P1 := Lib.hid ((Z1.row V1).other (g := w2.heap.size + 1) #[.int .i64 b, .int .i64 c] (by omega))
  have B3 := Below.of_row (Below.of_row (((Below.refl w2.heap.size w2).alloc (Nat.le_refl _) (.cells #[.int .u8 0, .int .u8 0, .int .i64 0, .string ⟨#[]⟩, .slice none 0 0, .int .i64 0] 26)).alloc (by rw [World.size_alloc]; omega) (.cells #[.int .i64 0, .int .i64 0] 29)) (g := w2.heap.size) (Nat.le_refl _) V1) (g := w2.heap.size + 1) (by omega) #[.int .i64 b, .int .i64 c]
  have zz : Hid (((((w2.alloc (.cells #[.int .u8 0, .int .u8 0, .int .i64 0, .string ⟨#[]⟩, .slice none 0 0, .int .i64 0] 26)).alloc (.cells #[.int .i64 0, .int .i64 0] 29)).setRow w2.heap.size V1).setRow (w2.heap.size + 1) #[.int .i64 b, .int .i64 c]).heap.size = w2.heap.size + 2) := by simp only [Hid, size_setRow, World.size_alloc]
  have HB2 := Lib.hid ((HB1.out.trans (hb2.mono HB1.out.size)).trans (B3.mono (Nat.le_trans HB1.out.size hb2.size)))
  have HB3 := Lib.hid B3
  clear Z2 hb2 B3 hv1 hz1 ho1
  go_upto_region 4 with (first | (refine st rowEx rfl rfl Z1 rfl rfl HZ1.out.1 (by rfl) HZ1.out.2 ?_) | (refine st rowFl rfl rfl Z2' rfl rfl (by rfl) (by rfl) (by kernel_rfl) ?_))
  obtain ⟨W3, hW3⟩ : ∃ W, W = ((((w2.alloc (.cells #[.int .u8 0, .int .u8 0, .int .i64 0, .string ⟨#[]⟩, .slice none 0 0, .int .i64 0] 26)).alloc (.cells #[.int .i64 0, .int .i64 0] 29)).setRow w2.heap.size V1).setRow (w2.heap.size + 1) #[.int .i64 b, .int .i64 c]) := ⟨_, rfl⟩
  rw [← hW3] at P1 HB2 HB3 zz ⊢
  clear hW3 Z1 Z2'
  go_wp2_with fail
  go_at_call 7
  refine (HX.out _ _ HB2.out).mono ?_
  rintro e w4 ⟨hb4, V2, rfl, hz2, ho2, hv2⟩
  rw [ETX.out _ (by simp [roundT])] at hv2 ⊢
  have HV2 := Lib.hid hv2
  have HZ2 := Lib.hid (And.intro hz2 ho2)
  have Y1 := (Own.new w4 26 #[.int .u8 0, .int .u8 0, .int .i64 0, .string ⟨#[]⟩, .slice none 0 0, .int .i64 0]).alloc (.cells #[.int .i64 0, .int .i64 0] 29)
  have Y2 := Own.new (w4.alloc (.cells #[.int .u8 0, .int .u8 0, .int .i64 0, .string ⟨#[]⟩, .slice none 0 0, .int .i64 0] 26)) 29 #[.int .i64 0, .int .i64 0]
  rw [World.size_alloc] at Y2
  have Y2' := Y2.other (g := w4.heap.size) V2 (by omega)
  have P2 := Lib.hid ((Y1.row V2).other (g := w4.heap.size + 1) #[.int .i64 b2, .int .i64 c2] (by omega))
  have F2 := Lib.hid (Y2'.row #[.int .i64 b2, .int .i64 c2])
  have B5 := Below.of_row (Below.of_row (((Below.refl w4.heap.size w4).alloc (Nat.le_refl _) (.cells #[.int .u8 0, .int .u8 0, .int .i64 0, .string ⟨#[]⟩, .slice none 0 0, .int .i64 0] 26)).alloc (by rw [World.size_alloc]; omega) (.cells #[.int .i64 0, .int .i64 0] 29)) (g := w4.heap.size) (Nat.le_refl _) V2) (g := w4.heap.size + 1) (by omega) #[.int .i64 b2, .int .i64 c2]
  have P1 := Lib.hid ((P1.out.below hb4).below B5)
  have HB5 := Lib.hid B5
  have HB4 := Lib.hid hb4
  have HBZ := Lib.hid ((HB2.out.trans (hb4.mono HB2.out.size)).trans (B5.mono (Nat.le_trans HB2.out.size hb4.size)))
  clear Y2 hb4 B5 hv2 hz2 ho2
  go_upto_region 5 with (first | (refine st rowEx rfl rfl Y1 rfl rfl HZ2.out.1 (by rfl) HZ2.out.2 ?_) | (refine st rowFl rfl rfl Y2' rfl rfl (by rfl) (by rfl) (by kernel_rfl) ?_))
  obtain ⟨W5, hW5⟩ : ∃ W, W = ((((w4.alloc (.cells #[.int .u8 0, .int .u8 0, .int .i64 0, .string ⟨#[]⟩, .slice none 0 0, .int .i64 0] 26)).alloc (.cells #[.int .i64 0, .int .i64 0] 29)).setRow w4.heap.size V2).setRow (w4.heap.size + 1) #[.int .i64 b2, .int .i64 c2]) := ⟨_, rfl⟩
  rw [← hW5] at P1 P2 F2 HB5 HBZ ⊢
  clear hW5 Y1 Y2'
  go_wp2_with fail
  go_ret
  exact ⟨rfl, HBZ.out⟩
set_option maxRecDepth 100000 in
set_option maxHeartbeats 8000000 in
theorem round_bg (s : ByteArray) (w : World) (TT : LTabs w ∧ Tabs w) (hs : s.size ≤ 281474976710656) {a b c : Int} {f : Ex} (h1 : said_E s = (none, a, b, c)) (h2 : said_E ⟨(roundT s).toArray⟩ = (some f, 0, 0, 0)) (ha : (a == 0) = false) (hpos : decide ((0 : Int) < (s.size : Int)) = true) : Calls Tryd.prog 5 #[.string s] w fun e w' => e = .returned (.bool true) ∧ Below w.heap.size w w' := by
  have HL := Lib.hid (p_lives TT.1 TT.2)
  have HX : Hid (∀ s W, Below w.heap.size w W → Calls Tryd.prog 7 #[.string s] W fun e w' => Below W.heap.size W w' ∧ ∃ VV : Array Value, e = .returned (.tuple #[.agg VV, .int .i64 (said_E s).2.1, .agg #[.int .i64 (said_E s).2.2.1, .int .i64 (said_E s).2.2.2]]) ∧ VV.size = 6 ∧ VV.all (·.oneCell') = true ∧ ∀ x, (said_E s).1 = some x → exA w' x (.agg VV)) := fun s W hb => (p_Expr s (TT.1.below (Nat.le_refl _) hb) (TT.2.below (Nat.le_refl _) hb)).mono fun e w' h => wh_row h
  have HR1 := Lib.hid h1
  have HR2 := Lib.hid h2
  have hpn : decide (0 < s.size) = true := by simpa using hpos
  clear h1 h2
  have ETX := etx_of HR2.out
  clear TT
  go_enter Tryd.func5, Tryd.ntmps5
  go_wp2_with fail
  go_at_call 9
  refine (HL.out).mono ?_
  rintro e w1 ⟨rfl, hb1⟩
  have HB1 := Lib.hid hb1
  clear hb1
  go_wp2_with fail
  go_at_call 7
  refine (HX.out _ _ HB1.out).mono ?_
  rintro e w2 ⟨hb2, V1, rfl, hz1, ho1, hv1⟩
  rw [HR1.out] at hv1 ⊢
  have HV1 := Lib.hid hv1
  have HZ1 := Lib.hid (And.intro hz1 ho1)
  have Z1 := (Own.new w2 26 #[.int .u8 0, .int .u8 0, .int .i64 0, .string ⟨#[]⟩, .slice none 0 0, .int .i64 0]).alloc (.cells #[.int .i64 0, .int .i64 0] 29)
  have Z2 := Own.new (w2.alloc (.cells #[.int .u8 0, .int .u8 0, .int .i64 0, .string ⟨#[]⟩, .slice none 0 0, .int .i64 0] 26)) 29 #[.int .i64 0, .int .i64 0]
  rw [World.size_alloc] at Z2
  have Z2' := Z2.other (g := w2.heap.size) V1 (by omega)
  have P1 := Lib.hid ((Z1.row V1).other (g := w2.heap.size + 1) #[.int .i64 b, .int .i64 c] (by omega))
  have B3 := Below.of_row (Below.of_row (((Below.refl w2.heap.size w2).alloc (Nat.le_refl _) (.cells #[.int .u8 0, .int .u8 0, .int .i64 0, .string ⟨#[]⟩, .slice none 0 0, .int .i64 0] 26)).alloc (by rw [World.size_alloc]; omega) (.cells #[.int .i64 0, .int .i64 0] 29)) (g := w2.heap.size) (Nat.le_refl _) V1) (g := w2.heap.size + 1) (by omega) #[.int .i64 b, .int .i64 c]
  have zz : Hid (((((w2.alloc (.cells #[.int .u8 0, .int .u8 0, .int .i64 0, .string ⟨#[]⟩, .slice none 0 0, .int .i64 0] 26)).alloc (.cells #[.int .i64 0, .int .i64 0] 29)).setRow w2.heap.size V1).setRow (w2.heap.size + 1) #[.int .i64 b, .int .i64 c]).heap.size = w2.heap.size + 2) := by simp only [Hid, size_setRow, World.size_alloc]
  have HB2 := Lib.hid ((HB1.out.trans (hb2.mono HB1.out.size)).trans (B3.mono (Nat.le_trans HB1.out.size hb2.size)))
  have HB3 := Lib.hid B3
  clear Z2 hb2 B3 hv1 hz1 ho1
  go_upto_region 4 with (first | (refine st rowEx rfl rfl Z1 rfl rfl HZ1.out.1 (by rfl) HZ1.out.2 ?_) | (refine st rowFl rfl rfl Z2' rfl rfl (by rfl) (by rfl) (by kernel_rfl) ?_))
  obtain ⟨W3, hW3⟩ : ∃ W, W = ((((w2.alloc (.cells #[.int .u8 0, .int .u8 0, .int .i64 0, .string ⟨#[]⟩, .slice none 0 0, .int .i64 0] 26)).alloc (.cells #[.int .i64 0, .int .i64 0] 29)).setRow w2.heap.size V1).setRow (w2.heap.size + 1) #[.int .i64 b, .int .i64 c]) := ⟨_, rfl⟩
  rw [← hW3] at P1 HB2 HB3 zz ⊢
  clear hW3 Z1 Z2'
  go_wp2_with fail
  go_at_call 7
  refine (HX.out _ _ HB2.out).mono ?_
  rintro e w4 ⟨hb4, V2, rfl, hz2, ho2, hv2⟩
  rw [ETX.out _ (by simp [roundT])] at hv2 ⊢
  have HV2 := Lib.hid hv2
  have HZ2 := Lib.hid (And.intro hz2 ho2)
  have Y1 := (Own.new w4 26 #[.int .u8 0, .int .u8 0, .int .i64 0, .string ⟨#[]⟩, .slice none 0 0, .int .i64 0]).alloc (.cells #[.int .i64 0, .int .i64 0] 29)
  have Y2 := Own.new (w4.alloc (.cells #[.int .u8 0, .int .u8 0, .int .i64 0, .string ⟨#[]⟩, .slice none 0 0, .int .i64 0] 26)) 29 #[.int .i64 0, .int .i64 0]
  rw [World.size_alloc] at Y2
  have Y2' := Y2.other (g := w4.heap.size) V2 (by omega)
  have P2 := Lib.hid ((Y1.row V2).other (g := w4.heap.size + 1) #[.int .i64 0, .int .i64 0] (by omega))
  have F2 := Lib.hid (Y2'.row #[.int .i64 0, .int .i64 0])
  have B5 := Below.of_row (Below.of_row (((Below.refl w4.heap.size w4).alloc (Nat.le_refl _) (.cells #[.int .u8 0, .int .u8 0, .int .i64 0, .string ⟨#[]⟩, .slice none 0 0, .int .i64 0] 26)).alloc (by rw [World.size_alloc]; omega) (.cells #[.int .i64 0, .int .i64 0] 29)) (g := w4.heap.size) (Nat.le_refl _) V2) (g := w4.heap.size + 1) (by omega) #[.int .i64 0, .int .i64 0]
  have P1 := Lib.hid ((P1.out.below hb4).below B5)
  have HB5 := Lib.hid B5
  have HB4 := Lib.hid hb4
  have HBZ := Lib.hid ((HB2.out.trans (hb4.mono HB2.out.size)).trans (B5.mono (Nat.le_trans HB2.out.size hb4.size)))
  clear Y2 hb4 B5 hv2 hz2 ho2
  go_upto_region 5 with (first | (refine st rowEx rfl rfl Y1 rfl rfl HZ2.out.1 (by rfl) HZ2.out.2 ?_) | (refine st rowFl rfl rfl Y2' rfl rfl (by rfl) (by rfl) (by kernel_rfl) ?_))
  obtain ⟨W5, hW5⟩ : ∃ W, W = ((((w4.alloc (.cells #[.int .u8 0, .int .u8 0, .int .i64 0, .string ⟨#[]⟩, .slice none 0 0, .int .i64 0] 26)).alloc (.cells #[.int .i64 0, .int .i64 0] 29)).setRow w4.heap.size V2).setRow (w4.heap.size + 1) #[.int .i64 0, .int .i64 0]) := ⟨_, rfl⟩
  rw [← hW5] at P1 P2 F2 HB5 HBZ ⊢
  clear hW5 Y1 Y2'
  go_wp2_with fail
  go_ret
  exact ⟨rfl, HBZ.out⟩
set_option maxRecDepth 100000 in
set_option maxHeartbeats 8000000 in
theorem round_gl (s : ByteArray) (w : World) (TT : LTabs w ∧ Tabs w) (hs : s.size ≤ 281474976710656) {e : Ex} (h1 : said_E s = (some e, 0, 0, 0)) (h2 : said_E ⟨(roundT s).toArray⟩ = (none, 4, 0, 0)) (hbig : 65536 < s.size + 3) : Calls Tryd.prog 5 #[.string s] w fun e w' => e = .returned (.bool true) ∧ Below w.heap.size w w' := by
  have HL := Lib.hid (p_lives TT.1 TT.2)
  have HX : Hid (∀ s W, Below w.heap.size w W → Calls Tryd.prog 7 #[.string s] W fun e w' => Below W.heap.size W w' ∧ ∃ VV : Array Value, e = .returned (.tuple #[.agg VV, .int .i64 (said_E s).2.1, .agg #[.int .i64 (said_E s).2.2.1, .int .i64 (said_E s).2.2.2]]) ∧ VV.size = 6 ∧ VV.all (·.oneCell') = true ∧ ∀ x, (said_E s).1 = some x → exA w' x (.agg VV)) := fun s W hb => (p_Expr s (TT.1.below (Nat.le_refl _) hb) (TT.2.below (Nat.le_refl _) hb)).mono fun e w' h => wh_row h
  have HR1 := Lib.hid h1
  have HR2 := Lib.hid h2
  have hbg : decide ((65536 : Int) < (s.size : Int) + 3) = true := by simp; omega
  clear h1 h2 hbig
  have ETX := etx_of HR2.out
  clear TT
  go_enter Tryd.func5, Tryd.ntmps5
  go_wp2_with fail
  go_at_call 9
  refine (HL.out).mono ?_
  rintro e w1 ⟨rfl, hb1⟩
  have HB1 := Lib.hid hb1
  clear hb1
  go_wp2_with fail
  go_at_call 7
  refine (HX.out _ _ HB1.out).mono ?_
  rintro e w2 ⟨hb2, V1, rfl, hz1, ho1, hv1⟩
  rw [HR1.out] at hv1 ⊢
  have HV1 := Lib.hid hv1
  have HZ1 := Lib.hid (And.intro hz1 ho1)
  have Z1 := (Own.new w2 26 #[.int .u8 0, .int .u8 0, .int .i64 0, .string ⟨#[]⟩, .slice none 0 0, .int .i64 0]).alloc (.cells #[.int .i64 0, .int .i64 0] 29)
  have Z2 := Own.new (w2.alloc (.cells #[.int .u8 0, .int .u8 0, .int .i64 0, .string ⟨#[]⟩, .slice none 0 0, .int .i64 0] 26)) 29 #[.int .i64 0, .int .i64 0]
  rw [World.size_alloc] at Z2
  have Z2' := Z2.other (g := w2.heap.size) V1 (by omega)
  have P1 := Lib.hid ((Z1.row V1).other (g := w2.heap.size + 1) #[.int .i64 0, .int .i64 0] (by omega))
  have B3 := Below.of_row (Below.of_row (((Below.refl w2.heap.size w2).alloc (Nat.le_refl _) (.cells #[.int .u8 0, .int .u8 0, .int .i64 0, .string ⟨#[]⟩, .slice none 0 0, .int .i64 0] 26)).alloc (by rw [World.size_alloc]; omega) (.cells #[.int .i64 0, .int .i64 0] 29)) (g := w2.heap.size) (Nat.le_refl _) V1) (g := w2.heap.size + 1) (by omega) #[.int .i64 0, .int .i64 0]
  have zz : Hid (((((w2.alloc (.cells #[.int .u8 0, .int .u8 0, .int .i64 0, .string ⟨#[]⟩, .slice none 0 0, .int .i64 0] 26)).alloc (.cells #[.int .i64 0, .int .i64 0] 29)).setRow w2.heap.size V1).setRow (w2.heap.size + 1) #[.int .i64 0, .int .i64 0]).heap.size = w2.heap.size + 2) := by simp only [Hid, size_setRow, World.size_alloc]
  have HB2 := Lib.hid ((HB1.out.trans (hb2.mono HB1.out.size)).trans (B3.mono (Nat.le_trans HB1.out.size hb2.size)))
  have HB3 := Lib.hid B3
  clear Z2 hb2 B3 hv1 hz1 ho1
  go_upto_region 4 with (first | (refine st rowEx rfl rfl Z1 rfl rfl HZ1.out.1 (by rfl) HZ1.out.2 ?_) | (refine st rowFl rfl rfl Z2' rfl rfl (by rfl) (by rfl) (by kernel_rfl) ?_))
  obtain ⟨W3, hW3⟩ : ∃ W, W = ((((w2.alloc (.cells #[.int .u8 0, .int .u8 0, .int .i64 0, .string ⟨#[]⟩, .slice none 0 0, .int .i64 0] 26)).alloc (.cells #[.int .i64 0, .int .i64 0] 29)).setRow w2.heap.size V1).setRow (w2.heap.size + 1) #[.int .i64 0, .int .i64 0]) := ⟨_, rfl⟩
  rw [← hW3] at P1 HB2 HB3 zz ⊢
  clear hW3 Z1 Z2'
  go_wp2_with fail
  go_at_call 7
  refine (HX.out _ _ HB2.out).mono ?_
  rintro e w4 ⟨hb4, V2, rfl, hz2, ho2, hv2⟩
  rw [ETX.out _ (by simp [roundT])] at hv2 ⊢
  have HV2 := Lib.hid hv2
  have HZ2 := Lib.hid (And.intro hz2 ho2)
  have Y1 := (Own.new w4 26 #[.int .u8 0, .int .u8 0, .int .i64 0, .string ⟨#[]⟩, .slice none 0 0, .int .i64 0]).alloc (.cells #[.int .i64 0, .int .i64 0] 29)
  have Y2 := Own.new (w4.alloc (.cells #[.int .u8 0, .int .u8 0, .int .i64 0, .string ⟨#[]⟩, .slice none 0 0, .int .i64 0] 26)) 29 #[.int .i64 0, .int .i64 0]
  rw [World.size_alloc] at Y2
  have Y2' := Y2.other (g := w4.heap.size) V2 (by omega)
  have P2 := Lib.hid ((Y1.row V2).other (g := w4.heap.size + 1) #[.int .i64 0, .int .i64 0] (by omega))
  have F2 := Lib.hid (Y2'.row #[.int .i64 0, .int .i64 0])
  have B5 := Below.of_row (Below.of_row (((Below.refl w4.heap.size w4).alloc (Nat.le_refl _) (.cells #[.int .u8 0, .int .u8 0, .int .i64 0, .string ⟨#[]⟩, .slice none 0 0, .int .i64 0] 26)).alloc (by rw [World.size_alloc]; omega) (.cells #[.int .i64 0, .int .i64 0] 29)) (g := w4.heap.size) (Nat.le_refl _) V2) (g := w4.heap.size + 1) (by omega) #[.int .i64 0, .int .i64 0]
  have P1 := Lib.hid ((P1.out.below hb4).below B5)
  have HB5 := Lib.hid B5
  have HB4 := Lib.hid hb4
  have HBZ := Lib.hid ((HB2.out.trans (hb4.mono HB2.out.size)).trans (B5.mono (Nat.le_trans HB2.out.size hb4.size)))
  clear Y2 hb4 B5 hv2 hz2 ho2
  go_upto_region 5 with (first | (refine st rowEx rfl rfl Y1 rfl rfl HZ2.out.1 (by rfl) HZ2.out.2 ?_) | (refine st rowFl rfl rfl Y2' rfl rfl (by rfl) (by rfl) (by kernel_rfl) ?_))
  obtain ⟨W5, hW5⟩ : ∃ W, W = ((((w4.alloc (.cells #[.int .u8 0, .int .u8 0, .int .i64 0, .string ⟨#[]⟩, .slice none 0 0, .int .i64 0] 26)).alloc (.cells #[.int .i64 0, .int .i64 0] 29)).setRow w4.heap.size V2).setRow (w4.heap.size + 1) #[.int .i64 0, .int .i64 0]) := ⟨_, rfl⟩
  rw [← hW5] at P1 P2 F2 HB5 HBZ ⊢
  clear hW5 Y1 Y2'
  go_wp2_with fail
  go_ret
  exact ⟨rfl, HBZ.out⟩
set_option maxRecDepth 100000 in
set_option maxHeartbeats 8000000 in
theorem round_g3 (s : ByteArray) (w : World) (TT : LTabs w ∧ Tabs w) (hs : s.size ≤ 281474976710656) {e : Ex} {p : Int} (h1 : said_E s = (some e, 0, 0, 0)) (h2 : said_E ⟨(roundT s).toArray⟩ = (none, 30, p, 3)) : Calls Tryd.prog 5 #[.string s] w fun e w' => e = .returned (.bool true) ∧ Below w.heap.size w w' := by
  have HL := Lib.hid (p_lives TT.1 TT.2)
  have HX : Hid (∀ s W, Below w.heap.size w W → Calls Tryd.prog 7 #[.string s] W fun e w' => Below W.heap.size W w' ∧ ∃ VV : Array Value, e = .returned (.tuple #[.agg VV, .int .i64 (said_E s).2.1, .agg #[.int .i64 (said_E s).2.2.1, .int .i64 (said_E s).2.2.2]]) ∧ VV.size = 6 ∧ VV.all (·.oneCell') = true ∧ ∀ x, (said_E s).1 = some x → exA w' x (.agg VV)) := fun s W hb => (p_Expr s (TT.1.below (Nat.le_refl _) hb) (TT.2.below (Nat.le_refl _) hb)).mono fun e w' h => wh_row h
  have HR1 := Lib.hid h1
  have HR2 := Lib.hid h2
  clear h1 h2
  have ETX := etx_of HR2.out
  clear TT
  go_enter Tryd.func5, Tryd.ntmps5
  go_wp2_with fail
  go_at_call 9
  refine (HL.out).mono ?_
  rintro e w1 ⟨rfl, hb1⟩
  have HB1 := Lib.hid hb1
  clear hb1
  go_wp2_with fail
  go_at_call 7
  refine (HX.out _ _ HB1.out).mono ?_
  rintro e w2 ⟨hb2, V1, rfl, hz1, ho1, hv1⟩
  rw [HR1.out] at hv1 ⊢
  have HV1 := Lib.hid hv1
  have HZ1 := Lib.hid (And.intro hz1 ho1)
  have Z1 := (Own.new w2 26 #[.int .u8 0, .int .u8 0, .int .i64 0, .string ⟨#[]⟩, .slice none 0 0, .int .i64 0]).alloc (.cells #[.int .i64 0, .int .i64 0] 29)
  have Z2 := Own.new (w2.alloc (.cells #[.int .u8 0, .int .u8 0, .int .i64 0, .string ⟨#[]⟩, .slice none 0 0, .int .i64 0] 26)) 29 #[.int .i64 0, .int .i64 0]
  rw [World.size_alloc] at Z2
  have Z2' := Z2.other (g := w2.heap.size) V1 (by omega)
  have P1 := Lib.hid ((Z1.row V1).other (g := w2.heap.size + 1) #[.int .i64 0, .int .i64 0] (by omega))
  have B3 := Below.of_row (Below.of_row (((Below.refl w2.heap.size w2).alloc (Nat.le_refl _) (.cells #[.int .u8 0, .int .u8 0, .int .i64 0, .string ⟨#[]⟩, .slice none 0 0, .int .i64 0] 26)).alloc (by rw [World.size_alloc]; omega) (.cells #[.int .i64 0, .int .i64 0] 29)) (g := w2.heap.size) (Nat.le_refl _) V1) (g := w2.heap.size + 1) (by omega) #[.int .i64 0, .int .i64 0]
  have zz : Hid (((((w2.alloc (.cells #[.int .u8 0, .int .u8 0, .int .i64 0, .string ⟨#[]⟩, .slice none 0 0, .int .i64 0] 26)).alloc (.cells #[.int .i64 0, .int .i64 0] 29)).setRow w2.heap.size V1).setRow (w2.heap.size + 1) #[.int .i64 0, .int .i64 0]).heap.size = w2.heap.size + 2) := by simp only [Hid, size_setRow, World.size_alloc]
  have HB2 := Lib.hid ((HB1.out.trans (hb2.mono HB1.out.size)).trans (B3.mono (Nat.le_trans HB1.out.size hb2.size)))
  have HB3 := Lib.hid B3
  clear Z2 hb2 B3 hv1 hz1 ho1
  go_upto_region 4 with (first | (refine st rowEx rfl rfl Z1 rfl rfl HZ1.out.1 (by rfl) HZ1.out.2 ?_) | (refine st rowFl rfl rfl Z2' rfl rfl (by rfl) (by rfl) (by kernel_rfl) ?_))
  obtain ⟨W3, hW3⟩ : ∃ W, W = ((((w2.alloc (.cells #[.int .u8 0, .int .u8 0, .int .i64 0, .string ⟨#[]⟩, .slice none 0 0, .int .i64 0] 26)).alloc (.cells #[.int .i64 0, .int .i64 0] 29)).setRow w2.heap.size V1).setRow (w2.heap.size + 1) #[.int .i64 0, .int .i64 0]) := ⟨_, rfl⟩
  rw [← hW3] at P1 HB2 HB3 zz ⊢
  clear hW3 Z1 Z2'
  go_wp2_with fail
  go_at_call 7
  refine (HX.out _ _ HB2.out).mono ?_
  rintro e w4 ⟨hb4, V2, rfl, hz2, ho2, hv2⟩
  rw [ETX.out _ (by simp [roundT])] at hv2 ⊢
  have HV2 := Lib.hid hv2
  have HZ2 := Lib.hid (And.intro hz2 ho2)
  have Y1 := (Own.new w4 26 #[.int .u8 0, .int .u8 0, .int .i64 0, .string ⟨#[]⟩, .slice none 0 0, .int .i64 0]).alloc (.cells #[.int .i64 0, .int .i64 0] 29)
  have Y2 := Own.new (w4.alloc (.cells #[.int .u8 0, .int .u8 0, .int .i64 0, .string ⟨#[]⟩, .slice none 0 0, .int .i64 0] 26)) 29 #[.int .i64 0, .int .i64 0]
  rw [World.size_alloc] at Y2
  have Y2' := Y2.other (g := w4.heap.size) V2 (by omega)
  have P2 := Lib.hid ((Y1.row V2).other (g := w4.heap.size + 1) #[.int .i64 p, .int .i64 3] (by omega))
  have F2 := Lib.hid (Y2'.row #[.int .i64 p, .int .i64 3])
  have B5 := Below.of_row (Below.of_row (((Below.refl w4.heap.size w4).alloc (Nat.le_refl _) (.cells #[.int .u8 0, .int .u8 0, .int .i64 0, .string ⟨#[]⟩, .slice none 0 0, .int .i64 0] 26)).alloc (by rw [World.size_alloc]; omega) (.cells #[.int .i64 0, .int .i64 0] 29)) (g := w4.heap.size) (Nat.le_refl _) V2) (g := w4.heap.size + 1) (by omega) #[.int .i64 p, .int .i64 3]
  have P1 := Lib.hid ((P1.out.below hb4).below B5)
  have HB5 := Lib.hid B5
  have HB4 := Lib.hid hb4
  have HBZ := Lib.hid ((HB2.out.trans (hb4.mono HB2.out.size)).trans (B5.mono (Nat.le_trans HB2.out.size hb4.size)))
  clear Y2 hb4 B5 hv2 hz2 ho2
  go_upto_region 5 with (first | (refine st rowEx rfl rfl Y1 rfl rfl HZ2.out.1 (by rfl) HZ2.out.2 ?_) | (refine st rowFl rfl rfl Y2' rfl rfl (by rfl) (by rfl) (by kernel_rfl) ?_))
  obtain ⟨W5, hW5⟩ : ∃ W, W = ((((w4.alloc (.cells #[.int .u8 0, .int .u8 0, .int .i64 0, .string ⟨#[]⟩, .slice none 0 0, .int .i64 0] 26)).alloc (.cells #[.int .i64 0, .int .i64 0] 29)).setRow w4.heap.size V2).setRow (w4.heap.size + 1) #[.int .i64 p, .int .i64 3]) := ⟨_, rfl⟩
  rw [← hW5] at P1 P2 F2 HB5 HBZ ⊢
  clear hW5 Y1 Y2'
  have f1 : W5.cell? ⟨w4.heap.size + 1, 1, none⟩ = some (.int .i64 3) := by rw [cell_of_row _ _ 1 _ _ _ F2.out]; rfl
  go_wp2_with fail
  go_ret
  exact ⟨rfl, HBZ.out⟩
set_option maxRecDepth 100000 in
set_option maxHeartbeats 8000000 in
theorem round_gg (s : ByteArray) (w : World) (TT : LTabs w ∧ Tabs w) (hs : s.size ≤ 281474976710656) {e f : Ex} (h1 : said_E s = (some e, 0, 0, 0)) (h2 : said_E ⟨(roundT s).toArray⟩ = (some f, 0, 0, 0)) (hok : okE e) (hsame : sameE e f = true) : Calls Tryd.prog 5 #[.string s] w fun e w' => e = .returned (.bool true) ∧ Below w.heap.size w w' := by
  have HL := Lib.hid (p_lives TT.1 TT.2)
  have HX : Hid (∀ s W, Below w.heap.size w W → Calls Tryd.prog 7 #[.string s] W fun e w' => Below W.heap.size W w' ∧ ∃ VV : Array Value, e = .returned (.tuple #[.agg VV, .int .i64 (said_E s).2.1, .agg #[.int .i64 (said_E s).2.2.1, .int .i64 (said_E s).2.2.2]]) ∧ VV.size = 6 ∧ VV.all (·.oneCell') = true ∧ ∀ x, (said_E s).1 = some x → exA w' x (.agg VV)) := fun s W hb => (p_Expr s (TT.1.below (Nat.le_refl _) hb) (TT.2.below (Nat.le_refl _) hb)).mono fun e w' h => wh_row h
  have HR1 := Lib.hid h1
  have HR2 := Lib.hid h2
  have HOK := Lib.hid (And.intro hok hsame)
  clear h1 h2 hok hsame
  have ETX := etx_of HR2.out
  clear TT
  go_enter Tryd.func5, Tryd.ntmps5
  go_wp2_with fail
  go_at_call 9
  refine (HL.out).mono ?_
  rintro e w1 ⟨rfl, hb1⟩
  have HB1 := Lib.hid hb1
  clear hb1
  go_wp2_with fail
  go_at_call 7
  refine (HX.out _ _ HB1.out).mono ?_
  rintro e w2 ⟨hb2, V1, rfl, hz1, ho1, hv1⟩
  rw [HR1.out] at hv1 ⊢
  have HV1 := Lib.hid hv1
  have HZ1 := Lib.hid (And.intro hz1 ho1)
  have Z1 := (Own.new w2 26 #[.int .u8 0, .int .u8 0, .int .i64 0, .string ⟨#[]⟩, .slice none 0 0, .int .i64 0]).alloc (.cells #[.int .i64 0, .int .i64 0] 29)
  have Z2 := Own.new (w2.alloc (.cells #[.int .u8 0, .int .u8 0, .int .i64 0, .string ⟨#[]⟩, .slice none 0 0, .int .i64 0] 26)) 29 #[.int .i64 0, .int .i64 0]
  rw [World.size_alloc] at Z2
  have Z2' := Z2.other (g := w2.heap.size) V1 (by omega)
  have P1 := Lib.hid ((Z1.row V1).other (g := w2.heap.size + 1) #[.int .i64 0, .int .i64 0] (by omega))
  have B3 := Below.of_row (Below.of_row (((Below.refl w2.heap.size w2).alloc (Nat.le_refl _) (.cells #[.int .u8 0, .int .u8 0, .int .i64 0, .string ⟨#[]⟩, .slice none 0 0, .int .i64 0] 26)).alloc (by rw [World.size_alloc]; omega) (.cells #[.int .i64 0, .int .i64 0] 29)) (g := w2.heap.size) (Nat.le_refl _) V1) (g := w2.heap.size + 1) (by omega) #[.int .i64 0, .int .i64 0]
  have zz : Hid (((((w2.alloc (.cells #[.int .u8 0, .int .u8 0, .int .i64 0, .string ⟨#[]⟩, .slice none 0 0, .int .i64 0] 26)).alloc (.cells #[.int .i64 0, .int .i64 0] 29)).setRow w2.heap.size V1).setRow (w2.heap.size + 1) #[.int .i64 0, .int .i64 0]).heap.size = w2.heap.size + 2) := by simp only [Hid, size_setRow, World.size_alloc]
  have HB2 := Lib.hid ((HB1.out.trans (hb2.mono HB1.out.size)).trans (B3.mono (Nat.le_trans HB1.out.size hb2.size)))
  have HB3 := Lib.hid B3
  clear Z2 hb2 B3 hv1 hz1 ho1
  go_upto_region 4 with (first | (refine st rowEx rfl rfl Z1 rfl rfl HZ1.out.1 (by rfl) HZ1.out.2 ?_) | (refine st rowFl rfl rfl Z2' rfl rfl (by rfl) (by rfl) (by kernel_rfl) ?_))
  obtain ⟨W3, hW3⟩ : ∃ W, W = ((((w2.alloc (.cells #[.int .u8 0, .int .u8 0, .int .i64 0, .string ⟨#[]⟩, .slice none 0 0, .int .i64 0] 26)).alloc (.cells #[.int .i64 0, .int .i64 0] 29)).setRow w2.heap.size V1).setRow (w2.heap.size + 1) #[.int .i64 0, .int .i64 0]) := ⟨_, rfl⟩
  rw [← hW3] at P1 HB2 HB3 zz ⊢
  clear hW3 Z1 Z2'
  go_wp2_with fail
  go_at_call 7
  refine (HX.out _ _ HB2.out).mono ?_
  rintro e w4 ⟨hb4, V2, rfl, hz2, ho2, hv2⟩
  rw [ETX.out _ (by simp [roundT])] at hv2 ⊢
  have HV2 := Lib.hid hv2
  have HZ2 := Lib.hid (And.intro hz2 ho2)
  have Y1 := (Own.new w4 26 #[.int .u8 0, .int .u8 0, .int .i64 0, .string ⟨#[]⟩, .slice none 0 0, .int .i64 0]).alloc (.cells #[.int .i64 0, .int .i64 0] 29)
  have Y2 := Own.new (w4.alloc (.cells #[.int .u8 0, .int .u8 0, .int .i64 0, .string ⟨#[]⟩, .slice none 0 0, .int .i64 0] 26)) 29 #[.int .i64 0, .int .i64 0]
  rw [World.size_alloc] at Y2
  have Y2' := Y2.other (g := w4.heap.size) V2 (by omega)
  have P2 := Lib.hid ((Y1.row V2).other (g := w4.heap.size + 1) #[.int .i64 0, .int .i64 0] (by omega))
  have F2 := Lib.hid (Y2'.row #[.int .i64 0, .int .i64 0])
  have B5 := Below.of_row (Below.of_row (((Below.refl w4.heap.size w4).alloc (Nat.le_refl _) (.cells #[.int .u8 0, .int .u8 0, .int .i64 0, .string ⟨#[]⟩, .slice none 0 0, .int .i64 0] 26)).alloc (by rw [World.size_alloc]; omega) (.cells #[.int .i64 0, .int .i64 0] 29)) (g := w4.heap.size) (Nat.le_refl _) V2) (g := w4.heap.size + 1) (by omega) #[.int .i64 0, .int .i64 0]
  have P1 := Lib.hid ((P1.out.below hb4).below B5)
  have HB5 := Lib.hid B5
  have HB4 := Lib.hid hb4
  have HBZ := Lib.hid ((HB2.out.trans (hb4.mono HB2.out.size)).trans (B5.mono (Nat.le_trans HB2.out.size hb4.size)))
  clear Y2 hb4 B5 hv2 hz2 ho2
  go_upto_region 5 with (first | (refine st rowEx rfl rfl Y1 rfl rfl HZ2.out.1 (by rfl) HZ2.out.2 ?_) | (refine st rowFl rfl rfl Y2' rfl rfl (by rfl) (by rfl) (by kernel_rfl) ?_))
  obtain ⟨W5, hW5⟩ : ∃ W, W = ((((w4.alloc (.cells #[.int .u8 0, .int .u8 0, .int .i64 0, .string ⟨#[]⟩, .slice none 0 0, .int .i64 0] 26)).alloc (.cells #[.int .i64 0, .int .i64 0] 29)).setRow w4.heap.size V2).setRow (w4.heap.size + 1) #[.int .i64 0, .int .i64 0]) := ⟨_, rfl⟩
  rw [← hW5] at P1 P2 F2 HB5 HBZ ⊢
  clear hW5 Y1 Y2'
  have s1 := HB3.out.size
  have A1 : exA W5 e (.agg V1) := exA_below (exA_below (exA_below (HV1.out e rfl) HB3.out) HB4.out) HB5.out
  have A2 : exA W5 f (.agg V2) := exA_below (HV2.out f rfl) HB5.out
  have HC : Hid (Calls Tryd.prog 15 #[.agg V1, .agg V2] W5 fun e' w' => e' = .returned (.bool true) ∧ Below W5.heap.size W5 w') := by
    have := p_same e HOK.out.1 f _ _ _ A1 A2
    rw [HOK.out.2] at this
    exact this
  have o1 := P1.out
  have o2 := P2.out
  clear A1 A2 s1
  go_wp2_with (first | (refine ld rowEx rfl rfl rfl o1 HZ1.out.1 ?_) | (refine ld rowEx rfl rfl rfl o2 HZ2.out.1 ?_) | (go_at_call 15; refine (HC.out).mono ?_; rintro e w6 ⟨rfl, hb6⟩; have HB6 := Lib.hid hb6; clear hb6))
  go_ret
  exact ⟨rfl, HBZ.out.trans (HB6.out.mono HBZ.out.size)⟩
theorem round_walk (s : ByteArray) (hr : s.size ≤ reachBytes) (w : World) (TT : LTabs w ∧ Tabs w) : Calls Tryd.prog 5 #[.string s] w fun e w' => e = .returned (.bool true) ∧ Below w.heap.size w w' := by
  have hs : s.size ≤ 281474976710656 := by unfold reachBytes at hr; omega
  generalize h1 : said_E s = R1
  obtain ⟨r1, a, b, c⟩ := R1
  cases r1 with
  | none =>
    have ha := said_none h1
    have ha : (a == 0) = false := by rcases ha with rfl | rfl <;> rfl
    generalize h2 : said_E ⟨(roundT s).toArray⟩ = R2
    obtain ⟨r2, a2, b2, c2⟩ := R2
    cases r2 with
    | none =>
      rcases said_none h2 with rfl | rfl
      · exact round_bb4 s w TT hs h1 h2 ha
      · exact round_bb30 s w TT hs h1 h2 ha
    | some f =>
      obtain ⟨rfl, rfl, rfl, _⟩ := said_some h2
      by_cases hp : 0 < s.size
      · exact round_bg s w TT hs h1 h2 ha (by simp; omega)
      · have he : s.data.toList = [] := List.eq_nil_of_length_eq_zero (by rw [Array.length_toList]; show s.size = 0; omega)
        have : roundT s = [40, 10, 41] := by unfold roundT; rw [he]; rfl
        rw [this] at h2
        have h3 : said_E ⟨[40, 10, 41].toArray⟩ = (none, 30, 2, 2) := round_empty
        rw [h3] at h2
        cases h2
  | some e =>
    obtain ⟨rfl, rfl, rfl, _⟩ := said_some h1
    obtain ⟨hok, h2⟩ := round_said h1
    rcases h2 with ⟨h2, hbig⟩ | ⟨p, h2⟩ | ⟨f, h2, hb⟩
    · exact round_gl s w TT hs h1 h2 hbig
    · exact round_g3 s w TT hs h1 h2
    · exact round_gg s w TT hs h1 h2 hok (bare_same e f hb)
end Go.Proofs.YtjpmdafaaonpoaaDoor

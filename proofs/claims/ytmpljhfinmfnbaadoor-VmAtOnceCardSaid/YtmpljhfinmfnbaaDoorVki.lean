/- Memory in pages: newMemory. -/
import Derived.Test.YtmpljhfinmfnbaaDoorVkh
namespace Go.Proofs.YtmpljhfinmfnbaaDoor
open Go.RowKit Go.Shelf
set_option linter.unusedVariables false
set_option maxRecDepth 100000
attribute [local go_sem] Oper.semAt_some
set_option maxHeartbeats 4000000 in
theorem chunk1_nil (F : Fence) (n : Nat) (hF : F.fn 98) (hro : F.round = none) (l Bs cap : Nat) (a : Option Addr) (J : List (Nat × Nat) → World → Prop) (W : World) (hBs : W.cell? ⟨Bs, 0, none⟩ = some (.slice a 0 cap)) (h0 : J [] W) :
    CallsIn F n Tryd.prog 98 #[.func (.yield l) #[] #[], .pointer (some ⟨Bs, 0, none⟩), .pointer (some ⟨Bs + 1, 0, none⟩)] W fun e W' => (∃ v, e = .returned v) ∧ J [] W' := by
  refine callsIn_of_wp Tryd.func98 rfl hF ?_ hro
  simp only [Tryd.ntmps98, List.size_toArray, List.length_cons, List.length_nil, Nat.reduceAdd, Nat.reduceSub, Array.replicate_succ, Array.replicate_zero, List.push_toArray, List.append_toArray, List.nil_append, List.cons_append]
  gi_wp2
  gi_loopw [4] (fun i wr => i = .int .i64 0 ∧ wr = W) (fun _ _ => 0)
  case atStart => exact ⟨rfl, rfl⟩
  case round =>
    obtain ⟨rfl, rfl⟩ := hrel
    gi_wp2
    go_end0
    exact ⟨⟨_, rfl⟩, h0⟩
theorem not_ty {t u : TypeId} {cs : Array Value} {f : Nat × Nat} (h : (u == t) = false) : ¬ IsTy t (.cells cs u f) := fun ⟨_, _, e⟩ => by
  injection e with _ e
  subst e
  simp at h
def cutW (l : List Int) (k : Nat) : List Value := ((l.drop (32 * k)).take 32).map fun x => .int .i64 x
theorem cutW_len (l : List Int) (k : Nat) : (cutW l k).length = min 32 (l.length - 32 * k) := by simp [cutW]
theorem cutW_get (l : List Int) (k j : Nat) (v : Value) (h : (cutW l k)[j]? = some v) : ∃ x, l[32 * k + j]? = some x ∧ v = .int .i64 x := by
  unfold cutW at h
  rw [List.getElem?_map, List.getElem?_take] at h
  split at h
  · rw [List.getElem?_drop] at h
    cases e : l[32 * k + j]? with
    | none => rw [e] at h; cases h
    | some x => rw [e] at h; injection h with h; exact ⟨x, rfl, h.symm⟩
  · cases h
def zeroP : Array Value := #[.int .i64 0, .int .i64 0, .int .i64 0, .int .i64 0, .int .i64 0, .int .i64 0, .int .i64 0, .int .i64 0, .int .i64 0, .int .i64 0, .int .i64 0, .int .i64 0, .int .i64 0, .int .i64 0, .int .i64 0, .int .i64 0, .int .i64 0, .int .i64 0, .int .i64 0, .int .i64 0, .int .i64 0, .int .i64 0, .int .i64 0, .int .i64 0, .int .i64 0, .int .i64 0, .int .i64 0, .int .i64 0, .int .i64 0, .int .i64 0, .int .i64 0, .int .i64 0]
theorem page_cut (l : List Int) (k : Nat) : (zeroP.toList.take 0 ++ cutW l k ++ zeroP.toList.drop (0 + (cutW l k).length)).toArray = pageRow l k := by
  apply Array.ext_getElem?
  intro j
  have hz : zeroP.toList = List.replicate 32 (Value.int .i64 0) := rfl
  rw [List.take_zero, List.nil_append, Nat.zero_add, hz, List.getElem?_toArray]
  by_cases hj : j < 32
  · rw [pageRow_get _ _ _ hj]
    by_cases hc : j < (cutW l k).length
    · rw [List.getElem?_append_left hc]
      have hl := cutW_len l k
      have h2 : 32 * k + j < l.length := by omega
      unfold cutW
      rw [List.getElem?_map, List.getElem?_take_of_lt hj, List.getElem?_drop, List.getElem?_eq_getElem h2, List.getD_eq_getElem?_getD, List.getElem?_eq_getElem h2]
      rfl
    · have hl := cutW_len l k
      rw [List.getElem?_append_right (by omega), List.getElem?_drop, List.getElem?_replicate, if_pos (by omega), List.getD_eq_getElem?_getD, List.getElem?_eq_none (by omega)]
      rfl
  · have hl := cutW_len l k
    rw [List.getElem?_eq_none (by simp; omega), Array.getElem?_eq_none (by rw [pageRow_size]; omega)]
theorem info_pp : (Tryd.prog.info? 136).map (fun i => (i.zero, i.size, i.bytes)) = some (some (.pointer none), 1, 8) := by kernel_rfl
theorem info_64 : (Tryd.prog.info? 2).map (·.size) = some 1 := by kernel_rfl
theorem rowM : RowT 101 2 := ⟨_, Tryd.underlying101, rfl, by kernel_rfl⟩
theorem row_base {W : World} {B : Nat} {T : TypeId} {n : Nat} {v : Value} {m : Nat} {xs : List Value} (h : W.ownsRow B T n v m xs) {k : Nat} (e : v.ownBlock = some k) : B ≤ k ∧ ∃ cur, Own W k T cur := by
  rcases h.2 with ⟨rfl, _⟩ | ⟨g, cap, cur, rfl, hb, hg, _⟩
  · simp [Value.ownBlock] at e
  · simp [Value.ownBlock] at e
    subst e
    exact ⟨hb, cur, hg⟩
/-- Pages so far. -/
def PgI (w : World) (l : List Int) (len : Nat) (pre : List (Nat × Nat)) (W : World) : Prop :=
  ∃ (v : Value) (PL : List Nat), (Own W (w.heap.size + 1) 101 #[v, .int .i64 (len : Int)] ∧ Own W w.heap.size 101 #[.slice none 0 0, .int .i64 0]) ∧ W.ownsRow w.heap.size 136 1 v PL.length (ptrs PL) ∧ PL.length = pre.length ∧ (∀ (k g : Nat), PL[k]? = some g → w.heap.size ≤ g ∧ Own W g 135 (pageRow l k)) ∧ Below w.heap.size w W
set_option maxHeartbeats 8000000 in
theorem p_newMemory {w : World} {l : List Int} {a : Option Addr} {c : Nat} (h : intsAt w l a) (hc : l.length ≤ c) (hcm : c ≤ 9223372036854775807) (hl : l.length ≤ 4096) :
    Calls Tryd.prog 50 #[.slice a l.length c] w fun e w' => ∃ (pv : Value) (PL : List Nat), e = .returned (.agg #[pv, .int .i64 (l.length : Int)]) ∧ PgA w' l pv PL ∧ (∀ k, pv.ownBlock = some k → w.heap.size ≤ k) ∧ (∀ (k g : Nat), PL[k]? = some g → w.heap.size ≤ g) ∧ Below w.heap.size w w' := by
  obtain ⟨len, hlen⟩ : ∃ n, n = l.length := ⟨_, rfl⟩
  rw [← hlen]
  have HH := Lib.hid h
  have HL := Lib.hid (And.intro hc (And.intro hcm (And.intro hl hlen)))
  clear h hc hcm hl hlen
  have O3 := Own.new (w.alloc (.cells #[.slice none 0 0, .int .i64 0] 101)) 101 #[.slice none 0 0, .int .i64 0]
  refine (callsIn_wide (n := 3)).1 ?_
  refine callsIn_of_wp_marks Tryd.func50 rfl trivial ?_ rfl
  simp only [Tryd.ntmps50, List.size_toArray, List.length_cons, List.length_nil, Nat.reduceAdd, Nat.reduceSub, Array.replicate_succ, Array.replicate_zero, List.push_toArray, List.append_toArray, List.nil_append, List.cons_append]
  gi_wp2_with (refine ⟨trivial, ?_⟩; gi_at_call 77; refine (chunk_in _ _ trivial rfl _ _ _ _).mono ?_; rintro e w' ⟨rfl, rfl⟩)
  obtain ⟨W0, hW0⟩ : ∃ W0, W0 = ((((w.alloc (.cells #[.slice none 0 0, .int .i64 0] 101)).alloc (.cells #[.slice none 0 0, .int .i64 (len : Int)] 101)).alloc (.cells #[.slice a len c] 22)).alloc (.cells #[.int .i64 32] 3)) := ⟨_, rfl⟩
  rw [← hW0]
  have hz : W0.heap.size = w.heap.size + 4 := by rw [hW0]; simp
  have hB0 : Below w.heap.size w W0 := by rw [hW0]; exact ((((Below.refl _ w).alloc (Nat.le_refl _) _).alloc (by simp) _).alloc (by simp; omega) _).alloc (by simp; omega) _
  have hb0 : Own W0 w.heap.size 101 #[.slice none 0 0, .int .i64 0] := by
    rw [hW0]
    exact (((Own.new w _ _).alloc _).alloc _).alloc _
  have hb1 : Own W0 (w.heap.size + 1) 101 #[.slice none 0 0, .int .i64 (len : Int)] := by
    rw [hW0]
    have h1 := Own.new (w.alloc (.cells #[.slice none 0 0, .int .i64 0] 101)) 101 #[.slice none 0 0, .int .i64 (len : Int)]
    rw [World.size_alloc] at h1
    exact (h1.alloc _).alloc _
  have hb2 : Own W0 (w.heap.size + 2) 22 #[.slice a len c] := by
    rw [hW0]
    have h1 := Own.new ((w.alloc (.cells #[.slice none 0 0, .int .i64 0] 101)).alloc (.cells #[.slice none 0 0, .int .i64 (len : Int)] 101)) 22 #[.slice a len c]
    rw [World.size_alloc, World.size_alloc] at h1
    exact h1.alloc _
  have hb3 : Own W0 (w.heap.size + 3) 3 #[.int .i64 32] := by
    rw [hW0]
    have h1 := Own.new (((w.alloc (.cells #[.slice none 0 0, .int .i64 0] 101)).alloc (.cells #[.slice none 0 0, .int .i64 (len : Int)] 101)).alloc (.cells #[.slice a len c] 22)) 3 #[.int .i64 32]
    rw [World.size_alloc, World.size_alloc, World.size_alloc] at h1
    exact h1
  clear hW0 O3
  have HW0 := Lib.hid hz
  obtain ⟨g, q, hgq⟩ : ∃ g q, l = [] ∨ (a = some ⟨g, q, none⟩ ∧ ∀ (j : Nat) (x : Int), l[j]? = some x → w.cell? ⟨g, q + j, none⟩ = some (.int .i64 x)) := by
    rcases HH.out with h | ⟨g, q, h⟩
    · exact ⟨0, 0, .inl h⟩
    · exact ⟨g, q, .inr h⟩
  have HGQ := Lib.hid hgq
  clear hgq
  refine wpIn_range_keep (n := 3) rfl (by omega) (gf := 98) (fst := #[]) (lb := #[.pointer (some ⟨w.heap.size + 1 + 1, 0, none⟩), .pointer (some ⟨w.heap.size + 1 + 1 + 1, 0, none⟩)]) rfl trivial (enters_of Tryd.func98 (by kernel_rfl) rfl)
    (encs := encP g) (fun _ => rfl) (fun _ _ => True) (fun k o => (k < w.heap.size ∨ (k ≠ w.heap.size + 1 ∧ ¬ IsTy 136 o)) ∧ (k < w.heap.size + 4 ∨ o.isCells = true)) (fun k o => k < w.heap.size + 4 ∨ o.isCells = true)
    (fun _ _ _ => trivial)
    (fun k o hk ho => by rcases ho.2 with h | h; · omega
                         · exact h)
    (fun k o hk ho => by rcases ho with h | h; · omega
                         · exact h)
    (fun _ _ _ => trivial)
    (S := fun xs W => xs.length = (len + 31) / 32) (Sp := fun _ _ => True) (ok := okP q len)
    (fun ll J Jx W hbW hJ hJx hYl hJ0 => by
      have hb2W := hb2.below hbW
      have hb3W := hb3.below hbW
      obtain ⟨hc, hcm, hl, hlen⟩ := HL.out
      rcases HGQ.out with h0 | ⟨h0, _⟩
      · subst h0
        have h1 : len = 0 := hlen
        subst h1
        refine (chunk1_nil Fence.wide 2 trivial rfl ll (w.heap.size + 1 + 1) c a J W (row_cellsO hb2W 0 _ rfl) hJ0).mono ?_
        rintro e W' ⟨h1, h2⟩
        exact ⟨h1, .inl ⟨[], rfl, h2⟩⟩
      · rw [h0] at hb2W
        refine (chunk1_in Fence.wide 2 trivial rfl (by omega) ll (w.heap.size + 1 + 1) g q len c (by omega) (by omega) hcm _ (fun cu => ⟨⟨.inr ⟨by omega, not_ty (by decide)⟩, .inr rfl⟩, ⟨.inr ⟨by omega, not_ty (by decide)⟩, .inr rfl⟩⟩) J Jx hJ hYl W hb2W hb3W hJ0).mono ?_
        · rintro e W' ⟨h5, ⟨xs, h6, h7⟩ | ⟨pre, h6⟩⟩
          · exact ⟨h5, .inl ⟨xs, h6, h7⟩⟩
          · exact ⟨h5, .inr ⟨pre, trivial, h6⟩⟩)
    (fun pre W => PgI w l len pre W)
    (fun _ _ _ => False)
    (fun s A B h hk => by
      obtain ⟨v, PL, ⟨h1, h2⟩, h3, h4, h5, h6⟩ := h
      exact ⟨v, PL, ⟨hk.block _ _ h1 (.inr rfl), hk.block _ _ h2 (.inr rfl)⟩, row_stays h3 (fun b _ e hlt => by
        rcases h3.2 with ⟨e2, _⟩ | ⟨b2, cp, cu, e2, _, hb, _⟩
        · rw [e2] at e; cases e
        · rw [e2] at e
          injection e with e
          subst e
          rw [hk.block _ _ hb (.inr rfl), hb]), h4, fun k g e => ⟨(h5 k g e).1, hk.block _ _ (h5 k g e).2 (.inr rfl)⟩, h6.trans (hk.below h6.size (fun k _ hk => .inl (by omega)))⟩)
    (fun _ _ _ _ h _ => h)
    ⟨.slice none 0 0, [], ⟨hb1, hb0⟩, World.ownsRow_nil _ _ _ _, rfl, fun k g e => by simp at e, hB0⟩
    (fun x a' W => a' = { tmps := #[.slice a len c, undef, .pointer (some ⟨w.heap.size, 0, none⟩), .pointer (some ⟨w.heap.size + 1, 0, none⟩), .slice (some ⟨g, x.1, none⟩) x.2 x.2, undef, .slice a len c, .int .i64 (len : Int), .agg #[.slice none 0 0, .int .i64 (len : Int)], .slice a len c, .func (.func 98) #[] #[.pointer (some ⟨w.heap.size + 1 + 1, 0, none⟩), .pointer (some ⟨w.heap.size + 1 + 1 + 1, 0, none⟩)], .slice (some ⟨g, x.1, none⟩) x.2 x.2, undef, undef, undef, undef, undef, undef, undef, undef, undef, undef, undef, undef, undef, undef], defers := [] })
    (fun x a' A B h hk => h)
    ?assign ?body ?done ?stop
  case assign =>
    rintro ll pre ⟨x1, x2⟩ W K hi hK
    simp only [encP]
    gi_wp2
    exact hK _ _ (Keep.refl _ W) hi rfl
  case body =>
    rintro ll pre ⟨x1, x2⟩ a' W ⟨v, PL, ⟨h1, h2⟩, h3, h4, h5, h6⟩ rfl ⟨hlt, hx⟩
    injection hx with hx1 hx2
    obtain ⟨hc, hcm, hl, hlen⟩ := HL.out
    have hga : a = some ⟨g, q, none⟩ ∧ ∀ (j : Nat) (x : Int), l[j]? = some x → w.cell? ⟨g, q + j, none⟩ = some (.int .i64 x) := by
      rcases HGQ.out with h0 | h0
      · rw [h0] at hlen
        have : len = 0 := hlen
        omega
      · exact h0
    have hx2' : (cutW l pre.length).length = x2 := by rw [cutW_len, hx2, hlen]
    have hW1 := (Below.refl W.heap.size W).alloc (Nat.le_refl _) (.cells zeroP 135)
    have hcp : ∀ ty, (Builtin.copy_ #[22, 22] ty #[.slice (some ⟨W.heap.size, 0, none⟩) 32 32, .slice (some ⟨g, x1, none⟩) x2 x2]).run Tryd.prog (W.alloc (.cells zeroP 135)) = .ok (goInt x2) ((W.alloc (.cells zeroP 135)).setRow W.heap.size (pageRow l pre.length)) := fun ty => by
      have h7 := run_copy_row (P := Tryd.prog) (W.alloc (.cells zeroP 135)) 22 22 ty 2 W.heap.size 0 32 32 ⟨g, x1, none⟩ x2 x2 zeroP 135 (cutW l pre.length) Tryd.underlying22 info_64 (World.alloc_heap_new W _) (by rw [hx2', hx2]; simp only [Nat.min_def]; split <;> split <;> omega) (fun j u hj => by
        obtain ⟨x, e1, rfl⟩ := cutW_get l _ j u hj
        rw [addr_addV, hx1, Nat.add_assoc]
        have h8 := hga.2 _ _ e1
        exact (hW1.cell (p := ⟨g, q + (32 * pre.length + j), none⟩) (Nat.lt_of_lt_of_le (lt_of_at h8) h6.size)).trans ((h6.cell (p := ⟨g, q + (32 * pre.length + j), none⟩) (lt_of_at h8)).trans h8)) (by rw [hx2']; show 0 + x2 ≤ 32; omega) (fun u hu => by
        obtain ⟨j, hj⟩ := List.mem_iff_getElem?.1 hu
        obtain ⟨x, _, rfl⟩ := cutW_get l _ j u hj
        rfl)
      rw [page_cut, hx2'] at h7
      exact h7
    obtain ⟨W2, hW2⟩ : ∃ V, V = (W.alloc (.cells zeroP 135)).setRow W.heap.size (pageRow l pre.length) := ⟨_, rfl⟩
    have hB2 : Below W.heap.size W W2 := by rw [hW2]; exact Below.of_row hW1 (Nat.le_refl _) _
    have hO2 : Own W2 W.heap.size 135 (pageRow l pre.length) := by rw [hW2]; exact (Own.new W _ _).row _
    rw [← hW2] at hcp
    unfold zeroP at hcp
    clear hW2 hW1
    have HB2 := Lib.hid hB2
    have HO2 := Lib.hid hO2
    have H1 := Lib.hid (And.intro (h1.below hB2) (h2.below hB2))
    have H3 := Lib.hid (row_below h3 hB2)
    have H5 := Lib.hid (And.intro h4 (And.intro h5 h6))
    have HX := Lib.hid (And.intro hx1 (And.intro hx2 hlt))
    obtain ⟨va, vc, rfl⟩ := row_slice h3
    have c0 : W2.cell? ⟨w.heap.size + 1, 0, none⟩ = some (.slice va PL.length vc) := row_cellsO H1.out.1 0 _ rfl
    have f0 : W2.frozen? ⟨w.heap.size + 1, 0, none⟩ = false := own_frozen H1.out.1 0
    obtain ⟨bp, hbp⟩ : ∃ b, b = W.heap.size := ⟨_, rfl⟩
    have HBP := Lib.hid hbp
    obtain ⟨i0, hi, hz0, hz1, hz2⟩ := info_parts info_pp
    clear h1 h2 h3 h4 h5 h6 hB2 hO2 hx1 hx2 hx2' hga hlt hlen hbp
    have hpl : PL.length ≤ 200 := by have := H5.out.1; have := HX.out.2.2; have := HL.out.2.2; omega
    have hn2 : w.heap.size ≤ W2.heap.size := Nat.le_trans H5.out.2.2.size HB2.out.size
    gi_wp2_with (gi_at_builtin; refine wpListIn_append_own _ rfl _ _ 99 rfl w.heap.size 136 i0 _ 1 8 Tryd.underlying99 hi hz0 hz1 hz2 rfl (by decide) _ _ _ rfl (H3.out.alloc _) ⟨W2.heap.size, 0, none⟩ 1 1 [.pointer (some ⟨W.heap.size, 0, none⟩)] rfl rfl (cell_one_new _ _ _) (by simp [Value.oneCell']) (by simp only [maxLen]; omega) (by omega) (by simp; omega) ?_; intro v' w1 hown' hgrow _; obtain ⟨g', cap', rfl⟩ := ownsRow_succ hown'; have st1 : ∀ {b : Nat} {T : TypeId} {r : Array Value}, Own W2 b T r → (136 == T) = false → Own w1 b T r := fun h1 ht => (hgrow.block _ (by have := h1.lt; simp; omega) (fun e => row_apart H3.out h1 ht e.symm)).trans (h1.alloc _); have c1 := row_cellsO (st1 H1.out.1 (by decide)) 0 _ rfl; have f1 := own_frozen (st1 H1.out.1 (by decide)) 0)
    have hbl : Below w.heap.size w W2 := H5.out.2.2.trans (HB2.out.mono H5.out.2.2.size)
    have m1 := st1 H1.out.1 (by decide)
    have r1 := st1 H1.out.2 (by decide)
    have hlt1 : ∀ k, k < W2.heap.size → k < (W2.alloc (.cells #[.pointer (some ⟨W.heap.size, 0, none⟩)] 136)).heap.size := fun k h => by simp; omega
    refine ⟨⟨?_, ?_, ?_, ?_, ?_⟩, .slice (some ⟨g', 0, none⟩) (PL.length + 1) cap', PL ++ [W.heap.size], ⟨own_setin m1 0 _, own_setother (by omega) r1 0 _⟩, ?_, by rw [List.length_append, List.length_append, H5.out.1]; rfl, ?_, ?_⟩
    · exact hgrow.os.trans HB2.out.os
    · exact hgrow.tape.trans HB2.out.tape
    · exact hgrow.output.trans HB2.out.output
    · have h1 := HB2.out.size
      have h2 := hgrow.size
      simp only [World.setCell, Array.size_modify] at h2 ⊢
      simp at h2
      omega
    · intro k o hk hs
      have hkl := (Array.getElem?_eq_some_iff.1 hk).1
      have h2 : W2.heap[k]? = some o := (HB2.out.block k hkl).trans hk
      have hkl2 := (Array.getElem?_eq_some_iff.1 h2).1
      have hne : k ≠ w.heap.size + 1 := by
        intro e
        subst e
        have h7 := H1.out.1
        unfold Own at h7
        rw [h2] at h7
        injection h7 with h7
        subst h7
        rcases hs with ⟨hs | hs, _⟩ | hs
        · omega
        · exact hs.1 rfl
        · cases hs
      have hnr : ∀ b, (Value.slice va PL.length vc).ownBlock = some b → b ≠ k := by
        intro b e q
        subst q
        obtain ⟨hb2, cu, hg2⟩ := row_base H3.out e
        unfold Own at hg2
        rw [h2] at hg2
        injection hg2 with hg2
        subst hg2
        rcases hs with ⟨hs | hs, _⟩ | hs
        · omega
        · exact hs.2 ⟨_, _, rfl⟩
        · cases hs
      exact (Below.heap_setCell w1 ⟨w.heap.size + 1, 0, none⟩ _ k hne).trans ((hgrow.block k (hlt1 k hkl2) (fun e => hnr k e.symm rfl)).trans ((Below.heap_alloc W2 _ k hkl2).trans h2))
    · have h7 : (w1.setCell ⟨w.heap.size + 1, 0, none⟩ (.slice (some ⟨g', 0, none⟩) (PL.length + 1) cap')).ownsRow w.heap.size 136 1 (.slice (some ⟨g', 0, none⟩) (PL.length + 1) cap') (PL.length + 1) (ptrs PL ++ [.pointer (some ⟨W.heap.size, 0, none⟩)]) :=
        row_stays hown' fun b _ e _ => Below.heap_setCell w1 ⟨w.heap.size + 1, 0, none⟩ _ b (by intro q; subst q; exact row_apart hown' m1 (by decide) e)
      rw [List.length_append]
      unfold ptrs at h7 ⊢
      rw [List.map_append]
      exact h7
    · intro k gg e
      by_cases hk : k < PL.length
      · rw [List.getElem?_append_left hk] at e
        obtain ⟨h7, h8⟩ := H5.out.2.1 k gg e
        exact ⟨h7, own_setother (own_unlike (st1 (h8.below HB2.out) (by decide)) m1 (by decide)) (st1 (h8.below HB2.out) (by decide)) 0 _⟩
      · have hk2 : k = PL.length := by
          have := (List.getElem?_eq_some_iff.1 e).1
          simp at this
          omega
        subst hk2
        rw [List.getElem?_append_right (Nat.le_refl _), Nat.sub_self] at e
        injection e with e
        subst e
        rw [H5.out.1]
        exact ⟨H5.out.2.2.size, own_setother (own_unlike (st1 HO2.out (by decide)) m1 (by decide)) (st1 HO2.out (by decide)) 0 _⟩
    · refine Below.setCell (p := ⟨w.heap.size + 1, 0, none⟩) ?_ (by show w.heap.size ≤ w.heap.size + 1; omega) _
      refine (hbl.alloc (by omega) _).grown hgrow (by simp; omega) fun k e => (row_base H3.out e).1
  case done =>
    rintro D xs W1 W hD hS ⟨v, PL, ⟨h1, h2⟩, h3, h4, h5, h6⟩ hk hK
    obtain ⟨va, vc, rfl⟩ := row_slice h3
    have hD' : w.heap.size + 4 ≤ D := by have := HW0.out; omega
    have m0 : W.cell? ⟨w.heap.size + 1, 0, none⟩ = some (.slice va PL.length vc) := row_cellsO h1 0 _ rfl
    have m1 : W.cell? ⟨w.heap.size + 1, 1, none⟩ = some (.int .i64 (len : Int)) := row_cellsO h1 1 _ rfl
    have r0 : W.cell? ⟨w.heap.size, 0, none⟩ = some (.slice none 0 0) := row_cellsO h2 0 _ rfl
    have r1 : W.cell? ⟨w.heap.size, 1, none⟩ = some (.int .i64 0) := row_cellsO h2 1 _ rfl
    have f0 : W.frozen? ⟨w.heap.size, 0, none⟩ = false := own_frozen h2 0
    have f1 : W.frozen? ⟨w.heap.size, 1, none⟩ = false := own_frozen h2 1
    have HX := Lib.hid (And.intro h2 (And.intro h3 (And.intro h4 (And.intro h5 h6))))
    have HK := Lib.hid hK
    have HS := Lib.hid hS
    clear h1 h2 h3 h4 h5 h6 hk hK hS hb0 hb1 hb2 hb3 hB0
    gi_wp2
    obtain ⟨h2, h3, h4, h5, h6⟩ := HX.out
    have hK := HK.out
    have q2 := own_setin (own_setin h2 0 (.slice va PL.length vc)) 1 (.int .i64 (len : Int))
    have hne : ∀ k, k ≠ w.heap.size → ((W.setCell ⟨w.heap.size, 0, none⟩ (.slice va PL.length vc)).setCell ⟨w.heap.size, 1, none⟩ (.int .i64 (len : Int))).heap[k]? = W.heap[k]? := fun k hk => (Below.heap_setCell _ ⟨w.heap.size, 1, none⟩ _ k hk).trans (Below.heap_setCell _ ⟨w.heap.size, 0, none⟩ _ k hk)
    have hb7 := (h6.setCell (p := ⟨w.heap.size, 0, none⟩) (Nat.le_refl _) (.slice va PL.length vc)).setCell (p := ⟨w.heap.size, 1, none⟩) (Nat.le_refl _) (.int .i64 (len : Int))
    have hK2 := (hne D (by omega)).trans hK
    have hb8 := hb7.trans (belowK_b (w := w) (Nat.le_refl _) _ D _ (.deferred none) (by omega) hK2 rfl rfl)
    have own8 : ∀ {b : Nat} {T : TypeId} {r : Array Value}, Own W b T r → b ≠ w.heap.size → Own (((W.setCell ⟨w.heap.size, 0, none⟩ (.slice va PL.length vc)).setCell ⟨w.heap.size, 1, none⟩ (.int .i64 (len : Int))).putObj D (.deferred none)) b T r := fun h1 hb => by
      refine (World.putObj_heap_other ?_).trans ((hne _ hb).trans h1)
      intro e
      subst e
      unfold Own at h1
      rw [hK] at h1
      cases h1
    refine ⟨by simp, .inl ⟨_, _, rfl, run_takeDeferred hK2, ?_⟩⟩
    have z0 : (((W.setCell ⟨w.heap.size, 0, none⟩ (.slice va PL.length vc)).setCell ⟨w.heap.size, 1, none⟩ (.int .i64 (len : Int))).putObj D (.deferred none)).cell? ⟨w.heap.size, 0, none⟩ = some (.slice va PL.length vc) := row_cellsO (cs := #[_, _]) ((World.putObj_heap_other (by omega)).trans q2) 0 _ rfl
    have z1 : (((W.setCell ⟨w.heap.size, 0, none⟩ (.slice va PL.length vc)).setCell ⟨w.heap.size, 1, none⟩ (.int .i64 (len : Int))).putObj D (.deferred none)).cell? ⟨w.heap.size, 1, none⟩ = some (.int .i64 (len : Int)) := row_cellsO (cs := #[_, _]) ((World.putObj_heap_other (by omega)).trans q2) 1 _ rfl
    refine ⟨.agg #[.slice va PL.length vc, .int .i64 (len : Int)], by simp [results, Tryd.results50, go_sem, z0, z1], _, PL, rfl, ⟨?_, ?_, fun k gg e => own8 (h5 k gg e).2 (own_unlike (h5 k gg e).2 h2 (by decide))⟩, fun k e => ?_, fun k gg e => (h5 k gg e).1, hb8⟩
    · have h7 := row_mono h3 (Nat.zero_le _)
      refine ⟨h7.1, ?_⟩
      rcases h7.2 with h8 | ⟨b, cp, cu, e, hb, hg, hrest⟩
      · exact .inl h8
      · exact .inr ⟨b, cp, cu, e, hb, own8 (T := 136) hg (own_unlike (t := 136) hg h2 (by decide)), hrest⟩
    · rw [h4, HS.out, HL.out.2.2.2]
    · exact (row_base h3 e).1
  case stop =>
    rintro D c pre W1 W _ _ h _ _
    exact h.elim
end Go.Proofs.YtmpljhfinmfnbaaDoor

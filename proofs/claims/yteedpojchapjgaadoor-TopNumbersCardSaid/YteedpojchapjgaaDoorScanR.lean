/- The lexer's reference: Scan; lists of tokens are the same. -/
import Derived.Test.YteedpojchapjgaaDoorFrontR
namespace Go.Proofs.YteedpojchapjgaaDoor
open Go.RowKit
set_option linter.unusedVariables false

theorem ownsRow_base {W : World} {base base' : Nat} {e : TypeId} {size : Nat} {v : Value} {k : Nat} {xs : List Value} (h : W.ownsRow base e size v k xs) (hb : base' ≤ base) : W.ownsRow base' e size v k xs := by
  refine ⟨h.1, ?_⟩
  rcases h.2 with h2 | ⟨g, cap, cur, hv, hg, rest⟩
  · exact .inl h2
  · exact .inr ⟨g, cap, cur, hv, Nat.le_trans hb hg, rest⟩
theorem flt_two {W : World} {n : Nat} (hfb : FltBox W n) (a r : Int) : Keep (fun _ o => IsTy 38 o) W ((W.setCell ⟨n, 0, none⟩ (.int .i64 a)).setCell ⟨n, 1, none⟩ (.int .i64 r)) ∧ ((W.setCell ⟨n, 0, none⟩ (.int .i64 a)).setCell ⟨n, 1, none⟩ (.int .i64 r)).heap[n]? = some (.cells #[.int .i64 a, .int .i64 r] 27 (0, 0)) := by
  have h1 := heap_setCell_same W n 0 _ _ (.int .i64 a) hfb
  exact ⟨((Keep.refl (fun _ o => IsTy 38 o) W).setCell (p := ⟨n, 0, none⟩) _ hfb (not_ty (t := 27) (u := 38) (by decide))).setCell (p := ⟨n, 1, none⟩) _ h1 (not_ty (t := 27) (u := 38) (by decide)), heap_setCell_same _ n 1 _ _ (.int .i64 r) h1⟩
theorem goH_nonneg (s : ByteArray) : ∀ (f q : Nat), 0 ≤ (goH s f q).2.2
  | 0, _ => Int.le_refl _
  | f + 1, q => by
    by_cases hq : q < s.size
    · by_cases hr : (nextR s q).fr = 0
      · rw [goH_tok hq hr]; exact goH_nonneg s f _
      · rw [goH_fault hq hr]; exact nextR_fr s q
    · rw [goH_end hq]; exact Int.le_refl _
set_option maxRecDepth 100000 in
set_option maxHeartbeats 4000000 in
theorem rscan_any (s : ByteArray) (w : World) :
    Calls Tryd.prog 23 #[.string s] w fun e w' => (∃ v, e = .returned v ∧ scanPost s w.heap.size w' v) ∧ Below w.heap.size w w' := by
  by_cases hl : 65536 < s.size
  · have hl' : (65536 : Int) < (s.size : Int) := by omega
    go_enter Tryd.func23, Tryd.ntmps23
    go_wp2
    refine bodyPost_ret (v := .tuple #[.slice none 0 0, .int .i64 4, .agg #[.int .i64 0, .int .i64 0]]) (by simp [results, Tryd.results23, go_sem]) rfl ⟨⟨_, rfl, ?_⟩, (Below.refl _ w).alloc (Nat.le_refl _) _⟩
    unfold scanPost
    rw [if_pos hl]
    rfl
  · have hl' : ¬ (65536 : Int) < (s.size : Int) := by omega
    have hfr0 : 0 ≤ (frontR s).2.2 := goH_nonneg s _ _
    obtain ⟨R, hR⟩ : ∃ R, Hid (R = frontR s) := ⟨_, rfl⟩
    have HF : Hid (∀ W : World, Calls Tryd.prog 25 #[.string s] W fun e w' => (∃ v, e = .returned (.tuple #[v, .int .i64 R.2.2, .int .i64 R.2.1]) ∧ w'.ownsRow W.heap.size 38 4 v R.1.length (rowR R.1) ∧ (v = .slice none 0 0 ↔ R.1 = [])) ∧ Below W.heap.size W w') := fun W => by
      rw [hR.out]; exact front_any s (by omega) W
    rw [← hR.out] at hfr0
    obtain ⟨rxs, ra, rr⟩ := R
    simp only at hfr0 HF
    by_cases hr : rr = 0
    · subst hr
      clear hfr0
      go_enter Tryd.func23, Tryd.ntmps23
      go_wp2_with (go_at_call 25; refine (HF.out _).mono ?_; rintro e w1 ⟨⟨v, rfl, hrow, hnil⟩, hb1⟩; have hfb : Hid (FltBox w1 w.heap.size) := (hb1.block _ (by simp)).trans (World.alloc_heap_new w _); obtain ⟨⟨b0, b1⟩, b2, b3⟩ := row2 hfb.out; have HB1 := Lib.hid hb1; have HROW := Lib.hid hrow; have HNIL := Lib.hid hnil; clear hb1 hrow hnil)
      obtain ⟨k1, k2⟩ := flt_two hfb.out 0 0
      obtain ⟨⟨z0, z1⟩, _⟩ := row2 k2
      refine bodyPost_ret (v := .tuple #[v, .int .i64 0, .agg #[.int .i64 0, .int .i64 0]]) (by simp [results, Tryd.results23, go_sem, z0, z1]) rfl ⟨⟨_, rfl, ?_⟩, ?_⟩
      · unfold scanPost
        rw [if_neg hl, ← hR.out, if_pos rfl]
        exact ⟨v, rfl, ownsRow_base (ownsRow_keep HROW.out k1 (fun g cs _ => ⟨_, _, rfl⟩)) (by simp), HNIL.out⟩
      · exact (((((Below.refl _ w).alloc (Nat.le_refl _) _).trans (HB1.out.mono (by simp))).setCell (p := ⟨w.heap.size, 0, none⟩) (Nat.le_refl _) _).setCell (p := ⟨w.heap.size, 1, none⟩) (Nat.le_refl _) _)
    · have hgt : 0 < rr := by omega
      clear hfr0 hr
      go_enter Tryd.func23, Tryd.ntmps23
      go_wp2_with (go_at_call 25; refine (HF.out _).mono ?_; rintro e w1 ⟨⟨v, rfl, hrow, hnil⟩, hb1⟩; have hfb : Hid (FltBox w1 w.heap.size) := (hb1.block _ (by simp)).trans (World.alloc_heap_new w _); obtain ⟨⟨b0, b1⟩, b2, b3⟩ := row2 hfb.out; have HB1 := Lib.hid hb1; have HROW := Lib.hid hrow; have HNIL := Lib.hid hnil; clear hb1 hrow hnil)
      obtain ⟨k1, k2⟩ := flt_two hfb.out ra rr
      obtain ⟨⟨z0, z1⟩, _⟩ := row2 k2
      refine bodyPost_ret (v := .tuple #[.slice none 0 0, .int .i64 20, .agg #[.int .i64 ra, .int .i64 rr]]) (by simp [results, Tryd.results23, go_sem, z0, z1]) rfl ⟨⟨_, rfl, ?_⟩, ?_⟩
      · unfold scanPost
        rw [if_neg hl, ← hR.out, if_neg (show ¬ rr = 0 by omega)]
        rfl
      · exact (((((Below.refl _ w).alloc (Nat.le_refl _) _).trans (HB1.out.mono (by simp))).setCell (p := ⟨w.heap.size, 0, none⟩) (Nat.le_refl _) _).setCell (p := ⟨w.heap.size, 1, none⟩) (Nat.le_refl _) _)
end Go.Proofs.YteedpojchapjgaaDoor

/- Clones of code and of buffers. -/
import Derived.Test.YtmpljhfinmfnbaaDoorVkg
namespace Go.Proofs.YtmpljhfinmfnbaaDoor
open Go.RowKit
set_option linter.unusedVariables false
set_option maxRecDepth 100000
theorem info_CloneI : (Tryd.prog.info? 87).map (fun i => (i.zero, i.size, i.bytes)) = some (some (.agg #[.int .u8 0, .int .u8 0, .int .i64 0, .int .i64 0, .int .i64 0, .int .i64 0, .int .i64 0, .int .i64 0, .int .i64 0]), 9, 64) := by kernel_rfl
set_option maxHeartbeats 4000000 in
theorem p_CloneI_nil (w : World) (n c : Nat) : Calls Tryd.prog 51 #[.slice none n c] w fun e w' => e = .returned (.slice none 0 0) ∧ w = w' := by
  have hcmp : ∀ V, (binOp .eql 81 (.slice none n c) (.slice none 0 0)).run Tryd.prog V = .ok (.bool true) V := fun _ => by kernel_rfl
  go_enter Tryd.func51, Tryd.ntmps51
  go_wp2
  go_ret
  exact ⟨rfl, rfl⟩
set_option maxHeartbeats 4000000 in
theorem p_CloneI_some {w : World} (ad : Addr) (n c : Nat) (xs : List Value) (hl : xs.length = n * 9) (hx : ∀ j u, xs[j]? = some u → w.cell? (ad.add j) = some u) (h1 : ∀ u ∈ xs, u.oneCell' = true) (hn : n * 64 ≤ 140737488355328) : Calls Tryd.prog 51 #[.slice (some ad) n c] w fun e w' => ∃ v, e = .returned v ∧ w'.ownsRow w.heap.size 87 9 v n xs ∧ Below w.heap.size w w' := by
  have al := (Below.refl w.heap.size w).alloc (Nat.le_refl _) (.cells #[] 87)
  have hrow : (w.alloc (.cells #[] 87)).ownsRow w.heap.size 87 9 (.slice (some ⟨w.heap.size, 0, none⟩) 0 0) 0 [] := ⟨rfl, .inr ⟨w.heap.size, 0, #[], rfl, Nat.le_refl _, World.alloc_heap_new w _, Nat.le_refl _, Nat.zero_le _, rfl, rfl⟩⟩
  have hcell : ∀ j u, xs[j]? = some u → (w.alloc (.cells #[] 87)).cell? (ad.add j) = some u := fun j u hj => (al.cell (p := ad.add j) (lt_of_at (hx j u hj))).trans (hx j u hj)
  obtain ⟨i0, hi, hz0, hz1, hz2⟩ := info_parts info_CloneI
  obtain ⟨W1, hW1⟩ : ∃ W, W = w.alloc (.cells #[] 87) := ⟨_, rfl⟩
  have HW1 := Lib.hid hW1
  have hsz : W1.heap.size = w.heap.size + 1 := by rw [hW1]; simp
  rw [← hW1] at al hrow hcell
  have HB := Lib.hid al
  have HSZ := Lib.hid hsz
  have hcmp : ∀ V, (binOp .eql 81 (.slice (some ad) n c) (.slice none 0 0)).run Tryd.prog V = .ok (.bool false) V := fun _ => by kernel_rfl
  clear hW1 al hx hsz
  go_enter Tryd.func51, Tryd.ntmps51
  go_wp2_with (at_builtin; rw [← HW1.out]; refine wpList_append_own _ rfl _ _ 81 rfl w.heap.size 87 i0 _ 9 64 Tryd.underlying81 hi hz0 hz1 hz2 rfl (by decide) _ 0 [] rfl hrow ad n c xs rfl hl hcell h1 (by simp only [maxLen]; omega) (by simpa using hn) (by have := HSZ.out; omega) ?_; intro v' w1 hown' hgrow _)
  go_ret
  refine ⟨_, rfl, ?_, ?_⟩
  · simpa using hown'
  · exact HB.out.grown hgrow (by have := HSZ.out; omega) (fun k e => by cases e; exact Nat.le_refl _)
theorem info_CloneS : (Tryd.prog.info? 76).map (fun i => (i.zero, i.size, i.bytes)) = some (some (.agg #[.int .i64 0, .int .i64 0, .int .i64 0]), 3, 24) := by kernel_rfl
set_option maxHeartbeats 4000000 in
theorem p_CloneS_nil (w : World) (n c : Nat) : Calls Tryd.prog 72 #[.slice none n c] w fun e w' => e = .returned (.slice none 0 0) ∧ w = w' := by
  have hcmp : ∀ V, (binOp .eql 54 (.slice none n c) (.slice none 0 0)).run Tryd.prog V = .ok (.bool true) V := fun _ => by kernel_rfl
  go_enter Tryd.func72, Tryd.ntmps72
  go_wp2
  go_ret
  exact ⟨rfl, rfl⟩
set_option maxHeartbeats 4000000 in
theorem p_CloneS_some {w : World} (ad : Addr) (n c : Nat) (xs : List Value) (hl : xs.length = n * 3) (hx : ∀ j u, xs[j]? = some u → w.cell? (ad.add j) = some u) (h1 : ∀ u ∈ xs, u.oneCell' = true) (hn : n * 24 ≤ 140737488355328) : Calls Tryd.prog 72 #[.slice (some ad) n c] w fun e w' => ∃ v, e = .returned v ∧ w'.ownsRow w.heap.size 76 3 v n xs ∧ Below w.heap.size w w' := by
  have al := (Below.refl w.heap.size w).alloc (Nat.le_refl _) (.cells #[] 76)
  have hrow : (w.alloc (.cells #[] 76)).ownsRow w.heap.size 76 3 (.slice (some ⟨w.heap.size, 0, none⟩) 0 0) 0 [] := ⟨rfl, .inr ⟨w.heap.size, 0, #[], rfl, Nat.le_refl _, World.alloc_heap_new w _, Nat.le_refl _, Nat.zero_le _, rfl, rfl⟩⟩
  have hcell : ∀ j u, xs[j]? = some u → (w.alloc (.cells #[] 76)).cell? (ad.add j) = some u := fun j u hj => (al.cell (p := ad.add j) (lt_of_at (hx j u hj))).trans (hx j u hj)
  obtain ⟨i0, hi, hz0, hz1, hz2⟩ := info_parts info_CloneS
  obtain ⟨W1, hW1⟩ : ∃ W, W = w.alloc (.cells #[] 76) := ⟨_, rfl⟩
  have HW1 := Lib.hid hW1
  have hsz : W1.heap.size = w.heap.size + 1 := by rw [hW1]; simp
  rw [← hW1] at al hrow hcell
  have HB := Lib.hid al
  have HSZ := Lib.hid hsz
  have hcmp : ∀ V, (binOp .eql 54 (.slice (some ad) n c) (.slice none 0 0)).run Tryd.prog V = .ok (.bool false) V := fun _ => by kernel_rfl
  clear hW1 al hx hsz
  go_enter Tryd.func72, Tryd.ntmps72
  go_wp2_with (at_builtin; rw [← HW1.out]; refine wpList_append_own _ rfl _ _ 54 rfl w.heap.size 76 i0 _ 3 24 Tryd.underlying54 hi hz0 hz1 hz2 rfl (by decide) _ 0 [] rfl hrow ad n c xs rfl hl hcell h1 (by simp only [maxLen]; omega) (by simpa using hn) (by have := HSZ.out; omega) ?_; intro v' w1 hown' hgrow _)
  go_ret
  refine ⟨_, rfl, ?_, ?_⟩
  · simpa using hown'
  · exact HB.out.grown hgrow (by have := HSZ.out; omega) (fun k e => by cases e; exact Nat.le_refl _)
theorem flatI_one : ∀ (l : List Ins), ∀ u ∈ flatI l, u.oneCell' = true := fun l u hu => by
  unfold flatI at hu
  rw [List.mem_flatMap] at hu
  obtain ⟨i, _, hu⟩ := hu
  simp only [insC, List.mem_cons, List.not_mem_nil, or_false] at hu
  rcases hu with rfl | rfl | rfl | rfl | rfl | rfl | rfl | rfl | rfl <;> rfl
theorem stoF_one : ∀ (l : List Sto), ∀ u ∈ stoF l, u.oneCell' = true := fun l u hu => by
  unfold stoF at hu
  rw [List.mem_flatMap] at hu
  obtain ⟨i, _, hu⟩ := hu
  simp only [stoC, List.mem_cons, List.not_mem_nil, or_false] at hu
  rcases hu with rfl | rfl | rfl <;> rfl
theorem flatI_at : ∀ (l : List Ins) (j : Nat) (u : Value), (flatI l)[j]? = some u → ∃ i, l[j / 9]? = some i ∧ (insC i)[j % 9]? = some u
  | [], j, u, h => by simp [flatI] at h
  | y :: l, j, u, h => by
    change (insC y ++ flatI l)[j]? = some u at h
    by_cases hj : j < 9
    · rw [List.getElem?_append_left (by exact hj)] at h
      exact ⟨y, by rw [Nat.div_eq_of_lt hj]; rfl, by rw [Nat.mod_eq_of_lt hj]; exact h⟩
    · rw [List.getElem?_append_right (by show 9 ≤ j; omega)] at h
      obtain ⟨i, h1, h2⟩ := flatI_at l (j - 9) u h
      refine ⟨i, ?_, ?_⟩
      · rw [show j / 9 = (j - 9) / 9 + 1 by omega, List.getElem?_cons_succ]
        exact h1
      · rw [show j % 9 = (j - 9) % 9 by omega]
        exact h2
theorem p_CloneI {w : World} {l : List Ins} {a : Option Addr} (h : insAt w l a) (hl : l.length ≤ 16384) (c : Nat) : Calls Tryd.prog 51 #[.slice a l.length c] w fun e w' => ∃ v, e = .returned v ∧ w'.ownsRow w.heap.size 87 9 v l.length (flatI l) ∧ Below w.heap.size w w' := by
  rcases h with rfl | ⟨g, q, rfl, h⟩
  · cases a with
    | none => exact (p_CloneI_nil w _ c).mono fun e w' ⟨h1, h2⟩ => ⟨_, h1, World.ownsRow_nil _ _ _ _, h2 ▸ Below.refl _ _⟩
    | some ad => exact p_CloneI_some ad 0 c [] rfl (fun j u hj => by simp at hj) (fun u hu => by cases hu) (by omega)
  · exact p_CloneI_some ⟨g, q, none⟩ l.length c (flatI l) (flatI_len l) (fun j u hj => by
      obtain ⟨i, h1, h2⟩ := flatI_at l j u hj
      rw [addr_addV, show q + j = q + j / 9 * 9 + j % 9 by omega]
      exact h _ _ h1 _ _ h2) (flatI_one l) (by omega)
theorem p_CloneS {w : World} {l : List Sto} {v : Value} (h : ownsQ w 0 76 3 v l.length (stoF l)) (hl : l.length ≤ 16384) : Calls Tryd.prog 72 #[v] w fun e w' => ∃ v', e = .returned v' ∧ w'.ownsRow w.heap.size 76 3 v' l.length (stoF l) ∧ Below w.heap.size w w' := by
  rcases h.2 with ⟨rfl, h0⟩ | ⟨g, q, cap, cur, rfl, _, hg, h1, h2, h3, h4⟩
  · have : l = [] := List.eq_nil_of_length_eq_zero h0
    subst this
    exact (p_CloneS_nil w 0 0).mono fun e w' ⟨h1, h2⟩ => ⟨_, h1, World.ownsRow_nil _ _ _ _, h2 ▸ Below.refl _ _⟩
  · exact p_CloneS_some ⟨g, q, none⟩ l.length cap (stoF l) h.1 (fun j u hj => by
      rw [addr_addV, cell_of_row _ _ _ _ _ _ hg]
      rw [← h4, List.getElem?_take] at hj
      split at hj
      · rw [List.getElem?_drop] at hj
        simpa using hj
      · cases hj) (stoF_one l) (by omega)
end Go.Proofs.YtmpljhfinmfnbaaDoor

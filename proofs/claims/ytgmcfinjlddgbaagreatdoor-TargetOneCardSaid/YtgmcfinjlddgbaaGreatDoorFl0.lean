/- Drains, Writes. -/
import Derived.Test.YtgmcfinjlddgbaaGreatDoorGt2
namespace Go.Proofs.YtgmcfinjlddgbaaGreatDoor
open Go.RowKit
set_option linter.unusedVariables false
set_option maxRecDepth 100000
def drB (k : Int) : Bool := k == 5 || (k == 6 || k == 7)
theorem drains_any (k : Int) (w : World) : Calls Tryz.prog 26 #[.int .u8 k] w fun e w' => e = .returned (.bool (drB k)) ∧ w = w' := by
  unfold drB
  by_cases h5 : k = 5
  · subst h5
    go_enter Tryz.func26, Tryz.ntmps26
    go_wp2
    go_ret
    exact ⟨rfl, rfl⟩
  by_cases h6 : k = 6
  · subst h6
    go_enter Tryz.func26, Tryz.ntmps26
    go_wp2
    go_ret
    exact ⟨rfl, rfl⟩
  by_cases h7 : k = 7
  · subst h7
    go_enter Tryz.func26, Tryz.ntmps26
    go_wp2
    go_ret
    exact ⟨rfl, rfl⟩
  have q5 := int_f h5
  have q6 := int_f h6
  have q7 := int_f h7
  rw [q5, q6, q7]
  clear h5 h6 h7
  show Calls _ _ _ _ fun e w' => e = .returned (.bool false) ∧ _
  go_enter Tryz.func26, Tryz.ntmps26
  go_wp2
  go_ret
  exact ⟨rfl, rfl⟩
theorem rdrains_any (k : Int) (w : World) : Calls Tryz.prog 27 #[.int .u8 k] w fun e w' => e = .returned (.bool (drB k)) ∧ w = w' := by
  unfold drB
  by_cases h5 : k = 5
  · subst h5
    go_enter Tryz.func27, Tryz.ntmps27
    go_wp2
    go_ret
    exact ⟨rfl, rfl⟩
  by_cases h6 : k = 6
  · subst h6
    go_enter Tryz.func27, Tryz.ntmps27
    go_wp2
    go_ret
    exact ⟨rfl, rfl⟩
  by_cases h7 : k = 7
  · subst h7
    go_enter Tryz.func27, Tryz.ntmps27
    go_wp2
    go_ret
    exact ⟨rfl, rfl⟩
  have q5 := int_f h5
  have q6 := int_f h6
  have q7 := int_f h7
  rw [q5, q6, q7]
  clear h5 h6 h7
  show Calls _ _ _ _ fun e w' => e = .returned (.bool false) ∧ _
  go_enter Tryz.func27, Tryz.ntmps27
  go_wp2
  go_ret
  exact ⟨rfl, rfl⟩
/-- What an instruction writes. -/
def wrI (i : Ins) : Int × Bool := bif hasB (uB i.k i.o) 2 then (i.d, true) else (0, false)
set_option maxHeartbeats 2000000 in
theorem writes_any (i : Ins) (hg : rgI i) (w : World) (T : TgT w) : Calls Tryz.prog 19 #[insV i] w fun e w' => e = .returned (.tuple #[.int .i64 (wrI i).1, .bool (wrI i).2]) ∧ Below w.heap.size w w' := by
  have al : Below w.heap.size w (w.alloc (.cells (insC i).toArray 25)) := (Below.refl _ w).alloc (Nat.le_refl _) _
  have O0 := Own.new w 25 (insC i).toArray
  obtain ⟨W0, hW0⟩ : ∃ W, W = w.alloc (.cells (insC i).toArray 25) := ⟨_, rfl⟩
  rw [← hW0] at al O0
  have HB0 := Lib.hid al
  have HU : Hid (Calls Tryz.prog 39 #[insV i] W0 fun e w' => e = .returned (.int .u64 (uB i.k i.o)) ∧ Below W0.heap.size W0 w') := usedBy_any i hg W0 (T.below al)
  have HH : Hid (∀ X u f, Calls Tryz.prog 41 #[.int .u64 u, .int .u64 f] X fun e w' => e = .returned (.bool (hasB u f)) ∧ X = w') := fun X u f => has_any u f X
  have HO0 := Lib.hid O0
  unfold wrI
  obtain ⟨u, hu⟩ : ∃ u, u = uB i.k i.o := ⟨_, rfl⟩
  rw [← hu] at HU ⊢
  obtain ⟨k, o, d, a, b, ad, tt, wd, fr⟩ := i
  simp only [insV, insC] at HU O0 hW0 HO0 ⊢
  have HW0 := Lib.hid hW0
  clear hW0 hu hg T al
  cases hh : hasB u 2 with
  | true =>
    show Calls _ _ _ _ fun e w' => e = .returned (.tuple #[.int .i64 d, .bool true]) ∧ _
    go_enter Tryz.func19, Tryz.ntmps19
    go_upto_region 1 with (fail)
    rw [← HW0.out]
    clear HW0
    go_wp2_with (first | (refine ld rowI rfl rfl rfl O0 rfl ?_) | (go_at_call 39; refine HU.out.mono ?_; rintro e w1 ⟨rfl, hb1⟩; have c2 : w1.cell? ⟨w.heap.size, 2, none⟩ = some (.int .i64 d) := by rw [cell_of_row _ _ 2 _ _ _ (HO0.out.below hb1)]; rfl) | (go_at_call 41; refine (HH.out _ _ _).mono ?_; rintro e w' ⟨rfl, rfl⟩))
    refine bodyPost_ret (results_tmp2 rfl _ _ _) rfl ?_
    exact ⟨rfl, HB0.out.trans (hb1.mono HB0.out.size)⟩
  | false =>
    show Calls _ _ _ _ fun e w' => e = .returned (.tuple #[.int .i64 0, .bool false]) ∧ _
    go_enter Tryz.func19, Tryz.ntmps19
    go_upto_region 1 with (fail)
    rw [← HW0.out]
    clear HW0
    go_wp2_with (first | (refine ld rowI rfl rfl rfl O0 rfl ?_) | (go_at_call 39; refine HU.out.mono ?_; rintro e w1 ⟨rfl, hb1⟩) | (go_at_call 41; refine (HH.out _ _ _).mono ?_; rintro e w' ⟨rfl, rfl⟩))
    refine bodyPost_ret (results_tmp2 rfl _ _ _) rfl ?_
    exact ⟨rfl, HB0.out.trans (hb1.mono HB0.out.size)⟩
end Go.Proofs.YtgmcfinjlddgbaaGreatDoor

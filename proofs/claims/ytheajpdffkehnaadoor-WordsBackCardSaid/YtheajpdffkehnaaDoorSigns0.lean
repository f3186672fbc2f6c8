/- Words: the document's own answers of an operator's sign and level. -/
import Derived.Test.YtheajpdffkehnaaDoorBits
import Derived.Test.YtheajpdffkehnaaDoorRef
import Derived.Deep.QuietTactic
import Derived.BigQuiet
namespace Go.Proofs.YtheajpdffkehnaaDoor
open Go.RowKit
set_option linter.unusedVariables false

theorem rlevel_great (o : Int) (h : 19 ≤ o) (w : World) : Calls Tryd.prog 22 #[.int .u8 o] w fun e w' => e = .returned (.int .i64 0) ∧ Below w.heap.size w w' := by
  go_enter Tryd.func22, Tryd.ntmps22
  go_wp2
  go_ret
  exact ⟨rfl, Below.refl _ _⟩
theorem rshow_great (o : Int) (h : 19 ≤ o) (w : World) : Calls Tryd.prog 20 #[.int .u8 o] w fun e w' => e = .returned (.string ⟨#[]⟩) ∧ Below w.heap.size w w' := by
  go_enter Tryd.func20, Tryd.ntmps20
  go_wp2
  go_ret
  exact ⟨rfl, Below.refl _ _⟩
set_option maxHeartbeats 4000000 in
theorem rlevel_small (o : Int) (h0 : 0 ≤ o) (h : o < 19) (w : World) : Calls Tryd.prog 22 #[.int .u8 o] w fun e w' => e = .returned (.int .i64 (levelOf o)) ∧ Below w.heap.size w w' := by
  have : o = 0 ∨ o = 1 ∨ o = 2 ∨ o = 3 ∨ o = 4 ∨ o = 5 ∨ o = 6 ∨ o = 7 ∨ o = 8 ∨ o = 9 ∨ o = 10 ∨ o = 11 ∨ o = 12 ∨ o = 13 ∨ o = 14 ∨ o = 15 ∨ o = 16 ∨ o = 17 ∨ o = 18 := by omega
  clear h0 h
  rcases this with rfl | rfl | rfl | rfl | rfl | rfl | rfl | rfl | rfl | rfl | rfl | rfl | rfl | rfl | rfl | rfl | rfl | rfl | rfl
  all_goals
    go_enter Tryd.func22, Tryd.ntmps22
    go_wp2
    go_ret
    exact ⟨rfl, (Below.refl _ _).alloc (Nat.le_refl _) _⟩
set_option maxHeartbeats 4000000 in
theorem rshow_small (o : Int) (h0 : 0 ≤ o) (h : o < 19) (w : World) : Calls Tryd.prog 20 #[.int .u8 o] w fun e w' => e = .returned (.string ⟨(signOf o).toArray⟩) ∧ Below w.heap.size w w' := by
  have : o = 0 ∨ o = 1 ∨ o = 2 ∨ o = 3 ∨ o = 4 ∨ o = 5 ∨ o = 6 ∨ o = 7 ∨ o = 8 ∨ o = 9 ∨ o = 10 ∨ o = 11 ∨ o = 12 ∨ o = 13 ∨ o = 14 ∨ o = 15 ∨ o = 16 ∨ o = 17 ∨ o = 18 := by omega
  clear h0 h
  rcases this with rfl | rfl | rfl | rfl | rfl | rfl | rfl | rfl | rfl | rfl | rfl | rfl | rfl | rfl | rfl | rfl | rfl | rfl | rfl
  all_goals
    go_enter Tryd.func20, Tryd.ntmps20
    go_wp2
    go_ret
    exact ⟨rfl, (Below.refl _ _).alloc (Nat.le_refl _) _⟩
theorem rlevel_any (o : Int) (h0 : 0 ≤ o) (w : World) : Calls Tryd.prog 22 #[.int .u8 o] w fun e w' => e = .returned (.int .i64 (levelOf o)) ∧ Below w.heap.size w w' := by
  by_cases h : 19 ≤ o
  · have e : levelOf o = 0 := by unfold levelOf; rw [if_pos h]
    rw [e]; exact rlevel_great o h w
  · exact rlevel_small o h0 (by omega) w
theorem rshow_any (o : Int) (h0 : 0 ≤ o) (w : World) : Calls Tryd.prog 20 #[.int .u8 o] w fun e w' => e = .returned (.string ⟨(signOf o).toArray⟩) ∧ Below w.heap.size w w' := by
  by_cases h : 19 ≤ o
  · have e : signOf o = [] := by unfold signOf; rw [if_pos h]
    rw [e]; exact rshow_great o h w
  · exact rshow_small o h0 (by omega) w
end Go.Proofs.YtheajpdffkehnaaDoor

/- The lexer's laws: names, words and signs are the reference's. -/
import Derived.Test.YteedpojchapjgaaDoorRefs2
namespace Go.Proofs.YteedpojchapjgaaDoor
open Go.RowKit
set_option linter.unusedVariables false
theorem kinds_walk (s : ByteArray) (hs : s.size ≤ reachBytes) (w : World) (T : LTabs w) :
    Calls Tryd.prog 3 #[.string s] w fun e w' => e = .returned (.bool true) ∧ LInv w w' := by
  have hs' : s.size ≤ 4611686018427387904 := Nat.le_trans hs (by decide)
  obtain ⟨q1, hq1⟩ : ∃ q, Hid (q = nameB s) := ⟨_, rfl⟩
  obtain ⟨q2, hq2⟩ : ∃ q, Hid (q = wordB s) := ⟨_, rfl⟩
  obtain ⟨q3, hq3⟩ : ∃ q, Hid (q = isSignB s) := ⟨_, rfl⟩
  have H1 : Hid (Calls Tryd.prog 15 #[.string s] w fun e w' => e = .returned (.bool q1) ∧ w = w') := by rw [hq1.out]; exact isname_any s w T
  have H2 : Hid (Calls Tryd.prog 17 #[.string s] w fun e w' => e = .returned (.bool q2) ∧ w = w') := by rw [hq2.out]; exact word_any s w T
  have H3 : Hid (Calls Tryd.prog 19 #[.string s] w fun e w' => e = .returned (.bool q3) ∧ w = w') := by rw [hq3.out]; exact issign_any s w T
  have K1 : Hid (Calls Tryd.prog 16 #[.string s] w fun e w' => e = .returned (.bool q1) ∧ w = w') := by rw [hq1.out]; exact rname_any s hs' w
  have K2 : Hid (Calls Tryd.prog 18 #[.string s] w fun e w' => e = .returned (.bool q2) ∧ w = w') := by rw [hq2.out]; exact rword_any s w
  have K3 : Hid (Calls Tryd.prog 20 #[.string s] w fun e w' => e = .returned (.bool q3) ∧ w = w') := by rw [hq3.out]; exact rsign_any s w
  have HB := Lib.hid (begins_i (LInv.start T))
  clear T
  go_enter Tryd.func3, Tryd.ntmps3
  go_wp2_with (first
    | (go_at_call 15; refine (H1.out).mono ?_; rintro e w' ⟨rfl, rfl⟩)
    | (go_at_call 17; refine (H2.out).mono ?_; rintro e w' ⟨rfl, rfl⟩)
    | (go_at_call 19; refine (H3.out).mono ?_; rintro e w' ⟨rfl, rfl⟩)
    | (go_at_call 16; refine (K1.out).mono ?_; rintro e w' ⟨rfl, rfl⟩)
    | (go_at_call 18; refine (K2.out).mono ?_; rintro e w' ⟨rfl, rfl⟩)
    | (go_at_call 20; refine (K3.out).mono ?_; rintro e w' ⟨rfl, rfl⟩)
    | (go_at_call 21; refine (HB.out).mono ?_; rintro e w' ⟨rfl, hI⟩; have HI := Lib.hid hI; clear hI))
  go_ret
  exact ⟨rfl, HI.out⟩
end Go.Proofs.YteedpojchapjgaaDoor

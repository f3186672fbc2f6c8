/- WordsTexts: for every input the law returns true: Print and Parse answer as the document does. -/
import Derived.Test.YtheajpdffkehnaaDoorRParse
import Derived.Test.YtheajpdffkehnaaDoorDigits
namespace Go.Proofs.YtheajpdffkehnaaDoor
open Go.RowKit
set_option linter.unusedVariables false

theorem reach_62 {n : Nat} (h : n ≤ reachBytes) : n ≤ 4611686018427387904 := by
  have := reachBytes_lt
  omega
theorem same_bytes (s : ByteArray) : (s.toList == s.toList) = true := by simp
set_option maxHeartbeats 1000000 in
theorem texts_walk (n : Int) (s : ByteArray) (n0 : -9223372036854775808 ≤ n) (n1 : n ≤ 9223372036854775807) (hs : s.size ≤ reachBytes) (w : World) (T : Tabs w) :
    Calls Tryd.prog 5 #[.int .i64 n, .string s] w fun e w' => e = .returned (.bool true) ∧ Inv w w' := by
  have I := Inv.start T
  have hs62 := reach_62 hs
  obtain ⟨x, hx⟩ : ∃ x, x = parseP s.data.toList := ⟨_, rfl⟩
  have p1 : ∀ w0 w : World, Inv w0 w → Calls Tryd.prog 25 #[.string s] w fun e w' => e = .returned (.tuple #[.int .i64 x.1, .int .i64 x.2.1, .int .i64 x.2.2]) ∧ Inv w0 w' := fun w0 w I => by
    rw [hx]; exact (parse_any s w hs62).mono fun _ _ h => ⟨h.1, I.next h.2⟩
  have p2 : ∀ w0 w : World, Inv w0 w → Calls Tryd.prog 26 #[.string s] w fun e w' => e = .returned (.tuple #[.int .i64 x.1, .int .i64 x.2.1, .int .i64 x.2.2]) ∧ Inv w0 w' := fun w0 w I => by
    rw [hx]; exact (rparse_any s w hs62).mono fun _ _ h => ⟨h.1, I.next h.2⟩
  obtain ⟨sv, hsv⟩ : ∃ x : ByteArray, x = ⟨(Lib.itoa n).toArray⟩ := ⟨_, rfl⟩
  have p3 : ∀ w0 w : World, Inv w0 w → Calls Tryd.prog 27 #[.int .i64 n] w fun e w' => e = .returned (.string sv) ∧ Inv w0 w' := fun w0 w I => by
    rw [hsv]; exact (print_any n n0 n1 w I.tabs).mono fun _ _ ⟨he, hb⟩ => ⟨he, I.next hb⟩
  have p4 : ∀ w0 w : World, Inv w0 w → Calls Tryd.prog 28 #[.int .i64 n] w fun e w' => e = .returned (.string sv) ∧ Inv w0 w' := fun w0 w I => by
    rw [hsv]; exact (rprint_any n n0 n1 w).mono fun _ _ ⟨he, hb⟩ => ⟨he, I.next hb⟩
  have qs := same_bytes sv
  obtain ⟨x1, x2, x3⟩ := x
  have P1 := Lib.hid p1
  have P2 := Lib.hid p2
  have P3 := Lib.hid p3
  have P4 := Lib.hid p4
  clear p1 p2 p3 p4 hx hsv T hs62 hs
  go_enter Tryd.func5, Tryd.ntmps5
  go_wp2_with (first
    | (go_at_call 14; refine (lives_i (by assumption)).mono ?_; rintro e w' ⟨rfl, I⟩)
    | (go_at_call 25; refine (P1.out _ _ (by assumption)).mono ?_; rintro e w' ⟨rfl, I⟩)
    | (go_at_call 26; refine (P2.out _ _ (by assumption)).mono ?_; rintro e w' ⟨rfl, I⟩)
    | (go_at_call 27; refine (P3.out _ _ (by assumption)).mono ?_; rintro e w' ⟨rfl, I⟩)
    | (go_at_call 28; refine (P4.out _ _ (by assumption)).mono ?_; rintro e w' ⟨rfl, I⟩))
  go_ret
  exact ⟨rfl, by assumption⟩
end Go.Proofs.YtheajpdffkehnaaDoor

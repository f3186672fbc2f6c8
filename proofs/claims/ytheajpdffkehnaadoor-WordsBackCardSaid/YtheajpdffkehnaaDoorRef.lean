/- Words: what the document's own answers of an operator come to. -/
import Derived.Test.YtheajpdffkehnaaDoorOrder
namespace Go.Proofs.YtheajpdffkehnaaDoor
open Go.RowKit
set_option linter.unusedVariables false

theorem rtruth_any (b : Bool) (w : World) : Calls Tryd.prog 33 #[.bool b] w fun e w' => e = .returned (.tuple #[.int .i64 (bit b), .int .i64 0]) ∧ w = w' := by
  cases b
  · go_enter Tryd.func33, Tryd.ntmps33
    go_wp2
    go_ret2
    exact ⟨rfl, rfl⟩
  · go_enter Tryd.func33, Tryd.ntmps33
    go_wp2
    go_ret2
    exact ⟨rfl, rfl⟩
theorem quot_any (a b : Int) (w : World) : Calls Tryd.prog 32 #[.int .i64 a, .int .i64 b] w fun e w' => e = .returned (.int .i64 (bin 4 a b)) ∧ w = w' := by
  by_cases h0 : b = 0
  · subst h0
    go_enter Tryd.func32, Tryd.ntmps32
    go_wp2
    go_ret
    exact ⟨rfl, rfl⟩
  · by_cases h1 : b = -1
    · subst h1
      have e : bin 4 a (-1) = wrap64 (-a) := by
        show (if (-1 : Int) = 0 then (0 : Int) else wrap64 (a.tdiv (-1))) = _
        rw [if_neg (by decide), Int.tdiv_neg, Int.tdiv_one]
      rw [e]; clear e h0
      go_enter Tryd.func32, Tryd.ntmps32
      go_wp2
      go_ret
      exact ⟨rfl, rfl⟩
    · have e : bin 4 a b = wrap64 (a.tdiv b) := by show (if b = 0 then _ else _) = _; rw [if_neg h0]
      have q0 : (b == 0) = false := by simpa using h0
      have q1 : (b == -1) = false := by simpa using h1
      rw [e]; clear e h1
      go_enter Tryd.func32, Tryd.ntmps32
      go_wp2
      go_ret
      exact ⟨rfl, rfl⟩
theorem rdo1 (a b : Int) (a0 : -9223372036854775808 ≤ a) (a1 : a ≤ 9223372036854775807) (b0 : -9223372036854775808 ≤ b) (b1 : b ≤ 9223372036854775807) (w : World) : Calls Tryd.prog 11 #[.int .u8 1, .int .i64 a, .int .i64 b] w fun e w' => e = .returned (.tuple #[.int .i64 (bin 1 a b), .int .i64 0]) ∧ w = w' := by
  clear a0 a1 b0 b1
  go_enter Tryd.func11, Tryd.ntmps11
  go_wp2_with (first | (go_at_call 32; refine (quot_any _ _ _).mono ?_; rintro e w' ⟨rfl, rfl⟩) | (go_at_call 33; refine (rtruth_any _ _).mono ?_; rintro e w' ⟨rfl, rfl⟩))
  go_ret2
  exact ⟨rfl, rfl⟩
theorem rdo2 (a b : Int) (a0 : -9223372036854775808 ≤ a) (a1 : a ≤ 9223372036854775807) (b0 : -9223372036854775808 ≤ b) (b1 : b ≤ 9223372036854775807) (w : World) : Calls Tryd.prog 11 #[.int .u8 2, .int .i64 a, .int .i64 b] w fun e w' => e = .returned (.tuple #[.int .i64 (bin 2 a b), .int .i64 0]) ∧ w = w' := by
  clear a0 a1 b0 b1
  go_enter Tryd.func11, Tryd.ntmps11
  go_wp2_with (first | (go_at_call 32; refine (quot_any _ _ _).mono ?_; rintro e w' ⟨rfl, rfl⟩) | (go_at_call 33; refine (rtruth_any _ _).mono ?_; rintro e w' ⟨rfl, rfl⟩))
  go_ret2
  exact ⟨rfl, rfl⟩
theorem rdo3 (a b : Int) (a0 : -9223372036854775808 ≤ a) (a1 : a ≤ 9223372036854775807) (b0 : -9223372036854775808 ≤ b) (b1 : b ≤ 9223372036854775807) (w : World) : Calls Tryd.prog 11 #[.int .u8 3, .int .i64 a, .int .i64 b] w fun e w' => e = .returned (.tuple #[.int .i64 (bin 3 a b), .int .i64 0]) ∧ w = w' := by
  clear a0 a1 b0 b1
  go_enter Tryd.func11, Tryd.ntmps11
  go_wp2_with (first | (go_at_call 32; refine (quot_any _ _ _).mono ?_; rintro e w' ⟨rfl, rfl⟩) | (go_at_call 33; refine (rtruth_any _ _).mono ?_; rintro e w' ⟨rfl, rfl⟩))
  go_ret2
  exact ⟨rfl, rfl⟩
theorem rdo4 (a b : Int) (a0 : -9223372036854775808 ≤ a) (a1 : a ≤ 9223372036854775807) (b0 : -9223372036854775808 ≤ b) (b1 : b ≤ 9223372036854775807) (w : World) : Calls Tryd.prog 11 #[.int .u8 4, .int .i64 a, .int .i64 b] w fun e w' => e = .returned (.tuple #[.int .i64 (bin 4 a b), .int .i64 0]) ∧ w = w' := by
  clear a0 a1 b0 b1
  go_enter Tryd.func11, Tryd.ntmps11
  go_wp2_with (first | (go_at_call 32; refine (quot_any _ _ _).mono ?_; rintro e w' ⟨rfl, rfl⟩) | (go_at_call 33; refine (rtruth_any _ _).mono ?_; rintro e w' ⟨rfl, rfl⟩))
  go_ret2
  exact ⟨rfl, rfl⟩
theorem rdo5 (a b : Int) (a0 : -9223372036854775808 ≤ a) (a1 : a ≤ 9223372036854775807) (b0 : -9223372036854775808 ≤ b) (b1 : b ≤ 9223372036854775807) (w : World) : Calls Tryd.prog 11 #[.int .u8 5, .int .i64 a, .int .i64 b] w fun e w' => e = .returned (.tuple #[.int .i64 (bin 5 a b), .int .i64 0]) ∧ w = w' := by
  by_cases hb : b = 0
  · subst hb
    go_enter Tryd.func11, Tryd.ntmps11
    go_wp2
    go_ret2
    exact ⟨rfl, rfl⟩
  · have e : bin 5 a b = wrap64 (a - wrap64 (wrap64 (a.tdiv b) * b)) := by
      show (if b = 0 then _ else _) = _
      rw [if_neg hb, rem_ref a b hb b0 b1]
    have e4 : bin 4 a b = wrap64 (a.tdiv b) := by show (if b = 0 then _ else _) = _; rw [if_neg hb]
    have q0 : (b == 0) = false := by simpa using hb
    have H := Lib.hid (fun w => quot_any a b w)
    rw [e4] at H
    rw [e]; clear e e4 hb a0 a1 b0 b1
    go_enter Tryd.func11, Tryd.ntmps11
    go_wp2_with (go_at_call 32; refine (H.out _).mono ?_; rintro e w' ⟨rfl, rfl⟩)
    go_ret2
    exact ⟨rfl, rfl⟩
theorem rdo6 (a b : Int) (a0 : -9223372036854775808 ≤ a) (a1 : a ≤ 9223372036854775807) (b0 : -9223372036854775808 ≤ b) (b1 : b ≤ 9223372036854775807) (w : World) : Calls Tryd.prog 11 #[.int .u8 6, .int .i64 a, .int .i64 b] w fun e w' => e = .returned (.tuple #[.int .i64 (bin 6 a b), .int .i64 0]) ∧ w = w' := by
  clear a0 a1 b0 b1
  go_enter Tryd.func11, Tryd.ntmps11
  go_wp2_with (first | (go_at_call 32; refine (quot_any _ _ _).mono ?_; rintro e w' ⟨rfl, rfl⟩) | (go_at_call 33; refine (rtruth_any _ _).mono ?_; rintro e w' ⟨rfl, rfl⟩))
  go_ret2
  exact ⟨rfl, rfl⟩
theorem rdo7 (a b : Int) (a0 : -9223372036854775808 ≤ a) (a1 : a ≤ 9223372036854775807) (b0 : -9223372036854775808 ≤ b) (b1 : b ≤ 9223372036854775807) (w : World) : Calls Tryd.prog 11 #[.int .u8 7, .int .i64 a, .int .i64 b] w fun e w' => e = .returned (.tuple #[.int .i64 (bin 7 a b), .int .i64 0]) ∧ w = w' := by
  clear a0 a1 b0 b1
  go_enter Tryd.func11, Tryd.ntmps11
  go_wp2_with (first | (go_at_call 32; refine (quot_any _ _ _).mono ?_; rintro e w' ⟨rfl, rfl⟩) | (go_at_call 33; refine (rtruth_any _ _).mono ?_; rintro e w' ⟨rfl, rfl⟩))
  go_ret2
  exact ⟨rfl, rfl⟩
theorem rdo8 (a b : Int) (a0 : -9223372036854775808 ≤ a) (a1 : a ≤ 9223372036854775807) (b0 : -9223372036854775808 ≤ b) (b1 : b ≤ 9223372036854775807) (w : World) : Calls Tryd.prog 11 #[.int .u8 8, .int .i64 a, .int .i64 b] w fun e w' => e = .returned (.tuple #[.int .i64 (bin 8 a b), .int .i64 0]) ∧ w = w' := by
  clear a0 a1 b0 b1
  go_enter Tryd.func11, Tryd.ntmps11
  go_wp2_with (first | (go_at_call 32; refine (quot_any _ _ _).mono ?_; rintro e w' ⟨rfl, rfl⟩) | (go_at_call 33; refine (rtruth_any _ _).mono ?_; rintro e w' ⟨rfl, rfl⟩))
  go_ret2
  exact ⟨rfl, rfl⟩
theorem rdo9 (a b : Int) (a0 : -9223372036854775808 ≤ a) (a1 : a ≤ 9223372036854775807) (b0 : -9223372036854775808 ≤ b) (b1 : b ≤ 9223372036854775807) (w : World) : Calls Tryd.prog 11 #[.int .u8 9, .int .i64 a, .int .i64 b] w fun e w' => e = .returned (.tuple #[.int .i64 (bin 9 a b), .int .i64 0]) ∧ w = w' := by
  clear a0 a1 b0 b1
  go_enter Tryd.func11, Tryd.ntmps11
  go_wp2_with (first | (go_at_call 32; refine (quot_any _ _ _).mono ?_; rintro e w' ⟨rfl, rfl⟩) | (go_at_call 33; refine (rtruth_any _ _).mono ?_; rintro e w' ⟨rfl, rfl⟩))
  go_ret2
  exact ⟨rfl, rfl⟩
theorem rdo10 (a b : Int) (a0 : -9223372036854775808 ≤ a) (a1 : a ≤ 9223372036854775807) (b0 : -9223372036854775808 ≤ b) (b1 : b ≤ 9223372036854775807) (w : World) : Calls Tryd.prog 11 #[.int .u8 10, .int .i64 a, .int .i64 b] w fun e w' => e = .returned (.tuple #[.int .i64 (bin 10 a b), .int .i64 0]) ∧ w = w' := by
  clear a0 a1 b0 b1
  go_enter Tryd.func11, Tryd.ntmps11
  go_wp2_with (first | (go_at_call 32; refine (quot_any _ _ _).mono ?_; rintro e w' ⟨rfl, rfl⟩) | (go_at_call 33; refine (rtruth_any _ _).mono ?_; rintro e w' ⟨rfl, rfl⟩))
  go_ret2
  exact ⟨rfl, rfl⟩
theorem rdo11 (a b : Int) (a0 : -9223372036854775808 ≤ a) (a1 : a ≤ 9223372036854775807) (b0 : -9223372036854775808 ≤ b) (b1 : b ≤ 9223372036854775807) (w : World) : Calls Tryd.prog 11 #[.int .u8 11, .int .i64 a, .int .i64 b] w fun e w' => e = .returned (.tuple #[.int .i64 (bin 11 a b), .int .i64 0]) ∧ w = w' := by
  clear a0 a1 b0 b1
  go_enter Tryd.func11, Tryd.ntmps11
  go_wp2_with (first | (go_at_call 32; refine (quot_any _ _ _).mono ?_; rintro e w' ⟨rfl, rfl⟩) | (go_at_call 33; refine (rtruth_any _ _).mono ?_; rintro e w' ⟨rfl, rfl⟩))
  go_ret2
  exact ⟨rfl, rfl⟩
theorem rdo12 (a b : Int) (a0 : -9223372036854775808 ≤ a) (a1 : a ≤ 9223372036854775807) (b0 : -9223372036854775808 ≤ b) (b1 : b ≤ 9223372036854775807) (w : World) : Calls Tryd.prog 11 #[.int .u8 12, .int .i64 a, .int .i64 b] w fun e w' => e = .returned (.tuple #[.int .i64 (bin 12 a b), .int .i64 0]) ∧ w = w' := by
  clear a0 a1 b0 b1
  go_enter Tryd.func11, Tryd.ntmps11
  go_wp2_with (first | (go_at_call 32; refine (quot_any _ _ _).mono ?_; rintro e w' ⟨rfl, rfl⟩) | (go_at_call 33; refine (rtruth_any _ _).mono ?_; rintro e w' ⟨rfl, rfl⟩))
  go_ret2
  exact ⟨rfl, rfl⟩
theorem rdo13 (a b : Int) (a0 : -9223372036854775808 ≤ a) (a1 : a ≤ 9223372036854775807) (b0 : -9223372036854775808 ≤ b) (b1 : b ≤ 9223372036854775807) (w : World) : Calls Tryd.prog 11 #[.int .u8 13, .int .i64 a, .int .i64 b] w fun e w' => e = .returned (.tuple #[.int .i64 (bin 13 a b), .int .i64 0]) ∧ w = w' := by
  clear a0 a1 b0 b1
  go_enter Tryd.func11, Tryd.ntmps11
  go_wp2_with (first | (go_at_call 32; refine (quot_any _ _ _).mono ?_; rintro e w' ⟨rfl, rfl⟩) | (go_at_call 33; refine (rtruth_any _ _).mono ?_; rintro e w' ⟨rfl, rfl⟩))
  go_ret2
  exact ⟨rfl, rfl⟩
theorem rdo14 (a b : Int) (a0 : -9223372036854775808 ≤ a) (a1 : a ≤ 9223372036854775807) (b0 : -9223372036854775808 ≤ b) (b1 : b ≤ 9223372036854775807) (w : World) : Calls Tryd.prog 11 #[.int .u8 14, .int .i64 a, .int .i64 b] w fun e w' => e = .returned (.tuple #[.int .i64 (bin 14 a b), .int .i64 0]) ∧ w = w' := by
  clear a0 a1 b0 b1
  go_enter Tryd.func11, Tryd.ntmps11
  go_wp2_with (first | (go_at_call 32; refine (quot_any _ _ _).mono ?_; rintro e w' ⟨rfl, rfl⟩) | (go_at_call 33; refine (rtruth_any _ _).mono ?_; rintro e w' ⟨rfl, rfl⟩))
  go_ret2
  exact ⟨rfl, rfl⟩
theorem rdo15 (a b : Int) (a0 : -9223372036854775808 ≤ a) (a1 : a ≤ 9223372036854775807) (b0 : -9223372036854775808 ≤ b) (b1 : b ≤ 9223372036854775807) (w : World) : Calls Tryd.prog 11 #[.int .u8 15, .int .i64 a, .int .i64 b] w fun e w' => e = .returned (.tuple #[.int .i64 (bin 15 a b), .int .i64 0]) ∧ w = w' := by
  clear a0 a1 b0 b1
  go_enter Tryd.func11, Tryd.ntmps11
  go_wp2_with (first | (go_at_call 32; refine (quot_any _ _ _).mono ?_; rintro e w' ⟨rfl, rfl⟩) | (go_at_call 33; refine (rtruth_any _ _).mono ?_; rintro e w' ⟨rfl, rfl⟩))
  go_ret2
  exact ⟨rfl, rfl⟩
theorem rdo16 (a b : Int) (a0 : -9223372036854775808 ≤ a) (a1 : a ≤ 9223372036854775807) (b0 : -9223372036854775808 ≤ b) (b1 : b ≤ 9223372036854775807) (w : World) : Calls Tryd.prog 11 #[.int .u8 16, .int .i64 a, .int .i64 b] w fun e w' => e = .returned (.tuple #[.int .i64 (bin 16 a b), .int .i64 0]) ∧ w = w' := by
  clear a0 a1 b0 b1
  go_enter Tryd.func11, Tryd.ntmps11
  go_wp2_with (first | (go_at_call 32; refine (quot_any _ _ _).mono ?_; rintro e w' ⟨rfl, rfl⟩) | (go_at_call 33; refine (rtruth_any _ _).mono ?_; rintro e w' ⟨rfl, rfl⟩))
  go_ret2
  exact ⟨rfl, rfl⟩

theorem rdo_any (o a b : Int) (h1 : 1 ≤ o) (h2 : o ≤ 16) (a0 : -9223372036854775808 ≤ a) (a1 : a ≤ 9223372036854775807) (b0 : -9223372036854775808 ≤ b) (b1 : b ≤ 9223372036854775807) (w : World) : Calls Tryd.prog 11 #[.int .u8 o, .int .i64 a, .int .i64 b] w fun e w' => e = .returned (.tuple #[.int .i64 (bin o a b), .int .i64 0]) ∧ w = w' := by
  have : o = 1 ∨ o = 2 ∨ o = 3 ∨ o = 4 ∨ o = 5 ∨ o = 6 ∨ o = 7 ∨ o = 8 ∨ o = 9 ∨ o = 10 ∨ o = 11 ∨ o = 12 ∨ o = 13 ∨ o = 14 ∨ o = 15 ∨ o = 16 := by omega
  rcases this with rfl | rfl | rfl | rfl | rfl | rfl | rfl | rfl | rfl | rfl | rfl | rfl | rfl | rfl | rfl | rfl
  · exact rdo1 a b a0 a1 b0 b1 w
  · exact rdo2 a b a0 a1 b0 b1 w
  · exact rdo3 a b a0 a1 b0 b1 w
  · exact rdo4 a b a0 a1 b0 b1 w
  · exact rdo5 a b a0 a1 b0 b1 w
  · exact rdo6 a b a0 a1 b0 b1 w
  · exact rdo7 a b a0 a1 b0 b1 w
  · exact rdo8 a b a0 a1 b0 b1 w
  · exact rdo9 a b a0 a1 b0 b1 w
  · exact rdo10 a b a0 a1 b0 b1 w
  · exact rdo11 a b a0 a1 b0 b1 w
  · exact rdo12 a b a0 a1 b0 b1 w
  · exact rdo13 a b a0 a1 b0 b1 w
  · exact rdo14 a b a0 a1 b0 b1 w
  · exact rdo15 a b a0 a1 b0 b1 w
  · exact rdo16 a b a0 a1 b0 b1 w
theorem rdo_no (o a b : Int) (hl : o = 0 ∨ 17 ≤ o) (w : World) : Calls Tryd.prog 11 #[.int .u8 o, .int .i64 a, .int .i64 b] w fun e w' => e = .returned (.tuple #[.int .i64 0, .int .i64 2]) ∧ w = w' := by
  have q1 : (o == 1) = false := by simp; omega
  have q2 : (o == 2) = false := by simp; omega
  have q3 : (o == 3) = false := by simp; omega
  have q4 : (o == 4) = false := by simp; omega
  have q5 : (o == 5) = false := by simp; omega
  have q6 : (o == 6) = false := by simp; omega
  have q7 : (o == 7) = false := by simp; omega
  have q8 : (o == 8) = false := by simp; omega
  have q9 : (o == 9) = false := by simp; omega
  have q10 : (o == 10) = false := by simp; omega
  have q11 : (o == 11) = false := by simp; omega
  have q12 : (o == 12) = false := by simp; omega
  have q13 : (o == 13) = false := by simp; omega
  have q14 : (o == 14) = false := by simp; omega
  have q15 : (o == 15) = false := by simp; omega
  have q16 : (o == 16) = false := by simp; omega
  clear hl
  go_enter Tryd.func11, Tryd.ntmps11
  go_wp2
  go_ret2
  exact ⟨rfl, rfl⟩
theorem rone17 (a : Int) (w : World) : Calls Tryd.prog 13 #[.int .u8 17, .int .i64 a] w fun e w' => e = .returned (.tuple #[.int .i64 (wrap64 (-a)), .int .i64 0]) ∧ w = w' := by
  go_enter Tryd.func13, Tryd.ntmps13
  go_wp2
  go_ret2
  exact ⟨rfl, rfl⟩
theorem rone18 (a : Int) (w : World) : Calls Tryd.prog 13 #[.int .u8 18, .int .i64 a] w fun e w' => e = .returned (.tuple #[.int .i64 (bit (a == 0)), .int .i64 0]) ∧ w = w' := by
  go_enter Tryd.func13, Tryd.ntmps13
  go_wp2_with (go_at_call 33; refine (rtruth_any _ _).mono ?_; rintro e w' ⟨rfl, rfl⟩)
  go_ret2
  exact ⟨rfl, rfl⟩
theorem rone_no (o a : Int) (h1 : o ≠ 17) (h2 : o ≠ 18) (w : World) : Calls Tryd.prog 13 #[.int .u8 o, .int .i64 a] w fun e w' => e = .returned (.tuple #[.int .i64 0, .int .i64 2]) ∧ w = w' := by
  have q17 : (o == 17) = false := by simpa using h1
  have q18 : (o == 18) = false := by simpa using h2
  clear h1 h2
  go_enter Tryd.func13, Tryd.ntmps13
  go_wp2
  go_ret2
  exact ⟨rfl, rfl⟩

/-- One call of each of the four, whatever the operator. -/
theorem does_calls (o a b : Int) (h0 : 0 ≤ o) (h255 : o ≤ 255) (a0 : -9223372036854775808 ≤ a) (a1 : a ≤ 9223372036854775807) (b0 : -9223372036854775808 ≤ b) (b1 : b ≤ 9223372036854775807) :
    ∃ x w1 z w2 : Int, (∀ w0 w : World, Inv w0 w → Calls Tryd.prog 10 #[.int .u8 o, .int .i64 a, .int .i64 b] w fun e w' => e = .returned (.tuple #[.int .i64 x, .int .i64 w1]) ∧ Inv w0 w') ∧
      (∀ w : World, Calls Tryd.prog 11 #[.int .u8 o, .int .i64 a, .int .i64 b] w fun e w' => e = .returned (.tuple #[.int .i64 x, .int .i64 w1]) ∧ w = w') ∧
      (∀ w0 w : World, Inv w0 w → Calls Tryd.prog 12 #[.int .u8 o, .int .i64 a] w fun e w' => e = .returned (.tuple #[.int .i64 z, .int .i64 w2]) ∧ Inv w0 w') ∧
      (∀ w : World, Calls Tryd.prog 13 #[.int .u8 o, .int .i64 a] w fun e w' => e = .returned (.tuple #[.int .i64 z, .int .i64 w2]) ∧ w = w') := by
  have two : ∃ x w1 : Int, (∀ w0 w : World, Inv w0 w → Calls Tryd.prog 10 #[.int .u8 o, .int .i64 a, .int .i64 b] w fun e w' => e = .returned (.tuple #[.int .i64 x, .int .i64 w1]) ∧ Inv w0 w') ∧
      (∀ w : World, Calls Tryd.prog 11 #[.int .u8 o, .int .i64 a, .int .i64 b] w fun e w' => e = .returned (.tuple #[.int .i64 x, .int .i64 w1]) ∧ w = w') := by
    by_cases h : 1 ≤ o ∧ o ≤ 16
    · exact ⟨bin o a b, 0, fun w0 w I => (do_any o a b h.1 h.2 w I.tabs).mono fun _ _ ⟨he, hb⟩ => ⟨he, I.next hb⟩, fun w => rdo_any o a b h.1 h.2 a0 a1 b0 b1 w⟩
    · exact ⟨0, 2, fun w0 w I => (do_no o a b h0 h255 (by omega) w I.tabs).mono fun _ _ ⟨he, hb⟩ => ⟨he, by rw [← hb]; exact I⟩, fun w => rdo_no o a b (by omega) w⟩
  have one : ∃ z w2 : Int, (∀ w0 w : World, Inv w0 w → Calls Tryd.prog 12 #[.int .u8 o, .int .i64 a] w fun e w' => e = .returned (.tuple #[.int .i64 z, .int .i64 w2]) ∧ Inv w0 w') ∧
      (∀ w : World, Calls Tryd.prog 13 #[.int .u8 o, .int .i64 a] w fun e w' => e = .returned (.tuple #[.int .i64 z, .int .i64 w2]) ∧ w = w') := by
    by_cases h17 : o = 17
    · subst h17
      exact ⟨wrap64 (-a), 0, fun w0 w I => (one17 a w I.tabs).mono fun _ _ ⟨he, hb⟩ => ⟨he, I.next hb⟩, fun w => rone17 a w⟩
    by_cases h18 : o = 18
    · subst h18
      exact ⟨bit (a == 0), 0, fun w0 w I => (one18 a w I.tabs).mono fun _ _ ⟨he, hb⟩ => ⟨he, I.next hb⟩, fun w => rone18 a w⟩
    · exact ⟨0, 2, fun w0 w I => (one_no o a h0 h255 h17 h18 w I.tabs).mono fun _ _ ⟨he, hb⟩ => ⟨he, by rw [← hb]; exact I⟩, fun w => rone_no o a h17 h18 w⟩
  obtain ⟨x, w1, p1, p2⟩ := two
  obtain ⟨z, w2, p3, p4⟩ := one
  exact ⟨x, w1, z, w2, p1, p2, p3, p4⟩
theorem does_walk (o a b : Int) (o0 : 0 ≤ o) (o1 : o ≤ 255) (wa0 : -9223372036854775808 ≤ a) (wa1 : a ≤ 9223372036854775807) (wb0 : -9223372036854775808 ≤ b) (wb1 : b ≤ 9223372036854775807) (w : World) (T : Tabs w) :
    Calls Tryd.prog 3 #[.int .u8 o, .int .i64 a, .int .i64 b] w fun e w' => e = .returned (.bool true) ∧ Inv w w' := by
  have I := Inv.start T
  obtain ⟨x, w1, z, w2, p1, p2, p3, p4⟩ := does_calls o a b o0 o1 wa0 wa1 wb0 wb1
  have P1 := Lib.hid p1
  have P2 := Lib.hid p2
  have P3 := Lib.hid p3
  have P4 := Lib.hid p4
  clear p1 p2 p3 p4 T o0 o1 wa0 wa1 wb0 wb1
  go_enter Tryd.func3, Tryd.ntmps3
  go_wp2_with (first
    | (go_at_call 14; refine (lives_i (by assumption)).mono ?_; rintro e w' ⟨rfl, I⟩)
    | (go_at_call 10; refine (P1.out _ _ (by assumption)).mono ?_; rintro e w' ⟨rfl, I⟩)
    | (go_at_call 11; refine (P2.out _).mono ?_; rintro e w' ⟨rfl, rfl⟩)
    | (go_at_call 12; refine (P3.out _ _ (by assumption)).mono ?_; rintro e w' ⟨rfl, I⟩)
    | (go_at_call 13; refine (P4.out _).mono ?_; rintro e w' ⟨rfl, rfl⟩))
  go_ret
  exact ⟨rfl, by assumption⟩
end Go.Proofs.YtheajpdffkehnaaDoor

/- WordsRing: for every input the law returns true: addition and multiplication of words are a ring's. -/
import Derived.Test.YtheajpdffkehnaaDoorInv
namespace Go.Proofs.YtheajpdffkehnaaDoor
open Go.RowKit
set_option linter.unusedVariables false

theorem neq_f {a b : Int} (h : a = b) : (a != b) = false := by simp [h]
theorem eq_t {a b : Int} (h : a = b) : (a == b) = true := by simp [h]
theorem ring_walk (a b c : Int) (wa0 : -9223372036854775808 ≤ a) (wa1 : a ≤ 9223372036854775807) (wb0 : -9223372036854775808 ≤ b) (wb1 : b ≤ 9223372036854775807) (wc0 : -9223372036854775808 ≤ c) (wc1 : c ≤ 9223372036854775807) (w : World) (T : Tabs w) :
    Calls Tryd.prog 7 #[.int .i64 a, .int .i64 b, .int .i64 c] w fun e w' => e = .returned (.bool true) ∧ Inv w w' := by
  have I := Inv.start T
  have t1 : (bin 1 a (bin 1 b c) != bin 1 (bin 1 a b) c) = false := neq_f (ring_add a b c)
  have t2 : (bin 3 a (bin 3 b c) != bin 3 (bin 3 a b) c) = false := neq_f (ring_mul a b c)
  have t3 : (bin 1 a b != bin 1 b a) = false := neq_f (by show wrap64 _ = wrap64 _; rw [Int.add_comm])
  have t4 : (bin 3 a b != bin 3 b a) = false := neq_f (by show wrap64 _ = wrap64 _; rw [Int.mul_comm])
  have t5 : (bin 3 a (bin 1 b c) == bin 1 (bin 3 a b) (bin 3 a c)) = true := eq_t (ring_over a b c)
  have t6 : (bin 2 a b == bin 1 a (wrap64 (-b))) = true := eq_t (ring_minus a b)
  have t7 : (bin 1 a (wrap64 (-a)) == 0) = true := eq_t (ring_nought a)
  have t8 : (bin 3 a 1 == a) = true := eq_t (by show wrap64 _ = _; rw [Int.mul_one, w64_id _ wa0 wa1])
  have t9 : (bin 1 a 0 == a) = true := eq_t (by show wrap64 _ = _; rw [Int.add_zero, w64_id _ wa0 wa1])
  clear T wa0 wa1 wb0 wb1 wc0 wc1
  go_enter Tryd.func7, Tryd.ntmps7
  go_wp2_with (first
    | (go_at_call 14; refine (lives_i (by assumption)).mono ?_; rintro e w' ⟨rfl, I⟩)
    | (go_at_call 29; refine (do_i _ _ _ (by decide) (by decide) (by assumption)).mono ?_; rintro e w' ⟨rfl, I⟩)
    | (go_at_call 30; refine (minus_i _ (by assumption)).mono ?_; rintro e w' ⟨rfl, I⟩))
  go_ret
  exact ⟨rfl, by assumption⟩
end Go.Proofs.YtheajpdffkehnaaDoor

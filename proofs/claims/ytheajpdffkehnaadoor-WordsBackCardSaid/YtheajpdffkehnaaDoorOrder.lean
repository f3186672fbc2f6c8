/- WordsOrder: for every input the law returns true: the order of words, and their quotient and remainder. -/
import Derived.Test.YtheajpdffkehnaaDoorInv
import Derived.Test.YtheajpdffkehnaaDoorMath2
import Derived.Test.YtheajpdffkehnaaDoorRing
namespace Go.Proofs.YtheajpdffkehnaaDoor
open Go.RowKit
set_option linter.unusedVariables false

theorem bit_or (x : Bool) : bit x = 0 ∨ bit x = 1 := by cases x <;> simp [bit]
theorem bit_of {p : Prop} [Decidable p] : (p → bit (decide p) = 1) ∧ (¬ p → bit (decide p) = 0) := ⟨fun h => by simp [bit, h], fun h => by simp [bit, h]⟩
theorem order_one (a b : Int) : wrap64 (wrap64 (bin 13 a b + bin 11 a b) + bin 15 a b) = 1 := by
  show wrap64 (wrap64 (bit (decide (a < b)) + bit (a == b)) + bit (decide (b < a))) = 1
  have e : bit (a == b) = bit (decide (a = b)) := by
    by_cases h : a = b
    · simp [h]
    · have h2 : (a == b) = false := by simpa using h
      rw [h2]; simp [h]
  rw [e]
  have k1 := bit_of (p := a < b); have k2 := bit_of (p := a = b); have k3 := bit_of (p := b < a)
  unfold wrap64
  rcases Int.lt_trichotomy a b with h | h | h
  · rw [k1.1 h, k2.2 (by omega), k3.2 (by omega)]; decide
  · rw [k1.2 (by omega), k2.1 h, k3.2 (by omega)]; decide
  · rw [k1.2 (by omega), k2.2 (by omega), k3.1 h]; decide
theorem not_bit (p q : Bool) (h : p = !q) : bit p = wrap64 (1 - bit q) := by subst h; cases q <;> (unfold wrap64; decide)
theorem order_most (a b : Int) : bin 14 a b = wrap64 (1 - bin 15 a b) := by
  show bit (decide (a ≤ b)) = wrap64 (1 - bit (decide (b < a)))
  exact not_bit _ _ (by by_cases h : b < a <;> simp [h] <;> omega)
theorem order_least (a b : Int) : bin 16 a b = wrap64 (1 - bin 13 a b) := by
  show bit (decide (b ≤ a)) = wrap64 (1 - bit (decide (a < b)))
  exact not_bit _ _ (by by_cases h : a < b <;> simp [h] <;> omega)
theorem order_isnot (a b : Int) : bin 12 a b = wrap64 (1 - bin 11 a b) := by
  show bit (a != b) = wrap64 (1 - bit (a == b))
  exact not_bit _ _ rfl
theorem order_turn (a b : Int) : bin 13 a b = bin 15 b a := rfl
theorem order_back (a b : Int) (h0 : -9223372036854775808 ≤ a) (h1 : a ≤ 9223372036854775807) (hb : b ≠ 0) : bin 1 (bin 3 (bin 4 a b) b) (bin 5 a b) = a := by
  have e4 : bin 4 a b = wrap64 (a.tdiv b) := by show (if b = 0 then _ else _) = _; rw [if_neg hb]
  have e5 : bin 5 a b = a.tmod b := by show (if b = 0 then _ else _) = _; rw [if_neg hb]
  rw [e4, e5]
  exact quo_rem a b h0 h1
theorem rem_bd (a b : Int) (hb : b ≠ 0) : (0 ≤ a → 0 ≤ bin 5 a b) ∧ (a ≤ 0 → bin 5 a b ≤ 0) ∧ (0 < b → bin 5 a b < b ∧ -b < bin 5 a b) ∧ (b < 0 → bin 5 a b < -b ∧ b < bin 5 a b) := by
  have e5 : bin 5 a b = a.tmod b := by show (if b = 0 then _ else _) = _; rw [if_neg hb]
  rw [e5]; exact tmod_bd a b

set_option maxHeartbeats 400000 in
theorem order_nought (a : Int) (w : World) (T : Tabs w) :
    Calls Tryd.prog 9 #[.int .i64 a, .int .i64 0] w fun e w' => e = .returned (.bool true) ∧ Inv w w' := by
  have I := Inv.start T
  have t1 : (wrap64 (wrap64 (bin 13 a 0 + bin 11 a 0) + bin 15 a 0) != 1) = false := neq_f (order_one a 0)
  have t2 : (bin 14 a 0 != wrap64 (1 - bin 15 a 0)) = false := neq_f (order_most a 0)
  have t3 : (bin 16 a 0 != wrap64 (1 - bin 13 a 0)) = false := neq_f (order_least a 0)
  have t4 : (bin 12 a 0 != wrap64 (1 - bin 11 a 0)) = false := neq_f (order_isnot a 0)
  have t5 : (bin 13 a 0 != bin 15 0 a) = false := neq_f (order_turn a 0)
  have t6 : (bin 4 a 0 == 0) = true := rfl
  have t7 : (bin 5 a 0 == a) = true := eq_t rfl
  clear T
  go_enter Tryd.func9, Tryd.ntmps9
  go_wp2_with (first
    | (go_at_call 14; refine (lives_i (by assumption)).mono ?_; rintro e w' ⟨rfl, I⟩)
    | (go_at_call 29; refine (do_i _ _ _ (by decide) (by decide) (by assumption)).mono ?_; rintro e w' ⟨rfl, I⟩))
  go_ret
  exact ⟨rfl, by assumption⟩
set_option maxHeartbeats 1600000 in
theorem order_walk (a b : Int) (wa0 : -9223372036854775808 ≤ a) (wa1 : a ≤ 9223372036854775807) (wb0 : -9223372036854775808 ≤ b) (wb1 : b ≤ 9223372036854775807) (w : World) (T : Tabs w) :
    Calls Tryd.prog 9 #[.int .i64 a, .int .i64 b] w fun e w' => e = .returned (.bool true) ∧ Inv w w' := by
  by_cases hb : b = 0
  · subst hb; exact order_nought a w T
  have I := Inv.start T
  have t1 : (wrap64 (wrap64 (bin 13 a b + bin 11 a b) + bin 15 a b) != 1) = false := neq_f (order_one a b)
  have t2 : (bin 14 a b != wrap64 (1 - bin 15 a b)) = false := neq_f (order_most a b)
  have t3 : (bin 16 a b != wrap64 (1 - bin 13 a b)) = false := neq_f (order_least a b)
  have t4 : (bin 12 a b != wrap64 (1 - bin 11 a b)) = false := neq_f (order_isnot a b)
  have t5 : (bin 13 a b != bin 15 b a) = false := neq_f (order_turn a b)
  have t6 : (bin 1 (bin 3 (bin 4 a b) b) (bin 5 a b) != a) = false := neq_f (order_back a b wa0 wa1 hb)
  have tb : (b == 0) = false := by simpa using hb
  obtain ⟨k1, k2, k3, k4⟩ := rem_bd a b hb
  have split : ∀ P : Prop, (∀ r, r = bin 5 a b → (0 < r ∧ 0 < a ∨ r = 0 ∨ r < 0 ∧ a < 0) → (0 < b ∧ r < b ∧ -b < r ∨ b < 0 ∧ r < -b ∧ b < r) → P) → P := fun P h => h _ rfl (by omega) (by omega)
  clear T k1 k2 k3 k4
  refine split _ fun r hr hs hd => ?_
  clear split
  have H5 : ∀ (w0 W : World), Inv w0 W → Calls Tryd.prog 29 #[.int .u8 5, .int .i64 a, .int .i64 b] W fun e w' => e = .returned (.int .i64 r) ∧ Inv w0 w' := fun w0 W I => by
    rw [hr]; exact do_i 5 a b (by decide) (by decide) I
  rw [← hr] at t6
  clear hr hb
  have H := Lib.hid H5
  clear H5
  have hfin : (r == 0 || decide (r < 0) == decide (a < 0)) = true := by
    rcases hs with ⟨x, y⟩ | x | ⟨x, y⟩
    · have e1 : decide (r < 0) = false := by simpa using Int.le_of_lt x
      have e2 : decide (a < 0) = false := by simpa using Int.le_of_lt y
      rw [e1, e2]; simp
    · subst x; rfl
    · have e1 : decide (r < 0) = true := by simpa using x
      have e2 : decide (a < 0) = true := by simpa using y
      rw [e1, e2]; simp
  rcases hs with ⟨hr0, ha0⟩ | rfl | ⟨hr0, ha0⟩ <;> rcases hd with ⟨hb0, hd1, hd2⟩ | ⟨hb0, hd1, hd2⟩
  all_goals
    go_enter Tryd.func9, Tryd.ntmps9
    go_wp2_with (first
      | (go_at_call 14; refine (lives_i (by assumption)).mono ?_; rintro e w' ⟨rfl, I⟩)
      | (go_at_call 29; (with_reducible refine (H.out _ _ (by assumption)).mono ?_); rintro e w' ⟨rfl, I⟩)
      | (go_at_call 29; refine (do_i _ _ _ (by decide) (by decide) (by assumption)).mono ?_; rintro e w' ⟨rfl, I⟩))
    go_ret
    exact ⟨rfl, by assumption⟩
end Go.Proofs.YtheajpdffkehnaaDoor

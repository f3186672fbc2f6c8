/- WordsBits: for every input the law returns true: bits, shifts, and which operators' two may change about. -/
import Derived.Test.YtheajpdffkehnaaDoorOrder
namespace Go.Proofs.YtheajpdffkehnaaDoor
open Go.RowKit
set_option linter.unusedVariables false

/-- May an operator's two change about? -/
def turnsB (o : Int) : Bool := o == 1 || o == 3 || o == 6 || o == 7 || o == 8 || o == 11 || o == 12
theorem turns_yes (o : Int) (h : turnsB o = true) (w : World) : Calls Tryd.prog 23 #[.int .u8 o] w fun e w' => e = .returned (.bool true) ∧ w = w' := by
  have : o = 1 ∨ o = 3 ∨ o = 6 ∨ o = 7 ∨ o = 8 ∨ o = 11 ∨ o = 12 := by
    simp [turnsB] at h; omega
  clear h
  rcases this with rfl | rfl | rfl | rfl | rfl | rfl | rfl
  all_goals
    go_enter Tryd.func23, Tryd.ntmps23
    go_wp2
    go_ret
    exact ⟨rfl, rfl⟩
theorem turns_no (o : Int) (h : turnsB o = false) (w : World) : Calls Tryd.prog 23 #[.int .u8 o] w fun e w' => e = .returned (.bool false) ∧ w = w' := by
  simp [turnsB] at h
  have q1 : (o == 1) = false := by simp; omega
  have q3 : (o == 3) = false := by simp; omega
  have q6 : (o == 6) = false := by simp; omega
  have q7 : (o == 7) = false := by simp; omega
  have q8 : (o == 8) = false := by simp; omega
  have q11 : (o == 11) = false := by simp; omega
  have q12 : (o == 12) = false := by simp; omega
  clear h
  go_enter Tryd.func23, Tryd.ntmps23
  go_wp2
  go_ret
  exact ⟨rfl, rfl⟩
theorem turns_is (o a b : Int) (h : turnsB o = true) : bin o a b = bin o b a ∧ 1 ≤ o ∧ o ≤ 16 := by
  have : o = 1 ∨ o = 3 ∨ o = 6 ∨ o = 7 ∨ o = 8 ∨ o = 11 ∨ o = 12 := by
    simp [turnsB] at h; omega
  rcases this with rfl | rfl | rfl | rfl | rfl | rfl | rfl
  · exact ⟨by show wrap64 _ = wrap64 _; rw [Int.add_comm], by decide, by decide⟩
  · exact ⟨by show wrap64 _ = wrap64 _; rw [Int.mul_comm], by decide, by decide⟩
  · exact ⟨(bits_comm a b).1, by decide, by decide⟩
  · exact ⟨(bits_comm a b).2.1, by decide, by decide⟩
  · exact ⟨(bits_comm a b).2.2, by decide, by decide⟩
  · exact ⟨by show bit (a == b) = bit (b == a); rw [Bool.beq_comm], by decide, by decide⟩
  · exact ⟨by show bit (a != b) = bit (b != a); unfold bne; rw [Bool.beq_comm], by decide, by decide⟩
theorem far_nat (n : Nat) (h : n < 9223372036854775808) : far (n : Int) = n % 64 := by
  unfold far
  rw [low_six n h, IntWalk.u64_in _ (by omega)]
  omega
theorem far_is (n : Int) (h0 : 0 ≤ n) (h1 : n ≤ 9223372036854775807) : far n = n.toNat % 64 := by
  have := far_nat n.toNat (by omega)
  rw [show ((n.toNat : Nat) : Int) = n from Int.toNat_of_nonneg h0] at this
  exact this
theorem shl_is (a n : Int) (h0 : 0 ≤ n) (h1 : n < 63) : bin 9 a n = bin 3 a (wrap64 (2 ^ min n.toNat 64)) := by
  show wrap64 (a * 2 ^ far n) = wrap64 (a * wrap64 (2 ^ min n.toNat 64))
  rw [w64_mul_r, far_is n h0 (by omega), Nat.mod_eq_of_lt (by omega), Nat.min_eq_left (by omega)]
theorem shr_is (a n : Int) (h0 : 0 ≤ n) (h1 : n ≤ 255) : bin 10 a n = bin 10 a (n % 64) := by
  show a / 2 ^ far n = a / 2 ^ far (n % 64)
  rw [far_is n h0 (by omega), far_is (n % 64) (by omega) (by omega)]
  congr 2; omega
theorem one18_i {w0 w : World} (a : Int) (I : Inv w0 w) : Calls Tryd.prog 12 #[.int .u8 18, .int .i64 a] w fun e w' => e = .returned (.tuple #[.int .i64 (bit (a == 0)), .int .i64 0]) ∧ Inv w0 w' :=
  (one18 a w I.tabs).mono fun _ _ ⟨he, hb⟩ => ⟨he, I.next hb⟩
set_option maxHeartbeats 3200000 in
theorem bits_walk (o a b n : Int) (o0 : 0 ≤ o) (o1 : o ≤ 255) (wa0 : -9223372036854775808 ≤ a) (wa1 : a ≤ 9223372036854775807) (wb0 : -9223372036854775808 ≤ b) (wb1 : b ≤ 9223372036854775807) (n0 : 0 ≤ n) (n1 : n ≤ 255) (w : World) (T : Tabs w) :
    Calls Tryd.prog 8 #[.int .u8 o, .int .i64 a, .int .i64 b, .int .u8 n] w fun e w' => e = .returned (.bool true) ∧ Inv w w' := by
  have I := Inv.start T
  have t1 : (bin 8 (bin 8 a b) b != a) = false := neq_f (xor_back a b wa0 wa1)
  have t2 : (bin 1 (bin 6 a b) (bin 7 a b) != bin 1 a b) = false := neq_f (and_or_sum a b)
  have t4 : (bin 10 a n == bin 10 a (n % 64)) = true := eq_t (shr_is a n n0 n1)
  have b1 : bit true = 1 := rfl
  have b0 : bit false = 0 := rfl
  have t3 : n < 63 → (bin 9 a n != bin 3 a (wrap64 (2 ^ n.toNat))) = false := fun hn => neq_f (by rw [shl_is a n n0 hn, Nat.min_eq_left (by omega)])
  have tt : turnsB o = true → (bin o a b == bin o b a) = true ∧ 1 ≤ o ∧ o ≤ 16 := fun h => ⟨eq_t (turns_is o a b h).1, (turns_is o a b h).2⟩
  have HY := Lib.hid (turns_yes o)
  have HN := Lib.hid (turns_no o)
  clear T
  by_cases ha : a = 0
  · subst ha
    by_cases hn : n < 63
    · have t3' := t3 hn
      clear t3
      by_cases ht : turnsB o = true
      · have HT := Lib.hid (HY.out ht)
        obtain ⟨h5, hd⟩ := tt ht
        clear tt ht HN HY
        go_enter Tryd.func8, Tryd.ntmps8
        go_wp2_with (first
          | (go_at_call 14; refine (lives_i (by assumption)).mono ?_; rintro e w' ⟨rfl, I⟩)
          | (go_at_call 29; refine (do_i _ _ _ (by omega) (by omega) (by assumption)).mono ?_; rintro e w' ⟨rfl, I⟩)
          | (go_at_call 23; refine (HT.out _).mono ?_; rintro e w' ⟨rfl, rfl⟩)
          | (go_at_call 12; refine (one18_i _ (by assumption)).mono ?_; rintro e w' ⟨rfl, I⟩))
        go_ret
        exact ⟨rfl, by assumption⟩
      · have HT := Lib.hid (HN.out (by simpa using ht))
        clear tt ht HN HY
        go_enter Tryd.func8, Tryd.ntmps8
        go_wp2_with (first
          | (go_at_call 14; refine (lives_i (by assumption)).mono ?_; rintro e w' ⟨rfl, I⟩)
          | (go_at_call 29; refine (do_i _ _ _ (by omega) (by omega) (by assumption)).mono ?_; rintro e w' ⟨rfl, I⟩)
          | (go_at_call 23; refine (HT.out _).mono ?_; rintro e w' ⟨rfl, rfl⟩)
          | (go_at_call 12; refine (one18_i _ (by assumption)).mono ?_; rintro e w' ⟨rfl, I⟩))
        go_ret
        exact ⟨rfl, by assumption⟩
    · clear t3
      by_cases ht : turnsB o = true
      · have HT := Lib.hid (HY.out ht)
        obtain ⟨h5, hd⟩ := tt ht
        clear tt ht HN HY
        go_enter Tryd.func8, Tryd.ntmps8
        go_wp2_with (first
          | (go_at_call 14; refine (lives_i (by assumption)).mono ?_; rintro e w' ⟨rfl, I⟩)
          | (go_at_call 29; refine (do_i _ _ _ (by omega) (by omega) (by assumption)).mono ?_; rintro e w' ⟨rfl, I⟩)
          | (go_at_call 23; refine (HT.out _).mono ?_; rintro e w' ⟨rfl, rfl⟩)
          | (go_at_call 12; refine (one18_i _ (by assumption)).mono ?_; rintro e w' ⟨rfl, I⟩))
        go_ret
        exact ⟨rfl, by assumption⟩
      · have HT := Lib.hid (HN.out (by simpa using ht))
        clear tt ht HN HY
        go_enter Tryd.func8, Tryd.ntmps8
        go_wp2_with (first
          | (go_at_call 14; refine (lives_i (by assumption)).mono ?_; rintro e w' ⟨rfl, I⟩)
          | (go_at_call 29; refine (do_i _ _ _ (by omega) (by omega) (by assumption)).mono ?_; rintro e w' ⟨rfl, I⟩)
          | (go_at_call 23; refine (HT.out _).mono ?_; rintro e w' ⟨rfl, rfl⟩)
          | (go_at_call 12; refine (one18_i _ (by assumption)).mono ?_; rintro e w' ⟨rfl, I⟩))
        go_ret
        exact ⟨rfl, by assumption⟩
  · have qa : (a == 0) = false := by simpa using ha
    clear ha
    by_cases hn : n < 63
    · have t3' := t3 hn
      clear t3
      by_cases ht : turnsB o = true
      · have HT := Lib.hid (HY.out ht)
        obtain ⟨h5, hd⟩ := tt ht
        clear tt ht HN HY
        go_enter Tryd.func8, Tryd.ntmps8
        go_wp2_with (first
          | (go_at_call 14; refine (lives_i (by assumption)).mono ?_; rintro e w' ⟨rfl, I⟩)
          | (go_at_call 29; refine (do_i _ _ _ (by omega) (by omega) (by assumption)).mono ?_; rintro e w' ⟨rfl, I⟩)
          | (go_at_call 23; refine (HT.out _).mono ?_; rintro e w' ⟨rfl, rfl⟩)
          | (go_at_call 12; refine (one18_i _ (by assumption)).mono ?_; rintro e w' ⟨rfl, I⟩))
        go_ret
        exact ⟨rfl, by assumption⟩
      · have HT := Lib.hid (HN.out (by simpa using ht))
        clear tt ht HN HY
        go_enter Tryd.func8, Tryd.ntmps8
        go_wp2_with (first
          | (go_at_call 14; refine (lives_i (by assumption)).mono ?_; rintro e w' ⟨rfl, I⟩)
          | (go_at_call 29; refine (do_i _ _ _ (by omega) (by omega) (by assumption)).mono ?_; rintro e w' ⟨rfl, I⟩)
          | (go_at_call 23; refine (HT.out _).mono ?_; rintro e w' ⟨rfl, rfl⟩)
          | (go_at_call 12; refine (one18_i _ (by assumption)).mono ?_; rintro e w' ⟨rfl, I⟩))
        go_ret
        exact ⟨rfl, by assumption⟩
    · clear t3
      by_cases ht : turnsB o = true
      · have HT := Lib.hid (HY.out ht)
        obtain ⟨h5, hd⟩ := tt ht
        clear tt ht HN HY
        go_enter Tryd.func8, Tryd.ntmps8
        go_wp2_with (first
          | (go_at_call 14; refine (lives_i (by assumption)).mono ?_; rintro e w' ⟨rfl, I⟩)
          | (go_at_call 29; refine (do_i _ _ _ (by omega) (by omega) (by assumption)).mono ?_; rintro e w' ⟨rfl, I⟩)
          | (go_at_call 23; refine (HT.out _).mono ?_; rintro e w' ⟨rfl, rfl⟩)
          | (go_at_call 12; refine (one18_i _ (by assumption)).mono ?_; rintro e w' ⟨rfl, I⟩))
        go_ret
        exact ⟨rfl, by assumption⟩
      · have HT := Lib.hid (HN.out (by simpa using ht))
        clear tt ht HN HY
        go_enter Tryd.func8, Tryd.ntmps8
        go_wp2_with (first
          | (go_at_call 14; refine (lives_i (by assumption)).mono ?_; rintro e w' ⟨rfl, I⟩)
          | (go_at_call 29; refine (do_i _ _ _ (by omega) (by omega) (by assumption)).mono ?_; rintro e w' ⟨rfl, I⟩)
          | (go_at_call 23; refine (HT.out _).mono ?_; rintro e w' ⟨rfl, rfl⟩)
          | (go_at_call 12; refine (one18_i _ (by assumption)).mono ?_; rintro e w' ⟨rfl, I⟩))
        go_ret
        exact ⟨rfl, by assumption⟩
end Go.Proofs.YtheajpdffkehnaaDoor

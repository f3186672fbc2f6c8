/- Plain arithmetic of words: quotient and remainder, bits, shifts. No program is named here. -/
import Derived.Test.YtheajpdffkehnaaDoorMath
import Derived.Laws.BitsAllLaws
import Derived.Laws.BitsLemmas
namespace Go.Proofs.YtheajpdffkehnaaDoor
open Go.RowKit

theorem tmod_bd (a b : Int) : (0 ≤ a → 0 ≤ a.tmod b) ∧ (a ≤ 0 → a.tmod b ≤ 0) ∧ (0 < b → a.tmod b < b ∧ -b < a.tmod b) ∧ (b < 0 → a.tmod b < -b ∧ b < a.tmod b) := by
  have h0 : ∀ x y : Int, 0 ≤ x → 0 ≤ x.tmod y := fun x y h => Int.tmod_nonneg y h
  have h1 : ∀ x y : Int, 0 < y → x.tmod y < y := fun x y h => Int.tmod_lt_of_pos x h
  have h2 : (-a).tmod b = -(a.tmod b) := Int.neg_tmod a b
  have h3 : a.tmod (-b) = a.tmod b := Int.tmod_neg a b
  have h4 : (-a).tmod (-b) = -(a.tmod b) := by rw [Int.tmod_neg, h2]
  refine ⟨h0 a b, fun h => ?_, fun h => ⟨h1 a b h, ?_⟩, fun h => ⟨?_, ?_⟩⟩
  · have := h0 (-a) b (by omega); omega
  · have := h1 (-a) b h; omega
  · have := h1 a (-b) (by omega); omega
  · have := h1 (-a) (-b) (by omega); omega
theorem quo_rem (a b : Int) (h0 : -9223372036854775808 ≤ a) (h1 : a ≤ 9223372036854775807) : wrap64 (wrap64 (wrap64 (a.tdiv b) * b) + a.tmod b) = a := by
  rw [w64_mul_l, w64_add_l, Int.mul_comm, Int.mul_tdiv_add_tmod, w64_id a h0 h1]
theorem rem_ref (a b : Int) (hb : b ≠ 0) (hb0 : -9223372036854775808 ≤ b) (hb1 : b ≤ 9223372036854775807) : wrap64 (a - wrap64 (wrap64 (a.tdiv b) * b)) = a.tmod b := by
  rw [w64_sub_r]
  have e : wrap64 (a - wrap64 (a.tdiv b) * b) = wrap64 (a - a.tdiv b * b) := by
    rw [← w64_sub_r, w64_mul_l, w64_sub_r]
  rw [e]
  have h := Int.mul_tdiv_add_tmod a b
  rw [Int.mul_comm] at h
  rw [show a - a.tdiv b * b = a.tmod b by omega]
  have k := tmod_bd a b
  apply w64_id <;> rcases Int.lt_or_gt_of_ne hb with hb' | hb' <;> first | (have := k.2.2.2 hb'; omega) | (have := k.2.2.1 hb'; omega)

theorem and_add_or : ∀ n x y : Nat, x < 2 ^ n → (x &&& y) + (x ||| y) = x + y
  | 0, x, y, h => by
    have : x = 0 := by simpa using h
    subst this; simp
  | n + 1, x, y, h => by
    have ih := and_add_or n (x / 2) (y / 2) (by rw [Nat.pow_succ] at h; omega)
    have a1 : (x &&& y) / 2 = x / 2 &&& y / 2 := Nat.and_div_two
    have a2 : (x ||| y) / 2 = x / 2 ||| y / 2 := Nat.or_div_two
    have a3 : (x &&& y) % 2 = 1 ↔ x % 2 = 1 ∧ y % 2 = 1 := Nat.and_mod_two_eq_one
    have a4 : (x ||| y) % 2 = 1 ↔ x % 2 = 1 ∨ y % 2 = 1 := Nat.or_mod_two_eq_one
    rw [← a1, ← a2] at ih
    omega

theorem bits_is (x y : Int) : bits .and .i64 x y = wrap64 ((BitVec.ofInt 64 x &&& BitVec.ofInt 64 y).toNat : Int) ∧ bits .or .i64 x y = wrap64 ((BitVec.ofInt 64 x ||| BitVec.ofInt 64 y).toNat : Int) ∧ bits .xor .i64 x y = wrap64 ((BitVec.ofInt 64 x ^^^ BitVec.ofInt 64 y).toNat : Int) := by
  refine ⟨?_, ?_, ?_⟩
  · show IntKind.i64.wrap _ = _; rw [IntWalk.i64_left]; rfl
  · show IntKind.i64.wrap _ = _; rw [IntWalk.i64_left]; rfl
  · show IntKind.i64.wrap _ = _; rw [IntWalk.i64_left]; rfl
theorem ofInt_w64 (x : Int) : BitVec.ofInt 64 (wrap64 x) = BitVec.ofInt 64 x := by
  apply BitVec.eq_of_toInt_eq
  rw [BitVec.toInt_ofInt, BitVec.toInt_ofInt, w64_bmod]
  exact Int.bmod_bmod
theorem w64_ofInt (x : Int) : wrap64 ((BitVec.ofInt 64 x).toNat : Int) = wrap64 x := by
  rw [BitVec.toNat_ofInt]; unfold wrap64; omega
theorem ofInt_toNat (v : BitVec 64) : BitVec.ofInt 64 (v.toNat : Int) = v := by
  rw [BitVec.ofInt_natCast]; simp
theorem xor_back (a b : Int) (h0 : -9223372036854775808 ≤ a) (h1 : a ≤ 9223372036854775807) : bits .xor .i64 (bits .xor .i64 a b) b = a := by
  rw [(bits_is _ _).2.2, (bits_is a b).2.2, ofInt_w64, ofInt_toNat, BitVec.xor_assoc, BitVec.xor_self, BitVec.xor_zero, w64_ofInt, w64_id a h0 h1]
theorem and_or_sum (a b : Int) : wrap64 (bits .and .i64 a b + bits .or .i64 a b) = wrap64 (a + b) := by
  rw [(bits_is a b).1, (bits_is a b).2.1, w64_add_l, w64_add_r]
  rw [BitVec.toNat_and, BitVec.toNat_or, ← Int.natCast_add, and_add_or 64 _ _ (BitVec.isLt _), Int.natCast_add, ← w64_add_l, ← w64_add_r, w64_ofInt, w64_ofInt, w64_add_l, w64_add_r]
theorem bits_comm (a b : Int) : bits .and .i64 a b = bits .and .i64 b a ∧ bits .or .i64 a b = bits .or .i64 b a ∧ bits .xor .i64 a b = bits .xor .i64 b a := by
  refine ⟨?_, ?_, ?_⟩
  · rw [(bits_is a b).1, (bits_is b a).1, BitVec.and_comm]
  · rw [(bits_is a b).2.1, (bits_is b a).2.1, BitVec.or_comm]
  · rw [(bits_is a b).2.2, (bits_is b a).2.2, BitVec.xor_comm]
theorem low_six (n : Nat) (h : n < 9223372036854775808) : bits .and .i64 (n : Int) 63 = ((n % 64 : Nat) : Int) := by
  rw [(bits_is _ _).1]
  have e1 : BitVec.ofInt 64 (n : Int) = BitVec.ofNat 64 n := BitVec.ofInt_natCast 64 n
  have e2 : BitVec.ofInt 64 (63 : Int) = BitVec.ofNat 64 63 := rfl
  rw [e1, e2, BitVec.toNat_and, BitVec.toNat_ofNat, BitVec.toNat_ofNat, Nat.mod_eq_of_lt (by omega : n < 2 ^ 64), Nat.mod_eq_of_lt (by decide : 63 < 2 ^ 64)]
  rw [show (63 : Nat) = 2 ^ 6 - 1 from rfl, Nat.and_two_pow_sub_one_eq_mod]
  apply w64_id <;> omega
end Go.Proofs.YtheajpdffkehnaaDoor

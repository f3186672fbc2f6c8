/- Plain arithmetic of words that wrap: the ring's laws, order, division, bits, shifts: no program is named here. -/
import Derived.WalkKit
namespace Go.Proofs.YtheajpdffkehnaaDoor
open Go.RowKit

theorem w64_bmod (x : Int) : wrap64 x = Int.bmod x 18446744073709551616 := by
  unfold wrap64; simp only [Int.bmod]; split <;> omega
theorem w64_lo (x : Int) : -9223372036854775808 ≤ wrap64 x ∧ wrap64 x ≤ 9223372036854775807 := by unfold wrap64; omega
theorem w64_id (x : Int) (h0 : -9223372036854775808 ≤ x) (h1 : x ≤ 9223372036854775807) : wrap64 x = x := by unfold wrap64; omega
theorem w64_add_l (a b : Int) : wrap64 (wrap64 a + b) = wrap64 (a + b) := by unfold wrap64; omega
theorem w64_add_r (a b : Int) : wrap64 (a + wrap64 b) = wrap64 (a + b) := by unfold wrap64; omega
theorem w64_sub_r (a b : Int) : wrap64 (a - wrap64 b) = wrap64 (a - b) := by unfold wrap64; omega
theorem w64_mul_l (a b : Int) : wrap64 (wrap64 a * b) = wrap64 (a * b) := by
  simp only [w64_bmod, Int.bmod_mul_bmod]
theorem w64_mul_r (a b : Int) : wrap64 (a * wrap64 b) = wrap64 (a * b) := by
  simp only [w64_bmod, Int.mul_bmod_bmod]
theorem ring_add (a b c : Int) : wrap64 (a + wrap64 (b + c)) = wrap64 (wrap64 (a + b) + c) := by
  rw [w64_add_l, w64_add_r, Int.add_assoc]
theorem ring_mul (a b c : Int) : wrap64 (a * wrap64 (b * c)) = wrap64 (wrap64 (a * b) * c) := by
  rw [w64_mul_l, w64_mul_r, Int.mul_assoc]
theorem ring_over (a b c : Int) : wrap64 (a * wrap64 (b + c)) = wrap64 (wrap64 (a * b) + wrap64 (a * c)) := by
  rw [w64_mul_r, w64_add_l, w64_add_r, Int.mul_add]
theorem ring_minus (a b : Int) : wrap64 (a - b) = wrap64 (a + wrap64 (-b)) := by
  rw [w64_add_r, Int.sub_eq_add_neg]
theorem ring_nought (a : Int) : wrap64 (a + wrap64 (-a)) = 0 := by
  rw [w64_add_r]; unfold wrap64; omega
end Go.Proofs.YtheajpdffkehnaaDoor

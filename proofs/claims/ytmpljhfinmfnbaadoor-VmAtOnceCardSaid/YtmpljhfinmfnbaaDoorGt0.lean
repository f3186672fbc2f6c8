/- Instructions: which fields their kinds use, which are right. -/
import Derived.Test.YtmpljhfinmfnbaaDoorB1
namespace Go.Proofs.YtmpljhfinmfnbaaDoor
open Go.RowKit
set_option linter.unusedVariables false
set_option maxRecDepth 100000
/-- An instruction. -/
structure Ins where
  k : Int
  o : Int
  d : Int
  a : Int
  b : Int
  ad : Int
  tt : Int
  wd : Int
  fr : Int
def insC (i : Ins) : List Value := [.int .u8 i.k, .int .u8 i.o, .int .i64 i.d, .int .i64 i.a, .int .i64 i.b, .int .i64 i.ad, .int .i64 i.tt, .int .i64 i.wd, .int .i64 i.fr]
def insV (i : Ins) : Value := .agg (insC i).toArray
def rgI (i : Ins) : Prop := (0 ≤ i.k ∧ i.k ≤ 255) ∧ (0 ≤ i.o ∧ i.o ≤ 255) ∧ (-9223372036854775808 ≤ i.d ∧ i.d ≤ 9223372036854775807) ∧ (-9223372036854775808 ≤ i.a ∧ i.a ≤ 9223372036854775807) ∧ (-9223372036854775808 ≤ i.b ∧ i.b ≤ 9223372036854775807) ∧ (-9223372036854775808 ≤ i.ad ∧ i.ad ≤ 9223372036854775807) ∧ (-9223372036854775808 ≤ i.tt ∧ i.tt ≤ 9223372036854775807) ∧ (-9223372036854775808 ≤ i.wd ∧ i.wd ≤ 9223372036854775807) ∧ (-9223372036854775808 ≤ i.fr ∧ i.fr ≤ 9223372036854775807)
def hasB (u f : Int) : Bool := bits .and .u64 u f != 0
def formU (k : Int) : Int := if k = 1 then 66 else if k = 2 then 15 else if k = 3 then 18 else if k = 4 then 20 else if k = 5 then 18 else if k = 7 then 4 else if k = 8 then 32 else if k = 9 then 36 else 0
def kB (k : Int) : Bool := decide (0 < k) && decide (k < 11)
/-- The fields that an instruction uses. -/
def uB (k o : Int) : Int := bif kB k then (bif twoB o then formU k else (if k = 2 then 7 else formU k)) else 0
def dB (k : Int) : Bool := k == 1 || (k == 2 || (k == 3 || k == 5))
def aB (k : Int) : Bool := k == 2 || (k == 4 || (k == 7 || k == 9))
def bB (k o : Int) : Bool := k == 2 && twoB o
def adB (k : Int) : Bool := k == 3 || (k == 4 || k == 5)
def toB (k : Int) : Bool := k == 8 || k == 9
theorem kB_iff {k : Int} : kB k = true ↔ k = 1 ∨ k = 2 ∨ k = 3 ∨ k = 4 ∨ k = 5 ∨ k = 6 ∨ k = 7 ∨ k = 8 ∨ k = 9 ∨ k = 10 := by
  unfold kB
  rw [Bool.and_eq_true, decide_eq_true_eq, decide_eq_true_eq]
  omega
theorem has_all (k o : Int) (h : kB k = true) : hasB (uB k o) 1 = (k == 2) ∧ hasB (uB k o) 2 = dB k ∧ hasB (uB k o) 4 = aB k ∧ hasB (uB k o) 8 = bB k o ∧ hasB (uB k o) 16 = adB k ∧ hasB (uB k o) 32 = toB k ∧ hasB (uB k o) 64 = (k == 1) := by
  unfold uB bB
  rw [h]
  rcases kB_iff.1 h with rfl | rfl | rfl | rfl | rfl | rfl | rfl | rfl | rfl | rfl <;> cases twoB o <;> exact ⟨by kernel_rfl, by kernel_rfl, by kernel_rfl, by kernel_rfl, by kernel_rfl, by kernel_rfl, by kernel_rfl⟩
def inB (n c : Int) : Bool := decide (0 ≤ n) && decide (n < c)
def fitB (u : Bool) (n c : Int) : Bool := bif u then inB n c else n == 0
def opB (k o : Int) : Bool := bif k == 2 then decide (0 < levelOf o) else o == 0
/-- Is an instruction right in a code of so many over so many words? -/
def rightB (i : Ins) (code mem : Int) : Bool := kB i.k && (inB i.fr 4097 && (opB i.k i.o && (fitB (dB i.k) i.d 16 && (fitB (aB i.k) i.a 16 && (fitB (bB i.k i.o) i.b 16 && (fitB (adB i.k) i.ad mem && (fitB (toB i.k) i.tt code && (i.wd == 0 || i.k == 1))))))))
/-- The same, as the program asks it: field by field of what is used. -/
def rightU (i : Ins) (code mem : Int) : Bool := kB i.k && (inB i.fr 4097 && (opB i.k i.o && (fitB (hasB (uB i.k i.o) 2) i.d 16 && (fitB (hasB (uB i.k i.o) 4) i.a 16 && (fitB (hasB (uB i.k i.o) 8) i.b 16 && (fitB (hasB (uB i.k i.o) 16) i.ad mem && (fitB (hasB (uB i.k i.o) 32) i.tt code && (i.wd == 0 || hasB (uB i.k i.o) 64))))))))
theorem rightU_eq (i : Ins) (code mem : Int) : rightU i code mem = rightB i code mem := by
  unfold rightU rightB
  cases h : kB i.k with
  | false => rfl
  | true =>
    obtain ⟨h1, h2, h3, h4, h5, h6, h7⟩ := has_all i.k i.o h
    rw [h2, h3, h4, h5, h6, h7]
end Go.Proofs.YtmpljhfinmfnbaaDoor

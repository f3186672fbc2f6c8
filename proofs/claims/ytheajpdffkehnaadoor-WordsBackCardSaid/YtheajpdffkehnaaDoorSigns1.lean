/- Words: Find, and the document's own answers of an operator's sign and level. -/
import Derived.Test.YtheajpdffkehnaaDoorBits
import Derived.Test.YtheajpdffkehnaaDoorSigns0
import Derived.Test.YtheajpdffkehnaaDoorRef
import Derived.Deep.QuietTactic
import Derived.BigQuiet
namespace Go.Proofs.YtheajpdffkehnaaDoor
open Go.RowKit
set_option linter.unusedVariables false

theorem rtwo_yes (o : Int) (h1 : 1 ≤ o) (h2 : o ≤ 16) (w : World) : Calls Tryd.prog 18 #[.int .u8 o] w fun e w' => e = .returned (.bool true) ∧ w = w' := by
  go_enter Tryd.func18, Tryd.ntmps18
  go_wp2
  go_ret
  exact ⟨rfl, rfl⟩
theorem rtwo_no (o : Int) (h : o < 1 ∨ 16 < o) (w : World) : Calls Tryd.prog 18 #[.int .u8 o] w fun e w' => e = .returned (.bool false) ∧ w = w' := by
  rcases h with h | h
  · go_enter Tryd.func18, Tryd.ntmps18
    go_wp2
    go_ret
    exact ⟨rfl, rfl⟩
  · have hd : decide (o ≤ 16) = false := by simpa using h
    go_enter Tryd.func18, Tryd.ntmps18
    go_wp2
    go_ret
    exact ⟨rfl, rfl⟩
theorem rturns_yes (o : Int) (h : turnsB o = true) (w : World) : Calls Tryd.prog 24 #[.int .u8 o] w fun e w' => e = .returned (.bool true) ∧ w = w' := by
  have : o = 1 ∨ o = 3 ∨ o = 6 ∨ o = 7 ∨ o = 8 ∨ o = 11 ∨ o = 12 := by
    simp [turnsB] at h; omega
  clear h
  rcases this with rfl | rfl | rfl | rfl | rfl | rfl | rfl
  all_goals
    go_enter Tryd.func24, Tryd.ntmps24
    go_wp2
    go_ret
    exact ⟨rfl, rfl⟩
theorem rturns_no (o : Int) (h : turnsB o = false) (w : World) : Calls Tryd.prog 24 #[.int .u8 o] w fun e w' => e = .returned (.bool false) ∧ w = w' := by
  simp [turnsB] at h
  have q1 : (o == 1) = false := by simp; omega
  have q3 : (o == 3) = false := by simp; omega
  have q6 : (o == 6) = false := by simp; omega
  have q7 : (o == 7) = false := by simp; omega
  have q8 : (o == 8) = false := by simp; omega
  have q11 : (o == 11) = false := by simp; omega
  have q12 : (o == 12) = false := by simp; omega
  clear h
  go_enter Tryd.func24, Tryd.ntmps24
  go_wp2
  go_ret
  exact ⟨rfl, rfl⟩
/-- An operator's sign, by its number. -/
def sgnAt (k : Nat) : List UInt8 := sgn.getD k []
/-- The first operator from number k on whose sign is l, among the next n. -/
def fndFrom (l : List UInt8) : Nat → Nat → Int × Bool
  | 0, _ => (0, false)
  | n + 1, k => if sgnAt k = l then ((k : Int), true) else fndFrom l n (k + 1)
def fnd (l : List UInt8) : Int × Bool := fndFrom l 16 1
theorem bytes_t {v s : ByteArray} (h : v.data.toList = s.data.toList) : (v.toList == s.toList) = true := by
  rw [Lib.toList_data, Lib.toList_data, h]; simp
theorem bytes_f {v s : ByteArray} (h : ¬ v.data.toList = s.data.toList) : (v.toList == s.toList) = false := by
  rw [Lib.toList_data, Lib.toList_data]; simpa using h
theorem fnd_step {l : List UInt8} {k : Nat} (h0 : 1 ≤ k) (h1 : k ≤ 16) (hp : fndFrom l (17 - k) k = fnd l) (hn : sgnAt k ≠ l) : fndFrom l (17 - (k + 1)) (k + 1) = fnd l := by
  rw [← hp, show 17 - k = (17 - (k + 1)) + 1 by omega]
  simp only [fndFrom]
  rw [if_neg hn]
theorem fnd_hit {l : List UInt8} {k : Nat} (h0 : 1 ≤ k) (h1 : k ≤ 16) (hp : fndFrom l (17 - k) k = fnd l) (hn : sgnAt k = l) : fnd l = ((k : Int), true) := by
  rw [← hp, show 17 - k = (17 - (k + 1)) + 1 by omega]
  simp only [fndFrom]
  rw [if_pos hn]
theorem signOf_nat (k : Nat) (h : k < 19) : signOf (k : Int) = sgnAt k := by
  unfold signOf sgnAt
  rw [if_neg (by omega)]
  simp
theorem rfind_any (s : ByteArray) (w : World) : Calls Tryd.prog 16 #[.string s] w fun e w' => e = .returned (.tuple #[.int .u8 (fnd s.data.toList).1, .bool (fnd s.data.toList).2]) ∧ Below w.heap.size w w' := by
  obtain ⟨R, hR⟩ : ∃ R, R = fnd s.data.toList := ⟨_, rfl⟩
  rw [← hR]
  have HR := Lib.hid hR
  clear hR
  go_enter Tryd.func16, Tryd.ntmps16
  go_wp2_with fail
  go_loopw [4] (fun o wr => ∃ k : Nat, 1 ≤ k ∧ k ≤ 17 ∧ o = .int .u8 k ∧ Hid (fndFrom s.data.toList (17 - k) k = fnd s.data.toList) ∧ Below w.heap.size w wr) (fun o _ => 17 - (intOf o).toNat)
  case atStart => exact ⟨1, by omega, by omega, rfl, rfl, Below.refl _ _⟩
  case round =>
    obtain ⟨k, hk1, hk2, rfl, hp, hB⟩ := hrel
    by_cases hk : k ≤ 16
    · obtain ⟨v, hv⟩ : ∃ v : ByteArray, v = ⟨(signOf (k : Int)).toArray⟩ := ⟨_, rfl⟩
      have H : Hid (∀ W : World, Calls Tryd.prog 20 #[.int .u8 (k : Int)] W fun e w' => e = .returned (.string v) ∧ Below W.heap.size W w') := fun W => by
        rw [hv]; exact rshow_any (k : Int) (by omega) W
      have hvl : v.data.toList = sgnAt k := by rw [hv, signOf_nat k (by omega)]
      clear hv
      by_cases he : v.data.toList = s.data.toList
      · have hres : Hid (R = ((k : Int), true)) := by rw [Hid, HR.out, fnd_hit hk1 hk hp.out (hvl.symm.trans he)]
        have ht : (v.toList == s.toList) = true := bytes_t he
        clear hvl he hp
        go_wp2_with (go_at_call 20; refine (H.out _).mono ?_; rintro e w1 ⟨rfl, hb⟩)
        go_ret2
        rw [hres.out]
        exact ⟨rfl, hB.trans (hb.mono hB.size)⟩
      · have hnx : Hid (fndFrom s.data.toList (17 - (k + 1)) (k + 1) = fnd s.data.toList) := fnd_step hk1 hk hp.out (fun h => he (hvl.trans h))
        have ht : (v.toList == s.toList) = false := bytes_f he
        clear hvl he hp
        go_wp2_with (go_at_call 20; refine (H.out _).mono ?_; rintro e w1 ⟨rfl, hb⟩)
        go_roundw
        case rel => exact ⟨k + 1, by omega, by omega, by go_num, hnx, hB.trans (hb.mono hB.size)⟩
        case measure => simp [intOf]; omega
    · obtain rfl : k = 17 := by omega
      have hres : Hid (R = (0, false)) := by rw [Hid, HR.out, ← hp.out]; rfl
      clear hp
      go_wp2_with fail
      go_ret2
      rw [hres.out]
      exact ⟨rfl, hB⟩
theorem Tabs.drewN {w : World} (T : Tabs w) (n : Nat) : Tabs (w.drewN n) := T.below (Nat.le_refl _) ⟨rfl, rfl, rfl, Nat.le_refl _, fun _ _ => rfl⟩
/-- The closure of Find: is operator k of two, and is its sign s? -/
theorem found_yes (b : Nat) (k : Nat) (s v : ByteArray) (w : World) (T : Tabs w) (h1 : 1 ≤ k) (h2 : k ≤ 16) (hc : w.cell? ⟨b, 0, none⟩ = some (.string s)) (hv : w.cell? ⟨0, k, none⟩ = some (.string v)) :
    Calls Tryd.prog 34 #[.int .u8 (k : Int), .pointer (some ⟨b, 0, none⟩)] w fun e w' => e = .returned (.bool (v.toList == s.toList)) ∧ ∃ n, w' = w.drewN n := by
  have hl : 0 < levelOf (k : Int) ∧ levelOf (k : Int) < 9 := by
    have : k = 1 ∨ k = 2 ∨ k = 3 ∨ k = 4 ∨ k = 5 ∨ k = 6 ∨ k = 7 ∨ k = 8 ∨ k = 9 ∨ k = 10 ∨ k = 11 ∨ k = 12 ∨ k = 13 ∨ k = 14 ∨ k = 15 ∨ k = 16 := by omega
    rcases this with rfl | rfl | rfl | rfl | rfl | rfl | rfl | rfl | rfl | rfl | rfl | rfl | rfl | rfl | rfl | rfl <;> decide
  have H2 : ∀ W : World, Tabs W → Calls Tryd.prog 17 #[.int .u8 (k : Int)] W fun e w' => e = .returned (.bool true) ∧ w' = W := fun W TW =>
    (two_yes (k : Int) (by omega) (by omega) hl.1 hl.2 W TW).mono fun _ _ ⟨a, c⟩ => ⟨a, c.symm⟩
  have HH := Lib.hid H2
  clear H2 hl
  go_enter Tryd.func34, Tryd.ntmps34
  go_wp2
  go_quiet ((go_at_call 17; exact Calls.quiet_of_same (HH.out _ (T.drewN _))))
  go_wp2
  go_ret
  exact ⟨rfl, _, rfl⟩
end Go.Proofs.YtheajpdffkehnaaDoor

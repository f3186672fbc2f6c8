/- Words: Print and Show; what the document's own answers are found to be, at the head of each law. -/
import Derived.Test.YtheajpdffkehnaaDoorParse
import Derived.Test.YtheajpdffkehnaaDoorShelf
namespace Go.Proofs.YtheajpdffkehnaaDoor
open Go.RowKit
set_option linter.unusedVariables false

theorem below_gro (w : World) (k : Nat) (os : Array Obj) : Below w.heap.size w (Sort.grow (w.drewN k) os) := by
  refine ⟨rfl, rfl, rfl, ?_, fun i hi => ?_⟩
  · show w.heap.size ≤ (w.heap ++ os).size
    simp
  · show (w.heap ++ os)[i]? = _
    rw [Array.getElem?_append_left hi]
theorem print_any (n : Int) (h0 : -9223372036854775808 ≤ n) (h1 : n ≤ 9223372036854775807) (w : World) (T : Tabs w) :
    Calls Tryd.prog 27 #[.int .i64 n] w fun e w' => e = .returned (.string ⟨(Lib.itoa n).toArray⟩) ∧ Below w.heap.size w w' := by
  have H := Lib.hid (show Calls Tryd.prog 38 #[.int .i64 n, .int .i64 10] w fun e w' => e = .returned (.string ⟨(Lib.itoa n).toArray⟩) ∧ Below w.heap.size w w' from
    (Go.Proofs.Tryd.strconv_FormatInt_10 n h0 h1 w T.pow).mono fun e w' ⟨he, k, os, hw⟩ => ⟨he, by rw [hw]; exact below_gro w k os⟩)
  obtain ⟨s, hs⟩ : ∃ s : ByteArray, s = ⟨(Lib.itoa n).toArray⟩ := ⟨_, rfl⟩
  rw [← hs] at H ⊢
  clear hs T
  go_enter Tryd.func27, Tryd.ntmps27
  go_wp2_with (go_at_call 38; refine (H.out).mono ?_; rintro e w' ⟨rfl, hb⟩)
  go_ret
  exact ⟨rfl, hb⟩
/-- An operator's sign. -/
def signOf (o : Int) : List UInt8 := if 19 ≤ o then [] else sgn.getD o.toNat []
theorem show_any (o : Int) (h0 : 0 ≤ o) (h1 : o ≤ 255) (w : World) (T : Tabs w) :
    Calls Tryd.prog 19 #[.int .u8 o] w fun e w' => e = .returned (.string ⟨(signOf o).toArray⟩) ∧ w = w' := by
  by_cases h : 19 ≤ o
  · have hl : signOf o = [] := by unfold signOf; rw [if_pos h]
    rw [hl]; clear hl
    go_enter Tryd.func19, Tryd.ntmps19
    go_wp2
    go_ret
    exact ⟨rfl, rfl⟩
  · have hc := T.sgn o.toNat (by omega)
    have hl : signOf o = sgn.getD o.toNat [] := by unfold signOf; rw [if_neg h]
    rw [hl]; clear hl
    obtain ⟨v, hv⟩ : ∃ v : ByteArray, v = ⟨(sgn.getD o.toNat []).toArray⟩ := ⟨_, rfl⟩
    rw [← hv] at hc ⊢
    clear hv T
    go_enter Tryd.func19, Tryd.ntmps19
    go_wp2
    go_ret
    exact ⟨rfl, rfl⟩
theorem parse12 (w : World) : Calls Tryd.prog 25 #[.string ⟨#[45, 49, 50]⟩] w fun e w' => e = .returned (.tuple #[.int .i64 (-12), .int .i64 0, .int .i64 0]) ∧ Below w.heap.size w w' :=
  (parse_any ⟨#[45, 49, 50]⟩ w (by decide)).mono fun e w' ⟨he, hb⟩ => ⟨by
    have e0 : scanN true 9223372036854775808 [49, 50] 0 0 = (12, 2, true) := by decide
    have e1 : signed true 12 = -12 := by simp only [signed, if_pos]; unfold wrap64; decide
    have e2 : parseP (ByteArray.mk #[45, 49, 50]).data.toList = (-12, 0, 0) := by
      show told true (scanN true 9223372036854775808 [49, 50] 0 0) = _
      rw [e0]
      simp [told, e1]
    rw [e2] at he
    exact he, hb⟩
theorem print12 (w : World) (T : Tabs w) : Calls Tryd.prog 27 #[.int .i64 (-12)] w fun e w' => e = .returned (.string ⟨#[45, 49, 50]⟩) ∧ Below w.heap.size w w' := by
  have e1 : Lib.itoa (-12) = [45, 49, 50] := by
    show 45 :: Lib.decDigits 12 = _
    rw [Lib.decDigits_two (by decide) (by decide)]; rfl
  have k := print_any (-12) (by decide) (by decide) w T
  rw [e1] at k
  exact k
theorem show9 (w : World) (T : Tabs w) : Calls Tryd.prog 19 #[.int .u8 9] w fun e w' => e = .returned (.string ⟨#[60, 60]⟩) ∧ w = w' :=
  show_any 9 (by decide) (by decide) w T
theorem add_great (w : World) (T : Tabs w) : Calls Tryd.prog 10 #[.int .u8 1, .int .i64 9223372036854775807, .int .i64 1] w fun e w' => e = .returned (.tuple #[.int .i64 (-9223372036854775808), .int .i64 0]) ∧ Below w.heap.size w w' :=
  (do1 9223372036854775807 1 w T).mono fun e w' ⟨he, hb⟩ => ⟨by
    have e1 : bin 1 9223372036854775807 1 = -9223372036854775808 := by show wrap64 _ = _; unfold wrap64; decide
    rw [e1] at he
    exact he, hb⟩
theorem not_seven (w : World) (T : Tabs w) : Calls Tryd.prog 12 #[.int .u8 18, .int .i64 7] w fun e w' => e = .returned (.tuple #[.int .i64 0, .int .i64 0]) ∧ Below w.heap.size w w' :=
  one18 7 w T
/-- The head of each law. -/
theorem lives_any (w : World) (T : Tabs w) : Calls Tryd.prog 14 #[] w fun e w' => e = .returned (.bool true) ∧ Below w.heap.size w w' := by
  have H1 := Lib.hid (add_great w T)
  have HT := Lib.hid T
  clear T
  go_enter Tryd.func14, Tryd.ntmps14
  go_wp2_with fail
  refine (H1.out).mono ?_
  rintro e w1 ⟨rfl, hb1⟩
  have T1 := Lib.hid (HT.out.below (Nat.le_refl _) hb1)
  have B1 := Lib.hid hb1
  clear hb1
  go_wp2_with fail
  refine (not_seven _ T1.out).mono ?_
  rintro e w2 ⟨rfl, hb2⟩
  have T2 := Lib.hid (T1.out.below (Nat.le_refl _) hb2)
  have B2 := Lib.hid (B1.out.trans (hb2.mono B1.out.size))
  clear hb2
  go_wp2_with fail
  refine (parse12 _).mono ?_
  rintro e w3 ⟨rfl, hb3⟩
  have T3 := Lib.hid (T2.out.below (Nat.le_refl _) hb3)
  have B3 := Lib.hid (B2.out.trans (hb3.mono B2.out.size))
  clear hb3
  go_wp2_with fail
  refine (print12 _ T3.out).mono ?_
  rintro e w4 ⟨rfl, hb4⟩
  have T4 := Lib.hid (T3.out.below (Nat.le_refl _) hb4)
  have B4 := Lib.hid (B3.out.trans (hb4.mono B3.out.size))
  clear hb4
  go_wp2_with fail
  refine (show9 _ T4.out).mono ?_
  rintro e w5 ⟨rfl, rfl⟩
  go_wp2_with fail
  go_ret
  exact ⟨rfl, B4.out⟩
end Go.Proofs.YtheajpdffkehnaaDoor

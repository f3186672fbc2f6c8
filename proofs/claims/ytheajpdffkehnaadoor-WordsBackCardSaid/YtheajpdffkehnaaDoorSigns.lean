/- WordsSigns: for every input the law returns true: which operator a sign is, its level, whether its two may change about. -/
import Derived.Test.YtheajpdffkehnaaDoorSigns1
namespace Go.Proofs.YtheajpdffkehnaaDoor
open Go.RowKit
set_option linter.unusedVariables false

theorem found_no (b : Nat) (k : Nat) (w : World) (T : Tabs w) (h : k = 0 ∨ k = 17 ∨ k = 18) :
    Calls Tryd.prog 34 #[.int .u8 (k : Int), .pointer (some ⟨b, 0, none⟩)] w fun e w' => e = .returned (.bool false) ∧ ∃ n, w' = w.drewN n := by
  have hl : levelOf (k : Int) = 0 ∨ levelOf (k : Int) = 9 := by
    rcases h with rfl | rfl | rfl <;> decide
  have H2 : ∀ W : World, Tabs W → Calls Tryd.prog 17 #[.int .u8 (k : Int)] W fun e w' => e = .returned (.bool false) ∧ w' = W := fun W TW =>
    (two_no (k : Int) (by omega) (by omega) hl W TW).mono fun _ _ ⟨a, c⟩ => ⟨a, c.symm⟩
  have HH := Lib.hid H2
  clear H2 hl h
  go_enter Tryd.func34, Tryd.ntmps34
  go_wp2
  go_quiet ((go_at_call 17; exact Calls.quiet_of_same (HH.out _ (T.drewN _))))
  go_wp2
  go_ret
  exact ⟨rfl, _, rfl⟩
/-- How far the search has come. -/
def FP (l : List UInt8) (k : Nat) : Prop := (1 ≤ k → k ≤ 17 → fndFrom l (17 - k) k = fnd l) ∧ (17 ≤ k → fnd l = (0, false))
theorem below_drewN {B : Nat} {a w : World} (h : Below B a w) (n : Nat) : Below B a (w.drewN n) := ⟨h.os, h.tape, h.output, h.size, h.block⟩
theorem find_any (s : ByteArray) (w : World) (T : Tabs w) : Calls Tryd.prog 15 #[.string s] w fun e w' => e = .returned (.tuple #[.int .u8 (fnd s.data.toList).1, .bool (fnd s.data.toList).2]) ∧ Below w.heap.size w w' := by
  obtain ⟨R, hR⟩ : ∃ R, R = fnd s.data.toList := ⟨_, rfl⟩
  rw [← hR]
  have HR := Lib.hid hR
  clear hR
  have hA : Below w.heap.size w (w.alloc (.cells #[.string s] 9)) := (Below.refl _ _).alloc (Nat.le_refl _) _
  have TA := T.below (Nat.le_refl _) hA
  clear T
  go_enter Tryd.func15, Tryd.ntmps15
  go_wp2_with fail
  go_loopw [7] (fun o wr => ∃ k : Nat, k ≤ 19 ∧ o = .int .u8 k ∧ FP s.data.toList k ∧ wr.cell? ⟨w.heap.size, 0, none⟩ = some (.string s) ∧ Tabs wr ∧ Below w.heap.size w wr) (fun o _ => 19 - (intOf o).toNat)
  case atStart => exact ⟨0, by omega, rfl, ⟨fun h => by omega, fun h => by omega⟩, cell_of_row _ _ 0 _ _ _ (heap_alloc_new _ _), TA, hA⟩
  case round =>
    obtain ⟨k, hk, rfl, hp, hc, T, hB⟩ := hrel
    clear TA hA
    have hz := hB.size
    by_cases hk19 : k < 19
    · by_cases hin : 1 ≤ k ∧ k ≤ 16
      · obtain ⟨v, hv⟩ : ∃ v : ByteArray, v = ⟨(sgn.getD k []).toArray⟩ := ⟨_, rfl⟩
        have hcv := T.sgn k hk19
        rw [← hv] at hcv
        have hvl : v.data.toList = sgnAt k := by rw [hv]; rfl
        have hp1 := hp.1 hin.1 (by omega)
        have H := Lib.hid (found_yes w.heap.size k s v wr T hin.1 hin.2 hc hcv)
        clear hv hcv
        by_cases he : v.data.toList = s.data.toList
        · have hres : Hid (R = ((k : Int), true)) := by rw [Hid, HR.out, fnd_hit hin.1 hin.2 hp1 (hvl.symm.trans he)]
          have ht : (v.toList == s.toList) = true := bytes_t he
          rw [ht] at H
          clear hvl he hp hp1 hin ht
          go_wp2_with (go_at_call 34; refine (H.out).mono ?_; rintro e w1 ⟨rfl, n, rfl⟩)
          go_ret2
          rw [hres.out]
          exact ⟨rfl, below_drewN hB _⟩
        · have hnx : FP s.data.toList (k + 1) := by
            have hst := fnd_step hin.1 hin.2 hp1 (fun h => he (hvl.trans h))
            refine ⟨fun _ _ => hst, fun h => ?_⟩
            obtain rfl : k = 16 := by omega
            exact hst.symm
          have ht : (v.toList == s.toList) = false := bytes_f he
          rw [ht] at H
          clear hvl he hp hp1 hin ht
          go_wp2_with (go_at_call 34; refine (H.out).mono ?_; rintro e w1 ⟨rfl, n, rfl⟩)
          go_roundw
          case rel => exact ⟨k + 1, by omega, by go_num, hnx, hc, T.drewN _, below_drewN hB _⟩
          case measure => simp [intOf]; omega
      · have H := Lib.hid (found_no w.heap.size k wr T (by omega))
        have hnx : FP s.data.toList (k + 1) := by
          refine ⟨fun _ h => ?_, fun h => hp.2 (by omega)⟩
          obtain rfl : k = 0 := by omega
          rfl
        clear hp hin
        go_wp2_with (go_at_call 34; refine (H.out).mono ?_; rintro e w1 ⟨rfl, n, rfl⟩)
        go_roundw
        case rel => exact ⟨k + 1, by omega, by go_num, hnx, hc, T.drewN _, below_drewN hB _⟩
        case measure => simp [intOf]; omega
    · have hres : Hid (R = (0, false)) := by rw [Hid, HR.out, hp.2 (by omega)]
      clear hp
      go_wp2_with fail
      go_ret2
      rw [hres.out]
      exact ⟨rfl, hB⟩

theorem two_any (o : Int) (h0 : 0 ≤ o) (h1 : o ≤ 255) : ∃ b : Bool, (∀ w0 w : World, Inv w0 w → Calls Tryd.prog 17 #[.int .u8 o] w fun e w' => e = .returned (.bool b) ∧ Inv w0 w') ∧ (∀ w : World, Calls Tryd.prog 18 #[.int .u8 o] w fun e w' => e = .returned (.bool b) ∧ w = w') := by
  by_cases h : 1 ≤ o ∧ o ≤ 16
  · have hl : 0 < levelOf o ∧ levelOf o < 9 := by
      have : o = 1 ∨ o = 2 ∨ o = 3 ∨ o = 4 ∨ o = 5 ∨ o = 6 ∨ o = 7 ∨ o = 8 ∨ o = 9 ∨ o = 10 ∨ o = 11 ∨ o = 12 ∨ o = 13 ∨ o = 14 ∨ o = 15 ∨ o = 16 := by omega
      rcases this with rfl | rfl | rfl | rfl | rfl | rfl | rfl | rfl | rfl | rfl | rfl | rfl | rfl | rfl | rfl | rfl <;> decide
    exact ⟨true, fun w0 w I => (two_yes o h0 h1 hl.1 hl.2 w I.tabs).mono fun _ _ ⟨he, hb⟩ => ⟨he, by rw [← hb]; exact I⟩, fun w => rtwo_yes o h.1 h.2 w⟩
  · have hl : levelOf o = 0 ∨ levelOf o = 9 := by
      by_cases h19 : 19 ≤ o
      · exact .inl (by unfold levelOf; rw [if_pos h19])
      · have : o = 0 ∨ o = 17 ∨ o = 18 := by omega
        rcases this with rfl | rfl | rfl <;> decide
    exact ⟨false, fun w0 w I => (two_no o h0 h1 hl w I.tabs).mono fun _ _ ⟨he, hb⟩ => ⟨he, by rw [← hb]; exact I⟩, fun w => rtwo_no o (by omega) w⟩
theorem turns_any (o : Int) : ∃ b : Bool, (∀ w : World, Calls Tryd.prog 23 #[.int .u8 o] w fun e w' => e = .returned (.bool b) ∧ w = w') ∧ (∀ w : World, Calls Tryd.prog 24 #[.int .u8 o] w fun e w' => e = .returned (.bool b) ∧ w = w') := by
  by_cases h : turnsB o = true
  · exact ⟨true, fun w => turns_yes o h w, fun w => rturns_yes o h w⟩
  · exact ⟨false, fun w => turns_no o (by simpa using h) w, fun w => rturns_no o (by simpa using h) w⟩
theorem beq_bytes (s : ByteArray) : (s.toList == s.toList) = true := by simp
theorem signs_walk (o : Int) (s : ByteArray) (o0 : 0 ≤ o) (o1 : o ≤ 255) (hs : s.size ≤ reachBytes) (w : World) (T : Tabs w) :
    Calls Tryd.prog 4 #[.int .u8 o, .string s] w fun e w' => e = .returned (.bool true) ∧ Inv w w' := by
  have I := Inv.start T
  obtain ⟨b2, p1, p2⟩ := two_any o o0 o1
  obtain ⟨bt, p3, p4⟩ := turns_any o
  obtain ⟨fi, hfi⟩ : ∃ x, x = (fnd s.data.toList).1 := ⟨_, rfl⟩
  obtain ⟨fb, hfb⟩ : ∃ x, x = (fnd s.data.toList).2 := ⟨_, rfl⟩
  have p5 : ∀ w0 w : World, Inv w0 w → Calls Tryd.prog 15 #[.string s] w fun e w' => e = .returned (.tuple #[.int .u8 fi, .bool fb]) ∧ Inv w0 w' := fun w0 w I => by
    rw [hfi, hfb]; exact (find_any s w I.tabs).mono fun _ _ ⟨he, hb⟩ => ⟨he, I.next hb⟩
  have p6 : ∀ w0 w : World, Inv w0 w → Calls Tryd.prog 16 #[.string s] w fun e w' => e = .returned (.tuple #[.int .u8 fi, .bool fb]) ∧ Inv w0 w' := fun w0 w I => by
    rw [hfi, hfb]; exact (rfind_any s w).mono fun _ _ ⟨he, hb⟩ => ⟨he, I.next hb⟩
  obtain ⟨sv, hsv⟩ : ∃ x : ByteArray, x = ⟨(signOf o).toArray⟩ := ⟨_, rfl⟩
  have p7 : ∀ w0 w : World, Inv w0 w → Calls Tryd.prog 19 #[.int .u8 o] w fun e w' => e = .returned (.string sv) ∧ Inv w0 w' := fun w0 w I => by
    rw [hsv]; exact (show_any o o0 o1 w I.tabs).mono fun _ _ ⟨he, hb⟩ => ⟨he, by rw [← hb]; exact I⟩
  have p8 : ∀ w0 w : World, Inv w0 w → Calls Tryd.prog 20 #[.int .u8 o] w fun e w' => e = .returned (.string sv) ∧ Inv w0 w' := fun w0 w I => by
    rw [hsv]; exact (rshow_any o o0 w).mono fun _ _ ⟨he, hb⟩ => ⟨he, I.next hb⟩
  obtain ⟨lv, hlv⟩ : ∃ x, x = levelOf o := ⟨_, rfl⟩
  have p9 : ∀ w0 w : World, Inv w0 w → Calls Tryd.prog 21 #[.int .u8 o] w fun e w' => e = .returned (.int .i64 lv) ∧ Inv w0 w' := fun w0 w I => by
    rw [hlv]; exact (level_any o o0 o1 w I.tabs).mono fun _ _ ⟨he, hb⟩ => ⟨he, by rw [← hb]; exact I⟩
  have p10 : ∀ w0 w : World, Inv w0 w → Calls Tryd.prog 22 #[.int .u8 o] w fun e w' => e = .returned (.int .i64 lv) ∧ Inv w0 w' := fun w0 w I => by
    rw [hlv]; exact (rlevel_any o o0 w).mono fun _ _ ⟨he, hb⟩ => ⟨he, I.next hb⟩
  have qs := beq_bytes sv
  have P1 := Lib.hid p1
  have P2 := Lib.hid p2
  have P3 := Lib.hid p3
  have P4 := Lib.hid p4
  have P5 := Lib.hid p5
  have P6 := Lib.hid p6
  have P7 := Lib.hid p7
  have P8 := Lib.hid p8
  have P9 := Lib.hid p9
  have P10 := Lib.hid p10
  clear p1 p2 p3 p4 p5 p6 p7 p8 p9 p10 hfi hfb hsv hlv T
  go_enter Tryd.func4, Tryd.ntmps4
  go_wp2_with (first
    | (go_at_call 14; refine (lives_i (by assumption)).mono ?_; rintro e w' ⟨rfl, I⟩)
    | (go_at_call 17; refine (P1.out _ _ (by assumption)).mono ?_; rintro e w' ⟨rfl, I⟩)
    | (go_at_call 18; refine (P2.out _).mono ?_; rintro e w' ⟨rfl, rfl⟩)
    | (go_at_call 23; refine (P3.out _).mono ?_; rintro e w' ⟨rfl, rfl⟩)
    | (go_at_call 24; refine (P4.out _).mono ?_; rintro e w' ⟨rfl, rfl⟩)
    | (go_at_call 15; refine (P5.out _ _ (by assumption)).mono ?_; rintro e w' ⟨rfl, I⟩)
    | (go_at_call 16; refine (P6.out _ _ (by assumption)).mono ?_; rintro e w' ⟨rfl, I⟩)
    | (go_at_call 19; refine (P7.out _ _ (by assumption)).mono ?_; rintro e w' ⟨rfl, I⟩)
    | (go_at_call 20; refine (P8.out _ _ (by assumption)).mono ?_; rintro e w' ⟨rfl, I⟩)
    | (go_at_call 21; refine (P9.out _ _ (by assumption)).mono ?_; rintro e w' ⟨rfl, I⟩)
    | (go_at_call 22; refine (P10.out _ _ (by assumption)).mono ?_; rintro e w' ⟨rfl, I⟩))
  go_ret
  exact ⟨rfl, by assumption⟩
end Go.Proofs.YtheajpdffkehnaaDoor

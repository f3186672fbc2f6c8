/- WordsBack: for every input the law returns true: words and signs there and back. -/
import Derived.Test.YtheajpdffkehnaaDoorBackMath
import Derived.Test.YtheajpdffkehnaaDoorSigns
namespace Go.Proofs.YtheajpdffkehnaaDoor
open Go.RowKit
set_option linter.unusedVariables false

theorem fnd_sign (o : Int) (h1 : 1 ≤ o) (h2 : o ≤ 16) : fnd (signOf o) = (o, true) := by
  have : o = 1 ∨ o = 2 ∨ o = 3 ∨ o = 4 ∨ o = 5 ∨ o = 6 ∨ o = 7 ∨ o = 8 ∨ o = 9 ∨ o = 10 ∨ o = 11 ∨ o = 12 ∨ o = 13 ∨ o = 14 ∨ o = 15 ∨ o = 16 := by omega
  rcases this with rfl | rfl | rfl | rfl | rfl | rfl | rfl | rfl | rfl | rfl | rfl | rfl | rfl | rfl | rfl | rfl <;> decide
theorem two_find (o : Int) (h0 : 0 ≤ o) (h1 : o ≤ 255) : (∀ w0 w : World, Inv w0 w → Calls Tryd.prog 17 #[.int .u8 o] w fun e w' => e = .returned (.bool true) ∧ Inv w0 w') ∧ fnd (signOf o) = (o, true) ∨
    (∀ w0 w : World, Inv w0 w → Calls Tryd.prog 17 #[.int .u8 o] w fun e w' => e = .returned (.bool false) ∧ Inv w0 w') := by
  by_cases h : 1 ≤ o ∧ o ≤ 16
  · have hl : 0 < levelOf o ∧ levelOf o < 9 := by
      have : o = 1 ∨ o = 2 ∨ o = 3 ∨ o = 4 ∨ o = 5 ∨ o = 6 ∨ o = 7 ∨ o = 8 ∨ o = 9 ∨ o = 10 ∨ o = 11 ∨ o = 12 ∨ o = 13 ∨ o = 14 ∨ o = 15 ∨ o = 16 := by omega
      rcases this with rfl | rfl | rfl | rfl | rfl | rfl | rfl | rfl | rfl | rfl | rfl | rfl | rfl | rfl | rfl | rfl <;> decide
    exact .inl ⟨fun w0 w I => (two_yes o h0 h1 hl.1 hl.2 w I.tabs).mono fun _ _ ⟨he, hb⟩ => ⟨he, by rw [← hb]; exact I⟩, fnd_sign o h.1 h.2⟩
  · have hl : levelOf o = 0 ∨ levelOf o = 9 := by
      by_cases h19 : 19 ≤ o
      · exact .inl (by unfold levelOf; rw [if_pos h19])
      · have : o = 0 ∨ o = 17 ∨ o = 18 := by omega
        rcases this with rfl | rfl | rfl <;> decide
    exact .inr fun w0 w I => (two_no o h0 h1 hl w I.tabs).mono fun _ _ ⟨he, hb⟩ => ⟨he, by rw [← hb]; exact I⟩
theorem itoa_size (n : Int) (h0 : -9223372036854775808 ≤ n) (h1 : n ≤ 9223372036854775807) : (ByteArray.mk (Lib.itoa n).toArray).size ≤ 4611686018427387904 := by
  have hl : (Lib.decDigits n.natAbs).length ≤ 20 := dec_len 19 n.natAbs (by
    have : (10 : Nat) ^ 20 = 100000000000000000000 := by decide
    rw [this]; omega)
  have hl2 : (Lib.decDigits n.toNat).length ≤ 20 := dec_len 19 n.toNat (by
    have : (10 : Nat) ^ 20 = 100000000000000000000 := by decide
    rw [this]; omega)
  show ((Lib.itoa n).toArray).size ≤ _
  unfold Lib.itoa
  split <;> simp <;> omega
set_option maxHeartbeats 2000000 in
theorem back_walk (n : Int) (s : ByteArray) (o : Int) (n0 : -9223372036854775808 ≤ n) (n1 : n ≤ 9223372036854775807) (hs : s.size ≤ reachBytes) (o0 : 0 ≤ o) (o1 : o ≤ 255) (w : World) (T : Tabs w) :
    Calls Tryd.prog 6 #[.int .i64 n, .string s, .int .u8 o] w fun e w' => e = .returned (.bool true) ∧ Inv w w' := by
  have I := Inv.start T
  have hs62 := reach_62 hs
  obtain ⟨sv, hsv⟩ : ∃ x : ByteArray, x = ⟨(Lib.itoa n).toArray⟩ := ⟨_, rfl⟩
  have p1 : ∀ w0 w : World, Inv w0 w → Calls Tryd.prog 27 #[.int .i64 n] w fun e w' => e = .returned (.string sv) ∧ Inv w0 w' := fun w0 w I => by
    rw [hsv]; exact (print_any n n0 n1 w I.tabs).mono fun _ _ ⟨he, hb⟩ => ⟨he, I.next hb⟩
  have p2 : ∀ w0 w : World, Inv w0 w → Calls Tryd.prog 25 #[.string sv] w fun e w' => e = .returned (.tuple #[.int .i64 n, .int .i64 0, .int .i64 0]) ∧ Inv w0 w' := fun w0 w I => by
    refine (parse_any sv w (by rw [hsv]; exact itoa_size n n0 n1)).mono fun e w' h => ?_
    have e1 : parseP sv.data.toList = (n, 0, 0) := by rw [hsv]; exact parse_back n n0 n1
    rw [e1] at h
    exact ⟨h.1, I.next h.2⟩
  obtain ⟨x, hx⟩ : ∃ x, x = parseP s.data.toList := ⟨_, rfl⟩
  have p3 : ∀ w0 w : World, Inv w0 w → Calls Tryd.prog 25 #[.string s] w fun e w' => e = .returned (.tuple #[.int .i64 x.1, .int .i64 x.2.1, .int .i64 x.2.2]) ∧ Inv w0 w' := fun w0 w I => by
    rw [hx]; exact (parse_any s w hs62).mono fun _ _ h => ⟨h.1, I.next h.2⟩
  have hcs := parse_cases s.data.toList
  rw [← hx] at hcs
  obtain ⟨so, hso⟩ : ∃ x : ByteArray, x = ⟨(signOf o).toArray⟩ := ⟨_, rfl⟩
  have p4 : ∀ w0 w : World, Inv w0 w → Calls Tryd.prog 19 #[.int .u8 o] w fun e w' => e = .returned (.string so) ∧ Inv w0 w' := fun w0 w I => by
    rw [hso]; exact (show_any o o0 o1 w I.tabs).mono fun _ _ ⟨he, hb⟩ => ⟨he, by rw [← hb]; exact I⟩
  obtain ⟨f, hf⟩ : ∃ f, f = fnd (signOf o) := ⟨_, rfl⟩
  have p5 : ∀ w0 w : World, Inv w0 w → Calls Tryd.prog 15 #[.string so] w fun e w' => e = .returned (.tuple #[.int .u8 f.1, .bool f.2]) ∧ Inv w0 w' := fun w0 w I => by
    have e1 : f = fnd so.data.toList := by rw [hf, hso]
    rw [e1]; exact (find_any so w I.tabs).mono fun _ _ ⟨he, hb⟩ => ⟨he, I.next hb⟩
  have htw := two_find o o0 o1
  rw [← hf] at htw
  clear hf hso hx hsv
  obtain ⟨x1, x2, x3⟩ := x
  obtain ⟨f1, f2⟩ := f
  have P1 := Lib.hid p1
  have P2 := Lib.hid p2
  clear p1 p2
  rcases hcs with ⟨ha, hb0, hb1, hc⟩ | ⟨ha, hb, hc, hd⟩
  · have p6 : ∀ w0 w : World, Inv w0 w → Calls Tryd.prog 27 #[.int .i64 x1] w fun e w' => e = .returned (.string s) ∧ Inv w0 w' := fun w0 w I => by
      have e1 : s = ⟨(Lib.itoa x1).toArray⟩ := by
        apply ByteArray.ext
        apply Array.toList_inj.1
        exact hc.symm
      have k := print_any x1 hb0 hb1 w I.tabs
      rw [← e1] at k
      exact k.mono fun _ _ ⟨he, hb⟩ => ⟨he, I.next hb⟩
    have ha' : x2 = 0 := ha
    subst ha'
    have qs := same_bytes s
    have P3 := Lib.hid p3
    have P4 := Lib.hid p4
    have P5 := Lib.hid p5
    have P6 := Lib.hid p6
    clear p3 p4 p5 p6 ha hb0 hb1 hc T hs hs62
    rcases htw with ⟨h2, hf⟩ | h2
    · simp only [Prod.mk.injEq] at hf
      obtain ⟨rfl, rfl⟩ := hf
      have P7 := Lib.hid h2
      clear h2
      go_enter Tryd.func6, Tryd.ntmps6
      go_wp2_with (first
        | (go_at_call 14; refine (lives_i (by assumption)).mono ?_; rintro e w' ⟨rfl, I⟩)
        | (go_at_call 27; (with_reducible refine (P1.out _ _ (by assumption)).mono ?_); rintro e w' ⟨rfl, I⟩)
        | (go_at_call 25; (with_reducible refine (P2.out _ _ (by assumption)).mono ?_); rintro e w' ⟨rfl, I⟩)
        | (go_at_call 25; (with_reducible refine (P3.out _ _ (by assumption)).mono ?_); rintro e w' ⟨rfl, I⟩)
        | (go_at_call 19; refine (P4.out _ _ (by assumption)).mono ?_; rintro e w' ⟨rfl, I⟩)
        | (go_at_call 15; refine (P5.out _ _ (by assumption)).mono ?_; rintro e w' ⟨rfl, I⟩)
        | (go_at_call 27; (with_reducible refine (P6.out _ _ (by assumption)).mono ?_); rintro e w' ⟨rfl, I⟩)
        | (go_at_call 17; refine (P7.out _ _ (by assumption)).mono ?_; rintro e w' ⟨rfl, I⟩))
      go_ret
      exact ⟨rfl, by assumption⟩
    · have P7 := Lib.hid h2
      clear h2
      go_enter Tryd.func6, Tryd.ntmps6
      go_wp2_with (first
        | (go_at_call 14; refine (lives_i (by assumption)).mono ?_; rintro e w' ⟨rfl, I⟩)
        | (go_at_call 27; (with_reducible refine (P1.out _ _ (by assumption)).mono ?_); rintro e w' ⟨rfl, I⟩)
        | (go_at_call 25; (with_reducible refine (P2.out _ _ (by assumption)).mono ?_); rintro e w' ⟨rfl, I⟩)
        | (go_at_call 25; (with_reducible refine (P3.out _ _ (by assumption)).mono ?_); rintro e w' ⟨rfl, I⟩)
        | (go_at_call 19; refine (P4.out _ _ (by assumption)).mono ?_; rintro e w' ⟨rfl, I⟩)
        | (go_at_call 15; refine (P5.out _ _ (by assumption)).mono ?_; rintro e w' ⟨rfl, I⟩)
        | (go_at_call 27; (with_reducible refine (P6.out _ _ (by assumption)).mono ?_); rintro e w' ⟨rfl, I⟩)
        | (go_at_call 17; refine (P7.out _ _ (by assumption)).mono ?_; rintro e w' ⟨rfl, I⟩))
      go_ret
      exact ⟨rfl, by assumption⟩
  · have ha' : x2 = 10 := ha
    subst ha'
    have hb' : x1 = 0 := hb
    subst hb'
    have hd1 : 0 ≤ x3 := hc
    have hd2 : x3 ≤ (s.size : Int) := by
      have : (s.data.toList.length : Int) = (s.size : Int) := by simp
      have h3 : x3 ≤ (s.data.toList.length : Int) := hd
      rw [this] at h3; exact h3
    have P3 := Lib.hid p3
    have P4 := Lib.hid p4
    have P5 := Lib.hid p5
    clear p3 p4 p5 ha hb hc hd T hs
    rcases htw with ⟨h2, hf⟩ | h2
    · simp only [Prod.mk.injEq] at hf
      obtain ⟨rfl, rfl⟩ := hf
      have P7 := Lib.hid h2
      clear h2
      go_enter Tryd.func6, Tryd.ntmps6
      go_wp2_with (first
        | (go_at_call 14; refine (lives_i (by assumption)).mono ?_; rintro e w' ⟨rfl, I⟩)
        | (go_at_call 27; (with_reducible refine (P1.out _ _ (by assumption)).mono ?_); rintro e w' ⟨rfl, I⟩)
        | (go_at_call 25; (with_reducible refine (P2.out _ _ (by assumption)).mono ?_); rintro e w' ⟨rfl, I⟩)
        | (go_at_call 25; (with_reducible refine (P3.out _ _ (by assumption)).mono ?_); rintro e w' ⟨rfl, I⟩)
        | (go_at_call 19; refine (P4.out _ _ (by assumption)).mono ?_; rintro e w' ⟨rfl, I⟩)
        | (go_at_call 15; refine (P5.out _ _ (by assumption)).mono ?_; rintro e w' ⟨rfl, I⟩)
        | (go_at_call 17; refine (P7.out _ _ (by assumption)).mono ?_; rintro e w' ⟨rfl, I⟩))
      go_ret
      exact ⟨rfl, by assumption⟩
    · have P7 := Lib.hid h2
      clear h2
      go_enter Tryd.func6, Tryd.ntmps6
      go_wp2_with (first
        | (go_at_call 14; refine (lives_i (by assumption)).mono ?_; rintro e w' ⟨rfl, I⟩)
        | (go_at_call 27; (with_reducible refine (P1.out _ _ (by assumption)).mono ?_); rintro e w' ⟨rfl, I⟩)
        | (go_at_call 25; (with_reducible refine (P2.out _ _ (by assumption)).mono ?_); rintro e w' ⟨rfl, I⟩)
        | (go_at_call 25; (with_reducible refine (P3.out _ _ (by assumption)).mono ?_); rintro e w' ⟨rfl, I⟩)
        | (go_at_call 19; refine (P4.out _ _ (by assumption)).mono ?_; rintro e w' ⟨rfl, I⟩)
        | (go_at_call 15; refine (P5.out _ _ (by assumption)).mono ?_; rintro e w' ⟨rfl, I⟩)
        | (go_at_call 17; refine (P7.out _ _ (by assumption)).mono ?_; rintro e w' ⟨rfl, I⟩))
      go_ret
      exact ⟨rfl, by assumption⟩
end Go.Proofs.YtheajpdffkehnaaDoor

/- The lexer: which tokens may be printed. -/
import Derived.Test.YteedpojchapjgaaDoorWOwn2
namespace Go.Proofs.YteedpojchapjgaaDoor
open Go.RowKit
set_option linter.unusedVariables false

/-- Is it a token that a text may hold? -/
def mayB (k : Int) (x : ByteArray) (wd : Int) : Bool :=
  if k = 3 then (match valueO x.data.toList with | some v => v == wd | none => false)
  else if wd = 0 then (if k = 1 then nameB x else if k = 2 then wordB x else if k = 4 then isSignB x else false) else false
theorem may_cases (k wd : Int) : k = 3 ∨ (k ≠ 3 ∧ wd ≠ 0) ∨ (wd = 0 ∧ (k = 1 ∨ k = 2 ∨ k = 4 ∨ (k ≠ 3 ∧ k ≠ 1 ∧ k ≠ 2 ∧ k ≠ 4))) := by omega

set_option maxHeartbeats 4000000 in
theorem may_any (k : Int) (x : ByteArray) (wd pl : Int) (hx : x.size ≤ 4611686018427387904) (w : World) (T : LTabs w) :
    Calls Tryd.prog 46 #[.agg #[.int .u8 k, .string x, .int .i64 wd, .int .i64 pl]] w fun e w' => e = .returned (.bool (mayB k x wd)) ∧ Below w.heap.size w w' := by
  have HT : Hid (∀ o, LTabs (w.alloc o)) := fun o => T.below (Nat.le_refl _) ((Below.refl _ w).alloc (Nat.le_refl _) _)
  clear T
  rcases may_cases k wd with rfl | ⟨h3, hw⟩ | ⟨rfl, rfl | rfl | rfl | ⟨h3, h1, h2, h4⟩⟩
  · have HV : Hid (∀ W, Calls Tryd.prog 64 #[.string x] W fun e w' => e = .returned (ValueV (valueO x.data.toList)) ∧ W = w') := fun W => value_any x hx W
    have hm : mayB 3 x wd = (match valueO x.data.toList with | some v => v == wd | none => false) := rfl
    rw [hm]
    clear hm
    cases hv : valueO x.data.toList with
    | none =>
      rw [hv] at HV
      have HV : Hid (∀ W, Calls Tryd.prog 64 #[.string x] W fun e w' => e = .returned (.tuple #[.int .i64 0, .bool false]) ∧ W = w') := HV
      go_enter Tryd.func46, Tryd.ntmps46
      go_wp2_with (go_at_call 64; refine (HV.out _).mono ?_; rintro e w1 ⟨rfl, rfl⟩)
      go_ret
      exact ⟨rfl, (Below.refl _ w).alloc (Nat.le_refl _) _⟩
    | some v =>
      rw [hv] at HV
      have HV : Hid (∀ W, Calls Tryd.prog 64 #[.string x] W fun e w' => e = .returned (.tuple #[.int .i64 v, .bool true]) ∧ W = w') := HV
      go_enter Tryd.func46, Tryd.ntmps46
      go_wp2_with (go_at_call 64; refine (HV.out _).mono ?_; rintro e w1 ⟨rfl, rfl⟩)
      go_ret
      exact ⟨rfl, (Below.refl _ w).alloc (Nat.le_refl _) _⟩
  · have hk : (k == 3) = false := int_f h3
    have hw' : (wd != 0) = true := by simpa using hw
    have hm : mayB k x wd = false := by unfold mayB; rw [if_neg h3, if_neg hw]
    rw [hm]
    go_enter Tryd.func46, Tryd.ntmps46
    go_wp2
    go_ret
    exact ⟨rfl, (Below.refl _ w).alloc (Nat.le_refl _) _⟩
  · have HV : Hid (∀ o, Calls Tryd.prog 15 #[.string x] (w.alloc o) fun e w' => e = .returned (.bool (nameB x)) ∧ w.alloc o = w') := fun o => isname_any x _ (HT.out o)
    have hm : mayB 1 x 0 = nameB x := rfl
    rw [hm]
    clear hm
    generalize nameB x = q at HV ⊢
    cases q <;>
      (go_enter Tryd.func46, Tryd.ntmps46
       go_wp2_with (go_at_call 15; refine (HV.out _).mono ?_; rintro e w1 ⟨rfl, rfl⟩)
       go_ret
       exact ⟨rfl, (Below.refl _ w).alloc (Nat.le_refl _) _⟩)
  · have HV : Hid (∀ o, Calls Tryd.prog 17 #[.string x] (w.alloc o) fun e w' => e = .returned (.bool (wordB x)) ∧ w.alloc o = w') := fun o => word_any x _ (HT.out o)
    have hm : mayB 2 x 0 = wordB x := rfl
    rw [hm]
    clear hm
    generalize wordB x = q at HV ⊢
    cases q <;>
      (go_enter Tryd.func46, Tryd.ntmps46
       go_wp2_with (go_at_call 17; refine (HV.out _).mono ?_; rintro e w1 ⟨rfl, rfl⟩)
       go_ret
       exact ⟨rfl, (Below.refl _ w).alloc (Nat.le_refl _) _⟩)
  · have HV : Hid (∀ o, Calls Tryd.prog 19 #[.string x] (w.alloc o) fun e w' => e = .returned (.bool (isSignB x)) ∧ w.alloc o = w') := fun o => issign_any x _ (HT.out o)
    have hm : mayB 4 x 0 = isSignB x := rfl
    rw [hm]
    clear hm
    generalize isSignB x = q at HV ⊢
    cases q <;>
      (go_enter Tryd.func46, Tryd.ntmps46
       go_wp2_with (go_at_call 19; refine (HV.out _).mono ?_; rintro e w1 ⟨rfl, rfl⟩)
       go_ret
       exact ⟨rfl, (Below.refl _ w).alloc (Nat.le_refl _) _⟩)
  · have k1 : (k == 1) = false := int_f h1
    have k2 : (k == 2) = false := int_f h2
    have k3 : (k == 3) = false := int_f h3
    have k4 : (k == 4) = false := int_f h4
    have hm : mayB k x 0 = false := by unfold mayB; rw [if_neg h3, if_pos rfl, if_neg h1, if_neg h2, if_neg h4]
    rw [hm]
    go_enter Tryd.func46, Tryd.ntmps46
    go_wp2
    go_ret
    exact ⟨rfl, (Below.refl _ w).alloc (Nat.le_refl _) _⟩
set_option maxHeartbeats 4000000 in
theorem right_any (k : Int) (x : ByteArray) (wd pl : Int) (hx : x.size ≤ 4611686018427387904) (w : World) :
    Calls Tryd.prog 50 #[.agg #[.int .u8 k, .string x, .int .i64 wd, .int .i64 pl]] w fun e w' => e = .returned (.bool (mayB k x wd)) ∧ Below w.heap.size w w' := by
  rcases may_cases k wd with rfl | ⟨h3, hw⟩ | ⟨rfl, rfl | rfl | rfl | ⟨h3, h1, h2, h4⟩⟩
  · have HV : Hid (∀ W, Calls Tryd.prog 62 #[.string x] W fun e w' => e = .returned (ValueV (valueO x.data.toList)) ∧ W = w') := fun W => rnumber_any x hx W
    have hm : mayB 3 x wd = (match valueO x.data.toList with | some v => v == wd | none => false) := rfl
    rw [hm]
    clear hm
    cases hv : valueO x.data.toList with
    | none =>
      rw [hv] at HV
      have HV : Hid (∀ W, Calls Tryd.prog 62 #[.string x] W fun e w' => e = .returned (.tuple #[.int .i64 0, .bool false]) ∧ W = w') := HV
      go_enter Tryd.func50, Tryd.ntmps50
      go_wp2_with (go_at_call 62; refine (HV.out _).mono ?_; rintro e w1 ⟨rfl, rfl⟩)
      go_ret
      exact ⟨rfl, (Below.refl _ w).alloc (Nat.le_refl _) _⟩
    | some v =>
      rw [hv] at HV
      have HV : Hid (∀ W, Calls Tryd.prog 62 #[.string x] W fun e w' => e = .returned (.tuple #[.int .i64 v, .bool true]) ∧ W = w') := HV
      go_enter Tryd.func50, Tryd.ntmps50
      go_wp2_with (go_at_call 62; refine (HV.out _).mono ?_; rintro e w1 ⟨rfl, rfl⟩)
      go_ret
      exact ⟨rfl, (Below.refl _ w).alloc (Nat.le_refl _) _⟩
  · have hm : mayB k x wd = false := by unfold mayB; rw [if_neg h3, if_neg hw]
    have hw' : (wd == 0) = false := int_f hw
    have hk3 : (k == 3) = false := int_f h3
    rw [hm]
    by_cases h1 : k = 1
    · subst h1
      have HV : Hid (∀ W, Calls Tryd.prog 16 #[.string x] W fun e w' => e = .returned (.bool (nameB x)) ∧ W = w') := fun W => rname_any x hx W
      generalize nameB x = q at HV
      cases q <;>
        (go_enter Tryd.func50, Tryd.ntmps50
         go_wp2_with (go_at_call 16; refine (HV.out _).mono ?_; rintro e w1 ⟨rfl, rfl⟩)
         go_ret
         exact ⟨rfl, (Below.refl _ w).alloc (Nat.le_refl _) _⟩)
    · by_cases h2 : k = 2
      · subst h2
        have HV : Hid (∀ W, Calls Tryd.prog 18 #[.string x] W fun e w' => e = .returned (.bool (wordB x)) ∧ W = w') := fun W => rword_any x W
        generalize wordB x = q at HV
        cases q <;>
          (go_enter Tryd.func50, Tryd.ntmps50
           go_wp2_with (go_at_call 18; refine (HV.out _).mono ?_; rintro e w1 ⟨rfl, rfl⟩)
           go_ret
           exact ⟨rfl, (Below.refl _ w).alloc (Nat.le_refl _) _⟩)
      · by_cases h4 : k = 4
        · subst h4
          have HV : Hid (∀ W, Calls Tryd.prog 20 #[.string x] W fun e w' => e = .returned (.bool (isSignB x)) ∧ W = w') := fun W => rsign_any x W
          generalize isSignB x = q at HV
          cases q <;>
            (go_enter Tryd.func50, Tryd.ntmps50
             go_wp2_with (go_at_call 20; refine (HV.out _).mono ?_; rintro e w1 ⟨rfl, rfl⟩)
             go_ret
             exact ⟨rfl, (Below.refl _ w).alloc (Nat.le_refl _) _⟩)
        · have hk1 : (k == 1) = false := int_f h1
          have hk2 : (k == 2) = false := int_f h2
          have hk4 : (k == 4) = false := int_f h4
          go_enter Tryd.func50, Tryd.ntmps50
          go_wp2
          go_ret
          exact ⟨rfl, (Below.refl _ w).alloc (Nat.le_refl _) _⟩
  · have HV : Hid (∀ o, Calls Tryd.prog 16 #[.string x] (w.alloc o) fun e w' => e = .returned (.bool (nameB x)) ∧ w.alloc o = w') := fun o => rname_any x hx _
    have hm : mayB 1 x 0 = nameB x := rfl
    rw [hm]
    clear hm
    generalize nameB x = q at HV ⊢
    cases q <;>
      (go_enter Tryd.func50, Tryd.ntmps50
       go_wp2_with (go_at_call 16; refine (HV.out _).mono ?_; rintro e w1 ⟨rfl, rfl⟩)
       go_ret
       exact ⟨rfl, (Below.refl _ w).alloc (Nat.le_refl _) _⟩)
  · have HV : Hid (∀ o, Calls Tryd.prog 18 #[.string x] (w.alloc o) fun e w' => e = .returned (.bool (wordB x)) ∧ w.alloc o = w') := fun o => rword_any x _
    have hm : mayB 2 x 0 = wordB x := rfl
    rw [hm]
    clear hm
    generalize wordB x = q at HV ⊢
    cases q <;>
      (go_enter Tryd.func50, Tryd.ntmps50
       go_wp2_with (go_at_call 18; refine (HV.out _).mono ?_; rintro e w1 ⟨rfl, rfl⟩)
       go_ret
       exact ⟨rfl, (Below.refl _ w).alloc (Nat.le_refl _) _⟩)
  · have HV : Hid (∀ o, Calls Tryd.prog 20 #[.string x] (w.alloc o) fun e w' => e = .returned (.bool (isSignB x)) ∧ w.alloc o = w') := fun o => rsign_any x _
    have hm : mayB 4 x 0 = isSignB x := rfl
    rw [hm]
    clear hm
    generalize isSignB x = q at HV ⊢
    cases q <;>
      (go_enter Tryd.func50, Tryd.ntmps50
       go_wp2_with (go_at_call 20; refine (HV.out _).mono ?_; rintro e w1 ⟨rfl, rfl⟩)
       go_ret
       exact ⟨rfl, (Below.refl _ w).alloc (Nat.le_refl _) _⟩)
  · have k1 : (k == 1) = false := int_f h1
    have k2 : (k == 2) = false := int_f h2
    have k3 : (k == 3) = false := int_f h3
    have k4 : (k == 4) = false := int_f h4
    have hm : mayB k x 0 = false := by unfold mayB; rw [if_neg h3, if_pos rfl, if_neg h1, if_neg h2, if_neg h4]
    rw [hm]
    go_enter Tryd.func50, Tryd.ntmps50
    go_wp2
    go_ret
    exact ⟨rfl, (Below.refl _ w).alloc (Nat.le_refl _) _⟩
end Go.Proofs.YteedpojchapjgaaDoor

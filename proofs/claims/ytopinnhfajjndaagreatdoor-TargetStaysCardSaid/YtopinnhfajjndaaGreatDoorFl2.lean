/- Reads; lists compared. -/
import Derived.Test.YtopinnhfajjndaaGreatDoorFl1
namespace Go.Proofs.YtopinnhfajjndaaGreatDoor
open Go.RowKit
set_option linter.unusedVariables false
set_option maxRecDepth 100000
/-- What an instruction reads. -/
def rdL (i : Ins) : List Int := if i.k = 2 then (bif twoB i.o then [i.a, i.b] else [i.a]) else if i.k = 4 ∨ i.k = 7 ∨ i.k = 9 then [i.a] else if i.k = 5 then [i.d] else []
set_option maxHeartbeats 4000000 in
theorem ints_same (l : List Int) (hl : l.length ≤ 140737488351232) {a b : Option Addr} {c d : Nat} {w : World} (ha : intsAt w l a) (hb : intsAt w l b) : Calls Tryz.prog 21 #[.slice a l.length c, .slice b l.length d] w fun e w' => e = .returned (.bool true) ∧ Below w.heap.size w w' := by
  obtain ⟨n, hn⟩ : ∃ n, n = l.length := ⟨_, rfl⟩
  have HA := Lib.hid ha
  have HB := Lib.hid hb
  rw [← hn] at hl ⊢
  have HN := Lib.hid hn
  clear ha hb hn
  go_enter Tryz.func21, Tryz.ntmps21
  go_wp2_with fail
  go_loopg [5] (n + 1) (fun m' z X => ∃ j : Nat, z = .int .i64 (j : Int) ∧ j ≤ n ∧ m' = n - j + 1 ∧ Below w.heap.size w X)
  case atStart => exact ⟨0, rfl, Nat.zero_le _, by omega, Below.refl _ _⟩
  case round =>
    obtain ⟨j, rfl, hj, hm, hb⟩ := hrel
    have HM := Lib.hid hm
    have HW := Lib.hid hb
    clear hm hb
    by_cases hjn : j < n
    · have il : j < l.length := by have := HN.out; omega
      have g1 : l[j]? = some l[j] := List.getElem?_eq_getElem il
      generalize l[j] = x at g1
      rcases intsAt_below HA.out HW.out with e | ⟨g, q, rfl, h1⟩
      · subst e; simp at il
      rcases intsAt_below HB.out HW.out with e | ⟨g', q', rfl, h2⟩
      · subst e; simp at il
      have k1 := h1 j x g1
      have k2 := h2 j x g1
      have hjn' : (j : Int) < (n : Int) := by omega
      clear h1 h2 g1 il
      go_wp2_with fail
      go_quiet (fail)
      have HZ := Lib.hid (below_drewN HW.out nq)
      go_wp2_with fail
      go_roundg (n - (j + 1) + 1)
      case measure => have := HM.out; omega
      case rel => exact ⟨j + 1, by simp, by omega, by omega, HZ.out⟩
    obtain rfl : n = j := by omega
    go_wp2_with fail
    go_ret
    exact ⟨rfl, HW.out⟩
set_option maxHeartbeats 4000000 in
theorem rreads_any (i : Ins) (h0 : 0 ≤ i.o) (w : World) : Calls Tryz.prog 23 #[insV i] w (LsP w (rdL i)) := by
  have HT2 : Hid (∀ X, Calls Tryz.prog 46 #[.int .u8 i.o] X fun e w' => e = .returned (.bool (twoB i.o)) ∧ X = w') := fun X => r_two i.o h0 X
  obtain ⟨L, hL⟩ : ∃ L, L = rdL i := ⟨_, rfl⟩
  rw [← hL]
  unfold rdL at hL
  have al : Below w.heap.size w (w.alloc (.cells (insC i).toArray 25)) := (Below.refl _ w).alloc (Nat.le_refl _) _
  have O0 := Own.new w 25 (insC i).toArray
  obtain ⟨W0, hW0⟩ : ∃ W, W = w.alloc (.cells (insC i).toArray 25) := ⟨_, rfl⟩
  rw [← hW0] at al O0
  have HB0 := Lib.hid al
  have HO0 := Lib.hid O0
  obtain ⟨k, o, d, a, b, ad, tt, wd, fr⟩ := i
  simp only [insV, insC] at O0 hW0 HO0 ⊢
  have HW0 := Lib.hid hW0
  have c0 : W0.cell? ⟨w.heap.size, 0, none⟩ = some (.int .u8 k) := by rw [cell_of_row _ _ 0 _ _ _ O0]; rfl
  have c2 : W0.cell? ⟨w.heap.size, 2, none⟩ = some (.int .i64 d) := by rw [cell_of_row _ _ 2 _ _ _ O0]; rfl
  have c6 : W0.cell? ⟨w.heap.size, 6, none⟩ = some (.int .i64 tt) := by rw [cell_of_row _ _ 6 _ _ _ O0]; rfl
  clear hW0 O0 al
  simp only at h0 HT2 hL ⊢
  have c1 : W0.cell? ⟨w.heap.size, 1, none⟩ = some (.int .u8 o) := by rw [cell_of_row _ _ 1 _ _ _ HO0.out]; rfl
  have c3 : W0.cell? ⟨w.heap.size, 3, none⟩ = some (.int .i64 a) := by rw [cell_of_row _ _ 3 _ _ _ HO0.out]; rfl
  have c4 : W0.cell? ⟨w.heap.size, 4, none⟩ = some (.int .i64 b) := by rw [cell_of_row _ _ 4 _ _ _ HO0.out]; rfl
  by_cases h2 : k = 2
  · subst h2
    rw [if_pos rfl] at hL
    cases ht : twoB o with
    | true =>
      rw [ht] at hL HT2
      simp only [cond_true] at hL
      subst hL
      go_enter Tryz.func23, Tryz.ntmps23
      go_upto_region 1 with (fail)
      rw [← HW0.out]
      clear HW0
      go_wp2_with (go_at_call 46; refine (HT2.out _).mono ?_; rintro e w' ⟨rfl, rfl⟩)
      go_ret
      exact ⟨_, _, rfl, HB0.out.alloc HB0.out.size _, ls_new W0 [a, b]⟩
    | false =>
      rw [ht] at hL HT2
      simp only [cond_false] at hL
      subst hL
      go_enter Tryz.func23, Tryz.ntmps23
      go_upto_region 1 with (fail)
      rw [← HW0.out]
      clear HW0
      go_wp2_with (go_at_call 46; refine (HT2.out _).mono ?_; rintro e w' ⟨rfl, rfl⟩)
      go_ret
      exact ⟨_, _, rfl, HB0.out.alloc HB0.out.size _, ls_new W0 [a]⟩
  rw [if_neg h2] at hL
  have q2 := int_f h2
  by_cases h4 : k = 4
  · subst h4
    rw [if_pos (by decide)] at hL
    subst hL
    go_enter Tryz.func23, Tryz.ntmps23
    go_upto_region 1 with (fail)
    rw [← HW0.out]
    clear HW0
    go_wp2_with (fail)
    go_ret
    exact ⟨_, _, rfl, HB0.out.alloc HB0.out.size _, ls_new W0 [a]⟩
  by_cases h7 : k = 7
  · subst h7
    rw [if_pos (by decide)] at hL
    subst hL
    go_enter Tryz.func23, Tryz.ntmps23
    go_upto_region 1 with (fail)
    rw [← HW0.out]
    clear HW0
    go_wp2_with (fail)
    go_ret
    exact ⟨_, _, rfl, HB0.out.alloc HB0.out.size _, ls_new W0 [a]⟩
  by_cases h9 : k = 9
  · subst h9
    rw [if_pos (by decide)] at hL
    subst hL
    go_enter Tryz.func23, Tryz.ntmps23
    go_upto_region 1 with (fail)
    rw [← HW0.out]
    clear HW0
    go_wp2_with (fail)
    go_ret
    exact ⟨_, _, rfl, HB0.out.alloc HB0.out.size _, ls_new W0 [a]⟩
  rw [if_neg (by omega)] at hL
  have q4 := int_f h4
  have q7 := int_f h7
  have q9 := int_f h9
  by_cases h5 : k = 5
  · subst h5
    rw [if_pos rfl] at hL
    subst hL
    go_enter Tryz.func23, Tryz.ntmps23
    go_upto_region 1 with (fail)
    rw [← HW0.out]
    clear HW0
    go_wp2_with (fail)
    go_ret
    exact ⟨_, _, rfl, HB0.out.alloc HB0.out.size _, ls_new W0 [d]⟩
  rw [if_neg h5] at hL
  subst hL
  have q5 := int_f h5
  clear h2 h4 h5 h7 h9
  go_enter Tryz.func23, Tryz.ntmps23
  go_upto_region 1 with (fail)
  rw [← HW0.out]
  clear HW0
  go_wp2_with (fail)
  go_ret
  exact ⟨none, 0, rfl, HB0.out, .inl rfl⟩
end Go.Proofs.YtopinnhfajjndaaGreatDoor

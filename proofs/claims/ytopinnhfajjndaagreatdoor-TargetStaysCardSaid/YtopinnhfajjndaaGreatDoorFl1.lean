/- Writes, Follows. -/
import Derived.Test.YtopinnhfajjndaaGreatDoorFl0
import Derived.Test.YtopinnhfajjndaaGreatDoorGo0
namespace Go.Proofs.YtopinnhfajjndaaGreatDoor
open Go.RowKit
set_option linter.unusedVariables false
set_option maxRecDepth 100000
def rwI (i : Ins) : Int × Bool := bif dB i.k then (i.d, true) else (0, false)
theorem wrI_eq (i : Ins) : wrI i = rwI i := by
  unfold wrI rwI
  cases h : kB i.k with
  | true => rw [(has_all i.k i.o h).2.1]
  | false =>
    have h1 : hasB (uB i.k i.o) 2 = false := by unfold uB; rw [h]; show hasB 0 2 = false; decide
    have h2 : dB i.k = false := by
      unfold kB at h
      unfold dB
      simp only [Bool.and_eq_false_iff, decide_eq_false_iff_not] at h
      simp only [Bool.or_eq_false_iff, beq_eq_false_iff_ne]
      omega
    rw [h1, h2]
/-- A list of numbers, made anew. -/
def LsP (w : World) (l : List Int) (e : Ending) (w' : World) : Prop := ∃ a c, e = .returned (.slice a l.length c) ∧ Below w.heap.size w w' ∧ intsAt w' l a
theorem ls_new (W : World) (l : List Int) : intsAt (W.alloc (.cells (l.map fun x => Value.int .i64 x).toArray 3)) l (some ⟨W.heap.size, 0, none⟩) := .inr ⟨_, 0, rfl, fun j x hj => by
  have O := Own.new W 3 (l.map fun x => Value.int .i64 x).toArray
  rw [cell_of_row _ _ _ _ _ _ O]
  simp [hj]⟩
/-- What may come behind an instruction. -/
def folL (i : Ins) (at1 : Int) : List Int := if i.k = 10 ∨ kB i.k = false then [] else if i.k = 8 then [i.tt] else if i.k = 9 then [at1, i.tt] else [at1]
set_option maxHeartbeats 2000000 in
theorem rwrites_any (i : Ins) (w : World) : Calls Tryz.prog 20 #[insV i] w fun e w' => e = .returned (.tuple #[.int .i64 (rwI i).1, .bool (rwI i).2]) ∧ Below w.heap.size w w' := by
  unfold rwI dB
  have al : Below w.heap.size w (w.alloc (.cells (insC i).toArray 25)) := (Below.refl _ w).alloc (Nat.le_refl _) _
  have O0 := Own.new w 25 (insC i).toArray
  obtain ⟨W0, hW0⟩ : ∃ W, W = w.alloc (.cells (insC i).toArray 25) := ⟨_, rfl⟩
  rw [← hW0] at al O0
  have HB0 := Lib.hid al
  have HO0 := Lib.hid O0
  obtain ⟨k, o, d, a, b, ad, tt, wd, fr⟩ := i
  simp only [insV, insC] at O0 hW0 HO0 ⊢
  have HW0 := Lib.hid hW0
  have c0 : W0.cell? ⟨w.heap.size, 0, none⟩ = some (.int .u8 k) := by rw [cell_of_row _ _ 0 _ _ _ O0]; rfl
  have c2 : W0.cell? ⟨w.heap.size, 2, none⟩ = some (.int .i64 d) := by rw [cell_of_row _ _ 2 _ _ _ O0]; rfl
  have c6 : W0.cell? ⟨w.heap.size, 6, none⟩ = some (.int .i64 tt) := by rw [cell_of_row _ _ 6 _ _ _ O0]; rfl
  clear hW0 O0 al
  by_cases h1 : k = 1
  · subst h1
    show Calls _ _ _ _ fun e w' => e = .returned (.tuple #[.int .i64 d, .bool true]) ∧ _
    go_enter Tryz.func20, Tryz.ntmps20
    go_upto_region 1 with (fail)
    rw [← HW0.out]
    clear HW0
    go_wp2_with (fail)
    refine bodyPost_ret (results_tmp2 rfl _ _ _) rfl ?_
    exact ⟨rfl, HB0.out⟩
  by_cases h2 : k = 2
  · subst h2
    show Calls _ _ _ _ fun e w' => e = .returned (.tuple #[.int .i64 d, .bool true]) ∧ _
    go_enter Tryz.func20, Tryz.ntmps20
    go_upto_region 1 with (fail)
    rw [← HW0.out]
    clear HW0
    go_wp2_with (fail)
    refine bodyPost_ret (results_tmp2 rfl _ _ _) rfl ?_
    exact ⟨rfl, HB0.out⟩
  by_cases h3 : k = 3
  · subst h3
    show Calls _ _ _ _ fun e w' => e = .returned (.tuple #[.int .i64 d, .bool true]) ∧ _
    go_enter Tryz.func20, Tryz.ntmps20
    go_upto_region 1 with (fail)
    rw [← HW0.out]
    clear HW0
    go_wp2_with (fail)
    refine bodyPost_ret (results_tmp2 rfl _ _ _) rfl ?_
    exact ⟨rfl, HB0.out⟩
  by_cases h5 : k = 5
  · subst h5
    show Calls _ _ _ _ fun e w' => e = .returned (.tuple #[.int .i64 d, .bool true]) ∧ _
    go_enter Tryz.func20, Tryz.ntmps20
    go_upto_region 1 with (fail)
    rw [← HW0.out]
    clear HW0
    go_wp2_with (fail)
    refine bodyPost_ret (results_tmp2 rfl _ _ _) rfl ?_
    exact ⟨rfl, HB0.out⟩
  have q1 := int_f h1
  have q2 := int_f h2
  have q3 := int_f h3
  have q5 := int_f h5
  rw [q1, q2, q3, q5]
  show Calls _ _ _ _ fun e w' => e = .returned (.tuple #[.int .i64 0, .bool false]) ∧ _
  go_enter Tryz.func20, Tryz.ntmps20
  go_upto_region 1 with (fail)
  rw [← HW0.out]
  clear HW0
  go_wp2_with (fail)
  refine bodyPost_ret (results_tmp2 rfl _ _ _) rfl ?_
  exact ⟨rfl, HB0.out⟩
set_option maxHeartbeats 4000000 in
theorem follows_any (i : Ins) (h0 : 0 ≤ i.k) (p : Int) (w : World) : Calls Tryz.prog 24 #[insV i, .int .i64 p] w (LsP w (folL i (wrap64 (p + 1)))) := by
  have HK : Hid (∀ X, Calls Tryz.prog 43 #[.int .u8 i.k] X fun e w' => e = .returned (.bool (kB i.k)) ∧ X = w') := fun X => isKind_any i.k X
  obtain ⟨L, hL⟩ : ∃ L, L = folL i (wrap64 (p + 1)) := ⟨_, rfl⟩
  rw [← hL]
  unfold folL at hL
  have al : Below w.heap.size w (w.alloc (.cells (insC i).toArray 25)) := (Below.refl _ w).alloc (Nat.le_refl _) _
  have O0 := Own.new w 25 (insC i).toArray
  obtain ⟨W0, hW0⟩ : ∃ W, W = w.alloc (.cells (insC i).toArray 25) := ⟨_, rfl⟩
  rw [← hW0] at al O0
  have HB0 := Lib.hid al
  have HO0 := Lib.hid O0
  obtain ⟨k, o, d, a, b, ad, tt, wd, fr⟩ := i
  simp only [insV, insC] at O0 hW0 HO0 ⊢
  have HW0 := Lib.hid hW0
  have c0 : W0.cell? ⟨w.heap.size, 0, none⟩ = some (.int .u8 k) := by rw [cell_of_row _ _ 0 _ _ _ O0]; rfl
  have c2 : W0.cell? ⟨w.heap.size, 2, none⟩ = some (.int .i64 d) := by rw [cell_of_row _ _ 2 _ _ _ O0]; rfl
  have c6 : W0.cell? ⟨w.heap.size, 6, none⟩ = some (.int .i64 tt) := by rw [cell_of_row _ _ 6 _ _ _ O0]; rfl
  clear hW0 O0 al
  simp only at h0 HK hL ⊢
  by_cases h10 : k = 10
  · subst h10
    rw [if_pos (.inl rfl)] at hL
    subst hL
    rw [show kB 10 = true from rfl] at HK
    go_enter Tryz.func24, Tryz.ntmps24
    go_upto_region 1 with (fail)
    rw [← HW0.out]
    clear HW0
    go_wp2_with (go_at_call 43; refine (HK.out _).mono ?_; rintro e w' ⟨rfl, rfl⟩)
    go_ret
    exact ⟨none, 0, rfl, HB0.out, .inl rfl⟩
  by_cases hk : kB k = false
  · rw [if_pos (.inr hk)] at hL
    subst hL
    have q10 := int_f h10
    rw [hk] at HK
    have hk' : ¬ (0 < k ∧ k < 11) := by
      intro h
      unfold kB at hk
      simp only [Bool.and_eq_false_iff, decide_eq_false_iff_not] at hk
      omega
    by_cases hz : k = 0
    · subst hz
      go_enter Tryz.func24, Tryz.ntmps24
      go_upto_region 1 with (fail)
      rw [← HW0.out]
      clear HW0
      go_wp2_with (go_at_call 43; refine (HK.out _).mono ?_; rintro e w' ⟨rfl, rfl⟩)
      go_ret
      exact ⟨none, 0, rfl, HB0.out, .inl rfl⟩
    · have hz2 : 11 ≤ k := by omega
      have hz3 : ¬ k ≤ 0 := by omega
      go_enter Tryz.func24, Tryz.ntmps24
      go_upto_region 1 with (fail)
      rw [← HW0.out]
      clear HW0
      go_wp2_with (go_at_call 43; refine (HK.out _).mono ?_; rintro e w' ⟨rfl, rfl⟩)
      go_ret
      exact ⟨none, 0, rfl, HB0.out, .inl rfl⟩
  have hkt : kB k = true := by simpa using hk
  rw [hkt] at HK
  have hr : 0 < k ∧ k < 11 := by
    have h := hkt
    unfold kB at h
    simpa using h
  rw [if_neg (by rintro (h | h); exact h10 h; exact hk h)] at hL
  have q10 := int_f h10
  have g1 : ¬ k ≤ 0 := by omega
  have g2 : ¬ 11 ≤ k := by omega
  clear hk hkt
  by_cases h8 : k = 8
  · subst h8
    rw [if_pos rfl] at hL
    subst hL
    go_enter Tryz.func24, Tryz.ntmps24
    go_upto_region 1 with (fail)
    rw [← HW0.out]
    clear HW0
    go_wp2_with (go_at_call 43; refine (HK.out _).mono ?_; rintro e w' ⟨rfl, rfl⟩)
    go_ret
    exact ⟨_, _, rfl, HB0.out.alloc HB0.out.size _, ls_new W0 [tt]⟩
  by_cases h9 : k = 9
  · subst h9
    rw [if_neg (by decide), if_pos rfl] at hL
    subst hL
    go_enter Tryz.func24, Tryz.ntmps24
    go_upto_region 1 with (fail)
    rw [← HW0.out]
    clear HW0
    go_wp2_with (go_at_call 43; refine (HK.out _).mono ?_; rintro e w' ⟨rfl, rfl⟩)
    go_ret
    exact ⟨_, _, rfl, HB0.out.alloc HB0.out.size _, ls_new W0 [wrap64 (p + 1), tt]⟩
  rw [if_neg h8, if_neg h9] at hL
  subst hL
  have q8 := int_f h8
  have q9 := int_f h9
  clear h8 h9 h10
  go_enter Tryz.func24, Tryz.ntmps24
  go_upto_region 1 with (fail)
  rw [← HW0.out]
  clear HW0
  go_wp2_with (go_at_call 43; refine (HK.out _).mono ?_; rintro e w' ⟨rfl, rfl⟩)
  go_ret
  exact ⟨_, _, rfl, HB0.out.alloc HB0.out.size _, ls_new W0 [wrap64 (p + 1)]⟩
set_option maxHeartbeats 4000000 in
theorem rfollows_any (i : Ins) (h0 : 0 ≤ i.k) (p : Int) (w : World) : Calls Tryz.prog 25 #[insV i, .int .i64 p] w (LsP w (folL i (wrap64 (p + 1)))) := by
  have HK : Hid (∀ X, Calls Tryz.prog 43 #[.int .u8 i.k] X fun e w' => e = .returned (.bool (kB i.k)) ∧ X = w') := fun X => isKind_any i.k X
  obtain ⟨L, hL⟩ : ∃ L, L = folL i (wrap64 (p + 1)) := ⟨_, rfl⟩
  rw [← hL]
  unfold folL at hL
  have al : Below w.heap.size w (w.alloc (.cells (insC i).toArray 25)) := (Below.refl _ w).alloc (Nat.le_refl _) _
  have O0 := Own.new w 25 (insC i).toArray
  obtain ⟨W0, hW0⟩ : ∃ W, W = w.alloc (.cells (insC i).toArray 25) := ⟨_, rfl⟩
  rw [← hW0] at al O0
  have HB0 := Lib.hid al
  have HO0 := Lib.hid O0
  obtain ⟨k, o, d, a, b, ad, tt, wd, fr⟩ := i
  simp only [insV, insC] at O0 hW0 HO0 ⊢
  have HW0 := Lib.hid hW0
  have c0 : W0.cell? ⟨w.heap.size, 0, none⟩ = some (.int .u8 k) := by rw [cell_of_row _ _ 0 _ _ _ O0]; rfl
  have c2 : W0.cell? ⟨w.heap.size, 2, none⟩ = some (.int .i64 d) := by rw [cell_of_row _ _ 2 _ _ _ O0]; rfl
  have c6 : W0.cell? ⟨w.heap.size, 6, none⟩ = some (.int .i64 tt) := by rw [cell_of_row _ _ 6 _ _ _ O0]; rfl
  clear hW0 O0 al
  simp only at h0 HK hL ⊢
  by_cases h10 : k = 10
  · subst h10
    rw [if_pos (.inl rfl)] at hL
    subst hL
    rw [show kB 10 = true from rfl] at HK
    go_enter Tryz.func25, Tryz.ntmps25
    go_upto_region 1 with (fail)
    rw [← HW0.out]
    clear HW0
    go_wp2_with (fail)
    go_ret
    exact ⟨none, 0, rfl, HB0.out, .inl rfl⟩
  by_cases hk : kB k = false
  · rw [if_pos (.inr hk)] at hL
    subst hL
    have q10 := int_f h10
    rw [hk] at HK
    have hk' : ¬ (0 < k ∧ k < 11) := by
      intro h
      unfold kB at hk
      simp only [Bool.and_eq_false_iff, decide_eq_false_iff_not] at hk
      omega
    by_cases hz : k = 0
    · subst hz
      go_enter Tryz.func25, Tryz.ntmps25
      go_upto_region 1 with (fail)
      rw [← HW0.out]
      clear HW0
      go_wp2_with (fail)
      go_ret
      exact ⟨none, 0, rfl, HB0.out, .inl rfl⟩
    · have hz2 : 11 ≤ k := by omega
      have hz3 : ¬ k ≤ 0 := by omega
      go_enter Tryz.func25, Tryz.ntmps25
      go_upto_region 1 with (fail)
      rw [← HW0.out]
      clear HW0
      go_wp2_with (fail)
      go_ret
      exact ⟨none, 0, rfl, HB0.out, .inl rfl⟩
  have hkt : kB k = true := by simpa using hk
  rw [hkt] at HK
  have hr : 0 < k ∧ k < 11 := by
    have h := hkt
    unfold kB at h
    simpa using h
  rw [if_neg (by rintro (h | h); exact h10 h; exact hk h)] at hL
  have q10 := int_f h10
  have g1 : ¬ k ≤ 0 := by omega
  have g2 : ¬ 11 ≤ k := by omega
  clear hk hkt
  by_cases h8 : k = 8
  · subst h8
    rw [if_pos rfl] at hL
    subst hL
    go_enter Tryz.func25, Tryz.ntmps25
    go_upto_region 1 with (fail)
    rw [← HW0.out]
    clear HW0
    go_wp2_with (fail)
    go_ret
    exact ⟨_, _, rfl, HB0.out.alloc HB0.out.size _, ls_new W0 [tt]⟩
  by_cases h9 : k = 9
  · subst h9
    rw [if_neg (by decide), if_pos rfl] at hL
    subst hL
    go_enter Tryz.func25, Tryz.ntmps25
    go_upto_region 1 with (fail)
    rw [← HW0.out]
    clear HW0
    go_wp2_with (fail)
    go_ret
    exact ⟨_, _, rfl, HB0.out.alloc HB0.out.size _, ls_new W0 [wrap64 (p + 1), tt]⟩
  rw [if_neg h8, if_neg h9] at hL
  subst hL
  have q8 := int_f h8
  have q9 := int_f h9
  clear h8 h9 h10
  go_enter Tryz.func25, Tryz.ntmps25
  go_upto_region 1 with (fail)
  rw [← HW0.out]
  clear HW0
  go_wp2_with (fail)
  go_ret
  exact ⟨_, _, rfl, HB0.out.alloc HB0.out.size _, ls_new W0 [wrap64 (p + 1)]⟩
end Go.Proofs.YtopinnhfajjndaaGreatDoor

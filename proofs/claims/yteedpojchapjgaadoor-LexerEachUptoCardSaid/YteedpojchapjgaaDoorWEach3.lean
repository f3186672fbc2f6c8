/- The lexer's laws: Each, told to stop behind so many tokens: too long, and all. -/
import Derived.Test.YteedpojchapjgaaDoorWEach2
namespace Go.Proofs.YteedpojchapjgaaDoor
open Go.RowKit Go.Shelf
set_option linter.unusedVariables false
attribute [local go_sem] Oper.semAt_some

set_option maxRecDepth 100000 in
set_option maxHeartbeats 16000000 in
theorem each_lowbig (s : ByteArray) (hs : 65536 < s.size) (hs2 : s.size ≤ 3000000000000) (k : Int) (hk : k < 1) (w : World) (T : LTabs w) :
    Calls Tryd.prog 5 #[.string s, .int .i64 k] w fun e w' => e = .returned (.bool true) ∧ LInv w w' := by
  have hl' : (65536 : Int) < (s.size : Int) := by omega
  obtain ⟨w0, hw0⟩ : ∃ w0, w0 = w.alloc (.cells #[.int .i64 k] 3) := ⟨_, rfl⟩
  have hbw : Below w.heap.size w w0 := by rw [hw0]; exact (Below.refl _ w).alloc (Nat.le_refl _) _
  have T0 : LTabs w0 := T.below (Nat.le_refl _) hbw
  have hlt0 : w.heap.size < w0.heap.size := by rw [hw0]; simp
  have hk0 : w0.heap[w.heap.size]? = some (.cells #[.int .i64 k] 3 (0, 0)) := by rw [hw0]; exact World.alloc_heap_new w _
  have HB := Lib.hid (begins_i (LInv.start T0))
  have HF : Hid (∀ W, Calls Tryd.prog 25 #[.string s] W fun e w' => ∃ u x y, e = .returned (.tuple #[u, .int .i64 x, .int .i64 y]) ∧ Below W.heap.size W w') := fun W => by
    refine (front_any s hs2 W).mono ?_
    rintro e w' ⟨⟨v, rfl, h1, h2⟩, hb⟩
    exact ⟨v, _, _, rfl, hb⟩
  have HBW := Lib.hid hbw
  have HK0 := Lib.hid hk0
  have HW0 := Lib.hid hw0
  have HT := Lib.hid T
  clear T T0 hbw hk0 hw0
  have hk' : decide (k < 1) = true := by simpa using hk
  refine (callsIn_wide (n := 3)).1 ?_
  refine callsIn_of_wp_marks Tryd.func5 rfl trivial ?_ rfl
  simp only [Tryd.ntmps5, List.size_toArray, List.length_cons, List.length_nil, Nat.reduceAdd, Nat.reduceSub, Array.replicate_succ, Array.replicate_zero, List.push_toArray, List.append_toArray, List.nil_append, List.cons_append]
  gi_wp2_with (first
    | (with_reducible rw [← HW0.out])
    | ((refine ⟨trivial, ?_⟩); gi_at_call 21; refine (callsIn_wide.2 HB.out).mono ?_; rintro e w1 ⟨rfl, hI⟩; have HI := Lib.hid hI; clear hI)
    | ((refine ⟨trivial, ?_⟩); gi_at_call 25; refine (callsIn_wide.2 (HF.out _)).mono ?_; rintro e w2 ⟨u0, x0, y0, rfl, hb2⟩; have HI2 := Lib.hid (HI.out.next hb2); have hz22 := HI2.out.below.size; have HK2 : Hid (Boxed w2 w.heap.size 3 (.int .i64 k)) := (HI2.out.below.block _ hlt0).trans HK0.out; have k1 := HK2.out.cell; have k2 := HK2.out.frozen; clear hb2)
    | ((refine ⟨trivial, ?_⟩); gi_at_call 26; refine (callsIn_wide.2 (each_long s hs _)).mono ?_; rintro e w6 ⟨rfl, hb6⟩))
  have hp2 : (w2.setCell ⟨w.heap.size, 0, none⟩ (.int .i64 1)).heap.size = w2.heap.size := by simp
  have I6 : Hid (LInv w w6) := LInv.make HT.out (((HBW.out.trans (HI2.out.below.mono HBW.out.size)).setCell (p := ⟨w.heap.size, 0, none⟩) (Nat.le_refl _) (.int .i64 1)).trans (hb6.mono (by rw [hp2]; omega)))
  clear hb6 hp2
  refine wpIn_loop_rounds 3 ?_
  rw [roundsIn_succ]
  gi_wp2
  refine act_name (fun A0 hA0 => ?_)
  have hID1 : ∀ (pre : List Res) (A B : World), (Lst w6.heap.size w6.heap.size pre A ∧ Below w6.heap.size w6 A) → Keep (selC w6.heap.size) A B → (Lst w6.heap.size w6.heap.size pre B ∧ Below w6.heap.size w6 B) :=
    fun pre A B h hk => ⟨h.1.keepC hk, h.2.trans (hk.below h.2.size (fun k _ hk => .inl hk))⟩
  refine wpIn_range_keep (n := 3) rfl (by omega) (gf := 43) (fst := #[]) (lb := #[]) (by rw [hA0]; rfl) trivial (enters_of Tryd.func43 (by kernel_rfl) rfl)
    (encs := encR) (fun _ => rfl) (selO w6.heap.size) (selY w6.heap.size) (selC w6.heap.size)
    (fun k o ho => .inr (fun ⟨_, _, e⟩ => by rw [e] at ho; cases ho))
    (fun k o hk ho => by
      rcases ho with ho | ⟨_, _, e⟩ | ⟨_, _, e⟩
      · exact absurd ho (by simp at hk; omega)
      · rw [e]; rfl
      · rw [e]; rfl)
    (fun k o hk ho => by
      rcases ho with ho | ho
      · exact absurd ho (by simp at hk; omega)
      · exact ho.1)
    (fun k o ho => by
      rcases ho with ho | ho
      · exact .inl ho
      · exact .inr ho.2)
    (S := fun ys _ => ys = []) (Sp := fun _ _ => False) (ok := fun _ _ => False)
    (fun l J Jx W hbW hJ hJx hYl hJ0 => each1_in 2 l W (S := fun ys _ => ys = []) rfl hJ0)
    (fun pre W => Lst w6.heap.size w6.heap.size pre W ∧ Below w6.heap.size w6 W)
    (fun _ _ _ => False)
    hID1
    (fun _ _ _ _ h _ => h)
    ⟨⟨_, World.alloc_heap_new w6 _, World.ownsRow_nil _ _ _ _, by simp⟩, (Below.refl _ w6).alloc (Nat.le_refl _) _⟩
    (fun _ _ _ => True)
    (fun _ _ _ _ _ _ => trivial)
    ?assignD1 ?bodyD1 ?doneD1 ?stopD1
  case assignD1 =>
    rintro l pre x W K hi hK
    have HI0 := Lib.hid hi
    have HKK := Lib.hid hK
    obtain ⟨rk, rx, rw0, rp, ra, rr⟩ := x
    clear hi hK
    subst hA0
    simp only [encR, tokV]
    gi_wp2
    exact HKK.out _ _ ((Keep.refl _ W).alloc _) (hID1 _ _ _ HI0.out ((Keep.refl _ W).alloc _)) trivial
  case bodyD1 =>
    intro l pre x a' W _ _ hok
    exact hok.elim
  case stopD1 =>
    intro D c pre W1 W _ h
    exact h.elim
  case doneD1 =>
    rintro D1 ys W1 W5 hDD1 rfl ⟨⟨v1, hvD1, hrowD1, _⟩, hBD1⟩ _ hKD1
    have TRD1 := Lib.hid (tokRow_owns hrowD1)
    have HBD1 := Lib.hid hBD1
    have HMD1 := Lib.hid hKD1
    have hsD1 := hBD1.size
    have cD1 := hvD1.cell
    clear hKD1 hrowD1 hvD1 hBD1
    subst hA0
    gi_wp2_with ((refine ⟨trivial, ?_⟩); gi_at_call 24; refine (callsIn_wide.2 (same_true _ _ _ [] [] TRD1.out ⟨none, 0, rfl, by simp⟩ (EqToks.rfl' _ _) (by simp))).mono ?_; rintro e w8 ⟨rfl, m1, rfl⟩)
    obtain ⟨W7, hW7⟩ : ∃ W7, W7 = W5.drewN m1 := ⟨_, rfl⟩
    rw [← hW7]
    have B7 : Hid (Below w6.heap.size w6 W7) := by rw [Hid, hW7]; exact HBD1.out.trans ((below_drewN (Below.refl _ W5) m1).mono HBD1.out.size)
    have M1 : Hid (W7.heap[D1]? = some (.deferred (some []))) := by rw [Hid, hW7]; exact HMD1.out
    clear hW7
    have I7 := Lib.hid (I6.out.next B7.out)
    rw [roundsIn_succ]
    gi_wp2
    refine act_name (fun A0 hA0 => ?_)
    have hID2 : ∀ (pre : List Res) (A B : World), (Lst W7.heap.size W7.heap.size pre A ∧ Below W7.heap.size W7 A) → Keep (selC W7.heap.size) A B → (Lst W7.heap.size W7.heap.size pre B ∧ Below W7.heap.size W7 B) :=
      fun pre A B h hk => ⟨h.1.keepC hk, h.2.trans (hk.below h.2.size (fun k _ hk => .inl hk))⟩
    refine wpIn_range_keep (n := 3) rfl (by omega) (gf := 43) (fst := #[]) (lb := #[]) (by rw [hA0]; rfl) trivial (enters_of Tryd.func43 (by kernel_rfl) rfl)
      (encs := encR) (fun _ => rfl) (selO W7.heap.size) (selY W7.heap.size) (selC W7.heap.size)
      (fun k o ho => .inr (fun ⟨_, _, e⟩ => by rw [e] at ho; cases ho))
      (fun k o hk ho => by
        rcases ho with ho | ⟨_, _, e⟩ | ⟨_, _, e⟩
        · exact absurd ho (by simp at hk; omega)
        · rw [e]; rfl
        · rw [e]; rfl)
      (fun k o hk ho => by
        rcases ho with ho | ho
        · exact absurd ho (by simp at hk; omega)
        · exact ho.1)
      (fun k o ho => by
        rcases ho with ho | ho
        · exact .inl ho
        · exact .inr ho.2)
      (S := fun ys _ => ys = []) (Sp := fun _ _ => False) (ok := fun _ _ => False)
      (fun l J Jx W hbW hJ hJx hYl hJ0 => each1_in 2 l W (S := fun ys _ => ys = []) rfl hJ0)
      (fun pre W => Lst W7.heap.size W7.heap.size pre W ∧ Below W7.heap.size W7 W)
      (fun _ _ _ => False)
      hID2
      (fun _ _ _ _ h _ => h)
      ⟨⟨_, World.alloc_heap_new W7 _, World.ownsRow_nil _ _ _ _, by simp⟩, (Below.refl _ W7).alloc (Nat.le_refl _) _⟩
      (fun _ _ _ => True)
      (fun _ _ _ _ _ _ => trivial)
      ?assignD2 ?bodyD2 ?doneD2 ?stopD2
    case assignD2 =>
      rintro l pre x W K hi hK
      have HI0 := Lib.hid hi
      have HKK := Lib.hid hK
      obtain ⟨rk, rx, rw0, rp, ra, rr⟩ := x
      clear hi hK
      subst hA0
      simp only [encR, tokV]
      gi_wp2
      exact HKK.out _ _ ((Keep.refl _ W).alloc _) (hID2 _ _ _ HI0.out ((Keep.refl _ W).alloc _)) trivial
    case bodyD2 =>
      intro l pre x a' W _ _ hok
      exact hok.elim
    case stopD2 =>
      intro D c pre W1 W _ h
      exact h.elim
    case doneD2 =>
      rintro D2 ys W1 W9 hDD2 rfl ⟨⟨v2, hvD2, hrowD2, _⟩, hBD2⟩ _ hKD2
      have TRD2 := Lib.hid (tokRow_owns hrowD2)
      have HBD2 := Lib.hid hBD2
      have HMD2 := Lib.hid hKD2
      have hsD2 := hBD2.size
      have cD2 := hvD2.cell
      clear hKD2 hrowD2 hvD2 hBD2
      subst hA0
      gi_wp2_with ((refine ⟨trivial, ?_⟩); gi_at_call 24; refine (callsIn_wide.2 (same_true _ _ _ [] [] TRD2.out ⟨none, 0, rfl, by simp⟩ (EqToks.rfl' _ _) (by simp))).mono ?_; rintro e w8 ⟨rfl, m2, rfl⟩)
      rw [roundsIn_succ]
      gi_wp2
      have z5 := I7.out.below.size
      have hDD : D1 < W7.heap.size := (Array.getElem?_eq_some_iff.1 M1.out).1
      have zw6 := I6.out.below.size
      have e2 : (W9.drewN m2).heap[D2]? = some (.deferred (some [])) := HMD2.out
      have e1 : ((W9.drewN m2).putObj D2 (.deferred none)).heap[D1]? = some (.deferred (some [])) := (World.putObj_heap_other (by simp at hDD2; omega)).trans ((HBD2.out.block _ hDD).trans M1.out)
      have kF : Keep (fun k o => k < w.heap.size) (W9.drewN m2) (((W9.drewN m2).putObj D2 (.deferred none)).putObj D1 (.deferred none)) :=
        ((Keep.refl _ _).putObj _ e2 (by simp at hDD2; omega)).putObj _ e1 (by simp at hDD1; omega)
      have I9 : LInv w (((W9.drewN m2).putObj D2 (.deferred none)).putObj D1 (.deferred none)) :=
        LInv.make HT.out ((I7.out.next HBD2.out).below.trans ((below_drewN (Below.refl _ W9) m2).mono (I7.out.next HBD2.out).below.size |>.trans (kF.below (I7.out.next HBD2.out).below.size (fun k o hk => hk))))
      refine ⟨by simp, .inl ⟨_, _, rfl, run_takeDeferred e2, ⟨by simp, .inl ⟨_, _, rfl, run_takeDeferred e1, ?_⟩⟩⟩⟩
      exact ⟨.bool true, by simp [results, Tryd.results5, go_sem], rfl, I9⟩
set_option maxRecDepth 100000 in
set_option maxHeartbeats 16000000 in
theorem each_big (s : ByteArray) (hs : 65536 < s.size) (hs2 : s.size ≤ 3000000000000) (m : Nat) (hm : 1 ≤ m) (hm2 : (m : Int) ≤ 9223372036854775807) (w : World) (T : LTabs w) :
    Calls Tryd.prog 5 #[.string s, .int .i64 (m : Int)] w fun e w' => e = .returned (.bool true) ∧ LInv w w' := by
  have hl' : (65536 : Int) < (s.size : Int) := by omega
  obtain ⟨w0, hw0⟩ : ∃ w0, w0 = w.alloc (.cells #[.int .i64 (m : Int)] 3) := ⟨_, rfl⟩
  have hbw : Below w.heap.size w w0 := by rw [hw0]; exact (Below.refl _ w).alloc (Nat.le_refl _) _
  have T0 : LTabs w0 := T.below (Nat.le_refl _) hbw
  have hlt0 : w.heap.size < w0.heap.size := by rw [hw0]; simp
  have hk0 : w0.heap[w.heap.size]? = some (.cells #[.int .i64 (m : Int)] 3 (0, 0)) := by rw [hw0]; exact World.alloc_heap_new w _
  have HB := Lib.hid (begins_i (LInv.start T0))
  have HF : Hid (∀ W, Calls Tryd.prog 25 #[.string s] W fun e w' => ∃ u x y, e = .returned (.tuple #[u, .int .i64 x, .int .i64 y]) ∧ Below W.heap.size W w') := fun W => by
    refine (front_any s hs2 W).mono ?_
    rintro e w' ⟨⟨v, rfl, h1, h2⟩, hb⟩
    exact ⟨v, _, _, rfl, hb⟩
  have HBW := Lib.hid hbw
  have HK0 := Lib.hid hk0
  have HW0 := Lib.hid hw0
  have HT := Lib.hid T
  clear T T0 hbw hk0 hw0
  have hk' : decide ((m : Int) < 1) = false := by simp; omega
  have hmn : decide ((m : Int) < 0) = false := by simp
  refine (callsIn_wide (n := 3)).1 ?_
  refine callsIn_of_wp_marks Tryd.func5 rfl trivial ?_ rfl
  simp only [Tryd.ntmps5, List.size_toArray, List.length_cons, List.length_nil, Nat.reduceAdd, Nat.reduceSub, Array.replicate_succ, Array.replicate_zero, List.push_toArray, List.append_toArray, List.nil_append, List.cons_append]
  gi_wp2_with (first
    | (with_reducible rw [← HW0.out])
    | ((refine ⟨trivial, ?_⟩); gi_at_call 21; refine (callsIn_wide.2 HB.out).mono ?_; rintro e w1 ⟨rfl, hI⟩; have HI := Lib.hid hI; clear hI)
    | ((refine ⟨trivial, ?_⟩); gi_at_call 25; refine (callsIn_wide.2 (HF.out _)).mono ?_; rintro e w2 ⟨u0, x0, y0, rfl, hb2⟩; have HI2 := Lib.hid (HI.out.next hb2); have hz22 := HI2.out.below.size; have HK2 : Hid (Boxed w2 w.heap.size 3 (.int .i64 (m : Int))) := (HI2.out.below.block _ hlt0).trans HK0.out; have k1 := HK2.out.cell; have k2 := HK2.out.frozen; clear hb2)
    | ((refine ⟨trivial, ?_⟩); gi_at_call 26; refine (callsIn_wide.2 (each_long s hs _)).mono ?_; rintro e w6 ⟨rfl, hb6⟩))
  have hp2 : w2.heap.size = w2.heap.size := by rfl
  have I6 : Hid (LInv w w6) := LInv.make HT.out ((HBW.out.trans (HI2.out.below.mono HBW.out.size)).trans (hb6.mono (by rw [hp2]; omega)))
  clear hb6 hp2
  refine wpIn_loop_rounds 3 ?_
  rw [roundsIn_succ]
  gi_wp2
  refine act_name (fun A0 hA0 => ?_)
  have hID1 : ∀ (pre : List Res) (A B : World), (Lst w6.heap.size w6.heap.size pre A ∧ Below w6.heap.size w6 A) → Keep (selC w6.heap.size) A B → (Lst w6.heap.size w6.heap.size pre B ∧ Below w6.heap.size w6 B) :=
    fun pre A B h hk => ⟨h.1.keepC hk, h.2.trans (hk.below h.2.size (fun k _ hk => .inl hk))⟩
  refine wpIn_range_keep (n := 3) rfl (by omega) (gf := 43) (fst := #[]) (lb := #[]) (by rw [hA0]; rfl) trivial (enters_of Tryd.func43 (by kernel_rfl) rfl)
    (encs := encR) (fun _ => rfl) (selO w6.heap.size) (selY w6.heap.size) (selC w6.heap.size)
    (fun k o ho => .inr (fun ⟨_, _, e⟩ => by rw [e] at ho; cases ho))
    (fun k o hk ho => by
      rcases ho with ho | ⟨_, _, e⟩ | ⟨_, _, e⟩
      · exact absurd ho (by simp at hk; omega)
      · rw [e]; rfl
      · rw [e]; rfl)
    (fun k o hk ho => by
      rcases ho with ho | ho
      · exact absurd ho (by simp at hk; omega)
      · exact ho.1)
    (fun k o ho => by
      rcases ho with ho | ho
      · exact .inl ho
      · exact .inr ho.2)
    (S := fun ys _ => ys = []) (Sp := fun _ _ => False) (ok := fun _ _ => False)
    (fun l J Jx W hbW hJ hJx hYl hJ0 => each1_in 2 l W (S := fun ys _ => ys = []) rfl hJ0)
    (fun pre W => Lst w6.heap.size w6.heap.size pre W ∧ Below w6.heap.size w6 W)
    (fun _ _ _ => False)
    hID1
    (fun _ _ _ _ h _ => h)
    ⟨⟨_, World.alloc_heap_new w6 _, World.ownsRow_nil _ _ _ _, by simp⟩, (Below.refl _ w6).alloc (Nat.le_refl _) _⟩
    (fun _ _ _ => True)
    (fun _ _ _ _ _ _ => trivial)
    ?assignD1 ?bodyD1 ?doneD1 ?stopD1
  case assignD1 =>
    rintro l pre x W K hi hK
    have HI0 := Lib.hid hi
    have HKK := Lib.hid hK
    obtain ⟨rk, rx, rw0, rp, ra, rr⟩ := x
    clear hi hK
    subst hA0
    simp only [encR, tokV]
    gi_wp2
    exact HKK.out _ _ ((Keep.refl _ W).alloc _) (hID1 _ _ _ HI0.out ((Keep.refl _ W).alloc _)) trivial
  case bodyD1 =>
    intro l pre x a' W _ _ hok
    exact hok.elim
  case stopD1 =>
    intro D c pre W1 W _ h
    exact h.elim
  case doneD1 =>
    rintro D1 ys W1 W5 hDD1 rfl ⟨⟨v1, hvD1, hrowD1, _⟩, hBD1⟩ _ hKD1
    have TRD1 := Lib.hid (tokRow_owns hrowD1)
    have HBD1 := Lib.hid hBD1
    have HMD1 := Lib.hid hKD1
    have hsD1 := hBD1.size
    have cD1 := hvD1.cell
    clear hKD1 hrowD1 hvD1 hBD1
    subst hA0
    gi_wp2_with ((refine ⟨trivial, ?_⟩); gi_at_call 24; refine (callsIn_wide.2 (same_true _ _ _ [] [] TRD1.out ⟨none, 0, rfl, by simp⟩ (EqToks.rfl' _ _) (by simp))).mono ?_; rintro e w8 ⟨rfl, m1, rfl⟩)
    obtain ⟨W7, hW7⟩ : ∃ W7, W7 = W5.drewN m1 := ⟨_, rfl⟩
    rw [← hW7]
    have B7 : Hid (Below w6.heap.size w6 W7) := by rw [Hid, hW7]; exact HBD1.out.trans ((below_drewN (Below.refl _ W5) m1).mono HBD1.out.size)
    have M1 : Hid (W7.heap[D1]? = some (.deferred (some []))) := by rw [Hid, hW7]; exact HMD1.out
    clear hW7
    have I7 := Lib.hid (I6.out.next B7.out)
    rw [roundsIn_succ]
    gi_wp2
    refine act_name (fun A0 hA0 => ?_)
    have hID2 : ∀ (pre : List Res) (A B : World), (Lst W7.heap.size W7.heap.size pre A ∧ Below W7.heap.size W7 A) → Keep (selC W7.heap.size) A B → (Lst W7.heap.size W7.heap.size pre B ∧ Below W7.heap.size W7 B) :=
      fun pre A B h hk => ⟨h.1.keepC hk, h.2.trans (hk.below h.2.size (fun k _ hk => .inl hk))⟩
    refine wpIn_range_keep (n := 3) rfl (by omega) (gf := 43) (fst := #[]) (lb := #[]) (by rw [hA0]; rfl) trivial (enters_of Tryd.func43 (by kernel_rfl) rfl)
      (encs := encR) (fun _ => rfl) (selO W7.heap.size) (selY W7.heap.size) (selC W7.heap.size)
      (fun k o ho => .inr (fun ⟨_, _, e⟩ => by rw [e] at ho; cases ho))
      (fun k o hk ho => by
        rcases ho with ho | ⟨_, _, e⟩ | ⟨_, _, e⟩
        · exact absurd ho (by simp at hk; omega)
        · rw [e]; rfl
        · rw [e]; rfl)
      (fun k o hk ho => by
        rcases ho with ho | ho
        · exact absurd ho (by simp at hk; omega)
        · exact ho.1)
      (fun k o ho => by
        rcases ho with ho | ho
        · exact .inl ho
        · exact .inr ho.2)
      (S := fun ys _ => ys = []) (Sp := fun _ _ => False) (ok := fun _ _ => False)
      (fun l J Jx W hbW hJ hJx hYl hJ0 => each1_in 2 l W (S := fun ys _ => ys = []) rfl hJ0)
      (fun pre W => Lst W7.heap.size W7.heap.size pre W ∧ Below W7.heap.size W7 W)
      (fun _ _ _ => False)
      hID2
      (fun _ _ _ _ h _ => h)
      ⟨⟨_, World.alloc_heap_new W7 _, World.ownsRow_nil _ _ _ _, by simp⟩, (Below.refl _ W7).alloc (Nat.le_refl _) _⟩
      (fun _ _ _ => True)
      (fun _ _ _ _ _ _ => trivial)
      ?assignD2 ?bodyD2 ?doneD2 ?stopD2
    case assignD2 =>
      rintro l pre x W K hi hK
      have HI0 := Lib.hid hi
      have HKK := Lib.hid hK
      obtain ⟨rk, rx, rw0, rp, ra, rr⟩ := x
      clear hi hK
      subst hA0
      simp only [encR, tokV]
      gi_wp2
      exact HKK.out _ _ ((Keep.refl _ W).alloc _) (hID2 _ _ _ HI0.out ((Keep.refl _ W).alloc _)) trivial
    case bodyD2 =>
      intro l pre x a' W _ _ hok
      exact hok.elim
    case stopD2 =>
      intro D c pre W1 W _ h
      exact h.elim
    case doneD2 =>
      rintro D2 ys W1 W9 hDD2 rfl ⟨⟨v2, hvD2, hrowD2, _⟩, hBD2⟩ _ hKD2
      have TRD2 := Lib.hid (tokRow_owns hrowD2)
      have HBD2 := Lib.hid hBD2
      have HMD2 := Lib.hid hKD2
      have hsD2 := hBD2.size
      have cD2 := hvD2.cell
      clear hKD2 hrowD2 hvD2 hBD2
      subst hA0
      gi_wp2_with ((refine ⟨trivial, ?_⟩); gi_at_call 24; refine (callsIn_wide.2 (same_true _ _ _ [] [] TRD2.out ⟨none, 0, rfl, by simp⟩ (EqToks.rfl' _ _) (by simp))).mono ?_; rintro e w8 ⟨rfl, m2, rfl⟩)
      rw [roundsIn_succ]
      gi_wp2
      have z5 := I7.out.below.size
      have hDD : D1 < W7.heap.size := (Array.getElem?_eq_some_iff.1 M1.out).1
      have zw6 := I6.out.below.size
      have e2 : (W9.drewN m2).heap[D2]? = some (.deferred (some [])) := HMD2.out
      have e1 : ((W9.drewN m2).putObj D2 (.deferred none)).heap[D1]? = some (.deferred (some [])) := (World.putObj_heap_other (by simp at hDD2; omega)).trans ((HBD2.out.block _ hDD).trans M1.out)
      have kF : Keep (fun k o => k < w.heap.size) (W9.drewN m2) (((W9.drewN m2).putObj D2 (.deferred none)).putObj D1 (.deferred none)) :=
        ((Keep.refl _ _).putObj _ e2 (by simp at hDD2; omega)).putObj _ e1 (by simp at hDD1; omega)
      have I9 : LInv w (((W9.drewN m2).putObj D2 (.deferred none)).putObj D1 (.deferred none)) :=
        LInv.make HT.out ((I7.out.next HBD2.out).below.trans ((below_drewN (Below.refl _ W9) m2).mono (I7.out.next HBD2.out).below.size |>.trans (kF.below (I7.out.next HBD2.out).below.size (fun k o hk => hk))))
      refine ⟨by simp, .inl ⟨_, _, rfl, run_takeDeferred e2, ⟨by simp, .inl ⟨_, _, rfl, run_takeDeferred e1, ?_⟩⟩⟩⟩
      exact ⟨.bool true, by simp [results, Tryd.results5, go_sem], rfl, I9⟩
theorem each_walk (s : ByteArray) (k : Int) (hs : s.size ≤ 3000000000000) (h0 : -9223372036854775808 ≤ k) (h1 : k ≤ 9223372036854775807) (w : World) (T : LTabs w) :
    Calls Tryd.prog 5 #[.string s, .int .i64 k] w fun e w' => e = .returned (.bool true) ∧ LInv w w' := by
  by_cases hk : k < 1
  · by_cases hz : s.size ≤ 65536
    · rcases Nat.lt_trichotomy 1 (frontR s).1.length with h | h | h
      · exact each_lowlt s hz k hk h w T
      · exact each_loweq s hz k hk h w T
      · exact each_lowgt s hz k hk h w T
    · exact each_lowbig s (by omega) hs k hk w T
  · obtain ⟨m, rfl⟩ : ∃ m : Nat, k = m := ⟨k.toNat, by omega⟩
    have hm : 1 ≤ m := by omega
    by_cases hz : s.size ≤ 65536
    · rcases Nat.lt_trichotomy m (frontR s).1.length with h | h | h
      · exact each_lt s hz m hm h1 h w T
      · exact each_eq s hz m hm h1 h w T
      · exact each_gt s hz m hm h1 h w T
    · exact each_big s (by omega) hs m hm h1 w T
end Go.Proofs.YteedpojchapjgaaDoor

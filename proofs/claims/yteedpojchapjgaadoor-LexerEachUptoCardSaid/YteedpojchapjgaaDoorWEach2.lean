/- The lexer's laws: Each, told to stop behind so many tokens: not too long. -/
import Derived.Test.YteedpojchapjgaaDoorWEach
namespace Go.Proofs.YteedpojchapjgaaDoor
open Go.RowKit Go.Shelf
set_option linter.unusedVariables false
attribute [local go_sem] Oper.semAt_some

set_option maxRecDepth 100000 in
set_option maxHeartbeats 16000000 in
theorem each_lowlt (s : ByteArray) (hs : s.size ≤ 65536) (k : Int) (hk : k < 1) (hn : 1 < (frontR s).1.length) (w : World) (T : LTabs w) :
    Calls Tryd.prog 5 #[.string s, .int .i64 k] w fun e w' => e = .returned (.bool true) ∧ LInv w w' := by
  have hxs := front_len s
  have hl' : ¬ (65536 : Int) < (s.size : Int) := by omega
  obtain ⟨w0, hw0⟩ : ∃ w0, w0 = w.alloc (.cells #[.int .i64 k] 3) := ⟨_, rfl⟩
  have hbw : Below w.heap.size w w0 := by rw [hw0]; exact (Below.refl _ w).alloc (Nat.le_refl _) _
  have T0 : LTabs w0 := T.below (Nat.le_refl _) hbw
  have hlt0 : w.heap.size < w0.heap.size := by rw [hw0]; simp
  have hk0 : w0.heap[w.heap.size]? = some (.cells #[.int .i64 k] 3 (0, 0)) := by rw [hw0]; exact World.alloc_heap_new w _
  have HB := Lib.hid (begins_i (LInv.start T0))
  obtain ⟨xs, hxe⟩ : ∃ xs, Hid (xs = (frontR s).1) := ⟨_, rfl⟩
  rw [← hxe.out] at hxs hn
  have HF : Hid (∀ W, Calls Tryd.prog 25 #[.string s] W fun e w' => ∃ oa cap, e = .returned (.tuple #[.slice oa xs.length cap, .int .i64 (frontR s).2.2, .int .i64 (frontR s).2.1]) ∧ w'.ownsRow W.heap.size 38 4 (.slice oa xs.length cap) xs.length (rowR xs) ∧ xs.length ≤ cap ∧ (0 < xs.length → ∃ g, oa = some ⟨g, 0, none⟩) ∧ Below W.heap.size W w') := fun W => by
    refine (front_any s (by omega) W).mono ?_
    rintro e w' ⟨⟨v, rfl, h1, h2⟩, hb⟩
    rw [← hxe.out] at h1 h2
    have t := tokRow_owns h1
    obtain ⟨oa, cap, rfl, _⟩ := id t
    refine ⟨oa, cap, rfl, h1, ?_, ?_, hb⟩
    · rcases h1.2 with ⟨hv, h0⟩ | ⟨g, cap', cur, hv, _, _, hle, _⟩
      · omega
      · cases hv; exact hle
    · intro hp
      rcases h1.2 with ⟨hv, h0⟩ | ⟨g, cap', cur, hv, _, _, hle, _⟩
      · omega
      · cases hv; exact ⟨g, rfl⟩
  generalize (frontR s).2.1 = fa at HF
  generalize (frontR s).2.2 = fr at HF
  obtain ⟨n, hnn⟩ : ∃ n, Hid (n = xs.length) := ⟨_, rfl⟩
  rw [← hnn.out] at HF hn hxs
  have HBW := Lib.hid hbw
  have HK0 := Lib.hid hk0
  have HW0 := Lib.hid hw0
  have HT := Lib.hid T
  obtain ⟨i0, hi, hz0, hz1, hz2⟩ := info_parts infoTok
  clear T T0 hbw hk0 hw0
  have hk' : decide (k < 1) = true := by simpa using hk
  have hmn : decide ((1 : Int) < (n : Int)) = true := by simp; omega
  have hmn' : (1 : Int) < (n : Int) := by omega
  refine (callsIn_wide (n := 3)).1 ?_
  refine callsIn_of_wp_marks Tryd.func5 rfl trivial ?_ rfl
  simp only [Tryd.ntmps5, List.size_toArray, List.length_cons, List.length_nil, Nat.reduceAdd, Nat.reduceSub, Array.replicate_succ, Array.replicate_zero, List.push_toArray, List.append_toArray, List.nil_append, List.cons_append]
  gi_wp2_with (first
    | (with_reducible rw [← HW0.out])
    | ((refine ⟨trivial, ?_⟩); gi_at_call 21; refine (callsIn_wide.2 HB.out).mono ?_; rintro e w1 ⟨rfl, hI⟩; have HI := Lib.hid hI; clear hI)
    | ((refine ⟨trivial, ?_⟩); gi_at_call 25; refine (callsIn_wide.2 (HF.out _)).mono ?_; rintro e w2 ⟨oa, cap, rfl, htr, hcap, hoa, hb2⟩; have HI2 := Lib.hid (HI.out.next hb2); have HTR := Lib.hid htr; have hz22 := HI2.out.below.size; have HK2 : Hid (Boxed w2 w.heap.size 3 (.int .i64 k)) := (HI2.out.below.block _ hlt0).trans HK0.out; have k1 := HK2.out.cell; have k2 := HK2.out.frozen; have hz11 := HI.out.below.size; clear hb2 htr; obtain ⟨go, rfl⟩ := hoa (by omega))
    | ((refine ⟨trivial, ?_⟩); gi_at_call 26; refine (callsIn_wide.2 (each_any s hs _)).mono ?_; rintro e w6 ⟨c, rfl, hcc, hbx, hb6⟩))
  have hp2 : (w2.setCell ⟨w.heap.size, 0, none⟩ (.int .i64 1)).heap.size = w2.heap.size := by simp
  have HK6 : Hid (Boxed w6 w.heap.size 3 (.int .i64 (1 : Int))) := (hb6.block _ (by rw [hp2]; omega)).trans (one_setCell HK2.out)
  have I6 : Hid (LInv w w6) := LInv.make HT.out (((HBW.out.trans (HI2.out.below.mono HBW.out.size)).setCell (p := ⟨w.heap.size, 0, none⟩) (Nat.le_refl _) (.int .i64 1)).trans (hb6.mono (by rw [hp2]; omega)))
  have HX6 := Lib.hid hbx
  have HT2 : Hid (TokRow (w2.setCell ⟨w.heap.size, 0, none⟩ (.int .i64 1)) (.slice (some ⟨go, 0, none⟩) n cap) xs) := by
    have k := (ownsRow_setCell_below (a := ⟨w.heap.size, 0, none⟩) HTR.out (by show w.heap.size < w1.heap.size; omega) (.int .i64 1))
    rw [Hid]; rw [hnn.out] at k ⊢; exact tokRow_owns k
  have HL6 : Hid (TokRow w6 (.slice (some ⟨go, 0, none⟩) 1 cap) (xs.take 1)) := (HT2.out.keep hb6).take (by rw [← hnn.out]; omega) cap
  have hb3 : w.heap.size < w6.heap.size := HK6.out.lt
  clear hb6 hbx hcc HTR HT2 hp2
  refine wpIn_loop_rounds 3 ?_
  rw [roundsIn_succ]
  gi_wp2
  refine act_name (fun A0 hA0 => ?_)
  have hID1 : ∀ (pre : List Res) (A B : World), (Lst w6.heap.size w6.heap.size pre A ∧ Below w6.heap.size w6 A ∧ (pre.length : Int) < (1 : Int)) → Keep (selC w6.heap.size) A B → (Lst w6.heap.size w6.heap.size pre B ∧ Below w6.heap.size w6 B ∧ (pre.length : Int) < (1 : Int)) :=
    fun pre A B h hk => ⟨h.1.keepC hk, h.2.1.trans (hk.below h.2.1.size (fun k _ hk => .inl hk)), h.2.2⟩
  refine wpIn_range_keep (n := 3) rfl (by omega) (gf := 45) (fst := #[]) (lb := #[.pointer (some ⟨c, 0, none⟩)]) (by rw [hA0]; rfl) trivial (enters_of Tryd.func45 (by kernel_rfl) rfl)
    (encs := encR) (fun _ => rfl) (selO w6.heap.size) (selY w6.heap.size) (selC w6.heap.size)
    (fun k o ho => .inr (fun ⟨_, _, e⟩ => by rw [e] at ho; cases ho))
    (fun k o hk ho => by
      rcases ho with ho | ⟨_, _, e⟩ | ⟨_, _, e⟩
      · exact absurd ho (by simp at hk; omega)
      · rw [e]; rfl
      · rw [e]; rfl)
    (fun k o hk ho => by
      rcases ho with ho | ho
      · exact absurd ho (by simp at hk; omega)
      · exact ho.1)
    (fun k o ho => by
      rcases ho with ho | ho
      · exact .inl ho
      · exact .inr ho.2)
    (S := fun ys _ => ys = (frontR s).1) (Sp := fun _ _ => True) (ok := okR s)
    (fun l J Jx W hbW hJ hJx hYl hJ0 => each2_in 2 l c s hs w6 I6.out.tabs J Jx hJ hJx hYl W (((Below.refl _ w6).alloc (Nat.le_refl _) _).trans (hbW.mono (by simp))) ((hbW.block _ (by simp; have := HX6.out.lt; omega)).trans ((Below.heap_alloc _ _ _ HX6.out.lt).trans HX6.out)) hJ0)
    (fun pre W => Lst w6.heap.size w6.heap.size pre W ∧ Below w6.heap.size w6 W ∧ (pre.length : Int) < (1 : Int))
    (fun c pre W => c = .exit 2 ∧ Lst w6.heap.size w6.heap.size pre W ∧ Below w6.heap.size w6 W ∧ pre = xs.take (1 : Int).toNat ∧ (1 : Int) ≤ (pre.length : Int))
    hID1
    (fun c pre A B h hk => ⟨h.1, h.2.1.keepC hk, h.2.2.1.trans (hk.below h.2.2.1.size (fun k _ hk => .inl hk)), h.2.2.2⟩)
    ⟨⟨_, World.alloc_heap_new w6 _, World.ownsRow_nil _ _ _ _, by simp⟩, (Below.refl _ w6).alloc (Nat.le_refl _) _, (by first | (simp; done) | (simp; omega))⟩
    (fun x a' W => ∃ Bx, TokBox W Bx x ∧ a' = { tmps := (A0.tmps.setIfInBounds 39 (tokV x.kind x.text x.wd x.place)).setIfInBounds 11 (.pointer (some ⟨Bx, 0, none⟩)), defers := [] })
    (fun x a' A B h hk => by
      obtain ⟨Bx, h1, h2⟩ := h
      exact ⟨Bx, hk.block _ _ h1 (.inr ⟨rfl, not_ty (by decide)⟩), h2⟩)
    ?assignD1 ?bodyD1 ?doneD1 ?stopD1
  case assignD1 =>
    rintro l pre x W K hi hK
    have HI0 := Lib.hid hi
    have HKK := Lib.hid hK
    obtain ⟨rk, rx, rw0, rp, ra, rr⟩ := x
    clear hi hK
    subst hA0
    simp only [encR, tokV]
    gi_wp2
    exact HKK.out _ _ ((Keep.refl _ W).alloc _) (hID1 _ _ _ HI0.out ((Keep.refl _ W).alloc _)) ⟨W.heap.size, World.alloc_heap_new W _, rfl⟩
  case bodyD1 =>
    rintro l pre x a' W ⟨⟨v, hv, hrow, hnil⟩, hB, hpl⟩ ⟨Bx, hbx, rfl⟩ hok
    have hlen := okR_len hok hs
    have HOK := Lib.hid hok
    have hps : x = x := rfl
    obtain ⟨rk, rx, rw0, rp, ra, rr⟩ := x
    obtain ⟨⟨t0, t1, t2, t3⟩, _⟩ := row4 hbx
    have hc := hv.cell
    have HB5 := Lib.hid hB
    have hst3 := (hB.cell (p := ⟨w.heap.size, 0, none⟩) (by omega)).trans HK6.out.cell
    have hBs : w6.heap.size ≤ W.heap.size := hB.size
    have HBX := Lib.hid hbx
    clear hB hbx hok hps
    subst hA0
    simp only [tokV, List.setIfInBounds_toArray, List.set_cons_succ, List.set_cons_zero]
    by_cases hge : (1 : Int) ≤ (pre.length : Int) + 1
    · have hge' : (1 : Int) ≤ ((pre.length + 1 : Nat) : Int) := by omega
      gi_wp2_with (gi_at_builtin; refine wpListIn_append_own _ rfl _ _ 24 rfl (w6.heap.size) 38 i0 _ 4 40 Tryd.underlying24 hi hz0 hz1 hz2 rfl (by decide) _ _ _ rfl (hrow.alloc _) ⟨W.heap.size, 0, none⟩ 1 1 [.int .u8 rk, .string rx, .int .i64 rw0, .int .i64 rp] rfl rfl (fun j u hj => cell_four (World.alloc_heap_new W _) j u hj) (by simp [Value.oneCell']) (by simp only [maxLen]; omega) (by omega) (by simp; omega) ?_; intro v' w1 hown' hgrow _; obtain ⟨g', cap', rfl⟩ := ownsRow_succ hown'; obtain ⟨hv1, hv2, hr2, _, hb2⟩ := hv.appended (by decide) hrow hBs (by omega) hown' hgrow; have hc1 := hv1.cell; have hf1 := hv1.frozen; have hc2 := hv2.cell; have hst4 := (hb2.cell (p := ⟨w.heap.size, 0, none⟩) (by omega)).trans hst3)
      refine ⟨appended_keep (sel := selB w6.heap.size) hrow hgrow hv1 (fun g cs hg => notB hg (by decide) (by decide)) (fun cs => notB (by omega) (by decide) (by decide)), rfl, ⟨_, hv2, ?_, ?_⟩, HB5.out.trans hb2, ?_, ?_⟩
      · rw [rowR_snoc, List.length_append]; exact hr2
      · simp
      · exact okR_take HOK.out hxe.out hpl hge
      · simp; omega
    · exact absurd (by omega) hge

  case doneD1 =>
    rintro D ys W1 W _ hys ⟨_, _, hlt⟩ _ _
    have e : ys = xs := hys.trans hxe.out.symm
    rw [e, ← hnn.out] at hlt
    omega
  case stopD1 =>
    rintro D1 cc pre W1 W5 hDD1 _ ⟨rfl, ⟨v1, hvD1, hrowD1, _⟩, hBD1, hpp, _⟩ _ hKD1
    subst hpp
    have HVD1 := Lib.hid hvD1
    have TRD1 := Lib.hid (tokRow_owns hrowD1)
    have HBD1 := Lib.hid hBD1
    have HMD1 := Lib.hid hKD1
    have hsD1 := hBD1.size
    have cD1 := hvD1.cell
    clear hKD1 hrowD1 hvD1 hBD1
    subst hA0
    gi_wp2_with ((refine ⟨trivial, ?_⟩); gi_at_call 24; refine (callsIn_wide.2 (same_true _ _ _ (xs.take (1 : Int).toNat) (xs.take 1) TRD1.out (HL6.out.keep HBD1.out) (EqToks.rfl' _ _) (by first | omega | (rw [List.length_take, ← hnn.out]; omega) | (rw [← hnn.out]; omega)))).mono ?_; rintro e w8 ⟨rfl, m1, rfl⟩)
    obtain ⟨W7, hW7⟩ : ∃ W7, W7 = W5.drewN m1 := ⟨_, rfl⟩
    rw [← hW7]
    have B7 : Hid (Below w6.heap.size w6 W7) := by rw [Hid, hW7]; exact HBD1.out.trans ((below_drewN (Below.refl _ W5) m1).mono HBD1.out.size)
    have M1 : Hid (W7.heap[D1]? = some (.deferred (some []))) := by rw [Hid, hW7]; exact HMD1.out
    clear hW7
    have HK7 : Hid (Boxed W7 w.heap.size 3 (.int .i64 (1 : Int))) := (B7.out.block _ hb3).trans HK6.out
    have I7 := Lib.hid (I6.out.next B7.out)
    have HX7 : Hid (Boxed W7 c 9 (.string s)) := (B7.out.block _ HX6.out.lt).trans HX6.out
    have HL7 := Lib.hid (HL6.out.keep B7.out)
    have hb37 : w.heap.size < W7.heap.size := HK7.out.lt
    rw [roundsIn_succ]
    gi_wp2
    refine act_name (fun A0 hA0 => ?_)
    have hID2 : ∀ (pre : List Res) (A B : World), (Lst W7.heap.size W7.heap.size pre A ∧ Below W7.heap.size W7 A ∧ (pre.length : Int) < (1 : Int)) → Keep (selC W7.heap.size) A B → (Lst W7.heap.size W7.heap.size pre B ∧ Below W7.heap.size W7 B ∧ (pre.length : Int) < (1 : Int)) :=
      fun pre A B h hk => ⟨h.1.keepC hk, h.2.1.trans (hk.below h.2.1.size (fun k _ hk => .inl hk)), h.2.2⟩
    refine wpIn_range_keep (n := 3) rfl (by omega) (gf := 45) (fst := #[]) (lb := #[.pointer (some ⟨c, 0, none⟩)]) (by rw [hA0]; rfl) trivial (enters_of Tryd.func45 (by kernel_rfl) rfl)
      (encs := encR) (fun _ => rfl) (selO W7.heap.size) (selY W7.heap.size) (selC W7.heap.size)
      (fun k o ho => .inr (fun ⟨_, _, e⟩ => by rw [e] at ho; cases ho))
      (fun k o hk ho => by
        rcases ho with ho | ⟨_, _, e⟩ | ⟨_, _, e⟩
        · exact absurd ho (by simp at hk; omega)
        · rw [e]; rfl
        · rw [e]; rfl)
      (fun k o hk ho => by
        rcases ho with ho | ho
        · exact absurd ho (by simp at hk; omega)
        · exact ho.1)
      (fun k o ho => by
        rcases ho with ho | ho
        · exact .inl ho
        · exact .inr ho.2)
      (S := fun ys _ => ys = (frontR s).1) (Sp := fun _ _ => True) (ok := okR s)
      (fun l J Jx W hbW hJ hJx hYl hJ0 => each2_in 2 l c s hs W7 I7.out.tabs J Jx hJ hJx hYl W (((Below.refl _ W7).alloc (Nat.le_refl _) _).trans (hbW.mono (by simp))) ((hbW.block _ (by simp; have := HX7.out.lt; omega)).trans ((Below.heap_alloc _ _ _ HX7.out.lt).trans HX7.out)) hJ0)
      (fun pre W => Lst W7.heap.size W7.heap.size pre W ∧ Below W7.heap.size W7 W ∧ (pre.length : Int) < (1 : Int))
      (fun c pre W => c = .exit 2 ∧ Lst W7.heap.size W7.heap.size pre W ∧ Below W7.heap.size W7 W ∧ pre = xs.take (1 : Int).toNat ∧ (1 : Int) ≤ (pre.length : Int))
      hID2
      (fun c pre A B h hk => ⟨h.1, h.2.1.keepC hk, h.2.2.1.trans (hk.below h.2.2.1.size (fun k _ hk => .inl hk)), h.2.2.2⟩)
      ⟨⟨_, World.alloc_heap_new W7 _, World.ownsRow_nil _ _ _ _, by simp⟩, (Below.refl _ W7).alloc (Nat.le_refl _) _, (by first | (simp; done) | (simp; omega))⟩
      (fun x a' W => ∃ Bx, TokBox W Bx x ∧ a' = { tmps := (A0.tmps.setIfInBounds 39 (tokV x.kind x.text x.wd x.place)).setIfInBounds 11 (.pointer (some ⟨Bx, 0, none⟩)), defers := [] })
      (fun x a' A B h hk => by
        obtain ⟨Bx, h1, h2⟩ := h
        exact ⟨Bx, hk.block _ _ h1 (.inr ⟨rfl, not_ty (by decide)⟩), h2⟩)
      ?assignD2 ?bodyD2 ?doneD2 ?stopD2
    case assignD2 =>
      rintro l pre x W K hi hK
      have HI0 := Lib.hid hi
      have HKK := Lib.hid hK
      obtain ⟨rk, rx, rw0, rp, ra, rr⟩ := x
      clear hi hK
      subst hA0
      simp only [encR, tokV]
      gi_wp2
      exact HKK.out _ _ ((Keep.refl _ W).alloc _) (hID2 _ _ _ HI0.out ((Keep.refl _ W).alloc _)) ⟨W.heap.size, World.alloc_heap_new W _, rfl⟩
    case bodyD2 =>
      rintro l pre x a' W ⟨⟨v, hv, hrow, hnil⟩, hB, hpl⟩ ⟨Bx, hbx, rfl⟩ hok
      have hlen := okR_len hok hs
      have HOK := Lib.hid hok
      have hps : x = x := rfl
      obtain ⟨rk, rx, rw0, rp, ra, rr⟩ := x
      obtain ⟨⟨t0, t1, t2, t3⟩, _⟩ := row4 hbx
      have hc := hv.cell
      have HB5 := Lib.hid hB
      have hst3 := (hB.cell (p := ⟨w.heap.size, 0, none⟩) (by omega)).trans HK7.out.cell
      have hBs : W7.heap.size ≤ W.heap.size := hB.size
      have HBX := Lib.hid hbx
      clear hB hbx hok hps
      subst hA0
      simp only [tokV, List.setIfInBounds_toArray, List.set_cons_succ, List.set_cons_zero]
      by_cases hge : (1 : Int) ≤ (pre.length : Int) + 1
      · have hge' : (1 : Int) ≤ ((pre.length + 1 : Nat) : Int) := by omega
        gi_wp2_with (gi_at_builtin; refine wpListIn_append_own _ rfl _ _ 24 rfl (W7.heap.size) 38 i0 _ 4 40 Tryd.underlying24 hi hz0 hz1 hz2 rfl (by decide) _ _ _ rfl (hrow.alloc _) ⟨W.heap.size, 0, none⟩ 1 1 [.int .u8 rk, .string rx, .int .i64 rw0, .int .i64 rp] rfl rfl (fun j u hj => cell_four (World.alloc_heap_new W _) j u hj) (by simp [Value.oneCell']) (by simp only [maxLen]; omega) (by omega) (by simp; omega) ?_; intro v' w1 hown' hgrow _; obtain ⟨g', cap', rfl⟩ := ownsRow_succ hown'; obtain ⟨hv1, hv2, hr2, _, hb2⟩ := hv.appended (by decide) hrow hBs (by omega) hown' hgrow; have hc1 := hv1.cell; have hf1 := hv1.frozen; have hc2 := hv2.cell; have hst4 := (hb2.cell (p := ⟨w.heap.size, 0, none⟩) (by omega)).trans hst3)
        refine ⟨appended_keep (sel := selB W7.heap.size) hrow hgrow hv1 (fun g cs hg => notB hg (by decide) (by decide)) (fun cs => notB (by omega) (by decide) (by decide)), rfl, ⟨_, hv2, ?_, ?_⟩, HB5.out.trans hb2, ?_, ?_⟩
        · rw [rowR_snoc, List.length_append]; exact hr2
        · simp
        · exact okR_take HOK.out hxe.out hpl hge
        · simp; omega
      · exact absurd (by omega) hge

    case doneD2 =>
      rintro D ys W1 W _ hys ⟨_, _, hlt⟩ _ _
      have e : ys = xs := hys.trans hxe.out.symm
      rw [e, ← hnn.out] at hlt
      omega
    case stopD2 =>
      rintro D2 cc pre W1 W9 hDD2 _ ⟨rfl, ⟨v2, hvD2, hrowD2, _⟩, hBD2, hpp, _⟩ _ hKD2
      subst hpp
      have HVD2 := Lib.hid hvD2
      have TRD2 := Lib.hid (tokRow_owns hrowD2)
      have HBD2 := Lib.hid hBD2
      have HMD2 := Lib.hid hKD2
      have hsD2 := hBD2.size
      have cD2 := hvD2.cell
      clear hKD2 hrowD2 hvD2 hBD2
      subst hA0
      gi_wp2_with ((refine ⟨trivial, ?_⟩); gi_at_call 24; refine (callsIn_wide.2 (same_true _ _ _ (xs.take (1 : Int).toNat) (xs.take 1) TRD2.out (HL7.out.keep HBD2.out) (EqToks.rfl' _ _) (by first | omega | (rw [List.length_take, ← hnn.out]; omega) | (rw [← hnn.out]; omega)))).mono ?_; rintro e w8 ⟨rfl, m2, rfl⟩)
      rw [roundsIn_succ]
      gi_wp2
      have z5 := I7.out.below.size
      have hDD : D1 < W7.heap.size := (Array.getElem?_eq_some_iff.1 M1.out).1
      have zw6 := I6.out.below.size
      have e2 : (W9.drewN m2).heap[D2]? = some (.deferred (some [])) := HMD2.out
      have e1 : ((W9.drewN m2).putObj D2 (.deferred none)).heap[D1]? = some (.deferred (some [])) := (World.putObj_heap_other (by simp at hDD2; omega)).trans ((HBD2.out.block _ hDD).trans M1.out)
      have kF : Keep (fun k o => k < w.heap.size) (W9.drewN m2) (((W9.drewN m2).putObj D2 (.deferred none)).putObj D1 (.deferred none)) :=
        ((Keep.refl _ _).putObj _ e2 (by simp at hDD2; omega)).putObj _ e1 (by simp at hDD1; omega)
      have I9 : LInv w (((W9.drewN m2).putObj D2 (.deferred none)).putObj D1 (.deferred none)) :=
        LInv.make HT.out ((I7.out.next HBD2.out).below.trans ((below_drewN (Below.refl _ W9) m2).mono (I7.out.next HBD2.out).below.size |>.trans (kF.below (I7.out.next HBD2.out).below.size (fun k o hk => hk))))
      refine ⟨by simp, .inl ⟨_, _, rfl, run_takeDeferred e2, ⟨by simp, .inl ⟨_, _, rfl, run_takeDeferred e1, ?_⟩⟩⟩⟩
      exact ⟨.bool true, by simp [results, Tryd.results5, go_sem], rfl, I9⟩
set_option maxRecDepth 100000 in
set_option maxHeartbeats 16000000 in
theorem each_gt (s : ByteArray) (hs : s.size ≤ 65536) (m : Nat) (hm : 1 ≤ m) (hm2 : (m : Int) ≤ 9223372036854775807) (hn : (frontR s).1.length < m) (w : World) (T : LTabs w) :
    Calls Tryd.prog 5 #[.string s, .int .i64 (m : Int)] w fun e w' => e = .returned (.bool true) ∧ LInv w w' := by
  have hxs := front_len s
  have hl' : ¬ (65536 : Int) < (s.size : Int) := by omega
  obtain ⟨w0, hw0⟩ : ∃ w0, w0 = w.alloc (.cells #[.int .i64 (m : Int)] 3) := ⟨_, rfl⟩
  have hbw : Below w.heap.size w w0 := by rw [hw0]; exact (Below.refl _ w).alloc (Nat.le_refl _) _
  have T0 : LTabs w0 := T.below (Nat.le_refl _) hbw
  have hlt0 : w.heap.size < w0.heap.size := by rw [hw0]; simp
  have hk0 : w0.heap[w.heap.size]? = some (.cells #[.int .i64 (m : Int)] 3 (0, 0)) := by rw [hw0]; exact World.alloc_heap_new w _
  have HB := Lib.hid (begins_i (LInv.start T0))
  obtain ⟨xs, hxe⟩ : ∃ xs, Hid (xs = (frontR s).1) := ⟨_, rfl⟩
  rw [← hxe.out] at hxs hn
  have HF : Hid (∀ W, Calls Tryd.prog 25 #[.string s] W fun e w' => ∃ oa cap, e = .returned (.tuple #[.slice oa xs.length cap, .int .i64 (frontR s).2.2, .int .i64 (frontR s).2.1]) ∧ w'.ownsRow W.heap.size 38 4 (.slice oa xs.length cap) xs.length (rowR xs) ∧ xs.length ≤ cap ∧ (0 < xs.length → ∃ g, oa = some ⟨g, 0, none⟩) ∧ Below W.heap.size W w') := fun W => by
    refine (front_any s (by omega) W).mono ?_
    rintro e w' ⟨⟨v, rfl, h1, h2⟩, hb⟩
    rw [← hxe.out] at h1 h2
    have t := tokRow_owns h1
    obtain ⟨oa, cap, rfl, _⟩ := id t
    refine ⟨oa, cap, rfl, h1, ?_, ?_, hb⟩
    · rcases h1.2 with ⟨hv, h0⟩ | ⟨g, cap', cur, hv, _, _, hle, _⟩
      · omega
      · cases hv; exact hle
    · intro hp
      rcases h1.2 with ⟨hv, h0⟩ | ⟨g, cap', cur, hv, _, _, hle, _⟩
      · omega
      · cases hv; exact ⟨g, rfl⟩
  generalize (frontR s).2.1 = fa at HF
  generalize (frontR s).2.2 = fr at HF
  obtain ⟨n, hnn⟩ : ∃ n, Hid (n = xs.length) := ⟨_, rfl⟩
  rw [← hnn.out] at HF hn hxs
  have HBW := Lib.hid hbw
  have HK0 := Lib.hid hk0
  have HW0 := Lib.hid hw0
  have HT := Lib.hid T
  obtain ⟨i0, hi, hz0, hz1, hz2⟩ := info_parts infoTok
  clear T T0 hbw hk0 hw0
  have hk' : decide ((m : Int) < 1) = false := by simp; omega
  have hmn : decide (m < n) = false := by simp; omega
  have hmn' : ¬ (m : Int) < (n : Int) := by omega
  refine (callsIn_wide (n := 3)).1 ?_
  refine callsIn_of_wp_marks Tryd.func5 rfl trivial ?_ rfl
  simp only [Tryd.ntmps5, List.size_toArray, List.length_cons, List.length_nil, Nat.reduceAdd, Nat.reduceSub, Array.replicate_succ, Array.replicate_zero, List.push_toArray, List.append_toArray, List.nil_append, List.cons_append]
  gi_wp2_with (first
    | (with_reducible rw [← HW0.out])
    | ((refine ⟨trivial, ?_⟩); gi_at_call 21; refine (callsIn_wide.2 HB.out).mono ?_; rintro e w1 ⟨rfl, hI⟩; have HI := Lib.hid hI; clear hI)
    | ((refine ⟨trivial, ?_⟩); gi_at_call 25; refine (callsIn_wide.2 (HF.out _)).mono ?_; rintro e w2 ⟨oa, cap, rfl, htr, hcap, hoa, hb2⟩; have HI2 := Lib.hid (HI.out.next hb2); have HTR := Lib.hid htr; have hz22 := HI2.out.below.size; have HK2 : Hid (Boxed w2 w.heap.size 3 (.int .i64 (m : Int))) := (HI2.out.below.block _ hlt0).trans HK0.out; have k1 := HK2.out.cell; have k2 := HK2.out.frozen; have hz11 := HI.out.below.size; clear hb2 htr; skip)
    | ((refine ⟨trivial, ?_⟩); gi_at_call 26; refine (callsIn_wide.2 (each_any s hs _)).mono ?_; rintro e w6 ⟨c, rfl, hcc, hbx, hb6⟩))
  have hp2 : w2.heap.size = w2.heap.size := by rfl
  have HK6 : Hid (Boxed w6 w.heap.size 3 (.int .i64 (m : Int))) := (hb6.block _ (by rw [hp2]; omega)).trans (HK2.out)
  have I6 : Hid (LInv w w6) := LInv.make HT.out ((HBW.out.trans (HI2.out.below.mono HBW.out.size)).trans (hb6.mono (by rw [hp2]; omega)))
  have HX6 := Lib.hid hbx
  have HT2 : Hid (TokRow w2 (.slice oa n cap) xs) := by
    have k := HTR.out
    rw [Hid]; rw [hnn.out] at k ⊢; exact tokRow_owns k
  have HL6 : Hid (TokRow w6 (.slice oa n cap) (xs.take m)) := by
    rw [Hid, List.take_of_length_le (by rw [← hnn.out]; omega)]; exact HT2.out.keep hb6
  have hb3 : w.heap.size < w6.heap.size := HK6.out.lt
  clear hb6 hbx hcc HTR HT2 hp2
  refine wpIn_loop_rounds 3 ?_
  rw [roundsIn_succ]
  gi_wp2
  refine act_name (fun A0 hA0 => ?_)
  have hID1 : ∀ (pre : List Res) (A B : World), (Lst w6.heap.size w6.heap.size pre A ∧ Below w6.heap.size w6 A ∧ (pre.length : Int) < (m : Int)) → Keep (selC w6.heap.size) A B → (Lst w6.heap.size w6.heap.size pre B ∧ Below w6.heap.size w6 B ∧ (pre.length : Int) < (m : Int)) :=
    fun pre A B h hk => ⟨h.1.keepC hk, h.2.1.trans (hk.below h.2.1.size (fun k _ hk => .inl hk)), h.2.2⟩
  refine wpIn_range_keep (n := 3) rfl (by omega) (gf := 45) (fst := #[]) (lb := #[.pointer (some ⟨c, 0, none⟩)]) (by rw [hA0]; rfl) trivial (enters_of Tryd.func45 (by kernel_rfl) rfl)
    (encs := encR) (fun _ => rfl) (selO w6.heap.size) (selY w6.heap.size) (selC w6.heap.size)
    (fun k o ho => .inr (fun ⟨_, _, e⟩ => by rw [e] at ho; cases ho))
    (fun k o hk ho => by
      rcases ho with ho | ⟨_, _, e⟩ | ⟨_, _, e⟩
      · exact absurd ho (by simp at hk; omega)
      · rw [e]; rfl
      · rw [e]; rfl)
    (fun k o hk ho => by
      rcases ho with ho | ho
      · exact absurd ho (by simp at hk; omega)
      · exact ho.1)
    (fun k o ho => by
      rcases ho with ho | ho
      · exact .inl ho
      · exact .inr ho.2)
    (S := fun ys _ => ys = (frontR s).1) (Sp := fun _ _ => True) (ok := okR s)
    (fun l J Jx W hbW hJ hJx hYl hJ0 => each2_in 2 l c s hs w6 I6.out.tabs J Jx hJ hJx hYl W (((Below.refl _ w6).alloc (Nat.le_refl _) _).trans (hbW.mono (by simp))) ((hbW.block _ (by simp; have := HX6.out.lt; omega)).trans ((Below.heap_alloc _ _ _ HX6.out.lt).trans HX6.out)) hJ0)
    (fun pre W => Lst w6.heap.size w6.heap.size pre W ∧ Below w6.heap.size w6 W ∧ (pre.length : Int) < (m : Int))
    (fun c pre W => c = .exit 2 ∧ Lst w6.heap.size w6.heap.size pre W ∧ Below w6.heap.size w6 W ∧ pre = xs.take (m : Int).toNat ∧ (m : Int) ≤ (pre.length : Int))
    hID1
    (fun c pre A B h hk => ⟨h.1, h.2.1.keepC hk, h.2.2.1.trans (hk.below h.2.2.1.size (fun k _ hk => .inl hk)), h.2.2.2⟩)
    ⟨⟨_, World.alloc_heap_new w6 _, World.ownsRow_nil _ _ _ _, by simp⟩, (Below.refl _ w6).alloc (Nat.le_refl _) _, (by first | (simp; done) | (simp; omega))⟩
    (fun x a' W => ∃ Bx, TokBox W Bx x ∧ a' = { tmps := (A0.tmps.setIfInBounds 39 (tokV x.kind x.text x.wd x.place)).setIfInBounds 11 (.pointer (some ⟨Bx, 0, none⟩)), defers := [] })
    (fun x a' A B h hk => by
      obtain ⟨Bx, h1, h2⟩ := h
      exact ⟨Bx, hk.block _ _ h1 (.inr ⟨rfl, not_ty (by decide)⟩), h2⟩)
    ?assignD1 ?bodyD1 ?doneD1 ?stopD1
  case assignD1 =>
    rintro l pre x W K hi hK
    have HI0 := Lib.hid hi
    have HKK := Lib.hid hK
    obtain ⟨rk, rx, rw0, rp, ra, rr⟩ := x
    clear hi hK
    subst hA0
    simp only [encR, tokV]
    gi_wp2
    exact HKK.out _ _ ((Keep.refl _ W).alloc _) (hID1 _ _ _ HI0.out ((Keep.refl _ W).alloc _)) ⟨W.heap.size, World.alloc_heap_new W _, rfl⟩
  case bodyD1 =>
    rintro l pre x a' W ⟨⟨v, hv, hrow, hnil⟩, hB, hpl⟩ ⟨Bx, hbx, rfl⟩ hok
    have hlen := okR_len hok hs
    have HOK := Lib.hid hok
    have hps : x = x := rfl
    obtain ⟨rk, rx, rw0, rp, ra, rr⟩ := x
    obtain ⟨⟨t0, t1, t2, t3⟩, _⟩ := row4 hbx
    have hc := hv.cell
    have HB5 := Lib.hid hB
    have hst3 := (hB.cell (p := ⟨w.heap.size, 0, none⟩) (by omega)).trans HK6.out.cell
    have hBs : w6.heap.size ≤ W.heap.size := hB.size
    have HBX := Lib.hid hbx
    clear hB hbx hok hps
    subst hA0
    simp only [tokV, List.setIfInBounds_toArray, List.set_cons_succ, List.set_cons_zero]
    by_cases hge : (m : Int) ≤ (pre.length : Int) + 1
    · have hge' : (m : Int) ≤ ((pre.length + 1 : Nat) : Int) := by omega
      gi_wp2_with (gi_at_builtin; refine wpListIn_append_own _ rfl _ _ 24 rfl (w6.heap.size) 38 i0 _ 4 40 Tryd.underlying24 hi hz0 hz1 hz2 rfl (by decide) _ _ _ rfl (hrow.alloc _) ⟨W.heap.size, 0, none⟩ 1 1 [.int .u8 rk, .string rx, .int .i64 rw0, .int .i64 rp] rfl rfl (fun j u hj => cell_four (World.alloc_heap_new W _) j u hj) (by simp [Value.oneCell']) (by simp only [maxLen]; omega) (by omega) (by simp; omega) ?_; intro v' w1 hown' hgrow _; obtain ⟨g', cap', rfl⟩ := ownsRow_succ hown'; obtain ⟨hv1, hv2, hr2, _, hb2⟩ := hv.appended (by decide) hrow hBs (by omega) hown' hgrow; have hc1 := hv1.cell; have hf1 := hv1.frozen; have hc2 := hv2.cell; have hst4 := (hb2.cell (p := ⟨w.heap.size, 0, none⟩) (by omega)).trans hst3)
      refine ⟨appended_keep (sel := selB w6.heap.size) hrow hgrow hv1 (fun g cs hg => notB hg (by decide) (by decide)) (fun cs => notB (by omega) (by decide) (by decide)), rfl, ⟨_, hv2, ?_, ?_⟩, HB5.out.trans hb2, ?_, ?_⟩
      · rw [rowR_snoc, List.length_append]; exact hr2
      · simp
      · exact okR_take HOK.out hxe.out hpl hge
      · simp; omega
    · have hge' : ¬ (m : Int) ≤ ((pre.length + 1 : Nat) : Int) := by omega
      gi_wp2_with (gi_at_builtin; refine wpListIn_append_own _ rfl _ _ 24 rfl (w6.heap.size) 38 i0 _ 4 40 Tryd.underlying24 hi hz0 hz1 hz2 rfl (by decide) _ _ _ rfl (hrow.alloc _) ⟨W.heap.size, 0, none⟩ 1 1 [.int .u8 rk, .string rx, .int .i64 rw0, .int .i64 rp] rfl rfl (fun j u hj => cell_four (World.alloc_heap_new W _) j u hj) (by simp [Value.oneCell']) (by simp only [maxLen]; omega) (by omega) (by simp; omega) ?_; intro v' w1 hown' hgrow _; obtain ⟨g', cap', rfl⟩ := ownsRow_succ hown'; obtain ⟨hv1, hv2, hr2, _, hb2⟩ := hv.appended (by decide) hrow hBs (by omega) hown' hgrow; have hc1 := hv1.cell; have hf1 := hv1.frozen; have hc2 := hv2.cell; have hst4 := (hb2.cell (p := ⟨w.heap.size, 0, none⟩) (by omega)).trans hst3)
      refine ⟨appended_keep (sel := selB w6.heap.size) hrow hgrow hv1 (fun g cs hg => notB hg (by decide) (by decide)) (fun cs => notB (by omega) (by decide) (by decide)), ⟨_, hv2, ?_, ?_⟩, HB5.out.trans hb2, ?_⟩
      · rw [rowR_snoc, List.length_append]; exact hr2
      · simp
      · simp; omega

  case stopD1 =>
    rintro D cc pre W1 W _ _ ⟨_, _, _, hpp, hge⟩ _ _
    have e := congrArg List.length hpp
    rw [List.length_take, ← hnn.out] at e
    omega
  case doneD1 =>
    rintro D1 ys W1 W5 hDD1 hys ⟨⟨v1, hvD1, hrowD1, _⟩, hBD1, _⟩ _ hKD1
    obtain rfl : xs = ys := (hys.trans hxe.out.symm).symm
    clear hys
    have HVD1 := Lib.hid hvD1
    have TRD1 := Lib.hid (tokRow_owns hrowD1)
    have HBD1 := Lib.hid hBD1
    have HMD1 := Lib.hid hKD1
    have hsD1 := hBD1.size
    have cD1 := hvD1.cell
    clear hKD1 hrowD1 hvD1 hBD1
    subst hA0
    gi_wp2_with ((refine ⟨trivial, ?_⟩); gi_at_call 24; refine (callsIn_wide.2 (same_true _ _ _ xs (xs.take m) TRD1.out (HL6.out.keep HBD1.out) (by have e : xs.take m = xs := List.take_of_length_le (by rw [← hnn.out]; omega); rw [e]; exact EqToks.rfl' _ _) (by first | omega | (rw [List.length_take, ← hnn.out]; omega) | (rw [← hnn.out]; omega)))).mono ?_; rintro e w8 ⟨rfl, m1, rfl⟩)
    obtain ⟨W7, hW7⟩ : ∃ W7, W7 = W5.drewN m1 := ⟨_, rfl⟩
    rw [← hW7]
    have B7 : Hid (Below w6.heap.size w6 W7) := by rw [Hid, hW7]; exact HBD1.out.trans ((below_drewN (Below.refl _ W5) m1).mono HBD1.out.size)
    have M1 : Hid (W7.heap[D1]? = some (.deferred (some []))) := by rw [Hid, hW7]; exact HMD1.out
    clear hW7
    have HK7 : Hid (Boxed W7 w.heap.size 3 (.int .i64 (m : Int))) := (B7.out.block _ hb3).trans HK6.out
    have I7 := Lib.hid (I6.out.next B7.out)
    have HX7 : Hid (Boxed W7 c 9 (.string s)) := (B7.out.block _ HX6.out.lt).trans HX6.out
    have HL7 := Lib.hid (HL6.out.keep B7.out)
    have hb37 : w.heap.size < W7.heap.size := HK7.out.lt
    rw [roundsIn_succ]
    gi_wp2
    refine act_name (fun A0 hA0 => ?_)
    have hID2 : ∀ (pre : List Res) (A B : World), (Lst W7.heap.size W7.heap.size pre A ∧ Below W7.heap.size W7 A ∧ (pre.length : Int) < (m : Int)) → Keep (selC W7.heap.size) A B → (Lst W7.heap.size W7.heap.size pre B ∧ Below W7.heap.size W7 B ∧ (pre.length : Int) < (m : Int)) :=
      fun pre A B h hk => ⟨h.1.keepC hk, h.2.1.trans (hk.below h.2.1.size (fun k _ hk => .inl hk)), h.2.2⟩
    refine wpIn_range_keep (n := 3) rfl (by omega) (gf := 45) (fst := #[]) (lb := #[.pointer (some ⟨c, 0, none⟩)]) (by rw [hA0]; rfl) trivial (enters_of Tryd.func45 (by kernel_rfl) rfl)
      (encs := encR) (fun _ => rfl) (selO W7.heap.size) (selY W7.heap.size) (selC W7.heap.size)
      (fun k o ho => .inr (fun ⟨_, _, e⟩ => by rw [e] at ho; cases ho))
      (fun k o hk ho => by
        rcases ho with ho | ⟨_, _, e⟩ | ⟨_, _, e⟩
        · exact absurd ho (by simp at hk; omega)
        · rw [e]; rfl
        · rw [e]; rfl)
      (fun k o hk ho => by
        rcases ho with ho | ho
        · exact absurd ho (by simp at hk; omega)
        · exact ho.1)
      (fun k o ho => by
        rcases ho with ho | ho
        · exact .inl ho
        · exact .inr ho.2)
      (S := fun ys _ => ys = (frontR s).1) (Sp := fun _ _ => True) (ok := okR s)
      (fun l J Jx W hbW hJ hJx hYl hJ0 => each2_in 2 l c s hs W7 I7.out.tabs J Jx hJ hJx hYl W (((Below.refl _ W7).alloc (Nat.le_refl _) _).trans (hbW.mono (by simp))) ((hbW.block _ (by simp; have := HX7.out.lt; omega)).trans ((Below.heap_alloc _ _ _ HX7.out.lt).trans HX7.out)) hJ0)
      (fun pre W => Lst W7.heap.size W7.heap.size pre W ∧ Below W7.heap.size W7 W ∧ (pre.length : Int) < (m : Int))
      (fun c pre W => c = .exit 2 ∧ Lst W7.heap.size W7.heap.size pre W ∧ Below W7.heap.size W7 W ∧ pre = xs.take (m : Int).toNat ∧ (m : Int) ≤ (pre.length : Int))
      hID2
      (fun c pre A B h hk => ⟨h.1, h.2.1.keepC hk, h.2.2.1.trans (hk.below h.2.2.1.size (fun k _ hk => .inl hk)), h.2.2.2⟩)
      ⟨⟨_, World.alloc_heap_new W7 _, World.ownsRow_nil _ _ _ _, by simp⟩, (Below.refl _ W7).alloc (Nat.le_refl _) _, (by first | (simp; done) | (simp; omega))⟩
      (fun x a' W => ∃ Bx, TokBox W Bx x ∧ a' = { tmps := (A0.tmps.setIfInBounds 39 (tokV x.kind x.text x.wd x.place)).setIfInBounds 11 (.pointer (some ⟨Bx, 0, none⟩)), defers := [] })
      (fun x a' A B h hk => by
        obtain ⟨Bx, h1, h2⟩ := h
        exact ⟨Bx, hk.block _ _ h1 (.inr ⟨rfl, not_ty (by decide)⟩), h2⟩)
      ?assignD2 ?bodyD2 ?doneD2 ?stopD2
    case assignD2 =>
      rintro l pre x W K hi hK
      have HI0 := Lib.hid hi
      have HKK := Lib.hid hK
      obtain ⟨rk, rx, rw0, rp, ra, rr⟩ := x
      clear hi hK
      subst hA0
      simp only [encR, tokV]
      gi_wp2
      exact HKK.out _ _ ((Keep.refl _ W).alloc _) (hID2 _ _ _ HI0.out ((Keep.refl _ W).alloc _)) ⟨W.heap.size, World.alloc_heap_new W _, rfl⟩
    case bodyD2 =>
      rintro l pre x a' W ⟨⟨v, hv, hrow, hnil⟩, hB, hpl⟩ ⟨Bx, hbx, rfl⟩ hok
      have hlen := okR_len hok hs
      have HOK := Lib.hid hok
      have hps : x = x := rfl
      obtain ⟨rk, rx, rw0, rp, ra, rr⟩ := x
      obtain ⟨⟨t0, t1, t2, t3⟩, _⟩ := row4 hbx
      have hc := hv.cell
      have HB5 := Lib.hid hB
      have hst3 := (hB.cell (p := ⟨w.heap.size, 0, none⟩) (by omega)).trans HK7.out.cell
      have hBs : W7.heap.size ≤ W.heap.size := hB.size
      have HBX := Lib.hid hbx
      clear hB hbx hok hps
      subst hA0
      simp only [tokV, List.setIfInBounds_toArray, List.set_cons_succ, List.set_cons_zero]
      by_cases hge : (m : Int) ≤ (pre.length : Int) + 1
      · have hge' : (m : Int) ≤ ((pre.length + 1 : Nat) : Int) := by omega
        gi_wp2_with (gi_at_builtin; refine wpListIn_append_own _ rfl _ _ 24 rfl (W7.heap.size) 38 i0 _ 4 40 Tryd.underlying24 hi hz0 hz1 hz2 rfl (by decide) _ _ _ rfl (hrow.alloc _) ⟨W.heap.size, 0, none⟩ 1 1 [.int .u8 rk, .string rx, .int .i64 rw0, .int .i64 rp] rfl rfl (fun j u hj => cell_four (World.alloc_heap_new W _) j u hj) (by simp [Value.oneCell']) (by simp only [maxLen]; omega) (by omega) (by simp; omega) ?_; intro v' w1 hown' hgrow _; obtain ⟨g', cap', rfl⟩ := ownsRow_succ hown'; obtain ⟨hv1, hv2, hr2, _, hb2⟩ := hv.appended (by decide) hrow hBs (by omega) hown' hgrow; have hc1 := hv1.cell; have hf1 := hv1.frozen; have hc2 := hv2.cell; have hst4 := (hb2.cell (p := ⟨w.heap.size, 0, none⟩) (by omega)).trans hst3)
        refine ⟨appended_keep (sel := selB W7.heap.size) hrow hgrow hv1 (fun g cs hg => notB hg (by decide) (by decide)) (fun cs => notB (by omega) (by decide) (by decide)), rfl, ⟨_, hv2, ?_, ?_⟩, HB5.out.trans hb2, ?_, ?_⟩
        · rw [rowR_snoc, List.length_append]; exact hr2
        · simp
        · exact okR_take HOK.out hxe.out hpl hge
        · simp; omega
      · have hge' : ¬ (m : Int) ≤ ((pre.length + 1 : Nat) : Int) := by omega
        gi_wp2_with (gi_at_builtin; refine wpListIn_append_own _ rfl _ _ 24 rfl (W7.heap.size) 38 i0 _ 4 40 Tryd.underlying24 hi hz0 hz1 hz2 rfl (by decide) _ _ _ rfl (hrow.alloc _) ⟨W.heap.size, 0, none⟩ 1 1 [.int .u8 rk, .string rx, .int .i64 rw0, .int .i64 rp] rfl rfl (fun j u hj => cell_four (World.alloc_heap_new W _) j u hj) (by simp [Value.oneCell']) (by simp only [maxLen]; omega) (by omega) (by simp; omega) ?_; intro v' w1 hown' hgrow _; obtain ⟨g', cap', rfl⟩ := ownsRow_succ hown'; obtain ⟨hv1, hv2, hr2, _, hb2⟩ := hv.appended (by decide) hrow hBs (by omega) hown' hgrow; have hc1 := hv1.cell; have hf1 := hv1.frozen; have hc2 := hv2.cell; have hst4 := (hb2.cell (p := ⟨w.heap.size, 0, none⟩) (by omega)).trans hst3)
        refine ⟨appended_keep (sel := selB W7.heap.size) hrow hgrow hv1 (fun g cs hg => notB hg (by decide) (by decide)) (fun cs => notB (by omega) (by decide) (by decide)), ⟨_, hv2, ?_, ?_⟩, HB5.out.trans hb2, ?_⟩
        · rw [rowR_snoc, List.length_append]; exact hr2
        · simp
        · simp; omega

    case stopD2 =>
      rintro D cc pre W1 W _ _ ⟨_, _, _, hpp, hge⟩ _ _
      have e := congrArg List.length hpp
      rw [List.length_take, ← hnn.out] at e
      omega
    case doneD2 =>
      rintro D2 ys W1 W9 hDD2 hys ⟨⟨v2, hvD2, hrowD2, _⟩, hBD2, _⟩ _ hKD2
      obtain rfl : xs = ys := (hys.trans hxe.out.symm).symm
      clear hys
      have HVD2 := Lib.hid hvD2
      have TRD2 := Lib.hid (tokRow_owns hrowD2)
      have HBD2 := Lib.hid hBD2
      have HMD2 := Lib.hid hKD2
      have hsD2 := hBD2.size
      have cD2 := hvD2.cell
      clear hKD2 hrowD2 hvD2 hBD2
      subst hA0
      gi_wp2_with ((refine ⟨trivial, ?_⟩); gi_at_call 24; refine (callsIn_wide.2 (same_true _ _ _ xs (xs.take m) TRD2.out (HL7.out.keep HBD2.out) (by have e : xs.take m = xs := List.take_of_length_le (by rw [← hnn.out]; omega); rw [e]; exact EqToks.rfl' _ _) (by first | omega | (rw [List.length_take, ← hnn.out]; omega) | (rw [← hnn.out]; omega)))).mono ?_; rintro e w8 ⟨rfl, m2, rfl⟩)
      rw [roundsIn_succ]
      gi_wp2
      have z5 := I7.out.below.size
      have hDD : D1 < W7.heap.size := (Array.getElem?_eq_some_iff.1 M1.out).1
      have zw6 := I6.out.below.size
      have e2 : (W9.drewN m2).heap[D2]? = some (.deferred (some [])) := HMD2.out
      have e1 : ((W9.drewN m2).putObj D2 (.deferred none)).heap[D1]? = some (.deferred (some [])) := (World.putObj_heap_other (by simp at hDD2; omega)).trans ((HBD2.out.block _ hDD).trans M1.out)
      have kF : Keep (fun k o => k < w.heap.size) (W9.drewN m2) (((W9.drewN m2).putObj D2 (.deferred none)).putObj D1 (.deferred none)) :=
        ((Keep.refl _ _).putObj _ e2 (by simp at hDD2; omega)).putObj _ e1 (by simp at hDD1; omega)
      have I9 : LInv w (((W9.drewN m2).putObj D2 (.deferred none)).putObj D1 (.deferred none)) :=
        LInv.make HT.out ((I7.out.next HBD2.out).below.trans ((below_drewN (Below.refl _ W9) m2).mono (I7.out.next HBD2.out).below.size |>.trans (kF.below (I7.out.next HBD2.out).below.size (fun k o hk => hk))))
      refine ⟨by simp, .inl ⟨_, _, rfl, run_takeDeferred e2, ⟨by simp, .inl ⟨_, _, rfl, run_takeDeferred e1, ?_⟩⟩⟩⟩
      exact ⟨.bool true, by simp [results, Tryd.results5, go_sem], rfl, I9⟩
set_option maxRecDepth 100000 in
set_option maxHeartbeats 16000000 in
theorem each_loweq (s : ByteArray) (hs : s.size ≤ 65536) (k : Int) (hk : k < 1) (hn : 1 = (frontR s).1.length) (w : World) (T : LTabs w) :
    Calls Tryd.prog 5 #[.string s, .int .i64 k] w fun e w' => e = .returned (.bool true) ∧ LInv w w' := by
  have hxs := front_len s
  have hl' : ¬ (65536 : Int) < (s.size : Int) := by omega
  obtain ⟨w0, hw0⟩ : ∃ w0, w0 = w.alloc (.cells #[.int .i64 k] 3) := ⟨_, rfl⟩
  have hbw : Below w.heap.size w w0 := by rw [hw0]; exact (Below.refl _ w).alloc (Nat.le_refl _) _
  have T0 : LTabs w0 := T.below (Nat.le_refl _) hbw
  have hlt0 : w.heap.size < w0.heap.size := by rw [hw0]; simp
  have hk0 : w0.heap[w.heap.size]? = some (.cells #[.int .i64 k] 3 (0, 0)) := by rw [hw0]; exact World.alloc_heap_new w _
  have HB := Lib.hid (begins_i (LInv.start T0))
  obtain ⟨xs, hxe⟩ : ∃ xs, Hid (xs = (frontR s).1) := ⟨_, rfl⟩
  rw [← hxe.out] at hxs hn
  have HF : Hid (∀ W, Calls Tryd.prog 25 #[.string s] W fun e w' => ∃ oa cap, e = .returned (.tuple #[.slice oa xs.length cap, .int .i64 (frontR s).2.2, .int .i64 (frontR s).2.1]) ∧ w'.ownsRow W.heap.size 38 4 (.slice oa xs.length cap) xs.length (rowR xs) ∧ xs.length ≤ cap ∧ (0 < xs.length → ∃ g, oa = some ⟨g, 0, none⟩) ∧ Below W.heap.size W w') := fun W => by
    refine (front_any s (by omega) W).mono ?_
    rintro e w' ⟨⟨v, rfl, h1, h2⟩, hb⟩
    rw [← hxe.out] at h1 h2
    have t := tokRow_owns h1
    obtain ⟨oa, cap, rfl, _⟩ := id t
    refine ⟨oa, cap, rfl, h1, ?_, ?_, hb⟩
    · rcases h1.2 with ⟨hv, h0⟩ | ⟨g, cap', cur, hv, _, _, hle, _⟩
      · omega
      · cases hv; exact hle
    · intro hp
      rcases h1.2 with ⟨hv, h0⟩ | ⟨g, cap', cur, hv, _, _, hle, _⟩
      · omega
      · cases hv; exact ⟨g, rfl⟩
  generalize (frontR s).2.1 = fa at HF
  generalize (frontR s).2.2 = fr at HF
  obtain ⟨n, hnn⟩ : ∃ n, Hid (n = xs.length) := ⟨_, rfl⟩
  rw [← hnn.out] at HF hn hxs
  have HBW := Lib.hid hbw
  have HK0 := Lib.hid hk0
  have HW0 := Lib.hid hw0
  have HT := Lib.hid T
  obtain ⟨i0, hi, hz0, hz1, hz2⟩ := info_parts infoTok
  clear T T0 hbw hk0 hw0
  have hnA : 1 ≤ n := Nat.le_of_eq hn
  have hnB : n ≤ 1 := Nat.le_of_eq hn.symm
  clear hn
  have hk' : decide (k < 1) = true := by simpa using hk
  have hmn : decide ((1 : Int) < (n : Int)) = false := by simp; omega
  have hmn' : ¬ (1 : Int) < (n : Int) := by omega
  refine (callsIn_wide (n := 3)).1 ?_
  refine callsIn_of_wp_marks Tryd.func5 rfl trivial ?_ rfl
  simp only [Tryd.ntmps5, List.size_toArray, List.length_cons, List.length_nil, Nat.reduceAdd, Nat.reduceSub, Array.replicate_succ, Array.replicate_zero, List.push_toArray, List.append_toArray, List.nil_append, List.cons_append]
  gi_wp2_with (first
    | (with_reducible rw [← HW0.out])
    | ((refine ⟨trivial, ?_⟩); gi_at_call 21; refine (callsIn_wide.2 HB.out).mono ?_; rintro e w1 ⟨rfl, hI⟩; have HI := Lib.hid hI; clear hI)
    | ((refine ⟨trivial, ?_⟩); gi_at_call 25; refine (callsIn_wide.2 (HF.out _)).mono ?_; rintro e w2 ⟨oa, cap, rfl, htr, hcap, hoa, hb2⟩; have HI2 := Lib.hid (HI.out.next hb2); have HTR := Lib.hid htr; have hz22 := HI2.out.below.size; have HK2 : Hid (Boxed w2 w.heap.size 3 (.int .i64 k)) := (HI2.out.below.block _ hlt0).trans HK0.out; have k1 := HK2.out.cell; have k2 := HK2.out.frozen; have hz11 := HI.out.below.size; clear hb2 htr; obtain ⟨go, rfl⟩ := hoa (by omega))
    | ((refine ⟨trivial, ?_⟩); gi_at_call 26; refine (callsIn_wide.2 (each_any s hs _)).mono ?_; rintro e w6 ⟨c, rfl, hcc, hbx, hb6⟩))
  have hp2 : (w2.setCell ⟨w.heap.size, 0, none⟩ (.int .i64 1)).heap.size = w2.heap.size := by simp
  have HK6 : Hid (Boxed w6 w.heap.size 3 (.int .i64 (1 : Int))) := (hb6.block _ (by rw [hp2]; omega)).trans (one_setCell HK2.out)
  have I6 : Hid (LInv w w6) := LInv.make HT.out (((HBW.out.trans (HI2.out.below.mono HBW.out.size)).setCell (p := ⟨w.heap.size, 0, none⟩) (Nat.le_refl _) (.int .i64 1)).trans (hb6.mono (by rw [hp2]; omega)))
  have HX6 := Lib.hid hbx
  have HT2 : Hid (TokRow (w2.setCell ⟨w.heap.size, 0, none⟩ (.int .i64 1)) (.slice (some ⟨go, 0, none⟩) n cap) xs) := by
    have k := (ownsRow_setCell_below (a := ⟨w.heap.size, 0, none⟩) HTR.out (by show w.heap.size < w1.heap.size; omega) (.int .i64 1))
    rw [Hid]; rw [hnn.out] at k ⊢; exact tokRow_owns k
  have HL6 : Hid (TokRow w6 (.slice (some ⟨go, 0, none⟩) n cap) (xs.take 1)) := by
    rw [Hid, List.take_of_length_le (by rw [← hnn.out]; omega)]; exact HT2.out.keep hb6
  have hb3 : w.heap.size < w6.heap.size := HK6.out.lt
  clear hb6 hbx hcc HTR HT2 hp2
  refine wpIn_loop_rounds 3 ?_
  rw [roundsIn_succ]
  gi_wp2
  refine act_name (fun A0 hA0 => ?_)
  have hID1 : ∀ (pre : List Res) (A B : World), (Lst w6.heap.size w6.heap.size pre A ∧ Below w6.heap.size w6 A ∧ (pre.length : Int) < (1 : Int)) → Keep (selC w6.heap.size) A B → (Lst w6.heap.size w6.heap.size pre B ∧ Below w6.heap.size w6 B ∧ (pre.length : Int) < (1 : Int)) :=
    fun pre A B h hk => ⟨h.1.keepC hk, h.2.1.trans (hk.below h.2.1.size (fun k _ hk => .inl hk)), h.2.2⟩
  refine wpIn_range_keep (n := 3) rfl (by omega) (gf := 45) (fst := #[]) (lb := #[.pointer (some ⟨c, 0, none⟩)]) (by rw [hA0]; rfl) trivial (enters_of Tryd.func45 (by kernel_rfl) rfl)
    (encs := encR) (fun _ => rfl) (selO w6.heap.size) (selY w6.heap.size) (selC w6.heap.size)
    (fun k o ho => .inr (fun ⟨_, _, e⟩ => by rw [e] at ho; cases ho))
    (fun k o hk ho => by
      rcases ho with ho | ⟨_, _, e⟩ | ⟨_, _, e⟩
      · exact absurd ho (by simp at hk; omega)
      · rw [e]; rfl
      · rw [e]; rfl)
    (fun k o hk ho => by
      rcases ho with ho | ho
      · exact absurd ho (by simp at hk; omega)
      · exact ho.1)
    (fun k o ho => by
      rcases ho with ho | ho
      · exact .inl ho
      · exact .inr ho.2)
    (S := fun ys _ => ys = (frontR s).1) (Sp := fun _ _ => True) (ok := okR s)
    (fun l J Jx W hbW hJ hJx hYl hJ0 => each2_in 2 l c s hs w6 I6.out.tabs J Jx hJ hJx hYl W (((Below.refl _ w6).alloc (Nat.le_refl _) _).trans (hbW.mono (by simp))) ((hbW.block _ (by simp; have := HX6.out.lt; omega)).trans ((Below.heap_alloc _ _ _ HX6.out.lt).trans HX6.out)) hJ0)
    (fun pre W => Lst w6.heap.size w6.heap.size pre W ∧ Below w6.heap.size w6 W ∧ (pre.length : Int) < (1 : Int))
    (fun c pre W => c = .exit 2 ∧ Lst w6.heap.size w6.heap.size pre W ∧ Below w6.heap.size w6 W ∧ pre = xs.take (1 : Int).toNat ∧ (1 : Int) ≤ (pre.length : Int))
    hID1
    (fun c pre A B h hk => ⟨h.1, h.2.1.keepC hk, h.2.2.1.trans (hk.below h.2.2.1.size (fun k _ hk => .inl hk)), h.2.2.2⟩)
    ⟨⟨_, World.alloc_heap_new w6 _, World.ownsRow_nil _ _ _ _, by simp⟩, (Below.refl _ w6).alloc (Nat.le_refl _) _, (by first | (simp; done) | (simp; omega))⟩
    (fun x a' W => ∃ Bx, TokBox W Bx x ∧ a' = { tmps := (A0.tmps.setIfInBounds 39 (tokV x.kind x.text x.wd x.place)).setIfInBounds 11 (.pointer (some ⟨Bx, 0, none⟩)), defers := [] })
    (fun x a' A B h hk => by
      obtain ⟨Bx, h1, h2⟩ := h
      exact ⟨Bx, hk.block _ _ h1 (.inr ⟨rfl, not_ty (by decide)⟩), h2⟩)
    ?assignD1 ?bodyD1 ?doneD1 ?stopD1
  case assignD1 =>
    rintro l pre x W K hi hK
    have HI0 := Lib.hid hi
    have HKK := Lib.hid hK
    obtain ⟨rk, rx, rw0, rp, ra, rr⟩ := x
    clear hi hK
    subst hA0
    simp only [encR, tokV]
    gi_wp2
    exact HKK.out _ _ ((Keep.refl _ W).alloc _) (hID1 _ _ _ HI0.out ((Keep.refl _ W).alloc _)) ⟨W.heap.size, World.alloc_heap_new W _, rfl⟩
  case bodyD1 =>
    rintro l pre x a' W ⟨⟨v, hv, hrow, hnil⟩, hB, hpl⟩ ⟨Bx, hbx, rfl⟩ hok
    have hlen := okR_len hok hs
    have HOK := Lib.hid hok
    have hps : x = x := rfl
    obtain ⟨rk, rx, rw0, rp, ra, rr⟩ := x
    obtain ⟨⟨t0, t1, t2, t3⟩, _⟩ := row4 hbx
    have hc := hv.cell
    have HB5 := Lib.hid hB
    have hst3 := (hB.cell (p := ⟨w.heap.size, 0, none⟩) (by omega)).trans HK6.out.cell
    have hBs : w6.heap.size ≤ W.heap.size := hB.size
    have HBX := Lib.hid hbx
    clear hB hbx hok hps
    subst hA0
    simp only [tokV, List.setIfInBounds_toArray, List.set_cons_succ, List.set_cons_zero]
    by_cases hge : (1 : Int) ≤ (pre.length : Int) + 1
    · have hge' : (1 : Int) ≤ ((pre.length + 1 : Nat) : Int) := by omega
      gi_wp2_with (gi_at_builtin; refine wpListIn_append_own _ rfl _ _ 24 rfl (w6.heap.size) 38 i0 _ 4 40 Tryd.underlying24 hi hz0 hz1 hz2 rfl (by decide) _ _ _ rfl (hrow.alloc _) ⟨W.heap.size, 0, none⟩ 1 1 [.int .u8 rk, .string rx, .int .i64 rw0, .int .i64 rp] rfl rfl (fun j u hj => cell_four (World.alloc_heap_new W _) j u hj) (by simp [Value.oneCell']) (by simp only [maxLen]; omega) (by omega) (by simp; omega) ?_; intro v' w1 hown' hgrow _; obtain ⟨g', cap', rfl⟩ := ownsRow_succ hown'; obtain ⟨hv1, hv2, hr2, _, hb2⟩ := hv.appended (by decide) hrow hBs (by omega) hown' hgrow; have hc1 := hv1.cell; have hf1 := hv1.frozen; have hc2 := hv2.cell; have hst4 := (hb2.cell (p := ⟨w.heap.size, 0, none⟩) (by omega)).trans hst3)
      refine ⟨appended_keep (sel := selB w6.heap.size) hrow hgrow hv1 (fun g cs hg => notB hg (by decide) (by decide)) (fun cs => notB (by omega) (by decide) (by decide)), rfl, ⟨_, hv2, ?_, ?_⟩, HB5.out.trans hb2, ?_, ?_⟩
      · rw [rowR_snoc, List.length_append]; exact hr2
      · simp
      · exact okR_take HOK.out hxe.out hpl hge
      · simp; omega
    · exact absurd (by omega) hge

  case doneD1 =>
    rintro D ys W1 W _ hys ⟨_, _, hlt⟩ _ _
    have e : ys = xs := hys.trans hxe.out.symm
    rw [e, ← hnn.out] at hlt
    omega
  case stopD1 =>
    rintro D1 cc pre W1 W5 hDD1 _ ⟨rfl, ⟨v1, hvD1, hrowD1, _⟩, hBD1, hpp, _⟩ _ hKD1
    subst hpp
    have HVD1 := Lib.hid hvD1
    have TRD1 := Lib.hid (tokRow_owns hrowD1)
    have HBD1 := Lib.hid hBD1
    have HMD1 := Lib.hid hKD1
    have hsD1 := hBD1.size
    have cD1 := hvD1.cell
    clear hKD1 hrowD1 hvD1 hBD1
    subst hA0
    gi_wp2_with ((refine ⟨trivial, ?_⟩); gi_at_call 24; refine (callsIn_wide.2 (same_true _ _ _ (xs.take (1 : Int).toNat) (xs.take 1) TRD1.out (HL6.out.keep HBD1.out) (EqToks.rfl' _ _) (by first | omega | (rw [List.length_take, ← hnn.out]; omega) | (rw [← hnn.out]; omega)))).mono ?_; rintro e w8 ⟨rfl, m1, rfl⟩)
    obtain ⟨W7, hW7⟩ : ∃ W7, W7 = W5.drewN m1 := ⟨_, rfl⟩
    rw [← hW7]
    have B7 : Hid (Below w6.heap.size w6 W7) := by rw [Hid, hW7]; exact HBD1.out.trans ((below_drewN (Below.refl _ W5) m1).mono HBD1.out.size)
    have M1 : Hid (W7.heap[D1]? = some (.deferred (some []))) := by rw [Hid, hW7]; exact HMD1.out
    clear hW7
    have HK7 : Hid (Boxed W7 w.heap.size 3 (.int .i64 (1 : Int))) := (B7.out.block _ hb3).trans HK6.out
    have I7 := Lib.hid (I6.out.next B7.out)
    have HX7 : Hid (Boxed W7 c 9 (.string s)) := (B7.out.block _ HX6.out.lt).trans HX6.out
    have HL7 := Lib.hid (HL6.out.keep B7.out)
    have hb37 : w.heap.size < W7.heap.size := HK7.out.lt
    rw [roundsIn_succ]
    gi_wp2
    refine act_name (fun A0 hA0 => ?_)
    have hID2 : ∀ (pre : List Res) (A B : World), (Lst W7.heap.size W7.heap.size pre A ∧ Below W7.heap.size W7 A ∧ (pre.length : Int) < (1 : Int)) → Keep (selC W7.heap.size) A B → (Lst W7.heap.size W7.heap.size pre B ∧ Below W7.heap.size W7 B ∧ (pre.length : Int) < (1 : Int)) :=
      fun pre A B h hk => ⟨h.1.keepC hk, h.2.1.trans (hk.below h.2.1.size (fun k _ hk => .inl hk)), h.2.2⟩
    refine wpIn_range_keep (n := 3) rfl (by omega) (gf := 45) (fst := #[]) (lb := #[.pointer (some ⟨c, 0, none⟩)]) (by rw [hA0]; rfl) trivial (enters_of Tryd.func45 (by kernel_rfl) rfl)
      (encs := encR) (fun _ => rfl) (selO W7.heap.size) (selY W7.heap.size) (selC W7.heap.size)
      (fun k o ho => .inr (fun ⟨_, _, e⟩ => by rw [e] at ho; cases ho))
      (fun k o hk ho => by
        rcases ho with ho | ⟨_, _, e⟩ | ⟨_, _, e⟩
        · exact absurd ho (by simp at hk; omega)
        · rw [e]; rfl
        · rw [e]; rfl)
      (fun k o hk ho => by
        rcases ho with ho | ho
        · exact absurd ho (by simp at hk; omega)
        · exact ho.1)
      (fun k o ho => by
        rcases ho with ho | ho
        · exact .inl ho
        · exact .inr ho.2)
      (S := fun ys _ => ys = (frontR s).1) (Sp := fun _ _ => True) (ok := okR s)
      (fun l J Jx W hbW hJ hJx hYl hJ0 => each2_in 2 l c s hs W7 I7.out.tabs J Jx hJ hJx hYl W (((Below.refl _ W7).alloc (Nat.le_refl _) _).trans (hbW.mono (by simp))) ((hbW.block _ (by simp; have := HX7.out.lt; omega)).trans ((Below.heap_alloc _ _ _ HX7.out.lt).trans HX7.out)) hJ0)
      (fun pre W => Lst W7.heap.size W7.heap.size pre W ∧ Below W7.heap.size W7 W ∧ (pre.length : Int) < (1 : Int))
      (fun c pre W => c = .exit 2 ∧ Lst W7.heap.size W7.heap.size pre W ∧ Below W7.heap.size W7 W ∧ pre = xs.take (1 : Int).toNat ∧ (1 : Int) ≤ (pre.length : Int))
      hID2
      (fun c pre A B h hk => ⟨h.1, h.2.1.keepC hk, h.2.2.1.trans (hk.below h.2.2.1.size (fun k _ hk => .inl hk)), h.2.2.2⟩)
      ⟨⟨_, World.alloc_heap_new W7 _, World.ownsRow_nil _ _ _ _, by simp⟩, (Below.refl _ W7).alloc (Nat.le_refl _) _, (by first | (simp; done) | (simp; omega))⟩
      (fun x a' W => ∃ Bx, TokBox W Bx x ∧ a' = { tmps := (A0.tmps.setIfInBounds 39 (tokV x.kind x.text x.wd x.place)).setIfInBounds 11 (.pointer (some ⟨Bx, 0, none⟩)), defers := [] })
      (fun x a' A B h hk => by
        obtain ⟨Bx, h1, h2⟩ := h
        exact ⟨Bx, hk.block _ _ h1 (.inr ⟨rfl, not_ty (by decide)⟩), h2⟩)
      ?assignD2 ?bodyD2 ?doneD2 ?stopD2
    case assignD2 =>
      rintro l pre x W K hi hK
      have HI0 := Lib.hid hi
      have HKK := Lib.hid hK
      obtain ⟨rk, rx, rw0, rp, ra, rr⟩ := x
      clear hi hK
      subst hA0
      simp only [encR, tokV]
      gi_wp2
      exact HKK.out _ _ ((Keep.refl _ W).alloc _) (hID2 _ _ _ HI0.out ((Keep.refl _ W).alloc _)) ⟨W.heap.size, World.alloc_heap_new W _, rfl⟩
    case bodyD2 =>
      rintro l pre x a' W ⟨⟨v, hv, hrow, hnil⟩, hB, hpl⟩ ⟨Bx, hbx, rfl⟩ hok
      have hlen := okR_len hok hs
      have HOK := Lib.hid hok
      have hps : x = x := rfl
      obtain ⟨rk, rx, rw0, rp, ra, rr⟩ := x
      obtain ⟨⟨t0, t1, t2, t3⟩, _⟩ := row4 hbx
      have hc := hv.cell
      have HB5 := Lib.hid hB
      have hst3 := (hB.cell (p := ⟨w.heap.size, 0, none⟩) (by omega)).trans HK7.out.cell
      have hBs : W7.heap.size ≤ W.heap.size := hB.size
      have HBX := Lib.hid hbx
      clear hB hbx hok hps
      subst hA0
      simp only [tokV, List.setIfInBounds_toArray, List.set_cons_succ, List.set_cons_zero]
      by_cases hge : (1 : Int) ≤ (pre.length : Int) + 1
      · have hge' : (1 : Int) ≤ ((pre.length + 1 : Nat) : Int) := by omega
        gi_wp2_with (gi_at_builtin; refine wpListIn_append_own _ rfl _ _ 24 rfl (W7.heap.size) 38 i0 _ 4 40 Tryd.underlying24 hi hz0 hz1 hz2 rfl (by decide) _ _ _ rfl (hrow.alloc _) ⟨W.heap.size, 0, none⟩ 1 1 [.int .u8 rk, .string rx, .int .i64 rw0, .int .i64 rp] rfl rfl (fun j u hj => cell_four (World.alloc_heap_new W _) j u hj) (by simp [Value.oneCell']) (by simp only [maxLen]; omega) (by omega) (by simp; omega) ?_; intro v' w1 hown' hgrow _; obtain ⟨g', cap', rfl⟩ := ownsRow_succ hown'; obtain ⟨hv1, hv2, hr2, _, hb2⟩ := hv.appended (by decide) hrow hBs (by omega) hown' hgrow; have hc1 := hv1.cell; have hf1 := hv1.frozen; have hc2 := hv2.cell; have hst4 := (hb2.cell (p := ⟨w.heap.size, 0, none⟩) (by omega)).trans hst3)
        refine ⟨appended_keep (sel := selB W7.heap.size) hrow hgrow hv1 (fun g cs hg => notB hg (by decide) (by decide)) (fun cs => notB (by omega) (by decide) (by decide)), rfl, ⟨_, hv2, ?_, ?_⟩, HB5.out.trans hb2, ?_, ?_⟩
        · rw [rowR_snoc, List.length_append]; exact hr2
        · simp
        · exact okR_take HOK.out hxe.out hpl hge
        · simp; omega
      · exact absurd (by omega) hge

    case doneD2 =>
      rintro D ys W1 W _ hys ⟨_, _, hlt⟩ _ _
      have e : ys = xs := hys.trans hxe.out.symm
      rw [e, ← hnn.out] at hlt
      omega
    case stopD2 =>
      rintro D2 cc pre W1 W9 hDD2 _ ⟨rfl, ⟨v2, hvD2, hrowD2, _⟩, hBD2, hpp, _⟩ _ hKD2
      subst hpp
      have HVD2 := Lib.hid hvD2
      have TRD2 := Lib.hid (tokRow_owns hrowD2)
      have HBD2 := Lib.hid hBD2
      have HMD2 := Lib.hid hKD2
      have hsD2 := hBD2.size
      have cD2 := hvD2.cell
      clear hKD2 hrowD2 hvD2 hBD2
      subst hA0
      gi_wp2_with ((refine ⟨trivial, ?_⟩); gi_at_call 24; refine (callsIn_wide.2 (same_true _ _ _ (xs.take (1 : Int).toNat) (xs.take 1) TRD2.out (HL7.out.keep HBD2.out) (EqToks.rfl' _ _) (by first | omega | (rw [List.length_take, ← hnn.out]; omega) | (rw [← hnn.out]; omega)))).mono ?_; rintro e w8 ⟨rfl, m2, rfl⟩)
      rw [roundsIn_succ]
      gi_wp2
      have z5 := I7.out.below.size
      have hDD : D1 < W7.heap.size := (Array.getElem?_eq_some_iff.1 M1.out).1
      have zw6 := I6.out.below.size
      have e2 : (W9.drewN m2).heap[D2]? = some (.deferred (some [])) := HMD2.out
      have e1 : ((W9.drewN m2).putObj D2 (.deferred none)).heap[D1]? = some (.deferred (some [])) := (World.putObj_heap_other (by simp at hDD2; omega)).trans ((HBD2.out.block _ hDD).trans M1.out)
      have kF : Keep (fun k o => k < w.heap.size) (W9.drewN m2) (((W9.drewN m2).putObj D2 (.deferred none)).putObj D1 (.deferred none)) :=
        ((Keep.refl _ _).putObj _ e2 (by simp at hDD2; omega)).putObj _ e1 (by simp at hDD1; omega)
      have I9 : LInv w (((W9.drewN m2).putObj D2 (.deferred none)).putObj D1 (.deferred none)) :=
        LInv.make HT.out ((I7.out.next HBD2.out).below.trans ((below_drewN (Below.refl _ W9) m2).mono (I7.out.next HBD2.out).below.size |>.trans (kF.below (I7.out.next HBD2.out).below.size (fun k o hk => hk))))
      refine ⟨by simp, .inl ⟨_, _, rfl, run_takeDeferred e2, ⟨by simp, .inl ⟨_, _, rfl, run_takeDeferred e1, ?_⟩⟩⟩⟩
      exact ⟨.bool true, by simp [results, Tryd.results5, go_sem], rfl, I9⟩
set_option maxRecDepth 100000 in
set_option maxHeartbeats 16000000 in
theorem each_lowgt (s : ByteArray) (hs : s.size ≤ 65536) (k : Int) (hk : k < 1) (hn : (frontR s).1.length < 1) (w : World) (T : LTabs w) :
    Calls Tryd.prog 5 #[.string s, .int .i64 k] w fun e w' => e = .returned (.bool true) ∧ LInv w w' := by
  have hxs := front_len s
  have hl' : ¬ (65536 : Int) < (s.size : Int) := by omega
  obtain ⟨w0, hw0⟩ : ∃ w0, w0 = w.alloc (.cells #[.int .i64 k] 3) := ⟨_, rfl⟩
  have hbw : Below w.heap.size w w0 := by rw [hw0]; exact (Below.refl _ w).alloc (Nat.le_refl _) _
  have T0 : LTabs w0 := T.below (Nat.le_refl _) hbw
  have hlt0 : w.heap.size < w0.heap.size := by rw [hw0]; simp
  have hk0 : w0.heap[w.heap.size]? = some (.cells #[.int .i64 k] 3 (0, 0)) := by rw [hw0]; exact World.alloc_heap_new w _
  have HB := Lib.hid (begins_i (LInv.start T0))
  obtain ⟨xs, hxe⟩ : ∃ xs, Hid (xs = (frontR s).1) := ⟨_, rfl⟩
  rw [← hxe.out] at hxs hn
  have HF : Hid (∀ W, Calls Tryd.prog 25 #[.string s] W fun e w' => ∃ oa cap, e = .returned (.tuple #[.slice oa xs.length cap, .int .i64 (frontR s).2.2, .int .i64 (frontR s).2.1]) ∧ w'.ownsRow W.heap.size 38 4 (.slice oa xs.length cap) xs.length (rowR xs) ∧ xs.length ≤ cap ∧ (0 < xs.length → ∃ g, oa = some ⟨g, 0, none⟩) ∧ Below W.heap.size W w') := fun W => by
    refine (front_any s (by omega) W).mono ?_
    rintro e w' ⟨⟨v, rfl, h1, h2⟩, hb⟩
    rw [← hxe.out] at h1 h2
    have t := tokRow_owns h1
    obtain ⟨oa, cap, rfl, _⟩ := id t
    refine ⟨oa, cap, rfl, h1, ?_, ?_, hb⟩
    · rcases h1.2 with ⟨hv, h0⟩ | ⟨g, cap', cur, hv, _, _, hle, _⟩
      · omega
      · cases hv; exact hle
    · intro hp
      rcases h1.2 with ⟨hv, h0⟩ | ⟨g, cap', cur, hv, _, _, hle, _⟩
      · omega
      · cases hv; exact ⟨g, rfl⟩
  generalize (frontR s).2.1 = fa at HF
  generalize (frontR s).2.2 = fr at HF
  obtain ⟨n, hnn⟩ : ∃ n, Hid (n = xs.length) := ⟨_, rfl⟩
  rw [← hnn.out] at HF hn hxs
  have HBW := Lib.hid hbw
  have HK0 := Lib.hid hk0
  have HW0 := Lib.hid hw0
  have HT := Lib.hid T
  obtain ⟨i0, hi, hz0, hz1, hz2⟩ := info_parts infoTok
  clear T T0 hbw hk0 hw0
  have hk' : decide (k < 1) = true := by simpa using hk
  have hmn : decide ((1 : Int) < (n : Int)) = false := by simp; omega
  have hmn' : ¬ (1 : Int) < (n : Int) := by omega
  refine (callsIn_wide (n := 3)).1 ?_
  refine callsIn_of_wp_marks Tryd.func5 rfl trivial ?_ rfl
  simp only [Tryd.ntmps5, List.size_toArray, List.length_cons, List.length_nil, Nat.reduceAdd, Nat.reduceSub, Array.replicate_succ, Array.replicate_zero, List.push_toArray, List.append_toArray, List.nil_append, List.cons_append]
  gi_wp2_with (first
    | (with_reducible rw [← HW0.out])
    | ((refine ⟨trivial, ?_⟩); gi_at_call 21; refine (callsIn_wide.2 HB.out).mono ?_; rintro e w1 ⟨rfl, hI⟩; have HI := Lib.hid hI; clear hI)
    | ((refine ⟨trivial, ?_⟩); gi_at_call 25; refine (callsIn_wide.2 (HF.out _)).mono ?_; rintro e w2 ⟨oa, cap, rfl, htr, hcap, hoa, hb2⟩; have HI2 := Lib.hid (HI.out.next hb2); have HTR := Lib.hid htr; have hz22 := HI2.out.below.size; have HK2 : Hid (Boxed w2 w.heap.size 3 (.int .i64 k)) := (HI2.out.below.block _ hlt0).trans HK0.out; have k1 := HK2.out.cell; have k2 := HK2.out.frozen; have hz11 := HI.out.below.size; clear hb2 htr; skip)
    | ((refine ⟨trivial, ?_⟩); gi_at_call 26; refine (callsIn_wide.2 (each_any s hs _)).mono ?_; rintro e w6 ⟨c, rfl, hcc, hbx, hb6⟩))
  have hp2 : (w2.setCell ⟨w.heap.size, 0, none⟩ (.int .i64 1)).heap.size = w2.heap.size := by simp
  have HK6 : Hid (Boxed w6 w.heap.size 3 (.int .i64 (1 : Int))) := (hb6.block _ (by rw [hp2]; omega)).trans (one_setCell HK2.out)
  have I6 : Hid (LInv w w6) := LInv.make HT.out (((HBW.out.trans (HI2.out.below.mono HBW.out.size)).setCell (p := ⟨w.heap.size, 0, none⟩) (Nat.le_refl _) (.int .i64 1)).trans (hb6.mono (by rw [hp2]; omega)))
  have HX6 := Lib.hid hbx
  have HT2 : Hid (TokRow (w2.setCell ⟨w.heap.size, 0, none⟩ (.int .i64 1)) (.slice oa n cap) xs) := by
    have k := (ownsRow_setCell_below (a := ⟨w.heap.size, 0, none⟩) HTR.out (by show w.heap.size < w1.heap.size; omega) (.int .i64 1))
    rw [Hid]; rw [hnn.out] at k ⊢; exact tokRow_owns k
  have HL6 : Hid (TokRow w6 (.slice oa n cap) (xs.take 1)) := by
    rw [Hid, List.take_of_length_le (by rw [← hnn.out]; omega)]; exact HT2.out.keep hb6
  have hb3 : w.heap.size < w6.heap.size := HK6.out.lt
  clear hb6 hbx hcc HTR HT2 hp2
  refine wpIn_loop_rounds 3 ?_
  rw [roundsIn_succ]
  gi_wp2
  refine act_name (fun A0 hA0 => ?_)
  have hID1 : ∀ (pre : List Res) (A B : World), (Lst w6.heap.size w6.heap.size pre A ∧ Below w6.heap.size w6 A ∧ (pre.length : Int) < (1 : Int)) → Keep (selC w6.heap.size) A B → (Lst w6.heap.size w6.heap.size pre B ∧ Below w6.heap.size w6 B ∧ (pre.length : Int) < (1 : Int)) :=
    fun pre A B h hk => ⟨h.1.keepC hk, h.2.1.trans (hk.below h.2.1.size (fun k _ hk => .inl hk)), h.2.2⟩
  refine wpIn_range_keep (n := 3) rfl (by omega) (gf := 45) (fst := #[]) (lb := #[.pointer (some ⟨c, 0, none⟩)]) (by rw [hA0]; rfl) trivial (enters_of Tryd.func45 (by kernel_rfl) rfl)
    (encs := encR) (fun _ => rfl) (selO w6.heap.size) (selY w6.heap.size) (selC w6.heap.size)
    (fun k o ho => .inr (fun ⟨_, _, e⟩ => by rw [e] at ho; cases ho))
    (fun k o hk ho => by
      rcases ho with ho | ⟨_, _, e⟩ | ⟨_, _, e⟩
      · exact absurd ho (by simp at hk; omega)
      · rw [e]; rfl
      · rw [e]; rfl)
    (fun k o hk ho => by
      rcases ho with ho | ho
      · exact absurd ho (by simp at hk; omega)
      · exact ho.1)
    (fun k o ho => by
      rcases ho with ho | ho
      · exact .inl ho
      · exact .inr ho.2)
    (S := fun ys _ => ys = (frontR s).1) (Sp := fun _ _ => True) (ok := okR s)
    (fun l J Jx W hbW hJ hJx hYl hJ0 => each2_in 2 l c s hs w6 I6.out.tabs J Jx hJ hJx hYl W (((Below.refl _ w6).alloc (Nat.le_refl _) _).trans (hbW.mono (by simp))) ((hbW.block _ (by simp; have := HX6.out.lt; omega)).trans ((Below.heap_alloc _ _ _ HX6.out.lt).trans HX6.out)) hJ0)
    (fun pre W => Lst w6.heap.size w6.heap.size pre W ∧ Below w6.heap.size w6 W ∧ (pre.length : Int) < (1 : Int))
    (fun c pre W => c = .exit 2 ∧ Lst w6.heap.size w6.heap.size pre W ∧ Below w6.heap.size w6 W ∧ pre = xs.take (1 : Int).toNat ∧ (1 : Int) ≤ (pre.length : Int))
    hID1
    (fun c pre A B h hk => ⟨h.1, h.2.1.keepC hk, h.2.2.1.trans (hk.below h.2.2.1.size (fun k _ hk => .inl hk)), h.2.2.2⟩)
    ⟨⟨_, World.alloc_heap_new w6 _, World.ownsRow_nil _ _ _ _, by simp⟩, (Below.refl _ w6).alloc (Nat.le_refl _) _, (by first | (simp; done) | (simp; omega))⟩
    (fun x a' W => ∃ Bx, TokBox W Bx x ∧ a' = { tmps := (A0.tmps.setIfInBounds 39 (tokV x.kind x.text x.wd x.place)).setIfInBounds 11 (.pointer (some ⟨Bx, 0, none⟩)), defers := [] })
    (fun x a' A B h hk => by
      obtain ⟨Bx, h1, h2⟩ := h
      exact ⟨Bx, hk.block _ _ h1 (.inr ⟨rfl, not_ty (by decide)⟩), h2⟩)
    ?assignD1 ?bodyD1 ?doneD1 ?stopD1
  case assignD1 =>
    rintro l pre x W K hi hK
    have HI0 := Lib.hid hi
    have HKK := Lib.hid hK
    obtain ⟨rk, rx, rw0, rp, ra, rr⟩ := x
    clear hi hK
    subst hA0
    simp only [encR, tokV]
    gi_wp2
    exact HKK.out _ _ ((Keep.refl _ W).alloc _) (hID1 _ _ _ HI0.out ((Keep.refl _ W).alloc _)) ⟨W.heap.size, World.alloc_heap_new W _, rfl⟩
  case bodyD1 =>
    rintro l pre x a' W ⟨⟨v, hv, hrow, hnil⟩, hB, hpl⟩ ⟨Bx, hbx, rfl⟩ hok
    have hlen := okR_len hok hs
    have HOK := Lib.hid hok
    have hps : x = x := rfl
    obtain ⟨rk, rx, rw0, rp, ra, rr⟩ := x
    obtain ⟨⟨t0, t1, t2, t3⟩, _⟩ := row4 hbx
    have hc := hv.cell
    have HB5 := Lib.hid hB
    have hst3 := (hB.cell (p := ⟨w.heap.size, 0, none⟩) (by omega)).trans HK6.out.cell
    have hBs : w6.heap.size ≤ W.heap.size := hB.size
    have HBX := Lib.hid hbx
    clear hB hbx hok hps
    subst hA0
    simp only [tokV, List.setIfInBounds_toArray, List.set_cons_succ, List.set_cons_zero]
    by_cases hge : (1 : Int) ≤ (pre.length : Int) + 1
    · have hge' : (1 : Int) ≤ ((pre.length + 1 : Nat) : Int) := by omega
      gi_wp2_with (gi_at_builtin; refine wpListIn_append_own _ rfl _ _ 24 rfl (w6.heap.size) 38 i0 _ 4 40 Tryd.underlying24 hi hz0 hz1 hz2 rfl (by decide) _ _ _ rfl (hrow.alloc _) ⟨W.heap.size, 0, none⟩ 1 1 [.int .u8 rk, .string rx, .int .i64 rw0, .int .i64 rp] rfl rfl (fun j u hj => cell_four (World.alloc_heap_new W _) j u hj) (by simp [Value.oneCell']) (by simp only [maxLen]; omega) (by omega) (by simp; omega) ?_; intro v' w1 hown' hgrow _; obtain ⟨g', cap', rfl⟩ := ownsRow_succ hown'; obtain ⟨hv1, hv2, hr2, _, hb2⟩ := hv.appended (by decide) hrow hBs (by omega) hown' hgrow; have hc1 := hv1.cell; have hf1 := hv1.frozen; have hc2 := hv2.cell; have hst4 := (hb2.cell (p := ⟨w.heap.size, 0, none⟩) (by omega)).trans hst3)
      refine ⟨appended_keep (sel := selB w6.heap.size) hrow hgrow hv1 (fun g cs hg => notB hg (by decide) (by decide)) (fun cs => notB (by omega) (by decide) (by decide)), rfl, ⟨_, hv2, ?_, ?_⟩, HB5.out.trans hb2, ?_, ?_⟩
      · rw [rowR_snoc, List.length_append]; exact hr2
      · simp
      · exact okR_take HOK.out hxe.out hpl hge
      · simp; omega
    · exact absurd (by omega) hge

  case stopD1 =>
    rintro D cc pre W1 W _ _ ⟨_, _, _, hpp, hge⟩ _ _
    have e := congrArg List.length hpp
    rw [List.length_take, ← hnn.out] at e
    omega
  case doneD1 =>
    rintro D1 ys W1 W5 hDD1 hys ⟨⟨v1, hvD1, hrowD1, _⟩, hBD1, _⟩ _ hKD1
    obtain rfl : xs = ys := (hys.trans hxe.out.symm).symm
    clear hys
    have HVD1 := Lib.hid hvD1
    have TRD1 := Lib.hid (tokRow_owns hrowD1)
    have HBD1 := Lib.hid hBD1
    have HMD1 := Lib.hid hKD1
    have hsD1 := hBD1.size
    have cD1 := hvD1.cell
    clear hKD1 hrowD1 hvD1 hBD1
    subst hA0
    gi_wp2_with ((refine ⟨trivial, ?_⟩); gi_at_call 24; refine (callsIn_wide.2 (same_true _ _ _ xs (xs.take 1) TRD1.out (HL6.out.keep HBD1.out) (by have e : xs.take 1 = xs := List.take_of_length_le (by rw [← hnn.out]; omega); rw [e]; exact EqToks.rfl' _ _) (by first | omega | (rw [List.length_take, ← hnn.out]; omega) | (rw [← hnn.out]; omega)))).mono ?_; rintro e w8 ⟨rfl, m1, rfl⟩)
    obtain ⟨W7, hW7⟩ : ∃ W7, W7 = W5.drewN m1 := ⟨_, rfl⟩
    rw [← hW7]
    have B7 : Hid (Below w6.heap.size w6 W7) := by rw [Hid, hW7]; exact HBD1.out.trans ((below_drewN (Below.refl _ W5) m1).mono HBD1.out.size)
    have M1 : Hid (W7.heap[D1]? = some (.deferred (some []))) := by rw [Hid, hW7]; exact HMD1.out
    clear hW7
    have HK7 : Hid (Boxed W7 w.heap.size 3 (.int .i64 (1 : Int))) := (B7.out.block _ hb3).trans HK6.out
    have I7 := Lib.hid (I6.out.next B7.out)
    have HX7 : Hid (Boxed W7 c 9 (.string s)) := (B7.out.block _ HX6.out.lt).trans HX6.out
    have HL7 := Lib.hid (HL6.out.keep B7.out)
    have hb37 : w.heap.size < W7.heap.size := HK7.out.lt
    rw [roundsIn_succ]
    gi_wp2
    refine act_name (fun A0 hA0 => ?_)
    have hID2 : ∀ (pre : List Res) (A B : World), (Lst W7.heap.size W7.heap.size pre A ∧ Below W7.heap.size W7 A ∧ (pre.length : Int) < (1 : Int)) → Keep (selC W7.heap.size) A B → (Lst W7.heap.size W7.heap.size pre B ∧ Below W7.heap.size W7 B ∧ (pre.length : Int) < (1 : Int)) :=
      fun pre A B h hk => ⟨h.1.keepC hk, h.2.1.trans (hk.below h.2.1.size (fun k _ hk => .inl hk)), h.2.2⟩
    refine wpIn_range_keep (n := 3) rfl (by omega) (gf := 45) (fst := #[]) (lb := #[.pointer (some ⟨c, 0, none⟩)]) (by rw [hA0]; rfl) trivial (enters_of Tryd.func45 (by kernel_rfl) rfl)
      (encs := encR) (fun _ => rfl) (selO W7.heap.size) (selY W7.heap.size) (selC W7.heap.size)
      (fun k o ho => .inr (fun ⟨_, _, e⟩ => by rw [e] at ho; cases ho))
      (fun k o hk ho => by
        rcases ho with ho | ⟨_, _, e⟩ | ⟨_, _, e⟩
        · exact absurd ho (by simp at hk; omega)
        · rw [e]; rfl
        · rw [e]; rfl)
      (fun k o hk ho => by
        rcases ho with ho | ho
        · exact absurd ho (by simp at hk; omega)
        · exact ho.1)
      (fun k o ho => by
        rcases ho with ho | ho
        · exact .inl ho
        · exact .inr ho.2)
      (S := fun ys _ => ys = (frontR s).1) (Sp := fun _ _ => True) (ok := okR s)
      (fun l J Jx W hbW hJ hJx hYl hJ0 => each2_in 2 l c s hs W7 I7.out.tabs J Jx hJ hJx hYl W (((Below.refl _ W7).alloc (Nat.le_refl _) _).trans (hbW.mono (by simp))) ((hbW.block _ (by simp; have := HX7.out.lt; omega)).trans ((Below.heap_alloc _ _ _ HX7.out.lt).trans HX7.out)) hJ0)
      (fun pre W => Lst W7.heap.size W7.heap.size pre W ∧ Below W7.heap.size W7 W ∧ (pre.length : Int) < (1 : Int))
      (fun c pre W => c = .exit 2 ∧ Lst W7.heap.size W7.heap.size pre W ∧ Below W7.heap.size W7 W ∧ pre = xs.take (1 : Int).toNat ∧ (1 : Int) ≤ (pre.length : Int))
      hID2
      (fun c pre A B h hk => ⟨h.1, h.2.1.keepC hk, h.2.2.1.trans (hk.below h.2.2.1.size (fun k _ hk => .inl hk)), h.2.2.2⟩)
      ⟨⟨_, World.alloc_heap_new W7 _, World.ownsRow_nil _ _ _ _, by simp⟩, (Below.refl _ W7).alloc (Nat.le_refl _) _, (by first | (simp; done) | (simp; omega))⟩
      (fun x a' W => ∃ Bx, TokBox W Bx x ∧ a' = { tmps := (A0.tmps.setIfInBounds 39 (tokV x.kind x.text x.wd x.place)).setIfInBounds 11 (.pointer (some ⟨Bx, 0, none⟩)), defers := [] })
      (fun x a' A B h hk => by
        obtain ⟨Bx, h1, h2⟩ := h
        exact ⟨Bx, hk.block _ _ h1 (.inr ⟨rfl, not_ty (by decide)⟩), h2⟩)
      ?assignD2 ?bodyD2 ?doneD2 ?stopD2
    case assignD2 =>
      rintro l pre x W K hi hK
      have HI0 := Lib.hid hi
      have HKK := Lib.hid hK
      obtain ⟨rk, rx, rw0, rp, ra, rr⟩ := x
      clear hi hK
      subst hA0
      simp only [encR, tokV]
      gi_wp2
      exact HKK.out _ _ ((Keep.refl _ W).alloc _) (hID2 _ _ _ HI0.out ((Keep.refl _ W).alloc _)) ⟨W.heap.size, World.alloc_heap_new W _, rfl⟩
    case bodyD2 =>
      rintro l pre x a' W ⟨⟨v, hv, hrow, hnil⟩, hB, hpl⟩ ⟨Bx, hbx, rfl⟩ hok
      have hlen := okR_len hok hs
      have HOK := Lib.hid hok
      have hps : x = x := rfl
      obtain ⟨rk, rx, rw0, rp, ra, rr⟩ := x
      obtain ⟨⟨t0, t1, t2, t3⟩, _⟩ := row4 hbx
      have hc := hv.cell
      have HB5 := Lib.hid hB
      have hst3 := (hB.cell (p := ⟨w.heap.size, 0, none⟩) (by omega)).trans HK7.out.cell
      have hBs : W7.heap.size ≤ W.heap.size := hB.size
      have HBX := Lib.hid hbx
      clear hB hbx hok hps
      subst hA0
      simp only [tokV, List.setIfInBounds_toArray, List.set_cons_succ, List.set_cons_zero]
      by_cases hge : (1 : Int) ≤ (pre.length : Int) + 1
      · have hge' : (1 : Int) ≤ ((pre.length + 1 : Nat) : Int) := by omega
        gi_wp2_with (gi_at_builtin; refine wpListIn_append_own _ rfl _ _ 24 rfl (W7.heap.size) 38 i0 _ 4 40 Tryd.underlying24 hi hz0 hz1 hz2 rfl (by decide) _ _ _ rfl (hrow.alloc _) ⟨W.heap.size, 0, none⟩ 1 1 [.int .u8 rk, .string rx, .int .i64 rw0, .int .i64 rp] rfl rfl (fun j u hj => cell_four (World.alloc_heap_new W _) j u hj) (by simp [Value.oneCell']) (by simp only [maxLen]; omega) (by omega) (by simp; omega) ?_; intro v' w1 hown' hgrow _; obtain ⟨g', cap', rfl⟩ := ownsRow_succ hown'; obtain ⟨hv1, hv2, hr2, _, hb2⟩ := hv.appended (by decide) hrow hBs (by omega) hown' hgrow; have hc1 := hv1.cell; have hf1 := hv1.frozen; have hc2 := hv2.cell; have hst4 := (hb2.cell (p := ⟨w.heap.size, 0, none⟩) (by omega)).trans hst3)
        refine ⟨appended_keep (sel := selB W7.heap.size) hrow hgrow hv1 (fun g cs hg => notB hg (by decide) (by decide)) (fun cs => notB (by omega) (by decide) (by decide)), rfl, ⟨_, hv2, ?_, ?_⟩, HB5.out.trans hb2, ?_, ?_⟩
        · rw [rowR_snoc, List.length_append]; exact hr2
        · simp
        · exact okR_take HOK.out hxe.out hpl hge
        · simp; omega
      · exact absurd (by omega) hge

    case stopD2 =>
      rintro D cc pre W1 W _ _ ⟨_, _, _, hpp, hge⟩ _ _
      have e := congrArg List.length hpp
      rw [List.length_take, ← hnn.out] at e
      omega
    case doneD2 =>
      rintro D2 ys W1 W9 hDD2 hys ⟨⟨v2, hvD2, hrowD2, _⟩, hBD2, _⟩ _ hKD2
      obtain rfl : xs = ys := (hys.trans hxe.out.symm).symm
      clear hys
      have HVD2 := Lib.hid hvD2
      have TRD2 := Lib.hid (tokRow_owns hrowD2)
      have HBD2 := Lib.hid hBD2
      have HMD2 := Lib.hid hKD2
      have hsD2 := hBD2.size
      have cD2 := hvD2.cell
      clear hKD2 hrowD2 hvD2 hBD2
      subst hA0
      gi_wp2_with ((refine ⟨trivial, ?_⟩); gi_at_call 24; refine (callsIn_wide.2 (same_true _ _ _ xs (xs.take 1) TRD2.out (HL7.out.keep HBD2.out) (by have e : xs.take 1 = xs := List.take_of_length_le (by rw [← hnn.out]; omega); rw [e]; exact EqToks.rfl' _ _) (by first | omega | (rw [List.length_take, ← hnn.out]; omega) | (rw [← hnn.out]; omega)))).mono ?_; rintro e w8 ⟨rfl, m2, rfl⟩)
      rw [roundsIn_succ]
      gi_wp2
      have z5 := I7.out.below.size
      have hDD : D1 < W7.heap.size := (Array.getElem?_eq_some_iff.1 M1.out).1
      have zw6 := I6.out.below.size
      have e2 : (W9.drewN m2).heap[D2]? = some (.deferred (some [])) := HMD2.out
      have e1 : ((W9.drewN m2).putObj D2 (.deferred none)).heap[D1]? = some (.deferred (some [])) := (World.putObj_heap_other (by simp at hDD2; omega)).trans ((HBD2.out.block _ hDD).trans M1.out)
      have kF : Keep (fun k o => k < w.heap.size) (W9.drewN m2) (((W9.drewN m2).putObj D2 (.deferred none)).putObj D1 (.deferred none)) :=
        ((Keep.refl _ _).putObj _ e2 (by simp at hDD2; omega)).putObj _ e1 (by simp at hDD1; omega)
      have I9 : LInv w (((W9.drewN m2).putObj D2 (.deferred none)).putObj D1 (.deferred none)) :=
        LInv.make HT.out ((I7.out.next HBD2.out).below.trans ((below_drewN (Below.refl _ W9) m2).mono (I7.out.next HBD2.out).below.size |>.trans (kF.below (I7.out.next HBD2.out).below.size (fun k o hk => hk))))
      refine ⟨by simp, .inl ⟨_, _, rfl, run_takeDeferred e2, ⟨by simp, .inl ⟨_, _, rfl, run_takeDeferred e1, ?_⟩⟩⟩⟩
      exact ⟨.bool true, by simp [results, Tryd.results5, go_sem], rfl, I9⟩
set_option maxRecDepth 100000 in
set_option maxHeartbeats 16000000 in
theorem each_lt (s : ByteArray) (hs : s.size ≤ 65536) (m : Nat) (hm : 1 ≤ m) (hm2 : (m : Int) ≤ 9223372036854775807) (hn : m < (frontR s).1.length) (w : World) (T : LTabs w) :
    Calls Tryd.prog 5 #[.string s, .int .i64 (m : Int)] w fun e w' => e = .returned (.bool true) ∧ LInv w w' := by
  have hxs := front_len s
  have hl' : ¬ (65536 : Int) < (s.size : Int) := by omega
  obtain ⟨w0, hw0⟩ : ∃ w0, w0 = w.alloc (.cells #[.int .i64 (m : Int)] 3) := ⟨_, rfl⟩
  have hbw : Below w.heap.size w w0 := by rw [hw0]; exact (Below.refl _ w).alloc (Nat.le_refl _) _
  have T0 : LTabs w0 := T.below (Nat.le_refl _) hbw
  have hlt0 : w.heap.size < w0.heap.size := by rw [hw0]; simp
  have hk0 : w0.heap[w.heap.size]? = some (.cells #[.int .i64 (m : Int)] 3 (0, 0)) := by rw [hw0]; exact World.alloc_heap_new w _
  have HB := Lib.hid (begins_i (LInv.start T0))
  obtain ⟨xs, hxe⟩ : ∃ xs, Hid (xs = (frontR s).1) := ⟨_, rfl⟩
  rw [← hxe.out] at hxs hn
  have HF : Hid (∀ W, Calls Tryd.prog 25 #[.string s] W fun e w' => ∃ oa cap, e = .returned (.tuple #[.slice oa xs.length cap, .int .i64 (frontR s).2.2, .int .i64 (frontR s).2.1]) ∧ w'.ownsRow W.heap.size 38 4 (.slice oa xs.length cap) xs.length (rowR xs) ∧ xs.length ≤ cap ∧ (0 < xs.length → ∃ g, oa = some ⟨g, 0, none⟩) ∧ Below W.heap.size W w') := fun W => by
    refine (front_any s (by omega) W).mono ?_
    rintro e w' ⟨⟨v, rfl, h1, h2⟩, hb⟩
    rw [← hxe.out] at h1 h2
    have t := tokRow_owns h1
    obtain ⟨oa, cap, rfl, _⟩ := id t
    refine ⟨oa, cap, rfl, h1, ?_, ?_, hb⟩
    · rcases h1.2 with ⟨hv, h0⟩ | ⟨g, cap', cur, hv, _, _, hle, _⟩
      · omega
      · cases hv; exact hle
    · intro hp
      rcases h1.2 with ⟨hv, h0⟩ | ⟨g, cap', cur, hv, _, _, hle, _⟩
      · omega
      · cases hv; exact ⟨g, rfl⟩
  generalize (frontR s).2.1 = fa at HF
  generalize (frontR s).2.2 = fr at HF
  obtain ⟨n, hnn⟩ : ∃ n, Hid (n = xs.length) := ⟨_, rfl⟩
  rw [← hnn.out] at HF hn hxs
  have HBW := Lib.hid hbw
  have HK0 := Lib.hid hk0
  have HW0 := Lib.hid hw0
  have HT := Lib.hid T
  obtain ⟨i0, hi, hz0, hz1, hz2⟩ := info_parts infoTok
  clear T T0 hbw hk0 hw0
  have hk' : decide ((m : Int) < 1) = false := by simp; omega
  have hmn : decide (m < n) = true := by simp; omega
  have hmn' : (m : Int) < (n : Int) := by omega
  refine (callsIn_wide (n := 3)).1 ?_
  refine callsIn_of_wp_marks Tryd.func5 rfl trivial ?_ rfl
  simp only [Tryd.ntmps5, List.size_toArray, List.length_cons, List.length_nil, Nat.reduceAdd, Nat.reduceSub, Array.replicate_succ, Array.replicate_zero, List.push_toArray, List.append_toArray, List.nil_append, List.cons_append]
  gi_wp2_with (first
    | (with_reducible rw [← HW0.out])
    | ((refine ⟨trivial, ?_⟩); gi_at_call 21; refine (callsIn_wide.2 HB.out).mono ?_; rintro e w1 ⟨rfl, hI⟩; have HI := Lib.hid hI; clear hI)
    | ((refine ⟨trivial, ?_⟩); gi_at_call 25; refine (callsIn_wide.2 (HF.out _)).mono ?_; rintro e w2 ⟨oa, cap, rfl, htr, hcap, hoa, hb2⟩; have HI2 := Lib.hid (HI.out.next hb2); have HTR := Lib.hid htr; have hz22 := HI2.out.below.size; have HK2 : Hid (Boxed w2 w.heap.size 3 (.int .i64 (m : Int))) := (HI2.out.below.block _ hlt0).trans HK0.out; have k1 := HK2.out.cell; have k2 := HK2.out.frozen; have hz11 := HI.out.below.size; clear hb2 htr; obtain ⟨go, rfl⟩ := hoa (by omega))
    | ((refine ⟨trivial, ?_⟩); gi_at_call 26; refine (callsIn_wide.2 (each_any s hs _)).mono ?_; rintro e w6 ⟨c, rfl, hcc, hbx, hb6⟩))
  have hp2 : w2.heap.size = w2.heap.size := by rfl
  have HK6 : Hid (Boxed w6 w.heap.size 3 (.int .i64 (m : Int))) := (hb6.block _ (by rw [hp2]; omega)).trans (HK2.out)
  have I6 : Hid (LInv w w6) := LInv.make HT.out ((HBW.out.trans (HI2.out.below.mono HBW.out.size)).trans (hb6.mono (by rw [hp2]; omega)))
  have HX6 := Lib.hid hbx
  have HT2 : Hid (TokRow w2 (.slice (some ⟨go, 0, none⟩) n cap) xs) := by
    have k := HTR.out
    rw [Hid]; rw [hnn.out] at k ⊢; exact tokRow_owns k
  have HL6 : Hid (TokRow w6 (.slice (some ⟨go, 0, none⟩) m cap) (xs.take m)) := (HT2.out.keep hb6).take (by rw [← hnn.out]; omega) cap
  have hb3 : w.heap.size < w6.heap.size := HK6.out.lt
  clear hb6 hbx hcc HTR HT2 hp2
  refine wpIn_loop_rounds 3 ?_
  rw [roundsIn_succ]
  gi_wp2
  refine act_name (fun A0 hA0 => ?_)
  have hID1 : ∀ (pre : List Res) (A B : World), (Lst w6.heap.size w6.heap.size pre A ∧ Below w6.heap.size w6 A ∧ (pre.length : Int) < (m : Int)) → Keep (selC w6.heap.size) A B → (Lst w6.heap.size w6.heap.size pre B ∧ Below w6.heap.size w6 B ∧ (pre.length : Int) < (m : Int)) :=
    fun pre A B h hk => ⟨h.1.keepC hk, h.2.1.trans (hk.below h.2.1.size (fun k _ hk => .inl hk)), h.2.2⟩
  refine wpIn_range_keep (n := 3) rfl (by omega) (gf := 45) (fst := #[]) (lb := #[.pointer (some ⟨c, 0, none⟩)]) (by rw [hA0]; rfl) trivial (enters_of Tryd.func45 (by kernel_rfl) rfl)
    (encs := encR) (fun _ => rfl) (selO w6.heap.size) (selY w6.heap.size) (selC w6.heap.size)
    (fun k o ho => .inr (fun ⟨_, _, e⟩ => by rw [e] at ho; cases ho))
    (fun k o hk ho => by
      rcases ho with ho | ⟨_, _, e⟩ | ⟨_, _, e⟩
      · exact absurd ho (by simp at hk; omega)
      · rw [e]; rfl
      · rw [e]; rfl)
    (fun k o hk ho => by
      rcases ho with ho | ho
      · exact absurd ho (by simp at hk; omega)
      · exact ho.1)
    (fun k o ho => by
      rcases ho with ho | ho
      · exact .inl ho
      · exact .inr ho.2)
    (S := fun ys _ => ys = (frontR s).1) (Sp := fun _ _ => True) (ok := okR s)
    (fun l J Jx W hbW hJ hJx hYl hJ0 => each2_in 2 l c s hs w6 I6.out.tabs J Jx hJ hJx hYl W (((Below.refl _ w6).alloc (Nat.le_refl _) _).trans (hbW.mono (by simp))) ((hbW.block _ (by simp; have := HX6.out.lt; omega)).trans ((Below.heap_alloc _ _ _ HX6.out.lt).trans HX6.out)) hJ0)
    (fun pre W => Lst w6.heap.size w6.heap.size pre W ∧ Below w6.heap.size w6 W ∧ (pre.length : Int) < (m : Int))
    (fun c pre W => c = .exit 2 ∧ Lst w6.heap.size w6.heap.size pre W ∧ Below w6.heap.size w6 W ∧ pre = xs.take (m : Int).toNat ∧ (m : Int) ≤ (pre.length : Int))
    hID1
    (fun c pre A B h hk => ⟨h.1, h.2.1.keepC hk, h.2.2.1.trans (hk.below h.2.2.1.size (fun k _ hk => .inl hk)), h.2.2.2⟩)
    ⟨⟨_, World.alloc_heap_new w6 _, World.ownsRow_nil _ _ _ _, by simp⟩, (Below.refl _ w6).alloc (Nat.le_refl _) _, (by first | (simp; done) | (simp; omega))⟩
    (fun x a' W => ∃ Bx, TokBox W Bx x ∧ a' = { tmps := (A0.tmps.setIfInBounds 39 (tokV x.kind x.text x.wd x.place)).setIfInBounds 11 (.pointer (some ⟨Bx, 0, none⟩)), defers := [] })
    (fun x a' A B h hk => by
      obtain ⟨Bx, h1, h2⟩ := h
      exact ⟨Bx, hk.block _ _ h1 (.inr ⟨rfl, not_ty (by decide)⟩), h2⟩)
    ?assignD1 ?bodyD1 ?doneD1 ?stopD1
  case assignD1 =>
    rintro l pre x W K hi hK
    have HI0 := Lib.hid hi
    have HKK := Lib.hid hK
    obtain ⟨rk, rx, rw0, rp, ra, rr⟩ := x
    clear hi hK
    subst hA0
    simp only [encR, tokV]
    gi_wp2
    exact HKK.out _ _ ((Keep.refl _ W).alloc _) (hID1 _ _ _ HI0.out ((Keep.refl _ W).alloc _)) ⟨W.heap.size, World.alloc_heap_new W _, rfl⟩
  case bodyD1 =>
    rintro l pre x a' W ⟨⟨v, hv, hrow, hnil⟩, hB, hpl⟩ ⟨Bx, hbx, rfl⟩ hok
    have hlen := okR_len hok hs
    have HOK := Lib.hid hok
    have hps : x = x := rfl
    obtain ⟨rk, rx, rw0, rp, ra, rr⟩ := x
    obtain ⟨⟨t0, t1, t2, t3⟩, _⟩ := row4 hbx
    have hc := hv.cell
    have HB5 := Lib.hid hB
    have hst3 := (hB.cell (p := ⟨w.heap.size, 0, none⟩) (by omega)).trans HK6.out.cell
    have hBs : w6.heap.size ≤ W.heap.size := hB.size
    have HBX := Lib.hid hbx
    clear hB hbx hok hps
    subst hA0
    simp only [tokV, List.setIfInBounds_toArray, List.set_cons_succ, List.set_cons_zero]
    by_cases hge : (m : Int) ≤ (pre.length : Int) + 1
    · have hge' : (m : Int) ≤ ((pre.length + 1 : Nat) : Int) := by omega
      gi_wp2_with (gi_at_builtin; refine wpListIn_append_own _ rfl _ _ 24 rfl (w6.heap.size) 38 i0 _ 4 40 Tryd.underlying24 hi hz0 hz1 hz2 rfl (by decide) _ _ _ rfl (hrow.alloc _) ⟨W.heap.size, 0, none⟩ 1 1 [.int .u8 rk, .string rx, .int .i64 rw0, .int .i64 rp] rfl rfl (fun j u hj => cell_four (World.alloc_heap_new W _) j u hj) (by simp [Value.oneCell']) (by simp only [maxLen]; omega) (by omega) (by simp; omega) ?_; intro v' w1 hown' hgrow _; obtain ⟨g', cap', rfl⟩ := ownsRow_succ hown'; obtain ⟨hv1, hv2, hr2, _, hb2⟩ := hv.appended (by decide) hrow hBs (by omega) hown' hgrow; have hc1 := hv1.cell; have hf1 := hv1.frozen; have hc2 := hv2.cell; have hst4 := (hb2.cell (p := ⟨w.heap.size, 0, none⟩) (by omega)).trans hst3)
      refine ⟨appended_keep (sel := selB w6.heap.size) hrow hgrow hv1 (fun g cs hg => notB hg (by decide) (by decide)) (fun cs => notB (by omega) (by decide) (by decide)), rfl, ⟨_, hv2, ?_, ?_⟩, HB5.out.trans hb2, ?_, ?_⟩
      · rw [rowR_snoc, List.length_append]; exact hr2
      · simp
      · exact okR_take HOK.out hxe.out hpl hge
      · simp; omega
    · have hge' : ¬ (m : Int) ≤ ((pre.length + 1 : Nat) : Int) := by omega
      gi_wp2_with (gi_at_builtin; refine wpListIn_append_own _ rfl _ _ 24 rfl (w6.heap.size) 38 i0 _ 4 40 Tryd.underlying24 hi hz0 hz1 hz2 rfl (by decide) _ _ _ rfl (hrow.alloc _) ⟨W.heap.size, 0, none⟩ 1 1 [.int .u8 rk, .string rx, .int .i64 rw0, .int .i64 rp] rfl rfl (fun j u hj => cell_four (World.alloc_heap_new W _) j u hj) (by simp [Value.oneCell']) (by simp only [maxLen]; omega) (by omega) (by simp; omega) ?_; intro v' w1 hown' hgrow _; obtain ⟨g', cap', rfl⟩ := ownsRow_succ hown'; obtain ⟨hv1, hv2, hr2, _, hb2⟩ := hv.appended (by decide) hrow hBs (by omega) hown' hgrow; have hc1 := hv1.cell; have hf1 := hv1.frozen; have hc2 := hv2.cell; have hst4 := (hb2.cell (p := ⟨w.heap.size, 0, none⟩) (by omega)).trans hst3)
      refine ⟨appended_keep (sel := selB w6.heap.size) hrow hgrow hv1 (fun g cs hg => notB hg (by decide) (by decide)) (fun cs => notB (by omega) (by decide) (by decide)), ⟨_, hv2, ?_, ?_⟩, HB5.out.trans hb2, ?_⟩
      · rw [rowR_snoc, List.length_append]; exact hr2
      · simp
      · simp; omega

  case doneD1 =>
    rintro D ys W1 W _ hys ⟨_, _, hlt⟩ _ _
    have e : ys = xs := hys.trans hxe.out.symm
    rw [e, ← hnn.out] at hlt
    omega
  case stopD1 =>
    rintro D1 cc pre W1 W5 hDD1 _ ⟨rfl, ⟨v1, hvD1, hrowD1, _⟩, hBD1, hpp, _⟩ _ hKD1
    subst hpp
    have HVD1 := Lib.hid hvD1
    have TRD1 := Lib.hid (tokRow_owns hrowD1)
    have HBD1 := Lib.hid hBD1
    have HMD1 := Lib.hid hKD1
    have hsD1 := hBD1.size
    have cD1 := hvD1.cell
    clear hKD1 hrowD1 hvD1 hBD1
    subst hA0
    gi_wp2_with ((refine ⟨trivial, ?_⟩); gi_at_call 24; refine (callsIn_wide.2 (same_true _ _ _ (xs.take ((m : Int)).toNat) (xs.take m) TRD1.out (HL6.out.keep HBD1.out) (EqToks.rfl' _ _) (by first | omega | (rw [List.length_take, ← hnn.out]; omega) | (rw [← hnn.out]; omega)))).mono ?_; rintro e w8 ⟨rfl, m1, rfl⟩)
    obtain ⟨W7, hW7⟩ : ∃ W7, W7 = W5.drewN m1 := ⟨_, rfl⟩
    rw [← hW7]
    have B7 : Hid (Below w6.heap.size w6 W7) := by rw [Hid, hW7]; exact HBD1.out.trans ((below_drewN (Below.refl _ W5) m1).mono HBD1.out.size)
    have M1 : Hid (W7.heap[D1]? = some (.deferred (some []))) := by rw [Hid, hW7]; exact HMD1.out
    clear hW7
    have HK7 : Hid (Boxed W7 w.heap.size 3 (.int .i64 (m : Int))) := (B7.out.block _ hb3).trans HK6.out
    have I7 := Lib.hid (I6.out.next B7.out)
    have HX7 : Hid (Boxed W7 c 9 (.string s)) := (B7.out.block _ HX6.out.lt).trans HX6.out
    have HL7 := Lib.hid (HL6.out.keep B7.out)
    have hb37 : w.heap.size < W7.heap.size := HK7.out.lt
    rw [roundsIn_succ]
    gi_wp2
    refine act_name (fun A0 hA0 => ?_)
    have hID2 : ∀ (pre : List Res) (A B : World), (Lst W7.heap.size W7.heap.size pre A ∧ Below W7.heap.size W7 A ∧ (pre.length : Int) < (m : Int)) → Keep (selC W7.heap.size) A B → (Lst W7.heap.size W7.heap.size pre B ∧ Below W7.heap.size W7 B ∧ (pre.length : Int) < (m : Int)) :=
      fun pre A B h hk => ⟨h.1.keepC hk, h.2.1.trans (hk.below h.2.1.size (fun k _ hk => .inl hk)), h.2.2⟩
    refine wpIn_range_keep (n := 3) rfl (by omega) (gf := 45) (fst := #[]) (lb := #[.pointer (some ⟨c, 0, none⟩)]) (by rw [hA0]; rfl) trivial (enters_of Tryd.func45 (by kernel_rfl) rfl)
      (encs := encR) (fun _ => rfl) (selO W7.heap.size) (selY W7.heap.size) (selC W7.heap.size)
      (fun k o ho => .inr (fun ⟨_, _, e⟩ => by rw [e] at ho; cases ho))
      (fun k o hk ho => by
        rcases ho with ho | ⟨_, _, e⟩ | ⟨_, _, e⟩
        · exact absurd ho (by simp at hk; omega)
        · rw [e]; rfl
        · rw [e]; rfl)
      (fun k o hk ho => by
        rcases ho with ho | ho
        · exact absurd ho (by simp at hk; omega)
        · exact ho.1)
      (fun k o ho => by
        rcases ho with ho | ho
        · exact .inl ho
        · exact .inr ho.2)
      (S := fun ys _ => ys = (frontR s).1) (Sp := fun _ _ => True) (ok := okR s)
      (fun l J Jx W hbW hJ hJx hYl hJ0 => each2_in 2 l c s hs W7 I7.out.tabs J Jx hJ hJx hYl W (((Below.refl _ W7).alloc (Nat.le_refl _) _).trans (hbW.mono (by simp))) ((hbW.block _ (by simp; have := HX7.out.lt; omega)).trans ((Below.heap_alloc _ _ _ HX7.out.lt).trans HX7.out)) hJ0)
      (fun pre W => Lst W7.heap.size W7.heap.size pre W ∧ Below W7.heap.size W7 W ∧ (pre.length : Int) < (m : Int))
      (fun c pre W => c = .exit 2 ∧ Lst W7.heap.size W7.heap.size pre W ∧ Below W7.heap.size W7 W ∧ pre = xs.take (m : Int).toNat ∧ (m : Int) ≤ (pre.length : Int))
      hID2
      (fun c pre A B h hk => ⟨h.1, h.2.1.keepC hk, h.2.2.1.trans (hk.below h.2.2.1.size (fun k _ hk => .inl hk)), h.2.2.2⟩)
      ⟨⟨_, World.alloc_heap_new W7 _, World.ownsRow_nil _ _ _ _, by simp⟩, (Below.refl _ W7).alloc (Nat.le_refl _) _, (by first | (simp; done) | (simp; omega))⟩
      (fun x a' W => ∃ Bx, TokBox W Bx x ∧ a' = { tmps := (A0.tmps.setIfInBounds 39 (tokV x.kind x.text x.wd x.place)).setIfInBounds 11 (.pointer (some ⟨Bx, 0, none⟩)), defers := [] })
      (fun x a' A B h hk => by
        obtain ⟨Bx, h1, h2⟩ := h
        exact ⟨Bx, hk.block _ _ h1 (.inr ⟨rfl, not_ty (by decide)⟩), h2⟩)
      ?assignD2 ?bodyD2 ?doneD2 ?stopD2
    case assignD2 =>
      rintro l pre x W K hi hK
      have HI0 := Lib.hid hi
      have HKK := Lib.hid hK
      obtain ⟨rk, rx, rw0, rp, ra, rr⟩ := x
      clear hi hK
      subst hA0
      simp only [encR, tokV]
      gi_wp2
      exact HKK.out _ _ ((Keep.refl _ W).alloc _) (hID2 _ _ _ HI0.out ((Keep.refl _ W).alloc _)) ⟨W.heap.size, World.alloc_heap_new W _, rfl⟩
    case bodyD2 =>
      rintro l pre x a' W ⟨⟨v, hv, hrow, hnil⟩, hB, hpl⟩ ⟨Bx, hbx, rfl⟩ hok
      have hlen := okR_len hok hs
      have HOK := Lib.hid hok
      have hps : x = x := rfl
      obtain ⟨rk, rx, rw0, rp, ra, rr⟩ := x
      obtain ⟨⟨t0, t1, t2, t3⟩, _⟩ := row4 hbx
      have hc := hv.cell
      have HB5 := Lib.hid hB
      have hst3 := (hB.cell (p := ⟨w.heap.size, 0, none⟩) (by omega)).trans HK7.out.cell
      have hBs : W7.heap.size ≤ W.heap.size := hB.size
      have HBX := Lib.hid hbx
      clear hB hbx hok hps
      subst hA0
      simp only [tokV, List.setIfInBounds_toArray, List.set_cons_succ, List.set_cons_zero]
      by_cases hge : (m : Int) ≤ (pre.length : Int) + 1
      · have hge' : (m : Int) ≤ ((pre.length + 1 : Nat) : Int) := by omega
        gi_wp2_with (gi_at_builtin; refine wpListIn_append_own _ rfl _ _ 24 rfl (W7.heap.size) 38 i0 _ 4 40 Tryd.underlying24 hi hz0 hz1 hz2 rfl (by decide) _ _ _ rfl (hrow.alloc _) ⟨W.heap.size, 0, none⟩ 1 1 [.int .u8 rk, .string rx, .int .i64 rw0, .int .i64 rp] rfl rfl (fun j u hj => cell_four (World.alloc_heap_new W _) j u hj) (by simp [Value.oneCell']) (by simp only [maxLen]; omega) (by omega) (by simp; omega) ?_; intro v' w1 hown' hgrow _; obtain ⟨g', cap', rfl⟩ := ownsRow_succ hown'; obtain ⟨hv1, hv2, hr2, _, hb2⟩ := hv.appended (by decide) hrow hBs (by omega) hown' hgrow; have hc1 := hv1.cell; have hf1 := hv1.frozen; have hc2 := hv2.cell; have hst4 := (hb2.cell (p := ⟨w.heap.size, 0, none⟩) (by omega)).trans hst3)
        refine ⟨appended_keep (sel := selB W7.heap.size) hrow hgrow hv1 (fun g cs hg => notB hg (by decide) (by decide)) (fun cs => notB (by omega) (by decide) (by decide)), rfl, ⟨_, hv2, ?_, ?_⟩, HB5.out.trans hb2, ?_, ?_⟩
        · rw [rowR_snoc, List.length_append]; exact hr2
        · simp
        · exact okR_take HOK.out hxe.out hpl hge
        · simp; omega
      · have hge' : ¬ (m : Int) ≤ ((pre.length + 1 : Nat) : Int) := by omega
        gi_wp2_with (gi_at_builtin; refine wpListIn_append_own _ rfl _ _ 24 rfl (W7.heap.size) 38 i0 _ 4 40 Tryd.underlying24 hi hz0 hz1 hz2 rfl (by decide) _ _ _ rfl (hrow.alloc _) ⟨W.heap.size, 0, none⟩ 1 1 [.int .u8 rk, .string rx, .int .i64 rw0, .int .i64 rp] rfl rfl (fun j u hj => cell_four (World.alloc_heap_new W _) j u hj) (by simp [Value.oneCell']) (by simp only [maxLen]; omega) (by omega) (by simp; omega) ?_; intro v' w1 hown' hgrow _; obtain ⟨g', cap', rfl⟩ := ownsRow_succ hown'; obtain ⟨hv1, hv2, hr2, _, hb2⟩ := hv.appended (by decide) hrow hBs (by omega) hown' hgrow; have hc1 := hv1.cell; have hf1 := hv1.frozen; have hc2 := hv2.cell; have hst4 := (hb2.cell (p := ⟨w.heap.size, 0, none⟩) (by omega)).trans hst3)
        refine ⟨appended_keep (sel := selB W7.heap.size) hrow hgrow hv1 (fun g cs hg => notB hg (by decide) (by decide)) (fun cs => notB (by omega) (by decide) (by decide)), ⟨_, hv2, ?_, ?_⟩, HB5.out.trans hb2, ?_⟩
        · rw [rowR_snoc, List.length_append]; exact hr2
        · simp
        · simp; omega

    case doneD2 =>
      rintro D ys W1 W _ hys ⟨_, _, hlt⟩ _ _
      have e : ys = xs := hys.trans hxe.out.symm
      rw [e, ← hnn.out] at hlt
      omega
    case stopD2 =>
      rintro D2 cc pre W1 W9 hDD2 _ ⟨rfl, ⟨v2, hvD2, hrowD2, _⟩, hBD2, hpp, _⟩ _ hKD2
      subst hpp
      have HVD2 := Lib.hid hvD2
      have TRD2 := Lib.hid (tokRow_owns hrowD2)
      have HBD2 := Lib.hid hBD2
      have HMD2 := Lib.hid hKD2
      have hsD2 := hBD2.size
      have cD2 := hvD2.cell
      clear hKD2 hrowD2 hvD2 hBD2
      subst hA0
      gi_wp2_with ((refine ⟨trivial, ?_⟩); gi_at_call 24; refine (callsIn_wide.2 (same_true _ _ _ (xs.take ((m : Int)).toNat) (xs.take m) TRD2.out (HL7.out.keep HBD2.out) (EqToks.rfl' _ _) (by first | omega | (rw [List.length_take, ← hnn.out]; omega) | (rw [← hnn.out]; omega)))).mono ?_; rintro e w8 ⟨rfl, m2, rfl⟩)
      rw [roundsIn_succ]
      gi_wp2
      have z5 := I7.out.below.size
      have hDD : D1 < W7.heap.size := (Array.getElem?_eq_some_iff.1 M1.out).1
      have zw6 := I6.out.below.size
      have e2 : (W9.drewN m2).heap[D2]? = some (.deferred (some [])) := HMD2.out
      have e1 : ((W9.drewN m2).putObj D2 (.deferred none)).heap[D1]? = some (.deferred (some [])) := (World.putObj_heap_other (by simp at hDD2; omega)).trans ((HBD2.out.block _ hDD).trans M1.out)
      have kF : Keep (fun k o => k < w.heap.size) (W9.drewN m2) (((W9.drewN m2).putObj D2 (.deferred none)).putObj D1 (.deferred none)) :=
        ((Keep.refl _ _).putObj _ e2 (by simp at hDD2; omega)).putObj _ e1 (by simp at hDD1; omega)
      have I9 : LInv w (((W9.drewN m2).putObj D2 (.deferred none)).putObj D1 (.deferred none)) :=
        LInv.make HT.out ((I7.out.next HBD2.out).below.trans ((below_drewN (Below.refl _ W9) m2).mono (I7.out.next HBD2.out).below.size |>.trans (kF.below (I7.out.next HBD2.out).below.size (fun k o hk => hk))))
      refine ⟨by simp, .inl ⟨_, _, rfl, run_takeDeferred e2, ⟨by simp, .inl ⟨_, _, rfl, run_takeDeferred e1, ?_⟩⟩⟩⟩
      exact ⟨.bool true, by simp [results, Tryd.results5, go_sem], rfl, I9⟩
set_option maxRecDepth 100000 in
set_option maxHeartbeats 16000000 in
theorem each_eq (s : ByteArray) (hs : s.size ≤ 65536) (m : Nat) (hm : 1 ≤ m) (hm2 : (m : Int) ≤ 9223372036854775807) (hn : m = (frontR s).1.length) (w : World) (T : LTabs w) :
    Calls Tryd.prog 5 #[.string s, .int .i64 (m : Int)] w fun e w' => e = .returned (.bool true) ∧ LInv w w' := by
  have hxs := front_len s
  have hl' : ¬ (65536 : Int) < (s.size : Int) := by omega
  obtain ⟨w0, hw0⟩ : ∃ w0, w0 = w.alloc (.cells #[.int .i64 (m : Int)] 3) := ⟨_, rfl⟩
  have hbw : Below w.heap.size w w0 := by rw [hw0]; exact (Below.refl _ w).alloc (Nat.le_refl _) _
  have T0 : LTabs w0 := T.below (Nat.le_refl _) hbw
  have hlt0 : w.heap.size < w0.heap.size := by rw [hw0]; simp
  have hk0 : w0.heap[w.heap.size]? = some (.cells #[.int .i64 (m : Int)] 3 (0, 0)) := by rw [hw0]; exact World.alloc_heap_new w _
  have HB := Lib.hid (begins_i (LInv.start T0))
  obtain ⟨xs, hxe⟩ : ∃ xs, Hid (xs = (frontR s).1) := ⟨_, rfl⟩
  rw [← hxe.out] at hxs hn
  have HF : Hid (∀ W, Calls Tryd.prog 25 #[.string s] W fun e w' => ∃ oa cap, e = .returned (.tuple #[.slice oa xs.length cap, .int .i64 (frontR s).2.2, .int .i64 (frontR s).2.1]) ∧ w'.ownsRow W.heap.size 38 4 (.slice oa xs.length cap) xs.length (rowR xs) ∧ xs.length ≤ cap ∧ (0 < xs.length → ∃ g, oa = some ⟨g, 0, none⟩) ∧ Below W.heap.size W w') := fun W => by
    refine (front_any s (by omega) W).mono ?_
    rintro e w' ⟨⟨v, rfl, h1, h2⟩, hb⟩
    rw [← hxe.out] at h1 h2
    have t := tokRow_owns h1
    obtain ⟨oa, cap, rfl, _⟩ := id t
    refine ⟨oa, cap, rfl, h1, ?_, ?_, hb⟩
    · rcases h1.2 with ⟨hv, h0⟩ | ⟨g, cap', cur, hv, _, _, hle, _⟩
      · omega
      · cases hv; exact hle
    · intro hp
      rcases h1.2 with ⟨hv, h0⟩ | ⟨g, cap', cur, hv, _, _, hle, _⟩
      · omega
      · cases hv; exact ⟨g, rfl⟩
  generalize (frontR s).2.1 = fa at HF
  generalize (frontR s).2.2 = fr at HF
  obtain ⟨n, hnn⟩ : ∃ n, Hid (n = xs.length) := ⟨_, rfl⟩
  rw [← hnn.out] at HF hn hxs
  have HBW := Lib.hid hbw
  have HK0 := Lib.hid hk0
  have HW0 := Lib.hid hw0
  have HT := Lib.hid T
  obtain ⟨i0, hi, hz0, hz1, hz2⟩ := info_parts infoTok
  clear T T0 hbw hk0 hw0
  have hnA : m ≤ n := Nat.le_of_eq hn
  have hnB : n ≤ m := Nat.le_of_eq hn.symm
  clear hn
  have hk' : decide ((m : Int) < 1) = false := by simp; omega
  have hmn : decide (m < n) = false := by simp; omega
  have hmn' : ¬ (m : Int) < (n : Int) := by omega
  refine (callsIn_wide (n := 3)).1 ?_
  refine callsIn_of_wp_marks Tryd.func5 rfl trivial ?_ rfl
  simp only [Tryd.ntmps5, List.size_toArray, List.length_cons, List.length_nil, Nat.reduceAdd, Nat.reduceSub, Array.replicate_succ, Array.replicate_zero, List.push_toArray, List.append_toArray, List.nil_append, List.cons_append]
  gi_wp2_with (first
    | (with_reducible rw [← HW0.out])
    | ((refine ⟨trivial, ?_⟩); gi_at_call 21; refine (callsIn_wide.2 HB.out).mono ?_; rintro e w1 ⟨rfl, hI⟩; have HI := Lib.hid hI; clear hI)
    | ((refine ⟨trivial, ?_⟩); gi_at_call 25; refine (callsIn_wide.2 (HF.out _)).mono ?_; rintro e w2 ⟨oa, cap, rfl, htr, hcap, hoa, hb2⟩; have HI2 := Lib.hid (HI.out.next hb2); have HTR := Lib.hid htr; have hz22 := HI2.out.below.size; have HK2 : Hid (Boxed w2 w.heap.size 3 (.int .i64 (m : Int))) := (HI2.out.below.block _ hlt0).trans HK0.out; have k1 := HK2.out.cell; have k2 := HK2.out.frozen; have hz11 := HI.out.below.size; clear hb2 htr; obtain ⟨go, rfl⟩ := hoa (by omega))
    | ((refine ⟨trivial, ?_⟩); gi_at_call 26; refine (callsIn_wide.2 (each_any s hs _)).mono ?_; rintro e w6 ⟨c, rfl, hcc, hbx, hb6⟩))
  have hp2 : w2.heap.size = w2.heap.size := by rfl
  have HK6 : Hid (Boxed w6 w.heap.size 3 (.int .i64 (m : Int))) := (hb6.block _ (by rw [hp2]; omega)).trans (HK2.out)
  have I6 : Hid (LInv w w6) := LInv.make HT.out ((HBW.out.trans (HI2.out.below.mono HBW.out.size)).trans (hb6.mono (by rw [hp2]; omega)))
  have HX6 := Lib.hid hbx
  have HT2 : Hid (TokRow w2 (.slice (some ⟨go, 0, none⟩) n cap) xs) := by
    have k := HTR.out
    rw [Hid]; rw [hnn.out] at k ⊢; exact tokRow_owns k
  have HL6 : Hid (TokRow w6 (.slice (some ⟨go, 0, none⟩) n cap) (xs.take m)) := by
    rw [Hid, List.take_of_length_le (by rw [← hnn.out]; omega)]; exact HT2.out.keep hb6
  have hb3 : w.heap.size < w6.heap.size := HK6.out.lt
  clear hb6 hbx hcc HTR HT2 hp2
  refine wpIn_loop_rounds 3 ?_
  rw [roundsIn_succ]
  gi_wp2
  refine act_name (fun A0 hA0 => ?_)
  have hID1 : ∀ (pre : List Res) (A B : World), (Lst w6.heap.size w6.heap.size pre A ∧ Below w6.heap.size w6 A ∧ (pre.length : Int) < (m : Int)) → Keep (selC w6.heap.size) A B → (Lst w6.heap.size w6.heap.size pre B ∧ Below w6.heap.size w6 B ∧ (pre.length : Int) < (m : Int)) :=
    fun pre A B h hk => ⟨h.1.keepC hk, h.2.1.trans (hk.below h.2.1.size (fun k _ hk => .inl hk)), h.2.2⟩
  refine wpIn_range_keep (n := 3) rfl (by omega) (gf := 45) (fst := #[]) (lb := #[.pointer (some ⟨c, 0, none⟩)]) (by rw [hA0]; rfl) trivial (enters_of Tryd.func45 (by kernel_rfl) rfl)
    (encs := encR) (fun _ => rfl) (selO w6.heap.size) (selY w6.heap.size) (selC w6.heap.size)
    (fun k o ho => .inr (fun ⟨_, _, e⟩ => by rw [e] at ho; cases ho))
    (fun k o hk ho => by
      rcases ho with ho | ⟨_, _, e⟩ | ⟨_, _, e⟩
      · exact absurd ho (by simp at hk; omega)
      · rw [e]; rfl
      · rw [e]; rfl)
    (fun k o hk ho => by
      rcases ho with ho | ho
      · exact absurd ho (by simp at hk; omega)
      · exact ho.1)
    (fun k o ho => by
      rcases ho with ho | ho
      · exact .inl ho
      · exact .inr ho.2)
    (S := fun ys _ => ys = (frontR s).1) (Sp := fun _ _ => True) (ok := okR s)
    (fun l J Jx W hbW hJ hJx hYl hJ0 => each2_in 2 l c s hs w6 I6.out.tabs J Jx hJ hJx hYl W (((Below.refl _ w6).alloc (Nat.le_refl _) _).trans (hbW.mono (by simp))) ((hbW.block _ (by simp; have := HX6.out.lt; omega)).trans ((Below.heap_alloc _ _ _ HX6.out.lt).trans HX6.out)) hJ0)
    (fun pre W => Lst w6.heap.size w6.heap.size pre W ∧ Below w6.heap.size w6 W ∧ (pre.length : Int) < (m : Int))
    (fun c pre W => c = .exit 2 ∧ Lst w6.heap.size w6.heap.size pre W ∧ Below w6.heap.size w6 W ∧ pre = xs.take (m : Int).toNat ∧ (m : Int) ≤ (pre.length : Int))
    hID1
    (fun c pre A B h hk => ⟨h.1, h.2.1.keepC hk, h.2.2.1.trans (hk.below h.2.2.1.size (fun k _ hk => .inl hk)), h.2.2.2⟩)
    ⟨⟨_, World.alloc_heap_new w6 _, World.ownsRow_nil _ _ _ _, by simp⟩, (Below.refl _ w6).alloc (Nat.le_refl _) _, (by first | (simp; done) | (simp; omega))⟩
    (fun x a' W => ∃ Bx, TokBox W Bx x ∧ a' = { tmps := (A0.tmps.setIfInBounds 39 (tokV x.kind x.text x.wd x.place)).setIfInBounds 11 (.pointer (some ⟨Bx, 0, none⟩)), defers := [] })
    (fun x a' A B h hk => by
      obtain ⟨Bx, h1, h2⟩ := h
      exact ⟨Bx, hk.block _ _ h1 (.inr ⟨rfl, not_ty (by decide)⟩), h2⟩)
    ?assignD1 ?bodyD1 ?doneD1 ?stopD1
  case assignD1 =>
    rintro l pre x W K hi hK
    have HI0 := Lib.hid hi
    have HKK := Lib.hid hK
    obtain ⟨rk, rx, rw0, rp, ra, rr⟩ := x
    clear hi hK
    subst hA0
    simp only [encR, tokV]
    gi_wp2
    exact HKK.out _ _ ((Keep.refl _ W).alloc _) (hID1 _ _ _ HI0.out ((Keep.refl _ W).alloc _)) ⟨W.heap.size, World.alloc_heap_new W _, rfl⟩
  case bodyD1 =>
    rintro l pre x a' W ⟨⟨v, hv, hrow, hnil⟩, hB, hpl⟩ ⟨Bx, hbx, rfl⟩ hok
    have hlen := okR_len hok hs
    have HOK := Lib.hid hok
    have hps : x = x := rfl
    obtain ⟨rk, rx, rw0, rp, ra, rr⟩ := x
    obtain ⟨⟨t0, t1, t2, t3⟩, _⟩ := row4 hbx
    have hc := hv.cell
    have HB5 := Lib.hid hB
    have hst3 := (hB.cell (p := ⟨w.heap.size, 0, none⟩) (by omega)).trans HK6.out.cell
    have hBs : w6.heap.size ≤ W.heap.size := hB.size
    have HBX := Lib.hid hbx
    clear hB hbx hok hps
    subst hA0
    simp only [tokV, List.setIfInBounds_toArray, List.set_cons_succ, List.set_cons_zero]
    by_cases hge : (m : Int) ≤ (pre.length : Int) + 1
    · have hge' : (m : Int) ≤ ((pre.length + 1 : Nat) : Int) := by omega
      gi_wp2_with (gi_at_builtin; refine wpListIn_append_own _ rfl _ _ 24 rfl (w6.heap.size) 38 i0 _ 4 40 Tryd.underlying24 hi hz0 hz1 hz2 rfl (by decide) _ _ _ rfl (hrow.alloc _) ⟨W.heap.size, 0, none⟩ 1 1 [.int .u8 rk, .string rx, .int .i64 rw0, .int .i64 rp] rfl rfl (fun j u hj => cell_four (World.alloc_heap_new W _) j u hj) (by simp [Value.oneCell']) (by simp only [maxLen]; omega) (by omega) (by simp; omega) ?_; intro v' w1 hown' hgrow _; obtain ⟨g', cap', rfl⟩ := ownsRow_succ hown'; obtain ⟨hv1, hv2, hr2, _, hb2⟩ := hv.appended (by decide) hrow hBs (by omega) hown' hgrow; have hc1 := hv1.cell; have hf1 := hv1.frozen; have hc2 := hv2.cell; have hst4 := (hb2.cell (p := ⟨w.heap.size, 0, none⟩) (by omega)).trans hst3)
      refine ⟨appended_keep (sel := selB w6.heap.size) hrow hgrow hv1 (fun g cs hg => notB hg (by decide) (by decide)) (fun cs => notB (by omega) (by decide) (by decide)), rfl, ⟨_, hv2, ?_, ?_⟩, HB5.out.trans hb2, ?_, ?_⟩
      · rw [rowR_snoc, List.length_append]; exact hr2
      · simp
      · exact okR_take HOK.out hxe.out hpl hge
      · simp; omega
    · have hge' : ¬ (m : Int) ≤ ((pre.length + 1 : Nat) : Int) := by omega
      gi_wp2_with (gi_at_builtin; refine wpListIn_append_own _ rfl _ _ 24 rfl (w6.heap.size) 38 i0 _ 4 40 Tryd.underlying24 hi hz0 hz1 hz2 rfl (by decide) _ _ _ rfl (hrow.alloc _) ⟨W.heap.size, 0, none⟩ 1 1 [.int .u8 rk, .string rx, .int .i64 rw0, .int .i64 rp] rfl rfl (fun j u hj => cell_four (World.alloc_heap_new W _) j u hj) (by simp [Value.oneCell']) (by simp only [maxLen]; omega) (by omega) (by simp; omega) ?_; intro v' w1 hown' hgrow _; obtain ⟨g', cap', rfl⟩ := ownsRow_succ hown'; obtain ⟨hv1, hv2, hr2, _, hb2⟩ := hv.appended (by decide) hrow hBs (by omega) hown' hgrow; have hc1 := hv1.cell; have hf1 := hv1.frozen; have hc2 := hv2.cell; have hst4 := (hb2.cell (p := ⟨w.heap.size, 0, none⟩) (by omega)).trans hst3)
      refine ⟨appended_keep (sel := selB w6.heap.size) hrow hgrow hv1 (fun g cs hg => notB hg (by decide) (by decide)) (fun cs => notB (by omega) (by decide) (by decide)), ⟨_, hv2, ?_, ?_⟩, HB5.out.trans hb2, ?_⟩
      · rw [rowR_snoc, List.length_append]; exact hr2
      · simp
      · simp; omega

  case doneD1 =>
    rintro D ys W1 W _ hys ⟨_, _, hlt⟩ _ _
    have e : ys = xs := hys.trans hxe.out.symm
    rw [e, ← hnn.out] at hlt
    omega
  case stopD1 =>
    rintro D1 cc pre W1 W5 hDD1 _ ⟨rfl, ⟨v1, hvD1, hrowD1, _⟩, hBD1, hpp, _⟩ _ hKD1
    subst hpp
    have HVD1 := Lib.hid hvD1
    have TRD1 := Lib.hid (tokRow_owns hrowD1)
    have HBD1 := Lib.hid hBD1
    have HMD1 := Lib.hid hKD1
    have hsD1 := hBD1.size
    have cD1 := hvD1.cell
    clear hKD1 hrowD1 hvD1 hBD1
    subst hA0
    gi_wp2_with ((refine ⟨trivial, ?_⟩); gi_at_call 24; refine (callsIn_wide.2 (same_true _ _ _ (xs.take ((m : Int)).toNat) (xs.take m) TRD1.out (HL6.out.keep HBD1.out) (EqToks.rfl' _ _) (by first | omega | (rw [List.length_take, ← hnn.out]; omega) | (rw [← hnn.out]; omega)))).mono ?_; rintro e w8 ⟨rfl, m1, rfl⟩)
    obtain ⟨W7, hW7⟩ : ∃ W7, W7 = W5.drewN m1 := ⟨_, rfl⟩
    rw [← hW7]
    have B7 : Hid (Below w6.heap.size w6 W7) := by rw [Hid, hW7]; exact HBD1.out.trans ((below_drewN (Below.refl _ W5) m1).mono HBD1.out.size)
    have M1 : Hid (W7.heap[D1]? = some (.deferred (some []))) := by rw [Hid, hW7]; exact HMD1.out
    clear hW7
    have HK7 : Hid (Boxed W7 w.heap.size 3 (.int .i64 (m : Int))) := (B7.out.block _ hb3).trans HK6.out
    have I7 := Lib.hid (I6.out.next B7.out)
    have HX7 : Hid (Boxed W7 c 9 (.string s)) := (B7.out.block _ HX6.out.lt).trans HX6.out
    have HL7 := Lib.hid (HL6.out.keep B7.out)
    have hb37 : w.heap.size < W7.heap.size := HK7.out.lt
    rw [roundsIn_succ]
    gi_wp2
    refine act_name (fun A0 hA0 => ?_)
    have hID2 : ∀ (pre : List Res) (A B : World), (Lst W7.heap.size W7.heap.size pre A ∧ Below W7.heap.size W7 A ∧ (pre.length : Int) < (m : Int)) → Keep (selC W7.heap.size) A B → (Lst W7.heap.size W7.heap.size pre B ∧ Below W7.heap.size W7 B ∧ (pre.length : Int) < (m : Int)) :=
      fun pre A B h hk => ⟨h.1.keepC hk, h.2.1.trans (hk.below h.2.1.size (fun k _ hk => .inl hk)), h.2.2⟩
    refine wpIn_range_keep (n := 3) rfl (by omega) (gf := 45) (fst := #[]) (lb := #[.pointer (some ⟨c, 0, none⟩)]) (by rw [hA0]; rfl) trivial (enters_of Tryd.func45 (by kernel_rfl) rfl)
      (encs := encR) (fun _ => rfl) (selO W7.heap.size) (selY W7.heap.size) (selC W7.heap.size)
      (fun k o ho => .inr (fun ⟨_, _, e⟩ => by rw [e] at ho; cases ho))
      (fun k o hk ho => by
        rcases ho with ho | ⟨_, _, e⟩ | ⟨_, _, e⟩
        · exact absurd ho (by simp at hk; omega)
        · rw [e]; rfl
        · rw [e]; rfl)
      (fun k o hk ho => by
        rcases ho with ho | ho
        · exact absurd ho (by simp at hk; omega)
        · exact ho.1)
      (fun k o ho => by
        rcases ho with ho | ho
        · exact .inl ho
        · exact .inr ho.2)
      (S := fun ys _ => ys = (frontR s).1) (Sp := fun _ _ => True) (ok := okR s)
      (fun l J Jx W hbW hJ hJx hYl hJ0 => each2_in 2 l c s hs W7 I7.out.tabs J Jx hJ hJx hYl W (((Below.refl _ W7).alloc (Nat.le_refl _) _).trans (hbW.mono (by simp))) ((hbW.block _ (by simp; have := HX7.out.lt; omega)).trans ((Below.heap_alloc _ _ _ HX7.out.lt).trans HX7.out)) hJ0)
      (fun pre W => Lst W7.heap.size W7.heap.size pre W ∧ Below W7.heap.size W7 W ∧ (pre.length : Int) < (m : Int))
      (fun c pre W => c = .exit 2 ∧ Lst W7.heap.size W7.heap.size pre W ∧ Below W7.heap.size W7 W ∧ pre = xs.take (m : Int).toNat ∧ (m : Int) ≤ (pre.length : Int))
      hID2
      (fun c pre A B h hk => ⟨h.1, h.2.1.keepC hk, h.2.2.1.trans (hk.below h.2.2.1.size (fun k _ hk => .inl hk)), h.2.2.2⟩)
      ⟨⟨_, World.alloc_heap_new W7 _, World.ownsRow_nil _ _ _ _, by simp⟩, (Below.refl _ W7).alloc (Nat.le_refl _) _, (by first | (simp; done) | (simp; omega))⟩
      (fun x a' W => ∃ Bx, TokBox W Bx x ∧ a' = { tmps := (A0.tmps.setIfInBounds 39 (tokV x.kind x.text x.wd x.place)).setIfInBounds 11 (.pointer (some ⟨Bx, 0, none⟩)), defers := [] })
      (fun x a' A B h hk => by
        obtain ⟨Bx, h1, h2⟩ := h
        exact ⟨Bx, hk.block _ _ h1 (.inr ⟨rfl, not_ty (by decide)⟩), h2⟩)
      ?assignD2 ?bodyD2 ?doneD2 ?stopD2
    case assignD2 =>
      rintro l pre x W K hi hK
      have HI0 := Lib.hid hi
      have HKK := Lib.hid hK
      obtain ⟨rk, rx, rw0, rp, ra, rr⟩ := x
      clear hi hK
      subst hA0
      simp only [encR, tokV]
      gi_wp2
      exact HKK.out _ _ ((Keep.refl _ W).alloc _) (hID2 _ _ _ HI0.out ((Keep.refl _ W).alloc _)) ⟨W.heap.size, World.alloc_heap_new W _, rfl⟩
    case bodyD2 =>
      rintro l pre x a' W ⟨⟨v, hv, hrow, hnil⟩, hB, hpl⟩ ⟨Bx, hbx, rfl⟩ hok
      have hlen := okR_len hok hs
      have HOK := Lib.hid hok
      have hps : x = x := rfl
      obtain ⟨rk, rx, rw0, rp, ra, rr⟩ := x
      obtain ⟨⟨t0, t1, t2, t3⟩, _⟩ := row4 hbx
      have hc := hv.cell
      have HB5 := Lib.hid hB
      have hst3 := (hB.cell (p := ⟨w.heap.size, 0, none⟩) (by omega)).trans HK7.out.cell
      have hBs : W7.heap.size ≤ W.heap.size := hB.size
      have HBX := Lib.hid hbx
      clear hB hbx hok hps
      subst hA0
      simp only [tokV, List.setIfInBounds_toArray, List.set_cons_succ, List.set_cons_zero]
      by_cases hge : (m : Int) ≤ (pre.length : Int) + 1
      · have hge' : (m : Int) ≤ ((pre.length + 1 : Nat) : Int) := by omega
        gi_wp2_with (gi_at_builtin; refine wpListIn_append_own _ rfl _ _ 24 rfl (W7.heap.size) 38 i0 _ 4 40 Tryd.underlying24 hi hz0 hz1 hz2 rfl (by decide) _ _ _ rfl (hrow.alloc _) ⟨W.heap.size, 0, none⟩ 1 1 [.int .u8 rk, .string rx, .int .i64 rw0, .int .i64 rp] rfl rfl (fun j u hj => cell_four (World.alloc_heap_new W _) j u hj) (by simp [Value.oneCell']) (by simp only [maxLen]; omega) (by omega) (by simp; omega) ?_; intro v' w1 hown' hgrow _; obtain ⟨g', cap', rfl⟩ := ownsRow_succ hown'; obtain ⟨hv1, hv2, hr2, _, hb2⟩ := hv.appended (by decide) hrow hBs (by omega) hown' hgrow; have hc1 := hv1.cell; have hf1 := hv1.frozen; have hc2 := hv2.cell; have hst4 := (hb2.cell (p := ⟨w.heap.size, 0, none⟩) (by omega)).trans hst3)
        refine ⟨appended_keep (sel := selB W7.heap.size) hrow hgrow hv1 (fun g cs hg => notB hg (by decide) (by decide)) (fun cs => notB (by omega) (by decide) (by decide)), rfl, ⟨_, hv2, ?_, ?_⟩, HB5.out.trans hb2, ?_, ?_⟩
        · rw [rowR_snoc, List.length_append]; exact hr2
        · simp
        · exact okR_take HOK.out hxe.out hpl hge
        · simp; omega
      · have hge' : ¬ (m : Int) ≤ ((pre.length + 1 : Nat) : Int) := by omega
        gi_wp2_with (gi_at_builtin; refine wpListIn_append_own _ rfl _ _ 24 rfl (W7.heap.size) 38 i0 _ 4 40 Tryd.underlying24 hi hz0 hz1 hz2 rfl (by decide) _ _ _ rfl (hrow.alloc _) ⟨W.heap.size, 0, none⟩ 1 1 [.int .u8 rk, .string rx, .int .i64 rw0, .int .i64 rp] rfl rfl (fun j u hj => cell_four (World.alloc_heap_new W _) j u hj) (by simp [Value.oneCell']) (by simp only [maxLen]; omega) (by omega) (by simp; omega) ?_; intro v' w1 hown' hgrow _; obtain ⟨g', cap', rfl⟩ := ownsRow_succ hown'; obtain ⟨hv1, hv2, hr2, _, hb2⟩ := hv.appended (by decide) hrow hBs (by omega) hown' hgrow; have hc1 := hv1.cell; have hf1 := hv1.frozen; have hc2 := hv2.cell; have hst4 := (hb2.cell (p := ⟨w.heap.size, 0, none⟩) (by omega)).trans hst3)
        refine ⟨appended_keep (sel := selB W7.heap.size) hrow hgrow hv1 (fun g cs hg => notB hg (by decide) (by decide)) (fun cs => notB (by omega) (by decide) (by decide)), ⟨_, hv2, ?_, ?_⟩, HB5.out.trans hb2, ?_⟩
        · rw [rowR_snoc, List.length_append]; exact hr2
        · simp
        · simp; omega

    case doneD2 =>
      rintro D ys W1 W _ hys ⟨_, _, hlt⟩ _ _
      have e : ys = xs := hys.trans hxe.out.symm
      rw [e, ← hnn.out] at hlt
      omega
    case stopD2 =>
      rintro D2 cc pre W1 W9 hDD2 _ ⟨rfl, ⟨v2, hvD2, hrowD2, _⟩, hBD2, hpp, _⟩ _ hKD2
      subst hpp
      have HVD2 := Lib.hid hvD2
      have TRD2 := Lib.hid (tokRow_owns hrowD2)
      have HBD2 := Lib.hid hBD2
      have HMD2 := Lib.hid hKD2
      have hsD2 := hBD2.size
      have cD2 := hvD2.cell
      clear hKD2 hrowD2 hvD2 hBD2
      subst hA0
      gi_wp2_with ((refine ⟨trivial, ?_⟩); gi_at_call 24; refine (callsIn_wide.2 (same_true _ _ _ (xs.take ((m : Int)).toNat) (xs.take m) TRD2.out (HL7.out.keep HBD2.out) (EqToks.rfl' _ _) (by first | omega | (rw [List.length_take, ← hnn.out]; omega) | (rw [← hnn.out]; omega)))).mono ?_; rintro e w8 ⟨rfl, m2, rfl⟩)
      rw [roundsIn_succ]
      gi_wp2
      have z5 := I7.out.below.size
      have hDD : D1 < W7.heap.size := (Array.getElem?_eq_some_iff.1 M1.out).1
      have zw6 := I6.out.below.size
      have e2 : (W9.drewN m2).heap[D2]? = some (.deferred (some [])) := HMD2.out
      have e1 : ((W9.drewN m2).putObj D2 (.deferred none)).heap[D1]? = some (.deferred (some [])) := (World.putObj_heap_other (by simp at hDD2; omega)).trans ((HBD2.out.block _ hDD).trans M1.out)
      have kF : Keep (fun k o => k < w.heap.size) (W9.drewN m2) (((W9.drewN m2).putObj D2 (.deferred none)).putObj D1 (.deferred none)) :=
        ((Keep.refl _ _).putObj _ e2 (by simp at hDD2; omega)).putObj _ e1 (by simp at hDD1; omega)
      have I9 : LInv w (((W9.drewN m2).putObj D2 (.deferred none)).putObj D1 (.deferred none)) :=
        LInv.make HT.out ((I7.out.next HBD2.out).below.trans ((below_drewN (Below.refl _ W9) m2).mono (I7.out.next HBD2.out).below.size |>.trans (kF.below (I7.out.next HBD2.out).below.size (fun k o hk => hk))))
      refine ⟨by simp, .inl ⟨_, _, rfl, run_takeDeferred e2, ⟨by simp, .inl ⟨_, _, rfl, run_takeDeferred e1, ?_⟩⟩⟩⟩
      exact ⟨.bool true, by simp [results, Tryd.results5, go_sem], rfl, I9⟩
end Go.Proofs.YteedpojchapjgaaDoor

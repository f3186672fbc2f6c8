/- The lexer's laws: a fault stays, and the tokens ahead of it. -/
import Derived.Test.YteedpojchapjgaaDoorFaults2
import Derived.Test.YteedpojchapjgaaDoorEach
namespace Go.Proofs.YteedpojchapjgaaDoor
open Go.RowKit Go.Shelf
set_option linter.unusedVariables false
attribute [local go_sem] Oper.semAt_some

set_option maxRecDepth 100000 in
set_option maxHeartbeats 16000000 in
theorem faults_main (s t : ByteArray) (w : World) (T : LTabs w) (h : (scanX s).2.1 = 20) (d E : Nat) (hd : (frontR s).2.1 = (d : Int)) (hdE : d < E) (hE : E ≤ s.size) (hE2 : E = d + spanN feedB (bytesFrom s d)) (h1 : 1 ≤ (frontR s).2.2) (h4 : (frontR s).2.2 ≤ 4)
    (hU : ∀ U : ByteArray, ∀ t : List UInt8, U.data.toList = s.data.toList.take E ++ 10 :: t → frontR U = frontR s)
    (hl : ¬ 65536 < E + 1 + t.size) :
    Calls Tryd.prog 11 #[.string s, .string t] w fun e w' => e = .returned (.bool true) ∧ LInv w w' := by
  obtain ⟨hs, hfr0, hX⟩ := scan_fault h
  have HB := Lib.hid (begins_i (LInv.start T))
  obtain ⟨U, hUe⟩ : ∃ U : ByteArray, U = s.extract 0 E ++ ⟨#[10]⟩ ++ t := ⟨_, rfl⟩
  have hUs : (s.extract 0 E ++ { data := #[10] } ++ t : ByteArray) = U := hUe.symm
  have hUz : U.size ≤ 65536 := by
    rw [hUe, ByteArray.size_append, ByteArray.size_append]
    have e1 : (s.extract 0 E).size = E := by simp; omega
    rw [e1]; show E + 1 + t.size ≤ _; omega
  have hUf : frontR U = frontR s := hU U t.data.toList (by rw [hUe]; exact join_list s t E)
  have HA : Hid (∀ W, LInv w W → Calls Tryd.prog 22 #[.string s] W fun e w' => e = .returned (.tuple #[.slice none 0 0, .int .i64 20, .agg #[.int .i64 d, .int .i64 (frontR s).2.2]]) ∧ Below W.heap.size W w') := fun W I => by
    have k := scan_row s I
    rw [hX, hd] at k
    refine k.mono ?_
    rintro e w' ⟨u, rfl, h1, h2, hb⟩
    rw [h2.2 rfl]
    exact ⟨rfl, hb⟩
  have HU : Hid (∀ W, LInv w W → Calls Tryd.prog 22 #[.string U] W fun e w' => e = .returned (.tuple #[.slice none 0 0, .int .i64 20, .agg #[.int .i64 d, .int .i64 (frontR s).2.2]]) ∧ Below W.heap.size W w') := fun W I => by
    have hXU : scanX U = ([], 20, (frontR U).2.1, (frontR U).2.2) := by
      unfold scanX
      rw [if_neg (by omega), if_neg (by rw [hUf]; exact hfr0)]
    have k := scan_row U I
    rw [hXU, hUf, hd] at k
    refine k.mono ?_
    rintro e w' ⟨u, rfl, h1, h2, hb⟩
    rw [h2.2 rfl]
    exact ⟨rfl, hb⟩
  have hxs := front_len s
  obtain ⟨xs, hxe⟩ : ∃ xs, Hid (xs = (frontR s).1) := ⟨_, rfl⟩
  have hxU : Hid ((frontR U).1 = xs) := by rw [Hid, hUf]; exact hxe.out.symm
  rw [← hxe.out] at hxs
  generalize (frontR s).2.2 = fr at HA HU h1 h4
  have hbs := PlainAid.get_bt s
  have HE := Lib.hid hE2
  have hl' : ¬ (65536 : Int) < (E : Int) + 1 + (t.size : Int) := by omega
  have n0 : decide ((d : Int) < 0) = false := by simp
  have n1 : decide (s.size ≤ d) = false := by simp; omega
  have n2 : decide (fr < 1) = false := by simp; omega
  have n3 : decide (4 < fr) = false := by simp; omega
  have HT := Lib.hid T
  obtain ⟨i0, hi, hz0, hz1, hz2⟩ := info_parts infoTok
  clear T h hX hE2 hd hUe hU hUf hfr0
  refine (callsIn_wide (n := 3)).1 ?_
  refine callsIn_of_wp_marks Tryd.func11 rfl trivial ?_ rfl
  simp only [Tryd.ntmps11, List.size_toArray, List.length_cons, List.length_nil, Nat.reduceAdd, Nat.reduceSub, Array.replicate_succ, Array.replicate_zero, List.push_toArray, List.append_toArray, List.nil_append, List.cons_append]
  gi_wp2_with ((refine ⟨trivial, ?_⟩); first
    | (gi_at_call 21; refine (callsIn_wide.2 HB.out).mono ?_; rintro e w1 ⟨rfl, hI⟩; have HI := Lib.hid hI; clear hI)
    | (gi_at_call 22; refine (callsIn_wide.2 (HA.out _ HI.out)).mono ?_; rintro e w2 ⟨rfl, hb⟩; have HJ := Lib.hid ((HI.out.next hb).next ((Below.refl _ w2).alloc (Nat.le_refl _) (.cells #[.int .i64 d, .int .i64 fr] 27))); clear hb))
  gi_loopw [8] (fun i wr => wr = w2.alloc (.cells #[.int .i64 d, .int .i64 fr] 27) ∧ ∃ j : Nat, d ≤ j ∧ j ≤ E ∧ i = .int .i64 j ∧ Hid (j + spanN feedB (bytesFrom s j) = E)) (fun i _ => E - (intOf i).toNat)
  case atStart => exact ⟨rfl, d, Nat.le_refl _, Nat.le_of_lt hdE, rfl, HE.out.symm⟩
  case round =>
    obtain ⟨rfl, j, hdj, hjE, rfl, hj⟩ := hrel
    by_cases hlt : j < E
    · have hjs : j < s.size := by omega
      have hjs' : (j : Int) < (s.size : Int) := by omega
      obtain ⟨h10, hj2⟩ := feed_next hjs hj.out hlt
      have HJ2 := Lib.hid hj2
      clear hj hj2
      gi_wp2
      go_roundw
      case rel => exact ⟨by trivial, j + 1, by omega, by omega, by go_num, HJ2.out⟩
      case measure => simp [intOf]; omega
    · obtain rfl : j = E := by omega
      have hjj := feed_last hE hj.out
      rcases hjj with hjs | ⟨hjs, h10⟩
      · have hjs' : ¬ (j : Int) < (s.size : Int) := by omega
        clear hj HE hbs
        gi_wp2_with (first | (with_reducible rw [hUs]) | ((refine ⟨trivial, ?_⟩); gi_at_call 22; refine (callsIn_wide.2 (HU.out _ HJ.out)).mono ?_; rintro e w3 ⟨rfl, hb⟩; have HK := Lib.hid hb; clear hb))
        obtain ⟨W0, hW0⟩ : ∃ W0, W0 = w3.alloc (Obj.cells #[Value.int IntKind.i64 ↑d, Value.int IntKind.i64 fr] 27) := ⟨_, rfl⟩
        rw [← hW0]
        have hzW : Hid (W0.heap.size = w3.heap.size + 1) := by rw [Hid, hW0]; simp
        have hzA : W0.heap.size ≤ w3.heap.size + 1 := by rw [hzW.out]; omega
        have hzB : w3.heap.size + 1 ≤ W0.heap.size := by rw [hzW.out]; omega
        have I0 : Hid (LInv w W0) := by rw [hW0]; exact (HJ.out.next HK.out).next ((Below.refl _ w3).alloc (Nat.le_refl _) _)
        have hlt2 : w2.heap.size < w3.heap.size := by have := HK.out.size; simp at this; omega
        have F1 : Hid (W0.heap[w2.heap.size]? = some (.cells #[.int .i64 d, .int .i64 fr] 27 (0, 0))) := by rw [hW0]; exact (Below.heap_alloc _ _ _ hlt2).trans ((HK.out.block _ (by simp)).trans (World.alloc_heap_new w2 _))
        have F2 : Hid (W0.heap[w3.heap.size]? = some (.cells #[.int .i64 d, .int .i64 fr] 27 (0, 0))) := by rw [hW0]; exact World.alloc_heap_new w3 _
        clear hW0 HK
        have hnew := World.alloc_heap_new W0 (Obj.cells #[Value.slice none 0 0] 24)
        rw [hzW.out] at hnew
        have HNEW := Lib.hid hnew
        clear hnew
        refine ⟨trivial, ?_⟩
        refine (callsIn_wide.2 (each_any s hs _)).mono ?_
        rintro e w4 ⟨c1, rfl, hc1, hbx1, hb4⟩
        have B4 : Hid (Below W0.heap.size W0 w4) := ((Below.refl _ W0).alloc (Nat.le_refl _) _).trans (hb4.mono (by simp))
        have X4 := Lib.hid hbx1
        have L4 : Hid (Lst W0.heap.size (w3.heap.size + 1) [] w4) := ⟨_, (hb4.block _ (by rw [World.size_alloc, hzW.out]; omega)).trans HNEW.out, World.ownsRow_nil _ _ _ _, by simp⟩
        clear hc1 hbx1 hb4
        gi_wp2
        refine act_name (fun A0 hA0 => ?_)
        have hID1 : ∀ (pre : List Res) (A B : World), (Lst W0.heap.size (w3.heap.size + 1) pre A ∧ Below W0.heap.size W0 A) → Keep (selC W0.heap.size) A B → (Lst W0.heap.size (w3.heap.size + 1) pre B ∧ Below W0.heap.size W0 B) :=
          fun pre A B h hk => ⟨h.1.keepC hk, h.2.trans (hk.below h.2.size (fun k _ hk => .inl hk))⟩
        refine wpIn_range_keep (n := 3) rfl (by omega) (gf := 45) (fst := #[]) (lb := #[.pointer (some ⟨c1, 0, none⟩)]) (by rw [hA0]; rfl) trivial (enters_of Tryd.func45 (by kernel_rfl) rfl)
          (encs := encR) (fun _ => rfl) (selO W0.heap.size) (selY W0.heap.size) (selC W0.heap.size)
          (fun k o ho => .inr (fun ⟨_, _, e⟩ => by rw [e] at ho; cases ho))
          (fun k o hk ho => by
            rcases ho with ho | ⟨_, _, e⟩ | ⟨_, _, e⟩
            · exact absurd ho (by have := B4.out.size; omega)
            · rw [e]; rfl
            · rw [e]; rfl)
          (fun k o hk ho => by
            rcases ho with ho | ho
            · exact absurd ho (by have := B4.out.size; omega)
            · exact ho.1)
          (fun k o ho => by
            rcases ho with ho | ho
            · exact .inl ho
            · exact .inr ho.2)
          (S := fun ys _ => ys = (frontR s).1) (Sp := fun _ _ => True) (ok := okR s)
          (fun l J Jx W hbW hJ hJx hYl hJ0 => each2_in 2 l c1 s hs W0 I0.out.tabs J Jx hJ hJx hYl W (B4.out.trans (hbW.mono B4.out.size)) ((hbW.block _ X4.out.lt).trans X4.out) hJ0)
          (fun pre W => Lst W0.heap.size (w3.heap.size + 1) pre W ∧ Below W0.heap.size W0 W)
          (fun _ _ _ => False)
          hID1
          (fun _ _ _ _ h _ => h)
          ⟨L4.out, B4.out⟩
          (fun x a' W => ∃ Bx, TokBox W Bx x ∧ a' = { tmps := (A0.tmps.setIfInBounds 84 (tokV x.kind x.text x.wd x.place)).setIfInBounds 12 (.pointer (some ⟨Bx, 0, none⟩)), defers := [] })
          (fun x a' A B h hk => by
            obtain ⟨Bx, h1, h2⟩ := h
            exact ⟨Bx, hk.block _ _ h1 (.inr ⟨rfl, not_ty (by decide)⟩), h2⟩)
          ?assignD1 ?bodyD1 ?doneD1 ?stopD1
        case assignD1 =>
          rintro l pre x W K hi hK
          have HI0 := Lib.hid hi
          have HKK := Lib.hid hK
          obtain ⟨rk, rx, rw0, rp, ra, rr⟩ := x
          clear hi hK
          subst hA0
          simp only [encR, tokV]
          gi_wp2
          exact HKK.out _ _ ((Keep.refl _ W).alloc _) (hID1 _ _ _ HI0.out ((Keep.refl _ W).alloc _)) ⟨W.heap.size, World.alloc_heap_new W _, rfl⟩
        case bodyD1 =>
          rintro l pre x a' W ⟨⟨v, hv, hrow, hnil⟩, hB⟩ ⟨Bx, hbx, rfl⟩ hok
          have hlen := okR_len hok hs
          obtain ⟨rk, rx, rw0, rp, ra, rr⟩ := x
          obtain ⟨⟨t0, t1, t2, t3⟩, _⟩ := row4 hbx
          have hc := hv.cell
          have HB5 := Lib.hid hB
          have hBs : W0.heap.size ≤ W.heap.size := hB.size
          have HBX := Lib.hid hbx
          clear hB hbx
          subst hA0
          simp only [tokV, List.setIfInBounds_toArray, List.set_cons_succ, List.set_cons_zero]
          gi_wp2_with (gi_at_builtin; refine wpListIn_append_own _ rfl _ _ 24 rfl (W0.heap.size) 38 i0 _ 4 40 Tryd.underlying24 hi hz0 hz1 hz2 rfl (by decide) _ _ _ rfl (hrow.alloc _) ⟨W.heap.size, 0, none⟩ 1 1 [.int .u8 rk, .string rx, .int .i64 rw0, .int .i64 rp] rfl rfl (fun j u hj => cell_four (World.alloc_heap_new W _) j u hj) (by simp [Value.oneCell']) (by simp only [maxLen]; omega) (by omega) (by simp; omega) ?_; intro v' w1 hown' hgrow _; obtain ⟨g', cap', rfl⟩ := ownsRow_succ hown'; obtain ⟨hv1, hv2, hr2, _, hb2⟩ := hv.appended (by decide) hrow hBs (by omega) hown' hgrow; have hc1 := hv1.cell; have hf1 := hv1.frozen)
          refine ⟨appended_keep (sel := selB W0.heap.size) hrow hgrow hv1 (fun g cs hg => notB hg (by decide) (by decide)) (fun cs => notB (by omega) (by decide) (by decide)), ⟨_, hv2, ?_, ?_⟩, HB5.out.trans hb2⟩
          · rw [rowR_snoc, List.length_append]; exact hr2
          · simp
        case stopD1 =>
          rintro D c pre W1 W _ _ h _ _
          exact h.elim
        case doneD1 =>
          rintro D1 ys W1 W5 hDD1 hys ⟨⟨v1, hvD1, hrowD1, hnilD1⟩, hBD1⟩ hkD1 hKD1
          obtain rfl : xs = ys := (hys.trans hxe.out.symm).symm
          have HVD1 := Lib.hid hvD1
          have HRD1 := Lib.hid hrowD1
          have HBD1 := Lib.hid hBD1
          have HMD1 := Lib.hid hKD1
          have hsD1 := hBD1.size
          clear hys hkD1 hKD1 hnilD1 hrowD1 hvD1 hBD1 hID1
          subst hA0
          gi_wp2_with (with_reducible rw [hUs])
          have I5 := Lib.hid (I0.out.next HBD1.out)
          refine ⟨trivial, ?_⟩
          refine (callsIn_wide.2 (each_any U hUz _)).mono ?_
          rintro e w6 ⟨c2, rfl, hc2, hbx2, hb6⟩
          have B6 : Hid (Below W5.heap.size W5 w6) := ((Below.refl _ W5).alloc (Nat.le_refl _) _).trans (hb6.mono (by simp))
          have X6 := Lib.hid hbx2
          have L6 : Hid (Lst W5.heap.size W5.heap.size [] w6) := ⟨_, (hb6.block _ (by simp)).trans (World.alloc_heap_new W5 _), World.ownsRow_nil _ _ _ _, by simp⟩
          clear hc2 hbx2 hb6
          gi_wp2
          refine act_name (fun A0 hA0 => ?_)
          have hID2 : ∀ (pre : List Res) (A B : World), (Lst W5.heap.size W5.heap.size pre A ∧ Below W5.heap.size W5 A) → Keep (selC W5.heap.size) A B → (Lst W5.heap.size W5.heap.size pre B ∧ Below W5.heap.size W5 B) :=
            fun pre A B h hk => ⟨h.1.keepC hk, h.2.trans (hk.below h.2.size (fun k _ hk => .inl hk))⟩
          refine wpIn_range_keep (n := 3) rfl (by omega) (gf := 45) (fst := #[]) (lb := #[.pointer (some ⟨c2, 0, none⟩)]) (by rw [hA0]; rfl) trivial (enters_of Tryd.func45 (by kernel_rfl) rfl)
            (encs := encR) (fun _ => rfl) (selO W5.heap.size) (selY W5.heap.size) (selC W5.heap.size)
            (fun k o ho => .inr (fun ⟨_, _, e⟩ => by rw [e] at ho; cases ho))
            (fun k o hk ho => by
              rcases ho with ho | ⟨_, _, e⟩ | ⟨_, _, e⟩
              · exact absurd ho (by have := B6.out.size; omega)
              · rw [e]; rfl
              · rw [e]; rfl)
            (fun k o hk ho => by
              rcases ho with ho | ho
              · exact absurd ho (by have := B6.out.size; omega)
              · exact ho.1)
            (fun k o ho => by
              rcases ho with ho | ho
              · exact .inl ho
              · exact .inr ho.2)
            (S := fun ys _ => ys = (frontR U).1) (Sp := fun _ _ => True) (ok := okR U)
            (fun l J Jx W hbW hJ hJx hYl hJ0 => each2_in 2 l c2 U hUz W5 I5.out.tabs J Jx hJ hJx hYl W (B6.out.trans (hbW.mono B6.out.size)) ((hbW.block _ X6.out.lt).trans X6.out) hJ0)
            (fun pre W => Lst W5.heap.size W5.heap.size pre W ∧ Below W5.heap.size W5 W)
            (fun _ _ _ => False)
            hID2
            (fun _ _ _ _ h _ => h)
            ⟨L6.out, B6.out⟩
            (fun x a' W => ∃ Bx, TokBox W Bx x ∧ a' = { tmps := (A0.tmps.setIfInBounds 96 (tokV x.kind x.text x.wd x.place)).setIfInBounds 14 (.pointer (some ⟨Bx, 0, none⟩)), defers := [] })
            (fun x a' A B h hk => by
              obtain ⟨Bx, h1, h2⟩ := h
              exact ⟨Bx, hk.block _ _ h1 (.inr ⟨rfl, not_ty (by decide)⟩), h2⟩)
            ?assignD2 ?bodyD2 ?doneD2 ?stopD2
          case assignD2 =>
            rintro l pre x W K hi hK
            have HI0 := Lib.hid hi
            have HKK := Lib.hid hK
            obtain ⟨rk, rx, rw0, rp, ra, rr⟩ := x
            clear hi hK
            subst hA0
            simp only [encR, tokV]
            gi_wp2
            exact HKK.out _ _ ((Keep.refl _ W).alloc _) (hID2 _ _ _ HI0.out ((Keep.refl _ W).alloc _)) ⟨W.heap.size, World.alloc_heap_new W _, rfl⟩
          case bodyD2 =>
            rintro l pre x a' W ⟨⟨v, hv, hrow, hnil⟩, hB⟩ ⟨Bx, hbx, rfl⟩ hok
            have hlen := okR_len hok hUz
            obtain ⟨rk, rx, rw0, rp, ra, rr⟩ := x
            obtain ⟨⟨t0, t1, t2, t3⟩, _⟩ := row4 hbx
            have hc := hv.cell
            have HB5 := Lib.hid hB
            have hBs : W5.heap.size ≤ W.heap.size := hB.size
            have HBX := Lib.hid hbx
            clear hB hbx
            subst hA0
            simp only [tokV, List.setIfInBounds_toArray, List.set_cons_succ, List.set_cons_zero]
            gi_wp2_with (gi_at_builtin; refine wpListIn_append_own _ rfl _ _ 24 rfl (W5.heap.size) 38 i0 _ 4 40 Tryd.underlying24 hi hz0 hz1 hz2 rfl (by decide) _ _ _ rfl (hrow.alloc _) ⟨W.heap.size, 0, none⟩ 1 1 [.int .u8 rk, .string rx, .int .i64 rw0, .int .i64 rp] rfl rfl (fun j u hj => cell_four (World.alloc_heap_new W _) j u hj) (by simp [Value.oneCell']) (by simp only [maxLen]; omega) (by omega) (by simp; omega) ?_; intro v' w1 hown' hgrow _; obtain ⟨g', cap', rfl⟩ := ownsRow_succ hown'; obtain ⟨hv1, hv2, hr2, _, hb2⟩ := hv.appended (by decide) hrow hBs (by omega) hown' hgrow; have hc1 := hv1.cell; have hf1 := hv1.frozen)
            refine ⟨appended_keep (sel := selB W5.heap.size) hrow hgrow hv1 (fun g cs hg => notB hg (by decide) (by decide)) (fun cs => notB (by omega) (by decide) (by decide)), ⟨_, hv2, ?_, ?_⟩, HB5.out.trans hb2⟩
            · rw [rowR_snoc, List.length_append]; exact hr2
            · simp
          case stopD2 =>
            rintro D c pre W1 W _ _ h _ _
            exact h.elim
          case doneD2 =>
            rintro D2 ys W1 W7 hDD2 hys ⟨⟨v2, hvD2, hrowD2, hnilD2⟩, hBD2⟩ hkD2 hKD2
            obtain rfl : xs = ys := (hys.trans hxU.out).symm
            have HVD2 := Lib.hid hvD2
            have HRD2 := Lib.hid hrowD2
            have HBD2 := Lib.hid hBD2
            have HMD2 := Lib.hid hKD2
            have hsD2 := hBD2.size
            clear hys hkD2 hKD2 hnilD2 hrowD2 hvD2 hBD2 hID2
            subst hA0
            have g1 := (HBD2.out.block _ (by omega)).trans ((HBD1.out.block _ (by omega)).trans F1.out)
            have g2 := (HBD2.out.block _ (by omega)).trans ((HBD1.out.block _ (by omega)).trans F2.out)
            obtain ⟨⟨x0, x1⟩, _⟩ := row2 g1
            obtain ⟨⟨y0, y1⟩, _⟩ := row2 g2
            have b1 := (HBD2.out.cell (p := ⟨w3.heap.size + 1, 0, none⟩) HVD1.out.lt).trans HVD1.out.cell
            have b2 := HVD2.out.cell
            have t1 := (tokRow_owns HRD1.out).keep HBD2.out
            have t2 := tokRow_owns HRD2.out
            clear g1 g2
            gi_wp2_with ((refine ⟨trivial, ?_⟩); gi_at_call 24; refine (callsIn_wide.2 (same_true _ _ _ xs xs t1 t2 (EqToks.rfl' _ _) (by omega))).mono ?_; rintro e w8 ⟨rfl, m, rfl⟩)
            have z4 := B4.out.size
            have z6 := B6.out.size
            have zw0 := I0.out.below.size
            have zw5 := I5.out.below.size
            have hDD : D1 < W5.heap.size := (Array.getElem?_eq_some_iff.1 HMD1.out).1
            have m2 : (W7.drewN m).heap[D2]? = some (.deferred (some [])) := HMD2.out
            have m1 : ((W7.drewN m).putObj D2 (.deferred none)).heap[D1]? = some (.deferred (some [])) := (World.putObj_heap_other (by omega)).trans ((HBD2.out.block _ hDD).trans HMD1.out)
            have kF : Keep (fun k o => k < w.heap.size) (W7.drewN m) (((W7.drewN m).putObj D2 (.deferred none)).putObj D1 (.deferred none)) :=
              ((Keep.refl _ _).putObj _ m2 (by omega)).putObj _ m1 (by omega)
            have I7 : LInv w (((W7.drewN m).putObj D2 (.deferred none)).putObj D1 (.deferred none)) :=
              LInv.make HT.out ((I5.out.next HBD2.out).below.trans ((below_drewN (Below.refl _ W7) m).mono (I5.out.next HBD2.out).below.size |>.trans (kF.below (I5.out.next HBD2.out).below.size (fun k o hk => hk))))
            refine ⟨by simp, .inl ⟨_, _, rfl, run_takeDeferred m2, ⟨by simp, .inl ⟨_, _, rfl, run_takeDeferred m1, ?_⟩⟩⟩⟩
            exact ⟨.bool true, by simp [results, Tryd.results11, go_sem], rfl, I7⟩
      · have hjs' : (j : Int) < (s.size : Int) := by omega
        clear hj HE
        gi_wp2_with (first | (with_reducible rw [hUs]) | ((refine ⟨trivial, ?_⟩); gi_at_call 22; refine (callsIn_wide.2 (HU.out _ HJ.out)).mono ?_; rintro e w3 ⟨rfl, hb⟩; have HK := Lib.hid hb; clear hb))
        obtain ⟨W0, hW0⟩ : ∃ W0, W0 = w3.alloc (Obj.cells #[Value.int IntKind.i64 ↑d, Value.int IntKind.i64 fr] 27) := ⟨_, rfl⟩
        rw [← hW0]
        have hzW : Hid (W0.heap.size = w3.heap.size + 1) := by rw [Hid, hW0]; simp
        have hzA : W0.heap.size ≤ w3.heap.size + 1 := by rw [hzW.out]; omega
        have hzB : w3.heap.size + 1 ≤ W0.heap.size := by rw [hzW.out]; omega
        have I0 : Hid (LInv w W0) := by rw [hW0]; exact (HJ.out.next HK.out).next ((Below.refl _ w3).alloc (Nat.le_refl _) _)
        have hlt2 : w2.heap.size < w3.heap.size := by have := HK.out.size; simp at this; omega
        have F1 : Hid (W0.heap[w2.heap.size]? = some (.cells #[.int .i64 d, .int .i64 fr] 27 (0, 0))) := by rw [hW0]; exact (Below.heap_alloc _ _ _ hlt2).trans ((HK.out.block _ (by simp)).trans (World.alloc_heap_new w2 _))
        have F2 : Hid (W0.heap[w3.heap.size]? = some (.cells #[.int .i64 d, .int .i64 fr] 27 (0, 0))) := by rw [hW0]; exact World.alloc_heap_new w3 _
        clear hW0 HK
        have hnew := World.alloc_heap_new W0 (Obj.cells #[Value.slice none 0 0] 24)
        rw [hzW.out] at hnew
        have HNEW := Lib.hid hnew
        clear hnew
        refine ⟨trivial, ?_⟩
        refine (callsIn_wide.2 (each_any s hs _)).mono ?_
        rintro e w4 ⟨c1, rfl, hc1, hbx1, hb4⟩
        have B4 : Hid (Below W0.heap.size W0 w4) := ((Below.refl _ W0).alloc (Nat.le_refl _) _).trans (hb4.mono (by simp))
        have X4 := Lib.hid hbx1
        have L4 : Hid (Lst W0.heap.size (w3.heap.size + 1) [] w4) := ⟨_, (hb4.block _ (by rw [World.size_alloc, hzW.out]; omega)).trans HNEW.out, World.ownsRow_nil _ _ _ _, by simp⟩
        clear hc1 hbx1 hb4
        gi_wp2
        refine act_name (fun A0 hA0 => ?_)
        have hID1 : ∀ (pre : List Res) (A B : World), (Lst W0.heap.size (w3.heap.size + 1) pre A ∧ Below W0.heap.size W0 A) → Keep (selC W0.heap.size) A B → (Lst W0.heap.size (w3.heap.size + 1) pre B ∧ Below W0.heap.size W0 B) :=
          fun pre A B h hk => ⟨h.1.keepC hk, h.2.trans (hk.below h.2.size (fun k _ hk => .inl hk))⟩
        refine wpIn_range_keep (n := 3) rfl (by omega) (gf := 45) (fst := #[]) (lb := #[.pointer (some ⟨c1, 0, none⟩)]) (by rw [hA0]; rfl) trivial (enters_of Tryd.func45 (by kernel_rfl) rfl)
          (encs := encR) (fun _ => rfl) (selO W0.heap.size) (selY W0.heap.size) (selC W0.heap.size)
          (fun k o ho => .inr (fun ⟨_, _, e⟩ => by rw [e] at ho; cases ho))
          (fun k o hk ho => by
            rcases ho with ho | ⟨_, _, e⟩ | ⟨_, _, e⟩
            · exact absurd ho (by have := B4.out.size; omega)
            · rw [e]; rfl
            · rw [e]; rfl)
          (fun k o hk ho => by
            rcases ho with ho | ho
            · exact absurd ho (by have := B4.out.size; omega)
            · exact ho.1)
          (fun k o ho => by
            rcases ho with ho | ho
            · exact .inl ho
            · exact .inr ho.2)
          (S := fun ys _ => ys = (frontR s).1) (Sp := fun _ _ => True) (ok := okR s)
          (fun l J Jx W hbW hJ hJx hYl hJ0 => each2_in 2 l c1 s hs W0 I0.out.tabs J Jx hJ hJx hYl W (B4.out.trans (hbW.mono B4.out.size)) ((hbW.block _ X4.out.lt).trans X4.out) hJ0)
          (fun pre W => Lst W0.heap.size (w3.heap.size + 1) pre W ∧ Below W0.heap.size W0 W)
          (fun _ _ _ => False)
          hID1
          (fun _ _ _ _ h _ => h)
          ⟨L4.out, B4.out⟩
          (fun x a' W => ∃ Bx, TokBox W Bx x ∧ a' = { tmps := (A0.tmps.setIfInBounds 84 (tokV x.kind x.text x.wd x.place)).setIfInBounds 12 (.pointer (some ⟨Bx, 0, none⟩)), defers := [] })
          (fun x a' A B h hk => by
            obtain ⟨Bx, h1, h2⟩ := h
            exact ⟨Bx, hk.block _ _ h1 (.inr ⟨rfl, not_ty (by decide)⟩), h2⟩)
          ?assignD1 ?bodyD1 ?doneD1 ?stopD1
        case assignD1 =>
          rintro l pre x W K hi hK
          have HI0 := Lib.hid hi
          have HKK := Lib.hid hK
          obtain ⟨rk, rx, rw0, rp, ra, rr⟩ := x
          clear hi hK
          subst hA0
          simp only [encR, tokV]
          gi_wp2
          exact HKK.out _ _ ((Keep.refl _ W).alloc _) (hID1 _ _ _ HI0.out ((Keep.refl _ W).alloc _)) ⟨W.heap.size, World.alloc_heap_new W _, rfl⟩
        case bodyD1 =>
          rintro l pre x a' W ⟨⟨v, hv, hrow, hnil⟩, hB⟩ ⟨Bx, hbx, rfl⟩ hok
          have hlen := okR_len hok hs
          obtain ⟨rk, rx, rw0, rp, ra, rr⟩ := x
          obtain ⟨⟨t0, t1, t2, t3⟩, _⟩ := row4 hbx
          have hc := hv.cell
          have HB5 := Lib.hid hB
          have hBs : W0.heap.size ≤ W.heap.size := hB.size
          have HBX := Lib.hid hbx
          clear hB hbx
          subst hA0
          simp only [tokV, List.setIfInBounds_toArray, List.set_cons_succ, List.set_cons_zero]
          gi_wp2_with (gi_at_builtin; refine wpListIn_append_own _ rfl _ _ 24 rfl (W0.heap.size) 38 i0 _ 4 40 Tryd.underlying24 hi hz0 hz1 hz2 rfl (by decide) _ _ _ rfl (hrow.alloc _) ⟨W.heap.size, 0, none⟩ 1 1 [.int .u8 rk, .string rx, .int .i64 rw0, .int .i64 rp] rfl rfl (fun j u hj => cell_four (World.alloc_heap_new W _) j u hj) (by simp [Value.oneCell']) (by simp only [maxLen]; omega) (by omega) (by simp; omega) ?_; intro v' w1 hown' hgrow _; obtain ⟨g', cap', rfl⟩ := ownsRow_succ hown'; obtain ⟨hv1, hv2, hr2, _, hb2⟩ := hv.appended (by decide) hrow hBs (by omega) hown' hgrow; have hc1 := hv1.cell; have hf1 := hv1.frozen)
          refine ⟨appended_keep (sel := selB W0.heap.size) hrow hgrow hv1 (fun g cs hg => notB hg (by decide) (by decide)) (fun cs => notB (by omega) (by decide) (by decide)), ⟨_, hv2, ?_, ?_⟩, HB5.out.trans hb2⟩
          · rw [rowR_snoc, List.length_append]; exact hr2
          · simp
        case stopD1 =>
          rintro D c pre W1 W _ _ h _ _
          exact h.elim
        case doneD1 =>
          rintro D1 ys W1 W5 hDD1 hys ⟨⟨v1, hvD1, hrowD1, hnilD1⟩, hBD1⟩ hkD1 hKD1
          obtain rfl : xs = ys := (hys.trans hxe.out.symm).symm
          have HVD1 := Lib.hid hvD1
          have HRD1 := Lib.hid hrowD1
          have HBD1 := Lib.hid hBD1
          have HMD1 := Lib.hid hKD1
          have hsD1 := hBD1.size
          clear hys hkD1 hKD1 hnilD1 hrowD1 hvD1 hBD1 hID1
          subst hA0
          gi_wp2_with (with_reducible rw [hUs])
          have I5 := Lib.hid (I0.out.next HBD1.out)
          refine ⟨trivial, ?_⟩
          refine (callsIn_wide.2 (each_any U hUz _)).mono ?_
          rintro e w6 ⟨c2, rfl, hc2, hbx2, hb6⟩
          have B6 : Hid (Below W5.heap.size W5 w6) := ((Below.refl _ W5).alloc (Nat.le_refl _) _).trans (hb6.mono (by simp))
          have X6 := Lib.hid hbx2
          have L6 : Hid (Lst W5.heap.size W5.heap.size [] w6) := ⟨_, (hb6.block _ (by simp)).trans (World.alloc_heap_new W5 _), World.ownsRow_nil _ _ _ _, by simp⟩
          clear hc2 hbx2 hb6
          gi_wp2
          refine act_name (fun A0 hA0 => ?_)
          have hID2 : ∀ (pre : List Res) (A B : World), (Lst W5.heap.size W5.heap.size pre A ∧ Below W5.heap.size W5 A) → Keep (selC W5.heap.size) A B → (Lst W5.heap.size W5.heap.size pre B ∧ Below W5.heap.size W5 B) :=
            fun pre A B h hk => ⟨h.1.keepC hk, h.2.trans (hk.below h.2.size (fun k _ hk => .inl hk))⟩
          refine wpIn_range_keep (n := 3) rfl (by omega) (gf := 45) (fst := #[]) (lb := #[.pointer (some ⟨c2, 0, none⟩)]) (by rw [hA0]; rfl) trivial (enters_of Tryd.func45 (by kernel_rfl) rfl)
            (encs := encR) (fun _ => rfl) (selO W5.heap.size) (selY W5.heap.size) (selC W5.heap.size)
            (fun k o ho => .inr (fun ⟨_, _, e⟩ => by rw [e] at ho; cases ho))
            (fun k o hk ho => by
              rcases ho with ho | ⟨_, _, e⟩ | ⟨_, _, e⟩
              · exact absurd ho (by have := B6.out.size; omega)
              · rw [e]; rfl
              · rw [e]; rfl)
            (fun k o hk ho => by
              rcases ho with ho | ho
              · exact absurd ho (by have := B6.out.size; omega)
              · exact ho.1)
            (fun k o ho => by
              rcases ho with ho | ho
              · exact .inl ho
              · exact .inr ho.2)
            (S := fun ys _ => ys = (frontR U).1) (Sp := fun _ _ => True) (ok := okR U)
            (fun l J Jx W hbW hJ hJx hYl hJ0 => each2_in 2 l c2 U hUz W5 I5.out.tabs J Jx hJ hJx hYl W (B6.out.trans (hbW.mono B6.out.size)) ((hbW.block _ X6.out.lt).trans X6.out) hJ0)
            (fun pre W => Lst W5.heap.size W5.heap.size pre W ∧ Below W5.heap.size W5 W)
            (fun _ _ _ => False)
            hID2
            (fun _ _ _ _ h _ => h)
            ⟨L6.out, B6.out⟩
            (fun x a' W => ∃ Bx, TokBox W Bx x ∧ a' = { tmps := (A0.tmps.setIfInBounds 96 (tokV x.kind x.text x.wd x.place)).setIfInBounds 14 (.pointer (some ⟨Bx, 0, none⟩)), defers := [] })
            (fun x a' A B h hk => by
              obtain ⟨Bx, h1, h2⟩ := h
              exact ⟨Bx, hk.block _ _ h1 (.inr ⟨rfl, not_ty (by decide)⟩), h2⟩)
            ?assignD2 ?bodyD2 ?doneD2 ?stopD2
          case assignD2 =>
            rintro l pre x W K hi hK
            have HI0 := Lib.hid hi
            have HKK := Lib.hid hK
            obtain ⟨rk, rx, rw0, rp, ra, rr⟩ := x
            clear hi hK
            subst hA0
            simp only [encR, tokV]
            gi_wp2
            exact HKK.out _ _ ((Keep.refl _ W).alloc _) (hID2 _ _ _ HI0.out ((Keep.refl _ W).alloc _)) ⟨W.heap.size, World.alloc_heap_new W _, rfl⟩
          case bodyD2 =>
            rintro l pre x a' W ⟨⟨v, hv, hrow, hnil⟩, hB⟩ ⟨Bx, hbx, rfl⟩ hok
            have hlen := okR_len hok hUz
            obtain ⟨rk, rx, rw0, rp, ra, rr⟩ := x
            obtain ⟨⟨t0, t1, t2, t3⟩, _⟩ := row4 hbx
            have hc := hv.cell
            have HB5 := Lib.hid hB
            have hBs : W5.heap.size ≤ W.heap.size := hB.size
            have HBX := Lib.hid hbx
            clear hB hbx
            subst hA0
            simp only [tokV, List.setIfInBounds_toArray, List.set_cons_succ, List.set_cons_zero]
            gi_wp2_with (gi_at_builtin; refine wpListIn_append_own _ rfl _ _ 24 rfl (W5.heap.size) 38 i0 _ 4 40 Tryd.underlying24 hi hz0 hz1 hz2 rfl (by decide) _ _ _ rfl (hrow.alloc _) ⟨W.heap.size, 0, none⟩ 1 1 [.int .u8 rk, .string rx, .int .i64 rw0, .int .i64 rp] rfl rfl (fun j u hj => cell_four (World.alloc_heap_new W _) j u hj) (by simp [Value.oneCell']) (by simp only [maxLen]; omega) (by omega) (by simp; omega) ?_; intro v' w1 hown' hgrow _; obtain ⟨g', cap', rfl⟩ := ownsRow_succ hown'; obtain ⟨hv1, hv2, hr2, _, hb2⟩ := hv.appended (by decide) hrow hBs (by omega) hown' hgrow; have hc1 := hv1.cell; have hf1 := hv1.frozen)
            refine ⟨appended_keep (sel := selB W5.heap.size) hrow hgrow hv1 (fun g cs hg => notB hg (by decide) (by decide)) (fun cs => notB (by omega) (by decide) (by decide)), ⟨_, hv2, ?_, ?_⟩, HB5.out.trans hb2⟩
            · rw [rowR_snoc, List.length_append]; exact hr2
            · simp
          case stopD2 =>
            rintro D c pre W1 W _ _ h _ _
            exact h.elim
          case doneD2 =>
            rintro D2 ys W1 W7 hDD2 hys ⟨⟨v2, hvD2, hrowD2, hnilD2⟩, hBD2⟩ hkD2 hKD2
            obtain rfl : xs = ys := (hys.trans hxU.out).symm
            have HVD2 := Lib.hid hvD2
            have HRD2 := Lib.hid hrowD2
            have HBD2 := Lib.hid hBD2
            have HMD2 := Lib.hid hKD2
            have hsD2 := hBD2.size
            clear hys hkD2 hKD2 hnilD2 hrowD2 hvD2 hBD2 hID2
            subst hA0
            have g1 := (HBD2.out.block _ (by omega)).trans ((HBD1.out.block _ (by omega)).trans F1.out)
            have g2 := (HBD2.out.block _ (by omega)).trans ((HBD1.out.block _ (by omega)).trans F2.out)
            obtain ⟨⟨x0, x1⟩, _⟩ := row2 g1
            obtain ⟨⟨y0, y1⟩, _⟩ := row2 g2
            have b1 := (HBD2.out.cell (p := ⟨w3.heap.size + 1, 0, none⟩) HVD1.out.lt).trans HVD1.out.cell
            have b2 := HVD2.out.cell
            have t1 := (tokRow_owns HRD1.out).keep HBD2.out
            have t2 := tokRow_owns HRD2.out
            clear g1 g2
            gi_wp2_with ((refine ⟨trivial, ?_⟩); gi_at_call 24; refine (callsIn_wide.2 (same_true _ _ _ xs xs t1 t2 (EqToks.rfl' _ _) (by omega))).mono ?_; rintro e w8 ⟨rfl, m, rfl⟩)
            have z4 := B4.out.size
            have z6 := B6.out.size
            have zw0 := I0.out.below.size
            have zw5 := I5.out.below.size
            have hDD : D1 < W5.heap.size := (Array.getElem?_eq_some_iff.1 HMD1.out).1
            have m2 : (W7.drewN m).heap[D2]? = some (.deferred (some [])) := HMD2.out
            have m1 : ((W7.drewN m).putObj D2 (.deferred none)).heap[D1]? = some (.deferred (some [])) := (World.putObj_heap_other (by omega)).trans ((HBD2.out.block _ hDD).trans HMD1.out)
            have kF : Keep (fun k o => k < w.heap.size) (W7.drewN m) (((W7.drewN m).putObj D2 (.deferred none)).putObj D1 (.deferred none)) :=
              ((Keep.refl _ _).putObj _ m2 (by omega)).putObj _ m1 (by omega)
            have I7 : LInv w (((W7.drewN m).putObj D2 (.deferred none)).putObj D1 (.deferred none)) :=
              LInv.make HT.out ((I5.out.next HBD2.out).below.trans ((below_drewN (Below.refl _ W7) m).mono (I5.out.next HBD2.out).below.size |>.trans (kF.below (I5.out.next HBD2.out).below.size (fun k o hk => hk))))
            refine ⟨by simp, .inl ⟨_, _, rfl, run_takeDeferred m2, ⟨by simp, .inl ⟨_, _, rfl, run_takeDeferred m1, ?_⟩⟩⟩⟩
            exact ⟨.bool true, by simp [results, Tryd.results11, go_sem], rfl, I7⟩
theorem faults_walk (s t : ByteArray) (hs : s.size ≤ reachBytes) (ht : t.size ≤ reachBytes) (w : World) (T : LTabs w) :
    Calls Tryd.prog 11 #[.string s, .string t] w fun e w' => e = .returned (.bool true) ∧ LInv w w' := by
  by_cases h : (scanX s).2.1 = 20
  · obtain ⟨d, E, hd, hdE, hE, hE2, h1, h4, hU⟩ := fault_facts h
    by_cases hl : 65536 < E + 1 + t.size
    · exact faults_long s t ht w T h d E hd hdE hE hE2 h1 h4 hl
    · exact faults_main s t w T h d E hd hdE hE hE2 h1 h4 hU hl
  · exact faults_early s t w T h
end Go.Proofs.YteedpojchapjgaaDoor

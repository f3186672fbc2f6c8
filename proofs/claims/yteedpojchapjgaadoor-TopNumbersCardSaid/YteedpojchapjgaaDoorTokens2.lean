/- The lexer: the iterator over the tokens of a text: its contract. -/
import Derived.Test.YteedpojchapjgaaDoorTokens
namespace Go.Proofs.YteedpojchapjgaaDoor
open Go.RowKit Go.Shelf
set_option linter.unusedVariables false
attribute [local go_sem] Oper.semAt_some
theorem keepO_ne {A B : World} {n b : Nat} {s : ByteArray} {p fa fr : Int} (h : Keep (fun k _ => k ≠ b) A B) (hs : Sc A b s p fa fr) (hn : n ≤ b) : Keep (selO n) A B :=
  ⟨h.os, h.tape, h.output, h.size, fun k o hk ho => h.block k o hk (fun e => by
    subst e
    rw [show A.heap[k]? = _ from hs] at hk
    cases hk
    rcases ho with ho | ho
    · omega
    · exact ho ⟨_, _, rfl⟩)⟩
theorem keep_drew (sel : Nat → Obj → Prop) (W : World) (n : Nat) : Keep sel W (W.drewN n) := ⟨rfl, rfl, rfl, Nat.le_refl _, fun _ _ h _ => h⟩
theorem not_selO {n b : Nat} {cs : Array Value} {f : Nat × Nat} (hn : n ≤ b) : ¬ selO n b (.cells cs 57 f) := fun h => by
  rcases h with h | h
  · omega
  · exact h ⟨_, _, rfl⟩
theorem Sc.setFault {W : World} {b : Nat} {s : ByteArray} {p fa fr : Int} (h : Sc W b s p fa fr) (fa' fr' : Int) : Sc ((W.setCell ⟨b, 2, none⟩ (.int .i64 fa')).setCell ⟨b, 3, none⟩ (.int .i64 fr')) b s p fa' fr' :=
  heap_setCell_same _ b 3 _ _ (.int .i64 fr') (heap_setCell_same W b 2 _ _ (.int .i64 fa') h)
theorem Fm.cells {w : World} {g b : Nat} (h : Fm w g b) :
    w.cell? ⟨g, 0, none⟩ = some (.func (.func 55) #[] #[]) ∧ w.cell? ⟨g, 1, none⟩ = some (.func (.func 75) #[.pointer (some ⟨b, 0, none⟩)] #[]) ∧ w.cell? ⟨g, 2, none⟩ = some (.func (.func 34) #[] #[]) ∧ w.cell? ⟨g, 3, none⟩ = some (.func (.func 76) #[.pointer (some ⟨b, 0, none⟩)] #[]) ∧ w.cell? ⟨g, 4, none⟩ = some (.func (.func 57) #[] #[]) ∧ w.cell? ⟨g, 5, none⟩ = some (.func (.func 77) #[.pointer (some ⟨b, 0, none⟩)] #[]) :=
  ⟨cell_of_row w g 0 _ _ _ h, cell_of_row w g 1 _ _ _ h, cell_of_row w g 2 _ _ _ h, cell_of_row w g 3 _ _ _ h, cell_of_row w g 4 _ _ _ h, cell_of_row w g 5 _ _ _ h⟩
theorem Sc.alloc {W : World} {b : Nat} {s : ByteArray} {p fa fr : Int} (h : Sc W b s p fa fr) (o : Obj) : Sc (W.alloc o) b s p fa fr := (Below.heap_alloc W o b h.lt).trans h
set_option maxRecDepth 100000 in
set_option maxHeartbeats 4000000 in
theorem tokens_in (n l b : Nat) (s : ByteArray) (hs : s.size ≤ 65536) (w0 : World) (T : LTabs w0) (J Jx : List Res → World → Prop)
    (hJ : ∀ p A B, J p A → Keep (selO w0.heap.size) A B → J p B) (hJx : ∀ p A B, Jx p A → Keep (selO w0.heap.size) A B → Jx p B)
    (hY : ∀ pre x W1, J pre W1 → okR s pre x → YieldAt Fence.wide (n - 1) Tryd.prog l (encR x) W1 fun e W' =>
      (e = .returned (.bool true) ∧ J (pre ++ [x]) W' ∧ Keep (selY w0.heap.size) W1 W') ∨ (e = .returned (.bool false) ∧ Jx (pre ++ [x]) W' ∧ Keep (selY w0.heap.size) W1 W'))
    (W : World) (hW : Below w0.heap.size w0 W) (hbn : w0.heap.size ≤ b) (hsc : Sc W b s 0 0 0) (h0 : J [] W) :
    CallsIn Fence.wide n Tryd.prog 40 #[.pointer (some ⟨b, 0, none⟩), .func (.yield l) #[] #[]] W fun e W' => (∃ v, e = .returned v) ∧
      ((∃ xs, (xs = (frontR s).1 ∧ ∃ p : Nat, Sc W' b s p (frontR s).2.1 (frontR s).2.2) ∧ J xs W') ∨ (∃ pre, True ∧ Jx pre W')) := by
  have HS := Lib.hid hsc
  have HJ := Lib.hid hJ
  have HJX := Lib.hid hJx
  have HY := Lib.hid hY
  have HW := Lib.hid hW
  have HT := Lib.hid T
  have H0 := Lib.hid h0
  clear hsc hJ hJx hY hW T h0
  refine callsIn_of_wp Tryd.func40 rfl trivial ?_ rfl
  simp only [Tryd.ntmps40, List.size_toArray, List.length_cons, List.length_nil, Nat.reduceAdd, Nat.reduceSub, Array.replicate_succ, Array.replicate_zero, List.push_toArray, List.append_toArray, List.nil_append, List.cons_append]
  gi_wp2_with ((refine ⟨trivial, (by intro h; cases h), ?_⟩); first
    | (gi_at_call 58; refine (callsIn_wide.2 (families_any b _)).mono ?_; rintro e w1 ⟨rfl, hb1⟩; unfold famCells)
    | (gi_at_call 59; refine (callsIn_wide.2 (pass_any b s 0 0 0 _ (by omega) (Nat.zero_le _) ((HS.out.below hb1 HS.out.lt).alloc _))).mono ?_; rintro e w2 ⟨rfl, hs2, hk2, hz2⟩; rw [Nat.zero_add] at hs2; have HS2 := Lib.hid hs2; have HK2 := Lib.hid hk2; have HB1 := Lib.hid hb1; clear hs2 hk2 hz2 hb1))
  gi_loopw [5, 6] (fun _ _ wr => ∃ (pre : List Res) (k f : Nat), k ≤ s.size ∧ s.size < f + k ∧ Sc wr b s k 0 0 ∧ Fm wr w1.heap.size b ∧ Hid (Below w0.heap.size w0 wr) ∧ Hid ((frontR s).1 = pre ++ (goH s f k).1 ∧ (frontR s).2 = (goH s f k).2) ∧ Hid (J pre wr)) (fun _ _ wr => s.size - atOf b wr)
  case atStart =>
    have hbW := HS.out.lt
    have hz1 := HB1.out.size
    refine ⟨[], passN (bytesFrom s 0), s.size + 1, ?_, by omega, HS2.out, HK2.out.block _ _ (World.alloc_heap_new w1 _) (by omega), ?_, ⟨rfl, rfl⟩, ?_⟩
    · have := passN_le _ (bytesFrom s 0) (Nat.le_refl _)
      rw [from_len] at this
      omega
    · exact (HW.out.trans ((HB1.out.mono (by have := HW.out.size; omega)).alloc (by have := HW.out.size; omega) _)).trans (HK2.out.below (by have := HW.out.size; simp; omega) (fun k _ hk => by omega))
    · exact HJ.out _ _ _ H0.out (((keepO_below HB1.out).alloc _).trans (keepO_ne HK2.out ((HS.out.below HB1.out hbW).alloc _) hbn))
  case round =>
    obtain ⟨pre, k, f, hk, hf, hsc, hfm, hB, hfr, hj⟩ := hrel
    have HSC := Lib.hid hsc
    have HFM := Lib.hid hfm
    clear hsc hfm HS2 HK2
    obtain ⟨⟨c0, c1, c2, c3⟩, f1, f2, f3⟩ := HSC.out.cells
    have hbr := HSC.out.lt
    by_cases hlt : k < s.size
    · obtain ⟨m0, m1, m2, m3, m4, m5⟩ := HFM.out.cells
      obtain ⟨R, hR⟩ : ∃ R, Hid (R = nextR s k) := ⟨_, rfl⟩
      have HN : Hid (∀ m : Nat, Calls Tryd.prog 60 #[.pointer (some ⟨b, 0, none⟩), .agg (famCells b)] (wr.drewN m) fun e w' => e = .returned R.val ∧ Below (wr.drewN m).heap.size (wr.drewN m) w') := fun m => by
        rw [hR.out]
        exact next_any b s k 0 0 _ (HT.out.below (Nat.le_refl _) ⟨hB.out.os, hB.out.tape, hB.out.output, hB.out.size, hB.out.block⟩) (by omega) hlt (show Sc (wr.drewN m) b s k 0 0 from HSC.out)
      have hlt' : (k : Int) < (s.size : Int) := by omega
      obtain ⟨rk, rx, rw0, rp, ra, rr⟩ := R
      have HN : Hid (∀ m : Nat, Calls Tryd.prog 60 #[.pointer (some ⟨b, 0, none⟩), .agg #[.func (.func 55) #[] #[], .func (.func 75) #[.pointer (some ⟨b, 0, none⟩)] #[], .func (.func 34) #[] #[], .func (.func 76) #[.pointer (some ⟨b, 0, none⟩)] #[], .func (.func 57) #[] #[], .func (.func 77) #[.pointer (some ⟨b, 0, none⟩)] #[]]] (wr.drewN m) fun e w' => e = .returned (.tuple #[.agg #[.int .u8 rk, .string rx, .int .i64 rw0, .int .i64 rp], .agg #[.int .i64 ra, .int .i64 rr]]) ∧ Below wr.heap.size wr w') := fun m =>
        (HN.out m).mono fun _ _ h => ⟨h.1, ⟨h.2.os, h.2.tape, h.2.output, h.2.size, h.2.block⟩⟩
      gi_wp2
      gi_quiet (fail)
      gi_wp2_with ((refine ⟨trivial, (by intro h; cases h), ?_⟩); gi_at_call 60; refine (callsIn_wide.2 (HN.out _)).mono ?_; rintro e w3 ⟨rfl, hb3⟩; have HB3 := Lib.hid hb3; have d0 := (hb3.cell (p := ⟨b, 0, none⟩) hbr).trans c0; have d1 := (hb3.cell (p := ⟨b, 1, none⟩) hbr).trans c1; have d2 := (hb3.cell (p := ⟨b, 2, none⟩) hbr).trans c2; have d3 := (hb3.cell (p := ⟨b, 3, none⟩) hbr).trans c3; have e1 := (hb3.frozen (p := ⟨b, 1, none⟩) hbr).trans f1; have e2 := (hb3.frozen (p := ⟨b, 2, none⟩) hbr).trans f2; have e3 := (hb3.frozen (p := ⟨b, 3, none⟩) hbr).trans f3; have hb3' : b < w3.heap.size := Nat.lt_of_lt_of_le hbr hb3.size; have hb4' : b < w3.heap.size + 1 := Nat.lt_succ_of_lt hb3'; clear hb3)
      · -- the fault
        rename_i hrr
        have hsc3 : Sc w3 b s k 0 0 := HSC.out.below HB3.out hbr
        have hne : ¬ (nextR s k).fr = 0 := by
          rw [← hR.out]
          intro h0
          have : (rr != 0) = true := hrr
          rw [show rr = 0 from h0] at this
          cases this
        obtain ⟨f, rfl⟩ : ∃ f', f = f' + 1 := ⟨f - 1, by omega⟩
        have hg := goH_fault (f := f) hlt hne
        have hlow : w0.heap.size ≤ b := hbn
        have hk3 := (Keep.setCell (p := ⟨b, 3, none⟩) (Keep.setCell (p := ⟨b, 2, none⟩) (keepO_below (n := w0.heap.size) HB3.out) (.int .i64 ra) hsc3 (not_selO hbn)) (.int .i64 rr) (heap_setCell_same w3 b 2 _ _ (.int .i64 ra) hsc3) (not_selO hbn))
        refine bodyPost_ret (results_none rfl _ _ _) rfl ⟨⟨_, rfl⟩, .inl ⟨pre, ⟨?_, k, ?_⟩, HJ.out _ _ _ hj.out ((hk3.alloc _).alloc _)⟩⟩
        · rw [hfr.out.1, hg, List.append_nil]
        · rw [hfr.out.2, hg, ← hR.out]
          exact ((hsc3.setFault ra rr).alloc _).alloc _
      · have hrr : Hid ((rr != 0) = false) := by assumption
        have hr0 : Hid ((nextR s k).fr = 0) := by
          have h1 := hrr.out
          rw [Hid, ← hR.out]
          show rr = 0
          simpa using h1
        obtain ⟨g1, g2, g3⟩ := nextR_good s k hlt hr0.out
        rw [← hR.out] at g1 g2 g3
        have q1 : 0 < rx.size := g1
        have q2 : k + rx.size ≤ s.size := g2
        obtain rfl : rp = (k : Int) := g3
        clear g1 g2
        obtain ⟨f, rfl⟩ : ∃ f', f = f' + 1 := ⟨f - 1, by omega⟩
        have hg := Lib.hid (goH_tok (f := f) hlt hr0.out)
        have hnx : Hid (nx s k = k + rx.size + passN (bytesFrom s (k + rx.size))) := by
          unfold nx
          rw [Hid, ← hR.out]
        have hnx2 : Hid (nx s k ≤ s.size) := by
          have := passN_le _ (bytesFrom s (k + rx.size)) (Nat.le_refl _)
          rw [from_len] at this
          rw [Hid, hnx.out]
          omega
        have hnx3 : Hid (k + rx.size ≤ nx s k) := by rw [Hid, hnx.out]; omega
        gi_region
        gi_wp2
        obtain ⟨W3, hW3⟩ : ∃ W3, W3 = (((w3.setCell { block := b, off := 1 } (Value.int IntKind.i64 (↑k + ↑rx.size))).alloc (Obj.cells #[Value.int IntKind.u8 rk, Value.string rx, Value.int IntKind.i64 rw0, Value.int IntKind.i64 ↑k] 38)).alloc (Obj.cells #[Value.int IntKind.i64 ra, Value.int IntKind.i64 rr] 27)).drew := ⟨_, rfl⟩
        rw [← hW3]
        have hsc3 : Sc w3 b s k 0 0 := HSC.out.below HB3.out hbr
        have hk3 : Keep (fun k _ => k ≠ b) w3 W3 := by
          rw [hW3]
          have h := (((Keep.refl (fun k _ => k ≠ b) w3).setCell (p := ⟨b, 1, none⟩) (.int .i64 (↑k + ↑rx.size)) hsc3 (fun h => h rfl)).alloc (Obj.cells #[Value.int IntKind.u8 rk, Value.string rx, Value.int IntKind.i64 rw0, Value.int IntKind.i64 ↑k] 38)).alloc (Obj.cells #[Value.int IntKind.i64 ra, Value.int IntKind.i64 rr] 27)
          exact ⟨h.os, h.tape, h.output, h.size, h.block⟩
        have hscW : Sc W3 b s ((k + rx.size : Nat) : Int) 0 0 := by
          rw [hW3, Int.natCast_add]
          exact (((hsc3.setAt ((k : Int) + (rx.size : Int))).alloc (Obj.cells #[Value.int IntKind.u8 rk, Value.string rx, Value.int IntKind.i64 rw0, Value.int IntKind.i64 ↑k] 38)).alloc (Obj.cells #[Value.int IntKind.i64 ra, Value.int IntKind.i64 rr] 27) :)
        have hz0 := hB.out.size
        have hz0' := HW.out.size
        have hz3 := HB3.out.size
        have hz4 := hk3.size
        have hgb : w1.heap.size ≠ b := fun e => by
          have h1 := HFM.out
          have h2 := HSC.out
          unfold Fm at h1
          rw [e, show wr.heap[b]? = _ from h2] at h1
          simp at h1
        have hgl : w1.heap.size < wr.heap.size := (Array.getElem?_eq_some_iff.1 HFM.out).1
        have hfmW : Fm W3 w1.heap.size b := hk3.block _ _ ((HB3.out.block _ hgl).trans HFM.out) hgb
        have hBW : Below w0.heap.size w0 W3 := (hB.out.trans (HB3.out.mono (by have := HW.out.size; omega))).trans (hk3.below (by omega) (fun k _ hk => by omega))
        have hJ3 : J pre W3 := HJ.out _ _ _ (HJ.out _ _ _ hj.out (keepO_below HB3.out)) (keepO_ne hk3 hsc3 hbn)
        have hok : okR s pre (nextR s k) := ⟨(goH s f (nx s k)).1, by rw [hfr.out.1, hg.out]; simp⟩
        obtain ⟨fn, tmps, assign, body, hy, hRd⟩ := HY.out pre _ W3 hJ3 hok
        rw [← hR.out] at hy
        rw [show (Instr.yield l #[Value.agg #[Value.int IntKind.u8 rk, Value.string rx, Value.int IntKind.i64 rw0, Value.int IntKind.i64 ↑k]]).run Tryd.prog W3 = _ from hy]
        have HSW := Lib.hid hscW
        have HFW := Lib.hid hfmW
        have HBW := Lib.hid hBW
        clear hy hscW hfmW hBW hk3 hW3 hsc3 hgb hJ3
        refine ⟨(by intro h; cases h), hRd.mono ?_⟩
        rintro e W4 (⟨rfl, hj4, hk4⟩ | ⟨rfl, hj4, hk4⟩)
        · have hsc4 : Sc W4 b s ((k + rx.size : Nat) : Int) 0 0 := HSW.out.keep hk4 (.inr (.inl ⟨_, _, rfl⟩))
          have HS4 := Lib.hid hsc4
          have HF4 : Hid (Fm W4 w1.heap.size b) := hk4.block _ _ HFW.out (.inr (.inr ⟨_, _, rfl⟩))
          have HB4 : Hid (Below w0.heap.size w0 W4) := HBW.out.trans (hk4.below (by omega) (fun k _ hk => .inl hk))
          have HJ4 := Lib.hid hj4
          have hw4 : w0.heap.size ≤ W4.heap.size := HB4.out.size
          clear hj4 hk4 hRd
          gi_wp2_with ((refine ⟨trivial, (by intro h; cases h), ?_⟩); gi_at_call 59; refine (callsIn_wide.2 (pass_any b s (k + rx.size) 0 0 W4 (by omega) q2 HS4.out)).mono ?_; rintro e w5 ⟨rfl, hs5, hk5, hz5⟩; have HS5 := Lib.hid hs5; have HK5 := Lib.hid hk5; clear hs5 hk5 hz5)
          go_roundw
          case rel =>
            refine ⟨pre ++ [nextR s k], nx s k, f, hnx2.out, by have := hnx3.out; omega, ?_, ?_, ?_, ⟨?_, ?_⟩, ?_⟩
            · rw [hnx.out]; exact HS5.out
            · exact HK5.out.block _ _ HF4.out (by
                intro e
                have h1 := HF4.out
                have h2 := HS4.out
                unfold Fm at h1
                rw [e, show W4.heap[b]? = _ from h2] at h1
                simp at h1)
            · exact HB4.out.trans (HK5.out.below (by omega) (fun k _ hk => by omega))
            · rw [hfr.out.1, hg.out]; simp
            · rw [hfr.out.2, hg.out]
            · exact HJ.out _ _ _ HJ4.out (keepO_ne HK5.out HS4.out hbn)
          case measure =>
            have h5 := HS5.out.atOf
            have h6 := HSC.out.atOf
            rw [h5, h6]
            omega
        · have HJ4 := Lib.hid hj4
          clear hj4 hk4 hRd
          gi_wp2
          refine bodyPost_ret (results_none rfl _ _ _) rfl ⟨⟨_, rfl⟩, .inr ⟨_, trivial, HJ4.out⟩⟩
    · have hd : Hid (Sc (wr.drewN 0) b s k 0 0) := HSC.out
      gi_wp2
      gi_quiet (fail)
      gi_wp2
      go_end0
      refine ⟨⟨_, rfl⟩, .inl ⟨pre, ⟨?_, k, ?_⟩, HJ.out _ _ _ hj.out (keep_drew _ _ _)⟩⟩
      · rw [hfr.out.1, goH_end hlt, List.append_nil]
      · rw [hfr.out.2, goH_end hlt]
        exact HSC.out
end Go.Proofs.YteedpojchapjgaaDoor

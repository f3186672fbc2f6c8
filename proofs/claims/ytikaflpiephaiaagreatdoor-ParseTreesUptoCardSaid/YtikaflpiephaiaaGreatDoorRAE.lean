/- The proof, part 5: texts that belong together, in one. -/
import Derived.Test.YtikaflpiephaiaaGreatDoorRAD
set_option maxRecDepth 100000
set_option maxHeartbeats 20000000
namespace Go.Proofs.YtikaflpiephaiaaGreatDoor
open Go.RowKit Go.Shelf
set_option linter.unusedVariables false
attribute [local go_sem] Oper.semAt_some
theorem keepO_ne {A B : World} {n b : Nat} {s : ByteArray} {p fa fr : Int} (h : Keep (fun k _ => k ≠ b) A B) (hs : Sc A b s p fa fr) (hn : n ≤ b) : Keep (selO n) A B :=
 ⟨h.os, h.tape, h.output, h.size, fun k o hk ho => h.block k o hk (fun e => by
  subst e
  rw [show A.heap[k]? = _ from hs] at hk
  cases hk
  rcases ho with ho | ho
  · omega
  · exact ho ⟨_, _, rfl⟩)⟩
theorem keep_drew (sel : Nat → Obj → Prop) (W : World) (n : Nat) : Keep sel W (W.drewN n) := ⟨rfl, rfl, rfl, Nat.le_refl _, fun _ _ h _ => h⟩
theorem not_selO {n b : Nat} {cs : Array Value} {f : Nat × Nat} (hn : n ≤ b) : ¬ selO n b (.cells cs 147 f) := fun h => by
 rcases h with h | h
 · omega
 · exact h ⟨_, _, rfl⟩
theorem Sc.setFault {W : World} {b : Nat} {s : ByteArray} {p fa fr : Int} (h : Sc W b s p fa fr) (fa' fr' : Int) : Sc ((W.setCell ⟨b, 2, none⟩ (.int .i64 fa')).setCell ⟨b, 3, none⟩ (.int .i64 fr')) b s p fa' fr' :=
 heap_setCell_same _ b 3 _ _ (.int .i64 fr') (heap_setCell_same W b 2 _ _ (.int .i64 fa') h)
theorem Fm.cells {w : World} {g b : Nat} (h : Fm w g b) :
 w.cell? ⟨g, 0, none⟩ = some (.func (.func 164) #[] #[]) ∧ w.cell? ⟨g, 1, none⟩ = some (.func (.func 175) #[.pointer (some ⟨b, 0, none⟩)] #[]) ∧ w.cell? ⟨g, 2, none⟩ = some (.func (.func 128) #[] #[]) ∧ w.cell? ⟨g, 3, none⟩ = some (.func (.func 176) #[.pointer (some ⟨b, 0, none⟩)] #[]) ∧ w.cell? ⟨g, 4, none⟩ = some (.func (.func 177) #[] #[]) ∧ w.cell? ⟨g, 5, none⟩ = some (.func (.func 178) #[.pointer (some ⟨b, 0, none⟩)] #[]) :=
 ⟨cell_of_row w g 0 _ _ _ h, cell_of_row w g 1 _ _ _ h, cell_of_row w g 2 _ _ _ h, cell_of_row w g 3 _ _ _ h, cell_of_row w g 4 _ _ _ h, cell_of_row w g 5 _ _ _ h⟩
theorem Sc.alloc {W : World} {b : Nat} {s : ByteArray} {p fa fr : Int} (h : Sc W b s p fa fr) (o : Obj) : Sc (W.alloc o) b s p fa fr := (Below.heap_alloc W o b h.lt).trans h
theorem tokens_in (n l b : Nat) (s : ByteArray) (hs : s.size ≤ 65536) (w0 : World) (T : LTabs w0) (J Jx : List Res → World → Prop)
 (hJ : ∀ p A B, J p A → Keep (selO w0.heap.size) A B → J p B) (hJx : ∀ p A B, Jx p A → Keep (selO w0.heap.size) A B → Jx p B)
 (hY : ∀ pre x W1, J pre W1 → okR s pre x → YieldAt Fence.wide (n - 1) Tryz.prog l (encR x) W1 fun e W' =>
  (e = .returned (.bool true) ∧ J (pre ++ [x]) W' ∧ Keep (selY w0.heap.size) W1 W') ∨ (e = .returned (.bool false) ∧ Jx (pre ++ [x]) W' ∧ Keep (selY w0.heap.size) W1 W'))
 (W : World) (hW : Below w0.heap.size w0 W) (hbn : w0.heap.size ≤ b) (hsc : Sc W b s 0 0 0) (h0 : J [] W) :
 CallsIn Fence.wide n Tryz.prog 103 #[.pointer (some ⟨b, 0, none⟩), .func (.yield l) #[] #[]] W fun e W' => (∃ v, e = .returned v) ∧
  ((∃ xs, (xs = (frontR s).1 ∧ ∃ p : Nat, Sc W' b s p (frontR s).2.1 (frontR s).2.2) ∧ J xs W') ∨ (∃ pre, True ∧ Jx pre W')) := by
 have HS := Lib.hid hsc
 have HJ := Lib.hid hJ
 have HJX := Lib.hid hJx
 have HY := Lib.hid hY
 have HW := Lib.hid hW
 have HT := Lib.hid T
 have H0 := Lib.hid h0
 clear hsc hJ hJx hY hW T h0
 refine callsIn_of_wp Tryz.func103 rfl trivial ?_ rfl
 simp only [Tryz.ntmps103, List.size_toArray, List.length_cons, List.length_nil, Nat.reduceAdd, Nat.reduceSub, Array.replicate_succ, Array.replicate_zero, List.push_toArray, List.append_toArray, List.nil_append, List.cons_append]
 gi_wp2_with ((refine ⟨trivial, (by intro h; cases h), ?_⟩); first
  | (gi_at_call 149; refine (callsIn_wide.2 (families_any b _)).mono ?_; rintro e w1 ⟨rfl, hb1⟩; unfold famCells)
  | (gi_at_call 150; refine (callsIn_wide.2 (pass_any b s 0 0 0 _ (by omega) (Nat.zero_le _) ((HS.out.below hb1 HS.out.lt).alloc _))).mono ?_; rintro e w2 ⟨rfl, hs2, hk2, hz2⟩; rw [Nat.zero_add] at hs2; have HS2 := Lib.hid hs2; have HK2 := Lib.hid hk2; have HB1 := Lib.hid hb1; clear hs2 hk2 hz2 hb1))
 gi_loopw [5, 6] (fun _ _ wr => ∃ (pre : List Res) (k f : Nat), k ≤ s.size ∧ s.size < f + k ∧ Sc wr b s k 0 0 ∧ Fm wr w1.heap.size b ∧ Hid (Below w0.heap.size w0 wr) ∧ Hid ((frontR s).1 = pre ++ (goH s f k).1 ∧ (frontR s).2 = (goH s f k).2) ∧ Hid (J pre wr)) (fun _ _ wr => s.size - atOf b wr)
 case atStart =>
  have hbW := HS.out.lt
  have hz1 := HB1.out.size
  refine ⟨[], passN (bytesFrom s 0), s.size + 1, ?_, by omega, HS2.out, HK2.out.block _ _ (World.alloc_heap_new w1 _) (by omega), ?_, ⟨rfl, rfl⟩, ?_⟩
  · have := passN_le _ (bytesFrom s 0) (Nat.le_refl _)
    rw [from_len] at this
    omega
  · exact (HW.out.trans ((HB1.out.mono (by have := HW.out.size; omega)).alloc (by have := HW.out.size; omega) _)).trans (HK2.out.below (by have := HW.out.size; simp; omega) (fun k _ hk => by omega))
  · exact HJ.out _ _ _ H0.out (((keepO_below HB1.out).alloc _).trans (keepO_ne HK2.out ((HS.out.below HB1.out hbW).alloc _) hbn))
 case round =>
  obtain ⟨pre, k, f, hk, hf, hsc, hfm, hB, hfr, hj⟩ := hrel
  have HSC := Lib.hid hsc
  have HFM := Lib.hid hfm
  clear hsc hfm HS2 HK2
  obtain ⟨⟨c0, c1, c2, c3⟩, f1, f2, f3⟩ := HSC.out.cells
  have hbr := HSC.out.lt
  by_cases hlt : k < s.size
  · obtain ⟨m0, m1, m2, m3, m4, m5⟩ := HFM.out.cells
    obtain ⟨R, hR⟩ : ∃ R, Hid (R = nextR s k) := ⟨_, rfl⟩
    have HN : Hid (∀ m : Nat, Calls Tryz.prog 151 #[.pointer (some ⟨b, 0, none⟩), .agg (famCells b)] (wr.drewN m) fun e w' => e = .returned R.val ∧ Below (wr.drewN m).heap.size (wr.drewN m) w') := fun m => by
     rw [hR.out]
     exact next_any b s k 0 0 _ (HT.out.below (Nat.le_refl _) ⟨hB.out.os, hB.out.tape, hB.out.output, hB.out.size, hB.out.block⟩) (by omega) hlt (show Sc (wr.drewN m) b s k 0 0 from HSC.out)
    have hlt' : (k : Int) < (s.size : Int) := by omega
    obtain ⟨rk, rx, rw0, rp, ra, rr⟩ := R
    have HN : Hid (∀ m : Nat, Calls Tryz.prog 151 #[.pointer (some ⟨b, 0, none⟩), .agg #[.func (.func 164) #[] #[], .func (.func 175) #[.pointer (some ⟨b, 0, none⟩)] #[], .func (.func 128) #[] #[], .func (.func 176) #[.pointer (some ⟨b, 0, none⟩)] #[], .func (.func 177) #[] #[], .func (.func 178) #[.pointer (some ⟨b, 0, none⟩)] #[]]] (wr.drewN m) fun e w' => e = .returned (.tuple #[.agg #[.int .u8 rk, .string rx, .int .i64 rw0, .int .i64 rp], .agg #[.int .i64 ra, .int .i64 rr]]) ∧ Below wr.heap.size wr w') := fun m =>
     (HN.out m).mono fun _ _ h => ⟨h.1, ⟨h.2.os, h.2.tape, h.2.output, h.2.size, h.2.block⟩⟩
    gi_wp2
    gi_quiet (fail)
    gi_wp2_with ((refine ⟨trivial, (by intro h; cases h), ?_⟩); gi_at_call 151; refine (callsIn_wide.2 (HN.out _)).mono ?_; rintro e w3 ⟨rfl, hb3⟩; have HB3 := Lib.hid hb3; have d0 := (hb3.cell (p := ⟨b, 0, none⟩) hbr).trans c0; have d1 := (hb3.cell (p := ⟨b, 1, none⟩) hbr).trans c1; have d2 := (hb3.cell (p := ⟨b, 2, none⟩) hbr).trans c2; have d3 := (hb3.cell (p := ⟨b, 3, none⟩) hbr).trans c3; have e1 := (hb3.frozen (p := ⟨b, 1, none⟩) hbr).trans f1; have e2 := (hb3.frozen (p := ⟨b, 2, none⟩) hbr).trans f2; have e3 := (hb3.frozen (p := ⟨b, 3, none⟩) hbr).trans f3; have hb3' : b < w3.heap.size := Nat.lt_of_lt_of_le hbr hb3.size; have hb4' : b < w3.heap.size + 1 := Nat.lt_succ_of_lt hb3'; clear hb3)
    ·
     rename_i hrr
     have hsc3 : Sc w3 b s k 0 0 := HSC.out.below HB3.out hbr
     have hne : ¬ (nextR s k).fr = 0 := by
      rw [← hR.out]
      intro h0
      have : (rr != 0) = true := hrr
      rw [show rr = 0 from h0] at this
      cases this
     obtain ⟨f, rfl⟩ : ∃ f', f = f' + 1 := ⟨f - 1, by omega⟩
     have hg := goH_fault (f := f) hlt hne
     have hlow : w0.heap.size ≤ b := hbn
     have hk3 := (Keep.setCell (p := ⟨b, 3, none⟩) (Keep.setCell (p := ⟨b, 2, none⟩) (keepO_below (n := w0.heap.size) HB3.out) (.int .i64 ra) hsc3 (not_selO hbn)) (.int .i64 rr) (heap_setCell_same w3 b 2 _ _ (.int .i64 ra) hsc3) (not_selO hbn))
     refine bodyPost_ret (results_none rfl _ _ _) rfl ⟨⟨_, rfl⟩, .inl ⟨pre, ⟨?_, k, ?_⟩, HJ.out _ _ _ hj.out ((hk3.alloc _).alloc _)⟩⟩
     · rw [hfr.out.1, hg, List.append_nil]
     · rw [hfr.out.2, hg, ← hR.out]
       exact ((hsc3.setFault ra rr).alloc _).alloc _
    · have hrr : Hid ((rr != 0) = false) := by assumption
      have hr0 : Hid ((nextR s k).fr = 0) := by
       have h1 := hrr.out
       rw [Hid, ← hR.out]
       show rr = 0
       simpa using h1
      obtain ⟨g1, g2, g3⟩ := nextR_good s k hlt hr0.out
      rw [← hR.out] at g1 g2 g3
      have q1 : 0 < rx.size := g1
      have q2 : k + rx.size ≤ s.size := g2
      obtain rfl : rp = (k : Int) := g3
      clear g1 g2
      obtain ⟨f, rfl⟩ : ∃ f', f = f' + 1 := ⟨f - 1, by omega⟩
      have hg := Lib.hid (goH_tok (f := f) hlt hr0.out)
      have hnx : Hid (nx s k = k + rx.size + passN (bytesFrom s (k + rx.size))) := by
       unfold nx
       rw [Hid, ← hR.out]
      have hnx2 : Hid (nx s k ≤ s.size) := by
       have := passN_le _ (bytesFrom s (k + rx.size)) (Nat.le_refl _)
       rw [from_len] at this
       rw [Hid, hnx.out]
       omega
      have hnx3 : Hid (k + rx.size ≤ nx s k) := by rw [Hid, hnx.out]; omega
      gi_region
      gi_wp2
      obtain ⟨W3, hW3⟩ : ∃ W3, W3 = (((w3.setCell { block := b, off := 1 } (Value.int IntKind.i64 (↑k + ↑rx.size))).alloc (Obj.cells #[Value.int IntKind.u8 rk, Value.string rx, Value.int IntKind.i64 rw0, Value.int IntKind.i64 ↑k] 108)).alloc (Obj.cells #[Value.int IntKind.i64 ra, Value.int IntKind.i64 rr] 28)).drew := ⟨_, rfl⟩
      rw [← hW3]
      have hsc3 : Sc w3 b s k 0 0 := HSC.out.below HB3.out hbr
      have hk3 : Keep (fun k _ => k ≠ b) w3 W3 := by
       rw [hW3]
       have h := (((Keep.refl (fun k _ => k ≠ b) w3).setCell (p := ⟨b, 1, none⟩) (.int .i64 (↑k + ↑rx.size)) hsc3 (fun h => h rfl)).alloc (Obj.cells #[Value.int IntKind.u8 rk, Value.string rx, Value.int IntKind.i64 rw0, Value.int IntKind.i64 ↑k] 108)).alloc (Obj.cells #[Value.int IntKind.i64 ra, Value.int IntKind.i64 rr] 28)
       exact ⟨h.os, h.tape, h.output, h.size, h.block⟩
      have hscW : Sc W3 b s ((k + rx.size : Nat) : Int) 0 0 := by
       rw [hW3, Int.natCast_add]
       exact (((hsc3.setAt ((k : Int) + (rx.size : Int))).alloc (Obj.cells #[Value.int IntKind.u8 rk, Value.string rx, Value.int IntKind.i64 rw0, Value.int IntKind.i64 ↑k] 108)).alloc (Obj.cells #[Value.int IntKind.i64 ra, Value.int IntKind.i64 rr] 28) :)
      have hz0 := hB.out.size
      have hz0' := HW.out.size
      have hz3 := HB3.out.size
      have hz4 := hk3.size
      have hgb : w1.heap.size ≠ b := fun e => by
       have h1 := HFM.out
       have h2 := HSC.out
       unfold Fm at h1
       rw [e, show wr.heap[b]? = _ from h2] at h1
       simp at h1
      have hgl : w1.heap.size < wr.heap.size := (Array.getElem?_eq_some_iff.1 HFM.out).1
      have hfmW : Fm W3 w1.heap.size b := hk3.block _ _ ((HB3.out.block _ hgl).trans HFM.out) hgb
      have hBW : Below w0.heap.size w0 W3 := (hB.out.trans (HB3.out.mono (by have := HW.out.size; omega))).trans (hk3.below (by omega) (fun k _ hk => by omega))
      have hJ3 : J pre W3 := HJ.out _ _ _ (HJ.out _ _ _ hj.out (keepO_below HB3.out)) (keepO_ne hk3 hsc3 hbn)
      have hok : okR s pre (nextR s k) := ⟨(goH s f (nx s k)).1, by rw [hfr.out.1, hg.out]; simp⟩
      obtain ⟨fn, tmps, assign, body, hy, hRd⟩ := HY.out pre _ W3 hJ3 hok
      rw [← hR.out] at hy
      rw [show (Instr.yield l #[Value.agg #[Value.int IntKind.u8 rk, Value.string rx, Value.int IntKind.i64 rw0, Value.int IntKind.i64 ↑k]]).run Tryz.prog W3 = _ from hy]
      have HSW := Lib.hid hscW
      have HFW := Lib.hid hfmW
      have HBW := Lib.hid hBW
      clear hy hscW hfmW hBW hk3 hW3 hsc3 hgb hJ3
      refine ⟨(by intro h; cases h), hRd.mono ?_⟩
      rintro e W4 (⟨rfl, hj4, hk4⟩ | ⟨rfl, hj4, hk4⟩)
      · have hsc4 : Sc W4 b s ((k + rx.size : Nat) : Int) 0 0 := HSW.out.keep hk4 (.inr (.inl ⟨_, _, rfl⟩))
        have HS4 := Lib.hid hsc4
        have HF4 : Hid (Fm W4 w1.heap.size b) := hk4.block _ _ HFW.out (.inr (.inr ⟨_, _, rfl⟩))
        have HB4 : Hid (Below w0.heap.size w0 W4) := HBW.out.trans (hk4.below (by omega) (fun k _ hk => .inl hk))
        have HJ4 := Lib.hid hj4
        have hw4 : w0.heap.size ≤ W4.heap.size := HB4.out.size
        clear hj4 hk4 hRd
        gi_wp2_with ((refine ⟨trivial, (by intro h; cases h), ?_⟩); gi_at_call 150; refine (callsIn_wide.2 (pass_any b s (k + rx.size) 0 0 W4 (by omega) q2 HS4.out)).mono ?_; rintro e w5 ⟨rfl, hs5, hk5, hz5⟩; have HS5 := Lib.hid hs5; have HK5 := Lib.hid hk5; clear hs5 hk5 hz5)
        go_roundw
        case rel =>
         refine ⟨pre ++ [nextR s k], nx s k, f, hnx2.out, by have := hnx3.out; omega, ?_, ?_, ?_, ⟨?_, ?_⟩, ?_⟩
         · rw [hnx.out]; exact HS5.out
         · exact HK5.out.block _ _ HF4.out (by
          intro e
          have h1 := HF4.out
          have h2 := HS4.out
          unfold Fm at h1
          rw [e, show W4.heap[b]? = _ from h2] at h1
          simp at h1)
         · exact HB4.out.trans (HK5.out.below (by omega) (fun k _ hk => by omega))
         · rw [hfr.out.1, hg.out]; simp
         · rw [hfr.out.2, hg.out]
         · exact HJ.out _ _ _ HJ4.out (keepO_ne HK5.out HS4.out hbn)
        case measure =>
         have h5 := HS5.out.atOf
         have h6 := HSC.out.atOf
         rw [h5, h6]
         omega
      · have HJ4 := Lib.hid hj4
        clear hj4 hk4 hRd
        gi_wp2
        refine bodyPost_ret (results_none rfl _ _ _) rfl ⟨⟨_, rfl⟩, .inr ⟨_, trivial, HJ4.out⟩⟩
  · have hd : Hid (Sc (wr.drewN 0) b s k 0 0) := HSC.out
    gi_wp2
    gi_quiet (fail)
    gi_wp2
    go_end0
    refine ⟨⟨_, rfl⟩, .inl ⟨pre, ⟨?_, k, ?_⟩, HJ.out _ _ _ hj.out (keep_drew _ _ _)⟩⟩
    · rw [hfr.out.1, goH_end hlt, List.append_nil]
    · rw [hfr.out.2, goH_end hlt]
      exact HSC.out
open Go.RowKit Go.Shelf
set_option linter.unusedVariables false
attribute [local go_sem] Oper.semAt_some
def tokCells (r : Res) : List Value := [.int .u8 r.kind, .string r.text, .int .i64 r.wd, .int .i64 r.place]
def rowR (xs : List Res) : List Value := xs.flatMap tokCells
theorem rowR_snoc (xs : List Res) (x : Res) : rowR (xs ++ [x]) = rowR xs ++ tokCells x := by
 simp [rowR]
def selC (n : Nat) (k : Nat) (o : Obj) : Prop := k < n ∨ (o.isCells = true ∧ ¬ IsTy 147 o)
def selB (n : Nat) (k : Nat) (o : Obj) : Prop := selY n k o ∨ o.isCells = false
theorem boxC {W W' : World} {B n : Nat} {t : TypeId} {v : Value} (h : Boxed W B t v) (hk : Keep (selC n) W W') (ht : t ≠ 147) : Boxed W' B t v :=
 hk.block _ _ h (.inr ⟨rfl, not_ty ht⟩)
theorem ownsRow_keep {W W' : World} {sel : Nat → Obj → Prop} {base : Nat} {e : TypeId} {size : Nat} {v : Value} {k : Nat} {xs : List Value} (h : W.ownsRow base e size v k xs) (hk : Keep sel W W') (hs : ∀ g cs, base ≤ g → sel g (.cells cs e (0, 0))) : W'.ownsRow base e size v k xs := by
 refine ⟨h.1, ?_⟩
 rcases h.2 with h2 | ⟨g, cap, cur, hv, hb, hg, rest⟩
 · exact .inl h2
 · exact .inr ⟨g, cap, cur, hv, hb, hk.block _ _ hg (hs _ _ hb), rest⟩
def TokBox (W : World) (B : Nat) (x : Res) : Prop := W.heap[B]? = some (.cells #[.int .u8 x.kind, .string x.text, .int .i64 x.wd, .int .i64 x.place] 108 (0, 0))
def Lst (n₀ B : Nat) (pre : List Res) (W : World) : Prop :=
 ∃ v, Boxed W B 59 v ∧ W.ownsRow n₀ 108 4 v pre.length (rowR pre) ∧ (v = .slice none 0 0 ↔ pre = [])
theorem Lst.keepC {n₀ B n : Nat} {pre : List Res} {W W' : World} (h : Lst n₀ B pre W) (hk : Keep (selC n) W W') : Lst n₀ B pre W' := by
 obtain ⟨v, h1, h2, h3⟩ := h
 exact ⟨v, boxC h1 hk (by decide), ownsRow_keep h2 hk (fun g cs _ => .inr ⟨rfl, not_ty (by decide)⟩), h3⟩
theorem infoTok : (Tryz.prog.info? 108).map (fun i => (i.zero, i.size, i.bytes)) = some (some (.agg #[.int .u8 0, .string ⟨#[]⟩, .int .i64 0, .int .i64 0]), 4, 40) := by kernel_rfl
theorem goH_len (s : ByteArray) : ∀ (f q : Nat), q ≤ s.size → (goH s f q).1.length ≤ s.size - q
 | 0, q, h => Nat.zero_le _
 | f + 1, q, h => by
   by_cases hq : q < s.size
   · by_cases hr : (nextR s q).fr = 0
     · rw [goH_tok hq hr]
       obtain ⟨g1, g2, _⟩ := nextR_good s q hq hr
       have g3 : nx s q ≤ s.size := by
        have := passN_le _ (bytesFrom s (q + (nextR s q).text.size)) (Nat.le_refl _)
        rw [from_len] at this
        unfold nx
        omega
       have g4 : q + (nextR s q).text.size ≤ nx s q := by unfold nx; omega
       have := goH_len s f (nx s q) g3
       simp only [List.length_cons]
       omega
     · rw [goH_fault hq hr]; exact Nat.zero_le _
   · rw [goH_end hq]; exact Nat.zero_le _
theorem front_len (s : ByteArray) : (frontR s).1.length ≤ s.size := by
 have := passN_le _ (bytesFrom s 0) (Nat.le_refl _)
 rw [from_len] at this
 have := goH_len s (s.size + 1) (passN (bytesFrom s 0)) (by omega)
 unfold frontR
 omega
theorem okR_len {s : ByteArray} {pre : List Res} {x : Res} (h : okR s pre x) (hs : s.size ≤ 65536) : pre.length + 1 ≤ 65536 := by
 obtain ⟨t, ht⟩ := h
 have := congrArg List.length ht
 have := front_len s
 simp at *
 omega
theorem cell_four {W : World} {g : Nat} {a b c d : Value} {t : TypeId} (h : W.heap[g]? = some (.cells #[a, b, c, d] t (0, 0))) (j : Nat) (u : Value) (hj : [a, b, c, d][j]? = some u) : W.cell? ((⟨g, 0, none⟩ : Addr).add j) = some u := by
 obtain ⟨⟨h0, h1, h2, h3⟩, _⟩ := row4 h
 match j, hj with
 | 0, hj => cases hj; exact h0
 | 1, hj => cases hj; exact h1
 | 2, hj => cases hj; exact h2
 | 3, hj => cases hj; exact h3
theorem appended_keep {sel : Nat → Obj → Prop} {W w1 : World} {n₀ B : Nat} {v v' : Value} {k : Nat} {xs : List Value} {tmp : Obj}
 (hrow : W.ownsRow n₀ 108 4 v k xs) (hgrow : (W.alloc tmp).grownBy w1 v.ownBlock) (hv1 : Boxed w1 B 59 v) (hs : ∀ g cs, n₀ ≤ g → ¬ sel g (.cells cs 108 (0, 0))) (hs2 : ∀ cs, ¬ sel B (.cells cs 59 (0, 0))) :
 Keep sel W (w1.setCell ⟨B, 0, none⟩ v') := by
 refine (((Keep.refl sel W).alloc tmp).grown hgrow fun r o er ho => ?_).setCell (p := ⟨B, 0, none⟩) v' hv1 (hs2 _)
 rcases (hrow.alloc tmp).2 with ⟨rfl, _⟩ | ⟨g, cap, cur, rfl, hb, hgb, _⟩
 · simp [Value.ownBlock] at er
 · obtain rfl : g = r := by simpa [Value.ownBlock] using er
   rw [hgb] at ho; cases ho
   exact hs _ _ hb
theorem notB {n g : Nat} {cs : Array Value} {t : TypeId} (hn : n ≤ g) (h1 : t ≠ 147) (h2 : t ≠ 184) : ¬ selB n g (.cells cs t (0, 0)) := fun h => by
 rcases h with (h | h | h) | h
 · omega
 · exact not_ty h1 h
 · exact not_ty h2 h
 · cases h
open Go.RowKit Go.Shelf
set_option linter.unusedVariables false
attribute [local go_sem] Oper.semAt_some
def scanPost (s : ByteArray) (n₀ : Nat) (W : World) (v : Value) : Prop :=
 if 65536 < s.size then v = .tuple #[.slice none 0 0, .int .i64 4, faultV 0 0]
 else if (frontR s).2.2 = 0 then ∃ u, v = .tuple #[u, .int .i64 0, faultV 0 0] ∧ W.ownsRow n₀ 108 4 u (frontR s).1.length (rowR (frontR s).1) ∧ (u = .slice none 0 0 ↔ (frontR s).1 = [])
 else v = .tuple #[.slice none 0 0, .int .i64 20, faultV (frontR s).2.1 (frontR s).2.2]
def FltBox (W : World) (B : Nat) : Prop := W.heap[B]? = some (.cells #[.int .i64 0, .int .i64 0] 28 (0, 0))
theorem scan_end {W : World} {D n₀ : Nat} (hfb : FltBox W n₀) (hK : W.heap[D]? = some (.deferred (some []))) (hD : n₀ < D) (a r : Int) :
 ((W.setCell ⟨n₀, 0, none⟩ (.int .i64 a)).setCell ⟨n₀, 1, none⟩ (.int .i64 r)).heap[D]? = some (.deferred (some [])) ∧
 (((W.setCell ⟨n₀, 0, none⟩ (.int .i64 a)).setCell ⟨n₀, 1, none⟩ (.int .i64 r)).putObj D (.deferred none)).heap[n₀]? = some (.cells #[.int .i64 a, .int .i64 r] 28 (0, 0)) ∧
 Keep (fun k o => k < n₀ ∨ IsTy 108 o) W (((W.setCell ⟨n₀, 0, none⟩ (.int .i64 a)).setCell ⟨n₀, 1, none⟩ (.int .i64 r)).putObj D (.deferred none)) := by
 have h1 := heap_setCell_same W n₀ 0 _ _ (.int .i64 a) hfb
 have h2 := heap_setCell_same _ n₀ 1 _ _ (.int .i64 r) h1
 have hd : ((W.setCell ⟨n₀, 0, none⟩ (.int .i64 a)).setCell ⟨n₀, 1, none⟩ (.int .i64 r)).heap[D]? = some (.deferred (some [])) :=
  (Below.heap_setCell _ _ _ _ (show D ≠ n₀ by omega)).trans ((Below.heap_setCell _ _ _ _ (show D ≠ n₀ by omega)).trans hK)
 refine ⟨hd, (World.putObj_heap_other (by omega)).trans h2, ?_⟩
 refine (((Keep.refl _ W).setCell (p := ⟨n₀, 0, none⟩) _ hfb ?_).setCell (p := ⟨n₀, 1, none⟩) _ h1 ?_).putObj _ hd ?_
 · rintro (h | h)
   · exact Nat.lt_irrefl _ h
   · exact not_ty (by decide) h
 · rintro (h | h)
   · exact Nat.lt_irrefl _ h
   · exact not_ty (by decide) h
 · rintro (h | ⟨_, _, h⟩)
   · omega
   · cases h
theorem scan_any (s : ByteArray) (w : World) (T : LTabs w) :
 Calls Tryz.prog 61 #[.string s] w fun e w' => (∃ v, e = .returned v ∧ scanPost s w.heap.size w' v) ∧ Below w.heap.size w w' := by
 by_cases hl : 65536 < s.size
 · go_enter Tryz.func61, Tryz.ntmps61
   have hl' : (65536 : Int) < (s.size : Int) := by omega
   go_wp2
   refine bodyPost_ret (v := .tuple #[.slice none 0 0, .int .i64 4, .agg #[.int .i64 0, .int .i64 0]]) (by simp [results, Tryz.results61, go_sem]) rfl ⟨⟨_, rfl, ?_⟩, (Below.refl _ w).alloc (Nat.le_refl _) _⟩
   unfold scanPost
   rw [if_pos hl]
   rfl
 · refine (callsIn_wide (n := 3)).1 ?_
   have hl' : ¬ (65536 : Int) < (s.size : Int) := by omega
   have HT := Lib.hid T
   clear T
   obtain ⟨i0, hi, hz0, hz1, hz2⟩ := info_parts infoTok
   refine callsIn_of_wp_marks Tryz.func61 rfl trivial ?_ rfl
   simp only [Tryz.ntmps61, List.size_toArray, List.length_cons, List.length_nil, Nat.reduceAdd, Nat.reduceSub, Array.replicate_succ, Array.replicate_zero, List.push_toArray, List.append_toArray, List.nil_append, List.cons_append]
   gi_wp2
   obtain ⟨W0, hW0⟩ : ∃ W0, W0 = (((w.alloc (Obj.cells #[Value.int IntKind.i64 0, Value.int IntKind.i64 0] 28)).alloc (Obj.cells #[Value.string s, Value.int IntKind.i64 0, Value.int IntKind.i64 0, Value.int IntKind.i64 0] 147)).alloc (Obj.cells #[Value.slice none 0 0] 59)) := ⟨_, rfl⟩
   rw [← hW0]
   have hz : W0.heap.size = w.heap.size + 3 := by rw [hW0]; simp
   have hB0 : Below w.heap.size w W0 := by rw [hW0]; exact (((Below.refl _ w).alloc (Nat.le_refl _) _).alloc (by simp) _).alloc (by simp; omega) _
   have hflt : FltBox W0 w.heap.size := by
    rw [hW0]
    exact ((Below.heap_alloc _ _ _ (by simp; omega)).trans ((Below.heap_alloc _ _ _ (by simp)).trans (World.alloc_heap_new w _)))
   have hsc : Sc W0 (w.heap.size + 1) s 0 0 0 := by
    rw [hW0]
    have h := World.alloc_heap_new (w.alloc (Obj.cells #[Value.int IntKind.i64 0, Value.int IntKind.i64 0] 28)) (Obj.cells #[Value.string s, Value.int IntKind.i64 0, Value.int IntKind.i64 0, Value.int IntKind.i64 0] 147)
    rw [World.size_alloc] at h
    exact (Below.heap_alloc _ _ _ (by simp)).trans h
   have hbox : Boxed W0 (w.heap.size + 1 + 1) 59 (.slice none 0 0) := by
    rw [hW0]
    have h := World.alloc_heap_new ((w.alloc (Obj.cells #[Value.int IntKind.i64 0, Value.int IntKind.i64 0] 28)).alloc (Obj.cells #[Value.string s, Value.int IntKind.i64 0, Value.int IntKind.i64 0, Value.int IntKind.i64 0] 147)) (Obj.cells #[Value.slice none 0 0] 59)
    rw [World.size_alloc, World.size_alloc] at h
    exact h
   clear hW0
   have hI : ∀ (pre : List Res) (A B : World), (Lst w.heap.size (w.heap.size + 1 + 1) pre A ∧ FltBox A w.heap.size ∧ Below w.heap.size w A) → Keep (selC w.heap.size) A B → (Lst w.heap.size (w.heap.size + 1 + 1) pre B ∧ FltBox B w.heap.size ∧ Below w.heap.size w B) :=
    fun pre A B h hk => ⟨h.1.keepC hk, hk.block _ _ h.2.1 (.inr ⟨rfl, not_ty (by decide)⟩), h.2.2.trans (hk.below h.2.2.size (fun k _ hk => .inl hk))⟩
   refine wpIn_range_keep (n := 3) rfl (by omega) (gf := 103) (fst := #[.pointer (some ⟨w.heap.size + 1, 0, none⟩)]) (lb := #[]) rfl trivial (enters_of Tryz.func103 (by kernel_rfl) rfl)
    (encs := encR) (fun _ => rfl) (selO w.heap.size) (selY w.heap.size) (selC w.heap.size)
    (fun k o ho => .inr (fun ⟨_, _, e⟩ => by rw [e] at ho; cases ho))
    (fun k o hk ho => by
     rcases ho with ho | ⟨_, _, e⟩ | ⟨_, _, e⟩
     · omega
     · rw [e]; rfl
     · rw [e]; rfl)
    (fun k o hk ho => by
     rcases ho with ho | ho
     · omega
     · exact ho.1)
    (fun k o ho => by
     rcases ho with ho | ho
     · exact .inl ho
     · exact .inr ho.2)
    (S := fun xs W => xs = (frontR s).1 ∧ ∃ p : Nat, Sc W (w.heap.size + 1) s p (frontR s).2.1 (frontR s).2.2) (Sp := fun _ _ => True) (ok := okR s)
    (fun l J Jx W hbW hJ hJx hYl hJ0 => tokens_in 2 l (w.heap.size + 1) s (by omega) w HT.out J Jx hJ hJx hYl W (hB0.trans (hbW.mono (by omega))) (by omega) (hsc.below hbW (by omega)) hJ0)
    (fun pre W => Lst w.heap.size (w.heap.size + 1 + 1) pre W ∧ FltBox W w.heap.size ∧ Below w.heap.size w W)
    (fun _ _ _ => False)
    hI
    (fun _ _ _ _ h _ => h)
    ⟨⟨_, hbox, World.ownsRow_nil _ _ _ _, by simp⟩, hflt, hB0⟩
    (fun x a' W => ∃ Bx, TokBox W Bx x ∧ a' = { tmps := #[Value.string s, undef, Value.slice none 0 0, Value.int IntKind.i64 0, Value.pointer (some { block := w.heap.size, off := 0 }), Value.pointer (some { block := w.heap.size + 1, off := 0 }), Value.pointer (some { block := w.heap.size + 1 + 1, off := 0 }), Value.pointer (some { block := Bx, off := 0 }), Value.string s, Value.int IntKind.i64 ↑s.size, Value.bool false, undef, Value.string s, Value.agg #[Value.string s, Value.int IntKind.i64 0, Value.int IntKind.i64 0, Value.int IntKind.i64 0], Value.func (Fn.func 103) #[Value.pointer (some { block := w.heap.size + 1, off := 0 })] #[], tokV x.kind x.text x.wd x.place, undef, undef, undef, undef, undef, undef, undef, undef, undef, undef, undef, undef], defers := [] })
    (fun x a' A B h hk => by
     obtain ⟨Bx, h1, h2⟩ := h
     exact ⟨Bx, hk.block _ _ h1 (.inr ⟨rfl, not_ty (by decide)⟩), h2⟩)
    ?assign ?body ?done ?stop
   case assign =>
    rintro l pre x W K hi hK
    have HI := Lib.hid hi
    have HK := Lib.hid hK
    obtain ⟨rk, rx, rw0, rp, ra, rr⟩ := x
    clear hi hK
    simp only [encR, tokV]
    gi_wp2
    exact HK.out _ _ ((Keep.refl _ W).alloc _) (hI _ _ _ HI.out ((Keep.refl _ W).alloc _)) ⟨W.heap.size, World.alloc_heap_new W _, rfl⟩
   case body =>
    rintro l pre x a' W ⟨⟨v, hv, hrow, hnil⟩, hfb, hB⟩ ⟨Bx, hbx, rfl⟩ hok
    have hlen := okR_len hok (by omega)
    obtain ⟨rk, rx, rw0, rp, ra, rr⟩ := x
    obtain ⟨⟨t0, t1, t2, t3⟩, _⟩ := row4 hbx
    have hc := hv.cell
    have HB := Lib.hid hB
    have hBs : w.heap.size ≤ W.heap.size := hB.size
    have HF := Lib.hid hfb
    have HBX := Lib.hid hbx
    clear hB hfb hbx
    simp only [tokV]
    gi_wp2_with (gi_at_builtin; refine wpListIn_append_own _ rfl _ _ 59 rfl w.heap.size 108 i0 _ 4 40 Tryz.underlying59 hi hz0 hz1 hz2 rfl (by decide) _ _ _ rfl (hrow.alloc _) ⟨W.heap.size, 0, none⟩ 1 1 [.int .u8 rk, .string rx, .int .i64 rw0, .int .i64 rp] rfl rfl (fun j u hj => cell_four (World.alloc_heap_new W _) j u hj) (by simp [Value.oneCell']) (by simp only [maxLen]; omega) (by omega) (by simp; omega) ?_; intro v' w1 hown' hgrow _; obtain ⟨g', cap', rfl⟩ := ownsRow_succ hown'; obtain ⟨hv1, hv2, hr2, _, hb2⟩ := hv.appended (by decide) hrow hBs (by omega) hown' hgrow; have hc1 := hv1.cell; have hf1 := hv1.frozen)
    refine ⟨appended_keep (sel := selB w.heap.size) hrow hgrow hv1 (fun g cs hg => notB hg (by decide) (by decide)) (fun cs => notB (by omega) (by decide) (by decide)), ⟨_, hv2, ?_, ?_⟩, ?_, HB.out.trans hb2⟩
    · rw [rowR_snoc, List.length_append]; exact hr2
    · simp
    · exact (appended_keep (sel := fun k o => IsTy 28 o) hrow hgrow hv1 (fun _ _ _ => not_ty (by decide)) (fun _ => not_ty (by decide))).block _ _ HF.out ⟨_, _, rfl⟩
   case done =>
    rintro D xs W1 W hD ⟨rfl, p, hsc1⟩ ⟨⟨v, hv, hrow, hnil⟩, hfb, hB⟩ hk hK
    have hscW : Sc W (w.heap.size + 1) s p (frontR s).2.1 (frontR s).2.2 := hsc1.keep hk (.inr rfl)
    obtain ⟨⟨c0, c1, c2, c3⟩, f1, f2, f3⟩ := hscW.cells
    obtain ⟨⟨b0, b1⟩, b2, b3⟩ := row2 hfb
    have hc := hv.cell
    have hbs := hB.size
    obtain ⟨R, hR⟩ : ∃ R, Hid (R = frontR s) := ⟨_, rfl⟩
    rw [← hR.out] at c2 c3 hrow hnil
    obtain ⟨rxs, ra, rr⟩ := R
    have HFB := Lib.hid hfb
    have HK := Lib.hid hK
    have HBB := Lib.hid hB
    have HR := Lib.hid hrow
    have HN := Lib.hid hnil
    clear hfb hK hB hrow hnil hk hsc1 hscW hv
    by_cases hrr : rr = 0
    · subst hrr
      gi_wp2
      obtain ⟨k1, k2, k3⟩ := scan_end HFB.out HK.out (by omega) 0 0
      refine ⟨by simp, .inl ⟨_, _, rfl, run_takeDeferred k1, ?_⟩⟩
      obtain ⟨⟨z0, z1⟩, _⟩ := row2 k2
      refine ⟨.tuple #[v, .int .i64 0, .agg #[.int .i64 0, .int .i64 0]], by simp [results, Tryz.results61, go_sem, z0, z1], ⟨_, rfl, ?_⟩, HBB.out.trans (k3.below HBB.out.size (fun k _ hk => .inl hk))⟩
      unfold scanPost
      rw [if_neg hl, ← hR.out, if_pos rfl]
      exact ⟨v, rfl, ownsRow_keep HR.out k3 (fun g cs _ => .inr ⟨_, _, rfl⟩), HN.out⟩
    · have hne : (rr != 0) = true := by simpa using hrr
      gi_wp2
      gi_region
      gi_wp2
      obtain ⟨k1, k2, k3⟩ := scan_end HFB.out HK.out (by omega) ra rr
      obtain ⟨⟨z0, z1⟩, _⟩ := row2 k2
      have k4 : Keep (fun k o => k < w.heap.size ∨ IsTy 108 o) W ((((W.setCell ⟨w.heap.size, 0, none⟩ (.int .i64 ra)).setCell ⟨w.heap.size, 1, none⟩ (.int .i64 rr)).drew).putObj D (.deferred none)) := ⟨k3.os, k3.tape, k3.output, k3.size, k3.block⟩
      have y0 : ((((W.setCell ⟨w.heap.size, 0, none⟩ (.int .i64 ra)).setCell ⟨w.heap.size, 1, none⟩ (.int .i64 rr)).drew).putObj D (.deferred none)).cell? ⟨w.heap.size, 0, none⟩ = some (.int .i64 ra) := z0
      have y1 : ((((W.setCell ⟨w.heap.size, 0, none⟩ (.int .i64 ra)).setCell ⟨w.heap.size, 1, none⟩ (.int .i64 rr)).drew).putObj D (.deferred none)).cell? ⟨w.heap.size, 1, none⟩ = some (.int .i64 rr) := z1
      refine ⟨by simp, .inl ⟨_, _, rfl, run_takeDeferred (show ((W.setCell ⟨w.heap.size, 0, none⟩ (.int .i64 ra)).setCell ⟨w.heap.size, 1, none⟩ (.int .i64 rr)).drew.heap[D]? = _ from k1), ?_⟩⟩
      refine ⟨.tuple #[.slice none 0 0, .int .i64 20, .agg #[.int .i64 ra, .int .i64 rr]], by simp [results, Tryz.results61, go_sem, y0, y1], ⟨_, rfl, ?_⟩, HBB.out.trans (k4.below HBB.out.size (fun k _ hk => .inl hk))⟩
      unfold scanPost
      rw [if_neg hl, ← hR.out, if_neg hrr]
      rfl
   case stop =>
    rintro D c pre W1 W _ _ h _ _
    exact h.elim
open Go.RowKit
set_option linter.unusedVariables false
set_option linter.unusedSimpArgs false
def wordL (l : List UInt8) : Bool := (l == [115, 104, 97, 114, 101, 100]) || (l == [108, 111, 99, 107]) || (l == [116, 104, 114, 101, 97, 100]) || (l == [108, 111, 99, 97, 108]) || (l == [105, 102]) || (l == [101, 108, 115, 101]) || (l == [119, 104, 105, 108, 101]) || (l == [112, 114, 105, 110, 116]) || (l == [115, 107, 105, 112]) || (l == [115, 119, 97, 112])
theorem wordB_list (s : ByteArray) : wordB s = wordL s.toList := by
 have h : ∀ (v : ByteArray) (l : List UInt8), v.toList = l → (v.toList == s.toList) = (s.toList == l) := fun v l e => by
  rw [e]; exact Bool.eq_iff_iff.2 ⟨fun h => by simpa using (by simpa using h : l = s.toList).symm, fun h => by simpa using (by simpa using h : s.toList = l).symm⟩
 unfold wordB wordL
 rw [h (wordAt 0) [115, 104, 97, 114, 101, 100] (by rw [Lib.toList_data]; rfl), h (wordAt 1) [108, 111, 99, 107] (by rw [Lib.toList_data]; rfl), h (wordAt 2) [116, 104, 114, 101, 97, 100] (by rw [Lib.toList_data]; rfl), h (wordAt 3) [108, 111, 99, 97, 108] (by rw [Lib.toList_data]; rfl), h (wordAt 4) [105, 102] (by rw [Lib.toList_data]; rfl), h (wordAt 5) [101, 108, 115, 101] (by rw [Lib.toList_data]; rfl), h (wordAt 6) [119, 104, 105, 108, 101] (by rw [Lib.toList_data]; rfl), h (wordAt 7) [112, 114, 105, 110, 116] (by rw [Lib.toList_data]; rfl), h (wordAt 8) [115, 107, 105, 112] (by rw [Lib.toList_data]; rfl), h (wordAt 9) [115, 119, 97, 112] (by rw [Lib.toList_data]; rfl)]
open Go.RowKit
set_option linter.unusedVariables false
theorem u8_int {a b : UInt8} : ((a.toNat : Int) = (b.toNat : Int)) ↔ a = b :=
 ⟨fun h => UInt8.toNat_inj.1 (by omega), fun h => by rw [h]⟩
theorem blank_not47 {x : UInt8} (h : blankB (x.toNat : Int) = true) : ¬ x = 47 := by
 intro e; subst e; revert h; decide
theorem prefix_no {x : UInt8} {r : List UInt8} (h : ¬ x = 47) : Lib.hasPrefix (x :: r) slashes = false := by
 cases hp : Lib.hasPrefix (x :: r) slashes with
 | false => rfl
 | true =>
   unfold Lib.hasPrefix slashes at hp
   simp only [List.isPrefixOf_cons_cons, Bool.and_eq_true, beq_iff_eq] at hp
   exact absurd hp.1.symm h
theorem prefix_one (x : UInt8) : Lib.hasPrefix [x] slashes = false := by
 unfold Lib.hasPrefix slashes
 simp [List.isPrefixOf]
theorem prefix_two (x y : UInt8) (r : List UInt8) : Lib.hasPrefix (x :: y :: r) slashes = (decide (x = 47) && decide (y = 47)) := by
 unfold Lib.hasPrefix slashes
 simp only [List.isPrefixOf_cons_cons, List.isPrefixOf_nil_left, Bool.and_true]
 congr 1
 · by_cases hx : x = 47
   · subst hx; rfl
   · rw [decide_eq_false hx]; simpa using fun h : 47 = x => hx h.symm
 · by_cases hx : y = 47
   · subst hx; rfl
   · rw [decide_eq_false hx]; simpa using fun h : 47 = y => hx h.symm
theorem pass_cons (x : UInt8) (r : List UInt8) (h : blankB (x.toNat : Int) = true) : passN (x :: r) = 1 + passN r := by
 have h1 : stepN (x :: r) = spanN blankB r + 1 := by
  unfold stepN
  rw [prefix_no (blank_not47 h), if_neg (by decide)]
  simp only [spanN]
  rw [if_pos h]
 have h2 : passN (x :: r) = spanN blankB r + 1 + passN (r.drop (spanN blankB r)) := by
  rw [passN_step (by rw [h1]; omega), h1]; rfl
 have h3 : passN r = spanN blankB r + passN (r.drop (spanN blankB r)) := by
  by_cases h0 : spanN blankB r = 0
  · rw [h0]; simp
  · have hs : stepN r = spanN blankB r := by
     unfold stepN
     cases hp : Lib.hasPrefix r slashes with
     | false => rw [if_neg (by decide)]
     | true =>
       exfalso
       apply h0
       cases r with
       | nil => rfl
       | cons y t =>
         by_cases hy : y = 47
         · subst hy; simp only [spanN]; rw [if_neg (by decide)]
         · rw [prefix_no hy] at hp; cases hp
    have h4 := passN_step (l := r) (by rw [hs]; exact h0)
    rw [hs] at h4
    exact h4
 omega
theorem pass_remark {l : List UInt8} (h : Lib.hasPrefix l slashes = true) : passN l = spanN feedB l + passN (l.drop (spanN feedB l)) := by
 have hs : stepN l = spanN feedB l := by unfold stepN; rw [if_pos h]
 by_cases h0 : spanN feedB l = 0
 · rw [h0]; simp
 · have h4 := passN_step (l := l) (by rw [hs]; exact h0)
   rw [hs] at h4
   exact h4
theorem pass_none {l : List UInt8} {x : UInt8} {r : List UInt8} (e : l = x :: r) (h : Lib.hasPrefix l slashes = false) (hb : blankB (x.toNat : Int) = false) : passN l = 0 := by
 apply passN_stop
 unfold stepN
 rw [h, if_neg (by decide), e]
 simp only [spanN]
 rw [if_neg (by rw [hb]; decide)]
end Go.Proofs.YtikaflpiephaiaaGreatDoor

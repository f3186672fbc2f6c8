/- A core prints. -/
import Derived.Test.YtmpljhfinmfnbaaDoorVw8
import Derived.Test.YtmpljhfinmfnbaaDoorVw5
namespace Go.Proofs.YtmpljhfinmfnbaaDoor
open Go.RowKit
set_option linter.unusedVariables false
set_option maxRecDepth 100000
theorem own_setother {W : World} {a b : Nat} {T : TypeId} {row : Array Value} (hne : a ≠ b) (h : Own W a T row) (j : Nat) (u : Value) : Own (W.setCell ⟨b, j, none⟩ u) a T row :=
  (Below.heap_setCell W ⟨b, j, none⟩ u a (by intro e; first | exact hne e | exact hne e.symm)).trans h
theorem own_setin {W : World} {b : Nat} {T : TypeId} {row : Array Value} (h : Own W b T row) (j : Nat) (u : Value) : Own (W.setCell ⟨b, j, none⟩ u) b T (row.setIfInBounds j u) :=
  heap_setCell_same W b j _ _ u h
theorem said_setother {W : World} {b : Nat} {T : TypeId} {row : Array Value} (hb : Own W b T row) (hT : (140 == T) = false) (j : Nat) (u : Value) : ∀ (a : Option Addr) (l : List (Int × Int)), saidR W a l → saidR (W.setCell ⟨b, j, none⟩ u) a l
  | a, [], q => q
  | a, x :: r, ⟨g, b', e, h1, h2⟩ => ⟨g, b', e, own_setother (own_unlike h1 hb hT) h1 j u, said_setother hb hT j u b' r h2⟩
set_option maxHeartbeats 1000000 in
theorem wp_stSd {o : Oper} {a : Act} {w : World} {K : Act → World → Prop} {Q : Exit → Act → World → Prop} {x y : Operand} (ho : o.op = .store 102 x y) {p : Addr} (hx : a.eval x = .pointer (some p)) {s : Option Addr} (hy : a.eval y = .pointer s) {u : Value} (hu : w.cell? p = some u) (hf : w.frozen? p = false) (h : K (a.put o.dst undef) (w.setCell p (.pointer s))) : o.wp Tryd.prog a w K Q := by
  have hrun : (execOp a.eval o).run Tryd.prog w = .ok .skip (w.setCell p (.pointer s)) := by
    unfold execOp
    simp only [ho, hx, hy]
    go_simp
  unfold Oper.wp
  rw [hrun]
  exact h
set_option maxHeartbeats 4000000 in
theorem p_print {w : World} {p g o b : Nat} {c : Co} {bv cv : Value} (h : CoP w g o c bv cv) (i : Ins) (ha : 0 ≤ i.a ∧ i.a < 16) {mrow drow : Array Value} (hm : Own w p 104 mrow) {sd : Option Addr} (hsd : mrow[4]? = some (.pointer sd)) {l : List (Int × Int)} (hs : saidR w sd l) (hl : l.length ≤ 4611686018427387904) (hb : Own w b 42 drow) {cr wd0 : Int} (hcr : drow[1]? = some (.int .i64 cr)) (hwd : drow[4]? = some (.int .i64 wd0)) (hpb : p ≠ b) :
    Calls Tryd.prog 68 #[.pointer (some ⟨p, 0, none⟩), .pointer (some ⟨g, o, none⟩), insV i, .pointer (some ⟨b, 0, none⟩)] w fun e w' => ∃ gs, e = .returned (.tuple #[]) ∧ w.heap.size ≤ gs ∧ Below w.heap.size ((w.setCell ⟨b, 4, none⟩ (.int .i64 (rget c.regs i.a))).setCell ⟨p, 4, none⟩ (.pointer (some ⟨gs, 0, none⟩))) w' ∧ Own w' gs 140 #[.pointer sd, .int .i64 cr, .int .i64 (rget c.regs i.a), .int .i64 ((l.length + 1 : Nat) : Int)] := by
  obtain ⟨k, oo, d, a, bb, ad, tt, wd, fr⟩ := i
  simp only at ha ⊢
  obtain ⟨an, rfl⟩ : ∃ n : Nat, a = (n : Int) := ⟨a.toNat, by omega⟩
  have hgw : g < w.heap.size := lt_of_at h.pc
  obtain ⟨c1, _⟩ := h.reg_at (j := an) (by omega)
  have al := (Below.refl w.heap.size w).alloc (Nat.le_refl _) (.cells #[.int .u8 k, .int .u8 oo, .int .i64 d, .int .i64 (an : Int), .int .i64 bb, .int .i64 ad, .int .i64 tt, .int .i64 wd, .int .i64 fr] 87)
  have O1 := Own.new w 87 #[.int .u8 k, .int .u8 oo, .int .i64 d, .int .i64 (an : Int), .int .i64 bb, .int .i64 ad, .int .i64 tt, .int .i64 wd, .int .i64 fr]
  obtain ⟨W1, hW1⟩ : ∃ W, W = w.alloc (.cells #[.int .u8 k, .int .u8 oo, .int .i64 d, .int .i64 (an : Int), .int .i64 bb, .int .i64 ad, .int .i64 tt, .int .i64 wd, .int .i64 fr] 87) := ⟨_, rfl⟩
  rw [← hW1] at al O1
  have HW1 := Lib.hid hW1
  have p3 : W1.cell? ⟨w.heap.size, 3, none⟩ = some (.int .i64 (an : Int)) := by rw [cell_of_row _ _ 3 _ _ _ O1]; rfl
  have c3 : W1.cell? ⟨g, o + 2 + an, none⟩ = some (.int .i64 (rget c.regs an)) := (al.cell (p := ⟨g, o + 2 + an, none⟩) hgw).trans c1
  have h16 : (an : Int) < 16 := by omega
  generalize rget c.regs an = x at c3 ⊢
  have al2 : Below w.heap.size w W1.drew := al.trans ((below_drewN (Below.refl _ W1) 1 : Below W1.heap.size W1 W1.drew).mono al.size)
  have hb2 : Own W1.drew b 42 drow := hb.below al2
  have d4 : W1.drew.cell? ⟨b, 4, none⟩ = some (.int .i64 wd0) := row_cellsO hb2 4 _ hwd
  have f4 : W1.drew.frozen? ⟨b, 4, none⟩ = false := own_frozen hb2 4
  have HB := Lib.hid al2
  have HM := Lib.hid hm
  have HD := Lib.hid hb
  have HS := Lib.hid hs
  clear h hgw al O1 hW1 c1 hm hb hb2 al2 hs ha
  simp only [insV, insC]
  go_enter Tryd.func68, Tryd.ntmps68
  go_upto_region 1 with fail
  rw [← HW1.out]
  clear HW1
  go_still_tail 11, (by kernel_rfl)
  change wpList _ _ _ _ _ W1.drew
  clear c3 p3
  generalize W1.drew = W2 at d4 f4 HB ⊢
  go_upto_region 2 with fail
  have HB3 : Hid (Below (w.setCell ⟨b, 4, none⟩ (.int .i64 x)).heap.size (w.setCell ⟨b, 4, none⟩ (.int .i64 x)) (W2.setCell ⟨b, 4, none⟩ (.int .i64 x))) := by
    rw [show (w.setCell ⟨b, 4, none⟩ (.int .i64 x)).heap.size = w.heap.size by simp [World.setCell]]
    exact below_both HB.out _ _
  have HM2 := Lib.hid (own_setother (a := p) (b := b) hpb (HM.out.below HB.out) 4 (.int .i64 x))
  have HD2 := Lib.hid (own_setin (HD.out.below HB.out) 4 (.int .i64 x))
  have HS2 : Hid (saidR (W2.setCell ⟨b, 4, none⟩ (.int .i64 x)) sd l) := said_setother (HD.out.below HB.out) (by decide) 4 (.int .i64 x) _ _ (saidR_keep (G := []) (keepV_below HB.out) _ _ HS.out)
  obtain ⟨w3, hw3⟩ : ∃ V, V = w.setCell ⟨b, 4, none⟩ (.int .i64 x) := ⟨_, rfl⟩
  have hsz : w3.heap.size = w.heap.size := by rw [hw3]; simp [World.setCell]
  rw [← hw3] at HB3
  clear d4 f4 HB HM HD HS
  generalize W2.setCell ⟨b, 4, none⟩ (.int .i64 x) = W3 at HB3 HM2 HD2 HS2 ⊢
  have dw : Below W3.heap.size W3 W3.drew := below_drewN (Below.refl _ W3) 1
  have HB4 := Lib.hid (HB3.out.trans (dw.mono HB3.out.size))
  have HM4 := Lib.hid (HM2.out.below dw)
  have HD4 := Lib.hid (HD2.out.below dw)
  have HS4 := Lib.hid (saidR_keep (G := []) (keepV_below dw) _ _ HS2.out)
  clear HB3 HM2 HD2 HS2 dw
  refine wp_region_held (S := fun V => V.cell? ⟨b, 1, none⟩ = some (.int .i64 cr) ∧ V.cell? ⟨b, 4, none⟩ = some (.int .i64 x)) (by kernel_rfl) ?_
  change wpAnyH _ _ _ _ _ _ _ _ W3.drew
  generalize W3.drew = W4 at HB4 HM4 HD4 HS4 ⊢
  have HSX : Hid (W4.cell? ⟨b, 1, none⟩ = some (.int .i64 cr) ∧ W4.cell? ⟨b, 4, none⟩ = some (.int .i64 x)) := ⟨row_cellsO HD4.out 1 _ (by rw [Array.getElem?_setIfInBounds_ne (by decide)]; exact hcr), row_cellsO HD4.out 4 _ (by rw [Array.getElem?_setIfInBounds_self_of_lt (Array.getElem?_eq_some_iff.1 hwd).1])⟩
  change wpAnyH _ _ _ _ _ _ _ { tmps := List.toArray (_ :: _ :: _ :: _ :: _ :: _ :: _ :: _ :: _ :: _ :: _ :: _ :: _ :: _ :: _ :: _ :: _ :: _ :: _ :: _ :: _ :: _ :: _ :: _ :: _ :: _ :: _ :: _ :: _ :: _ :: _ :: _ :: _ :: _ :: _ :: _ :: []), defers := [] } _
  refine dr_take 0 (.pointer (some ⟨p, 0, none⟩)) rfl rfl (by kernel_rfl) (by kernel_rfl) (by kernel_rfl) (fun _ _ _ h => h) (fun _ _ => by unfold execOp; go_simp) HSX.out ?_
  change wpAnyH _ _ _ _ _ _ _ { tmps := List.toArray (_ :: _ :: _ :: _ :: _ :: _ :: _ :: _ :: _ :: _ :: _ :: _ :: _ :: _ :: _ :: _ :: _ :: _ :: _ :: _ :: _ :: _ :: _ :: _ :: _ :: _ :: _ :: _ :: _ :: _ :: _ :: _ :: _ :: _ :: _ :: _ :: []), defers := [] } _
  refine dr_take 1 (.pointer (some ⟨p, 0, none⟩)) rfl rfl (by kernel_rfl) (by kernel_rfl) (by kernel_rfl) (fun _ _ _ h => h) (fun _ _ => by unfold execOp; go_simp) HSX.out ?_
  change wpAnyH _ _ _ _ _ _ _ { tmps := List.toArray (_ :: _ :: _ :: _ :: _ :: _ :: _ :: _ :: _ :: _ :: _ :: _ :: _ :: _ :: _ :: _ :: _ :: _ :: _ :: _ :: _ :: _ :: _ :: _ :: _ :: _ :: _ :: _ :: _ :: _ :: _ :: _ :: _ :: _ :: _ :: _ :: []), defers := [] } _
  refine dr_take 2 (.pointer (some ⟨p, 0, none⟩)) rfl rfl (by kernel_rfl) (by kernel_rfl) (by kernel_rfl) (fun _ _ _ h => h) (fun _ _ => by unfold execOp; go_simp) HSX.out ?_
  change wpAnyH _ _ _ _ _ _ _ { tmps := List.toArray (_ :: _ :: _ :: _ :: _ :: _ :: _ :: _ :: _ :: _ :: _ :: _ :: _ :: _ :: _ :: _ :: _ :: _ :: _ :: _ :: _ :: _ :: _ :: _ :: _ :: _ :: _ :: _ :: _ :: _ :: _ :: _ :: _ :: _ :: _ :: _ :: []), defers := [] } _
  refine dr_take 3 (.pointer (some ⟨p, 4, none⟩)) rfl rfl (by kernel_rfl) (by kernel_rfl) (by kernel_rfl) (fun _ _ _ h => h) (fun _ _ => by unfold execOp; go_simp) HSX.out ?_
  change wpAnyH _ _ _ _ _ _ _ { tmps := List.toArray (_ :: _ :: _ :: _ :: _ :: _ :: _ :: _ :: _ :: _ :: _ :: _ :: _ :: _ :: _ :: _ :: _ :: _ :: _ :: _ :: _ :: _ :: _ :: _ :: _ :: _ :: _ :: _ :: _ :: _ :: _ :: _ :: _ :: _ :: _ :: _ :: []), defers := [] } _
  refine dr_take 5 (.pointer (some ⟨b, 0, none⟩)) rfl rfl (by kernel_rfl) (by kernel_rfl) (by kernel_rfl) (fun _ _ _ h => h) (fun _ _ => by unfold execOp; go_simp) HSX.out ?_
  change wpAnyH _ _ _ _ _ _ _ { tmps := List.toArray (_ :: _ :: _ :: _ :: _ :: _ :: _ :: _ :: _ :: _ :: _ :: _ :: _ :: _ :: _ :: _ :: _ :: _ :: _ :: _ :: _ :: _ :: _ :: _ :: _ :: _ :: _ :: _ :: _ :: _ :: _ :: _ :: _ :: _ :: _ :: _ :: []), defers := [] } _
  refine dr_take 6 (.pointer (some ⟨b, 0, none⟩)) rfl rfl (by kernel_rfl) (by kernel_rfl) (by kernel_rfl) (fun _ _ _ h => h) (fun _ _ => by unfold execOp; go_simp) HSX.out ?_
  change wpAnyH _ _ _ _ _ _ _ { tmps := List.toArray (_ :: _ :: _ :: _ :: _ :: _ :: _ :: _ :: _ :: _ :: _ :: _ :: _ :: _ :: _ :: _ :: _ :: _ :: _ :: _ :: _ :: _ :: _ :: _ :: _ :: _ :: _ :: _ :: _ :: _ :: _ :: _ :: _ :: _ :: _ :: _ :: []), defers := [] } _
  refine dr_take 7 (.pointer (some ⟨b, 1, none⟩)) rfl rfl (by kernel_rfl) (by kernel_rfl) (by kernel_rfl) (fun _ _ _ h => h) (fun _ _ => by unfold execOp; go_simp) HSX.out ?_
  change wpAnyH _ _ _ _ _ _ _ { tmps := List.toArray (_ :: _ :: _ :: _ :: _ :: _ :: _ :: _ :: _ :: _ :: _ :: _ :: _ :: _ :: _ :: _ :: _ :: _ :: _ :: _ :: _ :: _ :: _ :: _ :: _ :: _ :: _ :: _ :: _ :: _ :: _ :: _ :: _ :: _ :: _ :: _ :: []), defers := [] } _
  refine dr_take 8 (.int .i64 cr) rfl rfl (by kernel_rfl) (by kernel_rfl) (by kernel_rfl) (fun _ _ _ h => h) (fun V h => by have h1 := h.1; clear h; unfold execOp; go_simp) HSX.out ?_
  change wpAnyH _ _ _ _ _ _ _ { tmps := List.toArray (_ :: _ :: _ :: _ :: _ :: _ :: _ :: _ :: _ :: _ :: _ :: _ :: _ :: _ :: _ :: _ :: _ :: _ :: _ :: _ :: _ :: _ :: _ :: _ :: _ :: _ :: _ :: _ :: _ :: _ :: _ :: _ :: _ :: _ :: _ :: _ :: []), defers := [] } _
  refine dr_take 9 (.pointer (some ⟨b, 0, none⟩)) rfl rfl (by kernel_rfl) (by kernel_rfl) (by kernel_rfl) (fun _ _ _ h => h) (fun _ _ => by unfold execOp; go_simp) HSX.out ?_
  change wpAnyH _ _ _ _ _ _ _ { tmps := List.toArray (_ :: _ :: _ :: _ :: _ :: _ :: _ :: _ :: _ :: _ :: _ :: _ :: _ :: _ :: _ :: _ :: _ :: _ :: _ :: _ :: _ :: _ :: _ :: _ :: _ :: _ :: _ :: _ :: _ :: _ :: _ :: _ :: _ :: _ :: _ :: _ :: []), defers := [] } _
  refine dr_take 10 (.pointer (some ⟨b, 0, none⟩)) rfl rfl (by kernel_rfl) (by kernel_rfl) (by kernel_rfl) (fun _ _ _ h => h) (fun _ _ => by unfold execOp; go_simp) HSX.out ?_
  change wpAnyH _ _ _ _ _ _ _ { tmps := List.toArray (_ :: _ :: _ :: _ :: _ :: _ :: _ :: _ :: _ :: _ :: _ :: _ :: _ :: _ :: _ :: _ :: _ :: _ :: _ :: _ :: _ :: _ :: _ :: _ :: _ :: _ :: _ :: _ :: _ :: _ :: _ :: _ :: _ :: _ :: _ :: _ :: []), defers := [] } _
  refine dr_take 11 (.pointer (some ⟨b, 4, none⟩)) rfl rfl (by kernel_rfl) (by kernel_rfl) (by kernel_rfl) (fun _ _ _ h => h) (fun _ _ => by unfold execOp; go_simp) HSX.out ?_
  change wpAnyH _ _ _ _ _ _ _ { tmps := List.toArray (_ :: _ :: _ :: _ :: _ :: _ :: _ :: _ :: _ :: _ :: _ :: _ :: _ :: _ :: _ :: _ :: _ :: _ :: _ :: _ :: _ :: _ :: _ :: _ :: _ :: _ :: _ :: _ :: _ :: _ :: _ :: _ :: _ :: _ :: _ :: _ :: []), defers := [] } _
  refine dr_take 12 (.int .i64 x) rfl rfl (by kernel_rfl) (by kernel_rfl) (by kernel_rfl) (fun _ _ _ h => h) (fun V h => by have h1 := h.2; clear h; unfold execOp; go_simp) HSX.out ?_
  change wpAnyH _ _ _ _ _ _ _ { tmps := List.toArray (_ :: _ :: _ :: _ :: _ :: _ :: _ :: _ :: _ :: _ :: _ :: _ :: _ :: _ :: _ :: _ :: _ :: _ :: _ :: _ :: _ :: _ :: _ :: _ :: _ :: _ :: _ :: _ :: _ :: _ :: _ :: _ :: _ :: _ :: _ :: _ :: []), defers := [] } _
  refine dr_take 13 (.agg #[.int .i64 cr, .int .i64 x]) rfl rfl (by kernel_rfl) (by kernel_rfl) (by kernel_rfl) (fun _ _ _ h => h) (fun _ _ => by unfold execOp; go_simp) HSX.out ?_
  change wpAnyH _ _ _ _ _ _ _ { tmps := List.toArray (_ :: _ :: _ :: _ :: _ :: _ :: _ :: _ :: _ :: _ :: _ :: _ :: _ :: _ :: _ :: _ :: _ :: _ :: _ :: _ :: _ :: _ :: _ :: _ :: _ :: _ :: _ :: _ :: _ :: _ :: _ :: _ :: _ :: _ :: _ :: _ :: []), defers := [] } _
  refine dr_one 4 rfl rfl (by kernel_rfl) ?_
  have m4 : W4.cell? ⟨p, 4, none⟩ = some (.pointer sd) := row_cellsO HM4.out 4 _ hsd
  refine wv_val (w' := W4) (v := .pointer sd) (by unfold execOp; go_simp) ⟨HSX.out, ?_⟩
  change wpAnyH _ _ _ _ _ _ _ { tmps := List.toArray (_ :: _ :: _ :: _ :: _ :: _ :: _ :: _ :: _ :: _ :: _ :: _ :: _ :: _ :: _ :: _ :: _ :: _ :: _ :: _ :: _ :: _ :: _ :: _ :: _ :: _ :: _ :: _ :: _ :: _ :: _ :: _ :: _ :: _ :: _ :: _ :: []), defers := [] } _
  refine dr_one 14 rfl rfl (by kernel_rfl) ?_
  refine wp_callT (vs := #[.pointer sd, .agg #[.int .i64 cr, .int .i64 x]]) rfl rfl (enters_of Tryd.func89 (by kernel_rfl) rfl) (by simp [Act.eval]) (p_Then HS4.out hl cr x) ?_
  rintro e w5 ⟨gs, rfl, hgs, ho, hb5⟩
  have HM5 := Lib.hid (HM4.out.below hb5)
  have HD5 := Lib.hid (HD4.out.below hb5)
  have HSY : Hid (w5.cell? ⟨b, 1, none⟩ = some (.int .i64 cr) ∧ w5.cell? ⟨b, 4, none⟩ = some (.int .i64 x)) := ⟨row_cellsO HD5.out 1 _ (by rw [Array.getElem?_setIfInBounds_ne (by decide)]; exact hcr), row_cellsO HD5.out 4 _ (by rw [Array.getElem?_setIfInBounds_self_of_lt (Array.getElem?_eq_some_iff.1 hwd).1])⟩
  refine ⟨HSY.out, ?_⟩
  change wpAnyH _ _ _ _ _ _ _ { tmps := List.toArray (_ :: _ :: _ :: _ :: _ :: _ :: _ :: _ :: _ :: _ :: _ :: _ :: _ :: _ :: _ :: _ :: _ :: _ :: _ :: _ :: _ :: _ :: _ :: _ :: _ :: _ :: _ :: _ :: _ :: _ :: _ :: _ :: _ :: _ :: _ :: _ :: []), defers := [] } _
  refine dr_one 15 rfl rfl (by kernel_rfl) ?_
  refine wv_val (w' := w5) (v := .pointer (some ⟨p, 0, none⟩)) (by unfold execOp; go_simp) ⟨HSY.out, ?_⟩
  change wpAnyH _ _ _ _ _ _ _ { tmps := List.toArray (_ :: _ :: _ :: _ :: _ :: _ :: _ :: _ :: _ :: _ :: _ :: _ :: _ :: _ :: _ :: _ :: _ :: _ :: _ :: _ :: _ :: _ :: _ :: _ :: _ :: _ :: _ :: _ :: _ :: _ :: _ :: _ :: _ :: _ :: _ :: _ :: []), defers := [] } _
  refine dr_one 16 rfl rfl (by kernel_rfl) ?_
  refine wv_val (w' := w5) (v := .pointer (some ⟨p, 4, none⟩)) (by unfold execOp; go_simp) ⟨HSY.out, ?_⟩
  change wpAnyH _ _ _ _ _ _ _ { tmps := List.toArray (_ :: _ :: _ :: _ :: _ :: _ :: _ :: _ :: _ :: _ :: _ :: _ :: _ :: _ :: _ :: _ :: _ :: _ :: _ :: _ :: _ :: _ :: _ :: _ :: _ :: _ :: _ :: _ :: _ :: _ :: _ :: _ :: _ :: _ :: _ :: _ :: []), defers := [] } _
  refine dr_one 17 rfl rfl (by kernel_rfl) ?_
  have m5 : w5.cell? ⟨p, 4, none⟩ = some (.pointer sd) := row_cellsO HM5.out 4 _ hsd
  have f5 : w5.frozen? ⟨p, 4, none⟩ = false := own_frozen HM5.out 4
  have HD6 := Lib.hid (own_setother (a := b) (b := p) (Ne.symm hpb) HD5.out 4 (.pointer (some ⟨gs, 0, none⟩)))
  refine wp_stSd rfl rfl rfl m5 f5 ⟨⟨row_cellsO HD6.out 1 _ (by rw [Array.getElem?_setIfInBounds_ne (by decide)]; exact hcr), row_cellsO HD6.out 4 _ (by rw [Array.getElem?_setIfInBounds_self_of_lt (Array.getElem?_eq_some_iff.1 hwd).1])⟩, ?_⟩
  refine wpAnyH_done (by kernel_rfl) ?_ _
  try go_wp2_with fail
  refine bodyPost_end (results_none rfl _ _ _) rfl ?_
  have h1 := hgs
  have h2 := HB4.out.size
  have h3 : p < W4.heap.size := lt_of_at m4
  refine ⟨gs, rfl, by omega, ?_, own_setother (by omega) ho 4 _⟩
  have h4 := below_both (HB4.out.trans (hb5.mono HB4.out.size)) ⟨p, 4, none⟩ (.pointer (some ⟨gs, 0, none⟩))
  rw [hsz, hw3] at h4
  exact h4
end Go.Proofs.YtmpljhfinmfnbaaDoor

/- A core stores into its buffer. -/
import Derived.Test.YtmpljhfinmfnbaaDoorVw9
import Derived.Deep.RegionHeld
namespace Go.Proofs.YtmpljhfinmfnbaaDoor
open Go.RowKit
set_option linter.unusedVariables false
set_option maxRecDepth 100000
set_option maxHeartbeats 1000000 in
theorem wp_stI {o : Oper} {a : Act} {w : World} {K : Act → World → Prop} {Q : Exit → Act → World → Prop} {x y : Operand} (ho : o.op = .store 2 x y) {p : Addr} (hx : a.eval x = .pointer (some p)) {s : Int} (hy : a.eval y = .int .i64 s) {u : Value} (hu : w.cell? p = some u) (hf : w.frozen? p = false) (h : K (a.put o.dst undef) (w.setCell p (.int .i64 s))) : o.wp Tryd.prog a w K Q := by
  have hrun : (execOp a.eval o).run Tryd.prog w = .ok .skip (w.setCell p (.int .i64 s)) := by
    unfold execOp
    simp only [ho, hx, hy]
    go_simp
  unfold Oper.wp
  rw [hrun]
  exact h
set_option maxHeartbeats 1000000 in
theorem wp_stn {o : Oper} {a : Act} {w : World} {K : Act → World → Prop} {Q : Exit → Act → World → Prop} {x y : Operand} (ho : o.op = .store 3 x y) {p : Addr} (hx : a.eval x = .pointer (some p)) {s : Int} (hy : a.eval y = .int .i64 s) {u : Value} (hu : w.cell? p = some u) (hf : w.frozen? p = false) (h : K (a.put o.dst undef) (w.setCell p (.int .i64 s))) : o.wp Tryd.prog a w K Q := by
  have hrun : (execOp a.eval o).run Tryd.prog w = .ok .skip (w.setCell p (.int .i64 s)) := by
    unfold execOp
    simp only [ho, hx, hy]
    go_simp
  unfold Oper.wp
  rw [hrun]
  exact h
theorem info_s : (Tryd.prog.info? 76).map (fun i => (i.zero, i.size, i.bytes)) = some (some (.agg #[.int .i64 0, .int .i64 0, .int .i64 0]), 3, 24) := by kernel_rfl
theorem cell_blk {W W' : World} {g : Nat} (e : W'.heap[g]? = W.heap[g]?) (j : Nat) : W'.cell? ⟨g, j, none⟩ = W.cell? ⟨g, j, none⟩ := by
  simp only [World.cell?, e]
theorem frozen_blk {W W' : World} {g : Nat} (e : W'.heap[g]? = W.heap[g]?) (j : Nat) : W'.frozen? ⟨g, j, none⟩ = W.frozen? ⟨g, j, none⟩ := by
  simp only [World.frozen?, e]
set_option maxHeartbeats 1000000 in
theorem run_bsS {o : Oper} {a : Act} {w : World} {x : Operand} (ho : o.op = .buildSlice 54 1 #[(0, x)]) {p q r : Int} (hx : a.eval x = .agg #[.int .i64 p, .int .i64 q, .int .i64 r]) : (execOp a.eval o).run Tryd.prog w = .ok (.value (.slice (some ⟨w.heap.size, 0, none⟩) 1 1)) (w.alloc (.cells #[.int .i64 p, .int .i64 q, .int .i64 r] 76)) := by
  unfold execOp
  simp [ho, hx]
  go_simp
set_option maxHeartbeats 1000000 in
theorem wp_stL {o : Oper} {a : Act} {w : World} {K : Act → World → Prop} {Q : Exit → Act → World → Prop} {x y : Operand} (ho : o.op = .store 54 x y) {p : Addr} (hx : a.eval x = .pointer (some p)) {s : Option Addr} {n c : Nat} (hy : a.eval y = .slice s n c) {u : Value} (hu : w.cell? p = some u) (hf : w.frozen? p = false) (h : K (a.put o.dst undef) (w.setCell p (.slice s n c))) : o.wp Tryd.prog a w K Q := by
  have hrun : (execOp a.eval o).run Tryd.prog w = .ok .skip (w.setCell p (.slice s n c)) := by
    unfold execOp
    simp only [ho, hx, hy]
    go_simp
  unfold Oper.wp
  rw [hrun]
  exact h
set_option maxHeartbeats 4000000 in
theorem p_store {w : World} {g o b : Nat} {c : Co} {bv cv : Value} (h : CoP w g o c bv cv) (i : Ins) (ha : 0 ≤ i.a ∧ i.a < 16) (pm : Option Addr) {drow : Array Value} (hb : Own w b 42 drow) {at0 ad0 wd0 : Int} (h2 : drow[2]? = some (.int .i64 at0)) (h3 : drow[3]? = some (.int .i64 ad0)) (h4 : drow[4]? = some (.int .i64 wd0)) (hgb : g ≠ b) {n : Nat} {xs : List Value} (hq : ownsQ w 0 76 3 bv n xs) (hn : n ≤ 4611686018427) (hbb : ∀ k, bv.ownBlock = some k → k ≠ b ∧ k ≠ g) :
    Calls Tryd.prog 65 #[.pointer pm, .pointer (some ⟨g, o, none⟩), insV i, .pointer (some ⟨b, 0, none⟩)] w fun e w' => e = .returned (.tuple #[]) ∧ ∃ w4 W5 v5, Below w.heap.size ((w.setCell ⟨b, 3, none⟩ (.int .i64 i.ad)).setCell ⟨b, 4, none⟩ (.int .i64 (rget c.regs i.a))) w4 ∧ ownsQ W5 0 76 3 v5 (n + 1) (xs ++ [.int .i64 at0, .int .i64 i.ad, .int .i64 (rget c.regs i.a)]) ∧ w4.grownBy W5 bv.ownBlock ∧ (v5.ownBlock = bv.ownBlock ∨ ∃ k, v5.ownBlock = some k ∧ w4.heap.size ≤ k) ∧ w' = W5.setCell ⟨g, o + 18, none⟩ v5 := by
  obtain ⟨k, oo, d, a, bb, ad, tt, wd, fr⟩ := i
  simp only at ha ⊢
  obtain ⟨an, rfl⟩ : ∃ n : Nat, a = (n : Int) := ⟨a.toNat, by omega⟩
  have hgw : g < w.heap.size := lt_of_at h.pc
  obtain ⟨c1, _⟩ := h.reg_at (j := an) (by omega)
  have HC18 := Lib.hid h.buf
  have HF18 : Hid (w.frozen? ⟨g, o + 18, none⟩ = false) := h.at_.fr _
  have al := (Below.refl w.heap.size w).alloc (Nat.le_refl _) (.cells #[.int .u8 k, .int .u8 oo, .int .i64 d, .int .i64 (an : Int), .int .i64 bb, .int .i64 ad, .int .i64 tt, .int .i64 wd, .int .i64 fr] 87)
  have O1 := Own.new w 87 #[.int .u8 k, .int .u8 oo, .int .i64 d, .int .i64 (an : Int), .int .i64 bb, .int .i64 ad, .int .i64 tt, .int .i64 wd, .int .i64 fr]
  obtain ⟨W1, hW1⟩ : ∃ W, W = w.alloc (.cells #[.int .u8 k, .int .u8 oo, .int .i64 d, .int .i64 (an : Int), .int .i64 bb, .int .i64 ad, .int .i64 tt, .int .i64 wd, .int .i64 fr] 87) := ⟨_, rfl⟩
  rw [← hW1] at al O1
  have HW1 := Lib.hid hW1
  have dw : Below W1.heap.size W1 W1.drew := below_drewN (Below.refl _ W1) 1
  have HB := Lib.hid (al.trans (dw.mono al.size))
  have O2 := O1.below dw
  have p3 : W1.drew.cell? ⟨w.heap.size, 3, none⟩ = some (.int .i64 (an : Int)) := row_cellsO O2 3 _ rfl
  have p5 : W1.drew.cell? ⟨w.heap.size, 5, none⟩ = some (.int .i64 ad) := row_cellsO O2 5 _ rfl
  have c3 : W1.drew.cell? ⟨g, o + 2 + an, none⟩ = some (.int .i64 (rget c.regs an)) := (HB.out.cell (p := ⟨g, o + 2 + an, none⟩) hgw).trans c1
  have HH16 : Hid ((an : Int) < 16) := by show _ < _; omega
  generalize rget c.regs an = x at c3 ⊢
  have HD := Lib.hid hb
  have HQ := Lib.hid hq
  have hbw : b < w.heap.size := (row_cellsO hb 3 _ h3) |> lt_of_at
  have HBW := Lib.hid hbw
  have HSX0 : Hid ((W1.drew.cell? ⟨w.heap.size, 3, none⟩ = some (.int .i64 (an : Int)) ∧ W1.drew.cell? ⟨w.heap.size, 5, none⟩ = some (.int .i64 ad)) ∧ W1.drew.cell? ⟨g, o + 2 + an, none⟩ = some (.int .i64 x)) := ⟨⟨p3, p5⟩, c3⟩
  clear hbw h al O1 O2 dw hW1 c1 hb hq ha p3 p5 c3
  simp only [insV, insC]
  go_enter Tryd.func65, Tryd.ntmps65
  go_upto_region 1 with fail
  rw [← HW1.out]
  clear HW1
  refine wp_region_held (S := fun V => (V.cell? ⟨w.heap.size, 3, none⟩ = some (.int .i64 (an : Int)) ∧ V.cell? ⟨w.heap.size, 5, none⟩ = some (.int .i64 ad)) ∧ V.cell? ⟨g, o + 2 + an, none⟩ = some (.int .i64 x)) (by kernel_rfl) ?_
  change wpAnyH _ _ _ _ _ _ _ _ W1.drew
  obtain ⟨W2, hW2⟩ : ∃ W, W = W1.drew := ⟨_, rfl⟩
  rw [← hW2] at HSX0 HB ⊢
  clear hW2
  have HSX := HSX0
  change wpAnyH _ _ _ _ _ _ _ { tmps := List.toArray (_ :: _ :: _ :: _ :: _ :: _ :: _ :: _ :: _ :: _ :: _ :: _ :: _ :: _ :: _ :: _ :: _ :: _ :: _ :: _ :: _ :: _ :: _ :: _ :: _ :: _ :: _ :: _ :: _ :: _ :: _ :: _ :: _ :: _ :: _ :: _ :: _ :: _ :: _ :: _ :: _ :: _ :: _ :: _ :: _ :: _ :: _ :: _ :: []), defers := [] } _
  refine dr_take 0 (.pointer (some ⟨b, 0, none⟩)) rfl rfl (by kernel_rfl) (by kernel_rfl) (by kernel_rfl) (fun _ _ _ h => h) (fun _ _ => by unfold execOp; go_simp) HSX.out ?_
  change wpAnyH _ _ _ _ _ _ _ { tmps := List.toArray (_ :: _ :: _ :: _ :: _ :: _ :: _ :: _ :: _ :: _ :: _ :: _ :: _ :: _ :: _ :: _ :: _ :: _ :: _ :: _ :: _ :: _ :: _ :: _ :: _ :: _ :: _ :: _ :: _ :: _ :: _ :: _ :: _ :: _ :: _ :: _ :: _ :: _ :: _ :: _ :: _ :: _ :: _ :: _ :: _ :: _ :: _ :: _ :: []), defers := [] } _
  refine dr_take 1 (.pointer (some ⟨b, 0, none⟩)) rfl rfl (by kernel_rfl) (by kernel_rfl) (by kernel_rfl) (fun _ _ _ h => h) (fun _ _ => by unfold execOp; go_simp) HSX.out ?_
  change wpAnyH _ _ _ _ _ _ _ { tmps := List.toArray (_ :: _ :: _ :: _ :: _ :: _ :: _ :: _ :: _ :: _ :: _ :: _ :: _ :: _ :: _ :: _ :: _ :: _ :: _ :: _ :: _ :: _ :: _ :: _ :: _ :: _ :: _ :: _ :: _ :: _ :: _ :: _ :: _ :: _ :: _ :: _ :: _ :: _ :: _ :: _ :: _ :: _ :: _ :: _ :: _ :: _ :: _ :: _ :: []), defers := [] } _
  refine dr_take 2 (.pointer (some ⟨w.heap.size, 5, none⟩)) rfl rfl (by kernel_rfl) (by kernel_rfl) (by kernel_rfl) (fun _ _ _ h => h) (fun _ _ => by unfold execOp; go_simp) HSX.out ?_
  change wpAnyH _ _ _ _ _ _ _ { tmps := List.toArray (_ :: _ :: _ :: _ :: _ :: _ :: _ :: _ :: _ :: _ :: _ :: _ :: _ :: _ :: _ :: _ :: _ :: _ :: _ :: _ :: _ :: _ :: _ :: _ :: _ :: _ :: _ :: _ :: _ :: _ :: _ :: _ :: _ :: _ :: _ :: _ :: _ :: _ :: _ :: _ :: _ :: _ :: _ :: _ :: _ :: _ :: _ :: _ :: []), defers := [] } _
  refine dr_take 3 (.int .i64 ad) rfl rfl (by kernel_rfl) (by kernel_rfl) (by kernel_rfl) (fun _ _ _ h => h) (fun V h => by have h1 := h.1.2; clear h; unfold execOp; go_simp) HSX.out ?_
  change wpAnyH _ _ _ _ _ _ _ { tmps := List.toArray (_ :: _ :: _ :: _ :: _ :: _ :: _ :: _ :: _ :: _ :: _ :: _ :: _ :: _ :: _ :: _ :: _ :: _ :: _ :: _ :: _ :: _ :: _ :: _ :: _ :: _ :: _ :: _ :: _ :: _ :: _ :: _ :: _ :: _ :: _ :: _ :: _ :: _ :: _ :: _ :: _ :: _ :: _ :: _ :: _ :: _ :: _ :: _ :: []), defers := [] } _
  refine dr_take 4 (.pointer (some ⟨g, o, none⟩)) rfl rfl (by kernel_rfl) (by kernel_rfl) (by kernel_rfl) (fun _ _ _ h => h) (fun _ _ => by unfold execOp; go_simp) HSX.out ?_
  change wpAnyH _ _ _ _ _ _ _ { tmps := List.toArray (_ :: _ :: _ :: _ :: _ :: _ :: _ :: _ :: _ :: _ :: _ :: _ :: _ :: _ :: _ :: _ :: _ :: _ :: _ :: _ :: _ :: _ :: _ :: _ :: _ :: _ :: _ :: _ :: _ :: _ :: _ :: _ :: _ :: _ :: _ :: _ :: _ :: _ :: _ :: _ :: _ :: _ :: _ :: _ :: _ :: _ :: _ :: _ :: []), defers := [] } _
  refine dr_take 5 (.pointer (some ⟨w.heap.size, 3, none⟩)) rfl rfl (by kernel_rfl) (by kernel_rfl) (by kernel_rfl) (fun _ _ _ h => h) (fun _ _ => by unfold execOp; go_simp) HSX.out ?_
  change wpAnyH _ _ _ _ _ _ _ { tmps := List.toArray (_ :: _ :: _ :: _ :: _ :: _ :: _ :: _ :: _ :: _ :: _ :: _ :: _ :: _ :: _ :: _ :: _ :: _ :: _ :: _ :: _ :: _ :: _ :: _ :: _ :: _ :: _ :: _ :: _ :: _ :: _ :: _ :: _ :: _ :: _ :: _ :: _ :: _ :: _ :: _ :: _ :: _ :: _ :: _ :: _ :: _ :: _ :: _ :: []), defers := [] } _
  refine dr_take 6 (.int .i64 (an : Int)) rfl rfl (by kernel_rfl) (by kernel_rfl) (by kernel_rfl) (fun _ _ _ h => h) (fun V h => by have h1 := h.1.1; clear h; unfold execOp; go_simp) HSX.out ?_
  change wpAnyH _ _ _ _ _ _ _ { tmps := List.toArray (_ :: _ :: _ :: _ :: _ :: _ :: _ :: _ :: _ :: _ :: _ :: _ :: _ :: _ :: _ :: _ :: _ :: _ :: _ :: _ :: _ :: _ :: _ :: _ :: _ :: _ :: _ :: _ :: _ :: _ :: _ :: _ :: _ :: _ :: _ :: _ :: _ :: _ :: _ :: _ :: _ :: _ :: _ :: _ :: _ :: _ :: _ :: _ :: []), defers := [] } _
  refine dr_take 7 (.pointer (some ⟨g, o, none⟩)) rfl rfl (by kernel_rfl) (by kernel_rfl) (by kernel_rfl) (fun _ _ _ h => h) (fun _ _ => by unfold execOp; go_simp) HSX.out ?_
  change wpAnyH _ _ _ _ _ _ _ { tmps := List.toArray (_ :: _ :: _ :: _ :: _ :: _ :: _ :: _ :: _ :: _ :: _ :: _ :: _ :: _ :: _ :: _ :: _ :: _ :: _ :: _ :: _ :: _ :: _ :: _ :: _ :: _ :: _ :: _ :: _ :: _ :: _ :: _ :: _ :: _ :: _ :: _ :: _ :: _ :: _ :: _ :: _ :: _ :: _ :: _ :: _ :: _ :: _ :: _ :: []), defers := [] } _
  refine dr_take 8 (.pointer (some ⟨g, o, none⟩)) rfl rfl (by kernel_rfl) (by kernel_rfl) (by kernel_rfl) (fun _ _ _ h => h) (fun _ _ => by unfold execOp; go_simp) HSX.out ?_
  change wpAnyH _ _ _ _ _ _ _ { tmps := List.toArray (_ :: _ :: _ :: _ :: _ :: _ :: _ :: _ :: _ :: _ :: _ :: _ :: _ :: _ :: _ :: _ :: _ :: _ :: _ :: _ :: _ :: _ :: _ :: _ :: _ :: _ :: _ :: _ :: _ :: _ :: _ :: _ :: _ :: _ :: _ :: _ :: _ :: _ :: _ :: _ :: _ :: _ :: _ :: _ :: _ :: _ :: _ :: _ :: []), defers := [] } _
  refine dr_take 9 (.pointer (some ⟨g, o + 2, none⟩)) rfl rfl (by kernel_rfl) (by kernel_rfl) (by kernel_rfl) (fun _ _ _ h => h) (fun _ _ => by unfold execOp; go_simp) HSX.out ?_
  change wpAnyH _ _ _ _ _ _ _ { tmps := List.toArray (_ :: _ :: _ :: _ :: _ :: _ :: _ :: _ :: _ :: _ :: _ :: _ :: _ :: _ :: _ :: _ :: _ :: _ :: _ :: _ :: _ :: _ :: _ :: _ :: _ :: _ :: _ :: _ :: _ :: _ :: _ :: _ :: _ :: _ :: _ :: _ :: _ :: _ :: _ :: _ :: _ :: _ :: _ :: _ :: _ :: _ :: _ :: _ :: []), defers := [] } _
  refine dr_take 10 (.pointer (some ⟨g, o + 2 + an, none⟩)) rfl rfl (by kernel_rfl) (by kernel_rfl) (by kernel_rfl) (fun _ _ _ h => h) (fun _ _ => by have h16 := HH16.out; unfold execOp; go_simp) HSX.out ?_
  change wpAnyH _ _ _ _ _ _ _ { tmps := List.toArray (_ :: _ :: _ :: _ :: _ :: _ :: _ :: _ :: _ :: _ :: _ :: _ :: _ :: _ :: _ :: _ :: _ :: _ :: _ :: _ :: _ :: _ :: _ :: _ :: _ :: _ :: _ :: _ :: _ :: _ :: _ :: _ :: _ :: _ :: _ :: _ :: _ :: _ :: _ :: _ :: _ :: _ :: _ :: _ :: _ :: _ :: _ :: _ :: []), defers := [] } _
  refine dr_take 11 (.int .i64 x) rfl rfl (by kernel_rfl) (by kernel_rfl) (by kernel_rfl) (fun _ _ _ h => h) (fun V h => by have h1 := h.2; clear h; unfold execOp; go_simp) HSX.out ?_
  have HD2 := Lib.hid (HD.out.below HB.out)
  change wpAnyH _ _ _ _ _ _ _ { tmps := List.toArray (_ :: _ :: _ :: _ :: _ :: _ :: _ :: _ :: _ :: _ :: _ :: _ :: _ :: _ :: _ :: _ :: _ :: _ :: _ :: _ :: _ :: _ :: _ :: _ :: _ :: _ :: _ :: _ :: _ :: _ :: _ :: _ :: _ :: _ :: _ :: _ :: _ :: _ :: _ :: _ :: _ :: _ :: _ :: _ :: _ :: _ :: _ :: _ :: []), defers := [] } _
  refine dr_one 12 rfl rfl (by kernel_rfl) ?_
  refine wv_val (w' := W2) (v := .pointer (some ⟨b, 0, none⟩)) (by unfold execOp; go_simp) ⟨HSX.out, ?_⟩
  change wpAnyH _ _ _ _ _ _ _ { tmps := List.toArray (_ :: _ :: _ :: _ :: _ :: _ :: _ :: _ :: _ :: _ :: _ :: _ :: _ :: _ :: _ :: _ :: _ :: _ :: _ :: _ :: _ :: _ :: _ :: _ :: _ :: _ :: _ :: _ :: _ :: _ :: _ :: _ :: _ :: _ :: _ :: _ :: _ :: _ :: _ :: _ :: _ :: _ :: _ :: _ :: _ :: _ :: _ :: _ :: []), defers := [] } _
  refine dr_one 13 rfl rfl (by kernel_rfl) ?_
  refine wv_val (w' := W2) (v := .pointer (some ⟨b, 3, none⟩)) (by unfold execOp; go_simp) ⟨HSX.out, ?_⟩
  change wpAnyH _ _ _ _ _ _ _ { tmps := List.toArray (_ :: _ :: _ :: _ :: _ :: _ :: _ :: _ :: _ :: _ :: _ :: _ :: _ :: _ :: _ :: _ :: _ :: _ :: _ :: _ :: _ :: _ :: _ :: _ :: _ :: _ :: _ :: _ :: _ :: _ :: _ :: _ :: _ :: _ :: _ :: _ :: _ :: _ :: _ :: _ :: _ :: _ :: _ :: _ :: _ :: _ :: _ :: _ :: []), defers := [] } _
  refine dr_one 14 rfl rfl (by kernel_rfl) ?_
  have e3 : W2.cell? ⟨b, 3, none⟩ = some (.int .i64 ad0) := row_cellsO HD2.out 3 _ h3
  have HSY : Hid ((( W2.setCell ⟨b, 3, none⟩ (.int .i64 ad)).cell? ⟨w.heap.size, 3, none⟩ = some (.int .i64 (an : Int)) ∧ (W2.setCell ⟨b, 3, none⟩ (.int .i64 ad)).cell? ⟨w.heap.size, 5, none⟩ = some (.int .i64 ad)) ∧ (W2.setCell ⟨b, 3, none⟩ (.int .i64 ad)).cell? ⟨g, o + 2 + an, none⟩ = some (.int .i64 x)) := ⟨⟨(World.cell?_setCell_far _ _ _ _ (by show b ≠ w.heap.size; have := HBW.out; omega)).trans HSX.out.1.1, (World.cell?_setCell_far _ _ _ _ (by show b ≠ w.heap.size; have := HBW.out; omega)).trans HSX.out.1.2⟩, (World.cell?_setCell_far _ _ _ _ (by show b ≠ g; exact Ne.symm hgb)).trans HSX.out.2⟩
  have HD3 := Lib.hid (own_setin HD2.out 3 (.int .i64 ad))
  have HB3 : Hid (Below (w.setCell ⟨b, 3, none⟩ (.int .i64 ad)).heap.size (w.setCell ⟨b, 3, none⟩ (.int .i64 ad)) (W2.setCell ⟨b, 3, none⟩ (.int .i64 ad))) := by
    rw [show (w.setCell ⟨b, 3, none⟩ (.int .i64 ad)).heap.size = w.heap.size by simp [World.setCell]]
    exact below_both HB.out _ _
  refine wp_stn rfl rfl rfl e3 (own_frozen HD2.out 3) ⟨HSY.out, ?_⟩
  clear e3
  generalize W2.setCell ⟨b, 3, none⟩ (.int .i64 ad) = W3 at HSY HD3 HB3 ⊢
  change wpAnyH _ _ _ _ _ _ _ { tmps := List.toArray (_ :: _ :: _ :: _ :: _ :: _ :: _ :: _ :: _ :: _ :: _ :: _ :: _ :: _ :: _ :: _ :: _ :: _ :: _ :: _ :: _ :: _ :: _ :: _ :: _ :: _ :: _ :: _ :: _ :: _ :: _ :: _ :: _ :: _ :: _ :: _ :: _ :: _ :: _ :: _ :: _ :: _ :: _ :: _ :: _ :: _ :: _ :: _ :: []), defers := [] } _
  refine dr_one 15 rfl rfl (by kernel_rfl) ?_
  refine wv_val (w' := W3) (v := .pointer (some ⟨b, 0, none⟩)) (by unfold execOp; go_simp) ⟨HSY.out, ?_⟩
  change wpAnyH _ _ _ _ _ _ _ { tmps := List.toArray (_ :: _ :: _ :: _ :: _ :: _ :: _ :: _ :: _ :: _ :: _ :: _ :: _ :: _ :: _ :: _ :: _ :: _ :: _ :: _ :: _ :: _ :: _ :: _ :: _ :: _ :: _ :: _ :: _ :: _ :: _ :: _ :: _ :: _ :: _ :: _ :: _ :: _ :: _ :: _ :: _ :: _ :: _ :: _ :: _ :: _ :: _ :: _ :: []), defers := [] } _
  refine dr_one 16 rfl rfl (by kernel_rfl) ?_
  refine wv_val (w' := W3) (v := .pointer (some ⟨b, 4, none⟩)) (by unfold execOp; go_simp) ⟨HSY.out, ?_⟩
  change wpAnyH _ _ _ _ _ _ _ { tmps := List.toArray (_ :: _ :: _ :: _ :: _ :: _ :: _ :: _ :: _ :: _ :: _ :: _ :: _ :: _ :: _ :: _ :: _ :: _ :: _ :: _ :: _ :: _ :: _ :: _ :: _ :: _ :: _ :: _ :: _ :: _ :: _ :: _ :: _ :: _ :: _ :: _ :: _ :: _ :: _ :: _ :: _ :: _ :: _ :: _ :: _ :: _ :: _ :: _ :: []), defers := [] } _
  refine dr_one 17 rfl rfl (by kernel_rfl) ?_
  have e4 : W3.cell? ⟨b, 4, none⟩ = some (.int .i64 wd0) := row_cellsO HD3.out 4 _ (by rw [Array.getElem?_setIfInBounds_ne (by decide)]; exact h4)
  have HD4 := Lib.hid (own_setin HD3.out 4 (.int .i64 x))
  obtain ⟨w3, hw3⟩ : ∃ V, V = w.setCell ⟨b, 3, none⟩ (.int .i64 ad) := ⟨_, rfl⟩
  have HZ3 : Hid (w3.heap.size = w.heap.size) := by show _ = _; rw [hw3]; simp [World.setCell]
  rw [← hw3] at HB3
  have HB4 : Hid (Below w.heap.size (w3.setCell ⟨b, 4, none⟩ (.int .i64 x)) (W3.setCell ⟨b, 4, none⟩ (.int .i64 x))) := by
    have hh := below_both HB3.out ⟨b, 4, none⟩ (.int .i64 x)
    rw [HZ3.out] at hh
    exact hh
  rw [hw3] at HB4
  clear hw3 HZ3
  refine wp_stI rfl rfl rfl e4 (own_frozen HD3.out 4) ⟨⟨⟨(World.cell?_setCell_far _ _ _ _ (by show b ≠ w.heap.size; have := HBW.out; omega)).trans HSY.out.1.1, (World.cell?_setCell_far _ _ _ _ (by show b ≠ w.heap.size; have := HBW.out; omega)).trans HSY.out.1.2⟩, (World.cell?_setCell_far _ _ _ _ (by show b ≠ g; exact Ne.symm hgb)).trans HSY.out.2⟩, ?_⟩
  refine wpAnyH_done (by kernel_rfl) ?_ _
  clear e4 HSY HSX HSX0 HB3 HD3
  generalize W3.setCell ⟨b, 4, none⟩ (.int .i64 x) = W4 at HD4 HB4 ⊢
  go_upto_region 2 with fail
  obtain ⟨i0, hi, hz0, hz1, hz2⟩ := info_parts info_s
  obtain ⟨ba, bc, rfl, hnc, hcm⟩ := ownsQ_slice HQ.out
  have hss : ((w.setCell ⟨b, 3, none⟩ (.int .i64 ad)).setCell ⟨b, 4, none⟩ (.int .i64 x)).heap.size = w.heap.size := by simp [World.setCell]
  have HBL : Hid (∀ k, k ≠ b → k < w.heap.size → W4.heap[k]? = w.heap[k]?) := fun k h1 h2 => (HB4.out.block k h2).trans ((Below.heap_setCell _ ⟨b, 4, none⟩ _ k (by intro e; first | exact h1 e | exact h1 e.symm)).trans (Below.heap_setCell _ ⟨b, 3, none⟩ _ k (by intro e; first | exact h1 e | exact h1 e.symm)))
  have dw : Below W4.heap.size W4 W4.drew := below_drewN (Below.refl _ W4) 1
  have h48 : w.heap.size ≤ W4.heap.size := by have := HB4.out.size; omega
  have HQ5 : Hid (ownsQ W4.drew 0 76 3 (.slice ba n bc) n xs) := ownsQ_stays (ownsQ_stays HQ.out fun k hk => HBL.out k (hbb k hk).1 (ownsQ_lt HQ.out k hk).2) fun k hk => dw.block k (by have := (ownsQ_lt HQ.out k hk).2; omega)
  have e8 : W4.drew.heap[g]? = w.heap[g]? := (dw.block g (by omega)).trans (HBL.out g hgb hgw)
  have HC5 : Hid (W4.drew.cell? ⟨g, o + 18, none⟩ = some (.slice ba n bc)) := (cell_blk e8 _).trans HC18.out
  have HF5 : Hid (W4.drew.frozen? ⟨g, o + 18, none⟩ = false) := (frozen_blk e8 _).trans HF18.out
  have HD5 := Lib.hid (HD4.out.below dw)
  have HB5 := Lib.hid (HB4.out.trans (dw.mono h48))
  have HS5 := Lib.hid (Nat.le_trans h48 dw.size)
  clear HQ HC18 HF18 HD4 HB4 HBL dw h48 e8 hss hnc hcm
  refine wp_region_held (S := fun V => (V.cell? ⟨b, 2, none⟩ = some (.int .i64 at0) ∧ V.cell? ⟨b, 3, none⟩ = some (.int .i64 ad)) ∧ V.cell? ⟨b, 4, none⟩ = some (.int .i64 x)) (by kernel_rfl) ?_
  change wpAnyH _ _ _ _ _ _ _ _ W4.drew
  generalize W4.drew = W5 at HQ5 HC5 HF5 HD5 HB5 HS5 ⊢
  have HSD : Hid (∀ V, Own V b 42 ((drow.setIfInBounds 3 (.int .i64 ad)).setIfInBounds 4 (.int .i64 x)) → ((V.cell? ⟨b, 2, none⟩ = some (.int .i64 at0) ∧ V.cell? ⟨b, 3, none⟩ = some (.int .i64 ad)) ∧ V.cell? ⟨b, 4, none⟩ = some (.int .i64 x))) := fun V hV => ⟨⟨row_cellsO hV 2 _ (by rw [Array.getElem?_setIfInBounds_ne (by decide), Array.getElem?_setIfInBounds_ne (by decide)]; exact h2), row_cellsO hV 3 _ (by rw [Array.getElem?_setIfInBounds_ne (by decide), Array.getElem?_setIfInBounds_self_of_lt (Array.getElem?_eq_some_iff.1 h3).1])⟩, row_cellsO hV 4 _ (by rw [Array.getElem?_setIfInBounds_self_of_lt (by rw [Array.size_setIfInBounds]; exact (Array.getElem?_eq_some_iff.1 h4).1)])⟩
  have HSX := Lib.hid (HSD.out _ HD5.out)
  have al5 := (Below.refl _ W5).alloc (Nat.le_refl _) (.cells #[.int .i64 at0, .int .i64 ad, .int .i64 x] 76)
  have HD6 := Lib.hid (HD5.out.below al5)
  have HSY := Lib.hid (HSD.out _ HD6.out)
  have e9 : (W5.alloc (.cells #[.int .i64 at0, .int .i64 ad, .int .i64 x] 76)).heap[g]? = W5.heap[g]? := al5.block g (by have := HS5.out; omega)
  have HC6 : Hid (_ = _) := (cell_blk e9 (o + 18)).trans HC5.out
  have HF6 : Hid (_ = _) := (frozen_blk e9 (o + 18)).trans HF5.out
  have HQ6 : Hid (ownsQ _ 0 76 3 (.slice ba n bc) n xs) := ownsQ_stays HQ5.out fun k hk => al5.block k (ownsQ_lt HQ5.out k hk).2
  have HNW : Hid (∀ (j : Nat) (u : Value), ([.int .i64 at0, .int .i64 ad, .int .i64 x] : List Value)[j]? = some u → (W5.alloc (.cells #[.int .i64 at0, .int .i64 ad, .int .i64 x] 76)).cell? ((⟨W5.heap.size, 0, none⟩ : Addr).add j) = some u) := fun j u hj => by
    rw [addr_addV, Nat.zero_add]
    exact row_cellsO (Own.new W5 76 #[.int .i64 at0, .int .i64 ad, .int .i64 x]) j u (by simpa using hj)
  have HB6 := Lib.hid (HB5.out.trans (al5.mono HS5.out))
  clear e9 al5
  change wpAnyH _ _ _ _ _ _ _ { tmps := List.toArray (_ :: _ :: _ :: _ :: _ :: _ :: _ :: _ :: _ :: _ :: _ :: _ :: _ :: _ :: _ :: _ :: _ :: _ :: _ :: _ :: _ :: _ :: _ :: _ :: _ :: _ :: _ :: _ :: _ :: _ :: _ :: _ :: _ :: _ :: _ :: _ :: _ :: _ :: _ :: _ :: _ :: _ :: _ :: _ :: _ :: _ :: _ :: _ :: []), defers := [] } _
  refine dr_take 0 (.pointer (some ⟨g, o, none⟩)) rfl rfl (by kernel_rfl) (by kernel_rfl) (by kernel_rfl) (fun _ _ _ h => h) (fun _ _ => by unfold execOp; go_simp) HSX.out ?_
  change wpAnyH _ _ _ _ _ _ _ { tmps := List.toArray (_ :: _ :: _ :: _ :: _ :: _ :: _ :: _ :: _ :: _ :: _ :: _ :: _ :: _ :: _ :: _ :: _ :: _ :: _ :: _ :: _ :: _ :: _ :: _ :: _ :: _ :: _ :: _ :: _ :: _ :: _ :: _ :: _ :: _ :: _ :: _ :: _ :: _ :: _ :: _ :: _ :: _ :: _ :: _ :: _ :: _ :: _ :: _ :: []), defers := [] } _
  refine dr_take 1 (.pointer (some ⟨g, o, none⟩)) rfl rfl (by kernel_rfl) (by kernel_rfl) (by kernel_rfl) (fun _ _ _ h => h) (fun _ _ => by unfold execOp; go_simp) HSX.out ?_
  change wpAnyH _ _ _ _ _ _ _ { tmps := List.toArray (_ :: _ :: _ :: _ :: _ :: _ :: _ :: _ :: _ :: _ :: _ :: _ :: _ :: _ :: _ :: _ :: _ :: _ :: _ :: _ :: _ :: _ :: _ :: _ :: _ :: _ :: _ :: _ :: _ :: _ :: _ :: _ :: _ :: _ :: _ :: _ :: _ :: _ :: _ :: _ :: _ :: _ :: _ :: _ :: _ :: _ :: _ :: _ :: []), defers := [] } _
  refine dr_take 2 (.pointer (some ⟨g, o, none⟩)) rfl rfl (by kernel_rfl) (by kernel_rfl) (by kernel_rfl) (fun _ _ _ h => h) (fun _ _ => by unfold execOp; go_simp) HSX.out ?_
  change wpAnyH _ _ _ _ _ _ _ { tmps := List.toArray (_ :: _ :: _ :: _ :: _ :: _ :: _ :: _ :: _ :: _ :: _ :: _ :: _ :: _ :: _ :: _ :: _ :: _ :: _ :: _ :: _ :: _ :: _ :: _ :: _ :: _ :: _ :: _ :: _ :: _ :: _ :: _ :: _ :: _ :: _ :: _ :: _ :: _ :: _ :: _ :: _ :: _ :: _ :: _ :: _ :: _ :: _ :: _ :: []), defers := [] } _
  refine dr_take 3 (.pointer (some ⟨g, o, none⟩)) rfl rfl (by kernel_rfl) (by kernel_rfl) (by kernel_rfl) (fun _ _ _ h => h) (fun _ _ => by unfold execOp; go_simp) HSX.out ?_
  change wpAnyH _ _ _ _ _ _ _ { tmps := List.toArray (_ :: _ :: _ :: _ :: _ :: _ :: _ :: _ :: _ :: _ :: _ :: _ :: _ :: _ :: _ :: _ :: _ :: _ :: _ :: _ :: _ :: _ :: _ :: _ :: _ :: _ :: _ :: _ :: _ :: _ :: _ :: _ :: _ :: _ :: _ :: _ :: _ :: _ :: _ :: _ :: _ :: _ :: _ :: _ :: _ :: _ :: _ :: _ :: []), defers := [] } _
  refine dr_take 4 (.pointer (some ⟨g, o + 18, none⟩)) rfl rfl (by kernel_rfl) (by kernel_rfl) (by kernel_rfl) (fun _ _ _ h => h) (fun _ _ => by unfold execOp; go_simp) HSX.out ?_
  change wpAnyH _ _ _ _ _ _ _ { tmps := List.toArray (_ :: _ :: _ :: _ :: _ :: _ :: _ :: _ :: _ :: _ :: _ :: _ :: _ :: _ :: _ :: _ :: _ :: _ :: _ :: _ :: _ :: _ :: _ :: _ :: _ :: _ :: _ :: _ :: _ :: _ :: _ :: _ :: _ :: _ :: _ :: _ :: _ :: _ :: _ :: _ :: _ :: _ :: _ :: _ :: _ :: _ :: _ :: _ :: []), defers := [] } _
  refine dr_take 6 (.pointer (some ⟨b, 0, none⟩)) rfl rfl (by kernel_rfl) (by kernel_rfl) (by kernel_rfl) (fun _ _ _ h => h) (fun _ _ => by unfold execOp; go_simp) HSX.out ?_
  change wpAnyH _ _ _ _ _ _ _ { tmps := List.toArray (_ :: _ :: _ :: _ :: _ :: _ :: _ :: _ :: _ :: _ :: _ :: _ :: _ :: _ :: _ :: _ :: _ :: _ :: _ :: _ :: _ :: _ :: _ :: _ :: _ :: _ :: _ :: _ :: _ :: _ :: _ :: _ :: _ :: _ :: _ :: _ :: _ :: _ :: _ :: _ :: _ :: _ :: _ :: _ :: _ :: _ :: _ :: _ :: []), defers := [] } _
  refine dr_take 7 (.pointer (some ⟨b, 0, none⟩)) rfl rfl (by kernel_rfl) (by kernel_rfl) (by kernel_rfl) (fun _ _ _ h => h) (fun _ _ => by unfold execOp; go_simp) HSX.out ?_
  change wpAnyH _ _ _ _ _ _ _ { tmps := List.toArray (_ :: _ :: _ :: _ :: _ :: _ :: _ :: _ :: _ :: _ :: _ :: _ :: _ :: _ :: _ :: _ :: _ :: _ :: _ :: _ :: _ :: _ :: _ :: _ :: _ :: _ :: _ :: _ :: _ :: _ :: _ :: _ :: _ :: _ :: _ :: _ :: _ :: _ :: _ :: _ :: _ :: _ :: _ :: _ :: _ :: _ :: _ :: _ :: []), defers := [] } _
  refine dr_take 8 (.pointer (some ⟨b, 2, none⟩)) rfl rfl (by kernel_rfl) (by kernel_rfl) (by kernel_rfl) (fun _ _ _ h => h) (fun _ _ => by unfold execOp; go_simp) HSX.out ?_
  change wpAnyH _ _ _ _ _ _ _ { tmps := List.toArray (_ :: _ :: _ :: _ :: _ :: _ :: _ :: _ :: _ :: _ :: _ :: _ :: _ :: _ :: _ :: _ :: _ :: _ :: _ :: _ :: _ :: _ :: _ :: _ :: _ :: _ :: _ :: _ :: _ :: _ :: _ :: _ :: _ :: _ :: _ :: _ :: _ :: _ :: _ :: _ :: _ :: _ :: _ :: _ :: _ :: _ :: _ :: _ :: []), defers := [] } _
  refine dr_take 9 (.int .i64 at0) rfl rfl (by kernel_rfl) (by kernel_rfl) (by kernel_rfl) (fun _ _ _ h => h) (fun V h => by have h1 := h.1.1; clear h; unfold execOp; go_simp) HSX.out ?_
  change wpAnyH _ _ _ _ _ _ _ { tmps := List.toArray (_ :: _ :: _ :: _ :: _ :: _ :: _ :: _ :: _ :: _ :: _ :: _ :: _ :: _ :: _ :: _ :: _ :: _ :: _ :: _ :: _ :: _ :: _ :: _ :: _ :: _ :: _ :: _ :: _ :: _ :: _ :: _ :: _ :: _ :: _ :: _ :: _ :: _ :: _ :: _ :: _ :: _ :: _ :: _ :: _ :: _ :: _ :: _ :: []), defers := [] } _
  refine dr_take 10 (.pointer (some ⟨b, 0, none⟩)) rfl rfl (by kernel_rfl) (by kernel_rfl) (by kernel_rfl) (fun _ _ _ h => h) (fun _ _ => by unfold execOp; go_simp) HSX.out ?_
  change wpAnyH _ _ _ _ _ _ _ { tmps := List.toArray (_ :: _ :: _ :: _ :: _ :: _ :: _ :: _ :: _ :: _ :: _ :: _ :: _ :: _ :: _ :: _ :: _ :: _ :: _ :: _ :: _ :: _ :: _ :: _ :: _ :: _ :: _ :: _ :: _ :: _ :: _ :: _ :: _ :: _ :: _ :: _ :: _ :: _ :: _ :: _ :: _ :: _ :: _ :: _ :: _ :: _ :: _ :: _ :: []), defers := [] } _
  refine dr_take 11 (.pointer (some ⟨b, 0, none⟩)) rfl rfl (by kernel_rfl) (by kernel_rfl) (by kernel_rfl) (fun _ _ _ h => h) (fun _ _ => by unfold execOp; go_simp) HSX.out ?_
  change wpAnyH _ _ _ _ _ _ _ { tmps := List.toArray (_ :: _ :: _ :: _ :: _ :: _ :: _ :: _ :: _ :: _ :: _ :: _ :: _ :: _ :: _ :: _ :: _ :: _ :: _ :: _ :: _ :: _ :: _ :: _ :: _ :: _ :: _ :: _ :: _ :: _ :: _ :: _ :: _ :: _ :: _ :: _ :: _ :: _ :: _ :: _ :: _ :: _ :: _ :: _ :: _ :: _ :: _ :: _ :: []), defers := [] } _
  refine dr_take 12 (.pointer (some ⟨b, 3, none⟩)) rfl rfl (by kernel_rfl) (by kernel_rfl) (by kernel_rfl) (fun _ _ _ h => h) (fun _ _ => by unfold execOp; go_simp) HSX.out ?_
  change wpAnyH _ _ _ _ _ _ _ { tmps := List.toArray (_ :: _ :: _ :: _ :: _ :: _ :: _ :: _ :: _ :: _ :: _ :: _ :: _ :: _ :: _ :: _ :: _ :: _ :: _ :: _ :: _ :: _ :: _ :: _ :: _ :: _ :: _ :: _ :: _ :: _ :: _ :: _ :: _ :: _ :: _ :: _ :: _ :: _ :: _ :: _ :: _ :: _ :: _ :: _ :: _ :: _ :: _ :: _ :: []), defers := [] } _
  refine dr_take 13 (.int .i64 ad) rfl rfl (by kernel_rfl) (by kernel_rfl) (by kernel_rfl) (fun _ _ _ h => h) (fun V h => by have h1 := h.1.2; clear h; unfold execOp; go_simp) HSX.out ?_
  change wpAnyH _ _ _ _ _ _ _ { tmps := List.toArray (_ :: _ :: _ :: _ :: _ :: _ :: _ :: _ :: _ :: _ :: _ :: _ :: _ :: _ :: _ :: _ :: _ :: _ :: _ :: _ :: _ :: _ :: _ :: _ :: _ :: _ :: _ :: _ :: _ :: _ :: _ :: _ :: _ :: _ :: _ :: _ :: _ :: _ :: _ :: _ :: _ :: _ :: _ :: _ :: _ :: _ :: _ :: _ :: []), defers := [] } _
  refine dr_take 14 (.pointer (some ⟨b, 0, none⟩)) rfl rfl (by kernel_rfl) (by kernel_rfl) (by kernel_rfl) (fun _ _ _ h => h) (fun _ _ => by unfold execOp; go_simp) HSX.out ?_
  change wpAnyH _ _ _ _ _ _ _ { tmps := List.toArray (_ :: _ :: _ :: _ :: _ :: _ :: _ :: _ :: _ :: _ :: _ :: _ :: _ :: _ :: _ :: _ :: _ :: _ :: _ :: _ :: _ :: _ :: _ :: _ :: _ :: _ :: _ :: _ :: _ :: _ :: _ :: _ :: _ :: _ :: _ :: _ :: _ :: _ :: _ :: _ :: _ :: _ :: _ :: _ :: _ :: _ :: _ :: _ :: []), defers := [] } _
  refine dr_take 15 (.pointer (some ⟨b, 0, none⟩)) rfl rfl (by kernel_rfl) (by kernel_rfl) (by kernel_rfl) (fun _ _ _ h => h) (fun _ _ => by unfold execOp; go_simp) HSX.out ?_
  change wpAnyH _ _ _ _ _ _ _ { tmps := List.toArray (_ :: _ :: _ :: _ :: _ :: _ :: _ :: _ :: _ :: _ :: _ :: _ :: _ :: _ :: _ :: _ :: _ :: _ :: _ :: _ :: _ :: _ :: _ :: _ :: _ :: _ :: _ :: _ :: _ :: _ :: _ :: _ :: _ :: _ :: _ :: _ :: _ :: _ :: _ :: _ :: _ :: _ :: _ :: _ :: _ :: _ :: _ :: _ :: []), defers := [] } _
  refine dr_take 16 (.pointer (some ⟨b, 4, none⟩)) rfl rfl (by kernel_rfl) (by kernel_rfl) (by kernel_rfl) (fun _ _ _ h => h) (fun _ _ => by unfold execOp; go_simp) HSX.out ?_
  change wpAnyH _ _ _ _ _ _ _ { tmps := List.toArray (_ :: _ :: _ :: _ :: _ :: _ :: _ :: _ :: _ :: _ :: _ :: _ :: _ :: _ :: _ :: _ :: _ :: _ :: _ :: _ :: _ :: _ :: _ :: _ :: _ :: _ :: _ :: _ :: _ :: _ :: _ :: _ :: _ :: _ :: _ :: _ :: _ :: _ :: _ :: _ :: _ :: _ :: _ :: _ :: _ :: _ :: _ :: _ :: []), defers := [] } _
  refine dr_take 17 (.int .i64 x) rfl rfl (by kernel_rfl) (by kernel_rfl) (by kernel_rfl) (fun _ _ _ h => h) (fun V h => by have h1 := h.2; clear h; unfold execOp; go_simp) HSX.out ?_
  change wpAnyH _ _ _ _ _ _ _ { tmps := List.toArray (_ :: _ :: _ :: _ :: _ :: _ :: _ :: _ :: _ :: _ :: _ :: _ :: _ :: _ :: _ :: _ :: _ :: _ :: _ :: _ :: _ :: _ :: _ :: _ :: _ :: _ :: _ :: _ :: _ :: _ :: _ :: _ :: _ :: _ :: _ :: _ :: _ :: _ :: _ :: _ :: _ :: _ :: _ :: _ :: _ :: _ :: _ :: _ :: []), defers := [] } _
  refine dr_take 18 (.agg #[.int .i64 at0, .int .i64 ad, .int .i64 x]) rfl rfl (by kernel_rfl) (by kernel_rfl) (by kernel_rfl) (fun _ _ _ h => h) (fun _ _ => by unfold execOp; go_simp) HSX.out ?_
  change wpAnyH _ _ _ _ _ _ _ { tmps := List.toArray (_ :: _ :: _ :: _ :: _ :: _ :: _ :: _ :: _ :: _ :: _ :: _ :: _ :: _ :: _ :: _ :: _ :: _ :: _ :: _ :: _ :: _ :: _ :: _ :: _ :: _ :: _ :: _ :: _ :: _ :: _ :: _ :: _ :: _ :: _ :: _ :: _ :: _ :: _ :: _ :: _ :: _ :: _ :: _ :: _ :: _ :: _ :: _ :: []), defers := [] } _
  refine dr_two 5 19 rfl rfl rfl rfl (by kernel_rfl) ?_ ?_
  · refine wv_val (w' := W5) (v := .slice ba n bc) (by have h1 := HC5.out; unfold execOp; go_simp) ⟨HSX.out, ?_⟩
    change wpAnyH _ _ _ _ _ _ _ { tmps := List.toArray (_ :: _ :: _ :: _ :: _ :: _ :: _ :: _ :: _ :: _ :: _ :: _ :: _ :: _ :: _ :: _ :: _ :: _ :: _ :: _ :: _ :: _ :: _ :: _ :: _ :: _ :: _ :: _ :: _ :: _ :: _ :: _ :: _ :: _ :: _ :: _ :: _ :: _ :: _ :: _ :: _ :: _ :: _ :: _ :: _ :: _ :: _ :: _ :: []), defers := [] } _
    refine dr_one 19 rfl rfl (by kernel_rfl) ?_
    refine wv_val (w' := (W5.alloc (.cells #[.int .i64 at0, .int .i64 ad, .int .i64 x] 76))) (v := .slice (some ⟨W5.heap.size, 0, none⟩) 1 1) (run_bsS rfl rfl) ⟨HSY.out, ?_⟩
    change wpAnyH _ _ _ _ _ _ _ { tmps := List.toArray (_ :: _ :: _ :: _ :: _ :: _ :: _ :: _ :: _ :: _ :: _ :: _ :: _ :: _ :: _ :: _ :: _ :: _ :: _ :: _ :: _ :: _ :: _ :: _ :: _ :: _ :: _ :: _ :: _ :: _ :: _ :: _ :: _ :: _ :: _ :: _ :: _ :: _ :: _ :: _ :: _ :: _ :: _ :: _ :: _ :: _ :: _ :: _ :: []), defers := [] } _
    refine dr_one 20 rfl rfl (by kernel_rfl) ?_
    refine wp_append_q _ _ 54 rfl 0 76 i0 _ 3 24 Tryd.underlying54 hi hz0 hz1 hz2 rfl (by decide) (.slice ba n bc) n xs rfl HQ6.out ⟨W5.heap.size, 0, none⟩ 1 1 [.int .i64 at0, .int .i64 ad, .int .i64 x] rfl rfl HNW.out (by simp [Value.oneCell']) (by simp only [maxLen]; omega) (by omega) (Nat.zero_le _) (by decide) ?_
    intro v7 W7 hr hg hk7
    have hgc := hg
    obtain ⟨_, _, _, _, hgx⟩ := hgc
    have hnb : ∀ k, k < (W5.alloc (.cells #[.int .i64 at0, .int .i64 ad, .int .i64 x] 76)).heap.size → (∀ j, (Value.slice ba n bc).ownBlock = some j → j ≠ k) → W7.heap[k]? = (W5.alloc (.cells #[.int .i64 at0, .int .i64 ad, .int .i64 x] 76)).heap[k]? := fun k h1 h2 => hgx k h1 (by intro e; first | exact h2 k e rfl | exact h2 k e.symm rfl)
    have hgs : g < (W5.alloc (.cells #[.int .i64 at0, .int .i64 ad, .int .i64 x] 76)).heap.size := lt_of_at HC6.out
    have hbs : b < (W5.alloc (.cells #[.int .i64 at0, .int .i64 ad, .int .i64 x] 76)).heap.size := lt_of_at HSY.out.2
    have HD7 : Hid (Own W7 b _ _) := (hnb b hbs fun j hj => (hbb j hj).1).trans HD6.out
    have e7 := hnb g hgs fun j hj => (hbb j hj).2
    have HC7 : Hid (_ = _) := (cell_blk e7 (o + 18)).trans HC6.out
    have HF7 : Hid (_ = _) := (frozen_blk e7 (o + 18)).trans HF6.out
    have HSZ := Lib.hid (HSD.out _ HD7.out)
    refine ⟨HSZ.out, ?_⟩
    change wpAnyH _ _ _ _ _ _ _ { tmps := List.toArray (_ :: _ :: _ :: _ :: _ :: _ :: _ :: _ :: _ :: _ :: _ :: _ :: _ :: _ :: _ :: _ :: _ :: _ :: _ :: _ :: _ :: _ :: _ :: _ :: _ :: _ :: _ :: _ :: _ :: _ :: _ :: _ :: _ :: _ :: _ :: _ :: _ :: _ :: _ :: _ :: _ :: _ :: _ :: _ :: _ :: _ :: _ :: _ :: []), defers := [] } _
    refine dr_one 21 rfl rfl (by kernel_rfl) ?_
    refine wv_val (w' := W7) (v := .pointer (some ⟨g, o, none⟩)) (by unfold execOp; go_simp) ⟨HSZ.out, ?_⟩
    change wpAnyH _ _ _ _ _ _ _ { tmps := List.toArray (_ :: _ :: _ :: _ :: _ :: _ :: _ :: _ :: _ :: _ :: _ :: _ :: _ :: _ :: _ :: _ :: _ :: _ :: _ :: _ :: _ :: _ :: _ :: _ :: _ :: _ :: _ :: _ :: _ :: _ :: _ :: _ :: _ :: _ :: _ :: _ :: _ :: _ :: _ :: _ :: _ :: _ :: _ :: _ :: _ :: _ :: _ :: _ :: []), defers := [] } _
    refine dr_one 22 rfl rfl (by kernel_rfl) ?_
    refine wv_val (w' := W7) (v := .pointer (some ⟨g, o, none⟩)) (by unfold execOp; go_simp) ⟨HSZ.out, ?_⟩
    change wpAnyH _ _ _ _ _ _ _ { tmps := List.toArray (_ :: _ :: _ :: _ :: _ :: _ :: _ :: _ :: _ :: _ :: _ :: _ :: _ :: _ :: _ :: _ :: _ :: _ :: _ :: _ :: _ :: _ :: _ :: _ :: _ :: _ :: _ :: _ :: _ :: _ :: _ :: _ :: _ :: _ :: _ :: _ :: _ :: _ :: _ :: _ :: _ :: _ :: _ :: _ :: _ :: _ :: _ :: _ :: []), defers := [] } _
    refine dr_one 23 rfl rfl (by kernel_rfl) ?_
    refine wv_val (w' := W7) (v := .pointer (some ⟨g, o + 18, none⟩)) (by unfold execOp; go_simp) ⟨HSZ.out, ?_⟩
    change wpAnyH _ _ _ _ _ _ _ { tmps := List.toArray (_ :: _ :: _ :: _ :: _ :: _ :: _ :: _ :: _ :: _ :: _ :: _ :: _ :: _ :: _ :: _ :: _ :: _ :: _ :: _ :: _ :: _ :: _ :: _ :: _ :: _ :: _ :: _ :: _ :: _ :: _ :: _ :: _ :: _ :: _ :: _ :: _ :: _ :: _ :: _ :: _ :: _ :: _ :: _ :: _ :: _ :: _ :: _ :: []), defers := [] } _
    refine dr_one 24 rfl rfl (by kernel_rfl) ?_
    have HD8 := Lib.hid (own_setother (a := b) (b := g) (Ne.symm hgb) HD7.out (o + 18) v7)
    obtain ⟨a7, c7, rfl, _, _⟩ := ownsQ_slice hr
    refine wp_stL rfl rfl rfl HC7.out HF7.out ⟨HSD.out _ HD8.out, ?_⟩
    refine wpAnyH_done (by kernel_rfl) ?_ _
    try go_wp2_with fail
    exact bodyPost_end (results_none rfl _ _ _) rfl ⟨rfl, _, _, _, HB6.out, hr, hg, hk7, rfl⟩
  · refine wv_val (w' := (W5.alloc (.cells #[.int .i64 at0, .int .i64 ad, .int .i64 x] 76))) (v := .slice (some ⟨W5.heap.size, 0, none⟩) 1 1) (run_bsS rfl rfl) ⟨HSY.out, ?_⟩
    change wpAnyH _ _ _ _ _ _ _ { tmps := List.toArray (_ :: _ :: _ :: _ :: _ :: _ :: _ :: _ :: _ :: _ :: _ :: _ :: _ :: _ :: _ :: _ :: _ :: _ :: _ :: _ :: _ :: _ :: _ :: _ :: _ :: _ :: _ :: _ :: _ :: _ :: _ :: _ :: _ :: _ :: _ :: _ :: _ :: _ :: _ :: _ :: _ :: _ :: _ :: _ :: _ :: _ :: _ :: _ :: []), defers := [] } _
    refine dr_one 5 rfl rfl (by kernel_rfl) ?_
    refine wv_val (w' := (W5.alloc (.cells #[.int .i64 at0, .int .i64 ad, .int .i64 x] 76))) (v := .slice ba n bc) (by have h1 := HC6.out; unfold execOp; go_simp) ⟨HSY.out, ?_⟩
    change wpAnyH _ _ _ _ _ _ _ { tmps := List.toArray (_ :: _ :: _ :: _ :: _ :: _ :: _ :: _ :: _ :: _ :: _ :: _ :: _ :: _ :: _ :: _ :: _ :: _ :: _ :: _ :: _ :: _ :: _ :: _ :: _ :: _ :: _ :: _ :: _ :: _ :: _ :: _ :: _ :: _ :: _ :: _ :: _ :: _ :: _ :: _ :: _ :: _ :: _ :: _ :: _ :: _ :: _ :: _ :: []), defers := [] } _
    refine dr_one 20 rfl rfl (by kernel_rfl) ?_
    refine wp_append_q _ _ 54 rfl 0 76 i0 _ 3 24 Tryd.underlying54 hi hz0 hz1 hz2 rfl (by decide) (.slice ba n bc) n xs rfl HQ6.out ⟨W5.heap.size, 0, none⟩ 1 1 [.int .i64 at0, .int .i64 ad, .int .i64 x] rfl rfl HNW.out (by simp [Value.oneCell']) (by simp only [maxLen]; omega) (by omega) (Nat.zero_le _) (by decide) ?_
    intro v7 W7 hr hg hk7
    have hgc := hg
    obtain ⟨_, _, _, _, hgx⟩ := hgc
    have hnb : ∀ k, k < (W5.alloc (.cells #[.int .i64 at0, .int .i64 ad, .int .i64 x] 76)).heap.size → (∀ j, (Value.slice ba n bc).ownBlock = some j → j ≠ k) → W7.heap[k]? = (W5.alloc (.cells #[.int .i64 at0, .int .i64 ad, .int .i64 x] 76)).heap[k]? := fun k h1 h2 => hgx k h1 (by intro e; first | exact h2 k e rfl | exact h2 k e.symm rfl)
    have hgs : g < (W5.alloc (.cells #[.int .i64 at0, .int .i64 ad, .int .i64 x] 76)).heap.size := lt_of_at HC6.out
    have hbs : b < (W5.alloc (.cells #[.int .i64 at0, .int .i64 ad, .int .i64 x] 76)).heap.size := lt_of_at HSY.out.2
    have HD7 : Hid (Own W7 b _ _) := (hnb b hbs fun j hj => (hbb j hj).1).trans HD6.out
    have e7 := hnb g hgs fun j hj => (hbb j hj).2
    have HC7 : Hid (_ = _) := (cell_blk e7 (o + 18)).trans HC6.out
    have HF7 : Hid (_ = _) := (frozen_blk e7 (o + 18)).trans HF6.out
    have HSZ := Lib.hid (HSD.out _ HD7.out)
    refine ⟨HSZ.out, ?_⟩
    change wpAnyH _ _ _ _ _ _ _ { tmps := List.toArray (_ :: _ :: _ :: _ :: _ :: _ :: _ :: _ :: _ :: _ :: _ :: _ :: _ :: _ :: _ :: _ :: _ :: _ :: _ :: _ :: _ :: _ :: _ :: _ :: _ :: _ :: _ :: _ :: _ :: _ :: _ :: _ :: _ :: _ :: _ :: _ :: _ :: _ :: _ :: _ :: _ :: _ :: _ :: _ :: _ :: _ :: _ :: _ :: []), defers := [] } _
    refine dr_one 21 rfl rfl (by kernel_rfl) ?_
    refine wv_val (w' := W7) (v := .pointer (some ⟨g, o, none⟩)) (by unfold execOp; go_simp) ⟨HSZ.out, ?_⟩
    change wpAnyH _ _ _ _ _ _ _ { tmps := List.toArray (_ :: _ :: _ :: _ :: _ :: _ :: _ :: _ :: _ :: _ :: _ :: _ :: _ :: _ :: _ :: _ :: _ :: _ :: _ :: _ :: _ :: _ :: _ :: _ :: _ :: _ :: _ :: _ :: _ :: _ :: _ :: _ :: _ :: _ :: _ :: _ :: _ :: _ :: _ :: _ :: _ :: _ :: _ :: _ :: _ :: _ :: _ :: _ :: []), defers := [] } _
    refine dr_one 22 rfl rfl (by kernel_rfl) ?_
    refine wv_val (w' := W7) (v := .pointer (some ⟨g, o, none⟩)) (by unfold execOp; go_simp) ⟨HSZ.out, ?_⟩
    change wpAnyH _ _ _ _ _ _ _ { tmps := List.toArray (_ :: _ :: _ :: _ :: _ :: _ :: _ :: _ :: _ :: _ :: _ :: _ :: _ :: _ :: _ :: _ :: _ :: _ :: _ :: _ :: _ :: _ :: _ :: _ :: _ :: _ :: _ :: _ :: _ :: _ :: _ :: _ :: _ :: _ :: _ :: _ :: _ :: _ :: _ :: _ :: _ :: _ :: _ :: _ :: _ :: _ :: _ :: _ :: []), defers := [] } _
    refine dr_one 23 rfl rfl (by kernel_rfl) ?_
    refine wv_val (w' := W7) (v := .pointer (some ⟨g, o + 18, none⟩)) (by unfold execOp; go_simp) ⟨HSZ.out, ?_⟩
    change wpAnyH _ _ _ _ _ _ _ { tmps := List.toArray (_ :: _ :: _ :: _ :: _ :: _ :: _ :: _ :: _ :: _ :: _ :: _ :: _ :: _ :: _ :: _ :: _ :: _ :: _ :: _ :: _ :: _ :: _ :: _ :: _ :: _ :: _ :: _ :: _ :: _ :: _ :: _ :: _ :: _ :: _ :: _ :: _ :: _ :: _ :: _ :: _ :: _ :: _ :: _ :: _ :: _ :: _ :: _ :: []), defers := [] } _
    refine dr_one 24 rfl rfl (by kernel_rfl) ?_
    have HD8 := Lib.hid (own_setother (a := b) (b := g) (Ne.symm hgb) HD7.out (o + 18) v7)
    obtain ⟨a7, c7, rfl, _, _⟩ := ownsQ_slice hr
    refine wp_stL rfl rfl rfl HC7.out HF7.out ⟨HSD.out _ HD8.out, ?_⟩
    refine wpAnyH_done (by kernel_rfl) ?_ _
    try go_wp2_with fail
    exact bodyPost_end (results_none rfl _ _ _) rfl ⟨rfl, _, _, _, HB6.out, hr, hg, hk7, rfl⟩
end Go.Proofs.YtmpljhfinmfnbaaDoor

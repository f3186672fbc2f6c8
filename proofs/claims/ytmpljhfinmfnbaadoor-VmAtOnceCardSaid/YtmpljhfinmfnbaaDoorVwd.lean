/- A core swaps. -/
import Derived.Test.YtmpljhfinmfnbaaDoorVwc
namespace Go.Proofs.YtmpljhfinmfnbaaDoor
open Go.RowKit
set_option linter.unusedVariables false
set_option maxRecDepth 100000
set_option maxHeartbeats 8000000 in
theorem p_swap {w : World} {p g o b : Nat} {c : Co} {bv cv : Value} {mem : List Int} {a1 : Option Addr} {n1 c1 : Nat} {sz : Int} {PL : List Nat} {mrow : Array Value} (h : LdP w p g o b c bv cv mem a1 n1 c1 sz PL mrow) (hng : p ≠ g ∧ (∀ k, (Value.slice a1 n1 c1).ownBlock = some k → k ≠ g) ∧ ∀ (k q : Nat), PL[k]? = some q → q ≠ g) (i : Ins) (hd : 0 ≤ i.d ∧ i.d < 16) (ha : 0 ≤ i.ad ∧ i.ad < mem.length) {q0 q1 q2 q3 q4 q5 : Int} {q6 : Bool} (hb : Own w b 42 #[.int .u8 q0, .int .i64 q1, .int .i64 q2, .int .i64 q3, .int .i64 q4, .int .i64 q5, .bool q6]) :
    Calls Tryd.prog 66 #[.pointer (some ⟨p, 0, none⟩), .pointer (some ⟨g, o, none⟩), insV i, .pointer (some ⟨b, 0, none⟩)] w fun e w' => e = .returned (.tuple #[]) ∧ ∃ W W9, KeepB b w W ∧ Own W b 42 #[.int .u8 q0, .int .i64 q1, .int .i64 q2, .int .i64 i.ad, .int .i64 (rget mem i.ad), .int .i64 (rget c.regs i.d), .bool q6] ∧ Below W.heap.size (W.setCell ⟨g, o + 2 + i.d.toNat, none⟩ (.int .i64 (rget mem i.ad))) W9 ∧ ∃ gp g2, a1 = some ⟨gp, 0, none⟩ ∧ W9.heap.size ≤ g2 ∧ Below W9.heap.size (W9.setCell ⟨gp, i.ad.toNat / 32, none⟩ (.pointer (some ⟨g2, 0, none⟩))) w' ∧ PgA w' (rset mem i.ad (rget c.regs i.d)) (.slice a1 n1 c1) (PL.set (i.ad.toNat / 32) g2) := by
  obtain ⟨k, oo, d, a, bb, ad, tt, wd, fr⟩ := i
  simp only at hd ha ⊢
  obtain ⟨dn, rfl⟩ : ∃ n : Nat, d = (n : Int) := ⟨d.toNat, by omega⟩
  obtain ⟨an, rfl⟩ : ∃ n : Nat, ad = (n : Int) := ⟨ad.toNat, by omega⟩
  have hbw := hb.lt
  have HSZ := Lib.hid hbw
  obtain ⟨W1, hW1⟩ : ∃ W, W = w.alloc (.cells #[.int .u8 k, .int .u8 oo, .int .i64 (dn : Int), .int .i64 a, .int .i64 bb, .int .i64 (an : Int), .int .i64 tt, .int .i64 wd, .int .i64 fr] 87) := ⟨_, rfl⟩
  have HS1 : Hid (LdS w b #[.int .u8 k, .int .u8 oo, .int .i64 (dn : Int), .int .i64 a, .int .i64 bb, .int .i64 (an : Int), .int .i64 tt, .int .i64 wd, .int .i64 fr] W1 #[.int .u8 q0, .int .i64 q1, .int .i64 q2, .int .i64 q3, .int .i64 q4, .int .i64 q5, .bool q6]) := by
    rw [hW1]
    have al := (Below.refl w.heap.size w).alloc (Nat.le_refl _) (.cells #[.int .u8 k, .int .u8 oo, .int .i64 (dn : Int), .int .i64 a, .int .i64 bb, .int .i64 (an : Int), .int .i64 tt, .int .i64 wd, .int .i64 fr] 87)
    exact ⟨keepB_below al, hb.below al, Own.new w _ _⟩
  have HH := Lib.hid h
  have HNG := Lib.hid hng
  have HD16 : Hid ((dn : Int) < 16) := hd.2
  have HAN : Hid (an < mem.length) := by show _ < _; omega
  have dw : Below W1.heap.size W1 W1.drew := below_drewN (Below.refl _ W1) 1
  have HS2 := Lib.hid (HS1.out.below dw)
  have HW1 := Lib.hid hW1
  have HGW : Hid (g < w.heap.size) := lt_of_at h.co.pc
  clear h hng hd ha hb hbw hW1 dw
  rw [Int.toNat_natCast, Int.toNat_natCast]
  have HC1 : Hid (∀ V r, LdS w b #[.int .u8 k, .int .u8 oo, .int .i64 (dn : Int), .int .i64 a, .int .i64 bb, .int .i64 (an : Int), .int .i64 tt, .int .i64 wd, .int .i64 fr] V r → V.cell? ⟨g, o + 2 + dn, none⟩ = some (.int .i64 (rget c.regs (dn : Int)))) := fun V r hV => ((HH.out.keep hV.kp).co.reg_at (j := dn) (by have := HD16.out; omega)).1
  obtain ⟨x, hx⟩ : ∃ x, x = rget c.regs (dn : Int) := ⟨_, rfl⟩
  rw [← hx] at HC1 ⊢
  have HXX := Lib.hid hx
  clear hx
  simp only [insV, insC]
  go_enter Tryd.func66, Tryd.ntmps66
  go_upto_region 1 with fail
  rw [← HW1.out]
  clear HW1 HS1
  refine wp_region_held (S := fun V => (((V.cell? ⟨p, 2, none⟩ = some (.slice a1 n1 c1) ∧ V.cell? ⟨p, 3, none⟩ = some (.int .i64 sz)) ∧ V.cell? ⟨w.heap.size, 5, none⟩ = some (.int .i64 (an : Int))) ∧ V.cell? ⟨w.heap.size, 2, none⟩ = some (.int .i64 (dn : Int))) ∧ V.cell? ⟨g, o + 2 + dn, none⟩ = some (.int .i64 x)) (by kernel_rfl) ?_
  change wpAnyH _ _ _ _ _ _ _ _ W1.drew
  generalize W1.drew = W2 at HS2 ⊢
  have HSA : Hid (∀ V r, LdS w b #[.int .u8 k, .int .u8 oo, .int .i64 (dn : Int), .int .i64 a, .int .i64 bb, .int .i64 (an : Int), .int .i64 tt, .int .i64 wd, .int .i64 fr] V r → (((V.cell? ⟨p, 2, none⟩ = some (.slice a1 n1 c1) ∧ V.cell? ⟨p, 3, none⟩ = some (.int .i64 sz)) ∧ V.cell? ⟨w.heap.size, 5, none⟩ = some (.int .i64 (an : Int))) ∧ V.cell? ⟨w.heap.size, 2, none⟩ = some (.int .i64 (dn : Int))) ∧ V.cell? ⟨g, o + 2 + dn, none⟩ = some (.int .i64 x)) := fun V r hV => ⟨⟨⟨⟨row_cellsO (HH.out.keep hV.kp).mch 2 _ HH.out.m2, row_cellsO (HH.out.keep hV.kp).mch 3 _ HH.out.m3⟩, row_cellsO hV.ins 5 _ rfl⟩, row_cellsO hV.ins 2 _ rfl⟩, HC1.out V r hV⟩
  have HSX := Lib.hid (HSA.out _ _ HS2.out)
  change wpAnyH _ _ _ _ _ _ _ { tmps := List.toArray (_ :: _ :: _ :: _ :: _ :: _ :: _ :: _ :: _ :: _ :: _ :: _ :: _ :: _ :: _ :: _ :: _ :: _ :: _ :: _ :: _ :: _ :: _ :: _ :: _ :: _ :: _ :: _ :: _ :: _ :: _ :: _ :: _ :: _ :: _ :: _ :: _ :: _ :: _ :: _ :: _ :: _ :: _ :: _ :: _ :: _ :: _ :: _ :: _ :: _ :: _ :: _ :: _ :: _ :: _ :: _ :: []), defers := [] } _
  refine dr_take 0 (.pointer (some ⟨b, 0, none⟩)) rfl rfl (by kernel_rfl) (by kernel_rfl) (by kernel_rfl) (fun _ _ _ h => h) (fun _ _ => by unfold execOp; go_simp) HSX.out ?_
  change wpAnyH _ _ _ _ _ _ _ { tmps := List.toArray (_ :: _ :: _ :: _ :: _ :: _ :: _ :: _ :: _ :: _ :: _ :: _ :: _ :: _ :: _ :: _ :: _ :: _ :: _ :: _ :: _ :: _ :: _ :: _ :: _ :: _ :: _ :: _ :: _ :: _ :: _ :: _ :: _ :: _ :: _ :: _ :: _ :: _ :: _ :: _ :: _ :: _ :: _ :: _ :: _ :: _ :: _ :: _ :: _ :: _ :: _ :: _ :: _ :: _ :: _ :: _ :: []), defers := [] } _
  refine dr_take 1 (.pointer (some ⟨b, 0, none⟩)) rfl rfl (by kernel_rfl) (by kernel_rfl) (by kernel_rfl) (fun _ _ _ h => h) (fun _ _ => by unfold execOp; go_simp) HSX.out ?_
  change wpAnyH _ _ _ _ _ _ _ { tmps := List.toArray (_ :: _ :: _ :: _ :: _ :: _ :: _ :: _ :: _ :: _ :: _ :: _ :: _ :: _ :: _ :: _ :: _ :: _ :: _ :: _ :: _ :: _ :: _ :: _ :: _ :: _ :: _ :: _ :: _ :: _ :: _ :: _ :: _ :: _ :: _ :: _ :: _ :: _ :: _ :: _ :: _ :: _ :: _ :: _ :: _ :: _ :: _ :: _ :: _ :: _ :: _ :: _ :: _ :: _ :: _ :: _ :: []), defers := [] } _
  refine dr_take 2 (.pointer (some ⟨b, 0, none⟩)) rfl rfl (by kernel_rfl) (by kernel_rfl) (by kernel_rfl) (fun _ _ _ h => h) (fun _ _ => by unfold execOp; go_simp) HSX.out ?_
  change wpAnyH _ _ _ _ _ _ _ { tmps := List.toArray (_ :: _ :: _ :: _ :: _ :: _ :: _ :: _ :: _ :: _ :: _ :: _ :: _ :: _ :: _ :: _ :: _ :: _ :: _ :: _ :: _ :: _ :: _ :: _ :: _ :: _ :: _ :: _ :: _ :: _ :: _ :: _ :: _ :: _ :: _ :: _ :: _ :: _ :: _ :: _ :: _ :: _ :: _ :: _ :: _ :: _ :: _ :: _ :: _ :: _ :: _ :: _ :: _ :: _ :: _ :: _ :: []), defers := [] } _
  refine dr_take 3 (.pointer (some ⟨w.heap.size, 5, none⟩)) rfl rfl (by kernel_rfl) (by kernel_rfl) (by kernel_rfl) (fun _ _ _ h => h) (fun _ _ => by unfold execOp; go_simp) HSX.out ?_
  change wpAnyH _ _ _ _ _ _ _ { tmps := List.toArray (_ :: _ :: _ :: _ :: _ :: _ :: _ :: _ :: _ :: _ :: _ :: _ :: _ :: _ :: _ :: _ :: _ :: _ :: _ :: _ :: _ :: _ :: _ :: _ :: _ :: _ :: _ :: _ :: _ :: _ :: _ :: _ :: _ :: _ :: _ :: _ :: _ :: _ :: _ :: _ :: _ :: _ :: _ :: _ :: _ :: _ :: _ :: _ :: _ :: _ :: _ :: _ :: _ :: _ :: _ :: _ :: []), defers := [] } _
  refine dr_take 4 (.int .i64 (an : Int)) rfl rfl (by kernel_rfl) (by kernel_rfl) (by kernel_rfl) (fun _ _ _ h => h) (fun V h => by have h0 := h.1.1.2; clear h; unfold execOp; go_simp) HSX.out ?_
  change wpAnyH _ _ _ _ _ _ _ { tmps := List.toArray (_ :: _ :: _ :: _ :: _ :: _ :: _ :: _ :: _ :: _ :: _ :: _ :: _ :: _ :: _ :: _ :: _ :: _ :: _ :: _ :: _ :: _ :: _ :: _ :: _ :: _ :: _ :: _ :: _ :: _ :: _ :: _ :: _ :: _ :: _ :: _ :: _ :: _ :: _ :: _ :: _ :: _ :: _ :: _ :: _ :: _ :: _ :: _ :: _ :: _ :: _ :: _ :: _ :: _ :: _ :: _ :: []), defers := [] } _
  refine dr_take 5 (.pointer (some ⟨p, 0, none⟩)) rfl rfl (by kernel_rfl) (by kernel_rfl) (by kernel_rfl) (fun _ _ _ h => h) (fun _ _ => by unfold execOp; go_simp) HSX.out ?_
  change wpAnyH _ _ _ _ _ _ _ { tmps := List.toArray (_ :: _ :: _ :: _ :: _ :: _ :: _ :: _ :: _ :: _ :: _ :: _ :: _ :: _ :: _ :: _ :: _ :: _ :: _ :: _ :: _ :: _ :: _ :: _ :: _ :: _ :: _ :: _ :: _ :: _ :: _ :: _ :: _ :: _ :: _ :: _ :: _ :: _ :: _ :: _ :: _ :: _ :: _ :: _ :: _ :: _ :: _ :: _ :: _ :: _ :: _ :: _ :: _ :: _ :: _ :: _ :: []), defers := [] } _
  refine dr_take 6 (.pointer (some ⟨p, 0, none⟩)) rfl rfl (by kernel_rfl) (by kernel_rfl) (by kernel_rfl) (fun _ _ _ h => h) (fun _ _ => by unfold execOp; go_simp) HSX.out ?_
  change wpAnyH _ _ _ _ _ _ _ { tmps := List.toArray (_ :: _ :: _ :: _ :: _ :: _ :: _ :: _ :: _ :: _ :: _ :: _ :: _ :: _ :: _ :: _ :: _ :: _ :: _ :: _ :: _ :: _ :: _ :: _ :: _ :: _ :: _ :: _ :: _ :: _ :: _ :: _ :: _ :: _ :: _ :: _ :: _ :: _ :: _ :: _ :: _ :: _ :: _ :: _ :: _ :: _ :: _ :: _ :: _ :: _ :: _ :: _ :: _ :: _ :: _ :: _ :: []), defers := [] } _
  refine dr_take 7 (.pointer (some ⟨p, 2, none⟩)) rfl rfl (by kernel_rfl) (by kernel_rfl) (by kernel_rfl) (fun _ _ _ h => h) (fun _ _ => by unfold execOp; go_simp) HSX.out ?_
  change wpAnyH _ _ _ _ _ _ _ { tmps := List.toArray (_ :: _ :: _ :: _ :: _ :: _ :: _ :: _ :: _ :: _ :: _ :: _ :: _ :: _ :: _ :: _ :: _ :: _ :: _ :: _ :: _ :: _ :: _ :: _ :: _ :: _ :: _ :: _ :: _ :: _ :: _ :: _ :: _ :: _ :: _ :: _ :: _ :: _ :: _ :: _ :: _ :: _ :: _ :: _ :: _ :: _ :: _ :: _ :: _ :: _ :: _ :: _ :: _ :: _ :: _ :: _ :: []), defers := [] } _
  refine dr_take 8 (.agg #[.slice a1 n1 c1, .int .i64 sz]) rfl rfl (by kernel_rfl) (by kernel_rfl) (by kernel_rfl) (fun _ _ _ h => h) (fun V h => by have h0 := h.1.1.1.1; have h1 := h.1.1.1.2; clear h; unfold execOp; go_simp) HSX.out ?_
  change wpAnyH _ _ _ _ _ _ _ { tmps := List.toArray (_ :: _ :: _ :: _ :: _ :: _ :: _ :: _ :: _ :: _ :: _ :: _ :: _ :: _ :: _ :: _ :: _ :: _ :: _ :: _ :: _ :: _ :: _ :: _ :: _ :: _ :: _ :: _ :: _ :: _ :: _ :: _ :: _ :: _ :: _ :: _ :: _ :: _ :: _ :: _ :: _ :: _ :: _ :: _ :: _ :: _ :: _ :: _ :: _ :: _ :: _ :: _ :: _ :: _ :: _ :: _ :: []), defers := [] } _
  refine dr_take 9 (.pointer (some ⟨w.heap.size, 5, none⟩)) rfl rfl (by kernel_rfl) (by kernel_rfl) (by kernel_rfl) (fun _ _ _ h => h) (fun _ _ => by unfold execOp; go_simp) HSX.out ?_
  change wpAnyH _ _ _ _ _ _ _ { tmps := List.toArray (_ :: _ :: _ :: _ :: _ :: _ :: _ :: _ :: _ :: _ :: _ :: _ :: _ :: _ :: _ :: _ :: _ :: _ :: _ :: _ :: _ :: _ :: _ :: _ :: _ :: _ :: _ :: _ :: _ :: _ :: _ :: _ :: _ :: _ :: _ :: _ :: _ :: _ :: _ :: _ :: _ :: _ :: _ :: _ :: _ :: _ :: _ :: _ :: _ :: _ :: _ :: _ :: _ :: _ :: _ :: _ :: []), defers := [] } _
  refine dr_take 10 (.int .i64 (an : Int)) rfl rfl (by kernel_rfl) (by kernel_rfl) (by kernel_rfl) (fun _ _ _ h => h) (fun V h => by have h0 := h.1.1.2; clear h; unfold execOp; go_simp) HSX.out ?_
  change wpAnyH _ _ _ _ _ _ _ { tmps := List.toArray (_ :: _ :: _ :: _ :: _ :: _ :: _ :: _ :: _ :: _ :: _ :: _ :: _ :: _ :: _ :: _ :: _ :: _ :: _ :: _ :: _ :: _ :: _ :: _ :: _ :: _ :: _ :: _ :: _ :: _ :: _ :: _ :: _ :: _ :: _ :: _ :: _ :: _ :: _ :: _ :: _ :: _ :: _ :: _ :: _ :: _ :: _ :: _ :: _ :: _ :: _ :: _ :: _ :: _ :: _ :: _ :: []), defers := [] } _
  refine dr_take 12 (.pointer (some ⟨g, o, none⟩)) rfl rfl (by kernel_rfl) (by kernel_rfl) (by kernel_rfl) (fun _ _ _ h => h) (fun _ _ => by unfold execOp; go_simp) HSX.out ?_
  change wpAnyH _ _ _ _ _ _ _ { tmps := List.toArray (_ :: _ :: _ :: _ :: _ :: _ :: _ :: _ :: _ :: _ :: _ :: _ :: _ :: _ :: _ :: _ :: _ :: _ :: _ :: _ :: _ :: _ :: _ :: _ :: _ :: _ :: _ :: _ :: _ :: _ :: _ :: _ :: _ :: _ :: _ :: _ :: _ :: _ :: _ :: _ :: _ :: _ :: _ :: _ :: _ :: _ :: _ :: _ :: _ :: _ :: _ :: _ :: _ :: _ :: _ :: _ :: []), defers := [] } _
  refine dr_take 13 (.pointer (some ⟨w.heap.size, 2, none⟩)) rfl rfl (by kernel_rfl) (by kernel_rfl) (by kernel_rfl) (fun _ _ _ h => h) (fun _ _ => by unfold execOp; go_simp) HSX.out ?_
  change wpAnyH _ _ _ _ _ _ _ { tmps := List.toArray (_ :: _ :: _ :: _ :: _ :: _ :: _ :: _ :: _ :: _ :: _ :: _ :: _ :: _ :: _ :: _ :: _ :: _ :: _ :: _ :: _ :: _ :: _ :: _ :: _ :: _ :: _ :: _ :: _ :: _ :: _ :: _ :: _ :: _ :: _ :: _ :: _ :: _ :: _ :: _ :: _ :: _ :: _ :: _ :: _ :: _ :: _ :: _ :: _ :: _ :: _ :: _ :: _ :: _ :: _ :: _ :: []), defers := [] } _
  refine dr_take 14 (.int .i64 (dn : Int)) rfl rfl (by kernel_rfl) (by kernel_rfl) (by kernel_rfl) (fun _ _ _ h => h) (fun V h => by have h0 := h.1.2; clear h; unfold execOp; go_simp) HSX.out ?_
  change wpAnyH _ _ _ _ _ _ _ { tmps := List.toArray (_ :: _ :: _ :: _ :: _ :: _ :: _ :: _ :: _ :: _ :: _ :: _ :: _ :: _ :: _ :: _ :: _ :: _ :: _ :: _ :: _ :: _ :: _ :: _ :: _ :: _ :: _ :: _ :: _ :: _ :: _ :: _ :: _ :: _ :: _ :: _ :: _ :: _ :: _ :: _ :: _ :: _ :: _ :: _ :: _ :: _ :: _ :: _ :: _ :: _ :: _ :: _ :: _ :: _ :: _ :: _ :: []), defers := [] } _
  refine dr_take 15 (.pointer (some ⟨g, o, none⟩)) rfl rfl (by kernel_rfl) (by kernel_rfl) (by kernel_rfl) (fun _ _ _ h => h) (fun _ _ => by unfold execOp; go_simp) HSX.out ?_
  change wpAnyH _ _ _ _ _ _ _ { tmps := List.toArray (_ :: _ :: _ :: _ :: _ :: _ :: _ :: _ :: _ :: _ :: _ :: _ :: _ :: _ :: _ :: _ :: _ :: _ :: _ :: _ :: _ :: _ :: _ :: _ :: _ :: _ :: _ :: _ :: _ :: _ :: _ :: _ :: _ :: _ :: _ :: _ :: _ :: _ :: _ :: _ :: _ :: _ :: _ :: _ :: _ :: _ :: _ :: _ :: _ :: _ :: _ :: _ :: _ :: _ :: _ :: _ :: []), defers := [] } _
  refine dr_take 16 (.pointer (some ⟨g, o, none⟩)) rfl rfl (by kernel_rfl) (by kernel_rfl) (by kernel_rfl) (fun _ _ _ h => h) (fun _ _ => by unfold execOp; go_simp) HSX.out ?_
  change wpAnyH _ _ _ _ _ _ _ { tmps := List.toArray (_ :: _ :: _ :: _ :: _ :: _ :: _ :: _ :: _ :: _ :: _ :: _ :: _ :: _ :: _ :: _ :: _ :: _ :: _ :: _ :: _ :: _ :: _ :: _ :: _ :: _ :: _ :: _ :: _ :: _ :: _ :: _ :: _ :: _ :: _ :: _ :: _ :: _ :: _ :: _ :: _ :: _ :: _ :: _ :: _ :: _ :: _ :: _ :: _ :: _ :: _ :: _ :: _ :: _ :: _ :: _ :: []), defers := [] } _
  refine dr_take 17 (.pointer (some ⟨g, o + 2, none⟩)) rfl rfl (by kernel_rfl) (by kernel_rfl) (by kernel_rfl) (fun _ _ _ h => h) (fun _ _ => by unfold execOp; go_simp) HSX.out ?_
  change wpAnyH _ _ _ _ _ _ _ { tmps := List.toArray (_ :: _ :: _ :: _ :: _ :: _ :: _ :: _ :: _ :: _ :: _ :: _ :: _ :: _ :: _ :: _ :: _ :: _ :: _ :: _ :: _ :: _ :: _ :: _ :: _ :: _ :: _ :: _ :: _ :: _ :: _ :: _ :: _ :: _ :: _ :: _ :: _ :: _ :: _ :: _ :: _ :: _ :: _ :: _ :: _ :: _ :: _ :: _ :: _ :: _ :: _ :: _ :: _ :: _ :: _ :: _ :: []), defers := [] } _
  refine dr_take 18 (.pointer (some ⟨g, o + 2 + dn, none⟩)) rfl rfl (by kernel_rfl) (by kernel_rfl) (by kernel_rfl) (fun _ _ _ h => h) (fun _ _ => by have h16 := HD16.out; unfold execOp; go_simp) HSX.out ?_
  change wpAnyH _ _ _ _ _ _ _ { tmps := List.toArray (_ :: _ :: _ :: _ :: _ :: _ :: _ :: _ :: _ :: _ :: _ :: _ :: _ :: _ :: _ :: _ :: _ :: _ :: _ :: _ :: _ :: _ :: _ :: _ :: _ :: _ :: _ :: _ :: _ :: _ :: _ :: _ :: _ :: _ :: _ :: _ :: _ :: _ :: _ :: _ :: _ :: _ :: _ :: _ :: _ :: _ :: _ :: _ :: _ :: _ :: _ :: _ :: _ :: _ :: _ :: _ :: []), defers := [] } _
  refine dr_take 19 (.int .i64 x) rfl rfl (by kernel_rfl) (by kernel_rfl) (by kernel_rfl) (fun _ _ _ h => h) (fun V h => by have h0 := h.2; clear h; unfold execOp; go_simp) HSX.out ?_
  change wpAnyH _ _ _ _ _ _ _ { tmps := List.toArray (_ :: _ :: _ :: _ :: _ :: _ :: _ :: _ :: _ :: _ :: _ :: _ :: _ :: _ :: _ :: _ :: _ :: _ :: _ :: _ :: _ :: _ :: _ :: _ :: _ :: _ :: _ :: _ :: _ :: _ :: _ :: _ :: _ :: _ :: _ :: _ :: _ :: _ :: _ :: _ :: _ :: _ :: _ :: _ :: _ :: _ :: _ :: _ :: _ :: _ :: _ :: _ :: _ :: _ :: _ :: _ :: []), defers := [] } _
  refine dr_one 11 rfl rfl (by kernel_rfl) ?_
  refine wp_callT (vs := #[.agg #[.slice a1 n1 c1, .int .i64 sz], .int .i64 (an : Int)]) rfl rfl (enters_of Tryd.func88 (by kernel_rfl) rfl) (by simp [Act.eval]) (p_at (HH.out.keep HS2.out.kp).pg sz HH.out.ml HAN.out) ?_
  rintro e W3 ⟨rfl, hb6⟩
  have HS3 := Lib.hid (HS2.out.below hb6)
  have HSY := Lib.hid (HSA.out _ _ HS3.out)
  clear hb6 HSX HS2
  refine ⟨HSY.out, ?_⟩
  change wpAnyH _ _ _ _ _ _ _ { tmps := List.toArray (_ :: _ :: _ :: _ :: _ :: _ :: _ :: _ :: _ :: _ :: _ :: _ :: _ :: _ :: _ :: _ :: _ :: _ :: _ :: _ :: _ :: _ :: _ :: _ :: _ :: _ :: _ :: _ :: _ :: _ :: _ :: _ :: _ :: _ :: _ :: _ :: _ :: _ :: _ :: _ :: _ :: _ :: _ :: _ :: _ :: _ :: _ :: _ :: _ :: _ :: _ :: _ :: _ :: _ :: _ :: _ :: []), defers := [] } _
  refine dr_one 20 rfl rfl (by kernel_rfl) ?_
  refine wv_val (w' := W3) (v := .pointer (some ⟨b, 0, none⟩)) (by unfold execOp; go_simp) ⟨HSY.out, ?_⟩
  change wpAnyH _ _ _ _ _ _ _ { tmps := List.toArray (_ :: _ :: _ :: _ :: _ :: _ :: _ :: _ :: _ :: _ :: _ :: _ :: _ :: _ :: _ :: _ :: _ :: _ :: _ :: _ :: _ :: _ :: _ :: _ :: _ :: _ :: _ :: _ :: _ :: _ :: _ :: _ :: _ :: _ :: _ :: _ :: _ :: _ :: _ :: _ :: _ :: _ :: _ :: _ :: _ :: _ :: _ :: _ :: _ :: _ :: _ :: _ :: _ :: _ :: _ :: _ :: []), defers := [] } _
  refine dr_one 21 rfl rfl (by kernel_rfl) ?_
  refine wv_val (w' := W3) (v := .pointer (some ⟨b, 3, none⟩)) (by unfold execOp; go_simp) ⟨HSY.out, ?_⟩
  change wpAnyH _ _ _ _ _ _ _ { tmps := List.toArray (_ :: _ :: _ :: _ :: _ :: _ :: _ :: _ :: _ :: _ :: _ :: _ :: _ :: _ :: _ :: _ :: _ :: _ :: _ :: _ :: _ :: _ :: _ :: _ :: _ :: _ :: _ :: _ :: _ :: _ :: _ :: _ :: _ :: _ :: _ :: _ :: _ :: _ :: _ :: _ :: _ :: _ :: _ :: _ :: _ :: _ :: _ :: _ :: _ :: _ :: _ :: _ :: _ :: _ :: _ :: _ :: []), defers := [] } _
  refine dr_one 22 rfl rfl (by kernel_rfl) ?_
  have HS4 := Lib.hid (HS3.out.set HSZ.out 3 (.int .i64 (an : Int)))
  have HSY4 := Lib.hid (HSA.out _ _ HS4.out)
  refine wp_stn rfl rfl rfl (row_cellsO HS3.out.did 3 (.int .i64 q3) rfl) (own_frozen HS3.out.did 3) ⟨HSY4.out, ?_⟩
  clear HS3 HSY
  generalize W3.setCell ⟨b, 3, none⟩ (.int .i64 (an : Int)) = W4 at HS4 HSY4 ⊢
  change wpAnyH _ _ _ _ _ _ _ { tmps := List.toArray (_ :: _ :: _ :: _ :: _ :: _ :: _ :: _ :: _ :: _ :: _ :: _ :: _ :: _ :: _ :: _ :: _ :: _ :: _ :: _ :: _ :: _ :: _ :: _ :: _ :: _ :: _ :: _ :: _ :: _ :: _ :: _ :: _ :: _ :: _ :: _ :: _ :: _ :: _ :: _ :: _ :: _ :: _ :: _ :: _ :: _ :: _ :: _ :: _ :: _ :: _ :: _ :: _ :: _ :: _ :: _ :: []), defers := [] } _
  refine dr_one 23 rfl rfl (by kernel_rfl) ?_
  refine wv_val (w' := W4) (v := .pointer (some ⟨b, 0, none⟩)) (by unfold execOp; go_simp) ⟨HSY4.out, ?_⟩
  change wpAnyH _ _ _ _ _ _ _ { tmps := List.toArray (_ :: _ :: _ :: _ :: _ :: _ :: _ :: _ :: _ :: _ :: _ :: _ :: _ :: _ :: _ :: _ :: _ :: _ :: _ :: _ :: _ :: _ :: _ :: _ :: _ :: _ :: _ :: _ :: _ :: _ :: _ :: _ :: _ :: _ :: _ :: _ :: _ :: _ :: _ :: _ :: _ :: _ :: _ :: _ :: _ :: _ :: _ :: _ :: _ :: _ :: _ :: _ :: _ :: _ :: _ :: _ :: []), defers := [] } _
  refine dr_one 24 rfl rfl (by kernel_rfl) ?_
  refine wv_val (w' := W4) (v := .pointer (some ⟨b, 4, none⟩)) (by unfold execOp; go_simp) ⟨HSY4.out, ?_⟩
  change wpAnyH _ _ _ _ _ _ _ { tmps := List.toArray (_ :: _ :: _ :: _ :: _ :: _ :: _ :: _ :: _ :: _ :: _ :: _ :: _ :: _ :: _ :: _ :: _ :: _ :: _ :: _ :: _ :: _ :: _ :: _ :: _ :: _ :: _ :: _ :: _ :: _ :: _ :: _ :: _ :: _ :: _ :: _ :: _ :: _ :: _ :: _ :: _ :: _ :: _ :: _ :: _ :: _ :: _ :: _ :: _ :: _ :: _ :: _ :: _ :: _ :: _ :: _ :: []), defers := [] } _
  refine dr_one 25 rfl rfl (by kernel_rfl) ?_
  have HS5 := Lib.hid (HS4.out.set HSZ.out 4 (.int .i64 (rget mem (an : Int))))
  have HSY5 := Lib.hid (HSA.out _ _ HS5.out)
  refine wp_stI rfl rfl rfl (row_cellsO HS4.out.did 4 (.int .i64 q4) rfl) (own_frozen HS4.out.did 4) ⟨HSY5.out, ?_⟩
  clear HS4 HSY4
  generalize W4.setCell ⟨b, 4, none⟩ (.int .i64 (rget mem (an : Int))) = W5 at HS5 HSY5 ⊢
  change wpAnyH _ _ _ _ _ _ _ { tmps := List.toArray (_ :: _ :: _ :: _ :: _ :: _ :: _ :: _ :: _ :: _ :: _ :: _ :: _ :: _ :: _ :: _ :: _ :: _ :: _ :: _ :: _ :: _ :: _ :: _ :: _ :: _ :: _ :: _ :: _ :: _ :: _ :: _ :: _ :: _ :: _ :: _ :: _ :: _ :: _ :: _ :: _ :: _ :: _ :: _ :: _ :: _ :: _ :: _ :: _ :: _ :: _ :: _ :: _ :: _ :: _ :: _ :: []), defers := [] } _
  refine dr_one 26 rfl rfl (by kernel_rfl) ?_
  refine wv_val (w' := W5) (v := .pointer (some ⟨b, 0, none⟩)) (by unfold execOp; go_simp) ⟨HSY5.out, ?_⟩
  change wpAnyH _ _ _ _ _ _ _ { tmps := List.toArray (_ :: _ :: _ :: _ :: _ :: _ :: _ :: _ :: _ :: _ :: _ :: _ :: _ :: _ :: _ :: _ :: _ :: _ :: _ :: _ :: _ :: _ :: _ :: _ :: _ :: _ :: _ :: _ :: _ :: _ :: _ :: _ :: _ :: _ :: _ :: _ :: _ :: _ :: _ :: _ :: _ :: _ :: _ :: _ :: _ :: _ :: _ :: _ :: _ :: _ :: _ :: _ :: _ :: _ :: _ :: _ :: []), defers := [] } _
  refine dr_one 27 rfl rfl (by kernel_rfl) ?_
  refine wv_val (w' := W5) (v := .pointer (some ⟨b, 5, none⟩)) (by unfold execOp; go_simp) ⟨HSY5.out, ?_⟩
  change wpAnyH _ _ _ _ _ _ _ { tmps := List.toArray (_ :: _ :: _ :: _ :: _ :: _ :: _ :: _ :: _ :: _ :: _ :: _ :: _ :: _ :: _ :: _ :: _ :: _ :: _ :: _ :: _ :: _ :: _ :: _ :: _ :: _ :: _ :: _ :: _ :: _ :: _ :: _ :: _ :: _ :: _ :: _ :: _ :: _ :: _ :: _ :: _ :: _ :: _ :: _ :: _ :: _ :: _ :: _ :: _ :: _ :: _ :: _ :: _ :: _ :: _ :: _ :: []), defers := [] } _
  refine dr_one 28 rfl rfl (by kernel_rfl) ?_
  have HS6 := Lib.hid (HS5.out.set HSZ.out 5 (.int .i64 x))
  have HSY6 := Lib.hid (HSA.out _ _ HS6.out)
  refine wp_stI rfl rfl rfl (row_cellsO HS5.out.did 5 (.int .i64 q5) rfl) (own_frozen HS5.out.did 5) ⟨HSY6.out, ?_⟩
  clear HS5 HSY5
  generalize W5.setCell ⟨b, 5, none⟩ (.int .i64 x) = W6 at HS6 HSY6 ⊢
  refine wpAnyH_done (by kernel_rfl) ?_ _
  clear HSY6
  go_upto_region 2 with fail
  obtain ⟨c1', f1⟩ := (HH.out.keep HS6.out.kp).co.reg_at (j := dn) (by have := HD16.out; omega)
  have dw : Below W6.heap.size W6 W6.drew := below_drewN (Below.refl _ W6) 1
  have hgw : g < W6.heap.size := lt_of_at c1'
  have HE := Lib.hid (HS6.out.below dw)
  have p2 : W6.cell? ⟨w.heap.size, 2, none⟩ = some (.int .i64 (dn : Int)) := row_cellsO HS6.out.ins 2 _ rfl
  have d4 : W6.cell? ⟨b, 4, none⟩ = some (.int .i64 (rget mem (an : Int))) := row_cellsO HS6.out.did 4 _ rfl
  have c2 : W6.drew.cell? ⟨g, o + 2 + dn, none⟩ = some (.int .i64 (rget c.regs dn)) := (dw.cell (p := ⟨g, o + 2 + dn, none⟩) hgw).trans c1'
  have f2 : W6.drew.frozen? ⟨g, o + 2 + dn, none⟩ = false := frozen_below dw hgw f1
  have h16 := HD16.out
  clear c1' f1 dw hgw HS6
  go_still_tail 11, (by kernel_rfl)
  change wpList _ _ _ _ _ W6.drew
  clear p2 d4
  generalize W6.drew = W7 at c2 f2 HE ⊢
  go_upto_region 3 with fail
  clear c2 f2
  have HSG : Hid (g < W7.heap.size) := Nat.lt_of_lt_of_le HGW.out HE.out.kp.size
  have HKG : Hid (KeepB g W7 (W7.setCell ⟨g, o + 2 + dn, none⟩ (.int .i64 (rget mem (an : Int))))) := keepB_set (Keep.refl _ _) HSG.out
  have HBE : Hid (Below W7.heap.size (W7.setCell ⟨g, o + 2 + dn, none⟩ (.int .i64 (rget mem (an : Int)))) (W7.setCell ⟨g, o + 2 + dn, none⟩ (.int .i64 (rget mem (an : Int)))).drew) := by
    exact below_drewN (Below.refl W7.heap.size (W7.setCell ⟨g, o + 2 + dn, none⟩ (.int .i64 (rget mem (an : Int))))) 1
  have HKG2 : Hid (KeepB g W7 (W7.setCell ⟨g, o + 2 + dn, none⟩ (.int .i64 (rget mem (an : Int)))).drew) := HKG.out.drewN 1
  have hp8 := (HH.out.keep HE.out.kp).mch.keepB HKG2.out HNG.out.1
  have HPG : Hid (PgA (W7.setCell ⟨g, o + 2 + dn, none⟩ (.int .i64 (rget mem (an : Int)))).drew mem (.slice a1 n1 c1) PL) := (HH.out.keep HE.out.kp).pg.keepB HKG2.out HNG.out.2.1 HNG.out.2.2
  have hi8 := HE.out.ins.keepB HKG2.out (by have := HGW.out; omega)
  have hd8 := HE.out.did.keepB HKG2.out (Ne.symm HH.out.gb)
  have HSX : Hid (((( W7.setCell ⟨g, o + 2 + dn, none⟩ (.int .i64 (rget mem (an : Int)))).drew.cell? ⟨p, 2, none⟩ = some (.slice a1 n1 c1) ∧ (W7.setCell ⟨g, o + 2 + dn, none⟩ (.int .i64 (rget mem (an : Int)))).drew.cell? ⟨p, 3, none⟩ = some (.int .i64 sz)) ∧ (W7.setCell ⟨g, o + 2 + dn, none⟩ (.int .i64 (rget mem (an : Int)))).drew.cell? ⟨w.heap.size, 5, none⟩ = some (.int .i64 (an : Int))) ∧ (W7.setCell ⟨g, o + 2 + dn, none⟩ (.int .i64 (rget mem (an : Int)))).drew.cell? ⟨b, 5, none⟩ = some (.int .i64 x)) := ⟨⟨⟨row_cellsO hp8 2 _ HH.out.m2, row_cellsO hp8 3 _ HH.out.m3⟩, row_cellsO hi8 5 _ rfl⟩, row_cellsO hd8 5 _ rfl⟩
  have HP8 := Lib.hid hp8
  have HI8 := Lib.hid hi8
  have HD8 := Lib.hid hd8
  clear hp8 hi8 hd8 HKG HKG2
  refine wp_region_held (S := fun V => ((V.cell? ⟨p, 2, none⟩ = some (.slice a1 n1 c1) ∧ V.cell? ⟨p, 3, none⟩ = some (.int .i64 sz)) ∧ V.cell? ⟨w.heap.size, 5, none⟩ = some (.int .i64 (an : Int))) ∧ V.cell? ⟨b, 5, none⟩ = some (.int .i64 x)) (by kernel_rfl) ?_
  change wpAnyH _ _ _ _ _ _ _ _ (W7.setCell ⟨g, o + 2 + dn, none⟩ (.int .i64 (rget mem (an : Int)))).drew
  generalize (W7.setCell ⟨g, o + 2 + dn, none⟩ (.int .i64 (rget mem (an : Int)))).drew = W8 at HSX HBE HPG HP8 HI8 HD8 ⊢
  change wpAnyH _ _ _ _ _ _ _ { tmps := List.toArray (_ :: _ :: _ :: _ :: _ :: _ :: _ :: _ :: _ :: _ :: _ :: _ :: _ :: _ :: _ :: _ :: _ :: _ :: _ :: _ :: _ :: _ :: _ :: _ :: _ :: _ :: _ :: _ :: _ :: _ :: _ :: _ :: _ :: _ :: _ :: _ :: _ :: _ :: _ :: _ :: _ :: _ :: _ :: _ :: _ :: _ :: _ :: _ :: _ :: _ :: _ :: _ :: _ :: _ :: _ :: _ :: []), defers := [] } _
  refine dr_take 0 (.pointer (some ⟨p, 0, none⟩)) rfl rfl (by kernel_rfl) (by kernel_rfl) (by kernel_rfl) (fun _ _ _ h => h) (fun _ _ => by unfold execOp; go_simp) HSX.out ?_
  change wpAnyH _ _ _ _ _ _ _ { tmps := List.toArray (_ :: _ :: _ :: _ :: _ :: _ :: _ :: _ :: _ :: _ :: _ :: _ :: _ :: _ :: _ :: _ :: _ :: _ :: _ :: _ :: _ :: _ :: _ :: _ :: _ :: _ :: _ :: _ :: _ :: _ :: _ :: _ :: _ :: _ :: _ :: _ :: _ :: _ :: _ :: _ :: _ :: _ :: _ :: _ :: _ :: _ :: _ :: _ :: _ :: _ :: _ :: _ :: _ :: _ :: _ :: _ :: []), defers := [] } _
  refine dr_take 1 (.pointer (some ⟨p, 0, none⟩)) rfl rfl (by kernel_rfl) (by kernel_rfl) (by kernel_rfl) (fun _ _ _ h => h) (fun _ _ => by unfold execOp; go_simp) HSX.out ?_
  change wpAnyH _ _ _ _ _ _ _ { tmps := List.toArray (_ :: _ :: _ :: _ :: _ :: _ :: _ :: _ :: _ :: _ :: _ :: _ :: _ :: _ :: _ :: _ :: _ :: _ :: _ :: _ :: _ :: _ :: _ :: _ :: _ :: _ :: _ :: _ :: _ :: _ :: _ :: _ :: _ :: _ :: _ :: _ :: _ :: _ :: _ :: _ :: _ :: _ :: _ :: _ :: _ :: _ :: _ :: _ :: _ :: _ :: _ :: _ :: _ :: _ :: _ :: _ :: []), defers := [] } _
  refine dr_take 2 (.pointer (some ⟨p, 2, none⟩)) rfl rfl (by kernel_rfl) (by kernel_rfl) (by kernel_rfl) (fun _ _ _ h => h) (fun _ _ => by unfold execOp; go_simp) HSX.out ?_
  change wpAnyH _ _ _ _ _ _ _ { tmps := List.toArray (_ :: _ :: _ :: _ :: _ :: _ :: _ :: _ :: _ :: _ :: _ :: _ :: _ :: _ :: _ :: _ :: _ :: _ :: _ :: _ :: _ :: _ :: _ :: _ :: _ :: _ :: _ :: _ :: _ :: _ :: _ :: _ :: _ :: _ :: _ :: _ :: _ :: _ :: _ :: _ :: _ :: _ :: _ :: _ :: _ :: _ :: _ :: _ :: _ :: _ :: _ :: _ :: _ :: _ :: _ :: _ :: []), defers := [] } _
  refine dr_take 3 (.agg #[.slice a1 n1 c1, .int .i64 sz]) rfl rfl (by kernel_rfl) (by kernel_rfl) (by kernel_rfl) (fun _ _ _ h => h) (fun V h => by have h0 := h.1.1.1; have h1 := h.1.1.2; clear h; unfold execOp; go_simp) HSX.out ?_
  change wpAnyH _ _ _ _ _ _ _ { tmps := List.toArray (_ :: _ :: _ :: _ :: _ :: _ :: _ :: _ :: _ :: _ :: _ :: _ :: _ :: _ :: _ :: _ :: _ :: _ :: _ :: _ :: _ :: _ :: _ :: _ :: _ :: _ :: _ :: _ :: _ :: _ :: _ :: _ :: _ :: _ :: _ :: _ :: _ :: _ :: _ :: _ :: _ :: _ :: _ :: _ :: _ :: _ :: _ :: _ :: _ :: _ :: _ :: _ :: _ :: _ :: _ :: _ :: []), defers := [] } _
  refine dr_take 4 (.pointer (some ⟨w.heap.size, 5, none⟩)) rfl rfl (by kernel_rfl) (by kernel_rfl) (by kernel_rfl) (fun _ _ _ h => h) (fun _ _ => by unfold execOp; go_simp) HSX.out ?_
  change wpAnyH _ _ _ _ _ _ _ { tmps := List.toArray (_ :: _ :: _ :: _ :: _ :: _ :: _ :: _ :: _ :: _ :: _ :: _ :: _ :: _ :: _ :: _ :: _ :: _ :: _ :: _ :: _ :: _ :: _ :: _ :: _ :: _ :: _ :: _ :: _ :: _ :: _ :: _ :: _ :: _ :: _ :: _ :: _ :: _ :: _ :: _ :: _ :: _ :: _ :: _ :: _ :: _ :: _ :: _ :: _ :: _ :: _ :: _ :: _ :: _ :: _ :: _ :: []), defers := [] } _
  refine dr_take 5 (.int .i64 (an : Int)) rfl rfl (by kernel_rfl) (by kernel_rfl) (by kernel_rfl) (fun _ _ _ h => h) (fun V h => by have h0 := h.1.2; clear h; unfold execOp; go_simp) HSX.out ?_
  change wpAnyH _ _ _ _ _ _ _ { tmps := List.toArray (_ :: _ :: _ :: _ :: _ :: _ :: _ :: _ :: _ :: _ :: _ :: _ :: _ :: _ :: _ :: _ :: _ :: _ :: _ :: _ :: _ :: _ :: _ :: _ :: _ :: _ :: _ :: _ :: _ :: _ :: _ :: _ :: _ :: _ :: _ :: _ :: _ :: _ :: _ :: _ :: _ :: _ :: _ :: _ :: _ :: _ :: _ :: _ :: _ :: _ :: _ :: _ :: _ :: _ :: _ :: _ :: []), defers := [] } _
  refine dr_take 6 (.pointer (some ⟨b, 0, none⟩)) rfl rfl (by kernel_rfl) (by kernel_rfl) (by kernel_rfl) (fun _ _ _ h => h) (fun _ _ => by unfold execOp; go_simp) HSX.out ?_
  change wpAnyH _ _ _ _ _ _ _ { tmps := List.toArray (_ :: _ :: _ :: _ :: _ :: _ :: _ :: _ :: _ :: _ :: _ :: _ :: _ :: _ :: _ :: _ :: _ :: _ :: _ :: _ :: _ :: _ :: _ :: _ :: _ :: _ :: _ :: _ :: _ :: _ :: _ :: _ :: _ :: _ :: _ :: _ :: _ :: _ :: _ :: _ :: _ :: _ :: _ :: _ :: _ :: _ :: _ :: _ :: _ :: _ :: _ :: _ :: _ :: _ :: _ :: _ :: []), defers := [] } _
  refine dr_take 7 (.pointer (some ⟨b, 0, none⟩)) rfl rfl (by kernel_rfl) (by kernel_rfl) (by kernel_rfl) (fun _ _ _ h => h) (fun _ _ => by unfold execOp; go_simp) HSX.out ?_
  change wpAnyH _ _ _ _ _ _ _ { tmps := List.toArray (_ :: _ :: _ :: _ :: _ :: _ :: _ :: _ :: _ :: _ :: _ :: _ :: _ :: _ :: _ :: _ :: _ :: _ :: _ :: _ :: _ :: _ :: _ :: _ :: _ :: _ :: _ :: _ :: _ :: _ :: _ :: _ :: _ :: _ :: _ :: _ :: _ :: _ :: _ :: _ :: _ :: _ :: _ :: _ :: _ :: _ :: _ :: _ :: _ :: _ :: _ :: _ :: _ :: _ :: _ :: _ :: []), defers := [] } _
  refine dr_take 8 (.pointer (some ⟨b, 5, none⟩)) rfl rfl (by kernel_rfl) (by kernel_rfl) (by kernel_rfl) (fun _ _ _ h => h) (fun _ _ => by unfold execOp; go_simp) HSX.out ?_
  change wpAnyH _ _ _ _ _ _ _ { tmps := List.toArray (_ :: _ :: _ :: _ :: _ :: _ :: _ :: _ :: _ :: _ :: _ :: _ :: _ :: _ :: _ :: _ :: _ :: _ :: _ :: _ :: _ :: _ :: _ :: _ :: _ :: _ :: _ :: _ :: _ :: _ :: _ :: _ :: _ :: _ :: _ :: _ :: _ :: _ :: _ :: _ :: _ :: _ :: _ :: _ :: _ :: _ :: _ :: _ :: _ :: _ :: _ :: _ :: _ :: _ :: _ :: _ :: []), defers := [] } _
  refine dr_take 9 (.int .i64 x) rfl rfl (by kernel_rfl) (by kernel_rfl) (by kernel_rfl) (fun _ _ _ h => h) (fun V h => by have h0 := h.2; clear h; unfold execOp; go_simp) HSX.out ?_
  change wpAnyH _ _ _ _ _ _ _ { tmps := List.toArray (_ :: _ :: _ :: _ :: _ :: _ :: _ :: _ :: _ :: _ :: _ :: _ :: _ :: _ :: _ :: _ :: _ :: _ :: _ :: _ :: _ :: _ :: _ :: _ :: _ :: _ :: _ :: _ :: _ :: _ :: _ :: _ :: _ :: _ :: _ :: _ :: _ :: _ :: _ :: _ :: _ :: _ :: _ :: _ :: _ :: _ :: _ :: _ :: _ :: _ :: _ :: _ :: _ :: _ :: _ :: _ :: []), defers := [] } _
  refine dr_one 10 rfl rfl (by kernel_rfl) ?_
  refine wp_callT (vs := #[.agg #[.slice a1 n1 c1, .int .i64 sz], .int .i64 (an : Int), .int .i64 x]) rfl rfl (enters_of Tryd.func44 (by kernel_rfl) rfl) (by simp [Act.eval]) (p_put HPG.out sz HH.out.ml HAN.out x) ?_
  rintro e W9 ⟨rfl, gp, g2, hgp, hg2, hb9, hpg9⟩
  obtain ⟨cur, hcur⟩ := row_cur HPG.out.pgs (g := gp) (c := c1) (by
    obtain ⟨_, _, e2, _⟩ := row_at HPG.out.pgs (by have h1 := HPG.out.pgn; have h2 := HAN.out; omega)
    injection e2 with _ e2
    rw [hgp, e2])
  have st : ∀ {k : Nat} {T : TypeId} {r : Array Value}, Own W8 k T r → (T == 136) = false → Own W9 k T r := fun h1 ht => (hb9.block _ h1.lt).trans ((Below.heap_setCell W8 _ _ _ (own_unlike h1 hcur ht)).trans h1)
  have hp9 := st HP8.out (by decide)
  have hi9 := st HI8.out (by decide)
  have hd9 := st HD8.out (by decide)
  refine ⟨⟨⟨⟨row_cellsO hp9 2 _ HH.out.m2, row_cellsO hp9 3 _ HH.out.m3⟩, row_cellsO hi9 5 _ rfl⟩, row_cellsO hd9 5 _ rfl⟩, ?_⟩
  refine wpAnyH_done (by kernel_rfl) ?_ _
  clear hp9 hi9 hd9 hcur st HSX HP8 HI8 HD8
  try go_wp2_with fail
  exact bodyPost_end (results_none rfl _ _ _) rfl ⟨rfl, W7, W8, HE.out.kp, HE.out.did, HBE.out, gp, g2, hgp, hg2, hb9, hpg9⟩
end Go.Proofs.YtmpljhfinmfnbaaDoor

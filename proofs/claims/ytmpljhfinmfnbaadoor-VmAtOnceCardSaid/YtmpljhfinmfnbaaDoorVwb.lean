/- A core reckons. -/
import Derived.Test.YtmpljhfinmfnbaaDoorVwa
import Derived.Test.YtmpljhfinmfnbaaDoorVdo
namespace Go.Proofs.YtmpljhfinmfnbaaDoor
open Go.RowKit
set_option linter.unusedVariables false
set_option maxRecDepth 100000
theorem one_any (o a : Int) (h0 : 0 ≤ o) (h1 : o ≤ 255) (w : World) (T : Tabs w) : Calls Tryd.prog 86 #[.int .u8 o, .int .i64 a] w fun e w' => ∃ f : Int, e = .returned (.tuple #[.int .i64 (oneX o a), .int .i64 f]) ∧ Below w.heap.size w w' := by
  by_cases h17 : o = 17
  · subst h17
    exact (one17 a w T).mono fun e w' h => ⟨0, h.1, h.2⟩
  by_cases h18 : o = 18
  · subst h18
    exact (one18 a w T).mono fun e w' h => ⟨0, h.1, h.2⟩
  refine (one_no o a h0 h1 h17 h18 w T).mono fun e w' h => ⟨2, ?_, h.2 ▸ Below.refl _ _⟩
  rw [h.1]
  simp [oneX, h17, h18]
theorem do_call (o a b : Int) (h0 : 0 ≤ o) (ht : twoB o = true) (w : World) (T : Tabs w) : Calls Tryd.prog 85 #[.int .u8 o, .int .i64 a, .int .i64 b] w fun e w' => ∃ f : Int, e = .returned (.tuple #[.int .i64 (bin o a b), .int .i64 f]) ∧ Below w.heap.size w w' := by
  rw [twoB_of o h0] at ht
  simp only [Bool.and_eq_true, decide_eq_true_eq] at ht
  exact (do_any o a b ht.1 ht.2 w T).mono fun e w' h => ⟨0, h.1, h.2⟩
set_option maxHeartbeats 4000000 in
theorem p_operate {w : World} {g o : Nat} {c : Co} {bv cv : Value} (h : CoP w g o c bv cv) (T : Tabs w) (i : Ins) (ho : 0 ≤ i.o ∧ i.o ≤ 255) (hd : 0 ≤ i.d ∧ i.d < 16) (ha : 0 ≤ i.a ∧ i.a < 16) (hb : 0 ≤ i.b ∧ i.b < 16) (pm pd : Option Addr) :
    Calls Tryd.prog 63 #[.pointer pm, .pointer (some ⟨g, o, none⟩), insV i, .pointer pd] w fun e w' => e = .returned (.tuple #[]) ∧ Below w.heap.size (w.setCell ⟨g, o + 2 + i.d.toNat, none⟩ (.int .i64 (opX i.o (rget c.regs i.a) (rget c.regs i.b)))) w' := by
  obtain ⟨k, oo, d, a, bb, ad, tt, wd, fr⟩ := i
  simp only at ho hd ha hb ⊢
  obtain ⟨an, rfl⟩ : ∃ n : Nat, a = (n : Int) := ⟨a.toNat, by omega⟩
  obtain ⟨bn, rfl⟩ : ∃ n : Nat, bb = (n : Int) := ⟨bb.toNat, by omega⟩
  obtain ⟨dn, rfl⟩ : ∃ n : Nat, d = (n : Int) := ⟨d.toNat, by omega⟩
  have hgw : g < w.heap.size := lt_of_at h.pc
  obtain ⟨c1, _⟩ := h.reg_at (j := an) (by omega)
  obtain ⟨c2, _⟩ := h.reg_at (j := bn) (by omega)
  obtain ⟨c0, f0⟩ := h.reg_at (j := dn) (by omega)
  have al := (Below.refl w.heap.size w).alloc (Nat.le_refl _) (.cells #[.int .u8 k, .int .u8 oo, .int .i64 (dn : Int), .int .i64 (an : Int), .int .i64 (bn : Int), .int .i64 ad, .int .i64 tt, .int .i64 wd, .int .i64 fr] 87)
  have O1 := Own.new w 87 #[.int .u8 k, .int .u8 oo, .int .i64 (dn : Int), .int .i64 (an : Int), .int .i64 (bn : Int), .int .i64 ad, .int .i64 tt, .int .i64 wd, .int .i64 fr]
  obtain ⟨W1, hW1⟩ : ∃ W, W = w.alloc (.cells #[.int .u8 k, .int .u8 oo, .int .i64 (dn : Int), .int .i64 (an : Int), .int .i64 (bn : Int), .int .i64 ad, .int .i64 tt, .int .i64 wd, .int .i64 fr] 87) := ⟨_, rfl⟩
  rw [← hW1] at al O1
  have HW1 := Lib.hid hW1
  have dw : Below W1.heap.size W1 W1.drew := below_drewN (Below.refl _ W1) 1
  have HB := Lib.hid (al.trans (dw.mono al.size))
  have HO2 := Lib.hid (O1.below dw)
  have HSX : Hid (((W1.drew.cell? ⟨w.heap.size, 3, none⟩ = some (.int .i64 (an : Int)) ∧ W1.drew.cell? ⟨w.heap.size, 4, none⟩ = some (.int .i64 (bn : Int))) ∧ W1.drew.cell? ⟨g, o + 2 + an, none⟩ = some (.int .i64 (rget c.regs an))) ∧ W1.drew.cell? ⟨g, o + 2 + bn, none⟩ = some (.int .i64 (rget c.regs bn))) := ⟨⟨⟨row_cellsO HO2.out 3 _ rfl, row_cellsO HO2.out 4 _ rfl⟩, (HB.out.cell (p := ⟨g, o + 2 + an, none⟩) hgw).trans c1⟩, (HB.out.cell (p := ⟨g, o + 2 + bn, none⟩) hgw).trans c2⟩
  have HA16 : Hid ((an : Int) < 16) := by show _ < _; omega
  have HB16 : Hid ((bn : Int) < 16) := by show _ < _; omega
  have HD16 : Hid ((dn : Int) < 16) := by show _ < _; omega
  have HG := Lib.hid hgw
  have HC0 := Lib.hid c0
  have HF0 := Lib.hid f0
  have HT := Lib.hid T
  have HO := Lib.hid ho
  generalize rget c.regs an = x at HSX ⊢
  generalize rget c.regs bn = y at HSX ⊢
  generalize rget c.regs dn = z at HC0
  rw [Int.toNat_natCast]
  clear h al O1 dw hW1 c1 c2 c0 f0 hgw T ha hb hd ho
  simp only [insV, insC]
  go_enter Tryd.func63, Tryd.ntmps63
  go_upto_region 1 with fail
  rw [← HW1.out]
  clear HW1
  refine wp_region_held (S := fun V => ((V.cell? ⟨w.heap.size, 3, none⟩ = some (.int .i64 (an : Int)) ∧ V.cell? ⟨w.heap.size, 4, none⟩ = some (.int .i64 (bn : Int))) ∧ V.cell? ⟨g, o + 2 + an, none⟩ = some (.int .i64 x)) ∧ V.cell? ⟨g, o + 2 + bn, none⟩ = some (.int .i64 y)) (by kernel_rfl) ?_
  change wpAnyH _ _ _ _ _ _ _ _ W1.drew
  generalize W1.drew = W2 at HSX HB HO2 ⊢
  change wpAnyH _ _ _ _ _ _ _ { tmps := List.toArray (_ :: _ :: _ :: _ :: _ :: _ :: _ :: _ :: _ :: _ :: _ :: _ :: _ :: _ :: _ :: _ :: _ :: _ :: _ :: _ :: _ :: _ :: _ :: _ :: _ :: _ :: _ :: _ :: _ :: _ :: _ :: _ :: _ :: _ :: _ :: _ :: _ :: _ :: _ :: _ :: _ :: _ :: _ :: _ :: _ :: _ :: _ :: _ :: _ :: _ :: _ :: _ :: _ :: _ :: _ :: _ :: _ :: _ :: []), defers := [] } _
  refine dr_take 0 (.pointer (some ⟨g, o, none⟩)) rfl rfl (by kernel_rfl) (by kernel_rfl) (by kernel_rfl) (fun _ _ _ h => h) (fun _ _ => by unfold execOp; go_simp) HSX.out ?_
  change wpAnyH _ _ _ _ _ _ _ { tmps := List.toArray (_ :: _ :: _ :: _ :: _ :: _ :: _ :: _ :: _ :: _ :: _ :: _ :: _ :: _ :: _ :: _ :: _ :: _ :: _ :: _ :: _ :: _ :: _ :: _ :: _ :: _ :: _ :: _ :: _ :: _ :: _ :: _ :: _ :: _ :: _ :: _ :: _ :: _ :: _ :: _ :: _ :: _ :: _ :: _ :: _ :: _ :: _ :: _ :: _ :: _ :: _ :: _ :: _ :: _ :: _ :: _ :: _ :: _ :: []), defers := [] } _
  refine dr_take 1 (.pointer (some ⟨w.heap.size, 3, none⟩)) rfl rfl (by kernel_rfl) (by kernel_rfl) (by kernel_rfl) (fun _ _ _ h => h) (fun _ _ => by unfold execOp; go_simp) HSX.out ?_
  change wpAnyH _ _ _ _ _ _ _ { tmps := List.toArray (_ :: _ :: _ :: _ :: _ :: _ :: _ :: _ :: _ :: _ :: _ :: _ :: _ :: _ :: _ :: _ :: _ :: _ :: _ :: _ :: _ :: _ :: _ :: _ :: _ :: _ :: _ :: _ :: _ :: _ :: _ :: _ :: _ :: _ :: _ :: _ :: _ :: _ :: _ :: _ :: _ :: _ :: _ :: _ :: _ :: _ :: _ :: _ :: _ :: _ :: _ :: _ :: _ :: _ :: _ :: _ :: _ :: _ :: []), defers := [] } _
  refine dr_take 2 (.int .i64 (an : Int)) rfl rfl (by kernel_rfl) (by kernel_rfl) (by kernel_rfl) (fun _ _ _ h => h) (fun V h => by have h1 := h.1.1.1; clear h; unfold execOp; go_simp) HSX.out ?_
  change wpAnyH _ _ _ _ _ _ _ { tmps := List.toArray (_ :: _ :: _ :: _ :: _ :: _ :: _ :: _ :: _ :: _ :: _ :: _ :: _ :: _ :: _ :: _ :: _ :: _ :: _ :: _ :: _ :: _ :: _ :: _ :: _ :: _ :: _ :: _ :: _ :: _ :: _ :: _ :: _ :: _ :: _ :: _ :: _ :: _ :: _ :: _ :: _ :: _ :: _ :: _ :: _ :: _ :: _ :: _ :: _ :: _ :: _ :: _ :: _ :: _ :: _ :: _ :: _ :: _ :: []), defers := [] } _
  refine dr_take 3 (.pointer (some ⟨g, o, none⟩)) rfl rfl (by kernel_rfl) (by kernel_rfl) (by kernel_rfl) (fun _ _ _ h => h) (fun _ _ => by unfold execOp; go_simp) HSX.out ?_
  change wpAnyH _ _ _ _ _ _ _ { tmps := List.toArray (_ :: _ :: _ :: _ :: _ :: _ :: _ :: _ :: _ :: _ :: _ :: _ :: _ :: _ :: _ :: _ :: _ :: _ :: _ :: _ :: _ :: _ :: _ :: _ :: _ :: _ :: _ :: _ :: _ :: _ :: _ :: _ :: _ :: _ :: _ :: _ :: _ :: _ :: _ :: _ :: _ :: _ :: _ :: _ :: _ :: _ :: _ :: _ :: _ :: _ :: _ :: _ :: _ :: _ :: _ :: _ :: _ :: _ :: []), defers := [] } _
  refine dr_take 4 (.pointer (some ⟨g, o, none⟩)) rfl rfl (by kernel_rfl) (by kernel_rfl) (by kernel_rfl) (fun _ _ _ h => h) (fun _ _ => by unfold execOp; go_simp) HSX.out ?_
  change wpAnyH _ _ _ _ _ _ _ { tmps := List.toArray (_ :: _ :: _ :: _ :: _ :: _ :: _ :: _ :: _ :: _ :: _ :: _ :: _ :: _ :: _ :: _ :: _ :: _ :: _ :: _ :: _ :: _ :: _ :: _ :: _ :: _ :: _ :: _ :: _ :: _ :: _ :: _ :: _ :: _ :: _ :: _ :: _ :: _ :: _ :: _ :: _ :: _ :: _ :: _ :: _ :: _ :: _ :: _ :: _ :: _ :: _ :: _ :: _ :: _ :: _ :: _ :: _ :: _ :: []), defers := [] } _
  refine dr_take 5 (.pointer (some ⟨g, o + 2, none⟩)) rfl rfl (by kernel_rfl) (by kernel_rfl) (by kernel_rfl) (fun _ _ _ h => h) (fun _ _ => by unfold execOp; go_simp) HSX.out ?_
  change wpAnyH _ _ _ _ _ _ _ { tmps := List.toArray (_ :: _ :: _ :: _ :: _ :: _ :: _ :: _ :: _ :: _ :: _ :: _ :: _ :: _ :: _ :: _ :: _ :: _ :: _ :: _ :: _ :: _ :: _ :: _ :: _ :: _ :: _ :: _ :: _ :: _ :: _ :: _ :: _ :: _ :: _ :: _ :: _ :: _ :: _ :: _ :: _ :: _ :: _ :: _ :: _ :: _ :: _ :: _ :: _ :: _ :: _ :: _ :: _ :: _ :: _ :: _ :: _ :: _ :: []), defers := [] } _
  refine dr_take 6 (.pointer (some ⟨g, o + 2 + an, none⟩)) rfl rfl (by kernel_rfl) (by kernel_rfl) (by kernel_rfl) (fun _ _ _ h => h) (fun _ _ => by have h16 := HA16.out; unfold execOp; go_simp) HSX.out ?_
  change wpAnyH _ _ _ _ _ _ _ { tmps := List.toArray (_ :: _ :: _ :: _ :: _ :: _ :: _ :: _ :: _ :: _ :: _ :: _ :: _ :: _ :: _ :: _ :: _ :: _ :: _ :: _ :: _ :: _ :: _ :: _ :: _ :: _ :: _ :: _ :: _ :: _ :: _ :: _ :: _ :: _ :: _ :: _ :: _ :: _ :: _ :: _ :: _ :: _ :: _ :: _ :: _ :: _ :: _ :: _ :: _ :: _ :: _ :: _ :: _ :: _ :: _ :: _ :: _ :: _ :: []), defers := [] } _
  refine dr_take 7 (.int .i64 x) rfl rfl (by kernel_rfl) (by kernel_rfl) (by kernel_rfl) (fun _ _ _ h => h) (fun V h => by have h1 := h.1.2; clear h; unfold execOp; go_simp) HSX.out ?_
  change wpAnyH _ _ _ _ _ _ _ { tmps := List.toArray (_ :: _ :: _ :: _ :: _ :: _ :: _ :: _ :: _ :: _ :: _ :: _ :: _ :: _ :: _ :: _ :: _ :: _ :: _ :: _ :: _ :: _ :: _ :: _ :: _ :: _ :: _ :: _ :: _ :: _ :: _ :: _ :: _ :: _ :: _ :: _ :: _ :: _ :: _ :: _ :: _ :: _ :: _ :: _ :: _ :: _ :: _ :: _ :: _ :: _ :: _ :: _ :: _ :: _ :: _ :: _ :: _ :: _ :: []), defers := [] } _
  refine dr_take 8 (.pointer (some ⟨g, o, none⟩)) rfl rfl (by kernel_rfl) (by kernel_rfl) (by kernel_rfl) (fun _ _ _ h => h) (fun _ _ => by unfold execOp; go_simp) HSX.out ?_
  change wpAnyH _ _ _ _ _ _ _ { tmps := List.toArray (_ :: _ :: _ :: _ :: _ :: _ :: _ :: _ :: _ :: _ :: _ :: _ :: _ :: _ :: _ :: _ :: _ :: _ :: _ :: _ :: _ :: _ :: _ :: _ :: _ :: _ :: _ :: _ :: _ :: _ :: _ :: _ :: _ :: _ :: _ :: _ :: _ :: _ :: _ :: _ :: _ :: _ :: _ :: _ :: _ :: _ :: _ :: _ :: _ :: _ :: _ :: _ :: _ :: _ :: _ :: _ :: _ :: _ :: []), defers := [] } _
  refine dr_take 9 (.pointer (some ⟨w.heap.size, 4, none⟩)) rfl rfl (by kernel_rfl) (by kernel_rfl) (by kernel_rfl) (fun _ _ _ h => h) (fun _ _ => by unfold execOp; go_simp) HSX.out ?_
  change wpAnyH _ _ _ _ _ _ _ { tmps := List.toArray (_ :: _ :: _ :: _ :: _ :: _ :: _ :: _ :: _ :: _ :: _ :: _ :: _ :: _ :: _ :: _ :: _ :: _ :: _ :: _ :: _ :: _ :: _ :: _ :: _ :: _ :: _ :: _ :: _ :: _ :: _ :: _ :: _ :: _ :: _ :: _ :: _ :: _ :: _ :: _ :: _ :: _ :: _ :: _ :: _ :: _ :: _ :: _ :: _ :: _ :: _ :: _ :: _ :: _ :: _ :: _ :: _ :: _ :: []), defers := [] } _
  refine dr_take 10 (.int .i64 (bn : Int)) rfl rfl (by kernel_rfl) (by kernel_rfl) (by kernel_rfl) (fun _ _ _ h => h) (fun V h => by have h1 := h.1.1.2; clear h; unfold execOp; go_simp) HSX.out ?_
  change wpAnyH _ _ _ _ _ _ _ { tmps := List.toArray (_ :: _ :: _ :: _ :: _ :: _ :: _ :: _ :: _ :: _ :: _ :: _ :: _ :: _ :: _ :: _ :: _ :: _ :: _ :: _ :: _ :: _ :: _ :: _ :: _ :: _ :: _ :: _ :: _ :: _ :: _ :: _ :: _ :: _ :: _ :: _ :: _ :: _ :: _ :: _ :: _ :: _ :: _ :: _ :: _ :: _ :: _ :: _ :: _ :: _ :: _ :: _ :: _ :: _ :: _ :: _ :: _ :: _ :: []), defers := [] } _
  refine dr_take 11 (.pointer (some ⟨g, o, none⟩)) rfl rfl (by kernel_rfl) (by kernel_rfl) (by kernel_rfl) (fun _ _ _ h => h) (fun _ _ => by unfold execOp; go_simp) HSX.out ?_
  change wpAnyH _ _ _ _ _ _ _ { tmps := List.toArray (_ :: _ :: _ :: _ :: _ :: _ :: _ :: _ :: _ :: _ :: _ :: _ :: _ :: _ :: _ :: _ :: _ :: _ :: _ :: _ :: _ :: _ :: _ :: _ :: _ :: _ :: _ :: _ :: _ :: _ :: _ :: _ :: _ :: _ :: _ :: _ :: _ :: _ :: _ :: _ :: _ :: _ :: _ :: _ :: _ :: _ :: _ :: _ :: _ :: _ :: _ :: _ :: _ :: _ :: _ :: _ :: _ :: _ :: []), defers := [] } _
  refine dr_take 12 (.pointer (some ⟨g, o, none⟩)) rfl rfl (by kernel_rfl) (by kernel_rfl) (by kernel_rfl) (fun _ _ _ h => h) (fun _ _ => by unfold execOp; go_simp) HSX.out ?_
  change wpAnyH _ _ _ _ _ _ _ { tmps := List.toArray (_ :: _ :: _ :: _ :: _ :: _ :: _ :: _ :: _ :: _ :: _ :: _ :: _ :: _ :: _ :: _ :: _ :: _ :: _ :: _ :: _ :: _ :: _ :: _ :: _ :: _ :: _ :: _ :: _ :: _ :: _ :: _ :: _ :: _ :: _ :: _ :: _ :: _ :: _ :: _ :: _ :: _ :: _ :: _ :: _ :: _ :: _ :: _ :: _ :: _ :: _ :: _ :: _ :: _ :: _ :: _ :: _ :: _ :: []), defers := [] } _
  refine dr_take 13 (.pointer (some ⟨g, o + 2, none⟩)) rfl rfl (by kernel_rfl) (by kernel_rfl) (by kernel_rfl) (fun _ _ _ h => h) (fun _ _ => by unfold execOp; go_simp) HSX.out ?_
  change wpAnyH _ _ _ _ _ _ _ { tmps := List.toArray (_ :: _ :: _ :: _ :: _ :: _ :: _ :: _ :: _ :: _ :: _ :: _ :: _ :: _ :: _ :: _ :: _ :: _ :: _ :: _ :: _ :: _ :: _ :: _ :: _ :: _ :: _ :: _ :: _ :: _ :: _ :: _ :: _ :: _ :: _ :: _ :: _ :: _ :: _ :: _ :: _ :: _ :: _ :: _ :: _ :: _ :: _ :: _ :: _ :: _ :: _ :: _ :: _ :: _ :: _ :: _ :: _ :: _ :: []), defers := [] } _
  refine dr_take 14 (.pointer (some ⟨g, o + 2 + bn, none⟩)) rfl rfl (by kernel_rfl) (by kernel_rfl) (by kernel_rfl) (fun _ _ _ h => h) (fun _ _ => by have h16 := HB16.out; unfold execOp; go_simp) HSX.out ?_
  change wpAnyH _ _ _ _ _ _ _ { tmps := List.toArray (_ :: _ :: _ :: _ :: _ :: _ :: _ :: _ :: _ :: _ :: _ :: _ :: _ :: _ :: _ :: _ :: _ :: _ :: _ :: _ :: _ :: _ :: _ :: _ :: _ :: _ :: _ :: _ :: _ :: _ :: _ :: _ :: _ :: _ :: _ :: _ :: _ :: _ :: _ :: _ :: _ :: _ :: _ :: _ :: _ :: _ :: _ :: _ :: _ :: _ :: _ :: _ :: _ :: _ :: _ :: _ :: _ :: _ :: []), defers := [] } _
  refine dr_take 15 (.int .i64 y) rfl rfl (by kernel_rfl) (by kernel_rfl) (by kernel_rfl) (fun _ _ _ h => h) (fun V h => by have h1 := h.2; clear h; unfold execOp; go_simp) HSX.out ?_
  change wpAnyH _ _ _ _ _ _ _ { tmps := List.toArray (_ :: _ :: _ :: _ :: _ :: _ :: _ :: _ :: _ :: _ :: _ :: _ :: _ :: _ :: _ :: _ :: _ :: _ :: _ :: _ :: _ :: _ :: _ :: _ :: _ :: _ :: _ :: _ :: _ :: _ :: _ :: _ :: _ :: _ :: _ :: _ :: _ :: _ :: _ :: _ :: _ :: _ :: _ :: _ :: _ :: _ :: _ :: _ :: _ :: _ :: _ :: _ :: _ :: _ :: _ :: _ :: _ :: _ :: []), defers := [] } _
  refine dr_one 16 rfl rfl (by kernel_rfl) ?_
  refine wv_val (w' := W2) (v := .int .i64 x) (by unfold execOp; go_simp) ⟨HSX.out, ?_⟩
  change wpAnyH _ _ _ _ _ _ _ { tmps := List.toArray (_ :: _ :: _ :: _ :: _ :: _ :: _ :: _ :: _ :: _ :: _ :: _ :: _ :: _ :: _ :: _ :: _ :: _ :: _ :: _ :: _ :: _ :: _ :: _ :: _ :: _ :: _ :: _ :: _ :: _ :: _ :: _ :: _ :: _ :: _ :: _ :: _ :: _ :: _ :: _ :: _ :: _ :: _ :: _ :: _ :: _ :: _ :: _ :: _ :: _ :: _ :: _ :: _ :: _ :: _ :: _ :: _ :: _ :: []), defers := [] } _
  refine dr_one 17 rfl rfl (by kernel_rfl) ?_
  refine wv_val (w' := W2) (v := .int .i64 y) (by unfold execOp; go_simp) ⟨HSX.out, ?_⟩
  refine wpAnyH_done (by kernel_rfl) ?_ _
  have HT2 := Lib.hid (HT.out.below HB.out)
  have p1 : W2.cell? ⟨w.heap.size, 1, none⟩ = some (.int .u8 oo) := row_cellsO HO2.out 1 _ rfl
  have dw : Below W2.heap.size W2 W2.drew := below_drewN (Below.refl _ W2) 1
  have HB3 := Lib.hid (HB.out.trans (dw.mono HB.out.size))
  have HO3 := Lib.hid (HO2.out.below dw)
  have HTW : Hid (Calls Tryd.prog 84 #[.int .u8 oo] W2 fun e w' => e = .returned (.bool (twoB oo)) ∧ W2 = w') := p_two oo HO.out.1 HO.out.2 W2 HT2.out
  have HDO : Hid (∀ V, Tabs V → twoB oo = true → Calls Tryd.prog 85 #[.int .u8 oo, .int .i64 x, .int .i64 y] V fun e w' => ∃ f : Int, e = .returned (.tuple #[.int .i64 (bin oo x y), .int .i64 f]) ∧ Below V.heap.size V w') := fun V t h => do_call oo x y HO.out.1 h V t
  have HON : Hid (∀ V, Tabs V → Calls Tryd.prog 86 #[.int .u8 oo, .int .i64 x] V fun e w' => ∃ f : Int, e = .returned (.tuple #[.int .i64 (oneX oo x), .int .i64 f]) ∧ Below V.heap.size V w') := fun V t => one_any oo x HO.out.1 HO.out.2 V t
  have HT3 := Lib.hid (HT2.out.below dw)
  clear dw HSX HB HO2 HT HT2
  cases ht : twoB oo with
  | true =>
    go_upto_region 3 with (go_at_call 84; refine (HTW.out).mono ?_; rintro e w9 ⟨rfl, rfl⟩; rw [ht])
    have HSX : Hid (W2.drew.cell? ⟨w.heap.size, 1, none⟩ = some (.int .u8 oo) ∧ W2.drew.cell? ⟨w.heap.size, 2, none⟩ = some (.int .i64 (dn : Int))) := ⟨row_cellsO HO3.out 1 _ rfl, row_cellsO HO3.out 2 _ rfl⟩
    clear p1
    refine wp_region_held (S := fun V => V.cell? ⟨w.heap.size, 1, none⟩ = some (.int .u8 oo) ∧ V.cell? ⟨w.heap.size, 2, none⟩ = some (.int .i64 (dn : Int))) (by kernel_rfl) ?_
    change wpAnyH _ _ _ _ _ _ _ _ W2.drew
    generalize W2.drew = W3 at HSX HB3 HO3 HT3 ⊢
    change wpAnyH _ _ _ _ _ _ _ { tmps := List.toArray (_ :: _ :: _ :: _ :: _ :: _ :: _ :: _ :: _ :: _ :: _ :: _ :: _ :: _ :: _ :: _ :: _ :: _ :: _ :: _ :: _ :: _ :: _ :: _ :: _ :: _ :: _ :: _ :: _ :: _ :: _ :: _ :: _ :: _ :: _ :: _ :: _ :: _ :: _ :: _ :: _ :: _ :: _ :: _ :: _ :: _ :: _ :: _ :: _ :: _ :: _ :: _ :: _ :: _ :: _ :: _ :: _ :: _ :: []), defers := [] } _
    refine dr_take 0 (.pointer (some ⟨g, o, none⟩)) rfl rfl (by kernel_rfl) (by kernel_rfl) (by kernel_rfl) (fun _ _ _ h => h) (fun _ _ => by unfold execOp; go_simp) HSX.out ?_
    change wpAnyH _ _ _ _ _ _ _ { tmps := List.toArray (_ :: _ :: _ :: _ :: _ :: _ :: _ :: _ :: _ :: _ :: _ :: _ :: _ :: _ :: _ :: _ :: _ :: _ :: _ :: _ :: _ :: _ :: _ :: _ :: _ :: _ :: _ :: _ :: _ :: _ :: _ :: _ :: _ :: _ :: _ :: _ :: _ :: _ :: _ :: _ :: _ :: _ :: _ :: _ :: _ :: _ :: _ :: _ :: _ :: _ :: _ :: _ :: _ :: _ :: _ :: _ :: _ :: _ :: []), defers := [] } _
    refine dr_take 1 (.pointer (some ⟨w.heap.size, 2, none⟩)) rfl rfl (by kernel_rfl) (by kernel_rfl) (by kernel_rfl) (fun _ _ _ h => h) (fun _ _ => by unfold execOp; go_simp) HSX.out ?_
    change wpAnyH _ _ _ _ _ _ _ { tmps := List.toArray (_ :: _ :: _ :: _ :: _ :: _ :: _ :: _ :: _ :: _ :: _ :: _ :: _ :: _ :: _ :: _ :: _ :: _ :: _ :: _ :: _ :: _ :: _ :: _ :: _ :: _ :: _ :: _ :: _ :: _ :: _ :: _ :: _ :: _ :: _ :: _ :: _ :: _ :: _ :: _ :: _ :: _ :: _ :: _ :: _ :: _ :: _ :: _ :: _ :: _ :: _ :: _ :: _ :: _ :: _ :: _ :: _ :: _ :: []), defers := [] } _
    refine dr_take 2 (.int .i64 (dn : Int)) rfl rfl (by kernel_rfl) (by kernel_rfl) (by kernel_rfl) (fun _ _ _ h => h) (fun V h => by have h1 := h.2; clear h; unfold execOp; go_simp) HSX.out ?_
    change wpAnyH _ _ _ _ _ _ _ { tmps := List.toArray (_ :: _ :: _ :: _ :: _ :: _ :: _ :: _ :: _ :: _ :: _ :: _ :: _ :: _ :: _ :: _ :: _ :: _ :: _ :: _ :: _ :: _ :: _ :: _ :: _ :: _ :: _ :: _ :: _ :: _ :: _ :: _ :: _ :: _ :: _ :: _ :: _ :: _ :: _ :: _ :: _ :: _ :: _ :: _ :: _ :: _ :: _ :: _ :: _ :: _ :: _ :: _ :: _ :: _ :: _ :: _ :: _ :: _ :: []), defers := [] } _
    refine dr_take 3 (.pointer (some ⟨w.heap.size, 1, none⟩)) rfl rfl (by kernel_rfl) (by kernel_rfl) (by kernel_rfl) (fun _ _ _ h => h) (fun _ _ => by unfold execOp; go_simp) HSX.out ?_
    change wpAnyH _ _ _ _ _ _ _ { tmps := List.toArray (_ :: _ :: _ :: _ :: _ :: _ :: _ :: _ :: _ :: _ :: _ :: _ :: _ :: _ :: _ :: _ :: _ :: _ :: _ :: _ :: _ :: _ :: _ :: _ :: _ :: _ :: _ :: _ :: _ :: _ :: _ :: _ :: _ :: _ :: _ :: _ :: _ :: _ :: _ :: _ :: _ :: _ :: _ :: _ :: _ :: _ :: _ :: _ :: _ :: _ :: _ :: _ :: _ :: _ :: _ :: _ :: _ :: _ :: []), defers := [] } _
    refine dr_take 4 (.int .u8 oo) rfl rfl (by kernel_rfl) (by kernel_rfl) (by kernel_rfl) (fun _ _ _ h => h) (fun V h => by have h1 := h.1; clear h; unfold execOp; go_simp) HSX.out ?_
    change wpAnyH _ _ _ _ _ _ _ { tmps := List.toArray (_ :: _ :: _ :: _ :: _ :: _ :: _ :: _ :: _ :: _ :: _ :: _ :: _ :: _ :: _ :: _ :: _ :: _ :: _ :: _ :: _ :: _ :: _ :: _ :: _ :: _ :: _ :: _ :: _ :: _ :: _ :: _ :: _ :: _ :: _ :: _ :: _ :: _ :: _ :: _ :: _ :: _ :: _ :: _ :: _ :: _ :: _ :: _ :: _ :: _ :: _ :: _ :: _ :: _ :: _ :: _ :: _ :: _ :: []), defers := [] } _
    refine dr_take 5 (.int .i64 x) rfl rfl (by kernel_rfl) (by kernel_rfl) (by kernel_rfl) (fun _ _ _ h => h) (fun _ _ => by unfold execOp; go_simp) HSX.out ?_
    change wpAnyH _ _ _ _ _ _ _ { tmps := List.toArray (_ :: _ :: _ :: _ :: _ :: _ :: _ :: _ :: _ :: _ :: _ :: _ :: _ :: _ :: _ :: _ :: _ :: _ :: _ :: _ :: _ :: _ :: _ :: _ :: _ :: _ :: _ :: _ :: _ :: _ :: _ :: _ :: _ :: _ :: _ :: _ :: _ :: _ :: _ :: _ :: _ :: _ :: _ :: _ :: _ :: _ :: _ :: _ :: _ :: _ :: _ :: _ :: _ :: _ :: _ :: _ :: _ :: _ :: []), defers := [] } _
    refine dr_take 6 (.int .i64 y) rfl rfl (by kernel_rfl) (by kernel_rfl) (by kernel_rfl) (fun _ _ _ h => h) (fun _ _ => by unfold execOp; go_simp) HSX.out ?_
    change wpAnyH _ _ _ _ _ _ _ { tmps := List.toArray (_ :: _ :: _ :: _ :: _ :: _ :: _ :: _ :: _ :: _ :: _ :: _ :: _ :: _ :: _ :: _ :: _ :: _ :: _ :: _ :: _ :: _ :: _ :: _ :: _ :: _ :: _ :: _ :: _ :: _ :: _ :: _ :: _ :: _ :: _ :: _ :: _ :: _ :: _ :: _ :: _ :: _ :: _ :: _ :: _ :: _ :: _ :: _ :: _ :: _ :: _ :: _ :: _ :: _ :: _ :: _ :: _ :: _ :: []), defers := [] } _
    refine dr_take 11 (.pointer (some ⟨g, o, none⟩)) rfl rfl (by kernel_rfl) (by kernel_rfl) (by kernel_rfl) (fun _ _ _ h => h) (fun _ _ => by unfold execOp; go_simp) HSX.out ?_
    change wpAnyH _ _ _ _ _ _ _ { tmps := List.toArray (_ :: _ :: _ :: _ :: _ :: _ :: _ :: _ :: _ :: _ :: _ :: _ :: _ :: _ :: _ :: _ :: _ :: _ :: _ :: _ :: _ :: _ :: _ :: _ :: _ :: _ :: _ :: _ :: _ :: _ :: _ :: _ :: _ :: _ :: _ :: _ :: _ :: _ :: _ :: _ :: _ :: _ :: _ :: _ :: _ :: _ :: _ :: _ :: _ :: _ :: _ :: _ :: _ :: _ :: _ :: _ :: _ :: _ :: []), defers := [] } _
    refine dr_take 12 (.pointer (some ⟨g, o, none⟩)) rfl rfl (by kernel_rfl) (by kernel_rfl) (by kernel_rfl) (fun _ _ _ h => h) (fun _ _ => by unfold execOp; go_simp) HSX.out ?_
    change wpAnyH _ _ _ _ _ _ _ { tmps := List.toArray (_ :: _ :: _ :: _ :: _ :: _ :: _ :: _ :: _ :: _ :: _ :: _ :: _ :: _ :: _ :: _ :: _ :: _ :: _ :: _ :: _ :: _ :: _ :: _ :: _ :: _ :: _ :: _ :: _ :: _ :: _ :: _ :: _ :: _ :: _ :: _ :: _ :: _ :: _ :: _ :: _ :: _ :: _ :: _ :: _ :: _ :: _ :: _ :: _ :: _ :: _ :: _ :: _ :: _ :: _ :: _ :: _ :: _ :: []), defers := [] } _
    refine dr_take 13 (.pointer (some ⟨g, o + 2, none⟩)) rfl rfl (by kernel_rfl) (by kernel_rfl) (by kernel_rfl) (fun _ _ _ h => h) (fun _ _ => by unfold execOp; go_simp) HSX.out ?_
    change wpAnyH _ _ _ _ _ _ _ { tmps := List.toArray (_ :: _ :: _ :: _ :: _ :: _ :: _ :: _ :: _ :: _ :: _ :: _ :: _ :: _ :: _ :: _ :: _ :: _ :: _ :: _ :: _ :: _ :: _ :: _ :: _ :: _ :: _ :: _ :: _ :: _ :: _ :: _ :: _ :: _ :: _ :: _ :: _ :: _ :: _ :: _ :: _ :: _ :: _ :: _ :: _ :: _ :: _ :: _ :: _ :: _ :: _ :: _ :: _ :: _ :: _ :: _ :: _ :: _ :: []), defers := [] } _
    refine dr_one 7 rfl rfl (by kernel_rfl) ?_
    refine wp_callT (vs := #[.int .u8 oo, .int .i64 x, .int .i64 y]) rfl rfl (enters_of Tryd.func85 (by kernel_rfl) rfl) (by simp [Act.eval]) (HDO.out _ HT3.out ht) ?_
    rintro e w5 ⟨f, rfl, hb5⟩
    have HB5 := Lib.hid (HB3.out.trans (hb5.mono HB3.out.size))
    have HO5 := Lib.hid (HO3.out.below hb5)
    have HSY : Hid (w5.cell? ⟨w.heap.size, 1, none⟩ = some (.int .u8 oo) ∧ w5.cell? ⟨w.heap.size, 2, none⟩ = some (.int .i64 (dn : Int))) := ⟨row_cellsO HO5.out 1 _ rfl, row_cellsO HO5.out 2 _ rfl⟩
    clear hb5
    refine ⟨HSY.out, ?_⟩
    change wpAnyH _ _ _ _ _ _ _ { tmps := List.toArray (_ :: _ :: _ :: _ :: _ :: _ :: _ :: _ :: _ :: _ :: _ :: _ :: _ :: _ :: _ :: _ :: _ :: _ :: _ :: _ :: _ :: _ :: _ :: _ :: _ :: _ :: _ :: _ :: _ :: _ :: _ :: _ :: _ :: _ :: _ :: _ :: _ :: _ :: _ :: _ :: _ :: _ :: _ :: _ :: _ :: _ :: _ :: _ :: _ :: _ :: _ :: _ :: _ :: _ :: _ :: _ :: _ :: _ :: []), defers := [] } _
    refine dr_one 8 rfl rfl (by kernel_rfl) ?_
    refine wv_val (w' := w5) (v := .tuple #[.int .i64 (bin oo x y), .int .i64 f]) (by unfold execOp; go_simp) ⟨HSY.out, ?_⟩
    change wpAnyH _ _ _ _ _ _ _ { tmps := List.toArray (_ :: _ :: _ :: _ :: _ :: _ :: _ :: _ :: _ :: _ :: _ :: _ :: _ :: _ :: _ :: _ :: _ :: _ :: _ :: _ :: _ :: _ :: _ :: _ :: _ :: _ :: _ :: _ :: _ :: _ :: _ :: _ :: _ :: _ :: _ :: _ :: _ :: _ :: _ :: _ :: _ :: _ :: _ :: _ :: _ :: _ :: _ :: _ :: _ :: _ :: _ :: _ :: _ :: _ :: _ :: _ :: _ :: _ :: []), defers := [] } _
    refine dr_take 10 (.int .i64 f) rfl rfl (by kernel_rfl) (by kernel_rfl) (by kernel_rfl) (fun _ _ _ h => h) (fun _ _ => by unfold execOp; go_simp) HSY.out ?_
    change wpAnyH _ _ _ _ _ _ _ { tmps := List.toArray (_ :: _ :: _ :: _ :: _ :: _ :: _ :: _ :: _ :: _ :: _ :: _ :: _ :: _ :: _ :: _ :: _ :: _ :: _ :: _ :: _ :: _ :: _ :: _ :: _ :: _ :: _ :: _ :: _ :: _ :: _ :: _ :: _ :: _ :: _ :: _ :: _ :: _ :: _ :: _ :: _ :: _ :: _ :: _ :: _ :: _ :: _ :: _ :: _ :: _ :: _ :: _ :: _ :: _ :: _ :: _ :: _ :: _ :: []), defers := [] } _
    refine dr_take 9 (.int .i64 (bin oo x y)) rfl rfl (by kernel_rfl) (by kernel_rfl) (by kernel_rfl) (fun _ _ _ h => h) (fun _ _ => by unfold execOp; go_simp) HSY.out ?_
    change wpAnyH _ _ _ _ _ _ _ { tmps := List.toArray (_ :: _ :: _ :: _ :: _ :: _ :: _ :: _ :: _ :: _ :: _ :: _ :: _ :: _ :: _ :: _ :: _ :: _ :: _ :: _ :: _ :: _ :: _ :: _ :: _ :: _ :: _ :: _ :: _ :: _ :: _ :: _ :: _ :: _ :: _ :: _ :: _ :: _ :: _ :: _ :: _ :: _ :: _ :: _ :: _ :: _ :: _ :: _ :: _ :: _ :: _ :: _ :: _ :: _ :: _ :: _ :: _ :: _ :: []), defers := [] } _
    refine dr_one 14 rfl rfl (by kernel_rfl) ?_
    refine wv_val (w' := w5) (v := .pointer (some ⟨g, o + 2 + dn, none⟩)) (by have h16 := HD16.out; unfold execOp; go_simp) ⟨HSY.out, ?_⟩
    change wpAnyH _ _ _ _ _ _ _ { tmps := List.toArray (_ :: _ :: _ :: _ :: _ :: _ :: _ :: _ :: _ :: _ :: _ :: _ :: _ :: _ :: _ :: _ :: _ :: _ :: _ :: _ :: _ :: _ :: _ :: _ :: _ :: _ :: _ :: _ :: _ :: _ :: _ :: _ :: _ :: _ :: _ :: _ :: _ :: _ :: _ :: _ :: _ :: _ :: _ :: _ :: _ :: _ :: _ :: _ :: _ :: _ :: _ :: _ :: _ :: _ :: _ :: _ :: _ :: _ :: []), defers := [] } _
    refine dr_one 15 rfl rfl (by kernel_rfl) ?_
    refine wp_stI rfl rfl rfl ((HB5.out.cell (p := ⟨g, o + 2 + dn, none⟩) HG.out).trans HC0.out) (frozen_below HB5.out HG.out HF0.out) ⟨⟨(World.cell?_setCell_far _ _ _ _ (by show g ≠ w.heap.size; have := HG.out; omega)).trans HSY.out.1, (World.cell?_setCell_far _ _ _ _ (by show g ≠ w.heap.size; have := HG.out; omega)).trans HSY.out.2⟩, ?_⟩
    refine wpAnyH_done (by kernel_rfl) ?_ _
    try go_wp2_with fail
    refine bodyPost_end (results_none rfl _ _ _) rfl ⟨rfl, ?_⟩
    rw [show opX oo x y = (bin oo x y) by simp [opX, ht]]
    exact below_both HB5.out _ _
  | false =>
    go_upto_region 4 with (go_at_call 84; refine (HTW.out).mono ?_; rintro e w9 ⟨rfl, rfl⟩; rw [ht])
    have HSX : Hid (W2.drew.cell? ⟨w.heap.size, 1, none⟩ = some (.int .u8 oo) ∧ W2.drew.cell? ⟨w.heap.size, 2, none⟩ = some (.int .i64 (dn : Int))) := ⟨row_cellsO HO3.out 1 _ rfl, row_cellsO HO3.out 2 _ rfl⟩
    clear p1
    refine wp_region_held (S := fun V => V.cell? ⟨w.heap.size, 1, none⟩ = some (.int .u8 oo) ∧ V.cell? ⟨w.heap.size, 2, none⟩ = some (.int .i64 (dn : Int))) (by kernel_rfl) ?_
    change wpAnyH _ _ _ _ _ _ _ _ W2.drew
    generalize W2.drew = W3 at HSX HB3 HO3 HT3 ⊢
    change wpAnyH _ _ _ _ _ _ _ { tmps := List.toArray (_ :: _ :: _ :: _ :: _ :: _ :: _ :: _ :: _ :: _ :: _ :: _ :: _ :: _ :: _ :: _ :: _ :: _ :: _ :: _ :: _ :: _ :: _ :: _ :: _ :: _ :: _ :: _ :: _ :: _ :: _ :: _ :: _ :: _ :: _ :: _ :: _ :: _ :: _ :: _ :: _ :: _ :: _ :: _ :: _ :: _ :: _ :: _ :: _ :: _ :: _ :: _ :: _ :: _ :: _ :: _ :: _ :: _ :: []), defers := [] } _
    refine dr_take 0 (.pointer (some ⟨g, o, none⟩)) rfl rfl (by kernel_rfl) (by kernel_rfl) (by kernel_rfl) (fun _ _ _ h => h) (fun _ _ => by unfold execOp; go_simp) HSX.out ?_
    change wpAnyH _ _ _ _ _ _ _ { tmps := List.toArray (_ :: _ :: _ :: _ :: _ :: _ :: _ :: _ :: _ :: _ :: _ :: _ :: _ :: _ :: _ :: _ :: _ :: _ :: _ :: _ :: _ :: _ :: _ :: _ :: _ :: _ :: _ :: _ :: _ :: _ :: _ :: _ :: _ :: _ :: _ :: _ :: _ :: _ :: _ :: _ :: _ :: _ :: _ :: _ :: _ :: _ :: _ :: _ :: _ :: _ :: _ :: _ :: _ :: _ :: _ :: _ :: _ :: _ :: []), defers := [] } _
    refine dr_take 1 (.pointer (some ⟨w.heap.size, 2, none⟩)) rfl rfl (by kernel_rfl) (by kernel_rfl) (by kernel_rfl) (fun _ _ _ h => h) (fun _ _ => by unfold execOp; go_simp) HSX.out ?_
    change wpAnyH _ _ _ _ _ _ _ { tmps := List.toArray (_ :: _ :: _ :: _ :: _ :: _ :: _ :: _ :: _ :: _ :: _ :: _ :: _ :: _ :: _ :: _ :: _ :: _ :: _ :: _ :: _ :: _ :: _ :: _ :: _ :: _ :: _ :: _ :: _ :: _ :: _ :: _ :: _ :: _ :: _ :: _ :: _ :: _ :: _ :: _ :: _ :: _ :: _ :: _ :: _ :: _ :: _ :: _ :: _ :: _ :: _ :: _ :: _ :: _ :: _ :: _ :: _ :: _ :: []), defers := [] } _
    refine dr_take 2 (.int .i64 (dn : Int)) rfl rfl (by kernel_rfl) (by kernel_rfl) (by kernel_rfl) (fun _ _ _ h => h) (fun V h => by have h1 := h.2; clear h; unfold execOp; go_simp) HSX.out ?_
    change wpAnyH _ _ _ _ _ _ _ { tmps := List.toArray (_ :: _ :: _ :: _ :: _ :: _ :: _ :: _ :: _ :: _ :: _ :: _ :: _ :: _ :: _ :: _ :: _ :: _ :: _ :: _ :: _ :: _ :: _ :: _ :: _ :: _ :: _ :: _ :: _ :: _ :: _ :: _ :: _ :: _ :: _ :: _ :: _ :: _ :: _ :: _ :: _ :: _ :: _ :: _ :: _ :: _ :: _ :: _ :: _ :: _ :: _ :: _ :: _ :: _ :: _ :: _ :: _ :: _ :: []), defers := [] } _
    refine dr_take 3 (.pointer (some ⟨w.heap.size, 1, none⟩)) rfl rfl (by kernel_rfl) (by kernel_rfl) (by kernel_rfl) (fun _ _ _ h => h) (fun _ _ => by unfold execOp; go_simp) HSX.out ?_
    change wpAnyH _ _ _ _ _ _ _ { tmps := List.toArray (_ :: _ :: _ :: _ :: _ :: _ :: _ :: _ :: _ :: _ :: _ :: _ :: _ :: _ :: _ :: _ :: _ :: _ :: _ :: _ :: _ :: _ :: _ :: _ :: _ :: _ :: _ :: _ :: _ :: _ :: _ :: _ :: _ :: _ :: _ :: _ :: _ :: _ :: _ :: _ :: _ :: _ :: _ :: _ :: _ :: _ :: _ :: _ :: _ :: _ :: _ :: _ :: _ :: _ :: _ :: _ :: _ :: _ :: []), defers := [] } _
    refine dr_take 4 (.int .u8 oo) rfl rfl (by kernel_rfl) (by kernel_rfl) (by kernel_rfl) (fun _ _ _ h => h) (fun V h => by have h1 := h.1; clear h; unfold execOp; go_simp) HSX.out ?_
    change wpAnyH _ _ _ _ _ _ _ { tmps := List.toArray (_ :: _ :: _ :: _ :: _ :: _ :: _ :: _ :: _ :: _ :: _ :: _ :: _ :: _ :: _ :: _ :: _ :: _ :: _ :: _ :: _ :: _ :: _ :: _ :: _ :: _ :: _ :: _ :: _ :: _ :: _ :: _ :: _ :: _ :: _ :: _ :: _ :: _ :: _ :: _ :: _ :: _ :: _ :: _ :: _ :: _ :: _ :: _ :: _ :: _ :: _ :: _ :: _ :: _ :: _ :: _ :: _ :: _ :: []), defers := [] } _
    refine dr_take 5 (.int .i64 x) rfl rfl (by kernel_rfl) (by kernel_rfl) (by kernel_rfl) (fun _ _ _ h => h) (fun _ _ => by unfold execOp; go_simp) HSX.out ?_
    change wpAnyH _ _ _ _ _ _ _ { tmps := List.toArray (_ :: _ :: _ :: _ :: _ :: _ :: _ :: _ :: _ :: _ :: _ :: _ :: _ :: _ :: _ :: _ :: _ :: _ :: _ :: _ :: _ :: _ :: _ :: _ :: _ :: _ :: _ :: _ :: _ :: _ :: _ :: _ :: _ :: _ :: _ :: _ :: _ :: _ :: _ :: _ :: _ :: _ :: _ :: _ :: _ :: _ :: _ :: _ :: _ :: _ :: _ :: _ :: _ :: _ :: _ :: _ :: _ :: _ :: []), defers := [] } _
    refine dr_take 10 (.pointer (some ⟨g, o, none⟩)) rfl rfl (by kernel_rfl) (by kernel_rfl) (by kernel_rfl) (fun _ _ _ h => h) (fun _ _ => by unfold execOp; go_simp) HSX.out ?_
    change wpAnyH _ _ _ _ _ _ _ { tmps := List.toArray (_ :: _ :: _ :: _ :: _ :: _ :: _ :: _ :: _ :: _ :: _ :: _ :: _ :: _ :: _ :: _ :: _ :: _ :: _ :: _ :: _ :: _ :: _ :: _ :: _ :: _ :: _ :: _ :: _ :: _ :: _ :: _ :: _ :: _ :: _ :: _ :: _ :: _ :: _ :: _ :: _ :: _ :: _ :: _ :: _ :: _ :: _ :: _ :: _ :: _ :: _ :: _ :: _ :: _ :: _ :: _ :: _ :: _ :: []), defers := [] } _
    refine dr_take 11 (.pointer (some ⟨g, o, none⟩)) rfl rfl (by kernel_rfl) (by kernel_rfl) (by kernel_rfl) (fun _ _ _ h => h) (fun _ _ => by unfold execOp; go_simp) HSX.out ?_
    change wpAnyH _ _ _ _ _ _ _ { tmps := List.toArray (_ :: _ :: _ :: _ :: _ :: _ :: _ :: _ :: _ :: _ :: _ :: _ :: _ :: _ :: _ :: _ :: _ :: _ :: _ :: _ :: _ :: _ :: _ :: _ :: _ :: _ :: _ :: _ :: _ :: _ :: _ :: _ :: _ :: _ :: _ :: _ :: _ :: _ :: _ :: _ :: _ :: _ :: _ :: _ :: _ :: _ :: _ :: _ :: _ :: _ :: _ :: _ :: _ :: _ :: _ :: _ :: _ :: _ :: []), defers := [] } _
    refine dr_take 12 (.pointer (some ⟨g, o + 2, none⟩)) rfl rfl (by kernel_rfl) (by kernel_rfl) (by kernel_rfl) (fun _ _ _ h => h) (fun _ _ => by unfold execOp; go_simp) HSX.out ?_
    change wpAnyH _ _ _ _ _ _ _ { tmps := List.toArray (_ :: _ :: _ :: _ :: _ :: _ :: _ :: _ :: _ :: _ :: _ :: _ :: _ :: _ :: _ :: _ :: _ :: _ :: _ :: _ :: _ :: _ :: _ :: _ :: _ :: _ :: _ :: _ :: _ :: _ :: _ :: _ :: _ :: _ :: _ :: _ :: _ :: _ :: _ :: _ :: _ :: _ :: _ :: _ :: _ :: _ :: _ :: _ :: _ :: _ :: _ :: _ :: _ :: _ :: _ :: _ :: _ :: _ :: []), defers := [] } _
    refine dr_one 6 rfl rfl (by kernel_rfl) ?_
    refine wp_callT (vs := #[.int .u8 oo, .int .i64 x]) rfl rfl (enters_of Tryd.func86 (by kernel_rfl) rfl) (by simp [Act.eval]) (HON.out _ HT3.out) ?_
    rintro e w5 ⟨f, rfl, hb5⟩
    have HB5 := Lib.hid (HB3.out.trans (hb5.mono HB3.out.size))
    have HO5 := Lib.hid (HO3.out.below hb5)
    have HSY : Hid (w5.cell? ⟨w.heap.size, 1, none⟩ = some (.int .u8 oo) ∧ w5.cell? ⟨w.heap.size, 2, none⟩ = some (.int .i64 (dn : Int))) := ⟨row_cellsO HO5.out 1 _ rfl, row_cellsO HO5.out 2 _ rfl⟩
    clear hb5
    refine ⟨HSY.out, ?_⟩
    change wpAnyH _ _ _ _ _ _ _ { tmps := List.toArray (_ :: _ :: _ :: _ :: _ :: _ :: _ :: _ :: _ :: _ :: _ :: _ :: _ :: _ :: _ :: _ :: _ :: _ :: _ :: _ :: _ :: _ :: _ :: _ :: _ :: _ :: _ :: _ :: _ :: _ :: _ :: _ :: _ :: _ :: _ :: _ :: _ :: _ :: _ :: _ :: _ :: _ :: _ :: _ :: _ :: _ :: _ :: _ :: _ :: _ :: _ :: _ :: _ :: _ :: _ :: _ :: _ :: _ :: []), defers := [] } _
    refine dr_one 7 rfl rfl (by kernel_rfl) ?_
    refine wv_val (w' := w5) (v := .tuple #[.int .i64 (oneX oo x), .int .i64 f]) (by unfold execOp; go_simp) ⟨HSY.out, ?_⟩
    change wpAnyH _ _ _ _ _ _ _ { tmps := List.toArray (_ :: _ :: _ :: _ :: _ :: _ :: _ :: _ :: _ :: _ :: _ :: _ :: _ :: _ :: _ :: _ :: _ :: _ :: _ :: _ :: _ :: _ :: _ :: _ :: _ :: _ :: _ :: _ :: _ :: _ :: _ :: _ :: _ :: _ :: _ :: _ :: _ :: _ :: _ :: _ :: _ :: _ :: _ :: _ :: _ :: _ :: _ :: _ :: _ :: _ :: _ :: _ :: _ :: _ :: _ :: _ :: _ :: _ :: []), defers := [] } _
    refine dr_take 9 (.int .i64 f) rfl rfl (by kernel_rfl) (by kernel_rfl) (by kernel_rfl) (fun _ _ _ h => h) (fun _ _ => by unfold execOp; go_simp) HSY.out ?_
    change wpAnyH _ _ _ _ _ _ _ { tmps := List.toArray (_ :: _ :: _ :: _ :: _ :: _ :: _ :: _ :: _ :: _ :: _ :: _ :: _ :: _ :: _ :: _ :: _ :: _ :: _ :: _ :: _ :: _ :: _ :: _ :: _ :: _ :: _ :: _ :: _ :: _ :: _ :: _ :: _ :: _ :: _ :: _ :: _ :: _ :: _ :: _ :: _ :: _ :: _ :: _ :: _ :: _ :: _ :: _ :: _ :: _ :: _ :: _ :: _ :: _ :: _ :: _ :: _ :: _ :: []), defers := [] } _
    refine dr_take 8 (.int .i64 (oneX oo x)) rfl rfl (by kernel_rfl) (by kernel_rfl) (by kernel_rfl) (fun _ _ _ h => h) (fun _ _ => by unfold execOp; go_simp) HSY.out ?_
    change wpAnyH _ _ _ _ _ _ _ { tmps := List.toArray (_ :: _ :: _ :: _ :: _ :: _ :: _ :: _ :: _ :: _ :: _ :: _ :: _ :: _ :: _ :: _ :: _ :: _ :: _ :: _ :: _ :: _ :: _ :: _ :: _ :: _ :: _ :: _ :: _ :: _ :: _ :: _ :: _ :: _ :: _ :: _ :: _ :: _ :: _ :: _ :: _ :: _ :: _ :: _ :: _ :: _ :: _ :: _ :: _ :: _ :: _ :: _ :: _ :: _ :: _ :: _ :: _ :: _ :: []), defers := [] } _
    refine dr_one 13 rfl rfl (by kernel_rfl) ?_
    refine wv_val (w' := w5) (v := .pointer (some ⟨g, o + 2 + dn, none⟩)) (by have h16 := HD16.out; unfold execOp; go_simp) ⟨HSY.out, ?_⟩
    change wpAnyH _ _ _ _ _ _ _ { tmps := List.toArray (_ :: _ :: _ :: _ :: _ :: _ :: _ :: _ :: _ :: _ :: _ :: _ :: _ :: _ :: _ :: _ :: _ :: _ :: _ :: _ :: _ :: _ :: _ :: _ :: _ :: _ :: _ :: _ :: _ :: _ :: _ :: _ :: _ :: _ :: _ :: _ :: _ :: _ :: _ :: _ :: _ :: _ :: _ :: _ :: _ :: _ :: _ :: _ :: _ :: _ :: _ :: _ :: _ :: _ :: _ :: _ :: _ :: _ :: []), defers := [] } _
    refine dr_one 14 rfl rfl (by kernel_rfl) ?_
    refine wp_stI rfl rfl rfl ((HB5.out.cell (p := ⟨g, o + 2 + dn, none⟩) HG.out).trans HC0.out) (frozen_below HB5.out HG.out HF0.out) ⟨⟨(World.cell?_setCell_far _ _ _ _ (by show g ≠ w.heap.size; have := HG.out; omega)).trans HSY.out.1, (World.cell?_setCell_far _ _ _ _ (by show g ≠ w.heap.size; have := HG.out; omega)).trans HSY.out.2⟩, ?_⟩
    refine wpAnyH_done (by kernel_rfl) ?_ _
    try go_wp2_with fail
    refine bodyPost_end (results_none rfl _ _ _) rfl ⟨rfl, ?_⟩
    rw [show opX oo x y = (oneX oo x) by simp [opX, ht]]
    exact below_both HB5.out _ _
end Go.Proofs.YtmpljhfinmfnbaaDoor

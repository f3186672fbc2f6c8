/- What was printed goes on. -/
import Derived.Test.YtmpljhfinmfnbaaDoorVh0
namespace Go.Proofs.YtmpljhfinmfnbaaDoor
open Go.RowKit
set_option linter.unusedVariables false
set_option maxRecDepth 100000
theorem rowPr : RowT 72 2 := ⟨_, Tryd.underlying72, rfl, by kernel_rfl⟩
set_option maxHeartbeats 4000000 in
theorem p_Then {w : World} {sd : Option Addr} {l : List (Int × Int)} (h : saidR w sd l) (hl : l.length ≤ 4611686018427387904) (t x : Int) :
    Calls Tryd.prog 89 #[.pointer sd, .agg #[.int .i64 t, .int .i64 x]] w fun e w' => ∃ g, e = .returned (.pointer (some ⟨g, 0, none⟩)) ∧ w.heap.size ≤ g ∧ Own w' g 140 #[.pointer sd, .int .i64 t, .int .i64 x, .int .i64 ((l.length + 1 : Nat) : Int)] ∧ Below w.heap.size w w' := by
  have al := (Below.refl w.heap.size w).alloc (Nat.le_refl _) (.cells #[.int .i64 t, .int .i64 x] 72)
  have O1 := Own.new w 72 #[.int .i64 t, .int .i64 x]
  obtain ⟨W1, hW1⟩ : ∃ W, W = w.alloc (.cells #[.int .i64 t, .int .i64 x] 72) := ⟨_, rfl⟩
  rw [← hW1] at al O1
  have HW1 := Lib.hid hW1
  have dw : Below W1.heap.size W1 W1.drew := below_drewN (Below.refl _ W1) 1
  have HB : Hid (Below w.heap.size w W1.drew) := al.trans (dw.mono al.size)
  have HSX : Hid (Own W1.drew w.heap.size 72 #[.int .i64 t, .int .i64 x]) := O1.below dw
  have HSA : Hid (saidR W1.drew sd l) := saidR_keep (G := []) (keepV_below (al.trans (dw.mono al.size))) _ _ h
  have ew : IntKind.i64.wrap ((l.length : Int) + 1) = (l.length : Int) + 1 := by rw [IntKind.wrap_i64]; omega
  clear al O1 hW1 h dw
  go_enter Tryd.func89, Tryd.ntmps89
  go_upto_region 1 with fail
  rw [← HW1.out]
  clear HW1
  refine wp_region_held (S := fun V => Own V w.heap.size 72 #[.int .i64 t, .int .i64 x]) (by kernel_rfl) ?_
  change wpAnyH _ _ _ _ _ _ _ _ W1.drew
  generalize W1.drew = W2 at HB HSX HSA ⊢
  change wpAnyH _ _ _ _ _ _ _ { tmps := List.toArray (_ :: _ :: _ :: _ :: _ :: _ :: _ :: _ :: _ :: _ :: _ :: _ :: []), defers := [] } _
  refine dr_take 0 (.pointer sd) rfl rfl (by kernel_rfl) (by kernel_rfl) (by kernel_rfl) (fun _ _ _ h => h) (fun _ _ => by unfold execOp; go_simp) HSX.out ?_
  change wpAnyH _ _ _ _ _ _ _ { tmps := List.toArray (_ :: _ :: _ :: _ :: _ :: _ :: _ :: _ :: _ :: _ :: _ :: _ :: []), defers := [] } _
  refine dr_take 1 (.agg #[.int .i64 t, .int .i64 x]) rfl rfl (by kernel_rfl) (by kernel_rfl) (by kernel_rfl) (fun _ _ _ h => h) (fun _ h => run_ldT rowPr rfl rfl h rfl) HSX.out ?_
  change wpAnyH _ _ _ _ _ _ _ { tmps := List.toArray (_ :: _ :: _ :: _ :: _ :: _ :: _ :: _ :: _ :: _ :: _ :: _ :: []), defers := [] } _
  refine dr_take 2 (.pointer sd) rfl rfl (by kernel_rfl) (by kernel_rfl) (by kernel_rfl) (fun _ _ _ h => h) (fun _ _ => by unfold execOp; go_simp) HSX.out ?_
  change wpAnyH _ _ _ _ _ _ _ { tmps := List.toArray (_ :: _ :: _ :: _ :: _ :: _ :: _ :: _ :: _ :: _ :: _ :: _ :: []), defers := [] } _
  refine dr_one 3 rfl rfl (by kernel_rfl) ?_
  refine wp_callT (vs := #[.pointer sd]) rfl rfl (enters_of Tryd.func74 (by kernel_rfl) rfl) (by simp [Act.eval]) (p_length HSA.out hl) ?_
  rintro e w3 ⟨rfl, rfl⟩
  refine ⟨HSX.out, ?_⟩
  change wpAnyH _ _ _ _ _ _ _ { tmps := List.toArray (_ :: _ :: _ :: _ :: _ :: _ :: _ :: _ :: _ :: _ :: _ :: _ :: []), defers := [] } _
  refine dr_take 4 (.int .i64 ((l.length + 1 : Nat) : Int)) rfl rfl (by kernel_rfl) (by kernel_rfl) (by kernel_rfl) (fun _ _ _ h => h) (fun _ _ => by unfold execOp; go_simp <;> simp [ew]) HSX.out ?_
  change wpAnyH _ _ _ _ _ _ _ { tmps := List.toArray (_ :: _ :: _ :: _ :: _ :: _ :: _ :: _ :: _ :: _ :: _ :: _ :: []), defers := [] } _
  refine dr_take 5 (.agg #[.pointer sd, .int .i64 t, .int .i64 x, .int .i64 ((l.length + 1 : Nat) : Int)]) rfl rfl (by kernel_rfl) (by kernel_rfl) (by kernel_rfl) (fun _ _ _ h => h) (fun _ _ => by unfold execOp; go_simp) HSX.out ?_
  change wpAnyH _ _ _ _ _ _ _ { tmps := List.toArray (_ :: _ :: _ :: _ :: _ :: _ :: _ :: _ :: _ :: _ :: _ :: _ :: []), defers := [] } _
  refine dr_one 6 rfl rfl (by kernel_rfl) ?_
  refine wv_val (w' := W2.alloc (.cells #[.pointer sd, .int .i64 t, .int .i64 x, .int .i64 ((l.length + 1 : Nat) : Int)] 140)) (v := .pointer (some ⟨W2.heap.size, 0, none⟩)) (by unfold execOp; go_simp) ⟨HSX.out.below ((Below.refl _ W2).alloc (Nat.le_refl _) _), ?_⟩
  change wpAnyH _ _ _ _ _ _ _ { tmps := List.toArray (_ :: _ :: _ :: _ :: _ :: _ :: _ :: _ :: _ :: _ :: _ :: _ :: []), defers := [] } _
  refine dr_one 7 rfl rfl (by kernel_rfl) ?_
  refine wv_val (w' := W2.alloc (.cells #[.pointer sd, .int .i64 t, .int .i64 x, .int .i64 ((l.length + 1 : Nat) : Int)] 140)) (v := .pointer (some ⟨W2.heap.size, 0, none⟩)) (by unfold execOp; go_simp) ⟨HSX.out.below ((Below.refl _ W2).alloc (Nat.le_refl _) _), ?_⟩
  refine wpAnyH_done (by kernel_rfl) ?_ _
  go_wp2_with fail
  go_ret
  exact ⟨_, rfl, HB.out.size, Own.new W2 140 _, HB.out.trans (((Below.refl _ W2).alloc (Nat.le_refl _) _).mono HB.out.size)⟩
end Go.Proofs.YtmpljhfinmfnbaaDoor

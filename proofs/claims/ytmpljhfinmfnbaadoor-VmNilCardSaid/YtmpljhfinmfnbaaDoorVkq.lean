/- A machine that is nil. -/
import Derived.Test.YtmpljhfinmfnbaaDoorVkp
namespace Go.Proofs.YtmpljhfinmfnbaaDoor
open Go.RowKit
set_option linter.unusedVariables false
set_option maxRecDepth 100000
def viewZ : Array Value := #[.int .i64 0, .bool false, .int .i64 0, .int .i64 0, .int .i64 0, .int .i64 0, .int .i64 0, .int .i64 0, .int .i64 0, .int .i64 0, .int .i64 0, .int .i64 0, .int .i64 0, .int .i64 0, .int .i64 0, .int .i64 0, .int .i64 0, .int .i64 0, .slice none 0 0]
theorem rowV : RowT 56 19 := ⟨_, Tryd.underlying56, rfl, by kernel_rfl⟩
theorem n_Fork (w : World) : Calls Tryd.prog 21 #[.pointer none] w fun e w' => e = .returned (.pointer none) ∧ w = w' := by
  go_enter Tryd.func21, Tryd.ntmps21
  go_wp2
  go_ret
  exact ⟨rfl, rfl⟩
theorem n_Cores (w : World) : Calls Tryd.prog 23 #[.pointer none] w fun e w' => e = .returned (.int .i64 0) ∧ w = w' := by
  go_enter Tryd.func23, Tryd.ntmps23
  go_wp2
  go_ret
  exact ⟨rfl, rfl⟩
theorem n_Memory (w : World) : Calls Tryd.prog 24 #[.pointer none] w fun e w' => e = .returned (.slice none 0 0) ∧ w = w' := by
  go_enter Tryd.func24, Tryd.ntmps24
  go_wp2
  go_ret
  exact ⟨rfl, rfl⟩
theorem n_Prints (w : World) : Calls Tryd.prog 25 #[.pointer none] w fun e w' => e = .returned (.slice none 0 0) ∧ w = w' := by
  go_enter Tryd.func25, Tryd.ntmps25
  go_wp2
  go_ret
  exact ⟨rfl, rfl⟩
theorem n_Ended (w : World) : Calls Tryd.prog 27 #[.pointer none] w fun e w' => e = .returned (.bool false) ∧ w = w' := by
  go_enter Tryd.func27, Tryd.ntmps27
  go_wp2
  go_ret
  exact ⟨rfl, rfl⟩
theorem n_Ready (w : World) : Calls Tryd.prog 26 #[.pointer none] w fun e w' => e = .returned (.slice none 0 0) ∧ w = w' := by
  go_enter Tryd.func26, Tryd.ntmps26
  go_wp2
  go_ret
  exact ⟨rfl, rfl⟩
theorem n_Run (w : World) (k : Int) : Calls Tryd.prog 17 #[.pointer none, .int .i64 k] w fun e w' => e = .returned (.tuple #[.agg #[.int .u8 0, .int .i64 0, .int .i64 0, .int .i64 0, .int .i64 0, .int .i64 0, .bool false], .int .i64 1]) ∧ Below w.heap.size w w' := by
  have al := (Below.refl w.heap.size w).alloc (Nat.le_refl _) (.cells #[.int .u8 0, .int .i64 0, .int .i64 0, .int .i64 0, .int .i64 0, .int .i64 0, .bool false] 42)
  have O1 := Own.new w 42 #[.int .u8 0, .int .i64 0, .int .i64 0, .int .i64 0, .int .i64 0, .int .i64 0, .bool false]
  have HB := Lib.hid al
  obtain ⟨W1, hW1⟩ : ∃ W, W = w.alloc (.cells #[.int .u8 0, .int .i64 0, .int .i64 0, .int .i64 0, .int .i64 0, .int .i64 0, .bool false] 42) := ⟨_, rfl⟩
  rw [← hW1] at O1 HB
  have HW1 := Lib.hid hW1
  clear hW1 al
  go_enter Tryd.func17, Tryd.ntmps17
  go_upto_region 1 with fail
  rw [← HW1.out]
  clear HW1
  go_wp2_with (first | (go_at_call 39; refine (p_refusal_nil _ _).mono ?_; rintro e w' ⟨rfl, rfl⟩) | (refine st rowD rfl rfl O1 rfl rfl (by rfl) (by rfl) (by kernel_rfl) ?_))
  exact p_ret2 rowD rfl (O1.row _) rfl rfl rfl rfl ⟨rfl, Below.of_row HB.out (Nat.le_refl _) _⟩
theorem n_Drain (w : World) (k : Int) : Calls Tryd.prog 18 #[.pointer none, .int .i64 k] w fun e w' => e = .returned (.tuple #[.agg #[.int .u8 0, .int .i64 0, .int .i64 0, .int .i64 0, .int .i64 0, .int .i64 0, .bool false], .int .i64 1]) ∧ Below w.heap.size w w' := by
  have al := (Below.refl w.heap.size w).alloc (Nat.le_refl _) (.cells #[.int .u8 0, .int .i64 0, .int .i64 0, .int .i64 0, .int .i64 0, .int .i64 0, .bool false] 42)
  have O1 := Own.new w 42 #[.int .u8 0, .int .i64 0, .int .i64 0, .int .i64 0, .int .i64 0, .int .i64 0, .bool false]
  have HB := Lib.hid al
  obtain ⟨W1, hW1⟩ : ∃ W, W = w.alloc (.cells #[.int .u8 0, .int .i64 0, .int .i64 0, .int .i64 0, .int .i64 0, .int .i64 0, .bool false] 42) := ⟨_, rfl⟩
  rw [← hW1] at O1 HB
  have HW1 := Lib.hid hW1
  clear hW1 al
  go_enter Tryd.func18, Tryd.ntmps18
  go_upto_region 1 with fail
  rw [← HW1.out]
  clear HW1
  go_wp2_with (first | (go_at_call 39; refine (p_refusal_nil _ _).mono ?_; rintro e w' ⟨rfl, rfl⟩) | (refine st rowD rfl rfl O1 rfl rfl (by rfl) (by rfl) (by kernel_rfl) ?_))
  exact p_ret2 rowD rfl (O1.row _) rfl rfl rfl rfl ⟨rfl, Below.of_row HB.out (Nat.le_refl _) _⟩
theorem n_View (w : World) (k : Int) : Calls Tryd.prog 20 #[.pointer none, .int .i64 k] w fun e w' => e = .returned (.tuple #[.agg #[.int .i64 0, .bool false, .int .i64 0, .int .i64 0, .int .i64 0, .int .i64 0, .int .i64 0, .int .i64 0, .int .i64 0, .int .i64 0, .int .i64 0, .int .i64 0, .int .i64 0, .int .i64 0, .int .i64 0, .int .i64 0, .int .i64 0, .int .i64 0, .slice none 0 0], .int .i64 1]) ∧ Below w.heap.size w w' := by
  have al := (Below.refl w.heap.size w).alloc (Nat.le_refl _) (.cells #[.int .i64 0, .bool false, .int .i64 0, .int .i64 0, .int .i64 0, .int .i64 0, .int .i64 0, .int .i64 0, .int .i64 0, .int .i64 0, .int .i64 0, .int .i64 0, .int .i64 0, .int .i64 0, .int .i64 0, .int .i64 0, .int .i64 0, .int .i64 0, .slice none 0 0] 56)
  have O1 := Own.new w 56 #[.int .i64 0, .bool false, .int .i64 0, .int .i64 0, .int .i64 0, .int .i64 0, .int .i64 0, .int .i64 0, .int .i64 0, .int .i64 0, .int .i64 0, .int .i64 0, .int .i64 0, .int .i64 0, .int .i64 0, .int .i64 0, .int .i64 0, .int .i64 0, .slice none 0 0]
  have HB := Lib.hid al
  obtain ⟨W1, hW1⟩ : ∃ W, W = w.alloc (.cells #[.int .i64 0, .bool false, .int .i64 0, .int .i64 0, .int .i64 0, .int .i64 0, .int .i64 0, .int .i64 0, .int .i64 0, .int .i64 0, .int .i64 0, .int .i64 0, .int .i64 0, .int .i64 0, .int .i64 0, .int .i64 0, .int .i64 0, .int .i64 0, .slice none 0 0] 56) := ⟨_, rfl⟩
  rw [← hW1] at O1 HB
  have HW1 := Lib.hid hW1
  clear hW1 al
  go_enter Tryd.func20, Tryd.ntmps20
  go_upto_region 1 with fail
  rw [← HW1.out]
  clear HW1
  go_wp2_with (first | (go_at_call 39; refine (p_refusal_nil _ _).mono ?_; rintro e w' ⟨rfl, rfl⟩) | (refine st rowV rfl rfl O1 rfl rfl (by rfl) (by rfl) (by kernel_rfl) ?_))
  exact p_ret2 rowV rfl (O1.row _) rfl rfl rfl rfl ⟨rfl, Below.of_row HB.out (Nat.le_refl _) _⟩
theorem n_Step (w : World) (q k : Int) : Calls Tryd.prog 19 #[.pointer none, .agg #[.int .u8 q, .int .i64 k]] w fun e w' => e = .returned (.tuple #[.agg #[.int .u8 0, .int .i64 0, .int .i64 0, .int .i64 0, .int .i64 0, .int .i64 0, .bool false], .int .i64 1]) ∧ Below w.heap.size w w' := by
  have hb := ((Below.refl w.heap.size w).alloc (Nat.le_refl _) (.cells #[.int .u8 q, .int .i64 k] 47)).alloc (by simp) (.cells #[.int .u8 0, .int .i64 0, .int .i64 0, .int .i64 0, .int .i64 0, .int .i64 0, .bool false] 42)
  have O1 : Own ((w.alloc (.cells #[.int .u8 q, .int .i64 k] 47)).alloc (.cells #[.int .u8 0, .int .i64 0, .int .i64 0, .int .i64 0, .int .i64 0, .int .i64 0, .bool false] 42)) (w.heap.size + 1) 42 #[.int .u8 0, .int .i64 0, .int .i64 0, .int .i64 0, .int .i64 0, .int .i64 0, .bool false] := by
    have h1 := Own.new (w.alloc (.cells #[.int .u8 q, .int .i64 k] 47)) 42 #[.int .u8 0, .int .i64 0, .int .i64 0, .int .i64 0, .int .i64 0, .int .i64 0, .bool false]
    rwa [World.size_alloc] at h1
  have HB := Lib.hid hb
  obtain ⟨W1, hW1⟩ : ∃ W, W = (w.alloc (.cells #[.int .u8 q, .int .i64 k] 47)).alloc (.cells #[.int .u8 0, .int .i64 0, .int .i64 0, .int .i64 0, .int .i64 0, .int .i64 0, .bool false] 42) := ⟨_, rfl⟩
  rw [← hW1] at O1 HB
  have HW1 := Lib.hid hW1
  clear hW1 hb
  go_enter Tryd.func19, Tryd.ntmps19
  go_upto_region 1 with fail
  rw [← HW1.out]
  clear HW1
  go_wp2_with (refine st rowD rfl rfl O1 rfl rfl (by rfl) (by rfl) (by kernel_rfl) ?_)
  exact p_ret2 rowD rfl (O1.row _) rfl rfl rfl rfl ⟨rfl, Below.of_row HB.out (by omega) _⟩
set_option maxHeartbeats 4000000 in
theorem n_SameCore (w : World) : Calls Tryd.prog 22 #[.agg #[.int .i64 0, .bool false, .int .i64 0, .int .i64 0, .int .i64 0, .int .i64 0, .int .i64 0, .int .i64 0, .int .i64 0, .int .i64 0, .int .i64 0, .int .i64 0, .int .i64 0, .int .i64 0, .int .i64 0, .int .i64 0, .int .i64 0, .int .i64 0, .slice none 0 0], .agg #[.int .i64 0, .bool false, .int .i64 0, .int .i64 0, .int .i64 0, .int .i64 0, .int .i64 0, .int .i64 0, .int .i64 0, .int .i64 0, .int .i64 0, .int .i64 0, .int .i64 0, .int .i64 0, .int .i64 0, .int .i64 0, .int .i64 0, .int .i64 0, .slice none 0 0]] w fun e w' => e = .returned (.bool true) ∧ Below w.heap.size w w' := by
  have hb := ((Below.refl w.heap.size w).alloc (Nat.le_refl _) (.cells #[.int .i64 0, .bool false, .int .i64 0, .int .i64 0, .int .i64 0, .int .i64 0, .int .i64 0, .int .i64 0, .int .i64 0, .int .i64 0, .int .i64 0, .int .i64 0, .int .i64 0, .int .i64 0, .int .i64 0, .int .i64 0, .int .i64 0, .int .i64 0, .slice none 0 0] 56)).alloc (by simp) (.cells #[.int .i64 0, .bool false, .int .i64 0, .int .i64 0, .int .i64 0, .int .i64 0, .int .i64 0, .int .i64 0, .int .i64 0, .int .i64 0, .int .i64 0, .int .i64 0, .int .i64 0, .int .i64 0, .int .i64 0, .int .i64 0, .int .i64 0, .int .i64 0, .slice none 0 0] 56)
  have O0 := (Own.new w 56 #[.int .i64 0, .bool false, .int .i64 0, .int .i64 0, .int .i64 0, .int .i64 0, .int .i64 0, .int .i64 0, .int .i64 0, .int .i64 0, .int .i64 0, .int .i64 0, .int .i64 0, .int .i64 0, .int .i64 0, .int .i64 0, .int .i64 0, .int .i64 0, .slice none 0 0]).alloc (.cells #[.int .i64 0, .bool false, .int .i64 0, .int .i64 0, .int .i64 0, .int .i64 0, .int .i64 0, .int .i64 0, .int .i64 0, .int .i64 0, .int .i64 0, .int .i64 0, .int .i64 0, .int .i64 0, .int .i64 0, .int .i64 0, .int .i64 0, .int .i64 0, .slice none 0 0] 56)
  have O1 : Own ((w.alloc (.cells #[.int .i64 0, .bool false, .int .i64 0, .int .i64 0, .int .i64 0, .int .i64 0, .int .i64 0, .int .i64 0, .int .i64 0, .int .i64 0, .int .i64 0, .int .i64 0, .int .i64 0, .int .i64 0, .int .i64 0, .int .i64 0, .int .i64 0, .int .i64 0, .slice none 0 0] 56)).alloc (.cells #[.int .i64 0, .bool false, .int .i64 0, .int .i64 0, .int .i64 0, .int .i64 0, .int .i64 0, .int .i64 0, .int .i64 0, .int .i64 0, .int .i64 0, .int .i64 0, .int .i64 0, .int .i64 0, .int .i64 0, .int .i64 0, .int .i64 0, .int .i64 0, .slice none 0 0] 56)) (w.heap.size + 1) 56 #[.int .i64 0, .bool false, .int .i64 0, .int .i64 0, .int .i64 0, .int .i64 0, .int .i64 0, .int .i64 0, .int .i64 0, .int .i64 0, .int .i64 0, .int .i64 0, .int .i64 0, .int .i64 0, .int .i64 0, .int .i64 0, .int .i64 0, .int .i64 0, .slice none 0 0] := by
    have h1 := Own.new (w.alloc (.cells #[.int .i64 0, .bool false, .int .i64 0, .int .i64 0, .int .i64 0, .int .i64 0, .int .i64 0, .int .i64 0, .int .i64 0, .int .i64 0, .int .i64 0, .int .i64 0, .int .i64 0, .int .i64 0, .int .i64 0, .int .i64 0, .int .i64 0, .int .i64 0, .slice none 0 0] 56)) 56 #[.int .i64 0, .bool false, .int .i64 0, .int .i64 0, .int .i64 0, .int .i64 0, .int .i64 0, .int .i64 0, .int .i64 0, .int .i64 0, .int .i64 0, .int .i64 0, .int .i64 0, .int .i64 0, .int .i64 0, .int .i64 0, .int .i64 0, .int .i64 0, .slice none 0 0]
    rwa [World.size_alloc] at h1
  have HB := Lib.hid hb
  obtain ⟨W1, hW1⟩ : ∃ W, W = (w.alloc (.cells #[.int .i64 0, .bool false, .int .i64 0, .int .i64 0, .int .i64 0, .int .i64 0, .int .i64 0, .int .i64 0, .int .i64 0, .int .i64 0, .int .i64 0, .int .i64 0, .int .i64 0, .int .i64 0, .int .i64 0, .int .i64 0, .int .i64 0, .int .i64 0, .slice none 0 0] 56)).alloc (.cells #[.int .i64 0, .bool false, .int .i64 0, .int .i64 0, .int .i64 0, .int .i64 0, .int .i64 0, .int .i64 0, .int .i64 0, .int .i64 0, .int .i64 0, .int .i64 0, .int .i64 0, .int .i64 0, .int .i64 0, .int .i64 0, .int .i64 0, .int .i64 0, .slice none 0 0] 56) := ⟨_, rfl⟩
  rw [← hW1] at O0 O1 HB
  have HW1 := Lib.hid hW1
  have o0_0 : W1.cell? ⟨w.heap.size, 0, none⟩ = some (.int .i64 0) := row_cellsO O0 0 _ rfl
  have o0_1 : W1.cell? ⟨w.heap.size, 1, none⟩ = some (.bool false) := row_cellsO O0 1 _ rfl
  have o0_2 : W1.cell? ⟨w.heap.size, 2, none⟩ = some (.int .i64 0) := row_cellsO O0 2 _ rfl
  have o0_3 : W1.cell? ⟨w.heap.size, 3, none⟩ = some (.int .i64 0) := row_cellsO O0 3 _ rfl
  have o0_4 : W1.cell? ⟨w.heap.size, 4, none⟩ = some (.int .i64 0) := row_cellsO O0 4 _ rfl
  have o0_5 : W1.cell? ⟨w.heap.size, 5, none⟩ = some (.int .i64 0) := row_cellsO O0 5 _ rfl
  have o0_6 : W1.cell? ⟨w.heap.size, 6, none⟩ = some (.int .i64 0) := row_cellsO O0 6 _ rfl
  have o0_7 : W1.cell? ⟨w.heap.size, 7, none⟩ = some (.int .i64 0) := row_cellsO O0 7 _ rfl
  have o0_8 : W1.cell? ⟨w.heap.size, 8, none⟩ = some (.int .i64 0) := row_cellsO O0 8 _ rfl
  have o0_9 : W1.cell? ⟨w.heap.size, 9, none⟩ = some (.int .i64 0) := row_cellsO O0 9 _ rfl
  have o0_10 : W1.cell? ⟨w.heap.size, 10, none⟩ = some (.int .i64 0) := row_cellsO O0 10 _ rfl
  have o0_11 : W1.cell? ⟨w.heap.size, 11, none⟩ = some (.int .i64 0) := row_cellsO O0 11 _ rfl
  have o0_12 : W1.cell? ⟨w.heap.size, 12, none⟩ = some (.int .i64 0) := row_cellsO O0 12 _ rfl
  have o0_13 : W1.cell? ⟨w.heap.size, 13, none⟩ = some (.int .i64 0) := row_cellsO O0 13 _ rfl
  have o0_14 : W1.cell? ⟨w.heap.size, 14, none⟩ = some (.int .i64 0) := row_cellsO O0 14 _ rfl
  have o0_15 : W1.cell? ⟨w.heap.size, 15, none⟩ = some (.int .i64 0) := row_cellsO O0 15 _ rfl
  have o0_16 : W1.cell? ⟨w.heap.size, 16, none⟩ = some (.int .i64 0) := row_cellsO O0 16 _ rfl
  have o0_17 : W1.cell? ⟨w.heap.size, 17, none⟩ = some (.int .i64 0) := row_cellsO O0 17 _ rfl
  have o0_18 : W1.cell? ⟨w.heap.size, 18, none⟩ = some (.slice none 0 0) := row_cellsO O0 18 _ rfl
  have o1_0 : W1.cell? ⟨w.heap.size + 1, 0, none⟩ = some (.int .i64 0) := row_cellsO O1 0 _ rfl
  have o1_1 : W1.cell? ⟨w.heap.size + 1, 1, none⟩ = some (.bool false) := row_cellsO O1 1 _ rfl
  have o1_2 : W1.cell? ⟨w.heap.size + 1, 2, none⟩ = some (.int .i64 0) := row_cellsO O1 2 _ rfl
  have o1_3 : W1.cell? ⟨w.heap.size + 1, 3, none⟩ = some (.int .i64 0) := row_cellsO O1 3 _ rfl
  have o1_4 : W1.cell? ⟨w.heap.size + 1, 4, none⟩ = some (.int .i64 0) := row_cellsO O1 4 _ rfl
  have o1_5 : W1.cell? ⟨w.heap.size + 1, 5, none⟩ = some (.int .i64 0) := row_cellsO O1 5 _ rfl
  have o1_6 : W1.cell? ⟨w.heap.size + 1, 6, none⟩ = some (.int .i64 0) := row_cellsO O1 6 _ rfl
  have o1_7 : W1.cell? ⟨w.heap.size + 1, 7, none⟩ = some (.int .i64 0) := row_cellsO O1 7 _ rfl
  have o1_8 : W1.cell? ⟨w.heap.size + 1, 8, none⟩ = some (.int .i64 0) := row_cellsO O1 8 _ rfl
  have o1_9 : W1.cell? ⟨w.heap.size + 1, 9, none⟩ = some (.int .i64 0) := row_cellsO O1 9 _ rfl
  have o1_10 : W1.cell? ⟨w.heap.size + 1, 10, none⟩ = some (.int .i64 0) := row_cellsO O1 10 _ rfl
  have o1_11 : W1.cell? ⟨w.heap.size + 1, 11, none⟩ = some (.int .i64 0) := row_cellsO O1 11 _ rfl
  have o1_12 : W1.cell? ⟨w.heap.size + 1, 12, none⟩ = some (.int .i64 0) := row_cellsO O1 12 _ rfl
  have o1_13 : W1.cell? ⟨w.heap.size + 1, 13, none⟩ = some (.int .i64 0) := row_cellsO O1 13 _ rfl
  have o1_14 : W1.cell? ⟨w.heap.size + 1, 14, none⟩ = some (.int .i64 0) := row_cellsO O1 14 _ rfl
  have o1_15 : W1.cell? ⟨w.heap.size + 1, 15, none⟩ = some (.int .i64 0) := row_cellsO O1 15 _ rfl
  have o1_16 : W1.cell? ⟨w.heap.size + 1, 16, none⟩ = some (.int .i64 0) := row_cellsO O1 16 _ rfl
  have o1_17 : W1.cell? ⟨w.heap.size + 1, 17, none⟩ = some (.int .i64 0) := row_cellsO O1 17 _ rfl
  have o1_18 : W1.cell? ⟨w.heap.size + 1, 18, none⟩ = some (.slice none 0 0) := row_cellsO O1 18 _ rfl
  have hcmp : ∀ V, (binOp .neq 53 (.agg #[.int .i64 0, .int .i64 0, .int .i64 0, .int .i64 0, .int .i64 0, .int .i64 0, .int .i64 0, .int .i64 0, .int .i64 0, .int .i64 0, .int .i64 0, .int .i64 0, .int .i64 0, .int .i64 0, .int .i64 0, .int .i64 0]) (.agg #[.int .i64 0, .int .i64 0, .int .i64 0, .int .i64 0, .int .i64 0, .int .i64 0, .int .i64 0, .int .i64 0, .int .i64 0, .int .i64 0, .int .i64 0, .int .i64 0, .int .i64 0, .int .i64 0, .int .i64 0, .int .i64 0])).run Tryd.prog V = .ok (.bool false) V := fun _ => by kernel_rfl
  clear hW1 hb
  go_enter Tryd.func22, Tryd.ntmps22
  go_upto_region 1 with fail
  rw [← HW1.out]
  clear HW1
  go_wp2_with fail
  go_loopg [5] 1 (fun m' u W => m' = 1 ∧ u = .int .i64 0 ∧ W = W1)
  case atStart => exact ⟨rfl, rfl, rfl⟩
  case round =>
    obtain ⟨_, rfl, rfl⟩ := hrel
    go_wp2_with fail
    go_ret
    exact ⟨rfl, HB.out⟩
end Go.Proofs.YtmpljhfinmfnbaaDoor

/- Words: what each operator of the table makes of its two, and of its one. -/
import Derived.Test.YtmpljhfinmfnbaaDoorGt1
import Derived.Lib.Hide
import Derived.WalkLawsBesides
import Derived.Laws.Rows
import Derived.Laws.Tables
namespace Go.Proofs.YtmpljhfinmfnbaaDoor
open Go.RowKit
set_option linter.unusedVariables false
set_option maxRecDepth 100000
def opsCells : Array Value := #[.nilFunc, .nilFunc, .func (.func 107) #[] #[], .nilFunc, .func (.func 108) #[] #[], .nilFunc, .func (.func 109) #[] #[], .nilFunc, .func (.func 110) #[] #[], .nilFunc, .func (.func 111) #[] #[], .nilFunc, .func (.func 112) #[] #[], .nilFunc, .func (.func 113) #[] #[], .nilFunc, .func (.func 114) #[] #[], .nilFunc, .func (.func 115) #[] #[], .nilFunc, .func (.func 116) #[] #[], .nilFunc, .func (.func 117) #[] #[], .nilFunc, .func (.func 119) #[] #[], .nilFunc, .func (.func 120) #[] #[], .nilFunc, .func (.func 121) #[] #[], .nilFunc, .func (.func 122) #[] #[], .nilFunc, .func (.func 123) #[] #[], .nilFunc, .nilFunc, .func (.func 124) #[] #[], .nilFunc, .func (.func 125) #[] #[]]
def opsV : Value := .agg opsCells
theorem below_setRow {B : Nat} {a w : World} (h : Below B a w) {g : Nat} (hg : B ≤ g) (cs : Array Value) : Below B a (w.setRow g cs) :=
  h.trans ⟨rfl, rfl, rfl, by simp, fun k hk => by
    simp only [World.setRow, Array.getElem?_modify]
    rw [if_neg (by omega)]⟩
theorem ops_any (w : World) :
    Calls Tryd.prog 100 #[] w fun e w' => e = .returned opsV ∧ Below w.heap.size w w' := by
  go_enter Tryd.func100, Tryd.ntmps100
  go_wp2_with (refine wpList_store_row rfl 166 _ _ rfl w.heap.size opsCells rfl rfl 166 _ (heap_alloc_new w _) (by kernel_rfl) rfl (by kernel_rfl) ?_)
  refine bodyPost_ret (v := opsV) (results_cell_row rfl _ _ w.heap.size 166 opsCells (0, 0) _ rfl (setRow_heap _ _ _ _ _ _ (heap_alloc_new w _)) Tryd.underlying166 rfl (by kernel_rfl)) rfl ?_
  exact ⟨rfl, below_setRow ((Below.refl _ _).alloc (Nat.le_refl _) _) (Nat.le_refl _) _⟩
/-- 1 for true, 0 for false. -/
def bit (b : Bool) : Int := if b then 1 else 0
theorem bit_t : bit true = 1 := rfl
theorem bit_f : bit false = 0 := rfl
/-- How far a shift by b goes. -/
def far (b : Int) : Nat := min (IntKind.u64.wrap (bits BinOp.and IntKind.i64 b 63)).toNat 64
def binN (k : Nat) (a b : Int) : Int := match k with
  | 1 => wrap64 (a + b)
  | 2 => wrap64 (a - b)
  | 3 => wrap64 (a * b)
  | 4 => if b = 0 then 0 else wrap64 (a.tdiv b)
  | 5 => if b = 0 then a else a.tmod b
  | 6 => bits BinOp.and IntKind.i64 a b
  | 7 => bits BinOp.or IntKind.i64 a b
  | 8 => bits BinOp.xor IntKind.i64 a b
  | 9 => wrap64 (a * 2 ^ far b)
  | 10 => a / 2 ^ far b
  | 11 => bit (a == b)
  | 12 => bit (a != b)
  | 13 => bit (decide (a < b))
  | 14 => bit (decide (a ≤ b))
  | 15 => bit (decide (b < a))
  | 16 => bit (decide (b ≤ a))
  | _ => 0
/-- What the operator of number o makes of two words. -/
def bin (o a b : Int) : Int := binN o.toNat a b
theorem ret_int {k : IntKind} {a b : Int} (h : a = b) : Ending.returned (.int k a) = .returned (.int k b) := by rw [h]
theorem truth_any (b : Bool) (w : World) : Calls Tryd.prog 118 #[.bool b] w fun e w' => e = .returned (.int .i64 (bit b)) ∧ w = w' := by
  cases b
  · go_enter Tryd.func118, Tryd.ntmps118
    go_wp2
    go_ret
    exact ⟨rfl, rfl⟩
  · go_enter Tryd.func118, Tryd.ntmps118
    go_wp2
    go_ret
    exact ⟨rfl, rfl⟩
theorem meth1 (a b : Int) (w : World) : Calls Tryd.prog 107 #[.int .i64 a, .int .i64 b] w fun e w' => e = .returned (.int .i64 (bin 1 a b)) ∧ w = w' := by
  go_enter Tryd.func107, Tryd.ntmps107
  go_wp2
  go_ret
  exact ⟨rfl, rfl⟩
theorem meth2 (a b : Int) (w : World) : Calls Tryd.prog 108 #[.int .i64 a, .int .i64 b] w fun e w' => e = .returned (.int .i64 (bin 2 a b)) ∧ w = w' := by
  go_enter Tryd.func108, Tryd.ntmps108
  go_wp2
  go_ret
  exact ⟨rfl, rfl⟩
theorem meth3 (a b : Int) (w : World) : Calls Tryd.prog 109 #[.int .i64 a, .int .i64 b] w fun e w' => e = .returned (.int .i64 (bin 3 a b)) ∧ w = w' := by
  go_enter Tryd.func109, Tryd.ntmps109
  go_wp2
  go_ret
  exact ⟨rfl, rfl⟩
theorem meth4 (a b : Int) (w : World) : Calls Tryd.prog 110 #[.int .i64 a, .int .i64 b] w fun e w' => e = .returned (.int .i64 (bin 4 a b)) ∧ w = w' := by
  by_cases h : b = 0
  · subst h
    go_enter Tryd.func110, Tryd.ntmps110
    go_wp2
    go_ret
    exact ⟨rfl, rfl⟩
  · have hb : (b == 0) = false := by simpa using h
    have e : bin 4 a b = wrap64 (a.tdiv b) := by show (if b = 0 then _ else _) = _; rw [if_neg h]
    rw [e]; clear e
    go_enter Tryd.func110, Tryd.ntmps110
    go_wp2
    go_ret
    exact ⟨rfl, rfl⟩
theorem meth5 (a b : Int) (w : World) : Calls Tryd.prog 111 #[.int .i64 a, .int .i64 b] w fun e w' => e = .returned (.int .i64 (bin 5 a b)) ∧ w = w' := by
  by_cases h : b = 0
  · subst h
    go_enter Tryd.func111, Tryd.ntmps111
    go_wp2
    go_ret
    exact ⟨rfl, rfl⟩
  · have hb : (b == 0) = false := by simpa using h
    have e : bin 5 a b = a.tmod b := by show (if b = 0 then _ else _) = _; rw [if_neg h]
    rw [e]; clear e
    go_enter Tryd.func111, Tryd.ntmps111
    go_wp2
    go_ret
    exact ⟨rfl, rfl⟩
theorem meth6 (a b : Int) (w : World) : Calls Tryd.prog 112 #[.int .i64 a, .int .i64 b] w fun e w' => e = .returned (.int .i64 (bin 6 a b)) ∧ w = w' := by
  go_enter Tryd.func112, Tryd.ntmps112
  go_wp2
  go_ret
  exact ⟨rfl, rfl⟩
theorem meth7 (a b : Int) (w : World) : Calls Tryd.prog 113 #[.int .i64 a, .int .i64 b] w fun e w' => e = .returned (.int .i64 (bin 7 a b)) ∧ w = w' := by
  go_enter Tryd.func113, Tryd.ntmps113
  go_wp2
  go_ret
  exact ⟨rfl, rfl⟩
theorem meth8 (a b : Int) (w : World) : Calls Tryd.prog 114 #[.int .i64 a, .int .i64 b] w fun e w' => e = .returned (.int .i64 (bin 8 a b)) ∧ w = w' := by
  go_enter Tryd.func114, Tryd.ntmps114
  go_wp2
  go_ret
  exact ⟨rfl, rfl⟩
theorem meth9 (a b : Int) (w : World) : Calls Tryd.prog 115 #[.int .i64 a, .int .i64 b] w fun e w' => e = .returned (.int .i64 (bin 9 a b)) ∧ w = w' := by
  go_enter Tryd.func115, Tryd.ntmps115
  go_wp2
  go_ret
  exact ⟨rfl, rfl⟩
theorem meth10 (a b : Int) (w : World) : Calls Tryd.prog 116 #[.int .i64 a, .int .i64 b] w fun e w' => e = .returned (.int .i64 (bin 10 a b)) ∧ w = w' := by
  go_enter Tryd.func116, Tryd.ntmps116
  go_wp2
  go_ret
  exact ⟨rfl, rfl⟩
theorem meth11 (a b : Int) (w : World) : Calls Tryd.prog 117 #[.int .i64 a, .int .i64 b] w fun e w' => e = .returned (.int .i64 (bin 11 a b)) ∧ w = w' := by
  go_enter Tryd.func117, Tryd.ntmps117
  go_wp2_with (go_at_call 118; refine (truth_any _ _).mono ?_; rintro e w' ⟨rfl, rfl⟩)
  go_ret
  exact ⟨rfl, rfl⟩
theorem meth12 (a b : Int) (w : World) : Calls Tryd.prog 119 #[.int .i64 a, .int .i64 b] w fun e w' => e = .returned (.int .i64 (bin 12 a b)) ∧ w = w' := by
  go_enter Tryd.func119, Tryd.ntmps119
  go_wp2_with (go_at_call 118; refine (truth_any _ _).mono ?_; rintro e w' ⟨rfl, rfl⟩)
  go_ret
  exact ⟨rfl, rfl⟩
theorem meth13 (a b : Int) (w : World) : Calls Tryd.prog 120 #[.int .i64 a, .int .i64 b] w fun e w' => e = .returned (.int .i64 (bin 13 a b)) ∧ w = w' := by
  go_enter Tryd.func120, Tryd.ntmps120
  go_wp2_with (go_at_call 118; refine (truth_any _ _).mono ?_; rintro e w' ⟨rfl, rfl⟩)
  go_ret
  exact ⟨rfl, rfl⟩
theorem meth14 (a b : Int) (w : World) : Calls Tryd.prog 121 #[.int .i64 a, .int .i64 b] w fun e w' => e = .returned (.int .i64 (bin 14 a b)) ∧ w = w' := by
  go_enter Tryd.func121, Tryd.ntmps121
  go_wp2_with (go_at_call 118; refine (truth_any _ _).mono ?_; rintro e w' ⟨rfl, rfl⟩)
  go_ret
  exact ⟨rfl, rfl⟩
theorem meth15 (a b : Int) (w : World) : Calls Tryd.prog 122 #[.int .i64 a, .int .i64 b] w fun e w' => e = .returned (.int .i64 (bin 15 a b)) ∧ w = w' := by
  go_enter Tryd.func122, Tryd.ntmps122
  go_wp2_with (go_at_call 118; refine (truth_any _ _).mono ?_; rintro e w' ⟨rfl, rfl⟩)
  go_ret
  exact ⟨rfl, rfl⟩
theorem meth16 (a b : Int) (w : World) : Calls Tryd.prog 123 #[.int .i64 a, .int .i64 b] w fun e w' => e = .returned (.int .i64 (bin 16 a b)) ∧ w = w' := by
  go_enter Tryd.func123, Tryd.ntmps123
  go_wp2_with (go_at_call 118; refine (truth_any _ _).mono ?_; rintro e w' ⟨rfl, rfl⟩)
  go_ret
  exact ⟨rfl, rfl⟩

theorem minus1_any (a : Int) (w : World) : Calls Tryd.prog 124 #[.int .i64 a] w fun e w' => e = .returned (.int .i64 (wrap64 (-a))) ∧ w = w' := by
  go_enter Tryd.func124, Tryd.ntmps124
  go_wp2
  go_ret
  exact ⟨rfl, rfl⟩
theorem not1_any (a : Int) (w : World) : Calls Tryd.prog 125 #[.int .i64 a] w fun e w' => e = .returned (.int .i64 (bit (a == 0))) ∧ w = w' := by
  go_enter Tryd.func125, Tryd.ntmps125
  go_wp2_with (go_at_call 118; refine (truth_any _ _).mono ?_; rintro e w' ⟨rfl, rfl⟩)
  go_ret
  exact ⟨rfl, rfl⟩

theorem do1 (a b : Int) (w : World) (T : Tabs w) : Calls Tryd.prog 85 #[.int .u8 1, .int .i64 a, .int .i64 b] w fun e w' => e = .returned (.tuple #[.int .i64 (bin 1 a b), .int .i64 0]) ∧ Below w.heap.size w w' := by
  have H2 := Lib.hid (two_yes 1 (by decide) (by decide) (by decide) (by decide) w T)
  have hidx : ∀ w, (Instr.index 166 opsV (.int .u8 1)).run Tryd.prog w = .ok (.agg #[.func (.func 107) #[] #[], .nilFunc]) w := fun _ => by kernel_rfl
  have hfld : ∀ w, (Instr.field 165 (.agg #[.func (.func 107) #[] #[], .nilFunc]) 0).run Tryd.prog w = .ok (.func (.func 107) #[] #[]) w := fun _ => by kernel_rfl
  clear T
  go_enter Tryd.func85, Tryd.ntmps85
  go_wp2_with (first | (go_at_call 84; refine (H2.out).mono ?_; rintro e w' ⟨rfl, rfl⟩) | (go_at_call 100; refine (ops_any _).mono ?_; rintro e w1 ⟨rfl, hb⟩) | (go_at_call 107; refine (meth1 _ _ _).mono ?_; rintro e w' ⟨rfl, rfl⟩))
  go_ret2
  exact ⟨rfl, hb⟩
theorem do2 (a b : Int) (w : World) (T : Tabs w) : Calls Tryd.prog 85 #[.int .u8 2, .int .i64 a, .int .i64 b] w fun e w' => e = .returned (.tuple #[.int .i64 (bin 2 a b), .int .i64 0]) ∧ Below w.heap.size w w' := by
  have H2 := Lib.hid (two_yes 2 (by decide) (by decide) (by decide) (by decide) w T)
  have hidx : ∀ w, (Instr.index 166 opsV (.int .u8 2)).run Tryd.prog w = .ok (.agg #[.func (.func 108) #[] #[], .nilFunc]) w := fun _ => by kernel_rfl
  have hfld : ∀ w, (Instr.field 165 (.agg #[.func (.func 108) #[] #[], .nilFunc]) 0).run Tryd.prog w = .ok (.func (.func 108) #[] #[]) w := fun _ => by kernel_rfl
  clear T
  go_enter Tryd.func85, Tryd.ntmps85
  go_wp2_with (first | (go_at_call 84; refine (H2.out).mono ?_; rintro e w' ⟨rfl, rfl⟩) | (go_at_call 100; refine (ops_any _).mono ?_; rintro e w1 ⟨rfl, hb⟩) | (go_at_call 108; refine (meth2 _ _ _).mono ?_; rintro e w' ⟨rfl, rfl⟩))
  go_ret2
  exact ⟨rfl, hb⟩
theorem do3 (a b : Int) (w : World) (T : Tabs w) : Calls Tryd.prog 85 #[.int .u8 3, .int .i64 a, .int .i64 b] w fun e w' => e = .returned (.tuple #[.int .i64 (bin 3 a b), .int .i64 0]) ∧ Below w.heap.size w w' := by
  have H2 := Lib.hid (two_yes 3 (by decide) (by decide) (by decide) (by decide) w T)
  have hidx : ∀ w, (Instr.index 166 opsV (.int .u8 3)).run Tryd.prog w = .ok (.agg #[.func (.func 109) #[] #[], .nilFunc]) w := fun _ => by kernel_rfl
  have hfld : ∀ w, (Instr.field 165 (.agg #[.func (.func 109) #[] #[], .nilFunc]) 0).run Tryd.prog w = .ok (.func (.func 109) #[] #[]) w := fun _ => by kernel_rfl
  clear T
  go_enter Tryd.func85, Tryd.ntmps85
  go_wp2_with (first | (go_at_call 84; refine (H2.out).mono ?_; rintro e w' ⟨rfl, rfl⟩) | (go_at_call 100; refine (ops_any _).mono ?_; rintro e w1 ⟨rfl, hb⟩) | (go_at_call 109; refine (meth3 _ _ _).mono ?_; rintro e w' ⟨rfl, rfl⟩))
  go_ret2
  exact ⟨rfl, hb⟩
theorem do4 (a b : Int) (w : World) (T : Tabs w) : Calls Tryd.prog 85 #[.int .u8 4, .int .i64 a, .int .i64 b] w fun e w' => e = .returned (.tuple #[.int .i64 (bin 4 a b), .int .i64 0]) ∧ Below w.heap.size w w' := by
  have H2 := Lib.hid (two_yes 4 (by decide) (by decide) (by decide) (by decide) w T)
  have hidx : ∀ w, (Instr.index 166 opsV (.int .u8 4)).run Tryd.prog w = .ok (.agg #[.func (.func 110) #[] #[], .nilFunc]) w := fun _ => by kernel_rfl
  have hfld : ∀ w, (Instr.field 165 (.agg #[.func (.func 110) #[] #[], .nilFunc]) 0).run Tryd.prog w = .ok (.func (.func 110) #[] #[]) w := fun _ => by kernel_rfl
  clear T
  go_enter Tryd.func85, Tryd.ntmps85
  go_wp2_with (first | (go_at_call 84; refine (H2.out).mono ?_; rintro e w' ⟨rfl, rfl⟩) | (go_at_call 100; refine (ops_any _).mono ?_; rintro e w1 ⟨rfl, hb⟩) | (go_at_call 110; refine (meth4 _ _ _).mono ?_; rintro e w' ⟨rfl, rfl⟩))
  go_ret2
  exact ⟨rfl, hb⟩
theorem do5 (a b : Int) (w : World) (T : Tabs w) : Calls Tryd.prog 85 #[.int .u8 5, .int .i64 a, .int .i64 b] w fun e w' => e = .returned (.tuple #[.int .i64 (bin 5 a b), .int .i64 0]) ∧ Below w.heap.size w w' := by
  have H2 := Lib.hid (two_yes 5 (by decide) (by decide) (by decide) (by decide) w T)
  have hidx : ∀ w, (Instr.index 166 opsV (.int .u8 5)).run Tryd.prog w = .ok (.agg #[.func (.func 111) #[] #[], .nilFunc]) w := fun _ => by kernel_rfl
  have hfld : ∀ w, (Instr.field 165 (.agg #[.func (.func 111) #[] #[], .nilFunc]) 0).run Tryd.prog w = .ok (.func (.func 111) #[] #[]) w := fun _ => by kernel_rfl
  clear T
  go_enter Tryd.func85, Tryd.ntmps85
  go_wp2_with (first | (go_at_call 84; refine (H2.out).mono ?_; rintro e w' ⟨rfl, rfl⟩) | (go_at_call 100; refine (ops_any _).mono ?_; rintro e w1 ⟨rfl, hb⟩) | (go_at_call 111; refine (meth5 _ _ _).mono ?_; rintro e w' ⟨rfl, rfl⟩))
  go_ret2
  exact ⟨rfl, hb⟩
theorem do6 (a b : Int) (w : World) (T : Tabs w) : Calls Tryd.prog 85 #[.int .u8 6, .int .i64 a, .int .i64 b] w fun e w' => e = .returned (.tuple #[.int .i64 (bin 6 a b), .int .i64 0]) ∧ Below w.heap.size w w' := by
  have H2 := Lib.hid (two_yes 6 (by decide) (by decide) (by decide) (by decide) w T)
  have hidx : ∀ w, (Instr.index 166 opsV (.int .u8 6)).run Tryd.prog w = .ok (.agg #[.func (.func 112) #[] #[], .nilFunc]) w := fun _ => by kernel_rfl
  have hfld : ∀ w, (Instr.field 165 (.agg #[.func (.func 112) #[] #[], .nilFunc]) 0).run Tryd.prog w = .ok (.func (.func 112) #[] #[]) w := fun _ => by kernel_rfl
  clear T
  go_enter Tryd.func85, Tryd.ntmps85
  go_wp2_with (first | (go_at_call 84; refine (H2.out).mono ?_; rintro e w' ⟨rfl, rfl⟩) | (go_at_call 100; refine (ops_any _).mono ?_; rintro e w1 ⟨rfl, hb⟩) | (go_at_call 112; refine (meth6 _ _ _).mono ?_; rintro e w' ⟨rfl, rfl⟩))
  go_ret2
  exact ⟨rfl, hb⟩
theorem do7 (a b : Int) (w : World) (T : Tabs w) : Calls Tryd.prog 85 #[.int .u8 7, .int .i64 a, .int .i64 b] w fun e w' => e = .returned (.tuple #[.int .i64 (bin 7 a b), .int .i64 0]) ∧ Below w.heap.size w w' := by
  have H2 := Lib.hid (two_yes 7 (by decide) (by decide) (by decide) (by decide) w T)
  have hidx : ∀ w, (Instr.index 166 opsV (.int .u8 7)).run Tryd.prog w = .ok (.agg #[.func (.func 113) #[] #[], .nilFunc]) w := fun _ => by kernel_rfl
  have hfld : ∀ w, (Instr.field 165 (.agg #[.func (.func 113) #[] #[], .nilFunc]) 0).run Tryd.prog w = .ok (.func (.func 113) #[] #[]) w := fun _ => by kernel_rfl
  clear T
  go_enter Tryd.func85, Tryd.ntmps85
  go_wp2_with (first | (go_at_call 84; refine (H2.out).mono ?_; rintro e w' ⟨rfl, rfl⟩) | (go_at_call 100; refine (ops_any _).mono ?_; rintro e w1 ⟨rfl, hb⟩) | (go_at_call 113; refine (meth7 _ _ _).mono ?_; rintro e w' ⟨rfl, rfl⟩))
  go_ret2
  exact ⟨rfl, hb⟩
theorem do8 (a b : Int) (w : World) (T : Tabs w) : Calls Tryd.prog 85 #[.int .u8 8, .int .i64 a, .int .i64 b] w fun e w' => e = .returned (.tuple #[.int .i64 (bin 8 a b), .int .i64 0]) ∧ Below w.heap.size w w' := by
  have H2 := Lib.hid (two_yes 8 (by decide) (by decide) (by decide) (by decide) w T)
  have hidx : ∀ w, (Instr.index 166 opsV (.int .u8 8)).run Tryd.prog w = .ok (.agg #[.func (.func 114) #[] #[], .nilFunc]) w := fun _ => by kernel_rfl
  have hfld : ∀ w, (Instr.field 165 (.agg #[.func (.func 114) #[] #[], .nilFunc]) 0).run Tryd.prog w = .ok (.func (.func 114) #[] #[]) w := fun _ => by kernel_rfl
  clear T
  go_enter Tryd.func85, Tryd.ntmps85
  go_wp2_with (first | (go_at_call 84; refine (H2.out).mono ?_; rintro e w' ⟨rfl, rfl⟩) | (go_at_call 100; refine (ops_any _).mono ?_; rintro e w1 ⟨rfl, hb⟩) | (go_at_call 114; refine (meth8 _ _ _).mono ?_; rintro e w' ⟨rfl, rfl⟩))
  go_ret2
  exact ⟨rfl, hb⟩
theorem do9 (a b : Int) (w : World) (T : Tabs w) : Calls Tryd.prog 85 #[.int .u8 9, .int .i64 a, .int .i64 b] w fun e w' => e = .returned (.tuple #[.int .i64 (bin 9 a b), .int .i64 0]) ∧ Below w.heap.size w w' := by
  have H2 := Lib.hid (two_yes 9 (by decide) (by decide) (by decide) (by decide) w T)
  have hidx : ∀ w, (Instr.index 166 opsV (.int .u8 9)).run Tryd.prog w = .ok (.agg #[.func (.func 115) #[] #[], .nilFunc]) w := fun _ => by kernel_rfl
  have hfld : ∀ w, (Instr.field 165 (.agg #[.func (.func 115) #[] #[], .nilFunc]) 0).run Tryd.prog w = .ok (.func (.func 115) #[] #[]) w := fun _ => by kernel_rfl
  clear T
  go_enter Tryd.func85, Tryd.ntmps85
  go_wp2_with (first | (go_at_call 84; refine (H2.out).mono ?_; rintro e w' ⟨rfl, rfl⟩) | (go_at_call 100; refine (ops_any _).mono ?_; rintro e w1 ⟨rfl, hb⟩) | (go_at_call 115; refine (meth9 _ _ _).mono ?_; rintro e w' ⟨rfl, rfl⟩))
  go_ret2
  exact ⟨rfl, hb⟩
theorem do10 (a b : Int) (w : World) (T : Tabs w) : Calls Tryd.prog 85 #[.int .u8 10, .int .i64 a, .int .i64 b] w fun e w' => e = .returned (.tuple #[.int .i64 (bin 10 a b), .int .i64 0]) ∧ Below w.heap.size w w' := by
  have H2 := Lib.hid (two_yes 10 (by decide) (by decide) (by decide) (by decide) w T)
  have hidx : ∀ w, (Instr.index 166 opsV (.int .u8 10)).run Tryd.prog w = .ok (.agg #[.func (.func 116) #[] #[], .nilFunc]) w := fun _ => by kernel_rfl
  have hfld : ∀ w, (Instr.field 165 (.agg #[.func (.func 116) #[] #[], .nilFunc]) 0).run Tryd.prog w = .ok (.func (.func 116) #[] #[]) w := fun _ => by kernel_rfl
  clear T
  go_enter Tryd.func85, Tryd.ntmps85
  go_wp2_with (first | (go_at_call 84; refine (H2.out).mono ?_; rintro e w' ⟨rfl, rfl⟩) | (go_at_call 100; refine (ops_any _).mono ?_; rintro e w1 ⟨rfl, hb⟩) | (go_at_call 116; refine (meth10 _ _ _).mono ?_; rintro e w' ⟨rfl, rfl⟩))
  go_ret2
  exact ⟨rfl, hb⟩
theorem do11 (a b : Int) (w : World) (T : Tabs w) : Calls Tryd.prog 85 #[.int .u8 11, .int .i64 a, .int .i64 b] w fun e w' => e = .returned (.tuple #[.int .i64 (bin 11 a b), .int .i64 0]) ∧ Below w.heap.size w w' := by
  have H2 := Lib.hid (two_yes 11 (by decide) (by decide) (by decide) (by decide) w T)
  have hidx : ∀ w, (Instr.index 166 opsV (.int .u8 11)).run Tryd.prog w = .ok (.agg #[.func (.func 117) #[] #[], .nilFunc]) w := fun _ => by kernel_rfl
  have hfld : ∀ w, (Instr.field 165 (.agg #[.func (.func 117) #[] #[], .nilFunc]) 0).run Tryd.prog w = .ok (.func (.func 117) #[] #[]) w := fun _ => by kernel_rfl
  clear T
  go_enter Tryd.func85, Tryd.ntmps85
  go_wp2_with (first | (go_at_call 84; refine (H2.out).mono ?_; rintro e w' ⟨rfl, rfl⟩) | (go_at_call 100; refine (ops_any _).mono ?_; rintro e w1 ⟨rfl, hb⟩) | (go_at_call 117; refine (meth11 _ _ _).mono ?_; rintro e w' ⟨rfl, rfl⟩))
  go_ret2
  exact ⟨rfl, hb⟩
theorem do12 (a b : Int) (w : World) (T : Tabs w) : Calls Tryd.prog 85 #[.int .u8 12, .int .i64 a, .int .i64 b] w fun e w' => e = .returned (.tuple #[.int .i64 (bin 12 a b), .int .i64 0]) ∧ Below w.heap.size w w' := by
  have H2 := Lib.hid (two_yes 12 (by decide) (by decide) (by decide) (by decide) w T)
  have hidx : ∀ w, (Instr.index 166 opsV (.int .u8 12)).run Tryd.prog w = .ok (.agg #[.func (.func 119) #[] #[], .nilFunc]) w := fun _ => by kernel_rfl
  have hfld : ∀ w, (Instr.field 165 (.agg #[.func (.func 119) #[] #[], .nilFunc]) 0).run Tryd.prog w = .ok (.func (.func 119) #[] #[]) w := fun _ => by kernel_rfl
  clear T
  go_enter Tryd.func85, Tryd.ntmps85
  go_wp2_with (first | (go_at_call 84; refine (H2.out).mono ?_; rintro e w' ⟨rfl, rfl⟩) | (go_at_call 100; refine (ops_any _).mono ?_; rintro e w1 ⟨rfl, hb⟩) | (go_at_call 119; refine (meth12 _ _ _).mono ?_; rintro e w' ⟨rfl, rfl⟩))
  go_ret2
  exact ⟨rfl, hb⟩
theorem do13 (a b : Int) (w : World) (T : Tabs w) : Calls Tryd.prog 85 #[.int .u8 13, .int .i64 a, .int .i64 b] w fun e w' => e = .returned (.tuple #[.int .i64 (bin 13 a b), .int .i64 0]) ∧ Below w.heap.size w w' := by
  have H2 := Lib.hid (two_yes 13 (by decide) (by decide) (by decide) (by decide) w T)
  have hidx : ∀ w, (Instr.index 166 opsV (.int .u8 13)).run Tryd.prog w = .ok (.agg #[.func (.func 120) #[] #[], .nilFunc]) w := fun _ => by kernel_rfl
  have hfld : ∀ w, (Instr.field 165 (.agg #[.func (.func 120) #[] #[], .nilFunc]) 0).run Tryd.prog w = .ok (.func (.func 120) #[] #[]) w := fun _ => by kernel_rfl
  clear T
  go_enter Tryd.func85, Tryd.ntmps85
  go_wp2_with (first | (go_at_call 84; refine (H2.out).mono ?_; rintro e w' ⟨rfl, rfl⟩) | (go_at_call 100; refine (ops_any _).mono ?_; rintro e w1 ⟨rfl, hb⟩) | (go_at_call 120; refine (meth13 _ _ _).mono ?_; rintro e w' ⟨rfl, rfl⟩))
  go_ret2
  exact ⟨rfl, hb⟩
theorem do14 (a b : Int) (w : World) (T : Tabs w) : Calls Tryd.prog 85 #[.int .u8 14, .int .i64 a, .int .i64 b] w fun e w' => e = .returned (.tuple #[.int .i64 (bin 14 a b), .int .i64 0]) ∧ Below w.heap.size w w' := by
  have H2 := Lib.hid (two_yes 14 (by decide) (by decide) (by decide) (by decide) w T)
  have hidx : ∀ w, (Instr.index 166 opsV (.int .u8 14)).run Tryd.prog w = .ok (.agg #[.func (.func 121) #[] #[], .nilFunc]) w := fun _ => by kernel_rfl
  have hfld : ∀ w, (Instr.field 165 (.agg #[.func (.func 121) #[] #[], .nilFunc]) 0).run Tryd.prog w = .ok (.func (.func 121) #[] #[]) w := fun _ => by kernel_rfl
  clear T
  go_enter Tryd.func85, Tryd.ntmps85
  go_wp2_with (first | (go_at_call 84; refine (H2.out).mono ?_; rintro e w' ⟨rfl, rfl⟩) | (go_at_call 100; refine (ops_any _).mono ?_; rintro e w1 ⟨rfl, hb⟩) | (go_at_call 121; refine (meth14 _ _ _).mono ?_; rintro e w' ⟨rfl, rfl⟩))
  go_ret2
  exact ⟨rfl, hb⟩
theorem do15 (a b : Int) (w : World) (T : Tabs w) : Calls Tryd.prog 85 #[.int .u8 15, .int .i64 a, .int .i64 b] w fun e w' => e = .returned (.tuple #[.int .i64 (bin 15 a b), .int .i64 0]) ∧ Below w.heap.size w w' := by
  have H2 := Lib.hid (two_yes 15 (by decide) (by decide) (by decide) (by decide) w T)
  have hidx : ∀ w, (Instr.index 166 opsV (.int .u8 15)).run Tryd.prog w = .ok (.agg #[.func (.func 122) #[] #[], .nilFunc]) w := fun _ => by kernel_rfl
  have hfld : ∀ w, (Instr.field 165 (.agg #[.func (.func 122) #[] #[], .nilFunc]) 0).run Tryd.prog w = .ok (.func (.func 122) #[] #[]) w := fun _ => by kernel_rfl
  clear T
  go_enter Tryd.func85, Tryd.ntmps85
  go_wp2_with (first | (go_at_call 84; refine (H2.out).mono ?_; rintro e w' ⟨rfl, rfl⟩) | (go_at_call 100; refine (ops_any _).mono ?_; rintro e w1 ⟨rfl, hb⟩) | (go_at_call 122; refine (meth15 _ _ _).mono ?_; rintro e w' ⟨rfl, rfl⟩))
  go_ret2
  exact ⟨rfl, hb⟩
theorem do16 (a b : Int) (w : World) (T : Tabs w) : Calls Tryd.prog 85 #[.int .u8 16, .int .i64 a, .int .i64 b] w fun e w' => e = .returned (.tuple #[.int .i64 (bin 16 a b), .int .i64 0]) ∧ Below w.heap.size w w' := by
  have H2 := Lib.hid (two_yes 16 (by decide) (by decide) (by decide) (by decide) w T)
  have hidx : ∀ w, (Instr.index 166 opsV (.int .u8 16)).run Tryd.prog w = .ok (.agg #[.func (.func 123) #[] #[], .nilFunc]) w := fun _ => by kernel_rfl
  have hfld : ∀ w, (Instr.field 165 (.agg #[.func (.func 123) #[] #[], .nilFunc]) 0).run Tryd.prog w = .ok (.func (.func 123) #[] #[]) w := fun _ => by kernel_rfl
  clear T
  go_enter Tryd.func85, Tryd.ntmps85
  go_wp2_with (first | (go_at_call 84; refine (H2.out).mono ?_; rintro e w' ⟨rfl, rfl⟩) | (go_at_call 100; refine (ops_any _).mono ?_; rintro e w1 ⟨rfl, hb⟩) | (go_at_call 123; refine (meth16 _ _ _).mono ?_; rintro e w' ⟨rfl, rfl⟩))
  go_ret2
  exact ⟨rfl, hb⟩
theorem do_no (o a b : Int) (h0 : 0 ≤ o) (h1 : o ≤ 255) (hl : o = 0 ∨ 17 ≤ o) (w : World) (T : Tabs w) : Calls Tryd.prog 85 #[.int .u8 o, .int .i64 a, .int .i64 b] w fun e w' => e = .returned (.tuple #[.int .i64 0, .int .i64 2]) ∧ w = w' := by
  have hl' : levelOf o = 0 ∨ levelOf o = 9 := by
    rcases hl with rfl | hl
    · exact .inl rfl
    · by_cases h : 19 ≤ o
      · exact .inl (by unfold levelOf; rw [if_pos h])
      · have : o = 17 ∨ o = 18 := by omega
        rcases this with rfl | rfl <;> exact .inr rfl
  have H2 := Lib.hid (two_no o h0 h1 hl' w T)
  clear T hl hl' h0 h1
  go_enter Tryd.func85, Tryd.ntmps85
  go_wp2_with (go_at_call 84; refine (H2.out).mono ?_; rintro e w' ⟨rfl, rfl⟩)
  go_ret2
  exact ⟨rfl, rfl⟩
theorem one17 (a : Int) (w : World) (T : Tabs w) : Calls Tryd.prog 86 #[.int .u8 17, .int .i64 a] w fun e w' => e = .returned (.tuple #[.int .i64 (wrap64 (-a)), .int .i64 0]) ∧ Below w.heap.size w w' := by
  have H2 := Lib.hid (show Calls Tryd.prog 99 #[.int .u8 17] w fun e w' => e = .returned (.int .i64 9) ∧ w = w' from level_any 17 (by decide) (by decide) w T)
  have hidx : ∀ w, (Instr.index 166 opsV (.int .u8 17)).run Tryd.prog w = .ok (.agg #[.nilFunc, .func (.func 124) #[] #[]]) w := fun _ => by kernel_rfl
  have hfld : ∀ w, (Instr.field 165 (.agg #[.nilFunc, .func (.func 124) #[] #[]]) 1).run Tryd.prog w = .ok (.func (.func 124) #[] #[]) w := fun _ => by kernel_rfl
  clear T
  go_enter Tryd.func86, Tryd.ntmps86
  go_wp2_with (first | (go_at_call 99; refine (H2.out).mono ?_; rintro e w' ⟨rfl, rfl⟩) | (go_at_call 100; refine (ops_any _).mono ?_; rintro e w1 ⟨rfl, hb⟩) | (go_at_call 124; refine (minus1_any _ _).mono ?_; rintro e w' ⟨rfl, rfl⟩))
  go_ret2
  exact ⟨rfl, hb⟩
theorem one18 (a : Int) (w : World) (T : Tabs w) : Calls Tryd.prog 86 #[.int .u8 18, .int .i64 a] w fun e w' => e = .returned (.tuple #[.int .i64 (bit (a == 0)), .int .i64 0]) ∧ Below w.heap.size w w' := by
  have H2 := Lib.hid (show Calls Tryd.prog 99 #[.int .u8 18] w fun e w' => e = .returned (.int .i64 9) ∧ w = w' from level_any 18 (by decide) (by decide) w T)
  have hidx : ∀ w, (Instr.index 166 opsV (.int .u8 18)).run Tryd.prog w = .ok (.agg #[.nilFunc, .func (.func 125) #[] #[]]) w := fun _ => by kernel_rfl
  have hfld : ∀ w, (Instr.field 165 (.agg #[.nilFunc, .func (.func 125) #[] #[]]) 1).run Tryd.prog w = .ok (.func (.func 125) #[] #[]) w := fun _ => by kernel_rfl
  clear T
  go_enter Tryd.func86, Tryd.ntmps86
  go_wp2_with (first | (go_at_call 99; refine (H2.out).mono ?_; rintro e w' ⟨rfl, rfl⟩) | (go_at_call 100; refine (ops_any _).mono ?_; rintro e w1 ⟨rfl, hb⟩) | (go_at_call 125; refine (not1_any _ _).mono ?_; rintro e w' ⟨rfl, rfl⟩))
  go_ret2
  exact ⟨rfl, hb⟩
theorem one_no (o a : Int) (h0 : 0 ≤ o) (h1 : o ≤ 255) (hl : o ≠ 17) (hl2 : o ≠ 18) (w : World) (T : Tabs w) : Calls Tryd.prog 86 #[.int .u8 o, .int .i64 a] w fun e w' => e = .returned (.tuple #[.int .i64 0, .int .i64 2]) ∧ w = w' := by
  have hl' : (levelOf o != 9) = true := by
    by_cases h : 19 ≤ o
    · unfold levelOf; rw [if_pos h]; rfl
    · have : o = 0 ∨ o = 1 ∨ o = 2 ∨ o = 3 ∨ o = 4 ∨ o = 5 ∨ o = 6 ∨ o = 7 ∨ o = 8 ∨ o = 9 ∨ o = 10 ∨ o = 11 ∨ o = 12 ∨ o = 13 ∨ o = 14 ∨ o = 15 ∨ o = 16 := by omega
      rcases this with rfl | rfl | rfl | rfl | rfl | rfl | rfl | rfl | rfl | rfl | rfl | rfl | rfl | rfl | rfl | rfl | rfl <;> rfl
  have H2 := Lib.hid (level_any o h0 h1 w T)
  obtain ⟨v, hv⟩ : ∃ v, v = levelOf o := ⟨_, rfl⟩
  rw [← hv] at hl' H2
  clear hv T h0 h1 hl hl2
  go_enter Tryd.func86, Tryd.ntmps86
  go_wp2_with (go_at_call 99; refine (H2.out).mono ?_; rintro e w' ⟨rfl, rfl⟩)
  go_ret2
  exact ⟨rfl, rfl⟩

/-- Every operator of two. -/
theorem do_any (o a b : Int) (h1 : 1 ≤ o) (h2 : o ≤ 16) (w : World) (T : Tabs w) : Calls Tryd.prog 85 #[.int .u8 o, .int .i64 a, .int .i64 b] w fun e w' => e = .returned (.tuple #[.int .i64 (bin o a b), .int .i64 0]) ∧ Below w.heap.size w w' := by
  have : o = 1 ∨ o = 2 ∨ o = 3 ∨ o = 4 ∨ o = 5 ∨ o = 6 ∨ o = 7 ∨ o = 8 ∨ o = 9 ∨ o = 10 ∨ o = 11 ∨ o = 12 ∨ o = 13 ∨ o = 14 ∨ o = 15 ∨ o = 16 := by omega
  rcases this with rfl | rfl | rfl | rfl | rfl | rfl | rfl | rfl | rfl | rfl | rfl | rfl | rfl | rfl | rfl | rfl
  · exact do1 a b w T
  · exact do2 a b w T
  · exact do3 a b w T
  · exact do4 a b w T
  · exact do5 a b w T
  · exact do6 a b w T
  · exact do7 a b w T
  · exact do8 a b w T
  · exact do9 a b w T
  · exact do10 a b w T
  · exact do11 a b w T
  · exact do12 a b w T
  · exact do13 a b w T
  · exact do14 a b w T
  · exact do15 a b w T
  · exact do16 a b w T


def oneX (o a : Int) : Int := if o = 17 then wrap64 (-a) else if o = 18 then bit (a == 0) else 0
/-- What an instruction makes of the two words. -/
def opX (o a b : Int) : Int := bif twoB o then bin o a b else oneX o a
end Go.Proofs.YtmpljhfinmfnbaaDoor

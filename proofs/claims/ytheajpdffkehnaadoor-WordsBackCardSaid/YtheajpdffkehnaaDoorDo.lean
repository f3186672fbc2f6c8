/- Words: what each operator of the program's table makes of its two, and of its one. -/
import Derived.Test.YtheajpdffkehnaaDoorOps
import Derived.Lib.Hide
namespace Go.Proofs.YtheajpdffkehnaaDoor
open Go.RowKit
set_option linter.unusedVariables false

/-- 1 for true, 0 for false. -/
def bit (b : Bool) : Int := if b then 1 else 0
theorem bit_t : bit true = 1 := rfl
theorem bit_f : bit false = 0 := rfl
/-- How far a shift by b goes. -/
def far (b : Int) : Nat := min (IntKind.u64.wrap (bits BinOp.and IntKind.i64 b 63)).toNat 64
def binN (k : Nat) (a b : Int) : Int := match k with
  | 1 => wrap64 (a + b)
  | 2 => wrap64 (a - b)
  | 3 => wrap64 (a * b)
  | 4 => if b = 0 then 0 else wrap64 (a.tdiv b)
  | 5 => if b = 0 then a else a.tmod b
  | 6 => bits BinOp.and IntKind.i64 a b
  | 7 => bits BinOp.or IntKind.i64 a b
  | 8 => bits BinOp.xor IntKind.i64 a b
  | 9 => wrap64 (a * 2 ^ far b)
  | 10 => a / 2 ^ far b
  | 11 => bit (a == b)
  | 12 => bit (a != b)
  | 13 => bit (decide (a < b))
  | 14 => bit (decide (a ≤ b))
  | 15 => bit (decide (b < a))
  | 16 => bit (decide (b ≤ a))
  | _ => 0
/-- What the operator of number o makes of two words. -/
def bin (o a b : Int) : Int := binN o.toNat a b
theorem ret_int {k : IntKind} {a b : Int} (h : a = b) : Ending.returned (.int k a) = .returned (.int k b) := by rw [h]
theorem truth_any (b : Bool) (w : World) : Calls Tryd.prog 51 #[.bool b] w fun e w' => e = .returned (.int .i64 (bit b)) ∧ w = w' := by
  cases b
  · go_enter Tryd.func51, Tryd.ntmps51
    go_wp2
    go_ret
    exact ⟨rfl, rfl⟩
  · go_enter Tryd.func51, Tryd.ntmps51
    go_wp2
    go_ret
    exact ⟨rfl, rfl⟩
theorem meth1 (a b : Int) (w : World) : Calls Tryd.prog 40 #[.int .i64 a, .int .i64 b] w fun e w' => e = .returned (.int .i64 (bin 1 a b)) ∧ w = w' := by
  go_enter Tryd.func40, Tryd.ntmps40
  go_wp2
  go_ret
  exact ⟨rfl, rfl⟩
theorem meth2 (a b : Int) (w : World) : Calls Tryd.prog 41 #[.int .i64 a, .int .i64 b] w fun e w' => e = .returned (.int .i64 (bin 2 a b)) ∧ w = w' := by
  go_enter Tryd.func41, Tryd.ntmps41
  go_wp2
  go_ret
  exact ⟨rfl, rfl⟩
theorem meth3 (a b : Int) (w : World) : Calls Tryd.prog 42 #[.int .i64 a, .int .i64 b] w fun e w' => e = .returned (.int .i64 (bin 3 a b)) ∧ w = w' := by
  go_enter Tryd.func42, Tryd.ntmps42
  go_wp2
  go_ret
  exact ⟨rfl, rfl⟩
theorem meth4 (a b : Int) (w : World) : Calls Tryd.prog 43 #[.int .i64 a, .int .i64 b] w fun e w' => e = .returned (.int .i64 (bin 4 a b)) ∧ w = w' := by
  by_cases h : b = 0
  · subst h
    go_enter Tryd.func43, Tryd.ntmps43
    go_wp2
    go_ret
    exact ⟨rfl, rfl⟩
  · have hb : (b == 0) = false := by simpa using h
    have e : bin 4 a b = wrap64 (a.tdiv b) := by show (if b = 0 then _ else _) = _; rw [if_neg h]
    rw [e]; clear e
    go_enter Tryd.func43, Tryd.ntmps43
    go_wp2
    go_ret
    exact ⟨rfl, rfl⟩
theorem meth5 (a b : Int) (w : World) : Calls Tryd.prog 44 #[.int .i64 a, .int .i64 b] w fun e w' => e = .returned (.int .i64 (bin 5 a b)) ∧ w = w' := by
  by_cases h : b = 0
  · subst h
    go_enter Tryd.func44, Tryd.ntmps44
    go_wp2
    go_ret
    exact ⟨rfl, rfl⟩
  · have hb : (b == 0) = false := by simpa using h
    have e : bin 5 a b = a.tmod b := by show (if b = 0 then _ else _) = _; rw [if_neg h]
    rw [e]; clear e
    go_enter Tryd.func44, Tryd.ntmps44
    go_wp2
    go_ret
    exact ⟨rfl, rfl⟩
theorem meth6 (a b : Int) (w : World) : Calls Tryd.prog 45 #[.int .i64 a, .int .i64 b] w fun e w' => e = .returned (.int .i64 (bin 6 a b)) ∧ w = w' := by
  go_enter Tryd.func45, Tryd.ntmps45
  go_wp2
  go_ret
  exact ⟨rfl, rfl⟩
theorem meth7 (a b : Int) (w : World) : Calls Tryd.prog 46 #[.int .i64 a, .int .i64 b] w fun e w' => e = .returned (.int .i64 (bin 7 a b)) ∧ w = w' := by
  go_enter Tryd.func46, Tryd.ntmps46
  go_wp2
  go_ret
  exact ⟨rfl, rfl⟩
theorem meth8 (a b : Int) (w : World) : Calls Tryd.prog 47 #[.int .i64 a, .int .i64 b] w fun e w' => e = .returned (.int .i64 (bin 8 a b)) ∧ w = w' := by
  go_enter Tryd.func47, Tryd.ntmps47
  go_wp2
  go_ret
  exact ⟨rfl, rfl⟩
theorem meth9 (a b : Int) (w : World) : Calls Tryd.prog 48 #[.int .i64 a, .int .i64 b] w fun e w' => e = .returned (.int .i64 (bin 9 a b)) ∧ w = w' := by
  go_enter Tryd.func48, Tryd.ntmps48
  go_wp2
  go_ret
  exact ⟨rfl, rfl⟩
theorem meth10 (a b : Int) (w : World) : Calls Tryd.prog 49 #[.int .i64 a, .int .i64 b] w fun e w' => e = .returned (.int .i64 (bin 10 a b)) ∧ w = w' := by
  go_enter Tryd.func49, Tryd.ntmps49
  go_wp2
  go_ret
  exact ⟨rfl, rfl⟩
theorem meth11 (a b : Int) (w : World) : Calls Tryd.prog 50 #[.int .i64 a, .int .i64 b] w fun e w' => e = .returned (.int .i64 (bin 11 a b)) ∧ w = w' := by
  go_enter Tryd.func50, Tryd.ntmps50
  go_wp2_with (go_at_call 51; refine (truth_any _ _).mono ?_; rintro e w' ⟨rfl, rfl⟩)
  go_ret
  exact ⟨rfl, rfl⟩
theorem meth12 (a b : Int) (w : World) : Calls Tryd.prog 52 #[.int .i64 a, .int .i64 b] w fun e w' => e = .returned (.int .i64 (bin 12 a b)) ∧ w = w' := by
  go_enter Tryd.func52, Tryd.ntmps52
  go_wp2_with (go_at_call 51; refine (truth_any _ _).mono ?_; rintro e w' ⟨rfl, rfl⟩)
  go_ret
  exact ⟨rfl, rfl⟩
theorem meth13 (a b : Int) (w : World) : Calls Tryd.prog 53 #[.int .i64 a, .int .i64 b] w fun e w' => e = .returned (.int .i64 (bin 13 a b)) ∧ w = w' := by
  go_enter Tryd.func53, Tryd.ntmps53
  go_wp2_with (go_at_call 51; refine (truth_any _ _).mono ?_; rintro e w' ⟨rfl, rfl⟩)
  go_ret
  exact ⟨rfl, rfl⟩
theorem meth14 (a b : Int) (w : World) : Calls Tryd.prog 54 #[.int .i64 a, .int .i64 b] w fun e w' => e = .returned (.int .i64 (bin 14 a b)) ∧ w = w' := by
  go_enter Tryd.func54, Tryd.ntmps54
  go_wp2_with (go_at_call 51; refine (truth_any _ _).mono ?_; rintro e w' ⟨rfl, rfl⟩)
  go_ret
  exact ⟨rfl, rfl⟩
theorem meth15 (a b : Int) (w : World) : Calls Tryd.prog 55 #[.int .i64 a, .int .i64 b] w fun e w' => e = .returned (.int .i64 (bin 15 a b)) ∧ w = w' := by
  go_enter Tryd.func55, Tryd.ntmps55
  go_wp2_with (go_at_call 51; refine (truth_any _ _).mono ?_; rintro e w' ⟨rfl, rfl⟩)
  go_ret
  exact ⟨rfl, rfl⟩
theorem meth16 (a b : Int) (w : World) : Calls Tryd.prog 56 #[.int .i64 a, .int .i64 b] w fun e w' => e = .returned (.int .i64 (bin 16 a b)) ∧ w = w' := by
  go_enter Tryd.func56, Tryd.ntmps56
  go_wp2_with (go_at_call 51; refine (truth_any _ _).mono ?_; rintro e w' ⟨rfl, rfl⟩)
  go_ret
  exact ⟨rfl, rfl⟩

theorem minus1_any (a : Int) (w : World) : Calls Tryd.prog 57 #[.int .i64 a] w fun e w' => e = .returned (.int .i64 (wrap64 (-a))) ∧ w = w' := by
  go_enter Tryd.func57, Tryd.ntmps57
  go_wp2
  go_ret
  exact ⟨rfl, rfl⟩
theorem not1_any (a : Int) (w : World) : Calls Tryd.prog 58 #[.int .i64 a] w fun e w' => e = .returned (.int .i64 (bit (a == 0))) ∧ w = w' := by
  go_enter Tryd.func58, Tryd.ntmps58
  go_wp2_with (go_at_call 51; refine (truth_any _ _).mono ?_; rintro e w' ⟨rfl, rfl⟩)
  go_ret
  exact ⟨rfl, rfl⟩

theorem two_yes (o : Int) (h0 : 0 ≤ o) (h1 : o ≤ 255) (hl : 0 < levelOf o) (hh : levelOf o < 9) (w : World) (T : Tabs w) :
    Calls Tryd.prog 17 #[.int .u8 o] w fun e w' => e = .returned (.bool true) ∧ w = w' := by
  have H := Lib.hid (level_any o h0 h1 w T)
  obtain ⟨v, hv⟩ : ∃ v, v = levelOf o := ⟨_, rfl⟩
  rw [← hv] at hl hh H
  clear hv T h0 h1
  go_enter Tryd.func17, Tryd.ntmps17
  go_wp2_with (go_at_call 21; refine (H.out).mono ?_; rintro e w' ⟨rfl, rfl⟩)
  go_ret
  exact ⟨rfl, rfl⟩
theorem two_no (o : Int) (h0 : 0 ≤ o) (h1 : o ≤ 255) (hl : levelOf o = 0 ∨ levelOf o = 9) (w : World) (T : Tabs w) :
    Calls Tryd.prog 17 #[.int .u8 o] w fun e w' => e = .returned (.bool false) ∧ w = w' := by
  have H := Lib.hid (level_any o h0 h1 w T)
  clear T h0 h1
  rcases hl with hl | hl
  all_goals
    rw [hl] at H
    clear hl
    go_enter Tryd.func17, Tryd.ntmps17
    go_wp2_with (go_at_call 21; refine (H.out).mono ?_; rintro e w' ⟨rfl, rfl⟩)
    go_ret
    exact ⟨rfl, rfl⟩
theorem do1 (a b : Int) (w : World) (T : Tabs w) : Calls Tryd.prog 10 #[.int .u8 1, .int .i64 a, .int .i64 b] w fun e w' => e = .returned (.tuple #[.int .i64 (bin 1 a b), .int .i64 0]) ∧ Below w.heap.size w w' := by
  have H2 := Lib.hid (two_yes 1 (by decide) (by decide) (by decide) (by decide) w T)
  have hidx : ∀ w, (Instr.index 50 opsV (.int .u8 1)).run Tryd.prog w = .ok (.agg #[.func (.func 40) #[] #[], .nilFunc]) w := fun _ => by kernel_rfl
  have hfld : ∀ w, (Instr.field 49 (.agg #[.func (.func 40) #[] #[], .nilFunc]) 0).run Tryd.prog w = .ok (.func (.func 40) #[] #[]) w := fun _ => by kernel_rfl
  clear T
  go_enter Tryd.func10, Tryd.ntmps10
  go_wp2_with (first | (go_at_call 17; refine (H2.out).mono ?_; rintro e w' ⟨rfl, rfl⟩) | (go_at_call 31; refine (ops_any _).mono ?_; rintro e w1 ⟨rfl, hb⟩) | (go_at_call 40; refine (meth1 _ _ _).mono ?_; rintro e w' ⟨rfl, rfl⟩))
  go_ret2
  exact ⟨rfl, hb⟩
theorem do2 (a b : Int) (w : World) (T : Tabs w) : Calls Tryd.prog 10 #[.int .u8 2, .int .i64 a, .int .i64 b] w fun e w' => e = .returned (.tuple #[.int .i64 (bin 2 a b), .int .i64 0]) ∧ Below w.heap.size w w' := by
  have H2 := Lib.hid (two_yes 2 (by decide) (by decide) (by decide) (by decide) w T)
  have hidx : ∀ w, (Instr.index 50 opsV (.int .u8 2)).run Tryd.prog w = .ok (.agg #[.func (.func 41) #[] #[], .nilFunc]) w := fun _ => by kernel_rfl
  have hfld : ∀ w, (Instr.field 49 (.agg #[.func (.func 41) #[] #[], .nilFunc]) 0).run Tryd.prog w = .ok (.func (.func 41) #[] #[]) w := fun _ => by kernel_rfl
  clear T
  go_enter Tryd.func10, Tryd.ntmps10
  go_wp2_with (first | (go_at_call 17; refine (H2.out).mono ?_; rintro e w' ⟨rfl, rfl⟩) | (go_at_call 31; refine (ops_any _).mono ?_; rintro e w1 ⟨rfl, hb⟩) | (go_at_call 41; refine (meth2 _ _ _).mono ?_; rintro e w' ⟨rfl, rfl⟩))
  go_ret2
  exact ⟨rfl, hb⟩
theorem do3 (a b : Int) (w : World) (T : Tabs w) : Calls Tryd.prog 10 #[.int .u8 3, .int .i64 a, .int .i64 b] w fun e w' => e = .returned (.tuple #[.int .i64 (bin 3 a b), .int .i64 0]) ∧ Below w.heap.size w w' := by
  have H2 := Lib.hid (two_yes 3 (by decide) (by decide) (by decide) (by decide) w T)
  have hidx : ∀ w, (Instr.index 50 opsV (.int .u8 3)).run Tryd.prog w = .ok (.agg #[.func (.func 42) #[] #[], .nilFunc]) w := fun _ => by kernel_rfl
  have hfld : ∀ w, (Instr.field 49 (.agg #[.func (.func 42) #[] #[], .nilFunc]) 0).run Tryd.prog w = .ok (.func (.func 42) #[] #[]) w := fun _ => by kernel_rfl
  clear T
  go_enter Tryd.func10, Tryd.ntmps10
  go_wp2_with (first | (go_at_call 17; refine (H2.out).mono ?_; rintro e w' ⟨rfl, rfl⟩) | (go_at_call 31; refine (ops_any _).mono ?_; rintro e w1 ⟨rfl, hb⟩) | (go_at_call 42; refine (meth3 _ _ _).mono ?_; rintro e w' ⟨rfl, rfl⟩))
  go_ret2
  exact ⟨rfl, hb⟩
theorem do4 (a b : Int) (w : World) (T : Tabs w) : Calls Tryd.prog 10 #[.int .u8 4, .int .i64 a, .int .i64 b] w fun e w' => e = .returned (.tuple #[.int .i64 (bin 4 a b), .int .i64 0]) ∧ Below w.heap.size w w' := by
  have H2 := Lib.hid (two_yes 4 (by decide) (by decide) (by decide) (by decide) w T)
  have hidx : ∀ w, (Instr.index 50 opsV (.int .u8 4)).run Tryd.prog w = .ok (.agg #[.func (.func 43) #[] #[], .nilFunc]) w := fun _ => by kernel_rfl
  have hfld : ∀ w, (Instr.field 49 (.agg #[.func (.func 43) #[] #[], .nilFunc]) 0).run Tryd.prog w = .ok (.func (.func 43) #[] #[]) w := fun _ => by kernel_rfl
  clear T
  go_enter Tryd.func10, Tryd.ntmps10
  go_wp2_with (first | (go_at_call 17; refine (H2.out).mono ?_; rintro e w' ⟨rfl, rfl⟩) | (go_at_call 31; refine (ops_any _).mono ?_; rintro e w1 ⟨rfl, hb⟩) | (go_at_call 43; refine (meth4 _ _ _).mono ?_; rintro e w' ⟨rfl, rfl⟩))
  go_ret2
  exact ⟨rfl, hb⟩
theorem do5 (a b : Int) (w : World) (T : Tabs w) : Calls Tryd.prog 10 #[.int .u8 5, .int .i64 a, .int .i64 b] w fun e w' => e = .returned (.tuple #[.int .i64 (bin 5 a b), .int .i64 0]) ∧ Below w.heap.size w w' := by
  have H2 := Lib.hid (two_yes 5 (by decide) (by decide) (by decide) (by decide) w T)
  have hidx : ∀ w, (Instr.index 50 opsV (.int .u8 5)).run Tryd.prog w = .ok (.agg #[.func (.func 44) #[] #[], .nilFunc]) w := fun _ => by kernel_rfl
  have hfld : ∀ w, (Instr.field 49 (.agg #[.func (.func 44) #[] #[], .nilFunc]) 0).run Tryd.prog w = .ok (.func (.func 44) #[] #[]) w := fun _ => by kernel_rfl
  clear T
  go_enter Tryd.func10, Tryd.ntmps10
  go_wp2_with (first | (go_at_call 17; refine (H2.out).mono ?_; rintro e w' ⟨rfl, rfl⟩) | (go_at_call 31; refine (ops_any _).mono ?_; rintro e w1 ⟨rfl, hb⟩) | (go_at_call 44; refine (meth5 _ _ _).mono ?_; rintro e w' ⟨rfl, rfl⟩))
  go_ret2
  exact ⟨rfl, hb⟩
theorem do6 (a b : Int) (w : World) (T : Tabs w) : Calls Tryd.prog 10 #[.int .u8 6, .int .i64 a, .int .i64 b] w fun e w' => e = .returned (.tuple #[.int .i64 (bin 6 a b), .int .i64 0]) ∧ Below w.heap.size w w' := by
  have H2 := Lib.hid (two_yes 6 (by decide) (by decide) (by decide) (by decide) w T)
  have hidx : ∀ w, (Instr.index 50 opsV (.int .u8 6)).run Tryd.prog w = .ok (.agg #[.func (.func 45) #[] #[], .nilFunc]) w := fun _ => by kernel_rfl
  have hfld : ∀ w, (Instr.field 49 (.agg #[.func (.func 45) #[] #[], .nilFunc]) 0).run Tryd.prog w = .ok (.func (.func 45) #[] #[]) w := fun _ => by kernel_rfl
  clear T
  go_enter Tryd.func10, Tryd.ntmps10
  go_wp2_with (first | (go_at_call 17; refine (H2.out).mono ?_; rintro e w' ⟨rfl, rfl⟩) | (go_at_call 31; refine (ops_any _).mono ?_; rintro e w1 ⟨rfl, hb⟩) | (go_at_call 45; refine (meth6 _ _ _).mono ?_; rintro e w' ⟨rfl, rfl⟩))
  go_ret2
  exact ⟨rfl, hb⟩
theorem do7 (a b : Int) (w : World) (T : Tabs w) : Calls Tryd.prog 10 #[.int .u8 7, .int .i64 a, .int .i64 b] w fun e w' => e = .returned (.tuple #[.int .i64 (bin 7 a b), .int .i64 0]) ∧ Below w.heap.size w w' := by
  have H2 := Lib.hid (two_yes 7 (by decide) (by decide) (by decide) (by decide) w T)
  have hidx : ∀ w, (Instr.index 50 opsV (.int .u8 7)).run Tryd.prog w = .ok (.agg #[.func (.func 46) #[] #[], .nilFunc]) w := fun _ => by kernel_rfl
  have hfld : ∀ w, (Instr.field 49 (.agg #[.func (.func 46) #[] #[], .nilFunc]) 0).run Tryd.prog w = .ok (.func (.func 46) #[] #[]) w := fun _ => by kernel_rfl
  clear T
  go_enter Tryd.func10, Tryd.ntmps10
  go_wp2_with (first | (go_at_call 17; refine (H2.out).mono ?_; rintro e w' ⟨rfl, rfl⟩) | (go_at_call 31; refine (ops_any _).mono ?_; rintro e w1 ⟨rfl, hb⟩) | (go_at_call 46; refine (meth7 _ _ _).mono ?_; rintro e w' ⟨rfl, rfl⟩))
  go_ret2
  exact ⟨rfl, hb⟩
theorem do8 (a b : Int) (w : World) (T : Tabs w) : Calls Tryd.prog 10 #[.int .u8 8, .int .i64 a, .int .i64 b] w fun e w' => e = .returned (.tuple #[.int .i64 (bin 8 a b), .int .i64 0]) ∧ Below w.heap.size w w' := by
  have H2 := Lib.hid (two_yes 8 (by decide) (by decide) (by decide) (by decide) w T)
  have hidx : ∀ w, (Instr.index 50 opsV (.int .u8 8)).run Tryd.prog w = .ok (.agg #[.func (.func 47) #[] #[], .nilFunc]) w := fun _ => by kernel_rfl
  have hfld : ∀ w, (Instr.field 49 (.agg #[.func (.func 47) #[] #[], .nilFunc]) 0).run Tryd.prog w = .ok (.func (.func 47) #[] #[]) w := fun _ => by kernel_rfl
  clear T
  go_enter Tryd.func10, Tryd.ntmps10
  go_wp2_with (first | (go_at_call 17; refine (H2.out).mono ?_; rintro e w' ⟨rfl, rfl⟩) | (go_at_call 31; refine (ops_any _).mono ?_; rintro e w1 ⟨rfl, hb⟩) | (go_at_call 47; refine (meth8 _ _ _).mono ?_; rintro e w' ⟨rfl, rfl⟩))
  go_ret2
  exact ⟨rfl, hb⟩
theorem do9 (a b : Int) (w : World) (T : Tabs w) : Calls Tryd.prog 10 #[.int .u8 9, .int .i64 a, .int .i64 b] w fun e w' => e = .returned (.tuple #[.int .i64 (bin 9 a b), .int .i64 0]) ∧ Below w.heap.size w w' := by
  have H2 := Lib.hid (two_yes 9 (by decide) (by decide) (by decide) (by decide) w T)
  have hidx : ∀ w, (Instr.index 50 opsV (.int .u8 9)).run Tryd.prog w = .ok (.agg #[.func (.func 48) #[] #[], .nilFunc]) w := fun _ => by kernel_rfl
  have hfld : ∀ w, (Instr.field 49 (.agg #[.func (.func 48) #[] #[], .nilFunc]) 0).run Tryd.prog w = .ok (.func (.func 48) #[] #[]) w := fun _ => by kernel_rfl
  clear T
  go_enter Tryd.func10, Tryd.ntmps10
  go_wp2_with (first | (go_at_call 17; refine (H2.out).mono ?_; rintro e w' ⟨rfl, rfl⟩) | (go_at_call 31; refine (ops_any _).mono ?_; rintro e w1 ⟨rfl, hb⟩) | (go_at_call 48; refine (meth9 _ _ _).mono ?_; rintro e w' ⟨rfl, rfl⟩))
  go_ret2
  exact ⟨rfl, hb⟩
theorem do10 (a b : Int) (w : World) (T : Tabs w) : Calls Tryd.prog 10 #[.int .u8 10, .int .i64 a, .int .i64 b] w fun e w' => e = .returned (.tuple #[.int .i64 (bin 10 a b), .int .i64 0]) ∧ Below w.heap.size w w' := by
  have H2 := Lib.hid (two_yes 10 (by decide) (by decide) (by decide) (by decide) w T)
  have hidx : ∀ w, (Instr.index 50 opsV (.int .u8 10)).run Tryd.prog w = .ok (.agg #[.func (.func 49) #[] #[], .nilFunc]) w := fun _ => by kernel_rfl
  have hfld : ∀ w, (Instr.field 49 (.agg #[.func (.func 49) #[] #[], .nilFunc]) 0).run Tryd.prog w = .ok (.func (.func 49) #[] #[]) w := fun _ => by kernel_rfl
  clear T
  go_enter Tryd.func10, Tryd.ntmps10
  go_wp2_with (first | (go_at_call 17; refine (H2.out).mono ?_; rintro e w' ⟨rfl, rfl⟩) | (go_at_call 31; refine (ops_any _).mono ?_; rintro e w1 ⟨rfl, hb⟩) | (go_at_call 49; refine (meth10 _ _ _).mono ?_; rintro e w' ⟨rfl, rfl⟩))
  go_ret2
  exact ⟨rfl, hb⟩
theorem do11 (a b : Int) (w : World) (T : Tabs w) : Calls Tryd.prog 10 #[.int .u8 11, .int .i64 a, .int .i64 b] w fun e w' => e = .returned (.tuple #[.int .i64 (bin 11 a b), .int .i64 0]) ∧ Below w.heap.size w w' := by
  have H2 := Lib.hid (two_yes 11 (by decide) (by decide) (by decide) (by decide) w T)
  have hidx : ∀ w, (Instr.index 50 opsV (.int .u8 11)).run Tryd.prog w = .ok (.agg #[.func (.func 50) #[] #[], .nilFunc]) w := fun _ => by kernel_rfl
  have hfld : ∀ w, (Instr.field 49 (.agg #[.func (.func 50) #[] #[], .nilFunc]) 0).run Tryd.prog w = .ok (.func (.func 50) #[] #[]) w := fun _ => by kernel_rfl
  clear T
  go_enter Tryd.func10, Tryd.ntmps10
  go_wp2_with (first | (go_at_call 17; refine (H2.out).mono ?_; rintro e w' ⟨rfl, rfl⟩) | (go_at_call 31; refine (ops_any _).mono ?_; rintro e w1 ⟨rfl, hb⟩) | (go_at_call 50; refine (meth11 _ _ _).mono ?_; rintro e w' ⟨rfl, rfl⟩))
  go_ret2
  exact ⟨rfl, hb⟩
theorem do12 (a b : Int) (w : World) (T : Tabs w) : Calls Tryd.prog 10 #[.int .u8 12, .int .i64 a, .int .i64 b] w fun e w' => e = .returned (.tuple #[.int .i64 (bin 12 a b), .int .i64 0]) ∧ Below w.heap.size w w' := by
  have H2 := Lib.hid (two_yes 12 (by decide) (by decide) (by decide) (by decide) w T)
  have hidx : ∀ w, (Instr.index 50 opsV (.int .u8 12)).run Tryd.prog w = .ok (.agg #[.func (.func 52) #[] #[], .nilFunc]) w := fun _ => by kernel_rfl
  have hfld : ∀ w, (Instr.field 49 (.agg #[.func (.func 52) #[] #[], .nilFunc]) 0).run Tryd.prog w = .ok (.func (.func 52) #[] #[]) w := fun _ => by kernel_rfl
  clear T
  go_enter Tryd.func10, Tryd.ntmps10
  go_wp2_with (first | (go_at_call 17; refine (H2.out).mono ?_; rintro e w' ⟨rfl, rfl⟩) | (go_at_call 31; refine (ops_any _).mono ?_; rintro e w1 ⟨rfl, hb⟩) | (go_at_call 52; refine (meth12 _ _ _).mono ?_; rintro e w' ⟨rfl, rfl⟩))
  go_ret2
  exact ⟨rfl, hb⟩
theorem do13 (a b : Int) (w : World) (T : Tabs w) : Calls Tryd.prog 10 #[.int .u8 13, .int .i64 a, .int .i64 b] w fun e w' => e = .returned (.tuple #[.int .i64 (bin 13 a b), .int .i64 0]) ∧ Below w.heap.size w w' := by
  have H2 := Lib.hid (two_yes 13 (by decide) (by decide) (by decide) (by decide) w T)
  have hidx : ∀ w, (Instr.index 50 opsV (.int .u8 13)).run Tryd.prog w = .ok (.agg #[.func (.func 53) #[] #[], .nilFunc]) w := fun _ => by kernel_rfl
  have hfld : ∀ w, (Instr.field 49 (.agg #[.func (.func 53) #[] #[], .nilFunc]) 0).run Tryd.prog w = .ok (.func (.func 53) #[] #[]) w := fun _ => by kernel_rfl
  clear T
  go_enter Tryd.func10, Tryd.ntmps10
  go_wp2_with (first | (go_at_call 17; refine (H2.out).mono ?_; rintro e w' ⟨rfl, rfl⟩) | (go_at_call 31; refine (ops_any _).mono ?_; rintro e w1 ⟨rfl, hb⟩) | (go_at_call 53; refine (meth13 _ _ _).mono ?_; rintro e w' ⟨rfl, rfl⟩))
  go_ret2
  exact ⟨rfl, hb⟩
theorem do14 (a b : Int) (w : World) (T : Tabs w) : Calls Tryd.prog 10 #[.int .u8 14, .int .i64 a, .int .i64 b] w fun e w' => e = .returned (.tuple #[.int .i64 (bin 14 a b), .int .i64 0]) ∧ Below w.heap.size w w' := by
  have H2 := Lib.hid (two_yes 14 (by decide) (by decide) (by decide) (by decide) w T)
  have hidx : ∀ w, (Instr.index 50 opsV (.int .u8 14)).run Tryd.prog w = .ok (.agg #[.func (.func 54) #[] #[], .nilFunc]) w := fun _ => by kernel_rfl
  have hfld : ∀ w, (Instr.field 49 (.agg #[.func (.func 54) #[] #[], .nilFunc]) 0).run Tryd.prog w = .ok (.func (.func 54) #[] #[]) w := fun _ => by kernel_rfl
  clear T
  go_enter Tryd.func10, Tryd.ntmps10
  go_wp2_with (first | (go_at_call 17; refine (H2.out).mono ?_; rintro e w' ⟨rfl, rfl⟩) | (go_at_call 31; refine (ops_any _).mono ?_; rintro e w1 ⟨rfl, hb⟩) | (go_at_call 54; refine (meth14 _ _ _).mono ?_; rintro e w' ⟨rfl, rfl⟩))
  go_ret2
  exact ⟨rfl, hb⟩
theorem do15 (a b : Int) (w : World) (T : Tabs w) : Calls Tryd.prog 10 #[.int .u8 15, .int .i64 a, .int .i64 b] w fun e w' => e = .returned (.tuple #[.int .i64 (bin 15 a b), .int .i64 0]) ∧ Below w.heap.size w w' := by
  have H2 := Lib.hid (two_yes 15 (by decide) (by decide) (by decide) (by decide) w T)
  have hidx : ∀ w, (Instr.index 50 opsV (.int .u8 15)).run Tryd.prog w = .ok (.agg #[.func (.func 55) #[] #[], .nilFunc]) w := fun _ => by kernel_rfl
  have hfld : ∀ w, (Instr.field 49 (.agg #[.func (.func 55) #[] #[], .nilFunc]) 0).run Tryd.prog w = .ok (.func (.func 55) #[] #[]) w := fun _ => by kernel_rfl
  clear T
  go_enter Tryd.func10, Tryd.ntmps10
  go_wp2_with (first | (go_at_call 17; refine (H2.out).mono ?_; rintro e w' ⟨rfl, rfl⟩) | (go_at_call 31; refine (ops_any _).mono ?_; rintro e w1 ⟨rfl, hb⟩) | (go_at_call 55; refine (meth15 _ _ _).mono ?_; rintro e w' ⟨rfl, rfl⟩))
  go_ret2
  exact ⟨rfl, hb⟩
theorem do16 (a b : Int) (w : World) (T : Tabs w) : Calls Tryd.prog 10 #[.int .u8 16, .int .i64 a, .int .i64 b] w fun e w' => e = .returned (.tuple #[.int .i64 (bin 16 a b), .int .i64 0]) ∧ Below w.heap.size w w' := by
  have H2 := Lib.hid (two_yes 16 (by decide) (by decide) (by decide) (by decide) w T)
  have hidx : ∀ w, (Instr.index 50 opsV (.int .u8 16)).run Tryd.prog w = .ok (.agg #[.func (.func 56) #[] #[], .nilFunc]) w := fun _ => by kernel_rfl
  have hfld : ∀ w, (Instr.field 49 (.agg #[.func (.func 56) #[] #[], .nilFunc]) 0).run Tryd.prog w = .ok (.func (.func 56) #[] #[]) w := fun _ => by kernel_rfl
  clear T
  go_enter Tryd.func10, Tryd.ntmps10
  go_wp2_with (first | (go_at_call 17; refine (H2.out).mono ?_; rintro e w' ⟨rfl, rfl⟩) | (go_at_call 31; refine (ops_any _).mono ?_; rintro e w1 ⟨rfl, hb⟩) | (go_at_call 56; refine (meth16 _ _ _).mono ?_; rintro e w' ⟨rfl, rfl⟩))
  go_ret2
  exact ⟨rfl, hb⟩
theorem do_no (o a b : Int) (h0 : 0 ≤ o) (h1 : o ≤ 255) (hl : o = 0 ∨ 17 ≤ o) (w : World) (T : Tabs w) : Calls Tryd.prog 10 #[.int .u8 o, .int .i64 a, .int .i64 b] w fun e w' => e = .returned (.tuple #[.int .i64 0, .int .i64 2]) ∧ w = w' := by
  have hl' : levelOf o = 0 ∨ levelOf o = 9 := by
    rcases hl with rfl | hl
    · exact .inl rfl
    · by_cases h : 19 ≤ o
      · exact .inl (by unfold levelOf; rw [if_pos h])
      · have : o = 17 ∨ o = 18 := by omega
        rcases this with rfl | rfl <;> exact .inr rfl
  have H2 := Lib.hid (two_no o h0 h1 hl' w T)
  clear T hl hl' h0 h1
  go_enter Tryd.func10, Tryd.ntmps10
  go_wp2_with (go_at_call 17; refine (H2.out).mono ?_; rintro e w' ⟨rfl, rfl⟩)
  go_ret2
  exact ⟨rfl, rfl⟩
theorem one17 (a : Int) (w : World) (T : Tabs w) : Calls Tryd.prog 12 #[.int .u8 17, .int .i64 a] w fun e w' => e = .returned (.tuple #[.int .i64 (wrap64 (-a)), .int .i64 0]) ∧ Below w.heap.size w w' := by
  have H2 := Lib.hid (show Calls Tryd.prog 21 #[.int .u8 17] w fun e w' => e = .returned (.int .i64 9) ∧ w = w' from level_any 17 (by decide) (by decide) w T)
  have hidx : ∀ w, (Instr.index 50 opsV (.int .u8 17)).run Tryd.prog w = .ok (.agg #[.nilFunc, .func (.func 57) #[] #[]]) w := fun _ => by kernel_rfl
  have hfld : ∀ w, (Instr.field 49 (.agg #[.nilFunc, .func (.func 57) #[] #[]]) 1).run Tryd.prog w = .ok (.func (.func 57) #[] #[]) w := fun _ => by kernel_rfl
  clear T
  go_enter Tryd.func12, Tryd.ntmps12
  go_wp2_with (first | (go_at_call 21; refine (H2.out).mono ?_; rintro e w' ⟨rfl, rfl⟩) | (go_at_call 31; refine (ops_any _).mono ?_; rintro e w1 ⟨rfl, hb⟩) | (go_at_call 57; refine (minus1_any _ _).mono ?_; rintro e w' ⟨rfl, rfl⟩))
  go_ret2
  exact ⟨rfl, hb⟩
theorem one18 (a : Int) (w : World) (T : Tabs w) : Calls Tryd.prog 12 #[.int .u8 18, .int .i64 a] w fun e w' => e = .returned (.tuple #[.int .i64 (bit (a == 0)), .int .i64 0]) ∧ Below w.heap.size w w' := by
  have H2 := Lib.hid (show Calls Tryd.prog 21 #[.int .u8 18] w fun e w' => e = .returned (.int .i64 9) ∧ w = w' from level_any 18 (by decide) (by decide) w T)
  have hidx : ∀ w, (Instr.index 50 opsV (.int .u8 18)).run Tryd.prog w = .ok (.agg #[.nilFunc, .func (.func 58) #[] #[]]) w := fun _ => by kernel_rfl
  have hfld : ∀ w, (Instr.field 49 (.agg #[.nilFunc, .func (.func 58) #[] #[]]) 1).run Tryd.prog w = .ok (.func (.func 58) #[] #[]) w := fun _ => by kernel_rfl
  clear T
  go_enter Tryd.func12, Tryd.ntmps12
  go_wp2_with (first | (go_at_call 21; refine (H2.out).mono ?_; rintro e w' ⟨rfl, rfl⟩) | (go_at_call 31; refine (ops_any _).mono ?_; rintro e w1 ⟨rfl, hb⟩) | (go_at_call 58; refine (not1_any _ _).mono ?_; rintro e w' ⟨rfl, rfl⟩))
  go_ret2
  exact ⟨rfl, hb⟩
theorem one_no (o a : Int) (h0 : 0 ≤ o) (h1 : o ≤ 255) (hl : o ≠ 17) (hl2 : o ≠ 18) (w : World) (T : Tabs w) : Calls Tryd.prog 12 #[.int .u8 o, .int .i64 a] w fun e w' => e = .returned (.tuple #[.int .i64 0, .int .i64 2]) ∧ w = w' := by
  have hl' : (levelOf o != 9) = true := by
    by_cases h : 19 ≤ o
    · unfold levelOf; rw [if_pos h]; rfl
    · have : o = 0 ∨ o = 1 ∨ o = 2 ∨ o = 3 ∨ o = 4 ∨ o = 5 ∨ o = 6 ∨ o = 7 ∨ o = 8 ∨ o = 9 ∨ o = 10 ∨ o = 11 ∨ o = 12 ∨ o = 13 ∨ o = 14 ∨ o = 15 ∨ o = 16 := by omega
      rcases this with rfl | rfl | rfl | rfl | rfl | rfl | rfl | rfl | rfl | rfl | rfl | rfl | rfl | rfl | rfl | rfl | rfl <;> rfl
  have H2 := Lib.hid (level_any o h0 h1 w T)
  obtain ⟨v, hv⟩ : ∃ v, v = levelOf o := ⟨_, rfl⟩
  rw [← hv] at hl' H2
  clear hv T h0 h1 hl hl2
  go_enter Tryd.func12, Tryd.ntmps12
  go_wp2_with (go_at_call 21; refine (H2.out).mono ?_; rintro e w' ⟨rfl, rfl⟩)
  go_ret2
  exact ⟨rfl, rfl⟩

/-- Every operator of two. -/
theorem do_any (o a b : Int) (h1 : 1 ≤ o) (h2 : o ≤ 16) (w : World) (T : Tabs w) : Calls Tryd.prog 10 #[.int .u8 o, .int .i64 a, .int .i64 b] w fun e w' => e = .returned (.tuple #[.int .i64 (bin o a b), .int .i64 0]) ∧ Below w.heap.size w w' := by
  have : o = 1 ∨ o = 2 ∨ o = 3 ∨ o = 4 ∨ o = 5 ∨ o = 6 ∨ o = 7 ∨ o = 8 ∨ o = 9 ∨ o = 10 ∨ o = 11 ∨ o = 12 ∨ o = 13 ∨ o = 14 ∨ o = 15 ∨ o = 16 := by omega
  rcases this with rfl | rfl | rfl | rfl | rfl | rfl | rfl | rfl | rfl | rfl | rfl | rfl | rfl | rfl | rfl | rfl
  · exact do1 a b w T
  · exact do2 a b w T
  · exact do3 a b w T
  · exact do4 a b w T
  · exact do5 a b w T
  · exact do6 a b w T
  · exact do7 a b w T
  · exact do8 a b w T
  · exact do9 a b w T
  · exact do10 a b w T
  · exact do11 a b w T
  · exact do12 a b w T
  · exact do13 a b w T
  · exact do14 a b w T
  · exact do15 a b w T
  · exact do16 a b w T

theorem dolaw_any (o a b : Int) (h1 : 1 ≤ o) (h2 : o ≤ 16) (w : World) (T : Tabs w) : Calls Tryd.prog 29 #[.int .u8 o, .int .i64 a, .int .i64 b] w fun e w' => e = .returned (.int .i64 (bin o a b)) ∧ Below w.heap.size w w' := by
  have H := Lib.hid (do_any o a b h1 h2 w T)
  clear T h1 h2
  go_enter Tryd.func29, Tryd.ntmps29
  go_wp2_with (go_at_call 10; refine (H.out).mono ?_; rintro e w' ⟨rfl, hb⟩)
  go_ret
  exact ⟨rfl, hb⟩
theorem minuslaw_any (a : Int) (w : World) (T : Tabs w) : Calls Tryd.prog 30 #[.int .i64 a] w fun e w' => e = .returned (.int .i64 (wrap64 (-a))) ∧ Below w.heap.size w w' := by
  have H := Lib.hid (one17 a w T)
  clear T
  go_enter Tryd.func30, Tryd.ntmps30
  go_wp2_with (go_at_call 12; refine (H.out).mono ?_; rintro e w' ⟨rfl, hb⟩)
  go_ret
  exact ⟨rfl, hb⟩
end Go.Proofs.YtheajpdffkehnaaDoor

/- The lexer's signs: how long the longest one is at a text's beginning. -/
import Derived.Test.YteedpojchapjgaaDoorLeaf2
namespace Go.Proofs.YteedpojchapjgaaDoor
open Go.RowKit
set_option linter.unusedVariables false

/-- Does one of the long signs stand at the beginning? -/
def longB (l : List UInt8) : Bool := Lib.hasPrefix l (longAt 0).data.toList || Lib.hasPrefix l (longAt 1).data.toList || Lib.hasPrefix l (longAt 2).data.toList || Lib.hasPrefix l (longAt 3).data.toList || Lib.hasPrefix l (longAt 4).data.toList || Lib.hasPrefix l (longAt 5).data.toList
def firstN (l : List UInt8) : Nat := match l with
  | [] => 0
  | c :: _ => if signB (c.toNat : Int) = true then 1 else 0
/-- How long the longest sign is at the beginning. -/
def aheadN (l : List UInt8) : Nat := if longB l = true then 2 else firstN l
theorem ret_int {k : IntKind} {a b : Int} (h : a = b) : Ending.returned (.int k a) = .returned (.int k b) := by rw [h]
set_option maxHeartbeats 1000000 in
theorem ahead_none (s : ByteArray) (w : World) (T : LTabs w) (h0 : s.size = 0) : Calls Tryd.prog 39 #[.string s] w fun e w' => e = .returned (.int .i64 (aheadN s.data.toList)) ∧ w = w' := by
  obtain ⟨tt, fr, hg⟩ := var_heap gLong T.long
  obtain ⟨R, hR⟩ : ∃ R, R = aheadN s.data.toList := ⟨_, rfl⟩
  rw [← hR]
  have i0 : ∀ w, (Instr.index 79 (.agg longCells) (.int .i64 0)).run Tryd.prog w = .ok (.string (longAt 0)) w := fun _ => by kernel_rfl
  have z0 : (longAt 0).size = 2 := rfl
  obtain ⟨p0, hp0⟩ : ∃ p, p = Lib.hasPrefix s.data.toList (longAt 0).data.toList := ⟨_, rfl⟩
  have H0 := Lib.hid (show ∀ w : World, Calls Tryd.prog 56 #[.string s, .string (longAt 0)] w fun e w' => e = .returned (.bool p0) ∧ w' = w from fun w => by rw [hp0]; exact Go.Proofs.Tryd.strings_HasPrefix s (longAt 0) w)
  have i1 : ∀ w, (Instr.index 79 (.agg longCells) (.int .i64 1)).run Tryd.prog w = .ok (.string (longAt 1)) w := fun _ => by kernel_rfl
  have z1 : (longAt 1).size = 2 := rfl
  obtain ⟨p1, hp1⟩ : ∃ p, p = Lib.hasPrefix s.data.toList (longAt 1).data.toList := ⟨_, rfl⟩
  have H1 := Lib.hid (show ∀ w : World, Calls Tryd.prog 56 #[.string s, .string (longAt 1)] w fun e w' => e = .returned (.bool p1) ∧ w' = w from fun w => by rw [hp1]; exact Go.Proofs.Tryd.strings_HasPrefix s (longAt 1) w)
  have i2 : ∀ w, (Instr.index 79 (.agg longCells) (.int .i64 2)).run Tryd.prog w = .ok (.string (longAt 2)) w := fun _ => by kernel_rfl
  have z2 : (longAt 2).size = 2 := rfl
  obtain ⟨p2, hp2⟩ : ∃ p, p = Lib.hasPrefix s.data.toList (longAt 2).data.toList := ⟨_, rfl⟩
  have H2 := Lib.hid (show ∀ w : World, Calls Tryd.prog 56 #[.string s, .string (longAt 2)] w fun e w' => e = .returned (.bool p2) ∧ w' = w from fun w => by rw [hp2]; exact Go.Proofs.Tryd.strings_HasPrefix s (longAt 2) w)
  have i3 : ∀ w, (Instr.index 79 (.agg longCells) (.int .i64 3)).run Tryd.prog w = .ok (.string (longAt 3)) w := fun _ => by kernel_rfl
  have z3 : (longAt 3).size = 2 := rfl
  obtain ⟨p3, hp3⟩ : ∃ p, p = Lib.hasPrefix s.data.toList (longAt 3).data.toList := ⟨_, rfl⟩
  have H3 := Lib.hid (show ∀ w : World, Calls Tryd.prog 56 #[.string s, .string (longAt 3)] w fun e w' => e = .returned (.bool p3) ∧ w' = w from fun w => by rw [hp3]; exact Go.Proofs.Tryd.strings_HasPrefix s (longAt 3) w)
  have i4 : ∀ w, (Instr.index 79 (.agg longCells) (.int .i64 4)).run Tryd.prog w = .ok (.string (longAt 4)) w := fun _ => by kernel_rfl
  have z4 : (longAt 4).size = 2 := rfl
  obtain ⟨p4, hp4⟩ : ∃ p, p = Lib.hasPrefix s.data.toList (longAt 4).data.toList := ⟨_, rfl⟩
  have H4 := Lib.hid (show ∀ w : World, Calls Tryd.prog 56 #[.string s, .string (longAt 4)] w fun e w' => e = .returned (.bool p4) ∧ w' = w from fun w => by rw [hp4]; exact Go.Proofs.Tryd.strings_HasPrefix s (longAt 4) w)
  have i5 : ∀ w, (Instr.index 79 (.agg longCells) (.int .i64 5)).run Tryd.prog w = .ok (.string (longAt 5)) w := fun _ => by kernel_rfl
  have z5 : (longAt 5).size = 2 := rfl
  obtain ⟨p5, hp5⟩ : ∃ p, p = Lib.hasPrefix s.data.toList (longAt 5).data.toList := ⟨_, rfl⟩
  have H5 := Lib.hid (show ∀ w : World, Calls Tryd.prog 56 #[.string s, .string (longAt 5)] w fun e w' => e = .returned (.bool p5) ∧ w' = w from fun w => by rw [hp5]; exact Go.Proofs.Tryd.strings_HasPrefix s (longAt 5) w)
  have hRR : Hid (R = if (p0 || p1 || p2 || p3 || p4 || p5) = true then 2 else firstN s.data.toList) := by
    rw [Hid, hR, hp0, hp1, hp2, hp3, hp4, hp5]; rfl
  clear hR hp0 hp1 hp2 hp3 hp4 hp5 T
  have h3 : s = ⟨#[]⟩ := by
    cases s with
    | mk d => have : d.size = 0 := h0; simp at this; rw [this]
  subst h3
  have hf : firstN (ByteArray.mk #[]).data.toList = 0 := rfl
  rw [hf] at hRR
  clear h0 hf
  go_enter Tryd.func39, Tryd.ntmps39
  go_wp2_with (refine wpList_load_row rfl 79 _ rfl 2 rfl tt _ fr _ hg Tryd.underlying79 rfl (by kernel_rfl) ?_)
  refine wp_loop_rounds 7 ?_
  repeat any_goals (rw [rounds_succ]; go_wp2_with (first | (go_at_call 56; (with_reducible refine (H0.out _).mono ?_); rintro e w' ⟨rfl, rfl⟩) | (go_at_call 56; (with_reducible refine (H1.out _).mono ?_); rintro e w' ⟨rfl, rfl⟩) | (go_at_call 56; (with_reducible refine (H2.out _).mono ?_); rintro e w' ⟨rfl, rfl⟩) | (go_at_call 56; (with_reducible refine (H3.out _).mono ?_); rintro e w' ⟨rfl, rfl⟩) | (go_at_call 56; (with_reducible refine (H4.out _).mono ?_); rintro e w' ⟨rfl, rfl⟩) | (go_at_call 56; (with_reducible refine (H5.out _).mono ?_); rintro e w' ⟨rfl, rfl⟩)))
  all_goals
    go_ret
    refine ⟨ret_int ?_, rfl⟩
    rw [hRR.out]
    simp [*]
set_option maxHeartbeats 1000000 in
theorem ahead_some (s : ByteArray) (w : World) (T : LTabs w) (h0 : 0 < s.size) : Calls Tryd.prog 39 #[.string s] w fun e w' => e = .returned (.int .i64 (aheadN s.data.toList)) ∧ w = w' := by
  obtain ⟨tt, fr, hg⟩ := var_heap gLong T.long
  obtain ⟨R, hR⟩ : ∃ R, R = aheadN s.data.toList := ⟨_, rfl⟩
  rw [← hR]
  have i0 : ∀ w, (Instr.index 79 (.agg longCells) (.int .i64 0)).run Tryd.prog w = .ok (.string (longAt 0)) w := fun _ => by kernel_rfl
  have z0 : (longAt 0).size = 2 := rfl
  obtain ⟨p0, hp0⟩ : ∃ p, p = Lib.hasPrefix s.data.toList (longAt 0).data.toList := ⟨_, rfl⟩
  have H0 := Lib.hid (show ∀ w : World, Calls Tryd.prog 56 #[.string s, .string (longAt 0)] w fun e w' => e = .returned (.bool p0) ∧ w' = w from fun w => by rw [hp0]; exact Go.Proofs.Tryd.strings_HasPrefix s (longAt 0) w)
  have i1 : ∀ w, (Instr.index 79 (.agg longCells) (.int .i64 1)).run Tryd.prog w = .ok (.string (longAt 1)) w := fun _ => by kernel_rfl
  have z1 : (longAt 1).size = 2 := rfl
  obtain ⟨p1, hp1⟩ : ∃ p, p = Lib.hasPrefix s.data.toList (longAt 1).data.toList := ⟨_, rfl⟩
  have H1 := Lib.hid (show ∀ w : World, Calls Tryd.prog 56 #[.string s, .string (longAt 1)] w fun e w' => e = .returned (.bool p1) ∧ w' = w from fun w => by rw [hp1]; exact Go.Proofs.Tryd.strings_HasPrefix s (longAt 1) w)
  have i2 : ∀ w, (Instr.index 79 (.agg longCells) (.int .i64 2)).run Tryd.prog w = .ok (.string (longAt 2)) w := fun _ => by kernel_rfl
  have z2 : (longAt 2).size = 2 := rfl
  obtain ⟨p2, hp2⟩ : ∃ p, p = Lib.hasPrefix s.data.toList (longAt 2).data.toList := ⟨_, rfl⟩
  have H2 := Lib.hid (show ∀ w : World, Calls Tryd.prog 56 #[.string s, .string (longAt 2)] w fun e w' => e = .returned (.bool p2) ∧ w' = w from fun w => by rw [hp2]; exact Go.Proofs.Tryd.strings_HasPrefix s (longAt 2) w)
  have i3 : ∀ w, (Instr.index 79 (.agg longCells) (.int .i64 3)).run Tryd.prog w = .ok (.string (longAt 3)) w := fun _ => by kernel_rfl
  have z3 : (longAt 3).size = 2 := rfl
  obtain ⟨p3, hp3⟩ : ∃ p, p = Lib.hasPrefix s.data.toList (longAt 3).data.toList := ⟨_, rfl⟩
  have H3 := Lib.hid (show ∀ w : World, Calls Tryd.prog 56 #[.string s, .string (longAt 3)] w fun e w' => e = .returned (.bool p3) ∧ w' = w from fun w => by rw [hp3]; exact Go.Proofs.Tryd.strings_HasPrefix s (longAt 3) w)
  have i4 : ∀ w, (Instr.index 79 (.agg longCells) (.int .i64 4)).run Tryd.prog w = .ok (.string (longAt 4)) w := fun _ => by kernel_rfl
  have z4 : (longAt 4).size = 2 := rfl
  obtain ⟨p4, hp4⟩ : ∃ p, p = Lib.hasPrefix s.data.toList (longAt 4).data.toList := ⟨_, rfl⟩
  have H4 := Lib.hid (show ∀ w : World, Calls Tryd.prog 56 #[.string s, .string (longAt 4)] w fun e w' => e = .returned (.bool p4) ∧ w' = w from fun w => by rw [hp4]; exact Go.Proofs.Tryd.strings_HasPrefix s (longAt 4) w)
  have i5 : ∀ w, (Instr.index 79 (.agg longCells) (.int .i64 5)).run Tryd.prog w = .ok (.string (longAt 5)) w := fun _ => by kernel_rfl
  have z5 : (longAt 5).size = 2 := rfl
  obtain ⟨p5, hp5⟩ : ∃ p, p = Lib.hasPrefix s.data.toList (longAt 5).data.toList := ⟨_, rfl⟩
  have H5 := Lib.hid (show ∀ w : World, Calls Tryd.prog 56 #[.string s, .string (longAt 5)] w fun e w' => e = .returned (.bool p5) ∧ w' = w from fun w => by rw [hp5]; exact Go.Proofs.Tryd.strings_HasPrefix s (longAt 5) w)
  have hRR : Hid (R = if (p0 || p1 || p2 || p3 || p4 || p5) = true then 2 else firstN s.data.toList) := by
    rw [Hid, hR, hp0, hp1, hp2, hp3, hp4, hp5]; rfl
  clear hR hp0 hp1 hp2 hp3 hp4 hp5 T
  have hbt := PlainAid.get_bt s
  have hx0 := PlainAid.bt_nonneg s 0
  have hx1 := PlainAid.bt_le s 0
  obtain ⟨c, hc⟩ : ∃ c, c = PlainAid.bt s 0 := ⟨_, rfl⟩
  rw [← hc] at hx0 hx1
  have hbt0 : ∀ h : 0 < s.size, ((s[0]'h).toNat : Int) = c := fun h => by rw [hc]; exact PlainAid.get_bt s 0 h
  have hfr : s.data.toList = s[0] :: bytesFrom s 1 := from_at s 0 h0
  obtain ⟨q, hq⟩ : ∃ q, q = signB c := ⟨_, rfl⟩
  have hf : firstN s.data.toList = if q = true then 1 else 0 := by
    rw [hfr, hq, ← hbt0 h0]; rfl
  rw [hf] at hRR
  have hne : s.toList.isEmpty = false := by rw [Lib.toList_data, hfr]; rfl
  have hne2 : ¬ s.toList = [] := by rw [Lib.toList_data, hfr]; simp
  have HS := Lib.hid (show ∀ w : World, Calls Tryd.prog 57 #[.int .u8 c] w fun e w' => e = .returned (.bool q) ∧ w = w' from fun w => by rw [hq]; exact sign_any c hx0 hx1 w)
  clear hf hfr hbt hq hc
  go_enter Tryd.func39, Tryd.ntmps39
  go_wp2_with (refine wpList_load_row rfl 79 _ rfl 2 rfl tt _ fr _ hg Tryd.underlying79 rfl (by kernel_rfl) ?_)
  refine wp_loop_rounds 7 ?_
  repeat any_goals (rw [rounds_succ]; go_wp2_with (first | (go_at_call 56; (with_reducible refine (H0.out _).mono ?_); rintro e w' ⟨rfl, rfl⟩) | (go_at_call 56; (with_reducible refine (H1.out _).mono ?_); rintro e w' ⟨rfl, rfl⟩) | (go_at_call 56; (with_reducible refine (H2.out _).mono ?_); rintro e w' ⟨rfl, rfl⟩) | (go_at_call 56; (with_reducible refine (H3.out _).mono ?_); rintro e w' ⟨rfl, rfl⟩) | (go_at_call 56; (with_reducible refine (H4.out _).mono ?_); rintro e w' ⟨rfl, rfl⟩) | (go_at_call 56; (with_reducible refine (H5.out _).mono ?_); rintro e w' ⟨rfl, rfl⟩) | (go_at_call 57; refine (HS.out _).mono ?_; rintro e w' ⟨rfl, rfl⟩)))
  all_goals
    go_ret
    refine ⟨ret_int ?_, rfl⟩
    rw [hRR.out]
    simp [*]
theorem ahead_any (s : ByteArray) (w : World) (T : LTabs w) : Calls Tryd.prog 39 #[.string s] w fun e w' => e = .returned (.int .i64 (aheadN s.data.toList)) ∧ w = w' := by
  by_cases h0 : 0 < s.size
  · exact ahead_some s w T h0
  · exact ahead_none s w T (by omega)
end Go.Proofs.YteedpojchapjgaaDoor

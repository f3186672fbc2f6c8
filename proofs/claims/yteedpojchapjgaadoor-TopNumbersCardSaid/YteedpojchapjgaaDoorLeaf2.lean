/- The lexer's words and signs, and what a number's digits say. -/
import Derived.Test.YteedpojchapjgaaDoorLeaf
namespace Go.Proofs.YteedpojchapjgaaDoor
open Go.RowKit
set_option linter.unusedVariables false

theorem var_heap {P : Program} {w : World} {n : String} {g : Nat} {cs : Array Value} (hg : P.globalNamed n = some g) (h : w.var? P n = some cs) : ∃ t fr, w.heap[g]? = some (.cells cs t fr) := by
  simp only [World.var?, hg, Option.bind_some] at h
  split at h
  · rename_i c e fr he
    simp only [Option.some.injEq] at h
    subst h
    exact ⟨_, _, he⟩
  · cases h
def wordAt (k : Nat) : ByteArray := ⟨(wordsL.getD k []).toArray⟩
def longAt (k : Nat) : ByteArray := ⟨(longL.getD k []).toArray⟩
/-- Is it a word of the language? -/
def wordB (s : ByteArray) : Bool := (wordAt 0).toList == s.toList || (wordAt 1).toList == s.toList || (wordAt 2).toList == s.toList || (wordAt 3).toList == s.toList || (wordAt 4).toList == s.toList || (wordAt 5).toList == s.toList || (wordAt 6).toList == s.toList || (wordAt 7).toList == s.toList || (wordAt 8).toList == s.toList || (wordAt 9).toList == s.toList
set_option maxHeartbeats 1000000 in
theorem word_any (s : ByteArray) (w : World) (T : LTabs w) : Calls Tryd.prog 17 #[.string s] w fun e w' => e = .returned (.bool (wordB s)) ∧ w = w' := by
  obtain ⟨tt, fr, hg⟩ := var_heap gWords T.words
  have i0 : ∀ w, (Instr.index 54 (.agg wordCells) (.int .i64 0)).run Tryd.prog w = .ok (.string (wordAt 0)) w := fun _ => by kernel_rfl
  have i1 : ∀ w, (Instr.index 54 (.agg wordCells) (.int .i64 1)).run Tryd.prog w = .ok (.string (wordAt 1)) w := fun _ => by kernel_rfl
  have i2 : ∀ w, (Instr.index 54 (.agg wordCells) (.int .i64 2)).run Tryd.prog w = .ok (.string (wordAt 2)) w := fun _ => by kernel_rfl
  have i3 : ∀ w, (Instr.index 54 (.agg wordCells) (.int .i64 3)).run Tryd.prog w = .ok (.string (wordAt 3)) w := fun _ => by kernel_rfl
  have i4 : ∀ w, (Instr.index 54 (.agg wordCells) (.int .i64 4)).run Tryd.prog w = .ok (.string (wordAt 4)) w := fun _ => by kernel_rfl
  have i5 : ∀ w, (Instr.index 54 (.agg wordCells) (.int .i64 5)).run Tryd.prog w = .ok (.string (wordAt 5)) w := fun _ => by kernel_rfl
  have i6 : ∀ w, (Instr.index 54 (.agg wordCells) (.int .i64 6)).run Tryd.prog w = .ok (.string (wordAt 6)) w := fun _ => by kernel_rfl
  have i7 : ∀ w, (Instr.index 54 (.agg wordCells) (.int .i64 7)).run Tryd.prog w = .ok (.string (wordAt 7)) w := fun _ => by kernel_rfl
  have i8 : ∀ w, (Instr.index 54 (.agg wordCells) (.int .i64 8)).run Tryd.prog w = .ok (.string (wordAt 8)) w := fun _ => by kernel_rfl
  have i9 : ∀ w, (Instr.index 54 (.agg wordCells) (.int .i64 9)).run Tryd.prog w = .ok (.string (wordAt 9)) w := fun _ => by kernel_rfl
  clear T
  go_enter Tryd.func17, Tryd.ntmps17
  go_wp2_with (refine wpList_load_row rfl 54 _ rfl 0 rfl tt _ fr _ hg Tryd.underlying54 rfl (by kernel_rfl) ?_)
  go_rounds 11
  all_goals
    go_ret
    exact ⟨ret_bool (by simp [wordB, *]), rfl⟩
end Go.Proofs.YteedpojchapjgaaDoor

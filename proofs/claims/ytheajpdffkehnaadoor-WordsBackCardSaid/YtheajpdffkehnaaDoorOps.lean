/- Words: what the table of the operators is, and the level of each. -/
import Derived.Test.YtheajpdffkehnaaDoorTabs
import Derived.Test.YtheajpdffkehnaaDoorMath
import Derived.WalkLawsBesides
import Derived.Laws.Rows
import Derived.Laws.Tables
namespace Go.Proofs.YtheajpdffkehnaaDoor
open Go.RowKit
set_option linter.unusedVariables false

def levelOf (o : Int) : Int := if 19 ≤ o then 0 else lev.getD o.toNat 0

theorem level_any (o : Int) (h0 : 0 ≤ o) (h1 : o ≤ 255) (w : World) (T : Tabs w) :
    Calls Tryd.prog 21 #[.int .u8 o] w fun e w' => e = .returned (.int .i64 (levelOf o)) ∧ w = w' := by
  by_cases h : 19 ≤ o
  · have hl : levelOf o = 0 := by unfold levelOf; rw [if_pos h]
    rw [hl]; clear hl
    go_enter Tryd.func21, Tryd.ntmps21
    go_wp2
    go_ret
    exact ⟨rfl, rfl⟩
  · have hc := T.lev o.toNat (by omega)
    have hl : levelOf o = lev.getD o.toNat 0 := by unfold levelOf; rw [if_neg h]
    rw [hl]; clear hl
    obtain ⟨v, hv⟩ : ∃ v, v = lev.getD o.toNat 0 := ⟨_, rfl⟩
    rw [← hv] at hc ⊢
    clear hv T
    go_enter Tryd.func21, Tryd.ntmps21
    go_wp2
    go_ret
    exact ⟨rfl, rfl⟩

def opsCells : Array Value := #[.nilFunc, .nilFunc, .func (.func 40) #[] #[], .nilFunc, .func (.func 41) #[] #[], .nilFunc, .func (.func 42) #[] #[], .nilFunc, .func (.func 43) #[] #[], .nilFunc, .func (.func 44) #[] #[], .nilFunc, .func (.func 45) #[] #[], .nilFunc, .func (.func 46) #[] #[], .nilFunc, .func (.func 47) #[] #[], .nilFunc, .func (.func 48) #[] #[], .nilFunc, .func (.func 49) #[] #[], .nilFunc, .func (.func 50) #[] #[], .nilFunc, .func (.func 52) #[] #[], .nilFunc, .func (.func 53) #[] #[], .nilFunc, .func (.func 54) #[] #[], .nilFunc, .func (.func 55) #[] #[], .nilFunc, .func (.func 56) #[] #[], .nilFunc, .nilFunc, .func (.func 57) #[] #[], .nilFunc, .func (.func 58) #[] #[]]
def opsV : Value := .agg opsCells
theorem below_setRow {B : Nat} {a w : World} (h : Below B a w) {g : Nat} (hg : B ≤ g) (cs : Array Value) : Below B a (w.setRow g cs) :=
  h.trans ⟨rfl, rfl, rfl, by simp, fun k hk => by
    simp only [World.setRow, Array.getElem?_modify]
    rw [if_neg (by omega)]⟩
theorem ops_any (w : World) :
    Calls Tryd.prog 31 #[] w fun e w' => e = .returned opsV ∧ Below w.heap.size w w' := by
  go_enter Tryd.func31, Tryd.ntmps31
  go_wp2_with (refine wpList_store_row rfl 50 _ _ rfl w.heap.size opsCells rfl rfl 50 _ (heap_alloc_new w _) (by kernel_rfl) rfl (by kernel_rfl) ?_)
  refine bodyPost_ret (v := opsV) (results_cell_row rfl _ _ w.heap.size 50 opsCells (0, 0) _ rfl (setRow_heap _ _ _ _ _ _ (heap_alloc_new w _)) Tryd.underlying50 rfl (by kernel_rfl)) rfl ?_
  exact ⟨rfl, below_setRow ((Below.refl _ _).alloc (Nat.le_refl _) _) (Nat.le_refl _) _⟩
end Go.Proofs.YtheajpdffkehnaaDoor

/- The lexer: two texts cut, by reckoning. -/
import Derived.Test.YteedpojchapjgaaDoorScan2
namespace Go.Proofs.YteedpojchapjgaaDoor
open Go.RowKit
def textA : ByteArray := ⟨#[120, 60, 60, 61, 49, 32, 47, 47, 32, 121, 10]⟩
def textB : ByteArray := ⟨#[97, 32, 48, 49]⟩
theorem frontA : frontR textA = ([⟨1, ⟨#[120]⟩, 0, 0, 0, 0⟩, ⟨4, ⟨#[60, 60]⟩, 0, 1, 0, 0⟩, ⟨4, ⟨#[61]⟩, 0, 3, 0, 0⟩, ⟨3, ⟨#[49]⟩, 1, 4, 0, 0⟩], 0, 0) := by kernel_rfl
theorem frontB : frontR textB = ([⟨1, ⟨#[97]⟩, 0, 0, 0, 0⟩], 2, 3) := by kernel_rfl
theorem ownsRow_cells {W : World} {base : Nat} {e : TypeId} {size : Nat} {v : Value} {k : Nat} {xs : List Value} (h : W.ownsRow base e size v (k + 1) xs) :
    ∃ g cap, v = .slice (some ⟨g, 0, none⟩) (k + 1) cap ∧ base ≤ g ∧ g < W.heap.size ∧ ∀ j u, xs[j]? = some u → W.cell? ⟨g, j, none⟩ = some u := by
  rcases h.2 with ⟨_, h0⟩ | ⟨g, cap, cur, hv, hb, hg, hle, hcap, hcs, htk⟩
  · omega
  · refine ⟨g, cap, hv, hb, (Array.getElem?_eq_some_iff.1 hg).1, fun j u hj => ?_⟩
    have h1 : cur.toList[j]? = some u := by
      rw [← htk, List.getElem?_take] at hj
      split at hj
      · exact hj
      · cases hj
    have h2 : cur[j]? = some u := by rw [← Array.getElem?_toList]; exact h1
    have := cell_of_row W g j _ _ _ hg
    rw [this]; exact h2
end Go.Proofs.YteedpojchapjgaaDoor

/- A core within its machine; what is refused; the next instruction. -/
import Derived.Test.YtmpljhfinmfnbaaDoorVs0
namespace Go.Proofs.YtmpljhfinmfnbaaDoor
open Go.RowKit
set_option linter.unusedVariables false
set_option maxRecDepth 100000
theorem coC_len {c : Co} {bv cv : Value} (h : c.regs.length = 16) : (coC c bv cv).length = 20 := by
  simp only [coC, List.length_append, List.length_cons, List.length_nil, List.length_map, h]
theorem flatK_get : ∀ (L : List (Co × Value × Value)), (∀ x ∈ L, x.1.regs.length = 16) → ∀ (k : Nat) (x : Co × Value × Value), L[k]? = some x → ∀ (j : Nat) (u : Value), (coC x.1 x.2.1 x.2.2)[j]? = some u → (flatK L)[k * 20 + j]? = some u
  | [], _, k, x, hk, _, _, _ => by simp at hk
  | y :: L, hl, 0, x, hk, j, u, hj => by
    obtain rfl : y = x := by simpa using hk
    show (coC y.1 y.2.1 y.2.2 ++ flatK L)[0 * 20 + j]? = some u
    rw [Nat.zero_mul, Nat.zero_add, List.getElem?_append_left (List.getElem?_eq_some_iff.1 hj).1]
    exact hj
  | y :: L, hl, k + 1, x, hk, j, u, hj => by
    show (coC y.1 y.2.1 y.2.2 ++ flatK L)[(k + 1) * 20 + j]? = some u
    have h20 := coC_len (bv := y.2.1) (cv := y.2.2) (hl y (by simp))
    rw [List.getElem?_append_right (by rw [h20]; omega), h20, show (k + 1) * 20 + j - 20 = k * 20 + j by omega]
    exact flatK_get L (fun z hz => hl z (by simp [hz])) k x (by simpa using hk) j u hj
/-- A core's cells. -/
structure CoAt (W : World) (g o : Nat) (c : Co) (bv cv : Value) : Prop where
  cell : ∀ (j : Nat) (u : Value), (coC c bv cv)[j]? = some u → W.cell? ⟨g, o + j, none⟩ = some u
  fr : ∀ j : Nat, W.frozen? ⟨g, j, none⟩ = false
theorem VmX.co {W : World} {p : Nat} {s : Vm} {F : List Nat} {cv pv : Value} {sd : Option Addr} {L : List (Co × Value × Value)} {PL : List Nat} (h : VmX W p s F cv pv sd L PL) (hr : ∀ x ∈ L, x.1.regs.length = 16) {k : Nat} {x : Co × Value × Value} (hk : L[k]? = some x) : ∃ g cap, cv = .slice (some ⟨g, 0, none⟩) L.length cap ∧ CoAt W g (k * 20) x.1 x.2.1 x.2.2 ∧ g ∈ F := by
  have hl : k < L.length := (List.getElem?_eq_some_iff.1 hk).1
  rcases h.cors.2 with ⟨_, h0⟩ | ⟨g, cap, cur, e, _, hg, _⟩
  · omega
  · obtain ⟨g2, cap2, e2, _, h2⟩ := row_at h.cors (by omega)
    rw [e] at e2
    injection e2 with e3 e4 e5
    injection e3 with e3
    injection e3 with e3
    subst e3
    exact ⟨g, cap, e, ⟨fun j u hj => h2 _ _ (flatK_get L hr k x hk j u hj), fun j => own_frozen (cs := cur) hg j⟩, h.cF g (by rw [e]; rfl)⟩
theorem p_refusal {W : World} {p : Nat} {s : Vm} {F : List Nat} {cv pv : Value} {sd : Option Addr} {L : List (Co × Value × Value)} {PL : List Nat} (h : VmX W p s F cv pv sd L PL) (k : Int) : Calls Tryd.prog 39 #[.pointer (some ⟨p, 0, none⟩), .int .i64 k] W fun e w' => e = .returned (.int .i64 (if 0 ≤ k ∧ k < (L.length : Int) then 0 else 180)) ∧ W = w' := by
  obtain ⟨a1, c1, e1⟩ := row_slice h.cors
  have p0 : W.cell? ⟨p, 0, none⟩ = some (.slice a1 L.length c1) := by rw [cell_of_row _ _ 0 _ _ _ h.own]; rw [e1]; rfl
  clear h e1
  by_cases h0 : k < 0
  · rw [if_neg (by omega)]
    go_enter Tryd.func39, Tryd.ntmps39
    go_wp2
    go_ret
    exact ⟨rfl, rfl⟩
  · by_cases h1 : k < (L.length : Int)
    · rw [if_pos ⟨by omega, h1⟩]
      have h2 : ¬ k ≥ (L.length : Int) := by omega
      go_enter Tryd.func39, Tryd.ntmps39
      go_wp2
      go_ret
      exact ⟨rfl, rfl⟩
    · rw [if_neg (by omega)]
      have h2 : k ≥ (L.length : Int) := by omega
      go_enter Tryd.func39, Tryd.ntmps39
      go_wp2
      go_ret
      exact ⟨rfl, rfl⟩
theorem p_refusal_nil (k : Int) (W : World) : Calls Tryd.prog 39 #[.pointer none, .int .i64 k] W fun e w' => e = .returned (.int .i64 1) ∧ W = w' := by
  go_enter Tryd.func39, Tryd.ntmps39
  go_wp2
  go_ret
  exact ⟨rfl, rfl⟩
end Go.Proofs.YtmpljhfinmfnbaaDoor

/- Objects: what is asked of all but the instructions. -/
import Derived.Test.YtmpljhfinmfnbaaDoorGo0
namespace Go.Proofs.YtmpljhfinmfnbaaDoor
open Go.RowKit Go.Maps
set_option linter.unusedVariables false
set_option maxRecDepth 100000
theorem lastK_get {l : List Ins} {i : Ins} {n : Nat} (h : l[n]? = some i) (hn : n + 1 = l.length) : lastK l = i.k := by
  unfold lastK
  rw [List.getLast?_eq_getElem?, show l.length - 1 = n by omega, h]
set_option maxHeartbeats 2000000 in
theorem code_any (l : List Ins) (hl : l.length ≤ 140737488351232) {a : Option Addr} {c : Nat} {w : World} (h : insAt w l a) : Calls Tryd.prog 92 #[.slice a l.length c] w fun e w' => e = .returned (.bool (codeB l)) ∧ w = w' := by
  obtain ⟨n, hn⟩ : ∃ n, n = l.length := ⟨_, rfl⟩
  have hc : codeB l = (decide (1 ≤ n) && (decide (n ≤ 16384) && (lastK l == 10 || lastK l == 8))) := by unfold codeB; rw [hn]
  rw [hc, ← hn]
  rw [← hn] at hl
  by_cases h1 : 1 ≤ n
  rotate_left
  · obtain rfl : n = 0 := by omega
    clear h hc hn
    show Calls _ _ _ _ fun e w' => e = .returned (.bool false) ∧ _
    go_enter Tryd.func92, Tryd.ntmps92
    go_wp2
    go_ret
    exact ⟨rfl, rfl⟩
  by_cases h2 : n ≤ 16384
  rotate_left
  · rw [decide_eq_true h1, decide_eq_false h2]
    clear h hc hn
    show Calls _ _ _ _ fun e w' => e = .returned (.bool false) ∧ _
    go_enter Tryd.func92, Tryd.ntmps92
    go_wp2
    go_ret
    exact ⟨rfl, rfl⟩
  rw [decide_eq_true h1, decide_eq_true h2]
  rcases h with e | ⟨g, q, rfl, h⟩
  · subst e; simp at hn; omega
  obtain ⟨m, rfl⟩ : ∃ m, n = m + 1 := ⟨n - 1, by omega⟩
  have il : m < l.length := by omega
  have g1 : l[m]? = some l[m] := List.getElem?_eq_getElem il
  have hk := lastK_get g1 hn
  have f0 := h m _ g1 0 _ rfl
  rw [hk]
  generalize l[m] = i at f0
  obtain ⟨k, o, d, a, b, ad, tt, wd, fr⟩ := i
  simp only [Nat.add_zero] at f0
  clear h hc hn hk g1 il hl
  have hw : IntKind.i64.wrap (((m + 1 : Nat) : Int) - 1) = (m : Int) := by rw [show ((m + 1 : Nat) : Int) - 1 = (m : Int) by omega]; exact IntWalk.i64_in _ (by omega)
  show Calls _ _ _ _ fun e w' => e = .returned (.bool (k == 10 || k == 8)) ∧ _
  by_cases q1 : k = 10
  · subst q1
    show Calls _ _ _ _ fun e w' => e = .returned (.bool true) ∧ _
    go_enter Tryd.func92, Tryd.ntmps92
    go_wp2
    go_ret
    exact ⟨rfl, rfl⟩
  · have q2 := int_f q1
    rw [q2, Bool.false_or]
    clear q1
    go_enter Tryd.func92, Tryd.ntmps92
    go_wp2
    go_ret
    exact ⟨rfl, rfl⟩
end Go.Proofs.YtmpljhfinmfnbaaDoor

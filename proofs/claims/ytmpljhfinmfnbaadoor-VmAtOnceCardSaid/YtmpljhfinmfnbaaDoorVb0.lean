/- Rows of one's own: the few lemmas that a machine asks. -/
import Derived.Test.YtmpljhfinmfnbaaDoorGc0
namespace Go.Proofs.YtmpljhfinmfnbaaDoor
open Go.RowKit
set_option linter.unusedVariables false
set_option maxRecDepth 100000
theorem row_slice {w : World} {B : Nat} {E : TypeId} {k : Nat} {v : Value} {n : Nat} {xs : List Value} (h : w.ownsRow B E k v n xs) : ∃ ao cap, v = .slice ao n cap := by
  rcases h.2 with ⟨hv, h0⟩ | ⟨g, cap, cur, hv, _⟩
  · exact ⟨none, 0, by rw [hv, h0]⟩
  · exact ⟨_, _, hv⟩
def flatI (l : List Ins) : List Value := l.flatMap insC
/-- Two rows of unlike kinds lie apart; so does a row from a block. -/
theorem row_apart {W : World} {base : Nat} {T U : TypeId} {n : Nat} {v : Value} {m : Nat} {xs : List Value} (h : W.ownsRow base T n v m xs) {b : Nat} {cs : Array Value} (hb : Own W b U cs) (ht : (T == U) = false) : v.ownBlock ≠ some b := by
  rcases h.2 with ⟨hv, h0⟩ | ⟨g, cap, cur, hv, h1, h2, h3⟩
  · rw [hv]; simp [Value.ownBlock]
  · intro e
    rw [hv] at e
    have e : g = b := by simpa [Value.ownBlock] using e
    subst e
    unfold Own at hb
    rw [h2] at hb
    injection hb with hb
    injection hb with _ hb
    subst hb
    simp at ht
theorem row_keep {W W' : World} {base : Nat} {T : TypeId} {n : Nat} {v : Value} {k : Nat} {xs : List Value} {p : Nat} (h : W.ownsRow base T n v k xs) (hp : v.ownBlock ≠ some p) (hk : Keep (fun k _ => k ≠ p) W W') : W'.ownsRow base T n v k xs :=
  row_stays h fun g _ hv hlt => by
    rw [hk.block g _ (Array.getElem?_eq_getElem hlt) (fun e => hp (by rw [hv, e])), Array.getElem?_eq_getElem hlt]
theorem row_at {W : World} {base : Nat} {T : TypeId} {n : Nat} {v : Value} {k : Nat} {xs : List Value} (h : W.ownsRow base T n v k xs) (hk : 0 < k) : ∃ g cap, v = .slice (some ⟨g, 0, none⟩) k cap ∧ base ≤ g ∧ ∀ (j : Nat) (u : Value), xs[j]? = some u → W.cell? ⟨g, j, none⟩ = some u := by
  rcases h.2 with ⟨hv, h0⟩ | ⟨g, cap, cur, hv, h1, h2, h3, h4, h5, h6⟩
  · omega
  · refine ⟨g, cap, hv, h1, fun j u hj => ?_⟩
    rw [← h6] at hj
    rw [List.getElem?_take] at hj
    split at hj
    · simp only [World.cell?, h2]
      simpa using hj
    · cases hj
theorem row_mono {W : World} {base base' : Nat} {T : TypeId} {n : Nat} {v : Value} {k : Nat} {xs : List Value} (h : W.ownsRow base T n v k xs) (hb : base' ≤ base) : W.ownsRow base' T n v k xs := by
  obtain ⟨h1, h2⟩ := h
  refine ⟨h1, ?_⟩
  rcases h2 with h2 | ⟨g, cap, cur, e, hg, rest⟩
  · exact .inl h2
  · exact .inr ⟨g, cap, cur, e, Nat.le_trans hb hg, rest⟩
theorem row_ints {W : World} {base : Nat} {v : Value} {l : List Int} (h : W.ownsRow base 2 1 v l.length (l.map fun x => .int .i64 x)) : ∃ a c, v = .slice a l.length c ∧ intsAt W l a := by
  by_cases h0 : l = []
  · obtain ⟨a, c, e⟩ := row_slice h
    exact ⟨a, c, e, .inl h0⟩
  · obtain ⟨g, cap, e, _, h2⟩ := row_at h (List.length_pos_iff.2 h0)
    refine ⟨_, _, e, .inr ⟨g, 0, rfl, fun j x hj => ?_⟩⟩
    rw [Nat.zero_add]
    exact h2 j _ (by rw [List.getElem?_map, hj]; rfl)
theorem flatI_app (L L' : List Ins) : flatI (L ++ L') = flatI L ++ flatI L' := List.flatMap_append
theorem flatI_len : ∀ L : List Ins, (flatI L).length = L.length * 9
  | [] => rfl
  | x :: L => by
    have h := flatI_len L
    simp only [flatI, List.flatMap_cons, List.length_append, List.length_cons] at h ⊢
    have h9 : (insC x).length = 9 := rfl
    omega
theorem flatI_get : ∀ (l : List Ins) (j : Nat) (i : Ins), l[j]? = some i → ∀ (m : Nat) (v : Value), (insC i)[m]? = some v → (flatI l)[j * 9 + m]? = some v
  | [], j, i, h, _, _, _ => by simp at h
  | x :: l, 0, i, h, m, v, hv => by
    obtain rfl : x = i := by simpa using h
    simp only [flatI, List.flatMap_cons, Nat.zero_mul, Nat.zero_add]
    have hlt : m < (insC x).length := (List.getElem?_eq_some_iff.1 hv).1
    rw [List.getElem?_append_left hlt]
    exact hv
  | x :: l, j + 1, i, h, m, v, hv => by
    have h' := flatI_get l j i (by simpa using h) m v hv
    simp only [flatI, List.flatMap_cons] at h' ⊢
    have h9 : (insC x).length = 9 := rfl
    rw [List.getElem?_append_right (by rw [h9]; omega), h9]
    rw [show (j + 1) * 9 + m - 9 = j * 9 + m by omega]
    exact h'
theorem row_insAt {W : World} {base : Nat} {v : Value} {l : List Ins} (h : W.ownsRow base 87 9 v l.length (flatI l)) : ∃ a c, v = .slice a l.length c ∧ insAt W l a := by
  by_cases h0 : l = []
  · obtain ⟨a, c, e⟩ := row_slice h
    exact ⟨a, c, e, .inl h0⟩
  · obtain ⟨g, cap, e, _, h2⟩ := row_at h (List.length_pos_iff.2 h0)
    refine ⟨_, _, e, .inr ⟨g, 0, rfl, fun j i hj m u hu => ?_⟩⟩
    rw [Nat.zero_add]
    exact h2 _ _ (flatI_get l j i hj m u hu)
end Go.Proofs.YtmpljhfinmfnbaaDoor

/- What a right code's instructions lead to (pure). -/
import Derived.Test.YtopinnhfajjndaaGreatDoorTw5
import Derived.Test.YtopinnhfajjndaaGreatDoorFl3
namespace Go.Proofs.YtopinnhfajjndaaGreatDoor
open Go.RowKit
set_option linter.unusedVariables false
set_option maxRecDepth 100000
theorem fit_in {u : Bool} {n c : Int} (hc : 0 < c) (h : fitB u n c = true) : 0 ≤ n ∧ n < c := by
  unfold fitB at h
  cases u with
  | true => unfold inB at h; simpa using h
  | false => have : n = 0 := by simpa using h
             omega
theorem right_parts {i : Ins} {n m : Int} (h : rightB i n m = true) : kB i.k = true ∧ (0 ≤ i.d ∧ i.d < 16) ∧ (0 ≤ i.a ∧ i.a < 16) ∧ (0 ≤ i.b ∧ i.b < 16) ∧ (toB i.k = true → 0 ≤ i.tt ∧ i.tt < n) := by
  unfold rightB at h
  simp only [Bool.and_eq_true] at h
  obtain ⟨h1, _, _, h4, h5, h6, _, h8, _⟩ := h
  refine ⟨h1, fit_in (by omega) h4, fit_in (by omega) h5, fit_in (by omega) h6, fun ht => ?_⟩
  rw [ht] at h8
  unfold fitB inB at h8
  simpa using h8
theorem fol_in {i : Ins} {n m : Int} (h : rightB i n m = true) {j : Int} (h0 : 0 ≤ j) (hl : j + 1 < n ∨ i.k = 10 ∨ i.k = 8) : ∀ x ∈ folL i (j + 1), 0 ≤ x ∧ x < n := by
  obtain ⟨hk, _, _, _, ht⟩ := right_parts h
  intro x hx
  unfold folL at hx
  by_cases h10 : i.k = 10
  · rw [if_pos (.inl h10)] at hx; simp at hx
  rw [if_neg (by rw [hk]; simp [h10])] at hx
  by_cases h8 : i.k = 8
  · rw [if_pos h8] at hx
    obtain rfl : x = i.tt := by simpa using hx
    exact ht (by unfold toB; rw [h8]; rfl)
  rw [if_neg h8] at hx
  have hj : j + 1 < n := by omega
  by_cases h9 : i.k = 9
  · rw [if_pos h9] at hx
    have ht9 := ht (by unfold toB; rw [h9]; rfl)
    rcases (by simpa using hx : x = j + 1 ∨ x = i.tt) with rfl | rfl
    · omega
    · exact ht9
  rw [if_neg h9] at hx
  obtain rfl : x = j + 1 := by simpa using hx
  omega
theorem fol_nil {i : Ins} {n m : Int} (h : rightB i n m = true) (p : Int) : ((folL i p).length : Int) = 0 ↔ i.k = 10 := by
  have hk := (right_parts h).1
  unfold folL
  by_cases h10 : i.k = 10
  · rw [if_pos (.inl h10)]; simp [h10]
  rw [if_neg (by rw [hk]; simp [h10])]
  constructor
  · intro hl
    exfalso
    split at hl
    · simp at hl
    · split at hl <;> simp at hl
  · intro hl; exact absurd hl h10
theorem rd_in {i : Ins} {n m : Int} (h : rightB i n m = true) : ∀ x ∈ rdL i, 0 ≤ x ∧ x < 16 := by
  obtain ⟨_, hd, ha, hb, _⟩ := right_parts h
  intro x hx
  unfold rdL at hx
  split at hx
  · cases ht : twoB i.o with
    | true => rw [ht] at hx; rcases (by simpa using hx : x = i.a ∨ x = i.b) with rfl | rfl <;> assumption
    | false => rw [ht] at hx; obtain rfl : x = i.a := by simpa using hx
               exact ha
  · split at hx
    · obtain rfl : x = i.a := by simpa using hx
      exact ha
    · split at hx
      · obtain rfl : x = i.d := by simpa using hx
        exact hd
      · simp at hx
theorem wr_in {i : Ins} {n m : Int} (h : rightB i n m = true) : 0 ≤ (wrI i).1 ∧ (wrI i).1 < 16 := by
  obtain ⟨_, hd, _, _, _⟩ := right_parts h
  unfold wrI
  cases hasB (uB i.k i.o) 2 with
  | true => exact hd
  | false => simp
/-- The codes of an object that Check takes. -/
theorem top_codes {o : Ob} (ht : topB o = true) : ∀ c ∈ o.cores, codeB c.code = true := by
  unfold topB at ht
  simp only [Bool.and_eq_true, decide_eq_true_eq] at ht
  obtain ⟨_, _, _, _, _, _, _, h9⟩ := ht
  have key : ∀ (seen : List (List UInt8)) (l : List Cor), corsB seen l = true → ∀ c ∈ l, codeB c.code = true := by
    intro seen l
    induction l generalizing seen with
    | nil => intro _ c hc; cases hc
    | cons x r ih =>
      intro h c hc
      simp only [corsB, Bool.and_eq_true] at h
      rcases List.mem_cons.1 hc with rfl | hc
      · have h' := h.1
        unfold corB at h'
        simp only [Bool.and_eq_true] at h'
        exact h'.2.2
      · exact ih _ h.2 c hc
  exact key [] _ h9
theorem code_last {l : List Ins} (h : codeB l = true) {j : Nat} {i : Ins} (hi : l[j]? = some i) : (j : Int) + 1 < (l.length : Int) ∨ i.k = 10 ∨ i.k = 8 := by
  have hj : j < l.length := (List.getElem?_eq_some_iff.1 hi).1
  by_cases he : j + 1 < l.length
  · left; omega
  right
  unfold codeB lastK at h
  simp only [Bool.and_eq_true] at h
  have hl : l.getLast? = some i := by
    rw [List.getLast?_eq_getElem?]
    rw [show l.length - 1 = j by omega]
    exact hi
  rw [hl] at h
  simpa using h.2.2
end Go.Proofs.YtopinnhfajjndaaGreatDoor

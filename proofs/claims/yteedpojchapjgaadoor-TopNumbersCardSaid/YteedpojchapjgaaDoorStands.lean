/- The lexer: between two tokens stand blanks and remarks alone. -/
import Derived.Test.YteedpojchapjgaaDoorLex
import Derived.Test.YteedpojchapjgaaDoorWScans
namespace Go.Proofs.YteedpojchapjgaaDoor
open Go.RowKit
set_option linter.unusedVariables false

theorem cutTo_list (s : ByteArray) (e q : Nat) : (s.extract e q).data.toList = (bytesFrom s e).take (q - e) := by
  rw [Lib.extract_data]; rfl
theorem scan_front {s : ByteArray} (hs : s.size ≤ 65536) (h : (frontR s).2.2 = 0) : scanX s = ((frontR s).1, 0, 0, 0) := by
  unfold scanX; rw [if_neg (by omega), if_pos h]
/-- A text that is gone over whole has no tokens. -/
theorem scan_gone {s : ByteArray} (hs : s.size ≤ 65536) (h : sk false s.data.toList = s.data.toList.length) : scanX s = ([], 0, 0, 0) := by
  have e : frontR s = ([], 0, 0) := by
    rw [front_list]
    exact rest_nil (by rw [h]; exact List.drop_length ..)
  rw [scan_front hs (by rw [e]), e]
theorem scan_gap {s : ByteArray} (hs : s.size ≤ 65536) {e q : Nat} (he : e ≤ s.size) (hq : q = e + sk false (bytesFrom s e)) : scanX (s.extract e q) = ([], 0, 0, 0) := by
  have hle := sk_le false (bytesFrom s e)
  have hl := from_len s e
  refine scan_gone (by simp; omega) ?_
  rw [cutTo_list]
  have ek : q - e = sk false (bytesFrom s e) := by omega
  rw [ek]
  have hp : ((bytesFrom s e).take (sk false (bytesFrom s e))).length = sk false (bytesFrom s e) := by simp; omega
  obtain ⟨b', _, h2⟩ := sk_over false ((bytesFrom s e).take (sk false (bytesFrom s e))) ((bytesFrom s e).drop (sk false (bytesFrom s e))) (by rw [List.take_append_drop]; exact hp.symm)
  have k := h2 []
  rw [List.append_nil] at k
  rw [k]
  cases b' <;> rfl
/-- The tokens that are left, at the end of the one ahead. -/
def StandAt (s : ByteArray) (e : Nat) (xs : List Res) : Prop := e ≤ s.size ∧ restL e (bytesFrom s e) = (xs, 0, 0)
theorem StandAt.nil {s : ByteArray} {e : Nat} (h : StandAt s e []) : e + sk false (bytesFrom s e) = s.size := by
  have hle := sk_le false (bytesFrom s e)
  have hl := from_len s e
  obtain ⟨h0, h1⟩ := h
  by_cases hm : (bytesFrom s e).drop (sk false (bytesFrom s e)) = []
  · have := congrArg List.length hm
    simp at this
    omega
  · by_cases hf : (nextL ((bytesFrom s e).drop (sk false (bytesFrom s e)))).fr = 0
    · rw [rest_tok rfl hf] at h1; cases h1
    · rw [rest_fault rfl hm hf] at h1
      exact absurd (congrArg (fun x => x.2.2) h1) hf
theorem StandAt.cons {s : ByteArray} {e : Nat} {x : Res} {xs : List Res} (h : StandAt s e (x :: xs)) :
    ∃ q n : Nat, q = e + sk false (bytesFrom s e) ∧ 0 < n ∧ q + n ≤ s.size ∧ x.place = q ∧ x.text = s.extract q (q + n) ∧ x.fr = 0 ∧ StandAt s (q + n) xs := by
  have hle := sk_le false (bytesFrom s e)
  have hl := from_len s e
  obtain ⟨h0, h1⟩ := h
  have hm : (bytesFrom s e).drop (sk false (bytesFrom s e)) = bytesFrom s (e + sk false (bytesFrom s e)) := from_drop _ _ _
  have hl2 := from_len s (e + sk false (bytesFrom s e))
  by_cases he : bytesFrom s (e + sk false (bytesFrom s e)) = []
  · rw [rest_nil (hm.trans he)] at h1; cases h1
  · by_cases hf : (nextL (bytesFrom s (e + sk false (bytesFrom s e)))).fr = 0
    · obtain ⟨g1, g2⟩ := nextL_good _ hf
      rw [rest_tok hm hf] at h1
      simp only [Prod.mk.injEq, List.cons.injEq] at h1
      obtain ⟨⟨rfl, h2⟩, h3⟩ := h1
      refine ⟨e + sk false (bytesFrom s e), (nextL (bytesFrom s (e + sk false (bytesFrom s e)))).n, rfl, g1, by omega, ?_, ?_, ?_, by omega, ?_⟩
      · unfold toRes; rw [if_pos hf]
      · unfold toRes; rw [if_pos hf]
        rw [← extract_two _ _ _ (by omega), cut_list]
      · unfold toRes; rw [if_pos hf]
      · rw [from_drop] at h2 h3
        exact Prod.ext h2 h3
    · rw [rest_fault hm he hf] at h1
      exact absurd (congrArg (fun x => x.2.2) h1) hf
theorem front_stand {s : ByteArray} (h : (scanX s).2.1 = 0) : StandAt s 0 (scanX s).1 ∧ s.size ≤ 65536 := by
  unfold scanX at h ⊢
  split at h
  · simp at h
  · rename_i hs
    rw [if_neg hs]
    split at h
    · rename_i hf
      rw [if_pos hf]
      refine ⟨⟨Nat.zero_le _, ?_⟩, by omega⟩
      rw [from_nought, ← front_list]
      have : (frontR s).2.1 = 0 := by
        rw [front_list] at hf ⊢
        exact goL_clean _ _ _ hf
      exact Prod.ext rfl (Prod.ext this hf)
    · simp at h
end Go.Proofs.YteedpojchapjgaaDoor

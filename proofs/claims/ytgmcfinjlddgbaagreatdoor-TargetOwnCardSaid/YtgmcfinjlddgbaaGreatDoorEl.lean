/- A right object's bytes are few. -/
import Derived.Test.YtgmcfinjlddgbaaGreatDoorTc5
namespace Go.Proofs.YtgmcfinjlddgbaaGreatDoor
open Go.RowKit
set_option linter.unusedVariables false
set_option maxRecDepth 100000
theorem corsB_all : ∀ (seen : List (List UInt8)) (l : List Cor), corsB seen l = true → ∀ c ∈ l, nameB c.name = true ∧ codeB c.code = true
  | _, [], _ => by simp
  | seen, x :: l, h => by
    simp only [corsB, Bool.and_eq_true, corB] at h
    intro c hc
    rcases List.mem_cons.1 hc with rfl | hc
    · exact ⟨h.1.1, h.1.2.2⟩
    · exact corsB_all _ l h.2 c hc
theorem nameB_len {s : ByteArray} (h : nameB s = true) : s.size ≤ 32 := by
  simp only [nameB, Bool.and_eq_true, decide_eq_true_eq] at h
  exact h.2.1
theorem codeB_len {l : List Ins} (h : codeB l = true) : l.length ≤ 16384 := by
  simp only [codeB, Bool.and_eq_true, decide_eq_true_eq] at h
  exact h.2.1
structure Few (o : Ob) : Prop where
  sh : 0 ≤ o.sh ∧ o.sh < 65
  lk : 0 ≤ o.lk ∧ o.lk < 17
  bf : 1 ≤ o.bf ∧ o.bf ≤ 16
  mem : o.mem.length ≤ 4096
  cores : o.cores.length ≤ 8
  name : ∀ c ∈ o.cores, c.name.size ≤ 32
  code : ∀ c ∈ o.cores, c.code.length ≤ 16384
theorem few_of {o : Ob} (h : topB o = true) : Few o := by
  simp only [topB, inB, Bool.and_eq_true, decide_eq_true_eq] at h
  obtain ⟨h1, h2, h3, h4, h5, h6, h7, h8⟩ := h
  have h9 := corsB_all _ _ h8
  exact ⟨h1, h2, ⟨h5, h6⟩, h4, h7, fun c hc => nameB_len (h9 c hc).1, fun c hc => codeB_len (h9 c hc).2⟩
theorem flatM_len {α : Type} (f : α → List UInt8) (k : Nat) : ∀ l : List α, (∀ x ∈ l, (f x).length ≤ k) → (l.flatMap f).length ≤ l.length * k
  | [], _ => by simp
  | x :: l, h => by
    rw [List.flatMap_cons, List.length_append, List.length_cons, Nat.add_mul]
    have h1 := h x (by simp)
    have h2 := flatM_len f k l (fun y hy => h y (by simp [hy]))
    omega
theorem obY_len (o : Ob) (hg : rgO o) (h : Few o) : (obY o).length ≤ 200000000 := by
  have hc : ∀ c ∈ o.cores, (corY c).length ≤ 17000000 := fun c hc => by
    have h1 := h.name c hc
    have h2 := h.code c hc
    have h3 := flatM_len insY 1000 c.code (fun i hi => insY_len i (hg.2.2.2.2 c hc i hi))
    have h4 := (numY_len c.name.size).1
    have h5 := (numY_len c.code.length).1
    have h6 : c.name.data.toList.length = c.name.size := Array.length_toList
    unfold corY
    simp only [List.length_append]
    omega
  have h1 := flatM_len corY 17000000 o.cores hc
  have h2 := flatM_len wrdY 100 o.mem (fun x _ => (numY_len x).2)
  have h3 := flatM_len numY 100 [o.sh, o.lk, o.bf, (o.mem.length : Int)] (fun x _ => (numY_len x).1)
  have h4 := (numY_len o.cores.length).1
  have h5 := h.mem
  have h6 := h.cores
  simp only [List.length_cons, List.length_nil] at h3
  unfold obY
  simp only [List.length_append, List.length_cons, List.length_nil]
  omega
theorem enc_len (o : Ob) (hg : rgO o) : (encR o).length ≤ 200000000 := by
  unfold encR
  split
  · next h => exact obY_len o hg (few_of (chk_ok h).1)
  · simp
end Go.Proofs.YtgmcfinjlddgbaaGreatDoor

/- A machine that is made is as a machine always is (pure). -/
import Derived.Test.YtmpljhfinmfnbaaDoorVm0
namespace Go.Proofs.YtmpljhfinmfnbaaDoor
open Go.RowKit
set_option linter.unusedVariables false
set_option maxRecDepth 100000
theorem badI_none {n mem : Int} : ∀ {l : List Ins}, badI n mem l = none → ∀ i ∈ l, rightB i n mem = true
  | [], _, i, hi => by cases hi
  | j :: r, h, i, hi => by
    unfold badI at h
    cases hr : rightB j n mem with
    | false => rw [hr] at h; cases h
    | true =>
      rw [hr] at h
      have h2 : badI n mem r = none := by
        cases e : badI n mem r with
        | none => rfl
        | some k => rw [cond_true, e] at h; cases h
      rcases List.mem_cons.1 hi with rfl | hi
      · exact hr
      · exact badI_none h2 i hi
theorem badCs_none {mem : Int} : ∀ {l : List Cor}, badCs mem l = none → ∀ c ∈ l, badI c.code.length mem c.code = none
  | [], _, c, hc => by cases hc
  | d :: r, h, c, hc => by
    unfold badCs at h
    cases e : badI d.code.length mem d.code with
    | some k => rw [e] at h; cases h
    | none =>
      rw [e] at h
      have h2 : badCs mem r = none := by
        cases e2 : badCs mem r with
        | none => rfl
        | some k => rw [e2] at h; cases h
      rcases List.mem_cons.1 hc with rfl | hc
      · exact e
      · exact badCs_none h2 c hc
theorem corsB_mem : ∀ {l : List Cor} {seen : List (List UInt8)}, corsB seen l = true → ∀ c ∈ l, codeB c.code = true
  | [], _, _, c, hc => by cases hc
  | d :: r, seen, h, c, hc => by
    simp only [corsB, corB, Bool.and_eq_true] at h
    rcases List.mem_cons.1 hc with rfl | hc
    · exact h.1.2.2
    · exact corsB_mem h.2 c hc
/-- What a right object is like. -/
structure ObR (o : Ob) : Prop where
  mem : o.mem.length ≤ 4096
  bf : 1 ≤ o.bf ∧ o.bf ≤ 16
  len : o.cores.length ≤ 8
  code : ∀ c ∈ o.cores, 1 ≤ c.code.length ∧ c.code.length ≤ 16384 ∧ (lastK c.code = 10 ∨ lastK c.code = 8)
  right : ∀ c ∈ o.cores, ∀ i ∈ c.code, rightB i c.code.length o.mem.length = true
theorem obR_of {o : Ob} {x y : Int} (h : chkO o = (0, x, y)) : ObR o := by
  unfold chkO at h
  cases ht : topB o with
  | false => rw [ht] at h; cases h
  | true =>
    rw [ht, cond_true] at h
    cases hb : badCs o.mem.length o.cores with
    | some p => rw [hb] at h; cases h
    | none =>
      simp only [topB, Bool.and_eq_true, decide_eq_true_eq] at ht
      obtain ⟨_, _, _, h4, h5, h6, h7, h8⟩ := ht
      refine ⟨by omega, ⟨h5, h6⟩, by omega, fun c hc => ?_, fun c hc => badI_none (badCs_none hb c hc)⟩
      have h9 := corsB_mem h8 c hc
      simp only [codeB, Bool.and_eq_true, decide_eq_true_eq, Bool.or_eq_true, beq_iff_eq] at h9
      exact ⟨by omega, by omega, h9.2.2⟩
theorem last_of {l : List Ins} {i : Ins} (h : l[l.length - 1]? = some i) : lastK l = i.k := by
  unfold lastK
  rw [List.getLast?_eq_getElem?, h]
theorem new_right {o : Ob} (h : ObR o) (hg : rgO o) : VmR (newV o) := by
  refine ⟨h.bf, h.mem, by show (o.cores.map newC).length ≤ 8; rw [List.length_map]; exact h.len, fun c hc => ?_⟩
  obtain ⟨d, hd, rfl⟩ := List.mem_map.1 hc
  obtain ⟨h1, h2, h3⟩ := h.code d hd
  refine ⟨by simp [newC], ⟨by simp [newC], by show (0 : Int) < (d.code.length : Int); omega⟩, h2, fun i hi => ⟨h.right d hd i hi, hg.2.2.2.2 d hd i hi⟩, fun i hi => ?_, ?_, fun x hx => by cases hx⟩
  · rw [last_of (l := d.code) hi] at h3
    exact h3.symm
  · show ((0 : Nat) : Int) ≤ o.bf
    have := h.bf.1
    omega
end Go.Proofs.YtmpljhfinmfnbaaDoor

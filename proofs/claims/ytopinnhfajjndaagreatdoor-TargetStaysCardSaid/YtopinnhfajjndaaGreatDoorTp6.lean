/- Target's text reader: what is read fits. -/
import Derived.Test.YtopinnhfajjndaaGreatDoorTp5
namespace Go.Proofs.YtopinnhfajjndaaGreatDoor
open Go.RowKit
set_option linter.unusedVariables false
set_option maxRecDepth 100000
theorem siz_rg (t : ByteArray) (s : Pst) : -9223372036854775808 ≤ (sizS t s).1 ∧ (sizS t s).1 ≤ 9223372036854775807 := val_range t s
theorem num_rg (s : Pst) : -9223372036854775808 ≤ (numS' s).1 ∧ (numS' s).1 ≤ 9223372036854775807 := siz_rg (nextS s).1 (nextS s).2
theorem reg_rg (s : Pst) : -9223372036854775808 ≤ (regS' s).1 ∧ (regS' s).1 ≤ 9223372036854775807 := siz_rg (behS 114 s).1 (behS 114 s).2
theorem wd_rg (s : Pst) : -9223372036854775808 ≤ (wdS s).1 ∧ (wdS s).1 ≤ 9223372036854775807 := parse_range (nextS s).1.data.toList
theorem ori_rg (s : Pst) : -9223372036854775808 ≤ (oriS s).1 ∧ (oriS s).1 ≤ 9223372036854775807 := siz_rg (behS 64 s).1 (behS 64 s).2
theorem step_rg (j : Nat) (x : Pst × Ins) (h : rgI x.2) : rgI (stepF j x).2 := by
  obtain ⟨h1, h2, h3, h4, h5, h6, h7, h8, h9⟩ := h
  match j with
  | 0 => exact ⟨h1, h2, reg_rg _, h4, h5, h6, h7, h8, h9⟩
  | 1 => exact ⟨h1, h2, h3, reg_rg _, h5, h6, h7, h8, h9⟩
  | 2 => exact ⟨h1, h2, h3, h4, reg_rg _, h6, h7, h8, h9⟩
  | 3 => exact ⟨h1, h2, h3, h4, h5, num_rg _, h7, h8, h9⟩
  | 4 => exact ⟨h1, h2, h3, h4, h5, h6, num_rg _, h8, h9⟩
  | j + 5 => exact ⟨h1, h2, h3, h4, h5, h6, h7, wd_rg _, h9⟩
theorem vS_rg (u : Int) (x : Pst × Ins) (h : rgI x.2) : ∀ j : Nat, rgI (vS u j x).2
  | 0 => h
  | j + 1 => by
    have ih := vS_rg u x h j
    unfold vS
    cases hasB u (fldB j) with
    | false => exact ih
    | true => exact step_rg j _ ih
theorem ins_rg (s : Pst) (i : Ins) (h : rgI i) : rgI (insS s i).2 := by
  have h2 := vS_rg (uB i.k i.o) (s, i) h 6
  unfold insS
  cases (vS (uB i.k i.o) 6 (s, i)).1.more with
  | false => exact h2
  | true =>
    obtain ⟨h1, h2, h3, h4, h5, h6, h7, h8, h9⟩ := h2
    exact ⟨h1, h2, h3, h4, h5, h6, h7, h8, ori_rg _⟩
theorem hd_fit (j : Nat) (y : Pst × Ob) (h : FitT y.2) : FitT (hdF j y).2 := by
  obtain ⟨h1, h2, h3, h4, r1, r2, r3, r4, r5⟩ := h
  match j with
  | 0 => exact ⟨h1, h2, h3, h4, r1, num_rg _, r3, r4, r5⟩
  | 1 => exact ⟨h1, h2, h3, h4, r1, r2, num_rg _, r4, r5⟩
  | j + 2 => exact ⟨h1, h2, h3, h4, r1, r2, r3, num_rg _, r5⟩
theorem hdS_fit (y : Pst × Ob) (h : FitT y.2) : ∀ j : Nat, FitT (hdS j y).2
  | 0 => h
  | j + 1 => hd_fit j _ (hdS_fit y h j)
theorem mmS_fit : ∀ (n : Nat) (y : Pst × Ob), FitT y.2 → FitT (mmS n y).2
  | 0, y, h => h
  | n + 1, y, h => by
    unfold mmS
    split
    · refine mmS_fit n _ ?_
      obtain ⟨h1, h2, h3, h4, r1, r2, r3, r4, r5⟩ := h
      exact ⟨keep_len _ _ 4096 h1, h2, h3, h4, keep_all r1 (wd_rg _), r2, r3, r4, r5⟩
    · exact h
theorem coS_fit (y : Pst × Ob) (h : FitT y.2) (hs : y.1.rest.size ≤ 140737488351232) : FitT (coS y).2 := by
  obtain ⟨h1, h2, h3, h4, r1, r2, r3, r4, r5⟩ := h
  refine ⟨h1, keep_len _ _ 8 h2, keep_all h3 (by simp), keep_all h4 (Nat.le_trans (next_size y.1).1 hs), r1, r2, r3, r4, keep_all r5 (by simp)⟩
theorem push_fit (o : Ob) (i : Ins) (h : FitT o) (hi : rgI i) : FitT { o with cores := pushI o.cores i } := by
  obtain ⟨h1, h2, h3, h4, r1, r2, r3, r4, r5⟩ := h
  by_cases hc : o.cores = []
  · have e : pushI o.cores i = o.cores := by rw [hc]; rfl
    rw [e]
    exact ⟨h1, h2, h3, h4, r1, r2, r3, r4, r5⟩
  · have e : pushI o.cores i = o.cores.dropLast ++ [⟨(o.cores.getLast hc).name, keepL (o.cores.getLast hc).code i 16384⟩] := by
      unfold pushI
      rw [List.getLast?_eq_some_getLast hc]
    have hm := List.getLast_mem hc
    rw [e]
    have hall : ∀ {P : Cor → Prop}, (∀ c ∈ o.cores, P c) → P ⟨(o.cores.getLast hc).name, keepL (o.cores.getLast hc).code i 16384⟩ → ∀ c ∈ o.cores.dropLast ++ [(⟨(o.cores.getLast hc).name, keepL (o.cores.getLast hc).code i 16384⟩ : Cor)], P c := fun h k c hcm => by
      rcases List.mem_append.1 hcm with hcm | hcm
      · exact h c (List.dropLast_subset _ hcm)
      · obtain rfl := List.mem_singleton.1 hcm
        exact k
    refine ⟨h1, ?_, hall h3 (keep_len _ _ 16384 (h3 (o.cores.getLast hc) hm)), hall h4 (h4 (o.cores.getLast hc) hm), r1, r2, r3, r4, hall r5 (keep_all (r5 (o.cores.getLast hc) hm) hi)⟩
    simp only [List.length_append, List.length_dropLast, List.length_singleton]
    have := List.length_pos_iff.2 hc
    omega
theorem in_fit (t : ByteArray) (y : Pst × Ob) (h : FitT y.2) : FitT (inS t y).2 := by
  unfold inS
  cases (begS t.data.toList).2 with
  | false => exact h
  | true => exact push_fit y.2 _ h (ins_rg _ _ (beg_rg _))
theorem ln_fit (k : Nat) (t : ByteArray) (o : Ob) (h : FitT o) (ht : t.size ≤ 140737488351232) : FitT (lnS k t o).2 := by
  unfold lnS
  split
  · split
    · exact hdS_fit _ h 3
    · exact h
  · split
    · split
      · exact mmS_fit _ _ h
      · exact h
    · split
      · exact coS_fit _ h (Nat.le_trans (next_size _).2 ht)
      · split
        · exact h
        · exact in_fit _ _ h
theorem fit_zero : FitT zOb := ⟨by simp [zOb], by simp [zOb], by simp [zOb], by simp [zOb], by simp [zOb, rgO]⟩
theorem FitT.fit {o : Ob} (h : FitT o) : fitO o := ⟨by have := h.mem; omega, by have := h.cors; omega, fun c hc => ⟨h.name c hc, by have := h.code c hc; omega⟩⟩
end Go.Proofs.YtopinnhfajjndaaGreatDoor

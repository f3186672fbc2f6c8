/- The lexer over lists of bytes: what is cut may be printed. -/
import Derived.Test.YteedpojchapjgaaDoorLexBack
namespace Go.Proofs.YteedpojchapjgaaDoor
open Go.RowKit
set_option linter.unusedVariables false

theorem span_take (f : Int → Bool) : ∀ l : List UInt8, spanN f (l.take (spanN f l)) = spanN f l
  | [] => rfl
  | c :: r => by
    simp only [spanN]
    by_cases hc : f (c.toNat : Int) = true
    · rw [if_pos hc, List.take_succ_cons]
      simp only [spanN]
      rw [if_pos hc, span_take f r]
    · rw [if_neg hc]; rfl
theorem nextL_ok (l : List UInt8) (h : (nextL l).fr = 0) : mayB (nextL l).kind ⟨(l.take (nextL l).n).toArray⟩ (nextL l).wd = true := by
  obtain ⟨g1, g2⟩ := nextL_good l h
  cases l with
  | nil => simp at g2; omega
  | cons c r =>
    have key : ∀ n : Nat, 0 < n → n ≤ (c :: r).length → (⟨((c :: r).take n).toArray⟩ : ByteArray).size = n ∧ PlainAid.bt ⟨((c :: r).take n).toArray⟩ 0 = (c.toNat : Int) := by
      intro n h0 hn
      have hz : (⟨((c :: r).take n).toArray⟩ : ByteArray).size = n := by
        show ((c :: r).take n).toArray.size = n
        rw [List.size_toArray, List.length_take]; omega
      refine ⟨hz, ?_⟩
      rw [← PlainAid.get_bt _ 0 (by omega)]
      have e : (c :: r).take n = c :: r.take (n - 1) := by
        obtain ⟨m, rfl⟩ : ∃ m, n = m + 1 := ⟨n - 1, by omega⟩
        rfl
      have e2 : (⟨((c :: r).take n).toArray⟩ : ByteArray)[0]'(by omega) = c := by
        show ((c :: r).take n).toArray[0]'_ = c
        simp [e]
      rw [e2]
    simp only [nextL] at h g1 g2 ⊢
    by_cases h0 : letterB (c.toNat : Int) = true
    · rw [if_pos h0] at h g1 g2 ⊢
      unfold nameL at h g1 g2 ⊢
      by_cases hw : wordL ((c :: r).take (spanN namedB (c :: r))) = true
      · rw [if_pos hw] at g1 g2 ⊢
        show wordB _ = true
        rw [wordB_list, Lib.toList_data]
        exact hw
      · rw [if_neg hw] at h g1 g2 ⊢
        by_cases h3 : 32 < spanN namedB (c :: r)
        · rw [if_pos h3] at h; simp at h
        · rw [if_neg h3] at g1 g2 ⊢
          obtain ⟨hz, hb⟩ := key _ g1 g2
          show nameB _ = true
          unfold nameB
          have hwB : wordB ⟨((c :: r).take (spanN namedB (c :: r))).toArray⟩ = false := by
            rw [wordB_list, Lib.toList_data]
            simpa using hw
          simp only at hz hb
          rw [hz, hb, hwB, (letter_not h0).2.2]
          have e1 : spanN namedB (⟨((c :: r).take (spanN namedB (c :: r))).toArray⟩ : ByteArray).data.toList = spanN namedB (c :: r) := span_take namedB (c :: r)
          rw [e1]
          have q1 : 0 < spanN namedB (c :: r) := g1
          simp only [decide_eq_true q1, decide_eq_true (show spanN namedB (c :: r) ≤ 32 by omega), Bool.not_false, Bool.and_self, decide_true]
    · rw [if_neg h0] at h g1 g2 ⊢
      by_cases h1 : digitB (c.toNat : Int) = true
      · rw [if_pos h1] at h g1 g2 ⊢
        unfold numL at h g1 g2 ⊢
        cases hv : valueO ((c :: r).take (spanN digitB (c :: r))) with
        | none => rw [hv] at h; simp [numK] at h
        | some v =>
          rw [hv] at h g1 g2
          simp only [numK] at h g1 g2 ⊢
          by_cases hb : letterH ((c :: r).drop (spanN digitB (c :: r))) = true
          · rw [if_pos hb] at h; simp at h
          · rw [if_neg hb]
            show (match valueO ((c :: r).take (spanN digitB (c :: r))) with | some v' => v' == v | none => false) = true
            rw [hv]
            simp
      · rw [if_neg h1] at h g1 g2 ⊢
        by_cases h2 : signB (c.toNat : Int) = true
        · rw [if_pos h2] at g1 g2 ⊢
          obtain ⟨hz, _⟩ := key _ g1 g2
          show isSignB _ = true
          unfold isSignB
          simp only at hz g1 g2
          rw [hz]
          obtain ⟨m, hm⟩ : ∃ m, aheadN (c :: r) = m + 1 := ⟨aheadN (c :: r) - 1, by omega⟩
          have e : (c :: r).take (aheadN (c :: r)) = c :: r.take m := by rw [hm]; rfl
          have e2 : (c :: r.take m) ++ (c :: r).drop (aheadN (c :: r)) = c :: r := by rw [← e, List.take_append_drop]
          have hc := ahead_cut c (r.take m) ((c :: r).drop (aheadN (c :: r))) (by
            rw [e2]
            have : (c :: r.take m).length = aheadN (c :: r) := by rw [← e, List.length_take]; omega
            omega)
          rw [e2] at hc
          have e3 : aheadN (⟨((c :: r).take (aheadN (c :: r))).toArray⟩ : ByteArray).data.toList = aheadN (c :: r) := by
            show aheadN ((c :: r).take (aheadN (c :: r))) = _
            rw [e]; exact hc
          rw [e3, decide_eq_true g1]
          simp
        · rw [if_neg h2] at h; simp at h
theorem goL_ok : ∀ (f q : Nat) (l : List UInt8), ∀ x ∈ (goL f q l).1, okT x = true
  | 0, _, _, x, hx => by simp [goL] at hx
  | f + 1, q, l, x, hx => by
    simp only [goL] at hx
    split at hx
    · simp at hx
    · split at hx
      · rename_i hf
        rcases List.mem_cons.1 hx with rfl | hx
        · unfold okT toRes
          rw [if_pos hf]
          exact nextL_ok l hf
        · exact goL_ok f _ _ x hx
      · simp at hx
theorem scan_ok (s : ByteArray) : ∀ x ∈ (scanX s).1, okT x = true := by
  intro x hx
  unfold scanX at hx
  split at hx
  · simp at hx
  · split at hx
    · rw [front_list] at hx
      exact goL_ok _ _ _ x hx
    · simp at hx
/-- What is cut is printed, or it is too long. -/
theorem scan_print (s : ByteArray) : (printX (scanX s).1).2 = 0 ∨ (printX (scanX s).1).2 = 4 ∧ (printX (scanX s).1).1 = ⟨#[]⟩ := by
  have ha : (scanX s).1.all okT = true := List.all_eq_true.2 (scan_ok s)
  unfold printX
  rw [if_pos ha]
  by_cases hl : 65536 < joinN (scanX s).1
  · rw [if_pos hl]; exact .inr ⟨rfl, rfl⟩
  · rw [if_neg hl]; exact .inl rfl
end Go.Proofs.YteedpojchapjgaaDoor

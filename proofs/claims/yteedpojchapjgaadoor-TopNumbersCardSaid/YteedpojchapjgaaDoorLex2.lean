/- The lexer over lists of bytes: the next token is the same, where a blank, or nothing, stands behind the text that holds it. -/
import Derived.Test.YteedpojchapjgaaDoorLex
namespace Go.Proofs.YteedpojchapjgaaDoor
open Go.RowKit
set_option linter.unusedVariables false

def stopH : List UInt8 → Bool
  | [] => true
  | c :: _ => blankB (c.toNat : Int)
theorem blank_vals {c : UInt8} (h : blankB (c.toNat : Int) = true) : c = 32 ∨ c = 9 ∨ c = 10 ∨ c = 13 := by
  unfold blankB at h
  rcases of_decide_eq_true h with h | h | h | h
  · exact .inl (u8_int.1 h)
  · exact .inr (.inl (u8_int.1 h))
  · exact .inr (.inr (.inl (u8_int.1 h)))
  · exact .inr (.inr (.inr (u8_int.1 h)))
theorem span_stop {f : Int → Bool} {X : List UInt8} (hX : stopH X = true) (hf : ∀ c : UInt8, blankB (c.toNat : Int) = true → f (c.toNat : Int) = false) : ∀ p : List UInt8, spanN f (p ++ X) = spanN f p
  | [] => by
    cases X with
    | nil => rfl
    | cons c r => simp only [List.nil_append, spanN]; rw [if_neg (by rw [hf c hX]; decide)]
  | c :: p => by simp only [List.cons_append, spanN, span_stop hX hf p]
theorem span_cut {f : Int → Bool} (X : List UInt8) : ∀ p : List UInt8, spanN f (p ++ X) ≤ p.length → spanN f p = spanN f (p ++ X)
  | [], h => by simp only [List.length_nil] at h; simp only [spanN]; omega
  | c :: p, h => by
    simp only [List.cons_append, spanN, List.length_cons] at h ⊢
    split
    · rename_i hc
      rw [if_pos hc] at h
      rw [span_cut X p (by omega)]
    · rfl
theorem named_blank (c : UInt8) (h : blankB (c.toNat : Int) = true) : namedB (c.toNat : Int) = false := by
  rcases blank_vals h with rfl | rfl | rfl | rfl <;> decide
theorem digit_blank (c : UInt8) (h : blankB (c.toNat : Int) = true) : digitB (c.toNat : Int) = false := by
  rcases blank_vals h with rfl | rfl | rfl | rfl <;> decide
theorem letter_blank (c : UInt8) (h : blankB (c.toNat : Int) = true) : letterB (c.toNat : Int) = false := by
  rcases blank_vals h with rfl | rfl | rfl | rfl <;> decide
theorem letterH_stop {X : List UInt8} (h : stopH X = true) : letterH X = false := by
  cases X with
  | nil => rfl
  | cons c r => exact letter_blank c h
def longW (l : List UInt8) : Bool := List.isPrefixOf [61, 61] l || List.isPrefixOf [33, 61] l || List.isPrefixOf [60, 61] l || List.isPrefixOf [62, 61] l || List.isPrefixOf [60, 60] l || List.isPrefixOf [62, 62] l
theorem longW_eq (l : List UInt8) : longB l = longW l := rfl
theorem longW_nil : longB [] = false := by rw [longW_eq]; rfl
theorem longW_one (c : UInt8) : longB [c] = false := by
  rw [longW_eq]; simp [longW, List.isPrefixOf]
theorem longW_cons (c d : UInt8) (r : List UInt8) : longB (c :: d :: r) = longB [c, d] := by
  rw [longW_eq, longW_eq]; simp only [longW, List.isPrefixOf_cons_cons, List.isPrefixOf_nil_left]
theorem longW_blank (c d : UInt8) (h : blankB (d.toNat : Int) = true) : longB [c, d] = false := by
  rw [longW_eq]
  rcases blank_vals h with rfl | rfl | rfl | rfl <;> simp [longW, List.isPrefixOf]
theorem ahead_stop (c : UInt8) (p : List UInt8) {X : List UInt8} (hX : stopH X = true) : aheadN (c :: p ++ X) = aheadN (c :: p) := by
  unfold aheadN
  have e : longB (c :: p ++ X) = longB (c :: p) := by
    cases p with
    | nil =>
      cases X with
      | nil => rfl
      | cons d r => rw [longW_one, List.cons_append, List.nil_append, longW_cons, longW_blank c d hX]
    | cons d p => simp only [List.cons_append]; rw [longW_cons, longW_cons c d p]
  rw [e]
  rfl
theorem ahead_cut (c : UInt8) (p X : List UInt8) (h : aheadN (c :: p ++ X) ≤ (c :: p).length) : aheadN (c :: p) = aheadN (c :: p ++ X) := by
  unfold aheadN at h ⊢
  cases p with
  | cons d p =>
    simp only [List.cons_append] at h ⊢
    rw [longW_cons c d (p ++ X), longW_cons c d p]
    rfl
  | nil =>
    by_cases hl : longB ([c] ++ X) = true
    · rw [if_pos hl] at h; simp at h
    · rw [if_neg hl, if_neg (by rw [longW_one]; decide)]
      rfl
theorem nextL_stop {p X : List UInt8} (hp : ¬ p = []) (hX : stopH X = true) : nextL (p ++ X) = nextL p := by
  cases p with
  | nil => exact absurd rfl hp
  | cons c p =>
    have hn := span_stop hX named_blank (c :: p)
    have hd := span_stop hX digit_blank (c :: p)
    have hnl := spanN_le namedB (c :: p)
    have hdl := spanN_le digitB (c :: p)
    have hs := ahead_stop c p hX
    have e1 : nameL (c :: p ++ X) = nameL (c :: p) := by
      unfold nameL
      rw [hn, List.take_append_of_le_length hnl]
    have e2 : numL (c :: p ++ X) = numL (c :: p) := by
      unfold numL
      rw [hd, List.take_append_of_le_length hdl, List.drop_append_of_le_length hdl]
      have : letterH (List.drop (spanN digitB (c :: p)) (c :: p) ++ X) = letterH (List.drop (spanN digitB (c :: p)) (c :: p)) := by
        cases h : List.drop (spanN digitB (c :: p)) (c :: p) with
        | nil => rw [List.nil_append, letterH_stop hX]; rfl
        | cons d r => rfl
      rw [this]
    simp only [List.cons_append] at e1 e2 hs ⊢
    simp only [nextL]
    rw [e1, e2, hs]
theorem nextL_cut {p X : List UInt8} (hp : ¬ p = []) (h : (nextL (p ++ X)).fr = 0) (hn : (nextL (p ++ X)).n ≤ p.length) : nextL p = nextL (p ++ X) := by
  cases p with
  | nil => exact absurd rfl hp
  | cons c p =>
    simp only [List.cons_append, nextL] at h hn ⊢
    by_cases h0 : letterB (c.toNat : Int) = true
    · rw [if_pos h0] at h hn
      rw [if_pos h0, if_pos h0]
      have hle : spanN namedB (c :: (p ++ X)) ≤ (c :: p).length := by
        unfold nameL at h hn
        split at h
        · rename_i hw; rw [if_pos hw] at hn; exact hn
        · rename_i hw
          rw [if_neg hw] at hn
          split at h
          · simp at h
          · rename_i h3; rw [if_neg h3] at hn; exact hn
      have k := span_cut X (c :: p) hle
      have kl := spanN_le namedB (c :: p)
      unfold nameL
      have e := (List.take_append_of_le_length (l₂ := X) kl).symm
      simp only [List.cons_append] at k e
      rw [k] at e
      rw [k, e]
    · rw [if_neg h0] at h hn
      rw [if_neg h0, if_neg h0]
      by_cases h1 : digitB (c.toNat : Int) = true
      · rw [if_pos h1] at h hn
        rw [if_pos h1, if_pos h1]
        unfold numL at h hn ⊢
        cases hv : valueO ((c :: (p ++ X)).take (spanN digitB (c :: (p ++ X)))) with
        | none => rw [hv] at h; simp [numK] at h
        | some v =>
          rw [hv] at h hn
          simp only [numK] at h hn
          have hb : letterH ((c :: (p ++ X)).drop (spanN digitB (c :: (p ++ X)))) = false := by
            cases hb : letterH ((c :: (p ++ X)).drop (spanN digitB (c :: (p ++ X)))) with
            | false => rfl
            | true => rw [hb] at h; simp at h
          rw [hb] at hn
          have hle : spanN digitB (c :: (p ++ X)) ≤ (c :: p).length := hn
          have k := span_cut X (c :: p) hle
          have kl := spanN_le digitB (c :: p)
          have e := (List.take_append_of_le_length (l₂ := X) kl).symm
          have e2 := (List.drop_append_of_le_length (l₂ := X) kl)
          simp only [List.cons_append] at k e e2
          rw [k] at e e2
          rw [k, e, hv, hb]
          have : letterH (List.drop (spanN digitB (c :: (p ++ X))) (c :: p)) = false := by
            rw [e2] at hb
            cases hd : List.drop (spanN digitB (c :: (p ++ X))) (c :: p) with
            | nil => rfl
            | cons d r => rw [hd] at hb; exact hb
          rw [this]
      · rw [if_neg h1] at h hn
        rw [if_neg h1, if_neg h1]
        by_cases h2 : signB (c.toNat : Int) = true
        · rw [if_pos h2] at hn
          rw [if_pos h2, if_pos h2]
          have k := ahead_cut c p X hn
          simp only [List.cons_append] at k
          rw [k]
        · rw [if_neg h2, if_neg h2]
end Go.Proofs.YteedpojchapjgaaDoor

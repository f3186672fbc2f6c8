/- Words and their texts, there and back: plain mathematics of the digits. -/
import Derived.Test.YtheajpdffkehnaaDoorTexts
namespace Go.Proofs.YtheajpdffkehnaaDoor
open Go.RowKit
set_option linter.unusedVariables false

theorem scan_append (bl : Bool) (m : Int) : ∀ (l r : List UInt8) (s d : Int), scanN bl m (l ++ r) s d = if (scanN bl m l s d).2.2 = true then scanN bl m r (scanN bl m l s d).1 (scanN bl m l s d).2.1 else scanN bl m l s d
  | [], r, s, d => by simp [scanN]
  | c :: l, r, s, d => by
    simp only [List.cons_append, scanN]
    by_cases h : Halts bl m s d (c.toNat : Int)
    · simp only [if_pos h]; simp
    · simp only [if_neg h]
      exact scan_append bl m l r _ _
theorem scan_count (bl : Bool) (m : Int) : ∀ (l : List UInt8) (s d : Int), d ≤ (scanN bl m l s d).2.1 ∧ (scanN bl m l s d).2.1 ≤ d + l.length ∧ ((scanN bl m l s d).2.2 = true → (scanN bl m l s d).2.1 = d + l.length)
  | [], s, d => by simp [scanN]
  | c :: l, s, d => by
    simp only [scanN]
    by_cases h : Halts bl m s d (c.toNat : Int)
    · simp only [if_pos h, List.length_cons]
      refine ⟨by omega, by omega, fun hx => by simp at hx⟩
    · simp only [if_neg h, List.length_cons]
      have k := scan_count bl m l (s * 10 + ((c.toNat : Int) - 48)) (d + 1)
      refine ⟨by omega, by omega, fun hx => ?_⟩
      have := k.2.2 hx
      omega
theorem digit_nat (k : Nat) (h : k < 10) : ((UInt8.ofNat (48 + k)).toNat : Int) = 48 + k := by
  rw [UInt8.toNat_ofNat']; omega
/-- The numeral of n goes in whole. -/
theorem scan_dec (bl : Bool) (m : Int) : ∀ (j n : Nat), n ≤ j → (n : Int) ≤ m → (bl = true → 1 ≤ n) → scanN bl m (Lib.decDigits n) 0 0 = ((n : Int), ((Lib.decDigits n).length : Int), true)
  | j, n, hj, hm, hb => by
    by_cases h10 : n < 10
    · rw [Lib.decDigits_one h10]
      simp only [scanN]
      rw [digit_nat n h10, if_neg]
      · simp; omega
      · rintro (h | h | h | h | h)
        · omega
        · omega
        · have := hb h.2.2; omega
        · omega
        · omega
    · cases j with
      | zero => omega
      | succ j =>
        have ih := scan_dec bl m j (n / 10) (by omega) (by omega) (fun _ => by omega)
        have hl : 1 ≤ (Lib.decDigits (n / 10)).length := by
          by_cases h : n / 10 < 10
          · rw [Lib.decDigits_one h]; simp
          · rw [dec_last _ (by omega)]; simp
        rw [dec_last n (by omega), scan_append, ih]
        simp only [if_true, scanN]
        rw [digit_nat (n % 10) (by omega), if_neg]
        · simp; omega
        · rintro (h | h | h | h | h)
          · omega
          · omega
          · omega
          · omega
          · omega
theorem decDigits_head (n : Nat) : ∃ u r, Lib.decDigits n = u :: r ∧ u ≠ 45 := by
  have key : ∀ j n : Nat, n ≤ j → ∃ u r, Lib.decDigits n = u :: r ∧ u ≠ 45 := by
    intro j
    induction j with
    | zero =>
      intro n h
      obtain rfl : n = 0 := by omega
      exact ⟨48, [], by rw [Lib.decDigits_one (by decide)]; rfl, by decide⟩
    | succ j ih =>
      intro n h
      by_cases h10 : n < 10
      · refine ⟨UInt8.ofNat (48 + n), [], Lib.decDigits_one h10, fun he => ?_⟩
        have := digit_nat n h10
        rw [he] at this
        have e45 : ((45 : UInt8).toNat : Int) = 45 := rfl
        omega
      · obtain ⟨u, r, e, hu⟩ := ih (n / 10) (by omega)
        exact ⟨u, r ++ [UInt8.ofNat (48 + n % 10)], by rw [dec_last n (by omega), e]; rfl, hu⟩
  exact key n n (Nat.le_refl _)
theorem told_whole (bl : Bool) (v d : Int) (hd : d ≠ 0) : told bl (v, d, true) = (signed bl v, 0, 0) := told_yes rfl hd rfl
theorem signed_below (v : Int) (h0 : 0 ≤ v) (h1 : v ≤ 9223372036854775808) : signed true v = -v := by
  show wrap64 (-(wrap64 v)) = -v
  unfold wrap64; omega
theorem signed_above (v : Int) (h0 : 0 ≤ v) (h1 : v ≤ 9223372036854775807) : signed false v = v := by
  show wrap64 v = v
  unfold wrap64; omega
theorem parseP_below (r : List UInt8) : parseP (45 :: r) = told true (scanN true 9223372036854775808 r 0 0) := by
  unfold parseP; split
  · rename_i heq; simp only [List.cons.injEq, true_and] at heq; rw [heq]
  · rename_i h; exact absurd rfl (h r)
theorem parseP_above (u : UInt8) (r : List UInt8) (hu : u ≠ 45) : parseP (u :: r) = told false (scanN false 9223372036854775807 (u :: r) 0 0) := by
  unfold parseP; split
  · rename_i heq; simp only [List.cons.injEq] at heq; exact absurd heq.1 hu
  · rfl
theorem dec_pos (n : Nat) : ((Lib.decDigits n).length : Int) ≠ 0 := by
  obtain ⟨u, r, e, _⟩ := decDigits_head n
  rw [e, List.length_cons]; omega
theorem back_below (k : Nat) (h0 : 1 ≤ k) (h1 : k ≤ 9223372036854775808) : parseP (45 :: Lib.decDigits k) = (-(k : Int), 0, 0) := by
  rw [parseP_below, scan_dec true 9223372036854775808 k k (Nat.le_refl _) (by omega) (fun _ => h0), told_whole _ _ _ (dec_pos k), signed_below _ (by omega) (by omega)]
theorem back_above (k : Nat) (h1 : k ≤ 9223372036854775807) : parseP (Lib.decDigits k) = ((k : Int), 0, 0) := by
  obtain ⟨u, r, e2, hu⟩ := decDigits_head k
  have e3 : parseP (Lib.decDigits k) = told false (scanN false 9223372036854775807 (Lib.decDigits k) 0 0) := by
    rw [e2]; exact parseP_above u r hu
  rw [e3, scan_dec false 9223372036854775807 k k (Nat.le_refl _) (by omega) (fun h => by cases h), told_whole _ _ _ (dec_pos k), signed_above _ (by omega) (by omega)]
theorem parse_back (n : Int) (h0 : -9223372036854775808 ≤ n) (h1 : n ≤ 9223372036854775807) : parseP (Lib.itoa n) = (n, 0, 0) := by
  by_cases hn : n < 0
  · obtain ⟨k, hk⟩ : ∃ k : Nat, k = n.natAbs := ⟨_, rfl⟩
    have e : Lib.itoa n = 45 :: Lib.decDigits k := by unfold Lib.itoa; rw [if_pos hn, hk]
    have en : -(k : Int) = n := by omega
    rw [e, back_below k (by omega) (by omega), en]
  · obtain ⟨k, hk⟩ : ∃ k : Nat, k = n.toNat := ⟨_, rfl⟩
    have e : Lib.itoa n = Lib.decDigits k := by unfold Lib.itoa; rw [if_neg hn, hk]
    have en : (k : Int) = n := by omega
    rw [e, back_above k (by omega), en]
/-- Digits that go in whole are the numeral of their size. -/
theorem scan_is (bl : Bool) (m : Int) (hm : 0 ≤ m) : ∀ (j : Nat) (l : List UInt8), l.length = j → 1 ≤ j → (scanN bl m l 0 0).2.2 = true →
    0 ≤ (scanN bl m l 0 0).1 ∧ (scanN bl m l 0 0).1 ≤ m ∧ (bl = true → 1 ≤ (scanN bl m l 0 0).1) ∧ l = Lib.decDigits (scanN bl m l 0 0).1.toNat
  | 0, l, hl, hj, _ => by omega
  | j + 1, l, hl, _, hok => by
    obtain ⟨l', c, rfl⟩ : ∃ l' c, l = l' ++ [c] := by
      have hne : l ≠ [] := by intro h; subst h; simp at hl
      exact ⟨l.dropLast, l.getLast hne, (List.dropLast_concat_getLast hne).symm⟩
    have hl' : l'.length = j := by simpa using hl
    rw [scan_append] at hok ⊢
    by_cases hok' : (scanN bl m l' 0 0).2.2 = true
    · rw [if_pos hok'] at hok ⊢
      have hcnt := (scan_count bl m l' 0 0).2.2 hok'
      obtain ⟨v, hv⟩ : ∃ v, v = (scanN bl m l' 0 0).1 := ⟨_, rfl⟩
      obtain ⟨d, hd⟩ : ∃ d, d = (scanN bl m l' 0 0).2.1 := ⟨_, rfl⟩
      rw [← hv, ← hd] at hok ⊢
      rw [← hd] at hcnt
      simp only [scanN] at hok ⊢
      by_cases hh : Halts bl m v d (c.toNat : Int)
      · rw [if_pos hh] at hok; simp at hok
      · rw [if_neg hh]
        have k0 : ¬ ((c.toNat : Int) < 48) := fun hx => hh (.inl hx)
        have k1 : ¬ (57 < (c.toNat : Int)) := fun hx => hh (.inr (.inl hx))
        have k2 : ¬ ((c.toNat : Int) = 48 ∧ d = 0 ∧ bl = true) := fun hx => hh (.inr (.inr (.inl hx)))
        have k3 : ¬ (0 < d ∧ v = 0) := fun hx => hh (.inr (.inr (.inr (.inl hx))))
        have k4 : ¬ ((m - ((c.toNat : Int) - 48)) / 10 < v) := fun hx => hh (.inr (.inr (.inr (.inr hx))))
        have hc : c = UInt8.ofNat (48 + (c.toNat - 48)) := by
          apply UInt8.toNat_inj.1
          rw [UInt8.toNat_ofNat']
          have := c.toNat_lt
          omega
        by_cases hj : j = 0
        · have hnil : l' = [] := List.length_eq_zero_iff.1 (by omega)
          subst hnil
          have hv0 : v = 0 := hv
          have hd0 : d = 0 := hd
          subst hv0 hd0
          refine ⟨by omega, by omega, fun hb => ?_, ?_⟩
          · have : ¬ (c.toNat : Int) = 48 := fun hx => k2 ⟨hx, rfl, hb⟩
            omega
          · rw [show (0 * 10 + ((c.toNat : Int) - 48)).toNat = c.toNat - 48 by omega, Lib.decDigits_one (by omega), ← hc]
            rfl
        · have ih := scan_is bl m hm j l' hl' (by omega) hok'
          rw [← hv] at ih
          have hv1 : 1 ≤ v := by
            have : ¬ v = 0 := fun hx => k3 ⟨by omega, hx⟩
            omega
          refine ⟨by show 0 ≤ v * 10 + ((c.toNat : Int) - 48); omega, by show v * 10 + ((c.toNat : Int) - 48) ≤ m; omega, fun _ => by show 1 ≤ v * 10 + ((c.toNat : Int) - 48); omega, ?_⟩
          show l' ++ [c] = Lib.decDigits (v * 10 + ((c.toNat : Int) - 48)).toNat
          rw [dec_last _ (by omega), show (v * 10 + ((c.toNat : Int) - 48)).toNat / 10 = v.toNat by omega, show (v * 10 + ((c.toNat : Int) - 48)).toNat % 10 = c.toNat - 48 by omega, ← hc, ← ih.2.2.2]
    · rw [if_neg hok'] at hok
      exact absurd hok hok'
theorem told_cases (bl : Bool) (m : Int) (hm : 0 ≤ m) (hb : m = if bl then 9223372036854775808 else 9223372036854775807) (l : List UInt8) :
    ((told bl (scanN bl m l 0 0)).2.1 = 0 ∧ -9223372036854775808 ≤ (told bl (scanN bl m l 0 0)).1 ∧ (told bl (scanN bl m l 0 0)).1 ≤ 9223372036854775807 ∧ Lib.itoa (told bl (scanN bl m l 0 0)).1 = (if bl then 45 :: l else l)) ∨
    ((told bl (scanN bl m l 0 0)).2.1 = 10 ∧ (told bl (scanN bl m l 0 0)).1 = 0 ∧ 0 ≤ (told bl (scanN bl m l 0 0)).2.2 ∧ (told bl (scanN bl m l 0 0)).2.2 ≤ l.length + bit bl) := by
  have hc := scan_count bl m l 0 0
  have hbit : 0 ≤ bit bl := by cases bl <;> decide
  by_cases hok : (scanN bl m l 0 0).2.2 = true ∧ (scanN bl m l 0 0).2.1 ≠ 0
  · left
    have hl : 1 ≤ l.length := by have := hc.2.2 hok.1; have := hok.2; omega
    have k := scan_is bl m hm l.length l rfl hl hok.1
    rw [told_yes hok.1 hok.2 rfl]
    obtain ⟨v, hv⟩ : ∃ v, v = (scanN bl m l 0 0).1 := ⟨_, rfl⟩
    rw [← hv] at k ⊢
    obtain ⟨k0, k1, k2, k3⟩ := k
    cases bl with
    | true =>
      simp only [if_true] at hb
      have hv1 := k2 rfl
      have e : signed true v = -v := signed_below v k0 (by omega)
      refine ⟨rfl, by show _ ≤ signed true v; rw [e]; omega, by show signed true v ≤ _; rw [e]; omega, ?_⟩
      show Lib.itoa (signed true v) = 45 :: l
      rw [e]
      unfold Lib.itoa
      rw [if_pos (by omega), show (-v).natAbs = v.toNat by omega, ← k3]
    | false =>
      have hb' : m = 9223372036854775807 := by simpa using hb
      have e : signed false v = v := signed_above v k0 (by omega)
      refine ⟨rfl, by show _ ≤ signed false v; rw [e]; omega, by show signed false v ≤ _; rw [e]; omega, ?_⟩
      show Lib.itoa (signed false v) = l
      rw [e]
      unfold Lib.itoa
      rw [if_neg (by omega), ← k3]
  · right
    have hno : (scanN bl m l 0 0).2.2 = false ∨ (scanN bl m l 0 0).2.1 = 0 := by
      by_cases h : (scanN bl m l 0 0).2.2 = true
      · right
        apply Classical.byContradiction
        intro hx
        exact hok ⟨h, hx⟩
      · left; simpa using h
    rw [told_no hno rfl]
    refine ⟨rfl, rfl, ?_, ?_⟩
    · show 0 ≤ (scanN bl m l 0 0).2.1 + bit bl; omega
    · show (scanN bl m l 0 0).2.1 + bit bl ≤ _; omega
theorem parse_cases (l : List UInt8) : ((parseP l).2.1 = 0 ∧ -9223372036854775808 ≤ (parseP l).1 ∧ (parseP l).1 ≤ 9223372036854775807 ∧ Lib.itoa (parseP l).1 = l) ∨ ((parseP l).2.1 = 10 ∧ (parseP l).1 = 0 ∧ 0 ≤ (parseP l).2.2 ∧ (parseP l).2.2 ≤ l.length) := by
  unfold parseP
  split
  · rename_i r
    have k := told_cases true 9223372036854775808 (by decide) rfl r
    simp only [if_true, bit_t] at k
    rcases k with k | k
    · exact .inl k
    · refine .inr ⟨k.1, k.2.1, k.2.2.1, ?_⟩
      simp only [List.length_cons]
      omega
  · rename_i r
    have k := told_cases false 9223372036854775807 (by decide) rfl l
    simp only [bit_f] at k
    rcases k with k | k
    · exact .inl ⟨k.1, k.2.1, k.2.2.1, by simpa using k.2.2.2⟩
    · exact .inr ⟨k.1, k.2.1, k.2.2.1, by omega⟩
end Go.Proofs.YtheajpdffkehnaaDoor

/- TargetBack, walked. -/
import Derived.Test.YtgmcfinjlddgbaaGreatDoorWq2
import Derived.Test.YtgmcfinjlddgbaaGreatDoorTp9
import Derived.Test.YtgmcfinjlddgbaaGreatDoorDrz
import Derived.Lib.IndexLaws
import Derived.Test.YtgmcfinjlddgbaaGreatDoorTsm
import Derived.Test.YtgmcfinjlddgbaaGreatDoorTw5
namespace Go.Proofs.YtgmcfinjlddgbaaGreatDoor
open Go.RowKit
set_option linter.unusedVariables false
set_option maxRecDepth 100000

theorem dec_last (n : Nat) (h : 10 ≤ n) : Lib.decDigits n = Lib.decDigits (n / 10) ++ [UInt8.ofNat (48 + n % 10)] := by rw [Lib.decDigits, dif_neg (by omega)]
theorem scan_append (bl : Bool) (m : Int) : ∀ (l r : List UInt8) (s d : Int), scanN bl m (l ++ r) s d = if (scanN bl m l s d).2.2 = true then scanN bl m r (scanN bl m l s d).1 (scanN bl m l s d).2.1 else scanN bl m l s d
  | [], r, s, d => by simp [scanN]
  | c :: l, r, s, d => by
    simp only [List.cons_append, scanN]
    by_cases h : Halts bl m s d (c.toNat : Int)
    · simp only [if_pos h]; simp
    · simp only [if_neg h]
      exact scan_append bl m l r _ _
theorem scan_count (bl : Bool) (m : Int) : ∀ (l : List UInt8) (s d : Int), d ≤ (scanN bl m l s d).2.1 ∧ (scanN bl m l s d).2.1 ≤ d + l.length ∧ ((scanN bl m l s d).2.2 = true → (scanN bl m l s d).2.1 = d + l.length)
  | [], s, d => by simp [scanN]
  | c :: l, s, d => by
    simp only [scanN]
    by_cases h : Halts bl m s d (c.toNat : Int)
    · simp only [if_pos h, List.length_cons]
      refine ⟨by omega, by omega, fun hx => by simp at hx⟩
    · simp only [if_neg h, List.length_cons]
      have k := scan_count bl m l (s * 10 + ((c.toNat : Int) - 48)) (d + 1)
      refine ⟨by omega, by omega, fun hx => ?_⟩
      have := k.2.2 hx
      omega
theorem digit_nat (k : Nat) (h : k < 10) : ((UInt8.ofNat (48 + k)).toNat : Int) = 48 + k := by
  rw [UInt8.toNat_ofNat']; omega
/-- The numeral of n goes in whole. -/
theorem scan_dec (bl : Bool) (m : Int) : ∀ (j n : Nat), n ≤ j → (n : Int) ≤ m → (bl = true → 1 ≤ n) → scanN bl m (Lib.decDigits n) 0 0 = ((n : Int), ((Lib.decDigits n).length : Int), true)
  | j, n, hj, hm, hb => by
    by_cases h10 : n < 10
    · rw [Lib.decDigits_one h10]
      simp only [scanN]
      rw [digit_nat n h10, if_neg]
      · simp; omega
      · rintro (h | h | h | h | h)
        · omega
        · omega
        · have := hb h.2.2; omega
        · omega
        · omega
    · cases j with
      | zero => omega
      | succ j =>
        have ih := scan_dec bl m j (n / 10) (by omega) (by omega) (fun _ => by omega)
        have hl : 1 ≤ (Lib.decDigits (n / 10)).length := by
          by_cases h : n / 10 < 10
          · rw [Lib.decDigits_one h]; simp
          · rw [dec_last _ (by omega)]; simp
        rw [dec_last n (by omega), scan_append, ih]
        simp only [if_true, scanN]
        rw [digit_nat (n % 10) (by omega), if_neg]
        · simp; omega
        · rintro (h | h | h | h | h)
          · omega
          · omega
          · omega
          · omega
          · omega
theorem decDigits_head (n : Nat) : ∃ u r, Lib.decDigits n = u :: r ∧ u ≠ 45 := by
  have key : ∀ j n : Nat, n ≤ j → ∃ u r, Lib.decDigits n = u :: r ∧ u ≠ 45 := by
    intro j
    induction j with
    | zero =>
      intro n h
      obtain rfl : n = 0 := by omega
      exact ⟨48, [], by rw [Lib.decDigits_one (by decide)]; rfl, by decide⟩
    | succ j ih =>
      intro n h
      by_cases h10 : n < 10
      · refine ⟨UInt8.ofNat (48 + n), [], Lib.decDigits_one h10, fun he => ?_⟩
        have := digit_nat n h10
        rw [he] at this
        have e45 : ((45 : UInt8).toNat : Int) = 45 := rfl
        omega
      · obtain ⟨u, r, e, hu⟩ := ih (n / 10) (by omega)
        exact ⟨u, r ++ [UInt8.ofNat (48 + n % 10)], by rw [dec_last n (by omega), e]; rfl, hu⟩
  exact key n n (Nat.le_refl _)
theorem told_whole (bl : Bool) (v d : Int) (hd : d ≠ 0) : told bl (v, d, true) = (signed bl v, 0, 0) := told_yes rfl hd rfl
theorem signed_below (v : Int) (h0 : 0 ≤ v) (h1 : v ≤ 9223372036854775808) : signed true v = -v := by
  show wrap64 (-(wrap64 v)) = -v
  unfold wrap64; omega
theorem signed_above (v : Int) (h0 : 0 ≤ v) (h1 : v ≤ 9223372036854775807) : signed false v = v := by
  show wrap64 v = v
  unfold wrap64; omega
theorem parseP_below (r : List UInt8) : parseP (45 :: r) = told true (scanN true 9223372036854775808 r 0 0) := by
  unfold parseP; split
  · rename_i heq; simp only [List.cons.injEq, true_and] at heq; rw [heq]
  · rename_i h; exact absurd rfl (h r)
theorem parseP_above (u : UInt8) (r : List UInt8) (hu : u ≠ 45) : parseP (u :: r) = told false (scanN false 9223372036854775807 (u :: r) 0 0) := by
  unfold parseP; split
  · rename_i heq; simp only [List.cons.injEq] at heq; exact absurd heq.1 hu
  · rfl
theorem dec_pos (n : Nat) : ((Lib.decDigits n).length : Int) ≠ 0 := by
  obtain ⟨u, r, e, _⟩ := decDigits_head n
  rw [e, List.length_cons]; omega
theorem back_below (k : Nat) (h0 : 1 ≤ k) (h1 : k ≤ 9223372036854775808) : parseP (45 :: Lib.decDigits k) = (-(k : Int), 0, 0) := by
  rw [parseP_below, scan_dec true 9223372036854775808 k k (Nat.le_refl _) (by omega) (fun _ => h0), told_whole _ _ _ (dec_pos k), signed_below _ (by omega) (by omega)]
theorem back_above (k : Nat) (h1 : k ≤ 9223372036854775807) : parseP (Lib.decDigits k) = ((k : Int), 0, 0) := by
  obtain ⟨u, r, e2, hu⟩ := decDigits_head k
  have e3 : parseP (Lib.decDigits k) = told false (scanN false 9223372036854775807 (Lib.decDigits k) 0 0) := by
    rw [e2]; exact parseP_above u r hu
  rw [e3, scan_dec false 9223372036854775807 k k (Nat.le_refl _) (by omega) (fun h => by cases h), told_whole _ _ _ (dec_pos k), signed_above _ (by omega) (by omega)]
theorem parse_back (n : Int) (h0 : -9223372036854775808 ≤ n) (h1 : n ≤ 9223372036854775807) : parseP (Lib.itoa n) = (n, 0, 0) := by
  by_cases hn : n < 0
  · obtain ⟨k, hk⟩ : ∃ k : Nat, k = n.natAbs := ⟨_, rfl⟩
    have e : Lib.itoa n = 45 :: Lib.decDigits k := by unfold Lib.itoa; rw [if_pos hn, hk]
    have en : -(k : Int) = n := by omega
    rw [e, back_below k (by omega) (by omega), en]
  · obtain ⟨k, hk⟩ : ∃ k : Nat, k = n.toNat := ⟨_, rfl⟩
    have e : Lib.itoa n = Lib.decDigits k := by unfold Lib.itoa; rw [if_neg hn, hk]
    have en : (k : Int) = n := by omega
    rw [e, back_above k (by omega), en]
/-- Digits that go in whole are the numeral of their size. -/
theorem scan_is (bl : Bool) (m : Int) (hm : 0 ≤ m) : ∀ (j : Nat) (l : List UInt8), l.length = j → 1 ≤ j → (scanN bl m l 0 0).2.2 = true →
    0 ≤ (scanN bl m l 0 0).1 ∧ (scanN bl m l 0 0).1 ≤ m ∧ (bl = true → 1 ≤ (scanN bl m l 0 0).1) ∧ l = Lib.decDigits (scanN bl m l 0 0).1.toNat
  | 0, l, hl, hj, _ => by omega
  | j + 1, l, hl, _, hok => by
    obtain ⟨l', c, rfl⟩ : ∃ l' c, l = l' ++ [c] := by
      have hne : l ≠ [] := by intro h; subst h; simp at hl
      exact ⟨l.dropLast, l.getLast hne, (List.dropLast_concat_getLast hne).symm⟩
    have hl' : l'.length = j := by simpa using hl
    rw [scan_append] at hok ⊢
    by_cases hok' : (scanN bl m l' 0 0).2.2 = true
    · rw [if_pos hok'] at hok ⊢
      have hcnt := (scan_count bl m l' 0 0).2.2 hok'
      obtain ⟨v, hv⟩ : ∃ v, v = (scanN bl m l' 0 0).1 := ⟨_, rfl⟩
      obtain ⟨d, hd⟩ : ∃ d, d = (scanN bl m l' 0 0).2.1 := ⟨_, rfl⟩
      rw [← hv, ← hd] at hok ⊢
      rw [← hd] at hcnt
      simp only [scanN] at hok ⊢
      by_cases hh : Halts bl m v d (c.toNat : Int)
      · rw [if_pos hh] at hok; simp at hok
      · rw [if_neg hh]
        have k0 : ¬ ((c.toNat : Int) < 48) := fun hx => hh (.inl hx)
        have k1 : ¬ (57 < (c.toNat : Int)) := fun hx => hh (.inr (.inl hx))
        have k2 : ¬ ((c.toNat : Int) = 48 ∧ d = 0 ∧ bl = true) := fun hx => hh (.inr (.inr (.inl hx)))
        have k3 : ¬ (0 < d ∧ v = 0) := fun hx => hh (.inr (.inr (.inr (.inl hx))))
        have k4 : ¬ ((m - ((c.toNat : Int) - 48)) / 10 < v) := fun hx => hh (.inr (.inr (.inr (.inr hx))))
        have hc : c = UInt8.ofNat (48 + (c.toNat - 48)) := by
          apply UInt8.toNat_inj.1
          rw [UInt8.toNat_ofNat']
          have := c.toNat_lt
          omega
        by_cases hj : j = 0
        · have hnil : l' = [] := List.length_eq_zero_iff.1 (by omega)
          subst hnil
          have hv0 : v = 0 := hv
          have hd0 : d = 0 := hd
          subst hv0 hd0
          refine ⟨by omega, by omega, fun hb => ?_, ?_⟩
          · have : ¬ (c.toNat : Int) = 48 := fun hx => k2 ⟨hx, rfl, hb⟩
            omega
          · rw [show (0 * 10 + ((c.toNat : Int) - 48)).toNat = c.toNat - 48 by omega, Lib.decDigits_one (by omega), ← hc]
            rfl
        · have ih := scan_is bl m hm j l' hl' (by omega) hok'
          rw [← hv] at ih
          have hv1 : 1 ≤ v := by
            have : ¬ v = 0 := fun hx => k3 ⟨by omega, hx⟩
            omega
          refine ⟨by show 0 ≤ v * 10 + ((c.toNat : Int) - 48); omega, by show v * 10 + ((c.toNat : Int) - 48) ≤ m; omega, fun _ => by show 1 ≤ v * 10 + ((c.toNat : Int) - 48); omega, ?_⟩
          show l' ++ [c] = Lib.decDigits (v * 10 + ((c.toNat : Int) - 48)).toNat
          rw [dec_last _ (by omega), show (v * 10 + ((c.toNat : Int) - 48)).toNat / 10 = v.toNat by omega, show (v * 10 + ((c.toNat : Int) - 48)).toNat % 10 = c.toNat - 48 by omega, ← hc, ← ih.2.2.2]
    · rw [if_neg hok'] at hok
      exact absurd hok hok'
theorem told_cases (bl : Bool) (m : Int) (hm : 0 ≤ m) (hb : m = if bl then 9223372036854775808 else 9223372036854775807) (l : List UInt8) :
    ((told bl (scanN bl m l 0 0)).2.1 = 0 ∧ -9223372036854775808 ≤ (told bl (scanN bl m l 0 0)).1 ∧ (told bl (scanN bl m l 0 0)).1 ≤ 9223372036854775807 ∧ Lib.itoa (told bl (scanN bl m l 0 0)).1 = (if bl then 45 :: l else l)) ∨
    ((told bl (scanN bl m l 0 0)).2.1 = 10 ∧ (told bl (scanN bl m l 0 0)).1 = 0 ∧ 0 ≤ (told bl (scanN bl m l 0 0)).2.2 ∧ (told bl (scanN bl m l 0 0)).2.2 ≤ l.length + bit bl) := by
  have hc := scan_count bl m l 0 0
  have hbit : 0 ≤ bit bl := by cases bl <;> decide
  by_cases hok : (scanN bl m l 0 0).2.2 = true ∧ (scanN bl m l 0 0).2.1 ≠ 0
  · left
    have hl : 1 ≤ l.length := by have := hc.2.2 hok.1; have := hok.2; omega
    have k := scan_is bl m hm l.length l rfl hl hok.1
    rw [told_yes hok.1 hok.2 rfl]
    obtain ⟨v, hv⟩ : ∃ v, v = (scanN bl m l 0 0).1 := ⟨_, rfl⟩
    rw [← hv] at k ⊢
    obtain ⟨k0, k1, k2, k3⟩ := k
    cases bl with
    | true =>
      simp only [if_true] at hb
      have hv1 := k2 rfl
      have e : signed true v = -v := signed_below v k0 (by omega)
      refine ⟨rfl, by show _ ≤ signed true v; rw [e]; omega, by show signed true v ≤ _; rw [e]; omega, ?_⟩
      show Lib.itoa (signed true v) = 45 :: l
      rw [e]
      unfold Lib.itoa
      rw [if_pos (by omega), show (-v).natAbs = v.toNat by omega, ← k3]
    | false =>
      have hb' : m = 9223372036854775807 := by simpa using hb
      have e : signed false v = v := signed_above v k0 (by omega)
      refine ⟨rfl, by show _ ≤ signed false v; rw [e]; omega, by show signed false v ≤ _; rw [e]; omega, ?_⟩
      show Lib.itoa (signed false v) = l
      rw [e]
      unfold Lib.itoa
      rw [if_neg (by omega), ← k3]
  · right
    have hno : (scanN bl m l 0 0).2.2 = false ∨ (scanN bl m l 0 0).2.1 = 0 := by
      by_cases h : (scanN bl m l 0 0).2.2 = true
      · right
        apply Classical.byContradiction
        intro hx
        exact hok ⟨h, hx⟩
      · left; simpa using h
    rw [told_no hno rfl]
    refine ⟨rfl, rfl, ?_, ?_⟩
    · show 0 ≤ (scanN bl m l 0 0).2.1 + bit bl; omega
    · show (scanN bl m l 0 0).2.1 + bit bl ≤ _; omega
theorem parse_cases (l : List UInt8) : ((parseP l).2.1 = 0 ∧ -9223372036854775808 ≤ (parseP l).1 ∧ (parseP l).1 ≤ 9223372036854775807 ∧ Lib.itoa (parseP l).1 = l) ∨ ((parseP l).2.1 = 10 ∧ (parseP l).1 = 0 ∧ 0 ≤ (parseP l).2.2 ∧ (parseP l).2.2 ≤ l.length) := by
  unfold parseP
  split
  · rename_i r
    have k := told_cases true 9223372036854775808 (by decide) rfl r
    simp only [if_true, bit_t] at k
    rcases k with k | k
    · exact .inl k
    · refine .inr ⟨k.1, k.2.1, k.2.2.1, ?_⟩
      simp only [List.length_cons]
      omega
  · rename_i r
    have k := told_cases false 9223372036854775807 (by decide) rfl l
    simp only [bit_f] at k
    rcases k with k | k
    · exact .inl ⟨k.1, k.2.1, k.2.2.1, by simpa using k.2.2.2⟩
    · exact .inr ⟨k.1, k.2.1, k.2.2.1, by omega⟩
end Go.Proofs.YtgmcfinjlddgbaaGreatDoor
namespace Go.Proofs.YtgmcfinjlddgbaaGreatDoor
open Go.RowKit
set_option linter.unusedVariables false
set_option maxRecDepth 100000
theorem idx_app : ∀ (w r : List UInt8) (c : UInt8), c ∉ w → Lib.indexByte (w ++ c :: r) c = (w.length : Int)
  | [], r, c, _ => by simp [Lib.indexByte]
  | x :: w, r, c, h => by
    simp only [List.mem_cons, not_or] at h
    have h2 := idx_app w r c h.2
    have hx : (x == c) = false := by simpa using fun e => h.1 e.symm
    show (if x == c then 0 else if Lib.indexByte (w ++ c :: r) c == -1 then -1 else Lib.indexByte (w ++ c :: r) c + 1) = _
    rw [hx, h2]
    have hn : ((w.length : Int) == -1) = false := by
      have : (w.length : Int) ≠ -1 := by omega
      simp
    rw [hn]
    simp
theorem idx_no : ∀ (w : List UInt8) (c : UInt8), c ∉ w → Lib.indexByte w c = -1
  | [], c, _ => rfl
  | x :: w, c, h => by
    simp only [List.mem_cons, not_or] at h
    have hx : (x == c) = false := by simpa using fun e => h.1 e.symm
    show (if x == c then 0 else if Lib.indexByte w c == -1 then -1 else Lib.indexByte w c + 1) = _
    rw [hx, idx_no w c h.2]
    rfl
theorem ext_mk (l : List UInt8) (a b : Nat) : (⟨l.toArray⟩ : ByteArray).extract a b = ⟨((l.drop a).take (b - a)).toArray⟩ := by
  have h : ((⟨l.toArray⟩ : ByteArray).extract a b).data = ((l.drop a).take (b - a)).toArray := by
    rw [ByteArray.data_extract]
    apply Array.toList_inj.1
    rw [Array.toList_extract]
  exact congrArg ByteArray.mk h
theorem size_mk (l : List UInt8) : (⟨l.toArray⟩ : ByteArray).size = l.length := by simp [ByteArray.size]
theorem cut_app (w r : List UInt8) (c : UInt8) (h : c ∉ w) : cutA ⟨(w ++ c :: r).toArray⟩ c = (⟨w.toArray⟩, ⟨r.toArray⟩, true) := by
  unfold cutA
  have e : (⟨(w ++ c :: r).toArray⟩ : ByteArray).data.toList = w ++ c :: r := by simp
  rw [e, idx_app w r c h, if_pos (by omega)]
  rw [ext_mk, ext_mk, size_mk]
  simp
  rw [show w.length + (r.length + 1) - (w.length + 1) = r.length by omega, List.take_length]
theorem cut_no (w : List UInt8) (c : UInt8) (h : c ∉ w) : cutA ⟨w.toArray⟩ c = (⟨w.toArray⟩, ⟨#[]⟩, false) := by
  unfold cutA
  have e : (⟨w.toArray⟩ : ByteArray).data.toList = w := by simp
  rw [e, idx_no w c h, if_neg (by decide)]
/-- A reader of a line's words, by what is left of the line. -/
def stT (u : List UInt8) : Pst := match u with
  | [] => ⟨⟨#[]⟩, false, false⟩
  | _ :: r => ⟨⟨r.toArray⟩, true, false⟩
def Sp (u : List UInt8) : Prop := u = [] ∨ ∃ r, u = 32 :: r
theorem next_put (w u : List UInt8) (h : (32 : UInt8) ∉ w) (hu : Sp u) : nextS (stT (32 :: w ++ u)) = (⟨w.toArray⟩, stT u) := by
  show nextS ⟨⟨(w ++ u).toArray⟩, true, false⟩ = _
  unfold nextS
  rw [if_pos rfl]
  rcases hu with rfl | ⟨r, rfl⟩
  · simp only [List.append_nil]
    rw [cut_no w 32 h]
    rfl
  · simp only
    rw [cut_app w r 32 h]
    rfl
theorem pre_put (w : List UInt8) (c : UInt8) : preA ⟨(c :: w).toArray⟩ c = (⟨w.toArray⟩, true) := by
  unfold preA
  have e : (⟨(c :: w).toArray⟩ : ByteArray).data.toList = c :: w := by simp
  rw [e, if_pos (by simp [Lib.hasPrefix]), ext_mk, size_mk]
  simp
theorem dec_digit (n : Nat) : ∀ c ∈ Lib.decDigits n, 48 ≤ c.toNat ∧ c.toNat ≤ 57 := by
  induction n using Nat.strongRecOn with
  | _ n ih =>
    intro c hc
    have ho : ∀ k, k < 10 → (UInt8.ofNat (48 + k)).toNat = 48 + k := fun k hk => by rw [UInt8.toNat_ofNat']; omega
    rw [Lib.decDigits] at hc
    split at hc
    · next h =>
      rw [List.mem_singleton] at hc
      rw [hc, ho n h]
      omega
    · rcases List.mem_append.1 hc with h | h
      · exact ih (n / 10) (by omega) c h
      · rw [List.mem_singleton] at h
        rw [h, ho (n % 10) (by omega)]
        omega
theorem itoa_no (x : Int) (c : UInt8) (h : c = 32 ∨ c = 10) : c ∉ Lib.itoa x := by
  intro hm
  have hd : ∀ n, c ∉ Lib.decDigits n := fun n hn => by
    have h2 := dec_digit n c hn
    rcases h with rfl | rfl
    · exact absurd h2.1 (by decide)
    · exact absurd h2.1 (by decide)
  unfold Lib.itoa at hm
  split at hm
  · rcases List.mem_cons.1 hm with e | e
    · rcases h with rfl | rfl <;> cases e
    · exact hd _ e
  · exact hd _ hm
theorem val_put (x : Int) (hx : I64 x) (s : Pst) : valS ⟨(Lib.itoa x).toArray⟩ s = (x, s) := by
  unfold valS
  have e : (⟨(Lib.itoa x).toArray⟩ : ByteArray).data.toList = Lib.itoa x := by simp
  rw [e, parse_back x hx.1 hx.2]
  rfl
theorem siz_put (x : Int) (hx : I63 x) (s : Pst) : sizS ⟨(Lib.itoa x).toArray⟩ s = (x, s) := by
  unfold sizS
  rw [val_put x ⟨by have := hx.1; omega, hx.2⟩]
  simp only
  rw [if_neg (by have := hx.1; omega)]
theorem num_put (x : Int) (hx : I63 x) (u : List UInt8) (hu : Sp u) : numS' (stT (numT x ++ u)) = (x, stT u) := by
  unfold numS'
  rw [show numT x ++ u = 32 :: Lib.itoa x ++ u by rfl, next_put _ u (itoa_no x 32 (.inl rfl)) hu]
  exact siz_put x hx _
theorem wrd_put (x : Int) (hx : I64 x) (u : List UInt8) (hu : Sp u) : wdS (stT (wrdT x ++ u)) = (x, stT u) := by
  unfold wdS
  rw [show wrdT x ++ u = 32 :: Lib.itoa x ++ u by rfl, next_put _ u (itoa_no x 32 (.inl rfl)) hu]
  exact val_put x hx _
theorem beh_put (c : UInt8) (hc : c ≠ 32) (x : Int) (u : List UInt8) (hu : Sp u) : behS c (stT ([32, c] ++ Lib.itoa x ++ u)) = (⟨(Lib.itoa x).toArray⟩, stT u) := by
  unfold behS
  rw [show [32, c] ++ Lib.itoa x ++ u = 32 :: (c :: Lib.itoa x) ++ u by rfl, next_put _ u (by
    intro h
    rcases List.mem_cons.1 h with e | e
    · exact hc e.symm
    · exact itoa_no x 32 (.inl rfl) e) hu]
  simp only
  rw [pre_put]
  rfl
theorem reg_put (x : Int) (hx : I63 x) (u : List UInt8) (hu : Sp u) : regS' (stT (regT x ++ u)) = (x, stT u) := by
  unfold regS' regT
  rw [beh_put 114 (by decide) x u hu]
  exact siz_put x hx _
theorem ori_put (x : Int) (hx : I63 x) (h0 : x ≠ 0) (u : List UInt8) (hu : Sp u) : oriS (stT ([32, 64] ++ Lib.itoa x ++ u)) = (x, stT u) := by
  unfold oriS
  rw [beh_put 64 (by decide) x u hu]
  simp only
  rw [siz_put x hx]
  simp only
  rw [if_neg h0]
theorem sp_opt {u : Bool} {t r : List UInt8} (ht : Sp t) (hr : Sp r) : Sp ((bif u then t else []) ++ r) := by
  cases u with
  | true =>
    rcases ht with rfl | ⟨x, rfl⟩
    · exact hr
    · exact .inr ⟨_, rfl⟩
  | false => exact hr
set_option maxHeartbeats 2000000 in
theorem vS_put (i : Ins) (g : GI i) (r : List UInt8) (hr : Sp r) : vS (uB i.k i.o) 6 (stT (fldsT (uB i.k i.o) i 6 ++ r), insK i.k i.o) = (stT r, { i with fr := 0 }) := by
  obtain ⟨u, hu⟩ : ∃ u, u = uB i.k i.o := ⟨_, rfl⟩
  have gd := g.d
  have ga := g.a
  have gb := g.b
  have gad := g.ad
  have gtt := g.tt
  have gwd := g.wd
  rw [← hu] at gd ga gb gad gtt gwd ⊢
  have s5 : Sp r := hr
  have s4 : Sp ((bif hasB u 64 then wrdT i.wd else []) ++ r) := sp_opt (by first | exact .inr ⟨_, rfl⟩) s5
  have s3 : Sp ((bif hasB u 32 then numT i.tt else []) ++ ((bif hasB u 64 then wrdT i.wd else []) ++ r)) := sp_opt (by first | exact .inr ⟨_, rfl⟩) s4
  have s2 : Sp ((bif hasB u 16 then numT i.ad else []) ++ ((bif hasB u 32 then numT i.tt else []) ++ ((bif hasB u 64 then wrdT i.wd else []) ++ r))) := sp_opt (by first | exact .inr ⟨_, rfl⟩) s3
  have s1 : Sp ((bif hasB u 8 then regT i.b else []) ++ ((bif hasB u 16 then numT i.ad else []) ++ ((bif hasB u 32 then numT i.tt else []) ++ ((bif hasB u 64 then wrdT i.wd else []) ++ r)))) := sp_opt (by first | exact .inr ⟨_, rfl⟩) s2
  have s0 : Sp ((bif hasB u 4 then regT i.a else []) ++ ((bif hasB u 8 then regT i.b else []) ++ ((bif hasB u 16 then numT i.ad else []) ++ ((bif hasB u 32 then numT i.tt else []) ++ ((bif hasB u 64 then wrdT i.wd else []) ++ r))))) := sp_opt (by first | exact .inr ⟨_, rfl⟩) s1
  have e1 : vS u 1 (stT ((bif hasB u 2 then regT i.d else []) ++ ((bif hasB u 4 then regT i.a else []) ++ ((bif hasB u 8 then regT i.b else []) ++ ((bif hasB u 16 then numT i.ad else []) ++ ((bif hasB u 32 then numT i.tt else []) ++ ((bif hasB u 64 then wrdT i.wd else []) ++ r)))))), insK i.k i.o) = (stT ((bif hasB u 4 then regT i.a else []) ++ ((bif hasB u 8 then regT i.b else []) ++ ((bif hasB u 16 then numT i.ad else []) ++ ((bif hasB u 32 then numT i.tt else []) ++ ((bif hasB u 64 then wrdT i.wd else []) ++ r))))), (⟨i.k, i.o, i.d, 0, 0, 0, 0, 0, 0⟩ : Ins)) := by
    show (bif hasB u 2 then stepF 0 ((stT ((bif hasB u 2 then regT i.d else []) ++ ((bif hasB u 4 then regT i.a else []) ++ ((bif hasB u 8 then regT i.b else []) ++ ((bif hasB u 16 then numT i.ad else []) ++ ((bif hasB u 32 then numT i.tt else []) ++ ((bif hasB u 64 then wrdT i.wd else []) ++ r)))))), insK i.k i.o)) else (stT ((bif hasB u 2 then regT i.d else []) ++ ((bif hasB u 4 then regT i.a else []) ++ ((bif hasB u 8 then regT i.b else []) ++ ((bif hasB u 16 then numT i.ad else []) ++ ((bif hasB u 32 then numT i.tt else []) ++ ((bif hasB u 64 then wrdT i.wd else []) ++ r)))))), insK i.k i.o)) = _
    cases hb : hasB u 2 with
    | true =>
      rw [hb] at gd
      have hx := reg_put i.d gd ((bif hasB u 4 then regT i.a else []) ++ ((bif hasB u 8 then regT i.b else []) ++ ((bif hasB u 16 then numT i.ad else []) ++ ((bif hasB u 32 then numT i.tt else []) ++ ((bif hasB u 64 then wrdT i.wd else []) ++ r))))) s0
      simp only [cond_true]
      simp only [stepF, hx, insK]
    | false =>
      rw [hb] at gd
      have h0 : i.d = 0 := gd
      rw [h0]
      rfl
  have e2 : vS u 2 (stT ((bif hasB u 2 then regT i.d else []) ++ ((bif hasB u 4 then regT i.a else []) ++ ((bif hasB u 8 then regT i.b else []) ++ ((bif hasB u 16 then numT i.ad else []) ++ ((bif hasB u 32 then numT i.tt else []) ++ ((bif hasB u 64 then wrdT i.wd else []) ++ r)))))), insK i.k i.o) = (stT ((bif hasB u 8 then regT i.b else []) ++ ((bif hasB u 16 then numT i.ad else []) ++ ((bif hasB u 32 then numT i.tt else []) ++ ((bif hasB u 64 then wrdT i.wd else []) ++ r)))), (⟨i.k, i.o, i.d, i.a, 0, 0, 0, 0, 0⟩ : Ins)) := by
    show (bif hasB u 4 then stepF 1 (vS u 1 (stT ((bif hasB u 2 then regT i.d else []) ++ ((bif hasB u 4 then regT i.a else []) ++ ((bif hasB u 8 then regT i.b else []) ++ ((bif hasB u 16 then numT i.ad else []) ++ ((bif hasB u 32 then numT i.tt else []) ++ ((bif hasB u 64 then wrdT i.wd else []) ++ r)))))), insK i.k i.o)) else vS u 1 (stT ((bif hasB u 2 then regT i.d else []) ++ ((bif hasB u 4 then regT i.a else []) ++ ((bif hasB u 8 then regT i.b else []) ++ ((bif hasB u 16 then numT i.ad else []) ++ ((bif hasB u 32 then numT i.tt else []) ++ ((bif hasB u 64 then wrdT i.wd else []) ++ r)))))), insK i.k i.o)) = _
    rw [e1]
    cases hb : hasB u 4 with
    | true =>
      rw [hb] at ga
      have hx := reg_put i.a ga ((bif hasB u 8 then regT i.b else []) ++ ((bif hasB u 16 then numT i.ad else []) ++ ((bif hasB u 32 then numT i.tt else []) ++ ((bif hasB u 64 then wrdT i.wd else []) ++ r)))) s1
      simp only [cond_true]
      simp only [stepF, hx]
    | false =>
      rw [hb] at ga
      have h0 : i.a = 0 := ga
      rw [h0]
      rfl
  have e3 : vS u 3 (stT ((bif hasB u 2 then regT i.d else []) ++ ((bif hasB u 4 then regT i.a else []) ++ ((bif hasB u 8 then regT i.b else []) ++ ((bif hasB u 16 then numT i.ad else []) ++ ((bif hasB u 32 then numT i.tt else []) ++ ((bif hasB u 64 then wrdT i.wd else []) ++ r)))))), insK i.k i.o) = (stT ((bif hasB u 16 then numT i.ad else []) ++ ((bif hasB u 32 then numT i.tt else []) ++ ((bif hasB u 64 then wrdT i.wd else []) ++ r))), (⟨i.k, i.o, i.d, i.a, i.b, 0, 0, 0, 0⟩ : Ins)) := by
    show (bif hasB u 8 then stepF 2 (vS u 2 (stT ((bif hasB u 2 then regT i.d else []) ++ ((bif hasB u 4 then regT i.a else []) ++ ((bif hasB u 8 then regT i.b else []) ++ ((bif hasB u 16 then numT i.ad else []) ++ ((bif hasB u 32 then numT i.tt else []) ++ ((bif hasB u 64 then wrdT i.wd else []) ++ r)))))), insK i.k i.o)) else vS u 2 (stT ((bif hasB u 2 then regT i.d else []) ++ ((bif hasB u 4 then regT i.a else []) ++ ((bif hasB u 8 then regT i.b else []) ++ ((bif hasB u 16 then numT i.ad else []) ++ ((bif hasB u 32 then numT i.tt else []) ++ ((bif hasB u 64 then wrdT i.wd else []) ++ r)))))), insK i.k i.o)) = _
    rw [e2]
    cases hb : hasB u 8 with
    | true =>
      rw [hb] at gb
      have hx := reg_put i.b gb ((bif hasB u 16 then numT i.ad else []) ++ ((bif hasB u 32 then numT i.tt else []) ++ ((bif hasB u 64 then wrdT i.wd else []) ++ r))) s2
      simp only [cond_true]
      simp only [stepF, hx]
    | false =>
      rw [hb] at gb
      have h0 : i.b = 0 := gb
      rw [h0]
      rfl
  have e4 : vS u 4 (stT ((bif hasB u 2 then regT i.d else []) ++ ((bif hasB u 4 then regT i.a else []) ++ ((bif hasB u 8 then regT i.b else []) ++ ((bif hasB u 16 then numT i.ad else []) ++ ((bif hasB u 32 then numT i.tt else []) ++ ((bif hasB u 64 then wrdT i.wd else []) ++ r)))))), insK i.k i.o) = (stT ((bif hasB u 32 then numT i.tt else []) ++ ((bif hasB u 64 then wrdT i.wd else []) ++ r)), (⟨i.k, i.o, i.d, i.a, i.b, i.ad, 0, 0, 0⟩ : Ins)) := by
    show (bif hasB u 16 then stepF 3 (vS u 3 (stT ((bif hasB u 2 then regT i.d else []) ++ ((bif hasB u 4 then regT i.a else []) ++ ((bif hasB u 8 then regT i.b else []) ++ ((bif hasB u 16 then numT i.ad else []) ++ ((bif hasB u 32 then numT i.tt else []) ++ ((bif hasB u 64 then wrdT i.wd else []) ++ r)))))), insK i.k i.o)) else vS u 3 (stT ((bif hasB u 2 then regT i.d else []) ++ ((bif hasB u 4 then regT i.a else []) ++ ((bif hasB u 8 then regT i.b else []) ++ ((bif hasB u 16 then numT i.ad else []) ++ ((bif hasB u 32 then numT i.tt else []) ++ ((bif hasB u 64 then wrdT i.wd else []) ++ r)))))), insK i.k i.o)) = _
    rw [e3]
    cases hb : hasB u 16 with
    | true =>
      rw [hb] at gad
      have hx := num_put i.ad gad ((bif hasB u 32 then numT i.tt else []) ++ ((bif hasB u 64 then wrdT i.wd else []) ++ r)) s3
      simp only [cond_true]
      simp only [stepF, hx]
    | false =>
      rw [hb] at gad
      have h0 : i.ad = 0 := gad
      rw [h0]
      rfl
  have e5 : vS u 5 (stT ((bif hasB u 2 then regT i.d else []) ++ ((bif hasB u 4 then regT i.a else []) ++ ((bif hasB u 8 then regT i.b else []) ++ ((bif hasB u 16 then numT i.ad else []) ++ ((bif hasB u 32 then numT i.tt else []) ++ ((bif hasB u 64 then wrdT i.wd else []) ++ r)))))), insK i.k i.o) = (stT ((bif hasB u 64 then wrdT i.wd else []) ++ r), (⟨i.k, i.o, i.d, i.a, i.b, i.ad, i.tt, 0, 0⟩ : Ins)) := by
    show (bif hasB u 32 then stepF 4 (vS u 4 (stT ((bif hasB u 2 then regT i.d else []) ++ ((bif hasB u 4 then regT i.a else []) ++ ((bif hasB u 8 then regT i.b else []) ++ ((bif hasB u 16 then numT i.ad else []) ++ ((bif hasB u 32 then numT i.tt else []) ++ ((bif hasB u 64 then wrdT i.wd else []) ++ r)))))), insK i.k i.o)) else vS u 4 (stT ((bif hasB u 2 then regT i.d else []) ++ ((bif hasB u 4 then regT i.a else []) ++ ((bif hasB u 8 then regT i.b else []) ++ ((bif hasB u 16 then numT i.ad else []) ++ ((bif hasB u 32 then numT i.tt else []) ++ ((bif hasB u 64 then wrdT i.wd else []) ++ r)))))), insK i.k i.o)) = _
    rw [e4]
    cases hb : hasB u 32 with
    | true =>
      rw [hb] at gtt
      have hx := num_put i.tt gtt ((bif hasB u 64 then wrdT i.wd else []) ++ r) s4
      simp only [cond_true]
      simp only [stepF, hx]
    | false =>
      rw [hb] at gtt
      have h0 : i.tt = 0 := gtt
      rw [h0]
      rfl
  have e6 : vS u 6 (stT ((bif hasB u 2 then regT i.d else []) ++ ((bif hasB u 4 then regT i.a else []) ++ ((bif hasB u 8 then regT i.b else []) ++ ((bif hasB u 16 then numT i.ad else []) ++ ((bif hasB u 32 then numT i.tt else []) ++ ((bif hasB u 64 then wrdT i.wd else []) ++ r)))))), insK i.k i.o) = (stT r, (⟨i.k, i.o, i.d, i.a, i.b, i.ad, i.tt, i.wd, 0⟩ : Ins)) := by
    show (bif hasB u 64 then stepF 5 (vS u 5 (stT ((bif hasB u 2 then regT i.d else []) ++ ((bif hasB u 4 then regT i.a else []) ++ ((bif hasB u 8 then regT i.b else []) ++ ((bif hasB u 16 then numT i.ad else []) ++ ((bif hasB u 32 then numT i.tt else []) ++ ((bif hasB u 64 then wrdT i.wd else []) ++ r)))))), insK i.k i.o)) else vS u 5 (stT ((bif hasB u 2 then regT i.d else []) ++ ((bif hasB u 4 then regT i.a else []) ++ ((bif hasB u 8 then regT i.b else []) ++ ((bif hasB u 16 then numT i.ad else []) ++ ((bif hasB u 32 then numT i.tt else []) ++ ((bif hasB u 64 then wrdT i.wd else []) ++ r)))))), insK i.k i.o)) = _
    rw [e5]
    cases hb : hasB u 64 with
    | true =>
      rw [hb] at gwd
      have hx := wrd_put i.wd gwd r s5
      simp only [cond_true]
      simp only [stepF, hx]
    | false =>
      rw [hb] at gwd
      have h0 : i.wd = 0 := gwd
      rw [h0]
      rfl
  have ef : fldsT u i 6 ++ r = ((bif hasB u 2 then regT i.d else []) ++ ((bif hasB u 4 then regT i.a else []) ++ ((bif hasB u 8 then regT i.b else []) ++ ((bif hasB u 16 then numT i.ad else []) ++ ((bif hasB u 32 then numT i.tt else []) ++ ((bif hasB u 64 then wrdT i.wd else []) ++ r)))))) := by simp only [fldsT, fldT, List.append_assoc, List.nil_append]
  rw [ef]
  exact e6
def frT (i : Ins) : List UInt8 := if i.fr = 0 then [] else [32, 64] ++ Lib.itoa i.fr
theorem insS_put (i : Ins) (g : GI i) : insS (stT (fldsT (uB i.k i.o) i 6 ++ frT i)) (insK i.k i.o) = (stT [], i) := by
  have hk : (insK i.k i.o).k = i.k ∧ (insK i.k i.o).o = i.o := ⟨rfl, rfl⟩
  unfold insS
  rw [hk.1, hk.2]
  by_cases h0 : i.fr = 0
  · have hf : frT i = [] := by unfold frT; rw [if_pos h0]
    rw [hf, vS_put i g [] (.inl rfl)]
    show (stT [], ({ i with fr := 0 } : Ins)) = _
    rw [← h0]
  · have hf : frT i = [32, 64] ++ Lib.itoa i.fr ++ [] := by unfold frT; rw [if_neg h0, List.append_nil]
    have hsp : Sp (frT i) := by rw [hf]; exact .inr ⟨_, rfl⟩
    rw [vS_put i g (frT i) hsp]
    have hm : (stT (frT i)).more = true := by rw [hf]; rfl
    simp only
    rw [hm]
    simp only [cond_true]
    rw [hf, ori_put i.fr g.fr h0 [] (.inl rfl)]
def wdK (k o : Int) : List UInt8 := if k = 2 then opTx.getD o.toNat [] else formTx.getD k.toNat []
theorem beg_put (i : Ins) {code mem : Int} (h : rightB i code mem = true) (ho : 0 ≤ i.o ∧ i.o ≤ 255) : begS (wdT i) = (insK i.k i.o, true) ∧ wdT i ≠ corN ∧ (32 : UInt8) ∉ wdT i ∧ (10 : UInt8) ∉ wdT i := by
  simp only [rightB, Bool.and_eq_true] at h
  have hk := kB_iff.1 h.1
  have h3 := h.2.2.1
  obtain ⟨k, o, _, _, _, _, _, _, _⟩ := i
  simp only at hk h3 ho
  show begS (wdK k o) = (insK k o, true) ∧ wdK k o ≠ corN ∧ (32 : UInt8) ∉ wdK k o ∧ (10 : UInt8) ∉ wdK k o
  unfold opB at h3
  by_cases h2 : k = 2
  · subst h2
    have h3 : decide (0 < levelOf o) = true := h3
    simp only [decide_eq_true_eq] at h3
    have ho2 : 1 ≤ o ∧ o ≤ 18 := by
      unfold levelOf at h3
      split at h3
      · omega
      · refine ⟨?_, by omega⟩
        rcases Int.lt_or_le 0 o with h | h
        · omega
        · obtain rfl : o = 0 := by omega
          exact absurd h3 (by decide)
    have ho3 : o = 1 ∨ o = 2 ∨ o = 3 ∨ o = 4 ∨ o = 5 ∨ o = 6 ∨ o = 7 ∨ o = 8 ∨ o = 9 ∨ o = 10 ∨ o = 11 ∨ o = 12 ∨ o = 13 ∨ o = 14 ∨ o = 15 ∨ o = 16 ∨ o = 17 ∨ o = 18 := by omega
    rcases ho3 with rfl | rfl | rfl | rfl | rfl | rfl | rfl | rfl | rfl | rfl | rfl | rfl | rfl | rfl | rfl | rfl | rfl | rfl
    all_goals exact ⟨by rfl, by decide, by decide, by decide⟩
  · have h4 : o = 0 := by
      have hq : (k == 2) = false := by simpa using h2
      rw [hq] at h3
      have h3 : (o == 0) = true := h3
      exact eq_of_beq h3
    subst h4
    rcases hk with rfl | rfl | rfl | rfl | rfl | rfl | rfl | rfl | rfl | rfl
    all_goals first | exact absurd rfl h2 | exact ⟨by rfl, by decide, by decide, by decide⟩
/-- Lines, each with its LF. -/
def joinL (l : List (List UInt8)) : List UInt8 := l.flatMap fun x => x ++ [10]
def runL : List (List UInt8) → Nat → Ob → Option Ob
  | [], _, o => some o
  | l :: r, k, o => if (lnS k ⟨l.toArray⟩ o).1 = true then runL r (k + 1) (lnS k ⟨l.toArray⟩ o).2 else none
theorem run_app : ∀ (l r : List (List UInt8)) (k : Nat) (o o' : Ob), runL l k o = some o' → runL (l ++ r) k o = runL r (k + l.length) o'
  | [], r, k, o, o', h => by
    simp only [runL, Option.some.injEq] at h
    rw [← h]
    rfl
  | x :: l, r, k, o, o', h => by
    unfold runL at h
    show (if (lnS k ⟨x.toArray⟩ o).1 = true then runL (l ++ r) (k + 1) (lnS k ⟨x.toArray⟩ o).2 else none) = _
    by_cases hx : (lnS k ⟨x.toArray⟩ o).1 = true
    · rw [if_pos hx] at h ⊢
      rw [run_app l r (k + 1) _ o' h, List.length_cons, show k + 1 + l.length = k + (l.length + 1) by omega]
    · rw [if_neg hx] at h; cases h
theorem tx_run (s : ByteArray) : ∀ (Ls : List (List UInt8)) (n k a : Nat) (o o' : Ob), s.data.toList.drop a = joinL Ls → (∀ l ∈ Ls, (10 : UInt8) ∉ l) → Ls.length < n → 2 ≤ k + Ls.length → a ≤ s.size → runL Ls k o = some o' → txS s n k a o = (((0 : Int), true), o')
  | [], n, k, a, o, o', hd, _, _, hk, ha, hr => by
    have h1 : s.size ≤ a := by
      have h2 := List.drop_eq_nil_iff.1 (show s.data.toList.drop a = [] from hd)
      rw [Array.length_toList] at h2
      exact h2
    simp only [runL, Option.some.injEq] at hr
    rw [txS_stop s n k a o (by simp only [List.length_nil] at hk; omega), hr]
  | l :: r, n + 1, k, a, o, o', hd, hl, hn, hk, ha, hr => by
    have hd2 : s.data.toList.drop a = l ++ 10 :: joinL r := by
      rw [hd]
      show (l ++ [10]) ++ joinL r = _
      rw [List.append_assoc]
      rfl
    have hlen : s.size - a = l.length + (joinL r).length + 1 := by
      have := congrArg List.length hd2
      rw [List.length_drop, Array.length_toList] at this
      simp only [List.length_append, List.length_cons] at this
      show s.data.size - a = _
      omega
    have he : s.extract a s.size = ⟨(l ++ 10 :: joinL r).toArray⟩ := by
      have h1 := ext_mk s.data.toList a s.size
      have h2 : (⟨s.data.toList.toArray⟩ : ByteArray) = s := by simp
      rw [h2] at h1
      rw [h1, hd2, List.take_of_length_le]
      simp only [List.length_append, List.length_cons]
      omega
    have hcut := cut_app l (joinL r) 10 (hl l (by simp))
    have hw : (cutA (s.extract a s.size) 10).2.2 = true := by rw [he, hcut]
    have hf : (cutA (s.extract a s.size) 10).1 = ⟨l.toArray⟩ := by rw [he, hcut]
    unfold runL at hr
    by_cases hx : (lnS k ⟨l.toArray⟩ o).1 = true
    · rw [if_pos hx] at hr
      rw [txS_step s n k a o (by omega) hw (by rw [hf]; exact hx), hf, size_mk]
      refine tx_run s r n (k + 1) (a + l.length + 1) _ o' ?_ (fun x hx => hl x (by simp [hx])) (by simp only [List.length_cons] at hn; omega) (by simp only [List.length_cons] at hk; omega) (by omega) hr
      have h3 := congrArg (List.drop (l.length + 1)) hd2
      rw [List.drop_drop] at h3
      rw [show a + l.length + 1 = a + (l.length + 1) by omega, h3, List.drop_append]
      simp
    · rw [if_neg hx] at hr; cases hr
  | l :: r, 0, k, a, o, o', _, _, hn, _, _, _ => by simp at hn
theorem toL (l : List UInt8) : (⟨l.toArray⟩ : ByteArray).data.toList = l := by simp
theorem keep_put {α : Type} {l : List α} {x : α} {n : Nat} (h : l.length ≤ n) : keepL l x n = l ++ [x] := by
  unfold keepL
  rw [if_neg (by omega)]
theorem fst_word (w u : List UInt8) (h : (32 : UInt8) ∉ w) (hu : Sp u) : nextS ⟨⟨(w ++ u).toArray⟩, true, false⟩ = (⟨w.toArray⟩, stT u) := next_put w u h hu
/-- The first line. -/
theorem ln_head (o : Ob) (sh lk bf : Int) (h1 : I63 sh) (h2 : I63 lk) (h3 : I63 bf) : lnS 0 ⟨(objN ++ (numT sh ++ (numT lk ++ numT bf))).toArray⟩ o = (true, { o with sh := sh, lk := lk, bf := bf }) := by
  have e := fst_word objN (numT sh ++ (numT lk ++ numT bf)) (by decide) (.inr ⟨_, rfl⟩)
  unfold lnS
  rw [if_pos rfl, e]
  simp only
  rw [if_pos trivial]
  have e1 : numS' (stT (numT sh ++ (numT lk ++ numT bf))) = (sh, stT (numT lk ++ numT bf)) := num_put sh h1 _ (.inr ⟨_, rfl⟩)
  have e2 : numS' (stT (numT lk ++ numT bf)) = (lk, stT (numT bf)) := num_put lk h2 _ (.inr ⟨_, rfl⟩)
  have e3 : numS' (stT (numT bf)) = (bf, stT []) := by
    have := num_put bf h3 [] (.inl rfl)
    rwa [List.append_nil] at this
  have hh : hdS 3 (stT (numT sh ++ (numT lk ++ numT bf)), o) = (stT [], { o with sh := sh, lk := lk, bf := bf }) := by
    show hdF 2 (hdF 1 (hdF 0 (stT (numT sh ++ (numT lk ++ numT bf)), o))) = _
    simp only [hdF, e1, e2, e3]
  rw [hh]
  rfl
theorem mm_put : ∀ (l : List Int) (n : Nat) (o : Ob), (∀ x ∈ l, I64 x) → l.length < n → o.mem.length + l.length ≤ 4097 → mmS n (stT (memT l), o) = (stT [], { o with mem := o.mem ++ l })
  | [], n, o, _, hn, _ => by
    rw [List.append_nil]
    cases n with
    | zero => rfl
    | succ n =>
      show (if (stT []).more = true then _ else _) = _
      rw [if_neg (by simp [stT])]
      rfl
  | x :: l, n + 1, o, hx, hn, hm => by
    show (if (stT (wrdT x ++ memT l)).more = true then mmS n (mmF (stT (wrdT x ++ memT l), o)) else _) = _
    rw [if_pos (show (stT (wrdT x ++ memT l)).more = true from rfl)]
    have hsp : Sp (memT l) := by
      cases l with
      | nil => exact .inl rfl
      | cons y l => exact .inr ⟨_, rfl⟩
    have e := wrd_put x (hx x (by simp)) (memT l) hsp
    have hf : mmF (stT (wrdT x ++ memT l), o) = (stT (memT l), { o with mem := o.mem ++ [x] }) := by
      unfold mmF
      simp only [e]
      rw [keep_put (by simp only [List.length_cons] at hm; omega)]
    rw [hf, mm_put l n _ (fun y hy => hx y (by simp [hy])) (by simp only [List.length_cons] at hn; omega) (by simp only [List.length_append, List.length_cons, List.length_nil] at hm ⊢; omega)]
    simp
  | x :: l, 0, o, _, hn, _ => by simp at hn
theorem memT_len (l : List Int) : l.length ≤ (memT l).length := by
  induction l with
  | nil => simp
  | cons x l ih =>
    show l.length + 1 ≤ (wrdT x ++ memT l).length
    simp only [wrdT, List.length_append, List.length_cons]
    omega
theorem ln_mem (o : Ob) (l : List Int) (hx : ∀ x ∈ l, I64 x) (h0 : o.mem = []) (hl : l.length ≤ 4096) : lnS 1 ⟨(memN ++ memT l).toArray⟩ o = (true, { o with mem := l }) := by
  have hsp : Sp (memT l) := by
    cases l with
    | nil => exact .inl rfl
    | cons y l => exact .inr ⟨_, rfl⟩
  have e := fst_word memN (memT l) (by decide) hsp
  unfold lnS
  rw [if_neg (by decide), if_pos rfl, e]
  simp only
  rw [if_pos trivial, mm_put l _ o hx (by rw [size_mk, List.length_append]; have := memT_len l; omega) (by rw [h0]; simp only [List.length_nil]; omega), h0]
  rfl
theorem ln_core (k : Nat) (hk : 2 ≤ k) (o : Ob) (nm : ByteArray) (hn : (32 : UInt8) ∉ nm.data.toList) (hl : o.cores.length ≤ 8) : lnS k ⟨(corN ++ 32 :: nm.data.toList).toArray⟩ o = (true, { o with cores := o.cores ++ [⟨nm, []⟩] }) := by
  have e := fst_word corN (32 :: nm.data.toList) (by decide) (.inr ⟨_, rfl⟩)
  have e2 := next_put nm.data.toList [] hn (.inl rfl)
  rw [List.append_nil] at e2
  unfold lnS
  rw [if_neg (by omega), if_neg (by omega), e]
  simp only
  rw [if_pos trivial]
  have hc : coS (stT (32 :: nm.data.toList), o) = (stT [], { o with cores := o.cores ++ [⟨nm, []⟩] }) := by
    unfold coS
    simp only [e2]
    rw [keep_put hl]
  rw [hc]
  rfl
theorem ln_ins (k : Nat) (hk : 2 ≤ k) (o : Ob) (i : Ins) {code mem : Int} (hr : rightB i code mem = true) (g : GI i) (pre : List Cor) (c : Cor) (ho : o.cores = pre ++ [c]) (hl : c.code.length ≤ 16384) : lnS k ⟨(insT i).toArray⟩ o = (true, { o with cores := pre ++ [⟨c.name, c.code ++ [i]⟩] }) := by
  obtain ⟨b1, b2, b3, b4⟩ := beg_put i hr ⟨(rgI_of g).2.1.1, (rgI_of g).2.1.2⟩
  have hsp : Sp (fldsT (uB i.k i.o) i 6 ++ frT i) := by
    simp only [fldsT, fldT, List.append_assoc, List.nil_append]
    have hf : Sp (frT i) := by
      unfold frT
      split
      · exact .inl rfl
      · exact .inr ⟨_, rfl⟩
    exact sp_opt (.inr ⟨_, rfl⟩) (sp_opt (.inr ⟨_, rfl⟩) (sp_opt (.inr ⟨_, rfl⟩) (sp_opt (.inr ⟨_, rfl⟩) (sp_opt (.inr ⟨_, rfl⟩) (sp_opt (.inr ⟨_, rfl⟩) hf)))))
  have et : insT i = wdT i ++ (fldsT (uB i.k i.o) i 6 ++ frT i) := by
    unfold insT frT
    rw [List.append_assoc]
  have e := fst_word (wdT i) _ b3 hsp
  unfold lnS
  rw [if_neg (by omega), if_neg (by omega), et, e]
  simp only
  rw [if_neg b2, if_neg (by rw [ho]; simp)]
  unfold inS
  simp only [b1, cond_true]
  rw [insS_put i g]
  have hp : pushI o.cores i = pre ++ [⟨c.name, c.code ++ [i]⟩] := by
    unfold pushI
    rw [ho, List.getLast?_append]
    simp only [List.getLast?_singleton, Option.some_or]
    rw [List.dropLast_concat, keep_put hl]
  rw [hp]
  rfl
theorem run_code (mem : Int) : ∀ (l : List Ins) (code : Int) (k : Nat) (o : Ob) (pre : List Cor) (c : Cor), 2 ≤ k → (∀ i ∈ l, rightB i code mem = true ∧ GI i) → o.cores = pre ++ [c] → c.code.length + l.length ≤ 16384 → runL (l.map insT) k o = some { o with cores := pre ++ [⟨c.name, c.code ++ l⟩] }
  | [], code, k, o, pre, c, _, _, ho, _ => by
    rw [List.append_nil, ← ho]
    rfl
  | i :: l, code, k, o, pre, c, hk, hi, ho, hl => by
    have e := ln_ins k hk o i (hi i (by simp)).1 (hi i (by simp)).2 pre c ho (by omega)
    show (if (lnS k ⟨(insT i).toArray⟩ o).1 = true then runL (l.map insT) (k + 1) (lnS k ⟨(insT i).toArray⟩ o).2 else none) = _
    rw [e, if_pos rfl]
    have h2 := run_code mem l code (k + 1) { o with cores := pre ++ [⟨c.name, c.code ++ [i]⟩] } pre ⟨c.name, c.code ++ [i]⟩ (by omega) (fun j hj => hi j (by simp [hj])) rfl (by simp only [List.length_append, List.length_cons, List.length_nil] at hl ⊢; omega)
    simp only [h2]
    simp
def corL (c : Cor) : List (List UInt8) := (corN ++ 32 :: c.name.data.toList) :: c.code.map insT
theorem run_cors (mem : Int) : ∀ (l : List Cor) (k : Nat) (o : Ob), 2 ≤ k → (∀ c ∈ l, (32 : UInt8) ∉ c.name.data.toList ∧ c.code.length ≤ 16384 ∧ ∀ i ∈ c.code, rightB i c.code.length mem = true ∧ GI i) → o.cores.length + l.length ≤ 8 → runL (l.flatMap corL) k o = some { o with cores := o.cores ++ l }
  | [], k, o, _, _, _ => by simp [runL]
  | c :: l, k, o, hk, hc, hl => by
    obtain ⟨h1, h2, h3⟩ := hc c (by simp)
    have e := ln_core k hk o c.name h1 (by omega)
    have e2 : runL (corL c) k o = some { o with cores := o.cores ++ [c] } := by
      show (if (lnS k ⟨(corN ++ 32 :: c.name.data.toList).toArray⟩ o).1 = true then runL (c.code.map insT) (k + 1) (lnS k ⟨(corN ++ 32 :: c.name.data.toList).toArray⟩ o).2 else none) = _
      rw [e, if_pos rfl]
      have h4 := run_code mem c.code c.code.length (k + 1) { o with cores := o.cores ++ [⟨c.name, []⟩] } o.cores ⟨c.name, []⟩ (by omega) h3 rfl (by simp only [List.length_nil]; omega)
      simp only [h4]
      rfl
    rw [List.flatMap_cons, run_app _ _ _ _ _ e2, run_cors mem l _ _ (by omega) (fun x hx => hc x (by simp [hx])) (by simp only [List.length_append, List.length_cons, List.length_nil] at hl ⊢; omega)]
    simp
theorem span_all (p : Int → Bool) : ∀ l : List UInt8, spanN p l = l.length → ∀ x ∈ l, p (x.toNat : Int) = true
  | [], _ => by simp
  | c :: l, h => by
    unfold spanN at h
    by_cases hc : p (c.toNat : Int) = true
    · rw [if_pos hc, List.length_cons] at h
      intro x hx
      rcases List.mem_cons.1 hx with rfl | hx
      · exact hc
      · exact span_all p l (by omega) x hx
    · rw [if_neg hc, List.length_cons] at h
      omega
theorem name_no {s : ByteArray} (h : nameB s = true) (c : UInt8) (hc : namedB (c.toNat : Int) = false) : c ∉ s.data.toList := fun hm => by
  simp only [nameB, Bool.and_eq_true, decide_eq_true_eq] at h
  have h2 := span_all namedB s.data.toList (by rw [h.2.2.2.2, Array.length_toList]; rfl) c hm
  rw [hc] at h2
  cases h2
theorem ten_opt {u : Bool} {t : List UInt8} (h : (10 : UInt8) ∉ t) : (10 : UInt8) ∉ (bif u then t else []) := by
  cases u with
  | true => exact h
  | false => simp
theorem ten_num (x : Int) : (10 : UInt8) ∉ numT x ∧ (10 : UInt8) ∉ wrdT x ∧ (10 : UInt8) ∉ regT x := by
  have h := itoa_no x 10 (.inr rfl)
  refine ⟨?_, ?_, ?_⟩
  · simp [numT, h]
  · simp [wrdT, h]
  · simp [regT, h]
theorem ten_ins (i : Ins) {code mem : Int} (hr : rightB i code mem = true) (g : GI i) : (10 : UInt8) ∉ insT i := by
  obtain ⟨_, _, _, b4⟩ := beg_put i hr ⟨(rgI_of g).2.1.1, (rgI_of g).2.1.2⟩
  have hf : (10 : UInt8) ∉ (if i.fr = 0 then [] else [32, 64] ++ Lib.itoa i.fr) := by
    have h := itoa_no i.fr 10 (.inr rfl)
    split
    · simp
    · simp [h]
  unfold insT
  simp only [fldsT, fldT, List.mem_append, not_or, List.nil_append]
  exact ⟨⟨b4, ⟨⟨⟨⟨⟨ten_opt (ten_num _).2.2, ten_opt (ten_num _).2.2⟩, ten_opt (ten_num _).2.2⟩, ten_opt (ten_num _).1⟩, ten_opt (ten_num _).1⟩, ten_opt (ten_num _).2.1⟩⟩, hf⟩
def obL (o : Ob) : List (List UInt8) := (objN ++ (numT o.sh ++ (numT o.lk ++ numT o.bf))) :: (memN ++ memT o.mem) :: o.cores.flatMap corL
theorem join_code (l : List Ins) : joinL (l.map insT) = codeT l := by
  unfold joinL codeT
  rw [List.flatMap_map]
theorem join_cons (x : List UInt8) (l : List (List UInt8)) : joinL (x :: l) = x ++ [10] ++ joinL l := rfl
theorem join_app (a b : List (List UInt8)) : joinL (a ++ b) = joinL a ++ joinL b := by
  unfold joinL
  rw [List.flatMap_append]
theorem join_cors (l : List Cor) : joinL (l.flatMap corL) = l.flatMap corT := by
  induction l with
  | nil => rfl
  | cons c l ih =>
    rw [List.flatMap_cons, List.flatMap_cons, join_app, ih]
    congr 1
    unfold corL corT
    rw [join_cons, join_code]
    simp only [corN, List.append_assoc, List.cons_append, List.nil_append]
theorem join_ob (o : Ob) : joinL (obL o) = obT o := by
  unfold obL obT
  rw [join_cons, join_cons, join_cors]
  simp only [objN, memN, List.append_assoc, List.cons_append, List.nil_append]
theorem run_ob {o : Ob} (g : GO o) (h : (chkO o).1 = 0) : runL (obL o) 0 zOb = some o := by
  obtain ⟨h1, h2⟩ := chk_ok h
  have hf := few_of h1
  have hnm : ∀ c ∈ o.cores, nameB c.name = true := by
    simp only [topB, Bool.and_eq_true] at h1
    exact fun c hc => (corsB_all _ _ h1.2.2.2.2.2.2.2 c hc).1
  show (if (lnS 0 ⟨(objN ++ (numT o.sh ++ (numT o.lk ++ numT o.bf))).toArray⟩ zOb).1 = true then runL ((memN ++ memT o.mem) :: o.cores.flatMap corL) 1 (lnS 0 ⟨(objN ++ (numT o.sh ++ (numT o.lk ++ numT o.bf))).toArray⟩ zOb).2 else none) = _
  rw [ln_head zOb o.sh o.lk o.bf g.sh g.lk g.bf, if_pos rfl]
  have hm := ln_mem { zOb with sh := o.sh, lk := o.lk, bf := o.bf } o.mem g.mem.2 rfl hf.mem
  show (if (lnS 1 ⟨(memN ++ memT o.mem).toArray⟩ { zOb with sh := o.sh, lk := o.lk, bf := o.bf }).1 = true then runL (o.cores.flatMap corL) 2 (lnS 1 ⟨(memN ++ memT o.mem).toArray⟩ { zOb with sh := o.sh, lk := o.lk, bf := o.bf }).2 else none) = _
  rw [hm, if_pos rfl]
  have h3 := run_cors o.mem.length o.cores 2 { mem := o.mem, sh := o.sh, lk := o.lk, bf := o.bf, cores := [] } (by omega) (fun c hc => ⟨name_no (hnm c hc) 32 (by decide), hf.code c hc, fun i hi => ⟨h2 c hc i hi, (g.cores.2 c hc).code.2 i hi⟩⟩) (by simp only [List.length_nil]; have := hf.cores; omega)
  exact h3
theorem lines_no {o : Ob} (g : GO o) (h : (chkO o).1 = 0) : ∀ l ∈ obL o, (10 : UInt8) ∉ l := by
  obtain ⟨h1, h2⟩ := chk_ok h
  have hnm : ∀ c ∈ o.cores, nameB c.name = true := by
    simp only [topB, Bool.and_eq_true] at h1
    exact fun c hc => (corsB_all _ _ h1.2.2.2.2.2.2.2 c hc).1
  intro l hl
  unfold obL at hl
  rcases List.mem_cons.1 hl with rfl | hl
  · simp only [List.mem_append, not_or]
    exact ⟨by decide, (ten_num _).1, (ten_num _).1, (ten_num _).1⟩
  · rcases List.mem_cons.1 hl with rfl | hl
    · simp only [List.mem_append, not_or]
      refine ⟨by decide, fun hm => ?_⟩
      unfold memT at hm
      obtain ⟨x, _, hx⟩ := List.mem_flatMap.1 hm
      exact (ten_num x).2.1 hx
    · obtain ⟨c, hc, hl⟩ := List.mem_flatMap.1 hl
      unfold corL at hl
      rcases List.mem_cons.1 hl with rfl | hl
      · simp only [List.mem_append, List.mem_cons, not_or]
        exact ⟨by decide, by decide, name_no (hnm c hc) 10 (by decide)⟩
      · obtain ⟨i, hi, rfl⟩ := List.mem_map.1 hl
        exact ten_ins i (h2 c hc i hi) ((g.cores.2 c hc).code.2 i hi)
theorem par_back {o : Ob} (hg : rgO o) (h : (chkO o).1 = 0) (hs : (obT o).length ≤ 16777216) : parO ⟨(obT o).toArray⟩ = (o, 0, 0) := by
  have g := go_of hg h
  have hz : (⟨(obT o).toArray⟩ : ByteArray).size = (obT o).length := size_mk _
  have hll : (obL o).length ≤ (obT o).length := by
    rw [← join_ob]
    generalize obL o = L
    induction L with
    | nil => simp
    | cons x L ih =>
      rw [join_cons]
      simp only [List.length_append, List.length_cons, List.length_nil]
      omega
  have e := tx_run ⟨(obT o).toArray⟩ (obL o) ((⟨(obT o).toArray⟩ : ByteArray).size + 2) 0 0 zOb o (by rw [toL, List.drop_zero, join_ob]) (lines_no g h) (by rw [hz]; omega) (by simp [obL]) (Nat.zero_le _) (run_ob g h)
  unfold parO
  rw [if_neg (by rw [hz]; omega), e]
  simp only [if_true]
  rw [if_pos h]
end Go.Proofs.YtgmcfinjlddgbaaGreatDoor
namespace Go.Proofs.YtgmcfinjlddgbaaGreatDoor
open Go.RowKit
set_option linter.unusedVariables false
set_option maxRecDepth 100000
theorem dg_len2 : ∀ (j f n : Nat), n < 128 ^ (j + 1) → (dg f n).length ≤ j + 1
  | j, 0, n, _ => by simp [dg]
  | j, f + 1, n, h => by
    unfold dg
    split
    · simp
    · cases j with
      | zero => simp at h; omega
      | succ j =>
        have := dg_len2 j f (n / 128) (by rw [Nat.pow_succ] at h; omega)
        simp only [List.length_cons]
        omega
theorem num_len1 {x : Int} (h0 : 0 ≤ x) (h1 : x < 128) : (numY x).length ≤ 1 := dg_len2 0 10 _ (by unfold u64; omega)
theorem num_len2 {x : Int} (h0 : 0 ≤ x) (h1 : x < 16384) : (numY x).length ≤ 2 := dg_len2 1 10 _ (by unfold u64; omega)
theorem num_len3 {x : Int} (h0 : 0 ≤ x) (h1 : x < 2097152) : (numY x).length ≤ 3 := dg_len2 2 10 _ (by unfold u64; omega)
theorem opt_len {u : Bool} {t : List UInt8} {n : Nat} (h : u = true → t.length ≤ n) : (bif u then t else []).length ≤ n := by
  cases u with
  | true => exact h rfl
  | false => simp
theorem fit_in {u : Bool} {x c : Int} (h : fitB u x c = true) (hu : u = true) : 0 ≤ x ∧ x < c := by
  subst hu
  have h : inB x c = true := h
  simpa [inB] using h
theorem insY_len2 (i : Ins) {code mem : Int} (hc : code ≤ 16384) (hm : mem ≤ 4096) (h : rightB i code mem = true) (g : GI i) : (insY i).length ≤ 21 := by
  have e := insY_eq i []
  rw [List.append_nil] at e
  rw [e]
  simp only [rightB, Bool.and_eq_true] at h
  obtain ⟨h1, h2, h3, h4, h5, h6, h7, h8, h9⟩ := h
  obtain ⟨e1, e2, e4, e8, e16, e32, e64⟩ := has_all i.k i.o h1
  have hk := g.k
  simp only [inB, Bool.and_eq_true, decide_eq_true_eq] at h2
  have l0 := num_len1 hk.1 (by omega)
  have l1 : (bif hasB (uB i.k 0) 1 then numY i.o else []).length ≤ 1 := opt_len fun hu => by
    have ho := g.o
    rw [hu] at ho
    have ho : 0 ≤ i.o ∧ i.o ≤ 18 := ho
    exact num_len1 ho.1 (by omega)
  have l2 : (bif hasB (uB i.k i.o) 2 then numY i.d else []).length ≤ 1 := opt_len fun hu => by
    rw [e2] at hu
    have := fit_in h4 hu
    exact num_len1 this.1 (by omega)
  have l3 : (bif hasB (uB i.k i.o) 4 then numY i.a else []).length ≤ 1 := opt_len fun hu => by
    rw [e4] at hu
    have := fit_in h5 hu
    exact num_len1 this.1 (by omega)
  have l4 : (bif hasB (uB i.k i.o) 8 then numY i.b else []).length ≤ 1 := opt_len fun hu => by
    rw [e8] at hu
    have := fit_in h6 hu
    exact num_len1 this.1 (by omega)
  have l5 : (bif hasB (uB i.k i.o) 16 then numY i.ad else []).length ≤ 2 := opt_len fun hu => by
    rw [e16] at hu
    have := fit_in h7 hu
    exact num_len2 this.1 (by omega)
  have l6 : (bif hasB (uB i.k i.o) 32 then numY i.tt else []).length ≤ 2 := opt_len fun hu => by
    rw [e32] at hu
    have := fit_in h8 hu
    exact num_len2 this.1 (by omega)
  have l7 : (bif hasB (uB i.k i.o) 64 then wrdY i.wd else []).length ≤ 10 := opt_len fun _ => dg_len 10 _
  have l8 := num_len2 h2.1 (by omega)
  simp only [List.length_append, List.length_nil]
  omega
theorem obY_len2 {o : Ob} (hg : rgO o) (h : (chkO o).1 = 0) : (encR o).length ≤ 4194304 := by
  have g := go_of hg h
  obtain ⟨h1, h2⟩ := chk_ok h
  have hf := few_of h1
  have hm := hf.mem
  have hc : ∀ c ∈ o.cores, (corY c).length ≤ 344200 := fun c hc => by
    have k1 := hf.name c hc
    have k2 := hf.code c hc
    have k3 := flatM_len insY 21 c.code (fun i hi => insY_len2 i (by omega) (by omega) (h2 c hc i hi) ((g.cores.2 c hc).code.2 i hi))
    have k4 := num_len1 (x := (c.name.size : Int)) (by omega) (by omega)
    have k5 := num_len3 (x := (c.code.length : Int)) (by omega) (by omega)
    have k6 : c.name.data.toList.length = c.name.size := Array.length_toList
    unfold corY
    simp only [List.length_append]
    omega
  have k1 := flatM_len corY 344200 o.cores hc
  have k2 := flatM_len wrdY 10 o.mem (fun x _ => dg_len 10 _)
  have k3 := num_len1 hf.sh.1 (by have := hf.sh.2; omega)
  have k4 := num_len1 hf.lk.1 (by have := hf.lk.2; omega)
  have k5 := num_len1 (x := o.bf) (by have := hf.bf.1; omega) (by have := hf.bf.2; omega)
  have k6 := num_len2 (x := (o.mem.length : Int)) (by omega) (by omega)
  have k7 := num_len1 (x := (o.cores.length : Int)) (by omega) (by have := hf.cores; omega)
  have k8 := hf.cores
  rw [enc_ok h]
  have e := obY_eq o []
  rw [List.append_nil] at e
  rw [e]
  simp only [List.length_append, List.length_nil, magic, List.length_cons]
  omega
theorem row_capB {W : World} {B : Nat} {T : TypeId} {n : Nat} {a : Option Addr} {m c : Nat} {xs : List Value} (h : W.ownsRow B T n (.slice a m c) m xs) : m ≤ c ∧ c ≤ 9223372036854775807 := by
  have hml : maxLen ≤ 9223372036854775807 := by unfold maxLen; decide
  rcases h.2 with ⟨h1, h2⟩ | ⟨g, cap, cur, h1, h2, h3, h4, h5, _⟩
  · injection h1 with e1 e2 e3
    omega
  · injection h1 with e1 e2 e3
    omega
structure Sb (w : World) (ro : Array Value) (X : World) : Prop where
  ob : Own X w.heap.size 29 ro
  bel : Below w.heap.size w X
theorem Sb.below {w X Y : World} {ro : Array Value} (h : Sb w ro X) (hb : Below X.heap.size X Y) : Sb w ro Y := ⟨h.ob.below hb, h.bel.trans (hb.mono h.bel.size)⟩
set_option maxHeartbeats 16000000 in
theorem back_walk (o : Ob) (hg : rgO o) (hf : fitO o) {v : Value} {w : World} (hv : obA w o v) (T : TgT w) (P : PwT w) :
    Calls Tryz.prog 7 #[v] w fun e w' => e = .returned (.bool true) ∧ Below w.heap.size w w' := by
  have HTT : Hid (∀ X, Below w.heap.size w X → TgT X ∧ PwT X) := fun X h => ⟨T.below h, P.below h⟩
  have HBG : Hid (∀ X, Below w.heap.size w X → Calls Tryz.prog 18 #[] X fun e w' => e = .returned (.bool true) ∧ Below X.heap.size X w') := fun X h => begins_any X (HTT.out X h).1 (HTT.out X h).2
  have HOA : Hid (∀ X, Below w.heap.size w X → obA X o v) := fun X h => obA_below hv h
  have HFI := Lib.hid hf
  have HCK : Hid (∀ X, Below w.heap.size w X → Calls Tryz.prog 15 #[v] X fun e w' => e = chkE (chkO o) ∧ Below X.heap.size X w') := fun X h => check_any o hg hf (obA_below hv h) (HTT.out X h).1
  have HEN : Hid (∀ X, Below w.heap.size w X → Calls Tryz.prog 32 #[v] X (EncP o X)) := fun X h => encode_any o hg hf (obA_below hv h) (HTT.out X h).1
  have HPR : Hid (∀ X, Below w.heap.size w X → Calls Tryz.prog 30 #[v] X fun e w' => e = prtE (prtO o) ∧ Below X.heap.size X w') := fun X h => print_any o hg hf (obA_below hv h) (HTT.out X h).1 (HTT.out X h).2
  have HPA : Hid (∀ X s, Below w.heap.size w X → Calls Tryz.prog 38 #[.string s] X (ParP X (parO s))) := fun X s h => t_Parse s X (HTT.out X h).1
  have HDE : Hid (∀ X (l : List UInt8) a c, Below w.heap.size w X → bysAt X l a → l.length ≤ c → l.length ≤ 1152921504606846976 → c ≤ 9223372036854775807 → Calls Tryz.prog 36 #[.slice a l.length c] X fun e w' => ∃ v, e = .returned (.tuple #[v, .int .i64 (decO l).2]) ∧ DcO X.heap.size (decO l).1 v w' ∧ Below X.heap.size X w') := fun X l a c h1 h2 h3 h4 h5 => t_Decode l h2 h3 h4 h5 (HTT.out X h1).1
  have HDB : Hid ((chkO o).1 = 0 → decO (encR o) = (o, 0) ∧ (encR o).length ≤ 4194304) := fun h => ⟨dec_back hg h, obY_len2 hg h⟩
  have HCP : Hid ((chkO o).1 ≠ 0 → encR o = [] ∧ prtO o = ([], (chkO o).1)) := fun h => ⟨by unfold encR; rw [if_neg h], by unfold prtO; rw [if_neg h]⟩
  have HPO : Hid ((chkO o).1 = 0 → prtO o = if (obT o).length > 16777216 then ([], 4) else (obT o, 0)) := fun h => by unfold prtO; rw [if_pos h]
  have HPB : Hid ((chkO o).1 = 0 → ¬ (obT o).length > 16777216 → parO ⟨(obT o).toArray⟩ = (o, 0, 0)) := fun h h2 => par_back hg h (by omega)
  obtain ⟨a1, c1, a5, c5, rfl, _, _⟩ := hv
  obtain ⟨n1, hn1⟩ : ∃ n, n = o.mem.length := ⟨_, rfl⟩
  obtain ⟨n5, hn5⟩ : ∃ n, n = o.cores.length := ⟨_, rfl⟩
  simp only [obV] at HEN HPR HCK HOA ⊢
  rw [← hn1, ← hn5] at HEN HPR HCK HOA ⊢
  replace HEN : Hid (∀ X, Below w.heap.size w X → Calls Tryz.prog 32 #[.agg #[.slice a1 n1 c1, .int .i64 o.sh, .int .i64 o.lk, .int .i64 o.bf, .slice a5 n5 c5]] X fun e w' => ∃ a c, e = .returned (.tuple #[.slice a (encR o).length c, .int .i64 (chkO o).1]) ∧ Below X.heap.size X w' ∧ w'.ownsRow X.heap.size 5 1 (.slice a (encR o).length c) (encR o).length (Lib.byteCells (encR o))) := HEN.out
  replace HCK : Hid (∀ X, Below w.heap.size w X → Calls Tryz.prog 15 #[.agg #[.slice a1 n1 c1, .int .i64 o.sh, .int .i64 o.lk, .int .i64 o.bf, .slice a5 n5 c5]] X fun e w' => e = .returned (.tuple #[.int .i64 (chkO o).1, .int .i64 (chkO o).2.1, .int .i64 (chkO o).2.2]) ∧ Below X.heap.size X w') := HCK.out
  generalize encR o = enc at HEN HDB HCP
  generalize chkO o = ck at HEN HDB HCP HPO HPB HCK
  obtain ⟨er, ek1, ek2⟩ := ck
  simp only at HEN HDB HCP HPO HPB HCK
  generalize prtO o = pr at HPR HPO HCP
  obtain ⟨pt, pe⟩ := pr
  replace HPR : Hid (∀ X, Below w.heap.size w X → Calls Tryz.prog 30 #[.agg #[.slice a1 n1 c1, .int .i64 o.sh, .int .i64 o.lk, .int .i64 o.bf, .slice a5 n5 c5]] X fun e w' => e = .returned (.tuple #[.string ⟨pt.toArray⟩, .int .i64 pe]) ∧ Below X.heap.size X w') := HPR.out
  generalize obT o = tx at HPO HPB
  obtain ⟨sh, hsh⟩ : ∃ n, n = o.sh := ⟨_, rfl⟩
  obtain ⟨lk, hlk⟩ : ∃ n, n = o.lk := ⟨_, rfl⟩
  obtain ⟨bf, hbf⟩ : ∃ n, n = o.bf := ⟨_, rfl⟩
  rw [← hsh, ← hlk, ← hbf] at HEN HPR HCK HOA ⊢
  have O0 := Own.new w 29 #[.slice a1 n1 c1, .int .i64 sh, .int .i64 lk, .int .i64 bf, .slice a5 n5 c5]
  have B0 := (Below.refl _ w).alloc (Nat.le_refl _) (.cells #[.slice a1 n1 c1, .int .i64 sh, .int .i64 lk, .int .i64 bf, .slice a5 n5 c5] 29)
  obtain ⟨W0, hW0⟩ : ∃ W, W = w.alloc (.cells #[.slice a1 n1 c1, .int .i64 sh, .int .i64 lk, .int .i64 bf, .slice a5 n5 c5] 29) := ⟨_, rfl⟩
  rw [← hW0] at O0 B0
  have HW0 := Lib.hid hW0
  have HS0 : Hid (Sb w #[.slice a1 n1 c1, .int .i64 sh, .int .i64 lk, .int .i64 bf, .slice a5 n5 c5] W0) := ⟨O0, B0⟩
  clear hn1 hn5 hsh hlk hbf O0 B0 hW0 T P hg hf
  go_enter Tryz.func7, Tryz.ntmps7
  go_upto_region 1 with fail
  rw [← HW0.out]
  clear HW0
  go_upto_region 3 with (go_at_call 18; refine (HBG.out _ HS0.out.bel).mono ?_; rintro e w1 ⟨rfl, hb⟩; have HS1 := Lib.hid (HS0.out.below hb); have O1 := HS1.out.ob; clear hb)
  clear HS0 HBG
  go_upto_region 4 with (first | (go_at_call 15; refine (HCK.out _ HS1.out.bel).mono ?_; rintro e w2 ⟨rfl, hb⟩; have HS2 := Lib.hid (HS1.out.below hb); have O2 := HS2.out.ob; clear hb O1) | (refine ld rowO rfl rfl rfl O1 rfl ?_))
  clear HS1 HCK
  go_upto_region 5 with (first | (go_at_call 30; refine (HPR.out _ HS2.out.bel).mono ?_; rintro e w3 ⟨rfl, hb⟩; have HS3 := Lib.hid (HS2.out.below hb); have O3 := HS3.out.ob; clear hb O2) | (refine ld rowO rfl rfl rfl O2 rfl ?_))
  clear HS2 HPR
  go_upto_region 6 with (first
    | (go_at_call 32
       refine (HEN.out _ HS3.out.bel).mono ?_
       rintro e w4 ⟨ab, cb, rfl, hb, hr⟩
       have hcp := row_capB hr
       have HCB := Lib.hid hcp
       obtain ⟨_, _, ee, hby⟩ := row_bys hr
       injection ee with e1 e2 e3
       subst e1
       have HS4 := Lib.hid (HS3.out.below hb)
       have HBY := Lib.hid hby
       clear hb hr hcp hby e2 e3 O3)
    | (refine ld rowO rfl rfl rfl O3 rfl ?_))
  clear HS3 HEN
  by_cases her : er = 0
  · subst her
    have hdb := HDB.out rfl
    have HP := Lib.hid (HPO.out rfl)
    have HQ := Lib.hid (HPB.out rfl)
    clear HDB HCP HPO HPB
    have HD1 : Hid (Calls Tryz.prog 36 #[.slice ab enc.length cb] w4 fun e w' => ∃ v, e = .returned (.tuple #[v, .int .i64 0]) ∧ DcO w4.heap.size o v w' ∧ Below w4.heap.size w4 w') := by
      have h := HDE.out w4 enc ab cb HS4.out.bel HBY.out HCB.out.1 (by have := hdb.2; omega) HCB.out.2
      rw [hdb.1] at h
      exact h
    have hel : ¬ (4194304 : Int) < (enc.length : Int) := by have := hdb.2; omega
    have hpe : pe = 4 ∧ pt = [] ∨ pe = 0 ∧ pt = tx ∧ ¬ tx.length > 16777216 := by
      have hp := HP.out
      by_cases hl : tx.length > 16777216
      · rw [if_pos hl] at hp
        simp only [Prod.mk.injEq] at hp
        exact .inl ⟨hp.2, hp.1⟩
      · rw [if_neg hl] at hp
        simp only [Prod.mk.injEq] at hp
        exact .inr ⟨hp.2, hp.1, hl⟩
    clear hdb HP HCB HBY HDE
    rcases hpe with ⟨rfl, rfl⟩ | ⟨rfl, rfl, hl⟩
    · go_upto_region 11 with (first
        | (go_at_call 36
           refine HD1.out.mono ?_
           rintro e w5 ⟨vd, rfl, ⟨x1, x5, Ld, rfl, hd⟩, hb⟩
           have hdz := hd
           obtain ⟨xa, xc, rfl⟩ := row_slice hdz.mem
           obtain ⟨xb, xd, rfl⟩ := row_slice hdz.cors
           have hbw := Below.of_row ((Below.refl _ w5).alloc (Nat.le_refl _) (.cells #[.slice none 0 0, .int .i64 0, .int .i64 0, .int .i64 0, .slice none 0 0] 29)) (Nat.le_refl _) #[.slice xa o.mem.length xc, .int .i64 o.sh, .int .i64 o.lk, .int .i64 o.bf, .slice xb Ld.length xd]
           have O5 := Own.new w5 29 #[.slice none 0 0, .int .i64 0, .int .i64 0, .int .i64 0, .slice none 0 0]
           have HS5 := Lib.hid ((HS4.out.below hb).below hbw)
           have HY5 := Lib.hid (And.intro (O5.row #[.slice xa o.mem.length xc, .int .i64 o.sh, .int .i64 o.lk, .int .i64 o.bf, .slice xb Ld.length xd]) (obA_below hdz.obA hbw))
           clear hd hdz hb hbw)
        | (refine st rowO rfl rfl O5 rfl rfl (by rfl) (by rfl) (by kernel_rfl) ?_))
      clear O5 HD1 HS4
      obtain ⟨wA, hwA⟩ : ∃ W, W = (w5.alloc (.cells #[.slice none 0 0, .int .i64 0, .int .i64 0, .int .i64 0, .slice none 0 0] 29)).setRow w5.heap.size #[.slice xa o.mem.length xc, .int .i64 o.sh, .int .i64 o.lk, .int .i64 o.bf, .slice xb Ld.length xd] := ⟨_, rfl⟩
      rw [← hwA] at HS5 HY5 ⊢
      clear hwA
      generalize w5.heap.size = gx at HY5 ⊢
      have HSM : Hid (Calls Tryz.prog 17 #[.agg #[.slice xa o.mem.length xc, .int .i64 o.sh, .int .i64 o.lk, .int .i64 o.bf, .slice xb Ld.length xd], .agg #[.slice a1 n1 c1, .int .i64 sh, .int .i64 lk, .int .i64 bf, .slice a5 n5 c5]] wA fun e w' => ∃ b, e = .returned (.bool b) ∧ (b = true ↔ o = o) ∧ Below wA.heap.size wA w') := rsame2_any o o HFI.out HFI.out HY5.out.2 (HOA.out _ HS5.out.bel)
      have k0 := row_cellsO HY5.out.1 0 _ rfl
      have k1 := row_cellsO HY5.out.1 1 _ rfl
      have k2 := row_cellsO HY5.out.1 2 _ rfl
      have k3 := row_cellsO HY5.out.1 3 _ rfl
      have k4 := row_cellsO HY5.out.1 4 _ rfl
      have j0 := row_cellsO HS5.out.ob 0 _ rfl
      have j1 := row_cellsO HS5.out.ob 1 _ rfl
      have j2 := row_cellsO HS5.out.ob 2 _ rfl
      have j3 := row_cellsO HS5.out.ob 3 _ rfl
      have j4 := row_cellsO HS5.out.ob 4 _ rfl
      go_wp2_with (first | (go_at_call 17; refine HSM.out.mono ?_; rintro e wS ⟨bs, rfl, hbs, hb⟩; obtain rfl : bs = true := (by first | exact hbs.2 rfl | exact hbs.2 trivial); have HS6 := Lib.hid (HS5.out.below hb); clear hb hbs k0 k1 k2 k3 k4 j0 j1 j2 j3 j4))
      go_ret
      exact ⟨rfl, HS6.out.bel⟩
    · go_upto_region 11 with (first
        | (go_at_call 36
           refine HD1.out.mono ?_
           rintro e w5 ⟨vd, rfl, ⟨x1, x5, Ld, rfl, hd⟩, hb⟩
           have hdz := hd
           obtain ⟨xa, xc, rfl⟩ := row_slice hdz.mem
           obtain ⟨xb, xd, rfl⟩ := row_slice hdz.cors
           have hbw := Below.of_row ((Below.refl _ w5).alloc (Nat.le_refl _) (.cells #[.slice none 0 0, .int .i64 0, .int .i64 0, .int .i64 0, .slice none 0 0] 29)) (Nat.le_refl _) #[.slice xa o.mem.length xc, .int .i64 o.sh, .int .i64 o.lk, .int .i64 o.bf, .slice xb Ld.length xd]
           have O5 := Own.new w5 29 #[.slice none 0 0, .int .i64 0, .int .i64 0, .int .i64 0, .slice none 0 0]
           have HS5 := Lib.hid ((HS4.out.below hb).below hbw)
           have HY5 := Lib.hid (And.intro (O5.row #[.slice xa o.mem.length xc, .int .i64 o.sh, .int .i64 o.lk, .int .i64 o.bf, .slice xb Ld.length xd]) (obA_below hdz.obA hbw))
           clear hd hdz hb hbw)
        | (refine st rowO rfl rfl O5 rfl rfl (by rfl) (by rfl) (by kernel_rfl) ?_))
      clear O5 HD1 HS4
      obtain ⟨wA, hwA⟩ : ∃ W, W = (w5.alloc (.cells #[.slice none 0 0, .int .i64 0, .int .i64 0, .int .i64 0, .slice none 0 0] 29)).setRow w5.heap.size #[.slice xa o.mem.length xc, .int .i64 o.sh, .int .i64 o.lk, .int .i64 o.bf, .slice xb Ld.length xd] := ⟨_, rfl⟩
      rw [← hwA] at HS5 HY5 ⊢
      clear hwA
      generalize w5.heap.size = gx at HY5 ⊢
      have HSM : Hid (Calls Tryz.prog 17 #[.agg #[.slice xa o.mem.length xc, .int .i64 o.sh, .int .i64 o.lk, .int .i64 o.bf, .slice xb Ld.length xd], .agg #[.slice a1 n1 c1, .int .i64 sh, .int .i64 lk, .int .i64 bf, .slice a5 n5 c5]] wA fun e w' => ∃ b, e = .returned (.bool b) ∧ (b = true ↔ o = o) ∧ Below wA.heap.size wA w') := rsame2_any o o HFI.out HFI.out HY5.out.2 (HOA.out _ HS5.out.bel)
      have k0 := row_cellsO HY5.out.1 0 _ rfl
      have k1 := row_cellsO HY5.out.1 1 _ rfl
      have k2 := row_cellsO HY5.out.1 2 _ rfl
      have k3 := row_cellsO HY5.out.1 3 _ rfl
      have k4 := row_cellsO HY5.out.1 4 _ rfl
      have j0 := row_cellsO HS5.out.ob 0 _ rfl
      have j1 := row_cellsO HS5.out.ob 1 _ rfl
      have j2 := row_cellsO HS5.out.ob 2 _ rfl
      have j3 := row_cellsO HS5.out.ob 3 _ rfl
      have j4 := row_cellsO HS5.out.ob 4 _ rfl
      go_upto_region 15 with (first | (go_at_call 17; refine HSM.out.mono ?_; rintro e wS ⟨bs, rfl, hbs, hb⟩; obtain rfl : bs = true := (by first | exact hbs.2 rfl | exact hbs.2 trivial); have HS6 := Lib.hid (HS5.out.below hb); have HY6 := Lib.hid (And.intro (HY5.out.1.below hb) (obA_below HY5.out.2 hb)); clear hb hbs k0 k1 k2 k3 k4 j0 j1 j2 j3 j4))
      clear HS5 HY5 HSM
      have HPC : Hid (Calls Tryz.prog 38 #[.string ⟨pt.toArray⟩] wS fun e w' => ∃ v, e = .returned (.tuple #[v, .int .i64 0, .int .i64 0]) ∧ ObOwn wS.heap.size o v w' ∧ Below wS.heap.size wS w') := (HPA.out wS ⟨pt.toArray⟩ HS6.out.bel).mono fun e w' ⟨v, h1, h2, _, h4⟩ => by
        rw [HQ.out hl] at h1 h2
        exact ⟨v, h1, h2, h4⟩
      generalize (⟨pt.toArray⟩ : ByteArray) = ps at HPC ⊢
      clear HPA HQ hl
      go_upto_region 16 with (first
        | (go_at_call 38
           refine HPC.out.mono ?_
           rintro e w7 ⟨vy, rfl, ⟨y1, y5, Ly, rfl, hrd⟩, hb⟩
           have hrz := hrd
           obtain ⟨ya, yc, rfl⟩ := row_slice hrz.mem
           obtain ⟨yb, yd, rfl⟩ := row_slice hrz.cors
           have hlen2 : o.cores.length = Ly.length := by rw [← hrz.fst, List.length_map]
           have hbw := Below.of_row ((Below.refl _ w7).alloc (Nat.le_refl _) (.cells #[.slice none 0 0, .int .i64 0, .int .i64 0, .int .i64 0, .slice none 0 0] 29)) (Nat.le_refl _) #[.slice ya o.mem.length yc, .int .i64 o.sh, .int .i64 o.lk, .int .i64 o.bf, .slice yb Ly.length yd]
           have O7 := Own.new w7 29 #[.slice none 0 0, .int .i64 0, .int .i64 0, .int .i64 0, .slice none 0 0]
           have HS8 := Lib.hid ((HS6.out.below hb).below hbw)
           have HY8 := Lib.hid (And.intro ((HY6.out.1.below hb).below hbw) (obA_below (obA_below HY6.out.2 hb) hbw))
           have HX8 := Lib.hid (And.intro (O7.row #[.slice ya o.mem.length yc, .int .i64 o.sh, .int .i64 o.lk, .int .i64 o.bf, .slice yb Ly.length yd]) (obA_below hrd.obA hbw))
           clear hrd hrz hb hbw hlen2)
        | (refine st rowO rfl rfl O7 rfl rfl (by rfl) (by rfl) (by kernel_rfl) ?_))
      clear HS6 HY6 HPC O7
      obtain ⟨w8, hw8⟩ : ∃ W, W = (w7.alloc (.cells #[.slice none 0 0, .int .i64 0, .int .i64 0, .int .i64 0, .slice none 0 0] 29)).setRow w7.heap.size #[.slice ya o.mem.length yc, .int .i64 o.sh, .int .i64 o.lk, .int .i64 o.bf, .slice yb Ly.length yd] := ⟨_, rfl⟩
      rw [← hw8] at HS8 HY8 HX8 ⊢
      clear hw8
      have HSM : Hid (Calls Tryz.prog 17 #[.agg #[.slice ya o.mem.length yc, .int .i64 o.sh, .int .i64 o.lk, .int .i64 o.bf, .slice yb Ly.length yd], .agg #[.slice a1 n1 c1, .int .i64 sh, .int .i64 lk, .int .i64 bf, .slice a5 n5 c5]] w8 fun e w' => ∃ b, e = .returned (.bool b) ∧ (b = true ↔ o = o) ∧ Below w8.heap.size w8 w') := rsame2_any o o HFI.out HFI.out HX8.out.2 (HOA.out _ HS8.out.bel)
      have HTS : Hid (∀ X, Below w8.heap.size w8 X → Calls Tryz.prog 35 #[.agg #[.slice ya o.mem.length yc, .int .i64 o.sh, .int .i64 o.lk, .int .i64 o.bf, .slice yb Ly.length yd], .agg #[.slice xa o.mem.length xc, .int .i64 o.sh, .int .i64 o.lk, .int .i64 o.bf, .slice xb Ld.length xd]] X fun e w' => ∃ b, e = .returned (.bool b) ∧ (b = true ↔ o = o) ∧ Below X.heap.size X w') := fun X hX => tsame_any o o HFI.out HFI.out (obA_below HX8.out.2 hX) (obA_below HY8.out.2 hX)
      have k0 := row_cellsO HX8.out.1 0 _ rfl
      have k1 := row_cellsO HX8.out.1 1 _ rfl
      have k2 := row_cellsO HX8.out.1 2 _ rfl
      have k3 := row_cellsO HX8.out.1 3 _ rfl
      have k4 := row_cellsO HX8.out.1 4 _ rfl
      have j0 := row_cellsO HS8.out.ob 0 _ rfl
      have j1 := row_cellsO HS8.out.ob 1 _ rfl
      have j2 := row_cellsO HS8.out.ob 2 _ rfl
      have j3 := row_cellsO HS8.out.ob 3 _ rfl
      have j4 := row_cellsO HS8.out.ob 4 _ rfl
      have m0 := row_cellsO HY8.out.1 0 _ rfl
      have m1 := row_cellsO HY8.out.1 1 _ rfl
      have m2 := row_cellsO HY8.out.1 2 _ rfl
      have m3 := row_cellsO HY8.out.1 3 _ rfl
      have m4 := row_cellsO HY8.out.1 4 _ rfl
      have HCE : Hid (∀ X, Below w8.heap.size w8 X → Own X w7.heap.size 29 #[.slice ya o.mem.length yc, .int .i64 o.sh, .int .i64 o.lk, .int .i64 o.bf, .slice yb Ly.length yd] ∧ Own X gx 29 #[.slice xa o.mem.length xc, .int .i64 o.sh, .int .i64 o.lk, .int .i64 o.bf, .slice xb Ld.length xd]) := fun X hX => ⟨HX8.out.1.below hX, HY8.out.1.below hX⟩
      go_wp2_with (first
        | (go_at_call 17
           refine HSM.out.mono ?_
           rintro e wT ⟨bs, rfl, hbs, hb⟩
           obtain rfl : bs = true := (by first | exact hbs.2 rfl | exact hbs.2 trivial)
           have HB9 := Lib.hid hb
           obtain ⟨q1, q2⟩ := HCE.out _ hb
           clear hb hbs k0 k1 k2 k3 k4 j0 j1 j2 j3 j4 m0 m1 m2 m3 m4
           have k0 := row_cellsO q1 0 _ rfl
           have k1 := row_cellsO q1 1 _ rfl
           have k2 := row_cellsO q1 2 _ rfl
           have k3 := row_cellsO q1 3 _ rfl
           have k4 := row_cellsO q1 4 _ rfl
           have m0 := row_cellsO q2 0 _ rfl
           have m1 := row_cellsO q2 1 _ rfl
           have m2 := row_cellsO q2 2 _ rfl
           have m3 := row_cellsO q2 3 _ rfl
           have m4 := row_cellsO q2 4 _ rfl
           clear q1 q2)
        | (go_at_call 35
           refine (HTS.out _ HB9.out).mono ?_
           rintro e wU ⟨bs, rfl, hbs, hb⟩
           obtain rfl : bs = true := (by first | exact hbs.2 rfl | exact hbs.2 trivial)
           have HBU := Lib.hid hb
           clear hb hbs k0 k1 k2 k3 k4 m0 m1 m2 m3 m4))
      go_ret
      exact ⟨rfl, HS8.out.bel.trans ((HB9.out.trans (HBU.out.mono HB9.out.size)).mono HS8.out.bel.size)⟩
  · obtain ⟨rfl, hpp⟩ := HCP.out her
    simp only [Prod.mk.injEq] at hpp
    obtain ⟨rfl, rfl⟩ := hpp
    have hq : (pe != 0) = true := by simpa using her
    have e1 : (pe == pe) = true := by simp
    clear HDB HPO HPB her
    go_wp2_with (fail)
    go_ret
    exact ⟨rfl, HS4.out.bel⟩
end Go.Proofs.YtgmcfinjlddgbaaGreatDoor

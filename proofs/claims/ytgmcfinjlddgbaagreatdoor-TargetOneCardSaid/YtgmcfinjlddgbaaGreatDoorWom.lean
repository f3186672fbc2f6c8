/- TargetOne, walked. -/
import Derived.Test.YtgmcfinjlddgbaaGreatDoorWq2
import Derived.Test.YtgmcfinjlddgbaaGreatDoorTp9
import Derived.Test.YtgmcfinjlddgbaaGreatDoorDrz
import Derived.Lib.IndexLaws
import Derived.Test.YtgmcfinjlddgbaaGreatDoorTw5
namespace Go.Proofs.YtgmcfinjlddgbaaGreatDoor
open Go.RowKit
set_option linter.unusedVariables false
set_option maxRecDepth 100000

theorem dec_last (n : Nat) (h : 10 ≤ n) : Lib.decDigits n = Lib.decDigits (n / 10) ++ [UInt8.ofNat (48 + n % 10)] := by rw [Lib.decDigits, dif_neg (by omega)]
theorem scan_append (bl : Bool) (m : Int) : ∀ (l r : List UInt8) (s d : Int), scanN bl m (l ++ r) s d = if (scanN bl m l s d).2.2 = true then scanN bl m r (scanN bl m l s d).1 (scanN bl m l s d).2.1 else scanN bl m l s d
  | [], r, s, d => by simp [scanN]
  | c :: l, r, s, d => by
    simp only [List.cons_append, scanN]
    by_cases h : Halts bl m s d (c.toNat : Int)
    · simp only [if_pos h]; simp
    · simp only [if_neg h]
      exact scan_append bl m l r _ _
theorem scan_count (bl : Bool) (m : Int) : ∀ (l : List UInt8) (s d : Int), d ≤ (scanN bl m l s d).2.1 ∧ (scanN bl m l s d).2.1 ≤ d + l.length ∧ ((scanN bl m l s d).2.2 = true → (scanN bl m l s d).2.1 = d + l.length)
  | [], s, d => by simp [scanN]
  | c :: l, s, d => by
    simp only [scanN]
    by_cases h : Halts bl m s d (c.toNat : Int)
    · simp only [if_pos h, List.length_cons]
      refine ⟨by omega, by omega, fun hx => by simp at hx⟩
    · simp only [if_neg h, List.length_cons]
      have k := scan_count bl m l (s * 10 + ((c.toNat : Int) - 48)) (d + 1)
      refine ⟨by omega, by omega, fun hx => ?_⟩
      have := k.2.2 hx
      omega
theorem digit_nat (k : Nat) (h : k < 10) : ((UInt8.ofNat (48 + k)).toNat : Int) = 48 + k := by
  rw [UInt8.toNat_ofNat']; omega
/-- The numeral of n goes in whole. -/
theorem scan_dec (bl : Bool) (m : Int) : ∀ (j n : Nat), n ≤ j → (n : Int) ≤ m → (bl = true → 1 ≤ n) → scanN bl m (Lib.decDigits n) 0 0 = ((n : Int), ((Lib.decDigits n).length : Int), true)
  | j, n, hj, hm, hb => by
    by_cases h10 : n < 10
    · rw [Lib.decDigits_one h10]
      simp only [scanN]
      rw [digit_nat n h10, if_neg]
      · simp; omega
      · rintro (h | h | h | h | h)
        · omega
        · omega
        · have := hb h.2.2; omega
        · omega
        · omega
    · cases j with
      | zero => omega
      | succ j =>
        have ih := scan_dec bl m j (n / 10) (by omega) (by omega) (fun _ => by omega)
        have hl : 1 ≤ (Lib.decDigits (n / 10)).length := by
          by_cases h : n / 10 < 10
          · rw [Lib.decDigits_one h]; simp
          · rw [dec_last _ (by omega)]; simp
        rw [dec_last n (by omega), scan_append, ih]
        simp only [if_true, scanN]
        rw [digit_nat (n % 10) (by omega), if_neg]
        · simp; omega
        · rintro (h | h | h | h | h)
          · omega
          · omega
          · omega
          · omega
          · omega
theorem decDigits_head (n : Nat) : ∃ u r, Lib.decDigits n = u :: r ∧ u ≠ 45 := by
  have key : ∀ j n : Nat, n ≤ j → ∃ u r, Lib.decDigits n = u :: r ∧ u ≠ 45 := by
    intro j
    induction j with
    | zero =>
      intro n h
      obtain rfl : n = 0 := by omega
      exact ⟨48, [], by rw [Lib.decDigits_one (by decide)]; rfl, by decide⟩
    | succ j ih =>
      intro n h
      by_cases h10 : n < 10
      · refine ⟨UInt8.ofNat (48 + n), [], Lib.decDigits_one h10, fun he => ?_⟩
        have := digit_nat n h10
        rw [he] at this
        have e45 : ((45 : UInt8).toNat : Int) = 45 := rfl
        omega
      · obtain ⟨u, r, e, hu⟩ := ih (n / 10) (by omega)
        exact ⟨u, r ++ [UInt8.ofNat (48 + n % 10)], by rw [dec_last n (by omega), e]; rfl, hu⟩
  exact key n n (Nat.le_refl _)
theorem told_whole (bl : Bool) (v d : Int) (hd : d ≠ 0) : told bl (v, d, true) = (signed bl v, 0, 0) := told_yes rfl hd rfl
theorem signed_below (v : Int) (h0 : 0 ≤ v) (h1 : v ≤ 9223372036854775808) : signed true v = -v := by
  show wrap64 (-(wrap64 v)) = -v
  unfold wrap64; omega
theorem signed_above (v : Int) (h0 : 0 ≤ v) (h1 : v ≤ 9223372036854775807) : signed false v = v := by
  show wrap64 v = v
  unfold wrap64; omega
theorem parseP_below (r : List UInt8) : parseP (45 :: r) = told true (scanN true 9223372036854775808 r 0 0) := by
  unfold parseP; split
  · rename_i heq; simp only [List.cons.injEq, true_and] at heq; rw [heq]
  · rename_i h; exact absurd rfl (h r)
theorem parseP_above (u : UInt8) (r : List UInt8) (hu : u ≠ 45) : parseP (u :: r) = told false (scanN false 9223372036854775807 (u :: r) 0 0) := by
  unfold parseP; split
  · rename_i heq; simp only [List.cons.injEq] at heq; exact absurd heq.1 hu
  · rfl
theorem dec_pos (n : Nat) : ((Lib.decDigits n).length : Int) ≠ 0 := by
  obtain ⟨u, r, e, _⟩ := decDigits_head n
  rw [e, List.length_cons]; omega
theorem back_below (k : Nat) (h0 : 1 ≤ k) (h1 : k ≤ 9223372036854775808) : parseP (45 :: Lib.decDigits k) = (-(k : Int), 0, 0) := by
  rw [parseP_below, scan_dec true 9223372036854775808 k k (Nat.le_refl _) (by omega) (fun _ => h0), told_whole _ _ _ (dec_pos k), signed_below _ (by omega) (by omega)]
theorem back_above (k : Nat) (h1 : k ≤ 9223372036854775807) : parseP (Lib.decDigits k) = ((k : Int), 0, 0) := by
  obtain ⟨u, r, e2, hu⟩ := decDigits_head k
  have e3 : parseP (Lib.decDigits k) = told false (scanN false 9223372036854775807 (Lib.decDigits k) 0 0) := by
    rw [e2]; exact parseP_above u r hu
  rw [e3, scan_dec false 9223372036854775807 k k (Nat.le_refl _) (by omega) (fun h => by cases h), told_whole _ _ _ (dec_pos k), signed_above _ (by omega) (by omega)]
theorem parse_back (n : Int) (h0 : -9223372036854775808 ≤ n) (h1 : n ≤ 9223372036854775807) : parseP (Lib.itoa n) = (n, 0, 0) := by
  by_cases hn : n < 0
  · obtain ⟨k, hk⟩ : ∃ k : Nat, k = n.natAbs := ⟨_, rfl⟩
    have e : Lib.itoa n = 45 :: Lib.decDigits k := by unfold Lib.itoa; rw [if_pos hn, hk]
    have en : -(k : Int) = n := by omega
    rw [e, back_below k (by omega) (by omega), en]
  · obtain ⟨k, hk⟩ : ∃ k : Nat, k = n.toNat := ⟨_, rfl⟩
    have e : Lib.itoa n = Lib.decDigits k := by unfold Lib.itoa; rw [if_neg hn, hk]
    have en : (k : Int) = n := by omega
    rw [e, back_above k (by omega), en]
/-- Digits that go in whole are the numeral of their size. -/
theorem scan_is (bl : Bool) (m : Int) (hm : 0 ≤ m) : ∀ (j : Nat) (l : List UInt8), l.length = j → 1 ≤ j → (scanN bl m l 0 0).2.2 = true →
    0 ≤ (scanN bl m l 0 0).1 ∧ (scanN bl m l 0 0).1 ≤ m ∧ (bl = true → 1 ≤ (scanN bl m l 0 0).1) ∧ l = Lib.decDigits (scanN bl m l 0 0).1.toNat
  | 0, l, hl, hj, _ => by omega
  | j + 1, l, hl, _, hok => by
    obtain ⟨l', c, rfl⟩ : ∃ l' c, l = l' ++ [c] := by
      have hne : l ≠ [] := by intro h; subst h; simp at hl
      exact ⟨l.dropLast, l.getLast hne, (List.dropLast_concat_getLast hne).symm⟩
    have hl' : l'.length = j := by simpa using hl
    rw [scan_append] at hok ⊢
    by_cases hok' : (scanN bl m l' 0 0).2.2 = true
    · rw [if_pos hok'] at hok ⊢
      have hcnt := (scan_count bl m l' 0 0).2.2 hok'
      obtain ⟨v, hv⟩ : ∃ v, v = (scanN bl m l' 0 0).1 := ⟨_, rfl⟩
      obtain ⟨d, hd⟩ : ∃ d, d = (scanN bl m l' 0 0).2.1 := ⟨_, rfl⟩
      rw [← hv, ← hd] at hok ⊢
      rw [← hd] at hcnt
      simp only [scanN] at hok ⊢
      by_cases hh : Halts bl m v d (c.toNat : Int)
      · rw [if_pos hh] at hok; simp at hok
      · rw [if_neg hh]
        have k0 : ¬ ((c.toNat : Int) < 48) := fun hx => hh (.inl hx)
        have k1 : ¬ (57 < (c.toNat : Int)) := fun hx => hh (.inr (.inl hx))
        have k2 : ¬ ((c.toNat : Int) = 48 ∧ d = 0 ∧ bl = true) := fun hx => hh (.inr (.inr (.inl hx)))
        have k3 : ¬ (0 < d ∧ v = 0) := fun hx => hh (.inr (.inr (.inr (.inl hx))))
        have k4 : ¬ ((m - ((c.toNat : Int) - 48)) / 10 < v) := fun hx => hh (.inr (.inr (.inr (.inr hx))))
        have hc : c = UInt8.ofNat (48 + (c.toNat - 48)) := by
          apply UInt8.toNat_inj.1
          rw [UInt8.toNat_ofNat']
          have := c.toNat_lt
          omega
        by_cases hj : j = 0
        · have hnil : l' = [] := List.length_eq_zero_iff.1 (by omega)
          subst hnil
          have hv0 : v = 0 := hv
          have hd0 : d = 0 := hd
          subst hv0 hd0
          refine ⟨by omega, by omega, fun hb => ?_, ?_⟩
          · have : ¬ (c.toNat : Int) = 48 := fun hx => k2 ⟨hx, rfl, hb⟩
            omega
          · rw [show (0 * 10 + ((c.toNat : Int) - 48)).toNat = c.toNat - 48 by omega, Lib.decDigits_one (by omega), ← hc]
            rfl
        · have ih := scan_is bl m hm j l' hl' (by omega) hok'
          rw [← hv] at ih
          have hv1 : 1 ≤ v := by
            have : ¬ v = 0 := fun hx => k3 ⟨by omega, hx⟩
            omega
          refine ⟨by show 0 ≤ v * 10 + ((c.toNat : Int) - 48); omega, by show v * 10 + ((c.toNat : Int) - 48) ≤ m; omega, fun _ => by show 1 ≤ v * 10 + ((c.toNat : Int) - 48); omega, ?_⟩
          show l' ++ [c] = Lib.decDigits (v * 10 + ((c.toNat : Int) - 48)).toNat
          rw [dec_last _ (by omega), show (v * 10 + ((c.toNat : Int) - 48)).toNat / 10 = v.toNat by omega, show (v * 10 + ((c.toNat : Int) - 48)).toNat % 10 = c.toNat - 48 by omega, ← hc, ← ih.2.2.2]
    · rw [if_neg hok'] at hok
      exact absurd hok hok'
theorem told_cases (bl : Bool) (m : Int) (hm : 0 ≤ m) (hb : m = if bl then 9223372036854775808 else 9223372036854775807) (l : List UInt8) :
    ((told bl (scanN bl m l 0 0)).2.1 = 0 ∧ -9223372036854775808 ≤ (told bl (scanN bl m l 0 0)).1 ∧ (told bl (scanN bl m l 0 0)).1 ≤ 9223372036854775807 ∧ Lib.itoa (told bl (scanN bl m l 0 0)).1 = (if bl then 45 :: l else l)) ∨
    ((told bl (scanN bl m l 0 0)).2.1 = 10 ∧ (told bl (scanN bl m l 0 0)).1 = 0 ∧ 0 ≤ (told bl (scanN bl m l 0 0)).2.2 ∧ (told bl (scanN bl m l 0 0)).2.2 ≤ l.length + bit bl) := by
  have hc := scan_count bl m l 0 0
  have hbit : 0 ≤ bit bl := by cases bl <;> decide
  by_cases hok : (scanN bl m l 0 0).2.2 = true ∧ (scanN bl m l 0 0).2.1 ≠ 0
  · left
    have hl : 1 ≤ l.length := by have := hc.2.2 hok.1; have := hok.2; omega
    have k := scan_is bl m hm l.length l rfl hl hok.1
    rw [told_yes hok.1 hok.2 rfl]
    obtain ⟨v, hv⟩ : ∃ v, v = (scanN bl m l 0 0).1 := ⟨_, rfl⟩
    rw [← hv] at k ⊢
    obtain ⟨k0, k1, k2, k3⟩ := k
    cases bl with
    | true =>
      simp only [if_true] at hb
      have hv1 := k2 rfl
      have e : signed true v = -v := signed_below v k0 (by omega)
      refine ⟨rfl, by show _ ≤ signed true v; rw [e]; omega, by show signed true v ≤ _; rw [e]; omega, ?_⟩
      show Lib.itoa (signed true v) = 45 :: l
      rw [e]
      unfold Lib.itoa
      rw [if_pos (by omega), show (-v).natAbs = v.toNat by omega, ← k3]
    | false =>
      have hb' : m = 9223372036854775807 := by simpa using hb
      have e : signed false v = v := signed_above v k0 (by omega)
      refine ⟨rfl, by show _ ≤ signed false v; rw [e]; omega, by show signed false v ≤ _; rw [e]; omega, ?_⟩
      show Lib.itoa (signed false v) = l
      rw [e]
      unfold Lib.itoa
      rw [if_neg (by omega), ← k3]
  · right
    have hno : (scanN bl m l 0 0).2.2 = false ∨ (scanN bl m l 0 0).2.1 = 0 := by
      by_cases h : (scanN bl m l 0 0).2.2 = true
      · right
        apply Classical.byContradiction
        intro hx
        exact hok ⟨h, hx⟩
      · left; simpa using h
    rw [told_no hno rfl]
    refine ⟨rfl, rfl, ?_, ?_⟩
    · show 0 ≤ (scanN bl m l 0 0).2.1 + bit bl; omega
    · show (scanN bl m l 0 0).2.1 + bit bl ≤ _; omega
theorem parse_cases (l : List UInt8) : ((parseP l).2.1 = 0 ∧ -9223372036854775808 ≤ (parseP l).1 ∧ (parseP l).1 ≤ 9223372036854775807 ∧ Lib.itoa (parseP l).1 = l) ∨ ((parseP l).2.1 = 10 ∧ (parseP l).1 = 0 ∧ 0 ≤ (parseP l).2.2 ∧ (parseP l).2.2 ≤ l.length) := by
  unfold parseP
  split
  · rename_i r
    have k := told_cases true 9223372036854775808 (by decide) rfl r
    simp only [if_true, bit_t] at k
    rcases k with k | k
    · exact .inl k
    · refine .inr ⟨k.1, k.2.1, k.2.2.1, ?_⟩
      simp only [List.length_cons]
      omega
  · rename_i r
    have k := told_cases false 9223372036854775807 (by decide) rfl l
    simp only [bit_f] at k
    rcases k with k | k
    · exact .inl ⟨k.1, k.2.1, k.2.2.1, by simpa using k.2.2.2⟩
    · exact .inr ⟨k.1, k.2.1, k.2.2.1, by omega⟩
end Go.Proofs.YtgmcfinjlddgbaaGreatDoor
namespace Go.Proofs.YtgmcfinjlddgbaaGreatDoor
open Go.RowKit
set_option linter.unusedVariables false
set_option maxRecDepth 100000
theorem idx_app : ∀ (w r : List UInt8) (c : UInt8), c ∉ w → Lib.indexByte (w ++ c :: r) c = (w.length : Int)
  | [], r, c, _ => by simp [Lib.indexByte]
  | x :: w, r, c, h => by
    simp only [List.mem_cons, not_or] at h
    have h2 := idx_app w r c h.2
    have hx : (x == c) = false := by simpa using fun e => h.1 e.symm
    show (if x == c then 0 else if Lib.indexByte (w ++ c :: r) c == -1 then -1 else Lib.indexByte (w ++ c :: r) c + 1) = _
    rw [hx, h2]
    have hn : ((w.length : Int) == -1) = false := by
      have : (w.length : Int) ≠ -1 := by omega
      simp
    rw [hn]
    simp
theorem idx_no : ∀ (w : List UInt8) (c : UInt8), c ∉ w → Lib.indexByte w c = -1
  | [], c, _ => rfl
  | x :: w, c, h => by
    simp only [List.mem_cons, not_or] at h
    have hx : (x == c) = false := by simpa using fun e => h.1 e.symm
    show (if x == c then 0 else if Lib.indexByte w c == -1 then -1 else Lib.indexByte w c + 1) = _
    rw [hx, idx_no w c h.2]
    rfl
theorem ext_mk (l : List UInt8) (a b : Nat) : (⟨l.toArray⟩ : ByteArray).extract a b = ⟨((l.drop a).take (b - a)).toArray⟩ := by
  have h : ((⟨l.toArray⟩ : ByteArray).extract a b).data = ((l.drop a).take (b - a)).toArray := by
    rw [ByteArray.data_extract]
    apply Array.toList_inj.1
    rw [Array.toList_extract]
  exact congrArg ByteArray.mk h
theorem size_mk (l : List UInt8) : (⟨l.toArray⟩ : ByteArray).size = l.length := by simp [ByteArray.size]
theorem cut_app (w r : List UInt8) (c : UInt8) (h : c ∉ w) : cutA ⟨(w ++ c :: r).toArray⟩ c = (⟨w.toArray⟩, ⟨r.toArray⟩, true) := by
  unfold cutA
  have e : (⟨(w ++ c :: r).toArray⟩ : ByteArray).data.toList = w ++ c :: r := by simp
  rw [e, idx_app w r c h, if_pos (by omega)]
  rw [ext_mk, ext_mk, size_mk]
  simp
  rw [show w.length + (r.length + 1) - (w.length + 1) = r.length by omega, List.take_length]
theorem cut_no (w : List UInt8) (c : UInt8) (h : c ∉ w) : cutA ⟨w.toArray⟩ c = (⟨w.toArray⟩, ⟨#[]⟩, false) := by
  unfold cutA
  have e : (⟨w.toArray⟩ : ByteArray).data.toList = w := by simp
  rw [e, idx_no w c h, if_neg (by decide)]
/-- A reader of a line's words, by what is left of the line. -/
def stT (u : List UInt8) : Pst := match u with
  | [] => ⟨⟨#[]⟩, false, false⟩
  | _ :: r => ⟨⟨r.toArray⟩, true, false⟩
def Sp (u : List UInt8) : Prop := u = [] ∨ ∃ r, u = 32 :: r
theorem next_put (w u : List UInt8) (h : (32 : UInt8) ∉ w) (hu : Sp u) : nextS (stT (32 :: w ++ u)) = (⟨w.toArray⟩, stT u) := by
  show nextS ⟨⟨(w ++ u).toArray⟩, true, false⟩ = _
  unfold nextS
  rw [if_pos rfl]
  rcases hu with rfl | ⟨r, rfl⟩
  · simp only [List.append_nil]
    rw [cut_no w 32 h]
    rfl
  · simp only
    rw [cut_app w r 32 h]
    rfl
theorem pre_put (w : List UInt8) (c : UInt8) : preA ⟨(c :: w).toArray⟩ c = (⟨w.toArray⟩, true) := by
  unfold preA
  have e : (⟨(c :: w).toArray⟩ : ByteArray).data.toList = c :: w := by simp
  rw [e, if_pos (by simp [Lib.hasPrefix]), ext_mk, size_mk]
  simp
theorem dec_digit (n : Nat) : ∀ c ∈ Lib.decDigits n, 48 ≤ c.toNat ∧ c.toNat ≤ 57 := by
  induction n using Nat.strongRecOn with
  | _ n ih =>
    intro c hc
    have ho : ∀ k, k < 10 → (UInt8.ofNat (48 + k)).toNat = 48 + k := fun k hk => by rw [UInt8.toNat_ofNat']; omega
    rw [Lib.decDigits] at hc
    split at hc
    · next h =>
      rw [List.mem_singleton] at hc
      rw [hc, ho n h]
      omega
    · rcases List.mem_append.1 hc with h | h
      · exact ih (n / 10) (by omega) c h
      · rw [List.mem_singleton] at h
        rw [h, ho (n % 10) (by omega)]
        omega
theorem itoa_no (x : Int) (c : UInt8) (h : c = 32 ∨ c = 10) : c ∉ Lib.itoa x := by
  intro hm
  have hd : ∀ n, c ∉ Lib.decDigits n := fun n hn => by
    have h2 := dec_digit n c hn
    rcases h with rfl | rfl
    · exact absurd h2.1 (by decide)
    · exact absurd h2.1 (by decide)
  unfold Lib.itoa at hm
  split at hm
  · rcases List.mem_cons.1 hm with e | e
    · rcases h with rfl | rfl <;> cases e
    · exact hd _ e
  · exact hd _ hm
theorem val_put (x : Int) (hx : I64 x) (s : Pst) : valS ⟨(Lib.itoa x).toArray⟩ s = (x, s) := by
  unfold valS
  have e : (⟨(Lib.itoa x).toArray⟩ : ByteArray).data.toList = Lib.itoa x := by simp
  rw [e, parse_back x hx.1 hx.2]
  rfl
theorem siz_put (x : Int) (hx : I63 x) (s : Pst) : sizS ⟨(Lib.itoa x).toArray⟩ s = (x, s) := by
  unfold sizS
  rw [val_put x ⟨by have := hx.1; omega, hx.2⟩]
  simp only
  rw [if_neg (by have := hx.1; omega)]
theorem num_put (x : Int) (hx : I63 x) (u : List UInt8) (hu : Sp u) : numS' (stT (numT x ++ u)) = (x, stT u) := by
  unfold numS'
  rw [show numT x ++ u = 32 :: Lib.itoa x ++ u by rfl, next_put _ u (itoa_no x 32 (.inl rfl)) hu]
  exact siz_put x hx _
theorem wrd_put (x : Int) (hx : I64 x) (u : List UInt8) (hu : Sp u) : wdS (stT (wrdT x ++ u)) = (x, stT u) := by
  unfold wdS
  rw [show wrdT x ++ u = 32 :: Lib.itoa x ++ u by rfl, next_put _ u (itoa_no x 32 (.inl rfl)) hu]
  exact val_put x hx _
theorem beh_put (c : UInt8) (hc : c ≠ 32) (x : Int) (u : List UInt8) (hu : Sp u) : behS c (stT ([32, c] ++ Lib.itoa x ++ u)) = (⟨(Lib.itoa x).toArray⟩, stT u) := by
  unfold behS
  rw [show [32, c] ++ Lib.itoa x ++ u = 32 :: (c :: Lib.itoa x) ++ u by rfl, next_put _ u (by
    intro h
    rcases List.mem_cons.1 h with e | e
    · exact hc e.symm
    · exact itoa_no x 32 (.inl rfl) e) hu]
  simp only
  rw [pre_put]
  rfl
theorem reg_put (x : Int) (hx : I63 x) (u : List UInt8) (hu : Sp u) : regS' (stT (regT x ++ u)) = (x, stT u) := by
  unfold regS' regT
  rw [beh_put 114 (by decide) x u hu]
  exact siz_put x hx _
theorem ori_put (x : Int) (hx : I63 x) (h0 : x ≠ 0) (u : List UInt8) (hu : Sp u) : oriS (stT ([32, 64] ++ Lib.itoa x ++ u)) = (x, stT u) := by
  unfold oriS
  rw [beh_put 64 (by decide) x u hu]
  simp only
  rw [siz_put x hx]
  simp only
  rw [if_neg h0]
theorem sp_opt {u : Bool} {t r : List UInt8} (ht : Sp t) (hr : Sp r) : Sp ((bif u then t else []) ++ r) := by
  cases u with
  | true =>
    rcases ht with rfl | ⟨x, rfl⟩
    · exact hr
    · exact .inr ⟨_, rfl⟩
  | false => exact hr
set_option maxHeartbeats 2000000 in
theorem vS_put (i : Ins) (g : GI i) (r : List UInt8) (hr : Sp r) : vS (uB i.k i.o) 6 (stT (fldsT (uB i.k i.o) i 6 ++ r), insK i.k i.o) = (stT r, { i with fr := 0 }) := by
  obtain ⟨u, hu⟩ : ∃ u, u = uB i.k i.o := ⟨_, rfl⟩
  have gd := g.d
  have ga := g.a
  have gb := g.b
  have gad := g.ad
  have gtt := g.tt
  have gwd := g.wd
  rw [← hu] at gd ga gb gad gtt gwd ⊢
  have s5 : Sp r := hr
  have s4 : Sp ((bif hasB u 64 then wrdT i.wd else []) ++ r) := sp_opt (by first | exact .inr ⟨_, rfl⟩) s5
  have s3 : Sp ((bif hasB u 32 then numT i.tt else []) ++ ((bif hasB u 64 then wrdT i.wd else []) ++ r)) := sp_opt (by first | exact .inr ⟨_, rfl⟩) s4
  have s2 : Sp ((bif hasB u 16 then numT i.ad else []) ++ ((bif hasB u 32 then numT i.tt else []) ++ ((bif hasB u 64 then wrdT i.wd else []) ++ r))) := sp_opt (by first | exact .inr ⟨_, rfl⟩) s3
  have s1 : Sp ((bif hasB u 8 then regT i.b else []) ++ ((bif hasB u 16 then numT i.ad else []) ++ ((bif hasB u 32 then numT i.tt else []) ++ ((bif hasB u 64 then wrdT i.wd else []) ++ r)))) := sp_opt (by first | exact .inr ⟨_, rfl⟩) s2
  have s0 : Sp ((bif hasB u 4 then regT i.a else []) ++ ((bif hasB u 8 then regT i.b else []) ++ ((bif hasB u 16 then numT i.ad else []) ++ ((bif hasB u 32 then numT i.tt else []) ++ ((bif hasB u 64 then wrdT i.wd else []) ++ r))))) := sp_opt (by first | exact .inr ⟨_, rfl⟩) s1
  have e1 : vS u 1 (stT ((bif hasB u 2 then regT i.d else []) ++ ((bif hasB u 4 then regT i.a else []) ++ ((bif hasB u 8 then regT i.b else []) ++ ((bif hasB u 16 then numT i.ad else []) ++ ((bif hasB u 32 then numT i.tt else []) ++ ((bif hasB u 64 then wrdT i.wd else []) ++ r)))))), insK i.k i.o) = (stT ((bif hasB u 4 then regT i.a else []) ++ ((bif hasB u 8 then regT i.b else []) ++ ((bif hasB u 16 then numT i.ad else []) ++ ((bif hasB u 32 then numT i.tt else []) ++ ((bif hasB u 64 then wrdT i.wd else []) ++ r))))), (⟨i.k, i.o, i.d, 0, 0, 0, 0, 0, 0⟩ : Ins)) := by
    show (bif hasB u 2 then stepF 0 ((stT ((bif hasB u 2 then regT i.d else []) ++ ((bif hasB u 4 then regT i.a else []) ++ ((bif hasB u 8 then regT i.b else []) ++ ((bif hasB u 16 then numT i.ad else []) ++ ((bif hasB u 32 then numT i.tt else []) ++ ((bif hasB u 64 then wrdT i.wd else []) ++ r)))))), insK i.k i.o)) else (stT ((bif hasB u 2 then regT i.d else []) ++ ((bif hasB u 4 then regT i.a else []) ++ ((bif hasB u 8 then regT i.b else []) ++ ((bif hasB u 16 then numT i.ad else []) ++ ((bif hasB u 32 then numT i.tt else []) ++ ((bif hasB u 64 then wrdT i.wd else []) ++ r)))))), insK i.k i.o)) = _
    cases hb : hasB u 2 with
    | true =>
      rw [hb] at gd
      have hx := reg_put i.d gd ((bif hasB u 4 then regT i.a else []) ++ ((bif hasB u 8 then regT i.b else []) ++ ((bif hasB u 16 then numT i.ad else []) ++ ((bif hasB u 32 then numT i.tt else []) ++ ((bif hasB u 64 then wrdT i.wd else []) ++ r))))) s0
      simp only [cond_true]
      simp only [stepF, hx, insK]
    | false =>
      rw [hb] at gd
      have h0 : i.d = 0 := gd
      rw [h0]
      rfl
  have e2 : vS u 2 (stT ((bif hasB u 2 then regT i.d else []) ++ ((bif hasB u 4 then regT i.a else []) ++ ((bif hasB u 8 then regT i.b else []) ++ ((bif hasB u 16 then numT i.ad else []) ++ ((bif hasB u 32 then numT i.tt else []) ++ ((bif hasB u 64 then wrdT i.wd else []) ++ r)))))), insK i.k i.o) = (stT ((bif hasB u 8 then regT i.b else []) ++ ((bif hasB u 16 then numT i.ad else []) ++ ((bif hasB u 32 then numT i.tt else []) ++ ((bif hasB u 64 then wrdT i.wd else []) ++ r)))), (⟨i.k, i.o, i.d, i.a, 0, 0, 0, 0, 0⟩ : Ins)) := by
    show (bif hasB u 4 then stepF 1 (vS u 1 (stT ((bif hasB u 2 then regT i.d else []) ++ ((bif hasB u 4 then regT i.a else []) ++ ((bif hasB u 8 then regT i.b else []) ++ ((bif hasB u 16 then numT i.ad else []) ++ ((bif hasB u 32 then numT i.tt else []) ++ ((bif hasB u 64 then wrdT i.wd else []) ++ r)))))), insK i.k i.o)) else vS u 1 (stT ((bif hasB u 2 then regT i.d else []) ++ ((bif hasB u 4 then regT i.a else []) ++ ((bif hasB u 8 then regT i.b else []) ++ ((bif hasB u 16 then numT i.ad else []) ++ ((bif hasB u 32 then numT i.tt else []) ++ ((bif hasB u 64 then wrdT i.wd else []) ++ r)))))), insK i.k i.o)) = _
    rw [e1]
    cases hb : hasB u 4 with
    | true =>
      rw [hb] at ga
      have hx := reg_put i.a ga ((bif hasB u 8 then regT i.b else []) ++ ((bif hasB u 16 then numT i.ad else []) ++ ((bif hasB u 32 then numT i.tt else []) ++ ((bif hasB u 64 then wrdT i.wd else []) ++ r)))) s1
      simp only [cond_true]
      simp only [stepF, hx]
    | false =>
      rw [hb] at ga
      have h0 : i.a = 0 := ga
      rw [h0]
      rfl
  have e3 : vS u 3 (stT ((bif hasB u 2 then regT i.d else []) ++ ((bif hasB u 4 then regT i.a else []) ++ ((bif hasB u 8 then regT i.b else []) ++ ((bif hasB u 16 then numT i.ad else []) ++ ((bif hasB u 32 then numT i.tt else []) ++ ((bif hasB u 64 then wrdT i.wd else []) ++ r)))))), insK i.k i.o) = (stT ((bif hasB u 16 then numT i.ad else []) ++ ((bif hasB u 32 then numT i.tt else []) ++ ((bif hasB u 64 then wrdT i.wd else []) ++ r))), (⟨i.k, i.o, i.d, i.a, i.b, 0, 0, 0, 0⟩ : Ins)) := by
    show (bif hasB u 8 then stepF 2 (vS u 2 (stT ((bif hasB u 2 then regT i.d else []) ++ ((bif hasB u 4 then regT i.a else []) ++ ((bif hasB u 8 then regT i.b else []) ++ ((bif hasB u 16 then numT i.ad else []) ++ ((bif hasB u 32 then numT i.tt else []) ++ ((bif hasB u 64 then wrdT i.wd else []) ++ r)))))), insK i.k i.o)) else vS u 2 (stT ((bif hasB u 2 then regT i.d else []) ++ ((bif hasB u 4 then regT i.a else []) ++ ((bif hasB u 8 then regT i.b else []) ++ ((bif hasB u 16 then numT i.ad else []) ++ ((bif hasB u 32 then numT i.tt else []) ++ ((bif hasB u 64 then wrdT i.wd else []) ++ r)))))), insK i.k i.o)) = _
    rw [e2]
    cases hb : hasB u 8 with
    | true =>
      rw [hb] at gb
      have hx := reg_put i.b gb ((bif hasB u 16 then numT i.ad else []) ++ ((bif hasB u 32 then numT i.tt else []) ++ ((bif hasB u 64 then wrdT i.wd else []) ++ r))) s2
      simp only [cond_true]
      simp only [stepF, hx]
    | false =>
      rw [hb] at gb
      have h0 : i.b = 0 := gb
      rw [h0]
      rfl
  have e4 : vS u 4 (stT ((bif hasB u 2 then regT i.d else []) ++ ((bif hasB u 4 then regT i.a else []) ++ ((bif hasB u 8 then regT i.b else []) ++ ((bif hasB u 16 then numT i.ad else []) ++ ((bif hasB u 32 then numT i.tt else []) ++ ((bif hasB u 64 then wrdT i.wd else []) ++ r)))))), insK i.k i.o) = (stT ((bif hasB u 32 then numT i.tt else []) ++ ((bif hasB u 64 then wrdT i.wd else []) ++ r)), (⟨i.k, i.o, i.d, i.a, i.b, i.ad, 0, 0, 0⟩ : Ins)) := by
    show (bif hasB u 16 then stepF 3 (vS u 3 (stT ((bif hasB u 2 then regT i.d else []) ++ ((bif hasB u 4 then regT i.a else []) ++ ((bif hasB u 8 then regT i.b else []) ++ ((bif hasB u 16 then numT i.ad else []) ++ ((bif hasB u 32 then numT i.tt else []) ++ ((bif hasB u 64 then wrdT i.wd else []) ++ r)))))), insK i.k i.o)) else vS u 3 (stT ((bif hasB u 2 then regT i.d else []) ++ ((bif hasB u 4 then regT i.a else []) ++ ((bif hasB u 8 then regT i.b else []) ++ ((bif hasB u 16 then numT i.ad else []) ++ ((bif hasB u 32 then numT i.tt else []) ++ ((bif hasB u 64 then wrdT i.wd else []) ++ r)))))), insK i.k i.o)) = _
    rw [e3]
    cases hb : hasB u 16 with
    | true =>
      rw [hb] at gad
      have hx := num_put i.ad gad ((bif hasB u 32 then numT i.tt else []) ++ ((bif hasB u 64 then wrdT i.wd else []) ++ r)) s3
      simp only [cond_true]
      simp only [stepF, hx]
    | false =>
      rw [hb] at gad
      have h0 : i.ad = 0 := gad
      rw [h0]
      rfl
  have e5 : vS u 5 (stT ((bif hasB u 2 then regT i.d else []) ++ ((bif hasB u 4 then regT i.a else []) ++ ((bif hasB u 8 then regT i.b else []) ++ ((bif hasB u 16 then numT i.ad else []) ++ ((bif hasB u 32 then numT i.tt else []) ++ ((bif hasB u 64 then wrdT i.wd else []) ++ r)))))), insK i.k i.o) = (stT ((bif hasB u 64 then wrdT i.wd else []) ++ r), (⟨i.k, i.o, i.d, i.a, i.b, i.ad, i.tt, 0, 0⟩ : Ins)) := by
    show (bif hasB u 32 then stepF 4 (vS u 4 (stT ((bif hasB u 2 then regT i.d else []) ++ ((bif hasB u 4 then regT i.a else []) ++ ((bif hasB u 8 then regT i.b else []) ++ ((bif hasB u 16 then numT i.ad else []) ++ ((bif hasB u 32 then numT i.tt else []) ++ ((bif hasB u 64 then wrdT i.wd else []) ++ r)))))), insK i.k i.o)) else vS u 4 (stT ((bif hasB u 2 then regT i.d else []) ++ ((bif hasB u 4 then regT i.a else []) ++ ((bif hasB u 8 then regT i.b else []) ++ ((bif hasB u 16 then numT i.ad else []) ++ ((bif hasB u 32 then numT i.tt else []) ++ ((bif hasB u 64 then wrdT i.wd else []) ++ r)))))), insK i.k i.o)) = _
    rw [e4]
    cases hb : hasB u 32 with
    | true =>
      rw [hb] at gtt
      have hx := num_put i.tt gtt ((bif hasB u 64 then wrdT i.wd else []) ++ r) s4
      simp only [cond_true]
      simp only [stepF, hx]
    | false =>
      rw [hb] at gtt
      have h0 : i.tt = 0 := gtt
      rw [h0]
      rfl
  have e6 : vS u 6 (stT ((bif hasB u 2 then regT i.d else []) ++ ((bif hasB u 4 then regT i.a else []) ++ ((bif hasB u 8 then regT i.b else []) ++ ((bif hasB u 16 then numT i.ad else []) ++ ((bif hasB u 32 then numT i.tt else []) ++ ((bif hasB u 64 then wrdT i.wd else []) ++ r)))))), insK i.k i.o) = (stT r, (⟨i.k, i.o, i.d, i.a, i.b, i.ad, i.tt, i.wd, 0⟩ : Ins)) := by
    show (bif hasB u 64 then stepF 5 (vS u 5 (stT ((bif hasB u 2 then regT i.d else []) ++ ((bif hasB u 4 then regT i.a else []) ++ ((bif hasB u 8 then regT i.b else []) ++ ((bif hasB u 16 then numT i.ad else []) ++ ((bif hasB u 32 then numT i.tt else []) ++ ((bif hasB u 64 then wrdT i.wd else []) ++ r)))))), insK i.k i.o)) else vS u 5 (stT ((bif hasB u 2 then regT i.d else []) ++ ((bif hasB u 4 then regT i.a else []) ++ ((bif hasB u 8 then regT i.b else []) ++ ((bif hasB u 16 then numT i.ad else []) ++ ((bif hasB u 32 then numT i.tt else []) ++ ((bif hasB u 64 then wrdT i.wd else []) ++ r)))))), insK i.k i.o)) = _
    rw [e5]
    cases hb : hasB u 64 with
    | true =>
      rw [hb] at gwd
      have hx := wrd_put i.wd gwd r s5
      simp only [cond_true]
      simp only [stepF, hx]
    | false =>
      rw [hb] at gwd
      have h0 : i.wd = 0 := gwd
      rw [h0]
      rfl
  have ef : fldsT u i 6 ++ r = ((bif hasB u 2 then regT i.d else []) ++ ((bif hasB u 4 then regT i.a else []) ++ ((bif hasB u 8 then regT i.b else []) ++ ((bif hasB u 16 then numT i.ad else []) ++ ((bif hasB u 32 then numT i.tt else []) ++ ((bif hasB u 64 then wrdT i.wd else []) ++ r)))))) := by simp only [fldsT, fldT, List.append_assoc, List.nil_append]
  rw [ef]
  exact e6
def frT (i : Ins) : List UInt8 := if i.fr = 0 then [] else [32, 64] ++ Lib.itoa i.fr
theorem insS_put (i : Ins) (g : GI i) : insS (stT (fldsT (uB i.k i.o) i 6 ++ frT i)) (insK i.k i.o) = (stT [], i) := by
  have hk : (insK i.k i.o).k = i.k ∧ (insK i.k i.o).o = i.o := ⟨rfl, rfl⟩
  unfold insS
  rw [hk.1, hk.2]
  by_cases h0 : i.fr = 0
  · have hf : frT i = [] := by unfold frT; rw [if_pos h0]
    rw [hf, vS_put i g [] (.inl rfl)]
    show (stT [], ({ i with fr := 0 } : Ins)) = _
    rw [← h0]
  · have hf : frT i = [32, 64] ++ Lib.itoa i.fr ++ [] := by unfold frT; rw [if_neg h0, List.append_nil]
    have hsp : Sp (frT i) := by rw [hf]; exact .inr ⟨_, rfl⟩
    rw [vS_put i g (frT i) hsp]
    have hm : (stT (frT i)).more = true := by rw [hf]; rfl
    simp only
    rw [hm]
    simp only [cond_true]
    rw [hf, ori_put i.fr g.fr h0 [] (.inl rfl)]
def wdK (k o : Int) : List UInt8 := if k = 2 then opTx.getD o.toNat [] else formTx.getD k.toNat []
theorem beg_put (i : Ins) {code mem : Int} (h : rightB i code mem = true) (ho : 0 ≤ i.o ∧ i.o ≤ 255) : begS (wdT i) = (insK i.k i.o, true) ∧ wdT i ≠ corN ∧ (32 : UInt8) ∉ wdT i ∧ (10 : UInt8) ∉ wdT i := by
  simp only [rightB, Bool.and_eq_true] at h
  have hk := kB_iff.1 h.1
  have h3 := h.2.2.1
  obtain ⟨k, o, _, _, _, _, _, _, _⟩ := i
  simp only at hk h3 ho
  show begS (wdK k o) = (insK k o, true) ∧ wdK k o ≠ corN ∧ (32 : UInt8) ∉ wdK k o ∧ (10 : UInt8) ∉ wdK k o
  unfold opB at h3
  by_cases h2 : k = 2
  · subst h2
    have h3 : decide (0 < levelOf o) = true := h3
    simp only [decide_eq_true_eq] at h3
    have ho2 : 1 ≤ o ∧ o ≤ 18 := by
      unfold levelOf at h3
      split at h3
      · omega
      · refine ⟨?_, by omega⟩
        rcases Int.lt_or_le 0 o with h | h
        · omega
        · obtain rfl : o = 0 := by omega
          exact absurd h3 (by decide)
    have ho3 : o = 1 ∨ o = 2 ∨ o = 3 ∨ o = 4 ∨ o = 5 ∨ o = 6 ∨ o = 7 ∨ o = 8 ∨ o = 9 ∨ o = 10 ∨ o = 11 ∨ o = 12 ∨ o = 13 ∨ o = 14 ∨ o = 15 ∨ o = 16 ∨ o = 17 ∨ o = 18 := by omega
    rcases ho3 with rfl | rfl | rfl | rfl | rfl | rfl | rfl | rfl | rfl | rfl | rfl | rfl | rfl | rfl | rfl | rfl | rfl | rfl
    all_goals exact ⟨by rfl, by decide, by decide, by decide⟩
  · have h4 : o = 0 := by
      have hq : (k == 2) = false := by simpa using h2
      rw [hq] at h3
      have h3 : (o == 0) = true := h3
      exact eq_of_beq h3
    subst h4
    rcases hk with rfl | rfl | rfl | rfl | rfl | rfl | rfl | rfl | rfl | rfl
    all_goals first | exact absurd rfl h2 | exact ⟨by rfl, by decide, by decide, by decide⟩
/-- Lines, each with its LF. -/
def joinL (l : List (List UInt8)) : List UInt8 := l.flatMap fun x => x ++ [10]
def runL : List (List UInt8) → Nat → Ob → Option Ob
  | [], _, o => some o
  | l :: r, k, o => if (lnS k ⟨l.toArray⟩ o).1 = true then runL r (k + 1) (lnS k ⟨l.toArray⟩ o).2 else none
theorem run_app : ∀ (l r : List (List UInt8)) (k : Nat) (o o' : Ob), runL l k o = some o' → runL (l ++ r) k o = runL r (k + l.length) o'
  | [], r, k, o, o', h => by
    simp only [runL, Option.some.injEq] at h
    rw [← h]
    rfl
  | x :: l, r, k, o, o', h => by
    unfold runL at h
    show (if (lnS k ⟨x.toArray⟩ o).1 = true then runL (l ++ r) (k + 1) (lnS k ⟨x.toArray⟩ o).2 else none) = _
    by_cases hx : (lnS k ⟨x.toArray⟩ o).1 = true
    · rw [if_pos hx] at h ⊢
      rw [run_app l r (k + 1) _ o' h, List.length_cons, show k + 1 + l.length = k + (l.length + 1) by omega]
    · rw [if_neg hx] at h; cases h
theorem tx_run (s : ByteArray) : ∀ (Ls : List (List UInt8)) (n k a : Nat) (o o' : Ob), s.data.toList.drop a = joinL Ls → (∀ l ∈ Ls, (10 : UInt8) ∉ l) → Ls.length < n → 2 ≤ k + Ls.length → a ≤ s.size → runL Ls k o = some o' → txS s n k a o = (((0 : Int), true), o')
  | [], n, k, a, o, o', hd, _, _, hk, ha, hr => by
    have h1 : s.size ≤ a := by
      have h2 := List.drop_eq_nil_iff.1 (show s.data.toList.drop a = [] from hd)
      rw [Array.length_toList] at h2
      exact h2
    simp only [runL, Option.some.injEq] at hr
    rw [txS_stop s n k a o (by simp only [List.length_nil] at hk; omega), hr]
  | l :: r, n + 1, k, a, o, o', hd, hl, hn, hk, ha, hr => by
    have hd2 : s.data.toList.drop a = l ++ 10 :: joinL r := by
      rw [hd]
      show (l ++ [10]) ++ joinL r = _
      rw [List.append_assoc]
      rfl
    have hlen : s.size - a = l.length + (joinL r).length + 1 := by
      have := congrArg List.length hd2
      rw [List.length_drop, Array.length_toList] at this
      simp only [List.length_append, List.length_cons] at this
      show s.data.size - a = _
      omega
    have he : s.extract a s.size = ⟨(l ++ 10 :: joinL r).toArray⟩ := by
      have h1 := ext_mk s.data.toList a s.size
      have h2 : (⟨s.data.toList.toArray⟩ : ByteArray) = s := by simp
      rw [h2] at h1
      rw [h1, hd2, List.take_of_length_le]
      simp only [List.length_append, List.length_cons]
      omega
    have hcut := cut_app l (joinL r) 10 (hl l (by simp))
    have hw : (cutA (s.extract a s.size) 10).2.2 = true := by rw [he, hcut]
    have hf : (cutA (s.extract a s.size) 10).1 = ⟨l.toArray⟩ := by rw [he, hcut]
    unfold runL at hr
    by_cases hx : (lnS k ⟨l.toArray⟩ o).1 = true
    · rw [if_pos hx] at hr
      rw [txS_step s n k a o (by omega) hw (by rw [hf]; exact hx), hf, size_mk]
      refine tx_run s r n (k + 1) (a + l.length + 1) _ o' ?_ (fun x hx => hl x (by simp [hx])) (by simp only [List.length_cons] at hn; omega) (by simp only [List.length_cons] at hk; omega) (by omega) hr
      have h3 := congrArg (List.drop (l.length + 1)) hd2
      rw [List.drop_drop] at h3
      rw [show a + l.length + 1 = a + (l.length + 1) by omega, h3, List.drop_append]
      simp
    · rw [if_neg hx] at hr; cases hr
  | l :: r, 0, k, a, o, o', _, _, hn, _, _, _ => by simp at hn
theorem toL (l : List UInt8) : (⟨l.toArray⟩ : ByteArray).data.toList = l := by simp
theorem keep_put {α : Type} {l : List α} {x : α} {n : Nat} (h : l.length ≤ n) : keepL l x n = l ++ [x] := by
  unfold keepL
  rw [if_neg (by omega)]
theorem fst_word (w u : List UInt8) (h : (32 : UInt8) ∉ w) (hu : Sp u) : nextS ⟨⟨(w ++ u).toArray⟩, true, false⟩ = (⟨w.toArray⟩, stT u) := next_put w u h hu
/-- The first line. -/
theorem ln_head (o : Ob) (sh lk bf : Int) (h1 : I63 sh) (h2 : I63 lk) (h3 : I63 bf) : lnS 0 ⟨(objN ++ (numT sh ++ (numT lk ++ numT bf))).toArray⟩ o = (true, { o with sh := sh, lk := lk, bf := bf }) := by
  have e := fst_word objN (numT sh ++ (numT lk ++ numT bf)) (by decide) (.inr ⟨_, rfl⟩)
  unfold lnS
  rw [if_pos rfl, e]
  simp only
  rw [if_pos trivial]
  have e1 : numS' (stT (numT sh ++ (numT lk ++ numT bf))) = (sh, stT (numT lk ++ numT bf)) := num_put sh h1 _ (.inr ⟨_, rfl⟩)
  have e2 : numS' (stT (numT lk ++ numT bf)) = (lk, stT (numT bf)) := num_put lk h2 _ (.inr ⟨_, rfl⟩)
  have e3 : numS' (stT (numT bf)) = (bf, stT []) := by
    have := num_put bf h3 [] (.inl rfl)
    rwa [List.append_nil] at this
  have hh : hdS 3 (stT (numT sh ++ (numT lk ++ numT bf)), o) = (stT [], { o with sh := sh, lk := lk, bf := bf }) := by
    show hdF 2 (hdF 1 (hdF 0 (stT (numT sh ++ (numT lk ++ numT bf)), o))) = _
    simp only [hdF, e1, e2, e3]
  rw [hh]
  rfl
theorem mm_put : ∀ (l : List Int) (n : Nat) (o : Ob), (∀ x ∈ l, I64 x) → l.length < n → o.mem.length + l.length ≤ 4097 → mmS n (stT (memT l), o) = (stT [], { o with mem := o.mem ++ l })
  | [], n, o, _, hn, _ => by
    rw [List.append_nil]
    cases n with
    | zero => rfl
    | succ n =>
      show (if (stT []).more = true then _ else _) = _
      rw [if_neg (by simp [stT])]
      rfl
  | x :: l, n + 1, o, hx, hn, hm => by
    show (if (stT (wrdT x ++ memT l)).more = true then mmS n (mmF (stT (wrdT x ++ memT l), o)) else _) = _
    rw [if_pos (show (stT (wrdT x ++ memT l)).more = true from rfl)]
    have hsp : Sp (memT l) := by
      cases l with
      | nil => exact .inl rfl
      | cons y l => exact .inr ⟨_, rfl⟩
    have e := wrd_put x (hx x (by simp)) (memT l) hsp
    have hf : mmF (stT (wrdT x ++ memT l), o) = (stT (memT l), { o with mem := o.mem ++ [x] }) := by
      unfold mmF
      simp only [e]
      rw [keep_put (by simp only [List.length_cons] at hm; omega)]
    rw [hf, mm_put l n _ (fun y hy => hx y (by simp [hy])) (by simp only [List.length_cons] at hn; omega) (by simp only [List.length_append, List.length_cons, List.length_nil] at hm ⊢; omega)]
    simp
  | x :: l, 0, o, _, hn, _ => by simp at hn
theorem memT_len (l : List Int) : l.length ≤ (memT l).length := by
  induction l with
  | nil => simp
  | cons x l ih =>
    show l.length + 1 ≤ (wrdT x ++ memT l).length
    simp only [wrdT, List.length_append, List.length_cons]
    omega
theorem ln_mem (o : Ob) (l : List Int) (hx : ∀ x ∈ l, I64 x) (h0 : o.mem = []) (hl : l.length ≤ 4096) : lnS 1 ⟨(memN ++ memT l).toArray⟩ o = (true, { o with mem := l }) := by
  have hsp : Sp (memT l) := by
    cases l with
    | nil => exact .inl rfl
    | cons y l => exact .inr ⟨_, rfl⟩
  have e := fst_word memN (memT l) (by decide) hsp
  unfold lnS
  rw [if_neg (by decide), if_pos rfl, e]
  simp only
  rw [if_pos trivial, mm_put l _ o hx (by rw [size_mk, List.length_append]; have := memT_len l; omega) (by rw [h0]; simp only [List.length_nil]; omega), h0]
  rfl
theorem ln_core (k : Nat) (hk : 2 ≤ k) (o : Ob) (nm : ByteArray) (hn : (32 : UInt8) ∉ nm.data.toList) (hl : o.cores.length ≤ 8) : lnS k ⟨(corN ++ 32 :: nm.data.toList).toArray⟩ o = (true, { o with cores := o.cores ++ [⟨nm, []⟩] }) := by
  have e := fst_word corN (32 :: nm.data.toList) (by decide) (.inr ⟨_, rfl⟩)
  have e2 := next_put nm.data.toList [] hn (.inl rfl)
  rw [List.append_nil] at e2
  unfold lnS
  rw [if_neg (by omega), if_neg (by omega), e]
  simp only
  rw [if_pos trivial]
  have hc : coS (stT (32 :: nm.data.toList), o) = (stT [], { o with cores := o.cores ++ [⟨nm, []⟩] }) := by
    unfold coS
    simp only [e2]
    rw [keep_put hl]
  rw [hc]
  rfl
theorem ln_ins (k : Nat) (hk : 2 ≤ k) (o : Ob) (i : Ins) {code mem : Int} (hr : rightB i code mem = true) (g : GI i) (pre : List Cor) (c : Cor) (ho : o.cores = pre ++ [c]) (hl : c.code.length ≤ 16384) : lnS k ⟨(insT i).toArray⟩ o = (true, { o with cores := pre ++ [⟨c.name, c.code ++ [i]⟩] }) := by
  obtain ⟨b1, b2, b3, b4⟩ := beg_put i hr ⟨(rgI_of g).2.1.1, (rgI_of g).2.1.2⟩
  have hsp : Sp (fldsT (uB i.k i.o) i 6 ++ frT i) := by
    simp only [fldsT, fldT, List.append_assoc, List.nil_append]
    have hf : Sp (frT i) := by
      unfold frT
      split
      · exact .inl rfl
      · exact .inr ⟨_, rfl⟩
    exact sp_opt (.inr ⟨_, rfl⟩) (sp_opt (.inr ⟨_, rfl⟩) (sp_opt (.inr ⟨_, rfl⟩) (sp_opt (.inr ⟨_, rfl⟩) (sp_opt (.inr ⟨_, rfl⟩) (sp_opt (.inr ⟨_, rfl⟩) hf)))))
  have et : insT i = wdT i ++ (fldsT (uB i.k i.o) i 6 ++ frT i) := by
    unfold insT frT
    rw [List.append_assoc]
  have e := fst_word (wdT i) _ b3 hsp
  unfold lnS
  rw [if_neg (by omega), if_neg (by omega), et, e]
  simp only
  rw [if_neg b2, if_neg (by rw [ho]; simp)]
  unfold inS
  simp only [b1, cond_true]
  rw [insS_put i g]
  have hp : pushI o.cores i = pre ++ [⟨c.name, c.code ++ [i]⟩] := by
    unfold pushI
    rw [ho, List.getLast?_append]
    simp only [List.getLast?_singleton, Option.some_or]
    rw [List.dropLast_concat, keep_put hl]
  rw [hp]
  rfl
theorem run_code (mem : Int) : ∀ (l : List Ins) (code : Int) (k : Nat) (o : Ob) (pre : List Cor) (c : Cor), 2 ≤ k → (∀ i ∈ l, rightB i code mem = true ∧ GI i) → o.cores = pre ++ [c] → c.code.length + l.length ≤ 16384 → runL (l.map insT) k o = some { o with cores := pre ++ [⟨c.name, c.code ++ l⟩] }
  | [], code, k, o, pre, c, _, _, ho, _ => by
    rw [List.append_nil, ← ho]
    rfl
  | i :: l, code, k, o, pre, c, hk, hi, ho, hl => by
    have e := ln_ins k hk o i (hi i (by simp)).1 (hi i (by simp)).2 pre c ho (by omega)
    show (if (lnS k ⟨(insT i).toArray⟩ o).1 = true then runL (l.map insT) (k + 1) (lnS k ⟨(insT i).toArray⟩ o).2 else none) = _
    rw [e, if_pos rfl]
    have h2 := run_code mem l code (k + 1) { o with cores := pre ++ [⟨c.name, c.code ++ [i]⟩] } pre ⟨c.name, c.code ++ [i]⟩ (by omega) (fun j hj => hi j (by simp [hj])) rfl (by simp only [List.length_append, List.length_cons, List.length_nil] at hl ⊢; omega)
    simp only [h2]
    simp
def corL (c : Cor) : List (List UInt8) := (corN ++ 32 :: c.name.data.toList) :: c.code.map insT
theorem run_cors (mem : Int) : ∀ (l : List Cor) (k : Nat) (o : Ob), 2 ≤ k → (∀ c ∈ l, (32 : UInt8) ∉ c.name.data.toList ∧ c.code.length ≤ 16384 ∧ ∀ i ∈ c.code, rightB i c.code.length mem = true ∧ GI i) → o.cores.length + l.length ≤ 8 → runL (l.flatMap corL) k o = some { o with cores := o.cores ++ l }
  | [], k, o, _, _, _ => by simp [runL]
  | c :: l, k, o, hk, hc, hl => by
    obtain ⟨h1, h2, h3⟩ := hc c (by simp)
    have e := ln_core k hk o c.name h1 (by omega)
    have e2 : runL (corL c) k o = some { o with cores := o.cores ++ [c] } := by
      show (if (lnS k ⟨(corN ++ 32 :: c.name.data.toList).toArray⟩ o).1 = true then runL (c.code.map insT) (k + 1) (lnS k ⟨(corN ++ 32 :: c.name.data.toList).toArray⟩ o).2 else none) = _
      rw [e, if_pos rfl]
      have h4 := run_code mem c.code c.code.length (k + 1) { o with cores := o.cores ++ [⟨c.name, []⟩] } o.cores ⟨c.name, []⟩ (by omega) h3 rfl (by simp only [List.length_nil]; omega)
      simp only [h4]
      rfl
    rw [List.flatMap_cons, run_app _ _ _ _ _ e2, run_cors mem l _ _ (by omega) (fun x hx => hc x (by simp [hx])) (by simp only [List.length_append, List.length_cons, List.length_nil] at hl ⊢; omega)]
    simp
theorem span_all (p : Int → Bool) : ∀ l : List UInt8, spanN p l = l.length → ∀ x ∈ l, p (x.toNat : Int) = true
  | [], _ => by simp
  | c :: l, h => by
    unfold spanN at h
    by_cases hc : p (c.toNat : Int) = true
    · rw [if_pos hc, List.length_cons] at h
      intro x hx
      rcases List.mem_cons.1 hx with rfl | hx
      · exact hc
      · exact span_all p l (by omega) x hx
    · rw [if_neg hc, List.length_cons] at h
      omega
theorem name_no {s : ByteArray} (h : nameB s = true) (c : UInt8) (hc : namedB (c.toNat : Int) = false) : c ∉ s.data.toList := fun hm => by
  simp only [nameB, Bool.and_eq_true, decide_eq_true_eq] at h
  have h2 := span_all namedB s.data.toList (by rw [h.2.2.2.2, Array.length_toList]; rfl) c hm
  rw [hc] at h2
  cases h2
theorem ten_opt {u : Bool} {t : List UInt8} (h : (10 : UInt8) ∉ t) : (10 : UInt8) ∉ (bif u then t else []) := by
  cases u with
  | true => exact h
  | false => simp
theorem ten_num (x : Int) : (10 : UInt8) ∉ numT x ∧ (10 : UInt8) ∉ wrdT x ∧ (10 : UInt8) ∉ regT x := by
  have h := itoa_no x 10 (.inr rfl)
  refine ⟨?_, ?_, ?_⟩
  · simp [numT, h]
  · simp [wrdT, h]
  · simp [regT, h]
theorem ten_ins (i : Ins) {code mem : Int} (hr : rightB i code mem = true) (g : GI i) : (10 : UInt8) ∉ insT i := by
  obtain ⟨_, _, _, b4⟩ := beg_put i hr ⟨(rgI_of g).2.1.1, (rgI_of g).2.1.2⟩
  have hf : (10 : UInt8) ∉ (if i.fr = 0 then [] else [32, 64] ++ Lib.itoa i.fr) := by
    have h := itoa_no i.fr 10 (.inr rfl)
    split
    · simp
    · simp [h]
  unfold insT
  simp only [fldsT, fldT, List.mem_append, not_or, List.nil_append]
  exact ⟨⟨b4, ⟨⟨⟨⟨⟨ten_opt (ten_num _).2.2, ten_opt (ten_num _).2.2⟩, ten_opt (ten_num _).2.2⟩, ten_opt (ten_num _).1⟩, ten_opt (ten_num _).1⟩, ten_opt (ten_num _).2.1⟩⟩, hf⟩
def obL (o : Ob) : List (List UInt8) := (objN ++ (numT o.sh ++ (numT o.lk ++ numT o.bf))) :: (memN ++ memT o.mem) :: o.cores.flatMap corL
theorem join_code (l : List Ins) : joinL (l.map insT) = codeT l := by
  unfold joinL codeT
  rw [List.flatMap_map]
theorem join_cons (x : List UInt8) (l : List (List UInt8)) : joinL (x :: l) = x ++ [10] ++ joinL l := rfl
theorem join_app (a b : List (List UInt8)) : joinL (a ++ b) = joinL a ++ joinL b := by
  unfold joinL
  rw [List.flatMap_append]
theorem join_cors (l : List Cor) : joinL (l.flatMap corL) = l.flatMap corT := by
  induction l with
  | nil => rfl
  | cons c l ih =>
    rw [List.flatMap_cons, List.flatMap_cons, join_app, ih]
    congr 1
    unfold corL corT
    rw [join_cons, join_code]
    simp only [corN, List.append_assoc, List.cons_append, List.nil_append]
theorem join_ob (o : Ob) : joinL (obL o) = obT o := by
  unfold obL obT
  rw [join_cons, join_cons, join_cors]
  simp only [objN, memN, List.append_assoc, List.cons_append, List.nil_append]
theorem run_ob {o : Ob} (g : GO o) (h : (chkO o).1 = 0) : runL (obL o) 0 zOb = some o := by
  obtain ⟨h1, h2⟩ := chk_ok h
  have hf := few_of h1
  have hnm : ∀ c ∈ o.cores, nameB c.name = true := by
    simp only [topB, Bool.and_eq_true] at h1
    exact fun c hc => (corsB_all _ _ h1.2.2.2.2.2.2.2 c hc).1
  show (if (lnS 0 ⟨(objN ++ (numT o.sh ++ (numT o.lk ++ numT o.bf))).toArray⟩ zOb).1 = true then runL ((memN ++ memT o.mem) :: o.cores.flatMap corL) 1 (lnS 0 ⟨(objN ++ (numT o.sh ++ (numT o.lk ++ numT o.bf))).toArray⟩ zOb).2 else none) = _
  rw [ln_head zOb o.sh o.lk o.bf g.sh g.lk g.bf, if_pos rfl]
  have hm := ln_mem { zOb with sh := o.sh, lk := o.lk, bf := o.bf } o.mem g.mem.2 rfl hf.mem
  show (if (lnS 1 ⟨(memN ++ memT o.mem).toArray⟩ { zOb with sh := o.sh, lk := o.lk, bf := o.bf }).1 = true then runL (o.cores.flatMap corL) 2 (lnS 1 ⟨(memN ++ memT o.mem).toArray⟩ { zOb with sh := o.sh, lk := o.lk, bf := o.bf }).2 else none) = _
  rw [hm, if_pos rfl]
  have h3 := run_cors o.mem.length o.cores 2 { mem := o.mem, sh := o.sh, lk := o.lk, bf := o.bf, cores := [] } (by omega) (fun c hc => ⟨name_no (hnm c hc) 32 (by decide), hf.code c hc, fun i hi => ⟨h2 c hc i hi, (g.cores.2 c hc).code.2 i hi⟩⟩) (by simp only [List.length_nil]; have := hf.cores; omega)
  exact h3
theorem lines_no {o : Ob} (g : GO o) (h : (chkO o).1 = 0) : ∀ l ∈ obL o, (10 : UInt8) ∉ l := by
  obtain ⟨h1, h2⟩ := chk_ok h
  have hnm : ∀ c ∈ o.cores, nameB c.name = true := by
    simp only [topB, Bool.and_eq_true] at h1
    exact fun c hc => (corsB_all _ _ h1.2.2.2.2.2.2.2 c hc).1
  intro l hl
  unfold obL at hl
  rcases List.mem_cons.1 hl with rfl | hl
  · simp only [List.mem_append, not_or]
    exact ⟨by decide, (ten_num _).1, (ten_num _).1, (ten_num _).1⟩
  · rcases List.mem_cons.1 hl with rfl | hl
    · simp only [List.mem_append, not_or]
      refine ⟨by decide, fun hm => ?_⟩
      unfold memT at hm
      obtain ⟨x, _, hx⟩ := List.mem_flatMap.1 hm
      exact (ten_num x).2.1 hx
    · obtain ⟨c, hc, hl⟩ := List.mem_flatMap.1 hl
      unfold corL at hl
      rcases List.mem_cons.1 hl with rfl | hl
      · simp only [List.mem_append, List.mem_cons, not_or]
        exact ⟨by decide, by decide, name_no (hnm c hc) 10 (by decide)⟩
      · obtain ⟨i, hi, rfl⟩ := List.mem_map.1 hl
        exact ten_ins i (h2 c hc i hi) ((g.cores.2 c hc).code.2 i hi)
theorem par_back {o : Ob} (hg : rgO o) (h : (chkO o).1 = 0) (hs : (obT o).length ≤ 16777216) : parO ⟨(obT o).toArray⟩ = (o, 0, 0) := by
  have g := go_of hg h
  have hz : (⟨(obT o).toArray⟩ : ByteArray).size = (obT o).length := size_mk _
  have hll : (obL o).length ≤ (obT o).length := by
    rw [← join_ob]
    generalize obL o = L
    induction L with
    | nil => simp
    | cons x L ih =>
      rw [join_cons]
      simp only [List.length_append, List.length_cons, List.length_nil]
      omega
  have e := tx_run ⟨(obT o).toArray⟩ (obL o) ((⟨(obT o).toArray⟩ : ByteArray).size + 2) 0 0 zOb o (by rw [toL, List.drop_zero, join_ob]) (lines_no g h) (by rw [hz]; omega) (by simp [obL]) (Nat.zero_le _) (run_ob g h)
  unfold parO
  rw [if_neg (by rw [hz]; omega), e]
  simp only [if_true]
  rw [if_pos h]
end Go.Proofs.YtgmcfinjlddgbaaGreatDoor
namespace Go.Proofs.YtgmcfinjlddgbaaGreatDoor
open Go.RowKit
set_option linter.unusedVariables false
set_option maxRecDepth 100000
/-- What is left of a line, with the blank ahead of it. -/
def tS (s : Pst) : List UInt8 := if s.more = true then 32 :: s.rest.data.toList else []
theorem cut_get (r : ByteArray) (c : UInt8) : r.data.toList = (cutA r c).1.data.toList ++ (if (cutA r c).2.2 = true then c :: (cutA r c).2.1.data.toList else []) := by
  have hi := idx_lt r.data.toList c
  unfold cutA
  by_cases h0 : 0 ≤ Lib.indexByte r.data.toList c
  · rw [if_pos h0]
    obtain ⟨o, ho⟩ : ∃ o : Nat, Lib.indexByte r.data.toList c = (o : Int) := ⟨(Lib.indexByte r.data.toList c).toNat, by omega⟩
    have h1 := (Lib.indexByte_some ho).1
    rw [ho] at hi ⊢
    have hol : o < r.data.toList.length := by omega
    simp only [Int.toNat_natCast, if_true]
    rw [ext_list, ext_list, List.drop_zero, Nat.sub_zero]
    have hz : r.size = r.data.toList.length := Array.length_toList.symm
    rw [List.take_of_length_le (l := List.drop (o + 1) r.data.toList) (by rw [List.length_drop]; omega)]
    have h2 : r.data.toList.drop o = c :: r.data.toList.drop (o + 1) := by
      rw [List.drop_eq_getElem_cons hol]
      rw [List.getElem?_eq_getElem hol] at h1
      injection h1 with h1
      rw [h1]
    rw [← h2, List.take_append_drop]
  · rw [if_neg h0]
    simp
theorem next_get {s : Pst} (h : (nextS s).2.bad = false) : s.bad = false ∧ tS s = 32 :: (nextS s).1.data.toList ++ tS (nextS s).2 := by
  cases hm : s.more with
  | false =>
    unfold nextS at h
    rw [if_neg (by rw [hm]; simp)] at h
    cases h
  | true =>
    have e : nextS s = ((cutA s.rest 32).1, ⟨(cutA s.rest 32).2.1, (cutA s.rest 32).2.2, s.bad⟩) := by
      unfold nextS
      rw [if_pos hm]
    rw [e] at h ⊢
    refine ⟨h, ?_⟩
    have h2 := cut_get s.rest 32
    unfold tS
    rw [if_pos hm]
    simp only
    rw [List.cons_append, ← h2]
theorem parse_itoa {l : List UInt8} (h : (parseP l).2.1 = 0) : Lib.itoa (parseP l).1 = l := by
  rcases parse_cases l with h1 | h1
  · exact h1.2.2.2
  · omega
theorem val_get {t : ByteArray} {s s' : Pst} {x : Int} (h : valS t s = (x, s')) (hb : s'.bad = false) : s' = s ∧ Lib.itoa x = t.data.toList := by
  unfold valS at h
  simp only [Prod.mk.injEq] at h
  obtain ⟨h1, h2⟩ := h
  by_cases h0 : (parseP t.data.toList).2.1 = 0
  · rw [if_pos h0] at h2
    refine ⟨h2.symm, ?_⟩
    rw [← h1]
    exact parse_itoa h0
  · rw [if_neg h0] at h2
    rw [← h2] at hb
    cases hb
theorem siz_get {t : ByteArray} {s s' : Pst} {x : Int} (h : sizS t s = (x, s')) (hb : s'.bad = false) : s' = s ∧ Lib.itoa x = t.data.toList := by
  unfold sizS at h
  simp only [Prod.mk.injEq] at h
  obtain ⟨h1, h2⟩ := h
  by_cases h0 : (valS t s).1 < 0
  · rw [if_pos h0] at h2
    rw [← h2] at hb
    cases hb
  · rw [if_neg h0] at h2
    exact val_get (x := x) (s' := s') (by rw [← h1, ← h2]) hb
/-- A reader that takes what is written. -/
def Gt (f : Pst → Int × Pst) (wr : Int → List UInt8) : Prop := ∀ s x s', f s = (x, s') → s'.bad = false → s.bad = false ∧ tS s = wr x ++ tS s'
theorem gt_num : Gt numS' numT := fun s x s' h hb => by
  obtain ⟨e, h2⟩ := siz_get h hb
  subst e
  obtain ⟨h3, h4⟩ := next_get hb
  refine ⟨h3, ?_⟩
  rw [h4, ← h2]
  rfl
theorem gt_wrd : Gt wdS wrdT := fun s x s' h hb => by
  obtain ⟨e, h2⟩ := val_get h hb
  subst e
  obtain ⟨h3, h4⟩ := next_get hb
  refine ⟨h3, ?_⟩
  rw [h4, ← h2]
  rfl
theorem pre_get {t : ByteArray} {c : UInt8} (h : (preA t c).2 = true) : t.data.toList = c :: (preA t c).1.data.toList := by
  unfold preA at h ⊢
  by_cases hp : Lib.hasPrefix t.data.toList [c] = true
  · rw [if_pos hp]
    simp only
    rw [ext_list]
    have hz : t.size = t.data.toList.length := Array.length_toList.symm
    cases hl : t.data.toList with
    | nil => rw [hl] at hp; simp [Lib.hasPrefix] at hp
    | cons x l =>
      rw [hl] at hp hz
      simp only [Lib.hasPrefix, List.isPrefixOf, Bool.and_true, beq_iff_eq] at hp
      rw [← hp, List.drop_one, List.tail_cons, List.take_of_length_le (by rw [hz]; simp)]
  · rw [if_neg hp] at h
    cases h
theorem beh_get {c : UInt8} {s : Pst} (h : (behS c s).2.bad = false) : s.bad = false ∧ tS s = [32, c] ++ (behS c s).1.data.toList ++ tS (behS c s).2 := by
  unfold behS at h ⊢
  simp only at h ⊢
  by_cases hp : (preA (nextS s).1 c).2 = true
  · rw [if_pos hp] at h ⊢
    obtain ⟨h3, h4⟩ := next_get h
    refine ⟨h3, ?_⟩
    rw [h4, pre_get hp]
    rfl
  · rw [if_neg hp] at h
    cases h
theorem gt_reg : Gt regS' regT := fun s x s' h hb => by
  obtain ⟨e, h2⟩ := siz_get h hb
  subst e
  obtain ⟨h3, h4⟩ := beh_get hb
  refine ⟨h3, ?_⟩
  rw [h4, ← h2]
  rfl
theorem ori_get {s s' : Pst} {x : Int} (h : oriS s = (x, s')) (hb : s'.bad = false) : s.bad = false ∧ x ≠ 0 ∧ tS s = [32, 64] ++ Lib.itoa x ++ tS s' := by
  unfold oriS at h
  simp only [Prod.mk.injEq] at h
  obtain ⟨h1, h2⟩ := h
  by_cases h0 : (sizS (behS 64 s).1 (behS 64 s).2).1 = 0
  · rw [if_pos h0] at h2
    rw [← h2] at hb
    cases hb
  · rw [if_neg h0] at h2
    obtain ⟨e, h3⟩ := siz_get (x := x) (s' := s') (by rw [← h1, ← h2]) hb
    rw [e] at hb ⊢
    obtain ⟨h4, h5⟩ := beh_get hb
    refine ⟨h4, by rw [← h1]; exact h0, ?_⟩
    rw [h5, ← h3]
def optT (u : Bool) (f : Pst → Int × Pst) (s : Pst) : Int × Pst := bif u then f s else (0, s)
theorem gt_opt (u : Bool) {f : Pst → Int × Pst} {wr : Int → List UInt8} (h : Gt f wr) : Gt (optT u f) (fun x => bif u then wr x else []) := fun s x s' e hb => by
  cases u with
  | true => exact h s x s' e hb
  | false =>
    have e : ((0 : Int), s) = (x, s') := e
    simp only [Prod.mk.injEq] at e
    obtain ⟨_, rfl⟩ := e
    exact ⟨hb, rfl⟩
theorem vS_eq (u k o : Int) (s : Pst) : vS u 6 (s, insK k o) = (let d := optT (hasB u 2) regS' s
    let a := optT (hasB u 4) regS' d.2
    let b := optT (hasB u 8) regS' a.2
    let ad := optT (hasB u 16) numS' b.2
    let tt := optT (hasB u 32) numS' ad.2
    let wd := optT (hasB u 64) wdS tt.2
    (wd.2, (⟨k, o, d.1, a.1, b.1, ad.1, tt.1, wd.1, 0⟩ : Ins))) := by
  simp only
  have e1 : vS u 1 (s, insK k o) = ((optT (hasB u 2) regS' s).2, (⟨k, o, (optT (hasB u 2) regS' s).1, 0, 0, 0, 0, 0, 0⟩ : Ins)) := by
    show (bif hasB u 2 then stepF 0 (s, insK k o) else (s, insK k o)) = _
    cases hasB u 2 <;> rfl
  generalize optT (hasB u 2) regS' s = D1 at e1 ⊢
  obtain ⟨d, s1⟩ := D1
  simp only at e1 ⊢
  have e2 : vS u 2 (s, insK k o) = ((optT (hasB u 4) regS' s1).2, (⟨k, o, d, (optT (hasB u 4) regS' s1).1, 0, 0, 0, 0, 0⟩ : Ins)) := by
    show (bif hasB u 4 then stepF 1 (vS u 1 (s, insK k o)) else vS u 1 (s, insK k o)) = _
    rw [e1]
    cases hasB u 4 <;> rfl
  generalize optT (hasB u 4) regS' s1 = D2 at e2 ⊢
  obtain ⟨a, s2⟩ := D2
  simp only at e2 ⊢
  have e3 : vS u 3 (s, insK k o) = ((optT (hasB u 8) regS' s2).2, (⟨k, o, d, a, (optT (hasB u 8) regS' s2).1, 0, 0, 0, 0⟩ : Ins)) := by
    show (bif hasB u 8 then stepF 2 (vS u 2 (s, insK k o)) else vS u 2 (s, insK k o)) = _
    rw [e2]
    cases hasB u 8 <;> rfl
  generalize optT (hasB u 8) regS' s2 = D3 at e3 ⊢
  obtain ⟨b, s3⟩ := D3
  simp only at e3 ⊢
  have e4 : vS u 4 (s, insK k o) = ((optT (hasB u 16) numS' s3).2, (⟨k, o, d, a, b, (optT (hasB u 16) numS' s3).1, 0, 0, 0⟩ : Ins)) := by
    show (bif hasB u 16 then stepF 3 (vS u 3 (s, insK k o)) else vS u 3 (s, insK k o)) = _
    rw [e3]
    cases hasB u 16 <;> rfl
  generalize optT (hasB u 16) numS' s3 = D4 at e4 ⊢
  obtain ⟨ad, s4⟩ := D4
  simp only at e4 ⊢
  have e5 : vS u 5 (s, insK k o) = ((optT (hasB u 32) numS' s4).2, (⟨k, o, d, a, b, ad, (optT (hasB u 32) numS' s4).1, 0, 0⟩ : Ins)) := by
    show (bif hasB u 32 then stepF 4 (vS u 4 (s, insK k o)) else vS u 4 (s, insK k o)) = _
    rw [e4]
    cases hasB u 32 <;> rfl
  generalize optT (hasB u 32) numS' s4 = D5 at e5 ⊢
  obtain ⟨tt, s5⟩ := D5
  simp only at e5 ⊢
  show (bif hasB u 64 then stepF 5 (vS u 5 (s, insK k o)) else vS u 5 (s, insK k o)) = _
  rw [e5]
  cases hasB u 64 <;> rfl
theorem vS_get {u k o : Int} {s s' : Pst} {i : Ins} (h : vS u 6 (s, insK k o) = (s', i)) (hb : s'.bad = false) : s.bad = false ∧ i.k = k ∧ i.o = o ∧ i.fr = 0 ∧ tS s = fldsT u i 6 ++ tS s' := by
  rw [vS_eq] at h
  simp only at h
  rcases h1 : optT (hasB u 2) regS' s with ⟨d, s1⟩
  rw [h1] at h
  simp only at h
  rcases h2 : optT (hasB u 4) regS' s1 with ⟨a, s2⟩
  rw [h2] at h
  simp only at h
  rcases h3 : optT (hasB u 8) regS' s2 with ⟨b, s3⟩
  rw [h3] at h
  simp only at h
  rcases h4 : optT (hasB u 16) numS' s3 with ⟨ad, s4⟩
  rw [h4] at h
  simp only at h
  rcases h5 : optT (hasB u 32) numS' s4 with ⟨tt, s5⟩
  rw [h5] at h
  simp only at h
  rcases h6 : optT (hasB u 64) wdS s5 with ⟨wd, s6⟩
  rw [h6] at h
  simp only [Prod.mk.injEq] at h
  obtain ⟨rfl, rfl⟩ := h
  obtain ⟨b6, e6⟩ := gt_opt _ gt_wrd _ _ _ h6 hb
  obtain ⟨b5, e5⟩ := gt_opt _ gt_num _ _ _ h5 b6
  obtain ⟨b4, e4⟩ := gt_opt _ gt_num _ _ _ h4 b5
  obtain ⟨b3, e3⟩ := gt_opt _ gt_reg _ _ _ h3 b4
  obtain ⟨b2, e2⟩ := gt_opt _ gt_reg _ _ _ h2 b3
  obtain ⟨b1, e1⟩ := gt_opt _ gt_reg _ _ _ h1 b2
  refine ⟨b1, rfl, rfl, rfl, ?_⟩
  simp only [fldsT, fldT, List.append_assoc, List.nil_append]
  rw [e1, e2, e3, e4, e5, e6]
theorem done_get {s : Pst} (h : doneB s = true) : s.bad = false ∧ tS s = [] := by
  unfold doneB at h
  simp only [Bool.and_eq_true, Bool.not_eq_true'] at h
  refine ⟨h.2, ?_⟩
  unfold tS
  rw [if_neg (by rw [h.1]; simp)]
theorem ins_get {k o : Int} {s s' : Pst} {i : Ins} (h : insS s (insK k o) = (s', i)) (hd : doneB s' = true) : i.k = k ∧ i.o = o ∧ s.bad = false ∧ tS s = fldsT (uB k o) i 6 ++ frT i := by
  obtain ⟨hb, ht⟩ := done_get hd
  unfold insS at h
  have hk : (insK k o).k = k ∧ (insK k o).o = o := ⟨rfl, rfl⟩
  rw [hk.1, hk.2] at h
  rcases hv : vS (uB k o) 6 (s, insK k o) with ⟨s6, i6⟩
  rw [hv] at h
  simp only at h
  cases hm : s6.more with
  | true =>
    rw [hm] at h
    simp only [cond_true, Prod.mk.injEq] at h
    obtain ⟨h1, h2⟩ := h
    obtain ⟨b1, h0, e1⟩ := ori_get (s := s6) (x := (oriS s6).1) (s' := s') (by rw [← h1]) hb
    obtain ⟨b2, k1, k2, k3, e2⟩ := vS_get hv b1
    subst h2
    refine ⟨k1, k2, b2, ?_⟩
    have hf : frT { i6 with fr := (oriS s6).1 } = [32, 64] ++ Lib.itoa (oriS s6).1 := by
      unfold frT
      simp only
      rw [if_neg h0]
    rw [hf, e2, e1, ht, List.append_nil]
    rfl
  | false =>
    rw [hm] at h
    simp only [cond_false, Prod.mk.injEq] at h
    obtain ⟨rfl, rfl⟩ := h
    obtain ⟨b2, k1, k2, k3, e2⟩ := vS_get hv hb
    have hf : frT i6 = [] := by unfold frT; rw [if_pos k3]
    exact ⟨k1, k2, b2, by rw [hf, e2, ht]⟩
theorem fnd_get {L : List (List UInt8)} {s : List UInt8} : ∀ {f j k : Nat}, fndF L s f j = some k → L.getD k [] = s ∧ k < j + f
  | 0, j, k, h => by cases h
  | f + 1, j, k, h => by
    unfold fndF at h
    by_cases hj : L.getD j [] = s
    · rw [if_pos hj] at h
      injection h with h
      subst h
      exact ⟨hj, by omega⟩
    · rw [if_neg hj] at h
      have := fnd_get h
      exact ⟨this.1, by omega⟩
theorem beg_get {s : List UInt8} {i : Ins} (h : begS s = (i, true)) : ∃ k o, i = insK k o ∧ wdK k o = s := by
  unfold begS at h
  by_cases h0 : s = []
  · rw [if_pos h0] at h; simp at h
  · rw [if_neg h0] at h
    cases h1 : fndF formTx s 11 0 with
    | some k =>
      rw [h1] at h
      simp only [Prod.mk.injEq, and_true] at h
      obtain ⟨h2, h3⟩ := fnd_get h1
      refine ⟨k, 0, h.symm, ?_⟩
      unfold wdK
      by_cases hk : (k : Int) = 2
      · obtain rfl : k = 2 := by omega
        exact absurd h2.symm h0
      · rw [if_neg hk]
        simpa using h2
    | none =>
      rw [h1] at h
      simp only at h
      cases h4 : fndF opTx s 19 0 with
      | some o =>
        rw [h4] at h
        simp only [Prod.mk.injEq, and_true] at h
        obtain ⟨h2, h3⟩ := fnd_get h4
        refine ⟨2, o, h.symm, ?_⟩
        unfold wdK
        rw [if_pos rfl]
        simpa using h2
      | none =>
        rw [h4] at h
        simp at h
theorem mk_eta (b : ByteArray) : (⟨b.data.toList.toArray⟩ : ByteArray) = b := by simp
theorem tx_get (s : ByteArray) : ∀ (n k a : Nat) (o : Ob) (r : Int) (o' : Ob), a ≤ s.size → s.size - a < n → txS s n k a o = ((r, true), o') → ∃ Ls, s.data.toList.drop a = joinL Ls ∧ runL Ls k o = some o' ∧ 2 ≤ k + Ls.length ∧ r = 0
  | 0, k, a, o, r, o', _, h, _ => by omega
  | n + 1, k, a, o, r, o', ha, hn, ht => by
    have hz : s.size = s.data.toList.length := Array.length_toList.symm
    by_cases hk : k < 2 ∨ a < s.size
    · cases hw : (cutA (s.extract a s.size) 10).2.2 with
      | false => rw [txS_no s n k a o hk hw] at ht; cases ht
      | true =>
        obtain ⟨h1, _⟩ := cut_at s a ha hw
        have hg := cut_get (s.extract a s.size) 10
        rw [hw, ext_list, List.take_of_length_le (by rw [List.length_drop]; omega)] at hg
        simp only [if_true] at hg
        cases hl : (lnS k (cutA (s.extract a s.size) 10).1 o).1 with
        | false => rw [txS_bad s n k a o hk hw hl] at ht; cases ht
        | true =>
          rw [txS_step s n k a o hk hw hl] at ht
          obtain ⟨Ls, e1, e2, e3, e4⟩ := tx_get s n (k + 1) (a + (cutA (s.extract a s.size) 10).1.size + 1) _ r o' h1 (by omega) ht
          refine ⟨(cutA (s.extract a s.size) 10).1.data.toList :: Ls, ?_, ?_, by simp only [List.length_cons]; omega, e4⟩
          · have hd := congrArg (List.drop ((cutA (s.extract a s.size) 10).1.size + 1)) hg
            rw [List.drop_drop, show a + ((cutA (s.extract a s.size) 10).1.size + 1) = a + (cutA (s.extract a s.size) 10).1.size + 1 by omega, e1] at hd
            have hf : (cutA (s.extract a s.size) 10).1.data.toList.length = (cutA (s.extract a s.size) 10).1.size := Array.length_toList
            rw [List.drop_append, hf, List.drop_eq_nil_of_le (by rw [hf]; omega), List.nil_append, show (cutA (s.extract a s.size) 10).1.size + 1 - (cutA (s.extract a s.size) 10).1.size = 1 by omega, List.drop_one, List.tail_cons] at hd
            rw [hg, join_cons, ← hd, List.append_assoc]
            rfl
          · unfold runL
            rw [mk_eta, if_pos hl]
            exact e2
    · rw [txS_stop s (n + 1) k a o hk] at ht
      simp only [Prod.mk.injEq] at ht
      obtain ⟨⟨h1, _⟩, h2⟩ := ht
      exact ⟨[], List.drop_eq_nil_of_le (by omega), by rw [← h2]; rfl, by simp only [List.length_nil]; omega, h1.symm⟩
theorem tx_place (s : ByteArray) : ∀ (n k a : Nat) (o : Ob), a ≤ s.size → 0 ≤ (txS s n k a o).1.1 ∧ (txS s n k a o).1.1 ≤ (s.size : Int)
  | 0, k, a, o, ha => by
    show (0 : Int) ≤ 0 ∧ (0 : Int) ≤ _
    omega
  | n + 1, k, a, o, ha => by
    by_cases hk : k < 2 ∨ a < s.size
    · cases hw : (cutA (s.extract a s.size) 10).2.2 with
      | false => rw [txS_no s n k a o hk hw]; simp only; omega
      | true =>
        obtain ⟨h1, _⟩ := cut_at s a ha hw
        cases hl : (lnS k (cutA (s.extract a s.size) 10).1 o).1 with
        | false => rw [txS_bad s n k a o hk hw hl]; simp only; omega
        | true =>
          rw [txS_step s n k a o hk hw hl]
          exact tx_place s n (k + 1) _ _ h1
    · rw [txS_stop s (n + 1) k a o hk]
      simp only
      omega
def Big (o : Ob) : Prop := o.mem.length > 4096 ∨ o.cores.length > 8 ∨ ∃ c ∈ o.cores, c.code.length > 16384
theorem keep_get {α : Type} (l : List α) (x : α) (n : Nat) : l.length ≤ (keepL l x n).length := by
  unfold keepL
  split <;> simp
theorem keep_in {α : Type} {l : List α} {y : α} (x : α) (n : Nat) (h : y ∈ l) : y ∈ keepL l x n := by
  unfold keepL
  split
  · exact h
  · simp [h]
theorem line_get (l : List UInt8) : (nextS ⟨⟨l.toArray⟩, true, false⟩).2.bad = false ∧ l = (nextS ⟨⟨l.toArray⟩, true, false⟩).1.data.toList ++ tS (nextS ⟨⟨l.toArray⟩, true, false⟩).2 := by
  have hb : (nextS ⟨⟨l.toArray⟩, true, false⟩).2.bad = false := rfl
  obtain ⟨_, h⟩ := next_get hb
  refine ⟨hb, ?_⟩
  have e : tS ⟨⟨l.toArray⟩, true, false⟩ = 32 :: l := by
    unfold tS
    simp
  rw [e, List.cons_append] at h
  injection h
theorem ln_get {k : Nat} (hk : 2 ≤ k) {l : List UInt8} {o : Ob} (h : (lnS k ⟨l.toArray⟩ o).1 = true) : (Big o → Big (lnS k ⟨l.toArray⟩ o).2) ∧ (¬ Big o → (lnS k ⟨l.toArray⟩ o).2.cores.flatMap corT = o.cores.flatMap corT ++ (l ++ [10])) ∧ (lnS k ⟨l.toArray⟩ o).2.mem = o.mem ∧ (lnS k ⟨l.toArray⟩ o).2.sh = o.sh ∧ (lnS k ⟨l.toArray⟩ o).2.lk = o.lk ∧ (lnS k ⟨l.toArray⟩ o).2.bf = o.bf := by
  obtain ⟨hb, hl⟩ := line_get l
  have hE : lnS k ⟨l.toArray⟩ o = if (nextS ⟨⟨l.toArray⟩, true, false⟩).1.data.toList = corN then (doneB (coS ((nextS ⟨⟨l.toArray⟩, true, false⟩).2, o)).1, (coS ((nextS ⟨⟨l.toArray⟩, true, false⟩).2, o)).2) else if o.cores = [] then (false, o) else inS (nextS ⟨⟨l.toArray⟩, true, false⟩).1 ((nextS ⟨⟨l.toArray⟩, true, false⟩).2, o) := by
    unfold lnS
    rw [if_neg (by omega), if_neg (by omega)]
  rw [hE] at h ⊢
  clear hE
  generalize nextS ⟨⟨l.toArray⟩, true, false⟩ = nx at hb hl h ⊢
  obtain ⟨fw, s1⟩ := nx
  simp only at hb hl h ⊢
  by_cases hc : fw.data.toList = corN
  · rw [if_pos hc] at h ⊢
    simp only at h ⊢
    obtain ⟨hb2, ht2⟩ := done_get h
    have hb3 : (nextS s1).2.bad = false := hb2
    have ht3 : tS (nextS s1).2 = [] := ht2
    obtain ⟨_, h4⟩ := next_get hb3
    rw [ht3, List.append_nil] at h4
    have hco : (coS (s1, o)).2 = { o with cores := keepL o.cores ⟨(nextS s1).1, []⟩ 8 } := rfl
    rw [hco]
    refine ⟨fun hB => ?_, fun hB => ?_, rfl, rfl, rfl, rfl⟩
    · rcases hB with hB | hB | ⟨c, hB, hB2⟩
      · exact .inl hB
      · exact .inr (.inl (Nat.lt_of_lt_of_le hB (keep_get _ _ _)))
      · exact .inr (.inr ⟨c, keep_in _ _ hB, hB2⟩)
    · have h8 : o.cores.length ≤ 8 := by
        rcases Nat.lt_or_ge 8 o.cores.length with h | h
        · exact absurd (.inr (.inl h)) hB
        · exact h
      simp only
      rw [keep_put h8, List.flatMap_append]
      congr 1
      rw [hl, hc, h4]
      simp [corT, codeT, corN]
  · rw [if_neg hc] at h ⊢
    by_cases hn : o.cores = []
    · rw [if_pos hn] at h; cases h
    · rw [if_neg hn] at h ⊢
      unfold inS at h ⊢
      rcases hg : begS fw.data.toList with ⟨i0, b0⟩
      rw [hg] at h
      cases b0 with
      | false => simp at h
      | true =>
        simp only [cond_true] at h ⊢
        obtain ⟨k0, o0, rfl, hw⟩ := beg_get hg
        rcases hi : insS s1 (insK k0 o0) with ⟨s9, i⟩
        rw [hi] at h
        simp only at h ⊢
        obtain ⟨i1, i2, _, i4⟩ := ins_get hi h
        obtain ⟨pre, c, hpc⟩ : ∃ pre c, o.cores = pre ++ [c] := ⟨o.cores.dropLast, o.cores.getLast hn, (List.dropLast_concat_getLast hn).symm⟩
        have hp : pushI o.cores i = pre ++ [⟨c.name, keepL c.code i 16384⟩] := by
          unfold pushI
          rw [hpc, List.getLast?_append]
          simp only [List.getLast?_singleton, Option.some_or]
          rw [List.dropLast_concat]
        rw [hp]
        refine ⟨fun hB => ?_, fun hB => ?_, by first | rfl | trivial, by first | rfl | trivial, by first | rfl | trivial, by first | rfl | trivial⟩
        · rcases hB with hB | hB | ⟨x, hB, hB2⟩
          · exact .inl hB
          · refine .inr (.inl ?_)
            rw [hpc] at hB
            simpa using hB
          · refine .inr (.inr ?_)
            rw [hpc] at hB
            rcases List.mem_append.1 hB with hB | hB
            · exact ⟨x, by simp [hB], hB2⟩
            · rw [List.mem_singleton] at hB
              subst hB
              exact ⟨⟨x.name, keepL x.code i 16384⟩, by simp, Nat.lt_of_lt_of_le hB2 (keep_get _ _ _)⟩
        · have h16 : c.code.length ≤ 16384 := by
            rcases Nat.lt_or_ge 16384 c.code.length with h | h
            · exact absurd (.inr (.inr ⟨c, by rw [hpc]; simp, h⟩)) hB
            · exact h
          rw [keep_put h16, hpc, List.flatMap_append, List.flatMap_append, List.append_assoc]
          congr 1
          have hwd : wdT i = fw.data.toList := by
            rw [← hw]
            unfold wdT wdK
            rw [i1, i2]
          have hT : insT i = l := by
            have et : insT i = wdT i ++ (fldsT (uB i.k i.o) i 6 ++ frT i) := by
              unfold insT frT
              rw [List.append_assoc]
            rw [et, hwd, i1, i2, ← i4, ← hl]
          rw [← hT]
          simp [corT, codeT]
theorem runL_get : ∀ (Ls : List (List UInt8)) (k : Nat) (o o' : Ob), 2 ≤ k → runL Ls k o = some o' → ¬ Big o' → ¬ Big o ∧ o'.cores.flatMap corT = o.cores.flatMap corT ++ joinL Ls ∧ o'.mem = o.mem ∧ o'.sh = o.sh ∧ o'.lk = o.lk ∧ o'.bf = o.bf
  | [], k, o, o', _, h, hB => by
    simp only [runL, Option.some.injEq] at h
    subst h
    exact ⟨hB, by simp [joinL], rfl, rfl, rfl, rfl⟩
  | l :: r, k, o, o', hk, h, hB => by
    unfold runL at h
    by_cases hx : (lnS k ⟨l.toArray⟩ o).1 = true
    · rw [if_pos hx] at h
      obtain ⟨g1, g2, g3, g4, g5, g6⟩ := ln_get hk hx
      obtain ⟨r1, r2, r3, r4, r5, r6⟩ := runL_get r (k + 1) _ o' (by omega) h hB
      have hb : ¬ Big o := fun hb => r1 (g1 hb)
      refine ⟨hb, ?_, r3.trans g3, r4.trans g4, r5.trans g5, r6.trans g6⟩
      rw [r2, g2 hb, join_cons, List.append_assoc]
    · rw [if_neg hx] at h; cases h
theorem hd_get {l : List UInt8} {o : Ob} (h : (lnS 0 ⟨l.toArray⟩ o).1 = true) : ∃ sh lk bf, (lnS 0 ⟨l.toArray⟩ o).2 = { o with sh := sh, lk := lk, bf := bf } ∧ l = objN ++ (numT sh ++ (numT lk ++ numT bf)) := by
  obtain ⟨hb, hl⟩ := line_get l
  unfold lnS at h ⊢
  rw [if_pos rfl] at h ⊢
  generalize nextS ⟨⟨l.toArray⟩, true, false⟩ = nx at hb hl h ⊢
  obtain ⟨fw, s1⟩ := nx
  simp only at hb hl h ⊢
  by_cases hc : fw.data.toList = objN
  · rw [if_pos hc] at h ⊢
    rcases h1 : numS' s1 with ⟨sh, s2⟩
    rcases h2 : numS' s2 with ⟨lk, s3⟩
    rcases h3 : numS' s3 with ⟨bf, s4⟩
    have hh : hdS 3 (s1, o) = (s4, { o with sh := sh, lk := lk, bf := bf }) := by
      show hdF 2 (hdF 1 (hdF 0 (s1, o))) = _
      simp only [hdF, h1, h2, h3]
    rw [hh] at h ⊢
    simp only at h ⊢
    obtain ⟨hb4, ht4⟩ := done_get h
    obtain ⟨b3, e3⟩ := gt_num _ _ _ h3 hb4
    obtain ⟨b2, e2⟩ := gt_num _ _ _ h2 b3
    obtain ⟨b1, e1⟩ := gt_num _ _ _ h1 b2
    exact ⟨sh, lk, bf, rfl, by rw [hl, hc, e1, e2, e3, ht4, List.append_nil]⟩
  · rw [if_neg hc] at h; cases h
theorem mm_get : ∀ (n : Nat) (s : Pst) (o : Ob), doneB (mmS n (s, o)).1 = true → s.bad = false ∧ (mmS n (s, o)).2 = { o with mem := (mmS n (s, o)).2.mem } ∧ ((mmS n (s, o)).2.mem.length > 4096 ∨ ∃ l', (mmS n (s, o)).2.mem = o.mem ++ l' ∧ tS s = memT l')
  | 0, s, o, h => by
    obtain ⟨hb, ht⟩ := done_get h
    exact ⟨hb, rfl, .inr ⟨[], by simp [mmS], ht⟩⟩
  | n + 1, s, o, h => by
    cases hm : s.more with
    | false =>
      have e : mmS (n + 1) (s, o) = (s, o) := by
        show (if s.more = true then _ else _) = _
        rw [if_neg (by rw [hm]; simp)]
      rw [e] at h ⊢
      obtain ⟨hb, ht⟩ := done_get h
      exact ⟨hb, rfl, .inr ⟨[], by simp, ht⟩⟩
    | true =>
      rcases hw : wdS s with ⟨x, s2⟩
      have e : mmS (n + 1) (s, o) = mmS n (s2, { o with mem := keepL o.mem x 4096 }) := by
        show (if s.more = true then mmS n (mmF (s, o)) else _) = _
        rw [if_pos hm]
        unfold mmF
        simp only [hw]
      rw [e] at h ⊢
      obtain ⟨b2, f2, r2⟩ := mm_get n s2 _ h
      obtain ⟨b1, e1⟩ := gt_wrd _ _ _ hw b2
      refine ⟨b1, f2, ?_⟩
      rcases r2 with r2 | ⟨l', r2, r3⟩
      · exact .inl r2
      · by_cases hk : 4096 < o.mem.length
        · left
          rw [r2, List.length_append]
          have := keep_get o.mem x 4096
          simp only
          omega
        · right
          refine ⟨x :: l', ?_, ?_⟩
          · rw [r2]
            simp only
            rw [keep_put (by omega), List.append_assoc]
            rfl
          · rw [e1, r3]
            rfl
theorem me_get {l : List UInt8} {o : Ob} (h0 : o.mem = []) (h : (lnS 1 ⟨l.toArray⟩ o).1 = true) : ∃ m, (lnS 1 ⟨l.toArray⟩ o).2 = { o with mem := m } ∧ (m.length > 4096 ∨ l = memN ++ memT m) := by
  obtain ⟨hb, hl⟩ := line_get l
  unfold lnS at h ⊢
  rw [if_neg (by decide), if_pos rfl] at h ⊢
  generalize nextS ⟨⟨l.toArray⟩, true, false⟩ = nx at hb hl h ⊢
  obtain ⟨fw, s1⟩ := nx
  simp only at hb hl h ⊢
  by_cases hc : fw.data.toList = memN
  · rw [if_pos hc] at h ⊢
    simp only at h ⊢
    obtain ⟨b1, f1, r1⟩ := mm_get _ _ _ h
    refine ⟨_, f1, ?_⟩
    rcases r1 with r1 | ⟨l', r1, r2⟩
    · exact .inl r1
    · right
      rw [r1, h0, List.nil_append, hl, hc, r2]
  · rw [if_neg hc] at h; cases h
/-- What is read as an object is that object's text. -/
theorem par_one {s : ByteArray} {o : Ob} {a : Int} (h : parO s = (o, 0, a)) : a = 0 ∧ (chkO o).1 = 0 ∧ obT o = s.data.toList ∧ s.size ≤ 16777216 := by
  unfold parO at h
  by_cases hs : 16777216 < s.size
  · rw [if_pos hs] at h; simp at h
  · rw [if_neg hs] at h
    by_cases ht : (txS s (s.size + 2) 0 0 zOb).1.2 = true
    · rw [if_pos ht] at h
      by_cases hc : (chkO (txS s (s.size + 2) 0 0 zOb).2).1 = 0
      · rw [if_pos hc] at h
        simp only [Prod.mk.injEq] at h
        obtain ⟨rfl, _, rfl⟩ := h
        refine ⟨rfl, hc, ?_, by omega⟩
        obtain ⟨Ls, e1, e2, e3, _⟩ := tx_get s (s.size + 2) 0 0 zOb (txS s (s.size + 2) 0 0 zOb).1.1 (txS s (s.size + 2) 0 0 zOb).2 (Nat.zero_le _) (by omega) (by
          apply Prod.ext
          · apply Prod.ext
            · rfl
            · exact ht
          · rfl)
        generalize (txS s (s.size + 2) 0 0 zOb).2 = o at hc e2 ⊢
        rw [List.drop_zero] at e1
        have hf := few_of (chk_ok hc).1
        have hB : ¬ Big o := by
          rintro (hB | hB | ⟨c, hB, hB2⟩)
          · have := hf.mem; omega
          · have := hf.cores; omega
          · have := hf.code c hB; omega
        cases Ls with
        | nil => simp at e3
        | cons l0 Ls =>
          cases Ls with
          | nil => simp at e3
          | cons l1 Ls =>
            unfold runL at e2
            by_cases x0 : (lnS 0 ⟨l0.toArray⟩ zOb).1 = true
            · rw [if_pos x0] at e2
              obtain ⟨sh, lk, bf, q1, q2⟩ := hd_get x0
              rw [q1] at e2
              unfold runL at e2
              by_cases x1 : (lnS (0 + 1) ⟨l1.toArray⟩ { zOb with sh := sh, lk := lk, bf := bf }).1 = true
              · rw [if_pos x1] at e2
                obtain ⟨m, q3, q4⟩ := me_get rfl x1
                have q3' : (lnS (0 + 1) ⟨l1.toArray⟩ { zOb with sh := sh, lk := lk, bf := bf }).2 = { mem := m, sh := sh, lk := lk, bf := bf, cores := [] } := q3
                rw [q3'] at e2
                obtain ⟨g1, g2, g3, g4, g5, g6⟩ := runL_get Ls _ _ o (by omega) e2 hB
                simp only at g2 g3 g4 g5 g6
                have q5 : l1 = memN ++ memT m := by
                  rcases q4 with q4 | q4
                  · exact absurd (.inl q4) g1
                  · exact q4
                rw [e1, ← join_ob]
                unfold obL
                rw [join_cons, join_cons, join_cons, join_cons, join_cors, g2, g3, g4, g5, g6, q2, q5]
                simp
              · rw [if_neg x1] at e2; cases e2
            · rw [if_neg x0] at e2; cases e2
      · rw [if_neg hc] at h
        simp only [Prod.mk.injEq] at h
        exact absurd h.2.1 hc
    · rw [if_neg ht] at h; simp at h
theorem par_place (s : ByteArray) : 0 ≤ (parO s).2.2 ∧ (parO s).2.2 ≤ (s.size : Int) ∧ ((parO s).2.1 ≠ 0 → (parO s).1 = zOb) := by
  unfold parO
  split
  · exact ⟨by simp, by simp, fun _ => rfl⟩
  · split
    · split
      · exact ⟨by simp, by simp, fun h => absurd rfl h⟩
      · exact ⟨by simp, by simp, fun _ => rfl⟩
    · have := tx_place s (s.size + 2) 0 0 zOb (Nat.zero_le _)
      exact ⟨this.1, this.2, fun _ => rfl⟩
end Go.Proofs.YtgmcfinjlddgbaaGreatDoor
namespace Go.Proofs.YtgmcfinjlddgbaaGreatDoor
open Go.RowKit
set_option linter.unusedVariables false
set_option maxRecDepth 100000
theorem enc_same (o : Ob) (hg : rgO o) (hf : fitO o) {v : Value} {w : World} (hv : obA w o v) (T : TgT w) {l : List UInt8} (he : encR o = l) (hc : (chkO o).1 = 0) : Calls Tryz.prog 32 #[v] w fun e w' => ∃ a c, e = .returned (.tuple #[.slice a l.length c, .int .i64 0]) ∧ Below w.heap.size w w' ∧ bysAt w' l a := by
  refine (encode_any o hg hf hv T).mono fun e w' ⟨a, c, h1, h2, h3⟩ => ?_
  rw [he] at h1 h3
  rw [hc] at h1
  obtain ⟨a2, c2, e2, h4⟩ := row_bys h3
  injection e2 with e3 e4 e5
  subst e3
  exact ⟨_, _, h1, h2, h4⟩
set_option maxHeartbeats 16000000 in
theorem one_walk (s : ByteArray) (l : List UInt8) (ab : Option Addr) (cb : Nat) (hml : l.length ≤ 140737488351232) (hmc : l.length ≤ cb) (hcm : cb ≤ 9223372036854775807) {w : World} (hmo : bysAt w l ab) (T : TgT w) (P : PwT w) :
    Calls Tryz.prog 8 #[.string s, .slice ab l.length cb] w fun e w' => e = .returned (.bool true) ∧ Below w.heap.size w w' := by
  have HTT : Hid (∀ X, Below w.heap.size w X → TgT X ∧ PwT X) := fun X h => ⟨T.below h, P.below h⟩
  have HBG : Hid (Calls Tryz.prog 18 #[] w fun e w' => e = .returned (.bool true) ∧ Below w.heap.size w w') := begins_any w T P
  have HPA : Hid (∀ X, Below w.heap.size w X → Calls Tryz.prog 38 #[.string s] X (ParP X (parO s))) := fun X h => t_Parse s X (HTT.out X h).1
  have HDE : Hid (∀ X, Below w.heap.size w X → Calls Tryz.prog 36 #[.slice ab l.length cb] X fun e w' => ∃ v, e = .returned (.tuple #[v, .int .i64 (decO l).2]) ∧ DcO X.heap.size (decO l).1 v w' ∧ Below X.heap.size X w') := fun X h => t_Decode l (bysAt_below hmo h) hmc (by omega) hcm (HTT.out X h).1
  have HON : Hid ((parO s).2.1 = 0 → (parO s).2.2 = 0 ∧ (chkO (parO s).1).1 = 0 ∧ obT (parO s).1 = s.data.toList ∧ s.size ≤ 16777216) := fun h => par_one (s := s) (o := (parO s).1) (a := (parO s).2.2) (by rw [← h])
  have HPL := Lib.hid (par_place s)
  have HDO := Lib.hid (dec_one l)
  generalize parO s = R at HPA HON HPL
  obtain ⟨o, why, at1⟩ := R
  simp only at HON HPL
  generalize decO l = D at HDE HDO
  obtain ⟨y, dw⟩ := D
  simp only at HDE HDO
  have HMO := Lib.hid hmo
  have HML := Lib.hid hml
  clear T P hmo hml hmc hcm
  go_enter Tryz.func8, Tryz.ntmps8
  go_upto_region 3 with (go_at_call 18; refine HBG.out.mono ?_; rintro e w1 ⟨rfl, hb⟩; have HB1 := Lib.hid hb; clear hb)
  clear HBG
  go_upto_region 4 with (first
    | (go_at_call 38
       refine (HPA.out _ HB1.out).mono ?_
       rintro e w2 ⟨vx, rfl, ⟨x1, x5, L, rfl, hrd⟩, hft, hb⟩
       simp only at hrd hft
       have hrz := hrd
       obtain ⟨xa, xc, rfl⟩ := row_slice hrz.mem
       obtain ⟨xb, xd, rfl⟩ := row_slice hrz.cors
       have hbw := Below.of_row ((Below.refl _ w2).alloc (Nat.le_refl _) (.cells #[.slice none 0 0, .int .i64 0, .int .i64 0, .int .i64 0, .slice none 0 0] 29)) (Nat.le_refl _) #[.slice xa o.mem.length xc, .int .i64 o.sh, .int .i64 o.lk, .int .i64 o.bf, .slice xb L.length xd]
       have O2 := Own.new w2 29 #[.slice none 0 0, .int .i64 0, .int .i64 0, .int .i64 0, .slice none 0 0]
       have HB3 := Lib.hid ((HB1.out.trans (hb.mono HB1.out.size)).trans (hbw.mono (Nat.le_trans HB1.out.size hb.size)))
       have HX3 := Lib.hid (And.intro (O2.row #[.slice xa o.mem.length xc, .int .i64 o.sh, .int .i64 o.lk, .int .i64 o.bf, .slice xb L.length xd]) (obA_below hrd.obA hbw))
       have HFT := Lib.hid hft
       have HLF := Lib.hid hrd.fst
       clear hrd hrz hft hb hbw)
    | (refine st rowO rfl rfl O2 rfl rfl (by rfl) (by rfl) (by kernel_rfl) ?_))
  clear O2 HB1 HPA
  obtain ⟨w3, hw3⟩ : ∃ W, W = (w2.alloc (.cells #[.slice none 0 0, .int .i64 0, .int .i64 0, .int .i64 0, .slice none 0 0] 29)).setRow w2.heap.size #[.slice xa o.mem.length xc, .int .i64 o.sh, .int .i64 o.lk, .int .i64 o.bf, .slice xb L.length xd] := ⟨_, rfl⟩
  rw [← hw3] at HB3 HX3 ⊢
  clear hw3
  generalize w2.heap.size = gx at HX3 ⊢
  by_cases hwy : why = 0
  · obtain ⟨rfl, hck, htx, hsz⟩ := HON.out hwy
    subst hwy
    have HPR : Hid (Calls Tryz.prog 30 #[.agg #[.slice xa o.mem.length xc, .int .i64 o.sh, .int .i64 o.lk, .int .i64 o.bf, .slice xb L.length xd]] w3 fun e w' => e = .returned (.tuple #[.string s, .int .i64 0]) ∧ Below w3.heap.size w3 w') := (print_any o HFT.out.rg HFT.out.fit HX3.out.2 (HTT.out _ HB3.out).1 (HTT.out _ HB3.out).2).mono fun e w' ⟨h1, h2⟩ => by
      have hp : prtO o = (obT o, 0) := by
        unfold prtO
        rw [if_pos hck, if_neg (by rw [htx]; have : s.data.toList.length = s.size := Array.length_toList; omega)]
      rw [hp, htx] at h1
      have h3 : prtE (s.data.toList, 0) = .returned (.tuple #[.string s, .int .i64 0]) := by
        unfold prtE
        simp
      exact ⟨h1.trans h3, h2⟩
    have OX := HX3.out.1
    have hss : (s.toList == s.toList) = true := by simp
    clear HON HPL HLF hck htx hsz HFT
    go_upto_region 10 with (first
      | (go_at_call 30
         refine HPR.out.mono ?_
         rintro e w4 ⟨rfl, hb⟩
         have HBA := Lib.hid (HB3.out.trans (hb.mono HB3.out.size))
         clear hb OX)
      | (refine ld rowO rfl rfl rfl OX rfl ?_))
    clear HX3 HPR HB3 hss
    go_upto_region 11 with (first
      | (go_at_call 36
         refine (HDE.out _ HBA.out).mono ?_
         rintro e w5 ⟨vd, rfl, ⟨y1, y5, Ld, rfl, hd⟩, hb⟩
         have hdz := hd
         obtain ⟨ya, yc, rfl⟩ := row_slice hdz.mem
         obtain ⟨yb, yd, rfl⟩ := row_slice hdz.cors
         have hbw := Below.of_row ((Below.refl _ w5).alloc (Nat.le_refl _) (.cells #[.slice none 0 0, .int .i64 0, .int .i64 0, .int .i64 0, .slice none 0 0] 29)) (Nat.le_refl _) #[.slice ya y.mem.length yc, .int .i64 y.sh, .int .i64 y.lk, .int .i64 y.bf, .slice yb Ld.length yd]
         have O5 := Own.new w5 29 #[.slice none 0 0, .int .i64 0, .int .i64 0, .int .i64 0, .slice none 0 0]
         have HB6 := Lib.hid ((HBA.out.trans (hb.mono HBA.out.size)).trans (hbw.mono (Nat.le_trans HBA.out.size hb.size)))
         have HY6 := Lib.hid (And.intro (O5.row #[.slice ya y.mem.length yc, .int .i64 y.sh, .int .i64 y.lk, .int .i64 y.bf, .slice yb Ld.length yd]) (obA_below hdz.obA hbw))
         have HLD := Lib.hid hdz.fst
         clear hd hdz hb hbw)
      | (refine st rowO rfl rfl O5 rfl rfl (by rfl) (by rfl) (by kernel_rfl) ?_))
    clear O5 HDE
    obtain ⟨w6, hw6⟩ : ∃ W, W = (w5.alloc (.cells #[.slice none 0 0, .int .i64 0, .int .i64 0, .int .i64 0, .slice none 0 0] 29)).setRow w5.heap.size #[.slice ya y.mem.length yc, .int .i64 y.sh, .int .i64 y.lk, .int .i64 y.bf, .slice yb Ld.length yd] := ⟨_, rfl⟩
    rw [← hw6] at HB6 HY6 ⊢
    clear hw6
    generalize w5.heap.size = gy at HY6 ⊢
    rcases HDO.out with ⟨rfl, hck, hgo, hen⟩ | hdo
    · have HEN : Hid (Calls Tryz.prog 32 #[.agg #[.slice ya y.mem.length yc, .int .i64 y.sh, .int .i64 y.lk, .int .i64 y.bf, .slice yb Ld.length yd]] w6 fun e w' => ∃ a c, e = .returned (.tuple #[.slice a l.length c, .int .i64 0]) ∧ Below w6.heap.size w6 w' ∧ bysAt w' l a) := enc_same y (rgO_of hgo) (fitO_of hgo) HY6.out.2 (HTT.out _ HB6.out).1 hen hck
      have OY := HY6.out.1
      clear HDO HLD hck hgo hen
      go_upto_region 14 with (first
        | (go_at_call 32
           refine HEN.out.mono ?_
           rintro e w7 ⟨ac, cc, rfl, hb, hby⟩
           have HB7 := Lib.hid (HB6.out.trans (hb.mono HB6.out.size))
           have HBS : Hid (Calls Tryz.prog 34 #[.slice ab l.length cb, .slice ac l.length cc] w7 fun e w' => e = .returned (.bool true) ∧ Below w7.heap.size w7 w') := bys_same l HML.out (bysAt_below HMO.out (HB7.out)) hby
           clear hb hby OY)
        | (refine ld rowO rfl rfl rfl OY rfl ?_))
      go_wp2_with (go_at_call 34; refine HBS.out.mono ?_; rintro e w8 ⟨rfl, hb⟩; have HB8 := Lib.hid (HB7.out.trans (hb.mono HB7.out.size)); clear hb)
      go_ret
      exact ⟨rfl, HB8.out⟩
    · simp only [Prod.mk.injEq] at hdo
      obtain ⟨rfl, rfl⟩ := hdo
      obtain rfl : Ld = [] := List.map_eq_nil_iff.1 HLD.out
      have k4 : w6.cell? ⟨gy, 4, none⟩ = some (.slice yb (0 : Nat) yd) := row_cellsO HY6.out.1 4 _ rfl
      have k0 : w6.cell? ⟨gy, 0, none⟩ = some (.slice ya (0 : Nat) yc) := row_cellsO HY6.out.1 0 _ rfl
      clear HDO HLD HY6
      go_wp2_with (fail)
      go_ret
      exact ⟨rfl, HB6.out⟩
  · obtain ⟨p1, p2, p3⟩ := HPL.out
    have hz := p3 hwy
    subst hz
    obtain rfl : L = [] := List.map_eq_nil_iff.1 HLF.out
    have q : (why == 0) = false := by simpa using hwy
    have k4 : w3.cell? ⟨gx, 4, none⟩ = some (.slice xb (0 : Nat) xd) := row_cellsO HX3.out.1 4 _ rfl
    have h1 : ¬ at1 < 0 := by omega
    have h2 : ¬ (s.size : Int) < at1 := by omega
    have HBA := HB3
    clear HON HPL HLF HFT p1 p2 p3 HX3 hwy
    go_upto_region 10 with (fail)
    clear k4 h1 h2 q HB3
    go_upto_region 11 with (first
      | (go_at_call 36
         refine (HDE.out _ HBA.out).mono ?_
         rintro e w5 ⟨vd, rfl, ⟨y1, y5, Ld, rfl, hd⟩, hb⟩
         have hdz := hd
         obtain ⟨ya, yc, rfl⟩ := row_slice hdz.mem
         obtain ⟨yb, yd, rfl⟩ := row_slice hdz.cors
         have hbw := Below.of_row ((Below.refl _ w5).alloc (Nat.le_refl _) (.cells #[.slice none 0 0, .int .i64 0, .int .i64 0, .int .i64 0, .slice none 0 0] 29)) (Nat.le_refl _) #[.slice ya y.mem.length yc, .int .i64 y.sh, .int .i64 y.lk, .int .i64 y.bf, .slice yb Ld.length yd]
         have O5 := Own.new w5 29 #[.slice none 0 0, .int .i64 0, .int .i64 0, .int .i64 0, .slice none 0 0]
         have HB6 := Lib.hid ((HBA.out.trans (hb.mono HBA.out.size)).trans (hbw.mono (Nat.le_trans HBA.out.size hb.size)))
         have HY6 := Lib.hid (And.intro (O5.row #[.slice ya y.mem.length yc, .int .i64 y.sh, .int .i64 y.lk, .int .i64 y.bf, .slice yb Ld.length yd]) (obA_below hdz.obA hbw))
         have HLD := Lib.hid hdz.fst
         clear hd hdz hb hbw)
      | (refine st rowO rfl rfl O5 rfl rfl (by rfl) (by rfl) (by kernel_rfl) ?_))
    clear O5 HDE
    obtain ⟨w6, hw6⟩ : ∃ W, W = (w5.alloc (.cells #[.slice none 0 0, .int .i64 0, .int .i64 0, .int .i64 0, .slice none 0 0] 29)).setRow w5.heap.size #[.slice ya y.mem.length yc, .int .i64 y.sh, .int .i64 y.lk, .int .i64 y.bf, .slice yb Ld.length yd] := ⟨_, rfl⟩
    rw [← hw6] at HB6 HY6 ⊢
    clear hw6
    generalize w5.heap.size = gy at HY6 ⊢
    rcases HDO.out with ⟨rfl, hck, hgo, hen⟩ | hdo
    · have HEN : Hid (Calls Tryz.prog 32 #[.agg #[.slice ya y.mem.length yc, .int .i64 y.sh, .int .i64 y.lk, .int .i64 y.bf, .slice yb Ld.length yd]] w6 fun e w' => ∃ a c, e = .returned (.tuple #[.slice a l.length c, .int .i64 0]) ∧ Below w6.heap.size w6 w' ∧ bysAt w' l a) := enc_same y (rgO_of hgo) (fitO_of hgo) HY6.out.2 (HTT.out _ HB6.out).1 hen hck
      have OY := HY6.out.1
      clear HDO HLD hck hgo hen
      go_upto_region 14 with (first
        | (go_at_call 32
           refine HEN.out.mono ?_
           rintro e w7 ⟨ac, cc, rfl, hb, hby⟩
           have HB7 := Lib.hid (HB6.out.trans (hb.mono HB6.out.size))
           have HBS : Hid (Calls Tryz.prog 34 #[.slice ab l.length cb, .slice ac l.length cc] w7 fun e w' => e = .returned (.bool true) ∧ Below w7.heap.size w7 w') := bys_same l HML.out (bysAt_below HMO.out (HB7.out)) hby
           clear hb hby OY)
        | (refine ld rowO rfl rfl rfl OY rfl ?_))
      go_wp2_with (go_at_call 34; refine HBS.out.mono ?_; rintro e w8 ⟨rfl, hb⟩; have HB8 := Lib.hid (HB7.out.trans (hb.mono HB7.out.size)); clear hb)
      go_ret
      exact ⟨rfl, HB8.out⟩
    · simp only [Prod.mk.injEq] at hdo
      obtain ⟨rfl, rfl⟩ := hdo
      obtain rfl : Ld = [] := List.map_eq_nil_iff.1 HLD.out
      have k4 : w6.cell? ⟨gy, 4, none⟩ = some (.slice yb (0 : Nat) yd) := row_cellsO HY6.out.1 4 _ rfl
      have k0 : w6.cell? ⟨gy, 0, none⟩ = some (.slice ya (0 : Nat) yc) := row_cellsO HY6.out.1 0 _ rfl
      clear HDO HLD HY6
      go_wp2_with (fail)
      go_ret
      exact ⟨rfl, HB6.out⟩
end Go.Proofs.YtgmcfinjlddgbaaGreatDoor

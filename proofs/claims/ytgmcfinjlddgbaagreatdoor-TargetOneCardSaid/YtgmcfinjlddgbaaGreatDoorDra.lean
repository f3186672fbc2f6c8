/- Target's byte reader: cores. -/
import Derived.Test.YtgmcfinjlddgbaaGreatDoorTc5
import Derived.Test.YtgmcfinjlddgbaaGreatDoorTr3
import Derived.Test.YtgmcfinjlddgbaaGreatDoorFl0
import Derived.Laws.Bits64b
import Derived.Test.YtgmcfinjlddgbaaGreatDoorTp9
import Derived.Lib.BufferRead
import Derived.Laws.IdiomStrings
namespace Go.Proofs.YtgmcfinjlddgbaaGreatDoor
open Go.RowKit
set_option linter.unusedVariables false
set_option maxRecDepth 100000
/-- The digits of a number, as they are read: the number so far, and so many digits of it. -/
def dgA : List UInt8 → Nat → Nat → Option (Nat × List UInt8)
  | [], _, _ => none
  | c :: r, k, n =>
    if (n ||| ((c.toNat % 128) <<< (7 * k)) % 18446744073709551616) >>> (7 * k) = c.toNat % 128 then
      (if c.toNat ≤ 127 then (if c.toNat = 0 ∧ 0 < k then none else some (n ||| ((c.toNat % 128) <<< (7 * k)) % 18446744073709551616, r))
       else dgA r (k + 1) (n ||| ((c.toNat % 128) <<< (7 * k)) % 18446744073709551616))
    else none
/-- The same, without bounds. -/
def dgN : List UInt8 → Nat → Option (Nat × List UInt8)
  | [], _ => none
  | c :: r, k => if c.toNat ≤ 127 then (if c.toNat = 0 ∧ 0 < k then none else some (c.toNat, r)) else (dgN r (k + 1)).map fun x => (c.toNat % 128 + 128 * x.1, x.2)
theorem dig_or (n d s : Nat) (hn : n < 2 ^ s) : n ||| d <<< s = n + d * 2 ^ s := by
  have h := Nat.shiftLeft_add_eq_or_of_lt hn d
  rw [Nat.or_comm, ← h, Nat.shiftLeft_eq]
  omega
theorem dgA_eq : ∀ (l : List UInt8) (k n : Nat), n < 2 ^ (7 * k) → n < 18446744073709551616 → dgA l k n = (dgN l k).bind fun x => if n + x.1 * 2 ^ (7 * k) < 18446744073709551616 then some (n + x.1 * 2 ^ (7 * k), x.2) else none
  | [], k, n, _, _ => rfl
  | c :: r, k, n, h1, h2 => by
    have hc : c.toNat < 256 := c.toNat_lt
    obtain ⟨d, hd⟩ : ∃ d, d = c.toNat % 128 := ⟨_, rfl⟩
    have hd2 : d < 128 := by omega
    obtain ⟨p, hp⟩ : ∃ p, p = 2 ^ (7 * k) := ⟨_, rfl⟩
    have hp0 : 0 < p := by rw [hp]; exact Nat.two_pow_pos _
    have hp1 : 2 ^ (7 * (k + 1)) = p * 128 := by rw [show 7 * (k + 1) = 7 * k + 7 by omega, Nat.pow_add, ← hp]
    unfold dgA dgN
    rw [← hd]
    by_cases hf : d * p < 18446744073709551616
    · have e1 : (d <<< (7 * k)) % 18446744073709551616 = d <<< (7 * k) := by
        rw [Nat.shiftLeft_eq, ← hp]
        exact Nat.mod_eq_of_lt hf
      rw [e1, dig_or n d _ h1, ← hp]
      have e2 : (n + d * p) >>> (7 * k) = d := by
        rw [Nat.shiftRight_eq_div_pow, ← hp, Nat.add_mul_div_right _ _ hp0, Nat.div_eq_of_lt (by rw [hp]; exact h1), Nat.zero_add]
      rw [e2, if_pos rfl]
      have hm : n + d * p < 18446744073709551616 := by
        by_cases hk : 7 * k ≤ 64
        · have e3 : 18446744073709551616 = 2 ^ (64 - 7 * k) * p := by rw [hp, ← Nat.pow_add, show 64 - 7 * k + 7 * k = 64 by omega]
          have e4 : d < 2 ^ (64 - 7 * k) := by
            rw [e3] at hf
            exact Nat.lt_of_mul_lt_mul_right hf
          have e5 : (d + 1) * p ≤ 2 ^ (64 - 7 * k) * p := Nat.mul_le_mul_right _ e4
          rw [← e3, Nat.add_mul] at e5
          rw [← hp] at h1
          omega
        · have e3 : 18446744073709551616 ≤ p := by
            rw [hp]
            exact Nat.le_trans (by decide : 18446744073709551616 ≤ 2 ^ 64) (Nat.pow_le_pow_right (by decide) (by omega))
          have e4 : d = 0 := by
            rcases Nat.eq_zero_or_pos d with h | h
            · exact h
            · have := Nat.mul_le_mul h e3
              omega
          rw [e4]
          omega
      by_cases hs : c.toNat ≤ 127
      · rw [if_pos hs, if_pos hs]
        have e6 : d = c.toNat := by omega
        by_cases hz : c.toNat = 0 ∧ 0 < k
        · rw [if_pos hz, if_pos hz]; rfl
        · rw [if_neg hz, if_neg hz]
          simp only [Option.bind_some, ← e6]
          rw [if_pos hm]
      · rw [if_neg hs, if_neg hs]
        rw [dgA_eq r (k + 1) _ (by rw [hp1]; have h3 : d * p ≤ 127 * p := Nat.mul_le_mul_right _ (by omega)
                                   rw [← hp] at h1; omega) hm]
        cases dgN r (k + 1) with
        | none => rfl
        | some x =>
          simp only [Option.bind_some, Option.map_some]
          have e7 : n + d * p + x.1 * 2 ^ (7 * (k + 1)) = n + (d + 128 * x.1) * p := by
            rw [hp1, Nat.add_mul, ← Nat.mul_assoc, Nat.mul_comm x.1 p, Nat.mul_assoc p, Nat.mul_comm p, Nat.mul_comm x.1 128]
            omega
          rw [e7]
    · have hpos : 0 < d := by
        rcases Nat.eq_zero_or_pos d with h | h
        · rw [h] at hf; omega
        · exact h
      have e2 : (n ||| (d <<< (7 * k)) % 18446744073709551616) >>> (7 * k) ≠ d := by
        have hlt : n ||| (d <<< (7 * k)) % 18446744073709551616 < 2 ^ 64 := Nat.or_lt_two_pow (by omega) (Nat.mod_lt _ (by decide))
        rw [Nat.shiftRight_eq_div_pow, ← hp]
        have : (n ||| (d <<< (7 * k)) % 18446744073709551616) / p < d := by
          rw [Nat.div_lt_iff_lt_mul hp0]
          omega
        omega
      rw [if_neg e2]
      have hbig : ∀ y : Nat, d ≤ y → ¬ (n + y * p < 18446744073709551616) := fun y hy => by
        have := Nat.mul_le_mul_right p hy
        omega
      by_cases hs : c.toNat ≤ 127
      · rw [if_pos hs]
        by_cases hz : c.toNat = 0 ∧ 0 < k
        · rw [if_pos hz]; rfl
        · rw [if_neg hz]
          simp only [Option.bind_some, ← hp]
          rw [if_neg (hbig _ (by omega))]
      · rw [if_neg hs]
        cases dgN r (k + 1) with
        | none => rfl
        | some x =>
          simp only [Option.bind_some, Option.map_some, ← hp]
          rw [if_neg (hbig _ (by omega))]
theorem dgN_put : ∀ (f n k : Nat) (r : List UInt8), n < 128 ^ (f + 1) → (k = 0 ∨ 0 < n) → dgN (dg (f + 1) n ++ r) k = some (n, r)
  | f, n, k, r, h, hk => by
    unfold dg
    by_cases h1 : n ≤ 127
    · rw [if_pos h1]
      have e : (UInt8.ofNat n).toNat = n := by rw [UInt8.toNat_ofNat']; omega
      show dgN (UInt8.ofNat n :: ([] ++ r)) k = _
      unfold dgN
      rw [e, if_pos h1, if_neg (by omega)]
      rfl
    · rw [if_neg h1]
      have e : (UInt8.ofNat (n % 128 + 128)).toNat = n % 128 + 128 := by rw [UInt8.toNat_ofNat']; omega
      show dgN (UInt8.ofNat (n % 128 + 128) :: (dg f (n / 128) ++ r)) k = _
      unfold dgN
      rw [e, if_neg (by omega)]
      cases f with
      | zero => simp at h; omega
      | succ f =>
        rw [dgN_put f (n / 128) (k + 1) r (by rw [Nat.pow_succ] at h; omega) (.inr (by omega))]
        simp only [Option.map_some, Option.some.injEq, Prod.mk.injEq, and_true]
        omega
theorem dgN_get : ∀ (l : List UInt8) (k n : Nat) (r : List UInt8), dgN l k = some (n, r) → (0 < k → 0 < n) ∧ ∀ f, n < 128 ^ (f + 1) → l = dg (f + 1) n ++ r
  | [], k, n, r, h => by cases h
  | c :: l, k, n, r, h => by
    have hc : c.toNat < 256 := c.toNat_lt
    unfold dgN at h
    by_cases h1 : c.toNat ≤ 127
    · rw [if_pos h1] at h
      by_cases hz : c.toNat = 0 ∧ 0 < k
      · rw [if_pos hz] at h; cases h
      · rw [if_neg hz] at h
        simp only [Option.some.injEq, Prod.mk.injEq] at h
        obtain ⟨rfl, rfl⟩ := h
        refine ⟨fun hk => by omega, fun f _ => ?_⟩
        unfold dg
        rw [if_pos h1, UInt8.ofNat_toNat]
        rfl
    · rw [if_neg h1] at h
      obtain ⟨x, hx, he⟩ := Option.map_eq_some_iff.1 h
      simp only [Prod.mk.injEq] at he
      obtain ⟨e1, rfl⟩ := he
      obtain ⟨h2, h3⟩ := dgN_get l (k + 1) x.1 x.2 hx
      have h4 := h2 (by omega)
      refine ⟨fun _ => by omega, fun f hf => ?_⟩
      cases f with
      | zero => simp at hf; omega
      | succ f =>
        have h5 := h3 f (by rw [Nat.pow_succ] at hf; omega)
        unfold dg
        rw [if_neg (by omega), show n % 128 + 128 = c.toNat by omega, UInt8.ofNat_toNat, show n / 128 = x.1 by omega, h5]
        rfl
/-- A number's bytes are read as that number. -/
theorem dig_put (n : Nat) (hn : n < 18446744073709551616) (r : List UInt8) : dgA (dgT n ++ r) 0 0 = some (n, r) := by
  rw [dgA_eq _ 0 0 (by decide) (by decide), dgT, dgN_put 9 n 0 r (Nat.lt_of_lt_of_le hn (by decide)) (.inl rfl)]
  simp only [Option.bind_some, Nat.mul_zero, Nat.pow_zero, Nat.mul_one, Nat.zero_add]
  rw [if_pos hn]
/-- What is read as a number are its bytes. -/
theorem dig_get {l r : List UInt8} {n : Nat} (h : dgA l 0 0 = some (n, r)) : n < 18446744073709551616 ∧ l = dgT n ++ r := by
  rw [dgA_eq _ 0 0 (by decide) (by decide)] at h
  obtain ⟨x, hx, he⟩ := Option.bind_eq_some_iff.1 h
  simp only [Nat.mul_zero, Nat.pow_zero, Nat.mul_one, Nat.zero_add] at he
  by_cases h1 : x.1 < 18446744073709551616
  · rw [if_pos h1] at he
    simp only [Option.some.injEq, Prod.mk.injEq] at he
    obtain ⟨rfl, rfl⟩ := he
    exact ⟨h1, (dgN_get l 0 x.1 x.2 hx).2 9 (Nat.lt_of_lt_of_le h1 (by decide))⟩
  · rw [if_neg h1] at he; cases he

/-- What a byte reader has: its rest, and whether something was not as it must be. -/
abbrev Bst := List UInt8 × Bool
def badS : Bst := ([], true)
def digR (s : Bst) : Nat × Bst := match dgA s.1 0 0 with | some x => (x.1, (x.2, s.2)) | none => (0, badS)
def numR (x : Int) (s : Bst) : Int × Bst := if 9223372036854775807 < ((digR s).1 : Int) then (x, badS) else (((digR s).1 : Int), (digR s).2)
def unz (n : Nat) : Int := if n % 2 = 1 then -((n / 2 : Nat) : Int) - 1 else ((n / 2 : Nat) : Int)
def wrdR (s : Bst) : Int × Bst := (unz (digR s).1, (digR s).2)
def cntR (m : Int) (s : Bst) : Int × Bst := if m < (numR 0 s).1 then (0, badS) else numR 0 s
def takR (k : Int) (s : Bst) : List UInt8 × Bst := if (s.1.length : Int) < k then ([], badS) else (s.1.take k.toNat, (s.1.drop k.toNat, s.2))
def repR {α : Type} (f : Bst → α × Bst) : Nat → Bst → List α × Bst
  | 0, s => ([], s)
  | k + 1, s => if s.2 = true then ([], s) else ((f s).1 :: (repR f k (f s).2).1, (repR f k (f s).2).2)
def lstR {α : Type} (f : Bst → α × Bst) (m : Int) (s : Bst) : List α × Bst := repR f (cntR m s).1.toNat (cntR m s).2
def optR (u : Bool) (f : Bst → Int × Bst) (s : Bst) : Int × Bst := bif u then f s else (0, s)
def insR (s : Bst) : Ins × Bst :=
  let k := cntR 10 s
  let o := optR (hasB (uB k.1 0) 1) (cntR 18) k.2
  let d := optR (hasB (uB k.1 o.1) 2) (numR 0) o.2
  let a := optR (hasB (uB k.1 o.1) 4) (numR 0) d.2
  let b := optR (hasB (uB k.1 o.1) 8) (numR 0) a.2
  let ad := optR (hasB (uB k.1 o.1) 16) (numR 0) b.2
  let tt := optR (hasB (uB k.1 o.1) 32) (numR 0) ad.2
  let wd := optR (hasB (uB k.1 o.1) 64) wrdR tt.2
  let fr := numR 0 wd.2
  (⟨k.1, o.1, d.1, a.1, b.1, ad.1, tt.1, wd.1, fr.1⟩, fr.2)
def corR (s : Bst) : Cor × Bst :=
  let n := cntR 32 s
  let t := takR n.1 n.2
  let c := lstR insR 16384 t.2
  (⟨⟨t.1.toArray⟩, c.1⟩, c.2)
def magic : List UInt8 := [115, 116, 105, 108]
def obS (s : Bst) : Ob × Bst :=
  let t := takR 4 s
  if t.1 = magic then
    let sh := numR 0 t.2
    let lk := numR 0 sh.2
    let bf := numR 0 lk.2
    let mem := lstR wrdR 4096 bf.2
    let cores := lstR corR 8 mem.2
    (⟨mem.1, sh.1, lk.1, bf.1, cores.1⟩, cores.2)
  else (⟨[], 0, 0, 0, []⟩, badS)
/-- What Decode says. -/
def decO (l : List UInt8) : Ob × Int :=
  if (obS (l, false)).2.2 = false ∧ (obS (l, false)).2.1 = [] then
    (if (chkO (obS (l, false)).1).1 = 0 then ((obS (l, false)).1, 0) else (⟨[], 0, 0, 0, []⟩, 162))
  else (⟨[], 0, 0, 0, []⟩, 162)
/-- A reader of what a writer writes. -/
structure RdY {α : Type} (f : Bst → α × Bst) (wr : α → List UInt8) (P : α → Prop) : Prop where
  put : ∀ x, P x → ∀ r, f (wr x ++ r, false) = (x, (r, false))
  get : ∀ s x t, f s = (x, t) → t.2 = false → s.2 = false ∧ P x ∧ s.1 = wr x ++ t.1
theorem bst_eta {s : Bst} (h : s.2 = false) : s = (s.1, false) := by rw [← h]
def I63 (x : Int) : Prop := 0 ≤ x ∧ x ≤ 9223372036854775807
def I64 (x : Int) : Prop := -9223372036854775808 ≤ x ∧ x ≤ 9223372036854775807
theorem digR_get {s t : Bst} {n : Nat} (h : digR s = (n, t)) (ht : t.2 = false) : s.2 = false ∧ n < 18446744073709551616 ∧ s.1 = dgT n ++ t.1 := by
  unfold digR at h
  cases hd : dgA s.1 0 0 with
  | none =>
    rw [hd] at h
    simp only [Prod.mk.injEq] at h
    rw [← h.2] at ht
    cases ht
  | some x =>
    rw [hd] at h
    simp only [Prod.mk.injEq] at h
    obtain ⟨rfl, rfl⟩ := h
    have h2 := dig_get (n := x.1) (r := x.2) (by rw [hd])
    exact ⟨ht, h2.1, h2.2⟩
theorem digR_put (n : Nat) (hn : n < 18446744073709551616) (r : List UInt8) : digR (dgT n ++ r, false) = (n, (r, false)) := by
  unfold digR
  rw [dig_put n hn r]
theorem digR_lt (s : Bst) : (digR s).1 < 18446744073709551616 := by
  unfold digR
  cases hd : dgA s.1 0 0 with
  | none => simp
  | some x => exact (dig_get (n := x.1) (r := x.2) (by rw [hd])).1
theorem rd_num (y : Int) : RdY (numR y) numY I63 := by
  refine ⟨fun x hx r => ?_, fun s x t h ht => ?_⟩
  · obtain ⟨h0, h1⟩ := hx
    have hu : u64 x = x.toNat := by unfold u64; omega
    unfold numR numY
    rw [digR_put _ (by omega), hu]
    simp only
    rw [if_neg (by omega)]
    simp only [Prod.mk.injEq, and_true]
    omega
  · unfold numR at h
    by_cases hb : 9223372036854775807 < ((digR s).1 : Int)
    · rw [if_pos hb] at h
      simp only [Prod.mk.injEq] at h
      rw [← h.2] at ht
      cases ht
    · rw [if_neg hb] at h
      simp only [Prod.mk.injEq] at h
      obtain ⟨h1, h2⟩ := h
      have h3 := digR_get (s := s) (n := (digR s).1) (t := t) (by rw [← h2]) ht
      refine ⟨h3.1, ⟨by omega, by omega⟩, ?_⟩
      rw [h3.2.2, numY, ← h1]
      have : u64 ((digR s).1 : Int) = (digR s).1 := by unfold u64; omega
      rw [this]
theorem unz_zig (x : Int) : unz (Lib.zigzag x) = x := by
  unfold unz Lib.zigzag
  split <;> split <;> omega
theorem zig_unz (n : Nat) : Lib.zigzag (unz n) = n := by
  unfold unz Lib.zigzag
  split <;> split <;> omega
theorem rd_wrd : RdY wrdR wrdY I64 := by
  refine ⟨fun x hx r => ?_, fun s x t h ht => ?_⟩
  · unfold wrdR wrdY
    rw [digR_put _ (Lib.zigzag_lt hx.1 hx.2)]
    simp only [unz_zig]
  · unfold wrdR at h
    simp only [Prod.mk.injEq] at h
    obtain ⟨h1, h2⟩ := h
    have h3 := digR_get (s := s) (n := (digR s).1) (t := t) (by rw [← h2]) ht
    refine ⟨h3.1, ?_, ?_⟩
    · have := h3.2.1
      rw [← h1]
      unfold I64 unz
      split <;> omega
    · rw [h3.2.2, wrdY, ← h1, zig_unz]
theorem rd_cnt (m : Int) (hm : m ≤ 9223372036854775807) : RdY (cntR m) numY (fun x => 0 ≤ x ∧ x ≤ m) := by
  refine ⟨fun x hx r => ?_, fun s x t h ht => ?_⟩
  · unfold cntR
    rw [(rd_num 0).put x ⟨hx.1, by omega⟩ r]
    simp only
    rw [if_neg (by omega)]
  · unfold cntR at h
    by_cases hb : m < (numR 0 s).1
    · rw [if_pos hb] at h
      simp only [Prod.mk.injEq] at h
      rw [← h.2] at ht
      cases ht
    · rw [if_neg hb] at h
      have h2 := (rd_num 0).get s x t h ht
      rw [h] at hb
      exact ⟨h2.1, ⟨h2.2.1.1, by simpa using hb⟩, h2.2.2⟩
theorem tak_put (x r : List UInt8) : takR (x.length : Int) (x ++ r, false) = (x, (r, false)) := by
  unfold takR
  rw [if_neg (by simp only [List.length_append]; omega)]
  simp
theorem tak_get {k : Int} (hk : 0 ≤ k) {s t : Bst} {x : List UInt8} (h : takR k s = (x, t)) (ht : t.2 = false) : s.2 = false ∧ (x.length : Int) = k ∧ s.1 = x ++ t.1 := by
  unfold takR at h
  by_cases hb : (s.1.length : Int) < k
  · rw [if_pos hb] at h
    simp only [Prod.mk.injEq] at h
    rw [← h.2] at ht
    cases ht
  · rw [if_neg hb] at h
    simp only [Prod.mk.injEq] at h
    obtain ⟨rfl, rfl⟩ := h
    refine ⟨ht, ?_, (List.take_append_drop _ _).symm⟩
    rw [List.length_take]
    omega
section
variable {α : Type} {f : Bst → α × Bst} {wr : α → List UInt8} {P : α → Prop}
theorem rep_put (h : RdY f wr P) : ∀ (l : List α), (∀ x ∈ l, P x) → ∀ r, repR f l.length (l.flatMap wr ++ r, false) = (l, (r, false))
  | [], _, r => rfl
  | x :: l, hl, r => by
    show repR f (l.length + 1) ((wr x ++ l.flatMap wr) ++ r, false) = _
    unfold repR
    rw [if_neg (by simp), List.append_assoc, h.put x (hl x (by simp)), rep_put h l (fun y hy => hl y (by simp [hy]))]
theorem rep_get (h : RdY f wr P) : ∀ (k : Nat) (s t : Bst) (l : List α), repR f k s = (l, t) → t.2 = false → s.2 = false ∧ (∀ x ∈ l, P x) ∧ l.length = k ∧ s.1 = l.flatMap wr ++ t.1
  | 0, s, t, l, e, ht => by
    unfold repR at e
    simp only [Prod.mk.injEq] at e
    obtain ⟨rfl, rfl⟩ := e
    exact ⟨ht, by simp, rfl, rfl⟩
  | k + 1, s, t, l, e, ht => by
    unfold repR at e
    by_cases hs : s.2 = true
    · rw [if_pos hs] at e
      simp only [Prod.mk.injEq] at e
      rw [← e.2, hs] at ht
      cases ht
    · rw [if_neg hs] at e
      simp only [Prod.mk.injEq] at e
      obtain ⟨rfl, e2⟩ := e
      obtain ⟨h1, h2, h3, h4⟩ := rep_get h k (f s).2 t (repR f k (f s).2).1 (by rw [← e2]) ht
      obtain ⟨k1, k2, k3⟩ := h.get s (f s).1 (f s).2 rfl h1
      refine ⟨k1, ?_, by simp [h3], ?_⟩
      · intro x hx
        rcases List.mem_cons.1 hx with rfl | hx
        · exact k2
        · exact h2 x hx
      · rw [k3, h4, List.flatMap_cons, List.append_assoc]
theorem rd_lst (h : RdY f wr P) (m : Int) (hm : m ≤ 9223372036854775807) : RdY (lstR f m) (fun l => numY l.length ++ l.flatMap wr) (fun l => (l.length : Int) ≤ m ∧ ∀ x ∈ l, P x) := by
  refine ⟨fun l hl r => ?_, fun s l t e ht => ?_⟩
  · unfold lstR
    rw [List.append_assoc, (rd_cnt m hm).put (l.length : Int) ⟨by omega, hl.1⟩]
    simp only [Int.toNat_natCast]
    exact rep_put h l hl.2 r
  · unfold lstR at e
    obtain ⟨h1, h2, h3, h4⟩ := rep_get h _ _ t l e ht
    obtain ⟨k1, k2, k3⟩ := (rd_cnt m hm).get s (cntR m s).1 (cntR m s).2 rfl h1
    have e1 : ((cntR m s).1) = (l.length : Int) := by omega
    refine ⟨k1, ⟨by omega, h2⟩, ?_⟩
    rw [k3, h4, e1, List.append_assoc]
end
def optP (u : Bool) (P : Int → Prop) (x : Int) : Prop := match u with | true => P x | false => x = 0
theorem rd_opt (u : Bool) {f : Bst → Int × Bst} {wr : Int → List UInt8} {P : Int → Prop} (h : RdY f wr P) : RdY (optR u f) (fun x => bif u then wr x else []) (optP u P) := by
  cases u with
  | true => exact ⟨fun x hx r => h.put x hx r, fun s x t e ht => h.get s x t e ht⟩
  | false =>
    refine ⟨fun x hx r => ?_, fun s x t e ht => ?_⟩
    · have : x = 0 := hx
      subst this
      rfl
    · have e : ((0 : Int), s) = (x, t) := e
      simp only [Prod.mk.injEq] at e
      obtain ⟨rfl, rfl⟩ := e
      exact ⟨ht, rfl, rfl⟩
theorem has_one (k o : Int) : hasB (uB k o) 1 = hasB (uB k 0) 1 := by
  cases hk : kB k with
  | true => rw [(has_all k o hk).1, (has_all k 0 hk).1]
  | false => unfold uB; rw [hk]; rfl
structure GI (i : Ins) : Prop where
  k : 0 ≤ i.k ∧ i.k ≤ 10
  o : optP (hasB (uB i.k 0) 1) (fun x => 0 ≤ x ∧ x ≤ 18) i.o
  d : optP (hasB (uB i.k i.o) 2) I63 i.d
  a : optP (hasB (uB i.k i.o) 4) I63 i.a
  b : optP (hasB (uB i.k i.o) 8) I63 i.b
  ad : optP (hasB (uB i.k i.o) 16) I63 i.ad
  tt : optP (hasB (uB i.k i.o) 32) I63 i.tt
  wd : optP (hasB (uB i.k i.o) 64) I64 i.wd
  fr : I63 i.fr
theorem insY_eq (i : Ins) (r : List UInt8) : insY i ++ r = numY i.k ++ ((bif hasB (uB i.k 0) 1 then numY i.o else []) ++ ((bif hasB (uB i.k i.o) 2 then numY i.d else []) ++ ((bif hasB (uB i.k i.o) 4 then numY i.a else []) ++ ((bif hasB (uB i.k i.o) 8 then numY i.b else []) ++ ((bif hasB (uB i.k i.o) 16 then numY i.ad else []) ++ ((bif hasB (uB i.k i.o) 32 then numY i.tt else []) ++ ((bif hasB (uB i.k i.o) 64 then wrdY i.wd else []) ++ (numY i.fr ++ r)))))))) := by
  unfold insY
  rw [has_one i.k i.o]
  simp only [fldsY, fldY, List.append_assoc, List.nil_append]
theorem rd_ins : RdY insR insY GI := by
  refine ⟨fun i g r => ?_, fun s i t e ht => ?_⟩
  · rw [insY_eq]
    unfold insR
    rw [(rd_cnt 10 (by decide)).put i.k g.k]
    simp only
    rw [(rd_opt (hasB (uB i.k 0) 1) (rd_cnt 18 (by decide))).put i.o g.o]
    simp only
    rw [(rd_opt (hasB (uB i.k i.o) 2) (rd_num 0)).put i.d g.d]
    simp only
    rw [(rd_opt (hasB (uB i.k i.o) 4) (rd_num 0)).put i.a g.a]
    simp only
    rw [(rd_opt (hasB (uB i.k i.o) 8) (rd_num 0)).put i.b g.b]
    simp only
    rw [(rd_opt (hasB (uB i.k i.o) 16) (rd_num 0)).put i.ad g.ad]
    simp only
    rw [(rd_opt (hasB (uB i.k i.o) 32) (rd_num 0)).put i.tt g.tt]
    simp only
    rw [(rd_opt (hasB (uB i.k i.o) 64) rd_wrd).put i.wd g.wd]
    simp only
    rw [(rd_num 0).put i.fr g.fr]
  · unfold insR at e
    rcases h1 : cntR 10 s with ⟨k, s1⟩
    rw [h1] at e
    simp only at e
    rcases h2 : optR (hasB (uB k 0) 1) (cntR 18) s1 with ⟨o, s2⟩
    rw [h2] at e
    simp only at e
    rcases h3 : optR (hasB (uB k o) 2) (numR 0) s2 with ⟨d, s3⟩
    rw [h3] at e
    simp only at e
    rcases h4 : optR (hasB (uB k o) 4) (numR 0) s3 with ⟨a, s4⟩
    rw [h4] at e
    simp only at e
    rcases h5 : optR (hasB (uB k o) 8) (numR 0) s4 with ⟨b, s5⟩
    rw [h5] at e
    simp only at e
    rcases h6 : optR (hasB (uB k o) 16) (numR 0) s5 with ⟨ad, s6⟩
    rw [h6] at e
    simp only at e
    rcases h7 : optR (hasB (uB k o) 32) (numR 0) s6 with ⟨tt, s7⟩
    rw [h7] at e
    simp only at e
    rcases h8 : optR (hasB (uB k o) 64) wrdR s7 with ⟨wd, s8⟩
    rw [h8] at e
    simp only at e
    rcases h9 : numR 0 s8 with ⟨fr, s9⟩
    rw [h9] at e
    simp only [Prod.mk.injEq] at e
    obtain ⟨rfl, rfl⟩ := e
    obtain ⟨b9, p9, e9⟩ := (rd_num 0).get _ _ _ h9 ht
    obtain ⟨b8, p8, e8⟩ := (rd_opt _ rd_wrd).get _ _ _ h8 b9
    obtain ⟨b7, p7, e7⟩ := (rd_opt _ (rd_num 0)).get _ _ _ h7 b8
    obtain ⟨b6, p6, e6⟩ := (rd_opt _ (rd_num 0)).get _ _ _ h6 b7
    obtain ⟨b5, p5, e5⟩ := (rd_opt _ (rd_num 0)).get _ _ _ h5 b6
    obtain ⟨b4, p4, e4⟩ := (rd_opt _ (rd_num 0)).get _ _ _ h4 b5
    obtain ⟨b3, p3, e3⟩ := (rd_opt _ (rd_num 0)).get _ _ _ h3 b4
    obtain ⟨b2, p2, e2⟩ := (rd_opt _ (rd_cnt 18 (by decide))).get _ _ _ h2 b3
    obtain ⟨b1, p1, e1⟩ := (rd_cnt 10 (by decide)).get _ _ _ h1 b2
    refine ⟨b1, ⟨p1, p2, p3, p4, p5, p6, p7, p8, p9⟩, ?_⟩
    rw [insY_eq, e1, e2, e3, e4, e5, e6, e7, e8, e9]
structure GC (c : Cor) : Prop where
  name : (c.name.size : Int) ≤ 32
  code : (c.code.length : Int) ≤ 16384 ∧ ∀ i ∈ c.code, GI i
theorem corY_eq (c : Cor) (r : List UInt8) : corY c ++ r = numY c.name.size ++ (c.name.data.toList ++ ((numY c.code.length ++ c.code.flatMap insY) ++ r)) := by
  unfold corY
  simp only [List.append_assoc]
theorem rd_cor : RdY corR corY GC := by
  refine ⟨fun c g r => ?_, fun s c t e ht => ?_⟩
  · rw [corY_eq]
    unfold corR
    rw [(rd_cnt 32 (by decide)).put (c.name.size : Int) ⟨by omega, g.name⟩]
    simp only
    have hl : (c.name.size : Int) = (c.name.data.toList.length : Int) := by rw [Array.length_toList]; rfl
    rw [hl, tak_put]
    simp only
    rw [(rd_lst rd_ins 16384 (by decide)).put c.code g.code]
  · unfold corR at e
    rcases h1 : cntR 32 s with ⟨n, s1⟩
    rw [h1] at e
    simp only at e
    rcases h2 : takR n s1 with ⟨x, s2⟩
    rw [h2] at e
    simp only at e
    rcases h3 : lstR insR 16384 s2 with ⟨l, s3⟩
    rw [h3] at e
    simp only [Prod.mk.injEq] at e
    obtain ⟨rfl, rfl⟩ := e
    obtain ⟨b3, p3, e3⟩ := (rd_lst rd_ins 16384 (by decide)).get _ _ _ h3 ht
    have hn : 0 ≤ n := by
      have h5 : (cntR 32 s).1 = n := by rw [h1]
      have h6 : 0 ≤ (cntR 32 s).1 := by
        unfold cntR numR
        split
        · simp
        · split <;> simp
      omega
    obtain ⟨b2, p2, e2⟩ := tak_get hn h2 b3
    obtain ⟨b1, p1, e1⟩ := (rd_cnt 32 (by decide)).get _ _ _ h1 b2
    have hz : ((⟨x.toArray⟩ : ByteArray).size : Int) = n := by rw [← p2]; simp [ByteArray.size]
    refine ⟨b1, ⟨?_, p3⟩, ?_⟩
    · simp only; rw [hz]; exact p1.2
    · rw [corY_eq]
      simp only
      rw [hz, e1, e2, e3]
structure GO (o : Ob) : Prop where
  sh : I63 o.sh
  lk : I63 o.lk
  bf : I63 o.bf
  mem : (o.mem.length : Int) ≤ 4096 ∧ ∀ x ∈ o.mem, I64 x
  cores : (o.cores.length : Int) ≤ 8 ∧ ∀ c ∈ o.cores, GC c
theorem obY_eq (o : Ob) (r : List UInt8) : obY o ++ r = magic ++ (numY o.sh ++ (numY o.lk ++ (numY o.bf ++ ((numY o.mem.length ++ o.mem.flatMap wrdY) ++ ((numY o.cores.length ++ o.cores.flatMap corY) ++ r))))) := by
  unfold obY magic
  simp only [List.append_assoc, List.flatMap_cons, List.flatMap_nil, List.append_nil]
theorem rd_ob : RdY obS obY GO := by
  refine ⟨fun o g r => ?_, fun s o t e ht => ?_⟩
  · rw [obY_eq]
    unfold obS
    rw [show (4 : Int) = (magic.length : Int) by rfl, tak_put]
    simp only [if_true]
    rw [(rd_num 0).put o.sh g.sh]
    simp only
    rw [(rd_num 0).put o.lk g.lk]
    simp only
    rw [(rd_num 0).put o.bf g.bf]
    simp only
    rw [(rd_lst rd_wrd 4096 (by decide)).put o.mem g.mem]
    simp only
    rw [(rd_lst rd_cor 8 (by decide)).put o.cores g.cores]
  · unfold obS at e
    rcases h0 : takR 4 s with ⟨m, s0⟩
    rw [h0] at e
    simp only at e
    by_cases hm : m = magic
    · rw [if_pos hm] at e
      subst hm
      rcases h1 : numR 0 s0 with ⟨sh, s1⟩
      rw [h1] at e
      simp only at e
      rcases h2 : numR 0 s1 with ⟨lk, s2⟩
      rw [h2] at e
      simp only at e
      rcases h3 : numR 0 s2 with ⟨bf, s3⟩
      rw [h3] at e
      simp only at e
      rcases h4 : lstR wrdR 4096 s3 with ⟨mem, s4⟩
      rw [h4] at e
      simp only at e
      rcases h5 : lstR corR 8 s4 with ⟨cs, s5⟩
      rw [h5] at e
      simp only [Prod.mk.injEq] at e
      obtain ⟨rfl, rfl⟩ := e
      obtain ⟨b5, p5, e5⟩ := (rd_lst rd_cor 8 (by decide)).get _ _ _ h5 ht
      obtain ⟨b4, p4, e4⟩ := (rd_lst rd_wrd 4096 (by decide)).get _ _ _ h4 b5
      obtain ⟨b3, p3, e3⟩ := (rd_num 0).get _ _ _ h3 b4
      obtain ⟨b2, p2, e2⟩ := (rd_num 0).get _ _ _ h2 b3
      obtain ⟨b1, p1, e1⟩ := (rd_num 0).get _ _ _ h1 b2
      obtain ⟨b0, p0, e0⟩ := tak_get (by decide) h0 b1
      refine ⟨b0, ⟨p1, p2, p3, p4, p5⟩, ?_⟩
      rw [obY_eq, e0, e1, e2, e3, e4, e5]
    · rw [if_neg hm] at e
      simp only [Prod.mk.injEq] at e
      rw [← e.2] at ht
      cases ht
end Go.Proofs.YtgmcfinjlddgbaaGreatDoor
namespace Go.Proofs.YtgmcfinjlddgbaaGreatDoor
open Go.RowKit
set_option linter.unusedVariables false
set_option maxRecDepth 100000
theorem corsB_all : ∀ (seen : List (List UInt8)) (l : List Cor), corsB seen l = true → ∀ c ∈ l, nameB c.name = true ∧ codeB c.code = true
  | _, [], _ => by simp
  | seen, x :: l, h => by
    simp only [corsB, Bool.and_eq_true, corB] at h
    intro c hc
    rcases List.mem_cons.1 hc with rfl | hc
    · exact ⟨h.1.1, h.1.2.2⟩
    · exact corsB_all _ l h.2 c hc
theorem nameB_len {s : ByteArray} (h : nameB s = true) : s.size ≤ 32 := by
  simp only [nameB, Bool.and_eq_true, decide_eq_true_eq] at h
  exact h.2.1
theorem codeB_len {l : List Ins} (h : codeB l = true) : l.length ≤ 16384 := by
  simp only [codeB, Bool.and_eq_true, decide_eq_true_eq] at h
  exact h.2.1
structure Few (o : Ob) : Prop where
  sh : 0 ≤ o.sh ∧ o.sh < 65
  lk : 0 ≤ o.lk ∧ o.lk < 17
  bf : 1 ≤ o.bf ∧ o.bf ≤ 16
  mem : o.mem.length ≤ 4096
  cores : o.cores.length ≤ 8
  name : ∀ c ∈ o.cores, c.name.size ≤ 32
  code : ∀ c ∈ o.cores, c.code.length ≤ 16384
theorem few_of {o : Ob} (h : topB o = true) : Few o := by
  simp only [topB, inB, Bool.and_eq_true, decide_eq_true_eq] at h
  obtain ⟨h1, h2, h3, h4, h5, h6, h7, h8⟩ := h
  have h9 := corsB_all _ _ h8
  exact ⟨h1, h2, ⟨h5, h6⟩, h4, h7, fun c hc => nameB_len (h9 c hc).1, fun c hc => codeB_len (h9 c hc).2⟩
theorem flatM_len {α : Type} (f : α → List UInt8) (k : Nat) : ∀ l : List α, (∀ x ∈ l, (f x).length ≤ k) → (l.flatMap f).length ≤ l.length * k
  | [], _ => by simp
  | x :: l, h => by
    rw [List.flatMap_cons, List.length_append, List.length_cons, Nat.add_mul]
    have h1 := h x (by simp)
    have h2 := flatM_len f k l (fun y hy => h y (by simp [hy]))
    omega
theorem obY_len (o : Ob) (hg : rgO o) (h : Few o) : (obY o).length ≤ 200000000 := by
  have hc : ∀ c ∈ o.cores, (corY c).length ≤ 17000000 := fun c hc => by
    have h1 := h.name c hc
    have h2 := h.code c hc
    have h3 := flatM_len insY 1000 c.code (fun i hi => insY_len i (hg.2.2.2.2 c hc i hi))
    have h4 := (numY_len c.name.size).1
    have h5 := (numY_len c.code.length).1
    have h6 : c.name.data.toList.length = c.name.size := Array.length_toList
    unfold corY
    simp only [List.length_append]
    omega
  have h1 := flatM_len corY 17000000 o.cores hc
  have h2 := flatM_len wrdY 100 o.mem (fun x _ => (numY_len x).2)
  have h3 := flatM_len numY 100 [o.sh, o.lk, o.bf, (o.mem.length : Int)] (fun x _ => (numY_len x).1)
  have h4 := (numY_len o.cores.length).1
  have h5 := h.mem
  have h6 := h.cores
  simp only [List.length_cons, List.length_nil] at h3
  unfold obY
  simp only [List.length_append, List.length_cons, List.length_nil]
  omega
theorem enc_len (o : Ob) (hg : rgO o) : (encR o).length ≤ 200000000 := by
  unfold encR
  split
  · next h => exact obY_len o hg (few_of (chk_ok h).1)
  · simp
end Go.Proofs.YtgmcfinjlddgbaaGreatDoor
namespace Go.Proofs.YtgmcfinjlddgbaaGreatDoor
open Go.RowKit
set_option linter.unusedVariables false
set_option maxRecDepth 100000
theorem optP_fit {u : Bool} {x c : Int} (hc : c ≤ 9223372036854775808) (h : fitB u x c = true) : optP u I63 x := by
  cases u with
  | true =>
    have h : inB x c = true := h
    simp only [inB, Bool.and_eq_true, decide_eq_true_eq] at h
    exact ⟨h.1, by omega⟩
  | false =>
    have h : (x == 0) = true := h
    exact eq_of_beq h
theorem gi_of {i : Ins} {code mem : Int} (hc : code ≤ 9223372036854775808) (hm : mem ≤ 9223372036854775808) (hg : rgI i) (h : rightB i code mem = true) : GI i := by
  simp only [rightB, Bool.and_eq_true] at h
  obtain ⟨h1, h2, h3, h4, h5, h6, h7, h8, h9⟩ := h
  obtain ⟨e1, e2, e4, e8, e16, e32, e64⟩ := has_all i.k i.o h1
  obtain ⟨⟨hk0, hk1⟩, ⟨ho0, ho1⟩, hd, ha, hb, had, htt, hwd, hfr⟩ := hg
  have hk := kB_iff.1 h1
  simp only [inB, Bool.and_eq_true, decide_eq_true_eq] at h2
  refine ⟨by omega, ?_, by rw [e2]; exact optP_fit (by decide) h4, by rw [e4]; exact optP_fit (by decide) h5, by rw [e8]; exact optP_fit (by decide) h6, by rw [e16]; exact optP_fit hm h7, by rw [e32]; exact optP_fit hc h8, ?_, ⟨h2.1, by omega⟩⟩
  · rw [(has_all i.k 0 h1).1]
    unfold opB at h3
    cases hq : (i.k == 2) with
    | true =>
      rw [hq] at h3
      have h3 : decide (0 < levelOf i.o) = true := h3
      simp only [decide_eq_true_eq] at h3
      refine ⟨ho0, ?_⟩
      unfold levelOf at h3
      split at h3
      · omega
      · omega
    | false =>
      rw [hq] at h3
      have h3 : (i.o == 0) = true := h3
      exact eq_of_beq h3
  · rw [e64]
    cases hq : (i.k == 1) with
    | true => exact hwd
    | false =>
      rw [hq] at h9
      simp only [Bool.or_false] at h9
      exact eq_of_beq h9
theorem go_of {o : Ob} (hg : rgO o) (h : (chkO o).1 = 0) : GO o := by
  obtain ⟨h1, h2⟩ := chk_ok h
  have hf := few_of h1
  obtain ⟨gm, gs, gl, gb, gi⟩ := hg
  have hsh := hf.sh
  have hlk := hf.lk
  have hbf := hf.bf
  have hme := hf.mem
  have hco := hf.cores
  refine ⟨⟨by omega, by omega⟩, ⟨by omega, by omega⟩, ⟨by omega, by omega⟩, ⟨by omega, gm⟩, ⟨by omega, fun c hc => ⟨by have := hf.name c hc; omega, ⟨by have := hf.code c hc; omega, fun i hi => ?_⟩⟩⟩⟩
  have := hf.code c hc
  exact gi_of (by omega) (by omega) (gi c hc i hi) (h2 c hc i hi)
theorem enc_ok {o : Ob} (h : (chkO o).1 = 0) : encR o = obY o := by unfold encR; rw [if_pos h]
theorem dec_put {o : Ob} (hg : GO o) (r : List UInt8) : obS (obY o ++ r, false) = (o, (r, false)) := rd_ob.put o hg r
/-- What is encoded is decoded as it was. -/
theorem dec_back {o : Ob} (hg : rgO o) (h : (chkO o).1 = 0) : decO (encR o) = (o, 0) := by
  have h1 := dec_put (go_of hg h) []
  rw [List.append_nil] at h1
  unfold encR
  rw [if_pos h]
  unfold decO
  rw [h1]
  simp only
  rw [if_pos ⟨trivial, trivial⟩, if_pos h]
/-- What is decoded is encoded as it was. -/
theorem dec_one (l : List UInt8) : (decO l).2 = 0 ∧ (chkO (decO l).1).1 = 0 ∧ GO (decO l).1 ∧ encR (decO l).1 = l ∨ decO l = (⟨[], 0, 0, 0, []⟩, 162) := by
  unfold decO
  by_cases h1 : (obS (l, false)).2.2 = false ∧ (obS (l, false)).2.1 = []
  · rw [if_pos h1]
    by_cases h2 : (chkO (obS (l, false)).1).1 = 0
    · left
      rw [if_pos h2]
      obtain ⟨k1, k2, k3⟩ := rd_ob.get (l, false) _ _ rfl h1.1
      refine ⟨rfl, h2, k2, ?_⟩
      unfold encR
      simp only
      rw [if_pos h2]
      have k3 : l = obY (obS (l, false)).1 ++ (obS (l, false)).2.1 := k3
      rw [h1.2, List.append_nil] at k3
      exact k3.symm
    · right; rw [if_neg h2]
  · right; rw [if_neg h1]
/-- Bytes that go on are those of none. -/
theorem dec_more {o : Ob} (hg : rgO o) (h : (chkO o).1 = 0) {r : List UInt8} (hr : r ≠ []) : decO (encR o ++ r) = (⟨[], 0, 0, 0, []⟩, 162) := by
  unfold encR
  rw [if_pos h]
  unfold decO
  rw [dec_put (go_of hg h) r]
  simp only
  rw [if_neg (fun e => hr e.2)]
/-- Bytes that are cut are those of none. -/
theorem dec_cut {o : Ob} (hg : rgO o) (h : (chkO o).1 = 0) {k : Nat} (hk : k < (encR o).length) : decO ((encR o).take k) = (⟨[], 0, 0, 0, []⟩, 162) := by
  rcases dec_one ((encR o).take k) with ⟨h1, h2, h3, h4⟩ | h1
  · exfalso
    have e1 : encR o = (encR o).take k ++ (encR o).drop k := (List.take_append_drop _ _).symm
    have e2 := dec_put h3 ((encR o).drop k)
    have e3 : obY (decO ((encR o).take k)).1 = (encR o).take k := (enc_ok h2).symm.trans h4
    rw [e3, ← e1] at e2
    have e4 := dec_put (go_of hg h) []
    have e5 := enc_ok h
    rw [List.append_nil, ← e5, e2] at e4
    simp only [Prod.mk.injEq] at e4
    have e6 := congrArg List.length e4.2.1
    rw [List.length_drop] at e6
    simp only [List.length_nil] at e6
    omega
  · exact h1
end Go.Proofs.YtgmcfinjlddgbaaGreatDoor
namespace Go.Proofs.YtgmcfinjlddgbaaGreatDoor
open Go.RowKit
set_option linter.unusedVariables false
set_option maxRecDepth 100000
/-- Bytes that lie below a place. -/
def BsA (B : Nat) (W : World) (l : List UInt8) (a : Option Addr) : Prop := l = [] ∨ ∃ g q, a = some ⟨g, q, none⟩ ∧ g < B ∧ ∀ (j : Nat) (x : UInt8), l[j]? = some x → W.cell? ⟨g, q + j, none⟩ = some (.int .u8 (x.toNat : Int))
theorem BsA.below {B : Nat} {W W' : World} {l : List UInt8} {a : Option Addr} (h : BsA B W l a) (hb : Below B W W') : BsA B W' l a := by
  rcases h with h | ⟨g, q, e, hg, h⟩
  · exact .inl h
  · exact .inr ⟨g, q, e, hg, fun j x hj => (hb.cell (p := ⟨g, q + j, none⟩) hg).trans (h j x hj)⟩
structure DrP (p : Nat) (s : Bst) (a : Option Addr) (c : Nat) (W : World) : Prop where
  own : Own W p 103 #[.slice a s.1.length c, .bool s.2]
  bys : BsA p W s.1 a
  cap : s.1.length ≤ c
  mx : s.1.length ≤ 1152921504606846976
  cm : c ≤ 9223372036854775807
/-- A byte reader's state. -/
def Dr (p : Nat) (s : Bst) (W : World) : Prop := ∃ a c, DrP p s a c W
theorem DrP.lt {p : Nat} {s : Bst} {a : Option Addr} {c : Nat} {W : World} (h : DrP p s a c W) : p < W.heap.size := h.own.lt
theorem Dr.lt {p : Nat} {s : Bst} {W : World} (h : Dr p s W) : p < W.heap.size := by
  obtain ⟨a, c, h⟩ := h
  exact h.lt
theorem Dr.len {p : Nat} {s : Bst} {W : World} (h : Dr p s W) : s.1.length ≤ 1152921504606846976 := by
  obtain ⟨a, c, h⟩ := h
  exact h.mx
theorem Dr.keep {p : Nat} {s : Bst} {W W' : World} (h : Dr p s W) (hb : ∀ k, k ≤ p → W'.heap[k]? = W.heap[k]?) : Dr p s W' := by
  obtain ⟨a, c, h1, h2, h3, h4, h5⟩ := h
  refine ⟨a, c, (hb p (Nat.le_refl _)).trans h1, ?_, h3, h4, h5⟩
  rcases h2 with h | ⟨g, q, e, hg, h⟩
  · exact .inl h
  · exact .inr ⟨g, q, e, hg, fun j x hj => (World.cell?_of_block (hb g (Nat.le_of_lt hg))).trans (h j x hj)⟩
theorem Dr.below {p : Nat} {s : Bst} {W W' : World} (h : Dr p s W) (hb : Below W.heap.size W W') : Dr p s W' := h.keep fun k hk => hb.block k (Nat.lt_of_le_of_lt hk h.lt)
theorem dr_bad {p : Nat} {W : World} (h : Own W p 103 #[.slice none 0 0, .bool true]) : Dr p badS W := ⟨none, 0, h, .inl rfl, Nat.le_refl _, by decide, by decide⟩
/-- What a call does that reads on. -/
structure Dq (w : World) (p : Nat) (s : Bst) (W : World) : Prop where
  st : Dr p s W
  keep : Keep (fun k _ => k ≠ p) w W
section
variable {w W W' : World} {p : Nat} {s t : Bst}
theorem dq_new (h : Dr p s w) : Dq w p s w := ⟨h, Keep.refl _ _⟩
theorem Dq.trans (h : Dq w p s W) (k : Dq W p t W') : Dq w p t W' := ⟨k.st, h.keep.trans k.keep⟩
theorem Dq.below (h : Dq w p s W) (hb : Below W.heap.size W W') : Dq w p s W' := ⟨h.st.below hb, h.keep.trans (keep_below hb)⟩
theorem Dq.bel (h : Dq w p s W) (hp : p ≤ w.heap.size) : Below p w W := ⟨h.keep.os, h.keep.tape, h.keep.output, h.keep.size, fun k hk => by
  have hl : k < w.heap.size := Nat.lt_of_lt_of_le hk hp
  rw [h.keep.block k _ (Array.getElem?_eq_getElem hl) (Nat.ne_of_lt hk), Array.getElem?_eq_getElem hl]⟩
theorem Dq.other (h : Dq w p s W) {g : Nat} {ty : TypeId} {row : Array Value} (ho : Own w g ty row) (hg : g ≠ p) : Own W g ty row := h.keep.block _ _ ho hg
end
theorem dr_cut {w : World} {p : Nat} {l : List UInt8} {b : Bool} {g q c : Nat} (h : DrP p (l, b) (some ⟨g, q, none⟩) c w) {k : Nat} (hk : k ≤ l.length) {a' : Option Addr} {c' : Nat} (ha : a' = some ⟨g, q + k, none⟩ ∨ l.length - k = 0) (hc : l.length - k ≤ c') (hm : c' ≤ c) : Dq w p (l.drop k, b) (w.setCell ⟨p, 0, none⟩ (.slice a' (l.length - k) c')) := by
  have hO := heap_setCell_same w p 0 _ _ (.slice a' (l.length - k) c') h.own
  refine ⟨⟨a', c', ?_, ?_, by simp only [List.length_drop]; exact hc, by have := h.mx; simp only [List.length_drop] at this ⊢; omega, Nat.le_trans hm h.cm⟩, (Keep.refl _ _).setCell (p := ⟨p, 0, none⟩) _ h.own (fun q => q rfl)⟩
  · simp only [List.length_drop]
    exact hO
  · by_cases h0 : l.length - k = 0
    · left
      simp only
      exact List.drop_eq_nil_of_le (by omega)
    · rcases ha with ha | ha
      · rcases h.bys with e | ⟨g', q', e, hg, hb⟩
        · simp only at e; rw [e] at h0; simp at h0
        · injection e with e
          injection e with e1 e2 _
          subst e1 e2
          refine .inr ⟨g, q + k, ha, hg, fun j x hj => ?_⟩
          simp only at hj hb
          rw [List.getElem?_drop] at hj
          rw [World.cell?_of_block (w' := w.setCell ⟨p, 0, none⟩ (.slice a' (l.length - k) c')) (w := w) (Below.heap_setCell w ⟨p, 0, none⟩ _ g (by show g ≠ p; omega)), Nat.add_assoc]
          exact hb (k + j) x hj
      · exact absurd ha h0
theorem and_dig : ∀ k : Nat, k < 256 → bits BinOp.and IntKind.u8 (k : Int) 127 = ((k % 128 : Nat) : Int) := by decide
theorem shl_run {P : Program} (d j : Nat) (W : World) : (Op.shift .shl .u64 (d : Int) .i64 ((j : Int) * 7)).run P W = .ok (.int .u64 ((d <<< (7 * j) % 18446744073709551616 : Nat) : Int)) W := by
  have h0 : ¬ ((j : Int) * 7 < 0) := by omega
  have e : IntKind.u64.wrap ((d : Int) * 2 ^ min ((j : Int) * 7).toNat 64) = ((d <<< (7 * j) % 18446744073709551616 : Nat) : Int) := by
    rw [IntKind.wrap_u64, Nat.shiftLeft_eq, show ((j : Int) * 7).toNat = 7 * j by omega]
    by_cases h : 7 * j ≤ 64
    · rw [Nat.min_eq_left h, Int.natCast_emod, Int.natCast_mul, Int.natCast_pow]
      rfl
    · rw [Nat.min_eq_right (by omega)]
      have h1 : (d : Int) * 2 ^ 64 % 18446744073709551616 = 0 := by omega
      have h2 : d * 2 ^ (7 * j) % 18446744073709551616 = 0 := by
        rw [show 7 * j = (7 * j - 64) + 64 by omega, Nat.pow_add, ← Nat.mul_assoc]
        exact Nat.mul_mod_left _ _
      rw [h1, h2]
      rfl
  have e2 : IntKind.u64.bits = 64 := rfl
  unfold Op.shift
  simp only [h0, if_false, e2, e, Sem.run_pure]
theorem shr_run {P : Program} (m j : Nat) (hm : m < 18446744073709551616) (W : World) : (Op.shift .shr .u64 (m : Int) .i64 ((j : Int) * 7)).run P W = .ok (.int .u64 ((m >>> (7 * j) : Nat) : Int)) W := by
  have h0 : ¬ ((j : Int) * 7 < 0) := by omega
  have e : (m : Int).fdiv (2 ^ min ((j : Int) * 7).toNat 64) = ((m >>> (7 * j) : Nat) : Int) := by
    rw [Int.fdiv_eq_ediv_of_nonneg _ (Int.le_of_lt (Int.pow_pos (by decide))), Nat.shiftRight_eq_div_pow, show ((j : Int) * 7).toNat = 7 * j by omega]
    by_cases h : 7 * j ≤ 64
    · rw [Nat.min_eq_left h, Int.natCast_ediv, Int.natCast_pow]
      rfl
    · rw [Nat.min_eq_right (by omega)]
      have h1 : (m : Int) / 2 ^ 64 = 0 := by omega
      have h2 : m / 2 ^ (7 * j) = 0 := Nat.div_eq_of_lt (Nat.lt_of_lt_of_le hm (Nat.le_trans (by decide : 18446744073709551616 ≤ 2 ^ 64) (Nat.pow_le_pow_right (by decide) (by omega))))
      rw [h1, h2]
      rfl
  have e2 : IntKind.u64.bits = 64 := rfl
  unfold Op.shift
  simp only [h0, if_false, e2, e, Sem.run_pure]
set_option maxHeartbeats 2000000 in
theorem b_fail {w : World} {p : Nat} {s : Bst} (h : Dr p s w) : Calls Tryz.prog 110 #[.pointer (some ⟨p, 0, none⟩)] w fun e w' => e = .returned (.tuple #[]) ∧ Dq w p badS w' := by
  obtain ⟨a, c, h⟩ := h
  have HO := Lib.hid h.own
  have p0 : w.cell? ⟨p, 0, none⟩ = some (.slice a s.1.length c) := by rw [cell_of_row _ _ 0 _ _ _ h.own]; rfl
  have p1 : w.cell? ⟨p, 1, none⟩ = some (.bool s.2) := by rw [cell_of_row _ _ 1 _ _ _ h.own]; rfl
  have q0 : w.frozen? ⟨p, 0, none⟩ = false := own_frozen h.own 0
  have q1 : w.frozen? ⟨p, 1, none⟩ = false := own_frozen h.own 1
  clear h
  go_enter Tryz.func110, Tryz.ntmps110
  go_wp2_with (fail)
  refine bodyPost_end (results_none rfl _ _ _) rfl ⟨rfl, dr_bad ?_, ?_⟩
  · exact heap_setCell_same _ p 1 _ _ _ (heap_setCell_same w p 0 _ _ _ HO.out)
  · exact ((Keep.refl _ _).setCell (p := ⟨p, 0, none⟩) _ HO.out (fun q => q rfl)).setCell (p := ⟨p, 1, none⟩) _ (heap_setCell_same w p 0 _ _ _ HO.out) (fun q => q rfl)
set_option maxHeartbeats 4000000 in
theorem b_digits {w : World} {p : Nat} {s : Bst} (h : Dr p s w) : Calls Tryz.prog 111 #[.pointer (some ⟨p, 0, none⟩)] w fun e w' => e = .returned (.int .u64 ((digR s).1 : Int)) ∧ Dq w p (digR s).2 w' := by
  have HF : Hid (Calls Tryz.prog 110 #[.pointer (some ⟨p, 0, none⟩)] w fun e w' => e = .returned (.tuple #[]) ∧ Dq w p badS w') := b_fail h
  obtain ⟨a, c, h⟩ := h
  have HP := Lib.hid h
  obtain ⟨l, b⟩ := s
  have p0 : w.cell? ⟨p, 0, none⟩ = some (.slice a l.length c) := by rw [cell_of_row _ _ 0 _ _ _ h.own]; rfl
  have hN := h.cap
  have hM := h.mx
  have hCM := h.cm
  simp only at hM
  simp only at hN
  obtain ⟨N, hn⟩ : ∃ n, n = l.length := ⟨_, rfl⟩
  have HN := Lib.hid hn
  clear hn h
  go_enter Tryz.func111, Tryz.ntmps111
  go_wp2_with fail
  go_loopg [3, 13] (N + 1) (fun m' y z X => ∃ (j n : Nat), y = .int .u64 (n : Int) ∧ z = .int .i64 (j : Int) ∧ j ≤ N ∧ m' = N - j + 1 ∧ n < 18446744073709551616 ∧ dgA l 0 0 = dgA (l.drop j) j n ∧ w = X)
  case atStart => exact ⟨0, 0, rfl, rfl, Nat.zero_le _, by omega, by decide, rfl, rfl⟩
  case round =>
    obtain ⟨j, n, rfl, rfl, hj, hm, hn, he, rfl⟩ := hrel
    have HM := Lib.hid hm
    have HE := Lib.hid he
    have HNN := Lib.hid hn
    clear hm he hn
    by_cases hjn : j < N
    · have hjl : j < l.length := by rw [← HN.out]; exact hjn
      obtain ⟨x, hx⟩ : ∃ x, l[j]? = some x := ⟨_, List.getElem?_eq_getElem hjl⟩
      have hdr : l.drop j = x :: l.drop (j + 1) := by
        rw [List.drop_eq_getElem_cons hjl]
        rw [List.getElem?_eq_getElem hjl] at hx
        injection hx with hx
        rw [hx]
      have hbs := HP.out.bys
      rcases hbs with e | ⟨g, q, e, hg, hb⟩
      · simp only at e; rw [e] at hjl; simp at hjl
      simp only at e hb
      subst e
      have p2 := hb j x hx
      have q0 : w.frozen? ⟨p, 0, none⟩ = false := own_frozen HP.out.own 0
      have hjj : (j : Int) < (l.length : Int) := by omega
      have hx2 : x.toNat < 256 := x.toNat_lt
      have e1 : IntKind.u64.wrap (bits BinOp.and IntKind.u8 (x.toNat : Int) 127) = ((x.toNat % 128 : Nat) : Int) := by
        rw [and_dig x.toNat hx2, IntKind.wrap_u64]
        omega
      obtain ⟨xn, hxn⟩ : ∃ n, n = x.toNat := ⟨_, rfl⟩
      rw [← hxn] at p2 hx2 e1
      have HXN := Lib.hid hxn
      have HB := Lib.hid hb
      have HDR := Lib.hid hdr
      clear hx hxn hb hdr
      obtain ⟨d, hd⟩ : ∃ d, d = xn % 128 := ⟨_, rfl⟩
      rw [← hd] at e1
      have HD := Lib.hid hd
      have hs1 : ∀ W : World, (Op.shift .shl .u64 (d : Int) .i64 ((j : Int) * 7)).run Tryz.prog W = .ok (.int .u64 ((d <<< (7 * j) % 18446744073709551616 : Nat) : Int)) W := fun W => shl_run d j W
      obtain ⟨e, he⟩ : ∃ e, e = d <<< (7 * j) % 18446744073709551616 := ⟨_, rfl⟩
      have hel : e < 18446744073709551616 := by rw [he]; exact Nat.mod_lt _ (by decide)
      rw [← he] at hs1
      have HEE := Lib.hid he
      have hor := bits_or_u64_nat n e HNN.out hel
      obtain ⟨m, hm⟩ : ∃ m, m = n ||| e := ⟨_, rfl⟩
      have hml : m < 18446744073709551616 := by rw [hm]; exact Nat.or_lt_two_pow (n := 64) HNN.out hel
      rw [← hm] at hor
      have hs2 : ∀ W : World, (Op.shift .shr .u64 (m : Int) .i64 ((j : Int) * 7)).run Tryz.prog W = .ok (.int .u64 ((m >>> (7 * j) : Nat) : Int)) W := fun W => shr_run m j hml W
      obtain ⟨r, hr⟩ : ∃ r, r = m >>> (7 * j) := ⟨_, rfl⟩
      rw [← hr] at hs2
      have HMM := Lib.hid hm
      have HRR := Lib.hid hr
      clear hd he hm hr hel
      go_upto_region 6 with (fail)
      clear e1
      have HEQ : Hid (dgA l 0 0 = if r = d then (if xn ≤ 127 then (if xn = 0 ∧ 0 < j then none else some (m, l.drop (j + 1))) else dgA (l.drop (j + 1)) (j + 1) m) else none) := by
        rw [Hid, HE.out, HDR.out]
        show (if _ then _ else _) = _
        rw [← HXN.out, ← HD.out, ← HEE.out, ← HMM.out, ← HRR.out]
      have HFAIL : Hid (dgA l 0 0 = none → ∀ (e : Ending) (w' : World), e = .returned (.int .u64 0) → Dq w p badS w' → e = .returned (.int .u64 ((digR (l, b)).1 : Int)) ∧ Dq w p (digR (l, b)).2 w') := fun hn e w' h1 h2 => by
        have h3 : digR (l, b) = (0, badS) := by unfold digR; rw [hn]
        rw [h3]
        exact ⟨h1, h2⟩
      by_cases hrd : r = d
      · have e2 : ((r : Int) != (d : Int)) = false := by rw [hrd]; simp
        rw [Hid, if_pos hrd] at HEQ
        go_upto_region 8 with (fail)
        by_cases h7 : xn ≤ 127
        · have e3 : (xn : Int) ≤ 127 := by omega
          rw [if_pos h7] at HEQ
          by_cases hz : xn = 0 ∧ 0 < j
          · rw [if_pos hz] at HEQ
            have e4 : (xn : Int) = 0 := by omega
            have e5 : (0 : Int) < (j : Int) := by omega
            have HEQ := Lib.hid HEQ
            go_wp2_with (go_at_call 110; refine HF.out.mono ?_; rintro e w2 ⟨rfl, hq⟩; have HQ := Lib.hid hq; clear hq)
            go_ret
            exact HFAIL.out HEQ.out _ _ rfl HQ.out
          · rw [if_neg hz] at HEQ
            have HEQ := Lib.hid HEQ
            have HOK : Hid (∀ (a' : Option Addr) (c' : Nat), (a' = some ⟨g, q + (j + 1), none⟩ ∨ l.length - (j + 1) = 0) → l.length - (j + 1) ≤ c' → c' ≤ c → (Ending.returned (.int .u64 (m : Int)) = .returned (.int .u64 ((digR (l, b)).1 : Int)) ∧ Dq w p (digR (l, b)).2 (w.setCell ⟨p, 0, none⟩ (.slice a' (l.length - (j + 1)) c')))) := fun a' c' h1 h2 h3 => by
              have h4 : digR (l, b) = (m, (l.drop (j + 1), b)) := by unfold digR; rw [HEQ.out]
              rw [h4]
              exact ⟨rfl, dr_cut HP.out hjl h1 h2 h3⟩
            by_cases hx0 : xn = 0
            · have e4 : (xn : Int) = 0 := by omega
              have e5 : ¬ (0 : Int) < (j : Int) := by omega
              go_wp2_with (fail)
              all_goals
                go_ret
                exact HOK.out _ _ (by first | exact .inl rfl | (right; omega)) (by omega) (by omega)
            · have e4 : ¬ (xn : Int) = 0 := by omega
              go_wp2_with (fail)
              all_goals
                go_ret
                exact HOK.out _ _ (by first | exact .inl rfl | (right; omega)) (by omega) (by omega)
        · rw [if_neg h7] at HEQ
          have e3 : ¬ (xn : Int) ≤ 127 := by omega
          have HEQ := Lib.hid HEQ
          go_wp2_with (fail)
          go_roundg (N - (j + 1) + 1)
          case measure => have := HM.out; omega
          case rel => exact ⟨j + 1, m, rfl, by simp, by omega, by omega, hml, HEQ.out, rfl⟩
      · have e2 : ((r : Int) != (d : Int)) = true := by simp; omega
        rw [Hid, if_neg hrd] at HEQ
        have HEQ := Lib.hid HEQ
        go_wp2_with (go_at_call 110; refine HF.out.mono ?_; rintro e w2 ⟨rfl, hq⟩; have HQ := Lib.hid hq; clear hq)
        go_ret
        exact HFAIL.out HEQ.out _ _ rfl HQ.out
    · have hjj : ¬ (j : Int) < (l.length : Int) := by have := HN.out; omega
      have hd0 : l.drop j = [] := List.drop_eq_nil_of_le (by have := HN.out; omega)
      have h3 : digR (l, b) = (0, badS) := by
        unfold digR
        simp only
        rw [HE.out, hd0]
        rfl
      have H3 := Lib.hid h3
      clear h3 hd0
      go_wp2_with (go_at_call 110; refine HF.out.mono ?_; rintro e w2 ⟨rfl, hq⟩; have HQ := Lib.hid hq; clear hq)
      go_ret
      rw [H3.out]
      exact ⟨rfl, HQ.out⟩
end Go.Proofs.YtgmcfinjlddgbaaGreatDoor
namespace Go.Proofs.YtgmcfinjlddgbaaGreatDoor
open Go.RowKit
set_option linter.unusedVariables false
set_option maxRecDepth 100000
/-- What a call does that reads into a place. -/
structure D2 (w : World) (B p : Nat) (s : Bst) (g : Nat) (ty : TypeId) (row : Array Value) (W : World) : Prop where
  st : Dr p s W
  dst : Own W g ty row
  keep : Keep (fun k _ => k ≠ p ∧ k ≠ g) w W
  bel : Below B w W
section
variable {w W W' : World} {B p g : Nat} {s t : Bst} {ty : TypeId} {row row' : Array Value}
theorem d2_new (h : Dr p s w) (ho : Own w g ty row) : D2 w B p s g ty row w := ⟨h, ho, Keep.refl _ _, Below.refl _ _⟩
theorem D2.trans {w0 : World} (h : D2 w0 B p s g ty row w) (k : D2 w B p t g ty row' W) : D2 w0 B p t g ty row' W := ⟨k.st, k.dst, h.keep.trans k.keep, h.bel.trans k.bel⟩
theorem D2.below (h : D2 w B p s g ty row W) (hb : Below W.heap.size W W') (hB : B ≤ p) : D2 w B p s g ty row W' := ⟨h.st.below hb, h.dst.below hb, h.keep.trans (keep_below hb), h.bel.trans (hb.mono (by have := h.st.lt; omega))⟩
theorem Dq.d2 (h : Dq w p s W) (ho : Own w g ty row) (hg : p < g) (hB : B ≤ p) : D2 w B p s g ty row W := ⟨h.st, h.other ho (by omega), h.keep.mono fun k o q => q.1, (h.bel (by have := ho.lt; omega)).mono hB⟩
theorem D2.store (h : D2 w B p s g ty row W) (hg : p < g) (hB : B ≤ p) (o : Nat) (v : Value) : D2 w B p s g ty (row.setIfInBounds o v) (W.setCell ⟨g, o, none⟩ v) :=
  ⟨h.st.keep fun k hk => Below.heap_setCell W ⟨g, o, none⟩ v k (by show k ≠ g; omega), heap_setCell_same W g o _ _ v h.dst, h.keep.setCell (p := ⟨g, o, none⟩) v h.dst (fun q => q.2 rfl), h.bel.setCell (p := ⟨g, o, none⟩) (by show B ≤ g; omega) v⟩
theorem D2.other (h : D2 w B p s g ty row W) {k : Nat} {tz : TypeId} {rz : Array Value} (ho : Own w k tz rz) (h1 : k ≠ p) (h2 : k ≠ g) : Own W k tz rz := h.keep.block _ _ ho ⟨h1, h2⟩
/-- Read into a box of its own. -/
theorem D2.dq {o : Obj} (h : D2 (w.alloc o) B p s w.heap.size ty row W) : Dq w p s W := ⟨h.st, h.keep.os, h.keep.tape, h.keep.output, Nat.le_trans (by simp) h.keep.size, fun k x hk hs => by
  have hl : k < w.heap.size := (Array.getElem?_eq_some_iff.1 hk).1
  exact h.keep.block k x ((heap_alloc_old w o hl).trans hk) ⟨hs, Nat.ne_of_lt hl⟩⟩
end
set_option maxHeartbeats 2000000 in
theorem b_number {w : World} {B p : Nat} {s : Bst} (h : Dr p s w) {g o : Nat} {ty : TypeId} {row : Array Value} {x : Int} (ho : Own w g ty row) (hg : p < g) (hu : row[o]? = some (.int .i64 x)) (hB : B ≤ p) :
    Calls Tryz.prog 89 #[.pointer (some ⟨p, 0, none⟩), .pointer (some ⟨g, o, none⟩)] w fun e w' => e = .returned (.tuple #[]) ∧ D2 w B p (numR x s).2 g ty (row.setIfInBounds o (.int .i64 (numR x s).1)) w' := by
  have HA : Hid (Calls Tryz.prog 111 #[.pointer (some ⟨p, 0, none⟩)] w fun e w' => e = .returned (.int .u64 ((digR s).1 : Int)) ∧ Dq w p (digR s).2 w') := b_digits h
  have HG : Hid (∀ X t, Dq w p t X → D2 w B p t g ty row X ∧ X.cell? ⟨g, o, none⟩ = some (.int .i64 x) ∧ X.frozen? ⟨g, o, none⟩ = false) := fun X t hX => ⟨hX.d2 ho hg hB, by rw [cell_of_row _ _ o _ _ _ (hX.other ho (by omega))]; exact hu, own_frozen (hX.other ho (by omega)) o⟩
  have HFL : Hid (∀ X t, Dq w p t X → Calls Tryz.prog 110 #[.pointer (some ⟨p, 0, none⟩)] X fun e w' => e = .returned (.tuple #[]) ∧ Dq w p badS w') := fun X t hX => (b_fail hX.st).mono fun _ _ ⟨h1, h2⟩ => ⟨h1, hX.trans h2⟩
  have HH := Lib.hid (And.intro hg hB)
  have hrow : row.setIfInBounds o (.int .i64 x) = row := by
    apply Array.ext_getElem?
    intro i
    by_cases hi : i = o
    · subst hi
      rw [Array.getElem?_setIfInBounds_self_of_lt (Array.getElem?_eq_some_iff.1 hu).1, hu]
    · rw [Array.getElem?_setIfInBounds_ne (by omega)]
  have HRW := Lib.hid hrow
  have HN : Hid (numR x s = if 9223372036854775807 < ((digR s).1 : Int) then (x, badS) else (((digR s).1 : Int), (digR s).2)) := rfl
  generalize digR s = r at HA HN
  obtain ⟨n, t⟩ := r
  simp only at HA HN
  clear h ho hg hu hB hrow
  by_cases hb : 9223372036854775807 < (n : Int)
  · have HNB : Hid (numR x s = (x, badS)) := by rw [Hid, HN.out, if_pos hb]
    clear HN
    rw [HNB.out]
    simp only
    rw [HRW.out]
    go_enter Tryz.func89, Tryz.ntmps89
    go_wp2_with (first | (go_at_call 111; refine HA.out.mono ?_; rintro e w2 ⟨rfl, hq⟩; have HQ := Lib.hid hq; clear hq) | (go_at_call 110; refine (HFL.out _ _ HQ.out).mono ?_; rintro e w3 ⟨rfl, hq⟩; have HQ3 := Lib.hid hq; clear hq))
    exact bodyPost_ret (results_none rfl _ _ _) rfl ⟨rfl, (HG.out _ _ HQ3.out).1⟩
  · have HNB : Hid (numR x s = ((n : Int), t)) := by rw [Hid, HN.out, if_neg hb]
    clear HN
    rw [HNB.out]
    simp only
    go_enter Tryz.func89, Tryz.ntmps89
    go_wp2_with (first | (go_at_call 111; refine HA.out.mono ?_; rintro e w2 ⟨rfl, hq⟩; have HQ := Lib.hid hq; obtain ⟨_, d0, d1⟩ := HG.out _ _ hq; clear hq))
    have hw : IntKind.i64.wrap (n : Int) = (n : Int) := by rw [IntKind.wrap_i64]; omega
    try rw [hw]
    exact bodyPost_end (results_none rfl _ _ _) rfl ⟨rfl, (HG.out _ _ HQ.out).1.store HH.out.1 HH.out.2 o _⟩
theorem addr_addD (g q j : Nat) : (⟨g, q, none⟩ : Addr).add j = ⟨g, q + j, none⟩ := by unfold Addr.add; split <;> simp_all
theorem unz_odd (n : Nat) (hn : n < 18446744073709551616) (h : n % 2 = 1) : bits .xor .i64 (-1) ((n / 2 : Nat) : Int) = unz n := by
  rw [Lib.i64_not _ (by omega)]
  unfold unz
  rw [if_pos h]
set_option maxHeartbeats 2000000 in
theorem b_word {w : World} {B p : Nat} {s : Bst} (h : Dr p s w) {g o : Nat} {ty : TypeId} {row : Array Value} {x : Int} (ho : Own w g ty row) (hg : p < g) (hu : row[o]? = some (.int .i64 x)) (hB : B ≤ p) :
    Calls Tryz.prog 91 #[.pointer (some ⟨p, 0, none⟩), .pointer (some ⟨g, o, none⟩)] w fun e w' => e = .returned (.tuple #[]) ∧ D2 w B p (wrdR s).2 g ty (row.setIfInBounds o (.int .i64 (wrdR s).1)) w' := by
  have HA : Hid (Calls Tryz.prog 111 #[.pointer (some ⟨p, 0, none⟩)] w fun e w' => e = .returned (.int .u64 ((digR s).1 : Int)) ∧ Dq w p (digR s).2 w') := b_digits h
  have hlt := digR_lt s
  have hset : ∀ a b : Value, (row.setIfInBounds o a).setIfInBounds o b = row.setIfInBounds o b := fun a b => by
    apply Array.ext_getElem?
    intro i
    by_cases hi : i = o
    · subst hi
      have hl := (Array.getElem?_eq_some_iff.1 hu).1
      rw [Array.getElem?_setIfInBounds_self_of_lt (by simpa using hl), Array.getElem?_setIfInBounds_self_of_lt hl]
    · rw [Array.getElem?_setIfInBounds_ne (by omega), Array.getElem?_setIfInBounds_ne (by omega), Array.getElem?_setIfInBounds_ne (by omega)]
  have HSET := Lib.hid hset
  have hol := (Array.getElem?_eq_some_iff.1 hu).1
  have HG : Hid (∀ X t, Dq w p t X → D2 w B p t g ty row X ∧ X.cell? ⟨g, o, none⟩ = some (.int .i64 x) ∧ X.frozen? ⟨g, o, none⟩ = false) := fun X t hX => ⟨hX.d2 ho hg hB, by rw [cell_of_row _ _ o _ _ _ (hX.other ho (by omega))]; exact hu, own_frozen (hX.other ho (by omega)) o⟩
  have HH := Lib.hid (And.intro hg hB)
  have HN : Hid (wrdR s = (unz (digR s).1, (digR s).2)) := rfl
  rw [HN.out]
  clear HN
  generalize digR s = r at HA hlt ⊢
  obtain ⟨n, t⟩ := r
  simp only at HA hlt ⊢
  have hw : IntKind.i64.wrap ((n : Int) / 2) = ((n / 2 : Nat) : Int) := by rw [IntKind.wrap_i64]; omega
  have ha := Lib.u64_and1 (n : Int) (by omega) (by omega)
  clear h ho hg hu hB hset
  by_cases hb : n % 2 = 1
  · have ha2 : bits .and .u64 (n : Int) 1 = 1 := by rw [ha]; omega
    have hx2 := unz_odd n hlt hb
    have HU := Lib.hid hx2
    clear ha hx2
    go_enter Tryz.func91, Tryz.ntmps91
    go_wp2_with (first | (go_at_call 111; refine HA.out.mono ?_; rintro e w2 ⟨rfl, hq⟩; have HQ := Lib.hid hq; obtain ⟨_, d0, d1⟩ := HG.out _ _ hq; clear hq))
    have hq2 : (n : Int) / 2 = ((n / 2 : Nat) : Int) := by omega
    rw [hq2, HU.out]
    have h2 := ((HG.out _ _ HQ.out).1.store HH.out.1 HH.out.2 o (.int .i64 ((n / 2 : Nat) : Int))).store HH.out.1 HH.out.2 o (.int .i64 (unz n))
    rw [HSET.out] at h2
    exact bodyPost_end (results_none rfl _ _ _) rfl ⟨rfl, h2⟩
  · have hn2 : unz n = ((n / 2 : Nat) : Int) := by unfold unz; rw [if_neg hb]
    have ha2 : bits .and .u64 (n : Int) 1 = 0 := by rw [ha]; omega
    have HU := Lib.hid hn2
    clear ha hn2
    go_enter Tryz.func91, Tryz.ntmps91
    go_wp2_with (first | (go_at_call 111; refine HA.out.mono ?_; rintro e w2 ⟨rfl, hq⟩; have HQ := Lib.hid hq; obtain ⟨_, d0, d1⟩ := HG.out _ _ hq; clear hq))
    have hq2 : (n : Int) / 2 = ((n / 2 : Nat) : Int) := by omega
    rw [hq2, ← HU.out]
    exact bodyPost_end (results_none rfl _ _ _) rfl ⟨rfl, (HG.out _ _ HQ.out).1.store HH.out.1 HH.out.2 o (.int .i64 (unz n))⟩
theorem numR_bd (x : Int) (hx : I64 x) (s : Bst) : I64 (numR x s).1 := by
  unfold numR
  split
  · exact hx
  · constructor <;> simp only <;> omega
theorem numR_nn (s : Bst) : 0 ≤ (numR 0 s).1 := by
  unfold numR
  split
  · simp
  · simp only; omega
set_option maxHeartbeats 2000000 in
theorem b_count {w : World} {p : Nat} {s : Bst} (h : Dr p s w) (most : Int) (hm : 0 ≤ most) (hm2 : most ≤ 9223372036854775807) :
    Calls Tryz.prog 112 #[.pointer (some ⟨p, 0, none⟩), .int .i64 most] w fun e w' => e = .returned (.int .i64 (cntR most s).1) ∧ Dq w p (cntR most s).2 w' := by
  have al : Below w.heap.size w (w.alloc (.cells #[.int .i64 0] 3)) := (Below.refl _ w).alloc (Nat.le_refl _) _
  have O0 := Own.new w 3 #[.int .i64 0]
  have hpw := h.lt
  have HA : Hid (Calls Tryz.prog 89 #[.pointer (some ⟨p, 0, none⟩), .pointer (some ⟨w.heap.size, 0, none⟩)] (w.alloc (.cells #[.int .i64 0] 3)) fun e w' => e = .returned (.tuple #[]) ∧ D2 (w.alloc (.cells #[.int .i64 0] 3)) p p (numR 0 s).2 w.heap.size 3 #[.int .i64 (numR 0 s).1] w') := (b_number (h.below al) O0 hpw rfl (Nat.le_refl _)).mono fun _ _ ⟨h1, h2⟩ => ⟨h1, by simpa using h2⟩
  have HN : Hid (cntR most s = if most < (numR 0 s).1 then (0, badS) else numR 0 s) := rfl
  have hnn := numR_nn s
  have hbd := numR_bd 0 ⟨by decide, by decide⟩ s
  rw [HN.out]
  clear HN
  generalize numR 0 s = r at HA hnn hbd ⊢
  obtain ⟨n, t⟩ := r
  simp only at HA hnn hbd ⊢
  have HFL : Hid (∀ X, D2 (w.alloc (.cells #[.int .i64 0] 3)) p p t w.heap.size 3 #[.int .i64 n] X → Calls Tryz.prog 110 #[.pointer (some ⟨p, 0, none⟩)] X fun e w' => e = .returned (.tuple #[]) ∧ Dq w p badS w') := fun X hX => (b_fail hX.st).mono fun _ _ ⟨h1, h2⟩ => ⟨h1, hX.dq.trans h2⟩
  obtain ⟨W0, hW0⟩ : ∃ W, W = w.alloc (.cells #[.int .i64 0] 3) := ⟨_, rfl⟩
  have HDQ : Hid (∀ X, D2 W0 p p t w.heap.size 3 #[.int .i64 n] X → Dq w p t X ∧ X.cell? ⟨w.heap.size, 0, none⟩ = some (.int .i64 n)) := fun X hX => ⟨by rw [hW0] at hX; exact hX.dq, row_cellsO hX.dst 0 _ rfl⟩
  rw [← hW0] at HA HFL O0
  have HW0 := Lib.hid hW0
  have c0 : W0.cell? ⟨w.heap.size, 0, none⟩ = some (.int .i64 0) := row_cellsO O0 0 _ rfl
  clear h al O0 hW0 hpw
  by_cases hb : most < n
  · rw [if_pos hb]
    go_enter Tryz.func112, Tryz.ntmps112
    go_upto_region 2 with fail
    rw [← HW0.out]
    clear HW0
    go_wp2_with (first | (go_at_call 89; refine HA.out.mono ?_; rintro e w2 ⟨rfl, hq⟩; have HQ := Lib.hid hq; obtain ⟨_, d0⟩ := HDQ.out _ hq; clear hq c0) | (go_at_call 110; refine (HFL.out _ HQ.out).mono ?_; rintro e w3 ⟨rfl, hq⟩; have HQ3 := Lib.hid hq; clear hq d0))
    go_ret
    exact ⟨rfl, HQ3.out⟩
  · rw [if_neg hb]
    go_enter Tryz.func112, Tryz.ntmps112
    go_upto_region 2 with fail
    rw [← HW0.out]
    clear HW0
    go_wp2_with (first | (go_at_call 89; refine HA.out.mono ?_; rintro e w2 ⟨rfl, hq⟩; have HQ := Lib.hid hq; obtain ⟨_, d0⟩ := HDQ.out _ hq; clear hq c0))
    go_ret
    exact ⟨rfl, (HDQ.out _ HQ.out).1⟩
set_option maxHeartbeats 2000000 in
theorem b_take {w : World} {p : Nat} {s : Bst} (h : Dr p s w) (k : Int) (hk : 0 ≤ k) (hk2 : k ≤ 1000000) :
    Calls Tryz.prog 88 #[.pointer (some ⟨p, 0, none⟩), .int .i64 k] w fun e w' => e = .returned (.string ⟨(takR k s).1.toArray⟩) ∧ Dq w p (takR k s).2 w' := by
  have HF : Hid (Calls Tryz.prog 110 #[.pointer (some ⟨p, 0, none⟩)] w fun e w' => e = .returned (.tuple #[]) ∧ Dq w p badS w') := b_fail h
  obtain ⟨a, c, h⟩ := h
  have HP := Lib.hid h
  obtain ⟨l, b⟩ := s
  have p0 : w.cell? ⟨p, 0, none⟩ = some (.slice a l.length c) := by rw [cell_of_row _ _ 0 _ _ _ h.own]; rfl
  have q0 : w.frozen? ⟨p, 0, none⟩ = false := own_frozen h.own 0
  have hN := h.cap
  have hM := h.mx
  have hCM := h.cm
  simp only at hM
  simp only at hN
  clear h
  by_cases hb : (l.length : Int) < k
  · have e1 : takR k (l, b) = ([], badS) := by unfold takR; rw [if_pos hb]
    rw [e1]
    go_enter Tryz.func88, Tryz.ntmps88
    go_wp2_with (go_at_call 110; refine HF.out.mono ?_; rintro e w3 ⟨rfl, hq⟩; have HQ3 := Lib.hid hq; clear hq)
    go_ret
    exact ⟨rfl, HQ3.out⟩
  · obtain ⟨m, rfl⟩ : ∃ m : Nat, k = (m : Int) := ⟨k.toNat, by omega⟩
    have hml : m ≤ l.length := by omega
    have e1 : takR (m : Int) (l, b) = (l.take m, (l.drop m, b)) := by unfold takR; rw [if_neg hb]; simp
    rw [e1]
    have hcv : (convert 50 9 (.slice a m c)).run Tryz.prog w = .ok (.string ⟨(l.take m).toArray⟩) w := by
      have hb2 := HP.out.bys
      cases a with
      | none =>
        rcases hb2 with e | ⟨g, q, e, _⟩
        · simp only at e
          subst e
          obtain rfl : m = 0 := by simpa using hml
          exact Lib.run_convert_nil_bytes w _ _ _ c Tryz.underlying50 Tryz.underlying5 Tryz.underlying9
        · cases e
      | some d =>
        have hl : (l.take m).length = m := by rw [List.length_take]; omega
        have h5 := run_convert_bytes_back (P := Tryz.prog) w 50 9 _ d c (l.take m) Tryz.underlying50 Tryz.underlying5 Tryz.underlying9 (fun j hj => by
          rcases hb2 with e | ⟨g, q, e, _, hx⟩
          · simp only at e
            subst e
            simp at hj
          · injection e with e
            subst e
            rw [addr_addD]
            simp only at hx
            refine hx j _ ?_
            rw [List.getElem_take]
            exact List.getElem?_eq_getElem (by rw [List.length_take] at hj; omega))
        rw [hl] at h5
        exact h5
    have hms : (m : Int) ≤ (l.length : Int) := by omega
    have HOK : Hid (∀ (a' : Option Addr) (c' : Nat), (∀ g q, a = some ⟨g, q, none⟩ → a' = some ⟨g, q + m, none⟩ ∨ l.length - m = 0) → l.length - m ≤ c' → c' ≤ c → Dq w p (l.drop m, b) (w.setCell ⟨p, 0, none⟩ (.slice a' (l.length - m) c'))) := fun a' c' h1 h2 h3 => by
      have h4 := HP.out
      rcases h4.bys with e | ⟨g, q, e, _⟩
      · simp only at e
        subst e
        obtain rfl : m = 0 := by simpa using hml
        have hO := heap_setCell_same w p 0 _ _ (.slice a' 0 c') h4.own
        exact ⟨⟨a', c', hO, .inl rfl, Nat.zero_le _, Nat.zero_le _, Nat.le_trans h3 h4.cm⟩, (Keep.refl _ _).setCell (p := ⟨p, 0, none⟩) _ h4.own (fun q => q rfl)⟩
      · subst e
        exact dr_cut h4 hml (h1 g q rfl) h2 h3
    go_enter Tryz.func88, Tryz.ntmps88
    go_wp2_with (fail)
    all_goals
      go_ret
      exact ⟨rfl, HOK.out _ _ (by intro g q e; subst e; first | (right; omega) | (left; simp [addr_addD])) (by omega) (by omega)⟩
end Go.Proofs.YtgmcfinjlddgbaaGreatDoor
namespace Go.Proofs.YtgmcfinjlddgbaaGreatDoor
open Go.RowKit
set_option linter.unusedVariables false
set_option maxRecDepth 100000
/-- One field is read. -/
def stepB : Nat → Bst × Ins → Bst × Ins
  | 0, x => ((numR x.2.d x.1).2, { x.2 with d := (numR x.2.d x.1).1 })
  | 1, x => ((numR x.2.a x.1).2, { x.2 with a := (numR x.2.a x.1).1 })
  | 2, x => ((numR x.2.b x.1).2, { x.2 with b := (numR x.2.b x.1).1 })
  | 3, x => ((numR x.2.ad x.1).2, { x.2 with ad := (numR x.2.ad x.1).1 })
  | 4, x => ((numR x.2.tt x.1).2, { x.2 with tt := (numR x.2.tt x.1).1 })
  | _, x => ((wrdR x.1).2, { x.2 with wd := (wrdR x.1).1 })
/-- The fields that are used are read, one by one. -/
def vB (u : Int) : Nat → Bst × Ins → Bst × Ins
  | 0, x => x
  | j + 1, x => bif hasB u (fldB j) then stepB j (vB u j x) else vB u j x
set_option maxHeartbeats 8000000 in
theorem b_visit (i : Ins) (hg : rgI i) {w : World} {B p g : Nat} {s : Bst} (h : Dr p s w) (hi : Own w g 25 (insC i).toArray) (hgp : p < g) (hB : B ≤ p) (HT : ∀ X, Below B w X → TgT X) :
    Calls Tryz.prog 80 #[.agg #[.func (.func 89) #[.pointer (some ⟨p, 0, none⟩)] #[], .func (.func 89) #[.pointer (some ⟨p, 0, none⟩)] #[], .func (.func 91) #[.pointer (some ⟨p, 0, none⟩)] #[]], .pointer (some ⟨g, 0, none⟩)] w fun e w' => e = .returned (.tuple #[]) ∧ D2 w B p (vB (uB i.k i.o) 6 (s, i)).1 g 25 (insC (vB (uB i.k i.o) 6 (s, i)).2).toArray w' := by
  have al : Below w.heap.size w (w.alloc (.cells #[.func (.func 89) #[.pointer (some ⟨p, 0, none⟩)] #[], .func (.func 89) #[.pointer (some ⟨p, 0, none⟩)] #[], .func (.func 91) #[.pointer (some ⟨p, 0, none⟩)] #[]] 129)) := (Below.refl _ w).alloc (Nat.le_refl _) _
  have hq0 : D2 w B p s g 25 (insC i).toArray (w.alloc (.cells #[.func (.func 89) #[.pointer (some ⟨p, 0, none⟩)] #[], .func (.func 89) #[.pointer (some ⟨p, 0, none⟩)] #[], .func (.func 91) #[.pointer (some ⟨p, 0, none⟩)] #[]] 129)) := (d2_new h hi).below al hB
  have ho0 := Own.new w 129 #[.func (.func 89) #[.pointer (some ⟨p, 0, none⟩)] #[], .func (.func 89) #[.pointer (some ⟨p, 0, none⟩)] #[], .func (.func 91) #[.pointer (some ⟨p, 0, none⟩)] #[]]
  have hn1 : w.heap.size ≠ p := by have := h.lt; omega
  have hn2 : w.heap.size ≠ g := by have := hi.lt; omega
  obtain ⟨W0, hW0⟩ : ∃ W, W = w.alloc (.cells #[.func (.func 89) #[.pointer (some ⟨p, 0, none⟩)] #[], .func (.func 89) #[.pointer (some ⟨p, 0, none⟩)] #[], .func (.func 91) #[.pointer (some ⟨p, 0, none⟩)] #[]] 129) := ⟨_, rfl⟩
  rw [← hW0] at hq0 ho0
  have HW0 := Lib.hid hW0
  have HQW := Lib.hid hq0
  have B0 := hq0.bel
  have HUS : Hid (∀ X, Below B W0 X → Calls Tryz.prog 39 #[insV i] X fun e w' => e = .returned (.int .u64 (uB i.k i.o)) ∧ Below X.heap.size X w') := fun X h => usedBy_any i hg X (HT X (B0.trans h))
  obtain ⟨u, hu⟩ : ∃ u, u = uB i.k i.o := ⟨_, rfl⟩
  rw [← hu] at HUS ⊢
  obtain ⟨x, hx⟩ : ∃ x, x = (s, i) := ⟨_, rfl⟩
  rw [← hx]
  have HP0 : Hid (D2 W0 B p (vB u 0 x).1 g 25 (insC (vB u 0 x).2).toArray W0) := by rw [Hid, hx]; exact d2_new hq0.st hq0.dst
  have HH : Hid (∀ X f, Calls Tryz.prog 41 #[.int .u64 u, .int .u64 f] X fun e w' => e = .returned (.bool (hasB u f)) ∧ X = w') := fun X f => has_any u f X
  have HOX : Hid (∀ X y r, D2 W0 B p y g 25 r X → Own X w.heap.size 129 #[.func (.func 89) #[.pointer (some ⟨p, 0, none⟩)] #[], .func (.func 89) #[.pointer (some ⟨p, 0, none⟩)] #[], .func (.func 91) #[.pointer (some ⟨p, 0, none⟩)] #[]]) := fun X y r h => h.other ho0 hn1 hn2
  have HBP := Lib.hid hB
  have HS0 : Hid (∀ X (y : Bst × Ins), D2 W0 B p y.1 g 25 (insC y.2).toArray X → Calls Tryz.prog 89 #[.pointer (some ⟨p, 0, none⟩), .pointer (some ⟨g, 2, none⟩)] X fun e w' => e = .returned (.tuple #[]) ∧ D2 W0 B p (stepB 0 y).1 g 25 (insC (stepB 0 y).2).toArray w') := fun X y h1 => (b_number h1.st h1.dst hgp rfl hB).mono fun _ _ ⟨e1, e2⟩ => ⟨e1, h1.trans e2⟩
  have HS1 : Hid (∀ X (y : Bst × Ins), D2 W0 B p y.1 g 25 (insC y.2).toArray X → Calls Tryz.prog 89 #[.pointer (some ⟨p, 0, none⟩), .pointer (some ⟨g, 3, none⟩)] X fun e w' => e = .returned (.tuple #[]) ∧ D2 W0 B p (stepB 1 y).1 g 25 (insC (stepB 1 y).2).toArray w') := fun X y h1 => (b_number h1.st h1.dst hgp rfl hB).mono fun _ _ ⟨e1, e2⟩ => ⟨e1, h1.trans e2⟩
  have HS2 : Hid (∀ X (y : Bst × Ins), D2 W0 B p y.1 g 25 (insC y.2).toArray X → Calls Tryz.prog 89 #[.pointer (some ⟨p, 0, none⟩), .pointer (some ⟨g, 4, none⟩)] X fun e w' => e = .returned (.tuple #[]) ∧ D2 W0 B p (stepB 2 y).1 g 25 (insC (stepB 2 y).2).toArray w') := fun X y h1 => (b_number h1.st h1.dst hgp rfl hB).mono fun _ _ ⟨e1, e2⟩ => ⟨e1, h1.trans e2⟩
  have HS3 : Hid (∀ X (y : Bst × Ins), D2 W0 B p y.1 g 25 (insC y.2).toArray X → Calls Tryz.prog 89 #[.pointer (some ⟨p, 0, none⟩), .pointer (some ⟨g, 5, none⟩)] X fun e w' => e = .returned (.tuple #[]) ∧ D2 W0 B p (stepB 3 y).1 g 25 (insC (stepB 3 y).2).toArray w') := fun X y h1 => (b_number h1.st h1.dst hgp rfl hB).mono fun _ _ ⟨e1, e2⟩ => ⟨e1, h1.trans e2⟩
  have HS4 : Hid (∀ X (y : Bst × Ins), D2 W0 B p y.1 g 25 (insC y.2).toArray X → Calls Tryz.prog 89 #[.pointer (some ⟨p, 0, none⟩), .pointer (some ⟨g, 6, none⟩)] X fun e w' => e = .returned (.tuple #[]) ∧ D2 W0 B p (stepB 4 y).1 g 25 (insC (stepB 4 y).2).toArray w') := fun X y h1 => (b_number h1.st h1.dst hgp rfl hB).mono fun _ _ ⟨e1, e2⟩ => ⟨e1, h1.trans e2⟩
  have HS5 : Hid (∀ X (y : Bst × Ins), D2 W0 B p y.1 g 25 (insC y.2).toArray X → Calls Tryz.prog 91 #[.pointer (some ⟨p, 0, none⟩), .pointer (some ⟨g, 7, none⟩)] X fun e w' => e = .returned (.tuple #[]) ∧ D2 W0 B p (stepB 5 y).1 g 25 (insC (stepB 5 y).2).toArray w') := fun X y h1 => (b_word h1.st h1.dst hgp rfl hB).mono fun _ _ ⟨e1, e2⟩ => ⟨e1, h1.trans e2⟩
  have HO0 := Lib.hid ho0
  have HI0 := Lib.hid hq0.dst
  clear hg h hi hgp hB HT al hq0 ho0 hn1 hn2 hW0 B0 hu hx
  have OI := HI0.out
  go_enter Tryz.func80, Tryz.ntmps80
  go_upto_region 1 with (fail)
  rw [← HW0.out]
  clear HW0
  go_wp2_with (refine ld rowI rfl rfl rfl OI rfl ?_)
  go_at_call 39
  refine (HUS.out _ HP0.out.bel).mono ?_
  rintro e w1 ⟨rfl, hb⟩
  have HP1 := Lib.hid (HP0.out.below hb HBP.out)
  have HO1 := HOX.out _ _ _ HP1.out
  clear hb OI HI0 HP0 HO0 HUS
  have c0 : w1.cell? ⟨w.heap.size, 0, none⟩ = some (.func (.func 89) #[.pointer (some ⟨p, 0, none⟩)] #[]) := by rw [cell_of_row _ _ 0 _ _ _ HO1]; rfl
  have c1 : w1.cell? ⟨w.heap.size, 1, none⟩ = some (.func (.func 89) #[.pointer (some ⟨p, 0, none⟩)] #[]) := by rw [cell_of_row _ _ 1 _ _ _ HO1]; rfl
  go_wp2_with fail
  go_quiet (fail)
  have HP2 := Lib.hid (HP1.out.below (below_drewN (Below.refl _ w1) nq) HBP.out)
  obtain ⟨W2, hW2⟩ : ∃ W, W = w1.drewN nq := ⟨_, rfl⟩
  rw [← hW2] at HP2 ⊢
  clear hW2 HP1 HO1 c0 c1
  have hx0 : ∀ X : World, (Instr.index 154 (.agg #[.int .u64 2, .pointer (some ⟨g, 2, none⟩), .func (.func 89) #[.pointer (some ⟨p, 0, none⟩)] #[], .int .u64 4, .pointer (some ⟨g, 3, none⟩), .func (.func 89) #[.pointer (some ⟨p, 0, none⟩)] #[], .int .u64 8, .pointer (some ⟨g, 4, none⟩), .func (.func 89) #[.pointer (some ⟨p, 0, none⟩)] #[], .int .u64 16, .pointer (some ⟨g, 5, none⟩), .func (.func 89) #[.pointer (some ⟨p, 0, none⟩)] #[], .int .u64 32, .pointer (some ⟨g, 6, none⟩), .func (.func 89) #[.pointer (some ⟨p, 0, none⟩)] #[]]) (.int .i64 0)).run Tryz.prog X = .ok (.agg #[.int .u64 2, .pointer (some ⟨g, 2, none⟩), .func (.func 89) #[.pointer (some ⟨p, 0, none⟩)] #[]]) X := fun _ => rfl
  have hx1 : ∀ X : World, (Instr.index 154 (.agg #[.int .u64 2, .pointer (some ⟨g, 2, none⟩), .func (.func 89) #[.pointer (some ⟨p, 0, none⟩)] #[], .int .u64 4, .pointer (some ⟨g, 3, none⟩), .func (.func 89) #[.pointer (some ⟨p, 0, none⟩)] #[], .int .u64 8, .pointer (some ⟨g, 4, none⟩), .func (.func 89) #[.pointer (some ⟨p, 0, none⟩)] #[], .int .u64 16, .pointer (some ⟨g, 5, none⟩), .func (.func 89) #[.pointer (some ⟨p, 0, none⟩)] #[], .int .u64 32, .pointer (some ⟨g, 6, none⟩), .func (.func 89) #[.pointer (some ⟨p, 0, none⟩)] #[]]) (.int .i64 1)).run Tryz.prog X = .ok (.agg #[.int .u64 4, .pointer (some ⟨g, 3, none⟩), .func (.func 89) #[.pointer (some ⟨p, 0, none⟩)] #[]]) X := fun _ => rfl
  have hx2 : ∀ X : World, (Instr.index 154 (.agg #[.int .u64 2, .pointer (some ⟨g, 2, none⟩), .func (.func 89) #[.pointer (some ⟨p, 0, none⟩)] #[], .int .u64 4, .pointer (some ⟨g, 3, none⟩), .func (.func 89) #[.pointer (some ⟨p, 0, none⟩)] #[], .int .u64 8, .pointer (some ⟨g, 4, none⟩), .func (.func 89) #[.pointer (some ⟨p, 0, none⟩)] #[], .int .u64 16, .pointer (some ⟨g, 5, none⟩), .func (.func 89) #[.pointer (some ⟨p, 0, none⟩)] #[], .int .u64 32, .pointer (some ⟨g, 6, none⟩), .func (.func 89) #[.pointer (some ⟨p, 0, none⟩)] #[]]) (.int .i64 2)).run Tryz.prog X = .ok (.agg #[.int .u64 8, .pointer (some ⟨g, 4, none⟩), .func (.func 89) #[.pointer (some ⟨p, 0, none⟩)] #[]]) X := fun _ => rfl
  have hx3 : ∀ X : World, (Instr.index 154 (.agg #[.int .u64 2, .pointer (some ⟨g, 2, none⟩), .func (.func 89) #[.pointer (some ⟨p, 0, none⟩)] #[], .int .u64 4, .pointer (some ⟨g, 3, none⟩), .func (.func 89) #[.pointer (some ⟨p, 0, none⟩)] #[], .int .u64 8, .pointer (some ⟨g, 4, none⟩), .func (.func 89) #[.pointer (some ⟨p, 0, none⟩)] #[], .int .u64 16, .pointer (some ⟨g, 5, none⟩), .func (.func 89) #[.pointer (some ⟨p, 0, none⟩)] #[], .int .u64 32, .pointer (some ⟨g, 6, none⟩), .func (.func 89) #[.pointer (some ⟨p, 0, none⟩)] #[]]) (.int .i64 3)).run Tryz.prog X = .ok (.agg #[.int .u64 16, .pointer (some ⟨g, 5, none⟩), .func (.func 89) #[.pointer (some ⟨p, 0, none⟩)] #[]]) X := fun _ => rfl
  have hx4 : ∀ X : World, (Instr.index 154 (.agg #[.int .u64 2, .pointer (some ⟨g, 2, none⟩), .func (.func 89) #[.pointer (some ⟨p, 0, none⟩)] #[], .int .u64 4, .pointer (some ⟨g, 3, none⟩), .func (.func 89) #[.pointer (some ⟨p, 0, none⟩)] #[], .int .u64 8, .pointer (some ⟨g, 4, none⟩), .func (.func 89) #[.pointer (some ⟨p, 0, none⟩)] #[], .int .u64 16, .pointer (some ⟨g, 5, none⟩), .func (.func 89) #[.pointer (some ⟨p, 0, none⟩)] #[], .int .u64 32, .pointer (some ⟨g, 6, none⟩), .func (.func 89) #[.pointer (some ⟨p, 0, none⟩)] #[]]) (.int .i64 4)).run Tryz.prog X = .ok (.agg #[.int .u64 32, .pointer (some ⟨g, 6, none⟩), .func (.func 89) #[.pointer (some ⟨p, 0, none⟩)] #[]]) X := fun _ => rfl
  go_wp2_with fail
  go_loopg [42] 6 (fun m' z X => ∃ j : Nat, z = .int .i64 (j : Int) ∧ j ≤ 5 ∧ m' = 5 - j + 1 ∧ D2 W0 B p (vB u j x).1 g 25 (insC (vB u j x).2).toArray X)
  case atStart => exact ⟨0, rfl, by omega, by omega, HP2.out⟩
  case round =>
    clear HP2
    obtain ⟨j, rfl, hj, hm, hq⟩ := hrel
    have HM := Lib.hid hm
    have HP := Lib.hid hq
    clear hm hq
    rcases (show j = 0 ∨ j = 1 ∨ j = 2 ∨ j = 3 ∨ j = 4 ∨ j = 5 by omega) with rfl | rfl | rfl | rfl | rfl | rfl
    · have HBX := Lib.hid ((Below.refl wr.heap.size wr).alloc (Nat.le_refl _) (.cells #[.int .u64 2, .pointer (some ⟨g, 2, none⟩), .func (.func 89) #[.pointer (some ⟨p, 0, none⟩)] #[]] 153))
      have O6 := Own.new wr 153 #[.int .u64 2, .pointer (some ⟨g, 2, none⟩), .func (.func 89) #[.pointer (some ⟨p, 0, none⟩)] #[]]
      obtain ⟨W3, hW3⟩ : ∃ W, W = wr.alloc (.cells #[.int .u64 2, .pointer (some ⟨g, 2, none⟩), .func (.func 89) #[.pointer (some ⟨p, 0, none⟩)] #[]] 153) := ⟨_, rfl⟩
      rw [← hW3] at HBX O6
      have HW3 := Lib.hid hW3
      have e0 : W3.cell? ⟨wr.heap.size, 0, none⟩ = some (.int .u64 2) := by rw [cell_of_row _ _ 0 _ _ _ O6]; rfl
      have e1 : W3.cell? ⟨wr.heap.size, 1, none⟩ = some (.pointer (some ⟨g, 2, none⟩)) := by rw [cell_of_row _ _ 1 _ _ _ O6]; rfl
      have e2 : W3.cell? ⟨wr.heap.size, 2, none⟩ = some (.func (.func 89) #[.pointer (some ⟨p, 0, none⟩)] #[]) := by rw [cell_of_row _ _ 2 _ _ _ O6]; rfl
      have HP3 := Lib.hid (HP.out.below HBX.out HBP.out)
      clear hW3 O6 HBX HP
      go_upto_region 5 with (fail)
      rw [← HW3.out]
      clear HW3
      cases hh : hasB u 2 with
      | false =>
        have HR : Hid (vB u 1 x = vB u 0 x) := by show (bif hasB u 2 then _ else _) = _; rw [hh]; rfl
        go_wp2_with (go_at_call 41; refine (HH.out _ _).mono ?_; rintro e w' ⟨rfl, rfl⟩)
        go_roundg (5 - 1 + 1)
        case measure => have := HM.out; omega
        case rel => exact ⟨1, by simp, by omega, by omega, by rw [HR.out]; exact HP3.out⟩
      | true =>
        have HR : Hid (vB u 1 x = stepB 0 (vB u 0 x)) := by show (bif hasB u 2 then _ else _) = _; rw [hh]; rfl
        go_wp2_with (go_at_call 41; refine (HH.out _ _).mono ?_; rintro e w' ⟨rfl, rfl⟩)
        go_at_call 89
        refine (HS0.out _ _ HP3.out).mono ?_
        rintro e w4 ⟨rfl, hz⟩
        have HZ := Lib.hid hz
        clear hz
        go_wp2_with fail
        go_roundg (5 - 1 + 1)
        case measure => have := HM.out; omega
        case rel => exact ⟨1, by simp, by omega, by omega, by rw [HR.out]; exact HZ.out⟩
    · have HBX := Lib.hid ((Below.refl wr.heap.size wr).alloc (Nat.le_refl _) (.cells #[.int .u64 4, .pointer (some ⟨g, 3, none⟩), .func (.func 89) #[.pointer (some ⟨p, 0, none⟩)] #[]] 153))
      have O6 := Own.new wr 153 #[.int .u64 4, .pointer (some ⟨g, 3, none⟩), .func (.func 89) #[.pointer (some ⟨p, 0, none⟩)] #[]]
      obtain ⟨W3, hW3⟩ : ∃ W, W = wr.alloc (.cells #[.int .u64 4, .pointer (some ⟨g, 3, none⟩), .func (.func 89) #[.pointer (some ⟨p, 0, none⟩)] #[]] 153) := ⟨_, rfl⟩
      rw [← hW3] at HBX O6
      have HW3 := Lib.hid hW3
      have e0 : W3.cell? ⟨wr.heap.size, 0, none⟩ = some (.int .u64 4) := by rw [cell_of_row _ _ 0 _ _ _ O6]; rfl
      have e1 : W3.cell? ⟨wr.heap.size, 1, none⟩ = some (.pointer (some ⟨g, 3, none⟩)) := by rw [cell_of_row _ _ 1 _ _ _ O6]; rfl
      have e2 : W3.cell? ⟨wr.heap.size, 2, none⟩ = some (.func (.func 89) #[.pointer (some ⟨p, 0, none⟩)] #[]) := by rw [cell_of_row _ _ 2 _ _ _ O6]; rfl
      have HP3 := Lib.hid (HP.out.below HBX.out HBP.out)
      clear hW3 O6 HBX HP
      go_upto_region 5 with (fail)
      rw [← HW3.out]
      clear HW3
      cases hh : hasB u 4 with
      | false =>
        have HR : Hid (vB u 2 x = vB u 1 x) := by show (bif hasB u 4 then _ else _) = _; rw [hh]; rfl
        go_wp2_with (go_at_call 41; refine (HH.out _ _).mono ?_; rintro e w' ⟨rfl, rfl⟩)
        go_roundg (5 - 2 + 1)
        case measure => have := HM.out; omega
        case rel => exact ⟨2, by simp, by omega, by omega, by rw [HR.out]; exact HP3.out⟩
      | true =>
        have HR : Hid (vB u 2 x = stepB 1 (vB u 1 x)) := by show (bif hasB u 4 then _ else _) = _; rw [hh]; rfl
        go_wp2_with (go_at_call 41; refine (HH.out _ _).mono ?_; rintro e w' ⟨rfl, rfl⟩)
        go_at_call 89
        refine (HS1.out _ _ HP3.out).mono ?_
        rintro e w4 ⟨rfl, hz⟩
        have HZ := Lib.hid hz
        clear hz
        go_wp2_with fail
        go_roundg (5 - 2 + 1)
        case measure => have := HM.out; omega
        case rel => exact ⟨2, by simp, by omega, by omega, by rw [HR.out]; exact HZ.out⟩
    · have HBX := Lib.hid ((Below.refl wr.heap.size wr).alloc (Nat.le_refl _) (.cells #[.int .u64 8, .pointer (some ⟨g, 4, none⟩), .func (.func 89) #[.pointer (some ⟨p, 0, none⟩)] #[]] 153))
      have O6 := Own.new wr 153 #[.int .u64 8, .pointer (some ⟨g, 4, none⟩), .func (.func 89) #[.pointer (some ⟨p, 0, none⟩)] #[]]
      obtain ⟨W3, hW3⟩ : ∃ W, W = wr.alloc (.cells #[.int .u64 8, .pointer (some ⟨g, 4, none⟩), .func (.func 89) #[.pointer (some ⟨p, 0, none⟩)] #[]] 153) := ⟨_, rfl⟩
      rw [← hW3] at HBX O6
      have HW3 := Lib.hid hW3
      have e0 : W3.cell? ⟨wr.heap.size, 0, none⟩ = some (.int .u64 8) := by rw [cell_of_row _ _ 0 _ _ _ O6]; rfl
      have e1 : W3.cell? ⟨wr.heap.size, 1, none⟩ = some (.pointer (some ⟨g, 4, none⟩)) := by rw [cell_of_row _ _ 1 _ _ _ O6]; rfl
      have e2 : W3.cell? ⟨wr.heap.size, 2, none⟩ = some (.func (.func 89) #[.pointer (some ⟨p, 0, none⟩)] #[]) := by rw [cell_of_row _ _ 2 _ _ _ O6]; rfl
      have HP3 := Lib.hid (HP.out.below HBX.out HBP.out)
      clear hW3 O6 HBX HP
      go_upto_region 5 with (fail)
      rw [← HW3.out]
      clear HW3
      cases hh : hasB u 8 with
      | false =>
        have HR : Hid (vB u 3 x = vB u 2 x) := by show (bif hasB u 8 then _ else _) = _; rw [hh]; rfl
        go_wp2_with (go_at_call 41; refine (HH.out _ _).mono ?_; rintro e w' ⟨rfl, rfl⟩)
        go_roundg (5 - 3 + 1)
        case measure => have := HM.out; omega
        case rel => exact ⟨3, by simp, by omega, by omega, by rw [HR.out]; exact HP3.out⟩
      | true =>
        have HR : Hid (vB u 3 x = stepB 2 (vB u 2 x)) := by show (bif hasB u 8 then _ else _) = _; rw [hh]; rfl
        go_wp2_with (go_at_call 41; refine (HH.out _ _).mono ?_; rintro e w' ⟨rfl, rfl⟩)
        go_at_call 89
        refine (HS2.out _ _ HP3.out).mono ?_
        rintro e w4 ⟨rfl, hz⟩
        have HZ := Lib.hid hz
        clear hz
        go_wp2_with fail
        go_roundg (5 - 3 + 1)
        case measure => have := HM.out; omega
        case rel => exact ⟨3, by simp, by omega, by omega, by rw [HR.out]; exact HZ.out⟩
    · have HBX := Lib.hid ((Below.refl wr.heap.size wr).alloc (Nat.le_refl _) (.cells #[.int .u64 16, .pointer (some ⟨g, 5, none⟩), .func (.func 89) #[.pointer (some ⟨p, 0, none⟩)] #[]] 153))
      have O6 := Own.new wr 153 #[.int .u64 16, .pointer (some ⟨g, 5, none⟩), .func (.func 89) #[.pointer (some ⟨p, 0, none⟩)] #[]]
      obtain ⟨W3, hW3⟩ : ∃ W, W = wr.alloc (.cells #[.int .u64 16, .pointer (some ⟨g, 5, none⟩), .func (.func 89) #[.pointer (some ⟨p, 0, none⟩)] #[]] 153) := ⟨_, rfl⟩
      rw [← hW3] at HBX O6
      have HW3 := Lib.hid hW3
      have e0 : W3.cell? ⟨wr.heap.size, 0, none⟩ = some (.int .u64 16) := by rw [cell_of_row _ _ 0 _ _ _ O6]; rfl
      have e1 : W3.cell? ⟨wr.heap.size, 1, none⟩ = some (.pointer (some ⟨g, 5, none⟩)) := by rw [cell_of_row _ _ 1 _ _ _ O6]; rfl
      have e2 : W3.cell? ⟨wr.heap.size, 2, none⟩ = some (.func (.func 89) #[.pointer (some ⟨p, 0, none⟩)] #[]) := by rw [cell_of_row _ _ 2 _ _ _ O6]; rfl
      have HP3 := Lib.hid (HP.out.below HBX.out HBP.out)
      clear hW3 O6 HBX HP
      go_upto_region 5 with (fail)
      rw [← HW3.out]
      clear HW3
      cases hh : hasB u 16 with
      | false =>
        have HR : Hid (vB u 4 x = vB u 3 x) := by show (bif hasB u 16 then _ else _) = _; rw [hh]; rfl
        go_wp2_with (go_at_call 41; refine (HH.out _ _).mono ?_; rintro e w' ⟨rfl, rfl⟩)
        go_roundg (5 - 4 + 1)
        case measure => have := HM.out; omega
        case rel => exact ⟨4, by simp, by omega, by omega, by rw [HR.out]; exact HP3.out⟩
      | true =>
        have HR : Hid (vB u 4 x = stepB 3 (vB u 3 x)) := by show (bif hasB u 16 then _ else _) = _; rw [hh]; rfl
        go_wp2_with (go_at_call 41; refine (HH.out _ _).mono ?_; rintro e w' ⟨rfl, rfl⟩)
        go_at_call 89
        refine (HS3.out _ _ HP3.out).mono ?_
        rintro e w4 ⟨rfl, hz⟩
        have HZ := Lib.hid hz
        clear hz
        go_wp2_with fail
        go_roundg (5 - 4 + 1)
        case measure => have := HM.out; omega
        case rel => exact ⟨4, by simp, by omega, by omega, by rw [HR.out]; exact HZ.out⟩
    · have HBX := Lib.hid ((Below.refl wr.heap.size wr).alloc (Nat.le_refl _) (.cells #[.int .u64 32, .pointer (some ⟨g, 6, none⟩), .func (.func 89) #[.pointer (some ⟨p, 0, none⟩)] #[]] 153))
      have O6 := Own.new wr 153 #[.int .u64 32, .pointer (some ⟨g, 6, none⟩), .func (.func 89) #[.pointer (some ⟨p, 0, none⟩)] #[]]
      obtain ⟨W3, hW3⟩ : ∃ W, W = wr.alloc (.cells #[.int .u64 32, .pointer (some ⟨g, 6, none⟩), .func (.func 89) #[.pointer (some ⟨p, 0, none⟩)] #[]] 153) := ⟨_, rfl⟩
      rw [← hW3] at HBX O6
      have HW3 := Lib.hid hW3
      have e0 : W3.cell? ⟨wr.heap.size, 0, none⟩ = some (.int .u64 32) := by rw [cell_of_row _ _ 0 _ _ _ O6]; rfl
      have e1 : W3.cell? ⟨wr.heap.size, 1, none⟩ = some (.pointer (some ⟨g, 6, none⟩)) := by rw [cell_of_row _ _ 1 _ _ _ O6]; rfl
      have e2 : W3.cell? ⟨wr.heap.size, 2, none⟩ = some (.func (.func 89) #[.pointer (some ⟨p, 0, none⟩)] #[]) := by rw [cell_of_row _ _ 2 _ _ _ O6]; rfl
      have HP3 := Lib.hid (HP.out.below HBX.out HBP.out)
      clear hW3 O6 HBX HP
      go_upto_region 5 with (fail)
      rw [← HW3.out]
      clear HW3
      cases hh : hasB u 32 with
      | false =>
        have HR : Hid (vB u 5 x = vB u 4 x) := by show (bif hasB u 32 then _ else _) = _; rw [hh]; rfl
        go_wp2_with (go_at_call 41; refine (HH.out _ _).mono ?_; rintro e w' ⟨rfl, rfl⟩)
        go_roundg (5 - 5 + 1)
        case measure => have := HM.out; omega
        case rel => exact ⟨5, by simp, by omega, by omega, by rw [HR.out]; exact HP3.out⟩
      | true =>
        have HR : Hid (vB u 5 x = stepB 4 (vB u 4 x)) := by show (bif hasB u 32 then _ else _) = _; rw [hh]; rfl
        go_wp2_with (go_at_call 41; refine (HH.out _ _).mono ?_; rintro e w' ⟨rfl, rfl⟩)
        go_at_call 89
        refine (HS4.out _ _ HP3.out).mono ?_
        rintro e w4 ⟨rfl, hz⟩
        have HZ := Lib.hid hz
        clear hz
        go_wp2_with fail
        go_roundg (5 - 5 + 1)
        case measure => have := HM.out; omega
        case rel => exact ⟨5, by simp, by omega, by omega, by rw [HR.out]; exact HZ.out⟩
    · have c2 : wr.cell? ⟨w.heap.size, 2, none⟩ = some (.func (.func 91) #[.pointer (some ⟨p, 0, none⟩)] #[]) := by rw [cell_of_row _ _ 2 _ _ _ (HOX.out _ _ _ HP.out)]; rfl
      cases hh : hasB u 64 with
      | false =>
        have HR : Hid (vB u 6 x = vB u 5 x) := by show (bif hasB u 64 then _ else _) = _; rw [hh]; rfl
        go_wp2_with (go_at_call 41; refine (HH.out _ _).mono ?_; rintro e w' ⟨rfl, rfl⟩)
        exact bodyPost_end (results_none rfl _ _ _) rfl ⟨rfl, by rw [HR.out]; exact HQW.out.trans HP.out⟩
      | true =>
        have HR : Hid (vB u 6 x = stepB 5 (vB u 5 x)) := by show (bif hasB u 64 then _ else _) = _; rw [hh]; rfl
        go_wp2_with (go_at_call 41; refine (HH.out _ _).mono ?_; rintro e w' ⟨rfl, rfl⟩)
        go_still_tail 5, (by kernel_rfl)
        change wpList _ _ _ _ _ wr.drew
        have HPD := Lib.hid (HP.out.below (below_drewN (Below.refl _ wr) 1) HBP.out)
        obtain ⟨W4, hW4⟩ : ∃ W, W = wr.drew := ⟨_, rfl⟩
        change Hid (D2 _ _ _ _ _ _ _ wr.drew) at HPD
        rw [← hW4] at HPD ⊢
        clear hW4 c2
        go_wp2_with fail
        go_at_call 91
        refine (HS5.out _ _ HPD.out).mono ?_
        rintro e w4 ⟨rfl, hz⟩
        have HZ := Lib.hid hz
        clear hz
        go_wp2_with fail
        exact bodyPost_end (results_none rfl _ _ _) rfl ⟨rfl, by rw [HR.out]; exact HQW.out.trans HZ.out⟩
end Go.Proofs.YtgmcfinjlddgbaaGreatDoor
namespace Go.Proofs.YtgmcfinjlddgbaaGreatDoor
open Go.RowKit
set_option linter.unusedVariables false
set_option maxRecDepth 100000
theorem opt_num (u : Bool) (x : Int) (s : Bst) : (optR u (numR 0) s).1 = (bif u then (numR 0 s).1 else 0) ∧ (optR u (numR 0) s).2 = (bif u then (numR 0 s).2 else s) := by cases u <;> exact ⟨rfl, rfl⟩
/-- The fields, read one by one into an instruction whose fields are 0. -/
theorem vB_eq (u k o : Int) (s : Bst) : vB u 6 (s, insK k o) = (let d := optR (hasB u 2) (numR 0) s
    let a := optR (hasB u 4) (numR 0) d.2
    let b := optR (hasB u 8) (numR 0) a.2
    let ad := optR (hasB u 16) (numR 0) b.2
    let tt := optR (hasB u 32) (numR 0) ad.2
    let wd := optR (hasB u 64) wrdR tt.2
    (wd.2, (⟨k, o, d.1, a.1, b.1, ad.1, tt.1, wd.1, 0⟩ : Ins))) := by
  simp only
  have e1 : vB u 1 (s, insK k o) = ((optR (hasB u 2) (numR 0) s).2, (⟨k, o, (optR (hasB u 2) (numR 0) s).1, 0, 0, 0, 0, 0, 0⟩ : Ins)) := by
    show (bif hasB u 2 then stepB 0 (s, insK k o) else (s, insK k o)) = _
    cases hasB u 2 <;> rfl
  generalize optR (hasB u 2) (numR 0) s = D1 at e1 ⊢
  obtain ⟨d, s1⟩ := D1
  simp only at e1 ⊢
  have e2 : vB u 2 (s, insK k o) = ((optR (hasB u 4) (numR 0) s1).2, (⟨k, o, d, (optR (hasB u 4) (numR 0) s1).1, 0, 0, 0, 0, 0⟩ : Ins)) := by
    show (bif hasB u 4 then stepB 1 (vB u 1 (s, insK k o)) else vB u 1 (s, insK k o)) = _
    rw [e1]
    cases hasB u 4 <;> rfl
  generalize optR (hasB u 4) (numR 0) s1 = D2 at e2 ⊢
  obtain ⟨a, s2⟩ := D2
  simp only at e2 ⊢
  have e3 : vB u 3 (s, insK k o) = ((optR (hasB u 8) (numR 0) s2).2, (⟨k, o, d, a, (optR (hasB u 8) (numR 0) s2).1, 0, 0, 0, 0⟩ : Ins)) := by
    show (bif hasB u 8 then stepB 2 (vB u 2 (s, insK k o)) else vB u 2 (s, insK k o)) = _
    rw [e2]
    cases hasB u 8 <;> rfl
  generalize optR (hasB u 8) (numR 0) s2 = D3 at e3 ⊢
  obtain ⟨b, s3⟩ := D3
  simp only at e3 ⊢
  have e4 : vB u 4 (s, insK k o) = ((optR (hasB u 16) (numR 0) s3).2, (⟨k, o, d, a, b, (optR (hasB u 16) (numR 0) s3).1, 0, 0, 0⟩ : Ins)) := by
    show (bif hasB u 16 then stepB 3 (vB u 3 (s, insK k o)) else vB u 3 (s, insK k o)) = _
    rw [e3]
    cases hasB u 16 <;> rfl
  generalize optR (hasB u 16) (numR 0) s3 = D4 at e4 ⊢
  obtain ⟨ad, s4⟩ := D4
  simp only at e4 ⊢
  have e5 : vB u 5 (s, insK k o) = ((optR (hasB u 32) (numR 0) s4).2, (⟨k, o, d, a, b, ad, (optR (hasB u 32) (numR 0) s4).1, 0, 0⟩ : Ins)) := by
    show (bif hasB u 32 then stepB 4 (vB u 4 (s, insK k o)) else vB u 4 (s, insK k o)) = _
    rw [e4]
    cases hasB u 32 <;> rfl
  generalize optR (hasB u 32) (numR 0) s4 = D5 at e5 ⊢
  obtain ⟨tt, s5⟩ := D5
  simp only at e5 ⊢
  show (bif hasB u 64 then stepB 5 (vB u 5 (s, insK k o)) else vB u 5 (s, insK k o)) = _
  rw [e5]
  cases hasB u 64 <;> rfl
theorem cntR_bd (m : Int) (s : Bst) (hm : 0 ≤ m) : 0 ≤ (cntR m s).1 ∧ (cntR m s).1 ≤ m := by
  have := numR_nn s
  unfold cntR
  split
  · simp only; omega
  · omega
theorem insR_eq (s : Bst) (k o : Int) (s1 s2 s3 : Bst) (i : Ins) (h1 : cntR 10 s = (k, s1)) (h2 : optR (hasB (uB k 0) 1) (cntR 18) s1 = (o, s2)) (h3 : vB (uB k o) 6 (s2, insK k o) = (s3, i)) : insR s = ({ i with fr := (numR 0 s3).1 }, (numR 0 s3).2) ∧ i.fr = 0 := by
  rw [vB_eq] at h3
  simp only at h3
  unfold insR
  rw [h1]
  simp only
  rw [h2]
  simp only
  generalize optR (hasB (uB k o) 2) (numR 0) s2 = d at h3 ⊢
  generalize optR (hasB (uB k o) 4) (numR 0) d.2 = a at h3 ⊢
  generalize optR (hasB (uB k o) 8) (numR 0) a.2 = b at h3 ⊢
  generalize optR (hasB (uB k o) 16) (numR 0) b.2 = ad at h3 ⊢
  generalize optR (hasB (uB k o) 32) (numR 0) ad.2 = tt at h3 ⊢
  generalize optR (hasB (uB k o) 64) wrdR tt.2 = wd at h3 ⊢
  simp only [Prod.mk.injEq] at h3
  obtain ⟨rfl, rfl⟩ := h3
  exact ⟨rfl, rfl⟩
theorem rgK (k o : Int) (hk : 0 ≤ k ∧ k ≤ 255) (ho : 0 ≤ o ∧ o ≤ 255) : rgI (insK k o) := by
  simp only [rgI, insK]
  omega
set_option maxHeartbeats 8000000 in
theorem b_ins {w : World} {B p g : Nat} {s : Bst} (h : Dr p s w) (hi : Own w g 25 (insC (insK 0 0)).toArray) (hgp : p < g) (hB : B ≤ p) (HT : ∀ X, Below B w X → TgT X) :
    Calls Tryz.prog 114 #[.pointer (some ⟨p, 0, none⟩), .pointer (some ⟨g, 0, none⟩)] w fun e w' => e = .returned (.tuple #[]) ∧ D2 w B p (insR s).2 g 25 (insC (insR s).1).toArray w' := by
  have HT' := Lib.hid HT
  have HH := Lib.hid (And.intro hgp hB)
  have HC : Hid (Calls Tryz.prog 112 #[.pointer (some ⟨p, 0, none⟩), .int .i64 10] w fun e w' => e = .returned (.int .i64 (cntR 10 s).1) ∧ Dq w p (cntR 10 s).2 w') := b_count h 10 (by decide) (by decide)
  have hkb := cntR_bd 10 s (by decide)
  have HD0 : Hid (∀ X t, Dq w p t X → D2 w B p t g 25 (insC (insK 0 0)).toArray X) := fun X t hX => hX.d2 hi hgp hB
  rcases hk : cntR 10 s with ⟨k, s1⟩
  rw [hk] at HC hkb
  simp only at HC hkb
  have HK := Lib.hid hk
  have HUS : Hid (∀ X, Below B w X → Calls Tryz.prog 39 #[insV (insK k 0)] X fun e w' => e = .returned (.int .u64 (uB k 0)) ∧ Below X.heap.size X w') := fun X hX => usedBy_any (insK k 0) (rgK k 0 (by omega) (by omega)) X (HT X hX)
  have HHS : Hid (∀ X f, Calls Tryz.prog 41 #[.int .u64 (uB k 0), .int .u64 f] X fun e w' => e = .returned (.bool (hasB (uB k 0) f)) ∧ X = w') := fun X f => has_any _ f X
  have hkw : IntKind.u8.wrap k = k := by rw [IntKind.wrap_u8]; omega
  obtain ⟨x, hx⟩ : ∃ x, x = optR (hasB (uB k 0) 1) (cntR 18) s1 := ⟨_, rfl⟩
  obtain ⟨o, s2⟩ := x
  have hob : 0 ≤ o ∧ o ≤ 18 := by
    have h1 : o = (optR (hasB (uB k 0) 1) (cntR 18) s1).1 := by rw [← hx]
    rw [h1]
    have h2 := cntR_bd 18 s1 (by decide)
    cases hasB (uB k 0) 1
    · exact ⟨Int.le_refl 0, by show (0 : Int) ≤ 18; decide⟩
    · exact h2
  have HOB := Lib.hid hob
  obtain ⟨y, hy⟩ : ∃ y, y = vB (uB k o) 6 (s2, insK k o) := ⟨_, rfl⟩
  obtain ⟨s3, i⟩ := y
  have hie := insR_eq s k o s1 s2 s3 i hk hx.symm hy.symm
  rw [hie.1]
  have hfr := hie.2
  have HFR := Lib.hid hfr
  simp only
  have HV : Hid (∀ X, D2 w B p s2 g 25 (insC (insK k o)).toArray X → Calls Tryz.prog 80 #[.agg #[.func (.func 89) #[.pointer (some ⟨p, 0, none⟩)] #[], .func (.func 89) #[.pointer (some ⟨p, 0, none⟩)] #[], .func (.func 91) #[.pointer (some ⟨p, 0, none⟩)] #[]], .pointer (some ⟨g, 0, none⟩)] X fun e w' => e = .returned (.tuple #[]) ∧ D2 w B p s3 g 25 (insC i).toArray w') := fun X hX => (b_visit (insK k o) (rgK k o (by omega) (by omega)) hX.st hX.dst hgp hB (fun Y hY => HT Y (hX.bel.trans hY))).mono fun _ _ ⟨e1, e2⟩ => ⟨e1, by
    have e3 : vB (uB (insK k o).k (insK k o).o) 6 (s2, insK k o) = (s3, i) := hy.symm
    rw [e3] at e2
    exact hX.trans e2⟩
  have HN : Hid (∀ X, D2 w B p s3 g 25 (insC i).toArray X → Calls Tryz.prog 89 #[.pointer (some ⟨p, 0, none⟩), .pointer (some ⟨g, 8, none⟩)] X fun e w' => e = .returned (.tuple #[]) ∧ D2 w B p (numR 0 s3).2 g 25 (insC { i with fr := (numR 0 s3).1 }).toArray w') := fun X hX => (b_number (x := 0) hX.st hX.dst hgp (by rw [← hfr]; rfl) hB).mono fun _ _ ⟨e1, e2⟩ => ⟨e1, hX.trans e2⟩
  have HX := Lib.hid hx
  clear h hi hgp hB HT hk hkb hob hx hy hie hfr
  have HST : Hid (∀ X t k o u j, D2 w B p t g 25 (insC (insK k o)).toArray X → D2 w B p t g 25 ((insC (insK k o)).toArray.setIfInBounds j u) (X.setCell ⟨g, j, none⟩ u)) := fun X t k o u j h => h.store HH.out.1 HH.out.2 j u
  generalize (numR 0 s3).1 = fr at HN ⊢
  generalize (numR 0 s3).2 = s4 at HN ⊢
  cases hh : hasB (uB k 0) 1 with
  | false =>
    have hx2 := HX.out
    rw [hh] at hx2
    have hx3 : ((o : Int), s2) = ((0 : Int), s1) := hx2
    simp only [Prod.mk.injEq] at hx3
    obtain ⟨rfl, rfl⟩ := hx3
    clear hx2
    go_enter Tryz.func114, Tryz.ntmps114
    go_upto_region 1 with (go_at_call 112; refine HC.out.mono ?_; rintro e w1 ⟨rfl, hq⟩; have HQ1 := Lib.hid (HD0.out _ _ hq); have d0 : w1.cell? ⟨g, 0, none⟩ = some (.int .u8 0) := row_cellsO HQ1.out.dst 0 _ rfl; have f0 : w1.frozen? ⟨g, 0, none⟩ = false := own_frozen HQ1.out.dst 0; clear hq)
    have HQ2 : Hid (D2 w B p s2 g 25 (insC (insK k 0)).toArray (w1.setCell ⟨g, 0, none⟩ (.int .u8 k))) := HST.out w1 _ 0 0 (.int .u8 k) 0 HQ1.out
    clear HQ1 d0 f0
    obtain ⟨W2, hW2⟩ : ∃ W, W = w1.setCell ⟨g, 0, none⟩ (.int .u8 k) := ⟨_, rfl⟩
    rw [← hW2] at HQ2 ⊢
    clear hW2
    have OI := HQ2.out.dst
    go_wp2_with (first | (go_at_call 39; refine (HUS.out _ HQ2.out.bel).mono ?_; rintro e w3 ⟨rfl, hb⟩; have HQ3 := Lib.hid (HQ2.out.below hb HH.out.2); clear hb OI) | (go_at_call 41; refine (HHS.out _ _).mono ?_; rintro e w4 ⟨rfl, rfl⟩) | (go_at_call 80; refine (HV.out _ HQ3.out).mono ?_; rintro e w5 ⟨rfl, hq⟩; have HQ5 := Lib.hid hq; clear hq) | (go_at_call 89; refine (HN.out _ HQ5.out).mono ?_; rintro e w6 ⟨rfl, hq⟩; have HQ6 := Lib.hid hq; clear hq) | (refine ld rowI rfl rfl rfl OI rfl ?_))
    exact bodyPost_end (results_none rfl _ _ _) rfl ⟨rfl, HQ6.out⟩
  | true =>
    have HC2 : Hid (∀ X, D2 w B p s1 g 25 (insC (insK k 0)).toArray X → Calls Tryz.prog 112 #[.pointer (some ⟨p, 0, none⟩), .int .i64 18] X fun e w' => e = .returned (.int .i64 o) ∧ D2 w B p s2 g 25 (insC (insK k 0)).toArray w') := fun X hX => (b_count hX.st 18 (by decide) (by decide)).mono fun _ _ ⟨e1, e2⟩ => by
      have hx2 := HX.out
      rw [hh] at hx2
      have hx3 : ((o : Int), s2) = cntR 18 s1 := hx2
      rw [← hx3] at e1 e2
      exact ⟨e1, hX.trans (e2.d2 hX.dst HH.out.1 HH.out.2)⟩
    have hob := HOB.out
    have how : IntKind.u8.wrap o = o := by rw [IntKind.wrap_u8]; omega
    clear hob
    go_enter Tryz.func114, Tryz.ntmps114
    go_upto_region 1 with (go_at_call 112; refine HC.out.mono ?_; rintro e w1 ⟨rfl, hq⟩; have HQ1 := Lib.hid (HD0.out _ _ hq); have d0 : w1.cell? ⟨g, 0, none⟩ = some (.int .u8 0) := row_cellsO HQ1.out.dst 0 _ rfl; have f0 : w1.frozen? ⟨g, 0, none⟩ = false := own_frozen HQ1.out.dst 0; clear hq)
    have HQ2 : Hid (D2 w B p s1 g 25 (insC (insK k 0)).toArray (w1.setCell ⟨g, 0, none⟩ (.int .u8 k))) := HST.out w1 _ 0 0 (.int .u8 k) 0 HQ1.out
    clear HQ1 d0 f0
    obtain ⟨W2, hW2⟩ : ∃ W, W = w1.setCell ⟨g, 0, none⟩ (.int .u8 k) := ⟨_, rfl⟩
    rw [← hW2] at HQ2 ⊢
    clear hW2
    have OI := HQ2.out.dst
    go_upto_region 3 with (first | (go_at_call 39; refine (HUS.out _ HQ2.out.bel).mono ?_; rintro e w3 ⟨rfl, hb⟩; have HQ3 := Lib.hid (HQ2.out.below hb HH.out.2); clear hb OI) | (go_at_call 41; refine (HHS.out _ _).mono ?_; rintro e w4 ⟨rfl, rfl⟩) | (go_at_call 112; refine (HC2.out _ HQ3.out).mono ?_; rintro e w5 ⟨rfl, hq⟩; have HQ5 := Lib.hid hq; have d1 : w5.cell? ⟨g, 1, none⟩ = some (.int .u8 0) := row_cellsO hq.dst 1 _ rfl; have f1 : w5.frozen? ⟨g, 1, none⟩ = false := own_frozen hq.dst 1; clear hq) | (refine ld rowI rfl rfl rfl OI rfl ?_))
    have HQ6 : Hid (D2 w B p s2 g 25 (insC (insK k o)).toArray (w5.setCell ⟨g, 1, none⟩ (.int .u8 o))) := HST.out w5 _ k 0 (.int .u8 o) 1 HQ5.out
    clear HQ5 HQ3 HQ2 d1 f1
    obtain ⟨W6, hW6⟩ : ∃ W, W = w5.setCell ⟨g, 1, none⟩ (.int .u8 o) := ⟨_, rfl⟩
    rw [← hW6] at HQ6 ⊢
    clear hW6
    go_wp2_with (first | (go_at_call 80; refine (HV.out _ HQ6.out).mono ?_; rintro e w7 ⟨rfl, hq⟩; have HQ7 := Lib.hid hq; clear hq) | (go_at_call 89; refine (HN.out _ HQ7.out).mono ?_; rintro e w8 ⟨rfl, hq⟩; have HQ8 := Lib.hid hq; clear hq))
    exact bodyPost_end (results_none rfl _ _ _) rfl ⟨rfl, HQ8.out⟩
end Go.Proofs.YtgmcfinjlddgbaaGreatDoor
namespace Go.Proofs.YtgmcfinjlddgbaaGreatDoor
open Go.RowKit
set_option linter.unusedVariables false
set_option maxRecDepth 100000
theorem Dq.grow {w X Y : World} {p : Nat} {s : Bst} {row : Option Nat} (h : Dq w p s X) (hp : p < w.heap.size) (hg : X.grownBy Y row) (hr : ∀ k, row = some k → w.heap.size ≤ k) : Dq w p s Y :=
  ⟨h.st.keep fun k hk => hg.block k (Nat.lt_of_le_of_lt hk h.st.lt) (fun e => by have := hr k e.symm; omega), ⟨by rw [hg.os]; exact h.keep.os, by rw [hg.tape]; exact h.keep.tape, by rw [hg.output]; exact h.keep.output, Nat.le_trans h.keep.size hg.size, fun k o hk hs => by
    have hl : k < w.heap.size := (Array.getElem?_eq_some_iff.1 hk).1
    exact (hg.block k (Nat.lt_of_lt_of_le hl h.keep.size) (fun e => by have := hr k e.symm; omega)).trans (h.keep.block k o hk hs)⟩⟩
theorem rep_stop {α : Type} (f : Bst → α × Bst) (k : Nat) (s : Bst) (h : s.2 = true) : repR f k s = ([], s) := by
  cases k with
  | zero => rfl
  | succ k => unfold repR; rw [if_pos h]
theorem rep_step {α : Type} (f : Bst → α × Bst) (k : Nat) (s : Bst) (h : s.2 = false) : repR f (k + 1) s = ((f s).1 :: (repR f k (f s).2).1, (repR f k (f s).2).2) := by
  show (if s.2 = true then _ else _) = _
  rw [if_neg (by rw [h]; simp)]
theorem row_past {X Y : World} {B : Nat} {T : TypeId} {n : Nat} {v : Value} {m : Nat} {xs : List Value} (h : X.ownsRow B T n v m xs) {p c : Nat} (hp : p < B) (hc : c = X.heap.size) {o : Obj} (hk : Keep (fun k _ => k ≠ p ∧ k ≠ c) (X.alloc o) Y) : Y.ownsRow B T n v m xs :=
  row_stays h fun g h1 _ h3 => by
    have e := heap_alloc_old X o h3
    rw [hk.block g _ (e.trans (Array.getElem?_eq_getElem h3)) ⟨by omega, by omega⟩, Array.getElem?_eq_getElem h3]
set_option maxHeartbeats 8000000 in
theorem b_listW {w : World} {p : Nat} {s : Bst} (h : Dr p s w) (most : Int) (hm : 0 ≤ most) (hm2 : most ≤ 100000) :
    Calls Tryz.prog 90 #[.pointer (some ⟨p, 0, none⟩), .int .i64 most, .func (.func 91) #[.pointer (some ⟨p, 0, none⟩)] #[]] w fun e w' => ∃ v, e = .returned v ∧ Dq w p (lstR wrdR most s).2 w' ∧ w'.ownsRow w.heap.size 2 1 v (lstR wrdR most s).1.length ((lstR wrdR most s).1.flatMap (fun x => [Value.int .i64 x])) := by
  obtain ⟨i0, hi, hz0, hz1, hz2⟩ := info_parts info_w
  have hpw := h.lt
  have HC : Hid (Calls Tryz.prog 112 #[.pointer (some ⟨p, 0, none⟩), .int .i64 most] w fun e w' => e = .returned (.int .i64 (cntR most s).1) ∧ Dq w p (cntR most s).2 w') := b_count h most hm (by omega)
  have hcb := cntR_bd most s hm
  have HL : Hid (lstR wrdR most s = repR wrdR (cntR most s).1.toNat (cntR most s).2) := rfl
  rw [HL.out]
  clear HL
  generalize hcs : cntR most s = cs at HC hcb ⊢
  obtain ⟨nc, s1⟩ := cs
  simp only at HC hcb ⊢
  obtain ⟨n, rfl⟩ : ∃ n : Nat, nc = (n : Int) := ⟨nc.toNat, by omega⟩
  simp only [Int.toNat_natCast]
  have HB := Lib.hid hcb
  have HPW := Lib.hid hpw
  clear hcs h hcb hpw
  go_enter Tryz.func90, Tryz.ntmps90
  go_wp2_with (go_at_call 112; refine HC.out.mono ?_; rintro e w1 ⟨rfl, hq⟩; have HQ1 := Lib.hid hq; clear hq)
  go_loopg [7] (n + 1) (fun m' z X => ∃ (xs : List Int) (sj : Bst), xs.length ≤ n ∧ m' = n - xs.length + 1 ∧ Dq w p sj X ∧ X.ownsRow w.heap.size 2 1 z xs.length (xs.flatMap (fun x => [Value.int .i64 x])) ∧ repR wrdR n s1 = (xs ++ (repR wrdR (n - xs.length) sj).1, (repR wrdR (n - xs.length) sj).2))
  case atStart => exact ⟨[], s1, Nat.zero_le _, by simp, HQ1.out, World.ownsRow_nil _ _ _ _, by simp⟩
  case round =>
    clear HQ1
    obtain ⟨xs, sj, hl, hm', hq, hr, he⟩ := hrel
    obtain ⟨az, cz, rfl⟩ := row_slice hr
    obtain ⟨aa, ca, hP⟩ := hq.st
    have p1 : wr.cell? ⟨p, 1, none⟩ = some (.bool sj.2) := row_cellsO hP.own 1 _ rfl
    have HM := Lib.hid hm'
    have HQ := Lib.hid hq
    have HR := Lib.hid hr
    have HE := Lib.hid he
    clear hm' hr he hP
    by_cases hjn : xs.length < n
    · cases hb : sj.2 with
      | true =>
        have HZ : Hid (repR wrdR n s1 = (xs, sj)) := by rw [Hid, HE.out, rep_stop wrdR _ sj hb, List.append_nil]
        rw [hb] at p1
        clear hb hq HE
        go_wp2_with (fail)
        go_ret
        rw [HZ.out]
        exact ⟨_, rfl, HQ.out, HR.out⟩
      | false =>
        rw [hb] at p1
        have al := (Below.refl _ wr).alloc (Nat.le_refl _) (.cells #[.int .i64 0] 2)
        have O1 := Own.new wr 2 #[.int .i64 0]
        have hpc : p < wr.heap.size := hq.st.lt
        have HRD : Hid (Calls Tryz.prog 91 #[.pointer (some ⟨p, 0, none⟩), .pointer (some ⟨wr.heap.size, 0, none⟩)] (wr.alloc (.cells #[.int .i64 0] 2)) fun e w' => e = .returned (.tuple #[]) ∧ D2 (wr.alloc (.cells #[.int .i64 0] 2)) p p (wrdR sj).2 wr.heap.size 2 ((fun x : Int => #[Value.int .i64 x]) (wrdR sj).1) w') := (b_word (x := 0) (hq.st.below al) O1 hpc rfl (Nat.le_refl _)).mono fun _ _ ⟨h1, h2⟩ => ⟨h1, by simpa using h2⟩
        have hwb : w.heap.size ≤ wr.heap.size := hq.keep.size
        have hst := rep_step wrdR (n - xs.length - 1) sj hb
        have HST := Lib.hid hst
        clear hst
        generalize wrdR sj = y at HRD HST
        obtain ⟨x, s2⟩ := y
        simp only at HRD HST
        have HE2 : Hid (repR wrdR n s1 = ((xs ++ [x]) ++ (repR wrdR (n - (xs ++ [x]).length) s2).1, (repR wrdR (n - (xs ++ [x]).length) s2).2)) := by
          have e1 : n - xs.length = (n - xs.length - 1) + 1 := by omega
          have e2 : n - (xs ++ [x]).length = n - xs.length - 1 := by simp only [List.length_append, List.length_cons, List.length_nil]; omega
          rw [Hid, HE.out, e2, e1, HST.out]
          simp
        have HOK : Hid (∀ X, D2 (wr.alloc (.cells #[.int .i64 0] 2)) p p s2 wr.heap.size 2 ((fun x : Int => #[Value.int .i64 x]) x) X → Dq w p s2 X ∧ X.ownsRow w.heap.size 2 1 (.slice az xs.length cz) xs.length (xs.flatMap (fun x => [Value.int .i64 x])) ∧ Own X wr.heap.size 2 ((fun x : Int => #[Value.int .i64 x]) x) ∧ w.heap.size ≤ X.heap.size) := fun X hX => ⟨HQ.out.trans hX.dq, row_past HR.out HPW.out rfl hX.keep, hX.dst, Nat.le_trans hwb (Nat.le_of_lt (Nat.lt_of_lt_of_le (by simp) hX.keep.size))⟩
        obtain ⟨W1, hW1⟩ : ∃ W, W = wr.alloc (.cells #[.int .i64 0] 2) := ⟨_, rfl⟩
        rw [← hW1] at HRD HOK
        have HW1 := Lib.hid hW1
        have hlen : xs.length ≤ 100000 := by have := HB.out; omega
        have HLEN := Lib.hid hlen
        clear hb hq HE al O1 hpc hW1 hlen hwb HST
        go_upto_region 5 with (fail)
        rw [← HW1.out]
        clear HW1 p1
        go_upto_region 6 with (go_at_call 91; refine HRD.out.mono ?_; rintro e w2 ⟨rfl, hd⟩; obtain ⟨h1, h2, h3, h4⟩ := HOK.out _ hd; have HQ2 := Lib.hid h1; have HR2 := Lib.hid h2; have O3 := h3; have HS2 := Lib.hid h4; clear hd h1 h2 h3 h4)
        have d0 : w2.cell? ⟨wr.heap.size, 0, none⟩ = some (.int .i64 x) := row_cellsO O3 0 _ rfl
        have hown := HR2.out.alloc (.cells #[.int .i64 x] 2)
        have HOW := Lib.hid hown
        have HNW : Hid (∀ j u, ([.int .i64 x] : List Value)[j]? = some u → (w2.alloc (.cells #[.int .i64 x] 2)).cell? ((⟨w2.heap.size, 0, none⟩ : Addr).add j) = some u) := fun j u hj => by
          rw [addr_addD, Nat.zero_add]
          exact row_cellsO (Own.new w2 2 #[.int .i64 x]) j u (by simpa using hj)
        have hlen := HLEN.out
        have hbs : w.heap.size ≤ (w2.alloc (.cells #[.int .i64 x] 2)).heap.size := by rw [World.size_alloc]; have := HS2.out; omega
        clear hown HRD HOK
        go_wp2_with (first | fail | (at_builtin; refine wpList_append_own _ rfl _ _ 26 rfl w.heap.size 2 i0 _ 1 8 Tryz.underlying26 hi hz0 hz1 hz2 rfl (by decide) (.slice az xs.length cz) xs.length (xs.flatMap (fun x => [Value.int .i64 x])) rfl ?_ ⟨w2.heap.size, 0, none⟩ 1 1 [.int .i64 x] rfl rfl ?_ (by simp [Value.oneCell']) (by simp only [maxLen]; omega) (by omega) hbs ?_; (· exact HOW.out); (· exact HNW.out); intro v4 w4 hr4 hg4 _; have HR4 := Lib.hid hr4; have HG4 := Lib.hid hg4; clear hr4 hg4))
        have hq4 : Dq w p s2 w4 := (HQ2.out.below ((Below.refl _ w2).alloc (Nat.le_refl _) _)).grow HPW.out HG4.out (fun k hk => (HOW.out.lt k hk).1)
        have HQ4 := Lib.hid hq4
        clear hq4 hlen hbs
        go_roundg (n - (xs.length + 1) + 1)
        case measure => have := HM.out; omega
        case rel => exact ⟨xs ++ [x], s2, by simp only [List.length_append, List.length_cons, List.length_nil]; omega, by simp only [List.length_append, List.length_cons, List.length_nil], HQ4.out, by
          have h5 := HR4.out
          rw [List.flatMap_append]
          simpa using h5, HE2.out⟩
    · have HZ : Hid (repR wrdR n s1 = (xs, sj)) := by
        have e0 : n - xs.length = 0 := by omega
        rw [Hid, HE.out, e0]
        show (xs ++ [], sj) = _
        rw [List.append_nil]
      have hnn : ¬ (xs.length : Int) < (n : Int) := by omega
      clear hq HE
      go_wp2_with (fail)
      go_ret
      rw [HZ.out]
      exact ⟨_, rfl, HQ.out, HR.out⟩
set_option maxHeartbeats 8000000 in
theorem b_listI {w : World} {p : Nat} {s : Bst} (h : Dr p s w) (most : Int) (hm : 0 ≤ most) (hm2 : most ≤ 100000) (HT : ∀ X, Below p w X → TgT X) :
    Calls Tryz.prog 113 #[.pointer (some ⟨p, 0, none⟩), .int .i64 most, .func (.func 114) #[.pointer (some ⟨p, 0, none⟩)] #[]] w fun e w' => ∃ v, e = .returned v ∧ Dq w p (lstR insR most s).2 w' ∧ w'.ownsRow w.heap.size 25 9 v (lstR insR most s).1.length ((lstR insR most s).1.flatMap insC) := by
  obtain ⟨i0, hi, hz0, hz1, hz2⟩ := info_parts info_i
  have hpw := h.lt
  have HC : Hid (Calls Tryz.prog 112 #[.pointer (some ⟨p, 0, none⟩), .int .i64 most] w fun e w' => e = .returned (.int .i64 (cntR most s).1) ∧ Dq w p (cntR most s).2 w') := b_count h most hm (by omega)
  have hcb := cntR_bd most s hm
  have HL : Hid (lstR insR most s = repR insR (cntR most s).1.toNat (cntR most s).2) := rfl
  rw [HL.out]
  clear HL
  generalize hcs : cntR most s = cs at HC hcb ⊢
  obtain ⟨nc, s1⟩ := cs
  simp only at HC hcb ⊢
  obtain ⟨n, rfl⟩ : ∃ n : Nat, nc = (n : Int) := ⟨nc.toNat, by omega⟩
  simp only [Int.toNat_natCast]
  have HB := Lib.hid hcb
  have HTT := Lib.hid HT
  have HPW := Lib.hid hpw
  clear hcs h hcb hpw HT
  go_enter Tryz.func113, Tryz.ntmps113
  go_wp2_with (go_at_call 112; refine HC.out.mono ?_; rintro e w1 ⟨rfl, hq⟩; have HQ1 := Lib.hid hq; clear hq)
  go_loopg [7] (n + 1) (fun m' z X => ∃ (xs : List Ins) (sj : Bst), xs.length ≤ n ∧ m' = n - xs.length + 1 ∧ Dq w p sj X ∧ X.ownsRow w.heap.size 25 9 z xs.length (xs.flatMap insC) ∧ repR insR n s1 = (xs ++ (repR insR (n - xs.length) sj).1, (repR insR (n - xs.length) sj).2))
  case atStart => exact ⟨[], s1, Nat.zero_le _, by simp, HQ1.out, World.ownsRow_nil _ _ _ _, by simp⟩
  case round =>
    clear HQ1
    obtain ⟨xs, sj, hl, hm', hq, hr, he⟩ := hrel
    obtain ⟨az, cz, rfl⟩ := row_slice hr
    obtain ⟨aa, ca, hP⟩ := hq.st
    have p1 : wr.cell? ⟨p, 1, none⟩ = some (.bool sj.2) := row_cellsO hP.own 1 _ rfl
    have HM := Lib.hid hm'
    have HQ := Lib.hid hq
    have HR := Lib.hid hr
    have HE := Lib.hid he
    clear hm' hr he hP
    by_cases hjn : xs.length < n
    · cases hb : sj.2 with
      | true =>
        have HZ : Hid (repR insR n s1 = (xs, sj)) := by rw [Hid, HE.out, rep_stop insR _ sj hb, List.append_nil]
        rw [hb] at p1
        clear hb hq HE
        go_wp2_with (fail)
        go_ret
        rw [HZ.out]
        exact ⟨_, rfl, HQ.out, HR.out⟩
      | false =>
        rw [hb] at p1
        have al := (Below.refl _ wr).alloc (Nat.le_refl _) (.cells #[.int .u8 0, .int .u8 0, .int .i64 0, .int .i64 0, .int .i64 0, .int .i64 0, .int .i64 0, .int .i64 0, .int .i64 0] 25)
        have O1 := Own.new wr 25 #[.int .u8 0, .int .u8 0, .int .i64 0, .int .i64 0, .int .i64 0, .int .i64 0, .int .i64 0, .int .i64 0, .int .i64 0]
        have hpc : p < wr.heap.size := hq.st.lt
        have HRD : Hid (Calls Tryz.prog 114 #[.pointer (some ⟨p, 0, none⟩), .pointer (some ⟨wr.heap.size, 0, none⟩)] (wr.alloc (.cells #[.int .u8 0, .int .u8 0, .int .i64 0, .int .i64 0, .int .i64 0, .int .i64 0, .int .i64 0, .int .i64 0, .int .i64 0] 25)) fun e w' => e = .returned (.tuple #[]) ∧ D2 (wr.alloc (.cells #[.int .u8 0, .int .u8 0, .int .i64 0, .int .i64 0, .int .i64 0, .int .i64 0, .int .i64 0, .int .i64 0, .int .i64 0] 25)) p p (insR sj).2 wr.heap.size 25 ((fun x : Ins => (insC x).toArray) (insR sj).1) w') := b_ins (hq.st.below al) O1 hpc (Nat.le_refl _) (fun X hX => HTT.out X ((hq.bel (Nat.le_of_lt HPW.out)).trans ((al.mono (Nat.le_of_lt hpc)).trans hX)))
        have hwb : w.heap.size ≤ wr.heap.size := hq.keep.size
        have hst := rep_step insR (n - xs.length - 1) sj hb
        have HST := Lib.hid hst
        clear hst
        generalize insR sj = y at HRD HST
        obtain ⟨x, s2⟩ := y
        simp only at HRD HST
        have HE2 : Hid (repR insR n s1 = ((xs ++ [x]) ++ (repR insR (n - (xs ++ [x]).length) s2).1, (repR insR (n - (xs ++ [x]).length) s2).2)) := by
          have e1 : n - xs.length = (n - xs.length - 1) + 1 := by omega
          have e2 : n - (xs ++ [x]).length = n - xs.length - 1 := by simp only [List.length_append, List.length_cons, List.length_nil]; omega
          rw [Hid, HE.out, e2, e1, HST.out]
          simp
        have HOK : Hid (∀ X, D2 (wr.alloc (.cells #[.int .u8 0, .int .u8 0, .int .i64 0, .int .i64 0, .int .i64 0, .int .i64 0, .int .i64 0, .int .i64 0, .int .i64 0] 25)) p p s2 wr.heap.size 25 ((fun x : Ins => (insC x).toArray) x) X → Dq w p s2 X ∧ X.ownsRow w.heap.size 25 9 (.slice az xs.length cz) xs.length (xs.flatMap insC) ∧ Own X wr.heap.size 25 ((fun x : Ins => (insC x).toArray) x) ∧ w.heap.size ≤ X.heap.size) := fun X hX => ⟨HQ.out.trans hX.dq, row_past HR.out HPW.out rfl hX.keep, hX.dst, Nat.le_trans hwb (Nat.le_of_lt (Nat.lt_of_lt_of_le (by simp) hX.keep.size))⟩
        obtain ⟨W1, hW1⟩ : ∃ W, W = wr.alloc (.cells #[.int .u8 0, .int .u8 0, .int .i64 0, .int .i64 0, .int .i64 0, .int .i64 0, .int .i64 0, .int .i64 0, .int .i64 0] 25) := ⟨_, rfl⟩
        rw [← hW1] at HRD HOK
        have HW1 := Lib.hid hW1
        have hlen : xs.length ≤ 100000 := by have := HB.out; omega
        have HLEN := Lib.hid hlen
        obtain ⟨k, o, d, a, b, ad, tt, wd, fr⟩ := x
        simp only [insC] at HRD HOK
        clear hb hq HE al O1 hpc hW1 hlen hwb HST
        go_upto_region 5 with (fail)
        rw [← HW1.out]
        clear HW1 p1
        go_upto_region 6 with (go_at_call 114; refine HRD.out.mono ?_; rintro e w2 ⟨rfl, hd⟩; obtain ⟨h1, h2, h3, h4⟩ := HOK.out _ hd; have HQ2 := Lib.hid h1; have HR2 := Lib.hid h2; have O3 := h3; have HS2 := Lib.hid h4; clear hd h1 h2 h3 h4)
        have hown := HR2.out.alloc (.cells #[.int .u8 k, .int .u8 o, .int .i64 d, .int .i64 a, .int .i64 b, .int .i64 ad, .int .i64 tt, .int .i64 wd, .int .i64 fr] 25)
        have HOW := Lib.hid hown
        have HNW : Hid (∀ j u, ([.int .u8 k, .int .u8 o, .int .i64 d, .int .i64 a, .int .i64 b, .int .i64 ad, .int .i64 tt, .int .i64 wd, .int .i64 fr] : List Value)[j]? = some u → (w2.alloc (.cells #[.int .u8 k, .int .u8 o, .int .i64 d, .int .i64 a, .int .i64 b, .int .i64 ad, .int .i64 tt, .int .i64 wd, .int .i64 fr] 25)).cell? ((⟨w2.heap.size, 0, none⟩ : Addr).add j) = some u) := fun j u hj => by
          rw [addr_addD, Nat.zero_add]
          exact row_cellsO (Own.new w2 25 #[.int .u8 k, .int .u8 o, .int .i64 d, .int .i64 a, .int .i64 b, .int .i64 ad, .int .i64 tt, .int .i64 wd, .int .i64 fr]) j u (by simpa using hj)
        have hlen := HLEN.out
        have hbs : w.heap.size ≤ (w2.alloc (.cells #[.int .u8 k, .int .u8 o, .int .i64 d, .int .i64 a, .int .i64 b, .int .i64 ad, .int .i64 tt, .int .i64 wd, .int .i64 fr] 25)).heap.size := by rw [World.size_alloc]; have := HS2.out; omega
        clear hown HRD HOK
        go_wp2_with (first | fail | (at_builtin; refine wpList_append_own _ rfl _ _ 62 rfl w.heap.size 25 i0 _ 9 64 Tryz.underlying62 hi hz0 hz1 hz2 rfl (by decide) (.slice az xs.length cz) xs.length (xs.flatMap insC) rfl ?_ ⟨w2.heap.size, 0, none⟩ 1 1 [.int .u8 k, .int .u8 o, .int .i64 d, .int .i64 a, .int .i64 b, .int .i64 ad, .int .i64 tt, .int .i64 wd, .int .i64 fr] rfl rfl ?_ (by simp [Value.oneCell']) (by simp only [maxLen]; omega) (by omega) hbs ?_; (· exact HOW.out); (· exact HNW.out); intro v4 w4 hr4 hg4 _; have HR4 := Lib.hid hr4; have HG4 := Lib.hid hg4; clear hr4 hg4) | (refine ld rowI rfl rfl rfl O3 rfl ?_))
        have hq4 : Dq w p s2 w4 := (HQ2.out.below ((Below.refl _ w2).alloc (Nat.le_refl _) _)).grow HPW.out HG4.out (fun k hk => (HOW.out.lt k hk).1)
        have HQ4 := Lib.hid hq4
        clear hq4 hlen hbs
        go_roundg (n - (xs.length + 1) + 1)
        case measure => have := HM.out; omega
        case rel => exact ⟨xs ++ [⟨k, o, d, a, b, ad, tt, wd, fr⟩], s2, by simp only [List.length_append, List.length_cons, List.length_nil]; omega, by simp only [List.length_append, List.length_cons, List.length_nil], HQ4.out, by
          have h5 := HR4.out
          rw [List.flatMap_append]
          simpa [insC] using h5, HE2.out⟩
    · have HZ : Hid (repR insR n s1 = (xs, sj)) := by
        have e0 : n - xs.length = 0 := by omega
        rw [Hid, HE.out, e0]
        show (xs ++ [], sj) = _
        rw [List.append_nil]
      have hnn : ¬ (xs.length : Int) < (n : Int) := by omega
      clear hq HE
      go_wp2_with (fail)
      go_ret
      rw [HZ.out]
      exact ⟨_, rfl, HQ.out, HR.out⟩
end Go.Proofs.YtgmcfinjlddgbaaGreatDoor
namespace Go.Proofs.YtgmcfinjlddgbaaGreatDoor
open Go.RowKit
set_option linter.unusedVariables false
set_option maxRecDepth 100000
theorem row_setbelow {X : World} {B : Nat} {T : TypeId} {n : Nat} {v : Value} {m : Nat} {xs : List Value} (h : X.ownsRow B T n v m xs) {g : Nat} (hg : g < B) (o : Nat) (u : Value) : (X.setCell ⟨g, o, none⟩ u).ownsRow B T n v m xs :=
  row_stays h fun k h1 _ _ => Below.heap_setCell X ⟨g, o, none⟩ u k (by show k ≠ g; omega)
set_option maxHeartbeats 8000000 in
theorem b_core {w : World} {B p g : Nat} {s : Bst} (h : Dr p s w) (hi : Own w g 64 #[.string ⟨#[]⟩, .slice none 0 0]) (hgp : p < g) (hB : B ≤ p) (HT : ∀ X, Below B w X → TgT X) :
    Calls Tryz.prog 93 #[.pointer (some ⟨p, 0, none⟩), .pointer (some ⟨g, 0, none⟩)] w fun e w' => e = .returned (.tuple #[]) ∧ ∃ v, D2 w B p (corR s).2 g 64 #[.string (corR s).1.name, v] w' ∧ w'.ownsRow w.heap.size 25 9 v (corR s).1.code.length ((corR s).1.code.flatMap insC) := by
  have hgw := hi.lt
  have HH := Lib.hid (And.intro hgp (And.intro hB hgw))
  have HC : Hid (Calls Tryz.prog 112 #[.pointer (some ⟨p, 0, none⟩), .int .i64 32] w fun e w' => e = .returned (.int .i64 (cntR 32 s).1) ∧ Dq w p (cntR 32 s).2 w') := b_count h 32 (by decide) (by decide)
  have hcb := cntR_bd 32 s (by decide)
  have HL : Hid (corR s = (⟨⟨(takR (cntR 32 s).1 (cntR 32 s).2).1.toArray⟩, (lstR insR 16384 (takR (cntR 32 s).1 (cntR 32 s).2).2).1⟩, (lstR insR 16384 (takR (cntR 32 s).1 (cntR 32 s).2).2).2)) := rfl
  rw [HL.out]
  clear HL
  generalize cntR 32 s = cs at HC hcb ⊢
  obtain ⟨n, s1⟩ := cs
  simp only at HC hcb ⊢
  have HTK : Hid (∀ X, Dq w p s1 X → Calls Tryz.prog 88 #[.pointer (some ⟨p, 0, none⟩), .int .i64 n] X fun e w' => e = .returned (.string ⟨(takR n s1).1.toArray⟩) ∧ Dq w p (takR n s1).2 w') := fun X hX => (b_take hX.st n hcb.1 (by omega)).mono fun _ _ ⟨h1, h2⟩ => ⟨h1, hX.trans h2⟩
  generalize takR n s1 = tk at HTK ⊢
  obtain ⟨tx, s2⟩ := tk
  simp only at HTK ⊢
  generalize (⟨tx.toArray⟩ : ByteArray) = nm at HTK ⊢
  have HD2 : Hid (∀ X, Dq w p s2 X → D2 w B p s2 g 64 #[.string ⟨#[]⟩, .slice none 0 0] X) := fun X hX => hX.d2 hi hgp hB
  have HLI : Hid (∀ X, D2 w B p s2 g 64 #[.string nm, .slice none 0 0] X → Calls Tryz.prog 113 #[.pointer (some ⟨p, 0, none⟩), .int .i64 16384, .func (.func 114) #[.pointer (some ⟨p, 0, none⟩)] #[]] X fun e w' => ∃ a c, e = .returned (.slice a (lstR insR 16384 s2).1.length c) ∧ D2 w B p (lstR insR 16384 s2).2 g 64 #[.string nm, .slice none 0 0] w' ∧ w'.ownsRow w.heap.size 25 9 (.slice a (lstR insR 16384 s2).1.length c) (lstR insR 16384 s2).1.length ((lstR insR 16384 s2).1.flatMap insC)) := fun X hX => (b_listI hX.st 16384 (by decide) (by decide) (fun Y hY => HT Y (hX.bel.trans (hY.mono hB)))).mono fun e w' ⟨v, h1, h2, h3⟩ => by
    obtain ⟨a, c, rfl⟩ := row_slice h3
    exact ⟨a, c, h1, hX.trans (h2.d2 hX.dst hgp hB), row_mono h3 hX.keep.size⟩
  generalize lstR insR 16384 s2 = li at HLI ⊢
  obtain ⟨l, s3⟩ := li
  simp only at HLI ⊢
  clear h hi hgp hB HT hcb hgw
  go_enter Tryz.func93, Tryz.ntmps93
  go_upto_region 1 with (first | (go_at_call 112; refine HC.out.mono ?_; rintro e w1 ⟨rfl, hq⟩; have HQ1 := Lib.hid hq; clear hq) | (go_at_call 88; refine (HTK.out _ HQ1.out).mono ?_; rintro e w2 ⟨rfl, hq⟩; have HQ2 := Lib.hid (HD2.out _ hq); have d0 : w2.cell? ⟨g, 0, none⟩ = some (.string ⟨#[]⟩) := row_cellsO HQ2.out.dst 0 _ rfl; have f0 : w2.frozen? ⟨g, 0, none⟩ = false := own_frozen HQ2.out.dst 0; clear hq))
  have HQ3 : Hid (D2 w B p s2 g 64 #[.string nm, .slice none 0 0] (w2.setCell ⟨g, 0, none⟩ (.string nm))) := HQ2.out.store HH.out.1 HH.out.2.1 0 (.string nm)
  clear d0 f0 HQ2 HQ1
  obtain ⟨W3, hW3⟩ : ∃ W, W = w2.setCell ⟨g, 0, none⟩ (.string nm) := ⟨_, rfl⟩
  rw [← hW3] at HQ3 ⊢
  clear hW3
  go_wp2_with (go_at_call 113; refine (HLI.out _ HQ3.out).mono ?_; rintro e w4 ⟨a, c, rfl, hq, hr⟩; have HQ4 := Lib.hid hq; have HR4 := Lib.hid hr; have d1 : w4.cell? ⟨g, 1, none⟩ = some (.slice none 0 0) := row_cellsO HQ4.out.dst 1 _ rfl; have f1 : w4.frozen? ⟨g, 1, none⟩ = false := own_frozen HQ4.out.dst 1; clear hq hr)
  exact bodyPost_end (results_none rfl _ _ _) rfl ⟨rfl, _, HQ4.out.store HH.out.1 HH.out.2.1 1 _, row_setbelow HR4.out HH.out.2.2 1 _⟩
set_option maxHeartbeats 8000000 in
theorem b_listC {w : World} {p : Nat} {s : Bst} (h : Dr p s w) (most : Int) (hm : 0 ≤ most) (hm2 : most ≤ 100000) (HT : ∀ X, Below p w X → TgT X) :
    Calls Tryz.prog 92 #[.pointer (some ⟨p, 0, none⟩), .int .i64 most, .func (.func 93) #[.pointer (some ⟨p, 0, none⟩)] #[]] w fun e w' => ∃ v, e = .returned v ∧ Dq w p (lstR corR most s).2 w' ∧ ∃ L : List (Cor × Value), L.map Prod.fst = (lstR corR most s).1 ∧ w'.ownsRow w.heap.size 64 2 v L.length (flatC L) ∧ ∀ x ∈ L, w'.ownsRow w.heap.size 25 9 x.2 x.1.code.length (x.1.code.flatMap insC) := by
  obtain ⟨i0, hi, hz0, hz1, hz2⟩ := info_parts info_c
  have hpw := h.lt
  have HC : Hid (Calls Tryz.prog 112 #[.pointer (some ⟨p, 0, none⟩), .int .i64 most] w fun e w' => e = .returned (.int .i64 (cntR most s).1) ∧ Dq w p (cntR most s).2 w') := b_count h most hm (by omega)
  have hcb := cntR_bd most s hm
  have HL : Hid (lstR corR most s = repR corR (cntR most s).1.toNat (cntR most s).2) := rfl
  rw [HL.out]
  clear HL
  generalize hcs : cntR most s = cs at HC hcb ⊢
  obtain ⟨nc, s1⟩ := cs
  simp only at HC hcb ⊢
  obtain ⟨n, rfl⟩ : ∃ n : Nat, nc = (n : Int) := ⟨nc.toNat, by omega⟩
  simp only [Int.toNat_natCast]
  have HB := Lib.hid hcb
  have HTT := Lib.hid HT
  have HPW := Lib.hid hpw
  clear hcs h hcb hpw HT
  go_enter Tryz.func92, Tryz.ntmps92
  go_wp2_with (go_at_call 112; refine HC.out.mono ?_; rintro e w1 ⟨rfl, hq⟩; have HQ1 := Lib.hid hq; clear hq)
  go_loopg [7] (n + 1) (fun m' z X => ∃ (xs : List (Cor × Value)) (sj : Bst), xs.length ≤ n ∧ m' = n - xs.length + 1 ∧ Dq w p sj X ∧ X.ownsRow w.heap.size 64 2 z xs.length (flatC xs) ∧ (∀ x ∈ xs, X.ownsRow w.heap.size 25 9 x.2 x.1.code.length (x.1.code.flatMap insC)) ∧ repR corR n s1 = (xs.map Prod.fst ++ (repR corR (n - xs.length) sj).1, (repR corR (n - xs.length) sj).2))
  case atStart => exact ⟨[], s1, Nat.zero_le _, by simp, HQ1.out, World.ownsRow_nil _ _ _ _, fun x hx => by simp at hx, by simp⟩
  case round =>
    clear HQ1
    obtain ⟨xs, sj, hl, hm', hq, hr, hrs, he⟩ := hrel
    obtain ⟨az, cz, rfl⟩ := row_slice hr
    obtain ⟨aa, ca, hP⟩ := hq.st
    have p1 : wr.cell? ⟨p, 1, none⟩ = some (.bool sj.2) := row_cellsO hP.own 1 _ rfl
    have HM := Lib.hid hm'
    have HQ := Lib.hid hq
    have HR := Lib.hid hr
    have HRS := Lib.hid hrs
    have HE := Lib.hid he
    clear hm' hr he hP hrs
    by_cases hjn : xs.length < n
    · cases hb : sj.2 with
      | true =>
        have HZ : Hid (repR corR n s1 = (xs.map Prod.fst, sj)) := by rw [Hid, HE.out, rep_stop corR _ sj hb, List.append_nil]
        rw [hb] at p1
        clear hb hq HE
        go_wp2_with (fail)
        go_ret
        rw [HZ.out]
        exact ⟨_, rfl, HQ.out, xs, rfl, HR.out, by first | exact HRS.out | exact fun a b h => HRS.out (a, b) h⟩
      | false =>
        rw [hb] at p1
        have al := (Below.refl _ wr).alloc (Nat.le_refl _) (.cells #[.string ⟨#[]⟩, .slice none 0 0] 64)
        have O1 := Own.new wr 64 #[.string ⟨#[]⟩, .slice none 0 0]
        have hpc : p < wr.heap.size := hq.st.lt
        have HRD : Hid (Calls Tryz.prog 93 #[.pointer (some ⟨p, 0, none⟩), .pointer (some ⟨wr.heap.size, 0, none⟩)] (wr.alloc (.cells #[.string ⟨#[]⟩, .slice none 0 0] 64)) fun e w' => e = .returned (.tuple #[]) ∧ ∃ vc, D2 (wr.alloc (.cells #[.string ⟨#[]⟩, .slice none 0 0] 64)) p p (corR sj).2 wr.heap.size 64 #[.string (corR sj).1.name, vc] w' ∧ w'.ownsRow wr.heap.size 25 9 vc (corR sj).1.code.length ((corR sj).1.code.flatMap insC)) := (b_core (hq.st.below al) O1 hpc (Nat.le_refl _) (fun X hX => HTT.out X ((hq.bel (Nat.le_of_lt HPW.out)).trans ((al.mono (Nat.le_of_lt hpc)).trans hX)))).mono fun e w2 ⟨h1, vc, h2, h3⟩ => ⟨h1, vc, h2, row_mono h3 (by simp)⟩
        have hwb : w.heap.size ≤ wr.heap.size := hq.keep.size
        have hst := rep_step corR (n - xs.length - 1) sj hb
        have HST := Lib.hid hst
        clear hst
        generalize corR sj = y at HRD HST
        obtain ⟨x, s2⟩ := y
        simp only at HRD HST
        have HE2 : Hid (∀ vc : Value, repR corR n s1 = ((xs ++ [(x, vc)]).map Prod.fst ++ (repR corR (n - (xs ++ [(x, vc)]).length) s2).1, (repR corR (n - (xs ++ [(x, vc)]).length) s2).2)) := by
          intro vc
          have e1 : n - xs.length = (n - xs.length - 1) + 1 := by omega
          have e2 : n - (xs ++ [(x, vc)]).length = n - xs.length - 1 := by simp only [List.length_append, List.length_cons, List.length_nil]; omega
          rw [HE.out, e2, e1, HST.out]
          simp
        have HOK : Hid (∀ X vc, D2 (wr.alloc (.cells #[.string ⟨#[]⟩, .slice none 0 0] 64)) p p s2 wr.heap.size 64 #[.string x.name, vc] X → Dq w p s2 X ∧ X.ownsRow w.heap.size 64 2 (.slice az xs.length cz) xs.length (flatC xs) ∧ Own X wr.heap.size 64 #[.string x.name, vc] ∧ w.heap.size ≤ X.heap.size ∧ ∀ y ∈ xs, X.ownsRow w.heap.size 25 9 y.2 y.1.code.length (y.1.code.flatMap insC)) := fun X vc hX => ⟨HQ.out.trans hX.dq, row_past HR.out HPW.out rfl hX.keep, hX.dst, Nat.le_trans hwb (Nat.le_of_lt (Nat.lt_of_lt_of_le (by simp) hX.keep.size)), fun y hy => row_past (HRS.out y hy) HPW.out rfl hX.keep⟩
        have HWB := Lib.hid hwb
        obtain ⟨W1, hW1⟩ : ∃ W, W = wr.alloc (.cells #[.string ⟨#[]⟩, .slice none 0 0] 64) := ⟨_, rfl⟩
        rw [← hW1] at HRD HOK
        have HW1 := Lib.hid hW1
        have hlen : xs.length ≤ 100000 := by have := HB.out; omega
        have HLEN := Lib.hid hlen
        obtain ⟨nm, cd⟩ := x
        simp only at HRD HOK
        clear hb hq HE al O1 hpc hW1 hlen hwb HST
        go_upto_region 5 with (fail)
        rw [← HW1.out]
        clear HW1 p1
        go_upto_region 6 with (go_at_call 93; refine HRD.out.mono ?_; rintro e w2 ⟨rfl, vc, hd, hrc⟩; obtain ⟨h1, h2, h3, h4, h5⟩ := HOK.out _ _ hd; obtain ⟨ac, cc, rfl⟩ := row_slice hrc; have HRC := Lib.hid (row_mono hrc HWB.out); have HQ2 := Lib.hid h1; have HR2 := Lib.hid h2; have O3 := h3; have HS2 := Lib.hid h4; have HRS2 := Lib.hid h5; clear hd hrc h1 h2 h3 h4 h5)
        have hown := HR2.out.alloc (.cells #[.string nm, .slice ac cd.length cc] 64)
        have HOW := Lib.hid hown
        have HNW : Hid (∀ j u, ([.string nm, .slice ac cd.length cc] : List Value)[j]? = some u → (w2.alloc (.cells #[.string nm, .slice ac cd.length cc] 64)).cell? ((⟨w2.heap.size, 0, none⟩ : Addr).add j) = some u) := fun j u hj => by
          rw [addr_addD, Nat.zero_add]
          exact row_cellsO (Own.new w2 64 #[.string nm, .slice ac cd.length cc]) j u (by simpa using hj)
        have hlen := HLEN.out
        have hbs : w.heap.size ≤ (w2.alloc (.cells #[.string nm, .slice ac cd.length cc] 64)).heap.size := by rw [World.size_alloc]; have := HS2.out; omega
        clear hown HRD HOK
        go_wp2_with (first | fail | (at_builtin; refine wpList_append_own _ rfl _ _ 27 rfl w.heap.size 64 i0 _ 2 40 Tryz.underlying27 hi hz0 hz1 hz2 rfl (by decide) (.slice az xs.length cz) xs.length (flatC xs) rfl ?_ ⟨w2.heap.size, 0, none⟩ 1 1 [.string nm, .slice ac cd.length cc] rfl rfl ?_ (by simp [Value.oneCell']) (by simp only [maxLen]; omega) (by omega) hbs ?_; (· exact HOW.out); (· exact HNW.out); intro v4 w4 hr4 hg4 _; have HR4 := Lib.hid hr4; have HG4 := Lib.hid hg4; clear hr4 hg4) | (refine ld rowC rfl rfl rfl O3 rfl ?_))
        have hq4 : Dq w p s2 w4 := (HQ2.out.below ((Below.refl _ w2).alloc (Nat.le_refl _) _)).grow HPW.out HG4.out (fun k hk => (HOW.out.lt k hk).1)
        have HQ4 := Lib.hid hq4
        have hrs4 : ∀ y ∈ xs ++ [(⟨nm, cd⟩, .slice ac cd.length cc)], w4.ownsRow w.heap.size 25 9 y.2 y.1.code.length (y.1.code.flatMap insC) := fun y hy => by
          have hal : ∀ {v : Value} {m : Nat} {us : List Value}, w2.ownsRow w.heap.size 25 9 v m us → w4.ownsRow w.heap.size 25 9 v m us := fun {v m us} h => by
            have h6 := h.alloc (.cells #[.string nm, .slice ac cd.length cc] 64)
            exact row_stays h6 fun b _ hb hl => HG4.out.block b hl (fun e => row_apart2 HOW.out h6 rfl b hb e.symm)
          rcases List.mem_append.1 hy with hy | hy
          · exact hal (HRS2.out y hy)
          · obtain rfl := List.mem_singleton.1 hy
            exact hal HRC.out
        have HRS4 := Lib.hid hrs4
        clear hq4 hlen hbs hrs4
        go_roundg (n - (xs.length + 1) + 1)
        case measure => have := HM.out; omega
        case rel => exact ⟨xs ++ [(⟨nm, cd⟩, .slice ac cd.length cc)], s2, by simp only [List.length_append, List.length_cons, List.length_nil]; omega, by simp only [List.length_append, List.length_cons, List.length_nil], HQ4.out, by
          have h5 := HR4.out
          unfold flatC at h5 ⊢
          rw [List.flatMap_append]
          simpa using h5, HRS4.out, HE2.out _⟩
    · have HZ : Hid (repR corR n s1 = (xs.map Prod.fst, sj)) := by
        have e0 : n - xs.length = 0 := by omega
        rw [Hid, HE.out, e0]
        show (xs.map Prod.fst ++ [], sj) = _
        rw [List.append_nil]
      have hnn : ¬ (xs.length : Int) < (n : Int) := by omega
      clear hq HE
      go_wp2_with (fail)
      go_ret
      rw [HZ.out]
      exact ⟨_, rfl, HQ.out, xs, rfl, HR.out, by first | exact HRS.out | exact fun a b h => HRS.out (a, b) h⟩
end Go.Proofs.YtgmcfinjlddgbaaGreatDoor

/- The lexer's small functions: kinds of bytes, how many stand at a text's beginning, words, signs. -/
import Derived.Test.YteedpojchapjgaaDoorLTabs
import Derived.Test.YteedpojchapjgaaDoorShelf
namespace Go.Proofs.YteedpojchapjgaaDoor
open Go.RowKit
set_option linter.unusedVariables false

theorem int_f {a b : Int} (h : a ≠ b) : (a == b) = false := by simpa using h
theorem int_t {a b : Int} (h : a = b) : (a == b) = true := by simpa using h
theorem bytes_t {v s : ByteArray} (h : v.data.toList = s.data.toList) : (v.toList == s.toList) = true := by
  rw [Lib.toList_data, Lib.toList_data, h]; simp
theorem bytes_f {v s : ByteArray} (h : ¬ v.data.toList = s.data.toList) : (v.toList == s.toList) = false := by
  rw [Lib.toList_data, Lib.toList_data]; simpa using h
theorem ret_bool {a b : Bool} (h : a = b) : Ending.returned (.bool a) = .returned (.bool b) := by rw [h]

def letterB (c : Int) : Bool := decide (97 ≤ c ∧ c ≤ 122 ∨ 65 ≤ c ∧ c ≤ 90 ∨ c = 95)
def digitB (c : Int) : Bool := decide (48 ≤ c ∧ c ≤ 57)
def namedB (c : Int) : Bool := letterB c || digitB c
def blankB (c : Int) : Bool := decide (c = 32 ∨ c = 9 ∨ c = 10 ∨ c = 13)
def feedB (c : Int) : Bool := decide (c ≠ 10)
def shortL : List UInt8 := [40, 41, 123, 125, 44, 59, 61, 43, 45, 42, 47, 37, 38, 124, 94, 33, 60, 62]
def signB (c : Int) : Bool := decide (0 ≤ Lib.indexByte shortL c.toNat.toUInt8)
theorem b_t {p : Prop} [Decidable p] (h : p) : decide p = true := by simpa using h
theorem b_f {p : Prop} [Decidable p] (h : ¬ p) : decide p = false := by simpa using h
theorem letter_any (c : Int) (h0 : 0 ≤ c) (h1 : c ≤ 255) (w : World) : Calls Tryd.prog 55 #[.int .u8 c] w fun e w' => e = .returned (.bool (letterB c)) ∧ w = w' := by
  by_cases h : 97 ≤ c ∧ c ≤ 122
  · have e : letterB c = true := b_t (by omega)
    rw [e]
    clear e
    obtain ⟨k0, k1⟩ := h
    go_enter Tryd.func55, Tryd.ntmps55
    go_wp2
    go_ret
    exact ⟨rfl, rfl⟩
  by_cases h : 65 ≤ c ∧ c ≤ 90
  · have e : letterB c = true := b_t (by omega)
    rw [e]
    clear e
    obtain ⟨k0, k1⟩ := h
    go_enter Tryd.func55, Tryd.ntmps55
    go_wp2
    go_ret
    exact ⟨rfl, rfl⟩
  by_cases h : c = 95
  · have e : letterB c = true := b_t (by omega)
    rw [e]
    clear e
    subst h
    go_enter Tryd.func55, Tryd.ntmps55
    go_wp2
    go_ret
    exact ⟨rfl, rfl⟩
  by_cases h : c < 65
  · have e : letterB c = false := b_f (by omega)
    rw [e]
    clear e
    have q : (c == 95) = false := int_f (by omega)
    go_enter Tryd.func55, Tryd.ntmps55
    go_wp2
    go_ret
    exact ⟨rfl, rfl⟩
  by_cases h : 90 < c ∧ c < 95
  · have e : letterB c = false := b_f (by omega)
    rw [e]
    clear e
    have q : (c == 95) = false := int_f (by omega)
    have d90 : decide (c ≤ 90) = false := b_f (by omega)
    go_enter Tryd.func55, Tryd.ntmps55
    go_wp2
    go_ret
    exact ⟨rfl, rfl⟩
  by_cases h : c = 96
  · have e : letterB c = false := b_f (by omega)
    rw [e]
    clear e
    subst h
    go_enter Tryd.func55, Tryd.ntmps55
    go_wp2
    go_ret
    exact ⟨rfl, rfl⟩
  · have h' : 122 < c := by omega
    have e : letterB c = false := b_f (by omega)
    have q : (c == 95) = false := int_f (by omega)
    have d90 : decide (c ≤ 90) = false := b_f (by omega)
    have d122 : decide (c ≤ 122) = false := b_f (by omega)
    rw [e]
    clear e
    go_enter Tryd.func55, Tryd.ntmps55
    go_wp2
    go_ret
    exact ⟨rfl, rfl⟩
theorem digit_any (c : Int) (h0 : 0 ≤ c) (h1 : c ≤ 255) (w : World) : Calls Tryd.prog 34 #[.int .u8 c] w fun e w' => e = .returned (.bool (digitB c)) ∧ w = w' := by
  by_cases k0 : c < 48
  · have e : digitB c = false := b_f (by omega)
    rw [e]
    clear e
    go_enter Tryd.func34, Tryd.ntmps34
    go_wp2
    go_ret
    exact ⟨rfl, rfl⟩
  · by_cases k1 : 57 < c
    · have e : digitB c = false := b_f (by omega)
      have hd : decide (c ≤ 57) = false := b_f (by omega)
      rw [e]
      clear e
      go_enter Tryd.func34, Tryd.ntmps34
      go_wp2
      go_ret
      exact ⟨rfl, rfl⟩
    · have e : digitB c = true := b_t (by omega)
      rw [e]
      clear e
      go_enter Tryd.func34, Tryd.ntmps34
      go_wp2
      go_ret
      exact ⟨rfl, rfl⟩
theorem named_any (c : Int) (h0 : 0 ≤ c) (h1 : c ≤ 255) (w : World) : Calls Tryd.prog 36 #[.int .u8 c] w fun e w' => e = .returned (.bool (namedB c)) ∧ w = w' := by
  have H1 := Lib.hid (fun w => letter_any c h0 h1 w)
  have H2 := Lib.hid (fun w => digit_any c h0 h1 w)
  obtain ⟨a, ha⟩ : ∃ a, a = letterB c := ⟨_, rfl⟩
  obtain ⟨b, hb⟩ : ∃ b, b = digitB c := ⟨_, rfl⟩
  have e : namedB c = (a || b) := by rw [ha, hb]; rfl
  rw [← ha] at H1
  rw [← hb] at H2
  rw [e]
  clear ha hb e
  cases a
  · go_enter Tryd.func36, Tryd.ntmps36
    go_wp2_with (first | (go_at_call 55; refine (H1.out _).mono ?_; rintro e w' ⟨rfl, rfl⟩) | (go_at_call 34; refine (H2.out _).mono ?_; rintro e w' ⟨rfl, rfl⟩))
    go_ret
    exact ⟨rfl, rfl⟩
  · go_enter Tryd.func36, Tryd.ntmps36
    go_wp2_with (first | (go_at_call 55; refine (H1.out _).mono ?_; rintro e w' ⟨rfl, rfl⟩) | (go_at_call 34; refine (H2.out _).mono ?_; rintro e w' ⟨rfl, rfl⟩))
    go_ret
    exact ⟨rfl, rfl⟩
theorem blank_any (c : Int) (h0 : 0 ≤ c) (h1 : c ≤ 255) (w : World) : Calls Tryd.prog 78 #[.int .u8 c] w fun e w' => e = .returned (.bool (blankB c)) ∧ w = w' := by
  by_cases k32 : c = 32
  · subst k32
    have e : blankB 32 = true := b_t (by omega)
    rw [e]
    clear e
    go_enter Tryd.func78, Tryd.ntmps78
    go_wp2
    go_ret
    exact ⟨rfl, rfl⟩
  by_cases k9 : c = 9
  · subst k9
    have e : blankB 9 = true := b_t (by omega)
    rw [e]
    clear e
    go_enter Tryd.func78, Tryd.ntmps78
    go_wp2
    go_ret
    exact ⟨rfl, rfl⟩
  by_cases k10 : c = 10
  · subst k10
    have e : blankB 10 = true := b_t (by omega)
    rw [e]
    clear e
    go_enter Tryd.func78, Tryd.ntmps78
    go_wp2
    go_ret
    exact ⟨rfl, rfl⟩
  by_cases k13 : c = 13
  · subst k13
    have e : blankB 13 = true := b_t (by omega)
    rw [e]
    clear e
    go_enter Tryd.func78, Tryd.ntmps78
    go_wp2
    go_ret
    exact ⟨rfl, rfl⟩
  · have e : blankB c = false := b_f (by omega)
    have q1 := int_f k32
    have q2 := int_f k9
    have q3 := int_f k10
    have q4 := int_f k13
    rw [e]
    clear e k32 k9 k10 k13
    go_enter Tryd.func78, Tryd.ntmps78
    go_wp2
    go_ret
    exact ⟨rfl, rfl⟩
theorem feed_any (c : Int) (h0 : 0 ≤ c) (h1 : c ≤ 255) (w : World) : Calls Tryd.prog 79 #[.int .u8 c] w fun e w' => e = .returned (.bool (feedB c)) ∧ w = w' := by
  by_cases k : c = 10
  · subst k
    have e : feedB 10 = false := b_f (by omega)
    rw [e]
    clear e
    go_enter Tryd.func79, Tryd.ntmps79
    go_wp2
    go_ret
    exact ⟨rfl, rfl⟩
  · have e : feedB c = true := b_t k
    have q : (c != 10) = true := by simpa using k
    rw [e]
    clear e k
    go_enter Tryd.func79, Tryd.ntmps79
    go_wp2
    go_ret
    exact ⟨rfl, rfl⟩
theorem sign_any (c : Int) (h0 : 0 ≤ c) (h1 : c ≤ 255) (w : World) : Calls Tryd.prog 57 #[.int .u8 c] w fun e w' => e = .returned (.bool (signB c)) ∧ w = w' := by
  have H := Lib.hid (show ∀ w : World, Calls Tryd.prog 74 #[.string ⟨#[40, 41, 123, 125, 44, 59, 61, 43, 45, 42, 47, 37, 38, 124, 94, 33, 60, 62]⟩, .int .u8 c] w fun e w' => e = .returned (.int .i64 (Lib.indexByte shortL c.toNat.toUInt8)) ∧ w' = w from fun w => Go.Proofs.Tryd.strings_IndexByte _ c w)
  unfold signB
  obtain ⟨v, hv⟩ : ∃ v, v = Lib.indexByte shortL c.toNat.toUInt8 := ⟨_, rfl⟩
  rw [← hv] at H ⊢
  clear hv h0 h1
  go_enter Tryd.func57, Tryd.ntmps57
  go_wp2_with (go_at_call 74; refine (H.out _).mono ?_; rintro e w' ⟨rfl, rfl⟩)
  go_ret
  exact ⟨rfl, rfl⟩
/-- How many bytes at the beginning are such. -/
def spanN (p : Int → Bool) : List UInt8 → Nat
  | [] => 0
  | c :: r => if p (c.toNat : Int) = true then spanN p r + 1 else 0
theorem spanN_le (p : Int → Bool) : ∀ l : List UInt8, spanN p l ≤ l.length
  | [] => Nat.le_refl _
  | c :: r => by
    simp only [spanN, List.length_cons]
    have := spanN_le p r
    split <;> omega
/-- A text's bytes from a place on. -/
def bytesFrom (s : ByteArray) (n : Nat) : List UInt8 := s.data.toList.drop n
theorem from_at (s : ByteArray) (k : Nat) (h : k < s.size) : bytesFrom s k = s[k] :: bytesFrom s (k + 1) := by
  unfold bytesFrom
  rw [List.drop_eq_getElem_cons (by simpa using h)]; rfl
theorem from_end (s : ByteArray) (k : Nat) (h : s.size ≤ k) : bytesFrom s k = [] := List.drop_of_length_le (by simpa using h)
theorem from_nought (s : ByteArray) : bytesFrom s 0 = s.data.toList := rfl
theorem span_digit (s : ByteArray) (hs : s.size ≤ 4611686018427387904) (w : World) : Calls Tryd.prog 35 #[.string s, .func (.func 34) #[] #[]] w fun e w' => e = .returned (.int .i64 (spanN digitB s.data.toList)) ∧ w = w' := by
  obtain ⟨R, hR⟩ : ∃ R, R = spanN digitB s.data.toList := ⟨_, rfl⟩
  rw [← hR]
  have HR := Lib.hid hR
  clear hR
  go_enter Tryd.func35, Tryd.ntmps35
  go_wp2_with fail
  go_loop [8] (fun i => ∃ k : Nat, k ≤ s.size ∧ i = .int .i64 k ∧ Hid (spanN digitB (bytesFrom s k) + k = R)) (fun i => s.size - (intOf i).toNat)
  case atStart => exact ⟨0, Nat.zero_le _, rfl, HR.out.symm⟩
  case round =>
    obtain ⟨k, hk, rfl, hp⟩ := hrel
    by_cases hlt : k < s.size
    · have hx0 := PlainAid.bt_nonneg s k
      have hx1 := PlainAid.bt_le s k
      have hu : ((s[k]).toNat : Int) = PlainAid.bt s k := PlainAid.get_bt s k hlt
      have hfr := from_at s k hlt
      obtain ⟨c, hc⟩ : ∃ c, c = PlainAid.bt s k := ⟨_, rfl⟩
      have hbt : ∀ h : k < s.size, ((s[k]'h).toNat : Int) = c := fun h => by rw [hc]; exact PlainAid.get_bt s k h
      rw [← hc] at hu hx0 hx1
      clear hc
      have H := Lib.hid (fun w => digit_any c hx0 hx1 w)
      by_cases hpc : digitB c = true
      · have hn : Hid (spanN digitB (bytesFrom s (k + 1)) + (k + 1) = R) := by
          rw [Hid, ← hp.out, hfr]; simp only [spanN]; rw [hu, if_pos hpc]; omega
        rw [hpc] at H
        clear hfr hu hp hpc
        go_wp2_with (go_at_call 34; refine (H.out _).mono ?_; rintro e w' ⟨rfl, rfl⟩)
        go_round
        case rel => exact ⟨k + 1, by omega, by go_num, hn⟩
        case measure => simp [intOf]; omega
      · have hn : Hid (k = R) := by
          rw [Hid, ← hp.out, hfr]; simp only [spanN]; rw [hu, if_neg hpc]; omega
        have hpf : digitB c = false := by simpa using hpc
        rw [hpf] at H
        clear hfr hu hp hpc hpf
        go_wp2_with (go_at_call 34; refine (H.out _).mono ?_; rintro e w' ⟨rfl, rfl⟩)
        go_ret
        rw [← hn.out]
        exact ⟨rfl, rfl⟩
    · have hn : Hid (s.size = R) := by
        rw [Hid, ← hp.out, from_end s k (by omega)]; simp only [spanN]; omega
      clear hp
      go_wp2_with fail
      go_ret
      rw [← hn.out]
      exact ⟨rfl, rfl⟩
theorem span_named (s : ByteArray) (hs : s.size ≤ 4611686018427387904) (w : World) : Calls Tryd.prog 35 #[.string s, .func (.func 36) #[] #[]] w fun e w' => e = .returned (.int .i64 (spanN namedB s.data.toList)) ∧ w = w' := by
  obtain ⟨R, hR⟩ : ∃ R, R = spanN namedB s.data.toList := ⟨_, rfl⟩
  rw [← hR]
  have HR := Lib.hid hR
  clear hR
  go_enter Tryd.func35, Tryd.ntmps35
  go_wp2_with fail
  go_loop [8] (fun i => ∃ k : Nat, k ≤ s.size ∧ i = .int .i64 k ∧ Hid (spanN namedB (bytesFrom s k) + k = R)) (fun i => s.size - (intOf i).toNat)
  case atStart => exact ⟨0, Nat.zero_le _, rfl, HR.out.symm⟩
  case round =>
    obtain ⟨k, hk, rfl, hp⟩ := hrel
    by_cases hlt : k < s.size
    · have hx0 := PlainAid.bt_nonneg s k
      have hx1 := PlainAid.bt_le s k
      have hu : ((s[k]).toNat : Int) = PlainAid.bt s k := PlainAid.get_bt s k hlt
      have hfr := from_at s k hlt
      obtain ⟨c, hc⟩ : ∃ c, c = PlainAid.bt s k := ⟨_, rfl⟩
      have hbt : ∀ h : k < s.size, ((s[k]'h).toNat : Int) = c := fun h => by rw [hc]; exact PlainAid.get_bt s k h
      rw [← hc] at hu hx0 hx1
      clear hc
      have H := Lib.hid (fun w => named_any c hx0 hx1 w)
      by_cases hpc : namedB c = true
      · have hn : Hid (spanN namedB (bytesFrom s (k + 1)) + (k + 1) = R) := by
          rw [Hid, ← hp.out, hfr]; simp only [spanN]; rw [hu, if_pos hpc]; omega
        rw [hpc] at H
        clear hfr hu hp hpc
        go_wp2_with (go_at_call 36; refine (H.out _).mono ?_; rintro e w' ⟨rfl, rfl⟩)
        go_round
        case rel => exact ⟨k + 1, by omega, by go_num, hn⟩
        case measure => simp [intOf]; omega
      · have hn : Hid (k = R) := by
          rw [Hid, ← hp.out, hfr]; simp only [spanN]; rw [hu, if_neg hpc]; omega
        have hpf : namedB c = false := by simpa using hpc
        rw [hpf] at H
        clear hfr hu hp hpc hpf
        go_wp2_with (go_at_call 36; refine (H.out _).mono ?_; rintro e w' ⟨rfl, rfl⟩)
        go_ret
        rw [← hn.out]
        exact ⟨rfl, rfl⟩
    · have hn : Hid (s.size = R) := by
        rw [Hid, ← hp.out, from_end s k (by omega)]; simp only [spanN]; omega
      clear hp
      go_wp2_with fail
      go_ret
      rw [← hn.out]
      exact ⟨rfl, rfl⟩
theorem span_blank (s : ByteArray) (hs : s.size ≤ 4611686018427387904) (w : World) : Calls Tryd.prog 35 #[.string s, .func (.func 78) #[] #[]] w fun e w' => e = .returned (.int .i64 (spanN blankB s.data.toList)) ∧ w = w' := by
  obtain ⟨R, hR⟩ : ∃ R, R = spanN blankB s.data.toList := ⟨_, rfl⟩
  rw [← hR]
  have HR := Lib.hid hR
  clear hR
  go_enter Tryd.func35, Tryd.ntmps35
  go_wp2_with fail
  go_loop [8] (fun i => ∃ k : Nat, k ≤ s.size ∧ i = .int .i64 k ∧ Hid (spanN blankB (bytesFrom s k) + k = R)) (fun i => s.size - (intOf i).toNat)
  case atStart => exact ⟨0, Nat.zero_le _, rfl, HR.out.symm⟩
  case round =>
    obtain ⟨k, hk, rfl, hp⟩ := hrel
    by_cases hlt : k < s.size
    · have hx0 := PlainAid.bt_nonneg s k
      have hx1 := PlainAid.bt_le s k
      have hu : ((s[k]).toNat : Int) = PlainAid.bt s k := PlainAid.get_bt s k hlt
      have hfr := from_at s k hlt
      obtain ⟨c, hc⟩ : ∃ c, c = PlainAid.bt s k := ⟨_, rfl⟩
      have hbt : ∀ h : k < s.size, ((s[k]'h).toNat : Int) = c := fun h => by rw [hc]; exact PlainAid.get_bt s k h
      rw [← hc] at hu hx0 hx1
      clear hc
      have H := Lib.hid (fun w => blank_any c hx0 hx1 w)
      by_cases hpc : blankB c = true
      · have hn : Hid (spanN blankB (bytesFrom s (k + 1)) + (k + 1) = R) := by
          rw [Hid, ← hp.out, hfr]; simp only [spanN]; rw [hu, if_pos hpc]; omega
        rw [hpc] at H
        clear hfr hu hp hpc
        go_wp2_with (go_at_call 78; refine (H.out _).mono ?_; rintro e w' ⟨rfl, rfl⟩)
        go_round
        case rel => exact ⟨k + 1, by omega, by go_num, hn⟩
        case measure => simp [intOf]; omega
      · have hn : Hid (k = R) := by
          rw [Hid, ← hp.out, hfr]; simp only [spanN]; rw [hu, if_neg hpc]; omega
        have hpf : blankB c = false := by simpa using hpc
        rw [hpf] at H
        clear hfr hu hp hpc hpf
        go_wp2_with (go_at_call 78; refine (H.out _).mono ?_; rintro e w' ⟨rfl, rfl⟩)
        go_ret
        rw [← hn.out]
        exact ⟨rfl, rfl⟩
    · have hn : Hid (s.size = R) := by
        rw [Hid, ← hp.out, from_end s k (by omega)]; simp only [spanN]; omega
      clear hp
      go_wp2_with fail
      go_ret
      rw [← hn.out]
      exact ⟨rfl, rfl⟩
theorem span_feed (s : ByteArray) (hs : s.size ≤ 4611686018427387904) (w : World) : Calls Tryd.prog 35 #[.string s, .func (.func 79) #[] #[]] w fun e w' => e = .returned (.int .i64 (spanN feedB s.data.toList)) ∧ w = w' := by
  obtain ⟨R, hR⟩ : ∃ R, R = spanN feedB s.data.toList := ⟨_, rfl⟩
  rw [← hR]
  have HR := Lib.hid hR
  clear hR
  go_enter Tryd.func35, Tryd.ntmps35
  go_wp2_with fail
  go_loop [8] (fun i => ∃ k : Nat, k ≤ s.size ∧ i = .int .i64 k ∧ Hid (spanN feedB (bytesFrom s k) + k = R)) (fun i => s.size - (intOf i).toNat)
  case atStart => exact ⟨0, Nat.zero_le _, rfl, HR.out.symm⟩
  case round =>
    obtain ⟨k, hk, rfl, hp⟩ := hrel
    by_cases hlt : k < s.size
    · have hx0 := PlainAid.bt_nonneg s k
      have hx1 := PlainAid.bt_le s k
      have hu : ((s[k]).toNat : Int) = PlainAid.bt s k := PlainAid.get_bt s k hlt
      have hfr := from_at s k hlt
      obtain ⟨c, hc⟩ : ∃ c, c = PlainAid.bt s k := ⟨_, rfl⟩
      have hbt : ∀ h : k < s.size, ((s[k]'h).toNat : Int) = c := fun h => by rw [hc]; exact PlainAid.get_bt s k h
      rw [← hc] at hu hx0 hx1
      clear hc
      have H := Lib.hid (fun w => feed_any c hx0 hx1 w)
      by_cases hpc : feedB c = true
      · have hn : Hid (spanN feedB (bytesFrom s (k + 1)) + (k + 1) = R) := by
          rw [Hid, ← hp.out, hfr]; simp only [spanN]; rw [hu, if_pos hpc]; omega
        rw [hpc] at H
        clear hfr hu hp hpc
        go_wp2_with (go_at_call 79; refine (H.out _).mono ?_; rintro e w' ⟨rfl, rfl⟩)
        go_round
        case rel => exact ⟨k + 1, by omega, by go_num, hn⟩
        case measure => simp [intOf]; omega
      · have hn : Hid (k = R) := by
          rw [Hid, ← hp.out, hfr]; simp only [spanN]; rw [hu, if_neg hpc]; omega
        have hpf : feedB c = false := by simpa using hpc
        rw [hpf] at H
        clear hfr hu hp hpc hpf
        go_wp2_with (go_at_call 79; refine (H.out _).mono ?_; rintro e w' ⟨rfl, rfl⟩)
        go_ret
        rw [← hn.out]
        exact ⟨rfl, rfl⟩
    · have hn : Hid (s.size = R) := by
        rw [Hid, ← hp.out, from_end s k (by omega)]; simp only [spanN]; omega
      clear hp
      go_wp2_with fail
      go_ret
      rw [← hn.out]
      exact ⟨rfl, rfl⟩
end Go.Proofs.YteedpojchapjgaaDoor

/- Small lemmas. -/
import Derived.Test.YtmpljhfinmfnbaaDoorB0
import Derived.Test.YtmpljhfinmfnbaaDoorProg
import Derived.WalkKit
import Derived.ProofKit
import Derived.LaidMore
import Derived.OpenShut
import Derived.ShutString
import Derived.Stop.Joined
import Derived.Below
import Derived.WalkSmall
import Derived.SevenTiedAt
import Derived.Handy
import Derived.PlainAid
import Derived.Lib.LaidTab
import Derived.Lib.Hide
import Derived.Lib.Strings
import Derived.Laws.Rows
import Derived.Laws.Tables
import Derived.Lib.ItoaNum
import Derived.MakeChecks
import Derived.WalkLawsBesides
import Derived.Lib.Bytealg
import Derived.Deep.QuietTactic
import Derived.BigQuiet
import Derived.Deep.DeepCutAuto
import Derived.Deep.RegionWith
import Derived.Lib.ItoaMem
import Derived.Laws.IdiomStrings
import Derived.StillTailTactics
namespace Go.Proofs.YtmpljhfinmfnbaaDoor
open Go.RowKit
set_option linter.unusedVariables false
set_option maxRecDepth 100000
theorem gWords : Tryd.prog.globalNamed "stile/lexer.languageWords" = some 2 := by kernel_rfl
def wordCells : Array Value := (wordsL.map fun s => Value.string ⟨s.toArray⟩).toArray
def lev : List Int := [0, 7, 7, 8, 8, 8, 3, 1, 2, 6, 6, 4, 4, 5, 5, 5, 5, 9, 9]
/-- What the listed variables of the words hold. -/
structure Tabs (W : World) : Prop where
  size1 : 1 < W.heap.size
  lev : ∀ i, i < 19 → W.cell? ⟨1, i, none⟩ = some (.int .i64 (lev.getD i 0))
theorem ret_bool {a b : Bool} (h : a = b) : Ending.returned (.bool a) = .returned (.bool b) := by rw [h]
theorem b_t {p : Prop} [Decidable p] (h : p) : decide p = true := by simpa using h
theorem b_f {p : Prop} [Decidable p] (h : ¬ p) : decide p = false := by simpa using h
theorem letter_any (c : Int) (h0 : 0 ≤ c) (h1 : c ≤ 255) (w : World) : Calls Tryd.prog 127 #[.int .u8 c] w fun e w' => e = .returned (.bool (letterB c)) ∧ w = w' := by
  by_cases h : 97 ≤ c ∧ c ≤ 122
  · have e : letterB c = true := b_t (by omega)
    rw [e]
    clear e
    obtain ⟨k0, k1⟩ := h
    go_enter Tryd.func127, Tryd.ntmps127
    go_wp2
    go_ret
    exact ⟨rfl, rfl⟩
  by_cases h : 65 ≤ c ∧ c ≤ 90
  · have e : letterB c = true := b_t (by omega)
    rw [e]
    clear e
    obtain ⟨k0, k1⟩ := h
    go_enter Tryd.func127, Tryd.ntmps127
    go_wp2
    go_ret
    exact ⟨rfl, rfl⟩
  by_cases h : c = 95
  · have e : letterB c = true := b_t (by omega)
    rw [e]
    clear e
    subst h
    go_enter Tryd.func127, Tryd.ntmps127
    go_wp2
    go_ret
    exact ⟨rfl, rfl⟩
  by_cases h : c < 65
  · have e : letterB c = false := b_f (by omega)
    rw [e]
    clear e
    have q : (c == 95) = false := int_f (by omega)
    go_enter Tryd.func127, Tryd.ntmps127
    go_wp2
    go_ret
    exact ⟨rfl, rfl⟩
  by_cases h : 90 < c ∧ c < 95
  · have e : letterB c = false := b_f (by omega)
    rw [e]
    clear e
    have q : (c == 95) = false := int_f (by omega)
    have d90 : decide (c ≤ 90) = false := b_f (by omega)
    go_enter Tryd.func127, Tryd.ntmps127
    go_wp2
    go_ret
    exact ⟨rfl, rfl⟩
  by_cases h : c = 96
  · have e : letterB c = false := b_f (by omega)
    rw [e]
    clear e
    subst h
    go_enter Tryd.func127, Tryd.ntmps127
    go_wp2
    go_ret
    exact ⟨rfl, rfl⟩
  · have h' : 122 < c := by omega
    have e : letterB c = false := b_f (by omega)
    have q : (c == 95) = false := int_f (by omega)
    have d90 : decide (c ≤ 90) = false := b_f (by omega)
    have d122 : decide (c ≤ 122) = false := b_f (by omega)
    rw [e]
    clear e
    go_enter Tryd.func127, Tryd.ntmps127
    go_wp2
    go_ret
    exact ⟨rfl, rfl⟩
theorem digit_any (c : Int) (h0 : 0 ≤ c) (h1 : c ≤ 255) (w : World) : Calls Tryd.prog 102 #[.int .u8 c] w fun e w' => e = .returned (.bool (digitB c)) ∧ w = w' := by
  by_cases k0 : c < 48
  · have e : digitB c = false := b_f (by omega)
    rw [e]
    clear e
    go_enter Tryd.func102, Tryd.ntmps102
    go_wp2
    go_ret
    exact ⟨rfl, rfl⟩
  · by_cases k1 : 57 < c
    · have e : digitB c = false := b_f (by omega)
      have hd : decide (c ≤ 57) = false := b_f (by omega)
      rw [e]
      clear e
      go_enter Tryd.func102, Tryd.ntmps102
      go_wp2
      go_ret
      exact ⟨rfl, rfl⟩
    · have e : digitB c = true := b_t (by omega)
      rw [e]
      clear e
      go_enter Tryd.func102, Tryd.ntmps102
      go_wp2
      go_ret
      exact ⟨rfl, rfl⟩
theorem named_any (c : Int) (h0 : 0 ≤ c) (h1 : c ≤ 255) (w : World) : Calls Tryd.prog 105 #[.int .u8 c] w fun e w' => e = .returned (.bool (namedB c)) ∧ w = w' := by
  have H1 := Lib.hid (fun w => letter_any c h0 h1 w)
  have H2 := Lib.hid (fun w => digit_any c h0 h1 w)
  obtain ⟨a, ha⟩ : ∃ a, a = letterB c := ⟨_, rfl⟩
  obtain ⟨b, hb⟩ : ∃ b, b = digitB c := ⟨_, rfl⟩
  have e : namedB c = (a || b) := by rw [ha, hb]; rfl
  rw [← ha] at H1
  rw [← hb] at H2
  rw [e]
  clear ha hb e
  cases a
  · go_enter Tryd.func105, Tryd.ntmps105
    go_wp2_with (first | (go_at_call 127; refine (H1.out _).mono ?_; rintro e w' ⟨rfl, rfl⟩) | (go_at_call 102; refine (H2.out _).mono ?_; rintro e w' ⟨rfl, rfl⟩))
    go_ret
    exact ⟨rfl, rfl⟩
  · go_enter Tryd.func105, Tryd.ntmps105
    go_wp2_with (first | (go_at_call 127; refine (H1.out _).mono ?_; rintro e w' ⟨rfl, rfl⟩) | (go_at_call 102; refine (H2.out _).mono ?_; rintro e w' ⟨rfl, rfl⟩))
    go_ret
    exact ⟨rfl, rfl⟩
/-- A text's bytes from a place on. -/
def bytesFrom (s : ByteArray) (n : Nat) : List UInt8 := s.data.toList.drop n
theorem from_at (s : ByteArray) (k : Nat) (h : k < s.size) : bytesFrom s k = s[k] :: bytesFrom s (k + 1) := by
  unfold bytesFrom
  rw [List.drop_eq_getElem_cons (by simpa using h)]; rfl
theorem from_end (s : ByteArray) (k : Nat) (h : s.size ≤ k) : bytesFrom s k = [] := List.drop_of_length_le (by simpa using h)
theorem span_named (s : ByteArray) (hs : s.size ≤ 4611686018427387904) (w : World) : Calls Tryd.prog 104 #[.string s, .func (.func 105) #[] #[]] w fun e w' => e = .returned (.int .i64 (spanN namedB s.data.toList)) ∧ w = w' := by
  obtain ⟨R, hR⟩ : ∃ R, R = spanN namedB s.data.toList := ⟨_, rfl⟩
  rw [← hR]
  have HR := Lib.hid hR
  clear hR
  go_enter Tryd.func104, Tryd.ntmps104
  go_wp2_with fail
  go_loop [8] (fun i => ∃ k : Nat, k ≤ s.size ∧ i = .int .i64 k ∧ Hid (spanN namedB (bytesFrom s k) + k = R)) (fun i => s.size - (intOf i).toNat)
  case atStart => exact ⟨0, Nat.zero_le _, rfl, HR.out.symm⟩
  case round =>
    obtain ⟨k, hk, rfl, hp⟩ := hrel
    by_cases hlt : k < s.size
    · have hx0 := PlainAid.bt_nonneg s k
      have hx1 := PlainAid.bt_le s k
      have hu : ((s[k]).toNat : Int) = PlainAid.bt s k := PlainAid.get_bt s k hlt
      have hfr := from_at s k hlt
      obtain ⟨c, hc⟩ : ∃ c, c = PlainAid.bt s k := ⟨_, rfl⟩
      have hbt : ∀ h : k < s.size, ((s[k]'h).toNat : Int) = c := fun h => by rw [hc]; exact PlainAid.get_bt s k h
      rw [← hc] at hu hx0 hx1
      clear hc
      have H := Lib.hid (fun w => named_any c hx0 hx1 w)
      by_cases hpc : namedB c = true
      · have hn : Hid (spanN namedB (bytesFrom s (k + 1)) + (k + 1) = R) := by
          rw [Hid, ← hp.out, hfr]; simp only [spanN]; rw [hu, if_pos hpc]; omega
        rw [hpc] at H
        clear hfr hu hp hpc
        go_wp2_with (go_at_call 105; refine (H.out _).mono ?_; rintro e w' ⟨rfl, rfl⟩)
        go_round
        case rel => exact ⟨k + 1, by omega, by go_num, hn⟩
        case measure => simp [intOf]; omega
      · have hn : Hid (k = R) := by
          rw [Hid, ← hp.out, hfr]; simp only [spanN]; rw [hu, if_neg hpc]; omega
        have hpf : namedB c = false := by simpa using hpc
        rw [hpf] at H
        clear hfr hu hp hpc hpf
        go_wp2_with (go_at_call 105; refine (H.out _).mono ?_; rintro e w' ⟨rfl, rfl⟩)
        go_ret
        rw [← hn.out]
        exact ⟨rfl, rfl⟩
    · have hn : Hid (s.size = R) := by
        rw [Hid, ← hp.out, from_end s k (by omega)]; simp only [spanN]; omega
      clear hp
      go_wp2_with fail
      go_ret
      rw [← hn.out]
      exact ⟨rfl, rfl⟩
theorem var_heap {P : Program} {w : World} {n : String} {g : Nat} {cs : Array Value} (hg : P.globalNamed n = some g) (h : w.var? P n = some cs) : ∃ t fr, w.heap[g]? = some (.cells cs t fr) := by
  simp only [World.var?, hg, Option.bind_some] at h
  split at h
  · rename_i c e fr he
    simp only [Option.some.injEq] at h
    subst h
    exact ⟨_, _, he⟩
  · cases h
theorem nonempty_facts {s : ByteArray} (h0 : 0 < s.size) : s.toList.isEmpty = false ∧ ¬ s.toList = [] := by
  have hfr : s.data.toList = s[0] :: bytesFrom s 1 := from_at s 0 h0
  exact ⟨by rw [Lib.toList_data, hfr]; rfl, by rw [Lib.toList_data, hfr]; simp⟩
theorem empty_of {s : ByteArray} (h : ¬ 0 < s.size) : s = ⟨#[]⟩ := by
  cases s with
  | mk d =>
    have h1 : (ByteArray.mk d).size = 0 := by omega
    have h2 : d.size = 0 := h1
    simp at h2; rw [h2]
def wordL (l : List UInt8) : Bool := (l == [115, 104, 97, 114, 101, 100]) || (l == [108, 111, 99, 107]) || (l == [116, 104, 114, 101, 97, 100]) || (l == [108, 111, 99, 97, 108]) || (l == [105, 102]) || (l == [101, 108, 115, 101]) || (l == [119, 104, 105, 108, 101]) || (l == [112, 114, 105, 110, 116]) || (l == [115, 107, 105, 112]) || (l == [115, 119, 97, 112])
theorem wordB_list (s : ByteArray) : wordB s = wordL s.toList := by
  have h : ∀ (v : ByteArray) (l : List UInt8), v.toList = l → (v.toList == s.toList) = (s.toList == l) := fun v l e => by
    rw [e]; exact Bool.eq_iff_iff.2 ⟨fun h => by simpa using (by simpa using h : l = s.toList).symm, fun h => by simpa using (by simpa using h : s.toList = l).symm⟩
  unfold wordB wordL
  rw [h (wordAt 0) [115, 104, 97, 114, 101, 100] (by rw [Lib.toList_data]; rfl), h (wordAt 1) [108, 111, 99, 107] (by rw [Lib.toList_data]; rfl), h (wordAt 2) [116, 104, 114, 101, 97, 100] (by rw [Lib.toList_data]; rfl), h (wordAt 3) [108, 111, 99, 97, 108] (by rw [Lib.toList_data]; rfl), h (wordAt 4) [105, 102] (by rw [Lib.toList_data]; rfl), h (wordAt 5) [101, 108, 115, 101] (by rw [Lib.toList_data]; rfl), h (wordAt 6) [119, 104, 105, 108, 101] (by rw [Lib.toList_data]; rfl), h (wordAt 7) [112, 114, 105, 110, 116] (by rw [Lib.toList_data]; rfl), h (wordAt 8) [115, 107, 105, 112] (by rw [Lib.toList_data]; rfl), h (wordAt 9) [115, 119, 97, 112] (by rw [Lib.toList_data]; rfl)]
set_option maxRecDepth 100000 in
set_option maxHeartbeats 4000000 in
theorem rword_any (s : ByteArray) (w : World) : Calls Tryd.prog 79 #[.string s] w fun e w' => e = .returned (.bool (wordB s)) ∧ w = w' := by
  obtain ⟨R, hR⟩ : ∃ R, Hid (R = wordB s) := ⟨_, rfl⟩
  rw [← hR.out]
  obtain ⟨p0, e0⟩ : ∃ p, (s.toList == ([115, 104, 97, 114, 101, 100] : List UInt8)) = p := ⟨_, rfl⟩
  obtain ⟨p1, e1⟩ : ∃ p, (s.toList == ([108, 111, 99, 107] : List UInt8)) = p := ⟨_, rfl⟩
  obtain ⟨p2, e2⟩ : ∃ p, (s.toList == ([116, 104, 114, 101, 97, 100] : List UInt8)) = p := ⟨_, rfl⟩
  obtain ⟨p3, e3⟩ : ∃ p, (s.toList == ([108, 111, 99, 97, 108] : List UInt8)) = p := ⟨_, rfl⟩
  obtain ⟨p4, e4⟩ : ∃ p, (s.toList == ([105, 102] : List UInt8)) = p := ⟨_, rfl⟩
  obtain ⟨p5, e5⟩ : ∃ p, (s.toList == ([101, 108, 115, 101] : List UInt8)) = p := ⟨_, rfl⟩
  obtain ⟨p6, e6⟩ : ∃ p, (s.toList == ([119, 104, 105, 108, 101] : List UInt8)) = p := ⟨_, rfl⟩
  obtain ⟨p7, e7⟩ : ∃ p, (s.toList == ([112, 114, 105, 110, 116] : List UInt8)) = p := ⟨_, rfl⟩
  obtain ⟨p8, e8⟩ : ∃ p, (s.toList == ([115, 107, 105, 112] : List UInt8)) = p := ⟨_, rfl⟩
  obtain ⟨p9, e9⟩ : ∃ p, (s.toList == ([115, 119, 97, 112] : List UInt8)) = p := ⟨_, rfl⟩
  have hRR : Hid (R = (p0 || p1 || p2 || p3 || p4 || p5 || p6 || p7 || p8 || p9)) := by
    rw [Hid, hR.out, wordB_list s, ← e0, ← e1, ← e2, ← e3, ← e4, ← e5, ← e6, ← e7, ← e8, ← e9]; rfl
  clear hR
  go_enter Tryd.func79, Tryd.ntmps79
  go_wp2
  all_goals
    go_ret
    refine ⟨ret_bool ?_, rfl⟩
    rw [hRR.out]
    clear hRR
    simp_all
theorem rletter_any (c : Int) (h0 : 0 ≤ c) (h1 : c ≤ 255) (w : World) : Calls Tryd.prog 80 #[.int .u8 c] w fun e w' => e = .returned (.bool (letterB c)) ∧ w = w' := by
  by_cases h : 97 ≤ c ∧ c ≤ 122
  · have e : letterB c = true := b_t (by omega)
    rw [e]
    clear e
    obtain ⟨k0, k1⟩ := h
    go_enter Tryd.func80, Tryd.ntmps80
    go_wp2
    go_ret
    exact ⟨rfl, rfl⟩
  by_cases h : 65 ≤ c ∧ c ≤ 90
  · have e : letterB c = true := b_t (by omega)
    rw [e]
    clear e
    obtain ⟨k0, k1⟩ := h
    go_enter Tryd.func80, Tryd.ntmps80
    go_wp2
    go_ret
    exact ⟨rfl, rfl⟩
  by_cases h : c = 95
  · have e : letterB c = true := b_t (by omega)
    rw [e]
    clear e
    subst h
    go_enter Tryd.func80, Tryd.ntmps80
    go_wp2
    go_ret
    exact ⟨rfl, rfl⟩
  by_cases h : c < 65
  · have e : letterB c = false := b_f (by omega)
    rw [e]
    clear e
    have q : (c == 95) = false := int_f (by omega)
    go_enter Tryd.func80, Tryd.ntmps80
    go_wp2
    go_ret
    exact ⟨rfl, rfl⟩
  by_cases h : 90 < c ∧ c < 95
  · have e : letterB c = false := b_f (by omega)
    rw [e]
    clear e
    have q : (c == 95) = false := int_f (by omega)
    have d90 : decide (c ≤ 90) = false := b_f (by omega)
    go_enter Tryd.func80, Tryd.ntmps80
    go_wp2
    go_ret
    exact ⟨rfl, rfl⟩
  by_cases h : c = 96
  · have e : letterB c = false := b_f (by omega)
    rw [e]
    clear e
    subst h
    go_enter Tryd.func80, Tryd.ntmps80
    go_wp2
    go_ret
    exact ⟨rfl, rfl⟩
  · have h' : 122 < c := by omega
    have e : letterB c = false := b_f (by omega)
    have q : (c == 95) = false := int_f (by omega)
    have d90 : decide (c ≤ 90) = false := b_f (by omega)
    have d122 : decide (c ≤ 122) = false := b_f (by omega)
    rw [e]
    clear e
    go_enter Tryd.func80, Tryd.ntmps80
    go_wp2
    go_ret
    exact ⟨rfl, rfl⟩
theorem rdigit_any (c : Int) (h0 : 0 ≤ c) (h1 : c ≤ 255) (w : World) : Calls Tryd.prog 78 #[.int .u8 c] w fun e w' => e = .returned (.bool (digitB c)) ∧ w = w' := by
  by_cases k0 : c < 48
  · have e : digitB c = false := b_f (by omega)
    rw [e]
    clear e
    go_enter Tryd.func78, Tryd.ntmps78
    go_wp2
    go_ret
    exact ⟨rfl, rfl⟩
  · by_cases k1 : 57 < c
    · have e : digitB c = false := b_f (by omega)
      have hd : decide (c ≤ 57) = false := b_f (by omega)
      rw [e]
      clear e
      go_enter Tryd.func78, Tryd.ntmps78
      go_wp2
      go_ret
      exact ⟨rfl, rfl⟩
    · have e : digitB c = true := b_t (by omega)
      rw [e]
      clear e
      go_enter Tryd.func78, Tryd.ntmps78
      go_wp2
      go_ret
      exact ⟨rfl, rfl⟩
def levelOf (o : Int) : Int := if 19 ≤ o then 0 else lev.getD o.toNat 0
theorem level_any (o : Int) (h0 : 0 ≤ o) (h1 : o ≤ 255) (w : World) (T : Tabs w) :
    Calls Tryd.prog 99 #[.int .u8 o] w fun e w' => e = .returned (.int .i64 (levelOf o)) ∧ w = w' := by
  by_cases h : 19 ≤ o
  · have hl : levelOf o = 0 := by unfold levelOf; rw [if_pos h]
    rw [hl]; clear hl
    go_enter Tryd.func99, Tryd.ntmps99
    go_wp2
    go_ret
    exact ⟨rfl, rfl⟩
  · have hc := T.lev o.toNat (by omega)
    have hl : levelOf o = lev.getD o.toNat 0 := by unfold levelOf; rw [if_neg h]
    rw [hl]; clear hl
    obtain ⟨v, hv⟩ : ∃ v, v = lev.getD o.toNat 0 := ⟨_, rfl⟩
    rw [← hv] at hc ⊢
    clear hv T
    go_enter Tryd.func99, Tryd.ntmps99
    go_wp2
    go_ret
    exact ⟨rfl, rfl⟩
theorem two_yes (o : Int) (h0 : 0 ≤ o) (h1 : o ≤ 255) (hl : 0 < levelOf o) (hh : levelOf o < 9) (w : World) (T : Tabs w) :
    Calls Tryd.prog 84 #[.int .u8 o] w fun e w' => e = .returned (.bool true) ∧ w = w' := by
  have H := Lib.hid (level_any o h0 h1 w T)
  obtain ⟨v, hv⟩ : ∃ v, v = levelOf o := ⟨_, rfl⟩
  rw [← hv] at hl hh H
  clear hv T h0 h1
  go_enter Tryd.func84, Tryd.ntmps84
  go_wp2_with (go_at_call 99; refine (H.out).mono ?_; rintro e w' ⟨rfl, rfl⟩)
  go_ret
  exact ⟨rfl, rfl⟩
theorem two_no (o : Int) (h0 : 0 ≤ o) (h1 : o ≤ 255) (hl : levelOf o = 0 ∨ levelOf o = 9) (w : World) (T : Tabs w) :
    Calls Tryd.prog 84 #[.int .u8 o] w fun e w' => e = .returned (.bool false) ∧ w = w' := by
  have H := Lib.hid (level_any o h0 h1 w T)
  clear T h0 h1
  rcases hl with hl | hl
  all_goals
    rw [hl] at H
    clear hl
    go_enter Tryd.func84, Tryd.ntmps84
    go_wp2_with (go_at_call 99; refine (H.out).mono ?_; rintro e w' ⟨rfl, rfl⟩)
    go_ret
    exact ⟨rfl, rfl⟩
structure LNm (W : World) : Prop where
  words : W.var? Tryd.prog "stile/lexer.languageWords" = some wordCells
  size1 : 2 < W.heap.size
theorem LNm.below {W W' : World} {B : Nat} (T : LNm W) (hB : W.heap.size ≤ B) (h : Below B W W') : LNm W' := by
  have h1 := T.size1
  exact ⟨var?_below h gWords (by omega) T.words, by have := h.size; omega⟩
set_option maxHeartbeats 1000000 in
theorem word_nm (s : ByteArray) (w : World) (T : LNm w) : Calls Tryd.prog 103 #[.string s] w fun e w' => e = .returned (.bool (wordB s)) ∧ w = w' := by
  obtain ⟨tt, fr, hg⟩ := var_heap gWords T.words
  have i0 : ∀ w, (Instr.index 179 (.agg wordCells) (.int .i64 0)).run Tryd.prog w = .ok (.string (wordAt 0)) w := fun _ => by kernel_rfl
  have i1 : ∀ w, (Instr.index 179 (.agg wordCells) (.int .i64 1)).run Tryd.prog w = .ok (.string (wordAt 1)) w := fun _ => by kernel_rfl
  have i2 : ∀ w, (Instr.index 179 (.agg wordCells) (.int .i64 2)).run Tryd.prog w = .ok (.string (wordAt 2)) w := fun _ => by kernel_rfl
  have i3 : ∀ w, (Instr.index 179 (.agg wordCells) (.int .i64 3)).run Tryd.prog w = .ok (.string (wordAt 3)) w := fun _ => by kernel_rfl
  have i4 : ∀ w, (Instr.index 179 (.agg wordCells) (.int .i64 4)).run Tryd.prog w = .ok (.string (wordAt 4)) w := fun _ => by kernel_rfl
  have i5 : ∀ w, (Instr.index 179 (.agg wordCells) (.int .i64 5)).run Tryd.prog w = .ok (.string (wordAt 5)) w := fun _ => by kernel_rfl
  have i6 : ∀ w, (Instr.index 179 (.agg wordCells) (.int .i64 6)).run Tryd.prog w = .ok (.string (wordAt 6)) w := fun _ => by kernel_rfl
  have i7 : ∀ w, (Instr.index 179 (.agg wordCells) (.int .i64 7)).run Tryd.prog w = .ok (.string (wordAt 7)) w := fun _ => by kernel_rfl
  have i8 : ∀ w, (Instr.index 179 (.agg wordCells) (.int .i64 8)).run Tryd.prog w = .ok (.string (wordAt 8)) w := fun _ => by kernel_rfl
  have i9 : ∀ w, (Instr.index 179 (.agg wordCells) (.int .i64 9)).run Tryd.prog w = .ok (.string (wordAt 9)) w := fun _ => by kernel_rfl
  clear T
  go_enter Tryd.func103, Tryd.ntmps103
  go_wp2_with (refine wpList_load_row rfl 179 _ rfl 2 rfl tt _ fr _ hg Tryd.underlying179 rfl (by kernel_rfl) ?_)
  go_rounds 11
  all_goals
    go_ret
    exact ⟨ret_bool (by simp [wordB, *]), rfl⟩
theorem nat_beq (n m : Nat) : ((n : Int) == (m : Int)) = decide (n = m) := by
  by_cases h : n = m
  · subst h; simp
  · rw [decide_eq_false h]; exact int_f (by omega)
theorem isname_any (s : ByteArray) (w : World) (T : LNm w) : Calls Tryd.prog 91 #[.string s] w fun e w' => e = .returned (.bool (nameB s)) ∧ w = w' := by
  by_cases h0 : 0 < s.size
  · obtain ⟨hne, hne2⟩ := nonempty_facts h0
    by_cases h32 : (32 : Int) < (s.size : Int)
    · have hR : Hid (nameB s = false) := by
        unfold nameB
        rw [Hid, decide_eq_true h0, decide_eq_false (p := s.size ≤ 32) (by omega)]; rfl
      rw [hR.out]
      go_enter Tryd.func91, Tryd.ntmps91
      go_wp2
      go_ret
      exact ⟨rfl, rfl⟩
    · have hs32 : s.size ≤ 32 := by omega
      have hx0 := PlainAid.bt_nonneg s 0
      have hx1 := PlainAid.bt_le s 0
      obtain ⟨c, hc⟩ : ∃ c, Hid (c = PlainAid.bt s 0) := ⟨_, rfl⟩
      rw [← hc.out] at hx0 hx1
      have hbt0 : ∀ h : 0 < s.size, ((s[0]'h).toNat : Int) = c := fun h => by rw [hc.out]; exact PlainAid.get_bt s 0 h
      obtain ⟨q1, hq1⟩ : ∃ q, Hid (q = digitB c) := ⟨_, rfl⟩
      obtain ⟨q2, hq2⟩ : ∃ q, Hid (q = wordB s) := ⟨_, rfl⟩
      obtain ⟨n, hn⟩ : ∃ n, Hid (n = spanN namedB s.data.toList) := ⟨_, rfl⟩
      have H1 : Hid (∀ W : World, Calls Tryd.prog 102 #[.int .u8 c] W fun e w' => e = .returned (.bool q1) ∧ W = w') := fun W => by
        rw [hq1.out]; exact digit_any c hx0 hx1 W
      have H2 : Hid (Calls Tryd.prog 103 #[.string s] w fun e w' => e = .returned (.bool q2) ∧ w = w') := by
        rw [hq2.out]; exact word_nm s w T
      have H3 : Hid (∀ W : World, Calls Tryd.prog 104 #[.string s, .func (.func 105) #[] #[]] W fun e w' => e = .returned (.int .i64 n) ∧ W = w') := fun W => by
        rw [hn.out]; exact span_named s (by omega) W
      have hR : Hid (nameB s = (!q1 && (!q2 && decide (n = s.size)))) := by
        rw [Hid, hq1.out, hq2.out, hn.out, hc.out]
        unfold nameB
        rw [decide_eq_true h0, decide_eq_true hs32]; rfl
      rw [hR.out]
      clear T
      go_enter Tryd.func91, Tryd.ntmps91
      go_wp2_with (first
        | (go_at_call 102; refine (H1.out _).mono ?_; rintro e w' ⟨rfl, rfl⟩)
        | (go_at_call 103; refine (H2.out).mono ?_; rintro e w' ⟨rfl, rfl⟩)
        | (go_at_call 104; refine (H3.out _).mono ?_; rintro e w' ⟨rfl, rfl⟩))
      · go_ret
        refine ⟨ret_bool ?_, rfl⟩
        simp [*]
      · go_ret
        refine ⟨ret_bool ?_, rfl⟩
        simp [*]
      · go_ret
        refine ⟨ret_bool ?_, rfl⟩
        rw [nat_beq]
        simp [*]
  · obtain rfl := empty_of h0
    have hR : Hid (nameB ⟨#[]⟩ = false) := rfl
    rw [hR.out]
    clear h0
    go_enter Tryd.func91, Tryd.ntmps91
    go_wp2
    go_ret
    exact ⟨rfl, rfl⟩
def twoB (o : Int) : Bool := decide (0 < levelOf o) && decide (levelOf o < 9)
theorem level_bds (o : Int) : 0 ≤ levelOf o ∧ levelOf o ≤ 9 := by
  unfold levelOf
  split
  · omega
  · have : ∀ i, i < 19 → 0 ≤ lev.getD i 0 ∧ lev.getD i 0 ≤ 9 := by decide
    exact this _ (by omega)
theorem level_le (o : Int) : levelOf o ≤ 9 := (level_bds o).2
theorem level_ge (o : Int) : 0 ≤ levelOf o := (level_bds o).1
theorem p_two (o : Int) (h0 : 0 ≤ o) (h1 : o ≤ 255) (w : World) (T : Tabs w) : Calls Tryd.prog 84 #[.int .u8 o] w fun e w' => e = .returned (.bool (twoB o)) ∧ w = w' := by
  by_cases hl : 0 < levelOf o
  · by_cases hh : levelOf o < 9
    · have : twoB o = true := by simp [twoB, hl, hh]
      rw [this]; exact two_yes o h0 h1 hl hh w T
    · have : twoB o = false := by simp [twoB, hh]
      rw [this]; exact two_no o h0 h1 (.inr (by have := level_le o; omega)) w T
  · have : twoB o = false := by simp [twoB, hl]
    rw [this]; exact two_no o h0 h1 (.inl (by have := level_ge o; omega)) w T
theorem bcellD {W w1 : World} (hb : Below W.heap.size W w1) : ∀ b o, b < W.heap.size → w1.cell? ⟨b, o, none⟩ = W.cell? ⟨b, o, none⟩ :=
  fun b o h => hb.cell (p := ⟨b, o, none⟩) h
/-- One byte as a text. -/
def oneByteD (c : Int) : ByteArray := ⟨#[UInt8.ofNat c.toNat]⟩
theorem end1D {w w1 : World} {o : Obj} (hb : Below w.drew.heap.size w.drew w1) : Below w.heap.size w (w1.alloc o) :=
  (show Below w.heap.size w w1 from ⟨hb.os, hb.tape, hb.output, hb.size, hb.block⟩).alloc hb.size _
theorem end2D {w w1 : World} {o : Obj} (hb : Below (w.alloc o).drew.heap.size (w.alloc o).drew w1) : Below w.heap.size w w1 := by
  have h1 : Below (w.alloc o).heap.size (w.alloc o) w1 := ⟨hb.os, hb.tape, hb.output, hb.size, hb.block⟩
  have h2 : Below w.heap.size w (w.alloc o) := (Below.refl _ _).alloc (Nat.le_refl _) _
  exact h2.trans (h1.mono h2.size)
theorem dec_lastD (n : Nat) (h : 10 ≤ n) : Lib.decDigits n = Lib.decDigits (n / 10) ++ [UInt8.ofNat (48 + n % 10)] := by
  rw [Lib.decDigits, dif_neg (by omega)]
theorem dec_lenD : ∀ (k n : Nat), n < 10 ^ (k + 1) → (Lib.decDigits n).length ≤ k + 1
  | k, n, h => by
    by_cases h10 : n < 10
    · rw [Lib.decDigits_one h10]; simp
    · cases k with
      | zero => simp at h; omega
      | succ k =>
        rw [dec_lastD n (by omega), List.length_append]
        have := dec_lenD k (n / 10) (by rw [Nat.pow_succ] at h; omega)
        simp; omega
theorem rname_any (s : ByteArray) (hs : s.size ≤ 4611686018427387904) (w : World) : Calls Tryd.prog 52 #[.string s] w fun e w' => e = .returned (.bool (nameB s)) ∧ w = w' := by
  by_cases h0 : 0 < s.size
  · by_cases h32 : (32 : Int) < (s.size : Int)
    · have hR : Hid (nameB s = false) := by
        unfold nameB
        rw [Hid, decide_eq_true h0, decide_eq_false (p := s.size ≤ 32) (by omega)]; rfl
      have h1 : ¬ (s.size : Int) < 1 := by omega
      rw [hR.out]
      go_enter Tryd.func52, Tryd.ntmps52
      go_wp2
      go_ret
      exact ⟨rfl, rfl⟩
    · have hs32 : s.size ≤ 32 := by omega
      have h1 : ¬ (s.size : Int) < 1 := by omega
      have hx0 := PlainAid.bt_nonneg s 0
      have hx1 := PlainAid.bt_le s 0
      obtain ⟨c, hc⟩ : ∃ c, Hid (c = PlainAid.bt s 0) := ⟨_, rfl⟩
      rw [← hc.out] at hx0 hx1
      have hbt0 : ∀ h : 0 < s.size, ((s[0]'h).toNat : Int) = c := fun h => by rw [hc.out]; exact PlainAid.get_bt s 0 h
      obtain ⟨q1, hq1⟩ : ∃ q, Hid (q = digitB c) := ⟨_, rfl⟩
      obtain ⟨q2, hq2⟩ : ∃ q, Hid (q = wordB s) := ⟨_, rfl⟩
      obtain ⟨q3, hq3⟩ : ∃ q, Hid (q = decide (spanN namedB s.data.toList = s.size)) := ⟨_, rfl⟩
      have H1 : Hid (∀ W : World, Calls Tryd.prog 78 #[.int .u8 c] W fun e w' => e = .returned (.bool q1) ∧ W = w') := fun W => by
        rw [hq1.out]; exact rdigit_any c hx0 hx1 W
      have H2 : Hid (Calls Tryd.prog 79 #[.string s] w fun e w' => e = .returned (.bool q2) ∧ w = w') := by
        rw [hq2.out]; exact rword_any s w
      have hR : Hid (nameB s = (!q1 && (!q2 && q3))) := by
        rw [Hid, hq1.out, hq2.out, hq3.out, hc.out]
        unfold nameB
        rw [decide_eq_true h0, decide_eq_true hs32]; rfl
      rw [hR.out]
      go_enter Tryd.func52, Tryd.ntmps52
      go_wp2_with (first
        | (go_at_call 78; refine (H1.out _).mono ?_; rintro e w' ⟨rfl, rfl⟩)
        | (go_at_call 79; refine (H2.out).mono ?_; rintro e w' ⟨rfl, rfl⟩))
      · go_ret
        refine ⟨ret_bool ?_, rfl⟩
        simp [*]
      · go_ret
        refine ⟨ret_bool ?_, rfl⟩
        simp [*]
      · obtain rfl : q1 = false := by first | assumption | exact Bool.eq_false_iff.2 (by assumption)
        obtain rfl : q2 = false := by first | assumption | exact Bool.eq_false_iff.2 (by assumption)
        have hfin : Hid ((!false && (!false && q3)) = q3) := rfl
        clear H1 H2 hR hq1 hq2
        go_loopw [2, 3] (fun _ i wr => w = wr ∧ ∃ k : Nat, k ≤ s.size ∧ i = .int .i64 k ∧ Hid (decide (spanN namedB (bytesFrom s k) + k = s.size) = q3)) (fun _ i _ => s.size - (intOf i).toNat)
        case atStart => exact ⟨rfl, 0, Nat.zero_le _, rfl, hq3.out.symm⟩
        case round =>
          obtain ⟨rfl, k, hk, rfl, hp⟩ := hrel
          by_cases hlt : k < s.size
          · have hy0 := PlainAid.bt_nonneg s k
            have hy1 := PlainAid.bt_le s k
            have hu : ((s[k]).toNat : Int) = PlainAid.bt s k := PlainAid.get_bt s k hlt
            have hfr := from_at s k hlt
            obtain ⟨d, hd⟩ : ∃ c, c = PlainAid.bt s k := ⟨_, rfl⟩
            have hbt : ∀ h : k < s.size, ((s[k]'h).toNat : Int) = d := fun h => by rw [hd]; exact PlainAid.get_bt s k h
            rw [← hd] at hu hy0 hy1
            clear hd
            have K1 := Lib.hid (fun w => rletter_any d hy0 hy1 w)
            have K2 := Lib.hid (fun w => rdigit_any d hy0 hy1 w)
            obtain ⟨a, ha⟩ : ∃ a, a = letterB d := ⟨_, rfl⟩
            obtain ⟨b, hb⟩ : ∃ b, b = digitB d := ⟨_, rfl⟩
            have e : namedB d = (a || b) := by rw [ha, hb]; rfl
            rw [← ha] at K1
            rw [← hb] at K2
            clear ha hb
            by_cases hpc : (a || b) = true
            · have hn : Hid (decide (spanN namedB (bytesFrom s (k + 1)) + (k + 1) = s.size) = q3) := by
                have hsp : spanN namedB (bytesFrom s k) = spanN namedB (bytesFrom s (k + 1)) + 1 := by rw [hfr]; simp only [spanN]; rw [hu, e, if_pos hpc]
                rw [Hid, ← hp.out, hsp]; congr 1; apply propext; constructor <;> intro h <;> omega
              clear hfr hu hp e
              cases a
              · obtain rfl : b = true := by simpa using hpc
                clear hpc
                go_wp2_with (first
                  | (go_at_call 80; refine (K1.out _).mono ?_; rintro e w' ⟨rfl, rfl⟩)
                  | (go_at_call 78; refine (K2.out _).mono ?_; rintro e w' ⟨rfl, rfl⟩))
                go_roundw
                case rel => exact ⟨by trivial, k + 1, by omega, by go_num, hn⟩
                case measure => simp [intOf]; omega
              · clear hpc
                go_wp2_with (first
                  | (go_at_call 80; refine (K1.out _).mono ?_; rintro e w' ⟨rfl, rfl⟩)
                  | (go_at_call 78; refine (K2.out _).mono ?_; rintro e w' ⟨rfl, rfl⟩))
                go_roundw
                case rel => exact ⟨by trivial, k + 1, by omega, by go_num, hn⟩
                case measure => simp [intOf]; omega
            · have hn : Hid (false = q3) := by
                have hsp : spanN namedB (bytesFrom s k) = 0 := by rw [hfr]; simp only [spanN]; rw [hu, e, if_neg hpc]
                rw [Hid, ← hp.out, hsp]; simp; omega
              obtain ⟨rfl, rfl⟩ : a = false ∧ b = false := by simpa using hpc
              clear hfr hu hp e hpc
              go_wp2_with (first
                | (go_at_call 80; refine (K1.out _).mono ?_; rintro e w' ⟨rfl, rfl⟩)
                | (go_at_call 78; refine (K2.out _).mono ?_; rintro e w' ⟨rfl, rfl⟩))
              go_ret
              refine ⟨ret_bool ?_, rfl⟩
              first | (rw [hfin.out, ← hn.out]) | exact hn.out
          · have hn : Hid (true = q3) := by
              have hsp : spanN namedB (bytesFrom s k) = 0 := by rw [from_end s k (by omega)]; rfl
              rw [Hid, ← hp.out, hsp]; simp; omega
            clear hp
            go_wp2_with fail
            go_ret
            refine ⟨ret_bool ?_, rfl⟩
            first | (rw [hfin.out, ← hn.out]) | exact hn.out
  · obtain rfl := empty_of h0
    have hR : Hid (nameB ⟨#[]⟩ = false) := rfl
    rw [hR.out]
    clear h0
    go_enter Tryd.func52, Tryd.ntmps52
    go_wp2
    go_ret
    exact ⟨rfl, rfl⟩
theorem twoB_of (o : Int) (h0 : 0 ≤ o) : twoB o = (decide (1 ≤ o) && decide (o ≤ 16)) := by
  by_cases h : o < 19
  · have : ∀ i : Nat, i < 19 → twoB (i : Int) = (decide (1 ≤ (i : Int)) && decide ((i : Int) ≤ 16)) := by decide
    have := this o.toNat (by omega)
    rwa [show ((o.toNat : Nat) : Int) = o by omega] at this
  · have hl : levelOf o = 0 := by
      unfold levelOf
      split
      · rfl
      · omega
    unfold twoB
    rw [hl, decide_eq_false (p := o ≤ 16) (by omega), Bool.and_false]; rfl
theorem r_two (o : Int) (h0 : 0 ≤ o) (w : World) : Calls Tryd.prog 54 #[.int .u8 o] w fun e w' => e = .returned (.bool (twoB o)) ∧ w = w' := by
  rw [twoB_of o h0]
  by_cases h1 : 1 ≤ o
  · by_cases h2 : o ≤ 16
    · rw [decide_eq_true h1, decide_eq_true h2]
      go_enter Tryd.func54, Tryd.ntmps54
      go_wp2
      go_ret
      exact ⟨rfl, rfl⟩
    · have h3 : 16 < o := by omega
      rw [decide_eq_true h1, decide_eq_false h2]
      go_enter Tryd.func54, Tryd.ntmps54
      go_wp2
      go_ret
      first
        | exact ⟨rfl, rfl⟩
        | exact ⟨ret_bool (decide_eq_false h2), rfl⟩
  · have h3 : o < 1 := by omega
    rw [decide_eq_false h1]
    clear h1
    go_enter Tryd.func54, Tryd.ntmps54
    go_wp2
    go_ret
    exact ⟨rfl, rfl⟩
/-- What becomes of a place. -/
def hR (st : Bool) (n : Int) : Int := if st then 0 else n
end Go.Proofs.YtmpljhfinmfnbaaDoor

/- The proof, part 6: texts that belong together, in one. -/
import Derived.Test.YtfogkobgjojpiaaGreatDoorQAE
set_option maxRecDepth 100000
set_option maxHeartbeats 20000000
namespace Go.Proofs.YtfogkobgjojpiaaGreatDoor
open Go.RowKit
set_option linter.unusedVariables false
set_option linter.unusedSimpArgs false
def isSignB (s : ByteArray) : Bool := decide (0 < s.size) && decide (aheadN s.data.toList = s.size)
theorem nonempty_facts {s : ByteArray} (h0 : 0 < s.size) : s.toList.isEmpty = false ∧ ¬ s.toList = [] := by
 have hfr : s.data.toList = s[0] :: bytesFrom s 1 := from_at s 0 h0
 exact ⟨by rw [Lib.toList_data, hfr]; rfl, by rw [Lib.toList_data, hfr]; simp⟩
theorem empty_of {s : ByteArray} (h : ¬ 0 < s.size) : s = ⟨#[]⟩ := by
 cases s with
 | mk d =>
   have h1 : (ByteArray.mk d).size = 0 := by omega
   have h2 : d.size = 0 := h1
   simp at h2; rw [h2]
def signL (l : List UInt8) : Bool := (l == [40]) || (l == [41]) || (l == [123]) || (l == [125]) || (l == [44]) || (l == [59]) || (l == [61]) || (l == [43]) || (l == [45]) || (l == [42]) || (l == [47]) || (l == [37]) || (l == [38]) || (l == [124]) || (l == [94]) || (l == [33]) || (l == [60]) || (l == [62]) || (l == [61, 61]) || (l == [33, 61]) || (l == [60, 61]) || (l == [62, 61]) || (l == [60, 60]) || (l == [62, 62])
def wordL (l : List UInt8) : Bool := (l == [115, 104, 97, 114, 101, 100]) || (l == [108, 111, 99, 107]) || (l == [116, 104, 114, 101, 97, 100]) || (l == [108, 111, 99, 97, 108]) || (l == [105, 102]) || (l == [101, 108, 115, 101]) || (l == [119, 104, 105, 108, 101]) || (l == [112, 114, 105, 110, 116]) || (l == [115, 107, 105, 112]) || (l == [115, 119, 97, 112])
theorem wordB_list (s : ByteArray) : wordB s = wordL s.toList := by
 have h : ∀ (v : ByteArray) (l : List UInt8), v.toList = l → (v.toList == s.toList) = (s.toList == l) := fun v l e => by
  rw [e]; exact Bool.eq_iff_iff.2 ⟨fun h => by simpa using (by simpa using h : l = s.toList).symm, fun h => by simpa using (by simpa using h : s.toList = l).symm⟩
 unfold wordB wordL
 rw [h (wordAt 0) [115, 104, 97, 114, 101, 100] (by rw [Lib.toList_data]; rfl), h (wordAt 1) [108, 111, 99, 107] (by rw [Lib.toList_data]; rfl), h (wordAt 2) [116, 104, 114, 101, 97, 100] (by rw [Lib.toList_data]; rfl), h (wordAt 3) [108, 111, 99, 97, 108] (by rw [Lib.toList_data]; rfl), h (wordAt 4) [105, 102] (by rw [Lib.toList_data]; rfl), h (wordAt 5) [101, 108, 115, 101] (by rw [Lib.toList_data]; rfl), h (wordAt 6) [119, 104, 105, 108, 101] (by rw [Lib.toList_data]; rfl), h (wordAt 7) [112, 114, 105, 110, 116] (by rw [Lib.toList_data]; rfl), h (wordAt 8) [115, 107, 105, 112] (by rw [Lib.toList_data]; rfl), h (wordAt 9) [115, 119, 97, 112] (by rw [Lib.toList_data]; rfl)]
theorem sign1 (a : UInt8) : signB (a.toNat : Int) = signL [a] := by
 have h : ∀ n : Fin 256, signB ((UInt8.ofNat n.val).toNat : Int) = signL [UInt8.ofNat n.val] := by decide +kernel
 have := h ⟨a.toNat, a.toNat_lt⟩
 simpa using this
theorem pre2 (a b c d : UInt8) : Lib.hasPrefix [a, b] [c, d] = ([a, b] == [c, d]) := by
 rw [← Lib.hasPrefix_of_take]; simp
theorem long2 (a b : UInt8) : longB [a, b] = signL [a, b] := by
 unfold longB
 rw [show (longAt 0).data.toList = [61, 61] from rfl, show (longAt 1).data.toList = [33, 61] from rfl, show (longAt 2).data.toList = [60, 61] from rfl, show (longAt 3).data.toList = [62, 61] from rfl, show (longAt 4).data.toList = [60, 60] from rfl, show (longAt 5).data.toList = [62, 62] from rfl]
 simp only [pre2]
 unfold signL
 simp
theorem ahead_bd (l : List UInt8) : aheadN l ≤ 2 := by
 unfold aheadN
 split
 · exact Nat.le_refl _
 · unfold firstN
   split
   · omega
   · split <;> omega
theorem long1 (a : UInt8) : longB [a] = false := by
 cases h : longB [a] with
 | false => rfl
 | true =>
   unfold longB at h
   simp only [Bool.or_eq_true] at h
   rcases h with ((((h | h) | h) | h) | h) | h <;> exact absurd (show 2 ≤ 1 from prefix_len h) (by decide)
theorem signL_long (a b c : UInt8) (r : List UInt8) : signL (a :: b :: c :: r) = false := by
 unfold signL
 simp
theorem isSign_list (s : ByteArray) : isSignB s = signL s.toList := by
 unfold isSignB
 rw [Lib.toList_data]
 have hz : s.size = s.data.toList.length := by simp
 rw [hz]
 generalize s.data.toList = l
 match l with
 | [] => rfl
 | [a] =>
   rw [← sign1]
   unfold aheadN
   rw [long1, if_neg (by decide)]
   unfold firstN
   by_cases h : signB (a.toNat : Int) = true
   · simp [h]
   · simp [h]
 | [a, b] =>
   rw [← long2]
   unfold aheadN
   by_cases h : longB [a, b] = true
   · simp [h]
   · rw [if_neg h]
     have : firstN [a, b] ≤ 1 := by
      unfold firstN
      split
      · omega
      · split <;> omega
     simp [h]
     omega
 | a :: b :: c :: r =>
   rw [signL_long]
   have := ahead_bd (a :: b :: c :: r)
   simp
   omega
theorem rword_any (s : ByteArray) (w : World) : Calls Tryz.prog 185 #[.string s] w fun e w' => e = .returned (.bool (wordB s)) ∧ w = w' := by
 obtain ⟨R, hR⟩ : ∃ R, Hid (R = wordB s) := ⟨_, rfl⟩
 rw [← hR.out]
 obtain ⟨p0, e0⟩ : ∃ p, (s.toList == ([115, 104, 97, 114, 101, 100] : List UInt8)) = p := ⟨_, rfl⟩
 obtain ⟨p1, e1⟩ : ∃ p, (s.toList == ([108, 111, 99, 107] : List UInt8)) = p := ⟨_, rfl⟩
 obtain ⟨p2, e2⟩ : ∃ p, (s.toList == ([116, 104, 114, 101, 97, 100] : List UInt8)) = p := ⟨_, rfl⟩
 obtain ⟨p3, e3⟩ : ∃ p, (s.toList == ([108, 111, 99, 97, 108] : List UInt8)) = p := ⟨_, rfl⟩
 obtain ⟨p4, e4⟩ : ∃ p, (s.toList == ([105, 102] : List UInt8)) = p := ⟨_, rfl⟩
 obtain ⟨p5, e5⟩ : ∃ p, (s.toList == ([101, 108, 115, 101] : List UInt8)) = p := ⟨_, rfl⟩
 obtain ⟨p6, e6⟩ : ∃ p, (s.toList == ([119, 104, 105, 108, 101] : List UInt8)) = p := ⟨_, rfl⟩
 obtain ⟨p7, e7⟩ : ∃ p, (s.toList == ([112, 114, 105, 110, 116] : List UInt8)) = p := ⟨_, rfl⟩
 obtain ⟨p8, e8⟩ : ∃ p, (s.toList == ([115, 107, 105, 112] : List UInt8)) = p := ⟨_, rfl⟩
 obtain ⟨p9, e9⟩ : ∃ p, (s.toList == ([115, 119, 97, 112] : List UInt8)) = p := ⟨_, rfl⟩
 have hRR : Hid (R = (p0 || p1 || p2 || p3 || p4 || p5 || p6 || p7 || p8 || p9)) := by
  rw [Hid, hR.out, wordB_list s, ← e0, ← e1, ← e2, ← e3, ← e4, ← e5, ← e6, ← e7, ← e8, ← e9]; rfl
 clear hR
 go_enter Tryz.func185, Tryz.ntmps185
 go_wp2
 all_goals
  go_ret
  refine ⟨ret_bool ?_, rfl⟩
  rw [hRR.out]
  clear hRR
  simp_all
theorem rsign_any (s : ByteArray) (w : World) : Calls Tryz.prog 187 #[.string s] w fun e w' => e = .returned (.bool (isSignB s)) ∧ w = w' := by
 obtain ⟨R, hR⟩ : ∃ R, Hid (R = isSignB s) := ⟨_, rfl⟩
 rw [← hR.out]
 obtain ⟨p0, e0⟩ : ∃ p, (s.toList == ([40] : List UInt8)) = p := ⟨_, rfl⟩
 obtain ⟨p1, e1⟩ : ∃ p, (s.toList == ([41] : List UInt8)) = p := ⟨_, rfl⟩
 obtain ⟨p2, e2⟩ : ∃ p, (s.toList == ([123] : List UInt8)) = p := ⟨_, rfl⟩
 obtain ⟨p3, e3⟩ : ∃ p, (s.toList == ([125] : List UInt8)) = p := ⟨_, rfl⟩
 obtain ⟨p4, e4⟩ : ∃ p, (s.toList == ([44] : List UInt8)) = p := ⟨_, rfl⟩
 obtain ⟨p5, e5⟩ : ∃ p, (s.toList == ([59] : List UInt8)) = p := ⟨_, rfl⟩
 obtain ⟨p6, e6⟩ : ∃ p, (s.toList == ([61] : List UInt8)) = p := ⟨_, rfl⟩
 obtain ⟨p7, e7⟩ : ∃ p, (s.toList == ([43] : List UInt8)) = p := ⟨_, rfl⟩
 obtain ⟨p8, e8⟩ : ∃ p, (s.toList == ([45] : List UInt8)) = p := ⟨_, rfl⟩
 obtain ⟨p9, e9⟩ : ∃ p, (s.toList == ([42] : List UInt8)) = p := ⟨_, rfl⟩
 obtain ⟨p10, e10⟩ : ∃ p, (s.toList == ([47] : List UInt8)) = p := ⟨_, rfl⟩
 obtain ⟨p11, e11⟩ : ∃ p, (s.toList == ([37] : List UInt8)) = p := ⟨_, rfl⟩
 obtain ⟨p12, e12⟩ : ∃ p, (s.toList == ([38] : List UInt8)) = p := ⟨_, rfl⟩
 obtain ⟨p13, e13⟩ : ∃ p, (s.toList == ([124] : List UInt8)) = p := ⟨_, rfl⟩
 obtain ⟨p14, e14⟩ : ∃ p, (s.toList == ([94] : List UInt8)) = p := ⟨_, rfl⟩
 obtain ⟨p15, e15⟩ : ∃ p, (s.toList == ([33] : List UInt8)) = p := ⟨_, rfl⟩
 obtain ⟨p16, e16⟩ : ∃ p, (s.toList == ([60] : List UInt8)) = p := ⟨_, rfl⟩
 obtain ⟨p17, e17⟩ : ∃ p, (s.toList == ([62] : List UInt8)) = p := ⟨_, rfl⟩
 obtain ⟨p18, e18⟩ : ∃ p, (s.toList == ([61, 61] : List UInt8)) = p := ⟨_, rfl⟩
 obtain ⟨p19, e19⟩ : ∃ p, (s.toList == ([33, 61] : List UInt8)) = p := ⟨_, rfl⟩
 obtain ⟨p20, e20⟩ : ∃ p, (s.toList == ([60, 61] : List UInt8)) = p := ⟨_, rfl⟩
 obtain ⟨p21, e21⟩ : ∃ p, (s.toList == ([62, 61] : List UInt8)) = p := ⟨_, rfl⟩
 obtain ⟨p22, e22⟩ : ∃ p, (s.toList == ([60, 60] : List UInt8)) = p := ⟨_, rfl⟩
 obtain ⟨p23, e23⟩ : ∃ p, (s.toList == ([62, 62] : List UInt8)) = p := ⟨_, rfl⟩
 have hRR : Hid (R = (p0 || p1 || p2 || p3 || p4 || p5 || p6 || p7 || p8 || p9 || p10 || p11 || p12 || p13 || p14 || p15 || p16 || p17 || p18 || p19 || p20 || p21 || p22 || p23)) := by
  rw [Hid, hR.out, isSign_list s, ← e0, ← e1, ← e2, ← e3, ← e4, ← e5, ← e6, ← e7, ← e8, ← e9, ← e10, ← e11, ← e12, ← e13, ← e14, ← e15, ← e16, ← e17, ← e18, ← e19, ← e20, ← e21, ← e22, ← e23]; rfl
 clear hR
 go_enter Tryz.func187, Tryz.ntmps187
 go_wp2
 all_goals
  go_ret
  refine ⟨ret_bool ?_, rfl⟩
  rw [hRR.out]
  clear hRR
  simp_all
open Go.RowKit
set_option linter.unusedVariables false
theorem rletter_any (c : Int) (h0 : 0 ≤ c) (h1 : c ≤ 255) (w : World) : Calls Tryz.prog 183 #[.int .u8 c] w fun e w' => e = .returned (.bool (letterB c)) ∧ w = w' := by
 by_cases h : 97 ≤ c ∧ c ≤ 122
 · have e : letterB c = true := b_t (by omega)
   rw [e]
   clear e
   obtain ⟨k0, k1⟩ := h
   go_enter Tryz.func183, Tryz.ntmps183
   go_wp2
   go_ret
   exact ⟨rfl, rfl⟩
 by_cases h : 65 ≤ c ∧ c ≤ 90
 · have e : letterB c = true := b_t (by omega)
   rw [e]
   clear e
   obtain ⟨k0, k1⟩ := h
   go_enter Tryz.func183, Tryz.ntmps183
   go_wp2
   go_ret
   exact ⟨rfl, rfl⟩
 by_cases h : c = 95
 · have e : letterB c = true := b_t (by omega)
   rw [e]
   clear e
   subst h
   go_enter Tryz.func183, Tryz.ntmps183
   go_wp2
   go_ret
   exact ⟨rfl, rfl⟩
 by_cases h : c < 65
 · have e : letterB c = false := b_f (by omega)
   rw [e]
   clear e
   have q : (c == 95) = false := int_f (by omega)
   go_enter Tryz.func183, Tryz.ntmps183
   go_wp2
   go_ret
   exact ⟨rfl, rfl⟩
 by_cases h : 90 < c ∧ c < 95
 · have e : letterB c = false := b_f (by omega)
   rw [e]
   clear e
   have q : (c == 95) = false := int_f (by omega)
   have d90 : decide (c ≤ 90) = false := b_f (by omega)
   go_enter Tryz.func183, Tryz.ntmps183
   go_wp2
   go_ret
   exact ⟨rfl, rfl⟩
 by_cases h : c = 96
 · have e : letterB c = false := b_f (by omega)
   rw [e]
   clear e
   subst h
   go_enter Tryz.func183, Tryz.ntmps183
   go_wp2
   go_ret
   exact ⟨rfl, rfl⟩
 · have h' : 122 < c := by omega
   have e : letterB c = false := b_f (by omega)
   have q : (c == 95) = false := int_f (by omega)
   have d90 : decide (c ≤ 90) = false := b_f (by omega)
   have d122 : decide (c ≤ 122) = false := b_f (by omega)
   rw [e]
   clear e
   go_enter Tryz.func183, Tryz.ntmps183
   go_wp2
   go_ret
   exact ⟨rfl, rfl⟩
theorem rdigit_any (c : Int) (h0 : 0 ≤ c) (h1 : c ≤ 255) (w : World) : Calls Tryz.prog 184 #[.int .u8 c] w fun e w' => e = .returned (.bool (digitB c)) ∧ w = w' := by
 by_cases k0 : c < 48
 · have e : digitB c = false := b_f (by omega)
   rw [e]
   clear e
   go_enter Tryz.func184, Tryz.ntmps184
   go_wp2
   go_ret
   exact ⟨rfl, rfl⟩
 · by_cases k1 : 57 < c
   · have e : digitB c = false := b_f (by omega)
     have hd : decide (c ≤ 57) = false := b_f (by omega)
     rw [e]
     clear e
     go_enter Tryz.func184, Tryz.ntmps184
     go_wp2
     go_ret
     exact ⟨rfl, rfl⟩
   · have e : digitB c = true := b_t (by omega)
     rw [e]
     clear e
     go_enter Tryz.func184, Tryz.ntmps184
     go_wp2
     go_ret
     exact ⟨rfl, rfl⟩
theorem rblank_any (c : Int) (h0 : 0 ≤ c) (h1 : c ≤ 255) (w : World) : Calls Tryz.prog 182 #[.int .u8 c] w fun e w' => e = .returned (.bool (blankB c)) ∧ w = w' := by
 by_cases k32 : c = 32
 · subst k32
   have e : blankB 32 = true := b_t (by omega)
   rw [e]
   clear e
   go_enter Tryz.func182, Tryz.ntmps182
   go_wp2
   go_ret
   exact ⟨rfl, rfl⟩
 by_cases k9 : c = 9
 · subst k9
   have e : blankB 9 = true := b_t (by omega)
   rw [e]
   clear e
   go_enter Tryz.func182, Tryz.ntmps182
   go_wp2
   go_ret
   exact ⟨rfl, rfl⟩
 by_cases k10 : c = 10
 · subst k10
   have e : blankB 10 = true := b_t (by omega)
   rw [e]
   clear e
   go_enter Tryz.func182, Tryz.ntmps182
   go_wp2
   go_ret
   exact ⟨rfl, rfl⟩
 by_cases k13 : c = 13
 · subst k13
   have e : blankB 13 = true := b_t (by omega)
   rw [e]
   clear e
   go_enter Tryz.func182, Tryz.ntmps182
   go_wp2
   go_ret
   exact ⟨rfl, rfl⟩
 · have e : blankB c = false := b_f (by omega)
   have q1 := int_f k32
   have q2 := int_f k9
   have q3 := int_f k10
   have q4 := int_f k13
   rw [e]
   clear e k32 k9 k10 k13
   go_enter Tryz.func182, Tryz.ntmps182
   go_wp2
   go_ret
   exact ⟨rfl, rfl⟩
open Go.RowKit
set_option linter.unusedVariables false
theorem u8_int {a b : UInt8} : ((a.toNat : Int) = (b.toNat : Int)) ↔ a = b :=
 ⟨fun h => UInt8.toNat_inj.1 (by omega), fun h => by rw [h]⟩
theorem blank_not47 {x : UInt8} (h : blankB (x.toNat : Int) = true) : ¬ x = 47 := by
 intro e; subst e; revert h; decide
theorem prefix_no {x : UInt8} {r : List UInt8} (h : ¬ x = 47) : Lib.hasPrefix (x :: r) slashes = false := by
 cases hp : Lib.hasPrefix (x :: r) slashes with
 | false => rfl
 | true =>
   unfold Lib.hasPrefix slashes at hp
   simp only [List.isPrefixOf_cons_cons, Bool.and_eq_true, beq_iff_eq] at hp
   exact absurd hp.1.symm h
theorem prefix_one (x : UInt8) : Lib.hasPrefix [x] slashes = false := by
 unfold Lib.hasPrefix slashes
 simp [List.isPrefixOf]
theorem prefix_two (x y : UInt8) (r : List UInt8) : Lib.hasPrefix (x :: y :: r) slashes = (decide (x = 47) && decide (y = 47)) := by
 unfold Lib.hasPrefix slashes
 simp only [List.isPrefixOf_cons_cons, List.isPrefixOf_nil_left, Bool.and_true]
 congr 1
 · by_cases hx : x = 47
   · subst hx; rfl
   · rw [decide_eq_false hx]; simpa using fun h : 47 = x => hx h.symm
 · by_cases hx : y = 47
   · subst hx; rfl
   · rw [decide_eq_false hx]; simpa using fun h : 47 = y => hx h.symm
theorem pass_cons (x : UInt8) (r : List UInt8) (h : blankB (x.toNat : Int) = true) : passN (x :: r) = 1 + passN r := by
 have h1 : stepN (x :: r) = spanN blankB r + 1 := by
  unfold stepN
  rw [prefix_no (blank_not47 h), if_neg (by decide)]
  simp only [spanN]
  rw [if_pos h]
 have h2 : passN (x :: r) = spanN blankB r + 1 + passN (r.drop (spanN blankB r)) := by
  rw [passN_step (by rw [h1]; omega), h1]; rfl
 have h3 : passN r = spanN blankB r + passN (r.drop (spanN blankB r)) := by
  by_cases h0 : spanN blankB r = 0
  · rw [h0]; simp
  · have hs : stepN r = spanN blankB r := by
     unfold stepN
     cases hp : Lib.hasPrefix r slashes with
     | false => rw [if_neg (by decide)]
     | true =>
       exfalso
       apply h0
       cases r with
       | nil => rfl
       | cons y t =>
         by_cases hy : y = 47
         · subst hy; simp only [spanN]; rw [if_neg (by decide)]
         · rw [prefix_no hy] at hp; cases hp
    have h4 := passN_step (l := r) (by rw [hs]; exact h0)
    rw [hs] at h4
    exact h4
 omega
theorem pass_remark {l : List UInt8} (h : Lib.hasPrefix l slashes = true) : passN l = spanN feedB l + passN (l.drop (spanN feedB l)) := by
 have hs : stepN l = spanN feedB l := by unfold stepN; rw [if_pos h]
 by_cases h0 : spanN feedB l = 0
 · rw [h0]; simp
 · have h4 := passN_step (l := l) (by rw [hs]; exact h0)
   rw [hs] at h4
   exact h4
theorem pass_none {l : List UInt8} {x : UInt8} {r : List UInt8} (e : l = x :: r) (h : Lib.hasPrefix l slashes = false) (hb : blankB (x.toNat : Int) = false) : passN l = 0 := by
 apply passN_stop
 unfold stepN
 rw [h, if_neg (by decide), e]
 simp only [spanN]
 rw [if_neg (by rw [hb]; decide)]
theorem skip_any (s : ByteArray) (hs : s.size ≤ 281474976710656) (p : Nat) (hp : p ≤ s.size) (w : World) : Calls Tryz.prog 161 #[.string s, .int .i64 p] w fun e w' => e = .returned (.int .i64 ((p + passN (bytesFrom s p) : Nat) : Int)) ∧ w = w' := by
 obtain ⟨R, hR⟩ : ∃ R, Hid (R = p + passN (bytesFrom s p)) := ⟨_, rfl⟩
 rw [← hR.out]
 go_enter Tryz.func161, Tryz.ntmps161
 go_wp2_with fail
 go_loopw [1, 4] (fun i _ wr => w = wr ∧ ∃ k : Nat, k ≤ s.size ∧ i = .int .i64 k ∧ Hid (k + passN (bytesFrom s k) = R)) (fun i _ _ => s.size - (intOf i).toNat)
 case atStart => exact ⟨rfl, p, hp, rfl, hR.out.symm⟩
 case round =>
  obtain ⟨rfl, k, hk, rfl, hpa⟩ := hrel
  by_cases hlt : k < s.size
  · have hy0 := PlainAid.bt_nonneg s k
    have hy1 := PlainAid.bt_le s k
    obtain ⟨c, hc⟩ : ∃ c, Hid (c = PlainAid.bt s k) := ⟨_, rfl⟩
    have hbt : ∀ h : k < s.size, ((s[k]'h).toNat : Int) = c := fun h => by rw [hc.out]; exact PlainAid.get_bt s k h
    rw [← hc.out] at hy0 hy1
    have hfr := Lib.hid (from_at s k hlt)
    have hu := Lib.hid (hbt hlt)
    have hlt' : (k : Int) < (s.size : Int) := by omega
    by_cases hb : blankB c = true
    · have HB : Hid (∀ W : World, Calls Tryz.prog 182 #[.int .u8 c] W fun e w' => e = .returned (.bool true) ∧ W = w') := fun W => by
       have q := rblank_any c hy0 hy1 W
       rw [hb] at q; exact q
      have hn : Hid (k + 1 + passN (bytesFrom s (k + 1)) = R) := by
       rw [Hid, ← hpa.out, hfr.out, pass_cons _ _ (by rw [hu.out]; exact hb)]; omega
      clear hb
      go_wp2_with (go_at_call 182; refine (HB.out _).mono ?_; rintro e w' ⟨rfl, rfl⟩)
      go_roundw
      case rel => exact ⟨by trivial, k + 1, by omega, by go_num, hn⟩
      case measure => simp [intOf]; omega
    · have hbf : blankB c = false := by simpa using hb
      have HB : Hid (∀ W : World, Calls Tryz.prog 182 #[.int .u8 c] W fun e w' => e = .returned (.bool false) ∧ W = w') := fun W => by
       have q := rblank_any c hy0 hy1 W
       rw [hbf] at q; exact q
      have HBF := Lib.hid hbf
      clear hb hbf
      by_cases h47 : c = 47
      · have hq : (c == 47) = true := int_t h47
        have hq' : (c != 47) = false := by simp [h47]
        have hx : Hid (s[k] = 47) := by
         refine u8_int.1 ?_
         rw [hu.out, h47]; rfl
        have H47 := Lib.hid h47
        by_cases hl2 : k + 1 < s.size
        · have hfr2 := Lib.hid (from_at s (k + 1) hl2)
          obtain ⟨d, hd⟩ : ∃ d, Hid (d = PlainAid.bt s (k + 1)) := ⟨_, rfl⟩
          have hbt2 : ∀ h : k + 1 < s.size, ((s[k + 1]'h).toNat : Int) = d := fun h => by rw [hd.out]; exact PlainAid.get_bt s (k + 1) h
          have hu2 := Lib.hid (hbt2 hl2)
          have hl2' : (k : Int) + 1 < (s.size : Int) := by omega
          by_cases d47 : d = 47
          ·
           have hq2 : (d == 47) = true := int_t d47
           have hq2' : (d != 47) = false := by simp [d47]
           have hy : Hid (s[k + 1] = 47) := by
            refine u8_int.1 ?_
            rw [hu2.out, d47]; rfl
           have hpre : Hid (Lib.hasPrefix (bytesFrom s k) slashes = true) := by
            rw [Hid, hfr.out, hfr2.out, prefix_two, hx.out, hy.out]; decide
           obtain ⟨E, hE⟩ : ∃ E, Hid (E = k + spanN feedB (bytesFrom s k)) := ⟨_, rfl⟩
           have hER : Hid (E + passN (bytesFrom s E) = R) := by
            rw [Hid, ← hpa.out, pass_remark hpre.out, from_drop, ← hE.out, hE.out]; omega
           have hEk : Hid (k < E) := by
            have : 0 < spanN feedB (bytesFrom s k) := by rw [hfr.out]; exact span_pos (by rw [hu.out, H47.out]; decide)
            rw [Hid, hE.out]; omega
           have hEs : Hid (E ≤ s.size) := by
            have := spanN_le feedB (bytesFrom s k)
            rw [from_len] at this
            rw [Hid, hE.out]; omega
           clear h47 d47
           go_wp2_with (go_at_call 182; refine (HB.out _).mono ?_; rintro e w' ⟨rfl, rfl⟩)
           go_loopw [1] (fun i wr => w = wr ∧ ∃ j : Nat, k ≤ j ∧ j ≤ s.size ∧ i = .int .i64 j ∧ Hid (j + spanN feedB (bytesFrom s j) = E)) (fun i _ => s.size - (intOf i).toNat)
           case atStart => exact ⟨rfl, k, Nat.le_refl _, hk, rfl, hE.out.symm⟩
           case round =>
            clear hq hq' hq2 hq2' hbt hbt2 hu hu2 hlt' hl2' hfr hfr2 hx hy
            obtain ⟨rfl, j, hkj, hj, rfl, hje⟩ := hrel
            by_cases hlj : j < s.size
            · have hlj' : (j : Int) < (s.size : Int) := by omega
              obtain ⟨f, hf⟩ : ∃ f, Hid (f = PlainAid.bt s j) := ⟨_, rfl⟩
              have hbt : ∀ h : j < s.size, ((s[j]'h).toNat : Int) = f := fun h => by rw [hf.out]; exact PlainAid.get_bt s j h
              have hu := Lib.hid (hbt hlj)
              have hfr := Lib.hid (from_at s j hlj)
              by_cases f10 : f = 10
              · have hq : (f == 10) = true := int_t f10
                have hq' : (f != 10) = false := by simp [f10]
                have hn : Hid (j = E) := by
                 rw [Hid, ← hje.out, hfr.out]; simp only [spanN]; rw [hu.out, f10, if_neg (by decide)]; rfl
                clear f10
                go_wp2_with fail
                go_roundw
                case rel => exact ⟨by trivial, j, hj, rfl, by rw [Hid, hn.out]; exact hER.out⟩
                case measure => have := hEk.out; have := hn.out; simp [intOf]; omega
              · have hq : (f == 10) = false := int_f f10
                have hq' : (f != 10) = true := by simp [f10]
                have hn : Hid (j + 1 + spanN feedB (bytesFrom s (j + 1)) = E) := by
                 rw [Hid, ← hje.out, hfr.out]; simp only [spanN]; rw [hu.out, if_pos (by unfold feedB; simpa using f10)]; omega
                clear f10
                go_wp2_with fail
                go_roundw
                case rel => exact ⟨by trivial, j + 1, by omega, by omega, by go_num, hn⟩
                case measure => simp [intOf]; omega
            · have hlj' : ¬ (j : Int) < (s.size : Int) := by omega
              have hn : Hid (j = E) := by
               rw [Hid, ← hje.out, from_end s j (by omega)]; rfl
              go_wp2_with fail
              go_roundw
              case rel => exact ⟨by trivial, j, hj, rfl, by rw [Hid, hn.out]; exact hER.out⟩
              case measure => have := hEk.out; have := hn.out; simp [intOf]; omega
          · have hq2 : (d == 47) = false := int_f d47
            have hq2' : (d != 47) = true := by simp [d47]
            have hpre : Hid (Lib.hasPrefix (bytesFrom s k) slashes = false) := by
             have hne : ¬ s[k + 1] = 47 := fun h => d47 (by rw [← hu2.out, h]; rfl)
             rw [Hid, hfr.out, hfr2.out, prefix_two, decide_eq_false hne, Bool.and_false]
            have hn : Hid (k = R) := by
             rw [Hid, ← hpa.out, pass_none hfr.out hpre.out (by rw [hu.out]; exact HBF.out)]; rfl
            clear h47
            go_wp2_with (go_at_call 182; refine (HB.out _).mono ?_; rintro e w' ⟨rfl, rfl⟩)
            go_ret
            rw [hn.out]
            exact ⟨rfl, rfl⟩
        · have hl2' : ¬ (k : Int) + 1 < (s.size : Int) := by omega
          have hpre : Hid (Lib.hasPrefix (bytesFrom s k) slashes = false) := by
           rw [Hid, hfr.out, from_end s (k + 1) (by omega), prefix_one]
          have hn : Hid (k = R) := by
           rw [Hid, ← hpa.out, pass_none hfr.out hpre.out (by rw [hu.out]; exact HBF.out)]; rfl
          clear h47
          go_wp2_with (go_at_call 182; refine (HB.out _).mono ?_; rintro e w' ⟨rfl, rfl⟩)
          go_ret
          rw [hn.out]
          exact ⟨rfl, rfl⟩
      · have hq : (c == 47) = false := int_f h47
        have hq' : (c != 47) = true := by simp [h47]
        have hpre : Hid (Lib.hasPrefix (bytesFrom s k) slashes = false) := by
         rw [Hid, hfr.out, prefix_no (fun h => h47 (by rw [← hu.out, h]; rfl))]
        have hn : Hid (k = R) := by
         rw [Hid, ← hpa.out, pass_none hfr.out hpre.out (by rw [hu.out]; exact HBF.out)]; rfl
        clear h47
        go_wp2_with (go_at_call 182; refine (HB.out _).mono ?_; rintro e w' ⟨rfl, rfl⟩)
        go_ret
        rw [hn.out]
        exact ⟨rfl, rfl⟩
  · have hlt' : ¬ (k : Int) < (s.size : Int) := by omega
    have hn : Hid (k = R) := by
     rw [Hid, ← hpa.out, from_end s k (by omega)]; rfl
    go_wp2_with fail
    go_ret
    rw [hn.out]
    exact ⟨rfl, rfl⟩
open Go.RowKit
set_option linter.unusedVariables false
theorem rnumber_none (w : World) : Calls Tryz.prog 186 #[.string ⟨#[]⟩] w fun e w' => e = .returned (ValueV none) ∧ w = w' := by
 go_enter Tryz.func186, Tryz.ntmps186
 go_wp2
 go_ret2
 exact ⟨rfl, rfl⟩
theorem rnumber_nought (s : ByteArray) (w : World) (h0 : 1 < s.size) (h48 : PlainAid.bt s 0 = 48) : Calls Tryz.prog 186 #[.string s] w fun e w' => e = .returned (ValueV none) ∧ w = w' := by
 have hbt0 : ∀ h : 0 < s.size, ((s[0]'h).toNat : Int) = 48 := fun h => by rw [← h48]; exact PlainAid.get_bt s 0 h
 have hne : s.toList.isEmpty = false := (nonempty_facts (by omega)).1
 clear h48
 go_enter Tryz.func186, Tryz.ntmps186
 go_wp2
 go_ret2
 exact ⟨rfl, rfl⟩
theorem rnumber_loop (s : ByteArray) (w : World) (hs : s.size ≤ 4611686018427387904) (h0 : 0 < s.size) (hq : s.size ≤ 1 ∨ ¬ PlainAid.bt s 0 = 48) : Calls Tryz.prog 186 #[.string s] w fun e w' => e = .returned (ValueV (digitsV s.data.toList 0)) ∧ w = w' := by
 obtain ⟨R, hR⟩ : ∃ R, R = digitsV s.data.toList 0 := ⟨_, rfl⟩
 rw [← hR]
 have HR := Lib.hid hR
 clear hR
 have hbs := PlainAid.get_bt s
 have hne : s.toList.isEmpty = false := (nonempty_facts h0).1
 have key : ∀ K : Prop, (s.size ≤ 1 → (PlainAid.bt s 0 == 48) = true → K) → ((PlainAid.bt s 0 == 48) = false → K) → K := fun K a b => by
  by_cases h1 : PlainAid.bt s 0 = 48
  · exact a (hq.elim id (fun h => absurd h1 h)) (int_t h1)
  · exact b (int_f h1)
 clear hq
 apply key
 all_goals
  clear key
  intros
  go_enter Tryz.func186, Tryz.ntmps186
  go_wp2_with fail
  go_loopw [2, 3, 4, 5, 6] (fun _ _ v i _ wr => w = wr ∧ ∃ (k : Nat) (z : Int), k ≤ s.size ∧ i = .int .i64 k ∧ v = .int .u64 z ∧ 0 ≤ z ∧ z ≤ 9223372036854775807 ∧ Hid (digitsV (bytesFrom s k) z = R)) (fun _ _ _ i _ _ => s.size - (intOf i).toNat)
  case atStart => exact ⟨rfl, 0, 0, Nat.zero_le _, rfl, rfl, by decide, by decide, HR.out.symm⟩
  case round =>
   obtain ⟨rfl, k, z, hk, rfl, rfl, hz0, hz1, hp⟩ := hrel
   by_cases hlt : k < s.size
   · have hx0 := PlainAid.bt_nonneg s k
     have hx1 := PlainAid.bt_le s k
     have hu : ((s[k]).toNat : Int) = PlainAid.bt s k := PlainAid.get_bt s k hlt
     have hfr := from_at s k hlt
     obtain ⟨c, hc⟩ : ∃ c, c = PlainAid.bt s k := ⟨_, rfl⟩
     have hbt : ∀ h : k < s.size, ((s[k]'h).toNat : Int) = c := fun h => by rw [hc]; exact PlainAid.get_bt s k h
     rw [← hc] at hu hx0 hx1
     clear hc hbs
     have H := Lib.hid (fun w => rdigit_any c hx0 hx1 w)
     have hlt' : (k : Int) < (s.size : Int) := by omega
     by_cases hd : digitB c = true
     · have hcb := digitB_bd hd
       by_cases hov : (9223372036854775807 - (c - 48)) / 10 < z
       · have hn : Hid (R = none) := by rw [Hid, ← hp.out, hfr, digitsV_no hu (.inr hov)]
         rw [hd] at H
         clear hfr hu hp hd
         go_wp2_with (go_at_call 184; refine (H.out _).mono ?_; rintro e w' ⟨rfl, rfl⟩)
         go_ret2
         rw [hn.out]
         exact ⟨rfl, rfl⟩
       · have hn : Hid (digitsV (bytesFrom s (k + 1)) (z * 10 + (c - 48)) = R) := by rw [Hid, ← hp.out, hfr, digitsV_yes hu hd hov]
         have hb1 : z * 10 + (c - 48) ≤ 9223372036854775807 ∧ 0 ≤ z * 10 + (c - 48) := by omega
         have hcm : 10 * z = z * 10 := Int.mul_comm _ _
         rw [hd] at H
         clear hfr hu hp hd
         go_wp2_with (go_at_call 184; refine (H.out _).mono ?_; rintro e w' ⟨rfl, rfl⟩)
         go_roundw
         case rel => exact ⟨by trivial, k + 1, z * 10 + (c - 48), by omega, by go_num, by go_num, by omega, by omega, hn⟩
         case measure => simp [intOf]; omega
     · have hdf : digitB c = false := by simpa using hd
       have hn : Hid (R = none) := by rw [Hid, ← hp.out, hfr, digitsV_no hu (.inl hdf)]
       rw [hdf] at H
       clear hfr hu hp hd hdf
       go_wp2_with (go_at_call 184; refine (H.out _).mono ?_; rintro e w' ⟨rfl, rfl⟩)
       go_ret2
       rw [hn.out]
       exact ⟨rfl, rfl⟩
   · have hlt' : ¬ (k : Int) < (s.size : Int) := by omega
     have hn : Hid (R = some z) := by
      rw [Hid, ← hp.out, from_end s k (by omega)]; rfl
     clear hp
     go_wp2_with fail
     go_ret2
     rw [hn.out]
     exact ⟨rfl, rfl⟩
theorem rnumber_any (s : ByteArray) (hs : s.size ≤ 4611686018427387904) (w : World) : Calls Tryz.prog 186 #[.string s] w fun e w' => e = .returned (ValueV (valueO s.data.toList)) ∧ w = w' := by
 by_cases h0 : 0 < s.size
 · have hfr : s.data.toList = s[0] :: bytesFrom s 1 := from_at s 0 h0
   have hu : ((s[0]).toNat : Int) = PlainAid.bt s 0 := PlainAid.get_bt s 0 h0
   have hl : (bytesFrom s 1 ≠ []) ↔ 1 < s.size := by
    have : (bytesFrom s 1).length = s.size - 1 := by unfold bytesFrom; simp
    constructor
    · intro h
      apply Nat.lt_of_not_le
      intro hx
      exact h (List.length_eq_zero_iff.1 (by omega))
    · intro h hx
      rw [hx] at this
      simp at this
      omega
   by_cases h : 1 < s.size ∧ PlainAid.bt s 0 = 48
   · have e : valueO s.data.toList = none := by
      rw [hfr]; unfold valueO
      simp only []
      rw [if_pos ⟨hu.trans h.2, hl.2 h.1⟩]
     rw [e]
     exact rnumber_nought s w h.1 h.2
   · have e : valueO s.data.toList = digitsV s.data.toList 0 := by
      rw [hfr]; unfold valueO
      simp only []
      rw [if_neg (fun hx => h ⟨hl.1 hx.2, hu.symm.trans hx.1⟩)]
     rw [e]
     exact rnumber_loop s w hs h0 (by
      by_cases h1 : s.size ≤ 1
      · exact .inl h1
      · exact .inr fun hx => h ⟨by omega, hx⟩)
 · obtain rfl := empty_of h0
   exact rnumber_none w
end Go.Proofs.YtfogkobgjojpiaaGreatDoor

/- The lexer's reference: letters, digits, blanks, words, signs. -/
import Derived.Test.YteedpojchapjgaaDoorBegins
namespace Go.Proofs.YteedpojchapjgaaDoor
open Go.RowKit
set_option linter.unusedVariables false
set_option linter.unusedSimpArgs false
/-- The reference's list of signs. -/
def signL (l : List UInt8) : Bool := (l == [40]) || (l == [41]) || (l == [123]) || (l == [125]) || (l == [44]) || (l == [59]) || (l == [61]) || (l == [43]) || (l == [45]) || (l == [42]) || (l == [47]) || (l == [37]) || (l == [38]) || (l == [124]) || (l == [94]) || (l == [33]) || (l == [60]) || (l == [62]) || (l == [61, 61]) || (l == [33, 61]) || (l == [60, 61]) || (l == [62, 61]) || (l == [60, 60]) || (l == [62, 62])
def wordL (l : List UInt8) : Bool := (l == [115, 104, 97, 114, 101, 100]) || (l == [108, 111, 99, 107]) || (l == [116, 104, 114, 101, 97, 100]) || (l == [108, 111, 99, 97, 108]) || (l == [105, 102]) || (l == [101, 108, 115, 101]) || (l == [119, 104, 105, 108, 101]) || (l == [112, 114, 105, 110, 116]) || (l == [115, 107, 105, 112]) || (l == [115, 119, 97, 112])
theorem wordB_list (s : ByteArray) : wordB s = wordL s.toList := by
  have h : ∀ (v : ByteArray) (l : List UInt8), v.toList = l → (v.toList == s.toList) = (s.toList == l) := fun v l e => by
    rw [e]; exact Bool.eq_iff_iff.2 ⟨fun h => by simpa using (by simpa using h : l = s.toList).symm, fun h => by simpa using (by simpa using h : s.toList = l).symm⟩
  unfold wordB wordL
  rw [h (wordAt 0) [115, 104, 97, 114, 101, 100] (by rw [Lib.toList_data]; rfl), h (wordAt 1) [108, 111, 99, 107] (by rw [Lib.toList_data]; rfl), h (wordAt 2) [116, 104, 114, 101, 97, 100] (by rw [Lib.toList_data]; rfl), h (wordAt 3) [108, 111, 99, 97, 108] (by rw [Lib.toList_data]; rfl), h (wordAt 4) [105, 102] (by rw [Lib.toList_data]; rfl), h (wordAt 5) [101, 108, 115, 101] (by rw [Lib.toList_data]; rfl), h (wordAt 6) [119, 104, 105, 108, 101] (by rw [Lib.toList_data]; rfl), h (wordAt 7) [112, 114, 105, 110, 116] (by rw [Lib.toList_data]; rfl), h (wordAt 8) [115, 107, 105, 112] (by rw [Lib.toList_data]; rfl), h (wordAt 9) [115, 119, 97, 112] (by rw [Lib.toList_data]; rfl)]

theorem sign1 (a : UInt8) : signB (a.toNat : Int) = signL [a] := by
  have h : ∀ n : Fin 256, signB ((UInt8.ofNat n.val).toNat : Int) = signL [UInt8.ofNat n.val] := by decide +kernel
  have := h ⟨a.toNat, a.toNat_lt⟩
  simpa using this
theorem pre2 (a b c d : UInt8) : Lib.hasPrefix [a, b] [c, d] = ([a, b] == [c, d]) := by
  rw [← Lib.hasPrefix_of_take]; simp
theorem long2 (a b : UInt8) : longB [a, b] = signL [a, b] := by
  unfold longB
  rw [show (longAt 0).data.toList = [61, 61] from rfl, show (longAt 1).data.toList = [33, 61] from rfl, show (longAt 2).data.toList = [60, 61] from rfl, show (longAt 3).data.toList = [62, 61] from rfl, show (longAt 4).data.toList = [60, 60] from rfl, show (longAt 5).data.toList = [62, 62] from rfl]
  simp only [pre2]
  unfold signL
  simp
theorem ahead_bd (l : List UInt8) : aheadN l ≤ 2 := by
  unfold aheadN
  split
  · exact Nat.le_refl _
  · unfold firstN
    split
    · omega
    · split <;> omega
theorem long1 (a : UInt8) : longB [a] = false := by
  cases h : longB [a] with
  | false => rfl
  | true =>
    unfold longB at h
    simp only [Bool.or_eq_true] at h
    rcases h with ((((h | h) | h) | h) | h) | h <;> exact absurd (show 2 ≤ 1 from prefix_len h) (by decide)
theorem signL_long (a b c : UInt8) (r : List UInt8) : signL (a :: b :: c :: r) = false := by
  unfold signL
  simp
theorem isSign_list (s : ByteArray) : isSignB s = signL s.toList := by
  unfold isSignB
  rw [Lib.toList_data]
  have hz : s.size = s.data.toList.length := by simp
  rw [hz]
  generalize s.data.toList = l
  match l with
  | [] => rfl
  | [a] =>
    rw [← sign1]
    unfold aheadN
    rw [long1, if_neg (by decide)]
    unfold firstN
    by_cases h : signB (a.toNat : Int) = true
    · simp [h]
    · simp [h]
  | [a, b] =>
    rw [← long2]
    unfold aheadN
    by_cases h : longB [a, b] = true
    · simp [h]
    · rw [if_neg h]
      have : firstN [a, b] ≤ 1 := by
        unfold firstN
        split
        · omega
        · split <;> omega
      simp [h]
      omega
  | a :: b :: c :: r =>
    rw [signL_long]
    have := ahead_bd (a :: b :: c :: r)
    simp
    omega

set_option maxRecDepth 100000 in
set_option maxHeartbeats 4000000 in
theorem rword_any (s : ByteArray) (w : World) : Calls Tryd.prog 18 #[.string s] w fun e w' => e = .returned (.bool (wordB s)) ∧ w = w' := by
  obtain ⟨R, hR⟩ : ∃ R, Hid (R = wordB s) := ⟨_, rfl⟩
  rw [← hR.out]
  obtain ⟨p0, e0⟩ : ∃ p, (s.toList == ([115, 104, 97, 114, 101, 100] : List UInt8)) = p := ⟨_, rfl⟩
  obtain ⟨p1, e1⟩ : ∃ p, (s.toList == ([108, 111, 99, 107] : List UInt8)) = p := ⟨_, rfl⟩
  obtain ⟨p2, e2⟩ : ∃ p, (s.toList == ([116, 104, 114, 101, 97, 100] : List UInt8)) = p := ⟨_, rfl⟩
  obtain ⟨p3, e3⟩ : ∃ p, (s.toList == ([108, 111, 99, 97, 108] : List UInt8)) = p := ⟨_, rfl⟩
  obtain ⟨p4, e4⟩ : ∃ p, (s.toList == ([105, 102] : List UInt8)) = p := ⟨_, rfl⟩
  obtain ⟨p5, e5⟩ : ∃ p, (s.toList == ([101, 108, 115, 101] : List UInt8)) = p := ⟨_, rfl⟩
  obtain ⟨p6, e6⟩ : ∃ p, (s.toList == ([119, 104, 105, 108, 101] : List UInt8)) = p := ⟨_, rfl⟩
  obtain ⟨p7, e7⟩ : ∃ p, (s.toList == ([112, 114, 105, 110, 116] : List UInt8)) = p := ⟨_, rfl⟩
  obtain ⟨p8, e8⟩ : ∃ p, (s.toList == ([115, 107, 105, 112] : List UInt8)) = p := ⟨_, rfl⟩
  obtain ⟨p9, e9⟩ : ∃ p, (s.toList == ([115, 119, 97, 112] : List UInt8)) = p := ⟨_, rfl⟩
  have hRR : Hid (R = (p0 || p1 || p2 || p3 || p4 || p5 || p6 || p7 || p8 || p9)) := by
    rw [Hid, hR.out, wordB_list s, ← e0, ← e1, ← e2, ← e3, ← e4, ← e5, ← e6, ← e7, ← e8, ← e9]; rfl
  clear hR
  go_enter Tryd.func18, Tryd.ntmps18
  go_wp2
  all_goals
    go_ret
    refine ⟨ret_bool ?_, rfl⟩
    rw [hRR.out]
    clear hRR
    simp_all
set_option maxRecDepth 100000 in
set_option maxHeartbeats 4000000 in
theorem rsign_any (s : ByteArray) (w : World) : Calls Tryd.prog 20 #[.string s] w fun e w' => e = .returned (.bool (isSignB s)) ∧ w = w' := by
  obtain ⟨R, hR⟩ : ∃ R, Hid (R = isSignB s) := ⟨_, rfl⟩
  rw [← hR.out]
  obtain ⟨p0, e0⟩ : ∃ p, (s.toList == ([40] : List UInt8)) = p := ⟨_, rfl⟩
  obtain ⟨p1, e1⟩ : ∃ p, (s.toList == ([41] : List UInt8)) = p := ⟨_, rfl⟩
  obtain ⟨p2, e2⟩ : ∃ p, (s.toList == ([123] : List UInt8)) = p := ⟨_, rfl⟩
  obtain ⟨p3, e3⟩ : ∃ p, (s.toList == ([125] : List UInt8)) = p := ⟨_, rfl⟩
  obtain ⟨p4, e4⟩ : ∃ p, (s.toList == ([44] : List UInt8)) = p := ⟨_, rfl⟩
  obtain ⟨p5, e5⟩ : ∃ p, (s.toList == ([59] : List UInt8)) = p := ⟨_, rfl⟩
  obtain ⟨p6, e6⟩ : ∃ p, (s.toList == ([61] : List UInt8)) = p := ⟨_, rfl⟩
  obtain ⟨p7, e7⟩ : ∃ p, (s.toList == ([43] : List UInt8)) = p := ⟨_, rfl⟩
  obtain ⟨p8, e8⟩ : ∃ p, (s.toList == ([45] : List UInt8)) = p := ⟨_, rfl⟩
  obtain ⟨p9, e9⟩ : ∃ p, (s.toList == ([42] : List UInt8)) = p := ⟨_, rfl⟩
  obtain ⟨p10, e10⟩ : ∃ p, (s.toList == ([47] : List UInt8)) = p := ⟨_, rfl⟩
  obtain ⟨p11, e11⟩ : ∃ p, (s.toList == ([37] : List UInt8)) = p := ⟨_, rfl⟩
  obtain ⟨p12, e12⟩ : ∃ p, (s.toList == ([38] : List UInt8)) = p := ⟨_, rfl⟩
  obtain ⟨p13, e13⟩ : ∃ p, (s.toList == ([124] : List UInt8)) = p := ⟨_, rfl⟩
  obtain ⟨p14, e14⟩ : ∃ p, (s.toList == ([94] : List UInt8)) = p := ⟨_, rfl⟩
  obtain ⟨p15, e15⟩ : ∃ p, (s.toList == ([33] : List UInt8)) = p := ⟨_, rfl⟩
  obtain ⟨p16, e16⟩ : ∃ p, (s.toList == ([60] : List UInt8)) = p := ⟨_, rfl⟩
  obtain ⟨p17, e17⟩ : ∃ p, (s.toList == ([62] : List UInt8)) = p := ⟨_, rfl⟩
  obtain ⟨p18, e18⟩ : ∃ p, (s.toList == ([61, 61] : List UInt8)) = p := ⟨_, rfl⟩
  obtain ⟨p19, e19⟩ : ∃ p, (s.toList == ([33, 61] : List UInt8)) = p := ⟨_, rfl⟩
  obtain ⟨p20, e20⟩ : ∃ p, (s.toList == ([60, 61] : List UInt8)) = p := ⟨_, rfl⟩
  obtain ⟨p21, e21⟩ : ∃ p, (s.toList == ([62, 61] : List UInt8)) = p := ⟨_, rfl⟩
  obtain ⟨p22, e22⟩ : ∃ p, (s.toList == ([60, 60] : List UInt8)) = p := ⟨_, rfl⟩
  obtain ⟨p23, e23⟩ : ∃ p, (s.toList == ([62, 62] : List UInt8)) = p := ⟨_, rfl⟩
  have hRR : Hid (R = (p0 || p1 || p2 || p3 || p4 || p5 || p6 || p7 || p8 || p9 || p10 || p11 || p12 || p13 || p14 || p15 || p16 || p17 || p18 || p19 || p20 || p21 || p22 || p23)) := by
    rw [Hid, hR.out, isSign_list s, ← e0, ← e1, ← e2, ← e3, ← e4, ← e5, ← e6, ← e7, ← e8, ← e9, ← e10, ← e11, ← e12, ← e13, ← e14, ← e15, ← e16, ← e17, ← e18, ← e19, ← e20, ← e21, ← e22, ← e23]; rfl
  clear hR
  go_enter Tryd.func20, Tryd.ntmps20
  go_wp2
  all_goals
    go_ret
    refine ⟨ret_bool ?_, rfl⟩
    rw [hRR.out]
    clear hRR
    simp_all
end Go.Proofs.YteedpojchapjgaaDoor

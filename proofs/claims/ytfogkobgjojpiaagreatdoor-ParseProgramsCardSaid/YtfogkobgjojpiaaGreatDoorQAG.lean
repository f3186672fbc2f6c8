/- The proof, part 7: texts that belong together, in one. -/
import Derived.Test.YtfogkobgjojpiaaGreatDoorQAF
set_option maxRecDepth 100000
set_option maxHeartbeats 20000000
namespace Go.Proofs.YtfogkobgjojpiaaGreatDoor
open Go.RowKit
set_option linter.unusedVariables false
def onePost (s : ByteArray) (p : Nat) (e : Ending) : Prop :=
 ∃ a b c d, e = .returned (.tuple #[.agg #[.int .u8 a, .string b, .int .i64 c, .int .i64 d], .int .i64 (nextR s p).fr, .int .i64 (nextR s p).fa]) ∧ ((nextR s p).fr = 0 → a = (nextR s p).kind ∧ b = (nextR s p).text ∧ c = (nextR s p).wd ∧ d = (nextR s p).place)
theorem extract_two (s : ByteArray) (p n : Nat) (h : p + n ≤ s.size) : (s.extract p s.size).extract 0 n = s.extract p (p + n) := by
 apply ByteArray.ext
 apply Array.ext'
 rw [Lib.extract_data, Lib.extract_data, Lib.extract_data]
 simp only [List.drop_zero, Nat.sub_zero]
 rw [List.take_take, show p + n - p = n by omega, show min n (s.size - p) = n by omega]
theorem word_size {s : ByteArray} (h : wordB s = true) : s.size ≤ 6 := by
 rw [wordB_list, Lib.toList_data] at h
 have hz : s.size = s.data.toList.length := by simp
 rw [hz]
 generalize s.data.toList = l at h
 unfold wordL at h
 simp only [Bool.or_eq_true, beq_iff_eq] at h
 rcases h with ((((((((h | h) | h) | h) | h) | h) | h) | h) | h) | h <;> subst h <;> decide
theorem one_letter (s : ByteArray) (hs : s.size ≤ 281474976710656) (p : Nat) (hp : p < s.size) (w : World) (hN0 : letterB (PlainAid.bt s p) = true) :
 Calls Tryz.prog 162 #[.string s, .int .i64 p] w fun e w' => onePost s p e ∧ Below w.heap.size w w' := by
 have hx0 := PlainAid.bt_nonneg s p
 have hx1 := PlainAid.bt_le s p
 obtain ⟨c, hc⟩ : ∃ c, Hid (c = PlainAid.bt s p) := ⟨_, rfl⟩
 have hbt : ∀ h : p < s.size, ((s[p]'h).toNat : Int) = c := fun h => by rw [hc.out]; exact PlainAid.get_bt s p h
 rw [← hc.out] at hx0 hx1
 have hp' : (p : Int) < (s.size : Int) := by omega
 have Hletter : Hid (∀ W : World, Calls Tryz.prog 183 #[.int .u8 c] W fun e w' => e = .returned (.bool true) ∧ W = w') := fun W => by
  have q := rletter_any c hx0 hx1 W
  rw [hc.out, hN0] at q
  rw [hc.out]
  exact q
 go_enter Tryz.func162, Tryz.ntmps162
 go_wp2_with (go_at_call 183; refine (Hletter.out _).mono ?_; rintro e w' ⟨rfl, rfl⟩)
 obtain ⟨E, hE⟩ : ∃ E, Hid (E = p + spanN namedB (bytesFrom s p)) := ⟨_, rfl⟩
 have hEs : E ≤ s.size := by
  have := spanN_le namedB (bytesFrom s p)
  rw [from_len] at this
  rw [hE.out]; omega
 have hEp : p < E := by
  have : 0 < spanN namedB (bytesFrom s p) := by
   rw [from_at s p hp]
   refine span_pos ?_
   rw [hbt hp]; unfold namedB; rw [hc.out, hN0]; rfl
  rw [hE.out]; omega
 obtain ⟨X, hX⟩ : ∃ X, Hid (X = s.extract p E) := ⟨_, rfl⟩
 have hXz : X.size = E - p := by rw [hX.out]; simp; omega
 have hXn : Hid (X = nameX s p) := by
  unfold nameX
  rw [Hid, extract_two s p _ (by have := hE.out; omega), ← hE.out]; exact hX.out
 have hRn : Hid (nextR s p = nameR s p) := by
  unfold nextR; rw [Hid, if_pos hN0]
 clear hN0
 go_loopw [7] (fun e wr => wr = w.alloc (.cells #[.int .u8 0, .string ⟨#[]⟩, .int .i64 0, .int .i64 0] 108) ∧ ∃ j : Nat, p ≤ j ∧ j ≤ s.size ∧ e = .int .i64 j ∧ Hid (j + spanN namedB (bytesFrom s j) = E)) (fun i _ => s.size - (intOf i).toNat)
 case atStart => exact ⟨rfl, p, Nat.le_refl _, by omega, rfl, hE.out.symm⟩
 case round =>
  obtain ⟨rfl, j, hpj, hj, rfl, hje⟩ := hrel
  by_cases hlj : j < s.size
  · have hlj' : (j : Int) < (s.size : Int) := by omega
    have hy0 := PlainAid.bt_nonneg s j
    have hy1 := PlainAid.bt_le s j
    obtain ⟨d, hd⟩ : ∃ c, Hid (c = PlainAid.bt s j) := ⟨_, rfl⟩
    have hbj : ∀ h : j < s.size, ((s[j]'h).toNat : Int) = d := fun h => by rw [hd.out]; exact PlainAid.get_bt s j h
    rw [← hd.out] at hy0 hy1
    have hu := Lib.hid (hbj hlj)
    have hfr := Lib.hid (from_at s j hlj)
    have K1 := Lib.hid (fun w => rletter_any d hy0 hy1 w)
    have K2 := Lib.hid (fun w => rdigit_any d hy0 hy1 w)
    obtain ⟨q1, hq1⟩ : ∃ a, a = letterB d := ⟨_, rfl⟩
    obtain ⟨q2, hq2⟩ : ∃ b, b = digitB d := ⟨_, rfl⟩
    have e : Hid (namedB d = (q1 || q2)) := by rw [hq1, hq2]; rfl
    rw [← hq1] at K1
    rw [← hq2] at K2
    clear hq1 hq2
    by_cases hpc : (q1 || q2) = true
    · have hn : Hid (j + 1 + spanN namedB (bytesFrom s (j + 1)) = E) := by
       rw [Hid, ← hje.out, hfr.out]; simp only [spanN]; rw [hu.out, e.out, if_pos hpc]; omega
      clear e
      cases q1
      · obtain rfl : q2 = true := by simpa using hpc
        clear hpc
        go_wp2_with (first
         | (go_at_call 183; refine (K1.out _).mono ?_; rintro e w' ⟨rfl, rfl⟩)
         | (go_at_call 184; refine (K2.out _).mono ?_; rintro e w' ⟨rfl, rfl⟩))
        go_roundw
        case rel => exact ⟨by first | rfl | trivial, j + 1, by omega, by omega, by go_num, hn⟩
        case measure => simp [intOf]; omega
      · clear hpc
        go_wp2_with (first
         | (go_at_call 183; refine (K1.out _).mono ?_; rintro e w' ⟨rfl, rfl⟩)
         | (go_at_call 184; refine (K2.out _).mono ?_; rintro e w' ⟨rfl, rfl⟩))
        go_roundw
        case rel => exact ⟨by first | rfl | trivial, j + 1, by omega, by omega, by go_num, hn⟩
        case measure => simp [intOf]; omega
    · have hn : Hid (j = E) := by
       rw [Hid, ← hje.out, hfr.out]; simp only [spanN]; rw [hu.out, e.out, if_neg hpc]; rfl
      obtain ⟨rfl, rfl⟩ : q1 = false ∧ q2 = false := by simpa using hpc
      clear hpc e
      obtain rfl : j = E := hn.out
      obtain ⟨q, hq⟩ : ∃ q, Hid (q = wordB X) := ⟨_, rfl⟩
      have HW : Hid (∀ W : World, Calls Tryz.prog 185 #[.string X] W fun e w' => e = .returned (.bool q) ∧ W = w') := fun W => by
       rw [hq.out]; exact rword_any X W
      cases q
      · have hw : Hid (wordB (nameX s p) = false) := by rw [Hid, ← hXn.out]; exact hq.out.symm
        by_cases h32 : (32 : Int) < (j : Int) - (p : Int)
        · have hV : Hid (nextR s p = ⟨0, ⟨#[]⟩, 0, 0, p + 32, 2⟩) := by
           rw [Hid, hRn.out]; unfold nameR
           rw [if_neg (by rw [hw.out]; decide), if_pos (by rw [← hXn.out, hXz]; omega)]
          go_wp2_with (first
           | (go_at_call 183; refine (K1.out _).mono ?_; rintro e w' ⟨rfl, rfl⟩)
           | (go_at_call 184; refine (K2.out _).mono ?_; rintro e w' ⟨rfl, rfl⟩)
           | (go_at_call 185; (try rw [← hX.out]); refine (HW.out _).mono ?_; rintro e w' ⟨rfl, rfl⟩))
          refine bodyPost_ret (v := .tuple #[.agg #[.int .u8 1, .string X, .int .i64 0, .int .i64 p], .int .i64 2, .int .i64 ((p : Int) + 32)]) (by simp [results, Tryz.results162, go_sem]) rfl ⟨?_, ?_⟩
          · unfold onePost; rw [hV.out]; exact ⟨_, _, _, _, rfl, fun h => by cases h⟩
          · exact (((Below.refl _ w).alloc (Nat.le_refl _) _).alloc (by simp) _)
        · have hV : Hid (nextR s p = ⟨1, X, 0, p, 0, 0⟩) := by
           rw [Hid, hRn.out]; unfold nameR
           rw [if_neg (by rw [hw.out]; decide), if_neg (by rw [← hXn.out, hXz]; omega), ← hXn.out]
          go_wp2_with (first
           | (go_at_call 183; refine (K1.out _).mono ?_; rintro e w' ⟨rfl, rfl⟩)
           | (go_at_call 184; refine (K2.out _).mono ?_; rintro e w' ⟨rfl, rfl⟩)
           | (go_at_call 185; (try rw [← hX.out]); refine (HW.out _).mono ?_; rintro e w' ⟨rfl, rfl⟩))
          refine bodyPost_ret (v := .tuple #[.agg #[.int .u8 1, .string X, .int .i64 0, .int .i64 p], .int .i64 0, .int .i64 0]) (by simp [results, Tryz.results162, go_sem]) rfl ⟨?_, ?_⟩
          · unfold onePost; rw [hV.out]; exact ⟨_, _, _, _, rfl, fun _ => ⟨rfl, rfl, rfl, rfl⟩⟩
          · exact (((Below.refl _ w).alloc (Nat.le_refl _) _).alloc (by simp) _)
      · have hw : Hid (wordB (nameX s p) = true) := by rw [Hid, ← hXn.out]; exact hq.out.symm
        have hsz := word_size hq.out.symm
        have h32 : ¬ (32 : Int) < (j : Int) - (p : Int) := by omega
        have hV : Hid (nextR s p = ⟨2, X, 0, p, 0, 0⟩) := by
         rw [Hid, hRn.out]; unfold nameR
         rw [if_pos hw.out, ← hXn.out]
        go_wp2_with (first
         | (go_at_call 183; refine (K1.out _).mono ?_; rintro e w' ⟨rfl, rfl⟩)
         | (go_at_call 184; refine (K2.out _).mono ?_; rintro e w' ⟨rfl, rfl⟩)
         | (go_at_call 185; (try rw [← hX.out]); refine (HW.out _).mono ?_; rintro e w' ⟨rfl, rfl⟩))
        refine bodyPost_ret (v := .tuple #[.agg #[.int .u8 2, .string X, .int .i64 0, .int .i64 p], .int .i64 0, .int .i64 0]) (by simp [results, Tryz.results162, go_sem]) rfl ⟨?_, ?_⟩
        · unfold onePost; rw [hV.out]; exact ⟨_, _, _, _, rfl, fun _ => ⟨rfl, rfl, rfl, rfl⟩⟩
        · exact (((Below.refl _ w).alloc (Nat.le_refl _) _).alloc (by simp) _)
  · have hlj' : ¬ (j : Int) < (s.size : Int) := by omega
    have hn : Hid (j = E) := by
     rw [Hid, ← hje.out, from_end s j (by omega)]; rfl
    obtain rfl : j = E := hn.out
    obtain ⟨q, hq⟩ : ∃ q, Hid (q = wordB X) := ⟨_, rfl⟩
    have HW : Hid (∀ W : World, Calls Tryz.prog 185 #[.string X] W fun e w' => e = .returned (.bool q) ∧ W = w') := fun W => by
     rw [hq.out]; exact rword_any X W
    cases q
    · have hw : Hid (wordB (nameX s p) = false) := by rw [Hid, ← hXn.out]; exact hq.out.symm
      by_cases h32 : (32 : Int) < (j : Int) - (p : Int)
      · have hV : Hid (nextR s p = ⟨0, ⟨#[]⟩, 0, 0, p + 32, 2⟩) := by
         rw [Hid, hRn.out]; unfold nameR
         rw [if_neg (by rw [hw.out]; decide), if_pos (by rw [← hXn.out, hXz]; omega)]
        go_wp2_with (go_at_call 185; (try rw [← hX.out]); refine (HW.out _).mono ?_; rintro e w' ⟨rfl, rfl⟩)
        refine bodyPost_ret (v := .tuple #[.agg #[.int .u8 1, .string X, .int .i64 0, .int .i64 p], .int .i64 2, .int .i64 ((p : Int) + 32)]) (by simp [results, Tryz.results162, go_sem]) rfl ⟨?_, ?_⟩
        · unfold onePost; rw [hV.out]; exact ⟨_, _, _, _, rfl, fun h => by cases h⟩
        · exact (((Below.refl _ w).alloc (Nat.le_refl _) _).alloc (by simp) _)
      · have hV : Hid (nextR s p = ⟨1, X, 0, p, 0, 0⟩) := by
         rw [Hid, hRn.out]; unfold nameR
         rw [if_neg (by rw [hw.out]; decide), if_neg (by rw [← hXn.out, hXz]; omega), ← hXn.out]
        go_wp2_with (go_at_call 185; (try rw [← hX.out]); refine (HW.out _).mono ?_; rintro e w' ⟨rfl, rfl⟩)
        refine bodyPost_ret (v := .tuple #[.agg #[.int .u8 1, .string X, .int .i64 0, .int .i64 p], .int .i64 0, .int .i64 0]) (by simp [results, Tryz.results162, go_sem]) rfl ⟨?_, ?_⟩
        · unfold onePost; rw [hV.out]; exact ⟨_, _, _, _, rfl, fun _ => ⟨rfl, rfl, rfl, rfl⟩⟩
        · exact (((Below.refl _ w).alloc (Nat.le_refl _) _).alloc (by simp) _)
    · have hw : Hid (wordB (nameX s p) = true) := by rw [Hid, ← hXn.out]; exact hq.out.symm
      have hsz := word_size hq.out.symm
      have h32 : ¬ (32 : Int) < (j : Int) - (p : Int) := by omega
      have hV : Hid (nextR s p = ⟨2, X, 0, p, 0, 0⟩) := by
       rw [Hid, hRn.out]; unfold nameR
       rw [if_pos hw.out, ← hXn.out]
      go_wp2_with (go_at_call 185; (try rw [← hX.out]); refine (HW.out _).mono ?_; rintro e w' ⟨rfl, rfl⟩)
      refine bodyPost_ret (v := .tuple #[.agg #[.int .u8 2, .string X, .int .i64 0, .int .i64 p], .int .i64 0, .int .i64 0]) (by simp [results, Tryz.results162, go_sem]) rfl ⟨?_, ?_⟩
      · unfold onePost; rw [hV.out]; exact ⟨_, _, _, _, rfl, fun _ => ⟨rfl, rfl, rfl, rfl⟩⟩
      · exact (((Below.refl _ w).alloc (Nat.le_refl _) _).alloc (by simp) _)
theorem one_digit (s : ByteArray) (hs : s.size ≤ 281474976710656) (p : Nat) (hp : p < s.size) (w : World) (hN0 : letterB (PlainAid.bt s p) = false) (hN1 : digitB (PlainAid.bt s p) = true) :
 Calls Tryz.prog 162 #[.string s, .int .i64 p] w fun e w' => onePost s p e ∧ Below w.heap.size w w' := by
 have hx0 := PlainAid.bt_nonneg s p
 have hx1 := PlainAid.bt_le s p
 obtain ⟨c, hc⟩ : ∃ c, Hid (c = PlainAid.bt s p) := ⟨_, rfl⟩
 have hbt : ∀ h : p < s.size, ((s[p]'h).toNat : Int) = c := fun h => by rw [hc.out]; exact PlainAid.get_bt s p h
 rw [← hc.out] at hx0 hx1
 have hp' : (p : Int) < (s.size : Int) := by omega
 have Hletter : Hid (∀ W : World, Calls Tryz.prog 183 #[.int .u8 c] W fun e w' => e = .returned (.bool false) ∧ W = w') := fun W => by
  have q := rletter_any c hx0 hx1 W
  rw [hc.out, hN0] at q
  rw [hc.out]
  exact q
 have Hdigit : Hid (∀ W : World, Calls Tryz.prog 184 #[.int .u8 c] W fun e w' => e = .returned (.bool true) ∧ W = w') := fun W => by
  have q := rdigit_any c hx0 hx1 W
  rw [hc.out, hN1] at q
  rw [hc.out]
  exact q
 have Hletter0 := Hletter
 have Hdigit0 := Hdigit
 go_enter Tryz.func162, Tryz.ntmps162
 go_wp2_with (first
  | (go_at_call 183; refine (Hletter.out _).mono ?_; rintro e w' ⟨rfl, rfl⟩)
  | (go_at_call 184; refine (Hdigit.out _).mono ?_; rintro e w' ⟨rfl, rfl⟩))
 clear Hletter Hdigit Hletter0 Hdigit0
 obtain ⟨E, hE⟩ : ∃ E, Hid (E = p + spanN digitB (bytesFrom s p)) := ⟨_, rfl⟩
 have hEs : E ≤ s.size := by
  have := spanN_le digitB (bytesFrom s p)
  rw [from_len] at this
  rw [hE.out]; omega
 have hEp : p < E := by
  have : 0 < spanN digitB (bytesFrom s p) := by
   rw [from_at s p hp]
   refine span_pos ?_
   rw [hbt hp, hc.out]; exact hN1
  rw [hE.out]; omega
 obtain ⟨X, hX⟩ : ∃ X, Hid (X = s.extract p E) := ⟨_, rfl⟩
 have hXz : X.size = E - p := by rw [hX.out]; simp; omega
 have hXn : Hid (X = numX s p) := by
  unfold numX
  rw [Hid, extract_two s p _ (by have := hE.out; omega), ← hE.out]; exact hX.out
 have hRn : Hid (nextR s p = numC s p (E - p) X (valueO X.data.toList)) := by
  unfold nextR; rw [Hid, if_neg (by rw [hN0]; decide), if_pos hN1]
  unfold numR; rw [← hXn.out, hE.out]; congr 1; omega
 have hbh : Hid (behindB s p = (decide (E < s.size) && letterB (PlainAid.bt s E))) := by
  unfold behindB; rw [Hid, ← hE.out]
 obtain ⟨O, hO⟩ : ∃ O, Hid (O = valueO X.data.toList) := ⟨_, rfl⟩
 rw [← hO.out] at hRn
 have HNum : Hid (∀ W : World, Calls Tryz.prog 186 #[.string X] W fun e w' => e = .returned (.tuple #[.int .i64 (O.getD 0), .bool O.isSome]) ∧ W = w') := fun W => by
  rw [hO.out]; exact rnumber_any X (by omega) W
 clear hN0 hN1
 go_loopw [7] (fun e wr => wr = w.alloc (.cells #[.int .u8 0, .string ⟨#[]⟩, .int .i64 0, .int .i64 0] 108) ∧ ∃ j : Nat, p ≤ j ∧ j ≤ s.size ∧ e = .int .i64 j ∧ Hid (j + spanN digitB (bytesFrom s j) = E)) (fun i _ => s.size - (intOf i).toNat)
 case atStart => exact ⟨rfl, p, Nat.le_refl _, by omega, rfl, hE.out.symm⟩
 case round =>
  obtain ⟨rfl, j, hpj, hj, rfl, hje⟩ := hrel
  by_cases hlj : j < s.size
  · have hlj' : (j : Int) < (s.size : Int) := by omega
    have hy0 := PlainAid.bt_nonneg s j
    have hy1 := PlainAid.bt_le s j
    obtain ⟨d, hd⟩ : ∃ c, Hid (c = PlainAid.bt s j) := ⟨_, rfl⟩
    have hbj : ∀ h : j < s.size, ((s[j]'h).toNat : Int) = d := fun h => by rw [hd.out]; exact PlainAid.get_bt s j h
    rw [← hd.out] at hy0 hy1
    have hu := Lib.hid (hbj hlj)
    have hfr := Lib.hid (from_at s j hlj)
    have K1 := Lib.hid (fun w => rletter_any d hy0 hy1 w)
    have K2 := Lib.hid (fun w => rdigit_any d hy0 hy1 w)
    obtain ⟨q1, hq1⟩ : ∃ a, Hid (a = letterB d) := ⟨_, rfl⟩
    obtain ⟨q2, hq2⟩ : ∃ b, Hid (b = digitB d) := ⟨_, rfl⟩
    rw [← hq1.out] at K1
    rw [← hq2.out] at K2
    cases q2
    · have hn : Hid (j = E) := by
       rw [Hid, ← hje.out, hfr.out]; simp only [spanN]; rw [hu.out, if_neg (by rw [← hq2.out]; decide)]; rfl
      obtain rfl : j = E := hn.out
      have hbb : Hid (behindB s p = q1) := by
       rw [Hid, hbh.out, decide_eq_true hlj, hq1.out, ← hd.out]; rfl
      clear hq2
      cases O with
      | none =>
        have hV : Hid (nextR s p = ⟨0, ⟨#[]⟩, 0, 0, p, 3⟩) := by rw [Hid, hRn.out]; rfl
        go_wp2_with (first
         | (go_at_call 183; refine (K1.out _).mono ?_; rintro e w' ⟨rfl, rfl⟩)
         | (go_at_call 184; refine (K2.out _).mono ?_; rintro e w' ⟨rfl, rfl⟩)
         | (go_at_call 186; (try rw [← hX.out]); refine (HNum.out _).mono ?_; rintro e w' ⟨rfl, rfl⟩))
        refine bodyPost_ret (v := .tuple #[.agg #[.int .u8 0, .string ⟨#[]⟩, .int .i64 0, .int .i64 0], .int .i64 3, .int .i64 p]) (by simp [results, Tryz.results162, go_sem]) rfl ⟨?_, ?_⟩
        · unfold onePost; rw [hV.out]; exact ⟨_, _, _, _, rfl, fun h => by cases h⟩
        · exact (Below.refl _ w).alloc (Nat.le_refl _) _
      | some v =>
        cases q1
        · have hV : Hid (nextR s p = ⟨3, X, v, p, 0, 0⟩) := by
           rw [Hid, hRn.out]; simp only [numC]; rw [if_neg (by rw [hbb.out]; decide)]
          go_wp2_with (first
           | (go_at_call 183; refine (K1.out _).mono ?_; rintro e w' ⟨rfl, rfl⟩)
           | (go_at_call 184; refine (K2.out _).mono ?_; rintro e w' ⟨rfl, rfl⟩)
           | (go_at_call 186; (try rw [← hX.out]); refine (HNum.out _).mono ?_; rintro e w' ⟨rfl, rfl⟩))
          refine bodyPost_ret (v := .tuple #[.agg #[.int .u8 3, .string X, .int .i64 v, .int .i64 p], .int .i64 0, .int .i64 0]) (by simp [results, Tryz.results162, go_sem, hX.out]) rfl ⟨?_, ?_⟩
          · unfold onePost; rw [hV.out]; exact ⟨_, _, _, _, rfl, fun _ => ⟨rfl, rfl, rfl, rfl⟩⟩
          · exact (Below.refl _ w).alloc (Nat.le_refl _) _
        · have hV : Hid (nextR s p = ⟨0, ⟨#[]⟩, 0, 0, j, 4⟩) := by
           rw [Hid, hRn.out]; simp only [numC]; rw [if_pos hbb.out]; congr 1; omega
          go_wp2_with (first
           | (go_at_call 183; refine (K1.out _).mono ?_; rintro e w' ⟨rfl, rfl⟩)
           | (go_at_call 184; refine (K2.out _).mono ?_; rintro e w' ⟨rfl, rfl⟩)
           | (go_at_call 186; (try rw [← hX.out]); refine (HNum.out _).mono ?_; rintro e w' ⟨rfl, rfl⟩))
          refine bodyPost_ret (v := .tuple #[.agg #[.int .u8 0, .string ⟨#[]⟩, .int .i64 0, .int .i64 0], .int .i64 4, .int .i64 j]) (by simp [results, Tryz.results162, go_sem]) rfl ⟨?_, ?_⟩
          · unfold onePost; rw [hV.out]; exact ⟨_, _, _, _, rfl, fun h => by cases h⟩
          · exact (Below.refl _ w).alloc (Nat.le_refl _) _
    · have hn : Hid (j + 1 + spanN digitB (bytesFrom s (j + 1)) = E) := by
       rw [Hid, ← hje.out, hfr.out]; simp only [spanN]; rw [hu.out, if_pos hq2.out.symm]; omega
      go_wp2_with (first
       | (go_at_call 183; refine (K1.out _).mono ?_; rintro e w' ⟨rfl, rfl⟩)
       | (go_at_call 184; refine (K2.out _).mono ?_; rintro e w' ⟨rfl, rfl⟩))
      go_roundw
      case rel => exact ⟨by first | rfl | trivial, j + 1, by omega, by omega, by go_num, hn⟩
      case measure => simp [intOf]; omega
  · have hlj' : ¬ (j : Int) < (s.size : Int) := by omega
    have hn : Hid (j = E) := by
     rw [Hid, ← hje.out, from_end s j (by omega)]; rfl
    obtain rfl : j = E := hn.out
    have hbb : Hid (behindB s p = false) := by
     rw [Hid, hbh.out, decide_eq_false hlj]; rfl
    cases O with
    | none =>
      have hV : Hid (nextR s p = ⟨0, ⟨#[]⟩, 0, 0, p, 3⟩) := by rw [Hid, hRn.out]; rfl
      go_wp2_with (go_at_call 186; (try rw [← hX.out]); refine (HNum.out _).mono ?_; rintro e w' ⟨rfl, rfl⟩)
      refine bodyPost_ret (v := .tuple #[.agg #[.int .u8 0, .string ⟨#[]⟩, .int .i64 0, .int .i64 0], .int .i64 3, .int .i64 p]) (by simp [results, Tryz.results162, go_sem]) rfl ⟨?_, ?_⟩
      · unfold onePost; rw [hV.out]; exact ⟨_, _, _, _, rfl, fun h => by cases h⟩
      · exact (Below.refl _ w).alloc (Nat.le_refl _) _
    | some v =>
      have hV : Hid (nextR s p = ⟨3, X, v, p, 0, 0⟩) := by
       rw [Hid, hRn.out]; simp only [numC]; rw [if_neg (by rw [hbb.out]; decide)]
      go_wp2_with (go_at_call 186; (try rw [← hX.out]); refine (HNum.out _).mono ?_; rintro e w' ⟨rfl, rfl⟩)
      refine bodyPost_ret (v := .tuple #[.agg #[.int .u8 3, .string X, .int .i64 v, .int .i64 p], .int .i64 0, .int .i64 0]) (by simp [results, Tryz.results162, go_sem, hX.out]) rfl ⟨?_, ?_⟩
      · unfold onePost; rw [hV.out]; exact ⟨_, _, _, _, rfl, fun _ => ⟨rfl, rfl, rfl, rfl⟩⟩
      · exact (Below.refl _ w).alloc (Nat.le_refl _) _
open Go.RowKit
set_option linter.unusedVariables false
theorem long_cons (a b : UInt8) (r : List UInt8) : longB (a :: b :: r) = longB [a, b] := by
 unfold longB
 rw [show (longAt 0).data.toList = [61, 61] from rfl, show (longAt 1).data.toList = [33, 61] from rfl, show (longAt 2).data.toList = [60, 61] from rfl, show (longAt 3).data.toList = [62, 61] from rfl, show (longAt 4).data.toList = [60, 60] from rfl, show (longAt 5).data.toList = [62, 62] from rfl]
 simp only [Lib.hasPrefix, List.isPrefixOf_cons_cons, List.isPrefixOf_nil_left]
theorem long_sign {a b : UInt8} (h : longB [a, b] = true) : signB (a.toNat : Int) = true := by
 rw [long2] at h
 unfold signL at h
 simp only [Bool.or_eq_true, beq_iff_eq, List.cons.injEq, and_true] at h
 have key : a = 61 ∨ a = 33 ∨ a = 60 ∨ a = 62 := by
  simp at h
  rcases h with ((((h | h) | h) | h) | h) | h <;> simp [h.1]
 rcases key with rfl | rfl | rfl | rfl <;> decide
theorem extract_list (s : ByteArray) (p n : Nat) : (s.extract p (p + n)).data.toList = (bytesFrom s p).take n := by
 rw [Lib.extract_data]
 unfold bytesFrom
 rw [show p + n - p = n by omega]
theorem one_sign (s : ByteArray) (hs : s.size ≤ 281474976710656) (p : Nat) (hp : p < s.size) (w : World) (hN0 : letterB (PlainAid.bt s p) = false) (hN1 : digitB (PlainAid.bt s p) = false) :
 Calls Tryz.prog 162 #[.string s, .int .i64 p] w fun e w' => onePost s p e ∧ Below w.heap.size w w' := by
 have hx0 := PlainAid.bt_nonneg s p
 have hx1 := PlainAid.bt_le s p
 obtain ⟨c, hc⟩ : ∃ c, Hid (c = PlainAid.bt s p) := ⟨_, rfl⟩
 have hbt : ∀ h : p < s.size, ((s[p]'h).toNat : Int) = c := fun h => by rw [hc.out]; exact PlainAid.get_bt s p h
 rw [← hc.out] at hx0 hx1
 have hp' : (p : Int) < (s.size : Int) := by omega
 have Hletter : Hid (∀ W : World, Calls Tryz.prog 183 #[.int .u8 c] W fun e w' => e = .returned (.bool false) ∧ W = w') := fun W => by
  have q := rletter_any c hx0 hx1 W
  rw [hc.out, hN0] at q
  rw [hc.out]
  exact q
 have Hdigit : Hid (∀ W : World, Calls Tryz.prog 184 #[.int .u8 c] W fun e w' => e = .returned (.bool false) ∧ W = w') := fun W => by
  have q := rdigit_any c hx0 hx1 W
  rw [hc.out, hN1] at q
  rw [hc.out]
  exact q
 have hfr := Lib.hid (from_at s p hp)
 obtain ⟨X1, hX1⟩ : ∃ X, Hid (X = s.extract p (p + 1)) := ⟨_, rfl⟩
 obtain ⟨q1, hq1⟩ : ∃ q, Hid (q = signB c) := ⟨_, rfl⟩
 have hbp : Hid (PlainAid.bt s p = c) := hc.out.symm
 have hpu : Hid (((s[p]'hp).toNat : Int) = c) := hbt hp
 have HS1 : Hid (∀ W : World, Calls Tryz.prog 187 #[.string X1] W fun e w' => e = .returned (.bool q1) ∧ W = w') := fun W => by
  have k := rsign_any X1 W
  rw [isSign_list, Lib.toList_data, hX1.out, extract_list, hfr.out] at k
  rw [hq1.out, hX1.out, ← hpu.out, sign1]
  exact k
 have hnext : Hid (nextR s p = if q1 = true then signR s p else ⟨0, ⟨#[]⟩, 0, 0, p, 1⟩) := by
  unfold nextR
  rw [Hid, if_neg (by rw [hN0]; decide), if_neg (by rw [hN1]; decide), hq1.out, hbp.out]
 clear hN0 hN1
 by_cases h2 : p + 1 < s.size
 · have h2' : (p : Int) + 1 < (s.size : Int) := by omega
   have hge : (p : Int) + 2 ≤ (s.size : Int) := by omega
   have hfr2 := Lib.hid (from_at s (p + 1) h2)
   obtain ⟨X2, hX2⟩ : ∃ X, Hid (X = s.extract p (p + 2)) := ⟨_, rfl⟩
   obtain ⟨q2, hq2⟩ : ∃ q, Hid (q = longB [s[p], s[p + 1]]) := ⟨longB [s[p], s[p + 1]], rfl⟩
   have HS2 : Hid (∀ W : World, Calls Tryz.prog 187 #[.string X2] W fun e w' => e = .returned (.bool q2) ∧ W = w') := fun W => by
    have k := rsign_any X2 W
    rw [isSign_list, Lib.toList_data, hX2.out, extract_list, hfr.out, hfr2.out] at k
    rw [hq2.out, hX2.out, long2]
    exact k
   have hah : Hid (aheadN (bytesFrom s p) = if q2 = true then 2 else if q1 = true then 1 else 0) := by
    rw [Hid, hfr.out, hfr2.out]
    unfold aheadN
    rw [long_cons, ← hq2.out]
    simp only [firstN]
    rw [hpu.out, hq1.out]
   have hls : Hid (q2 = true → q1 = true) := fun h => by
    rw [hq2.out] at h
    rw [hq1.out, ← hpu.out]
    exact long_sign h
   cases q2
   · cases q1
     · have hV : Hid (nextR s p = ⟨0, ⟨#[]⟩, 0, 0, p, 1⟩) := by rw [Hid, hnext.out, if_neg (by decide)]
       go_enter Tryz.func162, Tryz.ntmps162
       go_wp2_with (first
        | (go_at_call 183; refine (Hletter.out _).mono ?_; rintro e w' ⟨rfl, rfl⟩)
        | (go_at_call 184; refine (Hdigit.out _).mono ?_; rintro e w' ⟨rfl, rfl⟩)
        | (go_at_call 187; rw [← hX2.out]; (with_reducible refine (HS2.out _).mono ?_); rintro e w' ⟨rfl, rfl⟩)
        | (go_at_call 187; rw [← hX1.out]; (with_reducible refine (HS1.out _).mono ?_); rintro e w' ⟨rfl, rfl⟩))
       refine bodyPost_ret (v := .tuple #[.agg #[.int .u8 0, .string ⟨#[]⟩, .int .i64 0, .int .i64 0], .int .i64 1, .int .i64 p]) (by simp [results, Tryz.results162, go_sem]) rfl ⟨?_, ?_⟩
       · unfold onePost; rw [hV.out]; exact ⟨_, _, _, _, rfl, fun h => by cases h⟩
       · exact (Below.refl _ w).alloc (Nat.le_refl _) _
     · have hV : Hid (nextR s p = ⟨4, X1, 0, p, 0, 0⟩) := by
        rw [Hid, hnext.out, if_pos rfl]; unfold signR signX
        rw [hah.out, if_neg (by decide), if_pos rfl]
        rw [extract_two s p 1 (by omega), ← hX1.out]
       go_enter Tryz.func162, Tryz.ntmps162
       go_wp2_with (first
        | (go_at_call 183; refine (Hletter.out _).mono ?_; rintro e w' ⟨rfl, rfl⟩)
        | (go_at_call 184; refine (Hdigit.out _).mono ?_; rintro e w' ⟨rfl, rfl⟩)
        | (go_at_call 187; rw [← hX2.out]; (with_reducible refine (HS2.out _).mono ?_); rintro e w' ⟨rfl, rfl⟩)
        | (go_at_call 187; rw [← hX1.out]; (with_reducible refine (HS1.out _).mono ?_); rintro e w' ⟨rfl, rfl⟩))
       refine bodyPost_ret (v := .tuple #[.agg #[.int .u8 4, .string X1, .int .i64 0, .int .i64 p], .int .i64 0, .int .i64 0]) (by simp [results, Tryz.results162, go_sem, hX1.out]) rfl ⟨?_, ?_⟩
       · unfold onePost; rw [hV.out]; exact ⟨_, _, _, _, rfl, fun _ => ⟨rfl, rfl, rfl, rfl⟩⟩
       · exact (Below.refl _ w).alloc (Nat.le_refl _) _
   · have hV : Hid (nextR s p = ⟨4, X2, 0, p, 0, 0⟩) := by
      rw [Hid, hnext.out, if_pos (hls.out rfl)]; unfold signR signX
      rw [hah.out, if_pos rfl]
      rw [extract_two s p 2 (by omega), ← hX2.out]
     go_enter Tryz.func162, Tryz.ntmps162
     go_wp2_with (first
      | (go_at_call 183; refine (Hletter.out _).mono ?_; rintro e w' ⟨rfl, rfl⟩)
      | (go_at_call 184; refine (Hdigit.out _).mono ?_; rintro e w' ⟨rfl, rfl⟩)
      | (go_at_call 187; rw [← hX2.out]; (with_reducible refine (HS2.out _).mono ?_); rintro e w' ⟨rfl, rfl⟩)
      | (go_at_call 187; rw [← hX1.out]; (with_reducible refine (HS1.out _).mono ?_); rintro e w' ⟨rfl, rfl⟩))
     refine bodyPost_ret (v := .tuple #[.agg #[.int .u8 4, .string X2, .int .i64 0, .int .i64 p], .int .i64 0, .int .i64 0]) (by simp [results, Tryz.results162, go_sem, hX2.out]) rfl ⟨?_, ?_⟩
     · unfold onePost; rw [hV.out]; exact ⟨_, _, _, _, rfl, fun _ => ⟨rfl, rfl, rfl, rfl⟩⟩
     · exact (Below.refl _ w).alloc (Nat.le_refl _) _
 · have h2' : ¬ (p : Int) + 1 < (s.size : Int) := by omega
   have hge : ¬ (p : Int) + 2 ≤ (s.size : Int) := by omega
   have hah : Hid (aheadN (bytesFrom s p) = if q1 = true then 1 else 0) := by
    rw [Hid, hfr.out, from_end s (p + 1) (by omega)]
    unfold aheadN
    rw [long1, if_neg (by decide)]
    simp only [firstN]
    rw [hpu.out, hq1.out]
   cases q1
   · have hV : Hid (nextR s p = ⟨0, ⟨#[]⟩, 0, 0, p, 1⟩) := by rw [Hid, hnext.out, if_neg (by decide)]
     go_enter Tryz.func162, Tryz.ntmps162
     go_wp2_with (first
      | (go_at_call 183; refine (Hletter.out _).mono ?_; rintro e w' ⟨rfl, rfl⟩)
      | (go_at_call 184; refine (Hdigit.out _).mono ?_; rintro e w' ⟨rfl, rfl⟩)
      | (go_at_call 187; rw [← hX1.out]; (with_reducible refine (HS1.out _).mono ?_); rintro e w' ⟨rfl, rfl⟩))
     refine bodyPost_ret (v := .tuple #[.agg #[.int .u8 0, .string ⟨#[]⟩, .int .i64 0, .int .i64 0], .int .i64 1, .int .i64 p]) (by simp [results, Tryz.results162, go_sem]) rfl ⟨?_, ?_⟩
     · unfold onePost; rw [hV.out]; exact ⟨_, _, _, _, rfl, fun h => by cases h⟩
     · exact (Below.refl _ w).alloc (Nat.le_refl _) _
   · have hV : Hid (nextR s p = ⟨4, X1, 0, p, 0, 0⟩) := by
      rw [Hid, hnext.out, if_pos rfl]; unfold signR signX
      rw [hah.out, if_pos rfl]
      rw [extract_two s p 1 (by omega), ← hX1.out]
     go_enter Tryz.func162, Tryz.ntmps162
     go_wp2_with (first
      | (go_at_call 183; refine (Hletter.out _).mono ?_; rintro e w' ⟨rfl, rfl⟩)
      | (go_at_call 184; refine (Hdigit.out _).mono ?_; rintro e w' ⟨rfl, rfl⟩)
      | (go_at_call 187; rw [← hX1.out]; (with_reducible refine (HS1.out _).mono ?_); rintro e w' ⟨rfl, rfl⟩))
     refine bodyPost_ret (v := .tuple #[.agg #[.int .u8 4, .string X1, .int .i64 0, .int .i64 p], .int .i64 0, .int .i64 0]) (by simp [results, Tryz.results162, go_sem, hX1.out]) rfl ⟨?_, ?_⟩
     · unfold onePost; rw [hV.out]; exact ⟨_, _, _, _, rfl, fun _ => ⟨rfl, rfl, rfl, rfl⟩⟩
     · exact (Below.refl _ w).alloc (Nat.le_refl _) _
theorem one_any (s : ByteArray) (hs : s.size ≤ 281474976710656) (p : Nat) (hp : p < s.size) (w : World) :
 Calls Tryz.prog 162 #[.string s, .int .i64 p] w fun e w' => onePost s p e ∧ Below w.heap.size w w' := by
 cases h0 : letterB (PlainAid.bt s p) with
 | true => exact one_letter s hs p hp w h0
 | false =>
   cases h1 : digitB (PlainAid.bt s p) with
   | true => exact one_digit s hs p hp w h0 h1
   | false => exact one_sign s hs p hp w h0 h1
end Go.Proofs.YtfogkobgjojpiaaGreatDoor

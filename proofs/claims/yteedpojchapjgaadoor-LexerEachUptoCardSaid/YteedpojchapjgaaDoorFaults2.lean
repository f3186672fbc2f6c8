/- The lexer: a text with a fault, and another behind the fault's line. -/
import Derived.Test.YteedpojchapjgaaDoorFaults
import Derived.Test.YteedpojchapjgaaDoorWOwn2
namespace Go.Proofs.YteedpojchapjgaaDoor
set_option pp.deepTerms true
set_option pp.maxSteps 1000000
open Go.RowKit
set_option linter.unusedVariables false

theorem scan_errs (s : ByteArray) : (scanX s).2.1 = 0 ∨ (scanX s).2.1 = 4 ∨ (scanX s).2.1 = 20 := by
  unfold scanX
  split
  · exact .inr (.inl rfl)
  · split
    · exact .inl rfl
    · exact .inr (.inr rfl)
theorem scan_fault {s : ByteArray} (h : (scanX s).2.1 = 20) : s.size ≤ 65536 ∧ ¬ (frontR s).2.2 = 0 ∧ scanX s = ([], 20, (frontR s).2.1, (frontR s).2.2) := by
  unfold scanX at h ⊢
  split at h
  · cases h
  · rename_i hs
    rw [if_neg hs]
    split at h
    · cases h
    · rename_i hf
      rw [if_neg hf]
      exact ⟨by omega, hf, rfl⟩
theorem feed_stop : ∀ l : List UInt8, stopH (l.drop (spanN feedB l)) = true
  | [] => rfl
  | c :: r => by
    simp only [spanN]
    split
    · rw [List.drop_succ_cons]; exact feed_stop r
    · rename_i h
      have hc : c = 10 := by
        by_cases hc : c = 10
        · exact hc
        · exact absurd (feed_not hc) h
      rw [hc]; rfl
theorem feed_pos {l : List UInt8} (h : stopH l = false) : 0 < spanN feedB l := by
  cases l with
  | nil => cases h
  | cons c r =>
    refine span_pos (feed_not ?_)
    intro e
    rw [e] at h
    cases h
/-- What is known of a text with a fault. -/
theorem fault_facts {s : ByteArray} (h : (scanX s).2.1 = 20) : ∃ d E : Nat, (frontR s).2.1 = (d : Int) ∧ d < E ∧ E ≤ s.size ∧ E = d + spanN feedB (bytesFrom s d) ∧ 1 ≤ (frontR s).2.2 ∧ (frontR s).2.2 ≤ 4 ∧
    ∀ U : ByteArray, ∀ t : List UInt8, U.data.toList = s.data.toList.take E ++ 10 :: t → frontR U = frontR s := by
  obtain ⟨hs, hf, _⟩ := scan_fault h
  have e0 := front_list s
  rw [e0] at hf
  obtain ⟨d, e1, _, e3, e4, e5, e6⟩ := rest_at hf
  rw [← e0] at e5 e6 e1
  have e4' : stopH (bytesFrom s d) = false := e4
  have hp := feed_pos e4'
  have hle := spanN_le feedB (bytesFrom s d)
  rw [from_len] at hle
  have hz : s.data.toList.length = s.size := by simp
  refine ⟨d, d + spanN feedB (bytesFrom s d), by rw [e1, Nat.zero_add], by omega, by omega, rfl, e5, e6, fun U t hU => ?_⟩
  obtain ⟨E, hE⟩ : ∃ E, E = d + spanN feedB (bytesFrom s d) := ⟨_, rfl⟩
  rw [← hE] at hU
  have hX : stopH (s.data.toList.drop E) = true := by
    have k := feed_stop (bytesFrom s d)
    rw [from_drop, ← hE] at k
    exact k
  have key := faults_rest (X := s.data.toList.drop E) (Y := 10 :: t) hX rfl (s.data.toList.take E).length 0 (s.data.toList.take E) (Nat.le_refl _)
    (by rw [List.take_append_drop]; exact hf) (by
      rw [List.take_append_drop, ← e0, e1, Nat.zero_add, Nat.zero_add]
      simp only [List.length_take]
      omega)
  rw [List.take_append_drop, ← hU, ← front_list, ← front_list] at key
  exact key
theorem join_list (s t : ByteArray) (E : Nat) : (s.extract 0 E ++ ⟨#[10]⟩ ++ t).data.toList = s.data.toList.take E ++ 10 :: t.data.toList := by
  rw [ByteArray.data_append, ByteArray.data_append, Array.toList_append, Array.toList_append, Lib.extract_data, List.append_assoc, List.drop_zero, Nat.sub_zero]
  rfl
theorem feed_next {s : ByteArray} {j E : Nat} (hj : j < s.size) (h : j + spanN feedB (bytesFrom s j) = E) (hlt : j < E) : (PlainAid.bt s j == 10) = false ∧ j + 1 + spanN feedB (bytesFrom s (j + 1)) = E := by
  rw [from_at s j hj] at h
  simp only [spanN] at h
  split at h
  · rename_i hc
    refine ⟨?_, by omega⟩
    rw [← PlainAid.get_bt s j hj]
    unfold feedB at hc
    exact int_f (of_decide_eq_true hc)
  · omega
theorem feed_last {s : ByteArray} {E : Nat} (hE : E ≤ s.size) (h : E + spanN feedB (bytesFrom s E) = E) : s.size ≤ E ∨ E < s.size ∧ (PlainAid.bt s E == 10) = true := by
  by_cases hj : E < s.size
  · right
    refine ⟨hj, ?_⟩
    rw [from_at s E hj] at h
    simp only [spanN] at h
    split at h
    · omega
    · rename_i hc
      rw [← PlainAid.get_bt s E hj]
      unfold feedB at hc
      refine int_t ?_
      by_cases e : ((s[E]'hj).toNat : Int) = 10
      · exact e
      · exact absurd (decide_eq_true e) hc
  · left; omega
theorem act_name {F : Fence} {n : Nat} {P : Program} {c : Code} {Q : Exit → Act → World → Prop} {a : Act} {w : World} (h : ∀ A, A = a → c.wpIn F n P Q A w) : c.wpIn F n P Q a w := h a rfl
/-- No fault: nothing is asked. -/
theorem faults_early (s t : ByteArray) (w : World) (T : LTabs w) (h : ¬ (scanX s).2.1 = 20) :
    Calls Tryd.prog 11 #[.string s, .string t] w fun e w' => e = .returned (.bool true) ∧ LInv w w' := by
  have HB := Lib.hid (begins_i (LInv.start T))
  have HA : Hid (∀ W, LInv w W → Calls Tryd.prog 22 #[.string s] W fun e w' => ∃ u, e = .returned (.tuple #[u, .int .i64 (scanX s).2.1, .agg #[.int .i64 (scanX s).2.2.1, .int .i64 (scanX s).2.2.2]]) ∧ Below W.heap.size W w') := fun W I => by
    refine (scan_row s I).mono ?_
    rintro e w' ⟨u, rfl, h1, h2, hb⟩
    exact ⟨u, rfl, hb⟩
  have hcase := scan_errs s
  obtain ⟨X, hX⟩ : ∃ X, Hid (X = scanX s) := ⟨_, rfl⟩
  rw [← hX.out] at HA h hcase
  obtain ⟨xs, er, fa, fr⟩ := X
  simp only at HA h hcase
  clear T
  rcases hcase with rfl | rfl | rfl
  · go_enter Tryd.func11, Tryd.ntmps11
    go_wp2_with (first
      | (go_at_call 21; refine (HB.out).mono ?_; rintro e w1 ⟨rfl, hI⟩; have HI := Lib.hid hI; clear hI)
      | (go_at_call 22; refine (HA.out _ HI.out).mono ?_; rintro e w2 ⟨u, rfl, hb⟩; have HJ := Lib.hid ((HI.out.next hb).next ((Below.refl _ w2).alloc (Nat.le_refl _) (.cells #[.int .i64 fa, .int .i64 fr] 27))); clear hb))
    go_ret
    exact ⟨rfl, HJ.out⟩
  · go_enter Tryd.func11, Tryd.ntmps11
    go_wp2_with (first
      | (go_at_call 21; refine (HB.out).mono ?_; rintro e w1 ⟨rfl, hI⟩; have HI := Lib.hid hI; clear hI)
      | (go_at_call 22; refine (HA.out _ HI.out).mono ?_; rintro e w2 ⟨u, rfl, hb⟩; have HJ := Lib.hid ((HI.out.next hb).next ((Below.refl _ w2).alloc (Nat.le_refl _) (.cells #[.int .i64 fa, .int .i64 fr] 27))); clear hb))
    go_ret
    exact ⟨rfl, HJ.out⟩
  · exact absurd rfl h
set_option maxHeartbeats 4000000 in
/-- The two texts together are too long: nothing is asked. -/
theorem faults_long (s t : ByteArray) (ht : t.size ≤ reachBytes) (w : World) (T : LTabs w) (h : (scanX s).2.1 = 20) (d E : Nat) (hd : (frontR s).2.1 = (d : Int)) (hdE : d < E) (hE : E ≤ s.size) (hE2 : E = d + spanN feedB (bytesFrom s d)) (h1 : 1 ≤ (frontR s).2.2) (h4 : (frontR s).2.2 ≤ 4)
    (hl : 65536 < E + 1 + t.size) :
    Calls Tryd.prog 11 #[.string s, .string t] w fun e w' => e = .returned (.bool true) ∧ LInv w w' := by
  obtain ⟨hs, _, hX⟩ := scan_fault h
  have HB := Lib.hid (begins_i (LInv.start T))
  have htr : t.size ≤ 140737488351232 := Nat.le_trans ht (by decide)
  have HA : Hid (∀ W, LInv w W → Calls Tryd.prog 22 #[.string s] W fun e w' => e = .returned (.tuple #[.slice none 0 0, .int .i64 20, .agg #[.int .i64 d, .int .i64 (frontR s).2.2]]) ∧ Below W.heap.size W w') := fun W I => by
    have k := scan_row s I
    rw [hX, hd] at k
    refine k.mono ?_
    rintro e w' ⟨u, rfl, h1, h2, hb⟩
    rw [h2.2 rfl]
    exact ⟨rfl, hb⟩
  generalize (frontR s).2.2 = fr at HA h1 h4
  have hbs := PlainAid.get_bt s
  have HE := Lib.hid hE2
  have hl' : (65536 : Int) < (E : Int) + 1 + (t.size : Int) := by omega
  have n0 : decide ((d : Int) < 0) = false := by simp
  have n1 : decide (s.size ≤ d) = false := by simp; omega
  have n2 : decide (fr < 1) = false := by simp; omega
  have n3 : decide (4 < fr) = false := by simp; omega
  clear T h hX hE2 hd ht
  go_enter Tryd.func11, Tryd.ntmps11
  go_wp2_with (first
    | (go_at_call 21; refine (HB.out).mono ?_; rintro e w1 ⟨rfl, hI⟩; have HI := Lib.hid hI; clear hI)
    | (go_at_call 22; refine (HA.out _ HI.out).mono ?_; rintro e w2 ⟨rfl, hb⟩; have HJ := Lib.hid ((HI.out.next hb).next ((Below.refl _ w2).alloc (Nat.le_refl _) (.cells #[.int .i64 d, .int .i64 fr] 27))); clear hb))
  go_loopw [8] (fun i wr => wr = w2.alloc (.cells #[.int .i64 d, .int .i64 fr] 27) ∧ ∃ j : Nat, d ≤ j ∧ j ≤ E ∧ i = .int .i64 j ∧ Hid (j + spanN feedB (bytesFrom s j) = E)) (fun i _ => E - (intOf i).toNat)
  case atStart => exact ⟨rfl, d, Nat.le_refl _, Nat.le_of_lt hdE, rfl, HE.out.symm⟩
  case round =>
    obtain ⟨rfl, j, hdj, hjE, rfl, hj⟩ := hrel
    by_cases hlt : j < E
    · have hjs : j < s.size := by omega
      have hjs' : (j : Int) < (s.size : Int) := by omega
      obtain ⟨h10, hj2⟩ := feed_next hjs hj.out hlt
      have HJ2 := Lib.hid hj2
      clear hj hj2
      go_wp2_with fail
      go_roundw
      case rel => exact ⟨by trivial, j + 1, by omega, by omega, by go_num, HJ2.out⟩
      case measure => simp [intOf]; omega
    · obtain rfl : j = E := by omega
      rcases feed_last hE hj.out with hjs | ⟨hjs, h10⟩
      · have hjs' : ¬ (j : Int) < (s.size : Int) := by omega
        clear hj HE hbs
        go_wp2_with fail
        go_ret
        exact ⟨rfl, HJ.out⟩
      · have hjs' : (j : Int) < (s.size : Int) := by omega
        clear hj HE
        go_wp2_with fail
        go_ret
        exact ⟨rfl, HJ.out⟩
end Go.Proofs.YteedpojchapjgaaDoor

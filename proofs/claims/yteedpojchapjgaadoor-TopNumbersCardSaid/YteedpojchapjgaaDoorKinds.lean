/- The lexer: is a text a name, is it a sign. -/
import Derived.Test.YteedpojchapjgaaDoorFronts
namespace Go.Proofs.YteedpojchapjgaaDoor
open Go.RowKit
set_option linter.unusedVariables false

theorem nat_beq (n m : Nat) : ((n : Int) == (m : Int)) = decide (n = m) := by
  by_cases h : n = m
  · subst h; simp
  · rw [decide_eq_false h]; exact int_f (by omega)
theorem empty_of {s : ByteArray} (h : ¬ 0 < s.size) : s = ⟨#[]⟩ := by
  cases s with
  | mk d =>
    have h1 : (ByteArray.mk d).size = 0 := by omega
    have h2 : d.size = 0 := h1
    simp at h2; rw [h2]
theorem nonempty_facts {s : ByteArray} (h0 : 0 < s.size) : s.toList.isEmpty = false ∧ ¬ s.toList = [] := by
  have hfr : s.data.toList = s[0] :: bytesFrom s 1 := from_at s 0 h0
  exact ⟨by rw [Lib.toList_data, hfr]; rfl, by rw [Lib.toList_data, hfr]; simp⟩
/-- Is it a name? -/
def nameB (s : ByteArray) : Bool := decide (0 < s.size) && (decide (s.size ≤ 32) && (!digitB (PlainAid.bt s 0) && (!wordB s && decide (spanN namedB s.data.toList = s.size))))
/-- Is it a sign? -/
def isSignB (s : ByteArray) : Bool := decide (0 < s.size) && decide (aheadN s.data.toList = s.size)
theorem isname_any (s : ByteArray) (w : World) (T : LTabs w) : Calls Tryd.prog 15 #[.string s] w fun e w' => e = .returned (.bool (nameB s)) ∧ w = w' := by
  by_cases h0 : 0 < s.size
  · obtain ⟨hne, hne2⟩ := nonempty_facts h0
    by_cases h32 : (32 : Int) < (s.size : Int)
    · have hR : Hid (nameB s = false) := by
        unfold nameB
        rw [Hid, decide_eq_true h0, decide_eq_false (p := s.size ≤ 32) (by omega)]; rfl
      rw [hR.out]
      go_enter Tryd.func15, Tryd.ntmps15
      go_wp2
      go_ret
      exact ⟨rfl, rfl⟩
    · have hs32 : s.size ≤ 32 := by omega
      have hx0 := PlainAid.bt_nonneg s 0
      have hx1 := PlainAid.bt_le s 0
      obtain ⟨c, hc⟩ : ∃ c, Hid (c = PlainAid.bt s 0) := ⟨_, rfl⟩
      rw [← hc.out] at hx0 hx1
      have hbt0 : ∀ h : 0 < s.size, ((s[0]'h).toNat : Int) = c := fun h => by rw [hc.out]; exact PlainAid.get_bt s 0 h
      obtain ⟨q1, hq1⟩ : ∃ q, Hid (q = digitB c) := ⟨_, rfl⟩
      obtain ⟨q2, hq2⟩ : ∃ q, Hid (q = wordB s) := ⟨_, rfl⟩
      obtain ⟨n, hn⟩ : ∃ n, Hid (n = spanN namedB s.data.toList) := ⟨_, rfl⟩
      have H1 : Hid (∀ W : World, Calls Tryd.prog 34 #[.int .u8 c] W fun e w' => e = .returned (.bool q1) ∧ W = w') := fun W => by
        rw [hq1.out]; exact digit_any c hx0 hx1 W
      have H2 : Hid (Calls Tryd.prog 17 #[.string s] w fun e w' => e = .returned (.bool q2) ∧ w = w') := by
        rw [hq2.out]; exact word_any s w T
      have H3 : Hid (∀ W : World, Calls Tryd.prog 35 #[.string s, .func (.func 36) #[] #[]] W fun e w' => e = .returned (.int .i64 n) ∧ W = w') := fun W => by
        rw [hn.out]; exact span_named s (by omega) W
      have hR : Hid (nameB s = (!q1 && (!q2 && decide (n = s.size)))) := by
        rw [Hid, hq1.out, hq2.out, hn.out, hc.out]
        unfold nameB
        rw [decide_eq_true h0, decide_eq_true hs32]; rfl
      rw [hR.out]
      clear T
      go_enter Tryd.func15, Tryd.ntmps15
      go_wp2_with (first
        | (go_at_call 34; refine (H1.out _).mono ?_; rintro e w' ⟨rfl, rfl⟩)
        | (go_at_call 17; refine (H2.out).mono ?_; rintro e w' ⟨rfl, rfl⟩)
        | (go_at_call 35; refine (H3.out _).mono ?_; rintro e w' ⟨rfl, rfl⟩))
      · go_ret
        refine ⟨ret_bool ?_, rfl⟩
        simp [*]
      · go_ret
        refine ⟨ret_bool ?_, rfl⟩
        simp [*]
      · go_ret
        refine ⟨ret_bool ?_, rfl⟩
        rw [nat_beq]
        simp [*]
  · obtain rfl := empty_of h0
    have hR : Hid (nameB ⟨#[]⟩ = false) := rfl
    rw [hR.out]
    clear h0
    go_enter Tryd.func15, Tryd.ntmps15
    go_wp2
    go_ret
    exact ⟨rfl, rfl⟩
theorem issign_any (s : ByteArray) (w : World) (T : LTabs w) : Calls Tryd.prog 19 #[.string s] w fun e w' => e = .returned (.bool (isSignB s)) ∧ w = w' := by
  by_cases h0 : 0 < s.size
  · obtain ⟨hne, hne2⟩ := nonempty_facts h0
    obtain ⟨n, hn⟩ : ∃ n, Hid (n = aheadN s.data.toList) := ⟨_, rfl⟩
    have H1 : Hid (Calls Tryd.prog 39 #[.string s] w fun e w' => e = .returned (.int .i64 n) ∧ w = w') := by
      rw [hn.out]; exact ahead_any s w T
    have hR : Hid (isSignB s = decide (n = s.size)) := by
      rw [Hid, hn.out]; unfold isSignB
      rw [decide_eq_true h0]; rfl
    rw [hR.out]
    clear T
    go_enter Tryd.func19, Tryd.ntmps19
    go_wp2_with (go_at_call 39; refine (H1.out).mono ?_; rintro e w' ⟨rfl, rfl⟩)
    go_ret
    refine ⟨ret_bool ?_, rfl⟩
    rw [nat_beq]
  · obtain rfl := empty_of h0
    have hR : Hid (isSignB ⟨#[]⟩ = false) := rfl
    rw [hR.out]
    clear h0
    go_enter Tryd.func19, Tryd.ntmps19
    go_wp2
    go_ret
    exact ⟨rfl, rfl⟩
end Go.Proofs.YteedpojchapjgaaDoor

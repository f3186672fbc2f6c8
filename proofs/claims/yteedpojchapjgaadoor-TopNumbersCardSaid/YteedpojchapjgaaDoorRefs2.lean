/- The lexer's reference: letters, digits, blanks; names. -/
import Derived.Test.YteedpojchapjgaaDoorRefs
namespace Go.Proofs.YteedpojchapjgaaDoor
open Go.RowKit
set_option linter.unusedVariables false

theorem rletter_any (c : Int) (h0 : 0 ≤ c) (h1 : c ≤ 255) (w : World) : Calls Tryd.prog 38 #[.int .u8 c] w fun e w' => e = .returned (.bool (letterB c)) ∧ w = w' := by
  by_cases h : 97 ≤ c ∧ c ≤ 122
  · have e : letterB c = true := b_t (by omega)
    rw [e]
    clear e
    obtain ⟨k0, k1⟩ := h
    go_enter Tryd.func38, Tryd.ntmps38
    go_wp2
    go_ret
    exact ⟨rfl, rfl⟩
  by_cases h : 65 ≤ c ∧ c ≤ 90
  · have e : letterB c = true := b_t (by omega)
    rw [e]
    clear e
    obtain ⟨k0, k1⟩ := h
    go_enter Tryd.func38, Tryd.ntmps38
    go_wp2
    go_ret
    exact ⟨rfl, rfl⟩
  by_cases h : c = 95
  · have e : letterB c = true := b_t (by omega)
    rw [e]
    clear e
    subst h
    go_enter Tryd.func38, Tryd.ntmps38
    go_wp2
    go_ret
    exact ⟨rfl, rfl⟩
  by_cases h : c < 65
  · have e : letterB c = false := b_f (by omega)
    rw [e]
    clear e
    have q : (c == 95) = false := int_f (by omega)
    go_enter Tryd.func38, Tryd.ntmps38
    go_wp2
    go_ret
    exact ⟨rfl, rfl⟩
  by_cases h : 90 < c ∧ c < 95
  · have e : letterB c = false := b_f (by omega)
    rw [e]
    clear e
    have q : (c == 95) = false := int_f (by omega)
    have d90 : decide (c ≤ 90) = false := b_f (by omega)
    go_enter Tryd.func38, Tryd.ntmps38
    go_wp2
    go_ret
    exact ⟨rfl, rfl⟩
  by_cases h : c = 96
  · have e : letterB c = false := b_f (by omega)
    rw [e]
    clear e
    subst h
    go_enter Tryd.func38, Tryd.ntmps38
    go_wp2
    go_ret
    exact ⟨rfl, rfl⟩
  · have h' : 122 < c := by omega
    have e : letterB c = false := b_f (by omega)
    have q : (c == 95) = false := int_f (by omega)
    have d90 : decide (c ≤ 90) = false := b_f (by omega)
    have d122 : decide (c ≤ 122) = false := b_f (by omega)
    rw [e]
    clear e
    go_enter Tryd.func38, Tryd.ntmps38
    go_wp2
    go_ret
    exact ⟨rfl, rfl⟩

theorem rdigit_any (c : Int) (h0 : 0 ≤ c) (h1 : c ≤ 255) (w : World) : Calls Tryd.prog 37 #[.int .u8 c] w fun e w' => e = .returned (.bool (digitB c)) ∧ w = w' := by
  by_cases k0 : c < 48
  · have e : digitB c = false := b_f (by omega)
    rw [e]
    clear e
    go_enter Tryd.func37, Tryd.ntmps37
    go_wp2
    go_ret
    exact ⟨rfl, rfl⟩
  · by_cases k1 : 57 < c
    · have e : digitB c = false := b_f (by omega)
      have hd : decide (c ≤ 57) = false := b_f (by omega)
      rw [e]
      clear e
      go_enter Tryd.func37, Tryd.ntmps37
      go_wp2
      go_ret
      exact ⟨rfl, rfl⟩
    · have e : digitB c = true := b_t (by omega)
      rw [e]
      clear e
      go_enter Tryd.func37, Tryd.ntmps37
      go_wp2
      go_ret
      exact ⟨rfl, rfl⟩

theorem rblank_any (c : Int) (h0 : 0 ≤ c) (h1 : c ≤ 255) (w : World) : Calls Tryd.prog 61 #[.int .u8 c] w fun e w' => e = .returned (.bool (blankB c)) ∧ w = w' := by
  by_cases k32 : c = 32
  · subst k32
    have e : blankB 32 = true := b_t (by omega)
    rw [e]
    clear e
    go_enter Tryd.func61, Tryd.ntmps61
    go_wp2
    go_ret
    exact ⟨rfl, rfl⟩
  by_cases k9 : c = 9
  · subst k9
    have e : blankB 9 = true := b_t (by omega)
    rw [e]
    clear e
    go_enter Tryd.func61, Tryd.ntmps61
    go_wp2
    go_ret
    exact ⟨rfl, rfl⟩
  by_cases k10 : c = 10
  · subst k10
    have e : blankB 10 = true := b_t (by omega)
    rw [e]
    clear e
    go_enter Tryd.func61, Tryd.ntmps61
    go_wp2
    go_ret
    exact ⟨rfl, rfl⟩
  by_cases k13 : c = 13
  · subst k13
    have e : blankB 13 = true := b_t (by omega)
    rw [e]
    clear e
    go_enter Tryd.func61, Tryd.ntmps61
    go_wp2
    go_ret
    exact ⟨rfl, rfl⟩
  · have e : blankB c = false := b_f (by omega)
    have q1 := int_f k32
    have q2 := int_f k9
    have q3 := int_f k10
    have q4 := int_f k13
    rw [e]
    clear e k32 k9 k10 k13
    go_enter Tryd.func61, Tryd.ntmps61
    go_wp2
    go_ret
    exact ⟨rfl, rfl⟩

theorem rname_any (s : ByteArray) (hs : s.size ≤ 4611686018427387904) (w : World) : Calls Tryd.prog 16 #[.string s] w fun e w' => e = .returned (.bool (nameB s)) ∧ w = w' := by
  by_cases h0 : 0 < s.size
  · by_cases h32 : (32 : Int) < (s.size : Int)
    · have hR : Hid (nameB s = false) := by
        unfold nameB
        rw [Hid, decide_eq_true h0, decide_eq_false (p := s.size ≤ 32) (by omega)]; rfl
      have h1 : ¬ (s.size : Int) < 1 := by omega
      rw [hR.out]
      go_enter Tryd.func16, Tryd.ntmps16
      go_wp2
      go_ret
      exact ⟨rfl, rfl⟩
    · have hs32 : s.size ≤ 32 := by omega
      have h1 : ¬ (s.size : Int) < 1 := by omega
      have hx0 := PlainAid.bt_nonneg s 0
      have hx1 := PlainAid.bt_le s 0
      obtain ⟨c, hc⟩ : ∃ c, Hid (c = PlainAid.bt s 0) := ⟨_, rfl⟩
      rw [← hc.out] at hx0 hx1
      have hbt0 : ∀ h : 0 < s.size, ((s[0]'h).toNat : Int) = c := fun h => by rw [hc.out]; exact PlainAid.get_bt s 0 h
      obtain ⟨q1, hq1⟩ : ∃ q, Hid (q = digitB c) := ⟨_, rfl⟩
      obtain ⟨q2, hq2⟩ : ∃ q, Hid (q = wordB s) := ⟨_, rfl⟩
      obtain ⟨q3, hq3⟩ : ∃ q, Hid (q = decide (spanN namedB s.data.toList = s.size)) := ⟨_, rfl⟩
      have H1 : Hid (∀ W : World, Calls Tryd.prog 37 #[.int .u8 c] W fun e w' => e = .returned (.bool q1) ∧ W = w') := fun W => by
        rw [hq1.out]; exact rdigit_any c hx0 hx1 W
      have H2 : Hid (Calls Tryd.prog 18 #[.string s] w fun e w' => e = .returned (.bool q2) ∧ w = w') := by
        rw [hq2.out]; exact rword_any s w
      have hR : Hid (nameB s = (!q1 && (!q2 && q3))) := by
        rw [Hid, hq1.out, hq2.out, hq3.out, hc.out]
        unfold nameB
        rw [decide_eq_true h0, decide_eq_true hs32]; rfl
      rw [hR.out]
      go_enter Tryd.func16, Tryd.ntmps16
      go_wp2_with (first
        | (go_at_call 37; refine (H1.out _).mono ?_; rintro e w' ⟨rfl, rfl⟩)
        | (go_at_call 18; refine (H2.out).mono ?_; rintro e w' ⟨rfl, rfl⟩))
      · go_ret
        refine ⟨ret_bool ?_, rfl⟩
        simp [*]
      · go_ret
        refine ⟨ret_bool ?_, rfl⟩
        simp [*]
      · obtain rfl : q1 = false := by first | assumption | exact Bool.eq_false_iff.2 (by assumption)
        obtain rfl : q2 = false := by first | assumption | exact Bool.eq_false_iff.2 (by assumption)
        have hfin : Hid ((!false && (!false && q3)) = q3) := rfl
        clear H1 H2 hR hq1 hq2
        go_loopw [2, 3] (fun _ i wr => w = wr ∧ ∃ k : Nat, k ≤ s.size ∧ i = .int .i64 k ∧ Hid (decide (spanN namedB (bytesFrom s k) + k = s.size) = q3)) (fun _ i _ => s.size - (intOf i).toNat)
        case atStart => exact ⟨rfl, 0, Nat.zero_le _, rfl, hq3.out.symm⟩
        case round =>
          obtain ⟨rfl, k, hk, rfl, hp⟩ := hrel
          by_cases hlt : k < s.size
          · have hy0 := PlainAid.bt_nonneg s k
            have hy1 := PlainAid.bt_le s k
            have hu : ((s[k]).toNat : Int) = PlainAid.bt s k := PlainAid.get_bt s k hlt
            have hfr := from_at s k hlt
            obtain ⟨d, hd⟩ : ∃ c, c = PlainAid.bt s k := ⟨_, rfl⟩
            have hbt : ∀ h : k < s.size, ((s[k]'h).toNat : Int) = d := fun h => by rw [hd]; exact PlainAid.get_bt s k h
            rw [← hd] at hu hy0 hy1
            clear hd
            have K1 := Lib.hid (fun w => rletter_any d hy0 hy1 w)
            have K2 := Lib.hid (fun w => rdigit_any d hy0 hy1 w)
            obtain ⟨a, ha⟩ : ∃ a, a = letterB d := ⟨_, rfl⟩
            obtain ⟨b, hb⟩ : ∃ b, b = digitB d := ⟨_, rfl⟩
            have e : namedB d = (a || b) := by rw [ha, hb]; rfl
            rw [← ha] at K1
            rw [← hb] at K2
            clear ha hb
            by_cases hpc : (a || b) = true
            · have hn : Hid (decide (spanN namedB (bytesFrom s (k + 1)) + (k + 1) = s.size) = q3) := by
                have hsp : spanN namedB (bytesFrom s k) = spanN namedB (bytesFrom s (k + 1)) + 1 := by rw [hfr]; simp only [spanN]; rw [hu, e, if_pos hpc]
                rw [Hid, ← hp.out, hsp]; congr 1; apply propext; constructor <;> intro h <;> omega
              clear hfr hu hp e
              cases a
              · obtain rfl : b = true := by simpa using hpc
                clear hpc
                go_wp2_with (first
                  | (go_at_call 38; refine (K1.out _).mono ?_; rintro e w' ⟨rfl, rfl⟩)
                  | (go_at_call 37; refine (K2.out _).mono ?_; rintro e w' ⟨rfl, rfl⟩))
                go_roundw
                case rel => exact ⟨by trivial, k + 1, by omega, by go_num, hn⟩
                case measure => simp [intOf]; omega
              · clear hpc
                go_wp2_with (first
                  | (go_at_call 38; refine (K1.out _).mono ?_; rintro e w' ⟨rfl, rfl⟩)
                  | (go_at_call 37; refine (K2.out _).mono ?_; rintro e w' ⟨rfl, rfl⟩))
                go_roundw
                case rel => exact ⟨by trivial, k + 1, by omega, by go_num, hn⟩
                case measure => simp [intOf]; omega
            · have hn : Hid (false = q3) := by
                have hsp : spanN namedB (bytesFrom s k) = 0 := by rw [hfr]; simp only [spanN]; rw [hu, e, if_neg hpc]
                rw [Hid, ← hp.out, hsp]; simp; omega
              obtain ⟨rfl, rfl⟩ : a = false ∧ b = false := by simpa using hpc
              clear hfr hu hp e hpc
              go_wp2_with (first
                | (go_at_call 38; refine (K1.out _).mono ?_; rintro e w' ⟨rfl, rfl⟩)
                | (go_at_call 37; refine (K2.out _).mono ?_; rintro e w' ⟨rfl, rfl⟩))
              go_ret
              refine ⟨ret_bool ?_, rfl⟩
              first | (rw [hfin.out, ← hn.out]) | exact hn.out
          · have hn : Hid (true = q3) := by
              have hsp : spanN namedB (bytesFrom s k) = 0 := by rw [from_end s k (by omega)]; rfl
              rw [Hid, ← hp.out, hsp]; simp; omega
            clear hp
            go_wp2_with fail
            go_ret
            refine ⟨ret_bool ?_, rfl⟩
            first | (rw [hfin.out, ← hn.out]) | exact hn.out
  · obtain rfl := empty_of h0
    have hR : Hid (nameB ⟨#[]⟩ = false) := rfl
    rw [hR.out]
    clear h0
    go_enter Tryd.func16, Tryd.ntmps16
    go_wp2
    go_ret
    exact ⟨rfl, rfl⟩
end Go.Proofs.YteedpojchapjgaaDoor

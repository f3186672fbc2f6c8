/- The lexer's reference: what digits say. -/
import Derived.Test.YteedpojchapjgaaDoorSkip
namespace Go.Proofs.YteedpojchapjgaaDoor
open Go.RowKit
set_option linter.unusedVariables false

theorem rnumber_none (w : World) : Calls Tryd.prog 62 #[.string ⟨#[]⟩] w fun e w' => e = .returned (ValueV none) ∧ w = w' := by
  go_enter Tryd.func62, Tryd.ntmps62
  go_wp2
  go_ret2
  exact ⟨rfl, rfl⟩
theorem rnumber_nought (s : ByteArray) (w : World) (h0 : 1 < s.size) (h48 : PlainAid.bt s 0 = 48) : Calls Tryd.prog 62 #[.string s] w fun e w' => e = .returned (ValueV none) ∧ w = w' := by
  have hbt0 : ∀ h : 0 < s.size, ((s[0]'h).toNat : Int) = 48 := fun h => by rw [← h48]; exact PlainAid.get_bt s 0 h
  have hne : s.toList.isEmpty = false := (nonempty_facts (by omega)).1
  clear h48
  go_enter Tryd.func62, Tryd.ntmps62
  go_wp2
  go_ret2
  exact ⟨rfl, rfl⟩
set_option maxRecDepth 100000 in
set_option maxHeartbeats 2000000 in
theorem rnumber_loop (s : ByteArray) (w : World) (hs : s.size ≤ 4611686018427387904) (h0 : 0 < s.size) (hq : s.size ≤ 1 ∨ ¬ PlainAid.bt s 0 = 48) : Calls Tryd.prog 62 #[.string s] w fun e w' => e = .returned (ValueV (digitsV s.data.toList 0)) ∧ w = w' := by
  obtain ⟨R, hR⟩ : ∃ R, R = digitsV s.data.toList 0 := ⟨_, rfl⟩
  rw [← hR]
  have HR := Lib.hid hR
  clear hR
  have hbs := PlainAid.get_bt s
  have hne : s.toList.isEmpty = false := (nonempty_facts h0).1
  have key : ∀ K : Prop, (s.size ≤ 1 → (PlainAid.bt s 0 == 48) = true → K) → ((PlainAid.bt s 0 == 48) = false → K) → K := fun K a b => by
    by_cases h1 : PlainAid.bt s 0 = 48
    · exact a (hq.elim id (fun h => absurd h1 h)) (int_t h1)
    · exact b (int_f h1)
  clear hq
  apply key
  all_goals
    clear key
    intros
    go_enter Tryd.func62, Tryd.ntmps62
    go_wp2_with fail
    go_loopw [2, 3, 4, 5, 6] (fun _ _ v i _ wr => w = wr ∧ ∃ (k : Nat) (z : Int), k ≤ s.size ∧ i = .int .i64 k ∧ v = .int .u64 z ∧ 0 ≤ z ∧ z ≤ 9223372036854775807 ∧ Hid (digitsV (bytesFrom s k) z = R)) (fun _ _ _ i _ _ => s.size - (intOf i).toNat)
    case atStart => exact ⟨rfl, 0, 0, Nat.zero_le _, rfl, rfl, by decide, by decide, HR.out.symm⟩
    case round =>
      obtain ⟨rfl, k, z, hk, rfl, rfl, hz0, hz1, hp⟩ := hrel
      by_cases hlt : k < s.size
      · have hx0 := PlainAid.bt_nonneg s k
        have hx1 := PlainAid.bt_le s k
        have hu : ((s[k]).toNat : Int) = PlainAid.bt s k := PlainAid.get_bt s k hlt
        have hfr := from_at s k hlt
        obtain ⟨c, hc⟩ : ∃ c, c = PlainAid.bt s k := ⟨_, rfl⟩
        have hbt : ∀ h : k < s.size, ((s[k]'h).toNat : Int) = c := fun h => by rw [hc]; exact PlainAid.get_bt s k h
        rw [← hc] at hu hx0 hx1
        clear hc hbs
        have H := Lib.hid (fun w => rdigit_any c hx0 hx1 w)
        have hlt' : (k : Int) < (s.size : Int) := by omega
        by_cases hd : digitB c = true
        · have hcb := digitB_bd hd
          by_cases hov : (9223372036854775807 - (c - 48)) / 10 < z
          · have hn : Hid (R = none) := by rw [Hid, ← hp.out, hfr, digitsV_no hu (.inr hov)]
            rw [hd] at H
            clear hfr hu hp hd
            go_wp2_with (go_at_call 37; refine (H.out _).mono ?_; rintro e w' ⟨rfl, rfl⟩)
            go_ret2
            rw [hn.out]
            exact ⟨rfl, rfl⟩
          · have hn : Hid (digitsV (bytesFrom s (k + 1)) (z * 10 + (c - 48)) = R) := by rw [Hid, ← hp.out, hfr, digitsV_yes hu hd hov]
            have hb1 : z * 10 + (c - 48) ≤ 9223372036854775807 ∧ 0 ≤ z * 10 + (c - 48) := by omega
            have hcm : 10 * z = z * 10 := Int.mul_comm _ _
            rw [hd] at H
            clear hfr hu hp hd
            go_wp2_with (go_at_call 37; refine (H.out _).mono ?_; rintro e w' ⟨rfl, rfl⟩)
            go_roundw
            case rel => exact ⟨by trivial, k + 1, z * 10 + (c - 48), by omega, by go_num, by go_num, by omega, by omega, hn⟩
            case measure => simp [intOf]; omega
        · have hdf : digitB c = false := by simpa using hd
          have hn : Hid (R = none) := by rw [Hid, ← hp.out, hfr, digitsV_no hu (.inl hdf)]
          rw [hdf] at H
          clear hfr hu hp hd hdf
          go_wp2_with (go_at_call 37; refine (H.out _).mono ?_; rintro e w' ⟨rfl, rfl⟩)
          go_ret2
          rw [hn.out]
          exact ⟨rfl, rfl⟩
      · have hlt' : ¬ (k : Int) < (s.size : Int) := by omega
        have hn : Hid (R = some z) := by
          rw [Hid, ← hp.out, from_end s k (by omega)]; rfl
        clear hp
        go_wp2_with fail
        go_ret2
        rw [hn.out]
        exact ⟨rfl, rfl⟩
theorem rnumber_any (s : ByteArray) (hs : s.size ≤ 4611686018427387904) (w : World) : Calls Tryd.prog 62 #[.string s] w fun e w' => e = .returned (ValueV (valueO s.data.toList)) ∧ w = w' := by
  by_cases h0 : 0 < s.size
  · have hfr : s.data.toList = s[0] :: bytesFrom s 1 := from_at s 0 h0
    have hu : ((s[0]).toNat : Int) = PlainAid.bt s 0 := PlainAid.get_bt s 0 h0
    have hl : (bytesFrom s 1 ≠ []) ↔ 1 < s.size := by
      have : (bytesFrom s 1).length = s.size - 1 := by unfold bytesFrom; simp
      constructor
      · intro h
        apply Nat.lt_of_not_le
        intro hx
        exact h (List.length_eq_zero_iff.1 (by omega))
      · intro h hx
        rw [hx] at this
        simp at this
        omega
    by_cases h : 1 < s.size ∧ PlainAid.bt s 0 = 48
    · have e : valueO s.data.toList = none := by
        rw [hfr]; unfold valueO
        simp only []
        rw [if_pos ⟨hu.trans h.2, hl.2 h.1⟩]
      rw [e]
      exact rnumber_nought s w h.1 h.2
    · have e : valueO s.data.toList = digitsV s.data.toList 0 := by
        rw [hfr]; unfold valueO
        simp only []
        rw [if_neg (fun hx => h ⟨hl.1 hx.2, hu.symm.trans hx.1⟩)]
      rw [e]
      exact rnumber_loop s w hs h0 (by
        by_cases h1 : s.size ≤ 1
        · exact .inl h1
        · exact .inr fun hx => h ⟨by omega, hx⟩)
  · obtain rfl := empty_of h0
    exact rnumber_none w
end Go.Proofs.YteedpojchapjgaaDoor

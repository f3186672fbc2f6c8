/- The lexer: what a number's digits say. -/
import Derived.Test.YteedpojchapjgaaDoorLeaf3
namespace Go.Proofs.YteedpojchapjgaaDoor
open Go.RowKit
set_option linter.unusedVariables false

/-- What digits say, w having been said. -/
def digitsV : List UInt8 → Int → Option Int
  | [], v => some v
  | c :: r, v => if digitB (c.toNat : Int) = false then none else if (9223372036854775807 - ((c.toNat : Int) - 48)) / 10 < v then none else digitsV r (v * 10 + ((c.toNat : Int) - 48))
def valueO (l : List UInt8) : Option Int := match l with
  | [] => none
  | c :: r => if (c.toNat : Int) = 48 ∧ r ≠ [] then none else digitsV (c :: r) 0
def ValueV (o : Option Int) : Value := .tuple #[.int .i64 (o.getD 0), .bool o.isSome]
theorem value_none (w : World) : Calls Tryd.prog 64 #[.string ⟨#[]⟩] w fun e w' => e = .returned (ValueV none) ∧ w = w' := by
  go_enter Tryd.func64, Tryd.ntmps64
  go_wp2
  go_ret2
  exact ⟨rfl, rfl⟩
theorem value_nought (s : ByteArray) (w : World) (h0 : 1 < s.size) (h48 : PlainAid.bt s 0 = 48) : Calls Tryd.prog 64 #[.string s] w fun e w' => e = .returned (ValueV none) ∧ w = w' := by
  have hbt0 : ∀ h : 0 < s.size, ((s[0]'h).toNat : Int) = 48 := fun h => by rw [← h48]; exact PlainAid.get_bt s 0 h
  have hne : s.toList.isEmpty = false := by
    rw [Lib.toList_data, show s.data.toList = s[0] :: bytesFrom s 1 from from_at s 0 (by omega)]; rfl
  clear h48
  go_enter Tryd.func64, Tryd.ntmps64
  go_wp2
  go_ret2
  exact ⟨rfl, rfl⟩
theorem digitsV_no {c : Int} {u : UInt8} {r : List UInt8} {v : Int} (hu : (u.toNat : Int) = c) (h : digitB c = false ∨ (9223372036854775807 - (c - 48)) / 10 < v) : digitsV (u :: r) v = none := by
  subst hu; simp only [digitsV]
  rcases h with h | h
  · rw [if_pos h]
  · by_cases h2 : digitB (u.toNat : Int) = false
    · rw [if_pos h2]
    · rw [if_neg h2, if_pos h]
theorem digitsV_yes {c : Int} {u : UInt8} {r : List UInt8} {v : Int} (hu : (u.toNat : Int) = c) (h : digitB c = true) (h2 : ¬ (9223372036854775807 - (c - 48)) / 10 < v) : digitsV (u :: r) v = digitsV r (v * 10 + (c - 48)) := by
  subst hu; simp only [digitsV]
  rw [if_neg (by rw [h]; decide), if_neg h2]
theorem digitB_bd {c : Int} (h : digitB c = true) : 48 ≤ c ∧ c ≤ 57 := by simpa [digitB] using h
set_option maxHeartbeats 1000000 in
theorem value_loop (s : ByteArray) (w : World) (hs : s.size ≤ 4611686018427387904) (h0 : 0 < s.size) (hq : s.size ≤ 1 ∨ ¬ PlainAid.bt s 0 = 48) : Calls Tryd.prog 64 #[.string s] w fun e w' => e = .returned (ValueV (digitsV s.data.toList 0)) ∧ w = w' := by
  obtain ⟨R, hR⟩ : ∃ R, R = digitsV s.data.toList 0 := ⟨_, rfl⟩
  rw [← hR]
  have HR := Lib.hid hR
  clear hR
  have hbs := PlainAid.get_bt s
  have hne : s.toList.isEmpty = false := by
    rw [Lib.toList_data, show s.data.toList = s[0] :: bytesFrom s 1 from from_at s 0 (by omega)]; rfl
  have key : ∀ K : Prop, (s.size ≤ 1 → K) → (1 < s.size → (PlainAid.bt s 0 == 48) = false → K) → K := fun K a b => by
    by_cases h1 : s.size ≤ 1
    · exact a h1
    · exact b (by omega) (int_f (by omega))
  clear hq
  apply key
  all_goals
    clear key
    intros
    go_enter Tryd.func64, Tryd.ntmps64
    go_wp2_with fail
    go_loop [4, 21] (fun v i => ∃ (k : Nat) (z : Int), k ≤ s.size ∧ i = .int .i64 k ∧ v = .int .i64 z ∧ 0 ≤ z ∧ z ≤ 9223372036854775807 ∧ Hid (digitsV (bytesFrom s k) z = R)) (fun _ i => s.size - (intOf i).toNat)
    case atStart => exact ⟨0, 0, Nat.zero_le _, rfl, rfl, by decide, by decide, HR.out.symm⟩
    case round =>
      obtain ⟨k, z, hk, rfl, rfl, hz0, hz1, hp⟩ := hrel
      by_cases hlt : k < s.size
      · have hx0 := PlainAid.bt_nonneg s k
        have hx1 := PlainAid.bt_le s k
        have hu : ((s[k]).toNat : Int) = PlainAid.bt s k := PlainAid.get_bt s k hlt
        have hfr := from_at s k hlt
        obtain ⟨c, hc⟩ : ∃ c, c = PlainAid.bt s k := ⟨_, rfl⟩
        have hbt : ∀ h : k < s.size, ((s[k]'h).toNat : Int) = c := fun h => by rw [hc]; exact PlainAid.get_bt s k h
        rw [← hc] at hu hx0 hx1
        clear hc hbs
        have H := Lib.hid (fun w => digit_any c hx0 hx1 w)
        by_cases hd : digitB c = true
        · have hcb := digitB_bd hd
          by_cases hov : (9223372036854775807 - (c - 48)) / 10 < z
          · have hn : Hid (R = none) := by rw [Hid, ← hp.out, hfr, digitsV_no hu (.inr hov)]
            rw [hd] at H
            clear hfr hu hp hd
            go_wp2_with (go_at_call 34; refine (H.out _).mono ?_; rintro e w' ⟨rfl, rfl⟩)
            go_ret2
            rw [hn.out]
            exact ⟨rfl, rfl⟩
          · have hn : Hid (digitsV (bytesFrom s (k + 1)) (z * 10 + (c - 48)) = R) := by rw [Hid, ← hp.out, hfr, digitsV_yes hu hd hov]
            have hb1 : z * 10 + (c - 48) ≤ 9223372036854775807 ∧ 0 ≤ z * 10 + (c - 48) := by omega
            rw [hd] at H
            clear hfr hu hp hd
            go_wp2_with (go_at_call 34; refine (H.out _).mono ?_; rintro e w' ⟨rfl, rfl⟩)
            go_round
            case rel => exact ⟨k + 1, z * 10 + (c - 48), by omega, by go_num, rfl, by omega, by omega, hn⟩
            case measure => simp [intOf]; omega
        · have hdf : digitB c = false := by simpa using hd
          have hn : Hid (R = none) := by rw [Hid, ← hp.out, hfr, digitsV_no hu (.inl hdf)]
          rw [hdf] at H
          clear hfr hu hp hd hdf
          go_wp2_with (go_at_call 34; refine (H.out _).mono ?_; rintro e w' ⟨rfl, rfl⟩)
          go_ret2
          rw [hn.out]
          exact ⟨rfl, rfl⟩
      · have hn : Hid (R = some z) := by
          rw [Hid, ← hp.out, from_end s k (by omega)]; rfl
        clear hp
        go_wp2_with fail
        go_ret2
        rw [hn.out]
        exact ⟨rfl, rfl⟩
/-- What a text's digits say, for every text. -/
theorem value_any (s : ByteArray) (hs : s.size ≤ 4611686018427387904) (w : World) : Calls Tryd.prog 64 #[.string s] w fun e w' => e = .returned (ValueV (valueO s.data.toList)) ∧ w = w' := by
  by_cases h0 : 0 < s.size
  · have hfr : s.data.toList = s[0] :: bytesFrom s 1 := from_at s 0 h0
    have hu : ((s[0]).toNat : Int) = PlainAid.bt s 0 := PlainAid.get_bt s 0 h0
    have hl : (bytesFrom s 1 ≠ []) ↔ 1 < s.size := by
      have : (bytesFrom s 1).length = s.size - 1 := by unfold bytesFrom; simp
      constructor
      · intro h
        apply Nat.lt_of_not_le
        intro hx
        exact h (List.length_eq_zero_iff.1 (by omega))
      · intro h hx
        rw [hx] at this
        simp at this
        omega
    by_cases h : 1 < s.size ∧ PlainAid.bt s 0 = 48
    · have e : valueO s.data.toList = none := by
        rw [hfr]; unfold valueO
        simp only []
        rw [if_pos ⟨hu.trans h.2, hl.2 h.1⟩]
      rw [e]
      exact value_nought s w h.1 h.2
    · have e : valueO s.data.toList = digitsV s.data.toList 0 := by
        rw [hfr]; unfold valueO
        simp only []
        rw [if_neg (fun hx => h ⟨hl.1 hx.2, hu.symm.trans hx.1⟩)]
      rw [e]
      exact value_loop s w hs h0 (by
        by_cases h1 : s.size ≤ 1
        · exact .inl h1
        · exact .inr fun hx => h ⟨by omega, hx⟩)
  · have h3 : s = ⟨#[]⟩ := by
      cases s with
      | mk d =>
        have h1 : (ByteArray.mk d).size = 0 := by omega
        have h2 : d.size = 0 := h1
        simp at h2; rw [h2]
    subst h3
    exact value_none w
theorem clone_any (s : ByteArray) (hs : s.size ≤ 281474976710656) (w : World) : Calls Tryd.prog 44 #[.string s] w fun e w' => e = .returned (.string s) ∧ Below w.heap.size w w' := by
  have H := Lib.hid (Go.Proofs.Tryd.stringslite_Clone s w hs)
  go_enter Tryd.func44, Tryd.ntmps44
  go_wp2_with (go_at_call 63; refine (H.out).mono ?_; rintro e w' ⟨rfl, hb⟩)
  go_ret
  exact ⟨rfl, hb⟩
end Go.Proofs.YteedpojchapjgaaDoor

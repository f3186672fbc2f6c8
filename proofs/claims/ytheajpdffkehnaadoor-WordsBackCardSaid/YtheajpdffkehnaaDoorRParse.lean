/- Words: what the document's own reading of a word comes to, for every text. -/
import Derived.Test.YtheajpdffkehnaaDoorInv
namespace Go.Proofs.YtheajpdffkehnaaDoor
open Go.RowKit
set_option linter.unusedVariables false

theorem int_f {a b : Int} (h : a ≠ b) : (a == b) = false := by simpa using h
theorem int_t {a b : Int} (h : a = b) : (a == b) = true := by simpa using h
/-- A text's bytes from a place on. -/
def bytesFrom (s : ByteArray) (n : Nat) : List UInt8 := s.data.toList.drop n
set_option maxHeartbeats 2000000 in
theorem rparse_plain (s : ByteArray) (w : World) (hs : s.size ≤ 4611686018427387904) (h0 : 0 < s.size) (h45 : ¬ PlainAid.bt s 0 = 45) :
    Calls Tryd.prog 26 #[.string s] w (ParsePost (told false (scanN false 9223372036854775807 (bytesFrom s 0) 0 0)) w) := by
  have h45b : (PlainAid.bt s 0 == 45) = false := by simpa using h45
  clear h45
  have hbt := PlainAid.get_bt s
  go_enter Tryd.func26, Tryd.ntmps26
  go_wp2_with fail
  go_loop [6, 8] (fun i n => ∃ (j : Nat) (sz : Int), 0 ≤ j ∧ j ≤ s.size ∧ i = .int .i64 j ∧ n = .int .u64 sz ∧ 0 ≤ sz ∧ sz ≤ 9223372036854775807 ∧ Hid (scanN false 9223372036854775807 (bytesFrom s j) sz ((j : Int) - 0) = scanN false 9223372036854775807 (bytesFrom s 0) 0 0)) (fun i _ => s.size - (intOf i).toNat)
  case atStart => exact ⟨0, 0, by omega, by omega, rfl, rfl, by decide, by decide, rfl⟩
  case round =>
    obtain ⟨j, sz, hj0, hj, rfl, rfl, hz0, hz1, hsc⟩ := hrel
    have hx0 := PlainAid.bt_nonneg s j
    have hx1 := PlainAid.bt_le s j
    by_cases hlt : j < s.size
    · have hu : ((s[j]).toNat : Int) = PlainAid.bt s j := PlainAid.get_bt s j hlt
      have hdr : bytesFrom s j = s[j] :: bytesFrom s (j + 1) := drop_at s j hlt
      obtain ⟨c, hc⟩ : ∃ c, c = PlainAid.bt s j := ⟨_, rfl⟩
      have hbt' : ∀ h : j < s.size, ((s[j]'h).toNat : Int) = c := fun h => by rw [hc]; exact PlainAid.get_bt s j h
      clear hbt
      rw [← hc] at hu hx0 hx1
      have HC := Lib.hid hc
      clear hc
      by_cases hh : Halts false 9223372036854775807 sz ((j : Int) - 0) c
      · have hend : Hid (scanN false 9223372036854775807 (bytesFrom s 0) 0 0 = (sz, (j : Int) - 0, false)) := by rw [Hid, ← hsc.out, hdr, scan_no hu hh]
        have fin : ParsePost (told false (scanN false 9223372036854775807 (bytesFrom s 0) 0 0)) w (.returned (.tuple #[.int .i64 0, .int .i64 10, .int .i64 j])) w := post_no (.inl (by rw [hend.out])) (by rw [hend.out]; simp [bit]) (Below.refl _ _)
        have FIN := Lib.hid fin
        clear hu hdr hsc fin
        by_cases k1 : c < 48
        · clear hh
          rcases Nat.eq_or_lt_of_le hj0 with rfl | hj1
          · skip
            go_wp2_with fail
            go_ret3
            exact FIN.out
          · have q1 : ((j : Int) == 0) = false := int_f (by omega)
            go_wp2_with fail
            go_ret3
            exact FIN.out
        by_cases k2 : 57 < c
        · clear hh
          rcases Nat.eq_or_lt_of_le hj0 with rfl | hj1
          · skip
            go_wp2_with fail
            go_ret3
            exact FIN.out
          · have q1 : ((j : Int) == 0) = false := int_f (by omega)
            go_wp2_with fail
            go_ret3
            exact FIN.out
        by_cases k3 : 0 < j ∧ sz = 0
        · obtain ⟨k3, rfl⟩ := k3
          have q1 : ((j : Int) == 0) = false := int_f (by omega)
          clear hh
          go_wp2_with fail
          go_ret3
          exact FIN.out
        have ov : (9223372036854775807 - (c - 48)) / 10 < sz := by
          rcases hh with hh | hh | hh | hh | hh
          · omega
          · omega
          · exact absurd hh.2.2 (by decide)
          · exact absurd ⟨by omega, hh.2⟩ k3
          · exact hh
        clear hh
        by_cases kj : 0 < j
        · have q0 : (sz == 0) = false := int_f (by omega)
          have q1 : ((j : Int) == 0) = false := int_f (by omega)
          by_cases k48 : c = 48
          · have q2 : (c == 48) = true := by simpa using k48
            clear k48 k3
            go_wp2_with fail
            go_ret3
            exact FIN.out
          · have q2 : (c == 48) = false := by simpa using k48
            clear k48 k3
            go_wp2_with fail
            go_ret3
            exact FIN.out
        · obtain rfl : j = 0 := by omega
          by_cases k48 : c = 48
          · have q2 : (c == 48) = true := by simpa using k48
            clear k48 k3
            go_wp2_with fail
            go_ret3
            exact FIN.out
          · have q2 : (c == 48) = false := by simpa using k48
            clear k48 k3
            go_wp2_with fail
            go_ret3
            exact FIN.out
      · have hnext : Hid (scanN false 9223372036854775807 (bytesFrom s (j + 1)) (sz * 10 + (c - 48)) (((j + 1 : Nat) : Int) - 0) = scanN false 9223372036854775807 (bytesFrom s 0) 0 0) := by
          rw [Hid, ← hsc.out, hdr, scan_yes hu hh]
          congr 1 <;> omega
        have ov : sz ≤ (9223372036854775807 - (c - 48)) / 10 := by
          apply Int.not_lt.1; intro hx; exact hh (.inr (.inr (.inr (.inr hx))))
        have k1 : ¬ c < 48 := fun hx => hh (.inl hx)
        have k2 : ¬ 57 < c := fun hx => hh (.inr (.inl hx))
        have k3 : ¬ (0 < j ∧ sz = 0) := fun hx => hh (.inr (.inr (.inr (.inl ⟨by omega, hx.2⟩))))
        have hb1 : 10 * sz + (c - 48) ≤ 9223372036854775807 ∧ 0 ≤ 10 * sz + (c - 48) := by omega
        have e10 : sz * 10 + (c - 48) = 10 * sz + (c - 48) := by omega
        rw [e10] at hnext
        clear hu hdr hsc hh e10
        by_cases kj : 0 < j
        · have q0 : (sz == 0) = false := int_f (by omega)
          have q1 : ((j : Int) == 0) = false := int_f (by omega)
          by_cases k48 : c = 48
          · have q2 : (c == 48) = true := by simpa using k48
            clear k48 k3
            go_wp2_with fail
            go_round
            case rel => exact ⟨j + 1, 10 * sz + (c - 48), by omega, by omega, by go_num, rfl, by omega, by omega, hnext⟩
            case measure => simp [intOf]; omega
          · have q2 : (c == 48) = false := by simpa using k48
            clear k48 k3
            go_wp2_with fail
            go_round
            case rel => exact ⟨j + 1, 10 * sz + (c - 48), by omega, by omega, by go_num, rfl, by omega, by omega, hnext⟩
            case measure => simp [intOf]; omega
        · obtain rfl : j = 0 := by omega
          by_cases k48 : c = 48
          · have q2 : (c == 48) = true := by simpa using k48
            clear k48 k3
            go_wp2_with fail
            go_round
            case rel => exact ⟨0 + 1, 10 * sz + (c - 48), by omega, by omega, by go_num, rfl, by omega, by omega, hnext⟩
            case measure => simp [intOf]; omega
          · have q2 : (c == 48) = false := by simpa using k48
            clear k48 k3
            go_wp2_with fail
            go_round
            case rel => exact ⟨0 + 1, 10 * sz + (c - 48), by omega, by omega, by go_num, rfl, by omega, by omega, hnext⟩
            case measure => simp [intOf]; omega
    · obtain rfl : j = s.size := by omega
      have hend : Hid (scanN false 9223372036854775807 (bytesFrom s 0) 0 0 = (sz, (s.size : Int) - 0, true)) := by
        rw [Hid, ← hsc.out, show bytesFrom s s.size = [] from List.drop_of_length_le (by simp)]; rfl
      clear hsc hx0 hx1
      by_cases hn0 : s.size = 0
      · have fin : ParsePost (told false (scanN false 9223372036854775807 (bytesFrom s 0) 0 0)) w (.returned (.tuple #[.int .i64 0, .int .i64 10, .int .i64 s.size])) w := post_no (.inr (by rw [hend.out]; show (s.size : Int) - 0 = 0; omega)) (by rw [hend.out]; simp [bit]) (Below.refl _ _)
        have q1 : ((s.size : Int) == 0) = true := int_t (by omega)
        have FIN := Lib.hid fin
        clear fin hend hn0
        go_wp2_with fail
        go_ret3
        exact FIN.out
      · have q1 : ((s.size : Int) == 0) = false := int_f (by omega)
        have fin : ParsePost (told false (scanN false 9223372036854775807 (bytesFrom s 0) 0 0)) w (.returned (.tuple #[.int .i64 sz, .int .i64 0, .int .i64 0])) w := post_yes (by rw [hend.out]) (by rw [hend.out]; show (s.size : Int) - 0 ≠ 0; omega) (by rw [hend.out]; show sz = wrap64 sz; rw [w64_id sz (by omega) hz1]) (Below.refl _ _)
        have FIN := Lib.hid fin
        clear fin hend
        go_wp2_with fail
        go_ret3
        exact FIN.out
set_option maxHeartbeats 2000000 in
theorem rparse_below (s : ByteArray) (w : World) (hs : s.size ≤ 4611686018427387904) (h0 : 0 < s.size) (h45 : PlainAid.bt s 0 = 45) :
    Calls Tryd.prog 26 #[.string s] w (ParsePost (told true (scanN true 9223372036854775808 (bytesFrom s 1) 0 0)) w) := by
  have h45b : (PlainAid.bt s 0 == 45) = true := by simpa using h45
  clear h45
  have hbt := PlainAid.get_bt s
  go_enter Tryd.func26, Tryd.ntmps26
  go_wp2_with fail
  go_loop [6, 8] (fun i n => ∃ (j : Nat) (sz : Int), 1 ≤ j ∧ j ≤ s.size ∧ i = .int .i64 j ∧ n = .int .u64 sz ∧ 0 ≤ sz ∧ sz ≤ 9223372036854775808 ∧ Hid (scanN true 9223372036854775808 (bytesFrom s j) sz ((j : Int) - 1) = scanN true 9223372036854775808 (bytesFrom s 1) 0 0)) (fun i _ => s.size - (intOf i).toNat)
  case atStart => exact ⟨1, 0, by omega, by omega, rfl, rfl, by decide, by decide, rfl⟩
  case round =>
    obtain ⟨j, sz, hj0, hj, rfl, rfl, hz0, hz1, hsc⟩ := hrel
    have hx0 := PlainAid.bt_nonneg s j
    have hx1 := PlainAid.bt_le s j
    by_cases hlt : j < s.size
    · have hu : ((s[j]).toNat : Int) = PlainAid.bt s j := PlainAid.get_bt s j hlt
      have hdr : bytesFrom s j = s[j] :: bytesFrom s (j + 1) := drop_at s j hlt
      obtain ⟨c, hc⟩ : ∃ c, c = PlainAid.bt s j := ⟨_, rfl⟩
      have hbt' : ∀ h : j < s.size, ((s[j]'h).toNat : Int) = c := fun h => by rw [hc]; exact PlainAid.get_bt s j h
      clear hbt
      rw [← hc] at hu hx0 hx1
      have HC := Lib.hid hc
      clear hc
      by_cases hh : Halts true 9223372036854775808 sz ((j : Int) - 1) c
      · have hend : Hid (scanN true 9223372036854775808 (bytesFrom s 1) 0 0 = (sz, (j : Int) - 1, false)) := by rw [Hid, ← hsc.out, hdr, scan_no hu hh]
        have fin : ParsePost (told true (scanN true 9223372036854775808 (bytesFrom s 1) 0 0)) w (.returned (.tuple #[.int .i64 0, .int .i64 10, .int .i64 j])) w := post_no (.inl (by rw [hend.out])) (by rw [hend.out]; simp [bit]) (Below.refl _ _)
        have FIN := Lib.hid fin
        clear hu hdr hsc fin
        by_cases k1 : c < 48
        · clear hh
          rcases Nat.eq_or_lt_of_le hj0 with rfl | hj1
          · skip
            go_wp2_with fail
            go_ret3
            exact FIN.out
          · have q1 : ((j : Int) == 1) = false := int_f (by omega)
            go_wp2_with fail
            go_ret3
            exact FIN.out
        by_cases k2 : 57 < c
        · clear hh
          rcases Nat.eq_or_lt_of_le hj0 with rfl | hj1
          · skip
            go_wp2_with fail
            go_ret3
            exact FIN.out
          · have q1 : ((j : Int) == 1) = false := int_f (by omega)
            go_wp2_with fail
            go_ret3
            exact FIN.out
        by_cases k3 : 1 < j ∧ sz = 0
        · obtain ⟨k3, rfl⟩ := k3
          have q1 : ((j : Int) == 1) = false := int_f (by omega)
          clear hh
          go_wp2_with fail
          go_ret3
          exact FIN.out
        by_cases k4 : c = 48 ∧ j = 1
        · obtain ⟨rfl, rfl⟩ := k4
          clear hh
          go_wp2_with fail
          go_ret3
          exact FIN.out
        have ov : (9223372036854775808 - (c - 48)) / 10 < sz := by
          rcases hh with hh | hh | hh | hh | hh
          · omega
          · omega
          · exact absurd ⟨hh.1, by omega⟩ k4
          · exact absurd ⟨by omega, hh.2⟩ k3
          · exact hh
        clear hh
        by_cases kj : 1 < j
        · have q0 : (sz == 0) = false := int_f (by omega)
          have q1 : ((j : Int) == 1) = false := int_f (by omega)
          by_cases k48 : c = 48
          · have q2 : (c == 48) = true := by simpa using k48
            clear k48 k3
            go_wp2_with fail
            go_ret3
            exact FIN.out
          · have q2 : (c == 48) = false := by simpa using k48
            clear k48 k3
            go_wp2_with fail
            go_ret3
            exact FIN.out
        · obtain rfl : j = 1 := by omega
          by_cases k48 : c = 48
          · exact absurd ⟨k48, rfl⟩ k4
          · have q2 : (c == 48) = false := by simpa using k48
            clear k48 k3
            go_wp2_with fail
            go_ret3
            exact FIN.out
      · have hnext : Hid (scanN true 9223372036854775808 (bytesFrom s (j + 1)) (sz * 10 + (c - 48)) (((j + 1 : Nat) : Int) - 1) = scanN true 9223372036854775808 (bytesFrom s 1) 0 0) := by
          rw [Hid, ← hsc.out, hdr, scan_yes hu hh]
          congr 1 <;> omega
        have ov : sz ≤ (9223372036854775808 - (c - 48)) / 10 := by
          apply Int.not_lt.1; intro hx; exact hh (.inr (.inr (.inr (.inr hx))))
        have k1 : ¬ c < 48 := fun hx => hh (.inl hx)
        have k2 : ¬ 57 < c := fun hx => hh (.inr (.inl hx))
        have k3 : ¬ (1 < j ∧ sz = 0) := fun hx => hh (.inr (.inr (.inr (.inl ⟨by omega, hx.2⟩))))
        have k4 : ¬ (c = 48 ∧ j = 1) := fun hx => hh (.inr (.inr (.inl ⟨hx.1, by omega, rfl⟩)))
        have hb1 : 10 * sz + (c - 48) ≤ 9223372036854775808 ∧ 0 ≤ 10 * sz + (c - 48) := by omega
        have e10 : sz * 10 + (c - 48) = 10 * sz + (c - 48) := by omega
        rw [e10] at hnext
        clear hu hdr hsc hh e10
        by_cases kj : 1 < j
        · have q0 : (sz == 0) = false := int_f (by omega)
          have q1 : ((j : Int) == 1) = false := int_f (by omega)
          by_cases k48 : c = 48
          · have q2 : (c == 48) = true := by simpa using k48
            clear k48 k3
            go_wp2_with fail
            go_round
            case rel => exact ⟨j + 1, 10 * sz + (c - 48), by omega, by omega, by go_num, rfl, by omega, by omega, hnext⟩
            case measure => simp [intOf]; omega
          · have q2 : (c == 48) = false := by simpa using k48
            clear k48 k3
            go_wp2_with fail
            go_round
            case rel => exact ⟨j + 1, 10 * sz + (c - 48), by omega, by omega, by go_num, rfl, by omega, by omega, hnext⟩
            case measure => simp [intOf]; omega
        · obtain rfl : j = 1 := by omega
          by_cases k48 : c = 48
          · exact absurd ⟨k48, rfl⟩ k4
          · have q2 : (c == 48) = false := by simpa using k48
            clear k48 k3
            go_wp2_with fail
            go_round
            case rel => exact ⟨1 + 1, 10 * sz + (c - 48), by omega, by omega, by go_num, rfl, by omega, by omega, hnext⟩
            case measure => simp [intOf]; omega
    · obtain rfl : j = s.size := by omega
      have hend : Hid (scanN true 9223372036854775808 (bytesFrom s 1) 0 0 = (sz, (s.size : Int) - 1, true)) := by
        rw [Hid, ← hsc.out, show bytesFrom s s.size = [] from List.drop_of_length_le (by simp)]; rfl
      clear hsc hx0 hx1
      by_cases hn0 : s.size = 1
      · have fin : ParsePost (told true (scanN true 9223372036854775808 (bytesFrom s 1) 0 0)) w (.returned (.tuple #[.int .i64 0, .int .i64 10, .int .i64 s.size])) w := post_no (.inr (by rw [hend.out]; show (s.size : Int) - 1 = 0; omega)) (by rw [hend.out]; simp [bit]) (Below.refl _ _)
        have q1 : ((s.size : Int) == 1) = true := int_t (by omega)
        have FIN := Lib.hid fin
        clear fin hend hn0
        go_wp2_with fail
        go_ret3
        exact FIN.out
      · have q1 : ((s.size : Int) == 1) = false := int_f (by omega)
        have fin : ParsePost (told true (scanN true 9223372036854775808 (bytesFrom s 1) 0 0)) w (.returned (.tuple #[.int .i64 (wrap64 (IntKind.u64.wrap (-sz))), .int .i64 0, .int .i64 0])) w := post_yes (by rw [hend.out]) (by rw [hend.out]; show (s.size : Int) - 1 ≠ 0; omega) (by rw [hend.out]; show wrap64 (IntKind.u64.wrap (-sz)) = wrap64 (-(wrap64 sz)); rw [IntKind.wrap_u64]; unfold wrap64; omega) (Below.refl _ _)
        have FIN := Lib.hid fin
        clear fin hend
        go_wp2_with fail
        go_ret3
        exact FIN.out
theorem rparse_none (w : World) : Calls Tryd.prog 26 #[.string ⟨#[]⟩] w (ParsePost (0, 10, 0) w) := by
  go_enter Tryd.func26, Tryd.ntmps26
  go_wp2_with fail
  refine wp_loop_rounds 1 ?_
  rw [rounds_succ]
  go_wp2
  go_ret3
  exact ⟨rfl, Below.refl _ _⟩
/-- The document's reading, for every text. -/
theorem rparse_any (s : ByteArray) (w : World) (hs : s.size ≤ 4611686018427387904) : Calls Tryd.prog 26 #[.string s] w (ParsePost (parseP s.data.toList) w) := by
  by_cases h0 : 0 < s.size
  · obtain ⟨u, r, e, hu, hr⟩ := head_at s h0
    have e0 : bytesFrom s 0 = s.data.toList := rfl
    have e1 : bytesFrom s 1 = r := by unfold bytesFrom; rw [e]; rfl
    by_cases h : PlainAid.bt s 0 = 45
    · have h45 : u = 45 := by
        apply UInt8.toNat_inj.1
        have : (u.toNat : Int) = 45 := by rw [hu]; exact h
        show u.toNat = 45
        omega
      subst h45
      have k := rparse_below s w hs h0 h
      rw [e]
      rw [e1] at k
      exact k
    · have h45 : u ≠ 45 := fun hx => h (by rw [← hu, hx]; rfl)
      have k := rparse_plain s w hs h0 h
      have e2 : parseP s.data.toList = told false (scanN false 9223372036854775807 s.data.toList 0 0) := by
        rw [e]; unfold parseP; split
        · rename_i heq; simp only [List.cons.injEq] at heq; exact absurd heq.1 h45
        · rfl
      rw [e2, ← e0]
      exact k
  · have h2 : s.data.size = 0 := by
      have h1 : s.size = 0 := by omega
      exact h1
    have h3 : s = ⟨#[]⟩ := by
      cases s with
      | mk d => simp at h2; rw [h2]
    subst h3
    exact rparse_none w
end Go.Proofs.YtheajpdffkehnaaDoor

/- The lexer's reference: the token that begins at a byte: a sign, or none; whatever the byte. -/
import Derived.Test.YteedpojchapjgaaDoorOne
namespace Go.Proofs.YteedpojchapjgaaDoor
open Go.RowKit
set_option linter.unusedVariables false

theorem long_cons (a b : UInt8) (r : List UInt8) : longB (a :: b :: r) = longB [a, b] := by
  unfold longB
  rw [show (longAt 0).data.toList = [61, 61] from rfl, show (longAt 1).data.toList = [33, 61] from rfl, show (longAt 2).data.toList = [60, 61] from rfl, show (longAt 3).data.toList = [62, 61] from rfl, show (longAt 4).data.toList = [60, 60] from rfl, show (longAt 5).data.toList = [62, 62] from rfl]
  simp only [Lib.hasPrefix, List.isPrefixOf_cons_cons, List.isPrefixOf_nil_left]
theorem long_sign {a b : UInt8} (h : longB [a, b] = true) : signB (a.toNat : Int) = true := by
  rw [long2] at h
  unfold signL at h
  simp only [Bool.or_eq_true, beq_iff_eq, List.cons.injEq, and_true] at h
  have key : a = 61 ∨ a = 33 ∨ a = 60 ∨ a = 62 := by
    simp at h
    rcases h with ((((h | h) | h) | h) | h) | h <;> simp [h.1]
  rcases key with rfl | rfl | rfl | rfl <;> decide
theorem extract_list (s : ByteArray) (p n : Nat) : (s.extract p (p + n)).data.toList = (bytesFrom s p).take n := by
  rw [Lib.extract_data]
  unfold bytesFrom
  rw [show p + n - p = n by omega]
set_option maxRecDepth 100000 in
set_option maxHeartbeats 8000000 in
theorem one_sign (s : ByteArray) (hs : s.size ≤ 281474976710656) (p : Nat) (hp : p < s.size) (w : World) (hN0 : letterB (PlainAid.bt s p) = false) (hN1 : digitB (PlainAid.bt s p) = false) :
    Calls Tryd.prog 42 #[.string s, .int .i64 p] w fun e w' => onePost s p e ∧ Below w.heap.size w w' := by
  have hx0 := PlainAid.bt_nonneg s p
  have hx1 := PlainAid.bt_le s p
  obtain ⟨c, hc⟩ : ∃ c, Hid (c = PlainAid.bt s p) := ⟨_, rfl⟩
  have hbt : ∀ h : p < s.size, ((s[p]'h).toNat : Int) = c := fun h => by rw [hc.out]; exact PlainAid.get_bt s p h
  rw [← hc.out] at hx0 hx1
  have hp' : (p : Int) < (s.size : Int) := by omega
  have Hletter : Hid (∀ W : World, Calls Tryd.prog 38 #[.int .u8 c] W fun e w' => e = .returned (.bool false) ∧ W = w') := fun W => by
    have q := rletter_any c hx0 hx1 W
    rw [hc.out, hN0] at q
    rw [hc.out]
    exact q
  have Hdigit : Hid (∀ W : World, Calls Tryd.prog 37 #[.int .u8 c] W fun e w' => e = .returned (.bool false) ∧ W = w') := fun W => by
    have q := rdigit_any c hx0 hx1 W
    rw [hc.out, hN1] at q
    rw [hc.out]
    exact q
  have hfr := Lib.hid (from_at s p hp)
  obtain ⟨X1, hX1⟩ : ∃ X, Hid (X = s.extract p (p + 1)) := ⟨_, rfl⟩
  obtain ⟨q1, hq1⟩ : ∃ q, Hid (q = signB c) := ⟨_, rfl⟩
  have hbp : Hid (PlainAid.bt s p = c) := hc.out.symm
  have hpu : Hid (((s[p]'hp).toNat : Int) = c) := hbt hp
  have HS1 : Hid (∀ W : World, Calls Tryd.prog 20 #[.string X1] W fun e w' => e = .returned (.bool q1) ∧ W = w') := fun W => by
    have k := rsign_any X1 W
    rw [isSign_list, Lib.toList_data, hX1.out, extract_list, hfr.out] at k
    rw [hq1.out, hX1.out, ← hpu.out, sign1]
    exact k
  have hnext : Hid (nextR s p = if q1 = true then signR s p else ⟨0, ⟨#[]⟩, 0, 0, p, 1⟩) := by
    unfold nextR
    rw [Hid, if_neg (by rw [hN0]; decide), if_neg (by rw [hN1]; decide), hq1.out, hbp.out]
  clear hN0 hN1
  by_cases h2 : p + 1 < s.size
  · have h2' : (p : Int) + 1 < (s.size : Int) := by omega
    have hge : (p : Int) + 2 ≤ (s.size : Int) := by omega
    have hfr2 := Lib.hid (from_at s (p + 1) h2)
    obtain ⟨X2, hX2⟩ : ∃ X, Hid (X = s.extract p (p + 2)) := ⟨_, rfl⟩
    obtain ⟨q2, hq2⟩ : ∃ q, Hid (q = longB [s[p], s[p + 1]]) := ⟨longB [s[p], s[p + 1]], rfl⟩
    have HS2 : Hid (∀ W : World, Calls Tryd.prog 20 #[.string X2] W fun e w' => e = .returned (.bool q2) ∧ W = w') := fun W => by
      have k := rsign_any X2 W
      rw [isSign_list, Lib.toList_data, hX2.out, extract_list, hfr.out, hfr2.out] at k
      rw [hq2.out, hX2.out, long2]
      exact k
    have hah : Hid (aheadN (bytesFrom s p) = if q2 = true then 2 else if q1 = true then 1 else 0) := by
      rw [Hid, hfr.out, hfr2.out]
      unfold aheadN
      rw [long_cons, ← hq2.out]
      simp only [firstN]
      rw [hpu.out, hq1.out]
    have hls : Hid (q2 = true → q1 = true) := fun h => by
      rw [hq2.out] at h
      rw [hq1.out, ← hpu.out]
      exact long_sign h
    cases q2
    · cases q1
      · have hV : Hid (nextR s p = ⟨0, ⟨#[]⟩, 0, 0, p, 1⟩) := by rw [Hid, hnext.out, if_neg (by decide)]
        go_enter Tryd.func42, Tryd.ntmps42
        go_wp2_with (first
          | (go_at_call 38; refine (Hletter.out _).mono ?_; rintro e w' ⟨rfl, rfl⟩)
          | (go_at_call 37; refine (Hdigit.out _).mono ?_; rintro e w' ⟨rfl, rfl⟩)
          | (go_at_call 20; rw [← hX2.out]; (with_reducible refine (HS2.out _).mono ?_); rintro e w' ⟨rfl, rfl⟩)
          | (go_at_call 20; rw [← hX1.out]; (with_reducible refine (HS1.out _).mono ?_); rintro e w' ⟨rfl, rfl⟩))
        refine bodyPost_ret (v := .tuple #[.agg #[.int .u8 0, .string ⟨#[]⟩, .int .i64 0, .int .i64 0], .int .i64 1, .int .i64 p]) (by simp [results, Tryd.results42, go_sem]) rfl ⟨?_, ?_⟩
        · unfold onePost; rw [hV.out]; exact ⟨_, _, _, _, rfl, fun h => by cases h⟩
        · exact (Below.refl _ w).alloc (Nat.le_refl _) _
      · have hV : Hid (nextR s p = ⟨4, X1, 0, p, 0, 0⟩) := by
          rw [Hid, hnext.out, if_pos rfl]; unfold signR signX
          rw [hah.out, if_neg (by decide), if_pos rfl]
          rw [extract_two s p 1 (by omega), ← hX1.out]
        go_enter Tryd.func42, Tryd.ntmps42
        go_wp2_with (first
          | (go_at_call 38; refine (Hletter.out _).mono ?_; rintro e w' ⟨rfl, rfl⟩)
          | (go_at_call 37; refine (Hdigit.out _).mono ?_; rintro e w' ⟨rfl, rfl⟩)
          | (go_at_call 20; rw [← hX2.out]; (with_reducible refine (HS2.out _).mono ?_); rintro e w' ⟨rfl, rfl⟩)
          | (go_at_call 20; rw [← hX1.out]; (with_reducible refine (HS1.out _).mono ?_); rintro e w' ⟨rfl, rfl⟩))
        refine bodyPost_ret (v := .tuple #[.agg #[.int .u8 4, .string X1, .int .i64 0, .int .i64 p], .int .i64 0, .int .i64 0]) (by simp [results, Tryd.results42, go_sem, hX1.out]) rfl ⟨?_, ?_⟩
        · unfold onePost; rw [hV.out]; exact ⟨_, _, _, _, rfl, fun _ => ⟨rfl, rfl, rfl, rfl⟩⟩
        · exact (Below.refl _ w).alloc (Nat.le_refl _) _
    · have hV : Hid (nextR s p = ⟨4, X2, 0, p, 0, 0⟩) := by
        rw [Hid, hnext.out, if_pos (hls.out rfl)]; unfold signR signX
        rw [hah.out, if_pos rfl]
        rw [extract_two s p 2 (by omega), ← hX2.out]
      go_enter Tryd.func42, Tryd.ntmps42
      go_wp2_with (first
        | (go_at_call 38; refine (Hletter.out _).mono ?_; rintro e w' ⟨rfl, rfl⟩)
        | (go_at_call 37; refine (Hdigit.out _).mono ?_; rintro e w' ⟨rfl, rfl⟩)
        | (go_at_call 20; rw [← hX2.out]; (with_reducible refine (HS2.out _).mono ?_); rintro e w' ⟨rfl, rfl⟩)
        | (go_at_call 20; rw [← hX1.out]; (with_reducible refine (HS1.out _).mono ?_); rintro e w' ⟨rfl, rfl⟩))
      refine bodyPost_ret (v := .tuple #[.agg #[.int .u8 4, .string X2, .int .i64 0, .int .i64 p], .int .i64 0, .int .i64 0]) (by simp [results, Tryd.results42, go_sem, hX2.out]) rfl ⟨?_, ?_⟩
      · unfold onePost; rw [hV.out]; exact ⟨_, _, _, _, rfl, fun _ => ⟨rfl, rfl, rfl, rfl⟩⟩
      · exact (Below.refl _ w).alloc (Nat.le_refl _) _
  · have h2' : ¬ (p : Int) + 1 < (s.size : Int) := by omega
    have hge : ¬ (p : Int) + 2 ≤ (s.size : Int) := by omega
    have hah : Hid (aheadN (bytesFrom s p) = if q1 = true then 1 else 0) := by
      rw [Hid, hfr.out, from_end s (p + 1) (by omega)]
      unfold aheadN
      rw [long1, if_neg (by decide)]
      simp only [firstN]
      rw [hpu.out, hq1.out]
    cases q1
    · have hV : Hid (nextR s p = ⟨0, ⟨#[]⟩, 0, 0, p, 1⟩) := by rw [Hid, hnext.out, if_neg (by decide)]
      go_enter Tryd.func42, Tryd.ntmps42
      go_wp2_with (first
        | (go_at_call 38; refine (Hletter.out _).mono ?_; rintro e w' ⟨rfl, rfl⟩)
        | (go_at_call 37; refine (Hdigit.out _).mono ?_; rintro e w' ⟨rfl, rfl⟩)
        | (go_at_call 20; rw [← hX1.out]; (with_reducible refine (HS1.out _).mono ?_); rintro e w' ⟨rfl, rfl⟩))
      refine bodyPost_ret (v := .tuple #[.agg #[.int .u8 0, .string ⟨#[]⟩, .int .i64 0, .int .i64 0], .int .i64 1, .int .i64 p]) (by simp [results, Tryd.results42, go_sem]) rfl ⟨?_, ?_⟩
      · unfold onePost; rw [hV.out]; exact ⟨_, _, _, _, rfl, fun h => by cases h⟩
      · exact (Below.refl _ w).alloc (Nat.le_refl _) _
    · have hV : Hid (nextR s p = ⟨4, X1, 0, p, 0, 0⟩) := by
        rw [Hid, hnext.out, if_pos rfl]; unfold signR signX
        rw [hah.out, if_pos rfl]
        rw [extract_two s p 1 (by omega), ← hX1.out]
      go_enter Tryd.func42, Tryd.ntmps42
      go_wp2_with (first
        | (go_at_call 38; refine (Hletter.out _).mono ?_; rintro e w' ⟨rfl, rfl⟩)
        | (go_at_call 37; refine (Hdigit.out _).mono ?_; rintro e w' ⟨rfl, rfl⟩)
        | (go_at_call 20; rw [← hX1.out]; (with_reducible refine (HS1.out _).mono ?_); rintro e w' ⟨rfl, rfl⟩))
      refine bodyPost_ret (v := .tuple #[.agg #[.int .u8 4, .string X1, .int .i64 0, .int .i64 p], .int .i64 0, .int .i64 0]) (by simp [results, Tryd.results42, go_sem, hX1.out]) rfl ⟨?_, ?_⟩
      · unfold onePost; rw [hV.out]; exact ⟨_, _, _, _, rfl, fun _ => ⟨rfl, rfl, rfl, rfl⟩⟩
      · exact (Below.refl _ w).alloc (Nat.le_refl _) _
theorem one_any (s : ByteArray) (hs : s.size ≤ 281474976710656) (p : Nat) (hp : p < s.size) (w : World) :
    Calls Tryd.prog 42 #[.string s, .int .i64 p] w fun e w' => onePost s p e ∧ Below w.heap.size w w' := by
  cases h0 : letterB (PlainAid.bt s p) with
  | true => exact one_letter s hs p hp w h0
  | false =>
    cases h1 : digitB (PlainAid.bt s p) with
    | true => exact one_digit s hs p hp w h0 h1
    | false => exact one_sign s hs p hp w h0 h1
end Go.Proofs.YteedpojchapjgaaDoor

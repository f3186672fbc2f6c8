/- The lexer's laws: a place goes on byte by byte. -/
import Derived.Test.YteedpojchapjgaaDoorPlace2
namespace Go.Proofs.YteedpojchapjgaaDoor
open Go.RowKit
set_option linter.unusedVariables false

set_option maxRecDepth 100000 in
set_option maxHeartbeats 1000000 in
theorem placed_walk (s : ByteArray) (a : Int) (hs : s.size ≤ reachBytes) (h0 : -9223372036854775808 ≤ a) (h1 : a ≤ 9223372036854775807) (w : World) (T : LTabs w) :
    Calls Tryd.prog 12 #[.string s, .int .i64 a] w fun e w' => e = .returned (.bool true) ∧ LInv w w' := by
  have hs48 : s.size ≤ 281474976710656 := Nat.le_trans hs (by decide)
  have HB := Lib.hid (begins_i (LInv.start T))
  clear T
  by_cases hr : 0 ≤ a ∧ a ≤ s.size
  · obtain ⟨r0, r1⟩ := hr
    obtain ⟨k, rfl⟩ := Int.eq_ofNat_of_zero_le r0
    cases k with
    | zero =>
      have H1 : Hid (∀ W : World, Calls Tryd.prog 29 #[.string s, .int .i64 0] W fun e w' => e = .returned (.tuple #[.int .i64 1, .int .i64 1, .int .i64 0]) ∧ W = w') := fun W => by
        have k := place_any s hs48 0 W
        rw [show PlaceV s 0 = .tuple #[.int .i64 1, .int .i64 1, .int .i64 0] by unfold PlaceV; rw [if_pos ⟨by omega, by omega⟩]; rfl] at k
        exact k
      show Calls Tryd.prog 12 #[.string s, .int .i64 0] w _
      go_enter Tryd.func12, Tryd.ntmps12
      go_wp2_with (first
        | (go_at_call 29; refine (H1.out _).mono ?_; rintro e w' ⟨rfl, rfl⟩)
        | (go_at_call 21; refine (HB.out).mono ?_; rintro e w' ⟨rfl, hI⟩; have HI := Lib.hid hI; clear hI))
      go_ret
      exact ⟨rfl, HI.out⟩
    | succ k =>
      have hk : k < s.size := by omega
      have hbk := place_bd s.data.toList k
      have hkl : k < s.data.toList.length := by simpa using hk
      have e2 : s.data.toList[k]? = some s.data.toList[k] := List.getElem?_eq_getElem hkl
      have hnx : Hid (placeN s.data.toList (k + 1) = if s.data.toList[k] = 10 then ((placeN s.data.toList k).1 + 1, 1) else ((placeN s.data.toList k).1, (placeN s.data.toList k).2 + 1)) := by
        rw [Hid]; simp only [placeN]; rw [e2]; simp
      obtain ⟨c, hc⟩ : ∃ c, Hid (c = PlainAid.bt s k) := ⟨_, rfl⟩
      have hbt : ∀ h : k < s.size, ((s[k]'h).toNat : Int) = c := fun h => by rw [hc.out]; exact PlainAid.get_bt s k h
      have hcl : Hid ((s.data.toList[k] = 10) ↔ c = 10) := by
        rw [Hid, ← hbt hk]
        show s[k] = 10 ↔ _
        constructor
        · intro h; rw [h]; rfl
        · intro h
          exact UInt8.toNat_inj.1 (by have : (s[k]).toNat = 10 := by omega
                                      rw [this]; rfl)
      obtain ⟨L, C, hLC⟩ : ∃ L C, Hid (placeN s.data.toList k = (L, C)) := ⟨_, _, rfl⟩
      rw [hLC.out] at hbk hnx
      obtain ⟨hb1, hb2, hb3, hb4⟩ := hbk
      simp only at hb1 hb2 hb3 hb4
      have H2 : Hid (∀ W : World, Calls Tryd.prog 29 #[.string s, .int .i64 (k : Int)] W fun e w' => e = .returned (.tuple #[.int .i64 L, .int .i64 C, .int .i64 0]) ∧ W = w') := fun W => by
        have q := place_any s hs48 k W
        rw [show PlaceV s (k : Int) = .tuple #[.int .i64 L, .int .i64 C, .int .i64 0] by unfold PlaceV; rw [if_pos ⟨by omega, by omega⟩, Int.toNat_natCast, hLC.out]] at q
        exact q
      have hcast : ((k + 1 : Nat) : Int) = (k : Int) + 1 := by omega
      have hV1 : ∀ x y, placeN s.data.toList (k + 1) = (x, y) → PlaceV s ((k : Int) + 1) = .tuple #[.int .i64 x, .int .i64 y, .int .i64 0] := fun x y e => by
        unfold PlaceV; rw [if_pos ⟨by omega, by omega⟩, show ((k : Int) + 1).toNat = k + 1 by omega, e]
      rw [hcast]
      have r1' : (k : Int) + 1 ≤ (s.size : Int) := by omega
      clear hcast r0 r1 h0 h1
      clear e2
      by_cases hc10 : c = 10
      · have hq : (c == 10) = true := int_t hc10
        have hP := hV1 _ _ (hnx.out.trans (if_pos (hcl.out.2 hc10)))
        have H1 : Hid (∀ W : World, Calls Tryd.prog 29 #[.string s, .int .i64 ((k : Int) + 1)] W fun e w' => e = .returned (.tuple #[.int .i64 (L + 1), .int .i64 1, .int .i64 0]) ∧ W = w') := fun W => by
          have q := place_any s hs48 ((k : Int) + 1) W
          rw [hP] at q
          exact q
        clear hV1 hP
        go_enter Tryd.func12, Tryd.ntmps12
        go_wp2_with (first
          | (go_at_call 29; (with_reducible refine (H1.out _).mono ?_); rintro e w' ⟨rfl, rfl⟩)
          | (go_at_call 29; (with_reducible refine (H2.out _).mono ?_); rintro e w' ⟨rfl, rfl⟩)
          | (go_at_call 21; refine (HB.out).mono ?_; rintro e w' ⟨rfl, hI⟩; have HI := Lib.hid hI; clear hI))
        go_ret
        exact ⟨rfl, HI.out⟩
      · have hq : (c == 10) = false := int_f hc10
        have hP := hV1 _ _ (hnx.out.trans (if_neg (fun h => hc10 (hcl.out.1 h))))
        have H1 : Hid (∀ W : World, Calls Tryd.prog 29 #[.string s, .int .i64 ((k : Int) + 1)] W fun e w' => e = .returned (.tuple #[.int .i64 L, .int .i64 (C + 1), .int .i64 0]) ∧ W = w') := fun W => by
          have q := place_any s hs48 ((k : Int) + 1) W
          rw [hP] at q
          exact q
        clear hV1 hP
        go_enter Tryd.func12, Tryd.ntmps12
        go_wp2_with (first
          | (go_at_call 29; (with_reducible refine (H1.out _).mono ?_); rintro e w' ⟨rfl, rfl⟩)
          | (go_at_call 29; (with_reducible refine (H2.out _).mono ?_); rintro e w' ⟨rfl, rfl⟩)
          | (go_at_call 21; refine (HB.out).mono ?_; rintro e w' ⟨rfl, hI⟩; have HI := Lib.hid hI; clear hI))
        go_ret
        exact ⟨rfl, HI.out⟩
  · have H1 : Hid (∀ W : World, Calls Tryd.prog 29 #[.string s, .int .i64 a] W fun e w' => e = .returned (.tuple #[.int .i64 0, .int .i64 0, .int .i64 2]) ∧ W = w') := fun W => by
      have k := place_any s hs48 a W
      rw [show PlaceV s a = .tuple #[.int .i64 0, .int .i64 0, .int .i64 2] by unfold PlaceV; rw [if_neg hr]] at k
      exact k
    by_cases k0 : 0 ≤ a
    · have k1 : (s.size : Int) < a := by omega
      go_enter Tryd.func12, Tryd.ntmps12
      go_wp2_with (first
        | (go_at_call 29; refine (H1.out _).mono ?_; rintro e w' ⟨rfl, rfl⟩)
        | (go_at_call 21; refine (HB.out).mono ?_; rintro e w' ⟨rfl, hI⟩; have HI := Lib.hid hI; clear hI))
      go_ret
      exact ⟨rfl, HI.out⟩
    · have k1 : a < 0 := by omega
      go_enter Tryd.func12, Tryd.ntmps12
      go_wp2_with (first
        | (go_at_call 29; refine (H1.out _).mono ?_; rintro e w' ⟨rfl, rfl⟩)
        | (go_at_call 21; refine (HB.out).mono ?_; rintro e w' ⟨rfl, hI⟩; have HI := Lib.hid hI; clear hI))
      go_ret
      exact ⟨rfl, HI.out⟩
end Go.Proofs.YteedpojchapjgaaDoor

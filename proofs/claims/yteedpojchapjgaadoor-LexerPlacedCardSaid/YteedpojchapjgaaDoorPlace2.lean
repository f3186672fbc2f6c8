/- The lexer's reference: the line and the column of a byte; the laws of places. -/
import Derived.Test.YteedpojchapjgaaDoorPlace
namespace Go.Proofs.YteedpojchapjgaaDoor
open Go.RowKit
set_option linter.unusedVariables false

set_option maxRecDepth 100000 in
set_option maxHeartbeats 2000000 in
theorem rplace_any (s : ByteArray) (hs : s.size ≤ 281474976710656) (a : Int) (w : World) : Calls Tryd.prog 30 #[.string s, .int .i64 a] w fun e w' => e = .returned (PlaceV s a) ∧ w = w' := by
  by_cases h : 0 ≤ a ∧ a ≤ s.size
  · obtain ⟨h0, h1⟩ := h
    obtain ⟨n, rfl⟩ := Int.eq_ofNat_of_zero_le h0
    have hk : n ≤ s.size := by omega
    have hV : Hid (PlaceV s (n : Int) = .tuple #[.int .i64 (placeN s.data.toList n).1, .int .i64 (placeN s.data.toList n).2, .int .i64 0]) := by
      unfold PlaceV
      rw [Hid, if_pos ⟨h0, h1⟩, Int.toNat_natCast]
    rw [hV.out]
    go_enter Tryd.func30, Tryd.ntmps30
    go_wp2
    go_loopw [7, 8, 9] (fun li co i wr => w = wr ∧ ∃ k : Nat, k ≤ n ∧ i = .int .i64 k ∧ li = .int .i64 (placeN s.data.toList k).1 ∧ co = .int .i64 (placeN s.data.toList k).2) (fun _ _ i _ => n - (intOf i).toNat)
    case atStart => exact ⟨rfl, 0, Nat.zero_le _, rfl, rfl, rfl⟩
    case round =>
      obtain ⟨rfl, k, hkn, rfl, rfl, rfl⟩ := hrel
      obtain ⟨hb1, hb2, hb3, hb4⟩ := place_bd s.data.toList k
      by_cases hlt : k < n
      · have hks : k < s.size := by omega
        have hkl : k < s.data.toList.length := by simpa using hks
        have e2 : s.data.toList[k]? = some s.data.toList[k] := List.getElem?_eq_getElem hkl
        have hnx : Hid (placeN s.data.toList (k + 1) = if s.data.toList[k] = 10 then ((placeN s.data.toList k).1 + 1, 1) else ((placeN s.data.toList k).1, (placeN s.data.toList k).2 + 1)) := by
          rw [Hid]; simp only [placeN]; rw [e2]; simp
        obtain ⟨c, hc⟩ : ∃ c, Hid (c = PlainAid.bt s k) := ⟨_, rfl⟩
        have hbt : ∀ h : k < s.size, ((s[k]'h).toNat : Int) = c := fun h => by rw [hc.out]; exact PlainAid.get_bt s k h
        have hcl : Hid ((s.data.toList[k] = 10) ↔ c = 10) := by
          rw [Hid, ← hbt hks]
          show s[k] = 10 ↔ _
          constructor
          · intro h; rw [h]; rfl
          · intro h
            exact UInt8.toNat_inj.1 (by have : (s[k]).toNat = 10 := by omega
                                        rw [this]; rfl)
        obtain ⟨L, C, hLC⟩ : ∃ L C, Hid (placeN s.data.toList k = (L, C)) := ⟨_, _, rfl⟩
        rw [hLC.out] at hb1 hb2 hb3 hb4 hnx
        have hlt' : (k : Int) < (n : Int) := by omega
        simp only [hLC.out]
        clear e2
        by_cases hc10 : c = 10
        · have hq : (c == 10) = true := int_t hc10
          have hP : Hid (placeN s.data.toList (k + 1) = (L + 1, 1)) := by rw [Hid, hnx.out, if_pos (hcl.out.2 hc10)]
          go_wp2
          go_roundw
          case rel => exact ⟨by trivial, k + 1, by omega, by go_num, by rw [hP.out], by rw [hP.out]⟩
          case measure => simp [intOf]; omega
        · have hq : (c == 10) = false := int_f hc10
          have hP : Hid (placeN s.data.toList (k + 1) = (L, C + 1)) := by rw [Hid, hnx.out, if_neg (fun h => hc10 (hcl.out.1 h))]
          go_wp2
          go_roundw
          case rel => exact ⟨by trivial, k + 1, by omega, by go_num, by rw [hP.out], by rw [hP.out]⟩
          case measure => simp [intOf]; omega
      · obtain rfl : k = n := by omega
        have hlt' : ¬ (k : Int) < (k : Int) := by omega
        obtain ⟨L, C, hLC⟩ : ∃ L C, Hid (placeN s.data.toList k = (L, C)) := ⟨_, _, rfl⟩
        simp only [hLC.out]
        go_wp2
        refine bodyPost_ret (v := .tuple #[.int .i64 L, .int .i64 C, .int .i64 0]) (by simp [results, Tryd.results30, go_sem]) rfl ⟨by rw [hLC.out], rfl⟩
  · have hV : Hid (PlaceV s a = .tuple #[.int .i64 0, .int .i64 0, .int .i64 2]) := by
      unfold PlaceV; rw [Hid, if_neg h]
    rw [hV.out]
    by_cases h0 : 0 ≤ a
    · have h1 : (s.size : Int) < a := by omega
      go_enter Tryd.func30, Tryd.ntmps30
      go_wp2
      refine bodyPost_ret (v := .tuple #[.int .i64 0, .int .i64 0, .int .i64 2]) (by simp [results, Tryd.results30, go_sem]) rfl ⟨rfl, rfl⟩
    · have h1 : a < 0 := by omega
      go_enter Tryd.func30, Tryd.ntmps30
      go_wp2
      refine bodyPost_ret (v := .tuple #[.int .i64 0, .int .i64 0, .int .i64 2]) (by simp [results, Tryd.results30, go_sem]) rfl ⟨rfl, rfl⟩
theorem placeV_tuple (s : ByteArray) (a : Int) : ∃ x y z, PlaceV s a = .tuple #[.int .i64 x, .int .i64 y, .int .i64 z] := by
  unfold PlaceV
  split
  · exact ⟨_, _, _, rfl⟩
  · exact ⟨_, _, _, rfl⟩
theorem places_walk (s : ByteArray) (a : Int) (hs : s.size ≤ reachBytes) (h0 : -9223372036854775808 ≤ a) (h1 : a ≤ 9223372036854775807) (w : World) (T : LTabs w) :
    Calls Tryd.prog 7 #[.string s, .int .i64 a] w fun e w' => e = .returned (.bool true) ∧ LInv w w' := by
  obtain ⟨x, y, z, hV⟩ := placeV_tuple s a
  have H1 : Hid (Calls Tryd.prog 29 #[.string s, .int .i64 a] w fun e w' => e = .returned (.tuple #[.int .i64 x, .int .i64 y, .int .i64 z]) ∧ w = w') := by rw [← hV]; exact place_any s (Nat.le_trans hs (by decide)) a w
  have H2 : Hid (Calls Tryd.prog 30 #[.string s, .int .i64 a] w fun e w' => e = .returned (.tuple #[.int .i64 x, .int .i64 y, .int .i64 z]) ∧ w = w') := by rw [← hV]; exact rplace_any s (Nat.le_trans hs (by decide)) a w
  have HB := Lib.hid (begins_i (LInv.start T))
  clear T hV
  go_enter Tryd.func7, Tryd.ntmps7
  go_wp2_with (first
    | (go_at_call 29; refine (H1.out).mono ?_; rintro e w' ⟨rfl, rfl⟩)
    | (go_at_call 30; refine (H2.out).mono ?_; rintro e w' ⟨rfl, rfl⟩)
    | (go_at_call 21; refine (HB.out).mono ?_; rintro e w' ⟨rfl, hI⟩; have HI := Lib.hid hI; clear hI))
  go_ret
  exact ⟨rfl, HI.out⟩
end Go.Proofs.YteedpojchapjgaaDoor

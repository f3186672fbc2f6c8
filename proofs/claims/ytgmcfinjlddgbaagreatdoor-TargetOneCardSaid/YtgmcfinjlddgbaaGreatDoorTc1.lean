/- Target's byte writer: numbers and words. -/
import Derived.Test.YtgmcfinjlddgbaaGreatDoorTc0
import Derived.Lib.Zigzag
namespace Go.Proofs.YtgmcfinjlddgbaaGreatDoor
open Go.RowKit
set_option linter.unusedVariables false
set_option maxRecDepth 100000
theorem Yq.num {w W : World} {b : Nat} {t : List UInt8} (h : Yq w b t W) {a : Addr} {x : Int} (hx : Nm b w a x) : Nm b W a x ∧ W.cell? a = some (.int .i64 x) := by
  obtain ⟨g, o, ty, row, rfl, ho, hg, hn, hr⟩ := hx
  have h2 := h.own ho hg hn
  exact ⟨⟨g, o, ty, row, rfl, h2, hg, hn, hr⟩, by rw [cell_of_row _ _ o _ _ _ h2]; exact hr⟩
/-- The bytes of a number, of a word. -/
def u64 (x : Int) : Nat := (x % 18446744073709551616).toNat
def numY (x : Int) : List UInt8 := dgT (u64 x)
def wrdY (x : Int) : List UInt8 := dgT (Lib.zigzag x)
set_option maxHeartbeats 2000000 in
theorem y_num {w : World} {b : Nat} {txt : List UInt8} {W : World} (hq : Yq w b txt W) {g o : Nat} {x : Int} (hx : Nm b w ⟨g, o, none⟩ x) (h0 : -9223372036854775808 ≤ x ∧ x ≤ 9223372036854775807) (hlen : txt.length ≤ 70000000000000) :
    Calls Tryz.prog 108 #[.pointer (some ⟨b, 0, none⟩), .pointer (some ⟨g, o, none⟩)] W fun e w' => e = .returned (.tuple #[]) ∧ Yq w b (txt ++ numY x) w' := by
  have hc := (hq.num hx).2
  have hu : ((x % 18446744073709551616 : Int)) = ((u64 x : Nat) : Int) := by unfold u64; omega
  have hu2 : u64 x ≤ 18446744073709551615 := by unfold u64; omega
  have HD : Hid (∀ n : Int, n = (u64 x : Nat) → Calls Tryz.prog 109 #[.pointer (some ⟨b, 0, none⟩), .int .u64 n] W fun e w' => e = .returned (.tuple #[]) ∧ Yq w b (txt ++ numY x) w') := fun n h => by
    subst h
    exact (y_digits hq.wt _ hu2 (by omega)).mono fun _ _ ⟨h1, h2⟩ => ⟨h1, hq.trans h2⟩
  clear hx hq
  go_enter Tryz.func108, Tryz.ntmps108
  go_wp2_with fail
  go_at_call 109
  refine (HD.out _ (by rw [IntKind.wrap_u64]; exact hu)).mono ?_
  rintro e w2 ⟨rfl, hz⟩
  have HZ := Lib.hid hz
  clear hz
  go_wp2_with fail
  exact bodyPost_end (results_none rfl _ _ _) rfl ⟨rfl, HZ.out⟩
set_option maxHeartbeats 2000000 in
theorem y_wrd {w : World} {b : Nat} {txt : List UInt8} {W : World} (hq : Yq w b txt W) {g o : Nat} {x : Int} (hx : Nm b w ⟨g, o, none⟩ x) (h0 : -9223372036854775808 ≤ x ∧ x ≤ 9223372036854775807) (hlen : txt.length ≤ 70000000000000) :
    Calls Tryz.prog 85 #[.pointer (some ⟨b, 0, none⟩), .pointer (some ⟨g, o, none⟩)] W fun e w' => e = .returned (.tuple #[]) ∧ Yq w b (txt ++ wrdY x) w' := by
  have hc := (hq.num hx).2
  have hu2 : Lib.zigzag x ≤ 18446744073709551615 := Nat.le_of_lt_succ (Lib.zigzag_lt h0.1 h0.2)
  have HD : Hid (∀ n : Int, n = (Lib.zigzag x : Nat) → Calls Tryz.prog 109 #[.pointer (some ⟨b, 0, none⟩), .int .u64 n] W fun e w' => e = .returned (.tuple #[]) ∧ Yq w b (txt ++ wrdY x) w') := fun n h => by
    subst h
    exact (y_digits hq.wt _ hu2 (by omega)).mono fun _ _ ⟨h1, h2⟩ => ⟨h1, hq.trans h2⟩
  clear hx hq
  by_cases hneg : x < 0
  · go_enter Tryz.func85, Tryz.ntmps85
    go_wp2_with fail
    go_at_call 109
    refine (HD.out _ (Lib.zigzag_neg h0.1 hneg)).mono ?_
    rintro e w2 ⟨rfl, hz⟩
    have HZ := Lib.hid hz
    clear hz
    go_wp2_with fail
    exact bodyPost_end (results_none rfl _ _ _) rfl ⟨rfl, HZ.out⟩
  · go_enter Tryz.func85, Tryz.ntmps85
    go_wp2_with fail
    go_at_call 109
    refine (HD.out _ ((Lib.zigzag_nonneg (by omega)).symm)).mono ?_
    rintro e w2 ⟨rfl, hz⟩
    have HZ := Lib.hid hz
    clear hz
    go_wp2_with fail
    exact bodyPost_end (results_none rfl _ _ _) rfl ⟨rfl, HZ.out⟩
end Go.Proofs.YtgmcfinjlddgbaaGreatDoor

/- Words: what the document's own writing of a word comes to. -/
import Derived.Test.YtheajpdffkehnaaDoorInv
import Derived.Deep.RegionWith
import Derived.Lib.ItoaMem
import Derived.Laws.IdiomStrings
namespace Go.Proofs.YtheajpdffkehnaaDoor
open Go.RowKit
set_option linter.unusedVariables false

theorem bcell {W w1 : World} (hb : Below W.heap.size W w1) : ∀ b o, b < W.heap.size → w1.cell? ⟨b, o, none⟩ = W.cell? ⟨b, o, none⟩ :=
  fun b o h => hb.cell (p := ⟨b, o, none⟩) h
/-- One byte as a text. -/
def oneByte (c : Int) : ByteArray := ⟨#[UInt8.ofNat c.toNat]⟩
theorem conv1 (c : Int) (h0 : 0 ≤ c) (h1 : c ≤ 255) (b : Nat) (w : World) (hc : w.cell? ⟨b, 0, none⟩ = some (.int .u8 c)) :
    (convert 70 9 (.slice (some ⟨b, 0, none⟩) 1 1)).run Tryd.prog w = .ok (.string (oneByte c)) w := by
  have e : ((UInt8.ofNat c.toNat).toNat : Int) = c := by
    rw [UInt8.toNat_ofNat']
    omega
  have := run_convert_bytes_back (P := Tryd.prog) w 70 9 5 ⟨b, 0, none⟩ 1 [UInt8.ofNat c.toNat] Tryd.underlying70 Tryd.underlying5 Tryd.underlying9 (fun j hj => by
    have hj0 : j = 0 := by simpa using hj
    subst hj0
    show w.cell? ⟨b, 0, none⟩ = some (.int .u8 ((UInt8.ofNat c.toNat).toNat : Int))
    rw [hc, e])
  exact this
theorem digits_small (n : Int) (h0 : 0 ≤ n) (h : n < 10) (w : World) : Calls Tryd.prog 39 #[.int .u64 n] w fun e w' => e = .returned (.string (oneByte (48 + n))) ∧ Below w.heap.size w w' := by
  have hk := conv1 (48 + n) (by omega) (by omega)
  go_enter Tryd.func39, Tryd.ntmps39
  go_wp2
  go_ret
  exact ⟨rfl, (Below.refl _ _).alloc (Nat.le_refl _) _⟩
theorem end1 {w w1 : World} {o : Obj} (hb : Below w.drew.heap.size w.drew w1) : Below w.heap.size w (w1.alloc o) :=
  (show Below w.heap.size w w1 from ⟨hb.os, hb.tape, hb.output, hb.size, hb.block⟩).alloc hb.size _
theorem end2 {w w1 : World} {o : Obj} (hb : Below (w.alloc o).drew.heap.size (w.alloc o).drew w1) : Below w.heap.size w w1 := by
  have h1 : Below (w.alloc o).heap.size (w.alloc o) w1 := ⟨hb.os, hb.tape, hb.output, hb.size, hb.block⟩
  have h2 : Below w.heap.size w (w.alloc o) := (Below.refl _ _).alloc (Nat.le_refl _) _
  exact h2.trans (h1.mono h2.size)
set_option maxHeartbeats 4000000 in
theorem digits_great (n : Int) (h : 10 ≤ n) (h1 : n ≤ 18446744073709551615) (w : World) (v : ByteArray) (hvs : v.size ≤ 100)
    (ih : ∀ W : World, Calls Tryd.prog 39 #[.int .u64 (n / 10)] W fun e w' => e = .returned (.string v) ∧ Below W.heap.size W w') :
    Calls Tryd.prog 39 #[.int .u64 n] w fun e w' => e = .returned (.string (v ++ oneByte (48 + n % 10))) ∧ Below w.heap.size w w' := by
  have H := Lib.hid ih
  clear ih
  have hos : (oneByte (48 + n % 10)).size ≤ 1 := Nat.le_refl 1
  have hk := conv1 (48 + n % 10) (by omega) (by omega)
  have e1 : IntKind.u64.wrap (48 + n % 10) = 48 + n % 10 := IntWalk.u64_in _ (by omega)
  have e2 : IntKind.u8.wrap (48 + n % 10) = 48 + n % 10 := IntWalk.u8_in _ (by omega)
  have e3 : n.tmod 10 = n % 10 := Int.tmod_eq_emod_of_nonneg (by omega)
  have e4 : IntKind.u64.wrap (n.tdiv 10) = n / 10 := IntWalk.u64_quo _ _ (by omega)
  go_enter Tryd.func39, Tryd.ntmps39
  go_wp2_with fail
  go_region_with (go_at_call 39; refine (H.out _).mono ?_; rintro e w1 ⟨rfl, hb⟩; have hc := bcell hb)
  all_goals
    go_wp2
    go_ret
    refine ⟨rfl, ?_⟩
    first | exact end1 hb | exact end2 hb
theorem dec_last (n : Nat) (h : 10 ≤ n) : Lib.decDigits n = Lib.decDigits (n / 10) ++ [UInt8.ofNat (48 + n % 10)] := by
  rw [Lib.decDigits, dif_neg (by omega)]
theorem dec_len : ∀ (k n : Nat), n < 10 ^ (k + 1) → (Lib.decDigits n).length ≤ k + 1
  | k, n, h => by
    by_cases h10 : n < 10
    · rw [Lib.decDigits_one h10]; simp
    · cases k with
      | zero => simp at h; omega
      | succ k =>
        rw [dec_last n (by omega), List.length_append]
        have := dec_len k (n / 10) (by rw [Nat.pow_succ] at h; omega)
        simp; omega
theorem digits_nat : ∀ (m n : Nat), n ≤ m → n ≤ 18446744073709551615 → ∀ w : World, Calls Tryd.prog 39 #[.int .u64 (n : Int)] w fun e w' => e = .returned (.string ⟨(Lib.decDigits n).toArray⟩) ∧ Below w.heap.size w w'
  | 0, n, hm, h1, w => by
    obtain rfl : n = 0 := by omega
    have k := digits_small 0 (by decide) (by decide) w
    rw [Lib.decDigits_one (by decide)]
    exact k
  | m + 1, n, hm, h1, w => by
    by_cases h10 : n < 10
    · have k := digits_small (n : Int) (by omega) (by omega) w
      rw [Lib.decDigits_one h10]
      have e : oneByte (48 + (n : Int)) = ⟨[UInt8.ofNat (48 + n)].toArray⟩ := by
        unfold oneByte
        rw [show (48 + (n : Int)).toNat = 48 + n by omega]
      rw [e] at k
      exact k
    · have ih := digits_nat m (n / 10) (by omega) (by omega)
      have hl : (Lib.decDigits (n / 10)).length ≤ 20 := dec_len 19 (n / 10) (by
        have : (10 : Nat) ^ 20 = 100000000000000000000 := by decide
        rw [this]; omega)
      have k := digits_great (n : Int) (by omega) (by omega) w ⟨(Lib.decDigits (n / 10)).toArray⟩ (by
        show ((Lib.decDigits (n / 10)).toArray).size ≤ 100
        simp; omega) (fun W => by
        have := ih W
        rw [Int.natCast_ediv] at this
        exact this)
      have e : (ByteArray.mk (Lib.decDigits (n / 10)).toArray) ++ oneByte (48 + (n : Int) % 10) = ⟨(Lib.decDigits n).toArray⟩ := by
        rw [dec_last n (by omega)]
        unfold oneByte
        rw [show (48 + (n : Int) % 10).toNat = 48 + n % 10 by omega]
        apply ByteArray.ext
        simp [ByteArray.data_append]
      rw [e] at k
      exact k
theorem rprint_any (n : Int) (h0 : -9223372036854775808 ≤ n) (h1 : n ≤ 9223372036854775807) (w : World) :
    Calls Tryd.prog 28 #[.int .i64 n] w fun e w' => e = .returned (.string ⟨(Lib.itoa n).toArray⟩) ∧ Below w.heap.size w w' := by
  by_cases hn : 0 ≤ n
  · have H : Hid (∀ W : World, Calls Tryd.prog 39 #[.int .u64 n] W fun e w' => e = .returned (.string ⟨(Lib.itoa n).toArray⟩) ∧ Below W.heap.size W w') := fun W => by
      have k := digits_nat n.toNat n.toNat (Nat.le_refl _) (by omega) W
      rw [show ((n.toNat : Nat) : Int) = n from Int.toNat_of_nonneg hn] at k
      have e : Lib.itoa n = Lib.decDigits n.toNat := by unfold Lib.itoa; rw [if_neg (by omega)]
      rw [e]
      exact k
    obtain ⟨s, hs⟩ : ∃ s : ByteArray, s = ⟨(Lib.itoa n).toArray⟩ := ⟨_, rfl⟩
    rw [← hs] at H ⊢
    clear hs
    go_enter Tryd.func28, Tryd.ntmps28
    go_wp2_with (go_at_call 39; refine (H.out _).mono ?_; rintro e w1 ⟨rfl, hb⟩)
    go_ret
    exact ⟨rfl, hb⟩
  · have hl : (Lib.decDigits n.natAbs).length ≤ 20 := dec_len 19 n.natAbs (by
      have : (10 : Nat) ^ 20 = 100000000000000000000 := by decide
      rw [this]; omega)
    obtain ⟨s, hs⟩ : ∃ s : ByteArray, s = ⟨(Lib.decDigits n.natAbs).toArray⟩ := ⟨_, rfl⟩
    have hsz : s.size ≤ 100 := by
      rw [hs]
      show ((Lib.decDigits n.natAbs).toArray).size ≤ 100
      simp; omega
    have H : Hid (∀ W : World, Calls Tryd.prog 39 #[.int .u64 (-n)] W fun e w' => e = .returned (.string s) ∧ Below W.heap.size W w') := fun W => by
      have k := digits_nat n.natAbs n.natAbs (Nat.le_refl _) (by omega) W
      rw [show ((n.natAbs : Nat) : Int) = -n by omega, ← hs] at k
      exact k
    have e : (ByteArray.mk (Lib.itoa n).toArray) = ByteArray.mk #[45] ++ s := by
      rw [hs]
      unfold Lib.itoa
      rw [if_pos (by omega)]
      apply ByteArray.ext
      simp [ByteArray.data_append]
    rw [e]
    have e1 : IntKind.u64.wrap n = n + 18446744073709551616 := PlainAid.u64_neg (by omega) (by omega)
    have e2 : IntKind.u64.wrap (0 - (n + 18446744073709551616)) = -n := by rw [IntKind.wrap_u64]; omega
    have e3 : IntKind.u64.wrap (-(n + 18446744073709551616)) = -n := by rw [IntKind.wrap_u64]; omega
    clear hs e hl
    go_enter Tryd.func28, Tryd.ntmps28
    go_wp2_with (go_at_call 39; refine (H.out _).mono ?_; rintro e w1 ⟨rfl, hb⟩)
    go_ret
    exact ⟨rfl, hb⟩
end Go.Proofs.YtheajpdffkehnaaDoor

/- Right, walked, on. -/
import Derived.Test.YtmpljhfinmfnbaaDoorGt1
namespace Go.Proofs.YtmpljhfinmfnbaaDoor
open Go.RowKit
set_option linter.unusedVariables false
set_option maxRecDepth 100000
theorem rowI : RowT 87 9 := ⟨_, Tryd.underlying87, rfl, by kernel_rfl⟩
/-- An instruction's box, and the box of what it uses. -/
def Bq (w : World) (g : Nat) (r : Array Value) (u : Int) (W : World) : Prop := Own W w.heap.size 87 r ∧ Own W g 154 #[.int .u64 u] ∧ Below w.heap.size w W
theorem bq_below {w W W' : World} {g : Nat} {r : Array Value} {u : Int} (h : Bq w g r u W) (hb : Below W.heap.size W W') : Bq w g r u W' := ⟨h.1.below hb, h.2.1.below hb, h.2.2.trans (hb.mono h.2.2.size)⟩
set_option maxHeartbeats 8000000 in
theorem right_u (i : Ins) (hg : rgI i) (code mem : Int) (w : World) (T : TgT w) : Calls Tryd.prog 76 #[insV i, .int .i64 code, .int .i64 mem] w fun e w' => e = .returned (.bool (rightU i code mem)) ∧ Below w.heap.size w w' := by
  have HUS : Hid (∀ W, TgT W → Calls Tryd.prog 93 #[insV i] W fun e w' => e = .returned (.int .u64 (uB i.k i.o)) ∧ Below W.heap.size W w') := fun W T => usedBy_any i hg W T
  have HRO : Hid (∀ W, TgT W → Calls Tryd.prog 97 #[insV i] W fun e w' => e = .returned (.bool (opB i.k i.o)) ∧ Below W.heap.size W w') := fun W T => isRightOp_any i hg W T
  obtain ⟨k, o, d, a, b, ad, tt, wd, fr⟩ := i
  simp only [rightU, insV, insC] at HUS HRO ⊢
  have HK : Hid (∀ W, Calls Tryd.prog 96 #[.int .u8 k] W fun e w' => e = .returned (.bool (kB k)) ∧ W = w') := fun W => isKind_any k W
  have HWI : Hid (∀ W, Calls Tryd.prog 90 #[.int .i64 fr, .int .i64 4097] W fun e w' => e = .returned (.bool (inB fr 4097)) ∧ W = w') := fun W => within_any fr 4097 W
  generalize uB k o = u at HUS ⊢
  have HHS : Hid (∀ W, Calls Tryd.prog 95 #[.int .u64 u, .int .u64 64] W fun e w' => e = .returned (.bool (hasB u 64)) ∧ W = w') := fun W => has_any u 64 W
  generalize kB k = q1 at HK ⊢
  generalize inB fr 4097 = q2 at HWI ⊢
  generalize opB k o = q3 at HRO ⊢
  have al : Below w.heap.size w (w.alloc (.cells #[.int .u8 k, .int .u8 o, .int .i64 d, .int .i64 a, .int .i64 b, .int .i64 ad, .int .i64 tt, .int .i64 wd, .int .i64 fr] 87)) := (Below.refl _ w).alloc (Nat.le_refl _) _
  have O1 := Own.new w 87 #[.int .u8 k, .int .u8 o, .int .i64 d, .int .i64 a, .int .i64 b, .int .i64 ad, .int .i64 tt, .int .i64 wd, .int .i64 fr]
  have HT := Lib.hid (T.below al)
  obtain ⟨W0, hW0⟩ : ∃ W, W = w.alloc (.cells #[.int .u8 k, .int .u8 o, .int .i64 d, .int .i64 a, .int .i64 b, .int .i64 ad, .int .i64 tt, .int .i64 wd, .int .i64 fr] 87) := ⟨_, rfl⟩
  rw [← hW0] at al O1 HT
  have HW0 := Lib.hid hW0
  have HO1 := Lib.hid O1
  have HB := Lib.hid al
  clear hW0 al T hg
  go_enter Tryd.func76, Tryd.ntmps76
  go_upto_region 1 with (fail)
  rw [← HW0.out]
  clear HW0
  go_wp2_with (refine ld rowI rfl rfl rfl O1 rfl ?_)
  go_at_call 93
  refine (HUS.out _ HT.out).mono ?_
  rintro e w1 ⟨rfl, hb⟩
  have HT1 := Lib.hid (HT.out.below hb)
  have HO2 := Lib.hid (HO1.out.below hb)
  have HB2 := Lib.hid (HB.out.trans (hb.mono HB.out.size))
  clear hb O1 HUS HT HO1 HB
  have Q2 : Bq w w1.heap.size #[.int .u8 k, .int .u8 o, .int .i64 d, .int .i64 a, .int .i64 b, .int .i64 ad, .int .i64 tt, .int .i64 wd, .int .i64 fr] u (w1.alloc (.cells #[.int .u64 u] 154)) := ⟨HO2.out.alloc _, Own.new w1 _ _, HB2.out.alloc HB2.out.size _⟩
  have HT2 := Lib.hid (HT1.out.below ((Below.refl _ w1).alloc (Nat.le_refl _) (.cells #[.int .u64 u] 154)))
  obtain ⟨W2, hW2⟩ : ∃ W, W = w1.alloc (.cells #[.int .u64 u] 154) := ⟨_, rfl⟩
  rw [← hW2] at Q2 HT2
  have HW2 := Lib.hid hW2
  have HQ := Lib.hid Q2
  clear hW2 Q2 HT1 HO2 HB2
  go_upto_region 3 with (fail)
  rw [← HW2.out]
  clear HW2
  generalize w1.heap.size = g at HQ ⊢
  have HFT : Hid (∀ W n f c, Bq w g #[.int .u8 k, .int .u8 o, .int .i64 d, .int .i64 a, .int .i64 b, .int .i64 ad, .int .i64 tt, .int .i64 wd, .int .i64 fr] u W → Calls Tryd.prog 94 #[.int .i64 n, .int .u64 f, .int .i64 c, .pointer (some ⟨g, 0, none⟩)] W fun e w' => e = .returned (.bool (fitB (hasB u f) n c)) ∧ W = w') := fun W n f c h => fits_any u f n c _ W (by rw [cell_of_row _ _ 0 _ _ _ h.2.1]; rfl)
  have c0 : W2.cell? ⟨w.heap.size, 0, none⟩ = some (.int .u8 k) := by rw [cell_of_row _ _ 0 _ _ _ HQ.out.1]; rfl
  have c1 : W2.cell? ⟨w.heap.size, 1, none⟩ = some (.int .u8 o) := by rw [cell_of_row _ _ 1 _ _ _ HQ.out.1]; rfl
  have c2 : W2.cell? ⟨w.heap.size, 2, none⟩ = some (.int .i64 d) := by rw [cell_of_row _ _ 2 _ _ _ HQ.out.1]; rfl
  have c3 : W2.cell? ⟨w.heap.size, 3, none⟩ = some (.int .i64 a) := by rw [cell_of_row _ _ 3 _ _ _ HQ.out.1]; rfl
  have c4 : W2.cell? ⟨w.heap.size, 4, none⟩ = some (.int .i64 b) := by rw [cell_of_row _ _ 4 _ _ _ HQ.out.1]; rfl
  have c5 : W2.cell? ⟨w.heap.size, 5, none⟩ = some (.int .i64 ad) := by rw [cell_of_row _ _ 5 _ _ _ HQ.out.1]; rfl
  have c6 : W2.cell? ⟨w.heap.size, 6, none⟩ = some (.int .i64 tt) := by rw [cell_of_row _ _ 6 _ _ _ HQ.out.1]; rfl
  have c7 : W2.cell? ⟨w.heap.size, 7, none⟩ = some (.int .i64 wd) := by rw [cell_of_row _ _ 7 _ _ _ HQ.out.1]; rfl
  have c8 : W2.cell? ⟨w.heap.size, 8, none⟩ = some (.int .i64 fr) := by rw [cell_of_row _ _ 8 _ _ _ HQ.out.1]; rfl
  cases q1 with
  | false =>
    go_wp2_with (first | (go_at_call 96; refine (HK.out _).mono ?_; rintro e w' ⟨rfl, rfl⟩) | (go_at_call 90; refine (HWI.out _).mono ?_; rintro e w' ⟨rfl, rfl⟩))
    go_ret
    exact ⟨rfl, HQ.out.2.2⟩
  | true =>
  cases q2 with
  | false =>
    go_wp2_with (first | (go_at_call 96; refine (HK.out _).mono ?_; rintro e w' ⟨rfl, rfl⟩) | (go_at_call 90; refine (HWI.out _).mono ?_; rintro e w' ⟨rfl, rfl⟩))
    go_ret
    exact ⟨rfl, HQ.out.2.2⟩
  | true =>
  go_wp2_with (first | (go_at_call 96; refine (HK.out _).mono ?_; rintro e w' ⟨rfl, rfl⟩) | (go_at_call 90; refine (HWI.out _).mono ?_; rintro e w' ⟨rfl, rfl⟩))
  go_at_call 97
  refine (HRO.out _ HT2.out).mono ?_
  rintro e w3 ⟨rfl, hb⟩
  have HQ3 := Lib.hid (bq_below HQ.out hb)
  clear hb HQ HT2 HRO c0 c1 c2 c3 c4 c5 c6 c7 c8
  have c0 : w3.cell? ⟨w.heap.size, 0, none⟩ = some (.int .u8 k) := by rw [cell_of_row _ _ 0 _ _ _ HQ3.out.1]; rfl
  have c1 : w3.cell? ⟨w.heap.size, 1, none⟩ = some (.int .u8 o) := by rw [cell_of_row _ _ 1 _ _ _ HQ3.out.1]; rfl
  have c2 : w3.cell? ⟨w.heap.size, 2, none⟩ = some (.int .i64 d) := by rw [cell_of_row _ _ 2 _ _ _ HQ3.out.1]; rfl
  have c3 : w3.cell? ⟨w.heap.size, 3, none⟩ = some (.int .i64 a) := by rw [cell_of_row _ _ 3 _ _ _ HQ3.out.1]; rfl
  have c4 : w3.cell? ⟨w.heap.size, 4, none⟩ = some (.int .i64 b) := by rw [cell_of_row _ _ 4 _ _ _ HQ3.out.1]; rfl
  have c5 : w3.cell? ⟨w.heap.size, 5, none⟩ = some (.int .i64 ad) := by rw [cell_of_row _ _ 5 _ _ _ HQ3.out.1]; rfl
  have c6 : w3.cell? ⟨w.heap.size, 6, none⟩ = some (.int .i64 tt) := by rw [cell_of_row _ _ 6 _ _ _ HQ3.out.1]; rfl
  have c7 : w3.cell? ⟨w.heap.size, 7, none⟩ = some (.int .i64 wd) := by rw [cell_of_row _ _ 7 _ _ _ HQ3.out.1]; rfl
  have c8 : w3.cell? ⟨w.heap.size, 8, none⟩ = some (.int .i64 fr) := by rw [cell_of_row _ _ 8 _ _ _ HQ3.out.1]; rfl
  have cu : w3.cell? ⟨g, 0, none⟩ = some (.int .u64 u) := by rw [cell_of_row _ _ 0 _ _ _ HQ3.out.2.1]; rfl
  cases q3 with
  | false =>
    go_wp2_with fail
    go_ret
    exact ⟨rfl, HQ3.out.2.2⟩
  | true =>
  cases r0 : fitB (hasB u 2) d 16 with
  | false =>
    go_wp2_with (first | (go_at_call 94; refine (HFT.out _ _ _ _ HQ3.out).mono ?_; rintro e w' ⟨rfl, rfl⟩) | (go_at_call 95; refine (HHS.out _).mono ?_; rintro e w' ⟨rfl, rfl⟩))
    go_ret
    refine ⟨ret_bool ?_, HQ3.out.2.2⟩
    simp [*]
  | true =>
  cases r1 : fitB (hasB u 4) a 16 with
  | false =>
    go_wp2_with (first | (go_at_call 94; refine (HFT.out _ _ _ _ HQ3.out).mono ?_; rintro e w' ⟨rfl, rfl⟩) | (go_at_call 95; refine (HHS.out _).mono ?_; rintro e w' ⟨rfl, rfl⟩))
    go_ret
    refine ⟨ret_bool ?_, HQ3.out.2.2⟩
    simp [*]
  | true =>
  cases r2 : fitB (hasB u 8) b 16 with
  | false =>
    go_wp2_with (first | (go_at_call 94; refine (HFT.out _ _ _ _ HQ3.out).mono ?_; rintro e w' ⟨rfl, rfl⟩) | (go_at_call 95; refine (HHS.out _).mono ?_; rintro e w' ⟨rfl, rfl⟩))
    go_ret
    refine ⟨ret_bool ?_, HQ3.out.2.2⟩
    simp [*]
  | true =>
  cases r3 : fitB (hasB u 16) ad mem with
  | false =>
    go_wp2_with (first | (go_at_call 94; refine (HFT.out _ _ _ _ HQ3.out).mono ?_; rintro e w' ⟨rfl, rfl⟩) | (go_at_call 95; refine (HHS.out _).mono ?_; rintro e w' ⟨rfl, rfl⟩))
    go_ret
    refine ⟨ret_bool ?_, HQ3.out.2.2⟩
    simp [*]
  | true =>
  cases r4 : fitB (hasB u 32) tt code with
  | false =>
    go_wp2_with (first | (go_at_call 94; refine (HFT.out _ _ _ _ HQ3.out).mono ?_; rintro e w' ⟨rfl, rfl⟩) | (go_at_call 95; refine (HHS.out _).mono ?_; rintro e w' ⟨rfl, rfl⟩))
    go_ret
    refine ⟨ret_bool ?_, HQ3.out.2.2⟩
    simp [*]
  | true =>
  cases r5 : (wd == 0) with
  | true =>
    go_wp2_with (first | (go_at_call 94; refine (HFT.out _ _ _ _ HQ3.out).mono ?_; rintro e w' ⟨rfl, rfl⟩) | (go_at_call 95; refine (HHS.out _).mono ?_; rintro e w' ⟨rfl, rfl⟩))
    go_ret
    refine ⟨ret_bool ?_, HQ3.out.2.2⟩
    simp [*]
  | false =>
  cases r6 : hasB u 64 with
  | false =>
    go_wp2_with (first | (go_at_call 94; refine (HFT.out _ _ _ _ HQ3.out).mono ?_; rintro e w' ⟨rfl, rfl⟩) | (go_at_call 95; refine (HHS.out _).mono ?_; rintro e w' ⟨rfl, rfl⟩))
    go_ret
    refine ⟨ret_bool ?_, HQ3.out.2.2⟩
    simp [*]
  | true =>
    go_wp2_with (first | (go_at_call 94; refine (HFT.out _ _ _ _ HQ3.out).mono ?_; rintro e w' ⟨rfl, rfl⟩) | (go_at_call 95; refine (HHS.out _).mono ?_; rintro e w' ⟨rfl, rfl⟩))
    go_ret
    refine ⟨ret_bool ?_, HQ3.out.2.2⟩
    simp [*]
theorem right_any (i : Ins) (hg : rgI i) (code mem : Int) (w : World) (T : TgT w) : Calls Tryd.prog 76 #[insV i, .int .i64 code, .int .i64 mem] w fun e w' => e = .returned (.bool (rightB i code mem)) ∧ Below w.heap.size w w' := by
  rw [← rightU_eq]
  exact right_u i hg code mem w T
end Go.Proofs.YtmpljhfinmfnbaaDoor

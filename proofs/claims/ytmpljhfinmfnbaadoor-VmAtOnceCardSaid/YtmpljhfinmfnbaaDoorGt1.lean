/- Right, walked. -/
import Derived.Test.YtmpljhfinmfnbaaDoorGt0
namespace Go.Proofs.YtmpljhfinmfnbaaDoor
open Go.RowKit
set_option linter.unusedVariables false
set_option maxRecDepth 100000
def formTx : List (List UInt8) := [[], [115, 101, 116], [], [108, 111, 97, 100], [115, 116, 111, 114, 101], [115, 119, 97, 112], [102, 101, 110, 99, 101], [112, 114, 105, 110, 116], [106, 117, 109, 112], [122, 101, 114, 111], [104, 97, 108, 116]]
def opTx : List (List UInt8) := [[], [97, 100, 100], [115, 117, 98], [109, 117, 108], [100, 105, 118], [114, 101, 109], [97, 110, 100], [111, 114], [120, 111, 114], [115, 104, 108], [115, 104, 114], [105, 115], [105, 115, 110, 111, 116], [108, 101, 115, 115], [109, 111, 115, 116], [97, 98, 111, 118, 101], [108, 101, 97, 115, 116], [109, 105, 110, 117, 115], [110, 111, 116]]
/-- What target reads of package variables. -/
structure TgT (W : World) : Prop where
  lev : Tabs W
  nm : LNm W
  size : 0 < W.heap.size
  fw : ∀ j : Nat, j < 11 → W.cell? ⟨0, j * 2, none⟩ = some (.string ⟨(formTx.getD j []).toArray⟩)
  fu : ∀ j : Nat, j < 11 → W.cell? ⟨0, j * 2 + 1, none⟩ = some (.int .u64 (formU j))
theorem Tabs.below {W W' : World} (T : Tabs W) (h : Below W.heap.size W W') : Tabs W' := ⟨Nat.lt_of_lt_of_le T.size1 h.size, fun i hi => (h.cell (p := ⟨1, i, none⟩) T.size1).trans (T.lev i hi)⟩
theorem TgT.below {W W' : World} (T : TgT W) (h : Below W.heap.size W W') : TgT W' :=
  ⟨T.lev.below h, T.nm.below (Nat.le_refl _) h, Nat.lt_of_lt_of_le T.size h.size, fun j hj => (h.cell (p := ⟨0, j * 2, none⟩) T.size).trans (T.fw j hj), fun j hj => (h.cell (p := ⟨0, j * 2 + 1, none⟩) T.size).trans (T.fu j hj)⟩
theorem has_any (u f : Int) (w : World) : Calls Tryd.prog 95 #[.int .u64 u, .int .u64 f] w fun e w' => e = .returned (.bool (hasB u f)) ∧ w = w' := by
  go_enter Tryd.func95, Tryd.ntmps95
  go_wp2
  go_ret
  exact ⟨rfl, rfl⟩
theorem within_any (n c : Int) (w : World) : Calls Tryd.prog 90 #[.int .i64 n, .int .i64 c] w fun e w' => e = .returned (.bool (inB n c)) ∧ w = w' := by
  unfold inB
  by_cases h : 0 ≤ n
  · rw [decide_eq_true h, Bool.true_and]
    go_enter Tryd.func90, Tryd.ntmps90
    go_wp2
    go_ret
    exact ⟨rfl, rfl⟩
  · rw [decide_eq_false h, Bool.false_and]
    go_enter Tryd.func90, Tryd.ntmps90
    go_wp2
    go_ret
    exact ⟨rfl, rfl⟩
theorem isKind_any (k : Int) (w : World) : Calls Tryd.prog 96 #[.int .u8 k] w fun e w' => e = .returned (.bool (kB k)) ∧ w = w' := by
  unfold kB
  by_cases h : 0 < k
  · rw [decide_eq_true h, Bool.true_and]
    go_enter Tryd.func96, Tryd.ntmps96
    go_wp2
    go_ret
    exact ⟨rfl, rfl⟩
  · rw [decide_eq_false h, Bool.false_and]
    go_enter Tryd.func96, Tryd.ntmps96
    go_wp2
    go_ret
    exact ⟨rfl, rfl⟩
set_option maxHeartbeats 2000000 in
theorem usedBy_any (i : Ins) (hg : rgI i) (w : World) (T : TgT w) : Calls Tryd.prog 93 #[insV i] w fun e w' => e = .returned (.int .u64 (uB i.k i.o)) ∧ Below w.heap.size w w' := by
  obtain ⟨k, o, d, a, b, ad, tt, wd, fr⟩ := i
  obtain ⟨_, ho, _⟩ := hg
  simp only at ho
  have HK : Hid (∀ W, Calls Tryd.prog 96 #[.int .u8 k] W fun e w' => e = .returned (.bool (kB k)) ∧ W = w') := fun W => isKind_any k W
  have al : Below w.heap.size w (w.alloc (.cells #[.int .u8 k, .int .u8 o, .int .i64 d, .int .i64 a, .int .i64 b, .int .i64 ad, .int .i64 tt, .int .i64 wd, .int .i64 fr] 87)) := (Below.refl _ w).alloc (Nat.le_refl _) _
  have HT : Hid (Calls Tryd.prog 84 #[.int .u8 o] (w.alloc (.cells #[.int .u8 k, .int .u8 o, .int .i64 d, .int .i64 a, .int .i64 b, .int .i64 ad, .int .i64 tt, .int .i64 wd, .int .i64 fr] 87)) fun e w' => e = .returned (.bool (twoB o)) ∧ (w.alloc (.cells #[.int .u8 k, .int .u8 o, .int .i64 d, .int .i64 a, .int .i64 b, .int .i64 ad, .int .i64 tt, .int .i64 wd, .int .i64 fr] 87)) = w') := p_two o ho.1 ho.2 _ (T.lev.below al)
  have HB := Lib.hid al
  show Calls _ _ #[.agg #[.int .u8 k, .int .u8 o, .int .i64 d, .int .i64 a, .int .i64 b, .int .i64 ad, .int .i64 tt, .int .i64 wd, .int .i64 fr]] w _
  simp only
  cases hk : kB k with
  | false =>
    rw [hk] at HK
    have hu : uB k o = 0 := by unfold uB; rw [hk]; rfl
    rw [hu]
    clear hu hk al T HT
    go_enter Tryd.func93, Tryd.ntmps93
    go_wp2_with (go_at_call 96; refine (HK.out _).mono ?_; rintro e w' ⟨rfl, rfl⟩)
    go_ret
    exact ⟨rfl, HB.out⟩
  | true =>
    rw [hk] at HK
    have hu : uB k o = (bif twoB o then formU k else (if k = 2 then 7 else formU k)) := by unfold uB; rw [hk]; rfl
    rw [hu]
    have hf := T.fu
    have hz := T.size
    clear T al hu ho
    rcases kB_iff.1 hk with rfl | rfl | rfl | rfl | rfl | rfl | rfl | rfl | rfl | rfl
    · have hc := hf 1 (by decide)
      change w.cell? ⟨0, 3, none⟩ = some (.int .u64 66) at hc
      clear hf hk
      generalize twoB o = tb at HT ⊢
      cases tb
      · show Calls _ _ _ _ fun e w' => e = .returned (.int .u64 66) ∧ _
        go_enter Tryd.func93, Tryd.ntmps93
        go_wp2_with (first | (go_at_call 96; refine (HK.out _).mono ?_; rintro e w' ⟨rfl, rfl⟩) | (go_at_call 84; refine (HT.out).mono ?_; rintro e w' ⟨rfl, rfl⟩))
        go_ret
        exact ⟨by first | rfl | kernel_rfl, HB.out⟩
      · show Calls _ _ _ _ fun e w' => e = .returned (.int .u64 66) ∧ _
        go_enter Tryd.func93, Tryd.ntmps93
        go_wp2_with (first | (go_at_call 96; refine (HK.out _).mono ?_; rintro e w' ⟨rfl, rfl⟩) | (go_at_call 84; refine (HT.out).mono ?_; rintro e w' ⟨rfl, rfl⟩))
        go_ret
        exact ⟨rfl, HB.out⟩
    · have hc := hf 2 (by decide)
      change w.cell? ⟨0, 5, none⟩ = some (.int .u64 15) at hc
      clear hf hk
      generalize twoB o = tb at HT ⊢
      cases tb
      · show Calls _ _ _ _ fun e w' => e = .returned (.int .u64 7) ∧ _
        go_enter Tryd.func93, Tryd.ntmps93
        go_wp2_with (first | (go_at_call 96; refine (HK.out _).mono ?_; rintro e w' ⟨rfl, rfl⟩) | (go_at_call 84; refine (HT.out).mono ?_; rintro e w' ⟨rfl, rfl⟩))
        go_ret
        exact ⟨by first | rfl | kernel_rfl, HB.out⟩
      · show Calls _ _ _ _ fun e w' => e = .returned (.int .u64 15) ∧ _
        go_enter Tryd.func93, Tryd.ntmps93
        go_wp2_with (first | (go_at_call 96; refine (HK.out _).mono ?_; rintro e w' ⟨rfl, rfl⟩) | (go_at_call 84; refine (HT.out).mono ?_; rintro e w' ⟨rfl, rfl⟩))
        go_ret
        exact ⟨rfl, HB.out⟩
    · have hc := hf 3 (by decide)
      change w.cell? ⟨0, 7, none⟩ = some (.int .u64 18) at hc
      clear hf hk
      generalize twoB o = tb at HT ⊢
      cases tb
      · show Calls _ _ _ _ fun e w' => e = .returned (.int .u64 18) ∧ _
        go_enter Tryd.func93, Tryd.ntmps93
        go_wp2_with (first | (go_at_call 96; refine (HK.out _).mono ?_; rintro e w' ⟨rfl, rfl⟩) | (go_at_call 84; refine (HT.out).mono ?_; rintro e w' ⟨rfl, rfl⟩))
        go_ret
        exact ⟨by first | rfl | kernel_rfl, HB.out⟩
      · show Calls _ _ _ _ fun e w' => e = .returned (.int .u64 18) ∧ _
        go_enter Tryd.func93, Tryd.ntmps93
        go_wp2_with (first | (go_at_call 96; refine (HK.out _).mono ?_; rintro e w' ⟨rfl, rfl⟩) | (go_at_call 84; refine (HT.out).mono ?_; rintro e w' ⟨rfl, rfl⟩))
        go_ret
        exact ⟨rfl, HB.out⟩
    · have hc := hf 4 (by decide)
      change w.cell? ⟨0, 9, none⟩ = some (.int .u64 20) at hc
      clear hf hk
      generalize twoB o = tb at HT ⊢
      cases tb
      · show Calls _ _ _ _ fun e w' => e = .returned (.int .u64 20) ∧ _
        go_enter Tryd.func93, Tryd.ntmps93
        go_wp2_with (first | (go_at_call 96; refine (HK.out _).mono ?_; rintro e w' ⟨rfl, rfl⟩) | (go_at_call 84; refine (HT.out).mono ?_; rintro e w' ⟨rfl, rfl⟩))
        go_ret
        exact ⟨by first | rfl | kernel_rfl, HB.out⟩
      · show Calls _ _ _ _ fun e w' => e = .returned (.int .u64 20) ∧ _
        go_enter Tryd.func93, Tryd.ntmps93
        go_wp2_with (first | (go_at_call 96; refine (HK.out _).mono ?_; rintro e w' ⟨rfl, rfl⟩) | (go_at_call 84; refine (HT.out).mono ?_; rintro e w' ⟨rfl, rfl⟩))
        go_ret
        exact ⟨rfl, HB.out⟩
    · have hc := hf 5 (by decide)
      change w.cell? ⟨0, 11, none⟩ = some (.int .u64 18) at hc
      clear hf hk
      generalize twoB o = tb at HT ⊢
      cases tb
      · show Calls _ _ _ _ fun e w' => e = .returned (.int .u64 18) ∧ _
        go_enter Tryd.func93, Tryd.ntmps93
        go_wp2_with (first | (go_at_call 96; refine (HK.out _).mono ?_; rintro e w' ⟨rfl, rfl⟩) | (go_at_call 84; refine (HT.out).mono ?_; rintro e w' ⟨rfl, rfl⟩))
        go_ret
        exact ⟨by first | rfl | kernel_rfl, HB.out⟩
      · show Calls _ _ _ _ fun e w' => e = .returned (.int .u64 18) ∧ _
        go_enter Tryd.func93, Tryd.ntmps93
        go_wp2_with (first | (go_at_call 96; refine (HK.out _).mono ?_; rintro e w' ⟨rfl, rfl⟩) | (go_at_call 84; refine (HT.out).mono ?_; rintro e w' ⟨rfl, rfl⟩))
        go_ret
        exact ⟨rfl, HB.out⟩
    · have hc := hf 6 (by decide)
      change w.cell? ⟨0, 13, none⟩ = some (.int .u64 0) at hc
      clear hf hk
      generalize twoB o = tb at HT ⊢
      cases tb
      · show Calls _ _ _ _ fun e w' => e = .returned (.int .u64 0) ∧ _
        go_enter Tryd.func93, Tryd.ntmps93
        go_wp2_with (first | (go_at_call 96; refine (HK.out _).mono ?_; rintro e w' ⟨rfl, rfl⟩) | (go_at_call 84; refine (HT.out).mono ?_; rintro e w' ⟨rfl, rfl⟩))
        go_ret
        exact ⟨by first | rfl | kernel_rfl, HB.out⟩
      · show Calls _ _ _ _ fun e w' => e = .returned (.int .u64 0) ∧ _
        go_enter Tryd.func93, Tryd.ntmps93
        go_wp2_with (first | (go_at_call 96; refine (HK.out _).mono ?_; rintro e w' ⟨rfl, rfl⟩) | (go_at_call 84; refine (HT.out).mono ?_; rintro e w' ⟨rfl, rfl⟩))
        go_ret
        exact ⟨rfl, HB.out⟩
    · have hc := hf 7 (by decide)
      change w.cell? ⟨0, 15, none⟩ = some (.int .u64 4) at hc
      clear hf hk
      generalize twoB o = tb at HT ⊢
      cases tb
      · show Calls _ _ _ _ fun e w' => e = .returned (.int .u64 4) ∧ _
        go_enter Tryd.func93, Tryd.ntmps93
        go_wp2_with (first | (go_at_call 96; refine (HK.out _).mono ?_; rintro e w' ⟨rfl, rfl⟩) | (go_at_call 84; refine (HT.out).mono ?_; rintro e w' ⟨rfl, rfl⟩))
        go_ret
        exact ⟨by first | rfl | kernel_rfl, HB.out⟩
      · show Calls _ _ _ _ fun e w' => e = .returned (.int .u64 4) ∧ _
        go_enter Tryd.func93, Tryd.ntmps93
        go_wp2_with (first | (go_at_call 96; refine (HK.out _).mono ?_; rintro e w' ⟨rfl, rfl⟩) | (go_at_call 84; refine (HT.out).mono ?_; rintro e w' ⟨rfl, rfl⟩))
        go_ret
        exact ⟨rfl, HB.out⟩
    · have hc := hf 8 (by decide)
      change w.cell? ⟨0, 17, none⟩ = some (.int .u64 32) at hc
      clear hf hk
      generalize twoB o = tb at HT ⊢
      cases tb
      · show Calls _ _ _ _ fun e w' => e = .returned (.int .u64 32) ∧ _
        go_enter Tryd.func93, Tryd.ntmps93
        go_wp2_with (first | (go_at_call 96; refine (HK.out _).mono ?_; rintro e w' ⟨rfl, rfl⟩) | (go_at_call 84; refine (HT.out).mono ?_; rintro e w' ⟨rfl, rfl⟩))
        go_ret
        exact ⟨by first | rfl | kernel_rfl, HB.out⟩
      · show Calls _ _ _ _ fun e w' => e = .returned (.int .u64 32) ∧ _
        go_enter Tryd.func93, Tryd.ntmps93
        go_wp2_with (first | (go_at_call 96; refine (HK.out _).mono ?_; rintro e w' ⟨rfl, rfl⟩) | (go_at_call 84; refine (HT.out).mono ?_; rintro e w' ⟨rfl, rfl⟩))
        go_ret
        exact ⟨rfl, HB.out⟩
    · have hc := hf 9 (by decide)
      change w.cell? ⟨0, 19, none⟩ = some (.int .u64 36) at hc
      clear hf hk
      generalize twoB o = tb at HT ⊢
      cases tb
      · show Calls _ _ _ _ fun e w' => e = .returned (.int .u64 36) ∧ _
        go_enter Tryd.func93, Tryd.ntmps93
        go_wp2_with (first | (go_at_call 96; refine (HK.out _).mono ?_; rintro e w' ⟨rfl, rfl⟩) | (go_at_call 84; refine (HT.out).mono ?_; rintro e w' ⟨rfl, rfl⟩))
        go_ret
        exact ⟨by first | rfl | kernel_rfl, HB.out⟩
      · show Calls _ _ _ _ fun e w' => e = .returned (.int .u64 36) ∧ _
        go_enter Tryd.func93, Tryd.ntmps93
        go_wp2_with (first | (go_at_call 96; refine (HK.out _).mono ?_; rintro e w' ⟨rfl, rfl⟩) | (go_at_call 84; refine (HT.out).mono ?_; rintro e w' ⟨rfl, rfl⟩))
        go_ret
        exact ⟨rfl, HB.out⟩
    · have hc := hf 10 (by decide)
      change w.cell? ⟨0, 21, none⟩ = some (.int .u64 0) at hc
      clear hf hk
      generalize twoB o = tb at HT ⊢
      cases tb
      · show Calls _ _ _ _ fun e w' => e = .returned (.int .u64 0) ∧ _
        go_enter Tryd.func93, Tryd.ntmps93
        go_wp2_with (first | (go_at_call 96; refine (HK.out _).mono ?_; rintro e w' ⟨rfl, rfl⟩) | (go_at_call 84; refine (HT.out).mono ?_; rintro e w' ⟨rfl, rfl⟩))
        go_ret
        exact ⟨by first | rfl | kernel_rfl, HB.out⟩
      · show Calls _ _ _ _ fun e w' => e = .returned (.int .u64 0) ∧ _
        go_enter Tryd.func93, Tryd.ntmps93
        go_wp2_with (first | (go_at_call 96; refine (HK.out _).mono ?_; rintro e w' ⟨rfl, rfl⟩) | (go_at_call 84; refine (HT.out).mono ?_; rintro e w' ⟨rfl, rfl⟩))
        go_ret
        exact ⟨rfl, HB.out⟩
set_option maxHeartbeats 1000000 in
theorem isOperator_any (o : Int) (h0 : 0 ≤ o) (h1 : o ≤ 255) (w : World) (T : Tabs w) : Calls Tryd.prog 106 #[.int .u8 o] w fun e w' => e = .returned (.bool (decide (0 < levelOf o))) ∧ w = w' := by
  have HL : Hid (Calls Tryd.prog 99 #[.int .u8 o] w fun e w' => e = .returned (.int .i64 (levelOf o)) ∧ w = w') := level_any o h0 h1 w T
  generalize levelOf o = l at HL ⊢
  go_enter Tryd.func106, Tryd.ntmps106
  go_wp2_with (go_at_call 99; refine (HL.out).mono ?_; rintro e w' ⟨rfl, rfl⟩)
  go_ret
  exact ⟨rfl, rfl⟩
set_option maxHeartbeats 1000000 in
theorem isRightOp_any (i : Ins) (hg : rgI i) (w : World) (T : TgT w) : Calls Tryd.prog 97 #[insV i] w fun e w' => e = .returned (.bool (opB i.k i.o)) ∧ Below w.heap.size w w' := by
  obtain ⟨k, o, d, a, b, ad, tt, wd, fr⟩ := i
  obtain ⟨_, ho, _⟩ := hg
  simp only at ho
  have al : Below w.heap.size w (w.alloc (.cells #[.int .u8 k, .int .u8 o, .int .i64 d, .int .i64 a, .int .i64 b, .int .i64 ad, .int .i64 tt, .int .i64 wd, .int .i64 fr] 87)) := (Below.refl _ w).alloc (Nat.le_refl _) _
  have HO : Hid (Calls Tryd.prog 106 #[.int .u8 o] (w.alloc (.cells #[.int .u8 k, .int .u8 o, .int .i64 d, .int .i64 a, .int .i64 b, .int .i64 ad, .int .i64 tt, .int .i64 wd, .int .i64 fr] 87)) fun e w' => e = .returned (.bool (decide (0 < levelOf o))) ∧ (w.alloc (.cells #[.int .u8 k, .int .u8 o, .int .i64 d, .int .i64 a, .int .i64 b, .int .i64 ad, .int .i64 tt, .int .i64 wd, .int .i64 fr] 87)) = w') := isOperator_any o ho.1 ho.2 _ (T.lev.below al)
  have HB := Lib.hid al
  clear al T ho
  show Calls _ _ #[.agg #[.int .u8 k, .int .u8 o, .int .i64 d, .int .i64 a, .int .i64 b, .int .i64 ad, .int .i64 tt, .int .i64 wd, .int .i64 fr]] w _
  simp only [opB]
  generalize decide (0 < levelOf o) = l at HO ⊢
  by_cases h : k = 2
  · subst h
    show Calls _ _ _ _ fun e w' => e = .returned (.bool l) ∧ _
    go_enter Tryd.func97, Tryd.ntmps97
    go_wp2_with (go_at_call 106; refine (HO.out).mono ?_; rintro e w' ⟨rfl, rfl⟩)
    go_ret
    exact ⟨rfl, HB.out⟩
  · have q := int_f h
    rw [q]
    show Calls _ _ _ _ fun e w' => e = .returned (.bool (o == 0)) ∧ _
    clear HO h
    go_enter Tryd.func97, Tryd.ntmps97
    go_wp2_with fail
    go_ret
    exact ⟨rfl, HB.out⟩
theorem fits_any (u f n c : Int) (g : Nat) (w : World) (hc : w.cell? ⟨g, 0, none⟩ = some (.int .u64 u)) : Calls Tryd.prog 94 #[.int .i64 n, .int .u64 f, .int .i64 c, .pointer (some ⟨g, 0, none⟩)] w fun e w' => e = .returned (.bool (fitB (hasB u f) n c)) ∧ w = w' := by
  have HH : Hid (∀ W, Calls Tryd.prog 95 #[.int .u64 u, .int .u64 f] W fun e w' => e = .returned (.bool (hasB u f)) ∧ W = w') := fun W => has_any u f W
  have HW : Hid (∀ W, Calls Tryd.prog 90 #[.int .i64 n, .int .i64 c] W fun e w' => e = .returned (.bool (inB n c)) ∧ W = w') := fun W => within_any n c W
  unfold fitB
  generalize inB n c = l at HW ⊢
  generalize hb : hasB u f = b at HH ⊢
  cases b with
  | false =>
    show Calls _ _ _ _ fun e w' => e = .returned (.bool (n == 0)) ∧ _
    clear hb
    go_enter Tryd.func94, Tryd.ntmps94
    go_wp2_with (go_at_call 95; refine (HH.out _).mono ?_; rintro e w' ⟨rfl, rfl⟩)
    go_ret
    exact ⟨rfl, rfl⟩
  | true =>
    show Calls _ _ _ _ fun e w' => e = .returned (.bool l) ∧ _
    clear hb
    go_enter Tryd.func94, Tryd.ntmps94
    go_wp2_with (first | (go_at_call 95; refine (HH.out _).mono ?_; rintro e w' ⟨rfl, rfl⟩) | (go_at_call 90; refine (HW.out _).mono ?_; rintro e w' ⟨rfl, rfl⟩))
    go_ret
    exact ⟨rfl, rfl⟩
end Go.Proofs.YtmpljhfinmfnbaaDoor

/- How a law begins: both loads see what was there at first. -/
import Derived.Test.YtmpljhfinmfnbaaDoorVko
namespace Go.Proofs.YtmpljhfinmfnbaaDoor
open Go.RowKit
set_option linter.unusedVariables false
set_option maxRecDepth 100000
def smS : Nat → Vm
  | 0 => newV smO
  | i + 1 => (runV (smS i) ((i / 3 : Nat) : Int)).1
theorem smS_ok0 : (runV (smS 0) ((0 / 3 : Nat) : Int)).2.2 = 0 := by kernel_rfl
theorem smS_ok1 : (runV (smS 1) ((1 / 3 : Nat) : Int)).2.2 = 0 := by kernel_rfl
theorem smS_ok2 : (runV (smS 2) ((2 / 3 : Nat) : Int)).2.2 = 0 := by kernel_rfl
theorem smS_ok3 : (runV (smS 3) ((3 / 3 : Nat) : Int)).2.2 = 0 := by kernel_rfl
theorem smS_ok4 : (runV (smS 4) ((4 / 3 : Nat) : Int)).2.2 = 0 := by kernel_rfl
theorem smS_ok5 : (runV (smS 5) ((5 / 3 : Nat) : Int)).2.2 = 0 := by kernel_rfl
theorem smS_ok (i : Nat) (h : i < 6) : (runV (smS i) ((i / 3 : Nat) : Int)).2.2 = 0 := by
  match i, h with
  | 0, _ => exact smS_ok0
  | 1, _ => exact smS_ok1
  | 2, _ => exact smS_ok2
  | 3, _ => exact smS_ok3
  | 4, _ => exact smS_ok4
  | 5, _ => exact smS_ok5
theorem smS_right : ∀ i, VmR (smS i)
  | 0 => new_right (obR_of smO_ok) smO_rg
  | i + 1 => run_right (smS_right i) _
theorem smS_said (i : Nat) : (smS i).said.length ≤ i := by
  induction i with
  | zero => exact Nat.le_refl _
  | succ i ih =>
    have := run_said (smS i) ((i / 3 : Nat) : Int)
    show (runV (smS i) ((i / 3 : Nat) : Int)).1.said.length ≤ i + 1
    omega
theorem sm_r1 : (runV (smS 6) 0).2.2 = 181 := by kernel_rfl
theorem sm_d1 : (drainV (runV (smS 6) 0).1 0).2 = (⟨8, 0, 1, 0, 1, 0, false⟩, 0) := by kernel_rfl
theorem sm_r2 : (runV (drainV (runV (smS 6) 0).1 0).1 0).2 = (⟨6, 0, 3, 0, 0, 0, false⟩, 0) := by kernel_rfl
theorem sm_len : (runV (drainV (runV (smS 6) 0).1 0).1 0).1.cores.length = 2 := by kernel_rfl
/-- A machine of a law's own. -/
def MSt (w : World) (W : World) (p : Nat) (s : Vm) : Prop := ∃ F, VmS W p s F ∧ FIn w.heap.size F W ∧ Below w.heap.size w W
theorem StepF.mst {w W W' : World} {p : Nat} {s' : Vm} {F : List Nat} (h : StepF w.heap.size W p s' F W') (hF : FIn w.heap.size F W) (hb : Below w.heap.size w W) : MSt w W' p s' := by
  obtain ⟨F', h1, h2, h3, h4⟩ := h
  exact ⟨F', h1, h2, hb.trans (h3.below hb.size fun k o hk => .inl fun q => by have := (hF k q).1; omega)⟩
theorem MSt.below {w W W' : World} {p : Nat} {s : Vm} (h : MSt w W p s) (hb : Below W.heap.size W W') : MSt w W' p s := by
  obtain ⟨F, h1, h2, h3⟩ := h
  exact ⟨F, h1.below hb, h2.up hb.size, h3.trans (hb.mono h3.size)⟩
theorem Tabs.mst {w W : World} {p : Nat} {s : Vm} (T : Tabs w) (h : MSt w W p s) : Tabs W := by
  obtain ⟨F, _, _, hb⟩ := h
  exact T.below hb
theorem m_Run {w W : World} {p : Nat} {s : Vm} (h : MSt w W p s) (R : VmR s) (T : Tabs w) (hsl : s.said.length ≤ 4611686018427387904) (k : Int) : Calls Tryd.prog 17 #[.pointer (some ⟨p, 0, none⟩), .int .i64 k] W fun e w' => e = .returned (.tuple #[ddV (runV s k).2.1, .int .i64 (runV s k).2.2]) ∧ MSt w w' p (runV s k).1 := by
  have T' := T.mst h
  obtain ⟨F, h1, h2, h3⟩ := h
  exact (p_Run h1 R T' hsl T.size1 h3.size h2 k).mono fun e w' ⟨q1, q2⟩ => ⟨q1, q2.mst h2 h3⟩
theorem m_Drain {w W : World} {p : Nat} {s : Vm} (h : MSt w W p s) (R : VmR s) (k : Int) : Calls Tryd.prog 18 #[.pointer (some ⟨p, 0, none⟩), .int .i64 k] W fun e w' => e = .returned (.tuple #[ddV (drainV s k).2.1, .int .i64 (drainV s k).2.2]) ∧ MSt w w' p (drainV s k).1 := by
  obtain ⟨F, h1, h2, h3⟩ := h
  exact (p_Drain h1 R h3.size h2 k).mono fun e w' ⟨q1, q2⟩ => ⟨q1, q2.mst h2 h3⟩
theorem m_Cores {w W : World} {p : Nat} {s : Vm} (h : MSt w W p s) : Calls Tryd.prog 23 #[.pointer (some ⟨p, 0, none⟩)] W fun e w' => e = .returned (.int .i64 (s.cores.length : Int)) ∧ W = w' := by
  obtain ⟨F, h1, h2, h3⟩ := h
  exact p_Cores h1
set_option maxHeartbeats 16000000 in
theorem b_any (w : World) (T : Tabs w) (TG : TgT w) : Calls Tryd.prog 14 #[] w fun e w' => e = .returned (.bool true) ∧ Below w.heap.size w w' := by
  have HT := Lib.hid T
  have HN : Hid (∀ V a1 a5 c5, Below w.heap.size w V → intsAt V smO.mem a1 → corsAt V smO.cores a5 → Calls Tryd.prog 33 #[obV smO a1 2 a5 c5] V fun e w' => ∃ p, e = .returned (.tuple #[.pointer (some ⟨p, 0, none⟩), .int .i64 0]) ∧ MSt w w' p (smS 0)) := fun V a1 a5 c5 hb h1 h2 => by
    refine (p_New_ok smO smO_rg smO_fit h1 h2 (by decide) (by decide) (TG.below hb) smO_ok).mono ?_
    rintro e w' ⟨p, F, rfl, h3, h4, h5⟩
    exact ⟨p, rfl, F, h3, fun k hk => ⟨Nat.le_trans hb.size (h4 k hk).1, (h4 k hk).2⟩, hb.trans (h5.mono hb.size)⟩
  clear T TG
  go_enter Tryd.func14, Tryd.ntmps14
  go_wp2_with (first | (go_at_call 36; refine (p_small _).mono ?_; rintro e w1 ⟨a1, a5, c5, rfl, hm1, hc1, hb1⟩) | (go_at_call 33; refine (HN.out _ _ _ _ hb1 hm1 hc1).mono ?_; rintro e w2 ⟨p, rfl, hms⟩))
  go_loopg [3] 7 (fun m' u W => ∃ t : Nat, u = .int .i64 (t : Int) ∧ t ≤ 6 ∧ m' = 6 - t + 1 ∧ MSt w W p (smS t))
  case atStart => exact ⟨0, rfl, Nat.zero_le _, by omega, hms⟩
  case round =>
    clear hms hm1 hc1 hb1 HN
    obtain ⟨t, rfl, ht, hm, hx⟩ := hrel
    have HM := Lib.hid hm
    have HX := Lib.hid hx
    clear hm hx
    by_cases ht6 : t < 6
    · have ti : (t : Int) < 6 := by omega
      have e1 : (t : Int).tdiv 3 = ((t / 3 : Nat) : Int) := rfl
      have e3 : (t : Int) / 3 = ((t / 3 : Nat) : Int) := rfl
      have HR : Hid (Calls Tryd.prog 17 #[.pointer (some ⟨p, 0, none⟩), .int .i64 ((t / 3 : Nat) : Int)] wr fun e w' => e = .returned (.tuple #[ddV (runV (smS t) ((t / 3 : Nat) : Int)).2.1, .int .i64 0]) ∧ MSt w w' p (smS (t + 1))) := by
        have h1 := m_Run HX.out (smS_right t) HT.out (by have := smS_said t; omega) ((t / 3 : Nat) : Int)
        rw [smS_ok t ht6] at h1
        exact h1
      obtain ⟨q, hq⟩ : ∃ q, q = t / 3 := ⟨_, rfl⟩
      rw [← hq] at e1 e3 HR
      have hw : wrap64 (q : Int) = (q : Int) := by unfold wrap64; omega
      clear hq
      go_wp2_with (go_at_call 17; refine HR.out.mono ?_; rintro e w3 ⟨rfl, hms⟩)
      go_roundg (6 - (t + 1) + 1)
      case measure => have := HM.out; omega
      case rel => exact ⟨t + 1, by simp, by omega, rfl, hms⟩
    · have ht7 : t = 6 := by omega
      subst ht7
      have H1 : Hid (Calls Tryd.prog 17 #[.pointer (some ⟨p, 0, none⟩), .int .i64 0] wr fun e w' => e = .returned (.tuple #[.agg (ddC (runV (smS 6) 0).2.1).toArray, .int .i64 181]) ∧ MSt w w' p (runV (smS 6) 0).1) := by
        have h1 := m_Run HX.out (smS_right 6) HT.out (by have := smS_said 6; omega) 0
        rw [sm_r1] at h1
        exact h1
      have R1 := run_right (smS_right 6) 0
      have H2 : Hid (∀ V, MSt w V p (runV (smS 6) 0).1 → Calls Tryd.prog 18 #[.pointer (some ⟨p, 0, none⟩), .int .i64 0] V fun e w' => e = .returned (.tuple #[.agg #[.int .u8 8, .int .i64 0, .int .i64 1, .int .i64 0, .int .i64 1, .int .i64 0, .bool false], .int .i64 0]) ∧ MSt w w' p (drainV (runV (smS 6) 0).1 0).1) := fun V hV => by
        have h1 := m_Drain hV R1 0
        rw [sm_d1] at h1
        exact h1
      have H3 : Hid (∀ V F, VmS V p (drainV (runV (smS 6) 0).1 0).1 F → FIn w.heap.size F V → Below w.heap.size w V → Calls Tryd.prog 17 #[.pointer (some ⟨p, 0, none⟩), .int .i64 0] V fun e w' => e = .returned (.tuple #[.agg #[.int .u8 6, .int .i64 0, .int .i64 3, .int .i64 0, .int .i64 0, .int .i64 0, .bool false], .int .i64 0]) ∧ StepF w.heap.size V p (runV (drainV (runV (smS 6) 0).1 0).1 0).1 F w') := fun V F h1 h2 h3 => by
        have h1 := p_Run h1 (drain_right R1 0) (HT.out.below h3) (by have := smS_said 6; have := run_said (smS 6) 0; rw [drain_said]; omega) HT.out.size1 h3.size h2 0
        rw [sm_r2] at h1
        exact h1
      have H4 : Hid (∀ V, MSt w V p (runV (drainV (runV (smS 6) 0).1 0).1 0).1 → Calls Tryd.prog 23 #[.pointer (some ⟨p, 0, none⟩)] V fun e w' => e = .returned (.int .i64 2) ∧ V = w') := fun V hV => by
        have h1 := m_Cores hV
        rw [sm_len] at h1
        exact h1
      clear R1
      generalize (runV (drainV (runV (smS 6) 0).1 0).1 0).1 = s3 at H3 H4
      generalize (drainV (runV (smS 6) 0).1 0).1 = s2 at H2 H3
      generalize (runV (smS 6) 0).1 = s1 at H1 H2
      generalize (runV (smS 6) 0).2.1 = d1 at H1
      go_upto_region 11 with (first | (go_at_call 17; refine H1.out.mono ?_; rintro e w3 ⟨rfl, hm3⟩; have OD := Own.new w3 42 #[.int .u8 0, .int .i64 0, .int .i64 0, .int .i64 0, .int .i64 0, .int .i64 0, .bool false]) | (refine st rowD rfl rfl OD rfl rfl (by rfl) (by rfl) (by kernel_rfl) ?_))
      have al3 := Below.of_row ((Below.refl w3.heap.size w3).alloc (Nat.le_refl _) (.cells #[.int .u8 0, .int .i64 0, .int .i64 0, .int .i64 0, .int .i64 0, .int .i64 0, .bool false] 42)) (Nat.le_refl _) (ddC d1).toArray
      have HM3 := Lib.hid (hm3.below al3)
      clear OD al3 hm3 H1
      generalize (w3.alloc (.cells #[.int .u8 0, .int .i64 0, .int .i64 0, .int .i64 0, .int .i64 0, .int .i64 0, .bool false] 42)).setRow w3.heap.size (ddC d1).toArray = W3 at HM3 ⊢
      go_upto_region 12 with (first | (go_at_call 18; refine (H2.out _ HM3.out).mono ?_; rintro e w4 ⟨rfl, hm4⟩; have OD := Own.new w4 42 #[.int .u8 0, .int .i64 0, .int .i64 0, .int .i64 0, .int .i64 0, .int .i64 0, .bool false]) | (refine st rowD rfl rfl OD rfl rfl (by rfl) (by rfl) (by kernel_rfl) ?_))
      have al4 := Below.of_row ((Below.refl w4.heap.size w4).alloc (Nat.le_refl _) (.cells #[.int .u8 0, .int .i64 0, .int .i64 0, .int .i64 0, .int .i64 0, .int .i64 0, .bool false] 42)) (Nat.le_refl _) #[.int .u8 8, .int .i64 0, .int .i64 1, .int .i64 0, .int .i64 1, .int .i64 0, .bool false]
      obtain ⟨F4, hv4, hf4, hb4⟩ := hm4
      have HM4 : Hid (((VmS ((w4.alloc (.cells #[.int .u8 0, .int .i64 0, .int .i64 0, .int .i64 0, .int .i64 0, .int .i64 0, .bool false] 42)).setRow w4.heap.size #[.int .u8 8, .int .i64 0, .int .i64 1, .int .i64 0, .int .i64 1, .int .i64 0, .bool false]) p s2 F4 ∧ FIn w.heap.size F4 ((w4.alloc (.cells #[.int .u8 0, .int .i64 0, .int .i64 0, .int .i64 0, .int .i64 0, .int .i64 0, .bool false] 42)).setRow w4.heap.size #[.int .u8 8, .int .i64 0, .int .i64 1, .int .i64 0, .int .i64 1, .int .i64 0, .bool false])) ∧ Below w.heap.size w ((w4.alloc (.cells #[.int .u8 0, .int .i64 0, .int .i64 0, .int .i64 0, .int .i64 0, .int .i64 0, .bool false] 42)).setRow w4.heap.size #[.int .u8 8, .int .i64 0, .int .i64 1, .int .i64 0, .int .i64 1, .int .i64 0, .bool false])) ∧ Own ((w4.alloc (.cells #[.int .u8 0, .int .i64 0, .int .i64 0, .int .i64 0, .int .i64 0, .int .i64 0, .bool false] 42)).setRow w4.heap.size #[.int .u8 8, .int .i64 0, .int .i64 1, .int .i64 0, .int .i64 1, .int .i64 0, .bool false]) w4.heap.size 42 #[.int .u8 8, .int .i64 0, .int .i64 1, .int .i64 0, .int .i64 1, .int .i64 0, .bool false] ∧ ∀ k ∈ F4, k < w4.heap.size) := ⟨⟨⟨hv4.below al4, hf4.up al4.size⟩, hb4.trans (al4.mono hb4.size)⟩, OD.row _, fun k hk => (hf4 k hk).2⟩
      clear OD al4 hv4 hf4 hb4 H2 HM3
      generalize (w4.alloc (.cells #[.int .u8 0, .int .i64 0, .int .i64 0, .int .i64 0, .int .i64 0, .int .i64 0, .bool false] 42)).setRow w4.heap.size #[.int .u8 8, .int .i64 0, .int .i64 1, .int .i64 0, .int .i64 1, .int .i64 0, .bool false] = W4 at HM4 ⊢
      generalize w4.heap.size = b4 at HM4 ⊢
      go_upto_region 13 with (first | (go_at_call 17; refine (H3.out _ _ HM4.out.1.1.1 HM4.out.1.1.2 HM4.out.1.2).mono ?_; rintro e w5 ⟨rfl, hm5⟩; have OD := Own.new w5 42 #[.int .u8 0, .int .i64 0, .int .i64 0, .int .i64 0, .int .i64 0, .int .i64 0, .bool false]) | (refine st rowD rfl rfl OD rfl rfl (by rfl) (by rfl) (by kernel_rfl) ?_))
      have al5 := Below.of_row ((Below.refl w5.heap.size w5).alloc (Nat.le_refl _) (.cells #[.int .u8 0, .int .i64 0, .int .i64 0, .int .i64 0, .int .i64 0, .int .i64 0, .bool false] 42)) (Nat.le_refl _) #[.int .u8 6, .int .i64 0, .int .i64 3, .int .i64 0, .int .i64 0, .int .i64 0, .bool false]
      have HM5 : Hid (MSt w ((w5.alloc (.cells #[.int .u8 0, .int .i64 0, .int .i64 0, .int .i64 0, .int .i64 0, .int .i64 0, .bool false] 42)).setRow w5.heap.size #[.int .u8 6, .int .i64 0, .int .i64 3, .int .i64 0, .int .i64 0, .int .i64 0, .bool false]) p s3 ∧ Own ((w5.alloc (.cells #[.int .u8 0, .int .i64 0, .int .i64 0, .int .i64 0, .int .i64 0, .int .i64 0, .bool false] 42)).setRow w5.heap.size #[.int .u8 6, .int .i64 0, .int .i64 3, .int .i64 0, .int .i64 0, .int .i64 0, .bool false]) w5.heap.size 42 #[.int .u8 6, .int .i64 0, .int .i64 3, .int .i64 0, .int .i64 0, .int .i64 0, .bool false] ∧ Own ((w5.alloc (.cells #[.int .u8 0, .int .i64 0, .int .i64 0, .int .i64 0, .int .i64 0, .int .i64 0, .bool false] 42)).setRow w5.heap.size #[.int .u8 6, .int .i64 0, .int .i64 3, .int .i64 0, .int .i64 0, .int .i64 0, .bool false]) b4 42 #[.int .u8 8, .int .i64 0, .int .i64 1, .int .i64 0, .int .i64 1, .int .i64 0, .bool false]) := by
        have h1 := hm5.mst HM4.out.1.1.2 HM4.out.1.2
        obtain ⟨F5, _, _, hk, _⟩ := hm5
        exact ⟨h1.below al5, OD.row _, Own.below (hk.block _ _ HM4.out.2.1 (.inl fun q => Nat.lt_irrefl _ (HM4.out.2.2 _ q))) al5⟩
      clear OD al5 hm5 H3 HM4
      generalize (w5.alloc (.cells #[.int .u8 0, .int .i64 0, .int .i64 0, .int .i64 0, .int .i64 0, .int .i64 0, .bool false] 42)).setRow w5.heap.size #[.int .u8 6, .int .i64 0, .int .i64 3, .int .i64 0, .int .i64 0, .int .i64 0, .bool false] = W5 at HM5 ⊢
      generalize w5.heap.size = b5 at HM5 ⊢
      have q4_0 : W5.cell? ⟨b4, 0, none⟩ = some (.int .u8 8) := row_cellsO HM5.out.2.2 0 _ rfl
      have q4_1 : W5.cell? ⟨b4, 1, none⟩ = some (.int .i64 0) := row_cellsO HM5.out.2.2 1 _ rfl
      have q4_2 : W5.cell? ⟨b4, 2, none⟩ = some (.int .i64 1) := row_cellsO HM5.out.2.2 2 _ rfl
      have q4_3 : W5.cell? ⟨b4, 3, none⟩ = some (.int .i64 0) := row_cellsO HM5.out.2.2 3 _ rfl
      have q4_4 : W5.cell? ⟨b4, 4, none⟩ = some (.int .i64 1) := row_cellsO HM5.out.2.2 4 _ rfl
      have q4_5 : W5.cell? ⟨b4, 5, none⟩ = some (.int .i64 0) := row_cellsO HM5.out.2.2 5 _ rfl
      have q4_6 : W5.cell? ⟨b4, 6, none⟩ = some (.bool false) := row_cellsO HM5.out.2.2 6 _ rfl
      have q5_0 : W5.cell? ⟨b5, 0, none⟩ = some (.int .u8 6) := row_cellsO HM5.out.2.1 0 _ rfl
      have q5_1 : W5.cell? ⟨b5, 1, none⟩ = some (.int .i64 0) := row_cellsO HM5.out.2.1 1 _ rfl
      have q5_2 : W5.cell? ⟨b5, 2, none⟩ = some (.int .i64 3) := row_cellsO HM5.out.2.1 2 _ rfl
      have q5_3 : W5.cell? ⟨b5, 3, none⟩ = some (.int .i64 0) := row_cellsO HM5.out.2.1 3 _ rfl
      have q5_4 : W5.cell? ⟨b5, 4, none⟩ = some (.int .i64 0) := row_cellsO HM5.out.2.1 4 _ rfl
      have q5_5 : W5.cell? ⟨b5, 5, none⟩ = some (.int .i64 0) := row_cellsO HM5.out.2.1 5 _ rfl
      have q5_6 : W5.cell? ⟨b5, 6, none⟩ = some (.bool false) := row_cellsO HM5.out.2.1 6 _ rfl
      go_wp2_with (go_at_call 23; refine (H4.out _ HM5.out.1).mono ?_; rintro e w6 ⟨rfl, rfl⟩)
      go_ret
      obtain ⟨_, _, _, h⟩ := HM5.out.1
      exact ⟨rfl, h⟩
end Go.Proofs.YtmpljhfinmfnbaaDoor

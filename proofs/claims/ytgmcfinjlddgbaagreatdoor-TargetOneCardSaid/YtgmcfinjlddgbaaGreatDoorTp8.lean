/- Target's text reader: a whole text, walked. -/
import Derived.Test.YtgmcfinjlddgbaaGreatDoorTpq
namespace Go.Proofs.YtgmcfinjlddgbaaGreatDoor
open Go.RowKit
set_option linter.unusedVariables false
set_option maxRecDepth 100000
theorem cut_first (s : ByteArray) (c : UInt8) (h : (cutA s c).2.2 = true) : (cutA s c).1.size + 1 ≤ s.size := by
  have hi := idx_lt s.data.toList c
  have h2 : s.data.toList.length = s.size := Array.length_toList
  unfold cutA at h ⊢
  split at h
  · next h0 =>
    rw [if_pos h0]
    simp only [ByteArray.size_extract]
    omega
  · simp at h
theorem txS_stop (s : ByteArray) (n k a : Nat) (o : Ob) (h : ¬ (k < 2 ∨ a < s.size)) : txS s n k a o = ((0, true), o) := by
  cases n with
  | zero => rfl
  | succ n => rw [txS, if_neg h]
theorem txS_no (s : ByteArray) (n k a : Nat) (o : Ob) (h : k < 2 ∨ a < s.size) (hw : (cutA (s.extract a s.size) 10).2.2 = false) : txS s (n + 1) k a o = (((a : Int), false), o) := by
  rw [txS, if_pos h, if_neg (by rw [hw]; simp)]
theorem txS_bad (s : ByteArray) (n k a : Nat) (o : Ob) (h : k < 2 ∨ a < s.size) (hw : (cutA (s.extract a s.size) 10).2.2 = true) (hl : (lnS k (cutA (s.extract a s.size) 10).1 o).1 = false) : txS s (n + 1) k a o = (((a : Int), false), (lnS k (cutA (s.extract a s.size) 10).1 o).2) := by
  rw [txS, if_pos h, if_pos hw, if_neg (by rw [hl]; simp)]
theorem txS_step (s : ByteArray) (n k a : Nat) (o : Ob) (h : k < 2 ∨ a < s.size) (hw : (cutA (s.extract a s.size) 10).2.2 = true) (hl : (lnS k (cutA (s.extract a s.size) 10).1 o).1 = true) : txS s (n + 1) k a o = txS s n (k + 1) (a + (cutA (s.extract a s.size) 10).1.size + 1) (lnS k (cutA (s.extract a s.size) 10).1 o).2 := by
  rw [txS, if_pos h, if_pos hw, if_pos hl]
set_option maxHeartbeats 16000000 in
theorem t_object (s : ByteArray) (hs : s.size ≤ 16777216) (o : Ob) (hf : FitT o) {w W : World} {B g : Nat} (h : Rg w B g o W) (hB2 : B ≤ g) (HT : ∀ X, Below B w X → TgT X) :
    Calls Tryz.prog 69 #[.pointer (some ⟨g, 0, none⟩), .string s] W fun e w' => e = .returned (.tuple #[.int .i64 (txS s (s.size + 2) 0 0 o).1.1, .bool (txS s (s.size + 2) 0 0 o).1.2]) ∧ Rg w B g (txS s (s.size + 2) 0 0 o).2 w' ∧ FitT (txS s (s.size + 2) 0 0 o).2 := by
  obtain ⟨F, hF⟩ : ∃ F, F = txS s (s.size + 2) 0 0 o := ⟨_, rfl⟩
  rw [← hF]
  have HLN : Hid (∀ (X : World) (k : Nat) (t : ByteArray) (o' : Ob), Rg w B g o' X → k ≤ 9223372036854775807 → t.size ≤ 16777216 → FitT o' → Calls Tryz.prog 96 #[.pointer (some ⟨g, 0, none⟩), .int .i64 (k : Int), .string t] X fun e w' => e = .returned (.bool (lnS k t o').1) ∧ Rg w B g (lnS k t o').2 w' ∧ FitT (lnS k t o').2) := fun X k t o' h1 h2 h3 h4 => (t_line k t o' h1 h2 (by omega) h4 hB2 HT).mono fun _ _ ⟨e1, e2⟩ => ⟨e1, e2, ln_fit k t o' h4 (by omega)⟩
  have HCT : Hid (∀ X (t : ByteArray), t.size ≤ 16777216 → Calls Tryz.prog 95 #[.string t, .string ⟨#[10]⟩] X fun e w' => e = .returned (.tuple #[.string (cutA t 10).1, .string (cutA t 10).2.1, .bool (cutA t 10).2.2]) ∧ Below X.heap.size X w') := fun X t ht => cut_any t 10 (by omega) X
  have HBG := Lib.hid hB2
  have HX0 : Hid (txS s (s.size + 2) 0 0 o = F ∧ Rg w B g o W ∧ FitT o) := ⟨hF.symm, h, hf⟩
  have HSS : Hid (s.size ≤ 16777216) := hs
  clear hf h hB2 HT hF
  go_enter Tryz.func69, Tryz.ntmps69
  go_upto_region 2 with fail
  go_wp2_with fail
  go_loopg [6, 7] (s.size + 2) (fun m' z6 z7 X => ∃ (a k : Nat) (o' : Ob), z6 = .int .i64 (a : Int) ∧ z7 = .int .i64 (k : Int) ∧ a ≤ s.size ∧ k ≤ a ∧ s.size - a + 2 ≤ m' ∧ txS s m' k a o' = F ∧ Rg w B g o' X ∧ FitT o')
  case atStart => exact ⟨0, 0, o, rfl, rfl, by omega, by omega, by omega, HX0.out⟩
  case round =>
    clear HX0
    obtain ⟨a, k, o', rfl, rfl, ha, hk, hm, hf, hg, hfit⟩ := hrel
    by_cases hgo : k < 2 ∨ a < s.size
    rotate_left
    · have hstop := txS_stop s gk k a o' hgo
      rw [hstop] at hf
      subst hf
      have HG := Lib.hid (And.intro hg hfit)
      have h1 : ¬ (k : Int) < 2 := by omega
      have h2 : ¬ (a : Int) < (s.size : Int) := by omega
      clear hg hfit hgo hstop HLN HCT hm
      go_wp2_with fail
      refine bodyPost_ret (results_tmp2 rfl _ _ _) rfl ?_
      exact ⟨rfl, HG.out⟩
    obtain ⟨n, rfl⟩ : ∃ n, gk = n + 1 := ⟨gk - 1, by omega⟩
    have hxs : (s.extract a s.size).size ≤ 16777216 := by simp only [ByteArray.size_extract]; omega
    have hxe : (s.extract a s.size).size = s.size - a := by simp only [ByteArray.size_extract]; omega
    have HC2 : Hid (∀ X, Calls Tryz.prog 95 #[.string (s.extract a s.size), .string ⟨#[10]⟩] X fun e w' => e = .returned (.tuple #[.string (cutA (s.extract a s.size) 10).1, .string (cutA (s.extract a s.size) 10).2.1, .bool (cutA (s.extract a s.size) 10).2.2]) ∧ Below X.heap.size X w') := fun X => HCT.out X _ hxs
    have hcs := (cut_size (s.extract a s.size) 10).1
    have hcf := cut_first (s.extract a s.size) 10
    have t1 := txS_no s n k a o' hgo
    have t2 := txS_bad s n k a o' hgo
    have t3 := txS_step s n k a o' hgo
    rw [hf] at t1 t2 t3
    generalize cutA (s.extract a s.size) 10 = c at HC2 hcs hcf t1 t2 t3
    obtain ⟨x, x2, wh⟩ := c
    simp only at HC2 hcs hcf t1 t2 t3
    have HLN2 : Hid (∀ X, Rg w B g o' X → Calls Tryz.prog 96 #[.pointer (some ⟨g, 0, none⟩), .int .i64 (k : Int), .string x] X fun e w' => e = .returned (.bool (lnS k x o').1) ∧ Rg w B g (lnS k x o').2 w' ∧ FitT (lnS k x o').2) := fun X hX => HLN.out X k x o' hX (by omega) (by omega) hfit
    generalize lnS k x o' = l at HLN2 t2 t3
    obtain ⟨ok, o2⟩ := l
    simp only at HLN2 t2 t3
    have HG := Lib.hid (And.intro hg hfit)
    have HT1 := Lib.hid t1
    have HT2 := Lib.hid t2
    have HT3 := Lib.hid t3
    have HCF := Lib.hid hcf
    have HM := Lib.hid hm
    have HXE := Lib.hid hxe
    have ha' : (a : Int) ≤ (s.size : Int) := by omega
    have hk' : (k : Int) ≤ 16777216 := by omega
    have hx' : x.size ≤ 16777216 := by omega
    clear t1 t2 t3 hcf hm hf hg hfit hxs hxe HLN HCT hcs
    have hcond : ((k : Int) < 2) ∨ (¬ (k : Int) < 2 ∧ (a : Int) < (s.size : Int)) := by omega
    clear hgo
    rcases hcond with hc | ⟨hc, hc2⟩
    · cases wh with
      | false =>
        obtain rfl := HT1.out rfl
        clear HT1 HT2 HT3
        go_wp2_with (go_at_call 95; refine (HC2.out _).mono ?_; rintro e w2 ⟨rfl, hb⟩; have HG2 := Lib.hid (HG.out.1.below hb HBG.out); clear hb)
        refine bodyPost_ret (results_tmp2 rfl _ _ _) rfl ?_
        exact ⟨rfl, HG2.out, HG.out.2⟩
      | true =>
        cases ok with
        | false =>
          obtain rfl := HT2.out rfl rfl
          clear HT1 HT2 HT3
          go_wp2_with (first | (go_at_call 95; refine (HC2.out _).mono ?_; rintro e w2 ⟨rfl, hb⟩; have HG2 := Lib.hid (HG.out.1.below hb HBG.out); clear hb) | (go_at_call 96; refine (HLN2.out _ HG2.out).mono ?_; rintro e w3 ⟨rfl, hg3⟩; have HG3 := Lib.hid hg3; clear hg3))
          refine bodyPost_ret (results_tmp2 rfl _ _ _) rfl ?_
          exact ⟨rfl, HG3.out⟩
        | true =>
          have HF := Lib.hid (HT3.out rfl rfl)
          have hx2 : x.size + 1 ≤ s.size - a := by have := HCF.out rfl; have := HXE.out; omega
          clear HT1 HT2 HT3
          go_wp2_with (first | (go_at_call 95; refine (HC2.out _).mono ?_; rintro e w2 ⟨rfl, hb⟩; have HG2 := Lib.hid (HG.out.1.below hb HBG.out); clear hb) | (go_at_call 96; refine (HLN2.out _ HG2.out).mono ?_; rintro e w3 ⟨rfl, hg3⟩; have HG3 := Lib.hid hg3; clear hg3))
          go_roundg n
          case measure => omega
          case rel => exact ⟨a + x.size + 1, k + 1, o2, by simp; omega, by simp, by omega, by omega, by have := HM.out; omega, HF.out.symm, HG3.out⟩
    · cases wh with
      | false =>
        obtain rfl := HT1.out rfl
        clear HT1 HT2 HT3
        go_wp2_with (go_at_call 95; refine (HC2.out _).mono ?_; rintro e w2 ⟨rfl, hb⟩; have HG2 := Lib.hid (HG.out.1.below hb HBG.out); clear hb)
        refine bodyPost_ret (results_tmp2 rfl _ _ _) rfl ?_
        exact ⟨rfl, HG2.out, HG.out.2⟩
      | true =>
        cases ok with
        | false =>
          obtain rfl := HT2.out rfl rfl
          clear HT1 HT2 HT3
          go_wp2_with (first | (go_at_call 95; refine (HC2.out _).mono ?_; rintro e w2 ⟨rfl, hb⟩; have HG2 := Lib.hid (HG.out.1.below hb HBG.out); clear hb) | (go_at_call 96; refine (HLN2.out _ HG2.out).mono ?_; rintro e w3 ⟨rfl, hg3⟩; have HG3 := Lib.hid hg3; clear hg3))
          refine bodyPost_ret (results_tmp2 rfl _ _ _) rfl ?_
          exact ⟨rfl, HG3.out⟩
        | true =>
          have HF := Lib.hid (HT3.out rfl rfl)
          have hx2 : x.size + 1 ≤ s.size - a := by have := HCF.out rfl; have := HXE.out; omega
          clear HT1 HT2 HT3
          go_wp2_with (first | (go_at_call 95; refine (HC2.out _).mono ?_; rintro e w2 ⟨rfl, hb⟩; have HG2 := Lib.hid (HG.out.1.below hb HBG.out); clear hb) | (go_at_call 96; refine (HLN2.out _ HG2.out).mono ?_; rintro e w3 ⟨rfl, hg3⟩; have HG3 := Lib.hid hg3; clear hg3))
          go_roundg n
          case measure => omega
          case rel => exact ⟨a + x.size + 1, k + 1, o2, by simp; omega, by simp, by omega, by omega, by have := HM.out; omega, HF.out.symm, HG3.out⟩
end Go.Proofs.YtgmcfinjlddgbaaGreatDoor

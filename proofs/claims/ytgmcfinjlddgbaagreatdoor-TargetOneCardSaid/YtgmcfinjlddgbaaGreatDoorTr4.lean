/- An instruction begun by its word: walked. -/
import Derived.Test.YtgmcfinjlddgbaaGreatDoorTr3
namespace Go.Proofs.YtgmcfinjlddgbaaGreatDoor
open Go.RowKit
set_option linter.unusedVariables false
set_option maxRecDepth 100000
set_option maxHeartbeats 4000000 in
theorem begun_any (s : ByteArray) (w : World) (T : TgT w) : Calls Tryz.prog 134 #[.string s] w fun e w' => e = begE (begS s.data.toList) ∧ Below w.heap.size w w' := by
  have al : Below w.heap.size w (w.alloc (.cells (insC (insK 0 0)).toArray 25)) := (Below.refl _ w).alloc (Nat.le_refl _) _
  have O0 := Own.new w 25 (insC (insK 0 0)).toArray
  obtain ⟨W0, hW0⟩ : ∃ W, W = w.alloc (.cells (insC (insK 0 0)).toArray 25) := ⟨_, rfl⟩
  rw [← hW0] at al O0
  have T0 := T.below al
  have HT0 := Lib.hid T0
  have HB0 := Lib.hid al
  have HO0 := Lib.hid O0
  have HW0 := Lib.hid hW0
  have hsz : w.heap.size < W0.heap.size := O0.lt
  have HXF : Hid (∀ (X : World) (j : Nat), j < 11 → (Instr.index 118 (.agg #[.string ⟨#[]⟩, .int .u64 0, .string ⟨#[115, 101, 116]⟩, .int .u64 66, .string ⟨#[]⟩, .int .u64 15, .string ⟨#[108, 111, 97, 100]⟩, .int .u64 18, .string ⟨#[115, 116, 111, 114, 101]⟩, .int .u64 20, .string ⟨#[115, 119, 97, 112]⟩, .int .u64 18, .string ⟨#[102, 101, 110, 99, 101]⟩, .int .u64 0, .string ⟨#[112, 114, 105, 110, 116]⟩, .int .u64 4, .string ⟨#[106, 117, 109, 112]⟩, .int .u64 32, .string ⟨#[122, 101, 114, 111]⟩, .int .u64 36, .string ⟨#[104, 97, 108, 116]⟩, .int .u64 0]) (.int .i64 (j : Int))).run Tryz.prog X = .ok (.agg #[.string ⟨(formTx.getD j []).toArray⟩, .int .u64 (formU j)]) X) := idx_form
  have HXO : Hid (∀ (X : World) (j : Nat), j < 19 → (Instr.index 152 (.agg #[.string ⟨#[]⟩, .string ⟨#[97, 100, 100]⟩, .string ⟨#[115, 117, 98]⟩, .string ⟨#[109, 117, 108]⟩, .string ⟨#[100, 105, 118]⟩, .string ⟨#[114, 101, 109]⟩, .string ⟨#[97, 110, 100]⟩, .string ⟨#[111, 114]⟩, .string ⟨#[120, 111, 114]⟩, .string ⟨#[115, 104, 108]⟩, .string ⟨#[115, 104, 114]⟩, .string ⟨#[105, 115]⟩, .string ⟨#[105, 115, 110, 111, 116]⟩, .string ⟨#[108, 101, 115, 115]⟩, .string ⟨#[109, 111, 115, 116]⟩, .string ⟨#[97, 98, 111, 118, 101]⟩, .string ⟨#[108, 101, 97, 115, 116]⟩, .string ⟨#[109, 105, 110, 117, 115]⟩, .string ⟨#[110, 111, 116]⟩]) (.int .i64 (j : Int))).run Tryz.prog X = .ok (.string ⟨(opTx.getD j []).toArray⟩) X) := idx_op
  simp only [insC, insK] at O0 hW0 HW0 HO0
  clear hW0
  have HTW := Lib.hid T
  obtain ⟨res, hres⟩ : ∃ r, r = begS s.data.toList := ⟨_, rfl⟩
  rw [← hres]
  unfold begS at hres
  by_cases he : s.data.toList = []
  · rw [if_pos he] at hres
    subst hres
    obtain rfl : s = ⟨#[]⟩ := empty_bytes he
    show Calls _ _ _ _ fun e w' => e = .returned (.tuple #[insV (insK 0 0), .bool false]) ∧ _
    simp only [insV, insC, insK]
    go_enter Tryz.func134, Tryz.ntmps134
    go_upto_region 1 with (fail)
    rw [← HW0.out]
    clear HW0
    go_wp2_with (refine st rowI rfl rfl O0 rfl rfl (by rfl) (by rfl) (by kernel_rfl) ?_)
    refine p_ret2 rowI rfl (O0.row _) rfl rfl rfl rfl ?_
    exact ⟨rfl, Below.of_row HB0.out (Nat.le_refl _) _⟩
  rw [if_neg he] at hres
  have hne : (s.toList == ([] : List UInt8)) = false := by
    have h := bytes_eqF (a := s) (b := ⟨#[]⟩) (by rintro rfl; exact he rfl)
    simpa using h
  have HRES := Lib.hid hres
  clear hres he T al
  go_enter Tryz.func134, Tryz.ntmps134
  go_upto_region 1 with (fail)
  rw [← HW0.out]
  clear HW0
  go_wp2_with (refine ldc rowF rfl rfl rfl (form_cells T0) rfl ?_)
  clear T0 HT0 O0 hne
  go_loopg [12] 12 (fun m' z X => ∃ j : Nat, z = .int .i64 (j : Int) ∧ j ≤ 11 ∧ m' = 11 - j + 1 ∧ fndF formTx s.data.toList 11 0 = fndF formTx s.data.toList (11 - j) j ∧ Own X w.heap.size 25 #[.int .u8 0, .int .u8 0, .int .i64 0, .int .i64 0, .int .i64 0, .int .i64 0, .int .i64 0, .int .i64 0, .int .i64 0] ∧ Below w.heap.size w X)
  case atStart => exact ⟨0, rfl, by omega, by omega, rfl, HO0.out, HB0.out⟩
  case round =>
    clear HO0 HB0
    obtain ⟨j, rfl, hj, hm, hf, ho, hb⟩ := hrel
    have HM := Lib.hid hm
    have HF := Lib.hid hf
    have HO := Lib.hid ho
    have HB := Lib.hid hb
    clear hm hf ho hb
    by_cases hj11 : j < 11
    · have hx := fun X => HXF.out X j hj11
      have hft : fndF formTx s.data.toList (11 - j) j = if formTx.getD j [] = s.data.toList then some j else fndF formTx s.data.toList (11 - (j + 1)) (j + 1) := by
        rw [show 11 - j = (11 - (j + 1)) + 1 by omega]; rfl
      obtain ⟨fu, hfu⟩ : ∃ u, u = formU j := ⟨_, rfl⟩
      obtain ⟨fw, hfw⟩ : ∃ u : ByteArray, u = ⟨(formTx.getD j []).toArray⟩ := ⟨_, rfl⟩
      rw [← hfu, ← hfw] at hx
      have O3 := Own.new wr 117 #[.string fw, .int .u64 fu]
      have O4 := HO.out.alloc (.cells #[.string fw, .int .u64 fu] 117)
      have B4 := HB.out.alloc HB.out.size (.cells #[.string fw, .int .u64 fu] 117)
      obtain ⟨W3, hW3⟩ : ∃ W, W = wr.alloc (.cells #[.string fw, .int .u64 fu] 117) := ⟨_, rfl⟩
      rw [← hW3] at O3 O4 B4
      have HW3 := Lib.hid hW3
      have d0 : W3.cell? ⟨wr.heap.size, 0, none⟩ = some (.string fw) := by rw [cell_of_row _ _ 0 _ _ _ O3]; rfl
      have HB4 := Lib.hid B4
      have HO4 := Lib.hid O4
      clear hW3 O3 B4 HB HO
      have hj' : (j : Int) < 11 := by omega
      by_cases hq : formTx.getD j [] = s.data.toList
      · have q1 : (fw.toList == s.toList) = true := by rw [hfw]; exact eq_text hq
        have hres : res = (insK j 0, true) := by
          have h := HRES.out
          rw [HF.out, hft, if_pos hq] at h
          exact h
        subst hres
        clear hfw hfu hft HF HRES hq
        show Code.wp _ _ _ _ _
        go_upto_region 6 with (fail)
        rw [← HW3.out]
        clear HW3
        go_wp2_with (refine st rowI rfl rfl O4 rfl rfl (by rfl) (by rfl) (by kernel_rfl) ?_)
        refine p_ret2 rowI rfl (O4.row _) rfl rfl rfl rfl ?_
        exact ⟨rfl, Below.of_row HB4.out (Nat.le_refl _) _⟩
      · have q1 : (fw.toList == s.toList) = false := by rw [hfw]; exact ne_text hq
        have HF2 : Hid (fndF formTx s.data.toList 11 0 = fndF formTx s.data.toList (11 - (j + 1)) (j + 1)) := by
          rw [Hid, HF.out, hft, if_neg hq]
        clear hfw hfu hft HF hq
        go_upto_region 6 with (fail)
        rw [← HW3.out]
        clear HW3 O4
        go_wp2_with fail
        go_roundg (11 - (j + 1) + 1)
        case measure => have := HM.out; omega
        case rel => exact ⟨j + 1, by simp, by omega, by omega, HF2.out, HO4.out, HB4.out⟩
    obtain rfl : j = 11 := by omega
    have hn : fndF formTx s.data.toList 11 0 = none := HF.out
    have HRES2 : Hid (res = match fndF opTx s.data.toList 19 0 with | some o => (insK 2 o, true) | none => (insK 0 0, false)) := by
      have h := HRES.out
      rw [hn] at h
      exact h
    have T1 := HTW.out.below HB.out
    clear hn HF HRES HXF
    go_wp2_with (refine ldc rowW rfl rfl rfl (op_cells T1) rfl ?_)
    clear T1
    go_loopg [25] 20 (fun m' z X => ∃ j : Nat, z = .int .i64 (j : Int) ∧ j ≤ 19 ∧ m' = 19 - j + 1 ∧ fndF opTx s.data.toList 19 0 = fndF opTx s.data.toList (19 - j) j ∧ Own X w.heap.size 25 #[.int .u8 0, .int .u8 0, .int .i64 0, .int .i64 0, .int .i64 0, .int .i64 0, .int .i64 0, .int .i64 0, .int .i64 0] ∧ Below w.heap.size w X)
    case atStart => exact ⟨0, rfl, by omega, by omega, rfl, HO.out, HB.out⟩
    case round =>
      clear HO HB HM
      obtain ⟨j, rfl, hj, hm, hf, ho, hb⟩ := hrel
      have HM := Lib.hid hm
      have HF := Lib.hid hf
      have HO := Lib.hid ho
      have HB := Lib.hid hb
      clear hm hf ho hb
      by_cases hj19 : j < 19
      · have hx := fun X => HXO.out X j hj19
        have hft : fndF opTx s.data.toList (19 - j) j = if opTx.getD j [] = s.data.toList then some j else fndF opTx s.data.toList (19 - (j + 1)) (j + 1) := by
          rw [show 19 - j = (19 - (j + 1)) + 1 by omega]; rfl
        obtain ⟨fw, hfw⟩ : ∃ u : ByteArray, u = ⟨(opTx.getD j []).toArray⟩ := ⟨_, rfl⟩
        rw [← hfw] at hx
        have hj' : (j : Int) < 19 := by omega
        by_cases hq : opTx.getD j [] = s.data.toList
        · have q1 : (fw.toList == s.toList) = true := by rw [hfw]; exact eq_text hq
          have hres : res = (insK 2 j, true) := by
            have h := HRES2.out
            rw [HF.out, hft, if_pos hq] at h
            exact h
          subst hres
          have O4 := HO.out
          clear hfw hft HF HRES2 hq
          go_wp2_with (refine st rowI rfl rfl O4 rfl rfl (by rfl) (by rfl) (by kernel_rfl) ?_)
          refine p_ret2 rowI rfl (O4.row _) rfl rfl rfl rfl ?_
          exact ⟨rfl, Below.of_row HB.out (Nat.le_refl _) _⟩
        · have q1 : (fw.toList == s.toList) = false := by rw [hfw]; exact ne_text hq
          have HF2 : Hid (fndF opTx s.data.toList 19 0 = fndF opTx s.data.toList (19 - (j + 1)) (j + 1)) := by
            rw [Hid, HF.out, hft, if_neg hq]
          clear hfw hft HF hq
          go_wp2_with fail
          go_roundg (19 - (j + 1) + 1)
          case measure => have := HM.out; omega
          case rel => exact ⟨j + 1, by simp, by omega, by omega, HF2.out, HO.out, HB.out⟩
      obtain rfl : j = 19 := by omega
      have hn : fndF opTx s.data.toList 19 0 = none := HF.out
      have hres : res = (insK 0 0, false) := by
        have h := HRES2.out
        rw [hn] at h
        exact h
      subst hres
      have O4 := HO.out
      clear hn HF HRES2 HXO
      go_wp2_with (refine st rowI rfl rfl O4 rfl rfl (by rfl) (by rfl) (by kernel_rfl) ?_)
      refine p_ret2 rowI rfl (O4.row _) rfl rfl rfl rfl ?_
      exact ⟨rfl, Below.of_row HB.out (Nat.le_refl _) _⟩
end Go.Proofs.YtgmcfinjlddgbaaGreatDoor

/- Objects: isRightTop, walked. -/
import Derived.Test.YtmpljhfinmfnbaaDoorGo1
namespace Go.Proofs.YtmpljhfinmfnbaaDoor
open Go.RowKit Go.Maps
set_option linter.unusedVariables false
set_option maxRecDepth 100000
/-- What the loop over cores keeps. -/
def Tst (w : World) (m : Nat) (l : List Cor) (W : World) : Prop := corsB [] l = true ∧ Nx m (nmsO l) W ∧ Below w.heap.size w W
set_option maxHeartbeats 8000000 in
theorem top_any (o : Ob) (hf : fitO o) {v : Value} {w : World} (hv : obA w o v) (T : TgT w) : Calls Tryd.prog 75 #[v] w fun e w' => e = .returned (.bool (topB o)) ∧ Below w.heap.size w w' := by
  obtain ⟨a1, c1, a5, c5, rfl, _, h5⟩ := hv
  obtain ⟨mem, sh, lk, bf, cores⟩ := o
  obtain ⟨l1, l5, hfc⟩ := hf
  simp only [obV, topB] at l1 l5 hfc h5 ⊢
  obtain ⟨n1, hn1⟩ : ∃ n, n = mem.length := ⟨_, rfl⟩
  obtain ⟨n5, hn5⟩ : ∃ n, n = cores.length := ⟨_, rfl⟩
  rw [← hn1] at l1 ⊢
  rw [← hn5] at l5 ⊢
  have HN5 := Lib.hid hn5
  have HFC := Lib.hid hfc
  have E5 := Lib.hid h5
  have HT := Lib.hid T
  obtain ⟨R, hR⟩ : ∃ R, R = corsB [] cores := ⟨_, rfl⟩
  rw [← hR]
  have HR := Lib.hid hR
  have HWS : Hid (∀ W, Calls Tryd.prog 90 #[.int .i64 sh, .int .i64 65] W fun e w' => e = .returned (.bool (inB sh 65)) ∧ W = w') := fun W => within_any sh 65 W
  have HWL : Hid (∀ W, Calls Tryd.prog 90 #[.int .i64 lk, .int .i64 17] W fun e w' => e = .returned (.bool (inB lk 17)) ∧ W = w') := fun W => within_any lk 17 W
  have HS1 : Hid (inB sh 65 = true → 0 ≤ sh ∧ sh < 65) := fun h => by unfold inB at h; simpa using h
  have HS2 : Hid (inB lk 17 = true → 0 ≤ lk ∧ lk < 17) := fun h => by unfold inB at h; simpa using h
  generalize inB sh 65 = t1 at HWS HS1 ⊢
  generalize inB lk 17 = t2 at HWL HS2 ⊢
  have O0 := Own.new w 25 #[.slice a1 n1 c1, .int .i64 sh, .int .i64 lk, .int .i64 bf, .slice a5 n5 c5]
  have B0 : Below w.heap.size w (w.alloc (.cells #[.slice a1 n1 c1, .int .i64 sh, .int .i64 lk, .int .i64 bf, .slice a5 n5 c5] 25)) := (Below.refl _ w).alloc (Nat.le_refl _) _
  obtain ⟨W0, hW0⟩ : ∃ W, W = w.alloc (.cells #[.slice a1 n1 c1, .int .i64 sh, .int .i64 lk, .int .i64 bf, .slice a5 n5 c5] 25) := ⟨_, rfl⟩
  have hsz : W0.heap.size = w.heap.size + 1 := by rw [hW0]; simp
  rw [← hW0] at O0 B0
  have HW0 := Lib.hid hW0
  have HSZ := Lib.hid hsz
  have HB0 := Lib.hid B0
  have c0 : W0.cell? ⟨w.heap.size, 0, none⟩ = some (.slice a1 n1 c1) := by rw [cell_of_row _ _ 0 _ _ _ O0]; rfl
  have c1' : W0.cell? ⟨w.heap.size, 1, none⟩ = some (.int .i64 sh) := by rw [cell_of_row _ _ 1 _ _ _ O0]; rfl
  have c2 : W0.cell? ⟨w.heap.size, 2, none⟩ = some (.int .i64 lk) := by rw [cell_of_row _ _ 2 _ _ _ O0]; rfl
  have c3 : W0.cell? ⟨w.heap.size, 3, none⟩ = some (.int .i64 bf) := by rw [cell_of_row _ _ 3 _ _ _ O0]; rfl
  have c4 : W0.cell? ⟨w.heap.size, 4, none⟩ = some (.slice a5 n5 c5) := by rw [cell_of_row _ _ 4 _ _ _ O0]; rfl
  clear hn1 hn5 hfc h5 T hR hW0 hsz B0 O0
  cases t1 with
  | false =>
    go_enter Tryd.func75, Tryd.ntmps75
    go_upto_region 1 with (fail)
    rw [← HW0.out]
    go_wp2_with (first | (go_at_call_of 90 (Value.int .i64 sh); refine (HWS.out _).mono ?_; rintro e w' ⟨rfl, rfl⟩) | (go_at_call_of 90 (Value.int .i64 lk); refine (HWL.out _).mono ?_; rintro e w' ⟨rfl, rfl⟩))
    go_ret
    exact ⟨rfl, HB0.out⟩
  | true =>
  cases t2 with
  | false =>
    go_enter Tryd.func75, Tryd.ntmps75
    go_upto_region 1 with (fail)
    rw [← HW0.out]
    go_wp2_with (first | (go_at_call_of 90 (Value.int .i64 sh); refine (HWS.out _).mono ?_; rintro e w' ⟨rfl, rfl⟩) | (go_at_call_of 90 (Value.int .i64 lk); refine (HWL.out _).mono ?_; rintro e w' ⟨rfl, rfl⟩))
    go_ret
    exact ⟨rfl, HB0.out⟩
  | true =>
  obtain ⟨s0, s1⟩ := HS1.out rfl
  obtain ⟨k0, k1⟩ := HS2.out rfl
  by_cases p3 : sh + lk ≤ (n1 : Int)
  rotate_left
  · have p3n : (n1 : Int) < sh + lk := by omega
    have hr : (true && (true && (decide (sh + lk ≤ (n1 : Int)) && (decide (n1 ≤ 4096) && (decide (1 ≤ bf) && (decide (bf ≤ 16) && (decide (n5 ≤ 8) && R))))))) = false := by simp [p3]
    rw [hr]
    clear hr p3
    go_enter Tryd.func75, Tryd.ntmps75
    go_upto_region 1 with (fail)
    rw [← HW0.out]
    go_wp2_with (first | (go_at_call_of 90 (Value.int .i64 sh); refine (HWS.out _).mono ?_; rintro e w' ⟨rfl, rfl⟩) | (go_at_call_of 90 (Value.int .i64 lk); refine (HWL.out _).mono ?_; rintro e w' ⟨rfl, rfl⟩))
    go_ret
    exact ⟨rfl, HB0.out⟩
  by_cases p4 : n1 ≤ 4096
  rotate_left
  · have p4n : 4096 < (n1 : Int) := by omega
    have hr : (true && (true && (decide (sh + lk ≤ (n1 : Int)) && (decide (n1 ≤ 4096) && (decide (1 ≤ bf) && (decide (bf ≤ 16) && (decide (n5 ≤ 8) && R))))))) = false := by simp [p4]
    rw [hr]
    clear hr p4
    go_enter Tryd.func75, Tryd.ntmps75
    go_upto_region 1 with (fail)
    rw [← HW0.out]
    go_wp2_with (first | (go_at_call_of 90 (Value.int .i64 sh); refine (HWS.out _).mono ?_; rintro e w' ⟨rfl, rfl⟩) | (go_at_call_of 90 (Value.int .i64 lk); refine (HWL.out _).mono ?_; rintro e w' ⟨rfl, rfl⟩))
    go_ret
    exact ⟨rfl, HB0.out⟩
  by_cases p5 : 1 ≤ bf
  rotate_left
  · have p5n : bf < 1 := by omega
    have hr : (true && (true && (decide (sh + lk ≤ (n1 : Int)) && (decide (n1 ≤ 4096) && (decide (1 ≤ bf) && (decide (bf ≤ 16) && (decide (n5 ≤ 8) && R))))))) = false := by simp [p5]
    rw [hr]
    clear hr p5
    go_enter Tryd.func75, Tryd.ntmps75
    go_upto_region 1 with (fail)
    rw [← HW0.out]
    go_wp2_with (first | (go_at_call_of 90 (Value.int .i64 sh); refine (HWS.out _).mono ?_; rintro e w' ⟨rfl, rfl⟩) | (go_at_call_of 90 (Value.int .i64 lk); refine (HWL.out _).mono ?_; rintro e w' ⟨rfl, rfl⟩))
    go_ret
    exact ⟨rfl, HB0.out⟩
  by_cases p6 : bf ≤ 16
  rotate_left
  · have p6n : 16 < bf := by omega
    have hr : (true && (true && (decide (sh + lk ≤ (n1 : Int)) && (decide (n1 ≤ 4096) && (decide (1 ≤ bf) && (decide (bf ≤ 16) && (decide (n5 ≤ 8) && R))))))) = false := by simp [p6]
    rw [hr]
    clear hr p6
    go_enter Tryd.func75, Tryd.ntmps75
    go_upto_region 1 with (fail)
    rw [← HW0.out]
    go_wp2_with (first | (go_at_call_of 90 (Value.int .i64 sh); refine (HWS.out _).mono ?_; rintro e w' ⟨rfl, rfl⟩) | (go_at_call_of 90 (Value.int .i64 lk); refine (HWL.out _).mono ?_; rintro e w' ⟨rfl, rfl⟩))
    go_ret
    exact ⟨rfl, HB0.out⟩
  by_cases p7 : n5 ≤ 8
  rotate_left
  · have p7n : 8 < (n5 : Int) := by omega
    have hr : (true && (true && (decide (sh + lk ≤ (n1 : Int)) && (decide (n1 ≤ 4096) && (decide (1 ≤ bf) && (decide (bf ≤ 16) && (decide (n5 ≤ 8) && R))))))) = false := by simp [p7]
    rw [hr]
    clear hr p7
    go_enter Tryd.func75, Tryd.ntmps75
    go_upto_region 1 with (fail)
    rw [← HW0.out]
    go_wp2_with (first | (go_at_call_of 90 (Value.int .i64 sh); refine (HWS.out _).mono ?_; rintro e w' ⟨rfl, rfl⟩) | (go_at_call_of 90 (Value.int .i64 lk); refine (HWL.out _).mono ?_; rintro e w' ⟨rfl, rfl⟩))
    go_ret
    exact ⟨rfl, HB0.out⟩
  have hmm := @run_makeMap Tryd.prog
  have HX0 : Hid (Tst w (w.heap.size + 1) [] (W0.alloc (.map #[] 0))) := by
    have := nx_new W0
    rw [HSZ.out] at this
    exact ⟨rfl, this, HB0.out.alloc HB0.out.size _⟩
  have hs0 := HSZ.out
  go_enter Tryd.func75, Tryd.ntmps75
  go_upto_region 1 with (fail)
  rw [← HW0.out]
  go_upto_region 4 with (first | (go_at_call_of 90 (Value.int .i64 sh); refine (HWS.out _).mono ?_; rintro e w' ⟨rfl, rfl⟩) | (go_at_call_of 90 (Value.int .i64 lk); refine (HWL.out _).mono ?_; rintro e w' ⟨rfl, rfl⟩))
  obtain ⟨W1, hW1⟩ : ∃ W, W = W0.alloc (.map #[] 0) := ⟨_, rfl⟩
  have c4 : W1.cell? ⟨w.heap.size, 4, none⟩ = some (.slice a5 n5 c5) := by rw [hW1, ((Below.refl W0.heap.size W0).alloc (Nat.le_refl _) (.map #[] 0)).cell (p := ⟨w.heap.size, 4, none⟩) (lt_of_at c4)]; exact c4
  rw [← hW1] at HX0 ⊢
  clear hW1 hmm hs0 HW0 c0 c1' c2 c3 HWS HWL HS1 HS2
  go_wp2_with fail
  go_loopg [53] (n5 + 1) (fun m' u W => ∃ t : Nat, u = .int .i64 (t : Int) ∧ t ≤ n5 ∧ m' = n5 - t + 1 ∧ Tst w (w.heap.size + 1) (cores.take t) W)
  case atStart => exact ⟨0, rfl, Nat.zero_le _, by omega, by rw [List.take_zero]; exact HX0.out⟩
  case round =>
    clear HX0 c4
    obtain ⟨t, rfl, ht, hm, hx⟩ := hrel
    have HM := Lib.hid hm
    have HX := Lib.hid hx
    clear hm hx
    by_cases htn : t < n5
    rotate_left
    · have htn2 : t = n5 := by omega
      subst htn2
      have hr : R = true := by
        have h := HX.out.1
        rw [show cores.take t = cores by rw [HN5.out, List.take_length]] at h
        rw [HR.out]; exact h
      go_wp2_with fail
      go_ret
      refine ⟨ret_bool ?_, HX.out.2.2⟩
      rw [hr]; simp [*]
    have il : t < cores.length := by have := HN5.out; omega
    have g1 : cores[t]? = some cores[t] := List.getElem?_eq_getElem il
    have hmem : cores[t] ∈ cores := List.getElem_mem il
    have htk : cores.take (t + 1) = cores.take t ++ [cores[t]] := by rw [List.take_succ_eq_append_getElem il]
    have hdr : cores = cores.take t ++ (cores[t] :: cores.drop (t + 1)) := by rw [← List.drop_eq_getElem_cons il, List.take_append_drop]
    generalize cores[t] = x at g1 hmem htk hdr
    have hbad : corB (nmsO (cores.take t)) x = false → R = false := fun h => by
      rw [HR.out, hdr, corsB_app, List.nil_append]
      show (_ && (corB _ x && _)) = false
      rw [h]; simp
    have hgood : corB (nmsO (cores.take t)) x = true → corsB [] (cores.take (t + 1)) = true := fun h => by
      rw [htk, corsB_app, HX.out.1, List.nil_append]
      show (true && (corB _ x && true)) = true
      rw [h]; rfl
    rcases E5.out with e | ⟨g, q, e, e1⟩
    · subst e; simp at il
    obtain rfl : a5 = some ⟨g, q, none⟩ := e
    obtain ⟨f0, a2, c2, f1, y2⟩ := e1 t x g1
    obtain ⟨hz1, hz2⟩ := HFC.out x hmem
    have hnml : (nmsO (cores.take t)).length = t := by unfold nmsO; rw [List.length_map, List.length_take]; omega
    have hnm1 : nmsO (cores.take (t + 1)) = nmsO (cores.take t) ++ [x.name.data.toList] := by rw [htk]; simp [nmsO]
    obtain ⟨nm, cd⟩ := x
    simp only [corB] at f0 f1 y2 hz1 hz2 hbad hgood hnm1
    have HNAME : Hid (∀ W, Below w.heap.size w W → Calls Tryd.prog 91 #[.string nm] W fun e w' => e = .returned (.bool (nameB nm)) ∧ W = w') := fun W h => isname_any nm W (HT.out.nm.below (Nat.le_refl _) h)
    have HCODE : Hid (∀ W, Below w.heap.size w W → Calls Tryd.prog 92 #[.slice a2 cd.length c2] W fun e w' => e = .returned (.bool (codeB cd)) ∧ W = w') := fun W h => code_any cd hz2 (insAt_below y2 h)
    have BX := HX.out.2.2
    have k0' : wr.cell? ⟨g, q + t * 2, none⟩ = some (.string nm) := (BX.cell (p := ⟨g, q + t * 2, none⟩) (lt_of_at f0)).trans f0
    have k1' : wr.cell? ⟨g, q + t * 2 + 1, none⟩ = some (.slice a2 cd.length c2) := (BX.cell (p := ⟨g, q + t * 2 + 1, none⟩) (lt_of_at f1)).trans f1
    have htn' : (t : Int) < (n5 : Int) := by omega
    obtain ⟨nc, hnc⟩ : ∃ n, n = cd.length := ⟨_, rfl⟩
    rw [← hnc] at HCODE k1'
    have hsz := BX.size
    have NX1 : Nx (w.heap.size + 1) (nmsO (cores.take t)) (wr.alloc (.cells #[.string nm, .slice a2 nc c2] 83)) := nx_same HX.out.2.1 (((Below.refl wr.heap.size wr).alloc (Nat.le_refl _) _).block _ (by obtain ⟨D, hD, _⟩ := HX.out.2.1; exact hD.lt))
    have hml : w.heap.size + 1 < wr.heap.size := by obtain ⟨D, hD, _⟩ := HX.out.2.1; exact hD.lt
    have O1 := Own.new wr 83 #[.string nm, .slice a2 nc c2]
    have B1 := BX.alloc hsz (.cells #[.string nm, .slice a2 nc c2] 83)
    have hlk := nx_look NX1 nm (by unfold maxLen; omega)
    obtain ⟨Z, hup, hgr, hlk2, hnx⟩ := nx_put NX1 nm (by unfold maxLen; omega) (by omega)
    have OZ : Own Z wr.heap.size 83 #[.string nm, .slice a2 nc c2] := (hgr.block _ (by simp) (fun e => by have := Option.some.inj e; omega)).trans O1
    have BZ : Below w.heap.size w Z := B1.grown hgr (by simp; omega) (fun k hk => by have := Option.some.inj hk; omega)
    obtain ⟨W2, hW2⟩ : ∃ W, W = wr.alloc (.cells #[.string nm, .slice a2 nc c2] 83) := ⟨_, rfl⟩
    rw [← hW2] at hlk hup O1
    have HW2 := Lib.hid hW2
    have HOZ := Lib.hid OZ
    have HBZ := Lib.hid BZ
    have HBAD := Lib.hid hbad
    have HGOOD := Lib.hid hgood
    have HNX := Lib.hid hnx
    have HNM1 := Lib.hid hnm1
    have d0 : W2.cell? ⟨wr.heap.size, 0, none⟩ = some (.string nm) := by rw [cell_of_row _ _ 0 _ _ _ O1]; rfl
    have z0 : Z.cell? ⟨wr.heap.size, 0, none⟩ = some (.string nm) := by rw [cell_of_row _ _ 0 _ _ _ OZ]; rfl
    have z1 : Z.cell? ⟨wr.heap.size, 1, none⟩ = some (.slice a2 nc c2) := by rw [cell_of_row _ _ 1 _ _ _ OZ]; rfl
    clear hW2 OZ BZ hbad hgood hnx hnm1 B1 O1 NX1 hgr BX f0 f1 y2 e1 g1 hmem htk hdr hnc hz1 hz2 hsz hml hnml il
    generalize codeB cd = bc at HCODE HBAD HGOOD
    generalize nameB nm = bn at HNAME HBAD HGOOD
    generalize hseen : (nmsO (cores.take t)).contains nm.data.toList = sn at hlk hup hlk2 HNX HBAD HGOOD
    go_upto_region 7 with (fail)
    rw [← HW2.out]
    clear HW2 hseen
    cases sn with
    | true =>
      change _ = Result.ok (Value.int .i64 1) _ at hlk
      change (Instr.mapUpdate _ _ _ (.int .i64 2)).run _ _ = _ at hup
      change _ = Result.ok (Value.int .i64 2) _ at hlk2
      have hr := HBAD.out (by simp)
      cases bn with
      | false =>
        go_wp2_with (go_at_call 91; refine (HNAME.out _ HBZ.out).mono ?_; rintro e w' ⟨rfl, rfl⟩)
        go_ret
        refine ⟨ret_bool ?_, HBZ.out⟩
        rw [hr]; simp
      | true =>
        go_wp2_with (go_at_call 91; refine (HNAME.out _ HBZ.out).mono ?_; rintro e w' ⟨rfl, rfl⟩)
        go_ret
        refine ⟨ret_bool ?_, HBZ.out⟩
        rw [hr]; simp
    | false =>
      change _ = Result.ok (Value.int .i64 0) _ at hlk
      change (Instr.mapUpdate _ _ _ (.int .i64 1)).run _ _ = _ at hup
      change _ = Result.ok (Value.int .i64 1) _ at hlk2
      cases bn with
      | false =>
        have hr := HBAD.out (by simp)
        go_wp2_with (go_at_call 91; refine (HNAME.out _ HBZ.out).mono ?_; rintro e w' ⟨rfl, rfl⟩)
        go_ret
        refine ⟨ret_bool ?_, HBZ.out⟩
        rw [hr]; simp
      | true =>
      cases bc with
      | false =>
        have hr := HBAD.out (by simp)
        go_wp2_with (first | (go_at_call 91; refine (HNAME.out _ HBZ.out).mono ?_; rintro e w' ⟨rfl, rfl⟩) | (go_at_call 92; refine (HCODE.out _ HBZ.out).mono ?_; rintro e w' ⟨rfl, rfl⟩))
        go_ret
        refine ⟨ret_bool ?_, HBZ.out⟩
        rw [hr]; simp
      | true =>
        have hg := HGOOD.out (by simp)
        have HXZ : Hid (Tst w (w.heap.size + 1) (cores.take (t + 1)) Z) := ⟨hg, by rw [HNM1.out]; exact HNX.out rfl, HBZ.out⟩
        clear hg
        go_wp2_with (first | (go_at_call 91; refine (HNAME.out _ HBZ.out).mono ?_; rintro e w' ⟨rfl, rfl⟩) | (go_at_call 92; refine (HCODE.out _ HBZ.out).mono ?_; rintro e w' ⟨rfl, rfl⟩))
        go_roundg (n5 - (t + 1) + 1)
        case measure => have := HM.out; omega
        case rel => exact ⟨t + 1, by simp, by omega, by omega, HXZ.out⟩
end Go.Proofs.YtmpljhfinmfnbaaDoor

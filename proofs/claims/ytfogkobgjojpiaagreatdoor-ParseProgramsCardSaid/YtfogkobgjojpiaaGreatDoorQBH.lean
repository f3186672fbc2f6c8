/- The proof, part 34: texts that belong together, in one. -/
import Derived.Test.YtfogkobgjojpiaaGreatDoorQBG
set_option maxRecDepth 100000
set_option maxHeartbeats 20000000
namespace Go.Proofs.YtfogkobgjojpiaaGreatDoor
open Go.RowKit
set_option linter.unusedVariables false
theorem num_len {L : Int} {σ : Sr} (h : (numS L σ).ok = true) : σ.ok = true ∧ (numS L σ).ts.length ≤ σ.ts.length := by
 unfold numS at h ⊢
 split at h
 · rw [fail_ok (by decide)] at h; cases h
 · rename_i hk
   rw [if_neg hk]
   split at h
   · rename_i ho
     rw [if_pos ho]
     exact ⟨ho, by show σ.ts.tail.length ≤ _; rw [List.length_tail]; omega⟩
   · rename_i ho; exact absurd h ho
theorem first_one {L : Int} : OneOk (firstM L) := by
 intro σ h
 unfold firstM at h ⊢
 split at h
 · rename_i h1
   rw [if_pos h1]
   obtain ⟨k1, k2⟩ := has_ne h1
   obtain ⟨k3, k4⟩ := name_len k1
   split at h
   · rename_i h2
     rw [if_pos h2]
     have h3 := num_len h
     obtain ⟨k5, k6⟩ := has_ne h2
     exact ⟨k3, by have := h3.2; simp only at this ⊢; omega⟩
   · rename_i h2
     rw [if_neg h2]
     have h3 := num_len h
     exact ⟨k3, by have := h3.2; simp only at this ⊢; omega⟩
 · rename_i h1
   rw [if_neg h1]
   have := name_len h
   exact ⟨this.1, by omega⟩
theorem Own.mid {W : World} {b : Nat} {T : TypeId} {x y z : Value} (h : Own W b T #[x, y, z]) (v : Value) : Own (W.setCell ⟨b, 1, none⟩ v) b T #[x, v, z] := heap_setCell_same W b 1 _ _ v h
theorem As.setOwn {c : Par} {w W : World} {σ : Sr} (A : As c w W σ) {b : Nat} {o : Obj} (ho : W.heap[b]? = some o) (hb : w.heap.size ≤ b) (hx : c.X ≠ b) (j : Nat) (v : Value) : As c w (W.setCell ⟨b, j, none⟩ v) σ := by
 obtain ⟨k, A, h⟩ := A
 exact ⟨k, ⟨Keep.setCell A.fr (p := ⟨b, j, none⟩) v ho (fun hs => by have h1 : b < w.heap.size := hs.1; omega), (Below.heap_setCell W ⟨b, j, none⟩ v c.X hx).trans A.pos, A.le⟩, h⟩
theorem row_setOwn {W : World} {base : Nat} {T : TypeId} {n : Nat} {v : Value} {k : Nat} {xs : List Value} (h : W.ownsRow base T n v k xs) {b : Nat} (hb : v.ownBlock ≠ some b) (j : Nat) (u : Value) : (W.setCell ⟨b, j, none⟩ u).ownsRow base T n v k xs :=
 row_stays h fun g _ hg _ => Below.heap_setCell W ⟨b, j, none⟩ u g (fun e => hb (by rw [hg, e]))
theorem here_wd {c : Par} {w W : World} {σ : Sr} (A : As c w W σ) (S : RkS c w) : 0 ≤ (hereM c.L σ.ts).wd ∧ (hereM c.L σ.ts).wd ≤ 9223372036854775807 := by
 obtain ⟨k, A, h⟩ := A
 rw [h]
 by_cases hk : k < c.toks.length
 · rw [Par.at_lt hk]
   exact S.small.2.2 _ (List.getElem_mem hk)
 · rw [Par.at_end (by omega)]
   exact ⟨Int.le_refl _, by show (0 : Int) ≤ _; decide⟩
theorem own_frozen' {W : World} {b : Nat} {T : TypeId} {cs : Array Value} (h : Own W b T cs) (i : Nat) : W.frozen? ⟨b, i, none⟩ = false := by
 unfold Own at h
 simp only [World.frozen?, h]; rfl
theorem r_shared {c : Par} {w : World} {σ : Sr} {n : Nat} (R : Rs c w σ) (hn : σ.ok = true → σ.ts.length < n) :
 Calls Tryz.prog 70 #[c.ptr] w (RsPost c w (listM c.L (firstM c.L) n [] σ) (dcsW w.heap.size)) := by
 have hsm : σ.ts.length ≤ 65536 := by obtain ⟨k, R, h⟩ := R; rw [h, Par.at_len]; have := R.s.small.1; omega
 have HNM : Hid (∀ W σ, Rs c W σ → Calls Tryz.prog 120 #[c.ptr] W fun e w' => Fr c W w' ∧ e = .returned (.tuple #[.string (nameM c.L σ).1.name, .int .i64 (nameM c.L σ).1.pos]) ∧ Rs c w' (nameM c.L σ).2) := fun W σ R => r_name R
 have HON : Hid (OneOk (firstM c.L)) := first_one
 have HTK : Hid (∀ W σ, Rs c W σ → Calls Tryz.prog 69 #[c.ptr, .string ⟨#[44]⟩] W fun e w' => e = .returned (.bool (σ.has c.L [44])) ∧ Fr c W w' ∧ Rs c w' (σ.take c.L [44])) := fun W σ R => r_take R ⟨#[44]⟩
 have HEQ : Hid (∀ W σ, Rs c W σ → Calls Tryz.prog 69 #[c.ptr, .string ⟨#[61]⟩] W fun e w' => e = .returned (.bool (σ.has c.L [61])) ∧ Fr c W w' ∧ Rs c w' (σ.take c.L [61])) := fun W σ R => r_take R ⟨#[61]⟩
 have HSB : Hid (∀ W σ, Rs c W σ → Calls Tryz.prog 69 #[c.ptr, .string ⟨#[45]⟩] W fun e w' => e = .returned (.bool (σ.has c.L [45])) ∧ Fr c W w' ∧ Rs c w' (σ.take c.L [45])) := fun W σ R => r_take R ⟨#[45]⟩
 have HW : Hid (∀ W σ, Rs c W σ → Calls Tryz.prog 123 #[c.ptr, .string ⟨#[59]⟩] W fun e w' => e = .returned (.tuple #[]) ∧ Fr c W w' ∧ Rs c w' (σ.want c.L [59])) := fun W σ R => r_want R ⟨#[59]⟩
 have HHR : Hid (∀ W σ, Rs c W σ → Calls Tryz.prog 121 #[c.ptr] W fun e w' => e = .returned (tkV (hereM c.L σ.ts)) ∧ Below W.heap.size W w') := fun W σ R => r_hereS R
 have HFL : Hid (∀ W σ, Rs c W σ → Calls Tryz.prog 122 #[c.ptr, .int .i64 2] W fun e w' => e = .returned (.tuple #[]) ∧ Fr c W w' ∧ Rs c w' (σ.fail c.L 2)) := fun W σ R => r_fail R 2
 have HOO : Hid (∀ W σ, Rs c W σ → Calls Tryz.prog 29 #[c.ptr] W fun e w' => e = .returned (.bool σ.ok) ∧ Below W.heap.size W w') := fun W σ R => r_okS R
 obtain ⟨one, hone⟩ : ∃ one, one = firstM c.L := ⟨_, rfl⟩
 rw [← hone] at HON ⊢
 have HS := Lib.hid R.s
 have hX := Lib.hid R.lt
 obtain ⟨Y, hY⟩ : ∃ Y, Y = listL c.L one n [] σ := ⟨_, rfl⟩
 have HYY := Lib.hid hY.symm
 have HFM := Lib.hid hone
 have B0 : Hid (NmI c w one Y n (.slice none 0 0) w) := ⟨σ, [], R.as, World.ownsRow_nil _ _ _ _, hY.symm, hn, fun _ => by simpa using hsm⟩
 clear hone hn R hY hsm
 unfold Par.ptr tkV at *
 go_enter Tryz.func70, Tryz.ntmps70
 go_wp2_with fail
 go_loopg [3] n (fun m u W => NmI c w one Y m u W)
 case atStart => exact B0.out
 case round =>
  obtain ⟨σj, l, A1, hrow, hL, hfu, hle⟩ := hrel
  have A := Lib.hid A1
  have ROW := Lib.hid hrow
  have HL := Lib.hid hL
  have HFU := Lib.hid (And.intro hfu hle)
  obtain ⟨oa, cap, rfl, hoa⟩ := row_shape hrow
  clear A1 hrow hL hfu hle hoa
  have HO := Lib.hid (HOO.out _ _ (A.out.rs HS.out))
  by_cases hok : σj.ok = true
  · obtain ⟨m, rfl⟩ : ∃ m, gk = m + 1 := ⟨gk - 1, by have := HFU.out.1 hok; omega⟩
    have HOK := Lib.hid hok
    rw [hok] at HO
    clear hok
    have HN1 : Hid (∀ W, Rs c W σj → Calls Tryz.prog 120 #[.pointer (some ⟨c.X, 0, none⟩)] W fun e w' => Fr c W w' ∧ e = .returned (.tuple #[.string (nameM c.L σj).1.name, .int .i64 (nameM c.L σj).1.pos]) ∧ Rs c w' (nameM c.L σj).2) := fun W R => HNM.out W σj R
    have HONE : Hid ((one σj).2.ok = true → σj.ok = true ∧ (one σj).2.ts.length + 1 ≤ σj.ts.length) := HON.out σj
    have hwd := name_wd c.L σj
    obtain ⟨Z, hZ⟩ : ∃ Z, Z = nameM c.L σj := ⟨_, rfl⟩
    have HZ0 := Lib.hid hZ.symm
    rw [← hZ] at HN1 hwd
    clear hZ
    obtain ⟨⟨nm, wd, ps⟩, σ1⟩ := Z
    simp only at hwd
    subst hwd
    go_wp2_with fail
    go_at_call 29
    refine (HO.out).mono ?_
    rintro e w1 ⟨rfl, hb⟩
    have A := Lib.hid (A.out.below hb)
    have ROW := Lib.hid (row_below ROW.out hb)
    clear hb HO
    go_wp2_with fail
    go_at_call 120
    refine (HN1.out _ (A.out.rs HS.out)).mono ?_
    rintro e w3 ⟨hf, rfl, hr⟩
    have A := Lib.hid (A.out.call hf hr)
    have ROW := Lib.hid (row_fr ROW.out hf hX.out)
    clear hf hr
    have hz0 : w.heap.size ≤ w3.heap.size := Keep.size A.out.fr
    have HBD : Hid (w.heap.size ≤ w3.heap.size ∧ c.X ≠ w3.heap.size ∧ (Value.slice oa l.length cap).ownBlock ≠ some w3.heap.size) := ⟨hz0, by have := hX.out; omega, fun e => by have := (ROW.out.lt _ e).2; omega⟩
    clear hz0
    have A := Lib.hid (A.out.alloc (.cells #[.string nm, .int .i64 0, .int .i64 ps] 66))
    have ROW := Lib.hid (ROW.out.alloc (.cells #[.string nm, .int .i64 0, .int .i64 ps] 66))
    have D := Lib.hid (Own.new w3 66 #[.string nm, .int .i64 0, .int .i64 ps])
    go_upto_region 5 with (fail)
    obtain ⟨W5, hW5⟩ : ∃ W, W = w3.alloc (.cells #[.string nm, .int .i64 0, .int .i64 ps] 66) := ⟨_, rfl⟩
    rw [← hW5] at A ROW D ⊢
    clear hW5
    by_cases hq : σ1.has c.L [61] = true
    · skip
      have HB := Lib.hid hq
      have HB1 := Lib.hid hq
      clear hq
      go_wp2_with fail
      go_at_call 69
      refine (HEQ.out _ _ (A.out.rs HS.out)).mono ?_
      rintro e w6 ⟨he, hf, hr⟩
      rw [HB.out] at he
      subst he
      have A := Lib.hid (A.out.call hf (show Rs c w6 σ1.step from by rw [show σ1.take c.L [61] = σ1.step by unfold Sr.take; rw [if_pos HB.out]] at hr; exact hr))
      have ROW := Lib.hid (row_fr ROW.out hf hX.out)
      have D := Lib.hid (D.out.fr hf HBD.out.2.1)
      clear hf hr
      by_cases hs : σ1.step.has c.L [45] = true
      · have HB := Lib.hid hs
        have HB2 := Lib.hid HB.out
        clear hs
        go_wp2_with fail
        go_at_call 69
        refine (HSB.out _ _ (A.out.rs HS.out)).mono ?_
        rintro e w7 ⟨he, hf, hr⟩
        rw [HB.out] at he
        subst he
        have A := Lib.hid (A.out.call hf (show Rs c w7 σ1.step.step from by rw [show σ1.step.take c.L [45] = σ1.step.step by unfold Sr.take; rw [if_pos HB.out]] at hr; exact hr))
        have ROW := Lib.hid (row_fr ROW.out hf hX.out)
        have D := Lib.hid (D.out.fr hf HBD.out.2.1)
        clear hf hr
        have hwd2 := here_wd A.out HS.out
        have HH := Lib.hid (fun W => HHR.out W σ1.step.step)
        obtain ⟨t, ht⟩ : ∃ t, t = hereM c.L (σ1.step.step).ts := ⟨_, rfl⟩
        have HTT := Lib.hid ht.symm
        rw [← ht] at HH hwd2
        clear ht
        obtain ⟨tk, tx, tw, tp⟩ := t
        simp only at hwd2
        go_wp2_with fail
        go_at_call 121
        refine (HH.out _ (A.out.rs HS.out)).mono ?_
        rintro e w8 ⟨rfl, hb⟩
        have A := Lib.hid (A.out.below hb)
        have ROW := Lib.hid (row_below ROW.out hb)
        have D := Lib.hid (D.out.below hb)
        have HTB : Hid (c.X ≠ w8.heap.size ∧ w3.heap.size ≠ w8.heap.size) := ⟨by have := A.out.lt; omega, by have := D.out.lt; omega⟩
        clear hb
        have A := Lib.hid (A.out.alloc (.cells #[.int .u8 tk, .string tx, .int .i64 tw, .int .i64 tp] 108))
        have ROW := Lib.hid (ROW.out.alloc (.cells #[.int .u8 tk, .string tx, .int .i64 tw, .int .i64 tp] 108))
        have D := Lib.hid (D.out.alloc (.cells #[.int .u8 tk, .string tx, .int .i64 tw, .int .i64 tp] 108))
        have T := Lib.hid (Own.new w8 108 #[.int .u8 tk, .string tx, .int .i64 tw, .int .i64 tp])
        go_upto_region 8 with (fail)
        obtain ⟨W8, hW8⟩ : ∃ W, W = w8.alloc (.cells #[.int .u8 tk, .string tx, .int .i64 tw, .int .i64 tp] 108) := ⟨_, rfl⟩
        rw [← hW8] at A ROW D T ⊢
        clear hW8
        have t0 : W8.cell? ⟨w8.heap.size, 0, none⟩ = some (.int .u8 tk) := by rw [cell_of_row _ _ 0 _ _ _ T.out]; rfl
        by_cases h3 : tk = 3
        · skip
          subst h3
          have HO := Lib.hid (HOO.out _ _ (A.out.rs HS.out))
          have hok3 : (σ1.step.step).ok = true := (has_ne HB2.out).1
          rw [hok3] at HO
          have hne3 : (σ1.step.step).step.ts.length + 1 = (σ1.step.step).ts.length := kind_ne (k := 3) (by rw [HTT.out]) (by decide)
          go_wp2_with fail
          go_at_call 29
          refine (HO.out).mono ?_
          rintro e w9 ⟨rfl, hb⟩
          have A := Lib.hid (A.out.below hb)
          have ROW := Lib.hid (row_below ROW.out hb)
          have D := Lib.hid (D.out.below hb)
          have T := Lib.hid (T.out.below hb)
          clear hb t0 HO hok3
          obtain ⟨k, x1, xf, hk6, xl, AS⟩ := A.out.open HS.out hne3
          have A := Lib.hid AS
          have ROW := Lib.hid (row_setX ROW.out 1 (.int .i64 ((k : Int) + 1)) hX.out)
          have D := Lib.hid (D.out.setX 1 (.int .i64 ((k : Int) + 1)) HBD.out.2.1)
          have T := Lib.hid (T.out.setX 1 (.int .i64 ((k : Int) + 1)) HTB.out.1)
          clear AS hne3
          go_upto_region 12 with (fail)
          obtain ⟨W9, hW9⟩ : ∃ W, W = w9.setCell ⟨c.X, 1, none⟩ (.int .i64 ((k : Int) + 1)) := ⟨_, rfl⟩
          rw [← hW9] at A ROW D T ⊢
          clear hW9 x1 xf xl hk6
          have t2 : W9.cell? ⟨w8.heap.size, 2, none⟩ = some (.int .i64 tw) := by rw [cell_of_row _ _ 2 _ _ _ T.out]; rfl
          have d1 : W9.cell? ⟨w3.heap.size, 1, none⟩ = some (.int .i64 0) := by rw [cell_of_row _ _ 1 _ _ _ D.out]; rfl
          have d1f : W9.frozen? ⟨w3.heap.size, 1, none⟩ = false := own_frozen' D.out 1
          have A := Lib.hid (A.out.setOwn D.out HBD.out.1 HBD.out.2.1 1 (.int .i64 tw))
          have ROW := Lib.hid (row_setOwn ROW.out HBD.out.2.2 1 (.int .i64 tw))
          have T := Lib.hid (T.out.setX (x := w3.heap.size) 1 (.int .i64 tw) HTB.out.2)
          have D := Lib.hid (D.out.mid (.int .i64 tw))
          go_upto_region 13 with (fail)
          obtain ⟨WA, hWA⟩ : ∃ W, W = W9.setCell ⟨w3.heap.size, 1, none⟩ (.int .i64 tw) := ⟨_, rfl⟩
          rw [← hWA] at A ROW D T ⊢
          clear hWA t2 d1 d1f
          have t2 : WA.cell? ⟨w8.heap.size, 2, none⟩ = some (.int .i64 tw) := by rw [cell_of_row _ _ 2 _ _ _ T.out]; rfl
          have d1 : WA.cell? ⟨w3.heap.size, 1, none⟩ = some (.int .i64 tw) := by rw [cell_of_row _ _ 1 _ _ _ D.out]; rfl
          have d1f : WA.frozen? ⟨w3.heap.size, 1, none⟩ = false := own_frozen' D.out 1
          have A := Lib.hid (A.out.setOwn D.out HBD.out.1 HBD.out.2.1 1 (.int .i64 (-tw)))
          have ROW := Lib.hid (row_setOwn ROW.out HBD.out.2.2 1 (.int .i64 (-tw)))
          have D := Lib.hid (D.out.mid (.int .i64 (-tw)))
          go_upto_region 15 with (fail)
          obtain ⟨WB, hWB⟩ : ∃ W, W = WA.setCell ⟨w3.heap.size, 1, none⟩ (.int .i64 (-tw)) := ⟨_, rfl⟩
          rw [← hWB] at A ROW D ⊢
          clear hWB t2 d1 d1f
          obtain ⟨dd, hdd⟩ : ∃ dd, dd = (⟨nm, (-tw), ps⟩ : Dc) := ⟨_, rfl⟩
          obtain ⟨σz, hsz⟩ : ∃ σz, σz = (σ1.step.step).step := ⟨_, rfl⟩
          have HZ : Hid (one σj = (dd, σz)) := by
           rw [Hid, HFM.out, hdd, hsz]
           unfold firstM
           rw [HZ0.out, if_pos HB1.out, if_pos HB2.out]
           rw [HTT.out]
           have e : numS c.L (σ1.step.step) = (σ1.step.step).step := by
            unfold numS
            rw [HTT.out, if_neg (fun e => e rfl), if_pos (show (σ1.step.step).ok = true from (has_ne HB2.out).1)]
           rw [e]
          have HONE := HONE
          rw [HZ.out] at HONE
          rw [← hsz] at A
          clear hsz
          have HT := Lib.hid (fun W => HTK.out W σz)
          have dd0 := D.out.alloc (.cells #[.string nm, .int .i64 (-tw), .int .i64 ps] 66)
          have dd1 := D.out
          have row3 := ROW.out.alloc (.cells #[.string nm, .int .i64 (-tw), .int .i64 ps] 66)
          have hz3 : w.heap.size ≤ WB.heap.size := Keep.size A.out.fr
          have A := Lib.hid (A.out.alloc (.cells #[.string nm, .int .i64 (-tw), .int .i64 ps] 66))
          have hl6 : l.length ≤ 65536 := by have := HFU.out.2 HOK.out; omega
          obtain ⟨i0, hi, hi0, hi1, hi2⟩ := info_parts infoDc
          have N3 := Own.new WB 66 #[.string nm, .int .i64 (-tw), .int .i64 ps]
          go_wp2_with (first | (refine ld rowDc rfl rfl rfl dd1 rfl ?_) | (at_builtin; refine wpList_append_own _ rfl _ _ 22 rfl w.heap.size 66 i0 _ 3 32 Tryz.underlying22 hi hi0 hi1 hi2 rfl (by decide) _ _ _ rfl row3 ⟨WB.heap.size, 0, none⟩ 1 1 [.string nm, .int .i64 (-tw), .int .i64 ps] rfl rfl (fun j u hj => cells_three N3 j u hj) (by simp [Value.oneCell']) (by simp only [maxLen]; omega) (by omega) (by simp; omega) ?_; intro v' w4 hown' hgrow _; have ROW := Lib.hid hown'; have GR := Lib.hid hgrow; clear hown' hgrow))
          have A := Lib.hid (A.out.grown GR.out (fun r hr => ⟨(row3.lt r hr).1, by have := (row3.lt r hr).1; have := hX.out; omega⟩))
          clear N3 row3 hi hi0 hi1 hi2 GR
          by_cases hc : σz.has c.L [44] = true
          · have HC := Lib.hid hc
            rw [hc] at HT
            clear hc
            go_wp2_with fail
            go_at_call 69
            refine (HT.out _ (A.out.rs HS.out)).mono ?_
            rintro e w8 ⟨rfl, hf, hr⟩
            have A := Lib.hid (A.out.call hf (show Rs c w8 σz.step from by rw [show σz.take c.L [44] = σz.step by unfold Sr.take; rw [if_pos HC.out]] at hr; exact hr))
            have ROW := Lib.hid (row_fr ROW.out hf hX.out)
            clear hf hr
            go_wp2_with fail
            go_roundg m
            case measure => omega
            case rel =>
             obtain ⟨k1, k2⟩ := has_ne HC.out
             obtain ⟨_, k4⟩ := HONE.out k1
             refine ⟨σz.step, l ++ [dd], A.out, ?_, ?_, fun h => by have := HFU.out.1 HOK.out; omega, fun h => by have := HFU.out.2 HOK.out; rw [List.length_append, List.length_singleton]; omega⟩
             · have := ROW.out; rw [hdd, dcsL_snoc, List.length_append]; exact this
             · rw [← HL.out]
               conv => rhs; simp only [listL]
               rw [if_pos HOK.out, HZ.out, if_pos HC.out]
          · have HC := Lib.hid (show σz.has c.L [44] = false by simpa using hc)
            have HFIN : Hid (Y = (l ++ [dd], σz)) := by
             rw [Hid, ← HL.out]
             simp only [listL]
             rw [if_pos HOK.out, HZ.out, if_neg hc]
            rw [HC.out] at HT
            clear hc
            go_wp2_with fail
            go_at_call 69
            refine (HT.out _ (A.out.rs HS.out)).mono ?_
            rintro e w8 ⟨rfl, hf, hr⟩
            have A := Lib.hid (A.out.call hf (show Rs c w8 σz from by rw [show σz.take c.L [44] = σz by unfold Sr.take; rw [if_neg (by rw [HC.out]; decide)]] at hr; exact hr))
            have ROW := Lib.hid (row_fr ROW.out hf hX.out)
            clear hf hr
            go_wp2_with fail
            go_at_call 123
            refine (HW.out _ _ (A.out.rs HS.out)).mono ?_
            rintro e w9 ⟨rfl, hf, hr⟩
            have A := Lib.hid (A.out.call hf hr)
            have ROW := Lib.hid (row_fr ROW.out hf hX.out)
            clear hf hr
            go_wp2_with fail
            go_ret
            show RsPost c w ((listL c.L one n [] σ).1, (listL c.L one n [] σ).2.want c.L [59]) _ _ _
            rw [HYY.out, HFIN.out]
            exact ⟨A.out.fr, _, rfl, by have := ROW.out; show World.ownsRow _ _ _ _ _ _ _; rw [hdd, dcsL_snoc, List.length_append]; exact this, A.out.rs HS.out⟩
        · skip
          have h5 : (tk != 3) = true := by simpa [bne] using h3
          have h6 : (tk == 3) = false := by simpa using h3
          go_wp2_with fail
          go_at_call 122
          refine (HFL.out _ _ (A.out.rs HS.out)).mono ?_
          rintro e W9 ⟨rfl, hf, hr⟩
          have A := Lib.hid (A.out.call hf hr)
          have ROW := Lib.hid (row_fr ROW.out hf hX.out)
          have D := Lib.hid (D.out.fr hf HBD.out.2.1)
          have T := Lib.hid (T.out.fr hf HTB.out.1)
          clear hf hr t0
          have t2 : W9.cell? ⟨w8.heap.size, 2, none⟩ = some (.int .i64 tw) := by rw [cell_of_row _ _ 2 _ _ _ T.out]; rfl
          have d1 : W9.cell? ⟨w3.heap.size, 1, none⟩ = some (.int .i64 0) := by rw [cell_of_row _ _ 1 _ _ _ D.out]; rfl
          have d1f : W9.frozen? ⟨w3.heap.size, 1, none⟩ = false := own_frozen' D.out 1
          have A := Lib.hid (A.out.setOwn D.out HBD.out.1 HBD.out.2.1 1 (.int .i64 tw))
          have ROW := Lib.hid (row_setOwn ROW.out HBD.out.2.2 1 (.int .i64 tw))
          have T := Lib.hid (T.out.setX (x := w3.heap.size) 1 (.int .i64 tw) HTB.out.2)
          have D := Lib.hid (D.out.mid (.int .i64 tw))
          go_upto_region 13 with (fail)
          obtain ⟨WA, hWA⟩ : ∃ W, W = W9.setCell ⟨w3.heap.size, 1, none⟩ (.int .i64 tw) := ⟨_, rfl⟩
          rw [← hWA] at A ROW D T ⊢
          clear hWA t2 d1 d1f
          have t2 : WA.cell? ⟨w8.heap.size, 2, none⟩ = some (.int .i64 tw) := by rw [cell_of_row _ _ 2 _ _ _ T.out]; rfl
          have d1 : WA.cell? ⟨w3.heap.size, 1, none⟩ = some (.int .i64 tw) := by rw [cell_of_row _ _ 1 _ _ _ D.out]; rfl
          have d1f : WA.frozen? ⟨w3.heap.size, 1, none⟩ = false := own_frozen' D.out 1
          have A := Lib.hid (A.out.setOwn D.out HBD.out.1 HBD.out.2.1 1 (.int .i64 (-tw)))
          have ROW := Lib.hid (row_setOwn ROW.out HBD.out.2.2 1 (.int .i64 (-tw)))
          have D := Lib.hid (D.out.mid (.int .i64 (-tw)))
          go_upto_region 15 with (fail)
          obtain ⟨WB, hWB⟩ : ∃ W, W = WA.setCell ⟨w3.heap.size, 1, none⟩ (.int .i64 (-tw)) := ⟨_, rfl⟩
          rw [← hWB] at A ROW D ⊢
          clear hWB t2 d1 d1f
          obtain ⟨dd, hdd⟩ : ∃ dd, dd = (⟨nm, (-tw), ps⟩ : Dc) := ⟨_, rfl⟩
          obtain ⟨σz, hsz⟩ : ∃ σz, σz = (σ1.step.step).fail c.L 2 := ⟨_, rfl⟩
          have HZ : Hid (one σj = (dd, σz)) := by
           rw [Hid, HFM.out, hdd, hsz]
           unfold firstM
           rw [HZ0.out, if_pos HB1.out, if_pos HB2.out]
           rw [HTT.out]
           have e : numS c.L (σ1.step.step) = (σ1.step.step).fail c.L 2 := by
            unfold numS
            rw [HTT.out, if_pos (show ¬ tk = 3 from h3)]
           rw [e]
          have HONE := HONE
          rw [HZ.out] at HONE
          rw [← hsz] at A
          clear hsz
          have HT := Lib.hid (fun W => HTK.out W σz)
          have dd0 := D.out.alloc (.cells #[.string nm, .int .i64 (-tw), .int .i64 ps] 66)
          have dd1 := D.out
          have row3 := ROW.out.alloc (.cells #[.string nm, .int .i64 (-tw), .int .i64 ps] 66)
          have hz3 : w.heap.size ≤ WB.heap.size := Keep.size A.out.fr
          have A := Lib.hid (A.out.alloc (.cells #[.string nm, .int .i64 (-tw), .int .i64 ps] 66))
          have hl6 : l.length ≤ 65536 := by have := HFU.out.2 HOK.out; omega
          obtain ⟨i0, hi, hi0, hi1, hi2⟩ := info_parts infoDc
          have N3 := Own.new WB 66 #[.string nm, .int .i64 (-tw), .int .i64 ps]
          go_wp2_with (first | (refine ld rowDc rfl rfl rfl dd1 rfl ?_) | (at_builtin; refine wpList_append_own _ rfl _ _ 22 rfl w.heap.size 66 i0 _ 3 32 Tryz.underlying22 hi hi0 hi1 hi2 rfl (by decide) _ _ _ rfl row3 ⟨WB.heap.size, 0, none⟩ 1 1 [.string nm, .int .i64 (-tw), .int .i64 ps] rfl rfl (fun j u hj => cells_three N3 j u hj) (by simp [Value.oneCell']) (by simp only [maxLen]; omega) (by omega) (by simp; omega) ?_; intro v' w4 hown' hgrow _; have ROW := Lib.hid hown'; have GR := Lib.hid hgrow; clear hown' hgrow))
          have A := Lib.hid (A.out.grown GR.out (fun r hr => ⟨(row3.lt r hr).1, by have := (row3.lt r hr).1; have := hX.out; omega⟩))
          clear N3 row3 hi hi0 hi1 hi2 GR
          by_cases hc : σz.has c.L [44] = true
          · have HC := Lib.hid hc
            rw [hc] at HT
            clear hc
            go_wp2_with fail
            go_at_call 69
            refine (HT.out _ (A.out.rs HS.out)).mono ?_
            rintro e w8 ⟨rfl, hf, hr⟩
            have A := Lib.hid (A.out.call hf (show Rs c w8 σz.step from by rw [show σz.take c.L [44] = σz.step by unfold Sr.take; rw [if_pos HC.out]] at hr; exact hr))
            have ROW := Lib.hid (row_fr ROW.out hf hX.out)
            clear hf hr
            go_wp2_with fail
            go_roundg m
            case measure => omega
            case rel =>
             obtain ⟨k1, k2⟩ := has_ne HC.out
             obtain ⟨_, k4⟩ := HONE.out k1
             refine ⟨σz.step, l ++ [dd], A.out, ?_, ?_, fun h => by have := HFU.out.1 HOK.out; omega, fun h => by have := HFU.out.2 HOK.out; rw [List.length_append, List.length_singleton]; omega⟩
             · have := ROW.out; rw [hdd, dcsL_snoc, List.length_append]; exact this
             · rw [← HL.out]
               conv => rhs; simp only [listL]
               rw [if_pos HOK.out, HZ.out, if_pos HC.out]
          · have HC := Lib.hid (show σz.has c.L [44] = false by simpa using hc)
            have HFIN : Hid (Y = (l ++ [dd], σz)) := by
             rw [Hid, ← HL.out]
             simp only [listL]
             rw [if_pos HOK.out, HZ.out, if_neg hc]
            rw [HC.out] at HT
            clear hc
            go_wp2_with fail
            go_at_call 69
            refine (HT.out _ (A.out.rs HS.out)).mono ?_
            rintro e w8 ⟨rfl, hf, hr⟩
            have A := Lib.hid (A.out.call hf (show Rs c w8 σz from by rw [show σz.take c.L [44] = σz by unfold Sr.take; rw [if_neg (by rw [HC.out]; decide)]] at hr; exact hr))
            have ROW := Lib.hid (row_fr ROW.out hf hX.out)
            clear hf hr
            go_wp2_with fail
            go_at_call 123
            refine (HW.out _ _ (A.out.rs HS.out)).mono ?_
            rintro e w9 ⟨rfl, hf, hr⟩
            have A := Lib.hid (A.out.call hf hr)
            have ROW := Lib.hid (row_fr ROW.out hf hX.out)
            clear hf hr
            go_wp2_with fail
            go_ret
            show RsPost c w ((listL c.L one n [] σ).1, (listL c.L one n [] σ).2.want c.L [59]) _ _ _
            rw [HYY.out, HFIN.out]
            exact ⟨A.out.fr, _, rfl, by have := ROW.out; show World.ownsRow _ _ _ _ _ _ _; rw [hdd, dcsL_snoc, List.length_append]; exact this, A.out.rs HS.out⟩
      · have HB := Lib.hid (show σ1.step.has c.L [45] = false by simpa using hs)
        have HB2 := Lib.hid HB.out
        clear hs
        go_wp2_with fail
        go_at_call 69
        refine (HSB.out _ _ (A.out.rs HS.out)).mono ?_
        rintro e w7 ⟨he, hf, hr⟩
        rw [HB.out] at he
        subst he
        have A := Lib.hid (A.out.call hf (show Rs c w7 σ1.step from by rw [show σ1.step.take c.L [45] = σ1.step by unfold Sr.take; rw [if_neg (by rw [HB.out]; decide)]] at hr; exact hr))
        have ROW := Lib.hid (row_fr ROW.out hf hX.out)
        have D := Lib.hid (D.out.fr hf HBD.out.2.1)
        clear hf hr
        have hwd2 := here_wd A.out HS.out
        have HH := Lib.hid (fun W => HHR.out W σ1.step)
        obtain ⟨t, ht⟩ : ∃ t, t = hereM c.L (σ1.step).ts := ⟨_, rfl⟩
        have HTT := Lib.hid ht.symm
        rw [← ht] at HH hwd2
        clear ht
        obtain ⟨tk, tx, tw, tp⟩ := t
        simp only at hwd2
        go_wp2_with fail
        go_at_call 121
        refine (HH.out _ (A.out.rs HS.out)).mono ?_
        rintro e w8 ⟨rfl, hb⟩
        have A := Lib.hid (A.out.below hb)
        have ROW := Lib.hid (row_below ROW.out hb)
        have D := Lib.hid (D.out.below hb)
        have HTB : Hid (c.X ≠ w8.heap.size ∧ w3.heap.size ≠ w8.heap.size) := ⟨by have := A.out.lt; omega, by have := D.out.lt; omega⟩
        clear hb
        have A := Lib.hid (A.out.alloc (.cells #[.int .u8 tk, .string tx, .int .i64 tw, .int .i64 tp] 108))
        have ROW := Lib.hid (ROW.out.alloc (.cells #[.int .u8 tk, .string tx, .int .i64 tw, .int .i64 tp] 108))
        have D := Lib.hid (D.out.alloc (.cells #[.int .u8 tk, .string tx, .int .i64 tw, .int .i64 tp] 108))
        have T := Lib.hid (Own.new w8 108 #[.int .u8 tk, .string tx, .int .i64 tw, .int .i64 tp])
        go_upto_region 8 with (fail)
        obtain ⟨W8, hW8⟩ : ∃ W, W = w8.alloc (.cells #[.int .u8 tk, .string tx, .int .i64 tw, .int .i64 tp] 108) := ⟨_, rfl⟩
        rw [← hW8] at A ROW D T ⊢
        clear hW8
        have t0 : W8.cell? ⟨w8.heap.size, 0, none⟩ = some (.int .u8 tk) := by rw [cell_of_row _ _ 0 _ _ _ T.out]; rfl
        by_cases h3 : tk = 3
        · skip
          subst h3
          have HO := Lib.hid (HOO.out _ _ (A.out.rs HS.out))
          have hok3 : (σ1.step).ok = true := (has_ne HB1.out).1
          rw [hok3] at HO
          have hne3 : (σ1.step).step.ts.length + 1 = (σ1.step).ts.length := kind_ne (k := 3) (by rw [HTT.out]) (by decide)
          go_wp2_with fail
          go_at_call 29
          refine (HO.out).mono ?_
          rintro e w9 ⟨rfl, hb⟩
          have A := Lib.hid (A.out.below hb)
          have ROW := Lib.hid (row_below ROW.out hb)
          have D := Lib.hid (D.out.below hb)
          have T := Lib.hid (T.out.below hb)
          clear hb t0 HO hok3
          obtain ⟨k, x1, xf, hk6, xl, AS⟩ := A.out.open HS.out hne3
          have A := Lib.hid AS
          have ROW := Lib.hid (row_setX ROW.out 1 (.int .i64 ((k : Int) + 1)) hX.out)
          have D := Lib.hid (D.out.setX 1 (.int .i64 ((k : Int) + 1)) HBD.out.2.1)
          have T := Lib.hid (T.out.setX 1 (.int .i64 ((k : Int) + 1)) HTB.out.1)
          clear AS hne3
          go_upto_region 12 with (fail)
          obtain ⟨W9, hW9⟩ : ∃ W, W = w9.setCell ⟨c.X, 1, none⟩ (.int .i64 ((k : Int) + 1)) := ⟨_, rfl⟩
          rw [← hW9] at A ROW D T ⊢
          clear hW9 x1 xf xl hk6
          have t2 : W9.cell? ⟨w8.heap.size, 2, none⟩ = some (.int .i64 tw) := by rw [cell_of_row _ _ 2 _ _ _ T.out]; rfl
          have d1 : W9.cell? ⟨w3.heap.size, 1, none⟩ = some (.int .i64 0) := by rw [cell_of_row _ _ 1 _ _ _ D.out]; rfl
          have d1f : W9.frozen? ⟨w3.heap.size, 1, none⟩ = false := own_frozen' D.out 1
          have A := Lib.hid (A.out.setOwn D.out HBD.out.1 HBD.out.2.1 1 (.int .i64 tw))
          have ROW := Lib.hid (row_setOwn ROW.out HBD.out.2.2 1 (.int .i64 tw))
          have T := Lib.hid (T.out.setX (x := w3.heap.size) 1 (.int .i64 tw) HTB.out.2)
          have D := Lib.hid (D.out.mid (.int .i64 tw))
          go_upto_region 13 with (fail)
          obtain ⟨WA, hWA⟩ : ∃ W, W = W9.setCell ⟨w3.heap.size, 1, none⟩ (.int .i64 tw) := ⟨_, rfl⟩
          rw [← hWA] at A ROW D T ⊢
          clear hWA t2 d1 d1f
          obtain ⟨dd, hdd⟩ : ∃ dd, dd = (⟨nm, tw, ps⟩ : Dc) := ⟨_, rfl⟩
          obtain ⟨σz, hsz⟩ : ∃ σz, σz = (σ1.step).step := ⟨_, rfl⟩
          have HZ : Hid (one σj = (dd, σz)) := by
           rw [Hid, HFM.out, hdd, hsz]
           unfold firstM
           rw [HZ0.out, if_pos HB1.out, if_neg (by rw [HB2.out]; decide)]
           rw [HTT.out]
           have e : numS c.L (σ1.step) = (σ1.step).step := by
            unfold numS
            rw [HTT.out, if_neg (fun e => e rfl), if_pos (show (σ1.step).ok = true from (has_ne HB1.out).1)]
           rw [e]
          have HONE := HONE
          rw [HZ.out] at HONE
          rw [← hsz] at A
          clear hsz
          have HT := Lib.hid (fun W => HTK.out W σz)
          have dd0 := D.out.alloc (.cells #[.string nm, .int .i64 tw, .int .i64 ps] 66)
          have dd1 := D.out
          have row3 := ROW.out.alloc (.cells #[.string nm, .int .i64 tw, .int .i64 ps] 66)
          have hz3 : w.heap.size ≤ WA.heap.size := Keep.size A.out.fr
          have A := Lib.hid (A.out.alloc (.cells #[.string nm, .int .i64 tw, .int .i64 ps] 66))
          have hl6 : l.length ≤ 65536 := by have := HFU.out.2 HOK.out; omega
          obtain ⟨i0, hi, hi0, hi1, hi2⟩ := info_parts infoDc
          have N3 := Own.new WA 66 #[.string nm, .int .i64 tw, .int .i64 ps]
          go_wp2_with (first | (refine ld rowDc rfl rfl rfl dd1 rfl ?_) | (at_builtin; refine wpList_append_own _ rfl _ _ 22 rfl w.heap.size 66 i0 _ 3 32 Tryz.underlying22 hi hi0 hi1 hi2 rfl (by decide) _ _ _ rfl row3 ⟨WA.heap.size, 0, none⟩ 1 1 [.string nm, .int .i64 tw, .int .i64 ps] rfl rfl (fun j u hj => cells_three N3 j u hj) (by simp [Value.oneCell']) (by simp only [maxLen]; omega) (by omega) (by simp; omega) ?_; intro v' w4 hown' hgrow _; have ROW := Lib.hid hown'; have GR := Lib.hid hgrow; clear hown' hgrow))
          have A := Lib.hid (A.out.grown GR.out (fun r hr => ⟨(row3.lt r hr).1, by have := (row3.lt r hr).1; have := hX.out; omega⟩))
          clear N3 row3 hi hi0 hi1 hi2 GR
          by_cases hc : σz.has c.L [44] = true
          · have HC := Lib.hid hc
            rw [hc] at HT
            clear hc
            go_wp2_with fail
            go_at_call 69
            refine (HT.out _ (A.out.rs HS.out)).mono ?_
            rintro e w8 ⟨rfl, hf, hr⟩
            have A := Lib.hid (A.out.call hf (show Rs c w8 σz.step from by rw [show σz.take c.L [44] = σz.step by unfold Sr.take; rw [if_pos HC.out]] at hr; exact hr))
            have ROW := Lib.hid (row_fr ROW.out hf hX.out)
            clear hf hr
            go_wp2_with fail
            go_roundg m
            case measure => omega
            case rel =>
             obtain ⟨k1, k2⟩ := has_ne HC.out
             obtain ⟨_, k4⟩ := HONE.out k1
             refine ⟨σz.step, l ++ [dd], A.out, ?_, ?_, fun h => by have := HFU.out.1 HOK.out; omega, fun h => by have := HFU.out.2 HOK.out; rw [List.length_append, List.length_singleton]; omega⟩
             · have := ROW.out; rw [hdd, dcsL_snoc, List.length_append]; exact this
             · rw [← HL.out]
               conv => rhs; simp only [listL]
               rw [if_pos HOK.out, HZ.out, if_pos HC.out]
          · have HC := Lib.hid (show σz.has c.L [44] = false by simpa using hc)
            have HFIN : Hid (Y = (l ++ [dd], σz)) := by
             rw [Hid, ← HL.out]
             simp only [listL]
             rw [if_pos HOK.out, HZ.out, if_neg hc]
            rw [HC.out] at HT
            clear hc
            go_wp2_with fail
            go_at_call 69
            refine (HT.out _ (A.out.rs HS.out)).mono ?_
            rintro e w8 ⟨rfl, hf, hr⟩
            have A := Lib.hid (A.out.call hf (show Rs c w8 σz from by rw [show σz.take c.L [44] = σz by unfold Sr.take; rw [if_neg (by rw [HC.out]; decide)]] at hr; exact hr))
            have ROW := Lib.hid (row_fr ROW.out hf hX.out)
            clear hf hr
            go_wp2_with fail
            go_at_call 123
            refine (HW.out _ _ (A.out.rs HS.out)).mono ?_
            rintro e w9 ⟨rfl, hf, hr⟩
            have A := Lib.hid (A.out.call hf hr)
            have ROW := Lib.hid (row_fr ROW.out hf hX.out)
            clear hf hr
            go_wp2_with fail
            go_ret
            show RsPost c w ((listL c.L one n [] σ).1, (listL c.L one n [] σ).2.want c.L [59]) _ _ _
            rw [HYY.out, HFIN.out]
            exact ⟨A.out.fr, _, rfl, by have := ROW.out; show World.ownsRow _ _ _ _ _ _ _; rw [hdd, dcsL_snoc, List.length_append]; exact this, A.out.rs HS.out⟩
        · skip
          have h5 : (tk != 3) = true := by simpa [bne] using h3
          have h6 : (tk == 3) = false := by simpa using h3
          go_wp2_with fail
          go_at_call 122
          refine (HFL.out _ _ (A.out.rs HS.out)).mono ?_
          rintro e W9 ⟨rfl, hf, hr⟩
          have A := Lib.hid (A.out.call hf hr)
          have ROW := Lib.hid (row_fr ROW.out hf hX.out)
          have D := Lib.hid (D.out.fr hf HBD.out.2.1)
          have T := Lib.hid (T.out.fr hf HTB.out.1)
          clear hf hr t0
          have t2 : W9.cell? ⟨w8.heap.size, 2, none⟩ = some (.int .i64 tw) := by rw [cell_of_row _ _ 2 _ _ _ T.out]; rfl
          have d1 : W9.cell? ⟨w3.heap.size, 1, none⟩ = some (.int .i64 0) := by rw [cell_of_row _ _ 1 _ _ _ D.out]; rfl
          have d1f : W9.frozen? ⟨w3.heap.size, 1, none⟩ = false := own_frozen' D.out 1
          have A := Lib.hid (A.out.setOwn D.out HBD.out.1 HBD.out.2.1 1 (.int .i64 tw))
          have ROW := Lib.hid (row_setOwn ROW.out HBD.out.2.2 1 (.int .i64 tw))
          have T := Lib.hid (T.out.setX (x := w3.heap.size) 1 (.int .i64 tw) HTB.out.2)
          have D := Lib.hid (D.out.mid (.int .i64 tw))
          go_upto_region 13 with (fail)
          obtain ⟨WA, hWA⟩ : ∃ W, W = W9.setCell ⟨w3.heap.size, 1, none⟩ (.int .i64 tw) := ⟨_, rfl⟩
          rw [← hWA] at A ROW D T ⊢
          clear hWA t2 d1 d1f
          obtain ⟨dd, hdd⟩ : ∃ dd, dd = (⟨nm, tw, ps⟩ : Dc) := ⟨_, rfl⟩
          obtain ⟨σz, hsz⟩ : ∃ σz, σz = (σ1.step).fail c.L 2 := ⟨_, rfl⟩
          have HZ : Hid (one σj = (dd, σz)) := by
           rw [Hid, HFM.out, hdd, hsz]
           unfold firstM
           rw [HZ0.out, if_pos HB1.out, if_neg (by rw [HB2.out]; decide)]
           rw [HTT.out]
           have e : numS c.L (σ1.step) = (σ1.step).fail c.L 2 := by
            unfold numS
            rw [HTT.out, if_pos (show ¬ tk = 3 from h3)]
           rw [e]
          have HONE := HONE
          rw [HZ.out] at HONE
          rw [← hsz] at A
          clear hsz
          have HT := Lib.hid (fun W => HTK.out W σz)
          have dd0 := D.out.alloc (.cells #[.string nm, .int .i64 tw, .int .i64 ps] 66)
          have dd1 := D.out
          have row3 := ROW.out.alloc (.cells #[.string nm, .int .i64 tw, .int .i64 ps] 66)
          have hz3 : w.heap.size ≤ WA.heap.size := Keep.size A.out.fr
          have A := Lib.hid (A.out.alloc (.cells #[.string nm, .int .i64 tw, .int .i64 ps] 66))
          have hl6 : l.length ≤ 65536 := by have := HFU.out.2 HOK.out; omega
          obtain ⟨i0, hi, hi0, hi1, hi2⟩ := info_parts infoDc
          have N3 := Own.new WA 66 #[.string nm, .int .i64 tw, .int .i64 ps]
          go_wp2_with (first | (refine ld rowDc rfl rfl rfl dd1 rfl ?_) | (at_builtin; refine wpList_append_own _ rfl _ _ 22 rfl w.heap.size 66 i0 _ 3 32 Tryz.underlying22 hi hi0 hi1 hi2 rfl (by decide) _ _ _ rfl row3 ⟨WA.heap.size, 0, none⟩ 1 1 [.string nm, .int .i64 tw, .int .i64 ps] rfl rfl (fun j u hj => cells_three N3 j u hj) (by simp [Value.oneCell']) (by simp only [maxLen]; omega) (by omega) (by simp; omega) ?_; intro v' w4 hown' hgrow _; have ROW := Lib.hid hown'; have GR := Lib.hid hgrow; clear hown' hgrow))
          have A := Lib.hid (A.out.grown GR.out (fun r hr => ⟨(row3.lt r hr).1, by have := (row3.lt r hr).1; have := hX.out; omega⟩))
          clear N3 row3 hi hi0 hi1 hi2 GR
          by_cases hc : σz.has c.L [44] = true
          · have HC := Lib.hid hc
            rw [hc] at HT
            clear hc
            go_wp2_with fail
            go_at_call 69
            refine (HT.out _ (A.out.rs HS.out)).mono ?_
            rintro e w8 ⟨rfl, hf, hr⟩
            have A := Lib.hid (A.out.call hf (show Rs c w8 σz.step from by rw [show σz.take c.L [44] = σz.step by unfold Sr.take; rw [if_pos HC.out]] at hr; exact hr))
            have ROW := Lib.hid (row_fr ROW.out hf hX.out)
            clear hf hr
            go_wp2_with fail
            go_roundg m
            case measure => omega
            case rel =>
             obtain ⟨k1, k2⟩ := has_ne HC.out
             obtain ⟨_, k4⟩ := HONE.out k1
             refine ⟨σz.step, l ++ [dd], A.out, ?_, ?_, fun h => by have := HFU.out.1 HOK.out; omega, fun h => by have := HFU.out.2 HOK.out; rw [List.length_append, List.length_singleton]; omega⟩
             · have := ROW.out; rw [hdd, dcsL_snoc, List.length_append]; exact this
             · rw [← HL.out]
               conv => rhs; simp only [listL]
               rw [if_pos HOK.out, HZ.out, if_pos HC.out]
          · have HC := Lib.hid (show σz.has c.L [44] = false by simpa using hc)
            have HFIN : Hid (Y = (l ++ [dd], σz)) := by
             rw [Hid, ← HL.out]
             simp only [listL]
             rw [if_pos HOK.out, HZ.out, if_neg hc]
            rw [HC.out] at HT
            clear hc
            go_wp2_with fail
            go_at_call 69
            refine (HT.out _ (A.out.rs HS.out)).mono ?_
            rintro e w8 ⟨rfl, hf, hr⟩
            have A := Lib.hid (A.out.call hf (show Rs c w8 σz from by rw [show σz.take c.L [44] = σz by unfold Sr.take; rw [if_neg (by rw [HC.out]; decide)]] at hr; exact hr))
            have ROW := Lib.hid (row_fr ROW.out hf hX.out)
            clear hf hr
            go_wp2_with fail
            go_at_call 123
            refine (HW.out _ _ (A.out.rs HS.out)).mono ?_
            rintro e w9 ⟨rfl, hf, hr⟩
            have A := Lib.hid (A.out.call hf hr)
            have ROW := Lib.hid (row_fr ROW.out hf hX.out)
            clear hf hr
            go_wp2_with fail
            go_ret
            show RsPost c w ((listL c.L one n [] σ).1, (listL c.L one n [] σ).2.want c.L [59]) _ _ _
            rw [HYY.out, HFIN.out]
            exact ⟨A.out.fr, _, rfl, by have := ROW.out; show World.ownsRow _ _ _ _ _ _ _; rw [hdd, dcsL_snoc, List.length_append]; exact this, A.out.rs HS.out⟩
    · skip
      have HB := Lib.hid (show σ1.has c.L [61] = false by simpa using hq)
      clear hq
      go_wp2_with fail
      go_at_call 69
      refine (HEQ.out _ _ (A.out.rs HS.out)).mono ?_
      rintro e w6 ⟨he, hf, hr⟩
      rw [HB.out] at he
      subst he
      have A := Lib.hid (A.out.call hf (show Rs c w6 σ1 from by rw [show σ1.take c.L [61] = σ1 by unfold Sr.take; rw [if_neg (by rw [HB.out]; decide)]] at hr; exact hr))
      have ROW := Lib.hid (row_fr ROW.out hf hX.out)
      have D := Lib.hid (D.out.fr hf HBD.out.2.1)
      clear hf hr
      obtain ⟨dd, hdd⟩ : ∃ dd, dd = (⟨nm, 0, ps⟩ : Dc) := ⟨_, rfl⟩
      obtain ⟨σz, hsz⟩ : ∃ σz, σz = σ1 := ⟨_, rfl⟩
      have HZ : Hid (one σj = (dd, σz)) := by
       rw [Hid, HFM.out, hdd, hsz]
       unfold firstM
       rw [HZ0.out, if_neg (by rw [HB.out]; decide)]
      have HONE := HONE
      rw [HZ.out] at HONE
      rw [← hsz] at A
      clear hsz
      have HT := Lib.hid (fun W => HTK.out W σz)
      have dd0 := D.out.alloc (.cells #[.string nm, .int .i64 0, .int .i64 ps] 66)
      have dd1 := D.out
      have row3 := ROW.out.alloc (.cells #[.string nm, .int .i64 0, .int .i64 ps] 66)
      have hz3 : w.heap.size ≤ w6.heap.size := Keep.size A.out.fr
      have A := Lib.hid (A.out.alloc (.cells #[.string nm, .int .i64 0, .int .i64 ps] 66))
      have hl6 : l.length ≤ 65536 := by have := HFU.out.2 HOK.out; omega
      obtain ⟨i0, hi, hi0, hi1, hi2⟩ := info_parts infoDc
      have N3 := Own.new w6 66 #[.string nm, .int .i64 0, .int .i64 ps]
      go_wp2_with (first | (refine ld rowDc rfl rfl rfl dd1 rfl ?_) | (at_builtin; refine wpList_append_own _ rfl _ _ 22 rfl w.heap.size 66 i0 _ 3 32 Tryz.underlying22 hi hi0 hi1 hi2 rfl (by decide) _ _ _ rfl row3 ⟨w6.heap.size, 0, none⟩ 1 1 [.string nm, .int .i64 0, .int .i64 ps] rfl rfl (fun j u hj => cells_three N3 j u hj) (by simp [Value.oneCell']) (by simp only [maxLen]; omega) (by omega) (by simp; omega) ?_; intro v' w4 hown' hgrow _; have ROW := Lib.hid hown'; have GR := Lib.hid hgrow; clear hown' hgrow))
      have A := Lib.hid (A.out.grown GR.out (fun r hr => ⟨(row3.lt r hr).1, by have := (row3.lt r hr).1; have := hX.out; omega⟩))
      clear N3 row3 hi hi0 hi1 hi2 GR
      by_cases hc : σz.has c.L [44] = true
      · have HC := Lib.hid hc
        rw [hc] at HT
        clear hc
        go_wp2_with fail
        go_at_call 69
        refine (HT.out _ (A.out.rs HS.out)).mono ?_
        rintro e w8 ⟨rfl, hf, hr⟩
        have A := Lib.hid (A.out.call hf (show Rs c w8 σz.step from by rw [show σz.take c.L [44] = σz.step by unfold Sr.take; rw [if_pos HC.out]] at hr; exact hr))
        have ROW := Lib.hid (row_fr ROW.out hf hX.out)
        clear hf hr
        go_wp2_with fail
        go_roundg m
        case measure => omega
        case rel =>
         obtain ⟨k1, k2⟩ := has_ne HC.out
         obtain ⟨_, k4⟩ := HONE.out k1
         refine ⟨σz.step, l ++ [dd], A.out, ?_, ?_, fun h => by have := HFU.out.1 HOK.out; omega, fun h => by have := HFU.out.2 HOK.out; rw [List.length_append, List.length_singleton]; omega⟩
         · have := ROW.out; rw [hdd, dcsL_snoc, List.length_append]; exact this
         · rw [← HL.out]
           conv => rhs; simp only [listL]
           rw [if_pos HOK.out, HZ.out, if_pos HC.out]
      · have HC := Lib.hid (show σz.has c.L [44] = false by simpa using hc)
        have HFIN : Hid (Y = (l ++ [dd], σz)) := by
         rw [Hid, ← HL.out]
         simp only [listL]
         rw [if_pos HOK.out, HZ.out, if_neg hc]
        rw [HC.out] at HT
        clear hc
        go_wp2_with fail
        go_at_call 69
        refine (HT.out _ (A.out.rs HS.out)).mono ?_
        rintro e w8 ⟨rfl, hf, hr⟩
        have A := Lib.hid (A.out.call hf (show Rs c w8 σz from by rw [show σz.take c.L [44] = σz by unfold Sr.take; rw [if_neg (by rw [HC.out]; decide)]] at hr; exact hr))
        have ROW := Lib.hid (row_fr ROW.out hf hX.out)
        clear hf hr
        go_wp2_with fail
        go_at_call 123
        refine (HW.out _ _ (A.out.rs HS.out)).mono ?_
        rintro e w9 ⟨rfl, hf, hr⟩
        have A := Lib.hid (A.out.call hf hr)
        have ROW := Lib.hid (row_fr ROW.out hf hX.out)
        clear hf hr
        go_wp2_with fail
        go_ret
        show RsPost c w ((listL c.L one n [] σ).1, (listL c.L one n [] σ).2.want c.L [59]) _ _ _
        rw [HYY.out, HFIN.out]
        exact ⟨A.out.fr, _, rfl, by have := ROW.out; show World.ownsRow _ _ _ _ _ _ _; rw [hdd, dcsL_snoc, List.length_append]; exact this, A.out.rs HS.out⟩
  · have hb : σj.ok = false := by simpa using hok
    rw [hb] at HO
    have HFIN : Hid (Y = (l, σj)) := by
     rw [Hid, ← HL.out]
     exact bad_listL hb gk l
    clear hok hb
    go_wp2_with fail
    go_at_call 29
    refine (HO.out).mono ?_
    rintro e w1 ⟨rfl, hb⟩
    have A := Lib.hid (A.out.below hb)
    have ROW := Lib.hid (row_below ROW.out hb)
    clear hb HO
    go_wp2_with fail
    go_at_call 123
    refine (HW.out _ _ (A.out.rs HS.out)).mono ?_
    rintro e w9 ⟨rfl, hf, hr⟩
    have A := Lib.hid (A.out.call hf hr)
    have ROW := Lib.hid (row_fr ROW.out hf hX.out)
    clear hf hr
    go_wp2_with fail
    go_ret
    show RsPost c w ((listL c.L one n [] σ).1, (listL c.L one n [] σ).2.want c.L [59]) _ _ _
    rw [HYY.out, HFIN.out]
    exact ⟨A.out.fr, _, rfl, ROW.out, A.out.rs HS.out⟩
end Go.Proofs.YtfogkobgjojpiaaGreatDoor

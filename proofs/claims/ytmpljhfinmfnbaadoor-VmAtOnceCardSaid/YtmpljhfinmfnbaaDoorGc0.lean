/- Check, walked. -/
import Derived.Test.YtmpljhfinmfnbaaDoorGo2
namespace Go.Proofs.YtmpljhfinmfnbaaDoor
open Go.RowKit Go.Maps
set_option linter.unusedVariables false
set_option maxRecDepth 100000
/-- The first instruction that is not right. -/
def badI (n mem : Int) : List Ins → Option Nat
  | [] => none
  | i :: r => bif rightB i n mem then (badI n mem r).map (· + 1) else some 0
def badCs (mem : Int) : List Cor → Option (Nat × Nat)
  | [] => none
  | c :: r => match badI c.code.length mem c.code with
    | some k => some (0, k)
    | none => (badCs mem r).map fun p => (p.1 + 1, p.2)
theorem badI_app (n mem : Int) : ∀ l r : List Ins, badI n mem (l ++ r) = match badI n mem l with | some k => some k | none => (badI n mem r).map (· + l.length)
  | [], r => by simp [badI]
  | i :: l, r => by
    simp only [List.cons_append, badI]
    rw [badI_app n mem l r]
    cases rightB i n mem with
    | false => rfl
    | true =>
      simp only [cond_true]
      cases badI n mem l with
      | some k => rfl
      | none =>
        simp only [Option.map_none, List.length_cons]
        cases badI n mem r with
        | none => rfl
        | some k => simp only [Option.map_some, Option.some.injEq]; omega
theorem badCs_app (mem : Int) : ∀ l r : List Cor, badCs mem (l ++ r) = match badCs mem l with | some k => some k | none => (badCs mem r).map fun p => (p.1 + l.length, p.2)
  | [], r => by simp [badCs]
  | c :: l, r => by
    simp only [List.cons_append, badCs]
    cases badI c.code.length mem c.code with
    | some k => rfl
    | none =>
      simp only
      rw [badCs_app mem l r]
      cases badCs mem l with
      | some k => rfl
      | none =>
        simp only [Option.map_none, List.length_cons]
        cases badCs mem r with
        | none => rfl
        | some k => simp only [Option.map_some, Option.some.injEq, Prod.mk.injEq, and_true]; omega
/-- What Check says. -/
def chkO (o : Ob) : Int × Int × Int := bif topB o then (match badCs o.mem.length o.cores with | some p => (160, (p.1 : Int), (p.2 : Int)) | none => (0, 0, 0)) else (160, 0, 0)
def chkE (p : Int × Int × Int) : Ending := .returned (.tuple #[.int .i64 p.1, .int .i64 p.2.1, .int .i64 p.2.2])
/-- What the loops keep. -/
def Kst (w : World) (mem : Int) (ro : Array Value) (l : List Cor) (W : World) : Prop := badCs mem l = none ∧ Below w.heap.size w W ∧ Own W w.heap.size 25 ro
def Kin (w : World) (ro : Array Value) (g : Nat) (row : Array Value) (n mem : Int) (l : List Ins) (W : World) : Prop := badI n mem l = none ∧ Own W g 83 row ∧ Below w.heap.size w W ∧ Own W w.heap.size 25 ro
theorem rowO : RowT 25 5 := ⟨_, Tryd.underlying25, rfl, by kernel_rfl⟩
set_option maxHeartbeats 8000000 in
theorem check_any (o : Ob) (hg : rgO o) (hf : fitO o) {v : Value} {w : World} (hv : obA w o v) (T : TgT w) : Calls Tryd.prog 49 #[v] w fun e w' => e = chkE (chkO o) ∧ Below w.heap.size w w' := by
  have HTP : Hid (∀ W, Below w.heap.size w W → Calls Tryd.prog 75 #[v] W fun e w' => e = .returned (.bool (topB o)) ∧ Below W.heap.size W w') := fun W hb => top_any o hf (obA_below hv hb) (T.below hb)
  obtain ⟨a1, c1, a5, c5, rfl, _, h5⟩ := hv
  obtain ⟨r, hr⟩ : ∃ r, r = chkO o := ⟨_, rfl⟩
  rw [← hr]
  obtain ⟨l1, l5, hfc⟩ := hf
  have HRG : Hid (∀ c ∈ o.cores, ∀ i ∈ c.code, rgI i) := hg.2.2.2.2
  obtain ⟨mem, sh, lk, bf, cores⟩ := o
  simp only [obV] at l1 l5 hfc h5 HTP HRG ⊢
  obtain ⟨n1, hn1⟩ : ∃ n, n = mem.length := ⟨_, rfl⟩
  obtain ⟨n5, hn5⟩ : ∃ n, n = cores.length := ⟨_, rfl⟩
  have hr2 : r = (bif topB ⟨mem, sh, lk, bf, cores⟩ then (match badCs n1 cores with | some p => ((160 : Int), (p.1 : Int), (p.2 : Int)) | none => ((0 : Int), (0 : Int), (0 : Int))) else ((160 : Int), (0 : Int), (0 : Int))) := by rw [hr, hn1]; rfl
  rw [← hn1] at l1 HTP ⊢
  rw [← hn5] at l5 HTP ⊢
  generalize topB ⟨mem, sh, lk, bf, cores⟩ = tb at HTP hr2
  have HR := Lib.hid hr2
  have HN5 := Lib.hid hn5
  have HFC := Lib.hid hfc
  have E5 := Lib.hid h5
  have HT := Lib.hid T
  have O0 := Own.new w 25 #[.slice a1 n1 c1, .int .i64 sh, .int .i64 lk, .int .i64 bf, .slice a5 n5 c5]
  have B0 : Below w.heap.size w (w.alloc (.cells #[.slice a1 n1 c1, .int .i64 sh, .int .i64 lk, .int .i64 bf, .slice a5 n5 c5] 25)) := (Below.refl _ w).alloc (Nat.le_refl _) _
  obtain ⟨W0, hW0⟩ : ∃ W, W = w.alloc (.cells #[.slice a1 n1 c1, .int .i64 sh, .int .i64 lk, .int .i64 bf, .slice a5 n5 c5] 25) := ⟨_, rfl⟩
  rw [← hW0] at O0 B0
  have HW0 := Lib.hid hW0
  have HB0 := Lib.hid B0
  have HO0 := Lib.hid O0
  clear hn1 hn5 hr hr2 hfc h5 T hW0 B0 hg
  go_enter Tryd.func49, Tryd.ntmps49
  go_upto_region 1 with (fail)
  rw [← HW0.out]
  clear HW0
  go_wp2_with (refine ld rowO rfl rfl rfl O0 rfl ?_)
  go_at_call 75
  refine (HTP.out _ HB0.out).mono ?_
  rintro e w1 ⟨rfl, hb⟩
  have HO1 := Lib.hid (HO0.out.below hb)
  have HB1 := Lib.hid (HB0.out.trans (hb.mono HB0.out.size))
  clear hb O0 HO0 HB0 HTP
  cases tb with
  | false =>
    have hr : r = (160, 0, 0) := HR.out
    subst hr
    go_wp2_with fail
    refine bodyPost_ret (results_tmp3 rfl _ _ _) rfl ?_
    exact ⟨rfl, HB1.out⟩
  | true =>
  replace HR : Hid (r = (match badCs n1 cores with | some p => (160, (p.1 : Int), (p.2 : Int)) | none => (0, 0, 0))) := HR.out
  have c4 : w1.cell? ⟨w.heap.size, 4, none⟩ = some (.slice a5 n5 c5) := by rw [cell_of_row _ _ 4 _ _ _ HO1.out]; rfl
  have HX0 : Hid (Kst w n1 #[.slice a1 n1 c1, .int .i64 sh, .int .i64 lk, .int .i64 bf, .slice a5 n5 c5] [] w1) := ⟨rfl, HB1.out, HO1.out⟩
  go_wp2_with fail
  go_loopg [15] (n5 + 1) (fun m' u W => ∃ t : Nat, u = .int .i64 (t : Int) ∧ t ≤ n5 ∧ m' = n5 - t + 1 ∧ Kst w n1 #[.slice a1 n1 c1, .int .i64 sh, .int .i64 lk, .int .i64 bf, .slice a5 n5 c5] (cores.take t) W)
  case atStart => exact ⟨0, rfl, Nat.zero_le _, by omega, by rw [List.take_zero]; exact HX0.out⟩
  case round =>
    clear HX0 c4
    obtain ⟨t, rfl, ht, hm, hx⟩ := hrel
    have HM := Lib.hid hm
    have HX := Lib.hid hx
    clear hm hx
    by_cases htn : t < n5
    rotate_left
    · have htn2 : t = n5 := by omega
      subst htn2
      have hr : r = (0, 0, 0) := by
        have h := HX.out.1
        rw [show cores.take t = cores by rw [HN5.out, List.take_length]] at h
        rw [HR.out, h]
      subst hr
      go_wp2_with fail
      refine bodyPost_ret (results_tmp3 rfl _ _ _) rfl ?_
      exact ⟨rfl, HX.out.2.1⟩
    have il : t < cores.length := by have := HN5.out; omega
    have g1 : cores[t]? = some cores[t] := List.getElem?_eq_getElem il
    have hmem : cores[t] ∈ cores := List.getElem_mem il
    have htk : cores.take (t + 1) = cores.take t ++ [cores[t]] := by rw [List.take_succ_eq_append_getElem il]
    have hdr : cores = cores.take t ++ (cores[t] :: cores.drop (t + 1)) := by rw [← List.drop_eq_getElem_cons il, List.take_append_drop]
    generalize cores[t] = x at g1 hmem htk hdr
    have htl : (cores.take t).length = t := by rw [List.length_take]; omega
    have hbad : ∀ k, badI x.code.length n1 x.code = some k → r = (160, (t : Int), (k : Int)) := fun k h => by
      rw [HR.out, hdr, badCs_app, HX.out.1]
      simp only [badCs, h, Option.map_some, htl, Nat.zero_add]
    have hgood : badI x.code.length n1 x.code = none → badCs n1 (cores.take (t + 1)) = none := fun h => by
      rw [htk, badCs_app, HX.out.1]
      simp only [badCs, h, Option.map_none]
    rcases E5.out with e | ⟨g, q, e, e1⟩
    · subst e; simp at il
    obtain rfl : a5 = some ⟨g, q, none⟩ := e
    obtain ⟨f0, a2, c2, f1, y2⟩ := e1 t x g1
    obtain ⟨_, hz2⟩ := HFC.out x hmem
    have HRI : Hid (∀ i ∈ x.code, rgI i) := HRG.out x hmem
    obtain ⟨nm, cd⟩ := x
    simp only at f0 f1 y2 hz2 hbad hgood HRI
    have BX := HX.out.2.1
    have k0' : wr.cell? ⟨g, q + t * 2, none⟩ = some (.string nm) := (BX.cell (p := ⟨g, q + t * 2, none⟩) (lt_of_at f0)).trans f0
    have k1' : wr.cell? ⟨g, q + t * 2 + 1, none⟩ = some (.slice a2 cd.length c2) := (BX.cell (p := ⟨g, q + t * 2 + 1, none⟩) (lt_of_at f1)).trans f1
    have htn' : (t : Int) < (n5 : Int) := by omega
    obtain ⟨nc, hnc⟩ : ∃ n, n = cd.length := ⟨_, rfl⟩
    rw [← hnc] at k1' hz2 hbad hgood
    have HNC := Lib.hid hnc
    have O1 := Own.new wr 83 #[.string nm, .slice a2 nc c2]
    have B1 := BX.alloc BX.size (.cells #[.string nm, .slice a2 nc c2] 83)
    obtain ⟨W2, hW2⟩ : ∃ W, W = wr.alloc (.cells #[.string nm, .slice a2 nc c2] 83) := ⟨_, rfl⟩
    have OO : Own W2 w.heap.size 25 #[.slice a1 n1 c1, .int .i64 sh, .int .i64 lk, .int .i64 bf, .slice (some ⟨g, q, none⟩) n5 c5] := by rw [hW2]; exact HX.out.2.2.alloc _
    rw [← hW2] at O1 B1
    have HW2 := Lib.hid hW2
    have HBAD := Lib.hid hbad
    have HGOOD := Lib.hid hgood
    have E2 := Lib.hid y2
    have HI0 : Hid (Kin w #[.slice a1 n1 c1, .int .i64 sh, .int .i64 lk, .int .i64 bf, .slice (some ⟨g, q, none⟩) n5 c5] wr.heap.size #[.string nm, .slice a2 nc c2] nc n1 [] W2) := ⟨rfl, O1, B1, OO⟩
    have d1 : W2.cell? ⟨wr.heap.size, 1, none⟩ = some (.slice a2 nc c2) := by rw [cell_of_row _ _ 1 _ _ _ O1]; rfl
    clear hW2 hbad hgood B1 O1 OO BX f0 f1 y2 e1 g1 hmem htk hdr hnc il htl
    go_upto_region 6 with (fail)
    rw [← HW2.out]
    clear HW2 k0' k1'
    go_wp2_with fail
    generalize wr.heap.size = gc at HI0 d1 ⊢
    go_loopg [23] (nc + 1) (fun m' u W => ∃ j : Nat, u = .int .i64 (j : Int) ∧ j ≤ nc ∧ m' = nc - j + 1 ∧ Kin w #[.slice a1 n1 c1, .int .i64 sh, .int .i64 lk, .int .i64 bf, .slice (some ⟨g, q, none⟩) n5 c5] gc #[.string nm, .slice a2 nc c2] nc n1 (cd.take j) W)
    case atStart => exact ⟨0, rfl, Nat.zero_le _, by omega, by rw [List.take_zero]; exact HI0.out⟩
    case round =>
      clear HI0 d1
      obtain ⟨j, rfl, hj, hmj, hy⟩ := hrel
      have HMJ := Lib.hid hmj
      have HY := Lib.hid hy
      clear hmj hy
      by_cases hjn : j < nc
      rotate_left
      · have hjn2 : j = nc := by omega
        subst hjn2
        have hg := HGOOD.out (by
          have h := HY.out.1
          rwa [show cd.take j = cd by rw [HNC.out, List.take_length]] at h)
        have HXZ : Hid (Kst w n1 #[.slice a1 n1 c1, .int .i64 sh, .int .i64 lk, .int .i64 bf, .slice (some ⟨g, q, none⟩) n5 c5] (cores.take (t + 1)) wr) := ⟨hg, HY.out.2.2⟩
        clear hg
        go_wp2_with fail
        go_roundg (n5 - (t + 1) + 1)
        case measure => have := HM.out; omega
        case rel => exact ⟨t + 1, by simp, by omega, by omega, HXZ.out⟩
      have jl : j < cd.length := by have := HNC.out; omega
      have g2 : cd[j]? = some cd[j] := List.getElem?_eq_getElem jl
      have hme2 : cd[j] ∈ cd := List.getElem_mem jl
      have htk2 : cd.take (j + 1) = cd.take j ++ [cd[j]] := by rw [List.take_succ_eq_append_getElem jl]
      have hdr2 : cd = cd.take j ++ (cd[j] :: cd.drop (j + 1)) := by rw [← List.drop_eq_getElem_cons jl, List.take_append_drop]
      generalize cd[j] = i at g2 hme2 htk2 hdr2
      have htl2 : (cd.take j).length = j := by rw [List.length_take]; omega
      have hbad2 : rightB i nc n1 = false → r = (160, (t : Int), (j : Int)) := fun h => HBAD.out j (by
        rw [hdr2, badI_app, HY.out.1]
        simp only [badI, h, cond_false, Option.map_some, htl2, Nat.zero_add])
      have hgood2 : rightB i nc n1 = true → badI nc n1 (cd.take (j + 1)) = none := fun h => by
        rw [htk2, badI_app, HY.out.1]
        simp only [badI, h, cond_true, Option.map_none]
      rcases E2.out with e | ⟨g', q', e, e2⟩
      · subst e; simp at jl
      obtain rfl : a2 = some ⟨g', q', none⟩ := e
      have e3 := e2 j i g2
      have hri := HRI.out i hme2
      have HRT : Hid (∀ W, Below w.heap.size w W → Calls Tryd.prog 76 #[insV i, .int .i64 nc, .int .i64 n1] W fun e w' => e = .returned (.bool (rightB i nc n1)) ∧ Below W.heap.size W w') := fun W h => right_any i hri nc n1 W (HT.out.below h)
      generalize rightB i nc n1 = rb at HRT hbad2 hgood2
      have BX := HY.out.2.2.1
      have f0 : wr.cell? ⟨g', q' + j * 9, none⟩ = some (.int .u8 i.k) := (BX.cell (p := ⟨g', q' + j * 9, none⟩) (lt_of_at (e3 0 _ rfl))).trans (e3 0 _ rfl)
      have f1 : wr.cell? ⟨g', q' + j * 9 + 1, none⟩ = some (.int .u8 i.o) := (BX.cell (p := ⟨g', q' + j * 9 + 1, none⟩) (lt_of_at (e3 1 _ rfl))).trans (e3 1 _ rfl)
      have f2 : wr.cell? ⟨g', q' + j * 9 + 2, none⟩ = some (.int .i64 i.d) := (BX.cell (p := ⟨g', q' + j * 9 + 2, none⟩) (lt_of_at (e3 2 _ rfl))).trans (e3 2 _ rfl)
      have f3 : wr.cell? ⟨g', q' + j * 9 + 3, none⟩ = some (.int .i64 i.a) := (BX.cell (p := ⟨g', q' + j * 9 + 3, none⟩) (lt_of_at (e3 3 _ rfl))).trans (e3 3 _ rfl)
      have f4 : wr.cell? ⟨g', q' + j * 9 + 4, none⟩ = some (.int .i64 i.b) := (BX.cell (p := ⟨g', q' + j * 9 + 4, none⟩) (lt_of_at (e3 4 _ rfl))).trans (e3 4 _ rfl)
      have f5 : wr.cell? ⟨g', q' + j * 9 + 5, none⟩ = some (.int .i64 i.ad) := (BX.cell (p := ⟨g', q' + j * 9 + 5, none⟩) (lt_of_at (e3 5 _ rfl))).trans (e3 5 _ rfl)
      have f6 : wr.cell? ⟨g', q' + j * 9 + 6, none⟩ = some (.int .i64 i.tt) := (BX.cell (p := ⟨g', q' + j * 9 + 6, none⟩) (lt_of_at (e3 6 _ rfl))).trans (e3 6 _ rfl)
      have f7 : wr.cell? ⟨g', q' + j * 9 + 7, none⟩ = some (.int .i64 i.wd) := (BX.cell (p := ⟨g', q' + j * 9 + 7, none⟩) (lt_of_at (e3 7 _ rfl))).trans (e3 7 _ rfl)
      have f8 : wr.cell? ⟨g', q' + j * 9 + 8, none⟩ = some (.int .i64 i.fr) := (BX.cell (p := ⟨g', q' + j * 9 + 8, none⟩) (lt_of_at (e3 8 _ rfl))).trans (e3 8 _ rfl)
      obtain ⟨k, o, d, a, b, ad, tt, wd, fr⟩ := i
      simp only [insC, insV] at f0 f1 f2 f3 f4 f5 f6 f7 f8 HRT
      have hjn' : (j : Int) < (nc : Int) := by omega
      have O3 := Own.new wr 87 #[.int .u8 k, .int .u8 o, .int .i64 d, .int .i64 a, .int .i64 b, .int .i64 ad, .int .i64 tt, .int .i64 wd, .int .i64 fr]
      have KO : Own (wr.alloc (.cells #[.int .u8 k, .int .u8 o, .int .i64 d, .int .i64 a, .int .i64 b, .int .i64 ad, .int .i64 tt, .int .i64 wd, .int .i64 fr] 87)) gc 83 #[.string nm, .slice (some ⟨g', q', none⟩) nc c2] := HY.out.2.1.alloc _
      have KP : Own (wr.alloc (.cells #[.int .u8 k, .int .u8 o, .int .i64 d, .int .i64 a, .int .i64 b, .int .i64 ad, .int .i64 tt, .int .i64 wd, .int .i64 fr] 87)) w.heap.size 25 #[.slice a1 n1 c1, .int .i64 sh, .int .i64 lk, .int .i64 bf, .slice (some ⟨g, q, none⟩) n5 c5] := HY.out.2.2.2.alloc _
      have KB := BX.alloc BX.size (.cells #[.int .u8 k, .int .u8 o, .int .i64 d, .int .i64 a, .int .i64 b, .int .i64 ad, .int .i64 tt, .int .i64 wd, .int .i64 fr] 87)
      obtain ⟨W3, hW3⟩ : ∃ W, W = wr.alloc (.cells #[.int .u8 k, .int .u8 o, .int .i64 d, .int .i64 a, .int .i64 b, .int .i64 ad, .int .i64 tt, .int .i64 wd, .int .i64 fr] 87) := ⟨_, rfl⟩
      rw [← hW3] at O3 KO KP KB
      have HW3 := Lib.hid hW3
      have HBAD2 := Lib.hid hbad2
      have HGOOD2 := Lib.hid hgood2
      have HKO := Lib.hid KO
      have HKP := Lib.hid KP
      have HKB := Lib.hid KB
      have k1 : W3.cell? ⟨gc, 1, none⟩ = some (.slice (some ⟨g', q', none⟩) nc c2) := by rw [cell_of_row _ _ 1 _ _ _ KO]; rfl
      have k0 : W3.cell? ⟨w.heap.size, 0, none⟩ = some (.slice a1 n1 c1) := by rw [cell_of_row _ _ 0 _ _ _ KP]; rfl
      clear hW3 KO KP KB hbad2 hgood2 BX e2 e3 g2 hme2 htk2 hdr2 jl htl2 hri
      go_upto_region 9 with (fail)
      rw [← HW3.out]
      clear HW3 f0 f1 f2 f3 f4 f5 f6 f7 f8
      go_wp2_with (refine ld rowI rfl rfl rfl O3 rfl ?_)
      go_at_call 76
      refine (HRT.out _ HKB.out).mono ?_
      rintro e w9 ⟨rfl, hb⟩
      have HK9 := Lib.hid (HKO.out.below hb)
      have HP9 := Lib.hid (HKP.out.below hb)
      have HB9 := Lib.hid (HKB.out.trans (hb.mono HKB.out.size))
      clear hb O3 k0 k1 HKO HKP HKB HRT
      cases rb with
      | false =>
        have hr := HBAD2.out rfl
        subst hr
        go_wp2_with fail
        refine bodyPost_ret (results_tmp3 rfl _ _ _) rfl ?_
        exact ⟨rfl, HB9.out⟩
      | true =>
        have hg := HGOOD2.out rfl
        have HYZ : Hid (Kin w #[.slice a1 n1 c1, .int .i64 sh, .int .i64 lk, .int .i64 bf, .slice (some ⟨g, q, none⟩) n5 c5] gc #[.string nm, .slice (some ⟨g', q', none⟩) nc c2] nc n1 (cd.take (j + 1)) w9) := ⟨hg, HK9.out, HB9.out, HP9.out⟩
        clear hg
        go_wp2_with fail
        go_roundg (nc - (j + 1) + 1)
        case measure => have := HMJ.out; omega
        case rel => exact ⟨j + 1, by simp, by omega, by omega, HYZ.out⟩
end Go.Proofs.YtmpljhfinmfnbaaDoor

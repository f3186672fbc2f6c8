/- TargetStays, walked. -/
import Derived.Test.YtopinnhfajjndaaGreatDoorBg
import Derived.Test.YtopinnhfajjndaaGreatDoorSt0
namespace Go.Proofs.YtopinnhfajjndaaGreatDoor
open Go.RowKit
set_option linter.unusedVariables false
set_option maxRecDepth 100000
structure Sty (w : World) (row : Array Value) (X : World) : Prop where
  bx : Own X w.heap.size 29 row
  bel : Below w.heap.size w X
theorem Sty.below {w X Y : World} {row : Array Value} (h : Sty w row X) (hb : Below X.heap.size X Y) : Sty w row Y := ⟨h.bx.below hb, h.bel.trans (hb.mono h.bel.size)⟩
theorem sty_sb {w X Y : World} {g2 q2 j n1 n5 : Nat} {a1 : Option Addr} {c1 c5 g q : Nat} {sh lk bf k o d a bb ad tt wd fr : Int} (h : ((X.cell? ⟨g2, q2 + j * 9, none⟩ = some (.int .u8 k) ∧ X.cell? ⟨g2, q2 + j * 9 + 1, none⟩ = some (.int .u8 o) ∧ X.cell? ⟨g2, q2 + j * 9 + 2, none⟩ = some (.int .i64 d) ∧ X.cell? ⟨g2, q2 + j * 9 + 3, none⟩ = some (.int .i64 a) ∧ X.cell? ⟨g2, q2 + j * 9 + 4, none⟩ = some (.int .i64 bb) ∧ X.cell? ⟨g2, q2 + j * 9 + 5, none⟩ = some (.int .i64 ad) ∧ X.cell? ⟨g2, q2 + j * 9 + 6, none⟩ = some (.int .i64 tt) ∧ X.cell? ⟨g2, q2 + j * 9 + 7, none⟩ = some (.int .i64 wd) ∧ X.cell? ⟨g2, q2 + j * 9 + 8, none⟩ = some (.int .i64 fr)) ∧ X.cell? ⟨w.heap.size, 0, none⟩ = some (.slice a1 n1 c1) ∧ Sty w #[.slice a1 n1 c1, .int .i64 sh, .int .i64 lk, .int .i64 bf, .slice (some ⟨g, q, none⟩) n5 c5] X)) (hb : Below X.heap.size X Y) : ((Y.cell? ⟨g2, q2 + j * 9, none⟩ = some (.int .u8 k) ∧ Y.cell? ⟨g2, q2 + j * 9 + 1, none⟩ = some (.int .u8 o) ∧ Y.cell? ⟨g2, q2 + j * 9 + 2, none⟩ = some (.int .i64 d) ∧ Y.cell? ⟨g2, q2 + j * 9 + 3, none⟩ = some (.int .i64 a) ∧ Y.cell? ⟨g2, q2 + j * 9 + 4, none⟩ = some (.int .i64 bb) ∧ Y.cell? ⟨g2, q2 + j * 9 + 5, none⟩ = some (.int .i64 ad) ∧ Y.cell? ⟨g2, q2 + j * 9 + 6, none⟩ = some (.int .i64 tt) ∧ Y.cell? ⟨g2, q2 + j * 9 + 7, none⟩ = some (.int .i64 wd) ∧ Y.cell? ⟨g2, q2 + j * 9 + 8, none⟩ = some (.int .i64 fr)) ∧ Y.cell? ⟨w.heap.size, 0, none⟩ = some (.slice a1 n1 c1) ∧ Sty w #[.slice a1 n1 c1, .int .i64 sh, .int .i64 lk, .int .i64 bf, .slice (some ⟨g, q, none⟩) n5 c5] Y) :=
  ⟨⟨(hb.cell (p := ⟨g2, q2 + j * 9, none⟩) (lt_of_at h.1.1)).trans h.1.1, (hb.cell (p := ⟨g2, q2 + j * 9 + 1, none⟩) (lt_of_at h.1.2.1)).trans h.1.2.1, (hb.cell (p := ⟨g2, q2 + j * 9 + 2, none⟩) (lt_of_at h.1.2.2.1)).trans h.1.2.2.1, (hb.cell (p := ⟨g2, q2 + j * 9 + 3, none⟩) (lt_of_at h.1.2.2.2.1)).trans h.1.2.2.2.1, (hb.cell (p := ⟨g2, q2 + j * 9 + 4, none⟩) (lt_of_at h.1.2.2.2.2.1)).trans h.1.2.2.2.2.1, (hb.cell (p := ⟨g2, q2 + j * 9 + 5, none⟩) (lt_of_at h.1.2.2.2.2.2.1)).trans h.1.2.2.2.2.2.1, (hb.cell (p := ⟨g2, q2 + j * 9 + 6, none⟩) (lt_of_at h.1.2.2.2.2.2.2.1)).trans h.1.2.2.2.2.2.2.1, (hb.cell (p := ⟨g2, q2 + j * 9 + 7, none⟩) (lt_of_at h.1.2.2.2.2.2.2.2.1)).trans h.1.2.2.2.2.2.2.2.1, (hb.cell (p := ⟨g2, q2 + j * 9 + 8, none⟩) (lt_of_at h.1.2.2.2.2.2.2.2.2)).trans h.1.2.2.2.2.2.2.2.2⟩, row_cellsO (h.2.2.below hb).bx 0 _ rfl, h.2.2.below hb⟩
theorem sty_drew {w X : World} {g2 q2 j n1 n5 : Nat} {a1 : Option Addr} {c1 c5 g q : Nat} {sh lk bf k o d a bb ad tt wd fr : Int} (h : ((X.cell? ⟨g2, q2 + j * 9, none⟩ = some (.int .u8 k) ∧ X.cell? ⟨g2, q2 + j * 9 + 1, none⟩ = some (.int .u8 o) ∧ X.cell? ⟨g2, q2 + j * 9 + 2, none⟩ = some (.int .i64 d) ∧ X.cell? ⟨g2, q2 + j * 9 + 3, none⟩ = some (.int .i64 a) ∧ X.cell? ⟨g2, q2 + j * 9 + 4, none⟩ = some (.int .i64 bb) ∧ X.cell? ⟨g2, q2 + j * 9 + 5, none⟩ = some (.int .i64 ad) ∧ X.cell? ⟨g2, q2 + j * 9 + 6, none⟩ = some (.int .i64 tt) ∧ X.cell? ⟨g2, q2 + j * 9 + 7, none⟩ = some (.int .i64 wd) ∧ X.cell? ⟨g2, q2 + j * 9 + 8, none⟩ = some (.int .i64 fr)) ∧ X.cell? ⟨w.heap.size, 0, none⟩ = some (.slice a1 n1 c1) ∧ Sty w #[.slice a1 n1 c1, .int .i64 sh, .int .i64 lk, .int .i64 bf, .slice (some ⟨g, q, none⟩) n5 c5] X)) : ((X.drew.cell? ⟨g2, q2 + j * 9, none⟩ = some (.int .u8 k) ∧ X.drew.cell? ⟨g2, q2 + j * 9 + 1, none⟩ = some (.int .u8 o) ∧ X.drew.cell? ⟨g2, q2 + j * 9 + 2, none⟩ = some (.int .i64 d) ∧ X.drew.cell? ⟨g2, q2 + j * 9 + 3, none⟩ = some (.int .i64 a) ∧ X.drew.cell? ⟨g2, q2 + j * 9 + 4, none⟩ = some (.int .i64 bb) ∧ X.drew.cell? ⟨g2, q2 + j * 9 + 5, none⟩ = some (.int .i64 ad) ∧ X.drew.cell? ⟨g2, q2 + j * 9 + 6, none⟩ = some (.int .i64 tt) ∧ X.drew.cell? ⟨g2, q2 + j * 9 + 7, none⟩ = some (.int .i64 wd) ∧ X.drew.cell? ⟨g2, q2 + j * 9 + 8, none⟩ = some (.int .i64 fr)) ∧ X.drew.cell? ⟨w.heap.size, 0, none⟩ = some (.slice a1 n1 c1) ∧ Sty w #[.slice a1 n1 c1, .int .i64 sh, .int .i64 lk, .int .i64 bf, .slice (some ⟨g, q, none⟩) n5 c5] X.drew) := sty_sb h (below_drewN (Below.refl _ X) 1)
theorem rd_len2 (i : Ins) : (rdL i).length ≤ 2 := by
  unfold rdL
  split
  · cases twoB i.o <;> simp
  · split
    · simp
    · split <;> simp
theorem fol_len2 (i : Ins) (p : Int) : (folL i p).length ≤ 2 := by
  unfold folL
  repeat' split
  all_goals simp
set_option maxHeartbeats 16000000 in
theorem stays_walk (o : Ob) (hg : rgO o) (hf : fitO o) {v : Value} {w : World} (hv : obA w o v) (T : TgT w) (P : PwT w) : Calls Tryz.prog 10 #[v] w fun e w' => e = .returned (.bool true) ∧ Below w.heap.size w w' := by
  have HTT : Hid (∀ X, Below w.heap.size w X → TgT X ∧ PwT X) := fun X h => ⟨T.below h, P.below h⟩
  have HBG : Hid (∀ X, Below w.heap.size w X → Calls Tryz.prog 18 #[] X fun e w' => e = .returned (.bool true) ∧ Below X.heap.size X w') := fun X h => begins_any X (HTT.out X h).1 (HTT.out X h).2
  have HCK : Hid (∀ X, Below w.heap.size w X → Calls Tryz.prog 15 #[v] X fun e w' => e = .returned (.tuple #[.int .i64 (chkO o).1, .int .i64 (chkO o).2.1, .int .i64 (chkO o).2.2]) ∧ Below X.heap.size X w') := fun X h => check_any o hg hf (obA_below hv h) (HTT.out X h).1
  have hok : (chkO o).1 = 0 → (∀ c ∈ o.cores, codeB c.code = true ∧ c.code.length ≤ 16384) ∧ (∀ c ∈ o.cores, ∀ i ∈ c.code, rightB i c.code.length o.mem.length = true) := fun h => by
    obtain ⟨h1, h2⟩ := chk_ok h
    exact ⟨fun c hc => ⟨top_codes h1 c hc, ((chk_fit h1).2.2 c hc).2⟩, h2⟩
  have HRG : Hid (∀ c ∈ o.cores, ∀ i ∈ c.code, rgI i) := hg.2.2.2.2
  obtain ⟨a1, c1, a5, c5, rfl, h1, h5⟩ := hv
  generalize chkO o = ck at HCK hok
  obtain ⟨why, w1, w2⟩ := ck
  obtain ⟨mem, sh, lk, bf, cores⟩ := o
  simp only [obV] at HCK hok h5 HRG ⊢
  obtain ⟨n1, hn1⟩ : ∃ n, n = mem.length := ⟨_, rfl⟩
  obtain ⟨n5, hn5⟩ : ∃ n, n = cores.length := ⟨_, rfl⟩
  have hn1b : n1 ≤ 140737488351232 := by rw [hn1]; exact hf.1
  have hn5b : n5 ≤ 140737488351232 := by rw [hn5]; exact hf.2.1
  rw [← hn1] at HCK hok ⊢
  rw [← hn5] at HCK ⊢
  have HN5 := Lib.hid hn5
  have E5 := Lib.hid h5
  have HOK := Lib.hid hok
  have O0 := Own.new w 29 #[.slice a1 n1 c1, .int .i64 sh, .int .i64 lk, .int .i64 bf, .slice a5 n5 c5]
  have B0 : Below w.heap.size w (w.alloc (.cells #[.slice a1 n1 c1, .int .i64 sh, .int .i64 lk, .int .i64 bf, .slice a5 n5 c5] 29)) := (Below.refl _ w).alloc (Nat.le_refl _) _
  obtain ⟨W0, hW0⟩ : ∃ W, W = w.alloc (.cells #[.slice a1 n1 c1, .int .i64 sh, .int .i64 lk, .int .i64 bf, .slice a5 n5 c5] 29) := ⟨_, rfl⟩
  rw [← hW0] at O0 B0
  have HW0 := Lib.hid hW0
  have HS0 : Hid (Sty w #[.slice a1 n1 c1, .int .i64 sh, .int .i64 lk, .int .i64 bf, .slice a5 n5 c5] W0) := ⟨O0, B0⟩
  clear hn1 hn5 hok h1 h5 T P hW0 B0 O0 hg hf
  go_enter Tryz.func10, Tryz.ntmps10
  go_upto_region 1 with (fail)
  rw [← HW0.out]
  clear HW0
  go_upto_region 3 with (go_at_call 18; refine (HBG.out _ HS0.out.bel).mono ?_; rintro e w3 ⟨rfl, hb⟩; have HS1 := Lib.hid (HS0.out.below hb); clear hb)
  have O1 := HS1.out.bx
  go_wp2_with (refine ld rowO rfl rfl rfl O1 rfl ?_)
  go_at_call 15
  refine (HCK.out _ HS1.out.bel).mono ?_
  rintro e w4 ⟨rfl, hb⟩
  have HS2 := Lib.hid (HS1.out.below hb)
  clear hb O1 HS1 HS0 HCK HBG
  by_cases hy : why = 0
  rotate_left
  · have q : (why != 0) = true := by simpa using hy
    clear hy
    go_wp2_with fail
    go_ret
    exact ⟨rfl, HS2.out.bel⟩
  subst hy
  have HCO := Lib.hid (HOK.out rfl).1
  have HRI := Lib.hid (HOK.out rfl).2
  clear HOK
  go_wp2_with fail
  go_loopg [6] (n5 + 1) (fun m' z X => ∃ t : Nat, z = .int .i64 (t : Int) ∧ t ≤ n5 ∧ m' = n5 - t + 1 ∧ Sty w #[.slice a1 n1 c1, .int .i64 sh, .int .i64 lk, .int .i64 bf, .slice a5 n5 c5] X)
  case atStart => exact ⟨0, rfl, Nat.zero_le _, by omega, HS2.out⟩
  case round =>
    clear HS2
    obtain ⟨t, rfl, ht, hm, hx⟩ := hrel
    have HM := Lib.hid hm
    have HX := Lib.hid hx
    have p4 : wr.cell? ⟨w.heap.size, 4, none⟩ = some (.slice a5 n5 c5) := row_cellsO hx.bx 4 _ rfl
    clear hm hx
    by_cases htn : t < n5
    rotate_left
    · obtain rfl : t = n5 := by omega
      go_wp2_with fail
      go_ret
      exact ⟨rfl, HX.out.bel⟩
    have il : t < cores.length := by have := HN5.out; omega
    have g1 : cores[t]? = some cores[t] := List.getElem?_eq_getElem il
    have hmem : cores[t] ∈ cores := List.getElem_mem il
    generalize cores[t] = x at g1 hmem
    rcases E5.out with e | ⟨g, q, e, e1⟩
    · subst e; simp at il
    obtain rfl : a5 = some ⟨g, q, none⟩ := e
    obtain ⟨_, a2, c2, f1, y2⟩ := e1 t x g1
    have HCD := Lib.hid (HCO.out x hmem)
    have HRD := Lib.hid (HRI.out x hmem)
    have HGD := Lib.hid (HRG.out x hmem)
    obtain ⟨nm, cd⟩ := x
    simp only at f1 y2 HCD HRD HGD
    have k1' : wr.cell? ⟨g, q + t * 2 + 1, none⟩ = some (.slice a2 cd.length c2) := (HX.out.bel.cell (p := ⟨g, q + t * 2 + 1, none⟩) (lt_of_at f1)).trans f1
    have htn' : (t : Int) < (n5 : Int) := by omega
    obtain ⟨nc, hnc⟩ : ∃ n, n = cd.length := ⟨_, rfl⟩
    rw [← hnc] at k1' HCD HRD
    have HNC := Lib.hid hnc
    have hnc4 : nc ≤ 16384 := HCD.out.2
    have E2 := Lib.hid y2
    clear f1 y2 e1 g1 hmem hnc il
    go_wp2_with fail
    clear k1' p4
    go_loopg [8] (nc + 1) (fun m' z X => ∃ j : Nat, z = .int .i64 (j : Int) ∧ j ≤ nc ∧ m' = nc - j + 1 ∧ Sty w #[.slice a1 n1 c1, .int .i64 sh, .int .i64 lk, .int .i64 bf, .slice (some ⟨g, q, none⟩) n5 c5] X)
    case atStart => exact ⟨0, rfl, Nat.zero_le _, by omega, HX.out⟩
    case round =>
      clear HX
      obtain ⟨j, rfl, hj, hmj, hy⟩ := hrel
      have HMJ := Lib.hid hmj
      have HY := Lib.hid hy
      clear hmj hy
      by_cases hjn : j < nc
      rotate_left
      · obtain rfl : j = nc := by omega
        go_wp2_with fail
        go_roundg (n5 - (t + 1) + 1)
        case measure => have := HM.out; omega
        case rel => exact ⟨t + 1, by simp, by omega, by omega, HY.out⟩
      have jl : j < cd.length := by have := HNC.out; omega
      have gg2 : cd[j]? = some cd[j] := List.getElem?_eq_getElem jl
      have hme2 : cd[j] ∈ cd := List.getElem_mem jl
      generalize cd[j] = i at gg2 hme2
      have hri := HRD.out i hme2
      have hgi := HGD.out i hme2
      have hla : (j : Int) + 1 < (nc : Int) ∨ i.k = 10 ∨ i.k = 8 := by
        have := code_last HCD.out.1 gg2
        have h2 := HNC.out
        omega
      rcases E2.out with e | ⟨g2, q2, e, e2⟩
      · subst e; simp at jl
      obtain rfl : a2 = some ⟨g2, q2, none⟩ := e
      have e3 := e2 j i gg2
      have hwr : wrap64 ((j : Int) + 1) = (j : Int) + 1 := by unfold wrap64; omega
      have HFO : Hid (∀ X, Calls Tryz.prog 24 #[insV i, .int .i64 (j : Int)] X (LsP X (folL i ((j : Int) + 1)))) := fun X => by
        have := follows_any i hgi.1.1 (j : Int) X
        rwa [hwr] at this
      have HRE : Hid (∀ X, Below w.heap.size w X → Calls Tryz.prog 22 #[insV i] X (LsP X (rdL i))) := fun X h => reads_any i hgi X (HTT.out X h).1
      have HWR : Hid (∀ X, Below w.heap.size w X → Calls Tryz.prog 19 #[insV i] X fun e w' => e = .returned (.tuple #[.int .i64 (wrI i).1, .bool (wrI i).2]) ∧ Below X.heap.size X w') := fun X h => writes_any i hgi X (HTT.out X h).1
      have HRT : Hid (∀ X, Below w.heap.size w X → Calls Tryz.prog 12 #[insV i, .int .i64 nc, .int .i64 n1] X fun e w' => e = .returned (.bool true) ∧ Below X.heap.size X w') := fun X h => by
        have := right_any i hgi nc n1 X (HTT.out X h).1
        rwa [hri] at this
      have HFI := Lib.hid (fol_in hri (j := (j : Int)) (by omega) hla)
      have HFN := Lib.hid (fol_nil hri ((j : Int) + 1))
      have HFL := Lib.hid (fol_len2 i ((j : Int) + 1))
      have HRI2 := Lib.hid (rd_in hri)
      have HRL := Lib.hid (rd_len2 i)
      have hwi := wr_in hri
      generalize folL i ((j : Int) + 1) = R1 at HFO HFI HFN HFL
      generalize rdL i = R2 at HRE HRI2 HRL
      generalize wrI i = ww at HWR hwi
      obtain ⟨wn, wb⟩ := ww
      have hw0 : 0 ≤ wn := hwi.1
      have hw1 : wn < 16 := hwi.2
      have HC9 : Hid (∀ X, Below w.heap.size w X → X.cell? ⟨g2, q2 + j * 9, none⟩ = some (.int .u8 i.k) ∧ X.cell? ⟨g2, q2 + j * 9 + 1, none⟩ = some (.int .u8 i.o) ∧ X.cell? ⟨g2, q2 + j * 9 + 2, none⟩ = some (.int .i64 i.d) ∧ X.cell? ⟨g2, q2 + j * 9 + 3, none⟩ = some (.int .i64 i.a) ∧ X.cell? ⟨g2, q2 + j * 9 + 4, none⟩ = some (.int .i64 i.b) ∧ X.cell? ⟨g2, q2 + j * 9 + 5, none⟩ = some (.int .i64 i.ad) ∧ X.cell? ⟨g2, q2 + j * 9 + 6, none⟩ = some (.int .i64 i.tt) ∧ X.cell? ⟨g2, q2 + j * 9 + 7, none⟩ = some (.int .i64 i.wd) ∧ X.cell? ⟨g2, q2 + j * 9 + 8, none⟩ = some (.int .i64 i.fr)) := fun X hX => ⟨(hX.cell (p := ⟨g2, q2 + j * 9, none⟩) (lt_of_at (e3 0 _ rfl))).trans (e3 0 _ rfl), (hX.cell (p := ⟨g2, q2 + j * 9 + 1, none⟩) (lt_of_at (e3 1 _ rfl))).trans (e3 1 _ rfl), (hX.cell (p := ⟨g2, q2 + j * 9 + 2, none⟩) (lt_of_at (e3 2 _ rfl))).trans (e3 2 _ rfl), (hX.cell (p := ⟨g2, q2 + j * 9 + 3, none⟩) (lt_of_at (e3 3 _ rfl))).trans (e3 3 _ rfl), (hX.cell (p := ⟨g2, q2 + j * 9 + 4, none⟩) (lt_of_at (e3 4 _ rfl))).trans (e3 4 _ rfl), (hX.cell (p := ⟨g2, q2 + j * 9 + 5, none⟩) (lt_of_at (e3 5 _ rfl))).trans (e3 5 _ rfl), (hX.cell (p := ⟨g2, q2 + j * 9 + 6, none⟩) (lt_of_at (e3 6 _ rfl))).trans (e3 6 _ rfl), (hX.cell (p := ⟨g2, q2 + j * 9 + 7, none⟩) (lt_of_at (e3 7 _ rfl))).trans (e3 7 _ rfl), (hX.cell (p := ⟨g2, q2 + j * 9 + 8, none⟩) (lt_of_at (e3 8 _ rfl))).trans (e3 8 _ rfl)⟩
      obtain ⟨k, o, d, a, bb, ad, tt, wd, fr⟩ := i
      simp only [insV, insC] at HFO HRE HWR HRT HC9 HFN
      have hjn' : (j : Int) < (nc : Int) := by omega
      have HSS : Hid (∀ X, Sty w #[.slice a1 n1 c1, .int .i64 sh, .int .i64 lk, .int .i64 bf, .slice (some ⟨g, q, none⟩) n5 c5] X → ((X.cell? ⟨g2, q2 + j * 9, none⟩ = some (.int .u8 k) ∧ X.cell? ⟨g2, q2 + j * 9 + 1, none⟩ = some (.int .u8 o) ∧ X.cell? ⟨g2, q2 + j * 9 + 2, none⟩ = some (.int .i64 d) ∧ X.cell? ⟨g2, q2 + j * 9 + 3, none⟩ = some (.int .i64 a) ∧ X.cell? ⟨g2, q2 + j * 9 + 4, none⟩ = some (.int .i64 bb) ∧ X.cell? ⟨g2, q2 + j * 9 + 5, none⟩ = some (.int .i64 ad) ∧ X.cell? ⟨g2, q2 + j * 9 + 6, none⟩ = some (.int .i64 tt) ∧ X.cell? ⟨g2, q2 + j * 9 + 7, none⟩ = some (.int .i64 wd) ∧ X.cell? ⟨g2, q2 + j * 9 + 8, none⟩ = some (.int .i64 fr)) ∧ X.cell? ⟨w.heap.size, 0, none⟩ = some (.slice a1 n1 c1) ∧ Sty w #[.slice a1 n1 c1, .int .i64 sh, .int .i64 lk, .int .i64 bf, .slice (some ⟨g, q, none⟩) n5 c5] X)) := fun X h => ⟨HC9.out X h.bel, row_cellsO h.bx 0 _ rfl, h⟩
      have hkk := HFN.out
      clear e2 e3 gg2 hme2 jl hri hgi hla hwr hwi HFN
      obtain ⟨⟨z0, z1, z2, z3, z4, z5, z6, z7, z8⟩, _⟩ := HSS.out _ HY.out
      go_wp2_with fail
      go_at_call 24
      refine (HFO.out _).mono ?_
      rintro e w5 ⟨l1, d1, rfl, hb, hi⟩
      have HY5 := Lib.hid (HY.out.below hb)
      have HI5 := Lib.hid hi
      clear hb hi z0 z1 z2 z3 z4 z5 z6 z7 z8 HY HFO
      obtain ⟨m1, hm1⟩ : ∃ m, m = R1.length := ⟨_, rfl⟩
      rw [← hm1] at hkk ⊢
      have HM1 := Lib.hid hm1
      have hm12 : m1 ≤ 2 := by rw [hm1]; exact HFL.out
      clear hm1 HFL
      go_wp2_with fail
      go_loopg [10] (m1 + 1) (fun m' z X => ∃ u : Nat, z = .int .i64 (u : Int) ∧ u ≤ m1 ∧ m' = m1 - u + 1 ∧ Sty w #[.slice a1 n1 c1, .int .i64 sh, .int .i64 lk, .int .i64 bf, .slice (some ⟨g, q, none⟩) n5 c5] X ∧ intsAt X R1 l1)
      case atStart => exact ⟨0, rfl, Nat.zero_le _, by omega, HY5.out, HI5.out⟩
      case round =>
        clear HY5 HI5
        obtain ⟨u, rfl, hu, hmu, hyu, hiu⟩ := hrel
        have HMU := Lib.hid hmu
        have HYU := Lib.hid hyu
        have HIU := Lib.hid hiu
        clear hmu hyu hiu
        by_cases hun : u < m1
        · have ul : u < R1.length := by have := HM1.out; omega
          have gu : R1[u]? = some R1[u] := List.getElem?_eq_getElem ul
          have hin := HFI.out R1[u] (List.getElem_mem ul)
          generalize R1[u] = y at gu hin
          rcases HIU.out with e | ⟨g3, q3, rfl, hc3⟩
          · subst e; simp at ul
          have cu := hc3 u y gu
          have hun' : (u : Int) < (m1 : Int) := by omega
          have y0 : ¬ y < 0 := by omega
          have y1 : ¬ (nc : Int) ≤ y := by omega
          clear hc3 gu ul hin
          go_wp2_with fail
          go_roundg (m1 - (u + 1) + 1)
          case measure => have := HMU.out; omega
          case rel => exact ⟨u + 1, by simp, by omega, by omega, HYU.out, HIU.out⟩
        obtain rfl : u = m1 := by omega
        clear HIU HFI HMU HM1
        obtain ⟨b10, hb10⟩ : ∃ b, b = (k == 10) := ⟨_, rfl⟩
        have q10 : (k == 10) = b10 := hb10.symm
        have qu0 : ((u : Int) == 0) = b10 := by
          rw [hb10]
          by_cases hk : k = 10
          · have := hkk.2 hk; subst hk; simp [this]
          · have hz : ¬ (u : Int) = 0 := fun h => hk (hkk.1 h)
            rw [int_f hz, int_f hk]
        clear hb10
        obtain ⟨⟨z0, z1, z2, z3, z4, z5, z6, z7, z8⟩, _⟩ := HSS.out _ HYU.out
        clear hkk
        go_wp2_with fail
        go_at_call 22
        refine (HRE.out _ HYU.out.bel).mono ?_
        rintro e w6 ⟨l2, d2, rfl, hb, hi⟩
        have HY6 := Lib.hid (HYU.out.below hb)
        have HI6 := Lib.hid hi
        clear hb hi z0 z1 z2 z3 z4 z5 z6 z7 z8 HYU HRE
        obtain ⟨m2, hm2⟩ : ∃ m, m = R2.length := ⟨_, rfl⟩
        rw [← hm2]
        have HM2 := Lib.hid hm2
        have hm22 : m2 ≤ 2 := by rw [hm2]; exact HRL.out
        clear hm2 HRL
        go_wp2_with fail
        go_loopg [12] (m2 + 1) (fun m' z X => ∃ s : Nat, z = .int .i64 (s : Int) ∧ s ≤ m2 ∧ m' = m2 - s + 1 ∧ Sty w #[.slice a1 n1 c1, .int .i64 sh, .int .i64 lk, .int .i64 bf, .slice (some ⟨g, q, none⟩) n5 c5] X ∧ intsAt X R2 l2)
        case atStart => exact ⟨0, rfl, Nat.zero_le _, by omega, HY6.out, HI6.out⟩
        case round =>
          clear HY6 HI6
          obtain ⟨s, rfl, hs, hms, hys, his⟩ := hrel
          have HMS := Lib.hid hms
          have HYS := Lib.hid hys
          have HIS := Lib.hid his
          clear hms hys his
          by_cases hsn : s < m2
          · have sl : s < R2.length := by have := HM2.out; omega
            have gs : R2[s]? = some R2[s] := List.getElem?_eq_getElem sl
            have hin := HRI2.out R2[s] (List.getElem_mem sl)
            generalize R2[s] = y at gs hin
            rcases HIS.out with e | ⟨g3, q3, rfl, hc3⟩
            · subst e; simp at sl
            have cu := hc3 s y gs
            have hsn' : (s : Int) < (m2 : Int) := by omega
            have y0 : ¬ y < 0 := by omega
            have y1 : ¬ (16 : Int) ≤ y := by omega
            clear hc3 gs sl hin
            go_wp2_with fail
            go_roundg (m2 - (s + 1) + 1)
            case measure => have := HMS.out; omega
            case rel => exact ⟨s + 1, by simp, by omega, by omega, HYS.out, HIS.out⟩
          obtain rfl : s = m2 := by omega
          clear HIS HRI2 HMS HM2
          obtain ⟨⟨z0, z1, z2, z3, z4, z5, z6, z7, z8⟩, _⟩ := HSS.out _ HYS.out
          go_upto_region 28 with (go_at_call 19; refine (HWR.out _ HYS.out.bel).mono ?_; rintro e w7 ⟨rfl, hb⟩; have HY7 := Lib.hid (HYS.out.below hb); clear hb)
          clear z0 z1 z2 z3 z4 z5 z6 z7 z8 HYS HWR
          have HS7 := Lib.hid (HSS.out _ HY7.out)
          have w0 : ¬ wn < 0 := by omega
          have w1 : ¬ (16 : Int) ≤ wn := by omega
          have H9 : Hid (∀ X, ((X.cell? ⟨g2, q2 + j * 9, none⟩ = some (.int .u8 k) ∧ X.cell? ⟨g2, q2 + j * 9 + 1, none⟩ = some (.int .u8 o) ∧ X.cell? ⟨g2, q2 + j * 9 + 2, none⟩ = some (.int .i64 d) ∧ X.cell? ⟨g2, q2 + j * 9 + 3, none⟩ = some (.int .i64 a) ∧ X.cell? ⟨g2, q2 + j * 9 + 4, none⟩ = some (.int .i64 bb) ∧ X.cell? ⟨g2, q2 + j * 9 + 5, none⟩ = some (.int .i64 ad) ∧ X.cell? ⟨g2, q2 + j * 9 + 6, none⟩ = some (.int .i64 tt) ∧ X.cell? ⟨g2, q2 + j * 9 + 7, none⟩ = some (.int .i64 wd) ∧ X.cell? ⟨g2, q2 + j * 9 + 8, none⟩ = some (.int .i64 fr)) ∧ X.cell? ⟨w.heap.size, 0, none⟩ = some (.slice a1 n1 c1) ∧ Sty w #[.slice a1 n1 c1, .int .i64 sh, .int .i64 lk, .int .i64 bf, .slice (some ⟨g, q, none⟩) n5 c5] X) → Calls Tryz.prog 12 #[.agg #[.int .u8 k, .int .u8 o, .int .i64 d, .int .i64 a, .int .i64 bb, .int .i64 ad, .int .i64 tt, .int .i64 wd, .int .i64 fr], .int .i64 nc, .int .i64 n1] X fun e w' => e = .returned (.bool true) ∧ Below X.heap.size X w') := fun X h => HRT.out X h.2.2.bel
          clear HRT HY7
          go_region_held3 (fun X => ((X.cell? ⟨g2, q2 + j * 9, none⟩ = some (.int .u8 k) ∧ X.cell? ⟨g2, q2 + j * 9 + 1, none⟩ = some (.int .u8 o) ∧ X.cell? ⟨g2, q2 + j * 9 + 2, none⟩ = some (.int .i64 d) ∧ X.cell? ⟨g2, q2 + j * 9 + 3, none⟩ = some (.int .i64 a) ∧ X.cell? ⟨g2, q2 + j * 9 + 4, none⟩ = some (.int .i64 bb) ∧ X.cell? ⟨g2, q2 + j * 9 + 5, none⟩ = some (.int .i64 ad) ∧ X.cell? ⟨g2, q2 + j * 9 + 6, none⟩ = some (.int .i64 tt) ∧ X.cell? ⟨g2, q2 + j * 9 + 7, none⟩ = some (.int .i64 wd) ∧ X.cell? ⟨g2, q2 + j * 9 + 8, none⟩ = some (.int .i64 fr)) ∧ X.cell? ⟨w.heap.size, 0, none⟩ = some (.slice a1 n1 c1) ∧ Sty w #[.slice a1 n1 c1, .int .i64 sh, .int .i64 lk, .int .i64 bf, .slice (some ⟨g, q, none⟩) n5 c5] X)) (first | exact sty_drew HS7.out | assumption | exact sty_sb (by assumption) (by assumption)) (first
            | (go_at_call 12
               refine (H9.out _ (by assumption)).mono ?_
               rintro e w8 ⟨rfl, hb⟩))
          have HF := Lib.hid (And.right (And.right (by assumption : _ ∧ _ ∧ Sty w #[.slice a1 n1 c1, .int .i64 sh, .int .i64 lk, .int .i64 bf, .slice (some ⟨g, q, none⟩) n5 c5] _)))
          go_wp2_with fail
          go_roundg (nc - (j + 1) + 1)
          case measure => have := HMJ.out; omega
          case rel => exact ⟨j + 1, by simp, by omega, by omega, HF.out⟩
end Go.Proofs.YtopinnhfajjndaaGreatDoor

/- TargetFlows, walked. -/
import Derived.Test.YtopinnhfajjndaaGreatDoorBg
import Derived.Test.YtopinnhfajjndaaGreatDoorFl3
namespace Go.Proofs.YtopinnhfajjndaaGreatDoor
open Go.RowKit
set_option linter.unusedVariables false
set_option maxRecDepth 100000
structure FlS (w : World) (row : Array Value) (X : World) : Prop where
  bx : Own X w.heap.size 25 row
  bel : Below w.heap.size w X
theorem FlS.below {w X Y : World} {row : Array Value} (h : FlS w row X) (hb : Below X.heap.size X Y) : FlS w row Y := ⟨h.bx.below hb, h.bel.trans (hb.mono h.bel.size)⟩
theorem fl_of {w X : World} {k o d a bb ad tt wd fr : Int} (h : FlS w #[.int .u8 k, .int .u8 o, .int .i64 d, .int .i64 a, .int .i64 bb, .int .i64 ad, .int .i64 tt, .int .i64 wd, .int .i64 fr] X) : ((X.cell? ⟨w.heap.size, 0, none⟩ = some (.int .u8 k) ∧ X.cell? ⟨w.heap.size, 1, none⟩ = some (.int .u8 o) ∧ X.cell? ⟨w.heap.size, 2, none⟩ = some (.int .i64 d) ∧ X.cell? ⟨w.heap.size, 3, none⟩ = some (.int .i64 a) ∧ X.cell? ⟨w.heap.size, 4, none⟩ = some (.int .i64 bb) ∧ X.cell? ⟨w.heap.size, 5, none⟩ = some (.int .i64 ad) ∧ X.cell? ⟨w.heap.size, 6, none⟩ = some (.int .i64 tt) ∧ X.cell? ⟨w.heap.size, 7, none⟩ = some (.int .i64 wd) ∧ X.cell? ⟨w.heap.size, 8, none⟩ = some (.int .i64 fr)) ∧ FlS w #[.int .u8 k, .int .u8 o, .int .i64 d, .int .i64 a, .int .i64 bb, .int .i64 ad, .int .i64 tt, .int .i64 wd, .int .i64 fr] X) := by
  have hx := h.bx
  exact ⟨⟨row_cellsO hx 0 _ rfl, row_cellsO hx 1 _ rfl, row_cellsO hx 2 _ rfl, row_cellsO hx 3 _ rfl, row_cellsO hx 4 _ rfl, row_cellsO hx 5 _ rfl, row_cellsO hx 6 _ rfl, row_cellsO hx 7 _ rfl, row_cellsO hx 8 _ rfl⟩, h⟩
theorem fl_sb {w X Y : World} {k o d a bb ad tt wd fr : Int} (h : ((X.cell? ⟨w.heap.size, 0, none⟩ = some (.int .u8 k) ∧ X.cell? ⟨w.heap.size, 1, none⟩ = some (.int .u8 o) ∧ X.cell? ⟨w.heap.size, 2, none⟩ = some (.int .i64 d) ∧ X.cell? ⟨w.heap.size, 3, none⟩ = some (.int .i64 a) ∧ X.cell? ⟨w.heap.size, 4, none⟩ = some (.int .i64 bb) ∧ X.cell? ⟨w.heap.size, 5, none⟩ = some (.int .i64 ad) ∧ X.cell? ⟨w.heap.size, 6, none⟩ = some (.int .i64 tt) ∧ X.cell? ⟨w.heap.size, 7, none⟩ = some (.int .i64 wd) ∧ X.cell? ⟨w.heap.size, 8, none⟩ = some (.int .i64 fr)) ∧ FlS w #[.int .u8 k, .int .u8 o, .int .i64 d, .int .i64 a, .int .i64 bb, .int .i64 ad, .int .i64 tt, .int .i64 wd, .int .i64 fr] X)) (hb : Below X.heap.size X Y) : ((Y.cell? ⟨w.heap.size, 0, none⟩ = some (.int .u8 k) ∧ Y.cell? ⟨w.heap.size, 1, none⟩ = some (.int .u8 o) ∧ Y.cell? ⟨w.heap.size, 2, none⟩ = some (.int .i64 d) ∧ Y.cell? ⟨w.heap.size, 3, none⟩ = some (.int .i64 a) ∧ Y.cell? ⟨w.heap.size, 4, none⟩ = some (.int .i64 bb) ∧ Y.cell? ⟨w.heap.size, 5, none⟩ = some (.int .i64 ad) ∧ Y.cell? ⟨w.heap.size, 6, none⟩ = some (.int .i64 tt) ∧ Y.cell? ⟨w.heap.size, 7, none⟩ = some (.int .i64 wd) ∧ Y.cell? ⟨w.heap.size, 8, none⟩ = some (.int .i64 fr)) ∧ FlS w #[.int .u8 k, .int .u8 o, .int .i64 d, .int .i64 a, .int .i64 bb, .int .i64 ad, .int .i64 tt, .int .i64 wd, .int .i64 fr] Y) := fl_of (h.2.below hb)
theorem fl_drew {w X : World} {k o d a bb ad tt wd fr : Int} (h : FlS w #[.int .u8 k, .int .u8 o, .int .i64 d, .int .i64 a, .int .i64 bb, .int .i64 ad, .int .i64 tt, .int .i64 wd, .int .i64 fr] X) : ((X.drew.cell? ⟨w.heap.size, 0, none⟩ = some (.int .u8 k) ∧ X.drew.cell? ⟨w.heap.size, 1, none⟩ = some (.int .u8 o) ∧ X.drew.cell? ⟨w.heap.size, 2, none⟩ = some (.int .i64 d) ∧ X.drew.cell? ⟨w.heap.size, 3, none⟩ = some (.int .i64 a) ∧ X.drew.cell? ⟨w.heap.size, 4, none⟩ = some (.int .i64 bb) ∧ X.drew.cell? ⟨w.heap.size, 5, none⟩ = some (.int .i64 ad) ∧ X.drew.cell? ⟨w.heap.size, 6, none⟩ = some (.int .i64 tt) ∧ X.drew.cell? ⟨w.heap.size, 7, none⟩ = some (.int .i64 wd) ∧ X.drew.cell? ⟨w.heap.size, 8, none⟩ = some (.int .i64 fr)) ∧ FlS w #[.int .u8 k, .int .u8 o, .int .i64 d, .int .i64 a, .int .i64 bb, .int .i64 ad, .int .i64 tt, .int .i64 wd, .int .i64 fr] X.drew) := fl_of (h.below (below_drewN (Below.refl _ X) 1))
theorem rd_len (i : Ins) : (rdL i).length ≤ 1000 := by
  unfold rdL
  split
  · cases twoB i.o <;> simp
  · split
    · simp
    · split <;> simp
theorem fol_len (i : Ins) (p : Int) : (folL i p).length ≤ 1000 := by
  unfold folL
  repeat' split
  all_goals simp
set_option maxHeartbeats 16000000 in
theorem flows_walk (i : Ins) (at' : Int) (hg : rgI i) (h0 : -9223372036854775808 ≤ at') (h1 : at' ≤ 9223372036854775807) (w : World) (T : TgT w) (P : PwT w) : Calls Tryz.prog 4 #[insV i, .int .i64 at'] w fun e w' => e = .returned (.bool true) ∧ Below w.heap.size w w' := by
  have HTT : Hid (∀ X, Below w.heap.size w X → TgT X ∧ PwT X) := fun X h => ⟨T.below h, P.below h⟩
  have al : Below w.heap.size w (w.alloc (.cells (insC i).toArray 25)) := (Below.refl _ w).alloc (Nat.le_refl _) _
  have O0 := Own.new w 25 (insC i).toArray
  have HWR : Hid (∀ X, Below w.heap.size w X → Calls Tryz.prog 19 #[insV i] X fun e w' => e = .returned (.tuple #[.int .i64 (rwI i).1, .bool (rwI i).2]) ∧ Below X.heap.size X w') := fun X h => by
    have h2 := writes_any i hg X (HTT.out X h).1
    rw [wrI_eq] at h2
    exact h2
  have HRW : Hid (∀ X, Calls Tryz.prog 20 #[insV i] X fun e w' => e = .returned (.tuple #[.int .i64 (rwI i).1, .bool (rwI i).2]) ∧ Below X.heap.size X w') := fun X => rwrites_any i X
  have HRE : Hid (∀ X, Below w.heap.size w X → Calls Tryz.prog 22 #[insV i] X (LsP X (rdL i))) := fun X h => reads_any i hg X (HTT.out X h).1
  have HRR : Hid (∀ X, Calls Tryz.prog 23 #[insV i] X (LsP X (rdL i))) := fun X => rreads_any i hg.2.1.1 X
  have HFO : Hid (∀ X, Calls Tryz.prog 24 #[insV i, .int .i64 at'] X (LsP X (folL i (wrap64 (at' + 1))))) := fun X => follows_any i hg.1.1 at' X
  have HRF : Hid (∀ X, Calls Tryz.prog 25 #[insV i, .int .i64 at'] X (LsP X (folL i (wrap64 (at' + 1))))) := fun X => rfollows_any i hg.1.1 at' X
  have HDR : Hid (∀ X, Calls Tryz.prog 26 #[.int .u8 i.k] X fun e w' => e = .returned (.bool (drB i.k)) ∧ X = w') := fun X => drains_any i.k X
  have HRD : Hid (∀ X, Calls Tryz.prog 27 #[.int .u8 i.k] X fun e w' => e = .returned (.bool (drB i.k)) ∧ X = w') := fun X => rdrains_any i.k X
  have HIN : Hid (∀ X (l : List Int) a b c d, l.length ≤ 1000 → intsAt X l a → intsAt X l b → Calls Tryz.prog 21 #[.slice a l.length c, .slice b l.length d] X fun e w' => e = .returned (.bool true) ∧ Below X.heap.size X w') := fun X l a b c d h ha hb => ints_same l (by omega) ha hb
  have HBG : Hid (∀ X, Below w.heap.size w X → Calls Tryz.prog 18 #[] X fun e w' => e = .returned (.bool true) ∧ Below X.heap.size X w') := fun X h => begins_any X (HTT.out X h).1 (HTT.out X h).2
  have HL1 := Lib.hid (rd_len i)
  have HL2 := Lib.hid (fol_len i (wrap64 (at' + 1)))
  generalize rdL i = R1 at HRE HRR HL1
  generalize folL i (wrap64 (at' + 1)) = R2 at HFO HRF HL2
  generalize rwI i = rw' at HWR HRW
  obtain ⟨q1, q2⟩ := rw'
  obtain ⟨k, o, d, a, bb, ad, tt, wd, fr⟩ := i
  simp only [insV, insC] at O0 al HWR HRW HRE HRR HFO HRF HDR HRD ⊢
  generalize drB k = dk at HDR HRD
  obtain ⟨W0, hW0⟩ : ∃ W, W = w.alloc (.cells #[.int .u8 k, .int .u8 o, .int .i64 d, .int .i64 a, .int .i64 bb, .int .i64 ad, .int .i64 tt, .int .i64 wd, .int .i64 fr] 25) := ⟨_, rfl⟩
  rw [← hW0] at O0 al
  have HW0 := Lib.hid hW0
  have HS0 : Hid (FlS w #[.int .u8 k, .int .u8 o, .int .i64 d, .int .i64 a, .int .i64 bb, .int .i64 ad, .int .i64 tt, .int .i64 wd, .int .i64 fr] W0) := ⟨O0, al⟩
  clear hg h0 h1 T P al hW0
  go_enter Tryz.func4, Tryz.ntmps4
  go_upto_region 1 with fail
  rw [← HW0.out]
  clear HW0
  go_upto_region 3 with (first | (refine ld rowI rfl rfl rfl O0 rfl ?_) | (refine ld rowI rfl rfl rfl O1 rfl ?_) | (go_at_call 19; refine (HWR.out _ HS0.out.bel).mono ?_; rintro e w1 ⟨rfl, hb⟩; have HS1 := Lib.hid (HS0.out.below hb); have O1 := HS1.out.bx; clear hb O0) | (go_at_call 20; refine (HRW.out _).mono ?_; rintro e w2 ⟨rfl, hb⟩; have HS2 := Lib.hid (HS1.out.below hb); clear hb O1))
  clear HS0 HS1 HWR HRW
  have hq1 : (q1 == q1) = true := by simp
  have hq2 : (q2 == q2) = true := by simp
  have hq3 : (dk == dk) = true := by simp
  have H1 : Hid (∀ X, ((X.cell? ⟨w.heap.size, 0, none⟩ = some (.int .u8 k) ∧ X.cell? ⟨w.heap.size, 1, none⟩ = some (.int .u8 o) ∧ X.cell? ⟨w.heap.size, 2, none⟩ = some (.int .i64 d) ∧ X.cell? ⟨w.heap.size, 3, none⟩ = some (.int .i64 a) ∧ X.cell? ⟨w.heap.size, 4, none⟩ = some (.int .i64 bb) ∧ X.cell? ⟨w.heap.size, 5, none⟩ = some (.int .i64 ad) ∧ X.cell? ⟨w.heap.size, 6, none⟩ = some (.int .i64 tt) ∧ X.cell? ⟨w.heap.size, 7, none⟩ = some (.int .i64 wd) ∧ X.cell? ⟨w.heap.size, 8, none⟩ = some (.int .i64 fr)) ∧ FlS w #[.int .u8 k, .int .u8 o, .int .i64 d, .int .i64 a, .int .i64 bb, .int .i64 ad, .int .i64 tt, .int .i64 wd, .int .i64 fr] X) → Calls Tryz.prog 22 #[.agg #[.int .u8 k, .int .u8 o, .int .i64 d, .int .i64 a, .int .i64 bb, .int .i64 ad, .int .i64 tt, .int .i64 wd, .int .i64 fr]] X (LsP X R1)) := fun X h => HRE.out X h.2.bel
  have H6 : Hid (∀ X, ((X.cell? ⟨w.heap.size, 0, none⟩ = some (.int .u8 k) ∧ X.cell? ⟨w.heap.size, 1, none⟩ = some (.int .u8 o) ∧ X.cell? ⟨w.heap.size, 2, none⟩ = some (.int .i64 d) ∧ X.cell? ⟨w.heap.size, 3, none⟩ = some (.int .i64 a) ∧ X.cell? ⟨w.heap.size, 4, none⟩ = some (.int .i64 bb) ∧ X.cell? ⟨w.heap.size, 5, none⟩ = some (.int .i64 ad) ∧ X.cell? ⟨w.heap.size, 6, none⟩ = some (.int .i64 tt) ∧ X.cell? ⟨w.heap.size, 7, none⟩ = some (.int .i64 wd) ∧ X.cell? ⟨w.heap.size, 8, none⟩ = some (.int .i64 fr)) ∧ FlS w #[.int .u8 k, .int .u8 o, .int .i64 d, .int .i64 a, .int .i64 bb, .int .i64 ad, .int .i64 tt, .int .i64 wd, .int .i64 fr] X) → Calls Tryz.prog 18 #[] X fun e w' => e = .returned (.bool true) ∧ Below X.heap.size X w') := fun X h => HBG.out X h.2.bel
  clear HRE HBG HTT
  go_region_held3 (fun X => ((X.cell? ⟨w.heap.size, 0, none⟩ = some (.int .u8 k) ∧ X.cell? ⟨w.heap.size, 1, none⟩ = some (.int .u8 o) ∧ X.cell? ⟨w.heap.size, 2, none⟩ = some (.int .i64 d) ∧ X.cell? ⟨w.heap.size, 3, none⟩ = some (.int .i64 a) ∧ X.cell? ⟨w.heap.size, 4, none⟩ = some (.int .i64 bb) ∧ X.cell? ⟨w.heap.size, 5, none⟩ = some (.int .i64 ad) ∧ X.cell? ⟨w.heap.size, 6, none⟩ = some (.int .i64 tt) ∧ X.cell? ⟨w.heap.size, 7, none⟩ = some (.int .i64 wd) ∧ X.cell? ⟨w.heap.size, 8, none⟩ = some (.int .i64 fr)) ∧ FlS w #[.int .u8 k, .int .u8 o, .int .i64 d, .int .i64 a, .int .i64 bb, .int .i64 ad, .int .i64 tt, .int .i64 wd, .int .i64 fr] X)) (first | exact fl_drew HS2.out | assumption | exact fl_sb (by assumption) (by assumption)) (first
    | (go_at_call 22
       refine (H1.out _ (by assumption)).mono ?_
       rintro e w3 ⟨a1, c1, rfl, hb, hi⟩)
    | (go_at_call 23
       refine (HRR.out _).mono ?_
       rintro e w4 ⟨a2, c2, rfl, hb, hj⟩
       have hi2 := intsAt_below hi hb)
    | (go_at_call 24
       refine (HFO.out _).mono ?_
       rintro e w5 ⟨a3, c3, rfl, hb, hm⟩)
    | (go_at_call 25
       refine (HRF.out _).mono ?_
       rintro e w6 ⟨a4, c4, rfl, hb, hn⟩
       have hm2 := intsAt_below hm hb)
    | (go_at_call 21
       first | refine (HIN.out _ R2 _ _ _ _ HL2.out hm2 hn).mono ?_ | refine (HIN.out _ R1 _ _ _ _ HL1.out hi2 hj).mono ?_
       rintro e w7 ⟨rfl, hb⟩)
    | (go_at_call 26
       refine (HDR.out _).mono ?_
       rintro e w8 ⟨rfl, rfl⟩)
    | (go_at_call 27
       refine (HRD.out _).mono ?_
       rintro e w9 ⟨rfl, rfl⟩)
    | (go_at_call 18
       refine (H6.out _ (by assumption)).mono ?_
       rintro e w10 ⟨rfl, hb⟩))
  have HF := Lib.hid (FlS.bel (And.right (by assumption : _ ∧ FlS w #[.int .u8 k, .int .u8 o, .int .i64 d, .int .i64 a, .int .i64 bb, .int .i64 ad, .int .i64 tt, .int .i64 wd, .int .i64 fr] _)))
  go_wp2_with fail
  go_ret
  exact ⟨rfl, HF.out⟩
end Go.Proofs.YtopinnhfajjndaaGreatDoor

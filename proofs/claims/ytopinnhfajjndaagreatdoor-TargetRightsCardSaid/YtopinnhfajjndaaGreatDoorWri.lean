/- TargetRights, walked. -/
import Derived.Test.YtopinnhfajjndaaGreatDoorBg
import Derived.Test.YtopinnhfajjndaaGreatDoorRck
import Derived.Test.YtopinnhfajjndaaGreatDoorRcq
namespace Go.Proofs.YtopinnhfajjndaaGreatDoor
open Go.RowKit
set_option linter.unusedVariables false
set_option maxRecDepth 100000
structure Ri (w : World) (ri ro : Array Value) (X : World) : Prop where
  ix : Own X w.heap.size 25 ri
  ox : Own X (w.heap.size + 1) 29 ro
  bel : Below w.heap.size w X
theorem Ri.below {w X Y : World} {ri ro : Array Value} (h : Ri w ri ro X) (hb : Below X.heap.size X Y) : Ri w ri ro Y := ⟨h.ix.below hb, h.ox.below hb, h.bel.trans (hb.mono h.bel.size)⟩
section
variable {w X Y : World} {k oo d a bb ad tt wd fr sh lk bf : Int} {a1 a5 : Option Addr} {n1 n5 c1 c5 : Nat}
theorem ri_of (h : Ri w #[.int .u8 k, .int .u8 oo, .int .i64 d, .int .i64 a, .int .i64 bb, .int .i64 ad, .int .i64 tt, .int .i64 wd, .int .i64 fr] #[.slice a1 n1 c1, .int .i64 sh, .int .i64 lk, .int .i64 bf, .slice a5 n5 c5] X) : ((X.cell? ⟨w.heap.size, 0, none⟩ = some (.int .u8 k) ∧ X.cell? ⟨w.heap.size, 1, none⟩ = some (.int .u8 oo) ∧ X.cell? ⟨w.heap.size, 2, none⟩ = some (.int .i64 d) ∧ X.cell? ⟨w.heap.size, 3, none⟩ = some (.int .i64 a) ∧ X.cell? ⟨w.heap.size, 4, none⟩ = some (.int .i64 bb) ∧ X.cell? ⟨w.heap.size, 5, none⟩ = some (.int .i64 ad) ∧ X.cell? ⟨w.heap.size, 6, none⟩ = some (.int .i64 tt) ∧ X.cell? ⟨w.heap.size, 7, none⟩ = some (.int .i64 wd) ∧ X.cell? ⟨w.heap.size, 8, none⟩ = some (.int .i64 fr)) ∧ Ri w #[.int .u8 k, .int .u8 oo, .int .i64 d, .int .i64 a, .int .i64 bb, .int .i64 ad, .int .i64 tt, .int .i64 wd, .int .i64 fr] #[.slice a1 n1 c1, .int .i64 sh, .int .i64 lk, .int .i64 bf, .slice a5 n5 c5] X) := by
  have hx := h.ix
  exact ⟨⟨row_cellsO hx 0 _ rfl, row_cellsO hx 1 _ rfl, row_cellsO hx 2 _ rfl, row_cellsO hx 3 _ rfl, row_cellsO hx 4 _ rfl, row_cellsO hx 5 _ rfl, row_cellsO hx 6 _ rfl, row_cellsO hx 7 _ rfl, row_cellsO hx 8 _ rfl⟩, h⟩
theorem ri_sb (h : ((X.cell? ⟨w.heap.size, 0, none⟩ = some (.int .u8 k) ∧ X.cell? ⟨w.heap.size, 1, none⟩ = some (.int .u8 oo) ∧ X.cell? ⟨w.heap.size, 2, none⟩ = some (.int .i64 d) ∧ X.cell? ⟨w.heap.size, 3, none⟩ = some (.int .i64 a) ∧ X.cell? ⟨w.heap.size, 4, none⟩ = some (.int .i64 bb) ∧ X.cell? ⟨w.heap.size, 5, none⟩ = some (.int .i64 ad) ∧ X.cell? ⟨w.heap.size, 6, none⟩ = some (.int .i64 tt) ∧ X.cell? ⟨w.heap.size, 7, none⟩ = some (.int .i64 wd) ∧ X.cell? ⟨w.heap.size, 8, none⟩ = some (.int .i64 fr)) ∧ Ri w #[.int .u8 k, .int .u8 oo, .int .i64 d, .int .i64 a, .int .i64 bb, .int .i64 ad, .int .i64 tt, .int .i64 wd, .int .i64 fr] #[.slice a1 n1 c1, .int .i64 sh, .int .i64 lk, .int .i64 bf, .slice a5 n5 c5] X)) (hb : Below X.heap.size X Y) : ((Y.cell? ⟨w.heap.size, 0, none⟩ = some (.int .u8 k) ∧ Y.cell? ⟨w.heap.size, 1, none⟩ = some (.int .u8 oo) ∧ Y.cell? ⟨w.heap.size, 2, none⟩ = some (.int .i64 d) ∧ Y.cell? ⟨w.heap.size, 3, none⟩ = some (.int .i64 a) ∧ Y.cell? ⟨w.heap.size, 4, none⟩ = some (.int .i64 bb) ∧ Y.cell? ⟨w.heap.size, 5, none⟩ = some (.int .i64 ad) ∧ Y.cell? ⟨w.heap.size, 6, none⟩ = some (.int .i64 tt) ∧ Y.cell? ⟨w.heap.size, 7, none⟩ = some (.int .i64 wd) ∧ Y.cell? ⟨w.heap.size, 8, none⟩ = some (.int .i64 fr)) ∧ Ri w #[.int .u8 k, .int .u8 oo, .int .i64 d, .int .i64 a, .int .i64 bb, .int .i64 ad, .int .i64 tt, .int .i64 wd, .int .i64 fr] #[.slice a1 n1 c1, .int .i64 sh, .int .i64 lk, .int .i64 bf, .slice a5 n5 c5] Y) := ri_of (h.2.below hb)
theorem ri_drew (h : Ri w #[.int .u8 k, .int .u8 oo, .int .i64 d, .int .i64 a, .int .i64 bb, .int .i64 ad, .int .i64 tt, .int .i64 wd, .int .i64 fr] #[.slice a1 n1 c1, .int .i64 sh, .int .i64 lk, .int .i64 bf, .slice a5 n5 c5] X) : ((X.drew.cell? ⟨w.heap.size, 0, none⟩ = some (.int .u8 k) ∧ X.drew.cell? ⟨w.heap.size, 1, none⟩ = some (.int .u8 oo) ∧ X.drew.cell? ⟨w.heap.size, 2, none⟩ = some (.int .i64 d) ∧ X.drew.cell? ⟨w.heap.size, 3, none⟩ = some (.int .i64 a) ∧ X.drew.cell? ⟨w.heap.size, 4, none⟩ = some (.int .i64 bb) ∧ X.drew.cell? ⟨w.heap.size, 5, none⟩ = some (.int .i64 ad) ∧ X.drew.cell? ⟨w.heap.size, 6, none⟩ = some (.int .i64 tt) ∧ X.drew.cell? ⟨w.heap.size, 7, none⟩ = some (.int .i64 wd) ∧ X.drew.cell? ⟨w.heap.size, 8, none⟩ = some (.int .i64 fr)) ∧ Ri w #[.int .u8 k, .int .u8 oo, .int .i64 d, .int .i64 a, .int .i64 bb, .int .i64 ad, .int .i64 tt, .int .i64 wd, .int .i64 fr] #[.slice a1 n1 c1, .int .i64 sh, .int .i64 lk, .int .i64 bf, .slice a5 n5 c5] X.drew) := ri_of (h.below (below_drewN (Below.refl _ X) 1))
end
set_option maxHeartbeats 16000000 in
theorem rights_walk (i : Ins) (n m : Int) (o : Ob) (hgi : rgI i) (hg : rgO o) (hf : fitO o) (hfw : fitW o) {v : Value} {w : World} (hv : obA w o v) (T : TgT w) (P : PwT w) : Calls Tryz.prog 3 #[insV i, .int .i64 n, .int .i64 m, v] w fun e w' => e = .returned (.bool true) ∧ Below w.heap.size w w' := by
  have HTT : Hid (∀ X, Below w.heap.size w X → TgT X ∧ PwT X) := fun X h => ⟨T.below h, P.below h⟩
  have HBG : Hid (∀ X, Below w.heap.size w X → Calls Tryz.prog 18 #[] X fun e w' => e = .returned (.bool true) ∧ Below X.heap.size X w') := fun X h => begins_any X (HTT.out X h).1 (HTT.out X h).2
  have HRG : Hid (∀ X, Below w.heap.size w X → Calls Tryz.prog 12 #[insV i, .int .i64 n, .int .i64 m] X fun e w' => e = .returned (.bool (rightB i n m)) ∧ Below X.heap.size X w') := fun X h => right_any i hgi n m X (HTT.out X h).1
  have HRR : Hid (∀ X, Calls Tryz.prog 13 #[insV i, .int .i64 n, .int .i64 m] X fun e w' => e = .returned (.bool (rightB i n m)) ∧ Below X.heap.size X w') := fun X => rright_any i hgi n m X
  generalize rightB i n m = rb at HRG HRR
  have HCP : Hid (∀ X, Below w.heap.size w X → Calls Tryz.prog 14 #[v] X fun e w' => ∃ v', e = .returned v' ∧ obA w' o v' ∧ Below X.heap.size X w') := fun X h => rcopy_any o hfw (obA_below hv h)
  have HCK : Hid (∀ X u, Below w.heap.size w X → obA X o u → Calls Tryz.prog 15 #[u] X fun e w' => e = .returned (.tuple #[.int .i64 (chkO o).1, .int .i64 (chkO o).2.1, .int .i64 (chkO o).2.2]) ∧ Below X.heap.size X w') := fun X u h hu => check_any o hg hf hu (HTT.out X h).1
  have HRC : Hid (∀ X, Below w.heap.size w X → Calls Tryz.prog 16 #[v] X fun e w' => e = .returned (.tuple #[.int .i64 (chkO o).1, .int .i64 (chkO o).2.1, .int .i64 (chkO o).2.2]) ∧ Below X.heap.size X w') := fun X h => rcheck_any o hg hf (obA_below hv h)
  have HSM : Hid (∀ X u, Below w.heap.size w X → obA X o u → Calls Tryz.prog 17 #[u, v] X fun e w' => e = .returned (.bool true) ∧ Below X.heap.size X w') := fun X u h hu => rsame_any o hf hu (obA_below hv h)
  generalize chkO o = ck at HCK HRC
  obtain ⟨y1, y2, y3⟩ := ck
  obtain ⟨a1, c1, a5, c5, rfl, _, _⟩ := hv
  have HOV : Hid (∀ X u, obA X o u → ∃ b1 d1 b5 d5, u = .agg #[.slice b1 o.mem.length d1, .int .i64 o.sh, .int .i64 o.lk, .int .i64 o.bf, .slice b5 o.cores.length d5]) := fun X u h => by
    obtain ⟨b1, d1, b5, d5, e, _, _⟩ := h
    exact ⟨b1, d1, b5, d5, e⟩
  simp only [obV] at HCP HCK HRC HSM ⊢
  obtain ⟨n1, hn1⟩ : ∃ n, n = o.mem.length := ⟨_, rfl⟩
  obtain ⟨n5, hn5⟩ : ∃ n, n = o.cores.length := ⟨_, rfl⟩
  rw [← hn1, ← hn5] at HCP HRC HSM HOV ⊢
  obtain ⟨sh, hsh⟩ : ∃ n, n = o.sh := ⟨_, rfl⟩
  obtain ⟨lk, hlk⟩ : ∃ n, n = o.lk := ⟨_, rfl⟩
  obtain ⟨bf, hbf⟩ : ∃ n, n = o.bf := ⟨_, rfl⟩
  rw [← hsh, ← hlk, ← hbf] at HCP HRC HSM HOV ⊢
  obtain ⟨k, oo, d, a, bb, ad, tt, wd, fr⟩ := i
  simp only [insV, insC] at HRG HRR ⊢
  have B0 : Below w.heap.size w ((w.alloc (.cells #[.int .u8 k, .int .u8 oo, .int .i64 d, .int .i64 a, .int .i64 bb, .int .i64 ad, .int .i64 tt, .int .i64 wd, .int .i64 fr] 25)).alloc (.cells #[.slice a1 n1 c1, .int .i64 sh, .int .i64 lk, .int .i64 bf, .slice a5 n5 c5] 29)) := ((Below.refl _ w).alloc (Nat.le_refl _) _).alloc (by simp) _
  have OA : Own ((w.alloc (.cells #[.int .u8 k, .int .u8 oo, .int .i64 d, .int .i64 a, .int .i64 bb, .int .i64 ad, .int .i64 tt, .int .i64 wd, .int .i64 fr] 25)).alloc (.cells #[.slice a1 n1 c1, .int .i64 sh, .int .i64 lk, .int .i64 bf, .slice a5 n5 c5] 29)) w.heap.size 25 #[.int .u8 k, .int .u8 oo, .int .i64 d, .int .i64 a, .int .i64 bb, .int .i64 ad, .int .i64 tt, .int .i64 wd, .int .i64 fr] := (Own.new w 25 #[.int .u8 k, .int .u8 oo, .int .i64 d, .int .i64 a, .int .i64 bb, .int .i64 ad, .int .i64 tt, .int .i64 wd, .int .i64 fr]).alloc _
  have OB : Own ((w.alloc (.cells #[.int .u8 k, .int .u8 oo, .int .i64 d, .int .i64 a, .int .i64 bb, .int .i64 ad, .int .i64 tt, .int .i64 wd, .int .i64 fr] 25)).alloc (.cells #[.slice a1 n1 c1, .int .i64 sh, .int .i64 lk, .int .i64 bf, .slice a5 n5 c5] 29)) (w.heap.size + 1) 29 #[.slice a1 n1 c1, .int .i64 sh, .int .i64 lk, .int .i64 bf, .slice a5 n5 c5] := by
    have h := Own.new (w.alloc (.cells #[.int .u8 k, .int .u8 oo, .int .i64 d, .int .i64 a, .int .i64 bb, .int .i64 ad, .int .i64 tt, .int .i64 wd, .int .i64 fr] 25)) 29 #[.slice a1 n1 c1, .int .i64 sh, .int .i64 lk, .int .i64 bf, .slice a5 n5 c5]
    rwa [World.size_alloc] at h
  obtain ⟨W0, hW0⟩ : ∃ W, W = (w.alloc (.cells #[.int .u8 k, .int .u8 oo, .int .i64 d, .int .i64 a, .int .i64 bb, .int .i64 ad, .int .i64 tt, .int .i64 wd, .int .i64 fr] 25)).alloc (.cells #[.slice a1 n1 c1, .int .i64 sh, .int .i64 lk, .int .i64 bf, .slice a5 n5 c5] 29) := ⟨_, rfl⟩
  rw [← hW0] at B0 OA OB
  have HW0 := Lib.hid hW0
  have HS0 : Hid (Ri w #[.int .u8 k, .int .u8 oo, .int .i64 d, .int .i64 a, .int .i64 bb, .int .i64 ad, .int .i64 tt, .int .i64 wd, .int .i64 fr] #[.slice a1 n1 c1, .int .i64 sh, .int .i64 lk, .int .i64 bf, .slice a5 n5 c5] W0) := ⟨OA, OB, B0⟩
  have H1 : Hid (∀ X, ((X.cell? ⟨w.heap.size, 0, none⟩ = some (.int .u8 k) ∧ X.cell? ⟨w.heap.size, 1, none⟩ = some (.int .u8 oo) ∧ X.cell? ⟨w.heap.size, 2, none⟩ = some (.int .i64 d) ∧ X.cell? ⟨w.heap.size, 3, none⟩ = some (.int .i64 a) ∧ X.cell? ⟨w.heap.size, 4, none⟩ = some (.int .i64 bb) ∧ X.cell? ⟨w.heap.size, 5, none⟩ = some (.int .i64 ad) ∧ X.cell? ⟨w.heap.size, 6, none⟩ = some (.int .i64 tt) ∧ X.cell? ⟨w.heap.size, 7, none⟩ = some (.int .i64 wd) ∧ X.cell? ⟨w.heap.size, 8, none⟩ = some (.int .i64 fr)) ∧ Ri w #[.int .u8 k, .int .u8 oo, .int .i64 d, .int .i64 a, .int .i64 bb, .int .i64 ad, .int .i64 tt, .int .i64 wd, .int .i64 fr] #[.slice a1 n1 c1, .int .i64 sh, .int .i64 lk, .int .i64 bf, .slice a5 n5 c5] X) → Calls Tryz.prog 12 #[.agg #[.int .u8 k, .int .u8 oo, .int .i64 d, .int .i64 a, .int .i64 bb, .int .i64 ad, .int .i64 tt, .int .i64 wd, .int .i64 fr], .int .i64 n, .int .i64 m] X fun e w' => e = .returned (.bool rb) ∧ Below X.heap.size X w') := fun X h => HRG.out X h.2.bel
  have hrb : (rb == rb) = true := by simp
  clear hn1 hn5 hsh hlk hbf B0 OA OB hW0 T P hgi hg hf hfw HRG
  go_enter Tryz.func3, Tryz.ntmps3
  go_upto_region 1 with fail
  rw [← HW0.out]
  clear HW0
  go_region_held3 (fun X => ((X.cell? ⟨w.heap.size, 0, none⟩ = some (.int .u8 k) ∧ X.cell? ⟨w.heap.size, 1, none⟩ = some (.int .u8 oo) ∧ X.cell? ⟨w.heap.size, 2, none⟩ = some (.int .i64 d) ∧ X.cell? ⟨w.heap.size, 3, none⟩ = some (.int .i64 a) ∧ X.cell? ⟨w.heap.size, 4, none⟩ = some (.int .i64 bb) ∧ X.cell? ⟨w.heap.size, 5, none⟩ = some (.int .i64 ad) ∧ X.cell? ⟨w.heap.size, 6, none⟩ = some (.int .i64 tt) ∧ X.cell? ⟨w.heap.size, 7, none⟩ = some (.int .i64 wd) ∧ X.cell? ⟨w.heap.size, 8, none⟩ = some (.int .i64 fr)) ∧ Ri w #[.int .u8 k, .int .u8 oo, .int .i64 d, .int .i64 a, .int .i64 bb, .int .i64 ad, .int .i64 tt, .int .i64 wd, .int .i64 fr] #[.slice a1 n1 c1, .int .i64 sh, .int .i64 lk, .int .i64 bf, .slice a5 n5 c5] X)) (first | exact ri_drew HS0.out | assumption | exact ri_sb (by assumption) (by assumption)) (first
    | (go_at_call 12
       refine (H1.out _ (by assumption)).mono ?_
       rintro e w2 ⟨rfl, hb⟩)
    | (go_at_call 13
       refine (HRR.out _).mono ?_
       rintro e w3 ⟨rfl, hb⟩))
  have HS1 := Lib.hid (And.right (by assumption : _ ∧ Ri w #[.int .u8 k, .int .u8 oo, .int .i64 d, .int .i64 a, .int .i64 bb, .int .i64 ad, .int .i64 tt, .int .i64 wd, .int .i64 fr] #[.slice a1 n1 c1, .int .i64 sh, .int .i64 lk, .int .i64 bf, .slice a5 n5 c5] _))
  have O1 := HS1.out.ox
  clear HS0 HRR H1
  go_upto_region 3 with fail
  go_wp2_with (refine ld rowO rfl rfl rfl O1 rfl ?_)
  go_at_call 14
  refine (HCP.out _ HS1.out.bel).mono ?_
  rintro e w4 ⟨v', rfl, hov, hb⟩
  obtain ⟨b1, d1, b5, d5, rfl⟩ := HOV.out _ _ hov
  have HS2 := Lib.hid (HS1.out.below hb)
  have al := (Below.refl _ w4).alloc (Nat.le_refl _) (.cells #[.slice b1 n1 d1, .int .i64 sh, .int .i64 lk, .int .i64 bf, .slice b5 n5 d5] 29)
  have OX := Own.new w4 29 #[.slice b1 n1 d1, .int .i64 sh, .int .i64 lk, .int .i64 bf, .slice b5 n5 d5]
  have HS3 := Lib.hid (HS2.out.below al)
  have HOB3 := Lib.hid (obA_below hov al)
  obtain ⟨gx, hgx⟩ : ∃ g, g = w4.heap.size := ⟨_, rfl⟩
  obtain ⟨W5, hW5⟩ : ∃ W, W = w4.alloc (.cells #[.slice b1 n1 d1, .int .i64 sh, .int .i64 lk, .int .i64 bf, .slice b5 n5 d5] 29) := ⟨_, rfl⟩
  rw [← hW5] at al OX HS3 HOB3
  rw [← hgx] at OX
  have HW5 := Lib.hid hW5
  have HGX := Lib.hid hgx
  have HOX := Lib.hid OX
  clear hb hov al hW5 hgx O1 HCP HOV HS1 HS2
  go_upto_region 4 with fail
  rw [← HW5.out, ← HGX.out]
  clear HW5
  go_wp2_with (refine ld rowO rfl rfl rfl OX rfl ?_)
  go_at_call 15
  refine (HCK.out _ _ HS3.out.bel HOB3.out).mono ?_
  rintro e w6 ⟨rfl, hb⟩
  have HS6 := Lib.hid (HS3.out.below hb)
  have HOB6 := Lib.hid (obA_below HOB3.out hb)
  have HOX6 := Lib.hid (HOX.out.below hb)
  have O6 := HS6.out.ox
  clear hb OX HOX HOB3 HS3 HCK
  go_upto_region 5 with fail
  go_wp2_with (refine ld rowO rfl rfl rfl O6 rfl ?_)
  go_at_call 16
  refine (HRC.out _ HS6.out.bel).mono ?_
  rintro e w7 ⟨rfl, hb⟩
  have HS7 := Lib.hid (HS6.out.below hb)
  have HOB7 := Lib.hid (obA_below HOB6.out hb)
  have hox7 := HOX6.out.below hb
  have hs7 := HS7.out.ox
  have p0 := row_cellsO hox7 0 _ rfl
  have p1 := row_cellsO hox7 1 _ rfl
  have p2 := row_cellsO hox7 2 _ rfl
  have p3 := row_cellsO hox7 3 _ rfl
  have p4 := row_cellsO hox7 4 _ rfl
  have q0 := row_cellsO hs7 0 _ rfl
  have q1 := row_cellsO hs7 1 _ rfl
  have q2 := row_cellsO hs7 2 _ rfl
  have q3 := row_cellsO hs7 3 _ rfl
  have q4 := row_cellsO hs7 4 _ rfl
  have e1 : (y1 == y1) = true := by simp
  have e2 : (y2 == y2) = true := by simp
  have e3 : (y3 == y3) = true := by simp
  clear hb O6 hox7 hs7 HS6 HOB6 HOX6 HRC
  go_wp2_with (first | (go_at_call 17; refine (HSM.out _ _ HS7.out.bel HOB7.out).mono ?_; rintro e w8 ⟨rfl, hb⟩; have HS8 := Lib.hid (HS7.out.below hb); clear hb) | (go_at_call 18; refine (HBG.out _ HS8.out.bel).mono ?_; rintro e w9 ⟨rfl, hb⟩; have HS9 := Lib.hid (HS8.out.below hb); clear hb))
  go_ret
  exact ⟨rfl, HS9.out.bel⟩
end Go.Proofs.YtopinnhfajjndaaGreatDoor

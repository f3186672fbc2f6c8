/- TargetPrints, walked. -/
import Derived.Test.YtopinnhfajjndaaGreatDoorBg
import Derived.Test.YtopinnhfajjndaaGreatDoorRpr
namespace Go.Proofs.YtopinnhfajjndaaGreatDoor
open Go.RowKit
set_option linter.unusedVariables false
set_option maxRecDepth 100000
structure Ri (w : World) (ri ro : Array Value) (X : World) : Prop where
  ix : Own X w.heap.size 25 ri
  ox : Own X (w.heap.size + 1) 29 ro
  bel : Below w.heap.size w X
theorem Ri.below {w X Y : World} {ri ro : Array Value} (h : Ri w ri ro X) (hb : Below X.heap.size X Y) : Ri w ri ro Y := ⟨h.ix.below hb, h.ox.below hb, h.bel.trans (hb.mono h.bel.size)⟩
section
variable {w X Y : World} {k oo d a bb ad tt wd fr sh lk bf : Int} {a1 a5 : Option Addr} {n1 n5 c1 c5 : Nat}
theorem ri_of (h : Ri w #[.int .u8 k, .int .u8 oo, .int .i64 d, .int .i64 a, .int .i64 bb, .int .i64 ad, .int .i64 tt, .int .i64 wd, .int .i64 fr] #[.slice a1 n1 c1, .int .i64 sh, .int .i64 lk, .int .i64 bf, .slice a5 n5 c5] X) : ((X.cell? ⟨w.heap.size, 0, none⟩ = some (.int .u8 k) ∧ X.cell? ⟨w.heap.size, 1, none⟩ = some (.int .u8 oo) ∧ X.cell? ⟨w.heap.size, 2, none⟩ = some (.int .i64 d) ∧ X.cell? ⟨w.heap.size, 3, none⟩ = some (.int .i64 a) ∧ X.cell? ⟨w.heap.size, 4, none⟩ = some (.int .i64 bb) ∧ X.cell? ⟨w.heap.size, 5, none⟩ = some (.int .i64 ad) ∧ X.cell? ⟨w.heap.size, 6, none⟩ = some (.int .i64 tt) ∧ X.cell? ⟨w.heap.size, 7, none⟩ = some (.int .i64 wd) ∧ X.cell? ⟨w.heap.size, 8, none⟩ = some (.int .i64 fr)) ∧ Ri w #[.int .u8 k, .int .u8 oo, .int .i64 d, .int .i64 a, .int .i64 bb, .int .i64 ad, .int .i64 tt, .int .i64 wd, .int .i64 fr] #[.slice a1 n1 c1, .int .i64 sh, .int .i64 lk, .int .i64 bf, .slice a5 n5 c5] X) := by
  have hx := h.ix
  exact ⟨⟨row_cellsO hx 0 _ rfl, row_cellsO hx 1 _ rfl, row_cellsO hx 2 _ rfl, row_cellsO hx 3 _ rfl, row_cellsO hx 4 _ rfl, row_cellsO hx 5 _ rfl, row_cellsO hx 6 _ rfl, row_cellsO hx 7 _ rfl, row_cellsO hx 8 _ rfl⟩, h⟩
theorem ri_sb (h : ((X.cell? ⟨w.heap.size, 0, none⟩ = some (.int .u8 k) ∧ X.cell? ⟨w.heap.size, 1, none⟩ = some (.int .u8 oo) ∧ X.cell? ⟨w.heap.size, 2, none⟩ = some (.int .i64 d) ∧ X.cell? ⟨w.heap.size, 3, none⟩ = some (.int .i64 a) ∧ X.cell? ⟨w.heap.size, 4, none⟩ = some (.int .i64 bb) ∧ X.cell? ⟨w.heap.size, 5, none⟩ = some (.int .i64 ad) ∧ X.cell? ⟨w.heap.size, 6, none⟩ = some (.int .i64 tt) ∧ X.cell? ⟨w.heap.size, 7, none⟩ = some (.int .i64 wd) ∧ X.cell? ⟨w.heap.size, 8, none⟩ = some (.int .i64 fr)) ∧ Ri w #[.int .u8 k, .int .u8 oo, .int .i64 d, .int .i64 a, .int .i64 bb, .int .i64 ad, .int .i64 tt, .int .i64 wd, .int .i64 fr] #[.slice a1 n1 c1, .int .i64 sh, .int .i64 lk, .int .i64 bf, .slice a5 n5 c5] X)) (hb : Below X.heap.size X Y) : ((Y.cell? ⟨w.heap.size, 0, none⟩ = some (.int .u8 k) ∧ Y.cell? ⟨w.heap.size, 1, none⟩ = some (.int .u8 oo) ∧ Y.cell? ⟨w.heap.size, 2, none⟩ = some (.int .i64 d) ∧ Y.cell? ⟨w.heap.size, 3, none⟩ = some (.int .i64 a) ∧ Y.cell? ⟨w.heap.size, 4, none⟩ = some (.int .i64 bb) ∧ Y.cell? ⟨w.heap.size, 5, none⟩ = some (.int .i64 ad) ∧ Y.cell? ⟨w.heap.size, 6, none⟩ = some (.int .i64 tt) ∧ Y.cell? ⟨w.heap.size, 7, none⟩ = some (.int .i64 wd) ∧ Y.cell? ⟨w.heap.size, 8, none⟩ = some (.int .i64 fr)) ∧ Ri w #[.int .u8 k, .int .u8 oo, .int .i64 d, .int .i64 a, .int .i64 bb, .int .i64 ad, .int .i64 tt, .int .i64 wd, .int .i64 fr] #[.slice a1 n1 c1, .int .i64 sh, .int .i64 lk, .int .i64 bf, .slice a5 n5 c5] Y) := ri_of (h.2.below hb)
theorem ri_drew (h : Ri w #[.int .u8 k, .int .u8 oo, .int .i64 d, .int .i64 a, .int .i64 bb, .int .i64 ad, .int .i64 tt, .int .i64 wd, .int .i64 fr] #[.slice a1 n1 c1, .int .i64 sh, .int .i64 lk, .int .i64 bf, .slice a5 n5 c5] X) : ((X.drew.cell? ⟨w.heap.size, 0, none⟩ = some (.int .u8 k) ∧ X.drew.cell? ⟨w.heap.size, 1, none⟩ = some (.int .u8 oo) ∧ X.drew.cell? ⟨w.heap.size, 2, none⟩ = some (.int .i64 d) ∧ X.drew.cell? ⟨w.heap.size, 3, none⟩ = some (.int .i64 a) ∧ X.drew.cell? ⟨w.heap.size, 4, none⟩ = some (.int .i64 bb) ∧ X.drew.cell? ⟨w.heap.size, 5, none⟩ = some (.int .i64 ad) ∧ X.drew.cell? ⟨w.heap.size, 6, none⟩ = some (.int .i64 tt) ∧ X.drew.cell? ⟨w.heap.size, 7, none⟩ = some (.int .i64 wd) ∧ X.drew.cell? ⟨w.heap.size, 8, none⟩ = some (.int .i64 fr)) ∧ Ri w #[.int .u8 k, .int .u8 oo, .int .i64 d, .int .i64 a, .int .i64 bb, .int .i64 ad, .int .i64 tt, .int .i64 wd, .int .i64 fr] #[.slice a1 n1 c1, .int .i64 sh, .int .i64 lk, .int .i64 bf, .slice a5 n5 c5] X.drew) := ri_of (h.below (below_drewN (Below.refl _ X) 1))
end
set_option maxHeartbeats 16000000 in
theorem prints_walk (i : Ins) (o : Ob) (hgi : rgI i) (hg : rgO o) (hf : fitO o) {v : Value} {w : World} (hv : obA w o v) (T : TgT w) (P : PwT w) : Calls Tryz.prog 5 #[insV i, v] w fun e w' => e = .returned (.bool true) ∧ Below w.heap.size w w' := by
  have HTT : Hid (∀ X, Below w.heap.size w X → TgT X ∧ PwT X) := fun X h => ⟨T.below h, P.below h⟩
  have HBG : Hid (∀ X, Below w.heap.size w X → Calls Tryz.prog 18 #[] X fun e w' => e = .returned (.bool true) ∧ Below X.heap.size X w') := fun X h => begins_any X (HTT.out X h).1 (HTT.out X h).2
  have HSW : Hid (∀ X, Below w.heap.size w X → Calls Tryz.prog 28 #[insV i] X fun e w' => e = .returned (.string ⟨(shwT i).toArray⟩) ∧ Below X.heap.size X w') := fun X h => show_any i hgi X (HTT.out X h).1 (HTT.out X h).2
  have HRS : Hid (∀ X, Calls Tryz.prog 29 #[insV i] X fun e w' => e = .returned (.string ⟨(shwT i).toArray⟩) ∧ Below X.heap.size X w') := fun X => rshow_any i hgi X
  generalize (⟨(shwT i).toArray⟩ : ByteArray) = st at HSW HRS
  have HPT : Hid (∀ X, Below w.heap.size w X → Calls Tryz.prog 30 #[v] X fun e w' => e = prtE (prtO o) ∧ Below X.heap.size X w') := fun X h => print_any o hg hf (obA_below hv h) (HTT.out X h).1 (HTT.out X h).2
  have HRT : Hid (∀ X, Below w.heap.size w X → Calls Tryz.prog 31 #[v] X fun e w' => e = prtE (prtO o) ∧ Below X.heap.size X w') := fun X h => rprt_any o hg hf (obA_below hv h)
  generalize prtO o = pr at HPT HRT
  obtain ⟨pt, pe⟩ := pr
  replace HPT : Hid (∀ X, Below w.heap.size w X → Calls Tryz.prog 30 #[v] X fun e w' => e = .returned (.tuple #[.string ⟨pt.toArray⟩, .int .i64 pe]) ∧ Below X.heap.size X w') := HPT.out
  replace HRT : Hid (∀ X, Below w.heap.size w X → Calls Tryz.prog 31 #[v] X fun e w' => e = .returned (.tuple #[.string ⟨pt.toArray⟩, .int .i64 pe]) ∧ Below X.heap.size X w') := HRT.out
  generalize (⟨pt.toArray⟩ : ByteArray) = ps at HPT HRT
  obtain ⟨a1, c1, a5, c5, rfl, _, _⟩ := hv
  simp only [obV] at HPT HRT ⊢
  obtain ⟨n1, hn1⟩ : ∃ n, n = o.mem.length := ⟨_, rfl⟩
  obtain ⟨n5, hn5⟩ : ∃ n, n = o.cores.length := ⟨_, rfl⟩
  rw [← hn1, ← hn5] at HPT HRT ⊢
  obtain ⟨sh, hsh⟩ : ∃ n, n = o.sh := ⟨_, rfl⟩
  obtain ⟨lk, hlk⟩ : ∃ n, n = o.lk := ⟨_, rfl⟩
  obtain ⟨bf, hbf⟩ : ∃ n, n = o.bf := ⟨_, rfl⟩
  rw [← hsh, ← hlk, ← hbf] at HPT HRT ⊢
  obtain ⟨k, oo, d, a, bb, ad, tt, wd, fr⟩ := i
  simp only [insV, insC] at HSW HRS ⊢
  have B0 : Below w.heap.size w ((w.alloc (.cells #[.int .u8 k, .int .u8 oo, .int .i64 d, .int .i64 a, .int .i64 bb, .int .i64 ad, .int .i64 tt, .int .i64 wd, .int .i64 fr] 25)).alloc (.cells #[.slice a1 n1 c1, .int .i64 sh, .int .i64 lk, .int .i64 bf, .slice a5 n5 c5] 29)) := ((Below.refl _ w).alloc (Nat.le_refl _) _).alloc (by simp) _
  have OA : Own ((w.alloc (.cells #[.int .u8 k, .int .u8 oo, .int .i64 d, .int .i64 a, .int .i64 bb, .int .i64 ad, .int .i64 tt, .int .i64 wd, .int .i64 fr] 25)).alloc (.cells #[.slice a1 n1 c1, .int .i64 sh, .int .i64 lk, .int .i64 bf, .slice a5 n5 c5] 29)) w.heap.size 25 #[.int .u8 k, .int .u8 oo, .int .i64 d, .int .i64 a, .int .i64 bb, .int .i64 ad, .int .i64 tt, .int .i64 wd, .int .i64 fr] := (Own.new w 25 #[.int .u8 k, .int .u8 oo, .int .i64 d, .int .i64 a, .int .i64 bb, .int .i64 ad, .int .i64 tt, .int .i64 wd, .int .i64 fr]).alloc _
  have OB : Own ((w.alloc (.cells #[.int .u8 k, .int .u8 oo, .int .i64 d, .int .i64 a, .int .i64 bb, .int .i64 ad, .int .i64 tt, .int .i64 wd, .int .i64 fr] 25)).alloc (.cells #[.slice a1 n1 c1, .int .i64 sh, .int .i64 lk, .int .i64 bf, .slice a5 n5 c5] 29)) (w.heap.size + 1) 29 #[.slice a1 n1 c1, .int .i64 sh, .int .i64 lk, .int .i64 bf, .slice a5 n5 c5] := by
    have h := Own.new (w.alloc (.cells #[.int .u8 k, .int .u8 oo, .int .i64 d, .int .i64 a, .int .i64 bb, .int .i64 ad, .int .i64 tt, .int .i64 wd, .int .i64 fr] 25)) 29 #[.slice a1 n1 c1, .int .i64 sh, .int .i64 lk, .int .i64 bf, .slice a5 n5 c5]
    rwa [World.size_alloc] at h
  obtain ⟨W0, hW0⟩ : ∃ W, W = (w.alloc (.cells #[.int .u8 k, .int .u8 oo, .int .i64 d, .int .i64 a, .int .i64 bb, .int .i64 ad, .int .i64 tt, .int .i64 wd, .int .i64 fr] 25)).alloc (.cells #[.slice a1 n1 c1, .int .i64 sh, .int .i64 lk, .int .i64 bf, .slice a5 n5 c5] 29) := ⟨_, rfl⟩
  rw [← hW0] at B0 OA OB
  have HW0 := Lib.hid hW0
  have HS0 : Hid (Ri w #[.int .u8 k, .int .u8 oo, .int .i64 d, .int .i64 a, .int .i64 bb, .int .i64 ad, .int .i64 tt, .int .i64 wd, .int .i64 fr] #[.slice a1 n1 c1, .int .i64 sh, .int .i64 lk, .int .i64 bf, .slice a5 n5 c5] W0) := ⟨OA, OB, B0⟩
  have H1 : Hid (∀ X, ((X.cell? ⟨w.heap.size, 0, none⟩ = some (.int .u8 k) ∧ X.cell? ⟨w.heap.size, 1, none⟩ = some (.int .u8 oo) ∧ X.cell? ⟨w.heap.size, 2, none⟩ = some (.int .i64 d) ∧ X.cell? ⟨w.heap.size, 3, none⟩ = some (.int .i64 a) ∧ X.cell? ⟨w.heap.size, 4, none⟩ = some (.int .i64 bb) ∧ X.cell? ⟨w.heap.size, 5, none⟩ = some (.int .i64 ad) ∧ X.cell? ⟨w.heap.size, 6, none⟩ = some (.int .i64 tt) ∧ X.cell? ⟨w.heap.size, 7, none⟩ = some (.int .i64 wd) ∧ X.cell? ⟨w.heap.size, 8, none⟩ = some (.int .i64 fr)) ∧ Ri w #[.int .u8 k, .int .u8 oo, .int .i64 d, .int .i64 a, .int .i64 bb, .int .i64 ad, .int .i64 tt, .int .i64 wd, .int .i64 fr] #[.slice a1 n1 c1, .int .i64 sh, .int .i64 lk, .int .i64 bf, .slice a5 n5 c5] X) → Calls Tryz.prog 28 #[.agg #[.int .u8 k, .int .u8 oo, .int .i64 d, .int .i64 a, .int .i64 bb, .int .i64 ad, .int .i64 tt, .int .i64 wd, .int .i64 fr]] X fun e w' => e = .returned (.string st) ∧ Below X.heap.size X w') := fun X h => HSW.out X h.2.bel
  have e2 : (pe == pe) = true := by simp
  clear hn1 hn5 hsh hlk hbf B0 OA OB hW0 T P hgi hg hf HSW
  go_enter Tryz.func5, Tryz.ntmps5
  go_upto_region 1 with fail
  rw [← HW0.out]
  clear HW0
  go_region_held3 (fun X => ((X.cell? ⟨w.heap.size, 0, none⟩ = some (.int .u8 k) ∧ X.cell? ⟨w.heap.size, 1, none⟩ = some (.int .u8 oo) ∧ X.cell? ⟨w.heap.size, 2, none⟩ = some (.int .i64 d) ∧ X.cell? ⟨w.heap.size, 3, none⟩ = some (.int .i64 a) ∧ X.cell? ⟨w.heap.size, 4, none⟩ = some (.int .i64 bb) ∧ X.cell? ⟨w.heap.size, 5, none⟩ = some (.int .i64 ad) ∧ X.cell? ⟨w.heap.size, 6, none⟩ = some (.int .i64 tt) ∧ X.cell? ⟨w.heap.size, 7, none⟩ = some (.int .i64 wd) ∧ X.cell? ⟨w.heap.size, 8, none⟩ = some (.int .i64 fr)) ∧ Ri w #[.int .u8 k, .int .u8 oo, .int .i64 d, .int .i64 a, .int .i64 bb, .int .i64 ad, .int .i64 tt, .int .i64 wd, .int .i64 fr] #[.slice a1 n1 c1, .int .i64 sh, .int .i64 lk, .int .i64 bf, .slice a5 n5 c5] X)) (first | exact ri_drew HS0.out | assumption | exact ri_sb (by assumption) (by assumption)) (first
    | (go_at_call 28
       refine (H1.out _ (by assumption)).mono ?_
       rintro e w2 ⟨rfl, hb⟩)
    | (go_at_call 29
       refine (HRS.out _).mono ?_
       rintro e w3 ⟨rfl, hb⟩))
  have HS1 := Lib.hid (And.right (by assumption : _ ∧ Ri w #[.int .u8 k, .int .u8 oo, .int .i64 d, .int .i64 a, .int .i64 bb, .int .i64 ad, .int .i64 tt, .int .i64 wd, .int .i64 fr] #[.slice a1 n1 c1, .int .i64 sh, .int .i64 lk, .int .i64 bf, .slice a5 n5 c5] _))
  have O1 := HS1.out.ox
  clear HS0 HRS H1
  go_upto_region 3 with fail
  go_wp2_with (refine ld rowO rfl rfl rfl O1 rfl ?_)
  go_at_call 30
  refine (HPT.out _ HS1.out.bel).mono ?_
  rintro e w4 ⟨rfl, hb⟩
  have HS4 := Lib.hid (HS1.out.below hb)
  have O4 := HS4.out.ox
  clear hb O1 HS1 HPT
  go_upto_region 4 with fail
  go_wp2_with (refine ld rowO rfl rfl rfl O4 rfl ?_)
  go_at_call 31
  refine (HRT.out _ HS4.out.bel).mono ?_
  rintro e w5 ⟨rfl, hb⟩
  have HS5 := Lib.hid (HS4.out.below hb)
  clear hb O4 HS4 HRT
  go_wp2_with (go_at_call 18; refine (HBG.out _ HS5.out.bel).mono ?_; rintro e w9 ⟨rfl, hb⟩; have HS9 := Lib.hid (HS5.out.below hb); clear hb)
  go_ret
  exact ⟨rfl, HS9.out.bel⟩
end Go.Proofs.YtopinnhfajjndaaGreatDoor

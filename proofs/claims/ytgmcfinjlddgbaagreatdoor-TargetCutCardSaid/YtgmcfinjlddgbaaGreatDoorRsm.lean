/- The document's Same of two objects that are one. -/
import Derived.Test.YtgmcfinjlddgbaaGreatDoorTp9
namespace Go.Proofs.YtgmcfinjlddgbaaGreatDoor
open Go.RowKit
set_option linter.unusedVariables false
set_option maxRecDepth 100000
structure Sm (w : World) (ra rb : Array Value) (X : World) : Prop where
  a : Own X w.heap.size 29 ra
  b : Own X (w.heap.size + 1) 29 rb
  bel : Below w.heap.size w X
theorem Sm.below {w X Y : World} {ra rb : Array Value} (h : Sm w ra rb X) (hb : Below X.heap.size X Y) : Sm w ra rb Y := ⟨h.a.below hb, h.b.below hb, h.bel.trans (hb.mono h.bel.size)⟩
set_option maxHeartbeats 16000000 in
theorem rsame_any (o : Ob) (hf : fitO o) {v u : Value} {w : World} (hv : obA w o v) (hu : obA w o u) : Calls Tryz.prog 17 #[v, u] w fun e w' => e = .returned (.bool true) ∧ Below w.heap.size w w' := by
  obtain ⟨a1, c1, a5, c5, rfl, h1, h5⟩ := hv
  obtain ⟨b1, d1, b5, d5, rfl, k1, k5⟩ := hu
  obtain ⟨f1, f5, fc⟩ := hf
  obtain ⟨mem, sh, lk, bf, cores⟩ := o
  simp only [obV] at *
  obtain ⟨n1, hn1⟩ : ∃ n, n = mem.length := ⟨_, rfl⟩
  obtain ⟨n5, hn5⟩ : ∃ n, n = cores.length := ⟨_, rfl⟩
  rw [← hn1] at f1 ⊢
  rw [← hn5] at f5 ⊢
  have HN := Lib.hid (And.intro hn1 hn5)
  have HA1 := Lib.hid h1
  have HA5 := Lib.hid h5
  have HB1 := Lib.hid k1
  have HB5 := Lib.hid k5
  have HFC := Lib.hid fc
  have B0 : Below w.heap.size w ((w.alloc (.cells #[.slice a1 n1 c1, .int .i64 sh, .int .i64 lk, .int .i64 bf, .slice a5 n5 c5] 29)).alloc (.cells #[.slice b1 n1 d1, .int .i64 sh, .int .i64 lk, .int .i64 bf, .slice b5 n5 d5] 29)) := ((Below.refl _ w).alloc (Nat.le_refl _) _).alloc (by simp) _
  have OA : Own ((w.alloc (.cells #[.slice a1 n1 c1, .int .i64 sh, .int .i64 lk, .int .i64 bf, .slice a5 n5 c5] 29)).alloc (.cells #[.slice b1 n1 d1, .int .i64 sh, .int .i64 lk, .int .i64 bf, .slice b5 n5 d5] 29)) w.heap.size 29 #[.slice a1 n1 c1, .int .i64 sh, .int .i64 lk, .int .i64 bf, .slice a5 n5 c5] := (Own.new w 29 #[.slice a1 n1 c1, .int .i64 sh, .int .i64 lk, .int .i64 bf, .slice a5 n5 c5]).alloc _
  have OB : Own ((w.alloc (.cells #[.slice a1 n1 c1, .int .i64 sh, .int .i64 lk, .int .i64 bf, .slice a5 n5 c5] 29)).alloc (.cells #[.slice b1 n1 d1, .int .i64 sh, .int .i64 lk, .int .i64 bf, .slice b5 n5 d5] 29)) (w.heap.size + 1) 29 #[.slice b1 n1 d1, .int .i64 sh, .int .i64 lk, .int .i64 bf, .slice b5 n5 d5] := by
    have h := Own.new (w.alloc (.cells #[.slice a1 n1 c1, .int .i64 sh, .int .i64 lk, .int .i64 bf, .slice a5 n5 c5] 29)) 29 #[.slice b1 n1 d1, .int .i64 sh, .int .i64 lk, .int .i64 bf, .slice b5 n5 d5]
    rwa [World.size_alloc] at h
  obtain ⟨W0, hW0⟩ : ∃ W, W = (w.alloc (.cells #[.slice a1 n1 c1, .int .i64 sh, .int .i64 lk, .int .i64 bf, .slice a5 n5 c5] 29)).alloc (.cells #[.slice b1 n1 d1, .int .i64 sh, .int .i64 lk, .int .i64 bf, .slice b5 n5 d5] 29) := ⟨_, rfl⟩
  rw [← hW0] at B0 OA OB
  have HW0 := Lib.hid hW0
  have HS0 : Hid (Sm w #[.slice a1 n1 c1, .int .i64 sh, .int .i64 lk, .int .i64 bf, .slice a5 n5 c5] #[.slice b1 n1 d1, .int .i64 sh, .int .i64 lk, .int .i64 bf, .slice b5 n5 d5] W0) := ⟨OA, OB, B0⟩
  have HCL : Hid (∀ X, Sm w #[.slice a1 n1 c1, .int .i64 sh, .int .i64 lk, .int .i64 bf, .slice a5 n5 c5] #[.slice b1 n1 d1, .int .i64 sh, .int .i64 lk, .int .i64 bf, .slice b5 n5 d5] X → (X.cell? ⟨w.heap.size, 0, none⟩ = some (.slice a1 n1 c1) ∧ X.cell? ⟨w.heap.size, 1, none⟩ = some (.int .i64 sh) ∧ X.cell? ⟨w.heap.size, 2, none⟩ = some (.int .i64 lk) ∧ X.cell? ⟨w.heap.size, 3, none⟩ = some (.int .i64 bf) ∧ X.cell? ⟨w.heap.size, 4, none⟩ = some (.slice a5 n5 c5)) ∧ (X.cell? ⟨w.heap.size + 1, 0, none⟩ = some (.slice b1 n1 d1) ∧ X.cell? ⟨w.heap.size + 1, 1, none⟩ = some (.int .i64 sh) ∧ X.cell? ⟨w.heap.size + 1, 2, none⟩ = some (.int .i64 lk) ∧ X.cell? ⟨w.heap.size + 1, 3, none⟩ = some (.int .i64 bf) ∧ X.cell? ⟨w.heap.size + 1, 4, none⟩ = some (.slice b5 n5 d5))) := fun X h =>
    ⟨⟨row_cellsO h.a 0 _ rfl, row_cellsO h.a 1 _ rfl, row_cellsO h.a 2 _ rfl, row_cellsO h.a 3 _ rfl, row_cellsO h.a 4 _ rfl⟩, row_cellsO h.b 0 _ rfl, row_cellsO h.b 1 _ rfl, row_cellsO h.b 2 _ rfl, row_cellsO h.b 3 _ rfl, row_cellsO h.b 4 _ rfl⟩
  clear hn1 hn5 h1 h5 k1 k5 fc B0 OA OB hW0
  go_enter Tryz.func17, Tryz.ntmps17
  go_upto_region 1 with fail
  rw [← HW0.out]
  clear HW0
  obtain ⟨⟨p0, p1, p2, p3, p4⟩, r0, r1, r2, r3, r4⟩ := HCL.out _ HS0.out
  go_wp2_with fail
  clear p0 p1 p2 p3 p4 r0 r1 r2 r3 r4
  go_loopg [5] (n1 + 1) (fun m' z X => ∃ t : Nat, z = .int .i64 (t : Int) ∧ t ≤ n1 ∧ m' = n1 - t + 1 ∧ Sm w #[.slice a1 n1 c1, .int .i64 sh, .int .i64 lk, .int .i64 bf, .slice a5 n5 c5] #[.slice b1 n1 d1, .int .i64 sh, .int .i64 lk, .int .i64 bf, .slice b5 n5 d5] X)
  case atStart => exact ⟨0, rfl, Nat.zero_le _, by omega, HS0.out⟩
  case round =>
    clear HS0
    obtain ⟨t, rfl, ht, hm, hx⟩ := hrel
    have HM := Lib.hid hm
    have HX := Lib.hid hx
    obtain ⟨⟨p0, p1, p2, p3, p4⟩, r0, r1, r2, r3, r4⟩ := HCL.out _ hx
    clear hm hx
    by_cases htn : t < n1
    · have il : t < mem.length := by have := HN.out.1; omega
      have g1 : mem[t]? = some mem[t] := List.getElem?_eq_getElem il
      generalize mem[t] = x at g1
      rcases intsAt_below HA1.out HX.out.bel with e | ⟨g, q, rfl, e1⟩
      · subst e; simp at il
      rcases intsAt_below HB1.out HX.out.bel with e | ⟨g', q', rfl, e2⟩
      · subst e; simp at il
      have y1 := e1 t x g1
      have y2 := e2 t x g1
      have htn' : (t : Int) < (n1 : Int) := by omega
      clear e1 e2 g1 il
      go_wp2_with fail
      go_quiet (fail)
      have HZ := Lib.hid (HX.out.below (below_drewN (Below.refl _ wr) nq))
      go_wp2_with fail
      go_roundg (n1 - (t + 1) + 1)
      case measure => have := HM.out; omega
      case rel => exact ⟨t + 1, by simp, by omega, by omega, HZ.out⟩
    obtain rfl : t = n1 := by omega
    go_wp2_with fail
    clear p0 p1 p2 p3 p4 r0 r1 r2 r3 r4
    go_loopg [6] (n5 + 1) (fun m' z X => ∃ s : Nat, z = .int .i64 (s : Int) ∧ s ≤ n5 ∧ m' = n5 - s + 1 ∧ Sm w #[.slice a1 t c1, .int .i64 sh, .int .i64 lk, .int .i64 bf, .slice a5 n5 c5] #[.slice b1 t d1, .int .i64 sh, .int .i64 lk, .int .i64 bf, .slice b5 n5 d5] X)
    case atStart => exact ⟨0, rfl, Nat.zero_le _, by omega, HX.out⟩
    case round =>
      clear HX
      obtain ⟨s, rfl, hs, hms, hx⟩ := hrel
      have HMS := Lib.hid hms
      have HX := Lib.hid hx
      obtain ⟨⟨p0, p1, p2, p3, p4⟩, r0, r1, r2, r3, r4⟩ := HCL.out _ hx
      clear hms hx
      by_cases hsn : s < n5
      rotate_left
      · obtain rfl : s = n5 := by omega
        go_wp2_with fail
        go_ret
        exact ⟨rfl, HX.out.bel⟩
      have il : s < cores.length := by have := HN.out.2; omega
      have g1 : cores[s]? = some cores[s] := List.getElem?_eq_getElem il
      have hlc := (HFC.out _ (List.getElem_mem il)).2
      generalize cores[s] = x at g1 hlc
      rcases HA5.out with e | ⟨g, q, rfl, e1⟩
      · subst e; simp at il
      rcases HB5.out with e | ⟨g', q', rfl, e2⟩
      · subst e; simp at il
      obtain ⟨y1, m1, l1, y2, y3⟩ := e1 s x g1
      obtain ⟨z1, m2, l2, z2, z3⟩ := e2 s x g1
      have HCB : Hid (∀ X, Below w.heap.size w X → (X.cell? ⟨g, q + s * 2, none⟩ = some (.string x.name) ∧ X.cell? ⟨g, q + s * 2 + 1, none⟩ = some (.slice m1 x.code.length l1)) ∧ X.cell? ⟨g', q' + s * 2, none⟩ = some (.string x.name) ∧ X.cell? ⟨g', q' + s * 2 + 1, none⟩ = some (.slice m2 x.code.length l2)) := fun X h => ⟨⟨(h.cell (p := ⟨g, q + s * 2, none⟩) (lt_of_at y1)).trans y1, (h.cell (p := ⟨g, q + s * 2 + 1, none⟩) (lt_of_at y2)).trans y2⟩, (h.cell (p := ⟨g', q' + s * 2, none⟩) (lt_of_at z1)).trans z1, (h.cell (p := ⟨g', q' + s * 2 + 1, none⟩) (lt_of_at z2)).trans z2⟩
      have HI1 := Lib.hid y3
      have HI2 := Lib.hid z3
      obtain ⟨nm, cd⟩ := x
      simp only at HCB HI1 HI2 hlc
      obtain ⟨nc, hnc⟩ : ∃ n, n = cd.length := ⟨_, rfl⟩
      rw [← hnc] at HCB hlc
      have HNC := Lib.hid hnc
      have hsn' : (s : Int) < (n5 : Int) := by omega
      have hnn : (nm.toList == nm.toList) = true := by simp
      obtain ⟨⟨y1', y2'⟩, z1', z2'⟩ := HCB.out _ HX.out.bel
      clear y1 y2 y3 z1 z2 z3 e1 e2 g1 il hnc
      go_wp2_with fail
      go_quiet (fail)
      have HX2 := Lib.hid (HX.out.below (below_drewN (Below.refl _ wr) nq))
      obtain ⟨W2, hW2⟩ : ∃ W, W = wr.drewN nq := ⟨_, rfl⟩
      rw [← hW2] at HX2 ⊢
      clear hW2 HX p0 p1 p2 p3 p4 r0 r1 r2 r3 r4 y1' y2' z1' z2'
      go_wp2_with fail
      go_loopg [7] (nc + 1) (fun m' z X => ∃ j : Nat, z = .int .i64 (j : Int) ∧ j ≤ nc ∧ m' = nc - j + 1 ∧ Sm w #[.slice a1 t c1, .int .i64 sh, .int .i64 lk, .int .i64 bf, .slice (some ⟨g, q, none⟩) n5 c5] #[.slice b1 t d1, .int .i64 sh, .int .i64 lk, .int .i64 bf, .slice (some ⟨g', q', none⟩) n5 d5] X)
      case atStart => exact ⟨0, rfl, Nat.zero_le _, by omega, HX2.out⟩
      case round =>
        clear HX2
        obtain ⟨j, rfl, hj, hmj, hx⟩ := hrel
        have HMJ := Lib.hid hmj
        have HX := Lib.hid hx
        obtain ⟨⟨p0, p1, p2, p3, p4⟩, r0, r1, r2, r3, r4⟩ := HCL.out _ hx
        obtain ⟨⟨y1', y2'⟩, z1', z2'⟩ := HCB.out _ hx.bel
        clear hmj hx
        by_cases hjn : j < nc
        rotate_left
        · obtain rfl : j = nc := by omega
          go_wp2_with fail
          go_roundg (n5 - (s + 1) + 1)
          case measure => have := HMS.out; omega
          case rel => exact ⟨s + 1, by simp, by omega, by omega, HX.out⟩
        have jl : j < cd.length := by have := HNC.out; omega
        have gg : cd[j]? = some cd[j] := List.getElem?_eq_getElem jl
        generalize cd[j] = i at gg
        rcases insAt_below HI1.out HX.out.bel with e | ⟨g3, q3, rfl, e3⟩
        · subst e; simp at jl
        rcases insAt_below HI2.out HX.out.bel with e | ⟨g4, q4, rfl, e4⟩
        · subst e; simp at jl
        have f0 : wr.cell? ⟨g3, q3 + j * 9, none⟩ = some (.int .u8 i.k) := e3 j i gg 0 _ rfl
        have f1 : wr.cell? ⟨g3, q3 + j * 9 + 1, none⟩ = some (.int .u8 i.o) := e3 j i gg 1 _ rfl
        have f2 : wr.cell? ⟨g3, q3 + j * 9 + 2, none⟩ = some (.int .i64 i.d) := e3 j i gg 2 _ rfl
        have f3 : wr.cell? ⟨g3, q3 + j * 9 + 3, none⟩ = some (.int .i64 i.a) := e3 j i gg 3 _ rfl
        have f4 : wr.cell? ⟨g3, q3 + j * 9 + 4, none⟩ = some (.int .i64 i.b) := e3 j i gg 4 _ rfl
        have f5 : wr.cell? ⟨g3, q3 + j * 9 + 5, none⟩ = some (.int .i64 i.ad) := e3 j i gg 5 _ rfl
        have f6 : wr.cell? ⟨g3, q3 + j * 9 + 6, none⟩ = some (.int .i64 i.tt) := e3 j i gg 6 _ rfl
        have f7 : wr.cell? ⟨g3, q3 + j * 9 + 7, none⟩ = some (.int .i64 i.wd) := e3 j i gg 7 _ rfl
        have f8 : wr.cell? ⟨g3, q3 + j * 9 + 8, none⟩ = some (.int .i64 i.fr) := e3 j i gg 8 _ rfl
        have v0 : wr.cell? ⟨g4, q4 + j * 9, none⟩ = some (.int .u8 i.k) := e4 j i gg 0 _ rfl
        have v1 : wr.cell? ⟨g4, q4 + j * 9 + 1, none⟩ = some (.int .u8 i.o) := e4 j i gg 1 _ rfl
        have v2 : wr.cell? ⟨g4, q4 + j * 9 + 2, none⟩ = some (.int .i64 i.d) := e4 j i gg 2 _ rfl
        have v3 : wr.cell? ⟨g4, q4 + j * 9 + 3, none⟩ = some (.int .i64 i.a) := e4 j i gg 3 _ rfl
        have v4 : wr.cell? ⟨g4, q4 + j * 9 + 4, none⟩ = some (.int .i64 i.b) := e4 j i gg 4 _ rfl
        have v5 : wr.cell? ⟨g4, q4 + j * 9 + 5, none⟩ = some (.int .i64 i.ad) := e4 j i gg 5 _ rfl
        have v6 : wr.cell? ⟨g4, q4 + j * 9 + 6, none⟩ = some (.int .i64 i.tt) := e4 j i gg 6 _ rfl
        have v7 : wr.cell? ⟨g4, q4 + j * 9 + 7, none⟩ = some (.int .i64 i.wd) := e4 j i gg 7 _ rfl
        have v8 : wr.cell? ⟨g4, q4 + j * 9 + 8, none⟩ = some (.int .i64 i.fr) := e4 j i gg 8 _ rfl
        obtain ⟨k, o, d, a, b, ad, tt, wd, fr⟩ := i
        simp only at f0 f1 f2 f3 f4 f5 f6 f7 f8 v0 v1 v2 v3 v4 v5 v6 v7 v8
        have hjn' : (j : Int) < (nc : Int) := by omega
        clear e3 e4 gg jl
        go_wp2_with fail
        go_quiet (fail)
        have HZ := Lib.hid (HX.out.below (below_drewN (Below.refl _ wr) nq))
        go_wp2_with fail
        go_roundg (nc - (j + 1) + 1)
        case measure => have := HMJ.out; omega
        case rel => exact ⟨j + 1, by simp, by omega, by omega, HZ.out⟩
end Go.Proofs.YtgmcfinjlddgbaaGreatDoor

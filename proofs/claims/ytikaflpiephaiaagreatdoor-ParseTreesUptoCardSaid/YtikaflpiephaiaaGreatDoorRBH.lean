/- The proof, part 34: texts that belong together, in one. -/
import Derived.Test.YtikaflpiephaiaaGreatDoorRBG
import Derived.Test.YtikaflpiephaiaaGreatDoorRAQ
set_option maxRecDepth 100000
set_option maxHeartbeats 20000000
namespace Go.Proofs.YtikaflpiephaiaaGreatDoor
open Go.RowKit
set_option linter.unusedVariables false
theorem cp_D (x : Dc) : CpD x := by
 intro hf w
 obtain ⟨nm, wd, ps⟩ := x
 have f1 : nmOk nm := hf
 have HCL : Hid (∀ W, Calls Tryz.prog 74 #[.string nm] W fun e w' => e = .returned (.string nm) ∧ Below W.heap.size W w') := fun W => p_clone nm f1 W
 change Calls _ _ #[.agg #[.string nm, .int .i64 wd, .int .i64 ps]] w _
 clear f1
 have O1 := Lib.hid ((Own.new w 66 #[.string nm, .int .i64 wd, .int .i64 ps]).alloc (.cells zDc 66))
 have O2 : Hid (Own ((w.alloc (.cells #[.string nm, .int .i64 wd, .int .i64 ps] 66)).alloc (.cells zDc 66)) (w.heap.size + 1) 66 zDc) := by have := Own.new (w.alloc (.cells #[.string nm, .int .i64 wd, .int .i64 ps] 66)) 66 zDc; rw [World.size_alloc] at this; exact this
 have HB : Hid (Below w.heap.size w ((w.alloc (.cells #[.string nm, .int .i64 wd, .int .i64 ps] 66)).alloc (.cells zDc 66))) := ((Below.refl _ w).alloc (Nat.le_refl _) _).alloc (by rw [World.size_alloc]; omega) _
 unfold zDc at O2 HB O1
 go_enter Tryz.func33, Tryz.ntmps33
 go_wp2_with fail
 go_at_call 74
 refine (HCL.out _).mono ?_
 rintro e w3 ⟨rfl, hb3⟩
 replace O1 := Lib.hid (O1.out.below hb3)
 replace O2 := Lib.hid (O2.out.below hb3)
 replace HB := Lib.hid (HB.out.trans (hb3.mono HB.out.size))
 clear hb3
 have x0 : w3.cell? ⟨w.heap.size, 0, none⟩ = some (.string nm) := by rw [cell_of_row _ _ 0 _ _ _ O1.out]; rfl
 have u0 : w3.cell? ⟨w.heap.size, 0, none⟩ = some (.string nm) := by rw [cell_of_row _ _ 0 _ _ _ O1.out]; rfl
 have z0 : w3.frozen? ⟨w.heap.size, 0, none⟩ = false := own_frozen O1.out 0
 obtain ⟨w4, hw4⟩ : ∃ W', W' = w3.setRow w.heap.size #[.string nm, .int .i64 wd, .int .i64 ps] := ⟨_, rfl⟩
 have ew4 : w3.setCell ⟨w.heap.size, 0, none⟩ (.string nm) = w4 := by rw [hw4, setCell_row O1.out 0 _]; rfl
 have lw4 := O1.out.lt
 have P1 := Lib.hid (O1.out.row #[.string nm, .int .i64 wd, .int .i64 ps])
 have P2 := Lib.hid (O2.out.other (g := w.heap.size) #[.string nm, .int .i64 wd, .int .i64 ps] (by omega))
 have HB2 := Lib.hid (Below.of_row HB.out (Nat.le_refl _) #[.string nm, .int .i64 wd, .int .i64 ps])
 have HSZ : Hid (w4.heap.size = w3.heap.size) := by rw [Hid, hw4, size_setRow]
 rw [← hw4] at P1 P2 HB2
 clear O1 O2 HB hw4 lw4
 have P2q := P2.out
 have P1q := P1.out
 go_wp2_with (first | (refine ld rowDc rfl rfl rfl P1q rfl ?_) | (refine st rowDc rfl rfl P2q rfl rfl (by rfl) (by rfl) (by kernel_rfl) ?_))
 refine p_ret rowDc rfl (P2q.row #[.string nm, .int .i64 wd, .int .i64 ps]) rfl rfl rfl ?_
 have hlt := HB2.out.size
 refine ⟨rfl, Below.of_row HB2.out (Nat.le_succ _) #[.string nm, .int .i64 wd, .int .i64 ps]⟩
theorem cp_E (x : Ex) (HK : CpEs x.kids) : CpE x := by
 intro hf a c w h1
 obtain ⟨k, o, wd, nm, ks, ps⟩ := x
 obtain ⟨f1, f2, f3⟩ := hf
 have HCL : Hid (∀ W, Calls Tryz.prog 74 #[.string nm] W fun e w' => e = .returned (.string nm) ∧ Below W.heap.size W w') := fun W => p_clone nm f1 W
 have HE0 : Hid (∀ W, Below w.heap.size w W → Calls Tryz.prog 126 #[.slice a ks.length c, .func (.func 127) #[] #[]] W fun e w' => ∃ a' c', e = .returned (.slice a' ks.length c') ∧ exsAt (fun b => W.heap.size ≤ b) w' ks a' ∧ Below W.heap.size W w') := fun W hW => HK f3 f2 a c W (exsAt_below h1 hW)
 change Calls _ _ #[.agg #[.int .u8 k, .int .u8 o, .int .i64 wd, .string nm, .slice a ks.length c, .int .i64 ps]] w _
 clear h1 f1 f2 f3 HK
 obtain ⟨n5, hn5⟩ : ∃ n, n = ks.length := ⟨_, rfl⟩
 rw [← hn5] at HE0 ⊢
 have HNn5 := Lib.hid hn5
 clear hn5
 have O1 := Lib.hid ((Own.new w 38 #[.int .u8 k, .int .u8 o, .int .i64 wd, .string nm, .slice a n5 c, .int .i64 ps]).alloc (.cells zEx 38))
 have O2 : Hid (Own ((w.alloc (.cells #[.int .u8 k, .int .u8 o, .int .i64 wd, .string nm, .slice a n5 c, .int .i64 ps] 38)).alloc (.cells zEx 38)) (w.heap.size + 1) 38 zEx) := by have := Own.new (w.alloc (.cells #[.int .u8 k, .int .u8 o, .int .i64 wd, .string nm, .slice a n5 c, .int .i64 ps] 38)) 38 zEx; rw [World.size_alloc] at this; exact this
 have HB : Hid (Below w.heap.size w ((w.alloc (.cells #[.int .u8 k, .int .u8 o, .int .i64 wd, .string nm, .slice a n5 c, .int .i64 ps] 38)).alloc (.cells zEx 38))) := ((Below.refl _ w).alloc (Nat.le_refl _) _).alloc (by rw [World.size_alloc]; omega) _
 unfold zEx at O2 HB O1
 go_enter Tryz.func127, Tryz.ntmps127
 go_wp2_with fail
 go_at_call 74
 refine (HCL.out _).mono ?_
 rintro e w3 ⟨rfl, hb3⟩
 replace O1 := Lib.hid (O1.out.below hb3)
 replace O2 := Lib.hid (O2.out.below hb3)
 replace HB := Lib.hid (HB.out.trans (hb3.mono HB.out.size))
 clear hb3
 have x3 : w3.cell? ⟨w.heap.size, 3, none⟩ = some (.string nm) := by rw [cell_of_row _ _ 3 _ _ _ O1.out]; rfl
 have u3 : w3.cell? ⟨w.heap.size, 3, none⟩ = some (.string nm) := by rw [cell_of_row _ _ 3 _ _ _ O1.out]; rfl
 have z3 : w3.frozen? ⟨w.heap.size, 3, none⟩ = false := own_frozen O1.out 3
 obtain ⟨w4, hw4⟩ : ∃ W', W' = w3.setRow w.heap.size #[.int .u8 k, .int .u8 o, .int .i64 wd, .string nm, .slice a n5 c, .int .i64 ps] := ⟨_, rfl⟩
 have ew4 : w3.setCell ⟨w.heap.size, 3, none⟩ (.string nm) = w4 := by rw [hw4, setCell_row O1.out 3 _]; rfl
 have lw4 := O1.out.lt
 have P1 := Lib.hid (O1.out.row #[.int .u8 k, .int .u8 o, .int .i64 wd, .string nm, .slice a n5 c, .int .i64 ps])
 have P2 := Lib.hid (O2.out.other (g := w.heap.size) #[.int .u8 k, .int .u8 o, .int .i64 wd, .string nm, .slice a n5 c, .int .i64 ps] (by omega))
 have HB2 := Lib.hid (Below.of_row HB.out (Nat.le_refl _) #[.int .u8 k, .int .u8 o, .int .i64 wd, .string nm, .slice a n5 c, .int .i64 ps])
 have HSZ : Hid (w4.heap.size = w3.heap.size) := by rw [Hid, hw4, size_setRow]
 rw [← hw4] at P1 P2 HB2
 clear O1 O2 HB hw4 lw4
 have y4 : w4.cell? ⟨w.heap.size, 4, none⟩ = some (.slice a n5 c) := by rw [cell_of_row _ _ 4 _ _ _ P1.out]; rfl
 go_wp2_with fail
 go_at_call 126
 refine (HE0.out _ HB2.out).mono ?_
 rintro e w5 ⟨a', c', rfl, hx0, hb3⟩
 have HGT : Hid (w.heap.size + 1 < w4.heap.size) := P2.out.lt
 have O1 := Lib.hid (P1.out.below hb3)
 have O2 := Lib.hid (P2.out.below hb3)
 have HB := Lib.hid (HB2.out.trans (hb3.mono HB2.out.size))
 have HX0 := Lib.hid (exsAt_mono hx0 (fun b hb => show w.heap.size + 1 < b by have := HGT.out; have h := hb; omega))
 clear hb3 hx0 P1 P2 HB2 HSZ
 have u4 : w5.cell? ⟨w.heap.size, 4, none⟩ = some (.slice a n5 c) := by rw [cell_of_row _ _ 4 _ _ _ O1.out]; rfl
 have z4 : w5.frozen? ⟨w.heap.size, 4, none⟩ = false := own_frozen O1.out 4
 obtain ⟨w6, hw6⟩ : ∃ W', W' = w5.setRow w.heap.size #[.int .u8 k, .int .u8 o, .int .i64 wd, .string nm, .slice a' n5 c', .int .i64 ps] := ⟨_, rfl⟩
 have ew6 : w5.setCell ⟨w.heap.size, 4, none⟩ (.slice a' n5 c') = w6 := by rw [hw6, setCell_row O1.out 4 _]; rfl
 have lw6 := O1.out.lt
 have P1 := Lib.hid (O1.out.row #[.int .u8 k, .int .u8 o, .int .i64 wd, .string nm, .slice a' n5 c', .int .i64 ps])
 have P2 := Lib.hid (O2.out.other (g := w.heap.size) #[.int .u8 k, .int .u8 o, .int .i64 wd, .string nm, .slice a' n5 c', .int .i64 ps] (by omega))
 have HB2 := Lib.hid (Below.of_row HB.out (Nat.le_refl _) #[.int .u8 k, .int .u8 o, .int .i64 wd, .string nm, .slice a' n5 c', .int .i64 ps])
 have HSZ : Hid (w6.heap.size = w5.heap.size) := by rw [Hid, hw6, size_setRow]
 replace HX0 := Lib.hid (exsAt_stays (stays_row (g := w.heap.size) w5 #[.int .u8 k, .int .u8 o, .int .i64 wd, .string nm, .slice a' n5 c', .int .i64 ps] (fun b hb => by have h : w.heap.size + 1 < b := hb; omega)) (fun b hb => hb) HX0.out)
 rw [← hw6] at P1 P2 HB2 HX0
 clear O1 O2 HB hw6 lw6
 have P2q := P2.out
 have P1q := P1.out
 go_wp2_with (first | (refine ld rowEx rfl rfl rfl P1q rfl ?_) | (refine st rowEx rfl rfl P2q rfl rfl (by rfl) (by rfl) (by kernel_rfl) ?_))
 refine p_ret rowEx rfl (P2q.row #[.int .u8 k, .int .u8 o, .int .i64 wd, .string nm, .slice a' n5 c', .int .i64 ps]) rfl rfl rfl ?_
 have hlt := HB2.out.size
 refine ⟨a', c', by rw [HNn5.out]; rfl, ?_, Below.of_row HB2.out (Nat.le_succ _) #[.int .u8 k, .int .u8 o, .int .i64 wd, .string nm, .slice a' n5 c', .int .i64 ps]⟩
 · exact exsAt_stays (stays_row (g := w.heap.size + 1) w6 #[.int .u8 k, .int .u8 o, .int .i64 wd, .string nm, .slice a' n5 c', .int .i64 ps] (fun b hb => by have h : w.heap.size + 1 < b := hb; omega)) (fun b hb => by have h : w.heap.size + 1 < b := hb; omega) HX0.out
theorem cp_T (x : Th) (HL : CpDs x.locals) (HS : CpSs x.body) : CpT x := by
 intro hf a1 c1 a2 c2 w h1 h2
 obtain ⟨nm, lo, bo, ps⟩ := x
 obtain ⟨f1, ⟨f2, f3⟩, f4, f5⟩ := hf
 have HCL : Hid (∀ W, Calls Tryz.prog 74 #[.string nm] W fun e w' => e = .returned (.string nm) ∧ Below W.heap.size W w') := fun W => p_clone nm f1 W
 have HE0 : Hid (∀ W, Below w.heap.size w W → Calls Tryz.prog 32 #[.slice a1 lo.length c1, .func (.func 33) #[] #[]] W fun e w' => ∃ a' c', e = .returned (.slice a' lo.length c') ∧ dcsAt (fun b => W.heap.size ≤ b) w' lo a' ∧ Below W.heap.size W w') := fun W hW => HL f3 f2 a1 c1 W (dcsAt_below h1 hW)
 have HE1 : Hid (∀ W, Below w.heap.size w W → Calls Tryz.prog 75 #[.slice a2 bo.length c2, .func (.func 76) #[] #[]] W fun e w' => ∃ a' c', e = .returned (.slice a' bo.length c') ∧ stsAt (fun b => W.heap.size ≤ b) w' bo a' ∧ Below W.heap.size W w') := fun W hW => HS f5 f4 a2 c2 W (stsAt_below h2 hW)
 change Calls _ _ #[.agg #[.string nm, .slice a1 lo.length c1, .slice a2 bo.length c2, .int .i64 ps]] w _
 clear h1 h2 f1 f2 f3 f4 f5 HL HS
 obtain ⟨n5, hn5⟩ : ∃ n, n = lo.length := ⟨_, rfl⟩
 rw [← hn5] at HE0 ⊢
 have HNn5 := Lib.hid hn5
 clear hn5
 obtain ⟨n6, hn6⟩ : ∃ n, n = bo.length := ⟨_, rfl⟩
 rw [← hn6] at HE1 ⊢
 have HNn6 := Lib.hid hn6
 clear hn6
 have O1 := Lib.hid ((Own.new w 64 #[.string nm, .slice a1 n5 c1, .slice a2 n6 c2, .int .i64 ps]).alloc (.cells zTh 64))
 have O2 : Hid (Own ((w.alloc (.cells #[.string nm, .slice a1 n5 c1, .slice a2 n6 c2, .int .i64 ps] 64)).alloc (.cells zTh 64)) (w.heap.size + 1) 64 zTh) := by have := Own.new (w.alloc (.cells #[.string nm, .slice a1 n5 c1, .slice a2 n6 c2, .int .i64 ps] 64)) 64 zTh; rw [World.size_alloc] at this; exact this
 have HB : Hid (Below w.heap.size w ((w.alloc (.cells #[.string nm, .slice a1 n5 c1, .slice a2 n6 c2, .int .i64 ps] 64)).alloc (.cells zTh 64))) := ((Below.refl _ w).alloc (Nat.le_refl _) _).alloc (by rw [World.size_alloc]; omega) _
 unfold zTh at O2 HB O1
 go_enter Tryz.func35, Tryz.ntmps35
 go_wp2_with fail
 go_at_call 74
 refine (HCL.out _).mono ?_
 rintro e w3 ⟨rfl, hb3⟩
 replace O1 := Lib.hid (O1.out.below hb3)
 replace O2 := Lib.hid (O2.out.below hb3)
 replace HB := Lib.hid (HB.out.trans (hb3.mono HB.out.size))
 clear hb3
 have x0 : w3.cell? ⟨w.heap.size, 0, none⟩ = some (.string nm) := by rw [cell_of_row _ _ 0 _ _ _ O1.out]; rfl
 have u0 : w3.cell? ⟨w.heap.size, 0, none⟩ = some (.string nm) := by rw [cell_of_row _ _ 0 _ _ _ O1.out]; rfl
 have z0 : w3.frozen? ⟨w.heap.size, 0, none⟩ = false := own_frozen O1.out 0
 obtain ⟨w4, hw4⟩ : ∃ W', W' = w3.setRow w.heap.size #[.string nm, .slice a1 n5 c1, .slice a2 n6 c2, .int .i64 ps] := ⟨_, rfl⟩
 have ew4 : w3.setCell ⟨w.heap.size, 0, none⟩ (.string nm) = w4 := by rw [hw4, setCell_row O1.out 0 _]; rfl
 have lw4 := O1.out.lt
 have P1 := Lib.hid (O1.out.row #[.string nm, .slice a1 n5 c1, .slice a2 n6 c2, .int .i64 ps])
 have P2 := Lib.hid (O2.out.other (g := w.heap.size) #[.string nm, .slice a1 n5 c1, .slice a2 n6 c2, .int .i64 ps] (by omega))
 have HB2 := Lib.hid (Below.of_row HB.out (Nat.le_refl _) #[.string nm, .slice a1 n5 c1, .slice a2 n6 c2, .int .i64 ps])
 have HSZ : Hid (w4.heap.size = w3.heap.size) := by rw [Hid, hw4, size_setRow]
 rw [← hw4] at P1 P2 HB2
 clear O1 O2 HB hw4 lw4
 have y1 : w4.cell? ⟨w.heap.size, 1, none⟩ = some (.slice a1 n5 c1) := by rw [cell_of_row _ _ 1 _ _ _ P1.out]; rfl
 go_wp2_with fail
 go_at_call 32
 refine (HE0.out _ HB2.out).mono ?_
 rintro e w5 ⟨a1', c1', rfl, hx0, hb3⟩
 have HGT : Hid (w.heap.size + 1 < w4.heap.size) := P2.out.lt
 have O1 := Lib.hid (P1.out.below hb3)
 have O2 := Lib.hid (P2.out.below hb3)
 have HB := Lib.hid (HB2.out.trans (hb3.mono HB2.out.size))
 have HX0 := Lib.hid (dcsAt_mono' hx0 (fun b hb => show w.heap.size + 1 < b by have := HGT.out; have h := hb; omega))
 clear hb3 hx0 P1 P2 HB2 HSZ
 have u1 : w5.cell? ⟨w.heap.size, 1, none⟩ = some (.slice a1 n5 c1) := by rw [cell_of_row _ _ 1 _ _ _ O1.out]; rfl
 have z1 : w5.frozen? ⟨w.heap.size, 1, none⟩ = false := own_frozen O1.out 1
 obtain ⟨w6, hw6⟩ : ∃ W', W' = w5.setRow w.heap.size #[.string nm, .slice a1' n5 c1', .slice a2 n6 c2, .int .i64 ps] := ⟨_, rfl⟩
 have ew6 : w5.setCell ⟨w.heap.size, 1, none⟩ (.slice a1' n5 c1') = w6 := by rw [hw6, setCell_row O1.out 1 _]; rfl
 have lw6 := O1.out.lt
 have P1 := Lib.hid (O1.out.row #[.string nm, .slice a1' n5 c1', .slice a2 n6 c2, .int .i64 ps])
 have P2 := Lib.hid (O2.out.other (g := w.heap.size) #[.string nm, .slice a1' n5 c1', .slice a2 n6 c2, .int .i64 ps] (by omega))
 have HB2 := Lib.hid (Below.of_row HB.out (Nat.le_refl _) #[.string nm, .slice a1' n5 c1', .slice a2 n6 c2, .int .i64 ps])
 have HSZ : Hid (w6.heap.size = w5.heap.size) := by rw [Hid, hw6, size_setRow]
 replace HX0 := Lib.hid (dcsAt_stays (stays_row (g := w.heap.size) w5 #[.string nm, .slice a1' n5 c1', .slice a2 n6 c2, .int .i64 ps] (fun b hb => by have h : w.heap.size + 1 < b := hb; omega)) (fun b hb => hb) HX0.out)
 rw [← hw6] at P1 P2 HB2 HX0
 clear O1 O2 HB hw6 lw6
 have y2 : w6.cell? ⟨w.heap.size, 2, none⟩ = some (.slice a2 n6 c2) := by rw [cell_of_row _ _ 2 _ _ _ P1.out]; rfl
 go_wp2_with fail
 go_at_call 75
 refine (HE1.out _ HB2.out).mono ?_
 rintro e w7 ⟨a2', c2', rfl, hx1, hb3⟩
 replace HGT : Hid (w.heap.size + 1 < w6.heap.size) := P2.out.lt
 have O1 := Lib.hid (P1.out.below hb3)
 have O2 := Lib.hid (P2.out.below hb3)
 have HB := Lib.hid (HB2.out.trans (hb3.mono HB2.out.size))
 replace HX0 := Lib.hid (dcsAt_mono' (dcsAt_stays (stays_below hb3) (fun b hb => hb) HX0.out) (fun b hb => hb))
 have HX1 := Lib.hid (stsAt_mono' hx1 (fun b hb => show w.heap.size + 1 < b by have := HGT.out; have h := hb; omega))
 clear hb3 hx1 P1 P2 HB2 HSZ
 have u2 : w7.cell? ⟨w.heap.size, 2, none⟩ = some (.slice a2 n6 c2) := by rw [cell_of_row _ _ 2 _ _ _ O1.out]; rfl
 have z2 : w7.frozen? ⟨w.heap.size, 2, none⟩ = false := own_frozen O1.out 2
 obtain ⟨w8, hw8⟩ : ∃ W', W' = w7.setRow w.heap.size #[.string nm, .slice a1' n5 c1', .slice a2' n6 c2', .int .i64 ps] := ⟨_, rfl⟩
 have ew8 : w7.setCell ⟨w.heap.size, 2, none⟩ (.slice a2' n6 c2') = w8 := by rw [hw8, setCell_row O1.out 2 _]; rfl
 have lw8 := O1.out.lt
 have P1 := Lib.hid (O1.out.row #[.string nm, .slice a1' n5 c1', .slice a2' n6 c2', .int .i64 ps])
 have P2 := Lib.hid (O2.out.other (g := w.heap.size) #[.string nm, .slice a1' n5 c1', .slice a2' n6 c2', .int .i64 ps] (by omega))
 have HB2 := Lib.hid (Below.of_row HB.out (Nat.le_refl _) #[.string nm, .slice a1' n5 c1', .slice a2' n6 c2', .int .i64 ps])
 have HSZ : Hid (w8.heap.size = w7.heap.size) := by rw [Hid, hw8, size_setRow]
 replace HX0 := Lib.hid (dcsAt_stays (stays_row (g := w.heap.size) w7 #[.string nm, .slice a1' n5 c1', .slice a2' n6 c2', .int .i64 ps] (fun b hb => by have h : w.heap.size + 1 < b := hb; omega)) (fun b hb => hb) HX0.out)
 replace HX1 := Lib.hid (stsAt_stays (stays_row (g := w.heap.size) w7 #[.string nm, .slice a1' n5 c1', .slice a2' n6 c2', .int .i64 ps] (fun b hb => by have h : w.heap.size + 1 < b := hb; omega)) (fun b hb => hb) HX1.out)
 rw [← hw8] at P1 P2 HB2 HX0 HX1
 clear O1 O2 HB hw8 lw8
 have P2q := P2.out
 have P1q := P1.out
 go_wp2_with (first | (refine ld rowTh rfl rfl rfl P1q rfl ?_) | (refine st rowTh rfl rfl P2q rfl rfl (by rfl) (by rfl) (by kernel_rfl) ?_))
 refine p_ret rowTh rfl (P2q.row #[.string nm, .slice a1' n5 c1', .slice a2' n6 c2', .int .i64 ps]) rfl rfl rfl ?_
 have hlt := HB2.out.size
 refine ⟨a1', c1', a2', c2', by rw [HNn5.out, HNn6.out]; rfl, ?_, ?_, Below.of_row HB2.out (Nat.le_succ _) #[.string nm, .slice a1' n5 c1', .slice a2' n6 c2', .int .i64 ps]⟩
 · exact dcsAt_stays (stays_row (g := w.heap.size + 1) w8 #[.string nm, .slice a1' n5 c1', .slice a2' n6 c2', .int .i64 ps] (fun b hb => by have h : w.heap.size + 1 < b := hb; omega)) (fun b hb => by have h : w.heap.size + 1 < b := hb; omega) HX0.out
 · exact stsAt_stays (stays_row (g := w.heap.size + 1) w8 #[.string nm, .slice a1' n5 c1', .slice a2' n6 c2', .int .i64 ps] (fun b hb => by have h : w.heap.size + 1 < b := hb; omega)) (fun b hb => by have h : w.heap.size + 1 < b := hb; omega) HX1.out
end Go.Proofs.YtikaflpiephaiaaGreatDoor

/- The proof, part 42: texts that belong together, in one. -/
import Derived.Test.YtfogkobgjojpiaaGreatDoorQBN
import Derived.Test.YtfogkobgjojpiaaGreatDoorQBO
import Derived.Deep.RegionWith
import Derived.Deep.QuietTactic
import Derived.BigQuiet
import Derived.Deep.Draws
import Derived.StillTailTactics
import Derived.Deep.LoopGhost
import Derived.Test.YtfogkobgjojpiaaGreatDoorQBA
set_option maxRecDepth 100000
set_option maxHeartbeats 20000000
namespace Go.Proofs.YtfogkobgjojpiaaGreatDoor
open Go.RowKit
set_option linter.unusedVariables false
theorem Own.set3 {W : World} {b : Nat} {T : TypeId} {x0 x1 x2 : Value} (h : Own W b T #[x0, x1, x2]) (u0 u1 u2 : Value) :
 Own (((W.setCell ⟨b, 0, none⟩ u0).setCell ⟨b, 1, none⟩ u1).setCell ⟨b, 2, none⟩ u2) b T #[u0, u1, u2] :=
 heap_setCell_same _ b 2 _ _ u2 (heap_setCell_same _ b 1 _ _ u1 (heap_setCell_same W b 0 _ _ u0 h))
theorem row3 {w : World} {g : Nat} {T : TypeId} {a b c : Value} (h : Own w g T #[a, b, c]) :
 (w.cell? ⟨g, 0, none⟩ = some a ∧ w.cell? ⟨g, 1, none⟩ = some b ∧ w.cell? ⟨g, 2, none⟩ = some c) ∧ (w.frozen? ⟨g, 0, none⟩ = false ∧ w.frozen? ⟨g, 1, none⟩ = false ∧ w.frozen? ⟨g, 2, none⟩ = false) :=
 ⟨⟨cell_of_row w g 0 _ _ _ h, cell_of_row w g 1 _ _ _ h, cell_of_row w g 2 _ _ _ h⟩, frozen_of_row w g 0 _ _ h, frozen_of_row w g 1 _ _ h, frozen_of_row w g 2 _ _ h⟩
theorem below_set5 {B : Nat} {a W : World} (h : Below B a W) {g g' : Nat} (hg : B ≤ g) (hg' : B ≤ g') (u0 u1 u2 v0 v1 : Value) :
 Below B a (((((W.setCell ⟨g, 0, none⟩ u0).setCell ⟨g, 1, none⟩ u1).setCell ⟨g, 2, none⟩ u2).setCell ⟨g', 0, none⟩ v0).setCell ⟨g', 1, none⟩ v1) :=
 ((((h.setCell (p := ⟨g, 0, none⟩) hg _).setCell (p := ⟨g, 1, none⟩) hg _).setCell (p := ⟨g, 2, none⟩) hg _).setCell (p := ⟨g', 0, none⟩) hg' _).setCell (p := ⟨g', 1, none⟩) hg' _
theorem rq_bad {s : ByteArray} {w : World} {y p q : Int} (hy : (y != 0) = true) (HB : ∀ W, Calls Tryz.prog 27 #[.string s] W fun e w' => e = .returned (.tuple #[.pointer none, .int .i64 y, .agg #[.int .i64 p, .int .i64 q]]) ∧ Below W.heap.size W w') :
 Calls Tryz.prog 8 #[.string s] w (WhPost w zPg pgR (none, y, p, q)) := by
 have HB := Lib.hid HB
 have O1 := (Own.new w 25 #[.slice none 0 0, .slice none 0 0, .slice none 0 0]).alloc (.cells #[.int .i64 0, .int .i64 0] 28)
 have O2 := Own.new (w.alloc (.cells #[.slice none 0 0, .slice none 0 0, .slice none 0 0] 25)) 28 #[.int .i64 0, .int .i64 0]
 have B0 : Below w.heap.size w ((w.alloc (.cells #[.slice none 0 0, .slice none 0 0, .slice none 0 0] 25)).alloc (.cells #[.int .i64 0, .int .i64 0] 28)) := ((Below.refl _ w).alloc (Nat.le_refl _) _).alloc (by simp only [World.size_alloc]; omega) _
 have z0 : Hid (((w.alloc (.cells #[.slice none 0 0, .slice none 0 0, .slice none 0 0] 25)).alloc (.cells #[.int .i64 0, .int .i64 0] 28)).heap.size = w.heap.size + 2) := by simp only [Hid, World.size_alloc]
 rw [World.size_alloc] at O2
 go_enter Tryz.func8, Tryz.ntmps8
 go_wp2_with fail
 obtain ⟨W0, hW0⟩ : ∃ W, W = ((w.alloc (.cells #[.slice none 0 0, .slice none 0 0, .slice none 0 0] 25)).alloc (.cells #[.int .i64 0, .int .i64 0] 28)) := ⟨_, rfl⟩
 rw [← hW0] at O1 O2 B0 z0 ⊢
 clear hW0
 go_at_call 27
 refine (HB.out _).mono ?_
 rintro e w1 ⟨rfl, hb⟩
 have O1 := O1.below hb
 have O2 := O2.below hb
 have B1 := B0.trans (hb.mono (by have := z0.out; omega))
 have z1 : Hid (w.heap.size + 2 ≤ w1.heap.size) := by have := hb.size; have := z0.out; simp only [Hid]; omega
 have O7 := Own.new w1 28 #[.int .i64 0, .int .i64 0]
 have P7 := Lib.hid (O7.row #[.int .i64 p, .int .i64 q])
 have zz := z1.out
 have B2 := Lib.hid (Below.of_row (B1.alloc B1.size (.cells #[.int .i64 0, .int .i64 0] 28)) (g := w1.heap.size) B1.size #[.int .i64 p, .int .i64 q])
 have O1 := Lib.hid ((O1.alloc (.cells #[.int .i64 0, .int .i64 0] 28)).other (g := w1.heap.size) #[.int .i64 p, .int .i64 q] (by omega))
 have O2 := Lib.hid ((O2.alloc (.cells #[.int .i64 0, .int .i64 0] 28)).other (g := w1.heap.size) #[.int .i64 p, .int .i64 q] (by omega))
 have B7 := Lib.hid (Below.of_row ((Below.refl _ w1).alloc (Nat.le_refl _) (.cells #[.int .i64 0, .int .i64 0] 28)) (g := w1.heap.size) (Nat.le_refl _) #[.int .i64 p, .int .i64 q])
 clear hb B0 B1 zz
 go_upto_region 2 with (first | (refine st rowFl rfl rfl O7 rfl rfl (by rfl) (by rfl) (by kernel_rfl) ?_))
 obtain ⟨W2, hW2⟩ : ∃ W, W = ((w1.alloc (.cells #[.int .i64 0, .int .i64 0] 28)).setRow w1.heap.size #[.int .i64 p, .int .i64 q]) := ⟨_, rfl⟩
 rw [← hW2] at B2 O1 O2 P7 B7 ⊢
 clear hW2 O7
 obtain ⟨⟨c0, c1, c2⟩, d0, d1, d2⟩ := row3 O1.out
 obtain ⟨⟨f0, f1⟩, g0, g1⟩ := row2 O2.out
 obtain ⟨⟨h0, h1⟩, _, _⟩ := row2 P7.out
 have hz1 := z1.out
 have hne1 : ¬ w1.heap.size = w.heap.size := by omega
 have hne2 : ¬ w.heap.size = w1.heap.size := by omega
 go_wp2_with fail
 go_region
 go_wp2_with fail
 have hz := z1.out
 have p1 := (((O1.out.set3 (.slice none 0 0) (.slice none 0 0) (.slice none 0 0)).away (x := w.heap.size + 1) (by omega) 0 (.int .i64 p)).away (x := w.heap.size + 1) (by omega) 1 (.int .i64 q)).drewN 1
 have p2 := ((O2.out.away (x := w.heap.size) (by omega) 0 (.slice none 0 0)).away (x := w.heap.size) (by omega) 1 (.slice none 0 0) |>.away (x := w.heap.size) (by omega) 2 (.slice none 0 0) |>.set2 (.int .i64 p) (.int .i64 q)).drewN 1
 refine bodyPost_ret (res2 rfl rfl rfl rfl (lv_row rowPg p1 rfl) (lv_row rowFl p2 rfl)) rfl ⟨below_drewN (below_set5 B2.out (Nat.le_refl _) (by omega) _ _ _ _ _) 1, _, rfl, rfl⟩
theorem rq_fault {s : ByteArray} {w : World} {ts : List Tk} {L : Int} {Y : Pg × Sr} (HB : ∀ W, Calls Tryz.prog 27 #[.string s] W fun e w' => Below W.heap.size W w' ∧ ∃ c : Par, e = .returned (.tuple #[c.ptr, .int .i64 0, .agg #[.int .i64 0, .int .i64 0]]) ∧ W.heap.size ≤ c.X ∧ (c.L : Int) = L ∧ Rs c w' (fine ts))
 (HE : ∀ c W, (c.L : Int) = L → Rs c W (fine ts) → Calls Tryz.prog 28 #[c.ptr] W (RsPost c W Y (pgR W.heap.size))) (hY : Y.2.ok = false) :
 Calls Tryz.prog 8 #[.string s] w (WhPost w zPg pgR (none, 30, Y.2.pos, Y.2.rule)) := by
 have HB := Lib.hid HB
 have HE := Lib.hid HE
 have O1 := (Own.new w 25 #[.slice none 0 0, .slice none 0 0, .slice none 0 0]).alloc (.cells #[.int .i64 0, .int .i64 0] 28)
 have O2 := Own.new (w.alloc (.cells #[.slice none 0 0, .slice none 0 0, .slice none 0 0] 25)) 28 #[.int .i64 0, .int .i64 0]
 have B0 : Below w.heap.size w ((w.alloc (.cells #[.slice none 0 0, .slice none 0 0, .slice none 0 0] 25)).alloc (.cells #[.int .i64 0, .int .i64 0] 28)) := ((Below.refl _ w).alloc (Nat.le_refl _) _).alloc (by simp only [World.size_alloc]; omega) _
 have z0 : Hid (((w.alloc (.cells #[.slice none 0 0, .slice none 0 0, .slice none 0 0] 25)).alloc (.cells #[.int .i64 0, .int .i64 0] 28)).heap.size = w.heap.size + 2) := by simp only [Hid, World.size_alloc]
 rw [World.size_alloc] at O2
 go_enter Tryz.func8, Tryz.ntmps8
 go_wp2_with fail
 obtain ⟨W0, hW0⟩ : ∃ W, W = ((w.alloc (.cells #[.slice none 0 0, .slice none 0 0, .slice none 0 0] 25)).alloc (.cells #[.int .i64 0, .int .i64 0] 28)) := ⟨_, rfl⟩
 rw [← hW0] at O1 O2 B0 z0 ⊢
 clear hW0
 go_at_call 27
 refine (HB.out _).mono ?_
 rintro e w1 ⟨hb, c, rfl, hX, hL, hR⟩
 have O1 := O1.below hb
 have O2 := O2.below hb
 have B1 := B0.trans (hb.mono (by have := z0.out; omega))
 have z1 : Hid (w.heap.size + 2 ≤ w1.heap.size) := by have := hb.size; have := z0.out; simp only [Hid]; omega
 have O7 := Own.new w1 28 #[.int .i64 0, .int .i64 0]
 have P7 := Lib.hid (O7.row #[.int .i64 0, .int .i64 0])
 have zz := z1.out
 have B2 := Lib.hid (Below.of_row (B1.alloc B1.size (.cells #[.int .i64 0, .int .i64 0] 28)) (g := w1.heap.size) B1.size #[.int .i64 0, .int .i64 0])
 have O1 := Lib.hid ((O1.alloc (.cells #[.int .i64 0, .int .i64 0] 28)).other (g := w1.heap.size) #[.int .i64 0, .int .i64 0] (by omega))
 have O2 := Lib.hid ((O2.alloc (.cells #[.int .i64 0, .int .i64 0] 28)).other (g := w1.heap.size) #[.int .i64 0, .int .i64 0] (by omega))
 have B7 := Lib.hid (Below.of_row ((Below.refl _ w1).alloc (Nat.le_refl _) (.cells #[.int .i64 0, .int .i64 0] 28)) (g := w1.heap.size) (Nat.le_refl _) #[.int .i64 0, .int .i64 0])
 clear hb B0 B1 zz
 go_upto_region 2 with (first | (refine st rowFl rfl rfl O7 rfl rfl (by rfl) (by rfl) (by kernel_rfl) ?_))
 obtain ⟨W2, hW2⟩ : ∃ W, W = ((w1.alloc (.cells #[.int .i64 0, .int .i64 0] 28)).setRow w1.heap.size #[.int .i64 0, .int .i64 0]) := ⟨_, rfl⟩
 rw [← hW2] at B2 O1 O2 P7 B7 ⊢
 clear hW2 O7
 have HX : Hid (w.heap.size + 2 ≤ c.X ∧ c.X < w1.heap.size) := by have := z0.out; have := hR.lt; simp only [Hid]; omega
 have R2 : Hid (Rs c W2 (fine ts)) := by
  obtain ⟨k, R, h⟩ := hR
  exact ⟨k, R.below B7.out, h⟩
 have HL := Lib.hid hL
 clear hX hL hR
 unfold Par.ptr at *
 go_wp2_with fail
 go_at_call 28
 refine (HE.out c _ HL.out R2.out).mono ?_
 obtain ⟨p0, σ⟩ := Y
 rintro e w3 ⟨hf, v, rfl, hpg, hr⟩
 obtain ⟨a1, c1, a2, c2, a3, c3, rfl, hpg⟩ : ∃ a1 c1 a2 c2 a3 c3, v = .agg #[.slice a1 p0.shared.length c1, .slice a2 p0.locks.length c2, .slice a3 p0.threads.length c3] ∧ pgR W2.heap.size p0 v w3 := by
  obtain ⟨a1, c1, a2, c2, a3, c3, h0, h⟩ := hpg
  exact ⟨a1, c1, a2, c2, a3, c3, h0, ⟨a1, c1, a2, c2, a3, c3, h0, h⟩⟩
 have hx := HX.out
 have hz := z1.out
 have h7 := B7.out.size
 have hs3 := Keep.size hf
 have O1 := Lib.hid ((O1.out.fr hf (by omega)).alloc (.cells #[.slice a1 p0.shared.length c1, .slice a2 p0.locks.length c2, .slice a3 p0.threads.length c3] 25))
 have O2 := Lib.hid ((O2.out.fr hf (by omega)).alloc (.cells #[.slice a1 p0.shared.length c1, .slice a2 p0.locks.length c2, .slice a3 p0.threads.length c3] 25))
 have B2 := Lib.hid ((B2.out.trans (fr_below hf (by omega) (by omega))).alloc (by omega) (.cells #[.slice a1 p0.shared.length c1, .slice a2 p0.locks.length c2, .slice a3 p0.threads.length c3] 25))
 have N3 := Lib.hid (Own.new w3 25 #[.slice a1 p0.shared.length c1, .slice a2 p0.locks.length c2, .slice a3 p0.threads.length c3])
 have HV := Lib.hid (pgR_stays hpg (stays_alloc _ w3 (.cells #[.slice a1 p0.shared.length c1, .slice a2 p0.locks.length c2, .slice a3 p0.threads.length c3] 25)) (Nat.le_refl _))
 have HR : Hid (Rs c (w3.alloc (.cells #[.slice a1 p0.shared.length c1, .slice a2 p0.locks.length c2, .slice a3 p0.threads.length c3] 25)) σ) := by
  obtain ⟨k, R, h⟩ := hr
  exact ⟨k, R.below ((Below.refl _ w3).alloc (Nat.le_refl _) _), h⟩
 have HZ : Hid (W2.heap.size ≤ w3.heap.size ∧ w1.heap.size ≤ W2.heap.size) := ⟨hs3, by omega⟩
 clear hf hpg hr hx hz h7 hs3
 go_upto_region 5 with (fail)
 obtain ⟨W3, hW3⟩ : ∃ W, W = w3.alloc (.cells #[.slice a1 p0.shared.length c1, .slice a2 p0.locks.length c2, .slice a3 p0.threads.length c3] 25) := ⟨_, rfl⟩
 rw [← hW3] at O1 O2 B2 N3 HV HR ⊢
 clear hW3
 have HO : Hid (∀ W, Rs c W σ → Calls Tryz.prog 29 #[.pointer (some ⟨c.X, 0, none⟩)] W fun e w' => e = .returned (.bool false) ∧ w' = W) := fun W R => by have := r_ok_same R; rw [show σ.ok = false from hY] at this; exact this
 clear hY
 go_wp2_with fail
 go_at_call 29
 refine (HO.out _ HR.out).mono ?_
 rintro e w5 ⟨rfl, rfl⟩
 obtain ⟨k, R, hk⟩ := HR.out
 have AC := (Ak.start R).cells
 obtain ⟨⟨_, _, _, x3, x4⟩, _⟩ := AC
 have hX := R.lt
 obtain ⟨⟨c0, c1, c2⟩, d0, d1, d2⟩ := row3 O1.out
 obtain ⟨⟨f0, f1⟩, g0, g1⟩ := row2 O2.out
 have hxx := HX.out
 have hne1 : ¬ c.X = w.heap.size := by omega
 have hne2 : ¬ w.heap.size = c.X := by omega
 have hne3 : ¬ c.X = w.heap.size + 1 := by omega
 have hlx : w.heap.size < c.X := by omega
 clear R hk
 go_wp2_with fail
 go_region
 go_wp2_with fail
 have hz := z1.out
 have p1 := (((O1.out.set3 (.slice none 0 0) (.slice none 0 0) (.slice none 0 0)).away (x := w.heap.size + 1) (by omega) 0 (.int .i64 σ.pos)).away (x := w.heap.size + 1) (by omega) 1 (.int .i64 σ.rule)).drewN 1
 have p2 := ((O2.out.away (x := w.heap.size) (by omega) 0 (.slice none 0 0)).away (x := w.heap.size) (by omega) 1 (.slice none 0 0) |>.away (x := w.heap.size) (by omega) 2 (.slice none 0 0) |>.set2 (.int .i64 σ.pos) (.int .i64 σ.rule)).drewN 1
 refine bodyPost_ret (res2 rfl rfl rfl rfl (lv_row rowPg p1 rfl) (lv_row rowFl p2 rfl)) rfl ⟨below_drewN (below_set5 B2.out (Nat.le_refl _) (by omega) _ _ _ _ _) 1, _, rfl, rfl⟩
theorem rq_tree {s : ByteArray} {w : World} {ts : List Tk} {L : Int} {Y : Pg × Sr} (HB : ∀ W, Calls Tryz.prog 27 #[.string s] W fun e w' => Below W.heap.size W w' ∧ ∃ c : Par, e = .returned (.tuple #[c.ptr, .int .i64 0, .agg #[.int .i64 0, .int .i64 0]]) ∧ W.heap.size ≤ c.X ∧ (c.L : Int) = L ∧ Rs c w' (fine ts))
 (HE : ∀ c W, (c.L : Int) = L → Rs c W (fine ts) → Calls Tryz.prog 28 #[c.ptr] W (RsPost c W Y (pgR W.heap.size))) (hY : Y.2.ok = true) :
 Calls Tryz.prog 8 #[.string s] w (WhPost w zPg pgR (some Y.1, 0, 0, 0)) := by
 have HB := Lib.hid HB
 have HE := Lib.hid HE
 have O1 := (Own.new w 25 #[.slice none 0 0, .slice none 0 0, .slice none 0 0]).alloc (.cells #[.int .i64 0, .int .i64 0] 28)
 have O2 := Own.new (w.alloc (.cells #[.slice none 0 0, .slice none 0 0, .slice none 0 0] 25)) 28 #[.int .i64 0, .int .i64 0]
 have B0 : Below w.heap.size w ((w.alloc (.cells #[.slice none 0 0, .slice none 0 0, .slice none 0 0] 25)).alloc (.cells #[.int .i64 0, .int .i64 0] 28)) := ((Below.refl _ w).alloc (Nat.le_refl _) _).alloc (by simp only [World.size_alloc]; omega) _
 have z0 : Hid (((w.alloc (.cells #[.slice none 0 0, .slice none 0 0, .slice none 0 0] 25)).alloc (.cells #[.int .i64 0, .int .i64 0] 28)).heap.size = w.heap.size + 2) := by simp only [Hid, World.size_alloc]
 rw [World.size_alloc] at O2
 go_enter Tryz.func8, Tryz.ntmps8
 go_wp2_with fail
 obtain ⟨W0, hW0⟩ : ∃ W, W = ((w.alloc (.cells #[.slice none 0 0, .slice none 0 0, .slice none 0 0] 25)).alloc (.cells #[.int .i64 0, .int .i64 0] 28)) := ⟨_, rfl⟩
 rw [← hW0] at O1 O2 B0 z0 ⊢
 clear hW0
 go_at_call 27
 refine (HB.out _).mono ?_
 rintro e w1 ⟨hb, c, rfl, hX, hL, hR⟩
 have O1 := O1.below hb
 have O2 := O2.below hb
 have B1 := B0.trans (hb.mono (by have := z0.out; omega))
 have z1 : Hid (w.heap.size + 2 ≤ w1.heap.size) := by have := hb.size; have := z0.out; simp only [Hid]; omega
 have O7 := Own.new w1 28 #[.int .i64 0, .int .i64 0]
 have P7 := Lib.hid (O7.row #[.int .i64 0, .int .i64 0])
 have zz := z1.out
 have B2 := Lib.hid (Below.of_row (B1.alloc B1.size (.cells #[.int .i64 0, .int .i64 0] 28)) (g := w1.heap.size) B1.size #[.int .i64 0, .int .i64 0])
 have O1 := Lib.hid ((O1.alloc (.cells #[.int .i64 0, .int .i64 0] 28)).other (g := w1.heap.size) #[.int .i64 0, .int .i64 0] (by omega))
 have O2 := Lib.hid ((O2.alloc (.cells #[.int .i64 0, .int .i64 0] 28)).other (g := w1.heap.size) #[.int .i64 0, .int .i64 0] (by omega))
 have B7 := Lib.hid (Below.of_row ((Below.refl _ w1).alloc (Nat.le_refl _) (.cells #[.int .i64 0, .int .i64 0] 28)) (g := w1.heap.size) (Nat.le_refl _) #[.int .i64 0, .int .i64 0])
 clear hb B0 B1 zz
 go_upto_region 2 with (first | (refine st rowFl rfl rfl O7 rfl rfl (by rfl) (by rfl) (by kernel_rfl) ?_))
 obtain ⟨W2, hW2⟩ : ∃ W, W = ((w1.alloc (.cells #[.int .i64 0, .int .i64 0] 28)).setRow w1.heap.size #[.int .i64 0, .int .i64 0]) := ⟨_, rfl⟩
 rw [← hW2] at B2 O1 O2 P7 B7 ⊢
 clear hW2 O7
 have HX : Hid (w.heap.size + 2 ≤ c.X ∧ c.X < w1.heap.size) := by have := z0.out; have := hR.lt; simp only [Hid]; omega
 have R2 : Hid (Rs c W2 (fine ts)) := by
  obtain ⟨k, R, h⟩ := hR
  exact ⟨k, R.below B7.out, h⟩
 have HL := Lib.hid hL
 clear hX hL hR
 unfold Par.ptr at *
 go_wp2_with fail
 go_at_call 28
 refine (HE.out c _ HL.out R2.out).mono ?_
 obtain ⟨p0, σ⟩ := Y
 rintro e w3 ⟨hf, v, rfl, hpg, hr⟩
 obtain ⟨a1, c1, a2, c2, a3, c3, rfl, hpg⟩ : ∃ a1 c1 a2 c2 a3 c3, v = .agg #[.slice a1 p0.shared.length c1, .slice a2 p0.locks.length c2, .slice a3 p0.threads.length c3] ∧ pgR W2.heap.size p0 v w3 := by
  obtain ⟨a1, c1, a2, c2, a3, c3, h0, h⟩ := hpg
  exact ⟨a1, c1, a2, c2, a3, c3, h0, ⟨a1, c1, a2, c2, a3, c3, h0, h⟩⟩
 have hx := HX.out
 have hz := z1.out
 have h7 := B7.out.size
 have hs3 := Keep.size hf
 have O1 := Lib.hid ((O1.out.fr hf (by omega)).alloc (.cells #[.slice a1 p0.shared.length c1, .slice a2 p0.locks.length c2, .slice a3 p0.threads.length c3] 25))
 have O2 := Lib.hid ((O2.out.fr hf (by omega)).alloc (.cells #[.slice a1 p0.shared.length c1, .slice a2 p0.locks.length c2, .slice a3 p0.threads.length c3] 25))
 have B2 := Lib.hid ((B2.out.trans (fr_below hf (by omega) (by omega))).alloc (by omega) (.cells #[.slice a1 p0.shared.length c1, .slice a2 p0.locks.length c2, .slice a3 p0.threads.length c3] 25))
 have N3 := Lib.hid (Own.new w3 25 #[.slice a1 p0.shared.length c1, .slice a2 p0.locks.length c2, .slice a3 p0.threads.length c3])
 have HV := Lib.hid (pgR_stays hpg (stays_alloc _ w3 (.cells #[.slice a1 p0.shared.length c1, .slice a2 p0.locks.length c2, .slice a3 p0.threads.length c3] 25)) (Nat.le_refl _))
 have HR : Hid (Rs c (w3.alloc (.cells #[.slice a1 p0.shared.length c1, .slice a2 p0.locks.length c2, .slice a3 p0.threads.length c3] 25)) σ) := by
  obtain ⟨k, R, h⟩ := hr
  exact ⟨k, R.below ((Below.refl _ w3).alloc (Nat.le_refl _) _), h⟩
 have HZ : Hid (W2.heap.size ≤ w3.heap.size ∧ w1.heap.size ≤ W2.heap.size) := ⟨hs3, by omega⟩
 clear hf hpg hr hx hz h7 hs3
 go_upto_region 5 with (fail)
 obtain ⟨W3, hW3⟩ : ∃ W, W = w3.alloc (.cells #[.slice a1 p0.shared.length c1, .slice a2 p0.locks.length c2, .slice a3 p0.threads.length c3] 25) := ⟨_, rfl⟩
 rw [← hW3] at O1 O2 B2 N3 HV HR ⊢
 clear hW3
 have HO : Hid (∀ W, Rs c W σ → Calls Tryz.prog 29 #[.pointer (some ⟨c.X, 0, none⟩)] W fun e w' => e = .returned (.bool true) ∧ w' = W) := fun W R => by have := r_ok_same R; rw [show σ.ok = true from hY] at this; exact this
 clear hY
 go_wp2_with fail
 go_at_call 29
 refine (HO.out _ HR.out).mono ?_
 rintro e w5 ⟨rfl, rfl⟩
 have o1 := O1.out
 have n3 := N3.out
 have hz := z1.out
 have hzz := HZ.out
 have o2 := O2.out.other (g := w.heap.size) #[.slice a1 p0.shared.length c1, .slice a2 p0.locks.length c2, .slice a3 p0.threads.length c3] (by omega)
 have p1 := Lib.hid ((o1.row #[.slice a1 p0.shared.length c1, .slice a2 p0.locks.length c2, .slice a3 p0.threads.length c3]).other (g := w.heap.size + 1) #[.int .i64 0, .int .i64 0] (by omega))
 have p2 := Lib.hid (o2.row #[.int .i64 0, .int .i64 0])
 have B3 := Lib.hid (Below.of_row (Below.of_row B2.out (g := w.heap.size) (Nat.le_refl _) #[.slice a1 p0.shared.length c1, .slice a2 p0.locks.length c2, .slice a3 p0.threads.length c3]) (g := w.heap.size + 1) (by omega) #[.int .i64 0, .int .i64 0])
 have V2 : Hid (pgR w.heap.size p0 (.agg #[.slice a1 p0.shared.length c1, .slice a2 p0.locks.length c2, .slice a3 p0.threads.length c3]) ((w5.setRow w.heap.size #[.slice a1 p0.shared.length c1, .slice a2 p0.locks.length c2, .slice a3 p0.threads.length c3]).setRow (w.heap.size + 1) #[.int .i64 0, .int .i64 0])) :=
  pgR_stays HV.out ((stays_row w5 (g := w.heap.size) #[.slice a1 p0.shared.length c1, .slice a2 p0.locks.length c2, .slice a3 p0.threads.length c3] (fun b hb => by omega)).trans (stays_row _ (g := w.heap.size + 1) #[.int .i64 0, .int .i64 0] (fun b hb => by omega))) (by omega)
 clear hz hzz
 go_wp2_with (first | (refine ld rowPg rfl rfl rfl n3 rfl ?_) | (refine st rowPg rfl rfl o1 rfl rfl (by rfl) (by rfl) (by kernel_rfl) ?_) | (refine st rowFl rfl rfl o2 rfl rfl (by rfl) (by rfl) (by kernel_rfl) ?_))
 refine bodyPost_ret (res2 rfl rfl rfl rfl (lv_row rowPg p1.out rfl) (lv_row rowFl p2.out rfl)) rfl ⟨B3.out, _, rfl, V2.out⟩
theorem bg_case {s : ByteArray} {P : Prop} (h1 : 65536 < s.size → P) (h2 : ¬ 65536 < s.size → ¬ (frontR s).2.2 = 0 → P) (h3 : ¬ 65536 < s.size → (frontR s).2.2 = 0 → P) : P := by
 by_cases a : 65536 < s.size
 · exact h1 a
 · by_cases b : (frontR s).2.2 = 0
   · exact h3 a b
   · exact h2 a b
theorem p_rParse (s : ByteArray) (w : World) : Calls Tryz.prog 8 #[.string s] w (WhPost w zPg pgR (said_P s)) := by
 refine bg_case (s := s) (fun hl => ?_) (fun hl hf => ?_) (fun hl hf => ?_)
 · have e : said_P s = (none, 4, 0, 0) := by unfold said_P wholeR; rw [if_pos hl]
   rw [e]
   exact rq_bad (by decide) fun W => (r_begun s W).mono fun e w' ⟨hb, h⟩ => ⟨by rw [if_pos hl] at h; exact h, hb⟩
 · have e : said_P s = (none, 30, (frontR s).2.1, 1) := by unfold said_P wholeR; rw [if_neg hl, if_pos hf]
   rw [e]
   exact rq_bad (by decide) fun W => (r_begun s W).mono fun e w' ⟨hb, h⟩ => ⟨by rw [if_neg hl, if_pos hf] at h; exact h, hb⟩
 · obtain ⟨ts, hts⟩ : ∃ ts, ts = (scanX s).1.map Res.tk := ⟨_, rfl⟩
   have K : AllKd ts := by rw [hts]; exact scanX_kd s
   have e : said_P s = endR (endP (progP fnd (s.size : Int) (fuel ts) ts)) := by unfold said_P wholeR; rw [if_neg hl, if_neg (by simpa using hf), hts]
   have has := prog_as (L := (s.size : Int)) (n := fuel ts) K (by unfold fuel; omega)
   have HB : ∀ W, Calls Tryz.prog 27 #[.string s] W fun e w' => Below W.heap.size W w' ∧ ∃ c : Par, e = .returned (.tuple #[c.ptr, .int .i64 0, .agg #[.int .i64 0, .int .i64 0]]) ∧ W.heap.size ≤ c.X ∧ (c.L : Int) = (s.size : Int) ∧ Rs c w' (fine ts) := fun W => by
    refine (r_begun s W).mono fun e w' ⟨hb, h⟩ => ⟨hb, ?_⟩
    rw [if_neg hl, if_neg (by simpa using hf)] at h
    obtain ⟨c, he, hX, ht, hL, hR⟩ := h
    refine ⟨c, he, hX, by rw [hL], 0, hR, ?_⟩
    show ts = (c.toks.drop 0).map Res.tk
    rw [hts, ht, List.drop_zero]
   have HE : ∀ (c : Par) W, (c.L : Int) = (s.size : Int) → Rs c W (fine ts) → Calls Tryz.prog 28 #[c.ptr] W (RsPost c W (declsM (s.size : Int) (fuel ts) (fuel ts) ⟨[], [], []⟩ (fine ts)) (pgR W.heap.size)) := fun c W hL R => by
    have := r_program (n := fuel ts) (M := fuel ts) R (fun _ => by show ts.length < fuel ts ∧ 3 * ts.length + 2 ≤ fuel ts; unfold fuel; omega)
    rw [hL] at this
    exact this
   rw [e]
   cases hx : endP (progP fnd (s.size : Int) (fuel ts) ts) with
   | bad p q =>
     rw [hx] at has
     have has : (declsM (s.size : Int) (fuel ts) (fuel ts) ⟨[], [], []⟩ (fine ts)).2.At p q := has
     have := rq_fault (w := w) HB HE has.bad
     rw [has.1, has.2.1] at this
     exact this
   | ok a r =>
     rw [hx] at has
     have has : declsM (s.size : Int) (fuel ts) (fuel ts) ⟨[], [], []⟩ (fine ts) = (a, fine r) := has
     have := rq_tree (w := w) HB HE (by rw [has]; rfl)
     rw [has] at this
     exact this
open Go.RowKit
set_option linter.unusedVariables false
theorem r_decls {l : List Dc} {a b : Option Addr} {c1 c2 : Nat} {w : World} (hl : l.length ≤ 9223372036854775807) (h1 : dcsAt (fun _ => True) w l a) (h2 : dcsAt (fun _ => True) w l b) :
 Calls Tryz.prog 42 #[.slice a l.length c1, .slice b l.length c2] w fun e w' => e = .returned (.bool true) ∧ ∃ j, w' = w.drewN j := by
 have E1 := Lib.hid h1
 have E2 := Lib.hid h2
 obtain ⟨n, hn⟩ : ∃ n, n = l.length := ⟨_, rfl⟩
 rw [← hn] at hl ⊢
 have HN := Lib.hid hn
 have hnn : ((n : Int) != (n : Int)) = false := by simp
 clear h1 h2 hn
 go_enter Tryz.func42, Tryz.ntmps42
 go_wp2_with fail
 go_loopg [13] (n + 1) (fun m' u W => ∃ i : Nat, u = .int .i64 (i : Int) ∧ i ≤ n ∧ m' = n - i + 1 ∧ ∃ j, W = w.drewN j)
 case atStart => exact ⟨0, rfl, Nat.zero_le _, by omega, 0, rfl⟩
 case round =>
  obtain ⟨i, rfl, hi, hm, j0, hW0⟩ := hrel
  have HM := Lib.hid hm
  have HW := Lib.hid hW0
  clear hm hW0
  by_cases hin : i < n
  · have il : i < l.length := by have := HN.out; omega
    have g1 : l[i]? = some l[i] := List.getElem?_eq_getElem il
    generalize l[i] = x at g1
    rcases E1.out with e | ⟨g, q, rfl, _, e1⟩
    · cases l with
      | nil => simp at il
      | cons => cases e
    rcases E2.out with e | ⟨g', q', rfl, _, e2⟩
    · cases l with
      | nil => simp at il
      | cons => cases e
    obtain ⟨a0, a1, a2⟩ := dcsIn_get i x e1 g1
    obtain ⟨b0, b1, b2⟩ := dcsIn_get i x e2 g1
    obtain ⟨nm, wd, ps⟩ := x
    have hin' : (i : Int) < (n : Int) := by omega
    have a0 : wr.cell? ⟨g, q + i * 3, none⟩ = some (.string nm) := by rw [HW.out]; exact a0
    have b0 : wr.cell? ⟨g', q' + i * 3, none⟩ = some (.string nm) := by rw [HW.out]; exact b0
    have a1 : wr.cell? ⟨g, q + i * 3 + 1, none⟩ = some (.int .i64 wd) := by rw [HW.out]; exact a1
    have b1 : wr.cell? ⟨g', q' + i * 3 + 1, none⟩ = some (.int .i64 wd) := by rw [HW.out]; exact b1
    have a2 : wr.cell? ⟨g, q + i * 3 + 2, none⟩ = some (.int .i64 ps) := by rw [HW.out]; exact a2
    have b2 : wr.cell? ⟨g', q' + i * 3 + 2, none⟩ = some (.int .i64 ps) := by rw [HW.out]; exact b2
    have q1 : (nm.toList != nm.toList) = false := by simp
    have q1' : (nm.toList == nm.toList) = true := by simp
    have q2 : (wd != wd) = false := by simp
    have q3 : (ps != ps) = false := by simp
    clear g1 e1 e2 il
    go_wp2_with fail
    go_quiet (fail)
    go_wp2_with fail
    go_roundg (n - (i + 1) + 1)
    case measure => have := HM.out; omega
    case rel => exact ⟨i + 1, rfl, by omega, by omega, _, by rw [HW.out, World.drewN_drewN]⟩
  · have : i = n := by omega
    subst this
    go_wp2_with fail
    go_ret
    exact ⟨rfl, _, HW.out⟩
theorem r_declared {l : List Dc} {a b : Option Addr} {c1 c2 : Nat} {w : World} (hl : l.length ≤ 9223372036854775807) (h1 : dcsAt (fun _ => True) w l a) (h2 : dcsAt (fun _ => True) w l b) :
 Calls Tryz.prog 30 #[.slice a l.length c1, .slice b l.length c2] w fun e w' => e = .returned (.bool true) ∧ ∃ j, w' = w.drewN j := by
 have E1 := Lib.hid h1
 have E2 := Lib.hid h2
 obtain ⟨n, hn⟩ : ∃ n, n = l.length := ⟨_, rfl⟩
 rw [← hn] at hl ⊢
 have HN := Lib.hid hn
 have hnn : ((n : Int) != (n : Int)) = false := by simp
 clear h1 h2 hn
 go_enter Tryz.func30, Tryz.ntmps30
 go_wp2_with fail
 go_loopg [13] (n + 1) (fun m' u W => ∃ i : Nat, u = .int .i64 (i : Int) ∧ i ≤ n ∧ m' = n - i + 1 ∧ ∃ j, W = w.drewN j)
 case atStart => exact ⟨0, rfl, Nat.zero_le _, by omega, 0, rfl⟩
 case round =>
  obtain ⟨i, rfl, hi, hm, j0, hW0⟩ := hrel
  have HM := Lib.hid hm
  have HW := Lib.hid hW0
  clear hm hW0
  by_cases hin : i < n
  · have il : i < l.length := by have := HN.out; omega
    have g1 : l[i]? = some l[i] := List.getElem?_eq_getElem il
    generalize l[i] = x at g1
    rcases E1.out with e | ⟨g, q, rfl, _, e1⟩
    · cases l with
      | nil => simp at il
      | cons => cases e
    rcases E2.out with e | ⟨g', q', rfl, _, e2⟩
    · cases l with
      | nil => simp at il
      | cons => cases e
    obtain ⟨a0, a1, a2⟩ := dcsIn_get i x e1 g1
    obtain ⟨b0, b1, b2⟩ := dcsIn_get i x e2 g1
    obtain ⟨nm, wd, ps⟩ := x
    have hin' : (i : Int) < (n : Int) := by omega
    have a0 : wr.cell? ⟨g, q + i * 3, none⟩ = some (.string nm) := by rw [HW.out]; exact a0
    have b0 : wr.cell? ⟨g', q' + i * 3, none⟩ = some (.string nm) := by rw [HW.out]; exact b0
    have a1 : wr.cell? ⟨g, q + i * 3 + 1, none⟩ = some (.int .i64 wd) := by rw [HW.out]; exact a1
    have b1 : wr.cell? ⟨g', q' + i * 3 + 1, none⟩ = some (.int .i64 wd) := by rw [HW.out]; exact b1
    have a2 : wr.cell? ⟨g, q + i * 3 + 2, none⟩ = some (.int .i64 ps) := by rw [HW.out]; exact a2
    have b2 : wr.cell? ⟨g', q' + i * 3 + 2, none⟩ = some (.int .i64 ps) := by rw [HW.out]; exact b2
    have q1 : (nm.toList != nm.toList) = false := by simp
    have q1' : (nm.toList == nm.toList) = true := by simp
    have q2 : (wd != wd) = false := by simp
    have q3 : (ps != ps) = false := by simp
    clear g1 e1 e2 il
    go_wp2_with fail
    go_quiet (fail)
    go_wp2_with fail
    go_roundg (n - (i + 1) + 1)
    case measure => have := HM.out; omega
    case rel => exact ⟨i + 1, rfl, by omega, by omega, _, by rw [HW.out, World.drewN_drewN]⟩
  · have : i = n := by omega
    subst this
    go_wp2_with fail
    go_ret
    exact ⟨rfl, _, HW.out⟩
open Go.RowKit
set_option linter.unusedVariables false
theorem stsAt_below {w w' : World} {l : List St} {a : Option Addr} (h : stsAt (fun _ => True) w l a) (hb : Below w.heap.size w w') : stsAt (fun _ => True) w' l a := by
 have h := stsAt_in h
 exact stsAt_stays (R := fun b => True ∧ b < w.heap.size) (fun b o v hb2 hv => by rw [← hv]; exact hb.cell (p := ⟨b, o, none⟩) hb2.2) (fun _ _ => trivial) h
theorem dcsAt_below {w w' : World} {l : List Dc} {a : Option Addr} (h : dcsAt (fun _ => True) w l a) (hb : Below w.heap.size w w') : dcsAt (fun _ => True) w' l a := by
 have h := dcsAt_in h
 exact dcsAt_stays (R := fun b => True ∧ b < w.heap.size) (fun b o v hb2 hv => by rw [← hv]; exact hb.cell (p := ⟨b, o, none⟩) hb2.2) (fun _ _ => trivial) h
theorem thsAt_in {R : Nat → Prop} {w : World} {l : List Th} {a : Option Addr} (h : thsAt R w l a) : thsAt (fun b => R b ∧ b < w.heap.size) w l a := by
 rcases h with h | ⟨g, q, rfl, hg, hi⟩
 · exact .inl h
 · cases l with
   | nil => exact .inl rfl
   | cons t r =>
     refine .inr ⟨g, q, rfl, ⟨hg, cell_lt hi.1.1⟩, ?_⟩
     have key : ∀ (l : List Th) (q : Nat), thsIn R w l g q → thsIn (fun b => R b ∧ b < w.heap.size) w l g q := by
      intro l
      induction l with
      | nil => intro q _; exact trivial
      | cons x s ih =>
        intro q h
        obtain ⟨⟨h1, ⟨a1, c1, h2, h3⟩, ⟨a2, c2, h4, h5⟩, h6⟩, h7⟩ := h
        exact ⟨⟨h1, ⟨a1, c1, h2, dcsAt_in h3⟩, ⟨a2, c2, h4, stsAt_in h5⟩, h6⟩, ih _ h7⟩
     exact key _ _ hi
theorem thsAt_below {w w' : World} {l : List Th} {a : Option Addr} (h : thsAt (fun _ => True) w l a) (hb : Below w.heap.size w w') : thsAt (fun _ => True) w' l a := by
 have h := thsAt_in h
 exact thsAt_stays (R := fun b => True ∧ b < w.heap.size) (fun b o v hb2 hv => by rw [← hv]; exact hb.cell (p := ⟨b, o, none⟩) hb2.2) (fun _ _ => trivial) h
open Go.RowKit
set_option linter.unusedVariables false
mutual
def okS : St → Prop
 | .mk _ _ _ e b l _ => (e.length ≤ 9223372036854775807 ∧ okEs e) ∧ (b.length ≤ 9223372036854775807 ∧ okSs b) ∧ l.length ≤ 9223372036854775807 ∧ okSs l
def okSs : List St → Prop
 | [] => True
 | x :: r => okS x ∧ okSs r
end
theorem okSs_mem : ∀ {l : List St}, okSs l → ∀ x ∈ l, okS x
 | [], _, x, hx => by simp at hx
 | y :: r, h, x, hx => by
   rcases List.mem_cons.1 hx with rfl | hx
   · exact h.1
   · exact okSs_mem h.2 x hx
def okT (t : Th) : Prop := t.locals.length ≤ 9223372036854775807 ∧ t.body.length ≤ 9223372036854775807 ∧ okSs t.body
def okP (p : Pg) : Prop := p.shared.length ≤ 9223372036854775807 ∧ p.locks.length ≤ 9223372036854775807 ∧ p.threads.length ≤ 9223372036854775807 ∧ ∀ t ∈ p.threads, okT t
def pA (w : World) (x : Pg) (v : Value) : Prop := ∃ a1 c1 a2 c2 a3 c3, v = .agg #[.slice a1 x.shared.length c1, .slice a2 x.locks.length c2, .slice a3 x.threads.length c3] ∧ dcsAt (fun _ => True) w x.shared a1 ∧ dcsAt (fun _ => True) w x.locks a2 ∧ thsAt (fun _ => True) w x.threads a3
theorem pA_of {n : Nat} {w : World} {x : Pg} {v : Value} (h : pgR n x v w) : pA w x v := by
 obtain ⟨a1, c1, a2, c2, a3, c3, h0, h1, h2, h3⟩ := h
 exact ⟨a1, c1, a2, c2, a3, c3, h0, dcsAt_mono h1 (fun _ _ => trivial), dcsAt_mono h2 (fun _ _ => trivial), thsAt_stays (Stays.refl _ w) (fun _ _ => trivial) h3⟩
theorem pA_below {w w' : World} {x : Pg} {v : Value} (h : pA w x v) (hb : Below w.heap.size w w') : pA w' x v := by
 obtain ⟨a1, c1, a2, c2, a3, c3, h0, h1, h2, h3⟩ := h
 exact ⟨a1, c1, a2, c2, a3, c3, h0, dcsAt_below h1 hb, dcsAt_below h2 hb, thsAt_below h3 hb⟩
end Go.Proofs.YtfogkobgjojpiaaGreatDoor

/- The proof, part 36: texts that belong together, in one. -/
import Derived.Test.YtfogkobgjojpiaaGreatDoorQBI
set_option maxRecDepth 100000
set_option maxHeartbeats 20000000
namespace Go.Proofs.YtfogkobgjojpiaaGreatDoor
open Go.RowKit
set_option linter.unusedVariables false
theorem Own.setJ {W : World} {b : Nat} {T : TypeId} {cs : Array Value} (h : Own W b T cs) (j : Nat) (v : Value) : Own (W.setCell ⟨b, j, none⟩ v) b T (cs.setIfInBounds j v) := heap_setCell_same W b j _ _ v h
theorem take_is {c : Par} {w : World} {σ : Sr} {s : ByteArray} (R : Rs c w σ) (h : σ.has c.L s.data.toList = true) : Calls Tryz.prog 69 #[c.ptr, .string s] w fun e w' => e = .returned (.bool true) ∧ Fr c w w' ∧ Rs c w' σ.step := by
 have e : σ.take c.L s.data.toList = σ.step := by unfold Sr.take; rw [if_pos h]
 have := r_take R s
 rw [h, e] at this
 exact this
theorem take_isnt {c : Par} {w : World} {σ : Sr} {s : ByteArray} (R : Rs c w σ) (h : σ.has c.L s.data.toList = false) : Calls Tryz.prog 69 #[c.ptr, .string s] w fun e w' => e = .returned (.bool false) ∧ Fr c w w' ∧ Rs c w' σ := by
 have e : σ.take c.L s.data.toList = σ := by unfold Sr.take; rw [if_neg (by rw [h]; decide)]
 have := r_take R s
 rw [h, e] at this
 exact this
theorem ra_swap {c : Par} {w : World} {σ : Sr} {p : Int} {X : Ex × Sr} (R : Rs c w σ) (hs : ((nameM c.L σ).2.want c.L [61]).has c.L [115, 119, 97, 112] = true) (HX : ∀ W, Rs c W (((nameM c.L (((nameM c.L σ).2.want c.L [61]).step.want c.L [40])).2).want c.L [44]) → Calls Tryz.prog 190 #[c.ptr, .int .i64 1, .int .i64 0] W (RsPost c W X (exR W.heap.size))) :
 Calls Tryz.prog 191 #[c.ptr, .agg #[.int .u8 0, .string ⟨#[]⟩, .string ⟨#[]⟩, .slice none 0 0, .slice none 0 0, .slice none 0 0, .int .i64 p]] w (RsPost c w (St.mk 2 (nameM c.L σ).1.name (nameM c.L (((nameM c.L σ).2.want c.L [61]).step.want c.L [40])).1.name [X.1] [] [] p, (X.2.want c.L [41]).want c.L [59]) (stW w.heap.size)) := by
 obtain ⟨Z1, hZ1⟩ : ∃ Z1, Z1 = nameM c.L σ := ⟨_, rfl⟩
 obtain ⟨σ2, hσ2⟩ : ∃ σ2, σ2 = Z1.2.want c.L [61] := ⟨_, rfl⟩
 have HN1 : Hid (∀ W, Rs c W σ → Calls Tryz.prog 120 #[c.ptr] W fun e w' => Fr c W w' ∧ e = .returned (.tuple #[.string Z1.1.name, .int .i64 Z1.1.pos]) ∧ Rs c w' Z1.2) := fun W R => by rw [hZ1]; exact r_name R
 have HW1 : Hid (∀ W, Rs c W Z1.2 → Calls Tryz.prog 123 #[c.ptr, .string ⟨#[61]⟩] W fun e w' => e = .returned (.tuple #[]) ∧ Fr c W w' ∧ Rs c w' σ2) := fun W R => by rw [hσ2]; exact r_want R ⟨#[61]⟩
 have HTK : Hid (∀ W, Rs c W σ2 → Calls Tryz.prog 69 #[c.ptr, .string ⟨#[115, 119, 97, 112]⟩] W fun e w' => e = .returned (.bool true) ∧ Fr c W w' ∧ Rs c w' σ2.step) := fun W R => take_is R (by rw [hσ2, hZ1]; exact hs)
 obtain ⟨σ4, hσ4⟩ : ∃ σ4, σ4 = σ2.step.want c.L [40] := ⟨_, rfl⟩
 have HW2 : Hid (∀ W, Rs c W σ2.step → Calls Tryz.prog 123 #[c.ptr, .string ⟨#[40]⟩] W fun e w' => e = .returned (.tuple #[]) ∧ Fr c W w' ∧ Rs c w' σ4) := fun W R => by rw [hσ4]; exact r_want R ⟨#[40]⟩
 obtain ⟨Z2, hZ2⟩ : ∃ Z2, Z2 = nameM c.L σ4 := ⟨_, rfl⟩
 have HN2 : Hid (∀ W, Rs c W σ4 → Calls Tryz.prog 120 #[c.ptr] W fun e w' => Fr c W w' ∧ e = .returned (.tuple #[.string Z2.1.name, .int .i64 Z2.1.pos]) ∧ Rs c w' Z2.2) := fun W R => by rw [hZ2]; exact r_name R
 obtain ⟨σ6, hσ6⟩ : ∃ σ6, σ6 = Z2.2.want c.L [44] := ⟨_, rfl⟩
 have HW3 : Hid (∀ W, Rs c W Z2.2 → Calls Tryz.prog 123 #[c.ptr, .string ⟨#[44]⟩] W fun e w' => e = .returned (.tuple #[]) ∧ Fr c W w' ∧ Rs c w' σ6) := fun W R => by rw [hσ6]; exact r_want R ⟨#[44]⟩
 have HEX : Hid (∀ W, Rs c W σ6 → Calls Tryz.prog 190 #[c.ptr, .int .i64 1, .int .i64 0] W (RsPost c W X (exR W.heap.size))) := fun W R => HX W (by rw [hσ6, hZ2, hσ4, hσ2, hZ1] at R; exact R)
 obtain ⟨σ8, hσ8⟩ : ∃ σ8, σ8 = X.2.want c.L [41] := ⟨_, rfl⟩
 have HW4 : Hid (∀ W, Rs c W X.2 → Calls Tryz.prog 123 #[c.ptr, .string ⟨#[41]⟩] W fun e w' => e = .returned (.tuple #[]) ∧ Fr c W w' ∧ Rs c w' σ8) := fun W R => by rw [hσ8]; exact r_want R ⟨#[41]⟩
 obtain ⟨σ9, hσ9⟩ : ∃ σ9, σ9 = σ8.want c.L [59] := ⟨_, rfl⟩
 have HW5 : Hid (∀ W, Rs c W σ8 → Calls Tryz.prog 123 #[c.ptr, .string ⟨#[59]⟩] W fun e w' => e = .returned (.tuple #[]) ∧ Fr c W w' ∧ Rs c w' σ9) := fun W R => by rw [hσ9]; exact r_want R ⟨#[59]⟩
 have HRES : Hid ((St.mk 2 (nameM c.L σ).1.name (nameM c.L (((nameM c.L σ).2.want c.L [61]).step.want c.L [40])).1.name [X.1] [] [] p, (X.2.want c.L [41]).want c.L [59]) = (St.mk 2 Z1.1.name Z2.1.name [X.1] [] [] p, σ9)) := by rw [Hid, hσ9, hσ8, hZ2, hσ4, hσ2, hZ1]
 have HS := Lib.hid R.s
 have hX := Lib.hid R.lt
 have HSB : Hid (w.heap.size ≤ w.heap.size ∧ c.X ≠ w.heap.size ∧ w.heap.size ≠ w.heap.size + 1) := by have := hX.out; simp only [Hid]; omega
 have A := Lib.hid ((R.as.alloc (.cells #[.int .u8 0, .string ⟨#[]⟩, .string ⟨#[]⟩, .slice none 0 0, .slice none 0 0, .slice none 0 0, .int .i64 p] 69)).alloc (.cells #[.int .u8 0, .string ⟨#[]⟩, .string ⟨#[]⟩, .slice none 0 0, .slice none 0 0, .slice none 0 0, .int .i64 0] 69))
 have S := Lib.hid ((Own.new w 69 #[.int .u8 0, .string ⟨#[]⟩, .string ⟨#[]⟩, .slice none 0 0, .slice none 0 0, .slice none 0 0, .int .i64 p]).alloc (.cells #[.int .u8 0, .string ⟨#[]⟩, .string ⟨#[]⟩, .slice none 0 0, .slice none 0 0, .slice none 0 0, .int .i64 0] 69))
 have RB : Hid (Own ((w.alloc (.cells #[.int .u8 0, .string ⟨#[]⟩, .string ⟨#[]⟩, .slice none 0 0, .slice none 0 0, .slice none 0 0, .int .i64 p] 69)).alloc (.cells #[.int .u8 0, .string ⟨#[]⟩, .string ⟨#[]⟩, .slice none 0 0, .slice none 0 0, .slice none 0 0, .int .i64 0] 69)) (w.heap.size + 1) 69 #[.int .u8 0, .string ⟨#[]⟩, .string ⟨#[]⟩, .slice none 0 0, .slice none 0 0, .slice none 0 0, .int .i64 0]) := by have := Own.new (w.alloc (.cells #[.int .u8 0, .string ⟨#[]⟩, .string ⟨#[]⟩, .slice none 0 0, .slice none 0 0, .slice none 0 0, .int .i64 p] 69)) 69 #[.int .u8 0, .string ⟨#[]⟩, .string ⟨#[]⟩, .slice none 0 0, .slice none 0 0, .slice none 0 0, .int .i64 0]; rw [World.size_alloc] at this; exact this
 rw [HRES.out]
 clear hZ1 hσ2 hσ4 hZ2 hσ6 hσ8 hσ9 R hs HX
 obtain ⟨⟨nm1, wd1, ps1⟩, σ1⟩ := Z1
 obtain ⟨⟨nm2, wd2, ps2⟩, σ5⟩ := Z2
 obtain ⟨e0, σ7⟩ := X
 unfold Par.ptr at *
 go_enter Tryz.func191, Tryz.ntmps191
 go_wp2_with fail
 go_at_call 120
 refine (HN1.out _ (A.out.rs HS.out)).mono ?_
 rintro e w2 ⟨hf, rfl, hr⟩
 have A := Lib.hid (A.out.call hf hr)
 have S := Lib.hid (S.out.fr hf (HSB.out.2.1))
 have RB := Lib.hid (RB.out.fr hf (by have := hX.out; omega))
 clear hf hr
 have sj : w2.cell? ⟨w.heap.size, 1, none⟩ = some (.string ⟨#[]⟩) := by rw [cell_of_row _ _ 1 _ _ _ S.out]; rfl
 have sf : w2.frozen? ⟨w.heap.size, 1, none⟩ = false := own_frozen' S.out 1
 have slt := S.out.lt
 have A := Lib.hid (A.out.setOwn S.out HSB.out.1 HSB.out.2.1 1 (.string nm1))
 have RB := Lib.hid (RB.out.setX (x := w.heap.size) 1 (.string nm1) HSB.out.2.2)
 have S : Hid (Own _ w.heap.size 69 #[.int .u8 0, .string nm1, .string ⟨#[]⟩, .slice none 0 0, .slice none 0 0, .slice none 0 0, .int .i64 p]) := S.out.setJ 1 (.string nm1)
 go_upto_region 3 with (fail)
 obtain ⟨V1, hV1⟩ : ∃ W, W = (w2.setCell ⟨w.heap.size, 1, none⟩ (.string nm1)) := ⟨_, rfl⟩
 rw [← hV1] at A S RB ⊢
 clear hV1
 clear sj sf slt
 go_wp2_with fail
 go_at_call 123
 refine (HW1.out _ (A.out.rs HS.out)).mono ?_
 rintro e w3 ⟨rfl, hf, hr⟩
 have A := Lib.hid (A.out.call hf hr)
 have S := Lib.hid (S.out.fr hf (HSB.out.2.1))
 have RB := Lib.hid (RB.out.fr hf (by have := hX.out; omega))
 clear hf hr
 go_wp2_with fail
 go_at_call 69
 refine (HTK.out _ (A.out.rs HS.out)).mono ?_
 rintro e w4 ⟨rfl, hf, hr⟩
 have A := Lib.hid (A.out.call hf hr)
 have S := Lib.hid (S.out.fr hf (HSB.out.2.1))
 have RB := Lib.hid (RB.out.fr hf (by have := hX.out; omega))
 clear hf hr
 have sj : w4.cell? ⟨w.heap.size, 0, none⟩ = some (.int .u8 0) := by rw [cell_of_row _ _ 0 _ _ _ S.out]; rfl
 have sf : w4.frozen? ⟨w.heap.size, 0, none⟩ = false := own_frozen' S.out 0
 have slt := S.out.lt
 have A := Lib.hid (A.out.setOwn S.out HSB.out.1 HSB.out.2.1 0 (.int .u8 2))
 have RB := Lib.hid (RB.out.setX (x := w.heap.size) 0 (.int .u8 2) HSB.out.2.2)
 have S : Hid (Own _ w.heap.size 69 #[.int .u8 2, .string nm1, .string ⟨#[]⟩, .slice none 0 0, .slice none 0 0, .slice none 0 0, .int .i64 p]) := S.out.setJ 0 (.int .u8 2)
 go_upto_region 6 with (fail)
 obtain ⟨V2, hV2⟩ : ∃ W, W = (w4.setCell ⟨w.heap.size, 0, none⟩ (.int .u8 2)) := ⟨_, rfl⟩
 rw [← hV2] at A S RB ⊢
 clear hV2
 clear sj sf slt
 go_wp2_with fail
 go_at_call 123
 refine (HW2.out _ (A.out.rs HS.out)).mono ?_
 rintro e w5 ⟨rfl, hf, hr⟩
 have A := Lib.hid (A.out.call hf hr)
 have S := Lib.hid (S.out.fr hf (HSB.out.2.1))
 have RB := Lib.hid (RB.out.fr hf (by have := hX.out; omega))
 clear hf hr
 go_wp2_with fail
 go_at_call 120
 refine (HN2.out _ (A.out.rs HS.out)).mono ?_
 rintro e w6 ⟨hf, rfl, hr⟩
 have A := Lib.hid (A.out.call hf hr)
 have S := Lib.hid (S.out.fr hf (HSB.out.2.1))
 have RB := Lib.hid (RB.out.fr hf (by have := hX.out; omega))
 clear hf hr
 have sj : w6.cell? ⟨w.heap.size, 2, none⟩ = some (.string ⟨#[]⟩) := by rw [cell_of_row _ _ 2 _ _ _ S.out]; rfl
 have sf : w6.frozen? ⟨w.heap.size, 2, none⟩ = false := own_frozen' S.out 2
 have slt := S.out.lt
 have A := Lib.hid (A.out.setOwn S.out HSB.out.1 HSB.out.2.1 2 (.string nm2))
 have RB := Lib.hid (RB.out.setX (x := w.heap.size) 2 (.string nm2) HSB.out.2.2)
 have S : Hid (Own _ w.heap.size 69 #[.int .u8 2, .string nm1, .string nm2, .slice none 0 0, .slice none 0 0, .slice none 0 0, .int .i64 p]) := S.out.setJ 2 (.string nm2)
 go_upto_region 9 with (fail)
 obtain ⟨V3, hV3⟩ : ∃ W, W = (w6.setCell ⟨w.heap.size, 2, none⟩ (.string nm2)) := ⟨_, rfl⟩
 rw [← hV3] at A S RB ⊢
 clear hV3
 clear sj sf slt
 go_wp2_with fail
 go_at_call 123
 refine (HW3.out _ (A.out.rs HS.out)).mono ?_
 rintro e w7 ⟨rfl, hf, hr⟩
 have A := Lib.hid (A.out.call hf hr)
 have S := Lib.hid (S.out.fr hf (HSB.out.2.1))
 have RB := Lib.hid (RB.out.fr hf (by have := hX.out; omega))
 clear hf hr
 have HLOW : Hid (w.heap.size + 1 < w7.heap.size) := RB.out.lt
 have hz := Keep.size A.out.fr
 have hsb := S.out.lt
 have hrb := RB.out.lt
 go_wp2_with fail
 go_at_call 190
 refine (HEX.out _ (A.out.rs HS.out)).mono ?_
 rintro e w8 ⟨hf, v, rfl, ⟨a4, cap4, rfl, hV⟩, hr⟩
 have HV0 := Lib.hid (exsAt_mono (exsAt_in hV) (R' := fun b => (w.heap.size + 1) < b ∧ b < w8.heap.size) (fun b hb => ⟨by have := hb.1; have := HLOW.out; omega, hb.2⟩))
 have hz2 := Keep.size hf
 clear hV
 have A := Lib.hid (A.out.call hf hr)
 have S := Lib.hid (S.out.fr hf (HSB.out.2.1))
 have RB := Lib.hid (RB.out.fr hf (by have := hX.out; omega))
 clear hf hr
 have HZE : Hid ((w.heap.size + 1) < w8.heap.size) := by have := HLOW.out; simp only [Hid]; omega
 clear hz hz2 hsb hrb
 have sj : w8.cell? ⟨w.heap.size, 3, none⟩ = some (.slice none 0 0) := by rw [cell_of_row _ _ 3 _ _ _ S.out]; rfl
 have sf : w8.frozen? ⟨w.heap.size, 3, none⟩ = false := own_frozen' S.out 3
 have slt := S.out.lt
 have A := Lib.hid (A.out.setOwn S.out HSB.out.1 HSB.out.2.1 3 (.slice (some ⟨w8.heap.size, 0, none⟩) 1 1))
 have RB := Lib.hid (RB.out.setX (x := w.heap.size) 3 (.slice (some ⟨w8.heap.size, 0, none⟩) 1 1) HSB.out.2.2)
 have HV0 := Lib.hid (exsAt_stays (stays_setX _ (x := w.heap.size) 3 (.slice (some ⟨w8.heap.size, 0, none⟩) 1 1) (fun b hb => by have := hb.1; have := HSB.out; omega)) (fun b hb => hb) HV0.out)
 have S : Hid (Own _ w.heap.size 69 #[.int .u8 2, .string nm1, .string nm2, .slice (some ⟨w8.heap.size, 0, none⟩) 1 1, .slice none 0 0, .slice none 0 0, .int .i64 p]) := S.out.setJ 3 (.slice (some ⟨w8.heap.size, 0, none⟩) 1 1)
 have N0 := Own.new (w8.setCell ⟨w.heap.size, 3, none⟩ (.slice (some ⟨w8.heap.size, 0, none⟩) 1 1)) 38 #[.int .u8 e0.kind, .int .u8 e0.op, .int .i64 e0.wd, .string e0.name, .slice a4 e0.kids.length cap4, .int .i64 e0.pos]
 rw [World.size_setCell] at N0
 have A := Lib.hid (A.out.alloc (.cells #[.int .u8 e0.kind, .int .u8 e0.op, .int .i64 e0.wd, .string e0.name, .slice a4 e0.kids.length cap4, .int .i64 e0.pos] 38))
 have S := Lib.hid (S.out.alloc (.cells #[.int .u8 e0.kind, .int .u8 e0.op, .int .i64 e0.wd, .string e0.name, .slice a4 e0.kids.length cap4, .int .i64 e0.pos] 38))
 have RB := Lib.hid (RB.out.alloc (.cells #[.int .u8 e0.kind, .int .u8 e0.op, .int .i64 e0.wd, .string e0.name, .slice a4 e0.kids.length cap4, .int .i64 e0.pos] 38))
 have HV0 := Lib.hid (exsAt_stays (stays_alloc _ _ (.cells #[.int .u8 e0.kind, .int .u8 e0.op, .int .i64 e0.wd, .string e0.name, .slice a4 e0.kids.length cap4, .int .i64 e0.pos] 38)) (fun b hb => hb) HV0.out)
 have HV : Hid (exsAt (fun b => (w.heap.size + 1) < b ∧ True) ((w8.setCell ⟨w.heap.size, 3, none⟩ (.slice (some ⟨w8.heap.size, 0, none⟩) 1 1)).alloc (.cells #[.int .u8 e0.kind, .int .u8 e0.op, .int .i64 e0.wd, .string e0.name, .slice a4 e0.kids.length cap4, .int .i64 e0.pos] 38)) [e0] (some ⟨w8.heap.size, 0, none⟩)) := .inr ⟨_, 0, rfl, ⟨HZE.out, trivial⟩, exIn_of (vs := exCells e0 a4 cap4) ⟨a4, cap4, rfl, exsAt_mono HV0.out (fun b hb => ⟨hb.1, trivial⟩)⟩ (fun j v hj => by rw [Nat.zero_add, cell_of_row _ _ j _ _ _ N0, ← hj]; simp [exCells]), trivial⟩
 clear N0 HV0
 go_upto_region 11 with (fail)
 obtain ⟨V4, hV4⟩ : ∃ W, W = ((w8.setCell ⟨w.heap.size, 3, none⟩ (.slice (some ⟨w8.heap.size, 0, none⟩) 1 1)).alloc (.cells #[.int .u8 e0.kind, .int .u8 e0.op, .int .i64 e0.wd, .string e0.name, .slice a4 e0.kids.length cap4, .int .i64 e0.pos] 38)) := ⟨_, rfl⟩
 rw [← hV4] at A S RB HV ⊢
 clear hV4
 clear sj sf slt
 go_wp2_with fail
 go_at_call 123
 refine (HW4.out _ (A.out.rs HS.out)).mono ?_
 rintro e w9 ⟨rfl, hf, hr⟩
 have A := Lib.hid (A.out.call hf hr)
 have S := Lib.hid (S.out.fr hf (HSB.out.2.1))
 have RB := Lib.hid (RB.out.fr hf (by have := hX.out; omega))
 have HV := Lib.hid (exsAt_stays (stays_fr hf (fun b hb => by have := hb.1; have := hX.out; omega)) (fun b hb => hb) HV.out)
 clear hf hr
 go_wp2_with fail
 go_at_call 123
 refine (HW5.out _ (A.out.rs HS.out)).mono ?_
 rintro e w10 ⟨rfl, hf, hr⟩
 have A := Lib.hid (A.out.call hf hr)
 have S := Lib.hid (S.out.fr hf (HSB.out.2.1))
 have RB := Lib.hid (RB.out.fr hf (by have := hX.out; omega))
 have HV := Lib.hid (exsAt_stays (stays_fr hf (fun b hb => by have := hb.1; have := hX.out; omega)) (fun b hb => hb) HV.out)
 clear hf hr
 have s0 := S.out
 have r0 := RB.out
 go_wp2_with (first | (refine ld rowSt rfl rfl rfl s0 rfl ?_) | (refine st rowSt rfl rfl r0 rfl rfl (by rfl) (by rfl) (by kernel_rfl) ?_))
 have A := A.out.setRow (g := w.heap.size + 1) (by omega) (by have := hX.out; omega) #[.int .u8 2, .string nm1, .string nm2, .slice (some ⟨w8.heap.size, 0, none⟩) 1 1, .slice none 0 0, .slice none 0 0, .int .i64 p]
 refine p_ret rowSt rfl (r0.row #[.int .u8 2, .string nm1, .string nm2, .slice (some ⟨w8.heap.size, 0, none⟩) 1 1, .slice none 0 0, .slice none 0 0, .int .i64 p]) rfl rfl rfl ?_
 exact ⟨A.fr, _, rfl, ⟨_, 1, none, 0, none, 0, rfl, exsAt_mono (exsAt_stays (stays_row _ (g := w.heap.size + 1) _ (fun b hb => by have := hb.1; omega)) (fun b hb => hb) HV.out) (fun b hb => by have := hb.1; omega), .inl rfl, .inl rfl⟩, A.rs HS.out⟩
theorem ra_plain {c : Par} {w : World} {σ : Sr} {p : Int} {X : Ex × Sr} (R : Rs c w σ) (hs : ((nameM c.L σ).2.want c.L [61]).has c.L [115, 119, 97, 112] = false) (HX : ∀ W, Rs c W ((nameM c.L σ).2.want c.L [61]) → Calls Tryz.prog 190 #[c.ptr, .int .i64 1, .int .i64 0] W (RsPost c W X (exR W.heap.size))) :
 Calls Tryz.prog 191 #[c.ptr, .agg #[.int .u8 0, .string ⟨#[]⟩, .string ⟨#[]⟩, .slice none 0 0, .slice none 0 0, .slice none 0 0, .int .i64 p]] w (RsPost c w (St.mk 1 (nameM c.L σ).1.name ⟨#[]⟩ [X.1] [] [] p, X.2.want c.L [59]) (stW w.heap.size)) := by
 obtain ⟨Z1, hZ1⟩ : ∃ Z1, Z1 = nameM c.L σ := ⟨_, rfl⟩
 obtain ⟨σ2, hσ2⟩ : ∃ σ2, σ2 = Z1.2.want c.L [61] := ⟨_, rfl⟩
 have HN1 : Hid (∀ W, Rs c W σ → Calls Tryz.prog 120 #[c.ptr] W fun e w' => Fr c W w' ∧ e = .returned (.tuple #[.string Z1.1.name, .int .i64 Z1.1.pos]) ∧ Rs c w' Z1.2) := fun W R => by rw [hZ1]; exact r_name R
 have HW1 : Hid (∀ W, Rs c W Z1.2 → Calls Tryz.prog 123 #[c.ptr, .string ⟨#[61]⟩] W fun e w' => e = .returned (.tuple #[]) ∧ Fr c W w' ∧ Rs c w' σ2) := fun W R => by rw [hσ2]; exact r_want R ⟨#[61]⟩
 have HTK : Hid (∀ W, Rs c W σ2 → Calls Tryz.prog 69 #[c.ptr, .string ⟨#[115, 119, 97, 112]⟩] W fun e w' => e = .returned (.bool false) ∧ Fr c W w' ∧ Rs c w' σ2) := fun W R => take_isnt R (by rw [hσ2, hZ1]; exact hs)
 have HEX : Hid (∀ W, Rs c W σ2 → Calls Tryz.prog 190 #[c.ptr, .int .i64 1, .int .i64 0] W (RsPost c W X (exR W.heap.size))) := fun W R => HX W (by rw [hσ2, hZ1] at R; exact R)
 obtain ⟨σ8, hσ8⟩ : ∃ σ8, σ8 = X.2 := ⟨_, rfl⟩
 obtain ⟨σ9, hσ9⟩ : ∃ σ9, σ9 = σ8.want c.L [59] := ⟨_, rfl⟩
 have HW5 : Hid (∀ W, Rs c W σ8 → Calls Tryz.prog 123 #[c.ptr, .string ⟨#[59]⟩] W fun e w' => e = .returned (.tuple #[]) ∧ Fr c W w' ∧ Rs c w' σ9) := fun W R => by rw [hσ9]; exact r_want R ⟨#[59]⟩
 have HRES : Hid ((St.mk 1 (nameM c.L σ).1.name ⟨#[]⟩ [X.1] [] [] p, X.2.want c.L [59]) = (St.mk 1 Z1.1.name ⟨#[]⟩ [X.1] [] [] p, σ9)) := by rw [Hid, hσ9, hσ8, hZ1]
 subst hσ8
 have HS := Lib.hid R.s
 have hX := Lib.hid R.lt
 have HSB : Hid (w.heap.size ≤ w.heap.size ∧ c.X ≠ w.heap.size ∧ w.heap.size ≠ w.heap.size + 1) := by have := hX.out; simp only [Hid]; omega
 have A := Lib.hid ((R.as.alloc (.cells #[.int .u8 0, .string ⟨#[]⟩, .string ⟨#[]⟩, .slice none 0 0, .slice none 0 0, .slice none 0 0, .int .i64 p] 69)).alloc (.cells #[.int .u8 0, .string ⟨#[]⟩, .string ⟨#[]⟩, .slice none 0 0, .slice none 0 0, .slice none 0 0, .int .i64 0] 69))
 have S := Lib.hid ((Own.new w 69 #[.int .u8 0, .string ⟨#[]⟩, .string ⟨#[]⟩, .slice none 0 0, .slice none 0 0, .slice none 0 0, .int .i64 p]).alloc (.cells #[.int .u8 0, .string ⟨#[]⟩, .string ⟨#[]⟩, .slice none 0 0, .slice none 0 0, .slice none 0 0, .int .i64 0] 69))
 have RB : Hid (Own ((w.alloc (.cells #[.int .u8 0, .string ⟨#[]⟩, .string ⟨#[]⟩, .slice none 0 0, .slice none 0 0, .slice none 0 0, .int .i64 p] 69)).alloc (.cells #[.int .u8 0, .string ⟨#[]⟩, .string ⟨#[]⟩, .slice none 0 0, .slice none 0 0, .slice none 0 0, .int .i64 0] 69)) (w.heap.size + 1) 69 #[.int .u8 0, .string ⟨#[]⟩, .string ⟨#[]⟩, .slice none 0 0, .slice none 0 0, .slice none 0 0, .int .i64 0]) := by have := Own.new (w.alloc (.cells #[.int .u8 0, .string ⟨#[]⟩, .string ⟨#[]⟩, .slice none 0 0, .slice none 0 0, .slice none 0 0, .int .i64 p] 69)) 69 #[.int .u8 0, .string ⟨#[]⟩, .string ⟨#[]⟩, .slice none 0 0, .slice none 0 0, .slice none 0 0, .int .i64 0]; rw [World.size_alloc] at this; exact this
 rw [HRES.out]
 clear hZ1 hσ2 hσ9 R hs HX
 obtain ⟨⟨nm1, wd1, ps1⟩, σ1⟩ := Z1
 obtain ⟨e0, σ7⟩ := X
 unfold Par.ptr at *
 go_enter Tryz.func191, Tryz.ntmps191
 go_wp2_with fail
 go_at_call 120
 refine (HN1.out _ (A.out.rs HS.out)).mono ?_
 rintro e w2 ⟨hf, rfl, hr⟩
 have A := Lib.hid (A.out.call hf hr)
 have S := Lib.hid (S.out.fr hf (HSB.out.2.1))
 have RB := Lib.hid (RB.out.fr hf (by have := hX.out; omega))
 clear hf hr
 have sj : w2.cell? ⟨w.heap.size, 1, none⟩ = some (.string ⟨#[]⟩) := by rw [cell_of_row _ _ 1 _ _ _ S.out]; rfl
 have sf : w2.frozen? ⟨w.heap.size, 1, none⟩ = false := own_frozen' S.out 1
 have slt := S.out.lt
 have A := Lib.hid (A.out.setOwn S.out HSB.out.1 HSB.out.2.1 1 (.string nm1))
 have RB := Lib.hid (RB.out.setX (x := w.heap.size) 1 (.string nm1) HSB.out.2.2)
 have S : Hid (Own _ w.heap.size 69 #[.int .u8 0, .string nm1, .string ⟨#[]⟩, .slice none 0 0, .slice none 0 0, .slice none 0 0, .int .i64 p]) := S.out.setJ 1 (.string nm1)
 go_upto_region 3 with (fail)
 obtain ⟨V1, hV1⟩ : ∃ W, W = (w2.setCell ⟨w.heap.size, 1, none⟩ (.string nm1)) := ⟨_, rfl⟩
 rw [← hV1] at A S RB ⊢
 clear hV1
 clear sj sf slt
 go_wp2_with fail
 go_at_call 123
 refine (HW1.out _ (A.out.rs HS.out)).mono ?_
 rintro e w3 ⟨rfl, hf, hr⟩
 have A := Lib.hid (A.out.call hf hr)
 have S := Lib.hid (S.out.fr hf (HSB.out.2.1))
 have RB := Lib.hid (RB.out.fr hf (by have := hX.out; omega))
 clear hf hr
 go_wp2_with fail
 go_at_call 69
 refine (HTK.out _ (A.out.rs HS.out)).mono ?_
 rintro e w4 ⟨rfl, hf, hr⟩
 have A := Lib.hid (A.out.call hf hr)
 have S := Lib.hid (S.out.fr hf (HSB.out.2.1))
 have RB := Lib.hid (RB.out.fr hf (by have := hX.out; omega))
 clear hf hr
 have sj : w4.cell? ⟨w.heap.size, 0, none⟩ = some (.int .u8 0) := by rw [cell_of_row _ _ 0 _ _ _ S.out]; rfl
 have sf : w4.frozen? ⟨w.heap.size, 0, none⟩ = false := own_frozen' S.out 0
 have slt := S.out.lt
 have A := Lib.hid (A.out.setOwn S.out HSB.out.1 HSB.out.2.1 0 (.int .u8 1))
 have RB := Lib.hid (RB.out.setX (x := w.heap.size) 0 (.int .u8 1) HSB.out.2.2)
 have S : Hid (Own _ w.heap.size 69 #[.int .u8 1, .string nm1, .string ⟨#[]⟩, .slice none 0 0, .slice none 0 0, .slice none 0 0, .int .i64 p]) := S.out.setJ 0 (.int .u8 1)
 go_upto_region 13 with (fail)
 obtain ⟨V2, hV2⟩ : ∃ W, W = (w4.setCell ⟨w.heap.size, 0, none⟩ (.int .u8 1)) := ⟨_, rfl⟩
 rw [← hV2] at A S RB ⊢
 clear hV2
 clear sj sf slt
 have HLOW : Hid (w.heap.size + 1 < V2.heap.size) := RB.out.lt
 have hz := Keep.size A.out.fr
 have hsb := S.out.lt
 have hrb := RB.out.lt
 go_wp2_with fail
 go_at_call 190
 refine (HEX.out _ (A.out.rs HS.out)).mono ?_
 rintro e w5 ⟨hf, v, rfl, ⟨a4, cap4, rfl, hV⟩, hr⟩
 have HV0 := Lib.hid (exsAt_mono (exsAt_in hV) (R' := fun b => (w.heap.size + 1) < b ∧ b < w5.heap.size) (fun b hb => ⟨by have := hb.1; have := HLOW.out; omega, hb.2⟩))
 have hz2 := Keep.size hf
 clear hV
 have A := Lib.hid (A.out.call hf hr)
 have S := Lib.hid (S.out.fr hf (HSB.out.2.1))
 have RB := Lib.hid (RB.out.fr hf (by have := hX.out; omega))
 clear hf hr
 have HZE : Hid ((w.heap.size + 1) < w5.heap.size) := by have := HLOW.out; simp only [Hid]; omega
 clear hz hz2 hsb hrb
 have sj : w5.cell? ⟨w.heap.size, 3, none⟩ = some (.slice none 0 0) := by rw [cell_of_row _ _ 3 _ _ _ S.out]; rfl
 have sf : w5.frozen? ⟨w.heap.size, 3, none⟩ = false := own_frozen' S.out 3
 have slt := S.out.lt
 have A := Lib.hid (A.out.setOwn S.out HSB.out.1 HSB.out.2.1 3 (.slice (some ⟨w5.heap.size, 0, none⟩) 1 1))
 have RB := Lib.hid (RB.out.setX (x := w.heap.size) 3 (.slice (some ⟨w5.heap.size, 0, none⟩) 1 1) HSB.out.2.2)
 have HV0 := Lib.hid (exsAt_stays (stays_setX _ (x := w.heap.size) 3 (.slice (some ⟨w5.heap.size, 0, none⟩) 1 1) (fun b hb => by have := hb.1; have := HSB.out; omega)) (fun b hb => hb) HV0.out)
 have S : Hid (Own _ w.heap.size 69 #[.int .u8 1, .string nm1, .string ⟨#[]⟩, .slice (some ⟨w5.heap.size, 0, none⟩) 1 1, .slice none 0 0, .slice none 0 0, .int .i64 p]) := S.out.setJ 3 (.slice (some ⟨w5.heap.size, 0, none⟩) 1 1)
 have N0 := Own.new (w5.setCell ⟨w.heap.size, 3, none⟩ (.slice (some ⟨w5.heap.size, 0, none⟩) 1 1)) 38 #[.int .u8 e0.kind, .int .u8 e0.op, .int .i64 e0.wd, .string e0.name, .slice a4 e0.kids.length cap4, .int .i64 e0.pos]
 rw [World.size_setCell] at N0
 have A := Lib.hid (A.out.alloc (.cells #[.int .u8 e0.kind, .int .u8 e0.op, .int .i64 e0.wd, .string e0.name, .slice a4 e0.kids.length cap4, .int .i64 e0.pos] 38))
 have S := Lib.hid (S.out.alloc (.cells #[.int .u8 e0.kind, .int .u8 e0.op, .int .i64 e0.wd, .string e0.name, .slice a4 e0.kids.length cap4, .int .i64 e0.pos] 38))
 have RB := Lib.hid (RB.out.alloc (.cells #[.int .u8 e0.kind, .int .u8 e0.op, .int .i64 e0.wd, .string e0.name, .slice a4 e0.kids.length cap4, .int .i64 e0.pos] 38))
 have HV0 := Lib.hid (exsAt_stays (stays_alloc _ _ (.cells #[.int .u8 e0.kind, .int .u8 e0.op, .int .i64 e0.wd, .string e0.name, .slice a4 e0.kids.length cap4, .int .i64 e0.pos] 38)) (fun b hb => hb) HV0.out)
 have HV : Hid (exsAt (fun b => (w.heap.size + 1) < b ∧ True) ((w5.setCell ⟨w.heap.size, 3, none⟩ (.slice (some ⟨w5.heap.size, 0, none⟩) 1 1)).alloc (.cells #[.int .u8 e0.kind, .int .u8 e0.op, .int .i64 e0.wd, .string e0.name, .slice a4 e0.kids.length cap4, .int .i64 e0.pos] 38)) [e0] (some ⟨w5.heap.size, 0, none⟩)) := .inr ⟨_, 0, rfl, ⟨HZE.out, trivial⟩, exIn_of (vs := exCells e0 a4 cap4) ⟨a4, cap4, rfl, exsAt_mono HV0.out (fun b hb => ⟨hb.1, trivial⟩)⟩ (fun j v hj => by rw [Nat.zero_add, cell_of_row _ _ j _ _ _ N0, ← hj]; simp [exCells]), trivial⟩
 clear N0 HV0
 go_upto_region 14 with (fail)
 obtain ⟨V3, hV3⟩ : ∃ W, W = ((w5.setCell ⟨w.heap.size, 3, none⟩ (.slice (some ⟨w5.heap.size, 0, none⟩) 1 1)).alloc (.cells #[.int .u8 e0.kind, .int .u8 e0.op, .int .i64 e0.wd, .string e0.name, .slice a4 e0.kids.length cap4, .int .i64 e0.pos] 38)) := ⟨_, rfl⟩
 rw [← hV3] at A S RB HV ⊢
 clear hV3
 clear sj sf slt
 go_wp2_with fail
 go_at_call 123
 refine (HW5.out _ (A.out.rs HS.out)).mono ?_
 rintro e w6 ⟨rfl, hf, hr⟩
 have A := Lib.hid (A.out.call hf hr)
 have S := Lib.hid (S.out.fr hf (HSB.out.2.1))
 have RB := Lib.hid (RB.out.fr hf (by have := hX.out; omega))
 have HV := Lib.hid (exsAt_stays (stays_fr hf (fun b hb => by have := hb.1; have := hX.out; omega)) (fun b hb => hb) HV.out)
 clear hf hr
 have s0 := S.out
 have r0 := RB.out
 go_wp2_with (first | (refine ld rowSt rfl rfl rfl s0 rfl ?_) | (refine st rowSt rfl rfl r0 rfl rfl (by rfl) (by rfl) (by kernel_rfl) ?_))
 have A := A.out.setRow (g := w.heap.size + 1) (by omega) (by have := hX.out; omega) #[.int .u8 1, .string nm1, .string ⟨#[]⟩, .slice (some ⟨w5.heap.size, 0, none⟩) 1 1, .slice none 0 0, .slice none 0 0, .int .i64 p]
 refine p_ret rowSt rfl (r0.row #[.int .u8 1, .string nm1, .string ⟨#[]⟩, .slice (some ⟨w5.heap.size, 0, none⟩) 1 1, .slice none 0 0, .slice none 0 0, .int .i64 p]) rfl rfl rfl ?_
 exact ⟨A.fr, _, rfl, ⟨_, 1, none, 0, none, 0, rfl, exsAt_mono (exsAt_stays (stays_row _ (g := w.heap.size + 1) _ (fun b hb => by have := hb.1; omega)) (fun b hb => hb) HV.out) (fun b hb => by have := hb.1; omega), .inl rfl, .inl rfl⟩, A.rs HS.out⟩
end Go.Proofs.YtfogkobgjojpiaaGreatDoor

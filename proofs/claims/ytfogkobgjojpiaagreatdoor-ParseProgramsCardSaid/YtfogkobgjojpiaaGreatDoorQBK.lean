/- The proof, part 37: texts that belong together, in one. -/
import Derived.Test.YtfogkobgjojpiaaGreatDoorQBJ
set_option maxRecDepth 100000
set_option maxHeartbeats 20000000
namespace Go.Proofs.YtfogkobgjojpiaaGreatDoor
open Go.RowKit
set_option linter.unusedVariables false
theorem rs_ifelse {c : Par} {w : World} {σ : Sr} {d : Int} {X : Ex × Sr} {Y : List St × Sr} {Z : List St × Sr} (R : Rs c w σ) (hd0 : 0 ≤ d) (hd1 : d ≤ 64) (hif : σ.has c.L [105, 102] = true) (HX : ∀ W, Rs c W σ.step → Calls Tryz.prog 188 #[c.ptr] W (RsPost c W X (fun e v W' => exsVal W.heap.size [e] v W'))) (HY : ∀ W, Rs c W X.2 → Calls Tryz.prog 189 #[c.ptr, .int .i64 d] W (RsPost c W Y (fun l v W' => stsVal W.heap.size l v W'))) (hels : Y.2.has c.L [101, 108, 115, 101] = true) (HZ : ∀ W, Rs c W Y.2.step → Calls Tryz.prog 189 #[c.ptr, .int .i64 d] W (RsPost c W Z (fun l v W' => stsVal W.heap.size l v W'))) :
 Calls Tryz.prog 163 #[c.ptr, .int .i64 d] w (RsPost c w (St.mk 3 ⟨#[]⟩ ⟨#[]⟩ [X.1] Y.1 Z.1 (hereM c.L σ.ts).pos, Z.2) (stW w.heap.size)) := by
 have HXR : Hid ( ∀ W, Rs c W σ.step → Calls Tryz.prog 188 #[c.ptr] W (RsPost c W X (fun e v W' => exsVal W.heap.size [e] v W'))) := HX
 have HYR : Hid ( ∀ W, Rs c W X.2 → Calls Tryz.prog 189 #[c.ptr, .int .i64 d] W (RsPost c W Y (fun l v W' => stsVal W.heap.size l v W'))) := HY
 have HEL : Hid (∀ W, Rs c W Y.2 → Calls Tryz.prog 69 #[c.ptr, .string ⟨#[101, 108, 115, 101]⟩] W fun e w' => e = .returned (.bool true) ∧ Fr c W w' ∧ Rs c w' Y.2.step) := fun W R => take_is R hels
 have HZR : Hid ( ∀ W, Rs c W Y.2.step → Calls Tryz.prog 189 #[c.ptr, .int .i64 d] W (RsPost c W Z (fun l v W' => stsVal W.heap.size l v W'))) := HZ
 obtain ⟨t, ht⟩ : ∃ t, t = hereM c.L σ.ts := ⟨_, rfl⟩
 have HH : Hid (∀ W, Rs c W σ → Calls Tryz.prog 121 #[c.ptr] W fun e w' => e = .returned (tkV t) ∧ Below W.heap.size W w') := fun W R => by rw [ht]; exact r_hereS R
 have HTif : Hid (∀ W, Rs c W σ → Calls Tryz.prog 69 #[c.ptr, .string ⟨#[105, 102]⟩] W fun e w' => e = .returned (.bool true) ∧ Fr c W w' ∧ Rs c w' σ.step) := fun W R => take_is R hif
 rw [← ht]
 have HS := Lib.hid R.s
 have hX := Lib.hid R.lt
 have A := Lib.hid (R.as.alloc (.cells zSt 69))
 have RB := Lib.hid (Own.new w 69 zSt)
 clear ht R hif HX HY hels HZ
 obtain ⟨tk, tx, tw, p⟩ := t
 obtain ⟨e0, σ2⟩ := X
 obtain ⟨l1, σ3⟩ := Y
 obtain ⟨l2, σ4⟩ := Z
 unfold tkV Par.ptr zSt at *
 have F3 : ∀ (a b c d : Value) (w : World), (Instr.field 108 (.agg #[a, b, c, d]) 3).run Tryz.prog w = .ok d w := fun a b c d w => by kernel_rfl
 go_enter Tryz.func163, Tryz.ntmps163
 go_wp2_with fail
 go_at_call 121
 refine (HH.out _ (A.out.rs HS.out)).mono ?_
 rintro e w1 ⟨rfl, hb⟩
 have A := Lib.hid (A.out.below hb)
 have RB := Lib.hid (RB.out.below hb)
 clear hb
 have HSB : Hid (w.heap.size ≤ w1.heap.size ∧ c.X ≠ w1.heap.size ∧ w1.heap.size ≠ w.heap.size) := by have := RB.out.lt; have := hX.out; simp only [Hid]; omega
 have A := Lib.hid (A.out.alloc (.cells #[.int .u8 0, .string ⟨#[]⟩, .string ⟨#[]⟩, .slice none 0 0, .slice none 0 0, .slice none 0 0, .int .i64 p] 69))
 have RB := Lib.hid (RB.out.alloc (.cells #[.int .u8 0, .string ⟨#[]⟩, .string ⟨#[]⟩, .slice none 0 0, .slice none 0 0, .slice none 0 0, .int .i64 p] 69))
 have S := Lib.hid (Own.new w1 69 #[.int .u8 0, .string ⟨#[]⟩, .string ⟨#[]⟩, .slice none 0 0, .slice none 0 0, .slice none 0 0, .int .i64 p])
 go_upto_region 3 with (fail)
 obtain ⟨V0, hV0⟩ : ∃ W, W = w1.alloc (.cells #[.int .u8 0, .string ⟨#[]⟩, .string ⟨#[]⟩, .slice none 0 0, .slice none 0 0, .slice none 0 0, .int .i64 p] 69) := ⟨_, rfl⟩
 rw [← hV0] at A RB S ⊢
 clear hV0
 go_wp2_with fail
 go_at_call 69
 refine (HTif.out _ (A.out.rs HS.out)).mono ?_
 rintro e w2 ⟨rfl, hf, hr⟩
 have A := Lib.hid (A.out.call hf hr)
 have RB := Lib.hid (RB.out.fr hf (by have := hX.out; omega))
 have S := Lib.hid (S.out.fr hf (HSB.out.2.1))
 clear hf hr
 have sj : w2.cell? ⟨w1.heap.size, 0, none⟩ = some (.int .u8 0) := by rw [cell_of_row _ _ 0 _ _ _ S.out]; rfl
 have sf : w2.frozen? ⟨w1.heap.size, 0, none⟩ = false := own_frozen' S.out 0
 have slt := S.out.lt
 have A := Lib.hid (A.out.setOwn S.out HSB.out.1 HSB.out.2.1 0 (.int .u8 3))
 have RB := Lib.hid (RB.out.setX (x := w1.heap.size) 0 (.int .u8 3) HSB.out.2.2)
 have S : Hid (Own _ w1.heap.size 69 #[.int .u8 3, .string ⟨#[]⟩, .string ⟨#[]⟩, .slice none 0 0, .slice none 0 0, .slice none 0 0, .int .i64 p]) := S.out.setJ 0 (.int .u8 3)
 go_upto_region 5 with (fail)
 obtain ⟨V1, hV1⟩ : ∃ W, W = (w2.setCell ⟨w1.heap.size, 0, none⟩ (.int .u8 3)) := ⟨_, rfl⟩
 rw [← hV1] at A RB S ⊢
 clear hV1
 clear sj sf slt
 have hz := Keep.size A.out.fr
 have hsb := S.out.lt
 go_wp2_with fail
 go_at_call 188
 refine (HXR.out _ (A.out.rs HS.out)).mono ?_
 rintro e w3 ⟨hf, v, rfl, hV, hr⟩
 obtain ⟨a3, c3, rfl, hV⟩ := hV
 have HV3 := Lib.hid (exsAt_mono hV (R' := fun b => w1.heap.size < b ∧ True) (fun b hb => ⟨by omega, trivial⟩))
 clear hV hz hsb
 have A := Lib.hid (A.out.call hf hr)
 have RB := Lib.hid (RB.out.fr hf (by have := hX.out; omega))
 have S := Lib.hid (S.out.fr hf (HSB.out.2.1))
 clear hf hr
 have sj : w3.cell? ⟨w1.heap.size, 3, none⟩ = some (.slice none 0 0) := by rw [cell_of_row _ _ 3 _ _ _ S.out]; rfl
 have sf : w3.frozen? ⟨w1.heap.size, 3, none⟩ = false := own_frozen' S.out 3
 have slt := S.out.lt
 have A := Lib.hid (A.out.setOwn S.out HSB.out.1 HSB.out.2.1 3 (.slice a3 1 c3))
 have RB := Lib.hid (RB.out.setX (x := w1.heap.size) 3 (.slice a3 1 c3) HSB.out.2.2)
 have HV3 := Lib.hid (exsAt_stays (stays_setX _ (x := w1.heap.size) 3 (.slice a3 1 c3) (fun b hb => by have := hb.1; have := HSB.out; omega)) (fun b hb => hb) HV3.out)
 have S : Hid (Own _ w1.heap.size 69 #[.int .u8 3, .string ⟨#[]⟩, .string ⟨#[]⟩, .slice a3 1 c3, .slice none 0 0, .slice none 0 0, .int .i64 p]) := S.out.setJ 3 (.slice a3 1 c3)
 go_upto_region 6 with (fail)
 obtain ⟨V2, hV2⟩ : ∃ W, W = (w3.setCell ⟨w1.heap.size, 3, none⟩ (.slice a3 1 c3)) := ⟨_, rfl⟩
 rw [← hV2] at A RB S HV3 ⊢
 clear hV2
 clear sj sf slt
 have hz := Keep.size A.out.fr
 have hsb := S.out.lt
 go_wp2_with fail
 go_at_call 189
 refine (HYR.out _ (A.out.rs HS.out)).mono ?_
 rintro e w4 ⟨hf, v, rfl, hV, hr⟩
 obtain ⟨a4, c4, rfl, hV⟩ := hV
 have HV4 := Lib.hid (stsAt_mono hV (R' := fun b => w1.heap.size < b ∧ True) (fun b hb => ⟨by omega, trivial⟩))
 clear hV hz hsb
 have A := Lib.hid (A.out.call hf hr)
 have RB := Lib.hid (RB.out.fr hf (by have := hX.out; omega))
 have S := Lib.hid (S.out.fr hf (HSB.out.2.1))
 have HV3 := Lib.hid (exsAt_stays (stays_fr hf (fun b hb => by have := hb.1; have := HSB.out; have := hX.out; omega)) (fun b hb => hb) HV3.out)
 clear hf hr
 have sj : w4.cell? ⟨w1.heap.size, 4, none⟩ = some (.slice none 0 0) := by rw [cell_of_row _ _ 4 _ _ _ S.out]; rfl
 have sf : w4.frozen? ⟨w1.heap.size, 4, none⟩ = false := own_frozen' S.out 4
 have slt := S.out.lt
 have A := Lib.hid (A.out.setOwn S.out HSB.out.1 HSB.out.2.1 4 (.slice a4 l1.length c4))
 have RB := Lib.hid (RB.out.setX (x := w1.heap.size) 4 (.slice a4 l1.length c4) HSB.out.2.2)
 have HV3 := Lib.hid (exsAt_stays (stays_setX _ (x := w1.heap.size) 4 (.slice a4 l1.length c4) (fun b hb => by have := hb.1; have := HSB.out; omega)) (fun b hb => hb) HV3.out)
 have HV4 := Lib.hid (stsAt_stays (stays_setX _ (x := w1.heap.size) 4 (.slice a4 l1.length c4) (fun b hb => by have := hb.1; have := HSB.out; omega)) (fun b hb => hb) HV4.out)
 have S : Hid (Own _ w1.heap.size 69 #[.int .u8 3, .string ⟨#[]⟩, .string ⟨#[]⟩, .slice a3 1 c3, .slice a4 l1.length c4, .slice none 0 0, .int .i64 p]) := S.out.setJ 4 (.slice a4 l1.length c4)
 go_upto_region 7 with (fail)
 obtain ⟨V3, hV3⟩ : ∃ W, W = (w4.setCell ⟨w1.heap.size, 4, none⟩ (.slice a4 l1.length c4)) := ⟨_, rfl⟩
 rw [← hV3] at A RB S HV3 HV4 ⊢
 clear hV3
 clear sj sf slt
 go_wp2_with fail
 go_at_call 69
 refine (HEL.out _ (A.out.rs HS.out)).mono ?_
 rintro e w5 ⟨rfl, hf, hr⟩
 have A := Lib.hid (A.out.call hf hr)
 have RB := Lib.hid (RB.out.fr hf (by have := hX.out; omega))
 have S := Lib.hid (S.out.fr hf (HSB.out.2.1))
 have HV3 := Lib.hid (exsAt_stays (stays_fr hf (fun b hb => by have := hb.1; have := HSB.out; have := hX.out; omega)) (fun b hb => hb) HV3.out)
 have HV4 := Lib.hid (stsAt_stays (stays_fr hf (fun b hb => by have := hb.1; have := HSB.out; have := hX.out; omega)) (fun b hb => hb) HV4.out)
 clear hf hr
 have hz := Keep.size A.out.fr
 have hsb := S.out.lt
 go_wp2_with fail
 go_at_call 189
 refine (HZR.out _ (A.out.rs HS.out)).mono ?_
 rintro e w6 ⟨hf, v, rfl, hV, hr⟩
 obtain ⟨a5, c5, rfl, hV⟩ := hV
 have HV5 := Lib.hid (stsAt_mono hV (R' := fun b => w1.heap.size < b ∧ True) (fun b hb => ⟨by omega, trivial⟩))
 clear hV hz hsb
 have A := Lib.hid (A.out.call hf hr)
 have RB := Lib.hid (RB.out.fr hf (by have := hX.out; omega))
 have S := Lib.hid (S.out.fr hf (HSB.out.2.1))
 have HV3 := Lib.hid (exsAt_stays (stays_fr hf (fun b hb => by have := hb.1; have := HSB.out; have := hX.out; omega)) (fun b hb => hb) HV3.out)
 have HV4 := Lib.hid (stsAt_stays (stays_fr hf (fun b hb => by have := hb.1; have := HSB.out; have := hX.out; omega)) (fun b hb => hb) HV4.out)
 clear hf hr
 have sj : w6.cell? ⟨w1.heap.size, 5, none⟩ = some (.slice none 0 0) := by rw [cell_of_row _ _ 5 _ _ _ S.out]; rfl
 have sf : w6.frozen? ⟨w1.heap.size, 5, none⟩ = false := own_frozen' S.out 5
 have slt := S.out.lt
 have A := Lib.hid (A.out.setOwn S.out HSB.out.1 HSB.out.2.1 5 (.slice a5 l2.length c5))
 have RB := Lib.hid (RB.out.setX (x := w1.heap.size) 5 (.slice a5 l2.length c5) HSB.out.2.2)
 have HV3 := Lib.hid (exsAt_stays (stays_setX _ (x := w1.heap.size) 5 (.slice a5 l2.length c5) (fun b hb => by have := hb.1; have := HSB.out; omega)) (fun b hb => hb) HV3.out)
 have HV4 := Lib.hid (stsAt_stays (stays_setX _ (x := w1.heap.size) 5 (.slice a5 l2.length c5) (fun b hb => by have := hb.1; have := HSB.out; omega)) (fun b hb => hb) HV4.out)
 have HV5 := Lib.hid (stsAt_stays (stays_setX _ (x := w1.heap.size) 5 (.slice a5 l2.length c5) (fun b hb => by have := hb.1; have := HSB.out; omega)) (fun b hb => hb) HV5.out)
 have S : Hid (Own _ w1.heap.size 69 #[.int .u8 3, .string ⟨#[]⟩, .string ⟨#[]⟩, .slice a3 1 c3, .slice a4 l1.length c4, .slice a5 l2.length c5, .int .i64 p]) := S.out.setJ 5 (.slice a5 l2.length c5)
 go_upto_region 25 with (fail)
 obtain ⟨V4, hV4⟩ : ∃ W, W = (w6.setCell ⟨w1.heap.size, 5, none⟩ (.slice a5 l2.length c5)) := ⟨_, rfl⟩
 rw [← hV4] at A RB S HV3 HV4 HV5 ⊢
 clear hV4
 clear sj sf slt
 have s0 := S.out
 have r0 := RB.out
 go_wp2_with (first | (refine ld rowSt rfl rfl rfl s0 rfl ?_) | (refine st rowSt rfl rfl r0 rfl rfl (by rfl) (by rfl) (by kernel_rfl) ?_))
 have A := A.out.setRow (g := w.heap.size) (Nat.le_refl _) (by have := hX.out; omega) #[.int .u8 3, .string ⟨#[]⟩, .string ⟨#[]⟩, .slice a3 1 c3, .slice a4 l1.length c4, .slice a5 l2.length c5, .int .i64 p]
 refine p_ret rowSt rfl (r0.row #[.int .u8 3, .string ⟨#[]⟩, .string ⟨#[]⟩, .slice a3 1 c3, .slice a4 l1.length c4, .slice a5 l2.length c5, .int .i64 p]) rfl rfl rfl ?_
 exact ⟨A.fr, _, rfl, ⟨_, _, _, _, _, _, rfl, exsAt_mono (exsAt_stays (stays_row _ (g := w.heap.size) _ (fun b hb => by have := hb.1; have := HSB.out; omega)) (fun b hb => hb) HV3.out) (fun b hb => by have := hb.1; have := HSB.out; omega), stsAt_mono (stsAt_stays (stays_row _ (g := w.heap.size) _ (fun b hb => by have := hb.1; have := HSB.out; omega)) (fun b hb => hb) HV4.out) (fun b hb => by have := hb.1; have := HSB.out; omega), stsAt_mono (stsAt_stays (stays_row _ (g := w.heap.size) _ (fun b hb => by have := hb.1; have := HSB.out; omega)) (fun b hb => hb) HV5.out) (fun b hb => by have := hb.1; have := HSB.out; omega)⟩, A.rs HS.out⟩
theorem rs_if {c : Par} {w : World} {σ : Sr} {d : Int} {X : Ex × Sr} {Y : List St × Sr} (R : Rs c w σ) (hd0 : 0 ≤ d) (hd1 : d ≤ 64) (hif : σ.has c.L [105, 102] = true) (HX : ∀ W, Rs c W σ.step → Calls Tryz.prog 188 #[c.ptr] W (RsPost c W X (fun e v W' => exsVal W.heap.size [e] v W'))) (HY : ∀ W, Rs c W X.2 → Calls Tryz.prog 189 #[c.ptr, .int .i64 d] W (RsPost c W Y (fun l v W' => stsVal W.heap.size l v W'))) (hels : Y.2.has c.L [101, 108, 115, 101] = false) :
 Calls Tryz.prog 163 #[c.ptr, .int .i64 d] w (RsPost c w (St.mk 3 ⟨#[]⟩ ⟨#[]⟩ [X.1] Y.1 [] (hereM c.L σ.ts).pos, Y.2) (stW w.heap.size)) := by
 have HXR : Hid ( ∀ W, Rs c W σ.step → Calls Tryz.prog 188 #[c.ptr] W (RsPost c W X (fun e v W' => exsVal W.heap.size [e] v W'))) := HX
 have HYR : Hid ( ∀ W, Rs c W X.2 → Calls Tryz.prog 189 #[c.ptr, .int .i64 d] W (RsPost c W Y (fun l v W' => stsVal W.heap.size l v W'))) := HY
 have HEL : Hid (∀ W, Rs c W Y.2 → Calls Tryz.prog 69 #[c.ptr, .string ⟨#[101, 108, 115, 101]⟩] W fun e w' => e = .returned (.bool false) ∧ Fr c W w' ∧ Rs c w' Y.2) := fun W R => take_isnt R hels
 obtain ⟨t, ht⟩ : ∃ t, t = hereM c.L σ.ts := ⟨_, rfl⟩
 have HH : Hid (∀ W, Rs c W σ → Calls Tryz.prog 121 #[c.ptr] W fun e w' => e = .returned (tkV t) ∧ Below W.heap.size W w') := fun W R => by rw [ht]; exact r_hereS R
 have HTif : Hid (∀ W, Rs c W σ → Calls Tryz.prog 69 #[c.ptr, .string ⟨#[105, 102]⟩] W fun e w' => e = .returned (.bool true) ∧ Fr c W w' ∧ Rs c w' σ.step) := fun W R => take_is R hif
 rw [← ht]
 have HS := Lib.hid R.s
 have hX := Lib.hid R.lt
 have A := Lib.hid (R.as.alloc (.cells zSt 69))
 have RB := Lib.hid (Own.new w 69 zSt)
 clear ht R hif HX HY hels
 obtain ⟨tk, tx, tw, p⟩ := t
 obtain ⟨e0, σ2⟩ := X
 obtain ⟨l1, σ3⟩ := Y
 unfold tkV Par.ptr zSt at *
 have F3 : ∀ (a b c d : Value) (w : World), (Instr.field 108 (.agg #[a, b, c, d]) 3).run Tryz.prog w = .ok d w := fun a b c d w => by kernel_rfl
 go_enter Tryz.func163, Tryz.ntmps163
 go_wp2_with fail
 go_at_call 121
 refine (HH.out _ (A.out.rs HS.out)).mono ?_
 rintro e w1 ⟨rfl, hb⟩
 have A := Lib.hid (A.out.below hb)
 have RB := Lib.hid (RB.out.below hb)
 clear hb
 have HSB : Hid (w.heap.size ≤ w1.heap.size ∧ c.X ≠ w1.heap.size ∧ w1.heap.size ≠ w.heap.size) := by have := RB.out.lt; have := hX.out; simp only [Hid]; omega
 have A := Lib.hid (A.out.alloc (.cells #[.int .u8 0, .string ⟨#[]⟩, .string ⟨#[]⟩, .slice none 0 0, .slice none 0 0, .slice none 0 0, .int .i64 p] 69))
 have RB := Lib.hid (RB.out.alloc (.cells #[.int .u8 0, .string ⟨#[]⟩, .string ⟨#[]⟩, .slice none 0 0, .slice none 0 0, .slice none 0 0, .int .i64 p] 69))
 have S := Lib.hid (Own.new w1 69 #[.int .u8 0, .string ⟨#[]⟩, .string ⟨#[]⟩, .slice none 0 0, .slice none 0 0, .slice none 0 0, .int .i64 p])
 go_upto_region 3 with (fail)
 obtain ⟨V0, hV0⟩ : ∃ W, W = w1.alloc (.cells #[.int .u8 0, .string ⟨#[]⟩, .string ⟨#[]⟩, .slice none 0 0, .slice none 0 0, .slice none 0 0, .int .i64 p] 69) := ⟨_, rfl⟩
 rw [← hV0] at A RB S ⊢
 clear hV0
 go_wp2_with fail
 go_at_call 69
 refine (HTif.out _ (A.out.rs HS.out)).mono ?_
 rintro e w2 ⟨rfl, hf, hr⟩
 have A := Lib.hid (A.out.call hf hr)
 have RB := Lib.hid (RB.out.fr hf (by have := hX.out; omega))
 have S := Lib.hid (S.out.fr hf (HSB.out.2.1))
 clear hf hr
 have sj : w2.cell? ⟨w1.heap.size, 0, none⟩ = some (.int .u8 0) := by rw [cell_of_row _ _ 0 _ _ _ S.out]; rfl
 have sf : w2.frozen? ⟨w1.heap.size, 0, none⟩ = false := own_frozen' S.out 0
 have slt := S.out.lt
 have A := Lib.hid (A.out.setOwn S.out HSB.out.1 HSB.out.2.1 0 (.int .u8 3))
 have RB := Lib.hid (RB.out.setX (x := w1.heap.size) 0 (.int .u8 3) HSB.out.2.2)
 have S : Hid (Own _ w1.heap.size 69 #[.int .u8 3, .string ⟨#[]⟩, .string ⟨#[]⟩, .slice none 0 0, .slice none 0 0, .slice none 0 0, .int .i64 p]) := S.out.setJ 0 (.int .u8 3)
 go_upto_region 5 with (fail)
 obtain ⟨V1, hV1⟩ : ∃ W, W = (w2.setCell ⟨w1.heap.size, 0, none⟩ (.int .u8 3)) := ⟨_, rfl⟩
 rw [← hV1] at A RB S ⊢
 clear hV1
 clear sj sf slt
 have hz := Keep.size A.out.fr
 have hsb := S.out.lt
 go_wp2_with fail
 go_at_call 188
 refine (HXR.out _ (A.out.rs HS.out)).mono ?_
 rintro e w3 ⟨hf, v, rfl, hV, hr⟩
 obtain ⟨a3, c3, rfl, hV⟩ := hV
 have HV3 := Lib.hid (exsAt_mono hV (R' := fun b => w1.heap.size < b ∧ True) (fun b hb => ⟨by omega, trivial⟩))
 clear hV hz hsb
 have A := Lib.hid (A.out.call hf hr)
 have RB := Lib.hid (RB.out.fr hf (by have := hX.out; omega))
 have S := Lib.hid (S.out.fr hf (HSB.out.2.1))
 clear hf hr
 have sj : w3.cell? ⟨w1.heap.size, 3, none⟩ = some (.slice none 0 0) := by rw [cell_of_row _ _ 3 _ _ _ S.out]; rfl
 have sf : w3.frozen? ⟨w1.heap.size, 3, none⟩ = false := own_frozen' S.out 3
 have slt := S.out.lt
 have A := Lib.hid (A.out.setOwn S.out HSB.out.1 HSB.out.2.1 3 (.slice a3 1 c3))
 have RB := Lib.hid (RB.out.setX (x := w1.heap.size) 3 (.slice a3 1 c3) HSB.out.2.2)
 have HV3 := Lib.hid (exsAt_stays (stays_setX _ (x := w1.heap.size) 3 (.slice a3 1 c3) (fun b hb => by have := hb.1; have := HSB.out; omega)) (fun b hb => hb) HV3.out)
 have S : Hid (Own _ w1.heap.size 69 #[.int .u8 3, .string ⟨#[]⟩, .string ⟨#[]⟩, .slice a3 1 c3, .slice none 0 0, .slice none 0 0, .int .i64 p]) := S.out.setJ 3 (.slice a3 1 c3)
 go_upto_region 6 with (fail)
 obtain ⟨V2, hV2⟩ : ∃ W, W = (w3.setCell ⟨w1.heap.size, 3, none⟩ (.slice a3 1 c3)) := ⟨_, rfl⟩
 rw [← hV2] at A RB S HV3 ⊢
 clear hV2
 clear sj sf slt
 have hz := Keep.size A.out.fr
 have hsb := S.out.lt
 go_wp2_with fail
 go_at_call 189
 refine (HYR.out _ (A.out.rs HS.out)).mono ?_
 rintro e w4 ⟨hf, v, rfl, hV, hr⟩
 obtain ⟨a4, c4, rfl, hV⟩ := hV
 have HV4 := Lib.hid (stsAt_mono hV (R' := fun b => w1.heap.size < b ∧ True) (fun b hb => ⟨by omega, trivial⟩))
 clear hV hz hsb
 have A := Lib.hid (A.out.call hf hr)
 have RB := Lib.hid (RB.out.fr hf (by have := hX.out; omega))
 have S := Lib.hid (S.out.fr hf (HSB.out.2.1))
 have HV3 := Lib.hid (exsAt_stays (stays_fr hf (fun b hb => by have := hb.1; have := HSB.out; have := hX.out; omega)) (fun b hb => hb) HV3.out)
 clear hf hr
 have sj : w4.cell? ⟨w1.heap.size, 4, none⟩ = some (.slice none 0 0) := by rw [cell_of_row _ _ 4 _ _ _ S.out]; rfl
 have sf : w4.frozen? ⟨w1.heap.size, 4, none⟩ = false := own_frozen' S.out 4
 have slt := S.out.lt
 have A := Lib.hid (A.out.setOwn S.out HSB.out.1 HSB.out.2.1 4 (.slice a4 l1.length c4))
 have RB := Lib.hid (RB.out.setX (x := w1.heap.size) 4 (.slice a4 l1.length c4) HSB.out.2.2)
 have HV3 := Lib.hid (exsAt_stays (stays_setX _ (x := w1.heap.size) 4 (.slice a4 l1.length c4) (fun b hb => by have := hb.1; have := HSB.out; omega)) (fun b hb => hb) HV3.out)
 have HV4 := Lib.hid (stsAt_stays (stays_setX _ (x := w1.heap.size) 4 (.slice a4 l1.length c4) (fun b hb => by have := hb.1; have := HSB.out; omega)) (fun b hb => hb) HV4.out)
 have S : Hid (Own _ w1.heap.size 69 #[.int .u8 3, .string ⟨#[]⟩, .string ⟨#[]⟩, .slice a3 1 c3, .slice a4 l1.length c4, .slice none 0 0, .int .i64 p]) := S.out.setJ 4 (.slice a4 l1.length c4)
 go_upto_region 7 with (fail)
 obtain ⟨V3, hV3⟩ : ∃ W, W = (w4.setCell ⟨w1.heap.size, 4, none⟩ (.slice a4 l1.length c4)) := ⟨_, rfl⟩
 rw [← hV3] at A RB S HV3 HV4 ⊢
 clear hV3
 clear sj sf slt
 go_wp2_with fail
 go_at_call 69
 refine (HEL.out _ (A.out.rs HS.out)).mono ?_
 rintro e w5 ⟨rfl, hf, hr⟩
 have A := Lib.hid (A.out.call hf hr)
 have RB := Lib.hid (RB.out.fr hf (by have := hX.out; omega))
 have S := Lib.hid (S.out.fr hf (HSB.out.2.1))
 have HV3 := Lib.hid (exsAt_stays (stays_fr hf (fun b hb => by have := hb.1; have := HSB.out; have := hX.out; omega)) (fun b hb => hb) HV3.out)
 have HV4 := Lib.hid (stsAt_stays (stays_fr hf (fun b hb => by have := hb.1; have := HSB.out; have := hX.out; omega)) (fun b hb => hb) HV4.out)
 clear hf hr
 have s0 := S.out
 have r0 := RB.out
 go_wp2_with (first | (refine ld rowSt rfl rfl rfl s0 rfl ?_) | (refine st rowSt rfl rfl r0 rfl rfl (by rfl) (by rfl) (by kernel_rfl) ?_))
 have A := A.out.setRow (g := w.heap.size) (Nat.le_refl _) (by have := hX.out; omega) #[.int .u8 3, .string ⟨#[]⟩, .string ⟨#[]⟩, .slice a3 1 c3, .slice a4 l1.length c4, .slice none 0 0, .int .i64 p]
 refine p_ret rowSt rfl (r0.row #[.int .u8 3, .string ⟨#[]⟩, .string ⟨#[]⟩, .slice a3 1 c3, .slice a4 l1.length c4, .slice none 0 0, .int .i64 p]) rfl rfl rfl ?_
 exact ⟨A.fr, _, rfl, ⟨_, _, _, _, _, _, rfl, exsAt_mono (exsAt_stays (stays_row _ (g := w.heap.size) _ (fun b hb => by have := hb.1; have := HSB.out; omega)) (fun b hb => hb) HV3.out) (fun b hb => by have := hb.1; have := HSB.out; omega), stsAt_mono (stsAt_stays (stays_row _ (g := w.heap.size) _ (fun b hb => by have := hb.1; have := HSB.out; omega)) (fun b hb => hb) HV4.out) (fun b hb => by have := hb.1; have := HSB.out; omega), .inl rfl⟩, A.rs HS.out⟩
theorem rs_while {c : Par} {w : World} {σ : Sr} {d : Int} {X : Ex × Sr} {Y : List St × Sr} (R : Rs c w σ) (hd0 : 0 ≤ d) (hd1 : d ≤ 64) (hif : σ.has c.L [105, 102] = false) (hwhile : σ.has c.L [119, 104, 105, 108, 101] = true) (HX : ∀ W, Rs c W σ.step → Calls Tryz.prog 188 #[c.ptr] W (RsPost c W X (fun e v W' => exsVal W.heap.size [e] v W'))) (HY : ∀ W, Rs c W X.2 → Calls Tryz.prog 189 #[c.ptr, .int .i64 d] W (RsPost c W Y (fun l v W' => stsVal W.heap.size l v W'))) :
 Calls Tryz.prog 163 #[c.ptr, .int .i64 d] w (RsPost c w (St.mk 4 ⟨#[]⟩ ⟨#[]⟩ [X.1] Y.1 [] (hereM c.L σ.ts).pos, Y.2) (stW w.heap.size)) := by
 have HXR : Hid ( ∀ W, Rs c W σ.step → Calls Tryz.prog 188 #[c.ptr] W (RsPost c W X (fun e v W' => exsVal W.heap.size [e] v W'))) := HX
 have HYR : Hid ( ∀ W, Rs c W X.2 → Calls Tryz.prog 189 #[c.ptr, .int .i64 d] W (RsPost c W Y (fun l v W' => stsVal W.heap.size l v W'))) := HY
 obtain ⟨t, ht⟩ : ∃ t, t = hereM c.L σ.ts := ⟨_, rfl⟩
 have HH : Hid (∀ W, Rs c W σ → Calls Tryz.prog 121 #[c.ptr] W fun e w' => e = .returned (tkV t) ∧ Below W.heap.size W w') := fun W R => by rw [ht]; exact r_hereS R
 have HTif : Hid (∀ W, Rs c W σ → Calls Tryz.prog 69 #[c.ptr, .string ⟨#[105, 102]⟩] W fun e w' => e = .returned (.bool false) ∧ Fr c W w' ∧ Rs c w' σ) := fun W R => take_isnt R hif
 have HTwhile : Hid (∀ W, Rs c W σ → Calls Tryz.prog 69 #[c.ptr, .string ⟨#[119, 104, 105, 108, 101]⟩] W fun e w' => e = .returned (.bool true) ∧ Fr c W w' ∧ Rs c w' σ.step) := fun W R => take_is R hwhile
 rw [← ht]
 have HS := Lib.hid R.s
 have hX := Lib.hid R.lt
 have A := Lib.hid (R.as.alloc (.cells zSt 69))
 have RB := Lib.hid (Own.new w 69 zSt)
 clear ht R hif hwhile HX HY
 obtain ⟨tk, tx, tw, p⟩ := t
 obtain ⟨e0, σ2⟩ := X
 obtain ⟨l1, σ3⟩ := Y
 unfold tkV Par.ptr zSt at *
 have F3 : ∀ (a b c d : Value) (w : World), (Instr.field 108 (.agg #[a, b, c, d]) 3).run Tryz.prog w = .ok d w := fun a b c d w => by kernel_rfl
 go_enter Tryz.func163, Tryz.ntmps163
 go_wp2_with fail
 go_at_call 121
 refine (HH.out _ (A.out.rs HS.out)).mono ?_
 rintro e w1 ⟨rfl, hb⟩
 have A := Lib.hid (A.out.below hb)
 have RB := Lib.hid (RB.out.below hb)
 clear hb
 have HSB : Hid (w.heap.size ≤ w1.heap.size ∧ c.X ≠ w1.heap.size ∧ w1.heap.size ≠ w.heap.size) := by have := RB.out.lt; have := hX.out; simp only [Hid]; omega
 have A := Lib.hid (A.out.alloc (.cells #[.int .u8 0, .string ⟨#[]⟩, .string ⟨#[]⟩, .slice none 0 0, .slice none 0 0, .slice none 0 0, .int .i64 p] 69))
 have RB := Lib.hid (RB.out.alloc (.cells #[.int .u8 0, .string ⟨#[]⟩, .string ⟨#[]⟩, .slice none 0 0, .slice none 0 0, .slice none 0 0, .int .i64 p] 69))
 have S := Lib.hid (Own.new w1 69 #[.int .u8 0, .string ⟨#[]⟩, .string ⟨#[]⟩, .slice none 0 0, .slice none 0 0, .slice none 0 0, .int .i64 p])
 go_upto_region 3 with (fail)
 obtain ⟨V0, hV0⟩ : ∃ W, W = w1.alloc (.cells #[.int .u8 0, .string ⟨#[]⟩, .string ⟨#[]⟩, .slice none 0 0, .slice none 0 0, .slice none 0 0, .int .i64 p] 69) := ⟨_, rfl⟩
 rw [← hV0] at A RB S ⊢
 clear hV0
 go_wp2_with fail
 go_at_call 69
 refine (HTif.out _ (A.out.rs HS.out)).mono ?_
 rintro e w2 ⟨rfl, hf, hr⟩
 have A := Lib.hid (A.out.call hf hr)
 have RB := Lib.hid (RB.out.fr hf (by have := hX.out; omega))
 have S := Lib.hid (S.out.fr hf (HSB.out.2.1))
 clear hf hr
 go_wp2_with fail
 go_at_call 69
 refine (HTwhile.out _ (A.out.rs HS.out)).mono ?_
 rintro e w3 ⟨rfl, hf, hr⟩
 have A := Lib.hid (A.out.call hf hr)
 have RB := Lib.hid (RB.out.fr hf (by have := hX.out; omega))
 have S := Lib.hid (S.out.fr hf (HSB.out.2.1))
 clear hf hr
 have sj : w3.cell? ⟨w1.heap.size, 0, none⟩ = some (.int .u8 0) := by rw [cell_of_row _ _ 0 _ _ _ S.out]; rfl
 have sf : w3.frozen? ⟨w1.heap.size, 0, none⟩ = false := own_frozen' S.out 0
 have slt := S.out.lt
 have A := Lib.hid (A.out.setOwn S.out HSB.out.1 HSB.out.2.1 0 (.int .u8 4))
 have RB := Lib.hid (RB.out.setX (x := w1.heap.size) 0 (.int .u8 4) HSB.out.2.2)
 have S : Hid (Own _ w1.heap.size 69 #[.int .u8 4, .string ⟨#[]⟩, .string ⟨#[]⟩, .slice none 0 0, .slice none 0 0, .slice none 0 0, .int .i64 p]) := S.out.setJ 0 (.int .u8 4)
 go_upto_region 11 with (fail)
 obtain ⟨V1, hV1⟩ : ∃ W, W = (w3.setCell ⟨w1.heap.size, 0, none⟩ (.int .u8 4)) := ⟨_, rfl⟩
 rw [← hV1] at A RB S ⊢
 clear hV1
 clear sj sf slt
 have hz := Keep.size A.out.fr
 have hsb := S.out.lt
 go_wp2_with fail
 go_at_call 188
 refine (HXR.out _ (A.out.rs HS.out)).mono ?_
 rintro e w4 ⟨hf, v, rfl, hV, hr⟩
 obtain ⟨a3, c3, rfl, hV⟩ := hV
 have HV3 := Lib.hid (exsAt_mono hV (R' := fun b => w1.heap.size < b ∧ True) (fun b hb => ⟨by omega, trivial⟩))
 clear hV hz hsb
 have A := Lib.hid (A.out.call hf hr)
 have RB := Lib.hid (RB.out.fr hf (by have := hX.out; omega))
 have S := Lib.hid (S.out.fr hf (HSB.out.2.1))
 clear hf hr
 have sj : w4.cell? ⟨w1.heap.size, 3, none⟩ = some (.slice none 0 0) := by rw [cell_of_row _ _ 3 _ _ _ S.out]; rfl
 have sf : w4.frozen? ⟨w1.heap.size, 3, none⟩ = false := own_frozen' S.out 3
 have slt := S.out.lt
 have A := Lib.hid (A.out.setOwn S.out HSB.out.1 HSB.out.2.1 3 (.slice a3 1 c3))
 have RB := Lib.hid (RB.out.setX (x := w1.heap.size) 3 (.slice a3 1 c3) HSB.out.2.2)
 have HV3 := Lib.hid (exsAt_stays (stays_setX _ (x := w1.heap.size) 3 (.slice a3 1 c3) (fun b hb => by have := hb.1; have := HSB.out; omega)) (fun b hb => hb) HV3.out)
 have S : Hid (Own _ w1.heap.size 69 #[.int .u8 4, .string ⟨#[]⟩, .string ⟨#[]⟩, .slice a3 1 c3, .slice none 0 0, .slice none 0 0, .int .i64 p]) := S.out.setJ 3 (.slice a3 1 c3)
 go_upto_region 12 with (fail)
 obtain ⟨V2, hV2⟩ : ∃ W, W = (w4.setCell ⟨w1.heap.size, 3, none⟩ (.slice a3 1 c3)) := ⟨_, rfl⟩
 rw [← hV2] at A RB S HV3 ⊢
 clear hV2
 clear sj sf slt
 have hz := Keep.size A.out.fr
 have hsb := S.out.lt
 go_wp2_with fail
 go_at_call 189
 refine (HYR.out _ (A.out.rs HS.out)).mono ?_
 rintro e w5 ⟨hf, v, rfl, hV, hr⟩
 obtain ⟨a4, c4, rfl, hV⟩ := hV
 have HV4 := Lib.hid (stsAt_mono hV (R' := fun b => w1.heap.size < b ∧ True) (fun b hb => ⟨by omega, trivial⟩))
 clear hV hz hsb
 have A := Lib.hid (A.out.call hf hr)
 have RB := Lib.hid (RB.out.fr hf (by have := hX.out; omega))
 have S := Lib.hid (S.out.fr hf (HSB.out.2.1))
 have HV3 := Lib.hid (exsAt_stays (stays_fr hf (fun b hb => by have := hb.1; have := HSB.out; have := hX.out; omega)) (fun b hb => hb) HV3.out)
 clear hf hr
 have sj : w5.cell? ⟨w1.heap.size, 4, none⟩ = some (.slice none 0 0) := by rw [cell_of_row _ _ 4 _ _ _ S.out]; rfl
 have sf : w5.frozen? ⟨w1.heap.size, 4, none⟩ = false := own_frozen' S.out 4
 have slt := S.out.lt
 have A := Lib.hid (A.out.setOwn S.out HSB.out.1 HSB.out.2.1 4 (.slice a4 l1.length c4))
 have RB := Lib.hid (RB.out.setX (x := w1.heap.size) 4 (.slice a4 l1.length c4) HSB.out.2.2)
 have HV3 := Lib.hid (exsAt_stays (stays_setX _ (x := w1.heap.size) 4 (.slice a4 l1.length c4) (fun b hb => by have := hb.1; have := HSB.out; omega)) (fun b hb => hb) HV3.out)
 have HV4 := Lib.hid (stsAt_stays (stays_setX _ (x := w1.heap.size) 4 (.slice a4 l1.length c4) (fun b hb => by have := hb.1; have := HSB.out; omega)) (fun b hb => hb) HV4.out)
 have S : Hid (Own _ w1.heap.size 69 #[.int .u8 4, .string ⟨#[]⟩, .string ⟨#[]⟩, .slice a3 1 c3, .slice a4 l1.length c4, .slice none 0 0, .int .i64 p]) := S.out.setJ 4 (.slice a4 l1.length c4)
 go_upto_region 25 with (fail)
 obtain ⟨V3, hV3⟩ : ∃ W, W = (w5.setCell ⟨w1.heap.size, 4, none⟩ (.slice a4 l1.length c4)) := ⟨_, rfl⟩
 rw [← hV3] at A RB S HV3 HV4 ⊢
 clear hV3
 clear sj sf slt
 have s0 := S.out
 have r0 := RB.out
 go_wp2_with (first | (refine ld rowSt rfl rfl rfl s0 rfl ?_) | (refine st rowSt rfl rfl r0 rfl rfl (by rfl) (by rfl) (by kernel_rfl) ?_))
 have A := A.out.setRow (g := w.heap.size) (Nat.le_refl _) (by have := hX.out; omega) #[.int .u8 4, .string ⟨#[]⟩, .string ⟨#[]⟩, .slice a3 1 c3, .slice a4 l1.length c4, .slice none 0 0, .int .i64 p]
 refine p_ret rowSt rfl (r0.row #[.int .u8 4, .string ⟨#[]⟩, .string ⟨#[]⟩, .slice a3 1 c3, .slice a4 l1.length c4, .slice none 0 0, .int .i64 p]) rfl rfl rfl ?_
 exact ⟨A.fr, _, rfl, ⟨_, _, _, _, _, _, rfl, exsAt_mono (exsAt_stays (stays_row _ (g := w.heap.size) _ (fun b hb => by have := hb.1; have := HSB.out; omega)) (fun b hb => hb) HV3.out) (fun b hb => by have := hb.1; have := HSB.out; omega), stsAt_mono (stsAt_stays (stays_row _ (g := w.heap.size) _ (fun b hb => by have := hb.1; have := HSB.out; omega)) (fun b hb => hb) HV4.out) (fun b hb => by have := hb.1; have := HSB.out; omega), .inl rfl⟩, A.rs HS.out⟩
theorem rs_lock {c : Par} {w : World} {σ : Sr} {d : Int} {Y : List St × Sr} (R : Rs c w σ) (hd0 : 0 ≤ d) (hd1 : d ≤ 64) (hif : σ.has c.L [105, 102] = false) (hwhile : σ.has c.L [119, 104, 105, 108, 101] = false) (hlock : σ.has c.L [108, 111, 99, 107] = true) (HY : ∀ W, Rs c W (nameM c.L σ.step).2 → Calls Tryz.prog 189 #[c.ptr, .int .i64 d] W (RsPost c W Y (fun l v W' => stsVal W.heap.size l v W'))) :
 Calls Tryz.prog 163 #[c.ptr, .int .i64 d] w (RsPost c w (St.mk 5 (nameM c.L σ.step).1.name ⟨#[]⟩ [] Y.1 [] (hereM c.L σ.ts).pos, Y.2) (stW w.heap.size)) := by
 obtain ⟨Z1, hZ1⟩ : ∃ Z1, Z1 = nameM c.L σ.step := ⟨_, rfl⟩
 have HN1 : Hid (∀ W, Rs c W σ.step → Calls Tryz.prog 120 #[c.ptr] W fun e w' => Fr c W w' ∧ e = .returned (.tuple #[.string Z1.1.name, .int .i64 Z1.1.pos]) ∧ Rs c w' Z1.2) := fun W R => by rw [hZ1]; exact r_name R
 have HYR : Hid (∀ W, Rs c W Z1.2 → Calls Tryz.prog 189 #[c.ptr, .int .i64 d] W (RsPost c W Y (fun l v W' => stsVal W.heap.size l v W'))) := fun W R => HY W (by rw [hZ1] at R; exact R)
 obtain ⟨t, ht⟩ : ∃ t, t = hereM c.L σ.ts := ⟨_, rfl⟩
 have HH : Hid (∀ W, Rs c W σ → Calls Tryz.prog 121 #[c.ptr] W fun e w' => e = .returned (tkV t) ∧ Below W.heap.size W w') := fun W R => by rw [ht]; exact r_hereS R
 have HTif : Hid (∀ W, Rs c W σ → Calls Tryz.prog 69 #[c.ptr, .string ⟨#[105, 102]⟩] W fun e w' => e = .returned (.bool false) ∧ Fr c W w' ∧ Rs c w' σ) := fun W R => take_isnt R hif
 have HTwhile : Hid (∀ W, Rs c W σ → Calls Tryz.prog 69 #[c.ptr, .string ⟨#[119, 104, 105, 108, 101]⟩] W fun e w' => e = .returned (.bool false) ∧ Fr c W w' ∧ Rs c w' σ) := fun W R => take_isnt R hwhile
 have HTlock : Hid (∀ W, Rs c W σ → Calls Tryz.prog 69 #[c.ptr, .string ⟨#[108, 111, 99, 107]⟩] W fun e w' => e = .returned (.bool true) ∧ Fr c W w' ∧ Rs c w' σ.step) := fun W R => take_is R hlock
 rw [← ht]
 have HS := Lib.hid R.s
 have hX := Lib.hid R.lt
 have A := Lib.hid (R.as.alloc (.cells zSt 69))
 have RB := Lib.hid (Own.new w 69 zSt)
 rw [← hZ1]
 clear ht R hif hwhile hlock HY hZ1
 obtain ⟨tk, tx, tw, p⟩ := t
 obtain ⟨⟨nm1, wd1, ps1⟩, σ2⟩ := Z1
 obtain ⟨l1, σ3⟩ := Y
 unfold tkV Par.ptr zSt at *
 have F3 : ∀ (a b c d : Value) (w : World), (Instr.field 108 (.agg #[a, b, c, d]) 3).run Tryz.prog w = .ok d w := fun a b c d w => by kernel_rfl
 go_enter Tryz.func163, Tryz.ntmps163
 go_wp2_with fail
 go_at_call 121
 refine (HH.out _ (A.out.rs HS.out)).mono ?_
 rintro e w1 ⟨rfl, hb⟩
 have A := Lib.hid (A.out.below hb)
 have RB := Lib.hid (RB.out.below hb)
 clear hb
 have HSB : Hid (w.heap.size ≤ w1.heap.size ∧ c.X ≠ w1.heap.size ∧ w1.heap.size ≠ w.heap.size) := by have := RB.out.lt; have := hX.out; simp only [Hid]; omega
 have A := Lib.hid (A.out.alloc (.cells #[.int .u8 0, .string ⟨#[]⟩, .string ⟨#[]⟩, .slice none 0 0, .slice none 0 0, .slice none 0 0, .int .i64 p] 69))
 have RB := Lib.hid (RB.out.alloc (.cells #[.int .u8 0, .string ⟨#[]⟩, .string ⟨#[]⟩, .slice none 0 0, .slice none 0 0, .slice none 0 0, .int .i64 p] 69))
 have S := Lib.hid (Own.new w1 69 #[.int .u8 0, .string ⟨#[]⟩, .string ⟨#[]⟩, .slice none 0 0, .slice none 0 0, .slice none 0 0, .int .i64 p])
 go_upto_region 3 with (fail)
 obtain ⟨V0, hV0⟩ : ∃ W, W = w1.alloc (.cells #[.int .u8 0, .string ⟨#[]⟩, .string ⟨#[]⟩, .slice none 0 0, .slice none 0 0, .slice none 0 0, .int .i64 p] 69) := ⟨_, rfl⟩
 rw [← hV0] at A RB S ⊢
 clear hV0
 go_wp2_with fail
 go_at_call 69
 refine (HTif.out _ (A.out.rs HS.out)).mono ?_
 rintro e w2 ⟨rfl, hf, hr⟩
 have A := Lib.hid (A.out.call hf hr)
 have RB := Lib.hid (RB.out.fr hf (by have := hX.out; omega))
 have S := Lib.hid (S.out.fr hf (HSB.out.2.1))
 clear hf hr
 go_wp2_with fail
 go_at_call 69
 refine (HTwhile.out _ (A.out.rs HS.out)).mono ?_
 rintro e w3 ⟨rfl, hf, hr⟩
 have A := Lib.hid (A.out.call hf hr)
 have RB := Lib.hid (RB.out.fr hf (by have := hX.out; omega))
 have S := Lib.hid (S.out.fr hf (HSB.out.2.1))
 clear hf hr
 go_wp2_with fail
 go_at_call 69
 refine (HTlock.out _ (A.out.rs HS.out)).mono ?_
 rintro e w4 ⟨rfl, hf, hr⟩
 have A := Lib.hid (A.out.call hf hr)
 have RB := Lib.hid (RB.out.fr hf (by have := hX.out; omega))
 have S := Lib.hid (S.out.fr hf (HSB.out.2.1))
 clear hf hr
 have sj : w4.cell? ⟨w1.heap.size, 0, none⟩ = some (.int .u8 0) := by rw [cell_of_row _ _ 0 _ _ _ S.out]; rfl
 have sf : w4.frozen? ⟨w1.heap.size, 0, none⟩ = false := own_frozen' S.out 0
 have slt := S.out.lt
 have A := Lib.hid (A.out.setOwn S.out HSB.out.1 HSB.out.2.1 0 (.int .u8 5))
 have RB := Lib.hid (RB.out.setX (x := w1.heap.size) 0 (.int .u8 5) HSB.out.2.2)
 have S : Hid (Own _ w1.heap.size 69 #[.int .u8 5, .string ⟨#[]⟩, .string ⟨#[]⟩, .slice none 0 0, .slice none 0 0, .slice none 0 0, .int .i64 p]) := S.out.setJ 0 (.int .u8 5)
 go_upto_region 15 with (fail)
 obtain ⟨V1, hV1⟩ : ∃ W, W = (w4.setCell ⟨w1.heap.size, 0, none⟩ (.int .u8 5)) := ⟨_, rfl⟩
 rw [← hV1] at A RB S ⊢
 clear hV1
 clear sj sf slt
 go_wp2_with fail
 go_at_call 120
 refine (HN1.out _ (A.out.rs HS.out)).mono ?_
 rintro e w5 ⟨hf, rfl, hr⟩
 have A := Lib.hid (A.out.call hf hr)
 have RB := Lib.hid (RB.out.fr hf (by have := hX.out; omega))
 have S := Lib.hid (S.out.fr hf (HSB.out.2.1))
 clear hf hr
 have sj : w5.cell? ⟨w1.heap.size, 1, none⟩ = some (.string ⟨#[]⟩) := by rw [cell_of_row _ _ 1 _ _ _ S.out]; rfl
 have sf : w5.frozen? ⟨w1.heap.size, 1, none⟩ = false := own_frozen' S.out 1
 have slt := S.out.lt
 have A := Lib.hid (A.out.setOwn S.out HSB.out.1 HSB.out.2.1 1 (.string nm1))
 have RB := Lib.hid (RB.out.setX (x := w1.heap.size) 1 (.string nm1) HSB.out.2.2)
 have S : Hid (Own _ w1.heap.size 69 #[.int .u8 5, .string nm1, .string ⟨#[]⟩, .slice none 0 0, .slice none 0 0, .slice none 0 0, .int .i64 p]) := S.out.setJ 1 (.string nm1)
 go_upto_region 17 with (fail)
 obtain ⟨V2, hV2⟩ : ∃ W, W = (w5.setCell ⟨w1.heap.size, 1, none⟩ (.string nm1)) := ⟨_, rfl⟩
 rw [← hV2] at A RB S ⊢
 clear hV2
 clear sj sf slt
 have hz := Keep.size A.out.fr
 have hsb := S.out.lt
 go_wp2_with fail
 go_at_call 189
 refine (HYR.out _ (A.out.rs HS.out)).mono ?_
 rintro e w6 ⟨hf, v, rfl, hV, hr⟩
 obtain ⟨a4, c4, rfl, hV⟩ := hV
 have HV4 := Lib.hid (stsAt_mono hV (R' := fun b => w1.heap.size < b ∧ True) (fun b hb => ⟨by omega, trivial⟩))
 clear hV hz hsb
 have A := Lib.hid (A.out.call hf hr)
 have RB := Lib.hid (RB.out.fr hf (by have := hX.out; omega))
 have S := Lib.hid (S.out.fr hf (HSB.out.2.1))
 clear hf hr
 have sj : w6.cell? ⟨w1.heap.size, 4, none⟩ = some (.slice none 0 0) := by rw [cell_of_row _ _ 4 _ _ _ S.out]; rfl
 have sf : w6.frozen? ⟨w1.heap.size, 4, none⟩ = false := own_frozen' S.out 4
 have slt := S.out.lt
 have A := Lib.hid (A.out.setOwn S.out HSB.out.1 HSB.out.2.1 4 (.slice a4 l1.length c4))
 have RB := Lib.hid (RB.out.setX (x := w1.heap.size) 4 (.slice a4 l1.length c4) HSB.out.2.2)
 have HV4 := Lib.hid (stsAt_stays (stays_setX _ (x := w1.heap.size) 4 (.slice a4 l1.length c4) (fun b hb => by have := hb.1; have := HSB.out; omega)) (fun b hb => hb) HV4.out)
 have S : Hid (Own _ w1.heap.size 69 #[.int .u8 5, .string nm1, .string ⟨#[]⟩, .slice none 0 0, .slice a4 l1.length c4, .slice none 0 0, .int .i64 p]) := S.out.setJ 4 (.slice a4 l1.length c4)
 go_upto_region 25 with (fail)
 obtain ⟨V3, hV3⟩ : ∃ W, W = (w6.setCell ⟨w1.heap.size, 4, none⟩ (.slice a4 l1.length c4)) := ⟨_, rfl⟩
 rw [← hV3] at A RB S HV4 ⊢
 clear hV3
 clear sj sf slt
 have s0 := S.out
 have r0 := RB.out
 go_wp2_with (first | (refine ld rowSt rfl rfl rfl s0 rfl ?_) | (refine st rowSt rfl rfl r0 rfl rfl (by rfl) (by rfl) (by kernel_rfl) ?_))
 have A := A.out.setRow (g := w.heap.size) (Nat.le_refl _) (by have := hX.out; omega) #[.int .u8 5, .string nm1, .string ⟨#[]⟩, .slice none 0 0, .slice a4 l1.length c4, .slice none 0 0, .int .i64 p]
 refine p_ret rowSt rfl (r0.row #[.int .u8 5, .string nm1, .string ⟨#[]⟩, .slice none 0 0, .slice a4 l1.length c4, .slice none 0 0, .int .i64 p]) rfl rfl rfl ?_
 exact ⟨A.fr, _, rfl, ⟨_, _, _, _, _, _, rfl, .inl rfl, stsAt_mono (stsAt_stays (stays_row _ (g := w.heap.size) _ (fun b hb => by have := hb.1; have := HSB.out; omega)) (fun b hb => hb) HV4.out) (fun b hb => by have := hb.1; have := HSB.out; omega), .inl rfl⟩, A.rs HS.out⟩
theorem rs_print {c : Par} {w : World} {σ : Sr} {d : Int} {X : Ex × Sr} (R : Rs c w σ) (hd0 : 0 ≤ d) (hd1 : d ≤ 64) (hif : σ.has c.L [105, 102] = false) (hwhile : σ.has c.L [119, 104, 105, 108, 101] = false) (hlock : σ.has c.L [108, 111, 99, 107] = false) (hprint : σ.has c.L [112, 114, 105, 110, 116] = true) (HX : ∀ W, Rs c W σ.step → Calls Tryz.prog 190 #[c.ptr, .int .i64 1, .int .i64 0] W (RsPost c W X (exR W.heap.size))) :
 Calls Tryz.prog 163 #[c.ptr, .int .i64 d] w (RsPost c w (St.mk 6 ⟨#[]⟩ ⟨#[]⟩ [X.1] [] [] (hereM c.L σ.ts).pos, X.2.want c.L [59]) (stW w.heap.size)) := by
 have HEX : Hid (∀ W, Rs c W σ.step → Calls Tryz.prog 190 #[c.ptr, .int .i64 1, .int .i64 0] W (RsPost c W X (exR W.heap.size))) := HX
 obtain ⟨σ9, hσ9⟩ : ∃ σ9, σ9 = X.2.want c.L [59] := ⟨_, rfl⟩
 have HW5 : Hid (∀ W, Rs c W X.2 → Calls Tryz.prog 123 #[c.ptr, .string ⟨#[59]⟩] W fun e w' => e = .returned (.tuple #[]) ∧ Fr c W w' ∧ Rs c w' σ9) := fun W R => by rw [hσ9]; exact r_want R ⟨#[59]⟩
 obtain ⟨t, ht⟩ : ∃ t, t = hereM c.L σ.ts := ⟨_, rfl⟩
 have HH : Hid (∀ W, Rs c W σ → Calls Tryz.prog 121 #[c.ptr] W fun e w' => e = .returned (tkV t) ∧ Below W.heap.size W w') := fun W R => by rw [ht]; exact r_hereS R
 have HTif : Hid (∀ W, Rs c W σ → Calls Tryz.prog 69 #[c.ptr, .string ⟨#[105, 102]⟩] W fun e w' => e = .returned (.bool false) ∧ Fr c W w' ∧ Rs c w' σ) := fun W R => take_isnt R hif
 have HTwhile : Hid (∀ W, Rs c W σ → Calls Tryz.prog 69 #[c.ptr, .string ⟨#[119, 104, 105, 108, 101]⟩] W fun e w' => e = .returned (.bool false) ∧ Fr c W w' ∧ Rs c w' σ) := fun W R => take_isnt R hwhile
 have HTlock : Hid (∀ W, Rs c W σ → Calls Tryz.prog 69 #[c.ptr, .string ⟨#[108, 111, 99, 107]⟩] W fun e w' => e = .returned (.bool false) ∧ Fr c W w' ∧ Rs c w' σ) := fun W R => take_isnt R hlock
 have HTprint : Hid (∀ W, Rs c W σ → Calls Tryz.prog 69 #[c.ptr, .string ⟨#[112, 114, 105, 110, 116]⟩] W fun e w' => e = .returned (.bool true) ∧ Fr c W w' ∧ Rs c w' σ.step) := fun W R => take_is R hprint
 rw [← ht]
 have HS := Lib.hid R.s
 have hX := Lib.hid R.lt
 have A := Lib.hid (R.as.alloc (.cells zSt 69))
 have RB := Lib.hid (Own.new w 69 zSt)
 rw [← hσ9]
 clear ht R hif hwhile hlock hprint HX hσ9
 obtain ⟨tk, tx, tw, p⟩ := t
 obtain ⟨e0, σ7⟩ := X
 unfold tkV Par.ptr zSt at *
 have F3 : ∀ (a b c d : Value) (w : World), (Instr.field 108 (.agg #[a, b, c, d]) 3).run Tryz.prog w = .ok d w := fun a b c d w => by kernel_rfl
 go_enter Tryz.func163, Tryz.ntmps163
 go_wp2_with fail
 go_at_call 121
 refine (HH.out _ (A.out.rs HS.out)).mono ?_
 rintro e w1 ⟨rfl, hb⟩
 have A := Lib.hid (A.out.below hb)
 have RB := Lib.hid (RB.out.below hb)
 clear hb
 have HSB : Hid (w.heap.size ≤ w1.heap.size ∧ c.X ≠ w1.heap.size ∧ w1.heap.size ≠ w.heap.size) := by have := RB.out.lt; have := hX.out; simp only [Hid]; omega
 have A := Lib.hid (A.out.alloc (.cells #[.int .u8 0, .string ⟨#[]⟩, .string ⟨#[]⟩, .slice none 0 0, .slice none 0 0, .slice none 0 0, .int .i64 p] 69))
 have RB := Lib.hid (RB.out.alloc (.cells #[.int .u8 0, .string ⟨#[]⟩, .string ⟨#[]⟩, .slice none 0 0, .slice none 0 0, .slice none 0 0, .int .i64 p] 69))
 have S := Lib.hid (Own.new w1 69 #[.int .u8 0, .string ⟨#[]⟩, .string ⟨#[]⟩, .slice none 0 0, .slice none 0 0, .slice none 0 0, .int .i64 p])
 go_upto_region 3 with (fail)
 obtain ⟨V0, hV0⟩ : ∃ W, W = w1.alloc (.cells #[.int .u8 0, .string ⟨#[]⟩, .string ⟨#[]⟩, .slice none 0 0, .slice none 0 0, .slice none 0 0, .int .i64 p] 69) := ⟨_, rfl⟩
 rw [← hV0] at A RB S ⊢
 clear hV0
 go_wp2_with fail
 go_at_call 69
 refine (HTif.out _ (A.out.rs HS.out)).mono ?_
 rintro e w2 ⟨rfl, hf, hr⟩
 have A := Lib.hid (A.out.call hf hr)
 have RB := Lib.hid (RB.out.fr hf (by have := hX.out; omega))
 have S := Lib.hid (S.out.fr hf (HSB.out.2.1))
 clear hf hr
 go_wp2_with fail
 go_at_call 69
 refine (HTwhile.out _ (A.out.rs HS.out)).mono ?_
 rintro e w3 ⟨rfl, hf, hr⟩
 have A := Lib.hid (A.out.call hf hr)
 have RB := Lib.hid (RB.out.fr hf (by have := hX.out; omega))
 have S := Lib.hid (S.out.fr hf (HSB.out.2.1))
 clear hf hr
 go_wp2_with fail
 go_at_call 69
 refine (HTlock.out _ (A.out.rs HS.out)).mono ?_
 rintro e w4 ⟨rfl, hf, hr⟩
 have A := Lib.hid (A.out.call hf hr)
 have RB := Lib.hid (RB.out.fr hf (by have := hX.out; omega))
 have S := Lib.hid (S.out.fr hf (HSB.out.2.1))
 clear hf hr
 go_wp2_with fail
 go_at_call 69
 refine (HTprint.out _ (A.out.rs HS.out)).mono ?_
 rintro e w5 ⟨rfl, hf, hr⟩
 have A := Lib.hid (A.out.call hf hr)
 have RB := Lib.hid (RB.out.fr hf (by have := hX.out; omega))
 have S := Lib.hid (S.out.fr hf (HSB.out.2.1))
 clear hf hr
 have sj : w5.cell? ⟨w1.heap.size, 0, none⟩ = some (.int .u8 0) := by rw [cell_of_row _ _ 0 _ _ _ S.out]; rfl
 have sf : w5.frozen? ⟨w1.heap.size, 0, none⟩ = false := own_frozen' S.out 0
 have slt := S.out.lt
 have A := Lib.hid (A.out.setOwn S.out HSB.out.1 HSB.out.2.1 0 (.int .u8 6))
 have RB := Lib.hid (RB.out.setX (x := w1.heap.size) 0 (.int .u8 6) HSB.out.2.2)
 have S : Hid (Own _ w1.heap.size 69 #[.int .u8 6, .string ⟨#[]⟩, .string ⟨#[]⟩, .slice none 0 0, .slice none 0 0, .slice none 0 0, .int .i64 p]) := S.out.setJ 0 (.int .u8 6)
 go_upto_region 20 with (fail)
 obtain ⟨V1, hV1⟩ : ∃ W, W = (w5.setCell ⟨w1.heap.size, 0, none⟩ (.int .u8 6)) := ⟨_, rfl⟩
 rw [← hV1] at A RB S ⊢
 clear hV1
 clear sj sf slt
 have HLOW : Hid (w1.heap.size < V1.heap.size) := S.out.lt
 have hz := Keep.size A.out.fr
 have hsb := S.out.lt
 have hrb := RB.out.lt
 go_wp2_with fail
 go_at_call 190
 refine (HEX.out _ (A.out.rs HS.out)).mono ?_
 rintro e w6 ⟨hf, v, rfl, ⟨a4, cap4, rfl, hV⟩, hr⟩
 have HV0 := Lib.hid (exsAt_mono (exsAt_in hV) (R' := fun b => (w1.heap.size) < b ∧ b < w6.heap.size) (fun b hb => ⟨by have := hb.1; have := HLOW.out; omega, hb.2⟩))
 have hz2 := Keep.size hf
 clear hV
 have A := Lib.hid (A.out.call hf hr)
 have RB := Lib.hid (RB.out.fr hf (by have := hX.out; omega))
 have S := Lib.hid (S.out.fr hf (HSB.out.2.1))
 clear hf hr
 have HZE : Hid ((w1.heap.size) < w6.heap.size) := by have := HLOW.out; simp only [Hid]; omega
 clear hz hz2 hsb hrb
 have sj : w6.cell? ⟨w1.heap.size, 3, none⟩ = some (.slice none 0 0) := by rw [cell_of_row _ _ 3 _ _ _ S.out]; rfl
 have sf : w6.frozen? ⟨w1.heap.size, 3, none⟩ = false := own_frozen' S.out 3
 have slt := S.out.lt
 have A := Lib.hid (A.out.setOwn S.out HSB.out.1 HSB.out.2.1 3 (.slice (some ⟨w6.heap.size, 0, none⟩) 1 1))
 have RB := Lib.hid (RB.out.setX (x := w1.heap.size) 3 (.slice (some ⟨w6.heap.size, 0, none⟩) 1 1) HSB.out.2.2)
 have HV0 := Lib.hid (exsAt_stays (stays_setX _ (x := w1.heap.size) 3 (.slice (some ⟨w6.heap.size, 0, none⟩) 1 1) (fun b hb => by have := hb.1; have := HSB.out; omega)) (fun b hb => hb) HV0.out)
 have S : Hid (Own _ w1.heap.size 69 #[.int .u8 6, .string ⟨#[]⟩, .string ⟨#[]⟩, .slice (some ⟨w6.heap.size, 0, none⟩) 1 1, .slice none 0 0, .slice none 0 0, .int .i64 p]) := S.out.setJ 3 (.slice (some ⟨w6.heap.size, 0, none⟩) 1 1)
 have N0 := Own.new (w6.setCell ⟨w1.heap.size, 3, none⟩ (.slice (some ⟨w6.heap.size, 0, none⟩) 1 1)) 38 #[.int .u8 e0.kind, .int .u8 e0.op, .int .i64 e0.wd, .string e0.name, .slice a4 e0.kids.length cap4, .int .i64 e0.pos]
 rw [World.size_setCell] at N0
 have A := Lib.hid (A.out.alloc (.cells #[.int .u8 e0.kind, .int .u8 e0.op, .int .i64 e0.wd, .string e0.name, .slice a4 e0.kids.length cap4, .int .i64 e0.pos] 38))
 have RB := Lib.hid (RB.out.alloc (.cells #[.int .u8 e0.kind, .int .u8 e0.op, .int .i64 e0.wd, .string e0.name, .slice a4 e0.kids.length cap4, .int .i64 e0.pos] 38))
 have S := Lib.hid (S.out.alloc (.cells #[.int .u8 e0.kind, .int .u8 e0.op, .int .i64 e0.wd, .string e0.name, .slice a4 e0.kids.length cap4, .int .i64 e0.pos] 38))
 have HV0 := Lib.hid (exsAt_stays (stays_alloc _ _ (.cells #[.int .u8 e0.kind, .int .u8 e0.op, .int .i64 e0.wd, .string e0.name, .slice a4 e0.kids.length cap4, .int .i64 e0.pos] 38)) (fun b hb => hb) HV0.out)
 have HV : Hid (exsAt (fun b => (w1.heap.size) < b ∧ True) ((w6.setCell ⟨w1.heap.size, 3, none⟩ (.slice (some ⟨w6.heap.size, 0, none⟩) 1 1)).alloc (.cells #[.int .u8 e0.kind, .int .u8 e0.op, .int .i64 e0.wd, .string e0.name, .slice a4 e0.kids.length cap4, .int .i64 e0.pos] 38)) [e0] (some ⟨w6.heap.size, 0, none⟩)) := .inr ⟨_, 0, rfl, ⟨HZE.out, trivial⟩, exIn_of (vs := exCells e0 a4 cap4) ⟨a4, cap4, rfl, exsAt_mono HV0.out (fun b hb => ⟨hb.1, trivial⟩)⟩ (fun j v hj => by rw [Nat.zero_add, cell_of_row _ _ j _ _ _ N0, ← hj]; simp [exCells]), trivial⟩
 clear N0 HV0
 go_upto_region 21 with (fail)
 obtain ⟨V2, hV2⟩ : ∃ W, W = ((w6.setCell ⟨w1.heap.size, 3, none⟩ (.slice (some ⟨w6.heap.size, 0, none⟩) 1 1)).alloc (.cells #[.int .u8 e0.kind, .int .u8 e0.op, .int .i64 e0.wd, .string e0.name, .slice a4 e0.kids.length cap4, .int .i64 e0.pos] 38)) := ⟨_, rfl⟩
 rw [← hV2] at A RB S HV ⊢
 clear hV2
 clear sj sf slt
 go_wp2_with fail
 go_at_call 123
 refine (HW5.out _ (A.out.rs HS.out)).mono ?_
 rintro e w7 ⟨rfl, hf, hr⟩
 have A := Lib.hid (A.out.call hf hr)
 have RB := Lib.hid (RB.out.fr hf (by have := hX.out; omega))
 have S := Lib.hid (S.out.fr hf (HSB.out.2.1))
 have HV := Lib.hid (exsAt_stays (stays_fr hf (fun b hb => by have := hb.1; have := HSB.out; have := hX.out; omega)) (fun b hb => hb) HV.out)
 clear hf hr
 have s0 := S.out
 have r0 := RB.out
 go_wp2_with (first | (refine ld rowSt rfl rfl rfl s0 rfl ?_) | (refine st rowSt rfl rfl r0 rfl rfl (by rfl) (by rfl) (by kernel_rfl) ?_))
 have A := A.out.setRow (g := w.heap.size) (Nat.le_refl _) (by have := hX.out; omega) #[.int .u8 6, .string ⟨#[]⟩, .string ⟨#[]⟩, .slice (some ⟨w6.heap.size, 0, none⟩) 1 1, .slice none 0 0, .slice none 0 0, .int .i64 p]
 refine p_ret rowSt rfl (r0.row #[.int .u8 6, .string ⟨#[]⟩, .string ⟨#[]⟩, .slice (some ⟨w6.heap.size, 0, none⟩) 1 1, .slice none 0 0, .slice none 0 0, .int .i64 p]) rfl rfl rfl ?_
 exact ⟨A.fr, _, rfl, ⟨_, _, _, _, _, _, rfl, exsAt_mono (exsAt_stays (stays_row _ (g := w.heap.size) _ (fun b hb => by have := hb.1; have := HSB.out; omega)) (fun b hb => hb) HV.out) (fun b hb => by have := hb.1; have := HSB.out; omega), .inl rfl, .inl rfl⟩, A.rs HS.out⟩
theorem rs_skip {c : Par} {w : World} {σ : Sr} {d : Int}  (R : Rs c w σ) (hd0 : 0 ≤ d) (hd1 : d ≤ 64) (hif : σ.has c.L [105, 102] = false) (hwhile : σ.has c.L [119, 104, 105, 108, 101] = false) (hlock : σ.has c.L [108, 111, 99, 107] = false) (hprint : σ.has c.L [112, 114, 105, 110, 116] = false) (hskip : σ.has c.L [115, 107, 105, 112] = true)  :
 Calls Tryz.prog 163 #[c.ptr, .int .i64 d] w (RsPost c w (St.mk 7 ⟨#[]⟩ ⟨#[]⟩ [] [] [] (hereM c.L σ.ts).pos, σ.step.want c.L [59]) (stW w.heap.size)) := by
 obtain ⟨σ9, hσ9⟩ : ∃ σ9, σ9 = σ.step.want c.L [59] := ⟨_, rfl⟩
 have HW5 : Hid (∀ W, Rs c W σ.step → Calls Tryz.prog 123 #[c.ptr, .string ⟨#[59]⟩] W fun e w' => e = .returned (.tuple #[]) ∧ Fr c W w' ∧ Rs c w' σ9) := fun W R => by rw [hσ9]; exact r_want R ⟨#[59]⟩
 obtain ⟨t, ht⟩ : ∃ t, t = hereM c.L σ.ts := ⟨_, rfl⟩
 have HH : Hid (∀ W, Rs c W σ → Calls Tryz.prog 121 #[c.ptr] W fun e w' => e = .returned (tkV t) ∧ Below W.heap.size W w') := fun W R => by rw [ht]; exact r_hereS R
 have HTif : Hid (∀ W, Rs c W σ → Calls Tryz.prog 69 #[c.ptr, .string ⟨#[105, 102]⟩] W fun e w' => e = .returned (.bool false) ∧ Fr c W w' ∧ Rs c w' σ) := fun W R => take_isnt R hif
 have HTwhile : Hid (∀ W, Rs c W σ → Calls Tryz.prog 69 #[c.ptr, .string ⟨#[119, 104, 105, 108, 101]⟩] W fun e w' => e = .returned (.bool false) ∧ Fr c W w' ∧ Rs c w' σ) := fun W R => take_isnt R hwhile
 have HTlock : Hid (∀ W, Rs c W σ → Calls Tryz.prog 69 #[c.ptr, .string ⟨#[108, 111, 99, 107]⟩] W fun e w' => e = .returned (.bool false) ∧ Fr c W w' ∧ Rs c w' σ) := fun W R => take_isnt R hlock
 have HTprint : Hid (∀ W, Rs c W σ → Calls Tryz.prog 69 #[c.ptr, .string ⟨#[112, 114, 105, 110, 116]⟩] W fun e w' => e = .returned (.bool false) ∧ Fr c W w' ∧ Rs c w' σ) := fun W R => take_isnt R hprint
 have HTskip : Hid (∀ W, Rs c W σ → Calls Tryz.prog 69 #[c.ptr, .string ⟨#[115, 107, 105, 112]⟩] W fun e w' => e = .returned (.bool true) ∧ Fr c W w' ∧ Rs c w' σ.step) := fun W R => take_is R hskip
 rw [← ht]
 have HS := Lib.hid R.s
 have hX := Lib.hid R.lt
 have A := Lib.hid (R.as.alloc (.cells zSt 69))
 have RB := Lib.hid (Own.new w 69 zSt)
 rw [← hσ9]
 clear ht R hif hwhile hlock hprint hskip hσ9
 obtain ⟨tk, tx, tw, p⟩ := t
 unfold tkV Par.ptr zSt at *
 have F3 : ∀ (a b c d : Value) (w : World), (Instr.field 108 (.agg #[a, b, c, d]) 3).run Tryz.prog w = .ok d w := fun a b c d w => by kernel_rfl
 go_enter Tryz.func163, Tryz.ntmps163
 go_wp2_with fail
 go_at_call 121
 refine (HH.out _ (A.out.rs HS.out)).mono ?_
 rintro e w1 ⟨rfl, hb⟩
 have A := Lib.hid (A.out.below hb)
 have RB := Lib.hid (RB.out.below hb)
 clear hb
 have HSB : Hid (w.heap.size ≤ w1.heap.size ∧ c.X ≠ w1.heap.size ∧ w1.heap.size ≠ w.heap.size) := by have := RB.out.lt; have := hX.out; simp only [Hid]; omega
 have A := Lib.hid (A.out.alloc (.cells #[.int .u8 0, .string ⟨#[]⟩, .string ⟨#[]⟩, .slice none 0 0, .slice none 0 0, .slice none 0 0, .int .i64 p] 69))
 have RB := Lib.hid (RB.out.alloc (.cells #[.int .u8 0, .string ⟨#[]⟩, .string ⟨#[]⟩, .slice none 0 0, .slice none 0 0, .slice none 0 0, .int .i64 p] 69))
 have S := Lib.hid (Own.new w1 69 #[.int .u8 0, .string ⟨#[]⟩, .string ⟨#[]⟩, .slice none 0 0, .slice none 0 0, .slice none 0 0, .int .i64 p])
 go_upto_region 3 with (fail)
 obtain ⟨V0, hV0⟩ : ∃ W, W = w1.alloc (.cells #[.int .u8 0, .string ⟨#[]⟩, .string ⟨#[]⟩, .slice none 0 0, .slice none 0 0, .slice none 0 0, .int .i64 p] 69) := ⟨_, rfl⟩
 rw [← hV0] at A RB S ⊢
 clear hV0
 go_wp2_with fail
 go_at_call 69
 refine (HTif.out _ (A.out.rs HS.out)).mono ?_
 rintro e w2 ⟨rfl, hf, hr⟩
 have A := Lib.hid (A.out.call hf hr)
 have RB := Lib.hid (RB.out.fr hf (by have := hX.out; omega))
 have S := Lib.hid (S.out.fr hf (HSB.out.2.1))
 clear hf hr
 go_wp2_with fail
 go_at_call 69
 refine (HTwhile.out _ (A.out.rs HS.out)).mono ?_
 rintro e w3 ⟨rfl, hf, hr⟩
 have A := Lib.hid (A.out.call hf hr)
 have RB := Lib.hid (RB.out.fr hf (by have := hX.out; omega))
 have S := Lib.hid (S.out.fr hf (HSB.out.2.1))
 clear hf hr
 go_wp2_with fail
 go_at_call 69
 refine (HTlock.out _ (A.out.rs HS.out)).mono ?_
 rintro e w4 ⟨rfl, hf, hr⟩
 have A := Lib.hid (A.out.call hf hr)
 have RB := Lib.hid (RB.out.fr hf (by have := hX.out; omega))
 have S := Lib.hid (S.out.fr hf (HSB.out.2.1))
 clear hf hr
 go_wp2_with fail
 go_at_call 69
 refine (HTprint.out _ (A.out.rs HS.out)).mono ?_
 rintro e w5 ⟨rfl, hf, hr⟩
 have A := Lib.hid (A.out.call hf hr)
 have RB := Lib.hid (RB.out.fr hf (by have := hX.out; omega))
 have S := Lib.hid (S.out.fr hf (HSB.out.2.1))
 clear hf hr
 go_wp2_with fail
 go_at_call 69
 refine (HTskip.out _ (A.out.rs HS.out)).mono ?_
 rintro e w6 ⟨rfl, hf, hr⟩
 have A := Lib.hid (A.out.call hf hr)
 have RB := Lib.hid (RB.out.fr hf (by have := hX.out; omega))
 have S := Lib.hid (S.out.fr hf (HSB.out.2.1))
 clear hf hr
 have sj : w6.cell? ⟨w1.heap.size, 0, none⟩ = some (.int .u8 0) := by rw [cell_of_row _ _ 0 _ _ _ S.out]; rfl
 have sf : w6.frozen? ⟨w1.heap.size, 0, none⟩ = false := own_frozen' S.out 0
 have slt := S.out.lt
 have A := Lib.hid (A.out.setOwn S.out HSB.out.1 HSB.out.2.1 0 (.int .u8 7))
 have RB := Lib.hid (RB.out.setX (x := w1.heap.size) 0 (.int .u8 7) HSB.out.2.2)
 have S : Hid (Own _ w1.heap.size 69 #[.int .u8 7, .string ⟨#[]⟩, .string ⟨#[]⟩, .slice none 0 0, .slice none 0 0, .slice none 0 0, .int .i64 p]) := S.out.setJ 0 (.int .u8 7)
 go_upto_region 24 with (fail)
 obtain ⟨V1, hV1⟩ : ∃ W, W = (w6.setCell ⟨w1.heap.size, 0, none⟩ (.int .u8 7)) := ⟨_, rfl⟩
 rw [← hV1] at A RB S ⊢
 clear hV1
 clear sj sf slt
 go_wp2_with fail
 go_at_call 123
 refine (HW5.out _ (A.out.rs HS.out)).mono ?_
 rintro e w7 ⟨rfl, hf, hr⟩
 have A := Lib.hid (A.out.call hf hr)
 have RB := Lib.hid (RB.out.fr hf (by have := hX.out; omega))
 have S := Lib.hid (S.out.fr hf (HSB.out.2.1))
 clear hf hr
 have s0 := S.out
 have r0 := RB.out
 go_wp2_with (first | (refine ld rowSt rfl rfl rfl s0 rfl ?_) | (refine st rowSt rfl rfl r0 rfl rfl (by rfl) (by rfl) (by kernel_rfl) ?_))
 have A := A.out.setRow (g := w.heap.size) (Nat.le_refl _) (by have := hX.out; omega) #[.int .u8 7, .string ⟨#[]⟩, .string ⟨#[]⟩, .slice none 0 0, .slice none 0 0, .slice none 0 0, .int .i64 p]
 refine p_ret rowSt rfl (r0.row #[.int .u8 7, .string ⟨#[]⟩, .string ⟨#[]⟩, .slice none 0 0, .slice none 0 0, .slice none 0 0, .int .i64 p]) rfl rfl rfl ?_
 exact ⟨A.fr, _, rfl, ⟨_, _, _, _, _, _, rfl, .inl rfl, .inl rfl, .inl rfl⟩, A.rs HS.out⟩
theorem rs_assign {c : Par} {w : World} {σ : Sr} {d : Int} {Y : St × Sr} (R : Rs c w σ) (hd0 : 0 ≤ d) (hd1 : d ≤ 64) (hif : σ.has c.L [105, 102] = false) (hwhile : σ.has c.L [119, 104, 105, 108, 101] = false) (hlock : σ.has c.L [108, 111, 99, 107] = false) (hprint : σ.has c.L [112, 114, 105, 110, 116] = false) (hskip : σ.has c.L [115, 107, 105, 112] = false) (HA : ∀ W, Rs c W σ → Calls Tryz.prog 191 #[c.ptr, .agg #[.int .u8 0, .string ⟨#[]⟩, .string ⟨#[]⟩, .slice none 0 0, .slice none 0 0, .slice none 0 0, .int .i64 (hereM c.L σ.ts).pos]] W (RsPost c W Y (stW W.heap.size))) :
 Calls Tryz.prog 163 #[c.ptr, .int .i64 d] w (RsPost c w (Y.1, Y.2) (stW w.heap.size)) := by
 have HAR : Hid (∀ W, Rs c W σ → Calls Tryz.prog 191 #[c.ptr, .agg #[.int .u8 0, .string ⟨#[]⟩, .string ⟨#[]⟩, .slice none 0 0, .slice none 0 0, .slice none 0 0, .int .i64 (hereM c.L σ.ts).pos]] W (RsPost c W Y (stW W.heap.size))) := HA
 obtain ⟨t, ht⟩ : ∃ t, t = hereM c.L σ.ts := ⟨_, rfl⟩
 have HH : Hid (∀ W, Rs c W σ → Calls Tryz.prog 121 #[c.ptr] W fun e w' => e = .returned (tkV t) ∧ Below W.heap.size W w') := fun W R => by rw [ht]; exact r_hereS R
 have HTif : Hid (∀ W, Rs c W σ → Calls Tryz.prog 69 #[c.ptr, .string ⟨#[105, 102]⟩] W fun e w' => e = .returned (.bool false) ∧ Fr c W w' ∧ Rs c w' σ) := fun W R => take_isnt R hif
 have HTwhile : Hid (∀ W, Rs c W σ → Calls Tryz.prog 69 #[c.ptr, .string ⟨#[119, 104, 105, 108, 101]⟩] W fun e w' => e = .returned (.bool false) ∧ Fr c W w' ∧ Rs c w' σ) := fun W R => take_isnt R hwhile
 have HTlock : Hid (∀ W, Rs c W σ → Calls Tryz.prog 69 #[c.ptr, .string ⟨#[108, 111, 99, 107]⟩] W fun e w' => e = .returned (.bool false) ∧ Fr c W w' ∧ Rs c w' σ) := fun W R => take_isnt R hlock
 have HTprint : Hid (∀ W, Rs c W σ → Calls Tryz.prog 69 #[c.ptr, .string ⟨#[112, 114, 105, 110, 116]⟩] W fun e w' => e = .returned (.bool false) ∧ Fr c W w' ∧ Rs c w' σ) := fun W R => take_isnt R hprint
 have HTskip : Hid (∀ W, Rs c W σ → Calls Tryz.prog 69 #[c.ptr, .string ⟨#[115, 107, 105, 112]⟩] W fun e w' => e = .returned (.bool false) ∧ Fr c W w' ∧ Rs c w' σ) := fun W R => take_isnt R hskip
 have HS := Lib.hid R.s
 have hX := Lib.hid R.lt
 have A := Lib.hid (R.as.alloc (.cells zSt 69))
 have RB := Lib.hid (Own.new w 69 zSt)
 rw [← ht] at HAR
 clear ht R hif hwhile hlock hprint hskip HA
 obtain ⟨tk, tx, tw, p⟩ := t
 obtain ⟨sT, σ3⟩ := Y
 unfold tkV Par.ptr zSt at *
 have F3 : ∀ (a b c d : Value) (w : World), (Instr.field 108 (.agg #[a, b, c, d]) 3).run Tryz.prog w = .ok d w := fun a b c d w => by kernel_rfl
 go_enter Tryz.func163, Tryz.ntmps163
 go_wp2_with fail
 go_at_call 121
 refine (HH.out _ (A.out.rs HS.out)).mono ?_
 rintro e w1 ⟨rfl, hb⟩
 have A := Lib.hid (A.out.below hb)
 have RB := Lib.hid (RB.out.below hb)
 clear hb
 have HSB : Hid (w.heap.size ≤ w1.heap.size ∧ c.X ≠ w1.heap.size ∧ w1.heap.size ≠ w.heap.size) := by have := RB.out.lt; have := hX.out; simp only [Hid]; omega
 have A := Lib.hid (A.out.alloc (.cells #[.int .u8 0, .string ⟨#[]⟩, .string ⟨#[]⟩, .slice none 0 0, .slice none 0 0, .slice none 0 0, .int .i64 p] 69))
 have RB := Lib.hid (RB.out.alloc (.cells #[.int .u8 0, .string ⟨#[]⟩, .string ⟨#[]⟩, .slice none 0 0, .slice none 0 0, .slice none 0 0, .int .i64 p] 69))
 have S := Lib.hid (Own.new w1 69 #[.int .u8 0, .string ⟨#[]⟩, .string ⟨#[]⟩, .slice none 0 0, .slice none 0 0, .slice none 0 0, .int .i64 p])
 go_upto_region 3 with (fail)
 obtain ⟨V0, hV0⟩ : ∃ W, W = w1.alloc (.cells #[.int .u8 0, .string ⟨#[]⟩, .string ⟨#[]⟩, .slice none 0 0, .slice none 0 0, .slice none 0 0, .int .i64 p] 69) := ⟨_, rfl⟩
 rw [← hV0] at A RB S ⊢
 clear hV0
 go_wp2_with fail
 go_at_call 69
 refine (HTif.out _ (A.out.rs HS.out)).mono ?_
 rintro e w2 ⟨rfl, hf, hr⟩
 have A := Lib.hid (A.out.call hf hr)
 have RB := Lib.hid (RB.out.fr hf (by have := hX.out; omega))
 have S := Lib.hid (S.out.fr hf (HSB.out.2.1))
 clear hf hr
 go_wp2_with fail
 go_at_call 69
 refine (HTwhile.out _ (A.out.rs HS.out)).mono ?_
 rintro e w3 ⟨rfl, hf, hr⟩
 have A := Lib.hid (A.out.call hf hr)
 have RB := Lib.hid (RB.out.fr hf (by have := hX.out; omega))
 have S := Lib.hid (S.out.fr hf (HSB.out.2.1))
 clear hf hr
 go_wp2_with fail
 go_at_call 69
 refine (HTlock.out _ (A.out.rs HS.out)).mono ?_
 rintro e w4 ⟨rfl, hf, hr⟩
 have A := Lib.hid (A.out.call hf hr)
 have RB := Lib.hid (RB.out.fr hf (by have := hX.out; omega))
 have S := Lib.hid (S.out.fr hf (HSB.out.2.1))
 clear hf hr
 go_wp2_with fail
 go_at_call 69
 refine (HTprint.out _ (A.out.rs HS.out)).mono ?_
 rintro e w5 ⟨rfl, hf, hr⟩
 have A := Lib.hid (A.out.call hf hr)
 have RB := Lib.hid (RB.out.fr hf (by have := hX.out; omega))
 have S := Lib.hid (S.out.fr hf (HSB.out.2.1))
 clear hf hr
 go_wp2_with fail
 go_at_call 69
 refine (HTskip.out _ (A.out.rs HS.out)).mono ?_
 rintro e w6 ⟨rfl, hf, hr⟩
 have A := Lib.hid (A.out.call hf hr)
 have RB := Lib.hid (RB.out.fr hf (by have := hX.out; omega))
 have S := Lib.hid (S.out.fr hf (HSB.out.2.1))
 clear hf hr
 have hz := Keep.size A.out.fr
 have hsb := S.out.lt
 have s1 := S.out
 go_wp2_with (first | (refine ld rowSt rfl rfl rfl s1 rfl ?_))
 go_at_call 191
 refine (HAR.out _ (A.out.rs HS.out)).mono ?_
 rintro e w7 ⟨hf, v, rfl, hV, hr⟩
 obtain ⟨a3, c3, a4, c4, a5, c5, rfl, hV3, hV4, hV5⟩ := hV
 have HV3 := Lib.hid (exsAt_mono hV3 (R' := fun b => w1.heap.size < b ∧ True) (fun b hb => ⟨by omega, trivial⟩))
 have HV4 := Lib.hid (stsAt_mono hV4 (R' := fun b => w1.heap.size < b ∧ True) (fun b hb => ⟨by omega, trivial⟩))
 have HV5 := Lib.hid (stsAt_mono hV5 (R' := fun b => w1.heap.size < b ∧ True) (fun b hb => ⟨by omega, trivial⟩))
 clear hV3 hV4 hV5 hz hsb s1
 have A := Lib.hid (A.out.call hf hr)
 have RB := Lib.hid (RB.out.fr hf (by have := hX.out; omega))
 have S := Lib.hid (S.out.fr hf (HSB.out.2.1))
 clear hf hr
 have s0 := S.out
 have s9 := S.out.row #[.int .u8 sT.kind, .string sT.name, .string sT.other, .slice a3 sT.e.length c3, .slice a4 sT.body.length c4, .slice a5 sT.els.length c5, .int .i64 sT.pos]
 have r0 := RB.out.other (g := w1.heap.size) #[.int .u8 sT.kind, .string sT.name, .string sT.other, .slice a3 sT.e.length c3, .slice a4 sT.body.length c4, .slice a5 sT.els.length c5, .int .i64 sT.pos] (by have := HSB.out; omega)
 go_wp2_with (first | (refine st rowSt rfl rfl s0 rfl rfl (by rfl) (by rfl) (by kernel_rfl) ?_) | (refine ld rowSt rfl rfl rfl s9 rfl ?_) | (refine st rowSt rfl rfl r0 rfl rfl (by rfl) (by rfl) (by kernel_rfl) ?_))
 have A := (A.out.setRow (g := w1.heap.size) HSB.out.1 HSB.out.2.1 #[.int .u8 sT.kind, .string sT.name, .string sT.other, .slice a3 sT.e.length c3, .slice a4 sT.body.length c4, .slice a5 sT.els.length c5, .int .i64 sT.pos]).setRow (g := w.heap.size) (Nat.le_refl _) (by have := hX.out; omega) #[.int .u8 sT.kind, .string sT.name, .string sT.other, .slice a3 sT.e.length c3, .slice a4 sT.body.length c4, .slice a5 sT.els.length c5, .int .i64 sT.pos]
 refine p_ret rowSt rfl (r0.row #[.int .u8 sT.kind, .string sT.name, .string sT.other, .slice a3 sT.e.length c3, .slice a4 sT.body.length c4, .slice a5 sT.els.length c5, .int .i64 sT.pos]) rfl rfl rfl ?_
 exact ⟨A.fr, _, rfl, ⟨_, _, _, _, _, _, rfl, exsAt_mono (exsAt_stays ((stays_row _ (g := w1.heap.size) _ (fun b hb => by have := hb.1; omega)).trans (stays_row _ (g := w.heap.size) _ (fun b hb => by have := hb.1; have := HSB.out; omega))) (fun b hb => hb) HV3.out) (fun b hb => by have := hb.1; have := HSB.out; omega), stsAt_mono (stsAt_stays ((stays_row _ (g := w1.heap.size) _ (fun b hb => by have := hb.1; omega)).trans (stays_row _ (g := w.heap.size) _ (fun b hb => by have := hb.1; have := HSB.out; omega))) (fun b hb => hb) HV4.out) (fun b hb => by have := hb.1; have := HSB.out; omega), stsAt_mono (stsAt_stays ((stays_row _ (g := w1.heap.size) _ (fun b hb => by have := hb.1; omega)).trans (stays_row _ (g := w.heap.size) _ (fun b hb => by have := hb.1; have := HSB.out; omega))) (fun b hb => hb) HV5.out) (fun b hb => by have := hb.1; have := HSB.out; omega)⟩, A.rs HS.out⟩
end Go.Proofs.YtfogkobgjojpiaaGreatDoor

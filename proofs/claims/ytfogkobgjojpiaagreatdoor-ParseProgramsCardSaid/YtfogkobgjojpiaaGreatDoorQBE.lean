/- The proof, part 31: texts that belong together, in one. -/
import Derived.Test.YtfogkobgjojpiaaGreatDoorQBD
set_option maxRecDepth 100000
set_option maxHeartbeats 20000000
namespace Go.Proofs.YtfogkobgjojpiaaGreatDoor
open Go.RowKit
set_option linter.unusedVariables false
theorem take_yes {c : Par} {w : World} {σ : Sr} {s : ByteArray} (R : Rs c w σ) (hok : σ.ok = true) (h : isK c.L s.data.toList σ.ts = true) : Calls Tryz.prog 69 #[c.ptr, .string s] w fun e w' => e = .returned (.bool true) ∧ Fr c w w' ∧ Rs c w' σ.step := by
 have hh : σ.has c.L s.data.toList = true := by unfold Sr.has; rw [hok, h]; rfl
 have e : σ.take c.L s.data.toList = σ.step := by unfold Sr.take; rw [if_pos hh]
 have := r_take R s
 rw [hh, e] at this
 exact this
theorem take_no {c : Par} {w : World} {σ : Sr} {s : ByteArray} (R : Rs c w σ) (h : isK c.L s.data.toList σ.ts = false) : Calls Tryz.prog 69 #[c.ptr, .string s] w fun e w' => e = .returned (.bool false) ∧ Fr c w w' ∧ Rs c w' σ := by
 have hh : σ.has c.L s.data.toList = false := by unfold Sr.has; rw [h]; simp
 have e : σ.take c.L s.data.toList = σ := by unfold Sr.take; rw [if_neg (by rw [hh]; decide)]
 have := r_take R s
 rw [hh, e] at this
 exact this
theorem un_sub {c : Par} {w : World} {σ : Sr} {d : Int} (R : Rs c w σ) (hsub : isK c.L [45] σ.ts = true) (hnot : isK c.L [33] σ.ts = false) (hpar : isK c.L [40] σ.ts = false) (hok : σ.ok = true) (hk3 : ¬ (hereM c.L σ.ts).kind = 3) (hk1 : ¬ (hereM c.L σ.ts).kind = 1) (hd0 : 0 ≤ d) (hd : d < 64) {Y : Ex × Sr} (HU : ∀ W, Rs c W σ.step → Calls Tryz.prog 221 #[c.ptr, .int .i64 (d + 1)] W (RsPost c W Y (exR W.heap.size))) :
 Calls Tryz.prog 221 #[c.ptr, .int .i64 d] w (RsPost c w ((unX 17 (hereM c.L σ.ts).pos Y.1, Y.2)) (exR w.heap.size)) := by
 obtain ⟨t, ht⟩ : ∃ t, t = hereM c.L σ.ts := ⟨_, rfl⟩
 have HH : Hid (∀ W, Rs c W σ → Calls Tryz.prog 121 #[c.ptr] W fun e w' => e = .returned (tkV t) ∧ Below W.heap.size W w') := fun W R => by rw [ht]; exact r_hereS R
 have HIsub : Hid (∀ W, Rs c W σ → Calls Tryz.prog 119 #[c.ptr, .string ⟨#[45]⟩] W fun e w' => e = .returned (.bool true) ∧ Below W.heap.size W w') := fun W R => by rw [← hsub]; exact r_isS R ⟨#[45]⟩
 have HInot : Hid (∀ W, Rs c W σ → Calls Tryz.prog 119 #[c.ptr, .string ⟨#[33]⟩] W fun e w' => e = .returned (.bool false) ∧ Below W.heap.size W w') := fun W R => by rw [← hnot]; exact r_isS R ⟨#[33]⟩
 have HIpar : Hid (∀ W, Rs c W σ → Calls Tryz.prog 119 #[c.ptr, .string ⟨#[40]⟩] W fun e w' => e = .returned (.bool false) ∧ Below W.heap.size W w') := fun W R => by rw [← hpar]; exact r_isS R ⟨#[40]⟩
 have HT := Lib.hid ht
 have HS := Lib.hid R.s
 have A0 := Lib.hid (R.as.alloc (.cells zEx 38))
 have O0 := Lib.hid (Own.new w 38 zEx)
 have hX := Lib.hid R.lt
 have HO : Hid (∀ W, Rs c W σ → Calls Tryz.prog 29 #[c.ptr] W fun e w' => e = .returned (.bool true) ∧ Below W.heap.size W w') := fun W R => by rw [← hok]; exact r_okS R
 have q3 : (t.kind == 3) = false := by rw [ht]; simpa using hk3
 have q1 : (t.kind == 1) = false := by rw [ht]; simpa using hk1
 have HTpar : Hid (∀ W, Rs c W σ → Calls Tryz.prog 69 #[c.ptr, .string ⟨#[40]⟩] W fun e w' => e = .returned (.bool false) ∧ Fr c W w' ∧ Rs c w' σ) := fun W R => take_no R hpar
 have HTsub : Hid (∀ W, Rs c W σ → Calls Tryz.prog 69 #[c.ptr, .string ⟨#[45]⟩] W fun e w' => e = .returned (.bool true) ∧ Fr c W w' ∧ Rs c w' σ.step) := fun W R => take_yes R hok hsub
 rw [← ht]
 have HU : Hid (∀ W, Rs c W σ.step → Calls Tryz.prog 221 #[c.ptr, .int .i64 (d + 1)] W (RsPost c W Y (exR W.heap.size))) := HU
 clear hok hk3 hk1 hsub hnot hpar
 clear ht R
 obtain ⟨tk, tx, tw, tp⟩ := t
 unfold tkV Par.ptr zEx at *
 go_enter Tryz.func221, Tryz.ntmps221
 go_wp2_with fail
 go_at_call 121
 refine (HH.out _ (A0.out.rs HS.out)).mono ?_
 rintro e w1 ⟨rfl, hb⟩
 have A := Lib.hid ((A0.out.below hb).alloc (.cells #[.int .u8 tk, .string tx, .int .i64 tw, .int .i64 tp] 108))
 have hz := (O0.out.below hb).lt
 have O0 := Lib.hid ((O0.out.below hb).alloc (.cells #[.int .u8 tk, .string tx, .int .i64 tw, .int .i64 tp] 108))
 have T1 := Lib.hid (Own.new w1 108 #[.int .u8 tk, .string tx, .int .i64 tw, .int .i64 tp])
 have HX : Hid (c.X ≠ w.heap.size ∧ c.X ≠ w1.heap.size) := by have := hX.out; simp only [Hid]; omega
 have HZ := Lib.hid hz
 clear hb hz A0
 go_upto_region 2 with (fail)
 obtain ⟨W1, hW1⟩ : ∃ W, W = w1.alloc (.cells #[.int .u8 tk, .string tx, .int .i64 tw, .int .i64 tp] 108) := ⟨_, rfl⟩
 rw [← hW1] at A O0 T1 ⊢
 clear hW1
 try simp only at q1 q3
 go_wp2_with fail
 go_at_call 119
 refine (HIsub.out _ (A.out.rs HS.out)).mono ?_
 rintro e w2 ⟨rfl, hb⟩
 have A := Lib.hid (A.out.below hb)
 have O0 := Lib.hid (O0.out.below hb)
 have T1 := Lib.hid (T1.out.below hb)
 clear hb
 go_wp2_with fail
 go_at_call 29
 refine (HO.out _ (A.out.rs HS.out)).mono ?_
 rintro e w3 ⟨rfl, hb⟩
 have A := Lib.hid (A.out.below hb)
 have O0 := Lib.hid (O0.out.below hb)
 have T1 := Lib.hid (T1.out.below hb)
 clear hb
 have t0 : w3.cell? ⟨w1.heap.size, 0, none⟩ = some (.int .u8 tk) := by rw [cell_of_row _ _ 0 _ _ _ T1.out]; rfl
 go_wp2_with fail
 go_at_call 69
 refine (HTpar.out _ (A.out.rs HS.out)).mono ?_
 rintro e w4 ⟨rfl, hf, hr⟩
 have A := Lib.hid (A.out.call hf hr)
 have O0 := Lib.hid (O0.out.fr hf HX.out.1)
 have T1 := Lib.hid (T1.out.fr hf HX.out.2)
 clear hf hr
 go_wp2_with fail
 go_at_call 69
 refine (HTsub.out _ (A.out.rs HS.out)).mono ?_
 rintro e w5 ⟨rfl, hf, hr⟩
 have A := Lib.hid (A.out.call hf hr)
 have O0 := Lib.hid (O0.out.fr hf HX.out.1)
 have T1 := Lib.hid (T1.out.fr hf HX.out.2)
 clear hf hr
 have hlt := T1.out.lt
 go_wp2_with fail
 go_at_call 221
 refine (HU.out _ (A.out.rs HS.out)).mono ?_
 obtain ⟨e0, σ4⟩ := Y
 rintro e w9 ⟨hf, v, rfl, ⟨a4, cap4, rfl, hV⟩, hr⟩
 have HV := Lib.hid (exsAt_mono (exsAt_stays (stays_alloc _ w9 (.cells #[.int .u8 e0.kind, .int .u8 e0.op, .int .i64 e0.wd, .string e0.name, .slice a4 e0.kids.length cap4, .int .i64 e0.pos] 38)) (fun b hb => hb) (exsAt_in hV)) (R' := fun b => w1.heap.size < b ∧ b < w9.heap.size) (fun b hb => ⟨by have := hb.1; omega, hb.2⟩))
 have h9 := Keep.size hf
 have A := Lib.hid ((A.out.call hf hr).alloc (.cells #[.int .u8 e0.kind, .int .u8 e0.op, .int .i64 e0.wd, .string e0.name, .slice a4 e0.kids.length cap4, .int .i64 e0.pos] 38))
 have O0 := Lib.hid ((O0.out.fr hf HX.out.1).alloc (.cells #[.int .u8 e0.kind, .int .u8 e0.op, .int .i64 e0.wd, .string e0.name, .slice a4 e0.kids.length cap4, .int .i64 e0.pos] 38))
 have T1 := Lib.hid ((T1.out.fr hf HX.out.2).alloc (.cells #[.int .u8 e0.kind, .int .u8 e0.op, .int .i64 e0.wd, .string e0.name, .slice a4 e0.kids.length cap4, .int .i64 e0.pos] 38))
 have E1 := Own.new w9 38 #[.int .u8 e0.kind, .int .u8 e0.op, .int .i64 e0.wd, .string e0.name, .slice a4 e0.kids.length cap4, .int .i64 e0.pos]
 have H9 : Hid (w1.heap.size < w9.heap.size) := by simp only [Hid]; omega
 have hz9 : Hid ((w9.alloc (.cells #[.int .u8 e0.kind, .int .u8 e0.op, .int .i64 e0.wd, .string e0.name, .slice a4 e0.kids.length cap4, .int .i64 e0.pos] 38)).heap.size = w9.heap.size + 1) := World.size_alloc _ _
 clear hf hr hV hlt h9
 go_upto_region 18 with (fail)
 obtain ⟨W5, hW5⟩ : ∃ W, W = w9.alloc (.cells #[.int .u8 e0.kind, .int .u8 e0.op, .int .i64 e0.wd, .string e0.name, .slice a4 e0.kids.length cap4, .int .i64 e0.pos] 38) := ⟨_, rfl⟩
 rw [← hW5] at A O0 T1 E1 HV hz9 ⊢
 clear hW5
 have t3 : W5.cell? ⟨w1.heap.size, 3, none⟩ = some (.int .i64 tp) := by rw [cell_of_row _ _ 3 _ _ _ T1.out]; rfl
 have lt := T1.out.lt
 have o0 := O0.out.alloc (.cells #[.int .u8 e0.kind, .int .u8 e0.op, .int .i64 e0.wd, .string e0.name, .slice a4 e0.kids.length cap4, .int .i64 e0.pos] 38)
 have N0 := Lib.hid (Own.new W5 38 #[.int .u8 e0.kind, .int .u8 e0.op, .int .i64 e0.wd, .string e0.name, .slice a4 e0.kids.length cap4, .int .i64 e0.pos])
 go_wp2_with (first | (refine ld rowEx rfl rfl rfl E1 rfl ?_) | (refine st rowEx rfl rfl o0 rfl rfl (by rfl) (by rfl) (by kernel_rfl) ?_))
 have hzz := HZ.out
 have h9 := H9.out
 have h9z := hz9.out
 have A4 := (A.out.alloc (.cells #[.int .u8 e0.kind, .int .u8 e0.op, .int .i64 e0.wd, .string e0.name, .slice a4 e0.kids.length cap4, .int .i64 e0.pos] 38)).setRow (g := w.heap.size) (Nat.le_refl _) HX.out.1 #[.int .u8 3, .int .u8 17, .int .i64 0, .string ⟨#[]⟩, .slice (some ⟨W5.heap.size, 0, none⟩) 1 1, .int .i64 tp]
 refine p_ret rowEx rfl (o0.row #[.int .u8 3, .int .u8 17, .int .i64 0, .string ⟨#[]⟩, .slice (some ⟨W5.heap.size, 0, none⟩) 1 1, .int .i64 tp]) rfl rfl rfl ?_
 refine ⟨A4.fr, _, rfl, ⟨_, _, rfl, ?_⟩, A4.rs HS.out⟩
 refine .inr ⟨W5.heap.size, 0, rfl, by show w.heap.size ≤ W5.heap.size; omega, ?_, trivial⟩
 have hst : Stays (fun b => w1.heap.size < b ∧ b < w9.heap.size) W5 ((W5.alloc (.cells #[.int .u8 e0.kind, .int .u8 e0.op, .int .i64 e0.wd, .string e0.name, .slice a4 e0.kids.length cap4, .int .i64 e0.pos] 38)).setRow w.heap.size #[.int .u8 3, .int .u8 17, .int .i64 0, .string ⟨#[]⟩, .slice (some ⟨W5.heap.size, 0, none⟩) 1 1, .int .i64 tp]) := (stays_alloc _ W5 _).trans (stays_row _ _ (fun b hb => by have := hb.1; omega))
 refine exIn_of (vs := exCells e0 a4 cap4) ⟨a4, cap4, rfl, exsAt_stays hst (fun b hb => by have := hb.1; omega) HV.out⟩ ?_
 have N1 := N0.out.other #[.int .u8 3, .int .u8 17, .int .i64 0, .string ⟨#[]⟩, .slice (some ⟨W5.heap.size, 0, none⟩) 1 1, .int .i64 tp] (g := w.heap.size) (by omega)
 intro j v hj
 rw [Nat.zero_add, cell_of_row _ W5.heap.size j _ _ _ N1, ← hj]
 simp [exCells]
theorem un_not {c : Par} {w : World} {σ : Sr} {d : Int} (R : Rs c w σ) (hsub : isK c.L [45] σ.ts = false) (hnot : isK c.L [33] σ.ts = true) (hpar : isK c.L [40] σ.ts = false) (hok : σ.ok = true) (hk3 : ¬ (hereM c.L σ.ts).kind = 3) (hk1 : ¬ (hereM c.L σ.ts).kind = 1) (hd0 : 0 ≤ d) (hd : d < 64) {Y : Ex × Sr} (HU : ∀ W, Rs c W σ.step → Calls Tryz.prog 221 #[c.ptr, .int .i64 (d + 1)] W (RsPost c W Y (exR W.heap.size))) :
 Calls Tryz.prog 221 #[c.ptr, .int .i64 d] w (RsPost c w ((unX 18 (hereM c.L σ.ts).pos Y.1, Y.2)) (exR w.heap.size)) := by
 obtain ⟨t, ht⟩ : ∃ t, t = hereM c.L σ.ts := ⟨_, rfl⟩
 have HH : Hid (∀ W, Rs c W σ → Calls Tryz.prog 121 #[c.ptr] W fun e w' => e = .returned (tkV t) ∧ Below W.heap.size W w') := fun W R => by rw [ht]; exact r_hereS R
 have HIsub : Hid (∀ W, Rs c W σ → Calls Tryz.prog 119 #[c.ptr, .string ⟨#[45]⟩] W fun e w' => e = .returned (.bool false) ∧ Below W.heap.size W w') := fun W R => by rw [← hsub]; exact r_isS R ⟨#[45]⟩
 have HInot : Hid (∀ W, Rs c W σ → Calls Tryz.prog 119 #[c.ptr, .string ⟨#[33]⟩] W fun e w' => e = .returned (.bool true) ∧ Below W.heap.size W w') := fun W R => by rw [← hnot]; exact r_isS R ⟨#[33]⟩
 have HIpar : Hid (∀ W, Rs c W σ → Calls Tryz.prog 119 #[c.ptr, .string ⟨#[40]⟩] W fun e w' => e = .returned (.bool false) ∧ Below W.heap.size W w') := fun W R => by rw [← hpar]; exact r_isS R ⟨#[40]⟩
 have HT := Lib.hid ht
 have HS := Lib.hid R.s
 have A0 := Lib.hid (R.as.alloc (.cells zEx 38))
 have O0 := Lib.hid (Own.new w 38 zEx)
 have hX := Lib.hid R.lt
 have HO : Hid (∀ W, Rs c W σ → Calls Tryz.prog 29 #[c.ptr] W fun e w' => e = .returned (.bool true) ∧ Below W.heap.size W w') := fun W R => by rw [← hok]; exact r_okS R
 have q3 : (t.kind == 3) = false := by rw [ht]; simpa using hk3
 have q1 : (t.kind == 1) = false := by rw [ht]; simpa using hk1
 have HTpar : Hid (∀ W, Rs c W σ → Calls Tryz.prog 69 #[c.ptr, .string ⟨#[40]⟩] W fun e w' => e = .returned (.bool false) ∧ Fr c W w' ∧ Rs c w' σ) := fun W R => take_no R hpar
 have HTsub : Hid (∀ W, Rs c W σ → Calls Tryz.prog 69 #[c.ptr, .string ⟨#[45]⟩] W fun e w' => e = .returned (.bool false) ∧ Fr c W w' ∧ Rs c w' σ) := fun W R => take_no R hsub
 have HTnot : Hid (∀ W, Rs c W σ → Calls Tryz.prog 69 #[c.ptr, .string ⟨#[33]⟩] W fun e w' => e = .returned (.bool true) ∧ Fr c W w' ∧ Rs c w' σ.step) := fun W R => take_yes R hok hnot
 rw [← ht]
 have HU : Hid (∀ W, Rs c W σ.step → Calls Tryz.prog 221 #[c.ptr, .int .i64 (d + 1)] W (RsPost c W Y (exR W.heap.size))) := HU
 clear hok hk3 hk1 hsub hnot hpar
 clear ht R
 obtain ⟨tk, tx, tw, tp⟩ := t
 unfold tkV Par.ptr zEx at *
 go_enter Tryz.func221, Tryz.ntmps221
 go_wp2_with fail
 go_at_call 121
 refine (HH.out _ (A0.out.rs HS.out)).mono ?_
 rintro e w1 ⟨rfl, hb⟩
 have A := Lib.hid ((A0.out.below hb).alloc (.cells #[.int .u8 tk, .string tx, .int .i64 tw, .int .i64 tp] 108))
 have hz := (O0.out.below hb).lt
 have O0 := Lib.hid ((O0.out.below hb).alloc (.cells #[.int .u8 tk, .string tx, .int .i64 tw, .int .i64 tp] 108))
 have T1 := Lib.hid (Own.new w1 108 #[.int .u8 tk, .string tx, .int .i64 tw, .int .i64 tp])
 have HX : Hid (c.X ≠ w.heap.size ∧ c.X ≠ w1.heap.size) := by have := hX.out; simp only [Hid]; omega
 have HZ := Lib.hid hz
 clear hb hz A0
 go_upto_region 2 with (fail)
 obtain ⟨W1, hW1⟩ : ∃ W, W = w1.alloc (.cells #[.int .u8 tk, .string tx, .int .i64 tw, .int .i64 tp] 108) := ⟨_, rfl⟩
 rw [← hW1] at A O0 T1 ⊢
 clear hW1
 try simp only at q1 q3
 go_wp2_with fail
 go_at_call 119
 refine (HIsub.out _ (A.out.rs HS.out)).mono ?_
 rintro e w2 ⟨rfl, hb⟩
 have A := Lib.hid (A.out.below hb)
 have O0 := Lib.hid (O0.out.below hb)
 have T1 := Lib.hid (T1.out.below hb)
 clear hb
 go_wp2_with fail
 go_at_call 119
 refine (HInot.out _ (A.out.rs HS.out)).mono ?_
 rintro e w3 ⟨rfl, hb⟩
 have A := Lib.hid (A.out.below hb)
 have O0 := Lib.hid (O0.out.below hb)
 have T1 := Lib.hid (T1.out.below hb)
 clear hb
 go_wp2_with fail
 go_at_call 29
 refine (HO.out _ (A.out.rs HS.out)).mono ?_
 rintro e w4 ⟨rfl, hb⟩
 have A := Lib.hid (A.out.below hb)
 have O0 := Lib.hid (O0.out.below hb)
 have T1 := Lib.hid (T1.out.below hb)
 clear hb
 have t0 : w4.cell? ⟨w1.heap.size, 0, none⟩ = some (.int .u8 tk) := by rw [cell_of_row _ _ 0 _ _ _ T1.out]; rfl
 go_wp2_with fail
 go_at_call 69
 refine (HTpar.out _ (A.out.rs HS.out)).mono ?_
 rintro e w5 ⟨rfl, hf, hr⟩
 have A := Lib.hid (A.out.call hf hr)
 have O0 := Lib.hid (O0.out.fr hf HX.out.1)
 have T1 := Lib.hid (T1.out.fr hf HX.out.2)
 clear hf hr
 go_wp2_with fail
 go_at_call 69
 refine (HTsub.out _ (A.out.rs HS.out)).mono ?_
 rintro e w6 ⟨rfl, hf, hr⟩
 have A := Lib.hid (A.out.call hf hr)
 have O0 := Lib.hid (O0.out.fr hf HX.out.1)
 have T1 := Lib.hid (T1.out.fr hf HX.out.2)
 clear hf hr
 go_wp2_with fail
 go_at_call 69
 refine (HTnot.out _ (A.out.rs HS.out)).mono ?_
 rintro e w7 ⟨rfl, hf, hr⟩
 have A := Lib.hid (A.out.call hf hr)
 have O0 := Lib.hid (O0.out.fr hf HX.out.1)
 have T1 := Lib.hid (T1.out.fr hf HX.out.2)
 clear hf hr
 have hlt := T1.out.lt
 go_wp2_with fail
 go_at_call 221
 refine (HU.out _ (A.out.rs HS.out)).mono ?_
 obtain ⟨e0, σ4⟩ := Y
 rintro e w9 ⟨hf, v, rfl, ⟨a4, cap4, rfl, hV⟩, hr⟩
 have HV := Lib.hid (exsAt_mono (exsAt_stays (stays_alloc _ w9 (.cells #[.int .u8 e0.kind, .int .u8 e0.op, .int .i64 e0.wd, .string e0.name, .slice a4 e0.kids.length cap4, .int .i64 e0.pos] 38)) (fun b hb => hb) (exsAt_in hV)) (R' := fun b => w1.heap.size < b ∧ b < w9.heap.size) (fun b hb => ⟨by have := hb.1; omega, hb.2⟩))
 have h9 := Keep.size hf
 have A := Lib.hid ((A.out.call hf hr).alloc (.cells #[.int .u8 e0.kind, .int .u8 e0.op, .int .i64 e0.wd, .string e0.name, .slice a4 e0.kids.length cap4, .int .i64 e0.pos] 38))
 have O0 := Lib.hid ((O0.out.fr hf HX.out.1).alloc (.cells #[.int .u8 e0.kind, .int .u8 e0.op, .int .i64 e0.wd, .string e0.name, .slice a4 e0.kids.length cap4, .int .i64 e0.pos] 38))
 have T1 := Lib.hid ((T1.out.fr hf HX.out.2).alloc (.cells #[.int .u8 e0.kind, .int .u8 e0.op, .int .i64 e0.wd, .string e0.name, .slice a4 e0.kids.length cap4, .int .i64 e0.pos] 38))
 have E1 := Own.new w9 38 #[.int .u8 e0.kind, .int .u8 e0.op, .int .i64 e0.wd, .string e0.name, .slice a4 e0.kids.length cap4, .int .i64 e0.pos]
 have H9 : Hid (w1.heap.size < w9.heap.size) := by simp only [Hid]; omega
 have hz9 : Hid ((w9.alloc (.cells #[.int .u8 e0.kind, .int .u8 e0.op, .int .i64 e0.wd, .string e0.name, .slice a4 e0.kids.length cap4, .int .i64 e0.pos] 38)).heap.size = w9.heap.size + 1) := World.size_alloc _ _
 clear hf hr hV hlt h9
 go_upto_region 21 with (fail)
 obtain ⟨W5, hW5⟩ : ∃ W, W = w9.alloc (.cells #[.int .u8 e0.kind, .int .u8 e0.op, .int .i64 e0.wd, .string e0.name, .slice a4 e0.kids.length cap4, .int .i64 e0.pos] 38) := ⟨_, rfl⟩
 rw [← hW5] at A O0 T1 E1 HV hz9 ⊢
 clear hW5
 have t3 : W5.cell? ⟨w1.heap.size, 3, none⟩ = some (.int .i64 tp) := by rw [cell_of_row _ _ 3 _ _ _ T1.out]; rfl
 have lt := T1.out.lt
 have o0 := O0.out.alloc (.cells #[.int .u8 e0.kind, .int .u8 e0.op, .int .i64 e0.wd, .string e0.name, .slice a4 e0.kids.length cap4, .int .i64 e0.pos] 38)
 have N0 := Lib.hid (Own.new W5 38 #[.int .u8 e0.kind, .int .u8 e0.op, .int .i64 e0.wd, .string e0.name, .slice a4 e0.kids.length cap4, .int .i64 e0.pos])
 go_wp2_with (first | (refine ld rowEx rfl rfl rfl E1 rfl ?_) | (refine st rowEx rfl rfl o0 rfl rfl (by rfl) (by rfl) (by kernel_rfl) ?_))
 have hzz := HZ.out
 have h9 := H9.out
 have h9z := hz9.out
 have A4 := (A.out.alloc (.cells #[.int .u8 e0.kind, .int .u8 e0.op, .int .i64 e0.wd, .string e0.name, .slice a4 e0.kids.length cap4, .int .i64 e0.pos] 38)).setRow (g := w.heap.size) (Nat.le_refl _) HX.out.1 #[.int .u8 3, .int .u8 18, .int .i64 0, .string ⟨#[]⟩, .slice (some ⟨W5.heap.size, 0, none⟩) 1 1, .int .i64 tp]
 refine p_ret rowEx rfl (o0.row #[.int .u8 3, .int .u8 18, .int .i64 0, .string ⟨#[]⟩, .slice (some ⟨W5.heap.size, 0, none⟩) 1 1, .int .i64 tp]) rfl rfl rfl ?_
 refine ⟨A4.fr, _, rfl, ⟨_, _, rfl, ?_⟩, A4.rs HS.out⟩
 refine .inr ⟨W5.heap.size, 0, rfl, by show w.heap.size ≤ W5.heap.size; omega, ?_, trivial⟩
 have hst : Stays (fun b => w1.heap.size < b ∧ b < w9.heap.size) W5 ((W5.alloc (.cells #[.int .u8 e0.kind, .int .u8 e0.op, .int .i64 e0.wd, .string e0.name, .slice a4 e0.kids.length cap4, .int .i64 e0.pos] 38)).setRow w.heap.size #[.int .u8 3, .int .u8 18, .int .i64 0, .string ⟨#[]⟩, .slice (some ⟨W5.heap.size, 0, none⟩) 1 1, .int .i64 tp]) := (stays_alloc _ W5 _).trans (stays_row _ _ (fun b hb => by have := hb.1; omega))
 refine exIn_of (vs := exCells e0 a4 cap4) ⟨a4, cap4, rfl, exsAt_stays hst (fun b hb => by have := hb.1; omega) HV.out⟩ ?_
 have N1 := N0.out.other #[.int .u8 3, .int .u8 18, .int .i64 0, .string ⟨#[]⟩, .slice (some ⟨W5.heap.size, 0, none⟩) 1 1, .int .i64 tp] (g := w.heap.size) (by omega)
 intro j v hj
 rw [Nat.zero_add, cell_of_row _ W5.heap.size j _ _ _ N1, ← hj]
 simp [exCells]
theorem un_par {c : Par} {w : World} {σ : Sr} {d : Int} (R : Rs c w σ) (hsub : isK c.L [45] σ.ts = false) (hnot : isK c.L [33] σ.ts = false) (hpar : isK c.L [40] σ.ts = true) (hok : σ.ok = true) (hk3 : ¬ (hereM c.L σ.ts).kind = 3) (hk1 : ¬ (hereM c.L σ.ts).kind = 1) (hd0 : 0 ≤ d) (hd : d < 64) {Y : Ex × Sr} (HU : ∀ W, Rs c W σ.step → Calls Tryz.prog 190 #[c.ptr, .int .i64 1, .int .i64 (d + 1)] W (RsPost c W Y (exR W.heap.size))) :
 Calls Tryz.prog 221 #[c.ptr, .int .i64 d] w (RsPost c w ((Y.1, Y.2.want c.L [41])) (exR w.heap.size)) := by
 obtain ⟨t, ht⟩ : ∃ t, t = hereM c.L σ.ts := ⟨_, rfl⟩
 have HH : Hid (∀ W, Rs c W σ → Calls Tryz.prog 121 #[c.ptr] W fun e w' => e = .returned (tkV t) ∧ Below W.heap.size W w') := fun W R => by rw [ht]; exact r_hereS R
 have HIsub : Hid (∀ W, Rs c W σ → Calls Tryz.prog 119 #[c.ptr, .string ⟨#[45]⟩] W fun e w' => e = .returned (.bool false) ∧ Below W.heap.size W w') := fun W R => by rw [← hsub]; exact r_isS R ⟨#[45]⟩
 have HInot : Hid (∀ W, Rs c W σ → Calls Tryz.prog 119 #[c.ptr, .string ⟨#[33]⟩] W fun e w' => e = .returned (.bool false) ∧ Below W.heap.size W w') := fun W R => by rw [← hnot]; exact r_isS R ⟨#[33]⟩
 have HIpar : Hid (∀ W, Rs c W σ → Calls Tryz.prog 119 #[c.ptr, .string ⟨#[40]⟩] W fun e w' => e = .returned (.bool true) ∧ Below W.heap.size W w') := fun W R => by rw [← hpar]; exact r_isS R ⟨#[40]⟩
 have HT := Lib.hid ht
 have HS := Lib.hid R.s
 have A0 := Lib.hid (R.as.alloc (.cells zEx 38))
 have O0 := Lib.hid (Own.new w 38 zEx)
 have hX := Lib.hid R.lt
 have HO : Hid (∀ W, Rs c W σ → Calls Tryz.prog 29 #[c.ptr] W fun e w' => e = .returned (.bool true) ∧ Below W.heap.size W w') := fun W R => by rw [← hok]; exact r_okS R
 have q3 : (t.kind == 3) = false := by rw [ht]; simpa using hk3
 have q1 : (t.kind == 1) = false := by rw [ht]; simpa using hk1
 have HTpar : Hid (∀ W, Rs c W σ → Calls Tryz.prog 69 #[c.ptr, .string ⟨#[40]⟩] W fun e w' => e = .returned (.bool true) ∧ Fr c W w' ∧ Rs c w' σ.step) := fun W R => take_yes R hok hpar
 have HU : Hid (∀ W, Rs c W σ.step → Calls Tryz.prog 190 #[c.ptr, .int .i64 1, .int .i64 (d + 1)] W (RsPost c W Y (exR W.heap.size))) := HU
 have HW : Hid (∀ W, Rs c W Y.2 → Calls Tryz.prog 123 #[c.ptr, .string ⟨#[41]⟩] W fun e w' => e = .returned (.tuple #[]) ∧ Fr c W w' ∧ Rs c w' (Y.2.want c.L [41])) := fun W R => r_want R ⟨#[41]⟩
 clear hok hk3 hk1 hsub hnot hpar
 clear ht R
 obtain ⟨tk, tx, tw, tp⟩ := t
 unfold tkV Par.ptr zEx at *
 go_enter Tryz.func221, Tryz.ntmps221
 go_wp2_with fail
 go_at_call 121
 refine (HH.out _ (A0.out.rs HS.out)).mono ?_
 rintro e w1 ⟨rfl, hb⟩
 have A := Lib.hid ((A0.out.below hb).alloc (.cells #[.int .u8 tk, .string tx, .int .i64 tw, .int .i64 tp] 108))
 have hz := (O0.out.below hb).lt
 have O0 := Lib.hid ((O0.out.below hb).alloc (.cells #[.int .u8 tk, .string tx, .int .i64 tw, .int .i64 tp] 108))
 have T1 := Lib.hid (Own.new w1 108 #[.int .u8 tk, .string tx, .int .i64 tw, .int .i64 tp])
 have HX : Hid (c.X ≠ w.heap.size ∧ c.X ≠ w1.heap.size) := by have := hX.out; simp only [Hid]; omega
 have HZ := Lib.hid hz
 clear hb hz A0
 go_upto_region 2 with (fail)
 obtain ⟨W1, hW1⟩ : ∃ W, W = w1.alloc (.cells #[.int .u8 tk, .string tx, .int .i64 tw, .int .i64 tp] 108) := ⟨_, rfl⟩
 rw [← hW1] at A O0 T1 ⊢
 clear hW1
 try simp only at q1 q3
 go_wp2_with fail
 go_at_call 119
 refine (HIsub.out _ (A.out.rs HS.out)).mono ?_
 rintro e w2 ⟨rfl, hb⟩
 have A := Lib.hid (A.out.below hb)
 have O0 := Lib.hid (O0.out.below hb)
 have T1 := Lib.hid (T1.out.below hb)
 clear hb
 go_wp2_with fail
 go_at_call 119
 refine (HInot.out _ (A.out.rs HS.out)).mono ?_
 rintro e w3 ⟨rfl, hb⟩
 have A := Lib.hid (A.out.below hb)
 have O0 := Lib.hid (O0.out.below hb)
 have T1 := Lib.hid (T1.out.below hb)
 clear hb
 go_wp2_with fail
 go_at_call 119
 refine (HIpar.out _ (A.out.rs HS.out)).mono ?_
 rintro e w4 ⟨rfl, hb⟩
 have A := Lib.hid (A.out.below hb)
 have O0 := Lib.hid (O0.out.below hb)
 have T1 := Lib.hid (T1.out.below hb)
 clear hb
 go_wp2_with fail
 go_at_call 29
 refine (HO.out _ (A.out.rs HS.out)).mono ?_
 rintro e w5 ⟨rfl, hb⟩
 have A := Lib.hid (A.out.below hb)
 have O0 := Lib.hid (O0.out.below hb)
 have T1 := Lib.hid (T1.out.below hb)
 clear hb
 have t0 : w5.cell? ⟨w1.heap.size, 0, none⟩ = some (.int .u8 tk) := by rw [cell_of_row _ _ 0 _ _ _ T1.out]; rfl
 go_wp2_with fail
 go_at_call 69
 refine (HTpar.out _ (A.out.rs HS.out)).mono ?_
 rintro e w6 ⟨rfl, hf, hr⟩
 have A := Lib.hid (A.out.call hf hr)
 have O0 := Lib.hid (O0.out.fr hf HX.out.1)
 have T1 := Lib.hid (T1.out.fr hf HX.out.2)
 clear hf hr
 have hlt := T1.out.lt
 go_wp2_with fail
 go_at_call 190
 refine (HU.out _ (A.out.rs HS.out)).mono ?_
 obtain ⟨e0, σ4⟩ := Y
 rintro e w9 ⟨hf, v, rfl, ⟨a4, cap4, rfl, hV⟩, hr⟩
 have HV := Lib.hid (exsAt_mono (exsAt_stays (stays_alloc _ w9 (.cells #[.int .u8 e0.kind, .int .u8 e0.op, .int .i64 e0.wd, .string e0.name, .slice a4 e0.kids.length cap4, .int .i64 e0.pos] 38)) (fun b hb => hb) (exsAt_in hV)) (R' := fun b => w1.heap.size < b ∧ b < w9.heap.size) (fun b hb => ⟨by have := hb.1; omega, hb.2⟩))
 have h9 := Keep.size hf
 have A := Lib.hid ((A.out.call hf hr).alloc (.cells #[.int .u8 e0.kind, .int .u8 e0.op, .int .i64 e0.wd, .string e0.name, .slice a4 e0.kids.length cap4, .int .i64 e0.pos] 38))
 have O0 := Lib.hid ((O0.out.fr hf HX.out.1).alloc (.cells #[.int .u8 e0.kind, .int .u8 e0.op, .int .i64 e0.wd, .string e0.name, .slice a4 e0.kids.length cap4, .int .i64 e0.pos] 38))
 have E1 := Lib.hid (Own.new w9 38 #[.int .u8 e0.kind, .int .u8 e0.op, .int .i64 e0.wd, .string e0.name, .slice a4 e0.kids.length cap4, .int .i64 e0.pos])
 have H9 : Hid (w1.heap.size < w9.heap.size) := by simp only [Hid]; omega
 have HX9 : Hid (c.X ≠ w9.heap.size) := by have := hX.out; have := HZ.out; simp only [Hid]; omega
 clear hf hr hV hlt h9
 go_upto_region 14 with (fail)
 obtain ⟨W5, hW5⟩ : ∃ W, W = w9.alloc (.cells #[.int .u8 e0.kind, .int .u8 e0.op, .int .i64 e0.wd, .string e0.name, .slice a4 e0.kids.length cap4, .int .i64 e0.pos] 38) := ⟨_, rfl⟩
 rw [← hW5] at A O0 E1 HV ⊢
 clear hW5
 go_wp2_with fail
 go_at_call 123
 refine (HW.out _ (A.out.rs HS.out)).mono ?_
 rintro e w10 ⟨rfl, hf, hr⟩
 have A := Lib.hid (A.out.call hf hr)
 have o0 := O0.out.fr hf HX.out.1
 have e1 := E1.out.fr hf HX9.out
 have HV := Lib.hid (exsAt_stays (stays_fr hf (fun b hb => by have := hX.out; have := HZ.out; have := hb.1; omega)) (fun b hb => hb) HV.out)
 clear hf hr
 go_wp2_with (first | (refine ld rowEx rfl rfl rfl e1 rfl ?_) | (refine st rowEx rfl rfl o0 rfl rfl (by rfl) (by rfl) (by kernel_rfl) ?_))
 have A4 := A.out.setRow (g := w.heap.size) (Nat.le_refl _) HX.out.1 #[.int .u8 e0.kind, .int .u8 e0.op, .int .i64 e0.wd, .string e0.name, .slice a4 e0.kids.length cap4, .int .i64 e0.pos]
 refine p_ret rowEx rfl (o0.row #[.int .u8 e0.kind, .int .u8 e0.op, .int .i64 e0.wd, .string e0.name, .slice a4 e0.kids.length cap4, .int .i64 e0.pos]) rfl rfl rfl ?_
 have hzz := HZ.out
 exact ⟨A4.fr, _, rfl, ⟨a4, cap4, rfl, exsAt_stays (stays_row _ _ (fun b hb => by have := hb.1; omega)) (fun b hb => by have := hb.1; omega) HV.out⟩, A4.rs HS.out⟩
theorem un_none {c : Par} {w : World} {σ : Sr} {d : Int} (R : Rs c w σ) (hsub : isK c.L [45] σ.ts = false) (hnot : isK c.L [33] σ.ts = false) (hpar : isK c.L [40] σ.ts = false) (hok : σ.ok = true) (hk3 : ¬ (hereM c.L σ.ts).kind = 3) (hk1 : ¬ (hereM c.L σ.ts).kind = 1) :
 Calls Tryz.prog 221 #[c.ptr, .int .i64 d] w (RsPost c w ((zE, σ.fail c.L 2)) (exR w.heap.size)) := by
 obtain ⟨t, ht⟩ : ∃ t, t = hereM c.L σ.ts := ⟨_, rfl⟩
 have HH : Hid (∀ W, Rs c W σ → Calls Tryz.prog 121 #[c.ptr] W fun e w' => e = .returned (tkV t) ∧ Below W.heap.size W w') := fun W R => by rw [ht]; exact r_hereS R
 have HIsub : Hid (∀ W, Rs c W σ → Calls Tryz.prog 119 #[c.ptr, .string ⟨#[45]⟩] W fun e w' => e = .returned (.bool false) ∧ Below W.heap.size W w') := fun W R => by rw [← hsub]; exact r_isS R ⟨#[45]⟩
 have HInot : Hid (∀ W, Rs c W σ → Calls Tryz.prog 119 #[c.ptr, .string ⟨#[33]⟩] W fun e w' => e = .returned (.bool false) ∧ Below W.heap.size W w') := fun W R => by rw [← hnot]; exact r_isS R ⟨#[33]⟩
 have HIpar : Hid (∀ W, Rs c W σ → Calls Tryz.prog 119 #[c.ptr, .string ⟨#[40]⟩] W fun e w' => e = .returned (.bool false) ∧ Below W.heap.size W w') := fun W R => by rw [← hpar]; exact r_isS R ⟨#[40]⟩
 have HT := Lib.hid ht
 have HS := Lib.hid R.s
 have A0 := Lib.hid (R.as.alloc (.cells zEx 38))
 have O0 := Lib.hid (Own.new w 38 zEx)
 have hX := Lib.hid R.lt
 have HO : Hid (∀ W, Rs c W σ → Calls Tryz.prog 29 #[c.ptr] W fun e w' => e = .returned (.bool true) ∧ Below W.heap.size W w') := fun W R => by rw [← hok]; exact r_okS R
 have q3 : (t.kind == 3) = false := by rw [ht]; simpa using hk3
 have q1 : (t.kind == 1) = false := by rw [ht]; simpa using hk1
 have HTpar : Hid (∀ W, Rs c W σ → Calls Tryz.prog 69 #[c.ptr, .string ⟨#[40]⟩] W fun e w' => e = .returned (.bool false) ∧ Fr c W w' ∧ Rs c w' σ) := fun W R => take_no R hpar
 have HTsub : Hid (∀ W, Rs c W σ → Calls Tryz.prog 69 #[c.ptr, .string ⟨#[45]⟩] W fun e w' => e = .returned (.bool false) ∧ Fr c W w' ∧ Rs c w' σ) := fun W R => take_no R hsub
 have HTnot : Hid (∀ W, Rs c W σ → Calls Tryz.prog 69 #[c.ptr, .string ⟨#[33]⟩] W fun e w' => e = .returned (.bool false) ∧ Fr c W w' ∧ Rs c w' σ) := fun W R => take_no R hnot
 have HF : Hid (∀ W, Rs c W σ → Calls Tryz.prog 122 #[c.ptr, .int .i64 2] W fun e w' => e = .returned (.tuple #[]) ∧ Fr c W w' ∧ Rs c w' (σ.fail c.L 2)) := fun W R => r_fail R 2
 clear hok hk3 hk1 hsub hnot hpar
 clear ht R
 obtain ⟨tk, tx, tw, tp⟩ := t
 unfold tkV Par.ptr zEx at *
 go_enter Tryz.func221, Tryz.ntmps221
 go_wp2_with fail
 go_at_call 121
 refine (HH.out _ (A0.out.rs HS.out)).mono ?_
 rintro e w1 ⟨rfl, hb⟩
 have A := Lib.hid ((A0.out.below hb).alloc (.cells #[.int .u8 tk, .string tx, .int .i64 tw, .int .i64 tp] 108))
 have hz := (O0.out.below hb).lt
 have O0 := Lib.hid ((O0.out.below hb).alloc (.cells #[.int .u8 tk, .string tx, .int .i64 tw, .int .i64 tp] 108))
 have T1 := Lib.hid (Own.new w1 108 #[.int .u8 tk, .string tx, .int .i64 tw, .int .i64 tp])
 have HX : Hid (c.X ≠ w.heap.size ∧ c.X ≠ w1.heap.size) := by have := hX.out; simp only [Hid]; omega
 have HZ := Lib.hid hz
 clear hb hz A0
 go_upto_region 2 with (fail)
 obtain ⟨W1, hW1⟩ : ∃ W, W = w1.alloc (.cells #[.int .u8 tk, .string tx, .int .i64 tw, .int .i64 tp] 108) := ⟨_, rfl⟩
 rw [← hW1] at A O0 T1 ⊢
 clear hW1
 try simp only at q1 q3
 go_wp2_with fail
 go_at_call 119
 refine (HIsub.out _ (A.out.rs HS.out)).mono ?_
 rintro e w2 ⟨rfl, hb⟩
 have A := Lib.hid (A.out.below hb)
 have O0 := Lib.hid (O0.out.below hb)
 have T1 := Lib.hid (T1.out.below hb)
 clear hb
 go_wp2_with fail
 go_at_call 119
 refine (HInot.out _ (A.out.rs HS.out)).mono ?_
 rintro e w3 ⟨rfl, hb⟩
 have A := Lib.hid (A.out.below hb)
 have O0 := Lib.hid (O0.out.below hb)
 have T1 := Lib.hid (T1.out.below hb)
 clear hb
 go_wp2_with fail
 go_at_call 119
 refine (HIpar.out _ (A.out.rs HS.out)).mono ?_
 rintro e w4 ⟨rfl, hb⟩
 have A := Lib.hid (A.out.below hb)
 have O0 := Lib.hid (O0.out.below hb)
 have T1 := Lib.hid (T1.out.below hb)
 clear hb
 go_wp2_with fail
 go_at_call 29
 refine (HO.out _ (A.out.rs HS.out)).mono ?_
 rintro e w5 ⟨rfl, hb⟩
 have A := Lib.hid (A.out.below hb)
 have O0 := Lib.hid (O0.out.below hb)
 have T1 := Lib.hid (T1.out.below hb)
 clear hb
 have t0 : w5.cell? ⟨w1.heap.size, 0, none⟩ = some (.int .u8 tk) := by rw [cell_of_row _ _ 0 _ _ _ T1.out]; rfl
 go_wp2_with fail
 go_at_call 69
 refine (HTpar.out _ (A.out.rs HS.out)).mono ?_
 rintro e w6 ⟨rfl, hf, hr⟩
 have A := Lib.hid (A.out.call hf hr)
 have O0 := Lib.hid (O0.out.fr hf HX.out.1)
 have T1 := Lib.hid (T1.out.fr hf HX.out.2)
 clear hf hr
 go_wp2_with fail
 go_at_call 69
 refine (HTsub.out _ (A.out.rs HS.out)).mono ?_
 rintro e w7 ⟨rfl, hf, hr⟩
 have A := Lib.hid (A.out.call hf hr)
 have O0 := Lib.hid (O0.out.fr hf HX.out.1)
 have T1 := Lib.hid (T1.out.fr hf HX.out.2)
 clear hf hr
 go_wp2_with fail
 go_at_call 69
 refine (HTnot.out _ (A.out.rs HS.out)).mono ?_
 rintro e w8 ⟨rfl, hf, hr⟩
 have A := Lib.hid (A.out.call hf hr)
 have O0 := Lib.hid (O0.out.fr hf HX.out.1)
 have T1 := Lib.hid (T1.out.fr hf HX.out.2)
 clear hf hr
 go_wp2_with fail
 go_at_call 122
 refine (HF.out _ (A.out.rs HS.out)).mono ?_
 rintro e w9 ⟨rfl, hf, hr⟩
 have A := Lib.hid (A.out.call hf hr)
 have O0 := Lib.hid (O0.out.fr hf HX.out.1)
 have T1 := Lib.hid (T1.out.fr hf HX.out.2)
 clear hf hr
 have o0 := O0.out
 go_wp2_with (first | (refine st rowEx rfl rfl o0 rfl rfl (by rfl) (by rfl) (by kernel_rfl) ?_))
 have A := A.out.setRow (Nat.le_refl _) HX.out.1 #[.int .u8 0, .int .u8 0, .int .i64 0, .string ⟨#[]⟩, .slice none 0 0, .int .i64 0]
 refine p_ret rowEx rfl (o0.row #[.int .u8 0, .int .u8 0, .int .i64 0, .string ⟨#[]⟩, .slice none 0 0, .int .i64 0]) rfl rfl rfl ?_
 exact ⟨A.fr, _, rfl, ⟨none, 0, rfl, .inl rfl⟩, A.rs HS.out⟩
end Go.Proofs.YtfogkobgjojpiaaGreatDoor

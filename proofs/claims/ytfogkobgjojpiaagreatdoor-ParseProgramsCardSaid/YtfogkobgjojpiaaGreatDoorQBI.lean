/- The proof, part 35: texts that belong together, in one. -/
import Derived.Test.YtfogkobgjojpiaaGreatDoorQBH
import Derived.Test.YtfogkobgjojpiaaGreatDoorQAS
set_option maxRecDepth 100000
set_option maxHeartbeats 20000000
namespace Go.Proofs.YtfogkobgjojpiaaGreatDoor
open Go.RowKit
set_option linter.unusedVariables false
theorem r_round {c : Par} {w : World} {σ : Sr} {n : Nat} (R : Rs c w σ) (hf : σ.ok = true → 3 * σ.ts.length ≤ n + 1) :
 Calls Tryz.prog 188 #[c.ptr] w (RsPost c w (roundM c.L n σ) (fun e v W => exsVal w.heap.size [e] v W)) := by
 have HW1 : Hid (∀ W, Rs c W σ → Calls Tryz.prog 123 #[c.ptr, .string ⟨#[40]⟩] W fun e w' => e = .returned (.tuple #[]) ∧ Fr c W w' ∧ Rs c w' (σ.want c.L [40])) := fun W R => r_want R ⟨#[40]⟩
 obtain ⟨σ1, hσ1⟩ : ∃ σ1, σ1 = σ.want c.L [40] := ⟨_, rfl⟩
 obtain ⟨X, hX0⟩ : ∃ X, X = exM c.L n 1 0 σ1 := ⟨_, rfl⟩
 have HE : Hid (∀ W, Rs c W σ1 → Calls Tryz.prog 190 #[c.ptr, .int .i64 1, .int .i64 0] W (RsPost c W X (exR W.heap.size))) := fun W R => by
  rw [hX0]
  refine (exs_all n).2 c W σ1 1 0 R (by decide) (by decide) (by decide) (by decide) (fun h => ?_)
  rw [hσ1] at h ⊢
  obtain ⟨k1, k2⟩ := want_ok h
  obtain ⟨k3, k4⟩ := has_ne k1
  rw [k2]
  have := hf k3
  omega
 have HRES : Hid (roundM c.L n σ = (X.1, X.2.want c.L [41])) := by unfold roundM; rw [Hid, ← hσ1, ← hX0]
 rw [← hσ1] at HW1
 have HW2 : Hid (∀ W, Rs c W X.2 → Calls Tryz.prog 123 #[c.ptr, .string ⟨#[41]⟩] W fun e w' => e = .returned (.tuple #[]) ∧ Fr c W w' ∧ Rs c w' (X.2.want c.L [41])) := fun W R => r_want R ⟨#[41]⟩
 have HS := Lib.hid R.s
 have A := Lib.hid R.as
 have hX := Lib.hid R.lt
 rw [HRES.out]
 clear hσ1 hX0 R hf
 obtain ⟨e0, σ2⟩ := X
 unfold Par.ptr at *
 go_enter Tryz.func188, Tryz.ntmps188
 go_wp2_with fail
 go_at_call 123
 refine (HW1.out _ (A.out.rs HS.out)).mono ?_
 rintro e w2 ⟨rfl, hf, hr⟩
 have A := Lib.hid (A.out.call hf hr)
 clear hf hr
 have hz1 := Keep.size A.out.fr
 go_wp2_with fail
 go_at_call 190
 refine (HE.out _ (A.out.rs HS.out)).mono ?_
 rintro e w3 ⟨hf, v, rfl, ⟨a4, cap4, rfl, hV⟩, hr⟩
 have HV := Lib.hid (exsAt_mono (exsAt_in hV) (R' := fun b => w.heap.size ≤ b ∧ b < w3.heap.size) (fun b hb => ⟨by have := hb.1; omega, hb.2⟩))
 have hz2 := Keep.size hf
 clear hV
 have A := Lib.hid (A.out.call hf hr)
 clear hf hr
 have H3 : Hid (w.heap.size ≤ w3.heap.size) := by simp only [Hid]; omega
 clear hz1 hz2
 have A := Lib.hid (A.out.alloc (.cells #[.int .u8 e0.kind, .int .u8 e0.op, .int .i64 e0.wd, .string e0.name, .slice a4 e0.kids.length cap4, .int .i64 e0.pos] 38))
 have HV := Lib.hid (exsAt_stays (stays_alloc _ _ (.cells #[.int .u8 e0.kind, .int .u8 e0.op, .int .i64 e0.wd, .string e0.name, .slice a4 e0.kids.length cap4, .int .i64 e0.pos] 38)) (fun b hb => hb) HV.out)
 have E1 := Lib.hid (Own.new w3 38 #[.int .u8 e0.kind, .int .u8 e0.op, .int .i64 e0.wd, .string e0.name, .slice a4 e0.kids.length cap4, .int .i64 e0.pos])
 go_upto_region 3 with (fail)
 obtain ⟨W3, hW3⟩ : ∃ W, W = w3.alloc (.cells #[.int .u8 e0.kind, .int .u8 e0.op, .int .i64 e0.wd, .string e0.name, .slice a4 e0.kids.length cap4, .int .i64 e0.pos] 38) := ⟨_, rfl⟩
 rw [← hW3] at A HV E1 ⊢
 clear hW3
 go_wp2_with fail
 go_at_call 123
 refine (HW2.out _ (A.out.rs HS.out)).mono ?_
 rintro e w4 ⟨rfl, hf, hr⟩
 have A := Lib.hid (A.out.call hf hr)
 have HV := Lib.hid (exsAt_stays (stays_fr hf (fun b hb => by have := hb.1; have := hX.out; omega)) (fun b hb => hb) HV.out)
 have E1 := Lib.hid (E1.out.fr hf (by have := hX.out; have := H3.out; omega))
 clear hf hr
 have e1 := E1.out
 have hz4 := E1.out.lt
 have N0 := Own.new w4 38 #[.int .u8 e0.kind, .int .u8 e0.op, .int .i64 e0.wd, .string e0.name, .slice a4 e0.kids.length cap4, .int .i64 e0.pos]
 go_wp2_with (first | (refine ld rowEx rfl rfl rfl e1 rfl ?_))
 go_ret
 have h3 := H3.out
 refine ⟨(A.out.alloc _).fr, _, rfl, ⟨_, 1, rfl, .inr ⟨_, 0, rfl, by show w.heap.size ≤ w4.heap.size; omega, ?_, trivial⟩⟩, (A.out.alloc _).rs HS.out⟩
 refine exIn_of (vs := exCells e0 a4 cap4) ⟨a4, cap4, rfl, exsAt_stays (stays_alloc _ w4 _) (fun b hb => hb.1) HV.out⟩ ?_
 intro j v hj
 rw [Nat.zero_add, cell_of_row _ w4.heap.size j _ _ _ N0, ← hj]
 simp [exCells]
theorem rb_bad {c : Par} {w : World} {σ : Sr} {d : Int} {Y : List St × Sr} (R : Rs c w σ) (hd0 : 0 ≤ d) (hd1 : d ≤ 65) (hok : σ.ok = false) (HB : ∀ W, Rs c W (σ.want c.L [123]) → Calls Tryz.prog 124 #[c.ptr, .int .i64 (d + 1)] W (RsPost c W Y (fun l v W' => stsVal W.heap.size l v W'))) :
 Calls Tryz.prog 189 #[c.ptr, .int .i64 d] w (RsPost c w Y (fun l v W => stsVal w.heap.size l v W)) := by
 have HOO : Hid (∀ W, Rs c W σ → Calls Tryz.prog 29 #[c.ptr] W fun e w' => e = .returned (.bool false) ∧ Below W.heap.size W w') := fun W R => by have := r_okS R; rw [hok] at this; exact this
 obtain ⟨σ2, hσ2⟩ : ∃ σ2, σ2 = σ := ⟨_, rfl⟩
 obtain ⟨σ3, hσ3⟩ : ∃ σ3, σ3 = σ2.want c.L [123] := ⟨_, rfl⟩
 have HW : Hid (∀ W, Rs c W σ2 → Calls Tryz.prog 123 #[c.ptr, .string ⟨#[123]⟩] W fun e w' => e = .returned (.tuple #[]) ∧ Fr c W w' ∧ Rs c w' σ3) := fun W R => by rw [hσ3]; exact r_want R ⟨#[123]⟩
 have HBK : Hid (∀ W, Rs c W σ3 → Calls Tryz.prog 124 #[c.ptr, .int .i64 (d + 1)] W (RsPost c W Y (fun l v W' => stsVal W.heap.size l v W'))) := fun W R => by rw [hσ3, hσ2] at R; exact HB W R
 have HS := Lib.hid R.s
 have A := Lib.hid R.as
 have hX := Lib.hid R.lt
 subst hσ2
 clear hσ3 R hok
 obtain ⟨l0, σ4⟩ := Y
 unfold Par.ptr at *
 go_enter Tryz.func189, Tryz.ntmps189
 go_wp2_with fail
 go_at_call 29
 refine (HOO.out _ (A.out.rs HS.out)).mono ?_
 rintro e w2 ⟨rfl, hb⟩
 have A := Lib.hid (A.out.below hb)
 clear hb
 go_wp2_with fail
 go_at_call 123
 refine (HW.out _ (A.out.rs HS.out)).mono ?_
 rintro e w3 ⟨rfl, hf, hr⟩
 have A := Lib.hid (A.out.call hf hr)
 clear hf hr
 have hz := Keep.size A.out.fr
 go_wp2_with fail
 go_at_call 124
 refine (HBK.out _ (A.out.rs HS.out)).mono ?_
 rintro e w4 ⟨hf, v, rfl, hV, hr⟩
 have A := Lib.hid (A.out.call hf hr)
 clear hf hr
 obtain ⟨a5, c5, rfl, hV⟩ := hV
 go_wp2_with fail
 go_ret
 exact ⟨A.out.fr, _, rfl, ⟨a5, c5, rfl, stsAt_mono hV (fun b hb => Nat.le_trans hz hb)⟩, A.out.rs HS.out⟩
theorem rb_no {c : Par} {w : World} {σ : Sr} {d : Int} {Y : List St × Sr} (R : Rs c w σ) (hd0 : 0 ≤ d) (hd1 : d ≤ 65) (hok : σ.ok = true) (hk : isK c.L [123] σ.ts = false) (HB : ∀ W, Rs c W (σ.want c.L [123]) → Calls Tryz.prog 124 #[c.ptr, .int .i64 (d + 1)] W (RsPost c W Y (fun l v W' => stsVal W.heap.size l v W'))) :
 Calls Tryz.prog 189 #[c.ptr, .int .i64 d] w (RsPost c w Y (fun l v W => stsVal w.heap.size l v W)) := by
 have HOO : Hid (∀ W, Rs c W σ → Calls Tryz.prog 29 #[c.ptr] W fun e w' => e = .returned (.bool true) ∧ Below W.heap.size W w') := fun W R => by have := r_okS R; rw [hok] at this; exact this
 have HI : Hid (∀ W, Rs c W σ → Calls Tryz.prog 119 #[c.ptr, .string ⟨#[123]⟩] W fun e w' => e = .returned (.bool false) ∧ Below W.heap.size W w') := fun W R => by have := r_isS R ⟨#[123]⟩; rw [show isK c.L (⟨#[123]⟩ : ByteArray).data.toList σ.ts = false from hk] at this; exact this
 obtain ⟨σ2, hσ2⟩ : ∃ σ2, σ2 = σ := ⟨_, rfl⟩
 obtain ⟨σ3, hσ3⟩ : ∃ σ3, σ3 = σ2.want c.L [123] := ⟨_, rfl⟩
 have HW : Hid (∀ W, Rs c W σ2 → Calls Tryz.prog 123 #[c.ptr, .string ⟨#[123]⟩] W fun e w' => e = .returned (.tuple #[]) ∧ Fr c W w' ∧ Rs c w' σ3) := fun W R => by rw [hσ3]; exact r_want R ⟨#[123]⟩
 have HBK : Hid (∀ W, Rs c W σ3 → Calls Tryz.prog 124 #[c.ptr, .int .i64 (d + 1)] W (RsPost c W Y (fun l v W' => stsVal W.heap.size l v W'))) := fun W R => by rw [hσ3, hσ2] at R; exact HB W R
 have HS := Lib.hid R.s
 have A := Lib.hid R.as
 have hX := Lib.hid R.lt
 subst hσ2
 clear hσ3 R hok hk
 obtain ⟨l0, σ4⟩ := Y
 unfold Par.ptr at *
 go_enter Tryz.func189, Tryz.ntmps189
 go_wp2_with fail
 go_at_call 29
 refine (HOO.out _ (A.out.rs HS.out)).mono ?_
 rintro e w2 ⟨rfl, hb⟩
 have A := Lib.hid (A.out.below hb)
 clear hb
 go_wp2_with fail
 go_at_call 119
 refine (HI.out _ (A.out.rs HS.out)).mono ?_
 rintro e w3 ⟨rfl, hb⟩
 have A := Lib.hid (A.out.below hb)
 clear hb
 go_wp2_with fail
 go_at_call 123
 refine (HW.out _ (A.out.rs HS.out)).mono ?_
 rintro e w4 ⟨rfl, hf, hr⟩
 have A := Lib.hid (A.out.call hf hr)
 clear hf hr
 have hz := Keep.size A.out.fr
 go_wp2_with fail
 go_at_call 124
 refine (HBK.out _ (A.out.rs HS.out)).mono ?_
 rintro e w5 ⟨hf, v, rfl, hV, hr⟩
 have A := Lib.hid (A.out.call hf hr)
 clear hf hr
 obtain ⟨a5, c5, rfl, hV⟩ := hV
 go_wp2_with fail
 go_ret
 exact ⟨A.out.fr, _, rfl, ⟨a5, c5, rfl, stsAt_mono hV (fun b hb => Nat.le_trans hz hb)⟩, A.out.rs HS.out⟩
theorem rb_deep {c : Par} {w : World} {σ : Sr} {d : Int} {Y : List St × Sr} (R : Rs c w σ) (hd0 : 0 ≤ d) (hd1 : d ≤ 65) (hok : σ.ok = true) (hk : isK c.L [123] σ.ts = true) (hd : 64 ≤ d) (HB : ∀ W, Rs c W ((σ.fail c.L 3).want c.L [123]) → Calls Tryz.prog 124 #[c.ptr, .int .i64 (d + 1)] W (RsPost c W Y (fun l v W' => stsVal W.heap.size l v W'))) :
 Calls Tryz.prog 189 #[c.ptr, .int .i64 d] w (RsPost c w Y (fun l v W => stsVal w.heap.size l v W)) := by
 have HOO : Hid (∀ W, Rs c W σ → Calls Tryz.prog 29 #[c.ptr] W fun e w' => e = .returned (.bool true) ∧ Below W.heap.size W w') := fun W R => by have := r_okS R; rw [hok] at this; exact this
 have HI : Hid (∀ W, Rs c W σ → Calls Tryz.prog 119 #[c.ptr, .string ⟨#[123]⟩] W fun e w' => e = .returned (.bool true) ∧ Below W.heap.size W w') := fun W R => by have := r_isS R ⟨#[123]⟩; rw [show isK c.L (⟨#[123]⟩ : ByteArray).data.toList σ.ts = true from hk] at this; exact this
 have HF : Hid (∀ W, Rs c W σ → Calls Tryz.prog 122 #[c.ptr, .int .i64 3] W fun e w' => e = .returned (.tuple #[]) ∧ Fr c W w' ∧ Rs c w' (σ.fail c.L 3)) := fun W R => r_fail R 3
 obtain ⟨σ2, hσ2⟩ : ∃ σ2, σ2 = (σ.fail c.L 3) := ⟨_, rfl⟩
 obtain ⟨σ3, hσ3⟩ : ∃ σ3, σ3 = σ2.want c.L [123] := ⟨_, rfl⟩
 have HW : Hid (∀ W, Rs c W σ2 → Calls Tryz.prog 123 #[c.ptr, .string ⟨#[123]⟩] W fun e w' => e = .returned (.tuple #[]) ∧ Fr c W w' ∧ Rs c w' σ3) := fun W R => by rw [hσ3]; exact r_want R ⟨#[123]⟩
 have HBK : Hid (∀ W, Rs c W σ3 → Calls Tryz.prog 124 #[c.ptr, .int .i64 (d + 1)] W (RsPost c W Y (fun l v W' => stsVal W.heap.size l v W'))) := fun W R => by rw [hσ3, hσ2] at R; exact HB W R
 have HS := Lib.hid R.s
 have A := Lib.hid R.as
 have hX := Lib.hid R.lt
 rw [← hσ2] at HF
 clear hσ3 R hok hσ2 hk
 obtain ⟨l0, σ4⟩ := Y
 unfold Par.ptr at *
 go_enter Tryz.func189, Tryz.ntmps189
 go_wp2_with fail
 go_at_call 29
 refine (HOO.out _ (A.out.rs HS.out)).mono ?_
 rintro e w2 ⟨rfl, hb⟩
 have A := Lib.hid (A.out.below hb)
 clear hb
 go_wp2_with fail
 go_at_call 119
 refine (HI.out _ (A.out.rs HS.out)).mono ?_
 rintro e w3 ⟨rfl, hb⟩
 have A := Lib.hid (A.out.below hb)
 clear hb
 go_wp2_with fail
 go_at_call 122
 refine (HF.out _ (A.out.rs HS.out)).mono ?_
 rintro e w4 ⟨rfl, hf, hr⟩
 have A := Lib.hid (A.out.call hf hr)
 clear hf hr
 go_wp2_with fail
 go_at_call 123
 refine (HW.out _ (A.out.rs HS.out)).mono ?_
 rintro e w5 ⟨rfl, hf, hr⟩
 have A := Lib.hid (A.out.call hf hr)
 clear hf hr
 have hz := Keep.size A.out.fr
 go_wp2_with fail
 go_at_call 124
 refine (HBK.out _ (A.out.rs HS.out)).mono ?_
 rintro e w6 ⟨hf, v, rfl, hV, hr⟩
 have A := Lib.hid (A.out.call hf hr)
 clear hf hr
 obtain ⟨a5, c5, rfl, hV⟩ := hV
 go_wp2_with fail
 go_ret
 exact ⟨A.out.fr, _, rfl, ⟨a5, c5, rfl, stsAt_mono hV (fun b hb => Nat.le_trans hz hb)⟩, A.out.rs HS.out⟩
theorem rb_fine {c : Par} {w : World} {σ : Sr} {d : Int} {Y : List St × Sr} (R : Rs c w σ) (hd0 : 0 ≤ d) (hd1 : d ≤ 65) (hok : σ.ok = true) (hk : isK c.L [123] σ.ts = true) (hd : d < 64) (HB : ∀ W, Rs c W (σ.want c.L [123]) → Calls Tryz.prog 124 #[c.ptr, .int .i64 (d + 1)] W (RsPost c W Y (fun l v W' => stsVal W.heap.size l v W'))) :
 Calls Tryz.prog 189 #[c.ptr, .int .i64 d] w (RsPost c w Y (fun l v W => stsVal w.heap.size l v W)) := by
 have HOO : Hid (∀ W, Rs c W σ → Calls Tryz.prog 29 #[c.ptr] W fun e w' => e = .returned (.bool true) ∧ Below W.heap.size W w') := fun W R => by have := r_okS R; rw [hok] at this; exact this
 have HI : Hid (∀ W, Rs c W σ → Calls Tryz.prog 119 #[c.ptr, .string ⟨#[123]⟩] W fun e w' => e = .returned (.bool true) ∧ Below W.heap.size W w') := fun W R => by have := r_isS R ⟨#[123]⟩; rw [show isK c.L (⟨#[123]⟩ : ByteArray).data.toList σ.ts = true from hk] at this; exact this
 obtain ⟨σ2, hσ2⟩ : ∃ σ2, σ2 = σ := ⟨_, rfl⟩
 obtain ⟨σ3, hσ3⟩ : ∃ σ3, σ3 = σ2.want c.L [123] := ⟨_, rfl⟩
 have HW : Hid (∀ W, Rs c W σ2 → Calls Tryz.prog 123 #[c.ptr, .string ⟨#[123]⟩] W fun e w' => e = .returned (.tuple #[]) ∧ Fr c W w' ∧ Rs c w' σ3) := fun W R => by rw [hσ3]; exact r_want R ⟨#[123]⟩
 have HBK : Hid (∀ W, Rs c W σ3 → Calls Tryz.prog 124 #[c.ptr, .int .i64 (d + 1)] W (RsPost c W Y (fun l v W' => stsVal W.heap.size l v W'))) := fun W R => by rw [hσ3, hσ2] at R; exact HB W R
 have HS := Lib.hid R.s
 have A := Lib.hid R.as
 have hX := Lib.hid R.lt
 subst hσ2
 clear hσ3 R hok hk
 obtain ⟨l0, σ4⟩ := Y
 unfold Par.ptr at *
 go_enter Tryz.func189, Tryz.ntmps189
 go_wp2_with fail
 go_at_call 29
 refine (HOO.out _ (A.out.rs HS.out)).mono ?_
 rintro e w2 ⟨rfl, hb⟩
 have A := Lib.hid (A.out.below hb)
 clear hb
 go_wp2_with fail
 go_at_call 119
 refine (HI.out _ (A.out.rs HS.out)).mono ?_
 rintro e w3 ⟨rfl, hb⟩
 have A := Lib.hid (A.out.below hb)
 clear hb
 go_wp2_with fail
 go_at_call 123
 refine (HW.out _ (A.out.rs HS.out)).mono ?_
 rintro e w4 ⟨rfl, hf, hr⟩
 have A := Lib.hid (A.out.call hf hr)
 clear hf hr
 have hz := Keep.size A.out.fr
 go_wp2_with fail
 go_at_call 124
 refine (HBK.out _ (A.out.rs HS.out)).mono ?_
 rintro e w5 ⟨hf, v, rfl, hV, hr⟩
 have A := Lib.hid (A.out.call hf hr)
 clear hf hr
 obtain ⟨a5, c5, rfl, hV⟩ := hV
 go_wp2_with fail
 go_ret
 exact ⟨A.out.fr, _, rfl, ⟨a5, c5, rfl, stsAt_mono hV (fun b hb => Nat.le_trans hz hb)⟩, A.out.rs HS.out⟩
theorem r_block {c : Par} {w : World} {σ : Sr} {d : Int} {Y : List St × Sr} (R : Rs c w σ) (hd0 : 0 ≤ d) (hd1 : d ≤ 65) (HB : ∀ W, Rs c W (openM c.L d σ) → Calls Tryz.prog 124 #[c.ptr, .int .i64 (d + 1)] W (RsPost c W Y (fun l v W' => stsVal W.heap.size l v W'))) :
 Calls Tryz.prog 189 #[c.ptr, .int .i64 d] w (RsPost c w Y (fun l v W => stsVal w.heap.size l v W)) := by
 unfold openM at HB
 by_cases hok : σ.ok = true
 · by_cases hk : isK c.L [123] σ.ts = true
   · have hh : σ.has c.L [123] = true := by unfold Sr.has; rw [hok, hk]; rfl
     by_cases hd : 64 ≤ d
     · rw [if_pos (by rw [hh]; simpa using hd)] at HB
       exact rb_deep R hd0 hd1 hok hk hd HB
     · rw [if_neg (by rw [hh]; simpa using hd)] at HB
       exact rb_fine R hd0 hd1 hok hk (by omega) HB
   · have hk' : isK c.L [123] σ.ts = false := by simpa using hk
     have hh : σ.has c.L [123] = false := by unfold Sr.has; rw [hk']; simp
     rw [if_neg (by rw [hh]; simp)] at HB
     exact rb_no R hd0 hd1 hok hk' HB
 · have hb : σ.ok = false := by simpa using hok
   rw [if_neg (by rw [bad_has hb]; simp)] at HB
   exact rb_bad R hd0 hd1 hb HB
end Go.Proofs.YtfogkobgjojpiaaGreatDoor

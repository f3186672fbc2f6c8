/- The proof, part 30: texts that belong together, in one. -/
import Derived.Test.YtfogkobgjojpiaaGreatDoorQBC
set_option maxRecDepth 100000
set_option maxHeartbeats 20000000
namespace Go.Proofs.YtfogkobgjojpiaaGreatDoor
open Go.RowKit
set_option linter.unusedVariables false
theorem un_bad_T0 {c : Par} {w : World} {σ : Sr} {d : Int} (R : Rs c w σ) (hsub : isK c.L [45] σ.ts = true) {inot : Bool} (hnot : isK c.L [33] σ.ts = inot) {ipar : Bool} (hpar : isK c.L [40] σ.ts = ipar) (hok : σ.ok = false) (hd : d < 64) :
 Calls Tryz.prog 221 #[c.ptr, .int .i64 d] w (RsPost c w ((zE, σ)) (exR w.heap.size)) := by
 obtain ⟨t, ht⟩ : ∃ t, t = hereM c.L σ.ts := ⟨_, rfl⟩
 have HH : Hid (∀ W, Rs c W σ → Calls Tryz.prog 121 #[c.ptr] W fun e w' => e = .returned (tkV t) ∧ Below W.heap.size W w') := fun W R => by rw [ht]; exact r_hereS R
 have HIsub : Hid (∀ W, Rs c W σ → Calls Tryz.prog 119 #[c.ptr, .string ⟨#[45]⟩] W fun e w' => e = .returned (.bool true) ∧ Below W.heap.size W w') := fun W R => by rw [← hsub]; exact r_isS R ⟨#[45]⟩
 have HInot : Hid (∀ W, Rs c W σ → Calls Tryz.prog 119 #[c.ptr, .string ⟨#[33]⟩] W fun e w' => e = .returned (.bool inot) ∧ Below W.heap.size W w') := fun W R => by rw [← hnot]; exact r_isS R ⟨#[33]⟩
 have HIpar : Hid (∀ W, Rs c W σ → Calls Tryz.prog 119 #[c.ptr, .string ⟨#[40]⟩] W fun e w' => e = .returned (.bool ipar) ∧ Below W.heap.size W w') := fun W R => by rw [← hpar]; exact r_isS R ⟨#[40]⟩
 have HT := Lib.hid ht
 have HS := Lib.hid R.s
 have A0 := Lib.hid (R.as.alloc (.cells zEx 38))
 have O0 := Lib.hid (Own.new w 38 zEx)
 have hX := Lib.hid R.lt
 have HO : Hid (∀ W, Rs c W σ → Calls Tryz.prog 29 #[c.ptr] W fun e w' => e = .returned (.bool false) ∧ Below W.heap.size W w') := fun W R => by rw [← hok]; exact r_okS R
 clear hok
 clear hsub hnot hpar
 clear ht R
 obtain ⟨tk, tx, tw, tp⟩ := t
 unfold tkV Par.ptr zEx at *
 go_enter Tryz.func221, Tryz.ntmps221
 go_wp2_with fail
 go_at_call 121
 refine (HH.out _ (A0.out.rs HS.out)).mono ?_
 rintro e w1 ⟨rfl, hb⟩
 have A := Lib.hid ((A0.out.below hb).alloc (.cells #[.int .u8 tk, .string tx, .int .i64 tw, .int .i64 tp] 108))
 have hz := (O0.out.below hb).lt
 have O0 := Lib.hid ((O0.out.below hb).alloc (.cells #[.int .u8 tk, .string tx, .int .i64 tw, .int .i64 tp] 108))
 have T1 := Lib.hid (Own.new w1 108 #[.int .u8 tk, .string tx, .int .i64 tw, .int .i64 tp])
 have HX : Hid (c.X ≠ w.heap.size ∧ c.X ≠ w1.heap.size) := by have := hX.out; simp only [Hid]; omega
 have HZ := Lib.hid hz
 clear hb hz A0
 go_upto_region 2 with (fail)
 obtain ⟨W1, hW1⟩ : ∃ W, W = w1.alloc (.cells #[.int .u8 tk, .string tx, .int .i64 tw, .int .i64 tp] 108) := ⟨_, rfl⟩
 rw [← hW1] at A O0 T1 ⊢
 clear hW1
 go_wp2_with fail
 go_at_call 119
 refine (HIsub.out _ (A.out.rs HS.out)).mono ?_
 rintro e w2 ⟨rfl, hb⟩
 have A := Lib.hid (A.out.below hb)
 have O0 := Lib.hid (O0.out.below hb)
 have T1 := Lib.hid (T1.out.below hb)
 clear hb
 go_wp2_with fail
 go_at_call 29
 refine (HO.out _ (A.out.rs HS.out)).mono ?_
 rintro e w3 ⟨rfl, hb⟩
 have A := Lib.hid (A.out.below hb)
 have O0 := Lib.hid (O0.out.below hb)
 have T1 := Lib.hid (T1.out.below hb)
 clear hb
 have o0 := O0.out
 go_wp2_with (first | (refine st rowEx rfl rfl o0 rfl rfl (by rfl) (by rfl) (by kernel_rfl) ?_))
 have A := A.out.setRow (Nat.le_refl _) HX.out.1 #[.int .u8 0, .int .u8 0, .int .i64 0, .string ⟨#[]⟩, .slice none 0 0, .int .i64 0]
 refine p_ret rowEx rfl (o0.row #[.int .u8 0, .int .u8 0, .int .i64 0, .string ⟨#[]⟩, .slice none 0 0, .int .i64 0]) rfl rfl rfl ?_
 exact ⟨A.fr, _, rfl, ⟨none, 0, rfl, .inl rfl⟩, A.rs HS.out⟩
theorem un_bad_T1 {c : Par} {w : World} {σ : Sr} {d : Int} (R : Rs c w σ) (hsub : isK c.L [45] σ.ts = true) {inot : Bool} (hnot : isK c.L [33] σ.ts = inot) {ipar : Bool} (hpar : isK c.L [40] σ.ts = ipar) (hok : σ.ok = false) (hd : 64 ≤ d) :
 Calls Tryz.prog 221 #[c.ptr, .int .i64 d] w (RsPost c w ((zE, σ)) (exR w.heap.size)) := by
 obtain ⟨t, ht⟩ : ∃ t, t = hereM c.L σ.ts := ⟨_, rfl⟩
 have HH : Hid (∀ W, Rs c W σ → Calls Tryz.prog 121 #[c.ptr] W fun e w' => e = .returned (tkV t) ∧ Below W.heap.size W w') := fun W R => by rw [ht]; exact r_hereS R
 have HIsub : Hid (∀ W, Rs c W σ → Calls Tryz.prog 119 #[c.ptr, .string ⟨#[45]⟩] W fun e w' => e = .returned (.bool true) ∧ Below W.heap.size W w') := fun W R => by rw [← hsub]; exact r_isS R ⟨#[45]⟩
 have HInot : Hid (∀ W, Rs c W σ → Calls Tryz.prog 119 #[c.ptr, .string ⟨#[33]⟩] W fun e w' => e = .returned (.bool inot) ∧ Below W.heap.size W w') := fun W R => by rw [← hnot]; exact r_isS R ⟨#[33]⟩
 have HIpar : Hid (∀ W, Rs c W σ → Calls Tryz.prog 119 #[c.ptr, .string ⟨#[40]⟩] W fun e w' => e = .returned (.bool ipar) ∧ Below W.heap.size W w') := fun W R => by rw [← hpar]; exact r_isS R ⟨#[40]⟩
 have HT := Lib.hid ht
 have HS := Lib.hid R.s
 have A0 := Lib.hid (R.as.alloc (.cells zEx 38))
 have O0 := Lib.hid (Own.new w 38 zEx)
 have hX := Lib.hid R.lt
 have HO : Hid (∀ W, Rs c W σ → Calls Tryz.prog 29 #[c.ptr] W fun e w' => e = .returned (.bool false) ∧ Below W.heap.size W w') := fun W R => by rw [← hok]; exact r_okS R
 have HF : Hid (∀ W, Rs c W σ → Calls Tryz.prog 122 #[c.ptr, .int .i64 3] W fun e w' => e = .returned (.tuple #[]) ∧ Fr c W w' ∧ Rs c w' σ) := fun W R => by have := r_fail R 3; rw [bad_fail hok] at this; exact this
 clear hok
 clear hsub hnot hpar
 clear ht R
 obtain ⟨tk, tx, tw, tp⟩ := t
 unfold tkV Par.ptr zEx at *
 go_enter Tryz.func221, Tryz.ntmps221
 go_wp2_with fail
 go_at_call 121
 refine (HH.out _ (A0.out.rs HS.out)).mono ?_
 rintro e w1 ⟨rfl, hb⟩
 have A := Lib.hid ((A0.out.below hb).alloc (.cells #[.int .u8 tk, .string tx, .int .i64 tw, .int .i64 tp] 108))
 have hz := (O0.out.below hb).lt
 have O0 := Lib.hid ((O0.out.below hb).alloc (.cells #[.int .u8 tk, .string tx, .int .i64 tw, .int .i64 tp] 108))
 have T1 := Lib.hid (Own.new w1 108 #[.int .u8 tk, .string tx, .int .i64 tw, .int .i64 tp])
 have HX : Hid (c.X ≠ w.heap.size ∧ c.X ≠ w1.heap.size) := by have := hX.out; simp only [Hid]; omega
 have HZ := Lib.hid hz
 clear hb hz A0
 go_upto_region 2 with (fail)
 obtain ⟨W1, hW1⟩ : ∃ W, W = w1.alloc (.cells #[.int .u8 tk, .string tx, .int .i64 tw, .int .i64 tp] 108) := ⟨_, rfl⟩
 rw [← hW1] at A O0 T1 ⊢
 clear hW1
 go_wp2_with fail
 go_at_call 119
 refine (HIsub.out _ (A.out.rs HS.out)).mono ?_
 rintro e w2 ⟨rfl, hb⟩
 have A := Lib.hid (A.out.below hb)
 have O0 := Lib.hid (O0.out.below hb)
 have T1 := Lib.hid (T1.out.below hb)
 clear hb
 go_wp2_with fail
 go_at_call 122
 refine (HF.out _ (A.out.rs HS.out)).mono ?_
 rintro e w3 ⟨rfl, hf, hr⟩
 have A := Lib.hid (A.out.call hf hr)
 have O0 := Lib.hid (O0.out.fr hf HX.out.1)
 have T1 := Lib.hid (T1.out.fr hf HX.out.2)
 clear hf hr
 go_wp2_with fail
 go_at_call 29
 refine (HO.out _ (A.out.rs HS.out)).mono ?_
 rintro e w4 ⟨rfl, hb⟩
 have A := Lib.hid (A.out.below hb)
 have O0 := Lib.hid (O0.out.below hb)
 have T1 := Lib.hid (T1.out.below hb)
 clear hb
 have o0 := O0.out
 go_wp2_with (first | (refine st rowEx rfl rfl o0 rfl rfl (by rfl) (by rfl) (by kernel_rfl) ?_))
 have A := A.out.setRow (Nat.le_refl _) HX.out.1 #[.int .u8 0, .int .u8 0, .int .i64 0, .string ⟨#[]⟩, .slice none 0 0, .int .i64 0]
 refine p_ret rowEx rfl (o0.row #[.int .u8 0, .int .u8 0, .int .i64 0, .string ⟨#[]⟩, .slice none 0 0, .int .i64 0]) rfl rfl rfl ?_
 exact ⟨A.fr, _, rfl, ⟨none, 0, rfl, .inl rfl⟩, A.rs HS.out⟩
theorem un_bad_FT0 {c : Par} {w : World} {σ : Sr} {d : Int} (R : Rs c w σ) (hsub : isK c.L [45] σ.ts = false) (hnot : isK c.L [33] σ.ts = true) {ipar : Bool} (hpar : isK c.L [40] σ.ts = ipar) (hok : σ.ok = false) (hd : d < 64) :
 Calls Tryz.prog 221 #[c.ptr, .int .i64 d] w (RsPost c w ((zE, σ)) (exR w.heap.size)) := by
 obtain ⟨t, ht⟩ : ∃ t, t = hereM c.L σ.ts := ⟨_, rfl⟩
 have HH : Hid (∀ W, Rs c W σ → Calls Tryz.prog 121 #[c.ptr] W fun e w' => e = .returned (tkV t) ∧ Below W.heap.size W w') := fun W R => by rw [ht]; exact r_hereS R
 have HIsub : Hid (∀ W, Rs c W σ → Calls Tryz.prog 119 #[c.ptr, .string ⟨#[45]⟩] W fun e w' => e = .returned (.bool false) ∧ Below W.heap.size W w') := fun W R => by rw [← hsub]; exact r_isS R ⟨#[45]⟩
 have HInot : Hid (∀ W, Rs c W σ → Calls Tryz.prog 119 #[c.ptr, .string ⟨#[33]⟩] W fun e w' => e = .returned (.bool true) ∧ Below W.heap.size W w') := fun W R => by rw [← hnot]; exact r_isS R ⟨#[33]⟩
 have HIpar : Hid (∀ W, Rs c W σ → Calls Tryz.prog 119 #[c.ptr, .string ⟨#[40]⟩] W fun e w' => e = .returned (.bool ipar) ∧ Below W.heap.size W w') := fun W R => by rw [← hpar]; exact r_isS R ⟨#[40]⟩
 have HT := Lib.hid ht
 have HS := Lib.hid R.s
 have A0 := Lib.hid (R.as.alloc (.cells zEx 38))
 have O0 := Lib.hid (Own.new w 38 zEx)
 have hX := Lib.hid R.lt
 have HO : Hid (∀ W, Rs c W σ → Calls Tryz.prog 29 #[c.ptr] W fun e w' => e = .returned (.bool false) ∧ Below W.heap.size W w') := fun W R => by rw [← hok]; exact r_okS R
 clear hok
 clear hsub hnot hpar
 clear ht R
 obtain ⟨tk, tx, tw, tp⟩ := t
 unfold tkV Par.ptr zEx at *
 go_enter Tryz.func221, Tryz.ntmps221
 go_wp2_with fail
 go_at_call 121
 refine (HH.out _ (A0.out.rs HS.out)).mono ?_
 rintro e w1 ⟨rfl, hb⟩
 have A := Lib.hid ((A0.out.below hb).alloc (.cells #[.int .u8 tk, .string tx, .int .i64 tw, .int .i64 tp] 108))
 have hz := (O0.out.below hb).lt
 have O0 := Lib.hid ((O0.out.below hb).alloc (.cells #[.int .u8 tk, .string tx, .int .i64 tw, .int .i64 tp] 108))
 have T1 := Lib.hid (Own.new w1 108 #[.int .u8 tk, .string tx, .int .i64 tw, .int .i64 tp])
 have HX : Hid (c.X ≠ w.heap.size ∧ c.X ≠ w1.heap.size) := by have := hX.out; simp only [Hid]; omega
 have HZ := Lib.hid hz
 clear hb hz A0
 go_upto_region 2 with (fail)
 obtain ⟨W1, hW1⟩ : ∃ W, W = w1.alloc (.cells #[.int .u8 tk, .string tx, .int .i64 tw, .int .i64 tp] 108) := ⟨_, rfl⟩
 rw [← hW1] at A O0 T1 ⊢
 clear hW1
 go_wp2_with fail
 go_at_call 119
 refine (HIsub.out _ (A.out.rs HS.out)).mono ?_
 rintro e w2 ⟨rfl, hb⟩
 have A := Lib.hid (A.out.below hb)
 have O0 := Lib.hid (O0.out.below hb)
 have T1 := Lib.hid (T1.out.below hb)
 clear hb
 go_wp2_with fail
 go_at_call 119
 refine (HInot.out _ (A.out.rs HS.out)).mono ?_
 rintro e w3 ⟨rfl, hb⟩
 have A := Lib.hid (A.out.below hb)
 have O0 := Lib.hid (O0.out.below hb)
 have T1 := Lib.hid (T1.out.below hb)
 clear hb
 go_wp2_with fail
 go_at_call 29
 refine (HO.out _ (A.out.rs HS.out)).mono ?_
 rintro e w4 ⟨rfl, hb⟩
 have A := Lib.hid (A.out.below hb)
 have O0 := Lib.hid (O0.out.below hb)
 have T1 := Lib.hid (T1.out.below hb)
 clear hb
 have o0 := O0.out
 go_wp2_with (first | (refine st rowEx rfl rfl o0 rfl rfl (by rfl) (by rfl) (by kernel_rfl) ?_))
 have A := A.out.setRow (Nat.le_refl _) HX.out.1 #[.int .u8 0, .int .u8 0, .int .i64 0, .string ⟨#[]⟩, .slice none 0 0, .int .i64 0]
 refine p_ret rowEx rfl (o0.row #[.int .u8 0, .int .u8 0, .int .i64 0, .string ⟨#[]⟩, .slice none 0 0, .int .i64 0]) rfl rfl rfl ?_
 exact ⟨A.fr, _, rfl, ⟨none, 0, rfl, .inl rfl⟩, A.rs HS.out⟩
theorem un_bad_FT1 {c : Par} {w : World} {σ : Sr} {d : Int} (R : Rs c w σ) (hsub : isK c.L [45] σ.ts = false) (hnot : isK c.L [33] σ.ts = true) {ipar : Bool} (hpar : isK c.L [40] σ.ts = ipar) (hok : σ.ok = false) (hd : 64 ≤ d) :
 Calls Tryz.prog 221 #[c.ptr, .int .i64 d] w (RsPost c w ((zE, σ)) (exR w.heap.size)) := by
 obtain ⟨t, ht⟩ : ∃ t, t = hereM c.L σ.ts := ⟨_, rfl⟩
 have HH : Hid (∀ W, Rs c W σ → Calls Tryz.prog 121 #[c.ptr] W fun e w' => e = .returned (tkV t) ∧ Below W.heap.size W w') := fun W R => by rw [ht]; exact r_hereS R
 have HIsub : Hid (∀ W, Rs c W σ → Calls Tryz.prog 119 #[c.ptr, .string ⟨#[45]⟩] W fun e w' => e = .returned (.bool false) ∧ Below W.heap.size W w') := fun W R => by rw [← hsub]; exact r_isS R ⟨#[45]⟩
 have HInot : Hid (∀ W, Rs c W σ → Calls Tryz.prog 119 #[c.ptr, .string ⟨#[33]⟩] W fun e w' => e = .returned (.bool true) ∧ Below W.heap.size W w') := fun W R => by rw [← hnot]; exact r_isS R ⟨#[33]⟩
 have HIpar : Hid (∀ W, Rs c W σ → Calls Tryz.prog 119 #[c.ptr, .string ⟨#[40]⟩] W fun e w' => e = .returned (.bool ipar) ∧ Below W.heap.size W w') := fun W R => by rw [← hpar]; exact r_isS R ⟨#[40]⟩
 have HT := Lib.hid ht
 have HS := Lib.hid R.s
 have A0 := Lib.hid (R.as.alloc (.cells zEx 38))
 have O0 := Lib.hid (Own.new w 38 zEx)
 have hX := Lib.hid R.lt
 have HO : Hid (∀ W, Rs c W σ → Calls Tryz.prog 29 #[c.ptr] W fun e w' => e = .returned (.bool false) ∧ Below W.heap.size W w') := fun W R => by rw [← hok]; exact r_okS R
 have HF : Hid (∀ W, Rs c W σ → Calls Tryz.prog 122 #[c.ptr, .int .i64 3] W fun e w' => e = .returned (.tuple #[]) ∧ Fr c W w' ∧ Rs c w' σ) := fun W R => by have := r_fail R 3; rw [bad_fail hok] at this; exact this
 clear hok
 clear hsub hnot hpar
 clear ht R
 obtain ⟨tk, tx, tw, tp⟩ := t
 unfold tkV Par.ptr zEx at *
 go_enter Tryz.func221, Tryz.ntmps221
 go_wp2_with fail
 go_at_call 121
 refine (HH.out _ (A0.out.rs HS.out)).mono ?_
 rintro e w1 ⟨rfl, hb⟩
 have A := Lib.hid ((A0.out.below hb).alloc (.cells #[.int .u8 tk, .string tx, .int .i64 tw, .int .i64 tp] 108))
 have hz := (O0.out.below hb).lt
 have O0 := Lib.hid ((O0.out.below hb).alloc (.cells #[.int .u8 tk, .string tx, .int .i64 tw, .int .i64 tp] 108))
 have T1 := Lib.hid (Own.new w1 108 #[.int .u8 tk, .string tx, .int .i64 tw, .int .i64 tp])
 have HX : Hid (c.X ≠ w.heap.size ∧ c.X ≠ w1.heap.size) := by have := hX.out; simp only [Hid]; omega
 have HZ := Lib.hid hz
 clear hb hz A0
 go_upto_region 2 with (fail)
 obtain ⟨W1, hW1⟩ : ∃ W, W = w1.alloc (.cells #[.int .u8 tk, .string tx, .int .i64 tw, .int .i64 tp] 108) := ⟨_, rfl⟩
 rw [← hW1] at A O0 T1 ⊢
 clear hW1
 go_wp2_with fail
 go_at_call 119
 refine (HIsub.out _ (A.out.rs HS.out)).mono ?_
 rintro e w2 ⟨rfl, hb⟩
 have A := Lib.hid (A.out.below hb)
 have O0 := Lib.hid (O0.out.below hb)
 have T1 := Lib.hid (T1.out.below hb)
 clear hb
 go_wp2_with fail
 go_at_call 119
 refine (HInot.out _ (A.out.rs HS.out)).mono ?_
 rintro e w3 ⟨rfl, hb⟩
 have A := Lib.hid (A.out.below hb)
 have O0 := Lib.hid (O0.out.below hb)
 have T1 := Lib.hid (T1.out.below hb)
 clear hb
 go_wp2_with fail
 go_at_call 122
 refine (HF.out _ (A.out.rs HS.out)).mono ?_
 rintro e w4 ⟨rfl, hf, hr⟩
 have A := Lib.hid (A.out.call hf hr)
 have O0 := Lib.hid (O0.out.fr hf HX.out.1)
 have T1 := Lib.hid (T1.out.fr hf HX.out.2)
 clear hf hr
 go_wp2_with fail
 go_at_call 29
 refine (HO.out _ (A.out.rs HS.out)).mono ?_
 rintro e w5 ⟨rfl, hb⟩
 have A := Lib.hid (A.out.below hb)
 have O0 := Lib.hid (O0.out.below hb)
 have T1 := Lib.hid (T1.out.below hb)
 clear hb
 have o0 := O0.out
 go_wp2_with (first | (refine st rowEx rfl rfl o0 rfl rfl (by rfl) (by rfl) (by kernel_rfl) ?_))
 have A := A.out.setRow (Nat.le_refl _) HX.out.1 #[.int .u8 0, .int .u8 0, .int .i64 0, .string ⟨#[]⟩, .slice none 0 0, .int .i64 0]
 refine p_ret rowEx rfl (o0.row #[.int .u8 0, .int .u8 0, .int .i64 0, .string ⟨#[]⟩, .slice none 0 0, .int .i64 0]) rfl rfl rfl ?_
 exact ⟨A.fr, _, rfl, ⟨none, 0, rfl, .inl rfl⟩, A.rs HS.out⟩
theorem un_bad_FFT0 {c : Par} {w : World} {σ : Sr} {d : Int} (R : Rs c w σ) (hsub : isK c.L [45] σ.ts = false) (hnot : isK c.L [33] σ.ts = false) (hpar : isK c.L [40] σ.ts = true) (hok : σ.ok = false) (hd : d < 64) :
 Calls Tryz.prog 221 #[c.ptr, .int .i64 d] w (RsPost c w ((zE, σ)) (exR w.heap.size)) := by
 obtain ⟨t, ht⟩ : ∃ t, t = hereM c.L σ.ts := ⟨_, rfl⟩
 have HH : Hid (∀ W, Rs c W σ → Calls Tryz.prog 121 #[c.ptr] W fun e w' => e = .returned (tkV t) ∧ Below W.heap.size W w') := fun W R => by rw [ht]; exact r_hereS R
 have HIsub : Hid (∀ W, Rs c W σ → Calls Tryz.prog 119 #[c.ptr, .string ⟨#[45]⟩] W fun e w' => e = .returned (.bool false) ∧ Below W.heap.size W w') := fun W R => by rw [← hsub]; exact r_isS R ⟨#[45]⟩
 have HInot : Hid (∀ W, Rs c W σ → Calls Tryz.prog 119 #[c.ptr, .string ⟨#[33]⟩] W fun e w' => e = .returned (.bool false) ∧ Below W.heap.size W w') := fun W R => by rw [← hnot]; exact r_isS R ⟨#[33]⟩
 have HIpar : Hid (∀ W, Rs c W σ → Calls Tryz.prog 119 #[c.ptr, .string ⟨#[40]⟩] W fun e w' => e = .returned (.bool true) ∧ Below W.heap.size W w') := fun W R => by rw [← hpar]; exact r_isS R ⟨#[40]⟩
 have HT := Lib.hid ht
 have HS := Lib.hid R.s
 have A0 := Lib.hid (R.as.alloc (.cells zEx 38))
 have O0 := Lib.hid (Own.new w 38 zEx)
 have hX := Lib.hid R.lt
 have HO : Hid (∀ W, Rs c W σ → Calls Tryz.prog 29 #[c.ptr] W fun e w' => e = .returned (.bool false) ∧ Below W.heap.size W w') := fun W R => by rw [← hok]; exact r_okS R
 clear hok
 clear hsub hnot hpar
 clear ht R
 obtain ⟨tk, tx, tw, tp⟩ := t
 unfold tkV Par.ptr zEx at *
 go_enter Tryz.func221, Tryz.ntmps221
 go_wp2_with fail
 go_at_call 121
 refine (HH.out _ (A0.out.rs HS.out)).mono ?_
 rintro e w1 ⟨rfl, hb⟩
 have A := Lib.hid ((A0.out.below hb).alloc (.cells #[.int .u8 tk, .string tx, .int .i64 tw, .int .i64 tp] 108))
 have hz := (O0.out.below hb).lt
 have O0 := Lib.hid ((O0.out.below hb).alloc (.cells #[.int .u8 tk, .string tx, .int .i64 tw, .int .i64 tp] 108))
 have T1 := Lib.hid (Own.new w1 108 #[.int .u8 tk, .string tx, .int .i64 tw, .int .i64 tp])
 have HX : Hid (c.X ≠ w.heap.size ∧ c.X ≠ w1.heap.size) := by have := hX.out; simp only [Hid]; omega
 have HZ := Lib.hid hz
 clear hb hz A0
 go_upto_region 2 with (fail)
 obtain ⟨W1, hW1⟩ : ∃ W, W = w1.alloc (.cells #[.int .u8 tk, .string tx, .int .i64 tw, .int .i64 tp] 108) := ⟨_, rfl⟩
 rw [← hW1] at A O0 T1 ⊢
 clear hW1
 go_wp2_with fail
 go_at_call 119
 refine (HIsub.out _ (A.out.rs HS.out)).mono ?_
 rintro e w2 ⟨rfl, hb⟩
 have A := Lib.hid (A.out.below hb)
 have O0 := Lib.hid (O0.out.below hb)
 have T1 := Lib.hid (T1.out.below hb)
 clear hb
 go_wp2_with fail
 go_at_call 119
 refine (HInot.out _ (A.out.rs HS.out)).mono ?_
 rintro e w3 ⟨rfl, hb⟩
 have A := Lib.hid (A.out.below hb)
 have O0 := Lib.hid (O0.out.below hb)
 have T1 := Lib.hid (T1.out.below hb)
 clear hb
 go_wp2_with fail
 go_at_call 119
 refine (HIpar.out _ (A.out.rs HS.out)).mono ?_
 rintro e w4 ⟨rfl, hb⟩
 have A := Lib.hid (A.out.below hb)
 have O0 := Lib.hid (O0.out.below hb)
 have T1 := Lib.hid (T1.out.below hb)
 clear hb
 go_wp2_with fail
 go_at_call 29
 refine (HO.out _ (A.out.rs HS.out)).mono ?_
 rintro e w5 ⟨rfl, hb⟩
 have A := Lib.hid (A.out.below hb)
 have O0 := Lib.hid (O0.out.below hb)
 have T1 := Lib.hid (T1.out.below hb)
 clear hb
 have o0 := O0.out
 go_wp2_with (first | (refine st rowEx rfl rfl o0 rfl rfl (by rfl) (by rfl) (by kernel_rfl) ?_))
 have A := A.out.setRow (Nat.le_refl _) HX.out.1 #[.int .u8 0, .int .u8 0, .int .i64 0, .string ⟨#[]⟩, .slice none 0 0, .int .i64 0]
 refine p_ret rowEx rfl (o0.row #[.int .u8 0, .int .u8 0, .int .i64 0, .string ⟨#[]⟩, .slice none 0 0, .int .i64 0]) rfl rfl rfl ?_
 exact ⟨A.fr, _, rfl, ⟨none, 0, rfl, .inl rfl⟩, A.rs HS.out⟩
theorem un_bad_FFT1 {c : Par} {w : World} {σ : Sr} {d : Int} (R : Rs c w σ) (hsub : isK c.L [45] σ.ts = false) (hnot : isK c.L [33] σ.ts = false) (hpar : isK c.L [40] σ.ts = true) (hok : σ.ok = false) (hd : 64 ≤ d) :
 Calls Tryz.prog 221 #[c.ptr, .int .i64 d] w (RsPost c w ((zE, σ)) (exR w.heap.size)) := by
 obtain ⟨t, ht⟩ : ∃ t, t = hereM c.L σ.ts := ⟨_, rfl⟩
 have HH : Hid (∀ W, Rs c W σ → Calls Tryz.prog 121 #[c.ptr] W fun e w' => e = .returned (tkV t) ∧ Below W.heap.size W w') := fun W R => by rw [ht]; exact r_hereS R
 have HIsub : Hid (∀ W, Rs c W σ → Calls Tryz.prog 119 #[c.ptr, .string ⟨#[45]⟩] W fun e w' => e = .returned (.bool false) ∧ Below W.heap.size W w') := fun W R => by rw [← hsub]; exact r_isS R ⟨#[45]⟩
 have HInot : Hid (∀ W, Rs c W σ → Calls Tryz.prog 119 #[c.ptr, .string ⟨#[33]⟩] W fun e w' => e = .returned (.bool false) ∧ Below W.heap.size W w') := fun W R => by rw [← hnot]; exact r_isS R ⟨#[33]⟩
 have HIpar : Hid (∀ W, Rs c W σ → Calls Tryz.prog 119 #[c.ptr, .string ⟨#[40]⟩] W fun e w' => e = .returned (.bool true) ∧ Below W.heap.size W w') := fun W R => by rw [← hpar]; exact r_isS R ⟨#[40]⟩
 have HT := Lib.hid ht
 have HS := Lib.hid R.s
 have A0 := Lib.hid (R.as.alloc (.cells zEx 38))
 have O0 := Lib.hid (Own.new w 38 zEx)
 have hX := Lib.hid R.lt
 have HO : Hid (∀ W, Rs c W σ → Calls Tryz.prog 29 #[c.ptr] W fun e w' => e = .returned (.bool false) ∧ Below W.heap.size W w') := fun W R => by rw [← hok]; exact r_okS R
 have HF : Hid (∀ W, Rs c W σ → Calls Tryz.prog 122 #[c.ptr, .int .i64 3] W fun e w' => e = .returned (.tuple #[]) ∧ Fr c W w' ∧ Rs c w' σ) := fun W R => by have := r_fail R 3; rw [bad_fail hok] at this; exact this
 clear hok
 clear hsub hnot hpar
 clear ht R
 obtain ⟨tk, tx, tw, tp⟩ := t
 unfold tkV Par.ptr zEx at *
 go_enter Tryz.func221, Tryz.ntmps221
 go_wp2_with fail
 go_at_call 121
 refine (HH.out _ (A0.out.rs HS.out)).mono ?_
 rintro e w1 ⟨rfl, hb⟩
 have A := Lib.hid ((A0.out.below hb).alloc (.cells #[.int .u8 tk, .string tx, .int .i64 tw, .int .i64 tp] 108))
 have hz := (O0.out.below hb).lt
 have O0 := Lib.hid ((O0.out.below hb).alloc (.cells #[.int .u8 tk, .string tx, .int .i64 tw, .int .i64 tp] 108))
 have T1 := Lib.hid (Own.new w1 108 #[.int .u8 tk, .string tx, .int .i64 tw, .int .i64 tp])
 have HX : Hid (c.X ≠ w.heap.size ∧ c.X ≠ w1.heap.size) := by have := hX.out; simp only [Hid]; omega
 have HZ := Lib.hid hz
 clear hb hz A0
 go_upto_region 2 with (fail)
 obtain ⟨W1, hW1⟩ : ∃ W, W = w1.alloc (.cells #[.int .u8 tk, .string tx, .int .i64 tw, .int .i64 tp] 108) := ⟨_, rfl⟩
 rw [← hW1] at A O0 T1 ⊢
 clear hW1
 go_wp2_with fail
 go_at_call 119
 refine (HIsub.out _ (A.out.rs HS.out)).mono ?_
 rintro e w2 ⟨rfl, hb⟩
 have A := Lib.hid (A.out.below hb)
 have O0 := Lib.hid (O0.out.below hb)
 have T1 := Lib.hid (T1.out.below hb)
 clear hb
 go_wp2_with fail
 go_at_call 119
 refine (HInot.out _ (A.out.rs HS.out)).mono ?_
 rintro e w3 ⟨rfl, hb⟩
 have A := Lib.hid (A.out.below hb)
 have O0 := Lib.hid (O0.out.below hb)
 have T1 := Lib.hid (T1.out.below hb)
 clear hb
 go_wp2_with fail
 go_at_call 119
 refine (HIpar.out _ (A.out.rs HS.out)).mono ?_
 rintro e w4 ⟨rfl, hb⟩
 have A := Lib.hid (A.out.below hb)
 have O0 := Lib.hid (O0.out.below hb)
 have T1 := Lib.hid (T1.out.below hb)
 clear hb
 go_wp2_with fail
 go_at_call 122
 refine (HF.out _ (A.out.rs HS.out)).mono ?_
 rintro e w5 ⟨rfl, hf, hr⟩
 have A := Lib.hid (A.out.call hf hr)
 have O0 := Lib.hid (O0.out.fr hf HX.out.1)
 have T1 := Lib.hid (T1.out.fr hf HX.out.2)
 clear hf hr
 go_wp2_with fail
 go_at_call 29
 refine (HO.out _ (A.out.rs HS.out)).mono ?_
 rintro e w6 ⟨rfl, hb⟩
 have A := Lib.hid (A.out.below hb)
 have O0 := Lib.hid (O0.out.below hb)
 have T1 := Lib.hid (T1.out.below hb)
 clear hb
 have o0 := O0.out
 go_wp2_with (first | (refine st rowEx rfl rfl o0 rfl rfl (by rfl) (by rfl) (by kernel_rfl) ?_))
 have A := A.out.setRow (Nat.le_refl _) HX.out.1 #[.int .u8 0, .int .u8 0, .int .i64 0, .string ⟨#[]⟩, .slice none 0 0, .int .i64 0]
 refine p_ret rowEx rfl (o0.row #[.int .u8 0, .int .u8 0, .int .i64 0, .string ⟨#[]⟩, .slice none 0 0, .int .i64 0]) rfl rfl rfl ?_
 exact ⟨A.fr, _, rfl, ⟨none, 0, rfl, .inl rfl⟩, A.rs HS.out⟩
theorem un_bad_FFF0 {c : Par} {w : World} {σ : Sr} {d : Int} (R : Rs c w σ) (hsub : isK c.L [45] σ.ts = false) (hnot : isK c.L [33] σ.ts = false) (hpar : isK c.L [40] σ.ts = false) (hok : σ.ok = false) :
 Calls Tryz.prog 221 #[c.ptr, .int .i64 d] w (RsPost c w ((zE, σ)) (exR w.heap.size)) := by
 obtain ⟨t, ht⟩ : ∃ t, t = hereM c.L σ.ts := ⟨_, rfl⟩
 have HH : Hid (∀ W, Rs c W σ → Calls Tryz.prog 121 #[c.ptr] W fun e w' => e = .returned (tkV t) ∧ Below W.heap.size W w') := fun W R => by rw [ht]; exact r_hereS R
 have HIsub : Hid (∀ W, Rs c W σ → Calls Tryz.prog 119 #[c.ptr, .string ⟨#[45]⟩] W fun e w' => e = .returned (.bool false) ∧ Below W.heap.size W w') := fun W R => by rw [← hsub]; exact r_isS R ⟨#[45]⟩
 have HInot : Hid (∀ W, Rs c W σ → Calls Tryz.prog 119 #[c.ptr, .string ⟨#[33]⟩] W fun e w' => e = .returned (.bool false) ∧ Below W.heap.size W w') := fun W R => by rw [← hnot]; exact r_isS R ⟨#[33]⟩
 have HIpar : Hid (∀ W, Rs c W σ → Calls Tryz.prog 119 #[c.ptr, .string ⟨#[40]⟩] W fun e w' => e = .returned (.bool false) ∧ Below W.heap.size W w') := fun W R => by rw [← hpar]; exact r_isS R ⟨#[40]⟩
 have HT := Lib.hid ht
 have HS := Lib.hid R.s
 have A0 := Lib.hid (R.as.alloc (.cells zEx 38))
 have O0 := Lib.hid (Own.new w 38 zEx)
 have hX := Lib.hid R.lt
 have HO : Hid (∀ W, Rs c W σ → Calls Tryz.prog 29 #[c.ptr] W fun e w' => e = .returned (.bool false) ∧ Below W.heap.size W w') := fun W R => by rw [← hok]; exact r_okS R
 clear hok
 clear hsub hnot hpar
 clear ht R
 obtain ⟨tk, tx, tw, tp⟩ := t
 unfold tkV Par.ptr zEx at *
 go_enter Tryz.func221, Tryz.ntmps221
 go_wp2_with fail
 go_at_call 121
 refine (HH.out _ (A0.out.rs HS.out)).mono ?_
 rintro e w1 ⟨rfl, hb⟩
 have A := Lib.hid ((A0.out.below hb).alloc (.cells #[.int .u8 tk, .string tx, .int .i64 tw, .int .i64 tp] 108))
 have hz := (O0.out.below hb).lt
 have O0 := Lib.hid ((O0.out.below hb).alloc (.cells #[.int .u8 tk, .string tx, .int .i64 tw, .int .i64 tp] 108))
 have T1 := Lib.hid (Own.new w1 108 #[.int .u8 tk, .string tx, .int .i64 tw, .int .i64 tp])
 have HX : Hid (c.X ≠ w.heap.size ∧ c.X ≠ w1.heap.size) := by have := hX.out; simp only [Hid]; omega
 have HZ := Lib.hid hz
 clear hb hz A0
 go_upto_region 2 with (fail)
 obtain ⟨W1, hW1⟩ : ∃ W, W = w1.alloc (.cells #[.int .u8 tk, .string tx, .int .i64 tw, .int .i64 tp] 108) := ⟨_, rfl⟩
 rw [← hW1] at A O0 T1 ⊢
 clear hW1
 go_wp2_with fail
 go_at_call 119
 refine (HIsub.out _ (A.out.rs HS.out)).mono ?_
 rintro e w2 ⟨rfl, hb⟩
 have A := Lib.hid (A.out.below hb)
 have O0 := Lib.hid (O0.out.below hb)
 have T1 := Lib.hid (T1.out.below hb)
 clear hb
 go_wp2_with fail
 go_at_call 119
 refine (HInot.out _ (A.out.rs HS.out)).mono ?_
 rintro e w3 ⟨rfl, hb⟩
 have A := Lib.hid (A.out.below hb)
 have O0 := Lib.hid (O0.out.below hb)
 have T1 := Lib.hid (T1.out.below hb)
 clear hb
 go_wp2_with fail
 go_at_call 119
 refine (HIpar.out _ (A.out.rs HS.out)).mono ?_
 rintro e w4 ⟨rfl, hb⟩
 have A := Lib.hid (A.out.below hb)
 have O0 := Lib.hid (O0.out.below hb)
 have T1 := Lib.hid (T1.out.below hb)
 clear hb
 go_wp2_with fail
 go_at_call 29
 refine (HO.out _ (A.out.rs HS.out)).mono ?_
 rintro e w5 ⟨rfl, hb⟩
 have A := Lib.hid (A.out.below hb)
 have O0 := Lib.hid (O0.out.below hb)
 have T1 := Lib.hid (T1.out.below hb)
 clear hb
 have o0 := O0.out
 go_wp2_with (first | (refine st rowEx rfl rfl o0 rfl rfl (by rfl) (by rfl) (by kernel_rfl) ?_))
 have A := A.out.setRow (Nat.le_refl _) HX.out.1 #[.int .u8 0, .int .u8 0, .int .i64 0, .string ⟨#[]⟩, .slice none 0 0, .int .i64 0]
 refine p_ret rowEx rfl (o0.row #[.int .u8 0, .int .u8 0, .int .i64 0, .string ⟨#[]⟩, .slice none 0 0, .int .i64 0]) rfl rfl rfl ?_
 exact ⟨A.fr, _, rfl, ⟨none, 0, rfl, .inl rfl⟩, A.rs HS.out⟩
theorem un_deep_T {c : Par} {w : World} {σ : Sr} {d : Int} (R : Rs c w σ) (hsub : isK c.L [45] σ.ts = true) {inot : Bool} (hnot : isK c.L [33] σ.ts = inot) {ipar : Bool} (hpar : isK c.L [40] σ.ts = ipar) (hd : 64 ≤ d) :
 Calls Tryz.prog 221 #[c.ptr, .int .i64 d] w (RsPost c w ((zE, σ.fail c.L 3)) (exR w.heap.size)) := by
 obtain ⟨t, ht⟩ : ∃ t, t = hereM c.L σ.ts := ⟨_, rfl⟩
 have HH : Hid (∀ W, Rs c W σ → Calls Tryz.prog 121 #[c.ptr] W fun e w' => e = .returned (tkV t) ∧ Below W.heap.size W w') := fun W R => by rw [ht]; exact r_hereS R
 have HIsub : Hid (∀ W, Rs c W σ → Calls Tryz.prog 119 #[c.ptr, .string ⟨#[45]⟩] W fun e w' => e = .returned (.bool true) ∧ Below W.heap.size W w') := fun W R => by rw [← hsub]; exact r_isS R ⟨#[45]⟩
 have HInot : Hid (∀ W, Rs c W σ → Calls Tryz.prog 119 #[c.ptr, .string ⟨#[33]⟩] W fun e w' => e = .returned (.bool inot) ∧ Below W.heap.size W w') := fun W R => by rw [← hnot]; exact r_isS R ⟨#[33]⟩
 have HIpar : Hid (∀ W, Rs c W σ → Calls Tryz.prog 119 #[c.ptr, .string ⟨#[40]⟩] W fun e w' => e = .returned (.bool ipar) ∧ Below W.heap.size W w') := fun W R => by rw [← hpar]; exact r_isS R ⟨#[40]⟩
 have HT := Lib.hid ht
 have HS := Lib.hid R.s
 have A0 := Lib.hid (R.as.alloc (.cells zEx 38))
 have O0 := Lib.hid (Own.new w 38 zEx)
 have hX := Lib.hid R.lt
 obtain ⟨σ3, hσ3⟩ : ∃ σ3, σ3 = σ.fail c.L 3 := ⟨_, rfl⟩
 have HF : Hid (∀ W, Rs c W σ → Calls Tryz.prog 122 #[c.ptr, .int .i64 3] W fun e w' => e = .returned (.tuple #[]) ∧ Fr c W w' ∧ Rs c w' σ3) := fun W R => by rw [hσ3]; exact r_fail R 3
 have HO : Hid (∀ W, Rs c W σ3 → Calls Tryz.prog 29 #[c.ptr] W fun e w' => e = .returned (.bool false) ∧ Below W.heap.size W w') := fun W R => by have := r_okS R; rw [hσ3, fail_ok (by decide)] at this; exact this
 rw [← hσ3]
 clear hσ3
 clear hsub hnot hpar
 clear ht R
 obtain ⟨tk, tx, tw, tp⟩ := t
 unfold tkV Par.ptr zEx at *
 go_enter Tryz.func221, Tryz.ntmps221
 go_wp2_with fail
 go_at_call 121
 refine (HH.out _ (A0.out.rs HS.out)).mono ?_
 rintro e w1 ⟨rfl, hb⟩
 have A := Lib.hid ((A0.out.below hb).alloc (.cells #[.int .u8 tk, .string tx, .int .i64 tw, .int .i64 tp] 108))
 have hz := (O0.out.below hb).lt
 have O0 := Lib.hid ((O0.out.below hb).alloc (.cells #[.int .u8 tk, .string tx, .int .i64 tw, .int .i64 tp] 108))
 have T1 := Lib.hid (Own.new w1 108 #[.int .u8 tk, .string tx, .int .i64 tw, .int .i64 tp])
 have HX : Hid (c.X ≠ w.heap.size ∧ c.X ≠ w1.heap.size) := by have := hX.out; simp only [Hid]; omega
 have HZ := Lib.hid hz
 clear hb hz A0
 go_upto_region 2 with (fail)
 obtain ⟨W1, hW1⟩ : ∃ W, W = w1.alloc (.cells #[.int .u8 tk, .string tx, .int .i64 tw, .int .i64 tp] 108) := ⟨_, rfl⟩
 rw [← hW1] at A O0 T1 ⊢
 clear hW1
 go_wp2_with fail
 go_at_call 119
 refine (HIsub.out _ (A.out.rs HS.out)).mono ?_
 rintro e w2 ⟨rfl, hb⟩
 have A := Lib.hid (A.out.below hb)
 have O0 := Lib.hid (O0.out.below hb)
 have T1 := Lib.hid (T1.out.below hb)
 clear hb
 go_wp2_with fail
 go_at_call 122
 refine (HF.out _ (A.out.rs HS.out)).mono ?_
 rintro e w3 ⟨rfl, hf, hr⟩
 have A := Lib.hid (A.out.call hf hr)
 have O0 := Lib.hid (O0.out.fr hf HX.out.1)
 have T1 := Lib.hid (T1.out.fr hf HX.out.2)
 clear hf hr
 go_wp2_with fail
 go_at_call 29
 refine (HO.out _ (A.out.rs HS.out)).mono ?_
 rintro e w4 ⟨rfl, hb⟩
 have A := Lib.hid (A.out.below hb)
 have O0 := Lib.hid (O0.out.below hb)
 have T1 := Lib.hid (T1.out.below hb)
 clear hb
 have o0 := O0.out
 go_wp2_with (first | (refine st rowEx rfl rfl o0 rfl rfl (by rfl) (by rfl) (by kernel_rfl) ?_))
 have A := A.out.setRow (Nat.le_refl _) HX.out.1 #[.int .u8 0, .int .u8 0, .int .i64 0, .string ⟨#[]⟩, .slice none 0 0, .int .i64 0]
 refine p_ret rowEx rfl (o0.row #[.int .u8 0, .int .u8 0, .int .i64 0, .string ⟨#[]⟩, .slice none 0 0, .int .i64 0]) rfl rfl rfl ?_
 exact ⟨A.fr, _, rfl, ⟨none, 0, rfl, .inl rfl⟩, A.rs HS.out⟩
theorem un_deep_FT {c : Par} {w : World} {σ : Sr} {d : Int} (R : Rs c w σ) (hsub : isK c.L [45] σ.ts = false) (hnot : isK c.L [33] σ.ts = true) {ipar : Bool} (hpar : isK c.L [40] σ.ts = ipar) (hd : 64 ≤ d) :
 Calls Tryz.prog 221 #[c.ptr, .int .i64 d] w (RsPost c w ((zE, σ.fail c.L 3)) (exR w.heap.size)) := by
 obtain ⟨t, ht⟩ : ∃ t, t = hereM c.L σ.ts := ⟨_, rfl⟩
 have HH : Hid (∀ W, Rs c W σ → Calls Tryz.prog 121 #[c.ptr] W fun e w' => e = .returned (tkV t) ∧ Below W.heap.size W w') := fun W R => by rw [ht]; exact r_hereS R
 have HIsub : Hid (∀ W, Rs c W σ → Calls Tryz.prog 119 #[c.ptr, .string ⟨#[45]⟩] W fun e w' => e = .returned (.bool false) ∧ Below W.heap.size W w') := fun W R => by rw [← hsub]; exact r_isS R ⟨#[45]⟩
 have HInot : Hid (∀ W, Rs c W σ → Calls Tryz.prog 119 #[c.ptr, .string ⟨#[33]⟩] W fun e w' => e = .returned (.bool true) ∧ Below W.heap.size W w') := fun W R => by rw [← hnot]; exact r_isS R ⟨#[33]⟩
 have HIpar : Hid (∀ W, Rs c W σ → Calls Tryz.prog 119 #[c.ptr, .string ⟨#[40]⟩] W fun e w' => e = .returned (.bool ipar) ∧ Below W.heap.size W w') := fun W R => by rw [← hpar]; exact r_isS R ⟨#[40]⟩
 have HT := Lib.hid ht
 have HS := Lib.hid R.s
 have A0 := Lib.hid (R.as.alloc (.cells zEx 38))
 have O0 := Lib.hid (Own.new w 38 zEx)
 have hX := Lib.hid R.lt
 obtain ⟨σ3, hσ3⟩ : ∃ σ3, σ3 = σ.fail c.L 3 := ⟨_, rfl⟩
 have HF : Hid (∀ W, Rs c W σ → Calls Tryz.prog 122 #[c.ptr, .int .i64 3] W fun e w' => e = .returned (.tuple #[]) ∧ Fr c W w' ∧ Rs c w' σ3) := fun W R => by rw [hσ3]; exact r_fail R 3
 have HO : Hid (∀ W, Rs c W σ3 → Calls Tryz.prog 29 #[c.ptr] W fun e w' => e = .returned (.bool false) ∧ Below W.heap.size W w') := fun W R => by have := r_okS R; rw [hσ3, fail_ok (by decide)] at this; exact this
 rw [← hσ3]
 clear hσ3
 clear hsub hnot hpar
 clear ht R
 obtain ⟨tk, tx, tw, tp⟩ := t
 unfold tkV Par.ptr zEx at *
 go_enter Tryz.func221, Tryz.ntmps221
 go_wp2_with fail
 go_at_call 121
 refine (HH.out _ (A0.out.rs HS.out)).mono ?_
 rintro e w1 ⟨rfl, hb⟩
 have A := Lib.hid ((A0.out.below hb).alloc (.cells #[.int .u8 tk, .string tx, .int .i64 tw, .int .i64 tp] 108))
 have hz := (O0.out.below hb).lt
 have O0 := Lib.hid ((O0.out.below hb).alloc (.cells #[.int .u8 tk, .string tx, .int .i64 tw, .int .i64 tp] 108))
 have T1 := Lib.hid (Own.new w1 108 #[.int .u8 tk, .string tx, .int .i64 tw, .int .i64 tp])
 have HX : Hid (c.X ≠ w.heap.size ∧ c.X ≠ w1.heap.size) := by have := hX.out; simp only [Hid]; omega
 have HZ := Lib.hid hz
 clear hb hz A0
 go_upto_region 2 with (fail)
 obtain ⟨W1, hW1⟩ : ∃ W, W = w1.alloc (.cells #[.int .u8 tk, .string tx, .int .i64 tw, .int .i64 tp] 108) := ⟨_, rfl⟩
 rw [← hW1] at A O0 T1 ⊢
 clear hW1
 go_wp2_with fail
 go_at_call 119
 refine (HIsub.out _ (A.out.rs HS.out)).mono ?_
 rintro e w2 ⟨rfl, hb⟩
 have A := Lib.hid (A.out.below hb)
 have O0 := Lib.hid (O0.out.below hb)
 have T1 := Lib.hid (T1.out.below hb)
 clear hb
 go_wp2_with fail
 go_at_call 119
 refine (HInot.out _ (A.out.rs HS.out)).mono ?_
 rintro e w3 ⟨rfl, hb⟩
 have A := Lib.hid (A.out.below hb)
 have O0 := Lib.hid (O0.out.below hb)
 have T1 := Lib.hid (T1.out.below hb)
 clear hb
 go_wp2_with fail
 go_at_call 122
 refine (HF.out _ (A.out.rs HS.out)).mono ?_
 rintro e w4 ⟨rfl, hf, hr⟩
 have A := Lib.hid (A.out.call hf hr)
 have O0 := Lib.hid (O0.out.fr hf HX.out.1)
 have T1 := Lib.hid (T1.out.fr hf HX.out.2)
 clear hf hr
 go_wp2_with fail
 go_at_call 29
 refine (HO.out _ (A.out.rs HS.out)).mono ?_
 rintro e w5 ⟨rfl, hb⟩
 have A := Lib.hid (A.out.below hb)
 have O0 := Lib.hid (O0.out.below hb)
 have T1 := Lib.hid (T1.out.below hb)
 clear hb
 have o0 := O0.out
 go_wp2_with (first | (refine st rowEx rfl rfl o0 rfl rfl (by rfl) (by rfl) (by kernel_rfl) ?_))
 have A := A.out.setRow (Nat.le_refl _) HX.out.1 #[.int .u8 0, .int .u8 0, .int .i64 0, .string ⟨#[]⟩, .slice none 0 0, .int .i64 0]
 refine p_ret rowEx rfl (o0.row #[.int .u8 0, .int .u8 0, .int .i64 0, .string ⟨#[]⟩, .slice none 0 0, .int .i64 0]) rfl rfl rfl ?_
 exact ⟨A.fr, _, rfl, ⟨none, 0, rfl, .inl rfl⟩, A.rs HS.out⟩
theorem un_deep_FFT {c : Par} {w : World} {σ : Sr} {d : Int} (R : Rs c w σ) (hsub : isK c.L [45] σ.ts = false) (hnot : isK c.L [33] σ.ts = false) (hpar : isK c.L [40] σ.ts = true) (hd : 64 ≤ d) :
 Calls Tryz.prog 221 #[c.ptr, .int .i64 d] w (RsPost c w ((zE, σ.fail c.L 3)) (exR w.heap.size)) := by
 obtain ⟨t, ht⟩ : ∃ t, t = hereM c.L σ.ts := ⟨_, rfl⟩
 have HH : Hid (∀ W, Rs c W σ → Calls Tryz.prog 121 #[c.ptr] W fun e w' => e = .returned (tkV t) ∧ Below W.heap.size W w') := fun W R => by rw [ht]; exact r_hereS R
 have HIsub : Hid (∀ W, Rs c W σ → Calls Tryz.prog 119 #[c.ptr, .string ⟨#[45]⟩] W fun e w' => e = .returned (.bool false) ∧ Below W.heap.size W w') := fun W R => by rw [← hsub]; exact r_isS R ⟨#[45]⟩
 have HInot : Hid (∀ W, Rs c W σ → Calls Tryz.prog 119 #[c.ptr, .string ⟨#[33]⟩] W fun e w' => e = .returned (.bool false) ∧ Below W.heap.size W w') := fun W R => by rw [← hnot]; exact r_isS R ⟨#[33]⟩
 have HIpar : Hid (∀ W, Rs c W σ → Calls Tryz.prog 119 #[c.ptr, .string ⟨#[40]⟩] W fun e w' => e = .returned (.bool true) ∧ Below W.heap.size W w') := fun W R => by rw [← hpar]; exact r_isS R ⟨#[40]⟩
 have HT := Lib.hid ht
 have HS := Lib.hid R.s
 have A0 := Lib.hid (R.as.alloc (.cells zEx 38))
 have O0 := Lib.hid (Own.new w 38 zEx)
 have hX := Lib.hid R.lt
 obtain ⟨σ3, hσ3⟩ : ∃ σ3, σ3 = σ.fail c.L 3 := ⟨_, rfl⟩
 have HF : Hid (∀ W, Rs c W σ → Calls Tryz.prog 122 #[c.ptr, .int .i64 3] W fun e w' => e = .returned (.tuple #[]) ∧ Fr c W w' ∧ Rs c w' σ3) := fun W R => by rw [hσ3]; exact r_fail R 3
 have HO : Hid (∀ W, Rs c W σ3 → Calls Tryz.prog 29 #[c.ptr] W fun e w' => e = .returned (.bool false) ∧ Below W.heap.size W w') := fun W R => by have := r_okS R; rw [hσ3, fail_ok (by decide)] at this; exact this
 rw [← hσ3]
 clear hσ3
 clear hsub hnot hpar
 clear ht R
 obtain ⟨tk, tx, tw, tp⟩ := t
 unfold tkV Par.ptr zEx at *
 go_enter Tryz.func221, Tryz.ntmps221
 go_wp2_with fail
 go_at_call 121
 refine (HH.out _ (A0.out.rs HS.out)).mono ?_
 rintro e w1 ⟨rfl, hb⟩
 have A := Lib.hid ((A0.out.below hb).alloc (.cells #[.int .u8 tk, .string tx, .int .i64 tw, .int .i64 tp] 108))
 have hz := (O0.out.below hb).lt
 have O0 := Lib.hid ((O0.out.below hb).alloc (.cells #[.int .u8 tk, .string tx, .int .i64 tw, .int .i64 tp] 108))
 have T1 := Lib.hid (Own.new w1 108 #[.int .u8 tk, .string tx, .int .i64 tw, .int .i64 tp])
 have HX : Hid (c.X ≠ w.heap.size ∧ c.X ≠ w1.heap.size) := by have := hX.out; simp only [Hid]; omega
 have HZ := Lib.hid hz
 clear hb hz A0
 go_upto_region 2 with (fail)
 obtain ⟨W1, hW1⟩ : ∃ W, W = w1.alloc (.cells #[.int .u8 tk, .string tx, .int .i64 tw, .int .i64 tp] 108) := ⟨_, rfl⟩
 rw [← hW1] at A O0 T1 ⊢
 clear hW1
 go_wp2_with fail
 go_at_call 119
 refine (HIsub.out _ (A.out.rs HS.out)).mono ?_
 rintro e w2 ⟨rfl, hb⟩
 have A := Lib.hid (A.out.below hb)
 have O0 := Lib.hid (O0.out.below hb)
 have T1 := Lib.hid (T1.out.below hb)
 clear hb
 go_wp2_with fail
 go_at_call 119
 refine (HInot.out _ (A.out.rs HS.out)).mono ?_
 rintro e w3 ⟨rfl, hb⟩
 have A := Lib.hid (A.out.below hb)
 have O0 := Lib.hid (O0.out.below hb)
 have T1 := Lib.hid (T1.out.below hb)
 clear hb
 go_wp2_with fail
 go_at_call 119
 refine (HIpar.out _ (A.out.rs HS.out)).mono ?_
 rintro e w4 ⟨rfl, hb⟩
 have A := Lib.hid (A.out.below hb)
 have O0 := Lib.hid (O0.out.below hb)
 have T1 := Lib.hid (T1.out.below hb)
 clear hb
 go_wp2_with fail
 go_at_call 122
 refine (HF.out _ (A.out.rs HS.out)).mono ?_
 rintro e w5 ⟨rfl, hf, hr⟩
 have A := Lib.hid (A.out.call hf hr)
 have O0 := Lib.hid (O0.out.fr hf HX.out.1)
 have T1 := Lib.hid (T1.out.fr hf HX.out.2)
 clear hf hr
 go_wp2_with fail
 go_at_call 29
 refine (HO.out _ (A.out.rs HS.out)).mono ?_
 rintro e w6 ⟨rfl, hb⟩
 have A := Lib.hid (A.out.below hb)
 have O0 := Lib.hid (O0.out.below hb)
 have T1 := Lib.hid (T1.out.below hb)
 clear hb
 have o0 := O0.out
 go_wp2_with (first | (refine st rowEx rfl rfl o0 rfl rfl (by rfl) (by rfl) (by kernel_rfl) ?_))
 have A := A.out.setRow (Nat.le_refl _) HX.out.1 #[.int .u8 0, .int .u8 0, .int .i64 0, .string ⟨#[]⟩, .slice none 0 0, .int .i64 0]
 refine p_ret rowEx rfl (o0.row #[.int .u8 0, .int .u8 0, .int .i64 0, .string ⟨#[]⟩, .slice none 0 0, .int .i64 0]) rfl rfl rfl ?_
 exact ⟨A.fr, _, rfl, ⟨none, 0, rfl, .inl rfl⟩, A.rs HS.out⟩
theorem un_kind3 {c : Par} {w : World} {σ : Sr} {d : Int} (R : Rs c w σ) (hsub : isK c.L [45] σ.ts = false) (hnot : isK c.L [33] σ.ts = false) (hpar : isK c.L [40] σ.ts = false) (hok : σ.ok = true) (hk : (hereM c.L σ.ts).kind = 3) :
 Calls Tryz.prog 221 #[c.ptr, .int .i64 d] w (RsPost c w ((.mk 1 0 (hereM c.L σ.ts).wd ⟨#[]⟩ [] (hereM c.L σ.ts).pos, σ.step)) (exR w.heap.size)) := by
 obtain ⟨t, ht⟩ : ∃ t, t = hereM c.L σ.ts := ⟨_, rfl⟩
 have HH : Hid (∀ W, Rs c W σ → Calls Tryz.prog 121 #[c.ptr] W fun e w' => e = .returned (tkV t) ∧ Below W.heap.size W w') := fun W R => by rw [ht]; exact r_hereS R
 have HIsub : Hid (∀ W, Rs c W σ → Calls Tryz.prog 119 #[c.ptr, .string ⟨#[45]⟩] W fun e w' => e = .returned (.bool false) ∧ Below W.heap.size W w') := fun W R => by rw [← hsub]; exact r_isS R ⟨#[45]⟩
 have HInot : Hid (∀ W, Rs c W σ → Calls Tryz.prog 119 #[c.ptr, .string ⟨#[33]⟩] W fun e w' => e = .returned (.bool false) ∧ Below W.heap.size W w') := fun W R => by rw [← hnot]; exact r_isS R ⟨#[33]⟩
 have HIpar : Hid (∀ W, Rs c W σ → Calls Tryz.prog 119 #[c.ptr, .string ⟨#[40]⟩] W fun e w' => e = .returned (.bool false) ∧ Below W.heap.size W w') := fun W R => by rw [← hpar]; exact r_isS R ⟨#[40]⟩
 have HT := Lib.hid ht
 have HS := Lib.hid R.s
 have A0 := Lib.hid (R.as.alloc (.cells zEx 38))
 have O0 := Lib.hid (Own.new w 38 zEx)
 have hX := Lib.hid R.lt
 have HO : Hid (∀ W, Rs c W σ → Calls Tryz.prog 29 #[c.ptr] W fun e w' => e = .returned (.bool true) ∧ Below W.heap.size W w') := fun W R => by rw [← hok]; exact r_okS R
 have hne := kind_ne hk (by decide)
 rw [← ht] at hk ⊢
 have hne : Hid (σ.step.ts.length + 1 = σ.ts.length) := hne
 clear hok hsub hnot hpar
 clear ht R
 obtain ⟨tk, tx, tw, tp⟩ := t
 simp only at hk ⊢
 subst hk
 unfold tkV Par.ptr zEx at *
 go_enter Tryz.func221, Tryz.ntmps221
 go_wp2_with fail
 go_at_call 121
 refine (HH.out _ (A0.out.rs HS.out)).mono ?_
 rintro e w1 ⟨rfl, hb⟩
 have A := Lib.hid ((A0.out.below hb).alloc (.cells #[.int .u8 3, .string tx, .int .i64 tw, .int .i64 tp] 108))
 have hz := (O0.out.below hb).lt
 have O0 := Lib.hid ((O0.out.below hb).alloc (.cells #[.int .u8 3, .string tx, .int .i64 tw, .int .i64 tp] 108))
 have T1 := Lib.hid (Own.new w1 108 #[.int .u8 3, .string tx, .int .i64 tw, .int .i64 tp])
 have HX : Hid (c.X ≠ w.heap.size ∧ c.X ≠ w1.heap.size) := by have := hX.out; simp only [Hid]; omega
 have HZ := Lib.hid hz
 clear hb hz A0
 go_upto_region 2 with (fail)
 obtain ⟨W1, hW1⟩ : ∃ W, W = w1.alloc (.cells #[.int .u8 3, .string tx, .int .i64 tw, .int .i64 tp] 108) := ⟨_, rfl⟩
 rw [← hW1] at A O0 T1 ⊢
 clear hW1
 go_wp2_with fail
 go_at_call 119
 refine (HIsub.out _ (A.out.rs HS.out)).mono ?_
 rintro e w2 ⟨rfl, hb⟩
 have A := Lib.hid (A.out.below hb)
 have O0 := Lib.hid (O0.out.below hb)
 have T1 := Lib.hid (T1.out.below hb)
 clear hb
 go_wp2_with fail
 go_at_call 119
 refine (HInot.out _ (A.out.rs HS.out)).mono ?_
 rintro e w3 ⟨rfl, hb⟩
 have A := Lib.hid (A.out.below hb)
 have O0 := Lib.hid (O0.out.below hb)
 have T1 := Lib.hid (T1.out.below hb)
 clear hb
 go_wp2_with fail
 go_at_call 119
 refine (HIpar.out _ (A.out.rs HS.out)).mono ?_
 rintro e w4 ⟨rfl, hb⟩
 have A := Lib.hid (A.out.below hb)
 have O0 := Lib.hid (O0.out.below hb)
 have T1 := Lib.hid (T1.out.below hb)
 clear hb
 go_wp2_with fail
 go_at_call 29
 refine (HO.out _ (A.out.rs HS.out)).mono ?_
 rintro e w5 ⟨rfl, hb⟩
 have A := Lib.hid (A.out.below hb)
 have O0 := Lib.hid (O0.out.below hb)
 have T1 := Lib.hid (T1.out.below hb)
 clear hb
 obtain ⟨k, x1, xf, hk6, xl, AS⟩ := A.out.open HS.out hne.out
 have AS := Lib.hid AS
 have t0 : w5.cell? ⟨w1.heap.size, 0, none⟩ = some (.int .u8 3) := by rw [cell_of_row _ _ 0 _ _ _ T1.out]; rfl
 have o0 := O0.out.setX 1 (.int .i64 ((k : Int) + 1)) HX.out.1
 have T2 := T1.out.setX 1 (.int .i64 ((k : Int) + 1)) HX.out.2
 have y2 : (w5.setCell ⟨c.X, 1, none⟩ (.int .i64 ((k : Int) + 1))).cell? ⟨w1.heap.size, 2, none⟩ = some (.int .i64 tw) := by rw [cell_of_row _ _ 2 _ _ _ T2]; rfl
 have y3 : (w5.setCell ⟨c.X, 1, none⟩ (.int .i64 ((k : Int) + 1))).cell? ⟨w1.heap.size, 3, none⟩ = some (.int .i64 tp) := by rw [cell_of_row _ _ 3 _ _ _ T2]; rfl
 clear T2
 go_wp2_with (first | (refine st rowEx rfl rfl o0 rfl rfl (by rfl) (by rfl) (by kernel_rfl) ?_))
 have A := AS.out.setRow (Nat.le_refl _) HX.out.1 #[.int .u8 1, .int .u8 0, .int .i64 tw, .string ⟨#[]⟩, .slice none 0 0, .int .i64 tp]
 refine p_ret rowEx rfl (o0.row #[.int .u8 1, .int .u8 0, .int .i64 tw, .string ⟨#[]⟩, .slice none 0 0, .int .i64 tp]) rfl rfl rfl ?_
 exact ⟨A.fr, _, rfl, ⟨none, 0, rfl, .inl rfl⟩, A.rs HS.out⟩
theorem un_kind1 {c : Par} {w : World} {σ : Sr} {d : Int} (R : Rs c w σ) (hsub : isK c.L [45] σ.ts = false) (hnot : isK c.L [33] σ.ts = false) (hpar : isK c.L [40] σ.ts = false) (hok : σ.ok = true) (hk : (hereM c.L σ.ts).kind = 1) :
 Calls Tryz.prog 221 #[c.ptr, .int .i64 d] w (RsPost c w ((.mk 2 0 0 (hereM c.L σ.ts).text [] (hereM c.L σ.ts).pos, σ.step)) (exR w.heap.size)) := by
 obtain ⟨t, ht⟩ : ∃ t, t = hereM c.L σ.ts := ⟨_, rfl⟩
 have HH : Hid (∀ W, Rs c W σ → Calls Tryz.prog 121 #[c.ptr] W fun e w' => e = .returned (tkV t) ∧ Below W.heap.size W w') := fun W R => by rw [ht]; exact r_hereS R
 have HIsub : Hid (∀ W, Rs c W σ → Calls Tryz.prog 119 #[c.ptr, .string ⟨#[45]⟩] W fun e w' => e = .returned (.bool false) ∧ Below W.heap.size W w') := fun W R => by rw [← hsub]; exact r_isS R ⟨#[45]⟩
 have HInot : Hid (∀ W, Rs c W σ → Calls Tryz.prog 119 #[c.ptr, .string ⟨#[33]⟩] W fun e w' => e = .returned (.bool false) ∧ Below W.heap.size W w') := fun W R => by rw [← hnot]; exact r_isS R ⟨#[33]⟩
 have HIpar : Hid (∀ W, Rs c W σ → Calls Tryz.prog 119 #[c.ptr, .string ⟨#[40]⟩] W fun e w' => e = .returned (.bool false) ∧ Below W.heap.size W w') := fun W R => by rw [← hpar]; exact r_isS R ⟨#[40]⟩
 have HT := Lib.hid ht
 have HS := Lib.hid R.s
 have A0 := Lib.hid (R.as.alloc (.cells zEx 38))
 have O0 := Lib.hid (Own.new w 38 zEx)
 have hX := Lib.hid R.lt
 have HO : Hid (∀ W, Rs c W σ → Calls Tryz.prog 29 #[c.ptr] W fun e w' => e = .returned (.bool true) ∧ Below W.heap.size W w') := fun W R => by rw [← hok]; exact r_okS R
 have hne := kind_ne hk (by decide)
 rw [← ht] at hk ⊢
 have hne : Hid (σ.step.ts.length + 1 = σ.ts.length) := hne
 clear hok hsub hnot hpar
 clear ht R
 obtain ⟨tk, tx, tw, tp⟩ := t
 simp only at hk ⊢
 subst hk
 unfold tkV Par.ptr zEx at *
 go_enter Tryz.func221, Tryz.ntmps221
 go_wp2_with fail
 go_at_call 121
 refine (HH.out _ (A0.out.rs HS.out)).mono ?_
 rintro e w1 ⟨rfl, hb⟩
 have A := Lib.hid ((A0.out.below hb).alloc (.cells #[.int .u8 1, .string tx, .int .i64 tw, .int .i64 tp] 108))
 have hz := (O0.out.below hb).lt
 have O0 := Lib.hid ((O0.out.below hb).alloc (.cells #[.int .u8 1, .string tx, .int .i64 tw, .int .i64 tp] 108))
 have T1 := Lib.hid (Own.new w1 108 #[.int .u8 1, .string tx, .int .i64 tw, .int .i64 tp])
 have HX : Hid (c.X ≠ w.heap.size ∧ c.X ≠ w1.heap.size) := by have := hX.out; simp only [Hid]; omega
 have HZ := Lib.hid hz
 clear hb hz A0
 go_upto_region 2 with (fail)
 obtain ⟨W1, hW1⟩ : ∃ W, W = w1.alloc (.cells #[.int .u8 1, .string tx, .int .i64 tw, .int .i64 tp] 108) := ⟨_, rfl⟩
 rw [← hW1] at A O0 T1 ⊢
 clear hW1
 go_wp2_with fail
 go_at_call 119
 refine (HIsub.out _ (A.out.rs HS.out)).mono ?_
 rintro e w2 ⟨rfl, hb⟩
 have A := Lib.hid (A.out.below hb)
 have O0 := Lib.hid (O0.out.below hb)
 have T1 := Lib.hid (T1.out.below hb)
 clear hb
 go_wp2_with fail
 go_at_call 119
 refine (HInot.out _ (A.out.rs HS.out)).mono ?_
 rintro e w3 ⟨rfl, hb⟩
 have A := Lib.hid (A.out.below hb)
 have O0 := Lib.hid (O0.out.below hb)
 have T1 := Lib.hid (T1.out.below hb)
 clear hb
 go_wp2_with fail
 go_at_call 119
 refine (HIpar.out _ (A.out.rs HS.out)).mono ?_
 rintro e w4 ⟨rfl, hb⟩
 have A := Lib.hid (A.out.below hb)
 have O0 := Lib.hid (O0.out.below hb)
 have T1 := Lib.hid (T1.out.below hb)
 clear hb
 go_wp2_with fail
 go_at_call 29
 refine (HO.out _ (A.out.rs HS.out)).mono ?_
 rintro e w5 ⟨rfl, hb⟩
 have A := Lib.hid (A.out.below hb)
 have O0 := Lib.hid (O0.out.below hb)
 have T1 := Lib.hid (T1.out.below hb)
 clear hb
 obtain ⟨k, x1, xf, hk6, xl, AS⟩ := A.out.open HS.out hne.out
 have AS := Lib.hid AS
 have t0 : w5.cell? ⟨w1.heap.size, 0, none⟩ = some (.int .u8 1) := by rw [cell_of_row _ _ 0 _ _ _ T1.out]; rfl
 have o0 := O0.out.setX 1 (.int .i64 ((k : Int) + 1)) HX.out.1
 have T2 := T1.out.setX 1 (.int .i64 ((k : Int) + 1)) HX.out.2
 have y1 : (w5.setCell ⟨c.X, 1, none⟩ (.int .i64 ((k : Int) + 1))).cell? ⟨w1.heap.size, 1, none⟩ = some (.string tx) := by rw [cell_of_row _ _ 1 _ _ _ T2]; rfl
 have y3 : (w5.setCell ⟨c.X, 1, none⟩ (.int .i64 ((k : Int) + 1))).cell? ⟨w1.heap.size, 3, none⟩ = some (.int .i64 tp) := by rw [cell_of_row _ _ 3 _ _ _ T2]; rfl
 clear T2
 go_wp2_with (first | (refine st rowEx rfl rfl o0 rfl rfl (by rfl) (by rfl) (by kernel_rfl) ?_))
 have A := AS.out.setRow (Nat.le_refl _) HX.out.1 #[.int .u8 2, .int .u8 0, .int .i64 0, .string tx, .slice none 0 0, .int .i64 tp]
 refine p_ret rowEx rfl (o0.row #[.int .u8 2, .int .u8 0, .int .i64 0, .string tx, .slice none 0 0, .int .i64 tp]) rfl rfl rfl ?_
 exact ⟨A.fr, _, rfl, ⟨none, 0, rfl, .inl rfl⟩, A.rs HS.out⟩
end Go.Proofs.YtfogkobgjojpiaaGreatDoor

/- The document's Show, kind by kind. -/
import Derived.Test.YtopinnhfajjndaaGreatDoorTw5
import Derived.Test.YtopinnhfajjndaaGreatDoorRr6
namespace Go.Proofs.YtopinnhfajjndaaGreatDoor
open Go.RowKit
set_option linter.unusedVariables false
set_option maxRecDepth 100000
theorem r_nat (n : Int) (h0 : -9223372036854775808 ≤ n) (h1 : n ≤ 9223372036854775807) (w : World) : Calls Tryz.prog 54 #[.int .i64 n] w fun e w' => e = .returned (.string (itoaS n)) ∧ Below w.heap.size w w' := by
  have HP : Hid (Calls Tryz.prog 55 #[.int .i64 n] w fun e w' => e = .returned (.string (itoaS n)) ∧ Below w.heap.size w w') := rprint_any n h0 h1 w
  clear h0 h1
  go_enter Tryz.func54, Tryz.ntmps54
  go_wp2_with (go_at_call 55; refine HP.out.mono ?_; rintro e w' ⟨rfl, hb⟩)
  go_ret
  exact ⟨rfl, hb⟩
theorem r_kwd1 (w : World) : Calls Tryz.prog 52 #[.int .u8 1] w fun e w' => e = .returned (.string ⟨#[115, 101, 116]⟩) ∧ Below w.heap.size w w' := by
  go_enter Tryz.func52, Tryz.ntmps52
  go_wp2
  go_ret
  exact ⟨rfl, (Below.refl _ _).alloc (Nat.le_refl _) _⟩
theorem r_kwd2 (w : World) : Calls Tryz.prog 52 #[.int .u8 2] w fun e w' => e = .returned (.string ⟨#[]⟩) ∧ Below w.heap.size w w' := by
  go_enter Tryz.func52, Tryz.ntmps52
  go_wp2
  go_ret
  exact ⟨rfl, (Below.refl _ _).alloc (Nat.le_refl _) _⟩
theorem r_kwd3 (w : World) : Calls Tryz.prog 52 #[.int .u8 3] w fun e w' => e = .returned (.string ⟨#[108, 111, 97, 100]⟩) ∧ Below w.heap.size w w' := by
  go_enter Tryz.func52, Tryz.ntmps52
  go_wp2
  go_ret
  exact ⟨rfl, (Below.refl _ _).alloc (Nat.le_refl _) _⟩
theorem r_kwd4 (w : World) : Calls Tryz.prog 52 #[.int .u8 4] w fun e w' => e = .returned (.string ⟨#[115, 116, 111, 114, 101]⟩) ∧ Below w.heap.size w w' := by
  go_enter Tryz.func52, Tryz.ntmps52
  go_wp2
  go_ret
  exact ⟨rfl, (Below.refl _ _).alloc (Nat.le_refl _) _⟩
theorem r_kwd5 (w : World) : Calls Tryz.prog 52 #[.int .u8 5] w fun e w' => e = .returned (.string ⟨#[115, 119, 97, 112]⟩) ∧ Below w.heap.size w w' := by
  go_enter Tryz.func52, Tryz.ntmps52
  go_wp2
  go_ret
  exact ⟨rfl, (Below.refl _ _).alloc (Nat.le_refl _) _⟩
theorem r_kwd6 (w : World) : Calls Tryz.prog 52 #[.int .u8 6] w fun e w' => e = .returned (.string ⟨#[102, 101, 110, 99, 101]⟩) ∧ Below w.heap.size w w' := by
  go_enter Tryz.func52, Tryz.ntmps52
  go_wp2
  go_ret
  exact ⟨rfl, (Below.refl _ _).alloc (Nat.le_refl _) _⟩
theorem r_kwd7 (w : World) : Calls Tryz.prog 52 #[.int .u8 7] w fun e w' => e = .returned (.string ⟨#[112, 114, 105, 110, 116]⟩) ∧ Below w.heap.size w w' := by
  go_enter Tryz.func52, Tryz.ntmps52
  go_wp2
  go_ret
  exact ⟨rfl, (Below.refl _ _).alloc (Nat.le_refl _) _⟩
theorem r_kwd8 (w : World) : Calls Tryz.prog 52 #[.int .u8 8] w fun e w' => e = .returned (.string ⟨#[106, 117, 109, 112]⟩) ∧ Below w.heap.size w w' := by
  go_enter Tryz.func52, Tryz.ntmps52
  go_wp2
  go_ret
  exact ⟨rfl, (Below.refl _ _).alloc (Nat.le_refl _) _⟩
theorem r_kwd9 (w : World) : Calls Tryz.prog 52 #[.int .u8 9] w fun e w' => e = .returned (.string ⟨#[122, 101, 114, 111]⟩) ∧ Below w.heap.size w w' := by
  go_enter Tryz.func52, Tryz.ntmps52
  go_wp2
  go_ret
  exact ⟨rfl, (Below.refl _ _).alloc (Nat.le_refl _) _⟩
theorem r_kwd10 (w : World) : Calls Tryz.prog 52 #[.int .u8 10] w fun e w' => e = .returned (.string ⟨#[104, 97, 108, 116]⟩) ∧ Below w.heap.size w w' := by
  go_enter Tryz.func52, Tryz.ntmps52
  go_wp2
  go_ret
  exact ⟨rfl, (Below.refl _ _).alloc (Nat.le_refl _) _⟩
theorem r_opw1 (w : World) : Calls Tryz.prog 53 #[.int .u8 1] w fun e w' => e = .returned (.string ⟨#[97, 100, 100]⟩) ∧ Below w.heap.size w w' := by
  go_enter Tryz.func53, Tryz.ntmps53
  go_wp2
  go_ret
  exact ⟨rfl, (Below.refl _ _).alloc (Nat.le_refl _) _⟩
theorem r_opw2 (w : World) : Calls Tryz.prog 53 #[.int .u8 2] w fun e w' => e = .returned (.string ⟨#[115, 117, 98]⟩) ∧ Below w.heap.size w w' := by
  go_enter Tryz.func53, Tryz.ntmps53
  go_wp2
  go_ret
  exact ⟨rfl, (Below.refl _ _).alloc (Nat.le_refl _) _⟩
theorem r_opw3 (w : World) : Calls Tryz.prog 53 #[.int .u8 3] w fun e w' => e = .returned (.string ⟨#[109, 117, 108]⟩) ∧ Below w.heap.size w w' := by
  go_enter Tryz.func53, Tryz.ntmps53
  go_wp2
  go_ret
  exact ⟨rfl, (Below.refl _ _).alloc (Nat.le_refl _) _⟩
theorem r_opw4 (w : World) : Calls Tryz.prog 53 #[.int .u8 4] w fun e w' => e = .returned (.string ⟨#[100, 105, 118]⟩) ∧ Below w.heap.size w w' := by
  go_enter Tryz.func53, Tryz.ntmps53
  go_wp2
  go_ret
  exact ⟨rfl, (Below.refl _ _).alloc (Nat.le_refl _) _⟩
theorem r_opw5 (w : World) : Calls Tryz.prog 53 #[.int .u8 5] w fun e w' => e = .returned (.string ⟨#[114, 101, 109]⟩) ∧ Below w.heap.size w w' := by
  go_enter Tryz.func53, Tryz.ntmps53
  go_wp2
  go_ret
  exact ⟨rfl, (Below.refl _ _).alloc (Nat.le_refl _) _⟩
theorem r_opw6 (w : World) : Calls Tryz.prog 53 #[.int .u8 6] w fun e w' => e = .returned (.string ⟨#[97, 110, 100]⟩) ∧ Below w.heap.size w w' := by
  go_enter Tryz.func53, Tryz.ntmps53
  go_wp2
  go_ret
  exact ⟨rfl, (Below.refl _ _).alloc (Nat.le_refl _) _⟩
theorem r_opw7 (w : World) : Calls Tryz.prog 53 #[.int .u8 7] w fun e w' => e = .returned (.string ⟨#[111, 114]⟩) ∧ Below w.heap.size w w' := by
  go_enter Tryz.func53, Tryz.ntmps53
  go_wp2
  go_ret
  exact ⟨rfl, (Below.refl _ _).alloc (Nat.le_refl _) _⟩
theorem r_opw8 (w : World) : Calls Tryz.prog 53 #[.int .u8 8] w fun e w' => e = .returned (.string ⟨#[120, 111, 114]⟩) ∧ Below w.heap.size w w' := by
  go_enter Tryz.func53, Tryz.ntmps53
  go_wp2
  go_ret
  exact ⟨rfl, (Below.refl _ _).alloc (Nat.le_refl _) _⟩
theorem r_opw9 (w : World) : Calls Tryz.prog 53 #[.int .u8 9] w fun e w' => e = .returned (.string ⟨#[115, 104, 108]⟩) ∧ Below w.heap.size w w' := by
  go_enter Tryz.func53, Tryz.ntmps53
  go_wp2
  go_ret
  exact ⟨rfl, (Below.refl _ _).alloc (Nat.le_refl _) _⟩
theorem r_opw10 (w : World) : Calls Tryz.prog 53 #[.int .u8 10] w fun e w' => e = .returned (.string ⟨#[115, 104, 114]⟩) ∧ Below w.heap.size w w' := by
  go_enter Tryz.func53, Tryz.ntmps53
  go_wp2
  go_ret
  exact ⟨rfl, (Below.refl _ _).alloc (Nat.le_refl _) _⟩
theorem r_opw11 (w : World) : Calls Tryz.prog 53 #[.int .u8 11] w fun e w' => e = .returned (.string ⟨#[105, 115]⟩) ∧ Below w.heap.size w w' := by
  go_enter Tryz.func53, Tryz.ntmps53
  go_wp2
  go_ret
  exact ⟨rfl, (Below.refl _ _).alloc (Nat.le_refl _) _⟩
theorem r_opw12 (w : World) : Calls Tryz.prog 53 #[.int .u8 12] w fun e w' => e = .returned (.string ⟨#[105, 115, 110, 111, 116]⟩) ∧ Below w.heap.size w w' := by
  go_enter Tryz.func53, Tryz.ntmps53
  go_wp2
  go_ret
  exact ⟨rfl, (Below.refl _ _).alloc (Nat.le_refl _) _⟩
theorem r_opw13 (w : World) : Calls Tryz.prog 53 #[.int .u8 13] w fun e w' => e = .returned (.string ⟨#[108, 101, 115, 115]⟩) ∧ Below w.heap.size w w' := by
  go_enter Tryz.func53, Tryz.ntmps53
  go_wp2
  go_ret
  exact ⟨rfl, (Below.refl _ _).alloc (Nat.le_refl _) _⟩
theorem r_opw14 (w : World) : Calls Tryz.prog 53 #[.int .u8 14] w fun e w' => e = .returned (.string ⟨#[109, 111, 115, 116]⟩) ∧ Below w.heap.size w w' := by
  go_enter Tryz.func53, Tryz.ntmps53
  go_wp2
  go_ret
  exact ⟨rfl, (Below.refl _ _).alloc (Nat.le_refl _) _⟩
theorem r_opw15 (w : World) : Calls Tryz.prog 53 #[.int .u8 15] w fun e w' => e = .returned (.string ⟨#[97, 98, 111, 118, 101]⟩) ∧ Below w.heap.size w w' := by
  go_enter Tryz.func53, Tryz.ntmps53
  go_wp2
  go_ret
  exact ⟨rfl, (Below.refl _ _).alloc (Nat.le_refl _) _⟩
theorem r_opw16 (w : World) : Calls Tryz.prog 53 #[.int .u8 16] w fun e w' => e = .returned (.string ⟨#[108, 101, 97, 115, 116]⟩) ∧ Below w.heap.size w w' := by
  go_enter Tryz.func53, Tryz.ntmps53
  go_wp2
  go_ret
  exact ⟨rfl, (Below.refl _ _).alloc (Nat.le_refl _) _⟩
theorem r_opw17 (w : World) : Calls Tryz.prog 53 #[.int .u8 17] w fun e w' => e = .returned (.string ⟨#[109, 105, 110, 117, 115]⟩) ∧ Below w.heap.size w w' := by
  go_enter Tryz.func53, Tryz.ntmps53
  go_wp2
  go_ret
  exact ⟨rfl, (Below.refl _ _).alloc (Nat.le_refl _) _⟩
theorem r_opw18 (w : World) : Calls Tryz.prog 53 #[.int .u8 18] w fun e w' => e = .returned (.string ⟨#[110, 111, 116]⟩) ∧ Below w.heap.size w w' := by
  go_enter Tryz.func53, Tryz.ntmps53
  go_wp2
  go_ret
  exact ⟨rfl, (Below.refl _ _).alloc (Nat.le_refl _) _⟩
theorem r_opw (o : Int) (h1 : 1 ≤ o) (h2 : o ≤ 18) (w : World) : Calls Tryz.prog 53 #[.int .u8 o] w fun e w' => e = .returned (.string ⟨(opTx.getD o.toNat []).toArray⟩) ∧ Below w.heap.size w w' := by
  obtain ⟨k, rfl⟩ : ∃ k : Nat, o = (k : Int) := ⟨o.toNat, by omega⟩
  have hk : k = 1 ∨ k = 2 ∨ k = 3 ∨ k = 4 ∨ k = 5 ∨ k = 6 ∨ k = 7 ∨ k = 8 ∨ k = 9 ∨ k = 10 ∨ k = 11 ∨ k = 12 ∨ k = 13 ∨ k = 14 ∨ k = 15 ∨ k = 16 ∨ k = 17 ∨ k = 18 := by omega
  rcases hk with rfl | rfl | rfl | rfl | rfl | rfl | rfl | rfl | rfl | rfl | rfl | rfl | rfl | rfl | rfl | rfl | rfl | rfl
  · exact r_opw1 w
  · exact r_opw2 w
  · exact r_opw3 w
  · exact r_opw4 w
  · exact r_opw5 w
  · exact r_opw6 w
  · exact r_opw7 w
  · exact r_opw8 w
  · exact r_opw9 w
  · exact r_opw10 w
  · exact r_opw11 w
  · exact r_opw12 w
  · exact r_opw13 w
  · exact r_opw14 w
  · exact r_opw15 w
  · exact r_opw16 w
  · exact r_opw17 w
  · exact r_opw18 w
theorem bs_ext {a b : ByteArray} (h : a.data.toList = b.data.toList) : a = b := by
  cases a; cases b
  simpa using h
/-- An instruction's text, field by field. -/
theorem ins_txt (i : Ins) (hk : kB i.k = true) : insT i = wdT i ++ ((((((bif dB i.k then regT i.d else []) ++ (bif aB i.k then regT i.a else [])) ++ (bif bB i.k i.o then regT i.b else [])) ++ (bif adB i.k then numT i.ad else [])) ++ (bif toB i.k then numT i.tt else [])) ++ (bif i.k == 1 then wrdT i.wd else [])) ++ (if i.fr = 0 then [] else [32, 64] ++ Lib.itoa i.fr) := by
  obtain ⟨_, h2, h3, h4, h5, h6, h7⟩ := has_all i.k i.o hk
  unfold insT
  simp only [fldsT, fldT, h2, h3, h4, h5, h6, h7, List.nil_append]
end Go.Proofs.YtopinnhfajjndaaGreatDoor
namespace Go.Proofs.YtopinnhfajjndaaGreatDoor
open Go.RowKit
set_option linter.unusedVariables false
set_option maxRecDepth 100000
theorem right_fr {i : Ins} {n m : Int} (h : rightB i n m = true) : 0 ≤ i.fr ∧ i.fr < 4097 := by
  unfold rightB at h
  simp only [Bool.and_eq_true] at h
  have h2 := h.2.1
  unfold inB at h2
  simpa using h2
theorem right_op {o d a b ad tt wd fr n m : Int} (h : rightB ⟨2, o, d, a, b, ad, tt, wd, fr⟩ n m = true) : 1 ≤ o ∧ o ≤ 18 := by
  unfold rightB at h
  simp only [Bool.and_eq_true] at h
  have h2 : decide (0 < levelOf o) = true := h.2.2.1
  have h3 := of_decide_eq_true h2
  unfold levelOf at h3
  split at h3
  · omega
  · next h19 =>
    by_cases h0 : o ≤ 0
    · have : o.toNat = 0 := by omega
      rw [this] at h3
      simp [lev] at h3
    · omega
theorem row_at9 {W : World} {g : Nat} {T : TypeId} {cs : Array Value} (h : Own W g T cs) (j : Nat) (v : Value) (hj : cs[j]? = some v) : W.cell? ⟨g, j, none⟩ = some v := by
  rw [cell_of_row _ _ j _ _ _ h]
  exact hj
set_option maxHeartbeats 8000000 in
theorem r_show1 (o d a b ad tt wd fr : Int) (hg : rgI (⟨1, o, d, a, b, ad, tt, wd, fr⟩ : Ins)) (hr : rightB (⟨1, o, d, a, b, ad, tt, wd, fr⟩ : Ins) 9223372036854775807 9223372036854775807 = true) (w : World) : Calls Tryz.prog 29 #[.agg #[.int .u8 1, .int .u8 o, .int .i64 d, .int .i64 a, .int .i64 b, .int .i64 ad, .int .i64 tt, .int .i64 wd, .int .i64 fr]] w fun e w' => e = .returned (.string ⟨(insT (⟨1, o, d, a, b, ad, tt, wd, fr⟩ : Ins)).toArray⟩) ∧ Below w.heap.size w w' := by
  have hfr := right_fr hr
  have hT : insT (⟨1, o, d, a, b, ad, tt, wd, fr⟩ : Ins) = [115, 101, 116] ++ ((((((regT d) ++ ([])) ++ ([])) ++ ([])) ++ ([])) ++ (wrdT wd)) ++ (if fr = 0 then [] else [32, 64] ++ Lib.itoa fr) := by
    rw [ins_txt _ (show kB 1 = true by decide)]
    rfl
  have HRR : Hid (∀ X, Calls Tryz.prog 13 #[.agg #[.int .u8 1, .int .u8 o, .int .i64 d, .int .i64 a, .int .i64 b, .int .i64 ad, .int .i64 tt, .int .i64 wd, .int .i64 fr], .int .i64 9223372036854775807, .int .i64 9223372036854775807] X fun e w' => e = .returned (.bool true) ∧ Below X.heap.size X w') := fun X => by
    have h := rright_any (⟨1, o, d, a, b, ad, tt, wd, fr⟩ : Ins) hg 9223372036854775807 9223372036854775807 X
    rw [hr] at h
    exact h
  obtain ⟨_, ho, hd, ha, hb0, had, htt, hwd, hfr2⟩ := hg
  simp only at ho hd ha hb0 had htt hwd hfr2
  have HTX := Lib.hid hT
  have HNd : Hid (∀ X, Calls Tryz.prog 54 #[.int .i64 d] X fun e w' => e = .returned (.string (itoaS d)) ∧ Below X.heap.size X w') := fun X => r_nat d hd.1 hd.2 X
  have HNa : Hid (∀ X, Calls Tryz.prog 54 #[.int .i64 a] X fun e w' => e = .returned (.string (itoaS a)) ∧ Below X.heap.size X w') := fun X => r_nat a ha.1 ha.2 X
  have HNb : Hid (∀ X, Calls Tryz.prog 54 #[.int .i64 b] X fun e w' => e = .returned (.string (itoaS b)) ∧ Below X.heap.size X w') := fun X => r_nat b hb0.1 hb0.2 X
  have HNad : Hid (∀ X, Calls Tryz.prog 54 #[.int .i64 ad] X fun e w' => e = .returned (.string (itoaS ad)) ∧ Below X.heap.size X w') := fun X => r_nat ad had.1 had.2 X
  have HNtt : Hid (∀ X, Calls Tryz.prog 54 #[.int .i64 tt] X fun e w' => e = .returned (.string (itoaS tt)) ∧ Below X.heap.size X w') := fun X => r_nat tt htt.1 htt.2 X
  have HNfr : Hid (∀ X, Calls Tryz.prog 54 #[.int .i64 fr] X fun e w' => e = .returned (.string (itoaS fr)) ∧ Below X.heap.size X w') := fun X => r_nat fr hfr2.1 hfr2.2 X
  have HRNd := Lib.hid hd
  have HRNa := Lib.hid ha
  have HRNb := Lib.hid hb0
  have HRNad := Lib.hid had
  have HRNtt := Lib.hid htt
  have HRNfr := Lib.hid hfr2
  have HRNwd := Lib.hid hwd
  have HNwd : Hid (∀ X, Calls Tryz.prog 55 #[.int .i64 wd] X fun e w' => e = .returned (.string (itoaS wd)) ∧ Below X.heap.size X w') := fun X => rprint_any wd hwd.1 hwd.2 X
  have al : Below w.heap.size w (w.alloc (.cells #[.int .u8 1, .int .u8 o, .int .i64 d, .int .i64 a, .int .i64 b, .int .i64 ad, .int .i64 tt, .int .i64 wd, .int .i64 fr] 25)) := (Below.refl _ w).alloc (Nat.le_refl _) _
  have O0 := Own.new w 25 #[.int .u8 1, .int .u8 o, .int .i64 d, .int .i64 a, .int .i64 b, .int .i64 ad, .int .i64 tt, .int .i64 wd, .int .i64 fr]
  obtain ⟨W0, hW0⟩ : ∃ W, W = w.alloc (.cells #[.int .u8 1, .int .u8 o, .int .i64 d, .int .i64 a, .int .i64 b, .int .i64 ad, .int .i64 tt, .int .i64 wd, .int .i64 fr] 25) := ⟨_, rfl⟩
  rw [← hW0] at al O0
  have HW0 := Lib.hid hW0
  have HS0 : Hid (Own W0 w.heap.size 25 #[.int .u8 1, .int .u8 o, .int .i64 d, .int .i64 a, .int .i64 b, .int .i64 ad, .int .i64 tt, .int .i64 wd, .int .i64 fr] ∧ Below w.heap.size w W0) := ⟨O0, al⟩
  clear hT al hW0 ho hd ha hb0 had htt hwd hfr2 hr
  go_enter Tryz.func29, Tryz.ntmps29
  go_upto_region 1 with fail
  rw [← HW0.out]
  clear HW0
  go_upto_region 3 with (first | (refine ld rowI rfl rfl rfl O0 rfl ?_) | (go_at_call 13; refine (HRR.out _).mono ?_; rintro e w1 ⟨rfl, hb⟩; have HS : Hid (Own w1 w.heap.size 25 #[.int .u8 1, .int .u8 o, .int .i64 d, .int .i64 a, .int .i64 b, .int .i64 ad, .int .i64 tt, .int .i64 wd, .int .i64 fr] ∧ Below w.heap.size w w1) := ⟨HS0.out.1.below hb, HS0.out.2.trans (hb.mono HS0.out.2.size)⟩; clear hb O0))
  clear HS0 HRR
  rename_i w1
  by_cases f0 : fr = 0
  · have f1 : ¬ 0 < fr := by omega
    have s0 : (⟨#[115, 101, 116]⟩ : ByteArray).size ≤ 10 := by show 3 ≤ 10; omega
    obtain ⟨p1, hp1⟩ : ∃ p, p = (⟨#[115, 101, 116]⟩ : ByteArray) ++ (⟨#[32, 114]⟩ : ByteArray) := ⟨_, rfl⟩
    have t1 : (⟨#[32, 114]⟩ : ByteArray).size = 2 := rfl
    have s1 : p1.size ≤ 12 := by rw [hp1, ByteArray.size_append]; omega
    have q1 : ∀ V, (Op.stringOp .add (⟨#[115, 101, 116]⟩ : ByteArray) (⟨#[32, 114]⟩ : ByteArray)).run Tryz.prog V = .ok (.string p1) V := fun V => by rw [hp1]; exact run_string_add_sum V _ _ (by omega)
    have HP1 := Lib.hid hp1
    clear hp1 t1 s0
    obtain ⟨p2, hp2⟩ : ∃ p, p = p1 ++ (itoaS d) := ⟨_, rfl⟩
    have t2 : (itoaS d).size ≤ 100 := itoaS_size d HRNd.out.1 HRNd.out.2
    have s2 : p2.size ≤ 112 := by rw [hp2, ByteArray.size_append]; omega
    have q2 : ∀ V, (Op.stringOp .add p1 (itoaS d)).run Tryz.prog V = .ok (.string p2) V := fun V => by rw [hp2]; exact run_string_add_sum V _ _ (by omega)
    have HP2 := Lib.hid hp2
    clear hp2 t2 s1
    obtain ⟨p3, hp3⟩ : ∃ p, p = p2 ++ (⟨#[32]⟩ : ByteArray) := ⟨_, rfl⟩
    have t3 : (⟨#[32]⟩ : ByteArray).size = 1 := rfl
    have s3 : p3.size ≤ 113 := by rw [hp3, ByteArray.size_append]; omega
    have q3 : ∀ V, (Op.stringOp .add p2 (⟨#[32]⟩ : ByteArray)).run Tryz.prog V = .ok (.string p3) V := fun V => by rw [hp3]; exact run_string_add_sum V _ _ (by omega)
    have HP3 := Lib.hid hp3
    clear hp3 t3 s2
    obtain ⟨p4, hp4⟩ : ∃ p, p = p3 ++ (itoaS wd) := ⟨_, rfl⟩
    have t4 : (itoaS wd).size ≤ 100 := itoaS_size wd HRNwd.out.1 HRNwd.out.2
    have s4 : p4.size ≤ 213 := by rw [hp4, ByteArray.size_append]; omega
    have q4 : ∀ V, (Op.stringOp .add p3 (itoaS wd)).run Tryz.prog V = .ok (.string p4) V := fun V => by rw [hp4]; exact run_string_add_sum V _ _ (by omega)
    have HP4 := Lib.hid hp4
    clear hp4 t4 s3
    clear s4
    have z0 := row_at9 HS.out.1 0 _ rfl
    have z1 := row_at9 HS.out.1 1 _ rfl
    have z2 := row_at9 HS.out.1 2 _ rfl
    have z3 := row_at9 HS.out.1 3 _ rfl
    have z4 := row_at9 HS.out.1 4 _ rfl
    have z5 := row_at9 HS.out.1 5 _ rfl
    have z6 := row_at9 HS.out.1 6 _ rfl
    have z7 := row_at9 HS.out.1 7 _ rfl
    have z8 := row_at9 HS.out.1 8 _ rfl
    go_wp2_with (first | (go_at_call 52; refine (r_kwd1 _).mono ?_; rintro e w2 ⟨rfl, hb⟩; have HS : Hid (Own w2 w.heap.size 25 #[.int .u8 1, .int .u8 o, .int .i64 d, .int .i64 a, .int .i64 b, .int .i64 ad, .int .i64 tt, .int .i64 wd, .int .i64 fr] ∧ Below w.heap.size w w2) := ⟨HS.out.1.below hb, HS.out.2.trans (hb.mono HS.out.2.size)⟩; clear hb; have z0 := row_at9 HS.out.1 0 _ rfl; have z1 := row_at9 HS.out.1 1 _ rfl; have z2 := row_at9 HS.out.1 2 _ rfl; have z3 := row_at9 HS.out.1 3 _ rfl; have z4 := row_at9 HS.out.1 4 _ rfl; have z5 := row_at9 HS.out.1 5 _ rfl; have z6 := row_at9 HS.out.1 6 _ rfl; have z7 := row_at9 HS.out.1 7 _ rfl; have z8 := row_at9 HS.out.1 8 _ rfl) | (go_at_call 45; refine (r_uses1 _).mono ?_; rintro e w' ⟨rfl, rfl⟩) | (go_at_call_of 54 (Value.int .i64 d); refine (HNd.out _).mono ?_; rintro e w4d ⟨rfl, hb⟩; have HS : Hid (Own w4d w.heap.size 25 #[.int .u8 1, .int .u8 o, .int .i64 d, .int .i64 a, .int .i64 b, .int .i64 ad, .int .i64 tt, .int .i64 wd, .int .i64 fr] ∧ Below w.heap.size w w4d) := ⟨HS.out.1.below hb, HS.out.2.trans (hb.mono HS.out.2.size)⟩; clear hb; have z0 := row_at9 HS.out.1 0 _ rfl; have z1 := row_at9 HS.out.1 1 _ rfl; have z2 := row_at9 HS.out.1 2 _ rfl; have z3 := row_at9 HS.out.1 3 _ rfl; have z4 := row_at9 HS.out.1 4 _ rfl; have z5 := row_at9 HS.out.1 5 _ rfl; have z6 := row_at9 HS.out.1 6 _ rfl; have z7 := row_at9 HS.out.1 7 _ rfl; have z8 := row_at9 HS.out.1 8 _ rfl) | (go_at_call_of 54 (Value.int .i64 a); refine (HNa.out _).mono ?_; rintro e w4a ⟨rfl, hb⟩; have HS : Hid (Own w4a w.heap.size 25 #[.int .u8 1, .int .u8 o, .int .i64 d, .int .i64 a, .int .i64 b, .int .i64 ad, .int .i64 tt, .int .i64 wd, .int .i64 fr] ∧ Below w.heap.size w w4a) := ⟨HS.out.1.below hb, HS.out.2.trans (hb.mono HS.out.2.size)⟩; clear hb; have z0 := row_at9 HS.out.1 0 _ rfl; have z1 := row_at9 HS.out.1 1 _ rfl; have z2 := row_at9 HS.out.1 2 _ rfl; have z3 := row_at9 HS.out.1 3 _ rfl; have z4 := row_at9 HS.out.1 4 _ rfl; have z5 := row_at9 HS.out.1 5 _ rfl; have z6 := row_at9 HS.out.1 6 _ rfl; have z7 := row_at9 HS.out.1 7 _ rfl; have z8 := row_at9 HS.out.1 8 _ rfl) | (go_at_call_of 54 (Value.int .i64 b); refine (HNb.out _).mono ?_; rintro e w4b ⟨rfl, hb⟩; have HS : Hid (Own w4b w.heap.size 25 #[.int .u8 1, .int .u8 o, .int .i64 d, .int .i64 a, .int .i64 b, .int .i64 ad, .int .i64 tt, .int .i64 wd, .int .i64 fr] ∧ Below w.heap.size w w4b) := ⟨HS.out.1.below hb, HS.out.2.trans (hb.mono HS.out.2.size)⟩; clear hb; have z0 := row_at9 HS.out.1 0 _ rfl; have z1 := row_at9 HS.out.1 1 _ rfl; have z2 := row_at9 HS.out.1 2 _ rfl; have z3 := row_at9 HS.out.1 3 _ rfl; have z4 := row_at9 HS.out.1 4 _ rfl; have z5 := row_at9 HS.out.1 5 _ rfl; have z6 := row_at9 HS.out.1 6 _ rfl; have z7 := row_at9 HS.out.1 7 _ rfl; have z8 := row_at9 HS.out.1 8 _ rfl) | (go_at_call_of 54 (Value.int .i64 ad); refine (HNad.out _).mono ?_; rintro e w4ad ⟨rfl, hb⟩; have HS : Hid (Own w4ad w.heap.size 25 #[.int .u8 1, .int .u8 o, .int .i64 d, .int .i64 a, .int .i64 b, .int .i64 ad, .int .i64 tt, .int .i64 wd, .int .i64 fr] ∧ Below w.heap.size w w4ad) := ⟨HS.out.1.below hb, HS.out.2.trans (hb.mono HS.out.2.size)⟩; clear hb; have z0 := row_at9 HS.out.1 0 _ rfl; have z1 := row_at9 HS.out.1 1 _ rfl; have z2 := row_at9 HS.out.1 2 _ rfl; have z3 := row_at9 HS.out.1 3 _ rfl; have z4 := row_at9 HS.out.1 4 _ rfl; have z5 := row_at9 HS.out.1 5 _ rfl; have z6 := row_at9 HS.out.1 6 _ rfl; have z7 := row_at9 HS.out.1 7 _ rfl; have z8 := row_at9 HS.out.1 8 _ rfl) | (go_at_call_of 54 (Value.int .i64 tt); refine (HNtt.out _).mono ?_; rintro e w4tt ⟨rfl, hb⟩; have HS : Hid (Own w4tt w.heap.size 25 #[.int .u8 1, .int .u8 o, .int .i64 d, .int .i64 a, .int .i64 b, .int .i64 ad, .int .i64 tt, .int .i64 wd, .int .i64 fr] ∧ Below w.heap.size w w4tt) := ⟨HS.out.1.below hb, HS.out.2.trans (hb.mono HS.out.2.size)⟩; clear hb; have z0 := row_at9 HS.out.1 0 _ rfl; have z1 := row_at9 HS.out.1 1 _ rfl; have z2 := row_at9 HS.out.1 2 _ rfl; have z3 := row_at9 HS.out.1 3 _ rfl; have z4 := row_at9 HS.out.1 4 _ rfl; have z5 := row_at9 HS.out.1 5 _ rfl; have z6 := row_at9 HS.out.1 6 _ rfl; have z7 := row_at9 HS.out.1 7 _ rfl; have z8 := row_at9 HS.out.1 8 _ rfl) | (go_at_call_of 54 (Value.int .i64 fr); refine (HNfr.out _).mono ?_; rintro e w4fr ⟨rfl, hb⟩; have HS : Hid (Own w4fr w.heap.size 25 #[.int .u8 1, .int .u8 o, .int .i64 d, .int .i64 a, .int .i64 b, .int .i64 ad, .int .i64 tt, .int .i64 wd, .int .i64 fr] ∧ Below w.heap.size w w4fr) := ⟨HS.out.1.below hb, HS.out.2.trans (hb.mono HS.out.2.size)⟩; clear hb; have z0 := row_at9 HS.out.1 0 _ rfl; have z1 := row_at9 HS.out.1 1 _ rfl; have z2 := row_at9 HS.out.1 2 _ rfl; have z3 := row_at9 HS.out.1 3 _ rfl; have z4 := row_at9 HS.out.1 4 _ rfl; have z5 := row_at9 HS.out.1 5 _ rfl; have z6 := row_at9 HS.out.1 6 _ rfl; have z7 := row_at9 HS.out.1 7 _ rfl; have z8 := row_at9 HS.out.1 8 _ rfl) | (go_at_call 55; refine (HNwd.out _).mono ?_; rintro e w5 ⟨rfl, hb⟩; have HS : Hid (Own w5 w.heap.size 25 #[.int .u8 1, .int .u8 o, .int .i64 d, .int .i64 a, .int .i64 b, .int .i64 ad, .int .i64 tt, .int .i64 wd, .int .i64 fr] ∧ Below w.heap.size w w5) := ⟨HS.out.1.below hb, HS.out.2.trans (hb.mono HS.out.2.size)⟩; clear hb; have z0 := row_at9 HS.out.1 0 _ rfl; have z1 := row_at9 HS.out.1 1 _ rfl; have z2 := row_at9 HS.out.1 2 _ rfl; have z3 := row_at9 HS.out.1 3 _ rfl; have z4 := row_at9 HS.out.1 4 _ rfl; have z5 := row_at9 HS.out.1 5 _ rfl; have z6 := row_at9 HS.out.1 6 _ rfl; have z7 := row_at9 HS.out.1 7 _ rfl; have z8 := row_at9 HS.out.1 8 _ rfl))
    go_ret
    refine ⟨congrArg (fun x => Ending.returned (.string x)) (bs_ext ?_), HS.out.2⟩
    have h := HTX.out
    show _ = (insT (⟨1, o, d, a, b, ad, tt, wd, fr⟩ : Ins))
    rw [h, HP4.out, HP3.out, HP2.out, HP1.out]
    simp [f0, ByteArray.data_append, itoaS, regT, wrdT]
  · have f1 : 0 < fr := by omega
    have s0 : (⟨#[115, 101, 116]⟩ : ByteArray).size ≤ 10 := by show 3 ≤ 10; omega
    obtain ⟨p1, hp1⟩ : ∃ p, p = (⟨#[115, 101, 116]⟩ : ByteArray) ++ (⟨#[32, 114]⟩ : ByteArray) := ⟨_, rfl⟩
    have t1 : (⟨#[32, 114]⟩ : ByteArray).size = 2 := rfl
    have s1 : p1.size ≤ 12 := by rw [hp1, ByteArray.size_append]; omega
    have q1 : ∀ V, (Op.stringOp .add (⟨#[115, 101, 116]⟩ : ByteArray) (⟨#[32, 114]⟩ : ByteArray)).run Tryz.prog V = .ok (.string p1) V := fun V => by rw [hp1]; exact run_string_add_sum V _ _ (by omega)
    have HP1 := Lib.hid hp1
    clear hp1 t1 s0
    obtain ⟨p2, hp2⟩ : ∃ p, p = p1 ++ (itoaS d) := ⟨_, rfl⟩
    have t2 : (itoaS d).size ≤ 100 := itoaS_size d HRNd.out.1 HRNd.out.2
    have s2 : p2.size ≤ 112 := by rw [hp2, ByteArray.size_append]; omega
    have q2 : ∀ V, (Op.stringOp .add p1 (itoaS d)).run Tryz.prog V = .ok (.string p2) V := fun V => by rw [hp2]; exact run_string_add_sum V _ _ (by omega)
    have HP2 := Lib.hid hp2
    clear hp2 t2 s1
    obtain ⟨p3, hp3⟩ : ∃ p, p = p2 ++ (⟨#[32]⟩ : ByteArray) := ⟨_, rfl⟩
    have t3 : (⟨#[32]⟩ : ByteArray).size = 1 := rfl
    have s3 : p3.size ≤ 113 := by rw [hp3, ByteArray.size_append]; omega
    have q3 : ∀ V, (Op.stringOp .add p2 (⟨#[32]⟩ : ByteArray)).run Tryz.prog V = .ok (.string p3) V := fun V => by rw [hp3]; exact run_string_add_sum V _ _ (by omega)
    have HP3 := Lib.hid hp3
    clear hp3 t3 s2
    obtain ⟨p4, hp4⟩ : ∃ p, p = p3 ++ (itoaS wd) := ⟨_, rfl⟩
    have t4 : (itoaS wd).size ≤ 100 := itoaS_size wd HRNwd.out.1 HRNwd.out.2
    have s4 : p4.size ≤ 213 := by rw [hp4, ByteArray.size_append]; omega
    have q4 : ∀ V, (Op.stringOp .add p3 (itoaS wd)).run Tryz.prog V = .ok (.string p4) V := fun V => by rw [hp4]; exact run_string_add_sum V _ _ (by omega)
    have HP4 := Lib.hid hp4
    clear hp4 t4 s3
    obtain ⟨p5, hp5⟩ : ∃ p, p = p4 ++ (⟨#[32, 64]⟩ : ByteArray) := ⟨_, rfl⟩
    have t5 : (⟨#[32, 64]⟩ : ByteArray).size = 2 := rfl
    have s5 : p5.size ≤ 215 := by rw [hp5, ByteArray.size_append]; omega
    have q5 : ∀ V, (Op.stringOp .add p4 (⟨#[32, 64]⟩ : ByteArray)).run Tryz.prog V = .ok (.string p5) V := fun V => by rw [hp5]; exact run_string_add_sum V _ _ (by omega)
    have HP5 := Lib.hid hp5
    clear hp5 t5 s4
    obtain ⟨p6, hp6⟩ : ∃ p, p = p5 ++ (itoaS fr) := ⟨_, rfl⟩
    have t6 : (itoaS fr).size ≤ 100 := itoaS_size fr HRNfr.out.1 HRNfr.out.2
    have s6 : p6.size ≤ 315 := by rw [hp6, ByteArray.size_append]; omega
    have q6 : ∀ V, (Op.stringOp .add p5 (itoaS fr)).run Tryz.prog V = .ok (.string p6) V := fun V => by rw [hp6]; exact run_string_add_sum V _ _ (by omega)
    have HP6 := Lib.hid hp6
    clear hp6 t6 s5
    clear s6
    have z0 := row_at9 HS.out.1 0 _ rfl
    have z1 := row_at9 HS.out.1 1 _ rfl
    have z2 := row_at9 HS.out.1 2 _ rfl
    have z3 := row_at9 HS.out.1 3 _ rfl
    have z4 := row_at9 HS.out.1 4 _ rfl
    have z5 := row_at9 HS.out.1 5 _ rfl
    have z6 := row_at9 HS.out.1 6 _ rfl
    have z7 := row_at9 HS.out.1 7 _ rfl
    have z8 := row_at9 HS.out.1 8 _ rfl
    go_wp2_with (first | (go_at_call 52; refine (r_kwd1 _).mono ?_; rintro e w2 ⟨rfl, hb⟩; have HS : Hid (Own w2 w.heap.size 25 #[.int .u8 1, .int .u8 o, .int .i64 d, .int .i64 a, .int .i64 b, .int .i64 ad, .int .i64 tt, .int .i64 wd, .int .i64 fr] ∧ Below w.heap.size w w2) := ⟨HS.out.1.below hb, HS.out.2.trans (hb.mono HS.out.2.size)⟩; clear hb; have z0 := row_at9 HS.out.1 0 _ rfl; have z1 := row_at9 HS.out.1 1 _ rfl; have z2 := row_at9 HS.out.1 2 _ rfl; have z3 := row_at9 HS.out.1 3 _ rfl; have z4 := row_at9 HS.out.1 4 _ rfl; have z5 := row_at9 HS.out.1 5 _ rfl; have z6 := row_at9 HS.out.1 6 _ rfl; have z7 := row_at9 HS.out.1 7 _ rfl; have z8 := row_at9 HS.out.1 8 _ rfl) | (go_at_call 45; refine (r_uses1 _).mono ?_; rintro e w' ⟨rfl, rfl⟩) | (go_at_call_of 54 (Value.int .i64 d); refine (HNd.out _).mono ?_; rintro e w4d ⟨rfl, hb⟩; have HS : Hid (Own w4d w.heap.size 25 #[.int .u8 1, .int .u8 o, .int .i64 d, .int .i64 a, .int .i64 b, .int .i64 ad, .int .i64 tt, .int .i64 wd, .int .i64 fr] ∧ Below w.heap.size w w4d) := ⟨HS.out.1.below hb, HS.out.2.trans (hb.mono HS.out.2.size)⟩; clear hb; have z0 := row_at9 HS.out.1 0 _ rfl; have z1 := row_at9 HS.out.1 1 _ rfl; have z2 := row_at9 HS.out.1 2 _ rfl; have z3 := row_at9 HS.out.1 3 _ rfl; have z4 := row_at9 HS.out.1 4 _ rfl; have z5 := row_at9 HS.out.1 5 _ rfl; have z6 := row_at9 HS.out.1 6 _ rfl; have z7 := row_at9 HS.out.1 7 _ rfl; have z8 := row_at9 HS.out.1 8 _ rfl) | (go_at_call_of 54 (Value.int .i64 a); refine (HNa.out _).mono ?_; rintro e w4a ⟨rfl, hb⟩; have HS : Hid (Own w4a w.heap.size 25 #[.int .u8 1, .int .u8 o, .int .i64 d, .int .i64 a, .int .i64 b, .int .i64 ad, .int .i64 tt, .int .i64 wd, .int .i64 fr] ∧ Below w.heap.size w w4a) := ⟨HS.out.1.below hb, HS.out.2.trans (hb.mono HS.out.2.size)⟩; clear hb; have z0 := row_at9 HS.out.1 0 _ rfl; have z1 := row_at9 HS.out.1 1 _ rfl; have z2 := row_at9 HS.out.1 2 _ rfl; have z3 := row_at9 HS.out.1 3 _ rfl; have z4 := row_at9 HS.out.1 4 _ rfl; have z5 := row_at9 HS.out.1 5 _ rfl; have z6 := row_at9 HS.out.1 6 _ rfl; have z7 := row_at9 HS.out.1 7 _ rfl; have z8 := row_at9 HS.out.1 8 _ rfl) | (go_at_call_of 54 (Value.int .i64 b); refine (HNb.out _).mono ?_; rintro e w4b ⟨rfl, hb⟩; have HS : Hid (Own w4b w.heap.size 25 #[.int .u8 1, .int .u8 o, .int .i64 d, .int .i64 a, .int .i64 b, .int .i64 ad, .int .i64 tt, .int .i64 wd, .int .i64 fr] ∧ Below w.heap.size w w4b) := ⟨HS.out.1.below hb, HS.out.2.trans (hb.mono HS.out.2.size)⟩; clear hb; have z0 := row_at9 HS.out.1 0 _ rfl; have z1 := row_at9 HS.out.1 1 _ rfl; have z2 := row_at9 HS.out.1 2 _ rfl; have z3 := row_at9 HS.out.1 3 _ rfl; have z4 := row_at9 HS.out.1 4 _ rfl; have z5 := row_at9 HS.out.1 5 _ rfl; have z6 := row_at9 HS.out.1 6 _ rfl; have z7 := row_at9 HS.out.1 7 _ rfl; have z8 := row_at9 HS.out.1 8 _ rfl) | (go_at_call_of 54 (Value.int .i64 ad); refine (HNad.out _).mono ?_; rintro e w4ad ⟨rfl, hb⟩; have HS : Hid (Own w4ad w.heap.size 25 #[.int .u8 1, .int .u8 o, .int .i64 d, .int .i64 a, .int .i64 b, .int .i64 ad, .int .i64 tt, .int .i64 wd, .int .i64 fr] ∧ Below w.heap.size w w4ad) := ⟨HS.out.1.below hb, HS.out.2.trans (hb.mono HS.out.2.size)⟩; clear hb; have z0 := row_at9 HS.out.1 0 _ rfl; have z1 := row_at9 HS.out.1 1 _ rfl; have z2 := row_at9 HS.out.1 2 _ rfl; have z3 := row_at9 HS.out.1 3 _ rfl; have z4 := row_at9 HS.out.1 4 _ rfl; have z5 := row_at9 HS.out.1 5 _ rfl; have z6 := row_at9 HS.out.1 6 _ rfl; have z7 := row_at9 HS.out.1 7 _ rfl; have z8 := row_at9 HS.out.1 8 _ rfl) | (go_at_call_of 54 (Value.int .i64 tt); refine (HNtt.out _).mono ?_; rintro e w4tt ⟨rfl, hb⟩; have HS : Hid (Own w4tt w.heap.size 25 #[.int .u8 1, .int .u8 o, .int .i64 d, .int .i64 a, .int .i64 b, .int .i64 ad, .int .i64 tt, .int .i64 wd, .int .i64 fr] ∧ Below w.heap.size w w4tt) := ⟨HS.out.1.below hb, HS.out.2.trans (hb.mono HS.out.2.size)⟩; clear hb; have z0 := row_at9 HS.out.1 0 _ rfl; have z1 := row_at9 HS.out.1 1 _ rfl; have z2 := row_at9 HS.out.1 2 _ rfl; have z3 := row_at9 HS.out.1 3 _ rfl; have z4 := row_at9 HS.out.1 4 _ rfl; have z5 := row_at9 HS.out.1 5 _ rfl; have z6 := row_at9 HS.out.1 6 _ rfl; have z7 := row_at9 HS.out.1 7 _ rfl; have z8 := row_at9 HS.out.1 8 _ rfl) | (go_at_call_of 54 (Value.int .i64 fr); refine (HNfr.out _).mono ?_; rintro e w4fr ⟨rfl, hb⟩; have HS : Hid (Own w4fr w.heap.size 25 #[.int .u8 1, .int .u8 o, .int .i64 d, .int .i64 a, .int .i64 b, .int .i64 ad, .int .i64 tt, .int .i64 wd, .int .i64 fr] ∧ Below w.heap.size w w4fr) := ⟨HS.out.1.below hb, HS.out.2.trans (hb.mono HS.out.2.size)⟩; clear hb; have z0 := row_at9 HS.out.1 0 _ rfl; have z1 := row_at9 HS.out.1 1 _ rfl; have z2 := row_at9 HS.out.1 2 _ rfl; have z3 := row_at9 HS.out.1 3 _ rfl; have z4 := row_at9 HS.out.1 4 _ rfl; have z5 := row_at9 HS.out.1 5 _ rfl; have z6 := row_at9 HS.out.1 6 _ rfl; have z7 := row_at9 HS.out.1 7 _ rfl; have z8 := row_at9 HS.out.1 8 _ rfl) | (go_at_call 55; refine (HNwd.out _).mono ?_; rintro e w5 ⟨rfl, hb⟩; have HS : Hid (Own w5 w.heap.size 25 #[.int .u8 1, .int .u8 o, .int .i64 d, .int .i64 a, .int .i64 b, .int .i64 ad, .int .i64 tt, .int .i64 wd, .int .i64 fr] ∧ Below w.heap.size w w5) := ⟨HS.out.1.below hb, HS.out.2.trans (hb.mono HS.out.2.size)⟩; clear hb; have z0 := row_at9 HS.out.1 0 _ rfl; have z1 := row_at9 HS.out.1 1 _ rfl; have z2 := row_at9 HS.out.1 2 _ rfl; have z3 := row_at9 HS.out.1 3 _ rfl; have z4 := row_at9 HS.out.1 4 _ rfl; have z5 := row_at9 HS.out.1 5 _ rfl; have z6 := row_at9 HS.out.1 6 _ rfl; have z7 := row_at9 HS.out.1 7 _ rfl; have z8 := row_at9 HS.out.1 8 _ rfl))
    go_ret
    refine ⟨congrArg (fun x => Ending.returned (.string x)) (bs_ext ?_), HS.out.2⟩
    have h := HTX.out
    show _ = (insT (⟨1, o, d, a, b, ad, tt, wd, fr⟩ : Ins))
    rw [h, HP6.out, HP5.out, HP4.out, HP3.out, HP2.out, HP1.out]
    simp [f0, ByteArray.data_append, itoaS, regT, wrdT]
set_option maxHeartbeats 8000000 in
theorem r_show2 (o d a b ad tt wd fr : Int) (hg : rgI (⟨2, o, d, a, b, ad, tt, wd, fr⟩ : Ins)) (hr : rightB (⟨2, o, d, a, b, ad, tt, wd, fr⟩ : Ins) 9223372036854775807 9223372036854775807 = true) (w : World) : Calls Tryz.prog 29 #[.agg #[.int .u8 2, .int .u8 o, .int .i64 d, .int .i64 a, .int .i64 b, .int .i64 ad, .int .i64 tt, .int .i64 wd, .int .i64 fr]] w fun e w' => e = .returned (.string ⟨(insT (⟨2, o, d, a, b, ad, tt, wd, fr⟩ : Ins)).toArray⟩) ∧ Below w.heap.size w w' := by
  have hfr := right_fr hr
  have hop := right_op hr
  have hT : insT (⟨2, o, d, a, b, ad, tt, wd, fr⟩ : Ins) = opTx.getD o.toNat [] ++ ((((((regT d) ++ (regT a)) ++ (bif twoB o then regT b else [])) ++ ([])) ++ ([])) ++ ([])) ++ (if fr = 0 then [] else [32, 64] ++ Lib.itoa fr) := by
    rw [ins_txt _ (show kB 2 = true by decide)]
    rfl
  have HRR : Hid (∀ X, Calls Tryz.prog 13 #[.agg #[.int .u8 2, .int .u8 o, .int .i64 d, .int .i64 a, .int .i64 b, .int .i64 ad, .int .i64 tt, .int .i64 wd, .int .i64 fr], .int .i64 9223372036854775807, .int .i64 9223372036854775807] X fun e w' => e = .returned (.bool true) ∧ Below X.heap.size X w') := fun X => by
    have h := rright_any (⟨2, o, d, a, b, ad, tt, wd, fr⟩ : Ins) hg 9223372036854775807 9223372036854775807 X
    rw [hr] at h
    exact h
  obtain ⟨_, ho, hd, ha, hb0, had, htt, hwd, hfr2⟩ := hg
  simp only at ho hd ha hb0 had htt hwd hfr2
  have HT2 : Hid (∀ X, Calls Tryz.prog 46 #[.int .u8 o] X fun e w' => e = .returned (.bool (twoB o)) ∧ X = w') := fun X => r_two o ho.1 X
  have HOP : Hid (∀ X, Calls Tryz.prog 53 #[.int .u8 o] X fun e w' => e = .returned (.string ⟨(opTx.getD o.toNat []).toArray⟩) ∧ Below X.heap.size X w') := fun X => r_opw o hop.1 hop.2 X
  have HTX := Lib.hid hT
  have HNd : Hid (∀ X, Calls Tryz.prog 54 #[.int .i64 d] X fun e w' => e = .returned (.string (itoaS d)) ∧ Below X.heap.size X w') := fun X => r_nat d hd.1 hd.2 X
  have HNa : Hid (∀ X, Calls Tryz.prog 54 #[.int .i64 a] X fun e w' => e = .returned (.string (itoaS a)) ∧ Below X.heap.size X w') := fun X => r_nat a ha.1 ha.2 X
  have HNb : Hid (∀ X, Calls Tryz.prog 54 #[.int .i64 b] X fun e w' => e = .returned (.string (itoaS b)) ∧ Below X.heap.size X w') := fun X => r_nat b hb0.1 hb0.2 X
  have HNad : Hid (∀ X, Calls Tryz.prog 54 #[.int .i64 ad] X fun e w' => e = .returned (.string (itoaS ad)) ∧ Below X.heap.size X w') := fun X => r_nat ad had.1 had.2 X
  have HNtt : Hid (∀ X, Calls Tryz.prog 54 #[.int .i64 tt] X fun e w' => e = .returned (.string (itoaS tt)) ∧ Below X.heap.size X w') := fun X => r_nat tt htt.1 htt.2 X
  have HNfr : Hid (∀ X, Calls Tryz.prog 54 #[.int .i64 fr] X fun e w' => e = .returned (.string (itoaS fr)) ∧ Below X.heap.size X w') := fun X => r_nat fr hfr2.1 hfr2.2 X
  have HRNd := Lib.hid hd
  have HRNa := Lib.hid ha
  have HRNb := Lib.hid hb0
  have HRNad := Lib.hid had
  have HRNtt := Lib.hid htt
  have HRNfr := Lib.hid hfr2
  have HRNwd := Lib.hid hwd
  have HNwd : Hid (∀ X, Calls Tryz.prog 55 #[.int .i64 wd] X fun e w' => e = .returned (.string (itoaS wd)) ∧ Below X.heap.size X w') := fun X => rprint_any wd hwd.1 hwd.2 X
  have al : Below w.heap.size w (w.alloc (.cells #[.int .u8 2, .int .u8 o, .int .i64 d, .int .i64 a, .int .i64 b, .int .i64 ad, .int .i64 tt, .int .i64 wd, .int .i64 fr] 25)) := (Below.refl _ w).alloc (Nat.le_refl _) _
  have O0 := Own.new w 25 #[.int .u8 2, .int .u8 o, .int .i64 d, .int .i64 a, .int .i64 b, .int .i64 ad, .int .i64 tt, .int .i64 wd, .int .i64 fr]
  obtain ⟨W0, hW0⟩ : ∃ W, W = w.alloc (.cells #[.int .u8 2, .int .u8 o, .int .i64 d, .int .i64 a, .int .i64 b, .int .i64 ad, .int .i64 tt, .int .i64 wd, .int .i64 fr] 25) := ⟨_, rfl⟩
  rw [← hW0] at al O0
  have HW0 := Lib.hid hW0
  have HS0 : Hid (Own W0 w.heap.size 25 #[.int .u8 2, .int .u8 o, .int .i64 d, .int .i64 a, .int .i64 b, .int .i64 ad, .int .i64 tt, .int .i64 wd, .int .i64 fr] ∧ Below w.heap.size w W0) := ⟨O0, al⟩
  have HOW : Hid ((⟨(opTx.getD o.toNat []).toArray⟩ : ByteArray).size ≤ 10) := by show (opTx.getD o.toNat []).toArray.size ≤ 10; rw [List.size_toArray]; exact opTx_len _
  generalize opTx.getD o.toNat [] = ow at HOP HTX HOW
  generalize twoB o = t2 at HT2 HTX
  clear hT al hW0 ho hd ha hb0 had htt hwd hfr2 hr hop
  go_enter Tryz.func29, Tryz.ntmps29
  go_upto_region 1 with fail
  rw [← HW0.out]
  clear HW0
  go_upto_region 3 with (first | (refine ld rowI rfl rfl rfl O0 rfl ?_) | (go_at_call 13; refine (HRR.out _).mono ?_; rintro e w1 ⟨rfl, hb⟩; have HS : Hid (Own w1 w.heap.size 25 #[.int .u8 2, .int .u8 o, .int .i64 d, .int .i64 a, .int .i64 b, .int .i64 ad, .int .i64 tt, .int .i64 wd, .int .i64 fr] ∧ Below w.heap.size w w1) := ⟨HS0.out.1.below hb, HS0.out.2.trans (hb.mono HS0.out.2.size)⟩; clear hb O0))
  clear HS0 HRR
  rename_i w1
  cases t2 with
  | true =>
    by_cases f0 : fr = 0
    · have f1 : ¬ 0 < fr := by omega
      have s0 : (⟨ow.toArray⟩ : ByteArray).size ≤ 10 := HOW.out
      obtain ⟨p1, hp1⟩ : ∃ p, p = (⟨ow.toArray⟩ : ByteArray) ++ (⟨#[32, 114]⟩ : ByteArray) := ⟨_, rfl⟩
      have t1 : (⟨#[32, 114]⟩ : ByteArray).size = 2 := rfl
      have s1 : p1.size ≤ 12 := by rw [hp1, ByteArray.size_append]; omega
      have q1 : ∀ V, (Op.stringOp .add (⟨ow.toArray⟩ : ByteArray) (⟨#[32, 114]⟩ : ByteArray)).run Tryz.prog V = .ok (.string p1) V := fun V => by rw [hp1]; exact run_string_add_sum V _ _ (by omega)
      have HP1 := Lib.hid hp1
      clear hp1 t1 s0
      obtain ⟨p2, hp2⟩ : ∃ p, p = p1 ++ (itoaS d) := ⟨_, rfl⟩
      have t2 : (itoaS d).size ≤ 100 := itoaS_size d HRNd.out.1 HRNd.out.2
      have s2 : p2.size ≤ 112 := by rw [hp2, ByteArray.size_append]; omega
      have q2 : ∀ V, (Op.stringOp .add p1 (itoaS d)).run Tryz.prog V = .ok (.string p2) V := fun V => by rw [hp2]; exact run_string_add_sum V _ _ (by omega)
      have HP2 := Lib.hid hp2
      clear hp2 t2 s1
      obtain ⟨p3, hp3⟩ : ∃ p, p = p2 ++ (⟨#[32, 114]⟩ : ByteArray) := ⟨_, rfl⟩
      have t3 : (⟨#[32, 114]⟩ : ByteArray).size = 2 := rfl
      have s3 : p3.size ≤ 114 := by rw [hp3, ByteArray.size_append]; omega
      have q3 : ∀ V, (Op.stringOp .add p2 (⟨#[32, 114]⟩ : ByteArray)).run Tryz.prog V = .ok (.string p3) V := fun V => by rw [hp3]; exact run_string_add_sum V _ _ (by omega)
      have HP3 := Lib.hid hp3
      clear hp3 t3 s2
      obtain ⟨p4, hp4⟩ : ∃ p, p = p3 ++ (itoaS a) := ⟨_, rfl⟩
      have t4 : (itoaS a).size ≤ 100 := itoaS_size a HRNa.out.1 HRNa.out.2
      have s4 : p4.size ≤ 214 := by rw [hp4, ByteArray.size_append]; omega
      have q4 : ∀ V, (Op.stringOp .add p3 (itoaS a)).run Tryz.prog V = .ok (.string p4) V := fun V => by rw [hp4]; exact run_string_add_sum V _ _ (by omega)
      have HP4 := Lib.hid hp4
      clear hp4 t4 s3
      obtain ⟨p5, hp5⟩ : ∃ p, p = p4 ++ (⟨#[32, 114]⟩ : ByteArray) := ⟨_, rfl⟩
      have t5 : (⟨#[32, 114]⟩ : ByteArray).size = 2 := rfl
      have s5 : p5.size ≤ 216 := by rw [hp5, ByteArray.size_append]; omega
      have q5 : ∀ V, (Op.stringOp .add p4 (⟨#[32, 114]⟩ : ByteArray)).run Tryz.prog V = .ok (.string p5) V := fun V => by rw [hp5]; exact run_string_add_sum V _ _ (by omega)
      have HP5 := Lib.hid hp5
      clear hp5 t5 s4
      obtain ⟨p6, hp6⟩ : ∃ p, p = p5 ++ (itoaS b) := ⟨_, rfl⟩
      have t6 : (itoaS b).size ≤ 100 := itoaS_size b HRNb.out.1 HRNb.out.2
      have s6 : p6.size ≤ 316 := by rw [hp6, ByteArray.size_append]; omega
      have q6 : ∀ V, (Op.stringOp .add p5 (itoaS b)).run Tryz.prog V = .ok (.string p6) V := fun V => by rw [hp6]; exact run_string_add_sum V _ _ (by omega)
      have HP6 := Lib.hid hp6
      clear hp6 t6 s5
      clear s6
      have z0 := row_at9 HS.out.1 0 _ rfl
      have z1 := row_at9 HS.out.1 1 _ rfl
      have z2 := row_at9 HS.out.1 2 _ rfl
      have z3 := row_at9 HS.out.1 3 _ rfl
      have z4 := row_at9 HS.out.1 4 _ rfl
      have z5 := row_at9 HS.out.1 5 _ rfl
      have z6 := row_at9 HS.out.1 6 _ rfl
      have z7 := row_at9 HS.out.1 7 _ rfl
      have z8 := row_at9 HS.out.1 8 _ rfl
      go_wp2_with (first | (go_at_call 52; refine (r_kwd2 _).mono ?_; rintro e w2 ⟨rfl, hb⟩; have HS : Hid (Own w2 w.heap.size 25 #[.int .u8 2, .int .u8 o, .int .i64 d, .int .i64 a, .int .i64 b, .int .i64 ad, .int .i64 tt, .int .i64 wd, .int .i64 fr] ∧ Below w.heap.size w w2) := ⟨HS.out.1.below hb, HS.out.2.trans (hb.mono HS.out.2.size)⟩; clear hb; have z0 := row_at9 HS.out.1 0 _ rfl; have z1 := row_at9 HS.out.1 1 _ rfl; have z2 := row_at9 HS.out.1 2 _ rfl; have z3 := row_at9 HS.out.1 3 _ rfl; have z4 := row_at9 HS.out.1 4 _ rfl; have z5 := row_at9 HS.out.1 5 _ rfl; have z6 := row_at9 HS.out.1 6 _ rfl; have z7 := row_at9 HS.out.1 7 _ rfl; have z8 := row_at9 HS.out.1 8 _ rfl) | (go_at_call 53; refine (HOP.out _).mono ?_; rintro e w3 ⟨rfl, hb⟩; have HS : Hid (Own w3 w.heap.size 25 #[.int .u8 2, .int .u8 o, .int .i64 d, .int .i64 a, .int .i64 b, .int .i64 ad, .int .i64 tt, .int .i64 wd, .int .i64 fr] ∧ Below w.heap.size w w3) := ⟨HS.out.1.below hb, HS.out.2.trans (hb.mono HS.out.2.size)⟩; clear hb; have z0 := row_at9 HS.out.1 0 _ rfl; have z1 := row_at9 HS.out.1 1 _ rfl; have z2 := row_at9 HS.out.1 2 _ rfl; have z3 := row_at9 HS.out.1 3 _ rfl; have z4 := row_at9 HS.out.1 4 _ rfl; have z5 := row_at9 HS.out.1 5 _ rfl; have z6 := row_at9 HS.out.1 6 _ rfl; have z7 := row_at9 HS.out.1 7 _ rfl; have z8 := row_at9 HS.out.1 8 _ rfl) | (go_at_call 45; refine (r_uses2 _).mono ?_; rintro e w' ⟨rfl, rfl⟩) | (go_at_call 46; refine (HT2.out _).mono ?_; rintro e w' ⟨rfl, rfl⟩) | (go_at_call_of 54 (Value.int .i64 d); refine (HNd.out _).mono ?_; rintro e w4d ⟨rfl, hb⟩; have HS : Hid (Own w4d w.heap.size 25 #[.int .u8 2, .int .u8 o, .int .i64 d, .int .i64 a, .int .i64 b, .int .i64 ad, .int .i64 tt, .int .i64 wd, .int .i64 fr] ∧ Below w.heap.size w w4d) := ⟨HS.out.1.below hb, HS.out.2.trans (hb.mono HS.out.2.size)⟩; clear hb; have z0 := row_at9 HS.out.1 0 _ rfl; have z1 := row_at9 HS.out.1 1 _ rfl; have z2 := row_at9 HS.out.1 2 _ rfl; have z3 := row_at9 HS.out.1 3 _ rfl; have z4 := row_at9 HS.out.1 4 _ rfl; have z5 := row_at9 HS.out.1 5 _ rfl; have z6 := row_at9 HS.out.1 6 _ rfl; have z7 := row_at9 HS.out.1 7 _ rfl; have z8 := row_at9 HS.out.1 8 _ rfl) | (go_at_call_of 54 (Value.int .i64 a); refine (HNa.out _).mono ?_; rintro e w4a ⟨rfl, hb⟩; have HS : Hid (Own w4a w.heap.size 25 #[.int .u8 2, .int .u8 o, .int .i64 d, .int .i64 a, .int .i64 b, .int .i64 ad, .int .i64 tt, .int .i64 wd, .int .i64 fr] ∧ Below w.heap.size w w4a) := ⟨HS.out.1.below hb, HS.out.2.trans (hb.mono HS.out.2.size)⟩; clear hb; have z0 := row_at9 HS.out.1 0 _ rfl; have z1 := row_at9 HS.out.1 1 _ rfl; have z2 := row_at9 HS.out.1 2 _ rfl; have z3 := row_at9 HS.out.1 3 _ rfl; have z4 := row_at9 HS.out.1 4 _ rfl; have z5 := row_at9 HS.out.1 5 _ rfl; have z6 := row_at9 HS.out.1 6 _ rfl; have z7 := row_at9 HS.out.1 7 _ rfl; have z8 := row_at9 HS.out.1 8 _ rfl) | (go_at_call_of 54 (Value.int .i64 b); refine (HNb.out _).mono ?_; rintro e w4b ⟨rfl, hb⟩; have HS : Hid (Own w4b w.heap.size 25 #[.int .u8 2, .int .u8 o, .int .i64 d, .int .i64 a, .int .i64 b, .int .i64 ad, .int .i64 tt, .int .i64 wd, .int .i64 fr] ∧ Below w.heap.size w w4b) := ⟨HS.out.1.below hb, HS.out.2.trans (hb.mono HS.out.2.size)⟩; clear hb; have z0 := row_at9 HS.out.1 0 _ rfl; have z1 := row_at9 HS.out.1 1 _ rfl; have z2 := row_at9 HS.out.1 2 _ rfl; have z3 := row_at9 HS.out.1 3 _ rfl; have z4 := row_at9 HS.out.1 4 _ rfl; have z5 := row_at9 HS.out.1 5 _ rfl; have z6 := row_at9 HS.out.1 6 _ rfl; have z7 := row_at9 HS.out.1 7 _ rfl; have z8 := row_at9 HS.out.1 8 _ rfl) | (go_at_call_of 54 (Value.int .i64 ad); refine (HNad.out _).mono ?_; rintro e w4ad ⟨rfl, hb⟩; have HS : Hid (Own w4ad w.heap.size 25 #[.int .u8 2, .int .u8 o, .int .i64 d, .int .i64 a, .int .i64 b, .int .i64 ad, .int .i64 tt, .int .i64 wd, .int .i64 fr] ∧ Below w.heap.size w w4ad) := ⟨HS.out.1.below hb, HS.out.2.trans (hb.mono HS.out.2.size)⟩; clear hb; have z0 := row_at9 HS.out.1 0 _ rfl; have z1 := row_at9 HS.out.1 1 _ rfl; have z2 := row_at9 HS.out.1 2 _ rfl; have z3 := row_at9 HS.out.1 3 _ rfl; have z4 := row_at9 HS.out.1 4 _ rfl; have z5 := row_at9 HS.out.1 5 _ rfl; have z6 := row_at9 HS.out.1 6 _ rfl; have z7 := row_at9 HS.out.1 7 _ rfl; have z8 := row_at9 HS.out.1 8 _ rfl) | (go_at_call_of 54 (Value.int .i64 tt); refine (HNtt.out _).mono ?_; rintro e w4tt ⟨rfl, hb⟩; have HS : Hid (Own w4tt w.heap.size 25 #[.int .u8 2, .int .u8 o, .int .i64 d, .int .i64 a, .int .i64 b, .int .i64 ad, .int .i64 tt, .int .i64 wd, .int .i64 fr] ∧ Below w.heap.size w w4tt) := ⟨HS.out.1.below hb, HS.out.2.trans (hb.mono HS.out.2.size)⟩; clear hb; have z0 := row_at9 HS.out.1 0 _ rfl; have z1 := row_at9 HS.out.1 1 _ rfl; have z2 := row_at9 HS.out.1 2 _ rfl; have z3 := row_at9 HS.out.1 3 _ rfl; have z4 := row_at9 HS.out.1 4 _ rfl; have z5 := row_at9 HS.out.1 5 _ rfl; have z6 := row_at9 HS.out.1 6 _ rfl; have z7 := row_at9 HS.out.1 7 _ rfl; have z8 := row_at9 HS.out.1 8 _ rfl) | (go_at_call_of 54 (Value.int .i64 fr); refine (HNfr.out _).mono ?_; rintro e w4fr ⟨rfl, hb⟩; have HS : Hid (Own w4fr w.heap.size 25 #[.int .u8 2, .int .u8 o, .int .i64 d, .int .i64 a, .int .i64 b, .int .i64 ad, .int .i64 tt, .int .i64 wd, .int .i64 fr] ∧ Below w.heap.size w w4fr) := ⟨HS.out.1.below hb, HS.out.2.trans (hb.mono HS.out.2.size)⟩; clear hb; have z0 := row_at9 HS.out.1 0 _ rfl; have z1 := row_at9 HS.out.1 1 _ rfl; have z2 := row_at9 HS.out.1 2 _ rfl; have z3 := row_at9 HS.out.1 3 _ rfl; have z4 := row_at9 HS.out.1 4 _ rfl; have z5 := row_at9 HS.out.1 5 _ rfl; have z6 := row_at9 HS.out.1 6 _ rfl; have z7 := row_at9 HS.out.1 7 _ rfl; have z8 := row_at9 HS.out.1 8 _ rfl) | (go_at_call 55; refine (HNwd.out _).mono ?_; rintro e w5 ⟨rfl, hb⟩; have HS : Hid (Own w5 w.heap.size 25 #[.int .u8 2, .int .u8 o, .int .i64 d, .int .i64 a, .int .i64 b, .int .i64 ad, .int .i64 tt, .int .i64 wd, .int .i64 fr] ∧ Below w.heap.size w w5) := ⟨HS.out.1.below hb, HS.out.2.trans (hb.mono HS.out.2.size)⟩; clear hb; have z0 := row_at9 HS.out.1 0 _ rfl; have z1 := row_at9 HS.out.1 1 _ rfl; have z2 := row_at9 HS.out.1 2 _ rfl; have z3 := row_at9 HS.out.1 3 _ rfl; have z4 := row_at9 HS.out.1 4 _ rfl; have z5 := row_at9 HS.out.1 5 _ rfl; have z6 := row_at9 HS.out.1 6 _ rfl; have z7 := row_at9 HS.out.1 7 _ rfl; have z8 := row_at9 HS.out.1 8 _ rfl))
      go_ret
      refine ⟨congrArg (fun x => Ending.returned (.string x)) (bs_ext ?_), HS.out.2⟩
      have h := HTX.out
      show _ = (insT (⟨2, o, d, a, b, ad, tt, wd, fr⟩ : Ins))
      rw [h, HP6.out, HP5.out, HP4.out, HP3.out, HP2.out, HP1.out]
      simp [f0, ByteArray.data_append, itoaS, regT]
    · have f1 : 0 < fr := by omega
      have s0 : (⟨ow.toArray⟩ : ByteArray).size ≤ 10 := HOW.out
      obtain ⟨p1, hp1⟩ : ∃ p, p = (⟨ow.toArray⟩ : ByteArray) ++ (⟨#[32, 114]⟩ : ByteArray) := ⟨_, rfl⟩
      have t1 : (⟨#[32, 114]⟩ : ByteArray).size = 2 := rfl
      have s1 : p1.size ≤ 12 := by rw [hp1, ByteArray.size_append]; omega
      have q1 : ∀ V, (Op.stringOp .add (⟨ow.toArray⟩ : ByteArray) (⟨#[32, 114]⟩ : ByteArray)).run Tryz.prog V = .ok (.string p1) V := fun V => by rw [hp1]; exact run_string_add_sum V _ _ (by omega)
      have HP1 := Lib.hid hp1
      clear hp1 t1 s0
      obtain ⟨p2, hp2⟩ : ∃ p, p = p1 ++ (itoaS d) := ⟨_, rfl⟩
      have t2 : (itoaS d).size ≤ 100 := itoaS_size d HRNd.out.1 HRNd.out.2
      have s2 : p2.size ≤ 112 := by rw [hp2, ByteArray.size_append]; omega
      have q2 : ∀ V, (Op.stringOp .add p1 (itoaS d)).run Tryz.prog V = .ok (.string p2) V := fun V => by rw [hp2]; exact run_string_add_sum V _ _ (by omega)
      have HP2 := Lib.hid hp2
      clear hp2 t2 s1
      obtain ⟨p3, hp3⟩ : ∃ p, p = p2 ++ (⟨#[32, 114]⟩ : ByteArray) := ⟨_, rfl⟩
      have t3 : (⟨#[32, 114]⟩ : ByteArray).size = 2 := rfl
      have s3 : p3.size ≤ 114 := by rw [hp3, ByteArray.size_append]; omega
      have q3 : ∀ V, (Op.stringOp .add p2 (⟨#[32, 114]⟩ : ByteArray)).run Tryz.prog V = .ok (.string p3) V := fun V => by rw [hp3]; exact run_string_add_sum V _ _ (by omega)
      have HP3 := Lib.hid hp3
      clear hp3 t3 s2
      obtain ⟨p4, hp4⟩ : ∃ p, p = p3 ++ (itoaS a) := ⟨_, rfl⟩
      have t4 : (itoaS a).size ≤ 100 := itoaS_size a HRNa.out.1 HRNa.out.2
      have s4 : p4.size ≤ 214 := by rw [hp4, ByteArray.size_append]; omega
      have q4 : ∀ V, (Op.stringOp .add p3 (itoaS a)).run Tryz.prog V = .ok (.string p4) V := fun V => by rw [hp4]; exact run_string_add_sum V _ _ (by omega)
      have HP4 := Lib.hid hp4
      clear hp4 t4 s3
      obtain ⟨p5, hp5⟩ : ∃ p, p = p4 ++ (⟨#[32, 114]⟩ : ByteArray) := ⟨_, rfl⟩
      have t5 : (⟨#[32, 114]⟩ : ByteArray).size = 2 := rfl
      have s5 : p5.size ≤ 216 := by rw [hp5, ByteArray.size_append]; omega
      have q5 : ∀ V, (Op.stringOp .add p4 (⟨#[32, 114]⟩ : ByteArray)).run Tryz.prog V = .ok (.string p5) V := fun V => by rw [hp5]; exact run_string_add_sum V _ _ (by omega)
      have HP5 := Lib.hid hp5
      clear hp5 t5 s4
      obtain ⟨p6, hp6⟩ : ∃ p, p = p5 ++ (itoaS b) := ⟨_, rfl⟩
      have t6 : (itoaS b).size ≤ 100 := itoaS_size b HRNb.out.1 HRNb.out.2
      have s6 : p6.size ≤ 316 := by rw [hp6, ByteArray.size_append]; omega
      have q6 : ∀ V, (Op.stringOp .add p5 (itoaS b)).run Tryz.prog V = .ok (.string p6) V := fun V => by rw [hp6]; exact run_string_add_sum V _ _ (by omega)
      have HP6 := Lib.hid hp6
      clear hp6 t6 s5
      obtain ⟨p7, hp7⟩ : ∃ p, p = p6 ++ (⟨#[32, 64]⟩ : ByteArray) := ⟨_, rfl⟩
      have t7 : (⟨#[32, 64]⟩ : ByteArray).size = 2 := rfl
      have s7 : p7.size ≤ 318 := by rw [hp7, ByteArray.size_append]; omega
      have q7 : ∀ V, (Op.stringOp .add p6 (⟨#[32, 64]⟩ : ByteArray)).run Tryz.prog V = .ok (.string p7) V := fun V => by rw [hp7]; exact run_string_add_sum V _ _ (by omega)
      have HP7 := Lib.hid hp7
      clear hp7 t7 s6
      obtain ⟨p8, hp8⟩ : ∃ p, p = p7 ++ (itoaS fr) := ⟨_, rfl⟩
      have t8 : (itoaS fr).size ≤ 100 := itoaS_size fr HRNfr.out.1 HRNfr.out.2
      have s8 : p8.size ≤ 418 := by rw [hp8, ByteArray.size_append]; omega
      have q8 : ∀ V, (Op.stringOp .add p7 (itoaS fr)).run Tryz.prog V = .ok (.string p8) V := fun V => by rw [hp8]; exact run_string_add_sum V _ _ (by omega)
      have HP8 := Lib.hid hp8
      clear hp8 t8 s7
      clear s8
      have z0 := row_at9 HS.out.1 0 _ rfl
      have z1 := row_at9 HS.out.1 1 _ rfl
      have z2 := row_at9 HS.out.1 2 _ rfl
      have z3 := row_at9 HS.out.1 3 _ rfl
      have z4 := row_at9 HS.out.1 4 _ rfl
      have z5 := row_at9 HS.out.1 5 _ rfl
      have z6 := row_at9 HS.out.1 6 _ rfl
      have z7 := row_at9 HS.out.1 7 _ rfl
      have z8 := row_at9 HS.out.1 8 _ rfl
      go_wp2_with (first | (go_at_call 52; refine (r_kwd2 _).mono ?_; rintro e w2 ⟨rfl, hb⟩; have HS : Hid (Own w2 w.heap.size 25 #[.int .u8 2, .int .u8 o, .int .i64 d, .int .i64 a, .int .i64 b, .int .i64 ad, .int .i64 tt, .int .i64 wd, .int .i64 fr] ∧ Below w.heap.size w w2) := ⟨HS.out.1.below hb, HS.out.2.trans (hb.mono HS.out.2.size)⟩; clear hb; have z0 := row_at9 HS.out.1 0 _ rfl; have z1 := row_at9 HS.out.1 1 _ rfl; have z2 := row_at9 HS.out.1 2 _ rfl; have z3 := row_at9 HS.out.1 3 _ rfl; have z4 := row_at9 HS.out.1 4 _ rfl; have z5 := row_at9 HS.out.1 5 _ rfl; have z6 := row_at9 HS.out.1 6 _ rfl; have z7 := row_at9 HS.out.1 7 _ rfl; have z8 := row_at9 HS.out.1 8 _ rfl) | (go_at_call 53; refine (HOP.out _).mono ?_; rintro e w3 ⟨rfl, hb⟩; have HS : Hid (Own w3 w.heap.size 25 #[.int .u8 2, .int .u8 o, .int .i64 d, .int .i64 a, .int .i64 b, .int .i64 ad, .int .i64 tt, .int .i64 wd, .int .i64 fr] ∧ Below w.heap.size w w3) := ⟨HS.out.1.below hb, HS.out.2.trans (hb.mono HS.out.2.size)⟩; clear hb; have z0 := row_at9 HS.out.1 0 _ rfl; have z1 := row_at9 HS.out.1 1 _ rfl; have z2 := row_at9 HS.out.1 2 _ rfl; have z3 := row_at9 HS.out.1 3 _ rfl; have z4 := row_at9 HS.out.1 4 _ rfl; have z5 := row_at9 HS.out.1 5 _ rfl; have z6 := row_at9 HS.out.1 6 _ rfl; have z7 := row_at9 HS.out.1 7 _ rfl; have z8 := row_at9 HS.out.1 8 _ rfl) | (go_at_call 45; refine (r_uses2 _).mono ?_; rintro e w' ⟨rfl, rfl⟩) | (go_at_call 46; refine (HT2.out _).mono ?_; rintro e w' ⟨rfl, rfl⟩) | (go_at_call_of 54 (Value.int .i64 d); refine (HNd.out _).mono ?_; rintro e w4d ⟨rfl, hb⟩; have HS : Hid (Own w4d w.heap.size 25 #[.int .u8 2, .int .u8 o, .int .i64 d, .int .i64 a, .int .i64 b, .int .i64 ad, .int .i64 tt, .int .i64 wd, .int .i64 fr] ∧ Below w.heap.size w w4d) := ⟨HS.out.1.below hb, HS.out.2.trans (hb.mono HS.out.2.size)⟩; clear hb; have z0 := row_at9 HS.out.1 0 _ rfl; have z1 := row_at9 HS.out.1 1 _ rfl; have z2 := row_at9 HS.out.1 2 _ rfl; have z3 := row_at9 HS.out.1 3 _ rfl; have z4 := row_at9 HS.out.1 4 _ rfl; have z5 := row_at9 HS.out.1 5 _ rfl; have z6 := row_at9 HS.out.1 6 _ rfl; have z7 := row_at9 HS.out.1 7 _ rfl; have z8 := row_at9 HS.out.1 8 _ rfl) | (go_at_call_of 54 (Value.int .i64 a); refine (HNa.out _).mono ?_; rintro e w4a ⟨rfl, hb⟩; have HS : Hid (Own w4a w.heap.size 25 #[.int .u8 2, .int .u8 o, .int .i64 d, .int .i64 a, .int .i64 b, .int .i64 ad, .int .i64 tt, .int .i64 wd, .int .i64 fr] ∧ Below w.heap.size w w4a) := ⟨HS.out.1.below hb, HS.out.2.trans (hb.mono HS.out.2.size)⟩; clear hb; have z0 := row_at9 HS.out.1 0 _ rfl; have z1 := row_at9 HS.out.1 1 _ rfl; have z2 := row_at9 HS.out.1 2 _ rfl; have z3 := row_at9 HS.out.1 3 _ rfl; have z4 := row_at9 HS.out.1 4 _ rfl; have z5 := row_at9 HS.out.1 5 _ rfl; have z6 := row_at9 HS.out.1 6 _ rfl; have z7 := row_at9 HS.out.1 7 _ rfl; have z8 := row_at9 HS.out.1 8 _ rfl) | (go_at_call_of 54 (Value.int .i64 b); refine (HNb.out _).mono ?_; rintro e w4b ⟨rfl, hb⟩; have HS : Hid (Own w4b w.heap.size 25 #[.int .u8 2, .int .u8 o, .int .i64 d, .int .i64 a, .int .i64 b, .int .i64 ad, .int .i64 tt, .int .i64 wd, .int .i64 fr] ∧ Below w.heap.size w w4b) := ⟨HS.out.1.below hb, HS.out.2.trans (hb.mono HS.out.2.size)⟩; clear hb; have z0 := row_at9 HS.out.1 0 _ rfl; have z1 := row_at9 HS.out.1 1 _ rfl; have z2 := row_at9 HS.out.1 2 _ rfl; have z3 := row_at9 HS.out.1 3 _ rfl; have z4 := row_at9 HS.out.1 4 _ rfl; have z5 := row_at9 HS.out.1 5 _ rfl; have z6 := row_at9 HS.out.1 6 _ rfl; have z7 := row_at9 HS.out.1 7 _ rfl; have z8 := row_at9 HS.out.1 8 _ rfl) | (go_at_call_of 54 (Value.int .i64 ad); refine (HNad.out _).mono ?_; rintro e w4ad ⟨rfl, hb⟩; have HS : Hid (Own w4ad w.heap.size 25 #[.int .u8 2, .int .u8 o, .int .i64 d, .int .i64 a, .int .i64 b, .int .i64 ad, .int .i64 tt, .int .i64 wd, .int .i64 fr] ∧ Below w.heap.size w w4ad) := ⟨HS.out.1.below hb, HS.out.2.trans (hb.mono HS.out.2.size)⟩; clear hb; have z0 := row_at9 HS.out.1 0 _ rfl; have z1 := row_at9 HS.out.1 1 _ rfl; have z2 := row_at9 HS.out.1 2 _ rfl; have z3 := row_at9 HS.out.1 3 _ rfl; have z4 := row_at9 HS.out.1 4 _ rfl; have z5 := row_at9 HS.out.1 5 _ rfl; have z6 := row_at9 HS.out.1 6 _ rfl; have z7 := row_at9 HS.out.1 7 _ rfl; have z8 := row_at9 HS.out.1 8 _ rfl) | (go_at_call_of 54 (Value.int .i64 tt); refine (HNtt.out _).mono ?_; rintro e w4tt ⟨rfl, hb⟩; have HS : Hid (Own w4tt w.heap.size 25 #[.int .u8 2, .int .u8 o, .int .i64 d, .int .i64 a, .int .i64 b, .int .i64 ad, .int .i64 tt, .int .i64 wd, .int .i64 fr] ∧ Below w.heap.size w w4tt) := ⟨HS.out.1.below hb, HS.out.2.trans (hb.mono HS.out.2.size)⟩; clear hb; have z0 := row_at9 HS.out.1 0 _ rfl; have z1 := row_at9 HS.out.1 1 _ rfl; have z2 := row_at9 HS.out.1 2 _ rfl; have z3 := row_at9 HS.out.1 3 _ rfl; have z4 := row_at9 HS.out.1 4 _ rfl; have z5 := row_at9 HS.out.1 5 _ rfl; have z6 := row_at9 HS.out.1 6 _ rfl; have z7 := row_at9 HS.out.1 7 _ rfl; have z8 := row_at9 HS.out.1 8 _ rfl) | (go_at_call_of 54 (Value.int .i64 fr); refine (HNfr.out _).mono ?_; rintro e w4fr ⟨rfl, hb⟩; have HS : Hid (Own w4fr w.heap.size 25 #[.int .u8 2, .int .u8 o, .int .i64 d, .int .i64 a, .int .i64 b, .int .i64 ad, .int .i64 tt, .int .i64 wd, .int .i64 fr] ∧ Below w.heap.size w w4fr) := ⟨HS.out.1.below hb, HS.out.2.trans (hb.mono HS.out.2.size)⟩; clear hb; have z0 := row_at9 HS.out.1 0 _ rfl; have z1 := row_at9 HS.out.1 1 _ rfl; have z2 := row_at9 HS.out.1 2 _ rfl; have z3 := row_at9 HS.out.1 3 _ rfl; have z4 := row_at9 HS.out.1 4 _ rfl; have z5 := row_at9 HS.out.1 5 _ rfl; have z6 := row_at9 HS.out.1 6 _ rfl; have z7 := row_at9 HS.out.1 7 _ rfl; have z8 := row_at9 HS.out.1 8 _ rfl) | (go_at_call 55; refine (HNwd.out _).mono ?_; rintro e w5 ⟨rfl, hb⟩; have HS : Hid (Own w5 w.heap.size 25 #[.int .u8 2, .int .u8 o, .int .i64 d, .int .i64 a, .int .i64 b, .int .i64 ad, .int .i64 tt, .int .i64 wd, .int .i64 fr] ∧ Below w.heap.size w w5) := ⟨HS.out.1.below hb, HS.out.2.trans (hb.mono HS.out.2.size)⟩; clear hb; have z0 := row_at9 HS.out.1 0 _ rfl; have z1 := row_at9 HS.out.1 1 _ rfl; have z2 := row_at9 HS.out.1 2 _ rfl; have z3 := row_at9 HS.out.1 3 _ rfl; have z4 := row_at9 HS.out.1 4 _ rfl; have z5 := row_at9 HS.out.1 5 _ rfl; have z6 := row_at9 HS.out.1 6 _ rfl; have z7 := row_at9 HS.out.1 7 _ rfl; have z8 := row_at9 HS.out.1 8 _ rfl))
      go_ret
      refine ⟨congrArg (fun x => Ending.returned (.string x)) (bs_ext ?_), HS.out.2⟩
      have h := HTX.out
      show _ = (insT (⟨2, o, d, a, b, ad, tt, wd, fr⟩ : Ins))
      rw [h, HP8.out, HP7.out, HP6.out, HP5.out, HP4.out, HP3.out, HP2.out, HP1.out]
      simp [f0, ByteArray.data_append, itoaS, regT]
  | false =>
    by_cases f0 : fr = 0
    · have f1 : ¬ 0 < fr := by omega
      have s0 : (⟨ow.toArray⟩ : ByteArray).size ≤ 10 := HOW.out
      obtain ⟨p1, hp1⟩ : ∃ p, p = (⟨ow.toArray⟩ : ByteArray) ++ (⟨#[32, 114]⟩ : ByteArray) := ⟨_, rfl⟩
      have t1 : (⟨#[32, 114]⟩ : ByteArray).size = 2 := rfl
      have s1 : p1.size ≤ 12 := by rw [hp1, ByteArray.size_append]; omega
      have q1 : ∀ V, (Op.stringOp .add (⟨ow.toArray⟩ : ByteArray) (⟨#[32, 114]⟩ : ByteArray)).run Tryz.prog V = .ok (.string p1) V := fun V => by rw [hp1]; exact run_string_add_sum V _ _ (by omega)
      have HP1 := Lib.hid hp1
      clear hp1 t1 s0
      obtain ⟨p2, hp2⟩ : ∃ p, p = p1 ++ (itoaS d) := ⟨_, rfl⟩
      have t2 : (itoaS d).size ≤ 100 := itoaS_size d HRNd.out.1 HRNd.out.2
      have s2 : p2.size ≤ 112 := by rw [hp2, ByteArray.size_append]; omega
      have q2 : ∀ V, (Op.stringOp .add p1 (itoaS d)).run Tryz.prog V = .ok (.string p2) V := fun V => by rw [hp2]; exact run_string_add_sum V _ _ (by omega)
      have HP2 := Lib.hid hp2
      clear hp2 t2 s1
      obtain ⟨p3, hp3⟩ : ∃ p, p = p2 ++ (⟨#[32, 114]⟩ : ByteArray) := ⟨_, rfl⟩
      have t3 : (⟨#[32, 114]⟩ : ByteArray).size = 2 := rfl
      have s3 : p3.size ≤ 114 := by rw [hp3, ByteArray.size_append]; omega
      have q3 : ∀ V, (Op.stringOp .add p2 (⟨#[32, 114]⟩ : ByteArray)).run Tryz.prog V = .ok (.string p3) V := fun V => by rw [hp3]; exact run_string_add_sum V _ _ (by omega)
      have HP3 := Lib.hid hp3
      clear hp3 t3 s2
      obtain ⟨p4, hp4⟩ : ∃ p, p = p3 ++ (itoaS a) := ⟨_, rfl⟩
      have t4 : (itoaS a).size ≤ 100 := itoaS_size a HRNa.out.1 HRNa.out.2
      have s4 : p4.size ≤ 214 := by rw [hp4, ByteArray.size_append]; omega
      have q4 : ∀ V, (Op.stringOp .add p3 (itoaS a)).run Tryz.prog V = .ok (.string p4) V := fun V => by rw [hp4]; exact run_string_add_sum V _ _ (by omega)
      have HP4 := Lib.hid hp4
      clear hp4 t4 s3
      clear s4
      have z0 := row_at9 HS.out.1 0 _ rfl
      have z1 := row_at9 HS.out.1 1 _ rfl
      have z2 := row_at9 HS.out.1 2 _ rfl
      have z3 := row_at9 HS.out.1 3 _ rfl
      have z4 := row_at9 HS.out.1 4 _ rfl
      have z5 := row_at9 HS.out.1 5 _ rfl
      have z6 := row_at9 HS.out.1 6 _ rfl
      have z7 := row_at9 HS.out.1 7 _ rfl
      have z8 := row_at9 HS.out.1 8 _ rfl
      go_wp2_with (first | (go_at_call 52; refine (r_kwd2 _).mono ?_; rintro e w2 ⟨rfl, hb⟩; have HS : Hid (Own w2 w.heap.size 25 #[.int .u8 2, .int .u8 o, .int .i64 d, .int .i64 a, .int .i64 b, .int .i64 ad, .int .i64 tt, .int .i64 wd, .int .i64 fr] ∧ Below w.heap.size w w2) := ⟨HS.out.1.below hb, HS.out.2.trans (hb.mono HS.out.2.size)⟩; clear hb; have z0 := row_at9 HS.out.1 0 _ rfl; have z1 := row_at9 HS.out.1 1 _ rfl; have z2 := row_at9 HS.out.1 2 _ rfl; have z3 := row_at9 HS.out.1 3 _ rfl; have z4 := row_at9 HS.out.1 4 _ rfl; have z5 := row_at9 HS.out.1 5 _ rfl; have z6 := row_at9 HS.out.1 6 _ rfl; have z7 := row_at9 HS.out.1 7 _ rfl; have z8 := row_at9 HS.out.1 8 _ rfl) | (go_at_call 53; refine (HOP.out _).mono ?_; rintro e w3 ⟨rfl, hb⟩; have HS : Hid (Own w3 w.heap.size 25 #[.int .u8 2, .int .u8 o, .int .i64 d, .int .i64 a, .int .i64 b, .int .i64 ad, .int .i64 tt, .int .i64 wd, .int .i64 fr] ∧ Below w.heap.size w w3) := ⟨HS.out.1.below hb, HS.out.2.trans (hb.mono HS.out.2.size)⟩; clear hb; have z0 := row_at9 HS.out.1 0 _ rfl; have z1 := row_at9 HS.out.1 1 _ rfl; have z2 := row_at9 HS.out.1 2 _ rfl; have z3 := row_at9 HS.out.1 3 _ rfl; have z4 := row_at9 HS.out.1 4 _ rfl; have z5 := row_at9 HS.out.1 5 _ rfl; have z6 := row_at9 HS.out.1 6 _ rfl; have z7 := row_at9 HS.out.1 7 _ rfl; have z8 := row_at9 HS.out.1 8 _ rfl) | (go_at_call 45; refine (r_uses2 _).mono ?_; rintro e w' ⟨rfl, rfl⟩) | (go_at_call 46; refine (HT2.out _).mono ?_; rintro e w' ⟨rfl, rfl⟩) | (go_at_call_of 54 (Value.int .i64 d); refine (HNd.out _).mono ?_; rintro e w4d ⟨rfl, hb⟩; have HS : Hid (Own w4d w.heap.size 25 #[.int .u8 2, .int .u8 o, .int .i64 d, .int .i64 a, .int .i64 b, .int .i64 ad, .int .i64 tt, .int .i64 wd, .int .i64 fr] ∧ Below w.heap.size w w4d) := ⟨HS.out.1.below hb, HS.out.2.trans (hb.mono HS.out.2.size)⟩; clear hb; have z0 := row_at9 HS.out.1 0 _ rfl; have z1 := row_at9 HS.out.1 1 _ rfl; have z2 := row_at9 HS.out.1 2 _ rfl; have z3 := row_at9 HS.out.1 3 _ rfl; have z4 := row_at9 HS.out.1 4 _ rfl; have z5 := row_at9 HS.out.1 5 _ rfl; have z6 := row_at9 HS.out.1 6 _ rfl; have z7 := row_at9 HS.out.1 7 _ rfl; have z8 := row_at9 HS.out.1 8 _ rfl) | (go_at_call_of 54 (Value.int .i64 a); refine (HNa.out _).mono ?_; rintro e w4a ⟨rfl, hb⟩; have HS : Hid (Own w4a w.heap.size 25 #[.int .u8 2, .int .u8 o, .int .i64 d, .int .i64 a, .int .i64 b, .int .i64 ad, .int .i64 tt, .int .i64 wd, .int .i64 fr] ∧ Below w.heap.size w w4a) := ⟨HS.out.1.below hb, HS.out.2.trans (hb.mono HS.out.2.size)⟩; clear hb; have z0 := row_at9 HS.out.1 0 _ rfl; have z1 := row_at9 HS.out.1 1 _ rfl; have z2 := row_at9 HS.out.1 2 _ rfl; have z3 := row_at9 HS.out.1 3 _ rfl; have z4 := row_at9 HS.out.1 4 _ rfl; have z5 := row_at9 HS.out.1 5 _ rfl; have z6 := row_at9 HS.out.1 6 _ rfl; have z7 := row_at9 HS.out.1 7 _ rfl; have z8 := row_at9 HS.out.1 8 _ rfl) | (go_at_call_of 54 (Value.int .i64 b); refine (HNb.out _).mono ?_; rintro e w4b ⟨rfl, hb⟩; have HS : Hid (Own w4b w.heap.size 25 #[.int .u8 2, .int .u8 o, .int .i64 d, .int .i64 a, .int .i64 b, .int .i64 ad, .int .i64 tt, .int .i64 wd, .int .i64 fr] ∧ Below w.heap.size w w4b) := ⟨HS.out.1.below hb, HS.out.2.trans (hb.mono HS.out.2.size)⟩; clear hb; have z0 := row_at9 HS.out.1 0 _ rfl; have z1 := row_at9 HS.out.1 1 _ rfl; have z2 := row_at9 HS.out.1 2 _ rfl; have z3 := row_at9 HS.out.1 3 _ rfl; have z4 := row_at9 HS.out.1 4 _ rfl; have z5 := row_at9 HS.out.1 5 _ rfl; have z6 := row_at9 HS.out.1 6 _ rfl; have z7 := row_at9 HS.out.1 7 _ rfl; have z8 := row_at9 HS.out.1 8 _ rfl) | (go_at_call_of 54 (Value.int .i64 ad); refine (HNad.out _).mono ?_; rintro e w4ad ⟨rfl, hb⟩; have HS : Hid (Own w4ad w.heap.size 25 #[.int .u8 2, .int .u8 o, .int .i64 d, .int .i64 a, .int .i64 b, .int .i64 ad, .int .i64 tt, .int .i64 wd, .int .i64 fr] ∧ Below w.heap.size w w4ad) := ⟨HS.out.1.below hb, HS.out.2.trans (hb.mono HS.out.2.size)⟩; clear hb; have z0 := row_at9 HS.out.1 0 _ rfl; have z1 := row_at9 HS.out.1 1 _ rfl; have z2 := row_at9 HS.out.1 2 _ rfl; have z3 := row_at9 HS.out.1 3 _ rfl; have z4 := row_at9 HS.out.1 4 _ rfl; have z5 := row_at9 HS.out.1 5 _ rfl; have z6 := row_at9 HS.out.1 6 _ rfl; have z7 := row_at9 HS.out.1 7 _ rfl; have z8 := row_at9 HS.out.1 8 _ rfl) | (go_at_call_of 54 (Value.int .i64 tt); refine (HNtt.out _).mono ?_; rintro e w4tt ⟨rfl, hb⟩; have HS : Hid (Own w4tt w.heap.size 25 #[.int .u8 2, .int .u8 o, .int .i64 d, .int .i64 a, .int .i64 b, .int .i64 ad, .int .i64 tt, .int .i64 wd, .int .i64 fr] ∧ Below w.heap.size w w4tt) := ⟨HS.out.1.below hb, HS.out.2.trans (hb.mono HS.out.2.size)⟩; clear hb; have z0 := row_at9 HS.out.1 0 _ rfl; have z1 := row_at9 HS.out.1 1 _ rfl; have z2 := row_at9 HS.out.1 2 _ rfl; have z3 := row_at9 HS.out.1 3 _ rfl; have z4 := row_at9 HS.out.1 4 _ rfl; have z5 := row_at9 HS.out.1 5 _ rfl; have z6 := row_at9 HS.out.1 6 _ rfl; have z7 := row_at9 HS.out.1 7 _ rfl; have z8 := row_at9 HS.out.1 8 _ rfl) | (go_at_call_of 54 (Value.int .i64 fr); refine (HNfr.out _).mono ?_; rintro e w4fr ⟨rfl, hb⟩; have HS : Hid (Own w4fr w.heap.size 25 #[.int .u8 2, .int .u8 o, .int .i64 d, .int .i64 a, .int .i64 b, .int .i64 ad, .int .i64 tt, .int .i64 wd, .int .i64 fr] ∧ Below w.heap.size w w4fr) := ⟨HS.out.1.below hb, HS.out.2.trans (hb.mono HS.out.2.size)⟩; clear hb; have z0 := row_at9 HS.out.1 0 _ rfl; have z1 := row_at9 HS.out.1 1 _ rfl; have z2 := row_at9 HS.out.1 2 _ rfl; have z3 := row_at9 HS.out.1 3 _ rfl; have z4 := row_at9 HS.out.1 4 _ rfl; have z5 := row_at9 HS.out.1 5 _ rfl; have z6 := row_at9 HS.out.1 6 _ rfl; have z7 := row_at9 HS.out.1 7 _ rfl; have z8 := row_at9 HS.out.1 8 _ rfl) | (go_at_call 55; refine (HNwd.out _).mono ?_; rintro e w5 ⟨rfl, hb⟩; have HS : Hid (Own w5 w.heap.size 25 #[.int .u8 2, .int .u8 o, .int .i64 d, .int .i64 a, .int .i64 b, .int .i64 ad, .int .i64 tt, .int .i64 wd, .int .i64 fr] ∧ Below w.heap.size w w5) := ⟨HS.out.1.below hb, HS.out.2.trans (hb.mono HS.out.2.size)⟩; clear hb; have z0 := row_at9 HS.out.1 0 _ rfl; have z1 := row_at9 HS.out.1 1 _ rfl; have z2 := row_at9 HS.out.1 2 _ rfl; have z3 := row_at9 HS.out.1 3 _ rfl; have z4 := row_at9 HS.out.1 4 _ rfl; have z5 := row_at9 HS.out.1 5 _ rfl; have z6 := row_at9 HS.out.1 6 _ rfl; have z7 := row_at9 HS.out.1 7 _ rfl; have z8 := row_at9 HS.out.1 8 _ rfl))
      go_ret
      refine ⟨congrArg (fun x => Ending.returned (.string x)) (bs_ext ?_), HS.out.2⟩
      have h := HTX.out
      show _ = (insT (⟨2, o, d, a, b, ad, tt, wd, fr⟩ : Ins))
      rw [h, HP4.out, HP3.out, HP2.out, HP1.out]
      simp [f0, ByteArray.data_append, itoaS, regT]
    · have f1 : 0 < fr := by omega
      have s0 : (⟨ow.toArray⟩ : ByteArray).size ≤ 10 := HOW.out
      obtain ⟨p1, hp1⟩ : ∃ p, p = (⟨ow.toArray⟩ : ByteArray) ++ (⟨#[32, 114]⟩ : ByteArray) := ⟨_, rfl⟩
      have t1 : (⟨#[32, 114]⟩ : ByteArray).size = 2 := rfl
      have s1 : p1.size ≤ 12 := by rw [hp1, ByteArray.size_append]; omega
      have q1 : ∀ V, (Op.stringOp .add (⟨ow.toArray⟩ : ByteArray) (⟨#[32, 114]⟩ : ByteArray)).run Tryz.prog V = .ok (.string p1) V := fun V => by rw [hp1]; exact run_string_add_sum V _ _ (by omega)
      have HP1 := Lib.hid hp1
      clear hp1 t1 s0
      obtain ⟨p2, hp2⟩ : ∃ p, p = p1 ++ (itoaS d) := ⟨_, rfl⟩
      have t2 : (itoaS d).size ≤ 100 := itoaS_size d HRNd.out.1 HRNd.out.2
      have s2 : p2.size ≤ 112 := by rw [hp2, ByteArray.size_append]; omega
      have q2 : ∀ V, (Op.stringOp .add p1 (itoaS d)).run Tryz.prog V = .ok (.string p2) V := fun V => by rw [hp2]; exact run_string_add_sum V _ _ (by omega)
      have HP2 := Lib.hid hp2
      clear hp2 t2 s1
      obtain ⟨p3, hp3⟩ : ∃ p, p = p2 ++ (⟨#[32, 114]⟩ : ByteArray) := ⟨_, rfl⟩
      have t3 : (⟨#[32, 114]⟩ : ByteArray).size = 2 := rfl
      have s3 : p3.size ≤ 114 := by rw [hp3, ByteArray.size_append]; omega
      have q3 : ∀ V, (Op.stringOp .add p2 (⟨#[32, 114]⟩ : ByteArray)).run Tryz.prog V = .ok (.string p3) V := fun V => by rw [hp3]; exact run_string_add_sum V _ _ (by omega)
      have HP3 := Lib.hid hp3
      clear hp3 t3 s2
      obtain ⟨p4, hp4⟩ : ∃ p, p = p3 ++ (itoaS a) := ⟨_, rfl⟩
      have t4 : (itoaS a).size ≤ 100 := itoaS_size a HRNa.out.1 HRNa.out.2
      have s4 : p4.size ≤ 214 := by rw [hp4, ByteArray.size_append]; omega
      have q4 : ∀ V, (Op.stringOp .add p3 (itoaS a)).run Tryz.prog V = .ok (.string p4) V := fun V => by rw [hp4]; exact run_string_add_sum V _ _ (by omega)
      have HP4 := Lib.hid hp4
      clear hp4 t4 s3
      obtain ⟨p5, hp5⟩ : ∃ p, p = p4 ++ (⟨#[32, 64]⟩ : ByteArray) := ⟨_, rfl⟩
      have t5 : (⟨#[32, 64]⟩ : ByteArray).size = 2 := rfl
      have s5 : p5.size ≤ 216 := by rw [hp5, ByteArray.size_append]; omega
      have q5 : ∀ V, (Op.stringOp .add p4 (⟨#[32, 64]⟩ : ByteArray)).run Tryz.prog V = .ok (.string p5) V := fun V => by rw [hp5]; exact run_string_add_sum V _ _ (by omega)
      have HP5 := Lib.hid hp5
      clear hp5 t5 s4
      obtain ⟨p6, hp6⟩ : ∃ p, p = p5 ++ (itoaS fr) := ⟨_, rfl⟩
      have t6 : (itoaS fr).size ≤ 100 := itoaS_size fr HRNfr.out.1 HRNfr.out.2
      have s6 : p6.size ≤ 316 := by rw [hp6, ByteArray.size_append]; omega
      have q6 : ∀ V, (Op.stringOp .add p5 (itoaS fr)).run Tryz.prog V = .ok (.string p6) V := fun V => by rw [hp6]; exact run_string_add_sum V _ _ (by omega)
      have HP6 := Lib.hid hp6
      clear hp6 t6 s5
      clear s6
      have z0 := row_at9 HS.out.1 0 _ rfl
      have z1 := row_at9 HS.out.1 1 _ rfl
      have z2 := row_at9 HS.out.1 2 _ rfl
      have z3 := row_at9 HS.out.1 3 _ rfl
      have z4 := row_at9 HS.out.1 4 _ rfl
      have z5 := row_at9 HS.out.1 5 _ rfl
      have z6 := row_at9 HS.out.1 6 _ rfl
      have z7 := row_at9 HS.out.1 7 _ rfl
      have z8 := row_at9 HS.out.1 8 _ rfl
      go_wp2_with (first | (go_at_call 52; refine (r_kwd2 _).mono ?_; rintro e w2 ⟨rfl, hb⟩; have HS : Hid (Own w2 w.heap.size 25 #[.int .u8 2, .int .u8 o, .int .i64 d, .int .i64 a, .int .i64 b, .int .i64 ad, .int .i64 tt, .int .i64 wd, .int .i64 fr] ∧ Below w.heap.size w w2) := ⟨HS.out.1.below hb, HS.out.2.trans (hb.mono HS.out.2.size)⟩; clear hb; have z0 := row_at9 HS.out.1 0 _ rfl; have z1 := row_at9 HS.out.1 1 _ rfl; have z2 := row_at9 HS.out.1 2 _ rfl; have z3 := row_at9 HS.out.1 3 _ rfl; have z4 := row_at9 HS.out.1 4 _ rfl; have z5 := row_at9 HS.out.1 5 _ rfl; have z6 := row_at9 HS.out.1 6 _ rfl; have z7 := row_at9 HS.out.1 7 _ rfl; have z8 := row_at9 HS.out.1 8 _ rfl) | (go_at_call 53; refine (HOP.out _).mono ?_; rintro e w3 ⟨rfl, hb⟩; have HS : Hid (Own w3 w.heap.size 25 #[.int .u8 2, .int .u8 o, .int .i64 d, .int .i64 a, .int .i64 b, .int .i64 ad, .int .i64 tt, .int .i64 wd, .int .i64 fr] ∧ Below w.heap.size w w3) := ⟨HS.out.1.below hb, HS.out.2.trans (hb.mono HS.out.2.size)⟩; clear hb; have z0 := row_at9 HS.out.1 0 _ rfl; have z1 := row_at9 HS.out.1 1 _ rfl; have z2 := row_at9 HS.out.1 2 _ rfl; have z3 := row_at9 HS.out.1 3 _ rfl; have z4 := row_at9 HS.out.1 4 _ rfl; have z5 := row_at9 HS.out.1 5 _ rfl; have z6 := row_at9 HS.out.1 6 _ rfl; have z7 := row_at9 HS.out.1 7 _ rfl; have z8 := row_at9 HS.out.1 8 _ rfl) | (go_at_call 45; refine (r_uses2 _).mono ?_; rintro e w' ⟨rfl, rfl⟩) | (go_at_call 46; refine (HT2.out _).mono ?_; rintro e w' ⟨rfl, rfl⟩) | (go_at_call_of 54 (Value.int .i64 d); refine (HNd.out _).mono ?_; rintro e w4d ⟨rfl, hb⟩; have HS : Hid (Own w4d w.heap.size 25 #[.int .u8 2, .int .u8 o, .int .i64 d, .int .i64 a, .int .i64 b, .int .i64 ad, .int .i64 tt, .int .i64 wd, .int .i64 fr] ∧ Below w.heap.size w w4d) := ⟨HS.out.1.below hb, HS.out.2.trans (hb.mono HS.out.2.size)⟩; clear hb; have z0 := row_at9 HS.out.1 0 _ rfl; have z1 := row_at9 HS.out.1 1 _ rfl; have z2 := row_at9 HS.out.1 2 _ rfl; have z3 := row_at9 HS.out.1 3 _ rfl; have z4 := row_at9 HS.out.1 4 _ rfl; have z5 := row_at9 HS.out.1 5 _ rfl; have z6 := row_at9 HS.out.1 6 _ rfl; have z7 := row_at9 HS.out.1 7 _ rfl; have z8 := row_at9 HS.out.1 8 _ rfl) | (go_at_call_of 54 (Value.int .i64 a); refine (HNa.out _).mono ?_; rintro e w4a ⟨rfl, hb⟩; have HS : Hid (Own w4a w.heap.size 25 #[.int .u8 2, .int .u8 o, .int .i64 d, .int .i64 a, .int .i64 b, .int .i64 ad, .int .i64 tt, .int .i64 wd, .int .i64 fr] ∧ Below w.heap.size w w4a) := ⟨HS.out.1.below hb, HS.out.2.trans (hb.mono HS.out.2.size)⟩; clear hb; have z0 := row_at9 HS.out.1 0 _ rfl; have z1 := row_at9 HS.out.1 1 _ rfl; have z2 := row_at9 HS.out.1 2 _ rfl; have z3 := row_at9 HS.out.1 3 _ rfl; have z4 := row_at9 HS.out.1 4 _ rfl; have z5 := row_at9 HS.out.1 5 _ rfl; have z6 := row_at9 HS.out.1 6 _ rfl; have z7 := row_at9 HS.out.1 7 _ rfl; have z8 := row_at9 HS.out.1 8 _ rfl) | (go_at_call_of 54 (Value.int .i64 b); refine (HNb.out _).mono ?_; rintro e w4b ⟨rfl, hb⟩; have HS : Hid (Own w4b w.heap.size 25 #[.int .u8 2, .int .u8 o, .int .i64 d, .int .i64 a, .int .i64 b, .int .i64 ad, .int .i64 tt, .int .i64 wd, .int .i64 fr] ∧ Below w.heap.size w w4b) := ⟨HS.out.1.below hb, HS.out.2.trans (hb.mono HS.out.2.size)⟩; clear hb; have z0 := row_at9 HS.out.1 0 _ rfl; have z1 := row_at9 HS.out.1 1 _ rfl; have z2 := row_at9 HS.out.1 2 _ rfl; have z3 := row_at9 HS.out.1 3 _ rfl; have z4 := row_at9 HS.out.1 4 _ rfl; have z5 := row_at9 HS.out.1 5 _ rfl; have z6 := row_at9 HS.out.1 6 _ rfl; have z7 := row_at9 HS.out.1 7 _ rfl; have z8 := row_at9 HS.out.1 8 _ rfl) | (go_at_call_of 54 (Value.int .i64 ad); refine (HNad.out _).mono ?_; rintro e w4ad ⟨rfl, hb⟩; have HS : Hid (Own w4ad w.heap.size 25 #[.int .u8 2, .int .u8 o, .int .i64 d, .int .i64 a, .int .i64 b, .int .i64 ad, .int .i64 tt, .int .i64 wd, .int .i64 fr] ∧ Below w.heap.size w w4ad) := ⟨HS.out.1.below hb, HS.out.2.trans (hb.mono HS.out.2.size)⟩; clear hb; have z0 := row_at9 HS.out.1 0 _ rfl; have z1 := row_at9 HS.out.1 1 _ rfl; have z2 := row_at9 HS.out.1 2 _ rfl; have z3 := row_at9 HS.out.1 3 _ rfl; have z4 := row_at9 HS.out.1 4 _ rfl; have z5 := row_at9 HS.out.1 5 _ rfl; have z6 := row_at9 HS.out.1 6 _ rfl; have z7 := row_at9 HS.out.1 7 _ rfl; have z8 := row_at9 HS.out.1 8 _ rfl) | (go_at_call_of 54 (Value.int .i64 tt); refine (HNtt.out _).mono ?_; rintro e w4tt ⟨rfl, hb⟩; have HS : Hid (Own w4tt w.heap.size 25 #[.int .u8 2, .int .u8 o, .int .i64 d, .int .i64 a, .int .i64 b, .int .i64 ad, .int .i64 tt, .int .i64 wd, .int .i64 fr] ∧ Below w.heap.size w w4tt) := ⟨HS.out.1.below hb, HS.out.2.trans (hb.mono HS.out.2.size)⟩; clear hb; have z0 := row_at9 HS.out.1 0 _ rfl; have z1 := row_at9 HS.out.1 1 _ rfl; have z2 := row_at9 HS.out.1 2 _ rfl; have z3 := row_at9 HS.out.1 3 _ rfl; have z4 := row_at9 HS.out.1 4 _ rfl; have z5 := row_at9 HS.out.1 5 _ rfl; have z6 := row_at9 HS.out.1 6 _ rfl; have z7 := row_at9 HS.out.1 7 _ rfl; have z8 := row_at9 HS.out.1 8 _ rfl) | (go_at_call_of 54 (Value.int .i64 fr); refine (HNfr.out _).mono ?_; rintro e w4fr ⟨rfl, hb⟩; have HS : Hid (Own w4fr w.heap.size 25 #[.int .u8 2, .int .u8 o, .int .i64 d, .int .i64 a, .int .i64 b, .int .i64 ad, .int .i64 tt, .int .i64 wd, .int .i64 fr] ∧ Below w.heap.size w w4fr) := ⟨HS.out.1.below hb, HS.out.2.trans (hb.mono HS.out.2.size)⟩; clear hb; have z0 := row_at9 HS.out.1 0 _ rfl; have z1 := row_at9 HS.out.1 1 _ rfl; have z2 := row_at9 HS.out.1 2 _ rfl; have z3 := row_at9 HS.out.1 3 _ rfl; have z4 := row_at9 HS.out.1 4 _ rfl; have z5 := row_at9 HS.out.1 5 _ rfl; have z6 := row_at9 HS.out.1 6 _ rfl; have z7 := row_at9 HS.out.1 7 _ rfl; have z8 := row_at9 HS.out.1 8 _ rfl) | (go_at_call 55; refine (HNwd.out _).mono ?_; rintro e w5 ⟨rfl, hb⟩; have HS : Hid (Own w5 w.heap.size 25 #[.int .u8 2, .int .u8 o, .int .i64 d, .int .i64 a, .int .i64 b, .int .i64 ad, .int .i64 tt, .int .i64 wd, .int .i64 fr] ∧ Below w.heap.size w w5) := ⟨HS.out.1.below hb, HS.out.2.trans (hb.mono HS.out.2.size)⟩; clear hb; have z0 := row_at9 HS.out.1 0 _ rfl; have z1 := row_at9 HS.out.1 1 _ rfl; have z2 := row_at9 HS.out.1 2 _ rfl; have z3 := row_at9 HS.out.1 3 _ rfl; have z4 := row_at9 HS.out.1 4 _ rfl; have z5 := row_at9 HS.out.1 5 _ rfl; have z6 := row_at9 HS.out.1 6 _ rfl; have z7 := row_at9 HS.out.1 7 _ rfl; have z8 := row_at9 HS.out.1 8 _ rfl))
      go_ret
      refine ⟨congrArg (fun x => Ending.returned (.string x)) (bs_ext ?_), HS.out.2⟩
      have h := HTX.out
      show _ = (insT (⟨2, o, d, a, b, ad, tt, wd, fr⟩ : Ins))
      rw [h, HP6.out, HP5.out, HP4.out, HP3.out, HP2.out, HP1.out]
      simp [f0, ByteArray.data_append, itoaS, regT]
set_option maxHeartbeats 8000000 in
theorem r_show3 (o d a b ad tt wd fr : Int) (hg : rgI (⟨3, o, d, a, b, ad, tt, wd, fr⟩ : Ins)) (hr : rightB (⟨3, o, d, a, b, ad, tt, wd, fr⟩ : Ins) 9223372036854775807 9223372036854775807 = true) (w : World) : Calls Tryz.prog 29 #[.agg #[.int .u8 3, .int .u8 o, .int .i64 d, .int .i64 a, .int .i64 b, .int .i64 ad, .int .i64 tt, .int .i64 wd, .int .i64 fr]] w fun e w' => e = .returned (.string ⟨(insT (⟨3, o, d, a, b, ad, tt, wd, fr⟩ : Ins)).toArray⟩) ∧ Below w.heap.size w w' := by
  have hfr := right_fr hr
  have hT : insT (⟨3, o, d, a, b, ad, tt, wd, fr⟩ : Ins) = [108, 111, 97, 100] ++ ((((((regT d) ++ ([])) ++ ([])) ++ (numT ad)) ++ ([])) ++ ([])) ++ (if fr = 0 then [] else [32, 64] ++ Lib.itoa fr) := by
    rw [ins_txt _ (show kB 3 = true by decide)]
    rfl
  have HRR : Hid (∀ X, Calls Tryz.prog 13 #[.agg #[.int .u8 3, .int .u8 o, .int .i64 d, .int .i64 a, .int .i64 b, .int .i64 ad, .int .i64 tt, .int .i64 wd, .int .i64 fr], .int .i64 9223372036854775807, .int .i64 9223372036854775807] X fun e w' => e = .returned (.bool true) ∧ Below X.heap.size X w') := fun X => by
    have h := rright_any (⟨3, o, d, a, b, ad, tt, wd, fr⟩ : Ins) hg 9223372036854775807 9223372036854775807 X
    rw [hr] at h
    exact h
  obtain ⟨_, ho, hd, ha, hb0, had, htt, hwd, hfr2⟩ := hg
  simp only at ho hd ha hb0 had htt hwd hfr2
  have HTX := Lib.hid hT
  have HNd : Hid (∀ X, Calls Tryz.prog 54 #[.int .i64 d] X fun e w' => e = .returned (.string (itoaS d)) ∧ Below X.heap.size X w') := fun X => r_nat d hd.1 hd.2 X
  have HNa : Hid (∀ X, Calls Tryz.prog 54 #[.int .i64 a] X fun e w' => e = .returned (.string (itoaS a)) ∧ Below X.heap.size X w') := fun X => r_nat a ha.1 ha.2 X
  have HNb : Hid (∀ X, Calls Tryz.prog 54 #[.int .i64 b] X fun e w' => e = .returned (.string (itoaS b)) ∧ Below X.heap.size X w') := fun X => r_nat b hb0.1 hb0.2 X
  have HNad : Hid (∀ X, Calls Tryz.prog 54 #[.int .i64 ad] X fun e w' => e = .returned (.string (itoaS ad)) ∧ Below X.heap.size X w') := fun X => r_nat ad had.1 had.2 X
  have HNtt : Hid (∀ X, Calls Tryz.prog 54 #[.int .i64 tt] X fun e w' => e = .returned (.string (itoaS tt)) ∧ Below X.heap.size X w') := fun X => r_nat tt htt.1 htt.2 X
  have HNfr : Hid (∀ X, Calls Tryz.prog 54 #[.int .i64 fr] X fun e w' => e = .returned (.string (itoaS fr)) ∧ Below X.heap.size X w') := fun X => r_nat fr hfr2.1 hfr2.2 X
  have HRNd := Lib.hid hd
  have HRNa := Lib.hid ha
  have HRNb := Lib.hid hb0
  have HRNad := Lib.hid had
  have HRNtt := Lib.hid htt
  have HRNfr := Lib.hid hfr2
  have HRNwd := Lib.hid hwd
  have HNwd : Hid (∀ X, Calls Tryz.prog 55 #[.int .i64 wd] X fun e w' => e = .returned (.string (itoaS wd)) ∧ Below X.heap.size X w') := fun X => rprint_any wd hwd.1 hwd.2 X
  have al : Below w.heap.size w (w.alloc (.cells #[.int .u8 3, .int .u8 o, .int .i64 d, .int .i64 a, .int .i64 b, .int .i64 ad, .int .i64 tt, .int .i64 wd, .int .i64 fr] 25)) := (Below.refl _ w).alloc (Nat.le_refl _) _
  have O0 := Own.new w 25 #[.int .u8 3, .int .u8 o, .int .i64 d, .int .i64 a, .int .i64 b, .int .i64 ad, .int .i64 tt, .int .i64 wd, .int .i64 fr]
  obtain ⟨W0, hW0⟩ : ∃ W, W = w.alloc (.cells #[.int .u8 3, .int .u8 o, .int .i64 d, .int .i64 a, .int .i64 b, .int .i64 ad, .int .i64 tt, .int .i64 wd, .int .i64 fr] 25) := ⟨_, rfl⟩
  rw [← hW0] at al O0
  have HW0 := Lib.hid hW0
  have HS0 : Hid (Own W0 w.heap.size 25 #[.int .u8 3, .int .u8 o, .int .i64 d, .int .i64 a, .int .i64 b, .int .i64 ad, .int .i64 tt, .int .i64 wd, .int .i64 fr] ∧ Below w.heap.size w W0) := ⟨O0, al⟩
  clear hT al hW0 ho hd ha hb0 had htt hwd hfr2 hr
  go_enter Tryz.func29, Tryz.ntmps29
  go_upto_region 1 with fail
  rw [← HW0.out]
  clear HW0
  go_upto_region 3 with (first | (refine ld rowI rfl rfl rfl O0 rfl ?_) | (go_at_call 13; refine (HRR.out _).mono ?_; rintro e w1 ⟨rfl, hb⟩; have HS : Hid (Own w1 w.heap.size 25 #[.int .u8 3, .int .u8 o, .int .i64 d, .int .i64 a, .int .i64 b, .int .i64 ad, .int .i64 tt, .int .i64 wd, .int .i64 fr] ∧ Below w.heap.size w w1) := ⟨HS0.out.1.below hb, HS0.out.2.trans (hb.mono HS0.out.2.size)⟩; clear hb O0))
  clear HS0 HRR
  rename_i w1
  by_cases f0 : fr = 0
  · have f1 : ¬ 0 < fr := by omega
    have s0 : (⟨#[108, 111, 97, 100]⟩ : ByteArray).size ≤ 10 := by show 4 ≤ 10; omega
    obtain ⟨p1, hp1⟩ : ∃ p, p = (⟨#[108, 111, 97, 100]⟩ : ByteArray) ++ (⟨#[32, 114]⟩ : ByteArray) := ⟨_, rfl⟩
    have t1 : (⟨#[32, 114]⟩ : ByteArray).size = 2 := rfl
    have s1 : p1.size ≤ 12 := by rw [hp1, ByteArray.size_append]; omega
    have q1 : ∀ V, (Op.stringOp .add (⟨#[108, 111, 97, 100]⟩ : ByteArray) (⟨#[32, 114]⟩ : ByteArray)).run Tryz.prog V = .ok (.string p1) V := fun V => by rw [hp1]; exact run_string_add_sum V _ _ (by omega)
    have HP1 := Lib.hid hp1
    clear hp1 t1 s0
    obtain ⟨p2, hp2⟩ : ∃ p, p = p1 ++ (itoaS d) := ⟨_, rfl⟩
    have t2 : (itoaS d).size ≤ 100 := itoaS_size d HRNd.out.1 HRNd.out.2
    have s2 : p2.size ≤ 112 := by rw [hp2, ByteArray.size_append]; omega
    have q2 : ∀ V, (Op.stringOp .add p1 (itoaS d)).run Tryz.prog V = .ok (.string p2) V := fun V => by rw [hp2]; exact run_string_add_sum V _ _ (by omega)
    have HP2 := Lib.hid hp2
    clear hp2 t2 s1
    obtain ⟨p3, hp3⟩ : ∃ p, p = p2 ++ (⟨#[32]⟩ : ByteArray) := ⟨_, rfl⟩
    have t3 : (⟨#[32]⟩ : ByteArray).size = 1 := rfl
    have s3 : p3.size ≤ 113 := by rw [hp3, ByteArray.size_append]; omega
    have q3 : ∀ V, (Op.stringOp .add p2 (⟨#[32]⟩ : ByteArray)).run Tryz.prog V = .ok (.string p3) V := fun V => by rw [hp3]; exact run_string_add_sum V _ _ (by omega)
    have HP3 := Lib.hid hp3
    clear hp3 t3 s2
    obtain ⟨p4, hp4⟩ : ∃ p, p = p3 ++ (itoaS ad) := ⟨_, rfl⟩
    have t4 : (itoaS ad).size ≤ 100 := itoaS_size ad HRNad.out.1 HRNad.out.2
    have s4 : p4.size ≤ 213 := by rw [hp4, ByteArray.size_append]; omega
    have q4 : ∀ V, (Op.stringOp .add p3 (itoaS ad)).run Tryz.prog V = .ok (.string p4) V := fun V => by rw [hp4]; exact run_string_add_sum V _ _ (by omega)
    have HP4 := Lib.hid hp4
    clear hp4 t4 s3
    clear s4
    have z0 := row_at9 HS.out.1 0 _ rfl
    have z1 := row_at9 HS.out.1 1 _ rfl
    have z2 := row_at9 HS.out.1 2 _ rfl
    have z3 := row_at9 HS.out.1 3 _ rfl
    have z4 := row_at9 HS.out.1 4 _ rfl
    have z5 := row_at9 HS.out.1 5 _ rfl
    have z6 := row_at9 HS.out.1 6 _ rfl
    have z7 := row_at9 HS.out.1 7 _ rfl
    have z8 := row_at9 HS.out.1 8 _ rfl
    go_wp2_with (first | (go_at_call 52; refine (r_kwd3 _).mono ?_; rintro e w2 ⟨rfl, hb⟩; have HS : Hid (Own w2 w.heap.size 25 #[.int .u8 3, .int .u8 o, .int .i64 d, .int .i64 a, .int .i64 b, .int .i64 ad, .int .i64 tt, .int .i64 wd, .int .i64 fr] ∧ Below w.heap.size w w2) := ⟨HS.out.1.below hb, HS.out.2.trans (hb.mono HS.out.2.size)⟩; clear hb; have z0 := row_at9 HS.out.1 0 _ rfl; have z1 := row_at9 HS.out.1 1 _ rfl; have z2 := row_at9 HS.out.1 2 _ rfl; have z3 := row_at9 HS.out.1 3 _ rfl; have z4 := row_at9 HS.out.1 4 _ rfl; have z5 := row_at9 HS.out.1 5 _ rfl; have z6 := row_at9 HS.out.1 6 _ rfl; have z7 := row_at9 HS.out.1 7 _ rfl; have z8 := row_at9 HS.out.1 8 _ rfl) | (go_at_call 45; refine (r_uses3 _).mono ?_; rintro e w' ⟨rfl, rfl⟩) | (go_at_call_of 54 (Value.int .i64 d); refine (HNd.out _).mono ?_; rintro e w4d ⟨rfl, hb⟩; have HS : Hid (Own w4d w.heap.size 25 #[.int .u8 3, .int .u8 o, .int .i64 d, .int .i64 a, .int .i64 b, .int .i64 ad, .int .i64 tt, .int .i64 wd, .int .i64 fr] ∧ Below w.heap.size w w4d) := ⟨HS.out.1.below hb, HS.out.2.trans (hb.mono HS.out.2.size)⟩; clear hb; have z0 := row_at9 HS.out.1 0 _ rfl; have z1 := row_at9 HS.out.1 1 _ rfl; have z2 := row_at9 HS.out.1 2 _ rfl; have z3 := row_at9 HS.out.1 3 _ rfl; have z4 := row_at9 HS.out.1 4 _ rfl; have z5 := row_at9 HS.out.1 5 _ rfl; have z6 := row_at9 HS.out.1 6 _ rfl; have z7 := row_at9 HS.out.1 7 _ rfl; have z8 := row_at9 HS.out.1 8 _ rfl) | (go_at_call_of 54 (Value.int .i64 a); refine (HNa.out _).mono ?_; rintro e w4a ⟨rfl, hb⟩; have HS : Hid (Own w4a w.heap.size 25 #[.int .u8 3, .int .u8 o, .int .i64 d, .int .i64 a, .int .i64 b, .int .i64 ad, .int .i64 tt, .int .i64 wd, .int .i64 fr] ∧ Below w.heap.size w w4a) := ⟨HS.out.1.below hb, HS.out.2.trans (hb.mono HS.out.2.size)⟩; clear hb; have z0 := row_at9 HS.out.1 0 _ rfl; have z1 := row_at9 HS.out.1 1 _ rfl; have z2 := row_at9 HS.out.1 2 _ rfl; have z3 := row_at9 HS.out.1 3 _ rfl; have z4 := row_at9 HS.out.1 4 _ rfl; have z5 := row_at9 HS.out.1 5 _ rfl; have z6 := row_at9 HS.out.1 6 _ rfl; have z7 := row_at9 HS.out.1 7 _ rfl; have z8 := row_at9 HS.out.1 8 _ rfl) | (go_at_call_of 54 (Value.int .i64 b); refine (HNb.out _).mono ?_; rintro e w4b ⟨rfl, hb⟩; have HS : Hid (Own w4b w.heap.size 25 #[.int .u8 3, .int .u8 o, .int .i64 d, .int .i64 a, .int .i64 b, .int .i64 ad, .int .i64 tt, .int .i64 wd, .int .i64 fr] ∧ Below w.heap.size w w4b) := ⟨HS.out.1.below hb, HS.out.2.trans (hb.mono HS.out.2.size)⟩; clear hb; have z0 := row_at9 HS.out.1 0 _ rfl; have z1 := row_at9 HS.out.1 1 _ rfl; have z2 := row_at9 HS.out.1 2 _ rfl; have z3 := row_at9 HS.out.1 3 _ rfl; have z4 := row_at9 HS.out.1 4 _ rfl; have z5 := row_at9 HS.out.1 5 _ rfl; have z6 := row_at9 HS.out.1 6 _ rfl; have z7 := row_at9 HS.out.1 7 _ rfl; have z8 := row_at9 HS.out.1 8 _ rfl) | (go_at_call_of 54 (Value.int .i64 ad); refine (HNad.out _).mono ?_; rintro e w4ad ⟨rfl, hb⟩; have HS : Hid (Own w4ad w.heap.size 25 #[.int .u8 3, .int .u8 o, .int .i64 d, .int .i64 a, .int .i64 b, .int .i64 ad, .int .i64 tt, .int .i64 wd, .int .i64 fr] ∧ Below w.heap.size w w4ad) := ⟨HS.out.1.below hb, HS.out.2.trans (hb.mono HS.out.2.size)⟩; clear hb; have z0 := row_at9 HS.out.1 0 _ rfl; have z1 := row_at9 HS.out.1 1 _ rfl; have z2 := row_at9 HS.out.1 2 _ rfl; have z3 := row_at9 HS.out.1 3 _ rfl; have z4 := row_at9 HS.out.1 4 _ rfl; have z5 := row_at9 HS.out.1 5 _ rfl; have z6 := row_at9 HS.out.1 6 _ rfl; have z7 := row_at9 HS.out.1 7 _ rfl; have z8 := row_at9 HS.out.1 8 _ rfl) | (go_at_call_of 54 (Value.int .i64 tt); refine (HNtt.out _).mono ?_; rintro e w4tt ⟨rfl, hb⟩; have HS : Hid (Own w4tt w.heap.size 25 #[.int .u8 3, .int .u8 o, .int .i64 d, .int .i64 a, .int .i64 b, .int .i64 ad, .int .i64 tt, .int .i64 wd, .int .i64 fr] ∧ Below w.heap.size w w4tt) := ⟨HS.out.1.below hb, HS.out.2.trans (hb.mono HS.out.2.size)⟩; clear hb; have z0 := row_at9 HS.out.1 0 _ rfl; have z1 := row_at9 HS.out.1 1 _ rfl; have z2 := row_at9 HS.out.1 2 _ rfl; have z3 := row_at9 HS.out.1 3 _ rfl; have z4 := row_at9 HS.out.1 4 _ rfl; have z5 := row_at9 HS.out.1 5 _ rfl; have z6 := row_at9 HS.out.1 6 _ rfl; have z7 := row_at9 HS.out.1 7 _ rfl; have z8 := row_at9 HS.out.1 8 _ rfl) | (go_at_call_of 54 (Value.int .i64 fr); refine (HNfr.out _).mono ?_; rintro e w4fr ⟨rfl, hb⟩; have HS : Hid (Own w4fr w.heap.size 25 #[.int .u8 3, .int .u8 o, .int .i64 d, .int .i64 a, .int .i64 b, .int .i64 ad, .int .i64 tt, .int .i64 wd, .int .i64 fr] ∧ Below w.heap.size w w4fr) := ⟨HS.out.1.below hb, HS.out.2.trans (hb.mono HS.out.2.size)⟩; clear hb; have z0 := row_at9 HS.out.1 0 _ rfl; have z1 := row_at9 HS.out.1 1 _ rfl; have z2 := row_at9 HS.out.1 2 _ rfl; have z3 := row_at9 HS.out.1 3 _ rfl; have z4 := row_at9 HS.out.1 4 _ rfl; have z5 := row_at9 HS.out.1 5 _ rfl; have z6 := row_at9 HS.out.1 6 _ rfl; have z7 := row_at9 HS.out.1 7 _ rfl; have z8 := row_at9 HS.out.1 8 _ rfl) | (go_at_call 55; refine (HNwd.out _).mono ?_; rintro e w5 ⟨rfl, hb⟩; have HS : Hid (Own w5 w.heap.size 25 #[.int .u8 3, .int .u8 o, .int .i64 d, .int .i64 a, .int .i64 b, .int .i64 ad, .int .i64 tt, .int .i64 wd, .int .i64 fr] ∧ Below w.heap.size w w5) := ⟨HS.out.1.below hb, HS.out.2.trans (hb.mono HS.out.2.size)⟩; clear hb; have z0 := row_at9 HS.out.1 0 _ rfl; have z1 := row_at9 HS.out.1 1 _ rfl; have z2 := row_at9 HS.out.1 2 _ rfl; have z3 := row_at9 HS.out.1 3 _ rfl; have z4 := row_at9 HS.out.1 4 _ rfl; have z5 := row_at9 HS.out.1 5 _ rfl; have z6 := row_at9 HS.out.1 6 _ rfl; have z7 := row_at9 HS.out.1 7 _ rfl; have z8 := row_at9 HS.out.1 8 _ rfl))
    go_ret
    refine ⟨congrArg (fun x => Ending.returned (.string x)) (bs_ext ?_), HS.out.2⟩
    have h := HTX.out
    show _ = (insT (⟨3, o, d, a, b, ad, tt, wd, fr⟩ : Ins))
    rw [h, HP4.out, HP3.out, HP2.out, HP1.out]
    simp [f0, ByteArray.data_append, itoaS, regT, numT]
  · have f1 : 0 < fr := by omega
    have s0 : (⟨#[108, 111, 97, 100]⟩ : ByteArray).size ≤ 10 := by show 4 ≤ 10; omega
    obtain ⟨p1, hp1⟩ : ∃ p, p = (⟨#[108, 111, 97, 100]⟩ : ByteArray) ++ (⟨#[32, 114]⟩ : ByteArray) := ⟨_, rfl⟩
    have t1 : (⟨#[32, 114]⟩ : ByteArray).size = 2 := rfl
    have s1 : p1.size ≤ 12 := by rw [hp1, ByteArray.size_append]; omega
    have q1 : ∀ V, (Op.stringOp .add (⟨#[108, 111, 97, 100]⟩ : ByteArray) (⟨#[32, 114]⟩ : ByteArray)).run Tryz.prog V = .ok (.string p1) V := fun V => by rw [hp1]; exact run_string_add_sum V _ _ (by omega)
    have HP1 := Lib.hid hp1
    clear hp1 t1 s0
    obtain ⟨p2, hp2⟩ : ∃ p, p = p1 ++ (itoaS d) := ⟨_, rfl⟩
    have t2 : (itoaS d).size ≤ 100 := itoaS_size d HRNd.out.1 HRNd.out.2
    have s2 : p2.size ≤ 112 := by rw [hp2, ByteArray.size_append]; omega
    have q2 : ∀ V, (Op.stringOp .add p1 (itoaS d)).run Tryz.prog V = .ok (.string p2) V := fun V => by rw [hp2]; exact run_string_add_sum V _ _ (by omega)
    have HP2 := Lib.hid hp2
    clear hp2 t2 s1
    obtain ⟨p3, hp3⟩ : ∃ p, p = p2 ++ (⟨#[32]⟩ : ByteArray) := ⟨_, rfl⟩
    have t3 : (⟨#[32]⟩ : ByteArray).size = 1 := rfl
    have s3 : p3.size ≤ 113 := by rw [hp3, ByteArray.size_append]; omega
    have q3 : ∀ V, (Op.stringOp .add p2 (⟨#[32]⟩ : ByteArray)).run Tryz.prog V = .ok (.string p3) V := fun V => by rw [hp3]; exact run_string_add_sum V _ _ (by omega)
    have HP3 := Lib.hid hp3
    clear hp3 t3 s2
    obtain ⟨p4, hp4⟩ : ∃ p, p = p3 ++ (itoaS ad) := ⟨_, rfl⟩
    have t4 : (itoaS ad).size ≤ 100 := itoaS_size ad HRNad.out.1 HRNad.out.2
    have s4 : p4.size ≤ 213 := by rw [hp4, ByteArray.size_append]; omega
    have q4 : ∀ V, (Op.stringOp .add p3 (itoaS ad)).run Tryz.prog V = .ok (.string p4) V := fun V => by rw [hp4]; exact run_string_add_sum V _ _ (by omega)
    have HP4 := Lib.hid hp4
    clear hp4 t4 s3
    obtain ⟨p5, hp5⟩ : ∃ p, p = p4 ++ (⟨#[32, 64]⟩ : ByteArray) := ⟨_, rfl⟩
    have t5 : (⟨#[32, 64]⟩ : ByteArray).size = 2 := rfl
    have s5 : p5.size ≤ 215 := by rw [hp5, ByteArray.size_append]; omega
    have q5 : ∀ V, (Op.stringOp .add p4 (⟨#[32, 64]⟩ : ByteArray)).run Tryz.prog V = .ok (.string p5) V := fun V => by rw [hp5]; exact run_string_add_sum V _ _ (by omega)
    have HP5 := Lib.hid hp5
    clear hp5 t5 s4
    obtain ⟨p6, hp6⟩ : ∃ p, p = p5 ++ (itoaS fr) := ⟨_, rfl⟩
    have t6 : (itoaS fr).size ≤ 100 := itoaS_size fr HRNfr.out.1 HRNfr.out.2
    have s6 : p6.size ≤ 315 := by rw [hp6, ByteArray.size_append]; omega
    have q6 : ∀ V, (Op.stringOp .add p5 (itoaS fr)).run Tryz.prog V = .ok (.string p6) V := fun V => by rw [hp6]; exact run_string_add_sum V _ _ (by omega)
    have HP6 := Lib.hid hp6
    clear hp6 t6 s5
    clear s6
    have z0 := row_at9 HS.out.1 0 _ rfl
    have z1 := row_at9 HS.out.1 1 _ rfl
    have z2 := row_at9 HS.out.1 2 _ rfl
    have z3 := row_at9 HS.out.1 3 _ rfl
    have z4 := row_at9 HS.out.1 4 _ rfl
    have z5 := row_at9 HS.out.1 5 _ rfl
    have z6 := row_at9 HS.out.1 6 _ rfl
    have z7 := row_at9 HS.out.1 7 _ rfl
    have z8 := row_at9 HS.out.1 8 _ rfl
    go_wp2_with (first | (go_at_call 52; refine (r_kwd3 _).mono ?_; rintro e w2 ⟨rfl, hb⟩; have HS : Hid (Own w2 w.heap.size 25 #[.int .u8 3, .int .u8 o, .int .i64 d, .int .i64 a, .int .i64 b, .int .i64 ad, .int .i64 tt, .int .i64 wd, .int .i64 fr] ∧ Below w.heap.size w w2) := ⟨HS.out.1.below hb, HS.out.2.trans (hb.mono HS.out.2.size)⟩; clear hb; have z0 := row_at9 HS.out.1 0 _ rfl; have z1 := row_at9 HS.out.1 1 _ rfl; have z2 := row_at9 HS.out.1 2 _ rfl; have z3 := row_at9 HS.out.1 3 _ rfl; have z4 := row_at9 HS.out.1 4 _ rfl; have z5 := row_at9 HS.out.1 5 _ rfl; have z6 := row_at9 HS.out.1 6 _ rfl; have z7 := row_at9 HS.out.1 7 _ rfl; have z8 := row_at9 HS.out.1 8 _ rfl) | (go_at_call 45; refine (r_uses3 _).mono ?_; rintro e w' ⟨rfl, rfl⟩) | (go_at_call_of 54 (Value.int .i64 d); refine (HNd.out _).mono ?_; rintro e w4d ⟨rfl, hb⟩; have HS : Hid (Own w4d w.heap.size 25 #[.int .u8 3, .int .u8 o, .int .i64 d, .int .i64 a, .int .i64 b, .int .i64 ad, .int .i64 tt, .int .i64 wd, .int .i64 fr] ∧ Below w.heap.size w w4d) := ⟨HS.out.1.below hb, HS.out.2.trans (hb.mono HS.out.2.size)⟩; clear hb; have z0 := row_at9 HS.out.1 0 _ rfl; have z1 := row_at9 HS.out.1 1 _ rfl; have z2 := row_at9 HS.out.1 2 _ rfl; have z3 := row_at9 HS.out.1 3 _ rfl; have z4 := row_at9 HS.out.1 4 _ rfl; have z5 := row_at9 HS.out.1 5 _ rfl; have z6 := row_at9 HS.out.1 6 _ rfl; have z7 := row_at9 HS.out.1 7 _ rfl; have z8 := row_at9 HS.out.1 8 _ rfl) | (go_at_call_of 54 (Value.int .i64 a); refine (HNa.out _).mono ?_; rintro e w4a ⟨rfl, hb⟩; have HS : Hid (Own w4a w.heap.size 25 #[.int .u8 3, .int .u8 o, .int .i64 d, .int .i64 a, .int .i64 b, .int .i64 ad, .int .i64 tt, .int .i64 wd, .int .i64 fr] ∧ Below w.heap.size w w4a) := ⟨HS.out.1.below hb, HS.out.2.trans (hb.mono HS.out.2.size)⟩; clear hb; have z0 := row_at9 HS.out.1 0 _ rfl; have z1 := row_at9 HS.out.1 1 _ rfl; have z2 := row_at9 HS.out.1 2 _ rfl; have z3 := row_at9 HS.out.1 3 _ rfl; have z4 := row_at9 HS.out.1 4 _ rfl; have z5 := row_at9 HS.out.1 5 _ rfl; have z6 := row_at9 HS.out.1 6 _ rfl; have z7 := row_at9 HS.out.1 7 _ rfl; have z8 := row_at9 HS.out.1 8 _ rfl) | (go_at_call_of 54 (Value.int .i64 b); refine (HNb.out _).mono ?_; rintro e w4b ⟨rfl, hb⟩; have HS : Hid (Own w4b w.heap.size 25 #[.int .u8 3, .int .u8 o, .int .i64 d, .int .i64 a, .int .i64 b, .int .i64 ad, .int .i64 tt, .int .i64 wd, .int .i64 fr] ∧ Below w.heap.size w w4b) := ⟨HS.out.1.below hb, HS.out.2.trans (hb.mono HS.out.2.size)⟩; clear hb; have z0 := row_at9 HS.out.1 0 _ rfl; have z1 := row_at9 HS.out.1 1 _ rfl; have z2 := row_at9 HS.out.1 2 _ rfl; have z3 := row_at9 HS.out.1 3 _ rfl; have z4 := row_at9 HS.out.1 4 _ rfl; have z5 := row_at9 HS.out.1 5 _ rfl; have z6 := row_at9 HS.out.1 6 _ rfl; have z7 := row_at9 HS.out.1 7 _ rfl; have z8 := row_at9 HS.out.1 8 _ rfl) | (go_at_call_of 54 (Value.int .i64 ad); refine (HNad.out _).mono ?_; rintro e w4ad ⟨rfl, hb⟩; have HS : Hid (Own w4ad w.heap.size 25 #[.int .u8 3, .int .u8 o, .int .i64 d, .int .i64 a, .int .i64 b, .int .i64 ad, .int .i64 tt, .int .i64 wd, .int .i64 fr] ∧ Below w.heap.size w w4ad) := ⟨HS.out.1.below hb, HS.out.2.trans (hb.mono HS.out.2.size)⟩; clear hb; have z0 := row_at9 HS.out.1 0 _ rfl; have z1 := row_at9 HS.out.1 1 _ rfl; have z2 := row_at9 HS.out.1 2 _ rfl; have z3 := row_at9 HS.out.1 3 _ rfl; have z4 := row_at9 HS.out.1 4 _ rfl; have z5 := row_at9 HS.out.1 5 _ rfl; have z6 := row_at9 HS.out.1 6 _ rfl; have z7 := row_at9 HS.out.1 7 _ rfl; have z8 := row_at9 HS.out.1 8 _ rfl) | (go_at_call_of 54 (Value.int .i64 tt); refine (HNtt.out _).mono ?_; rintro e w4tt ⟨rfl, hb⟩; have HS : Hid (Own w4tt w.heap.size 25 #[.int .u8 3, .int .u8 o, .int .i64 d, .int .i64 a, .int .i64 b, .int .i64 ad, .int .i64 tt, .int .i64 wd, .int .i64 fr] ∧ Below w.heap.size w w4tt) := ⟨HS.out.1.below hb, HS.out.2.trans (hb.mono HS.out.2.size)⟩; clear hb; have z0 := row_at9 HS.out.1 0 _ rfl; have z1 := row_at9 HS.out.1 1 _ rfl; have z2 := row_at9 HS.out.1 2 _ rfl; have z3 := row_at9 HS.out.1 3 _ rfl; have z4 := row_at9 HS.out.1 4 _ rfl; have z5 := row_at9 HS.out.1 5 _ rfl; have z6 := row_at9 HS.out.1 6 _ rfl; have z7 := row_at9 HS.out.1 7 _ rfl; have z8 := row_at9 HS.out.1 8 _ rfl) | (go_at_call_of 54 (Value.int .i64 fr); refine (HNfr.out _).mono ?_; rintro e w4fr ⟨rfl, hb⟩; have HS : Hid (Own w4fr w.heap.size 25 #[.int .u8 3, .int .u8 o, .int .i64 d, .int .i64 a, .int .i64 b, .int .i64 ad, .int .i64 tt, .int .i64 wd, .int .i64 fr] ∧ Below w.heap.size w w4fr) := ⟨HS.out.1.below hb, HS.out.2.trans (hb.mono HS.out.2.size)⟩; clear hb; have z0 := row_at9 HS.out.1 0 _ rfl; have z1 := row_at9 HS.out.1 1 _ rfl; have z2 := row_at9 HS.out.1 2 _ rfl; have z3 := row_at9 HS.out.1 3 _ rfl; have z4 := row_at9 HS.out.1 4 _ rfl; have z5 := row_at9 HS.out.1 5 _ rfl; have z6 := row_at9 HS.out.1 6 _ rfl; have z7 := row_at9 HS.out.1 7 _ rfl; have z8 := row_at9 HS.out.1 8 _ rfl) | (go_at_call 55; refine (HNwd.out _).mono ?_; rintro e w5 ⟨rfl, hb⟩; have HS : Hid (Own w5 w.heap.size 25 #[.int .u8 3, .int .u8 o, .int .i64 d, .int .i64 a, .int .i64 b, .int .i64 ad, .int .i64 tt, .int .i64 wd, .int .i64 fr] ∧ Below w.heap.size w w5) := ⟨HS.out.1.below hb, HS.out.2.trans (hb.mono HS.out.2.size)⟩; clear hb; have z0 := row_at9 HS.out.1 0 _ rfl; have z1 := row_at9 HS.out.1 1 _ rfl; have z2 := row_at9 HS.out.1 2 _ rfl; have z3 := row_at9 HS.out.1 3 _ rfl; have z4 := row_at9 HS.out.1 4 _ rfl; have z5 := row_at9 HS.out.1 5 _ rfl; have z6 := row_at9 HS.out.1 6 _ rfl; have z7 := row_at9 HS.out.1 7 _ rfl; have z8 := row_at9 HS.out.1 8 _ rfl))
    go_ret
    refine ⟨congrArg (fun x => Ending.returned (.string x)) (bs_ext ?_), HS.out.2⟩
    have h := HTX.out
    show _ = (insT (⟨3, o, d, a, b, ad, tt, wd, fr⟩ : Ins))
    rw [h, HP6.out, HP5.out, HP4.out, HP3.out, HP2.out, HP1.out]
    simp [f0, ByteArray.data_append, itoaS, regT, numT]
set_option maxHeartbeats 8000000 in
theorem r_show4 (o d a b ad tt wd fr : Int) (hg : rgI (⟨4, o, d, a, b, ad, tt, wd, fr⟩ : Ins)) (hr : rightB (⟨4, o, d, a, b, ad, tt, wd, fr⟩ : Ins) 9223372036854775807 9223372036854775807 = true) (w : World) : Calls Tryz.prog 29 #[.agg #[.int .u8 4, .int .u8 o, .int .i64 d, .int .i64 a, .int .i64 b, .int .i64 ad, .int .i64 tt, .int .i64 wd, .int .i64 fr]] w fun e w' => e = .returned (.string ⟨(insT (⟨4, o, d, a, b, ad, tt, wd, fr⟩ : Ins)).toArray⟩) ∧ Below w.heap.size w w' := by
  have hfr := right_fr hr
  have hT : insT (⟨4, o, d, a, b, ad, tt, wd, fr⟩ : Ins) = [115, 116, 111, 114, 101] ++ (((((([]) ++ (regT a)) ++ ([])) ++ (numT ad)) ++ ([])) ++ ([])) ++ (if fr = 0 then [] else [32, 64] ++ Lib.itoa fr) := by
    rw [ins_txt _ (show kB 4 = true by decide)]
    rfl
  have HRR : Hid (∀ X, Calls Tryz.prog 13 #[.agg #[.int .u8 4, .int .u8 o, .int .i64 d, .int .i64 a, .int .i64 b, .int .i64 ad, .int .i64 tt, .int .i64 wd, .int .i64 fr], .int .i64 9223372036854775807, .int .i64 9223372036854775807] X fun e w' => e = .returned (.bool true) ∧ Below X.heap.size X w') := fun X => by
    have h := rright_any (⟨4, o, d, a, b, ad, tt, wd, fr⟩ : Ins) hg 9223372036854775807 9223372036854775807 X
    rw [hr] at h
    exact h
  obtain ⟨_, ho, hd, ha, hb0, had, htt, hwd, hfr2⟩ := hg
  simp only at ho hd ha hb0 had htt hwd hfr2
  have HTX := Lib.hid hT
  have HNd : Hid (∀ X, Calls Tryz.prog 54 #[.int .i64 d] X fun e w' => e = .returned (.string (itoaS d)) ∧ Below X.heap.size X w') := fun X => r_nat d hd.1 hd.2 X
  have HNa : Hid (∀ X, Calls Tryz.prog 54 #[.int .i64 a] X fun e w' => e = .returned (.string (itoaS a)) ∧ Below X.heap.size X w') := fun X => r_nat a ha.1 ha.2 X
  have HNb : Hid (∀ X, Calls Tryz.prog 54 #[.int .i64 b] X fun e w' => e = .returned (.string (itoaS b)) ∧ Below X.heap.size X w') := fun X => r_nat b hb0.1 hb0.2 X
  have HNad : Hid (∀ X, Calls Tryz.prog 54 #[.int .i64 ad] X fun e w' => e = .returned (.string (itoaS ad)) ∧ Below X.heap.size X w') := fun X => r_nat ad had.1 had.2 X
  have HNtt : Hid (∀ X, Calls Tryz.prog 54 #[.int .i64 tt] X fun e w' => e = .returned (.string (itoaS tt)) ∧ Below X.heap.size X w') := fun X => r_nat tt htt.1 htt.2 X
  have HNfr : Hid (∀ X, Calls Tryz.prog 54 #[.int .i64 fr] X fun e w' => e = .returned (.string (itoaS fr)) ∧ Below X.heap.size X w') := fun X => r_nat fr hfr2.1 hfr2.2 X
  have HRNd := Lib.hid hd
  have HRNa := Lib.hid ha
  have HRNb := Lib.hid hb0
  have HRNad := Lib.hid had
  have HRNtt := Lib.hid htt
  have HRNfr := Lib.hid hfr2
  have HRNwd := Lib.hid hwd
  have HNwd : Hid (∀ X, Calls Tryz.prog 55 #[.int .i64 wd] X fun e w' => e = .returned (.string (itoaS wd)) ∧ Below X.heap.size X w') := fun X => rprint_any wd hwd.1 hwd.2 X
  have al : Below w.heap.size w (w.alloc (.cells #[.int .u8 4, .int .u8 o, .int .i64 d, .int .i64 a, .int .i64 b, .int .i64 ad, .int .i64 tt, .int .i64 wd, .int .i64 fr] 25)) := (Below.refl _ w).alloc (Nat.le_refl _) _
  have O0 := Own.new w 25 #[.int .u8 4, .int .u8 o, .int .i64 d, .int .i64 a, .int .i64 b, .int .i64 ad, .int .i64 tt, .int .i64 wd, .int .i64 fr]
  obtain ⟨W0, hW0⟩ : ∃ W, W = w.alloc (.cells #[.int .u8 4, .int .u8 o, .int .i64 d, .int .i64 a, .int .i64 b, .int .i64 ad, .int .i64 tt, .int .i64 wd, .int .i64 fr] 25) := ⟨_, rfl⟩
  rw [← hW0] at al O0
  have HW0 := Lib.hid hW0
  have HS0 : Hid (Own W0 w.heap.size 25 #[.int .u8 4, .int .u8 o, .int .i64 d, .int .i64 a, .int .i64 b, .int .i64 ad, .int .i64 tt, .int .i64 wd, .int .i64 fr] ∧ Below w.heap.size w W0) := ⟨O0, al⟩
  clear hT al hW0 ho hd ha hb0 had htt hwd hfr2 hr
  go_enter Tryz.func29, Tryz.ntmps29
  go_upto_region 1 with fail
  rw [← HW0.out]
  clear HW0
  go_upto_region 3 with (first | (refine ld rowI rfl rfl rfl O0 rfl ?_) | (go_at_call 13; refine (HRR.out _).mono ?_; rintro e w1 ⟨rfl, hb⟩; have HS : Hid (Own w1 w.heap.size 25 #[.int .u8 4, .int .u8 o, .int .i64 d, .int .i64 a, .int .i64 b, .int .i64 ad, .int .i64 tt, .int .i64 wd, .int .i64 fr] ∧ Below w.heap.size w w1) := ⟨HS0.out.1.below hb, HS0.out.2.trans (hb.mono HS0.out.2.size)⟩; clear hb O0))
  clear HS0 HRR
  rename_i w1
  by_cases f0 : fr = 0
  · have f1 : ¬ 0 < fr := by omega
    have s0 : (⟨#[115, 116, 111, 114, 101]⟩ : ByteArray).size ≤ 10 := by show 5 ≤ 10; omega
    obtain ⟨p1, hp1⟩ : ∃ p, p = (⟨#[115, 116, 111, 114, 101]⟩ : ByteArray) ++ (⟨#[32, 114]⟩ : ByteArray) := ⟨_, rfl⟩
    have t1 : (⟨#[32, 114]⟩ : ByteArray).size = 2 := rfl
    have s1 : p1.size ≤ 12 := by rw [hp1, ByteArray.size_append]; omega
    have q1 : ∀ V, (Op.stringOp .add (⟨#[115, 116, 111, 114, 101]⟩ : ByteArray) (⟨#[32, 114]⟩ : ByteArray)).run Tryz.prog V = .ok (.string p1) V := fun V => by rw [hp1]; exact run_string_add_sum V _ _ (by omega)
    have HP1 := Lib.hid hp1
    clear hp1 t1 s0
    obtain ⟨p2, hp2⟩ : ∃ p, p = p1 ++ (itoaS a) := ⟨_, rfl⟩
    have t2 : (itoaS a).size ≤ 100 := itoaS_size a HRNa.out.1 HRNa.out.2
    have s2 : p2.size ≤ 112 := by rw [hp2, ByteArray.size_append]; omega
    have q2 : ∀ V, (Op.stringOp .add p1 (itoaS a)).run Tryz.prog V = .ok (.string p2) V := fun V => by rw [hp2]; exact run_string_add_sum V _ _ (by omega)
    have HP2 := Lib.hid hp2
    clear hp2 t2 s1
    obtain ⟨p3, hp3⟩ : ∃ p, p = p2 ++ (⟨#[32]⟩ : ByteArray) := ⟨_, rfl⟩
    have t3 : (⟨#[32]⟩ : ByteArray).size = 1 := rfl
    have s3 : p3.size ≤ 113 := by rw [hp3, ByteArray.size_append]; omega
    have q3 : ∀ V, (Op.stringOp .add p2 (⟨#[32]⟩ : ByteArray)).run Tryz.prog V = .ok (.string p3) V := fun V => by rw [hp3]; exact run_string_add_sum V _ _ (by omega)
    have HP3 := Lib.hid hp3
    clear hp3 t3 s2
    obtain ⟨p4, hp4⟩ : ∃ p, p = p3 ++ (itoaS ad) := ⟨_, rfl⟩
    have t4 : (itoaS ad).size ≤ 100 := itoaS_size ad HRNad.out.1 HRNad.out.2
    have s4 : p4.size ≤ 213 := by rw [hp4, ByteArray.size_append]; omega
    have q4 : ∀ V, (Op.stringOp .add p3 (itoaS ad)).run Tryz.prog V = .ok (.string p4) V := fun V => by rw [hp4]; exact run_string_add_sum V _ _ (by omega)
    have HP4 := Lib.hid hp4
    clear hp4 t4 s3
    clear s4
    have z0 := row_at9 HS.out.1 0 _ rfl
    have z1 := row_at9 HS.out.1 1 _ rfl
    have z2 := row_at9 HS.out.1 2 _ rfl
    have z3 := row_at9 HS.out.1 3 _ rfl
    have z4 := row_at9 HS.out.1 4 _ rfl
    have z5 := row_at9 HS.out.1 5 _ rfl
    have z6 := row_at9 HS.out.1 6 _ rfl
    have z7 := row_at9 HS.out.1 7 _ rfl
    have z8 := row_at9 HS.out.1 8 _ rfl
    go_wp2_with (first | (go_at_call 52; refine (r_kwd4 _).mono ?_; rintro e w2 ⟨rfl, hb⟩; have HS : Hid (Own w2 w.heap.size 25 #[.int .u8 4, .int .u8 o, .int .i64 d, .int .i64 a, .int .i64 b, .int .i64 ad, .int .i64 tt, .int .i64 wd, .int .i64 fr] ∧ Below w.heap.size w w2) := ⟨HS.out.1.below hb, HS.out.2.trans (hb.mono HS.out.2.size)⟩; clear hb; have z0 := row_at9 HS.out.1 0 _ rfl; have z1 := row_at9 HS.out.1 1 _ rfl; have z2 := row_at9 HS.out.1 2 _ rfl; have z3 := row_at9 HS.out.1 3 _ rfl; have z4 := row_at9 HS.out.1 4 _ rfl; have z5 := row_at9 HS.out.1 5 _ rfl; have z6 := row_at9 HS.out.1 6 _ rfl; have z7 := row_at9 HS.out.1 7 _ rfl; have z8 := row_at9 HS.out.1 8 _ rfl) | (go_at_call 45; refine (r_uses4 _).mono ?_; rintro e w' ⟨rfl, rfl⟩) | (go_at_call_of 54 (Value.int .i64 d); refine (HNd.out _).mono ?_; rintro e w4d ⟨rfl, hb⟩; have HS : Hid (Own w4d w.heap.size 25 #[.int .u8 4, .int .u8 o, .int .i64 d, .int .i64 a, .int .i64 b, .int .i64 ad, .int .i64 tt, .int .i64 wd, .int .i64 fr] ∧ Below w.heap.size w w4d) := ⟨HS.out.1.below hb, HS.out.2.trans (hb.mono HS.out.2.size)⟩; clear hb; have z0 := row_at9 HS.out.1 0 _ rfl; have z1 := row_at9 HS.out.1 1 _ rfl; have z2 := row_at9 HS.out.1 2 _ rfl; have z3 := row_at9 HS.out.1 3 _ rfl; have z4 := row_at9 HS.out.1 4 _ rfl; have z5 := row_at9 HS.out.1 5 _ rfl; have z6 := row_at9 HS.out.1 6 _ rfl; have z7 := row_at9 HS.out.1 7 _ rfl; have z8 := row_at9 HS.out.1 8 _ rfl) | (go_at_call_of 54 (Value.int .i64 a); refine (HNa.out _).mono ?_; rintro e w4a ⟨rfl, hb⟩; have HS : Hid (Own w4a w.heap.size 25 #[.int .u8 4, .int .u8 o, .int .i64 d, .int .i64 a, .int .i64 b, .int .i64 ad, .int .i64 tt, .int .i64 wd, .int .i64 fr] ∧ Below w.heap.size w w4a) := ⟨HS.out.1.below hb, HS.out.2.trans (hb.mono HS.out.2.size)⟩; clear hb; have z0 := row_at9 HS.out.1 0 _ rfl; have z1 := row_at9 HS.out.1 1 _ rfl; have z2 := row_at9 HS.out.1 2 _ rfl; have z3 := row_at9 HS.out.1 3 _ rfl; have z4 := row_at9 HS.out.1 4 _ rfl; have z5 := row_at9 HS.out.1 5 _ rfl; have z6 := row_at9 HS.out.1 6 _ rfl; have z7 := row_at9 HS.out.1 7 _ rfl; have z8 := row_at9 HS.out.1 8 _ rfl) | (go_at_call_of 54 (Value.int .i64 b); refine (HNb.out _).mono ?_; rintro e w4b ⟨rfl, hb⟩; have HS : Hid (Own w4b w.heap.size 25 #[.int .u8 4, .int .u8 o, .int .i64 d, .int .i64 a, .int .i64 b, .int .i64 ad, .int .i64 tt, .int .i64 wd, .int .i64 fr] ∧ Below w.heap.size w w4b) := ⟨HS.out.1.below hb, HS.out.2.trans (hb.mono HS.out.2.size)⟩; clear hb; have z0 := row_at9 HS.out.1 0 _ rfl; have z1 := row_at9 HS.out.1 1 _ rfl; have z2 := row_at9 HS.out.1 2 _ rfl; have z3 := row_at9 HS.out.1 3 _ rfl; have z4 := row_at9 HS.out.1 4 _ rfl; have z5 := row_at9 HS.out.1 5 _ rfl; have z6 := row_at9 HS.out.1 6 _ rfl; have z7 := row_at9 HS.out.1 7 _ rfl; have z8 := row_at9 HS.out.1 8 _ rfl) | (go_at_call_of 54 (Value.int .i64 ad); refine (HNad.out _).mono ?_; rintro e w4ad ⟨rfl, hb⟩; have HS : Hid (Own w4ad w.heap.size 25 #[.int .u8 4, .int .u8 o, .int .i64 d, .int .i64 a, .int .i64 b, .int .i64 ad, .int .i64 tt, .int .i64 wd, .int .i64 fr] ∧ Below w.heap.size w w4ad) := ⟨HS.out.1.below hb, HS.out.2.trans (hb.mono HS.out.2.size)⟩; clear hb; have z0 := row_at9 HS.out.1 0 _ rfl; have z1 := row_at9 HS.out.1 1 _ rfl; have z2 := row_at9 HS.out.1 2 _ rfl; have z3 := row_at9 HS.out.1 3 _ rfl; have z4 := row_at9 HS.out.1 4 _ rfl; have z5 := row_at9 HS.out.1 5 _ rfl; have z6 := row_at9 HS.out.1 6 _ rfl; have z7 := row_at9 HS.out.1 7 _ rfl; have z8 := row_at9 HS.out.1 8 _ rfl) | (go_at_call_of 54 (Value.int .i64 tt); refine (HNtt.out _).mono ?_; rintro e w4tt ⟨rfl, hb⟩; have HS : Hid (Own w4tt w.heap.size 25 #[.int .u8 4, .int .u8 o, .int .i64 d, .int .i64 a, .int .i64 b, .int .i64 ad, .int .i64 tt, .int .i64 wd, .int .i64 fr] ∧ Below w.heap.size w w4tt) := ⟨HS.out.1.below hb, HS.out.2.trans (hb.mono HS.out.2.size)⟩; clear hb; have z0 := row_at9 HS.out.1 0 _ rfl; have z1 := row_at9 HS.out.1 1 _ rfl; have z2 := row_at9 HS.out.1 2 _ rfl; have z3 := row_at9 HS.out.1 3 _ rfl; have z4 := row_at9 HS.out.1 4 _ rfl; have z5 := row_at9 HS.out.1 5 _ rfl; have z6 := row_at9 HS.out.1 6 _ rfl; have z7 := row_at9 HS.out.1 7 _ rfl; have z8 := row_at9 HS.out.1 8 _ rfl) | (go_at_call_of 54 (Value.int .i64 fr); refine (HNfr.out _).mono ?_; rintro e w4fr ⟨rfl, hb⟩; have HS : Hid (Own w4fr w.heap.size 25 #[.int .u8 4, .int .u8 o, .int .i64 d, .int .i64 a, .int .i64 b, .int .i64 ad, .int .i64 tt, .int .i64 wd, .int .i64 fr] ∧ Below w.heap.size w w4fr) := ⟨HS.out.1.below hb, HS.out.2.trans (hb.mono HS.out.2.size)⟩; clear hb; have z0 := row_at9 HS.out.1 0 _ rfl; have z1 := row_at9 HS.out.1 1 _ rfl; have z2 := row_at9 HS.out.1 2 _ rfl; have z3 := row_at9 HS.out.1 3 _ rfl; have z4 := row_at9 HS.out.1 4 _ rfl; have z5 := row_at9 HS.out.1 5 _ rfl; have z6 := row_at9 HS.out.1 6 _ rfl; have z7 := row_at9 HS.out.1 7 _ rfl; have z8 := row_at9 HS.out.1 8 _ rfl) | (go_at_call 55; refine (HNwd.out _).mono ?_; rintro e w5 ⟨rfl, hb⟩; have HS : Hid (Own w5 w.heap.size 25 #[.int .u8 4, .int .u8 o, .int .i64 d, .int .i64 a, .int .i64 b, .int .i64 ad, .int .i64 tt, .int .i64 wd, .int .i64 fr] ∧ Below w.heap.size w w5) := ⟨HS.out.1.below hb, HS.out.2.trans (hb.mono HS.out.2.size)⟩; clear hb; have z0 := row_at9 HS.out.1 0 _ rfl; have z1 := row_at9 HS.out.1 1 _ rfl; have z2 := row_at9 HS.out.1 2 _ rfl; have z3 := row_at9 HS.out.1 3 _ rfl; have z4 := row_at9 HS.out.1 4 _ rfl; have z5 := row_at9 HS.out.1 5 _ rfl; have z6 := row_at9 HS.out.1 6 _ rfl; have z7 := row_at9 HS.out.1 7 _ rfl; have z8 := row_at9 HS.out.1 8 _ rfl))
    go_ret
    refine ⟨congrArg (fun x => Ending.returned (.string x)) (bs_ext ?_), HS.out.2⟩
    have h := HTX.out
    show _ = (insT (⟨4, o, d, a, b, ad, tt, wd, fr⟩ : Ins))
    rw [h, HP4.out, HP3.out, HP2.out, HP1.out]
    simp [f0, ByteArray.data_append, itoaS, regT, numT]
  · have f1 : 0 < fr := by omega
    have s0 : (⟨#[115, 116, 111, 114, 101]⟩ : ByteArray).size ≤ 10 := by show 5 ≤ 10; omega
    obtain ⟨p1, hp1⟩ : ∃ p, p = (⟨#[115, 116, 111, 114, 101]⟩ : ByteArray) ++ (⟨#[32, 114]⟩ : ByteArray) := ⟨_, rfl⟩
    have t1 : (⟨#[32, 114]⟩ : ByteArray).size = 2 := rfl
    have s1 : p1.size ≤ 12 := by rw [hp1, ByteArray.size_append]; omega
    have q1 : ∀ V, (Op.stringOp .add (⟨#[115, 116, 111, 114, 101]⟩ : ByteArray) (⟨#[32, 114]⟩ : ByteArray)).run Tryz.prog V = .ok (.string p1) V := fun V => by rw [hp1]; exact run_string_add_sum V _ _ (by omega)
    have HP1 := Lib.hid hp1
    clear hp1 t1 s0
    obtain ⟨p2, hp2⟩ : ∃ p, p = p1 ++ (itoaS a) := ⟨_, rfl⟩
    have t2 : (itoaS a).size ≤ 100 := itoaS_size a HRNa.out.1 HRNa.out.2
    have s2 : p2.size ≤ 112 := by rw [hp2, ByteArray.size_append]; omega
    have q2 : ∀ V, (Op.stringOp .add p1 (itoaS a)).run Tryz.prog V = .ok (.string p2) V := fun V => by rw [hp2]; exact run_string_add_sum V _ _ (by omega)
    have HP2 := Lib.hid hp2
    clear hp2 t2 s1
    obtain ⟨p3, hp3⟩ : ∃ p, p = p2 ++ (⟨#[32]⟩ : ByteArray) := ⟨_, rfl⟩
    have t3 : (⟨#[32]⟩ : ByteArray).size = 1 := rfl
    have s3 : p3.size ≤ 113 := by rw [hp3, ByteArray.size_append]; omega
    have q3 : ∀ V, (Op.stringOp .add p2 (⟨#[32]⟩ : ByteArray)).run Tryz.prog V = .ok (.string p3) V := fun V => by rw [hp3]; exact run_string_add_sum V _ _ (by omega)
    have HP3 := Lib.hid hp3
    clear hp3 t3 s2
    obtain ⟨p4, hp4⟩ : ∃ p, p = p3 ++ (itoaS ad) := ⟨_, rfl⟩
    have t4 : (itoaS ad).size ≤ 100 := itoaS_size ad HRNad.out.1 HRNad.out.2
    have s4 : p4.size ≤ 213 := by rw [hp4, ByteArray.size_append]; omega
    have q4 : ∀ V, (Op.stringOp .add p3 (itoaS ad)).run Tryz.prog V = .ok (.string p4) V := fun V => by rw [hp4]; exact run_string_add_sum V _ _ (by omega)
    have HP4 := Lib.hid hp4
    clear hp4 t4 s3
    obtain ⟨p5, hp5⟩ : ∃ p, p = p4 ++ (⟨#[32, 64]⟩ : ByteArray) := ⟨_, rfl⟩
    have t5 : (⟨#[32, 64]⟩ : ByteArray).size = 2 := rfl
    have s5 : p5.size ≤ 215 := by rw [hp5, ByteArray.size_append]; omega
    have q5 : ∀ V, (Op.stringOp .add p4 (⟨#[32, 64]⟩ : ByteArray)).run Tryz.prog V = .ok (.string p5) V := fun V => by rw [hp5]; exact run_string_add_sum V _ _ (by omega)
    have HP5 := Lib.hid hp5
    clear hp5 t5 s4
    obtain ⟨p6, hp6⟩ : ∃ p, p = p5 ++ (itoaS fr) := ⟨_, rfl⟩
    have t6 : (itoaS fr).size ≤ 100 := itoaS_size fr HRNfr.out.1 HRNfr.out.2
    have s6 : p6.size ≤ 315 := by rw [hp6, ByteArray.size_append]; omega
    have q6 : ∀ V, (Op.stringOp .add p5 (itoaS fr)).run Tryz.prog V = .ok (.string p6) V := fun V => by rw [hp6]; exact run_string_add_sum V _ _ (by omega)
    have HP6 := Lib.hid hp6
    clear hp6 t6 s5
    clear s6
    have z0 := row_at9 HS.out.1 0 _ rfl
    have z1 := row_at9 HS.out.1 1 _ rfl
    have z2 := row_at9 HS.out.1 2 _ rfl
    have z3 := row_at9 HS.out.1 3 _ rfl
    have z4 := row_at9 HS.out.1 4 _ rfl
    have z5 := row_at9 HS.out.1 5 _ rfl
    have z6 := row_at9 HS.out.1 6 _ rfl
    have z7 := row_at9 HS.out.1 7 _ rfl
    have z8 := row_at9 HS.out.1 8 _ rfl
    go_wp2_with (first | (go_at_call 52; refine (r_kwd4 _).mono ?_; rintro e w2 ⟨rfl, hb⟩; have HS : Hid (Own w2 w.heap.size 25 #[.int .u8 4, .int .u8 o, .int .i64 d, .int .i64 a, .int .i64 b, .int .i64 ad, .int .i64 tt, .int .i64 wd, .int .i64 fr] ∧ Below w.heap.size w w2) := ⟨HS.out.1.below hb, HS.out.2.trans (hb.mono HS.out.2.size)⟩; clear hb; have z0 := row_at9 HS.out.1 0 _ rfl; have z1 := row_at9 HS.out.1 1 _ rfl; have z2 := row_at9 HS.out.1 2 _ rfl; have z3 := row_at9 HS.out.1 3 _ rfl; have z4 := row_at9 HS.out.1 4 _ rfl; have z5 := row_at9 HS.out.1 5 _ rfl; have z6 := row_at9 HS.out.1 6 _ rfl; have z7 := row_at9 HS.out.1 7 _ rfl; have z8 := row_at9 HS.out.1 8 _ rfl) | (go_at_call 45; refine (r_uses4 _).mono ?_; rintro e w' ⟨rfl, rfl⟩) | (go_at_call_of 54 (Value.int .i64 d); refine (HNd.out _).mono ?_; rintro e w4d ⟨rfl, hb⟩; have HS : Hid (Own w4d w.heap.size 25 #[.int .u8 4, .int .u8 o, .int .i64 d, .int .i64 a, .int .i64 b, .int .i64 ad, .int .i64 tt, .int .i64 wd, .int .i64 fr] ∧ Below w.heap.size w w4d) := ⟨HS.out.1.below hb, HS.out.2.trans (hb.mono HS.out.2.size)⟩; clear hb; have z0 := row_at9 HS.out.1 0 _ rfl; have z1 := row_at9 HS.out.1 1 _ rfl; have z2 := row_at9 HS.out.1 2 _ rfl; have z3 := row_at9 HS.out.1 3 _ rfl; have z4 := row_at9 HS.out.1 4 _ rfl; have z5 := row_at9 HS.out.1 5 _ rfl; have z6 := row_at9 HS.out.1 6 _ rfl; have z7 := row_at9 HS.out.1 7 _ rfl; have z8 := row_at9 HS.out.1 8 _ rfl) | (go_at_call_of 54 (Value.int .i64 a); refine (HNa.out _).mono ?_; rintro e w4a ⟨rfl, hb⟩; have HS : Hid (Own w4a w.heap.size 25 #[.int .u8 4, .int .u8 o, .int .i64 d, .int .i64 a, .int .i64 b, .int .i64 ad, .int .i64 tt, .int .i64 wd, .int .i64 fr] ∧ Below w.heap.size w w4a) := ⟨HS.out.1.below hb, HS.out.2.trans (hb.mono HS.out.2.size)⟩; clear hb; have z0 := row_at9 HS.out.1 0 _ rfl; have z1 := row_at9 HS.out.1 1 _ rfl; have z2 := row_at9 HS.out.1 2 _ rfl; have z3 := row_at9 HS.out.1 3 _ rfl; have z4 := row_at9 HS.out.1 4 _ rfl; have z5 := row_at9 HS.out.1 5 _ rfl; have z6 := row_at9 HS.out.1 6 _ rfl; have z7 := row_at9 HS.out.1 7 _ rfl; have z8 := row_at9 HS.out.1 8 _ rfl) | (go_at_call_of 54 (Value.int .i64 b); refine (HNb.out _).mono ?_; rintro e w4b ⟨rfl, hb⟩; have HS : Hid (Own w4b w.heap.size 25 #[.int .u8 4, .int .u8 o, .int .i64 d, .int .i64 a, .int .i64 b, .int .i64 ad, .int .i64 tt, .int .i64 wd, .int .i64 fr] ∧ Below w.heap.size w w4b) := ⟨HS.out.1.below hb, HS.out.2.trans (hb.mono HS.out.2.size)⟩; clear hb; have z0 := row_at9 HS.out.1 0 _ rfl; have z1 := row_at9 HS.out.1 1 _ rfl; have z2 := row_at9 HS.out.1 2 _ rfl; have z3 := row_at9 HS.out.1 3 _ rfl; have z4 := row_at9 HS.out.1 4 _ rfl; have z5 := row_at9 HS.out.1 5 _ rfl; have z6 := row_at9 HS.out.1 6 _ rfl; have z7 := row_at9 HS.out.1 7 _ rfl; have z8 := row_at9 HS.out.1 8 _ rfl) | (go_at_call_of 54 (Value.int .i64 ad); refine (HNad.out _).mono ?_; rintro e w4ad ⟨rfl, hb⟩; have HS : Hid (Own w4ad w.heap.size 25 #[.int .u8 4, .int .u8 o, .int .i64 d, .int .i64 a, .int .i64 b, .int .i64 ad, .int .i64 tt, .int .i64 wd, .int .i64 fr] ∧ Below w.heap.size w w4ad) := ⟨HS.out.1.below hb, HS.out.2.trans (hb.mono HS.out.2.size)⟩; clear hb; have z0 := row_at9 HS.out.1 0 _ rfl; have z1 := row_at9 HS.out.1 1 _ rfl; have z2 := row_at9 HS.out.1 2 _ rfl; have z3 := row_at9 HS.out.1 3 _ rfl; have z4 := row_at9 HS.out.1 4 _ rfl; have z5 := row_at9 HS.out.1 5 _ rfl; have z6 := row_at9 HS.out.1 6 _ rfl; have z7 := row_at9 HS.out.1 7 _ rfl; have z8 := row_at9 HS.out.1 8 _ rfl) | (go_at_call_of 54 (Value.int .i64 tt); refine (HNtt.out _).mono ?_; rintro e w4tt ⟨rfl, hb⟩; have HS : Hid (Own w4tt w.heap.size 25 #[.int .u8 4, .int .u8 o, .int .i64 d, .int .i64 a, .int .i64 b, .int .i64 ad, .int .i64 tt, .int .i64 wd, .int .i64 fr] ∧ Below w.heap.size w w4tt) := ⟨HS.out.1.below hb, HS.out.2.trans (hb.mono HS.out.2.size)⟩; clear hb; have z0 := row_at9 HS.out.1 0 _ rfl; have z1 := row_at9 HS.out.1 1 _ rfl; have z2 := row_at9 HS.out.1 2 _ rfl; have z3 := row_at9 HS.out.1 3 _ rfl; have z4 := row_at9 HS.out.1 4 _ rfl; have z5 := row_at9 HS.out.1 5 _ rfl; have z6 := row_at9 HS.out.1 6 _ rfl; have z7 := row_at9 HS.out.1 7 _ rfl; have z8 := row_at9 HS.out.1 8 _ rfl) | (go_at_call_of 54 (Value.int .i64 fr); refine (HNfr.out _).mono ?_; rintro e w4fr ⟨rfl, hb⟩; have HS : Hid (Own w4fr w.heap.size 25 #[.int .u8 4, .int .u8 o, .int .i64 d, .int .i64 a, .int .i64 b, .int .i64 ad, .int .i64 tt, .int .i64 wd, .int .i64 fr] ∧ Below w.heap.size w w4fr) := ⟨HS.out.1.below hb, HS.out.2.trans (hb.mono HS.out.2.size)⟩; clear hb; have z0 := row_at9 HS.out.1 0 _ rfl; have z1 := row_at9 HS.out.1 1 _ rfl; have z2 := row_at9 HS.out.1 2 _ rfl; have z3 := row_at9 HS.out.1 3 _ rfl; have z4 := row_at9 HS.out.1 4 _ rfl; have z5 := row_at9 HS.out.1 5 _ rfl; have z6 := row_at9 HS.out.1 6 _ rfl; have z7 := row_at9 HS.out.1 7 _ rfl; have z8 := row_at9 HS.out.1 8 _ rfl) | (go_at_call 55; refine (HNwd.out _).mono ?_; rintro e w5 ⟨rfl, hb⟩; have HS : Hid (Own w5 w.heap.size 25 #[.int .u8 4, .int .u8 o, .int .i64 d, .int .i64 a, .int .i64 b, .int .i64 ad, .int .i64 tt, .int .i64 wd, .int .i64 fr] ∧ Below w.heap.size w w5) := ⟨HS.out.1.below hb, HS.out.2.trans (hb.mono HS.out.2.size)⟩; clear hb; have z0 := row_at9 HS.out.1 0 _ rfl; have z1 := row_at9 HS.out.1 1 _ rfl; have z2 := row_at9 HS.out.1 2 _ rfl; have z3 := row_at9 HS.out.1 3 _ rfl; have z4 := row_at9 HS.out.1 4 _ rfl; have z5 := row_at9 HS.out.1 5 _ rfl; have z6 := row_at9 HS.out.1 6 _ rfl; have z7 := row_at9 HS.out.1 7 _ rfl; have z8 := row_at9 HS.out.1 8 _ rfl))
    go_ret
    refine ⟨congrArg (fun x => Ending.returned (.string x)) (bs_ext ?_), HS.out.2⟩
    have h := HTX.out
    show _ = (insT (⟨4, o, d, a, b, ad, tt, wd, fr⟩ : Ins))
    rw [h, HP6.out, HP5.out, HP4.out, HP3.out, HP2.out, HP1.out]
    simp [f0, ByteArray.data_append, itoaS, regT, numT]
set_option maxHeartbeats 8000000 in
theorem r_show5 (o d a b ad tt wd fr : Int) (hg : rgI (⟨5, o, d, a, b, ad, tt, wd, fr⟩ : Ins)) (hr : rightB (⟨5, o, d, a, b, ad, tt, wd, fr⟩ : Ins) 9223372036854775807 9223372036854775807 = true) (w : World) : Calls Tryz.prog 29 #[.agg #[.int .u8 5, .int .u8 o, .int .i64 d, .int .i64 a, .int .i64 b, .int .i64 ad, .int .i64 tt, .int .i64 wd, .int .i64 fr]] w fun e w' => e = .returned (.string ⟨(insT (⟨5, o, d, a, b, ad, tt, wd, fr⟩ : Ins)).toArray⟩) ∧ Below w.heap.size w w' := by
  have hfr := right_fr hr
  have hT : insT (⟨5, o, d, a, b, ad, tt, wd, fr⟩ : Ins) = [115, 119, 97, 112] ++ ((((((regT d) ++ ([])) ++ ([])) ++ (numT ad)) ++ ([])) ++ ([])) ++ (if fr = 0 then [] else [32, 64] ++ Lib.itoa fr) := by
    rw [ins_txt _ (show kB 5 = true by decide)]
    rfl
  have HRR : Hid (∀ X, Calls Tryz.prog 13 #[.agg #[.int .u8 5, .int .u8 o, .int .i64 d, .int .i64 a, .int .i64 b, .int .i64 ad, .int .i64 tt, .int .i64 wd, .int .i64 fr], .int .i64 9223372036854775807, .int .i64 9223372036854775807] X fun e w' => e = .returned (.bool true) ∧ Below X.heap.size X w') := fun X => by
    have h := rright_any (⟨5, o, d, a, b, ad, tt, wd, fr⟩ : Ins) hg 9223372036854775807 9223372036854775807 X
    rw [hr] at h
    exact h
  obtain ⟨_, ho, hd, ha, hb0, had, htt, hwd, hfr2⟩ := hg
  simp only at ho hd ha hb0 had htt hwd hfr2
  have HTX := Lib.hid hT
  have HNd : Hid (∀ X, Calls Tryz.prog 54 #[.int .i64 d] X fun e w' => e = .returned (.string (itoaS d)) ∧ Below X.heap.size X w') := fun X => r_nat d hd.1 hd.2 X
  have HNa : Hid (∀ X, Calls Tryz.prog 54 #[.int .i64 a] X fun e w' => e = .returned (.string (itoaS a)) ∧ Below X.heap.size X w') := fun X => r_nat a ha.1 ha.2 X
  have HNb : Hid (∀ X, Calls Tryz.prog 54 #[.int .i64 b] X fun e w' => e = .returned (.string (itoaS b)) ∧ Below X.heap.size X w') := fun X => r_nat b hb0.1 hb0.2 X
  have HNad : Hid (∀ X, Calls Tryz.prog 54 #[.int .i64 ad] X fun e w' => e = .returned (.string (itoaS ad)) ∧ Below X.heap.size X w') := fun X => r_nat ad had.1 had.2 X
  have HNtt : Hid (∀ X, Calls Tryz.prog 54 #[.int .i64 tt] X fun e w' => e = .returned (.string (itoaS tt)) ∧ Below X.heap.size X w') := fun X => r_nat tt htt.1 htt.2 X
  have HNfr : Hid (∀ X, Calls Tryz.prog 54 #[.int .i64 fr] X fun e w' => e = .returned (.string (itoaS fr)) ∧ Below X.heap.size X w') := fun X => r_nat fr hfr2.1 hfr2.2 X
  have HRNd := Lib.hid hd
  have HRNa := Lib.hid ha
  have HRNb := Lib.hid hb0
  have HRNad := Lib.hid had
  have HRNtt := Lib.hid htt
  have HRNfr := Lib.hid hfr2
  have HRNwd := Lib.hid hwd
  have HNwd : Hid (∀ X, Calls Tryz.prog 55 #[.int .i64 wd] X fun e w' => e = .returned (.string (itoaS wd)) ∧ Below X.heap.size X w') := fun X => rprint_any wd hwd.1 hwd.2 X
  have al : Below w.heap.size w (w.alloc (.cells #[.int .u8 5, .int .u8 o, .int .i64 d, .int .i64 a, .int .i64 b, .int .i64 ad, .int .i64 tt, .int .i64 wd, .int .i64 fr] 25)) := (Below.refl _ w).alloc (Nat.le_refl _) _
  have O0 := Own.new w 25 #[.int .u8 5, .int .u8 o, .int .i64 d, .int .i64 a, .int .i64 b, .int .i64 ad, .int .i64 tt, .int .i64 wd, .int .i64 fr]
  obtain ⟨W0, hW0⟩ : ∃ W, W = w.alloc (.cells #[.int .u8 5, .int .u8 o, .int .i64 d, .int .i64 a, .int .i64 b, .int .i64 ad, .int .i64 tt, .int .i64 wd, .int .i64 fr] 25) := ⟨_, rfl⟩
  rw [← hW0] at al O0
  have HW0 := Lib.hid hW0
  have HS0 : Hid (Own W0 w.heap.size 25 #[.int .u8 5, .int .u8 o, .int .i64 d, .int .i64 a, .int .i64 b, .int .i64 ad, .int .i64 tt, .int .i64 wd, .int .i64 fr] ∧ Below w.heap.size w W0) := ⟨O0, al⟩
  clear hT al hW0 ho hd ha hb0 had htt hwd hfr2 hr
  go_enter Tryz.func29, Tryz.ntmps29
  go_upto_region 1 with fail
  rw [← HW0.out]
  clear HW0
  go_upto_region 3 with (first | (refine ld rowI rfl rfl rfl O0 rfl ?_) | (go_at_call 13; refine (HRR.out _).mono ?_; rintro e w1 ⟨rfl, hb⟩; have HS : Hid (Own w1 w.heap.size 25 #[.int .u8 5, .int .u8 o, .int .i64 d, .int .i64 a, .int .i64 b, .int .i64 ad, .int .i64 tt, .int .i64 wd, .int .i64 fr] ∧ Below w.heap.size w w1) := ⟨HS0.out.1.below hb, HS0.out.2.trans (hb.mono HS0.out.2.size)⟩; clear hb O0))
  clear HS0 HRR
  rename_i w1
  by_cases f0 : fr = 0
  · have f1 : ¬ 0 < fr := by omega
    have s0 : (⟨#[115, 119, 97, 112]⟩ : ByteArray).size ≤ 10 := by show 4 ≤ 10; omega
    obtain ⟨p1, hp1⟩ : ∃ p, p = (⟨#[115, 119, 97, 112]⟩ : ByteArray) ++ (⟨#[32, 114]⟩ : ByteArray) := ⟨_, rfl⟩
    have t1 : (⟨#[32, 114]⟩ : ByteArray).size = 2 := rfl
    have s1 : p1.size ≤ 12 := by rw [hp1, ByteArray.size_append]; omega
    have q1 : ∀ V, (Op.stringOp .add (⟨#[115, 119, 97, 112]⟩ : ByteArray) (⟨#[32, 114]⟩ : ByteArray)).run Tryz.prog V = .ok (.string p1) V := fun V => by rw [hp1]; exact run_string_add_sum V _ _ (by omega)
    have HP1 := Lib.hid hp1
    clear hp1 t1 s0
    obtain ⟨p2, hp2⟩ : ∃ p, p = p1 ++ (itoaS d) := ⟨_, rfl⟩
    have t2 : (itoaS d).size ≤ 100 := itoaS_size d HRNd.out.1 HRNd.out.2
    have s2 : p2.size ≤ 112 := by rw [hp2, ByteArray.size_append]; omega
    have q2 : ∀ V, (Op.stringOp .add p1 (itoaS d)).run Tryz.prog V = .ok (.string p2) V := fun V => by rw [hp2]; exact run_string_add_sum V _ _ (by omega)
    have HP2 := Lib.hid hp2
    clear hp2 t2 s1
    obtain ⟨p3, hp3⟩ : ∃ p, p = p2 ++ (⟨#[32]⟩ : ByteArray) := ⟨_, rfl⟩
    have t3 : (⟨#[32]⟩ : ByteArray).size = 1 := rfl
    have s3 : p3.size ≤ 113 := by rw [hp3, ByteArray.size_append]; omega
    have q3 : ∀ V, (Op.stringOp .add p2 (⟨#[32]⟩ : ByteArray)).run Tryz.prog V = .ok (.string p3) V := fun V => by rw [hp3]; exact run_string_add_sum V _ _ (by omega)
    have HP3 := Lib.hid hp3
    clear hp3 t3 s2
    obtain ⟨p4, hp4⟩ : ∃ p, p = p3 ++ (itoaS ad) := ⟨_, rfl⟩
    have t4 : (itoaS ad).size ≤ 100 := itoaS_size ad HRNad.out.1 HRNad.out.2
    have s4 : p4.size ≤ 213 := by rw [hp4, ByteArray.size_append]; omega
    have q4 : ∀ V, (Op.stringOp .add p3 (itoaS ad)).run Tryz.prog V = .ok (.string p4) V := fun V => by rw [hp4]; exact run_string_add_sum V _ _ (by omega)
    have HP4 := Lib.hid hp4
    clear hp4 t4 s3
    clear s4
    have z0 := row_at9 HS.out.1 0 _ rfl
    have z1 := row_at9 HS.out.1 1 _ rfl
    have z2 := row_at9 HS.out.1 2 _ rfl
    have z3 := row_at9 HS.out.1 3 _ rfl
    have z4 := row_at9 HS.out.1 4 _ rfl
    have z5 := row_at9 HS.out.1 5 _ rfl
    have z6 := row_at9 HS.out.1 6 _ rfl
    have z7 := row_at9 HS.out.1 7 _ rfl
    have z8 := row_at9 HS.out.1 8 _ rfl
    go_wp2_with (first | (go_at_call 52; refine (r_kwd5 _).mono ?_; rintro e w2 ⟨rfl, hb⟩; have HS : Hid (Own w2 w.heap.size 25 #[.int .u8 5, .int .u8 o, .int .i64 d, .int .i64 a, .int .i64 b, .int .i64 ad, .int .i64 tt, .int .i64 wd, .int .i64 fr] ∧ Below w.heap.size w w2) := ⟨HS.out.1.below hb, HS.out.2.trans (hb.mono HS.out.2.size)⟩; clear hb; have z0 := row_at9 HS.out.1 0 _ rfl; have z1 := row_at9 HS.out.1 1 _ rfl; have z2 := row_at9 HS.out.1 2 _ rfl; have z3 := row_at9 HS.out.1 3 _ rfl; have z4 := row_at9 HS.out.1 4 _ rfl; have z5 := row_at9 HS.out.1 5 _ rfl; have z6 := row_at9 HS.out.1 6 _ rfl; have z7 := row_at9 HS.out.1 7 _ rfl; have z8 := row_at9 HS.out.1 8 _ rfl) | (go_at_call 45; refine (r_uses5 _).mono ?_; rintro e w' ⟨rfl, rfl⟩) | (go_at_call_of 54 (Value.int .i64 d); refine (HNd.out _).mono ?_; rintro e w4d ⟨rfl, hb⟩; have HS : Hid (Own w4d w.heap.size 25 #[.int .u8 5, .int .u8 o, .int .i64 d, .int .i64 a, .int .i64 b, .int .i64 ad, .int .i64 tt, .int .i64 wd, .int .i64 fr] ∧ Below w.heap.size w w4d) := ⟨HS.out.1.below hb, HS.out.2.trans (hb.mono HS.out.2.size)⟩; clear hb; have z0 := row_at9 HS.out.1 0 _ rfl; have z1 := row_at9 HS.out.1 1 _ rfl; have z2 := row_at9 HS.out.1 2 _ rfl; have z3 := row_at9 HS.out.1 3 _ rfl; have z4 := row_at9 HS.out.1 4 _ rfl; have z5 := row_at9 HS.out.1 5 _ rfl; have z6 := row_at9 HS.out.1 6 _ rfl; have z7 := row_at9 HS.out.1 7 _ rfl; have z8 := row_at9 HS.out.1 8 _ rfl) | (go_at_call_of 54 (Value.int .i64 a); refine (HNa.out _).mono ?_; rintro e w4a ⟨rfl, hb⟩; have HS : Hid (Own w4a w.heap.size 25 #[.int .u8 5, .int .u8 o, .int .i64 d, .int .i64 a, .int .i64 b, .int .i64 ad, .int .i64 tt, .int .i64 wd, .int .i64 fr] ∧ Below w.heap.size w w4a) := ⟨HS.out.1.below hb, HS.out.2.trans (hb.mono HS.out.2.size)⟩; clear hb; have z0 := row_at9 HS.out.1 0 _ rfl; have z1 := row_at9 HS.out.1 1 _ rfl; have z2 := row_at9 HS.out.1 2 _ rfl; have z3 := row_at9 HS.out.1 3 _ rfl; have z4 := row_at9 HS.out.1 4 _ rfl; have z5 := row_at9 HS.out.1 5 _ rfl; have z6 := row_at9 HS.out.1 6 _ rfl; have z7 := row_at9 HS.out.1 7 _ rfl; have z8 := row_at9 HS.out.1 8 _ rfl) | (go_at_call_of 54 (Value.int .i64 b); refine (HNb.out _).mono ?_; rintro e w4b ⟨rfl, hb⟩; have HS : Hid (Own w4b w.heap.size 25 #[.int .u8 5, .int .u8 o, .int .i64 d, .int .i64 a, .int .i64 b, .int .i64 ad, .int .i64 tt, .int .i64 wd, .int .i64 fr] ∧ Below w.heap.size w w4b) := ⟨HS.out.1.below hb, HS.out.2.trans (hb.mono HS.out.2.size)⟩; clear hb; have z0 := row_at9 HS.out.1 0 _ rfl; have z1 := row_at9 HS.out.1 1 _ rfl; have z2 := row_at9 HS.out.1 2 _ rfl; have z3 := row_at9 HS.out.1 3 _ rfl; have z4 := row_at9 HS.out.1 4 _ rfl; have z5 := row_at9 HS.out.1 5 _ rfl; have z6 := row_at9 HS.out.1 6 _ rfl; have z7 := row_at9 HS.out.1 7 _ rfl; have z8 := row_at9 HS.out.1 8 _ rfl) | (go_at_call_of 54 (Value.int .i64 ad); refine (HNad.out _).mono ?_; rintro e w4ad ⟨rfl, hb⟩; have HS : Hid (Own w4ad w.heap.size 25 #[.int .u8 5, .int .u8 o, .int .i64 d, .int .i64 a, .int .i64 b, .int .i64 ad, .int .i64 tt, .int .i64 wd, .int .i64 fr] ∧ Below w.heap.size w w4ad) := ⟨HS.out.1.below hb, HS.out.2.trans (hb.mono HS.out.2.size)⟩; clear hb; have z0 := row_at9 HS.out.1 0 _ rfl; have z1 := row_at9 HS.out.1 1 _ rfl; have z2 := row_at9 HS.out.1 2 _ rfl; have z3 := row_at9 HS.out.1 3 _ rfl; have z4 := row_at9 HS.out.1 4 _ rfl; have z5 := row_at9 HS.out.1 5 _ rfl; have z6 := row_at9 HS.out.1 6 _ rfl; have z7 := row_at9 HS.out.1 7 _ rfl; have z8 := row_at9 HS.out.1 8 _ rfl) | (go_at_call_of 54 (Value.int .i64 tt); refine (HNtt.out _).mono ?_; rintro e w4tt ⟨rfl, hb⟩; have HS : Hid (Own w4tt w.heap.size 25 #[.int .u8 5, .int .u8 o, .int .i64 d, .int .i64 a, .int .i64 b, .int .i64 ad, .int .i64 tt, .int .i64 wd, .int .i64 fr] ∧ Below w.heap.size w w4tt) := ⟨HS.out.1.below hb, HS.out.2.trans (hb.mono HS.out.2.size)⟩; clear hb; have z0 := row_at9 HS.out.1 0 _ rfl; have z1 := row_at9 HS.out.1 1 _ rfl; have z2 := row_at9 HS.out.1 2 _ rfl; have z3 := row_at9 HS.out.1 3 _ rfl; have z4 := row_at9 HS.out.1 4 _ rfl; have z5 := row_at9 HS.out.1 5 _ rfl; have z6 := row_at9 HS.out.1 6 _ rfl; have z7 := row_at9 HS.out.1 7 _ rfl; have z8 := row_at9 HS.out.1 8 _ rfl) | (go_at_call_of 54 (Value.int .i64 fr); refine (HNfr.out _).mono ?_; rintro e w4fr ⟨rfl, hb⟩; have HS : Hid (Own w4fr w.heap.size 25 #[.int .u8 5, .int .u8 o, .int .i64 d, .int .i64 a, .int .i64 b, .int .i64 ad, .int .i64 tt, .int .i64 wd, .int .i64 fr] ∧ Below w.heap.size w w4fr) := ⟨HS.out.1.below hb, HS.out.2.trans (hb.mono HS.out.2.size)⟩; clear hb; have z0 := row_at9 HS.out.1 0 _ rfl; have z1 := row_at9 HS.out.1 1 _ rfl; have z2 := row_at9 HS.out.1 2 _ rfl; have z3 := row_at9 HS.out.1 3 _ rfl; have z4 := row_at9 HS.out.1 4 _ rfl; have z5 := row_at9 HS.out.1 5 _ rfl; have z6 := row_at9 HS.out.1 6 _ rfl; have z7 := row_at9 HS.out.1 7 _ rfl; have z8 := row_at9 HS.out.1 8 _ rfl) | (go_at_call 55; refine (HNwd.out _).mono ?_; rintro e w5 ⟨rfl, hb⟩; have HS : Hid (Own w5 w.heap.size 25 #[.int .u8 5, .int .u8 o, .int .i64 d, .int .i64 a, .int .i64 b, .int .i64 ad, .int .i64 tt, .int .i64 wd, .int .i64 fr] ∧ Below w.heap.size w w5) := ⟨HS.out.1.below hb, HS.out.2.trans (hb.mono HS.out.2.size)⟩; clear hb; have z0 := row_at9 HS.out.1 0 _ rfl; have z1 := row_at9 HS.out.1 1 _ rfl; have z2 := row_at9 HS.out.1 2 _ rfl; have z3 := row_at9 HS.out.1 3 _ rfl; have z4 := row_at9 HS.out.1 4 _ rfl; have z5 := row_at9 HS.out.1 5 _ rfl; have z6 := row_at9 HS.out.1 6 _ rfl; have z7 := row_at9 HS.out.1 7 _ rfl; have z8 := row_at9 HS.out.1 8 _ rfl))
    go_ret
    refine ⟨congrArg (fun x => Ending.returned (.string x)) (bs_ext ?_), HS.out.2⟩
    have h := HTX.out
    show _ = (insT (⟨5, o, d, a, b, ad, tt, wd, fr⟩ : Ins))
    rw [h, HP4.out, HP3.out, HP2.out, HP1.out]
    simp [f0, ByteArray.data_append, itoaS, regT, numT]
  · have f1 : 0 < fr := by omega
    have s0 : (⟨#[115, 119, 97, 112]⟩ : ByteArray).size ≤ 10 := by show 4 ≤ 10; omega
    obtain ⟨p1, hp1⟩ : ∃ p, p = (⟨#[115, 119, 97, 112]⟩ : ByteArray) ++ (⟨#[32, 114]⟩ : ByteArray) := ⟨_, rfl⟩
    have t1 : (⟨#[32, 114]⟩ : ByteArray).size = 2 := rfl
    have s1 : p1.size ≤ 12 := by rw [hp1, ByteArray.size_append]; omega
    have q1 : ∀ V, (Op.stringOp .add (⟨#[115, 119, 97, 112]⟩ : ByteArray) (⟨#[32, 114]⟩ : ByteArray)).run Tryz.prog V = .ok (.string p1) V := fun V => by rw [hp1]; exact run_string_add_sum V _ _ (by omega)
    have HP1 := Lib.hid hp1
    clear hp1 t1 s0
    obtain ⟨p2, hp2⟩ : ∃ p, p = p1 ++ (itoaS d) := ⟨_, rfl⟩
    have t2 : (itoaS d).size ≤ 100 := itoaS_size d HRNd.out.1 HRNd.out.2
    have s2 : p2.size ≤ 112 := by rw [hp2, ByteArray.size_append]; omega
    have q2 : ∀ V, (Op.stringOp .add p1 (itoaS d)).run Tryz.prog V = .ok (.string p2) V := fun V => by rw [hp2]; exact run_string_add_sum V _ _ (by omega)
    have HP2 := Lib.hid hp2
    clear hp2 t2 s1
    obtain ⟨p3, hp3⟩ : ∃ p, p = p2 ++ (⟨#[32]⟩ : ByteArray) := ⟨_, rfl⟩
    have t3 : (⟨#[32]⟩ : ByteArray).size = 1 := rfl
    have s3 : p3.size ≤ 113 := by rw [hp3, ByteArray.size_append]; omega
    have q3 : ∀ V, (Op.stringOp .add p2 (⟨#[32]⟩ : ByteArray)).run Tryz.prog V = .ok (.string p3) V := fun V => by rw [hp3]; exact run_string_add_sum V _ _ (by omega)
    have HP3 := Lib.hid hp3
    clear hp3 t3 s2
    obtain ⟨p4, hp4⟩ : ∃ p, p = p3 ++ (itoaS ad) := ⟨_, rfl⟩
    have t4 : (itoaS ad).size ≤ 100 := itoaS_size ad HRNad.out.1 HRNad.out.2
    have s4 : p4.size ≤ 213 := by rw [hp4, ByteArray.size_append]; omega
    have q4 : ∀ V, (Op.stringOp .add p3 (itoaS ad)).run Tryz.prog V = .ok (.string p4) V := fun V => by rw [hp4]; exact run_string_add_sum V _ _ (by omega)
    have HP4 := Lib.hid hp4
    clear hp4 t4 s3
    obtain ⟨p5, hp5⟩ : ∃ p, p = p4 ++ (⟨#[32, 64]⟩ : ByteArray) := ⟨_, rfl⟩
    have t5 : (⟨#[32, 64]⟩ : ByteArray).size = 2 := rfl
    have s5 : p5.size ≤ 215 := by rw [hp5, ByteArray.size_append]; omega
    have q5 : ∀ V, (Op.stringOp .add p4 (⟨#[32, 64]⟩ : ByteArray)).run Tryz.prog V = .ok (.string p5) V := fun V => by rw [hp5]; exact run_string_add_sum V _ _ (by omega)
    have HP5 := Lib.hid hp5
    clear hp5 t5 s4
    obtain ⟨p6, hp6⟩ : ∃ p, p = p5 ++ (itoaS fr) := ⟨_, rfl⟩
    have t6 : (itoaS fr).size ≤ 100 := itoaS_size fr HRNfr.out.1 HRNfr.out.2
    have s6 : p6.size ≤ 315 := by rw [hp6, ByteArray.size_append]; omega
    have q6 : ∀ V, (Op.stringOp .add p5 (itoaS fr)).run Tryz.prog V = .ok (.string p6) V := fun V => by rw [hp6]; exact run_string_add_sum V _ _ (by omega)
    have HP6 := Lib.hid hp6
    clear hp6 t6 s5
    clear s6
    have z0 := row_at9 HS.out.1 0 _ rfl
    have z1 := row_at9 HS.out.1 1 _ rfl
    have z2 := row_at9 HS.out.1 2 _ rfl
    have z3 := row_at9 HS.out.1 3 _ rfl
    have z4 := row_at9 HS.out.1 4 _ rfl
    have z5 := row_at9 HS.out.1 5 _ rfl
    have z6 := row_at9 HS.out.1 6 _ rfl
    have z7 := row_at9 HS.out.1 7 _ rfl
    have z8 := row_at9 HS.out.1 8 _ rfl
    go_wp2_with (first | (go_at_call 52; refine (r_kwd5 _).mono ?_; rintro e w2 ⟨rfl, hb⟩; have HS : Hid (Own w2 w.heap.size 25 #[.int .u8 5, .int .u8 o, .int .i64 d, .int .i64 a, .int .i64 b, .int .i64 ad, .int .i64 tt, .int .i64 wd, .int .i64 fr] ∧ Below w.heap.size w w2) := ⟨HS.out.1.below hb, HS.out.2.trans (hb.mono HS.out.2.size)⟩; clear hb; have z0 := row_at9 HS.out.1 0 _ rfl; have z1 := row_at9 HS.out.1 1 _ rfl; have z2 := row_at9 HS.out.1 2 _ rfl; have z3 := row_at9 HS.out.1 3 _ rfl; have z4 := row_at9 HS.out.1 4 _ rfl; have z5 := row_at9 HS.out.1 5 _ rfl; have z6 := row_at9 HS.out.1 6 _ rfl; have z7 := row_at9 HS.out.1 7 _ rfl; have z8 := row_at9 HS.out.1 8 _ rfl) | (go_at_call 45; refine (r_uses5 _).mono ?_; rintro e w' ⟨rfl, rfl⟩) | (go_at_call_of 54 (Value.int .i64 d); refine (HNd.out _).mono ?_; rintro e w4d ⟨rfl, hb⟩; have HS : Hid (Own w4d w.heap.size 25 #[.int .u8 5, .int .u8 o, .int .i64 d, .int .i64 a, .int .i64 b, .int .i64 ad, .int .i64 tt, .int .i64 wd, .int .i64 fr] ∧ Below w.heap.size w w4d) := ⟨HS.out.1.below hb, HS.out.2.trans (hb.mono HS.out.2.size)⟩; clear hb; have z0 := row_at9 HS.out.1 0 _ rfl; have z1 := row_at9 HS.out.1 1 _ rfl; have z2 := row_at9 HS.out.1 2 _ rfl; have z3 := row_at9 HS.out.1 3 _ rfl; have z4 := row_at9 HS.out.1 4 _ rfl; have z5 := row_at9 HS.out.1 5 _ rfl; have z6 := row_at9 HS.out.1 6 _ rfl; have z7 := row_at9 HS.out.1 7 _ rfl; have z8 := row_at9 HS.out.1 8 _ rfl) | (go_at_call_of 54 (Value.int .i64 a); refine (HNa.out _).mono ?_; rintro e w4a ⟨rfl, hb⟩; have HS : Hid (Own w4a w.heap.size 25 #[.int .u8 5, .int .u8 o, .int .i64 d, .int .i64 a, .int .i64 b, .int .i64 ad, .int .i64 tt, .int .i64 wd, .int .i64 fr] ∧ Below w.heap.size w w4a) := ⟨HS.out.1.below hb, HS.out.2.trans (hb.mono HS.out.2.size)⟩; clear hb; have z0 := row_at9 HS.out.1 0 _ rfl; have z1 := row_at9 HS.out.1 1 _ rfl; have z2 := row_at9 HS.out.1 2 _ rfl; have z3 := row_at9 HS.out.1 3 _ rfl; have z4 := row_at9 HS.out.1 4 _ rfl; have z5 := row_at9 HS.out.1 5 _ rfl; have z6 := row_at9 HS.out.1 6 _ rfl; have z7 := row_at9 HS.out.1 7 _ rfl; have z8 := row_at9 HS.out.1 8 _ rfl) | (go_at_call_of 54 (Value.int .i64 b); refine (HNb.out _).mono ?_; rintro e w4b ⟨rfl, hb⟩; have HS : Hid (Own w4b w.heap.size 25 #[.int .u8 5, .int .u8 o, .int .i64 d, .int .i64 a, .int .i64 b, .int .i64 ad, .int .i64 tt, .int .i64 wd, .int .i64 fr] ∧ Below w.heap.size w w4b) := ⟨HS.out.1.below hb, HS.out.2.trans (hb.mono HS.out.2.size)⟩; clear hb; have z0 := row_at9 HS.out.1 0 _ rfl; have z1 := row_at9 HS.out.1 1 _ rfl; have z2 := row_at9 HS.out.1 2 _ rfl; have z3 := row_at9 HS.out.1 3 _ rfl; have z4 := row_at9 HS.out.1 4 _ rfl; have z5 := row_at9 HS.out.1 5 _ rfl; have z6 := row_at9 HS.out.1 6 _ rfl; have z7 := row_at9 HS.out.1 7 _ rfl; have z8 := row_at9 HS.out.1 8 _ rfl) | (go_at_call_of 54 (Value.int .i64 ad); refine (HNad.out _).mono ?_; rintro e w4ad ⟨rfl, hb⟩; have HS : Hid (Own w4ad w.heap.size 25 #[.int .u8 5, .int .u8 o, .int .i64 d, .int .i64 a, .int .i64 b, .int .i64 ad, .int .i64 tt, .int .i64 wd, .int .i64 fr] ∧ Below w.heap.size w w4ad) := ⟨HS.out.1.below hb, HS.out.2.trans (hb.mono HS.out.2.size)⟩; clear hb; have z0 := row_at9 HS.out.1 0 _ rfl; have z1 := row_at9 HS.out.1 1 _ rfl; have z2 := row_at9 HS.out.1 2 _ rfl; have z3 := row_at9 HS.out.1 3 _ rfl; have z4 := row_at9 HS.out.1 4 _ rfl; have z5 := row_at9 HS.out.1 5 _ rfl; have z6 := row_at9 HS.out.1 6 _ rfl; have z7 := row_at9 HS.out.1 7 _ rfl; have z8 := row_at9 HS.out.1 8 _ rfl) | (go_at_call_of 54 (Value.int .i64 tt); refine (HNtt.out _).mono ?_; rintro e w4tt ⟨rfl, hb⟩; have HS : Hid (Own w4tt w.heap.size 25 #[.int .u8 5, .int .u8 o, .int .i64 d, .int .i64 a, .int .i64 b, .int .i64 ad, .int .i64 tt, .int .i64 wd, .int .i64 fr] ∧ Below w.heap.size w w4tt) := ⟨HS.out.1.below hb, HS.out.2.trans (hb.mono HS.out.2.size)⟩; clear hb; have z0 := row_at9 HS.out.1 0 _ rfl; have z1 := row_at9 HS.out.1 1 _ rfl; have z2 := row_at9 HS.out.1 2 _ rfl; have z3 := row_at9 HS.out.1 3 _ rfl; have z4 := row_at9 HS.out.1 4 _ rfl; have z5 := row_at9 HS.out.1 5 _ rfl; have z6 := row_at9 HS.out.1 6 _ rfl; have z7 := row_at9 HS.out.1 7 _ rfl; have z8 := row_at9 HS.out.1 8 _ rfl) | (go_at_call_of 54 (Value.int .i64 fr); refine (HNfr.out _).mono ?_; rintro e w4fr ⟨rfl, hb⟩; have HS : Hid (Own w4fr w.heap.size 25 #[.int .u8 5, .int .u8 o, .int .i64 d, .int .i64 a, .int .i64 b, .int .i64 ad, .int .i64 tt, .int .i64 wd, .int .i64 fr] ∧ Below w.heap.size w w4fr) := ⟨HS.out.1.below hb, HS.out.2.trans (hb.mono HS.out.2.size)⟩; clear hb; have z0 := row_at9 HS.out.1 0 _ rfl; have z1 := row_at9 HS.out.1 1 _ rfl; have z2 := row_at9 HS.out.1 2 _ rfl; have z3 := row_at9 HS.out.1 3 _ rfl; have z4 := row_at9 HS.out.1 4 _ rfl; have z5 := row_at9 HS.out.1 5 _ rfl; have z6 := row_at9 HS.out.1 6 _ rfl; have z7 := row_at9 HS.out.1 7 _ rfl; have z8 := row_at9 HS.out.1 8 _ rfl) | (go_at_call 55; refine (HNwd.out _).mono ?_; rintro e w5 ⟨rfl, hb⟩; have HS : Hid (Own w5 w.heap.size 25 #[.int .u8 5, .int .u8 o, .int .i64 d, .int .i64 a, .int .i64 b, .int .i64 ad, .int .i64 tt, .int .i64 wd, .int .i64 fr] ∧ Below w.heap.size w w5) := ⟨HS.out.1.below hb, HS.out.2.trans (hb.mono HS.out.2.size)⟩; clear hb; have z0 := row_at9 HS.out.1 0 _ rfl; have z1 := row_at9 HS.out.1 1 _ rfl; have z2 := row_at9 HS.out.1 2 _ rfl; have z3 := row_at9 HS.out.1 3 _ rfl; have z4 := row_at9 HS.out.1 4 _ rfl; have z5 := row_at9 HS.out.1 5 _ rfl; have z6 := row_at9 HS.out.1 6 _ rfl; have z7 := row_at9 HS.out.1 7 _ rfl; have z8 := row_at9 HS.out.1 8 _ rfl))
    go_ret
    refine ⟨congrArg (fun x => Ending.returned (.string x)) (bs_ext ?_), HS.out.2⟩
    have h := HTX.out
    show _ = (insT (⟨5, o, d, a, b, ad, tt, wd, fr⟩ : Ins))
    rw [h, HP6.out, HP5.out, HP4.out, HP3.out, HP2.out, HP1.out]
    simp [f0, ByteArray.data_append, itoaS, regT, numT]
set_option maxHeartbeats 8000000 in
theorem r_show6 (o d a b ad tt wd fr : Int) (hg : rgI (⟨6, o, d, a, b, ad, tt, wd, fr⟩ : Ins)) (hr : rightB (⟨6, o, d, a, b, ad, tt, wd, fr⟩ : Ins) 9223372036854775807 9223372036854775807 = true) (w : World) : Calls Tryz.prog 29 #[.agg #[.int .u8 6, .int .u8 o, .int .i64 d, .int .i64 a, .int .i64 b, .int .i64 ad, .int .i64 tt, .int .i64 wd, .int .i64 fr]] w fun e w' => e = .returned (.string ⟨(insT (⟨6, o, d, a, b, ad, tt, wd, fr⟩ : Ins)).toArray⟩) ∧ Below w.heap.size w w' := by
  have hfr := right_fr hr
  have hT : insT (⟨6, o, d, a, b, ad, tt, wd, fr⟩ : Ins) = [102, 101, 110, 99, 101] ++ (((((([]) ++ ([])) ++ ([])) ++ ([])) ++ ([])) ++ ([])) ++ (if fr = 0 then [] else [32, 64] ++ Lib.itoa fr) := by
    rw [ins_txt _ (show kB 6 = true by decide)]
    rfl
  have HRR : Hid (∀ X, Calls Tryz.prog 13 #[.agg #[.int .u8 6, .int .u8 o, .int .i64 d, .int .i64 a, .int .i64 b, .int .i64 ad, .int .i64 tt, .int .i64 wd, .int .i64 fr], .int .i64 9223372036854775807, .int .i64 9223372036854775807] X fun e w' => e = .returned (.bool true) ∧ Below X.heap.size X w') := fun X => by
    have h := rright_any (⟨6, o, d, a, b, ad, tt, wd, fr⟩ : Ins) hg 9223372036854775807 9223372036854775807 X
    rw [hr] at h
    exact h
  obtain ⟨_, ho, hd, ha, hb0, had, htt, hwd, hfr2⟩ := hg
  simp only at ho hd ha hb0 had htt hwd hfr2
  have HTX := Lib.hid hT
  have HNd : Hid (∀ X, Calls Tryz.prog 54 #[.int .i64 d] X fun e w' => e = .returned (.string (itoaS d)) ∧ Below X.heap.size X w') := fun X => r_nat d hd.1 hd.2 X
  have HNa : Hid (∀ X, Calls Tryz.prog 54 #[.int .i64 a] X fun e w' => e = .returned (.string (itoaS a)) ∧ Below X.heap.size X w') := fun X => r_nat a ha.1 ha.2 X
  have HNb : Hid (∀ X, Calls Tryz.prog 54 #[.int .i64 b] X fun e w' => e = .returned (.string (itoaS b)) ∧ Below X.heap.size X w') := fun X => r_nat b hb0.1 hb0.2 X
  have HNad : Hid (∀ X, Calls Tryz.prog 54 #[.int .i64 ad] X fun e w' => e = .returned (.string (itoaS ad)) ∧ Below X.heap.size X w') := fun X => r_nat ad had.1 had.2 X
  have HNtt : Hid (∀ X, Calls Tryz.prog 54 #[.int .i64 tt] X fun e w' => e = .returned (.string (itoaS tt)) ∧ Below X.heap.size X w') := fun X => r_nat tt htt.1 htt.2 X
  have HNfr : Hid (∀ X, Calls Tryz.prog 54 #[.int .i64 fr] X fun e w' => e = .returned (.string (itoaS fr)) ∧ Below X.heap.size X w') := fun X => r_nat fr hfr2.1 hfr2.2 X
  have HRNd := Lib.hid hd
  have HRNa := Lib.hid ha
  have HRNb := Lib.hid hb0
  have HRNad := Lib.hid had
  have HRNtt := Lib.hid htt
  have HRNfr := Lib.hid hfr2
  have HRNwd := Lib.hid hwd
  have HNwd : Hid (∀ X, Calls Tryz.prog 55 #[.int .i64 wd] X fun e w' => e = .returned (.string (itoaS wd)) ∧ Below X.heap.size X w') := fun X => rprint_any wd hwd.1 hwd.2 X
  have al : Below w.heap.size w (w.alloc (.cells #[.int .u8 6, .int .u8 o, .int .i64 d, .int .i64 a, .int .i64 b, .int .i64 ad, .int .i64 tt, .int .i64 wd, .int .i64 fr] 25)) := (Below.refl _ w).alloc (Nat.le_refl _) _
  have O0 := Own.new w 25 #[.int .u8 6, .int .u8 o, .int .i64 d, .int .i64 a, .int .i64 b, .int .i64 ad, .int .i64 tt, .int .i64 wd, .int .i64 fr]
  obtain ⟨W0, hW0⟩ : ∃ W, W = w.alloc (.cells #[.int .u8 6, .int .u8 o, .int .i64 d, .int .i64 a, .int .i64 b, .int .i64 ad, .int .i64 tt, .int .i64 wd, .int .i64 fr] 25) := ⟨_, rfl⟩
  rw [← hW0] at al O0
  have HW0 := Lib.hid hW0
  have HS0 : Hid (Own W0 w.heap.size 25 #[.int .u8 6, .int .u8 o, .int .i64 d, .int .i64 a, .int .i64 b, .int .i64 ad, .int .i64 tt, .int .i64 wd, .int .i64 fr] ∧ Below w.heap.size w W0) := ⟨O0, al⟩
  clear hT al hW0 ho hd ha hb0 had htt hwd hfr2 hr
  go_enter Tryz.func29, Tryz.ntmps29
  go_upto_region 1 with fail
  rw [← HW0.out]
  clear HW0
  go_upto_region 3 with (first | (refine ld rowI rfl rfl rfl O0 rfl ?_) | (go_at_call 13; refine (HRR.out _).mono ?_; rintro e w1 ⟨rfl, hb⟩; have HS : Hid (Own w1 w.heap.size 25 #[.int .u8 6, .int .u8 o, .int .i64 d, .int .i64 a, .int .i64 b, .int .i64 ad, .int .i64 tt, .int .i64 wd, .int .i64 fr] ∧ Below w.heap.size w w1) := ⟨HS0.out.1.below hb, HS0.out.2.trans (hb.mono HS0.out.2.size)⟩; clear hb O0))
  clear HS0 HRR
  rename_i w1
  by_cases f0 : fr = 0
  · have f1 : ¬ 0 < fr := by omega
    have s0 : (⟨#[102, 101, 110, 99, 101]⟩ : ByteArray).size ≤ 10 := by show 5 ≤ 10; omega
    clear s0
    have z0 := row_at9 HS.out.1 0 _ rfl
    have z1 := row_at9 HS.out.1 1 _ rfl
    have z2 := row_at9 HS.out.1 2 _ rfl
    have z3 := row_at9 HS.out.1 3 _ rfl
    have z4 := row_at9 HS.out.1 4 _ rfl
    have z5 := row_at9 HS.out.1 5 _ rfl
    have z6 := row_at9 HS.out.1 6 _ rfl
    have z7 := row_at9 HS.out.1 7 _ rfl
    have z8 := row_at9 HS.out.1 8 _ rfl
    go_wp2_with (first | (go_at_call 52; refine (r_kwd6 _).mono ?_; rintro e w2 ⟨rfl, hb⟩; have HS : Hid (Own w2 w.heap.size 25 #[.int .u8 6, .int .u8 o, .int .i64 d, .int .i64 a, .int .i64 b, .int .i64 ad, .int .i64 tt, .int .i64 wd, .int .i64 fr] ∧ Below w.heap.size w w2) := ⟨HS.out.1.below hb, HS.out.2.trans (hb.mono HS.out.2.size)⟩; clear hb; have z0 := row_at9 HS.out.1 0 _ rfl; have z1 := row_at9 HS.out.1 1 _ rfl; have z2 := row_at9 HS.out.1 2 _ rfl; have z3 := row_at9 HS.out.1 3 _ rfl; have z4 := row_at9 HS.out.1 4 _ rfl; have z5 := row_at9 HS.out.1 5 _ rfl; have z6 := row_at9 HS.out.1 6 _ rfl; have z7 := row_at9 HS.out.1 7 _ rfl; have z8 := row_at9 HS.out.1 8 _ rfl) | (go_at_call 45; refine (r_uses6 _).mono ?_; rintro e w' ⟨rfl, rfl⟩) | (go_at_call_of 54 (Value.int .i64 d); refine (HNd.out _).mono ?_; rintro e w4d ⟨rfl, hb⟩; have HS : Hid (Own w4d w.heap.size 25 #[.int .u8 6, .int .u8 o, .int .i64 d, .int .i64 a, .int .i64 b, .int .i64 ad, .int .i64 tt, .int .i64 wd, .int .i64 fr] ∧ Below w.heap.size w w4d) := ⟨HS.out.1.below hb, HS.out.2.trans (hb.mono HS.out.2.size)⟩; clear hb; have z0 := row_at9 HS.out.1 0 _ rfl; have z1 := row_at9 HS.out.1 1 _ rfl; have z2 := row_at9 HS.out.1 2 _ rfl; have z3 := row_at9 HS.out.1 3 _ rfl; have z4 := row_at9 HS.out.1 4 _ rfl; have z5 := row_at9 HS.out.1 5 _ rfl; have z6 := row_at9 HS.out.1 6 _ rfl; have z7 := row_at9 HS.out.1 7 _ rfl; have z8 := row_at9 HS.out.1 8 _ rfl) | (go_at_call_of 54 (Value.int .i64 a); refine (HNa.out _).mono ?_; rintro e w4a ⟨rfl, hb⟩; have HS : Hid (Own w4a w.heap.size 25 #[.int .u8 6, .int .u8 o, .int .i64 d, .int .i64 a, .int .i64 b, .int .i64 ad, .int .i64 tt, .int .i64 wd, .int .i64 fr] ∧ Below w.heap.size w w4a) := ⟨HS.out.1.below hb, HS.out.2.trans (hb.mono HS.out.2.size)⟩; clear hb; have z0 := row_at9 HS.out.1 0 _ rfl; have z1 := row_at9 HS.out.1 1 _ rfl; have z2 := row_at9 HS.out.1 2 _ rfl; have z3 := row_at9 HS.out.1 3 _ rfl; have z4 := row_at9 HS.out.1 4 _ rfl; have z5 := row_at9 HS.out.1 5 _ rfl; have z6 := row_at9 HS.out.1 6 _ rfl; have z7 := row_at9 HS.out.1 7 _ rfl; have z8 := row_at9 HS.out.1 8 _ rfl) | (go_at_call_of 54 (Value.int .i64 b); refine (HNb.out _).mono ?_; rintro e w4b ⟨rfl, hb⟩; have HS : Hid (Own w4b w.heap.size 25 #[.int .u8 6, .int .u8 o, .int .i64 d, .int .i64 a, .int .i64 b, .int .i64 ad, .int .i64 tt, .int .i64 wd, .int .i64 fr] ∧ Below w.heap.size w w4b) := ⟨HS.out.1.below hb, HS.out.2.trans (hb.mono HS.out.2.size)⟩; clear hb; have z0 := row_at9 HS.out.1 0 _ rfl; have z1 := row_at9 HS.out.1 1 _ rfl; have z2 := row_at9 HS.out.1 2 _ rfl; have z3 := row_at9 HS.out.1 3 _ rfl; have z4 := row_at9 HS.out.1 4 _ rfl; have z5 := row_at9 HS.out.1 5 _ rfl; have z6 := row_at9 HS.out.1 6 _ rfl; have z7 := row_at9 HS.out.1 7 _ rfl; have z8 := row_at9 HS.out.1 8 _ rfl) | (go_at_call_of 54 (Value.int .i64 ad); refine (HNad.out _).mono ?_; rintro e w4ad ⟨rfl, hb⟩; have HS : Hid (Own w4ad w.heap.size 25 #[.int .u8 6, .int .u8 o, .int .i64 d, .int .i64 a, .int .i64 b, .int .i64 ad, .int .i64 tt, .int .i64 wd, .int .i64 fr] ∧ Below w.heap.size w w4ad) := ⟨HS.out.1.below hb, HS.out.2.trans (hb.mono HS.out.2.size)⟩; clear hb; have z0 := row_at9 HS.out.1 0 _ rfl; have z1 := row_at9 HS.out.1 1 _ rfl; have z2 := row_at9 HS.out.1 2 _ rfl; have z3 := row_at9 HS.out.1 3 _ rfl; have z4 := row_at9 HS.out.1 4 _ rfl; have z5 := row_at9 HS.out.1 5 _ rfl; have z6 := row_at9 HS.out.1 6 _ rfl; have z7 := row_at9 HS.out.1 7 _ rfl; have z8 := row_at9 HS.out.1 8 _ rfl) | (go_at_call_of 54 (Value.int .i64 tt); refine (HNtt.out _).mono ?_; rintro e w4tt ⟨rfl, hb⟩; have HS : Hid (Own w4tt w.heap.size 25 #[.int .u8 6, .int .u8 o, .int .i64 d, .int .i64 a, .int .i64 b, .int .i64 ad, .int .i64 tt, .int .i64 wd, .int .i64 fr] ∧ Below w.heap.size w w4tt) := ⟨HS.out.1.below hb, HS.out.2.trans (hb.mono HS.out.2.size)⟩; clear hb; have z0 := row_at9 HS.out.1 0 _ rfl; have z1 := row_at9 HS.out.1 1 _ rfl; have z2 := row_at9 HS.out.1 2 _ rfl; have z3 := row_at9 HS.out.1 3 _ rfl; have z4 := row_at9 HS.out.1 4 _ rfl; have z5 := row_at9 HS.out.1 5 _ rfl; have z6 := row_at9 HS.out.1 6 _ rfl; have z7 := row_at9 HS.out.1 7 _ rfl; have z8 := row_at9 HS.out.1 8 _ rfl) | (go_at_call_of 54 (Value.int .i64 fr); refine (HNfr.out _).mono ?_; rintro e w4fr ⟨rfl, hb⟩; have HS : Hid (Own w4fr w.heap.size 25 #[.int .u8 6, .int .u8 o, .int .i64 d, .int .i64 a, .int .i64 b, .int .i64 ad, .int .i64 tt, .int .i64 wd, .int .i64 fr] ∧ Below w.heap.size w w4fr) := ⟨HS.out.1.below hb, HS.out.2.trans (hb.mono HS.out.2.size)⟩; clear hb; have z0 := row_at9 HS.out.1 0 _ rfl; have z1 := row_at9 HS.out.1 1 _ rfl; have z2 := row_at9 HS.out.1 2 _ rfl; have z3 := row_at9 HS.out.1 3 _ rfl; have z4 := row_at9 HS.out.1 4 _ rfl; have z5 := row_at9 HS.out.1 5 _ rfl; have z6 := row_at9 HS.out.1 6 _ rfl; have z7 := row_at9 HS.out.1 7 _ rfl; have z8 := row_at9 HS.out.1 8 _ rfl) | (go_at_call 55; refine (HNwd.out _).mono ?_; rintro e w5 ⟨rfl, hb⟩; have HS : Hid (Own w5 w.heap.size 25 #[.int .u8 6, .int .u8 o, .int .i64 d, .int .i64 a, .int .i64 b, .int .i64 ad, .int .i64 tt, .int .i64 wd, .int .i64 fr] ∧ Below w.heap.size w w5) := ⟨HS.out.1.below hb, HS.out.2.trans (hb.mono HS.out.2.size)⟩; clear hb; have z0 := row_at9 HS.out.1 0 _ rfl; have z1 := row_at9 HS.out.1 1 _ rfl; have z2 := row_at9 HS.out.1 2 _ rfl; have z3 := row_at9 HS.out.1 3 _ rfl; have z4 := row_at9 HS.out.1 4 _ rfl; have z5 := row_at9 HS.out.1 5 _ rfl; have z6 := row_at9 HS.out.1 6 _ rfl; have z7 := row_at9 HS.out.1 7 _ rfl; have z8 := row_at9 HS.out.1 8 _ rfl))
    go_ret
    refine ⟨congrArg (fun x => Ending.returned (.string x)) (bs_ext ?_), HS.out.2⟩
    have h := HTX.out
    show _ = (insT (⟨6, o, d, a, b, ad, tt, wd, fr⟩ : Ins))
    rw [h]
    simp [f0]
  · have f1 : 0 < fr := by omega
    have s0 : (⟨#[102, 101, 110, 99, 101]⟩ : ByteArray).size ≤ 10 := by show 5 ≤ 10; omega
    obtain ⟨p1, hp1⟩ : ∃ p, p = (⟨#[102, 101, 110, 99, 101]⟩ : ByteArray) ++ (⟨#[32, 64]⟩ : ByteArray) := ⟨_, rfl⟩
    have t1 : (⟨#[32, 64]⟩ : ByteArray).size = 2 := rfl
    have s1 : p1.size ≤ 12 := by rw [hp1, ByteArray.size_append]; omega
    have q1 : ∀ V, (Op.stringOp .add (⟨#[102, 101, 110, 99, 101]⟩ : ByteArray) (⟨#[32, 64]⟩ : ByteArray)).run Tryz.prog V = .ok (.string p1) V := fun V => by rw [hp1]; exact run_string_add_sum V _ _ (by omega)
    have HP1 := Lib.hid hp1
    clear hp1 t1 s0
    obtain ⟨p2, hp2⟩ : ∃ p, p = p1 ++ (itoaS fr) := ⟨_, rfl⟩
    have t2 : (itoaS fr).size ≤ 100 := itoaS_size fr HRNfr.out.1 HRNfr.out.2
    have s2 : p2.size ≤ 112 := by rw [hp2, ByteArray.size_append]; omega
    have q2 : ∀ V, (Op.stringOp .add p1 (itoaS fr)).run Tryz.prog V = .ok (.string p2) V := fun V => by rw [hp2]; exact run_string_add_sum V _ _ (by omega)
    have HP2 := Lib.hid hp2
    clear hp2 t2 s1
    clear s2
    have z0 := row_at9 HS.out.1 0 _ rfl
    have z1 := row_at9 HS.out.1 1 _ rfl
    have z2 := row_at9 HS.out.1 2 _ rfl
    have z3 := row_at9 HS.out.1 3 _ rfl
    have z4 := row_at9 HS.out.1 4 _ rfl
    have z5 := row_at9 HS.out.1 5 _ rfl
    have z6 := row_at9 HS.out.1 6 _ rfl
    have z7 := row_at9 HS.out.1 7 _ rfl
    have z8 := row_at9 HS.out.1 8 _ rfl
    go_wp2_with (first | (go_at_call 52; refine (r_kwd6 _).mono ?_; rintro e w2 ⟨rfl, hb⟩; have HS : Hid (Own w2 w.heap.size 25 #[.int .u8 6, .int .u8 o, .int .i64 d, .int .i64 a, .int .i64 b, .int .i64 ad, .int .i64 tt, .int .i64 wd, .int .i64 fr] ∧ Below w.heap.size w w2) := ⟨HS.out.1.below hb, HS.out.2.trans (hb.mono HS.out.2.size)⟩; clear hb; have z0 := row_at9 HS.out.1 0 _ rfl; have z1 := row_at9 HS.out.1 1 _ rfl; have z2 := row_at9 HS.out.1 2 _ rfl; have z3 := row_at9 HS.out.1 3 _ rfl; have z4 := row_at9 HS.out.1 4 _ rfl; have z5 := row_at9 HS.out.1 5 _ rfl; have z6 := row_at9 HS.out.1 6 _ rfl; have z7 := row_at9 HS.out.1 7 _ rfl; have z8 := row_at9 HS.out.1 8 _ rfl) | (go_at_call 45; refine (r_uses6 _).mono ?_; rintro e w' ⟨rfl, rfl⟩) | (go_at_call_of 54 (Value.int .i64 d); refine (HNd.out _).mono ?_; rintro e w4d ⟨rfl, hb⟩; have HS : Hid (Own w4d w.heap.size 25 #[.int .u8 6, .int .u8 o, .int .i64 d, .int .i64 a, .int .i64 b, .int .i64 ad, .int .i64 tt, .int .i64 wd, .int .i64 fr] ∧ Below w.heap.size w w4d) := ⟨HS.out.1.below hb, HS.out.2.trans (hb.mono HS.out.2.size)⟩; clear hb; have z0 := row_at9 HS.out.1 0 _ rfl; have z1 := row_at9 HS.out.1 1 _ rfl; have z2 := row_at9 HS.out.1 2 _ rfl; have z3 := row_at9 HS.out.1 3 _ rfl; have z4 := row_at9 HS.out.1 4 _ rfl; have z5 := row_at9 HS.out.1 5 _ rfl; have z6 := row_at9 HS.out.1 6 _ rfl; have z7 := row_at9 HS.out.1 7 _ rfl; have z8 := row_at9 HS.out.1 8 _ rfl) | (go_at_call_of 54 (Value.int .i64 a); refine (HNa.out _).mono ?_; rintro e w4a ⟨rfl, hb⟩; have HS : Hid (Own w4a w.heap.size 25 #[.int .u8 6, .int .u8 o, .int .i64 d, .int .i64 a, .int .i64 b, .int .i64 ad, .int .i64 tt, .int .i64 wd, .int .i64 fr] ∧ Below w.heap.size w w4a) := ⟨HS.out.1.below hb, HS.out.2.trans (hb.mono HS.out.2.size)⟩; clear hb; have z0 := row_at9 HS.out.1 0 _ rfl; have z1 := row_at9 HS.out.1 1 _ rfl; have z2 := row_at9 HS.out.1 2 _ rfl; have z3 := row_at9 HS.out.1 3 _ rfl; have z4 := row_at9 HS.out.1 4 _ rfl; have z5 := row_at9 HS.out.1 5 _ rfl; have z6 := row_at9 HS.out.1 6 _ rfl; have z7 := row_at9 HS.out.1 7 _ rfl; have z8 := row_at9 HS.out.1 8 _ rfl) | (go_at_call_of 54 (Value.int .i64 b); refine (HNb.out _).mono ?_; rintro e w4b ⟨rfl, hb⟩; have HS : Hid (Own w4b w.heap.size 25 #[.int .u8 6, .int .u8 o, .int .i64 d, .int .i64 a, .int .i64 b, .int .i64 ad, .int .i64 tt, .int .i64 wd, .int .i64 fr] ∧ Below w.heap.size w w4b) := ⟨HS.out.1.below hb, HS.out.2.trans (hb.mono HS.out.2.size)⟩; clear hb; have z0 := row_at9 HS.out.1 0 _ rfl; have z1 := row_at9 HS.out.1 1 _ rfl; have z2 := row_at9 HS.out.1 2 _ rfl; have z3 := row_at9 HS.out.1 3 _ rfl; have z4 := row_at9 HS.out.1 4 _ rfl; have z5 := row_at9 HS.out.1 5 _ rfl; have z6 := row_at9 HS.out.1 6 _ rfl; have z7 := row_at9 HS.out.1 7 _ rfl; have z8 := row_at9 HS.out.1 8 _ rfl) | (go_at_call_of 54 (Value.int .i64 ad); refine (HNad.out _).mono ?_; rintro e w4ad ⟨rfl, hb⟩; have HS : Hid (Own w4ad w.heap.size 25 #[.int .u8 6, .int .u8 o, .int .i64 d, .int .i64 a, .int .i64 b, .int .i64 ad, .int .i64 tt, .int .i64 wd, .int .i64 fr] ∧ Below w.heap.size w w4ad) := ⟨HS.out.1.below hb, HS.out.2.trans (hb.mono HS.out.2.size)⟩; clear hb; have z0 := row_at9 HS.out.1 0 _ rfl; have z1 := row_at9 HS.out.1 1 _ rfl; have z2 := row_at9 HS.out.1 2 _ rfl; have z3 := row_at9 HS.out.1 3 _ rfl; have z4 := row_at9 HS.out.1 4 _ rfl; have z5 := row_at9 HS.out.1 5 _ rfl; have z6 := row_at9 HS.out.1 6 _ rfl; have z7 := row_at9 HS.out.1 7 _ rfl; have z8 := row_at9 HS.out.1 8 _ rfl) | (go_at_call_of 54 (Value.int .i64 tt); refine (HNtt.out _).mono ?_; rintro e w4tt ⟨rfl, hb⟩; have HS : Hid (Own w4tt w.heap.size 25 #[.int .u8 6, .int .u8 o, .int .i64 d, .int .i64 a, .int .i64 b, .int .i64 ad, .int .i64 tt, .int .i64 wd, .int .i64 fr] ∧ Below w.heap.size w w4tt) := ⟨HS.out.1.below hb, HS.out.2.trans (hb.mono HS.out.2.size)⟩; clear hb; have z0 := row_at9 HS.out.1 0 _ rfl; have z1 := row_at9 HS.out.1 1 _ rfl; have z2 := row_at9 HS.out.1 2 _ rfl; have z3 := row_at9 HS.out.1 3 _ rfl; have z4 := row_at9 HS.out.1 4 _ rfl; have z5 := row_at9 HS.out.1 5 _ rfl; have z6 := row_at9 HS.out.1 6 _ rfl; have z7 := row_at9 HS.out.1 7 _ rfl; have z8 := row_at9 HS.out.1 8 _ rfl) | (go_at_call_of 54 (Value.int .i64 fr); refine (HNfr.out _).mono ?_; rintro e w4fr ⟨rfl, hb⟩; have HS : Hid (Own w4fr w.heap.size 25 #[.int .u8 6, .int .u8 o, .int .i64 d, .int .i64 a, .int .i64 b, .int .i64 ad, .int .i64 tt, .int .i64 wd, .int .i64 fr] ∧ Below w.heap.size w w4fr) := ⟨HS.out.1.below hb, HS.out.2.trans (hb.mono HS.out.2.size)⟩; clear hb; have z0 := row_at9 HS.out.1 0 _ rfl; have z1 := row_at9 HS.out.1 1 _ rfl; have z2 := row_at9 HS.out.1 2 _ rfl; have z3 := row_at9 HS.out.1 3 _ rfl; have z4 := row_at9 HS.out.1 4 _ rfl; have z5 := row_at9 HS.out.1 5 _ rfl; have z6 := row_at9 HS.out.1 6 _ rfl; have z7 := row_at9 HS.out.1 7 _ rfl; have z8 := row_at9 HS.out.1 8 _ rfl) | (go_at_call 55; refine (HNwd.out _).mono ?_; rintro e w5 ⟨rfl, hb⟩; have HS : Hid (Own w5 w.heap.size 25 #[.int .u8 6, .int .u8 o, .int .i64 d, .int .i64 a, .int .i64 b, .int .i64 ad, .int .i64 tt, .int .i64 wd, .int .i64 fr] ∧ Below w.heap.size w w5) := ⟨HS.out.1.below hb, HS.out.2.trans (hb.mono HS.out.2.size)⟩; clear hb; have z0 := row_at9 HS.out.1 0 _ rfl; have z1 := row_at9 HS.out.1 1 _ rfl; have z2 := row_at9 HS.out.1 2 _ rfl; have z3 := row_at9 HS.out.1 3 _ rfl; have z4 := row_at9 HS.out.1 4 _ rfl; have z5 := row_at9 HS.out.1 5 _ rfl; have z6 := row_at9 HS.out.1 6 _ rfl; have z7 := row_at9 HS.out.1 7 _ rfl; have z8 := row_at9 HS.out.1 8 _ rfl))
    go_ret
    refine ⟨congrArg (fun x => Ending.returned (.string x)) (bs_ext ?_), HS.out.2⟩
    have h := HTX.out
    show _ = (insT (⟨6, o, d, a, b, ad, tt, wd, fr⟩ : Ins))
    rw [h, HP2.out, HP1.out]
    simp [f0, ByteArray.data_append, itoaS]
set_option maxHeartbeats 8000000 in
theorem r_show7 (o d a b ad tt wd fr : Int) (hg : rgI (⟨7, o, d, a, b, ad, tt, wd, fr⟩ : Ins)) (hr : rightB (⟨7, o, d, a, b, ad, tt, wd, fr⟩ : Ins) 9223372036854775807 9223372036854775807 = true) (w : World) : Calls Tryz.prog 29 #[.agg #[.int .u8 7, .int .u8 o, .int .i64 d, .int .i64 a, .int .i64 b, .int .i64 ad, .int .i64 tt, .int .i64 wd, .int .i64 fr]] w fun e w' => e = .returned (.string ⟨(insT (⟨7, o, d, a, b, ad, tt, wd, fr⟩ : Ins)).toArray⟩) ∧ Below w.heap.size w w' := by
  have hfr := right_fr hr
  have hT : insT (⟨7, o, d, a, b, ad, tt, wd, fr⟩ : Ins) = [112, 114, 105, 110, 116] ++ (((((([]) ++ (regT a)) ++ ([])) ++ ([])) ++ ([])) ++ ([])) ++ (if fr = 0 then [] else [32, 64] ++ Lib.itoa fr) := by
    rw [ins_txt _ (show kB 7 = true by decide)]
    rfl
  have HRR : Hid (∀ X, Calls Tryz.prog 13 #[.agg #[.int .u8 7, .int .u8 o, .int .i64 d, .int .i64 a, .int .i64 b, .int .i64 ad, .int .i64 tt, .int .i64 wd, .int .i64 fr], .int .i64 9223372036854775807, .int .i64 9223372036854775807] X fun e w' => e = .returned (.bool true) ∧ Below X.heap.size X w') := fun X => by
    have h := rright_any (⟨7, o, d, a, b, ad, tt, wd, fr⟩ : Ins) hg 9223372036854775807 9223372036854775807 X
    rw [hr] at h
    exact h
  obtain ⟨_, ho, hd, ha, hb0, had, htt, hwd, hfr2⟩ := hg
  simp only at ho hd ha hb0 had htt hwd hfr2
  have HTX := Lib.hid hT
  have HNd : Hid (∀ X, Calls Tryz.prog 54 #[.int .i64 d] X fun e w' => e = .returned (.string (itoaS d)) ∧ Below X.heap.size X w') := fun X => r_nat d hd.1 hd.2 X
  have HNa : Hid (∀ X, Calls Tryz.prog 54 #[.int .i64 a] X fun e w' => e = .returned (.string (itoaS a)) ∧ Below X.heap.size X w') := fun X => r_nat a ha.1 ha.2 X
  have HNb : Hid (∀ X, Calls Tryz.prog 54 #[.int .i64 b] X fun e w' => e = .returned (.string (itoaS b)) ∧ Below X.heap.size X w') := fun X => r_nat b hb0.1 hb0.2 X
  have HNad : Hid (∀ X, Calls Tryz.prog 54 #[.int .i64 ad] X fun e w' => e = .returned (.string (itoaS ad)) ∧ Below X.heap.size X w') := fun X => r_nat ad had.1 had.2 X
  have HNtt : Hid (∀ X, Calls Tryz.prog 54 #[.int .i64 tt] X fun e w' => e = .returned (.string (itoaS tt)) ∧ Below X.heap.size X w') := fun X => r_nat tt htt.1 htt.2 X
  have HNfr : Hid (∀ X, Calls Tryz.prog 54 #[.int .i64 fr] X fun e w' => e = .returned (.string (itoaS fr)) ∧ Below X.heap.size X w') := fun X => r_nat fr hfr2.1 hfr2.2 X
  have HRNd := Lib.hid hd
  have HRNa := Lib.hid ha
  have HRNb := Lib.hid hb0
  have HRNad := Lib.hid had
  have HRNtt := Lib.hid htt
  have HRNfr := Lib.hid hfr2
  have HRNwd := Lib.hid hwd
  have HNwd : Hid (∀ X, Calls Tryz.prog 55 #[.int .i64 wd] X fun e w' => e = .returned (.string (itoaS wd)) ∧ Below X.heap.size X w') := fun X => rprint_any wd hwd.1 hwd.2 X
  have al : Below w.heap.size w (w.alloc (.cells #[.int .u8 7, .int .u8 o, .int .i64 d, .int .i64 a, .int .i64 b, .int .i64 ad, .int .i64 tt, .int .i64 wd, .int .i64 fr] 25)) := (Below.refl _ w).alloc (Nat.le_refl _) _
  have O0 := Own.new w 25 #[.int .u8 7, .int .u8 o, .int .i64 d, .int .i64 a, .int .i64 b, .int .i64 ad, .int .i64 tt, .int .i64 wd, .int .i64 fr]
  obtain ⟨W0, hW0⟩ : ∃ W, W = w.alloc (.cells #[.int .u8 7, .int .u8 o, .int .i64 d, .int .i64 a, .int .i64 b, .int .i64 ad, .int .i64 tt, .int .i64 wd, .int .i64 fr] 25) := ⟨_, rfl⟩
  rw [← hW0] at al O0
  have HW0 := Lib.hid hW0
  have HS0 : Hid (Own W0 w.heap.size 25 #[.int .u8 7, .int .u8 o, .int .i64 d, .int .i64 a, .int .i64 b, .int .i64 ad, .int .i64 tt, .int .i64 wd, .int .i64 fr] ∧ Below w.heap.size w W0) := ⟨O0, al⟩
  clear hT al hW0 ho hd ha hb0 had htt hwd hfr2 hr
  go_enter Tryz.func29, Tryz.ntmps29
  go_upto_region 1 with fail
  rw [← HW0.out]
  clear HW0
  go_upto_region 3 with (first | (refine ld rowI rfl rfl rfl O0 rfl ?_) | (go_at_call 13; refine (HRR.out _).mono ?_; rintro e w1 ⟨rfl, hb⟩; have HS : Hid (Own w1 w.heap.size 25 #[.int .u8 7, .int .u8 o, .int .i64 d, .int .i64 a, .int .i64 b, .int .i64 ad, .int .i64 tt, .int .i64 wd, .int .i64 fr] ∧ Below w.heap.size w w1) := ⟨HS0.out.1.below hb, HS0.out.2.trans (hb.mono HS0.out.2.size)⟩; clear hb O0))
  clear HS0 HRR
  rename_i w1
  by_cases f0 : fr = 0
  · have f1 : ¬ 0 < fr := by omega
    have s0 : (⟨#[112, 114, 105, 110, 116]⟩ : ByteArray).size ≤ 10 := by show 5 ≤ 10; omega
    obtain ⟨p1, hp1⟩ : ∃ p, p = (⟨#[112, 114, 105, 110, 116]⟩ : ByteArray) ++ (⟨#[32, 114]⟩ : ByteArray) := ⟨_, rfl⟩
    have t1 : (⟨#[32, 114]⟩ : ByteArray).size = 2 := rfl
    have s1 : p1.size ≤ 12 := by rw [hp1, ByteArray.size_append]; omega
    have q1 : ∀ V, (Op.stringOp .add (⟨#[112, 114, 105, 110, 116]⟩ : ByteArray) (⟨#[32, 114]⟩ : ByteArray)).run Tryz.prog V = .ok (.string p1) V := fun V => by rw [hp1]; exact run_string_add_sum V _ _ (by omega)
    have HP1 := Lib.hid hp1
    clear hp1 t1 s0
    obtain ⟨p2, hp2⟩ : ∃ p, p = p1 ++ (itoaS a) := ⟨_, rfl⟩
    have t2 : (itoaS a).size ≤ 100 := itoaS_size a HRNa.out.1 HRNa.out.2
    have s2 : p2.size ≤ 112 := by rw [hp2, ByteArray.size_append]; omega
    have q2 : ∀ V, (Op.stringOp .add p1 (itoaS a)).run Tryz.prog V = .ok (.string p2) V := fun V => by rw [hp2]; exact run_string_add_sum V _ _ (by omega)
    have HP2 := Lib.hid hp2
    clear hp2 t2 s1
    clear s2
    have z0 := row_at9 HS.out.1 0 _ rfl
    have z1 := row_at9 HS.out.1 1 _ rfl
    have z2 := row_at9 HS.out.1 2 _ rfl
    have z3 := row_at9 HS.out.1 3 _ rfl
    have z4 := row_at9 HS.out.1 4 _ rfl
    have z5 := row_at9 HS.out.1 5 _ rfl
    have z6 := row_at9 HS.out.1 6 _ rfl
    have z7 := row_at9 HS.out.1 7 _ rfl
    have z8 := row_at9 HS.out.1 8 _ rfl
    go_wp2_with (first | (go_at_call 52; refine (r_kwd7 _).mono ?_; rintro e w2 ⟨rfl, hb⟩; have HS : Hid (Own w2 w.heap.size 25 #[.int .u8 7, .int .u8 o, .int .i64 d, .int .i64 a, .int .i64 b, .int .i64 ad, .int .i64 tt, .int .i64 wd, .int .i64 fr] ∧ Below w.heap.size w w2) := ⟨HS.out.1.below hb, HS.out.2.trans (hb.mono HS.out.2.size)⟩; clear hb; have z0 := row_at9 HS.out.1 0 _ rfl; have z1 := row_at9 HS.out.1 1 _ rfl; have z2 := row_at9 HS.out.1 2 _ rfl; have z3 := row_at9 HS.out.1 3 _ rfl; have z4 := row_at9 HS.out.1 4 _ rfl; have z5 := row_at9 HS.out.1 5 _ rfl; have z6 := row_at9 HS.out.1 6 _ rfl; have z7 := row_at9 HS.out.1 7 _ rfl; have z8 := row_at9 HS.out.1 8 _ rfl) | (go_at_call 45; refine (r_uses7 _).mono ?_; rintro e w' ⟨rfl, rfl⟩) | (go_at_call_of 54 (Value.int .i64 d); refine (HNd.out _).mono ?_; rintro e w4d ⟨rfl, hb⟩; have HS : Hid (Own w4d w.heap.size 25 #[.int .u8 7, .int .u8 o, .int .i64 d, .int .i64 a, .int .i64 b, .int .i64 ad, .int .i64 tt, .int .i64 wd, .int .i64 fr] ∧ Below w.heap.size w w4d) := ⟨HS.out.1.below hb, HS.out.2.trans (hb.mono HS.out.2.size)⟩; clear hb; have z0 := row_at9 HS.out.1 0 _ rfl; have z1 := row_at9 HS.out.1 1 _ rfl; have z2 := row_at9 HS.out.1 2 _ rfl; have z3 := row_at9 HS.out.1 3 _ rfl; have z4 := row_at9 HS.out.1 4 _ rfl; have z5 := row_at9 HS.out.1 5 _ rfl; have z6 := row_at9 HS.out.1 6 _ rfl; have z7 := row_at9 HS.out.1 7 _ rfl; have z8 := row_at9 HS.out.1 8 _ rfl) | (go_at_call_of 54 (Value.int .i64 a); refine (HNa.out _).mono ?_; rintro e w4a ⟨rfl, hb⟩; have HS : Hid (Own w4a w.heap.size 25 #[.int .u8 7, .int .u8 o, .int .i64 d, .int .i64 a, .int .i64 b, .int .i64 ad, .int .i64 tt, .int .i64 wd, .int .i64 fr] ∧ Below w.heap.size w w4a) := ⟨HS.out.1.below hb, HS.out.2.trans (hb.mono HS.out.2.size)⟩; clear hb; have z0 := row_at9 HS.out.1 0 _ rfl; have z1 := row_at9 HS.out.1 1 _ rfl; have z2 := row_at9 HS.out.1 2 _ rfl; have z3 := row_at9 HS.out.1 3 _ rfl; have z4 := row_at9 HS.out.1 4 _ rfl; have z5 := row_at9 HS.out.1 5 _ rfl; have z6 := row_at9 HS.out.1 6 _ rfl; have z7 := row_at9 HS.out.1 7 _ rfl; have z8 := row_at9 HS.out.1 8 _ rfl) | (go_at_call_of 54 (Value.int .i64 b); refine (HNb.out _).mono ?_; rintro e w4b ⟨rfl, hb⟩; have HS : Hid (Own w4b w.heap.size 25 #[.int .u8 7, .int .u8 o, .int .i64 d, .int .i64 a, .int .i64 b, .int .i64 ad, .int .i64 tt, .int .i64 wd, .int .i64 fr] ∧ Below w.heap.size w w4b) := ⟨HS.out.1.below hb, HS.out.2.trans (hb.mono HS.out.2.size)⟩; clear hb; have z0 := row_at9 HS.out.1 0 _ rfl; have z1 := row_at9 HS.out.1 1 _ rfl; have z2 := row_at9 HS.out.1 2 _ rfl; have z3 := row_at9 HS.out.1 3 _ rfl; have z4 := row_at9 HS.out.1 4 _ rfl; have z5 := row_at9 HS.out.1 5 _ rfl; have z6 := row_at9 HS.out.1 6 _ rfl; have z7 := row_at9 HS.out.1 7 _ rfl; have z8 := row_at9 HS.out.1 8 _ rfl) | (go_at_call_of 54 (Value.int .i64 ad); refine (HNad.out _).mono ?_; rintro e w4ad ⟨rfl, hb⟩; have HS : Hid (Own w4ad w.heap.size 25 #[.int .u8 7, .int .u8 o, .int .i64 d, .int .i64 a, .int .i64 b, .int .i64 ad, .int .i64 tt, .int .i64 wd, .int .i64 fr] ∧ Below w.heap.size w w4ad) := ⟨HS.out.1.below hb, HS.out.2.trans (hb.mono HS.out.2.size)⟩; clear hb; have z0 := row_at9 HS.out.1 0 _ rfl; have z1 := row_at9 HS.out.1 1 _ rfl; have z2 := row_at9 HS.out.1 2 _ rfl; have z3 := row_at9 HS.out.1 3 _ rfl; have z4 := row_at9 HS.out.1 4 _ rfl; have z5 := row_at9 HS.out.1 5 _ rfl; have z6 := row_at9 HS.out.1 6 _ rfl; have z7 := row_at9 HS.out.1 7 _ rfl; have z8 := row_at9 HS.out.1 8 _ rfl) | (go_at_call_of 54 (Value.int .i64 tt); refine (HNtt.out _).mono ?_; rintro e w4tt ⟨rfl, hb⟩; have HS : Hid (Own w4tt w.heap.size 25 #[.int .u8 7, .int .u8 o, .int .i64 d, .int .i64 a, .int .i64 b, .int .i64 ad, .int .i64 tt, .int .i64 wd, .int .i64 fr] ∧ Below w.heap.size w w4tt) := ⟨HS.out.1.below hb, HS.out.2.trans (hb.mono HS.out.2.size)⟩; clear hb; have z0 := row_at9 HS.out.1 0 _ rfl; have z1 := row_at9 HS.out.1 1 _ rfl; have z2 := row_at9 HS.out.1 2 _ rfl; have z3 := row_at9 HS.out.1 3 _ rfl; have z4 := row_at9 HS.out.1 4 _ rfl; have z5 := row_at9 HS.out.1 5 _ rfl; have z6 := row_at9 HS.out.1 6 _ rfl; have z7 := row_at9 HS.out.1 7 _ rfl; have z8 := row_at9 HS.out.1 8 _ rfl) | (go_at_call_of 54 (Value.int .i64 fr); refine (HNfr.out _).mono ?_; rintro e w4fr ⟨rfl, hb⟩; have HS : Hid (Own w4fr w.heap.size 25 #[.int .u8 7, .int .u8 o, .int .i64 d, .int .i64 a, .int .i64 b, .int .i64 ad, .int .i64 tt, .int .i64 wd, .int .i64 fr] ∧ Below w.heap.size w w4fr) := ⟨HS.out.1.below hb, HS.out.2.trans (hb.mono HS.out.2.size)⟩; clear hb; have z0 := row_at9 HS.out.1 0 _ rfl; have z1 := row_at9 HS.out.1 1 _ rfl; have z2 := row_at9 HS.out.1 2 _ rfl; have z3 := row_at9 HS.out.1 3 _ rfl; have z4 := row_at9 HS.out.1 4 _ rfl; have z5 := row_at9 HS.out.1 5 _ rfl; have z6 := row_at9 HS.out.1 6 _ rfl; have z7 := row_at9 HS.out.1 7 _ rfl; have z8 := row_at9 HS.out.1 8 _ rfl) | (go_at_call 55; refine (HNwd.out _).mono ?_; rintro e w5 ⟨rfl, hb⟩; have HS : Hid (Own w5 w.heap.size 25 #[.int .u8 7, .int .u8 o, .int .i64 d, .int .i64 a, .int .i64 b, .int .i64 ad, .int .i64 tt, .int .i64 wd, .int .i64 fr] ∧ Below w.heap.size w w5) := ⟨HS.out.1.below hb, HS.out.2.trans (hb.mono HS.out.2.size)⟩; clear hb; have z0 := row_at9 HS.out.1 0 _ rfl; have z1 := row_at9 HS.out.1 1 _ rfl; have z2 := row_at9 HS.out.1 2 _ rfl; have z3 := row_at9 HS.out.1 3 _ rfl; have z4 := row_at9 HS.out.1 4 _ rfl; have z5 := row_at9 HS.out.1 5 _ rfl; have z6 := row_at9 HS.out.1 6 _ rfl; have z7 := row_at9 HS.out.1 7 _ rfl; have z8 := row_at9 HS.out.1 8 _ rfl))
    go_ret
    refine ⟨congrArg (fun x => Ending.returned (.string x)) (bs_ext ?_), HS.out.2⟩
    have h := HTX.out
    show _ = (insT (⟨7, o, d, a, b, ad, tt, wd, fr⟩ : Ins))
    rw [h, HP2.out, HP1.out]
    simp [f0, ByteArray.data_append, itoaS, regT]
  · have f1 : 0 < fr := by omega
    have s0 : (⟨#[112, 114, 105, 110, 116]⟩ : ByteArray).size ≤ 10 := by show 5 ≤ 10; omega
    obtain ⟨p1, hp1⟩ : ∃ p, p = (⟨#[112, 114, 105, 110, 116]⟩ : ByteArray) ++ (⟨#[32, 114]⟩ : ByteArray) := ⟨_, rfl⟩
    have t1 : (⟨#[32, 114]⟩ : ByteArray).size = 2 := rfl
    have s1 : p1.size ≤ 12 := by rw [hp1, ByteArray.size_append]; omega
    have q1 : ∀ V, (Op.stringOp .add (⟨#[112, 114, 105, 110, 116]⟩ : ByteArray) (⟨#[32, 114]⟩ : ByteArray)).run Tryz.prog V = .ok (.string p1) V := fun V => by rw [hp1]; exact run_string_add_sum V _ _ (by omega)
    have HP1 := Lib.hid hp1
    clear hp1 t1 s0
    obtain ⟨p2, hp2⟩ : ∃ p, p = p1 ++ (itoaS a) := ⟨_, rfl⟩
    have t2 : (itoaS a).size ≤ 100 := itoaS_size a HRNa.out.1 HRNa.out.2
    have s2 : p2.size ≤ 112 := by rw [hp2, ByteArray.size_append]; omega
    have q2 : ∀ V, (Op.stringOp .add p1 (itoaS a)).run Tryz.prog V = .ok (.string p2) V := fun V => by rw [hp2]; exact run_string_add_sum V _ _ (by omega)
    have HP2 := Lib.hid hp2
    clear hp2 t2 s1
    obtain ⟨p3, hp3⟩ : ∃ p, p = p2 ++ (⟨#[32, 64]⟩ : ByteArray) := ⟨_, rfl⟩
    have t3 : (⟨#[32, 64]⟩ : ByteArray).size = 2 := rfl
    have s3 : p3.size ≤ 114 := by rw [hp3, ByteArray.size_append]; omega
    have q3 : ∀ V, (Op.stringOp .add p2 (⟨#[32, 64]⟩ : ByteArray)).run Tryz.prog V = .ok (.string p3) V := fun V => by rw [hp3]; exact run_string_add_sum V _ _ (by omega)
    have HP3 := Lib.hid hp3
    clear hp3 t3 s2
    obtain ⟨p4, hp4⟩ : ∃ p, p = p3 ++ (itoaS fr) := ⟨_, rfl⟩
    have t4 : (itoaS fr).size ≤ 100 := itoaS_size fr HRNfr.out.1 HRNfr.out.2
    have s4 : p4.size ≤ 214 := by rw [hp4, ByteArray.size_append]; omega
    have q4 : ∀ V, (Op.stringOp .add p3 (itoaS fr)).run Tryz.prog V = .ok (.string p4) V := fun V => by rw [hp4]; exact run_string_add_sum V _ _ (by omega)
    have HP4 := Lib.hid hp4
    clear hp4 t4 s3
    clear s4
    have z0 := row_at9 HS.out.1 0 _ rfl
    have z1 := row_at9 HS.out.1 1 _ rfl
    have z2 := row_at9 HS.out.1 2 _ rfl
    have z3 := row_at9 HS.out.1 3 _ rfl
    have z4 := row_at9 HS.out.1 4 _ rfl
    have z5 := row_at9 HS.out.1 5 _ rfl
    have z6 := row_at9 HS.out.1 6 _ rfl
    have z7 := row_at9 HS.out.1 7 _ rfl
    have z8 := row_at9 HS.out.1 8 _ rfl
    go_wp2_with (first | (go_at_call 52; refine (r_kwd7 _).mono ?_; rintro e w2 ⟨rfl, hb⟩; have HS : Hid (Own w2 w.heap.size 25 #[.int .u8 7, .int .u8 o, .int .i64 d, .int .i64 a, .int .i64 b, .int .i64 ad, .int .i64 tt, .int .i64 wd, .int .i64 fr] ∧ Below w.heap.size w w2) := ⟨HS.out.1.below hb, HS.out.2.trans (hb.mono HS.out.2.size)⟩; clear hb; have z0 := row_at9 HS.out.1 0 _ rfl; have z1 := row_at9 HS.out.1 1 _ rfl; have z2 := row_at9 HS.out.1 2 _ rfl; have z3 := row_at9 HS.out.1 3 _ rfl; have z4 := row_at9 HS.out.1 4 _ rfl; have z5 := row_at9 HS.out.1 5 _ rfl; have z6 := row_at9 HS.out.1 6 _ rfl; have z7 := row_at9 HS.out.1 7 _ rfl; have z8 := row_at9 HS.out.1 8 _ rfl) | (go_at_call 45; refine (r_uses7 _).mono ?_; rintro e w' ⟨rfl, rfl⟩) | (go_at_call_of 54 (Value.int .i64 d); refine (HNd.out _).mono ?_; rintro e w4d ⟨rfl, hb⟩; have HS : Hid (Own w4d w.heap.size 25 #[.int .u8 7, .int .u8 o, .int .i64 d, .int .i64 a, .int .i64 b, .int .i64 ad, .int .i64 tt, .int .i64 wd, .int .i64 fr] ∧ Below w.heap.size w w4d) := ⟨HS.out.1.below hb, HS.out.2.trans (hb.mono HS.out.2.size)⟩; clear hb; have z0 := row_at9 HS.out.1 0 _ rfl; have z1 := row_at9 HS.out.1 1 _ rfl; have z2 := row_at9 HS.out.1 2 _ rfl; have z3 := row_at9 HS.out.1 3 _ rfl; have z4 := row_at9 HS.out.1 4 _ rfl; have z5 := row_at9 HS.out.1 5 _ rfl; have z6 := row_at9 HS.out.1 6 _ rfl; have z7 := row_at9 HS.out.1 7 _ rfl; have z8 := row_at9 HS.out.1 8 _ rfl) | (go_at_call_of 54 (Value.int .i64 a); refine (HNa.out _).mono ?_; rintro e w4a ⟨rfl, hb⟩; have HS : Hid (Own w4a w.heap.size 25 #[.int .u8 7, .int .u8 o, .int .i64 d, .int .i64 a, .int .i64 b, .int .i64 ad, .int .i64 tt, .int .i64 wd, .int .i64 fr] ∧ Below w.heap.size w w4a) := ⟨HS.out.1.below hb, HS.out.2.trans (hb.mono HS.out.2.size)⟩; clear hb; have z0 := row_at9 HS.out.1 0 _ rfl; have z1 := row_at9 HS.out.1 1 _ rfl; have z2 := row_at9 HS.out.1 2 _ rfl; have z3 := row_at9 HS.out.1 3 _ rfl; have z4 := row_at9 HS.out.1 4 _ rfl; have z5 := row_at9 HS.out.1 5 _ rfl; have z6 := row_at9 HS.out.1 6 _ rfl; have z7 := row_at9 HS.out.1 7 _ rfl; have z8 := row_at9 HS.out.1 8 _ rfl) | (go_at_call_of 54 (Value.int .i64 b); refine (HNb.out _).mono ?_; rintro e w4b ⟨rfl, hb⟩; have HS : Hid (Own w4b w.heap.size 25 #[.int .u8 7, .int .u8 o, .int .i64 d, .int .i64 a, .int .i64 b, .int .i64 ad, .int .i64 tt, .int .i64 wd, .int .i64 fr] ∧ Below w.heap.size w w4b) := ⟨HS.out.1.below hb, HS.out.2.trans (hb.mono HS.out.2.size)⟩; clear hb; have z0 := row_at9 HS.out.1 0 _ rfl; have z1 := row_at9 HS.out.1 1 _ rfl; have z2 := row_at9 HS.out.1 2 _ rfl; have z3 := row_at9 HS.out.1 3 _ rfl; have z4 := row_at9 HS.out.1 4 _ rfl; have z5 := row_at9 HS.out.1 5 _ rfl; have z6 := row_at9 HS.out.1 6 _ rfl; have z7 := row_at9 HS.out.1 7 _ rfl; have z8 := row_at9 HS.out.1 8 _ rfl) | (go_at_call_of 54 (Value.int .i64 ad); refine (HNad.out _).mono ?_; rintro e w4ad ⟨rfl, hb⟩; have HS : Hid (Own w4ad w.heap.size 25 #[.int .u8 7, .int .u8 o, .int .i64 d, .int .i64 a, .int .i64 b, .int .i64 ad, .int .i64 tt, .int .i64 wd, .int .i64 fr] ∧ Below w.heap.size w w4ad) := ⟨HS.out.1.below hb, HS.out.2.trans (hb.mono HS.out.2.size)⟩; clear hb; have z0 := row_at9 HS.out.1 0 _ rfl; have z1 := row_at9 HS.out.1 1 _ rfl; have z2 := row_at9 HS.out.1 2 _ rfl; have z3 := row_at9 HS.out.1 3 _ rfl; have z4 := row_at9 HS.out.1 4 _ rfl; have z5 := row_at9 HS.out.1 5 _ rfl; have z6 := row_at9 HS.out.1 6 _ rfl; have z7 := row_at9 HS.out.1 7 _ rfl; have z8 := row_at9 HS.out.1 8 _ rfl) | (go_at_call_of 54 (Value.int .i64 tt); refine (HNtt.out _).mono ?_; rintro e w4tt ⟨rfl, hb⟩; have HS : Hid (Own w4tt w.heap.size 25 #[.int .u8 7, .int .u8 o, .int .i64 d, .int .i64 a, .int .i64 b, .int .i64 ad, .int .i64 tt, .int .i64 wd, .int .i64 fr] ∧ Below w.heap.size w w4tt) := ⟨HS.out.1.below hb, HS.out.2.trans (hb.mono HS.out.2.size)⟩; clear hb; have z0 := row_at9 HS.out.1 0 _ rfl; have z1 := row_at9 HS.out.1 1 _ rfl; have z2 := row_at9 HS.out.1 2 _ rfl; have z3 := row_at9 HS.out.1 3 _ rfl; have z4 := row_at9 HS.out.1 4 _ rfl; have z5 := row_at9 HS.out.1 5 _ rfl; have z6 := row_at9 HS.out.1 6 _ rfl; have z7 := row_at9 HS.out.1 7 _ rfl; have z8 := row_at9 HS.out.1 8 _ rfl) | (go_at_call_of 54 (Value.int .i64 fr); refine (HNfr.out _).mono ?_; rintro e w4fr ⟨rfl, hb⟩; have HS : Hid (Own w4fr w.heap.size 25 #[.int .u8 7, .int .u8 o, .int .i64 d, .int .i64 a, .int .i64 b, .int .i64 ad, .int .i64 tt, .int .i64 wd, .int .i64 fr] ∧ Below w.heap.size w w4fr) := ⟨HS.out.1.below hb, HS.out.2.trans (hb.mono HS.out.2.size)⟩; clear hb; have z0 := row_at9 HS.out.1 0 _ rfl; have z1 := row_at9 HS.out.1 1 _ rfl; have z2 := row_at9 HS.out.1 2 _ rfl; have z3 := row_at9 HS.out.1 3 _ rfl; have z4 := row_at9 HS.out.1 4 _ rfl; have z5 := row_at9 HS.out.1 5 _ rfl; have z6 := row_at9 HS.out.1 6 _ rfl; have z7 := row_at9 HS.out.1 7 _ rfl; have z8 := row_at9 HS.out.1 8 _ rfl) | (go_at_call 55; refine (HNwd.out _).mono ?_; rintro e w5 ⟨rfl, hb⟩; have HS : Hid (Own w5 w.heap.size 25 #[.int .u8 7, .int .u8 o, .int .i64 d, .int .i64 a, .int .i64 b, .int .i64 ad, .int .i64 tt, .int .i64 wd, .int .i64 fr] ∧ Below w.heap.size w w5) := ⟨HS.out.1.below hb, HS.out.2.trans (hb.mono HS.out.2.size)⟩; clear hb; have z0 := row_at9 HS.out.1 0 _ rfl; have z1 := row_at9 HS.out.1 1 _ rfl; have z2 := row_at9 HS.out.1 2 _ rfl; have z3 := row_at9 HS.out.1 3 _ rfl; have z4 := row_at9 HS.out.1 4 _ rfl; have z5 := row_at9 HS.out.1 5 _ rfl; have z6 := row_at9 HS.out.1 6 _ rfl; have z7 := row_at9 HS.out.1 7 _ rfl; have z8 := row_at9 HS.out.1 8 _ rfl))
    go_ret
    refine ⟨congrArg (fun x => Ending.returned (.string x)) (bs_ext ?_), HS.out.2⟩
    have h := HTX.out
    show _ = (insT (⟨7, o, d, a, b, ad, tt, wd, fr⟩ : Ins))
    rw [h, HP4.out, HP3.out, HP2.out, HP1.out]
    simp [f0, ByteArray.data_append, itoaS, regT]
set_option maxHeartbeats 8000000 in
theorem r_show8 (o d a b ad tt wd fr : Int) (hg : rgI (⟨8, o, d, a, b, ad, tt, wd, fr⟩ : Ins)) (hr : rightB (⟨8, o, d, a, b, ad, tt, wd, fr⟩ : Ins) 9223372036854775807 9223372036854775807 = true) (w : World) : Calls Tryz.prog 29 #[.agg #[.int .u8 8, .int .u8 o, .int .i64 d, .int .i64 a, .int .i64 b, .int .i64 ad, .int .i64 tt, .int .i64 wd, .int .i64 fr]] w fun e w' => e = .returned (.string ⟨(insT (⟨8, o, d, a, b, ad, tt, wd, fr⟩ : Ins)).toArray⟩) ∧ Below w.heap.size w w' := by
  have hfr := right_fr hr
  have hT : insT (⟨8, o, d, a, b, ad, tt, wd, fr⟩ : Ins) = [106, 117, 109, 112] ++ (((((([]) ++ ([])) ++ ([])) ++ ([])) ++ (numT tt)) ++ ([])) ++ (if fr = 0 then [] else [32, 64] ++ Lib.itoa fr) := by
    rw [ins_txt _ (show kB 8 = true by decide)]
    rfl
  have HRR : Hid (∀ X, Calls Tryz.prog 13 #[.agg #[.int .u8 8, .int .u8 o, .int .i64 d, .int .i64 a, .int .i64 b, .int .i64 ad, .int .i64 tt, .int .i64 wd, .int .i64 fr], .int .i64 9223372036854775807, .int .i64 9223372036854775807] X fun e w' => e = .returned (.bool true) ∧ Below X.heap.size X w') := fun X => by
    have h := rright_any (⟨8, o, d, a, b, ad, tt, wd, fr⟩ : Ins) hg 9223372036854775807 9223372036854775807 X
    rw [hr] at h
    exact h
  obtain ⟨_, ho, hd, ha, hb0, had, htt, hwd, hfr2⟩ := hg
  simp only at ho hd ha hb0 had htt hwd hfr2
  have HTX := Lib.hid hT
  have HNd : Hid (∀ X, Calls Tryz.prog 54 #[.int .i64 d] X fun e w' => e = .returned (.string (itoaS d)) ∧ Below X.heap.size X w') := fun X => r_nat d hd.1 hd.2 X
  have HNa : Hid (∀ X, Calls Tryz.prog 54 #[.int .i64 a] X fun e w' => e = .returned (.string (itoaS a)) ∧ Below X.heap.size X w') := fun X => r_nat a ha.1 ha.2 X
  have HNb : Hid (∀ X, Calls Tryz.prog 54 #[.int .i64 b] X fun e w' => e = .returned (.string (itoaS b)) ∧ Below X.heap.size X w') := fun X => r_nat b hb0.1 hb0.2 X
  have HNad : Hid (∀ X, Calls Tryz.prog 54 #[.int .i64 ad] X fun e w' => e = .returned (.string (itoaS ad)) ∧ Below X.heap.size X w') := fun X => r_nat ad had.1 had.2 X
  have HNtt : Hid (∀ X, Calls Tryz.prog 54 #[.int .i64 tt] X fun e w' => e = .returned (.string (itoaS tt)) ∧ Below X.heap.size X w') := fun X => r_nat tt htt.1 htt.2 X
  have HNfr : Hid (∀ X, Calls Tryz.prog 54 #[.int .i64 fr] X fun e w' => e = .returned (.string (itoaS fr)) ∧ Below X.heap.size X w') := fun X => r_nat fr hfr2.1 hfr2.2 X
  have HRNd := Lib.hid hd
  have HRNa := Lib.hid ha
  have HRNb := Lib.hid hb0
  have HRNad := Lib.hid had
  have HRNtt := Lib.hid htt
  have HRNfr := Lib.hid hfr2
  have HRNwd := Lib.hid hwd
  have HNwd : Hid (∀ X, Calls Tryz.prog 55 #[.int .i64 wd] X fun e w' => e = .returned (.string (itoaS wd)) ∧ Below X.heap.size X w') := fun X => rprint_any wd hwd.1 hwd.2 X
  have al : Below w.heap.size w (w.alloc (.cells #[.int .u8 8, .int .u8 o, .int .i64 d, .int .i64 a, .int .i64 b, .int .i64 ad, .int .i64 tt, .int .i64 wd, .int .i64 fr] 25)) := (Below.refl _ w).alloc (Nat.le_refl _) _
  have O0 := Own.new w 25 #[.int .u8 8, .int .u8 o, .int .i64 d, .int .i64 a, .int .i64 b, .int .i64 ad, .int .i64 tt, .int .i64 wd, .int .i64 fr]
  obtain ⟨W0, hW0⟩ : ∃ W, W = w.alloc (.cells #[.int .u8 8, .int .u8 o, .int .i64 d, .int .i64 a, .int .i64 b, .int .i64 ad, .int .i64 tt, .int .i64 wd, .int .i64 fr] 25) := ⟨_, rfl⟩
  rw [← hW0] at al O0
  have HW0 := Lib.hid hW0
  have HS0 : Hid (Own W0 w.heap.size 25 #[.int .u8 8, .int .u8 o, .int .i64 d, .int .i64 a, .int .i64 b, .int .i64 ad, .int .i64 tt, .int .i64 wd, .int .i64 fr] ∧ Below w.heap.size w W0) := ⟨O0, al⟩
  clear hT al hW0 ho hd ha hb0 had htt hwd hfr2 hr
  go_enter Tryz.func29, Tryz.ntmps29
  go_upto_region 1 with fail
  rw [← HW0.out]
  clear HW0
  go_upto_region 3 with (first | (refine ld rowI rfl rfl rfl O0 rfl ?_) | (go_at_call 13; refine (HRR.out _).mono ?_; rintro e w1 ⟨rfl, hb⟩; have HS : Hid (Own w1 w.heap.size 25 #[.int .u8 8, .int .u8 o, .int .i64 d, .int .i64 a, .int .i64 b, .int .i64 ad, .int .i64 tt, .int .i64 wd, .int .i64 fr] ∧ Below w.heap.size w w1) := ⟨HS0.out.1.below hb, HS0.out.2.trans (hb.mono HS0.out.2.size)⟩; clear hb O0))
  clear HS0 HRR
  rename_i w1
  by_cases f0 : fr = 0
  · have f1 : ¬ 0 < fr := by omega
    have s0 : (⟨#[106, 117, 109, 112]⟩ : ByteArray).size ≤ 10 := by show 4 ≤ 10; omega
    obtain ⟨p1, hp1⟩ : ∃ p, p = (⟨#[106, 117, 109, 112]⟩ : ByteArray) ++ (⟨#[32]⟩ : ByteArray) := ⟨_, rfl⟩
    have t1 : (⟨#[32]⟩ : ByteArray).size = 1 := rfl
    have s1 : p1.size ≤ 11 := by rw [hp1, ByteArray.size_append]; omega
    have q1 : ∀ V, (Op.stringOp .add (⟨#[106, 117, 109, 112]⟩ : ByteArray) (⟨#[32]⟩ : ByteArray)).run Tryz.prog V = .ok (.string p1) V := fun V => by rw [hp1]; exact run_string_add_sum V _ _ (by omega)
    have HP1 := Lib.hid hp1
    clear hp1 t1 s0
    obtain ⟨p2, hp2⟩ : ∃ p, p = p1 ++ (itoaS tt) := ⟨_, rfl⟩
    have t2 : (itoaS tt).size ≤ 100 := itoaS_size tt HRNtt.out.1 HRNtt.out.2
    have s2 : p2.size ≤ 111 := by rw [hp2, ByteArray.size_append]; omega
    have q2 : ∀ V, (Op.stringOp .add p1 (itoaS tt)).run Tryz.prog V = .ok (.string p2) V := fun V => by rw [hp2]; exact run_string_add_sum V _ _ (by omega)
    have HP2 := Lib.hid hp2
    clear hp2 t2 s1
    clear s2
    have z0 := row_at9 HS.out.1 0 _ rfl
    have z1 := row_at9 HS.out.1 1 _ rfl
    have z2 := row_at9 HS.out.1 2 _ rfl
    have z3 := row_at9 HS.out.1 3 _ rfl
    have z4 := row_at9 HS.out.1 4 _ rfl
    have z5 := row_at9 HS.out.1 5 _ rfl
    have z6 := row_at9 HS.out.1 6 _ rfl
    have z7 := row_at9 HS.out.1 7 _ rfl
    have z8 := row_at9 HS.out.1 8 _ rfl
    go_wp2_with (first | (go_at_call 52; refine (r_kwd8 _).mono ?_; rintro e w2 ⟨rfl, hb⟩; have HS : Hid (Own w2 w.heap.size 25 #[.int .u8 8, .int .u8 o, .int .i64 d, .int .i64 a, .int .i64 b, .int .i64 ad, .int .i64 tt, .int .i64 wd, .int .i64 fr] ∧ Below w.heap.size w w2) := ⟨HS.out.1.below hb, HS.out.2.trans (hb.mono HS.out.2.size)⟩; clear hb; have z0 := row_at9 HS.out.1 0 _ rfl; have z1 := row_at9 HS.out.1 1 _ rfl; have z2 := row_at9 HS.out.1 2 _ rfl; have z3 := row_at9 HS.out.1 3 _ rfl; have z4 := row_at9 HS.out.1 4 _ rfl; have z5 := row_at9 HS.out.1 5 _ rfl; have z6 := row_at9 HS.out.1 6 _ rfl; have z7 := row_at9 HS.out.1 7 _ rfl; have z8 := row_at9 HS.out.1 8 _ rfl) | (go_at_call 45; refine (r_uses8 _).mono ?_; rintro e w' ⟨rfl, rfl⟩) | (go_at_call_of 54 (Value.int .i64 d); refine (HNd.out _).mono ?_; rintro e w4d ⟨rfl, hb⟩; have HS : Hid (Own w4d w.heap.size 25 #[.int .u8 8, .int .u8 o, .int .i64 d, .int .i64 a, .int .i64 b, .int .i64 ad, .int .i64 tt, .int .i64 wd, .int .i64 fr] ∧ Below w.heap.size w w4d) := ⟨HS.out.1.below hb, HS.out.2.trans (hb.mono HS.out.2.size)⟩; clear hb; have z0 := row_at9 HS.out.1 0 _ rfl; have z1 := row_at9 HS.out.1 1 _ rfl; have z2 := row_at9 HS.out.1 2 _ rfl; have z3 := row_at9 HS.out.1 3 _ rfl; have z4 := row_at9 HS.out.1 4 _ rfl; have z5 := row_at9 HS.out.1 5 _ rfl; have z6 := row_at9 HS.out.1 6 _ rfl; have z7 := row_at9 HS.out.1 7 _ rfl; have z8 := row_at9 HS.out.1 8 _ rfl) | (go_at_call_of 54 (Value.int .i64 a); refine (HNa.out _).mono ?_; rintro e w4a ⟨rfl, hb⟩; have HS : Hid (Own w4a w.heap.size 25 #[.int .u8 8, .int .u8 o, .int .i64 d, .int .i64 a, .int .i64 b, .int .i64 ad, .int .i64 tt, .int .i64 wd, .int .i64 fr] ∧ Below w.heap.size w w4a) := ⟨HS.out.1.below hb, HS.out.2.trans (hb.mono HS.out.2.size)⟩; clear hb; have z0 := row_at9 HS.out.1 0 _ rfl; have z1 := row_at9 HS.out.1 1 _ rfl; have z2 := row_at9 HS.out.1 2 _ rfl; have z3 := row_at9 HS.out.1 3 _ rfl; have z4 := row_at9 HS.out.1 4 _ rfl; have z5 := row_at9 HS.out.1 5 _ rfl; have z6 := row_at9 HS.out.1 6 _ rfl; have z7 := row_at9 HS.out.1 7 _ rfl; have z8 := row_at9 HS.out.1 8 _ rfl) | (go_at_call_of 54 (Value.int .i64 b); refine (HNb.out _).mono ?_; rintro e w4b ⟨rfl, hb⟩; have HS : Hid (Own w4b w.heap.size 25 #[.int .u8 8, .int .u8 o, .int .i64 d, .int .i64 a, .int .i64 b, .int .i64 ad, .int .i64 tt, .int .i64 wd, .int .i64 fr] ∧ Below w.heap.size w w4b) := ⟨HS.out.1.below hb, HS.out.2.trans (hb.mono HS.out.2.size)⟩; clear hb; have z0 := row_at9 HS.out.1 0 _ rfl; have z1 := row_at9 HS.out.1 1 _ rfl; have z2 := row_at9 HS.out.1 2 _ rfl; have z3 := row_at9 HS.out.1 3 _ rfl; have z4 := row_at9 HS.out.1 4 _ rfl; have z5 := row_at9 HS.out.1 5 _ rfl; have z6 := row_at9 HS.out.1 6 _ rfl; have z7 := row_at9 HS.out.1 7 _ rfl; have z8 := row_at9 HS.out.1 8 _ rfl) | (go_at_call_of 54 (Value.int .i64 ad); refine (HNad.out _).mono ?_; rintro e w4ad ⟨rfl, hb⟩; have HS : Hid (Own w4ad w.heap.size 25 #[.int .u8 8, .int .u8 o, .int .i64 d, .int .i64 a, .int .i64 b, .int .i64 ad, .int .i64 tt, .int .i64 wd, .int .i64 fr] ∧ Below w.heap.size w w4ad) := ⟨HS.out.1.below hb, HS.out.2.trans (hb.mono HS.out.2.size)⟩; clear hb; have z0 := row_at9 HS.out.1 0 _ rfl; have z1 := row_at9 HS.out.1 1 _ rfl; have z2 := row_at9 HS.out.1 2 _ rfl; have z3 := row_at9 HS.out.1 3 _ rfl; have z4 := row_at9 HS.out.1 4 _ rfl; have z5 := row_at9 HS.out.1 5 _ rfl; have z6 := row_at9 HS.out.1 6 _ rfl; have z7 := row_at9 HS.out.1 7 _ rfl; have z8 := row_at9 HS.out.1 8 _ rfl) | (go_at_call_of 54 (Value.int .i64 tt); refine (HNtt.out _).mono ?_; rintro e w4tt ⟨rfl, hb⟩; have HS : Hid (Own w4tt w.heap.size 25 #[.int .u8 8, .int .u8 o, .int .i64 d, .int .i64 a, .int .i64 b, .int .i64 ad, .int .i64 tt, .int .i64 wd, .int .i64 fr] ∧ Below w.heap.size w w4tt) := ⟨HS.out.1.below hb, HS.out.2.trans (hb.mono HS.out.2.size)⟩; clear hb; have z0 := row_at9 HS.out.1 0 _ rfl; have z1 := row_at9 HS.out.1 1 _ rfl; have z2 := row_at9 HS.out.1 2 _ rfl; have z3 := row_at9 HS.out.1 3 _ rfl; have z4 := row_at9 HS.out.1 4 _ rfl; have z5 := row_at9 HS.out.1 5 _ rfl; have z6 := row_at9 HS.out.1 6 _ rfl; have z7 := row_at9 HS.out.1 7 _ rfl; have z8 := row_at9 HS.out.1 8 _ rfl) | (go_at_call_of 54 (Value.int .i64 fr); refine (HNfr.out _).mono ?_; rintro e w4fr ⟨rfl, hb⟩; have HS : Hid (Own w4fr w.heap.size 25 #[.int .u8 8, .int .u8 o, .int .i64 d, .int .i64 a, .int .i64 b, .int .i64 ad, .int .i64 tt, .int .i64 wd, .int .i64 fr] ∧ Below w.heap.size w w4fr) := ⟨HS.out.1.below hb, HS.out.2.trans (hb.mono HS.out.2.size)⟩; clear hb; have z0 := row_at9 HS.out.1 0 _ rfl; have z1 := row_at9 HS.out.1 1 _ rfl; have z2 := row_at9 HS.out.1 2 _ rfl; have z3 := row_at9 HS.out.1 3 _ rfl; have z4 := row_at9 HS.out.1 4 _ rfl; have z5 := row_at9 HS.out.1 5 _ rfl; have z6 := row_at9 HS.out.1 6 _ rfl; have z7 := row_at9 HS.out.1 7 _ rfl; have z8 := row_at9 HS.out.1 8 _ rfl) | (go_at_call 55; refine (HNwd.out _).mono ?_; rintro e w5 ⟨rfl, hb⟩; have HS : Hid (Own w5 w.heap.size 25 #[.int .u8 8, .int .u8 o, .int .i64 d, .int .i64 a, .int .i64 b, .int .i64 ad, .int .i64 tt, .int .i64 wd, .int .i64 fr] ∧ Below w.heap.size w w5) := ⟨HS.out.1.below hb, HS.out.2.trans (hb.mono HS.out.2.size)⟩; clear hb; have z0 := row_at9 HS.out.1 0 _ rfl; have z1 := row_at9 HS.out.1 1 _ rfl; have z2 := row_at9 HS.out.1 2 _ rfl; have z3 := row_at9 HS.out.1 3 _ rfl; have z4 := row_at9 HS.out.1 4 _ rfl; have z5 := row_at9 HS.out.1 5 _ rfl; have z6 := row_at9 HS.out.1 6 _ rfl; have z7 := row_at9 HS.out.1 7 _ rfl; have z8 := row_at9 HS.out.1 8 _ rfl))
    go_ret
    refine ⟨congrArg (fun x => Ending.returned (.string x)) (bs_ext ?_), HS.out.2⟩
    have h := HTX.out
    show _ = (insT (⟨8, o, d, a, b, ad, tt, wd, fr⟩ : Ins))
    rw [h, HP2.out, HP1.out]
    simp [f0, ByteArray.data_append, itoaS, numT]
  · have f1 : 0 < fr := by omega
    have s0 : (⟨#[106, 117, 109, 112]⟩ : ByteArray).size ≤ 10 := by show 4 ≤ 10; omega
    obtain ⟨p1, hp1⟩ : ∃ p, p = (⟨#[106, 117, 109, 112]⟩ : ByteArray) ++ (⟨#[32]⟩ : ByteArray) := ⟨_, rfl⟩
    have t1 : (⟨#[32]⟩ : ByteArray).size = 1 := rfl
    have s1 : p1.size ≤ 11 := by rw [hp1, ByteArray.size_append]; omega
    have q1 : ∀ V, (Op.stringOp .add (⟨#[106, 117, 109, 112]⟩ : ByteArray) (⟨#[32]⟩ : ByteArray)).run Tryz.prog V = .ok (.string p1) V := fun V => by rw [hp1]; exact run_string_add_sum V _ _ (by omega)
    have HP1 := Lib.hid hp1
    clear hp1 t1 s0
    obtain ⟨p2, hp2⟩ : ∃ p, p = p1 ++ (itoaS tt) := ⟨_, rfl⟩
    have t2 : (itoaS tt).size ≤ 100 := itoaS_size tt HRNtt.out.1 HRNtt.out.2
    have s2 : p2.size ≤ 111 := by rw [hp2, ByteArray.size_append]; omega
    have q2 : ∀ V, (Op.stringOp .add p1 (itoaS tt)).run Tryz.prog V = .ok (.string p2) V := fun V => by rw [hp2]; exact run_string_add_sum V _ _ (by omega)
    have HP2 := Lib.hid hp2
    clear hp2 t2 s1
    obtain ⟨p3, hp3⟩ : ∃ p, p = p2 ++ (⟨#[32, 64]⟩ : ByteArray) := ⟨_, rfl⟩
    have t3 : (⟨#[32, 64]⟩ : ByteArray).size = 2 := rfl
    have s3 : p3.size ≤ 113 := by rw [hp3, ByteArray.size_append]; omega
    have q3 : ∀ V, (Op.stringOp .add p2 (⟨#[32, 64]⟩ : ByteArray)).run Tryz.prog V = .ok (.string p3) V := fun V => by rw [hp3]; exact run_string_add_sum V _ _ (by omega)
    have HP3 := Lib.hid hp3
    clear hp3 t3 s2
    obtain ⟨p4, hp4⟩ : ∃ p, p = p3 ++ (itoaS fr) := ⟨_, rfl⟩
    have t4 : (itoaS fr).size ≤ 100 := itoaS_size fr HRNfr.out.1 HRNfr.out.2
    have s4 : p4.size ≤ 213 := by rw [hp4, ByteArray.size_append]; omega
    have q4 : ∀ V, (Op.stringOp .add p3 (itoaS fr)).run Tryz.prog V = .ok (.string p4) V := fun V => by rw [hp4]; exact run_string_add_sum V _ _ (by omega)
    have HP4 := Lib.hid hp4
    clear hp4 t4 s3
    clear s4
    have z0 := row_at9 HS.out.1 0 _ rfl
    have z1 := row_at9 HS.out.1 1 _ rfl
    have z2 := row_at9 HS.out.1 2 _ rfl
    have z3 := row_at9 HS.out.1 3 _ rfl
    have z4 := row_at9 HS.out.1 4 _ rfl
    have z5 := row_at9 HS.out.1 5 _ rfl
    have z6 := row_at9 HS.out.1 6 _ rfl
    have z7 := row_at9 HS.out.1 7 _ rfl
    have z8 := row_at9 HS.out.1 8 _ rfl
    go_wp2_with (first | (go_at_call 52; refine (r_kwd8 _).mono ?_; rintro e w2 ⟨rfl, hb⟩; have HS : Hid (Own w2 w.heap.size 25 #[.int .u8 8, .int .u8 o, .int .i64 d, .int .i64 a, .int .i64 b, .int .i64 ad, .int .i64 tt, .int .i64 wd, .int .i64 fr] ∧ Below w.heap.size w w2) := ⟨HS.out.1.below hb, HS.out.2.trans (hb.mono HS.out.2.size)⟩; clear hb; have z0 := row_at9 HS.out.1 0 _ rfl; have z1 := row_at9 HS.out.1 1 _ rfl; have z2 := row_at9 HS.out.1 2 _ rfl; have z3 := row_at9 HS.out.1 3 _ rfl; have z4 := row_at9 HS.out.1 4 _ rfl; have z5 := row_at9 HS.out.1 5 _ rfl; have z6 := row_at9 HS.out.1 6 _ rfl; have z7 := row_at9 HS.out.1 7 _ rfl; have z8 := row_at9 HS.out.1 8 _ rfl) | (go_at_call 45; refine (r_uses8 _).mono ?_; rintro e w' ⟨rfl, rfl⟩) | (go_at_call_of 54 (Value.int .i64 d); refine (HNd.out _).mono ?_; rintro e w4d ⟨rfl, hb⟩; have HS : Hid (Own w4d w.heap.size 25 #[.int .u8 8, .int .u8 o, .int .i64 d, .int .i64 a, .int .i64 b, .int .i64 ad, .int .i64 tt, .int .i64 wd, .int .i64 fr] ∧ Below w.heap.size w w4d) := ⟨HS.out.1.below hb, HS.out.2.trans (hb.mono HS.out.2.size)⟩; clear hb; have z0 := row_at9 HS.out.1 0 _ rfl; have z1 := row_at9 HS.out.1 1 _ rfl; have z2 := row_at9 HS.out.1 2 _ rfl; have z3 := row_at9 HS.out.1 3 _ rfl; have z4 := row_at9 HS.out.1 4 _ rfl; have z5 := row_at9 HS.out.1 5 _ rfl; have z6 := row_at9 HS.out.1 6 _ rfl; have z7 := row_at9 HS.out.1 7 _ rfl; have z8 := row_at9 HS.out.1 8 _ rfl) | (go_at_call_of 54 (Value.int .i64 a); refine (HNa.out _).mono ?_; rintro e w4a ⟨rfl, hb⟩; have HS : Hid (Own w4a w.heap.size 25 #[.int .u8 8, .int .u8 o, .int .i64 d, .int .i64 a, .int .i64 b, .int .i64 ad, .int .i64 tt, .int .i64 wd, .int .i64 fr] ∧ Below w.heap.size w w4a) := ⟨HS.out.1.below hb, HS.out.2.trans (hb.mono HS.out.2.size)⟩; clear hb; have z0 := row_at9 HS.out.1 0 _ rfl; have z1 := row_at9 HS.out.1 1 _ rfl; have z2 := row_at9 HS.out.1 2 _ rfl; have z3 := row_at9 HS.out.1 3 _ rfl; have z4 := row_at9 HS.out.1 4 _ rfl; have z5 := row_at9 HS.out.1 5 _ rfl; have z6 := row_at9 HS.out.1 6 _ rfl; have z7 := row_at9 HS.out.1 7 _ rfl; have z8 := row_at9 HS.out.1 8 _ rfl) | (go_at_call_of 54 (Value.int .i64 b); refine (HNb.out _).mono ?_; rintro e w4b ⟨rfl, hb⟩; have HS : Hid (Own w4b w.heap.size 25 #[.int .u8 8, .int .u8 o, .int .i64 d, .int .i64 a, .int .i64 b, .int .i64 ad, .int .i64 tt, .int .i64 wd, .int .i64 fr] ∧ Below w.heap.size w w4b) := ⟨HS.out.1.below hb, HS.out.2.trans (hb.mono HS.out.2.size)⟩; clear hb; have z0 := row_at9 HS.out.1 0 _ rfl; have z1 := row_at9 HS.out.1 1 _ rfl; have z2 := row_at9 HS.out.1 2 _ rfl; have z3 := row_at9 HS.out.1 3 _ rfl; have z4 := row_at9 HS.out.1 4 _ rfl; have z5 := row_at9 HS.out.1 5 _ rfl; have z6 := row_at9 HS.out.1 6 _ rfl; have z7 := row_at9 HS.out.1 7 _ rfl; have z8 := row_at9 HS.out.1 8 _ rfl) | (go_at_call_of 54 (Value.int .i64 ad); refine (HNad.out _).mono ?_; rintro e w4ad ⟨rfl, hb⟩; have HS : Hid (Own w4ad w.heap.size 25 #[.int .u8 8, .int .u8 o, .int .i64 d, .int .i64 a, .int .i64 b, .int .i64 ad, .int .i64 tt, .int .i64 wd, .int .i64 fr] ∧ Below w.heap.size w w4ad) := ⟨HS.out.1.below hb, HS.out.2.trans (hb.mono HS.out.2.size)⟩; clear hb; have z0 := row_at9 HS.out.1 0 _ rfl; have z1 := row_at9 HS.out.1 1 _ rfl; have z2 := row_at9 HS.out.1 2 _ rfl; have z3 := row_at9 HS.out.1 3 _ rfl; have z4 := row_at9 HS.out.1 4 _ rfl; have z5 := row_at9 HS.out.1 5 _ rfl; have z6 := row_at9 HS.out.1 6 _ rfl; have z7 := row_at9 HS.out.1 7 _ rfl; have z8 := row_at9 HS.out.1 8 _ rfl) | (go_at_call_of 54 (Value.int .i64 tt); refine (HNtt.out _).mono ?_; rintro e w4tt ⟨rfl, hb⟩; have HS : Hid (Own w4tt w.heap.size 25 #[.int .u8 8, .int .u8 o, .int .i64 d, .int .i64 a, .int .i64 b, .int .i64 ad, .int .i64 tt, .int .i64 wd, .int .i64 fr] ∧ Below w.heap.size w w4tt) := ⟨HS.out.1.below hb, HS.out.2.trans (hb.mono HS.out.2.size)⟩; clear hb; have z0 := row_at9 HS.out.1 0 _ rfl; have z1 := row_at9 HS.out.1 1 _ rfl; have z2 := row_at9 HS.out.1 2 _ rfl; have z3 := row_at9 HS.out.1 3 _ rfl; have z4 := row_at9 HS.out.1 4 _ rfl; have z5 := row_at9 HS.out.1 5 _ rfl; have z6 := row_at9 HS.out.1 6 _ rfl; have z7 := row_at9 HS.out.1 7 _ rfl; have z8 := row_at9 HS.out.1 8 _ rfl) | (go_at_call_of 54 (Value.int .i64 fr); refine (HNfr.out _).mono ?_; rintro e w4fr ⟨rfl, hb⟩; have HS : Hid (Own w4fr w.heap.size 25 #[.int .u8 8, .int .u8 o, .int .i64 d, .int .i64 a, .int .i64 b, .int .i64 ad, .int .i64 tt, .int .i64 wd, .int .i64 fr] ∧ Below w.heap.size w w4fr) := ⟨HS.out.1.below hb, HS.out.2.trans (hb.mono HS.out.2.size)⟩; clear hb; have z0 := row_at9 HS.out.1 0 _ rfl; have z1 := row_at9 HS.out.1 1 _ rfl; have z2 := row_at9 HS.out.1 2 _ rfl; have z3 := row_at9 HS.out.1 3 _ rfl; have z4 := row_at9 HS.out.1 4 _ rfl; have z5 := row_at9 HS.out.1 5 _ rfl; have z6 := row_at9 HS.out.1 6 _ rfl; have z7 := row_at9 HS.out.1 7 _ rfl; have z8 := row_at9 HS.out.1 8 _ rfl) | (go_at_call 55; refine (HNwd.out _).mono ?_; rintro e w5 ⟨rfl, hb⟩; have HS : Hid (Own w5 w.heap.size 25 #[.int .u8 8, .int .u8 o, .int .i64 d, .int .i64 a, .int .i64 b, .int .i64 ad, .int .i64 tt, .int .i64 wd, .int .i64 fr] ∧ Below w.heap.size w w5) := ⟨HS.out.1.below hb, HS.out.2.trans (hb.mono HS.out.2.size)⟩; clear hb; have z0 := row_at9 HS.out.1 0 _ rfl; have z1 := row_at9 HS.out.1 1 _ rfl; have z2 := row_at9 HS.out.1 2 _ rfl; have z3 := row_at9 HS.out.1 3 _ rfl; have z4 := row_at9 HS.out.1 4 _ rfl; have z5 := row_at9 HS.out.1 5 _ rfl; have z6 := row_at9 HS.out.1 6 _ rfl; have z7 := row_at9 HS.out.1 7 _ rfl; have z8 := row_at9 HS.out.1 8 _ rfl))
    go_ret
    refine ⟨congrArg (fun x => Ending.returned (.string x)) (bs_ext ?_), HS.out.2⟩
    have h := HTX.out
    show _ = (insT (⟨8, o, d, a, b, ad, tt, wd, fr⟩ : Ins))
    rw [h, HP4.out, HP3.out, HP2.out, HP1.out]
    simp [f0, ByteArray.data_append, itoaS, numT]
set_option maxHeartbeats 8000000 in
theorem r_show9 (o d a b ad tt wd fr : Int) (hg : rgI (⟨9, o, d, a, b, ad, tt, wd, fr⟩ : Ins)) (hr : rightB (⟨9, o, d, a, b, ad, tt, wd, fr⟩ : Ins) 9223372036854775807 9223372036854775807 = true) (w : World) : Calls Tryz.prog 29 #[.agg #[.int .u8 9, .int .u8 o, .int .i64 d, .int .i64 a, .int .i64 b, .int .i64 ad, .int .i64 tt, .int .i64 wd, .int .i64 fr]] w fun e w' => e = .returned (.string ⟨(insT (⟨9, o, d, a, b, ad, tt, wd, fr⟩ : Ins)).toArray⟩) ∧ Below w.heap.size w w' := by
  have hfr := right_fr hr
  have hT : insT (⟨9, o, d, a, b, ad, tt, wd, fr⟩ : Ins) = [122, 101, 114, 111] ++ (((((([]) ++ (regT a)) ++ ([])) ++ ([])) ++ (numT tt)) ++ ([])) ++ (if fr = 0 then [] else [32, 64] ++ Lib.itoa fr) := by
    rw [ins_txt _ (show kB 9 = true by decide)]
    rfl
  have HRR : Hid (∀ X, Calls Tryz.prog 13 #[.agg #[.int .u8 9, .int .u8 o, .int .i64 d, .int .i64 a, .int .i64 b, .int .i64 ad, .int .i64 tt, .int .i64 wd, .int .i64 fr], .int .i64 9223372036854775807, .int .i64 9223372036854775807] X fun e w' => e = .returned (.bool true) ∧ Below X.heap.size X w') := fun X => by
    have h := rright_any (⟨9, o, d, a, b, ad, tt, wd, fr⟩ : Ins) hg 9223372036854775807 9223372036854775807 X
    rw [hr] at h
    exact h
  obtain ⟨_, ho, hd, ha, hb0, had, htt, hwd, hfr2⟩ := hg
  simp only at ho hd ha hb0 had htt hwd hfr2
  have HTX := Lib.hid hT
  have HNd : Hid (∀ X, Calls Tryz.prog 54 #[.int .i64 d] X fun e w' => e = .returned (.string (itoaS d)) ∧ Below X.heap.size X w') := fun X => r_nat d hd.1 hd.2 X
  have HNa : Hid (∀ X, Calls Tryz.prog 54 #[.int .i64 a] X fun e w' => e = .returned (.string (itoaS a)) ∧ Below X.heap.size X w') := fun X => r_nat a ha.1 ha.2 X
  have HNb : Hid (∀ X, Calls Tryz.prog 54 #[.int .i64 b] X fun e w' => e = .returned (.string (itoaS b)) ∧ Below X.heap.size X w') := fun X => r_nat b hb0.1 hb0.2 X
  have HNad : Hid (∀ X, Calls Tryz.prog 54 #[.int .i64 ad] X fun e w' => e = .returned (.string (itoaS ad)) ∧ Below X.heap.size X w') := fun X => r_nat ad had.1 had.2 X
  have HNtt : Hid (∀ X, Calls Tryz.prog 54 #[.int .i64 tt] X fun e w' => e = .returned (.string (itoaS tt)) ∧ Below X.heap.size X w') := fun X => r_nat tt htt.1 htt.2 X
  have HNfr : Hid (∀ X, Calls Tryz.prog 54 #[.int .i64 fr] X fun e w' => e = .returned (.string (itoaS fr)) ∧ Below X.heap.size X w') := fun X => r_nat fr hfr2.1 hfr2.2 X
  have HRNd := Lib.hid hd
  have HRNa := Lib.hid ha
  have HRNb := Lib.hid hb0
  have HRNad := Lib.hid had
  have HRNtt := Lib.hid htt
  have HRNfr := Lib.hid hfr2
  have HRNwd := Lib.hid hwd
  have HNwd : Hid (∀ X, Calls Tryz.prog 55 #[.int .i64 wd] X fun e w' => e = .returned (.string (itoaS wd)) ∧ Below X.heap.size X w') := fun X => rprint_any wd hwd.1 hwd.2 X
  have al : Below w.heap.size w (w.alloc (.cells #[.int .u8 9, .int .u8 o, .int .i64 d, .int .i64 a, .int .i64 b, .int .i64 ad, .int .i64 tt, .int .i64 wd, .int .i64 fr] 25)) := (Below.refl _ w).alloc (Nat.le_refl _) _
  have O0 := Own.new w 25 #[.int .u8 9, .int .u8 o, .int .i64 d, .int .i64 a, .int .i64 b, .int .i64 ad, .int .i64 tt, .int .i64 wd, .int .i64 fr]
  obtain ⟨W0, hW0⟩ : ∃ W, W = w.alloc (.cells #[.int .u8 9, .int .u8 o, .int .i64 d, .int .i64 a, .int .i64 b, .int .i64 ad, .int .i64 tt, .int .i64 wd, .int .i64 fr] 25) := ⟨_, rfl⟩
  rw [← hW0] at al O0
  have HW0 := Lib.hid hW0
  have HS0 : Hid (Own W0 w.heap.size 25 #[.int .u8 9, .int .u8 o, .int .i64 d, .int .i64 a, .int .i64 b, .int .i64 ad, .int .i64 tt, .int .i64 wd, .int .i64 fr] ∧ Below w.heap.size w W0) := ⟨O0, al⟩
  clear hT al hW0 ho hd ha hb0 had htt hwd hfr2 hr
  go_enter Tryz.func29, Tryz.ntmps29
  go_upto_region 1 with fail
  rw [← HW0.out]
  clear HW0
  go_upto_region 3 with (first | (refine ld rowI rfl rfl rfl O0 rfl ?_) | (go_at_call 13; refine (HRR.out _).mono ?_; rintro e w1 ⟨rfl, hb⟩; have HS : Hid (Own w1 w.heap.size 25 #[.int .u8 9, .int .u8 o, .int .i64 d, .int .i64 a, .int .i64 b, .int .i64 ad, .int .i64 tt, .int .i64 wd, .int .i64 fr] ∧ Below w.heap.size w w1) := ⟨HS0.out.1.below hb, HS0.out.2.trans (hb.mono HS0.out.2.size)⟩; clear hb O0))
  clear HS0 HRR
  rename_i w1
  by_cases f0 : fr = 0
  · have f1 : ¬ 0 < fr := by omega
    have s0 : (⟨#[122, 101, 114, 111]⟩ : ByteArray).size ≤ 10 := by show 4 ≤ 10; omega
    obtain ⟨p1, hp1⟩ : ∃ p, p = (⟨#[122, 101, 114, 111]⟩ : ByteArray) ++ (⟨#[32, 114]⟩ : ByteArray) := ⟨_, rfl⟩
    have t1 : (⟨#[32, 114]⟩ : ByteArray).size = 2 := rfl
    have s1 : p1.size ≤ 12 := by rw [hp1, ByteArray.size_append]; omega
    have q1 : ∀ V, (Op.stringOp .add (⟨#[122, 101, 114, 111]⟩ : ByteArray) (⟨#[32, 114]⟩ : ByteArray)).run Tryz.prog V = .ok (.string p1) V := fun V => by rw [hp1]; exact run_string_add_sum V _ _ (by omega)
    have HP1 := Lib.hid hp1
    clear hp1 t1 s0
    obtain ⟨p2, hp2⟩ : ∃ p, p = p1 ++ (itoaS a) := ⟨_, rfl⟩
    have t2 : (itoaS a).size ≤ 100 := itoaS_size a HRNa.out.1 HRNa.out.2
    have s2 : p2.size ≤ 112 := by rw [hp2, ByteArray.size_append]; omega
    have q2 : ∀ V, (Op.stringOp .add p1 (itoaS a)).run Tryz.prog V = .ok (.string p2) V := fun V => by rw [hp2]; exact run_string_add_sum V _ _ (by omega)
    have HP2 := Lib.hid hp2
    clear hp2 t2 s1
    obtain ⟨p3, hp3⟩ : ∃ p, p = p2 ++ (⟨#[32]⟩ : ByteArray) := ⟨_, rfl⟩
    have t3 : (⟨#[32]⟩ : ByteArray).size = 1 := rfl
    have s3 : p3.size ≤ 113 := by rw [hp3, ByteArray.size_append]; omega
    have q3 : ∀ V, (Op.stringOp .add p2 (⟨#[32]⟩ : ByteArray)).run Tryz.prog V = .ok (.string p3) V := fun V => by rw [hp3]; exact run_string_add_sum V _ _ (by omega)
    have HP3 := Lib.hid hp3
    clear hp3 t3 s2
    obtain ⟨p4, hp4⟩ : ∃ p, p = p3 ++ (itoaS tt) := ⟨_, rfl⟩
    have t4 : (itoaS tt).size ≤ 100 := itoaS_size tt HRNtt.out.1 HRNtt.out.2
    have s4 : p4.size ≤ 213 := by rw [hp4, ByteArray.size_append]; omega
    have q4 : ∀ V, (Op.stringOp .add p3 (itoaS tt)).run Tryz.prog V = .ok (.string p4) V := fun V => by rw [hp4]; exact run_string_add_sum V _ _ (by omega)
    have HP4 := Lib.hid hp4
    clear hp4 t4 s3
    clear s4
    have z0 := row_at9 HS.out.1 0 _ rfl
    have z1 := row_at9 HS.out.1 1 _ rfl
    have z2 := row_at9 HS.out.1 2 _ rfl
    have z3 := row_at9 HS.out.1 3 _ rfl
    have z4 := row_at9 HS.out.1 4 _ rfl
    have z5 := row_at9 HS.out.1 5 _ rfl
    have z6 := row_at9 HS.out.1 6 _ rfl
    have z7 := row_at9 HS.out.1 7 _ rfl
    have z8 := row_at9 HS.out.1 8 _ rfl
    go_wp2_with (first | (go_at_call 52; refine (r_kwd9 _).mono ?_; rintro e w2 ⟨rfl, hb⟩; have HS : Hid (Own w2 w.heap.size 25 #[.int .u8 9, .int .u8 o, .int .i64 d, .int .i64 a, .int .i64 b, .int .i64 ad, .int .i64 tt, .int .i64 wd, .int .i64 fr] ∧ Below w.heap.size w w2) := ⟨HS.out.1.below hb, HS.out.2.trans (hb.mono HS.out.2.size)⟩; clear hb; have z0 := row_at9 HS.out.1 0 _ rfl; have z1 := row_at9 HS.out.1 1 _ rfl; have z2 := row_at9 HS.out.1 2 _ rfl; have z3 := row_at9 HS.out.1 3 _ rfl; have z4 := row_at9 HS.out.1 4 _ rfl; have z5 := row_at9 HS.out.1 5 _ rfl; have z6 := row_at9 HS.out.1 6 _ rfl; have z7 := row_at9 HS.out.1 7 _ rfl; have z8 := row_at9 HS.out.1 8 _ rfl) | (go_at_call 45; refine (r_uses9 _).mono ?_; rintro e w' ⟨rfl, rfl⟩) | (go_at_call_of 54 (Value.int .i64 d); refine (HNd.out _).mono ?_; rintro e w4d ⟨rfl, hb⟩; have HS : Hid (Own w4d w.heap.size 25 #[.int .u8 9, .int .u8 o, .int .i64 d, .int .i64 a, .int .i64 b, .int .i64 ad, .int .i64 tt, .int .i64 wd, .int .i64 fr] ∧ Below w.heap.size w w4d) := ⟨HS.out.1.below hb, HS.out.2.trans (hb.mono HS.out.2.size)⟩; clear hb; have z0 := row_at9 HS.out.1 0 _ rfl; have z1 := row_at9 HS.out.1 1 _ rfl; have z2 := row_at9 HS.out.1 2 _ rfl; have z3 := row_at9 HS.out.1 3 _ rfl; have z4 := row_at9 HS.out.1 4 _ rfl; have z5 := row_at9 HS.out.1 5 _ rfl; have z6 := row_at9 HS.out.1 6 _ rfl; have z7 := row_at9 HS.out.1 7 _ rfl; have z8 := row_at9 HS.out.1 8 _ rfl) | (go_at_call_of 54 (Value.int .i64 a); refine (HNa.out _).mono ?_; rintro e w4a ⟨rfl, hb⟩; have HS : Hid (Own w4a w.heap.size 25 #[.int .u8 9, .int .u8 o, .int .i64 d, .int .i64 a, .int .i64 b, .int .i64 ad, .int .i64 tt, .int .i64 wd, .int .i64 fr] ∧ Below w.heap.size w w4a) := ⟨HS.out.1.below hb, HS.out.2.trans (hb.mono HS.out.2.size)⟩; clear hb; have z0 := row_at9 HS.out.1 0 _ rfl; have z1 := row_at9 HS.out.1 1 _ rfl; have z2 := row_at9 HS.out.1 2 _ rfl; have z3 := row_at9 HS.out.1 3 _ rfl; have z4 := row_at9 HS.out.1 4 _ rfl; have z5 := row_at9 HS.out.1 5 _ rfl; have z6 := row_at9 HS.out.1 6 _ rfl; have z7 := row_at9 HS.out.1 7 _ rfl; have z8 := row_at9 HS.out.1 8 _ rfl) | (go_at_call_of 54 (Value.int .i64 b); refine (HNb.out _).mono ?_; rintro e w4b ⟨rfl, hb⟩; have HS : Hid (Own w4b w.heap.size 25 #[.int .u8 9, .int .u8 o, .int .i64 d, .int .i64 a, .int .i64 b, .int .i64 ad, .int .i64 tt, .int .i64 wd, .int .i64 fr] ∧ Below w.heap.size w w4b) := ⟨HS.out.1.below hb, HS.out.2.trans (hb.mono HS.out.2.size)⟩; clear hb; have z0 := row_at9 HS.out.1 0 _ rfl; have z1 := row_at9 HS.out.1 1 _ rfl; have z2 := row_at9 HS.out.1 2 _ rfl; have z3 := row_at9 HS.out.1 3 _ rfl; have z4 := row_at9 HS.out.1 4 _ rfl; have z5 := row_at9 HS.out.1 5 _ rfl; have z6 := row_at9 HS.out.1 6 _ rfl; have z7 := row_at9 HS.out.1 7 _ rfl; have z8 := row_at9 HS.out.1 8 _ rfl) | (go_at_call_of 54 (Value.int .i64 ad); refine (HNad.out _).mono ?_; rintro e w4ad ⟨rfl, hb⟩; have HS : Hid (Own w4ad w.heap.size 25 #[.int .u8 9, .int .u8 o, .int .i64 d, .int .i64 a, .int .i64 b, .int .i64 ad, .int .i64 tt, .int .i64 wd, .int .i64 fr] ∧ Below w.heap.size w w4ad) := ⟨HS.out.1.below hb, HS.out.2.trans (hb.mono HS.out.2.size)⟩; clear hb; have z0 := row_at9 HS.out.1 0 _ rfl; have z1 := row_at9 HS.out.1 1 _ rfl; have z2 := row_at9 HS.out.1 2 _ rfl; have z3 := row_at9 HS.out.1 3 _ rfl; have z4 := row_at9 HS.out.1 4 _ rfl; have z5 := row_at9 HS.out.1 5 _ rfl; have z6 := row_at9 HS.out.1 6 _ rfl; have z7 := row_at9 HS.out.1 7 _ rfl; have z8 := row_at9 HS.out.1 8 _ rfl) | (go_at_call_of 54 (Value.int .i64 tt); refine (HNtt.out _).mono ?_; rintro e w4tt ⟨rfl, hb⟩; have HS : Hid (Own w4tt w.heap.size 25 #[.int .u8 9, .int .u8 o, .int .i64 d, .int .i64 a, .int .i64 b, .int .i64 ad, .int .i64 tt, .int .i64 wd, .int .i64 fr] ∧ Below w.heap.size w w4tt) := ⟨HS.out.1.below hb, HS.out.2.trans (hb.mono HS.out.2.size)⟩; clear hb; have z0 := row_at9 HS.out.1 0 _ rfl; have z1 := row_at9 HS.out.1 1 _ rfl; have z2 := row_at9 HS.out.1 2 _ rfl; have z3 := row_at9 HS.out.1 3 _ rfl; have z4 := row_at9 HS.out.1 4 _ rfl; have z5 := row_at9 HS.out.1 5 _ rfl; have z6 := row_at9 HS.out.1 6 _ rfl; have z7 := row_at9 HS.out.1 7 _ rfl; have z8 := row_at9 HS.out.1 8 _ rfl) | (go_at_call_of 54 (Value.int .i64 fr); refine (HNfr.out _).mono ?_; rintro e w4fr ⟨rfl, hb⟩; have HS : Hid (Own w4fr w.heap.size 25 #[.int .u8 9, .int .u8 o, .int .i64 d, .int .i64 a, .int .i64 b, .int .i64 ad, .int .i64 tt, .int .i64 wd, .int .i64 fr] ∧ Below w.heap.size w w4fr) := ⟨HS.out.1.below hb, HS.out.2.trans (hb.mono HS.out.2.size)⟩; clear hb; have z0 := row_at9 HS.out.1 0 _ rfl; have z1 := row_at9 HS.out.1 1 _ rfl; have z2 := row_at9 HS.out.1 2 _ rfl; have z3 := row_at9 HS.out.1 3 _ rfl; have z4 := row_at9 HS.out.1 4 _ rfl; have z5 := row_at9 HS.out.1 5 _ rfl; have z6 := row_at9 HS.out.1 6 _ rfl; have z7 := row_at9 HS.out.1 7 _ rfl; have z8 := row_at9 HS.out.1 8 _ rfl) | (go_at_call 55; refine (HNwd.out _).mono ?_; rintro e w5 ⟨rfl, hb⟩; have HS : Hid (Own w5 w.heap.size 25 #[.int .u8 9, .int .u8 o, .int .i64 d, .int .i64 a, .int .i64 b, .int .i64 ad, .int .i64 tt, .int .i64 wd, .int .i64 fr] ∧ Below w.heap.size w w5) := ⟨HS.out.1.below hb, HS.out.2.trans (hb.mono HS.out.2.size)⟩; clear hb; have z0 := row_at9 HS.out.1 0 _ rfl; have z1 := row_at9 HS.out.1 1 _ rfl; have z2 := row_at9 HS.out.1 2 _ rfl; have z3 := row_at9 HS.out.1 3 _ rfl; have z4 := row_at9 HS.out.1 4 _ rfl; have z5 := row_at9 HS.out.1 5 _ rfl; have z6 := row_at9 HS.out.1 6 _ rfl; have z7 := row_at9 HS.out.1 7 _ rfl; have z8 := row_at9 HS.out.1 8 _ rfl))
    go_ret
    refine ⟨congrArg (fun x => Ending.returned (.string x)) (bs_ext ?_), HS.out.2⟩
    have h := HTX.out
    show _ = (insT (⟨9, o, d, a, b, ad, tt, wd, fr⟩ : Ins))
    rw [h, HP4.out, HP3.out, HP2.out, HP1.out]
    simp [f0, ByteArray.data_append, itoaS, regT, numT]
  · have f1 : 0 < fr := by omega
    have s0 : (⟨#[122, 101, 114, 111]⟩ : ByteArray).size ≤ 10 := by show 4 ≤ 10; omega
    obtain ⟨p1, hp1⟩ : ∃ p, p = (⟨#[122, 101, 114, 111]⟩ : ByteArray) ++ (⟨#[32, 114]⟩ : ByteArray) := ⟨_, rfl⟩
    have t1 : (⟨#[32, 114]⟩ : ByteArray).size = 2 := rfl
    have s1 : p1.size ≤ 12 := by rw [hp1, ByteArray.size_append]; omega
    have q1 : ∀ V, (Op.stringOp .add (⟨#[122, 101, 114, 111]⟩ : ByteArray) (⟨#[32, 114]⟩ : ByteArray)).run Tryz.prog V = .ok (.string p1) V := fun V => by rw [hp1]; exact run_string_add_sum V _ _ (by omega)
    have HP1 := Lib.hid hp1
    clear hp1 t1 s0
    obtain ⟨p2, hp2⟩ : ∃ p, p = p1 ++ (itoaS a) := ⟨_, rfl⟩
    have t2 : (itoaS a).size ≤ 100 := itoaS_size a HRNa.out.1 HRNa.out.2
    have s2 : p2.size ≤ 112 := by rw [hp2, ByteArray.size_append]; omega
    have q2 : ∀ V, (Op.stringOp .add p1 (itoaS a)).run Tryz.prog V = .ok (.string p2) V := fun V => by rw [hp2]; exact run_string_add_sum V _ _ (by omega)
    have HP2 := Lib.hid hp2
    clear hp2 t2 s1
    obtain ⟨p3, hp3⟩ : ∃ p, p = p2 ++ (⟨#[32]⟩ : ByteArray) := ⟨_, rfl⟩
    have t3 : (⟨#[32]⟩ : ByteArray).size = 1 := rfl
    have s3 : p3.size ≤ 113 := by rw [hp3, ByteArray.size_append]; omega
    have q3 : ∀ V, (Op.stringOp .add p2 (⟨#[32]⟩ : ByteArray)).run Tryz.prog V = .ok (.string p3) V := fun V => by rw [hp3]; exact run_string_add_sum V _ _ (by omega)
    have HP3 := Lib.hid hp3
    clear hp3 t3 s2
    obtain ⟨p4, hp4⟩ : ∃ p, p = p3 ++ (itoaS tt) := ⟨_, rfl⟩
    have t4 : (itoaS tt).size ≤ 100 := itoaS_size tt HRNtt.out.1 HRNtt.out.2
    have s4 : p4.size ≤ 213 := by rw [hp4, ByteArray.size_append]; omega
    have q4 : ∀ V, (Op.stringOp .add p3 (itoaS tt)).run Tryz.prog V = .ok (.string p4) V := fun V => by rw [hp4]; exact run_string_add_sum V _ _ (by omega)
    have HP4 := Lib.hid hp4
    clear hp4 t4 s3
    obtain ⟨p5, hp5⟩ : ∃ p, p = p4 ++ (⟨#[32, 64]⟩ : ByteArray) := ⟨_, rfl⟩
    have t5 : (⟨#[32, 64]⟩ : ByteArray).size = 2 := rfl
    have s5 : p5.size ≤ 215 := by rw [hp5, ByteArray.size_append]; omega
    have q5 : ∀ V, (Op.stringOp .add p4 (⟨#[32, 64]⟩ : ByteArray)).run Tryz.prog V = .ok (.string p5) V := fun V => by rw [hp5]; exact run_string_add_sum V _ _ (by omega)
    have HP5 := Lib.hid hp5
    clear hp5 t5 s4
    obtain ⟨p6, hp6⟩ : ∃ p, p = p5 ++ (itoaS fr) := ⟨_, rfl⟩
    have t6 : (itoaS fr).size ≤ 100 := itoaS_size fr HRNfr.out.1 HRNfr.out.2
    have s6 : p6.size ≤ 315 := by rw [hp6, ByteArray.size_append]; omega
    have q6 : ∀ V, (Op.stringOp .add p5 (itoaS fr)).run Tryz.prog V = .ok (.string p6) V := fun V => by rw [hp6]; exact run_string_add_sum V _ _ (by omega)
    have HP6 := Lib.hid hp6
    clear hp6 t6 s5
    clear s6
    have z0 := row_at9 HS.out.1 0 _ rfl
    have z1 := row_at9 HS.out.1 1 _ rfl
    have z2 := row_at9 HS.out.1 2 _ rfl
    have z3 := row_at9 HS.out.1 3 _ rfl
    have z4 := row_at9 HS.out.1 4 _ rfl
    have z5 := row_at9 HS.out.1 5 _ rfl
    have z6 := row_at9 HS.out.1 6 _ rfl
    have z7 := row_at9 HS.out.1 7 _ rfl
    have z8 := row_at9 HS.out.1 8 _ rfl
    go_wp2_with (first | (go_at_call 52; refine (r_kwd9 _).mono ?_; rintro e w2 ⟨rfl, hb⟩; have HS : Hid (Own w2 w.heap.size 25 #[.int .u8 9, .int .u8 o, .int .i64 d, .int .i64 a, .int .i64 b, .int .i64 ad, .int .i64 tt, .int .i64 wd, .int .i64 fr] ∧ Below w.heap.size w w2) := ⟨HS.out.1.below hb, HS.out.2.trans (hb.mono HS.out.2.size)⟩; clear hb; have z0 := row_at9 HS.out.1 0 _ rfl; have z1 := row_at9 HS.out.1 1 _ rfl; have z2 := row_at9 HS.out.1 2 _ rfl; have z3 := row_at9 HS.out.1 3 _ rfl; have z4 := row_at9 HS.out.1 4 _ rfl; have z5 := row_at9 HS.out.1 5 _ rfl; have z6 := row_at9 HS.out.1 6 _ rfl; have z7 := row_at9 HS.out.1 7 _ rfl; have z8 := row_at9 HS.out.1 8 _ rfl) | (go_at_call 45; refine (r_uses9 _).mono ?_; rintro e w' ⟨rfl, rfl⟩) | (go_at_call_of 54 (Value.int .i64 d); refine (HNd.out _).mono ?_; rintro e w4d ⟨rfl, hb⟩; have HS : Hid (Own w4d w.heap.size 25 #[.int .u8 9, .int .u8 o, .int .i64 d, .int .i64 a, .int .i64 b, .int .i64 ad, .int .i64 tt, .int .i64 wd, .int .i64 fr] ∧ Below w.heap.size w w4d) := ⟨HS.out.1.below hb, HS.out.2.trans (hb.mono HS.out.2.size)⟩; clear hb; have z0 := row_at9 HS.out.1 0 _ rfl; have z1 := row_at9 HS.out.1 1 _ rfl; have z2 := row_at9 HS.out.1 2 _ rfl; have z3 := row_at9 HS.out.1 3 _ rfl; have z4 := row_at9 HS.out.1 4 _ rfl; have z5 := row_at9 HS.out.1 5 _ rfl; have z6 := row_at9 HS.out.1 6 _ rfl; have z7 := row_at9 HS.out.1 7 _ rfl; have z8 := row_at9 HS.out.1 8 _ rfl) | (go_at_call_of 54 (Value.int .i64 a); refine (HNa.out _).mono ?_; rintro e w4a ⟨rfl, hb⟩; have HS : Hid (Own w4a w.heap.size 25 #[.int .u8 9, .int .u8 o, .int .i64 d, .int .i64 a, .int .i64 b, .int .i64 ad, .int .i64 tt, .int .i64 wd, .int .i64 fr] ∧ Below w.heap.size w w4a) := ⟨HS.out.1.below hb, HS.out.2.trans (hb.mono HS.out.2.size)⟩; clear hb; have z0 := row_at9 HS.out.1 0 _ rfl; have z1 := row_at9 HS.out.1 1 _ rfl; have z2 := row_at9 HS.out.1 2 _ rfl; have z3 := row_at9 HS.out.1 3 _ rfl; have z4 := row_at9 HS.out.1 4 _ rfl; have z5 := row_at9 HS.out.1 5 _ rfl; have z6 := row_at9 HS.out.1 6 _ rfl; have z7 := row_at9 HS.out.1 7 _ rfl; have z8 := row_at9 HS.out.1 8 _ rfl) | (go_at_call_of 54 (Value.int .i64 b); refine (HNb.out _).mono ?_; rintro e w4b ⟨rfl, hb⟩; have HS : Hid (Own w4b w.heap.size 25 #[.int .u8 9, .int .u8 o, .int .i64 d, .int .i64 a, .int .i64 b, .int .i64 ad, .int .i64 tt, .int .i64 wd, .int .i64 fr] ∧ Below w.heap.size w w4b) := ⟨HS.out.1.below hb, HS.out.2.trans (hb.mono HS.out.2.size)⟩; clear hb; have z0 := row_at9 HS.out.1 0 _ rfl; have z1 := row_at9 HS.out.1 1 _ rfl; have z2 := row_at9 HS.out.1 2 _ rfl; have z3 := row_at9 HS.out.1 3 _ rfl; have z4 := row_at9 HS.out.1 4 _ rfl; have z5 := row_at9 HS.out.1 5 _ rfl; have z6 := row_at9 HS.out.1 6 _ rfl; have z7 := row_at9 HS.out.1 7 _ rfl; have z8 := row_at9 HS.out.1 8 _ rfl) | (go_at_call_of 54 (Value.int .i64 ad); refine (HNad.out _).mono ?_; rintro e w4ad ⟨rfl, hb⟩; have HS : Hid (Own w4ad w.heap.size 25 #[.int .u8 9, .int .u8 o, .int .i64 d, .int .i64 a, .int .i64 b, .int .i64 ad, .int .i64 tt, .int .i64 wd, .int .i64 fr] ∧ Below w.heap.size w w4ad) := ⟨HS.out.1.below hb, HS.out.2.trans (hb.mono HS.out.2.size)⟩; clear hb; have z0 := row_at9 HS.out.1 0 _ rfl; have z1 := row_at9 HS.out.1 1 _ rfl; have z2 := row_at9 HS.out.1 2 _ rfl; have z3 := row_at9 HS.out.1 3 _ rfl; have z4 := row_at9 HS.out.1 4 _ rfl; have z5 := row_at9 HS.out.1 5 _ rfl; have z6 := row_at9 HS.out.1 6 _ rfl; have z7 := row_at9 HS.out.1 7 _ rfl; have z8 := row_at9 HS.out.1 8 _ rfl) | (go_at_call_of 54 (Value.int .i64 tt); refine (HNtt.out _).mono ?_; rintro e w4tt ⟨rfl, hb⟩; have HS : Hid (Own w4tt w.heap.size 25 #[.int .u8 9, .int .u8 o, .int .i64 d, .int .i64 a, .int .i64 b, .int .i64 ad, .int .i64 tt, .int .i64 wd, .int .i64 fr] ∧ Below w.heap.size w w4tt) := ⟨HS.out.1.below hb, HS.out.2.trans (hb.mono HS.out.2.size)⟩; clear hb; have z0 := row_at9 HS.out.1 0 _ rfl; have z1 := row_at9 HS.out.1 1 _ rfl; have z2 := row_at9 HS.out.1 2 _ rfl; have z3 := row_at9 HS.out.1 3 _ rfl; have z4 := row_at9 HS.out.1 4 _ rfl; have z5 := row_at9 HS.out.1 5 _ rfl; have z6 := row_at9 HS.out.1 6 _ rfl; have z7 := row_at9 HS.out.1 7 _ rfl; have z8 := row_at9 HS.out.1 8 _ rfl) | (go_at_call_of 54 (Value.int .i64 fr); refine (HNfr.out _).mono ?_; rintro e w4fr ⟨rfl, hb⟩; have HS : Hid (Own w4fr w.heap.size 25 #[.int .u8 9, .int .u8 o, .int .i64 d, .int .i64 a, .int .i64 b, .int .i64 ad, .int .i64 tt, .int .i64 wd, .int .i64 fr] ∧ Below w.heap.size w w4fr) := ⟨HS.out.1.below hb, HS.out.2.trans (hb.mono HS.out.2.size)⟩; clear hb; have z0 := row_at9 HS.out.1 0 _ rfl; have z1 := row_at9 HS.out.1 1 _ rfl; have z2 := row_at9 HS.out.1 2 _ rfl; have z3 := row_at9 HS.out.1 3 _ rfl; have z4 := row_at9 HS.out.1 4 _ rfl; have z5 := row_at9 HS.out.1 5 _ rfl; have z6 := row_at9 HS.out.1 6 _ rfl; have z7 := row_at9 HS.out.1 7 _ rfl; have z8 := row_at9 HS.out.1 8 _ rfl) | (go_at_call 55; refine (HNwd.out _).mono ?_; rintro e w5 ⟨rfl, hb⟩; have HS : Hid (Own w5 w.heap.size 25 #[.int .u8 9, .int .u8 o, .int .i64 d, .int .i64 a, .int .i64 b, .int .i64 ad, .int .i64 tt, .int .i64 wd, .int .i64 fr] ∧ Below w.heap.size w w5) := ⟨HS.out.1.below hb, HS.out.2.trans (hb.mono HS.out.2.size)⟩; clear hb; have z0 := row_at9 HS.out.1 0 _ rfl; have z1 := row_at9 HS.out.1 1 _ rfl; have z2 := row_at9 HS.out.1 2 _ rfl; have z3 := row_at9 HS.out.1 3 _ rfl; have z4 := row_at9 HS.out.1 4 _ rfl; have z5 := row_at9 HS.out.1 5 _ rfl; have z6 := row_at9 HS.out.1 6 _ rfl; have z7 := row_at9 HS.out.1 7 _ rfl; have z8 := row_at9 HS.out.1 8 _ rfl))
    go_ret
    refine ⟨congrArg (fun x => Ending.returned (.string x)) (bs_ext ?_), HS.out.2⟩
    have h := HTX.out
    show _ = (insT (⟨9, o, d, a, b, ad, tt, wd, fr⟩ : Ins))
    rw [h, HP6.out, HP5.out, HP4.out, HP3.out, HP2.out, HP1.out]
    simp [f0, ByteArray.data_append, itoaS, regT, numT]
set_option maxHeartbeats 8000000 in
theorem r_show10 (o d a b ad tt wd fr : Int) (hg : rgI (⟨10, o, d, a, b, ad, tt, wd, fr⟩ : Ins)) (hr : rightB (⟨10, o, d, a, b, ad, tt, wd, fr⟩ : Ins) 9223372036854775807 9223372036854775807 = true) (w : World) : Calls Tryz.prog 29 #[.agg #[.int .u8 10, .int .u8 o, .int .i64 d, .int .i64 a, .int .i64 b, .int .i64 ad, .int .i64 tt, .int .i64 wd, .int .i64 fr]] w fun e w' => e = .returned (.string ⟨(insT (⟨10, o, d, a, b, ad, tt, wd, fr⟩ : Ins)).toArray⟩) ∧ Below w.heap.size w w' := by
  have hfr := right_fr hr
  have hT : insT (⟨10, o, d, a, b, ad, tt, wd, fr⟩ : Ins) = [104, 97, 108, 116] ++ (((((([]) ++ ([])) ++ ([])) ++ ([])) ++ ([])) ++ ([])) ++ (if fr = 0 then [] else [32, 64] ++ Lib.itoa fr) := by
    rw [ins_txt _ (show kB 10 = true by decide)]
    rfl
  have HRR : Hid (∀ X, Calls Tryz.prog 13 #[.agg #[.int .u8 10, .int .u8 o, .int .i64 d, .int .i64 a, .int .i64 b, .int .i64 ad, .int .i64 tt, .int .i64 wd, .int .i64 fr], .int .i64 9223372036854775807, .int .i64 9223372036854775807] X fun e w' => e = .returned (.bool true) ∧ Below X.heap.size X w') := fun X => by
    have h := rright_any (⟨10, o, d, a, b, ad, tt, wd, fr⟩ : Ins) hg 9223372036854775807 9223372036854775807 X
    rw [hr] at h
    exact h
  obtain ⟨_, ho, hd, ha, hb0, had, htt, hwd, hfr2⟩ := hg
  simp only at ho hd ha hb0 had htt hwd hfr2
  have HTX := Lib.hid hT
  have HNd : Hid (∀ X, Calls Tryz.prog 54 #[.int .i64 d] X fun e w' => e = .returned (.string (itoaS d)) ∧ Below X.heap.size X w') := fun X => r_nat d hd.1 hd.2 X
  have HNa : Hid (∀ X, Calls Tryz.prog 54 #[.int .i64 a] X fun e w' => e = .returned (.string (itoaS a)) ∧ Below X.heap.size X w') := fun X => r_nat a ha.1 ha.2 X
  have HNb : Hid (∀ X, Calls Tryz.prog 54 #[.int .i64 b] X fun e w' => e = .returned (.string (itoaS b)) ∧ Below X.heap.size X w') := fun X => r_nat b hb0.1 hb0.2 X
  have HNad : Hid (∀ X, Calls Tryz.prog 54 #[.int .i64 ad] X fun e w' => e = .returned (.string (itoaS ad)) ∧ Below X.heap.size X w') := fun X => r_nat ad had.1 had.2 X
  have HNtt : Hid (∀ X, Calls Tryz.prog 54 #[.int .i64 tt] X fun e w' => e = .returned (.string (itoaS tt)) ∧ Below X.heap.size X w') := fun X => r_nat tt htt.1 htt.2 X
  have HNfr : Hid (∀ X, Calls Tryz.prog 54 #[.int .i64 fr] X fun e w' => e = .returned (.string (itoaS fr)) ∧ Below X.heap.size X w') := fun X => r_nat fr hfr2.1 hfr2.2 X
  have HRNd := Lib.hid hd
  have HRNa := Lib.hid ha
  have HRNb := Lib.hid hb0
  have HRNad := Lib.hid had
  have HRNtt := Lib.hid htt
  have HRNfr := Lib.hid hfr2
  have HRNwd := Lib.hid hwd
  have HNwd : Hid (∀ X, Calls Tryz.prog 55 #[.int .i64 wd] X fun e w' => e = .returned (.string (itoaS wd)) ∧ Below X.heap.size X w') := fun X => rprint_any wd hwd.1 hwd.2 X
  have al : Below w.heap.size w (w.alloc (.cells #[.int .u8 10, .int .u8 o, .int .i64 d, .int .i64 a, .int .i64 b, .int .i64 ad, .int .i64 tt, .int .i64 wd, .int .i64 fr] 25)) := (Below.refl _ w).alloc (Nat.le_refl _) _
  have O0 := Own.new w 25 #[.int .u8 10, .int .u8 o, .int .i64 d, .int .i64 a, .int .i64 b, .int .i64 ad, .int .i64 tt, .int .i64 wd, .int .i64 fr]
  obtain ⟨W0, hW0⟩ : ∃ W, W = w.alloc (.cells #[.int .u8 10, .int .u8 o, .int .i64 d, .int .i64 a, .int .i64 b, .int .i64 ad, .int .i64 tt, .int .i64 wd, .int .i64 fr] 25) := ⟨_, rfl⟩
  rw [← hW0] at al O0
  have HW0 := Lib.hid hW0
  have HS0 : Hid (Own W0 w.heap.size 25 #[.int .u8 10, .int .u8 o, .int .i64 d, .int .i64 a, .int .i64 b, .int .i64 ad, .int .i64 tt, .int .i64 wd, .int .i64 fr] ∧ Below w.heap.size w W0) := ⟨O0, al⟩
  clear hT al hW0 ho hd ha hb0 had htt hwd hfr2 hr
  go_enter Tryz.func29, Tryz.ntmps29
  go_upto_region 1 with fail
  rw [← HW0.out]
  clear HW0
  go_upto_region 3 with (first | (refine ld rowI rfl rfl rfl O0 rfl ?_) | (go_at_call 13; refine (HRR.out _).mono ?_; rintro e w1 ⟨rfl, hb⟩; have HS : Hid (Own w1 w.heap.size 25 #[.int .u8 10, .int .u8 o, .int .i64 d, .int .i64 a, .int .i64 b, .int .i64 ad, .int .i64 tt, .int .i64 wd, .int .i64 fr] ∧ Below w.heap.size w w1) := ⟨HS0.out.1.below hb, HS0.out.2.trans (hb.mono HS0.out.2.size)⟩; clear hb O0))
  clear HS0 HRR
  rename_i w1
  by_cases f0 : fr = 0
  · have f1 : ¬ 0 < fr := by omega
    have s0 : (⟨#[104, 97, 108, 116]⟩ : ByteArray).size ≤ 10 := by show 4 ≤ 10; omega
    clear s0
    have z0 := row_at9 HS.out.1 0 _ rfl
    have z1 := row_at9 HS.out.1 1 _ rfl
    have z2 := row_at9 HS.out.1 2 _ rfl
    have z3 := row_at9 HS.out.1 3 _ rfl
    have z4 := row_at9 HS.out.1 4 _ rfl
    have z5 := row_at9 HS.out.1 5 _ rfl
    have z6 := row_at9 HS.out.1 6 _ rfl
    have z7 := row_at9 HS.out.1 7 _ rfl
    have z8 := row_at9 HS.out.1 8 _ rfl
    go_wp2_with (first | (go_at_call 52; refine (r_kwd10 _).mono ?_; rintro e w2 ⟨rfl, hb⟩; have HS : Hid (Own w2 w.heap.size 25 #[.int .u8 10, .int .u8 o, .int .i64 d, .int .i64 a, .int .i64 b, .int .i64 ad, .int .i64 tt, .int .i64 wd, .int .i64 fr] ∧ Below w.heap.size w w2) := ⟨HS.out.1.below hb, HS.out.2.trans (hb.mono HS.out.2.size)⟩; clear hb; have z0 := row_at9 HS.out.1 0 _ rfl; have z1 := row_at9 HS.out.1 1 _ rfl; have z2 := row_at9 HS.out.1 2 _ rfl; have z3 := row_at9 HS.out.1 3 _ rfl; have z4 := row_at9 HS.out.1 4 _ rfl; have z5 := row_at9 HS.out.1 5 _ rfl; have z6 := row_at9 HS.out.1 6 _ rfl; have z7 := row_at9 HS.out.1 7 _ rfl; have z8 := row_at9 HS.out.1 8 _ rfl) | (go_at_call 45; refine (r_uses10 _).mono ?_; rintro e w' ⟨rfl, rfl⟩) | (go_at_call_of 54 (Value.int .i64 d); refine (HNd.out _).mono ?_; rintro e w4d ⟨rfl, hb⟩; have HS : Hid (Own w4d w.heap.size 25 #[.int .u8 10, .int .u8 o, .int .i64 d, .int .i64 a, .int .i64 b, .int .i64 ad, .int .i64 tt, .int .i64 wd, .int .i64 fr] ∧ Below w.heap.size w w4d) := ⟨HS.out.1.below hb, HS.out.2.trans (hb.mono HS.out.2.size)⟩; clear hb; have z0 := row_at9 HS.out.1 0 _ rfl; have z1 := row_at9 HS.out.1 1 _ rfl; have z2 := row_at9 HS.out.1 2 _ rfl; have z3 := row_at9 HS.out.1 3 _ rfl; have z4 := row_at9 HS.out.1 4 _ rfl; have z5 := row_at9 HS.out.1 5 _ rfl; have z6 := row_at9 HS.out.1 6 _ rfl; have z7 := row_at9 HS.out.1 7 _ rfl; have z8 := row_at9 HS.out.1 8 _ rfl) | (go_at_call_of 54 (Value.int .i64 a); refine (HNa.out _).mono ?_; rintro e w4a ⟨rfl, hb⟩; have HS : Hid (Own w4a w.heap.size 25 #[.int .u8 10, .int .u8 o, .int .i64 d, .int .i64 a, .int .i64 b, .int .i64 ad, .int .i64 tt, .int .i64 wd, .int .i64 fr] ∧ Below w.heap.size w w4a) := ⟨HS.out.1.below hb, HS.out.2.trans (hb.mono HS.out.2.size)⟩; clear hb; have z0 := row_at9 HS.out.1 0 _ rfl; have z1 := row_at9 HS.out.1 1 _ rfl; have z2 := row_at9 HS.out.1 2 _ rfl; have z3 := row_at9 HS.out.1 3 _ rfl; have z4 := row_at9 HS.out.1 4 _ rfl; have z5 := row_at9 HS.out.1 5 _ rfl; have z6 := row_at9 HS.out.1 6 _ rfl; have z7 := row_at9 HS.out.1 7 _ rfl; have z8 := row_at9 HS.out.1 8 _ rfl) | (go_at_call_of 54 (Value.int .i64 b); refine (HNb.out _).mono ?_; rintro e w4b ⟨rfl, hb⟩; have HS : Hid (Own w4b w.heap.size 25 #[.int .u8 10, .int .u8 o, .int .i64 d, .int .i64 a, .int .i64 b, .int .i64 ad, .int .i64 tt, .int .i64 wd, .int .i64 fr] ∧ Below w.heap.size w w4b) := ⟨HS.out.1.below hb, HS.out.2.trans (hb.mono HS.out.2.size)⟩; clear hb; have z0 := row_at9 HS.out.1 0 _ rfl; have z1 := row_at9 HS.out.1 1 _ rfl; have z2 := row_at9 HS.out.1 2 _ rfl; have z3 := row_at9 HS.out.1 3 _ rfl; have z4 := row_at9 HS.out.1 4 _ rfl; have z5 := row_at9 HS.out.1 5 _ rfl; have z6 := row_at9 HS.out.1 6 _ rfl; have z7 := row_at9 HS.out.1 7 _ rfl; have z8 := row_at9 HS.out.1 8 _ rfl) | (go_at_call_of 54 (Value.int .i64 ad); refine (HNad.out _).mono ?_; rintro e w4ad ⟨rfl, hb⟩; have HS : Hid (Own w4ad w.heap.size 25 #[.int .u8 10, .int .u8 o, .int .i64 d, .int .i64 a, .int .i64 b, .int .i64 ad, .int .i64 tt, .int .i64 wd, .int .i64 fr] ∧ Below w.heap.size w w4ad) := ⟨HS.out.1.below hb, HS.out.2.trans (hb.mono HS.out.2.size)⟩; clear hb; have z0 := row_at9 HS.out.1 0 _ rfl; have z1 := row_at9 HS.out.1 1 _ rfl; have z2 := row_at9 HS.out.1 2 _ rfl; have z3 := row_at9 HS.out.1 3 _ rfl; have z4 := row_at9 HS.out.1 4 _ rfl; have z5 := row_at9 HS.out.1 5 _ rfl; have z6 := row_at9 HS.out.1 6 _ rfl; have z7 := row_at9 HS.out.1 7 _ rfl; have z8 := row_at9 HS.out.1 8 _ rfl) | (go_at_call_of 54 (Value.int .i64 tt); refine (HNtt.out _).mono ?_; rintro e w4tt ⟨rfl, hb⟩; have HS : Hid (Own w4tt w.heap.size 25 #[.int .u8 10, .int .u8 o, .int .i64 d, .int .i64 a, .int .i64 b, .int .i64 ad, .int .i64 tt, .int .i64 wd, .int .i64 fr] ∧ Below w.heap.size w w4tt) := ⟨HS.out.1.below hb, HS.out.2.trans (hb.mono HS.out.2.size)⟩; clear hb; have z0 := row_at9 HS.out.1 0 _ rfl; have z1 := row_at9 HS.out.1 1 _ rfl; have z2 := row_at9 HS.out.1 2 _ rfl; have z3 := row_at9 HS.out.1 3 _ rfl; have z4 := row_at9 HS.out.1 4 _ rfl; have z5 := row_at9 HS.out.1 5 _ rfl; have z6 := row_at9 HS.out.1 6 _ rfl; have z7 := row_at9 HS.out.1 7 _ rfl; have z8 := row_at9 HS.out.1 8 _ rfl) | (go_at_call_of 54 (Value.int .i64 fr); refine (HNfr.out _).mono ?_; rintro e w4fr ⟨rfl, hb⟩; have HS : Hid (Own w4fr w.heap.size 25 #[.int .u8 10, .int .u8 o, .int .i64 d, .int .i64 a, .int .i64 b, .int .i64 ad, .int .i64 tt, .int .i64 wd, .int .i64 fr] ∧ Below w.heap.size w w4fr) := ⟨HS.out.1.below hb, HS.out.2.trans (hb.mono HS.out.2.size)⟩; clear hb; have z0 := row_at9 HS.out.1 0 _ rfl; have z1 := row_at9 HS.out.1 1 _ rfl; have z2 := row_at9 HS.out.1 2 _ rfl; have z3 := row_at9 HS.out.1 3 _ rfl; have z4 := row_at9 HS.out.1 4 _ rfl; have z5 := row_at9 HS.out.1 5 _ rfl; have z6 := row_at9 HS.out.1 6 _ rfl; have z7 := row_at9 HS.out.1 7 _ rfl; have z8 := row_at9 HS.out.1 8 _ rfl) | (go_at_call 55; refine (HNwd.out _).mono ?_; rintro e w5 ⟨rfl, hb⟩; have HS : Hid (Own w5 w.heap.size 25 #[.int .u8 10, .int .u8 o, .int .i64 d, .int .i64 a, .int .i64 b, .int .i64 ad, .int .i64 tt, .int .i64 wd, .int .i64 fr] ∧ Below w.heap.size w w5) := ⟨HS.out.1.below hb, HS.out.2.trans (hb.mono HS.out.2.size)⟩; clear hb; have z0 := row_at9 HS.out.1 0 _ rfl; have z1 := row_at9 HS.out.1 1 _ rfl; have z2 := row_at9 HS.out.1 2 _ rfl; have z3 := row_at9 HS.out.1 3 _ rfl; have z4 := row_at9 HS.out.1 4 _ rfl; have z5 := row_at9 HS.out.1 5 _ rfl; have z6 := row_at9 HS.out.1 6 _ rfl; have z7 := row_at9 HS.out.1 7 _ rfl; have z8 := row_at9 HS.out.1 8 _ rfl))
    go_ret
    refine ⟨congrArg (fun x => Ending.returned (.string x)) (bs_ext ?_), HS.out.2⟩
    have h := HTX.out
    show _ = (insT (⟨10, o, d, a, b, ad, tt, wd, fr⟩ : Ins))
    rw [h]
    simp [f0]
  · have f1 : 0 < fr := by omega
    have s0 : (⟨#[104, 97, 108, 116]⟩ : ByteArray).size ≤ 10 := by show 4 ≤ 10; omega
    obtain ⟨p1, hp1⟩ : ∃ p, p = (⟨#[104, 97, 108, 116]⟩ : ByteArray) ++ (⟨#[32, 64]⟩ : ByteArray) := ⟨_, rfl⟩
    have t1 : (⟨#[32, 64]⟩ : ByteArray).size = 2 := rfl
    have s1 : p1.size ≤ 12 := by rw [hp1, ByteArray.size_append]; omega
    have q1 : ∀ V, (Op.stringOp .add (⟨#[104, 97, 108, 116]⟩ : ByteArray) (⟨#[32, 64]⟩ : ByteArray)).run Tryz.prog V = .ok (.string p1) V := fun V => by rw [hp1]; exact run_string_add_sum V _ _ (by omega)
    have HP1 := Lib.hid hp1
    clear hp1 t1 s0
    obtain ⟨p2, hp2⟩ : ∃ p, p = p1 ++ (itoaS fr) := ⟨_, rfl⟩
    have t2 : (itoaS fr).size ≤ 100 := itoaS_size fr HRNfr.out.1 HRNfr.out.2
    have s2 : p2.size ≤ 112 := by rw [hp2, ByteArray.size_append]; omega
    have q2 : ∀ V, (Op.stringOp .add p1 (itoaS fr)).run Tryz.prog V = .ok (.string p2) V := fun V => by rw [hp2]; exact run_string_add_sum V _ _ (by omega)
    have HP2 := Lib.hid hp2
    clear hp2 t2 s1
    clear s2
    have z0 := row_at9 HS.out.1 0 _ rfl
    have z1 := row_at9 HS.out.1 1 _ rfl
    have z2 := row_at9 HS.out.1 2 _ rfl
    have z3 := row_at9 HS.out.1 3 _ rfl
    have z4 := row_at9 HS.out.1 4 _ rfl
    have z5 := row_at9 HS.out.1 5 _ rfl
    have z6 := row_at9 HS.out.1 6 _ rfl
    have z7 := row_at9 HS.out.1 7 _ rfl
    have z8 := row_at9 HS.out.1 8 _ rfl
    go_wp2_with (first | (go_at_call 52; refine (r_kwd10 _).mono ?_; rintro e w2 ⟨rfl, hb⟩; have HS : Hid (Own w2 w.heap.size 25 #[.int .u8 10, .int .u8 o, .int .i64 d, .int .i64 a, .int .i64 b, .int .i64 ad, .int .i64 tt, .int .i64 wd, .int .i64 fr] ∧ Below w.heap.size w w2) := ⟨HS.out.1.below hb, HS.out.2.trans (hb.mono HS.out.2.size)⟩; clear hb; have z0 := row_at9 HS.out.1 0 _ rfl; have z1 := row_at9 HS.out.1 1 _ rfl; have z2 := row_at9 HS.out.1 2 _ rfl; have z3 := row_at9 HS.out.1 3 _ rfl; have z4 := row_at9 HS.out.1 4 _ rfl; have z5 := row_at9 HS.out.1 5 _ rfl; have z6 := row_at9 HS.out.1 6 _ rfl; have z7 := row_at9 HS.out.1 7 _ rfl; have z8 := row_at9 HS.out.1 8 _ rfl) | (go_at_call 45; refine (r_uses10 _).mono ?_; rintro e w' ⟨rfl, rfl⟩) | (go_at_call_of 54 (Value.int .i64 d); refine (HNd.out _).mono ?_; rintro e w4d ⟨rfl, hb⟩; have HS : Hid (Own w4d w.heap.size 25 #[.int .u8 10, .int .u8 o, .int .i64 d, .int .i64 a, .int .i64 b, .int .i64 ad, .int .i64 tt, .int .i64 wd, .int .i64 fr] ∧ Below w.heap.size w w4d) := ⟨HS.out.1.below hb, HS.out.2.trans (hb.mono HS.out.2.size)⟩; clear hb; have z0 := row_at9 HS.out.1 0 _ rfl; have z1 := row_at9 HS.out.1 1 _ rfl; have z2 := row_at9 HS.out.1 2 _ rfl; have z3 := row_at9 HS.out.1 3 _ rfl; have z4 := row_at9 HS.out.1 4 _ rfl; have z5 := row_at9 HS.out.1 5 _ rfl; have z6 := row_at9 HS.out.1 6 _ rfl; have z7 := row_at9 HS.out.1 7 _ rfl; have z8 := row_at9 HS.out.1 8 _ rfl) | (go_at_call_of 54 (Value.int .i64 a); refine (HNa.out _).mono ?_; rintro e w4a ⟨rfl, hb⟩; have HS : Hid (Own w4a w.heap.size 25 #[.int .u8 10, .int .u8 o, .int .i64 d, .int .i64 a, .int .i64 b, .int .i64 ad, .int .i64 tt, .int .i64 wd, .int .i64 fr] ∧ Below w.heap.size w w4a) := ⟨HS.out.1.below hb, HS.out.2.trans (hb.mono HS.out.2.size)⟩; clear hb; have z0 := row_at9 HS.out.1 0 _ rfl; have z1 := row_at9 HS.out.1 1 _ rfl; have z2 := row_at9 HS.out.1 2 _ rfl; have z3 := row_at9 HS.out.1 3 _ rfl; have z4 := row_at9 HS.out.1 4 _ rfl; have z5 := row_at9 HS.out.1 5 _ rfl; have z6 := row_at9 HS.out.1 6 _ rfl; have z7 := row_at9 HS.out.1 7 _ rfl; have z8 := row_at9 HS.out.1 8 _ rfl) | (go_at_call_of 54 (Value.int .i64 b); refine (HNb.out _).mono ?_; rintro e w4b ⟨rfl, hb⟩; have HS : Hid (Own w4b w.heap.size 25 #[.int .u8 10, .int .u8 o, .int .i64 d, .int .i64 a, .int .i64 b, .int .i64 ad, .int .i64 tt, .int .i64 wd, .int .i64 fr] ∧ Below w.heap.size w w4b) := ⟨HS.out.1.below hb, HS.out.2.trans (hb.mono HS.out.2.size)⟩; clear hb; have z0 := row_at9 HS.out.1 0 _ rfl; have z1 := row_at9 HS.out.1 1 _ rfl; have z2 := row_at9 HS.out.1 2 _ rfl; have z3 := row_at9 HS.out.1 3 _ rfl; have z4 := row_at9 HS.out.1 4 _ rfl; have z5 := row_at9 HS.out.1 5 _ rfl; have z6 := row_at9 HS.out.1 6 _ rfl; have z7 := row_at9 HS.out.1 7 _ rfl; have z8 := row_at9 HS.out.1 8 _ rfl) | (go_at_call_of 54 (Value.int .i64 ad); refine (HNad.out _).mono ?_; rintro e w4ad ⟨rfl, hb⟩; have HS : Hid (Own w4ad w.heap.size 25 #[.int .u8 10, .int .u8 o, .int .i64 d, .int .i64 a, .int .i64 b, .int .i64 ad, .int .i64 tt, .int .i64 wd, .int .i64 fr] ∧ Below w.heap.size w w4ad) := ⟨HS.out.1.below hb, HS.out.2.trans (hb.mono HS.out.2.size)⟩; clear hb; have z0 := row_at9 HS.out.1 0 _ rfl; have z1 := row_at9 HS.out.1 1 _ rfl; have z2 := row_at9 HS.out.1 2 _ rfl; have z3 := row_at9 HS.out.1 3 _ rfl; have z4 := row_at9 HS.out.1 4 _ rfl; have z5 := row_at9 HS.out.1 5 _ rfl; have z6 := row_at9 HS.out.1 6 _ rfl; have z7 := row_at9 HS.out.1 7 _ rfl; have z8 := row_at9 HS.out.1 8 _ rfl) | (go_at_call_of 54 (Value.int .i64 tt); refine (HNtt.out _).mono ?_; rintro e w4tt ⟨rfl, hb⟩; have HS : Hid (Own w4tt w.heap.size 25 #[.int .u8 10, .int .u8 o, .int .i64 d, .int .i64 a, .int .i64 b, .int .i64 ad, .int .i64 tt, .int .i64 wd, .int .i64 fr] ∧ Below w.heap.size w w4tt) := ⟨HS.out.1.below hb, HS.out.2.trans (hb.mono HS.out.2.size)⟩; clear hb; have z0 := row_at9 HS.out.1 0 _ rfl; have z1 := row_at9 HS.out.1 1 _ rfl; have z2 := row_at9 HS.out.1 2 _ rfl; have z3 := row_at9 HS.out.1 3 _ rfl; have z4 := row_at9 HS.out.1 4 _ rfl; have z5 := row_at9 HS.out.1 5 _ rfl; have z6 := row_at9 HS.out.1 6 _ rfl; have z7 := row_at9 HS.out.1 7 _ rfl; have z8 := row_at9 HS.out.1 8 _ rfl) | (go_at_call_of 54 (Value.int .i64 fr); refine (HNfr.out _).mono ?_; rintro e w4fr ⟨rfl, hb⟩; have HS : Hid (Own w4fr w.heap.size 25 #[.int .u8 10, .int .u8 o, .int .i64 d, .int .i64 a, .int .i64 b, .int .i64 ad, .int .i64 tt, .int .i64 wd, .int .i64 fr] ∧ Below w.heap.size w w4fr) := ⟨HS.out.1.below hb, HS.out.2.trans (hb.mono HS.out.2.size)⟩; clear hb; have z0 := row_at9 HS.out.1 0 _ rfl; have z1 := row_at9 HS.out.1 1 _ rfl; have z2 := row_at9 HS.out.1 2 _ rfl; have z3 := row_at9 HS.out.1 3 _ rfl; have z4 := row_at9 HS.out.1 4 _ rfl; have z5 := row_at9 HS.out.1 5 _ rfl; have z6 := row_at9 HS.out.1 6 _ rfl; have z7 := row_at9 HS.out.1 7 _ rfl; have z8 := row_at9 HS.out.1 8 _ rfl) | (go_at_call 55; refine (HNwd.out _).mono ?_; rintro e w5 ⟨rfl, hb⟩; have HS : Hid (Own w5 w.heap.size 25 #[.int .u8 10, .int .u8 o, .int .i64 d, .int .i64 a, .int .i64 b, .int .i64 ad, .int .i64 tt, .int .i64 wd, .int .i64 fr] ∧ Below w.heap.size w w5) := ⟨HS.out.1.below hb, HS.out.2.trans (hb.mono HS.out.2.size)⟩; clear hb; have z0 := row_at9 HS.out.1 0 _ rfl; have z1 := row_at9 HS.out.1 1 _ rfl; have z2 := row_at9 HS.out.1 2 _ rfl; have z3 := row_at9 HS.out.1 3 _ rfl; have z4 := row_at9 HS.out.1 4 _ rfl; have z5 := row_at9 HS.out.1 5 _ rfl; have z6 := row_at9 HS.out.1 6 _ rfl; have z7 := row_at9 HS.out.1 7 _ rfl; have z8 := row_at9 HS.out.1 8 _ rfl))
    go_ret
    refine ⟨congrArg (fun x => Ending.returned (.string x)) (bs_ext ?_), HS.out.2⟩
    have h := HTX.out
    show _ = (insT (⟨10, o, d, a, b, ad, tt, wd, fr⟩ : Ins))
    rw [h, HP2.out, HP1.out]
    simp [f0, ByteArray.data_append, itoaS]
theorem right_parts0 {i : Ins} {n m : Int} (h : rightB i n m = true) : kB i.k = true := by
  unfold rightB at h
  simp only [Bool.and_eq_true] at h
  exact h.1
set_option maxHeartbeats 4000000 in
theorem rshow_any (i : Ins) (hg : rgI i) (w : World) : Calls Tryz.prog 29 #[insV i] w fun e w' => e = .returned (.string ⟨(shwT i).toArray⟩) ∧ Below w.heap.size w w' := by
  cases hr : rightB i 9223372036854775807 9223372036854775807 with
  | true =>
    have hs : shwT i = insT i := by unfold shwT; rw [if_pos hr]
    rw [hs]
    obtain ⟨k, o, d, a, b, ad, tt, wd, fr⟩ := i
    have hk := (right_parts0 hr)
    rcases kB_iff.1 hk with h | h | h | h | h | h | h | h | h | h
    · obtain rfl : k = 1 := h
      exact r_show1 o d a b ad tt wd fr hg hr w
    · obtain rfl : k = 2 := h
      exact r_show2 o d a b ad tt wd fr hg hr w
    · obtain rfl : k = 3 := h
      exact r_show3 o d a b ad tt wd fr hg hr w
    · obtain rfl : k = 4 := h
      exact r_show4 o d a b ad tt wd fr hg hr w
    · obtain rfl : k = 5 := h
      exact r_show5 o d a b ad tt wd fr hg hr w
    · obtain rfl : k = 6 := h
      exact r_show6 o d a b ad tt wd fr hg hr w
    · obtain rfl : k = 7 := h
      exact r_show7 o d a b ad tt wd fr hg hr w
    · obtain rfl : k = 8 := h
      exact r_show8 o d a b ad tt wd fr hg hr w
    · obtain rfl : k = 9 := h
      exact r_show9 o d a b ad tt wd fr hg hr w
    · obtain rfl : k = 10 := h
      exact r_show10 o d a b ad tt wd fr hg hr w
  | false =>
    have hs : shwT i = [] := by unfold shwT; rw [if_neg (by rw [hr]; simp)]
    rw [hs]
    have HRR : Hid (∀ X, Calls Tryz.prog 13 #[insV i, .int .i64 9223372036854775807, .int .i64 9223372036854775807] X fun e w' => e = .returned (.bool false) ∧ Below X.heap.size X w') := fun X => by
      have h := rright_any i hg 9223372036854775807 9223372036854775807 X
      rw [hr] at h
      exact h
    obtain ⟨k, o, d, a, b, ad, tt, wd, fr⟩ := i
    simp only [insV, insC] at HRR ⊢
    have al : Below w.heap.size w (w.alloc (.cells #[.int .u8 k, .int .u8 o, .int .i64 d, .int .i64 a, .int .i64 b, .int .i64 ad, .int .i64 tt, .int .i64 wd, .int .i64 fr] 25)) := (Below.refl _ w).alloc (Nat.le_refl _) _
    have O0 := Own.new w 25 #[.int .u8 k, .int .u8 o, .int .i64 d, .int .i64 a, .int .i64 b, .int .i64 ad, .int .i64 tt, .int .i64 wd, .int .i64 fr]
    obtain ⟨W0, hW0⟩ : ∃ W, W = w.alloc (.cells #[.int .u8 k, .int .u8 o, .int .i64 d, .int .i64 a, .int .i64 b, .int .i64 ad, .int .i64 tt, .int .i64 wd, .int .i64 fr] 25) := ⟨_, rfl⟩
    rw [← hW0] at al O0
    have HW0 := Lib.hid hW0
    have HB := Lib.hid al
    clear al hW0 hs hr hg
    go_enter Tryz.func29, Tryz.ntmps29
    go_upto_region 1 with fail
    rw [← HW0.out]
    clear HW0
    go_wp2_with (first | (refine ld rowI rfl rfl rfl O0 rfl ?_) | (go_at_call 13; refine (HRR.out _).mono ?_; rintro e w1 ⟨rfl, hb⟩))
    go_ret
    exact ⟨rfl, HB.out.trans (hb.mono HB.out.size)⟩
end Go.Proofs.YtopinnhfajjndaaGreatDoor

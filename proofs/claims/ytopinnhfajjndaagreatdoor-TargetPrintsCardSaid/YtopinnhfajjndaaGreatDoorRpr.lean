/- The document's Print, walked. -/
import Derived.Test.YtopinnhfajjndaaGreatDoorRck
import Derived.Test.YtopinnhfajjndaaGreatDoorRsh
import Derived.Test.YtopinnhfajjndaaGreatDoorTc4
import Derived.Test.YtopinnhfajjndaaGreatDoorTp9
import Derived.Lib.BufferRead
namespace Go.Proofs.YtopinnhfajjndaaGreatDoor
open Go.RowKit
set_option linter.unusedVariables false
set_option maxRecDepth 100000
theorem fit_mono {u : Bool} {x c C : Int} (h : fitB u x c = true) (hc : c ≤ C) : fitB u x C = true := by
  cases u with
  | false => exact h
  | true =>
    simp only [fitB, inB, cond_true, Bool.and_eq_true, decide_eq_true_eq] at h ⊢
    omega
theorem right_mono {i : Ins} {n m N M : Int} (h : rightB i n m = true) (hn : n ≤ N) (hm : m ≤ M) : rightB i N M = true := by
  unfold rightB at h ⊢
  simp only [Bool.and_eq_true] at h ⊢
  obtain ⟨h1, h2, h3, h4, h5, h6, h7, h8, h9⟩ := h
  exact ⟨h1, h2, h3, h4, h5, h6, fit_mono h7 hm, fit_mono h8 hn, h9⟩
theorem conv_b {W : World} {B : Nat} {v : Value} {l : List UInt8} (h : W.ownsRow B 5 1 v l.length (Lib.byteCells l)) : (convert 50 9 v).run Tryz.prog W = .ok (.string ⟨l.toArray⟩) W := by
  rcases h.2 with ⟨rfl, h0⟩ | ⟨g, cap, cur, rfl, _, hg, _, _, _, htk⟩
  · have : l = [] := List.eq_nil_of_length_eq_zero h0
    subst this
    exact Lib.run_convert_nil_bytes W _ _ _ 0 Tryz.underlying50 Tryz.underlying5 Tryz.underlying9
  · exact run_convert_bytes_back W _ _ _ ⟨g, 0, none⟩ cap l Tryz.underlying50 Tryz.underlying5 Tryz.underlying9 (Lib.bytes_of_row hg (by simpa using htk))
/-- The object's box and the bytes so far. -/
structure Ps (w : World) (row : Array Value) (v : Value) (T : List UInt8) (X : World) : Prop where
  sq : Sq w row X
  own : X.ownsRow (w.heap.size + 1) 5 1 v T.length (Lib.byteCells T)
section
variable {w X Y : World} {row : Array Value} {v v' : Value} {T T' : List UInt8} {s : ByteArray}
theorem Ps.below (h : Ps w row v T X) (hb : Below X.heap.size X Y) : Ps w row v T Y := ⟨h.sq.below hb, row_below h.own hb⟩
theorem Ps.app (h : Ps w row v T X) (e : T' = T ++ s.data.toList) (ho : Y.ownsRow (w.heap.size + 1) 5 1 v' (T.length + s.size) (Lib.byteCells T ++ Lib.strCells s)) (hg : X.grownBy Y v.ownBlock) : ∃ a c, v' = .slice a T'.length c ∧ Ps w row v' T' Y := by
  have h3 : T'.length = T.length + s.size := by rw [e, List.length_append, Array.length_toList]; rfl
  have hr : Y.ownsRow (w.heap.size + 1) 5 1 v' T'.length (Lib.byteCells T') := by
    rw [h3, e, ← bytes_append, ← strCells_bytes]
    exact ho
  obtain ⟨a, c, rfl⟩ := row_slice hr
  have hne : v.ownBlock ≠ some w.heap.size := fun e => by have h1 := (h.own.lt _ e).1; omega
  refine ⟨a, c, rfl, ⟨⟨(hg.block _ h.sq.bx.lt (fun e => hne e.symm)).trans h.sq.bx, ?_⟩, hr⟩⟩
  exact h.sq.bel.grown hg h.sq.bel.size (fun k hk => by have := (h.own.lt k hk).1; omega)
end
theorem take_code {cd : List Ins} {j : Nat} {i : Ins} (h : cd[j]? = some i) : codeT (cd.take (j + 1)) = codeT (cd.take j) ++ (insT i ++ [10]) := take_flat _ h
theorem take_mem {l : List Int} {j : Nat} {x : Int} (h : l[j]? = some x) : memT (l.take (j + 1)) = memT (l.take j) ++ wrdT x := take_flat _ h
theorem code_le (cd : List Ins) (k : Nat) : (codeT (cd.take k)).length ≤ (codeT cd).length := by
  have h : codeT cd = codeT (cd.take k) ++ codeT (cd.drop k) := by
    unfold codeT
    rw [← List.flatMap_append, List.take_append_drop]
  rw [h, List.length_append]
  omega
set_option maxHeartbeats 32000000 in
theorem rprt_any (o : Ob) (hg : rgO o) (hf : fitO o) {v : Value} {w : World} (hv : obA w o v) : Calls Tryz.prog 31 #[v] w fun e w' => e = prtE (prtO o) ∧ Below w.heap.size w w' := by
  obtain ⟨i0, hi, hz0, hz1, hz2⟩ := info_parts infoU8'
  have HCK : Hid (∀ W, Below w.heap.size w W → Calls Tryz.prog 16 #[v] W fun e w' => e = chkE (chkO o) ∧ Below W.heap.size W w') := fun W hb => rcheck_any o hg hf (obA_below hv hb)
  have hok : (chkO o).1 = 0 → topB o = true ∧ ∀ c ∈ o.cores, ∀ i ∈ c.code, rightB i c.code.length o.mem.length = true := fun h => chk_ok h
  obtain ⟨pr, hpr⟩ : ∃ r, r = prtO o := ⟨_, rfl⟩
  rw [← hpr]
  have hpr2 : pr = if (chkO o).1 = 0 then (if (obT o).length > 16777216 then ([], 4) else (obT o, 0)) else ([], (chkO o).1) := hpr
  generalize chkO o = ck at HCK hok hpr2
  obtain ⟨r1, r2, r3⟩ := ck
  obtain ⟨a1, c1, a5, c5, rfl, h1, h5⟩ := hv
  obtain ⟨gm, gs, gk, gb, gi⟩ := hg
  replace HCK : Hid (∀ W, Below w.heap.size w W → Calls Tryz.prog 16 #[_] W fun e w' => e = .returned (.tuple #[.int .i64 r1, .int .i64 r2, .int .i64 r3]) ∧ Below W.heap.size W w') := HCK.out
  obtain ⟨mem, sh, lk, bf, cores⟩ := o
  simp only [obV] at HCK hok h1 h5 gm gs gk gb gi ⊢
  have HFIT : Hid (topB ⟨mem, sh, lk, bf, cores⟩ = true → mem.length ≤ 4096 ∧ cores.length ≤ 8 ∧ ∀ c ∈ cores, c.name.size ≤ 32 ∧ c.code.length ≤ 16384) := fun h => chk_fit h
  have hobt : obT ⟨mem, sh, lk, bf, cores⟩ = ([111, 98, 106, 101, 99, 116] : List UInt8) ++ (numT sh ++ (numT lk ++ numT bf)) ++ ([10, 109, 101, 109, 111, 114, 121] : List UInt8) ++ memT mem ++ [10] ++ cores.flatMap corT := rfl
  rw [hobt] at hpr2
  generalize topB ⟨mem, sh, lk, bf, cores⟩ = tb at hok HFIT
  obtain ⟨n1, hn1⟩ : ∃ n, n = mem.length := ⟨_, rfl⟩
  obtain ⟨n5, hn5⟩ : ∃ n, n = cores.length := ⟨_, rfl⟩
  rw [← hn1] at HCK hok HFIT ⊢
  rw [← hn5] at HCK HFIT ⊢
  have HN := Lib.hid (And.intro hn1 hn5)
  have HPR := Lib.hid hpr2
  have HOK := Lib.hid hok
  have HG := Lib.hid (And.intro gm gi)
  have E1 := Lib.hid h1
  have E5 := Lib.hid h5
  have O0 := Own.new w 29 #[.slice a1 n1 c1, .int .i64 sh, .int .i64 lk, .int .i64 bf, .slice a5 n5 c5]
  have B0 : Below w.heap.size w (w.alloc (.cells #[.slice a1 n1 c1, .int .i64 sh, .int .i64 lk, .int .i64 bf, .slice a5 n5 c5] 29)) := (Below.refl _ w).alloc (Nat.le_refl _) _
  obtain ⟨W0, hW0⟩ : ∃ W, W = w.alloc (.cells #[.slice a1 n1 c1, .int .i64 sh, .int .i64 lk, .int .i64 bf, .slice a5 n5 c5] 29) := ⟨_, rfl⟩
  rw [← hW0] at O0 B0
  have HW0 := Lib.hid hW0
  have HS0 : Hid (Sq w #[.slice a1 n1 c1, .int .i64 sh, .int .i64 lk, .int .i64 bf, .slice a5 n5 c5] W0) := ⟨O0, B0⟩
  have HNsh : Hid (∀ X, Calls Tryz.prog 54 #[.int .i64 sh] X fun e w' => e = .returned (.string (itoaS sh)) ∧ Below X.heap.size X w') := fun X => r_nat sh gs.1 gs.2 X
  have HNlk : Hid (∀ X, Calls Tryz.prog 54 #[.int .i64 lk] X fun e w' => e = .returned (.string (itoaS lk)) ∧ Below X.heap.size X w') := fun X => r_nat lk gk.1 gk.2 X
  have HNbf : Hid (∀ X, Calls Tryz.prog 54 #[.int .i64 bf] X fun e w' => e = .returned (.string (itoaS bf)) ∧ Below X.heap.size X w') := fun X => r_nat bf gb.1 gb.2 X
  have HC13 : Hid (∀ v T X, Ps w #[.slice a1 n1 c1, .int .i64 sh, .int .i64 lk, .int .i64 bf, .slice a5 n5 c5] v T X → (X.cell? ⟨w.heap.size, 1, none⟩ = some (.int .i64 sh) ∧ X.cell? ⟨w.heap.size, 2, none⟩ = some (.int .i64 lk) ∧ X.cell? ⟨w.heap.size, 3, none⟩ = some (.int .i64 bf))) := fun v T X h => ⟨row_cellsO h.sq.bx 1 _ rfl, row_cellsO h.sq.bx 2 _ rfl, row_cellsO h.sq.bx 3 _ rfl⟩
  have s0 : (⟨#[111, 98, 106, 101, 99, 116, 32]⟩ : ByteArray).size = 7 := rfl
  have u0 : (⟨#[32]⟩ : ByteArray).size = 1 := rfl
  have u1 : (⟨#[10, 109, 101, 109, 111, 114, 121]⟩ : ByteArray).size = 7 := rfl
  have ush := itoaS_size sh gs.1 gs.2
  have ulk := itoaS_size lk gk.1 gk.2
  have ubf := itoaS_size bf gb.1 gb.2
  obtain ⟨p1, hp1⟩ : ∃ p : ByteArray, p = (⟨#[111, 98, 106, 101, 99, 116, 32]⟩ : ByteArray) ++ (itoaS sh) := ⟨_, rfl⟩
  have s1 : p1.size ≤ 107 := by rw [hp1, ByteArray.size_append]; omega
  have q1 : ∀ V, (Op.stringOp .add (⟨#[111, 98, 106, 101, 99, 116, 32]⟩ : ByteArray) (itoaS sh)).run Tryz.prog V = .ok (.string p1) V := fun V => by rw [hp1]; exact run_string_add_sum V _ _ (by omega)
  obtain ⟨p2, hp2⟩ : ∃ p : ByteArray, p = (p1 : ByteArray) ++ (⟨#[32]⟩) := ⟨_, rfl⟩
  have s2 : p2.size ≤ 108 := by rw [hp2, ByteArray.size_append]; omega
  have q2 : ∀ V, (Op.stringOp .add (p1 : ByteArray) (⟨#[32]⟩)).run Tryz.prog V = .ok (.string p2) V := fun V => by rw [hp2]; exact run_string_add_sum V _ _ (by omega)
  obtain ⟨p3, hp3⟩ : ∃ p : ByteArray, p = (p2 : ByteArray) ++ (itoaS lk) := ⟨_, rfl⟩
  have s3 : p3.size ≤ 208 := by rw [hp3, ByteArray.size_append]; omega
  have q3 : ∀ V, (Op.stringOp .add (p2 : ByteArray) (itoaS lk)).run Tryz.prog V = .ok (.string p3) V := fun V => by rw [hp3]; exact run_string_add_sum V _ _ (by omega)
  obtain ⟨p4, hp4⟩ : ∃ p : ByteArray, p = (p3 : ByteArray) ++ (⟨#[32]⟩) := ⟨_, rfl⟩
  have s4 : p4.size ≤ 209 := by rw [hp4, ByteArray.size_append]; omega
  have q4 : ∀ V, (Op.stringOp .add (p3 : ByteArray) (⟨#[32]⟩)).run Tryz.prog V = .ok (.string p4) V := fun V => by rw [hp4]; exact run_string_add_sum V _ _ (by omega)
  obtain ⟨p5, hp5⟩ : ∃ p : ByteArray, p = (p4 : ByteArray) ++ (itoaS bf) := ⟨_, rfl⟩
  have s5 : p5.size ≤ 309 := by rw [hp5, ByteArray.size_append]; omega
  have q5 : ∀ V, (Op.stringOp .add (p4 : ByteArray) (itoaS bf)).run Tryz.prog V = .ok (.string p5) V := fun V => by rw [hp5]; exact run_string_add_sum V _ _ (by omega)
  obtain ⟨p6, hp6⟩ : ∃ p : ByteArray, p = (p5 : ByteArray) ++ (⟨#[10, 109, 101, 109, 111, 114, 121]⟩) := ⟨_, rfl⟩
  have s6 : p6.size ≤ 316 := by rw [hp6, ByteArray.size_append]; omega
  have q6 : ∀ V, (Op.stringOp .add (p5 : ByteArray) (⟨#[10, 109, 101, 109, 111, 114, 121]⟩)).run Tryz.prog V = .ok (.string p6) V := fun V => by rw [hp6]; exact run_string_add_sum V _ _ (by omega)
  obtain ⟨t5, ht5⟩ : ∃ t : List UInt8, t = [] ++ p6.data.toList := ⟨_, rfl⟩
  have HT5 := Lib.hid ht5
  have HT5b : Hid (t5 = ([111, 98, 106, 101, 99, 116] : List UInt8) ++ (numT sh ++ (numT lk ++ numT bf)) ++ ([10, 109, 101, 109, 111, 114, 121] : List UInt8)) := by
    rw [Hid, ht5, hp6, hp5, hp4, hp3, hp2, hp1]
    simp [ByteArray.data_append, itoaS, numT]
  have HL5 : Hid (t5.length ≤ 1000) := by
    rw [Hid, ht5, List.nil_append, Array.length_toList]
    show p6.size ≤ 1000
    omega
  clear ht5 hp1 hp2 hp3 hp4 hp5 hp6 s1 s2 s3 s4 s5 s0 u0 u1 ush ulk ubf
  clear hn1 hn5 hpr hpr2 hobt hok h1 h5 gm gs gk gb gi hW0 B0 hf
  by_cases hr0 : r1 = 0
  rotate_left
  · have hpr : pr = ([], r1) := by rw [HPR.out, if_neg hr0]
    subst hpr
    have qr : (r1 != 0) = true := by simpa using hr0
    clear HPR HOK hr0 q1 q2 q3 q4 q5 q6
    go_enter Tryz.func31, Tryz.ntmps31
    go_upto_region 1 with (fail)
    rw [← HW0.out]
    clear HW0
    go_wp2_with (refine ld rowO rfl rfl rfl O0 rfl ?_)
    go_at_call 16
    refine (HCK.out _ HS0.out.bel).mono ?_
    rintro e w1 ⟨rfl, hb⟩
    have HS1 := Lib.hid (HS0.out.below hb)
    clear hb O0 HS0 HCK
    go_wp2_with fail
    refine bodyPost_ret (results_tmp2 rfl _ _ _) rfl ?_
    exact ⟨rfl, HS1.out.bel⟩
  subst hr0
  obtain ⟨htb, hrt⟩ := HOK.out rfl
  obtain ⟨l1, l5, lc⟩ := HFIT.out htb
  have HRT := Lib.hid hrt
  have HLC := Lib.hid lc
  have HPZ : Hid (pr = if (([111, 98, 106, 101, 99, 116] : List UInt8) ++ (numT sh ++ (numT lk ++ numT bf)) ++ ([10, 109, 101, 109, 111, 114, 121] : List UInt8) ++ memT mem ++ [10] ++ cores.flatMap corT).length > 16777216 then ([], 4) else (([111, 98, 106, 101, 99, 116] : List UInt8) ++ (numT sh ++ (numT lk ++ numT bf)) ++ ([10, 109, 101, 109, 111, 114, 121] : List UInt8) ++ memT mem ++ [10] ++ cores.flatMap corT, 0)) := by rw [Hid, HPR.out, if_pos rfl]
  rw [← HT5b.out] at HPZ
  clear HPR HOK HFIT hrt lc htb
  go_enter Tryz.func31, Tryz.ntmps31
  go_upto_region 1 with (fail)
  rw [← HW0.out]
  clear HW0
  go_wp2_with (refine ld rowO rfl rfl rfl O0 rfl ?_)
  go_at_call 16
  refine (HCK.out _ HS0.out.bel).mono ?_
  rintro e w1 ⟨rfl, hb⟩
  have HS1 := Lib.hid (HS0.out.below hb)
  have HP3 : Hid (Ps w #[.slice a1 n1 c1, .int .i64 sh, .int .i64 lk, .int .i64 bf, .slice a5 n5 c5] (.slice none 0 0) [] w1.drew) := ⟨HS1.out.below (below_drewN (Below.refl _ w1) 1), World.ownsRow_nil _ _ _ _⟩
  clear hb O0 HS0 HCK HS1
  go_upto_region 5 with fail
  refine wp_region_held (S := fun V => V.cell? ⟨w.heap.size, 1, none⟩ = some (.int .i64 sh) ∧ V.cell? ⟨w.heap.size, 2, none⟩ = some (.int .i64 lk) ∧ V.cell? ⟨w.heap.size, 3, none⟩ = some (.int .i64 bf)) (by kernel_rfl) ?_
  change wpAnyH _ _ _ _ _ _ _ _ w1.drew
  change Hid (Ps _ _ _ _ w1.drew) at HP3
  obtain ⟨W3, hW3⟩ : ∃ W, W = w1.drew := ⟨_, rfl⟩
  rw [← hW3] at HP3 ⊢
  clear hW3
  have HSX3 : Hid (W3.cell? ⟨w.heap.size, 1, none⟩ = some (.int .i64 sh) ∧ W3.cell? ⟨w.heap.size, 2, none⟩ = some (.int .i64 lk) ∧ W3.cell? ⟨w.heap.size, 3, none⟩ = some (.int .i64 bf)) := HC13.out _ _ _ HP3.out
  change wpAnyH _ _ _ _ _ _ _ { tmps := List.toArray (_ :: _ :: _ :: _ :: _ :: _ :: _ :: _ :: _ :: _ :: _ :: _ :: _ :: _ :: _ :: _ :: _ :: _ :: _ :: _ :: _ :: _ :: _ :: _ :: _ :: _ :: _ :: _ :: _ :: _ :: _ :: _ :: _ :: _ :: _ :: _ :: _ :: _ :: _ :: _ :: _ :: _ :: _ :: _ :: _ :: _ :: _ :: _ :: _ :: _ :: _ :: _ :: _ :: _ :: _ :: _ :: _ :: _ :: _ :: _ :: _ :: _ :: _ :: _ :: _ :: _ :: _ :: _ :: _ :: _ :: _ :: _ :: _ :: _ :: _ :: _ :: _ :: _ :: _ :: _ :: _ :: _ :: _ :: _ :: _ :: _ :: _ :: _ :: _ :: _ :: _ :: _ :: _ :: _ :: _ :: _ :: _ :: _ :: _ :: _ :: _ :: _ :: _ :: _ :: _ :: []), defers := [] } _
  refine dr_take 0 (.slice none 0 0) rfl rfl (by kernel_rfl) (by kernel_rfl) (by kernel_rfl) (fun _ _ _ h => h) (fun _ _ => by unfold execOp; go_simp) HSX3.out ?_
  change wpAnyH _ _ _ _ _ _ _ { tmps := List.toArray (_ :: _ :: _ :: _ :: _ :: _ :: _ :: _ :: _ :: _ :: _ :: _ :: _ :: _ :: _ :: _ :: _ :: _ :: _ :: _ :: _ :: _ :: _ :: _ :: _ :: _ :: _ :: _ :: _ :: _ :: _ :: _ :: _ :: _ :: _ :: _ :: _ :: _ :: _ :: _ :: _ :: _ :: _ :: _ :: _ :: _ :: _ :: _ :: _ :: _ :: _ :: _ :: _ :: _ :: _ :: _ :: _ :: _ :: _ :: _ :: _ :: _ :: _ :: _ :: _ :: _ :: _ :: _ :: _ :: _ :: _ :: _ :: _ :: _ :: _ :: _ :: _ :: _ :: _ :: _ :: _ :: _ :: _ :: _ :: _ :: _ :: _ :: _ :: _ :: _ :: _ :: _ :: _ :: _ :: _ :: _ :: _ :: _ :: _ :: _ :: _ :: _ :: _ :: _ :: _ :: []), defers := [] } _
  refine dr_take 1 (.pointer (some ⟨w.heap.size, 1, none⟩)) rfl rfl (by kernel_rfl) (by kernel_rfl) (by kernel_rfl) (fun _ _ _ h => h) (fun _ _ => by unfold execOp; go_simp) HSX3.out ?_
  change wpAnyH _ _ _ _ _ _ _ { tmps := List.toArray (_ :: _ :: _ :: _ :: _ :: _ :: _ :: _ :: _ :: _ :: _ :: _ :: _ :: _ :: _ :: _ :: _ :: _ :: _ :: _ :: _ :: _ :: _ :: _ :: _ :: _ :: _ :: _ :: _ :: _ :: _ :: _ :: _ :: _ :: _ :: _ :: _ :: _ :: _ :: _ :: _ :: _ :: _ :: _ :: _ :: _ :: _ :: _ :: _ :: _ :: _ :: _ :: _ :: _ :: _ :: _ :: _ :: _ :: _ :: _ :: _ :: _ :: _ :: _ :: _ :: _ :: _ :: _ :: _ :: _ :: _ :: _ :: _ :: _ :: _ :: _ :: _ :: _ :: _ :: _ :: _ :: _ :: _ :: _ :: _ :: _ :: _ :: _ :: _ :: _ :: _ :: _ :: _ :: _ :: _ :: _ :: _ :: _ :: _ :: _ :: _ :: _ :: _ :: _ :: _ :: []), defers := [] } _
  refine dr_take 2 (.int .i64 sh) rfl rfl (by kernel_rfl) (by kernel_rfl) (by kernel_rfl) (fun _ _ _ h => h) (fun _ h => by have h1 := h.1; have h2 := h.2.1; have h3 := h.2.2; clear h; unfold execOp; go_simp) HSX3.out ?_
  change wpAnyH _ _ _ _ _ _ _ { tmps := List.toArray (_ :: _ :: _ :: _ :: _ :: _ :: _ :: _ :: _ :: _ :: _ :: _ :: _ :: _ :: _ :: _ :: _ :: _ :: _ :: _ :: _ :: _ :: _ :: _ :: _ :: _ :: _ :: _ :: _ :: _ :: _ :: _ :: _ :: _ :: _ :: _ :: _ :: _ :: _ :: _ :: _ :: _ :: _ :: _ :: _ :: _ :: _ :: _ :: _ :: _ :: _ :: _ :: _ :: _ :: _ :: _ :: _ :: _ :: _ :: _ :: _ :: _ :: _ :: _ :: _ :: _ :: _ :: _ :: _ :: _ :: _ :: _ :: _ :: _ :: _ :: _ :: _ :: _ :: _ :: _ :: _ :: _ :: _ :: _ :: _ :: _ :: _ :: _ :: _ :: _ :: _ :: _ :: _ :: _ :: _ :: _ :: _ :: _ :: _ :: _ :: _ :: _ :: _ :: _ :: _ :: []), defers := [] } _
  refine dr_take 6 (.pointer (some ⟨w.heap.size, 2, none⟩)) rfl rfl (by kernel_rfl) (by kernel_rfl) (by kernel_rfl) (fun _ _ _ h => h) (fun _ _ => by unfold execOp; go_simp) HSX3.out ?_
  change wpAnyH _ _ _ _ _ _ _ { tmps := List.toArray (_ :: _ :: _ :: _ :: _ :: _ :: _ :: _ :: _ :: _ :: _ :: _ :: _ :: _ :: _ :: _ :: _ :: _ :: _ :: _ :: _ :: _ :: _ :: _ :: _ :: _ :: _ :: _ :: _ :: _ :: _ :: _ :: _ :: _ :: _ :: _ :: _ :: _ :: _ :: _ :: _ :: _ :: _ :: _ :: _ :: _ :: _ :: _ :: _ :: _ :: _ :: _ :: _ :: _ :: _ :: _ :: _ :: _ :: _ :: _ :: _ :: _ :: _ :: _ :: _ :: _ :: _ :: _ :: _ :: _ :: _ :: _ :: _ :: _ :: _ :: _ :: _ :: _ :: _ :: _ :: _ :: _ :: _ :: _ :: _ :: _ :: _ :: _ :: _ :: _ :: _ :: _ :: _ :: _ :: _ :: _ :: _ :: _ :: _ :: _ :: _ :: _ :: _ :: _ :: _ :: []), defers := [] } _
  refine dr_take 7 (.int .i64 lk) rfl rfl (by kernel_rfl) (by kernel_rfl) (by kernel_rfl) (fun _ _ _ h => h) (fun _ h => by have h1 := h.1; have h2 := h.2.1; have h3 := h.2.2; clear h; unfold execOp; go_simp) HSX3.out ?_
  change wpAnyH _ _ _ _ _ _ _ { tmps := List.toArray (_ :: _ :: _ :: _ :: _ :: _ :: _ :: _ :: _ :: _ :: _ :: _ :: _ :: _ :: _ :: _ :: _ :: _ :: _ :: _ :: _ :: _ :: _ :: _ :: _ :: _ :: _ :: _ :: _ :: _ :: _ :: _ :: _ :: _ :: _ :: _ :: _ :: _ :: _ :: _ :: _ :: _ :: _ :: _ :: _ :: _ :: _ :: _ :: _ :: _ :: _ :: _ :: _ :: _ :: _ :: _ :: _ :: _ :: _ :: _ :: _ :: _ :: _ :: _ :: _ :: _ :: _ :: _ :: _ :: _ :: _ :: _ :: _ :: _ :: _ :: _ :: _ :: _ :: _ :: _ :: _ :: _ :: _ :: _ :: _ :: _ :: _ :: _ :: _ :: _ :: _ :: _ :: _ :: _ :: _ :: _ :: _ :: _ :: _ :: _ :: _ :: _ :: _ :: _ :: _ :: []), defers := [] } _
  refine dr_take 11 (.pointer (some ⟨w.heap.size, 3, none⟩)) rfl rfl (by kernel_rfl) (by kernel_rfl) (by kernel_rfl) (fun _ _ _ h => h) (fun _ _ => by unfold execOp; go_simp) HSX3.out ?_
  change wpAnyH _ _ _ _ _ _ _ { tmps := List.toArray (_ :: _ :: _ :: _ :: _ :: _ :: _ :: _ :: _ :: _ :: _ :: _ :: _ :: _ :: _ :: _ :: _ :: _ :: _ :: _ :: _ :: _ :: _ :: _ :: _ :: _ :: _ :: _ :: _ :: _ :: _ :: _ :: _ :: _ :: _ :: _ :: _ :: _ :: _ :: _ :: _ :: _ :: _ :: _ :: _ :: _ :: _ :: _ :: _ :: _ :: _ :: _ :: _ :: _ :: _ :: _ :: _ :: _ :: _ :: _ :: _ :: _ :: _ :: _ :: _ :: _ :: _ :: _ :: _ :: _ :: _ :: _ :: _ :: _ :: _ :: _ :: _ :: _ :: _ :: _ :: _ :: _ :: _ :: _ :: _ :: _ :: _ :: _ :: _ :: _ :: _ :: _ :: _ :: _ :: _ :: _ :: _ :: _ :: _ :: _ :: _ :: _ :: _ :: _ :: _ :: []), defers := [] } _
  refine dr_take 12 (.int .i64 bf) rfl rfl (by kernel_rfl) (by kernel_rfl) (by kernel_rfl) (fun _ _ _ h => h) (fun _ h => by have h1 := h.1; have h2 := h.2.1; have h3 := h.2.2; clear h; unfold execOp; go_simp) HSX3.out ?_
  change wpAnyH _ _ _ _ _ _ _ { tmps := List.toArray (_ :: _ :: _ :: _ :: _ :: _ :: _ :: _ :: _ :: _ :: _ :: _ :: _ :: _ :: _ :: _ :: _ :: _ :: _ :: _ :: _ :: _ :: _ :: _ :: _ :: _ :: _ :: _ :: _ :: _ :: _ :: _ :: _ :: _ :: _ :: _ :: _ :: _ :: _ :: _ :: _ :: _ :: _ :: _ :: _ :: _ :: _ :: _ :: _ :: _ :: _ :: _ :: _ :: _ :: _ :: _ :: _ :: _ :: _ :: _ :: _ :: _ :: _ :: _ :: _ :: _ :: _ :: _ :: _ :: _ :: _ :: _ :: _ :: _ :: _ :: _ :: _ :: _ :: _ :: _ :: _ :: _ :: _ :: _ :: _ :: _ :: _ :: _ :: _ :: _ :: _ :: _ :: _ :: _ :: _ :: _ :: _ :: _ :: _ :: _ :: _ :: _ :: _ :: _ :: _ :: []), defers := [] } _
  refine dr_one 3 rfl rfl (by kernel_rfl) ?_
  refine wp_callT (vs := #[.int .i64 sh]) rfl rfl (enters_of Tryz.func54 (by kernel_rfl) rfl) (by simp [Act.eval]) (HNsh.out W3) ?_
  rintro e w4 ⟨rfl, hb⟩
  have HP4 := Lib.hid (HP3.out.below hb)
  clear hb
  have HSX4 : Hid (w4.cell? ⟨w.heap.size, 1, none⟩ = some (.int .i64 sh) ∧ w4.cell? ⟨w.heap.size, 2, none⟩ = some (.int .i64 lk) ∧ w4.cell? ⟨w.heap.size, 3, none⟩ = some (.int .i64 bf)) := HC13.out _ _ _ HP4.out
  refine ⟨HSX4.out, ?_⟩
  change wpAnyH _ _ _ _ _ _ _ { tmps := List.toArray (_ :: _ :: _ :: _ :: _ :: _ :: _ :: _ :: _ :: _ :: _ :: _ :: _ :: _ :: _ :: _ :: _ :: _ :: _ :: _ :: _ :: _ :: _ :: _ :: _ :: _ :: _ :: _ :: _ :: _ :: _ :: _ :: _ :: _ :: _ :: _ :: _ :: _ :: _ :: _ :: _ :: _ :: _ :: _ :: _ :: _ :: _ :: _ :: _ :: _ :: _ :: _ :: _ :: _ :: _ :: _ :: _ :: _ :: _ :: _ :: _ :: _ :: _ :: _ :: _ :: _ :: _ :: _ :: _ :: _ :: _ :: _ :: _ :: _ :: _ :: _ :: _ :: _ :: _ :: _ :: _ :: _ :: _ :: _ :: _ :: _ :: _ :: _ :: _ :: _ :: _ :: _ :: _ :: _ :: _ :: _ :: _ :: _ :: _ :: _ :: _ :: _ :: _ :: _ :: _ :: []), defers := [] } _
  refine dr_take 4 (.string p1) rfl rfl (by kernel_rfl) (by kernel_rfl) (by kernel_rfl) (fun _ _ _ h => h) (fun V _ => by unfold execOp; go_simp <;> first | exact q1 V | simp [q1]) HSX4.out ?_
  change wpAnyH _ _ _ _ _ _ _ { tmps := List.toArray (_ :: _ :: _ :: _ :: _ :: _ :: _ :: _ :: _ :: _ :: _ :: _ :: _ :: _ :: _ :: _ :: _ :: _ :: _ :: _ :: _ :: _ :: _ :: _ :: _ :: _ :: _ :: _ :: _ :: _ :: _ :: _ :: _ :: _ :: _ :: _ :: _ :: _ :: _ :: _ :: _ :: _ :: _ :: _ :: _ :: _ :: _ :: _ :: _ :: _ :: _ :: _ :: _ :: _ :: _ :: _ :: _ :: _ :: _ :: _ :: _ :: _ :: _ :: _ :: _ :: _ :: _ :: _ :: _ :: _ :: _ :: _ :: _ :: _ :: _ :: _ :: _ :: _ :: _ :: _ :: _ :: _ :: _ :: _ :: _ :: _ :: _ :: _ :: _ :: _ :: _ :: _ :: _ :: _ :: _ :: _ :: _ :: _ :: _ :: _ :: _ :: _ :: _ :: _ :: _ :: []), defers := [] } _
  refine dr_take 5 (.string p2) rfl rfl (by kernel_rfl) (by kernel_rfl) (by kernel_rfl) (fun _ _ _ h => h) (fun V _ => by unfold execOp; go_simp <;> first | exact q2 V | simp [q2]) HSX4.out ?_
  change wpAnyH _ _ _ _ _ _ _ { tmps := List.toArray (_ :: _ :: _ :: _ :: _ :: _ :: _ :: _ :: _ :: _ :: _ :: _ :: _ :: _ :: _ :: _ :: _ :: _ :: _ :: _ :: _ :: _ :: _ :: _ :: _ :: _ :: _ :: _ :: _ :: _ :: _ :: _ :: _ :: _ :: _ :: _ :: _ :: _ :: _ :: _ :: _ :: _ :: _ :: _ :: _ :: _ :: _ :: _ :: _ :: _ :: _ :: _ :: _ :: _ :: _ :: _ :: _ :: _ :: _ :: _ :: _ :: _ :: _ :: _ :: _ :: _ :: _ :: _ :: _ :: _ :: _ :: _ :: _ :: _ :: _ :: _ :: _ :: _ :: _ :: _ :: _ :: _ :: _ :: _ :: _ :: _ :: _ :: _ :: _ :: _ :: _ :: _ :: _ :: _ :: _ :: _ :: _ :: _ :: _ :: _ :: _ :: _ :: _ :: _ :: _ :: []), defers := [] } _
  refine dr_one 8 rfl rfl (by kernel_rfl) ?_
  refine wp_callT (vs := #[.int .i64 lk]) rfl rfl (enters_of Tryz.func54 (by kernel_rfl) rfl) (by simp [Act.eval]) (HNlk.out w4) ?_
  rintro e w5 ⟨rfl, hb⟩
  have HP5 := Lib.hid (HP4.out.below hb)
  clear hb
  have HSX5 : Hid (w5.cell? ⟨w.heap.size, 1, none⟩ = some (.int .i64 sh) ∧ w5.cell? ⟨w.heap.size, 2, none⟩ = some (.int .i64 lk) ∧ w5.cell? ⟨w.heap.size, 3, none⟩ = some (.int .i64 bf)) := HC13.out _ _ _ HP5.out
  refine ⟨HSX5.out, ?_⟩
  change wpAnyH _ _ _ _ _ _ _ { tmps := List.toArray (_ :: _ :: _ :: _ :: _ :: _ :: _ :: _ :: _ :: _ :: _ :: _ :: _ :: _ :: _ :: _ :: _ :: _ :: _ :: _ :: _ :: _ :: _ :: _ :: _ :: _ :: _ :: _ :: _ :: _ :: _ :: _ :: _ :: _ :: _ :: _ :: _ :: _ :: _ :: _ :: _ :: _ :: _ :: _ :: _ :: _ :: _ :: _ :: _ :: _ :: _ :: _ :: _ :: _ :: _ :: _ :: _ :: _ :: _ :: _ :: _ :: _ :: _ :: _ :: _ :: _ :: _ :: _ :: _ :: _ :: _ :: _ :: _ :: _ :: _ :: _ :: _ :: _ :: _ :: _ :: _ :: _ :: _ :: _ :: _ :: _ :: _ :: _ :: _ :: _ :: _ :: _ :: _ :: _ :: _ :: _ :: _ :: _ :: _ :: _ :: _ :: _ :: _ :: _ :: _ :: []), defers := [] } _
  refine dr_take 9 (.string p3) rfl rfl (by kernel_rfl) (by kernel_rfl) (by kernel_rfl) (fun _ _ _ h => h) (fun V _ => by unfold execOp; go_simp <;> first | exact q3 V | simp [q3]) HSX5.out ?_
  change wpAnyH _ _ _ _ _ _ _ { tmps := List.toArray (_ :: _ :: _ :: _ :: _ :: _ :: _ :: _ :: _ :: _ :: _ :: _ :: _ :: _ :: _ :: _ :: _ :: _ :: _ :: _ :: _ :: _ :: _ :: _ :: _ :: _ :: _ :: _ :: _ :: _ :: _ :: _ :: _ :: _ :: _ :: _ :: _ :: _ :: _ :: _ :: _ :: _ :: _ :: _ :: _ :: _ :: _ :: _ :: _ :: _ :: _ :: _ :: _ :: _ :: _ :: _ :: _ :: _ :: _ :: _ :: _ :: _ :: _ :: _ :: _ :: _ :: _ :: _ :: _ :: _ :: _ :: _ :: _ :: _ :: _ :: _ :: _ :: _ :: _ :: _ :: _ :: _ :: _ :: _ :: _ :: _ :: _ :: _ :: _ :: _ :: _ :: _ :: _ :: _ :: _ :: _ :: _ :: _ :: _ :: _ :: _ :: _ :: _ :: _ :: _ :: []), defers := [] } _
  refine dr_take 10 (.string p4) rfl rfl (by kernel_rfl) (by kernel_rfl) (by kernel_rfl) (fun _ _ _ h => h) (fun V _ => by unfold execOp; go_simp <;> first | exact q4 V | simp [q4]) HSX5.out ?_
  change wpAnyH _ _ _ _ _ _ _ { tmps := List.toArray (_ :: _ :: _ :: _ :: _ :: _ :: _ :: _ :: _ :: _ :: _ :: _ :: _ :: _ :: _ :: _ :: _ :: _ :: _ :: _ :: _ :: _ :: _ :: _ :: _ :: _ :: _ :: _ :: _ :: _ :: _ :: _ :: _ :: _ :: _ :: _ :: _ :: _ :: _ :: _ :: _ :: _ :: _ :: _ :: _ :: _ :: _ :: _ :: _ :: _ :: _ :: _ :: _ :: _ :: _ :: _ :: _ :: _ :: _ :: _ :: _ :: _ :: _ :: _ :: _ :: _ :: _ :: _ :: _ :: _ :: _ :: _ :: _ :: _ :: _ :: _ :: _ :: _ :: _ :: _ :: _ :: _ :: _ :: _ :: _ :: _ :: _ :: _ :: _ :: _ :: _ :: _ :: _ :: _ :: _ :: _ :: _ :: _ :: _ :: _ :: _ :: _ :: _ :: _ :: _ :: []), defers := [] } _
  refine dr_one 13 rfl rfl (by kernel_rfl) ?_
  refine wp_callT (vs := #[.int .i64 bf]) rfl rfl (enters_of Tryz.func54 (by kernel_rfl) rfl) (by simp [Act.eval]) (HNbf.out w5) ?_
  rintro e w6 ⟨rfl, hb⟩
  have HP6 := Lib.hid (HP5.out.below hb)
  clear hb
  have HSX6 : Hid (w6.cell? ⟨w.heap.size, 1, none⟩ = some (.int .i64 sh) ∧ w6.cell? ⟨w.heap.size, 2, none⟩ = some (.int .i64 lk) ∧ w6.cell? ⟨w.heap.size, 3, none⟩ = some (.int .i64 bf)) := HC13.out _ _ _ HP6.out
  refine ⟨HSX6.out, ?_⟩
  change wpAnyH _ _ _ _ _ _ _ { tmps := List.toArray (_ :: _ :: _ :: _ :: _ :: _ :: _ :: _ :: _ :: _ :: _ :: _ :: _ :: _ :: _ :: _ :: _ :: _ :: _ :: _ :: _ :: _ :: _ :: _ :: _ :: _ :: _ :: _ :: _ :: _ :: _ :: _ :: _ :: _ :: _ :: _ :: _ :: _ :: _ :: _ :: _ :: _ :: _ :: _ :: _ :: _ :: _ :: _ :: _ :: _ :: _ :: _ :: _ :: _ :: _ :: _ :: _ :: _ :: _ :: _ :: _ :: _ :: _ :: _ :: _ :: _ :: _ :: _ :: _ :: _ :: _ :: _ :: _ :: _ :: _ :: _ :: _ :: _ :: _ :: _ :: _ :: _ :: _ :: _ :: _ :: _ :: _ :: _ :: _ :: _ :: _ :: _ :: _ :: _ :: _ :: _ :: _ :: _ :: _ :: _ :: _ :: _ :: _ :: _ :: _ :: []), defers := [] } _
  refine dr_take 14 (.string p5) rfl rfl (by kernel_rfl) (by kernel_rfl) (by kernel_rfl) (fun _ _ _ h => h) (fun V _ => by unfold execOp; go_simp <;> first | exact q5 V | simp [q5]) HSX6.out ?_
  change wpAnyH _ _ _ _ _ _ _ { tmps := List.toArray (_ :: _ :: _ :: _ :: _ :: _ :: _ :: _ :: _ :: _ :: _ :: _ :: _ :: _ :: _ :: _ :: _ :: _ :: _ :: _ :: _ :: _ :: _ :: _ :: _ :: _ :: _ :: _ :: _ :: _ :: _ :: _ :: _ :: _ :: _ :: _ :: _ :: _ :: _ :: _ :: _ :: _ :: _ :: _ :: _ :: _ :: _ :: _ :: _ :: _ :: _ :: _ :: _ :: _ :: _ :: _ :: _ :: _ :: _ :: _ :: _ :: _ :: _ :: _ :: _ :: _ :: _ :: _ :: _ :: _ :: _ :: _ :: _ :: _ :: _ :: _ :: _ :: _ :: _ :: _ :: _ :: _ :: _ :: _ :: _ :: _ :: _ :: _ :: _ :: _ :: _ :: _ :: _ :: _ :: _ :: _ :: _ :: _ :: _ :: _ :: _ :: _ :: _ :: _ :: _ :: []), defers := [] } _
  refine dr_take 15 (.string p6) rfl rfl (by kernel_rfl) (by kernel_rfl) (by kernel_rfl) (fun _ _ _ h => h) (fun V _ => by unfold execOp; go_simp <;> first | exact q6 V | simp [q6]) HSX6.out ?_
  change wpAnyH _ _ _ _ _ _ _ { tmps := List.toArray (_ :: _ :: _ :: _ :: _ :: _ :: _ :: _ :: _ :: _ :: _ :: _ :: _ :: _ :: _ :: _ :: _ :: _ :: _ :: _ :: _ :: _ :: _ :: _ :: _ :: _ :: _ :: _ :: _ :: _ :: _ :: _ :: _ :: _ :: _ :: _ :: _ :: _ :: _ :: _ :: _ :: _ :: _ :: _ :: _ :: _ :: _ :: _ :: _ :: _ :: _ :: _ :: _ :: _ :: _ :: _ :: _ :: _ :: _ :: _ :: _ :: _ :: _ :: _ :: _ :: _ :: _ :: _ :: _ :: _ :: _ :: _ :: _ :: _ :: _ :: _ :: _ :: _ :: _ :: _ :: _ :: _ :: _ :: _ :: _ :: _ :: _ :: _ :: _ :: _ :: _ :: _ :: _ :: _ :: _ :: _ :: _ :: _ :: _ :: _ :: _ :: _ :: _ :: _ :: _ :: []), defers := [] } _
  refine dr_one 16 rfl rfl (by kernel_rfl) ?_
  refine wp_app_str _ _ 50 9 rfl (w.heap.size + 1) 5 i0 Tryz.underlying50 Tryz.underlying9 hi hz0 hz1 hz2 (.slice none 0 0) _ _ rfl HP6.out.own p6 rfl (by unfold maxLen; simp only [List.length_nil]; omega) (by simp only [List.length_nil]; omega) (by have := HP6.out.sq.bx.lt; omega) ?_
  intro v' w7 ho hgr _
  obtain ⟨ao, cp, rfl, hps⟩ := HP6.out.app HT5.out ho hgr
  have HP7 := Lib.hid hps
  clear ho hgr hps
  have HSX7 : Hid (w7.cell? ⟨w.heap.size, 1, none⟩ = some (.int .i64 sh) ∧ w7.cell? ⟨w.heap.size, 2, none⟩ = some (.int .i64 lk) ∧ w7.cell? ⟨w.heap.size, 3, none⟩ = some (.int .i64 bf)) := HC13.out _ _ _ HP7.out
  refine ⟨HSX7.out, ?_⟩
  change wpAnyH _ _ _ _ _ _ _ { tmps := List.toArray (_ :: _ :: _ :: _ :: _ :: _ :: _ :: _ :: _ :: _ :: _ :: _ :: _ :: _ :: _ :: _ :: _ :: _ :: _ :: _ :: _ :: _ :: _ :: _ :: _ :: _ :: _ :: _ :: _ :: _ :: _ :: _ :: _ :: _ :: _ :: _ :: _ :: _ :: _ :: _ :: _ :: _ :: _ :: _ :: _ :: _ :: _ :: _ :: _ :: _ :: _ :: _ :: _ :: _ :: _ :: _ :: _ :: _ :: _ :: _ :: _ :: _ :: _ :: _ :: _ :: _ :: _ :: _ :: _ :: _ :: _ :: _ :: _ :: _ :: _ :: _ :: _ :: _ :: _ :: _ :: _ :: _ :: _ :: _ :: _ :: _ :: _ :: _ :: _ :: _ :: _ :: _ :: _ :: _ :: _ :: _ :: _ :: _ :: _ :: _ :: _ :: _ :: _ :: _ :: _ :: []), defers := [] } _
  refine dr_one 17 rfl rfl (by kernel_rfl) ?_
  refine wv_val (v := .slice ao t5.length cp) (by unfold execOp; go_simp) ⟨HSX7.out, ?_⟩
  refine wpAnyH_done (by kernel_rfl) ?_ _
  clear HP3 HP4 HP5 HP6 HSX3 HSX4 HSX5 HSX6 HSX7 q1 q2 q3 q4 q5 q6 s6 HNsh HNlk HNbf HT5 HT5b HC13
  go_wp2_with fail
  go_loopg [7, 8] (n1 + 1) (fun m' v z X => ∃ (j : Nat) (T : List UInt8) (ao : Option Addr) (cp : Nat), z = .int .i64 (j : Int) ∧ v = .slice ao T.length cp ∧ j ≤ n1 ∧ m' = n1 - j + 1 ∧ T = t5 ++ memT (mem.take j) ∧ T.length ≤ 1000 + 200 * j ∧ Ps w #[.slice a1 n1 c1, .int .i64 sh, .int .i64 lk, .int .i64 bf, .slice a5 n5 c5] (.slice ao T.length cp) T X)
  case atStart => exact ⟨0, t5, ao, cp, rfl, rfl, Nat.zero_le _, by omega, by simp [memT], HL5.out, HP7.out⟩
  case round =>
    clear HP7 HL5
    obtain ⟨j, T, ao, cp, rfl, rfl, hj, hm, hT, hl, hp⟩ := hrel
    have HM := Lib.hid hm
    have HT := Lib.hid hT
    have HP := Lib.hid hp
    have p0 := row_cellsO hp.sq.bx 0 _ rfl
    clear hm hT hp
    by_cases hjn : j < n1
    · have il : j < mem.length := by have := HN.out.1; omega
      have g1 : mem[j]? = some mem[j] := List.getElem?_eq_getElem il
      have hx : -9223372036854775808 ≤ mem[j] ∧ mem[j] ≤ 9223372036854775807 := HG.out.1 _ (List.getElem_mem il)
      have htk := take_mem g1
      generalize mem[j] = x at g1 hx htk
      rcases E1.out with e | ⟨g, q, e, e1⟩
      · subst e; simp at il
      obtain rfl : a1 = some ⟨g, q, none⟩ := e
      have k0 := e1 j x g1
      have k0' : wr.cell? ⟨g, q + j, none⟩ = some (.int .i64 x) := (HP.out.sq.bel.cell (p := ⟨g, q + j, none⟩) (lt_of_at k0)).trans k0
      have hjn' : (j : Int) < (n1 : Int) := by omega
      have HRP : Hid (∀ X, Calls Tryz.prog 55 #[.int .i64 x] X fun e w' => e = .returned (.string (itoaS x)) ∧ Below X.heap.size X w') := fun X => rprint_any x hx.1 hx.2 X
      have ux := itoaS_size x hx.1 hx.2
      obtain ⟨s1, hs1⟩ : ∃ s : ByteArray, s = (⟨#[32]⟩ : ByteArray) ++ itoaS x := ⟨_, rfl⟩
      have z1 : s1.size ≤ 101 := by rw [hs1, ByteArray.size_append]; show 1 + _ ≤ _; omega
      have hcat : ∀ V, (Op.stringOp .add (⟨#[32]⟩ : ByteArray) (itoaS x)).run Tryz.prog V = .ok (.string s1) V := fun V => by rw [hs1]; exact run_string_add_sum V _ _ (by show 1 + _ ≤ _; omega)
      obtain ⟨T', hT'⟩ : ∃ t : List UInt8, t = T ++ s1.data.toList := ⟨_, rfl⟩
      have HT' := Lib.hid hT'
      have HTK : Hid (T' = t5 ++ memT (mem.take (j + 1))) := by
        rw [Hid, hT', htk, HT.out, hs1, List.append_assoc]
        simp [ByteArray.data_append, itoaS, wrdT]
      have HTL : Hid (T'.length ≤ 1000 + 200 * (j + 1)) := by
        have h2 : s1.data.toList.length = s1.size := Array.length_toList
        rw [Hid, hT', List.length_append]
        omega
      clear hT' hs1 htk ux k0 e1 g1 il hx
      go_wp2_with (first | (go_at_call 55; refine (HRP.out _).mono ?_; rintro e w2 ⟨rfl, hb⟩; have hp2 := HP.out.below hb; clear hb) | (at_builtin; refine Lib.wpList_append_own_string _ rfl _ _ 50 9 rfl (w.heap.size + 1) 5 i0 Tryz.underlying50 Tryz.underlying9 hi hz0 hz1 hz2 _ _ _ rfl hp2.own s1 rfl ?c3 ?c4 ?c5 ?_))
      case c3 => unfold maxLen; omega
      case c4 => omega
      case c5 => have := hp2.sq.bx.lt; omega
      intro v' w3 ho hgr _
      obtain ⟨ao', cp', rfl, hps⟩ := hp2.app HT'.out ho hgr
      have HPS := Lib.hid hps
      clear ho hgr hps hp2
      go_wp2_with fail
      go_roundg (n1 - (j + 1) + 1)
      case measure => have := HM.out; omega
      case rel => exact ⟨j + 1, T', ao', cp', by simp, rfl, by omega, by omega, HTK.out, HTL.out, HPS.out⟩
    obtain rfl : n1 = j := by omega
    obtain ⟨t6, ht6⟩ : ∃ t : List UInt8, t = T ++ (⟨#[10]⟩ : ByteArray).data.toList := ⟨_, rfl⟩
    have HT6 := Lib.hid ht6
    have HT6b : Hid (t6 = t5 ++ memT mem ++ [10]) := by
      rw [Hid, ht6, HT.out, show mem.take n1 = mem by rw [HN.out.1, List.take_length]]
    have HL6 : Hid (t6.length ≤ 1000000) := by
      rw [Hid, ht6, List.length_append]
      show _ + 1 ≤ _
      omega
    rw [← HT6b.out] at HPZ
    have hp := HP.out
    clear ht6
    go_wp2_with (at_builtin; refine wpList_append_own _ rfl _ _ 50 rfl (w.heap.size + 1) 5 i0 (.int .u8 0) 1 1 Tryz.underlying50 hi hz0 hz1 hz2 rfl (by decide) (.slice ao T.length cp) T.length (Lib.byteCells T) rfl (hp.own.alloc _) ⟨wr.heap.size, 0, none⟩ 1 1 [.int .u8 10] rfl rfl ?c1 ?c2 ?c3 ?c4 ?c5 ?_)
    case c2 => rfl
    case c3 => unfold maxLen; omega
    case c4 => omega
    case c5 => have := hp.sq.bx.lt; first | omega | (simp; omega)
    intro v' w2 ho hgr _
    obtain ⟨ao2, cp2, rfl, hps⟩ := (hp.below ((Below.refl wr.heap.size wr).alloc (Nat.le_refl _) (.cells #[.int .u8 10] 5))).app (s := (⟨#[10]⟩ : ByteArray)) HT6.out ho hgr
    have HP6 := Lib.hid hps
    clear ho hgr hps hp HP HT HT6 HT6b HM hl hj hjn p0
    go_wp2_with fail
    go_loopg [7, 9] (n5 + 1) (fun m' v z X => ∃ (t : Nat) (T : List UInt8) (ao : Option Addr) (cp : Nat), z = .int .i64 (t : Int) ∧ v = .slice ao T.length cp ∧ t ≤ n5 ∧ m' = n5 - t + 1 ∧ T = t6 ++ (cores.take t).flatMap corT ∧ T.length ≤ 30000000 + 100 * t ∧ Ps w #[.slice a1 n1 c1, .int .i64 sh, .int .i64 lk, .int .i64 bf, .slice a5 n5 c5] (.slice ao T.length cp) T X)
    case atStart => exact ⟨0, t6, ao2, cp2, rfl, rfl, Nat.zero_le _, by omega, by simp, by have := HL6.out; omega, HP6.out⟩
    case round =>
      clear HP6 HL6
      obtain ⟨t, T, ao, cp, rfl, rfl, ht, hm, hT, hl, hp⟩ := hrel
      have HM := Lib.hid hm
      have HT := Lib.hid hT
      have HP := Lib.hid hp
      have p4 := row_cellsO hp.sq.bx 4 _ rfl
      clear hm hT
      by_cases htn : t < n5
      rotate_left
      · obtain rfl : n5 = t := by omega
        have hT2 : T = t6 ++ cores.flatMap corT := by rw [HT.out, show cores.take n5 = cores by rw [HN.out.2, List.take_length]]
        rw [← hT2] at HPZ
        clear hT2
        by_cases hbig : 16777216 < (T.length : Int)
        · have hpr : pr = ([], 4) := by rw [HPZ.out, if_pos (by omega)]
          subst hpr
          clear hp
          go_wp2_with fail
          refine bodyPost_ret (results_tmp2 rfl _ _ _) rfl ?_
          exact ⟨rfl, HP.out.sq.bel⟩
        · have hpr : pr = (T, 0) := by rw [HPZ.out, if_neg (by omega)]
          subst hpr
          have hcv := conv_b hp.own
          clear hp
          go_wp2_with fail
          refine bodyPost_ret (results_tmp2 rfl _ _ _) rfl ?_
          exact ⟨rfl, HP.out.sq.bel⟩
      have il : t < cores.length := by have := HN.out.2; omega
      have g1 : cores[t]? = some cores[t] := List.getElem?_eq_getElem il
      have hmem : cores[t] ∈ cores := List.getElem_mem il
      have htk := take_flat corT g1
      have hdr : cores = cores.take t ++ (cores[t] :: cores.drop (t + 1)) := by rw [← List.drop_eq_getElem_cons il, List.take_append_drop]
      generalize cores[t] = x at g1 hmem htk hdr
      have HLE : Hid (∀ T' : List UInt8, T' = t6 ++ (cores.take t).flatMap corT ++ (([99, 111, 114, 101, 32] : List UInt8) ++ x.name.data.toList ++ [10]) → ∀ k, (T' ++ codeT (x.code.take k)).length ≤ (t6 ++ cores.flatMap corT).length) := fun T' e k => by
        have h1 := code_le x.code k
        have h2 := congrArg (fun l : List Cor => (l.flatMap corT).length) hdr
        simp only [List.flatMap_append, List.flatMap_cons, List.length_append] at h2
        have h3 : (corT x).length = (([99, 111, 114, 101, 32] : List UInt8) ++ x.name.data.toList ++ [10]).length + (codeT x.code).length := by show (([99, 111, 114, 101, 32] : List UInt8) ++ x.name.data.toList ++ [10] ++ codeT x.code).length = _; rw [List.length_append]
        rw [e]
        simp only [List.length_append] at *
        omega
      rcases E5.out with e | ⟨g, q, e, e1⟩
      · subst e; simp at il
      obtain rfl : a5 = some ⟨g, q, none⟩ := e
      obtain ⟨f0, a2, c2, f1, y2⟩ := e1 t x g1
      obtain ⟨lnm, lcd⟩ := HLC.out x hmem
      have HRI : Hid (∀ i ∈ x.code, rgI i) := HG.out.2 x hmem
      have HRX : Hid (∀ i ∈ x.code, rightB i x.code.length n1 = true) := HRT.out x hmem
      obtain ⟨nm, cd⟩ := x
      simp only [corT] at f0 f1 y2 lnm lcd HRI HRX htk HLE
      have htn' : (t : Int) < (n5 : Int) := by omega
      obtain ⟨nc, hnc⟩ : ∃ n, n = cd.length := ⟨_, rfl⟩
      rw [← hnc] at f1 lcd HRX
      have HNC := Lib.hid hnc
      have E2 := Lib.hid y2
      have k0 : wr.cell? ⟨g, q + t * 2, none⟩ = some (.string nm) := (hp.sq.bel.cell (p := ⟨g, q + t * 2, none⟩) (lt_of_at f0)).trans f0
      have HK1 : Hid (∀ X, Below w.heap.size w X → X.cell? ⟨g, q + t * 2 + 1, none⟩ = some (.slice a2 nc c2)) := fun X h => (h.cell (p := ⟨g, q + t * 2 + 1, none⟩) (lt_of_at f1)).trans f1
      obtain ⟨s1, hs1⟩ : ∃ s : ByteArray, s = (⟨#[99, 111, 114, 101, 32]⟩ : ByteArray) ++ nm := ⟨_, rfl⟩
      obtain ⟨s2, hs2⟩ : ∃ s : ByteArray, s = s1 ++ (⟨#[10]⟩ : ByteArray) := ⟨_, rfl⟩
      have z1 : s1.size ≤ 40 := by rw [hs1, ByteArray.size_append]; show 5 + _ ≤ _; omega
      have z2 : s2.size ≤ 41 := by rw [hs2, ByteArray.size_append]; show _ + 1 ≤ _; omega
      have hcat1 : ∀ V, (Op.stringOp .add (⟨#[99, 111, 114, 101, 32]⟩ : ByteArray) nm).run Tryz.prog V = .ok (.string s1) V := fun V => by rw [hs1]; exact run_string_add_sum V _ _ (by show 5 + nm.size ≤ _; omega)
      have hcat2 : ∀ V, (Op.stringOp .add s1 ⟨#[10]⟩).run Tryz.prog V = .ok (.string s2) V := fun V => by rw [hs2]; exact run_string_add_sum V _ _ (by show s1.size + 1 ≤ _; omega)
      obtain ⟨T1, hT1⟩ : ∃ t : List UInt8, t = T ++ s2.data.toList := ⟨_, rfl⟩
      have HT1 := Lib.hid hT1
      have hT1b : T1 = t6 ++ (cores.take t).flatMap corT ++ (([99, 111, 114, 101, 32] : List UInt8) ++ nm.data.toList ++ [10]) := by
        rw [hT1, HT.out, hs2, hs1]
        simp [ByteArray.data_append]
      have HLE2 := Lib.hid (HLE.out T1 hT1b)
      have HTK : Hid (t6 ++ (cores.take (t + 1)).flatMap corT = T1 ++ codeT cd) := by
        rw [Hid, htk, hT1b]
        simp only [List.append_assoc]
      have HL1 : Hid (T1.length ≤ 30000000 + 100 * (t + 1)) := by
        have h2 : s2.data.toList.length = s2.size := Array.length_toList
        rw [Hid, hT1, List.length_append]
        omega
      clear hT1 hT1b hs1 hs2 z1 htk HLE f0 f1 y2 e1 g1 hmem hnc il hdr
      go_wp2_with (at_builtin; refine Lib.wpList_append_own_string _ rfl _ _ 50 9 rfl (w.heap.size + 1) 5 i0 Tryz.underlying50 Tryz.underlying9 hi hz0 hz1 hz2 _ _ _ rfl hp.own s2 rfl ?c3 ?c4 ?c5 ?_)
      case c3 => unfold maxLen; omega
      case c4 => omega
      case c5 => have := hp.sq.bx.lt; omega
      intro v' w3 ho hgr _
      obtain ⟨ao3, cp3, rfl, hps⟩ := hp.app HT1.out ho hgr
      have HP1 := Lib.hid hps
      clear ho hgr hps hp p4 k0 hcat1 hcat2 z2 HP HT1
      go_wp2_with fail
      go_loopg [7, 10] (nc + 1) (fun m' v z X => ∃ (i : Nat) (T' : List UInt8) (ao : Option Addr) (cp : Nat), z = .int .i64 (i : Int) ∧ v = .slice ao T'.length cp ∧ i ≤ nc ∧ m' = nc - i + 1 ∧ T' = T1 ++ codeT (cd.take i) ∧ T'.length ≤ 30000000 + 100 * (t + 1) ∧ Ps w #[.slice a1 n1 c1, .int .i64 sh, .int .i64 lk, .int .i64 bf, .slice (some ⟨g, q, none⟩) n5 c5] (.slice ao T'.length cp) T' X)
      case atStart => exact ⟨0, T1, ao3, cp3, rfl, rfl, Nat.zero_le _, by omega, by simp [codeT], HL1.out, HP1.out⟩
      case round =>
        clear HP1 HL1
        obtain ⟨i, T', ao, cp, rfl, rfl, hi', hmi, hT', hl', hp⟩ := hrel
        have HMI := Lib.hid hmi
        have HT' := Lib.hid hT'
        have HP := Lib.hid hp
        have p4 := row_cellsO hp.sq.bx 4 _ rfl
        have p6 := HK1.out _ hp.sq.bel
        clear hmi hT' hp
        by_cases hin : i < nc
        rotate_left
        · obtain rfl : nc = i := by omega
          have HTE : Hid (T' = t6 ++ (cores.take (t + 1)).flatMap corT) := by
            rw [Hid, HT'.out, HTK.out, show cd.take nc = cd by rw [HNC.out, List.take_length]]
          go_wp2_with fail
          go_roundg (n5 - (t + 1) + 1)
          case measure => have := HM.out; omega
          case rel => exact ⟨t + 1, T', ao, cp, by simp, rfl, by omega, by omega, HTE.out, hl', HP.out⟩
        have jl : i < cd.length := by have := HNC.out; omega
        have g2 : cd[i]? = some cd[i] := List.getElem?_eq_getElem jl
        have hme : cd[i] ∈ cd := List.getElem_mem jl
        have htk2 := take_code g2
        have hri := HRI.out _ hme
        have hrx := HRX.out _ hme
        generalize cd[i] = x at g2 hme htk2 hri hrx
        rcases E2.out with e | ⟨g', q', e, e2⟩
        · subst e; simp at jl
        obtain rfl : a2 = some ⟨g', q', none⟩ := e
        have e3 := e2 i x g2
        have BX := HP.out.sq.bel
        have f0 : wr.cell? ⟨g', q' + i * 9, none⟩ = some (.int .u8 x.k) := (BX.cell (p := ⟨g', q' + i * 9, none⟩) (lt_of_at (e3 0 _ rfl))).trans (e3 0 _ rfl)
        have f1 : wr.cell? ⟨g', q' + i * 9 + 1, none⟩ = some (.int .u8 x.o) := (BX.cell (p := ⟨g', q' + i * 9 + 1, none⟩) (lt_of_at (e3 1 _ rfl))).trans (e3 1 _ rfl)
        have f2 : wr.cell? ⟨g', q' + i * 9 + 2, none⟩ = some (.int .i64 x.d) := (BX.cell (p := ⟨g', q' + i * 9 + 2, none⟩) (lt_of_at (e3 2 _ rfl))).trans (e3 2 _ rfl)
        have f3 : wr.cell? ⟨g', q' + i * 9 + 3, none⟩ = some (.int .i64 x.a) := (BX.cell (p := ⟨g', q' + i * 9 + 3, none⟩) (lt_of_at (e3 3 _ rfl))).trans (e3 3 _ rfl)
        have f4 : wr.cell? ⟨g', q' + i * 9 + 4, none⟩ = some (.int .i64 x.b) := (BX.cell (p := ⟨g', q' + i * 9 + 4, none⟩) (lt_of_at (e3 4 _ rfl))).trans (e3 4 _ rfl)
        have f5 : wr.cell? ⟨g', q' + i * 9 + 5, none⟩ = some (.int .i64 x.ad) := (BX.cell (p := ⟨g', q' + i * 9 + 5, none⟩) (lt_of_at (e3 5 _ rfl))).trans (e3 5 _ rfl)
        have f6 : wr.cell? ⟨g', q' + i * 9 + 6, none⟩ = some (.int .i64 x.tt) := (BX.cell (p := ⟨g', q' + i * 9 + 6, none⟩) (lt_of_at (e3 6 _ rfl))).trans (e3 6 _ rfl)
        have f7 : wr.cell? ⟨g', q' + i * 9 + 7, none⟩ = some (.int .i64 x.wd) := (BX.cell (p := ⟨g', q' + i * 9 + 7, none⟩) (lt_of_at (e3 7 _ rfl))).trans (e3 7 _ rfl)
        have f8 : wr.cell? ⟨g', q' + i * 9 + 8, none⟩ = some (.int .i64 x.fr) := (BX.cell (p := ⟨g', q' + i * 9 + 8, none⟩) (lt_of_at (e3 8 _ rfl))).trans (e3 8 _ rfl)
        have hin' : (i : Int) < (nc : Int) := by omega
        obtain ⟨s3, hs3⟩ : ∃ s : ByteArray, s = ⟨(insT x).toArray⟩ := ⟨_, rfl⟩
        have HSH : Hid (∀ X, Calls Tryz.prog 29 #[insV x] X fun e w' => e = .returned (.string s3) ∧ Below X.heap.size X w') := fun X => by
          have h := rshow_any x hri X
          have hs : shwT x = insT x := by
            unfold shwT
            rw [if_pos (right_mono hrx (by omega) (by omega))]
          rw [hs, ← hs3] at h
          exact h
        have z3 : s3.size ≤ 1000 := by
          rw [hs3]
          show (insT x).toArray.size ≤ 1000
          rw [List.size_toArray]
          exact insT_len x hri
        obtain ⟨s4, hs4⟩ : ∃ s : ByteArray, s = s3 ++ (⟨#[10]⟩ : ByteArray) := ⟨_, rfl⟩
        have z4 : s4.size ≤ 1001 := by rw [hs4, ByteArray.size_append]; show _ + 1 ≤ _; omega
        have hcat : ∀ V, (Op.stringOp .add s3 ⟨#[10]⟩).run Tryz.prog V = .ok (.string s4) V := fun V => by rw [hs4]; exact run_string_add_sum V _ _ (by show s3.size + 1 ≤ _; omega)
        obtain ⟨T2, hT2⟩ : ∃ t : List UInt8, t = T' ++ s4.data.toList := ⟨_, rfl⟩
        have HT2 := Lib.hid hT2
        have HTK2 : Hid (T2 = T1 ++ codeT (cd.take (i + 1))) := by
          rw [Hid, hT2, htk2, HT'.out, hs4, hs3, List.append_assoc]
          simp [ByteArray.data_append]
        have HTB : Hid (T2.length ≤ (t6 ++ cores.flatMap corT).length) := by
          rw [Hid, HTK2.out]
          exact HLE2.out (i + 1)
        obtain ⟨k, o, d, a, b, ad, tt, wd, fr⟩ := x
        simp only [insC, insV] at f0 f1 f2 f3 f4 f5 f6 f7 f8 HSH
        clear hT2 hs3 hs4 htk2 hri hrx g2 hme jl e2 e3 BX
        go_wp2_with (first | (go_at_call 29; refine (HSH.out _).mono ?_; rintro e w2 ⟨rfl, hb⟩; have hp2 := HP.out.below hb; clear hb) | (at_builtin; refine Lib.wpList_append_own_string _ rfl _ _ 50 9 rfl (w.heap.size + 1) 5 i0 Tryz.underlying50 Tryz.underlying9 hi hz0 hz1 hz2 _ _ _ rfl hp2.own s4 rfl ?c3 ?c4 ?c5 ?_))
        case c3 => unfold maxLen; omega
        case c4 => omega
        case c5 => have := hp2.sq.bx.lt; omega
        intro v' w3 ho hgr _
        obtain ⟨ao', cp', rfl, hps⟩ := hp2.app HT2.out ho hgr
        have HPS := Lib.hid hps
        clear ho hgr hps hp2 f0 f1 f2 f3 f4 f5 f6 f7 f8 p4 p6 HP
        by_cases hbig : 16777216 < (T2.length : Int)
        · have hpr : pr = ([], 4) := by rw [HPZ.out, if_pos (by have := HTB.out; omega)]
          subst hpr
          go_wp2_with fail
          refine bodyPost_ret (results_tmp2 rfl _ _ _) rfl ?_
          exact ⟨rfl, HPS.out.sq.bel⟩
        · go_wp2_with fail
          go_roundg (nc - (i + 1) + 1)
          case measure => have := HMI.out; omega
          case rel => exact ⟨i + 1, T2, ao', cp', by simp, rfl, by omega, by omega, HTK2.out, by omega, HPS.out⟩
end Go.Proofs.YtopinnhfajjndaaGreatDoor

/- Target's Print and Show, walked. -/
import Derived.Test.YtgmcfinjlddgbaaGreatDoorTw4
namespace Go.Proofs.YtgmcfinjlddgbaaGreatDoor
open Go.RowKit Go.Maps
set_option linter.unusedVariables false
set_option maxRecDepth 100000
theorem badI_none {n mem : Int} : ∀ {l : List Ins}, badI n mem l = none → ∀ i ∈ l, rightB i n mem = true
  | [], _, i, h => by cases h
  | x :: r, e, i, h => by
    unfold badI at e
    cases hx : rightB x n mem with
    | false => rw [hx] at e; simp at e
    | true =>
      rw [hx] at e
      rcases List.mem_cons.1 h with rfl | h
      · exact hx
      · exact badI_none (by simpa using e) i h
theorem badCs_none {mem : Int} : ∀ {l : List Cor}, badCs mem l = none → ∀ c ∈ l, ∀ i ∈ c.code, rightB i c.code.length mem = true
  | [], _, i, h => by cases h
  | x :: r, e, c, h => by
    unfold badCs at e
    cases hx : badI x.code.length mem x.code with
    | some k => rw [hx] at e; cases e
    | none =>
      rw [hx] at e
      rcases List.mem_cons.1 h with rfl | h
      · exact badI_none hx
      · exact badCs_none (by simpa using e) c h
/-- An object that Check takes. -/
theorem chk_ok {o : Ob} (h : (chkO o).1 = 0) : topB o = true ∧ ∀ c ∈ o.cores, ∀ i ∈ c.code, rightB i c.code.length o.mem.length = true := by
  unfold chkO at h
  cases ht : topB o with
  | false => rw [ht] at h; simp at h
  | true =>
    rw [ht] at h
    refine ⟨rfl, ?_⟩
    cases hb : badCs o.mem.length o.cores with
    | none => exact badCs_none hb
    | some p => rw [hb] at h; simp at h
theorem right_k {i : Ins} {n m : Int} (h : rightB i n m = true) : kB i.k = true ∧ opB i.k i.o = true := by
  unfold rightB at h
  simp only [Bool.and_eq_true] at h
  exact ⟨h.1, h.2.2.1⟩
theorem wt_new (w : World) : Wt w.heap.size [] (w.alloc (.cells #[.pointer none, .slice none 0 0] 82)) := by
  refine ⟨.pointer none, .slice none 0 0, Own.new w _ _, .inl rfl, fun _ => rfl, ?_⟩
  exact ⟨rfl, .inl ⟨rfl, rfl⟩⟩
theorem obT_len (o : Ob) (hg : rgO o) (h1 : o.mem.length ≤ 4096) (h2 : o.cores.length ≤ 8) (h3 : ∀ c ∈ o.cores, c.name.size ≤ 32 ∧ c.code.length ≤ 16384) : (obT o).length ≤ 1000000000 := by
  obtain ⟨gm, gs, gk, gb, gi⟩ := hg
  have a1 := (num_len _ gs).2.1
  have a2 := (num_len _ gk).2.1
  have a3 := (num_len _ gb).2.1
  have a4 := flat_len wrdT 100 o.mem fun x hx => (num_len x (gm x hx)).2.2
  have a5 := flat_len corT 17000000 o.cores fun c hc => by
    have b1 := flat_len (fun i => insT i ++ [10]) 1001 c.code fun i hi => by
      have := insT_len i (gi c hc i hi)
      simp only [List.length_append, List.length_cons, List.length_nil]; omega
    have b2 := h3 c hc
    have b3 : c.name.data.toList.length = c.name.size := Array.length_toList
    simp only [corT, codeT, List.length_append, List.length_cons, List.length_nil]
    omega
  unfold obT memT
  simp only [List.length_append, List.length_cons, List.length_nil]
  omega
/-- What Print answers. -/
def prtO (o : Ob) : List UInt8 × Int := if (chkO o).1 = 0 then (if (obT o).length > 16777216 then ([], 4) else (obT o, 0)) else ([], (chkO o).1)
def prtE (r : List UInt8 × Int) : Ending := .returned (.tuple #[.string ⟨r.1.toArray⟩, .int .i64 r.2])
theorem chk_fit {o : Ob} (ht : topB o = true) : o.mem.length ≤ 4096 ∧ o.cores.length ≤ 8 ∧ ∀ c ∈ o.cores, c.name.size ≤ 32 ∧ c.code.length ≤ 16384 := by
  unfold topB at ht
  simp only [Bool.and_eq_true, decide_eq_true_eq] at ht
  obtain ⟨_, _, _, h4, _, _, h8, h9⟩ := ht
  refine ⟨h4, h8, fun c hc => ?_⟩
  have key : ∀ (seen : List (List UInt8)) (l : List Cor), corsB seen l = true → ∀ c ∈ l, c.name.size ≤ 32 ∧ c.code.length ≤ 16384 := by
    intro seen l
    induction l generalizing seen with
    | nil => intro _ c hc; cases hc
    | cons x r ih =>
      intro h c hc
      simp only [corsB, Bool.and_eq_true] at h
      rcases List.mem_cons.1 hc with rfl | hc
      · have h' := h.1
        unfold corB codeB nameB at h'
        simp only [Bool.and_eq_true, decide_eq_true_eq] at h'
        exact ⟨h'.1.2.1, h'.2.2.2.1⟩
      · exact ih _ h.2 c hc
  exact key [] _ h9 c hc
set_option maxHeartbeats 4000000 in
theorem print_any (o : Ob) (hg : rgO o) (hf : fitO o) {v : Value} {w : World} (hv : obA w o v) (T : TgT w) (P : PwT w) : Calls Tryz.prog 30 #[v] w fun e w' => e = prtE (prtO o) ∧ Below w.heap.size w w' := by
  obtain ⟨a1, c1, a5, c5, rfl, h1, h5⟩ := hv
  obtain ⟨r, hr⟩ : ∃ r, r = chkO o := ⟨_, rfl⟩
  have hok : r.1 = 0 → topB o = true ∧ ∀ c ∈ o.cores, ∀ i ∈ c.code, kB i.k = true ∧ opB i.k i.o = true := fun h => by
    rw [hr] at h
    obtain ⟨q1, q2⟩ := chk_ok h
    exact ⟨q1, fun c hc i hi => right_k (q2 c hc i hi)⟩
  have al : Below w.heap.size w (w.alloc (.cells #[.slice a1 o.mem.length c1, .int .i64 o.sh, .int .i64 o.lk, .int .i64 o.bf, .slice a5 o.cores.length c5] 29)) := (Below.refl _ w).alloc (Nat.le_refl _) _
  have O0 := Own.new w 29 #[.slice a1 o.mem.length c1, .int .i64 o.sh, .int .i64 o.lk, .int .i64 o.bf, .slice a5 o.cores.length c5]
  obtain ⟨W0, hW0⟩ : ∃ W, W = w.alloc (.cells #[.slice a1 o.mem.length c1, .int .i64 o.sh, .int .i64 o.lk, .int .i64 o.bf, .slice a5 o.cores.length c5] 29) := ⟨_, rfl⟩
  rw [← hW0] at al O0
  have hs0 : w.heap.size < W0.heap.size := O0.lt
  have HW0 := Lib.hid hW0
  have HB0 := Lib.hid al
  have HOB : Hid (∀ X, Below w.heap.size w X → obA X o (obV o a1 c1 a5 c5)) := fun X h => ⟨a1, c1, a5, c5, rfl, intsAt_below h1 h, corsAt_below h5 h⟩
  have HCK : Hid (Calls Tryz.prog 15 #[obV o a1 c1 a5 c5] W0 fun e w' => e = chkE r ∧ Below W0.heap.size W0 w') := by
    rw [hr]
    exact check_any o hg hf (HOB.out _ al) (T.below al)
  have HOJ : Hid (r.1 = 0 → ∀ (X Y : World) (b : Nat), Below w.heap.size w X → b = X.heap.size → Below b X Y → Wt b [] Y → Calls Tryz.prog 56 #[.pointer (some ⟨b, 0, none⟩), obV o a1 c1 a5 c5] Y fun e w' => e = .returned (.tuple #[]) ∧ Wq Y b (obT o) w') := fun h X Y b hX hb hXY hwt => by
    refine w_object o hg (hok h).1 (hok h).2 hb hXY (HOB.out _ hX) hwt fun Z hZ => ?_
    have hwZ : Below w.heap.size w Z := hX.trans ((hXY.trans hZ).mono (by rw [hb]; exact hX.size))
    exact ⟨T.below hwZ, P.below hwZ⟩
  have HLN : Hid (r.1 = 0 → (obT o).length ≤ 1000000000) := fun h => by
    obtain ⟨z1, z2, z3⟩ := chk_fit (hok h).1
    exact obT_len o hg z1 z2 z3
  have HPR : Hid (prtO o = if r.1 = 0 then (if (obT o).length > 16777216 then ([], 4) else (obT o, 0)) else ([], r.1)) := by rw [hr]; rfl
  generalize prtO o = pr at HPR ⊢
  generalize obT o = tx at HOJ HLN HPR
  clear hok hr T P hg hf h1 h5 al hW0 HOB
  obtain ⟨mem, sh, lk, bf, cores⟩ := o
  simp only [obV] at HOJ HCK O0 HW0 ⊢
  generalize mem.length = n1 at HOJ HCK O0 HW0 ⊢
  generalize cores.length = n5 at HOJ HCK O0 HW0 ⊢
  obtain ⟨r1, r2, r3⟩ := r
  simp only at HPR HOJ HLN
  replace HCK : Hid (Calls Tryz.prog 15 #[.agg #[.slice a1 n1 c1, .int .i64 sh, .int .i64 lk, .int .i64 bf, .slice a5 n5 c5]] W0 fun e w' => e = .returned (.tuple #[.int .i64 r1, .int .i64 r2, .int .i64 r3]) ∧ Below W0.heap.size W0 w') := HCK.out
  have HO0 := Lib.hid O0
  by_cases hr0 : r1 = 0
  rotate_left
  · have hpr : pr = ([], r1) := by rw [HPR.out, if_neg hr0]
    subst hpr
    have q1 : (r1 != 0) = true := by simpa using hr0
    clear HPR HOJ HLN hr0
    go_enter Tryz.func30, Tryz.ntmps30
    go_upto_region 1 with (fail)
    rw [← HW0.out]
    clear HW0
    go_wp2_with (first | (refine ld rowO rfl rfl rfl O0 rfl ?_) | (go_at_call 15; refine HCK.out.mono ?_; rintro e w1 ⟨rfl, hb1⟩))
    refine bodyPost_ret (results_tmp2 rfl _ _ _) rfl ?_
    exact ⟨rfl, HB0.out.trans (hb1.mono HB0.out.size)⟩
  · subst hr0
    have HLL : Hid (tx.length ≤ 1000000000) := HLN.out rfl
    have HOJ0 := Lib.hid (HOJ.out rfl)
    have HPZ : Hid (pr = if tx.length > 16777216 then ([], 4) else (tx, 0)) := by rw [Hid, HPR.out, if_pos rfl]
    clear HPR HOJ HLN
    go_enter Tryz.func30, Tryz.ntmps30
    go_upto_region 1 with (fail)
    rw [← HW0.out]
    clear HW0
    go_upto_region 5 with (first | (refine ld rowO rfl rfl rfl O0 rfl ?_) | (go_at_call 15; refine HCK.out.mono ?_; rintro e w1 ⟨rfl, hb1⟩))
    have HB1 := Lib.hid (HB0.out.trans (hb1.mono HB0.out.size))
    have HS1 : Hid (w.heap.size < w1.heap.size) := Nat.lt_of_lt_of_le hs0 hb1.size
    have HWT := Lib.hid (wt_new w1)
    have O2 := (HO0.out.below hb1).alloc (.cells #[.pointer none, .slice none 0 0] 82)
    have HB2 := Lib.hid ((Below.refl w1.heap.size w1).alloc (Nat.le_refl _) (.cells #[.pointer none, .slice none 0 0] 82))
    have HLB : Hid (w1.heap.size < (w1.alloc (.cells #[.pointer none, .slice none 0 0] 82)).heap.size) := by rw [Hid]; simp
    obtain ⟨W2, hW2⟩ : ∃ W, W = w1.alloc (.cells #[.pointer none, .slice none 0 0] 82) := ⟨_, rfl⟩
    rw [← hW2] at HWT O2 HB2 HLB ⊢
    have HWO := Lib.hid (HOJ0.out w1 W2 w1.heap.size HB1.out rfl HB2.out HWT.out)
    clear hW2 hb1 HOJ0 HWT HB0 HO0 O0 HCK hs0
    go_wp2_with (first | (refine ld rowO rfl rfl rfl O2 rfl ?_))
    go_at_call 56
    refine HWO.out.mono ?_
    rintro e w3 ⟨rfl, hq⟩
    have HQ := Lib.hid hq
    clear hq O2 HWO
    by_cases hbig : 16777216 < (tx.length : Int)
    · have hpr : pr = ([], 4) := by rw [HPZ.out, if_pos (by omega)]
      subst hpr
      have HF : Hid (Below w.heap.size w w3) := HB1.out.trans ((HB2.out.trans HQ.out.bel).mono HB1.out.size)
      go_wp2_with (first | (go_at_call 57; refine (wt_len HQ.out.wt).mono ?_; rintro e w4 ⟨rfl, rfl⟩))
      refine bodyPost_ret (results_tmp2 rfl _ _ _) rfl ?_
      exact ⟨rfl, HF.out⟩
    · have hpr : pr = (tx, 0) := by rw [HPZ.out, if_neg (by omega)]
      subst hpr
      go_wp2_with (first | (go_at_call 57; refine (wt_len HQ.out.wt).mono ?_; rintro e w4 ⟨rfl, rfl⟩))
      go_at_call 51
      refine (wt_string HQ.out.wt).mono ?_
      rintro e w5 ⟨rfl, hb5⟩
      have HF : Hid (Below w.heap.size w w5) := HB1.out.trans ((HB2.out.trans (HQ.out.bel.trans hb5)).mono HB1.out.size)
      clear hb5
      go_wp2_with fail
      refine bodyPost_ret (results_tmp2 rfl _ _ _) rfl ?_
      exact ⟨rfl, HF.out⟩
/-- What Show answers. -/
def shwT (i : Ins) : List UInt8 := if rightB i 9223372036854775807 9223372036854775807 = true then insT i else []
set_option maxHeartbeats 4000000 in
theorem show_any (i : Ins) (hg : rgI i) (w : World) (T : TgT w) (P : PwT w) : Calls Tryz.prog 28 #[insV i] w fun e w' => e = .returned (.string ⟨(shwT i).toArray⟩) ∧ Below w.heap.size w w' := by
  have al : Below w.heap.size w (w.alloc (.cells (insC i).toArray 25)) := (Below.refl _ w).alloc (Nat.le_refl _) _
  have O0 := Own.new w 25 (insC i).toArray
  obtain ⟨W0, hW0⟩ : ∃ W, W = w.alloc (.cells (insC i).toArray 25) := ⟨_, rfl⟩
  rw [← hW0] at al O0
  have hs0 : w.heap.size < W0.heap.size := O0.lt
  have HB0 := Lib.hid al
  have HRT : Hid (Calls Tryz.prog 12 #[insV i, .int .i64 9223372036854775807, .int .i64 9223372036854775807] W0 fun e w' => e = .returned (.bool (rightB i 9223372036854775807 9223372036854775807)) ∧ Below W0.heap.size W0 w') := right_any i hg _ _ W0 (T.below al)
  have HIN : Hid (rightB i 9223372036854775807 9223372036854775807 = true → ∀ (X Y : World) (b : Nat), Below w.heap.size w X → b = X.heap.size → Below b X Y → Wt b [] Y → Calls Tryz.prog 50 #[.pointer (some ⟨b, 0, none⟩), insV i] Y fun e w' => e = .returned (.tuple #[]) ∧ Wq Y b ([] ++ insT i) w') := fun h X Y b hX hb hXY hwt => by
    refine w_ins i hg (right_k h).1 (right_k h).2 hwt (by simp) fun Z hZ => ?_
    have hwZ : Below w.heap.size w Z := hX.trans ((hXY.trans hZ).mono (by rw [hb]; exact hX.size))
    exact ⟨T.below hwZ, P.below hwZ⟩
  have HSH : Hid (shwT i = if rightB i 9223372036854775807 9223372036854775807 = true then insT i else []) := rfl
  generalize shwT i = st at HSH ⊢
  generalize insT i = it at HSH HIN
  obtain ⟨rb, hrb⟩ : ∃ r, r = rightB i 9223372036854775807 9223372036854775807 := ⟨_, rfl⟩
  rw [← hrb] at HSH HIN HRT
  obtain ⟨k, o, d, a, bb, ad, tt, wd, fr⟩ := i
  simp only [insV, insC] at HRT HIN O0 hW0 ⊢
  have HW0 := Lib.hid hW0
  have HO0 := Lib.hid O0
  clear hrb hW0 hg T P al
  cases rb with
  | false =>
    have hst : st = [] := by rw [HSH.out, if_neg (by decide)]
    subst hst
    clear HSH HIN
    go_enter Tryz.func28, Tryz.ntmps28
    go_upto_region 1 with (fail)
    rw [← HW0.out]
    clear HW0
    go_wp2_with (first | (refine ld rowI rfl rfl rfl O0 rfl ?_) | (go_at_call 12; refine HRT.out.mono ?_; rintro e w1 ⟨rfl, hb1⟩))
    go_ret
    exact ⟨rfl, HB0.out.trans (hb1.mono HB0.out.size)⟩
  | true =>
    have hst : st = it := by rw [HSH.out, if_pos rfl]
    subst hst
    have HIN0 := Lib.hid (HIN.out rfl)
    clear HSH HIN
    go_enter Tryz.func28, Tryz.ntmps28
    go_upto_region 1 with (fail)
    rw [← HW0.out]
    clear HW0
    go_upto_region 4 with (first | (refine ld rowI rfl rfl rfl O0 rfl ?_) | (go_at_call 12; refine HRT.out.mono ?_; rintro e w1 ⟨rfl, hb1⟩))
    have HB1 := Lib.hid (HB0.out.trans (hb1.mono HB0.out.size))
    have HWT := Lib.hid (wt_new w1)
    have O2 := (HO0.out.below hb1).alloc (.cells #[.pointer none, .slice none 0 0] 82)
    have HB2 := Lib.hid ((Below.refl w1.heap.size w1).alloc (Nat.le_refl _) (.cells #[.pointer none, .slice none 0 0] 82))
    have HLB : Hid (w.heap.size ≤ w1.heap.size) := HB1.out.size
    obtain ⟨W2, hW2⟩ : ∃ W, W = w1.alloc (.cells #[.pointer none, .slice none 0 0] 82) := ⟨_, rfl⟩
    rw [← hW2] at HWT O2 HB2 ⊢
    have HWO := Lib.hid (HIN0.out w1 W2 w1.heap.size HB1.out rfl HB2.out HWT.out)
    clear hW2 hb1 HIN0 HWT HB0 HO0 O0 HRT hs0
    go_wp2_with (first | (refine ld rowI rfl rfl rfl O2 rfl ?_))
    go_at_call 50
    refine HWO.out.mono ?_
    rintro e w3 ⟨rfl, hq⟩
    have HQ := Lib.hid hq
    clear hq O2 HWO
    go_wp2_with fail
    go_at_call 51
    refine (wt_string HQ.out.wt).mono ?_
    rintro e w5 ⟨rfl, hb5⟩
    have HF : Hid (Below w.heap.size w w5) := HB1.out.trans ((HB2.out.trans (HQ.out.bel.trans hb5)).mono HLB.out)
    clear hb5
    go_wp2_with fail
    go_ret
    exact ⟨rfl, HF.out⟩
end Go.Proofs.YtgmcfinjlddgbaaGreatDoor

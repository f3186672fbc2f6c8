/- VmAtOnce, walked. -/
import Derived.Test.YtmpljhfinmfnbaaDoorVky
import Derived.Test.YtmpljhfinmfnbaaDoorVkz
namespace Go.Proofs.YtmpljhfinmfnbaaDoor
open Go.RowKit
set_option linter.unusedVariables false
set_option maxRecDepth 100000
/-- The law's loop. -/
structure AoI (w : World) (b0 p : Nat) (v : Value) (n1 t : Nat) (s : Vm) (W : World) : Prop where
  ms : MSk w W p s (fun k => v.ownBlock = some k)
  rt : VmR s
  em : emp s
  sd : s.said.length ≤ t
  ml : s.mem.length = n1
  rw : W.ownsRow b0 2 1 v n1 (intF s.mem)
theorem go_len (s : Vm) (k : Nat) (c : Co) : (goI s k c).1.cores.length = s.cores.length := by
  unfold goI
  simp only
  repeat' split
  all_goals simp
theorem run_len (s : Vm) (k : Int) : (runV s k).1.cores.length = s.cores.length := by
  unfold runV
  cases coreAt s k with
  | none => rfl
  | some c =>
    simp only
    split
    · rfl
    · split
      · rfl
      · exact go_len _ _ _
theorem run_no (s : Vm) (k : Int) (h : k < 0 ∨ (s.cores.length : Int) ≤ k) : runV s k = (s, d0, 180) := by
  have hn : coreAt s k = none := by
    unfold coreAt
    split
    · exact List.getElem?_eq_none (by omega)
    · rfl
  unfold runV
  rw [hn]
theorem memU_len (m : List Int) (d : Dd) : (memU m d).length = m.length := by
  unfold memU
  split
  · exact rset_len ..
  · split
    · exact rset_len ..
    · rfl
theorem MSt.row {w W W' : World} {p : Nat} {s : Vm} (h : MSt w W p s) (hb : Below W.heap.size W W') {T : TypeId} {n m : Nat} {v : Value} {xs : List Value} (hr : W'.ownsRow W.heap.size T n v m xs) : MSk w W' p s fun k => v.ownBlock = some k := by
  obtain ⟨F, h1, h2, h3⟩ := h
  refine ⟨F, h1.below hb, h2.up hb.size, h3.trans (hb.mono h3.size), fun k hk e => ?_, fun k e => ?_⟩
  · have := (row_base hr e).1
    have := (h2 k hk).2
    omega
  · obtain ⟨_, _, h4⟩ := row_base hr e
    exact h4.lt
set_option maxHeartbeats 16000000 in
theorem once_ok (o : Ob) (hg : rgO o) (hf : fitO o) {a1 a5 : Option Addr} {c1 c5 : Nat} {w : World} (hm : intsAt w o.mem a1) (h5 : corsAt w o.cores a5) (hcap : o.mem.length ≤ c1) (hcm : c1 ≤ 9223372036854775807) (T : TgT w) {x y : Int} (hc : chkO o = (0, x, y)) {l : List Int} {la : Option Addr} (lc : Nat) (hl : intsAt w l la) (hll : l.length ≤ 140737488351232) : Calls Tryd.prog 9 #[obV o a1 c1 a5 c5, .slice la l.length lc] w fun e w' => e = .returned (.bool true) ∧ Below w.heap.size w w' := by
  have HM : Hid (∀ V, Below w.heap.size w V → Calls Tryd.prog 28 #[obV o a1 c1 a5 c5] V fun e w' => ∃ p, e = .returned (.tuple #[.pointer (some ⟨p, 0, none⟩), .bool true]) ∧ MSt w w' p (newV o) ∧ Below V.heap.size V w') := fun V hb => by
    refine (p_made_ok o hg hf (intsAt_below hm hb) (corsAt_below h5 hb) hcap hcm (T.below hb) hc).mono ?_
    rintro e w' ⟨p, rfl, F, h1, h2, h3⟩
    exact ⟨p, rfl, ⟨F, h1, fun k hk => ⟨Nat.le_trans hb.size (h2 k hk).1, (h2 k hk).2⟩, hb.trans (h3.mono hb.size)⟩, h3⟩
  have HT := Lib.hid T
  have HR : Hid (VmR (newV o) ∧ emp (newV o) ∧ (newV o).said.length = 0 ∧ (newV o).mem = o.mem) := ⟨new_right (obR_of hc) hg, emp_new o, rfl, rfl⟩
  have HL := Lib.hid (And.intro hl hll)
  have HI := Lib.hid hm
  obtain ⟨s0, hs0⟩ : ∃ s, s = newV o := ⟨_, rfl⟩
  rw [← hs0] at HM HR
  clear hs0 hl hm h5 hcap hcm hc hg T
  obtain ⟨mem, sh, lk, bf, cores⟩ := o
  simp only [obV] at HM HR HI hf ⊢
  have f1 : mem.length ≤ 4096 := by
    have h1 := HR.out.1.mem
    rw [HR.out.2.2.2] at h1
    exact h1
  clear hf
  obtain ⟨n1, hn1⟩ : ∃ n, n = mem.length := ⟨_, rfl⟩
  rw [← hn1] at f1 HM ⊢
  generalize cores.length = n5 at HM ⊢
  obtain ⟨ll, hll⟩ : ∃ n, n = l.length := ⟨_, rfl⟩
  rw [← hll]
  have HN := Lib.hid (And.intro hn1 hll)
  have O0 := Own.new w 25 #[.slice a1 n1 c1, .int .i64 sh, .int .i64 lk, .int .i64 bf, .slice a5 n5 c5]
  have B0 : Below w.heap.size w (w.alloc (.cells #[.slice a1 n1 c1, .int .i64 sh, .int .i64 lk, .int .i64 bf, .slice a5 n5 c5] 25)) := (Below.refl _ w).alloc (Nat.le_refl _) _
  obtain ⟨W0, hW0⟩ : ∃ W, W = w.alloc (.cells #[.slice a1 n1 c1, .int .i64 sh, .int .i64 lk, .int .i64 bf, .slice a5 n5 c5] 25) := ⟨_, rfl⟩
  have hs0 : W0.heap.size = w.heap.size + 1 := by rw [hW0]; simp
  rw [← hW0] at O0 B0
  have HW0 := Lib.hid hW0
  have HB0 := Lib.hid (And.intro B0 O0)
  clear hW0 B0 O0 hll hn1
  obtain ⟨i0, hi, hz0, hz1, hz2⟩ := info_parts info_64b
  go_enter Tryd.func9, Tryd.ntmps9
  go_upto_region 1 with fail
  rw [← HW0.out]
  clear HW0
  go_upto_region 3 with (go_at_call 14; refine (b_any _ (HT.out.lev.below HB0.out.1) (HT.out.below HB0.out.1)).mono ?_; rintro e w1 ⟨rfl, hb1⟩)
  have HB1 : Hid (Below w.heap.size w w1 ∧ Own w1 w.heap.size 25 #[.slice a1 n1 c1, .int .i64 sh, .int .i64 lk, .int .i64 bf, .slice a5 n5 c5]) := ⟨HB0.out.1.trans (hb1.mono HB0.out.1.size), HB0.out.2.below hb1⟩
  clear hb1 HB0
  have O1 := HB1.out.2
  go_upto_region 6 with (first | (refine ld rowO rfl rfl rfl O1 rfl ?_) | (go_at_call 28; refine (HM.out _ HB1.out.1).mono ?_; rintro e w2 ⟨p, rfl, hms, hb2⟩))
  have al3 := (Below.refl _ w2).alloc (Nat.le_refl _) (.cells #[] 2)
  have hown0 := World.ownsRow_lit (base := w2.heap.size) (e := 2) (size := 1) w2 #[] 0 (Nat.le_refl _) (Nat.zero_le _) rfl
  have O3 : Own (w2.alloc (.cells #[] 2)) w.heap.size 25 #[.slice a1 n1 c1, .int .i64 sh, .int .i64 lk, .int .i64 bf, .slice a5 n5 c5] := (HB1.out.2.below hb2).below al3
  have p0 : (w2.alloc (.cells #[] 2)).cell? ⟨w.heap.size, 0, none⟩ = some (.slice a1 n1 c1) := row_cellsO O3 0 _ rfl
  have hb3 : w2.heap.size ≤ (w2.alloc (.cells #[] 2)).heap.size := by simp
  have hnews : (a1 = none ∧ n1 = 0) ∨ ∃ d, a1 = some d ∧ ∀ j u, (intF mem)[j]? = some u → (w2.alloc (.cells #[] 2)).cell? (d.add j) = some u := by
    have := ints_news (intsAt_below (intsAt_below HI.out (hms.msk.bel)) al3)
    rwa [← HN.out.1] at this
  have hml : (intF mem).length = n1 * 1 := by rw [intF, List.length_map, HN.out.1, Nat.mul_one]
  have hm1 : ∀ u ∈ intF mem, u.oneCell' = true := ints_one mem
  generalize hmm : intF mem = MM at hnews hml hm1
  have HMM := Lib.hid hmm
  have HAL := Lib.hid (And.intro al3 hms)
  clear O1 O3 hmm al3 hms
  go_upto_region 7 with (at_builtin; refine wpList_append_list rfl _ _ 22 rfl w2.heap.size 2 i0 _ 1 8 Tryd.underlying22 hi hz0 hz1 hz2 rfl (by decide) (.slice (some ⟨w2.heap.size, 0, none⟩) 0 0) 0 [] rfl hown0 a1 n1 c1 MM rfl hml hnews hm1 (by simp only [maxLen]; omega) (by omega) hb3 ?_; intro v1 w3 hr3 hg3)
  rw [Nat.zero_add, List.nil_append] at hr3
  have hb3' : Below w2.heap.size w2 w3 := HAL.out.1.grown hg3 (by simp) (fun k e => by
    have e2 : w2.heap.size = k := by simpa [Value.ownBlock] using e
    omega)
  have HX0 : Hid (AoI w w2.heap.size p v1 n1 0 s0 w3) := ⟨HAL.out.2.row hb3' hr3, HR.out.1, HR.out.2.1, by rw [HR.out.2.2.1]; exact Nat.le_refl _, by rw [HR.out.2.2.2, HN.out.1], by
    rw [HR.out.2.2.2, HMM.out]
    exact hr3⟩
  have hb0 : w.heap.size ≤ w2.heap.size := HAL.out.2.msk.bel.size
  obtain ⟨ma, mc, rfl⟩ := row_slice hr3
  clear p0 hr3 hg3 hb3' HAL HMM hm1 hml hnews hb3 hown0 hb2 HB1 HM HR HI
  generalize w2.heap.size = b0 at HX0 hb0 ⊢
  go_wp2_with fail
  go_loopg [8] (ll + 1) (fun m' z X => ∃ (t : Nat) (s : Vm), z = .int .i64 (t : Int) ∧ t ≤ ll ∧ m' = ll - t + 1 ∧ AoI w b0 p (.slice ma n1 mc) n1 t s X)
  case atStart => exact ⟨0, s0, rfl, Nat.zero_le _, by omega, HX0.out⟩
  case round =>
    clear HX0
    obtain ⟨t, s, rfl, ht, hm, hx⟩ := hrel
    have HMe := Lib.hid hm
    have HX := Lib.hid hx
    clear hm hx
    by_cases htn : t < ll
    rotate_left
    · obtain rfl : t = ll := by omega
      have HW : Hid (∀ V g cap, intsAt V s.mem (some ⟨g, 0, none⟩) → V.ownsRow b0 2 1 (.slice ma n1 mc) n1 (intF s.mem) → Calls Tryd.prog 31 #[.slice (some ⟨g, 0, none⟩) n1 cap, .slice ma n1 mc] V fun e w' => e = .returned (.bool true) ∧ Below V.heap.size V w') := fun V g cap h1 h2 => by
        have hml := HX.out.ml
        have h3 := HX.out.rt.mem
        rw [← hml] at h2
        obtain ⟨a, c, e, h4⟩ := row_intsW h2
        injection e with e1 e2 e3
        subst e1
        have h5 := w_Words (c := cap) (d := mc) h1 h4 (by omega)
        rw [hml] at h5
        exact h5
      have HME : Hid (Calls Tryd.prog 24 #[.pointer (some ⟨p, 0, none⟩)] wr fun e w' => ∃ g cap, e = .returned (.slice (some ⟨g, 0, none⟩) n1 cap) ∧ intsAt w' s.mem (some ⟨g, 0, none⟩) ∧ wr.heap.size ≤ g ∧ Below wr.heap.size wr w') := by
        have h1 := k_Memory HX.out.ms HX.out.rt.mem
        rw [HX.out.ml] at h1
        exact h1
      go_wp2_with (first | (go_at_call 24; refine HME.out.mono ?_; rintro e w8 ⟨mg, mcap, rfl, hi8, _, hb8⟩) | (go_at_call 31; refine (HW.out _ _ _ hi8 (row_below HX.out.rw hb8)).mono ?_; rintro e w9 ⟨rfl, hb9⟩))
      go_ret
      exact ⟨rfl, (HX.out.ms.bel.trans (hb8.mono HX.out.ms.bel.size)).trans (hb9.mono (Nat.le_trans HX.out.ms.bel.size hb8.size))⟩
    have il : t < l.length := by have := HN.out.2; omega
    have g1 : l[t]? = some l[t] := List.getElem?_eq_getElem il
    generalize l[t] = k at g1
    obtain ⟨lg, lq, rfl, y0⟩ : ∃ g q, la = some ⟨g, q, none⟩ ∧ w.cell? ⟨g, q + t, none⟩ = some (.int .i64 k) := by
      rcases HL.out.1 with e | ⟨g, q, rfl, e1⟩
      · subst e; simp at il
      · exact ⟨g, q, rfl, e1 t k g1⟩
    have y1 : wr.cell? ⟨lg, lq + t, none⟩ = some (.int .i64 k) := (HX.out.ms.bel.cell (p := ⟨lg, lq + t, none⟩) (lt_of_at y0)).trans y0
    have HY0 := Lib.hid y0
    have htn' : (t : Int) < (ll : Int) := by omega
    have htb : (t : Int) < 140737488351232 := by have := HL.out.2; omega
    have AO := at_once HX.out.rt HX.out.em k
    obtain ⟨s1, d, why, hrv⟩ : ∃ s1 d why, runV s k = (s1, d, why) := ⟨_, _, _, rfl⟩
    obtain ⟨s2, d2, why2, hdv⟩ : ∃ s2 d2 why2, drainV s1 k = (s2, d2, why2) := ⟨_, _, _, rfl⟩
    have HAO : Hid (((k < 0 ∨ (s.cores.length : Int) ≤ k) → why = 180 ∧ s1 = s) ∧ (¬ (k < 0 ∨ (s.cores.length : Int) ≤ k) → why = 0) ∧ d.own = false ∧ (d.k = 2 ∨ d.k = 4 → d.x = rget s.mem d.a) ∧ (d.k = 2 ∨ d.k = 3 ∨ d.k = 4 → 0 ≤ d.a ∧ d.a < s.mem.length) ∧ s2.mem = memU s.mem d ∧ emp s2) := by
      obtain ⟨q1, q2, q3, q4, q5, q6, q7⟩ := AO
      rw [hrv] at q1 q2 q3 q4 q5 q6 q7
      simp only at q1 q2 q3 q4 q5 q6 q7
      rw [hdv] at q6 q7
      exact ⟨fun h => by
        have h1 := run_no s k h
        rw [hrv] at h1
        injection h1 with h1 h2
        injection h2 with _ h2
        exact ⟨h2, h1⟩, q2, q3, q4, q5, q6, q7⟩
    have HRR : Hid (VmR s1 ∧ VmR s2 ∧ s1.said.length ≤ t + 1 ∧ s2.said.length ≤ t + 1) := by
      have h1 := run_right HX.out.rt k
      have h3 := run_said s k
      rw [hrv] at h1 h3
      have h2 := drain_right h1 k
      have h4 := drain_said s1 k
      have h5 := HX.out.sd
      rw [hdv] at h2 h4
      simp only at h1 h2 h3 h4
      exact ⟨h1, h2, by omega, by omega⟩
    have HRUN : Hid (Calls Tryd.prog 17 #[.pointer (some ⟨p, 0, none⟩), .int .i64 k] wr fun e w' => e = .returned (.tuple #[ddV d, .int .i64 why]) ∧ MSk w w' p s1 (fun k => (Value.slice ma n1 mc).ownBlock = some k) ∧ ∀ k, (Value.slice ma n1 mc).ownBlock = some k → w'.heap[k]? = wr.heap[k]?) := by
      have h1 := k_Run HX.out.ms HX.out.rt HT.out.lev (by have := HX.out.sd; have := HL.out.2; omega) k
      rw [hrv] at h1
      exact h1
    have HDR : Hid (∀ V, MSk w V p s1 (fun k => (Value.slice ma n1 mc).ownBlock = some k) → Calls Tryd.prog 18 #[.pointer (some ⟨p, 0, none⟩), .int .i64 k] V fun e w' => e = .returned (.tuple #[ddV d2, .int .i64 why2]) ∧ MSk w w' p s2 (fun k => (Value.slice ma n1 mc).ownBlock = some k) ∧ ∀ k, (Value.slice ma n1 mc).ownBlock = some k → w'.heap[k]? = V.heap[k]?) := fun V hV => by
      have h1 := k_Drain hV HRR.out.1 k
      rw [hdv] at h1
      exact h1
    have HN1 : Hid (s1.cores.length = s.cores.length) := by
      have h1 := run_len s k
      rw [hrv] at h1
      exact h1
    obtain ⟨dk, dc, dp, da, dx, dy, dn⟩ := d
    obtain rfl : dn = false := HAO.out.2.2.1
    generalize ddV d2 = dv2 at HDR
    simp only [ddV, ddC] at HRUN
    clear AO hrv hdv g1 il y0
    go_upto_region 11 with (first | (go_at_call 17; refine HRUN.out.mono ?_; rintro e w4 ⟨rfl, hms4, hkp4⟩; have OD := Own.new w4 42 #[.int .u8 0, .int .i64 0, .int .i64 0, .int .i64 0, .int .i64 0, .int .i64 0, .bool false]) | (refine st rowD rfl rfl OD rfl rfl (by rfl) (by rfl) (by kernel_rfl) ?_))
    have al4 := Below.of_row ((Below.refl w4.heap.size w4).alloc (Nat.le_refl _) (.cells #[.int .u8 0, .int .i64 0, .int .i64 0, .int .i64 0, .int .i64 0, .int .i64 0, .bool false] 42)) (Nat.le_refl _) #[.int .u8 dk, .int .i64 dc, .int .i64 dp, .int .i64 da, .int .i64 dx, .int .i64 dy, .bool false]
    have HX4 : Hid (MSk w ((w4.alloc (.cells #[.int .u8 0, .int .i64 0, .int .i64 0, .int .i64 0, .int .i64 0, .int .i64 0, .bool false] 42)).setRow w4.heap.size #[.int .u8 dk, .int .i64 dc, .int .i64 dp, .int .i64 da, .int .i64 dx, .int .i64 dy, .bool false]) p s1 (fun k => (Value.slice ma n1 mc).ownBlock = some k) ∧ ((w4.alloc (.cells #[.int .u8 0, .int .i64 0, .int .i64 0, .int .i64 0, .int .i64 0, .int .i64 0, .bool false] 42)).setRow w4.heap.size #[.int .u8 dk, .int .i64 dc, .int .i64 dp, .int .i64 da, .int .i64 dx, .int .i64 dy, .bool false]).ownsRow b0 2 1 (.slice ma n1 mc) n1 (intF s.mem) ∧ Own ((w4.alloc (.cells #[.int .u8 0, .int .i64 0, .int .i64 0, .int .i64 0, .int .i64 0, .int .i64 0, .bool false] 42)).setRow w4.heap.size #[.int .u8 dk, .int .i64 dc, .int .i64 dp, .int .i64 da, .int .i64 dx, .int .i64 dy, .bool false]) w4.heap.size 42 #[.int .u8 dk, .int .i64 dc, .int .i64 dp, .int .i64 da, .int .i64 dx, .int .i64 dy, .bool false] ∧ ((w4.alloc (.cells #[.int .u8 0, .int .i64 0, .int .i64 0, .int .i64 0, .int .i64 0, .int .i64 0, .bool false] 42)).setRow w4.heap.size #[.int .u8 dk, .int .i64 dc, .int .i64 dp, .int .i64 da, .int .i64 dx, .int .i64 dy, .bool false]).cell? ⟨lg, lq + t, none⟩ = some (.int .i64 k)) := ⟨hms4.below al4, row_below (row_stays HX.out.rw fun g _ e _ => hkp4 g e) al4, OD.row _, by
      have hb := (hms4.below al4).bel
      exact (hb.cell (p := ⟨lg, lq + t, none⟩) (lt_of_at HY0.out)).trans HY0.out⟩
    clear OD al4 hms4 hkp4 HRUN y1
    generalize ((w4.alloc (.cells #[.int .u8 0, .int .i64 0, .int .i64 0, .int .i64 0, .int .i64 0, .int .i64 0, .bool false] 42)).setRow w4.heap.size #[.int .u8 dk, .int .i64 dc, .int .i64 dp, .int .i64 da, .int .i64 dx, .int .i64 dy, .bool false]) = W4 at HX4 ⊢
    generalize w4.heap.size = b4 at HX4 ⊢
    have dw : Below W4.heap.size W4 W4.drew := below_drewN (Below.refl _ W4) 1
    have HX5 : Hid (MSk w W4.drew p s1 (fun k => (Value.slice ma n1 mc).ownBlock = some k) ∧ W4.drew.ownsRow b0 2 1 (.slice ma n1 mc) n1 (intF s.mem) ∧ Own W4.drew b4 42 #[.int .u8 dk, .int .i64 dc, .int .i64 dp, .int .i64 da, .int .i64 dx, .int .i64 dy, .bool false] ∧ W4.drew.cell? ⟨lg, lq + t, none⟩ = some (.int .i64 k)) := ⟨HX4.out.1.below dw, row_below HX4.out.2.1 dw, HX4.out.2.2.1.below dw, (dw.cell (p := ⟨lg, lq + t, none⟩) (lt_of_at HX4.out.2.2.2)).trans HX4.out.2.2.2⟩
    clear dw HX4
    refine wp_region_held (S := fun V => V.cell? ⟨lg, lq + t, none⟩ = some (.int .i64 k)) (by kernel_rfl) ?_
    change wpAnyH _ _ _ _ _ _ _ _ W4.drew
    generalize W4.drew = W5 at HX5 ⊢
    have HS := Lib.hid HX5.out.2.2.2
    change wpAnyH _ _ _ _ _ _ _ { tmps := List.toArray (_ :: _ :: _ :: _ :: _ :: _ :: _ :: _ :: _ :: _ :: _ :: _ :: _ :: _ :: _ :: _ :: _ :: _ :: _ :: _ :: _ :: _ :: _ :: _ :: _ :: _ :: _ :: _ :: _ :: _ :: _ :: _ :: _ :: _ :: _ :: _ :: _ :: _ :: _ :: _ :: _ :: _ :: _ :: _ :: _ :: _ :: _ :: _ :: _ :: _ :: _ :: _ :: _ :: _ :: _ :: _ :: _ :: _ :: _ :: _ :: _ :: _ :: _ :: _ :: _ :: _ :: _ :: _ :: _ :: _ :: _ :: _ :: _ :: _ :: _ :: _ :: _ :: _ :: _ :: _ :: _ :: _ :: _ :: _ :: _ :: _ :: _ :: _ :: _ :: _ :: _ :: _ :: _ :: _ :: _ :: _ :: _ :: _ :: _ :: _ :: _ :: _ :: _ :: _ :: _ :: _ :: _ :: _ :: _ :: _ :: _ :: _ :: _ :: _ :: _ :: _ :: _ :: _ :: _ :: []), defers := [] } _
    have hc0 : (0 : Int) ≤ t := Int.natCast_nonneg t
    refine dr_take 0 (.slice (some ⟨lg, lq, none⟩) ll lc) rfl rfl (by kernel_rfl) (by kernel_rfl) (by kernel_rfl) (fun _ _ _ h => h) (fun _ _ => by unfold execOp; go_simp) HS.out ?_
    change wpAnyH _ _ _ _ _ _ _ { tmps := List.toArray (_ :: _ :: _ :: _ :: _ :: _ :: _ :: _ :: _ :: _ :: _ :: _ :: _ :: _ :: _ :: _ :: _ :: _ :: _ :: _ :: _ :: _ :: _ :: _ :: _ :: _ :: _ :: _ :: _ :: _ :: _ :: _ :: _ :: _ :: _ :: _ :: _ :: _ :: _ :: _ :: _ :: _ :: _ :: _ :: _ :: _ :: _ :: _ :: _ :: _ :: _ :: _ :: _ :: _ :: _ :: _ :: _ :: _ :: _ :: _ :: _ :: _ :: _ :: _ :: _ :: _ :: _ :: _ :: _ :: _ :: _ :: _ :: _ :: _ :: _ :: _ :: _ :: _ :: _ :: _ :: _ :: _ :: _ :: _ :: _ :: _ :: _ :: _ :: _ :: _ :: _ :: _ :: _ :: _ :: _ :: _ :: _ :: _ :: _ :: _ :: _ :: _ :: _ :: _ :: _ :: _ :: _ :: _ :: _ :: _ :: _ :: _ :: _ :: _ :: _ :: _ :: _ :: _ :: _ :: []), defers := [] } _
    refine dr_take 1 (.int .i64 (t : Int)) rfl rfl (by kernel_rfl) (by kernel_rfl) (by kernel_rfl) (fun _ _ _ h => h) (fun _ _ => by unfold execOp; go_simp) HS.out ?_
    change wpAnyH _ _ _ _ _ _ _ { tmps := List.toArray (_ :: _ :: _ :: _ :: _ :: _ :: _ :: _ :: _ :: _ :: _ :: _ :: _ :: _ :: _ :: _ :: _ :: _ :: _ :: _ :: _ :: _ :: _ :: _ :: _ :: _ :: _ :: _ :: _ :: _ :: _ :: _ :: _ :: _ :: _ :: _ :: _ :: _ :: _ :: _ :: _ :: _ :: _ :: _ :: _ :: _ :: _ :: _ :: _ :: _ :: _ :: _ :: _ :: _ :: _ :: _ :: _ :: _ :: _ :: _ :: _ :: _ :: _ :: _ :: _ :: _ :: _ :: _ :: _ :: _ :: _ :: _ :: _ :: _ :: _ :: _ :: _ :: _ :: _ :: _ :: _ :: _ :: _ :: _ :: _ :: _ :: _ :: _ :: _ :: _ :: _ :: _ :: _ :: _ :: _ :: _ :: _ :: _ :: _ :: _ :: _ :: _ :: _ :: _ :: _ :: _ :: _ :: _ :: _ :: _ :: _ :: _ :: _ :: _ :: _ :: _ :: _ :: _ :: _ :: []), defers := [] } _
    refine dr_take 2 (.pointer (some ⟨lg, lq + t, none⟩)) rfl rfl (by kernel_rfl) (by kernel_rfl) (by kernel_rfl) (fun _ _ _ h => h) (fun _ _ => by unfold execOp; go_simp) HS.out ?_
    change wpAnyH _ _ _ _ _ _ _ { tmps := List.toArray (_ :: _ :: _ :: _ :: _ :: _ :: _ :: _ :: _ :: _ :: _ :: _ :: _ :: _ :: _ :: _ :: _ :: _ :: _ :: _ :: _ :: _ :: _ :: _ :: _ :: _ :: _ :: _ :: _ :: _ :: _ :: _ :: _ :: _ :: _ :: _ :: _ :: _ :: _ :: _ :: _ :: _ :: _ :: _ :: _ :: _ :: _ :: _ :: _ :: _ :: _ :: _ :: _ :: _ :: _ :: _ :: _ :: _ :: _ :: _ :: _ :: _ :: _ :: _ :: _ :: _ :: _ :: _ :: _ :: _ :: _ :: _ :: _ :: _ :: _ :: _ :: _ :: _ :: _ :: _ :: _ :: _ :: _ :: _ :: _ :: _ :: _ :: _ :: _ :: _ :: _ :: _ :: _ :: _ :: _ :: _ :: _ :: _ :: _ :: _ :: _ :: _ :: _ :: _ :: _ :: _ :: _ :: _ :: _ :: _ :: _ :: _ :: _ :: _ :: _ :: _ :: _ :: _ :: _ :: []), defers := [] } _
    refine dr_take 3 (.int .i64 k) rfl rfl (by kernel_rfl) (by kernel_rfl) (by kernel_rfl) (fun _ _ _ h => h) (fun V h => by have h0 : V.cell? ⟨lg, lq + t, none⟩ = some (.int .i64 k) := h; clear h; unfold execOp; go_simp) HS.out ?_
    change wpAnyH _ _ _ _ _ _ _ { tmps := List.toArray (_ :: _ :: _ :: _ :: _ :: _ :: _ :: _ :: _ :: _ :: _ :: _ :: _ :: _ :: _ :: _ :: _ :: _ :: _ :: _ :: _ :: _ :: _ :: _ :: _ :: _ :: _ :: _ :: _ :: _ :: _ :: _ :: _ :: _ :: _ :: _ :: _ :: _ :: _ :: _ :: _ :: _ :: _ :: _ :: _ :: _ :: _ :: _ :: _ :: _ :: _ :: _ :: _ :: _ :: _ :: _ :: _ :: _ :: _ :: _ :: _ :: _ :: _ :: _ :: _ :: _ :: _ :: _ :: _ :: _ :: _ :: _ :: _ :: _ :: _ :: _ :: _ :: _ :: _ :: _ :: _ :: _ :: _ :: _ :: _ :: _ :: _ :: _ :: _ :: _ :: _ :: _ :: _ :: _ :: _ :: _ :: _ :: _ :: _ :: _ :: _ :: _ :: _ :: _ :: _ :: _ :: _ :: _ :: _ :: _ :: _ :: _ :: _ :: _ :: _ :: _ :: _ :: _ :: _ :: []), defers := [] } _
    by_cases hk0 : k < 0
    · have hkd : decide (k < 0) = true := by simpa using hk0
      refine dr_take 4 (.bool true) rfl rfl (by kernel_rfl) (by kernel_rfl) (by kernel_rfl) (fun _ _ _ h => h) (fun _ _ => by unfold execOp; go_simp <;> simp [hk0]) HS.out ?_
      change wpAnyH _ _ _ _ _ _ _ { tmps := List.toArray (_ :: _ :: _ :: _ :: _ :: _ :: _ :: _ :: _ :: _ :: _ :: _ :: _ :: _ :: _ :: _ :: _ :: _ :: _ :: _ :: _ :: _ :: _ :: _ :: _ :: _ :: _ :: _ :: _ :: _ :: _ :: _ :: _ :: _ :: _ :: _ :: _ :: _ :: _ :: _ :: _ :: _ :: _ :: _ :: _ :: _ :: _ :: _ :: _ :: _ :: _ :: _ :: _ :: _ :: _ :: _ :: _ :: _ :: _ :: _ :: _ :: _ :: _ :: _ :: _ :: _ :: _ :: _ :: _ :: _ :: _ :: _ :: _ :: _ :: _ :: _ :: _ :: _ :: _ :: _ :: _ :: _ :: _ :: _ :: _ :: _ :: _ :: _ :: _ :: _ :: _ :: _ :: _ :: _ :: _ :: _ :: _ :: _ :: _ :: _ :: _ :: _ :: _ :: _ :: _ :: _ :: _ :: _ :: _ :: _ :: _ :: _ :: _ :: _ :: _ :: _ :: _ :: _ :: _ :: []), defers := [] } _
      refine dr_take 5 (.bool true) rfl rfl (by kernel_rfl) (by kernel_rfl) (by kernel_rfl) (fun _ _ _ h => h) (fun _ _ => by unfold execOp; go_simp) HS.out ?_
      change wpAnyH _ _ _ _ _ _ _ { tmps := List.toArray (_ :: _ :: _ :: _ :: _ :: _ :: _ :: _ :: _ :: _ :: _ :: _ :: _ :: _ :: _ :: _ :: _ :: _ :: _ :: _ :: _ :: _ :: _ :: _ :: _ :: _ :: _ :: _ :: _ :: _ :: _ :: _ :: _ :: _ :: _ :: _ :: _ :: _ :: _ :: _ :: _ :: _ :: _ :: _ :: _ :: _ :: _ :: _ :: _ :: _ :: _ :: _ :: _ :: _ :: _ :: _ :: _ :: _ :: _ :: _ :: _ :: _ :: _ :: _ :: _ :: _ :: _ :: _ :: _ :: _ :: _ :: _ :: _ :: _ :: _ :: _ :: _ :: _ :: _ :: _ :: _ :: _ :: _ :: _ :: _ :: _ :: _ :: _ :: _ :: _ :: _ :: _ :: _ :: _ :: _ :: _ :: _ :: _ :: _ :: _ :: _ :: _ :: _ :: _ :: _ :: _ :: _ :: _ :: _ :: _ :: _ :: _ :: _ :: _ :: _ :: _ :: _ :: _ :: _ :: []), defers := [] } _
      refine dr_skip 6 rfl (by kernel_rfl) (by kernel_rfl) (by kernel_rfl) (by kernel_rfl) (fun _ _ _ h => h) HS.out ?_
      change wpAnyH _ _ _ _ _ _ _ { tmps := List.toArray (_ :: _ :: _ :: _ :: _ :: _ :: _ :: _ :: _ :: _ :: _ :: _ :: _ :: _ :: _ :: _ :: _ :: _ :: _ :: _ :: _ :: _ :: _ :: _ :: _ :: _ :: _ :: _ :: _ :: _ :: _ :: _ :: _ :: _ :: _ :: _ :: _ :: _ :: _ :: _ :: _ :: _ :: _ :: _ :: _ :: _ :: _ :: _ :: _ :: _ :: _ :: _ :: _ :: _ :: _ :: _ :: _ :: _ :: _ :: _ :: _ :: _ :: _ :: _ :: _ :: _ :: _ :: _ :: _ :: _ :: _ :: _ :: _ :: _ :: _ :: _ :: _ :: _ :: _ :: _ :: _ :: _ :: _ :: _ :: _ :: _ :: _ :: _ :: _ :: _ :: _ :: _ :: _ :: _ :: _ :: _ :: _ :: _ :: _ :: _ :: _ :: _ :: _ :: _ :: _ :: _ :: _ :: _ :: _ :: _ :: _ :: _ :: _ :: _ :: _ :: _ :: _ :: _ :: _ :: []), defers := [] } _
      refine dr_skip 7 rfl (by kernel_rfl) (by kernel_rfl) (by kernel_rfl) (by kernel_rfl) (fun _ _ _ h => h) HS.out ?_
      change wpAnyH _ _ _ _ _ _ _ { tmps := List.toArray (_ :: _ :: _ :: _ :: _ :: _ :: _ :: _ :: _ :: _ :: _ :: _ :: _ :: _ :: _ :: _ :: _ :: _ :: _ :: _ :: _ :: _ :: _ :: _ :: _ :: _ :: _ :: _ :: _ :: _ :: _ :: _ :: _ :: _ :: _ :: _ :: _ :: _ :: _ :: _ :: _ :: _ :: _ :: _ :: _ :: _ :: _ :: _ :: _ :: _ :: _ :: _ :: _ :: _ :: _ :: _ :: _ :: _ :: _ :: _ :: _ :: _ :: _ :: _ :: _ :: _ :: _ :: _ :: _ :: _ :: _ :: _ :: _ :: _ :: _ :: _ :: _ :: _ :: _ :: _ :: _ :: _ :: _ :: _ :: _ :: _ :: _ :: _ :: _ :: _ :: _ :: _ :: _ :: _ :: _ :: _ :: _ :: _ :: _ :: _ :: _ :: _ :: _ :: _ :: _ :: _ :: _ :: _ :: _ :: _ :: _ :: _ :: _ :: _ :: _ :: _ :: _ :: _ :: _ :: []), defers := [] } _
      refine dr_skip 8 rfl (by kernel_rfl) (by kernel_rfl) (by kernel_rfl) (by kernel_rfl) (fun _ _ _ h => h) HS.out ?_
      change wpAnyH _ _ _ _ _ _ _ { tmps := List.toArray (_ :: _ :: _ :: _ :: _ :: _ :: _ :: _ :: _ :: _ :: _ :: _ :: _ :: _ :: _ :: _ :: _ :: _ :: _ :: _ :: _ :: _ :: _ :: _ :: _ :: _ :: _ :: _ :: _ :: _ :: _ :: _ :: _ :: _ :: _ :: _ :: _ :: _ :: _ :: _ :: _ :: _ :: _ :: _ :: _ :: _ :: _ :: _ :: _ :: _ :: _ :: _ :: _ :: _ :: _ :: _ :: _ :: _ :: _ :: _ :: _ :: _ :: _ :: _ :: _ :: _ :: _ :: _ :: _ :: _ :: _ :: _ :: _ :: _ :: _ :: _ :: _ :: _ :: _ :: _ :: _ :: _ :: _ :: _ :: _ :: _ :: _ :: _ :: _ :: _ :: _ :: _ :: _ :: _ :: _ :: _ :: _ :: _ :: _ :: _ :: _ :: _ :: _ :: _ :: _ :: _ :: _ :: _ :: _ :: _ :: _ :: _ :: _ :: _ :: _ :: _ :: _ :: _ :: _ :: []), defers := [] } _
      refine dr_skip 9 rfl (by kernel_rfl) (by kernel_rfl) (by kernel_rfl) (by kernel_rfl) (fun _ _ _ h => h) HS.out ?_
      change wpAnyH _ _ _ _ _ _ _ { tmps := List.toArray (_ :: _ :: _ :: _ :: _ :: _ :: _ :: _ :: _ :: _ :: _ :: _ :: _ :: _ :: _ :: _ :: _ :: _ :: _ :: _ :: _ :: _ :: _ :: _ :: _ :: _ :: _ :: _ :: _ :: _ :: _ :: _ :: _ :: _ :: _ :: _ :: _ :: _ :: _ :: _ :: _ :: _ :: _ :: _ :: _ :: _ :: _ :: _ :: _ :: _ :: _ :: _ :: _ :: _ :: _ :: _ :: _ :: _ :: _ :: _ :: _ :: _ :: _ :: _ :: _ :: _ :: _ :: _ :: _ :: _ :: _ :: _ :: _ :: _ :: _ :: _ :: _ :: _ :: _ :: _ :: _ :: _ :: _ :: _ :: _ :: _ :: _ :: _ :: _ :: _ :: _ :: _ :: _ :: _ :: _ :: _ :: _ :: _ :: _ :: _ :: _ :: _ :: _ :: _ :: _ :: _ :: _ :: _ :: _ :: _ :: _ :: _ :: _ :: _ :: _ :: _ :: _ :: _ :: _ :: []), defers := [] } _
      refine dr_skip 10 rfl (by kernel_rfl) (by kernel_rfl) (by kernel_rfl) (by kernel_rfl) (fun _ _ _ h => h) HS.out ?_
      change wpAnyH _ _ _ _ _ _ _ { tmps := List.toArray (_ :: _ :: _ :: _ :: _ :: _ :: _ :: _ :: _ :: _ :: _ :: _ :: _ :: _ :: _ :: _ :: _ :: _ :: _ :: _ :: _ :: _ :: _ :: _ :: _ :: _ :: _ :: _ :: _ :: _ :: _ :: _ :: _ :: _ :: _ :: _ :: _ :: _ :: _ :: _ :: _ :: _ :: _ :: _ :: _ :: _ :: _ :: _ :: _ :: _ :: _ :: _ :: _ :: _ :: _ :: _ :: _ :: _ :: _ :: _ :: _ :: _ :: _ :: _ :: _ :: _ :: _ :: _ :: _ :: _ :: _ :: _ :: _ :: _ :: _ :: _ :: _ :: _ :: _ :: _ :: _ :: _ :: _ :: _ :: _ :: _ :: _ :: _ :: _ :: _ :: _ :: _ :: _ :: _ :: _ :: _ :: _ :: _ :: _ :: _ :: _ :: _ :: _ :: _ :: _ :: _ :: _ :: _ :: _ :: _ :: _ :: _ :: _ :: _ :: _ :: _ :: _ :: _ :: _ :: []), defers := [] } _
      refine dr_skip 11 rfl (by kernel_rfl) (by kernel_rfl) (by kernel_rfl) (by kernel_rfl) (fun _ _ _ h => h) HS.out ?_
      change wpAnyH _ _ _ _ _ _ _ { tmps := List.toArray (_ :: _ :: _ :: _ :: _ :: _ :: _ :: _ :: _ :: _ :: _ :: _ :: _ :: _ :: _ :: _ :: _ :: _ :: _ :: _ :: _ :: _ :: _ :: _ :: _ :: _ :: _ :: _ :: _ :: _ :: _ :: _ :: _ :: _ :: _ :: _ :: _ :: _ :: _ :: _ :: _ :: _ :: _ :: _ :: _ :: _ :: _ :: _ :: _ :: _ :: _ :: _ :: _ :: _ :: _ :: _ :: _ :: _ :: _ :: _ :: _ :: _ :: _ :: _ :: _ :: _ :: _ :: _ :: _ :: _ :: _ :: _ :: _ :: _ :: _ :: _ :: _ :: _ :: _ :: _ :: _ :: _ :: _ :: _ :: _ :: _ :: _ :: _ :: _ :: _ :: _ :: _ :: _ :: _ :: _ :: _ :: _ :: _ :: _ :: _ :: _ :: _ :: _ :: _ :: _ :: _ :: _ :: _ :: _ :: _ :: _ :: _ :: _ :: _ :: _ :: _ :: _ :: _ :: _ :: []), defers := [] } _
      refine dr_skip 12 rfl (by kernel_rfl) (by kernel_rfl) (by kernel_rfl) (by kernel_rfl) (fun _ _ _ h => h) HS.out ?_
      change wpAnyH _ _ _ _ _ _ _ { tmps := List.toArray (_ :: _ :: _ :: _ :: _ :: _ :: _ :: _ :: _ :: _ :: _ :: _ :: _ :: _ :: _ :: _ :: _ :: _ :: _ :: _ :: _ :: _ :: _ :: _ :: _ :: _ :: _ :: _ :: _ :: _ :: _ :: _ :: _ :: _ :: _ :: _ :: _ :: _ :: _ :: _ :: _ :: _ :: _ :: _ :: _ :: _ :: _ :: _ :: _ :: _ :: _ :: _ :: _ :: _ :: _ :: _ :: _ :: _ :: _ :: _ :: _ :: _ :: _ :: _ :: _ :: _ :: _ :: _ :: _ :: _ :: _ :: _ :: _ :: _ :: _ :: _ :: _ :: _ :: _ :: _ :: _ :: _ :: _ :: _ :: _ :: _ :: _ :: _ :: _ :: _ :: _ :: _ :: _ :: _ :: _ :: _ :: _ :: _ :: _ :: _ :: _ :: _ :: _ :: _ :: _ :: _ :: _ :: _ :: _ :: _ :: _ :: _ :: _ :: _ :: _ :: _ :: _ :: _ :: _ :: []), defers := [] } _
      refine dr_take 13 (.bool true) rfl rfl (by kernel_rfl) (by kernel_rfl) (by kernel_rfl) (fun _ _ _ h => h) (fun _ _ => by unfold execOp; go_simp) HS.out ?_
      change wpAnyH _ _ _ _ _ _ _ { tmps := List.toArray (_ :: _ :: _ :: _ :: _ :: _ :: _ :: _ :: _ :: _ :: _ :: _ :: _ :: _ :: _ :: _ :: _ :: _ :: _ :: _ :: _ :: _ :: _ :: _ :: _ :: _ :: _ :: _ :: _ :: _ :: _ :: _ :: _ :: _ :: _ :: _ :: _ :: _ :: _ :: _ :: _ :: _ :: _ :: _ :: _ :: _ :: _ :: _ :: _ :: _ :: _ :: _ :: _ :: _ :: _ :: _ :: _ :: _ :: _ :: _ :: _ :: _ :: _ :: _ :: _ :: _ :: _ :: _ :: _ :: _ :: _ :: _ :: _ :: _ :: _ :: _ :: _ :: _ :: _ :: _ :: _ :: _ :: _ :: _ :: _ :: _ :: _ :: _ :: _ :: _ :: _ :: _ :: _ :: _ :: _ :: _ :: _ :: _ :: _ :: _ :: _ :: _ :: _ :: _ :: _ :: _ :: _ :: _ :: _ :: _ :: _ :: _ :: _ :: _ :: _ :: _ :: _ :: _ :: _ :: []), defers := [] } _
      refine wpAnyH_done (by kernel_rfl) ?_ _
      obtain ⟨rfl, rfl⟩ := HAO.out.1 (.inl hk0)
      have HZ : Hid (AoI w b0 p (.slice ma n1 mc) n1 (t + 1) s1 W5) := ⟨HX5.out.1, HRR.out.1, HX.out.em, HRR.out.2.2.1, HX.out.ml, HX5.out.2.1⟩
      clear HS HX5
      go_wp2_with fail
      go_roundg (ll - (t + 1) + 1)
      case measure => have := HMe.out; omega
      case rel => exact ⟨t + 1, s1, by simp, by omega, by omega, HZ.out⟩
    refine dr_take 4 (.bool false) rfl rfl (by kernel_rfl) (by kernel_rfl) (by kernel_rfl) (fun _ _ _ h => h) (fun _ _ => by unfold execOp; go_simp <;> simp [hk0]) HS.out ?_
    change wpAnyH _ _ _ _ _ _ _ { tmps := List.toArray (_ :: _ :: _ :: _ :: _ :: _ :: _ :: _ :: _ :: _ :: _ :: _ :: _ :: _ :: _ :: _ :: _ :: _ :: _ :: _ :: _ :: _ :: _ :: _ :: _ :: _ :: _ :: _ :: _ :: _ :: _ :: _ :: _ :: _ :: _ :: _ :: _ :: _ :: _ :: _ :: _ :: _ :: _ :: _ :: _ :: _ :: _ :: _ :: _ :: _ :: _ :: _ :: _ :: _ :: _ :: _ :: _ :: _ :: _ :: _ :: _ :: _ :: _ :: _ :: _ :: _ :: _ :: _ :: _ :: _ :: _ :: _ :: _ :: _ :: _ :: _ :: _ :: _ :: _ :: _ :: _ :: _ :: _ :: _ :: _ :: _ :: _ :: _ :: _ :: _ :: _ :: _ :: _ :: _ :: _ :: _ :: _ :: _ :: _ :: _ :: _ :: _ :: _ :: _ :: _ :: _ :: _ :: _ :: _ :: _ :: _ :: _ :: _ :: _ :: _ :: _ :: _ :: _ :: _ :: []), defers := [] } _
    refine dr_take 5 (.bool false) rfl rfl (by kernel_rfl) (by kernel_rfl) (by kernel_rfl) (fun _ _ _ h => h) (fun _ _ => by unfold execOp; go_simp) HS.out ?_
    change wpAnyH _ _ _ _ _ _ _ { tmps := List.toArray (_ :: _ :: _ :: _ :: _ :: _ :: _ :: _ :: _ :: _ :: _ :: _ :: _ :: _ :: _ :: _ :: _ :: _ :: _ :: _ :: _ :: _ :: _ :: _ :: _ :: _ :: _ :: _ :: _ :: _ :: _ :: _ :: _ :: _ :: _ :: _ :: _ :: _ :: _ :: _ :: _ :: _ :: _ :: _ :: _ :: _ :: _ :: _ :: _ :: _ :: _ :: _ :: _ :: _ :: _ :: _ :: _ :: _ :: _ :: _ :: _ :: _ :: _ :: _ :: _ :: _ :: _ :: _ :: _ :: _ :: _ :: _ :: _ :: _ :: _ :: _ :: _ :: _ :: _ :: _ :: _ :: _ :: _ :: _ :: _ :: _ :: _ :: _ :: _ :: _ :: _ :: _ :: _ :: _ :: _ :: _ :: _ :: _ :: _ :: _ :: _ :: _ :: _ :: _ :: _ :: _ :: _ :: _ :: _ :: _ :: _ :: _ :: _ :: _ :: _ :: _ :: _ :: _ :: _ :: []), defers := [] } _
    refine dr_takeg 6 (.slice (some ⟨lg, lq, none⟩) ll lc) rfl (by kernel_rfl) (by kernel_rfl) (by kernel_rfl) (by kernel_rfl) (fun _ _ _ h => h) (fun _ _ => by unfold execOp; go_simp) HS.out ?_
    change wpAnyH _ _ _ _ _ _ _ { tmps := List.toArray (_ :: _ :: _ :: _ :: _ :: _ :: _ :: _ :: _ :: _ :: _ :: _ :: _ :: _ :: _ :: _ :: _ :: _ :: _ :: _ :: _ :: _ :: _ :: _ :: _ :: _ :: _ :: _ :: _ :: _ :: _ :: _ :: _ :: _ :: _ :: _ :: _ :: _ :: _ :: _ :: _ :: _ :: _ :: _ :: _ :: _ :: _ :: _ :: _ :: _ :: _ :: _ :: _ :: _ :: _ :: _ :: _ :: _ :: _ :: _ :: _ :: _ :: _ :: _ :: _ :: _ :: _ :: _ :: _ :: _ :: _ :: _ :: _ :: _ :: _ :: _ :: _ :: _ :: _ :: _ :: _ :: _ :: _ :: _ :: _ :: _ :: _ :: _ :: _ :: _ :: _ :: _ :: _ :: _ :: _ :: _ :: _ :: _ :: _ :: _ :: _ :: _ :: _ :: _ :: _ :: _ :: _ :: _ :: _ :: _ :: _ :: _ :: _ :: _ :: _ :: _ :: _ :: _ :: _ :: []), defers := [] } _
    refine dr_takeg 7 (.int .i64 (t : Int)) rfl (by kernel_rfl) (by kernel_rfl) (by kernel_rfl) (by kernel_rfl) (fun _ _ _ h => h) (fun _ _ => by unfold execOp; go_simp) HS.out ?_
    change wpAnyH _ _ _ _ _ _ _ { tmps := List.toArray (_ :: _ :: _ :: _ :: _ :: _ :: _ :: _ :: _ :: _ :: _ :: _ :: _ :: _ :: _ :: _ :: _ :: _ :: _ :: _ :: _ :: _ :: _ :: _ :: _ :: _ :: _ :: _ :: _ :: _ :: _ :: _ :: _ :: _ :: _ :: _ :: _ :: _ :: _ :: _ :: _ :: _ :: _ :: _ :: _ :: _ :: _ :: _ :: _ :: _ :: _ :: _ :: _ :: _ :: _ :: _ :: _ :: _ :: _ :: _ :: _ :: _ :: _ :: _ :: _ :: _ :: _ :: _ :: _ :: _ :: _ :: _ :: _ :: _ :: _ :: _ :: _ :: _ :: _ :: _ :: _ :: _ :: _ :: _ :: _ :: _ :: _ :: _ :: _ :: _ :: _ :: _ :: _ :: _ :: _ :: _ :: _ :: _ :: _ :: _ :: _ :: _ :: _ :: _ :: _ :: _ :: _ :: _ :: _ :: _ :: _ :: _ :: _ :: _ :: _ :: _ :: _ :: _ :: _ :: []), defers := [] } _
    refine dr_takeg 8 (.pointer (some ⟨lg, lq + t, none⟩)) rfl (by kernel_rfl) (by kernel_rfl) (by kernel_rfl) (by kernel_rfl) (fun _ _ _ h => h) (fun _ _ => by unfold execOp; go_simp) HS.out ?_
    change wpAnyH _ _ _ _ _ _ _ { tmps := List.toArray (_ :: _ :: _ :: _ :: _ :: _ :: _ :: _ :: _ :: _ :: _ :: _ :: _ :: _ :: _ :: _ :: _ :: _ :: _ :: _ :: _ :: _ :: _ :: _ :: _ :: _ :: _ :: _ :: _ :: _ :: _ :: _ :: _ :: _ :: _ :: _ :: _ :: _ :: _ :: _ :: _ :: _ :: _ :: _ :: _ :: _ :: _ :: _ :: _ :: _ :: _ :: _ :: _ :: _ :: _ :: _ :: _ :: _ :: _ :: _ :: _ :: _ :: _ :: _ :: _ :: _ :: _ :: _ :: _ :: _ :: _ :: _ :: _ :: _ :: _ :: _ :: _ :: _ :: _ :: _ :: _ :: _ :: _ :: _ :: _ :: _ :: _ :: _ :: _ :: _ :: _ :: _ :: _ :: _ :: _ :: _ :: _ :: _ :: _ :: _ :: _ :: _ :: _ :: _ :: _ :: _ :: _ :: _ :: _ :: _ :: _ :: _ :: _ :: _ :: _ :: _ :: _ :: _ :: _ :: []), defers := [] } _
    refine dr_takeg 9 (.int .i64 k) rfl (by kernel_rfl) (by kernel_rfl) (by kernel_rfl) (by kernel_rfl) (fun _ _ _ h => h) (fun V h => by have h0 : V.cell? ⟨lg, lq + t, none⟩ = some (.int .i64 k) := h; clear h; unfold execOp; go_simp) HS.out ?_
    change wpAnyH _ _ _ _ _ _ _ { tmps := List.toArray (_ :: _ :: _ :: _ :: _ :: _ :: _ :: _ :: _ :: _ :: _ :: _ :: _ :: _ :: _ :: _ :: _ :: _ :: _ :: _ :: _ :: _ :: _ :: _ :: _ :: _ :: _ :: _ :: _ :: _ :: _ :: _ :: _ :: _ :: _ :: _ :: _ :: _ :: _ :: _ :: _ :: _ :: _ :: _ :: _ :: _ :: _ :: _ :: _ :: _ :: _ :: _ :: _ :: _ :: _ :: _ :: _ :: _ :: _ :: _ :: _ :: _ :: _ :: _ :: _ :: _ :: _ :: _ :: _ :: _ :: _ :: _ :: _ :: _ :: _ :: _ :: _ :: _ :: _ :: _ :: _ :: _ :: _ :: _ :: _ :: _ :: _ :: _ :: _ :: _ :: _ :: _ :: _ :: _ :: _ :: _ :: _ :: _ :: _ :: _ :: _ :: _ :: _ :: _ :: _ :: _ :: _ :: _ :: _ :: _ :: _ :: _ :: _ :: _ :: _ :: _ :: _ :: _ :: _ :: []), defers := [] } _
    refine dr_takeg 10 (.pointer (some ⟨p, 0, none⟩)) rfl (by kernel_rfl) (by kernel_rfl) (by kernel_rfl) (by kernel_rfl) (fun _ _ _ h => h) (fun _ _ => by unfold execOp; go_simp) HS.out ?_
    change wpAnyH _ _ _ _ _ _ _ { tmps := List.toArray (_ :: _ :: _ :: _ :: _ :: _ :: _ :: _ :: _ :: _ :: _ :: _ :: _ :: _ :: _ :: _ :: _ :: _ :: _ :: _ :: _ :: _ :: _ :: _ :: _ :: _ :: _ :: _ :: _ :: _ :: _ :: _ :: _ :: _ :: _ :: _ :: _ :: _ :: _ :: _ :: _ :: _ :: _ :: _ :: _ :: _ :: _ :: _ :: _ :: _ :: _ :: _ :: _ :: _ :: _ :: _ :: _ :: _ :: _ :: _ :: _ :: _ :: _ :: _ :: _ :: _ :: _ :: _ :: _ :: _ :: _ :: _ :: _ :: _ :: _ :: _ :: _ :: _ :: _ :: _ :: _ :: _ :: _ :: _ :: _ :: _ :: _ :: _ :: _ :: _ :: _ :: _ :: _ :: _ :: _ :: _ :: _ :: _ :: _ :: _ :: _ :: _ :: _ :: _ :: _ :: _ :: _ :: _ :: _ :: _ :: _ :: _ :: _ :: _ :: _ :: _ :: _ :: _ :: _ :: []), defers := [] } _
    have HCO : Hid (Calls Tryd.prog 23 #[.pointer (some ⟨p, 0, none⟩)] W5 fun e w' => e = .returned (.int .i64 (s.cores.length : Int)) ∧ W5 = w') := by
      have h1 := k_Cores HX5.out.1
      rw [HN1.out] at h1
      exact h1
    refine dr_oneg 11 rfl (by kernel_rfl) (by kernel_rfl) ?_
    refine wp_callT (vs := #[.pointer (some ⟨p, 0, none⟩)]) rfl rfl (enters_of Tryd.func23 (by kernel_rfl) rfl) (by simp [Act.eval]) HCO.out ?_
    rintro e w' ⟨rfl, rfl⟩
    refine ⟨HS.out, ?_⟩
    change wpAnyH _ _ _ _ _ _ _ { tmps := List.toArray (_ :: _ :: _ :: _ :: _ :: _ :: _ :: _ :: _ :: _ :: _ :: _ :: _ :: _ :: _ :: _ :: _ :: _ :: _ :: _ :: _ :: _ :: _ :: _ :: _ :: _ :: _ :: _ :: _ :: _ :: _ :: _ :: _ :: _ :: _ :: _ :: _ :: _ :: _ :: _ :: _ :: _ :: _ :: _ :: _ :: _ :: _ :: _ :: _ :: _ :: _ :: _ :: _ :: _ :: _ :: _ :: _ :: _ :: _ :: _ :: _ :: _ :: _ :: _ :: _ :: _ :: _ :: _ :: _ :: _ :: _ :: _ :: _ :: _ :: _ :: _ :: _ :: _ :: _ :: _ :: _ :: _ :: _ :: _ :: _ :: _ :: _ :: _ :: _ :: _ :: _ :: _ :: _ :: _ :: _ :: _ :: _ :: _ :: _ :: _ :: _ :: _ :: _ :: _ :: _ :: _ :: _ :: _ :: _ :: _ :: _ :: _ :: _ :: _ :: _ :: _ :: _ :: _ :: _ :: []), defers := [] } _
    by_cases hk1 : (s.cores.length : Int) ≤ k
    · refine dr_takeg 12 (.bool true) rfl (by kernel_rfl) (by kernel_rfl) (by kernel_rfl) (by kernel_rfl) (fun _ _ _ h => h) (fun _ _ => by unfold execOp; go_simp <;> simp [hk1]) HS.out ?_
      change wpAnyH _ _ _ _ _ _ _ { tmps := List.toArray (_ :: _ :: _ :: _ :: _ :: _ :: _ :: _ :: _ :: _ :: _ :: _ :: _ :: _ :: _ :: _ :: _ :: _ :: _ :: _ :: _ :: _ :: _ :: _ :: _ :: _ :: _ :: _ :: _ :: _ :: _ :: _ :: _ :: _ :: _ :: _ :: _ :: _ :: _ :: _ :: _ :: _ :: _ :: _ :: _ :: _ :: _ :: _ :: _ :: _ :: _ :: _ :: _ :: _ :: _ :: _ :: _ :: _ :: _ :: _ :: _ :: _ :: _ :: _ :: _ :: _ :: _ :: _ :: _ :: _ :: _ :: _ :: _ :: _ :: _ :: _ :: _ :: _ :: _ :: _ :: _ :: _ :: _ :: _ :: _ :: _ :: _ :: _ :: _ :: _ :: _ :: _ :: _ :: _ :: _ :: _ :: _ :: _ :: _ :: _ :: _ :: _ :: _ :: _ :: _ :: _ :: _ :: _ :: _ :: _ :: _ :: _ :: _ :: _ :: _ :: _ :: _ :: _ :: _ :: []), defers := [] } _
      refine dr_take 13 (.bool true) rfl rfl (by kernel_rfl) (by kernel_rfl) (by kernel_rfl) (fun _ _ _ h => h) (fun _ _ => by unfold execOp; go_simp) HS.out ?_
      change wpAnyH _ _ _ _ _ _ _ { tmps := List.toArray (_ :: _ :: _ :: _ :: _ :: _ :: _ :: _ :: _ :: _ :: _ :: _ :: _ :: _ :: _ :: _ :: _ :: _ :: _ :: _ :: _ :: _ :: _ :: _ :: _ :: _ :: _ :: _ :: _ :: _ :: _ :: _ :: _ :: _ :: _ :: _ :: _ :: _ :: _ :: _ :: _ :: _ :: _ :: _ :: _ :: _ :: _ :: _ :: _ :: _ :: _ :: _ :: _ :: _ :: _ :: _ :: _ :: _ :: _ :: _ :: _ :: _ :: _ :: _ :: _ :: _ :: _ :: _ :: _ :: _ :: _ :: _ :: _ :: _ :: _ :: _ :: _ :: _ :: _ :: _ :: _ :: _ :: _ :: _ :: _ :: _ :: _ :: _ :: _ :: _ :: _ :: _ :: _ :: _ :: _ :: _ :: _ :: _ :: _ :: _ :: _ :: _ :: _ :: _ :: _ :: _ :: _ :: _ :: _ :: _ :: _ :: _ :: _ :: _ :: _ :: _ :: _ :: _ :: _ :: []), defers := [] } _
      refine wpAnyH_done (by kernel_rfl) ?_ _
      obtain ⟨rfl, rfl⟩ := HAO.out.1 (.inr hk1)
      have HZ : Hid (AoI w b0 p (.slice ma n1 mc) n1 (t + 1) s1 W5) := ⟨HX5.out.1, HRR.out.1, HX.out.em, HRR.out.2.2.1, HX.out.ml, HX5.out.2.1⟩
      clear HS HX5
      go_wp2_with fail
      go_roundg (ll - (t + 1) + 1)
      case measure => have := HMe.out; omega
      case rel => exact ⟨t + 1, s1, by simp, by omega, by omega, HZ.out⟩
    refine dr_takeg 12 (.bool false) rfl (by kernel_rfl) (by kernel_rfl) (by kernel_rfl) (by kernel_rfl) (fun _ _ _ h => h) (fun _ _ => by unfold execOp; go_simp <;> simp <;> omega) HS.out ?_
    change wpAnyH _ _ _ _ _ _ _ { tmps := List.toArray (_ :: _ :: _ :: _ :: _ :: _ :: _ :: _ :: _ :: _ :: _ :: _ :: _ :: _ :: _ :: _ :: _ :: _ :: _ :: _ :: _ :: _ :: _ :: _ :: _ :: _ :: _ :: _ :: _ :: _ :: _ :: _ :: _ :: _ :: _ :: _ :: _ :: _ :: _ :: _ :: _ :: _ :: _ :: _ :: _ :: _ :: _ :: _ :: _ :: _ :: _ :: _ :: _ :: _ :: _ :: _ :: _ :: _ :: _ :: _ :: _ :: _ :: _ :: _ :: _ :: _ :: _ :: _ :: _ :: _ :: _ :: _ :: _ :: _ :: _ :: _ :: _ :: _ :: _ :: _ :: _ :: _ :: _ :: _ :: _ :: _ :: _ :: _ :: _ :: _ :: _ :: _ :: _ :: _ :: _ :: _ :: _ :: _ :: _ :: _ :: _ :: _ :: _ :: _ :: _ :: _ :: _ :: _ :: _ :: _ :: _ :: _ :: _ :: _ :: _ :: _ :: _ :: _ :: _ :: []), defers := [] } _
    refine dr_take 13 (.bool false) rfl rfl (by kernel_rfl) (by kernel_rfl) (by kernel_rfl) (fun _ _ _ h => h) (fun _ _ => by unfold execOp; go_simp) HS.out ?_
    change wpAnyH _ _ _ _ _ _ _ { tmps := List.toArray (_ :: _ :: _ :: _ :: _ :: _ :: _ :: _ :: _ :: _ :: _ :: _ :: _ :: _ :: _ :: _ :: _ :: _ :: _ :: _ :: _ :: _ :: _ :: _ :: _ :: _ :: _ :: _ :: _ :: _ :: _ :: _ :: _ :: _ :: _ :: _ :: _ :: _ :: _ :: _ :: _ :: _ :: _ :: _ :: _ :: _ :: _ :: _ :: _ :: _ :: _ :: _ :: _ :: _ :: _ :: _ :: _ :: _ :: _ :: _ :: _ :: _ :: _ :: _ :: _ :: _ :: _ :: _ :: _ :: _ :: _ :: _ :: _ :: _ :: _ :: _ :: _ :: _ :: _ :: _ :: _ :: _ :: _ :: _ :: _ :: _ :: _ :: _ :: _ :: _ :: _ :: _ :: _ :: _ :: _ :: _ :: _ :: _ :: _ :: _ :: _ :: _ :: _ :: _ :: _ :: _ :: _ :: _ :: _ :: _ :: _ :: _ :: _ :: _ :: _ :: _ :: _ :: _ :: _ :: []), defers := [] } _
    refine wpAnyH_done (by kernel_rfl) ?_ _
    obtain rfl : why = 0 := HAO.out.2.1 (by omega)
    clear HS HCO
    go_upto_region 14 with fail
    by_cases hk2 : dk = 2
    · subst hk2
      obtain ⟨an, rfl⟩ : ∃ n : Nat, da = (n : Int) := ⟨da.toNat, by have := (HAO.out.2.2.2.2.1 (.inl rfl)).1; omega⟩
      have han : an < s.mem.length := by have := (HAO.out.2.2.2.2.1 (.inl rfl)).2; omega
      obtain ⟨mg, mc2, cur, e, hbg, hO, y2, yf⟩ := row_wordAt (by have := HX5.out.2.1; rw [← HX.out.ml] at this; exact this) han
      injection e with e1 e2 e3
      subst e1
      clear e2 e3
      have han' : (an : Int) < (n1 : Int) := by have := HX.out.ml; omega
      have hx2 : dx = rget s.mem (an : Int) := HAO.out.2.2.2.1 (.inl rfl)
      rw [← hx2] at y2
      have q0 : W5.cell? ⟨b4, 0, none⟩ = some (.int .u8 2) := row_cellsO HX5.out.2.2.1 0 _ rfl
      have q3 : W5.cell? ⟨b4, 3, none⟩ = some (.int .i64 (an : Int)) := row_cellsO HX5.out.2.2.1 3 _ rfl
      have q4 : W5.cell? ⟨b4, 4, none⟩ = some (.int .i64 dx) := row_cellsO HX5.out.2.2.1 4 _ rfl
      have q5 : W5.cell? ⟨b4, 5, none⟩ = some (.int .i64 dy) := row_cellsO HX5.out.2.2.1 5 _ rfl
      have q6 : W5.cell? ⟨b4, 6, none⟩ = some (.bool false) := row_cellsO HX5.out.2.2.1 6 _ rfl
      go_quiet (fail)
      have dw := below_drewN (Below.refl W5.heap.size W5) nq
      have HX6 : Hid (MSk w (W5.drewN nq) p s1 (fun k => (Value.slice (some ⟨mg, 0, none⟩) n1 mc).ownBlock = some k) ∧ (W5.drewN nq).ownsRow b0 2 1 (.slice (some ⟨mg, 0, none⟩) n1 mc) n1 (intF s.mem) ∧ Own (W5.drewN nq) b4 42 #[.int .u8 2, .int .i64 dc, .int .i64 dp, .int .i64 (an : Int), .int .i64 dx, .int .i64 dy, .bool false] ∧ (W5.drewN nq).cell? ⟨lg, lq + t, none⟩ = some (.int .i64 k)) := ⟨HX5.out.1.below dw, row_below HX5.out.2.1 dw, HX5.out.2.2.1.below dw, (dw.cell (p := ⟨lg, lq + t, none⟩) (lt_of_at HX5.out.2.2.2)).trans HX5.out.2.2.2⟩
      clear dw q0 q3 q4 q5 q6 HX5 y2 yf hO
      generalize W5.drewN nq = W6 at HX6 ⊢
      have q0 : W6.cell? ⟨b4, 0, none⟩ = some (.int .u8 2) := row_cellsO HX6.out.2.2.1 0 _ rfl
      have y1 := HX6.out.2.2.2
      have hmem : s2.mem = s.mem := HAO.out.2.2.2.2.2.1.trans (by rfl)
      go_wp2_with (go_at_call 18; refine (HDR.out _ HX6.out.1).mono ?_; rintro e w7 ⟨rfl, hms7, hkp7⟩)
      have HZ : Hid (AoI w b0 p (.slice (some ⟨mg, 0, none⟩) n1 mc) n1 (t + 1) s2 w7) := ⟨hms7, HRR.out.2.1, HAO.out.2.2.2.2.2.2, HRR.out.2.2.2, by rw [HAO.out.2.2.2.2.2.1, memU_len]; exact HX.out.ml, row_stays (by rw [hmem]; exact HX6.out.2.1) fun g _ e _ => hkp7 g e⟩
      go_roundg (ll - (t + 1) + 1)
      case measure => have := HMe.out; omega
      case rel => exact ⟨t + 1, s2, by simp, by omega, by omega, HZ.out⟩
    by_cases hk4 : dk = 4
    · subst hk4
      obtain ⟨an, rfl⟩ : ∃ n : Nat, da = (n : Int) := ⟨da.toNat, by have := (HAO.out.2.2.2.2.1 (.inr (.inr rfl))).1; omega⟩
      have han : an < s.mem.length := by have := (HAO.out.2.2.2.2.1 (.inr (.inr rfl))).2; omega
      obtain ⟨mg, mc2, cur, e, hbg, hO, y2, yf⟩ := row_wordAt (by have := HX5.out.2.1; rw [← HX.out.ml] at this; exact this) han
      injection e with e1 e2 e3
      subst e1
      clear e2 e3
      have han' : (an : Int) < (n1 : Int) := by have := HX.out.ml; omega
      have hx2 : dx = rget s.mem (an : Int) := HAO.out.2.2.2.1 (.inr rfl)
      rw [← hx2] at y2
      have q0 : W5.cell? ⟨b4, 0, none⟩ = some (.int .u8 4) := row_cellsO HX5.out.2.2.1 0 _ rfl
      have q3 : W5.cell? ⟨b4, 3, none⟩ = some (.int .i64 (an : Int)) := row_cellsO HX5.out.2.2.1 3 _ rfl
      have q4 : W5.cell? ⟨b4, 4, none⟩ = some (.int .i64 dx) := row_cellsO HX5.out.2.2.1 4 _ rfl
      have q5 : W5.cell? ⟨b4, 5, none⟩ = some (.int .i64 dy) := row_cellsO HX5.out.2.2.1 5 _ rfl
      have q6 : W5.cell? ⟨b4, 6, none⟩ = some (.bool false) := row_cellsO HX5.out.2.2.1 6 _ rfl
      go_quiet (fail)
      have dw := below_drewN (Below.refl W5.heap.size W5) nq
      have HX6 : Hid (MSk w (W5.drewN nq) p s1 (fun k => (Value.slice (some ⟨mg, 0, none⟩) n1 mc).ownBlock = some k) ∧ (W5.drewN nq).ownsRow b0 2 1 (.slice (some ⟨mg, 0, none⟩) n1 mc) n1 (intF s.mem) ∧ Own (W5.drewN nq) b4 42 #[.int .u8 4, .int .i64 dc, .int .i64 dp, .int .i64 (an : Int), .int .i64 dx, .int .i64 dy, .bool false] ∧ (W5.drewN nq).cell? ⟨lg, lq + t, none⟩ = some (.int .i64 k)) := ⟨HX5.out.1.below dw, row_below HX5.out.2.1 dw, HX5.out.2.2.1.below dw, (dw.cell (p := ⟨lg, lq + t, none⟩) (lt_of_at HX5.out.2.2.2)).trans HX5.out.2.2.2⟩
      have y2' : (W5.drewN nq).cell? ⟨mg, an, none⟩ = some (.int .i64 dx) := (dw.cell (p := ⟨mg, an, none⟩) (lt_of_at y2)).trans y2
      have yf' : (W5.drewN nq).frozen? ⟨mg, an, none⟩ = false := frozen_below dw (lt_of_at y2) yf
      have hO' := hO.below dw
      clear dw q0 q3 q4 q5 q6 HX5 y2 yf hO
      generalize W5.drewN nq = W6 at HX6 y2' yf' hO' ⊢
      have q0 : W6.cell? ⟨b4, 0, none⟩ = some (.int .u8 4) := row_cellsO HX6.out.2.2.1 0 _ rfl
      have q3 : W6.cell? ⟨b4, 3, none⟩ = some (.int .i64 (an : Int)) := row_cellsO HX6.out.2.2.1 3 _ rfl
      have q5 : W6.cell? ⟨b4, 5, none⟩ = some (.int .i64 dy) := row_cellsO HX6.out.2.2.1 5 _ rfl
      have hmem : s2.mem = rset s.mem (an : Int) dy := HAO.out.2.2.2.2.2.1.trans (by rfl)
      have HV : Hid (MSk w (W6.setCell ⟨mg, an, none⟩ (.int .i64 dy)) p s1 (fun k => (Value.slice (some ⟨mg, 0, none⟩) n1 mc).ownBlock = some k) ∧ (W6.setCell ⟨mg, an, none⟩ (.int .i64 dy)).ownsRow b0 2 1 (.slice (some ⟨mg, 0, none⟩) n1 mc) n1 (intF s2.mem)) := ⟨HX6.out.1.set rfl (Nat.le_trans hb0 hbg) hO' (by decide) an _, by
        have h1 := row_wordSet (n := n1) (c := mc) (by have := HX6.out.2.1; rw [show n1 = s.mem.length from HX.out.ml.symm] at this ⊢; exact this) an dy
        rw [rset_len, HX.out.ml] at h1
        rw [hmem]
        exact h1⟩
      have y1 : (W6.setCell ⟨mg, an, none⟩ (.int .i64 dy)).cell? ⟨lg, lq + t, none⟩ = some (.int .i64 k) := (HV.out.1.bel.cell (p := ⟨lg, lq + t, none⟩) (lt_of_at HY0.out)).trans HY0.out
      go_wp2_with (go_at_call 18; refine (HDR.out _ HV.out.1).mono ?_; rintro e w7 ⟨rfl, hms7, hkp7⟩)
      have HZ : Hid (AoI w b0 p (.slice (some ⟨mg, 0, none⟩) n1 mc) n1 (t + 1) s2 w7) := ⟨hms7, HRR.out.2.1, HAO.out.2.2.2.2.2.2, HRR.out.2.2.2, by rw [HAO.out.2.2.2.2.2.1, memU_len]; exact HX.out.ml, row_stays HV.out.2 fun g _ e _ => hkp7 g e⟩
      go_roundg (ll - (t + 1) + 1)
      case measure => have := HMe.out; omega
      case rel => exact ⟨t + 1, s2, by simp, by omega, by omega, HZ.out⟩
    by_cases hk3 : dk = 3
    · subst hk3
      obtain ⟨an, rfl⟩ : ∃ n : Nat, da = (n : Int) := ⟨da.toNat, by have := (HAO.out.2.2.2.2.1 (.inr (.inl rfl))).1; omega⟩
      have han : an < s.mem.length := by have := (HAO.out.2.2.2.2.1 (.inr (.inl rfl))).2; omega
      obtain ⟨mg, mc2, cur, e, hbg, hO, y2, yf⟩ := row_wordAt (by have := HX5.out.2.1; rw [← HX.out.ml] at this; exact this) han
      injection e with e1 e2 e3
      subst e1
      clear e2 e3
      have han' : (an : Int) < (n1 : Int) := by have := HX.out.ml; omega
      have q0 : W5.cell? ⟨b4, 0, none⟩ = some (.int .u8 3) := row_cellsO HX5.out.2.2.1 0 _ rfl
      have q3 : W5.cell? ⟨b4, 3, none⟩ = some (.int .i64 (an : Int)) := row_cellsO HX5.out.2.2.1 3 _ rfl
      have q4 : W5.cell? ⟨b4, 4, none⟩ = some (.int .i64 dx) := row_cellsO HX5.out.2.2.1 4 _ rfl
      have q5 : W5.cell? ⟨b4, 5, none⟩ = some (.int .i64 dy) := row_cellsO HX5.out.2.2.1 5 _ rfl
      have q6 : W5.cell? ⟨b4, 6, none⟩ = some (.bool false) := row_cellsO HX5.out.2.2.1 6 _ rfl
      go_quiet (fail)
      have dw := below_drewN (Below.refl W5.heap.size W5) nq
      have HX6 : Hid (MSk w (W5.drewN nq) p s1 (fun k => (Value.slice (some ⟨mg, 0, none⟩) n1 mc).ownBlock = some k) ∧ (W5.drewN nq).ownsRow b0 2 1 (.slice (some ⟨mg, 0, none⟩) n1 mc) n1 (intF s.mem) ∧ Own (W5.drewN nq) b4 42 #[.int .u8 3, .int .i64 dc, .int .i64 dp, .int .i64 (an : Int), .int .i64 dx, .int .i64 dy, .bool false] ∧ (W5.drewN nq).cell? ⟨lg, lq + t, none⟩ = some (.int .i64 k)) := ⟨HX5.out.1.below dw, row_below HX5.out.2.1 dw, HX5.out.2.2.1.below dw, (dw.cell (p := ⟨lg, lq + t, none⟩) (lt_of_at HX5.out.2.2.2)).trans HX5.out.2.2.2⟩
      have y2' : (W5.drewN nq).cell? ⟨mg, an, none⟩ = some (.int .i64 (rget s.mem (an : Int))) := (dw.cell (p := ⟨mg, an, none⟩) (lt_of_at y2)).trans y2
      have yf' : (W5.drewN nq).frozen? ⟨mg, an, none⟩ = false := frozen_below dw (lt_of_at y2) yf
      have hO' := hO.below dw
      clear dw q0 q3 q4 q5 q6 HX5 y2 yf hO
      generalize W5.drewN nq = W6 at HX6 y2' yf' hO' ⊢
      have q0 : W6.cell? ⟨b4, 0, none⟩ = some (.int .u8 3) := row_cellsO HX6.out.2.2.1 0 _ rfl
      have q3 : W6.cell? ⟨b4, 3, none⟩ = some (.int .i64 (an : Int)) := row_cellsO HX6.out.2.2.1 3 _ rfl
      have q4 : W6.cell? ⟨b4, 4, none⟩ = some (.int .i64 dx) := row_cellsO HX6.out.2.2.1 4 _ rfl
      have hmem : s2.mem = rset s.mem (an : Int) dx := HAO.out.2.2.2.2.2.1.trans (by rfl)
      have HV : Hid (MSk w (W6.setCell ⟨mg, an, none⟩ (.int .i64 dx)) p s1 (fun k => (Value.slice (some ⟨mg, 0, none⟩) n1 mc).ownBlock = some k) ∧ (W6.setCell ⟨mg, an, none⟩ (.int .i64 dx)).ownsRow b0 2 1 (.slice (some ⟨mg, 0, none⟩) n1 mc) n1 (intF s2.mem)) := ⟨HX6.out.1.set rfl (Nat.le_trans hb0 hbg) hO' (by decide) an _, by
        have h1 := row_wordSet (n := n1) (c := mc) (by have := HX6.out.2.1; rw [show n1 = s.mem.length from HX.out.ml.symm] at this ⊢; exact this) an dx
        rw [rset_len, HX.out.ml] at h1
        rw [hmem]
        exact h1⟩
      have y1 : (W6.setCell ⟨mg, an, none⟩ (.int .i64 dx)).cell? ⟨lg, lq + t, none⟩ = some (.int .i64 k) := (HV.out.1.bel.cell (p := ⟨lg, lq + t, none⟩) (lt_of_at HY0.out)).trans HY0.out
      go_wp2_with (go_at_call 18; refine (HDR.out _ HV.out.1).mono ?_; rintro e w7 ⟨rfl, hms7, hkp7⟩)
      have HZ : Hid (AoI w b0 p (.slice (some ⟨mg, 0, none⟩) n1 mc) n1 (t + 1) s2 w7) := ⟨hms7, HRR.out.2.1, HAO.out.2.2.2.2.2.2, HRR.out.2.2.2, by rw [HAO.out.2.2.2.2.2.1, memU_len]; exact HX.out.ml, row_stays HV.out.2 fun g _ e _ => hkp7 g e⟩
      go_roundg (ll - (t + 1) + 1)
      case measure => have := HMe.out; omega
      case rel => exact ⟨t + 1, s2, by simp, by omega, by omega, HZ.out⟩
    have q0 : W5.cell? ⟨b4, 0, none⟩ = some (.int .u8 dk) := row_cellsO HX5.out.2.2.1 0 _ rfl
    have q3 : W5.cell? ⟨b4, 3, none⟩ = some (.int .i64 da) := row_cellsO HX5.out.2.2.1 3 _ rfl
    have q4 : W5.cell? ⟨b4, 4, none⟩ = some (.int .i64 dx) := row_cellsO HX5.out.2.2.1 4 _ rfl
    have q5 : W5.cell? ⟨b4, 5, none⟩ = some (.int .i64 dy) := row_cellsO HX5.out.2.2.1 5 _ rfl
    have q6 : W5.cell? ⟨b4, 6, none⟩ = some (.bool false) := row_cellsO HX5.out.2.2.1 6 _ rfl
    have hmem : s2.mem = s.mem := HAO.out.2.2.2.2.2.1.trans (by simp only [memU]; rw [if_neg hk3, if_neg hk4])
    have e2 : (dk == 2) = false := by simpa using hk2
    have e3 : (dk == 3) = false := by simpa using hk3
    have e4 : (dk == 4) = false := by simpa using hk4
    clear hk2 hk3 hk4
    go_quiet (fail)
    have dw := below_drewN (Below.refl W5.heap.size W5) nq
    have HX6 : Hid (MSk w (W5.drewN nq) p s1 (fun k => (Value.slice ma n1 mc).ownBlock = some k) ∧ (W5.drewN nq).ownsRow b0 2 1 (.slice ma n1 mc) n1 (intF s.mem) ∧ Own (W5.drewN nq) b4 42 #[.int .u8 dk, .int .i64 dc, .int .i64 dp, .int .i64 da, .int .i64 dx, .int .i64 dy, .bool false] ∧ (W5.drewN nq).cell? ⟨lg, lq + t, none⟩ = some (.int .i64 k)) := ⟨HX5.out.1.below dw, row_below HX5.out.2.1 dw, HX5.out.2.2.1.below dw, (dw.cell (p := ⟨lg, lq + t, none⟩) (lt_of_at HX5.out.2.2.2)).trans HX5.out.2.2.2⟩
    clear dw q0 q3 q4 q5 q6 HX5
    generalize W5.drewN nq = W6 at HX6 ⊢
    have q0 : W6.cell? ⟨b4, 0, none⟩ = some (.int .u8 dk) := row_cellsO HX6.out.2.2.1 0 _ rfl
    have y1 := HX6.out.2.2.2
    go_wp2_with (go_at_call 18; refine (HDR.out _ HX6.out.1).mono ?_; rintro e w7 ⟨rfl, hms7, hkp7⟩)
    have HZ : Hid (AoI w b0 p (.slice ma n1 mc) n1 (t + 1) s2 w7) := ⟨hms7, HRR.out.2.1, HAO.out.2.2.2.2.2.2, HRR.out.2.2.2, by rw [HAO.out.2.2.2.2.2.1, memU_len]; exact HX.out.ml, row_stays (by rw [hmem]; exact HX6.out.2.1) fun g _ e _ => hkp7 g e⟩
    go_roundg (ll - (t + 1) + 1)
    case measure => have := HMe.out; omega
    case rel => exact ⟨t + 1, s2, by simp, by omega, by omega, HZ.out⟩
set_option maxHeartbeats 4000000 in
theorem once_bad (o : Ob) (hg : rgO o) (hf : fitO o) {v : Value} {w : World} (hv : obA w o v) (T : TgT w) {why x y : Int} (hc : chkO o = (why, x, y)) (hw : why ≠ 0) (lv : Value) : Calls Tryd.prog 9 #[v, lv] w fun e w' => e = .returned (.bool true) ∧ Below w.heap.size w w' := by
  have HM : Hid (∀ V, Below w.heap.size w V → Calls Tryd.prog 28 #[v] V fun e w' => e = .returned (.tuple #[.pointer none, .bool false]) ∧ Below w.heap.size w w') := fun V hb => by
    refine (p_made_bad o hg hf (obA_below hv hb) (T.below hb) hc hw).mono ?_
    rintro e w' ⟨h1, h2⟩
    exact ⟨h1, hb.trans (h2.mono hb.size)⟩
  have HT := Lib.hid T
  obtain ⟨a1, c1, a5, c5, rfl, _, h5⟩ := hv
  obtain ⟨mem, sh, lk, bf, cores⟩ := o
  simp only [obV] at HM ⊢
  clear h5 hc hg hf T
  generalize mem.length = n1 at HM ⊢
  generalize cores.length = n5 at HM ⊢
  have O0 := Own.new w 25 #[.slice a1 n1 c1, .int .i64 sh, .int .i64 lk, .int .i64 bf, .slice a5 n5 c5]
  have B0 : Below w.heap.size w (w.alloc (.cells #[.slice a1 n1 c1, .int .i64 sh, .int .i64 lk, .int .i64 bf, .slice a5 n5 c5] 25)) := (Below.refl _ w).alloc (Nat.le_refl _) _
  obtain ⟨W0, hW0⟩ : ∃ W, W = w.alloc (.cells #[.slice a1 n1 c1, .int .i64 sh, .int .i64 lk, .int .i64 bf, .slice a5 n5 c5] 25) := ⟨_, rfl⟩
  rw [← hW0] at O0 B0
  have HW0 := Lib.hid hW0
  have HB0 := Lib.hid (And.intro B0 O0)
  clear hW0 B0 O0
  go_enter Tryd.func9, Tryd.ntmps9
  go_upto_region 1 with fail
  rw [← HW0.out]
  clear HW0
  go_upto_region 3 with (go_at_call 14; refine (b_any _ (HT.out.lev.below HB0.out.1) (HT.out.below HB0.out.1)).mono ?_; rintro e w1 ⟨rfl, hb1⟩)
  have HB1 : Hid (Below w.heap.size w w1 ∧ Own w1 w.heap.size 25 #[.slice a1 n1 c1, .int .i64 sh, .int .i64 lk, .int .i64 bf, .slice a5 n5 c5]) := ⟨HB0.out.1.trans (hb1.mono HB0.out.1.size), HB0.out.2.below hb1⟩
  clear hb1 HB0
  have O1 := HB1.out.2
  go_wp2_with (first | (refine ld rowO rfl rfl rfl O1 rfl ?_) | (go_at_call 28; refine (HM.out _ HB1.out.1).mono ?_; rintro e w2 ⟨rfl, hb2⟩))
  go_ret
  exact ⟨rfl, hb2⟩
/-- VmAtOnce: true. -/
theorem once_walk {v0 : Value} {w : World} {o : Ob} (hv : obC w o v0) (hg : rgO o) (hf : fitO o) (T : TgT w) {l : List Int} {la : Option Addr} (lc : Nat) (hl : intsAt w l la) (hll : l.length ≤ 140737488351232) : Calls Tryd.prog 9 #[v0, .slice la l.length lc] w fun e w' => e = .returned (.bool true) ∧ Below w.heap.size w w' := by
  obtain ⟨⟨why, x, y⟩, h⟩ : ∃ c, c = chkO o := ⟨_, rfl⟩
  by_cases hw : why = 0
  · subst hw
    obtain ⟨a1, c1, a5, c5, rfl, h1, h2, h3, h4⟩ := hv
    exact once_ok o hg hf h1 h2 h3 h4 T h.symm lc hl hll
  · exact once_bad o hg hf hv.obA T h.symm hw _
end Go.Proofs.YtmpljhfinmfnbaaDoor

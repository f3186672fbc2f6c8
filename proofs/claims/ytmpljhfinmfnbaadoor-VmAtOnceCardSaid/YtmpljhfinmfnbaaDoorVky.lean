/- Lists copied behind a list of the law's own; its words change. -/
import Derived.Test.YtmpljhfinmfnbaaDoorVkp
import Derived.OwnWalk
import Derived.Laws.OwnMore
namespace Go.Proofs.YtmpljhfinmfnbaaDoor
open Go.RowKit
set_option linter.unusedVariables false
set_option maxRecDepth 100000
def memL (mem : List Int) (k : Nat) : List Value := (List.range (32 * k)).map fun j => Value.int .i64 (mem.getD j 0)
theorem memL_succ (mem : List Int) (k : Nat) : memL mem k ++ (pageRow mem k).toList = memL mem (k + 1) := by
  unfold memL pageRow
  rw [show 32 * (k + 1) = 32 * k + 32 by omega, List.range_add, List.map_append, List.map_map]
  rfl
theorem memL_get (mem : List Int) (k j : Nat) (x : Int) (hj : mem[j]? = some x) (hk : j < 32 * k) : (memL mem k)[j]? = some (.int .i64 x) := by
  unfold memL
  rw [List.getElem?_map, List.getElem?_range hk, Option.map_some, List.getD_eq_getElem?_getD, hj]
  rfl
theorem info_64b : (Tryd.prog.info? 2).map (fun i => (i.zero, i.size, i.bytes)) = some (some (.int .i64 0), 1, 8) := by kernel_rfl
theorem pageRow_one (mem : List Int) (k : Nat) : ∀ u ∈ (pageRow mem k).toList, u.oneCell' = true := fun u hu => by
  unfold pageRow at hu
  rw [List.toList_toArray] at hu
  obtain ⟨j, _, rfl⟩ := List.mem_map.1 hu
  rfl
theorem pageRow_len (mem : List Int) (k : Nat) : (pageRow mem k).toList.length = 32 * 1 := by
  unfold pageRow
  simp
/-- Words so far. -/
def WdI (w : World) (mem : List Int) (bx : Array Value) (t : Nat) (g cap : Nat) (W : World) : Prop := W.ownsRow (w.heap.size + 1) 2 1 (.slice (some ⟨g, 0, none⟩) (32 * t) cap) (32 * t) (memL mem t) ∧ Own W w.heap.size 101 bx ∧ Below w.heap.size w W
set_option maxHeartbeats 8000000 in
theorem p_words {w : World} {mem : List Int} {pv : Value} {PL : List Nat} (h : PgA w mem pv PL) (hl : mem.length ≤ 4096) :
    Calls Tryd.prog 47 #[.agg #[pv, .int .i64 (mem.length : Int)]] w fun e w' => ∃ g cap, e = .returned (.slice (some ⟨g, 0, none⟩) mem.length cap) ∧ w'.ownsRow w.heap.size 2 1 (.slice (some ⟨g, 0, none⟩) (32 * PL.length) cap) (32 * PL.length) (memL mem PL.length) ∧ Below w.heap.size w w' := by
  obtain ⟨ao, pc, rfl⟩ := row_slice h.pgs
  obtain ⟨n, hn⟩ : ∃ n, n = PL.length := ⟨_, rfl⟩
  obtain ⟨len, hlen⟩ : ∃ n, n = mem.length := ⟨_, rfl⟩
  have hnl : n = (len + 31) / 32 := by rw [hn, hlen]; exact h.pgn
  rw [← hn, ← hlen]
  have al := (Below.refl w.heap.size w).alloc (Nat.le_refl _) (.cells #[.slice ao n pc, .int .i64 (len : Int)] 101)
  have O1 := Own.new w 101 #[.slice ao n pc, .int .i64 (len : Int)]
  obtain ⟨W1, hW1⟩ : ∃ W, W = w.alloc (.cells #[.slice ao n pc, .int .i64 (len : Int)] 101) := ⟨_, rfl⟩
  have hs1 : W1.heap.size = w.heap.size + 1 := by rw [hW1]; simp
  rw [← hW1] at al O1
  have HW1 := Lib.hid hW1
  have HS1 := Lib.hid hs1
  have p0 : W1.cell? ⟨w.heap.size, 0, none⟩ = some (.slice ao n pc) := row_cellsO O1 0 _ rfl
  have HO := Lib.hid (And.intro O1 al)
  have HH : Hid (PgA w mem (.slice ao n pc) PL ∧ n = PL.length ∧ len = mem.length ∧ len ≤ 4096 ∧ n = (len + 31) / 32) := ⟨by rw [hn]; exact h, hn, hlen, by omega, hnl⟩
  have hn4 : n ≤ 128 := by omega
  obtain ⟨i0, hi, hz0, hz1, hz2⟩ := info_parts info_64b
  clear h hl hnl hn hlen hW1 hs1 O1 al
  go_enter Tryd.func47, Tryd.ntmps47
  go_upto_region 1 with fail
  rw [← HW1.out]
  clear HW1
  go_upto_region 2 with (refine wpList_make_own W1 rfl _ _ 22 rfl (w.heap.size + 1) 2 i0 _ 1 Tryd.underlying22 hi hz0 hz1 .i64 .i64 _ (32 * n) rfl rfl (by simp <;> omega) (by rw [hz2]; omega) (by simp only [maxLen]; omega) (by have := HS1.out; omega) ?_; intro w2 hr2 hg2)
  have hb2 : Below w.heap.size w w2 := HO.out.2.grown hg2 (by have := HS1.out; omega) (fun k e => by cases e)
  have O2 : Own w2 w.heap.size 101 #[.slice ao n pc, .int .i64 (len : Int)] := (hg2.block _ HO.out.1.lt (by simp)).trans HO.out.1
  have HX0 : Hid (WdI w mem #[.slice ao n pc, .int .i64 (len : Int)] 0 W1.heap.size (32 * n) w2) := ⟨by
    have h1 : memL mem 0 = [] := rfl
    rw [h1]
    exact hr2, O2, hb2⟩
  clear p0
  have p0 : w2.cell? ⟨w.heap.size, 0, none⟩ = some (.slice ao n pc) := row_cellsO O2 0 _ rfl
  clear hr2 hg2 hb2 O2 HO
  generalize W1.heap.size = g0 at HX0 HS1 ⊢
  go_wp2_with fail
  clear p0
  go_loopg [3, 14] (n + 1) (fun m' z y X => ∃ t g cap : Nat, z = .slice (some ⟨g, 0, none⟩) (32 * t) cap ∧ y = .int .i64 (t : Int) ∧ t ≤ n ∧ m' = n - t + 1 ∧ WdI w mem #[.slice ao n pc, .int .i64 (len : Int)] t g cap X)
  case atStart => exact ⟨0, g0, 32 * n, rfl, rfl, Nat.zero_le _, by omega, HX0.out⟩
  case round =>
    clear HX0
    obtain ⟨t, g, cap, rfl, rfl, ht, hm, hx⟩ := hrel
    have HM := Lib.hid hm
    have HX := Lib.hid hx
    clear hm hx
    by_cases htn : t < n
    · obtain ⟨gp, g1, pcap, hpe, hgl, hpt⟩ : ∃ gp g1 cap', Value.slice ao n pc = .slice (some ⟨gp, 0, none⟩) n cap' ∧ PL[t]? = some g1 ∧ w.cell? ⟨gp, t, none⟩ = some (.pointer (some ⟨g1, 0, none⟩)) := by
        obtain ⟨hpg, hnp, _⟩ := HH.out
        obtain ⟨gp, cap', e, _, h2⟩ := row_at hpg.pgs (by omega)
        have hg1 : PL[t]? = some PL[t] := List.getElem?_eq_getElem (by omega)
        exact ⟨gp, _, cap', by rw [e, hnp], hg1, h2 _ _ (by rw [ptrs, List.getElem?_map, hg1]; rfl)⟩
      injection hpe with e1 e2 e3
      subst e1 e3
      have c1 : wr.cell? ⟨gp, t, none⟩ = some (.pointer (some ⟨g1, 0, none⟩)) := (HX.out.2.2.cell (p := ⟨gp, t, none⟩) (lt_of_at hpt)).trans hpt
      have hcell : ∀ j u, (pageRow mem t).toList[j]? = some u → wr.cell? ((⟨g1, 0, none⟩ : Addr).add j) = some u := fun j u hj => by
        have hO : Own wr g1 135 (pageRow mem t) := (HH.out.1.page t g1 hgl).below HX.out.2.2
        rw [addr_addV, Nat.zero_add, cell_of_row _ _ _ _ _ _ hO]
        rw [Array.getElem?_toList] at hj
        exact hj
      have hown := HX.out.1
      have hn32 : 32 * t + 32 ≤ 4096 := by omega
      have htn' : (t : Int) < (n : Int) := by omega
      have hwr : w.heap.size + 1 ≤ wr.heap.size := HX.out.2.1.lt
      have hnx : (32 : Nat) * (t + 1) = 32 * t + 32 := by omega
      obtain ⟨T, hT⟩ : ∃ T, T = 32 * t := ⟨_, rfl⟩
      rw [← hT] at hown hn32 hnx ⊢
      clear hT hpt
      go_wp2_with (at_builtin; refine wpList_append_own _ rfl _ _ 22 rfl (w.heap.size + 1) 2 i0 _ 1 8 Tryd.underlying22 hi hz0 hz1 hz2 rfl (by decide) _ T (memL mem t) rfl hown ⟨g1, 0, none⟩ 32 32 (pageRow mem t).toList rfl (pageRow_len _ _) hcell (pageRow_one _ _) (by simp only [maxLen]; omega) (by omega) hwr ?_; intro v' w3 hr3 hg3 _)
      obtain ⟨g', cap', rfl⟩ := ownsRow_succ (k := T + 31) hr3
      have HY : Hid (WdI w mem #[.slice (some ⟨gp, 0, none⟩) n pc, .int .i64 (len : Int)] (t + 1) g' cap' w3) := ⟨by
        have h1 := hr3
        rw [memL_succ] at h1
        rw [hnx]
        exact h1, (hg3.block _ HX.out.2.1.lt (fun e => by
          obtain ⟨h4, _⟩ := row_base hown e.symm
          omega)).trans HX.out.2.1, HX.out.2.2.grown hg3 (HX.out.2.2.size) (fun k e => by
          obtain ⟨h4, _⟩ := row_base hown e
          omega)⟩
      clear hr3 hg3 hown hcell c1
      go_wp2_with fail
      go_roundg (n - (t + 1) + 1)
      case measure => have := HM.out; omega
      case rel => exact ⟨t + 1, g', cap', by rw [hnx], by simp, by omega, by omega, HY.out⟩
    obtain rfl : t = n := by omega
    have q1 : wr.cell? ⟨w.heap.size, 1, none⟩ = some (.int .i64 (len : Int)) := row_cellsO HX.out.2.1 1 _ rfl
    have hcap : len ≤ cap := by
      obtain ⟨_, _, _, _, h5⟩ := HH.out
      rcases HX.out.1.2 with ⟨h1, _⟩ | ⟨g2, cap2, cur, h1, _, _, h2, _⟩
      · simp at h1
      · injection h1 with _ _ h1
        subst h1
        omega
    have HL := Lib.hid hcap
    obtain ⟨T, hT⟩ : ∃ T, T = 32 * t := ⟨_, rfl⟩
    have hlT : len ≤ T := by have := HH.out.2.2.2.2; omega
    have hown := HX.out.1
    rw [← hT] at hown ⊢
    have hcT : T ≤ cap := by
      rcases hown.2 with ⟨h1, _⟩ | ⟨g2, cap2, cur, h1, _, _, h2, _⟩
      · simp at h1
      · injection h1 with _ _ h1
        subst h1
        exact h2
    have hown := Lib.hid hown
    go_wp2_with fail
    go_ret
    refine ⟨g, cap, rfl, ?_, HX.out.2.2⟩
    rw [← hT]
    exact row_mono hown.out (Nat.le_succ _)
set_option maxHeartbeats 4000000 in
theorem w_Words {w : World} {l : List Int} {a b : Option Addr} {c d : Nat} (ha : intsAt w l a) (hb : intsAt w l b) (hl : l.length ≤ 140737488351232) :
    Calls Tryd.prog 31 #[.slice a l.length c, .slice b l.length d] w fun e w' => e = .returned (.bool true) ∧ Below w.heap.size w w' := by
  obtain ⟨n, hn⟩ : ∃ n, n = l.length := ⟨_, rfl⟩
  rw [← hn] at hl ⊢
  have HA := Lib.hid (And.intro ha (And.intro hb hn))
  clear ha hb hn
  go_enter Tryd.func31, Tryd.ntmps31
  go_wp2_with fail
  go_loopg [5] (n + 1) (fun m' z X => ∃ t : Nat, z = .int .i64 (t : Int) ∧ t ≤ n ∧ m' = n - t + 1 ∧ Below w.heap.size w X)
  case atStart => exact ⟨0, rfl, Nat.zero_le _, by omega, Below.refl _ _⟩
  case round =>
    obtain ⟨t, rfl, ht, hm, hx⟩ := hrel
    have HM := Lib.hid hm
    have HX := Lib.hid hx
    clear hm hx
    by_cases htn : t < n
    · have il : t < l.length := by have := HA.out.2.2; omega
      have g1 : l[t]? = some l[t] := List.getElem?_eq_getElem il
      generalize l[t] = x at g1
      rcases intsAt_below HA.out.1 HX.out with e | ⟨g, q, rfl, e1⟩
      · subst e; simp at il
      rcases intsAt_below HA.out.2.1 HX.out with e | ⟨g', q', rfl, e2⟩
      · subst e; simp at il
      have y1 := e1 t x g1
      have y2 := e2 t x g1
      have htn' : (t : Int) < (n : Int) := by omega
      clear e1 e2 g1 il
      go_wp2_with fail
      go_quiet (fail)
      have HZ := Lib.hid (HX.out.trans ((below_drewN (Below.refl _ wr) nq).mono HX.out.size))
      go_wp2_with fail
      go_roundg (n - (t + 1) + 1)
      case measure => have := HM.out; omega
      case rel => exact ⟨t + 1, by simp, by omega, by omega, HZ.out⟩
    obtain rfl : t = n := by omega
    go_wp2_with fail
    go_ret
    exact ⟨rfl, HX.out⟩
end Go.Proofs.YtmpljhfinmfnbaaDoor
namespace Go.Proofs.YtmpljhfinmfnbaaDoor
open Go.RowKit
set_option linter.unusedVariables false
set_option maxRecDepth 100000
set_option maxHeartbeats 4000000 in
theorem p_made_ok (o : Ob) (hg : rgO o) (hf : fitO o) {a1 a5 : Option Addr} {c1 c5 : Nat} {w : World} (hm : intsAt w o.mem a1) (h5 : corsAt w o.cores a5) (hcap : o.mem.length ≤ c1) (hcm : c1 ≤ 9223372036854775807) (T : TgT w) {x y : Int} (hc : chkO o = (0, x, y)) : Calls Tryd.prog 28 #[obV o a1 c1 a5 c5] w fun e w' => ∃ p, e = .returned (.tuple #[.pointer (some ⟨p, 0, none⟩), .bool true]) ∧ MSt w w' p (newV o) := by
  have HN : Hid (∀ V, Below w.heap.size w V → Calls Tryd.prog 33 #[obV o a1 c1 a5 c5] V fun e w' => ∃ p, e = .returned (.tuple #[.pointer (some ⟨p, 0, none⟩), .int .i64 0]) ∧ MSt w w' p (newV o)) := fun V hb => by
    refine (p_New_ok o hg hf (intsAt_below hm hb) (corsAt_below h5 hb) hcap hcm (T.below hb) hc).mono ?_
    rintro e w' ⟨p, F, rfl, h3, h4, h5⟩
    exact ⟨p, rfl, F, h3, fun k hk => ⟨Nat.le_trans hb.size (h4 k hk).1, (h4 k hk).2⟩, hb.trans (h5.mono hb.size)⟩
  obtain ⟨s, hs⟩ : ∃ s, s = newV o := ⟨_, rfl⟩
  rw [← hs] at HN ⊢
  clear hs
  obtain ⟨mem, sh, lk, bf, cores⟩ := o
  simp only [obV] at HN ⊢
  clear hm h5 hcap hcm hc hg hf T
  generalize mem.length = n1 at HN ⊢
  generalize cores.length = n5 at HN ⊢
  have O0 := Own.new w 25 #[.slice a1 n1 c1, .int .i64 sh, .int .i64 lk, .int .i64 bf, .slice a5 n5 c5]
  have B0 : Below w.heap.size w (w.alloc (.cells #[.slice a1 n1 c1, .int .i64 sh, .int .i64 lk, .int .i64 bf, .slice a5 n5 c5] 25)) := (Below.refl _ w).alloc (Nat.le_refl _) _
  obtain ⟨W0, hW0⟩ : ∃ W, W = w.alloc (.cells #[.slice a1 n1 c1, .int .i64 sh, .int .i64 lk, .int .i64 bf, .slice a5 n5 c5] 25) := ⟨_, rfl⟩
  rw [← hW0] at O0 B0
  have HW0 := Lib.hid hW0
  have HB0 := Lib.hid B0
  clear hW0 B0
  go_enter Tryd.func28, Tryd.ntmps28
  go_upto_region 1 with (fail)
  rw [← HW0.out]
  clear HW0
  go_wp2_with (first | (refine ld rowO rfl rfl rfl O0 rfl ?_) | (go_at_call 33; refine (HN.out _ HB0.out).mono ?_; rintro e w1 ⟨p, rfl, hms⟩))
  refine bodyPost_ret (results_tmp2 rfl _ _ _) rfl ?_
  exact ⟨p, rfl, hms⟩
set_option maxHeartbeats 4000000 in
theorem p_made_bad (o : Ob) (hg : rgO o) (hf : fitO o) {v : Value} {w : World} (hv : obA w o v) (T : TgT w) {why x y : Int} (hc : chkO o = (why, x, y)) (hw : why ≠ 0) : Calls Tryd.prog 28 #[v] w fun e w' => e = .returned (.tuple #[.pointer none, .bool false]) ∧ Below w.heap.size w w' := by
  have HN : Hid (∀ V, Below w.heap.size w V → Calls Tryd.prog 33 #[v] V fun e w' => e = .returned (.tuple #[.pointer none, .int .i64 why]) ∧ Below w.heap.size w w') := fun V hb => by
    refine (p_New_bad o hg hf (obA_below hv hb) (T.below hb) hc hw).mono ?_
    rintro e w' ⟨h1, h2⟩
    exact ⟨h1, hb.trans (h2.mono hb.size)⟩
  obtain ⟨a1, c1, a5, c5, rfl, _, h5⟩ := hv
  obtain ⟨mem, sh, lk, bf, cores⟩ := o
  simp only [obV] at HN ⊢
  clear h5 hc hg hf T
  have hne : (why == 0) = false := by simpa using hw
  generalize mem.length = n1 at HN ⊢
  generalize cores.length = n5 at HN ⊢
  have O0 := Own.new w 25 #[.slice a1 n1 c1, .int .i64 sh, .int .i64 lk, .int .i64 bf, .slice a5 n5 c5]
  have B0 : Below w.heap.size w (w.alloc (.cells #[.slice a1 n1 c1, .int .i64 sh, .int .i64 lk, .int .i64 bf, .slice a5 n5 c5] 25)) := (Below.refl _ w).alloc (Nat.le_refl _) _
  obtain ⟨W0, hW0⟩ : ∃ W, W = w.alloc (.cells #[.slice a1 n1 c1, .int .i64 sh, .int .i64 lk, .int .i64 bf, .slice a5 n5 c5] 25) := ⟨_, rfl⟩
  rw [← hW0] at O0 B0
  have HW0 := Lib.hid hW0
  have HB0 := Lib.hid B0
  clear hW0 B0
  go_enter Tryd.func28, Tryd.ntmps28
  go_upto_region 1 with (fail)
  rw [← HW0.out]
  clear HW0
  go_wp2_with (first | (refine ld rowO rfl rfl rfl O0 rfl ?_) | (go_at_call 33; refine (HN.out _ HB0.out).mono ?_; rintro e w1 ⟨rfl, hms⟩))
  refine bodyPost_ret (results_tmp2 rfl _ _ _) rfl ?_
  exact ⟨rfl, hms⟩
end Go.Proofs.YtmpljhfinmfnbaaDoor
namespace Go.Proofs.YtmpljhfinmfnbaaDoor
open Go.RowKit
set_option linter.unusedVariables false
set_option maxRecDepth 100000
set_option maxHeartbeats 4000000 in
theorem p_Memory {w : World} {p : Nat} {s : Vm} {F : List Nat} (h : VmS w p s F) (hl : s.mem.length ≤ 4096) : Calls Tryd.prog 24 #[.pointer (some ⟨p, 0, none⟩)] w fun e w' => ∃ g cap, e = .returned (.slice (some ⟨g, 0, none⟩) s.mem.length cap) ∧ intsAt w' s.mem (some ⟨g, 0, none⟩) ∧ w.heap.size ≤ g ∧ Below w.heap.size w w' := by
  obtain ⟨cv, pv, sd, L, PL, hx⟩ := h
  have HP : Hid (Calls Tryd.prog 47 #[.agg #[pv, .int .i64 (s.mem.length : Int)]] w fun e w' => ∃ g cap, e = .returned (.slice (some ⟨g, 0, none⟩) s.mem.length cap) ∧ intsAt w' s.mem (some ⟨g, 0, none⟩) ∧ w.heap.size ≤ g ∧ Below w.heap.size w w') := by
    refine (p_words hx.pga hl).mono ?_
    rintro e w' ⟨g, cap, rfl, h1, h2⟩
    have hpn := hx.pgn
    refine ⟨g, cap, rfl, ?_, ?_, h2⟩
    · rcases h1.2 with ⟨q, _⟩ | ⟨g2, cap2, cur, q, hb, hg, q1, q2, q3, q4⟩
      · simp at q
      · injection q with q _ _
        injection q with q
        injection q with q
        subst q
        refine .inr ⟨g, 0, rfl, fun j x hj => ?_⟩
        have hjl := (List.getElem?_eq_some_iff.1 hj).1
        have h3 := memL_get s.mem PL.length j x hj (by omega)
        rw [← q4, List.getElem?_take] at h3
        rw [Nat.zero_add, cell_of_row _ _ _ _ _ _ hg]
        split at h3
        · rw [Array.getElem?_toList] at h3
          exact h3
        · cases h3
    · rcases h1.2 with ⟨q, _⟩ | ⟨g2, cap2, cur, q, hb, hg, _⟩
      · simp at q
      · injection q with q _ _
        injection q with q
        injection q with q
        subst q
        exact hb
  obtain ⟨pa, pc, rfl⟩ := row_slice hx.pgs
  have c2 : w.cell? ⟨p, 2, none⟩ = some (.slice pa PL.length pc) := row_cellsO hx.own 2 _ rfl
  have c3 : w.cell? ⟨p, 3, none⟩ = some (.int .i64 (s.mem.length : Int)) := row_cellsO hx.own 3 _ rfl
  generalize s.mem.length = len at HP c3 ⊢
  generalize PL.length = n at HP c2 ⊢
  generalize s.mem = mem at HP ⊢
  clear hx hl
  go_enter Tryd.func24, Tryd.ntmps24
  go_wp2_with (go_at_call 47; refine HP.out.mono ?_; rintro e w2 ⟨g, cap, rfl, h1, h2, h3⟩)
  go_ret
  exact ⟨g, cap, rfl, h1, h2, h3⟩
/-- A law's machine beside blocks of the law's own. -/
def MSk (w W : World) (p : Nat) (s : Vm) (B : Nat → Prop) : Prop := ∃ F, VmS W p s F ∧ FIn w.heap.size F W ∧ Below w.heap.size w W ∧ (∀ k ∈ F, ¬ B k) ∧ ∀ k, B k → k < W.heap.size
section
variable {w W W' : World} {p : Nat} {s : Vm} {B : Nat → Prop}
theorem MSt.msk (h : MSt w W p s) : MSk w W p s fun _ => False := by
  obtain ⟨F, h1, h2, h3⟩ := h
  exact ⟨F, h1, h2, h3, fun _ _ q => q, fun _ q => q.elim⟩
theorem MSk.below (h : MSk w W p s B) (hb : Below W.heap.size W W') : MSk w W' p s B := by
  obtain ⟨F, h1, h2, h3, h4, h5⟩ := h
  exact ⟨F, h1.below hb, h2.up hb.size, h3.trans (hb.mono h3.size), h4, fun k q => Nat.lt_of_lt_of_le (h5 k q) hb.size⟩
theorem MSk.bel (h : MSk w W p s B) : Below w.heap.size w W := by
  obtain ⟨F, _, _, h3, _⟩ := h
  exact h3
theorem MSk.add (h : MSk w W p s B) (hb : Below W.heap.size W W') {g : Nat} (h1 : W.heap.size ≤ g) (h2 : g < W'.heap.size) : MSk w W' p s fun k => B k ∨ k = g := by
  obtain ⟨F, q1, q2, q3, q4, q5⟩ := h
  refine ⟨F, q1.below hb, q2.up hb.size, q3.trans (hb.mono q3.size), fun k hk => ?_, fun k q => ?_⟩
  · rintro (q | rfl)
    · exact q4 k hk q
    · have := (q2 k hk).2
      omega
  · rcases q with q | rfl
    · exact Nat.lt_of_lt_of_le (q5 k q) hb.size
    · exact h2
/-- A cell of the law's own changes. -/
theorem MSk.set (h : MSk w W p s B) {g : Nat} (hg : B g) (h0 : w.heap.size ≤ g) {T : TypeId} {cur : Array Value} (hO : Own W g T cur) (hT : T ≠ 135 ∧ T ≠ 140 ∧ T ≠ 87) (j : Nat) (v : Value) : MSk w (W.setCell ⟨g, j, none⟩ v) p s B := by
  obtain ⟨F, q1, q2, q3, q4, q5⟩ := h
  have hs : (W.setCell ⟨g, j, none⟩ v).heap.size = W.heap.size := by simp [World.setCell]
  have hk : KeepV [g] W (W.setCell ⟨g, j, none⟩ v) := ⟨rfl, rfl, rfl, by omega, fun k o ho hn => by
    by_cases e : k = g
    · subst e
      unfold Own at hO
      rw [hO] at ho
      injection ho with ho
      subst ho
      rcases hn with hn | ⟨c2, t2, e, h2⟩
      · simp at hn
      · injection e with _ e
        subst e
        rcases h2 with h2 | h2 | h2
        · exact absurd h2 hT.1
        · exact absurd h2 hT.2.1
        · exact absurd h2 hT.2.2
    · exact (Below.heap_setCell W ⟨g, j, none⟩ v k e).trans ho⟩
  refine ⟨F, q1.keep hk (fun k hkF q => q4 k hkF (by rw [List.mem_singleton.1 q]; exact hg)), fun k hk => by rw [hs]; exact q2 k hk, ?_, q4, fun k q => by rw [hs]; exact q5 k q⟩
  exact ⟨q3.os, q3.tape, q3.output, by rw [hs]; exact q3.size, fun k hk => (Below.heap_setCell W ⟨g, j, none⟩ v k (by show k ≠ g; omega)).trans (q3.block k hk)⟩
/-- What a step leaves of the law's own. -/
theorem StepF.msk {F : List Nat} {s' : Vm} (h : StepF w.heap.size W p s' F W') (hF : FIn w.heap.size F W) (hb : Below w.heap.size w W) (h4 : ∀ k ∈ F, ¬ B k) (h5 : ∀ k, B k → k < W.heap.size) : MSk w W' p s' B ∧ ∀ k, B k → W'.heap[k]? = W.heap[k]? := by
  obtain ⟨F', q1, q2, q3, q4⟩ := h
  refine ⟨⟨F', q1, q2, hb.trans (q3.below hb.size fun k o hk => .inl fun q => by have := (hF k q).1; omega), fun k hk q => ?_, fun k q => Nat.lt_of_lt_of_le (h5 k q) q3.size⟩, fun k q => ?_⟩
  · rcases q4 k hk with h | h
    · exact h4 k h q
    · have := h5 k q
      omega
  · have hlt := h5 k q
    rw [q3.block k _ (Array.getElem?_eq_getElem hlt) (.inl fun h => h4 k h q), Array.getElem?_eq_getElem hlt]
theorem k_Run (h : MSk w W p s B) (R : VmR s) (T : Tabs w) (hsl : s.said.length ≤ 4611686018427387904) (k : Int) : Calls Tryd.prog 17 #[.pointer (some ⟨p, 0, none⟩), .int .i64 k] W fun e w' => e = .returned (.tuple #[ddV (runV s k).2.1, .int .i64 (runV s k).2.2]) ∧ MSk w w' p (runV s k).1 B ∧ ∀ k, B k → w'.heap[k]? = W.heap[k]? := by
  obtain ⟨F, h1, h2, h3, h4, h5⟩ := h
  exact (p_Run h1 R (T.below h3) hsl T.size1 h3.size h2 k).mono fun e w' ⟨q1, q2⟩ => ⟨q1, q2.msk h2 h3 h4 h5⟩
theorem k_Drain (h : MSk w W p s B) (R : VmR s) (k : Int) : Calls Tryd.prog 18 #[.pointer (some ⟨p, 0, none⟩), .int .i64 k] W fun e w' => e = .returned (.tuple #[ddV (drainV s k).2.1, .int .i64 (drainV s k).2.2]) ∧ MSk w w' p (drainV s k).1 B ∧ ∀ k, B k → w'.heap[k]? = W.heap[k]? := by
  obtain ⟨F, h1, h2, h3, h4, h5⟩ := h
  exact (p_Drain h1 R h3.size h2 k).mono fun e w' ⟨q1, q2⟩ => ⟨q1, q2.msk h2 h3 h4 h5⟩
theorem k_Cores (h : MSk w W p s B) : Calls Tryd.prog 23 #[.pointer (some ⟨p, 0, none⟩)] W fun e w' => e = .returned (.int .i64 (s.cores.length : Int)) ∧ W = w' := by
  obtain ⟨F, h1, _⟩ := h
  exact p_Cores h1
theorem k_Memory (h : MSk w W p s B) (hl : s.mem.length ≤ 4096) : Calls Tryd.prog 24 #[.pointer (some ⟨p, 0, none⟩)] W fun e w' => ∃ g cap, e = .returned (.slice (some ⟨g, 0, none⟩) s.mem.length cap) ∧ intsAt w' s.mem (some ⟨g, 0, none⟩) ∧ W.heap.size ≤ g ∧ Below W.heap.size W w' := by
  obtain ⟨F, h1, _⟩ := h
  exact p_Memory h1 hl
end
/-- Stores go to memory at once. -/
def emp (s : Vm) : Prop := ∀ c ∈ s.cores, c.buf = []
def memU (m : List Int) (d : Dd) : List Int := if d.k = 3 then rset m d.a d.x else if d.k = 4 then rset m d.a d.y else m
structure AoR (s : Vm) (k : Int) : Prop where
  no : (k < 0 ∨ (s.cores.length : Int) ≤ k) → (runV s k).2.2 = 180 ∧ (drainV (runV s k).1 k).1 = s
  ok : ¬ (k < 0 ∨ (s.cores.length : Int) ≤ k) → (runV s k).2.2 = 0
  own : (runV s k).2.1.own = false
  ld : (runV s k).2.1.k = 2 ∨ (runV s k).2.1.k = 4 → (runV s k).2.1.x = rget s.mem (runV s k).2.1.a
  rg : (runV s k).2.1.k = 2 ∨ (runV s k).2.1.k = 3 ∨ (runV s k).2.1.k = 4 → 0 ≤ (runV s k).2.1.a ∧ (runV s k).2.1.a < s.mem.length
  mem : (drainV (runV s k).1 k).1.mem = memU s.mem (runV s k).2.1
  emp : emp (drainV (runV s k).1 k).1
theorem drain_none {s : Vm} {k : Nat} {u : Co} (hk : s.cores[k]? = some u) (hu : u.buf = []) : (drainV s (k : Int)).1 = s := by
  unfold drainV coreAt
  rw [if_pos (Int.natCast_nonneg k), Int.toNat_natCast, hk]
  simp only [hu]
theorem drain_one {s : Vm} {k : Nat} {u : Co} {x : Sto} (hk : s.cores[k]? = some u) (hu : u.buf = [x]) : (drainV s (k : Int)).1 = { s with cores := s.cores.set k { u with buf := [] }, mem := rset s.mem x.a x.x } := by
  unfold drainV coreAt
  rw [if_pos (Int.natCast_nonneg k), Int.toNat_natCast, hk]
  simp only [hu]
theorem emp_set {s : Vm} (h : emp s) {k : Nat} {u : Co} (hu : u.buf = []) {l : List Int} {q : List (Int × Int)} : emp ⟨s.cores.set k u, s.room, l, q⟩ := fun c hc => by
  rcases set_mem hc with rfl | hc
  · exact hu
  · exact h c hc
theorem at_once {s : Vm} (R : VmR s) (E : emp s) (k : Int) : AoR s k := by
  by_cases hk : k < 0 ∨ (s.cores.length : Int) ≤ k
  · have hn : coreAt s k = none := by
      unfold coreAt
      split
      · exact List.getElem?_eq_none (by omega)
      · rfl
    have h1 : runV s k = (s, d0, 180) := by unfold runV; rw [hn]
    have h2 : (drainV s k).1 = s := by unfold drainV; rw [hn]
    refine ⟨fun _ => ⟨by rw [h1], by rw [h1]; exact h2⟩, fun q => absurd hk q, by rw [h1]; rfl, fun q => ?_, fun q => ?_, ?_, ?_⟩
    · rw [h1] at q; exact absurd (show d0.k = 2 ∨ d0.k = 4 from q) (by decide)
    · rw [h1] at q; exact absurd (show d0.k = 2 ∨ d0.k = 3 ∨ d0.k = 4 from q) (by decide)
    · rw [h1]; simp only [h2]; rfl
    · rw [h1]; simp only [h2]; exact E
  · obtain ⟨n, rfl⟩ : ∃ n : Nat, k = (n : Int) := ⟨k.toNat, by omega⟩
    have hn : n < s.cores.length := by omega
    have hc : s.cores[n]? = some s.cores[n] := List.getElem?_eq_getElem hn
    generalize s.cores[n] = c at hc
    have hb := E c (List.mem_of_getElem? hc)
    have hr := R.cores c (List.mem_of_getElem? hc)
    have ht := right_told hr.right.1
    have hca : coreAt s (n : Int) = some c := by unfold coreAt; rw [if_pos (Int.natCast_nonneg n), Int.toNat_natCast, hc]
    by_cases hh : c.hal = true
    · have h1 : runV s (n : Int) = (s, d0, 0) := by unfold runV; rw [hca]; simp only [hh, if_true]
      have h2 := drain_none hc hb
      refine ⟨fun q => absurd q hk, fun _ => by rw [h1], by rw [h1]; rfl, fun q => ?_, fun q => ?_, ?_, ?_⟩
      · rw [h1] at q; exact absurd (show d0.k = 2 ∨ d0.k = 4 from q) (by decide)
      · rw [h1] at q; exact absurd (show d0.k = 2 ∨ d0.k = 3 ∨ d0.k = 4 from q) (by decide)
      · rw [h1]; simp only [h2]; rfl
      · rw [h1]; simp only [h2]; exact E
    · have hw : ¬ c.waits s.room = true := by
        unfold Co.waits
        rw [hb]
        have := R.room.1
        cases drainB c.next.k <;> simp <;> omega
      have h1 : runV s (n : Int) = ((goI s n c).1, (goI s n c).2, 0) := by unfold runV; rw [hca]; simp only [if_neg hh, if_neg hw, Int.toNat_natCast]
      have put : ∀ (u : Co) (l : List Int) (q : List (Int × Int)), u.buf = [] → (drainV ⟨s.cores.set n u, s.room, l, q⟩ (n : Int)).1 = ⟨s.cores.set n u, s.room, l, q⟩ := fun u l q hu => drain_none (s := ⟨s.cores.set n u, s.room, l, q⟩) (by simp [hn]) hu
      have done : ∀ (u : Co) (l : List Int) (q : List (Int × Int)) (d : Dd), goI s n c = (⟨s.cores.set n u, s.room, l, q⟩, d) → u.buf = [] → d.own = false → (d.k = 2 ∨ d.k = 4 → d.x = rget s.mem d.a) → (d.k = 2 ∨ d.k = 3 ∨ d.k = 4 → 0 ≤ d.a ∧ d.a < s.mem.length) → l = memU s.mem d → AoR s (n : Int) := fun u l q d hg hu h3 h4 h5 h6 => by
        refine ⟨fun q => absurd q hk, fun _ => by rw [h1], ?_, ?_, ?_, ?_, ?_⟩
        · rw [h1, hg]; exact h3
        · rw [h1, hg]; exact h4
        · rw [h1, hg]; exact h5
        · rw [h1, hg]; simp only [put u l q hu]; exact h6
        · rw [h1, hg]; simp only [put u l q hu]; exact emp_set E hu
      have no2 : ∀ {d : Dd}, (d.k == 2) = false → (d.k == 4) = false → (d.k = 2 ∨ d.k = 4 → d.x = rget s.mem d.a) := fun h2 h4 q => by
        rcases q with q | q
        · rw [q] at h2; exact absurd h2 (by decide)
        · rw [q] at h4; exact absurd h4 (by decide)
      have no3 : ∀ {d : Dd}, (d.k == 2) = false → (d.k == 3) = false → (d.k == 4) = false → (d.k = 2 ∨ d.k = 3 ∨ d.k = 4 → 0 ≤ d.a ∧ d.a < s.mem.length) := fun h2 h3 h4 q => by
        rcases q with q | q | q
        · rw [q] at h2; exact absurd h2 (by decide)
        · rw [q] at h3; exact absurd h3 (by decide)
        · rw [q] at h4; exact absurd h4 (by decide)
      by_cases e1 : c.next.k = 1
      · exact done { c with pc := c.pc + 1, regs := rset c.regs c.next.d c.next.wd } s.mem s.said ⟨1, n, c.pc, 0, 0, 0, false⟩ (by unfold goI; simp only [e1, if_true]) hb rfl (no2 rfl rfl) (no3 rfl rfl rfl) rfl
      by_cases e2 : c.next.k = 2
      · exact done { c with pc := c.pc + 1, regs := rset c.regs c.next.d (opX c.next.o (rget c.regs c.next.a) (rget c.regs c.next.b)) } s.mem s.said ⟨1, n, c.pc, 0, 0, 0, false⟩ (by unfold goI; simp only [e2, Int.reduceEq, if_true, if_false]) hb rfl (no2 rfl rfl) (no3 rfl rfl rfl) rfl
      by_cases e3 : c.next.k = 3
      · have hx : (newS c.buf c.next.ad).getD (rget s.mem c.next.ad) = rget s.mem c.next.ad ∧ (newS c.buf c.next.ad).isSome = false := by rw [hb]; exact ⟨rfl, rfl⟩
        exact done { c with pc := c.pc + 1, regs := rset c.regs c.next.d (rget s.mem c.next.ad) } s.mem s.said ⟨2, n, c.pc, c.next.ad, rget s.mem c.next.ad, 0, false⟩ (by unfold goI; simp only [e3, Int.reduceEq, if_true, if_false, hx.1, hx.2]) hb rfl (fun _ => rfl) (fun _ => ht.ad (.inl e3)) rfl
      by_cases e4 : c.next.k = 4
      · have hg : goI s n c = (⟨s.cores.set n { c with pc := c.pc + 1, buf := [⟨c.pc, c.next.ad, rget c.regs c.next.a⟩] }, s.room, s.mem, s.said⟩, ⟨3, n, c.pc, c.next.ad, rget c.regs c.next.a, 0, false⟩) := by
          unfold goI; simp only [e4, Int.reduceEq, if_true, if_false, hb, List.nil_append]
        have hd := drain_one (s := ⟨s.cores.set n { c with pc := c.pc + 1, buf := [⟨c.pc, c.next.ad, rget c.regs c.next.a⟩] }, s.room, s.mem, s.said⟩) (k := n) (u := { c with pc := c.pc + 1, buf := [⟨c.pc, c.next.ad, rget c.regs c.next.a⟩] }) (by simp [hn]) rfl
        refine ⟨fun q => absurd q hk, fun _ => by rw [h1], ?_, ?_, ?_, ?_, ?_⟩
        · rw [h1, hg]
        · rw [h1, hg]; exact no2 rfl rfl
        · rw [h1, hg]; exact fun _ => ht.ad (.inr (.inl e4))
        · rw [h1, hg]; simp only [hd]; rfl
        · rw [h1, hg]; simp only [hd, List.set_set]; exact emp_set E rfl
      by_cases e5 : c.next.k = 5
      · exact done { c with pc := c.pc + 1, regs := rset c.regs c.next.d (rget s.mem c.next.ad) } (rset s.mem c.next.ad (rget c.regs c.next.d)) s.said ⟨4, n, c.pc, c.next.ad, rget s.mem c.next.ad, rget c.regs c.next.d, false⟩ (by unfold goI; simp only [e5, Int.reduceEq, if_true, if_false]) hb rfl (fun _ => rfl) (fun _ => ht.ad (.inr (.inr e5))) rfl
      by_cases e6 : c.next.k = 6
      · exact done { c with pc := c.pc + 1 } s.mem s.said ⟨5, n, c.pc, 0, 0, 0, false⟩ (by unfold goI; simp only [e6, Int.reduceEq, if_true, if_false]) hb rfl (no2 rfl rfl) (no3 rfl rfl rfl) rfl
      by_cases e7 : c.next.k = 7
      · exact done { c with pc := c.pc + 1 } s.mem (s.said ++ [((n : Int), rget c.regs c.next.a)]) ⟨6, n, c.pc, 0, rget c.regs c.next.a, 0, false⟩ (by unfold goI; simp only [e7, Int.reduceEq, if_true, if_false]) hb rfl (no2 rfl rfl) (no3 rfl rfl rfl) rfl
      by_cases e8 : c.next.k = 8
      · exact done { c with pc := c.next.tt } s.mem s.said ⟨1, n, c.pc, 0, 0, 0, false⟩ (by unfold goI; simp only [e8, Int.reduceEq, if_true, if_false]) hb rfl (no2 rfl rfl) (no3 rfl rfl rfl) rfl
      by_cases e9 : c.next.k = 9
      · exact done (if rget c.regs c.next.a = 0 then { c with pc := c.next.tt } else { c with pc := c.pc + 1 }) s.mem s.said ⟨1, n, c.pc, 0, 0, 0, false⟩ (by unfold goI; simp only [e9, Int.reduceEq, if_true, if_false]) (by split <;> exact hb) rfl (no2 rfl rfl) (no3 rfl rfl rfl) rfl
      · exact done { c with hal := true } s.mem s.said ⟨7, n, c.pc, 0, 0, 0, false⟩ (by unfold goI; simp only [e1, e2, e3, e4, e5, e6, e7, e8, e9, if_false]) hb rfl (no2 rfl rfl) (no3 rfl rfl rfl) rfl
theorem emp_new (o : Ob) : emp (newV o) := fun c hc => by
  obtain ⟨d, _, rfl⟩ := List.mem_map.1 hc
  rfl
end Go.Proofs.YtmpljhfinmfnbaaDoor
namespace Go.Proofs.YtmpljhfinmfnbaaDoor
open Go.RowKit
set_option linter.unusedVariables false
set_option maxRecDepth 100000
theorem run_append_nilc {P : Program} {w : World} (base : Nat) (t ty e : TypeId) (i : TypeInfo) (size : Nat) (c : Nat) (ht : P.underlying t = some (.slice e)) (hi : P.info? e = some i)
    (v : Value) (n : Nat) (xs : List Value) (hown : w.ownsRow base e size v n xs) :
    (Builtin.append_ #[t, t] ty #[v, .slice none 0 c]).run P w = .ok v w := by
  rcases hown.2 with ⟨rfl, rfl⟩ | ⟨g, cap, cur, rfl, _, _, hnc, _⟩
  · simp [Builtin.append_, run_underlying ht, sizeOf, typeInfo, hi, Builtin.lenOf, Builtin.firstCells]
  · simp [Builtin.append_, run_underlying ht, sizeOf, typeInfo, hi, Builtin.lenOf, Builtin.firstCells, hnc, storeCells]
section
variable {P : Program} {w : World}
/-- append(v, l...), l nil or not. -/
theorem wp_append_list {o : Oper} {a : Act} {K : Act → World → Prop} {Q : Exit → Act → World → Prop} (s x : Operand) (t : TypeId)
    (ho : o.op = .call { callee := .builtin .append, args := #[s, x], argTypes := #[t, t] })
    (base : Nat) (e : TypeId) (i : TypeInfo) (z : Value) (size bytes : Nat) (ht : P.underlying t = some (.slice e)) (hi : P.info? e = some i) (hz : i.zero = some z)
    (hsize : i.size = size) (hby : i.bytes = bytes) (hzs : z.cells.size = size) (hsz : 0 < size)
    (v : Value) (n : Nat) (xs : List Value) (hs : a.eval s = v) (hown : w.ownsRow base e size v n xs)
    (ad : Option Addr) (m c : Nat) (news : List Value) (hx : a.eval x = .slice ad m c) (hl : news.length = m * size) (hnews : (ad = none ∧ m = 0) ∨ ∃ d, ad = some d ∧ ∀ j u, news[j]? = some u → w.cell? (d.add j) = some u) (h1 : ∀ u ∈ news, u.oneCell' = true)
    (h63 : n + m ≤ maxLen) (hbytes : (n + m) * bytes ≤ 140737488355328) (hbase : base ≤ w.heap.size)
    (h : ∀ v' w', w'.ownsRow base e size v' (n + m) (xs ++ news) → w.grownBy w' v.ownBlock → K (a.put o.dst v') w') : o.wp P a w K Q := by
  rcases hnews with ⟨rfl, rfl⟩ | ⟨d, rfl, hd⟩
  · have hn0 : news = [] := List.eq_nil_of_length_eq_zero (by rw [hl, Nat.zero_mul])
    subst hn0
    have hr := run_append_nilc (P := P) (w := w) base t o.type e i size c ht hi v n xs hown
    unfold Oper.wp execOp
    simp only [ho, resolve, invoke, builtin, Sem.run_bind, Sem.run_pure, Result.andThen_ok, List.map_toArray, List.map_cons, List.map_nil, hs, hx, hr]
    exact h v w (by rw [Nat.add_zero, List.append_nil]; exact hown) ⟨rfl, rfl, rfl, Nat.le_refl _, fun _ _ _ => rfl⟩
  · exact wp_append_own w s x t ho base e i z size bytes ht hi hz hsize hby hzs hsz v n xs hs hown d m c news hx hl hd h1 h63 hbytes hbase fun v' w' h2 h3 _ => h v' w' h2 h3
theorem wpList_append_list {ops : Array Oper} {rest : List Oper} {o : Oper} {a : Act} {Q : Exit → Act → World → Prop} (hgd : o.guard = none) (s x : Operand) (t : TypeId)
    (ho : o.op = .call { callee := .builtin .append, args := #[s, x], argTypes := #[t, t] })
    (base : Nat) (e : TypeId) (i : TypeInfo) (z : Value) (size bytes : Nat) (ht : P.underlying t = some (.slice e)) (hi : P.info? e = some i) (hz : i.zero = some z)
    (hsize : i.size = size) (hby : i.bytes = bytes) (hzs : z.cells.size = size) (hsz : 0 < size)
    (v : Value) (n : Nat) (xs : List Value) (hs : a.eval s = v) (hown : w.ownsRow base e size v n xs)
    (ad : Option Addr) (m c : Nat) (news : List Value) (hx : a.eval x = .slice ad m c) (hl : news.length = m * size) (hnews : (ad = none ∧ m = 0) ∨ ∃ d, ad = some d ∧ ∀ j u, news[j]? = some u → w.cell? (d.add j) = some u) (h1 : ∀ u ∈ news, u.oneCell' = true)
    (h63 : n + m ≤ maxLen) (hbytes : (n + m) * bytes ≤ 140737488355328) (hbase : base ≤ w.heap.size)
    (h : ∀ v' w', w'.ownsRow base e size v' (n + m) (xs ++ news) → w.grownBy w' v.ownBlock → wpList P ops Q rest (a.put o.dst v') w') : wpList P ops Q (o :: rest) a w :=
  wpList_plain hgd fun _ hK => wp_append_list s x t ho base e i z size bytes ht hi hz hsize hby hzs hsz v n xs hs hown ad m c news hx hl hnews h1 h63 hbytes hbase fun v' w' h2 h3 => hK _ _ (h v' w' h2 h3)
end
theorem ints_news {W : World} {l : List Int} {a : Option Addr} (h : intsAt W l a) : (a = none ∧ l.length = 0) ∨ ∃ d, a = some d ∧ ∀ j u, (l.map fun x => Value.int .i64 x)[j]? = some u → W.cell? (d.add j) = some u := by
  cases a with
  | none =>
    rcases h with rfl | ⟨g, q, e, _⟩
    · exact .inl ⟨rfl, rfl⟩
    · cases e
  | some d =>
    refine .inr ⟨d, rfl, fun j u hj => ?_⟩
    rcases h with rfl | ⟨g, q, e, h⟩
    · simp at hj
    · injection e with e
      subst e
      rw [List.getElem?_map] at hj
      obtain ⟨x, hx, rfl⟩ := Option.map_eq_some_iff.1 hj
      rw [addr_addV]
      exact h j x hx
theorem ints_one (l : List Int) : ∀ u ∈ l.map (fun x => Value.int .i64 x), u.oneCell' = true := by
  intro u hu
  obtain ⟨x, _, rfl⟩ := List.mem_map.1 hu
  rfl
/-- Words of a law's own. -/
def intF (l : List Int) : List Value := l.map fun x => .int .i64 x
theorem row_word {W : World} {B : Nat} {v : Value} {l : List Int} {n : Nat} (h : W.ownsRow B 2 1 v n (intF l)) : n = l.length := by
  have := h.1
  simp [intF] at this
  omega
theorem row_intsW {W : World} {B : Nat} {v : Value} {l : List Int} (h : W.ownsRow B 2 1 v l.length (intF l)) : ∃ a c, v = .slice a l.length c ∧ intsAt W l a := by
  rcases h.2 with ⟨hv, h0⟩ | ⟨g, cap, cur, hv, h1, h2, h3, h4, h5, h6⟩
  · exact ⟨none, 0, by rw [hv, h0], .inl (List.eq_nil_of_length_eq_zero h0)⟩
  · refine ⟨_, _, hv, .inr ⟨g, 0, rfl, fun j x hj => ?_⟩⟩
    have hu : (intF l)[j]? = some (.int .i64 x) := by rw [intF, List.getElem?_map, hj]; rfl
    rw [← h6, List.getElem?_take] at hu
    rw [Nat.zero_add, cell_of_row _ _ _ _ _ _ h2]
    split at hu
    · rw [Array.getElem?_toList] at hu
      exact hu
    · cases hu
/-- Where a word of a law's own stands. -/
theorem row_wordAt {W : World} {B : Nat} {v : Value} {l : List Int} (h : W.ownsRow B 2 1 v l.length (intF l)) {j : Nat} (hj : j < l.length) : ∃ g c cur, v = .slice (some ⟨g, 0, none⟩) l.length c ∧ B ≤ g ∧ Own W g 2 cur ∧ W.cell? ⟨g, j, none⟩ = some (.int .i64 (rget l (j : Int))) ∧ W.frozen? ⟨g, j, none⟩ = false := by
  rcases h.2 with ⟨hv, h0⟩ | ⟨g, cap, cur, hv, h1, h2, h3, h4, h5, h6⟩
  · omega
  · refine ⟨g, cap, cur, hv, h1, h2, ?_, own_frozen h2 j⟩
    have hu : (intF l)[j]? = some (.int .i64 (rget l (j : Int))) := by
      rw [intF, List.getElem?_map, List.getElem?_eq_getElem hj, rget, Int.toNat_natCast, List.getD_eq_getElem?_getD, List.getElem?_eq_getElem hj]
      rfl
    rw [← h6, List.getElem?_take] at hu
    rw [cell_of_row _ _ _ _ _ _ h2]
    split at hu
    · rw [Array.getElem?_toList] at hu
      exact hu
    · cases hu
theorem row_wordSet {W : World} {B : Nat} {l : List Int} {n : Nat} {g c : Nat} (h : W.ownsRow B 2 1 (.slice (some ⟨g, 0, none⟩) n c) l.length (intF l)) (j : Nat) (x : Int) : (W.setCell ⟨g, j, none⟩ (.int .i64 x)).ownsRow B 2 1 (.slice (some ⟨g, 0, none⟩) n c) (rset l (j : Int) x).length (intF (rset l (j : Int) x)) := by
  obtain ⟨q1, q2⟩ := h
  refine ⟨by simp [intF], ?_⟩
  rcases q2 with ⟨hv, h0⟩ | ⟨g2, cap, cur, hv, h1, h2, h3, h4, h5, h6⟩
  · cases hv
  · injection hv with e1 e2 e3
    injection e1 with e1
    injection e1 with e1
    subst e1 e3
    refine .inr ⟨g, c, _, by rw [rset_len, e2], h1, own_setin h2 j _, by rw [rset_len]; exact h3, h4, by rw [Array.size_setIfInBounds]; exact h5, ?_⟩
    rw [rset_len, Array.toList_setIfInBounds, List.take_set, h6, intF, intF, rset, Int.toNat_natCast, List.map_set]
end Go.Proofs.YtmpljhfinmfnbaaDoor

/- The proof, part 31: texts that belong together, in one. -/
import Derived.Test.YtikaflpiephaiaaGreatDoorRBD
set_option maxRecDepth 100000
set_option maxHeartbeats 20000000
namespace Go.Proofs.YtikaflpiephaiaaGreatDoor
open Go.RowKit
set_option linter.unusedVariables false
theorem ret_i64 {a b : Int} (h : a = b) : Ending.returned (.int .i64 a) = .returned (.int .i64 b) := by rw [h]
section
variable {k : Int} {nm ot : ByteArray} {ea ba la : Option Addr} {n3 ec n4 bc n5 lc : Nat} {ps : Int} (w : World)
def BlkTwo (w : World) (v u : Value) (e : Ending) (w' : World) : Prop := ∃ g, w.heap.size ≤ g ∧ e = .returned (.slice (some ⟨g, 0, none⟩) 2 2) ∧ w'.cell? ⟨g, 0, none⟩ = some v ∧ w'.cell? ⟨g, 1, none⟩ = some u ∧ Below w.heap.size w w'
def BlkOne (w : World) (v : Value) (e : Ending) (w' : World) : Prop := ∃ g, w.heap.size ≤ g ∧ e = .returned (.slice (some ⟨g, 0, none⟩) 1 1) ∧ w'.cell? ⟨g, 0, none⟩ = some v ∧ Below w.heap.size w w'
theorem blkTwo_mk (o : Obj) (T : TypeId) (v u : Value) : BlkTwo w v u (.returned (.slice (some ⟨w.heap.size + 1, 0, none⟩) 2 2)) ((w.alloc o).alloc (.cells #[v, u] T)) := by
 have h := Own.new (w.alloc o) T #[v, u]
 rw [World.size_alloc] at h
 exact ⟨_, by omega, rfl, by rw [cell_of_row _ _ 0 _ _ _ h]; rfl, by rw [cell_of_row _ _ 1 _ _ _ h]; rfl, ((Below.refl _ w).alloc (Nat.le_refl _) _).alloc (by rw [World.size_alloc]; omega) _⟩
theorem blkOne_mk (o : Obj) (T : TypeId) (v : Value) : BlkOne w v (.returned (.slice (some ⟨w.heap.size + 1, 0, none⟩) 1 1)) ((w.alloc o).alloc (.cells #[v] T)) := by
 have h := Own.new (w.alloc o) T #[v]
 rw [World.size_alloc] at h
 exact ⟨_, by omega, rfl, by rw [cell_of_row _ _ 0 _ _ _ h]; rfl, ((Below.refl _ w).alloc (Nat.le_refl _) _).alloc (by rw [World.size_alloc]; omega) _⟩
theorem blocks_two (hk : k = 3 ∨ k = 4 ∨ k = 5) (h5 : 0 < n5) : Calls Tryz.prog 81 #[.agg #[.int .u8 k, .string nm, .string ot, .slice ea n3 ec, .slice ba n4 bc, .slice la n5 lc, .int .i64 ps]] w (BlkTwo w (.slice ba n4 bc) (.slice la n5 lc)) := by
 rcases hk with rfl | rfl | rfl
 all_goals
  go_enter Tryz.func81, Tryz.ntmps81
  go_wp2_with fail
  go_ret
  exact blkTwo_mk _ _ _ _ _
theorem blocks_one (hk : k = 3 ∨ k = 4 ∨ k = 5) : Calls Tryz.prog 81 #[.agg #[.int .u8 k, .string nm, .string ot, .slice ea n3 ec, .slice ba n4 bc, .slice la 0 lc, .int .i64 ps]] w (BlkOne w (.slice ba n4 bc)) := by
 rcases hk with rfl | rfl | rfl
 all_goals
  go_enter Tryz.func81, Tryz.ntmps81
  go_wp2_with fail
  go_ret
  exact blkOne_mk _ _ _ _
theorem blocks_none (q3 : (k == 3) = false) (q4 : (k == 4) = false) (q5 : (k == 5) = false) : Calls Tryz.prog 81 #[.agg #[.int .u8 k, .string nm, .string ot, .slice ea n3 ec, .slice ba n4 bc, .slice la n5 lc, .int .i64 ps]] w fun e w' => e = .returned (.slice none 0 0) ∧ Below w.heap.size w w' := by
 go_enter Tryz.func81, Tryz.ntmps81
 go_wp2_with fail
 go_ret
 exact ⟨rfl, (Below.refl _ w).alloc (Nat.le_refl _) _⟩
end
def DPP (l : List St) : Prop := okSs l → l.length ≤ 9223372036854775807 → dpSs l ≤ 1073741824 → ∀ (a : Option Addr) (c : Nat) (w : World), stsAt (fun _ => True) w l a →
 Calls Tryz.prog 46 #[.slice a l.length c] w fun e w' => e = .returned (.int .i64 (dpSs l)) ∧ Below w.heap.size w w'
theorem p_deep_one {l : List St} (HI : ∀ x ∈ l, DPP x.body ∧ DPP x.els) : DPP l := by
 intro HO hl hd a c w h1
 have HI := Lib.hid HI
 have HO := Lib.hid HO
 have E1 := Lib.hid h1
 have HD := Lib.hid hd
 obtain ⟨n, hn⟩ : ∃ n, n = l.length := ⟨_, rfl⟩
 rw [← hn] at hl ⊢
 have HN := Lib.hid hn
 obtain ⟨Z, hZ⟩ : ∃ Z, Z = dpSs l := ⟨_, rfl⟩
 rw [← hZ]
 have HZ := Lib.hid hZ
 clear h1 hn hZ hd
 go_enter Tryz.func46, Tryz.ntmps46
 go_wp2_with fail
 go_loopg [3, 10] (n + 1) (fun m' v u W => ∃ (i : Nat) (A : Int), u = .int .i64 (i : Int) ∧ v = .int .i64 A ∧ i ≤ n ∧ m' = n - i + 1 ∧ A = dpSs (l.take i) - 1 ∧ Below w.heap.size w W)
 case atStart => exact ⟨0, _, rfl, rfl, Nat.zero_le _, by omega, by simp [dpSs], Below.refl _ w⟩
 case round =>
  obtain ⟨i, A, rfl, rfl, hi, hm, hA, hb0⟩ := hrel
  have HM := Lib.hid hm
  have HA := Lib.hid hA
  have HB := Lib.hid hb0
  clear hm hb0 hA
  by_cases hin : i < n
  · have il : i < l.length := by have := HN.out; omega
    have g1 : l[i]? = some l[i] := List.getElem?_eq_getElem il
    have hmem : l[i] ∈ l := List.getElem_mem il
    have HT := Lib.hid (take_one il)
    generalize l[i] = x at g1 hmem HT
    have hok := okSs_mem HO.out x hmem
    have hdx := dpS_mem hmem
    have HX := Lib.hid (HI.out x hmem)
    rcases E1.out with e | ⟨g, q, rfl, _, e1⟩
    · cases l with
      | nil => simp at il
      | cons => cases e
    have x1 := stsIn_get i x e1 g1
    obtain ⟨k, nm, ot, es, bo, el, ps⟩ := x
    obtain ⟨a0, a1, a2, ⟨ea, ec, a3, w3⟩, ⟨ba, bc, a4, w4⟩, ⟨la, lc, a5, w5⟩, a6⟩ := x1
    obtain ⟨_, ⟨o3, o4⟩, o5, o6⟩ := hok
    have lg := lt_of_at a0
    simp only at lg
    have hin' : (i : Int) < (n : Int) := by omega
    have BX := HB.out
    have a0 : wr.cell? ⟨g, q + i * 7, none⟩ = some (.int .u8 k) := (BX.cell (p := ⟨g, q + i * 7, none⟩) lg).trans a0
    have a1 : wr.cell? ⟨g, q + i * 7 + 1, none⟩ = some (.string nm) := (BX.cell (p := ⟨g, q + i * 7 + 1, none⟩) lg).trans a1
    have a2 : wr.cell? ⟨g, q + i * 7 + 2, none⟩ = some (.string ot) := (BX.cell (p := ⟨g, q + i * 7 + 2, none⟩) lg).trans a2
    have a3 : wr.cell? ⟨g, q + i * 7 + 3, none⟩ = some (.slice ea es.length ec) := (BX.cell (p := ⟨g, q + i * 7 + 3, none⟩) lg).trans a3
    have a4 : wr.cell? ⟨g, q + i * 7 + 4, none⟩ = some (.slice ba bo.length bc) := (BX.cell (p := ⟨g, q + i * 7 + 4, none⟩) lg).trans a4
    have a5 : wr.cell? ⟨g, q + i * 7 + 5, none⟩ = some (.slice la el.length lc) := (BX.cell (p := ⟨g, q + i * 7 + 5, none⟩) lg).trans a5
    have a6 : wr.cell? ⟨g, q + i * 7 + 6, none⟩ = some (.int .i64 ps) := (BX.cell (p := ⟨g, q + i * 7 + 6, none⟩) lg).trans a6
    have HTT : Hid (dpSs (l.take (i + 1)) = max (A + 1) (1 + dpS (.mk k nm ot es bo el ps))) := by
     rw [Hid, HT.out, dpSs_snoc, HA.out]; omega
    have HDX := Lib.hid hdx
    clear hdx
    have HAB : Hid (0 ≤ A ∧ A ≤ 1073741823) := by
     have h1 := dpSs_pos (l.take i); have h2 := dpSs_take l i; have := HD.out; rw [Hid, HA.out]; omega
    have hA1 : 0 ≤ A := HAB.out.1
    have hA2 : A ≤ 1073741823 := HAB.out.2
    by_cases hk : k = 3 ∨ k = 4 ∨ k = 5
    · have HK := Lib.hid hk
      have hdy : 1 + dpSs bo ≤ 1073741824 ∧ (el.isEmpty = false → 1 + dpSs el ≤ 1073741824) := by
       have h1 := HDX.out; have h2 := HD.out; rw [dpS_yes hk] at h1
       exact ⟨by omega, fun h => by rw [h] at h1; simp only [Bool.false_eq_true, if_false] at h1; omega⟩
      have hb1 := dpSs_pos bo
      have hHC1 : ∀ W, Below w.heap.size w W → Calls Tryz.prog 46 #[.slice ba bo.length bc] W fun e' w' => e' = .returned (.int .i64 (dpSs bo)) ∧ Below W.heap.size W w' := fun W hW => HX.out.1 o4 o3 (show dpSs bo ≤ 1073741824 by have := hdy.1; omega) ba bc W (stsAt_below w4 hW)
      have HC1 := Lib.hid hHC1
      replace HTT : Hid (dpSs (l.take (i + 1)) = max (A + 1) (1 + max (dpSs bo) (if el.isEmpty then 0 else dpSs el))) := by rw [Hid, HTT.out, dpS_yes hk]
      have hD1 : 1 + dpSs bo ≤ 1073741824 := hdy.1
      clear hHC1
      by_cases hel : el = []
      · subst hel
        replace HTT : Hid (max A (dpSs bo) = dpSs (l.take (i + 1)) - 1) := by rw [Hid, HTT.out]; simp only [List.isEmpty_nil, if_true]; omega
        clear hdy hk g1 e1 il w3 w4 w5 o3 o4 o5 o6 HX hmem BX
        generalize dpSs bo = D1 at *
        generalize es.length = n3 at *
        generalize bo.length = n4 at *
        simp only [List.length_nil] at *
        have O1 := Own.new wr 69 #[.int .u8 k, .string nm, .string ot, .slice ea n3 ec, .slice ba n4 bc, .slice la 0 lc, .int .i64 ps]
        replace HB := Lib.hid (HB.out.alloc HB.out.size (.cells #[.int .u8 k, .string nm, .string ot, .slice ea n3 ec, .slice ba n4 bc, .slice la 0 lc, .int .i64 ps] 69))
        go_wp2_with (refine ld rowSt rfl rfl rfl O1 rfl ?_)
        go_at_call 81
        refine (blocks_one _ HK.out).mono ?_
        rintro e w3 ⟨bg, hbg, rfl, hg0, hb3⟩
        have hgl := lt_of_at hg0
        simp only at hgl
        replace HB := Lib.hid (HB.out.trans (hb3.mono HB.out.size))
        clear hb3 O1
        go_wp2_with fail
        go_loopg [3, 17] 2 (fun m' v u W => ∃ j : Nat, j ≤ 1 ∧ m' = 2 - j ∧ u = .int .i64 (j : Int) ∧ v = .int .i64 (match j with | 0 => A | _ => max A D1) ∧ Below w.heap.size w W ∧ W.cell? ⟨bg, 0, none⟩ = some (.slice ba n4 bc) ∧ bg < W.heap.size)
        case atStart => exact ⟨0, by omega, by omega, rfl, rfl, HB.out, hg0, hgl⟩
        case round =>
         clear HB hg0 hgl
         obtain ⟨j, hj, hm2, rfl, hv, hb0, hg0, hgl⟩ := hrel
         have HB := Lib.hid hb0
         clear hb0
         obtain rfl | rfl : j = 0 ∨ j = 1 := by omega
         · obtain rfl := hv
           go_wp2_with fail
           go_at_call 46
           refine (HC1.out _ HB.out).mono ?_
           rintro e w4 ⟨rfl, hb3⟩
           have HB2 := Lib.hid (HB.out.trans (hb3.mono HB.out.size))
           have HG0 := Lib.hid ((hb3.cell (p := ⟨bg, 0, none⟩) hgl).trans hg0)
           have HGL := Lib.hid (Nat.lt_of_lt_of_le hgl hb3.size)
           clear hb3 hg0
           go_wp2_with fail
           go_roundg 1
           case measure => omega
           case rel => exact ⟨1, by omega, by omega, rfl, rfl, HB2.out, HG0.out, HGL.out⟩
         · obtain rfl := hv
           go_wp2_with fail
           go_roundg (n - (i + 1) + 1)
           case measure => have := HM.out; omega
           case rel => exact ⟨i + 1, _, rfl, rfl, by omega, by omega, HTT.out, HB.out⟩
      · have hel' : el.isEmpty = false := by cases el with | nil => exact absurd rfl hel | cons => rfl
        have hHC2 : ∀ W, Below w.heap.size w W → Calls Tryz.prog 46 #[.slice la el.length lc] W fun e' w' => e' = .returned (.int .i64 (dpSs el)) ∧ Below W.heap.size W w' := fun W hW => HX.out.2 o6 o5 (show dpSs el ≤ 1073741824 by have := hdy.2 hel'; omega) la lc W (stsAt_below w5 hW)
        have HC2 := Lib.hid hHC2
        have hD2 : 1 + dpSs el ≤ 1073741824 := hdy.2 hel'
        have hb2 := dpSs_pos el
        replace HTT : Hid (max A (max (dpSs bo) (dpSs el)) = dpSs (l.take (i + 1)) - 1) := by rw [Hid, HTT.out, hel']; simp only [Bool.false_eq_true, if_false]; omega
        have h0 : 0 < el.length := by cases el with | nil => exact absurd rfl hel | cons => simp
        clear hdy hk hel hel' hHC2 g1 e1 il w3 w4 w5 o3 o4 o5 o6 HX hmem BX
        generalize dpSs bo = D1 at *
        generalize dpSs el = D2 at *
        generalize es.length = n3 at *
        generalize bo.length = n4 at *
        generalize el.length = n5 at *
        have O1 := Own.new wr 69 #[.int .u8 k, .string nm, .string ot, .slice ea n3 ec, .slice ba n4 bc, .slice la n5 lc, .int .i64 ps]
        replace HB := Lib.hid (HB.out.alloc HB.out.size (.cells #[.int .u8 k, .string nm, .string ot, .slice ea n3 ec, .slice ba n4 bc, .slice la n5 lc, .int .i64 ps] 69))
        go_wp2_with (refine ld rowSt rfl rfl rfl O1 rfl ?_)
        go_at_call 81
        refine (blocks_two _ HK.out h0).mono ?_
        rintro e w3 ⟨bg, hbg, rfl, hg0, hg1, hb3⟩
        have hgl := lt_of_at hg0
        simp only at hgl
        replace HB := Lib.hid (HB.out.trans (hb3.mono HB.out.size))
        clear hb3 O1
        go_wp2_with fail
        go_loopg [3, 17] 3 (fun m' v u W => ∃ j : Nat, j ≤ 2 ∧ m' = 3 - j ∧ u = .int .i64 (j : Int) ∧ v = .int .i64 (match j with | 0 => A | 1 => max A D1 | _ => max A (max D1 D2)) ∧ Below w.heap.size w W ∧ W.cell? ⟨bg, 0, none⟩ = some (.slice ba n4 bc) ∧ W.cell? ⟨bg, 1, none⟩ = some (.slice la n5 lc) ∧ bg < W.heap.size)
        case atStart => exact ⟨0, by omega, by omega, rfl, rfl, HB.out, hg0, hg1, hgl⟩
        case round =>
         clear HB hg0 hg1 hgl
         obtain ⟨j, hj, hm2, rfl, hv, hb0, hg0, hg1, hgl⟩ := hrel
         have HB := Lib.hid hb0
         clear hb0
         obtain rfl | rfl | rfl : j = 0 ∨ j = 1 ∨ j = 2 := by omega
         · obtain rfl := hv
           go_wp2_with fail
           go_at_call 46
           refine (HC1.out _ HB.out).mono ?_
           rintro e w4 ⟨rfl, hb3⟩
           have HB2 := Lib.hid (HB.out.trans (hb3.mono HB.out.size))
           have HG0 := Lib.hid ((hb3.cell (p := ⟨bg, 0, none⟩) hgl).trans hg0)
           have HG1 := Lib.hid ((hb3.cell (p := ⟨bg, 1, none⟩) hgl).trans hg1)
           have HGL := Lib.hid (Nat.lt_of_lt_of_le hgl hb3.size)
           clear hb3 hg0 hg1
           go_wp2_with fail
           go_roundg 2
           case measure => omega
           case rel => exact ⟨1, by omega, by omega, rfl, rfl, HB2.out, HG0.out, HG1.out, HGL.out⟩
         · obtain rfl := hv
           go_wp2_with fail
           go_at_call 46
           refine (HC2.out _ HB.out).mono ?_
           rintro e w4 ⟨rfl, hb3⟩
           have HB2 := Lib.hid (HB.out.trans (hb3.mono HB.out.size))
           have HG0 := Lib.hid ((hb3.cell (p := ⟨bg, 0, none⟩) hgl).trans hg0)
           have HG1 := Lib.hid ((hb3.cell (p := ⟨bg, 1, none⟩) hgl).trans hg1)
           have HGL := Lib.hid (Nat.lt_of_lt_of_le hgl hb3.size)
           clear hb3 hg0 hg1
           go_wp2_with fail
           go_roundg 1
           case measure => omega
           case rel => exact ⟨2, by omega, by omega, rfl, rfl, HB2.out, HG0.out, HG1.out, HGL.out⟩
         · obtain rfl := hv
           go_wp2_with fail
           go_roundg (n - (i + 1) + 1)
           case measure => have := HM.out; omega
           case rel => exact ⟨i + 1, _, rfl, rfl, by omega, by omega, HTT.out, HB.out⟩
    · replace HTT : Hid (A = dpSs (l.take (i + 1)) - 1) := by rw [Hid, HTT.out, dpS_no hk]; omega
      have q3 : (k == 3) = false := by simp; omega
      have q4 : (k == 4) = false := by simp; omega
      have q5 : (k == 5) = false := by simp; omega
      clear hk g1 e1 il w3 w4 w5 o3 o4 o5 o6 HX hmem BX
      generalize es.length = n3 at *
      generalize bo.length = n4 at *
      generalize el.length = n5 at *
      have O1 := Own.new wr 69 #[.int .u8 k, .string nm, .string ot, .slice ea n3 ec, .slice ba n4 bc, .slice la n5 lc, .int .i64 ps]
      replace HB := Lib.hid (HB.out.alloc HB.out.size (.cells #[.int .u8 k, .string nm, .string ot, .slice ea n3 ec, .slice ba n4 bc, .slice la n5 lc, .int .i64 ps] 69))
      go_wp2_with (refine ld rowSt rfl rfl rfl O1 rfl ?_)
      go_at_call 81
      refine (blocks_none _ q3 q4 q5).mono ?_
      rintro e w3 ⟨rfl, hb3⟩
      replace HB := Lib.hid (HB.out.trans (hb3.mono HB.out.size))
      clear hb3 O1 q3 q4 q5
      go_wp2_with fail
      go_loopg [3, 17] 1 (fun m' v u W => m' = 1 ∧ u = .int .i64 0 ∧ v = .int .i64 A ∧ Below w.heap.size w W)
      case atStart => exact ⟨rfl, rfl, rfl, HB.out⟩
      case round =>
       clear HB
       obtain ⟨_, rfl, rfl, hb0⟩ := hrel
       have HB := Lib.hid hb0
       clear hb0
       go_wp2_with fail
       go_roundg (n - (i + 1) + 1)
       case measure => have := HM.out; omega
       case rel => exact ⟨i + 1, _, rfl, rfl, by omega, by omega, HTT.out, HB.out⟩
  · have : i = n := by omega
    subst this
    have HAZ : Hid (A + 1 = Z) := by
     rw [Hid, HA.out, HZ.out, List.take_of_length_le (by have := HN.out; omega)]; omega
    have hZ2 : 1 ≤ Z ∧ Z ≤ 1073741824 := by
     have h1 := dpSs_pos l; have := HD.out; rw [HZ.out]; exact ⟨h1, this⟩
    obtain ⟨hZ3, hZ4⟩ := hZ2
    have hA0 : 0 ≤ A := by have := HAZ.out; omega
    have hA1 : A ≤ 1073741823 := by have := HAZ.out; omega
    go_wp2_with fail
    go_ret
    exact ⟨ret_i64 HAZ.out, HB.out⟩
theorem p_deep_subs : ∀ l : List St, ∀ x ∈ l, DPP x.body ∧ DPP x.els := by
 intro l
 induction l using Sts.ind with
 | h0 => intro x hx; cases hx
 | h1 k n o e b l a r hb hl hr =>
   intro x hx
   rcases List.mem_cons.1 hx with rfl | hx
   · exact ⟨p_deep_one hb, p_deep_one hl⟩
   · exact hr x hx
theorem p_deep (l : List St) : DPP l := p_deep_one (p_deep_subs l)
open Go.RowKit
set_option linter.unusedVariables false
def dpT : List Th → Int | [] => 0 | t :: r => max (dpSs t.body) (dpT r)
theorem dpT_snoc : ∀ (l : List Th) (e : Th), dpT (l ++ [e]) = max (dpT l) (dpSs e.body)
 | [], e => by have := dpSs_pos e.body; simp only [List.nil_append, dpT]; omega
 | x :: r, e => by simp only [List.cons_append, dpT, dpT_snoc r e]; omega
theorem dpT_mem : ∀ {l : List Th} {x : Th}, x ∈ l → dpSs x.body ≤ dpT l
 | y :: r, x, h => by
   rcases List.mem_cons.1 h with rfl | h
   · simp only [dpT]; omega
   · have := dpT_mem h; simp only [dpT]; omega
theorem r_Deep (x : Pg) (hok : okP x) (hd : dpT x.threads ≤ 1073741824) {v : Value} {w : World} (hv : pA w x v) : Calls Tryz.prog 19 #[v] w fun e w' => e = .returned (.int .i64 (dpT x.threads)) ∧ Below w.heap.size w w' := by
 obtain ⟨a1, c1, a2, c2, a3, c3, rfl, _, _, h3⟩ := hv
 obtain ⟨_, _, l3, hth⟩ := hok
 obtain ⟨sh, lk, th⟩ := x
 simp only at *
 have HTH := Lib.hid hth
 have E1 := Lib.hid h3
 have HD := Lib.hid hd
 clear hth h3 hd
 generalize sh.length = n1 at *
 generalize lk.length = n2 at *
 obtain ⟨n3, hn⟩ : ∃ n, n = th.length := ⟨_, rfl⟩
 rw [← hn] at l3 ⊢
 have HN := Lib.hid hn
 clear hn
 obtain ⟨Z, hZ⟩ : ∃ Z, Z = dpT th := ⟨_, rfl⟩
 rw [← hZ]
 have HZ := Lib.hid hZ
 clear hZ
 have HB : Hid (Below w.heap.size w (w.alloc (.cells #[.slice a1 n1 c1, .slice a2 n2 c2, .slice a3 n3 c3] 25))) := (Below.refl _ w).alloc (Nat.le_refl _) _
 go_enter Tryz.func19, Tryz.ntmps19
 go_wp2_with fail
 go_loopg [3, 9] (n3 + 1) (fun m' v u W => ∃ (i : Nat) (A : Int), u = .int .i64 (i : Int) ∧ v = .int .i64 A ∧ i ≤ n3 ∧ m' = n3 - i + 1 ∧ A = dpT (th.take i) ∧ Below w.heap.size w W)
 case atStart => exact ⟨0, _, rfl, rfl, Nat.zero_le _, by omega, by simp [dpT], HB.out⟩
 case round =>
  clear HB
  obtain ⟨i, A, rfl, rfl, hi, hm, hA, hb0⟩ := hrel
  have HM := Lib.hid hm
  have HA := Lib.hid hA
  have HB := Lib.hid hb0
  clear hm hb0 hA
  by_cases hin : i < n3
  · have il : i < th.length := by have := HN.out; omega
    have g1 : th[i]? = some th[i] := List.getElem?_eq_getElem il
    have hmem : th[i] ∈ th := List.getElem_mem il
    have HT := Lib.hid (take_one il)
    have hdx := dpT_mem hmem
    generalize th[i] = x at g1 hmem HT hdx
    obtain ⟨_, o2, o3⟩ := HTH.out x hmem
    rcases E1.out with e | ⟨g, q, rfl, _, e1⟩
    · cases th with
      | nil => simp at il
      | cons => cases e
    obtain ⟨a0, ⟨ta, tc, a1', _⟩, ⟨sa, sc, a2', w2⟩, a3'⟩ := thsIn_get i x e1 g1
    obtain ⟨nm, lo, bo, ps⟩ := x
    simp only at *
    have lg := lt_of_at a0
    simp only at lg
    have hin' : (i : Int) < (n3 : Int) := by omega
    have hDD : dpSs bo ≤ 1073741824 := by have := HD.out; omega
    have HC : Hid (∀ W, Below w.heap.size w W → Calls Tryz.prog 47 #[.slice sa bo.length sc] W fun e' w' => e' = .returned (.int .i64 (dpSs bo)) ∧ Below W.heap.size W w') := fun W hW => r_deep bo o3 o2 hDD sa sc W (stsAt_below w2 hW)
    have BX := HB.out
    have a0' : wr.cell? ⟨g, q + i * 4, none⟩ = some (.string nm) := (BX.cell (p := ⟨g, q + i * 4, none⟩) lg).trans a0
    have a1' : wr.cell? ⟨g, q + i * 4 + 1, none⟩ = some (.slice ta lo.length tc) := (BX.cell (p := ⟨g, q + i * 4 + 1, none⟩) lg).trans a1'
    have a2' : wr.cell? ⟨g, q + i * 4 + 2, none⟩ = some (.slice sa bo.length sc) := (BX.cell (p := ⟨g, q + i * 4 + 2, none⟩) lg).trans a2'
    have a3' : wr.cell? ⟨g, q + i * 4 + 3, none⟩ = some (.int .i64 ps) := (BX.cell (p := ⟨g, q + i * 4 + 3, none⟩) lg).trans a3'
    have HT : Hid (max A (dpSs bo) = dpT (th.take (i + 1))) := by
     rw [Hid, HT.out, dpT_snoc, HA.out]
    clear g1 e1 il w2 o2 o3 hmem BX a0 hdx hDD
    generalize dpSs bo = D1 at *
    generalize lo.length = m1 at *
    generalize bo.length = m2 at *
    have HB := Lib.hid (HB.out.alloc HB.out.size (.cells #[.string nm, .slice ta m1 tc, .slice sa m2 sc, .int .i64 ps] 64))
    go_wp2_with fail
    go_at_call 47
    refine (HC.out _ HB.out).mono ?_
    rintro e w3 ⟨rfl, hb3⟩
    have HB := Lib.hid (HB.out.trans (hb3.mono HB.out.size))
    clear hb3
    go_wp2_with fail
    go_roundg (n3 - (i + 1) + 1)
    case measure => have := HM.out; omega
    case rel => exact ⟨i + 1, _, rfl, rfl, by omega, by omega, HT.out, HB.out⟩
  · have : i = n3 := by omega
    subst this
    have HAZ : Hid (A = Z) := by
     rw [Hid, HA.out, HZ.out, List.take_of_length_le (by have := HN.out; omega)]
    obtain rfl : A = Z := HAZ.out
    clear HAZ
    go_wp2_with fail
    go_ret
    exact ⟨rfl, HB.out⟩
theorem p_Deep (x : Pg) (hok : okP x) (hd : dpT x.threads ≤ 1073741824) {v : Value} {w : World} (hv : pA w x v) : Calls Tryz.prog 18 #[v] w fun e w' => e = .returned (.int .i64 (dpT x.threads)) ∧ Below w.heap.size w w' := by
 obtain ⟨a1, c1, a2, c2, a3, c3, rfl, _, _, h3⟩ := hv
 obtain ⟨_, _, l3, hth⟩ := hok
 obtain ⟨sh, lk, th⟩ := x
 simp only at *
 have HTH := Lib.hid hth
 have E1 := Lib.hid h3
 have HD := Lib.hid hd
 clear hth h3 hd
 generalize sh.length = n1 at *
 generalize lk.length = n2 at *
 obtain ⟨n3, hn⟩ : ∃ n, n = th.length := ⟨_, rfl⟩
 rw [← hn] at l3 ⊢
 have HN := Lib.hid hn
 clear hn
 obtain ⟨Z, hZ⟩ : ∃ Z, Z = dpT th := ⟨_, rfl⟩
 rw [← hZ]
 have HZ := Lib.hid hZ
 clear hZ
 have HB : Hid (Below w.heap.size w (w.alloc (.cells #[.slice a1 n1 c1, .slice a2 n2 c2, .slice a3 n3 c3] 25))) := (Below.refl _ w).alloc (Nat.le_refl _) _
 go_enter Tryz.func18, Tryz.ntmps18
 go_wp2_with fail
 go_loopg [3, 9] (n3 + 1) (fun m' v u W => ∃ (i : Nat) (A : Int), u = .int .i64 (i : Int) ∧ v = .int .i64 A ∧ i ≤ n3 ∧ m' = n3 - i + 1 ∧ A = dpT (th.take i) ∧ Below w.heap.size w W)
 case atStart => exact ⟨0, _, rfl, rfl, Nat.zero_le _, by omega, by simp [dpT], HB.out⟩
 case round =>
  clear HB
  obtain ⟨i, A, rfl, rfl, hi, hm, hA, hb0⟩ := hrel
  have HM := Lib.hid hm
  have HA := Lib.hid hA
  have HB := Lib.hid hb0
  clear hm hb0 hA
  by_cases hin : i < n3
  · have il : i < th.length := by have := HN.out; omega
    have g1 : th[i]? = some th[i] := List.getElem?_eq_getElem il
    have hmem : th[i] ∈ th := List.getElem_mem il
    have HT := Lib.hid (take_one il)
    have hdx := dpT_mem hmem
    generalize th[i] = x at g1 hmem HT hdx
    obtain ⟨_, o2, o3⟩ := HTH.out x hmem
    rcases E1.out with e | ⟨g, q, rfl, _, e1⟩
    · cases th with
      | nil => simp at il
      | cons => cases e
    obtain ⟨a0, ⟨ta, tc, a1', _⟩, ⟨sa, sc, a2', w2⟩, a3'⟩ := thsIn_get i x e1 g1
    obtain ⟨nm, lo, bo, ps⟩ := x
    simp only at *
    have lg := lt_of_at a0
    simp only at lg
    have hin' : (i : Int) < (n3 : Int) := by omega
    have hDD : dpSs bo ≤ 1073741824 := by have := HD.out; omega
    have HC : Hid (∀ W, Below w.heap.size w W → Calls Tryz.prog 46 #[.slice sa bo.length sc] W fun e' w' => e' = .returned (.int .i64 (dpSs bo)) ∧ Below W.heap.size W w') := fun W hW => p_deep bo o3 o2 hDD sa sc W (stsAt_below w2 hW)
    have BX := HB.out
    have a0' : wr.cell? ⟨g, q + i * 4, none⟩ = some (.string nm) := (BX.cell (p := ⟨g, q + i * 4, none⟩) lg).trans a0
    have a1' : wr.cell? ⟨g, q + i * 4 + 1, none⟩ = some (.slice ta lo.length tc) := (BX.cell (p := ⟨g, q + i * 4 + 1, none⟩) lg).trans a1'
    have a2' : wr.cell? ⟨g, q + i * 4 + 2, none⟩ = some (.slice sa bo.length sc) := (BX.cell (p := ⟨g, q + i * 4 + 2, none⟩) lg).trans a2'
    have a3' : wr.cell? ⟨g, q + i * 4 + 3, none⟩ = some (.int .i64 ps) := (BX.cell (p := ⟨g, q + i * 4 + 3, none⟩) lg).trans a3'
    have HT : Hid (max A (dpSs bo) = dpT (th.take (i + 1))) := by
     rw [Hid, HT.out, dpT_snoc, HA.out]
    clear g1 e1 il w2 o2 o3 hmem BX a0 hdx hDD
    generalize dpSs bo = D1 at *
    generalize lo.length = m1 at *
    generalize bo.length = m2 at *
    have HB := Lib.hid (HB.out.alloc HB.out.size (.cells #[.string nm, .slice ta m1 tc, .slice sa m2 sc, .int .i64 ps] 64))
    go_wp2_with fail
    go_at_call 46
    refine (HC.out _ HB.out).mono ?_
    rintro e w3 ⟨rfl, hb3⟩
    have HB := Lib.hid (HB.out.trans (hb3.mono HB.out.size))
    clear hb3
    go_wp2_with fail
    go_roundg (n3 - (i + 1) + 1)
    case measure => have := HM.out; omega
    case rel => exact ⟨i + 1, _, rfl, rfl, by omega, by omega, HT.out, HB.out⟩
  · have : i = n3 := by omega
    subst this
    have HAZ : Hid (A = Z) := by
     rw [Hid, HA.out, HZ.out, List.take_of_length_le (by have := HN.out; omega)]
    obtain rfl : A = Z := HAZ.out
    clear HAZ
    go_wp2_with fail
    go_ret
    exact ⟨rfl, HB.out⟩
end Go.Proofs.YtikaflpiephaiaaGreatDoor

/- A word is put into memory. -/
import Derived.Test.YtmpljhfinmfnbaaDoorVw4
namespace Go.Proofs.YtmpljhfinmfnbaaDoor
open Go.RowKit
set_option linter.unusedVariables false
set_option maxRecDepth 100000
theorem row_setAt {W : World} {B : Nat} {T : TypeId} {size n : Nat} {v : Value} {xs : List Value} (h : W.ownsRow B T size v n xs) {g c : Nat} (hv : v = .slice (some ⟨g, 0, none⟩) n c) (j : Nat) (u : Value) : (W.setCell ⟨g, j, none⟩ u).ownsRow B T size v n (xs.set j u) := by
  obtain ⟨h1, h2⟩ := h
  refine ⟨by rw [List.length_set]; exact h1, ?_⟩
  rcases h2 with ⟨e, _⟩ | ⟨g2, cap, cur, e, hb, hg, h3, h4, h5, h6⟩
  · rw [hv] at e; cases e
  · rw [hv] at e
    injection e with e1 e2 e3
    injection e1 with e1
    injection e1 with e1
    subst e1
    refine .inr ⟨g, cap, cur.setIfInBounds j u, by rw [hv, e3], hb, heap_setCell_same W g j _ _ u hg, h3, h4, by rw [Array.size_setIfInBounds]; exact h5, ?_⟩
    rw [Array.toList_setIfInBounds, List.take_set, h6]
theorem pageRow_size (mem : List Int) (k : Nat) : (pageRow mem k).size = 32 := by simp [pageRow]
theorem pageRow_same (mem : List Int) (n k : Nat) (x : Int) (hk : k ≠ n / 32) : pageRow (rset mem n x) k = pageRow mem k := by
  unfold pageRow
  congr 1
  refine List.map_congr_left fun j hj => ?_
  have hj : j < 32 := by simpa using hj
  unfold rset
  rw [Int.toNat_natCast, List.getD_eq_getElem?_getD, List.getD_eq_getElem?_getD, List.getElem?_set_ne (by omega)]
theorem pageRow_put (mem : List Int) (n : Nat) (x : Int) (hn : n < mem.length) : pageRow (rset mem n x) (n / 32) = (pageRow mem (n / 32)).setIfInBounds (n % 32) (.int .i64 x) := by
  apply Array.ext_getElem?
  intro j
  by_cases hj : j < 32
  · rw [pageRow_get _ _ _ hj, Array.getElem?_setIfInBounds, pageRow_get _ _ _ hj, pageRow_size]
    unfold rset
    rw [Int.toNat_natCast, List.getD_eq_getElem?_getD, List.getD_eq_getElem?_getD]
    by_cases e : n % 32 = j
    · rw [if_pos e, if_pos (by omega), show 32 * (n / 32) + j = n by omega, List.getElem?_set_self hn]
      rfl
    · rw [if_neg e, List.getElem?_set_ne (by omega)]
  · rw [Array.getElem?_eq_none (by rw [pageRow_size]; omega), Array.getElem?_eq_none (by rw [Array.size_setIfInBounds, pageRow_size]; omega)]
theorem rowP : RowT 135 32 := ⟨_, Tryd.underlying135, rfl, by kernel_rfl⟩
theorem own_unlike {W : World} {a b : Nat} {t u : TypeId} {x y : Array Value} (h : Own W a t x) (k : Own W b u y) (ht : (t == u) = false) : a ≠ b := by
  intro e
  subst e
  unfold Own at h k
  rw [h] at k
  injection k with k
  injection k with _ k
  subst k
  simp at ht
set_option maxHeartbeats 8000000 in
theorem p_put {w : World} {mem : List Int} {a1 : Option Addr} {n1 c1 : Nat} {PL : List Nat} (h : PgA w mem (.slice a1 n1 c1) PL) (sz : Int) (hm : mem.length ≤ 4096) {n : Nat} (hn : n < mem.length) (x : Int) :
    Calls Tryd.prog 44 #[.agg #[.slice a1 n1 c1, .int .i64 sz], .int .i64 (n : Int), .int .i64 x] w fun e w' => e = .returned (.tuple #[]) ∧ ∃ gp g2, a1 = some ⟨gp, 0, none⟩ ∧ w.heap.size ≤ g2 ∧ Below w.heap.size (w.setCell ⟨gp, n / 32, none⟩ (.pointer (some ⟨g2, 0, none⟩))) w' ∧ PgA w' (rset mem n x) (.slice a1 n1 c1) (PL.set (n / 32) g2) := by
  obtain ⟨gp, cap, g, e, hgl, c1', _, hk⟩ := h.word hn
  injection e with e1 e2 e3
  subst e1 e2 e3
  have al := (Below.refl w.heap.size w).alloc (Nat.le_refl _) (.cells #[.slice (some ⟨gp, 0, none⟩) PL.length c1, .int .i64 sz] 101)
  have O1 := Own.new w 101 #[.slice (some ⟨gp, 0, none⟩) PL.length c1, .int .i64 sz]
  obtain ⟨W1, hW1⟩ : ∃ W, W = w.alloc (.cells #[.slice (some ⟨gp, 0, none⟩) PL.length c1, .int .i64 sz] 101) := ⟨_, rfl⟩
  rw [← hW1] at al O1
  have hsz1 : W1.heap.size = w.heap.size + 1 := by rw [hW1]; simp
  have HW1 := Lib.hid hW1
  have p0 : W1.cell? ⟨w.heap.size, 0, none⟩ = some (.slice (some ⟨gp, 0, none⟩) PL.length c1) := by rw [cell_of_row _ _ 0 _ _ _ O1]; rfl
  have hgp := lt_of_at c1'
  have d1 : W1.cell? ⟨gp, n / 32, none⟩ = some (.pointer (some ⟨g, 0, none⟩)) := (al.cell (p := ⟨gp, n / 32, none⟩) hgp).trans c1'
  have OG : Own W1 g 135 (pageRow mem (n / 32)) := (h.page _ _ hgl).below al
  have OZ := Own.new W1 135 #[.int .i64 0, .int .i64 0, .int .i64 0, .int .i64 0, .int .i64 0, .int .i64 0, .int .i64 0, .int .i64 0, .int .i64 0, .int .i64 0, .int .i64 0, .int .i64 0, .int .i64 0, .int .i64 0, .int .i64 0, .int .i64 0, .int .i64 0, .int .i64 0, .int .i64 0, .int .i64 0, .int .i64 0, .int .i64 0, .int .i64 0, .int .i64 0, .int .i64 0, .int .i64 0, .int .i64 0, .int .i64 0, .int .i64 0, .int .i64 0, .int .i64 0, .int .i64 0]
  obtain ⟨row, hrow⟩ : ∃ r, r = pageRow mem (n / 32) := ⟨_, rfl⟩
  have hrs : row.size = 32 := by rw [hrow]; exact pageRow_size _ _
  have hra : row.all (·.oneCell') = true := by
    rw [hrow, Array.all_eq_true']
    intro u hu
    simp only [pageRow, List.mem_toArray, List.mem_map] at hu
    obtain ⟨j, _, rfl⟩ := hu
    rfl
  rw [← hrow] at OG
  have B2 : Below w.heap.size w ((W1.alloc (.cells #[.int .i64 0, .int .i64 0, .int .i64 0, .int .i64 0, .int .i64 0, .int .i64 0, .int .i64 0, .int .i64 0, .int .i64 0, .int .i64 0, .int .i64 0, .int .i64 0, .int .i64 0, .int .i64 0, .int .i64 0, .int .i64 0, .int .i64 0, .int .i64 0, .int .i64 0, .int .i64 0, .int .i64 0, .int .i64 0, .int .i64 0, .int .i64 0, .int .i64 0, .int .i64 0, .int .i64 0, .int .i64 0, .int .i64 0, .int .i64 0, .int .i64 0, .int .i64 0] 135)).setRow W1.heap.size row) := al.trans ((Below.of_row ((Below.refl _ W1).alloc (Nat.le_refl _) (.cells #[.int .i64 0, .int .i64 0, .int .i64 0, .int .i64 0, .int .i64 0, .int .i64 0, .int .i64 0, .int .i64 0, .int .i64 0, .int .i64 0, .int .i64 0, .int .i64 0, .int .i64 0, .int .i64 0, .int .i64 0, .int .i64 0, .int .i64 0, .int .i64 0, .int .i64 0, .int .i64 0, .int .i64 0, .int .i64 0, .int .i64 0, .int .i64 0, .int .i64 0, .int .i64 0, .int .i64 0, .int .i64 0, .int .i64 0, .int .i64 0, .int .i64 0, .int .i64 0] 135)) (Nat.le_refl _) row).mono al.size)
  have O2 : Own ((W1.alloc (.cells #[.int .i64 0, .int .i64 0, .int .i64 0, .int .i64 0, .int .i64 0, .int .i64 0, .int .i64 0, .int .i64 0, .int .i64 0, .int .i64 0, .int .i64 0, .int .i64 0, .int .i64 0, .int .i64 0, .int .i64 0, .int .i64 0, .int .i64 0, .int .i64 0, .int .i64 0, .int .i64 0, .int .i64 0, .int .i64 0, .int .i64 0, .int .i64 0, .int .i64 0, .int .i64 0, .int .i64 0, .int .i64 0, .int .i64 0, .int .i64 0, .int .i64 0, .int .i64 0] 135)).setRow W1.heap.size row) W1.heap.size 135 row := OZ.row row
  have OB2 : Own ((W1.alloc (.cells #[.int .i64 0, .int .i64 0, .int .i64 0, .int .i64 0, .int .i64 0, .int .i64 0, .int .i64 0, .int .i64 0, .int .i64 0, .int .i64 0, .int .i64 0, .int .i64 0, .int .i64 0, .int .i64 0, .int .i64 0, .int .i64 0, .int .i64 0, .int .i64 0, .int .i64 0, .int .i64 0, .int .i64 0, .int .i64 0, .int .i64 0, .int .i64 0, .int .i64 0, .int .i64 0, .int .i64 0, .int .i64 0, .int .i64 0, .int .i64 0, .int .i64 0, .int .i64 0] 135)).setRow W1.heap.size row) w.heap.size 101 #[.slice (some ⟨gp, 0, none⟩) PL.length c1, .int .i64 sz] := O1.below (Below.of_row ((Below.refl _ W1).alloc (Nat.le_refl _) (.cells #[.int .i64 0, .int .i64 0, .int .i64 0, .int .i64 0, .int .i64 0, .int .i64 0, .int .i64 0, .int .i64 0, .int .i64 0, .int .i64 0, .int .i64 0, .int .i64 0, .int .i64 0, .int .i64 0, .int .i64 0, .int .i64 0, .int .i64 0, .int .i64 0, .int .i64 0, .int .i64 0, .int .i64 0, .int .i64 0, .int .i64 0, .int .i64 0, .int .i64 0, .int .i64 0, .int .i64 0, .int .i64 0, .int .i64 0, .int .i64 0, .int .i64 0, .int .i64 0] 135)) (Nat.le_refl _) row)
  obtain ⟨y, hy⟩ : ∃ y : Int, row[n % 32]? = some (.int .i64 y) := ⟨_, by rw [hrow]; exact pageRow_get mem _ _ (Nat.mod_lt _ (by decide))⟩
  have HPUT : Hid (pageRow (rset mem n x) (n / 32) = row.setIfInBounds (n % 32) (.int .i64 x)) := by rw [Hid, hrow]; exact pageRow_put mem n x hn
  have HPG := Lib.hid h
  have HHN := Lib.hid (And.intro hn hsz1)
  obtain ⟨cur, hgc⟩ : ∃ cur, Own w gp 136 cur := by
    rcases h.pgs.2 with ⟨e, _⟩ | ⟨g3, cap3, cur, e, _, hg3, _⟩
    · cases e
    · injection e with e
      injection e with e
      injection e with e
      subst e
      exact ⟨cur, hg3⟩
  have HGC := Lib.hid hgc
  have e1 : (n : Int).tdiv 32 = ((n / 32 : Nat) : Int) := rfl
  have e2 : (n : Int).tmod 32 = ((n % 32 : Nat) : Int) := rfl
  have h5 : n % 32 < 32 := Nat.mod_lt _ (by decide)
  have h6 : n / 32 ≤ 200 := by omega
  obtain ⟨qn, hqn⟩ : ∃ q, q = n / 32 := ⟨_, rfl⟩
  obtain ⟨rn, hrn⟩ : ∃ q, q = n % 32 := ⟨_, rfl⟩
  have HQ := Lib.hid (And.intro hqn hrn)
  rw [← hqn] at d1 e1 hk h6 HPUT ⊢
  rw [← hrn] at e2 h5 hy HPUT
  have hq1 : (qn : Int) < (PL.length : Int) := by omega
  have hr1 : (rn : Int) < 32 := by omega
  have w1 : wrap64 (qn : Int) = (qn : Int) := by unfold wrap64; omega
  have w2 : wrap64 (rn : Int) = (rn : Int) := by unfold wrap64; omega
  have f2 : ∀ X, Below w.heap.size w X → X.frozen? ⟨gp, qn, none⟩ = false ∧ X.cell? ⟨gp, qn, none⟩ = some (.pointer (some ⟨g, 0, none⟩)) := fun X hX => ⟨own_frozen (hgc.below hX) qn, (hX.cell (p := ⟨gp, qn, none⟩) hgp).trans (by rw [hqn]; exact c1')⟩
  have HF2 := Lib.hid f2
  clear h hm hn hgl c1' hrow hgc hW1 hqn hrn f2 al hsz1
  have HGP := Lib.hid hgp
  have HO2 := Lib.hid O2
  have HOB2 := Lib.hid OB2
  have HB2 := Lib.hid B2
  clear O2 OB2 B2 hgp O1
  go_enter Tryd.func44, Tryd.ntmps44
  go_upto_region 1 with fail
  rw [← HW1.out]
  clear HW1
  go_upto_region 2 with (first | (refine ld rowP rfl rfl rfl OG hrs ?_) | (refine st rowP rfl rfl OZ rfl rfl hrs (by rfl) hra ?_))
  clear OZ OG p0 d1
  generalize (W1.alloc (.cells #[.int .i64 0, .int .i64 0, .int .i64 0, .int .i64 0, .int .i64 0, .int .i64 0, .int .i64 0, .int .i64 0, .int .i64 0, .int .i64 0, .int .i64 0, .int .i64 0, .int .i64 0, .int .i64 0, .int .i64 0, .int .i64 0, .int .i64 0, .int .i64 0, .int .i64 0, .int .i64 0, .int .i64 0, .int .i64 0, .int .i64 0, .int .i64 0, .int .i64 0, .int .i64 0, .int .i64 0, .int .i64 0, .int .i64 0, .int .i64 0, .int .i64 0, .int .i64 0] 135)).setRow W1.heap.size row = W2 at HO2 HOB2 HB2 ⊢
  obtain ⟨g2, hg2⟩ : ∃ g2, g2 = W1.heap.size := ⟨_, rfl⟩
  have HG2 : Hid (w.heap.size + 1 = g2) := by rw [Hid, hg2]; exact HHN.out.2.symm
  rw [← hg2] at HO2 ⊢
  clear hg2
  have d3 : W2.cell? ⟨g2, rn, none⟩ = some (.int .i64 y) := by rw [cell_of_row _ _ rn _ _ _ HO2.out]; exact hy
  have f3 : W2.frozen? ⟨g2, rn, none⟩ = false := own_frozen HO2.out rn
  go_upto_region 3 with fail
  have HO3 : Hid (Own (W2.setCell ⟨g2, rn, none⟩ (.int .i64 x)) g2 135 (row.setIfInBounds rn (.int .i64 x))) := heap_setCell_same W2 g2 rn _ _ _ HO2.out
  have HOB3 : Hid (Own (W2.setCell ⟨g2, rn, none⟩ (.int .i64 x)) w.heap.size 101 #[.slice (some ⟨gp, 0, none⟩) PL.length c1, .int .i64 sz]) := (Below.heap_setCell W2 ⟨g2, rn, none⟩ _ w.heap.size (by have := HG2.out; show w.heap.size ≠ g2; omega)).trans HOB2.out
  have HB3 : Hid (Below w.heap.size w (W2.setCell ⟨g2, rn, none⟩ (.int .i64 x))) := HB2.out.setCell (p := ⟨g2, rn, none⟩) (by have := HG2.out; show w.heap.size ≤ g2; omega) _
  clear d3 f3 HO2 HOB2 HB2
  generalize W2.setCell ⟨g2, rn, none⟩ (.int .i64 x) = W3 at HO3 HOB3 HB3 ⊢
  have p0 : W3.cell? ⟨w.heap.size, 0, none⟩ = some (.slice (some ⟨gp, 0, none⟩) PL.length c1) := by rw [cell_of_row _ _ 0 _ _ _ HOB3.out]; rfl
  obtain ⟨f4, d4⟩ := HF2.out W3 HB3.out
  go_wp2
  have hB4 := below_both HB3.out ⟨gp, qn, none⟩ (.pointer (some ⟨g2, 0, none⟩))
  have hne : gp ≠ g2 := by have := HG2.out; have := HGP.out; omega
  refine bodyPost_end (results_none rfl _ _ _) rfl ⟨rfl, g2, by have := HG2.out; omega, hB4, ⟨?_, by rw [List.length_set, rset_len]; exact HPG.out.pgn, ?_⟩⟩
  · have h7 := row_setAt HPG.out.pgs rfl qn (.pointer (some ⟨g2, 0, none⟩))
    have h8 := row_below h7 (by rw [show (w.setCell ⟨gp, qn, none⟩ (.pointer (some ⟨g2, 0, none⟩))).heap.size = w.heap.size by simp [World.setCell]]; exact hB4)
    rw [List.length_set]
    unfold ptrs at h8 ⊢
    rw [List.map_set]
    exact h8
  · intro k g' hk'
    by_cases hkq : k = qn
    · subst hkq
      rw [List.getElem?_set_self hk] at hk'
      injection hk' with hk'
      subst hk'
      rw [HPUT.out]
      exact (Below.heap_setCell W3 ⟨gp, k, none⟩ _ g2 (fun e => hne e.symm)).trans HO3.out
    · rw [List.getElem?_set_ne (fun e => hkq e.symm)] at hk'
      rw [pageRow_same mem n k x (by rw [← HQ.out.1]; exact hkq)]
      have h9 := HPG.out.page k g' hk'
      have h10 : g' ≠ gp := own_unlike h9 HGC.out (by decide)
      exact (Below.heap_setCell W3 ⟨gp, qn, none⟩ _ g' h10).trans (h9.below HB3.out)
end Go.Proofs.YtmpljhfinmfnbaaDoor

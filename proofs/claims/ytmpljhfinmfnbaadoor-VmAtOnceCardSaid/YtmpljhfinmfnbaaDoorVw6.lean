/- What instructions of the core alone do. -/
import Derived.Test.YtmpljhfinmfnbaaDoorVw5
namespace Go.Proofs.YtmpljhfinmfnbaaDoor
open Go.RowKit
set_option linter.unusedVariables false
set_option maxRecDepth 100000
theorem CoP.reg_at {w : World} {g o : Nat} {c : Co} {bv cv : Value} (h : CoP w g o c bv cv) {j : Nat} (hj : j < 16) : w.cell? ⟨g, o + 2 + j, none⟩ = some (.int .i64 (rget c.regs j)) ∧ w.frozen? ⟨g, o + 2 + j, none⟩ = false := by
  refine ⟨?_, h.at_.fr _⟩
  have h1 : c.regs[j]? = some (rget c.regs j) := by
    unfold rget
    rw [Int.toNat_natCast, List.getD_eq_getElem?_getD, List.getElem?_eq_getElem (by rw [h.reg]; exact hj)]
    rfl
  have h2 := h.regs j _ h1
  rw [Nat.add_assoc]
  exact h2
theorem frozen_below {w X : World} (hX : Below w.heap.size w X) {g j : Nat} (hg : g < w.heap.size) (h : w.frozen? ⟨g, j, none⟩ = false) : X.frozen? ⟨g, j, none⟩ = false := by
  unfold World.frozen? at h ⊢
  rw [hX.block g hg]
  exact h
set_option maxHeartbeats 4000000 in
theorem p_set {w : World} {g o : Nat} {c : Co} {bv cv : Value} (h : CoP w g o c bv cv) (i : Ins) (hd : 0 ≤ i.d ∧ i.d < 16) (pm pd : Option Addr) :
    Calls Tryd.prog 62 #[.pointer pm, .pointer (some ⟨g, o, none⟩), insV i, .pointer pd] w fun e w' => e = .returned (.tuple #[]) ∧ Below w.heap.size (w.setCell ⟨g, o + 2 + i.d.toNat, none⟩ (.int .i64 i.wd)) w' := by
  obtain ⟨k, oo, d, a, bb, ad, tt, wd, fr⟩ := i
  simp only at hd ⊢
  obtain ⟨dn, rfl⟩ : ∃ n : Nat, d = (n : Int) := ⟨d.toNat, by omega⟩
  have hgw : g < w.heap.size := lt_of_at h.pc
  obtain ⟨c1, f1⟩ := h.reg_at (j := dn) (by omega)
  have al := (Below.refl w.heap.size w).alloc (Nat.le_refl _) (.cells #[.int .u8 k, .int .u8 oo, .int .i64 (dn : Int), .int .i64 a, .int .i64 bb, .int .i64 ad, .int .i64 tt, .int .i64 wd, .int .i64 fr] 87)
  have O1 := Own.new w 87 #[.int .u8 k, .int .u8 oo, .int .i64 (dn : Int), .int .i64 a, .int .i64 bb, .int .i64 ad, .int .i64 tt, .int .i64 wd, .int .i64 fr]
  obtain ⟨W1, hW1⟩ : ∃ W, W = w.alloc (.cells #[.int .u8 k, .int .u8 oo, .int .i64 (dn : Int), .int .i64 a, .int .i64 bb, .int .i64 ad, .int .i64 tt, .int .i64 wd, .int .i64 fr] 87) := ⟨_, rfl⟩
  rw [← hW1] at al O1
  have HW1 := Lib.hid hW1
  have p2 : W1.cell? ⟨w.heap.size, 2, none⟩ = some (.int .i64 (dn : Int)) := by rw [cell_of_row _ _ 2 _ _ _ O1]; rfl
  have p7 : W1.cell? ⟨w.heap.size, 7, none⟩ = some (.int .i64 wd) := by rw [cell_of_row _ _ 7 _ _ _ O1]; rfl
  have c2 : W1.drew.cell? ⟨g, o + 2 + dn, none⟩ = some (.int .i64 (rget c.regs dn)) := (al.cell (p := ⟨g, o + 2 + dn, none⟩) hgw).trans c1
  have f2 : W1.drew.frozen? ⟨g, o + 2 + dn, none⟩ = false := frozen_below (al.trans (below_drewN (Below.refl _ W1) 1)) hgw f1
  have HB : Hid (Below w.heap.size w W1.drew) := al.trans (below_drewN (Below.refl _ W1) 1)
  have h16 : (dn : Int) < 16 := by omega
  rw [Int.toNat_natCast]
  clear h hd hgw c1 f1 al O1 hW1
  simp only [insV, insC]
  go_enter Tryd.func62, Tryd.ntmps62
  go_upto_region 1 with fail
  rw [← HW1.out]
  clear HW1
  go_still_tail 9, (by kernel_rfl)
  change wpList _ _ _ _ _ W1.drew
  clear p2 p7
  generalize W1.drew = W2 at c2 f2 HB ⊢
  go_wp2
  exact bodyPost_end (results_none rfl _ _ _) rfl ⟨rfl, below_both HB.out _ _⟩
set_option maxHeartbeats 4000000 in
theorem p_fence {w : World} {g o : Nat} {c : Co} {bv cv : Value} (h : CoP w g o c bv cv) (i : Ins) (pm pd : Option Addr) :
    Calls Tryd.prog 67 #[.pointer pm, .pointer (some ⟨g, o, none⟩), insV i, .pointer pd] w fun e w' => e = .returned (.tuple #[]) ∧ Below w.heap.size w w' := by
  clear h
  go_enter Tryd.func67, Tryd.ntmps67
  go_wp2
  exact bodyPost_end (results_none rfl _ _ _) rfl ⟨rfl, (Below.refl _ w).alloc (Nat.le_refl _) _⟩
set_option maxHeartbeats 4000000 in
theorem p_jump {w : World} {g o : Nat} {c : Co} {bv cv : Value} (h : CoP w g o c bv cv) (i : Ins) (pm pd : Option Addr) :
    Calls Tryd.prog 69 #[.pointer pm, .pointer (some ⟨g, o, none⟩), insV i, .pointer pd] w fun e w' => e = .returned (.tuple #[]) ∧ Below w.heap.size (w.setCell ⟨g, o, none⟩ (.int .i64 i.tt)) w' := by
  obtain ⟨k, oo, d, a, bb, ad, tt, wd, fr⟩ := i
  have hgw : g < w.heap.size := lt_of_at h.pc
  have al := (Below.refl w.heap.size w).alloc (Nat.le_refl _) (.cells #[.int .u8 k, .int .u8 oo, .int .i64 d, .int .i64 a, .int .i64 bb, .int .i64 ad, .int .i64 tt, .int .i64 wd, .int .i64 fr] 87)
  have O1 := Own.new w 87 #[.int .u8 k, .int .u8 oo, .int .i64 d, .int .i64 a, .int .i64 bb, .int .i64 ad, .int .i64 tt, .int .i64 wd, .int .i64 fr]
  obtain ⟨W1, hW1⟩ : ∃ W, W = w.alloc (.cells #[.int .u8 k, .int .u8 oo, .int .i64 d, .int .i64 a, .int .i64 bb, .int .i64 ad, .int .i64 tt, .int .i64 wd, .int .i64 fr] 87) := ⟨_, rfl⟩
  rw [← hW1] at al O1
  have HW1 := Lib.hid hW1
  have p6 : W1.cell? ⟨w.heap.size, 6, none⟩ = some (.int .i64 tt) := by rw [cell_of_row _ _ 6 _ _ _ O1]; rfl
  have c2 : W1.cell? ⟨g, o, none⟩ = some (.int .i64 c.pc) := (al.cell (p := ⟨g, o, none⟩) hgw).trans h.pc
  have f2 : W1.frozen? ⟨g, o, none⟩ = false := frozen_below al hgw (h.at_.fr o)
  have HB := Lib.hid al
  clear h hgw al O1 hW1
  simp only [insV, insC]
  go_enter Tryd.func69, Tryd.ntmps69
  go_upto_region 1 with fail
  rw [← HW1.out]
  clear HW1
  go_wp2
  exact bodyPost_end (results_none rfl _ _ _) rfl ⟨rfl, below_both HB.out _ _⟩
set_option maxHeartbeats 4000000 in
theorem p_zero {w : World} {g o : Nat} {c : Co} {bv cv : Value} (h : CoP w g o c bv cv) (i : Ins) (ha : 0 ≤ i.a ∧ i.a < 16) (pm pd : Option Addr) :
    Calls Tryd.prog 70 #[.pointer pm, .pointer (some ⟨g, o, none⟩), insV i, .pointer pd] w fun e w' => e = .returned (.tuple #[]) ∧ Below w.heap.size (if rget c.regs i.a = 0 then w.setCell ⟨g, o, none⟩ (.int .i64 i.tt) else w) w' := by
  obtain ⟨k, oo, d, a, bb, ad, tt, wd, fr⟩ := i
  simp only at ha ⊢
  obtain ⟨an, rfl⟩ : ∃ n : Nat, a = (n : Int) := ⟨a.toNat, by omega⟩
  have hgw : g < w.heap.size := lt_of_at h.pc
  obtain ⟨c1, _⟩ := h.reg_at (j := an) (by omega)
  have al := (Below.refl w.heap.size w).alloc (Nat.le_refl _) (.cells #[.int .u8 k, .int .u8 oo, .int .i64 d, .int .i64 (an : Int), .int .i64 bb, .int .i64 ad, .int .i64 tt, .int .i64 wd, .int .i64 fr] 87)
  have O1 := Own.new w 87 #[.int .u8 k, .int .u8 oo, .int .i64 d, .int .i64 (an : Int), .int .i64 bb, .int .i64 ad, .int .i64 tt, .int .i64 wd, .int .i64 fr]
  obtain ⟨W1, hW1⟩ : ∃ W, W = w.alloc (.cells #[.int .u8 k, .int .u8 oo, .int .i64 d, .int .i64 (an : Int), .int .i64 bb, .int .i64 ad, .int .i64 tt, .int .i64 wd, .int .i64 fr] 87) := ⟨_, rfl⟩
  rw [← hW1] at al O1
  have HW1 := Lib.hid hW1
  have p3 : W1.cell? ⟨w.heap.size, 3, none⟩ = some (.int .i64 (an : Int)) := by rw [cell_of_row _ _ 3 _ _ _ O1]; rfl
  have p6 : W1.cell? ⟨w.heap.size, 6, none⟩ = some (.int .i64 tt) := by rw [cell_of_row _ _ 6 _ _ _ O1]; rfl
  have c2 : W1.cell? ⟨g, o, none⟩ = some (.int .i64 c.pc) := (al.cell (p := ⟨g, o, none⟩) hgw).trans h.pc
  have c3 : W1.cell? ⟨g, o + 2 + an, none⟩ = some (.int .i64 (rget c.regs an)) := (al.cell (p := ⟨g, o + 2 + an, none⟩) hgw).trans c1
  have f2 : W1.frozen? ⟨g, o, none⟩ = false := frozen_below al hgw (h.at_.fr o)
  have HX : Hid (∀ X, Below W1.heap.size W1 X → X.cell? ⟨w.heap.size, 6, none⟩ = some (.int .i64 tt) ∧ X.cell? ⟨g, o, none⟩ = some (.int .i64 c.pc) ∧ X.frozen? ⟨g, o, none⟩ = false ∧ Below w.heap.size w X) := fun X hX => ⟨(hX.cell (p := ⟨w.heap.size, 6, none⟩) O1.lt).trans p6, (hX.cell (p := ⟨g, o, none⟩) (lt_of_at c2)).trans c2, frozen_below hX (lt_of_at c2) f2, al.trans (hX.mono al.size)⟩
  have h16 : (an : Int) < 16 := by omega
  generalize rget c.regs an = x at c3 ⊢
  clear h hgw al O1 hW1 c1 c2 f2 p6 ha
  simp only [insV, insC]
  by_cases hx : x = 0
  · subst hx
    rw [if_pos rfl]
    go_enter Tryd.func70, Tryd.ntmps70
    go_upto_region 1 with fail
    rw [← HW1.out]
    clear HW1
    go_quiet (fail)
    obtain ⟨p6, c2, f2, hb⟩ := HX.out (World.drewN W1 nq) (below_drewN (Below.refl _ W1) nq)
    have HB := Lib.hid hb
    clear hb c3 p3
    generalize World.drewN W1 nq = W2 at p6 c2 f2 HB ⊢
    go_wp2
    exact bodyPost_end (results_none rfl _ _ _) rfl ⟨rfl, below_both HB.out _ _⟩
  · rw [if_neg hx]
    have hx2 : (x == 0) = false := by simpa using hx
    go_enter Tryd.func70, Tryd.ntmps70
    go_upto_region 1 with fail
    rw [← HW1.out]
    clear HW1
    go_quiet (fail)
    obtain ⟨p6, c2, f2, hb⟩ := HX.out (World.drewN W1 nq) (below_drewN (Below.refl _ W1) nq)
    have HB := Lib.hid hb
    clear hb c3 p3
    generalize World.drewN W1 nq = W2 at p6 c2 f2 HB ⊢
    go_wp2
    exact bodyPost_end (results_none rfl _ _ _) rfl ⟨rfl, HB.out⟩
end Go.Proofs.YtmpljhfinmfnbaaDoor

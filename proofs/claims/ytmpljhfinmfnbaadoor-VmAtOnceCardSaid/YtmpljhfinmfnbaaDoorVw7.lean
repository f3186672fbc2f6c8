/- What was printed: a list that goes on. -/
import Derived.Test.YtmpljhfinmfnbaaDoorVw6
namespace Go.Proofs.YtmpljhfinmfnbaaDoor
open Go.RowKit
set_option linter.unusedVariables false
set_option maxRecDepth 100000
theorem p_length {w : World} {a : Option Addr} {l : List (Int × Int)} (h : saidR w a l) (hl : l.length ≤ 4611686018427387904) : Calls Tryd.prog 74 #[.pointer a] w fun e w' => e = .returned (.int .i64 (l.length : Int)) ∧ w = w' := by
  cases l with
  | nil =>
    obtain rfl : a = none := h
    go_enter Tryd.func74, Tryd.ntmps74
    go_wp2
    go_ret
    exact ⟨rfl, rfl⟩
  | cons x r =>
    obtain ⟨g, b, rfl, ho, _⟩ := h
    have c3 : w.cell? ⟨g, 3, none⟩ = some (.int .i64 ((r.length + 1 : Nat) : Int)) := by rw [cell_of_row _ _ 3 _ _ _ ho]; rfl
    rw [List.length_cons]
    generalize ((r.length + 1 : Nat) : Int) = n at c3 ⊢
    clear ho hl
    go_enter Tryd.func74, Tryd.ntmps74
    go_wp2
    go_ret
    exact ⟨rfl, rfl⟩
set_option maxHeartbeats 4000000 in
theorem p_halt {w : World} {g o b : Nat} {c : Co} {bv cv : Value} (h : CoP w g o c bv cv) (i : Ins) (pm : Option Addr) {row : Array Value} (hb : Own w b 42 row) (hgb : g ≠ b) {t : Int} (ht : row[2]? = some (.int .i64 t)) :
    Calls Tryd.prog 71 #[.pointer pm, .pointer (some ⟨g, o, none⟩), insV i, .pointer (some ⟨b, 0, none⟩)] w fun e w' => e = .returned (.tuple #[]) ∧ Below w.heap.size ((w.setCell ⟨g, o + 1, none⟩ (.bool true)).setCell ⟨g, o, none⟩ (.int .i64 t)) w' := by
  have hgw : g < w.heap.size := lt_of_at h.pc
  obtain ⟨k, oo, d, a, bb, ad, tt, wd, fr⟩ := i
  have al := (Below.refl w.heap.size w).alloc (Nat.le_refl _) (.cells #[.int .u8 k, .int .u8 oo, .int .i64 d, .int .i64 a, .int .i64 bb, .int .i64 ad, .int .i64 tt, .int .i64 wd, .int .i64 fr] 87)
  obtain ⟨W1, hW1⟩ : ∃ W, W = w.alloc (.cells #[.int .u8 k, .int .u8 oo, .int .i64 d, .int .i64 a, .int .i64 bb, .int .i64 ad, .int .i64 tt, .int .i64 wd, .int .i64 fr] 87) := ⟨_, rfl⟩
  rw [← hW1] at al
  have HW1 := Lib.hid hW1
  have d2 : W1.cell? ⟨b, 2, none⟩ = some (.int .i64 t) := by rw [cell_of_row _ _ 2 _ _ _ (hb.below al)]; exact ht
  have c1 : W1.cell? ⟨g, o + 1, none⟩ = some (.bool c.hal) := (al.cell (p := ⟨g, o + 1, none⟩) hgw).trans h.hal
  have f1 : W1.frozen? ⟨g, o + 1, none⟩ = false := frozen_below al hgw (h.at_.fr _)
  have c0 : W1.cell? ⟨g, o, none⟩ = some (.int .i64 c.pc) := (al.cell (p := ⟨g, o, none⟩) hgw).trans h.pc
  have f0 : W1.frozen? ⟨g, o, none⟩ = false := frozen_below al hgw (h.at_.fr _)
  have c0' : (W1.setCell ⟨g, o + 1, none⟩ (.bool true)).cell? ⟨g, o, none⟩ = some (.int .i64 c.pc) := by rw [World.cell?_setCell_other _ _ _ _ (by intro e; injection e with _ e _; omega)]; exact c0
  have f0' : (W1.setCell ⟨g, o + 1, none⟩ (.bool true)).frozen? ⟨g, o, none⟩ = false := by rw [World.frozen?_setCell]; exact f0
  have HB := Lib.hid al
  clear h hgw hW1 al hb ht c0 f0
  simp only [insV, insC]
  go_enter Tryd.func71, Tryd.ntmps71
  go_upto_region 1 with fail
  rw [← HW1.out]
  clear HW1
  go_wp2
  have h2 := below_both HB.out ⟨g, o + 1, none⟩ (.bool true)
  have h3 : Below (w.setCell ⟨g, o + 1, none⟩ (.bool true)).heap.size (w.setCell ⟨g, o + 1, none⟩ (.bool true)) (W1.setCell ⟨g, o + 1, none⟩ (.bool true)) := by
    rw [show (w.setCell ⟨g, o + 1, none⟩ (.bool true)).heap.size = w.heap.size by simp [World.setCell]]
    exact h2
  have h4 := below_both h3 ⟨g, o, none⟩ (.int .i64 t)
  rw [show (w.setCell ⟨g, o + 1, none⟩ (.bool true)).heap.size = w.heap.size by simp [World.setCell]] at h4
  exact bodyPost_end (results_none rfl _ _ _) rfl ⟨rfl, h4⟩
end Go.Proofs.YtmpljhfinmfnbaaDoor

/- The next instruction; whether a core must wait. -/
import Derived.Test.YtmpljhfinmfnbaaDoorVw0
import Derived.StillTailTactics
namespace Go.Proofs.YtmpljhfinmfnbaaDoor
open Go.RowKit
set_option linter.unusedVariables false
set_option maxRecDepth 100000
/-- What a core's method needs to know. -/
structure CoP (W : World) (g o : Nat) (c : Co) (bv cv : Value) : Prop where
  at_ : CoAt W g o c bv cv
  code : W.ownsRow 0 87 9 cv c.code.length (flatI c.code)
  reg : c.regs.length = 16
section
variable {W W' : World} {g o : Nat} {c : Co} {bv cv : Value}
theorem CoP.pc (h : CoP W g o c bv cv) : W.cell? ⟨g, o, none⟩ = some (.int .i64 c.pc) := h.at_.cell 0 _ rfl
theorem CoP.hal (h : CoP W g o c bv cv) : W.cell? ⟨g, o + 1, none⟩ = some (.bool c.hal) := h.at_.cell 1 _ rfl
theorem CoP.tail (h : CoP W g o c bv cv) (j : Nat) (u : Value) (hj : ([bv, cv] : List Value)[j]? = some u) : W.cell? ⟨g, o + (18 + j), none⟩ = some u := by
  refine h.at_.cell (18 + j) u ?_
  show ([Value.int .i64 c.pc, .bool c.hal] ++ (c.regs.map fun x => .int .i64 x) ++ [bv, cv])[18 + j]? = some u
  have hl : ([Value.int .i64 c.pc, .bool c.hal] ++ (c.regs.map fun x => Value.int .i64 x)).length = 18 := by simp [h.reg]
  rw [List.getElem?_append_right (by omega), hl, show 18 + j - 18 = j by omega]
  exact hj
theorem CoP.buf (h : CoP W g o c bv cv) : W.cell? ⟨g, o + 18, none⟩ = some bv := h.tail 0 _ rfl
theorem CoP.cod (h : CoP W g o c bv cv) : W.cell? ⟨g, o + 19, none⟩ = some cv := h.tail 1 _ rfl
theorem CoP.regs (h : CoP W g o c bv cv) (j : Nat) (x : Int) (hj : c.regs[j]? = some x) : W.cell? ⟨g, o + (2 + j), none⟩ = some (.int .i64 x) := by
  refine h.at_.cell (2 + j) _ ?_
  show ([Value.int .i64 c.pc, .bool c.hal] ++ (c.regs.map fun x => .int .i64 x) ++ [bv, cv])[2 + j]? = some (.int .i64 x)
  have hl := (List.getElem?_eq_some_iff.1 hj).1
  rw [List.append_assoc, List.getElem?_append_right (by simp), List.getElem?_append_left (by simp; omega), List.getElem?_map]
  simp only [List.length_cons, List.length_nil, Nat.zero_add, Nat.add_sub_cancel_left, hj, Option.map_some]
end
set_option maxHeartbeats 4000000 in
theorem p_next {w : World} {g o : Nat} {c : Co} {bv cv : Value} (h : CoP w g o c bv cv) (hp : 0 ≤ c.pc ∧ c.pc < c.code.length) (hl : c.code.length ≤ 16384) :
    Calls Tryd.prog 41 #[.pointer (some ⟨g, o, none⟩)] w fun e w' => e = .returned (insV c.next) ∧ Below w.heap.size w w' := by
  have hpn : c.pc.toNat < c.code.length := by omega
  have hne : c.code[c.pc.toNat]? = some c.next := by
    unfold Co.next
    rw [List.getD_eq_getElem?_getD, List.getElem?_eq_getElem hpn]
    rfl
  obtain ⟨gi, cap, rfl, _, hcell⟩ := row_at h.code (by omega)
  have hgw : g < w.heap.size := lt_of_at h.pc
  have hgi : gi < w.heap.size := lt_of_at (hcell _ _ (flatI_get c.code _ _ hne 0 _ rfl))
  have al := (Below.refl w.heap.size w).alloc (Nat.le_refl _) (.cells #[.int .u8 0, .int .u8 0, .int .i64 0, .int .i64 0, .int .i64 0, .int .i64 0, .int .i64 0, .int .i64 0, .int .i64 0] 87)
  have O1 := Own.new w 87 #[.int .u8 0, .int .u8 0, .int .i64 0, .int .i64 0, .int .i64 0, .int .i64 0, .int .i64 0, .int .i64 0, .int .i64 0]
  obtain ⟨W1, hW1⟩ : ∃ W, W = w.alloc (.cells #[.int .u8 0, .int .u8 0, .int .i64 0, .int .i64 0, .int .i64 0, .int .i64 0, .int .i64 0, .int .i64 0, .int .i64 0] 87) := ⟨_, rfl⟩
  rw [← hW1] at al O1
  have HW1 := Lib.hid hW1
  have c0 : W1.cell? ⟨g, o, none⟩ = some (.int .i64 c.pc) := (al.cell (p := ⟨g, o, none⟩) hgw).trans h.pc
  have c19 : W1.cell? ⟨g, o + 19, none⟩ = some (.slice (some ⟨gi, 0, none⟩) c.code.length cap) := (al.cell (p := ⟨g, o + 19, none⟩) hgw).trans h.cod
  have hins : ∀ (m : Nat) (v : Value), (insC c.next)[m]? = some v → W1.cell? ⟨gi, c.pc.toNat * 9 + m, none⟩ = some v := fun m v hm => (al.cell (p := ⟨gi, c.pc.toNat * 9 + m, none⟩) hgi).trans (hcell _ _ (flatI_get c.code _ _ hne m _ hm))
  obtain ⟨n, hn⟩ : ∃ n : Nat, c.pc = (n : Int) := ⟨c.pc.toNat, by omega⟩
  rw [hn, Int.toNat_natCast] at hins
  rw [hn] at c0
  have hnl : (n : Int) < (c.code.length : Int) := by omega
  generalize c.next = i at hins ⊢
  generalize c.code.length = N at c19 hnl ⊢
  obtain ⟨k, oo, d, a, bb, ad, tt, wd, fr⟩ := i
  have i0 : W1.cell? ⟨gi, n * 9, none⟩ = some (.int .u8 k) := hins 0 _ rfl
  have i1 := hins 1 _ rfl
  have i2 := hins 2 _ rfl
  have i3 := hins 3 _ rfl
  have i4 := hins 4 _ rfl
  have i5 := hins 5 _ rfl
  have i6 := hins 6 _ rfl
  have i7 := hins 7 _ rfl
  have i8 := hins 8 _ rfl
  have HB := Lib.hid al
  clear hins hn hcell hne hp hpn h hl hW1 al hgw hgi
  go_enter Tryd.func41, Tryd.ntmps41
  go_upto_region 1 with fail
  rw [← HW1.out]
  clear HW1
  go_still_tail 11, (by kernel_rfl)
  change wpList _ _ _ _ _ W1.drew
  have O2 : Own W1.drew w.heap.size 87 #[.int .u8 0, .int .u8 0, .int .i64 0, .int .i64 0, .int .i64 0, .int .i64 0, .int .i64 0, .int .i64 0, .int .i64 0] := O1
  have HB2 : Hid (Below w.heap.size w W1.drew) := HB.out.trans (below_drewN (Below.refl _ W1) 1)
  generalize W1.drew = W2 at O2 HB2 ⊢
  clear i0 i1 i2 i3 i4 i5 i6 i7 i8 c0 c19 O1 HB
  go_wp2_with (refine st rowI rfl rfl O2 rfl rfl (by rfl) (by rfl) (by kernel_rfl) ?_)
  exact p_ret rowI rfl (O2.row _) rfl rfl rfl ⟨rfl, Below.of_row HB2.out (Nat.le_refl _) _⟩
end Go.Proofs.YtmpljhfinmfnbaaDoor

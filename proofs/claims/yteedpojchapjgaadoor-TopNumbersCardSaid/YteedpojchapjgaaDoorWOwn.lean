/- The lexer's laws: tokens are their asker's own. -/
import Derived.Test.YteedpojchapjgaaDoorWScans
namespace Go.Proofs.YteedpojchapjgaaDoor
open Go.RowKit
set_option linter.unusedVariables false

theorem cell_row_list {W : World} {g : Nat} {cs : Array Value} {t : TypeId} (h : W.heap[g]? = some (.cells cs t (0, 0))) {j : Nat} {u : Value} (hj : cs.toList[j]? = some u) : W.cell? ((⟨g, 0, none⟩ : Addr).add j) = some u := by
  have e : cs[j]? = some u := by rw [← Array.getElem?_toList]; exact hj
  have k := cell_of_row W g j _ _ _ h
  have ea : (⟨g, 0, none⟩ : Addr).add j = ⟨g, j, none⟩ := by
    by_cases h0 : j = 0
    · subst h0; rfl
    · simp [Addr.add, h0]
  rw [ea, k]; exact e
theorem heap_alloc3_new (w : World) (A B C : Obj) : (((w.alloc A).alloc B).alloc C).heap[w.heap.size + 1 + 1]? = some C := by
  have h := World.alloc_heap_new ((w.alloc A).alloc B) C
  rwa [World.size_alloc, World.size_alloc] at h
set_option maxRecDepth 100000 in
set_option maxHeartbeats 4000000 in
theorem own_none (s : ByteArray) (w : World) (T : LTabs w) (h0 : (scanX s).1 = []) :
    Calls Tryd.prog 13 #[.string s] w fun e w' => e = .returned (.bool true) ∧ LInv w w' := by
  obtain ⟨i0, hi, hz0, hz1, hz2⟩ := info_parts infoTok
  have HB := Lib.hid (begins_i (LInv.start T))
  have HA : Hid (∀ W, LInv w W → Calls Tryd.prog 22 #[.string s] W fun e w' => e = .returned (.tuple #[.slice none 0 0, .int .i64 (scanX s).2.1, .agg #[.int .i64 (scanX s).2.2.1, .int .i64 (scanX s).2.2.2]]) ∧ LInv w w') := fun W I => by
    refine (scan_row s I).mono ?_
    rintro e w' ⟨u, rfl, h1, h2, hb⟩
    rw [h2.2 h0]
    exact ⟨rfl, I.next hb⟩
  obtain ⟨X, hX⟩ : ∃ X, Hid (X = scanX s) := ⟨_, rfl⟩
  rw [← hX.out] at HA
  obtain ⟨xs, er, fa, fr⟩ := X
  simp only at HA
  clear T
  go_enter Tryd.func13, Tryd.ntmps13
  go_wp2_with (first
    | (go_at_call 21; refine (HB.out).mono ?_; rintro e w1 ⟨rfl, hI⟩; have HI := Lib.hid hI; clear hI)
    | (go_at_call 22; refine (HA.out _ HI.out).mono ?_; clear HI; rintro e w2 ⟨rfl, hI⟩; have HI := Lib.hid (hI.next ((Below.refl _ w2).alloc (Nat.le_refl _) (.cells #[.int .i64 fa, .int .i64 fr] 27))); clear hI))
  refine wp_loop_rounds 1 ?_
  rw [rounds_succ]
  go_wp2_with (at_builtin; refine wpList_append_own _ rfl _ _ 24 rfl w2.heap.size 38 i0 _ 4 40 Tryd.underlying24 hi hz0 hz1 hz2 rfl (by decide) (.slice none 0 0) 0 [] rfl (World.ownsRow_nil _ _ _ _) ⟨w2.heap.size + 1 + 1, 0, none⟩ 2 2 [.int .u8 0, .string ⟨#[]⟩, .int .i64 0, .int .i64 0, .int .u8 0, .string ⟨#[]⟩, .int .i64 0, .int .i64 0] rfl rfl (fun j u hj => cell_row_list (heap_alloc3_new w2 _ _ _) hj) (by simp [Value.oneCell']) (by simp only [maxLen]; omega) (by omega) (by simp; omega) ?_; intro v' w3 hown' hgrow _; obtain ⟨g', cap', rfl⟩ := ownsRow_succ (k := 1) hown'; have HG := Lib.hid hgrow; clear hown' hgrow)
  have bW : Below (w2.alloc (.cells #[.int .i64 fa, .int .i64 fr] 27)).heap.size (w2.alloc (.cells #[.int .i64 fa, .int .i64 fr] 27)) w3 :=
    (((Below.refl _ _).alloc (Nat.le_refl _) _).alloc (by simp) _).grown HG.out (by simp) (fun k e => by simp [Value.ownBlock] at e)
  have I3 := Lib.hid (HI.out.next bW)
  refine (HA.out _ I3.out).mono ?_
  rintro e w4 ⟨rfl, hI⟩
  have I4 := Lib.hid (hI.next ((Below.refl _ w4).alloc (Nat.le_refl _) (.cells #[.int .i64 fa, .int .i64 fr] 27)))
  clear hI bW
  go_wp2_with (go_at_call 24; refine (same_true _ _ _ [] [] ⟨_, _, rfl, by simp⟩ ⟨_, _, rfl, by simp⟩ (EqToks.rfl' _ _) (by simp)).mono ?_; rintro e w5 ⟨rfl, m, rfl⟩)
  go_ret
  exact ⟨rfl, I4.out.next (below_drewN (Below.refl _ _) m)⟩
theorem one_cells (xs : List Res) : ∀ u ∈ rowR xs, u.oneCell' = true := by
  intro u hu
  unfold rowR at hu
  rw [List.mem_flatMap] at hu
  obtain ⟨x, _, hx⟩ := hu
  unfold tokCells at hx
  simp at hx
  rcases hx with rfl | rfl | rfl | rfl <;> rfl
theorem rowR_len (xs : List Res) : (rowR xs).length = xs.length * 4 := by
  induction xs with
  | nil => rfl
  | cons x xs ih =>
    have : rowR (x :: xs) = tokCells x ++ rowR xs := rfl
    rw [this, List.length_append, ih]
    show 4 + _ = _
    simp; omega
/-- The list's own block, whatever its cells hold now. -/
def Blk (W : World) (g cap : Nat) : Prop := ∃ cur, W.heap[g]? = some (.cells cur 38 (0, 0)) ∧ cur.size = cap * 4
theorem Blk.cells {W : World} {g cap : Nat} (h : Blk W g cap) {i : Nat} (hi : i < cap) :
    (∃ a b c d, W.cell? ⟨g, i * 4, none⟩ = some a ∧ W.cell? ⟨g, i * 4 + 1, none⟩ = some b ∧ W.cell? ⟨g, i * 4 + 2, none⟩ = some c ∧ W.cell? ⟨g, i * 4 + 3, none⟩ = some d) ∧
    W.frozen? ⟨g, i * 4, none⟩ = false ∧ W.frozen? ⟨g, i * 4 + 1, none⟩ = false ∧ W.frozen? ⟨g, i * 4 + 2, none⟩ = false ∧ W.frozen? ⟨g, i * 4 + 3, none⟩ = false := by
  obtain ⟨cur, hc, hz⟩ := h
  refine ⟨⟨cur[i * 4], cur[i * 4 + 1], cur[i * 4 + 2], cur[i * 4 + 3], ?_, ?_, ?_, ?_⟩, frozen_of_row W g _ _ _ hc, frozen_of_row W g _ _ _ hc, frozen_of_row W g _ _ _ hc, frozen_of_row W g _ _ _ hc⟩ <;>
    (rw [cell_of_row W g _ _ _ _ hc]; exact Array.getElem?_eq_getElem _)
theorem Blk.set {W : World} {g cap : Nat} (h : Blk W g cap) (o : Nat) (v : Value) : Blk (W.setCell ⟨g, o, none⟩ v) g cap := by
  obtain ⟨cur, hc, hz⟩ := h
  exact ⟨_, heap_setCell_same W g o _ _ v hc, by simpa using hz⟩
end Go.Proofs.YteedpojchapjgaaDoor

/- The lexer's laws: every text is cut as the reference cuts it. -/
import Derived.Test.YteedpojchapjgaaDoorSame
namespace Go.Proofs.YteedpojchapjgaaDoor
open Go.RowKit
set_option linter.unusedVariables false

/-- What Scan says: tokens, error, fault. -/
def scanX (s : ByteArray) : List Res × Int × Int × Int :=
  if 65536 < s.size then ([], 4, 0, 0) else if (frontR s).2.2 = 0 then ((frontR s).1, 0, 0, 0) else ([], 20, (frontR s).2.1, (frontR s).2.2)
theorem scanPost_row {s : ByteArray} {n₀ : Nat} {W : World} {v : Value} (h : scanPost s n₀ W v) :
    ∃ u, v = .tuple #[u, .int .i64 (scanX s).2.1, .agg #[.int .i64 (scanX s).2.2.1, .int .i64 (scanX s).2.2.2]] ∧ W.ownsRow n₀ 38 4 u (scanX s).1.length (rowR (scanX s).1) ∧ (u = .slice none 0 0 ↔ (scanX s).1 = []) := by
  unfold scanPost at h
  unfold scanX
  split at h
  · rename_i hl
    rw [if_pos hl]
    exact ⟨_, h, World.ownsRow_nil _ _ _ _, by simp⟩
  · rename_i hl
    rw [if_neg hl]
    split at h
    · rename_i hf
      rw [if_pos hf]
      exact h
    · rename_i hf
      rw [if_neg hf]
      exact ⟨_, h, World.ownsRow_nil _ _ _ _, by simp⟩
theorem scanX_len (s : ByteArray) : (scanX s).1.length ≤ 65536 := by
  unfold scanX
  split
  · exact Nat.zero_le _
  · split
    · have := front_len s; simp only; omega
    · exact Nat.zero_le _
theorem rowR_at : ∀ (xs : List Res) (i j : Nat) (x : Res), xs[i]? = some x → j < 4 → (rowR xs)[i * 4 + j]? = (tokCells x)[j]?
  | [], i, j, x, h, _ => by simp at h
  | y :: ys, 0, j, x, h, hj => by
    obtain rfl : y = x := by simpa using h
    have : rowR (y :: ys) = tokCells y ++ rowR ys := rfl
    rw [this, Nat.zero_mul, Nat.zero_add, List.getElem?_append_left (by show j < 4; exact hj)]
  | y :: ys, i + 1, j, x, h, hj => by
    have : rowR (y :: ys) = tokCells y ++ rowR ys := rfl
    rw [this, List.getElem?_append_right (by show 4 ≤ _; omega)]
    have e : (i + 1) * 4 + j - (tokCells y).length = i * 4 + j := by show (i + 1) * 4 + j - 4 = _; omega
    rw [e]
    exact rowR_at ys i j x (by simpa using h) hj
theorem tokRow_owns {W : World} {base : Nat} {u : Value} {xs : List Res} (h : W.ownsRow base 38 4 u xs.length (rowR xs)) : TokRow W u xs := by
  rcases h.2 with ⟨rfl, h0⟩ | ⟨g, cap, cur, rfl, hb, hg, hle, hcap, hcs, htk⟩
  · refine ⟨none, 0, by rw [h0], fun i x hx => ?_⟩
    have := (List.getElem?_eq_some_iff.1 hx).1
    omega
  · refine ⟨some ⟨g, 0, none⟩, cap, rfl, fun i x hx => ⟨g, 0, rfl, ?_⟩⟩
    have key : ∀ j u, j < 4 → (tokCells x)[j]? = some u → W.cell? ⟨g, i * 4 + j, none⟩ = some u := fun j u hj4 hu => by
      have h0 := rowR_at xs i j x hx hj4
      rw [hu, ← htk, List.getElem?_take] at h0
      split at h0
      · have h2 : cur[i * 4 + j]? = some u := by rw [← Array.getElem?_toList]; exact h0
        rw [cell_of_row W g (i * 4 + j) _ _ _ hg]; exact h2
      · cases h0
    simp only [Nat.zero_add]
    exact ⟨key 0 _ (by decide) rfl, key 1 _ (by decide) rfl, key 2 _ (by decide) rfl, key 3 _ (by decide) rfl⟩
theorem TokRow.keep {W W' : World} {u : Value} {xs : List Res} (h : TokRow W u xs) (hb : Below W.heap.size W W') : TokRow W' u xs := by
  obtain ⟨oa, cap, hu, hc⟩ := h
  refine ⟨oa, cap, hu, fun i x hx => ?_⟩
  obtain ⟨g, off, ho, a0, a1, a2, a3⟩ := hc i x hx
  have hg : g < W.heap.size := lt_of_at a0
  exact ⟨g, off, ho, (hb.cell (p := ⟨g, off + i * 4, none⟩) hg).trans a0, (hb.cell (p := ⟨g, off + i * 4 + 1, none⟩) hg).trans a1, (hb.cell (p := ⟨g, off + i * 4 + 2, none⟩) hg).trans a2, (hb.cell (p := ⟨g, off + i * 4 + 3, none⟩) hg).trans a3⟩
theorem EqToks.rfl' (pl : Bool) (xs : List Res) : EqToks pl xs xs := ⟨rfl, fun i x y hx hy => by
  rw [hx] at hy; cases hy; exact ⟨rfl, rfl, rfl, fun _ => rfl⟩⟩
theorem scan_row (s : ByteArray) {w0 w : World} (I : LInv w0 w) :
    Calls Tryd.prog 22 #[.string s] w fun e w' => ∃ u, e = .returned (.tuple #[u, .int .i64 (scanX s).2.1, .agg #[.int .i64 (scanX s).2.2.1, .int .i64 (scanX s).2.2.2]]) ∧ w'.ownsRow w.heap.size 38 4 u (scanX s).1.length (rowR (scanX s).1) ∧ (u = .slice none 0 0 ↔ (scanX s).1 = []) ∧ Below w.heap.size w w' := by
  refine (scan_any s w I.tabs).mono ?_
  rintro e w' ⟨⟨v, rfl, h⟩, hb⟩
  obtain ⟨u, rfl, h1, h2⟩ := scanPost_row h
  exact ⟨u, rfl, h1, h2, hb⟩
theorem rscan_row (s : ByteArray) (w : World) :
    Calls Tryd.prog 23 #[.string s] w fun e w' => ∃ u, e = .returned (.tuple #[u, .int .i64 (scanX s).2.1, .agg #[.int .i64 (scanX s).2.2.1, .int .i64 (scanX s).2.2.2]]) ∧ w'.ownsRow w.heap.size 38 4 u (scanX s).1.length (rowR (scanX s).1) ∧ (u = .slice none 0 0 ↔ (scanX s).1 = []) ∧ Below w.heap.size w w' := by
  refine (rscan_any s w).mono ?_
  rintro e w' ⟨⟨v, rfl, h⟩, hb⟩
  obtain ⟨u, rfl, h1, h2⟩ := scanPost_row h
  exact ⟨u, rfl, h1, h2, hb⟩
set_option maxHeartbeats 2000000 in
theorem scans_walk (s : ByteArray) (hs : s.size ≤ reachBytes) (w : World) (T : LTabs w) :
    Calls Tryd.prog 4 #[.string s] w fun e w' => e = .returned (.bool true) ∧ LInv w w' := by
  have hlen := scanX_len s
  obtain ⟨X, hX⟩ : ∃ X, Hid (X = scanX s) := ⟨_, rfl⟩
  have HA := scan_row s (LInv.start T)
  have HB := fun W => rscan_row s W
  rw [← hX.out] at HA hlen
  rw [← hX.out] at HB
  obtain ⟨xs, er, fa, fr⟩ := X
  simp only at HA HB hlen
  have HA := Lib.hid HA
  have HB := Lib.hid HB
  have HT := Lib.hid T
  clear T
  go_enter Tryd.func4, Tryd.ntmps4
  go_wp2_with (first
    | (go_at_call 22; refine (HA.out).mono ?_; rintro e w1 ⟨u1, rfl, hr1, _, hb1⟩; have HR1 := Lib.hid hr1; have HB1 := Lib.hid hb1; clear hr1 hb1)
    | (go_at_call 23; refine (HB.out _).mono ?_; rintro e w2 ⟨u2, rfl, hr2, _, hb2⟩; have HR2 := Lib.hid hr2; have HB2 := Lib.hid hb2; clear hr2 hb2))
  have z1 := HB1.out.size
  have z2 := HB2.out.size
  rw [World.size_alloc] at z2
  have I1 := (LInv.start HT.out).next HB1.out
  have I2 := (I1.next ((Below.refl _ w1).alloc (Nat.le_refl _) (.cells #[.int .i64 fa, .int .i64 fr] 27))).next HB2.out
  have I3 := Lib.hid (I2.next ((Below.refl _ w2).alloc (Nat.le_refl _) (.cells #[.int .i64 fa, .int .i64 fr] 27)))
  have b1 : Below w1.heap.size w1 (w2.alloc (.cells #[.int .i64 fa, .int .i64 fr] 27)) := (((Below.refl _ w1).alloc (Nat.le_refl _) _).trans (HB2.out.mono (by simp))).alloc (by omega) _
  have t1 := (tokRow_owns HR1.out).keep b1
  have t2 := (tokRow_owns HR2.out).keep ((Below.refl _ w2).alloc (Nat.le_refl _) (.cells #[.int .i64 fa, .int .i64 fr] 27))
  have hf1 : w2.heap[w1.heap.size]? = some (.cells #[.int .i64 fa, .int .i64 fr] 27) := (HB2.out.block _ (by simp)).trans (World.alloc_heap_new w1 _)
  obtain ⟨⟨c0, c1⟩, _⟩ := row2 hf1
  have hl1 : w1.heap.size < w2.heap.size := by omega
  refine (same_true _ u1 u2 xs xs t1 t2 (EqToks.rfl' _ _) (by omega)).mono ?_
  rintro e w3 ⟨rfl, m, rfl⟩
  have I4 := Lib.hid (I3.out.next (below_drewN (Below.refl _ _) m))
  clear b1 t1 t2 hf1 I1 I2
  go_wp2_with (go_at_call 21; refine (begins_i I4.out).mono ?_; rintro e w4 ⟨rfl, hI⟩; have HI := Lib.hid hI; clear hI)
  go_ret
  exact ⟨rfl, HI.out⟩
end Go.Proofs.YteedpojchapjgaaDoor

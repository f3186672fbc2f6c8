/- The lexer's laws: tokens are their asker's own: where there are some. -/
import Derived.Test.YteedpojchapjgaaDoorWOwn
namespace Go.Proofs.YteedpojchapjgaaDoor
open Go.RowKit
set_option linter.unusedVariables false

theorem own_cells {W : World} {base : Nat} {e : TypeId} {size : Nat} {g cap n k : Nat} {xs : List Value} (h : W.ownsRow base e size (.slice (some ⟨g, 0, none⟩) n cap) k xs) {j : Nat} {u : Value} (hj : xs[j]? = some u) : W.cell? ((⟨g, 0, none⟩ : Addr).add j) = some u := by
  rcases h.2 with ⟨h0, _⟩ | ⟨g', cap', cur, hv, hb, hg, hle, hcap, hcs, htk⟩
  · cases h0
  · cases hv
    refine cell_row_list hg ?_
    rw [← htk, List.getElem?_take] at hj
    split at hj
    · exact hj
    · cases hj
theorem own_pos {W : World} {base : Nat} {e : TypeId} {size : Nat} {v : Value} {k : Nat} {xs : List Value} (hk : 0 < k) (h : W.ownsRow base e size v k xs) : ∃ g cap, v = .slice (some ⟨g, 0, none⟩) k cap := by
  rcases h.2 with ⟨_, h0⟩ | ⟨g, cap, _, rfl, _⟩
  · omega
  · exact ⟨g, cap, rfl⟩
theorem LInv.make {w w' : World} (T : LTabs w) (h : Below w.heap.size w w') : LInv w w' := ⟨T.below (Nat.le_refl _) h, h⟩
theorem keep_blk {A W : World} {g cap : Nat} (h : Keep (fun k _ => k ≠ g) A W) (hb : Blk W g cap) (o : Nat) (v : Value) : Keep (fun k _ => k ≠ g) A (W.setCell ⟨g, o, none⟩ v) := by
  obtain ⟨cur, hc, _⟩ := hb
  exact h.setCell (p := ⟨g, o, none⟩) v hc (fun h => h rfl)
theorem blk_owns {W : World} {base g cap n : Nat} (h : Blk W g cap) (hb : base ≤ g) (hn : n ≤ cap) (hc : cap ≤ maxLen) : ∃ ys, W.ownsRow base 38 4 (.slice (some ⟨g, 0, none⟩) n cap) n ys := by
  obtain ⟨cur, h1, h2⟩ := h
  refine ⟨cur.toList.take (n * 4), ?_, .inr ⟨g, cap, cur, rfl, hb, h1, hn, hc, h2, rfl⟩⟩
  simp
  omega
set_option maxRecDepth 100000 in
set_option maxHeartbeats 8000000 in
theorem own_some (s : ByteArray) (w : World) (T : LTabs w) (h0 : ¬ (scanX s).1 = []) :
    Calls Tryd.prog 13 #[.string s] w fun e w' => e = .returned (.bool true) ∧ LInv w w' := by
  obtain ⟨i0, hi, hz0, hz1, hz2⟩ := info_parts infoTok
  have HB := Lib.hid (begins_i (LInv.start T))
  have hlen := scanX_len s
  have HA : Hid (∀ W, LInv w W → Calls Tryd.prog 22 #[.string s] W fun e w' => ∃ g cap, e = .returned (.tuple #[.slice (some ⟨g, 0, none⟩) (scanX s).1.length cap, .int .i64 (scanX s).2.1, .agg #[.int .i64 (scanX s).2.2.1, .int .i64 (scanX s).2.2.2]]) ∧ w'.ownsRow W.heap.size 38 4 (.slice (some ⟨g, 0, none⟩) (scanX s).1.length cap) (scanX s).1.length (rowR (scanX s).1) ∧ LInv w w' ∧ Below W.heap.size W w') := fun W I => by
    refine (scan_row s I).mono ?_
    rintro e w' ⟨u, rfl, h1, h2, hb⟩
    obtain ⟨n, hn⟩ : ∃ n, (scanX s).1.length = n + 1 := ⟨(scanX s).1.length - 1, by have := List.length_pos_iff.2 h0; omega⟩
    obtain ⟨g, cap, rfl⟩ := ownsRow_succ (by rw [← hn]; exact h1)
    rw [← hn] at h1 ⊢
    exact ⟨g, cap, rfl, h1, I.next hb, hb⟩
  obtain ⟨X, hX⟩ : ∃ X, Hid (X = scanX s) := ⟨_, rfl⟩
  rw [← hX.out] at HA h0 hlen
  obtain ⟨xs, er, fa, fr⟩ := X
  simp only at HA h0 hlen
  obtain ⟨n, hn⟩ : ∃ n, Hid (n = xs.length) := ⟨_, rfl⟩
  rw [← hn.out] at HA hlen
  have hpos : 0 < n := by rw [hn.out]; exact List.length_pos_iff.2 h0
  have HT := Lib.hid T
  clear T h0
  go_enter Tryd.func13, Tryd.ntmps13
  go_wp2_with (first
    | (go_at_call 21; refine (HB.out).mono ?_; rintro e w1 ⟨rfl, hI⟩; have hw1 := hI.below.size; have HI := Lib.hid hI; clear hI)
    | (go_at_call 22; refine (HA.out _ HI.out).mono ?_; clear HI; rintro e w2 ⟨g, cap, rfl, hr, hI, _⟩; have HR := Lib.hid hr; have HI := Lib.hid (hI.next ((Below.refl _ w2).alloc (Nat.le_refl _) (.cells #[.int .i64 fa, .int .i64 fr] 27))); clear hr hI)
    | (at_builtin; refine wpList_append_own _ rfl _ _ 24 rfl (w2.heap.size + 1) 38 i0 _ 4 40 Tryd.underlying24 hi hz0 hz1 hz2 rfl (by decide) (.slice (some ⟨w2.heap.size + 1, 0, none⟩) 0 0) 0 [] rfl ⟨rfl, .inr ⟨w2.heap.size + 1, 0, #[], rfl, Nat.le_refl _, heap_alloc2_new w2 _ _, Nat.le_refl _, by decide, rfl, rfl⟩⟩ ⟨g, 0, none⟩ n cap (rowR xs) rfl (by rw [rowR_len, ← hn.out]) (fun j u hj => own_cells (ownsRow_keep HR.out (sel := fun _ _ => True) (((Keep.refl _ w2).alloc _).alloc _) (fun _ _ _ => trivial)) hj) (one_cells xs) (by simp only [maxLen]; omega) (by omega) (by simp) ?_; intro v' w3 hown' hgrow _; rw [Nat.zero_add, List.nil_append] at hown'; obtain ⟨g', cap', rfl⟩ := own_pos hpos hown'; have HG := Lib.hid hgrow; have HO := Lib.hid hown'; clear hown' hgrow))
  have hgw : Hid (w1.heap.size ≤ g ∧ g < w2.heap.size ∧ n ≤ cap ∧ cap ≤ maxLen ∧ Blk w2 g cap) := by
    rcases HR.out.2 with ⟨hv, _⟩ | ⟨g2, cap2, cur, hv, hb, hg, hle, hcap, hcs, htk⟩
    · cases hv
    · cases hv
      exact ⟨hb, (Array.getElem?_eq_some_iff.1 hg).1, hle, hcap, cur, hg, hcs⟩
  have hg3 : Hid (Blk w3 g cap) := by
    obtain ⟨hb, hg, _, _, cur, hc, hz⟩ := hgw.out
    refine ⟨cur, (HG.out.block g (by simp; omega) (by simp [Value.ownBlock]; omega)).trans ((Below.heap_alloc _ _ _ (by simp; omega)).trans ((Below.heap_alloc _ _ _ hg).trans hc)), hz⟩
  have hncap : n ≤ cap := hgw.out.2.2.1
  go_loopw [7] (fun i wr => (Blk wr g cap ∧ Hid (Keep (fun k _ => k ≠ g) w3 wr)) ∧ ∃ k : Nat, k ≤ n ∧ i = .int .i64 k) (fun i _ => n - (intOf i).toNat)
  case atStart => exact ⟨⟨hg3.out, Keep.refl _ _⟩, 0, Nat.zero_le _, rfl⟩
  case round =>
    obtain ⟨⟨hbk, hkp⟩, k, hk, rfl⟩ := hrel
    by_cases hlt : k < n
    · have hlt' : (k : Int) < (n : Int) := by omega
      obtain ⟨⟨a, b, c, d, c0, c1, c2, c3⟩, f0, f1, f2, f3⟩ := hbk.cells (i := k) (by omega)
      have HBK := Lib.hid hbk
      clear hbk
      go_wp2_with fail
      go_roundw
      case rel => exact ⟨⟨(((HBK.out.set _ _).set _ _).set _ _).set _ _, keep_blk (keep_blk (keep_blk (keep_blk hkp.out HBK.out _ _) (HBK.out.set _ _) _ _) ((HBK.out.set _ _).set _ _) _ _) (((HBK.out.set _ _).set _ _).set _ _) _ _⟩, k + 1, by omega, by go_num⟩
      case measure => simp [intOf]; omega
    · have hlt' : ¬ (k : Int) < (n : Int) := by omega
      have HBK := Lib.hid hbk
      clear hbk
      obtain ⟨ys, hys⟩ := blk_owns (base := w1.heap.size) (n := n) HBK.out hgw.out.1 hncap hgw.out.2.2.2.1
      have HY := Lib.hid hys
      clear hys
      have hz3 : Hid (w1.heap.size ≤ wr.heap.size) := by
        have := hkp.out.size
        have := HG.out.size
        have := hgw.out.1
        have := hgw.out.2.1
        simp at *
        rw [Hid]; omega
      go_wp2_with (at_builtin; refine wpList_append_own _ rfl _ _ 24 rfl w1.heap.size 38 i0 _ 4 40 Tryd.underlying24 hi hz0 hz1 hz2 rfl (by decide) (.slice (some ⟨g, 0, none⟩) n cap) n ys rfl (ownsRow_keep HY.out (sel := fun _ _ => True) ((Keep.refl _ wr).alloc _) (fun _ _ _ => trivial)) ⟨wr.heap.size, 0, none⟩ 2 2 [.int .u8 0, .string ⟨#[]⟩, .int .i64 0, .int .i64 0, .int .u8 0, .string ⟨#[]⟩, .int .i64 0, .int .i64 0] rfl rfl (fun j u hj => cell_row_list (World.alloc_heap_new wr _) hj) (by simp [Value.oneCell']) (by simp only [maxLen]; omega) (by omega) (by have := hz3.out; simp; omega) ?_; intro v' w4 hown' hgrow _; obtain ⟨g2, cap2, rfl⟩ := own_pos (by omega) hown'; have HG2 := Lib.hid hgrow; clear hown' hgrow)
      have e1 : w.heap.size ≤ g := Nat.le_trans hw1 hgw.out.1
      have e2 := hgw.out.2.1
      have e3 := HG.out.size
      have e4 := hkp.out.size
      have e5 := HG2.out.size
      simp only [World.size_alloc] at e3 e5
      have bW : Below w.heap.size (w2.alloc (.cells #[.int .i64 fa, .int .i64 fr] 27)) w4 :=
        (((((Below.refl _ _).alloc (by simp; omega) _).grown HG.out (by simp; omega) (fun k e => by
          have : w2.heap.size + 1 = k := by simpa [Value.ownBlock] using e
          omega)).trans (hkp.out.below (by omega) (fun k _ hk => by omega))).alloc (by omega) _).grown HG2.out (by simp; omega) (fun k e => by
          have : g = k := by simpa [Value.ownBlock] using e
          omega)
      have I4 := Lib.hid (LInv.make HT.out (HI.out.below.trans bW))
      have k4 : Keep (fun k _ => k ≠ g) w3 w4 := (hkp.out.alloc _).grown HG2.out (fun r o e _ => by
        have : g = r := by simpa [Value.ownBlock] using e
        exact fun h => h this.symm)
      have r4 := ownsRow_keep HO.out k4 (fun g2 cs h => by omega)
      have h2 : (2 : Int) ≤ (n : Int) + 2 := by omega
      refine (HA.out _ I4.out).mono ?_
      rintro e w5 ⟨g5, cap5, rfl, hr5, hI5, hb5⟩
      have I5 := Lib.hid (hI5.next ((Below.refl _ w5).alloc (Nat.le_refl _) (.cells #[.int .i64 fa, .int .i64 fr] 27)))
      have t1 : Hid (TokRow (w5.alloc (.cells #[.int .i64 fa, .int .i64 fr] 27)) (.slice (some ⟨g', 0, none⟩) n cap') xs) := by
        refine (TokRow.keep (tokRow_owns (base := w2.heap.size + 1) (W := w4) ?_) hb5).keep ((Below.refl _ w5).alloc (Nat.le_refl _) _)
        rw [← hn.out]; exact r4
      have t2 : Hid (TokRow (w5.alloc (.cells #[.int .i64 fa, .int .i64 fr] 27)) (.slice (some ⟨g5, 0, none⟩) n cap5) xs) := by
        refine (tokRow_owns (base := w4.heap.size) (W := w5) ?_).keep ((Below.refl _ w5).alloc (Nat.le_refl _) _)
        rw [← hn.out]; exact hr5
      clear hI5 hb5 hr5 r4 k4 bW e1 e2 e3 e4 e5
      go_wp2_with (go_at_call 24; refine (same_true _ _ _ xs xs t1.out t2.out (EqToks.rfl' _ _) (by rw [← hn.out]; omega)).mono ?_; rintro e w6 ⟨rfl, m, rfl⟩)
      go_ret
      exact ⟨rfl, I5.out.next (below_drewN (Below.refl _ _) m)⟩
theorem own_walk (s : ByteArray) (hs : s.size ≤ reachBytes) (w : World) (T : LTabs w) :
    Calls Tryd.prog 13 #[.string s] w fun e w' => e = .returned (.bool true) ∧ LInv w w' := by
  by_cases h : (scanX s).1 = []
  · exact own_none s w T h
  · exact own_some s w T h
end Go.Proofs.YteedpojchapjgaaDoor

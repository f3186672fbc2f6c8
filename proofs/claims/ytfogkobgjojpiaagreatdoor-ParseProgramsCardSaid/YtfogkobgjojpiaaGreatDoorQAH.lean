/- The proof, part 8: texts that belong together, in one. -/
import Derived.Test.YtfogkobgjojpiaaGreatDoorQAG
import Derived.Test.YtfogkobgjojpiaaGreatDoorQAA
import Derived.Deep.QuietTactic
import Derived.BigQuiet
import Derived.WalkLawsBesides
import Derived.Laws.Rows
import Derived.Laws.Tables
set_option maxRecDepth 100000
set_option maxHeartbeats 20000000
namespace Go.Proofs.YtfogkobgjojpiaaGreatDoor
open Go.RowKit
set_option linter.unusedVariables false
theorem nextR_fr (s : ByteArray) (p : Nat) : 0 ≤ (nextR s p).fr := by
 unfold nextR
 split
 · unfold nameR
   split
   · simp
   · split <;> simp
 · split
   · unfold numR
     cases valueO (numX s p).data.toList with
     | none => simp [numC]
     | some v => simp only [numC]; split <;> simp
   · split
     · simp [signR]
     · simp
theorem own_lt {W : World} {base : Nat} {e : TypeId} {size : Nat} {v : Value} {k : Nat} {xs : List Value} (h : W.ownsRow base e size v k xs) {n : Nat} (hn : W.heap.size ≤ n) : some n ≠ v.ownBlock := by
 rcases h.2 with ⟨rfl, _⟩ | ⟨g, cap, cur, rfl, _, hg, _⟩
 · simp [Value.ownBlock]
 · intro e
   have h1 : g = n := by simpa [Value.ownBlock] using e.symm
   have := (Array.getElem?_eq_some_iff.1 hg).1
   omega
def frontPost (s : ByteArray) (n₀ : Nat) (W : World) (e : Ending) : Prop :=
 ∃ v, e = .returned (.tuple #[v, .int .i64 (frontR s).2.2, .int .i64 (frontR s).2.1]) ∧ W.ownsRow n₀ 108 4 v (frontR s).1.length (rowR (frontR s).1) ∧ (v = .slice none 0 0 ↔ (frontR s).1 = [])
theorem front_any (s : ByteArray) (hs : s.size ≤ 3000000000000) (w : World) :
 Calls Tryz.prog 118 #[.string s] w fun e w' => frontPost s w.heap.size w' e ∧ Below w.heap.size w w' := by
 obtain ⟨i0, hi, hz0, hz1, hz2⟩ := info_parts infoTok
 have HK0 : Hid (∀ W : World, Calls Tryz.prog 161 #[.string s, .int .i64 0] W fun e w' => e = .returned (.int .i64 ((passN (bytesFrom s 0) : Nat) : Int)) ∧ W = w') := fun W => by
  have k := skip_any s (by omega) 0 (Nat.zero_le _) W
  rw [Nat.zero_add] at k
  exact k
 go_enter Tryz.func118, Tryz.ntmps118
 go_wp2_with (go_at_call 161; refine (HK0.out _).mono ?_; rintro e w' ⟨rfl, rfl⟩)
 clear HK0
 go_loopw [2, 3, 4, 5, 6, 7, 8, 9] (fun _ _ _ v i _ _ _ wr => ∃ (pre : List Res) (k f : Nat), k ≤ s.size ∧ s.size < f + k ∧ pre.length ≤ k ∧ i = .int .i64 k ∧ wr.ownsRow w.heap.size 108 4 v pre.length (rowR pre) ∧ (v = .slice none 0 0 ↔ pre = []) ∧ Hid (Below w.heap.size w wr) ∧ Hid ((frontR s).1 = pre ++ (goH s f k).1 ∧ (frontR s).2 = (goH s f k).2)) (fun _ _ _ _ i _ _ _ _ => s.size - (intOf i).toNat)
 case atStart =>
  refine ⟨[], passN (bytesFrom s 0), s.size + 1, ?_, by omega, Nat.zero_le _, rfl, World.ownsRow_nil _ _ _ _, by simp, Below.refl _ _, ⟨rfl, rfl⟩⟩
  have := passN_le _ (bytesFrom s 0) (Nat.le_refl _)
  rw [from_len] at this
  omega
 case round =>
  obtain ⟨pre, k, f, hk, hf, hpk, rfl, hrow, hnil, hB, hfr⟩ := hrel
  by_cases hlt : k < s.size
  · have hlt' : (k : Int) < (s.size : Int) := by omega
    have HROW := Lib.hid hrow
    have HNIL := Lib.hid hnil
    clear hrow hnil
    obtain ⟨f, rfl⟩ : ∃ f', f = f' + 1 := ⟨f - 1, by omega⟩
    have H1 : Hid (∀ W : World, Calls Tryz.prog 162 #[.string s, .int .i64 k] W fun e w' => onePost s k e ∧ Below W.heap.size W w') := fun W => one_any s (by omega) k hlt W
    obtain ⟨R, hR⟩ : ∃ R, Hid (R = nextR s k) := ⟨_, rfl⟩
    have hfr0 := nextR_fr s k
    have hgd := fun h => nextR_good s k hlt h
    rw [← hR.out] at hfr0 hgd
    by_cases hr : R.fr = 0
    · obtain ⟨g1, g2, g3⟩ := hgd hr
      have hg := Lib.hid (goH_tok (f := f) hlt (by rw [← hR.out]; exact hr))
      obtain ⟨rk, rx, rw0, rp, ra, rr⟩ := R
      have hr' : rr = 0 := hr
      subst hr'
      have q1 : 0 < rx.size := g1
      have q2 : k + rx.size ≤ s.size := g2
      clear g1 g2 g3 hgd hfr0 hr
      have hnx : Hid (nx s k = k + rx.size + passN (bytesFrom s (k + rx.size))) := by
       unfold nx
       rw [Hid, ← hR.out]
      have hnx2 : Hid (nx s k ≤ s.size) := by
       have := passN_le _ (bytesFrom s (k + rx.size)) (Nat.le_refl _)
       rw [from_len] at this
       rw [Hid, hnx.out]
       omega
      have hnx3 : Hid (k + rx.size ≤ nx s k) := by rw [Hid, hnx.out]; omega
      have H2 : Hid (∀ W : World, Calls Tryz.prog 162 #[.string s, .int .i64 k] W fun e w' => e = .returned (.tuple #[.agg #[.int .u8 rk, .string rx, .int .i64 rw0, .int .i64 rp], .int .i64 0, .int .i64 ra]) ∧ Below W.heap.size W w') := fun W => by
       refine (H1.out W).mono ?_
       rintro e w' ⟨⟨a, b, c, d, rfl, h⟩, hb⟩
       rw [← hR.out] at h
       obtain ⟨rfl, rfl, rfl, rfl⟩ := h rfl
       rw [← hR.out]
       exact ⟨rfl, hb⟩
      have H3 : Hid (∀ W : World, Calls Tryz.prog 161 #[.string s, .int .i64 ((k : Int) + (rx.size : Int))] W fun e w' => e = .returned (.int .i64 ((nx s k : Nat) : Int)) ∧ W = w') := fun W => by
       have q := skip_any s (by omega) (k + rx.size) q2 W
       rw [← hnx.out, Int.natCast_add] at q
       exact q
      clear H1
      go_wp2_with (first
       | (go_at_call 162; refine (H2.out _).mono ?_; rintro e w1 ⟨rfl, hb1⟩; have HB1 := Lib.hid hb1; clear hb1)
       | (go_at_call 161; refine (H3.out _).mono ?_; rintro e w' ⟨rfl, rfl⟩)
       | (at_builtin; refine wpList_append_own _ rfl _ _ 59 rfl w.heap.size 108 i0 _ 4 40 Tryz.underlying59 hi hz0 hz1 hz2 rfl (by decide) u5 _ _ rfl (ownsRow_keep HROW.out (sel := fun _ _ => True) (((Keep.of_below HB1.out).alloc _).alloc _) (fun _ _ _ => trivial)) ⟨w1.heap.size + 1, 0, none⟩ 1 1 [.int .u8 rk, .string rx, .int .i64 rw0, .int .i64 rp] rfl rfl (fun j u hj => cell_four (heap_alloc2_new w1 _ _) j u hj) (by simp [Value.oneCell']) (by simp only [maxLen]; omega) (by omega) (by have := hB.out.size; have := HB1.out.size; simp; omega) ?_; intro v' w2 hown' hgrow _; obtain ⟨g', cap', rfl⟩ := ownsRow_succ hown'; have HO := Lib.hid hown'; have HG := Lib.hid hgrow; have hcell : w2.cell? ⟨w1.heap.size, 1, none⟩ = some (.string rx) := (World.cell?_of_block (hgrow.block _ (by simp; omega) (own_lt HROW.out HB1.out.size))).trans (cell_of_row _ _ 1 _ _ _ (heap_alloc2_old w1 _ _)); clear hown' hgrow))
      have hw2 : Hid (Below w.heap.size w w2) := by
       have z1 := hB.out.size
       have z2 := HB1.out.size
       refine (((hB.out.trans (HB1.out.mono z1)).alloc (by omega) _).alloc (by simp; omega) _).grown HG.out (by simp; omega) (fun r er => ?_)
       rcases HROW.out.2 with ⟨rfl, _⟩ | ⟨g, cap, cur, rfl, hb, _, _⟩
       · simp [Value.ownBlock] at er
       · obtain rfl : g = r := by simpa [Value.ownBlock] using er
         exact hb
      go_roundw
      case rel => exact ⟨pre ++ [nextR s k], nx s k, f, hnx2.out, by have := hnx3.out; omega, by have := hnx3.out; simp; omega, rfl, by rw [rowR_snoc, List.length_append, ← hR.out]; exact HO.out, by simp, hw2, by rw [Hid, hfr.out.1, hfr.out.2, hg.out]; simp⟩
      case measure =>
       have := hnx2.out
       have := hnx3.out
       simp [intOf]; omega
    · have hgt : 0 < R.fr := by omega
      have hg := Lib.hid (goH_fault (f := f) hlt (by rw [← hR.out]; exact hr))
      have H2 : Hid (∀ W : World, Calls Tryz.prog 162 #[.string s, .int .i64 k] W fun e w' => (∃ a b c d, e = .returned (.tuple #[.agg #[.int .u8 a, .string b, .int .i64 c, .int .i64 d], .int .i64 R.fr, .int .i64 R.fa])) ∧ Below W.heap.size W w') := fun W => by
       refine (H1.out W).mono ?_
       rintro e w' ⟨⟨a, b, c, d, rfl, h⟩, hb⟩
       rw [← hR.out]
       exact ⟨⟨a, b, c, d, rfl⟩, hb⟩
      obtain ⟨ra, hra⟩ : ∃ x, Hid (x = R.fa) := ⟨_, rfl⟩
      obtain ⟨rr, hrr⟩ : ∃ x, Hid (x = R.fr) := ⟨_, rfl⟩
      rw [← hra.out, ← hrr.out] at H2
      rw [← hrr.out] at hgt
      clear H1 hgd hfr0 hr
      go_wp2_with (go_at_call 162; refine (H2.out _).mono ?_; rintro e w1 ⟨⟨ta, tb, tc, td, rfl⟩, hb1⟩; have HB1 := Lib.hid hb1; clear hb1)
      have f1 : (frontR s).1 = pre := by rw [hfr.out.1, hg.out, List.append_nil]
      have f2 : (frontR s).2.1 = ra := by rw [hfr.out.2, hg.out, hra.out, hR.out]
      have f3 : (frontR s).2.2 = rr := by rw [hfr.out.2, hg.out, hrr.out, hR.out]
      have z1 := hB.out.size
      have z2 := HB1.out.size
      refine bodyPost_ret (v := .tuple #[u5, .int .i64 rr, .int .i64 ra]) (by simp [results, Tryz.results118, go_sem]) rfl ⟨?_, ?_⟩
      · refine ⟨u5, by rw [f2, f3], ?_, ?_⟩
        · rw [f1]; exact ownsRow_keep HROW.out (sel := fun _ _ => True) ((Keep.of_below HB1.out).alloc _) (fun _ _ _ => trivial)
        · rw [f1]; exact HNIL.out
      · exact (hB.out.trans (HB1.out.mono z1)).alloc (by omega) _
  · have hlt' : ¬ (k : Int) < (s.size : Int) := by omega
    have hg := Lib.hid (goH_end (f := f) hlt)
    have HROW := Lib.hid hrow
    have HNIL := Lib.hid hnil
    clear hrow hnil
    go_wp2_with fail
    have f1 : (frontR s).1 = pre := by rw [hfr.out.1, hg.out, List.append_nil]
    have f2 : (frontR s).2.1 = 0 := by rw [hfr.out.2, hg.out]
    have f3 : (frontR s).2.2 = 0 := by rw [hfr.out.2, hg.out]
    refine bodyPost_ret (v := .tuple #[u5, .int .i64 0, .int .i64 0]) (by simp [results, Tryz.results118, go_sem]) rfl ⟨?_, hB.out⟩
    refine ⟨u5, by rw [f2, f3], ?_, ?_⟩
    · rw [f1]; exact HROW.out
    · rw [f1]; exact HNIL.out
open Go.RowKit
set_option linter.unusedVariables false
theorem ownsRow_base {W : World} {base base' : Nat} {e : TypeId} {size : Nat} {v : Value} {k : Nat} {xs : List Value} (h : W.ownsRow base e size v k xs) (hb : base' ≤ base) : W.ownsRow base' e size v k xs := by
 refine ⟨h.1, ?_⟩
 rcases h.2 with h2 | ⟨g, cap, cur, hv, hg, rest⟩
 · exact .inl h2
 · exact .inr ⟨g, cap, cur, hv, Nat.le_trans hb hg, rest⟩
theorem flt_two {W : World} {n : Nat} (hfb : FltBox W n) (a r : Int) : Keep (fun _ o => IsTy 108 o) W ((W.setCell ⟨n, 0, none⟩ (.int .i64 a)).setCell ⟨n, 1, none⟩ (.int .i64 r)) ∧ ((W.setCell ⟨n, 0, none⟩ (.int .i64 a)).setCell ⟨n, 1, none⟩ (.int .i64 r)).heap[n]? = some (.cells #[.int .i64 a, .int .i64 r] 28 (0, 0)) := by
 have h1 := heap_setCell_same W n 0 _ _ (.int .i64 a) hfb
 exact ⟨((Keep.refl (fun _ o => IsTy 108 o) W).setCell (p := ⟨n, 0, none⟩) _ hfb (not_ty (t := 28) (u := 108) (by decide))).setCell (p := ⟨n, 1, none⟩) _ h1 (not_ty (t := 28) (u := 108) (by decide)), heap_setCell_same _ n 1 _ _ (.int .i64 r) h1⟩
theorem goH_nonneg (s : ByteArray) : ∀ (f q : Nat), 0 ≤ (goH s f q).2.2
 | 0, _ => Int.le_refl _
 | f + 1, q => by
   by_cases hq : q < s.size
   · by_cases hr : (nextR s q).fr = 0
     · rw [goH_tok hq hr]; exact goH_nonneg s f _
     · rw [goH_fault hq hr]; exact nextR_fr s q
   · rw [goH_end hq]; exact Int.le_refl _
theorem rscan_any (s : ByteArray) (w : World) :
 Calls Tryz.prog 68 #[.string s] w fun e w' => (∃ v, e = .returned v ∧ scanPost s w.heap.size w' v) ∧ Below w.heap.size w w' := by
 by_cases hl : 65536 < s.size
 · have hl' : (65536 : Int) < (s.size : Int) := by omega
   go_enter Tryz.func68, Tryz.ntmps68
   go_wp2
   refine bodyPost_ret (v := .tuple #[.slice none 0 0, .int .i64 4, .agg #[.int .i64 0, .int .i64 0]]) (by simp [results, Tryz.results68, go_sem]) rfl ⟨⟨_, rfl, ?_⟩, (Below.refl _ w).alloc (Nat.le_refl _) _⟩
   unfold scanPost
   rw [if_pos hl]
   rfl
 · have hl' : ¬ (65536 : Int) < (s.size : Int) := by omega
   have hfr0 : 0 ≤ (frontR s).2.2 := goH_nonneg s _ _
   obtain ⟨R, hR⟩ : ∃ R, Hid (R = frontR s) := ⟨_, rfl⟩
   have HF : Hid (∀ W : World, Calls Tryz.prog 118 #[.string s] W fun e w' => (∃ v, e = .returned (.tuple #[v, .int .i64 R.2.2, .int .i64 R.2.1]) ∧ w'.ownsRow W.heap.size 108 4 v R.1.length (rowR R.1) ∧ (v = .slice none 0 0 ↔ R.1 = [])) ∧ Below W.heap.size W w') := fun W => by
    rw [hR.out]; exact front_any s (by omega) W
   rw [← hR.out] at hfr0
   obtain ⟨rxs, ra, rr⟩ := R
   simp only at hfr0 HF
   by_cases hr : rr = 0
   · subst hr
     clear hfr0
     go_enter Tryz.func68, Tryz.ntmps68
     go_wp2_with (go_at_call 118; refine (HF.out _).mono ?_; rintro e w1 ⟨⟨v, rfl, hrow, hnil⟩, hb1⟩; have hfb : Hid (FltBox w1 w.heap.size) := (hb1.block _ (by simp)).trans (World.alloc_heap_new w _); obtain ⟨⟨b0, b1⟩, b2, b3⟩ := row2 hfb.out; have HB1 := Lib.hid hb1; have HROW := Lib.hid hrow; have HNIL := Lib.hid hnil; clear hb1 hrow hnil)
     obtain ⟨k1, k2⟩ := flt_two hfb.out 0 0
     obtain ⟨⟨z0, z1⟩, _⟩ := row2 k2
     refine bodyPost_ret (v := .tuple #[v, .int .i64 0, .agg #[.int .i64 0, .int .i64 0]]) (by simp [results, Tryz.results68, go_sem, z0, z1]) rfl ⟨⟨_, rfl, ?_⟩, ?_⟩
     · unfold scanPost
       rw [if_neg hl, ← hR.out, if_pos rfl]
       exact ⟨v, rfl, ownsRow_base (ownsRow_keep HROW.out k1 (fun g cs _ => ⟨_, _, rfl⟩)) (by simp), HNIL.out⟩
     · exact (((((Below.refl _ w).alloc (Nat.le_refl _) _).trans (HB1.out.mono (by simp))).setCell (p := ⟨w.heap.size, 0, none⟩) (Nat.le_refl _) _).setCell (p := ⟨w.heap.size, 1, none⟩) (Nat.le_refl _) _)
   · have hgt : 0 < rr := by omega
     clear hfr0 hr
     go_enter Tryz.func68, Tryz.ntmps68
     go_wp2_with (go_at_call 118; refine (HF.out _).mono ?_; rintro e w1 ⟨⟨v, rfl, hrow, hnil⟩, hb1⟩; have hfb : Hid (FltBox w1 w.heap.size) := (hb1.block _ (by simp)).trans (World.alloc_heap_new w _); obtain ⟨⟨b0, b1⟩, b2, b3⟩ := row2 hfb.out; have HB1 := Lib.hid hb1; have HROW := Lib.hid hrow; have HNIL := Lib.hid hnil; clear hb1 hrow hnil)
     obtain ⟨k1, k2⟩ := flt_two hfb.out ra rr
     obtain ⟨⟨z0, z1⟩, _⟩ := row2 k2
     refine bodyPost_ret (v := .tuple #[.slice none 0 0, .int .i64 20, .agg #[.int .i64 ra, .int .i64 rr]]) (by simp [results, Tryz.results68, go_sem, z0, z1]) rfl ⟨⟨_, rfl, ?_⟩, ?_⟩
     · unfold scanPost
       rw [if_neg hl, ← hR.out, if_neg (show ¬ rr = 0 by omega)]
       rfl
     · exact (((((Below.refl _ w).alloc (Nat.le_refl _) _).trans (HB1.out.mono (by simp))).setCell (p := ⟨w.heap.size, 0, none⟩) (Nat.le_refl _) _).setCell (p := ⟨w.heap.size, 1, none⟩) (Nat.le_refl _) _)
open Go.RowKit
set_option linter.unusedVariables false
def TokRow (W : World) (v : Value) (xs : List Res) : Prop :=
 ∃ oa cap, v = .slice oa xs.length cap ∧ ∀ (i : Nat) (x : Res), xs[i]? = some x → ∃ g off, oa = some ⟨g, off, none⟩ ∧
   W.cell? ⟨g, off + i * 4, none⟩ = some (.int .u8 x.kind) ∧ W.cell? ⟨g, off + i * 4 + 1, none⟩ = some (.string x.text) ∧ W.cell? ⟨g, off + i * 4 + 2, none⟩ = some (.int .i64 x.wd) ∧ W.cell? ⟨g, off + i * 4 + 3, none⟩ = some (.int .i64 x.place)
def scanX (s : ByteArray) : List Res × Int × Int × Int :=
 if 65536 < s.size then ([], 4, 0, 0) else if (frontR s).2.2 = 0 then ((frontR s).1, 0, 0, 0) else ([], 20, (frontR s).2.1, (frontR s).2.2)
theorem scanPost_row {s : ByteArray} {n₀ : Nat} {W : World} {v : Value} (h : scanPost s n₀ W v) :
 ∃ u, v = .tuple #[u, .int .i64 (scanX s).2.1, .agg #[.int .i64 (scanX s).2.2.1, .int .i64 (scanX s).2.2.2]] ∧ W.ownsRow n₀ 108 4 u (scanX s).1.length (rowR (scanX s).1) ∧ (u = .slice none 0 0 ↔ (scanX s).1 = []) := by
 unfold scanPost at h
 unfold scanX
 split at h
 · rename_i hl
   rw [if_pos hl]
   exact ⟨_, h, World.ownsRow_nil _ _ _ _, by simp⟩
 · rename_i hl
   rw [if_neg hl]
   split at h
   · rename_i hf
     rw [if_pos hf]
     exact h
   · rename_i hf
     rw [if_neg hf]
     exact ⟨_, h, World.ownsRow_nil _ _ _ _, by simp⟩
theorem scanX_len (s : ByteArray) : (scanX s).1.length ≤ 65536 := by
 unfold scanX
 split
 · exact Nat.zero_le _
 · split
   · have := front_len s; simp only; omega
   · exact Nat.zero_le _
theorem rowR_at : ∀ (xs : List Res) (i j : Nat) (x : Res), xs[i]? = some x → j < 4 → (rowR xs)[i * 4 + j]? = (tokCells x)[j]?
 | [], i, j, x, h, _ => by simp at h
 | y :: ys, 0, j, x, h, hj => by
   obtain rfl : y = x := by simpa using h
   have : rowR (y :: ys) = tokCells y ++ rowR ys := rfl
   rw [this, Nat.zero_mul, Nat.zero_add, List.getElem?_append_left (by show j < 4; exact hj)]
 | y :: ys, i + 1, j, x, h, hj => by
   have : rowR (y :: ys) = tokCells y ++ rowR ys := rfl
   rw [this, List.getElem?_append_right (by show 4 ≤ _; omega)]
   have e : (i + 1) * 4 + j - (tokCells y).length = i * 4 + j := by show (i + 1) * 4 + j - 4 = _; omega
   rw [e]
   exact rowR_at ys i j x (by simpa using h) hj
theorem tokRow_owns {W : World} {base : Nat} {u : Value} {xs : List Res} (h : W.ownsRow base 108 4 u xs.length (rowR xs)) : TokRow W u xs := by
 rcases h.2 with ⟨rfl, h0⟩ | ⟨g, cap, cur, rfl, hb, hg, hle, hcap, hcs, htk⟩
 · refine ⟨none, 0, by rw [h0], fun i x hx => ?_⟩
   have := (List.getElem?_eq_some_iff.1 hx).1
   omega
 · refine ⟨some ⟨g, 0, none⟩, cap, rfl, fun i x hx => ⟨g, 0, rfl, ?_⟩⟩
   have key : ∀ j u, j < 4 → (tokCells x)[j]? = some u → W.cell? ⟨g, i * 4 + j, none⟩ = some u := fun j u hj4 hu => by
    have h0 := rowR_at xs i j x hx hj4
    rw [hu, ← htk, List.getElem?_take] at h0
    split at h0
    · have h2 : cur[i * 4 + j]? = some u := by rw [← Array.getElem?_toList]; exact h0
      rw [cell_of_row W g (i * 4 + j) _ _ _ hg]; exact h2
    · cases h0
   simp only [Nat.zero_add]
   exact ⟨key 0 _ (by decide) rfl, key 1 _ (by decide) rfl, key 2 _ (by decide) rfl, key 3 _ (by decide) rfl⟩
theorem TokRow.keep {W W' : World} {u : Value} {xs : List Res} (h : TokRow W u xs) (hb : Below W.heap.size W W') : TokRow W' u xs := by
 obtain ⟨oa, cap, hu, hc⟩ := h
 refine ⟨oa, cap, hu, fun i x hx => ?_⟩
 obtain ⟨g, off, ho, a0, a1, a2, a3⟩ := hc i x hx
 have hg : g < W.heap.size := lt_of_at a0
 exact ⟨g, off, ho, (hb.cell (p := ⟨g, off + i * 4, none⟩) hg).trans a0, (hb.cell (p := ⟨g, off + i * 4 + 1, none⟩) hg).trans a1, (hb.cell (p := ⟨g, off + i * 4 + 2, none⟩) hg).trans a2, (hb.cell (p := ⟨g, off + i * 4 + 3, none⟩) hg).trans a3⟩
theorem scan_row (s : ByteArray) {w : World} (T : LTabs w) :
 Calls Tryz.prog 61 #[.string s] w fun e w' => ∃ u, e = .returned (.tuple #[u, .int .i64 (scanX s).2.1, .agg #[.int .i64 (scanX s).2.2.1, .int .i64 (scanX s).2.2.2]]) ∧ w'.ownsRow w.heap.size 108 4 u (scanX s).1.length (rowR (scanX s).1) ∧ (u = .slice none 0 0 ↔ (scanX s).1 = []) ∧ Below w.heap.size w w' := by
 refine (scan_any s w T).mono ?_
 rintro e w' ⟨⟨v, rfl, h⟩, hb⟩
 obtain ⟨u, rfl, h1, h2⟩ := scanPost_row h
 exact ⟨u, rfl, h1, h2, hb⟩
theorem rscan_row (s : ByteArray) (w : World) :
 Calls Tryz.prog 68 #[.string s] w fun e w' => ∃ u, e = .returned (.tuple #[u, .int .i64 (scanX s).2.1, .agg #[.int .i64 (scanX s).2.2.1, .int .i64 (scanX s).2.2.2]]) ∧ w'.ownsRow w.heap.size 108 4 u (scanX s).1.length (rowR (scanX s).1) ∧ (u = .slice none 0 0 ↔ (scanX s).1 = []) ∧ Below w.heap.size w w' := by
 refine (rscan_any s w).mono ?_
 rintro e w' ⟨⟨v, rfl, h⟩, hb⟩
 obtain ⟨u, rfl, h1, h2⟩ := scanPost_row h
 exact ⟨u, rfl, h1, h2, hb⟩
open Go.RowKit
set_option linter.unusedVariables false
def levelOf (o : Int) : Int := if 19 ≤ o then 0 else lev.getD o.toNat 0
theorem level_any (o : Int) (h0 : 0 ≤ o) (h1 : o ≤ 255) (w : World) (T : Tabs w) :
 Calls Tryz.prog 144 #[.int .u8 o] w fun e w' => e = .returned (.int .i64 (levelOf o)) ∧ w = w' := by
 by_cases h : 19 ≤ o
 · have hl : levelOf o = 0 := by unfold levelOf; rw [if_pos h]
   rw [hl]; clear hl
   go_enter Tryz.func144, Tryz.ntmps144
   go_wp2
   go_ret
   exact ⟨rfl, rfl⟩
 · have hc := T.lev o.toNat (by omega)
   have hl : levelOf o = lev.getD o.toNat 0 := by unfold levelOf; rw [if_neg h]
   rw [hl]; clear hl
   obtain ⟨v, hv⟩ : ∃ v, v = lev.getD o.toNat 0 := ⟨_, rfl⟩
   rw [← hv] at hc ⊢
   clear hv T
   go_enter Tryz.func144, Tryz.ntmps144
   go_wp2
   go_ret
   exact ⟨rfl, rfl⟩
theorem two_yes (o : Int) (h0 : 0 ≤ o) (h1 : o ≤ 255) (hl : 0 < levelOf o) (hh : levelOf o < 9) (w : World) (T : Tabs w) :
 Calls Tryz.prog 97 #[.int .u8 o] w fun e w' => e = .returned (.bool true) ∧ w = w' := by
 have H := Lib.hid (level_any o h0 h1 w T)
 obtain ⟨v, hv⟩ : ∃ v, v = levelOf o := ⟨_, rfl⟩
 rw [← hv] at hl hh H
 clear hv T h0 h1
 go_enter Tryz.func97, Tryz.ntmps97
 go_wp2_with (go_at_call 144; refine (H.out).mono ?_; rintro e w' ⟨rfl, rfl⟩)
 go_ret
 exact ⟨rfl, rfl⟩
theorem two_no (o : Int) (h0 : 0 ≤ o) (h1 : o ≤ 255) (hl : levelOf o = 0 ∨ levelOf o = 9) (w : World) (T : Tabs w) :
 Calls Tryz.prog 97 #[.int .u8 o] w fun e w' => e = .returned (.bool false) ∧ w = w' := by
 have H := Lib.hid (level_any o h0 h1 w T)
 clear T h0 h1
 rcases hl with hl | hl
 all_goals
  rw [hl] at H
  clear hl
  go_enter Tryz.func97, Tryz.ntmps97
  go_wp2_with (go_at_call 144; refine (H.out).mono ?_; rintro e w' ⟨rfl, rfl⟩)
  go_ret
  exact ⟨rfl, rfl⟩
def signOf (o : Int) : List UInt8 := if 19 ≤ o then [] else sgn.getD o.toNat []
theorem rlevel_great (o : Int) (h : 19 ≤ o) (w : World) : Calls Tryz.prog 223 #[.int .u8 o] w fun e w' => e = .returned (.int .i64 0) ∧ Below w.heap.size w w' := by
 go_enter Tryz.func223, Tryz.ntmps223
 go_wp2
 go_ret
 exact ⟨rfl, Below.refl _ _⟩
theorem rshow_great (o : Int) (h : 19 ≤ o) (w : World) : Calls Tryz.prog 232 #[.int .u8 o] w fun e w' => e = .returned (.string ⟨#[]⟩) ∧ Below w.heap.size w w' := by
 go_enter Tryz.func232, Tryz.ntmps232
 go_wp2
 go_ret
 exact ⟨rfl, Below.refl _ _⟩
theorem rlevel_small (o : Int) (h0 : 0 ≤ o) (h : o < 19) (w : World) : Calls Tryz.prog 223 #[.int .u8 o] w fun e w' => e = .returned (.int .i64 (levelOf o)) ∧ Below w.heap.size w w' := by
 have : o = 0 ∨ o = 1 ∨ o = 2 ∨ o = 3 ∨ o = 4 ∨ o = 5 ∨ o = 6 ∨ o = 7 ∨ o = 8 ∨ o = 9 ∨ o = 10 ∨ o = 11 ∨ o = 12 ∨ o = 13 ∨ o = 14 ∨ o = 15 ∨ o = 16 ∨ o = 17 ∨ o = 18 := by omega
 clear h0 h
 rcases this with rfl | rfl | rfl | rfl | rfl | rfl | rfl | rfl | rfl | rfl | rfl | rfl | rfl | rfl | rfl | rfl | rfl | rfl | rfl
 all_goals
  go_enter Tryz.func223, Tryz.ntmps223
  go_wp2
  go_ret
  exact ⟨rfl, (Below.refl _ _).alloc (Nat.le_refl _) _⟩
theorem rshow_small (o : Int) (h0 : 0 ≤ o) (h : o < 19) (w : World) : Calls Tryz.prog 232 #[.int .u8 o] w fun e w' => e = .returned (.string ⟨(signOf o).toArray⟩) ∧ Below w.heap.size w w' := by
 have : o = 0 ∨ o = 1 ∨ o = 2 ∨ o = 3 ∨ o = 4 ∨ o = 5 ∨ o = 6 ∨ o = 7 ∨ o = 8 ∨ o = 9 ∨ o = 10 ∨ o = 11 ∨ o = 12 ∨ o = 13 ∨ o = 14 ∨ o = 15 ∨ o = 16 ∨ o = 17 ∨ o = 18 := by omega
 clear h0 h
 rcases this with rfl | rfl | rfl | rfl | rfl | rfl | rfl | rfl | rfl | rfl | rfl | rfl | rfl | rfl | rfl | rfl | rfl | rfl | rfl
 all_goals
  go_enter Tryz.func232, Tryz.ntmps232
  go_wp2
  go_ret
  exact ⟨rfl, (Below.refl _ _).alloc (Nat.le_refl _) _⟩
theorem rlevel_any (o : Int) (h0 : 0 ≤ o) (w : World) : Calls Tryz.prog 223 #[.int .u8 o] w fun e w' => e = .returned (.int .i64 (levelOf o)) ∧ Below w.heap.size w w' := by
 by_cases h : 19 ≤ o
 · have e : levelOf o = 0 := by unfold levelOf; rw [if_pos h]
   rw [e]; exact rlevel_great o h w
 · exact rlevel_small o h0 (by omega) w
theorem rshow_any (o : Int) (h0 : 0 ≤ o) (w : World) : Calls Tryz.prog 232 #[.int .u8 o] w fun e w' => e = .returned (.string ⟨(signOf o).toArray⟩) ∧ Below w.heap.size w w' := by
 by_cases h : 19 ≤ o
 · have e : signOf o = [] := by unfold signOf; rw [if_pos h]
   rw [e]; exact rshow_great o h w
 · exact rshow_small o h0 (by omega) w
def sgnAt (k : Nat) : List UInt8 := sgn.getD k []
def fndFrom (l : List UInt8) : Nat → Nat → Int × Bool
 | 0, _ => (0, false)
 | n + 1, k => if sgnAt k = l then ((k : Int), true) else fndFrom l n (k + 1)
def fnd (l : List UInt8) : Int × Bool := fndFrom l 16 1
theorem fnd_step {l : List UInt8} {k : Nat} (h0 : 1 ≤ k) (h1 : k ≤ 16) (hp : fndFrom l (17 - k) k = fnd l) (hn : sgnAt k ≠ l) : fndFrom l (17 - (k + 1)) (k + 1) = fnd l := by
 rw [← hp, show 17 - k = (17 - (k + 1)) + 1 by omega]
 simp only [fndFrom]
 rw [if_neg hn]
theorem fnd_hit {l : List UInt8} {k : Nat} (h0 : 1 ≤ k) (h1 : k ≤ 16) (hp : fndFrom l (17 - k) k = fnd l) (hn : sgnAt k = l) : fnd l = ((k : Int), true) := by
 rw [← hp, show 17 - k = (17 - (k + 1)) + 1 by omega]
 simp only [fndFrom]
 rw [if_pos hn]
theorem signOf_nat (k : Nat) (h : k < 19) : signOf (k : Int) = sgnAt k := by
 unfold signOf sgnAt
 rw [if_neg (by omega)]
 simp
theorem rfind_any (s : ByteArray) (w : World) : Calls Tryz.prog 222 #[.string s] w fun e w' => e = .returned (.tuple #[.int .u8 (fnd s.data.toList).1, .bool (fnd s.data.toList).2]) ∧ Below w.heap.size w w' := by
 obtain ⟨R, hR⟩ : ∃ R, R = fnd s.data.toList := ⟨_, rfl⟩
 rw [← hR]
 have HR := Lib.hid hR
 clear hR
 go_enter Tryz.func222, Tryz.ntmps222
 go_wp2_with fail
 go_loopw [4] (fun o wr => ∃ k : Nat, 1 ≤ k ∧ k ≤ 17 ∧ o = .int .u8 k ∧ Hid (fndFrom s.data.toList (17 - k) k = fnd s.data.toList) ∧ Below w.heap.size w wr) (fun o _ => 17 - (intOf o).toNat)
 case atStart => exact ⟨1, by omega, by omega, rfl, rfl, Below.refl _ _⟩
 case round =>
  obtain ⟨k, hk1, hk2, rfl, hp, hB⟩ := hrel
  by_cases hk : k ≤ 16
  · obtain ⟨v, hv⟩ : ∃ v : ByteArray, v = ⟨(signOf (k : Int)).toArray⟩ := ⟨_, rfl⟩
    have H : Hid (∀ W : World, Calls Tryz.prog 232 #[.int .u8 (k : Int)] W fun e w' => e = .returned (.string v) ∧ Below W.heap.size W w') := fun W => by
     rw [hv]; exact rshow_any (k : Int) (by omega) W
    have hvl : v.data.toList = sgnAt k := by rw [hv, signOf_nat k (by omega)]
    clear hv
    by_cases he : v.data.toList = s.data.toList
    · have hres : Hid (R = ((k : Int), true)) := by rw [Hid, HR.out, fnd_hit hk1 hk hp.out (hvl.symm.trans he)]
      have ht : (v.toList == s.toList) = true := bytes_t he
      clear hvl he hp
      go_wp2_with (go_at_call 232; refine (H.out _).mono ?_; rintro e w1 ⟨rfl, hb⟩)
      go_ret2
      rw [hres.out]
      exact ⟨rfl, hB.trans (hb.mono hB.size)⟩
    · have hnx : Hid (fndFrom s.data.toList (17 - (k + 1)) (k + 1) = fnd s.data.toList) := fnd_step hk1 hk hp.out (fun h => he (hvl.trans h))
      have ht : (v.toList == s.toList) = false := bytes_f he
      clear hvl he hp
      go_wp2_with (go_at_call 232; refine (H.out _).mono ?_; rintro e w1 ⟨rfl, hb⟩)
      go_roundw
      case rel => exact ⟨k + 1, by omega, by omega, by go_num, hnx, hB.trans (hb.mono hB.size)⟩
      case measure => simp [intOf]; omega
  · obtain rfl : k = 17 := by omega
    have hres : Hid (R = (0, false)) := by rw [Hid, HR.out, ← hp.out]; rfl
    clear hp
    go_wp2_with fail
    go_ret2
    rw [hres.out]
    exact ⟨rfl, hB⟩
theorem Tabs.drewN {w : World} (T : Tabs w) (n : Nat) : Tabs (w.drewN n) := T.below (Nat.le_refl _) ⟨rfl, rfl, rfl, Nat.le_refl _, fun _ _ => rfl⟩
theorem found_yes (b : Nat) (k : Nat) (s v : ByteArray) (w : World) (T : Tabs w) (h1 : 1 ≤ k) (h2 : k ≤ 16) (hc : w.cell? ⟨b, 0, none⟩ = some (.string s)) (hv : w.cell? ⟨3, k, none⟩ = some (.string v)) :
 Calls Tryz.prog 174 #[.int .u8 (k : Int), .pointer (some ⟨b, 0, none⟩)] w fun e w' => e = .returned (.bool (v.toList == s.toList)) ∧ ∃ n, w' = w.drewN n := by
 have hl : 0 < levelOf (k : Int) ∧ levelOf (k : Int) < 9 := by
  have : k = 1 ∨ k = 2 ∨ k = 3 ∨ k = 4 ∨ k = 5 ∨ k = 6 ∨ k = 7 ∨ k = 8 ∨ k = 9 ∨ k = 10 ∨ k = 11 ∨ k = 12 ∨ k = 13 ∨ k = 14 ∨ k = 15 ∨ k = 16 := by omega
  rcases this with rfl | rfl | rfl | rfl | rfl | rfl | rfl | rfl | rfl | rfl | rfl | rfl | rfl | rfl | rfl | rfl <;> decide
 have H2 : ∀ W : World, Tabs W → Calls Tryz.prog 97 #[.int .u8 (k : Int)] W fun e w' => e = .returned (.bool true) ∧ w' = W := fun W TW =>
  (two_yes (k : Int) (by omega) (by omega) hl.1 hl.2 W TW).mono fun _ _ ⟨a, c⟩ => ⟨a, c.symm⟩
 have HH := Lib.hid H2
 clear H2 hl
 go_enter Tryz.func174, Tryz.ntmps174
 go_wp2
 go_quiet ((go_at_call 97; exact Calls.quiet_of_same (HH.out _ (T.drewN _))))
 go_wp2
 go_ret
 exact ⟨rfl, _, rfl⟩
theorem found_no (b : Nat) (k : Nat) (w : World) (T : Tabs w) (h : k = 0 ∨ k = 17 ∨ k = 18) :
 Calls Tryz.prog 174 #[.int .u8 (k : Int), .pointer (some ⟨b, 0, none⟩)] w fun e w' => e = .returned (.bool false) ∧ ∃ n, w' = w.drewN n := by
 have hl : levelOf (k : Int) = 0 ∨ levelOf (k : Int) = 9 := by
  rcases h with rfl | rfl | rfl <;> decide
 have H2 : ∀ W : World, Tabs W → Calls Tryz.prog 97 #[.int .u8 (k : Int)] W fun e w' => e = .returned (.bool false) ∧ w' = W := fun W TW =>
  (two_no (k : Int) (by omega) (by omega) hl W TW).mono fun _ _ ⟨a, c⟩ => ⟨a, c.symm⟩
 have HH := Lib.hid H2
 clear H2 hl h
 go_enter Tryz.func174, Tryz.ntmps174
 go_wp2
 go_quiet ((go_at_call 97; exact Calls.quiet_of_same (HH.out _ (T.drewN _))))
 go_wp2
 go_ret
 exact ⟨rfl, _, rfl⟩
def FP (l : List UInt8) (k : Nat) : Prop := (1 ≤ k → k ≤ 17 → fndFrom l (17 - k) k = fnd l) ∧ (17 ≤ k → fnd l = (0, false))
theorem below_drewN {B : Nat} {a w : World} (h : Below B a w) (n : Nat) : Below B a (w.drewN n) := ⟨h.os, h.tape, h.output, h.size, h.block⟩
theorem find_any (s : ByteArray) (w : World) (T : Tabs w) : Calls Tryz.prog 148 #[.string s] w fun e w' => e = .returned (.tuple #[.int .u8 (fnd s.data.toList).1, .bool (fnd s.data.toList).2]) ∧ Below w.heap.size w w' := by
 obtain ⟨R, hR⟩ : ∃ R, R = fnd s.data.toList := ⟨_, rfl⟩
 rw [← hR]
 have HR := Lib.hid hR
 clear hR
 have hA : Below w.heap.size w (w.alloc (.cells #[.string s] 9)) := (Below.refl _ _).alloc (Nat.le_refl _) _
 have TA := T.below (Nat.le_refl _) hA
 clear T
 go_enter Tryz.func148, Tryz.ntmps148
 go_wp2_with fail
 go_loopw [7] (fun o wr => ∃ k : Nat, k ≤ 19 ∧ o = .int .u8 k ∧ FP s.data.toList k ∧ wr.cell? ⟨w.heap.size, 0, none⟩ = some (.string s) ∧ Tabs wr ∧ Below w.heap.size w wr) (fun o _ => 19 - (intOf o).toNat)
 case atStart => exact ⟨0, by omega, rfl, ⟨fun h => by omega, fun h => by omega⟩, cell_of_row _ _ 0 _ _ _ (heap_alloc_new _ _), TA, hA⟩
 case round =>
  obtain ⟨k, hk, rfl, hp, hc, T, hB⟩ := hrel
  clear TA hA
  have hz := hB.size
  by_cases hk19 : k < 19
  · by_cases hin : 1 ≤ k ∧ k ≤ 16
    · obtain ⟨v, hv⟩ : ∃ v : ByteArray, v = ⟨(sgn.getD k []).toArray⟩ := ⟨_, rfl⟩
      have hcv := T.sgn k hk19
      rw [← hv] at hcv
      have hvl : v.data.toList = sgnAt k := by rw [hv]; rfl
      have hp1 := hp.1 hin.1 (by omega)
      have H := Lib.hid (found_yes w.heap.size k s v wr T hin.1 hin.2 hc hcv)
      clear hv hcv
      by_cases he : v.data.toList = s.data.toList
      · have hres : Hid (R = ((k : Int), true)) := by rw [Hid, HR.out, fnd_hit hin.1 hin.2 hp1 (hvl.symm.trans he)]
        have ht : (v.toList == s.toList) = true := bytes_t he
        rw [ht] at H
        clear hvl he hp hp1 hin ht
        go_wp2_with (go_at_call 174; refine (H.out).mono ?_; rintro e w1 ⟨rfl, n, rfl⟩)
        go_ret2
        rw [hres.out]
        exact ⟨rfl, below_drewN hB _⟩
      · have hnx : FP s.data.toList (k + 1) := by
         have hst := fnd_step hin.1 hin.2 hp1 (fun h => he (hvl.trans h))
         refine ⟨fun _ _ => hst, fun h => ?_⟩
         obtain rfl : k = 16 := by omega
         exact hst.symm
        have ht : (v.toList == s.toList) = false := bytes_f he
        rw [ht] at H
        clear hvl he hp hp1 hin ht
        go_wp2_with (go_at_call 174; refine (H.out).mono ?_; rintro e w1 ⟨rfl, n, rfl⟩)
        go_roundw
        case rel => exact ⟨k + 1, by omega, by go_num, hnx, hc, T.drewN _, below_drewN hB _⟩
        case measure => simp [intOf]; omega
    · have H := Lib.hid (found_no w.heap.size k wr T (by omega))
      have hnx : FP s.data.toList (k + 1) := by
       refine ⟨fun _ h => ?_, fun h => hp.2 (by omega)⟩
       obtain rfl : k = 0 := by omega
       rfl
      clear hp hin
      go_wp2_with (go_at_call 174; refine (H.out).mono ?_; rintro e w1 ⟨rfl, n, rfl⟩)
      go_roundw
      case rel => exact ⟨k + 1, by omega, by go_num, hnx, hc, T.drewN _, below_drewN hB _⟩
      case measure => simp [intOf]; omega
  · have hres : Hid (R = (0, false)) := by rw [Hid, HR.out, hp.2 (by omega)]
    clear hp
    go_wp2_with fail
    go_ret2
    rw [hres.out]
    exact ⟨rfl, hB⟩
end Go.Proofs.YtfogkobgjojpiaaGreatDoor

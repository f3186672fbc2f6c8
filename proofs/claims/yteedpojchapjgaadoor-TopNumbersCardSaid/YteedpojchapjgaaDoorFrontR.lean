/- The lexer's reference: the tokens ahead of the first fault. -/
import Derived.Test.YteedpojchapjgaaDoorOne2
namespace Go.Proofs.YteedpojchapjgaaDoor
open Go.RowKit
set_option linter.unusedVariables false

theorem nextR_fr (s : ByteArray) (p : Nat) : 0 ≤ (nextR s p).fr := by
  unfold nextR
  split
  · unfold nameR
    split
    · simp
    · split <;> simp
  · split
    · unfold numR
      cases valueO (numX s p).data.toList with
      | none => simp [numC]
      | some v => simp only [numC]; split <;> simp
    · split
      · simp [signR]
      · simp
theorem own_lt {W : World} {base : Nat} {e : TypeId} {size : Nat} {v : Value} {k : Nat} {xs : List Value} (h : W.ownsRow base e size v k xs) {n : Nat} (hn : W.heap.size ≤ n) : some n ≠ v.ownBlock := by
  rcases h.2 with ⟨rfl, _⟩ | ⟨g, cap, cur, rfl, _, hg, _⟩
  · simp [Value.ownBlock]
  · intro e
    have h1 : g = n := by simpa [Value.ownBlock] using e.symm
    have := (Array.getElem?_eq_some_iff.1 hg).1
    omega
def frontPost (s : ByteArray) (n₀ : Nat) (W : World) (e : Ending) : Prop :=
  ∃ v, e = .returned (.tuple #[v, .int .i64 (frontR s).2.2, .int .i64 (frontR s).2.1]) ∧ W.ownsRow n₀ 38 4 v (frontR s).1.length (rowR (frontR s).1) ∧ (v = .slice none 0 0 ↔ (frontR s).1 = [])
theorem goH_at (s : ByteArray) (f q : Nat) : (goH s f q).2.2 = 0 → (goH s f q).2.1 = 0 ∨ True := fun _ => .inr trivial
set_option maxRecDepth 100000 in
set_option maxHeartbeats 8000000 in
theorem front_any (s : ByteArray) (hs : s.size ≤ 3000000000000) (w : World) :
    Calls Tryd.prog 25 #[.string s] w fun e w' => frontPost s w.heap.size w' e ∧ Below w.heap.size w w' := by
  obtain ⟨i0, hi, hz0, hz1, hz2⟩ := info_parts infoTok
  have HK0 : Hid (∀ W : World, Calls Tryd.prog 41 #[.string s, .int .i64 0] W fun e w' => e = .returned (.int .i64 ((passN (bytesFrom s 0) : Nat) : Int)) ∧ W = w') := fun W => by
    have k := skip_any s (by omega) 0 (Nat.zero_le _) W
    rw [Nat.zero_add] at k
    exact k
  go_enter Tryd.func25, Tryd.ntmps25
  go_wp2_with (go_at_call 41; refine (HK0.out _).mono ?_; rintro e w' ⟨rfl, rfl⟩)
  clear HK0
  go_loopw [2, 3, 4, 5, 6, 7, 8, 9] (fun _ _ _ v i _ _ _ wr => ∃ (pre : List Res) (k f : Nat), k ≤ s.size ∧ s.size < f + k ∧ pre.length ≤ k ∧ i = .int .i64 k ∧ wr.ownsRow w.heap.size 38 4 v pre.length (rowR pre) ∧ (v = .slice none 0 0 ↔ pre = []) ∧ Hid (Below w.heap.size w wr) ∧ Hid ((frontR s).1 = pre ++ (goH s f k).1 ∧ (frontR s).2 = (goH s f k).2)) (fun _ _ _ _ i _ _ _ _ => s.size - (intOf i).toNat)
  case atStart =>
    refine ⟨[], passN (bytesFrom s 0), s.size + 1, ?_, by omega, Nat.zero_le _, rfl, World.ownsRow_nil _ _ _ _, by simp, Below.refl _ _, ⟨rfl, rfl⟩⟩
    have := passN_le _ (bytesFrom s 0) (Nat.le_refl _)
    rw [from_len] at this
    omega
  case round =>
    obtain ⟨pre, k, f, hk, hf, hpk, rfl, hrow, hnil, hB, hfr⟩ := hrel
    by_cases hlt : k < s.size
    · have hlt' : (k : Int) < (s.size : Int) := by omega
      have HROW := Lib.hid hrow
      have HNIL := Lib.hid hnil
      clear hrow hnil
      obtain ⟨f, rfl⟩ : ∃ f', f = f' + 1 := ⟨f - 1, by omega⟩
      have H1 : Hid (∀ W : World, Calls Tryd.prog 42 #[.string s, .int .i64 k] W fun e w' => onePost s k e ∧ Below W.heap.size W w') := fun W => one_any s (by omega) k hlt W
      obtain ⟨R, hR⟩ : ∃ R, Hid (R = nextR s k) := ⟨_, rfl⟩
      have hfr0 := nextR_fr s k
      have hgd := fun h => nextR_good s k hlt h
      rw [← hR.out] at hfr0 hgd
      by_cases hr : R.fr = 0
      · obtain ⟨g1, g2, g3⟩ := hgd hr
        have hg := Lib.hid (goH_tok (f := f) hlt (by rw [← hR.out]; exact hr))
        obtain ⟨rk, rx, rw0, rp, ra, rr⟩ := R
        have hr' : rr = 0 := hr
        subst hr'
        have q1 : 0 < rx.size := g1
        have q2 : k + rx.size ≤ s.size := g2
        clear g1 g2 g3 hgd hfr0 hr
        have hnx : Hid (nx s k = k + rx.size + passN (bytesFrom s (k + rx.size))) := by
          unfold nx
          rw [Hid, ← hR.out]
        have hnx2 : Hid (nx s k ≤ s.size) := by
          have := passN_le _ (bytesFrom s (k + rx.size)) (Nat.le_refl _)
          rw [from_len] at this
          rw [Hid, hnx.out]
          omega
        have hnx3 : Hid (k + rx.size ≤ nx s k) := by rw [Hid, hnx.out]; omega
        have H2 : Hid (∀ W : World, Calls Tryd.prog 42 #[.string s, .int .i64 k] W fun e w' => e = .returned (.tuple #[.agg #[.int .u8 rk, .string rx, .int .i64 rw0, .int .i64 rp], .int .i64 0, .int .i64 ra]) ∧ Below W.heap.size W w') := fun W => by
          refine (H1.out W).mono ?_
          rintro e w' ⟨⟨a, b, c, d, rfl, h⟩, hb⟩
          rw [← hR.out] at h
          obtain ⟨rfl, rfl, rfl, rfl⟩ := h rfl
          rw [← hR.out]
          exact ⟨rfl, hb⟩
        have H3 : Hid (∀ W : World, Calls Tryd.prog 41 #[.string s, .int .i64 ((k : Int) + (rx.size : Int))] W fun e w' => e = .returned (.int .i64 ((nx s k : Nat) : Int)) ∧ W = w') := fun W => by
          have q := skip_any s (by omega) (k + rx.size) q2 W
          rw [← hnx.out, Int.natCast_add] at q
          exact q
        clear H1
        go_wp2_with (first
          | (go_at_call 42; refine (H2.out _).mono ?_; rintro e w1 ⟨rfl, hb1⟩; have HB1 := Lib.hid hb1; clear hb1)
          | (go_at_call 41; refine (H3.out _).mono ?_; rintro e w' ⟨rfl, rfl⟩)
          | (at_builtin; refine wpList_append_own _ rfl _ _ 24 rfl w.heap.size 38 i0 _ 4 40 Tryd.underlying24 hi hz0 hz1 hz2 rfl (by decide) u5 _ _ rfl (ownsRow_keep HROW.out (sel := fun _ _ => True) (((Keep.of_below HB1.out).alloc _).alloc _) (fun _ _ _ => trivial)) ⟨w1.heap.size + 1, 0, none⟩ 1 1 [.int .u8 rk, .string rx, .int .i64 rw0, .int .i64 rp] rfl rfl (fun j u hj => cell_four (heap_alloc2_new w1 _ _) j u hj) (by simp [Value.oneCell']) (by simp only [maxLen]; omega) (by omega) (by have := hB.out.size; have := HB1.out.size; simp; omega) ?_; intro v' w2 hown' hgrow _; obtain ⟨g', cap', rfl⟩ := ownsRow_succ hown'; have HO := Lib.hid hown'; have HG := Lib.hid hgrow; have hcell : w2.cell? ⟨w1.heap.size, 1, none⟩ = some (.string rx) := (World.cell?_of_block (hgrow.block _ (by simp; omega) (own_lt HROW.out HB1.out.size))).trans (cell_of_row _ _ 1 _ _ _ (heap_alloc2_old w1 _ _)); clear hown' hgrow))
        have hw2 : Hid (Below w.heap.size w w2) := by
          have z1 := hB.out.size
          have z2 := HB1.out.size
          refine (((hB.out.trans (HB1.out.mono z1)).alloc (by omega) _).alloc (by simp; omega) _).grown HG.out (by simp; omega) (fun r er => ?_)
          rcases HROW.out.2 with ⟨rfl, _⟩ | ⟨g, cap, cur, rfl, hb, _, _⟩
          · simp [Value.ownBlock] at er
          · obtain rfl : g = r := by simpa [Value.ownBlock] using er
            exact hb
        go_roundw
        case rel => exact ⟨pre ++ [nextR s k], nx s k, f, hnx2.out, by have := hnx3.out; omega, by have := hnx3.out; simp; omega, rfl, by rw [rowR_snoc, List.length_append, ← hR.out]; exact HO.out, by simp, hw2, by rw [Hid, hfr.out.1, hfr.out.2, hg.out]; simp⟩
        case measure =>
          have := hnx2.out
          have := hnx3.out
          simp [intOf]; omega
      · have hgt : 0 < R.fr := by omega
        have hg := Lib.hid (goH_fault (f := f) hlt (by rw [← hR.out]; exact hr))
        have H2 : Hid (∀ W : World, Calls Tryd.prog 42 #[.string s, .int .i64 k] W fun e w' => (∃ a b c d, e = .returned (.tuple #[.agg #[.int .u8 a, .string b, .int .i64 c, .int .i64 d], .int .i64 R.fr, .int .i64 R.fa])) ∧ Below W.heap.size W w') := fun W => by
          refine (H1.out W).mono ?_
          rintro e w' ⟨⟨a, b, c, d, rfl, h⟩, hb⟩
          rw [← hR.out]
          exact ⟨⟨a, b, c, d, rfl⟩, hb⟩
        obtain ⟨ra, hra⟩ : ∃ x, Hid (x = R.fa) := ⟨_, rfl⟩
        obtain ⟨rr, hrr⟩ : ∃ x, Hid (x = R.fr) := ⟨_, rfl⟩
        rw [← hra.out, ← hrr.out] at H2
        rw [← hrr.out] at hgt
        clear H1 hgd hfr0 hr
        go_wp2_with (go_at_call 42; refine (H2.out _).mono ?_; rintro e w1 ⟨⟨ta, tb, tc, td, rfl⟩, hb1⟩; have HB1 := Lib.hid hb1; clear hb1)
        have f1 : (frontR s).1 = pre := by rw [hfr.out.1, hg.out, List.append_nil]
        have f2 : (frontR s).2.1 = ra := by rw [hfr.out.2, hg.out, hra.out, hR.out]
        have f3 : (frontR s).2.2 = rr := by rw [hfr.out.2, hg.out, hrr.out, hR.out]
        have z1 := hB.out.size
        have z2 := HB1.out.size
        refine bodyPost_ret (v := .tuple #[u5, .int .i64 rr, .int .i64 ra]) (by simp [results, Tryd.results25, go_sem]) rfl ⟨?_, ?_⟩
        · refine ⟨u5, by rw [f2, f3], ?_, ?_⟩
          · rw [f1]; exact ownsRow_keep HROW.out (sel := fun _ _ => True) ((Keep.of_below HB1.out).alloc _) (fun _ _ _ => trivial)
          · rw [f1]; exact HNIL.out
        · exact (hB.out.trans (HB1.out.mono z1)).alloc (by omega) _
    · have hlt' : ¬ (k : Int) < (s.size : Int) := by omega
      have hg := Lib.hid (goH_end (f := f) hlt)
      have HROW := Lib.hid hrow
      have HNIL := Lib.hid hnil
      clear hrow hnil
      go_wp2_with fail
      have f1 : (frontR s).1 = pre := by rw [hfr.out.1, hg.out, List.append_nil]
      have f2 : (frontR s).2.1 = 0 := by rw [hfr.out.2, hg.out]
      have f3 : (frontR s).2.2 = 0 := by rw [hfr.out.2, hg.out]
      refine bodyPost_ret (v := .tuple #[u5, .int .i64 0, .int .i64 0]) (by simp [results, Tryd.results25, go_sem]) rfl ⟨?_, hB.out⟩
      refine ⟨u5, by rw [f2, f3], ?_, ?_⟩
      · rw [f1]; exact HROW.out
      · rw [f1]; exact HNIL.out
end Go.Proofs.YteedpojchapjgaaDoor

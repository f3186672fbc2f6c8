/- The lexer's laws: where a text's tokens stand. -/
import Derived.Test.YteedpojchapjgaaDoorStands
import Derived.Test.YteedpojchapjgaaDoorWOwn2
namespace Go.Proofs.YteedpojchapjgaaDoor
open Go.RowKit
set_option linter.unusedVariables false

theorem err_none {s : ByteArray} (h : ¬ (scanX s).2.1 = 0) : (scanX s).1 = [] := by
  unfold scanX at h ⊢
  split
  · rfl
  · rename_i h1
    rw [if_neg h1] at h
    split
    · rename_i h2; rw [if_pos h2] at h; exact absurd rfl h
    · rfl
theorem scan_none (s : ByteArray) (h0 : (scanX s).1 = []) {w0 w : World} (I : LInv w0 w) : Calls Tryd.prog 22 #[.string s] w fun e w' => e = .returned (.tuple #[.slice none 0 0, .int .i64 (scanX s).2.1, .agg #[.int .i64 (scanX s).2.2.1, .int .i64 (scanX s).2.2.2]]) ∧ Below w.heap.size w w' := by
  refine (scan_row s I).mono ?_
  rintro e w' ⟨u, rfl, h1, h2, hb⟩
  rw [h2.2 h0]
  exact ⟨rfl, hb⟩
set_option maxRecDepth 100000 in
set_option maxHeartbeats 4000000 in
theorem stands_bad (s : ByteArray) (w : World) (T : LTabs w) (h0 : ¬ (scanX s).2.1 = 0) :
    Calls Tryd.prog 10 #[.string s] w fun e w' => e = .returned (.bool true) ∧ LInv w w' := by
  have HB := Lib.hid (begins_i (LInv.start T))
  have HA : Hid (∀ W, LInv w W → Calls Tryd.prog 22 #[.string s] W fun e w' => e = .returned (.tuple #[.slice none 0 0, .int .i64 (scanX s).2.1, .agg #[.int .i64 (scanX s).2.2.1, .int .i64 (scanX s).2.2.2]]) ∧ Below W.heap.size W w') := fun W I => scan_none s (err_none h0) I
  obtain ⟨X, hX⟩ : ∃ X, Hid (X = scanX s) := ⟨_, rfl⟩
  rw [← hX.out] at HA h0
  obtain ⟨xs, er, fa, fr⟩ := X
  simp only at HA h0
  have hne : (er != 0) = true := by simpa using h0
  clear T h0
  go_enter Tryd.func10, Tryd.ntmps10
  go_wp2_with (first
    | (go_at_call 21; refine (HB.out).mono ?_; rintro e w1 ⟨rfl, hI⟩; have HI := Lib.hid hI; clear hI)
    | (go_at_call 22; refine (HA.out _ HI.out).mono ?_; rintro e w2 ⟨rfl, hb⟩; have HJ := Lib.hid ((HI.out.next hb).next ((Below.refl _ w2).alloc (Nat.le_refl _) (.cells #[.int .i64 fa, .int .i64 fr] 27))); clear hb))
  go_ret
  exact ⟨rfl, HJ.out⟩
set_option maxRecDepth 100000 in
set_option maxHeartbeats 8000000 in
theorem stands_ok (s : ByteArray) (w : World) (T : LTabs w) (h0 : (scanX s).2.1 = 0) :
    Calls Tryd.prog 10 #[.string s] w fun e w' => e = .returned (.bool true) ∧ LInv w w' := by
  obtain ⟨hst, hs⟩ := front_stand h0
  have hlen := scanX_len s
  have HB := Lib.hid (begins_i (LInv.start T))
  have HGAP : Hid (∀ (W : World) (e q : Nat), LInv w W → e ≤ s.size → q = e + sk false (bytesFrom s e) → Calls Tryd.prog 22 #[.string (s.extract e q)] W fun e w' => e = .returned (.tuple #[.slice none 0 0, .int .i64 0, .agg #[.int .i64 0, .int .i64 0]]) ∧ Below W.heap.size W w') := fun W e q I he hq => by
    have k := scan_none (s.extract e q) (by rw [scan_gap hs he hq]) I
    rw [scan_gap hs he hq] at k
    exact k
  have HA : Hid (∀ W, LInv w W → Calls Tryd.prog 22 #[.string s] W fun e w' => ∃ oa cap, e = .returned (.tuple #[.slice oa (scanX s).1.length cap, .int .i64 0, .agg #[.int .i64 (scanX s).2.2.1, .int .i64 (scanX s).2.2.2]]) ∧ TokRow w' (.slice oa (scanX s).1.length cap) (scanX s).1 ∧ Below W.heap.size W w') := fun W I => by
    refine (scan_row s I).mono ?_
    rintro e w' ⟨u, rfl, h1, h2, hb⟩
    have t := tokRow_owns h1
    obtain ⟨oa, cap, rfl, _⟩ := id t
    rw [h0]
    exact ⟨oa, cap, rfl, t, hb⟩
  obtain ⟨X, hX⟩ : ∃ X, Hid (X = scanX s) := ⟨_, rfl⟩
  rw [← hX.out] at HA hst hlen
  obtain ⟨xs, er, fa, fr⟩ := X
  simp only at HA hst hlen
  obtain ⟨n, hn⟩ : ∃ n, Hid (n = xs.length) := ⟨_, rfl⟩
  rw [← hn.out] at HA hlen
  have HST := Lib.hid hst
  clear T h0 hst
  go_enter Tryd.func10, Tryd.ntmps10
  go_wp2_with (first
    | (go_at_call 21; refine (HB.out).mono ?_; rintro e w1 ⟨rfl, hI⟩; have HI := Lib.hid hI; clear hI)
    | (go_at_call 22; refine (HA.out _ HI.out).mono ?_; rintro e w2 ⟨oa, cap, rfl, ht, hb⟩; have HJ := Lib.hid ((HI.out.next hb).next ((Below.refl _ w2).alloc (Nat.le_refl _) (.cells #[.int .i64 fa, .int .i64 fr] 27))); have HT2 := Lib.hid (ht.keep ((Below.refl _ w2).alloc (Nat.le_refl _) (.cells #[.int .i64 fa, .int .i64 fr] 27))); clear hb ht))
  go_loopw [2, 6, 7, 8, 9, 10, 11] (fun _ ev i _ _ _ _ wr => (LInv w wr ∧ TokRow wr (.slice oa n cap) xs) ∧ ∃ k p : Nat, k ≤ n ∧ i = .int .i64 k ∧ ev = .int .i64 p ∧ Hid (StandAt s p (xs.drop k))) (fun _ _ i _ _ _ _ _ => n - (intOf i).toNat)
  case atStart => exact ⟨⟨HJ.out, HT2.out⟩, 0, 0, Nat.zero_le _, rfl, rfl, HST.out⟩
  case round =>
    obtain ⟨⟨hI, ht⟩, k, p, hk, rfl, rfl, hsa⟩ := hrel
    have HI3 := Lib.hid hI
    have HT3 := Lib.hid ht
    by_cases hlt : k < n
    · have hlt' : (k : Int) < (n : Int) := by omega
      have hx : k < xs.length := by rw [← hn.out]; exact hlt
      have ex : xs[k]? = some xs[k] := List.getElem?_eq_getElem hx
      have hsa2 := hsa.out
      rw [List.drop_eq_getElem_cons hx] at hsa2
      have hp : p ≤ s.size := hsa2.1
      obtain ⟨q, m, hq, hm, hqs, e1, e2, _, hsa3⟩ := hsa2.cons
      have HS3 := Lib.hid hsa3
      have hpq : p ≤ q := by omega
      have HQ := Lib.hid hq
      obtain ⟨oa', cap', hu, hc⟩ := ht
      cases hu
      obtain ⟨g, off, hoa, a0, a1, a2, a3⟩ := hc k _ ex
      subst hoa
      rw [e2] at a1
      rw [e1] at a3
      generalize xs[k].kind = xk at *
      generalize xs[k].wd = xw at *
      obtain ⟨X, hX⟩ : ∃ X, Hid (X = s.extract q (q + m)) := ⟨_, rfl⟩
      have hXz : X.size = m := by rw [hX.out]; simp; omega
      rw [← hX.out] at a1
      clear ex hc hsa2 hsa3 hI hq e1 e2
      have n1 : decide (q < p) = false := by simp; omega
      have n2 : decide (s.size < q) = false := by simp; omega
      have n3 : decide ((m : Int) < 1) = false := by simp; omega
      have nw : IntKind.i64.wrap ((s.size : Int) - (q : Int)) = (s.size : Int) - q := IntWalk.i64_in _ (by omega)
      have n4 : decide ((s.size : Int) - (q : Int) < (m : Int)) = false := by simp; omega
      have nw2 : IntKind.i64.wrap ((q : Int) + (m : Int)) = (q : Int) + m := IntWalk.i64_in _ (by omega)
      have n5 : ((s.extract q (q + m)).toList == X.toList) = true := by rw [hX.out]; simp
      have hqs' : q ≤ s.size := by omega
      have e0 : Below wr.heap.size wr (wr.alloc (.cells #[.int .u8 xk, .string X, .int .i64 xw, .int .i64 q] 38)) := (Below.refl _ wr).alloc (Nat.le_refl _) _
      go_wp2_with fail
      go_quiet (fail)
      go_wp2_with fail
      refine (HGAP.out _ p q (HI3.out.next (below_drewN e0 _)) hp HQ.out).mono ?_
      rintro e w3 ⟨rfl, hb3⟩
      have hz3 : wr.heap.size + 1 ≤ w3.heap.size := by have := hb3.size; simpa using this
      have ht3 : w3.heap[wr.heap.size]? = some (.cells #[.int .u8 xk, .string X, .int .i64 xw, .int .i64 q] 38 (0, 0)) := (hb3.block _ (by simp)).trans (World.alloc_heap_new wr _)
      obtain ⟨⟨d0, d1, d2, d3⟩, _⟩ := row4 ht3
      have HB3 := Lib.hid (Below.trans (below_drewN e0 _) (hb3.mono (by simp)))
      have hlw : wr.heap.size < w3.heap.size := by omega
      clear ht3 hb3
      go_wp2_with fail
      go_roundw
      case rel => exact ⟨⟨HI3.out.next (HB3.out.alloc (by omega) _), HT3.out.keep (HB3.out.alloc (by omega) _)⟩, k + 1, q + m, by omega, by go_num, by go_num, HS3.out⟩
      case measure => simp [intOf]; omega
    · have hlt' : ¬ (k : Int) < (n : Int) := by omega
      have hsa2 := hsa.out
      have hd : xs.drop k = [] := List.drop_of_length_le (by rw [← hn.out]; omega)
      rw [hd] at hsa2
      have hp : p ≤ s.size := hsa2.1
      have HQ := Lib.hid hsa2.nil.symm
      clear hI ht hsa hsa2 hd
      go_wp2_with fail
      refine (HGAP.out _ p s.size HI3.out hp HQ.out).mono ?_
      rintro e w3 ⟨rfl, hb3⟩
      have I4 := Lib.hid ((HI3.out.next hb3).next ((Below.refl _ w3).alloc (Nat.le_refl _) (.cells #[.int .i64 0, .int .i64 0] 27)))
      clear hb3
      go_wp2_with fail
      go_ret
      exact ⟨rfl, I4.out⟩
theorem stands_walk (s : ByteArray) (hs : s.size ≤ reachBytes) (w : World) (T : LTabs w) :
    Calls Tryd.prog 10 #[.string s] w fun e w' => e = .returned (.bool true) ∧ LInv w w' := by
  by_cases h : (scanX s).2.1 = 0
  · exact stands_ok s w T h
  · exact stands_bad s w T h
end Go.Proofs.YteedpojchapjgaaDoor

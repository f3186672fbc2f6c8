/- The lexer's laws: blanks and a remark ahead of a token. -/
import Derived.Test.YteedpojchapjgaaDoorWBlanks
import Derived.Deep.RegionWith
namespace Go.Proofs.YteedpojchapjgaaDoor
open Go.RowKit
set_option linter.unusedVariables false

set_option maxRecDepth 100000 in
set_option maxHeartbeats 8000000 in
theorem blanks_mid (s : ByteArray) (k : Nat) (r : ByteArray) (hr : r.size ≤ reachBytes) (w : World) (T : LTabs w) (hf : ∀ c ∈ r.data.toList, ¬ c = 10)
    (h0 : (scanX s).2.1 = 0) (hk : k < (scanX s).1.length) :
    Calls Tryd.prog 9 #[.string s, .int .i64 k, .string r] w fun e w' => e = .returned (.bool true) ∧ LInv w w' := by
  have hlen := scanX_len s
  have HB := Lib.hid (begins_i (LInv.start T))
  have hbs := PlainAid.get_bt r
  have HF : Hid (∀ j, j < r.size → (PlainAid.bt r j == 10) = false) := fun j hj => bt_not hf hj
  have hrr : r.size ≤ 140737488351232 := Nat.le_trans hr (by decide)
  have HA : Hid (∀ W, LInv w W → Calls Tryd.prog 22 #[.string s] W fun e w' => ∃ oa cap, e = .returned (.tuple #[.slice oa (scanX s).1.length cap, .int .i64 0, .agg #[.int .i64 (scanX s).2.2.1, .int .i64 (scanX s).2.2.2]]) ∧ TokRow w' (.slice oa (scanX s).1.length cap) (scanX s).1 ∧ Below W.heap.size W w') := fun W I => by
    refine (scan_row s I).mono ?_
    rintro e w' ⟨u, rfl, h1, h2, hb⟩
    have t := tokRow_owns h1
    obtain ⟨oa, cap, rfl, _⟩ := id t
    rw [h0]
    exact ⟨oa, cap, rfl, t, hb⟩
  obtain ⟨⟨_, hst⟩, hs⟩ := front_stand h0
  rw [from_nought] at hst
  obtain ⟨x, hx⟩ : ∃ x, (scanX s).1[k]? = some x := ⟨_, List.getElem?_eq_getElem hk⟩
  obtain ⟨ha1, a, ha2⟩ := rest_below (e := 0) (l := s.data.toList) (i := k) (x := x) (by rw [hst]; exact hx)
  have ha : a < s.size := by
    rw [ha2] at ha1
    have hz : s.data.toList.length = s.size := by simp
    omega
  have HS : Hid (∀ W, LInv w W → (moreB r).size + s.size ≤ 65536 → Calls Tryd.prog 22 #[.string (s.extract 0 a ++ moreB r ++ s.extract a s.size)] W fun e w' => ∃ ys u, EqToks false (scanX s).1 ys ∧ e = .returned (.tuple #[u, .int .i64 0, .agg #[.int .i64 0, .int .i64 0]]) ∧ w'.ownsRow W.heap.size 38 4 u ys.length (rowR ys) ∧ Below W.heap.size W w') := fun W I hz => by
    obtain ⟨ys, hy1, hy2⟩ := blanks_scan (s := s) (s' := s.extract 0 a ++ moreB r ++ s.extract a s.size) (k := k) (a := a) (M := moreL r.data.toList) h0
      (by simp; omega) (by omega) (fun y hy => by rw [hx] at hy; cases hy; exact ha2) (fun hn => by rw [hx] at hn; cases hn)
      (gap_mid hf (fun h => by have := congrArg List.length h; simp at this; omega)) (by rw [put_list, more_list])
    refine (scan_row _ I).mono ?_
    rintro e w' ⟨u, rfl, h1, h2, hb⟩
    rw [hy1] at h1 ⊢
    exact ⟨ys, u, hy2, rfl, h1, hb⟩
  obtain ⟨X, hX⟩ : ∃ X, Hid (X = scanX s) := ⟨_, rfl⟩
  rw [← hX.out] at HA HS hlen hk hx
  obtain ⟨xs, er, fa, fr⟩ := X
  simp only at HA HS hlen hk hx
  obtain ⟨n, hn⟩ : ∃ n, Hid (n = xs.length) := ⟨_, rfl⟩
  rw [← hn.out] at HA hlen hk
  obtain ⟨M, hM⟩ : ∃ M, M = moreB r := ⟨_, rfl⟩
  have hMz : M.size ≤ 140737488351240 := by rw [hM]; unfold moreB; simp only [ByteArray.size_append]; show 5 + r.size + 1 ≤ _; omega
  have hMs : (({ data := #[32, 9, 13, 47, 47] } ++ r ++ { data := #[10] } : ByteArray)) = M := hM.symm
  rw [← hM] at HS
  clear hM
  have HX := Lib.hid hx
  have HP := Lib.hid ha2
  clear T hr hf h0 hst hx ha1 ha2
  go_enter Tryd.func9, Tryd.ntmps9
  go_wp2_with (go_at_call 21; refine (HB.out).mono ?_; rintro e w1 ⟨rfl, hI⟩; have HI := Lib.hid hI; clear hI)
  go_loopw [6, 7] (fun _ i wr => w1 = wr ∧ ∃ k : Nat, k ≤ r.size ∧ i = .int .i64 k) (fun _ i _ => r.size - (intOf i).toNat)
  case atStart => exact ⟨rfl, 0, Nat.zero_le _, rfl⟩
  case round =>
    obtain ⟨rfl, j, hj, rfl⟩ := hrel
    by_cases hlt : j < r.size
    · have hlt' : (j : Int) < (r.size : Int) := by omega
      have e10 := HF.out j hlt
      go_wp2_with fail
      go_roundw
      case rel => exact ⟨by trivial, j + 1, by omega, by go_num⟩
      case measure => simp [intOf]; omega
    · have hlt' : ¬ (j : Int) < (r.size : Int) := by omega
      clear hbs HF
      have h2' : decide ((k : Int) < 0) = false := by simp
      have h3' : decide ((n : Int) < (k : Int)) = false := by simp; omega
      have h3'' : decide (n < k) = false := by simp; omega
      have hk' : (k : Int) < (n : Int) := by omega
      go_wp2_with fail
      refine (HA.out _ HI.out).mono ?_
      rintro e w2 ⟨oa, cap, rfl, ht, hb⟩
      have HJ := Lib.hid ((HI.out.next hb).next ((Below.refl _ w2).alloc (Nat.le_refl _) (.cells #[.int .i64 fa, .int .i64 fr] 27)))
      have HT2 := Lib.hid (ht.keep ((Below.refl _ w2).alloc (Nat.le_refl _) (.cells #[.int .i64 fa, .int .i64 fr] 27)))
      obtain ⟨oa', cap', hu, hc⟩ := HT2.out
      cases hu
      obtain ⟨g, off, hoa, a0, a1, a2, a3⟩ := hc k _ HX.out
      subst hoa
      rw [HP.out] at a3
      clear ht hb hc
      have hz' : (65536 : Int) < (s.size : Int) + (M.size : Int) ∨ ¬ (65536 : Int) < (s.size : Int) + (M.size : Int) := by omega
      rcases hz' with hz' | hz'
      · go_wp2_with (with_reducible rw [hMs])
        go_ret
        exact ⟨rfl, HJ.out⟩
      · have hzn : M.size + s.size ≤ 65536 := by omega
        go_wp2_with (with_reducible rw [hMs])
        go_region_with (go_at_call 22; refine (HS.out _ (HJ.out.next ?hbel) hzn).mono ?_; (case hbel => first | exact ((Below.refl _ _).alloc (Nat.le_refl _) _).drew | exact (Below.refl _ _).drew); rintro e w3 ⟨ys, u, hys, rfl, ht3, hb3⟩; have HY := Lib.hid hys; have HT3 := Lib.hid ht3; have hz3 := hb3.size; simp only [World.size_drew, World.size_alloc] at hz3; (first | (have hf3 : w3.heap[w2.heap.size + 1]? = some (.cells #[.int .i64 0, .int .i64 0] 27 (0, 0)) := (hb3.block _ (by simp)).trans (heap_alloc2_new w2 _ _); obtain ⟨⟨q0, q1⟩, q2, q3⟩ := row2 hf3; clear hf3) | skip); have HB3 := Lib.hid hb3; clear hys ht3 hb3)
        all_goals
          first
            | have bA := Lib.hid (show Below (w2.alloc (.cells #[.int .i64 fa, .int .i64 fr] 27)).heap.size (w2.alloc (.cells #[.int .i64 fa, .int .i64 fr] 27)) (w3.alloc (.cells #[.int .i64 0, .int .i64 0] 27)) from ((Below.refl _ _).drew.trans HB3.out).alloc (by simp; omega) _)
              have t1 := Lib.hid (HT2.out.keep bA.out)
              have t2 := Lib.hid ((tokRow_owns HT3.out).keep ((Below.refl _ w3).alloc (Nat.le_refl _) (.cells #[.int .i64 0, .int .i64 0] 27)))
              have I6 := Lib.hid (HJ.out.next bA.out)
              go_wp2_with (go_at_call 24; refine (same_free _ _ _ xs ys t1.out t2.out HY.out (by have := hn.out; omega)).mono ?_; rintro e w5 ⟨rfl, m, rfl⟩)
              go_ret
              exact ⟨rfl, I6.out.next (below_drewN (Below.refl _ _) m)⟩
            | have bA := Lib.hid (show Below (w2.alloc (.cells #[.int .i64 fa, .int .i64 fr] 27)).heap.size (w2.alloc (.cells #[.int .i64 fa, .int .i64 fr] 27)) ((w3.setCell ⟨w2.heap.size + 1, 0, none⟩ (.int .i64 0)).setCell ⟨w2.heap.size + 1, 1, none⟩ (.int .i64 0)) from ((((Below.refl _ _).alloc (Nat.le_refl _) (.cells #[.int .i64 0, .int .i64 0] 27)).drew.trans (HB3.out.mono (by simp))).setCell (p := ⟨w2.heap.size + 1, 0, none⟩) (by simp) _).setCell (p := ⟨w2.heap.size + 1, 1, none⟩) (by simp) _)
              have t1 := Lib.hid (HT2.out.keep bA.out)
              have t2 := Lib.hid (tokRow_owns (ownsRow_setCell_below (a := ⟨w2.heap.size + 1, 1, none⟩) (ownsRow_setCell_below (a := ⟨w2.heap.size + 1, 0, none⟩) HT3.out (by simp) (.int .i64 0)) (by simp) (.int .i64 0)))
              have I6 := Lib.hid (HJ.out.next bA.out)
              go_wp2_with (go_at_call 24; refine (same_free _ _ _ xs ys t1.out t2.out HY.out (by have := hn.out; omega)).mono ?_; rintro e w5 ⟨rfl, m, rfl⟩)
              go_ret
              exact ⟨rfl, I6.out.next (below_drewN (Below.refl _ _) m)⟩
end Go.Proofs.YteedpojchapjgaaDoor

/- The lexer's reference: tokens as a text. -/
import Derived.Test.YteedpojchapjgaaDoorPrint3
import Derived.Lib.BufferRead
namespace Go.Proofs.YteedpojchapjgaaDoor
set_option pp.deepTerms true
set_option pp.maxSteps 1000000
open Go.RowKit
set_option linter.unusedVariables false

set_option maxRecDepth 100000 in
set_option maxHeartbeats 8000000 in
theorem rprint_bad (W : World) (u : Value) (xs : List Res) (hu : TokRow W u xs) (hx : ∀ x ∈ xs, x.text.size ≤ 4611686018427387904) (hn : xs.length ≤ 4611686018427) (j : Nat) (hj : j < xs.length) (hbad : okT xs[j] = false) (hok : ∀ i (h : i < xs.length), i < j → okT xs[i] = true) :
    Calls Tryd.prog 28 #[u] W fun e w' => e = .returned (.tuple #[.string ⟨#[]⟩, .int .i64 2]) ∧ Below W.heap.size W w' := by
  have HU := Lib.hid hu
  obtain ⟨oa, ca, rfl, _⟩ := hu
  have HM : Hid (∀ (k : Nat) (h : k < xs.length) (W' : World), Calls Tryd.prog 50 #[.agg #[.int .u8 xs[k].kind, .string xs[k].text, .int .i64 xs[k].wd, .int .i64 xs[k].place]] W' fun e w'' => e = .returned (.bool (okT xs[k])) ∧ Below W'.heap.size W' w'') :=
    fun k h W' => right_any _ _ _ _ (hx _ (List.getElem_mem _)) W'
  have HBAD := Lib.hid hbad
  have HOK := Lib.hid hok
  obtain ⟨n, hnn⟩ : ∃ n, Hid (n = xs.length) := ⟨_, rfl⟩
  have hjn : j < n := by rw [hnn.out]; exact hj
  have hn' : n ≤ 4611686018427 := by rw [hnn.out]; exact hn
  rw [← hnn.out] at HU ⊢
  clear hx hbad hok hn
  go_enter Tryd.func28, Tryd.ntmps28
  go_wp2_with fail
  go_loopw [2, 3, 4] (fun _ _ i wr => Hid (Below W.heap.size W wr) ∧ ∃ (k : Nat), k ≤ j ∧ i = .int .i64 k) (fun _ _ i _ => j + 1 - (intOf i).toNat)
  case atStart => exact ⟨Below.refl _ _, 0, Nat.zero_le _, rfl⟩
  case round =>
    obtain ⟨hB, k, hk, rfl⟩ := hrel
    have hlt : k < n := by omega
    have hlt' : (k : Int) < (n : Int) := by omega
    have hkx : k < xs.length := by rw [← hnn.out]; exact hlt
    obtain ⟨g, off, hoa, a0, a1, a2, a3⟩ := (HU.out.keep hB.out).at hkx
    subst hoa
    have HMK := Lib.hid (HM.out k hkx)
    by_cases hkj : k < j
    · have hokk := HOK.out k hkx hkj
      rw [hokk] at HMK
      generalize xs[k].kind = xk at *
      generalize xs[k].text = xt at *
      generalize xs[k].wd = xw at *
      generalize xs[k].place = xp at *
      go_wp2_with (go_at_call 50; refine (HMK.out _).mono ?_; rintro e w2 ⟨rfl, hb2⟩; have HB2 := Lib.hid (hB.out.trans (hb2.mono hB.out.size)); clear hb2)
      go_roundw
      case rel => exact ⟨HB2.out, k + 1, by omega, by go_num⟩
      case measure => simp [intOf]; omega
    · obtain rfl : k = j := by omega
      rw [HBAD.out] at HMK
      generalize xs[k].kind = xk at *
      generalize xs[k].text = xt at *
      generalize xs[k].wd = xw at *
      generalize xs[k].place = xp at *
      go_wp2_with (go_at_call 50; refine (HMK.out _).mono ?_; rintro e w2 ⟨rfl, hb2⟩; have HB2 := Lib.hid (hB.out.trans (hb2.mono hB.out.size)); clear hb2)
      go_ret2
      exact ⟨rfl, HB2.out⟩
theorem conv_row {W : World} {B : Nat} {v : Value} {l : List UInt8} (h : W.ownsRow B 5 1 v l.length (Lib.byteCells l)) : (convert 64 9 v).run Tryd.prog W = .ok (.string ⟨l.toArray⟩) W := by
  rcases h.2 with ⟨rfl, h0⟩ | ⟨g, cap, cur, rfl, _, hg, _, _, _, htk⟩
  · have : l = [] := List.length_eq_zero_iff.1 h0
    subst this
    exact Lib.run_convert_nil_bytes W _ _ _ 0 Tryd.underlying64 Tryd.underlying5 Tryd.underlying9
  · exact run_convert_bytes_back W _ _ _ ⟨g, 0, none⟩ cap l Tryd.underlying64 Tryd.underlying5 Tryd.underlying9 (Lib.bytes_of_row hg (by simpa using htk))
set_option maxRecDepth 100000 in
set_option maxHeartbeats 8000000 in
theorem rprint_good (W : World) (u : Value) (xs : List Res) (hu : TokRow W u xs) (hn : xs.length ≤ 4611686018427) (hok : ∀ i (h : i < xs.length), okT xs[i] = true) :
    Calls Tryd.prog 28 #[u] W fun e w' => e = .returned (if 65536 < joinN xs then .tuple #[.string ⟨#[]⟩, .int .i64 4] else .tuple #[.string ⟨(joinB xs).toArray⟩, .int .i64 0]) ∧ Below W.heap.size W w' := by
  obtain ⟨i0, hi, hz0, hz1, hz2⟩ := info_parts infoU8
  have HU := Lib.hid hu
  obtain ⟨oa, ca, rfl, _⟩ := hu
  have HM : Hid (∀ (k : Nat) (h : k < xs.length) (W' : World), Calls Tryd.prog 50 #[.agg #[.int .u8 xs[k].kind, .string xs[k].text, .int .i64 xs[k].wd, .int .i64 xs[k].place]] W' fun e w'' => e = .returned (.bool true) ∧ Below W'.heap.size W' w'') :=
    fun k h W' => by
      have q := right_any xs[k].kind xs[k].text xs[k].wd xs[k].place (by have := okT_size (hok k h); omega) W'
      have e : mayB xs[k].kind xs[k].text xs[k].wd = true := hok k h
      rw [e] at q
      exact q
  have HSZ : Hid (∀ k (h : k < xs.length), xs[k].text.size ≤ 32) := fun k h => okT_size (hok k h)
  have HMN : Hid (∀ k, joinN (xs.take k) ≤ joinN xs) := joinN_mono xs
  have HJB : Hid (∀ k, (joinB (xs.take k)).length = joinN (xs.take k)) := fun k => joinB_len _
  obtain ⟨n, hnn⟩ : ∃ n, Hid (n = xs.length) := ⟨_, rfl⟩
  have hn' : n ≤ 4611686018427 := by rw [hnn.out]; exact hn
  rw [← hnn.out] at HU ⊢
  obtain ⟨JN, hJN⟩ : ∃ J, Hid (J = joinN xs) := ⟨_, rfl⟩
  rw [← hJN.out] at HMN ⊢
  clear hok hn
  go_enter Tryd.func28, Tryd.ntmps28
  go_wp2_with fail
  go_loopw [2, 3, 4] (fun _ _ i wr => Hid (Below W.heap.size W wr) ∧ ∃ (k : Nat), k ≤ n ∧ i = .int .i64 k) (fun _ _ i _ => n - (intOf i).toNat)
  case atStart => exact ⟨Below.refl _ _, 0, Nat.zero_le _, rfl⟩
  case round =>
    obtain ⟨hB, k, hk, rfl⟩ := hrel
    by_cases hlt : k < n
    · have hlt' : (k : Int) < (n : Int) := by omega
      have hkx : k < xs.length := by rw [← hnn.out]; exact hlt
      obtain ⟨g, off, hoa, a0, a1, a2, a3⟩ := (HU.out.keep hB.out).at hkx
      subst hoa
      have HMK := Lib.hid (HM.out k hkx)
      generalize xs[k].kind = xk at *
      generalize xs[k].text = xt at *
      generalize xs[k].wd = xw at *
      generalize xs[k].place = xp at *
      go_wp2_with (go_at_call 50; refine (HMK.out _).mono ?_; rintro e w2 ⟨rfl, hb2⟩; have HB2 := Lib.hid (hB.out.trans (hb2.mono hB.out.size)); clear hb2)
      go_roundw
      case rel => exact ⟨HB2.out, k + 1, by omega, by go_num⟩
      case measure => simp [intOf]; omega
    · have hlt' : ¬ (k : Int) < (n : Int) := by omega
      go_wp2_with fail
      have hBw := hB.out.size
      obtain ⟨V, rfl⟩ : ∃ V, V = wr := ⟨_, rfl⟩
      go_loopw [2, 3, 5, 6] (fun _ _ sz i wr => V = wr ∧ ∃ (k : Nat), k ≤ n ∧ i = .int .i64 k ∧ sz = .int .i64 (joinN (xs.take k)) ∧ joinN (xs.take k) ≤ 65536) (fun _ _ _ i _ => n - (intOf i).toNat)
      case atStart => exact ⟨rfl, 0, Nat.zero_le _, rfl, rfl, Nat.zero_le _⟩
      case round =>
        obtain ⟨rfl, k2, hk2, rfl, rfl, hJ65⟩ := hrel
        obtain ⟨J, hJ⟩ : ∃ J, Hid (J = joinN (xs.take k2)) := ⟨_, rfl⟩
        rw [← hJ.out] at hJ65 ⊢
        by_cases hlt2 : k2 < n
        · have hlt2' : (k2 : Int) < (n : Int) := by omega
          have hkx : k2 < xs.length := by rw [← hnn.out]; exact hlt2
          obtain ⟨g, off, hoa, a0, a1, a2, a3⟩ := (HU.out.keep hB.out).at hkx
          subst hoa
          have hxz := HSZ.out k2 hkx
          have hst := Lib.hid (joinN_step hkx)
          have hmn := HMN.out (k2 + 1)
          rw [← hJ.out] at hst
          generalize xs[k2].kind = xk at *
          generalize xs[k2].text = xt at *
          generalize xs[k2].wd = xw at *
          generalize xs[k2].place = xp at *
          have hsz : (0 : Int) < (k2 : Int) ∨ ¬ (0 : Int) < (k2 : Int) := by omega
          rcases hsz with h0 | h0
          · have hst2 : Hid (joinN (xs.take (k2 + 1)) = J + xt.size + 1) := by rw [Hid, hst.out, if_neg (by omega)]; omega
            rw [hst2.out] at hmn
            by_cases hl : 65536 < J + xt.size + 1
            · have hl' : (65536 : Int) < (J : Int) + (xt.size : Int) + 1 := by omega
              have hlj : 65536 < JN := by omega
              go_wp2_with fail
              go_ret2
              exact ⟨by first | rfl | (rw [if_pos hlj]; rfl), hB.out⟩
            · have hl' : ¬ (65536 : Int) < (J : Int) + (xt.size : Int) + 1 := by omega
              go_wp2_with fail
              go_roundw
              case rel => exact ⟨by trivial, k2 + 1, by omega, by go_num, by rw [hst2.out]; go_num, by rw [hst2.out]; omega⟩
              case measure => simp [intOf]; omega
          · have hst2 : Hid (joinN (xs.take (k2 + 1)) = J + xt.size) := by rw [Hid, hst.out, if_pos (by omega)]; omega
            rw [hst2.out] at hmn
            by_cases hl : 65536 < J + xt.size
            · have hl' : (65536 : Int) < (J : Int) + (xt.size : Int) := by omega
              have hlj : 65536 < JN := by omega
              go_wp2_with fail
              go_ret2
              exact ⟨by first | rfl | (rw [if_pos hlj]; rfl), hB.out⟩
            · have hl' : ¬ (65536 : Int) < (J : Int) + (xt.size : Int) := by omega
              go_wp2_with fail
              go_roundw
              case rel => exact ⟨by trivial, k2 + 1, by omega, by go_num, by rw [hst2.out]; go_num, by rw [hst2.out]; omega⟩
              case measure => simp [intOf]; omega
        · have hlt2' : ¬ (k2 : Int) < (n : Int) := by omega
          have hJJ : J = JN := by rw [hJ.out, hJN.out, List.take_of_length_le (by rw [← hnn.out]; omega)]
          subst hJJ
          have hlj : ¬ 65536 < J := by omega
          go_wp2_with fail
          go_loopw [7, 8] (fun v i w3 => Hid (w3.ownsRow V.heap.size 5 1 v (joinB (xs.take (intOf i).toNat)).length (Lib.byteCells (joinB (xs.take (intOf i).toNat))) ∧ Below V.heap.size V w3) ∧ ∃ (k : Nat), k ≤ n ∧ i = .int .i64 k) (fun _ i _ => n - (intOf i).toNat)
          case atStart => exact ⟨⟨World.ownsRow_nil _ _ _ _, Below.refl _ V⟩, 0, Nat.zero_le _, rfl⟩
          case round =>
            obtain ⟨hI, k3, hk3, rfl⟩ := hrel
            have HI := Lib.hid (show wr.ownsRow V.heap.size 5 1 u7 (joinB (xs.take k3)).length (Lib.byteCells (joinB (xs.take k3))) ∧ Below V.heap.size V wr from hI.out)
            clear hI
            have hbl : (joinB (xs.take k3)).length ≤ 65536 := by
              rw [HJB.out k3]
              exact Nat.le_trans (HMN.out k3) hJ65
            have HBB := Lib.hid (hB.out.trans (HI.out.2.mono hBw))
            have hVz := HI.out.2.size
            by_cases hlt3 : k3 < n
            · have hlt3' : (k3 : Int) < (n : Int) := by omega
              have hkx : k3 < xs.length := by rw [← hnn.out]; exact hlt3
              obtain ⟨g, off, hoa, q0, q1, q2, q3⟩ := HU.out.at hkx
              subst hoa
              have hg : g < W.heap.size := lt_of_at q0
              have a1 := (HBB.out.cell (p := ⟨g, off + k3 * 4 + 1, none⟩) hg).trans q1
              have hxz := HSZ.out k3 hkx
              have hst := Lib.hid (joinB_step hkx)
              generalize xs[k3].text = xt at *
              have hsz : (0 : Int) < (k3 : Int) ∨ ¬ (0 : Int) < (k3 : Int) := by omega
              rcases hsz with h0 | h0
              · have hst2 : Hid (joinB (xs.take (k3 + 1)) = joinB (xs.take k3) ++ [32] ++ xt.data.toList) := by rw [Hid, hst.out, if_neg (by omega)]
                go_wp2_with (at_builtin; refine wpList_append_own _ rfl _ _ 64 rfl V.heap.size 5 i0 (.int .u8 0) 1 1 Tryd.underlying64 hi hz0 hz1 hz2 rfl (by decide) u7 _ _ rfl (HI.out.1.alloc _) ⟨wr.heap.size, 0, none⟩ 1 1 [.int .u8 32] rfl rfl ?c1 ?c2 ?c3 ?c4 ?c5 ?_)
                case c1 =>
                  intro j u hj
                  match j, hj with
                  | 0, hj => simp at hj; subst hj; simp [Addr.add]
                case c2 => intro u hu; simp at hu; subst hu; rfl
                case c3 => unfold maxLen; omega
                case c4 => omega
                case c5 => simp; omega
                intro v' w2 hown' hgrow _
                have hb2 : Below V.heap.size V w2 := ((HI.out.2).alloc (by omega) _).grown hgrow (by simp; omega) (fun k hk => (HI.out.1.lt k hk).1)
                have b1 := ((hB.out.trans (hb2.mono hBw)).cell (p := ⟨g, off + k3 * 4 + 1, none⟩) hg).trans q1
                have HO2 := Lib.hid hown'
                have HB2 := Lib.hid hb2
                have hz2' := hb2.size
                clear hown' hgrow hb2
                go_wp2_with (at_builtin; refine Lib.wpList_append_own_string _ rfl _ _ 64 9 rfl V.heap.size 5 i0 Tryd.underlying64 Tryd.underlying9 hi hz0 hz1 hz2 v' _ _ rfl HO2.out xt rfl ?e3 ?e4 ?e5 ?_)
                case e3 => simp only [maxLen]; omega
                case e4 => omega
                case e5 => omega
                intro v'' w4 hown'' hgrow2 _
                have HO4 := Lib.hid hown''
                have HB4 := Lib.hid ((HB2.out).grown hgrow2 (by omega) (fun k hk => (HO2.out.lt k hk).1))
                clear hown'' hgrow2
                go_wp2_with fail
                go_roundw
                case rel =>
                  refine ⟨⟨?_, HB4.out⟩, k3 + 1, by omega, by go_num⟩
                  show w4.ownsRow V.heap.size 5 1 v'' (joinB (xs.take (k3 + 1))).length (Lib.byteCells (joinB (xs.take (k3 + 1))))
                  have e := HO4.out
                  rw [hst2.out, Lib.byteCells_append, Lib.byteCells_append, List.length_append, List.length_append]
                  have ex : xt.data.toList.length = xt.size := by simp
                  rw [ex, List.append_assoc]
                  exact e
                case measure => simp [intOf]; omega
              · have hst2 : Hid (joinB (xs.take (k3 + 1)) = joinB (xs.take k3) ++ xt.data.toList) := by rw [Hid, hst.out, if_pos (by omega), List.append_nil]
                go_wp2_with (at_builtin; refine Lib.wpList_append_own_string _ rfl _ _ 64 9 rfl V.heap.size 5 i0 Tryd.underlying64 Tryd.underlying9 hi hz0 hz1 hz2 u7 _ _ rfl HI.out.1 xt rfl ?e3 ?e4 ?e5 ?_)
                case e3 => simp only [maxLen]; omega
                case e4 => omega
                intro v'' w4 hown'' hgrow2 _
                have HO4 := Lib.hid hown''
                have HB4 := Lib.hid ((HI.out.2).grown hgrow2 (by omega) (fun k hk => (HI.out.1.lt k hk).1))
                clear hown'' hgrow2
                go_wp2_with fail
                go_roundw
                case rel =>
                  refine ⟨⟨?_, HB4.out⟩, k3 + 1, by omega, by go_num⟩
                  show w4.ownsRow V.heap.size 5 1 v'' (joinB (xs.take (k3 + 1))).length (Lib.byteCells (joinB (xs.take (k3 + 1))))
                  have e := HO4.out
                  rw [hst2.out, Lib.byteCells_append, List.length_append]
                  have ex : xt.data.toList.length = xt.size := by simp
                  rw [ex]
                  exact e
                case measure => simp [intOf]; omega
            · have hlt3' : ¬ (k3 : Int) < (n : Int) := by omega
              have htk : xs.take k3 = xs := List.take_of_length_le (by rw [← hnn.out]; omega)
              rw [htk] at HI
              have hcv := conv_row HI.out.1
              clear htk
              go_wp2_with fail
              go_ret2
              exact ⟨by first | rfl | (rw [if_neg hlj]; rfl), HBB.out⟩
end Go.Proofs.YteedpojchapjgaaDoor

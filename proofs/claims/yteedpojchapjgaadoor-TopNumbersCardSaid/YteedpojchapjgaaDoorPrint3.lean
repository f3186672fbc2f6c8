/- The lexer: Print: tokens that may be printed. -/
import Derived.Test.YteedpojchapjgaaDoorPrint2
import Derived.Test.YteedpojchapjgaaDoorBld2
namespace Go.Proofs.YteedpojchapjgaaDoor
set_option pp.deepTerms true
set_option pp.maxSteps 1000000
open Go.RowKit
set_option linter.unusedVariables false

theorem take_snoc {xs : List Res} {k : Nat} (hk : k < xs.length) : xs.take (k + 1) = xs.take k ++ [xs[k]] := by
  rw [List.take_add_one, List.getElem?_eq_getElem hk]; rfl
theorem take_none {xs : List Res} {k : Nat} (hk : k < xs.length) : xs.take k = [] ↔ k = 0 := by
  constructor
  · intro h
    have := congrArg List.length h
    rw [List.length_take, List.length_nil] at this
    omega
  · rintro rfl; rfl
theorem joinN_step {xs : List Res} {k : Nat} (hk : k < xs.length) : joinN (xs.take (k + 1)) = joinN (xs.take k) + (if k = 0 then 0 else 1) + xs[k].text.size := by
  rw [take_snoc hk, joinN_snoc]
  by_cases h : k = 0
  · rw [if_pos h, if_pos ((take_none hk).2 h)]
  · rw [if_neg h, if_neg (fun e => h ((take_none hk).1 e))]
theorem joinB_step {xs : List Res} {k : Nat} (hk : k < xs.length) : joinB (xs.take (k + 1)) = joinB (xs.take k) ++ (if k = 0 then [] else [32]) ++ xs[k].text.data.toList := by
  rw [take_snoc hk, joinB_snoc]
  by_cases h : k = 0
  · rw [if_pos h, if_pos ((take_none hk).2 h)]
  · rw [if_neg h, if_neg (fun e => h ((take_none hk).1 e))]
theorem joinN_mono : ∀ (xs : List Res) (k : Nat), joinN (xs.take k) ≤ joinN xs := by
  intro xs k
  by_cases hk : k < xs.length
  · obtain ⟨d, hd⟩ : ∃ d, xs.length = k + d := ⟨xs.length - k, by omega⟩
    have key : ∀ d, k + d ≤ xs.length → joinN (xs.take k) ≤ joinN (xs.take (k + d)) := by
      intro d
      induction d with
      | zero => intro _; exact Nat.le_refl _
      | succ d ih =>
        intro h
        have h1 := ih (by omega)
        have h2 := joinN_step (xs := xs) (k := k + d) (by omega)
        rw [← Nat.add_assoc, h2]
        omega
    have := key d (by omega)
    rwa [← hd, List.take_of_length_le (Nat.le_refl _)] at this
  · rw [List.take_of_length_le (by omega)]; exact Nat.le_refl _
set_option maxRecDepth 100000 in
set_option maxHeartbeats 8000000 in
theorem print_good (W : World) (T : LTabs W) (u : Value) (xs : List Res) (hu : TokRow W u xs) (hn : xs.length ≤ 4611686018427) (hok : ∀ i (h : i < xs.length), okT xs[i] = true) :
    Calls Tryd.prog 27 #[u] W fun e w' => e = .returned (if 65536 < joinN xs then .tuple #[.string ⟨#[]⟩, .int .i64 4] else .tuple #[.string ⟨(joinB xs).toArray⟩, .int .i64 0]) ∧ Below W.heap.size W w' := by
  have HU := Lib.hid hu
  obtain ⟨oa, ca, rfl, _⟩ := hu
  have HM : Hid (∀ (k : Nat) (h : k < xs.length) (W' : World), Below W.heap.size W W' → Calls Tryd.prog 46 #[.agg #[.int .u8 xs[k].kind, .string xs[k].text, .int .i64 xs[k].wd, .int .i64 xs[k].place]] W' fun e w'' => e = .returned (.bool true) ∧ Below W'.heap.size W' w'') :=
    fun k h W' hb => by
      have q := may_any xs[k].kind xs[k].text xs[k].wd xs[k].place (by have := okT_size (hok k h); omega) W' (T.below (Nat.le_refl _) hb)
      have e : mayB xs[k].kind xs[k].text xs[k].wd = true := hok k h
      rw [e] at q
      exact q
  have HSZ : Hid (∀ k (h : k < xs.length), xs[k].text.size ≤ 32) := fun k h => okT_size (hok k h)
  have HJ : Hid (∀ k, joinN (xs.take k) ≤ 33 * k) := fun k => joinN_take xs k (fun i x _ hx => by
    obtain ⟨hi, rfl⟩ := List.getElem?_eq_some_iff.1 hx
    exact hok i hi)
  have HMN : Hid (∀ k, joinN (xs.take k) ≤ joinN xs) := joinN_mono xs
  have HJB : Hid (∀ k, (joinB (xs.take k)).length = joinN (xs.take k)) := fun k => joinB_len _
  obtain ⟨n, hnn⟩ : ∃ n, Hid (n = xs.length) := ⟨_, rfl⟩
  have hn' : n ≤ 4611686018427 := by rw [hnn.out]; exact hn
  rw [← hnn.out] at HU ⊢
  obtain ⟨JN, hJN⟩ : ∃ J, Hid (J = joinN xs) := ⟨_, rfl⟩
  rw [← hJN.out] at HMN ⊢
  clear T hok hn
  go_enter Tryd.func27, Tryd.ntmps27
  go_wp2_with fail
  go_loopw [2, 3, 4, 5, 6, 12] (fun a2 a3 sz _ _ i wr => Hid (Below W.heap.size W wr) ∧ ∃ (k : Nat), k ≤ n ∧ i = .int .i64 k ∧ sz = .int .i64 (joinN (xs.take k))) (fun _ _ _ _ _ i _ => n - (intOf i).toNat)
  case atStart => exact ⟨Below.refl _ _, 0, Nat.zero_le _, rfl, rfl⟩
  case round =>
    obtain ⟨hB, k, hk, rfl, rfl⟩ := hrel
    have hJk := HJ.out k
    obtain ⟨J, hJ⟩ : ∃ J, Hid (J = joinN (xs.take k)) := ⟨_, rfl⟩
    rw [← hJ.out] at hJk ⊢
    by_cases hlt : k < n
    · have hlt' : (k : Int) < (n : Int) := by omega
      have hkx : k < xs.length := by rw [← hnn.out]; exact hlt
      obtain ⟨g, off, hoa, a0, a1, a2, a3⟩ := (HU.out.keep hB.out).at hkx
      subst hoa
      have HMK := Lib.hid (HM.out k hkx)
      have hxz := HSZ.out k hkx
      have hst := Lib.hid (joinN_step hkx)
      rw [← hJ.out] at hst
      generalize xs[k].kind = xk at *
      generalize xs[k].text = xt at *
      generalize xs[k].wd = xw at *
      generalize xs[k].place = xp at *
      have hsz : (0 : Int) < (k : Int) ∨ ¬ (0 : Int) < (k : Int) := by omega
      rcases hsz with h0 | h0
      · have hst2 : Hid (joinN (xs.take (k + 1)) = J + 1 + xt.size) := by rw [Hid, hst.out, if_neg (by omega)]
        go_wp2_with (go_at_call 46; refine (HMK.out _ (hB.out.alloc hB.out.size _)).mono ?_; rintro e w2 ⟨rfl, hb2⟩; have ht2 : w2.heap[wr.heap.size]? = some (.cells #[.int .u8 xk, .string xt, .int .i64 xw, .int .i64 xp] 38 (0, 0)) := (hb2.block _ (by simp)).trans (World.alloc_heap_new wr _); obtain ⟨⟨d0, d1, d2, d3⟩, _⟩ := row4 ht2; have HB2 := Lib.hid (hB.out.trans (((Below.refl _ wr).alloc (Nat.le_refl _) _).trans (hb2.mono (by simp)) |>.mono hB.out.size)); clear ht2 hb2)
        go_roundw
        case rel => exact ⟨HB2.out, k + 1, by omega, by go_num, by rw [hst2.out]; go_num⟩
        case measure => simp [intOf]; omega
      · have hst2 : Hid (joinN (xs.take (k + 1)) = J + xt.size) := by rw [Hid, hst.out, if_pos (by omega)]; omega
        go_wp2_with (go_at_call 46; refine (HMK.out _ (hB.out.alloc hB.out.size _)).mono ?_; rintro e w2 ⟨rfl, hb2⟩; have ht2 : w2.heap[wr.heap.size]? = some (.cells #[.int .u8 xk, .string xt, .int .i64 xw, .int .i64 xp] 38 (0, 0)) := (hb2.block _ (by simp)).trans (World.alloc_heap_new wr _); obtain ⟨⟨d0, d1, d2, d3⟩, _⟩ := row4 ht2; have HB2 := Lib.hid (hB.out.trans (((Below.refl _ wr).alloc (Nat.le_refl _) _).trans (hb2.mono (by simp)) |>.mono hB.out.size)); clear ht2 hb2)
        go_roundw
        case rel => exact ⟨HB2.out, k + 1, by omega, by go_num, by rw [hst2.out]; go_num⟩
        case measure => simp [intOf]; omega
    · have hlt' : ¬ (k : Int) < (n : Int) := by omega
      have hkn : k = n := by omega
      have hJJ : J = JN := by rw [hJ.out, hJN.out, List.take_of_length_le (by rw [← hnn.out]; omega)]
      subst hJJ
      by_cases hl : 65536 < J
      · have hl' : (65536 : Int) < (J : Int) := by omega
        go_wp2_with fail
        go_ret2
        exact ⟨rfl, hB.out⟩
      · have hl' : ¬ (65536 : Int) < (J : Int) := by omega
        have hJs : J ≤ 65536 := by omega
        go_wp2_with fail
        have hBw := hB.out.size
        obtain ⟨V, rfl⟩ : ∃ V, V = wr := ⟨_, rfl⟩
        go_loopw [8, 9, 34] (fun _ _ i w3 => Hid (IsBld V.heap.size V.heap.size (Lib.byteCells (joinB (xs.take (intOf i).toNat))) w3 ∧ Below V.heap.size V w3) ∧ ∃ (k : Nat), k ≤ n ∧ i = .int .i64 k) (fun _ _ i _ => n - (intOf i).toNat)
        case atStart => exact ⟨⟨Lib.fresh_isBuilder _ _ V, (Below.refl _ V).alloc (Nat.le_refl _) _⟩, 0, Nat.zero_le _, rfl⟩
        case round =>
          obtain ⟨hI, k2, hk2, rfl⟩ := hrel
          have HI := Lib.hid (show IsBld V.heap.size V.heap.size (Lib.byteCells (joinB (xs.take k2))) wr ∧ Below V.heap.size V wr from hI.out)
          clear hI
          have hbl : (Lib.byteCells (joinB (xs.take k2))).length ≤ 65536 := by
            rw [Lib.byteCells_length, HJB.out k2]
            exact Nat.le_trans (HMN.out k2) hJs
          have HBB := Lib.hid (hB.out.trans (HI.out.2.mono hBw))
          have hVz := HI.out.2.size
          by_cases hlt : k2 < n
          · have hlt' : (k2 : Int) < (n : Int) := by omega
            have hkx : k2 < xs.length := by rw [← hnn.out]; exact hlt
            obtain ⟨g, off, hoa, a0, a1, a2, a3⟩ := (HU.out.keep HBB.out).at hkx
            subst hoa
            have hxz := HSZ.out k2 hkx
            have hst := Lib.hid (joinB_step hkx)
            generalize xs[k2].kind = xk at *
            generalize xs[k2].text = xt at *
            generalize xs[k2].wd = xw at *
            generalize xs[k2].place = xp at *
            have hbx := World.alloc_heap_new wr (.cells #[.int .u8 xk, .string xt, .int .i64 xw, .int .i64 xp] 38)
            have HBX := Lib.hid hbx
            clear hbx
            have hne : wr.heap.size ≠ V.heap.size := by
              have := (HI.out.1).elim (fun h => h.lt) (fun h => h.lt)
              omega
            have hsz : (0 : Int) < (k2 : Int) ∨ ¬ (0 : Int) < (k2 : Int) := by omega
            rcases hsz with h0 | h0
            · have hst2 : Hid (Lib.byteCells (joinB (xs.take (k2 + 1))) = Lib.byteCells (joinB (xs.take k2)) ++ [.int .u8 32] ++ Lib.strCells xt) := by
                rw [Hid, hst.out, if_neg (by omega), Lib.byteCells_append, Lib.byteCells_append]; rfl
              go_wp2_with (first
                | (go_at_call 47; refine (writeByte_keep V.heap.size V.heap.size (Lib.byteCells (joinB (xs.take k2))) 32 _ (IsBld.alloc HI.out.1 _) (by omega) (by simp; omega)).mono ?_; rintro e w4 ⟨rfl, hb4, hk4, hB4⟩; have hz4 := hB4.size; obtain ⟨⟨d0, d1, d2, d3⟩, _⟩ := row4 (hk4.block _ _ HBX.out ⟨hne, not_ty (by decide)⟩); have HB4 := Lib.hid hb4; have HBB4 := Lib.hid (((HI.out.2).alloc (by omega) _).trans hB4); clear hb4 hk4 hB4)
                | (go_at_call 48; refine (writeString_keep V.heap.size V.heap.size (Lib.byteCells (joinB (xs.take k2)) ++ [.int .u8 32]) xt _ (.inr HB4.out) (by simp; omega) HBB4.out.size).mono ?_; rintro e w5 ⟨rfl, hb5, hk5, hB5⟩; have HB5 := Lib.hid hb5; have HBB5 := Lib.hid (HBB4.out.trans hB5); clear hb5 hk5 hB5))
              go_roundw
              case rel => exact ⟨⟨by show IsBld _ _ (Lib.byteCells (joinB (xs.take (k2 + 1)))) _; rw [hst2.out]; exact .inr HB5.out, HBB5.out⟩, k2 + 1, by omega, by go_num⟩
              case measure => simp [intOf]; omega
            · have hst2 : Hid (Lib.byteCells (joinB (xs.take (k2 + 1))) = Lib.byteCells (joinB (xs.take k2)) ++ Lib.strCells xt) := by
                rw [Hid, hst.out, if_pos (by omega), List.append_nil, Lib.byteCells_append]; rfl
              obtain ⟨⟨d0, d1, d2, d3⟩, _⟩ := row4 HBX.out
              go_wp2_with (go_at_call 48; refine (writeString_keep V.heap.size V.heap.size (Lib.byteCells (joinB (xs.take k2))) xt _ (IsBld.alloc HI.out.1 _) (by omega) (by simp; omega)).mono ?_; rintro e w5 ⟨rfl, hb5, hk5, hB5⟩; have HB5 := Lib.hid hb5; have HBB5 := Lib.hid (((HI.out.2).alloc (by omega) _).trans hB5); clear hb5 hk5 hB5)
              go_roundw
              case rel => exact ⟨⟨by show IsBld _ _ (Lib.byteCells (joinB (xs.take (k2 + 1)))) _; rw [hst2.out]; exact .inr HB5.out, HBB5.out⟩, k2 + 1, by omega, by go_num⟩
              case measure => simp [intOf]; omega
          · have hlt' : ¬ (k2 : Int) < (n : Int) := by omega
            have htk : xs.take k2 = xs := List.take_of_length_le (by rw [← hnn.out]; omega)
            rw [htk] at HI
            have HIS := Lib.hid (Tryd.Builder_String_any V.heap.size V.heap.size (joinB xs) wr HI.out.1 HI.out.2.size)
            clear htk
            go_wp2_with (go_at_call 49; refine (HIS.out).mono ?_; rintro e w6 ⟨rfl, hb6⟩)
            go_ret2
            exact ⟨rfl, HBB.out.trans (hb6.mono hBw)⟩
end Go.Proofs.YteedpojchapjgaaDoor

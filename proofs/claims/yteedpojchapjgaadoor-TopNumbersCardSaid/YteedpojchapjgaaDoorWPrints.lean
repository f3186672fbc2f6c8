/- The lexer's laws: tokens as a text: as the reference writes them. -/
import Derived.Test.YteedpojchapjgaaDoorPrintR
import Derived.Test.YteedpojchapjgaaDoorSame2
import Derived.Test.YteedpojchapjgaaDoorToks
namespace Go.Proofs.YteedpojchapjgaaDoor
open Go.RowKit
set_option linter.unusedVariables false

/-- What Print says. -/
def printX (xs : List Res) : ByteArray × Int := if xs.all okT = true then (if 65536 < joinN xs then (⟨#[]⟩, 4) else (⟨(joinB xs).toArray⟩, 0)) else (⟨#[]⟩, 2)
theorem first_bad : ∀ (xs : List Res), ¬ xs.all okT = true → ∃ (j : Nat) (hj : j < xs.length), okT xs[j] = false ∧ ∀ i (h : i < xs.length), i < j → okT xs[i] = true
  | [], h => by simp at h
  | x :: r, h => by
    cases hx : okT x with
    | false => exact ⟨0, by simp, hx, fun i _ h => by omega⟩
    | true =>
      obtain ⟨j, hj, h1, h2⟩ := first_bad r (by intro hr; apply h; simp only [List.all_cons, hx, hr, Bool.and_self])
      refine ⟨j + 1, by simpa using hj, h1, fun i hi hij => ?_⟩
      cases i with
      | zero => exact hx
      | succ i => exact h2 i (by simpa using hi) (by omega)
theorem print_any (W : World) (T : LTabs W) (u : Value) (xs : List Res) (hu : TokRow W u xs) (hx : ∀ x ∈ xs, x.text.size ≤ 4611686018427387904) (hn : xs.length ≤ 4611686018427) :
    Calls Tryd.prog 27 #[u] W fun e w' => e = .returned (.tuple #[.string (printX xs).1, .int .i64 (printX xs).2]) ∧ Below W.heap.size W w' := by
  by_cases h : xs.all okT = true
  · refine (print_good W T u xs hu hn (fun i hi => List.all_eq_true.1 h _ (List.getElem_mem _))).mono ?_
    rintro e w' ⟨rfl, hb⟩
    refine ⟨?_, hb⟩
    unfold printX
    rw [if_pos h]
    by_cases hl : 65536 < joinN xs
    · rw [if_pos hl, if_pos hl]
    · rw [if_neg hl, if_neg hl]
  · obtain ⟨j, hj, h1, h2⟩ := first_bad xs h
    refine (print_bad W T u xs hu hx hn j hj h1 h2).mono ?_
    rintro e w' ⟨rfl, hb⟩
    refine ⟨?_, hb⟩
    unfold printX
    rw [if_neg h]
theorem rprint_any (W : World) (u : Value) (xs : List Res) (hu : TokRow W u xs) (hx : ∀ x ∈ xs, x.text.size ≤ 4611686018427387904) (hn : xs.length ≤ 4611686018427) :
    Calls Tryd.prog 28 #[u] W fun e w' => e = .returned (.tuple #[.string (printX xs).1, .int .i64 (printX xs).2]) ∧ Below W.heap.size W w' := by
  by_cases h : xs.all okT = true
  · refine (rprint_good W u xs hu hn (fun i hi => List.all_eq_true.1 h _ (List.getElem_mem _))).mono ?_
    rintro e w' ⟨rfl, hb⟩
    refine ⟨?_, hb⟩
    unfold printX
    rw [if_pos h]
    by_cases hl : 65536 < joinN xs
    · rw [if_pos hl, if_pos hl]
    · rw [if_neg hl, if_neg hl]
  · obtain ⟨j, hj, h1, h2⟩ := first_bad xs h
    refine (rprint_bad W u xs hu hx hn j hj h1 h2).mono ?_
    rintro e w' ⟨rfl, hb⟩
    refine ⟨?_, hb⟩
    unfold printX
    rw [if_neg h]
theorem rowR_cell {W : World} {a : Addr} {n cap : Nat} {xs : List Res} (h : TokRow W (.slice (some a) n cap) xs) : ∀ (j : Nat) (u : Value), (rowR xs)[j]? = some u → W.cell? (a.add j) = some u := by
  intro j u hj
  have hlt := (List.getElem?_eq_some_iff.1 hj).1
  rw [rowR_len] at hlt
  have hk : j / 4 < xs.length := by omega
  obtain ⟨g, off, ho, a0, a1, a2, a3⟩ := h.at hk
  cases ho
  have e4 : j = j / 4 * 4 + j % 4 := by omega
  have hr := rowR_at xs (j / 4) (j % 4) _ (List.getElem?_eq_getElem hk) (by omega)
  rw [← e4, hj] at hr
  have ea : (⟨g, off, none⟩ : Addr).add j = ⟨g, off + j, none⟩ := by simp [Addr.add]
  rw [ea, e4, ← Nat.add_assoc]
  have hm : j % 4 = 0 ∨ j % 4 = 1 ∨ j % 4 = 2 ∨ j % 4 = 3 := by omega
  rcases hm with hm | hm | hm | hm <;> rw [hm] at hr ⊢ <;> (have hr' := hr.symm; simp only [tokCells, List.getElem?_cons_zero, List.getElem?_cons_succ, Option.some.injEq] at hr'; subst hr')
  · exact a0
  · exact a1
  · exact a2
  · exact a3
set_option maxRecDepth 100000 in
set_option maxHeartbeats 8000000 in
theorem prints_some (a : Addr) (cap : Nat) (xs : List Res) (w : World) (T : LTabs w) (hu : TokRow w (.slice (some a) xs.length cap) xs) (hx : ∀ x ∈ xs, x.text.size ≤ 4611686018427387904) (hn : xs.length ≤ 3518437208883) :
    Calls Tryd.prog 6 #[.slice (some a) xs.length cap] w fun e w' => e = .returned (.bool true) ∧ LInv w w' := by
  obtain ⟨i0, hi, hz0, hz1, hz2⟩ := info_parts infoTok
  have HT := Lib.hid T
  have HU := Lib.hid hu
  have HP := Lib.hid (fun W (T : LTabs W) u (h : TokRow W u xs) => print_any W T u xs h hx (by omega))
  have HR := Lib.hid (fun W u (h : TokRow W u xs) => rprint_any W u xs h hx (by omega))
  obtain ⟨R, hR⟩ : ∃ R, Hid (R = printX xs) := ⟨_, rfl⟩
  rw [← hR.out] at HP HR
  obtain ⟨rs, re⟩ := R
  simp only at HP HR
  obtain ⟨n, hnn⟩ : ∃ n, Hid (n = xs.length) := ⟨_, rfl⟩
  rw [← hnn.out] at hn HU ⊢
  clear T hu hx
  go_enter Tryd.func6, Tryd.ntmps6
  go_wp2_with (at_builtin; refine wpList_append_own _ rfl _ _ 24 rfl w.heap.size 38 i0 _ 4 40 Tryd.underlying24 hi hz0 hz1 hz2 rfl (by decide) (.slice (some ⟨w.heap.size, 0, none⟩) 0 0) 0 [] rfl ⟨rfl, .inr ⟨w.heap.size, 0, #[], rfl, Nat.le_refl _, World.alloc_heap_new w _, Nat.le_refl _, by decide, rfl, rfl⟩⟩ a n cap (rowR xs) rfl ?c0 ?c1 ?c2 ?c3 ?c4 ?c5 ?_)
  case c0 => rw [rowR_len, ← hnn.out]
  case c1 => exact rowR_cell ((show TokRow w (.slice (some a) n cap) xs from HU.out).keep ((Below.refl _ w).alloc (Nat.le_refl _) _))
  case c2 => exact one_cells xs
  case c3 => simp only [maxLen]; omega
  case c4 => omega
  case c5 => simp
  intro v' w3 hown' hgrow _
  have hb3 : Below w.heap.size w w3 := ((Below.refl _ w).alloc (Nat.le_refl _) _).grown hgrow (by simp) (fun k e => by
    have e' : w.heap.size = k := by simpa [Value.ownBlock] using e
    omega)
  have TV : Hid (TokRow w3 v' xs) := by rw [Hid]; rw [hnn.out] at hown'; exact tokRow_owns hown'
  have HB3 := Lib.hid hb3
  clear hown' hgrow hb3
  go_wp2_with (first
    | (go_at_call 27; refine (HP.out _ (HT.out.below (Nat.le_refl _) HB3.out) _ TV.out).mono ?_; rintro e w4 ⟨rfl, hb4⟩; have TV4 := Lib.hid (TV.out.keep hb4); have HB4 := Lib.hid (HB3.out.trans (hb4.mono HB3.out.size)); clear hb4)
    | (go_at_call 28; refine (HR.out _ _ (HU.out.keep HB4.out)).mono ?_; rintro e w5 ⟨rfl, hb5⟩; have TV5 := Lib.hid (TV4.out.keep hb5); have HB5 := Lib.hid (HB4.out.trans (hb5.mono HB4.out.size)); clear hb5)
    | (go_at_call 24; refine (same_big _ _ _ xs xs TV5.out (HU.out.keep HB5.out) (EqToks.rfl' _ _) (by rw [← hnn.out]; omega)).mono ?_; rintro e w6 ⟨rfl, m, rfl⟩; have I6 := Lib.hid ((LInv.make HT.out HB5.out).next (below_drewN (Below.refl _ w5) m)))
    | (go_at_call 21; refine (begins_i I6.out).mono ?_; rintro e w7 ⟨rfl, hI⟩; have HI := Lib.hid hI; clear hI))
  go_ret
  exact ⟨rfl, HI.out⟩
set_option maxRecDepth 100000 in
set_option maxHeartbeats 8000000 in
theorem prints_none (w : World) (T : LTabs w) :
    Calls Tryd.prog 6 #[.slice none 0 0] w fun e w' => e = .returned (.bool true) ∧ LInv w w' := by
  have HT := Lib.hid T
  have HU : Hid (∀ W, TokRow W (.slice none 0 0) []) := fun W => ⟨none, 0, rfl, by simp⟩
  have HP := Lib.hid (fun W (T : LTabs W) u (h : TokRow W u []) => print_any W T u [] h (by simp) (by simp))
  have HR := Lib.hid (fun W u (h : TokRow W u []) => rprint_any W u [] h (by simp) (by simp))
  obtain ⟨R, hR⟩ : ∃ R, Hid (R = printX []) := ⟨_, rfl⟩
  rw [← hR.out] at HP HR
  obtain ⟨rs, re⟩ := R
  simp only at HP HR
  clear T
  go_enter Tryd.func6, Tryd.ntmps6
  have HN : Hid (∀ o, LTabs (w.alloc o)) := fun o => HT.out.below (Nat.le_refl _) ((Below.refl _ w).alloc (Nat.le_refl _) _)
  go_wp2_with (first
    | (go_at_call 27; refine (HP.out _ (HN.out _) _ ⟨_, _, rfl, by simp⟩).mono ?_; rintro e w4 ⟨rfl, hb4⟩; have HB4 := Lib.hid (((Below.refl _ w).alloc (Nat.le_refl _) _).trans (hb4.mono (by simp))); clear hb4)
    | (go_at_call 28; refine (HR.out _ _ (HU.out _)).mono ?_; rintro e w5 ⟨rfl, hb5⟩; have HB5 := Lib.hid (HB4.out.trans (hb5.mono HB4.out.size)); clear hb5)
    | (go_at_call 24; refine (same_big _ _ _ [] [] ⟨_, _, rfl, by simp⟩ (HU.out _) (EqToks.rfl' _ _) (by simp)).mono ?_; rintro e w6 ⟨rfl, m, rfl⟩; have I6 := Lib.hid ((LInv.make HT.out HB5.out).next (below_drewN (Below.refl _ w5) m)))
    | (go_at_call 21; refine (begins_i I6.out).mono ?_; rintro e w7 ⟨rfl, hI⟩; have HI := Lib.hid hI; clear hI))
  go_ret
  exact ⟨rfl, HI.out⟩
theorem prints_walk (v : Value) (w : World) (h : TokArg w v) (T : LTabs w) :
    Calls Tryd.prog 6 #[v] w fun e w' => e = .returned (.bool true) ∧ LInv w w' := by
  rcases h with rfl | ⟨a, cap, xs, rfl, hu, hx, hn⟩
  · exact prints_none w T
  · exact prints_some a cap xs w T hu hx hn
end Go.Proofs.YteedpojchapjgaaDoor

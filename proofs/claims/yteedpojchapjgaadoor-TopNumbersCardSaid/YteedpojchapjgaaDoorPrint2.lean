/- The lexer: Print: a token that may not be printed. -/
import Derived.Test.YteedpojchapjgaaDoorPrint
namespace Go.Proofs.YteedpojchapjgaaDoor
set_option pp.deepTerms true
set_option pp.maxSteps 1000000
open Go.RowKit
set_option linter.unusedVariables false

theorem TokRow.at {W : World} {oa : Option Addr} {n cap : Nat} {xs : List Res} (h : TokRow W (.slice oa n cap) xs) {k : Nat} (hk : k < xs.length) : ∃ g off, oa = some ⟨g, off, none⟩ ∧
    W.cell? ⟨g, off + k * 4, none⟩ = some (.int .u8 xs[k].kind) ∧ W.cell? ⟨g, off + k * 4 + 1, none⟩ = some (.string xs[k].text) ∧ W.cell? ⟨g, off + k * 4 + 2, none⟩ = some (.int .i64 xs[k].wd) ∧ W.cell? ⟨g, off + k * 4 + 3, none⟩ = some (.int .i64 xs[k].place) := by
  obtain ⟨oa', c', hu, hc⟩ := h
  cases hu
  exact hc k _ (List.getElem?_eq_getElem hk)
def tokO (k : Int) (x : ByteArray) (wd p : Int) : Obj := .cells #[.int .u8 k, .string x, .int .i64 wd, .int .i64 p] 38
set_option maxRecDepth 100000 in
set_option maxHeartbeats 8000000 in
theorem print_bad (W : World) (T : LTabs W) (u : Value) (xs : List Res) (hu : TokRow W u xs) (hx : ∀ x ∈ xs, x.text.size ≤ 4611686018427387904) (hn : xs.length ≤ 4611686018427) (j : Nat) (hj : j < xs.length) (hbad : okT xs[j] = false) (hok : ∀ i (h : i < xs.length), i < j → okT xs[i] = true) :
    Calls Tryd.prog 27 #[u] W fun e w' => e = .returned (.tuple #[.string ⟨#[]⟩, .int .i64 2]) ∧ Below W.heap.size W w' := by
  have HU := Lib.hid hu
  obtain ⟨oa, ca, rfl, _⟩ := hu
  have HM : Hid (∀ (k : Nat) (h : k < xs.length) (W' : World), Below W.heap.size W W' → Calls Tryd.prog 46 #[.agg #[.int .u8 xs[k].kind, .string xs[k].text, .int .i64 xs[k].wd, .int .i64 xs[k].place]] W' fun e w'' => e = .returned (.bool (okT xs[k])) ∧ Below W'.heap.size W' w'') :=
    fun k h W' hb => may_any _ _ _ _ (hx _ (List.getElem_mem _)) W' (T.below (Nat.le_refl _) hb)
  have HBAD := Lib.hid hbad
  have HOK := Lib.hid hok
  obtain ⟨n, hnn⟩ : ∃ n, Hid (n = xs.length) := ⟨_, rfl⟩
  have hjn : j < n := by rw [hnn.out]; exact hj
  have hn' : n ≤ 4611686018427 := by rw [hnn.out]; exact hn
  rw [← hnn.out] at HU ⊢
  clear T hx hbad hok hn
  go_enter Tryd.func27, Tryd.ntmps27
  go_wp2_with fail
  go_loopw [2, 3, 4, 5, 6, 12] (fun _ _ sz _ _ i wr => Hid (Below W.heap.size W wr) ∧ ∃ (k : Nat) (z : Int), k ≤ j ∧ i = .int .i64 k ∧ sz = .int .i64 z) (fun _ _ _ _ _ i _ => j + 1 - (intOf i).toNat)
  case atStart => exact ⟨Below.refl _ _, 0, 0, Nat.zero_le _, rfl, rfl⟩
  case round =>
    obtain ⟨hB, k, z, hk, rfl, rfl⟩ := hrel
    have hlt : k < n := by omega
    have hlt' : (k : Int) < (n : Int) := by omega
    have hkx : k < xs.length := by rw [← hnn.out]; exact hlt
    obtain ⟨g, off, hoa, a0, a1, a2, a3⟩ := (HU.out.keep hB.out).at hkx
    subst hoa
    have HMK := Lib.hid (HM.out k hkx)
    by_cases hkj : k < j
    · have hokk := HOK.out k hkx hkj
      rw [hokk] at HMK
      generalize xs[k].kind = xk at *
      generalize xs[k].text = xt at *
      generalize xs[k].wd = xw at *
      generalize xs[k].place = xp at *
      have hsz : (0 : Int) < (k : Int) ∨ ¬ (0 : Int) < (k : Int) := by omega
      rcases hsz with h0 | h0
      · go_wp2_with (go_at_call 46; refine (HMK.out _ (hB.out.alloc hB.out.size _)).mono ?_; rintro e w2 ⟨rfl, hb2⟩; have ht2 : w2.heap[wr.heap.size]? = some (.cells #[.int .u8 xk, .string xt, .int .i64 xw, .int .i64 xp] 38 (0, 0)) := (hb2.block _ (by simp)).trans (World.alloc_heap_new wr _); obtain ⟨⟨d0, d1, d2, d3⟩, _⟩ := row4 ht2; have HB2 := Lib.hid (hB.out.trans (((Below.refl _ wr).alloc (Nat.le_refl _) _).trans (hb2.mono (by simp)) |>.mono hB.out.size)); clear ht2 hb2)
        go_roundw
        case rel => exact ⟨HB2.out, k + 1, _, by omega, by go_num, rfl⟩
        case measure => simp [intOf]; omega
      · go_wp2_with (go_at_call 46; refine (HMK.out _ (hB.out.alloc hB.out.size _)).mono ?_; rintro e w2 ⟨rfl, hb2⟩; have ht2 : w2.heap[wr.heap.size]? = some (.cells #[.int .u8 xk, .string xt, .int .i64 xw, .int .i64 xp] 38 (0, 0)) := (hb2.block _ (by simp)).trans (World.alloc_heap_new wr _); obtain ⟨⟨d0, d1, d2, d3⟩, _⟩ := row4 ht2; have HB2 := Lib.hid (hB.out.trans (((Below.refl _ wr).alloc (Nat.le_refl _) _).trans (hb2.mono (by simp)) |>.mono hB.out.size)); clear ht2 hb2)
        go_roundw
        case rel => exact ⟨HB2.out, k + 1, _, by omega, by go_num, rfl⟩
        case measure => simp [intOf]; omega
    · obtain rfl : k = j := by omega
      rw [HBAD.out] at HMK
      generalize xs[k].kind = xk at *
      generalize xs[k].text = xt at *
      generalize xs[k].wd = xw at *
      generalize xs[k].place = xp at *
      go_wp2_with (go_at_call 46; refine (HMK.out _ (hB.out.alloc hB.out.size _)).mono ?_; rintro e w2 ⟨rfl, hb2⟩; have ht2 : w2.heap[wr.heap.size]? = some (.cells #[.int .u8 xk, .string xt, .int .i64 xw, .int .i64 xp] 38 (0, 0)) := (hb2.block _ (by simp)).trans (World.alloc_heap_new wr _); obtain ⟨⟨d0, d1, d2, d3⟩, _⟩ := row4 ht2; have HB2 := Lib.hid (hB.out.trans (((Below.refl _ wr).alloc (Nat.le_refl _) _).trans (hb2.mono (by simp)) |>.mono hB.out.size)); clear ht2 hb2)
      go_ret2
      exact ⟨rfl, HB2.out⟩
end Go.Proofs.YteedpojchapjgaaDoor

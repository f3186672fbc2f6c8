/- The lexer's laws: a text is cut; behind some calls. -/
import Derived.Test.YteedpojchapjgaaDoorKinds
namespace Go.Proofs.YteedpojchapjgaaDoor
open Go.RowKit
set_option linter.unusedVariables false

theorem scanA (w : World) (T : LTabs w) : Calls Tryd.prog 22 #[.string ⟨#[120, 60, 60, 61, 49, 32, 47, 47, 32, 121, 10]⟩] w fun e w' => ∃ g cap, e = .returned (.tuple #[.slice (some ⟨g, 0, none⟩) 4 cap, .int .i64 0, .agg #[.int .i64 0, .int .i64 0]]) ∧ 4 ≤ cap ∧ g < w'.heap.size ∧ w'.cell? ⟨g, 5, none⟩ = some (.string ⟨#[60, 60]⟩) ∧ w'.cell? ⟨g, 14, none⟩ = some (.int .i64 1) ∧ w'.cell? ⟨g, 15, none⟩ = some (.int .i64 4) ∧ Below w.heap.size w w' := by
  refine (scan_any textA w T).mono ?_
  rintro e w' ⟨⟨v, rfl, h⟩, hb⟩
  unfold scanPost at h
  rw [if_neg (by decide), frontA, if_pos rfl] at h
  obtain ⟨u, rfl, hr, _⟩ := h
  have hcap : ∃ g cap, u = .slice (some ⟨g, 0, none⟩) 4 cap ∧ 4 ≤ cap := by
    rcases hr.2 with ⟨_, h0⟩ | ⟨g, cap, cur, hv, _, _, hle, _⟩
    · cases h0
    · exact ⟨g, cap, hv, hle⟩
  obtain ⟨g, cap, hv, hb0, hg, hc⟩ := ownsRow_cells hr
  obtain ⟨g2, cap2, hv2, hle⟩ := hcap
  subst hv
  cases hv2
  exact ⟨g, cap, rfl, hle, hg, hc 5 _ rfl, hc 14 _ rfl, hc 15 _ rfl, hb⟩
theorem scanB (w : World) (T : LTabs w) : Calls Tryd.prog 22 #[.string ⟨#[97, 32, 48, 49]⟩] w fun e w' => e = .returned (.tuple #[.slice none 0 0, .int .i64 20, .agg #[.int .i64 2, .int .i64 3]]) ∧ Below w.heap.size w w' := by
  refine (scan_any textB w T).mono ?_
  rintro e w' ⟨⟨v, rfl, h⟩, hb⟩
  unfold scanPost at h
  rw [if_neg (by decide), frontB, if_neg (by decide)] at h
  exact ⟨by rw [h]; rfl, hb⟩
theorem wordWhile (w : World) (T : LTabs w) : Calls Tryd.prog 17 #[.string ⟨#[119, 104, 105, 108, 101]⟩] w fun e w' => e = .returned (.bool true) ∧ w = w' := by
  have k := word_any ⟨#[119, 104, 105, 108, 101]⟩ w T
  rw [show wordB ⟨#[119, 104, 105, 108, 101]⟩ = true by kernel_rfl] at k
  exact k
theorem nameWhile (w : World) (T : LTabs w) : Calls Tryd.prog 15 #[.string ⟨#[119, 104, 105, 108, 101]⟩] w fun e w' => e = .returned (.bool false) ∧ w = w' := by
  have k := isname_any ⟨#[119, 104, 105, 108, 101]⟩ w T
  rw [show nameB ⟨#[119, 104, 105, 108, 101]⟩ = false by kernel_rfl] at k
  exact k
set_option maxRecDepth 100000 in
set_option maxHeartbeats 2000000 in
theorem begins_any (w : World) (T : LTabs w) : Calls Tryd.prog 21 #[] w fun e w' => e = .returned (.bool true) ∧ Below w.heap.size w w' := by
  have HT := Lib.hid T
  have HA := Lib.hid (scanA w T)
  have HBs := Lib.hid scanB
  have HW := Lib.hid wordWhile
  have HN := Lib.hid nameWhile
  clear T
  go_enter Tryd.func21, Tryd.ntmps21
  go_wp2_with (go_at_call 22; (with_reducible refine (HA.out).mono ?_); rintro e w1 ⟨g, cap, rfl, hcap, hg, hc1, hc2, hc3, hb1⟩; have HB1 := Lib.hid hb1; clear hb1)
  have hbA := (HB1.out.alloc HB1.out.size (.cells #[.int .i64 0, .int .i64 0] 27))
  have HT2 := Lib.hid (HT.out.below (Nat.le_refl _) hbA)
  refine (HBs.out _ HT2.out).mono ?_
  rintro e w2 ⟨rfl, hb2⟩
  have hg1 : g < (w1.alloc (.cells #[.int .i64 0, .int .i64 0] 27)).heap.size := by rw [World.size_alloc]; exact Nat.lt_succ_of_lt hg
  have al : ∀ (o : Nat) (u : Value), w1.cell? ⟨g, o, none⟩ = some u → w2.cell? ⟨g, o, none⟩ = some u := fun o u h =>
    (hb2.cell (p := ⟨g, o, none⟩) hg1).trans ((World.cell?_of_block (Below.heap_alloc w1 _ g hg)).trans h)
  have d1 := al _ _ hc1
  have d2 := al _ _ hc2
  have d3 := al _ _ hc3
  have hgw : g < w2.heap.size := Nat.lt_of_lt_of_le hg1 hb2.size
  have hgw1 : g < w2.heap.size + 1 := Nat.lt_succ_of_lt hgw
  have HB2 := Lib.hid hb2
  have HBA := Lib.hid hbA
  have hbC := Lib.hid ((HBA.out.trans (HB2.out.mono HBA.out.size)).alloc (by have := HBA.out.size; have := HB2.out.size; omega) (.cells #[.int .i64 2, .int .i64 3] 27))
  have HT3 := Lib.hid (HT.out.below (Nat.le_refl _) hbC.out)
  clear hb2 hbA al hc1 hc2 hc3 hg hg1
  go_wp2_with (first
    | (go_at_call 17; refine (HW.out _ HT3.out).mono ?_; rintro e w3 ⟨rfl, rfl⟩)
    | (go_at_call 15; refine (HN.out _ HT3.out).mono ?_; rintro e w3 ⟨rfl, rfl⟩))
  go_ret
  exact ⟨rfl, hbC.out⟩
/-- Behind some calls that began in w0. -/
structure LInv (w0 w : World) : Prop where
  tabs : LTabs w
  below : Below w0.heap.size w0 w
theorem LInv.start {w : World} (T : LTabs w) : LInv w w := ⟨T, Below.refl _ _⟩
theorem LInv.next {w0 w w' : World} (I : LInv w0 w) (hb : Below w.heap.size w w') : LInv w0 w' :=
  ⟨I.tabs.below (Nat.le_refl _) hb, I.below.trans (hb.mono I.below.size)⟩
theorem begins_i {w0 w : World} (I : LInv w0 w) : Calls Tryd.prog 21 #[] w fun e w' => e = .returned (.bool true) ∧ LInv w0 w' :=
  (begins_any w I.tabs).mono fun _ _ ⟨he, hb⟩ => ⟨he, I.next hb⟩
theorem i64_bd {x : Int} (h : (Lit.int .i64 x).wf = true) : -9223372036854775808 ≤ x ∧ x ≤ 9223372036854775807 := by
  simp [Lit.wf, IntKind.min, IntKind.max, IntKind.signed, IntKind.bits] at h; omega
theorem u8_bd {x : Int} (h : (Lit.int .u8 x).wf = true) : 0 ≤ x ∧ x ≤ 255 := by
  simp [Lit.wf, IntKind.min, IntKind.max, IntKind.signed, IntKind.bits] at h; omega
end Go.Proofs.YteedpojchapjgaaDoor

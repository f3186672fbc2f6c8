/- The program's Same of any two objects. -/
import Derived.Test.YtgmcfinjlddgbaaGreatDoorSq
namespace Go.Proofs.YtgmcfinjlddgbaaGreatDoor
open Go.RowKit
set_option linter.unusedVariables false
set_option maxRecDepth 100000
set_option maxHeartbeats 16000000 in
theorem tsame_any (o p : Ob) (hf : fitO o) (hf2 : fitO p) {v u : Value} {w : World} (hv : obA w o v) (hu : obA w p u) : Calls Tryz.prog 35 #[v, u] w fun e w' => ∃ b, e = .returned (.bool b) ∧ (b = true ↔ o = p) ∧ Below w.heap.size w w' := by
  obtain ⟨P, hP⟩ : ∃ P : Prop, P ↔ o = p := ⟨_, Iff.rfl⟩
  simp only [← hP]
  obtain ⟨a1, c1, a5, c5, rfl, h1, h5⟩ := hv
  obtain ⟨b1, d1, b5, d5, rfl, k1, k5⟩ := hu
  obtain ⟨f1, f5, fc⟩ := hf
  obtain ⟨e1, e5, ec⟩ := hf2
  have HEW0 : ∀ X, Below w.heap.size w X → Calls Tryz.prog 62 #[.slice a1 o.mem.length c1, .slice b1 p.mem.length d1] X fun e w' => ∃ r, e = .returned (.bool r) ∧ (r = true ↔ o.mem = p.mem) ∧ Below X.heap.size X w' := fun X hb => eq_words _ _ f1 e1 (intsAt_below h1 hb) (intsAt_below k1 hb)
  have HEF : Hid (∀ X, Below w.heap.size w X → Calls Tryz.prog 63 #[.slice a5 o.cores.length c5, .slice b5 p.cores.length d5, .func (.func 64) #[] #[]] X fun e w' => ∃ r, e = .returned (.bool r) ∧ (r = true ↔ o.cores = p.cores) ∧ Below X.heap.size X w') := fun X hb => eq_cors _ _ f5 e5 (fun c hc => (fc c hc).2) (fun c hc => (ec c hc).2) (corsAt_below h5 hb) (corsAt_below k5 hb)
  obtain ⟨mem, sh, lk, bf, cores⟩ := o
  obtain ⟨mem2, sh2, lk2, bf2, cores2⟩ := p
  simp only [obV] at *
  have HP : Hid (P ↔ mem = mem2 ∧ sh = sh2 ∧ lk = lk2 ∧ bf = bf2 ∧ cores = cores2) := hP.trans (by simp)
  have HEW1 : mem = mem2 → Hid (∀ X, Below w.heap.size w X → Calls Tryz.prog 62 #[.slice a1 mem.length c1, .slice b1 mem2.length d1] X fun e w' => e = .returned (.bool true) ∧ Below X.heap.size X w') := fun e X hb => (HEW0 X hb).mono fun _ _ ⟨r, q1, q2, q3⟩ => ⟨by rw [q1, q2.2 e], q3⟩
  have HEW2 : ¬ mem = mem2 → Hid (∀ X, Below w.heap.size w X → Calls Tryz.prog 62 #[.slice a1 mem.length c1, .slice b1 mem2.length d1] X fun e w' => e = .returned (.bool false) ∧ Below X.heap.size X w') := fun e X hb => (HEW0 X hb).mono fun _ _ ⟨r, q1, q2, q3⟩ => ⟨by
    cases r with
    | false => exact q1
    | true => exact absurd (q2.1 rfl) e, q3⟩
  clear HEW0 hP
  generalize mem.length = n1 at HEW1 HEW2 f1 ⊢
  generalize cores.length = n5 at HEF f5 ⊢
  generalize mem2.length = m1 at HEW1 HEW2 e1 ⊢
  generalize cores2.length = m5 at HEF e5 ⊢
  have B0 : Below w.heap.size w ((w.alloc (.cells #[.slice a1 n1 c1, .int .i64 sh, .int .i64 lk, .int .i64 bf, .slice a5 n5 c5] 29)).alloc (.cells #[.slice b1 m1 d1, .int .i64 sh2, .int .i64 lk2, .int .i64 bf2, .slice b5 m5 d5] 29)) := ((Below.refl _ w).alloc (Nat.le_refl _) _).alloc (by simp) _
  have OA : Own ((w.alloc (.cells #[.slice a1 n1 c1, .int .i64 sh, .int .i64 lk, .int .i64 bf, .slice a5 n5 c5] 29)).alloc (.cells #[.slice b1 m1 d1, .int .i64 sh2, .int .i64 lk2, .int .i64 bf2, .slice b5 m5 d5] 29)) w.heap.size 29 #[.slice a1 n1 c1, .int .i64 sh, .int .i64 lk, .int .i64 bf, .slice a5 n5 c5] := (Own.new w 29 #[.slice a1 n1 c1, .int .i64 sh, .int .i64 lk, .int .i64 bf, .slice a5 n5 c5]).alloc _
  have OB : Own ((w.alloc (.cells #[.slice a1 n1 c1, .int .i64 sh, .int .i64 lk, .int .i64 bf, .slice a5 n5 c5] 29)).alloc (.cells #[.slice b1 m1 d1, .int .i64 sh2, .int .i64 lk2, .int .i64 bf2, .slice b5 m5 d5] 29)) (w.heap.size + 1) 29 #[.slice b1 m1 d1, .int .i64 sh2, .int .i64 lk2, .int .i64 bf2, .slice b5 m5 d5] := by
    have h := Own.new (w.alloc (.cells #[.slice a1 n1 c1, .int .i64 sh, .int .i64 lk, .int .i64 bf, .slice a5 n5 c5] 29)) 29 #[.slice b1 m1 d1, .int .i64 sh2, .int .i64 lk2, .int .i64 bf2, .slice b5 m5 d5]
    rwa [World.size_alloc] at h
  obtain ⟨W0, hW0⟩ : ∃ W, W = (w.alloc (.cells #[.slice a1 n1 c1, .int .i64 sh, .int .i64 lk, .int .i64 bf, .slice a5 n5 c5] 29)).alloc (.cells #[.slice b1 m1 d1, .int .i64 sh2, .int .i64 lk2, .int .i64 bf2, .slice b5 m5 d5] 29) := ⟨_, rfl⟩
  rw [← hW0] at B0 OA OB
  have HW0 := Lib.hid hW0
  have HS0 : Hid (Sn w #[.slice a1 n1 c1, .int .i64 sh, .int .i64 lk, .int .i64 bf, .slice a5 n5 c5] #[.slice b1 m1 d1, .int .i64 sh2, .int .i64 lk2, .int .i64 bf2, .slice b5 m5 d5] W0) := ⟨OA, OB, B0⟩
  have p0 := row_cellsO HS0.out.a 0 _ rfl
  have p1 := row_cellsO HS0.out.a 1 _ rfl
  have p2 := row_cellsO HS0.out.a 2 _ rfl
  have p3 := row_cellsO HS0.out.a 3 _ rfl
  have p4 := row_cellsO HS0.out.a 4 _ rfl
  have r0 := row_cellsO HS0.out.b 0 _ rfl
  have r1 := row_cellsO HS0.out.b 1 _ rfl
  have r2 := row_cellsO HS0.out.b 2 _ rfl
  have r3 := row_cellsO HS0.out.b 3 _ rfl
  have r4 := row_cellsO HS0.out.b 4 _ rfl
  clear h1 h5 k1 k5 fc ec B0 OA OB hW0
  by_cases g1 : sh = sh2
  rotate_left
  · have HNP : Hid (¬ P) := fun h => g1 (HP.out.1 h).2.1
    clear HP HEW1 HEW2 HEF
    have qq : (sh == sh2) = false := by simpa using g1
    go_enter Tryz.func35, Tryz.ntmps35
    go_upto_region 1 with fail
    rw [← HW0.out]
    clear HW0
    go_wp2_with fail
    go_ret
    exact ⟨false, rfl, iff_of_false (by simp) HNP.out, HS0.out.bel⟩
  subst g1
  by_cases g2 : lk = lk2
  rotate_left
  · have HNP : Hid (¬ P) := fun h => g2 (HP.out.1 h).2.2.1
    clear HP HEW1 HEW2 HEF
    have qq : (lk == lk2) = false := by simpa using g2
    go_enter Tryz.func35, Tryz.ntmps35
    go_upto_region 1 with fail
    rw [← HW0.out]
    clear HW0
    go_wp2_with fail
    go_ret
    exact ⟨false, rfl, iff_of_false (by simp) HNP.out, HS0.out.bel⟩
  subst g2
  by_cases g3 : bf = bf2
  rotate_left
  · have HNP : Hid (¬ P) := fun h => g3 (HP.out.1 h).2.2.2.1
    clear HP HEW1 HEW2 HEF
    have qq : (bf == bf2) = false := by simpa using g3
    go_enter Tryz.func35, Tryz.ntmps35
    go_upto_region 1 with fail
    rw [← HW0.out]
    clear HW0
    go_wp2_with fail
    go_ret
    exact ⟨false, rfl, iff_of_false (by simp) HNP.out, HS0.out.bel⟩
  subst g3
  by_cases g4 : mem = mem2
  rotate_left
  · have HNP : Hid (¬ P) := fun h => g4 (HP.out.1 h).1
    have HEW := HEW2 g4
    clear HP HEW1 HEW2 HEF g4
    go_enter Tryz.func35, Tryz.ntmps35
    go_upto_region 1 with fail
    rw [← HW0.out]
    clear HW0
    go_wp2_with (go_at_call 62; refine (HEW.out _ HS0.out.bel).mono ?_; rintro e w2 ⟨rfl, hb⟩; have HS2 := Lib.hid (HS0.out.below hb); clear hb; have p0 := row_cellsO HS2.out.a 0 _ rfl; have p1 := row_cellsO HS2.out.a 1 _ rfl; have p2 := row_cellsO HS2.out.a 2 _ rfl; have p3 := row_cellsO HS2.out.a 3 _ rfl; have p4 := row_cellsO HS2.out.a 4 _ rfl; have r0 := row_cellsO HS2.out.b 0 _ rfl; have r1 := row_cellsO HS2.out.b 1 _ rfl; have r2 := row_cellsO HS2.out.b 2 _ rfl; have r3 := row_cellsO HS2.out.b 3 _ rfl; have r4 := row_cellsO HS2.out.b 4 _ rfl)
    go_ret
    exact ⟨false, rfl, iff_of_false (by simp) HNP.out, HS2.out.bel⟩
  have HEW := HEW1 g4
  have HG := Lib.hid g4
  clear HEW1 HEW2 g4
  go_enter Tryz.func35, Tryz.ntmps35
  go_upto_region 1 with fail
  rw [← HW0.out]
  clear HW0
  go_wp2_with (first | (go_at_call 62; refine (HEW.out _ HS0.out.bel).mono ?_; rintro e w2 ⟨rfl, hb⟩; have HS2 := Lib.hid (HS0.out.below hb); clear hb; have p0 := row_cellsO HS2.out.a 0 _ rfl; have p1 := row_cellsO HS2.out.a 1 _ rfl; have p2 := row_cellsO HS2.out.a 2 _ rfl; have p3 := row_cellsO HS2.out.a 3 _ rfl; have p4 := row_cellsO HS2.out.a 4 _ rfl; have r0 := row_cellsO HS2.out.b 0 _ rfl; have r1 := row_cellsO HS2.out.b 1 _ rfl; have r2 := row_cellsO HS2.out.b 2 _ rfl; have r3 := row_cellsO HS2.out.b 3 _ rfl; have r4 := row_cellsO HS2.out.b 4 _ rfl) | (go_at_call 63; refine (HEF.out _ HS2.out.bel).mono ?_; rintro e w3 ⟨r, rfl, hr, hb⟩; have HR := Lib.hid hr; have HS3 := Lib.hid (HS2.out.below hb); clear hr hb))
  go_ret
  exact ⟨r, rfl, HR.out.trans ⟨fun h => HP.out.2 ⟨HG.out, by simp, by simp, by simp, h⟩, fun h => (HP.out.1 h).2.2.2.2⟩, HS3.out.bel⟩
end Go.Proofs.YtgmcfinjlddgbaaGreatDoor

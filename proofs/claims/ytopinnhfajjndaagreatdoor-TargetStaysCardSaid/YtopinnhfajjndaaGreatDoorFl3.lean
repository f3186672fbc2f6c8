/- The program's Reads. -/
import Derived.Test.YtopinnhfajjndaaGreatDoorFl2
namespace Go.Proofs.YtopinnhfajjndaaGreatDoor
open Go.RowKit
set_option linter.unusedVariables false
set_option maxRecDepth 100000
theorem row_sl {w : World} {B : Nat} {E : TypeId} {k : Nat} {v : Value} {n : Nat} {xs : List Value} (h : w.ownsRow B E k v n xs) : ∃ ao cap, v = .slice ao n cap := by
  rcases h.2 with ⟨hv, h0⟩ | ⟨g, cap, cur, hv, _⟩
  · exact ⟨none, 0, by rw [hv, h0]⟩
  · exact ⟨_, _, hv⟩
theorem info_int : (Tryz.prog.info? 3).map (fun i => (i.zero, i.size, i.bytes)) = some (some (.int .i64 0), 1, 8) := by kernel_rfl
theorem ls_row {w : World} {B : Nat} {a : Option Addr} {c : Nat} {l : List Int} (h : w.ownsRow B 3 1 (.slice a l.length c) l.length (l.map fun x => Value.int .i64 x)) : intsAt w l a := by
  rcases h.2 with ⟨hv, h0⟩ | ⟨g, cap, cur, hv, hb, hg, h1, h2, h3, h4⟩
  · exact .inl (List.length_eq_zero_iff.1 h0)
  · injection hv with e1
    refine .inr ⟨g, 0, e1, fun j x hj => ?_⟩
    have := h.cells (g := g) (by rw [e1]; rfl) j (.int .i64 x) (by simp [hj])
    have hadd : (⟨g, 0, none⟩ : Addr).add j = ⟨g, 0 + j, none⟩ := by unfold Addr.add; split <;> simp_all
    rw [← hadd]
    simpa using this
/-- While the list grows: the box, the list so far. -/
structure RlS (w : World) (row : Array Value) (v : Value) (l : List Int) (W : World) : Prop where
  box : Own W w.heap.size 25 row
  bel : Below w.heap.size w W
  lst : W.ownsRow (w.heap.size + 1) 3 1 v l.length (l.map fun x => Value.int .i64 x)
theorem RlS.below {w W W' : World} {row : Array Value} {v : Value} {l : List Int} (h : RlS w row v l W) (hb : Below W.heap.size W W') : RlS w row v l W' := ⟨h.box.below hb, h.bel.trans (hb.mono h.bel.size), row_below h.lst hb⟩
theorem RlS.more {w W W' : World} {row : Array Value} {v v' : Value} {l : List Int} {x : Int} (h : RlS w row v l W) (o : Obj) (hown : W'.ownsRow (w.heap.size + 1) 3 1 v' (l.length + 1) ((l.map fun x => Value.int .i64 x) ++ [.int .i64 x])) (hg : (W.alloc o).grownBy W' v.ownBlock) : RlS w row v' (l ++ [x]) W' := by
  have hne : v.ownBlock ≠ some w.heap.size := by
    intro e
    have := (h.lst.lt _ e).1
    omega
  have hs := h.box.lt
  refine ⟨(hg.block w.heap.size (by simp; omega) (fun e => hne e.symm)).trans (h.box.alloc _), (h.bel.alloc h.bel.size _).grown hg (by simp; omega) (fun k hk => by have := (h.lst.lt k hk).1; omega), ?_⟩
  simpa using hown
set_option maxHeartbeats 8000000 in
theorem reads_any (i : Ins) (hg : rgI i) (w : World) (T : TgT w) : Calls Tryz.prog 22 #[insV i] w (LsP w (rdL i)) := by
  obtain ⟨i0, hi, hz0, hz1, hz2⟩ := info_parts info_int
  have alw : Below w.heap.size w (w.alloc (.cells (insC i).toArray 25)) := (Below.refl _ w).alloc (Nat.le_refl _) _
  have HU : Hid (Calls Tryz.prog 39 #[insV i] (w.alloc (.cells (insC i).toArray 25)) fun e w' => e = .returned (.int .u64 (uB i.k i.o)) ∧ Below (w.alloc (.cells (insC i).toArray 25)).heap.size (w.alloc (.cells (insC i).toArray 25)) w') := usedBy_any i hg _ (T.below alw)
  have HH : Hid (∀ X u f, Calls Tryz.prog 41 #[.int .u64 u, .int .u64 f] X fun e w' => e = .returned (.bool (hasB u f)) ∧ X = w') := fun X u f => has_any u f X
  have HUF : Hid (kB i.k = true → hasB (uB i.k i.o) 4 = aB i.k ∧ hasB (uB i.k i.o) 8 = bB i.k i.o) := fun h => ⟨(has_all i.k i.o h).2.2.1, (has_all i.k i.o h).2.2.2.1⟩
  have HUZ : Hid (kB i.k = false → hasB (uB i.k i.o) 4 = false ∧ hasB (uB i.k i.o) 8 = false) := fun h => by
    have h1 : uB i.k i.o = 0 := by unfold uB; rw [h]; rfl
    rw [h1]; decide
  obtain ⟨L, hL⟩ : ∃ L, L = rdL i := ⟨_, rfl⟩
  rw [← hL]
  unfold rdL at hL
  obtain ⟨u, hu⟩ : ∃ u, u = uB i.k i.o := ⟨_, rfl⟩
  rw [← hu] at HU HUF HUZ
  clear hu alw hg T
  have al : Below w.heap.size w (w.alloc (.cells (insC i).toArray 25)) := (Below.refl _ w).alloc (Nat.le_refl _) _
  have O0 := Own.new w 25 (insC i).toArray
  obtain ⟨W0, hW0⟩ : ∃ W, W = w.alloc (.cells (insC i).toArray 25) := ⟨_, rfl⟩
  rw [← hW0] at al O0
  have HB0 := Lib.hid al
  have HO0 := Lib.hid O0
  obtain ⟨k, o, d, a, b, ad, tt, wd, fr⟩ := i
  simp only [insV, insC] at O0 hW0 HO0 ⊢
  have HW0 := Lib.hid hW0
  have c0 : W0.cell? ⟨w.heap.size, 0, none⟩ = some (.int .u8 k) := by rw [cell_of_row _ _ 0 _ _ _ O0]; rfl
  have c2 : W0.cell? ⟨w.heap.size, 2, none⟩ = some (.int .i64 d) := by rw [cell_of_row _ _ 2 _ _ _ O0]; rfl
  have c6 : W0.cell? ⟨w.heap.size, 6, none⟩ = some (.int .i64 tt) := by rw [cell_of_row _ _ 6 _ _ _ O0]; rfl
  simp only [insV, insC] at HU HUF HUZ hL
  rw [← HW0.out] at HU
  have HS0 : Hid (RlS w #[.int .u8 k, .int .u8 o, .int .i64 d, .int .i64 a, .int .i64 b, .int .i64 ad, .int .i64 tt, .int .i64 wd, .int .i64 fr] (.slice none 0 0) [] W0) := ⟨O0, al, ⟨rfl, .inl ⟨rfl, rfl⟩⟩⟩
  clear hW0 al c0 c2 c6
  by_cases h2 : k = 2
  · subst h2
    obtain ⟨u4, u8⟩ := HUF.out rfl
    rw [if_pos rfl] at hL
    rw [show aB 2 = true from rfl] at u4
    cases ht : twoB o with
    | true =>
      rw [show bB 2 o = true by unfold bB; rw [ht]; rfl] at u8
      rw [ht] at hL
      simp only [cond_true] at hL
      subst hL
      clear HUF HUZ ht
      go_enter Tryz.func22, Tryz.ntmps22
      go_upto_region 1 with (fail)
      rw [← HW0.out]
      clear HW0
      go_wp2_with (first | (refine ld rowI rfl rfl rfl O0 rfl ?_) | (go_at_call 39; refine HU.out.mono ?_; rintro e w1 ⟨rfl, hb1⟩; have HS1 := Lib.hid (HS0.out.below hb1); have d0 : w1.cell? ⟨w.heap.size, 0, none⟩ = some (.int .u8 2) := (by rw [cell_of_row _ _ 0 _ _ _ HS1.out.box]; rfl); have d2 : w1.cell? ⟨w.heap.size, 2, none⟩ = some (.int .i64 d) := (by rw [cell_of_row _ _ 2 _ _ _ HS1.out.box]; rfl); have d3 : w1.cell? ⟨w.heap.size, 3, none⟩ = some (.int .i64 a) := (by rw [cell_of_row _ _ 3 _ _ _ HS1.out.box]; rfl)) | (go_at_call 41; refine (HH.out _ _ _).mono ?_; rintro e w' ⟨rfl, rfl⟩) | (at_builtin; refine wpList_append_own _ rfl _ _ 41 rfl (w.heap.size + 1) 3 i0 _ 1 8 Tryz.underlying41 hi hz0 hz1 hz2 rfl (by decide) (.slice none 0 0) 0 _ rfl (HS1.out.lst.alloc _) ⟨w1.heap.size, 0, none⟩ 1 1 [.int .i64 a] rfl rfl ?c1 ?c2 ?c3 ?c4 ?c5 ?_))
      try (case c1 => first | exact World.news_of_block (Own.new w1 3 #[.int .i64 a]) | (intro j y hj; match j, hj with | 0, hj => (simp at hj; subst hj; simp [Addr.add])))
      try (case c2 => first | rfl | simp [Value.oneCell'])
      try (case c3 => first | (simp only [maxLen]; omega) | (unfold maxLen; omega) | omega)
      try (case c4 => omega)
      try (case c5 => have hbx := HS1.out.box.lt; first | omega | (simp; omega))
      intro v0 Z0 hown hgrow _
      have hm := HS1.out.more (x := a) _ hown hgrow
      clear hown hgrow
      obtain ⟨ao0, cap0, rfl⟩ := row_sl hm.lst
      have HS2 := Lib.hid hm
      have g0 : Z0.cell? ⟨w.heap.size, 0, none⟩ = some (.int .u8 2) := by rw [cell_of_row _ _ 0 _ _ _ hm.box]; rfl
      have e0 : Z0.cell? ⟨w.heap.size, 4, none⟩ = some (.int .i64 b) := by rw [cell_of_row _ _ 4 _ _ _ hm.box]; rfl
      clear hm
      go_wp2_with (first | (go_at_call 41; refine (HH.out _ _ _).mono ?_; rintro e w' ⟨rfl, rfl⟩) | (at_builtin; refine wpList_append_own _ rfl _ _ 41 rfl (w.heap.size + 1) 3 i0 _ 1 8 Tryz.underlying41 hi hz0 hz1 hz2 rfl (by decide) (.slice ao0 1 cap0) 1 _ rfl (HS2.out.lst.alloc _) ⟨Z0.heap.size, 0, none⟩ 1 1 [.int .i64 b] rfl rfl ?c1 ?c2 ?c3 ?c4 ?c5 ?_))
      try (case c1 => first | exact World.news_of_block (Own.new Z0 3 #[.int .i64 b]) | (intro j y hj; match j, hj with | 0, hj => (simp at hj; subst hj; simp [Addr.add])))
      try (case c2 => first | rfl | simp [Value.oneCell'])
      try (case c3 => first | (simp only [maxLen]; omega) | (unfold maxLen; omega) | omega)
      try (case c4 => omega)
      try (case c5 => have hbx := HS2.out.box.lt; first | omega | (simp; omega))
      intro v1 Z1 hown hgrow _
      have hm := HS2.out.more (x := b) _ hown hgrow
      clear hown hgrow
      obtain ⟨ao1, cap1, rfl⟩ := row_sl hm.lst
      have HS3 := Lib.hid hm
      have g1 : Z1.cell? ⟨w.heap.size, 0, none⟩ = some (.int .u8 2) := by rw [cell_of_row _ _ 0 _ _ _ hm.box]; rfl
      have e1 : Z1.cell? ⟨w.heap.size, 4, none⟩ = some (.int .i64 b) := by rw [cell_of_row _ _ 4 _ _ _ hm.box]; rfl
      clear hm
      go_wp2_with (first | (go_at_call 41; refine (HH.out _ _ _).mono ?_; rintro e w' ⟨rfl, rfl⟩))
      go_ret
      exact ⟨_, _, rfl, HS3.out.bel, ls_row HS3.out.lst⟩
    | false =>
      rw [show bB 2 o = false by unfold bB; rw [ht]; rfl] at u8
      rw [ht] at hL
      simp only [cond_false] at hL
      subst hL
      clear HUF HUZ ht
      go_enter Tryz.func22, Tryz.ntmps22
      go_upto_region 1 with (fail)
      rw [← HW0.out]
      clear HW0
      go_wp2_with (first | (refine ld rowI rfl rfl rfl O0 rfl ?_) | (go_at_call 39; refine HU.out.mono ?_; rintro e w1 ⟨rfl, hb1⟩; have HS1 := Lib.hid (HS0.out.below hb1); have d0 : w1.cell? ⟨w.heap.size, 0, none⟩ = some (.int .u8 2) := (by rw [cell_of_row _ _ 0 _ _ _ HS1.out.box]; rfl); have d2 : w1.cell? ⟨w.heap.size, 2, none⟩ = some (.int .i64 d) := (by rw [cell_of_row _ _ 2 _ _ _ HS1.out.box]; rfl); have d3 : w1.cell? ⟨w.heap.size, 3, none⟩ = some (.int .i64 a) := (by rw [cell_of_row _ _ 3 _ _ _ HS1.out.box]; rfl)) | (go_at_call 41; refine (HH.out _ _ _).mono ?_; rintro e w' ⟨rfl, rfl⟩) | (at_builtin; refine wpList_append_own _ rfl _ _ 41 rfl (w.heap.size + 1) 3 i0 _ 1 8 Tryz.underlying41 hi hz0 hz1 hz2 rfl (by decide) (.slice none 0 0) 0 _ rfl (HS1.out.lst.alloc _) ⟨w1.heap.size, 0, none⟩ 1 1 [.int .i64 a] rfl rfl ?c1 ?c2 ?c3 ?c4 ?c5 ?_))
      try (case c1 => first | exact World.news_of_block (Own.new w1 3 #[.int .i64 a]) | (intro j y hj; match j, hj with | 0, hj => (simp at hj; subst hj; simp [Addr.add])))
      try (case c2 => first | rfl | simp [Value.oneCell'])
      try (case c3 => first | (simp only [maxLen]; omega) | (unfold maxLen; omega) | omega)
      try (case c4 => omega)
      try (case c5 => have hbx := HS1.out.box.lt; first | omega | (simp; omega))
      intro v0 Z0 hown hgrow _
      have hm := HS1.out.more (x := a) _ hown hgrow
      clear hown hgrow
      obtain ⟨ao0, cap0, rfl⟩ := row_sl hm.lst
      have HS2 := Lib.hid hm
      have g0 : Z0.cell? ⟨w.heap.size, 0, none⟩ = some (.int .u8 2) := by rw [cell_of_row _ _ 0 _ _ _ hm.box]; rfl
      have e0 : Z0.cell? ⟨w.heap.size, 4, none⟩ = some (.int .i64 b) := by rw [cell_of_row _ _ 4 _ _ _ hm.box]; rfl
      clear hm
      go_wp2_with (first | (go_at_call 41; refine (HH.out _ _ _).mono ?_; rintro e w' ⟨rfl, rfl⟩))
      go_ret
      exact ⟨_, _, rfl, HS2.out.bel, ls_row HS2.out.lst⟩
  rw [if_neg h2] at hL
  by_cases h4 : k = 4
  · subst h4
    obtain ⟨u4, u8⟩ := HUF.out rfl
    rw [show aB 4 = true from rfl] at u4
    rw [show bB 4 o = false from rfl] at u8
    rw [if_pos (by decide)] at hL
    subst hL
    clear HUF HUZ
    go_enter Tryz.func22, Tryz.ntmps22
    go_upto_region 1 with (fail)
    rw [← HW0.out]
    clear HW0
    go_wp2_with (first | (refine ld rowI rfl rfl rfl O0 rfl ?_) | (go_at_call 39; refine HU.out.mono ?_; rintro e w1 ⟨rfl, hb1⟩; have HS1 := Lib.hid (HS0.out.below hb1); have d0 : w1.cell? ⟨w.heap.size, 0, none⟩ = some (.int .u8 4) := (by rw [cell_of_row _ _ 0 _ _ _ HS1.out.box]; rfl); have d2 : w1.cell? ⟨w.heap.size, 2, none⟩ = some (.int .i64 d) := (by rw [cell_of_row _ _ 2 _ _ _ HS1.out.box]; rfl); have d3 : w1.cell? ⟨w.heap.size, 3, none⟩ = some (.int .i64 a) := (by rw [cell_of_row _ _ 3 _ _ _ HS1.out.box]; rfl)) | (go_at_call 41; refine (HH.out _ _ _).mono ?_; rintro e w' ⟨rfl, rfl⟩) | (at_builtin; refine wpList_append_own _ rfl _ _ 41 rfl (w.heap.size + 1) 3 i0 _ 1 8 Tryz.underlying41 hi hz0 hz1 hz2 rfl (by decide) (.slice none 0 0) 0 _ rfl (HS1.out.lst.alloc _) ⟨w1.heap.size, 0, none⟩ 1 1 [.int .i64 a] rfl rfl ?c1 ?c2 ?c3 ?c4 ?c5 ?_))
    try (case c1 => first | exact World.news_of_block (Own.new w1 3 #[.int .i64 a]) | (intro j y hj; match j, hj with | 0, hj => (simp at hj; subst hj; simp [Addr.add])))
    try (case c2 => first | rfl | simp [Value.oneCell'])
    try (case c3 => first | (simp only [maxLen]; omega) | (unfold maxLen; omega) | omega)
    try (case c4 => omega)
    try (case c5 => have hbx := HS1.out.box.lt; first | omega | (simp; omega))
    intro v0 Z0 hown hgrow _
    have hm := HS1.out.more (x := a) _ hown hgrow
    clear hown hgrow
    obtain ⟨ao0, cap0, rfl⟩ := row_sl hm.lst
    have HS2 := Lib.hid hm
    have g0 : Z0.cell? ⟨w.heap.size, 0, none⟩ = some (.int .u8 4) := by rw [cell_of_row _ _ 0 _ _ _ hm.box]; rfl
    have e0 : Z0.cell? ⟨w.heap.size, 4, none⟩ = some (.int .i64 b) := by rw [cell_of_row _ _ 4 _ _ _ hm.box]; rfl
    clear hm
    go_wp2_with (first | (go_at_call 41; refine (HH.out _ _ _).mono ?_; rintro e w' ⟨rfl, rfl⟩))
    go_ret
    exact ⟨_, _, rfl, HS2.out.bel, ls_row HS2.out.lst⟩
  by_cases h7 : k = 7
  · subst h7
    obtain ⟨u4, u8⟩ := HUF.out rfl
    rw [show aB 7 = true from rfl] at u4
    rw [show bB 7 o = false from rfl] at u8
    rw [if_pos (by decide)] at hL
    subst hL
    clear HUF HUZ
    go_enter Tryz.func22, Tryz.ntmps22
    go_upto_region 1 with (fail)
    rw [← HW0.out]
    clear HW0
    go_wp2_with (first | (refine ld rowI rfl rfl rfl O0 rfl ?_) | (go_at_call 39; refine HU.out.mono ?_; rintro e w1 ⟨rfl, hb1⟩; have HS1 := Lib.hid (HS0.out.below hb1); have d0 : w1.cell? ⟨w.heap.size, 0, none⟩ = some (.int .u8 7) := (by rw [cell_of_row _ _ 0 _ _ _ HS1.out.box]; rfl); have d2 : w1.cell? ⟨w.heap.size, 2, none⟩ = some (.int .i64 d) := (by rw [cell_of_row _ _ 2 _ _ _ HS1.out.box]; rfl); have d3 : w1.cell? ⟨w.heap.size, 3, none⟩ = some (.int .i64 a) := (by rw [cell_of_row _ _ 3 _ _ _ HS1.out.box]; rfl)) | (go_at_call 41; refine (HH.out _ _ _).mono ?_; rintro e w' ⟨rfl, rfl⟩) | (at_builtin; refine wpList_append_own _ rfl _ _ 41 rfl (w.heap.size + 1) 3 i0 _ 1 8 Tryz.underlying41 hi hz0 hz1 hz2 rfl (by decide) (.slice none 0 0) 0 _ rfl (HS1.out.lst.alloc _) ⟨w1.heap.size, 0, none⟩ 1 1 [.int .i64 a] rfl rfl ?c1 ?c2 ?c3 ?c4 ?c5 ?_))
    try (case c1 => first | exact World.news_of_block (Own.new w1 3 #[.int .i64 a]) | (intro j y hj; match j, hj with | 0, hj => (simp at hj; subst hj; simp [Addr.add])))
    try (case c2 => first | rfl | simp [Value.oneCell'])
    try (case c3 => first | (simp only [maxLen]; omega) | (unfold maxLen; omega) | omega)
    try (case c4 => omega)
    try (case c5 => have hbx := HS1.out.box.lt; first | omega | (simp; omega))
    intro v0 Z0 hown hgrow _
    have hm := HS1.out.more (x := a) _ hown hgrow
    clear hown hgrow
    obtain ⟨ao0, cap0, rfl⟩ := row_sl hm.lst
    have HS2 := Lib.hid hm
    have g0 : Z0.cell? ⟨w.heap.size, 0, none⟩ = some (.int .u8 7) := by rw [cell_of_row _ _ 0 _ _ _ hm.box]; rfl
    have e0 : Z0.cell? ⟨w.heap.size, 4, none⟩ = some (.int .i64 b) := by rw [cell_of_row _ _ 4 _ _ _ hm.box]; rfl
    clear hm
    go_wp2_with (first | (go_at_call 41; refine (HH.out _ _ _).mono ?_; rintro e w' ⟨rfl, rfl⟩))
    go_ret
    exact ⟨_, _, rfl, HS2.out.bel, ls_row HS2.out.lst⟩
  by_cases h9 : k = 9
  · subst h9
    obtain ⟨u4, u8⟩ := HUF.out rfl
    rw [show aB 9 = true from rfl] at u4
    rw [show bB 9 o = false from rfl] at u8
    rw [if_pos (by decide)] at hL
    subst hL
    clear HUF HUZ
    go_enter Tryz.func22, Tryz.ntmps22
    go_upto_region 1 with (fail)
    rw [← HW0.out]
    clear HW0
    go_wp2_with (first | (refine ld rowI rfl rfl rfl O0 rfl ?_) | (go_at_call 39; refine HU.out.mono ?_; rintro e w1 ⟨rfl, hb1⟩; have HS1 := Lib.hid (HS0.out.below hb1); have d0 : w1.cell? ⟨w.heap.size, 0, none⟩ = some (.int .u8 9) := (by rw [cell_of_row _ _ 0 _ _ _ HS1.out.box]; rfl); have d2 : w1.cell? ⟨w.heap.size, 2, none⟩ = some (.int .i64 d) := (by rw [cell_of_row _ _ 2 _ _ _ HS1.out.box]; rfl); have d3 : w1.cell? ⟨w.heap.size, 3, none⟩ = some (.int .i64 a) := (by rw [cell_of_row _ _ 3 _ _ _ HS1.out.box]; rfl)) | (go_at_call 41; refine (HH.out _ _ _).mono ?_; rintro e w' ⟨rfl, rfl⟩) | (at_builtin; refine wpList_append_own _ rfl _ _ 41 rfl (w.heap.size + 1) 3 i0 _ 1 8 Tryz.underlying41 hi hz0 hz1 hz2 rfl (by decide) (.slice none 0 0) 0 _ rfl (HS1.out.lst.alloc _) ⟨w1.heap.size, 0, none⟩ 1 1 [.int .i64 a] rfl rfl ?c1 ?c2 ?c3 ?c4 ?c5 ?_))
    try (case c1 => first | exact World.news_of_block (Own.new w1 3 #[.int .i64 a]) | (intro j y hj; match j, hj with | 0, hj => (simp at hj; subst hj; simp [Addr.add])))
    try (case c2 => first | rfl | simp [Value.oneCell'])
    try (case c3 => first | (simp only [maxLen]; omega) | (unfold maxLen; omega) | omega)
    try (case c4 => omega)
    try (case c5 => have hbx := HS1.out.box.lt; first | omega | (simp; omega))
    intro v0 Z0 hown hgrow _
    have hm := HS1.out.more (x := a) _ hown hgrow
    clear hown hgrow
    obtain ⟨ao0, cap0, rfl⟩ := row_sl hm.lst
    have HS2 := Lib.hid hm
    have g0 : Z0.cell? ⟨w.heap.size, 0, none⟩ = some (.int .u8 9) := by rw [cell_of_row _ _ 0 _ _ _ hm.box]; rfl
    have e0 : Z0.cell? ⟨w.heap.size, 4, none⟩ = some (.int .i64 b) := by rw [cell_of_row _ _ 4 _ _ _ hm.box]; rfl
    clear hm
    go_wp2_with (first | (go_at_call 41; refine (HH.out _ _ _).mono ?_; rintro e w' ⟨rfl, rfl⟩))
    go_ret
    exact ⟨_, _, rfl, HS2.out.bel, ls_row HS2.out.lst⟩
  rw [if_neg (by omega)] at hL
  have ua : hasB u 4 = false ∧ hasB u 8 = false := by
    cases hkb : kB k with
    | false => exact HUZ.out hkb
    | true =>
      obtain ⟨u4, u8⟩ := HUF.out hkb
      rw [u4, u8]
      unfold aB bB
      rw [int_f h2, int_f h4, int_f h7, int_f h9]
      exact ⟨rfl, rfl⟩
  obtain ⟨u4, u8⟩ := ua
  clear HUF HUZ
  by_cases h5 : k = 5
  · subst h5
    rw [if_pos rfl] at hL
    subst hL
    clear h2 h4 h7 h9
    go_enter Tryz.func22, Tryz.ntmps22
    go_upto_region 1 with (fail)
    rw [← HW0.out]
    clear HW0
    go_wp2_with (first | (refine ld rowI rfl rfl rfl O0 rfl ?_) | (go_at_call 39; refine HU.out.mono ?_; rintro e w1 ⟨rfl, hb1⟩; have HS1 := Lib.hid (HS0.out.below hb1); have d0 : w1.cell? ⟨w.heap.size, 0, none⟩ = some (.int .u8 5) := (by rw [cell_of_row _ _ 0 _ _ _ HS1.out.box]; rfl); have d2 : w1.cell? ⟨w.heap.size, 2, none⟩ = some (.int .i64 d) := (by rw [cell_of_row _ _ 2 _ _ _ HS1.out.box]; rfl); have d3 : w1.cell? ⟨w.heap.size, 3, none⟩ = some (.int .i64 a) := (by rw [cell_of_row _ _ 3 _ _ _ HS1.out.box]; rfl)) | (go_at_call 41; refine (HH.out _ _ _).mono ?_; rintro e w' ⟨rfl, rfl⟩) | (at_builtin; refine wpList_append_own _ rfl _ _ 41 rfl (w.heap.size + 1) 3 i0 _ 1 8 Tryz.underlying41 hi hz0 hz1 hz2 rfl (by decide) (.slice none 0 0) 0 _ rfl (HS1.out.lst.alloc _) ⟨w1.heap.size, 0, none⟩ 1 1 [.int .i64 d] rfl rfl ?c1 ?c2 ?c3 ?c4 ?c5 ?_))
    try (case c1 => first | exact World.news_of_block (Own.new w1 3 #[.int .i64 d]) | (intro j y hj; match j, hj with | 0, hj => (simp at hj; subst hj; simp [Addr.add])))
    try (case c2 => first | rfl | simp [Value.oneCell'])
    try (case c3 => first | (simp only [maxLen]; omega) | (unfold maxLen; omega) | omega)
    try (case c4 => omega)
    try (case c5 => have hbx := HS1.out.box.lt; first | omega | (simp; omega))
    intro v0 Z0 hown hgrow _
    have hm := HS1.out.more (x := d) _ hown hgrow
    clear hown hgrow
    obtain ⟨ao0, cap0, rfl⟩ := row_sl hm.lst
    have HS2 := Lib.hid hm
    have g0 : Z0.cell? ⟨w.heap.size, 0, none⟩ = some (.int .u8 5) := by rw [cell_of_row _ _ 0 _ _ _ hm.box]; rfl
    have e0 : Z0.cell? ⟨w.heap.size, 4, none⟩ = some (.int .i64 b) := by rw [cell_of_row _ _ 4 _ _ _ hm.box]; rfl
    clear hm
    go_wp2_with (first | (go_at_call 41; refine (HH.out _ _ _).mono ?_; rintro e w' ⟨rfl, rfl⟩))
    go_ret
    exact ⟨_, _, rfl, HS2.out.bel, ls_row HS2.out.lst⟩
  rw [if_neg h5] at hL
  subst hL
  have q5 := int_f h5
  clear h2 h4 h5 h7 h9
  go_enter Tryz.func22, Tryz.ntmps22
  go_upto_region 1 with (fail)
  rw [← HW0.out]
  clear HW0
  go_wp2_with (first | (refine ld rowI rfl rfl rfl O0 rfl ?_) | (go_at_call 39; refine HU.out.mono ?_; rintro e w1 ⟨rfl, hb1⟩; have HS1 := Lib.hid (HS0.out.below hb1); have d0 : w1.cell? ⟨w.heap.size, 0, none⟩ = some (.int .u8 k) := (by rw [cell_of_row _ _ 0 _ _ _ HS1.out.box]; rfl); have d2 : w1.cell? ⟨w.heap.size, 2, none⟩ = some (.int .i64 d) := (by rw [cell_of_row _ _ 2 _ _ _ HS1.out.box]; rfl); have d3 : w1.cell? ⟨w.heap.size, 3, none⟩ = some (.int .i64 a) := (by rw [cell_of_row _ _ 3 _ _ _ HS1.out.box]; rfl)) | (go_at_call 41; refine (HH.out _ _ _).mono ?_; rintro e w' ⟨rfl, rfl⟩))
  go_ret
  exact ⟨none, 0, rfl, HS1.out.bel, .inl rfl⟩
end Go.Proofs.YtopinnhfajjndaaGreatDoor

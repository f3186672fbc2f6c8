/- Numbers read into a cell. -/
import Derived.Test.YtgmcfinjlddgbaaGreatDoorTr1
namespace Go.Proofs.YtgmcfinjlddgbaaGreatDoor
open Go.RowKit
set_option linter.unusedVariables false
set_option maxRecDepth 100000
theorem own_set_other {W : World} {b : Nat} {T : TypeId} {cs : Array Value} (h : Own W b T cs) {g o : Nat} (hg : g ≠ b) (v : Value) : Own (W.setCell ⟨g, o, none⟩ v) b T cs := (Below.heap_setCell W ⟨g, o, none⟩ v b (fun e => hg e.symm)).trans h
structure P2 (w : World) (B p : Nat) (s : Pst) (g : Nat) (ty : TypeId) (row : Array Value) (W : World) : Prop where
  own : Own W p 171 s.row
  dst : Own W g ty row
  keep : Keep (fun k _ => k ≠ p ∧ k ≠ g) w W
  bel : Below B w W
section
variable {w W W' : World} {B p g : Nat} {s s' : Pst} {ty : TypeId} {row row' : Array Value}
theorem P2.trans {w0 : World} (h : P2 w0 B p s g ty row w) (k : P2 w B p s' g ty row' W) : P2 w0 B p s' g ty row' W := ⟨k.own, k.dst, h.keep.trans k.keep, h.bel.trans k.bel⟩
theorem P2.below (h : P2 w B p s g ty row W) (hb : Below W.heap.size W W') (hB : B ≤ p) : P2 w B p s g ty row W' := ⟨h.own.below hb, h.dst.below hb, h.keep.trans (keep_below hb), h.bel.trans (hb.mono (by have := h.own.lt; omega))⟩
theorem p2_new (h : Own w p 171 s.row) (ho : Own w g ty row) : P2 w B p s g ty row w := ⟨h, ho, Keep.refl _ _, Below.refl _ _⟩
theorem Pq.p2 (h : Pq w p s W) (ho : Own w g ty row) (hg : g ≠ p) (hB : B ≤ p) : P2 w B p s g ty row W := ⟨h.own, h.other ho hg, h.keep.mono fun k o q => q.1, h.bel.mono hB⟩
theorem P2.store (h : P2 w B p s g ty row W) (hg : g ≠ p) (hB : B ≤ g) (o : Nat) (v : Value) : P2 w B p s g ty (row.setIfInBounds o v) (W.setCell ⟨g, o, none⟩ v) :=
  ⟨own_set_other h.own hg v, heap_setCell_same W g o _ _ v h.dst, h.keep.setCell (p := ⟨g, o, none⟩) v h.dst (fun q => q.2 rfl), h.bel.setCell (p := ⟨g, o, none⟩) hB v⟩
theorem P2.other (h : P2 w B p s g ty row W) {k : Nat} {tz : TypeId} {rz : Array Value} (ho : Own w k tz rz) (h1 : k ≠ p) (h2 : k ≠ g) : Own W k tz rz := h.keep.block _ _ ho ⟨h1, h2⟩
theorem P2.setBad (h : P2 w B p s g ty row W) (hg : g ≠ p) (hB : B ≤ p) : P2 w B p { s with bad := true } g ty row (W.setCell ⟨p, 2, none⟩ (.bool true)) :=
  ⟨heap_setCell_same W p 2 _ _ _ h.own, own_set_other h.dst (fun e => hg e.symm) _, h.keep.setCell (p := ⟨p, 2, none⟩) _ h.own (fun q => q.1 rfl), h.bel.setCell (p := ⟨p, 2, none⟩) hB _⟩
end
set_option maxHeartbeats 2000000 in
theorem p_number {w : World} {B p : Nat} {s : Pst} (h : Own w p 171 s.row) (hs : s.rest.size ≤ 4611686018427387904) {g o : Nat} {ty : TypeId} {row : Array Value} {u : Value} (ho : Own w g ty row) (hg : g ≠ p) (hu : row[o]? = some u) (hB : B ≤ p) (hB2 : B ≤ g) :
    Calls Tryz.prog 127 #[.pointer (some ⟨p, 0, none⟩), .pointer (some ⟨g, o, none⟩)] w fun e w' => e = .returned (.tuple #[]) ∧ P2 w B p (numS' s).2 g ty (row.setIfInBounds o (.int .i64 (numS' s).1)) w' := by
  have HA : Hid (Calls Tryz.prog 117 #[.pointer (some ⟨p, 0, none⟩)] w fun e w' => e = .returned (.string (nextS s).1) ∧ Pq w p (nextS s).2 w') := p_next h hs
  have HZ : Hid (∀ X, Pq w p (nextS s).2 X → Calls Tryz.prog 146 #[.pointer (some ⟨p, 0, none⟩), .string (nextS s).1] X fun e w' => e = .returned (.int .i64 (numS' s).1) ∧ Pq w p (numS' s).2 w') := fun X hX => (p_size _ (by have := (next_size s).1; omega) hX.own).mono fun _ _ ⟨h1, h2⟩ => ⟨h1, hX.trans h2⟩
  have HG : Hid (∀ X t, Pq w p t X → P2 w B p t g ty row X ∧ X.cell? ⟨g, o, none⟩ = some u ∧ X.frozen? ⟨g, o, none⟩ = false) := fun X t hX => ⟨hX.p2 ho hg hB, by rw [cell_of_row _ _ o _ _ _ (hX.other ho hg)]; exact hu, own_frozen (hX.other ho hg) o⟩
  have HH := Lib.hid (And.intro hg hB2)
  generalize nextS s = n at HA HZ
  generalize numS' s = r at HZ ⊢
  obtain ⟨t, s1⟩ := n
  obtain ⟨v, s2⟩ := r
  simp only at HA HZ ⊢
  clear h hs ho hg hu hB hB2
  go_enter Tryz.func127, Tryz.ntmps127
  go_wp2_with (first | (go_at_call 117; refine HA.out.mono ?_; rintro e w2 ⟨rfl, hq⟩; have HQ := Lib.hid hq; clear hq) | (go_at_call 146; refine (HZ.out _ HQ.out).mono ?_; rintro e w3 ⟨rfl, hq⟩; have HQ3 := Lib.hid hq; obtain ⟨_, d0, d1⟩ := HG.out _ _ hq; clear hq))
  exact bodyPost_end (results_none rfl _ _ _) rfl ⟨rfl, (HG.out _ _ HQ3.out).1.store HH.out.1 HH.out.2 o _⟩
set_option maxHeartbeats 2000000 in
theorem p_word {w : World} {B p : Nat} {s : Pst} (h : Own w p 171 s.row) (hs : s.rest.size ≤ 4611686018427387904) {g o : Nat} {ty : TypeId} {row : Array Value} {u : Value} (ho : Own w g ty row) (hg : g ≠ p) (hu : row[o]? = some u) (hB : B ≤ p) (hB2 : B ≤ g) :
    Calls Tryz.prog 130 #[.pointer (some ⟨p, 0, none⟩), .pointer (some ⟨g, o, none⟩)] w fun e w' => e = .returned (.tuple #[]) ∧ P2 w B p (wdS s).2 g ty (row.setIfInBounds o (.int .i64 (wdS s).1)) w' := by
  have HA : Hid (Calls Tryz.prog 117 #[.pointer (some ⟨p, 0, none⟩)] w fun e w' => e = .returned (.string (nextS s).1) ∧ Pq w p (nextS s).2 w') := p_next h hs
  have HZ : Hid (∀ X, Pq w p (nextS s).2 X → Calls Tryz.prog 147 #[.pointer (some ⟨p, 0, none⟩), .string (nextS s).1] X fun e w' => e = .returned (.int .i64 (wdS s).1) ∧ Pq w p (wdS s).2 w') := fun X hX => (p_value _ (by have := (next_size s).1; omega) hX.own).mono fun _ _ ⟨h1, h2⟩ => ⟨h1, hX.trans h2⟩
  have HG : Hid (∀ X t, Pq w p t X → P2 w B p t g ty row X ∧ X.cell? ⟨g, o, none⟩ = some u ∧ X.frozen? ⟨g, o, none⟩ = false) := fun X t hX => ⟨hX.p2 ho hg hB, by rw [cell_of_row _ _ o _ _ _ (hX.other ho hg)]; exact hu, own_frozen (hX.other ho hg) o⟩
  have HH := Lib.hid (And.intro hg hB2)
  generalize nextS s = n at HA HZ
  generalize wdS s = r at HZ ⊢
  obtain ⟨t, s1⟩ := n
  obtain ⟨v, s2⟩ := r
  simp only at HA HZ ⊢
  clear h hs ho hg hu hB hB2
  go_enter Tryz.func130, Tryz.ntmps130
  go_wp2_with (first | (go_at_call 117; refine HA.out.mono ?_; rintro e w2 ⟨rfl, hq⟩; have HQ := Lib.hid hq; clear hq) | (go_at_call 147; refine (HZ.out _ HQ.out).mono ?_; rintro e w3 ⟨rfl, hq⟩; have HQ3 := Lib.hid hq; obtain ⟨_, d0, d1⟩ := HG.out _ _ hq; clear hq))
  exact bodyPost_end (results_none rfl _ _ _) rfl ⟨rfl, (HG.out _ _ HQ3.out).1.store HH.out.1 HH.out.2 o _⟩
def regC (c : UInt8) (s : Pst) : Int × Pst := sizS (behS c s).1 (behS c s).2
set_option maxHeartbeats 2000000 in
theorem p_behind (c : UInt8) {w : World} {B p : Nat} {s : Pst} (h : Own w p 171 s.row) (hs : s.rest.size ≤ 4611686018427387904) {g o : Nat} {ty : TypeId} {row : Array Value} {u : Value} (ho : Own w g ty row) (hg : g ≠ p) (hu : row[o]? = some u) (hB : B ≤ p) (hB2 : B ≤ g) :
    Calls Tryz.prog 149 #[.pointer (some ⟨p, 0, none⟩), .string ⟨#[c]⟩, .pointer (some ⟨g, o, none⟩)] w fun e w' => e = .returned (.tuple #[]) ∧ P2 w B p (regC c s).2 g ty (row.setIfInBounds o (.int .i64 (regC c s).1)) w' := by
  have HN : Hid (Calls Tryz.prog 117 #[.pointer (some ⟨p, 0, none⟩)] w fun e w' => e = .returned (.string (nextS s).1) ∧ Pq w p (nextS s).2 w') := p_next h hs
  have HC : Hid (∀ X, Calls Tryz.prog 159 #[.string (nextS s).1, .string ⟨#[c]⟩] X fun e w' => e = .returned (.tuple #[.string (preA (nextS s).1 c).1, .bool (preA (nextS s).1 c).2]) ∧ Below X.heap.size X w') := fun X => pre_any _ c (by have := (next_size s).1; omega) X
  have HZ : Hid (∀ X, Pq w p (behS c s).2 X → Calls Tryz.prog 146 #[.pointer (some ⟨p, 0, none⟩), .string (behS c s).1] X fun e w' => e = .returned (.int .i64 (regC c s).1) ∧ Pq w p (regC c s).2 w') := fun X hX => (p_size _ (by have := (beh_size c s).1; omega) hX.own).mono fun _ _ ⟨h1, h2⟩ => ⟨h1, hX.trans h2⟩
  have HG : Hid (∀ X t, Pq w p t X → P2 w B p t g ty row X ∧ X.cell? ⟨g, o, none⟩ = some u ∧ X.frozen? ⟨g, o, none⟩ = false) := fun X t hX => ⟨hX.p2 ho hg hB, by rw [cell_of_row _ _ o _ _ _ (hX.other ho hg)]; exact hu, own_frozen (hX.other ho hg) o⟩
  have HH := Lib.hid (And.intro hg hB2)
  generalize regC c s = z at HZ ⊢
  unfold behS at HZ
  generalize nextS s = n at HN HC HZ
  obtain ⟨t, s1⟩ := n
  obtain ⟨v, s2⟩ := z
  simp only at HN HC HZ ⊢
  generalize preA t c = r at HC HZ
  obtain ⟨r1, r2⟩ := r
  replace HC : Hid (∀ X, Calls Tryz.prog 159 #[.string t, .string ⟨#[c]⟩] X fun e w' => e = .returned (.tuple #[.string r1, .bool r2]) ∧ Below X.heap.size X w') := HC.out
  clear h hs ho hg hu hB hB2
  cases r2 with
  | true =>
    simp only [if_true] at HZ
    go_enter Tryz.func149, Tryz.ntmps149
    go_wp2_with (first | (go_at_call 117; refine HN.out.mono ?_; rintro e w2 ⟨rfl, hq⟩; have HQ := Lib.hid hq; clear hq) | (go_at_call 159; refine (HC.out _).mono ?_; rintro e w3 ⟨rfl, hb⟩; have HQ3 := Lib.hid (HQ.out.below hb); clear hb) | (go_at_call 146; refine (HZ.out _ HQ3.out).mono ?_; rintro e w4 ⟨rfl, hq⟩; have HQ4 := Lib.hid hq; obtain ⟨_, d0, d1⟩ := HG.out _ _ hq; clear hq))
    exact bodyPost_end (results_none rfl _ _ _) rfl ⟨rfl, (HG.out _ _ HQ4.out).1.store HH.out.1 HH.out.2 o _⟩
  | false =>
    simp only [Bool.false_eq_true, if_false] at HZ
    go_enter Tryz.func149, Tryz.ntmps149
    go_wp2_with (first | (go_at_call 117; refine HN.out.mono ?_; rintro e w2 ⟨rfl, hq⟩; have HQ := Lib.hid hq; clear hq) | (go_at_call 159; refine (HC.out _).mono ?_; rintro e w3 ⟨rfl, hb⟩; have HQ3 := Lib.hid (HQ.out.below hb); clear hb; obtain ⟨d0, d1, d2, dz⟩ := HQ3.out.cells; have g2 := dz 2) | (go_at_call 146; refine (HZ.out _ HQ3.out.setBad).mono ?_; rintro e w4 ⟨rfl, hq⟩; have HQ4 := Lib.hid hq; obtain ⟨_, e0, e1⟩ := HG.out _ _ hq; clear hq))
    exact bodyPost_end (results_none rfl _ _ _) rfl ⟨rfl, (HG.out _ _ HQ4.out).1.store HH.out.1 HH.out.2 o _⟩
theorem p_done {w : World} {p : Nat} {s : Pst} (h : Own w p 171 s.row) : Calls Tryz.prog 128 #[.pointer (some ⟨p, 0, none⟩)] w fun e w' => e = .returned (.bool (!s.more && !s.bad)) ∧ w = w' := by
  obtain ⟨d0, d1, d2, dz⟩ := (pq_new h).cells
  clear h dz
  obtain ⟨rest, more, bad⟩ := s
  simp only at d0 d1 d2 ⊢
  cases more <;> cases bad
  all_goals
    go_enter Tryz.func128, Tryz.ntmps128
    go_wp2
    go_ret
    exact ⟨rfl, rfl⟩
theorem p_more {w : World} {p : Nat} {s : Pst} (h : Own w p 171 s.row) : Calls Tryz.prog 129 #[.pointer (some ⟨p, 0, none⟩)] w fun e w' => e = .returned (.bool s.more) ∧ w = w' := by
  obtain ⟨d0, d1, d2, dz⟩ := (pq_new h).cells
  clear h dz
  go_enter Tryz.func129, Tryz.ntmps129
  go_wp2
  go_ret
  exact ⟨rfl, rfl⟩
theorem p_fail {w : World} {p : Nat} {s : Pst} (h : Own w p 171 s.row) : Calls Tryz.prog 150 #[.pointer (some ⟨p, 0, none⟩)] w fun e w' => e = .returned (.tuple #[]) ∧ Pq w p { s with bad := true } w' := by
  have HQ := Lib.hid (pq_new h)
  obtain ⟨d0, d1, d2, dz⟩ := HQ.out.cells
  have g2 := dz 2
  clear h dz
  go_enter Tryz.func150, Tryz.ntmps150
  go_wp2
  exact bodyPost_end (results_none rfl _ _ _) rfl ⟨rfl, HQ.out.setBad⟩
theorem p_New (s : ByteArray) (w : World) : Calls Tryz.prog 116 #[.string s] w fun e w' => e = .returned (.pointer (some ⟨w.heap.size, 0, none⟩)) ∧ w' = w.alloc (.cells #[.string s, .bool true, .bool false] 171) := by
  go_enter Tryz.func116, Tryz.ntmps116
  go_wp2
  go_ret
  exact ⟨rfl, rfl⟩
set_option maxHeartbeats 2000000 in
theorem p_register {w : World} {B p : Nat} {s : Pst} (h : Own w p 171 s.row) (hs : s.rest.size ≤ 4611686018427387904) {g o : Nat} {ty : TypeId} {row : Array Value} {u : Value} (ho : Own w g ty row) (hg : g ≠ p) (hu : row[o]? = some u) (hB : B ≤ p) (hB2 : B ≤ g) :
    Calls Tryz.prog 135 #[.agg #[.pointer (some ⟨p, 0, none⟩)], .pointer (some ⟨g, o, none⟩)] w fun e w' => e = .returned (.tuple #[]) ∧ P2 w B p (regS' s).2 g ty (row.setIfInBounds o (.int .i64 (regS' s).1)) w' := by
  have q0 : P2 w B p s g ty row (w.alloc (.cells #[.pointer (some ⟨p, 0, none⟩)] 161)) := (p2_new h ho).below ((Below.refl _ w).alloc (Nat.le_refl _) _) hB
  have O0 := Own.new w 161 #[.pointer (some ⟨p, 0, none⟩)]
  obtain ⟨W0, hW0⟩ : ∃ W, W = w.alloc (.cells #[.pointer (some ⟨p, 0, none⟩)] 161) := ⟨_, rfl⟩
  rw [← hW0] at q0 O0
  have HW0 := Lib.hid hW0
  have HA : Hid (Calls Tryz.prog 149 #[.pointer (some ⟨p, 0, none⟩), .string ⟨#[114]⟩, .pointer (some ⟨g, o, none⟩)] W0 fun e w' => e = .returned (.tuple #[]) ∧ P2 w B p (regS' s).2 g ty (row.setIfInBounds o (.int .i64 (regS' s).1)) w') := (p_behind 114 q0.own hs q0.dst hg hu hB hB2).mono fun _ _ ⟨h1, h2⟩ => ⟨h1, q0.trans h2⟩
  have c0 : W0.cell? ⟨w.heap.size, 0, none⟩ = some (.pointer (some ⟨p, 0, none⟩)) := by rw [cell_of_row _ _ 0 _ _ _ O0]; rfl
  generalize regS' s = z at HA ⊢
  clear h hs ho hg hu hB hB2 q0 O0 hW0
  go_enter Tryz.func135, Tryz.ntmps135
  go_upto_region 1 with (fail)
  rw [← HW0.out]
  clear HW0
  go_wp2_with (go_at_call 149; refine HA.out.mono ?_; rintro e w2 ⟨rfl, hq⟩; have HQ := Lib.hid hq; clear hq)
  exact bodyPost_end (results_none rfl _ _ _) rfl ⟨rfl, HQ.out⟩
theorem P2.bad {w W W' : World} {B p g : Nat} {s : Pst} {ty : TypeId} {row : Array Value} (h : P2 w B p s g ty row W) (hg : g ≠ p) (hB : B ≤ p) (k : Pq W p { s with bad := true } W') : P2 w B p { s with bad := true } g ty row W' := h.trans (k.p2 h.dst hg hB)
set_option maxHeartbeats 2000000 in
theorem p_origin {w : World} {B p : Nat} {s : Pst} (h : Own w p 171 s.row) (hs : s.rest.size ≤ 4611686018427387904) {g o : Nat} {ty : TypeId} {row : Array Value} {u : Value} (ho : Own w g ty row) (hg : g ≠ p) (hu : row[o]? = some u) (hB : B ≤ p) (hB2 : B ≤ g) :
    Calls Tryz.prog 136 #[.agg #[.pointer (some ⟨p, 0, none⟩)], .pointer (some ⟨g, o, none⟩)] w fun e w' => e = .returned (.tuple #[]) ∧ P2 w B p (oriS s).2 g ty (row.setIfInBounds o (.int .i64 (oriS s).1)) w' := by
  have q0 : P2 w B p s g ty row (w.alloc (.cells #[.pointer (some ⟨p, 0, none⟩)] 161)) := (p2_new h ho).below ((Below.refl _ w).alloc (Nat.le_refl _) _) hB
  have O0 := Own.new w 161 #[.pointer (some ⟨p, 0, none⟩)]
  have n1 : w.heap.size ≠ p := by have := h.lt; omega
  have n2 : w.heap.size ≠ g := by have := ho.lt; omega
  have hol : o < row.size := (Array.getElem?_eq_some_iff.1 hu).1
  obtain ⟨W0, hW0⟩ : ∃ W, W = w.alloc (.cells #[.pointer (some ⟨p, 0, none⟩)] 161) := ⟨_, rfl⟩
  rw [← hW0] at q0 O0
  have HW0 := Lib.hid hW0
  have HA : Hid (Calls Tryz.prog 149 #[.pointer (some ⟨p, 0, none⟩), .string ⟨#[64]⟩, .pointer (some ⟨g, o, none⟩)] W0 fun e w' => e = .returned (.tuple #[]) ∧ P2 w B p (regC 64 s).2 g ty (row.setIfInBounds o (.int .i64 (regC 64 s).1)) w' ∧ w'.cell? ⟨g, o, none⟩ = some (.int .i64 (regC 64 s).1) ∧ w'.cell? ⟨w.heap.size, 0, none⟩ = some (.pointer (some ⟨p, 0, none⟩))) := (p_behind 64 q0.own hs q0.dst hg hu hB hB2).mono fun _ W ⟨h1, h2⟩ => ⟨h1, q0.trans h2, by rw [cell_of_row _ _ o _ _ _ h2.dst, Array.getElem?_setIfInBounds_self_of_lt hol], by rw [cell_of_row _ _ 0 _ _ _ (h2.other O0 n1 n2)]; rfl⟩
  have c0 : W0.cell? ⟨w.heap.size, 0, none⟩ = some (.pointer (some ⟨p, 0, none⟩)) := by rw [cell_of_row _ _ 0 _ _ _ O0]; rfl
  have HF : Hid (∀ (t : Pst) (r : Array Value) X, P2 w B p t g ty r X → Calls Tryz.prog 150 #[.pointer (some ⟨p, 0, none⟩)] X fun e w' => e = .returned (.tuple #[]) ∧ P2 w B p { t with bad := true } g ty r w') := fun t r X hX => (p_fail hX.own).mono fun _ _ ⟨h1, h2⟩ => ⟨h1, hX.bad hg hB h2⟩
  have hz : oriS s = ((regC 64 s).1, if (regC 64 s).1 = 0 then { (regC 64 s).2 with bad := true } else (regC 64 s).2) := rfl
  rw [hz]
  generalize regC 64 s = z at HA ⊢
  obtain ⟨v, s2⟩ := z
  simp only at HA ⊢
  clear h hs ho hg hu hB hB2 q0 O0 hW0 n1 n2 hol hz
  by_cases hv : v = 0
  · subst hv
    rw [if_pos rfl]
    go_enter Tryz.func136, Tryz.ntmps136
    go_upto_region 1 with (fail)
    rw [← HW0.out]
    clear HW0
    go_wp2_with (first | (go_at_call 149; refine HA.out.mono ?_; rintro e w2 ⟨rfl, hq, d0, d1⟩; have HQ := Lib.hid hq; clear hq c0) | (go_at_call 150; refine (HF.out _ _ _ HQ.out).mono ?_; rintro e w3 ⟨rfl, hq⟩; have HQ3 := Lib.hid hq; clear hq))
    exact bodyPost_end (results_none rfl _ _ _) rfl ⟨rfl, HQ3.out⟩
  · rw [if_neg hv]
    have q : (v == 0) = false := int_f hv
    go_enter Tryz.func136, Tryz.ntmps136
    go_upto_region 1 with (fail)
    rw [← HW0.out]
    clear HW0
    go_wp2_with (go_at_call 149; refine HA.out.mono ?_; rintro e w2 ⟨rfl, hq, d0, d1⟩; have HQ := Lib.hid hq; clear hq c0)
    exact bodyPost_end (results_none rfl _ _ _) rfl ⟨rfl, HQ.out⟩
end Go.Proofs.YtgmcfinjlddgbaaGreatDoor

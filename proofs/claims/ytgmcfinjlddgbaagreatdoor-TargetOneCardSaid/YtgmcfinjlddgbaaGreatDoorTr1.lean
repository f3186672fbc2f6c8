/- The words of a line, taken one by one. -/
import Derived.Test.YtgmcfinjlddgbaaGreatDoorTr0
import Derived.Test.YtgmcfinjlddgbaaGreatDoorWq2
namespace Go.Proofs.YtgmcfinjlddgbaaGreatDoor
open Go.RowKit
set_option linter.unusedVariables false
set_option maxRecDepth 100000
structure Pst where
  rest : ByteArray
  more : Bool
  bad : Bool
def Pst.row (s : Pst) : Array Value := #[.string s.rest, .bool s.more, .bool s.bad]
/-- Every block but the parts' own. -/
def selP (p : Nat) (k : Nat) (o : Obj) : Prop := k ≠ p
structure Pq (w : World) (p : Nat) (s : Pst) (W : World) : Prop where
  own : Own W p 171 s.row
  keep : Keep (selP p) w W
  bel : Below p w W
section
variable {w W W' : World} {p : Nat} {s s' : Pst}
theorem Pq.below (h : Pq w p s W) (hb : Below W.heap.size W W') : Pq w p s W' := ⟨h.own.below hb, h.keep.trans (keep_below hb), h.bel.trans (hb.mono (Nat.le_of_lt h.own.lt))⟩
theorem pq_new (h : Own w p 171 s.row) : Pq w p s w := ⟨h, Keep.refl _ _, Below.refl _ _⟩
theorem Pq.trans {w0 : World} (h : Pq w0 p s w) (k : Pq w p s' W) : Pq w0 p s' W := ⟨k.own, h.keep.trans k.keep, h.bel.trans k.bel⟩
theorem Pq.other (h : Pq w p s W) {g : Nat} {ty : TypeId} {row : Array Value} (ho : Own w g ty row) (hg : g ≠ p) : Own W g ty row := h.keep.block _ _ ho hg
theorem Pq.setBad (h : Pq w p s W) : Pq w p { s with bad := true } (W.setCell ⟨p, 2, none⟩ (.bool true)) :=
  ⟨heap_setCell_same W p 2 _ _ _ h.own, h.keep.setCell (p := ⟨p, 2, none⟩) _ h.own (fun hs => hs rfl), h.bel.setCell (p := ⟨p, 2, none⟩) (Nat.le_refl p) _⟩
theorem Pq.setCut (h : Pq w p s W) (r : ByteArray) (m : Bool) : Pq w p ⟨r, m, s.bad⟩ ((W.setCell ⟨p, 0, none⟩ (.string r)).setCell ⟨p, 1, none⟩ (.bool m)) := by
  have o1 := heap_setCell_same W p 0 _ _ (.string r) h.own
  have k1 := h.keep.setCell (p := ⟨p, 0, none⟩) (.string r) h.own (fun hs => hs rfl)
  have b1 := h.bel.setCell (p := ⟨p, 0, none⟩) (Nat.le_refl p) (.string r)
  exact ⟨heap_setCell_same _ p 1 _ _ _ o1, k1.setCell (p := ⟨p, 1, none⟩) _ o1 (fun hs => hs rfl), b1.setCell (p := ⟨p, 1, none⟩) (Nat.le_refl p) _⟩
theorem Pq.cells (h : Pq w p s W) : W.cell? ⟨p, 0, none⟩ = some (.string s.rest) ∧ W.cell? ⟨p, 1, none⟩ = some (.bool s.more) ∧ W.cell? ⟨p, 2, none⟩ = some (.bool s.bad) ∧ ∀ j, W.frozen? ⟨p, j, none⟩ = false :=
  ⟨by rw [cell_of_row _ _ 0 _ _ _ h.own]; rfl, by rw [cell_of_row _ _ 1 _ _ _ h.own]; rfl, by rw [cell_of_row _ _ 2 _ _ _ h.own]; rfl, fun j => own_frozen h.own j⟩
end
def nextS (s : Pst) : ByteArray × Pst := if s.more = true then ((cutA s.rest 32).1, ⟨(cutA s.rest 32).2.1, (cutA s.rest 32).2.2, s.bad⟩) else (⟨#[]⟩, { s with bad := true })
def behS (c : UInt8) (s : Pst) : ByteArray × Pst := ((preA (nextS s).1 c).1, if (preA (nextS s).1 c).2 = true then (nextS s).2 else { (nextS s).2 with bad := true })
def valS (t : ByteArray) (s : Pst) : Int × Pst := ((parseP t.data.toList).1, if (parseP t.data.toList).2.1 = 0 then s else { s with bad := true })
def sizS (t : ByteArray) (s : Pst) : Int × Pst := ((valS t s).1, if (valS t s).1 < 0 then { (valS t s).2 with bad := true } else (valS t s).2)
def numS' (s : Pst) : Int × Pst := sizS (nextS s).1 (nextS s).2
def regS' (s : Pst) : Int × Pst := sizS (behS 114 s).1 (behS 114 s).2
def wdS (s : Pst) : Int × Pst := valS (nextS s).1 (nextS s).2
def oriS (s : Pst) : Int × Pst := ((sizS (behS 64 s).1 (behS 64 s).2).1, if (sizS (behS 64 s).1 (behS 64 s).2).1 = 0 then { (sizS (behS 64 s).1 (behS 64 s).2).2 with bad := true } else (sizS (behS 64 s).1 (behS 64 s).2).2)
set_option maxHeartbeats 2000000 in
theorem p_next {w : World} {p : Nat} {s : Pst} (h : Own w p 171 s.row) (hs : s.rest.size ≤ 4611686018427387904) : Calls Tryz.prog 117 #[.pointer (some ⟨p, 0, none⟩)] w fun e w' => e = .returned (.string (nextS s).1) ∧ Pq w p (nextS s).2 w' := by
  have HQ := Lib.hid (pq_new h)
  clear h
  obtain ⟨c0, c1, c2, fz⟩ := HQ.out.cells
  have f2 := fz 2
  have f0 := fz 0
  unfold nextS
  obtain ⟨rest, more, bad⟩ := s
  simp only at c0 c1 c2 hs ⊢
  cases more with
  | false =>
    simp only [Bool.false_eq_true, if_false]
    go_enter Tryz.func117, Tryz.ntmps117
    go_wp2
    go_ret
    exact ⟨rfl, HQ.out.setBad⟩
  | true =>
    simp only [if_true]
    have HC : Hid (∀ X, Calls Tryz.prog 95 #[.string rest, .string ⟨#[32]⟩] X fun e w' => e = .returned (.tuple #[.string (cutA rest 32).1, .string (cutA rest 32).2.1, .bool (cutA rest 32).2.2]) ∧ Below X.heap.size X w') := fun X => cut_any rest 32 hs X
    generalize cutA rest 32 = r at HC ⊢
    obtain ⟨r1, r2, r3⟩ := r
    replace HC : Hid (∀ X, Calls Tryz.prog 95 #[.string rest, .string ⟨#[32]⟩] X fun e w' => e = .returned (.tuple #[.string r1, .string r2, .bool r3]) ∧ Below X.heap.size X w') := HC.out
    clear fz
    go_enter Tryz.func117, Tryz.ntmps117
    go_wp2_with (go_at_call 95; refine (HC.out _).mono ?_; rintro e w2 ⟨rfl, hb⟩; have HQ2 := Lib.hid (HQ.out.below hb); obtain ⟨d0, d1, d2, dz⟩ := HQ2.out.cells; have g0 := dz 0; have g1 := dz 1)
    go_ret
    exact ⟨rfl, HQ2.out.setCut r2 r3⟩
theorem cut_size (s : ByteArray) (c : UInt8) : (cutA s c).1.size ≤ s.size ∧ (cutA s c).2.1.size ≤ s.size := by
  unfold cutA
  split
  · simp only [ByteArray.size_extract]; omega
  · exact ⟨Nat.le_refl _, Nat.zero_le _⟩
theorem next_size (s : Pst) : (nextS s).1.size ≤ s.rest.size ∧ (nextS s).2.rest.size ≤ s.rest.size := by
  unfold nextS
  split
  · exact cut_size s.rest 32
  · exact ⟨Nat.zero_le _, Nat.le_refl _⟩
theorem beh_size (c : UInt8) (s : Pst) : (behS c s).1.size ≤ s.rest.size ∧ (behS c s).2.rest.size ≤ s.rest.size := by
  have h := next_size s
  unfold behS
  constructor
  · show (preA (nextS s).1 c).1.size ≤ _
    unfold preA
    split
    · simp only [ByteArray.size_extract]; omega
    · exact h.1
  · show (if _ then _ else _ : Pst).rest.size ≤ _
    split <;> exact h.2
theorem val_size (t : ByteArray) (s : Pst) : (valS t s).2.rest.size = s.rest.size := by
  unfold valS
  show (if _ then _ else _ : Pst).rest.size = _
  split <;> rfl
theorem siz_size (t : ByteArray) (s : Pst) : (sizS t s).2.rest.size = s.rest.size := by
  unfold sizS
  show (if _ then _ else _ : Pst).rest.size = _
  split <;> exact val_size t s
set_option maxHeartbeats 2000000 in
theorem p_value {w : World} {p : Nat} {s : Pst} (t : ByteArray) (ht : t.size ≤ 4611686018427387904) (h : Own w p 171 s.row) : Calls Tryz.prog 147 #[.pointer (some ⟨p, 0, none⟩), .string t] w fun e w' => e = .returned (.int .i64 (valS t s).1) ∧ Pq w p (valS t s).2 w' := by
  have HQ := Lib.hid (pq_new h)
  have HP : Hid (∀ X, Calls Tryz.prog 158 #[.string t] X (ParsePost (parseP t.data.toList) X)) := fun X => parse_any t X ht
  unfold valS
  generalize parseP t.data.toList = r at HP ⊢
  obtain ⟨r1, r2, r3⟩ := r
  replace HP : Hid (∀ X, Calls Tryz.prog 158 #[.string t] X fun e w' => e = .returned (.tuple #[.int .i64 r1, .int .i64 r2, .int .i64 r3]) ∧ Below X.heap.size X w') := HP.out
  simp only
  clear h
  by_cases h2 : r2 = 0
  · rw [if_pos h2]
    subst h2
    go_enter Tryz.func147, Tryz.ntmps147
    go_wp2_with (go_at_call 158; refine (HP.out _).mono ?_; rintro e w2 ⟨rfl, hb⟩; have HQ2 := Lib.hid (HQ.out.below hb))
    go_ret
    exact ⟨rfl, HQ2.out⟩
  · rw [if_neg h2]
    have q2 : (r2 != 0) = true := by simpa using h2
    go_enter Tryz.func147, Tryz.ntmps147
    go_wp2_with (go_at_call 158; refine (HP.out _).mono ?_; rintro e w2 ⟨rfl, hb⟩; have HQ2 := Lib.hid (HQ.out.below hb); obtain ⟨d0, d1, d2, dz⟩ := HQ2.out.cells; have g2 := dz 2)
    go_ret
    exact ⟨rfl, HQ2.out.setBad⟩
theorem told_range (bl : Bool) (x : Int × Int × Bool) : -9223372036854775808 ≤ (told bl x).1 ∧ (told bl x).1 ≤ 9223372036854775807 := by
  unfold told
  split
  · show -9223372036854775808 ≤ signed bl x.1 ∧ signed bl x.1 ≤ 9223372036854775807
    unfold signed
    split <;> unfold wrap64 <;> omega
  · simp
theorem parse_range (l : List UInt8) : -9223372036854775808 ≤ (parseP l).1 ∧ (parseP l).1 ≤ 9223372036854775807 := by
  unfold parseP
  split
  · exact told_range _ _
  · exact told_range _ _
theorem val_range (t : ByteArray) (s : Pst) : -9223372036854775808 ≤ (valS t s).1 ∧ (valS t s).1 ≤ 9223372036854775807 := parse_range _
set_option maxHeartbeats 2000000 in
theorem p_size {w : World} {p : Nat} {s : Pst} (t : ByteArray) (ht : t.size ≤ 4611686018427387904) (h : Own w p 171 s.row) : Calls Tryz.prog 146 #[.pointer (some ⟨p, 0, none⟩), .string t] w fun e w' => e = .returned (.int .i64 (sizS t s).1) ∧ Pq w p (sizS t s).2 w' := by
  have HV : Hid (Calls Tryz.prog 147 #[.pointer (some ⟨p, 0, none⟩), .string t] w fun e w' => e = .returned (.int .i64 (valS t s).1) ∧ Pq w p (valS t s).2 w') := p_value t ht h
  have HR : Hid (-9223372036854775808 ≤ (valS t s).1 ∧ (valS t s).1 ≤ 9223372036854775807) := val_range t s
  unfold sizS
  generalize valS t s = r at HV HR ⊢
  obtain ⟨v, s1⟩ := r
  simp only at HV HR ⊢
  clear h
  obtain ⟨hr1, hr2⟩ := HR.out
  by_cases h2 : v < 0
  · rw [if_pos h2]
    go_enter Tryz.func146, Tryz.ntmps146
    go_wp2_with (go_at_call 147; refine HV.out.mono ?_; rintro e w2 ⟨rfl, hq⟩; have HQ2 := Lib.hid hq; obtain ⟨d0, d1, d2, dz⟩ := HQ2.out.cells; have g2 := dz 2)
    go_ret
    exact ⟨rfl, HQ2.out.setBad⟩
  · rw [if_neg h2]
    go_enter Tryz.func146, Tryz.ntmps146
    go_wp2_with (go_at_call 147; refine HV.out.mono ?_; rintro e w2 ⟨rfl, hq⟩; have HQ2 := Lib.hid hq)
    go_ret
    exact ⟨rfl, HQ2.out⟩
end Go.Proofs.YtgmcfinjlddgbaaGreatDoor

/- Target's text reader: the first line, walked. -/
import Derived.Test.YtgmcfinjlddgbaaGreatDoorTp1
namespace Go.Proofs.YtgmcfinjlddgbaaGreatDoor
open Go.RowKit
set_option linter.unusedVariables false
set_option maxRecDepth 100000
/-- The reader and the line that it reads. -/
structure Rp (w : World) (B p g : Nat) (y : Pst × Ob) (W : World) : Prop where
  own : Own W p 171 y.1.row
  rd : ∃ v1 v5 L, RdS B g y.2 v1 v5 L W
  bel : Below B w W
theorem own_ne {W : World} {a b : Nat} {T U : TypeId} {x y : Array Value} (h : Own W a T x) (k : Own W b U y) (ht : (T == U) = false) : a ≠ b := by
  rintro rfl
  unfold Own at h k
  rw [h] at k
  injection k with k
  injection k with _ k
  subst k
  simp at ht
theorem keep_fresh {W W' : World} {p : Nat} {o : Obj} (h : Keep (fun k _ => k ≠ p ∧ k ≠ W.heap.size) (W.alloc o) W') : Keep (fun k _ => k ≠ p) W W' :=
  ⟨h.os, h.tape, h.output, by have := h.size; simp at this; omega, fun k x hk hs => h.block k x (by
    rw [((Below.refl _ W).alloc (Nat.le_refl _) o).block k (Array.getElem?_eq_some_iff.1 hk).1]
    exact hk) ⟨hs, by have := (Array.getElem?_eq_some_iff.1 hk).1; omega⟩⟩
section
variable {w W W' : World} {B p g : Nat} {y : Pst × Ob}
theorem Rp.ne (h : Rp w B p g y W) : g ≠ p := by
  obtain ⟨v1, v5, L, hr⟩ := h.rd
  exact own_ne hr.own h.own rfl
theorem Rp.below (h : Rp w B p g y W) (hb : Below W.heap.size W W') (hB : B ≤ p) : Rp w B p g y W' := by
  obtain ⟨v1, v5, L, hr⟩ := h.rd
  exact ⟨h.own.below hb, ⟨v1, v5, L, hr.below hb⟩, h.bel.trans (hb.mono (by have := h.own.lt; omega))⟩
theorem Rp.trans {w0 : World} {y0 : Pst × Ob} (h : Rp w0 B p g y0 w) (k : Rp w B p g y W) : Rp w0 B p g y W := ⟨k.own, k.rd, h.bel.trans k.bel⟩
theorem Rp.self (h : Rp w B p g y W) : Rp W B p g y W := ⟨h.own, h.rd, Below.refl _ _⟩
/-- The line alone is read on. -/
theorem Rp.line {s' : Pst} (h : Rp w B p g y W) (ho : Own W' p 171 s'.row) (hk : Keep (fun k _ => k ≠ p) W W') (hb : Below B W W') : Rp w B p g (s', y.2) W' := by
  obtain ⟨v1, v5, L, hr⟩ := h.rd
  exact ⟨ho, ⟨v1, v5, L, hr.keep h.own h.ne rfl rfl rfl hk⟩, h.bel.trans hb⟩
theorem row_keep2 {base : Nat} {T : TypeId} {n : Nat} {v : Value} {k : Nat} {xs : List Value} {q : Nat} (h : W.ownsRow base T n v k xs) (hp : v.ownBlock ≠ some p) (hq : v.ownBlock ≠ some q) (hk : Keep (fun k _ => k ≠ p ∧ k ≠ q) W W') : W'.ownsRow base T n v k xs :=
  row_stays h fun b _ hv hlt => by
    rw [hk.block b _ (Array.getElem?_eq_getElem hlt) ⟨fun e => hp (by rw [hv, e]), fun e => hq (by rw [hv, e])⟩, Array.getElem?_eq_getElem hlt]
/-- A number is read into the reader's own block. -/
theorem RdS.num {o o' : Ob} {v1 v5 : Value} {L : List (Cor × Value)} {s s' : Pst} {row : Array Value} (h : RdS B g o v1 v5 L W) (hp : Own W p 171 s.row) (k : P2 W B p s' g 114 row W') (he : row = #[v1, .int .i64 o'.sh, .int .i64 o'.lk, .int .i64 o'.bf, v5]) (h1 : o'.mem = o.mem) (h2 : o'.cores = o.cores) : RdS B g o' v1 v5 L W' := by
  subst he
  have hl : ∀ {base : Nat} {x : Cor × Value}, W.ownsRow base 25 9 x.2 x.1.code.length (flatI x.1.code) → W'.ownsRow base 25 9 x.2 x.1.code.length (flatI x.1.code) := fun hx => row_keep2 hx (row_apart hx hp rfl) (row_apart hx h.own rfl) k.keep
  refine ⟨k.dst, by rw [h1]; exact row_keep2 h.mem (row_apart h.mem hp rfl) (row_apart h.mem h.own rfl) k.keep, by rw [h2]; exact h.fst, row_keep2 h.cors (row_apart h.cors hp rfl) (row_apart h.cors h.own rfl) k.keep, fun x hx => hl (h.codes.rows x hx), fun L' x e => ?_⟩
  obtain ⟨bl, k1, k2, k3, k4⟩ := h.codes.last L' x e
  exact ⟨bl, k1, Nat.le_trans k2 k.keep.size, hl k3, k4⟩
end
structure Rq (w : World) (B p g b : Nat) (y : Pst × Ob) (W : World) : Prop where
  rp : Rp w B p g y W
  bx : Own W b 161 #[.pointer (some ⟨p, 0, none⟩)]
theorem Rq.below {w W W' : World} {B p g b : Nat} {y : Pst × Ob} (h : Rq w B p g b y W) (hb : Below W.heap.size W W') (hB : B ≤ p) : Rq w B p g b y W' := ⟨h.rp.below hb hB, h.bx.below hb⟩
theorem Rp.box {w W : World} {B p g : Nat} {y : Pst × Ob} (h : Rp w B p g y W) (hB : B ≤ p) : Rq w B p g W.heap.size y (W.alloc (.cells #[.pointer (some ⟨p, 0, none⟩)] 161)) := ⟨h.below ((Below.refl _ W).alloc (Nat.le_refl _) _) hB, Own.new W _ _⟩
theorem hd_size (j : Nat) (y : Pst × Ob) : (hdF j y).1.rest.size ≤ y.1.rest.size := by
  match j with
  | 0 => exact num_size _
  | 1 => exact num_size _
  | j + 2 => exact num_size _
theorem hdS_size (y : Pst × Ob) : ∀ j : Nat, (hdS j y).1.rest.size ≤ y.1.rest.size
  | 0 => Nat.le_refl _
  | j + 1 => Nat.le_trans (hd_size j _) (hdS_size y j)
theorem hd_num (j : Nat) (hj : j < 3) {w X : World} {B p g b : Nat} {y : Pst × Ob} (h : Rq w B p g b y X) (hs : y.1.rest.size ≤ 4611686018427387904) (hB : B ≤ p) (hB2 : B ≤ g) (hb : b ≠ p) (hb2 : b ≠ g) :
    Calls Tryz.prog 127 #[.pointer (some ⟨p, 0, none⟩), .pointer (some ⟨g, j + 1, none⟩)] X fun e w' => e = .returned (.tuple #[]) ∧ Rq w B p g b (hdF j y) w' := by
  obtain ⟨v1, v5, L, hr⟩ := h.rp.rd
  match j, hj with
  | 0, _ => exact (p_number h.rp.own hs hr.own h.rp.ne (u := .int .i64 y.2.sh) rfl hB hB2).mono fun _ _ ⟨e1, e2⟩ => ⟨e1, ⟨e2.own, ⟨v1, v5, L, hr.num h.rp.own e2 rfl rfl rfl⟩, h.rp.bel.trans e2.bel⟩, e2.other h.bx hb hb2⟩
  | 1, _ => exact (p_number h.rp.own hs hr.own h.rp.ne (u := .int .i64 y.2.lk) rfl hB hB2).mono fun _ _ ⟨e1, e2⟩ => ⟨e1, ⟨e2.own, ⟨v1, v5, L, hr.num h.rp.own e2 rfl rfl rfl⟩, h.rp.bel.trans e2.bel⟩, e2.other h.bx hb hb2⟩
  | 2, _ => exact (p_number h.rp.own hs hr.own h.rp.ne (u := .int .i64 y.2.bf) rfl hB hB2).mono fun _ _ ⟨e1, e2⟩ => ⟨e1, ⟨e2.own, ⟨v1, v5, L, hr.num h.rp.own e2 rfl rfl rfl⟩, h.rp.bel.trans e2.bel⟩, e2.other h.bx hb hb2⟩
def hArr (g : Nat) : Value := .agg #[.pointer (some ⟨g, 1, none⟩), .pointer (some ⟨g, 2, none⟩), .pointer (some ⟨g, 3, none⟩)]
set_option maxHeartbeats 4000000 in
theorem t_head {w : World} {B p g : Nat} {y : Pst × Ob} (h : Rp w B p g y w) (hs : y.1.rest.size ≤ 4611686018427387904) (hB : B ≤ p) (hB2 : B ≤ g) :
    Calls Tryz.prog 118 #[.pointer (some ⟨g, 0, none⟩), .agg #[.pointer (some ⟨p, 0, none⟩)]] w fun e w' => e = .returned (.bool (doneB (hdS 3 y).1)) ∧ Rp w B p g (hdS 3 y) w' := by
  have hq0 := h.box hB
  have hn1 : w.heap.size ≠ p := by have := h.own.lt; omega
  have hn2 : w.heap.size ≠ g := by
    obtain ⟨v1, v5, L, hr⟩ := h.rd
    have := hr.own.lt; omega
  have HS : Hid (∀ j, j < 3 → ∀ X (y : Pst × Ob), Rq w B p g w.heap.size y X → y.1.rest.size ≤ 4611686018427387904 → Calls Tryz.prog 127 #[.pointer (some ⟨p, 0, none⟩), .pointer (some ⟨g, j + 1, none⟩)] X fun e w' => e = .returned (.tuple #[]) ∧ Rq w B p g w.heap.size (hdF j y) w') := fun j hj X y h1 h2 => hd_num j hj h1 h2 hB hB2 hn1 hn2
  have HSZ : Hid (∀ j, (hdS j y).1.rest.size ≤ 4611686018427387904) := fun j => Nat.le_trans (hdS_size y j) hs
  have HDN : Hid (∀ X (y : Pst × Ob), Rq w B p g w.heap.size y X → Calls Tryz.prog 128 #[.pointer (some ⟨p, 0, none⟩)] X fun e w' => e = .returned (.bool (doneB y.1)) ∧ X = w') := fun X y h1 => p_done h1.rp.own
  have HX : Hid (∀ (X : World) (j : Nat), j < 3 → (Instr.index 141 (.agg #[.pointer (some ⟨g, 1, none⟩), .pointer (some ⟨g, 2, none⟩), .pointer (some ⟨g, 3, none⟩)]) (.int .i64 (j : Int))).run Tryz.prog X = .ok (.pointer (some ⟨g, j + 1, none⟩)) X) := fun X j hj => by
    match j, hj with
    | 0, _ => rfl
    | 1, _ => rfl
    | 2, _ => rfl
  obtain ⟨W0, hW0⟩ : ∃ W, W = w.alloc (.cells #[.pointer (some ⟨p, 0, none⟩)] 161) := ⟨_, rfl⟩
  rw [← hW0] at hq0
  have HW0 := Lib.hid hW0
  have HP0 := Lib.hid hq0
  have HBP := Lib.hid hB
  clear h hs hB hB2 hq0 hn1 hn2 hW0
  go_enter Tryz.func118, Tryz.ntmps118
  go_upto_region 1 with (fail)
  rw [← HW0.out]
  clear HW0
  go_wp2_with fail
  go_quiet (fail)
  have HP2 := Lib.hid (HP0.out.below (below_drewN (Below.refl _ W0) nq) HBP.out)
  obtain ⟨W2, hW2⟩ : ∃ W, W = W0.drewN nq := ⟨_, rfl⟩
  rw [← hW2] at HP2 ⊢
  clear hW2 HP0
  go_wp2_with fail
  go_loopg [20] 4 (fun m' z X => ∃ j : Nat, z = .int .i64 (j : Int) ∧ j ≤ 3 ∧ m' = 3 - j + 1 ∧ Rq w B p g w.heap.size (hdS j y) X)
  case atStart => exact ⟨0, rfl, by omega, by omega, HP2.out⟩
  case round =>
    clear HP2
    obtain ⟨j, rfl, hj, hm, hq⟩ := hrel
    have HM := Lib.hid hm
    have HP := Lib.hid hq
    have c0 : wr.cell? ⟨w.heap.size, 0, none⟩ = some (.pointer (some ⟨p, 0, none⟩)) := by rw [cell_of_row _ _ 0 _ _ _ hq.bx]; rfl
    clear hm hq
    by_cases hj3 : j < 3
    · have hx := fun X => HX.out X j hj3
      have hlt : (j : Int) < 3 := by omega
      go_wp2_with (go_at_call 127; refine (HS.out j hj3 _ _ HP.out (HSZ.out j)).mono ?_; rintro e w4 ⟨rfl, hz⟩; have HZ := Lib.hid hz; clear hz)
      go_roundg (3 - (j + 1) + 1)
      case measure => have := HM.out; omega
      case rel => exact ⟨j + 1, by simp, by omega, by omega, HZ.out⟩
    · obtain rfl : j = 3 := by omega
      go_wp2_with (go_at_call 128; refine (HDN.out _ _ HP.out).mono ?_; rintro e w4 ⟨rfl, rfl⟩)
      go_ret
      exact ⟨rfl, HP.out.rp⟩
end Go.Proofs.YtgmcfinjlddgbaaGreatDoor

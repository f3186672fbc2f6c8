/- Target's text reader: what it makes of a text. -/
import Derived.Test.YtgmcfinjlddgbaaGreatDoorTr6
import Derived.Test.YtgmcfinjlddgbaaGreatDoorGc0
namespace Go.Proofs.YtgmcfinjlddgbaaGreatDoor
open Go.RowKit
set_option linter.unusedVariables false
set_option maxRecDepth 100000
def keepL {α : Type} (l : List α) (x : α) (most : Nat) : List α := if most < l.length then l else l ++ [x]
def doneB (s : Pst) : Bool := !s.more && !s.bad
/-- The first line's numbers. -/
def hdF : Nat → Pst × Ob → Pst × Ob
  | 0, x => ((numS' x.1).2, { x.2 with sh := (numS' x.1).1 })
  | 1, x => ((numS' x.1).2, { x.2 with lk := (numS' x.1).1 })
  | _, x => ((numS' x.1).2, { x.2 with bf := (numS' x.1).1 })
def hdS : Nat → Pst × Ob → Pst × Ob
  | 0, x => x
  | j + 1, x => hdF j (hdS j x)
/-- The words of the memory. -/
def mmF (x : Pst × Ob) : Pst × Ob := ((wdS x.1).2, { x.2 with mem := keepL x.2.mem (wdS x.1).1 4096 })
def mmS : Nat → Pst × Ob → Pst × Ob
  | 0, x => x
  | n + 1, x => if x.1.more = true then mmS n (mmF x) else x
def coS (x : Pst × Ob) : Pst × Ob := ((nextS x.1).2, { x.2 with cores := keepL x.2.cores ⟨(nextS x.1).1, []⟩ 8 })
def pushI (l : List Cor) (i : Ins) : List Cor := match l.getLast? with
  | some c => l.dropLast ++ [⟨c.name, keepL c.code i 16384⟩]
  | none => l
/-- An instruction behind its word. -/
def insS (s : Pst) (i : Ins) : Pst × Ins := bif (vS (uB i.k i.o) 6 (s, i)).1.more then ((oriS (vS (uB i.k i.o) 6 (s, i)).1).2, { (vS (uB i.k i.o) 6 (s, i)).2 with fr := (oriS (vS (uB i.k i.o) 6 (s, i)).1).1 }) else vS (uB i.k i.o) 6 (s, i)
def inS (t : ByteArray) (x : Pst × Ob) : Bool × Ob := bif (begS t.data.toList).2 then (doneB (insS x.1 (begS t.data.toList).1).1, { x.2 with cores := pushI x.2.cores (insS x.1 (begS t.data.toList).1).2 }) else (false, x.2)
def objN : List UInt8 := [111, 98, 106, 101, 99, 116]
def memN : List UInt8 := [109, 101, 109, 111, 114, 121]
def corN : List UInt8 := [99, 111, 114, 101]
def lnS (k : Nat) (t : ByteArray) (o : Ob) : Bool × Ob :=
  if k = 0 then (if (nextS ⟨t, true, false⟩).1.data.toList = objN then (doneB (hdS 3 ((nextS ⟨t, true, false⟩).2, o)).1, (hdS 3 ((nextS ⟨t, true, false⟩).2, o)).2) else (false, o))
  else if k = 1 then (if (nextS ⟨t, true, false⟩).1.data.toList = memN then (doneB (mmS (t.size + 2) ((nextS ⟨t, true, false⟩).2, o)).1, (mmS (t.size + 2) ((nextS ⟨t, true, false⟩).2, o)).2) else (false, o))
  else if (nextS ⟨t, true, false⟩).1.data.toList = corN then (doneB (coS ((nextS ⟨t, true, false⟩).2, o)).1, (coS ((nextS ⟨t, true, false⟩).2, o)).2)
  else if o.cores = [] then (false, o) else inS (nextS ⟨t, true, false⟩).1 ((nextS ⟨t, true, false⟩).2, o)
/-- A whole text: where it is none, and whether it is one. -/
def txS (s : ByteArray) : Nat → Nat → Nat → Ob → (Int × Bool) × Ob
  | 0, _, _, o => ((0, true), o)
  | n + 1, k, a, o => if k < 2 ∨ a < s.size then
      (if (cutA (s.extract a s.size) 10).2.2 = true then
        (if (lnS k (cutA (s.extract a s.size) 10).1 o).1 = true then txS s n (k + 1) (a + (cutA (s.extract a s.size) 10).1.size + 1) (lnS k (cutA (s.extract a s.size) 10).1 o).2
          else (((a : Int), false), (lnS k (cutA (s.extract a s.size) 10).1 o).2))
        else (((a : Int), false), o))
    else ((0, true), o)
def zOb : Ob := ⟨[], 0, 0, 0, []⟩
/-- What is read fits. -/
structure FitT (o : Ob) : Prop where
  mem : o.mem.length ≤ 4097
  cors : o.cores.length ≤ 9
  code : ∀ c ∈ o.cores, c.code.length ≤ 16385
  name : ∀ c ∈ o.cores, c.name.size ≤ 140737488351232
  rg : rgO o
theorem keep_len {α : Type} (l : List α) (x : α) (n : Nat) (h : l.length ≤ n + 1) : (keepL l x n).length ≤ n + 1 := by
  unfold keepL
  split
  · exact h
  · rw [List.length_append]; simp; omega
theorem keep_all {α : Type} {P : α → Prop} {l : List α} {x : α} {n : Nat} (h : ∀ y ∈ l, P y) (hx : P x) : ∀ y ∈ keepL l x n, P y := by
  unfold keepL
  split
  · exact h
  · intro y hy
    rcases List.mem_append.1 hy with hy | hy
    · exact h y hy
    · obtain rfl : y = x := by simpa using hy
      exact hx
/-- Cores, each with where its code lies. -/
def flatC (L : List (Cor × Value)) : List Value := L.flatMap fun x => [.string x.1.name, x.2]
def flatI (l : List Ins) : List Value := l.flatMap insC
theorem flatC_len : ∀ L : List (Cor × Value), (flatC L).length = L.length * 2
  | [] => rfl
  | x :: L => by
    have h := flatC_len L
    simp only [flatC, List.flatMap_cons, List.length_append, List.length_cons, List.length_nil] at h ⊢
    omega
theorem flatC_app (L L' : List (Cor × Value)) : flatC (L ++ L') = flatC L ++ flatC L' := List.flatMap_append
theorem flatI_app (L L' : List Ins) : flatI (L ++ L') = flatI L ++ flatI L' := List.flatMap_append
theorem flatI_len : ∀ L : List Ins, (flatI L).length = L.length * 9
  | [] => rfl
  | x :: L => by
    have h := flatI_len L
    simp only [flatI, List.flatMap_cons, List.length_append, List.length_cons] at h ⊢
    have h9 : (insC x).length = 9 := rfl
    omega
def TRt : TypeId := 114
structure RdL (B : Nat) (L : List (Cor × Value)) (W : World) : Prop where
  rows : ∀ x ∈ L, W.ownsRow B 25 9 x.2 x.1.code.length (flatI x.1.code)
  last : ∀ L' x, L = L' ++ [x] → ∃ bl, B ≤ bl ∧ bl ≤ W.heap.size ∧ W.ownsRow bl 25 9 x.2 x.1.code.length (flatI x.1.code) ∧ ∀ y ∈ L', ∀ b, y.2.ownBlock = some b → b < bl
structure RdS (B g : Nat) (o : Ob) (v1 v5 : Value) (L : List (Cor × Value)) (W : World) : Prop where
  own : Own W g 114 #[v1, .int .i64 o.sh, .int .i64 o.lk, .int .i64 o.bf, v5]
  mem : W.ownsRow B 2 1 v1 o.mem.length (o.mem.map fun x => .int .i64 x)
  fst : L.map Prod.fst = o.cores
  cors : W.ownsRow B 64 2 v5 L.length (flatC L)
  codes : RdL B L W
/-- Two rows of unlike kinds lie apart; so does a row from a block. -/
theorem row_apart {W : World} {base : Nat} {T U : TypeId} {n : Nat} {v : Value} {m : Nat} {xs : List Value} (h : W.ownsRow base T n v m xs) {b : Nat} {cs : Array Value} (hb : Own W b U cs) (ht : (T == U) = false) : v.ownBlock ≠ some b := by
  rcases h.2 with ⟨hv, h0⟩ | ⟨g, cap, cur, hv, h1, h2, h3⟩
  · rw [hv]; simp [Value.ownBlock]
  · intro e
    rw [hv] at e
    have e : g = b := by simpa [Value.ownBlock] using e
    subst e
    unfold Own at hb
    rw [h2] at hb
    injection hb with hb
    injection hb with _ hb
    subst hb
    simp at ht
theorem row_apart2 {W : World} {base base' : Nat} {T U : TypeId} {n n' : Nat} {v v' : Value} {m m' : Nat} {xs xs' : List Value} (h : W.ownsRow base T n v m xs) (h' : W.ownsRow base' U n' v' m' xs') (ht : (T == U) = false) (b : Nat) (hb : v'.ownBlock = some b) : v.ownBlock ≠ some b := by
  rcases h'.2 with ⟨hv, h0⟩ | ⟨g, cap, cur, hv, h1, h2, h3⟩
  · rw [hv] at hb; simp [Value.ownBlock] at hb
  · rw [hv] at hb
    obtain rfl : g = b := by simpa [Value.ownBlock] using hb
    exact row_apart h (b := g) (cs := cur) h2 ht
theorem row_keep {W W' : World} {base : Nat} {T : TypeId} {n : Nat} {v : Value} {k : Nat} {xs : List Value} {p : Nat} (h : W.ownsRow base T n v k xs) (hp : v.ownBlock ≠ some p) (hk : Keep (fun k _ => k ≠ p) W W') : W'.ownsRow base T n v k xs :=
  row_stays h fun g _ hv hlt => by
    rw [hk.block g _ (Array.getElem?_eq_getElem hlt) (fun e => hp (by rw [hv, e])), Array.getElem?_eq_getElem hlt]
section
variable {W W' : World} {B g p : Nat} {o : Ob} {v1 v5 : Value} {L : List (Cor × Value)} {row : Array Value}
theorem RdL.keep (h : RdL B L W) {ty : TypeId} (hp : Own W p ty row) (ht : (25 == ty) = false) (hk : Keep (fun k _ => k ≠ p) W W') : RdL B L W' :=
  ⟨fun x hx => row_keep (h.rows x hx) (row_apart (h.rows x hx) hp ht) hk, fun L' x e => by
    obtain ⟨bl, h1, h2, h3, h4⟩ := h.last L' x e
    exact ⟨bl, h1, Nat.le_trans h2 hk.size, row_keep h3 (row_apart h3 hp ht) hk, h4⟩⟩
/-- Another block of its own kind changes, or new ones come. -/
theorem RdS.keep (h : RdS B g o v1 v5 L W) {ty : TypeId} (hp : Own W p ty row) (hg : g ≠ p) (t1 : (2 == ty) = false) (t2 : (64 == ty) = false) (t3 : (25 == ty) = false) (hk : Keep (fun k _ => k ≠ p) W W') : RdS B g o v1 v5 L W' :=
  ⟨hk.block _ _ h.own hg, row_keep h.mem (row_apart h.mem hp t1) hk, h.fst, row_keep h.cors (row_apart h.cors hp t2) hk, h.codes.keep hp t3 hk⟩
theorem RdL.below (h : RdL B L W) (hb : Below W.heap.size W W') : RdL B L W' :=
  ⟨fun x hx => row_below (h.rows x hx) hb, fun L' x e => by
    obtain ⟨bl, h1, h2, h3, h4⟩ := h.last L' x e
    exact ⟨bl, h1, Nat.le_trans h2 hb.size, row_below h3 hb, h4⟩⟩
theorem RdS.below (h : RdS B g o v1 v5 L W) (hb : Below W.heap.size W W') : RdS B g o v1 v5 L W' :=
  ⟨h.own.below hb, row_below h.mem hb, h.fst, row_below h.cors hb, h.codes.below hb⟩
/-- A row is stored into the reader's own block. -/
theorem RdS.setG (h : RdS B g o v1 v5 L W) (j : Nat) (v : Value) (o' : Ob) (he : (#[v1, .int .i64 o.sh, .int .i64 o.lk, .int .i64 o.bf, v5] : Array Value).setIfInBounds j v = #[v1, .int .i64 o'.sh, .int .i64 o'.lk, .int .i64 o'.bf, v5]) (h1 : o'.mem = o.mem) (h2 : o'.cores = o.cores) : RdS B g o' v1 v5 L (W.setCell ⟨g, j, none⟩ v) := by
  have hk : Keep (fun k _ => k ≠ g) W (W.setCell ⟨g, j, none⟩ v) := (Keep.refl _ _).setCell (p := ⟨g, j, none⟩) v h.own (fun q => q rfl)
  refine ⟨?_, by rw [h1]; exact row_keep h.mem (row_apart h.mem h.own rfl) hk, by rw [h2]; exact h.fst, row_keep h.cors (row_apart h.cors h.own rfl) hk, h.codes.keep h.own rfl hk⟩
  rw [← he]
  exact heap_setCell_same W g j _ _ v h.own
/-- The memory has grown, and is stored. -/
theorem RdS.setMem (h : RdS B g o v1 v5 L W) {v1' : Value} {l : List Int} (hg : W.grownBy W' v1.ownBlock) (hr : W'.ownsRow B 2 1 v1' l.length (l.map fun x => .int .i64 x)) : RdS B g { o with mem := l } v1' v5 L (W'.setCell ⟨g, 0, none⟩ v1') := by
  have e0 : Own W' g 114 #[v1, .int .i64 o.sh, .int .i64 o.lk, .int .i64 o.bf, v5] := (hg.block g h.own.lt (fun e => row_apart h.mem h.own rfl e.symm)).trans h.own
  have hk : Keep (fun k _ => k ≠ g) W' (W'.setCell ⟨g, 0, none⟩ v1') := (Keep.refl _ _).setCell (p := ⟨g, 0, none⟩) v1' e0 (fun q => q rfl)
  have hc : W'.ownsRow B 64 2 v5 L.length (flatC L) := row_stays h.cors fun b _ hb hlt => hg.block b hlt (fun e => row_apart2 h.mem h.cors rfl b hb e.symm)
  have hrow : ∀ {base : Nat} {x : Cor × Value}, W.ownsRow base 25 9 x.2 x.1.code.length (flatI x.1.code) → W'.ownsRow base 25 9 x.2 x.1.code.length (flatI x.1.code) := fun hx => row_stays hx fun b _ hb hlt => hg.block b hlt (fun e => row_apart2 h.mem hx rfl b hb e.symm)
  have hl : RdL B L W' := ⟨fun x hx => hrow (h.codes.rows x hx), fun L' x e => by
    obtain ⟨bl, k1, k2, k3, k4⟩ := h.codes.last L' x e
    exact ⟨bl, k1, Nat.le_trans k2 hg.size, hrow k3, k4⟩⟩
  exact ⟨heap_setCell_same W' g 0 _ _ v1' e0, row_keep hr (row_apart hr e0 rfl) hk, h.fst, row_keep hc (row_apart hc e0 rfl) hk, hl.keep e0 rfl hk⟩
end
end Go.Proofs.YtgmcfinjlddgbaaGreatDoor

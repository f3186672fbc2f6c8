/- Blocks whose shapes stay while their cells are written. -/
import Derived.Test.YtgmcfinjlddgbaaGreatDoorRcr
import Derived.Test.YtgmcfinjlddgbaaGreatDoorTp9
import Derived.Deep.MidRow
namespace Go.Proofs.YtgmcfinjlddgbaaGreatDoor
open Go.RowKit
set_option linter.unusedVariables false
set_option maxRecDepth 100000
/-- Blocks of cells keep type and length; only blocks between two places, of some types, change. -/
structure Chg (lo hi : Nat) (S : TypeId → Bool) (w w' : World) : Prop where
  os : w'.os = w.os
  tape : w'.tape = w.tape
  output : w'.output = w.output
  size : w.heap.size ≤ w'.heap.size
  shp : ∀ (k : Nat) (cs : Array Value) (ty : TypeId) (fr : Nat × Nat), w.heap[k]? = some (.cells cs ty fr) → ∃ cs' : Array Value, w'.heap[k]? = some (.cells cs' ty fr) ∧ cs'.size = cs.size
  same : ∀ k : Nat, k < w.heap.size → (lo ≤ k → k < hi → ∃ (cs : Array Value) (ty : TypeId) (fr : Nat × Nat), w.heap[k]? = some (.cells cs ty fr) ∧ S ty = false) → w'.heap[k]? = w.heap[k]?
theorem Chg.refl (lo hi : Nat) (S : TypeId → Bool) (w : World) : Chg lo hi S w w := ⟨rfl, rfl, rfl, Nat.le_refl _, fun k cs ty fr h => ⟨cs, h, rfl⟩, fun _ _ _ => rfl⟩
theorem Chg.trans {lo hi : Nat} {S : TypeId → Bool} {a b c : World} (h : Chg lo hi S a b) (k : Chg lo hi S b c) : Chg lo hi S a c :=
  ⟨k.os.trans h.os, k.tape.trans h.tape, k.output.trans h.output, Nat.le_trans h.size k.size, fun i cs ty fr hi => by
    obtain ⟨c1, h1, h2⟩ := h.shp i cs ty fr hi
    obtain ⟨c2, h3, h4⟩ := k.shp i c1 ty fr h1
    exact ⟨c2, h3, h4.trans h2⟩, fun i hi hs => by
    have e := h.same i hi hs
    refine (k.same i (Nat.lt_of_lt_of_le hi h.size) fun h1 h2 => ?_).trans e
    obtain ⟨cs, ty, fr, h3, h4⟩ := hs h1 h2
    exact ⟨cs, ty, fr, e.trans h3, h4⟩⟩
theorem Chg.mono {lo hi lo' hi' : Nat} {S S' : TypeId → Bool} {a b : World} (h : Chg lo hi S a b) (h1 : lo' ≤ lo) (h2 : hi ≤ hi') (h3 : ∀ t, S t = true → S' t = true) : Chg lo' hi' S' a b :=
  ⟨h.os, h.tape, h.output, h.size, h.shp, fun k hk hs => h.same k hk fun p q => by
    obtain ⟨cs, ty, fr, e1, e2⟩ := hs (Nat.le_trans h1 p) (Nat.lt_of_lt_of_le q h2)
    refine ⟨cs, ty, fr, e1, ?_⟩
    cases e3 : S ty
    · rfl
    · rw [h3 ty e3] at e2; cases e2⟩
theorem Chg.ofBelow {lo hi : Nat} {S : TypeId → Bool} {a b : World} (h : Below a.heap.size a b) : Chg lo hi S a b :=
  ⟨h.os, h.tape, h.output, h.size, fun k cs ty fr hk => ⟨cs, (h.block k (Array.getElem?_eq_some_iff.1 hk).1).trans hk, rfl⟩, fun k hk _ => h.block k hk⟩
theorem Chg.below {lo hi : Nat} {S : TypeId → Bool} {a b : World} (h : Chg lo hi S a b) (B : Nat) (h1 : B ≤ lo) (h2 : B ≤ a.heap.size) : Below B a b :=
  ⟨h.os, h.tape, h.output, h.size, fun k hk => h.same k (Nat.lt_of_lt_of_le hk h2) fun p _ => absurd (Nat.lt_of_le_of_lt p hk) (by omega)⟩
theorem heap_setCell_shape (w : World) (g i : Nat) (v : Value) (k : Nat) (cs : Array Value) (ty : TypeId) (fr : Nat × Nat) (h : w.heap[k]? = some (.cells cs ty fr)) : ∃ cs', (w.setCell ⟨g, i, none⟩ v).heap[k]? = some (.cells cs' ty fr) ∧ cs'.size = cs.size := by
  by_cases e : g = k
  · subst e
    refine ⟨cs.setIfInBounds i v, ?_, by simp⟩
    simp [World.setCell, Array.getElem?_modify, h]
  · refine ⟨cs, ?_, rfl⟩
    simp [World.setCell, Array.getElem?_modify, h, e]
theorem Chg.setCell {lo hi : Nat} {S : TypeId → Bool} {w : World} {g : Nat} {T : TypeId} {cs : Array Value} (hg : Own w g T cs) (h1 : lo ≤ g) (h2 : g < hi) (hT : S T = true) (i : Nat) (v : Value) : Chg lo hi S w (w.setCell ⟨g, i, none⟩ v) :=
  ⟨rfl, rfl, rfl, by simp, fun k c ty fr hk => heap_setCell_shape w g i v k c ty fr hk, fun k hk hs => by
    have e : g ≠ k := fun e => by
      subst e
      obtain ⟨c, ty, fr, e1, e2⟩ := hs h1 h2
      have := hg.symm.trans e1
      injection this with this
      injection this with _ e3 _
      subst e3
      rw [hT] at e2
      cases e2
    simp [World.setCell, Array.getElem?_modify, e]⟩
theorem Chg.setCells {lo hi : Nat} {S : TypeId → Bool} {g : Nat} {T : TypeId} (h1 : lo ≤ g) (h2 : g < hi) (hT : S T = true) : ∀ (vs : List Value) (i : Nat) (w : World) (cs : Array Value), Own w g T cs → Chg lo hi S w (w.setCells g i vs)
  | [], _, _, _, _ => Chg.refl _ _ _ _
  | v :: r, i, w, cs, hg => by
    obtain ⟨c2, h3, _⟩ := heap_setCell_shape w g i v g cs T (0, 0) hg
    exact (Chg.setCell hg h1 h2 hT i v).trans (Chg.setCells h1 h2 hT r (i + 1) _ c2 h3)
theorem Chg.setRow {lo hi : Nat} {S : TypeId → Bool} {w : World} {g : Nat} {T : TypeId} {cs : Array Value} (hg : Own w g T cs) (h1 : lo ≤ g) (h2 : g < hi) (hT : S T = true) (c : Array Value) (hc : c.size = cs.size) : Chg lo hi S w (w.setRow g c) :=
  ⟨rfl, rfl, rfl, by rw [size_setRow]; exact Nat.le_refl _, fun k d ty fr hk => by
    by_cases e : g = k
    · subst e
      have := hg.symm.trans hk
      injection this with this
      injection this with e2 e3 e4
      subst e2 e3 e4
      exact ⟨c, setRow_heap w g cs c T _ hg, hc⟩
    · exact ⟨d, (setRow_other c (fun h => e h.symm)).trans hk, rfl⟩, fun k hk hs => by
    have e : k ≠ g := fun e => by
      subst e
      obtain ⟨d, ty, fr, e1, e2⟩ := hs h1 h2
      have := hg.symm.trans e1
      injection this with this
      injection this with _ e3 _
      subst e3
      rw [hT] at e2
      cases e2
    exact setRow_other c e⟩
/-- A row of the call's own keeps its shape. -/
theorem row_chg {lo hi : Nat} {S : TypeId → Bool} {W W' : World} {B : Nat} {T : TypeId} {n : Nat} {v : Value} {k : Nat} {xs : List Value} (h : W.ownsRow B T n v k xs) (hc : Chg lo hi S W W') : ∃ xs', W'.ownsRow B T n v k xs' := by
  rcases h.2 with ⟨h1, h2⟩ | ⟨g, cap, cur, h1, h2, h3, h4, h5, h6, h7⟩
  · refine ⟨[], ?_, .inl ⟨h1, h2⟩⟩
    rw [h2, Nat.zero_mul]; rfl
  · obtain ⟨c2, h8, h9⟩ := hc.shp g cur T _ h3
    refine ⟨c2.toList.take (k * n), ?_, .inr ⟨g, cap, c2, h1, h2, h8, h4, h5, h9.trans h6, rfl⟩⟩
    rw [List.length_take, Array.length_toList, h9, h6]
    exact Nat.min_eq_left (Nat.mul_le_mul_right _ h4)
/-- Of another type it is as it was. -/
theorem row_unchg {lo hi : Nat} {S : TypeId → Bool} {W W' : World} {B : Nat} {T : TypeId} {n : Nat} {v : Value} {k : Nat} {xs : List Value} (h : W.ownsRow B T n v k xs) (hc : Chg lo hi S W W') (hT : S T = false) : W'.ownsRow B T n v k xs := by
  refine row_stays h fun g h1 h2 h3 => hc.same g h3 fun _ _ => ?_
  rcases h.2 with ⟨h1, _⟩ | ⟨g', cap, cur, h1, _, h5, _⟩
  · rw [h1] at h2; cases h2
  · rw [h1] at h2
    have : g' = g := by simpa [Value.ownBlock] using h2
    subst this
    exact ⟨cur, T, _, h5, hT⟩
theorem own_unchg {lo hi : Nat} {S : TypeId → Bool} {W W' : World} {g : Nat} {T : TypeId} {cs : Array Value} (h : Own W g T cs) (hc : Chg lo hi S W W') (hT : S T = false) : Own W' g T cs :=
  (hc.same g h.lt fun _ _ => ⟨cs, T, _, h, hT⟩).trans h
/-- A row's block: where it is, what may be written. -/
theorem row_own {W : World} {B : Nat} {T : TypeId} {n : Nat} {v : Value} {k : Nat} {xs : List Value} (h : W.ownsRow B T n v k xs) (hk : 0 < k) : ∃ g cap cur, v = .slice (some ⟨g, 0, none⟩) k cap ∧ B ≤ g ∧ g < W.heap.size ∧ Own W g T cur ∧ k * n ≤ cur.size := by
  rcases h.2 with ⟨_, h1⟩ | ⟨g, cap, cur, h1, h2, h3, h4, h5, h6, h7⟩
  · omega
  · refine ⟨g, cap, cur, h1, h2, (Array.getElem?_eq_some_iff.1 h3).1, h3, ?_⟩
    rw [h6]
    exact Nat.mul_le_mul_right _ h4
theorem row_ownq {W : World} {B : Nat} {T : TypeId} {n : Nat} {v : Value} {k : Nat} {xs : List Value} (h : W.ownsRow B T n v k xs) (hk : 0 < k) : ∃ g q cap cur, q = 0 ∧ v = .slice (some ⟨g, q, none⟩) k cap ∧ B ≤ g ∧ g < W.heap.size ∧ Own W g T cur ∧ k * n ≤ cur.size := by
  obtain ⟨g, cap, cur, h1, h2, h3, h4, h5⟩ := row_own h hk
  exact ⟨g, 0, cap, cur, rfl, h1, h2, h3, h4, h5⟩
theorem own_there {W : World} {g : Nat} {T : TypeId} {cs : Array Value} (h : Own W g T cs) (o n : Nat) (hn : o + n ≤ cs.size) : W.there g o n := fun j hj => by
  refine ⟨?_, own_frozen h (o + j)⟩
  rw [cell_of_row W g (o + j) cs T _ h, Array.getElem?_eq_getElem (by omega)]
  rfl
section
variable {P : Program} {lo hi : Nat} {S : TypeId → Bool} {w : World}
/-- An append to a row of one's own: what it changes. -/
theorem run_append_chg (base : Nat) (t ty e : TypeId) (i : TypeInfo) (z : Value) (size bytes : Nat) (ht : P.underlying t = some (.slice e)) (hi' : P.info? e = some i) (hz : i.zero = some z)
    (hsize : i.size = size) (hby : i.bytes = bytes) (hzs : z.cells.size = size) (hsz : 0 < size)
    (v : Value) (n : Nat) (xs : List Value) (hown : w.ownsRow base e size v n xs) (hlo : lo ≤ base) (hhi : ∀ k, v.ownBlock = some k → k < hi) (hS : S e = true)
    (a : Addr) (m c : Nat) (news : List Value) (hl : news.length = m * size) (hnews : ∀ j u, news[j]? = some u → w.cell? (a.add j) = some u) (h1 : ∀ u ∈ news, u.oneCell' = true)
    (h63 : n + m ≤ maxLen) (hbytes : (n + m) * bytes ≤ 140737488355328) (hbase : base ≤ w.heap.size) (hm : 0 < m) :
    ∃ v' w', (Builtin.append_ #[t, t] ty #[v, .slice (some a) m c]).run P w = .ok v' w' ∧ w'.ownsRow base e size v' (n + m) (xs ++ news) ∧ Chg lo hi S w w' := by
  obtain ⟨v', w', hr, h2, h3, _⟩ := run_append_own (P := P) w base t ty e i z size bytes ht hi' hz hsize hby hzs hsz v n xs hown a m c news hl hnews h1 h63 hbytes hbase
  refine ⟨v', w', hr, h2, ?_⟩
  have hsmall : n + m ≤ 9223372036854775807 := by simp only [maxLen] at h63; omega
  have hbel : (∀ k, k < w.heap.size → w'.heap[k]? = w.heap[k]?) → Chg lo hi S w w' := fun h => Chg.ofBelow ⟨h3.os, h3.tape, h3.output, h3.size, h⟩
  rcases hown.2 with ⟨e1, e2⟩ | ⟨g, cap, cur, e1, e2, e3, e4, e5, e6, e7⟩
  · refine hbel fun k hk => h3.block k hk ?_
    rw [e1]
    simp [Value.ownBlock]
  · subst e1
    have hgl := e3
    by_cases hroom : n + m ≤ cap
    · subst hsize
      have hfit : n * i.size + news.length ≤ cur.size := by rw [hl, e6, ← Nat.add_mul]; exact Nat.mul_le_mul_right _ hroom
      have hr2 := run_append_room (P := P) w t ty e i ht hi' g n cap cur e3 a m c news hl hnews h1 hroom hfit
      rw [hr2] at hr
      injection hr with _ hw
      subst hw
      refine Chg.setRow e3 (Nat.le_trans hlo e2) (hhi g rfl) hS _ ?_
      simp only [List.size_toArray, List.length_append, List.length_take, List.length_drop, Array.length_toList]
      omega
    · subst hsize hby
      have holds : ∀ j u, xs[j]? = some u → w.cell? ((⟨g, 0, none⟩ : Addr).add j) = some u := hown.cells (g := g) rfl
      have hr2 := run_append_grow (P := P) w t ty e i z ht hi' hz ⟨g, 0, none⟩ n cap xs hown.1 holds a m c news hl hnews (by omega) (by omega) (growslice_fits (by omega) hbytes)
      rw [hr2] at hr
      injection hr with _ hw
      subst hw
      exact hbel fun k hk => by first | exact heap_alloc_old w.drew _ k hk | exact heap_alloc_old w.drew _ hk
theorem wp_append_chg {o : Oper} {a : Act} {K : Act → World → Prop} {Q : Exit → Act → World → Prop} (s x : Operand) (t : TypeId)
    (ho : o.op = .call { callee := .builtin .append, args := #[s, x], argTypes := #[t, t] })
    (base : Nat) (e : TypeId) (i : TypeInfo) (z : Value) (size bytes : Nat) (ht : P.underlying t = some (.slice e)) (hi' : P.info? e = some i) (hz : i.zero = some z)
    (hsize : i.size = size) (hby : i.bytes = bytes) (hzs : z.cells.size = size) (hsz : 0 < size)
    (v : Value) (n : Nat) (xs : List Value) (hs : a.eval s = v) (hown : w.ownsRow base e size v n xs) (hlo : lo ≤ base) (hhi : ∀ k, v.ownBlock = some k → k < hi) (hS : S e = true)
    (ad : Addr) (m c : Nat) (news : List Value) (hx : a.eval x = .slice (some ad) m c) (hl : news.length = m * size) (hnews : ∀ j u, news[j]? = some u → w.cell? (ad.add j) = some u) (h1 : ∀ u ∈ news, u.oneCell' = true)
    (h63 : n + m ≤ maxLen) (hbytes : (n + m) * bytes ≤ 140737488355328) (hbase : base ≤ w.heap.size) (hm : 0 < m)
    (h : ∀ v' w', w'.ownsRow base e size v' (n + m) (xs ++ news) → Chg lo hi S w w' → K (a.put o.dst v') w') : o.wp P a w K Q := by
  obtain ⟨v', w', hr, h2, h3⟩ := run_append_chg (P := P) base t o.type e i z size bytes ht hi' hz hsize hby hzs hsz v n xs hown hlo hhi hS ad m c news hl hnews h1 h63 hbytes hbase hm
  unfold Oper.wp execOp
  simp only [ho, resolve, invoke, builtin, Sem.run_bind, Sem.run_pure, Result.andThen_ok, List.map_toArray, List.map_cons, List.map_nil, hs, hx, hr]
  exact h v' w' h2 h3
theorem wpList_append_chg {ops : Array Oper} {rest : List Oper} {o : Oper} {a : Act} {Q : Exit → Act → World → Prop} (hgd : o.guard = none) (s x : Operand) (t : TypeId)
    (ho : o.op = .call { callee := .builtin .append, args := #[s, x], argTypes := #[t, t] })
    (base : Nat) (e : TypeId) (i : TypeInfo) (z : Value) (size bytes : Nat) (ht : P.underlying t = some (.slice e)) (hi' : P.info? e = some i) (hz : i.zero = some z)
    (hsize : i.size = size) (hby : i.bytes = bytes) (hzs : z.cells.size = size) (hsz : 0 < size)
    (v : Value) (n : Nat) (xs : List Value) (hs : a.eval s = v) (hown : w.ownsRow base e size v n xs) (hlo : lo ≤ base) (hhi : ∀ k, v.ownBlock = some k → k < hi) (hS : S e = true)
    (ad : Addr) (m c : Nat) (news : List Value) (hx : a.eval x = .slice (some ad) m c) (hl : news.length = m * size) (hnews : ∀ j u, news[j]? = some u → w.cell? (ad.add j) = some u) (h1 : ∀ u ∈ news, u.oneCell' = true)
    (h63 : n + m ≤ maxLen) (hbytes : (n + m) * bytes ≤ 140737488355328) (hbase : base ≤ w.heap.size) (hm : 0 < m)
    (h : ∀ v' w', w'.ownsRow base e size v' (n + m) (xs ++ news) → Chg lo hi S w w' → wpList P ops Q rest (a.put o.dst v') w') : wpList P ops Q (o :: rest) a w :=
  wpList_plain hgd fun _ hK => wp_append_chg s x t ho base e i z size bytes ht hi' hz hsize hby hzs hsz v n xs hs hown hlo hhi hS ad m c news hx hl hnews h1 h63 hbytes hbase hm fun v' w' h2 h3 => hK _ _ (h v' w' h2 h3)
end
end Go.Proofs.YtgmcfinjlddgbaaGreatDoor

/- TargetCut, walked. -/
import Derived.Test.YtgmcfinjlddgbaaGreatDoorRsm
import Derived.Laws.OwnMore
import Derived.Test.YtgmcfinjlddgbaaGreatDoorDrz
import Derived.Test.YtgmcfinjlddgbaaGreatDoorDra
import Derived.Test.YtgmcfinjlddgbaaGreatDoorTw5
import Derived.Deep.DeepAppendWide
namespace Go.Proofs.YtgmcfinjlddgbaaGreatDoor
open Go.RowKit
set_option linter.unusedVariables false
set_option maxRecDepth 100000
theorem run_append_nilc {P : Program} {w : World} (base : Nat) (t ty e : TypeId) (i : TypeInfo) (size : Nat) (c : Nat) (ht : P.underlying t = some (.slice e)) (hi : P.info? e = some i)
    (v : Value) (n : Nat) (xs : List Value) (hown : w.ownsRow base e size v n xs) :
    (Builtin.append_ #[t, t] ty #[v, .slice none 0 c]).run P w = .ok v w := by
  rcases hown.2 with ⟨rfl, rfl⟩ | ⟨g, cap, cur, rfl, _, _, hnc, _⟩
  · simp [Builtin.append_, run_underlying ht, sizeOf, typeInfo, hi, Builtin.lenOf, Builtin.firstCells]
  · simp [Builtin.append_, run_underlying ht, sizeOf, typeInfo, hi, Builtin.lenOf, Builtin.firstCells, hnc, storeCells]
section
variable {P : Program} {w : World}
/-- append(v, l...), l nil or not. -/
theorem wp_append_list {o : Oper} {a : Act} {K : Act → World → Prop} {Q : Exit → Act → World → Prop} (s x : Operand) (t : TypeId)
    (ho : o.op = .call { callee := .builtin .append, args := #[s, x], argTypes := #[t, t] })
    (base : Nat) (e : TypeId) (i : TypeInfo) (z : Value) (size bytes : Nat) (ht : P.underlying t = some (.slice e)) (hi : P.info? e = some i) (hz : i.zero = some z)
    (hsize : i.size = size) (hby : i.bytes = bytes) (hzs : z.cells.size = size) (hsz : 0 < size)
    (v : Value) (n : Nat) (xs : List Value) (hs : a.eval s = v) (hown : w.ownsRow base e size v n xs)
    (ad : Option Addr) (m c : Nat) (news : List Value) (hx : a.eval x = .slice ad m c) (hl : news.length = m * size) (hnews : (ad = none ∧ m = 0) ∨ ∃ d, ad = some d ∧ ∀ j u, news[j]? = some u → w.cell? (d.add j) = some u) (h1 : ∀ u ∈ news, u.oneCell' = true)
    (h63 : n + m ≤ maxLen) (hbytes : (n + m) * bytes ≤ 140737488355328) (hbase : base ≤ w.heap.size)
    (h : ∀ v' w', w'.ownsRow base e size v' (n + m) (xs ++ news) → w.grownBy w' v.ownBlock → K (a.put o.dst v') w') : o.wp P a w K Q := by
  rcases hnews with ⟨rfl, rfl⟩ | ⟨d, rfl, hd⟩
  · have hn0 : news = [] := List.eq_nil_of_length_eq_zero (by rw [hl, Nat.zero_mul])
    subst hn0
    have hr := run_append_nilc (P := P) (w := w) base t o.type e i size c ht hi v n xs hown
    unfold Oper.wp execOp
    simp only [ho, resolve, invoke, builtin, Sem.run_bind, Sem.run_pure, Result.andThen_ok, List.map_toArray, List.map_cons, List.map_nil, hs, hx, hr]
    exact h v w (by rw [Nat.add_zero, List.append_nil]; exact hown) ⟨rfl, rfl, rfl, Nat.le_refl _, fun _ _ _ => rfl⟩
  · exact wp_append_own w s x t ho base e i z size bytes ht hi hz hsize hby hzs hsz v n xs hs hown d m c news hx hl hd h1 h63 hbytes hbase fun v' w' h2 h3 _ => h v' w' h2 h3
theorem wpList_append_list {ops : Array Oper} {rest : List Oper} {o : Oper} {a : Act} {Q : Exit → Act → World → Prop} (hgd : o.guard = none) (s x : Operand) (t : TypeId)
    (ho : o.op = .call { callee := .builtin .append, args := #[s, x], argTypes := #[t, t] })
    (base : Nat) (e : TypeId) (i : TypeInfo) (z : Value) (size bytes : Nat) (ht : P.underlying t = some (.slice e)) (hi : P.info? e = some i) (hz : i.zero = some z)
    (hsize : i.size = size) (hby : i.bytes = bytes) (hzs : z.cells.size = size) (hsz : 0 < size)
    (v : Value) (n : Nat) (xs : List Value) (hs : a.eval s = v) (hown : w.ownsRow base e size v n xs)
    (ad : Option Addr) (m c : Nat) (news : List Value) (hx : a.eval x = .slice ad m c) (hl : news.length = m * size) (hnews : (ad = none ∧ m = 0) ∨ ∃ d, ad = some d ∧ ∀ j u, news[j]? = some u → w.cell? (d.add j) = some u) (h1 : ∀ u ∈ news, u.oneCell' = true)
    (h63 : n + m ≤ maxLen) (hbytes : (n + m) * bytes ≤ 140737488355328) (hbase : base ≤ w.heap.size)
    (h : ∀ v' w', w'.ownsRow base e size v' (n + m) (xs ++ news) → w.grownBy w' v.ownBlock → wpList P ops Q rest (a.put o.dst v') w') : wpList P ops Q (o :: rest) a w :=
  wpList_plain hgd fun _ hK => wp_append_list s x t ho base e i z size bytes ht hi hz hsize hby hzs hsz v n xs hs hown ad m c news hx hl hnews h1 h63 hbytes hbase fun v' w' h2 h3 => hK _ _ (h v' w' h2 h3)
end
theorem addr_add (g q j : Nat) : (⟨g, q, none⟩ : Addr).add j = ⟨g, q + j, none⟩ := by unfold Addr.add; split <;> simp_all
theorem ints_news {W : World} {l : List Int} {a : Option Addr} (h : intsAt W l a) : (a = none ∧ l.length = 0) ∨ ∃ d, a = some d ∧ ∀ j u, (l.map fun x => Value.int .i64 x)[j]? = some u → W.cell? (d.add j) = some u := by
  cases a with
  | none =>
    rcases h with rfl | ⟨g, q, e, _⟩
    · exact .inl ⟨rfl, rfl⟩
    · cases e
  | some d =>
    refine .inr ⟨d, rfl, fun j u hj => ?_⟩
    rcases h with rfl | ⟨g, q, e, h⟩
    · simp at hj
    · injection e with e
      subst e
      rw [List.getElem?_map] at hj
      obtain ⟨x, hx, rfl⟩ := Option.map_eq_some_iff.1 hj
      rw [addr_add]
      exact h j x hx
theorem flatI_inv : ∀ (l : List Ins) (j : Nat) (u : Value), (flatI l)[j]? = some u → ∃ i m, l[j / 9]? = some i ∧ (insC i)[m]? = some u ∧ j = j / 9 * 9 + m
  | [], j, u, h => by simp [flatI] at h
  | x :: l, j, u, h => by
    have h9 : (insC x).length = 9 := rfl
    simp only [flatI, List.flatMap_cons] at h
    by_cases hj : j < 9
    · rw [List.getElem?_append_left (by omega)] at h
      have e : j / 9 = 0 := by omega
      rw [e]
      exact ⟨x, j, rfl, h, by omega⟩
    · rw [List.getElem?_append_right (by omega), h9] at h
      obtain ⟨i, m, h1, h2, h3⟩ := flatI_inv l (j - 9) u h
      have e : j / 9 = (j - 9) / 9 + 1 := by omega
      refine ⟨i, m, ?_, h2, by omega⟩
      rw [e]
      simpa using h1
theorem ins_news {W : World} {l : List Ins} {a : Option Addr} (h : insAt W l a) : (a = none ∧ l.length = 0) ∨ ∃ d, a = some d ∧ ∀ j u, (flatI l)[j]? = some u → W.cell? (d.add j) = some u := by
  cases a with
  | none =>
    rcases h with rfl | ⟨g, q, e, _⟩
    · exact .inl ⟨rfl, rfl⟩
    · cases e
  | some d =>
    refine .inr ⟨d, rfl, fun j u hj => ?_⟩
    rcases h with rfl | ⟨g, q, e, h⟩
    · simp [flatI] at hj
    · injection e with e
      subst e
      obtain ⟨i, m, h1, h2, h3⟩ := flatI_inv l j u hj
      rw [addr_add, h3]
      have := h (j / 9) i h1 m u h2
      rwa [Nat.add_assoc] at this
theorem flatI_one (l : List Ins) : ∀ u ∈ flatI l, u.oneCell' = true := by
  intro u hu
  unfold flatI at hu
  obtain ⟨i, _, hi⟩ := List.mem_flatMap.1 hu
  simp only [insC, List.mem_cons, List.not_mem_nil, or_false] at hi
  rcases hi with rfl | rfl | rfl | rfl | rfl | rfl | rfl | rfl | rfl <;> rfl
theorem ints_one (l : List Int) : ∀ u ∈ l.map (fun x => Value.int .i64 x), u.oneCell' = true := by
  intro u hu
  obtain ⟨x, _, rfl⟩ := List.mem_map.1 hu
  rfl
/-- What is copied, so far. -/
structure CpL (B : Nat) (cs : List Cor) (v : Value) (L : List (Cor × Value)) (W : World) : Prop where
  fst : L.map Prod.fst = cs
  cors : W.ownsRow B 64 2 v L.length (flatC L)
  rows : ∀ x ∈ L, W.ownsRow B 25 9 x.2 x.1.code.length (flatI x.1.code)
theorem CpL.below {B : Nat} {cs : List Cor} {v : Value} {L : List (Cor × Value)} {W W' : World} (h : CpL B cs v L W) (hb : Below W.heap.size W W') : CpL B cs v L W' := ⟨h.fst, row_below h.cors hb, fun x hx => row_below (h.rows x hx) hb⟩
theorem CpL.keep {B p : Nat} {cs : List Cor} {v : Value} {L : List (Cor × Value)} {W W' : World} (h : CpL B cs v L W) {ty : TypeId} {row : Array Value} (hp : Own W p ty row) (t1 : (64 == ty) = false) (t2 : (25 == ty) = false) (hk : Keep (fun k _ => k ≠ p) W W') : CpL B cs v L W' :=
  ⟨h.fst, row_keep h.cors (row_apart h.cors hp t1) hk, fun x hx => row_keep (h.rows x hx) (row_apart (h.rows x hx) hp t2) hk⟩
/-- One core more. -/
theorem CpL.more {B : Nat} {cs : List Cor} {v v' : Value} {L : List (Cor × Value)} {W W' : World} (h : CpL B cs v L W) (c : Cor) (u : Value) (hu : W.ownsRow B 25 9 u c.code.length (flatI c.code)) (hg : W.grownBy W' v.ownBlock) (hr : W'.ownsRow B 64 2 v' (L.length + 1) (flatC L ++ [.string c.name, u])) : CpL B (cs ++ [c]) v' (L ++ [(c, u)]) W' := by
  have hrow : ∀ {x : Cor × Value}, W.ownsRow B 25 9 x.2 x.1.code.length (flatI x.1.code) → W'.ownsRow B 25 9 x.2 x.1.code.length (flatI x.1.code) := fun hx => row_stays hx fun b _ hb hl => hg.block b hl (fun e => row_apart2 h.cors hx rfl b hb e.symm)
  refine ⟨by rw [List.map_append, h.fst]; rfl, by rw [List.length_append, flatC_app]; exact hr, fun x hx => ?_⟩
  rcases List.mem_append.1 hx with hx | hx
  · exact hrow (h.rows x hx)
  · obtain rfl : x = (c, u) := by simpa using hx
    exact hrow hu
theorem CpL.at {B : Nat} {cs : List Cor} {v : Value} {L : List (Cor × Value)} {W : World} (h : CpL B cs v L W) : ∃ a c, v = .slice a cs.length c ∧ corsAt W cs a := by
  have hlen : cs.length = L.length := by rw [← h.fst, List.length_map]
  obtain ⟨a5, c5, rfl⟩ := row_slice h.cors
  refine ⟨a5, c5, by rw [hlen], ?_⟩
  by_cases h0 : L = []
  · left
    rw [← h.fst, h0]
    rfl
  · obtain ⟨gb, cap, e, _, h2⟩ := row_at h.cors (List.length_pos_iff.2 h0)
    right
    injection e with e1 e2 e3
    refine ⟨gb, 0, e1, fun j c hj => ?_⟩
    rw [← h.fst, List.getElem?_map] at hj
    obtain ⟨x, hx, rfl⟩ := Option.map_eq_some_iff.1 hj
    obtain ⟨f1, f2⟩ := flatC_get L j x hx
    obtain ⟨a2, c2, e4, h4⟩ := row_insAt (h.rows x (List.mem_of_getElem? hx))
    rw [Nat.zero_add]
    exact ⟨h2 _ _ f1, a2, c2, by rw [h2 _ _ f2, e4], h4⟩
end Go.Proofs.YtgmcfinjlddgbaaGreatDoor
namespace Go.Proofs.YtgmcfinjlddgbaaGreatDoor
open Go.RowKit
set_option linter.unusedVariables false
set_option maxRecDepth 100000
theorem row_cap {W : World} {B : Nat} {T : TypeId} {n : Nat} {a : Option Addr} {m c : Nat} {xs : List Value} (h : W.ownsRow B T n (.slice a m c) m xs) : m ≤ c ∧ c ≤ 9223372036854775807 := by
  have hml : maxLen ≤ 9223372036854775807 := by unfold maxLen; decide
  rcases h.2 with ⟨h1, h2⟩ | ⟨g, cap, cur, h1, h2, h3, h4, h5, _⟩
  · injection h1 with e1 e2 e3
    omega
  · injection h1 with e1 e2 e3
    omega
theorem bysAt_take {W : World} {l : List UInt8} {a : Option Addr} (h : bysAt W l a) (k : Nat) : bysAt W (l.take k) a := by
  rcases h with h | ⟨g, q, e, h⟩
  · exact .inl (by rw [h, List.take_nil])
  · refine .inr ⟨g, q, e, fun j x hj => ?_⟩
    rw [List.getElem?_take] at hj
    split at hj
    · exact h j x hj
    · cases hj
theorem byteCells_get {l : List UInt8} {j : Nat} {u : Value} (h : (Lib.byteCells l)[j]? = some u) : ∃ x : UInt8, l[j]? = some x ∧ u = .int .u8 (x.toNat : Int) := by
  unfold Lib.byteCells at h
  rw [List.getElem?_map] at h
  obtain ⟨x, hx, rfl⟩ := Option.map_eq_some_iff.1 h
  exact ⟨x, hx, rfl⟩
theorem bys_news {W : World} {l : List UInt8} {a : Option Addr} (h : bysAt W l a) : (a = none ∧ l.length = 0) ∨ ∃ d, a = some d ∧ ∀ j u, (Lib.byteCells l)[j]? = some u → W.cell? (d.add j) = some u := by
  cases a with
  | none =>
    rcases h with rfl | ⟨g, q, e, _⟩
    · exact .inl ⟨rfl, rfl⟩
    · cases e
  | some d =>
    refine .inr ⟨d, rfl, fun j u hj => ?_⟩
    obtain ⟨x, hx, rfl⟩ := byteCells_get hj
    rcases h with rfl | ⟨g, q, e, h⟩
    · simp at hx
    · injection e with e
      subst e
      rw [addr_addD]
      exact h j x hx
structure Sw (w : World) (ro : Array Value) (l : List UInt8) (a : Option Addr) (X : World) : Prop where
  ob : Own X w.heap.size 29 ro
  by_ : bysAt X l a
  bel : Below w.heap.size w X
theorem Sw.below {w X Y : World} {ro : Array Value} {l : List UInt8} {a : Option Addr} (h : Sw w ro l a X) (hb : Below X.heap.size X Y) : Sw w ro l a Y := ⟨h.ob.below hb, bysAt_below h.by_ hb, h.bel.trans (hb.mono h.bel.size)⟩
set_option maxHeartbeats 16000000 in
theorem cut_walk (o : Ob) (k : Int) (more : List UInt8) (am : Option Addr) (cm : Nat) (hg : rgO o) (hf : fitO o) (hk0 : -9223372036854775808 ≤ k ∧ k ≤ 9223372036854775807) (hml : more.length ≤ 140737488351232) (hmc : more.length ≤ cm) (hcm : cm ≤ 9223372036854775807) {v : Value} {w : World} (hv : obA w o v) (hmo : bysAt w more am) (T : TgT w) (P : PwT w) :
    Calls Tryz.prog 9 #[v, .int .i64 k, .slice am more.length cm] w fun e w' => e = .returned (.bool true) ∧ Below w.heap.size w w' := by
  have HTT : Hid (∀ X, Below w.heap.size w X → TgT X ∧ PwT X) := fun X h => ⟨T.below h, P.below h⟩
  have HBG : Hid (∀ X, Below w.heap.size w X → Calls Tryz.prog 18 #[] X fun e w' => e = .returned (.bool true) ∧ Below X.heap.size X w') := fun X h => begins_any X (HTT.out X h).1 (HTT.out X h).2
  have HEN : Hid (∀ X, Below w.heap.size w X → Calls Tryz.prog 32 #[v] X (EncP o X)) := fun X h => encode_any o hg hf (obA_below hv h) (HTT.out X h).1
  have HPR : Hid (∀ X, Below w.heap.size w X → Calls Tryz.prog 30 #[v] X fun e w' => e = prtE (prtO o) ∧ Below X.heap.size X w') := fun X h => print_any o hg hf (obA_below hv h) (HTT.out X h).1 (HTT.out X h).2
  have HPA : Hid (∀ X s, Below w.heap.size w X → Calls Tryz.prog 38 #[.string s] X (ParP X (parO s))) := fun X s h => t_Parse s X (HTT.out X h).1
  have HDE : Hid (∀ X (l : List UInt8) a c, Below w.heap.size w X → bysAt X l a → l.length ≤ c → l.length ≤ 1152921504606846976 → c ≤ 9223372036854775807 → Calls Tryz.prog 36 #[.slice a l.length c] X fun e w' => ∃ v, e = .returned (.tuple #[v, .int .i64 (decO l).2]) ∧ DcO X.heap.size (decO l).1 v w' ∧ Below X.heap.size X w') := fun X l a c h1 h2 h3 h4 h5 => t_Decode l h2 h3 h4 h5 (HTT.out X h1).1
  have HCK : Hid ((chkO o).1 = 0 → (∀ j, j < (encR o).length → (decO ((encR o).take j)).2 = 162) ∧ (more ≠ [] → (decO (encR o ++ more)).2 = 162)) := fun h => ⟨fun j hj => by rw [dec_cut hg h hj], fun hm => by rw [dec_more hg h hm]⟩
  have HCP : Hid ((chkO o).1 ≠ 0 → encR o = []) := fun h => by unfold encR; rw [if_neg h]
  have HPO : Hid ((chkO o).1 = 0 → prtO o = if (obT o).length > 16777216 then ([], 4) else (obT o, 0)) := fun h => by unfold prtO; rw [if_pos h]
  have HEL : Hid ((encR o).length ≤ 200000000) := enc_len o hg
  obtain ⟨a1, c1, a5, c5, rfl, _, _⟩ := hv
  obtain ⟨n1, hn1⟩ : ∃ n, n = o.mem.length := ⟨_, rfl⟩
  obtain ⟨n5, hn5⟩ : ∃ n, n = o.cores.length := ⟨_, rfl⟩
  simp only [obV] at HEN HPR ⊢
  rw [← hn1, ← hn5] at HEN HPR ⊢
  replace HEN : Hid (∀ X, Below w.heap.size w X → Calls Tryz.prog 32 #[.agg #[.slice a1 n1 c1, .int .i64 o.sh, .int .i64 o.lk, .int .i64 o.bf, .slice a5 n5 c5]] X fun e w' => ∃ a c, e = .returned (.tuple #[.slice a (encR o).length c, .int .i64 (chkO o).1]) ∧ Below X.heap.size X w' ∧ w'.ownsRow X.heap.size 5 1 (.slice a (encR o).length c) (encR o).length (Lib.byteCells (encR o))) := HEN.out
  generalize encR o = enc at HEN HCK HCP HEL
  generalize (chkO o).1 = er at HEN HCK HCP HPO
  generalize prtO o = pr at HPR HPO
  obtain ⟨pt, pe⟩ := pr
  replace HPR : Hid (∀ X, Below w.heap.size w X → Calls Tryz.prog 30 #[.agg #[.slice a1 n1 c1, .int .i64 o.sh, .int .i64 o.lk, .int .i64 o.bf, .slice a5 n5 c5]] X fun e w' => e = .returned (.tuple #[.string ⟨pt.toArray⟩, .int .i64 pe]) ∧ Below X.heap.size X w') := HPR.out
  generalize obT o = tx at HPO
  obtain ⟨sh, hsh⟩ : ∃ n, n = o.sh := ⟨_, rfl⟩
  obtain ⟨lk, hlk⟩ : ∃ n, n = o.lk := ⟨_, rfl⟩
  obtain ⟨bf, hbf⟩ : ∃ n, n = o.bf := ⟨_, rfl⟩
  rw [← hsh, ← hlk, ← hbf] at HEN HPR ⊢
  have O0 := Own.new w 29 #[.slice a1 n1 c1, .int .i64 sh, .int .i64 lk, .int .i64 bf, .slice a5 n5 c5]
  have B0 := (Below.refl _ w).alloc (Nat.le_refl _) (.cells #[.slice a1 n1 c1, .int .i64 sh, .int .i64 lk, .int .i64 bf, .slice a5 n5 c5] 29)
  obtain ⟨W0, hW0⟩ : ∃ W, W = w.alloc (.cells #[.slice a1 n1 c1, .int .i64 sh, .int .i64 lk, .int .i64 bf, .slice a5 n5 c5] 29) := ⟨_, rfl⟩
  rw [← hW0] at O0 B0
  have HW0 := Lib.hid hW0
  have HO0 := Lib.hid O0
  have HB0 := Lib.hid B0
  have HMO := Lib.hid hmo
  have HMC := Lib.hid (And.intro hml (And.intro hmc hcm))
  have HK0 := Lib.hid hk0
  clear hn1 hn5 hsh hlk hbf O0 B0 hW0 T P hg hf hmo hml hmc hcm hk0
  go_enter Tryz.func9, Tryz.ntmps9
  go_upto_region 1 with fail
  rw [← HW0.out]
  clear HW0
  go_upto_region 3 with (go_at_call 18; refine (HBG.out _ HB0.out).mono ?_; rintro e w1 ⟨rfl, hb⟩; have O1 := HO0.out.below hb; have HO1 := Lib.hid O1; have HB1 := Lib.hid (HB0.out.trans (hb.mono HB0.out.size)); clear hb)
  clear HO0 HB0 HBG
  go_upto_region 4 with (first | (go_at_call 32
                                  refine (HEN.out _ HB1.out).mono ?_
                                  rintro e w2 ⟨ab, cb, rfl, hb, hr⟩
                                  have hcp := row_cap hr
                                  have HCB := Lib.hid hcp
                                  obtain ⟨_, _, ee, hby⟩ := row_bys hr
                                  injection ee with e1 e2 e3
                                  subst e1
                                  have HS2 := Lib.hid (Sw.mk (HO1.out.below hb) hby (HB1.out.trans (hb.mono HB1.out.size)))
                                  have HRW := Lib.hid hr
                                  clear hb hr hcp hby e2 e3 O1) | (refine ld rowO rfl rfl rfl O1 rfl ?_))
  clear HO1 HB1 HEN
  by_cases her : er = 0
  · subst her
    have HC := Lib.hid (HCK.out rfl)
    have HP := Lib.hid (HPO.out rfl)
    clear HCK HCP HPO
    have hel := HEL.out
    have hk0 := HK0.out
    have hcb := HCB.out
    obtain ⟨ne, hne⟩ : ∃ n, n = enc.length := ⟨_, rfl⟩
    have HNE := Lib.hid hne
    go_upto_region 6 with (fail)
    by_cases hka : 0 ≤ k ∧ k < (enc.length : Int)
    · obtain ⟨kn, rfl⟩ : ∃ kn : Nat, k = (kn : Int) := ⟨k.toNat, by omega⟩
      have hkl : (kn : Int) < (enc.length : Int) := hka.2
      have hkl2 : kn ≤ cb := by omega
      have htl : (enc.take kn).length = kn := by rw [List.length_take]; omega
      have HD1 : Hid (Calls Tryz.prog 36 #[.slice ab kn cb] w2 fun e w' => ∃ v, e = .returned (.tuple #[v, .int .i64 162]) ∧ DcO w2.heap.size (decO (enc.take kn)).1 v w' ∧ Below w2.heap.size w2 w') := by
        have h := HDE.out w2 (enc.take kn) ab cb HS2.out.bel (bysAt_take HS2.out.by_ kn) (by rw [htl]; omega) (by rw [htl]; omega) hcb.2
        rw [htl, HC.out.1 kn (by omega)] at h
        exact h
      have HKL := Lib.hid hka
      clear hka htl
      go_upto_region 10 with (first | (go_at_call 36
                                       refine HD1.out.mono ?_
                                       rintro e w3 ⟨vd, rfl, ⟨x1, x5, Ld, rfl, hd⟩, hb⟩
                                       obtain ⟨xa, xc, rfl⟩ := row_slice hd.mem
                                       obtain ⟨xb, xd, rfl⟩ := row_slice hd.cors
                                       have hs3 := HS2.out.below hb
                                       have O3 := Own.new w3 29 #[.slice none 0 0, .int .i64 0, .int .i64 0, .int .i64 0, .slice none 0 0]
                                       have hbw := Below.of_row ((Below.refl _ w3).alloc (Nat.le_refl _) (.cells #[.slice none 0 0, .int .i64 0, .int .i64 0, .int .i64 0, .slice none 0 0] 29)) (Nat.le_refl _) #[.slice xa (decO (enc.take kn)).1.mem.length xc, .int .i64 (decO (enc.take kn)).1.sh, .int .i64 (decO (enc.take kn)).1.lk, .int .i64 (decO (enc.take kn)).1.bf, .slice xb Ld.length xd]
                                       have HS4 := Lib.hid (hs3.below hbw)
                                       clear hd hb hs3 hbw) | (refine st rowO rfl rfl O3 rfl rfl (by rfl) (by rfl) (by kernel_rfl) ?_))
      obtain ⟨wA, hwA⟩ : ∃ W, W = (w3.alloc (.cells #[.slice none 0 0, .int .i64 0, .int .i64 0, .int .i64 0, .slice none 0 0] 29)).setRow w3.heap.size #[.slice xa (decO (enc.take kn)).1.mem.length xc, .int .i64 (decO (enc.take kn)).1.sh, .int .i64 (decO (enc.take kn)).1.lk, .int .i64 (decO (enc.take kn)).1.bf, .slice xb Ld.length xd] := ⟨_, rfl⟩
      rw [← hwA] at HS4 ⊢
      have HSA := HS4
      clear hwA HS4 O3 HD1 hkl hkl2
      by_cases hmm : 0 < more.length
      · have hm1 : (0 : Int) < (more.length : Int) := by omega
        rcases bys_news HMO.out with ⟨_, h0⟩ | ⟨dm, rfl, hdm⟩
        · omega
        obtain ⟨iu, hiu, hu0, hu1, hu2⟩ := info_parts infoU8'
        have hown0 := World.ownsRow_lit (base := wA.heap.size) (e := 5) (size := 1) wA #[] 0 (Nat.le_refl _) (Nat.zero_le _) rfl
        have al9 := (Below.refl _ wA).alloc (Nat.le_refl _) (.cells #[] 5)
        have hbl : (Lib.byteCells enc).length = enc.length := by simp [Lib.byteCells]
        have hbm : (Lib.byteCells more).length = more.length := by simp [Lib.byteCells]
        have HNB := Lib.hid (bys_news (bysAt_below HSA.out.by_ al9))
        have hob : ∀ u ∈ Lib.byteCells enc, u.oneCell' = true := by simp [Lib.byteCells, Value.oneCell']
        have hom : ∀ u ∈ Lib.byteCells more, u.oneCell' = true := by simp [Lib.byteCells, Value.oneCell']
        have hel9 := HEL.out
        have hml9 := HMC.out.1
        have hls : wA.heap.size ≤ (wA.alloc (.cells #[] 5)).heap.size := al9.size
        have HOE := Lib.hid hown0
        have HAL := Lib.hid al9
        have HDM := Lib.hid hdm
        clear hown0 al9 hdm
        go_upto_region 14 with (first
          | fail
          | (at_builtin
             refine wpList_append_list rfl _ _ 50 rfl wA.heap.size 5 iu _ 1 1 Tryz.underlying50 hiu hu0 hu1 hu2 rfl (by decide) (.slice (some ⟨wA.heap.size, 0, none⟩) 0 0) 0 [] rfl ?_ ab enc.length cb (Lib.byteCells enc) rfl (by rw [hbl, Nat.mul_one]) ?_ hob (by simp only [maxLen]; omega) (by omega) hls ?_
             · exact HOE.out
             · exact HNB.out
             intro vf WF hrf hgf
             rw [Nat.zero_add, List.nil_append] at hrf
             obtain ⟨af, cf, rfl⟩ := row_slice hrf
             have HRF := Lib.hid hrf
             have hbF : Below wA.heap.size wA WF := by
               have hneB : ∀ k, k < wA.heap.size → some k ≠ (Value.slice (some ⟨wA.heap.size, 0, none⟩) 0 0).ownBlock := fun k hk e => by
                 have e2 : k = wA.heap.size := by simpa [Value.ownBlock] using e
                 omega
               exact ⟨hgf.os, hgf.tape, hgf.output, by have := hgf.size; rw [World.size_alloc] at this; omega, fun k hk => (hgf.block k (by rw [World.size_alloc]; omega) (hneB k hk)).trans (HAL.out.block k hk)⟩
             have HBF := Lib.hid hbF
             have HNM : Hid (∀ j u, (Lib.byteCells more)[j]? = some u → WF.cell? (dm.add j) = some u) := fun j u hj => by
               have hc := HDM.out j u hj
               have hbw := HSA.out.bel.trans (hbF.mono HSA.out.bel.size)
               exact (World.cell?_of_block (hbw.block _ (World.block_lt_of_cell? w _ hc))).trans hc
             have hbF2 : wA.heap.size ≤ WF.heap.size := hbF.size
             clear hrf hgf hbF)
          | (at_builtin
             refine wpList_append_own_wide _ rfl _ _ 50 rfl wA.heap.size 5 iu _ 1 1 Tryz.underlying50 hiu hu0 hu1 hu2 rfl (by decide) (.slice af enc.length cf) enc.length (Lib.byteCells enc) rfl ?_ dm more.length cm (Lib.byteCells more) rfl (by rw [hbm, Nat.mul_one]) ?_ hom (by simp only [maxLen]; omega) (by omega) hbF2 ?_
             · exact HRF.out
             · exact HNM.out
             intro vg WG hrg hgg _
             have hbG : Below wA.heap.size wA WG := ⟨hgg.os.trans HBF.out.os, hgg.tape.trans HBF.out.tape, hgg.output.trans HBF.out.output, Nat.le_trans hbF2 hgg.size, fun k hk => (hgg.block k (by omega) (fun e => by have := (HRF.out.lt k e.symm).1; omega)).trans (HBF.out.block k hk)⟩
             have hap : Lib.byteCells enc ++ Lib.byteCells more = Lib.byteCells (enc ++ more) := by simp [Lib.byteCells]
             rw [hap] at hrg
             obtain ⟨em, hem⟩ : ∃ l, l = enc ++ more := ⟨_, rfl⟩
             have hle : enc.length + more.length = em.length := by rw [hem]; simp
             rw [hle, ← hem] at hrg
             have hd9 : (decO em).2 = 162 := by rw [hem]; exact HC.out.2 (fun e => by rw [e] at hmm; simp at hmm)
             obtain ⟨ag, cg, rfl⟩ := row_slice hrg
             have hcg := row_cap hrg
             obtain ⟨_, _, e9, hbyg⟩ := row_bys hrg
             injection e9 with e91 e92 e93
             subst e91
             have HSG := Lib.hid (HSA.out.below hbG)
             have hdg := HDE.out WG em _ cg HSG.out.bel hbyg hcg.1 (by rw [← hle]; omega) hcg.2
             rw [hd9] at hdg
             have HDG := Lib.hid hdg
             clear hem hle hd9 hdg hrg hgg hbG hap hcg e92 e93 hbyg)
          | (go_at_call 36
             refine HDG.out.mono ?_
             rintro e wH ⟨vh, rfl, ⟨z1, z5, Lz, rfl, hdz⟩, hb⟩
             obtain ⟨za, zc, rfl⟩ := row_slice hdz.mem
             obtain ⟨zb, zd, rfl⟩ := row_slice hdz.cors
             have hs9 := HSG.out.below hb
             have O8 := Own.new wH 29 #[.slice none 0 0, .int .i64 0, .int .i64 0, .int .i64 0, .slice none 0 0]
             have hbw9 := Below.of_row ((Below.refl _ wH).alloc (Nat.le_refl _) (.cells #[.slice none 0 0, .int .i64 0, .int .i64 0, .int .i64 0, .slice none 0 0] 29)) (Nat.le_refl _) #[.slice za (decO em).1.mem.length zc, .int .i64 (decO em).1.sh, .int .i64 (decO em).1.lk, .int .i64 (decO em).1.bf, .slice zb Lz.length zd]
             have HS9 := Lib.hid (hs9.below hbw9)
             clear hdz hb hs9 hbw9)
          | (refine st rowO rfl rfl O8 rfl rfl (by rfl) (by rfl) (by kernel_rfl) ?_))
        obtain ⟨wB, hwB⟩ : ∃ W, W = (wH.alloc (.cells #[.slice none 0 0, .int .i64 0, .int .i64 0, .int .i64 0, .slice none 0 0] 29)).setRow wH.heap.size #[.slice za (decO em).1.mem.length zc, .int .i64 (decO em).1.sh, .int .i64 (decO em).1.lk, .int .i64 (decO em).1.bf, .slice zb Lz.length zd] := ⟨_, rfl⟩
        rw [← hwB] at HS9 ⊢
        have HSB := HS9
        clear hwB HS9 O8 HDG HSG HNM HBF HRF HDM HAL HOE HNB hob hom hbl hbm hls hm1 HSA
        have OB9 := HSB.out.ob
        go_upto_region 15 with (first | (go_at_call 30
                                         refine (HPR.out _ HSB.out.bel).mono ?_
                                         rintro e wP ⟨rfl, hb⟩
                                         have HSP := Lib.hid (HSB.out.below hb)
                                         clear hb) | (refine ld rowO rfl rfl rfl OB9 rfl ?_))
        clear OB9 HSB HPR
        by_cases hlen : tx.length > 16777216
        · have hp := HP.out
          rw [if_pos hlen] at hp
          simp only [Prod.mk.injEq] at hp
          obtain ⟨rfl, rfl⟩ := hp
          clear HP
          go_wp2_with (fail)
          go_ret
          exact ⟨rfl, HSP.out.bel⟩
        · have hp := HP.out
          rw [if_neg hlen] at hp
          simp only [Prod.mk.injEq] at hp
          obtain ⟨rfl, rfl⟩ := hp
          clear HP
          obtain ⟨ps, hps⟩ : ∃ s : ByteArray, s = ⟨pt.toArray⟩ := ⟨_, rfl⟩
          rw [← hps]
          have hpz : ps.size = pt.length := by rw [hps]; simp [ByteArray.size]
          have hpl : ps.data.toList = pt := by rw [hps]
          have HPL := Lib.hid hpl
          have hpb : ps.size ≤ 16777216 := by omega
          have HPZ := Lib.hid hpb
          clear hps hpl hlen
          by_cases hks : (kn : Int) < (ps.size : Int)
          · have hk7 : ¬ (kn : Int) < 0 := by omega
            have hk8 : ¬ (ps.size : Int) ≤ (kn : Int) := by omega
            have HPC : Hid ((kn = 0 ∨ ps.data.toList[kn - 1]? ≠ some 10) → Calls Tryz.prog 38 #[.string (ps.extract 0 kn)] wP fun e w' => ∃ v at', e = .returned (.tuple #[v, .int .i64 161, .int .i64 at']) ∧ ObOwn wP.heap.size (parO (ps.extract 0 kn)).1 v w' ∧ Below wP.heap.size wP w') := fun h => (HPA.out wP (ps.extract 0 kn) HSP.out.bel).mono fun e w' ⟨v, h1, h2, _, h4⟩ => by
              rw [par_cut ps kn (by omega) hpb h] at h1
              exact ⟨v, _, h1, h2, h4⟩
            by_cases hkp : 0 < kn
            · have hk6 : (0 : Int) < (kn : Int) := by omega
              have hpi : kn - 1 < ps.size := by omega
              by_cases hz : ((ps[kn - 1]'hpi).toNat : Int) = 10
              · have hz2 : (((ps[kn - 1]'hpi).toNat : Int) == 10) = true := by simpa using hz
                go_wp2_with (fail)
                go_ret
                exact ⟨rfl, HSP.out.bel⟩
              · have hz2 : (((ps[kn - 1]'hpi).toNat : Int) == 10) = false := by simpa using hz
                have HPD := Lib.hid (HPC.out (.inr (fun e => hz (by
                  have e2 : ps.data.toList[kn - 1]? = some (ps[kn - 1]'hpi) := by
                    rw [List.getElem?_eq_getElem (by rw [Array.length_toList]; exact hpi), Array.getElem_toList]
                    rfl
                  rw [e2] at e
                  injection e with e
                  rw [e]
                  rfl))))
                clear hz
                clear HPC HPL
                go_wp2_with (first | (go_at_call 38
                                      refine HPD.out.mono ?_
                                      rintro e wQ ⟨vq, at9, rfl, ⟨y1, y5, Ly, rfl, hrd⟩, hb⟩
                                      obtain ⟨ya, yc, rfl⟩ := row_slice hrd.mem
                                      obtain ⟨yb, yd, rfl⟩ := row_slice hrd.cors
                                      have HBQ := Lib.hid (HSP.out.bel.trans (hb.mono HSP.out.bel.size))
                                      have O9 := Own.new wQ 29 #[.slice none 0 0, .int .i64 0, .int .i64 0, .int .i64 0, .slice none 0 0]
                                      clear hrd hb) | (refine st rowO rfl rfl O9 rfl rfl (by rfl) (by rfl) (by kernel_rfl) ?_))
                go_ret
                exact ⟨rfl, Below.of_row (HBQ.out.alloc (by have := HBQ.out.size; omega) _) (by have := HBQ.out.size; omega) _⟩
            · have hk6 : ¬ (0 : Int) < (kn : Int) := by omega
              have HPD := Lib.hid (HPC.out (.inl (by omega)))
              clear HPC HPL
              go_wp2_with (first | (go_at_call 38
                                    refine HPD.out.mono ?_
                                    rintro e wQ ⟨vq, at9, rfl, ⟨y1, y5, Ly, rfl, hrd⟩, hb⟩
                                    obtain ⟨ya, yc, rfl⟩ := row_slice hrd.mem
                                    obtain ⟨yb, yd, rfl⟩ := row_slice hrd.cors
                                    have HBQ := Lib.hid (HSP.out.bel.trans (hb.mono HSP.out.bel.size))
                                    have O9 := Own.new wQ 29 #[.slice none 0 0, .int .i64 0, .int .i64 0, .int .i64 0, .slice none 0 0]
                                    clear hrd hb) | (refine st rowO rfl rfl O9 rfl rfl (by rfl) (by rfl) (by kernel_rfl) ?_))
              go_ret
              exact ⟨rfl, Below.of_row (HBQ.out.alloc (by have := HBQ.out.size; omega) _) (by have := HBQ.out.size; omega) _⟩
          · have hk7 : ¬ (kn : Int) < 0 := by omega
            have hk8 : (ps.size : Int) ≤ (kn : Int) := by omega
            go_wp2_with (fail)
            go_ret
            exact ⟨rfl, HSP.out.bel⟩
      · have hm0 : ¬ (0 : Int) < (more.length : Int) := by omega
        have HSB := HSA
        go_upto_region 14 with (fail)
        clear hm0 hmm HSA
        have OB9 := HSB.out.ob
        go_upto_region 15 with (first | (go_at_call 30
                                         refine (HPR.out _ HSB.out.bel).mono ?_
                                         rintro e wP ⟨rfl, hb⟩
                                         have HSP := Lib.hid (HSB.out.below hb)
                                         clear hb) | (refine ld rowO rfl rfl rfl OB9 rfl ?_))
        clear OB9 HSB HPR
        by_cases hlen : tx.length > 16777216
        · have hp := HP.out
          rw [if_pos hlen] at hp
          simp only [Prod.mk.injEq] at hp
          obtain ⟨rfl, rfl⟩ := hp
          clear HP
          go_wp2_with (fail)
          go_ret
          exact ⟨rfl, HSP.out.bel⟩
        · have hp := HP.out
          rw [if_neg hlen] at hp
          simp only [Prod.mk.injEq] at hp
          obtain ⟨rfl, rfl⟩ := hp
          clear HP
          obtain ⟨ps, hps⟩ : ∃ s : ByteArray, s = ⟨pt.toArray⟩ := ⟨_, rfl⟩
          rw [← hps]
          have hpz : ps.size = pt.length := by rw [hps]; simp [ByteArray.size]
          have hpl : ps.data.toList = pt := by rw [hps]
          have HPL := Lib.hid hpl
          have hpb : ps.size ≤ 16777216 := by omega
          have HPZ := Lib.hid hpb
          clear hps hpl hlen
          by_cases hks : (kn : Int) < (ps.size : Int)
          · have hk7 : ¬ (kn : Int) < 0 := by omega
            have hk8 : ¬ (ps.size : Int) ≤ (kn : Int) := by omega
            have HPC : Hid ((kn = 0 ∨ ps.data.toList[kn - 1]? ≠ some 10) → Calls Tryz.prog 38 #[.string (ps.extract 0 kn)] wP fun e w' => ∃ v at', e = .returned (.tuple #[v, .int .i64 161, .int .i64 at']) ∧ ObOwn wP.heap.size (parO (ps.extract 0 kn)).1 v w' ∧ Below wP.heap.size wP w') := fun h => (HPA.out wP (ps.extract 0 kn) HSP.out.bel).mono fun e w' ⟨v, h1, h2, _, h4⟩ => by
              rw [par_cut ps kn (by omega) hpb h] at h1
              exact ⟨v, _, h1, h2, h4⟩
            by_cases hkp : 0 < kn
            · have hk6 : (0 : Int) < (kn : Int) := by omega
              have hpi : kn - 1 < ps.size := by omega
              by_cases hz : ((ps[kn - 1]'hpi).toNat : Int) = 10
              · have hz2 : (((ps[kn - 1]'hpi).toNat : Int) == 10) = true := by simpa using hz
                go_wp2_with (fail)
                go_ret
                exact ⟨rfl, HSP.out.bel⟩
              · have hz2 : (((ps[kn - 1]'hpi).toNat : Int) == 10) = false := by simpa using hz
                have HPD := Lib.hid (HPC.out (.inr (fun e => hz (by
                  have e2 : ps.data.toList[kn - 1]? = some (ps[kn - 1]'hpi) := by
                    rw [List.getElem?_eq_getElem (by rw [Array.length_toList]; exact hpi), Array.getElem_toList]
                    rfl
                  rw [e2] at e
                  injection e with e
                  rw [e]
                  rfl))))
                clear hz
                clear HPC HPL
                go_wp2_with (first | (go_at_call 38
                                      refine HPD.out.mono ?_
                                      rintro e wQ ⟨vq, at9, rfl, ⟨y1, y5, Ly, rfl, hrd⟩, hb⟩
                                      obtain ⟨ya, yc, rfl⟩ := row_slice hrd.mem
                                      obtain ⟨yb, yd, rfl⟩ := row_slice hrd.cors
                                      have HBQ := Lib.hid (HSP.out.bel.trans (hb.mono HSP.out.bel.size))
                                      have O9 := Own.new wQ 29 #[.slice none 0 0, .int .i64 0, .int .i64 0, .int .i64 0, .slice none 0 0]
                                      clear hrd hb) | (refine st rowO rfl rfl O9 rfl rfl (by rfl) (by rfl) (by kernel_rfl) ?_))
                go_ret
                exact ⟨rfl, Below.of_row (HBQ.out.alloc (by have := HBQ.out.size; omega) _) (by have := HBQ.out.size; omega) _⟩
            · have hk6 : ¬ (0 : Int) < (kn : Int) := by omega
              have HPD := Lib.hid (HPC.out (.inl (by omega)))
              clear HPC HPL
              go_wp2_with (first | (go_at_call 38
                                    refine HPD.out.mono ?_
                                    rintro e wQ ⟨vq, at9, rfl, ⟨y1, y5, Ly, rfl, hrd⟩, hb⟩
                                    obtain ⟨ya, yc, rfl⟩ := row_slice hrd.mem
                                    obtain ⟨yb, yd, rfl⟩ := row_slice hrd.cors
                                    have HBQ := Lib.hid (HSP.out.bel.trans (hb.mono HSP.out.bel.size))
                                    have O9 := Own.new wQ 29 #[.slice none 0 0, .int .i64 0, .int .i64 0, .int .i64 0, .slice none 0 0]
                                    clear hrd hb) | (refine st rowO rfl rfl O9 rfl rfl (by rfl) (by rfl) (by kernel_rfl) ?_))
              go_ret
              exact ⟨rfl, Below.of_row (HBQ.out.alloc (by have := HBQ.out.size; omega) _) (by have := HBQ.out.size; omega) _⟩
          · have hk7 : ¬ (kn : Int) < 0 := by omega
            have hk8 : (ps.size : Int) ≤ (kn : Int) := by omega
            go_wp2_with (fail)
            go_ret
            exact ⟨rfl, HSP.out.bel⟩
    · have hra : Below w2.heap.size w2 w2 := Below.refl _ _
      obtain ⟨wA, hwA⟩ : ∃ W, W = w2 := ⟨_, rfl⟩
      have HSA : Hid (Sw w #[.slice a1 n1 c1, .int .i64 sh, .int .i64 lk, .int .i64 bf, .slice a5 n5 c5] enc ab wA) := by rw [Hid, hwA]; exact HS2.out
      rw [← hwA]
      clear hwA hra
      by_cases hkn : k < 0
      · have hk9 : ¬ (0 : Int) ≤ k := by omega
        clear hka
        go_upto_region 10 with (fail)
        clear hk9
        by_cases hmm : 0 < more.length
        · have hm1 : (0 : Int) < (more.length : Int) := by omega
          rcases bys_news HMO.out with ⟨_, h0⟩ | ⟨dm, rfl, hdm⟩
          · omega
          obtain ⟨iu, hiu, hu0, hu1, hu2⟩ := info_parts infoU8'
          have hown0 := World.ownsRow_lit (base := wA.heap.size) (e := 5) (size := 1) wA #[] 0 (Nat.le_refl _) (Nat.zero_le _) rfl
          have al9 := (Below.refl _ wA).alloc (Nat.le_refl _) (.cells #[] 5)
          have hbl : (Lib.byteCells enc).length = enc.length := by simp [Lib.byteCells]
          have hbm : (Lib.byteCells more).length = more.length := by simp [Lib.byteCells]
          have HNB := Lib.hid (bys_news (bysAt_below HSA.out.by_ al9))
          have hob : ∀ u ∈ Lib.byteCells enc, u.oneCell' = true := by simp [Lib.byteCells, Value.oneCell']
          have hom : ∀ u ∈ Lib.byteCells more, u.oneCell' = true := by simp [Lib.byteCells, Value.oneCell']
          have hel9 := HEL.out
          have hml9 := HMC.out.1
          have hls : wA.heap.size ≤ (wA.alloc (.cells #[] 5)).heap.size := al9.size
          have HOE := Lib.hid hown0
          have HAL := Lib.hid al9
          have HDM := Lib.hid hdm
          clear hown0 al9 hdm
          go_upto_region 14 with (first
            | fail
            | (at_builtin
               refine wpList_append_list rfl _ _ 50 rfl wA.heap.size 5 iu _ 1 1 Tryz.underlying50 hiu hu0 hu1 hu2 rfl (by decide) (.slice (some ⟨wA.heap.size, 0, none⟩) 0 0) 0 [] rfl ?_ ab enc.length cb (Lib.byteCells enc) rfl (by rw [hbl, Nat.mul_one]) ?_ hob (by simp only [maxLen]; omega) (by omega) hls ?_
               · exact HOE.out
               · exact HNB.out
               intro vf WF hrf hgf
               rw [Nat.zero_add, List.nil_append] at hrf
               obtain ⟨af, cf, rfl⟩ := row_slice hrf
               have HRF := Lib.hid hrf
               have hbF : Below wA.heap.size wA WF := by
                 have hneB : ∀ k, k < wA.heap.size → some k ≠ (Value.slice (some ⟨wA.heap.size, 0, none⟩) 0 0).ownBlock := fun k hk e => by
                   have e2 : k = wA.heap.size := by simpa [Value.ownBlock] using e
                   omega
                 exact ⟨hgf.os, hgf.tape, hgf.output, by have := hgf.size; rw [World.size_alloc] at this; omega, fun k hk => (hgf.block k (by rw [World.size_alloc]; omega) (hneB k hk)).trans (HAL.out.block k hk)⟩
               have HBF := Lib.hid hbF
               have HNM : Hid (∀ j u, (Lib.byteCells more)[j]? = some u → WF.cell? (dm.add j) = some u) := fun j u hj => by
                 have hc := HDM.out j u hj
                 have hbw := HSA.out.bel.trans (hbF.mono HSA.out.bel.size)
                 exact (World.cell?_of_block (hbw.block _ (World.block_lt_of_cell? w _ hc))).trans hc
               have hbF2 : wA.heap.size ≤ WF.heap.size := hbF.size
               clear hrf hgf hbF)
            | (at_builtin
               refine wpList_append_own_wide _ rfl _ _ 50 rfl wA.heap.size 5 iu _ 1 1 Tryz.underlying50 hiu hu0 hu1 hu2 rfl (by decide) (.slice af enc.length cf) enc.length (Lib.byteCells enc) rfl ?_ dm more.length cm (Lib.byteCells more) rfl (by rw [hbm, Nat.mul_one]) ?_ hom (by simp only [maxLen]; omega) (by omega) hbF2 ?_
               · exact HRF.out
               · exact HNM.out
               intro vg WG hrg hgg _
               have hbG : Below wA.heap.size wA WG := ⟨hgg.os.trans HBF.out.os, hgg.tape.trans HBF.out.tape, hgg.output.trans HBF.out.output, Nat.le_trans hbF2 hgg.size, fun k hk => (hgg.block k (by omega) (fun e => by have := (HRF.out.lt k e.symm).1; omega)).trans (HBF.out.block k hk)⟩
               have hap : Lib.byteCells enc ++ Lib.byteCells more = Lib.byteCells (enc ++ more) := by simp [Lib.byteCells]
               rw [hap] at hrg
               obtain ⟨em, hem⟩ : ∃ l, l = enc ++ more := ⟨_, rfl⟩
               have hle : enc.length + more.length = em.length := by rw [hem]; simp
               rw [hle, ← hem] at hrg
               have hd9 : (decO em).2 = 162 := by rw [hem]; exact HC.out.2 (fun e => by rw [e] at hmm; simp at hmm)
               obtain ⟨ag, cg, rfl⟩ := row_slice hrg
               have hcg := row_cap hrg
               obtain ⟨_, _, e9, hbyg⟩ := row_bys hrg
               injection e9 with e91 e92 e93
               subst e91
               have HSG := Lib.hid (HSA.out.below hbG)
               have hdg := HDE.out WG em _ cg HSG.out.bel hbyg hcg.1 (by rw [← hle]; omega) hcg.2
               rw [hd9] at hdg
               have HDG := Lib.hid hdg
               clear hem hle hd9 hdg hrg hgg hbG hap hcg e92 e93 hbyg)
            | (go_at_call 36
               refine HDG.out.mono ?_
               rintro e wH ⟨vh, rfl, ⟨z1, z5, Lz, rfl, hdz⟩, hb⟩
               obtain ⟨za, zc, rfl⟩ := row_slice hdz.mem
               obtain ⟨zb, zd, rfl⟩ := row_slice hdz.cors
               have hs9 := HSG.out.below hb
               have O8 := Own.new wH 29 #[.slice none 0 0, .int .i64 0, .int .i64 0, .int .i64 0, .slice none 0 0]
               have hbw9 := Below.of_row ((Below.refl _ wH).alloc (Nat.le_refl _) (.cells #[.slice none 0 0, .int .i64 0, .int .i64 0, .int .i64 0, .slice none 0 0] 29)) (Nat.le_refl _) #[.slice za (decO em).1.mem.length zc, .int .i64 (decO em).1.sh, .int .i64 (decO em).1.lk, .int .i64 (decO em).1.bf, .slice zb Lz.length zd]
               have HS9 := Lib.hid (hs9.below hbw9)
               clear hdz hb hs9 hbw9)
            | (refine st rowO rfl rfl O8 rfl rfl (by rfl) (by rfl) (by kernel_rfl) ?_))
          obtain ⟨wB, hwB⟩ : ∃ W, W = (wH.alloc (.cells #[.slice none 0 0, .int .i64 0, .int .i64 0, .int .i64 0, .slice none 0 0] 29)).setRow wH.heap.size #[.slice za (decO em).1.mem.length zc, .int .i64 (decO em).1.sh, .int .i64 (decO em).1.lk, .int .i64 (decO em).1.bf, .slice zb Lz.length zd] := ⟨_, rfl⟩
          rw [← hwB] at HS9 ⊢
          have HSB := HS9
          clear hwB HS9 O8 HDG HSG HNM HBF HRF HDM HAL HOE HNB hob hom hbl hbm hls hm1 HSA
          have OB9 := HSB.out.ob
          go_upto_region 15 with (first | (go_at_call 30
                                           refine (HPR.out _ HSB.out.bel).mono ?_
                                           rintro e wP ⟨rfl, hb⟩
                                           have HSP := Lib.hid (HSB.out.below hb)
                                           clear hb) | (refine ld rowO rfl rfl rfl OB9 rfl ?_))
          clear OB9 HSB HPR
          by_cases hlen : tx.length > 16777216
          · have hp := HP.out
            rw [if_pos hlen] at hp
            simp only [Prod.mk.injEq] at hp
            obtain ⟨rfl, rfl⟩ := hp
            clear HP
            go_wp2_with (fail)
            go_ret
            exact ⟨rfl, HSP.out.bel⟩
          · have hp := HP.out
            rw [if_neg hlen] at hp
            simp only [Prod.mk.injEq] at hp
            obtain ⟨rfl, rfl⟩ := hp
            clear HP
            obtain ⟨ps, hps⟩ : ∃ s : ByteArray, s = ⟨pt.toArray⟩ := ⟨_, rfl⟩
            rw [← hps]
            have hpz : ps.size = pt.length := by rw [hps]; simp [ByteArray.size]
            have hpl : ps.data.toList = pt := by rw [hps]
            have HPL := Lib.hid hpl
            have hpb : ps.size ≤ 16777216 := by omega
            have HPZ := Lib.hid hpb
            clear hps hpl hlen
            have hk9 : k < 0 := by omega
            go_wp2_with (fail)
            go_ret
            exact ⟨rfl, HSP.out.bel⟩
        · have hm0 : ¬ (0 : Int) < (more.length : Int) := by omega
          have HSB := HSA
          go_upto_region 14 with (fail)
          clear hm0 hmm HSA
          have OB9 := HSB.out.ob
          go_upto_region 15 with (first | (go_at_call 30
                                           refine (HPR.out _ HSB.out.bel).mono ?_
                                           rintro e wP ⟨rfl, hb⟩
                                           have HSP := Lib.hid (HSB.out.below hb)
                                           clear hb) | (refine ld rowO rfl rfl rfl OB9 rfl ?_))
          clear OB9 HSB HPR
          by_cases hlen : tx.length > 16777216
          · have hp := HP.out
            rw [if_pos hlen] at hp
            simp only [Prod.mk.injEq] at hp
            obtain ⟨rfl, rfl⟩ := hp
            clear HP
            go_wp2_with (fail)
            go_ret
            exact ⟨rfl, HSP.out.bel⟩
          · have hp := HP.out
            rw [if_neg hlen] at hp
            simp only [Prod.mk.injEq] at hp
            obtain ⟨rfl, rfl⟩ := hp
            clear HP
            obtain ⟨ps, hps⟩ : ∃ s : ByteArray, s = ⟨pt.toArray⟩ := ⟨_, rfl⟩
            rw [← hps]
            have hpz : ps.size = pt.length := by rw [hps]; simp [ByteArray.size]
            have hpl : ps.data.toList = pt := by rw [hps]
            have HPL := Lib.hid hpl
            have hpb : ps.size ≤ 16777216 := by omega
            have HPZ := Lib.hid hpb
            clear hps hpl hlen
            have hk9 : k < 0 := by omega
            go_wp2_with (fail)
            go_ret
            exact ⟨rfl, HSP.out.bel⟩
      · have hk9 : (0 : Int) ≤ k := by omega
        have hk8 : ¬ k < (enc.length : Int) := by omega
        clear hka
        go_upto_region 10 with (fail)
        clear hk8
        by_cases hmm : 0 < more.length
        · have hm1 : (0 : Int) < (more.length : Int) := by omega
          rcases bys_news HMO.out with ⟨_, h0⟩ | ⟨dm, rfl, hdm⟩
          · omega
          obtain ⟨iu, hiu, hu0, hu1, hu2⟩ := info_parts infoU8'
          have hown0 := World.ownsRow_lit (base := wA.heap.size) (e := 5) (size := 1) wA #[] 0 (Nat.le_refl _) (Nat.zero_le _) rfl
          have al9 := (Below.refl _ wA).alloc (Nat.le_refl _) (.cells #[] 5)
          have hbl : (Lib.byteCells enc).length = enc.length := by simp [Lib.byteCells]
          have hbm : (Lib.byteCells more).length = more.length := by simp [Lib.byteCells]
          have HNB := Lib.hid (bys_news (bysAt_below HSA.out.by_ al9))
          have hob : ∀ u ∈ Lib.byteCells enc, u.oneCell' = true := by simp [Lib.byteCells, Value.oneCell']
          have hom : ∀ u ∈ Lib.byteCells more, u.oneCell' = true := by simp [Lib.byteCells, Value.oneCell']
          have hel9 := HEL.out
          have hml9 := HMC.out.1
          have hls : wA.heap.size ≤ (wA.alloc (.cells #[] 5)).heap.size := al9.size
          have HOE := Lib.hid hown0
          have HAL := Lib.hid al9
          have HDM := Lib.hid hdm
          clear hown0 al9 hdm
          go_upto_region 14 with (first
            | fail
            | (at_builtin
               refine wpList_append_list rfl _ _ 50 rfl wA.heap.size 5 iu _ 1 1 Tryz.underlying50 hiu hu0 hu1 hu2 rfl (by decide) (.slice (some ⟨wA.heap.size, 0, none⟩) 0 0) 0 [] rfl ?_ ab enc.length cb (Lib.byteCells enc) rfl (by rw [hbl, Nat.mul_one]) ?_ hob (by simp only [maxLen]; omega) (by omega) hls ?_
               · exact HOE.out
               · exact HNB.out
               intro vf WF hrf hgf
               rw [Nat.zero_add, List.nil_append] at hrf
               obtain ⟨af, cf, rfl⟩ := row_slice hrf
               have HRF := Lib.hid hrf
               have hbF : Below wA.heap.size wA WF := by
                 have hneB : ∀ k, k < wA.heap.size → some k ≠ (Value.slice (some ⟨wA.heap.size, 0, none⟩) 0 0).ownBlock := fun k hk e => by
                   have e2 : k = wA.heap.size := by simpa [Value.ownBlock] using e
                   omega
                 exact ⟨hgf.os, hgf.tape, hgf.output, by have := hgf.size; rw [World.size_alloc] at this; omega, fun k hk => (hgf.block k (by rw [World.size_alloc]; omega) (hneB k hk)).trans (HAL.out.block k hk)⟩
               have HBF := Lib.hid hbF
               have HNM : Hid (∀ j u, (Lib.byteCells more)[j]? = some u → WF.cell? (dm.add j) = some u) := fun j u hj => by
                 have hc := HDM.out j u hj
                 have hbw := HSA.out.bel.trans (hbF.mono HSA.out.bel.size)
                 exact (World.cell?_of_block (hbw.block _ (World.block_lt_of_cell? w _ hc))).trans hc
               have hbF2 : wA.heap.size ≤ WF.heap.size := hbF.size
               clear hrf hgf hbF)
            | (at_builtin
               refine wpList_append_own_wide _ rfl _ _ 50 rfl wA.heap.size 5 iu _ 1 1 Tryz.underlying50 hiu hu0 hu1 hu2 rfl (by decide) (.slice af enc.length cf) enc.length (Lib.byteCells enc) rfl ?_ dm more.length cm (Lib.byteCells more) rfl (by rw [hbm, Nat.mul_one]) ?_ hom (by simp only [maxLen]; omega) (by omega) hbF2 ?_
               · exact HRF.out
               · exact HNM.out
               intro vg WG hrg hgg _
               have hbG : Below wA.heap.size wA WG := ⟨hgg.os.trans HBF.out.os, hgg.tape.trans HBF.out.tape, hgg.output.trans HBF.out.output, Nat.le_trans hbF2 hgg.size, fun k hk => (hgg.block k (by omega) (fun e => by have := (HRF.out.lt k e.symm).1; omega)).trans (HBF.out.block k hk)⟩
               have hap : Lib.byteCells enc ++ Lib.byteCells more = Lib.byteCells (enc ++ more) := by simp [Lib.byteCells]
               rw [hap] at hrg
               obtain ⟨em, hem⟩ : ∃ l, l = enc ++ more := ⟨_, rfl⟩
               have hle : enc.length + more.length = em.length := by rw [hem]; simp
               rw [hle, ← hem] at hrg
               have hd9 : (decO em).2 = 162 := by rw [hem]; exact HC.out.2 (fun e => by rw [e] at hmm; simp at hmm)
               obtain ⟨ag, cg, rfl⟩ := row_slice hrg
               have hcg := row_cap hrg
               obtain ⟨_, _, e9, hbyg⟩ := row_bys hrg
               injection e9 with e91 e92 e93
               subst e91
               have HSG := Lib.hid (HSA.out.below hbG)
               have hdg := HDE.out WG em _ cg HSG.out.bel hbyg hcg.1 (by rw [← hle]; omega) hcg.2
               rw [hd9] at hdg
               have HDG := Lib.hid hdg
               clear hem hle hd9 hdg hrg hgg hbG hap hcg e92 e93 hbyg)
            | (go_at_call 36
               refine HDG.out.mono ?_
               rintro e wH ⟨vh, rfl, ⟨z1, z5, Lz, rfl, hdz⟩, hb⟩
               obtain ⟨za, zc, rfl⟩ := row_slice hdz.mem
               obtain ⟨zb, zd, rfl⟩ := row_slice hdz.cors
               have hs9 := HSG.out.below hb
               have O8 := Own.new wH 29 #[.slice none 0 0, .int .i64 0, .int .i64 0, .int .i64 0, .slice none 0 0]
               have hbw9 := Below.of_row ((Below.refl _ wH).alloc (Nat.le_refl _) (.cells #[.slice none 0 0, .int .i64 0, .int .i64 0, .int .i64 0, .slice none 0 0] 29)) (Nat.le_refl _) #[.slice za (decO em).1.mem.length zc, .int .i64 (decO em).1.sh, .int .i64 (decO em).1.lk, .int .i64 (decO em).1.bf, .slice zb Lz.length zd]
               have HS9 := Lib.hid (hs9.below hbw9)
               clear hdz hb hs9 hbw9)
            | (refine st rowO rfl rfl O8 rfl rfl (by rfl) (by rfl) (by kernel_rfl) ?_))
          obtain ⟨wB, hwB⟩ : ∃ W, W = (wH.alloc (.cells #[.slice none 0 0, .int .i64 0, .int .i64 0, .int .i64 0, .slice none 0 0] 29)).setRow wH.heap.size #[.slice za (decO em).1.mem.length zc, .int .i64 (decO em).1.sh, .int .i64 (decO em).1.lk, .int .i64 (decO em).1.bf, .slice zb Lz.length zd] := ⟨_, rfl⟩
          rw [← hwB] at HS9 ⊢
          have HSB := HS9
          clear hwB HS9 O8 HDG HSG HNM HBF HRF HDM HAL HOE HNB hob hom hbl hbm hls hm1 HSA
          have OB9 := HSB.out.ob
          go_upto_region 15 with (first | (go_at_call 30
                                           refine (HPR.out _ HSB.out.bel).mono ?_
                                           rintro e wP ⟨rfl, hb⟩
                                           have HSP := Lib.hid (HSB.out.below hb)
                                           clear hb) | (refine ld rowO rfl rfl rfl OB9 rfl ?_))
          clear OB9 HSB HPR
          by_cases hlen : tx.length > 16777216
          · have hp := HP.out
            rw [if_pos hlen] at hp
            simp only [Prod.mk.injEq] at hp
            obtain ⟨rfl, rfl⟩ := hp
            clear HP
            go_wp2_with (fail)
            go_ret
            exact ⟨rfl, HSP.out.bel⟩
          · have hp := HP.out
            rw [if_neg hlen] at hp
            simp only [Prod.mk.injEq] at hp
            obtain ⟨rfl, rfl⟩ := hp
            clear HP
            obtain ⟨ps, hps⟩ : ∃ s : ByteArray, s = ⟨pt.toArray⟩ := ⟨_, rfl⟩
            rw [← hps]
            have hpz : ps.size = pt.length := by rw [hps]; simp [ByteArray.size]
            have hpl : ps.data.toList = pt := by rw [hps]
            have HPL := Lib.hid hpl
            have hpb : ps.size ≤ 16777216 := by omega
            have HPZ := Lib.hid hpb
            clear hps hpl hlen
            obtain ⟨kn, rfl⟩ : ∃ kn : Nat, k = (kn : Int) := ⟨k.toNat, by omega⟩
            by_cases hks : (kn : Int) < (ps.size : Int)
            · have hk7 : ¬ (kn : Int) < 0 := by omega
              have hk8 : ¬ (ps.size : Int) ≤ (kn : Int) := by omega
              have HPC : Hid ((kn = 0 ∨ ps.data.toList[kn - 1]? ≠ some 10) → Calls Tryz.prog 38 #[.string (ps.extract 0 kn)] wP fun e w' => ∃ v at', e = .returned (.tuple #[v, .int .i64 161, .int .i64 at']) ∧ ObOwn wP.heap.size (parO (ps.extract 0 kn)).1 v w' ∧ Below wP.heap.size wP w') := fun h => (HPA.out wP (ps.extract 0 kn) HSP.out.bel).mono fun e w' ⟨v, h1, h2, _, h4⟩ => by
                rw [par_cut ps kn (by omega) hpb h] at h1
                exact ⟨v, _, h1, h2, h4⟩
              by_cases hkp : 0 < kn
              · have hk6 : (0 : Int) < (kn : Int) := by omega
                have hpi : kn - 1 < ps.size := by omega
                by_cases hz : ((ps[kn - 1]'hpi).toNat : Int) = 10
                · have hz2 : (((ps[kn - 1]'hpi).toNat : Int) == 10) = true := by simpa using hz
                  go_wp2_with (fail)
                  go_ret
                  exact ⟨rfl, HSP.out.bel⟩
                · have hz2 : (((ps[kn - 1]'hpi).toNat : Int) == 10) = false := by simpa using hz
                  have HPD := Lib.hid (HPC.out (.inr (fun e => hz (by
                    have e2 : ps.data.toList[kn - 1]? = some (ps[kn - 1]'hpi) := by
                      rw [List.getElem?_eq_getElem (by rw [Array.length_toList]; exact hpi), Array.getElem_toList]
                      rfl
                    rw [e2] at e
                    injection e with e
                    rw [e]
                    rfl))))
                  clear hz
                  clear HPC HPL
                  go_wp2_with (first | (go_at_call 38
                                        refine HPD.out.mono ?_
                                        rintro e wQ ⟨vq, at9, rfl, ⟨y1, y5, Ly, rfl, hrd⟩, hb⟩
                                        obtain ⟨ya, yc, rfl⟩ := row_slice hrd.mem
                                        obtain ⟨yb, yd, rfl⟩ := row_slice hrd.cors
                                        have HBQ := Lib.hid (HSP.out.bel.trans (hb.mono HSP.out.bel.size))
                                        have O9 := Own.new wQ 29 #[.slice none 0 0, .int .i64 0, .int .i64 0, .int .i64 0, .slice none 0 0]
                                        clear hrd hb) | (refine st rowO rfl rfl O9 rfl rfl (by rfl) (by rfl) (by kernel_rfl) ?_))
                  go_ret
                  exact ⟨rfl, Below.of_row (HBQ.out.alloc (by have := HBQ.out.size; omega) _) (by have := HBQ.out.size; omega) _⟩
              · have hk6 : ¬ (0 : Int) < (kn : Int) := by omega
                have HPD := Lib.hid (HPC.out (.inl (by omega)))
                clear HPC HPL
                go_wp2_with (first | (go_at_call 38
                                      refine HPD.out.mono ?_
                                      rintro e wQ ⟨vq, at9, rfl, ⟨y1, y5, Ly, rfl, hrd⟩, hb⟩
                                      obtain ⟨ya, yc, rfl⟩ := row_slice hrd.mem
                                      obtain ⟨yb, yd, rfl⟩ := row_slice hrd.cors
                                      have HBQ := Lib.hid (HSP.out.bel.trans (hb.mono HSP.out.bel.size))
                                      have O9 := Own.new wQ 29 #[.slice none 0 0, .int .i64 0, .int .i64 0, .int .i64 0, .slice none 0 0]
                                      clear hrd hb) | (refine st rowO rfl rfl O9 rfl rfl (by rfl) (by rfl) (by kernel_rfl) ?_))
                go_ret
                exact ⟨rfl, Below.of_row (HBQ.out.alloc (by have := HBQ.out.size; omega) _) (by have := HBQ.out.size; omega) _⟩
            · have hk7 : ¬ (kn : Int) < 0 := by omega
              have hk8 : (ps.size : Int) ≤ (kn : Int) := by omega
              go_wp2_with (fail)
              go_ret
              exact ⟨rfl, HSP.out.bel⟩
        · have hm0 : ¬ (0 : Int) < (more.length : Int) := by omega
          have HSB := HSA
          go_upto_region 14 with (fail)
          clear hm0 hmm HSA
          have OB9 := HSB.out.ob
          go_upto_region 15 with (first | (go_at_call 30
                                           refine (HPR.out _ HSB.out.bel).mono ?_
                                           rintro e wP ⟨rfl, hb⟩
                                           have HSP := Lib.hid (HSB.out.below hb)
                                           clear hb) | (refine ld rowO rfl rfl rfl OB9 rfl ?_))
          clear OB9 HSB HPR
          by_cases hlen : tx.length > 16777216
          · have hp := HP.out
            rw [if_pos hlen] at hp
            simp only [Prod.mk.injEq] at hp
            obtain ⟨rfl, rfl⟩ := hp
            clear HP
            go_wp2_with (fail)
            go_ret
            exact ⟨rfl, HSP.out.bel⟩
          · have hp := HP.out
            rw [if_neg hlen] at hp
            simp only [Prod.mk.injEq] at hp
            obtain ⟨rfl, rfl⟩ := hp
            clear HP
            obtain ⟨ps, hps⟩ : ∃ s : ByteArray, s = ⟨pt.toArray⟩ := ⟨_, rfl⟩
            rw [← hps]
            have hpz : ps.size = pt.length := by rw [hps]; simp [ByteArray.size]
            have hpl : ps.data.toList = pt := by rw [hps]
            have HPL := Lib.hid hpl
            have hpb : ps.size ≤ 16777216 := by omega
            have HPZ := Lib.hid hpb
            clear hps hpl hlen
            obtain ⟨kn, rfl⟩ : ∃ kn : Nat, k = (kn : Int) := ⟨k.toNat, by omega⟩
            by_cases hks : (kn : Int) < (ps.size : Int)
            · have hk7 : ¬ (kn : Int) < 0 := by omega
              have hk8 : ¬ (ps.size : Int) ≤ (kn : Int) := by omega
              have HPC : Hid ((kn = 0 ∨ ps.data.toList[kn - 1]? ≠ some 10) → Calls Tryz.prog 38 #[.string (ps.extract 0 kn)] wP fun e w' => ∃ v at', e = .returned (.tuple #[v, .int .i64 161, .int .i64 at']) ∧ ObOwn wP.heap.size (parO (ps.extract 0 kn)).1 v w' ∧ Below wP.heap.size wP w') := fun h => (HPA.out wP (ps.extract 0 kn) HSP.out.bel).mono fun e w' ⟨v, h1, h2, _, h4⟩ => by
                rw [par_cut ps kn (by omega) hpb h] at h1
                exact ⟨v, _, h1, h2, h4⟩
              by_cases hkp : 0 < kn
              · have hk6 : (0 : Int) < (kn : Int) := by omega
                have hpi : kn - 1 < ps.size := by omega
                by_cases hz : ((ps[kn - 1]'hpi).toNat : Int) = 10
                · have hz2 : (((ps[kn - 1]'hpi).toNat : Int) == 10) = true := by simpa using hz
                  go_wp2_with (fail)
                  go_ret
                  exact ⟨rfl, HSP.out.bel⟩
                · have hz2 : (((ps[kn - 1]'hpi).toNat : Int) == 10) = false := by simpa using hz
                  have HPD := Lib.hid (HPC.out (.inr (fun e => hz (by
                    have e2 : ps.data.toList[kn - 1]? = some (ps[kn - 1]'hpi) := by
                      rw [List.getElem?_eq_getElem (by rw [Array.length_toList]; exact hpi), Array.getElem_toList]
                      rfl
                    rw [e2] at e
                    injection e with e
                    rw [e]
                    rfl))))
                  clear hz
                  clear HPC HPL
                  go_wp2_with (first | (go_at_call 38
                                        refine HPD.out.mono ?_
                                        rintro e wQ ⟨vq, at9, rfl, ⟨y1, y5, Ly, rfl, hrd⟩, hb⟩
                                        obtain ⟨ya, yc, rfl⟩ := row_slice hrd.mem
                                        obtain ⟨yb, yd, rfl⟩ := row_slice hrd.cors
                                        have HBQ := Lib.hid (HSP.out.bel.trans (hb.mono HSP.out.bel.size))
                                        have O9 := Own.new wQ 29 #[.slice none 0 0, .int .i64 0, .int .i64 0, .int .i64 0, .slice none 0 0]
                                        clear hrd hb) | (refine st rowO rfl rfl O9 rfl rfl (by rfl) (by rfl) (by kernel_rfl) ?_))
                  go_ret
                  exact ⟨rfl, Below.of_row (HBQ.out.alloc (by have := HBQ.out.size; omega) _) (by have := HBQ.out.size; omega) _⟩
              · have hk6 : ¬ (0 : Int) < (kn : Int) := by omega
                have HPD := Lib.hid (HPC.out (.inl (by omega)))
                clear HPC HPL
                go_wp2_with (first | (go_at_call 38
                                      refine HPD.out.mono ?_
                                      rintro e wQ ⟨vq, at9, rfl, ⟨y1, y5, Ly, rfl, hrd⟩, hb⟩
                                      obtain ⟨ya, yc, rfl⟩ := row_slice hrd.mem
                                      obtain ⟨yb, yd, rfl⟩ := row_slice hrd.cors
                                      have HBQ := Lib.hid (HSP.out.bel.trans (hb.mono HSP.out.bel.size))
                                      have O9 := Own.new wQ 29 #[.slice none 0 0, .int .i64 0, .int .i64 0, .int .i64 0, .slice none 0 0]
                                      clear hrd hb) | (refine st rowO rfl rfl O9 rfl rfl (by rfl) (by rfl) (by kernel_rfl) ?_))
                go_ret
                exact ⟨rfl, Below.of_row (HBQ.out.alloc (by have := HBQ.out.size; omega) _) (by have := HBQ.out.size; omega) _⟩
            · have hk7 : ¬ (kn : Int) < 0 := by omega
              have hk8 : (ps.size : Int) ≤ (kn : Int) := by omega
              go_wp2_with (fail)
              go_ret
              exact ⟨rfl, HSP.out.bel⟩
  · have hen := HCP.out her
    have hq : (er != 0) = true := by simpa using her
    have hl0 : ((enc.length : Int) == 0) = true := by rw [hen]; rfl
    have HS := HS2
    clear HCK HCP HPO her hen
    go_wp2_with (fail)
    go_ret
    exact ⟨rfl, HS.out.bel⟩
end Go.Proofs.YtgmcfinjlddgbaaGreatDoor

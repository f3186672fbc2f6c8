/- How big what a law's arguments hold may be. -/
import Derived.Test.YtmpljhfinmfnbaaDoorB0
import Derived.Test.YtmpljhfinmfnbaaDoorB1
import Derived.Test.YtmpljhfinmfnbaaDoorGt1
import Derived.Test.YtmpljhfinmfnbaaDoorLw
import Derived.Test.YtmpljhfinmfnbaaDoorGo0
import Derived.Test.YtmpljhfinmfnbaaDoorProg
import Derived.WalkKit
import Derived.Below
import Derived.ChangeArms
import Derived.SizedLaws
import Derived.Carry
import Derived.ChangeSame
import Derived.WideShapes
import Derived.Test.YtmpljhfinmfnbaaDoorFw
namespace Go.Proofs.YtmpljhfinmfnbaaDoor
open Go.ChangeShapes Go.WideShapes Go.ChangeAt Go.WideMaps Go.WideElems Go.RowKit
set_option linter.unusedVariables false
set_option maxRecDepth 100000
/-- Cells behind one another. -/
def cellsIn (w : World) (b off : Nat) (vs : List Value) : Prop := ∀ j v, vs[j]? = some v → w.cell? ⟨b, off + j, none⟩ = some v
section
variable {H : Type} {enc : TypeId × Value → H} {W : World} {sp : Nat → Bool} {held : Bool}
theorem add_off (g off n : Nat) : (⟨g, off, none⟩ : Addr).add n = ⟨g, off + n, none⟩ := by
  by_cases h0 : n = 0
  · subst h0; rfl
  · simp [Addr.add, h0]
end
def sumL {α : Type} (mu : α → Nat) : List α → Nat | [] => 0 | x :: r => mu x + sumL mu r
theorem sum_len {α : Type} {mu : α → Nat} (h : ∀ x, 1 ≤ mu x) : ∀ l, l.length ≤ sumL mu l
  | [] => Nat.zero_le _
  | x :: r => by have := h x; have := sum_len h r; simp only [sumL, List.length_cons]; omega
theorem sum_mem {α : Type} {mu : α → Nat} : ∀ {l : List α} {x : α}, x ∈ l → mu x ≤ sumL mu l
  | y :: r, x, h => by
    simp only [sumL]
    rcases List.mem_cons.1 h with rfl | h
    · omega
    · have := sum_mem (mu := mu) h; omega
section
variable {H : Type}
theorem sum_le {α : Type} {mu : α → Nat} : ∀ (l : List α) (es : List (DataW H × List MemPlace)), l.length = es.length → (∀ (i : Nat) (x : α) (e : DataW H × List MemPlace), l[i]? = some x → es[i]? = some e → mu x ≤ Rows.uptoBulk e.1) → sumL mu l ≤ Rows.uptoBulkAll (es.map (·.1))
  | [], _, _, _ => Nat.zero_le _
  | x :: r, [], h, _ => by simp at h
  | x :: r, e :: q, h, hm => by
    have h1 := hm 0 x e rfl rfl
    have h2 := sum_le r q (by simpa using h) fun i y f hy hf => hm (i + 1) y f (by simpa using hy) (by simpa using hf)
    simp only [sumL, List.map_cons, Rows.uptoBulkAll]
    omega
end
section
variable {H : Type} {enc : TypeId × Value → H} {W : World} {sp : Nat → Bool} {held : Bool}
theorem open_fieldsM {T : TypeId} {fs : Array Go.Field} (ht : Tryd.prog.underlying T = some (.struct fs)) {ks : List (Nat × Nat × Option TypeDesc)} (hk : fs.toList.map (fun f : Go.Field => (f.offset, Tryd.prog.cellsOf f.type, Tryd.prog.underlying f.type)) = ks)
    (h1 : ks.map (fun u => (u.1, u.2.1)) = (List.range ks.length).map (fun i => (i, 1))) (hc : Tryd.prog.cellsOf T = ks.length) {n : Nat} {cs : List Value} {y : DataW H × List MemPlace} (h : DataW.trod enc Tryd.prog W 0 sp held n T cs = some y) :
    ∃ (m : Nat) (ys : List (DataW H × List MemPlace)), n = m + 1 ∧ cs.length = ks.length ∧ ys.length = ks.length ∧ y.1 = .agg (ys.map (·.1)) ∧ ∀ (i : Nat) (k : Nat × Nat × Option TypeDesc), ks[i]? = some k → ∃ v t z, cs[i]? = some v ∧ ys[i]? = some z ∧ Tryd.prog.underlying t = k.2.2 ∧ DataW.trod enc Tryd.prog W 0 sp held m t [v] = some z := by
  obtain ⟨ys, m, hn, hy0, hl, hyl, hf⟩ := DataW.trod_struct ht h
  rw [hc] at hl
  refine ⟨m, ys, hn, hl, by rw [hyl, ← hk, List.length_map]; simp, by rw [hy0], fun i k hi => ?_⟩
  have hks : ks[i]? = (fs[i]?).map (fun f : Go.Field => (f.offset, Tryd.prog.cellsOf f.type, Tryd.prog.underlying f.type)) := by
    rw [← hk, List.getElem?_map, Array.getElem?_toList]
  rw [hi] at hks
  cases hfi : fs[i]? with
  | none => rw [hfi] at hks; cases hks
  | some f =>
    rw [hfi] at hks
    obtain rfl : k = (f.offset, Tryd.prog.cellsOf f.type, Tryd.prog.underlying f.type) := by simpa using hks
    have hlt : i < ks.length := (List.getElem?_eq_some_iff.1 hi).1
    have e1 : (ks.map (fun u => (u.1, u.2.1)))[i]? = some (f.offset, Tryd.prog.cellsOf f.type) := by rw [List.getElem?_map, hi]; rfl
    rw [h1, List.getElem?_map, List.getElem?_range hlt] at e1
    obtain ⟨eo, ec⟩ : i = f.offset ∧ 1 = Tryd.prog.cellsOf f.type := by simpa using e1
    have hg := hf i f hfi
    rw [← eo, ← ec] at hg
    have hci : i < cs.length := by omega
    rw [List.drop_eq_getElem_cons hci, List.take_succ_cons, List.take_zero] at hg
    have hyi : i < ys.length := by rw [hyl]; exact (Array.getElem?_eq_some_iff.1 hfi).1
    rw [List.getElem?_eq_getElem hyi] at hg
    exact ⟨cs[i], f.type, ys[i], List.getElem?_eq_getElem hci, List.getElem?_eq_getElem hyi, rfl, hg⟩
theorem one_intM {t : TypeId} {k : IntKind} {n : Nat} {v : Value} {z : DataW H × List MemPlace} (ht : Tryd.prog.underlying t = some (.int k)) (h : DataW.trod enc Tryd.prog W 0 sp held n t [v] = some z) : ∃ x, v = .int k x ∧ 1 ≤ Rows.uptoBulk z.1 := by
  obtain ⟨x, hx, hz, hw⟩ := DataW.trod_int ht h
  exact ⟨x, by simpa using hx, by subst hz; simp [Rows.uptoBulk]⟩
theorem one_stringM {t : TypeId} {n : Nat} {v : Value} {z : DataW H × List MemPlace} (ht : Tryd.prog.underlying t = some .string) (h : DataW.trod enc Tryd.prog W 0 sp held n t [v] = some z) : ∃ x, v = .string x ∧ x.size + 1 ≤ Rows.uptoBulk z.1 := by
  obtain ⟨x, hx, hz, _⟩ := DataW.trod_string ht h
  exact ⟨x, by simpa using hx, by subst hz; simp [Rows.uptoBulk]⟩
/-- A list of parts that are read. -/
theorem open_listM {T e : TypeId} (ht : Tryd.prog.underlying T = some (.slice e)) {m : Nat} (hm : Tryd.prog.cellsOf e = m) (h0 : 0 < m) {α : Type} (El : α → List Value → Prop) (mu : α → Nat) {n : Nat} {v : Value} {z : DataW H × List MemPlace} (h : DataW.trod enc Tryd.prog W 0 sp held n T [v] = some z)
    (hel : ∀ k cs y, k < n → DataW.trod enc Tryd.prog W 0 sp held k e cs = some y → ∃ x : α, El x cs ∧ mu x ≤ Rows.uptoBulk y.1) :
    ∃ (l : List α) (a : Option Addr) (cap : Nat), v = .slice a l.length cap ∧ l.length ≤ 9223372036854775807 ∧ sumL mu l ≤ Rows.uptoBulk z.1 ∧ (l = [] ∨ ∃ g q, a = some ⟨g, q, none⟩ ∧ ∀ i x, l[i]? = some x → ∃ cs, El x cs ∧ cellsIn W g (q + i * m) cs) := by
  rcases DataW.trod_slice ht h with ⟨hcs, _⟩ | ⟨a, len, cap, elems, rest, k, hk, hcs, hz0, _, hle, hcap, hlen, hes, _⟩
  · exact ⟨[], none, 0, by simpa using hcs, by simp, by simp [sumL], .inl rfl⟩
  · obtain rfl : v = .slice (some a) len cap := by simpa using hcs
    have hml : maxLen ≤ 9223372036854775807 := by unfold maxLen; decide
    have each : ∀ i, i < len → ∃ x : α, ∃ cs, (El x cs ∧ ∀ e, elems[i]? = some e → mu x ≤ Rows.uptoBulk e.1) ∧ a.spot = none ∧ cellsIn W a.block (a.off + i * m) cs := by
      intro i hi
      have h1 := hes i hi
      rw [List.getElem?_eq_getElem (by omega), hm, Option.bind_eq_some_iff] at h1
      obtain ⟨cs, h2, h3⟩ := h1
      obtain ⟨x, hx⟩ := hel k cs _ (by omega) h3
      obtain ⟨_, hl, hc⟩ := World.cells?_some h2
      have hsp : a.spot = none := by
        have h1 := hes 0 (by omega)
        rw [List.getElem?_eq_getElem (by omega), hm, Option.bind_eq_some_iff] at h1
        obtain ⟨cs0, h20, h30⟩ := h1
        obtain ⟨_, _, hc⟩ := World.cells?_some h20
        have h00 := hc 0 (by omega)
        have hl0 : cs0.length = m := (World.cells?_some h20).2.1
        rw [List.getElem?_eq_getElem (by omega)] at h00
        have := World.cell?_spot h00
        simpa [Addr.add] using this
      obtain ⟨g, off, spot⟩ := a
      simp only at hsp
      subst hsp
      refine ⟨x, cs, ⟨hx.1, fun e he => ?_⟩, rfl, fun j u hj => ?_⟩
      · rw [List.getElem?_eq_getElem (by omega)] at he; obtain rfl := Option.some.inj he; exact hx.2
      have hjm : j < cs.length := (List.getElem?_eq_some_iff.1 hj).1
      have := hc j (by omega)
      rw [add_off, add_off] at this
      show W.cell? ⟨g, off + i * m + j, none⟩ = some u
      rw [this]; exact hj
    refine ⟨(List.range len).attach.map fun i => (each i.1 (List.mem_range.1 i.2)).choose, some a, cap, by simp, by simp; omega, ?_, ?_⟩
    · rw [hz0]
      refine Nat.le_trans (sum_le _ elems (by simp [hlen]) fun i x e hx he => ?_) (by simp only [Rows.uptoBulk]; omega)
      rw [List.getElem?_map] at hx
      obtain ⟨⟨i', hi'⟩, h1, rfl⟩ := Option.map_eq_some_iff.1 hx
      have e2 : i' = i := by
        obtain ⟨hb, hb2⟩ := List.getElem?_eq_some_iff.1 h1
        simp at hb2
        exact hb2.symm
      subst e2
      obtain ⟨cs, k1, _, k2⟩ := (each i' (List.mem_range.1 hi')).choose_spec
      exact k1.2 e he
    · by_cases hz : len = 0
      · left; subst hz; rfl
      · right
        obtain ⟨_, _, _, hsp, _⟩ := each 0 (by omega)
        refine ⟨a.block, a.off, by obtain ⟨g, off, spot⟩ := a; simp only at hsp; subst hsp; rfl, fun i x hx => ?_⟩
        rw [List.getElem?_map] at hx
        obtain ⟨⟨i', hi'⟩, h1, rfl⟩ := Option.map_eq_some_iff.1 hx
        have hil : i < len := by
          have := (List.getElem?_eq_some_iff.1 h1).1
          simpa using this
        have e : i' = i := by
          have := (List.getElem?_eq_some_iff.1 h1)
          obtain ⟨hb, hb2⟩ := this
          simp at hb2
          exact hb2.symm
        subst e
        obtain ⟨cs, k1, _, k2⟩ := (each i' (List.mem_range.1 hi')).choose_spec
        exact ⟨cs, k1.1, k2⟩
end
theorem fieldsI : ∃ fs : Array Go.Field, Tryd.prog.underlying 87 = some (.struct fs) ∧ fs.toList.map (fun f : Go.Field => (f.offset, Tryd.prog.cellsOf f.type, Tryd.prog.underlying f.type)) = [(0, 1, some (.int .u8)), (1, 1, some (.int .u8)), (2, 1, some (.int .i64)), (3, 1, some (.int .i64)), (4, 1, some (.int .i64)), (5, 1, some (.int .i64)), (6, 1, some (.int .i64)), (7, 1, some (.int .i64)), (8, 1, some (.int .i64))] := ⟨_, Tryd.underlying87, by kernel_rfl⟩
theorem cellsI : Tryd.prog.cellsOf 87 = 9 := by kernel_rfl
theorem fieldsC : ∃ fs : Array Go.Field, Tryd.prog.underlying 83 = some (.struct fs) ∧ fs.toList.map (fun f : Go.Field => (f.offset, Tryd.prog.cellsOf f.type, Tryd.prog.underlying f.type)) = [(0, 1, some .string), (1, 1, some (.slice 87))] := ⟨_, Tryd.underlying83, by kernel_rfl⟩
theorem cellsC : Tryd.prog.cellsOf 83 = 2 := by kernel_rfl
theorem fieldsO : ∃ fs : Array Go.Field, Tryd.prog.underlying 25 = some (.struct fs) ∧ fs.toList.map (fun f : Go.Field => (f.offset, Tryd.prog.cellsOf f.type, Tryd.prog.underlying f.type)) = [(0, 1, some (.slice 2)), (1, 1, some (.int .i64)), (2, 1, some (.int .i64)), (3, 1, some (.int .i64)), (4, 1, some (.slice 83))] := ⟨_, Tryd.underlying25, by kernel_rfl⟩
theorem cellsO : Tryd.prog.cellsOf 25 = 5 := by kernel_rfl
theorem cells64 : Tryd.prog.cellsOf 2 = 1 := by kernel_rfl
theorem cells8 : Tryd.prog.cellsOf 5 = 1 := by kernel_rfl
/-- How big an object is. -/
def bkC (c : Cor) : Nat := c.name.size + c.code.length + 1
def bkO (o : Ob) : Nat := o.mem.length + sumL bkC o.cores
section
variable {H : Type} {enc : TypeId × Value → H} {W : World} {sp : Nat → Bool} {held : Bool}
theorem one_intW {t : TypeId} {k : IntKind} {n : Nat} {v : Value} {z : DataW H × List MemPlace} (ht : Tryd.prog.underlying t = some (.int k)) (h : DataW.trod enc Tryd.prog W 0 sp held n t [v] = some z) : ∃ x, v = .int k x ∧ (Lit.int k x).wf = true ∧ 1 ≤ Rows.uptoBulk z.1 := by
  obtain ⟨x, hx, hz, hw⟩ := DataW.trod_int ht h
  exact ⟨x, by simpa using hx, hw, by subst hz; simp [Rows.uptoBulk]⟩
theorem openM_ins (n : Nat) (cs : List Value) (y : DataW H × List MemPlace) (h : DataW.trod enc Tryd.prog W 0 sp held n 87 cs = some y) : ∃ i : Ins, (cs = insC i ∧ rgI i) ∧ 1 ≤ Rows.uptoBulk y.1 := by
  obtain ⟨fs, hu, hk⟩ := fieldsI
  obtain ⟨m, ys, rfl, hl, hyl, hyd, hf⟩ := open_fieldsM hu hk rfl cellsI h
  obtain ⟨v0, t0, z0, c0, d0, u0, g0⟩ := hf 0 _ rfl
  obtain ⟨v1, t1, z1, c1, d1, u1, g1⟩ := hf 1 _ rfl
  obtain ⟨v2, t2, z2, c2, d2, u2, g2⟩ := hf 2 _ rfl
  obtain ⟨v3, t3, z3, c3, d3, u3, g3⟩ := hf 3 _ rfl
  obtain ⟨v4, t4, z4, c4, d4, u4, g4⟩ := hf 4 _ rfl
  obtain ⟨v5, t5, z5, c5, d5, u5, g5⟩ := hf 5 _ rfl
  obtain ⟨v6, t6, z6, c6, d6, u6, g6⟩ := hf 6 _ rfl
  obtain ⟨v7, t7, z7, c7, d7, u7, g7⟩ := hf 7 _ rfl
  obtain ⟨v8, t8, z8, c8, d8, u8, g8⟩ := hf 8 _ rfl
  obtain ⟨x0, rfl, w0, m0⟩ := one_intW u0 g0
  obtain ⟨x1, rfl, w1, m1⟩ := one_intW u1 g1
  obtain ⟨x2, rfl, w2, m2⟩ := one_intW u2 g2
  obtain ⟨x3, rfl, w3, m3⟩ := one_intW u3 g3
  obtain ⟨x4, rfl, w4, m4⟩ := one_intW u4 g4
  obtain ⟨x5, rfl, w5, m5⟩ := one_intW u5 g5
  obtain ⟨x6, rfl, w6, m6⟩ := one_intW u6 g6
  obtain ⟨x7, rfl, w7, m7⟩ := one_intW u7 g7
  obtain ⟨x8, rfl, w8, m8⟩ := one_intW u8 g8
  have hcs : cs = [.int .u8 x0, .int .u8 x1, .int .i64 x2, .int .i64 x3, .int .i64 x4, .int .i64 x5, .int .i64 x6, .int .i64 x7, .int .i64 x8] := by
    apply List.ext_getElem?
    intro i
    match i with
    | 0 => exact c0
    | 1 => exact c1
    | 2 => exact c2
    | 3 => exact c3
    | 4 => exact c4
    | 5 => exact c5
    | 6 => exact c6
    | 7 => exact c7
    | 8 => exact c8
    | i + 9 => rw [List.getElem?_eq_none (by rw [hl]; simp), List.getElem?_eq_none (by simp)]
  have hys : ys = [z0, z1, z2, z3, z4, z5, z6, z7, z8] := by
    apply List.ext_getElem?
    intro i
    match i with
    | 0 => exact d0
    | 1 => exact d1
    | 2 => exact d2
    | 3 => exact d3
    | 4 => exact d4
    | 5 => exact d5
    | 6 => exact d6
    | 7 => exact d7
    | 8 => exact d8
    | i + 9 => rw [List.getElem?_eq_none (by rw [hyl]; simp), List.getElem?_eq_none (by simp)]
  have hbk : Rows.uptoBulk y.1 = Rows.uptoBulk z0.1 + Rows.uptoBulk z1.1 + Rows.uptoBulk z2.1 + Rows.uptoBulk z3.1 + Rows.uptoBulk z4.1 + Rows.uptoBulk z5.1 + Rows.uptoBulk z6.1 + Rows.uptoBulk z7.1 + Rows.uptoBulk z8.1 + 1 := by rw [hyd, hys]; simp only [List.map_cons, List.map_nil, Rows.uptoBulk, Rows.uptoBulkAll]; omega
  exact ⟨⟨x0, x1, x2, x3, x4, x5, x6, x7, x8⟩, ⟨hcs, ⟨u8_bd w0, u8_bd w1, i64_bd w2, i64_bd w3, i64_bd w4, i64_bd w5, i64_bd w6, i64_bd w7, i64_bd w8⟩⟩, by rw [hbk]; omega⟩
theorem openM_cor (n : Nat) (cs : List Value) (y : DataW H × List MemPlace) (h : DataW.trod enc Tryd.prog W 0 sp held n 83 cs = some y) : ∃ c : Cor, ((∃ a cap, cs = [.string c.name, .slice a c.code.length cap] ∧ insAt W c.code a) ∧ ∀ i ∈ c.code, rgI i) ∧ bkC c ≤ Rows.uptoBulk y.1 := by
  obtain ⟨fs, hu, hk⟩ := fieldsC
  obtain ⟨m, ys, rfl, hl, hyl, hyd, hf⟩ := open_fieldsM hu hk rfl cellsC h
  obtain ⟨v0, t0, z0, c0, d0, u0, g0⟩ := hf 0 _ rfl
  obtain ⟨v1, t1, z1, c1, d1, u1, g1⟩ := hf 1 _ rfl
  obtain ⟨x0, rfl, m0⟩ := one_stringM u0 g0
  obtain ⟨x1, a1, cap1, rfl, b1, m1, e1⟩ := open_listM u1 cellsI (by decide) (fun (i : Ins) cs => cs = insC i ∧ rgI i) (fun _ => 1) g1 (fun k cs y hk h => openM_ins k cs y h)
  have m1' := sum_len (mu := fun _ : Ins => 1) (fun _ => Nat.le_refl 1) x1
  have hcs : cs = [.string x0, .slice a1 x1.length cap1] := by
    apply List.ext_getElem?
    intro i
    match i with
    | 0 => exact c0
    | 1 => exact c1
    | i + 2 => rw [List.getElem?_eq_none (by rw [hl]; simp), List.getElem?_eq_none (by simp)]
  have hys : ys = [z0, z1] := by
    apply List.ext_getElem?
    intro i
    match i with
    | 0 => exact d0
    | 1 => exact d1
    | i + 2 => rw [List.getElem?_eq_none (by rw [hyl]; simp), List.getElem?_eq_none (by simp)]
  have hbk : Rows.uptoBulk y.1 = Rows.uptoBulk z0.1 + Rows.uptoBulk z1.1 + 1 := by rw [hyd, hys]; simp only [List.map_cons, List.map_nil, Rows.uptoBulk, Rows.uptoBulkAll]; omega
  refine ⟨⟨x0, x1⟩, ⟨⟨a1, cap1, hcs, ?_⟩, fun i hi => ?_⟩, by rw [hbk]; simp only [bkC]; omega⟩
  · rcases e1 with rfl | ⟨g, q, rfl, hq⟩
    · exact .inl rfl
    · refine .inr ⟨g, q, rfl, fun j i hj m v hv => ?_⟩
      obtain ⟨cs, ⟨rfl, _⟩, h2⟩ := hq j i hj
      have := h2 m v hv
      exact this
  · obtain ⟨j, hj⟩ := List.getElem?_of_mem hi
    rcases e1 with rfl | ⟨g, q, rfl, hq⟩
    · simp at hj
    · obtain ⟨cs, ⟨_, h1⟩, _⟩ := hq j i hj
      exact h1
theorem openM_obj (n : Nat) (cs : List Value) (y : DataW H × List MemPlace) (h : DataW.trod enc Tryd.prog W 0 sp held n 25 cs = some y) : ∃ o : Ob, obA W o (.agg cs.toArray) ∧ rgO o ∧ bkO o ≤ Rows.uptoBulk y.1 := by
  obtain ⟨fs, hu, hk⟩ := fieldsO
  obtain ⟨m, ys, rfl, hl, hyl, hyd, hf⟩ := open_fieldsM hu hk rfl cellsO h
  obtain ⟨v0, t0, z0, c0, d0, u0, g0⟩ := hf 0 _ rfl
  obtain ⟨v1, t1, z1, c1, d1, u1, g1⟩ := hf 1 _ rfl
  obtain ⟨v2, t2, z2, c2, d2, u2, g2⟩ := hf 2 _ rfl
  obtain ⟨v3, t3, z3, c3, d3, u3, g3⟩ := hf 3 _ rfl
  obtain ⟨v4, t4, z4, c4, d4, u4, g4⟩ := hf 4 _ rfl
  obtain ⟨x0, a0, cap0, rfl, b0, m0, e0⟩ := open_listM u0 cells64 (by decide) (fun (x : Int) cs => cs = [.int .i64 x] ∧ (-9223372036854775808 ≤ x ∧ x ≤ 9223372036854775807)) (fun _ => 1) g0 (fun k cs y hk h => by
    obtain ⟨x, hx, hz, hw⟩ := DataW.trod_int Tryd.underlying2 h
    exact ⟨x, ⟨hx, i64_bd hw⟩, by subst hz; simp [Rows.uptoBulk]⟩)
  have m0' := sum_len (mu := fun _ : Int => 1) (fun _ => Nat.le_refl 1) x0
  obtain ⟨x1, rfl, w1, m1⟩ := one_intW u1 g1
  obtain ⟨x2, rfl, w2, m2⟩ := one_intW u2 g2
  obtain ⟨x3, rfl, w3, m3⟩ := one_intW u3 g3
  obtain ⟨x4, a4, cap4, rfl, b4, m4, e4⟩ := open_listM u4 cellsC (by decide) (fun (c : Cor) cs => (∃ a cap, cs = [.string c.name, .slice a c.code.length cap] ∧ insAt W c.code a) ∧ ∀ i ∈ c.code, rgI i) bkC g4 (fun k cs y hk h => openM_cor k cs y h)
  have hcs : cs = [.slice a0 x0.length cap0, .int .i64 x1, .int .i64 x2, .int .i64 x3, .slice a4 x4.length cap4] := by
    apply List.ext_getElem?
    intro i
    match i with
    | 0 => exact c0
    | 1 => exact c1
    | 2 => exact c2
    | 3 => exact c3
    | 4 => exact c4
    | i + 5 => rw [List.getElem?_eq_none (by rw [hl]; simp), List.getElem?_eq_none (by simp)]
  have hys : ys = [z0, z1, z2, z3, z4] := by
    apply List.ext_getElem?
    intro i
    match i with
    | 0 => exact d0
    | 1 => exact d1
    | 2 => exact d2
    | 3 => exact d3
    | 4 => exact d4
    | i + 5 => rw [List.getElem?_eq_none (by rw [hyl]; simp), List.getElem?_eq_none (by simp)]
  have hbk : Rows.uptoBulk y.1 = Rows.uptoBulk z0.1 + Rows.uptoBulk z1.1 + Rows.uptoBulk z2.1 + Rows.uptoBulk z3.1 + Rows.uptoBulk z4.1 + 1 := by rw [hyd, hys]; simp only [List.map_cons, List.map_nil, Rows.uptoBulk, Rows.uptoBulkAll]; omega
  refine ⟨⟨x0, x1, x2, x3, x4⟩, ⟨a0, cap0, a4, cap4, by rw [hcs]; rfl, ?_, ?_⟩, ⟨fun x hx => ?_, i64_bd w1, i64_bd w2, i64_bd w3, fun c hc => ?_⟩, by rw [hbk]; simp only [bkO]; omega⟩
  · rcases e0 with rfl | ⟨g, q, rfl, hq⟩
    · exact .inl rfl
    · refine .inr ⟨g, q, rfl, fun j x hj => ?_⟩
      obtain ⟨cs, ⟨rfl, _⟩, h2⟩ := hq j x hj
      have := h2 0 _ rfl
      rw [Nat.mul_one, Nat.add_zero] at this
      exact this
  · rcases e4 with rfl | ⟨g, q, rfl, hq⟩
    · exact .inl rfl
    · refine .inr ⟨g, q, rfl, fun j c hj => ?_⟩
      obtain ⟨cs, ⟨⟨a, cap, rfl, hi⟩, _⟩, h2⟩ := hq j c hj
      exact ⟨h2 0 _ rfl, a, cap, h2 1 _ rfl, hi⟩
  · obtain ⟨j, hj⟩ := List.getElem?_of_mem hx
    rcases e0 with rfl | ⟨g, q, rfl, hq⟩
    · simp at hj
    · obtain ⟨cs, ⟨_, h1⟩, _⟩ := hq j x hj
      exact h1
  · obtain ⟨j, hj⟩ := List.getElem?_of_mem hc
    rcases e4 with rfl | ⟨g, q, rfl, hq⟩
    · simp at hj
    · obtain ⟨cs, ⟨_, h1⟩, _⟩ := hq j c hj
      exact h1
/-- An instruction, an object among the arguments. -/
theorem insArg_of {r : Reach} {b0 : Nat} {v : Value} {d : DataW H} {ps : List MemPlace} (hval : Value.okWide Tryd.prog W r b0 87 v) (hd : DataW.Trod enc Tryd.prog W 0 sp held 87 v d ps) : ∃ i : Ins, v = insV i ∧ rgI i := by
  obtain ⟨fs, hu, _⟩ := fieldsI
  obtain ⟨cs, rfl, _⟩ := okWide_struct hu hval
  obtain ⟨fuel, hf⟩ := hd
  obtain ⟨i, ⟨h1, h2⟩, _⟩ := openM_ins fuel _ _ hf
  have h1 : cs.toList = insC i := by simpa [Value.cells] using h1
  exact ⟨i, by rw [insV, ← h1], h2⟩
theorem obArg_of {r : Reach} {b0 : Nat} {v : Value} {d : DataW H} {ps : List MemPlace} (hval : Value.okWide Tryd.prog W r b0 25 v) (hd : DataW.Trod enc Tryd.prog W 0 sp held 25 v d ps) : ∃ o : Ob, obA W o v ∧ rgO o ∧ bkO o ≤ Rows.uptoBulk d := by
  obtain ⟨fs, hu, _⟩ := fieldsO
  obtain ⟨cs, rfl, _⟩ := okWide_struct hu hval
  obtain ⟨fuel, hf⟩ := hd
  obtain ⟨o, h1, h2, h3⟩ := openM_obj fuel _ _ hf
  exact ⟨o, by simpa [Value.cells] using h1, h2, h3⟩
end
end Go.Proofs.YtmpljhfinmfnbaaDoor
namespace Go.Proofs.YtmpljhfinmfnbaaDoor
open Go.ChangeShapes Go.WideShapes Go.ChangeAt Go.WideMaps Go.WideElems Go.RowKit
set_option linter.unusedVariables false
set_option maxRecDepth 100000
section
variable {H : Type} {enc : TypeId × Value → H} {W : World} {sp : Nat → Bool} {held : Bool}
theorem open_listP {T e : TypeId} (ht : Tryd.prog.underlying T = some (.slice e)) {m : Nat} (hm : Tryd.prog.cellsOf e = m) (h0 : 0 < m) {α : Type} (El : α → List Value → Prop) (Q : α → DataW H → Prop) {n : Nat} {v : Value} {z : DataW H × List MemPlace} (h : DataW.trod enc Tryd.prog W 0 sp held n T [v] = some z)
    (hel : ∀ k cs y, k < n → DataW.trod enc Tryd.prog W 0 sp held k e cs = some y → ∃ x : α, El x cs ∧ Q x y.1) :
    ∃ (l : List α) (a : Option Addr) (cap : Nat), v = .slice a l.length cap ∧ l.length ≤ 9223372036854775807 ∧ ((z.1 = .nil ∧ l = []) ∨ ∃ ds rest : List (DataW H), z.1 = .slice ds rest ∧ ds.length = l.length ∧ ∀ (i : Nat) (x : α) (d : DataW H), l[i]? = some x → ds[i]? = some d → Q x d) ∧ (l = [] ∨ ∃ g q, a = some ⟨g, q, none⟩ ∧ ∀ i x, l[i]? = some x → ∃ cs, El x cs ∧ cellsIn W g (q + i * m) cs) := by
  rcases DataW.trod_slice ht h with ⟨hcs, hz0⟩ | ⟨a, len, cap, elems, rest, k, hk, hcs, hz0, _, hle, hcap, hlen, hes, _⟩
  · exact ⟨[], none, 0, by simpa using hcs, by simp, .inl ⟨by rw [hz0], rfl⟩, .inl rfl⟩
  · obtain rfl : v = .slice (some a) len cap := by simpa using hcs
    have hml : maxLen ≤ 9223372036854775807 := by unfold maxLen; decide
    have each : ∀ i, i < len → ∃ x : α, ∃ cs, (El x cs ∧ ∀ e, elems[i]? = some e → Q x e.1) ∧ a.spot = none ∧ cellsIn W a.block (a.off + i * m) cs := by
      intro i hi
      have h1 := hes i hi
      rw [List.getElem?_eq_getElem (by omega), hm, Option.bind_eq_some_iff] at h1
      obtain ⟨cs, h2, h3⟩ := h1
      obtain ⟨x, hx⟩ := hel k cs _ (by omega) h3
      obtain ⟨_, hl, hc⟩ := World.cells?_some h2
      have hsp : a.spot = none := by
        have h1 := hes 0 (by omega)
        rw [List.getElem?_eq_getElem (by omega), hm, Option.bind_eq_some_iff] at h1
        obtain ⟨cs0, h20, h30⟩ := h1
        obtain ⟨_, _, hc⟩ := World.cells?_some h20
        have h00 := hc 0 (by omega)
        have hl0 : cs0.length = m := (World.cells?_some h20).2.1
        rw [List.getElem?_eq_getElem (by omega)] at h00
        have := World.cell?_spot h00
        simpa [Addr.add] using this
      obtain ⟨g, off, spot⟩ := a
      simp only at hsp
      subst hsp
      refine ⟨x, cs, ⟨hx.1, fun e he => ?_⟩, rfl, fun j u hj => ?_⟩
      · rw [List.getElem?_eq_getElem (by omega)] at he; obtain rfl := Option.some.inj he; exact hx.2
      have hjm : j < cs.length := (List.getElem?_eq_some_iff.1 hj).1
      have := hc j (by omega)
      rw [add_off, add_off] at this
      show W.cell? ⟨g, off + i * m + j, none⟩ = some u
      rw [this]; exact hj
    refine ⟨(List.range len).attach.map fun i => (each i.1 (List.mem_range.1 i.2)).choose, some a, cap, by simp, by simp; omega, ?_, ?_⟩
    · refine .inr ⟨elems.map (·.1), rest.map (·.1), by rw [hz0], by simp [hlen], fun i x d hx hd => ?_⟩
      rw [List.getElem?_map] at hx hd
      obtain ⟨e, he, rfl⟩ := Option.map_eq_some_iff.1 hd
      obtain ⟨⟨i', hi'⟩, h1, rfl⟩ := Option.map_eq_some_iff.1 hx
      have e2 : i' = i := by
        obtain ⟨hb, hb2⟩ := List.getElem?_eq_some_iff.1 h1
        simp at hb2
        exact hb2.symm
      subst e2
      obtain ⟨cs, k1, _, k2⟩ := (each i' (List.mem_range.1 hi')).choose_spec
      exact k1.2 e he
    · by_cases hz : len = 0
      · left; subst hz; rfl
      · right
        obtain ⟨_, _, _, hsp, _⟩ := each 0 (by omega)
        refine ⟨a.block, a.off, by obtain ⟨g, off, spot⟩ := a; simp only at hsp; subst hsp; rfl, fun i x hx => ?_⟩
        rw [List.getElem?_map] at hx
        obtain ⟨⟨i', hi'⟩, h1, rfl⟩ := Option.map_eq_some_iff.1 hx
        have hil : i < len := by
          have := (List.getElem?_eq_some_iff.1 h1).1
          simpa using this
        have e : i' = i := by
          have := (List.getElem?_eq_some_iff.1 h1)
          obtain ⟨hb, hb2⟩ := this
          simp at hb2
          exact hb2.symm
        subst e
        obtain ⟨cs, k1, _, k2⟩ := (each i' (List.mem_range.1 hi')).choose_spec
        exact ⟨cs, k1.1, k2⟩
end
/-- What a datum weighs, fits. -/
def Wgt {H : Type} (t : TypeId) (d : DataW H) : Prop := ∀ n ∈ d.weights Tryd.prog t, n ≤ reachBytes
theorem weights_all {H : Type} {P : Program} {e : TypeId} : ∀ {ds : List (DataW H)} {i : Nat} {d : DataW H}, ds[i]? = some d → ∀ n ∈ d.weights P e, n ∈ DataW.weightsAll P e ds
  | [], i, d, h, _, _ => by simp at h
  | x :: ds, 0, d, h, n, hn => by
    obtain rfl : x = d := by simpa using h
    simp only [DataW.weightsAll, List.mem_append]
    exact Or.inl hn
  | x :: ds, i + 1, d, h, n, hn => by
    simp only [DataW.weightsAll, List.mem_append]
    exact Or.inr (weights_all (by simpa using h) n hn)
theorem Wgt.elem {H : Type} {t e : TypeId} (ht : Tryd.prog.underlying t = some (.slice e)) {ds rest : List (DataW H)} (h : Wgt t (.slice ds rest)) : ds.length * Tryd.prog.bytesOf e ≤ reachBytes ∧ ∀ (i : Nat) (d : DataW H), ds[i]? = some d → Wgt e d := by
  constructor
  · have := h ((ds.length + rest.length) * Tryd.prog.bytesOf e) (by simp [DataW.weights, ht])
    exact Nat.le_trans (Nat.mul_le_mul_right _ (by omega)) this
  · intro i d hi n hn
    exact h n (by
      simp only [DataW.weights, ht, List.mem_cons, List.mem_append]
      exact Or.inr (Or.inl (weights_all hi n hn)))
theorem Wgt.part {H : Type} {t : TypeId} {fs : Array Go.Field} (ht : Tryd.prog.underlying t = some (.struct fs)) {ts : List TypeId} (hts : fs.toList.map (·.type) = ts) {ds : List (DataW H)} (h : Wgt t (.agg ds)) {i : Nat} {e : TypeId} {d : DataW H} (he : ts[i]? = some e) (hd : ds[i]? = some d) : Wgt e d := fun n hn =>
  h n (by
    simp only [DataW.weights, ht, hts]
    exact DataW.weights_mem_each he hd n hn)
theorem typesC : ∃ fs : Array Go.Field, Tryd.prog.underlying 83 = some (.struct fs) ∧ fs.toList.map (·.type) = [9, 81] ∧ fs.toList.map (fun f : Go.Field => (f.offset, Tryd.prog.cellsOf f.type, Tryd.prog.underlying f.type)) = [(0, 1, some .string), (1, 1, some (.slice 87))] := ⟨_, Tryd.underlying83, by kernel_rfl, by kernel_rfl⟩
theorem typesO : ∃ fs : Array Go.Field, Tryd.prog.underlying 25 = some (.struct fs) ∧ fs.toList.map (·.type) = [22, 3, 3, 3, 23] ∧ fs.toList.map (fun f : Go.Field => (f.offset, Tryd.prog.cellsOf f.type, Tryd.prog.underlying f.type)) = [(0, 1, some (.slice 2)), (1, 1, some (.int .i64)), (2, 1, some (.int .i64)), (3, 1, some (.int .i64)), (4, 1, some (.slice 83))] := ⟨_, Tryd.underlying25, by kernel_rfl, by kernel_rfl⟩
theorem bytesI : Tryd.prog.bytesOf 87 = 64 := by kernel_rfl
theorem bytesC : Tryd.prog.bytesOf 83 = 40 := by kernel_rfl
theorem bytes64 : Tryd.prog.bytesOf 2 = 8 := by kernel_rfl
theorem bytes8 : Tryd.prog.bytesOf 5 = 1 := by kernel_rfl
/-- A core fits. -/
def szC (c : Cor) : Prop := c.name.size ≤ 140737488351232 ∧ c.code.length * 64 ≤ 140737488351232
section
variable {H : Type} {enc : TypeId × Value → H} {W : World} {sp : Nat → Bool} {held : Bool}
theorem openW_cor (n : Nat) (cs : List Value) (y : DataW H × List MemPlace) (h : DataW.trod enc Tryd.prog W 0 sp held n 83 cs = some y) : ∃ c : Cor, ((∃ a cap, cs = [.string c.name, .slice a c.code.length cap] ∧ insAt W c.code a) ∧ ∀ i ∈ c.code, rgI i) ∧ (Wgt 83 y.1 → szC c) := by
  obtain ⟨fs, hu, hty, hk⟩ := typesC
  obtain ⟨m, ys, rfl, hl, hyl, hyd, hf⟩ := open_fieldsM hu hk rfl cellsC h
  obtain ⟨v0, t0, z0, c0, d0, u0, g0⟩ := hf 0 _ rfl
  obtain ⟨v1, t1, z1, c1, d1, u1, g1⟩ := hf 1 _ rfl
  obtain ⟨x0, hx0, hz0, _⟩ := DataW.trod_string u0 g0
  obtain rfl : v0 = .string x0 := by simpa using hx0
  obtain ⟨x1, a1, cap1, rfl, b1, m1, e1⟩ := open_listP u1 cellsI (by decide) (fun (i : Ins) cs => cs = insC i ∧ rgI i) (fun _ _ => True) g1 (fun k cs y hk h => by obtain ⟨i, h1, _⟩ := openM_ins k cs y h; exact ⟨i, h1, trivial⟩)
  have hcs : cs = [.string x0, .slice a1 x1.length cap1] := by
    apply List.ext_getElem?
    intro i
    match i with
    | 0 => exact c0
    | 1 => exact c1
    | i + 2 => rw [List.getElem?_eq_none (by rw [hl]; simp), List.getElem?_eq_none (by simp)]
  refine ⟨⟨x0, x1⟩, ⟨⟨a1, cap1, hcs, ?_⟩, fun i hi => ?_⟩, fun hw => ?_⟩
  · rcases e1 with rfl | ⟨g, q, rfl, hq⟩
    · exact .inl rfl
    · refine .inr ⟨g, q, rfl, fun j i hj m v hv => ?_⟩
      obtain ⟨cs, ⟨rfl, _⟩, h2⟩ := hq j i hj
      have := h2 m v hv
      exact this
  · obtain ⟨j, hj⟩ := List.getElem?_of_mem hi
    rcases e1 with rfl | ⟨g, q, rfl, hq⟩
    · simp at hj
    · obtain ⟨cs, ⟨_, h1⟩, _⟩ := hq j i hj
      exact h1
  · rw [hyd] at hw
    have w0 := hw.part hu hty (i := 0) (e := 9) (d := z0.1) rfl (by rw [List.getElem?_map, d0]; rfl)
    have w1 := hw.part hu hty (i := 1) (e := 81) (d := z1.1) rfl (by rw [List.getElem?_map, d1]; rfl)
    constructor
    · subst hz0
      have := w0 x0.data.toList.length (by simp [DataW.weights])
      have h2 : x0.data.toList.length = x0.size := Array.length_toList
      have h3 : reachBytes = 140737488351232 := rfl
      show x0.size ≤ _
      omega
    · rcases m1 with ⟨_, rfl⟩ | ⟨ds, rest, hz, hlen, _⟩
      · simp
      · rw [hz] at w1
        have := (w1.elem Tryd.underlying81).1
        rw [bytesI] at this
        have h3 : reachBytes = 140737488351232 := rfl
        show x1.length * 64 ≤ _
        omega
theorem openW_obj (n : Nat) (cs : List Value) (y : DataW H × List MemPlace) (h : DataW.trod enc Tryd.prog W 0 sp held n 25 cs = some y) : ∃ o : Ob, obA W o (.agg cs.toArray) ∧ rgO o ∧ (Wgt 25 y.1 → fitO o ∧ fitW o) := by
  obtain ⟨fs, hu, hty, hk⟩ := typesO
  obtain ⟨m, ys, rfl, hl, hyl, hyd, hf⟩ := open_fieldsM hu hk rfl cellsO h
  obtain ⟨v0, t0, z0, c0, d0, u0, g0⟩ := hf 0 _ rfl
  obtain ⟨v1, t1, z1, c1, d1, u1, g1⟩ := hf 1 _ rfl
  obtain ⟨v2, t2, z2, c2, d2, u2, g2⟩ := hf 2 _ rfl
  obtain ⟨v3, t3, z3, c3, d3, u3, g3⟩ := hf 3 _ rfl
  obtain ⟨v4, t4, z4, c4, d4, u4, g4⟩ := hf 4 _ rfl
  obtain ⟨x0, a0, cap0, rfl, b0, m0, e0⟩ := open_listP u0 cells64 (by decide) (fun (x : Int) cs => cs = [.int .i64 x] ∧ (-9223372036854775808 ≤ x ∧ x ≤ 9223372036854775807)) (fun _ _ => True) g0 (fun k cs y hk h => by
    obtain ⟨x, hx, hz, hw⟩ := DataW.trod_int Tryd.underlying2 h
    exact ⟨x, ⟨hx, i64_bd hw⟩, trivial⟩)
  obtain ⟨x1, rfl, w1, m1⟩ := one_intW u1 g1
  obtain ⟨x2, rfl, w2, m2⟩ := one_intW u2 g2
  obtain ⟨x3, rfl, w3, m3⟩ := one_intW u3 g3
  obtain ⟨x4, a4, cap4, rfl, b4, m4, e4⟩ := open_listP u4 cellsC (by decide) (fun (c : Cor) cs => (∃ a cap, cs = [.string c.name, .slice a c.code.length cap] ∧ insAt W c.code a) ∧ ∀ i ∈ c.code, rgI i) (fun c d => Wgt 83 d → szC c) g4 (fun k cs y hk h => openW_cor k cs y h)
  have hcs : cs = [.slice a0 x0.length cap0, .int .i64 x1, .int .i64 x2, .int .i64 x3, .slice a4 x4.length cap4] := by
    apply List.ext_getElem?
    intro i
    match i with
    | 0 => exact c0
    | 1 => exact c1
    | 2 => exact c2
    | 3 => exact c3
    | 4 => exact c4
    | i + 5 => rw [List.getElem?_eq_none (by rw [hl]; simp), List.getElem?_eq_none (by simp)]
  refine ⟨⟨x0, x1, x2, x3, x4⟩, ⟨a0, cap0, a4, cap4, by rw [hcs]; rfl, ?_, ?_⟩, ⟨fun x hx => ?_, i64_bd w1, i64_bd w2, i64_bd w3, fun c hc => ?_⟩, fun hw => ?_⟩
  · rcases e0 with rfl | ⟨g, q, rfl, hq⟩
    · exact .inl rfl
    · refine .inr ⟨g, q, rfl, fun j x hj => ?_⟩
      obtain ⟨cs, ⟨rfl, _⟩, h2⟩ := hq j x hj
      have := h2 0 _ rfl
      rw [Nat.mul_one, Nat.add_zero] at this
      exact this
  · rcases e4 with rfl | ⟨g, q, rfl, hq⟩
    · exact .inl rfl
    · refine .inr ⟨g, q, rfl, fun j c hj => ?_⟩
      obtain ⟨cs, ⟨⟨a, cap, rfl, hi⟩, _⟩, h2⟩ := hq j c hj
      exact ⟨h2 0 _ rfl, a, cap, h2 1 _ rfl, hi⟩
  · obtain ⟨j, hj⟩ := List.getElem?_of_mem hx
    rcases e0 with rfl | ⟨g, q, rfl, hq⟩
    · simp at hj
    · obtain ⟨cs, ⟨_, h1⟩, _⟩ := hq j x hj
      exact h1
  · obtain ⟨j, hj⟩ := List.getElem?_of_mem hc
    rcases e4 with rfl | ⟨g, q, rfl, hq⟩
    · simp at hj
    · obtain ⟨cs, ⟨_, h1⟩, _⟩ := hq j c hj
      exact h1
  · rw [hyd] at hw
    have w0 := hw.part hu hty (i := 0) (e := 22) (d := z0.1) rfl (by rw [List.getElem?_map, d0]; rfl)
    have w4 := hw.part hu hty (i := 4) (e := 23) (d := z4.1) rfl (by rw [List.getElem?_map, d4]; rfl)
    have h3 : reachBytes = 140737488351232 := rfl
    have h0 : x0.length * 8 ≤ 140737488351232 := by
      rcases m0 with ⟨_, rfl⟩ | ⟨ds, rest, hz, hlen, _⟩
      · simp
      · rw [hz] at w0
        have := (w0.elem Tryd.underlying22).1
        rw [bytes64] at this
        omega
    have h4 : x4.length * 40 ≤ 140737488351232 := by
      rcases m4 with ⟨_, rfl⟩ | ⟨ds, rest, hz, hlen, _⟩
      · simp
      · rw [hz] at w4
        have := (w4.elem Tryd.underlying23).1
        rw [bytesC] at this
        omega
    have hc : ∀ c ∈ x4, szC c := by
      intro c hc
      obtain ⟨j, hj⟩ := List.getElem?_of_mem hc
      rcases m4 with ⟨_, rfl⟩ | ⟨ds, rest, hz, hlen, hq⟩
      · simp at hj
      · rw [hz] at w4
        have hjl : j < x4.length := (List.getElem?_eq_some_iff.1 hj).1
        have hd : ds[j]? = some ds[j] := List.getElem?_eq_getElem (by omega)
        exact hq j c _ hj hd ((w4.elem Tryd.underlying23).2 j _ hd)
    refine ⟨⟨?_, ?_, fun c h => ⟨(hc c h).1, by have := (hc c h).2; omega⟩⟩, h0, h4, fun c h => (hc c h).2⟩
    · show x0.length ≤ _
      omega
    · show x4.length ≤ _
      omega
theorem obArg_sized {r : Reach} {b0 : Nat} {v : Value} {d : DataW H} {ps : List MemPlace} (hval : Value.okWide Tryd.prog W r b0 25 v) (hd : DataW.Trod enc Tryd.prog W 0 sp held 25 v d ps) {ts : List TypeId} {ds : List (DataW H)} (hsz : (DataW.weightsEach Tryd.prog ts ds).all (· ≤ reachBytes) = true) {j : Nat} (ht : ts[j]? = some 25) (hj : ds[j]? = some d) : ∃ o : Ob, obA W o v ∧ rgO o ∧ fitO o ∧ fitW o := by
  obtain ⟨fs, hu, _⟩ := fieldsO
  obtain ⟨cs, rfl, _⟩ := okWide_struct hu hval
  obtain ⟨fuel, hf⟩ := hd
  obtain ⟨o, h1, h2, h3⟩ := openW_obj fuel _ _ hf
  refine ⟨o, by simpa [Value.cells] using h1, h2, h3 fun n hn => ?_⟩
  have := List.all_eq_true.1 hsz n (DataW.weights_mem_each ht hj n hn)
  simpa using this
end
end Go.Proofs.YtmpljhfinmfnbaaDoor

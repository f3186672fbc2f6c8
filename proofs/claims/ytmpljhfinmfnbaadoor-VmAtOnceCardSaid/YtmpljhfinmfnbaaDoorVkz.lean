/- A law's arguments: the object's memory fits, lists of cores, lists of steps. -/
import Derived.Test.YtmpljhfinmfnbaaDoorOpq
namespace Go.Proofs.YtmpljhfinmfnbaaDoor
open Go.ChangeShapes Go.WideShapes Go.ChangeAt Go.WideMaps Go.WideElems Go.RowKit
set_option linter.unusedVariables false
set_option maxRecDepth 100000
theorem fieldsS : ∃ fs : Array Go.Field, Tryd.prog.underlying 47 = some (.struct fs) ∧ fs.toList.map (fun f : Go.Field => (f.offset, Tryd.prog.cellsOf f.type, Tryd.prog.underlying f.type)) = [(0, 1, some (.int .u8)), (1, 1, some (.int .i64))] := ⟨_, Tryd.underlying47, by kernel_rfl⟩
theorem cellsS : Tryd.prog.cellsOf 47 = 2 := by kernel_rfl
def stpC (x : Int × Int) : List Value := [.int .u8 x.1, .int .i64 x.2]
def rgS (x : Int × Int) : Prop := (0 ≤ x.1 ∧ x.1 ≤ 255) ∧ (-9223372036854775808 ≤ x.2 ∧ x.2 ≤ 9223372036854775807)
section
variable {H : Type} {enc : TypeId × Value → H} {W : World} {sp : Nat → Bool} {held : Bool}
theorem openM_stp (n : Nat) (cs : List Value) (y : DataW H × List MemPlace) (h : DataW.trod enc Tryd.prog W 0 sp held n 47 cs = some y) : ∃ i : Int × Int, (cs = stpC i ∧ rgS i) ∧ 1 ≤ Rows.uptoBulk y.1 := by
  obtain ⟨fs, hu, hk⟩ := fieldsS
  obtain ⟨m, ys, rfl, hl, hyl, hyd, hf⟩ := open_fieldsM hu hk rfl cellsS h
  obtain ⟨v0, t0, z0, c0, d0, u0, g0⟩ := hf 0 _ rfl
  obtain ⟨v1, t1, z1, c1, d1, u1, g1⟩ := hf 1 _ rfl
  obtain ⟨x0, rfl, w0, m0⟩ := one_intW u0 g0
  obtain ⟨x1, rfl, w1, m1⟩ := one_intW u1 g1
  have hcs : cs = [.int .u8 x0, .int .i64 x1] := by
    apply List.ext_getElem?
    intro i
    match i with
    | 0 => exact c0
    | 1 => exact c1
    | i + 2 => rw [List.getElem?_eq_none (by rw [hl]; simp), List.getElem?_eq_none (by simp)]
  have hys : ys = [z0, z1] := by
    apply List.ext_getElem?
    intro i
    match i with
    | 0 => exact d0
    | 1 => exact d1
    | i + 2 => rw [List.getElem?_eq_none (by rw [hyl]; simp), List.getElem?_eq_none (by simp)]
  have hbk : Rows.uptoBulk y.1 = Rows.uptoBulk z0.1 + Rows.uptoBulk z1.1 + 1 := by rw [hyd, hys]; simp only [List.map_cons, List.map_nil, Rows.uptoBulk, Rows.uptoBulkAll]; omega
  exact ⟨⟨x0, x1⟩, ⟨hcs, ⟨u8_bd w0, i64_bd w1⟩⟩, by rw [hbk]; omega⟩
theorem stpArg_of {r : Reach} {b0 : Nat} {v : Value} {d : DataW H} {ps : List MemPlace} (hval : Value.okWide Tryd.prog W r b0 47 v) (hd : DataW.Trod enc Tryd.prog W 0 sp held 47 v d ps) : ∃ q k : Int, v = .agg #[.int .u8 q, .int .i64 k] ∧ rgS (q, k) := by
  obtain ⟨fs, hu, _⟩ := fieldsS
  obtain ⟨cs, rfl, _⟩ := okWide_struct hu hval
  obtain ⟨fuel, hf⟩ := hd
  obtain ⟨⟨q, k⟩, ⟨h1, h2⟩, _⟩ := openM_stp fuel _ _ hf
  have h1 : cs.toList = stpC (q, k) := by simpa [Value.cells] using h1
  exact ⟨q, k, by rw [show (#[.int .u8 q, .int .i64 k] : Array Value) = cs by rw [← Array.toArray_toList (xs := cs), h1]; rfl], h2⟩
end
end Go.Proofs.YtmpljhfinmfnbaaDoor
namespace Go.Proofs.YtmpljhfinmfnbaaDoor
open Go.ChangeShapes Go.WideShapes Go.ChangeAt Go.WideMaps Go.WideElems Go.RowKit
set_option linter.unusedVariables false
set_option maxRecDepth 100000
def obC (W : World) (o : Ob) (v : Value) : Prop := ∃ a1 c1 a5 c5, v = obV o a1 c1 a5 c5 ∧ intsAt W o.mem a1 ∧ corsAt W o.cores a5 ∧ o.mem.length ≤ c1 ∧ c1 ≤ 9223372036854775807
def stpsAt (W : World) (l : List (Int × Int)) (a : Option Addr) : Prop := l = [] ∨ ∃ g q, a = some ⟨g, q, none⟩ ∧ ∀ (j : Nat) (x : Int × Int), l[j]? = some x → W.cell? ⟨g, q + j * 2, none⟩ = some (.int .u8 x.1) ∧ W.cell? ⟨g, q + j * 2 + 1, none⟩ = some (.int .i64 x.2)
theorem obC.obA {W : World} {o : Ob} {v : Value} (h : obC W o v) : obA W o v := by
  obtain ⟨a1, c1, a5, c5, h1, h2, h3, _⟩ := h
  exact ⟨a1, c1, a5, c5, h1, h2, h3⟩
theorem stpsAt_below {W W' : World} {l : List (Int × Int)} {a : Option Addr} (h : stpsAt W l a) {n : Nat} (hb : Below n W W') (hn : n = W.heap.size) : stpsAt W' l a := by
  subst hn
  rcases h with h | ⟨g, q, h1, h2⟩
  · exact .inl h
  · exact .inr ⟨g, q, h1, fun j x hj => ⟨(hb.cell (p := ⟨g, q + j * 2, none⟩) (lt_of_at (h2 j x hj).1)).trans (h2 j x hj).1, (hb.cell (p := ⟨g, q + j * 2 + 1, none⟩) (lt_of_at (h2 j x hj).2)).trans (h2 j x hj).2⟩⟩
section
variable {H : Type} {enc : TypeId × Value → H} {W : World} {sp : Nat → Bool} {held : Bool}
theorem sl_cap {t e : TypeId} (ht : Tryd.prog.underlying t = some (.slice e)) {n : Nat} {a : Option Addr} {m c : Nat} {y : DataW H × List MemPlace} (h : DataW.trod enc Tryd.prog W 0 sp held n t [.slice a m c] = some y) : m ≤ c ∧ c ≤ 9223372036854775807 := by
  have hml : maxLen ≤ 9223372036854775807 := by unfold maxLen; decide
  rcases DataW.trod_slice ht h with ⟨hcs, _⟩ | ⟨a', len, cap', elems, rest, k, hk, hcs, hz0, _, hle, hcap, hlen, hes, _⟩
  · injection hcs with hcs _
    injection hcs with h1 h2 h3
    omega
  · injection hcs with hcs _
    injection hcs with h1 h2 h3
    omega
theorem obArg_cap {v : Value} {d : DataW H} {ps : List MemPlace} {o : Ob} (h : obA W o v) (hd : DataW.Trod enc Tryd.prog W 0 sp held 25 v d ps) : obC W o v := by
  obtain ⟨a1, c1, a5, c5, rfl, h1, h2⟩ := h
  obtain ⟨fuel, hf⟩ := hd
  obtain ⟨fs, hu, hty, hk⟩ := typesO
  obtain ⟨m, ys, rfl, hl, hyl, hyd, hf⟩ := open_fieldsM hu hk rfl cellsO hf
  obtain ⟨v0, t0, z0, e0, d0, u0, g0⟩ := hf 0 _ rfl
  have e1 : v0 = .slice a1 o.mem.length c1 := (Option.some.inj (show some (Value.slice a1 o.mem.length c1) = some v0 from e0)).symm
  subst e1
  obtain ⟨q1, q2⟩ := sl_cap u0 g0
  exact ⟨a1, c1, a5, c5, rfl, h1, h2, q1, q2⟩
theorem bytesN : Tryd.prog.bytesOf 3 = 8 := by kernel_rfl
theorem cellsN : Tryd.prog.cellsOf 3 = 1 := by kernel_rfl
theorem bytesS : Tryd.prog.bytesOf 47 = 16 := by kernel_rfl
theorem intsArg_of {r : Reach} {b0 : Nat} {v : Value} {d : DataW H} {ps : List MemPlace} (hval : Value.okWide Tryd.prog W r b0 74 v) (hd : DataW.Trod enc Tryd.prog W 0 sp held 74 v d ps) {ts : List TypeId} {ds : List (DataW H)} (hsz : (DataW.weightsEach Tryd.prog ts ds).all (· ≤ reachBytes) = true) {j : Nat} (ht : ts[j]? = some 74) (hj : ds[j]? = some d) :
    ∃ (l : List Int) (c : Nat) (a : Option Addr), v = .slice a l.length c ∧ intsAt W l a ∧ l.length ≤ 140737488351232 := by
  obtain ⟨a1, n1, c1, rfl⟩ := okWide_slice Tryd.underlying74 hval
  obtain ⟨fuel, hf⟩ := hd
  have hf' : DataW.trod enc Tryd.prog W 0 sp held fuel 74 [.slice a1 n1 c1] = some (d, ps) := hf
  obtain ⟨x, a, cap, e, _, m, ex⟩ := open_listP Tryd.underlying74 cellsN (by decide) (fun (x : Int) cs => cs = [.int .i64 x]) (fun _ _ => True) hf' (fun k cs y hk h => by
    obtain ⟨x, hx, hz, hw⟩ := DataW.trod_int Tryd.underlying3 h
    exact ⟨x, hx, trivial⟩)
  injection e with e1 e2 e3
  subst e1 e2 e3
  have hw : Wgt 74 d := fun n hn => by
    have := List.all_eq_true.1 hsz n (DataW.weights_mem_each ht hj n hn)
    simpa using this
  refine ⟨x, _, _, rfl, ?_, ?_⟩
  · rcases ex with h | ⟨g, q, e, h⟩
    · exact .inl h
    · refine .inr ⟨g, q, e, fun j y hy => ?_⟩
      obtain ⟨cs, rfl, hc⟩ := h j y hy
      have := hc 0 _ rfl
      rw [Nat.add_zero, Nat.mul_one] at this
      exact this
  · have h3 : reachBytes = 140737488351232 := rfl
    rcases m with ⟨_, rfl⟩ | ⟨ds', rest, hz, hlen, _⟩
    · simp
    · simp only at hz
      rw [hz] at hw
      have := (hw.elem Tryd.underlying74).1
      rw [bytesN] at this
      omega
theorem stpsArg_of {r : Reach} {b0 : Nat} {v : Value} {d : DataW H} {ps : List MemPlace} (hval : Value.okWide Tryd.prog W r b0 26 v) (hd : DataW.Trod enc Tryd.prog W 0 sp held 26 v d ps) {ts : List TypeId} {ds : List (DataW H)} (hsz : (DataW.weightsEach Tryd.prog ts ds).all (· ≤ reachBytes) = true) {j : Nat} (ht : ts[j]? = some 26) (hj : ds[j]? = some d) :
    ∃ (l : List (Int × Int)) (c : Nat) (a : Option Addr), v = .slice a l.length c ∧ stpsAt W l a ∧ (∀ x ∈ l, rgS x) ∧ l.length ≤ 140737488351232 := by
  obtain ⟨a1, n1, c1, rfl⟩ := okWide_slice Tryd.underlying26 hval
  obtain ⟨fuel, hf⟩ := hd
  have hf' : DataW.trod enc Tryd.prog W 0 sp held fuel 26 [.slice a1 n1 c1] = some (d, ps) := hf
  obtain ⟨x, a, cap, e, _, m, ex⟩ := open_listP Tryd.underlying26 cellsS (by decide) (fun (x : Int × Int) cs => cs = stpC x ∧ rgS x) (fun _ _ => True) hf' (fun k cs y hk h => by
    obtain ⟨i, h1, _⟩ := openM_stp k cs y h
    exact ⟨i, h1, trivial⟩)
  injection e with e1 e2 e3
  subst e1 e2 e3
  have hw : Wgt 26 d := fun n hn => by
    have := List.all_eq_true.1 hsz n (DataW.weights_mem_each ht hj n hn)
    simpa using this
  refine ⟨x, _, _, rfl, ?_, fun y hy => ?_, ?_⟩
  · rcases ex with h | ⟨g, q, e, h⟩
    · exact .inl h
    · refine .inr ⟨g, q, e, fun j y hy => ?_⟩
      obtain ⟨cs, ⟨rfl, _⟩, hc⟩ := h j y hy
      exact ⟨hc 0 _ rfl, hc 1 _ rfl⟩
  · obtain ⟨j, hj⟩ := List.getElem?_of_mem hy
    rcases ex with h | ⟨g, q, e, h⟩
    · rw [h] at hj; cases hj
    · obtain ⟨cs, ⟨_, h2⟩, _⟩ := h j y hj
      exact h2
  · have h3 : reachBytes = 140737488351232 := rfl
    rcases m with ⟨_, rfl⟩ | ⟨ds', rest, hz, hlen, _⟩
    · simp
    · simp only at hz
      rw [hz] at hw
      have := (hw.elem Tryd.underlying26).1
      rw [bytesS] at this
      omega
end
end Go.Proofs.YtmpljhfinmfnbaaDoor

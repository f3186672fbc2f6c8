/- A step among a law's arguments. -/
import Derived.Test.YtmpljhfinmfnbaaDoorOpq
namespace Go.Proofs.YtmpljhfinmfnbaaDoor
open Go.ChangeShapes Go.WideShapes Go.ChangeAt Go.WideMaps Go.WideElems Go.RowKit
set_option linter.unusedVariables false
set_option maxRecDepth 100000
theorem fieldsS : ∃ fs : Array Go.Field, Tryd.prog.underlying 47 = some (.struct fs) ∧ fs.toList.map (fun f : Go.Field => (f.offset, Tryd.prog.cellsOf f.type, Tryd.prog.underlying f.type)) = [(0, 1, some (.int .u8)), (1, 1, some (.int .i64))] := ⟨_, Tryd.underlying47, by kernel_rfl⟩
theorem cellsS : Tryd.prog.cellsOf 47 = 2 := by kernel_rfl
def stpC (x : Int × Int) : List Value := [.int .u8 x.1, .int .i64 x.2]
def rgS (x : Int × Int) : Prop := (0 ≤ x.1 ∧ x.1 ≤ 255) ∧ (-9223372036854775808 ≤ x.2 ∧ x.2 ≤ 9223372036854775807)
section
variable {H : Type} {enc : TypeId × Value → H} {W : World} {sp : Nat → Bool} {held : Bool}
theorem openM_stp (n : Nat) (cs : List Value) (y : DataW H × List MemPlace) (h : DataW.trod enc Tryd.prog W 0 sp held n 47 cs = some y) : ∃ i : Int × Int, (cs = stpC i ∧ rgS i) ∧ 1 ≤ Rows.uptoBulk y.1 := by
  obtain ⟨fs, hu, hk⟩ := fieldsS
  obtain ⟨m, ys, rfl, hl, hyl, hyd, hf⟩ := open_fieldsM hu hk rfl cellsS h
  obtain ⟨v0, t0, z0, c0, d0, u0, g0⟩ := hf 0 _ rfl
  obtain ⟨v1, t1, z1, c1, d1, u1, g1⟩ := hf 1 _ rfl
  obtain ⟨x0, rfl, w0, m0⟩ := one_intW u0 g0
  obtain ⟨x1, rfl, w1, m1⟩ := one_intW u1 g1
  have hcs : cs = [.int .u8 x0, .int .i64 x1] := by
    apply List.ext_getElem?
    intro i
    match i with
    | 0 => exact c0
    | 1 => exact c1
    | i + 2 => rw [List.getElem?_eq_none (by rw [hl]; simp), List.getElem?_eq_none (by simp)]
  have hys : ys = [z0, z1] := by
    apply List.ext_getElem?
    intro i
    match i with
    | 0 => exact d0
    | 1 => exact d1
    | i + 2 => rw [List.getElem?_eq_none (by rw [hyl]; simp), List.getElem?_eq_none (by simp)]
  have hbk : Rows.uptoBulk y.1 = Rows.uptoBulk z0.1 + Rows.uptoBulk z1.1 + 1 := by rw [hyd, hys]; simp only [List.map_cons, List.map_nil, Rows.uptoBulk, Rows.uptoBulkAll]; omega
  exact ⟨⟨x0, x1⟩, ⟨hcs, ⟨u8_bd w0, i64_bd w1⟩⟩, by rw [hbk]; omega⟩
theorem stpArg_of {r : Reach} {b0 : Nat} {v : Value} {d : DataW H} {ps : List MemPlace} (hval : Value.okWide Tryd.prog W r b0 47 v) (hd : DataW.Trod enc Tryd.prog W 0 sp held 47 v d ps) : ∃ q k : Int, v = .agg #[.int .u8 q, .int .i64 k] ∧ rgS (q, k) := by
  obtain ⟨fs, hu, _⟩ := fieldsS
  obtain ⟨cs, rfl, _⟩ := okWide_struct hu hval
  obtain ⟨fuel, hf⟩ := hd
  obtain ⟨⟨q, k⟩, ⟨h1, h2⟩, _⟩ := openM_stp fuel _ _ hf
  have h1 : cs.toList = stpC (q, k) := by simpa [Value.cells] using h1
  exact ⟨q, k, by rw [show (#[.int .u8 q, .int .i64 k] : Array Value) = cs by rw [← Array.toArray_toList (xs := cs), h1]; rfl], h2⟩
end
end Go.Proofs.YtmpljhfinmfnbaaDoor

/- What the listed variables hold when a law of target begins. -/
import Derived.Test.YtmpljhfinmfnbaaDoorOpq
import Derived.Test.YtmpljhfinmfnbaaDoorGt1
import Derived.Test.YtmpljhfinmfnbaaDoorGt1
namespace Go.Proofs.YtmpljhfinmfnbaaDoor
open Go.ChangeShapes Go.WideShapes Go.ChangeAt Go.WideMaps Go.WideElems Go.RowKit
set_option linter.unusedVariables false
set_option maxRecDepth 100000
theorem tLevT : (Tryd.prog.globals[1]?).map (·.type) = some 175 := by kernel_rfl
theorem gLevT : Tryd.prog.globalNamed "stile/words.levels" = some 1 := by kernel_rfl
theorem gForm : Tryd.prog.globalNamed "stile/target.forms" = some 0 := by kernel_rfl
theorem tForm : (Tryd.prog.globals[0]?).map (·.type) = some 174 := by kernel_rfl
theorem fieldsFm : ∃ fs : Array Go.Field, Tryd.prog.underlying 173 = some (.struct fs) ∧ fs.toList.map (fun f : Go.Field => (f.offset, Tryd.prog.cellsOf f.type, Tryd.prog.underlying f.type)) = [(0, 1, some .string), (1, 1, some (.int .u64))] := ⟨_, Tryd.underlying173, by kernel_rfl⟩
theorem cellsFm : Tryd.prog.cellsOf 173 = 2 := by kernel_rfl
theorem open_form {H : Type} {enc : TypeId × Value → H} {W : World} {sp : Nat → Bool} {held : Bool} {n : Nat} {cs : List Value} {y : DataW H × List MemPlace} (h : DataW.trod enc Tryd.prog W 0 sp held n 173 cs = some y) : ∃ (a : ByteArray) (c : Int), cs = [.string a, .int .u64 c] ∧ y.1 = .agg [.lit (.string a.data.toList), .lit (.int .u64 c)] := by
  obtain ⟨fs, hu, hk⟩ := fieldsFm
  obtain ⟨m, ys, rfl, hl, hyl, hyd, hf⟩ := open_fieldsM hu hk rfl cellsFm h
  obtain ⟨v0, t0, z0, c0, d0, u0, g0⟩ := hf 0 _ rfl
  obtain ⟨v1, t1, z1, c1, d1, u1, g1⟩ := hf 1 _ rfl
  obtain ⟨x0, e0, f0, _⟩ := DataW.trod_string u0 g0
  obtain ⟨x1, e1, f1, _⟩ := DataW.trod_int u1 g1
  obtain rfl := (List.cons.inj e0).1
  obtain rfl := (List.cons.inj e1).1
  refine ⟨x0, x1, ?_, ?_⟩
  · apply List.ext_getElem?
    intro i
    match i with
    | 0 => exact c0
    | 1 => exact c1
    | i + 2 => rw [List.getElem?_eq_none (by rw [hl]; simp), List.getElem?_eq_none (by simp)]
  · rw [hyd]
    have hys : ys = [z0, z1] := by
      apply List.ext_getElem?
      intro i
      match i with
      | 0 => exact d0
      | 1 => exact d1
      | i + 2 => rw [List.getElem?_eq_none (by rw [hyl]; simp), List.getElem?_eq_none (by simp)]
    rw [hys, f0, f1]
    rfl
def fmL : List (List UInt8 × Int) := [([], 0), ([115, 101, 116], 66), ([], 15), ([108, 111, 97, 100], 18), ([115, 116, 111, 114, 101], 20), ([115, 119, 97, 112], 18), ([102, 101, 110, 99, 101], 0), ([112, 114, 105, 110, 116], 4), ([106, 117, 109, 112], 32), ([122, 101, 114, 111], 36), ([104, 97, 108, 116], 0)]
theorem forms_of_vars {W : World} {L : List (String × DataW Unit)} {ps : List MemPlace} (h : DataW.LaidVars Tryd.prog W L ps) (h1 : ("stile/target.forms", Rows.laid_stile_target_forms) ∈ L) : ∀ (i : Nat) (x : List UInt8 × Int), fmL[i]? = some x → W.cell? ⟨0, i * 2, none⟩ = some (.string ⟨x.1.toArray⟩) ∧ W.cell? ⟨0, i * 2 + 1, none⟩ = some (.int .u64 x.2) := by
  obtain ⟨c1, f1, p1, v1, d1⟩ := laid_var gForm tForm h h1
  obtain ⟨xs, m, _, hx, hl, hxl, hf⟩ := DataW.trod_array Tryd.underlying174 d1
  have hfst := (congrArg Prod.fst hx).symm
  simp only at hfst
  unfold Rows.laid_stile_target_forms at hfst
  have hfst := DataW.agg.inj hfst
  rw [cellsFm] at hf
  have hmap : xs.map (·.1) = fmL.map fun x => (DataW.agg [.lit (.string x.1), .lit (.int .u64 x.2)] : DataW Unit) := by rw [hfst]; rfl
  intro i x hi
  have hi11 : i < fmL.length := (List.getElem?_eq_some_iff.1 hi).1
  have h11 : fmL.length = 11 := rfl
  have hxi : i < xs.length := by omega
  have h3 := hf i (by omega)
  rw [List.getElem?_eq_getElem hxi] at h3
  obtain ⟨a, c, hc, hy⟩ := open_form h3
  have hs : (xs.map (·.1))[i]? = some (DataW.agg [.lit (.string x.1), .lit (.int .u64 x.2)]) := by rw [hmap, List.getElem?_map, hi]; rfl
  rw [List.getElem?_map, List.getElem?_eq_getElem hxi, Option.map_some, hy] at hs
  simp at hs
  obtain ⟨h4, h5⟩ := hs
  have at2 : ∀ (j : Nat) (v : Value), [Value.string a, .int .u64 c][j]? = some v → W.cell? ⟨0, i * 2 + j, none⟩ = some v := by
    intro j v hv
    have hj : j < 2 := (List.getElem?_eq_some_iff.1 hv).1
    rw [World.var?_cell gForm v1 (i * 2 + j), ← Array.getElem?_toList]
    rw [← hc, List.getElem?_take, if_pos hj, List.getElem?_drop] at hv
    exact hv
  refine ⟨?_, ?_⟩
  · rw [← h4]
    have := at2 0 _ rfl
    rw [Nat.add_zero] at this
    rw [this]
  · rw [← h5]
    exact at2 1 _ rfl
theorem fm_get (j : Nat) (hj : j < 11) : fmL[j]? = some (formTx.getD j [], formU j) := by
  match j, hj with
  | 0, _ => rfl
  | 1, _ => rfl
  | 2, _ => rfl
  | 3, _ => rfl
  | 4, _ => rfl
  | 5, _ => rfl
  | 6, _ => rfl
  | 7, _ => rfl
  | 8, _ => rfl
  | 9, _ => rfl
  | 10, _ => rfl
  | j + 11, h => omega
abbrev PLT : List (String × DataW Unit) := [("stile/words.levels", Rows.laid_stile_words_levels), ("stile/lexer.languageWords", Rows.laid_stile_lexer_languageWords), ("stile/target.forms", Rows.laid_stile_target_forms)]
theorem tgt_of_laid {W : World} (h : laidMetH Tryd.prog PLT W) : TgT W := by
  rw [MakeChecks.laidMetH_plain _ _ _ (by kernel_rfl)] at h
  obtain ⟨ps, h, _⟩ := h
  obtain ⟨c1, f1, p1, v1, d1⟩ := laid_var gLevT tLevT h (d := Rows.laid_stile_words_levels) (by simp)
  have e1 := Lib.cells_of_tab (k := .i64) (zs := lev) Tryd.underlying175 Tryd.underlying3 (by kernel_rfl) (by kernel_rfl) d1
  have i1 := lt_of_at (v := .int .i64 0) (by rw [World.var?_cell gLevT v1 0, ← Array.getElem?_toList, e1]; rfl)
  have TL : Tabs W := ⟨i1, fun i hi => by
    have := World.var?_cell gLevT v1 i
    rw [← Array.getElem?_toList, e1] at this
    rw [this]
    have hl : i < lev.length := hi
    simp [List.getD, hl]⟩
  have TN : LNm W := lnm_of_vars h (by simp)
  have TF := forms_of_vars h (by simp)
  refine ⟨TL, TN, ?_, fun j hj => (TF j _ (fm_get j hj)).1, fun j hj => (TF j _ (fm_get j hj)).2⟩
  have := lt_of_at (TF 0 _ (fm_get 0 (by omega))).1
  exact this
theorem tdoor_met (os : Os) (args : Array Value) : laidMetH Tryd.prog PLT ((World.doorLaid Tryd.prog 400 os).forCall (fun _ _ => 0) ⟨#[], args, []⟩).memory :=
  laidMetH_of_parts3 (fuel := 8) (laidMet_of_run' 8 (by kernel_rfl) (by kernel_rfl)) (by kernel_rfl) (by kernel_rfl)
end Go.Proofs.YtmpljhfinmfnbaaDoor

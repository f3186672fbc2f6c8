/- What the listed variables of the lexer's seat hold when a call begins, as facts that a walk can use; the witness's start; the last step of a law whose arguments are plain values. -/
import Derived.Test.YteedpojchapjgaaDoorRows
import Derived.WalkKit
import Derived.ProofKit
import Derived.LaidMore
import Derived.OpenShut
import Derived.ShutString
import Derived.Stop.Joined
import Derived.Below
import Derived.WalkSmall
import Derived.SevenTiedAt
import Derived.Handy
import Derived.PlainAid
import Derived.Lib.LaidTab
import Derived.Lib.Hide
import Derived.Lib.Strings
import Derived.Laws.Rows
import Derived.Laws.Tables
import Derived.WalkLawsBesides
namespace Go.Proofs.YteedpojchapjgaaDoor
open Go.ChangeShapes Go.WideShapes Go.ChangeAt Go.WideMaps Go.WideElems Go.RowKit
open Go.ChangeMaps (open_string shut_string)

def wordsL : List (List UInt8) := [[115, 104, 97, 114, 101, 100], [108, 111, 99, 107], [116, 104, 114, 101, 97, 100], [108, 111, 99, 97, 108], [105, 102], [101, 108, 115, 101], [119, 104, 105, 108, 101], [112, 114, 105, 110, 116], [115, 107, 105, 112], [115, 119, 97, 112]]
def longL : List (List UInt8) := [[61, 61], [33, 61], [60, 61], [62, 61], [60, 60], [62, 62]]

theorem own : ownKnob Tryd.prog.godebug = none := by kernel_rfl
theorem gWords : Tryd.prog.globalNamed "stile/lexer.languageWords" = some 0 := by kernel_rfl
theorem gLong : Tryd.prog.globalNamed "stile/lexer.longSigns" = some 2 := by kernel_rfl
theorem tWords : (Tryd.prog.globals[0]?).map (·.type) = some 54 := by kernel_rfl
theorem tLong : (Tryd.prog.globals[2]?).map (·.type) = some 79 := by kernel_rfl

def wordCells : Array Value := (wordsL.map fun s => Value.string ⟨s.toArray⟩).toArray
def longCells : Array Value := (longL.map fun s => Value.string ⟨s.toArray⟩).toArray
/-- What the listed variables hold. -/
structure LTabs (W : World) : Prop where
  words : W.var? Tryd.prog "stile/lexer.languageWords" = some wordCells
  long : W.var? Tryd.prog "stile/lexer.longSigns" = some longCells
  size : 3 ≤ W.heap.size

theorem lt_of_at {w : World} {a : Addr} {v : Value} (h : w.cell? a = some v) : a.block < w.heap.size := by
  apply Nat.lt_of_not_le
  intro hn
  simp [World.cell?, Array.getElem?_eq_none hn] at h
theorem cells_of_strs {H : Type} {enc : TypeId × Value → H} {P : Program} {w : World} {base : Nat} {sp : Nat → Bool} {held : Bool} {fuel : Nat} {t e : TypeId} {n : Nat} {cs : List Value} {ss : List (List UInt8)} {p : List MemPlace}
    (ht : P.underlying t = some (.array n e)) (he : P.underlying e = some .string) (hce : P.cellsOf e = 1) (hct : P.cellsOf t = n)
    (h : DataW.trod enc P w base sp held fuel t cs = some (.agg (ss.map fun s => .lit (.string s)), p)) : cs = ss.map fun s => Value.string ⟨s.toArray⟩ := by
  cases fuel with
  | zero => simp [DataW.trod] at h
  | succ fuel =>
    simp only [DataW.trod, ht, hce, hct, Nat.mul_one] at h
    split at h
    · rename_i hl
      obtain ⟨xs, hm, hx⟩ := Option.map_eq_some_iff.1 h
      have hxs : xs.map (·.1) = ss.map fun s => (DataW.lit (.string s) : DataW H) := by
        have := congrArg Prod.fst hx
        simpa using this
      have hxl : xs.length = n := by simpa using Lib.mapM_length hm
      apply List.ext_getElem?
      intro i
      by_cases hi : i < n
      · obtain ⟨b, hb, hf⟩ := Lib.mapM_at hm i i (by simp [hi])
        obtain ⟨z, hc, rfl, _⟩ := DataW.trod_string he hf
        have h1 : cs[i]? = some (.string z) := by
          have := congrArg (·[0]?) hc
          simpa [List.getElem?_take, List.getElem?_drop] using this
        have h2 : (xs.map (·.1))[i]? = some (DataW.lit (.string z.data.toList) : DataW H) := by simp [hb]
        rw [hxs] at h2
        simp only [List.getElem?_map, Option.map_eq_some_iff, DataW.lit.injEq, Lit.string.injEq] at h2
        obtain ⟨z', hz', e2⟩ := h2
        subst e2
        simp [h1, hz']
      · have hsl : ss.length = n := by
          have := congrArg List.length hxs
          simp at this
          omega
        rw [List.getElem?_eq_none (by omega), List.getElem?_eq_none (by simp; omega)]
    · cases h
theorem LTabs.below {W W' : World} {B : Nat} (T : LTabs W) (hB : W.heap.size ≤ B) (h : Below B W W') : LTabs W' := by
  have hz := T.size
  exact ⟨var?_below h gWords (by omega) T.words, var?_below h gLong (by omega) T.long, by have := h.size; omega⟩
theorem ltabs_of_met {W : World} (h : laidMet Tryd.prog [("stile/lexer.languageWords", Rows.laid_stile_lexer_languageWords), ("stile/lexer.longSigns", Rows.laid_stile_lexer_longSigns)] W) : LTabs W := by
  obtain ⟨ps, ⟨g0, t0, cs0, f0, p0, q0, hg0, ht0, hv0, hd0, ⟨g1, t1, cs1, f1, p1, q1, hg1, ht1, hv1, hd1, _, _⟩, _⟩, _, _⟩ := h
  obtain rfl := Option.some.inj (gWords.symm.trans hg0)
  obtain rfl := Option.some.inj (gLong.symm.trans hg1)
  obtain rfl := Option.some.inj (tWords.symm.trans ht0)
  obtain rfl := Option.some.inj (tLong.symm.trans ht1)
  have c0 := cells_of_strs (ss := wordsL) Tryd.underlying54 Tryd.underlying9 (by kernel_rfl) (by kernel_rfl) hd0
  have c1 := cells_of_strs (ss := longL) Tryd.underlying79 Tryd.underlying9 (by kernel_rfl) (by kernel_rfl) hd1
  have e0 : cs0 = wordCells := by unfold wordCells; rw [← c0]
  have e1 : cs1 = longCells := by unfold longCells; rw [← c1]
  subst e0 e1
  refine ⟨hv0, hv1, ?_⟩
  have := World.var?_cell gLong hv1 0
  exact lt_of_at (v := .string ⟨#[61, 61]⟩) (by rw [this]; rfl)
theorem ltabs_of_laid {W : World} (h : laidMetH Tryd.prog [("stile/lexer.languageWords", Rows.laid_stile_lexer_languageWords), ("stile/lexer.longSigns", Rows.laid_stile_lexer_longSigns)] W) : LTabs W := by
  rw [MakeChecks.laidMetH_plain _ _ _ (by kernel_rfl)] at h
  exact ltabs_of_met h
theorem door_met (os : Os) (args : Array Value) : laidMetH Tryd.prog [("stile/lexer.languageWords", Rows.laid_stile_lexer_languageWords), ("stile/lexer.longSigns", Rows.laid_stile_lexer_longSigns)] ((World.doorLaid Tryd.prog 400 os).forCall (fun _ _ => 0) ⟨#[], args, []⟩).memory :=
  laidMetH_of_parts3 (fuel := 8) (laidMet_of_run' 8 (by kernel_rfl) (by kernel_rfl)) (by kernel_rfl) (by kernel_rfl)

/-- The last step of a law that reads no memory through its arguments and answers true. -/
theorem law_post {H : Type} {enc : TypeId × Value → H} {P : Program} {f : Func} {s : ChangeSpec} {W W' : World} {args : Array Value} {tb : TypeId} {ds : List (DataW H)}
    (hW : DataW.Whole enc P f.params.toList s.vars false W args.toList ds [] []) (hres : f.resultTypes = #[tb]) (hb : P.underlying tb = some .bool)
    (hvars : s.vars = []) (hfn : (s.fn H (ds ++ [])).results = [.lit (.bool true)]) (hfa : (s.fn H (ds ++ [])).args = ds) (hfv : (s.fn H (ds ++ [])).vars = [])
    (hargs : ∀ sp : Nat → Bool, DataW.TrodAll enc P W' 0 sp true f.params.toList args.toList ds [])
    (hk : Below W.heap.size W W') : s.post enc P f false true false false W args (.bool true) W' := by
  have hr : ∀ (b : Nat) (sp : Nat → Bool) (hd : Bool), DataW.TrodAll enc P W' b sp hd f.resultTypes.toList ((Value.bool true).resultList f.resultTypes.size) (s.fn H (ds ++ [])).results [] := fun b sp hd => by
    rw [hfn, hres]
    exact trodAll_mk1 (shut_bool hb _)
  have ha : ∀ sp : Nat → Bool, DataW.TrodAll enc P W' 0 sp true f.params.toList args.toList (s.fn H (ds ++ [])).args [] := fun sp => by
    rw [hfa]; exact hargs sp
  have hv : ∀ sp : Nat → Bool, DataW.TrodVars enc P W' sp s.vars (s.fn H (ds ++ [])).vars [] := fun sp => by
    rw [hvars, hfv]; rfl
  refine ⟨ds, [], [], [], [], [], hW, hr _ _ _, ha _, hv _, World.keptBut_mono (fun p hp => by simp at hp) (hk.frame (· ∈ ([] : List MemPlace))), fun _ => ?_⟩
  refine ⟨?_, _, _, ([] ++ []) ++ [], ⟨[] ++ [], [], trodAll_append (ha _) (hr _ _ _), hv _, rfl, ?_, ?_⟩, ?_⟩
  · exact ok_one hres rfl (okWide_bool_mk hb _)
  · intro b off hp; simp at hp
  · intro hx; simp at hx
  · intro p hp; simp at hp
end Go.Proofs.YteedpojchapjgaaDoor

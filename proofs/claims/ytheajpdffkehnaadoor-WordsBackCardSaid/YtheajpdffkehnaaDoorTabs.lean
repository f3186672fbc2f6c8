/- What the listed variables of the words' seat hold when a call begins, as facts that a walk can use; the witness's start; the last step of a law whose arguments are plain values. -/
import Derived.Test.YtheajpdffkehnaaDoorRows
import Derived.WalkKit
import Derived.ProofKit
import Derived.LaidMore
import Derived.OpenShut
import Derived.ShutString
import Derived.Stop.Joined
import Derived.Below
import Derived.WalkSmall
import Derived.SevenTiedAt
import Derived.Handy
import Derived.Lib.LaidTab
import Derived.Lib.ItoaNum
namespace Go.Proofs.YtheajpdffkehnaaDoor
open Go.ChangeShapes Go.WideShapes Go.ChangeAt Go.WideMaps Go.WideElems Go.RowKit
open Go.ChangeMaps (open_string shut_string)

def lev : List Int := [0, 7, 7, 8, 8, 8, 3, 1, 2, 6, 6, 4, 4, 5, 5, 5, 5, 9, 9]
def sgn : List (List UInt8) := [[], [43], [45], [42], [47], [37], [38], [124], [94], [60, 60], [62, 62], [61, 61], [33, 61], [60], [60, 61], [62], [62, 61], [45], [33]]

theorem own : ownKnob Tryd.prog.godebug = none := by kernel_rfl
theorem gPow : Tryd.prog.globalNamed "internal/strconv.uint64pow10" = some 2 := by kernel_rfl
theorem gLev : Tryd.prog.globalNamed "stile/words.levels" = some 1 := by kernel_rfl
theorem gSgn : Tryd.prog.globalNamed "stile/words.signs" = some 0 := by kernel_rfl
theorem tPow : (Tryd.prog.globals[2]?).map (·.type) = some 80 := by kernel_rfl
theorem tLev : (Tryd.prog.globals[1]?).map (·.type) = some 57 := by kernel_rfl
theorem tSgn : (Tryd.prog.globals[0]?).map (·.type) = some 55 := by kernel_rfl

/-- What the listed variables hold. -/
structure Tabs (W : World) : Prop where
  size : 5 ≤ W.heap.size
  lev : ∀ i, i < 19 → W.cell? ⟨1, i, none⟩ = some (.int .i64 (lev.getD i 0))
  sgn : ∀ i, i < 19 → W.cell? ⟨0, i, none⟩ = some (.string ⟨(sgn.getD i []).toArray⟩)
  pow : Lib.TabIs Tryd.prog W "internal/strconv.uint64pow10" .u64 Lib.pow10Tab

theorem lt_of_at {w : World} {a : Addr} {v : Value} (h : w.cell? a = some v) : a.block < w.heap.size := by
  apply Nat.lt_of_not_le
  intro hn
  simp [World.cell?, Array.getElem?_eq_none hn] at h

/-- An array of strings that reads as a list of texts holds these texts, cell for cell. -/
theorem cells_of_strs {H : Type} {enc : TypeId × Value → H} {P : Program} {w : World} {base : Nat} {sp : Nat → Bool} {held : Bool} {fuel : Nat} {t e : TypeId} {n : Nat} {cs : List Value} {ss : List (List UInt8)} {p : List MemPlace}
    (ht : P.underlying t = some (.array n e)) (he : P.underlying e = some .string) (hce : P.cellsOf e = 1) (hct : P.cellsOf t = n)
    (h : DataW.trod enc P w base sp held fuel t cs = some (.agg (ss.map fun s => .lit (.string s)), p)) : cs = ss.map fun s => Value.string ⟨s.toArray⟩ := by
  cases fuel with
  | zero => simp [DataW.trod] at h
  | succ fuel =>
    simp only [DataW.trod, ht, hce, hct, Nat.mul_one] at h
    split at h
    · rename_i hl
      obtain ⟨xs, hm, hx⟩ := Option.map_eq_some_iff.1 h
      have hxs : xs.map (·.1) = ss.map fun s => (DataW.lit (.string s) : DataW H) := by
        have := congrArg Prod.fst hx
        simpa using this
      have hxl : xs.length = n := by simpa using Lib.mapM_length hm
      apply List.ext_getElem?
      intro i
      by_cases hi : i < n
      · obtain ⟨b, hb, hf⟩ := Lib.mapM_at hm i i (by simp [hi])
        obtain ⟨z, hc, rfl, _⟩ := DataW.trod_string he hf
        have h1 : cs[i]? = some (.string z) := by
          have := congrArg (·[0]?) hc
          simpa [List.getElem?_take, List.getElem?_drop] using this
        have h2 : (xs.map (·.1))[i]? = some (DataW.lit (.string z.data.toList) : DataW H) := by simp [hb]
        rw [hxs] at h2
        simp only [List.getElem?_map, Option.map_eq_some_iff, DataW.lit.injEq, Lit.string.injEq] at h2
        obtain ⟨z', hz', e2⟩ := h2
        subst e2
        simp [h1, hz']
      · have hsl : ss.length = n := by
          have := congrArg List.length hxs
          simp at this
          omega
        rw [List.getElem?_eq_none (by omega), List.getElem?_eq_none (by simp; omega)]
    · cases h

theorem Tabs.below {W W' : World} {B : Nat} (T : Tabs W) (hB : W.heap.size ≤ B) (h : Below B W W') : Tabs W' := by
  have hz := T.size
  have lt : ∀ g, g < 5 → g < B := fun g hg => by omega
  refine ⟨by have := h.size; omega, fun i hi => ?_, fun i hi => ?_, ?_⟩
  · rw [h.cell (p := ⟨1, i, none⟩) (lt 1 (by decide))]; exact T.lev i hi
  · rw [h.cell (p := ⟨0, i, none⟩) (lt 0 (by decide))]; exact T.sgn i hi
  · exact var?_below h gPow (lt _ (by decide)) T.pow

/-- Out of the row's condition. -/
theorem tabs_of_laid {W : World} (h : laidMetH Tryd.prog [("math/bits.deBruijn32tab", Rows.laid_math_bits_deBruijn32tab), ("math/bits.deBruijn64tab", Rows.laid_math_bits_deBruijn64tab), ("internal/strconv.uint64pow10", Rows.laid_internal_strconv_uint64pow10), ("stile/words.levels", Rows.laid_stile_words_levels), ("stile/words.signs", Rows.laid_stile_words_signs)] W) : Tabs W := by
  rw [MakeChecks.laidMetH_plain _ _ _ (by kernel_rfl)] at h
  obtain ⟨ps, ⟨g0, t0, cs0, f0, p0, q0, hg0, ht0, hv0, hd0, ⟨g1, t1, cs1, f1, p1, q1, hg1, ht1, hv1, hd1, ⟨g2, t2, cs2, f2, p2, q2, hg2, ht2, hv2, hd2, ⟨g3, t3, cs3, f3, p3, q3, hg3, ht3, hv3, hd3, ⟨g4, t4, cs4, f4, p4, q4, hg4, ht4, hv4, hd4, _, _⟩, _⟩, _⟩, _⟩, _⟩, _, _⟩ := h
  have g64 : Tryd.prog.globalNamed "math/bits.deBruijn64tab" = some 4 := by kernel_rfl
  have t64 : (Tryd.prog.globals[4]?).map (·.type) = some 87 := by kernel_rfl
  obtain rfl := Option.some.inj (g64.symm.trans hg1)
  obtain rfl := Option.some.inj (t64.symm.trans ht1)
  obtain rfl := Option.some.inj (gPow.symm.trans hg2)
  obtain rfl := Option.some.inj (gLev.symm.trans hg3)
  obtain rfl := Option.some.inj (gSgn.symm.trans hg4)
  obtain rfl := Option.some.inj (tPow.symm.trans ht2)
  obtain rfl := Option.some.inj (tLev.symm.trans ht3)
  obtain rfl := Option.some.inj (tSgn.symm.trans ht4)
  have c1 := Lib.cells_of_tab (k := .u8) (zs := [0, 1, 56, 2, 57, 49, 28, 3, 61, 58, 42, 50, 38, 29, 17, 4, 62, 47, 59, 36, 45, 43, 51, 22, 53, 39, 33, 30, 24, 18, 12, 5, 63, 55, 48, 27, 60, 41, 37, 16, 46, 35, 44, 21, 52, 32, 23, 11, 54, 26, 40, 15, 34, 20, 31, 10, 25, 14, 19, 9, 13, 8, 7, 6]) Tryd.underlying87 Tryd.underlying5 (by kernel_rfl) (by kernel_rfl) hd1
  have c2 := Lib.cells_of_tab (k := .u64) (zs := Lib.pow10Tab) Tryd.underlying80 Tryd.underlying59 (by kernel_rfl) (by kernel_rfl) hd2
  have c3 := Lib.cells_of_tab (k := .i64) (zs := lev) Tryd.underlying57 Tryd.underlying3 (by kernel_rfl) (by kernel_rfl) hd3
  have c4 := cells_of_strs (ss := sgn) Tryd.underlying55 Tryd.underlying9 (by kernel_rfl) (by kernel_rfl) hd4
  have a1 : W.cell? ⟨4, 0, none⟩ = some (.int .u8 0) := by
    have := World.var?_cell g64 hv1 0
    rw [← Array.getElem?_toList, c1] at this
    exact this
  refine ⟨lt_of_at a1, fun i hi => ?_, fun i hi => ?_, ?_⟩
  · have := World.var?_cell gLev hv3 i
    rw [← Array.getElem?_toList, c3] at this
    rw [this]
    have hl : i < lev.length := hi
    simp [List.getD, hl]
  · have := World.var?_cell gSgn hv4 i
    rw [← Array.getElem?_toList, c4] at this
    rw [this]
    have hl : i < sgn.length := hi
    simp [List.getD, hl]
  · unfold Lib.TabIs
    rw [hv2, ← c2]

/-- The door's own heap meets the condition. -/
theorem door_met (os : Os) (args : Array Value) : laidMetH Tryd.prog [("math/bits.deBruijn32tab", Rows.laid_math_bits_deBruijn32tab), ("math/bits.deBruijn64tab", Rows.laid_math_bits_deBruijn64tab), ("internal/strconv.uint64pow10", Rows.laid_internal_strconv_uint64pow10), ("stile/words.levels", Rows.laid_stile_words_levels), ("stile/words.signs", Rows.laid_stile_words_signs)] ((World.doorLaid Tryd.prog 400 os).forCall (fun _ _ => 0) ⟨#[], args, []⟩).memory :=
  laidMetH_of_parts3 (fuel := 8) (laidMet_of_run' 8 (by kernel_rfl) (by kernel_rfl)) (by kernel_rfl) (by kernel_rfl)

/-- The last step of a law that reads no memory through its arguments and answers true. -/
theorem law_post {H : Type} {enc : TypeId × Value → H} {P : Program} {f : Func} {s : ChangeSpec} {W W' : World} {args : Array Value} {tb : TypeId} {ds : List (DataW H)}
    (hW : DataW.Whole enc P f.params.toList s.vars false W args.toList ds [] []) (hres : f.resultTypes = #[tb]) (hb : P.underlying tb = some .bool)
    (hvars : s.vars = []) (hfn : (s.fn H (ds ++ [])).results = [.lit (.bool true)]) (hfa : (s.fn H (ds ++ [])).args = ds) (hfv : (s.fn H (ds ++ [])).vars = [])
    (hargs : ∀ sp : Nat → Bool, DataW.TrodAll enc P W' 0 sp true f.params.toList args.toList ds [])
    (hk : Below W.heap.size W W') : s.post enc P f false true false false W args (.bool true) W' := by
  have hr : ∀ (b : Nat) (sp : Nat → Bool) (hd : Bool), DataW.TrodAll enc P W' b sp hd f.resultTypes.toList ((Value.bool true).resultList f.resultTypes.size) (s.fn H (ds ++ [])).results [] := fun b sp hd => by
    rw [hfn, hres]
    exact trodAll_mk1 (shut_bool hb _)
  have ha : ∀ sp : Nat → Bool, DataW.TrodAll enc P W' 0 sp true f.params.toList args.toList (s.fn H (ds ++ [])).args [] := fun sp => by
    rw [hfa]; exact hargs sp
  have hv : ∀ sp : Nat → Bool, DataW.TrodVars enc P W' sp s.vars (s.fn H (ds ++ [])).vars [] := fun sp => by
    rw [hvars, hfv]; rfl
  refine ⟨ds, [], [], [], [], [], hW, hr _ _ _, ha _, hv _, World.keptBut_mono (fun p hp => by simp at hp) (hk.frame (· ∈ ([] : List MemPlace))), fun _ => ?_⟩
  refine ⟨?_, _, _, ([] ++ []) ++ [], ⟨[] ++ [], [], trodAll_append (ha _) (hr _ _ _), hv _, rfl, ?_, ?_⟩, ?_⟩
  · exact ok_one hres rfl (okWide_bool_mk hb _)
  · intro b off hp; simp at hp
  · intro hx; simp at hx
  · intro p hp; simp at hp
end Go.Proofs.YtheajpdffkehnaaDoor

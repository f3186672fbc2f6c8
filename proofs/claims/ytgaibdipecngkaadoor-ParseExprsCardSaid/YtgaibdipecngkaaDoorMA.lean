/- The proof, part 1: texts that belong together, in one. -/
import Derived.Test.YtgaibdipecngkaaDoorRows
import Derived.WalkKit
import Derived.ProofKit
import Derived.LaidMore
import Derived.OpenShut
import Derived.ShutString
import Derived.Stop.Joined
import Derived.Below
import Derived.WalkSmall
import Derived.SevenTiedAt
import Derived.Handy
import Derived.PlainAid
import Derived.Lib.LaidTab
import Derived.Lib.Hide
import Derived.Lib.Strings
import Derived.Laws.Rows
import Derived.Laws.Tables
import Derived.Lib.ItoaNum
import Derived.MakeChecks
import Derived.WalkLawsBesides
import Derived.Shelf.Small.Strs
import Derived.Shelf.LaysM
import Derived.Shelf.Strconv.Clone
import Derived.Shelf.Strings.Search1
import Derived.Shelf.Strings.Prefix
import Derived.Test.YtgaibdipecngkaaDoorProg
import Derived.Deep.RegionWith
import Derived.Deep.QuietTactic
import Derived.BigQuiet
import Derived.Deep.DeepMust
import Derived.RegionTactic
import Derived.ChangeAlike
import Derived.WalkSpells
import Derived.Laws.EntriesVeiled
import Derived.Outline
import Derived.RangeFuncNested
import Derived.RangeFuncBound
import Derived.RangeFuncCalls
import Derived.RangeFuncLeaves
import Derived.Shelf.Abstract
import Derived.Shelf.RegionOpen
import Derived.OwnWalkIn
import Derived.TacticsInMore
import Derived.LoopNIn
import Derived.LoopIn
import Derived.Maps.AppendAt
import Derived.Sort.QuietIn
namespace Go.Proofs.YtgaibdipecngkaaDoor
open Go.ChangeShapes Go.WideShapes Go.ChangeAt Go.WideMaps Go.WideElems Go.RowKit
open Go.ChangeMaps (open_string shut_string)

def wordsL : List (List UInt8) := [[115, 104, 97, 114, 101, 100], [108, 111, 99, 107], [116, 104, 114, 101, 97, 100], [108, 111, 99, 97, 108], [105, 102], [101, 108, 115, 101], [119, 104, 105, 108, 101], [112, 114, 105, 110, 116], [115, 107, 105, 112], [115, 119, 97, 112]]
def longL : List (List UInt8) := [[61, 61], [33, 61], [60, 61], [62, 61], [60, 60], [62, 62]]

theorem own : ownKnob Tryd.prog.godebug = none := by kernel_rfl
theorem gWords : Tryd.prog.globalNamed "stile/lexer.languageWords" = some 2 := by kernel_rfl
theorem gLong : Tryd.prog.globalNamed "stile/lexer.longSigns" = some 3 := by kernel_rfl
theorem tWords : (Tryd.prog.globals[2]?).map (·.type) = some 129 := by kernel_rfl
theorem tLong : (Tryd.prog.globals[3]?).map (·.type) = some 131 := by kernel_rfl

def wordCells : Array Value := (wordsL.map fun s => Value.string ⟨s.toArray⟩).toArray
def longCells : Array Value := (longL.map fun s => Value.string ⟨s.toArray⟩).toArray
/-- What the listed variables hold. -/
structure LTabs (W : World) : Prop where
  words : W.var? Tryd.prog "stile/lexer.languageWords" = some wordCells
  long : W.var? Tryd.prog "stile/lexer.longSigns" = some longCells
  size1 : 2 < W.heap.size
  size2 : 3 < W.heap.size

theorem lt_of_at {w : World} {a : Addr} {v : Value} (h : w.cell? a = some v) : a.block < w.heap.size := by
  apply Nat.lt_of_not_le
  intro hn
  simp [World.cell?, Array.getElem?_eq_none hn] at h
theorem cells_of_strs {H : Type} {enc : TypeId × Value → H} {P : Program} {w : World} {base : Nat} {sp : Nat → Bool} {held : Bool} {fuel : Nat} {t e : TypeId} {n : Nat} {cs : List Value} {ss : List (List UInt8)} {p : List MemPlace}
    (ht : P.underlying t = some (.array n e)) (he : P.underlying e = some .string) (hce : P.cellsOf e = 1) (hct : P.cellsOf t = n)
    (h : DataW.trod enc P w base sp held fuel t cs = some (.agg (ss.map fun s => .lit (.string s)), p)) : cs = ss.map fun s => Value.string ⟨s.toArray⟩ := by
  cases fuel with
  | zero => simp [DataW.trod] at h
  | succ fuel =>
    simp only [DataW.trod, ht, hce, hct, Nat.mul_one] at h
    split at h
    · rename_i hl
      obtain ⟨xs, hm, hx⟩ := Option.map_eq_some_iff.1 h
      have hxs : xs.map (·.1) = ss.map fun s => (DataW.lit (.string s) : DataW H) := by
        have := congrArg Prod.fst hx
        simpa using this
      have hxl : xs.length = n := by simpa using Lib.mapM_length hm
      apply List.ext_getElem?
      intro i
      by_cases hi : i < n
      · obtain ⟨b, hb, hf⟩ := Lib.mapM_at hm i i (by simp [hi])
        obtain ⟨z, hc, rfl, _⟩ := DataW.trod_string he hf
        have h1 : cs[i]? = some (.string z) := by
          have := congrArg (·[0]?) hc
          simpa [List.getElem?_take, List.getElem?_drop] using this
        have h2 : (xs.map (·.1))[i]? = some (DataW.lit (.string z.data.toList) : DataW H) := by simp [hb]
        rw [hxs] at h2
        simp only [List.getElem?_map, Option.map_eq_some_iff, DataW.lit.injEq, Lit.string.injEq] at h2
        obtain ⟨z', hz', e2⟩ := h2
        subst e2
        simp [h1, hz']
      · have hsl : ss.length = n := by
          have := congrArg List.length hxs
          simp at this
          omega
        rw [List.getElem?_eq_none (by omega), List.getElem?_eq_none (by simp; omega)]
    · cases h
theorem LTabs.below {W W' : World} {B : Nat} (T : LTabs W) (hB : W.heap.size ≤ B) (h : Below B W W') : LTabs W' := by
  have h1 := T.size1
  have h2 := T.size2
  exact ⟨var?_below h gWords (by omega) T.words, var?_below h gLong (by omega) T.long, by have := h.size; omega, by have := h.size; omega⟩
def lev : List Int := [0, 7, 7, 8, 8, 8, 3, 1, 2, 6, 6, 4, 4, 5, 5, 5, 5, 9, 9]
def sgn : List (List UInt8) := [[], [43], [45], [42], [47], [37], [38], [124], [94], [60, 60], [62, 62], [61, 61], [33, 61], [60], [60, 61], [62], [62, 61], [45], [33]]

theorem gLev : Tryd.prog.globalNamed "stile/words.levels" = some 1 := by kernel_rfl
theorem gSgn : Tryd.prog.globalNamed "stile/words.signs" = some 0 := by kernel_rfl
theorem tLev : (Tryd.prog.globals[1]?).map (·.type) = some 115 := by kernel_rfl
theorem tSgn : (Tryd.prog.globals[0]?).map (·.type) = some 114 := by kernel_rfl
/-- What the listed variables of the words hold. -/
structure Tabs (W : World) : Prop where
  size1 : 1 < W.heap.size
  size2 : 0 < W.heap.size
  lev : ∀ i, i < 19 → W.cell? ⟨1, i, none⟩ = some (.int .i64 (lev.getD i 0))
  sgn : ∀ i, i < 19 → W.cell? ⟨0, i, none⟩ = some (.string ⟨(sgn.getD i []).toArray⟩)
theorem Tabs.below {W W' : World} {B : Nat} (T : Tabs W) (hB : W.heap.size ≤ B) (h : Below B W W') : Tabs W' := by
  have h1 := T.size1
  have h2 := T.size2
  refine ⟨by have := h.size; omega, by have := h.size; omega, fun i hi => ?_, fun i hi => ?_⟩
  · rw [h.cell (p := ⟨1, i, none⟩) (by show 1 < B; omega)]; exact T.lev i hi
  · rw [h.cell (p := ⟨0, i, none⟩) (by show 0 < B; omega)]; exact T.sgn i hi
/-- A listed variable, by its name. -/
theorem laid_var {P : Program} {W : World} {n : String} {d : DataW Unit} {g : Nat} {t : TypeId} (hg : P.globalNamed n = some g) (ht : (P.globals[g]?).map (·.type) = some t) : ∀ {L : List (String × DataW Unit)} {ps : List MemPlace}, DataW.LaidVars P W L ps → (n, d) ∈ L →
    ∃ cs fuel p, W.var? P n = some cs ∧ DataW.trod (fun _ => ()) P W 0 (fun _ => true) false fuel t cs.toList = some (d, p)
  | (m, e) :: r, ps, ⟨g', t', cs, fuel, p, q, h1, h2, h3, h4, h5, _⟩, hm => by
    rcases List.mem_cons.1 hm with h | h
    · cases h
      obtain rfl := Option.some.inj (hg.symm.trans h1)
      obtain rfl := Option.some.inj (ht.symm.trans h2)
      exact ⟨cs, fuel, p, h3, h4⟩
    · exact laid_var hg ht h5 h
theorem tabs_of_vars {W : World} {L : List (String × DataW Unit)} {ps : List MemPlace} (h : DataW.LaidVars Tryd.prog W L ps) (h1 : ("stile/words.levels", Rows.laid_stile_words_levels) ∈ L) (h2 : ("stile/words.signs", Rows.laid_stile_words_signs) ∈ L) : Tabs W := by
  obtain ⟨c1, f1, p1, v1, d1⟩ := laid_var gLev tLev h h1
  obtain ⟨c2, f2, p2, v2, d2⟩ := laid_var gSgn tSgn h h2
  have e1 := Lib.cells_of_tab (k := .i64) (zs := lev) Tryd.underlying115 Tryd.underlying3 (by kernel_rfl) (by kernel_rfl) d1
  have e2 := cells_of_strs (ss := sgn) Tryd.underlying114 Tryd.underlying9 (by kernel_rfl) (by kernel_rfl) d2
  have i1 := lt_of_at (v := .int .i64 0) (by rw [World.var?_cell gLev v1 0, ← Array.getElem?_toList, e1]; rfl)
  have i2 := lt_of_at (v := .string ⟨#[]⟩) (by rw [World.var?_cell gSgn v2 0, ← Array.getElem?_toList, e2]; rfl)
  refine ⟨i1, i2, fun i hi => ?_, fun i hi => ?_⟩
  · have := World.var?_cell gLev v1 i
    rw [← Array.getElem?_toList, e1] at this
    rw [this]
    have hl : i < lev.length := hi
    simp [List.getD, hl]
  · have := World.var?_cell gSgn v2 i
    rw [← Array.getElem?_toList, e2] at this
    rw [this]
    have hl : i < sgn.length := hi
    simp [List.getD, hl]
theorem ltabs_of_vars {W : World} {L : List (String × DataW Unit)} {ps : List MemPlace} (h : DataW.LaidVars Tryd.prog W L ps) (h1 : ("stile/lexer.languageWords", Rows.laid_stile_lexer_languageWords) ∈ L) (h2 : ("stile/lexer.longSigns", Rows.laid_stile_lexer_longSigns) ∈ L) : LTabs W := by
  obtain ⟨c1, f1, p1, v1, d1⟩ := laid_var gWords tWords h h1
  obtain ⟨c2, f2, p2, v2, d2⟩ := laid_var gLong tLong h h2
  have e1 := cells_of_strs (ss := wordsL) Tryd.underlying129 Tryd.underlying9 (by kernel_rfl) (by kernel_rfl) d1
  have e2 := cells_of_strs (ss := longL) Tryd.underlying131 Tryd.underlying9 (by kernel_rfl) (by kernel_rfl) d2
  have k1 : c1 = wordCells := by unfold wordCells; rw [← e1]
  have k2 : c2 = longCells := by unfold longCells; rw [← e2]
  subst k1 k2
  have i1 := lt_of_at (v := .string ⟨#[115, 104, 97, 114, 101, 100]⟩) (by rw [World.var?_cell gWords v1 0]; rfl)
  have i2 := lt_of_at (v := .string ⟨#[61, 61]⟩) (by rw [World.var?_cell gLong v2 0]; rfl)
  exact ⟨v1, v2, by simp only at i1 i2; omega, by simp only at i1 i2; omega⟩
/-- The last step of a law that reads no memory through its arguments and answers true. -/
theorem law_post {H : Type} {enc : TypeId × Value → H} {P : Program} {f : Func} {s : ChangeSpec} {W W' : World} {args : Array Value} {tb : TypeId} {ds : List (DataW H)}
    (hW : DataW.Whole enc P f.params.toList s.vars false W args.toList ds [] []) (hres : f.resultTypes = #[tb]) (hb : P.underlying tb = some .bool)
    (hvars : s.vars = []) (hfn : (s.fn H (ds ++ [])).results = [.lit (.bool true)]) (hfa : (s.fn H (ds ++ [])).args = ds) (hfv : (s.fn H (ds ++ [])).vars = [])
    (hargs : ∀ sp : Nat → Bool, DataW.TrodAll enc P W' 0 sp true f.params.toList args.toList ds [])
    (hk : Below W.heap.size W W') : s.post enc P f false true false false W args (.bool true) W' := by
  have hr : ∀ (b : Nat) (sp : Nat → Bool) (hd : Bool), DataW.TrodAll enc P W' b sp hd f.resultTypes.toList ((Value.bool true).resultList f.resultTypes.size) (s.fn H (ds ++ [])).results [] := fun b sp hd => by
    rw [hfn, hres]
    exact trodAll_mk1 (shut_bool hb _)
  have ha : ∀ sp : Nat → Bool, DataW.TrodAll enc P W' 0 sp true f.params.toList args.toList (s.fn H (ds ++ [])).args [] := fun sp => by
    rw [hfa]; exact hargs sp
  have hv : ∀ sp : Nat → Bool, DataW.TrodVars enc P W' sp s.vars (s.fn H (ds ++ [])).vars [] := fun sp => by
    rw [hvars, hfv]; rfl
  refine ⟨ds, [], [], [], [], [], hW, hr _ _ _, ha _, hv _, World.keptBut_mono (fun p hp => by simp at hp) (hk.frame (· ∈ ([] : List MemPlace))), fun _ => ?_⟩
  refine ⟨?_, _, _, ([] ++ []) ++ [], ⟨[] ++ [], [], trodAll_append (ha _) (hr _ _ _), hv _, rfl, ?_, ?_⟩, ?_⟩
  · exact ok_one hres rfl (okWide_bool_mk hb _)
  · intro b off hp; simp at hp
  · intro hx; simp at hx
  · intro p hp; simp at hp
end Go.Proofs.YtgaibdipecngkaaDoor

namespace Go.Proofs
open Go.Shelf
def Tryd.lays137_ren : Go.Shelf.Ren := ⟨fun | 137 => 94 | 217 => 99 | 266 => 101 | n => n, fun | 9 => 9 | 5 => 5 | 3 => 3 | n => n, fun | n => n⟩
theorem Tryd.lays137 : Go.Proofs.Lays.n137 Tryd.prog Tryd.lays137_ren := {
  mixed := by kernel_rfl
  f137 := Tryd.func94.trans (congrArg some (by kernel_rfl))
  f217 := Tryd.func99.trans (congrArg some (by kernel_rfl))
  f266 := Tryd.func101.trans (congrArg some (by kernel_rfl))
  t3 := Tryd.underlying3
  a3 := Tryd.isAgg3
  z3 := Tryd.sizeOf3
  v3 := Tryd.zeroValue3
  t5 := Tryd.underlying5
  a5 := Tryd.isAgg5
  z5 := Tryd.sizeOf5
  v5 := Tryd.zeroValue5
  t9 := Tryd.underlying9
  a9 := Tryd.isAgg9
  z9 := Tryd.sizeOf9
  v9 := Tryd.zeroValue9 }
open Go.RowKit in
/-- strings.IndexByte: "IndexByte returns the index of the first instance of c in s, or -1 if c is not present in s.": IT RETURNS 'Lib.indexByte s c'; the world is as it was. (LAID: no walk: one application.) -/
theorem Tryd.strings_IndexByte (s : ByteArray) (c : Int) (w : World) :
    Calls Tryd.prog 94 #[.string s, .int .u8 c] w fun e w' => e = .returned (.int .i64 (Lib.indexByte s.data.toList c.toNat.toUInt8)) ∧ w' = w := Any.strings_IndexByte Tryd.lays137 s c w
def Tryd.laysM316_ren : Go.Shelf.Ren := ⟨fun | 316 => 100 | n => n, fun | 9 => 9 | 3 => 3 | 4 => 4 | 37 => 132 | 0 => 0 | 127 => 133 | 5 => 5 | n => n, fun | n => n⟩
theorem Tryd.laysM316 : Go.Proofs.LaysM.n316 Tryd.prog Tryd.laysM316_ren := {
  mixed := by kernel_rfl
  f316 := Tryd.func100.trans (congrArg some (by kernel_rfl))
  t0 := Tryd.underlying0
  a0 := Tryd.isAgg0
  z0 := Tryd.sizeOf0
  v0 := Tryd.zeroValue0
  t3 := Tryd.underlying3
  a3 := Tryd.isAgg3
  z3 := Tryd.sizeOf3
  v3 := Tryd.zeroValue3
  t4 := Tryd.underlying4
  a4 := Tryd.isAgg4
  z4 := Tryd.sizeOf4
  v4 := Tryd.zeroValue4
  t9 := Tryd.underlying9
  a9 := Tryd.isAgg9
  z9 := Tryd.sizeOf9
  v9 := Tryd.zeroValue9
  t37 := Tryd.underlying132
  a37 := Tryd.isAgg132
  z37 := Tryd.sizeOf132
  v37 := Tryd.zeroValue132
  t127 := Tryd.underlying133
  a127 := Tryd.isAgg133
  z127 := Tryd.sizeOf133
  v127 := Tryd.zeroValue133
  t5 := Tryd.underlying5
  a5 := Tryd.isAgg5
  z5 := Tryd.sizeOf5
  v5 := Tryd.zeroValue5
  i0 := by kernel_rfl
  i3 := by kernel_rfl
  i4 := by kernel_rfl
  i5 := by kernel_rfl
  i9 := by kernel_rfl
  i37 := by kernel_rfl
  i127 := by kernel_rfl }
open Go.RowKit in
/-- internal/stringslite.Clone (what strings.Clone calls): "Clone returns a fresh copy of s.": THE SAME BYTES. Of what was there nothing has turned (a new row is laid, and frozen, where s is not empty). (LAID: no walk: one application.) -/
theorem Tryd.stringslite_Clone (s : ByteArray) (w : World) (hlim : s.size ≤ 281474976710656) :
    Calls Tryd.prog 100 #[.string s] w fun e w' => e = .returned (.string s) ∧ Below w.heap.size w w' := Any.stringslite_Clone Tryd.laysM316 s w hlim
def Tryd.lays217_ren : Go.Shelf.Ren := ⟨fun | 217 => 99 | 266 => 101 | n => n, fun | 9 => 9 | 5 => 5 | 3 => 3 | n => n, fun | n => n⟩
theorem Tryd.lays217 : Go.Proofs.Lays.n217 Tryd.prog Tryd.lays217_ren := {
  mixed := by kernel_rfl
  f217 := Tryd.func99.trans (congrArg some (by kernel_rfl))
  f266 := Tryd.func101.trans (congrArg some (by kernel_rfl))
  t3 := Tryd.underlying3
  a3 := Tryd.isAgg3
  z3 := Tryd.sizeOf3
  v3 := Tryd.zeroValue3
  t5 := Tryd.underlying5
  a5 := Tryd.isAgg5
  z5 := Tryd.sizeOf5
  v5 := Tryd.zeroValue5
  t9 := Tryd.underlying9
  a9 := Tryd.isAgg9
  z9 := Tryd.sizeOf9
  v9 := Tryd.zeroValue9 }
open Go.RowKit Go.Lib in
/-- internal/stringslite.IndexByte (what strings.IndexByte calls): IT RETURNS 'Lib.indexByte s c'; the world is as it was. (LAID: no walk: one application.) -/
theorem Tryd.stringslite_IndexByte (s : ByteArray) (c : Int) (w : World) :
    Calls Tryd.prog 99 #[.string s, .int .u8 c] w fun e w' => e = .returned (.int .i64 (Lib.indexByte s.data.toList c.toNat.toUInt8)) ∧ w' = w := Any.stringslite_IndexByte Tryd.lays217 s c w
def Tryd.lays206_ren : Go.Shelf.Ren := ⟨fun | 206 => 96 | n => n, fun | 9 => 9 | 4 => 4 | 3 => 3 | n => n, fun | n => n⟩
theorem Tryd.lays206 : Go.Proofs.Lays.n206 Tryd.prog Tryd.lays206_ren := {
  mixed := by kernel_rfl
  f206 := Tryd.func96.trans (congrArg some (by kernel_rfl))
  t3 := Tryd.underlying3
  a3 := Tryd.isAgg3
  z3 := Tryd.sizeOf3
  v3 := Tryd.zeroValue3
  t4 := Tryd.underlying4
  a4 := Tryd.isAgg4
  z4 := Tryd.sizeOf4
  v4 := Tryd.zeroValue4
  t9 := Tryd.underlying9
  a9 := Tryd.isAgg9
  z9 := Tryd.sizeOf9
  v9 := Tryd.zeroValue9 }
open Go.RowKit Go.Lib in
/-- internal/stringslite.HasPrefix (what strings.HasPrefix calls). (LAID: no walk: one application.) -/
theorem Tryd.stringslite_HasPrefix (s p : ByteArray) (w : World) :
    Calls Tryd.prog 96 #[.string s, .string p] w fun e w' => e = .returned (.bool (Lib.hasPrefix s.data.toList p.data.toList)) ∧ w' = w := Any.stringslite_HasPrefix Tryd.lays206 s p w
def Tryd.lays99_ren : Go.Shelf.Ren := ⟨fun | 99 => 81 | 206 => 96 | n => n, fun | 9 => 9 | 4 => 4 | 3 => 3 | n => n, fun | n => n⟩
theorem Tryd.lays99 : Go.Proofs.Lays.n99 Tryd.prog Tryd.lays99_ren := {
  mixed := by kernel_rfl
  f99 := Tryd.func81.trans (congrArg some (by kernel_rfl))
  f206 := Tryd.func96.trans (congrArg some (by kernel_rfl))
  t3 := Tryd.underlying3
  a3 := Tryd.isAgg3
  z3 := Tryd.sizeOf3
  v3 := Tryd.zeroValue3
  t4 := Tryd.underlying4
  a4 := Tryd.isAgg4
  z4 := Tryd.sizeOf4
  v4 := Tryd.zeroValue4
  t9 := Tryd.underlying9
  a9 := Tryd.isAgg9
  z9 := Tryd.sizeOf9
  v9 := Tryd.zeroValue9 }
open Go.RowKit Go.Lib in
/-- strings.HasPrefix: "HasPrefix reports whether the string s begins with prefix.": IT RETURNS 'Lib.hasPrefix s prefix'; the world is as it was. (LAID: no walk: one application.) -/
theorem Tryd.strings_HasPrefix (s p : ByteArray) (w : World) :
    Calls Tryd.prog 81 #[.string s, .string p] w fun e w' => e = .returned (.bool (Lib.hasPrefix s.data.toList p.data.toList)) ∧ w' = w := Any.strings_HasPrefix Tryd.lays99 s p w
end Go.Proofs

namespace Go.Proofs.YtgaibdipecngkaaDoor
open Go.RowKit
set_option linter.unusedVariables false

theorem int_f {a b : Int} (h : a ≠ b) : (a == b) = false := by simpa using h
theorem int_t {a b : Int} (h : a = b) : (a == b) = true := by simpa using h
theorem bytes_t {v s : ByteArray} (h : v.data.toList = s.data.toList) : (v.toList == s.toList) = true := by
  rw [Lib.toList_data, Lib.toList_data, h]; simp
theorem bytes_f {v s : ByteArray} (h : ¬ v.data.toList = s.data.toList) : (v.toList == s.toList) = false := by
  rw [Lib.toList_data, Lib.toList_data]; simpa using h
theorem ret_bool {a b : Bool} (h : a = b) : Ending.returned (.bool a) = .returned (.bool b) := by rw [h]

def letterB (c : Int) : Bool := decide (97 ≤ c ∧ c ≤ 122 ∨ 65 ≤ c ∧ c ≤ 90 ∨ c = 95)
def digitB (c : Int) : Bool := decide (48 ≤ c ∧ c ≤ 57)
def namedB (c : Int) : Bool := letterB c || digitB c
def blankB (c : Int) : Bool := decide (c = 32 ∨ c = 9 ∨ c = 10 ∨ c = 13)
def feedB (c : Int) : Bool := decide (c ≠ 10)
def shortL : List UInt8 := [40, 41, 123, 125, 44, 59, 61, 43, 45, 42, 47, 37, 38, 124, 94, 33, 60, 62]
def signB (c : Int) : Bool := decide (0 ≤ Lib.indexByte shortL c.toNat.toUInt8)
theorem b_t {p : Prop} [Decidable p] (h : p) : decide p = true := by simpa using h
theorem b_f {p : Prop} [Decidable p] (h : ¬ p) : decide p = false := by simpa using h
theorem letter_any (c : Int) (h0 : 0 ≤ c) (h1 : c ≤ 255) (w : World) : Calls Tryd.prog 73 #[.int .u8 c] w fun e w' => e = .returned (.bool (letterB c)) ∧ w = w' := by
  by_cases h : 97 ≤ c ∧ c ≤ 122
  · have e : letterB c = true := b_t (by omega)
    rw [e]
    clear e
    obtain ⟨k0, k1⟩ := h
    go_enter Tryd.func73, Tryd.ntmps73
    go_wp2
    go_ret
    exact ⟨rfl, rfl⟩
  by_cases h : 65 ≤ c ∧ c ≤ 90
  · have e : letterB c = true := b_t (by omega)
    rw [e]
    clear e
    obtain ⟨k0, k1⟩ := h
    go_enter Tryd.func73, Tryd.ntmps73
    go_wp2
    go_ret
    exact ⟨rfl, rfl⟩
  by_cases h : c = 95
  · have e : letterB c = true := b_t (by omega)
    rw [e]
    clear e
    subst h
    go_enter Tryd.func73, Tryd.ntmps73
    go_wp2
    go_ret
    exact ⟨rfl, rfl⟩
  by_cases h : c < 65
  · have e : letterB c = false := b_f (by omega)
    rw [e]
    clear e
    have q : (c == 95) = false := int_f (by omega)
    go_enter Tryd.func73, Tryd.ntmps73
    go_wp2
    go_ret
    exact ⟨rfl, rfl⟩
  by_cases h : 90 < c ∧ c < 95
  · have e : letterB c = false := b_f (by omega)
    rw [e]
    clear e
    have q : (c == 95) = false := int_f (by omega)
    have d90 : decide (c ≤ 90) = false := b_f (by omega)
    go_enter Tryd.func73, Tryd.ntmps73
    go_wp2
    go_ret
    exact ⟨rfl, rfl⟩
  by_cases h : c = 96
  · have e : letterB c = false := b_f (by omega)
    rw [e]
    clear e
    subst h
    go_enter Tryd.func73, Tryd.ntmps73
    go_wp2
    go_ret
    exact ⟨rfl, rfl⟩
  · have h' : 122 < c := by omega
    have e : letterB c = false := b_f (by omega)
    have q : (c == 95) = false := int_f (by omega)
    have d90 : decide (c ≤ 90) = false := b_f (by omega)
    have d122 : decide (c ≤ 122) = false := b_f (by omega)
    rw [e]
    clear e
    go_enter Tryd.func73, Tryd.ntmps73
    go_wp2
    go_ret
    exact ⟨rfl, rfl⟩
theorem digit_any (c : Int) (h0 : 0 ≤ c) (h1 : c ≤ 255) (w : World) : Calls Tryd.prog 75 #[.int .u8 c] w fun e w' => e = .returned (.bool (digitB c)) ∧ w = w' := by
  by_cases k0 : c < 48
  · have e : digitB c = false := b_f (by omega)
    rw [e]
    clear e
    go_enter Tryd.func75, Tryd.ntmps75
    go_wp2
    go_ret
    exact ⟨rfl, rfl⟩
  · by_cases k1 : 57 < c
    · have e : digitB c = false := b_f (by omega)
      have hd : decide (c ≤ 57) = false := b_f (by omega)
      rw [e]
      clear e
      go_enter Tryd.func75, Tryd.ntmps75
      go_wp2
      go_ret
      exact ⟨rfl, rfl⟩
    · have e : digitB c = true := b_t (by omega)
      rw [e]
      clear e
      go_enter Tryd.func75, Tryd.ntmps75
      go_wp2
      go_ret
      exact ⟨rfl, rfl⟩
theorem named_any (c : Int) (h0 : 0 ≤ c) (h1 : c ≤ 255) (w : World) : Calls Tryd.prog 90 #[.int .u8 c] w fun e w' => e = .returned (.bool (namedB c)) ∧ w = w' := by
  have H1 := Lib.hid (fun w => letter_any c h0 h1 w)
  have H2 := Lib.hid (fun w => digit_any c h0 h1 w)
  obtain ⟨a, ha⟩ : ∃ a, a = letterB c := ⟨_, rfl⟩
  obtain ⟨b, hb⟩ : ∃ b, b = digitB c := ⟨_, rfl⟩
  have e : namedB c = (a || b) := by rw [ha, hb]; rfl
  rw [← ha] at H1
  rw [← hb] at H2
  rw [e]
  clear ha hb e
  cases a
  · go_enter Tryd.func90, Tryd.ntmps90
    go_wp2_with (first | (go_at_call 73; refine (H1.out _).mono ?_; rintro e w' ⟨rfl, rfl⟩) | (go_at_call 75; refine (H2.out _).mono ?_; rintro e w' ⟨rfl, rfl⟩))
    go_ret
    exact ⟨rfl, rfl⟩
  · go_enter Tryd.func90, Tryd.ntmps90
    go_wp2_with (first | (go_at_call 73; refine (H1.out _).mono ?_; rintro e w' ⟨rfl, rfl⟩) | (go_at_call 75; refine (H2.out _).mono ?_; rintro e w' ⟨rfl, rfl⟩))
    go_ret
    exact ⟨rfl, rfl⟩
theorem blank_any (c : Int) (h0 : 0 ≤ c) (h1 : c ≤ 255) (w : World) : Calls Tryd.prog 80 #[.int .u8 c] w fun e w' => e = .returned (.bool (blankB c)) ∧ w = w' := by
  by_cases k32 : c = 32
  · subst k32
    have e : blankB 32 = true := b_t (by omega)
    rw [e]
    clear e
    go_enter Tryd.func80, Tryd.ntmps80
    go_wp2
    go_ret
    exact ⟨rfl, rfl⟩
  by_cases k9 : c = 9
  · subst k9
    have e : blankB 9 = true := b_t (by omega)
    rw [e]
    clear e
    go_enter Tryd.func80, Tryd.ntmps80
    go_wp2
    go_ret
    exact ⟨rfl, rfl⟩
  by_cases k10 : c = 10
  · subst k10
    have e : blankB 10 = true := b_t (by omega)
    rw [e]
    clear e
    go_enter Tryd.func80, Tryd.ntmps80
    go_wp2
    go_ret
    exact ⟨rfl, rfl⟩
  by_cases k13 : c = 13
  · subst k13
    have e : blankB 13 = true := b_t (by omega)
    rw [e]
    clear e
    go_enter Tryd.func80, Tryd.ntmps80
    go_wp2
    go_ret
    exact ⟨rfl, rfl⟩
  · have e : blankB c = false := b_f (by omega)
    have q1 := int_f k32
    have q2 := int_f k9
    have q3 := int_f k10
    have q4 := int_f k13
    rw [e]
    clear e k32 k9 k10 k13
    go_enter Tryd.func80, Tryd.ntmps80
    go_wp2
    go_ret
    exact ⟨rfl, rfl⟩
theorem feed_any (c : Int) (h0 : 0 ≤ c) (h1 : c ≤ 255) (w : World) : Calls Tryd.prog 82 #[.int .u8 c] w fun e w' => e = .returned (.bool (feedB c)) ∧ w = w' := by
  by_cases k : c = 10
  · subst k
    have e : feedB 10 = false := b_f (by omega)
    rw [e]
    clear e
    go_enter Tryd.func82, Tryd.ntmps82
    go_wp2
    go_ret
    exact ⟨rfl, rfl⟩
  · have e : feedB c = true := b_t k
    have q : (c != 10) = true := by simpa using k
    rw [e]
    clear e k
    go_enter Tryd.func82, Tryd.ntmps82
    go_wp2
    go_ret
    exact ⟨rfl, rfl⟩
theorem sign_any (c : Int) (h0 : 0 ≤ c) (h1 : c ≤ 255) (w : World) : Calls Tryd.prog 77 #[.int .u8 c] w fun e w' => e = .returned (.bool (signB c)) ∧ w = w' := by
  have H := Lib.hid (show ∀ w : World, Calls Tryd.prog 94 #[.string ⟨#[40, 41, 123, 125, 44, 59, 61, 43, 45, 42, 47, 37, 38, 124, 94, 33, 60, 62]⟩, .int .u8 c] w fun e w' => e = .returned (.int .i64 (Lib.indexByte shortL c.toNat.toUInt8)) ∧ w' = w from fun w => Go.Proofs.Tryd.strings_IndexByte _ c w)
  unfold signB
  obtain ⟨v, hv⟩ : ∃ v, v = Lib.indexByte shortL c.toNat.toUInt8 := ⟨_, rfl⟩
  rw [← hv] at H ⊢
  clear hv h0 h1
  go_enter Tryd.func77, Tryd.ntmps77
  go_wp2_with (go_at_call 94; refine (H.out _).mono ?_; rintro e w' ⟨rfl, rfl⟩)
  go_ret
  exact ⟨rfl, rfl⟩
/-- How many bytes at the beginning are such. -/
def spanN (p : Int → Bool) : List UInt8 → Nat
  | [] => 0
  | c :: r => if p (c.toNat : Int) = true then spanN p r + 1 else 0
theorem spanN_le (p : Int → Bool) : ∀ l : List UInt8, spanN p l ≤ l.length
  | [] => Nat.le_refl _
  | c :: r => by
    simp only [spanN, List.length_cons]
    have := spanN_le p r
    split <;> omega
/-- A text's bytes from a place on. -/
def bytesFrom (s : ByteArray) (n : Nat) : List UInt8 := s.data.toList.drop n
theorem from_at (s : ByteArray) (k : Nat) (h : k < s.size) : bytesFrom s k = s[k] :: bytesFrom s (k + 1) := by
  unfold bytesFrom
  rw [List.drop_eq_getElem_cons (by simpa using h)]; rfl
theorem from_end (s : ByteArray) (k : Nat) (h : s.size ≤ k) : bytesFrom s k = [] := List.drop_of_length_le (by simpa using h)
theorem from_nought (s : ByteArray) : bytesFrom s 0 = s.data.toList := rfl
theorem span_digit (s : ByteArray) (hs : s.size ≤ 4611686018427387904) (w : World) : Calls Tryd.prog 79 #[.string s, .func (.func 75) #[] #[]] w fun e w' => e = .returned (.int .i64 (spanN digitB s.data.toList)) ∧ w = w' := by
  obtain ⟨R, hR⟩ : ∃ R, R = spanN digitB s.data.toList := ⟨_, rfl⟩
  rw [← hR]
  have HR := Lib.hid hR
  clear hR
  go_enter Tryd.func79, Tryd.ntmps79
  go_wp2_with fail
  go_loop [8] (fun i => ∃ k : Nat, k ≤ s.size ∧ i = .int .i64 k ∧ Hid (spanN digitB (bytesFrom s k) + k = R)) (fun i => s.size - (intOf i).toNat)
  case atStart => exact ⟨0, Nat.zero_le _, rfl, HR.out.symm⟩
  case round =>
    obtain ⟨k, hk, rfl, hp⟩ := hrel
    by_cases hlt : k < s.size
    · have hx0 := PlainAid.bt_nonneg s k
      have hx1 := PlainAid.bt_le s k
      have hu : ((s[k]).toNat : Int) = PlainAid.bt s k := PlainAid.get_bt s k hlt
      have hfr := from_at s k hlt
      obtain ⟨c, hc⟩ : ∃ c, c = PlainAid.bt s k := ⟨_, rfl⟩
      have hbt : ∀ h : k < s.size, ((s[k]'h).toNat : Int) = c := fun h => by rw [hc]; exact PlainAid.get_bt s k h
      rw [← hc] at hu hx0 hx1
      clear hc
      have H := Lib.hid (fun w => digit_any c hx0 hx1 w)
      by_cases hpc : digitB c = true
      · have hn : Hid (spanN digitB (bytesFrom s (k + 1)) + (k + 1) = R) := by
          rw [Hid, ← hp.out, hfr]; simp only [spanN]; rw [hu, if_pos hpc]; omega
        rw [hpc] at H
        clear hfr hu hp hpc
        go_wp2_with (go_at_call 75; refine (H.out _).mono ?_; rintro e w' ⟨rfl, rfl⟩)
        go_round
        case rel => exact ⟨k + 1, by omega, by go_num, hn⟩
        case measure => simp [intOf]; omega
      · have hn : Hid (k = R) := by
          rw [Hid, ← hp.out, hfr]; simp only [spanN]; rw [hu, if_neg hpc]; omega
        have hpf : digitB c = false := by simpa using hpc
        rw [hpf] at H
        clear hfr hu hp hpc hpf
        go_wp2_with (go_at_call 75; refine (H.out _).mono ?_; rintro e w' ⟨rfl, rfl⟩)
        go_ret
        rw [← hn.out]
        exact ⟨rfl, rfl⟩
    · have hn : Hid (s.size = R) := by
        rw [Hid, ← hp.out, from_end s k (by omega)]; simp only [spanN]; omega
      clear hp
      go_wp2_with fail
      go_ret
      rw [← hn.out]
      exact ⟨rfl, rfl⟩
theorem span_named (s : ByteArray) (hs : s.size ≤ 4611686018427387904) (w : World) : Calls Tryd.prog 79 #[.string s, .func (.func 90) #[] #[]] w fun e w' => e = .returned (.int .i64 (spanN namedB s.data.toList)) ∧ w = w' := by
  obtain ⟨R, hR⟩ : ∃ R, R = spanN namedB s.data.toList := ⟨_, rfl⟩
  rw [← hR]
  have HR := Lib.hid hR
  clear hR
  go_enter Tryd.func79, Tryd.ntmps79
  go_wp2_with fail
  go_loop [8] (fun i => ∃ k : Nat, k ≤ s.size ∧ i = .int .i64 k ∧ Hid (spanN namedB (bytesFrom s k) + k = R)) (fun i => s.size - (intOf i).toNat)
  case atStart => exact ⟨0, Nat.zero_le _, rfl, HR.out.symm⟩
  case round =>
    obtain ⟨k, hk, rfl, hp⟩ := hrel
    by_cases hlt : k < s.size
    · have hx0 := PlainAid.bt_nonneg s k
      have hx1 := PlainAid.bt_le s k
      have hu : ((s[k]).toNat : Int) = PlainAid.bt s k := PlainAid.get_bt s k hlt
      have hfr := from_at s k hlt
      obtain ⟨c, hc⟩ : ∃ c, c = PlainAid.bt s k := ⟨_, rfl⟩
      have hbt : ∀ h : k < s.size, ((s[k]'h).toNat : Int) = c := fun h => by rw [hc]; exact PlainAid.get_bt s k h
      rw [← hc] at hu hx0 hx1
      clear hc
      have H := Lib.hid (fun w => named_any c hx0 hx1 w)
      by_cases hpc : namedB c = true
      · have hn : Hid (spanN namedB (bytesFrom s (k + 1)) + (k + 1) = R) := by
          rw [Hid, ← hp.out, hfr]; simp only [spanN]; rw [hu, if_pos hpc]; omega
        rw [hpc] at H
        clear hfr hu hp hpc
        go_wp2_with (go_at_call 90; refine (H.out _).mono ?_; rintro e w' ⟨rfl, rfl⟩)
        go_round
        case rel => exact ⟨k + 1, by omega, by go_num, hn⟩
        case measure => simp [intOf]; omega
      · have hn : Hid (k = R) := by
          rw [Hid, ← hp.out, hfr]; simp only [spanN]; rw [hu, if_neg hpc]; omega
        have hpf : namedB c = false := by simpa using hpc
        rw [hpf] at H
        clear hfr hu hp hpc hpf
        go_wp2_with (go_at_call 90; refine (H.out _).mono ?_; rintro e w' ⟨rfl, rfl⟩)
        go_ret
        rw [← hn.out]
        exact ⟨rfl, rfl⟩
    · have hn : Hid (s.size = R) := by
        rw [Hid, ← hp.out, from_end s k (by omega)]; simp only [spanN]; omega
      clear hp
      go_wp2_with fail
      go_ret
      rw [← hn.out]
      exact ⟨rfl, rfl⟩
theorem span_blank (s : ByteArray) (hs : s.size ≤ 4611686018427387904) (w : World) : Calls Tryd.prog 79 #[.string s, .func (.func 80) #[] #[]] w fun e w' => e = .returned (.int .i64 (spanN blankB s.data.toList)) ∧ w = w' := by
  obtain ⟨R, hR⟩ : ∃ R, R = spanN blankB s.data.toList := ⟨_, rfl⟩
  rw [← hR]
  have HR := Lib.hid hR
  clear hR
  go_enter Tryd.func79, Tryd.ntmps79
  go_wp2_with fail
  go_loop [8] (fun i => ∃ k : Nat, k ≤ s.size ∧ i = .int .i64 k ∧ Hid (spanN blankB (bytesFrom s k) + k = R)) (fun i => s.size - (intOf i).toNat)
  case atStart => exact ⟨0, Nat.zero_le _, rfl, HR.out.symm⟩
  case round =>
    obtain ⟨k, hk, rfl, hp⟩ := hrel
    by_cases hlt : k < s.size
    · have hx0 := PlainAid.bt_nonneg s k
      have hx1 := PlainAid.bt_le s k
      have hu : ((s[k]).toNat : Int) = PlainAid.bt s k := PlainAid.get_bt s k hlt
      have hfr := from_at s k hlt
      obtain ⟨c, hc⟩ : ∃ c, c = PlainAid.bt s k := ⟨_, rfl⟩
      have hbt : ∀ h : k < s.size, ((s[k]'h).toNat : Int) = c := fun h => by rw [hc]; exact PlainAid.get_bt s k h
      rw [← hc] at hu hx0 hx1
      clear hc
      have H := Lib.hid (fun w => blank_any c hx0 hx1 w)
      by_cases hpc : blankB c = true
      · have hn : Hid (spanN blankB (bytesFrom s (k + 1)) + (k + 1) = R) := by
          rw [Hid, ← hp.out, hfr]; simp only [spanN]; rw [hu, if_pos hpc]; omega
        rw [hpc] at H
        clear hfr hu hp hpc
        go_wp2_with (go_at_call 80; refine (H.out _).mono ?_; rintro e w' ⟨rfl, rfl⟩)
        go_round
        case rel => exact ⟨k + 1, by omega, by go_num, hn⟩
        case measure => simp [intOf]; omega
      · have hn : Hid (k = R) := by
          rw [Hid, ← hp.out, hfr]; simp only [spanN]; rw [hu, if_neg hpc]; omega
        have hpf : blankB c = false := by simpa using hpc
        rw [hpf] at H
        clear hfr hu hp hpc hpf
        go_wp2_with (go_at_call 80; refine (H.out _).mono ?_; rintro e w' ⟨rfl, rfl⟩)
        go_ret
        rw [← hn.out]
        exact ⟨rfl, rfl⟩
    · have hn : Hid (s.size = R) := by
        rw [Hid, ← hp.out, from_end s k (by omega)]; simp only [spanN]; omega
      clear hp
      go_wp2_with fail
      go_ret
      rw [← hn.out]
      exact ⟨rfl, rfl⟩
theorem span_feed (s : ByteArray) (hs : s.size ≤ 4611686018427387904) (w : World) : Calls Tryd.prog 79 #[.string s, .func (.func 82) #[] #[]] w fun e w' => e = .returned (.int .i64 (spanN feedB s.data.toList)) ∧ w = w' := by
  obtain ⟨R, hR⟩ : ∃ R, R = spanN feedB s.data.toList := ⟨_, rfl⟩
  rw [← hR]
  have HR := Lib.hid hR
  clear hR
  go_enter Tryd.func79, Tryd.ntmps79
  go_wp2_with fail
  go_loop [8] (fun i => ∃ k : Nat, k ≤ s.size ∧ i = .int .i64 k ∧ Hid (spanN feedB (bytesFrom s k) + k = R)) (fun i => s.size - (intOf i).toNat)
  case atStart => exact ⟨0, Nat.zero_le _, rfl, HR.out.symm⟩
  case round =>
    obtain ⟨k, hk, rfl, hp⟩ := hrel
    by_cases hlt : k < s.size
    · have hx0 := PlainAid.bt_nonneg s k
      have hx1 := PlainAid.bt_le s k
      have hu : ((s[k]).toNat : Int) = PlainAid.bt s k := PlainAid.get_bt s k hlt
      have hfr := from_at s k hlt
      obtain ⟨c, hc⟩ : ∃ c, c = PlainAid.bt s k := ⟨_, rfl⟩
      have hbt : ∀ h : k < s.size, ((s[k]'h).toNat : Int) = c := fun h => by rw [hc]; exact PlainAid.get_bt s k h
      rw [← hc] at hu hx0 hx1
      clear hc
      have H := Lib.hid (fun w => feed_any c hx0 hx1 w)
      by_cases hpc : feedB c = true
      · have hn : Hid (spanN feedB (bytesFrom s (k + 1)) + (k + 1) = R) := by
          rw [Hid, ← hp.out, hfr]; simp only [spanN]; rw [hu, if_pos hpc]; omega
        rw [hpc] at H
        clear hfr hu hp hpc
        go_wp2_with (go_at_call 82; refine (H.out _).mono ?_; rintro e w' ⟨rfl, rfl⟩)
        go_round
        case rel => exact ⟨k + 1, by omega, by go_num, hn⟩
        case measure => simp [intOf]; omega
      · have hn : Hid (k = R) := by
          rw [Hid, ← hp.out, hfr]; simp only [spanN]; rw [hu, if_neg hpc]; omega
        have hpf : feedB c = false := by simpa using hpc
        rw [hpf] at H
        clear hfr hu hp hpc hpf
        go_wp2_with (go_at_call 82; refine (H.out _).mono ?_; rintro e w' ⟨rfl, rfl⟩)
        go_ret
        rw [← hn.out]
        exact ⟨rfl, rfl⟩
    · have hn : Hid (s.size = R) := by
        rw [Hid, ← hp.out, from_end s k (by omega)]; simp only [spanN]; omega
      clear hp
      go_wp2_with fail
      go_ret
      rw [← hn.out]
      exact ⟨rfl, rfl⟩
end Go.Proofs.YtgaibdipecngkaaDoor

namespace Go.Proofs.YtgaibdipecngkaaDoor
open Go.RowKit
set_option linter.unusedVariables false

theorem var_heap {P : Program} {w : World} {n : String} {g : Nat} {cs : Array Value} (hg : P.globalNamed n = some g) (h : w.var? P n = some cs) : ∃ t fr, w.heap[g]? = some (.cells cs t fr) := by
  simp only [World.var?, hg, Option.bind_some] at h
  split at h
  · rename_i c e fr he
    simp only [Option.some.injEq] at h
    subst h
    exact ⟨_, _, he⟩
  · cases h
def wordAt (k : Nat) : ByteArray := ⟨(wordsL.getD k []).toArray⟩
def longAt (k : Nat) : ByteArray := ⟨(longL.getD k []).toArray⟩
/-- Is it a word of the language? -/
def wordB (s : ByteArray) : Bool := (wordAt 0).toList == s.toList || (wordAt 1).toList == s.toList || (wordAt 2).toList == s.toList || (wordAt 3).toList == s.toList || (wordAt 4).toList == s.toList || (wordAt 5).toList == s.toList || (wordAt 6).toList == s.toList || (wordAt 7).toList == s.toList || (wordAt 8).toList == s.toList || (wordAt 9).toList == s.toList
set_option maxHeartbeats 1000000 in
theorem word_any (s : ByteArray) (w : World) (T : LTabs w) : Calls Tryd.prog 91 #[.string s] w fun e w' => e = .returned (.bool (wordB s)) ∧ w = w' := by
  obtain ⟨tt, fr, hg⟩ := var_heap gWords T.words
  have i0 : ∀ w, (Instr.index 129 (.agg wordCells) (.int .i64 0)).run Tryd.prog w = .ok (.string (wordAt 0)) w := fun _ => by kernel_rfl
  have i1 : ∀ w, (Instr.index 129 (.agg wordCells) (.int .i64 1)).run Tryd.prog w = .ok (.string (wordAt 1)) w := fun _ => by kernel_rfl
  have i2 : ∀ w, (Instr.index 129 (.agg wordCells) (.int .i64 2)).run Tryd.prog w = .ok (.string (wordAt 2)) w := fun _ => by kernel_rfl
  have i3 : ∀ w, (Instr.index 129 (.agg wordCells) (.int .i64 3)).run Tryd.prog w = .ok (.string (wordAt 3)) w := fun _ => by kernel_rfl
  have i4 : ∀ w, (Instr.index 129 (.agg wordCells) (.int .i64 4)).run Tryd.prog w = .ok (.string (wordAt 4)) w := fun _ => by kernel_rfl
  have i5 : ∀ w, (Instr.index 129 (.agg wordCells) (.int .i64 5)).run Tryd.prog w = .ok (.string (wordAt 5)) w := fun _ => by kernel_rfl
  have i6 : ∀ w, (Instr.index 129 (.agg wordCells) (.int .i64 6)).run Tryd.prog w = .ok (.string (wordAt 6)) w := fun _ => by kernel_rfl
  have i7 : ∀ w, (Instr.index 129 (.agg wordCells) (.int .i64 7)).run Tryd.prog w = .ok (.string (wordAt 7)) w := fun _ => by kernel_rfl
  have i8 : ∀ w, (Instr.index 129 (.agg wordCells) (.int .i64 8)).run Tryd.prog w = .ok (.string (wordAt 8)) w := fun _ => by kernel_rfl
  have i9 : ∀ w, (Instr.index 129 (.agg wordCells) (.int .i64 9)).run Tryd.prog w = .ok (.string (wordAt 9)) w := fun _ => by kernel_rfl
  clear T
  go_enter Tryd.func91, Tryd.ntmps91
  go_wp2_with (refine wpList_load_row rfl 129 _ rfl 2 rfl tt _ fr _ hg Tryd.underlying129 rfl (by kernel_rfl) ?_)
  go_rounds 11
  all_goals
    go_ret
    exact ⟨ret_bool (by simp [wordB, *]), rfl⟩
end Go.Proofs.YtgaibdipecngkaaDoor

namespace Go.Proofs.YtgaibdipecngkaaDoor
open Go.RowKit
set_option linter.unusedVariables false

/-- Does one of the long signs stand at the beginning? -/
def longB (l : List UInt8) : Bool := Lib.hasPrefix l (longAt 0).data.toList || Lib.hasPrefix l (longAt 1).data.toList || Lib.hasPrefix l (longAt 2).data.toList || Lib.hasPrefix l (longAt 3).data.toList || Lib.hasPrefix l (longAt 4).data.toList || Lib.hasPrefix l (longAt 5).data.toList
def firstN (l : List UInt8) : Nat := match l with
  | [] => 0
  | c :: _ => if signB (c.toNat : Int) = true then 1 else 0
/-- How long the longest sign is at the beginning. -/
def aheadN (l : List UInt8) : Nat := if longB l = true then 2 else firstN l
theorem ret_int {k : IntKind} {a b : Int} (h : a = b) : Ending.returned (.int k a) = .returned (.int k b) := by rw [h]
set_option maxHeartbeats 1000000 in
theorem ahead_none (s : ByteArray) (w : World) (T : LTabs w) (h0 : s.size = 0) : Calls Tryd.prog 95 #[.string s] w fun e w' => e = .returned (.int .i64 (aheadN s.data.toList)) ∧ w = w' := by
  obtain ⟨tt, fr, hg⟩ := var_heap gLong T.long
  obtain ⟨R, hR⟩ : ∃ R, R = aheadN s.data.toList := ⟨_, rfl⟩
  rw [← hR]
  have i0 : ∀ w, (Instr.index 131 (.agg longCells) (.int .i64 0)).run Tryd.prog w = .ok (.string (longAt 0)) w := fun _ => by kernel_rfl
  have z0 : (longAt 0).size = 2 := rfl
  obtain ⟨p0, hp0⟩ : ∃ p, p = Lib.hasPrefix s.data.toList (longAt 0).data.toList := ⟨_, rfl⟩
  have H0 := Lib.hid (show ∀ w : World, Calls Tryd.prog 81 #[.string s, .string (longAt 0)] w fun e w' => e = .returned (.bool p0) ∧ w' = w from fun w => by rw [hp0]; exact Go.Proofs.Tryd.strings_HasPrefix s (longAt 0) w)
  have i1 : ∀ w, (Instr.index 131 (.agg longCells) (.int .i64 1)).run Tryd.prog w = .ok (.string (longAt 1)) w := fun _ => by kernel_rfl
  have z1 : (longAt 1).size = 2 := rfl
  obtain ⟨p1, hp1⟩ : ∃ p, p = Lib.hasPrefix s.data.toList (longAt 1).data.toList := ⟨_, rfl⟩
  have H1 := Lib.hid (show ∀ w : World, Calls Tryd.prog 81 #[.string s, .string (longAt 1)] w fun e w' => e = .returned (.bool p1) ∧ w' = w from fun w => by rw [hp1]; exact Go.Proofs.Tryd.strings_HasPrefix s (longAt 1) w)
  have i2 : ∀ w, (Instr.index 131 (.agg longCells) (.int .i64 2)).run Tryd.prog w = .ok (.string (longAt 2)) w := fun _ => by kernel_rfl
  have z2 : (longAt 2).size = 2 := rfl
  obtain ⟨p2, hp2⟩ : ∃ p, p = Lib.hasPrefix s.data.toList (longAt 2).data.toList := ⟨_, rfl⟩
  have H2 := Lib.hid (show ∀ w : World, Calls Tryd.prog 81 #[.string s, .string (longAt 2)] w fun e w' => e = .returned (.bool p2) ∧ w' = w from fun w => by rw [hp2]; exact Go.Proofs.Tryd.strings_HasPrefix s (longAt 2) w)
  have i3 : ∀ w, (Instr.index 131 (.agg longCells) (.int .i64 3)).run Tryd.prog w = .ok (.string (longAt 3)) w := fun _ => by kernel_rfl
  have z3 : (longAt 3).size = 2 := rfl
  obtain ⟨p3, hp3⟩ : ∃ p, p = Lib.hasPrefix s.data.toList (longAt 3).data.toList := ⟨_, rfl⟩
  have H3 := Lib.hid (show ∀ w : World, Calls Tryd.prog 81 #[.string s, .string (longAt 3)] w fun e w' => e = .returned (.bool p3) ∧ w' = w from fun w => by rw [hp3]; exact Go.Proofs.Tryd.strings_HasPrefix s (longAt 3) w)
  have i4 : ∀ w, (Instr.index 131 (.agg longCells) (.int .i64 4)).run Tryd.prog w = .ok (.string (longAt 4)) w := fun _ => by kernel_rfl
  have z4 : (longAt 4).size = 2 := rfl
  obtain ⟨p4, hp4⟩ : ∃ p, p = Lib.hasPrefix s.data.toList (longAt 4).data.toList := ⟨_, rfl⟩
  have H4 := Lib.hid (show ∀ w : World, Calls Tryd.prog 81 #[.string s, .string (longAt 4)] w fun e w' => e = .returned (.bool p4) ∧ w' = w from fun w => by rw [hp4]; exact Go.Proofs.Tryd.strings_HasPrefix s (longAt 4) w)
  have i5 : ∀ w, (Instr.index 131 (.agg longCells) (.int .i64 5)).run Tryd.prog w = .ok (.string (longAt 5)) w := fun _ => by kernel_rfl
  have z5 : (longAt 5).size = 2 := rfl
  obtain ⟨p5, hp5⟩ : ∃ p, p = Lib.hasPrefix s.data.toList (longAt 5).data.toList := ⟨_, rfl⟩
  have H5 := Lib.hid (show ∀ w : World, Calls Tryd.prog 81 #[.string s, .string (longAt 5)] w fun e w' => e = .returned (.bool p5) ∧ w' = w from fun w => by rw [hp5]; exact Go.Proofs.Tryd.strings_HasPrefix s (longAt 5) w)
  have hRR : Hid (R = if (p0 || p1 || p2 || p3 || p4 || p5) = true then 2 else firstN s.data.toList) := by
    rw [Hid, hR, hp0, hp1, hp2, hp3, hp4, hp5]; rfl
  clear hR hp0 hp1 hp2 hp3 hp4 hp5 T
  have h3 : s = ⟨#[]⟩ := by
    cases s with
    | mk d => have : d.size = 0 := h0; simp at this; rw [this]
  subst h3
  have hf : firstN (ByteArray.mk #[]).data.toList = 0 := rfl
  rw [hf] at hRR
  clear h0 hf
  go_enter Tryd.func95, Tryd.ntmps95
  go_wp2_with (refine wpList_load_row rfl 131 _ rfl 3 rfl tt _ fr _ hg Tryd.underlying131 rfl (by kernel_rfl) ?_)
  refine wp_loop_rounds 7 ?_
  repeat any_goals (rw [rounds_succ]; go_wp2_with (first | (go_at_call 81; (with_reducible refine (H0.out _).mono ?_); rintro e w' ⟨rfl, rfl⟩) | (go_at_call 81; (with_reducible refine (H1.out _).mono ?_); rintro e w' ⟨rfl, rfl⟩) | (go_at_call 81; (with_reducible refine (H2.out _).mono ?_); rintro e w' ⟨rfl, rfl⟩) | (go_at_call 81; (with_reducible refine (H3.out _).mono ?_); rintro e w' ⟨rfl, rfl⟩) | (go_at_call 81; (with_reducible refine (H4.out _).mono ?_); rintro e w' ⟨rfl, rfl⟩) | (go_at_call 81; (with_reducible refine (H5.out _).mono ?_); rintro e w' ⟨rfl, rfl⟩)))
  all_goals
    go_ret
    refine ⟨ret_int ?_, rfl⟩
    rw [hRR.out]
    simp [*]
set_option maxHeartbeats 1000000 in
theorem ahead_some (s : ByteArray) (w : World) (T : LTabs w) (h0 : 0 < s.size) : Calls Tryd.prog 95 #[.string s] w fun e w' => e = .returned (.int .i64 (aheadN s.data.toList)) ∧ w = w' := by
  obtain ⟨tt, fr, hg⟩ := var_heap gLong T.long
  obtain ⟨R, hR⟩ : ∃ R, R = aheadN s.data.toList := ⟨_, rfl⟩
  rw [← hR]
  have i0 : ∀ w, (Instr.index 131 (.agg longCells) (.int .i64 0)).run Tryd.prog w = .ok (.string (longAt 0)) w := fun _ => by kernel_rfl
  have z0 : (longAt 0).size = 2 := rfl
  obtain ⟨p0, hp0⟩ : ∃ p, p = Lib.hasPrefix s.data.toList (longAt 0).data.toList := ⟨_, rfl⟩
  have H0 := Lib.hid (show ∀ w : World, Calls Tryd.prog 81 #[.string s, .string (longAt 0)] w fun e w' => e = .returned (.bool p0) ∧ w' = w from fun w => by rw [hp0]; exact Go.Proofs.Tryd.strings_HasPrefix s (longAt 0) w)
  have i1 : ∀ w, (Instr.index 131 (.agg longCells) (.int .i64 1)).run Tryd.prog w = .ok (.string (longAt 1)) w := fun _ => by kernel_rfl
  have z1 : (longAt 1).size = 2 := rfl
  obtain ⟨p1, hp1⟩ : ∃ p, p = Lib.hasPrefix s.data.toList (longAt 1).data.toList := ⟨_, rfl⟩
  have H1 := Lib.hid (show ∀ w : World, Calls Tryd.prog 81 #[.string s, .string (longAt 1)] w fun e w' => e = .returned (.bool p1) ∧ w' = w from fun w => by rw [hp1]; exact Go.Proofs.Tryd.strings_HasPrefix s (longAt 1) w)
  have i2 : ∀ w, (Instr.index 131 (.agg longCells) (.int .i64 2)).run Tryd.prog w = .ok (.string (longAt 2)) w := fun _ => by kernel_rfl
  have z2 : (longAt 2).size = 2 := rfl
  obtain ⟨p2, hp2⟩ : ∃ p, p = Lib.hasPrefix s.data.toList (longAt 2).data.toList := ⟨_, rfl⟩
  have H2 := Lib.hid (show ∀ w : World, Calls Tryd.prog 81 #[.string s, .string (longAt 2)] w fun e w' => e = .returned (.bool p2) ∧ w' = w from fun w => by rw [hp2]; exact Go.Proofs.Tryd.strings_HasPrefix s (longAt 2) w)
  have i3 : ∀ w, (Instr.index 131 (.agg longCells) (.int .i64 3)).run Tryd.prog w = .ok (.string (longAt 3)) w := fun _ => by kernel_rfl
  have z3 : (longAt 3).size = 2 := rfl
  obtain ⟨p3, hp3⟩ : ∃ p, p = Lib.hasPrefix s.data.toList (longAt 3).data.toList := ⟨_, rfl⟩
  have H3 := Lib.hid (show ∀ w : World, Calls Tryd.prog 81 #[.string s, .string (longAt 3)] w fun e w' => e = .returned (.bool p3) ∧ w' = w from fun w => by rw [hp3]; exact Go.Proofs.Tryd.strings_HasPrefix s (longAt 3) w)
  have i4 : ∀ w, (Instr.index 131 (.agg longCells) (.int .i64 4)).run Tryd.prog w = .ok (.string (longAt 4)) w := fun _ => by kernel_rfl
  have z4 : (longAt 4).size = 2 := rfl
  obtain ⟨p4, hp4⟩ : ∃ p, p = Lib.hasPrefix s.data.toList (longAt 4).data.toList := ⟨_, rfl⟩
  have H4 := Lib.hid (show ∀ w : World, Calls Tryd.prog 81 #[.string s, .string (longAt 4)] w fun e w' => e = .returned (.bool p4) ∧ w' = w from fun w => by rw [hp4]; exact Go.Proofs.Tryd.strings_HasPrefix s (longAt 4) w)
  have i5 : ∀ w, (Instr.index 131 (.agg longCells) (.int .i64 5)).run Tryd.prog w = .ok (.string (longAt 5)) w := fun _ => by kernel_rfl
  have z5 : (longAt 5).size = 2 := rfl
  obtain ⟨p5, hp5⟩ : ∃ p, p = Lib.hasPrefix s.data.toList (longAt 5).data.toList := ⟨_, rfl⟩
  have H5 := Lib.hid (show ∀ w : World, Calls Tryd.prog 81 #[.string s, .string (longAt 5)] w fun e w' => e = .returned (.bool p5) ∧ w' = w from fun w => by rw [hp5]; exact Go.Proofs.Tryd.strings_HasPrefix s (longAt 5) w)
  have hRR : Hid (R = if (p0 || p1 || p2 || p3 || p4 || p5) = true then 2 else firstN s.data.toList) := by
    rw [Hid, hR, hp0, hp1, hp2, hp3, hp4, hp5]; rfl
  clear hR hp0 hp1 hp2 hp3 hp4 hp5 T
  have hbt := PlainAid.get_bt s
  have hx0 := PlainAid.bt_nonneg s 0
  have hx1 := PlainAid.bt_le s 0
  obtain ⟨c, hc⟩ : ∃ c, c = PlainAid.bt s 0 := ⟨_, rfl⟩
  rw [← hc] at hx0 hx1
  have hbt0 : ∀ h : 0 < s.size, ((s[0]'h).toNat : Int) = c := fun h => by rw [hc]; exact PlainAid.get_bt s 0 h
  have hfr : s.data.toList = s[0] :: bytesFrom s 1 := from_at s 0 h0
  obtain ⟨q, hq⟩ : ∃ q, q = signB c := ⟨_, rfl⟩
  have hf : firstN s.data.toList = if q = true then 1 else 0 := by
    rw [hfr, hq, ← hbt0 h0]; rfl
  rw [hf] at hRR
  have hne : s.toList.isEmpty = false := by rw [Lib.toList_data, hfr]; rfl
  have hne2 : ¬ s.toList = [] := by rw [Lib.toList_data, hfr]; simp
  have HS := Lib.hid (show ∀ w : World, Calls Tryd.prog 77 #[.int .u8 c] w fun e w' => e = .returned (.bool q) ∧ w = w' from fun w => by rw [hq]; exact sign_any c hx0 hx1 w)
  clear hf hfr hbt hq hc
  go_enter Tryd.func95, Tryd.ntmps95
  go_wp2_with (refine wpList_load_row rfl 131 _ rfl 3 rfl tt _ fr _ hg Tryd.underlying131 rfl (by kernel_rfl) ?_)
  refine wp_loop_rounds 7 ?_
  repeat any_goals (rw [rounds_succ]; go_wp2_with (first | (go_at_call 81; (with_reducible refine (H0.out _).mono ?_); rintro e w' ⟨rfl, rfl⟩) | (go_at_call 81; (with_reducible refine (H1.out _).mono ?_); rintro e w' ⟨rfl, rfl⟩) | (go_at_call 81; (with_reducible refine (H2.out _).mono ?_); rintro e w' ⟨rfl, rfl⟩) | (go_at_call 81; (with_reducible refine (H3.out _).mono ?_); rintro e w' ⟨rfl, rfl⟩) | (go_at_call 81; (with_reducible refine (H4.out _).mono ?_); rintro e w' ⟨rfl, rfl⟩) | (go_at_call 81; (with_reducible refine (H5.out _).mono ?_); rintro e w' ⟨rfl, rfl⟩) | (go_at_call 77; refine (HS.out _).mono ?_; rintro e w' ⟨rfl, rfl⟩)))
  all_goals
    go_ret
    refine ⟨ret_int ?_, rfl⟩
    rw [hRR.out]
    simp [*]
theorem ahead_any (s : ByteArray) (w : World) (T : LTabs w) : Calls Tryd.prog 95 #[.string s] w fun e w' => e = .returned (.int .i64 (aheadN s.data.toList)) ∧ w = w' := by
  by_cases h0 : 0 < s.size
  · exact ahead_some s w T h0
  · exact ahead_none s w T (by omega)
end Go.Proofs.YtgaibdipecngkaaDoor

namespace Go.Proofs.YtgaibdipecngkaaDoor
open Go.RowKit
set_option linter.unusedVariables false

/-- What digits say, w having been said. -/
def digitsV : List UInt8 → Int → Option Int
  | [], v => some v
  | c :: r, v => if digitB (c.toNat : Int) = false then none else if (9223372036854775807 - ((c.toNat : Int) - 48)) / 10 < v then none else digitsV r (v * 10 + ((c.toNat : Int) - 48))
def valueO (l : List UInt8) : Option Int := match l with
  | [] => none
  | c :: r => if (c.toNat : Int) = 48 ∧ r ≠ [] then none else digitsV (c :: r) 0
def ValueV (o : Option Int) : Value := .tuple #[.int .i64 (o.getD 0), .bool o.isSome]
theorem value_none (w : World) : Calls Tryd.prog 93 #[.string ⟨#[]⟩] w fun e w' => e = .returned (ValueV none) ∧ w = w' := by
  go_enter Tryd.func93, Tryd.ntmps93
  go_wp2
  go_ret2
  exact ⟨rfl, rfl⟩
theorem value_nought (s : ByteArray) (w : World) (h0 : 1 < s.size) (h48 : PlainAid.bt s 0 = 48) : Calls Tryd.prog 93 #[.string s] w fun e w' => e = .returned (ValueV none) ∧ w = w' := by
  have hbt0 : ∀ h : 0 < s.size, ((s[0]'h).toNat : Int) = 48 := fun h => by rw [← h48]; exact PlainAid.get_bt s 0 h
  have hne : s.toList.isEmpty = false := by
    rw [Lib.toList_data, show s.data.toList = s[0] :: bytesFrom s 1 from from_at s 0 (by omega)]; rfl
  clear h48
  go_enter Tryd.func93, Tryd.ntmps93
  go_wp2
  go_ret2
  exact ⟨rfl, rfl⟩
theorem digitsV_no {c : Int} {u : UInt8} {r : List UInt8} {v : Int} (hu : (u.toNat : Int) = c) (h : digitB c = false ∨ (9223372036854775807 - (c - 48)) / 10 < v) : digitsV (u :: r) v = none := by
  subst hu; simp only [digitsV]
  rcases h with h | h
  · rw [if_pos h]
  · by_cases h2 : digitB (u.toNat : Int) = false
    · rw [if_pos h2]
    · rw [if_neg h2, if_pos h]
theorem digitsV_yes {c : Int} {u : UInt8} {r : List UInt8} {v : Int} (hu : (u.toNat : Int) = c) (h : digitB c = true) (h2 : ¬ (9223372036854775807 - (c - 48)) / 10 < v) : digitsV (u :: r) v = digitsV r (v * 10 + (c - 48)) := by
  subst hu; simp only [digitsV]
  rw [if_neg (by rw [h]; decide), if_neg h2]
theorem digitB_bd {c : Int} (h : digitB c = true) : 48 ≤ c ∧ c ≤ 57 := by simpa [digitB] using h
set_option maxHeartbeats 1000000 in
theorem value_loop (s : ByteArray) (w : World) (hs : s.size ≤ 4611686018427387904) (h0 : 0 < s.size) (hq : s.size ≤ 1 ∨ ¬ PlainAid.bt s 0 = 48) : Calls Tryd.prog 93 #[.string s] w fun e w' => e = .returned (ValueV (digitsV s.data.toList 0)) ∧ w = w' := by
  obtain ⟨R, hR⟩ : ∃ R, R = digitsV s.data.toList 0 := ⟨_, rfl⟩
  rw [← hR]
  have HR := Lib.hid hR
  clear hR
  have hbs := PlainAid.get_bt s
  have hne : s.toList.isEmpty = false := by
    rw [Lib.toList_data, show s.data.toList = s[0] :: bytesFrom s 1 from from_at s 0 (by omega)]; rfl
  have key : ∀ K : Prop, (s.size ≤ 1 → K) → (1 < s.size → (PlainAid.bt s 0 == 48) = false → K) → K := fun K a b => by
    by_cases h1 : s.size ≤ 1
    · exact a h1
    · exact b (by omega) (int_f (by omega))
  clear hq
  apply key
  all_goals
    clear key
    intros
    go_enter Tryd.func93, Tryd.ntmps93
    go_wp2_with fail
    go_loop [4, 21] (fun v i => ∃ (k : Nat) (z : Int), k ≤ s.size ∧ i = .int .i64 k ∧ v = .int .i64 z ∧ 0 ≤ z ∧ z ≤ 9223372036854775807 ∧ Hid (digitsV (bytesFrom s k) z = R)) (fun _ i => s.size - (intOf i).toNat)
    case atStart => exact ⟨0, 0, Nat.zero_le _, rfl, rfl, by decide, by decide, HR.out.symm⟩
    case round =>
      obtain ⟨k, z, hk, rfl, rfl, hz0, hz1, hp⟩ := hrel
      by_cases hlt : k < s.size
      · have hx0 := PlainAid.bt_nonneg s k
        have hx1 := PlainAid.bt_le s k
        have hu : ((s[k]).toNat : Int) = PlainAid.bt s k := PlainAid.get_bt s k hlt
        have hfr := from_at s k hlt
        obtain ⟨c, hc⟩ : ∃ c, c = PlainAid.bt s k := ⟨_, rfl⟩
        have hbt : ∀ h : k < s.size, ((s[k]'h).toNat : Int) = c := fun h => by rw [hc]; exact PlainAid.get_bt s k h
        rw [← hc] at hu hx0 hx1
        clear hc hbs
        have H := Lib.hid (fun w => digit_any c hx0 hx1 w)
        by_cases hd : digitB c = true
        · have hcb := digitB_bd hd
          by_cases hov : (9223372036854775807 - (c - 48)) / 10 < z
          · have hn : Hid (R = none) := by rw [Hid, ← hp.out, hfr, digitsV_no hu (.inr hov)]
            rw [hd] at H
            clear hfr hu hp hd
            go_wp2_with (go_at_call 75; refine (H.out _).mono ?_; rintro e w' ⟨rfl, rfl⟩)
            go_ret2
            rw [hn.out]
            exact ⟨rfl, rfl⟩
          · have hn : Hid (digitsV (bytesFrom s (k + 1)) (z * 10 + (c - 48)) = R) := by rw [Hid, ← hp.out, hfr, digitsV_yes hu hd hov]
            have hb1 : z * 10 + (c - 48) ≤ 9223372036854775807 ∧ 0 ≤ z * 10 + (c - 48) := by omega
            rw [hd] at H
            clear hfr hu hp hd
            go_wp2_with (go_at_call 75; refine (H.out _).mono ?_; rintro e w' ⟨rfl, rfl⟩)
            go_round
            case rel => exact ⟨k + 1, z * 10 + (c - 48), by omega, by go_num, rfl, by omega, by omega, hn⟩
            case measure => simp [intOf]; omega
        · have hdf : digitB c = false := by simpa using hd
          have hn : Hid (R = none) := by rw [Hid, ← hp.out, hfr, digitsV_no hu (.inl hdf)]
          rw [hdf] at H
          clear hfr hu hp hd hdf
          go_wp2_with (go_at_call 75; refine (H.out _).mono ?_; rintro e w' ⟨rfl, rfl⟩)
          go_ret2
          rw [hn.out]
          exact ⟨rfl, rfl⟩
      · have hn : Hid (R = some z) := by
          rw [Hid, ← hp.out, from_end s k (by omega)]; rfl
        clear hp
        go_wp2_with fail
        go_ret2
        rw [hn.out]
        exact ⟨rfl, rfl⟩
/-- What a text's digits say, for every text. -/
theorem value_any (s : ByteArray) (hs : s.size ≤ 4611686018427387904) (w : World) : Calls Tryd.prog 93 #[.string s] w fun e w' => e = .returned (ValueV (valueO s.data.toList)) ∧ w = w' := by
  by_cases h0 : 0 < s.size
  · have hfr : s.data.toList = s[0] :: bytesFrom s 1 := from_at s 0 h0
    have hu : ((s[0]).toNat : Int) = PlainAid.bt s 0 := PlainAid.get_bt s 0 h0
    have hl : (bytesFrom s 1 ≠ []) ↔ 1 < s.size := by
      have : (bytesFrom s 1).length = s.size - 1 := by unfold bytesFrom; simp
      constructor
      · intro h
        apply Nat.lt_of_not_le
        intro hx
        exact h (List.length_eq_zero_iff.1 (by omega))
      · intro h hx
        rw [hx] at this
        simp at this
        omega
    by_cases h : 1 < s.size ∧ PlainAid.bt s 0 = 48
    · have e : valueO s.data.toList = none := by
        rw [hfr]; unfold valueO
        simp only []
        rw [if_pos ⟨hu.trans h.2, hl.2 h.1⟩]
      rw [e]
      exact value_nought s w h.1 h.2
    · have e : valueO s.data.toList = digitsV s.data.toList 0 := by
        rw [hfr]; unfold valueO
        simp only []
        rw [if_neg (fun hx => h ⟨hl.1 hx.2, hu.symm.trans hx.1⟩)]
      rw [e]
      exact value_loop s w hs h0 (by
        by_cases h1 : s.size ≤ 1
        · exact .inl h1
        · exact .inr fun hx => h ⟨by omega, hx⟩)
  · have h3 : s = ⟨#[]⟩ := by
      cases s with
      | mk d =>
        have h1 : (ByteArray.mk d).size = 0 := by omega
        have h2 : d.size = 0 := h1
        simp at h2; rw [h2]
    subst h3
    exact value_none w
theorem clone_any (s : ByteArray) (hs : s.size ≤ 281474976710656) (w : World) : Calls Tryd.prog 98 #[.string s] w fun e w' => e = .returned (.string s) ∧ Below w.heap.size w w' := by
  have H := Lib.hid (Go.Proofs.Tryd.stringslite_Clone s w hs)
  go_enter Tryd.func98, Tryd.ntmps98
  go_wp2_with (go_at_call 100; refine (H.out).mono ?_; rintro e w' ⟨rfl, hb⟩)
  go_ret
  exact ⟨rfl, hb⟩
end Go.Proofs.YtgaibdipecngkaaDoor

namespace Go.Proofs.YtgaibdipecngkaaDoor
open Go.RowKit
set_option linter.unusedVariables false

theorem bcells {W w1 : World} (hb : Below W.heap.size W w1) : (∀ b o, b < W.heap.size → w1.cell? ⟨b, o, none⟩ = W.cell? ⟨b, o, none⟩) ∧ (∀ b o, b < W.heap.size → w1.frozen? ⟨b, o, none⟩ = W.frozen? ⟨b, o, none⟩) :=
  ⟨fun b o h => hb.cell (p := ⟨b, o, none⟩) h, fun b o h => hb.frozen (p := ⟨b, o, none⟩) h⟩
/-- Block b holds a scanner: its text, the byte that comes next, the first fault's place and rule. -/
def Sc (W : World) (b : Nat) (s : ByteArray) (p fa fr : Int) : Prop := W.heap[b]? = some (.cells #[.string s, .int .i64 p, .int .i64 fa, .int .i64 fr] 78 (0, 0))
theorem Sc.lt {W : World} {b : Nat} {s : ByteArray} {p fa fr : Int} (h : Sc W b s p fa fr) : b < W.heap.size := (Array.getElem?_eq_some_iff.1 h).1
theorem Sc.cells {W : World} {b : Nat} {s : ByteArray} {p fa fr : Int} (h : Sc W b s p fa fr) :
    (W.cell? ⟨b, 0, none⟩ = some (.string s) ∧ W.cell? ⟨b, 1, none⟩ = some (.int .i64 p) ∧ W.cell? ⟨b, 2, none⟩ = some (.int .i64 fa) ∧ W.cell? ⟨b, 3, none⟩ = some (.int .i64 fr)) ∧
    (W.frozen? ⟨b, 1, none⟩ = false ∧ W.frozen? ⟨b, 2, none⟩ = false ∧ W.frozen? ⟨b, 3, none⟩ = false) :=
  ⟨⟨cell_of_row W b 0 _ _ _ h, cell_of_row W b 1 _ _ _ h, cell_of_row W b 2 _ _ _ h, cell_of_row W b 3 _ _ _ h⟩, frozen_of_row W b 1 _ _ h, frozen_of_row W b 2 _ _ h, frozen_of_row W b 3 _ _ h⟩
theorem Sc.below {W W' : World} {b B : Nat} {s : ByteArray} {p fa fr : Int} (h : Sc W b s p fa fr) (hb : Below B W W') (hB : b < B) : Sc W' b s p fa fr := (hb.block b hB).trans h
def tokV (kind : Int) (x : ByteArray) (wd p : Int) : Value := .agg #[.int .u8 kind, .string x, .int .i64 wd, .int .i64 p]
def faultV (a r : Int) : Value := .agg #[.int .i64 a, .int .i64 r]
theorem kept2 {W w1 : World} (hb : Below W.heap.size W w1) (w : World) (A B : Obj) (hW : W.heap = ((w.alloc A).alloc B).heap) (hos : W.os = w.os) (htape : W.tape = w.tape) (hout : W.output = w.output) :
    w1.heap[w.heap.size]? = some A ∧ w1.heap[w.heap.size + 1]? = some B ∧ w.heap.size + 1 < w1.heap.size ∧ Below w.heap.size w w1 := by
  have hz : W.heap.size = w.heap.size + 2 := by rw [hW]; simp
  have h0 : W.heap[w.heap.size]? = some A := by rw [hW]; exact heap_alloc2_old w A B
  have h1 : W.heap[w.heap.size + 1]? = some B := by rw [hW]; exact heap_alloc2_new w A B
  refine ⟨(hb.block _ (by omega)).trans h0, (hb.block _ (by omega)).trans h1, by have := hb.size; omega, hb.os.trans hos, hb.tape.trans htape, hb.output.trans hout, by have := hb.size; omega, fun k hk => ?_⟩
  rw [hb.block k (by omega), hW]
  have e1 := Below.heap_alloc w A k hk
  have e2 := Below.heap_alloc (w.alloc A) B k (by simp; omega)
  rw [e2, e1]
theorem row4 {w : World} {g : Nat} {a b c d : Value} {t : TypeId} (h : w.heap[g]? = some (.cells #[a, b, c, d] t (0, 0))) :
    (w.cell? ⟨g, 0, none⟩ = some a ∧ w.cell? ⟨g, 1, none⟩ = some b ∧ w.cell? ⟨g, 2, none⟩ = some c ∧ w.cell? ⟨g, 3, none⟩ = some d) ∧ w.frozen? ⟨g, 0, none⟩ = false ∧ w.frozen? ⟨g, 1, none⟩ = false ∧ w.frozen? ⟨g, 2, none⟩ = false ∧ w.frozen? ⟨g, 3, none⟩ = false :=
  ⟨⟨cell_of_row w g 0 _ _ _ h, cell_of_row w g 1 _ _ _ h, cell_of_row w g 2 _ _ _ h, cell_of_row w g 3 _ _ _ h⟩, frozen_of_row w g 0 _ _ h, frozen_of_row w g 1 _ _ h, frozen_of_row w g 2 _ _ h, frozen_of_row w g 3 _ _ h⟩
theorem row2 {w : World} {g : Nat} {a b : Value} {t : TypeId} (h : w.heap[g]? = some (.cells #[a, b] t (0, 0))) :
    (w.cell? ⟨g, 0, none⟩ = some a ∧ w.cell? ⟨g, 1, none⟩ = some b) ∧ w.frozen? ⟨g, 0, none⟩ = false ∧ w.frozen? ⟨g, 1, none⟩ = false :=
  ⟨⟨cell_of_row w g 0 _ _ _ h, cell_of_row w g 1 _ _ _ h⟩, frozen_of_row w g 0 _ _ h, frozen_of_row w g 1 _ _ h⟩
def tokZ : Obj := .cells #[.int .u8 0, .string ⟨#[]⟩, .int .i64 0, .int .i64 0] 69
def faultZ : Obj := .cells #[.int .i64 0, .int .i64 0] 29
set_option maxHeartbeats 4000000 in
theorem token_any (b : Nat) (s x : ByteArray) (p fa fr kind wd : Int) (w : World) (hx : x.size ≤ 281474976710656) (hs : Sc w b s p fa fr) :
    Calls Tryd.prog 92 #[.pointer (some ⟨b, 0, none⟩), .int .u8 kind, .string x, .int .i64 wd] w fun e w' => e = .returned (.tuple #[tokV kind x wd p, faultV 0 0]) ∧ Below w.heap.size w w' := by
  have hlt := hs.lt
  obtain ⟨⟨c0, c1, c2, c3⟩, f1, f2, f3⟩ := hs.cells
  have H := Lib.hid (fun w => clone_any x hx w)
  clear hs hx
  go_enter Tryd.func92, Tryd.ntmps92
  go_wp2_with fail
  go_region_with (go_at_call 98; go_must (refine (H.out _).mono ?_; rintro e w1 ⟨rfl, hb⟩; obtain ⟨hA, hB, hz, hw⟩ := kept2 hb w tokZ faultZ rfl rfl rfl rfl; obtain ⟨⟨a0, a1, a2, a3⟩, a4, a5, a6, a7⟩ := row4 hA; obtain ⟨⟨b0, b1⟩, b2, b3⟩ := row2 hB; have g1 := (hw.cell (p := ⟨b, 1, none⟩) hlt).trans c1; clear hA hB hb))
  all_goals
    go_wp2
    refine bodyPost_ret (v := .tuple #[.agg #[.int .u8 kind, .string x, .int .i64 wd, .int .i64 p], .agg #[.int .i64 0, .int .i64 0]]) (by simp [results, Tryd.results92, go_sem, a0, a1, a2, a3, b0, b1]) rfl ⟨rfl, ?_⟩
    exact (((((hw.setCell (p := ⟨w.heap.size, 0, none⟩) (Nat.le_refl _) _).setCell (p := ⟨w.heap.size, 1, none⟩) (Nat.le_refl _) _).setCell (p := ⟨w.heap.size, 2, none⟩) (Nat.le_refl _) _).setCell (p := ⟨w.heap.size, 3, none⟩) (Nat.le_refl _) _).setCell (p := ⟨w.heap.size + 1, 0, none⟩) (Nat.le_succ _) _).setCell (p := ⟨w.heap.size + 1, 1, none⟩) (Nat.le_succ _) _
end Go.Proofs.YtgaibdipecngkaaDoor

namespace Go.Proofs.YtgaibdipecngkaaDoor
open Go.RowKit
set_option linter.unusedVariables false

/-- What is found at a byte: a token, and a fault (its rule is 0 where there is none). -/
structure Res where
  kind : Int
  text : ByteArray
  wd : Int
  place : Int
  fa : Int
  fr : Int
def Res.val (r : Res) : Value := .tuple #[tokV r.kind r.text r.wd r.place, faultV r.fa r.fr]
theorem drew2 {w : World} {A B : Obj} (n : Nat) : Below w.heap.size w (((w.alloc A).alloc B).drewN n) := by
  have h := ((Below.refl w.heap.size w).alloc (Nat.le_refl _) A).alloc (by simp) B
  exact ⟨h.os, h.tape, h.output, h.size, h.block⟩
theorem LTabs.drew2 {w : World} (T : LTabs w) (A B : Obj) (n : Nat) : LTabs (((w.alloc A).alloc B).drewN n) := T.below (Nat.le_refl _) (Proofs.YtgaibdipecngkaaDoor.drew2 n)
theorem Sc.drew2 {w : World} {b : Nat} {s : ByteArray} {p fa fr : Int} (h : Sc w b s p fa fr) (A B : Obj) (n : Nat) : Sc (((w.alloc A).alloc B).drewN n) b s p fa fr := h.below (Proofs.YtgaibdipecngkaaDoor.drew2 n) h.lt
theorem tail_list (s : ByteArray) (p : Nat) : (s.extract p s.size).data.toList = bytesFrom s p := by
  rw [Lib.extract_data]
  unfold bytesFrom
  rw [List.take_of_length_le (by simp)]
/-- The longest name that begins at a byte. -/
def nameX (s : ByteArray) (p : Nat) : ByteArray := (s.extract p s.size).extract 0 (spanN namedB (bytesFrom s p))
def nameR (s : ByteArray) (p : Nat) : Res :=
  if wordB (nameX s p) = true then ⟨2, nameX s p, 0, p, 0, 0⟩
  else if 32 < (nameX s p).size then ⟨0, ⟨#[]⟩, 0, 0, p + 32, 2⟩
  else ⟨1, nameX s p, 0, p, 0, 0⟩
theorem token_lit (b : Nat) (s x : ByteArray) (p fa fr kind wd : Int) (w : World) (hx : x.size ≤ 281474976710656) (hs : Sc w b s p fa fr) :
    Calls Tryd.prog 92 #[.pointer (some ⟨b, 0, none⟩), .int .u8 kind, .string x, .int .i64 wd] w fun e w' => e = .returned (.tuple #[.agg #[.int .u8 kind, .string x, .int .i64 wd, .int .i64 p], .agg #[.int .i64 0, .int .i64 0]]) ∧ Below w.heap.size w w' :=
  token_any b s x p fa fr kind wd w hx hs
theorem stored6 {w w1 : World} (hw : Below w.heap.size w w1) (u0 u1 u2 u3 v0 v1 : Value) : Below w.heap.size w ((((((w1.setCell ⟨w.heap.size, 0, none⟩ u0).setCell ⟨w.heap.size, 1, none⟩ u1).setCell ⟨w.heap.size, 2, none⟩ u2).setCell ⟨w.heap.size, 3, none⟩ u3).setCell ⟨w.heap.size + 1, 0, none⟩ v0).setCell ⟨w.heap.size + 1, 1, none⟩ v1) :=
  (((((hw.setCell (p := ⟨w.heap.size, 0, none⟩) (Nat.le_refl _) _).setCell (p := ⟨w.heap.size, 1, none⟩) (Nat.le_refl _) _).setCell (p := ⟨w.heap.size, 2, none⟩) (Nat.le_refl _) _).setCell (p := ⟨w.heap.size, 3, none⟩) (Nat.le_refl _) _).setCell (p := ⟨w.heap.size + 1, 0, none⟩) (Nat.le_succ _) _).setCell (p := ⟨w.heap.size + 1, 1, none⟩) (Nat.le_succ _) _
theorem name_word {s : ByteArray} {p : Nat} {X : ByteArray} (hX : X = nameX s p) (h : wordB X = true) : (nameR s p).val = .tuple #[.agg #[.int .u8 2, .string X, .int .i64 0, .int .i64 p], .agg #[.int .i64 0, .int .i64 0]] := by
  subst hX; unfold nameR; rw [if_pos h]; rfl
theorem name_long {s : ByteArray} {p : Nat} {X : ByteArray} (hX : X = nameX s p) (h : wordB X = false) (h2 : 32 < X.size) : (nameR s p).val = .tuple #[.agg #[.int .u8 0, .string ⟨#[]⟩, .int .i64 0, .int .i64 0], .agg #[.int .i64 (p + 32), .int .i64 2]] := by
  subst hX; unfold nameR; rw [if_neg (by rw [h]; decide), if_pos h2]; rfl
theorem name_name {s : ByteArray} {p : Nat} {X : ByteArray} (hX : X = nameX s p) (h : wordB X = false) (h2 : ¬ 32 < X.size) : (nameR s p).val = .tuple #[.agg #[.int .u8 1, .string X, .int .i64 0, .int .i64 p], .agg #[.int .i64 0, .int .i64 0]] := by
  subst hX; unfold nameR; rw [if_neg (by rw [h]; decide), if_neg h2]; rfl
set_option maxHeartbeats 4000000 in
theorem name_any (b : Nat) (s : ByteArray) (p : Nat) (fa fr : Int) (w : World) (T : LTabs w) (hs62 : s.size ≤ 281474976710656) (hp : p < s.size) (hs : Sc w b s p fa fr) :
    Calls Tryd.prog 74 #[.pointer (some ⟨b, 0, none⟩)] w fun e w' => e = .returned (nameR s p).val ∧ Below w.heap.size w w' := by
  have hlt := hs.lt
  obtain ⟨⟨c0, c1, c2, c3⟩, f1, f2, f3⟩ := hs.cells
  have HS := Lib.hid hs
  have HT := Lib.hid T
  clear hs T
  obtain ⟨V, hV⟩ : ∃ V, Hid (V = (nameR s p).val) := ⟨_, rfl⟩
  rw [← hV.out]
  go_enter Tryd.func74, Tryd.ntmps74
  go_wp2
  go_quiet (fail)
  obtain ⟨X0, hX0⟩ : ∃ X0, Hid (X0 = s.extract p s.size) := ⟨_, rfl⟩
  rw [← hX0.out]
  have hz0 : X0.size ≤ 281474976710656 := by rw [hX0.out]; simp; omega
  obtain ⟨n, hn⟩ : ∃ n, Hid (n = spanN namedB (bytesFrom s p)) := ⟨_, rfl⟩
  have hl0 : X0.data.toList = bytesFrom s p := by rw [hX0.out]; exact tail_list s p
  have hnle : n ≤ X0.size := by
    have := spanN_le namedB (bytesFrom s p)
    rw [← hn.out, ← hl0] at this
    simpa using this
  have H1 : Hid (∀ W : World, Calls Tryd.prog 79 #[.string X0, .func (.func 90) #[] #[]] W fun e w' => e = .returned (.int .i64 n) ∧ W = w') := fun W => by
    have k := span_named X0 (by omega) W
    rw [hl0, ← hn.out] at k
    exact k
  clear hl0
  go_wp2_with (go_at_call 79; refine (H1.out _).mono ?_; rintro e w' ⟨rfl, rfl⟩)
  obtain ⟨X, hX⟩ : ∃ X, Hid (X = X0.extract 0 n) := ⟨_, rfl⟩
  rw [← hX.out]
  have hXn : Hid (X = nameX s p) := by rw [Hid, hX.out, hX0.out, hn.out]; rfl
  have hzX : X.size ≤ 281474976710656 := by rw [hX.out]; simp; omega
  obtain ⟨q, hq⟩ : ∃ q, Hid (q = wordB X) := ⟨_, rfl⟩
  have H2 : Hid (∀ W : World, LTabs W → Calls Tryd.prog 91 #[.string X] W fun e w' => e = .returned (.bool q) ∧ W = w') := fun W TW => by
    rw [hq.out]; exact word_any X W TW
  refine (H2.out _ (HT.out.drew2 _ _ _)).mono ?_
  rintro e w' ⟨rfl, rfl⟩
  clear hz0 hnle H1 H2
  cases q
  · by_cases h32 : 32 < X.size
    · have hres : Hid (V = .tuple #[.agg #[.int .u8 0, .string ⟨#[]⟩, .int .i64 0, .int .i64 0], .agg #[.int .i64 (p + 32), .int .i64 2]]) := by rw [Hid, hV.out]; exact name_long hXn.out hq.out.symm h32
      go_wp2
      go_region
      all_goals
        go_wp2
        rw [hres.out]
        refine bodyPost_ret (v := .tuple #[.agg #[.int .u8 0, .string ⟨#[]⟩, .int .i64 0, .int .i64 0], .agg #[.int .i64 (p + 32), .int .i64 2]]) (by simp [results, Tryd.results74, go_sem]) rfl ⟨rfl, stored6 (drew2 _) _ _ _ _ _ _⟩
    · have hres : Hid (V = .tuple #[.agg #[.int .u8 1, .string X, .int .i64 0, .int .i64 p], .agg #[.int .i64 0, .int .i64 0]]) := by rw [Hid, hV.out]; exact name_name hXn.out hq.out.symm h32
      go_wp2_with (go_at_call 92; go_must (refine (token_lit b s X p fa fr 1 0 _ hzX (HS.out.drew2 _ _ _)).mono ?_; rintro e w1 ⟨rfl, hb⟩; obtain ⟨hA, hB, hz, hw⟩ := kept2 hb w tokZ faultZ rfl rfl rfl rfl; obtain ⟨⟨a0, a1, a2, a3⟩, a4, a5, a6, a7⟩ := row4 hA; obtain ⟨⟨b0, b1⟩, b2, b3⟩ := row2 hB; clear hA hB hb))
      rw [hres.out]
      refine bodyPost_ret (v := .tuple #[.agg #[.int .u8 1, .string X, .int .i64 0, .int .i64 p], .agg #[.int .i64 0, .int .i64 0]]) (by simp [results, Tryd.results74, go_sem, a0, a1, a2, a3, b0, b1]) rfl ⟨rfl, stored6 hw _ _ _ _ _ _⟩
  · have hres : Hid (V = .tuple #[.agg #[.int .u8 2, .string X, .int .i64 0, .int .i64 p], .agg #[.int .i64 0, .int .i64 0]]) := by rw [Hid, hV.out]; exact name_word hXn.out hq.out.symm
    go_wp2_with (go_at_call 92; go_must (refine (token_lit b s X p fa fr 2 0 _ hzX (HS.out.drew2 _ _ _)).mono ?_; rintro e w1 ⟨rfl, hb⟩; obtain ⟨hA, hB, hz, hw⟩ := kept2 hb w tokZ faultZ rfl rfl rfl rfl; obtain ⟨⟨a0, a1, a2, a3⟩, a4, a5, a6, a7⟩ := row4 hA; obtain ⟨⟨b0, b1⟩, b2, b3⟩ := row2 hB; clear hA hB hb))
    rw [hres.out]
    refine bodyPost_ret (v := .tuple #[.agg #[.int .u8 2, .string X, .int .i64 0, .int .i64 p], .agg #[.int .i64 0, .int .i64 0]]) (by simp [results, Tryd.results74, go_sem, a0, a1, a2, a3, b0, b1]) rfl ⟨rfl, stored6 hw _ _ _ _ _ _⟩
end Go.Proofs.YtgaibdipecngkaaDoor

namespace Go.Proofs.YtgaibdipecngkaaDoor
open Go.RowKit
set_option linter.unusedVariables false

theorem prefix_len {p l : List UInt8} (h : Lib.hasPrefix l p = true) : p.length ≤ l.length := by
  have h' : p.isPrefixOf l = true := h
  exact (List.isPrefixOf_iff_prefix.1 h').length_le
theorem ahead_le (l : List UInt8) : aheadN l ≤ l.length := by
  unfold aheadN
  split
  · rename_i h
    unfold longB at h
    simp only [Bool.or_eq_true] at h
    have key : ∀ k, k < 6 → Lib.hasPrefix l (longAt k).data.toList = true → 2 ≤ l.length := by
      intro k hk hp
      have h1 := prefix_len hp
      have h2 : (longAt k).data.toList.length = 2 := by
        have : k = 0 ∨ k = 1 ∨ k = 2 ∨ k = 3 ∨ k = 4 ∨ k = 5 := by omega
        rcases this with rfl | rfl | rfl | rfl | rfl | rfl <;> rfl
      omega
    rcases h with ((((h | h) | h) | h) | h) | h
    · exact key 0 (by omega) h
    · exact key 1 (by omega) h
    · exact key 2 (by omega) h
    · exact key 3 (by omega) h
    · exact key 4 (by omega) h
    · exact key 5 (by omega) h
  · unfold firstN
    split
    · exact Nat.zero_le _
    · split <;> simp
def signX (s : ByteArray) (p : Nat) : ByteArray := (s.extract p s.size).extract 0 (aheadN (bytesFrom s p))
def signR (s : ByteArray) (p : Nat) : Res := ⟨4, signX s p, 0, p, 0, 0⟩
set_option maxHeartbeats 4000000 in
theorem sign_at (b : Nat) (s : ByteArray) (p : Nat) (fa fr : Int) (w : World) (T : LTabs w) (hs62 : s.size ≤ 281474976710656) (hp : p < s.size) (hs : Sc w b s p fa fr) :
    Calls Tryd.prog 78 #[.pointer (some ⟨b, 0, none⟩)] w fun e w' => e = .returned (signR s p).val ∧ Below w.heap.size w w' := by
  have hlt := hs.lt
  obtain ⟨⟨c0, c1, c2, c3⟩, f1, f2, f3⟩ := hs.cells
  have HS := Lib.hid hs
  have HT := Lib.hid T
  clear hs T
  obtain ⟨V, hV⟩ : ∃ V, Hid (V = (signR s p).val) := ⟨_, rfl⟩
  rw [← hV.out]
  go_enter Tryd.func78, Tryd.ntmps78
  go_wp2
  go_quiet (fail)
  obtain ⟨X0, hX0⟩ : ∃ X0, Hid (X0 = s.extract p s.size) := ⟨_, rfl⟩
  rw [← hX0.out]
  have hz0 : X0.size ≤ 281474976710656 := by rw [hX0.out]; simp; omega
  obtain ⟨n, hn⟩ : ∃ n, Hid (n = aheadN (bytesFrom s p)) := ⟨_, rfl⟩
  have hl0 : X0.data.toList = bytesFrom s p := by rw [hX0.out]; exact tail_list s p
  have hnle : n ≤ X0.size := by
    have := ahead_le (bytesFrom s p)
    rw [← hn.out, ← hl0] at this
    simpa using this
  have H1 : Hid (∀ W : World, LTabs W → Calls Tryd.prog 95 #[.string X0] W fun e w' => e = .returned (.int .i64 n) ∧ W = w') := fun W TW => by
    have k := ahead_any X0 W TW
    rw [hl0, ← hn.out] at k
    exact k
  clear hl0
  go_wp2_with (go_at_call 95; refine (H1.out _ (HT.out.drew2 _ _ _)).mono ?_; rintro e w' ⟨rfl, rfl⟩)
  obtain ⟨X, hX⟩ : ∃ X, Hid (X = X0.extract 0 n) := ⟨_, rfl⟩
  rw [← hX.out]
  have hzX : X.size ≤ 281474976710656 := by rw [hX.out]; simp; omega
  have hres : Hid (V = .tuple #[.agg #[.int .u8 4, .string X, .int .i64 0, .int .i64 p], .agg #[.int .i64 0, .int .i64 0]]) := by
    rw [Hid, hV.out, show X = signX s p by rw [hX.out, hX0.out, hn.out]; rfl]; rfl
  clear hz0 hnle H1
  refine (token_lit b s X p fa fr 4 0 _ hzX (HS.out.drew2 _ _ _)).mono ?_
  rintro e w1 ⟨rfl, hb⟩
  obtain ⟨hA, hB, hz, hw⟩ := kept2 hb w tokZ faultZ rfl rfl rfl rfl
  obtain ⟨⟨a0, a1, a2, a3⟩, a4, a5, a6, a7⟩ := row4 hA
  obtain ⟨⟨b0, b1⟩, b2, b3⟩ := row2 hB
  clear hA hB hb
  go_wp2
  rw [hres.out]
  refine bodyPost_ret (v := .tuple #[.agg #[.int .u8 4, .string X, .int .i64 0, .int .i64 p], .agg #[.int .i64 0, .int .i64 0]]) (by simp [results, Tryd.results78, go_sem, a0, a1, a2, a3, b0, b1]) rfl ⟨rfl, stored6 hw _ _ _ _ _ _⟩
def numX (s : ByteArray) (p : Nat) : ByteArray := (s.extract p s.size).extract 0 (spanN digitB (bytesFrom s p))
/-- Does a letter stand behind the digits? -/
def behindB (s : ByteArray) (p : Nat) : Bool := decide (p + spanN digitB (bytesFrom s p) < s.size) && letterB (PlainAid.bt s (p + spanN digitB (bytesFrom s p)))
def numC (s : ByteArray) (p n : Nat) (X : ByteArray) : Option Int → Res
  | none => ⟨0, ⟨#[]⟩, 0, 0, p, 3⟩
  | some v => if behindB s p = true then ⟨0, ⟨#[]⟩, 0, 0, p + (n : Nat), 4⟩ else ⟨3, X, v, p, 0, 0⟩
def numR (s : ByteArray) (p : Nat) : Res := numC s p (spanN digitB (bytesFrom s p)) (numX s p) (valueO (numX s p).data.toList)
theorem bt_extract (s : ByteArray) (p n : Nat) (h : p + n < s.size) : PlainAid.bt (s.extract p s.size) n = PlainAid.bt s (p + n) := by
  have h1 : n < (s.extract p s.size).size := by simp; omega
  have e1 := PlainAid.get_bt (s.extract p s.size) n h1
  have e2 := PlainAid.get_bt s (p + n) h
  rw [← e1, ← e2]
  rw [ByteArray.getElem_extract]
set_option maxHeartbeats 4000000 in
theorem number_any (b : Nat) (s : ByteArray) (p : Nat) (fa fr : Int) (w : World) (hs62 : s.size ≤ 281474976710656) (hp : p < s.size) (hs : Sc w b s p fa fr) :
    Calls Tryd.prog 76 #[.pointer (some ⟨b, 0, none⟩)] w fun e w' => e = .returned (numR s p).val ∧ Below w.heap.size w w' := by
  have hlt := hs.lt
  obtain ⟨⟨c0, c1, c2, c3⟩, f1, f2, f3⟩ := hs.cells
  have HS := Lib.hid hs
  clear hs
  obtain ⟨V, hV⟩ : ∃ V, Hid (V = (numR s p).val) := ⟨_, rfl⟩
  rw [← hV.out]
  go_enter Tryd.func76, Tryd.ntmps76
  go_wp2
  go_quiet (fail)
  obtain ⟨X0, hX0⟩ : ∃ X0, Hid (X0 = s.extract p s.size) := ⟨_, rfl⟩
  rw [← hX0.out]
  have hz0 : X0.size ≤ 281474976710656 := by rw [hX0.out]; simp; omega
  obtain ⟨n, hn⟩ : ∃ n, Hid (n = spanN digitB (bytesFrom s p)) := ⟨_, rfl⟩
  have hl0 : X0.data.toList = bytesFrom s p := by rw [hX0.out]; exact tail_list s p
  have hnle : n ≤ X0.size := by
    have := spanN_le digitB (bytesFrom s p)
    rw [← hn.out, ← hl0] at this
    simpa using this
  have H1 : Hid (∀ W : World, Calls Tryd.prog 79 #[.string X0, .func (.func 75) #[] #[]] W fun e w' => e = .returned (.int .i64 n) ∧ W = w') := fun W => by
    have k := span_digit X0 (by omega) W
    rw [hl0, ← hn.out] at k
    exact k
  clear hl0
  go_wp2_with (go_at_call 79; refine (H1.out _).mono ?_; rintro e w' ⟨rfl, rfl⟩)
  obtain ⟨X, hX⟩ : ∃ X, Hid (X = X0.extract 0 n) := ⟨_, rfl⟩
  rw [← hX.out]
  have hXn : Hid (X = numX s p) := by rw [Hid, hX.out, hX0.out, hn.out]; rfl
  have hzX : X.size ≤ 281474976710656 := by rw [hX.out]; simp; omega
  have hsz0 : X0.size = s.size - p := by rw [hX0.out]; simp
  obtain ⟨o, ho⟩ : ∃ o, Hid (o = valueO X.data.toList) := ⟨_, rfl⟩
  have H2 : Hid (∀ W : World, Calls Tryd.prog 93 #[.string X] W fun e w' => e = .returned (ValueV o) ∧ W = w') := fun W => by
    rw [ho.out]; exact value_any X (by omega) W
  have hnum : Hid (numR s p = numC s p n X o) := by
    have e : numR s p = numC s p (spanN digitB (bytesFrom s p)) (numX s p) (valueO (numX s p).data.toList) := rfl
    rw [Hid, e, ← hn.out, ← hXn.out, ← ho.out]
  cases o with
  | none =>
    have hres : Hid (V = .tuple #[.agg #[.int .u8 0, .string ⟨#[]⟩, .int .i64 0, .int .i64 0], .agg #[.int .i64 p, .int .i64 3]]) := by rw [Hid, hV.out, hnum.out]; rfl
    have H3 : Hid (∀ W : World, Calls Tryd.prog 93 #[.string X] W fun e w' => e = .returned (.tuple #[.int .i64 0, .bool false]) ∧ W = w') := H2
    clear H2 hsz0
    refine (H3.out _).mono ?_
    rintro e w' ⟨rfl, rfl⟩
    go_wp2
    go_region
    all_goals
      go_wp2
      rw [hres.out]
      refine bodyPost_ret (v := .tuple #[.agg #[.int .u8 0, .string ⟨#[]⟩, .int .i64 0, .int .i64 0], .agg #[.int .i64 p, .int .i64 3]]) (by simp [results, Tryd.results76, go_sem]) rfl ⟨rfl, stored6 (drew2 _) _ _ _ _ _ _⟩
  | some v =>
    have H3 : Hid (∀ W : World, Calls Tryd.prog 93 #[.string X] W fun e w' => e = .returned (.tuple #[.int .i64 v, .bool true]) ∧ W = w') := H2
    clear H2
    by_cases hlast : n < X0.size
    · obtain ⟨c, hc⟩ : ∃ c, Hid (c = PlainAid.bt X0 n) := ⟨_, rfl⟩
      have hbt : ∀ h : n < X0.size, ((X0[n]'h).toNat : Int) = c := fun h => by rw [hc.out]; exact PlainAid.get_bt X0 n h
      have hx0 : 0 ≤ c := by rw [hc.out]; exact PlainAid.bt_nonneg X0 n
      have hx1 : c ≤ 255 := by rw [hc.out]; exact PlainAid.bt_le X0 n
      obtain ⟨q, hq⟩ : ∃ q, Hid (q = letterB c) := ⟨_, rfl⟩
      have H4 : Hid (∀ W : World, Calls Tryd.prog 73 #[.int .u8 c] W fun e w' => e = .returned (.bool q) ∧ W = w') := fun W => by
        rw [hq.out]; exact letter_any c hx0 hx1 W
      have hbe : Hid (behindB s p = q) := by
        rw [Hid]; unfold behindB
        rw [← hn.out, b_t (show p + n < s.size by omega), hq.out, hc.out, hX0.out, bt_extract s p n (by omega)]
        rfl
      clear hsz0
      cases q
      · have hres : Hid (V = .tuple #[.agg #[.int .u8 3, .string X, .int .i64 v, .int .i64 p], .agg #[.int .i64 0, .int .i64 0]]) := by
          rw [Hid, hV.out, hnum.out]; unfold numC; simp only []; rw [if_neg (by rw [hbe.out]; decide)]; rfl
        refine (H3.out _).mono ?_
        rintro e w' ⟨rfl, rfl⟩
        go_wp2_with (first | (go_at_call 73; refine (H4.out _).mono ?_; rintro e w' ⟨rfl, rfl⟩))
        rw [← hX.out]
        refine (token_lit b s X p fa fr 3 v _ hzX (HS.out.drew2 _ _ _)).mono ?_
        rintro e w1 ⟨rfl, hb⟩
        obtain ⟨hA, hB, hz, hw⟩ := kept2 hb w tokZ faultZ rfl rfl rfl rfl
        obtain ⟨⟨a0, a1, a2, a3⟩, a4, a5, a6, a7⟩ := row4 hA
        obtain ⟨⟨b0, b1⟩, b2, b3⟩ := row2 hB
        clear hA hB hb
        go_wp2
        rw [hres.out]
        refine bodyPost_ret (v := .tuple #[.agg #[.int .u8 3, .string X, .int .i64 v, .int .i64 p], .agg #[.int .i64 0, .int .i64 0]]) (by simp [results, Tryd.results76, go_sem, a0, a1, a2, a3, b0, b1]) rfl ⟨rfl, stored6 hw _ _ _ _ _ _⟩
      · have hres : Hid (V = .tuple #[.agg #[.int .u8 0, .string ⟨#[]⟩, .int .i64 0, .int .i64 0], .agg #[.int .i64 (p + n), .int .i64 4]]) := by
          rw [Hid, hV.out, hnum.out]; unfold numC; simp only []; rw [if_pos hbe.out]; rfl
        have esum : IntKind.i64.wrap ((p : Int) + (n : Int)) = (p : Int) + (n : Int) := IntWalk.i64_in _ (by omega)
        refine (H3.out _).mono ?_
        rintro e w' ⟨rfl, rfl⟩
        go_wp2_with (first | (go_at_call 73; refine (H4.out _).mono ?_; rintro e w' ⟨rfl, rfl⟩))
        go_region
        all_goals
          go_wp2
          rw [hres.out]
          refine bodyPost_ret (v := .tuple #[.agg #[.int .u8 0, .string ⟨#[]⟩, .int .i64 0, .int .i64 0], .agg #[.int .i64 (p + n), .int .i64 4]]) (by simp [results, Tryd.results76, go_sem]) rfl ⟨rfl, stored6 (drew2 _) _ _ _ _ _ _⟩
    · have hbe : Hid (behindB s p = false) := by
        rw [Hid]; unfold behindB
        rw [← hn.out, b_f (show ¬ p + n < s.size by omega)]
        rfl
      have hres : Hid (V = .tuple #[.agg #[.int .u8 3, .string X, .int .i64 v, .int .i64 p], .agg #[.int .i64 0, .int .i64 0]]) := by
        rw [Hid, hV.out, hnum.out]; unfold numC; simp only []; rw [if_neg (by rw [hbe.out]; decide)]; rfl
      clear hsz0
      refine (H3.out _).mono ?_
      rintro e w' ⟨rfl, rfl⟩
      go_wp2_with fail
      rw [← hX.out]
      refine (token_lit b s X p fa fr 3 v _ hzX (HS.out.drew2 _ _ _)).mono ?_
      rintro e w1 ⟨rfl, hb⟩
      obtain ⟨hA, hB, hz, hw⟩ := kept2 hb w tokZ faultZ rfl rfl rfl rfl
      obtain ⟨⟨a0, a1, a2, a3⟩, a4, a5, a6, a7⟩ := row4 hA
      obtain ⟨⟨b0, b1⟩, b2, b3⟩ := row2 hB
      clear hA hB hb
      go_wp2
      rw [hres.out]
      refine bodyPost_ret (v := .tuple #[.agg #[.int .u8 3, .string X, .int .i64 v, .int .i64 p], .agg #[.int .i64 0, .int .i64 0]]) (by simp [results, Tryd.results76, go_sem, a0, a1, a2, a3, b0, b1]) rfl ⟨rfl, stored6 hw _ _ _ _ _ _⟩
end Go.Proofs.YtgaibdipecngkaaDoor

namespace Go.Proofs.YtgaibdipecngkaaDoor
open Go.RowKit
set_option linter.unusedVariables false

def famCells (b : Nat) : Array Value := #[.func (.func 73) #[] #[], .func (.func 74) #[.pointer (some ⟨b, 0, none⟩)] #[], .func (.func 75) #[] #[], .func (.func 76) #[.pointer (some ⟨b, 0, none⟩)] #[], .func (.func 77) #[] #[], .func (.func 78) #[.pointer (some ⟨b, 0, none⟩)] #[]]
theorem below_setRow {B : Nat} {a w : World} (h : Below B a w) {g : Nat} (hg : B ≤ g) (cs : Array Value) : Below B a (w.setRow g cs) :=
  h.trans ⟨rfl, rfl, rfl, by simp, fun k hk => by
    simp only [World.setRow, Array.getElem?_modify]
    rw [if_neg (by omega)]⟩
theorem families_any (b : Nat) (w : World) : Calls Tryd.prog 52 #[.pointer (some ⟨b, 0, none⟩)] w fun e w' => e = .returned (.agg (famCells b)) ∧ Below w.heap.size w w' := by
  go_enter Tryd.func52, Tryd.ntmps52
  go_wp2
  refine bodyPost_ret (v := .agg (famCells b)) (results_cell_row rfl _ _ w.heap.size 103 (famCells b) (0, 0) _ rfl (heap_alloc_new w _) Tryd.underlying103 rfl (by kernel_rfl)) rfl ?_
  exact ⟨rfl, (Below.refl _ _).alloc (Nat.le_refl _) _⟩
/-- The token, or the fault, at a byte. -/
def nextR (s : ByteArray) (p : Nat) : Res :=
  if letterB (PlainAid.bt s p) = true then nameR s p
  else if digitB (PlainAid.bt s p) = true then numR s p
  else if signB (PlainAid.bt s p) = true then signR s p
  else ⟨0, ⟨#[]⟩, 0, 0, p, 1⟩
def pushes (h : Array Obj) : List Obj → Array Obj
  | [] => h
  | o :: r => pushes (h.push o) r
theorem pushes_size : ∀ (l : List Obj) (h : Array Obj), (pushes h l).size = h.size + l.length
  | [], h => rfl
  | o :: r, h => by simp only [pushes, pushes_size r, Array.size_push, List.length_cons]; omega
theorem pushes_old : ∀ (l : List Obj) (h : Array Obj) (k : Nat), k < h.size → (pushes h l)[k]? = h[k]?
  | [], h, k, _ => rfl
  | o :: r, h, k, hk => by
    simp only [pushes]
    rw [pushes_old r (h.push o) k (by simp; omega), Array.getElem?_push, if_neg (by omega)]
theorem pushes_new : ∀ (l : List Obj) (h : Array Obj) (i : Nat), i < l.length → (pushes h l)[h.size + i]? = l[i]?
  | [], h, i, hi => by simp at hi
  | o :: r, h, 0, _ => by
    simp only [pushes]
    rw [pushes_old r (h.push o) _ (by simp)]
    simp
  | o :: r, h, i + 1, hi => by
    simp only [pushes]
    have := pushes_new r (h.push o) i (by simpa using hi)
    rw [Array.size_push] at this
    rw [show h.size + (i + 1) = h.size + 1 + i by omega, this]
    simp
theorem keptN {W w1 : World} (hb : Below W.heap.size W w1) (w : World) (l : List Obj) (hW : W.heap = pushes w.heap l) (hos : W.os = w.os) (htape : W.tape = w.tape) (hout : W.output = w.output) :
    (∀ i, i < l.length → w1.heap[w.heap.size + i]? = l[i]?) ∧ w.heap.size + l.length ≤ w1.heap.size ∧ Below w.heap.size w w1 := by
  have hz : W.heap.size = w.heap.size + l.length := by rw [hW]; exact pushes_size _ _
  have hz1 := hb.size
  refine ⟨fun i hi => ?_, by omega, hb.os.trans hos, hb.tape.trans htape, hb.output.trans hout, by omega, fun k hk => ?_⟩
  · rw [hb.block _ (by omega), hW, pushes_new l _ i hi]
  · rw [hb.block k (by omega), hW, pushes_old l _ k hk]
theorem belowN {w W : World} (l : List Obj) (hW : W.heap = pushes w.heap l) (hos : W.os = w.os) (htape : W.tape = w.tape) (hout : W.output = w.output) : Below w.heap.size w W :=
  ⟨hos, htape, hout, by rw [hW, pushes_size]; omega, fun k hk => by rw [hW, pushes_old l _ k hk]⟩
theorem quiet_more {P : Program} {f : FuncId} {args : Array Value} {w : World} {a n : Nat} {v : Value} (h : Calls P f args (w.drewN (a + n)) fun e w' => e = .returned v ∧ w.drewN (a + n) = w') :
    Calls P f args (w.drewN (a + n)) fun e w'' => e = .returned v ∧ ∃ m, w'' = w.drewN (a + m) :=
  h.mono fun _ _ ⟨he, hm⟩ => ⟨he, n, hm.symm⟩
theorem quiet_one {P : Program} {f : FuncId} {args : Array Value} {w : World} {n : Nat} {v : Value} (h : Calls P f args (w.drewN n) fun e w' => e = .returned v ∧ w.drewN n = w') :
    Calls P f args (w.drewN n) fun e w'' => e = .returned v ∧ ∃ m, w'' = w.drewN m :=
  h.mono fun _ _ ⟨he, hm⟩ => ⟨he, n, hm.symm⟩
theorem stored6' {w w1 : World} {n : Nat} (hn : w.heap.size ≤ n) (hw : Below w.heap.size w w1) (u0 u1 u2 u3 v0 v1 : Value) : Below w.heap.size w ((((((w1.setCell ⟨n, 0, none⟩ u0).setCell ⟨n, 1, none⟩ u1).setCell ⟨n, 2, none⟩ u2).setCell ⟨n, 3, none⟩ u3).setCell ⟨n + 1, 0, none⟩ v0).setCell ⟨n + 1, 1, none⟩ v1) :=
  (((((hw.setCell (p := ⟨n, 0, none⟩) hn _).setCell (p := ⟨n, 1, none⟩) hn _).setCell (p := ⟨n, 2, none⟩) hn _).setCell (p := ⟨n, 3, none⟩) hn _).setCell (p := ⟨n + 1, 0, none⟩) (Nat.le_succ_of_le hn) _).setCell (p := ⟨n + 1, 1, none⟩) (Nat.le_succ_of_le hn) _
set_option maxHeartbeats 4000000 in
theorem next_0 (b : Nat) (s : ByteArray) (p : Nat) (fa fr : Int) (w : World) (T : LTabs w) (hs62 : s.size ≤ 281474976710656) (hp : p < s.size) (hs : Sc w b s p fa fr) (hN0 : letterB (PlainAid.bt s p) = true) :
    Calls Tryd.prog 54 #[.pointer (some ⟨b, 0, none⟩), .agg #[.func (.func 73) #[] #[], .func (.func 74) #[.pointer (some ⟨b, 0, none⟩)] #[], .func (.func 75) #[] #[], .func (.func 76) #[.pointer (some ⟨b, 0, none⟩)] #[], .func (.func 77) #[] #[], .func (.func 78) #[.pointer (some ⟨b, 0, none⟩)] #[]]] w fun e w' => e = .returned (Res.val (nameR s p)) ∧ Below w.heap.size w w' := by
  have hlt := hs.lt
  obtain ⟨⟨c0, c1, c2, c3⟩, f1, f2, f3⟩ := hs.cells
  have HS := Lib.hid hs
  have HT := Lib.hid T
  obtain ⟨c, hc⟩ : ∃ c, Hid (c = PlainAid.bt s p) := ⟨_, rfl⟩
  have hbt : ∀ h : p < s.size, ((s[p]'h).toNat : Int) = c := fun h => by rw [hc.out]; exact PlainAid.get_bt s p h
  have hx0 : 0 ≤ c := by rw [hc.out]; exact PlainAid.bt_nonneg s p
  have hx1 : c ≤ 255 := by rw [hc.out]; exact PlainAid.bt_le s p
  have H0 : Hid (∀ W : World, Calls Tryd.prog 73 #[.int .u8 c] W fun e w' => e = .returned (.bool true) ∧ W = w') := fun W => by
    have k := letter_any c hx0 hx1 W
    rw [hc.out, hN0] at k
    rw [hc.out]
    exact k
  have i0 : ∀ w, (Instr.index 103 (.agg #[.func (.func 73) #[] #[], .func (.func 74) #[.pointer (some ⟨b, 0, none⟩)] #[], .func (.func 75) #[] #[], .func (.func 76) #[.pointer (some ⟨b, 0, none⟩)] #[], .func (.func 77) #[] #[], .func (.func 78) #[.pointer (some ⟨b, 0, none⟩)] #[]]) (.int .i64 0)).run Tryd.prog w = .ok (.agg #[.func (.func 73) #[] #[], .func (.func 74) #[.pointer (some ⟨b, 0, none⟩)] #[]]) w := fun _ => by kernel_rfl
  have hany : ∀ W : World, Below w.heap.size w W → Calls Tryd.prog 74 #[.pointer (some ⟨b, 0, none⟩)] W fun e w1 => e = .returned (Res.val (nameR s p)) ∧ Below W.heap.size W w1 := fun W hb => name_any b s p fa fr W (HT.out.below (Nat.le_refl _) hb) hs62 hp (HS.out.below hb hlt)
  obtain ⟨r, hr⟩ : ∃ r, Hid (r = nameR s p) := ⟨_, rfl⟩
  rw [← hr.out] at hany ⊢
  obtain ⟨rk, rx, rw0, rp, ra, rr⟩ := r
  have HC : Hid (∀ W : World, Below w.heap.size w W → Calls Tryd.prog 74 #[.pointer (some ⟨b, 0, none⟩)] W fun e w1 => e = .returned (.tuple #[.agg #[.int .u8 rk, .string rx, .int .i64 rw0, .int .i64 rp], .agg #[.int .i64 ra, .int .i64 rr]]) ∧ Below W.heap.size W w1) := hany
  clear hany
  clear hs T hN0
  have l1 : b < w.heap.size + 1 := by omega
  have l2 : b < w.heap.size + 1 + 1 := by omega
  have l3 : b < w.heap.size + 1 + 1 + 1 := by omega
  have l4 : b < w.heap.size + 1 + 1 + 1 + 1 := by omega
  have l5 : b < w.heap.size + 1 + 1 + 1 + 1 + 1 := by omega
  go_enter Tryd.func54, Tryd.ntmps54
  go_wp2_with fail
  refine wp_loop_rounds 1 ?_
  rw [rounds_succ]
  go_wp2_with fail
  go_quiet ((go_at_call 73; first | (with_reducible exact quiet_one (H0.out _)) | (with_reducible exact quiet_more (H0.out _))))
  go_wp2_with fail
  refine (HC.out _ ?hbel).mono ?_
  case hbel => exact belowN (w := w) [_, tokZ, faultZ, _] (by rfl) (by rfl) (by rfl) (by rfl)
  rintro e w1 ⟨rfl, hb⟩
  obtain ⟨hk, hz, hw⟩ := keptN hb w [_, tokZ, faultZ, _] (by rfl) (by rfl) (by rfl) (by rfl)
  obtain ⟨⟨a0, a1, a2, a3⟩, a4, a5, a6, a7⟩ := row4 (show w1.heap[w.heap.size + 1]? = some tokZ from hk 1 (by simp))
  obtain ⟨⟨b0, b1⟩, b2, b3⟩ := row2 (show w1.heap[w.heap.size + 1 + 1]? = some faultZ from hk 2 (by simp))
  clear hk hb
  go_wp2
  refine bodyPost_ret (v := .tuple #[.agg #[.int .u8 rk, .string rx, .int .i64 rw0, .int .i64 rp], .agg #[.int .i64 ra, .int .i64 rr]]) (by simp [results, Tryd.results54, go_sem, a0, a1, a2, a3, b0, b1]) rfl ⟨rfl, stored6' (Nat.le_succ _) hw _ _ _ _ _ _⟩
set_option maxHeartbeats 4000000 in
theorem next_1 (b : Nat) (s : ByteArray) (p : Nat) (fa fr : Int) (w : World) (T : LTabs w) (hs62 : s.size ≤ 281474976710656) (hp : p < s.size) (hs : Sc w b s p fa fr) (hN0 : letterB (PlainAid.bt s p) = false) (hN1 : digitB (PlainAid.bt s p) = true) :
    Calls Tryd.prog 54 #[.pointer (some ⟨b, 0, none⟩), .agg #[.func (.func 73) #[] #[], .func (.func 74) #[.pointer (some ⟨b, 0, none⟩)] #[], .func (.func 75) #[] #[], .func (.func 76) #[.pointer (some ⟨b, 0, none⟩)] #[], .func (.func 77) #[] #[], .func (.func 78) #[.pointer (some ⟨b, 0, none⟩)] #[]]] w fun e w' => e = .returned (Res.val (numR s p)) ∧ Below w.heap.size w w' := by
  have hlt := hs.lt
  obtain ⟨⟨c0, c1, c2, c3⟩, f1, f2, f3⟩ := hs.cells
  have HS := Lib.hid hs
  have HT := Lib.hid T
  obtain ⟨c, hc⟩ : ∃ c, Hid (c = PlainAid.bt s p) := ⟨_, rfl⟩
  have hbt : ∀ h : p < s.size, ((s[p]'h).toNat : Int) = c := fun h => by rw [hc.out]; exact PlainAid.get_bt s p h
  have hx0 : 0 ≤ c := by rw [hc.out]; exact PlainAid.bt_nonneg s p
  have hx1 : c ≤ 255 := by rw [hc.out]; exact PlainAid.bt_le s p
  have H0 : Hid (∀ W : World, Calls Tryd.prog 73 #[.int .u8 c] W fun e w' => e = .returned (.bool false) ∧ W = w') := fun W => by
    have k := letter_any c hx0 hx1 W
    rw [hc.out, hN0] at k
    rw [hc.out]
    exact k
  have i0 : ∀ w, (Instr.index 103 (.agg #[.func (.func 73) #[] #[], .func (.func 74) #[.pointer (some ⟨b, 0, none⟩)] #[], .func (.func 75) #[] #[], .func (.func 76) #[.pointer (some ⟨b, 0, none⟩)] #[], .func (.func 77) #[] #[], .func (.func 78) #[.pointer (some ⟨b, 0, none⟩)] #[]]) (.int .i64 0)).run Tryd.prog w = .ok (.agg #[.func (.func 73) #[] #[], .func (.func 74) #[.pointer (some ⟨b, 0, none⟩)] #[]]) w := fun _ => by kernel_rfl
  have H1 : Hid (∀ W : World, Calls Tryd.prog 75 #[.int .u8 c] W fun e w' => e = .returned (.bool true) ∧ W = w') := fun W => by
    have k := digit_any c hx0 hx1 W
    rw [hc.out, hN1] at k
    rw [hc.out]
    exact k
  have i1 : ∀ w, (Instr.index 103 (.agg #[.func (.func 73) #[] #[], .func (.func 74) #[.pointer (some ⟨b, 0, none⟩)] #[], .func (.func 75) #[] #[], .func (.func 76) #[.pointer (some ⟨b, 0, none⟩)] #[], .func (.func 77) #[] #[], .func (.func 78) #[.pointer (some ⟨b, 0, none⟩)] #[]]) (.int .i64 1)).run Tryd.prog w = .ok (.agg #[.func (.func 75) #[] #[], .func (.func 76) #[.pointer (some ⟨b, 0, none⟩)] #[]]) w := fun _ => by kernel_rfl
  have hany : ∀ W : World, Below w.heap.size w W → Calls Tryd.prog 76 #[.pointer (some ⟨b, 0, none⟩)] W fun e w1 => e = .returned (Res.val (numR s p)) ∧ Below W.heap.size W w1 := fun W hb => number_any b s p fa fr W hs62 hp (HS.out.below hb hlt)
  obtain ⟨r, hr⟩ : ∃ r, Hid (r = numR s p) := ⟨_, rfl⟩
  rw [← hr.out] at hany ⊢
  obtain ⟨rk, rx, rw0, rp, ra, rr⟩ := r
  have HC : Hid (∀ W : World, Below w.heap.size w W → Calls Tryd.prog 76 #[.pointer (some ⟨b, 0, none⟩)] W fun e w1 => e = .returned (.tuple #[.agg #[.int .u8 rk, .string rx, .int .i64 rw0, .int .i64 rp], .agg #[.int .i64 ra, .int .i64 rr]]) ∧ Below W.heap.size W w1) := hany
  clear hany
  clear hs T hN0 hN1
  have l1 : b < w.heap.size + 1 := by omega
  have l2 : b < w.heap.size + 1 + 1 := by omega
  have l3 : b < w.heap.size + 1 + 1 + 1 := by omega
  have l4 : b < w.heap.size + 1 + 1 + 1 + 1 := by omega
  have l5 : b < w.heap.size + 1 + 1 + 1 + 1 + 1 := by omega
  go_enter Tryd.func54, Tryd.ntmps54
  go_wp2_with fail
  refine wp_loop_rounds 2 ?_
  rw [rounds_succ]
  go_wp2_with fail
  go_quiet ((go_at_call 73; first | (with_reducible exact quiet_one (H0.out _)) | (with_reducible exact quiet_more (H0.out _))))
  go_wp2_with fail
  rw [rounds_succ]
  go_wp2_with fail
  go_quiet ((go_at_call 75; first | (with_reducible exact quiet_one (H1.out _)) | (with_reducible exact quiet_more (H1.out _))))
  go_wp2_with fail
  refine (HC.out _ ?hbel).mono ?_
  case hbel => exact belowN (w := w) [_, tokZ, faultZ, _, _] (by rfl) (by rfl) (by rfl) (by rfl)
  rintro e w1 ⟨rfl, hb⟩
  obtain ⟨hk, hz, hw⟩ := keptN hb w [_, tokZ, faultZ, _, _] (by rfl) (by rfl) (by rfl) (by rfl)
  obtain ⟨⟨a0, a1, a2, a3⟩, a4, a5, a6, a7⟩ := row4 (show w1.heap[w.heap.size + 1]? = some tokZ from hk 1 (by simp))
  obtain ⟨⟨b0, b1⟩, b2, b3⟩ := row2 (show w1.heap[w.heap.size + 1 + 1]? = some faultZ from hk 2 (by simp))
  clear hk hb
  go_wp2
  refine bodyPost_ret (v := .tuple #[.agg #[.int .u8 rk, .string rx, .int .i64 rw0, .int .i64 rp], .agg #[.int .i64 ra, .int .i64 rr]]) (by simp [results, Tryd.results54, go_sem, a0, a1, a2, a3, b0, b1]) rfl ⟨rfl, stored6' (Nat.le_succ _) hw _ _ _ _ _ _⟩
set_option maxHeartbeats 4000000 in
theorem next_2 (b : Nat) (s : ByteArray) (p : Nat) (fa fr : Int) (w : World) (T : LTabs w) (hs62 : s.size ≤ 281474976710656) (hp : p < s.size) (hs : Sc w b s p fa fr) (hN0 : letterB (PlainAid.bt s p) = false) (hN1 : digitB (PlainAid.bt s p) = false) (hN2 : signB (PlainAid.bt s p) = true) :
    Calls Tryd.prog 54 #[.pointer (some ⟨b, 0, none⟩), .agg #[.func (.func 73) #[] #[], .func (.func 74) #[.pointer (some ⟨b, 0, none⟩)] #[], .func (.func 75) #[] #[], .func (.func 76) #[.pointer (some ⟨b, 0, none⟩)] #[], .func (.func 77) #[] #[], .func (.func 78) #[.pointer (some ⟨b, 0, none⟩)] #[]]] w fun e w' => e = .returned (Res.val (signR s p)) ∧ Below w.heap.size w w' := by
  have hlt := hs.lt
  obtain ⟨⟨c0, c1, c2, c3⟩, f1, f2, f3⟩ := hs.cells
  have HS := Lib.hid hs
  have HT := Lib.hid T
  obtain ⟨c, hc⟩ : ∃ c, Hid (c = PlainAid.bt s p) := ⟨_, rfl⟩
  have hbt : ∀ h : p < s.size, ((s[p]'h).toNat : Int) = c := fun h => by rw [hc.out]; exact PlainAid.get_bt s p h
  have hx0 : 0 ≤ c := by rw [hc.out]; exact PlainAid.bt_nonneg s p
  have hx1 : c ≤ 255 := by rw [hc.out]; exact PlainAid.bt_le s p
  have H0 : Hid (∀ W : World, Calls Tryd.prog 73 #[.int .u8 c] W fun e w' => e = .returned (.bool false) ∧ W = w') := fun W => by
    have k := letter_any c hx0 hx1 W
    rw [hc.out, hN0] at k
    rw [hc.out]
    exact k
  have i0 : ∀ w, (Instr.index 103 (.agg #[.func (.func 73) #[] #[], .func (.func 74) #[.pointer (some ⟨b, 0, none⟩)] #[], .func (.func 75) #[] #[], .func (.func 76) #[.pointer (some ⟨b, 0, none⟩)] #[], .func (.func 77) #[] #[], .func (.func 78) #[.pointer (some ⟨b, 0, none⟩)] #[]]) (.int .i64 0)).run Tryd.prog w = .ok (.agg #[.func (.func 73) #[] #[], .func (.func 74) #[.pointer (some ⟨b, 0, none⟩)] #[]]) w := fun _ => by kernel_rfl
  have H1 : Hid (∀ W : World, Calls Tryd.prog 75 #[.int .u8 c] W fun e w' => e = .returned (.bool false) ∧ W = w') := fun W => by
    have k := digit_any c hx0 hx1 W
    rw [hc.out, hN1] at k
    rw [hc.out]
    exact k
  have i1 : ∀ w, (Instr.index 103 (.agg #[.func (.func 73) #[] #[], .func (.func 74) #[.pointer (some ⟨b, 0, none⟩)] #[], .func (.func 75) #[] #[], .func (.func 76) #[.pointer (some ⟨b, 0, none⟩)] #[], .func (.func 77) #[] #[], .func (.func 78) #[.pointer (some ⟨b, 0, none⟩)] #[]]) (.int .i64 1)).run Tryd.prog w = .ok (.agg #[.func (.func 75) #[] #[], .func (.func 76) #[.pointer (some ⟨b, 0, none⟩)] #[]]) w := fun _ => by kernel_rfl
  have H2 : Hid (∀ W : World, Calls Tryd.prog 77 #[.int .u8 c] W fun e w' => e = .returned (.bool true) ∧ W = w') := fun W => by
    have k := sign_any c hx0 hx1 W
    rw [hc.out, hN2] at k
    rw [hc.out]
    exact k
  have i2 : ∀ w, (Instr.index 103 (.agg #[.func (.func 73) #[] #[], .func (.func 74) #[.pointer (some ⟨b, 0, none⟩)] #[], .func (.func 75) #[] #[], .func (.func 76) #[.pointer (some ⟨b, 0, none⟩)] #[], .func (.func 77) #[] #[], .func (.func 78) #[.pointer (some ⟨b, 0, none⟩)] #[]]) (.int .i64 2)).run Tryd.prog w = .ok (.agg #[.func (.func 77) #[] #[], .func (.func 78) #[.pointer (some ⟨b, 0, none⟩)] #[]]) w := fun _ => by kernel_rfl
  have hany : ∀ W : World, Below w.heap.size w W → Calls Tryd.prog 78 #[.pointer (some ⟨b, 0, none⟩)] W fun e w1 => e = .returned (Res.val (signR s p)) ∧ Below W.heap.size W w1 := fun W hb => sign_at b s p fa fr W (HT.out.below (Nat.le_refl _) hb) hs62 hp (HS.out.below hb hlt)
  obtain ⟨r, hr⟩ : ∃ r, Hid (r = signR s p) := ⟨_, rfl⟩
  rw [← hr.out] at hany ⊢
  obtain ⟨rk, rx, rw0, rp, ra, rr⟩ := r
  have HC : Hid (∀ W : World, Below w.heap.size w W → Calls Tryd.prog 78 #[.pointer (some ⟨b, 0, none⟩)] W fun e w1 => e = .returned (.tuple #[.agg #[.int .u8 rk, .string rx, .int .i64 rw0, .int .i64 rp], .agg #[.int .i64 ra, .int .i64 rr]]) ∧ Below W.heap.size W w1) := hany
  clear hany
  clear hs T hN0 hN1 hN2
  have l1 : b < w.heap.size + 1 := by omega
  have l2 : b < w.heap.size + 1 + 1 := by omega
  have l3 : b < w.heap.size + 1 + 1 + 1 := by omega
  have l4 : b < w.heap.size + 1 + 1 + 1 + 1 := by omega
  have l5 : b < w.heap.size + 1 + 1 + 1 + 1 + 1 := by omega
  go_enter Tryd.func54, Tryd.ntmps54
  go_wp2_with fail
  refine wp_loop_rounds 3 ?_
  rw [rounds_succ]
  go_wp2_with fail
  go_quiet ((go_at_call 73; first | (with_reducible exact quiet_one (H0.out _)) | (with_reducible exact quiet_more (H0.out _))))
  go_wp2_with fail
  rw [rounds_succ]
  go_wp2_with fail
  go_quiet ((go_at_call 75; first | (with_reducible exact quiet_one (H1.out _)) | (with_reducible exact quiet_more (H1.out _))))
  go_wp2_with fail
  rw [rounds_succ]
  go_wp2_with fail
  go_quiet ((go_at_call 77; first | (with_reducible exact quiet_one (H2.out _)) | (with_reducible exact quiet_more (H2.out _))))
  go_wp2_with fail
  refine (HC.out _ ?hbel).mono ?_
  case hbel => exact belowN (w := w) [_, tokZ, faultZ, _, _, _] (by rfl) (by rfl) (by rfl) (by rfl)
  rintro e w1 ⟨rfl, hb⟩
  obtain ⟨hk, hz, hw⟩ := keptN hb w [_, tokZ, faultZ, _, _, _] (by rfl) (by rfl) (by rfl) (by rfl)
  obtain ⟨⟨a0, a1, a2, a3⟩, a4, a5, a6, a7⟩ := row4 (show w1.heap[w.heap.size + 1]? = some tokZ from hk 1 (by simp))
  obtain ⟨⟨b0, b1⟩, b2, b3⟩ := row2 (show w1.heap[w.heap.size + 1 + 1]? = some faultZ from hk 2 (by simp))
  clear hk hb
  go_wp2
  refine bodyPost_ret (v := .tuple #[.agg #[.int .u8 rk, .string rx, .int .i64 rw0, .int .i64 rp], .agg #[.int .i64 ra, .int .i64 rr]]) (by simp [results, Tryd.results54, go_sem, a0, a1, a2, a3, b0, b1]) rfl ⟨rfl, stored6' (Nat.le_succ _) hw _ _ _ _ _ _⟩
set_option maxHeartbeats 4000000 in
theorem next_3 (b : Nat) (s : ByteArray) (p : Nat) (fa fr : Int) (w : World) (T : LTabs w) (hs62 : s.size ≤ 281474976710656) (hp : p < s.size) (hs : Sc w b s p fa fr) (hN0 : letterB (PlainAid.bt s p) = false) (hN1 : digitB (PlainAid.bt s p) = false) (hN2 : signB (PlainAid.bt s p) = false) :
    Calls Tryd.prog 54 #[.pointer (some ⟨b, 0, none⟩), .agg #[.func (.func 73) #[] #[], .func (.func 74) #[.pointer (some ⟨b, 0, none⟩)] #[], .func (.func 75) #[] #[], .func (.func 76) #[.pointer (some ⟨b, 0, none⟩)] #[], .func (.func 77) #[] #[], .func (.func 78) #[.pointer (some ⟨b, 0, none⟩)] #[]]] w fun e w' => e = .returned (Res.val (⟨0, ⟨#[]⟩, 0, 0, p, 1⟩ : Res)) ∧ Below w.heap.size w w' := by
  have hlt := hs.lt
  obtain ⟨⟨c0, c1, c2, c3⟩, f1, f2, f3⟩ := hs.cells
  have HS := Lib.hid hs
  have HT := Lib.hid T
  obtain ⟨c, hc⟩ : ∃ c, Hid (c = PlainAid.bt s p) := ⟨_, rfl⟩
  have hbt : ∀ h : p < s.size, ((s[p]'h).toNat : Int) = c := fun h => by rw [hc.out]; exact PlainAid.get_bt s p h
  have hx0 : 0 ≤ c := by rw [hc.out]; exact PlainAid.bt_nonneg s p
  have hx1 : c ≤ 255 := by rw [hc.out]; exact PlainAid.bt_le s p
  have H0 : Hid (∀ W : World, Calls Tryd.prog 73 #[.int .u8 c] W fun e w' => e = .returned (.bool false) ∧ W = w') := fun W => by
    have k := letter_any c hx0 hx1 W
    rw [hc.out, hN0] at k
    rw [hc.out]
    exact k
  have i0 : ∀ w, (Instr.index 103 (.agg #[.func (.func 73) #[] #[], .func (.func 74) #[.pointer (some ⟨b, 0, none⟩)] #[], .func (.func 75) #[] #[], .func (.func 76) #[.pointer (some ⟨b, 0, none⟩)] #[], .func (.func 77) #[] #[], .func (.func 78) #[.pointer (some ⟨b, 0, none⟩)] #[]]) (.int .i64 0)).run Tryd.prog w = .ok (.agg #[.func (.func 73) #[] #[], .func (.func 74) #[.pointer (some ⟨b, 0, none⟩)] #[]]) w := fun _ => by kernel_rfl
  have H1 : Hid (∀ W : World, Calls Tryd.prog 75 #[.int .u8 c] W fun e w' => e = .returned (.bool false) ∧ W = w') := fun W => by
    have k := digit_any c hx0 hx1 W
    rw [hc.out, hN1] at k
    rw [hc.out]
    exact k
  have i1 : ∀ w, (Instr.index 103 (.agg #[.func (.func 73) #[] #[], .func (.func 74) #[.pointer (some ⟨b, 0, none⟩)] #[], .func (.func 75) #[] #[], .func (.func 76) #[.pointer (some ⟨b, 0, none⟩)] #[], .func (.func 77) #[] #[], .func (.func 78) #[.pointer (some ⟨b, 0, none⟩)] #[]]) (.int .i64 1)).run Tryd.prog w = .ok (.agg #[.func (.func 75) #[] #[], .func (.func 76) #[.pointer (some ⟨b, 0, none⟩)] #[]]) w := fun _ => by kernel_rfl
  have H2 : Hid (∀ W : World, Calls Tryd.prog 77 #[.int .u8 c] W fun e w' => e = .returned (.bool false) ∧ W = w') := fun W => by
    have k := sign_any c hx0 hx1 W
    rw [hc.out, hN2] at k
    rw [hc.out]
    exact k
  have i2 : ∀ w, (Instr.index 103 (.agg #[.func (.func 73) #[] #[], .func (.func 74) #[.pointer (some ⟨b, 0, none⟩)] #[], .func (.func 75) #[] #[], .func (.func 76) #[.pointer (some ⟨b, 0, none⟩)] #[], .func (.func 77) #[] #[], .func (.func 78) #[.pointer (some ⟨b, 0, none⟩)] #[]]) (.int .i64 2)).run Tryd.prog w = .ok (.agg #[.func (.func 77) #[] #[], .func (.func 78) #[.pointer (some ⟨b, 0, none⟩)] #[]]) w := fun _ => by kernel_rfl
  clear hs T hN0 hN1 hN2
  have l1 : b < w.heap.size + 1 := by omega
  have l2 : b < w.heap.size + 1 + 1 := by omega
  have l3 : b < w.heap.size + 1 + 1 + 1 := by omega
  have l4 : b < w.heap.size + 1 + 1 + 1 + 1 := by omega
  have l5 : b < w.heap.size + 1 + 1 + 1 + 1 + 1 := by omega
  go_enter Tryd.func54, Tryd.ntmps54
  go_wp2_with fail
  refine wp_loop_rounds 4 ?_
  rw [rounds_succ]
  go_wp2_with fail
  go_quiet ((go_at_call 73; first | (with_reducible exact quiet_one (H0.out _)) | (with_reducible exact quiet_more (H0.out _))))
  go_wp2_with fail
  rw [rounds_succ]
  go_wp2_with fail
  go_quiet ((go_at_call 75; first | (with_reducible exact quiet_one (H1.out _)) | (with_reducible exact quiet_more (H1.out _))))
  go_wp2_with fail
  rw [rounds_succ]
  go_wp2_with fail
  go_quiet ((go_at_call 77; first | (with_reducible exact quiet_one (H2.out _)) | (with_reducible exact quiet_more (H2.out _))))
  go_wp2_with fail
  rw [rounds_succ]
  go_wp2_with fail
  go_region
  all_goals
    go_wp2
    refine bodyPost_ret (v := .tuple #[.agg #[.int .u8 0, .string ⟨#[]⟩, .int .i64 0, .int .i64 0], .agg #[.int .i64 p, .int .i64 1]]) (by simp [results, Tryd.results54, go_sem]) rfl ⟨rfl, stored6' (Nat.le_succ _) (by first | exact belowN [_, _, _, _, _, _] (by rfl) (by rfl) (by rfl) (by rfl)) _ _ _ _ _ _⟩
/-- The token or the fault at a byte, whatever the byte. -/
theorem next_any (b : Nat) (s : ByteArray) (p : Nat) (fa fr : Int) (w : World) (T : LTabs w) (hs62 : s.size ≤ 281474976710656) (hp : p < s.size) (hs : Sc w b s p fa fr) :
    Calls Tryd.prog 54 #[.pointer (some ⟨b, 0, none⟩), .agg (famCells b)] w fun e w' => e = .returned (nextR s p).val ∧ Below w.heap.size w w' := by
  unfold nextR
  by_cases h0 : letterB (PlainAid.bt s p) = true
  · rw [if_pos h0]; exact next_0 b s p fa fr w T hs62 hp hs h0
  · rw [if_neg h0]
    have g0 : letterB (PlainAid.bt s p) = false := by simpa using h0
    by_cases h1 : digitB (PlainAid.bt s p) = true
    · rw [if_pos h1]; exact next_1 b s p fa fr w T hs62 hp hs g0 h1
    · rw [if_neg h1]
      have g1 : digitB (PlainAid.bt s p) = false := by simpa using h1
      by_cases h2 : signB (PlainAid.bt s p) = true
      · rw [if_pos h2]; exact next_2 b s p fa fr w T hs62 hp hs g0 g1 h2
      · rw [if_neg h2]
        have g2 : signB (PlainAid.bt s p) = false := by simpa using h2
        exact next_3 b s p fa fr w T hs62 hp hs g0 g1 g2
end Go.Proofs.YtgaibdipecngkaaDoor

namespace Go.Proofs.YtgaibdipecngkaaDoor
open Go.RowKit

/-- Each block that is chosen lies in B as it lay in A; the streams are as they were. -/
structure Keep (sel : Nat → Obj → Prop) (A B : World) : Prop where
  os : B.os = A.os
  tape : B.tape = A.tape
  output : B.output = A.output
  size : A.heap.size ≤ B.heap.size
  block : ∀ k o, A.heap[k]? = some o → sel k o → B.heap[k]? = some o
theorem Keep.refl (sel : Nat → Obj → Prop) (A : World) : Keep sel A A := ⟨rfl, rfl, rfl, Nat.le_refl _, fun _ _ h _ => h⟩
theorem Keep.trans {sel : Nat → Obj → Prop} {A B C : World} (h : Keep sel A B) (k : Keep sel B C) : Keep sel A C :=
  ⟨k.os.trans h.os, k.tape.trans h.tape, k.output.trans h.output, Nat.le_trans h.size k.size, fun i o hi hs => k.block i o (h.block i o hi hs) hs⟩
theorem Keep.mono {sel sel' : Nat → Obj → Prop} {A B : World} (h : Keep sel A B) (hm : ∀ k o, sel' k o → sel k o) : Keep sel' A B :=
  ⟨h.os, h.tape, h.output, h.size, fun k o hk hs => h.block k o hk (hm k o hs)⟩
theorem Keep.grown {sel : Nat → Obj → Prop} {A B C : World} {row : Option Nat} (h : Keep sel A B) (hg : B.grownBy C row) (hr : ∀ r o, row = some r → B.heap[r]? = some o → ¬ sel r o) : Keep sel A C :=
  h.trans ⟨hg.os, hg.tape, hg.output, hg.size, fun k o hk hs => (hg.block k (Array.getElem?_eq_some_iff.1 hk).1 (fun e => hr k o e.symm hk hs)).trans hk⟩
theorem Keep.alloc {sel : Nat → Obj → Prop} {A B : World} (h : Keep sel A B) (o : Obj) : Keep sel A (B.alloc o) :=
  h.grown (World.grownBy_alloc B o none) (fun _ _ e => by cases e)
theorem Keep.putObj {sel : Nat → Obj → Prop} {A B : World} (h : Keep sel A B) {l : Nat} {o : Obj} (o' : Obj) (hl : B.heap[l]? = some o) (hs : ¬ sel l o) : Keep sel A (B.putObj l o') :=
  h.grown (grownBy_putObj' B l o') (fun r u e hu => by cases e; rw [hl] at hu; cases hu; exact hs)
theorem grownBy_setCellAt (W : World) (p : Addr) (v : Value) : W.grownBy (W.setCell p v) (some p.block) :=
  ⟨rfl, rfl, rfl, by simp [World.setCell], fun k _ hk => Below.heap_setCell _ _ _ k (fun e => hk (by rw [e]))⟩
theorem Keep.setCell {sel : Nat → Obj → Prop} {A B : World} (h : Keep sel A B) {p : Addr} {o : Obj} (u : Value) (hl : B.heap[p.block]? = some o) (hs : ¬ sel p.block o) : Keep sel A (B.setCell p u) :=
  h.grown (grownBy_setCellAt B p u) (fun r x e hx => by cases e; rw [hl] at hx; cases hx; exact hs)
theorem Keep.below {sel : Nat → Obj → Prop} {A B : World} {n : Nat} (h : Keep sel A B) (hn : n ≤ A.heap.size) (hs : ∀ k o, k < n → sel k o) : Below n A B :=
  ⟨h.os, h.tape, h.output, h.size, fun k hk => by
    have hlt : k < A.heap.size := by omega
    rw [h.block k _ (Array.getElem?_eq_getElem hlt) (hs k _ hk), Array.getElem?_eq_getElem hlt]⟩
theorem Keep.of_below {sel : Nat → Obj → Prop} {A B : World} (h : Below A.heap.size A B) : Keep sel A B :=
  ⟨h.os, h.tape, h.output, h.size, fun k _ hk _ => (h.block k (Array.getElem?_eq_some_iff.1 hk).1).trans hk⟩

/-- How a round's body may be left. -/
def keepPost {α : Type} (sB : Nat → Obj → Prop) (I : List α → World → Prop) (Ix : Code → List α → World → Prop) (xs : List α) (W : World) : Exit → Act → World → Prop
  | .normal, _, W' => Keep sB W W' ∧ I xs W'
  | .ret, _, W' => Keep sB W W' ∧ Ix .ret xs W'
  | .exit id, _, W' => Keep sB W W' ∧ Ix (.exit id) xs W'
  | .goto t, _, W' => Keep sB W W' ∧ Ix (.goto t) xs W'
  | .panic _, _, _ => False
  | .outgrown, _, _ => False

theorem wpIn_range_keep {F : Fence} {n : Nat} {P : Program} {α : Type} {g : Operand} {ps : Array Tmp} {assign body : Code} {Q : Exit → Act → World → Prop} {a : Act} {w : World}
    (hro : F.round = none) (h1 : 1 ≤ n) {gf : Nat} {fst lb : Array Value} (hg : a.eval g = .func (.func gf) fst lb) (hFg : F.fn gf) (eg : ∀ args w, (callFunc gf args).run P w = .ok (.enter gf args) w)
    {encs : α → Array Value} (hps : ∀ x, (encs x).size = ps.size)
    (sO sY sC : Nat → Obj → Prop) (hO : ∀ k o, o.isCells = false → sO k o) (hY : ∀ k o, w.heap.size ≤ k → sY k o → o.isCells = true) (hC : ∀ k o, w.heap.size ≤ k → sC k o → o.isCells = true) (hCO : ∀ k o, sC k o → sO k o)
    {S Sp : List α → World → Prop} {ok : List α → α → Prop}
    (hseq : ∀ (l : Nat) (J Jx : List α → World → Prop) (W : World), Below w.heap.size w W →
      (∀ s A B, J s A → Keep sO A B → J s B) → (∀ s A B, Jx s A → Keep sO A B → Jx s B) →
      (∀ pre x W1, J pre W1 → ok pre x → YieldAt F (n - 1 - 1) P l (encs x) W1 fun e W' =>
        (e = .returned (.bool true) ∧ J (pre ++ [x]) W' ∧ Keep sY W1 W') ∨ (e = .returned (.bool false) ∧ Jx (pre ++ [x]) W' ∧ Keep sY W1 W')) →
      J [] W →
      CallsIn F (n - 1) P gf (fst ++ #[.func (.yield l) #[] #[]] ++ lb) W fun e W' => (∃ v, e = .returned v) ∧ ((∃ xs, S xs W' ∧ J xs W') ∨ (∃ pre, Sp pre W' ∧ Jx pre W')))
    (I : List α → World → Prop) (Ix : Code → List α → World → Prop) (hI : ∀ s A B, I s A → Keep sC A B → I s B) (hIx : ∀ c s A B, Ix c s A → Keep sC A B → Ix c s B) (h0 : I [] w)
    (Ax : α → Act → World → Prop) (hAx : ∀ x a' A B, Ax x a' A → Keep sC A B → Ax x a' B)
    (hassign : ∀ (l : Nat) (pre : List α) (x : α) (W : World) (K : Act → World → Prop), I pre W → (∀ a' W', Keep (fun k o => sY k o ∨ o.isCells = false) W W' → I pre W' → Ax x a' W' → K a' W') →
      assign.wpIn (F.inRound l) (n - 1 - 1) P (Exit.then K (fun _ _ _ => False)) { tmps := (ps.zip (encs x)).foldl (fun t (p, v) => t.setIfInBounds p v) a.tmps, defers := [] } W)
    (hbody : ∀ (l : Nat) (pre : List α) (x : α) (a' : Act) (W : World), I pre W → Ax x a' W → ok pre x → body.wpIn (F.inRound l) (n - 1 - 1) P (keepPost (fun k o => sY k o ∨ o.isCells = false) I Ix (pre ++ [x]) W) a' W)
    (hdone : ∀ (D : Nat) (xs : List α) (W0 W : World), w.heap.size ≤ D → S xs W0 → I xs W → Keep (fun k o => k < w.heap.size ∨ o.isCells = true) W0 W → W.heap[D]? = some (.deferred (some [])) → Q .normal { a with defers := { target := .collected D, args := #[] } :: a.defers } W)
    (hstop : ∀ (D : Nat) (c : Code) (pre : List α) (W0 W : World), w.heap.size ≤ D → Sp pre W0 → Ix c pre W → Keep (fun k o => k < w.heap.size ∨ o.isCells = true) W0 W → W.heap[D]? = some (.deferred (some [])) → c.wpIn F n P Q { a with defers := { target := .collected D, args := #[] } :: a.defers } W) :
    (Code.rangeFunc g ps assign body).wpIn F n P Q a w := by
  refine wpIn_rangeFunc ?_
  intro fn hfn
  rw [hro]
  obtain ⟨rec, hrec⟩ : ∃ rec : LoopState → Option Code → Loop, rec = fun st pe => { state := st, pending := pe, fn, tmps := a.tmps, params := ps, assign, body, defers := w.heap.size } := ⟨_, rfl⟩
  obtain ⟨W1, hW1⟩ : ∃ W1, (w.alloc (.deferred (some []))).alloc (.loop (rec .ready none)) = W1 := ⟨_, rfl⟩
  have hL1 : W1.heap[w.heap.size + 1]? = some (.loop (rec .ready none)) := by
    rw [← hW1]; have := World.alloc_heap_new (w.alloc (.deferred (some []))) (.loop (rec .ready none)); rwa [World.size_alloc] at this
  have hK1 : W1.heap[w.heap.size]? = some (.deferred (some [])) := by
    rw [← hW1]; exact (Below.heap_alloc _ _ _ (by simp)).trans (World.alloc_heap_new w _)
  have hI1 : I [] W1 := by rw [← hW1]; exact hI _ _ _ h0 (((Keep.refl _ w).alloc _).alloc _)
  have hb1 : Below w.heap.size w W1 := by
    rw [← hW1]; exact ((Below.refl _ w).alloc (Nat.le_refl _) _).alloc (by simp) _
  have put : ∀ {W : World} {l : Nat} {o : Obj} (o' : Obj), w.heap.size ≤ l → W.heap[l]? = some o → o.isCells = false → Keep sC W (W.putObj l o') := fun o' hle hl hc =>
    (Keep.refl _ _).putObj o' hl (fun hs => by have := hC _ _ hle hs; rw [hc] at this; cases this)
  have putY : ∀ {W : World} {l : Nat} {o : Obj} (o' : Obj), w.heap.size ≤ l → W.heap[l]? = some o → o.isCells = false → Keep sY W (W.putObj l o') := fun o' hle hl hc =>
    (Keep.refl _ _).putObj o' hl (fun hs => by have := hY _ _ hle hs; rw [hc] at this; cases this)
  have putR : ∀ {W : World} {l : Nat} {o : Obj} (o' : Obj), w.heap.size ≤ l → W.heap[l]? = some o → o.isCells = false → Keep (fun k o => k < w.heap.size ∨ o.isCells = true) W (W.putObj l o') := fun o' hle hl hc =>
    (Keep.refl _ _).putObj o' hl (fun hs => by rcases hs with hs | hs; · omega
                                               · rw [hc] at hs; cases hs)
  refine ⟨w.heap.size + 1, [{ target := .collected w.heap.size, args := #[] }], W1, { target := .fn (.func gf) lb, args := fst ++ #[.func (.yield (w.heap.size + 1)) #[] #[]] }, W1, gf,
    fst ++ #[.func (.yield (w.heap.size + 1)) #[] #[]] ++ lb, W1, ?_, ?_, ?_, ?_, fun _ => h1, ?_⟩
  · rw [← hW1, hrec]; exact run_enterLoop_outer _ _ _ _ _
  · simp only [resolve, hg]
    simp [go_sem]
  · intro f' hf'; simp [Target.leads] at hf'; subst hf'; exact hFg
  · simp [invoke, go_sem, eg]
  · refine (hseq (w.heap.size + 1)
      (fun pre W => I pre W ∧ W.heap[w.heap.size + 1]? = some (.loop (rec .ready none)) ∧ W.heap[w.heap.size]? = some (.deferred (some [])))
      (fun pre W => ∃ c, Ix c pre W ∧ W.heap[w.heap.size + 1]? = some (.loop (rec .done (some c))) ∧ W.heap[w.heap.size]? = some (.deferred (some [])))
      W1 hb1
      (fun s A B hs hk => ⟨hI s A B hs.1 (hk.mono hCO), hk.block _ _ hs.2.1 (hO _ _ rfl), hk.block _ _ hs.2.2 (hO _ _ rfl)⟩)
      (fun s A B hs hk => by
        obtain ⟨c, hc, hl, hd⟩ := hs
        exact ⟨c, hIx c s A B hc (hk.mono hCO), hk.block _ _ hl (hO _ _ rfl), hk.block _ _ hd (hO _ _ rfl)⟩)
      ?_ ⟨hI1, hL1, hK1⟩).mono ?_
    · -- one round
      rintro pre x W ⟨hi, hl, hk⟩ hok
      have hlt : w.heap.size + 1 < W.heap.size := (Array.getElem?_eq_some_iff.1 hl).1
      have hy := run_yield (P := P) (args := encs x) hl (by rw [hrec]; exact hps x)
      rw [hrec] at hy
      refine ⟨fn, _, assign, body, hy, roundIn_of_wpIn hfn (hassign _ pre x W _ hi ?_)⟩
      clear hy
      intro a' Wa hka hia hax
      have hkY : Keep sY W Wa := hka.mono (fun _ _ h => .inl h)
      replace hl := hka.block _ _ hl (.inr rfl)
      replace hk := hka.block _ _ hk (.inr rfl)
      replace hlt : w.heap.size + 1 < Wa.heap.size := (Array.getElem?_eq_some_iff.1 hl).1
      refine ⟨_, run_beginRound hl (by rw [hrec]), ?_⟩
      have hl2 : (Wa.putObj (w.heap.size + 1) (.loop { rec .ready none with state := .busy })).heap[w.heap.size + 1]? = some (.loop { rec .ready none with state := .busy }) := World.putObj_heap_same hlt
      have hk2 : (Wa.putObj (w.heap.size + 1) (.loop { rec .ready none with state := .busy })).heap[w.heap.size]? = some (.deferred (some [])) := (World.putObj_heap_other (by omega)).trans hk
      have hw2 : Keep sY Wa (Wa.putObj (w.heap.size + 1) (.loop { rec .ready none with state := .busy })) := putY _ (by omega) hl rfl
      have hw2C : Keep sC Wa (Wa.putObj (w.heap.size + 1) (.loop { rec .ready none with state := .busy })) := put _ (by omega) hl rfl
      refine wpIn_mono (hbody _ pre x a' _ (hI _ _ _ hia hw2C) (hAx _ _ _ _ hax hw2C) hok) ?_
      have fin : ∀ (jump : Option Code) (W3 : World), Keep (fun k o => sY k o ∨ o.isCells = false) (Wa.putObj (w.heap.size + 1) (.loop { rec .ready none with state := .busy })) W3 →
          (Instr.endRound (w.heap.size + 1) jump).run P W3 = .ok (.bool jump.isNone) (W3.putObj (w.heap.size + 1) (.loop (rec (if jump.isNone then .ready else .done) jump))) ∧
          W3.heap[w.heap.size + 1]? = some (.loop { rec .ready none with state := .busy }) ∧
          (W3.putObj (w.heap.size + 1) (.loop (rec (if jump.isNone then .ready else .done) jump))).heap[w.heap.size + 1]? = some (.loop (rec (if jump.isNone then .ready else .done) jump)) ∧
          (W3.putObj (w.heap.size + 1) (.loop (rec (if jump.isNone then .ready else .done) jump))).heap[w.heap.size]? = some (.deferred (some [])) ∧
          Keep sY W (W3.putObj (w.heap.size + 1) (.loop (rec (if jump.isNone then .ready else .done) jump))) ∧
          Keep sC W3 (W3.putObj (w.heap.size + 1) (.loop (rec (if jump.isNone then .ready else .done) jump))) := fun jump W3 hk3 => by
        have hl3 := hk3.block _ _ hl2 (.inr rfl)
        have := run_endRound (P := P) jump hl3
        rw [hrec] at this ⊢
        exact ⟨this, by rw [hrec] at hl3; exact hl3, World.putObj_heap_same (Array.getElem?_eq_some_iff.1 hl3).1, (World.putObj_heap_other (by omega)).trans (hk3.block _ _ hk2 (.inr rfl)),
          hkY.trans (Keep.trans (by rw [hrec] at hw2; exact hw2) (Keep.trans (by rw [hrec] at hk3; exact hk3.mono (fun _ _ h => .inl h)) (putY _ (by omega) hl3 rfl))), put _ (by omega) hl3 rfl⟩
      rintro e a3 W3 hp
      cases e with
      | normal =>
        obtain ⟨hk3, hi3⟩ := hp
        obtain ⟨hr, hl3, hl4, hk4, hy4, hc4⟩ := fin none W3 hk3
        exact ⟨_, _, hr, .inl ⟨rfl, ⟨hI _ _ _ hi3 hc4, hl4, hk4⟩, hy4⟩⟩
      | ret =>
        obtain ⟨hk3, hi3⟩ := hp
        obtain ⟨hr, hl3, hl4, hk4, hy4, hc4⟩ := fin (some .ret) W3 hk3
        exact ⟨_, _, hr, .inr ⟨rfl, ⟨.ret, hIx _ _ _ _ hi3 hc4, hl4, hk4⟩, hy4⟩⟩
      | exit id =>
        obtain ⟨hk3, hi3⟩ := hp
        obtain ⟨hr, hl3, hl4, hk4, hy4, hc4⟩ := fin (some (.exit id)) W3 hk3
        exact ⟨_, _, hr, .inr ⟨rfl, ⟨.exit id, hIx _ _ _ _ hi3 hc4, hl4, hk4⟩, hy4⟩⟩
      | goto t =>
        obtain ⟨hk3, hi3⟩ := hp
        obtain ⟨hr, hl3, hl4, hk4, hy4, hc4⟩ := fin (some (.goto t)) W3 hk3
        exact ⟨_, _, hr, .inr ⟨rfl, ⟨.goto t, hIx _ _ _ _ hi3 hc4, hl4, hk4⟩, hy4⟩⟩
      | panic ch => exact hp.elim
      | outgrown => exact hp.elim
    · -- behind the iterator
      rintro e W2 ⟨⟨v, rfl⟩, (⟨xs, hS, hi, hl, hk⟩ | ⟨pre, hSp, c, hi, hl, hk⟩)⟩
      · exact ⟨none, _, by have := run_endLoop (P := P) hl (by rw [hrec]; simp); rw [hrec] at this; exact this, hdone _ xs W2 _ (Nat.le_refl _) hS (hI _ _ _ hi (put _ (by omega) hl rfl)) (putR _ (by omega) hl rfl) ((World.putObj_heap_other (by omega)).trans hk)⟩
      · exact ⟨some c, _, by have := run_endLoop (P := P) hl (by rw [hrec]; simp); rw [hrec] at this; exact this, hstop _ c pre W2 _ (Nat.le_refl _) hSp (hIx _ _ _ _ hi (put _ (by omega) hl rfl)) (putR _ (by omega) hl rfl) ((World.putObj_heap_other (by omega)).trans hk)⟩
end Go.Proofs.YtgaibdipecngkaaDoor

namespace Go.Proofs.YtgaibdipecngkaaDoor
open Go.RowKit
set_option linter.unusedVariables false

def slashes : List UInt8 := [47, 47]
/-- How many bytes one step goes over. -/
def stepN (l : List UInt8) : Nat := if Lib.hasPrefix l slashes = true then spanN feedB l else spanN blankB l
theorem stepN_le (l : List UInt8) : stepN l ≤ l.length := by
  unfold stepN; split
  · exact spanN_le _ _
  · exact spanN_le _ _
def passF : Nat → List UInt8 → Nat
  | 0, _ => 0
  | f + 1, l => if stepN l = 0 then 0 else stepN l + passF f (l.drop (stepN l))
theorem passF_more : ∀ (f g : Nat) (l : List UInt8), l.length ≤ f → l.length ≤ g → passF f l = passF g l
  | 0, 0, _, _, _ => rfl
  | 0, g + 1, l, h, _ => by
    have : l = [] := List.length_eq_zero_iff.1 (by omega)
    subst this
    rfl
  | f + 1, 0, l, _, h => by
    have : l = [] := List.length_eq_zero_iff.1 (by omega)
    subst this
    rfl
  | f + 1, g + 1, l, hf, hg => by
    simp only [passF]
    by_cases h : stepN l = 0
    · rw [if_pos h, if_pos h]
    · rw [if_neg h, if_neg h, passF_more f g (l.drop (stepN l)) (by simp; omega) (by simp; omega)]
/-- How many bytes blanks and remarks take at the beginning. -/
def passN (l : List UInt8) : Nat := passF l.length l
theorem passN_stop {l : List UInt8} (h : stepN l = 0) : passN l = 0 := by
  unfold passN
  cases hl : l.length with
  | zero => rfl
  | succ n => simp only [passF]; rw [if_pos h]
theorem passN_step {l : List UInt8} (h : ¬ stepN l = 0) : passN l = stepN l + passN (l.drop (stepN l)) := by
  have hle := stepN_le l
  have e : passF l.length l = passF (l.length + 1) l := passF_more _ _ l (Nat.le_refl _) (Nat.le_succ _)
  have e2 : passF (l.length + 1) l = stepN l + passF l.length (l.drop (stepN l)) := by
    simp only [passF]; rw [if_neg h]
  have e3 : passN (l.drop (stepN l)) = passF l.length (l.drop (stepN l)) := passF_more _ _ _ (Nat.le_refl _) (by simp)
  rw [e3, ← e2, ← e]
  rfl
theorem passN_le : ∀ (n : Nat) (l : List UInt8), l.length ≤ n → passN l ≤ l.length
  | 0, l, h => by
    have : l = [] := List.length_eq_zero_iff.1 (by omega)
    subst this
    exact Nat.le_refl _
  | n + 1, l, h => by
    by_cases h0 : stepN l = 0
    · rw [passN_stop h0]; exact Nat.zero_le _
    · have hle := stepN_le l
      have k := passN_le n (l.drop (stepN l)) (by simp; omega)
      rw [passN_step h0]
      simp at k
      omega
theorem from_drop (s : ByteArray) (p n : Nat) : (bytesFrom s p).drop n = bytesFrom s (p + n) := by
  unfold bytesFrom; rw [List.drop_drop]
theorem from_len (s : ByteArray) (p : Nat) : (bytesFrom s p).length = s.size - p := by
  unfold bytesFrom; simp
theorem Sc.setAt {W : World} {b : Nat} {s : ByteArray} {p fa fr : Int} (h : Sc W b s p fa fr) (p' : Int) : Sc (W.setCell ⟨b, 1, none⟩ (.int .i64 p')) b s p' fa fr :=
  heap_setCell_same W b 1 _ _ (.int .i64 p') h
def atOf (b : Nat) (w : World) : Nat := match w.cell? ⟨b, 1, none⟩ with
  | some v => (intOf v).toNat
  | none => 0
theorem Sc.atOf {W : World} {b : Nat} {s : ByteArray} {p : Nat} {fa fr : Int} (h : Sc W b s p fa fr) : atOf b W = p := by
  unfold Proofs.YtgaibdipecngkaaDoor.atOf; rw [h.cells.1.2.1]; simp [intOf]
set_option maxHeartbeats 2000000 in
theorem pass_any (b : Nat) (s : ByteArray) (p : Nat) (fa fr : Int) (w : World) (hs62 : s.size ≤ 281474976710656) (hp : p ≤ s.size) (hs : Sc w b s p fa fr) :
    Calls Tryd.prog 53 #[.pointer (some ⟨b, 0, none⟩)] w fun e w' => e = .returned (.tuple #[]) ∧ Sc w' b s ((p + passN (bytesFrom s p) : Nat) : Int) fa fr ∧ Keep (fun k _ => k ≠ b) w w' ∧ w'.heap.size = w.heap.size := by
  have HS := Lib.hid hs
  clear hs
  obtain ⟨R, hR⟩ : ∃ R, Hid (R = p + passN (bytesFrom s p)) := ⟨_, rfl⟩
  rw [← hR.out]
  go_enter Tryd.func53, Tryd.ntmps53
  go_wp2_with fail
  go_loopw [2, 3] (fun _ _ wr => ∃ k : Nat, k ≤ s.size ∧ Sc wr b s k fa fr ∧ Hid (k + passN (bytesFrom s k) = R) ∧ Keep (fun k _ => k ≠ b) w wr ∧ wr.heap.size = w.heap.size) (fun _ _ wr => s.size - atOf b wr)
  case atStart => exact ⟨p, hp, HS.out, hR.out.symm, Keep.refl _ _, rfl⟩
  case round =>
    obtain ⟨k, hk, hsc, hpa, hB, hsz⟩ := hrel
    have HSC := Lib.hid hsc
    have HSZ := Lib.hid hsz
    obtain ⟨⟨c0, c1, c2, c3⟩, f1, f2, f3⟩ := hsc.cells
    clear hsc hsz
    obtain ⟨X0, hX0⟩ : ∃ X0, Hid (X0 = s.extract k s.size) := ⟨_, rfl⟩
    have hl0 : X0.data.toList = bytesFrom s k := by rw [hX0.out]; exact tail_list s k
    have hz0 : X0.size ≤ 281474976710656 := by rw [hX0.out]; simp; omega
    obtain ⟨l, hl⟩ : ∃ l, Hid (l = bytesFrom s k) := ⟨_, rfl⟩
    rw [← hl.out] at hl0 hpa
    obtain ⟨n1, hn1⟩ : ∃ n, Hid (n = spanN blankB l) := ⟨_, rfl⟩
    obtain ⟨n2, hn2⟩ : ∃ n, Hid (n = spanN feedB l) := ⟨_, rfl⟩
    obtain ⟨q, hq⟩ : ∃ q, Hid (q = Lib.hasPrefix l slashes) := ⟨_, rfl⟩
    have H1 : Hid (∀ W : World, Calls Tryd.prog 79 #[.string X0, .func (.func 80) #[] #[]] W fun e w' => e = .returned (.int .i64 n1) ∧ W = w') := fun W => by
      have k := span_blank X0 (by omega) W
      rw [hl0, ← hn1.out] at k
      exact k
    have H2 : Hid (∀ W : World, Calls Tryd.prog 79 #[.string X0, .func (.func 82) #[] #[]] W fun e w' => e = .returned (.int .i64 n2) ∧ W = w') := fun W => by
      have k := span_feed X0 (by omega) W
      rw [hl0, ← hn2.out] at k
      exact k
    have H3 : Hid (∀ W : World, Calls Tryd.prog 81 #[.string X0, .string ⟨#[47, 47]⟩] W fun e w' => e = .returned (.bool q) ∧ w' = W) := fun W => by
      have k := Go.Proofs.Tryd.strings_HasPrefix X0 ⟨#[47, 47]⟩ W
      rw [hl0] at k
      rw [hq.out]
      exact k
    have hlen : l.length = s.size - k := by rw [hl.out]; exact from_len s k
    have hle1 : n1 ≤ s.size - k := by rw [hn1.out, ← hlen]; exact spanN_le _ _
    have hle2 : n2 ≤ s.size - k := by rw [hn2.out, ← hlen]; exact spanN_le _ _
    have hst : Hid (stepN l = if q = true then n2 else n1) := by rw [Hid, hq.out, hn1.out, hn2.out]; rfl
    clear hl0 hlen
    go_wp2
    go_quiet (fail)
    rw [← hX0.out]
    cases q
    · by_cases h0 : n1 = 0
      · subst h0
        have hfin : Hid (R = k) := by rw [Hid, ← hpa.out, passN_stop (by rw [hst.out]; rfl)]; omega
        go_wp2_with (first
          | (go_at_call 79; (with_reducible refine (H1.out _).mono ?_); rintro e w' ⟨rfl, rfl⟩)
          | (go_at_call 79; (with_reducible refine (H2.out _).mono ?_); rintro e w' ⟨rfl, rfl⟩)
          | (go_at_call 81; refine (H3.out _).mono ?_; rintro e w' ⟨rfl, rfl⟩))
        refine bodyPost_ret (results_none rfl _ _ _) rfl ?_
        rw [hfin.out]
        exact ⟨rfl, HSC.out, ⟨hB.os, hB.tape, hB.output, hB.size, hB.block⟩, HSZ.out⟩
      · have qn : ((n1 : Int) == 0) = false := int_f (by omega)
        have hpos : 0 < n1 := by omega
        have hnext : Hid (k + n1 + passN (bytesFrom s (k + n1)) = R) := by
          have e1 : stepN l = n1 := by rw [hst.out]; rfl
          have e2 := passN_step (l := l) (by rw [e1]; exact h0)
          rw [e1] at e2
          rw [Hid, ← hpa.out, e2, ← from_drop, ← hl.out]
          omega
        clear h0
        go_wp2_with (first
          | (go_at_call 79; (with_reducible refine (H1.out _).mono ?_); rintro e w' ⟨rfl, rfl⟩)
          | (go_at_call 79; (with_reducible refine (H2.out _).mono ?_); rintro e w' ⟨rfl, rfl⟩)
          | (go_at_call 81; refine (H3.out _).mono ?_; rintro e w' ⟨rfl, rfl⟩))
        have hnew : Sc ((wr.drewN nq).setCell ⟨b, 1, none⟩ (.int .i64 ((k : Int) + (n1 : Int)))) b s ((k + n1 : Nat) : Int) fa fr := by
          rw [Int.natCast_add]
          exact (show Sc (wr.drewN nq) b s k fa fr from HSC.out).setAt _
        go_roundw
        case rel => exact ⟨k + n1, by omega, hnew, hnext, (show Keep (fun k _ => k ≠ b) w (wr.drewN nq) from ⟨hB.os, hB.tape, hB.output, hB.size, hB.block⟩).setCell (p := ⟨b, 1, none⟩) _ HSC.out (fun h => h rfl), by simp [World.setCell]; exact HSZ.out⟩
        case measure =>
          rw [hnew.atOf, HSC.out.atOf]
          omega
    · by_cases h0 : n2 = 0
      · subst h0
        have hfin : Hid (R = k) := by rw [Hid, ← hpa.out, passN_stop (by rw [hst.out]; rfl)]; omega
        go_wp2_with (first
          | (go_at_call 79; (with_reducible refine (H1.out _).mono ?_); rintro e w' ⟨rfl, rfl⟩)
          | (go_at_call 79; (with_reducible refine (H2.out _).mono ?_); rintro e w' ⟨rfl, rfl⟩)
          | (go_at_call 81; refine (H3.out _).mono ?_; rintro e w' ⟨rfl, rfl⟩))
        refine bodyPost_ret (results_none rfl _ _ _) rfl ?_
        rw [hfin.out]
        exact ⟨rfl, HSC.out, ⟨hB.os, hB.tape, hB.output, hB.size, hB.block⟩, HSZ.out⟩
      · have qn : ((n2 : Int) == 0) = false := int_f (by omega)
        have hpos : 0 < n2 := by omega
        have hnext : Hid (k + n2 + passN (bytesFrom s (k + n2)) = R) := by
          have e1 : stepN l = n2 := by rw [hst.out]; rfl
          have e2 := passN_step (l := l) (by rw [e1]; exact h0)
          rw [e1] at e2
          rw [Hid, ← hpa.out, e2, ← from_drop, ← hl.out]
          omega
        clear h0
        go_wp2_with (first
          | (go_at_call 79; (with_reducible refine (H1.out _).mono ?_); rintro e w' ⟨rfl, rfl⟩)
          | (go_at_call 79; (with_reducible refine (H2.out _).mono ?_); rintro e w' ⟨rfl, rfl⟩)
          | (go_at_call 81; refine (H3.out _).mono ?_; rintro e w' ⟨rfl, rfl⟩))
        have hnew : Sc ((wr.drewN nq).setCell ⟨b, 1, none⟩ (.int .i64 ((k : Int) + (n2 : Int)))) b s ((k + n2 : Nat) : Int) fa fr := by
          rw [Int.natCast_add]
          exact (show Sc (wr.drewN nq) b s k fa fr from HSC.out).setAt _
        go_roundw
        case rel => exact ⟨k + n2, by omega, hnew, hnext, (show Keep (fun k _ => k ≠ b) w (wr.drewN nq) from ⟨hB.os, hB.tape, hB.output, hB.size, hB.block⟩).setCell (p := ⟨b, 1, none⟩) _ HSC.out (fun h => h rfl), by simp [World.setCell]; exact HSZ.out⟩
        case measure =>
          rw [hnew.atOf, HSC.out.atOf]
          omega
end Go.Proofs.YtgaibdipecngkaaDoor

namespace Go.Proofs.YtgaibdipecngkaaDoor
open Go.RowKit Go.Shelf
set_option linter.unusedVariables false
attribute [local go_sem] Oper.semAt_some

/-- A block of cells of a type. -/
def IsTy (t : TypeId) (o : Obj) : Prop := ∃ cs f, o = .cells cs t f
/-- What the iterator keeps; what a round keeps for it. -/
def selO (n : Nat) (k : Nat) (o : Obj) : Prop := k < n ∨ ¬ IsTy 78 o
def selY (n : Nat) (k : Nat) (o : Obj) : Prop := k < n ∨ IsTy 78 o ∨ IsTy 103 o
/-- The next place at which a token may begin. -/
def nx (s : ByteArray) (q : Nat) : Nat := q + (nextR s q).text.size + passN (bytesFrom s (q + (nextR s q).text.size))
/-- The tokens from a place on up to the first fault, and that. -/
def goH (s : ByteArray) : Nat → Nat → List Res × Int × Int
  | 0, _ => ([], 0, 0)
  | f + 1, q => if q < s.size then (if (nextR s q).fr = 0 then (nextR s q :: (goH s f (nx s q)).1, (goH s f (nx s q)).2) else ([], (nextR s q).fa, (nextR s q).fr)) else ([], 0, 0)
def frontR (s : ByteArray) : List Res × Int × Int := goH s (s.size + 1) (passN (bytesFrom s 0))
theorem span_pos {p : Int → Bool} {c : UInt8} {r : List UInt8} (h : p (c.toNat : Int) = true) : 0 < spanN p (c :: r) := by
  simp only [spanN]; rw [if_pos h]; omega
theorem extract_size (s : ByteArray) (p n : Nat) (h : n ≤ s.size - p) (hp : p ≤ s.size) : ((s.extract p s.size).extract 0 n).size = n := by
  simp; omega
theorem bt_byte (s : ByteArray) (q : Nat) (hq : q < s.size) : ((s[q]'hq).toNat : Int) = PlainAid.bt s q := PlainAid.get_bt s q hq
/-- A token takes a byte at least, and lies within its text. -/
theorem nextR_good (s : ByteArray) (q : Nat) (hq : q < s.size) (h : (nextR s q).fr = 0) : 0 < (nextR s q).text.size ∧ q + (nextR s q).text.size ≤ s.size ∧ (nextR s q).place = q := by
  have hl := from_len s q
  have hc := bt_byte s q hq
  have hf := from_at s q hq
  unfold nextR at h ⊢
  by_cases h0 : letterB (PlainAid.bt s q) = true
  · rw [if_pos h0] at h ⊢
    have hle := spanN_le namedB (bytesFrom s q)
    have hz : (nameX s q).size = spanN namedB (bytesFrom s q) := extract_size s q _ (by omega) (by omega)
    have hpos : 0 < spanN namedB (bytesFrom s q) := by
      rw [hf]; exact span_pos (by rw [hc]; unfold namedB; rw [h0]; rfl)
    unfold nameR at h ⊢
    split
    · refine ⟨show 0 < (nameX s q).size by omega, show q + (nameX s q).size ≤ s.size by omega, rfl⟩
    · rename_i hw
      rw [if_neg hw] at h
      split
      · rename_i h32
        rw [if_pos h32] at h
        simp at h
      · refine ⟨show 0 < (nameX s q).size by omega, show q + (nameX s q).size ≤ s.size by omega, rfl⟩
  · rw [if_neg h0] at h ⊢
    by_cases h1 : digitB (PlainAid.bt s q) = true
    · rw [if_pos h1] at h ⊢
      have hle := spanN_le digitB (bytesFrom s q)
      have hz : (numX s q).size = spanN digitB (bytesFrom s q) := extract_size s q _ (by omega) (by omega)
      have hpos : 0 < spanN digitB (bytesFrom s q) := by
        rw [hf]; exact span_pos (by rw [hc]; exact h1)
      unfold numR at h ⊢
      cases hv : valueO (numX s q).data.toList with
      | none => rw [hv] at h; simp [numC] at h
      | some v =>
        rw [hv] at h
        simp only [numC] at h ⊢
        by_cases hb : behindB s q = true
        · rw [if_pos hb] at h; simp at h
        · rw [if_neg hb]; refine ⟨show 0 < (numX s q).size by omega, show q + (numX s q).size ≤ s.size by omega, rfl⟩
    · rw [if_neg h1] at h ⊢
      by_cases h2 : signB (PlainAid.bt s q) = true
      · rw [if_pos h2] at h ⊢
        have hle := ahead_le (bytesFrom s q)
        have hz : (signX s q).size = aheadN (bytesFrom s q) := extract_size s q _ (by omega) (by omega)
        have hpos : 0 < aheadN (bytesFrom s q) := by
          unfold aheadN
          split
          · omega
          · rw [hf]; simp only [firstN]; rw [if_pos (by rw [hc]; exact h2)]; omega
        unfold signR
        refine ⟨show 0 < (signX s q).size by omega, show q + (signX s q).size ≤ s.size by omega, rfl⟩
      · rw [if_neg h2] at h
        simp at h
theorem goH_end {s : ByteArray} {f q : Nat} (h : ¬ q < s.size) : goH s f q = ([], 0, 0) := by
  cases f with
  | zero => rfl
  | succ f => simp only [goH]; rw [if_neg h]
theorem goH_fault {s : ByteArray} {f q : Nat} (h : q < s.size) (hf : ¬ (nextR s q).fr = 0) : goH s (f + 1) q = ([], (nextR s q).fa, (nextR s q).fr) := by
  simp only [goH]; rw [if_pos h, if_neg hf]
theorem goH_tok {s : ByteArray} {f q : Nat} (h : q < s.size) (hf : (nextR s q).fr = 0) : goH s (f + 1) q = (nextR s q :: (goH s f (nx s q)).1, (goH s f (nx s q)).2) := by
  simp only [goH]; rw [if_pos h, if_pos hf]
def okR (s : ByteArray) (pre : List Res) (x : Res) : Prop := (pre ++ [x]) <+: (frontR s).1
def encR (x : Res) : Array Value := #[tokV x.kind x.text x.wd x.place]
theorem Sc.keep {W W' : World} {b : Nat} {s : ByteArray} {p fa fr : Int} {sel : Nat → Obj → Prop} (h : Sc W b s p fa fr) (hk : Keep sel W W') (hs : sel b (.cells #[.string s, .int .i64 p, .int .i64 fa, .int .i64 fr] 78 (0, 0))) : Sc W' b s p fa fr := hk.block _ _ h hs
def Fm (W : World) (g b : Nat) : Prop := W.heap[g]? = some (.cells (famCells b) 103 (0, 0))
theorem not_ty {t u : TypeId} {cs : Array Value} {f : Nat × Nat} (h : t ≠ u) : ¬ IsTy u (.cells cs t f) := fun ⟨_, _, e⟩ => by
  cases e; exact h rfl
theorem keepO_below {n : Nat} {W W' : World} (h : Below W.heap.size W W') : Keep (selO n) W W' := Keep.of_below h
end Go.Proofs.YtgaibdipecngkaaDoor

namespace Go.Proofs.YtgaibdipecngkaaDoor
open Go.RowKit Go.Shelf
set_option linter.unusedVariables false
attribute [local go_sem] Oper.semAt_some
theorem keepO_ne {A B : World} {n b : Nat} {s : ByteArray} {p fa fr : Int} (h : Keep (fun k _ => k ≠ b) A B) (hs : Sc A b s p fa fr) (hn : n ≤ b) : Keep (selO n) A B :=
  ⟨h.os, h.tape, h.output, h.size, fun k o hk ho => h.block k o hk (fun e => by
    subst e
    rw [show A.heap[k]? = _ from hs] at hk
    cases hk
    rcases ho with ho | ho
    · omega
    · exact ho ⟨_, _, rfl⟩)⟩
theorem keep_drew (sel : Nat → Obj → Prop) (W : World) (n : Nat) : Keep sel W (W.drewN n) := ⟨rfl, rfl, rfl, Nat.le_refl _, fun _ _ h _ => h⟩
theorem not_selO {n b : Nat} {cs : Array Value} {f : Nat × Nat} (hn : n ≤ b) : ¬ selO n b (.cells cs 78 f) := fun h => by
  rcases h with h | h
  · omega
  · exact h ⟨_, _, rfl⟩
theorem Sc.setFault {W : World} {b : Nat} {s : ByteArray} {p fa fr : Int} (h : Sc W b s p fa fr) (fa' fr' : Int) : Sc ((W.setCell ⟨b, 2, none⟩ (.int .i64 fa')).setCell ⟨b, 3, none⟩ (.int .i64 fr')) b s p fa' fr' :=
  heap_setCell_same _ b 3 _ _ (.int .i64 fr') (heap_setCell_same W b 2 _ _ (.int .i64 fa') h)
theorem Fm.cells {w : World} {g b : Nat} (h : Fm w g b) :
    w.cell? ⟨g, 0, none⟩ = some (.func (.func 73) #[] #[]) ∧ w.cell? ⟨g, 1, none⟩ = some (.func (.func 74) #[.pointer (some ⟨b, 0, none⟩)] #[]) ∧ w.cell? ⟨g, 2, none⟩ = some (.func (.func 75) #[] #[]) ∧ w.cell? ⟨g, 3, none⟩ = some (.func (.func 76) #[.pointer (some ⟨b, 0, none⟩)] #[]) ∧ w.cell? ⟨g, 4, none⟩ = some (.func (.func 77) #[] #[]) ∧ w.cell? ⟨g, 5, none⟩ = some (.func (.func 78) #[.pointer (some ⟨b, 0, none⟩)] #[]) :=
  ⟨cell_of_row w g 0 _ _ _ h, cell_of_row w g 1 _ _ _ h, cell_of_row w g 2 _ _ _ h, cell_of_row w g 3 _ _ _ h, cell_of_row w g 4 _ _ _ h, cell_of_row w g 5 _ _ _ h⟩
theorem Sc.alloc {W : World} {b : Nat} {s : ByteArray} {p fa fr : Int} (h : Sc W b s p fa fr) (o : Obj) : Sc (W.alloc o) b s p fa fr := (Below.heap_alloc W o b h.lt).trans h
set_option maxRecDepth 100000 in
set_option maxHeartbeats 4000000 in
theorem tokens_in (n l b : Nat) (s : ByteArray) (hs : s.size ≤ 65536) (w0 : World) (T : LTabs w0) (J Jx : List Res → World → Prop)
    (hJ : ∀ p A B, J p A → Keep (selO w0.heap.size) A B → J p B) (hJx : ∀ p A B, Jx p A → Keep (selO w0.heap.size) A B → Jx p B)
    (hY : ∀ pre x W1, J pre W1 → okR s pre x → YieldAt Fence.wide (n - 1) Tryd.prog l (encR x) W1 fun e W' =>
      (e = .returned (.bool true) ∧ J (pre ++ [x]) W' ∧ Keep (selY w0.heap.size) W1 W') ∨ (e = .returned (.bool false) ∧ Jx (pre ++ [x]) W' ∧ Keep (selY w0.heap.size) W1 W'))
    (W : World) (hW : Below w0.heap.size w0 W) (hbn : w0.heap.size ≤ b) (hsc : Sc W b s 0 0 0) (h0 : J [] W) :
    CallsIn Fence.wide n Tryd.prog 29 #[.pointer (some ⟨b, 0, none⟩), .func (.yield l) #[] #[]] W fun e W' => (∃ v, e = .returned v) ∧
      ((∃ xs, (xs = (frontR s).1 ∧ ∃ p : Nat, Sc W' b s p (frontR s).2.1 (frontR s).2.2) ∧ J xs W') ∨ (∃ pre, True ∧ Jx pre W')) := by
  have HS := Lib.hid hsc
  have HJ := Lib.hid hJ
  have HJX := Lib.hid hJx
  have HY := Lib.hid hY
  have HW := Lib.hid hW
  have HT := Lib.hid T
  have H0 := Lib.hid h0
  clear hsc hJ hJx hY hW T h0
  refine callsIn_of_wp Tryd.func29 rfl trivial ?_ rfl
  simp only [Tryd.ntmps29, List.size_toArray, List.length_cons, List.length_nil, Nat.reduceAdd, Nat.reduceSub, Array.replicate_succ, Array.replicate_zero, List.push_toArray, List.append_toArray, List.nil_append, List.cons_append]
  gi_wp2_with ((refine ⟨trivial, (by intro h; cases h), ?_⟩); first
    | (gi_at_call 52; refine (callsIn_wide.2 (families_any b _)).mono ?_; rintro e w1 ⟨rfl, hb1⟩; unfold famCells)
    | (gi_at_call 53; refine (callsIn_wide.2 (pass_any b s 0 0 0 _ (by omega) (Nat.zero_le _) ((HS.out.below hb1 HS.out.lt).alloc _))).mono ?_; rintro e w2 ⟨rfl, hs2, hk2, hz2⟩; rw [Nat.zero_add] at hs2; have HS2 := Lib.hid hs2; have HK2 := Lib.hid hk2; have HB1 := Lib.hid hb1; clear hs2 hk2 hz2 hb1))
  gi_loopw [5, 6] (fun _ _ wr => ∃ (pre : List Res) (k f : Nat), k ≤ s.size ∧ s.size < f + k ∧ Sc wr b s k 0 0 ∧ Fm wr w1.heap.size b ∧ Hid (Below w0.heap.size w0 wr) ∧ Hid ((frontR s).1 = pre ++ (goH s f k).1 ∧ (frontR s).2 = (goH s f k).2) ∧ Hid (J pre wr)) (fun _ _ wr => s.size - atOf b wr)
  case atStart =>
    have hbW := HS.out.lt
    have hz1 := HB1.out.size
    refine ⟨[], passN (bytesFrom s 0), s.size + 1, ?_, by omega, HS2.out, HK2.out.block _ _ (World.alloc_heap_new w1 _) (by omega), ?_, ⟨rfl, rfl⟩, ?_⟩
    · have := passN_le _ (bytesFrom s 0) (Nat.le_refl _)
      rw [from_len] at this
      omega
    · exact (HW.out.trans ((HB1.out.mono (by have := HW.out.size; omega)).alloc (by have := HW.out.size; omega) _)).trans (HK2.out.below (by have := HW.out.size; simp; omega) (fun k _ hk => by omega))
    · exact HJ.out _ _ _ H0.out (((keepO_below HB1.out).alloc _).trans (keepO_ne HK2.out ((HS.out.below HB1.out hbW).alloc _) hbn))
  case round =>
    obtain ⟨pre, k, f, hk, hf, hsc, hfm, hB, hfr, hj⟩ := hrel
    have HSC := Lib.hid hsc
    have HFM := Lib.hid hfm
    clear hsc hfm HS2 HK2
    obtain ⟨⟨c0, c1, c2, c3⟩, f1, f2, f3⟩ := HSC.out.cells
    have hbr := HSC.out.lt
    by_cases hlt : k < s.size
    · obtain ⟨m0, m1, m2, m3, m4, m5⟩ := HFM.out.cells
      obtain ⟨R, hR⟩ : ∃ R, Hid (R = nextR s k) := ⟨_, rfl⟩
      have HN : Hid (∀ m : Nat, Calls Tryd.prog 54 #[.pointer (some ⟨b, 0, none⟩), .agg (famCells b)] (wr.drewN m) fun e w' => e = .returned R.val ∧ Below (wr.drewN m).heap.size (wr.drewN m) w') := fun m => by
        rw [hR.out]
        exact next_any b s k 0 0 _ (HT.out.below (Nat.le_refl _) ⟨hB.out.os, hB.out.tape, hB.out.output, hB.out.size, hB.out.block⟩) (by omega) hlt (show Sc (wr.drewN m) b s k 0 0 from HSC.out)
      have hlt' : (k : Int) < (s.size : Int) := by omega
      obtain ⟨rk, rx, rw0, rp, ra, rr⟩ := R
      have HN : Hid (∀ m : Nat, Calls Tryd.prog 54 #[.pointer (some ⟨b, 0, none⟩), .agg #[.func (.func 73) #[] #[], .func (.func 74) #[.pointer (some ⟨b, 0, none⟩)] #[], .func (.func 75) #[] #[], .func (.func 76) #[.pointer (some ⟨b, 0, none⟩)] #[], .func (.func 77) #[] #[], .func (.func 78) #[.pointer (some ⟨b, 0, none⟩)] #[]]] (wr.drewN m) fun e w' => e = .returned (.tuple #[.agg #[.int .u8 rk, .string rx, .int .i64 rw0, .int .i64 rp], .agg #[.int .i64 ra, .int .i64 rr]]) ∧ Below wr.heap.size wr w') := fun m =>
        (HN.out m).mono fun _ _ h => ⟨h.1, ⟨h.2.os, h.2.tape, h.2.output, h.2.size, h.2.block⟩⟩
      gi_wp2
      gi_quiet (fail)
      gi_wp2_with ((refine ⟨trivial, (by intro h; cases h), ?_⟩); gi_at_call 54; refine (callsIn_wide.2 (HN.out _)).mono ?_; rintro e w3 ⟨rfl, hb3⟩; have HB3 := Lib.hid hb3; have d0 := (hb3.cell (p := ⟨b, 0, none⟩) hbr).trans c0; have d1 := (hb3.cell (p := ⟨b, 1, none⟩) hbr).trans c1; have d2 := (hb3.cell (p := ⟨b, 2, none⟩) hbr).trans c2; have d3 := (hb3.cell (p := ⟨b, 3, none⟩) hbr).trans c3; have e1 := (hb3.frozen (p := ⟨b, 1, none⟩) hbr).trans f1; have e2 := (hb3.frozen (p := ⟨b, 2, none⟩) hbr).trans f2; have e3 := (hb3.frozen (p := ⟨b, 3, none⟩) hbr).trans f3; have hb3' : b < w3.heap.size := Nat.lt_of_lt_of_le hbr hb3.size; have hb4' : b < w3.heap.size + 1 := Nat.lt_succ_of_lt hb3'; clear hb3)
      · -- the fault
        rename_i hrr
        have hsc3 : Sc w3 b s k 0 0 := HSC.out.below HB3.out hbr
        have hne : ¬ (nextR s k).fr = 0 := by
          rw [← hR.out]
          intro h0
          have : (rr != 0) = true := hrr
          rw [show rr = 0 from h0] at this
          cases this
        obtain ⟨f, rfl⟩ : ∃ f', f = f' + 1 := ⟨f - 1, by omega⟩
        have hg := goH_fault (f := f) hlt hne
        have hlow : w0.heap.size ≤ b := hbn
        have hk3 := (Keep.setCell (p := ⟨b, 3, none⟩) (Keep.setCell (p := ⟨b, 2, none⟩) (keepO_below (n := w0.heap.size) HB3.out) (.int .i64 ra) hsc3 (not_selO hbn)) (.int .i64 rr) (heap_setCell_same w3 b 2 _ _ (.int .i64 ra) hsc3) (not_selO hbn))
        refine bodyPost_ret (results_none rfl _ _ _) rfl ⟨⟨_, rfl⟩, .inl ⟨pre, ⟨?_, k, ?_⟩, HJ.out _ _ _ hj.out ((hk3.alloc _).alloc _)⟩⟩
        · rw [hfr.out.1, hg, List.append_nil]
        · rw [hfr.out.2, hg, ← hR.out]
          exact ((hsc3.setFault ra rr).alloc _).alloc _
      · have hrr : Hid ((rr != 0) = false) := by assumption
        have hr0 : Hid ((nextR s k).fr = 0) := by
          have h1 := hrr.out
          rw [Hid, ← hR.out]
          show rr = 0
          simpa using h1
        obtain ⟨g1, g2, g3⟩ := nextR_good s k hlt hr0.out
        rw [← hR.out] at g1 g2 g3
        have q1 : 0 < rx.size := g1
        have q2 : k + rx.size ≤ s.size := g2
        obtain rfl : rp = (k : Int) := g3
        clear g1 g2
        obtain ⟨f, rfl⟩ : ∃ f', f = f' + 1 := ⟨f - 1, by omega⟩
        have hg := Lib.hid (goH_tok (f := f) hlt hr0.out)
        have hnx : Hid (nx s k = k + rx.size + passN (bytesFrom s (k + rx.size))) := by
          unfold nx
          rw [Hid, ← hR.out]
        have hnx2 : Hid (nx s k ≤ s.size) := by
          have := passN_le _ (bytesFrom s (k + rx.size)) (Nat.le_refl _)
          rw [from_len] at this
          rw [Hid, hnx.out]
          omega
        have hnx3 : Hid (k + rx.size ≤ nx s k) := by rw [Hid, hnx.out]; omega
        gi_region
        gi_wp2
        obtain ⟨W3, hW3⟩ : ∃ W3, W3 = (((w3.setCell { block := b, off := 1 } (Value.int IntKind.i64 (↑k + ↑rx.size))).alloc (Obj.cells #[Value.int IntKind.u8 rk, Value.string rx, Value.int IntKind.i64 rw0, Value.int IntKind.i64 ↑k] 69)).alloc (Obj.cells #[Value.int IntKind.i64 ra, Value.int IntKind.i64 rr] 29)).drew := ⟨_, rfl⟩
        rw [← hW3]
        have hsc3 : Sc w3 b s k 0 0 := HSC.out.below HB3.out hbr
        have hk3 : Keep (fun k _ => k ≠ b) w3 W3 := by
          rw [hW3]
          have h := (((Keep.refl (fun k _ => k ≠ b) w3).setCell (p := ⟨b, 1, none⟩) (.int .i64 (↑k + ↑rx.size)) hsc3 (fun h => h rfl)).alloc (Obj.cells #[Value.int IntKind.u8 rk, Value.string rx, Value.int IntKind.i64 rw0, Value.int IntKind.i64 ↑k] 69)).alloc (Obj.cells #[Value.int IntKind.i64 ra, Value.int IntKind.i64 rr] 29)
          exact ⟨h.os, h.tape, h.output, h.size, h.block⟩
        have hscW : Sc W3 b s ((k + rx.size : Nat) : Int) 0 0 := by
          rw [hW3, Int.natCast_add]
          exact (((hsc3.setAt ((k : Int) + (rx.size : Int))).alloc (Obj.cells #[Value.int IntKind.u8 rk, Value.string rx, Value.int IntKind.i64 rw0, Value.int IntKind.i64 ↑k] 69)).alloc (Obj.cells #[Value.int IntKind.i64 ra, Value.int IntKind.i64 rr] 29) :)
        have hz0 := hB.out.size
        have hz0' := HW.out.size
        have hz3 := HB3.out.size
        have hz4 := hk3.size
        have hgb : w1.heap.size ≠ b := fun e => by
          have h1 := HFM.out
          have h2 := HSC.out
          unfold Fm at h1
          rw [e, show wr.heap[b]? = _ from h2] at h1
          simp at h1
        have hgl : w1.heap.size < wr.heap.size := (Array.getElem?_eq_some_iff.1 HFM.out).1
        have hfmW : Fm W3 w1.heap.size b := hk3.block _ _ ((HB3.out.block _ hgl).trans HFM.out) hgb
        have hBW : Below w0.heap.size w0 W3 := (hB.out.trans (HB3.out.mono (by have := HW.out.size; omega))).trans (hk3.below (by omega) (fun k _ hk => by omega))
        have hJ3 : J pre W3 := HJ.out _ _ _ (HJ.out _ _ _ hj.out (keepO_below HB3.out)) (keepO_ne hk3 hsc3 hbn)
        have hok : okR s pre (nextR s k) := ⟨(goH s f (nx s k)).1, by rw [hfr.out.1, hg.out]; simp⟩
        obtain ⟨fn, tmps, assign, body, hy, hRd⟩ := HY.out pre _ W3 hJ3 hok
        rw [← hR.out] at hy
        rw [show (Instr.yield l #[Value.agg #[Value.int IntKind.u8 rk, Value.string rx, Value.int IntKind.i64 rw0, Value.int IntKind.i64 ↑k]]).run Tryd.prog W3 = _ from hy]
        have HSW := Lib.hid hscW
        have HFW := Lib.hid hfmW
        have HBW := Lib.hid hBW
        clear hy hscW hfmW hBW hk3 hW3 hsc3 hgb hJ3
        refine ⟨(by intro h; cases h), hRd.mono ?_⟩
        rintro e W4 (⟨rfl, hj4, hk4⟩ | ⟨rfl, hj4, hk4⟩)
        · have hsc4 : Sc W4 b s ((k + rx.size : Nat) : Int) 0 0 := HSW.out.keep hk4 (.inr (.inl ⟨_, _, rfl⟩))
          have HS4 := Lib.hid hsc4
          have HF4 : Hid (Fm W4 w1.heap.size b) := hk4.block _ _ HFW.out (.inr (.inr ⟨_, _, rfl⟩))
          have HB4 : Hid (Below w0.heap.size w0 W4) := HBW.out.trans (hk4.below (by omega) (fun k _ hk => .inl hk))
          have HJ4 := Lib.hid hj4
          have hw4 : w0.heap.size ≤ W4.heap.size := HB4.out.size
          clear hj4 hk4 hRd
          gi_wp2_with ((refine ⟨trivial, (by intro h; cases h), ?_⟩); gi_at_call 53; refine (callsIn_wide.2 (pass_any b s (k + rx.size) 0 0 W4 (by omega) q2 HS4.out)).mono ?_; rintro e w5 ⟨rfl, hs5, hk5, hz5⟩; have HS5 := Lib.hid hs5; have HK5 := Lib.hid hk5; clear hs5 hk5 hz5)
          go_roundw
          case rel =>
            refine ⟨pre ++ [nextR s k], nx s k, f, hnx2.out, by have := hnx3.out; omega, ?_, ?_, ?_, ⟨?_, ?_⟩, ?_⟩
            · rw [hnx.out]; exact HS5.out
            · exact HK5.out.block _ _ HF4.out (by
                intro e
                have h1 := HF4.out
                have h2 := HS4.out
                unfold Fm at h1
                rw [e, show W4.heap[b]? = _ from h2] at h1
                simp at h1)
            · exact HB4.out.trans (HK5.out.below (by omega) (fun k _ hk => by omega))
            · rw [hfr.out.1, hg.out]; simp
            · rw [hfr.out.2, hg.out]
            · exact HJ.out _ _ _ HJ4.out (keepO_ne HK5.out HS4.out hbn)
          case measure =>
            have h5 := HS5.out.atOf
            have h6 := HSC.out.atOf
            rw [h5, h6]
            omega
        · have HJ4 := Lib.hid hj4
          clear hj4 hk4 hRd
          gi_wp2
          refine bodyPost_ret (results_none rfl _ _ _) rfl ⟨⟨_, rfl⟩, .inr ⟨_, trivial, HJ4.out⟩⟩
    · have hd : Hid (Sc (wr.drewN 0) b s k 0 0) := HSC.out
      gi_wp2
      gi_quiet (fail)
      gi_wp2
      go_end0
      refine ⟨⟨_, rfl⟩, .inl ⟨pre, ⟨?_, k, ?_⟩, HJ.out _ _ _ hj.out (keep_drew _ _ _)⟩⟩
      · rw [hfr.out.1, goH_end hlt, List.append_nil]
      · rw [hfr.out.2, goH_end hlt]
        exact HSC.out
end Go.Proofs.YtgaibdipecngkaaDoor

namespace Go.Proofs.YtgaibdipecngkaaDoor
open Go.RowKit Go.Shelf
set_option linter.unusedVariables false
attribute [local go_sem] Oper.semAt_some

def tokCells (r : Res) : List Value := [.int .u8 r.kind, .string r.text, .int .i64 r.wd, .int .i64 r.place]
def rowR (xs : List Res) : List Value := xs.flatMap tokCells
theorem rowR_nil : rowR [] = [] := rfl
theorem rowR_snoc (xs : List Res) (x : Res) : rowR (xs ++ [x]) = rowR xs ++ tokCells x := by
  simp [rowR]
/-- What the caller of a loop over tokens keeps of its own; what its rounds keep. -/
def selC (n : Nat) (k : Nat) (o : Obj) : Prop := k < n ∨ (o.isCells = true ∧ ¬ IsTy 78 o)
def selB (n : Nat) (k : Nat) (o : Obj) : Prop := selY n k o ∨ o.isCells = false
theorem boxC {W W' : World} {B n : Nat} {t : TypeId} {v : Value} (h : Boxed W B t v) (hk : Keep (selC n) W W') (ht : t ≠ 78) : Boxed W' B t v :=
  hk.block _ _ h (.inr ⟨rfl, not_ty ht⟩)
theorem ownsRow_keep {W W' : World} {sel : Nat → Obj → Prop} {base : Nat} {e : TypeId} {size : Nat} {v : Value} {k : Nat} {xs : List Value} (h : W.ownsRow base e size v k xs) (hk : Keep sel W W') (hs : ∀ g cs, base ≤ g → sel g (.cells cs e (0, 0))) : W'.ownsRow base e size v k xs := by
  refine ⟨h.1, ?_⟩
  rcases h.2 with h2 | ⟨g, cap, cur, hv, hb, hg, rest⟩
  · exact .inl h2
  · exact .inr ⟨g, cap, cur, hv, hb, hk.block _ _ hg (hs _ _ hb), rest⟩
def TokBox (W : World) (B : Nat) (x : Res) : Prop := W.heap[B]? = some (.cells #[.int .u8 x.kind, .string x.text, .int .i64 x.wd, .int .i64 x.place] 69 (0, 0))
/-- The box of a list that has grown by tokens. -/
def Lst (n₀ B : Nat) (pre : List Res) (W : World) : Prop :=
  ∃ v, Boxed W B 44 v ∧ W.ownsRow n₀ 69 4 v pre.length (rowR pre) ∧ (v = .slice none 0 0 ↔ pre = [])
theorem Lst.keepC {n₀ B n : Nat} {pre : List Res} {W W' : World} (h : Lst n₀ B pre W) (hk : Keep (selC n) W W') : Lst n₀ B pre W' := by
  obtain ⟨v, h1, h2, h3⟩ := h
  exact ⟨v, boxC h1 hk (by decide), ownsRow_keep h2 hk (fun g cs _ => .inr ⟨rfl, not_ty (by decide)⟩), h3⟩
theorem infoTok : (Tryd.prog.info? 69).map (fun i => (i.zero, i.size, i.bytes)) = some (some (.agg #[.int .u8 0, .string ⟨#[]⟩, .int .i64 0, .int .i64 0]), 4, 40) := by kernel_rfl
theorem goH_len (s : ByteArray) : ∀ (f q : Nat), q ≤ s.size → (goH s f q).1.length ≤ s.size - q
  | 0, q, h => Nat.zero_le _
  | f + 1, q, h => by
    by_cases hq : q < s.size
    · by_cases hr : (nextR s q).fr = 0
      · rw [goH_tok hq hr]
        obtain ⟨g1, g2, _⟩ := nextR_good s q hq hr
        have g3 : nx s q ≤ s.size := by
          have := passN_le _ (bytesFrom s (q + (nextR s q).text.size)) (Nat.le_refl _)
          rw [from_len] at this
          unfold nx
          omega
        have g4 : q + (nextR s q).text.size ≤ nx s q := by unfold nx; omega
        have := goH_len s f (nx s q) g3
        simp only [List.length_cons]
        omega
      · rw [goH_fault hq hr]; exact Nat.zero_le _
    · rw [goH_end hq]; exact Nat.zero_le _
theorem front_len (s : ByteArray) : (frontR s).1.length ≤ s.size := by
  have := passN_le _ (bytesFrom s 0) (Nat.le_refl _)
  rw [from_len] at this
  have := goH_len s (s.size + 1) (passN (bytesFrom s 0)) (by omega)
  unfold frontR
  omega
theorem okR_len {s : ByteArray} {pre : List Res} {x : Res} (h : okR s pre x) (hs : s.size ≤ 65536) : pre.length + 1 ≤ 65536 := by
  obtain ⟨t, ht⟩ := h
  have := congrArg List.length ht
  have := front_len s
  simp at *
  omega
theorem cell_four {W : World} {g : Nat} {a b c d : Value} {t : TypeId} (h : W.heap[g]? = some (.cells #[a, b, c, d] t (0, 0))) (j : Nat) (u : Value) (hj : [a, b, c, d][j]? = some u) : W.cell? ((⟨g, 0, none⟩ : Addr).add j) = some u := by
  obtain ⟨⟨h0, h1, h2, h3⟩, _⟩ := row4 h
  match j, hj with
  | 0, hj => cases hj; exact h0
  | 1, hj => cases hj; exact h1
  | 2, hj => cases hj; exact h2
  | 3, hj => cases hj; exact h3
theorem appended_keep {sel : Nat → Obj → Prop} {W w1 : World} {n₀ B : Nat} {v v' : Value} {k : Nat} {xs : List Value} {tmp : Obj}
    (hrow : W.ownsRow n₀ 69 4 v k xs) (hgrow : (W.alloc tmp).grownBy w1 v.ownBlock) (hv1 : Boxed w1 B 44 v) (hs : ∀ g cs, n₀ ≤ g → ¬ sel g (.cells cs 69 (0, 0))) (hs2 : ∀ cs, ¬ sel B (.cells cs 44 (0, 0))) :
    Keep sel W (w1.setCell ⟨B, 0, none⟩ v') := by
  refine (((Keep.refl sel W).alloc tmp).grown hgrow fun r o er ho => ?_).setCell (p := ⟨B, 0, none⟩) v' hv1 (hs2 _)
  rcases (hrow.alloc tmp).2 with ⟨rfl, _⟩ | ⟨g, cap, cur, rfl, hb, hgb, _⟩
  · simp [Value.ownBlock] at er
  · obtain rfl : g = r := by simpa [Value.ownBlock] using er
    rw [hgb] at ho; cases ho
    exact hs _ _ hb
theorem notB {n g : Nat} {cs : Array Value} {t : TypeId} (hn : n ≤ g) (h1 : t ≠ 78) (h2 : t ≠ 103) : ¬ selB n g (.cells cs t (0, 0)) := fun h => by
  rcases h with (h | h | h) | h
  · omega
  · exact not_ty h1 h
  · exact not_ty h2 h
  · cases h
end Go.Proofs.YtgaibdipecngkaaDoor

namespace Go.Proofs.YtgaibdipecngkaaDoor
open Go.RowKit Go.Shelf
set_option linter.unusedVariables false
attribute [local go_sem] Oper.semAt_some

/-- What Scan says. -/
def scanPost (s : ByteArray) (n₀ : Nat) (W : World) (v : Value) : Prop :=
  if 65536 < s.size then v = .tuple #[.slice none 0 0, .int .i64 4, faultV 0 0]
  else if (frontR s).2.2 = 0 then ∃ u, v = .tuple #[u, .int .i64 0, faultV 0 0] ∧ W.ownsRow n₀ 69 4 u (frontR s).1.length (rowR (frontR s).1) ∧ (u = .slice none 0 0 ↔ (frontR s).1 = [])
  else v = .tuple #[.slice none 0 0, .int .i64 20, faultV (frontR s).2.1 (frontR s).2.2]
def FltBox (W : World) (B : Nat) : Prop := W.heap[B]? = some (.cells #[.int .i64 0, .int .i64 0] 29 (0, 0))
theorem scan_end {W : World} {D n₀ : Nat} (hfb : FltBox W n₀) (hK : W.heap[D]? = some (.deferred (some []))) (hD : n₀ < D) (a r : Int) :
    ((W.setCell ⟨n₀, 0, none⟩ (.int .i64 a)).setCell ⟨n₀, 1, none⟩ (.int .i64 r)).heap[D]? = some (.deferred (some [])) ∧
    (((W.setCell ⟨n₀, 0, none⟩ (.int .i64 a)).setCell ⟨n₀, 1, none⟩ (.int .i64 r)).putObj D (.deferred none)).heap[n₀]? = some (.cells #[.int .i64 a, .int .i64 r] 29 (0, 0)) ∧
    Keep (fun k o => k < n₀ ∨ IsTy 69 o) W (((W.setCell ⟨n₀, 0, none⟩ (.int .i64 a)).setCell ⟨n₀, 1, none⟩ (.int .i64 r)).putObj D (.deferred none)) := by
  have h1 := heap_setCell_same W n₀ 0 _ _ (.int .i64 a) hfb
  have h2 := heap_setCell_same _ n₀ 1 _ _ (.int .i64 r) h1
  have hd : ((W.setCell ⟨n₀, 0, none⟩ (.int .i64 a)).setCell ⟨n₀, 1, none⟩ (.int .i64 r)).heap[D]? = some (.deferred (some [])) :=
    (Below.heap_setCell _ _ _ _ (show D ≠ n₀ by omega)).trans ((Below.heap_setCell _ _ _ _ (show D ≠ n₀ by omega)).trans hK)
  refine ⟨hd, (World.putObj_heap_other (by omega)).trans h2, ?_⟩
  refine (((Keep.refl _ W).setCell (p := ⟨n₀, 0, none⟩) _ hfb ?_).setCell (p := ⟨n₀, 1, none⟩) _ h1 ?_).putObj _ hd ?_
  · rintro (h | h)
    · exact Nat.lt_irrefl _ h
    · exact not_ty (by decide) h
  · rintro (h | h)
    · exact Nat.lt_irrefl _ h
    · exact not_ty (by decide) h
  · rintro (h | ⟨_, _, h⟩)
    · omega
    · cases h
set_option maxRecDepth 100000 in
set_option maxHeartbeats 4000000 in
theorem scan_any (s : ByteArray) (w : World) (T : LTabs w) :
    Calls Tryd.prog 17 #[.string s] w fun e w' => (∃ v, e = .returned v ∧ scanPost s w.heap.size w' v) ∧ Below w.heap.size w w' := by
  by_cases hl : 65536 < s.size
  · go_enter Tryd.func17, Tryd.ntmps17
    have hl' : (65536 : Int) < (s.size : Int) := by omega
    go_wp2
    refine bodyPost_ret (v := .tuple #[.slice none 0 0, .int .i64 4, .agg #[.int .i64 0, .int .i64 0]]) (by simp [results, Tryd.results17, go_sem]) rfl ⟨⟨_, rfl, ?_⟩, (Below.refl _ w).alloc (Nat.le_refl _) _⟩
    unfold scanPost
    rw [if_pos hl]
    rfl
  · refine (callsIn_wide (n := 3)).1 ?_
    have hl' : ¬ (65536 : Int) < (s.size : Int) := by omega
    have HT := Lib.hid T
    clear T
    obtain ⟨i0, hi, hz0, hz1, hz2⟩ := info_parts infoTok
    refine callsIn_of_wp_marks Tryd.func17 rfl trivial ?_ rfl
    simp only [Tryd.ntmps17, List.size_toArray, List.length_cons, List.length_nil, Nat.reduceAdd, Nat.reduceSub, Array.replicate_succ, Array.replicate_zero, List.push_toArray, List.append_toArray, List.nil_append, List.cons_append]
    gi_wp2
    obtain ⟨W0, hW0⟩ : ∃ W0, W0 = (((w.alloc (Obj.cells #[Value.int IntKind.i64 0, Value.int IntKind.i64 0] 29)).alloc (Obj.cells #[Value.string s, Value.int IntKind.i64 0, Value.int IntKind.i64 0, Value.int IntKind.i64 0] 78)).alloc (Obj.cells #[Value.slice none 0 0] 44)) := ⟨_, rfl⟩
    rw [← hW0]
    have hz : W0.heap.size = w.heap.size + 3 := by rw [hW0]; simp
    have hB0 : Below w.heap.size w W0 := by rw [hW0]; exact (((Below.refl _ w).alloc (Nat.le_refl _) _).alloc (by simp) _).alloc (by simp; omega) _
    have hflt : FltBox W0 w.heap.size := by
      rw [hW0]
      exact ((Below.heap_alloc _ _ _ (by simp; omega)).trans ((Below.heap_alloc _ _ _ (by simp)).trans (World.alloc_heap_new w _)))
    have hsc : Sc W0 (w.heap.size + 1) s 0 0 0 := by
      rw [hW0]
      have h := World.alloc_heap_new (w.alloc (Obj.cells #[Value.int IntKind.i64 0, Value.int IntKind.i64 0] 29)) (Obj.cells #[Value.string s, Value.int IntKind.i64 0, Value.int IntKind.i64 0, Value.int IntKind.i64 0] 78)
      rw [World.size_alloc] at h
      exact (Below.heap_alloc _ _ _ (by simp)).trans h
    have hbox : Boxed W0 (w.heap.size + 1 + 1) 44 (.slice none 0 0) := by
      rw [hW0]
      have h := World.alloc_heap_new ((w.alloc (Obj.cells #[Value.int IntKind.i64 0, Value.int IntKind.i64 0] 29)).alloc (Obj.cells #[Value.string s, Value.int IntKind.i64 0, Value.int IntKind.i64 0, Value.int IntKind.i64 0] 78)) (Obj.cells #[Value.slice none 0 0] 44)
      rw [World.size_alloc, World.size_alloc] at h
      exact h
    clear hW0
    have hI : ∀ (pre : List Res) (A B : World), (Lst w.heap.size (w.heap.size + 1 + 1) pre A ∧ FltBox A w.heap.size ∧ Below w.heap.size w A) → Keep (selC w.heap.size) A B → (Lst w.heap.size (w.heap.size + 1 + 1) pre B ∧ FltBox B w.heap.size ∧ Below w.heap.size w B) :=
      fun pre A B h hk => ⟨h.1.keepC hk, hk.block _ _ h.2.1 (.inr ⟨rfl, not_ty (by decide)⟩), h.2.2.trans (hk.below h.2.2.size (fun k _ hk => .inl hk))⟩
    refine wpIn_range_keep (n := 3) rfl (by omega) (gf := 29) (fst := #[.pointer (some ⟨w.heap.size + 1, 0, none⟩)]) (lb := #[]) rfl trivial (enters_of Tryd.func29 (by kernel_rfl) rfl)
      (encs := encR) (fun _ => rfl) (selO w.heap.size) (selY w.heap.size) (selC w.heap.size)
      (fun k o ho => .inr (fun ⟨_, _, e⟩ => by rw [e] at ho; cases ho))
      (fun k o hk ho => by
        rcases ho with ho | ⟨_, _, e⟩ | ⟨_, _, e⟩
        · omega
        · rw [e]; rfl
        · rw [e]; rfl)
      (fun k o hk ho => by
        rcases ho with ho | ho
        · omega
        · exact ho.1)
      (fun k o ho => by
        rcases ho with ho | ho
        · exact .inl ho
        · exact .inr ho.2)
      (S := fun xs W => xs = (frontR s).1 ∧ ∃ p : Nat, Sc W (w.heap.size + 1) s p (frontR s).2.1 (frontR s).2.2) (Sp := fun _ _ => True) (ok := okR s)
      (fun l J Jx W hbW hJ hJx hYl hJ0 => tokens_in 2 l (w.heap.size + 1) s (by omega) w HT.out J Jx hJ hJx hYl W (hB0.trans (hbW.mono (by omega))) (by omega) (hsc.below hbW (by omega)) hJ0)
      (fun pre W => Lst w.heap.size (w.heap.size + 1 + 1) pre W ∧ FltBox W w.heap.size ∧ Below w.heap.size w W)
      (fun _ _ _ => False)
      hI
      (fun _ _ _ _ h _ => h)
      ⟨⟨_, hbox, World.ownsRow_nil _ _ _ _, by simp⟩, hflt, hB0⟩
      (fun x a' W => ∃ Bx, TokBox W Bx x ∧ a' = { tmps := #[Value.string s, undef, Value.slice none 0 0, Value.int IntKind.i64 0, Value.pointer (some { block := w.heap.size, off := 0 }), Value.pointer (some { block := w.heap.size + 1, off := 0 }), Value.pointer (some { block := w.heap.size + 1 + 1, off := 0 }), Value.pointer (some { block := Bx, off := 0 }), Value.string s, Value.int IntKind.i64 ↑s.size, Value.bool false, undef, Value.string s, Value.agg #[Value.string s, Value.int IntKind.i64 0, Value.int IntKind.i64 0, Value.int IntKind.i64 0], Value.func (Fn.func 29) #[Value.pointer (some { block := w.heap.size + 1, off := 0 })] #[], tokV x.kind x.text x.wd x.place, undef, undef, undef, undef, undef, undef, undef, undef, undef, undef, undef, undef], defers := [] })
      (fun x a' A B h hk => by
        obtain ⟨Bx, h1, h2⟩ := h
        exact ⟨Bx, hk.block _ _ h1 (.inr ⟨rfl, not_ty (by decide)⟩), h2⟩)
      ?assign ?body ?done ?stop
    case assign =>
      rintro l pre x W K hi hK
      have HI := Lib.hid hi
      have HK := Lib.hid hK
      obtain ⟨rk, rx, rw0, rp, ra, rr⟩ := x
      clear hi hK
      simp only [encR, tokV]
      gi_wp2
      exact HK.out _ _ ((Keep.refl _ W).alloc _) (hI _ _ _ HI.out ((Keep.refl _ W).alloc _)) ⟨W.heap.size, World.alloc_heap_new W _, rfl⟩
    case body =>
      rintro l pre x a' W ⟨⟨v, hv, hrow, hnil⟩, hfb, hB⟩ ⟨Bx, hbx, rfl⟩ hok
      have hlen := okR_len hok (by omega)
      obtain ⟨rk, rx, rw0, rp, ra, rr⟩ := x
      obtain ⟨⟨t0, t1, t2, t3⟩, _⟩ := row4 hbx
      have hc := hv.cell
      have HB := Lib.hid hB
      have hBs : w.heap.size ≤ W.heap.size := hB.size
      have HF := Lib.hid hfb
      have HBX := Lib.hid hbx
      clear hB hfb hbx
      simp only [tokV]
      gi_wp2_with (gi_at_builtin; refine wpListIn_append_own _ rfl _ _ 44 rfl w.heap.size 69 i0 _ 4 40 Tryd.underlying44 hi hz0 hz1 hz2 rfl (by decide) _ _ _ rfl (hrow.alloc _) ⟨W.heap.size, 0, none⟩ 1 1 [.int .u8 rk, .string rx, .int .i64 rw0, .int .i64 rp] rfl rfl (fun j u hj => cell_four (World.alloc_heap_new W _) j u hj) (by simp [Value.oneCell']) (by simp only [maxLen]; omega) (by omega) (by simp; omega) ?_; intro v' w1 hown' hgrow _; obtain ⟨g', cap', rfl⟩ := ownsRow_succ hown'; obtain ⟨hv1, hv2, hr2, _, hb2⟩ := hv.appended (by decide) hrow hBs (by omega) hown' hgrow; have hc1 := hv1.cell; have hf1 := hv1.frozen)
      refine ⟨appended_keep (sel := selB w.heap.size) hrow hgrow hv1 (fun g cs hg => notB hg (by decide) (by decide)) (fun cs => notB (by omega) (by decide) (by decide)), ⟨_, hv2, ?_, ?_⟩, ?_, HB.out.trans hb2⟩
      · rw [rowR_snoc, List.length_append]; exact hr2
      · simp
      · exact (appended_keep (sel := fun k o => IsTy 29 o) hrow hgrow hv1 (fun _ _ _ => not_ty (by decide)) (fun _ => not_ty (by decide))).block _ _ HF.out ⟨_, _, rfl⟩
    case done =>
      rintro D xs W1 W hD ⟨rfl, p, hsc1⟩ ⟨⟨v, hv, hrow, hnil⟩, hfb, hB⟩ hk hK
      have hscW : Sc W (w.heap.size + 1) s p (frontR s).2.1 (frontR s).2.2 := hsc1.keep hk (.inr rfl)
      obtain ⟨⟨c0, c1, c2, c3⟩, f1, f2, f3⟩ := hscW.cells
      obtain ⟨⟨b0, b1⟩, b2, b3⟩ := row2 hfb
      have hc := hv.cell
      have hbs := hB.size
      obtain ⟨R, hR⟩ : ∃ R, Hid (R = frontR s) := ⟨_, rfl⟩
      rw [← hR.out] at c2 c3 hrow hnil
      obtain ⟨rxs, ra, rr⟩ := R
      have HFB := Lib.hid hfb
      have HK := Lib.hid hK
      have HBB := Lib.hid hB
      have HR := Lib.hid hrow
      have HN := Lib.hid hnil
      clear hfb hK hB hrow hnil hk hsc1 hscW hv
      by_cases hrr : rr = 0
      · subst hrr
        gi_wp2
        obtain ⟨k1, k2, k3⟩ := scan_end HFB.out HK.out (by omega) 0 0
        refine ⟨by simp, .inl ⟨_, _, rfl, run_takeDeferred k1, ?_⟩⟩
        obtain ⟨⟨z0, z1⟩, _⟩ := row2 k2
        refine ⟨.tuple #[v, .int .i64 0, .agg #[.int .i64 0, .int .i64 0]], by simp [results, Tryd.results17, go_sem, z0, z1], ⟨_, rfl, ?_⟩, HBB.out.trans (k3.below HBB.out.size (fun k _ hk => .inl hk))⟩
        unfold scanPost
        rw [if_neg hl, ← hR.out, if_pos rfl]
        exact ⟨v, rfl, ownsRow_keep HR.out k3 (fun g cs _ => .inr ⟨_, _, rfl⟩), HN.out⟩
      · have hne : (rr != 0) = true := by simpa using hrr
        gi_wp2
        gi_region
        gi_wp2
        obtain ⟨k1, k2, k3⟩ := scan_end HFB.out HK.out (by omega) ra rr
        obtain ⟨⟨z0, z1⟩, _⟩ := row2 k2
        have k4 : Keep (fun k o => k < w.heap.size ∨ IsTy 69 o) W ((((W.setCell ⟨w.heap.size, 0, none⟩ (.int .i64 ra)).setCell ⟨w.heap.size, 1, none⟩ (.int .i64 rr)).drew).putObj D (.deferred none)) := ⟨k3.os, k3.tape, k3.output, k3.size, k3.block⟩
        have y0 : ((((W.setCell ⟨w.heap.size, 0, none⟩ (.int .i64 ra)).setCell ⟨w.heap.size, 1, none⟩ (.int .i64 rr)).drew).putObj D (.deferred none)).cell? ⟨w.heap.size, 0, none⟩ = some (.int .i64 ra) := z0
        have y1 : ((((W.setCell ⟨w.heap.size, 0, none⟩ (.int .i64 ra)).setCell ⟨w.heap.size, 1, none⟩ (.int .i64 rr)).drew).putObj D (.deferred none)).cell? ⟨w.heap.size, 1, none⟩ = some (.int .i64 rr) := z1
        refine ⟨by simp, .inl ⟨_, _, rfl, run_takeDeferred (show ((W.setCell ⟨w.heap.size, 0, none⟩ (.int .i64 ra)).setCell ⟨w.heap.size, 1, none⟩ (.int .i64 rr)).drew.heap[D]? = _ from k1), ?_⟩⟩
        refine ⟨.tuple #[.slice none 0 0, .int .i64 20, .agg #[.int .i64 ra, .int .i64 rr]], by simp [results, Tryd.results17, go_sem, y0, y1], ⟨_, rfl, ?_⟩, HBB.out.trans (k4.below HBB.out.size (fun k _ hk => .inl hk))⟩
        unfold scanPost
        rw [if_neg hl, ← hR.out, if_neg hrr]
        rfl
    case stop =>
      rintro D c pre W1 W _ _ h _ _
      exact h.elim
end Go.Proofs.YtgaibdipecngkaaDoor

namespace Go.Proofs.YtgaibdipecngkaaDoor
open Go.RowKit
set_option linter.unusedVariables false
set_option linter.unusedSimpArgs false
def isSignB (s : ByteArray) : Bool := decide (0 < s.size) && decide (aheadN s.data.toList = s.size)
theorem nonempty_facts {s : ByteArray} (h0 : 0 < s.size) : s.toList.isEmpty = false ∧ ¬ s.toList = [] := by
  have hfr : s.data.toList = s[0] :: bytesFrom s 1 := from_at s 0 h0
  exact ⟨by rw [Lib.toList_data, hfr]; rfl, by rw [Lib.toList_data, hfr]; simp⟩
theorem empty_of {s : ByteArray} (h : ¬ 0 < s.size) : s = ⟨#[]⟩ := by
  cases s with
  | mk d =>
    have h1 : (ByteArray.mk d).size = 0 := by omega
    have h2 : d.size = 0 := h1
    simp at h2; rw [h2]
/-- The reference's list of signs. -/
def signL (l : List UInt8) : Bool := (l == [40]) || (l == [41]) || (l == [123]) || (l == [125]) || (l == [44]) || (l == [59]) || (l == [61]) || (l == [43]) || (l == [45]) || (l == [42]) || (l == [47]) || (l == [37]) || (l == [38]) || (l == [124]) || (l == [94]) || (l == [33]) || (l == [60]) || (l == [62]) || (l == [61, 61]) || (l == [33, 61]) || (l == [60, 61]) || (l == [62, 61]) || (l == [60, 60]) || (l == [62, 62])
def wordL (l : List UInt8) : Bool := (l == [115, 104, 97, 114, 101, 100]) || (l == [108, 111, 99, 107]) || (l == [116, 104, 114, 101, 97, 100]) || (l == [108, 111, 99, 97, 108]) || (l == [105, 102]) || (l == [101, 108, 115, 101]) || (l == [119, 104, 105, 108, 101]) || (l == [112, 114, 105, 110, 116]) || (l == [115, 107, 105, 112]) || (l == [115, 119, 97, 112])
theorem wordB_list (s : ByteArray) : wordB s = wordL s.toList := by
  have h : ∀ (v : ByteArray) (l : List UInt8), v.toList = l → (v.toList == s.toList) = (s.toList == l) := fun v l e => by
    rw [e]; exact Bool.eq_iff_iff.2 ⟨fun h => by simpa using (by simpa using h : l = s.toList).symm, fun h => by simpa using (by simpa using h : s.toList = l).symm⟩
  unfold wordB wordL
  rw [h (wordAt 0) [115, 104, 97, 114, 101, 100] (by rw [Lib.toList_data]; rfl), h (wordAt 1) [108, 111, 99, 107] (by rw [Lib.toList_data]; rfl), h (wordAt 2) [116, 104, 114, 101, 97, 100] (by rw [Lib.toList_data]; rfl), h (wordAt 3) [108, 111, 99, 97, 108] (by rw [Lib.toList_data]; rfl), h (wordAt 4) [105, 102] (by rw [Lib.toList_data]; rfl), h (wordAt 5) [101, 108, 115, 101] (by rw [Lib.toList_data]; rfl), h (wordAt 6) [119, 104, 105, 108, 101] (by rw [Lib.toList_data]; rfl), h (wordAt 7) [112, 114, 105, 110, 116] (by rw [Lib.toList_data]; rfl), h (wordAt 8) [115, 107, 105, 112] (by rw [Lib.toList_data]; rfl), h (wordAt 9) [115, 119, 97, 112] (by rw [Lib.toList_data]; rfl)]

theorem sign1 (a : UInt8) : signB (a.toNat : Int) = signL [a] := by
  have h : ∀ n : Fin 256, signB ((UInt8.ofNat n.val).toNat : Int) = signL [UInt8.ofNat n.val] := by decide +kernel
  have := h ⟨a.toNat, a.toNat_lt⟩
  simpa using this
theorem pre2 (a b c d : UInt8) : Lib.hasPrefix [a, b] [c, d] = ([a, b] == [c, d]) := by
  rw [← Lib.hasPrefix_of_take]; simp
theorem long2 (a b : UInt8) : longB [a, b] = signL [a, b] := by
  unfold longB
  rw [show (longAt 0).data.toList = [61, 61] from rfl, show (longAt 1).data.toList = [33, 61] from rfl, show (longAt 2).data.toList = [60, 61] from rfl, show (longAt 3).data.toList = [62, 61] from rfl, show (longAt 4).data.toList = [60, 60] from rfl, show (longAt 5).data.toList = [62, 62] from rfl]
  simp only [pre2]
  unfold signL
  simp
theorem ahead_bd (l : List UInt8) : aheadN l ≤ 2 := by
  unfold aheadN
  split
  · exact Nat.le_refl _
  · unfold firstN
    split
    · omega
    · split <;> omega
theorem long1 (a : UInt8) : longB [a] = false := by
  cases h : longB [a] with
  | false => rfl
  | true =>
    unfold longB at h
    simp only [Bool.or_eq_true] at h
    rcases h with ((((h | h) | h) | h) | h) | h <;> exact absurd (show 2 ≤ 1 from prefix_len h) (by decide)
theorem signL_long (a b c : UInt8) (r : List UInt8) : signL (a :: b :: c :: r) = false := by
  unfold signL
  simp
theorem isSign_list (s : ByteArray) : isSignB s = signL s.toList := by
  unfold isSignB
  rw [Lib.toList_data]
  have hz : s.size = s.data.toList.length := by simp
  rw [hz]
  generalize s.data.toList = l
  match l with
  | [] => rfl
  | [a] =>
    rw [← sign1]
    unfold aheadN
    rw [long1, if_neg (by decide)]
    unfold firstN
    by_cases h : signB (a.toNat : Int) = true
    · simp [h]
    · simp [h]
  | [a, b] =>
    rw [← long2]
    unfold aheadN
    by_cases h : longB [a, b] = true
    · simp [h]
    · rw [if_neg h]
      have : firstN [a, b] ≤ 1 := by
        unfold firstN
        split
        · omega
        · split <;> omega
      simp [h]
      omega
  | a :: b :: c :: r =>
    rw [signL_long]
    have := ahead_bd (a :: b :: c :: r)
    simp
    omega

set_option maxRecDepth 100000 in
set_option maxHeartbeats 4000000 in
theorem rword_any (s : ByteArray) (w : World) : Calls Tryd.prog 86 #[.string s] w fun e w' => e = .returned (.bool (wordB s)) ∧ w = w' := by
  obtain ⟨R, hR⟩ : ∃ R, Hid (R = wordB s) := ⟨_, rfl⟩
  rw [← hR.out]
  obtain ⟨p0, e0⟩ : ∃ p, (s.toList == ([115, 104, 97, 114, 101, 100] : List UInt8)) = p := ⟨_, rfl⟩
  obtain ⟨p1, e1⟩ : ∃ p, (s.toList == ([108, 111, 99, 107] : List UInt8)) = p := ⟨_, rfl⟩
  obtain ⟨p2, e2⟩ : ∃ p, (s.toList == ([116, 104, 114, 101, 97, 100] : List UInt8)) = p := ⟨_, rfl⟩
  obtain ⟨p3, e3⟩ : ∃ p, (s.toList == ([108, 111, 99, 97, 108] : List UInt8)) = p := ⟨_, rfl⟩
  obtain ⟨p4, e4⟩ : ∃ p, (s.toList == ([105, 102] : List UInt8)) = p := ⟨_, rfl⟩
  obtain ⟨p5, e5⟩ : ∃ p, (s.toList == ([101, 108, 115, 101] : List UInt8)) = p := ⟨_, rfl⟩
  obtain ⟨p6, e6⟩ : ∃ p, (s.toList == ([119, 104, 105, 108, 101] : List UInt8)) = p := ⟨_, rfl⟩
  obtain ⟨p7, e7⟩ : ∃ p, (s.toList == ([112, 114, 105, 110, 116] : List UInt8)) = p := ⟨_, rfl⟩
  obtain ⟨p8, e8⟩ : ∃ p, (s.toList == ([115, 107, 105, 112] : List UInt8)) = p := ⟨_, rfl⟩
  obtain ⟨p9, e9⟩ : ∃ p, (s.toList == ([115, 119, 97, 112] : List UInt8)) = p := ⟨_, rfl⟩
  have hRR : Hid (R = (p0 || p1 || p2 || p3 || p4 || p5 || p6 || p7 || p8 || p9)) := by
    rw [Hid, hR.out, wordB_list s, ← e0, ← e1, ← e2, ← e3, ← e4, ← e5, ← e6, ← e7, ← e8, ← e9]; rfl
  clear hR
  go_enter Tryd.func86, Tryd.ntmps86
  go_wp2
  all_goals
    go_ret
    refine ⟨ret_bool ?_, rfl⟩
    rw [hRR.out]
    clear hRR
    simp_all
set_option maxRecDepth 100000 in
set_option maxHeartbeats 4000000 in
theorem rsign_any (s : ByteArray) (w : World) : Calls Tryd.prog 88 #[.string s] w fun e w' => e = .returned (.bool (isSignB s)) ∧ w = w' := by
  obtain ⟨R, hR⟩ : ∃ R, Hid (R = isSignB s) := ⟨_, rfl⟩
  rw [← hR.out]
  obtain ⟨p0, e0⟩ : ∃ p, (s.toList == ([40] : List UInt8)) = p := ⟨_, rfl⟩
  obtain ⟨p1, e1⟩ : ∃ p, (s.toList == ([41] : List UInt8)) = p := ⟨_, rfl⟩
  obtain ⟨p2, e2⟩ : ∃ p, (s.toList == ([123] : List UInt8)) = p := ⟨_, rfl⟩
  obtain ⟨p3, e3⟩ : ∃ p, (s.toList == ([125] : List UInt8)) = p := ⟨_, rfl⟩
  obtain ⟨p4, e4⟩ : ∃ p, (s.toList == ([44] : List UInt8)) = p := ⟨_, rfl⟩
  obtain ⟨p5, e5⟩ : ∃ p, (s.toList == ([59] : List UInt8)) = p := ⟨_, rfl⟩
  obtain ⟨p6, e6⟩ : ∃ p, (s.toList == ([61] : List UInt8)) = p := ⟨_, rfl⟩
  obtain ⟨p7, e7⟩ : ∃ p, (s.toList == ([43] : List UInt8)) = p := ⟨_, rfl⟩
  obtain ⟨p8, e8⟩ : ∃ p, (s.toList == ([45] : List UInt8)) = p := ⟨_, rfl⟩
  obtain ⟨p9, e9⟩ : ∃ p, (s.toList == ([42] : List UInt8)) = p := ⟨_, rfl⟩
  obtain ⟨p10, e10⟩ : ∃ p, (s.toList == ([47] : List UInt8)) = p := ⟨_, rfl⟩
  obtain ⟨p11, e11⟩ : ∃ p, (s.toList == ([37] : List UInt8)) = p := ⟨_, rfl⟩
  obtain ⟨p12, e12⟩ : ∃ p, (s.toList == ([38] : List UInt8)) = p := ⟨_, rfl⟩
  obtain ⟨p13, e13⟩ : ∃ p, (s.toList == ([124] : List UInt8)) = p := ⟨_, rfl⟩
  obtain ⟨p14, e14⟩ : ∃ p, (s.toList == ([94] : List UInt8)) = p := ⟨_, rfl⟩
  obtain ⟨p15, e15⟩ : ∃ p, (s.toList == ([33] : List UInt8)) = p := ⟨_, rfl⟩
  obtain ⟨p16, e16⟩ : ∃ p, (s.toList == ([60] : List UInt8)) = p := ⟨_, rfl⟩
  obtain ⟨p17, e17⟩ : ∃ p, (s.toList == ([62] : List UInt8)) = p := ⟨_, rfl⟩
  obtain ⟨p18, e18⟩ : ∃ p, (s.toList == ([61, 61] : List UInt8)) = p := ⟨_, rfl⟩
  obtain ⟨p19, e19⟩ : ∃ p, (s.toList == ([33, 61] : List UInt8)) = p := ⟨_, rfl⟩
  obtain ⟨p20, e20⟩ : ∃ p, (s.toList == ([60, 61] : List UInt8)) = p := ⟨_, rfl⟩
  obtain ⟨p21, e21⟩ : ∃ p, (s.toList == ([62, 61] : List UInt8)) = p := ⟨_, rfl⟩
  obtain ⟨p22, e22⟩ : ∃ p, (s.toList == ([60, 60] : List UInt8)) = p := ⟨_, rfl⟩
  obtain ⟨p23, e23⟩ : ∃ p, (s.toList == ([62, 62] : List UInt8)) = p := ⟨_, rfl⟩
  have hRR : Hid (R = (p0 || p1 || p2 || p3 || p4 || p5 || p6 || p7 || p8 || p9 || p10 || p11 || p12 || p13 || p14 || p15 || p16 || p17 || p18 || p19 || p20 || p21 || p22 || p23)) := by
    rw [Hid, hR.out, isSign_list s, ← e0, ← e1, ← e2, ← e3, ← e4, ← e5, ← e6, ← e7, ← e8, ← e9, ← e10, ← e11, ← e12, ← e13, ← e14, ← e15, ← e16, ← e17, ← e18, ← e19, ← e20, ← e21, ← e22, ← e23]; rfl
  clear hR
  go_enter Tryd.func88, Tryd.ntmps88
  go_wp2
  all_goals
    go_ret
    refine ⟨ret_bool ?_, rfl⟩
    rw [hRR.out]
    clear hRR
    simp_all
end Go.Proofs.YtgaibdipecngkaaDoor

namespace Go.Proofs.YtgaibdipecngkaaDoor
open Go.RowKit
set_option linter.unusedVariables false

theorem rletter_any (c : Int) (h0 : 0 ≤ c) (h1 : c ≤ 255) (w : World) : Calls Tryd.prog 84 #[.int .u8 c] w fun e w' => e = .returned (.bool (letterB c)) ∧ w = w' := by
  by_cases h : 97 ≤ c ∧ c ≤ 122
  · have e : letterB c = true := b_t (by omega)
    rw [e]
    clear e
    obtain ⟨k0, k1⟩ := h
    go_enter Tryd.func84, Tryd.ntmps84
    go_wp2
    go_ret
    exact ⟨rfl, rfl⟩
  by_cases h : 65 ≤ c ∧ c ≤ 90
  · have e : letterB c = true := b_t (by omega)
    rw [e]
    clear e
    obtain ⟨k0, k1⟩ := h
    go_enter Tryd.func84, Tryd.ntmps84
    go_wp2
    go_ret
    exact ⟨rfl, rfl⟩
  by_cases h : c = 95
  · have e : letterB c = true := b_t (by omega)
    rw [e]
    clear e
    subst h
    go_enter Tryd.func84, Tryd.ntmps84
    go_wp2
    go_ret
    exact ⟨rfl, rfl⟩
  by_cases h : c < 65
  · have e : letterB c = false := b_f (by omega)
    rw [e]
    clear e
    have q : (c == 95) = false := int_f (by omega)
    go_enter Tryd.func84, Tryd.ntmps84
    go_wp2
    go_ret
    exact ⟨rfl, rfl⟩
  by_cases h : 90 < c ∧ c < 95
  · have e : letterB c = false := b_f (by omega)
    rw [e]
    clear e
    have q : (c == 95) = false := int_f (by omega)
    have d90 : decide (c ≤ 90) = false := b_f (by omega)
    go_enter Tryd.func84, Tryd.ntmps84
    go_wp2
    go_ret
    exact ⟨rfl, rfl⟩
  by_cases h : c = 96
  · have e : letterB c = false := b_f (by omega)
    rw [e]
    clear e
    subst h
    go_enter Tryd.func84, Tryd.ntmps84
    go_wp2
    go_ret
    exact ⟨rfl, rfl⟩
  · have h' : 122 < c := by omega
    have e : letterB c = false := b_f (by omega)
    have q : (c == 95) = false := int_f (by omega)
    have d90 : decide (c ≤ 90) = false := b_f (by omega)
    have d122 : decide (c ≤ 122) = false := b_f (by omega)
    rw [e]
    clear e
    go_enter Tryd.func84, Tryd.ntmps84
    go_wp2
    go_ret
    exact ⟨rfl, rfl⟩

theorem rdigit_any (c : Int) (h0 : 0 ≤ c) (h1 : c ≤ 255) (w : World) : Calls Tryd.prog 85 #[.int .u8 c] w fun e w' => e = .returned (.bool (digitB c)) ∧ w = w' := by
  by_cases k0 : c < 48
  · have e : digitB c = false := b_f (by omega)
    rw [e]
    clear e
    go_enter Tryd.func85, Tryd.ntmps85
    go_wp2
    go_ret
    exact ⟨rfl, rfl⟩
  · by_cases k1 : 57 < c
    · have e : digitB c = false := b_f (by omega)
      have hd : decide (c ≤ 57) = false := b_f (by omega)
      rw [e]
      clear e
      go_enter Tryd.func85, Tryd.ntmps85
      go_wp2
      go_ret
      exact ⟨rfl, rfl⟩
    · have e : digitB c = true := b_t (by omega)
      rw [e]
      clear e
      go_enter Tryd.func85, Tryd.ntmps85
      go_wp2
      go_ret
      exact ⟨rfl, rfl⟩

theorem rblank_any (c : Int) (h0 : 0 ≤ c) (h1 : c ≤ 255) (w : World) : Calls Tryd.prog 83 #[.int .u8 c] w fun e w' => e = .returned (.bool (blankB c)) ∧ w = w' := by
  by_cases k32 : c = 32
  · subst k32
    have e : blankB 32 = true := b_t (by omega)
    rw [e]
    clear e
    go_enter Tryd.func83, Tryd.ntmps83
    go_wp2
    go_ret
    exact ⟨rfl, rfl⟩
  by_cases k9 : c = 9
  · subst k9
    have e : blankB 9 = true := b_t (by omega)
    rw [e]
    clear e
    go_enter Tryd.func83, Tryd.ntmps83
    go_wp2
    go_ret
    exact ⟨rfl, rfl⟩
  by_cases k10 : c = 10
  · subst k10
    have e : blankB 10 = true := b_t (by omega)
    rw [e]
    clear e
    go_enter Tryd.func83, Tryd.ntmps83
    go_wp2
    go_ret
    exact ⟨rfl, rfl⟩
  by_cases k13 : c = 13
  · subst k13
    have e : blankB 13 = true := b_t (by omega)
    rw [e]
    clear e
    go_enter Tryd.func83, Tryd.ntmps83
    go_wp2
    go_ret
    exact ⟨rfl, rfl⟩
  · have e : blankB c = false := b_f (by omega)
    have q1 := int_f k32
    have q2 := int_f k9
    have q3 := int_f k10
    have q4 := int_f k13
    rw [e]
    clear e k32 k9 k10 k13
    go_enter Tryd.func83, Tryd.ntmps83
    go_wp2
    go_ret
    exact ⟨rfl, rfl⟩

end Go.Proofs.YtgaibdipecngkaaDoor

namespace Go.Proofs.YtgaibdipecngkaaDoor
open Go.RowKit
set_option linter.unusedVariables false

theorem u8_int {a b : UInt8} : ((a.toNat : Int) = (b.toNat : Int)) ↔ a = b :=
  ⟨fun h => UInt8.toNat_inj.1 (by omega), fun h => by rw [h]⟩
theorem blank_not47 {x : UInt8} (h : blankB (x.toNat : Int) = true) : ¬ x = 47 := by
  intro e; subst e; revert h; decide
theorem prefix_no {x : UInt8} {r : List UInt8} (h : ¬ x = 47) : Lib.hasPrefix (x :: r) slashes = false := by
  cases hp : Lib.hasPrefix (x :: r) slashes with
  | false => rfl
  | true =>
    unfold Lib.hasPrefix slashes at hp
    simp only [List.isPrefixOf_cons_cons, Bool.and_eq_true, beq_iff_eq] at hp
    exact absurd hp.1.symm h
theorem prefix_one (x : UInt8) : Lib.hasPrefix [x] slashes = false := by
  unfold Lib.hasPrefix slashes
  simp [List.isPrefixOf]
theorem prefix_two (x y : UInt8) (r : List UInt8) : Lib.hasPrefix (x :: y :: r) slashes = (decide (x = 47) && decide (y = 47)) := by
  unfold Lib.hasPrefix slashes
  simp only [List.isPrefixOf_cons_cons, List.isPrefixOf_nil_left, Bool.and_true]
  congr 1
  · by_cases hx : x = 47
    · subst hx; rfl
    · rw [decide_eq_false hx]; simpa using fun h : 47 = x => hx h.symm
  · by_cases hx : y = 47
    · subst hx; rfl
    · rw [decide_eq_false hx]; simpa using fun h : 47 = y => hx h.symm
theorem pass_cons (x : UInt8) (r : List UInt8) (h : blankB (x.toNat : Int) = true) : passN (x :: r) = 1 + passN r := by
  have h1 : stepN (x :: r) = spanN blankB r + 1 := by
    unfold stepN
    rw [prefix_no (blank_not47 h), if_neg (by decide)]
    simp only [spanN]
    rw [if_pos h]
  have h2 : passN (x :: r) = spanN blankB r + 1 + passN (r.drop (spanN blankB r)) := by
    rw [passN_step (by rw [h1]; omega), h1]; rfl
  have h3 : passN r = spanN blankB r + passN (r.drop (spanN blankB r)) := by
    by_cases h0 : spanN blankB r = 0
    · rw [h0]; simp
    · have hs : stepN r = spanN blankB r := by
        unfold stepN
        cases hp : Lib.hasPrefix r slashes with
        | false => rw [if_neg (by decide)]
        | true =>
          exfalso
          apply h0
          cases r with
          | nil => rfl
          | cons y t =>
            by_cases hy : y = 47
            · subst hy; simp only [spanN]; rw [if_neg (by decide)]
            · rw [prefix_no hy] at hp; cases hp
      have h4 := passN_step (l := r) (by rw [hs]; exact h0)
      rw [hs] at h4
      exact h4
  omega
theorem pass_remark {l : List UInt8} (h : Lib.hasPrefix l slashes = true) : passN l = spanN feedB l + passN (l.drop (spanN feedB l)) := by
  have hs : stepN l = spanN feedB l := by unfold stepN; rw [if_pos h]
  by_cases h0 : spanN feedB l = 0
  · rw [h0]; simp
  · have h4 := passN_step (l := l) (by rw [hs]; exact h0)
    rw [hs] at h4
    exact h4
theorem pass_none {l : List UInt8} {x : UInt8} {r : List UInt8} (e : l = x :: r) (h : Lib.hasPrefix l slashes = false) (hb : blankB (x.toNat : Int) = false) : passN l = 0 := by
  apply passN_stop
  unfold stepN
  rw [h, if_neg (by decide), e]
  simp only [spanN]
  rw [if_neg (by rw [hb]; decide)]
set_option maxRecDepth 100000 in
set_option maxHeartbeats 4000000 in
theorem skip_any (s : ByteArray) (hs : s.size ≤ 281474976710656) (p : Nat) (hp : p ≤ s.size) (w : World) : Calls Tryd.prog 69 #[.string s, .int .i64 p] w fun e w' => e = .returned (.int .i64 ((p + passN (bytesFrom s p) : Nat) : Int)) ∧ w = w' := by
  obtain ⟨R, hR⟩ : ∃ R, Hid (R = p + passN (bytesFrom s p)) := ⟨_, rfl⟩
  rw [← hR.out]
  go_enter Tryd.func69, Tryd.ntmps69
  go_wp2_with fail
  go_loopw [1, 4] (fun i _ wr => w = wr ∧ ∃ k : Nat, k ≤ s.size ∧ i = .int .i64 k ∧ Hid (k + passN (bytesFrom s k) = R)) (fun i _ _ => s.size - (intOf i).toNat)
  case atStart => exact ⟨rfl, p, hp, rfl, hR.out.symm⟩
  case round =>
    obtain ⟨rfl, k, hk, rfl, hpa⟩ := hrel
    by_cases hlt : k < s.size
    · have hy0 := PlainAid.bt_nonneg s k
      have hy1 := PlainAid.bt_le s k
      obtain ⟨c, hc⟩ : ∃ c, Hid (c = PlainAid.bt s k) := ⟨_, rfl⟩
      have hbt : ∀ h : k < s.size, ((s[k]'h).toNat : Int) = c := fun h => by rw [hc.out]; exact PlainAid.get_bt s k h
      rw [← hc.out] at hy0 hy1
      have hfr := Lib.hid (from_at s k hlt)
      have hu := Lib.hid (hbt hlt)
      have hlt' : (k : Int) < (s.size : Int) := by omega
      by_cases hb : blankB c = true
      · have HB : Hid (∀ W : World, Calls Tryd.prog 83 #[.int .u8 c] W fun e w' => e = .returned (.bool true) ∧ W = w') := fun W => by
          have q := rblank_any c hy0 hy1 W
          rw [hb] at q; exact q
        have hn : Hid (k + 1 + passN (bytesFrom s (k + 1)) = R) := by
          rw [Hid, ← hpa.out, hfr.out, pass_cons _ _ (by rw [hu.out]; exact hb)]; omega
        clear hb
        go_wp2_with (go_at_call 83; refine (HB.out _).mono ?_; rintro e w' ⟨rfl, rfl⟩)
        go_roundw
        case rel => exact ⟨by trivial, k + 1, by omega, by go_num, hn⟩
        case measure => simp [intOf]; omega
      · have hbf : blankB c = false := by simpa using hb
        have HB : Hid (∀ W : World, Calls Tryd.prog 83 #[.int .u8 c] W fun e w' => e = .returned (.bool false) ∧ W = w') := fun W => by
          have q := rblank_any c hy0 hy1 W
          rw [hbf] at q; exact q
        have HBF := Lib.hid hbf
        clear hb hbf
        by_cases h47 : c = 47
        · have hq : (c == 47) = true := int_t h47
          have hq' : (c != 47) = false := by simp [h47]
          have hx : Hid (s[k] = 47) := by
            refine u8_int.1 ?_
            rw [hu.out, h47]; rfl
          have H47 := Lib.hid h47
          by_cases hl2 : k + 1 < s.size
          · have hfr2 := Lib.hid (from_at s (k + 1) hl2)
            obtain ⟨d, hd⟩ : ∃ d, Hid (d = PlainAid.bt s (k + 1)) := ⟨_, rfl⟩
            have hbt2 : ∀ h : k + 1 < s.size, ((s[k + 1]'h).toNat : Int) = d := fun h => by rw [hd.out]; exact PlainAid.get_bt s (k + 1) h
            have hu2 := Lib.hid (hbt2 hl2)
            have hl2' : (k : Int) + 1 < (s.size : Int) := by omega
            by_cases d47 : d = 47
            · -- a remark
              have hq2 : (d == 47) = true := int_t d47
              have hq2' : (d != 47) = false := by simp [d47]
              have hy : Hid (s[k + 1] = 47) := by
                refine u8_int.1 ?_
                rw [hu2.out, d47]; rfl
              have hpre : Hid (Lib.hasPrefix (bytesFrom s k) slashes = true) := by
                rw [Hid, hfr.out, hfr2.out, prefix_two, hx.out, hy.out]; decide
              obtain ⟨E, hE⟩ : ∃ E, Hid (E = k + spanN feedB (bytesFrom s k)) := ⟨_, rfl⟩
              have hER : Hid (E + passN (bytesFrom s E) = R) := by
                rw [Hid, ← hpa.out, pass_remark hpre.out, from_drop, ← hE.out, hE.out]; omega
              have hEk : Hid (k < E) := by
                have : 0 < spanN feedB (bytesFrom s k) := by rw [hfr.out]; exact span_pos (by rw [hu.out, H47.out]; decide)
                rw [Hid, hE.out]; omega
              have hEs : Hid (E ≤ s.size) := by
                have := spanN_le feedB (bytesFrom s k)
                rw [from_len] at this
                rw [Hid, hE.out]; omega
              clear h47 d47
              go_wp2_with (go_at_call 83; refine (HB.out _).mono ?_; rintro e w' ⟨rfl, rfl⟩)
              go_loopw [1] (fun i wr => w = wr ∧ ∃ j : Nat, k ≤ j ∧ j ≤ s.size ∧ i = .int .i64 j ∧ Hid (j + spanN feedB (bytesFrom s j) = E)) (fun i _ => s.size - (intOf i).toNat)
              case atStart => exact ⟨rfl, k, Nat.le_refl _, hk, rfl, hE.out.symm⟩
              case round =>
                clear hq hq' hq2 hq2' hbt hbt2 hu hu2 hlt' hl2' hfr hfr2 hx hy
                obtain ⟨rfl, j, hkj, hj, rfl, hje⟩ := hrel
                by_cases hlj : j < s.size
                · have hlj' : (j : Int) < (s.size : Int) := by omega
                  obtain ⟨f, hf⟩ : ∃ f, Hid (f = PlainAid.bt s j) := ⟨_, rfl⟩
                  have hbt : ∀ h : j < s.size, ((s[j]'h).toNat : Int) = f := fun h => by rw [hf.out]; exact PlainAid.get_bt s j h
                  have hu := Lib.hid (hbt hlj)
                  have hfr := Lib.hid (from_at s j hlj)
                  by_cases f10 : f = 10
                  · have hq : (f == 10) = true := int_t f10
                    have hq' : (f != 10) = false := by simp [f10]
                    have hn : Hid (j = E) := by
                      rw [Hid, ← hje.out, hfr.out]; simp only [spanN]; rw [hu.out, f10, if_neg (by decide)]; rfl
                    clear f10
                    go_wp2_with fail
                    go_roundw
                    case rel => exact ⟨by trivial, j, hj, rfl, by rw [Hid, hn.out]; exact hER.out⟩
                    case measure => have := hEk.out; have := hn.out; simp [intOf]; omega
                  · have hq : (f == 10) = false := int_f f10
                    have hq' : (f != 10) = true := by simp [f10]
                    have hn : Hid (j + 1 + spanN feedB (bytesFrom s (j + 1)) = E) := by
                      rw [Hid, ← hje.out, hfr.out]; simp only [spanN]; rw [hu.out, if_pos (by unfold feedB; simpa using f10)]; omega
                    clear f10
                    go_wp2_with fail
                    go_roundw
                    case rel => exact ⟨by trivial, j + 1, by omega, by omega, by go_num, hn⟩
                    case measure => simp [intOf]; omega
                · have hlj' : ¬ (j : Int) < (s.size : Int) := by omega
                  have hn : Hid (j = E) := by
                    rw [Hid, ← hje.out, from_end s j (by omega)]; rfl
                  go_wp2_with fail
                  go_roundw
                  case rel => exact ⟨by trivial, j, hj, rfl, by rw [Hid, hn.out]; exact hER.out⟩
                  case measure => have := hEk.out; have := hn.out; simp [intOf]; omega
            · have hq2 : (d == 47) = false := int_f d47
              have hq2' : (d != 47) = true := by simp [d47]
              have hpre : Hid (Lib.hasPrefix (bytesFrom s k) slashes = false) := by
                have hne : ¬ s[k + 1] = 47 := fun h => d47 (by rw [← hu2.out, h]; rfl)
                rw [Hid, hfr.out, hfr2.out, prefix_two, decide_eq_false hne, Bool.and_false]
              have hn : Hid (k = R) := by
                rw [Hid, ← hpa.out, pass_none hfr.out hpre.out (by rw [hu.out]; exact HBF.out)]; rfl
              clear h47
              go_wp2_with (go_at_call 83; refine (HB.out _).mono ?_; rintro e w' ⟨rfl, rfl⟩)
              go_ret
              rw [hn.out]
              exact ⟨rfl, rfl⟩
          · have hl2' : ¬ (k : Int) + 1 < (s.size : Int) := by omega
            have hpre : Hid (Lib.hasPrefix (bytesFrom s k) slashes = false) := by
              rw [Hid, hfr.out, from_end s (k + 1) (by omega), prefix_one]
            have hn : Hid (k = R) := by
              rw [Hid, ← hpa.out, pass_none hfr.out hpre.out (by rw [hu.out]; exact HBF.out)]; rfl
            clear h47
            go_wp2_with (go_at_call 83; refine (HB.out _).mono ?_; rintro e w' ⟨rfl, rfl⟩)
            go_ret
            rw [hn.out]
            exact ⟨rfl, rfl⟩
        · have hq : (c == 47) = false := int_f h47
          have hq' : (c != 47) = true := by simp [h47]
          have hpre : Hid (Lib.hasPrefix (bytesFrom s k) slashes = false) := by
            rw [Hid, hfr.out, prefix_no (fun h => h47 (by rw [← hu.out, h]; rfl))]
          have hn : Hid (k = R) := by
            rw [Hid, ← hpa.out, pass_none hfr.out hpre.out (by rw [hu.out]; exact HBF.out)]; rfl
          clear h47
          go_wp2_with (go_at_call 83; refine (HB.out _).mono ?_; rintro e w' ⟨rfl, rfl⟩)
          go_ret
          rw [hn.out]
          exact ⟨rfl, rfl⟩
    · have hlt' : ¬ (k : Int) < (s.size : Int) := by omega
      have hn : Hid (k = R) := by
        rw [Hid, ← hpa.out, from_end s k (by omega)]; rfl
      go_wp2_with fail
      go_ret
      rw [hn.out]
      exact ⟨rfl, rfl⟩
end Go.Proofs.YtgaibdipecngkaaDoor

namespace Go.Proofs.YtgaibdipecngkaaDoor
open Go.RowKit
set_option linter.unusedVariables false

theorem rnumber_none (w : World) : Calls Tryd.prog 87 #[.string ⟨#[]⟩] w fun e w' => e = .returned (ValueV none) ∧ w = w' := by
  go_enter Tryd.func87, Tryd.ntmps87
  go_wp2
  go_ret2
  exact ⟨rfl, rfl⟩
theorem rnumber_nought (s : ByteArray) (w : World) (h0 : 1 < s.size) (h48 : PlainAid.bt s 0 = 48) : Calls Tryd.prog 87 #[.string s] w fun e w' => e = .returned (ValueV none) ∧ w = w' := by
  have hbt0 : ∀ h : 0 < s.size, ((s[0]'h).toNat : Int) = 48 := fun h => by rw [← h48]; exact PlainAid.get_bt s 0 h
  have hne : s.toList.isEmpty = false := (nonempty_facts (by omega)).1
  clear h48
  go_enter Tryd.func87, Tryd.ntmps87
  go_wp2
  go_ret2
  exact ⟨rfl, rfl⟩
set_option maxRecDepth 100000 in
set_option maxHeartbeats 2000000 in
theorem rnumber_loop (s : ByteArray) (w : World) (hs : s.size ≤ 4611686018427387904) (h0 : 0 < s.size) (hq : s.size ≤ 1 ∨ ¬ PlainAid.bt s 0 = 48) : Calls Tryd.prog 87 #[.string s] w fun e w' => e = .returned (ValueV (digitsV s.data.toList 0)) ∧ w = w' := by
  obtain ⟨R, hR⟩ : ∃ R, R = digitsV s.data.toList 0 := ⟨_, rfl⟩
  rw [← hR]
  have HR := Lib.hid hR
  clear hR
  have hbs := PlainAid.get_bt s
  have hne : s.toList.isEmpty = false := (nonempty_facts h0).1
  have key : ∀ K : Prop, (s.size ≤ 1 → (PlainAid.bt s 0 == 48) = true → K) → ((PlainAid.bt s 0 == 48) = false → K) → K := fun K a b => by
    by_cases h1 : PlainAid.bt s 0 = 48
    · exact a (hq.elim id (fun h => absurd h1 h)) (int_t h1)
    · exact b (int_f h1)
  clear hq
  apply key
  all_goals
    clear key
    intros
    go_enter Tryd.func87, Tryd.ntmps87
    go_wp2_with fail
    go_loopw [2, 3, 4, 5, 6] (fun _ _ v i _ wr => w = wr ∧ ∃ (k : Nat) (z : Int), k ≤ s.size ∧ i = .int .i64 k ∧ v = .int .u64 z ∧ 0 ≤ z ∧ z ≤ 9223372036854775807 ∧ Hid (digitsV (bytesFrom s k) z = R)) (fun _ _ _ i _ _ => s.size - (intOf i).toNat)
    case atStart => exact ⟨rfl, 0, 0, Nat.zero_le _, rfl, rfl, by decide, by decide, HR.out.symm⟩
    case round =>
      obtain ⟨rfl, k, z, hk, rfl, rfl, hz0, hz1, hp⟩ := hrel
      by_cases hlt : k < s.size
      · have hx0 := PlainAid.bt_nonneg s k
        have hx1 := PlainAid.bt_le s k
        have hu : ((s[k]).toNat : Int) = PlainAid.bt s k := PlainAid.get_bt s k hlt
        have hfr := from_at s k hlt
        obtain ⟨c, hc⟩ : ∃ c, c = PlainAid.bt s k := ⟨_, rfl⟩
        have hbt : ∀ h : k < s.size, ((s[k]'h).toNat : Int) = c := fun h => by rw [hc]; exact PlainAid.get_bt s k h
        rw [← hc] at hu hx0 hx1
        clear hc hbs
        have H := Lib.hid (fun w => rdigit_any c hx0 hx1 w)
        have hlt' : (k : Int) < (s.size : Int) := by omega
        by_cases hd : digitB c = true
        · have hcb := digitB_bd hd
          by_cases hov : (9223372036854775807 - (c - 48)) / 10 < z
          · have hn : Hid (R = none) := by rw [Hid, ← hp.out, hfr, digitsV_no hu (.inr hov)]
            rw [hd] at H
            clear hfr hu hp hd
            go_wp2_with (go_at_call 85; refine (H.out _).mono ?_; rintro e w' ⟨rfl, rfl⟩)
            go_ret2
            rw [hn.out]
            exact ⟨rfl, rfl⟩
          · have hn : Hid (digitsV (bytesFrom s (k + 1)) (z * 10 + (c - 48)) = R) := by rw [Hid, ← hp.out, hfr, digitsV_yes hu hd hov]
            have hb1 : z * 10 + (c - 48) ≤ 9223372036854775807 ∧ 0 ≤ z * 10 + (c - 48) := by omega
            have hcm : 10 * z = z * 10 := Int.mul_comm _ _
            rw [hd] at H
            clear hfr hu hp hd
            go_wp2_with (go_at_call 85; refine (H.out _).mono ?_; rintro e w' ⟨rfl, rfl⟩)
            go_roundw
            case rel => exact ⟨by trivial, k + 1, z * 10 + (c - 48), by omega, by go_num, by go_num, by omega, by omega, hn⟩
            case measure => simp [intOf]; omega
        · have hdf : digitB c = false := by simpa using hd
          have hn : Hid (R = none) := by rw [Hid, ← hp.out, hfr, digitsV_no hu (.inl hdf)]
          rw [hdf] at H
          clear hfr hu hp hd hdf
          go_wp2_with (go_at_call 85; refine (H.out _).mono ?_; rintro e w' ⟨rfl, rfl⟩)
          go_ret2
          rw [hn.out]
          exact ⟨rfl, rfl⟩
      · have hlt' : ¬ (k : Int) < (s.size : Int) := by omega
        have hn : Hid (R = some z) := by
          rw [Hid, ← hp.out, from_end s k (by omega)]; rfl
        clear hp
        go_wp2_with fail
        go_ret2
        rw [hn.out]
        exact ⟨rfl, rfl⟩
theorem rnumber_any (s : ByteArray) (hs : s.size ≤ 4611686018427387904) (w : World) : Calls Tryd.prog 87 #[.string s] w fun e w' => e = .returned (ValueV (valueO s.data.toList)) ∧ w = w' := by
  by_cases h0 : 0 < s.size
  · have hfr : s.data.toList = s[0] :: bytesFrom s 1 := from_at s 0 h0
    have hu : ((s[0]).toNat : Int) = PlainAid.bt s 0 := PlainAid.get_bt s 0 h0
    have hl : (bytesFrom s 1 ≠ []) ↔ 1 < s.size := by
      have : (bytesFrom s 1).length = s.size - 1 := by unfold bytesFrom; simp
      constructor
      · intro h
        apply Nat.lt_of_not_le
        intro hx
        exact h (List.length_eq_zero_iff.1 (by omega))
      · intro h hx
        rw [hx] at this
        simp at this
        omega
    by_cases h : 1 < s.size ∧ PlainAid.bt s 0 = 48
    · have e : valueO s.data.toList = none := by
        rw [hfr]; unfold valueO
        simp only []
        rw [if_pos ⟨hu.trans h.2, hl.2 h.1⟩]
      rw [e]
      exact rnumber_nought s w h.1 h.2
    · have e : valueO s.data.toList = digitsV s.data.toList 0 := by
        rw [hfr]; unfold valueO
        simp only []
        rw [if_neg (fun hx => h ⟨hl.1 hx.2, hu.symm.trans hx.1⟩)]
      rw [e]
      exact rnumber_loop s w hs h0 (by
        by_cases h1 : s.size ≤ 1
        · exact .inl h1
        · exact .inr fun hx => h ⟨by omega, hx⟩)
  · obtain rfl := empty_of h0
    exact rnumber_none w
end Go.Proofs.YtgaibdipecngkaaDoor

namespace Go.Proofs.YtgaibdipecngkaaDoor
open Go.RowKit
set_option linter.unusedVariables false

/-- What the reference tells of a byte. -/
def onePost (s : ByteArray) (p : Nat) (e : Ending) : Prop :=
  ∃ a b c d, e = .returned (.tuple #[.agg #[.int .u8 a, .string b, .int .i64 c, .int .i64 d], .int .i64 (nextR s p).fr, .int .i64 (nextR s p).fa]) ∧ ((nextR s p).fr = 0 → a = (nextR s p).kind ∧ b = (nextR s p).text ∧ c = (nextR s p).wd ∧ d = (nextR s p).place)
theorem extract_two (s : ByteArray) (p n : Nat) (h : p + n ≤ s.size) : (s.extract p s.size).extract 0 n = s.extract p (p + n) := by
  apply ByteArray.ext
  apply Array.ext'
  rw [Lib.extract_data, Lib.extract_data, Lib.extract_data]
  simp only [List.drop_zero, Nat.sub_zero]
  rw [List.take_take, show p + n - p = n by omega, show min n (s.size - p) = n by omega]
theorem word_size {s : ByteArray} (h : wordB s = true) : s.size ≤ 6 := by
  rw [wordB_list, Lib.toList_data] at h
  have hz : s.size = s.data.toList.length := by simp
  rw [hz]
  generalize s.data.toList = l at h
  unfold wordL at h
  simp only [Bool.or_eq_true, beq_iff_eq] at h
  rcases h with ((((((((h | h) | h) | h) | h) | h) | h) | h) | h) | h <;> subst h <;> decide
set_option maxRecDepth 100000 in
set_option maxHeartbeats 8000000 in
theorem one_letter (s : ByteArray) (hs : s.size ≤ 281474976710656) (p : Nat) (hp : p < s.size) (w : World) (hN0 : letterB (PlainAid.bt s p) = true) :
    Calls Tryd.prog 70 #[.string s, .int .i64 p] w fun e w' => onePost s p e ∧ Below w.heap.size w w' := by
  have hx0 := PlainAid.bt_nonneg s p
  have hx1 := PlainAid.bt_le s p
  obtain ⟨c, hc⟩ : ∃ c, Hid (c = PlainAid.bt s p) := ⟨_, rfl⟩
  have hbt : ∀ h : p < s.size, ((s[p]'h).toNat : Int) = c := fun h => by rw [hc.out]; exact PlainAid.get_bt s p h
  rw [← hc.out] at hx0 hx1
  have hp' : (p : Int) < (s.size : Int) := by omega
  have Hletter : Hid (∀ W : World, Calls Tryd.prog 84 #[.int .u8 c] W fun e w' => e = .returned (.bool true) ∧ W = w') := fun W => by
    have q := rletter_any c hx0 hx1 W
    rw [hc.out, hN0] at q
    rw [hc.out]
    exact q
  go_enter Tryd.func70, Tryd.ntmps70
  go_wp2_with (go_at_call 84; refine (Hletter.out _).mono ?_; rintro e w' ⟨rfl, rfl⟩)
  obtain ⟨E, hE⟩ : ∃ E, Hid (E = p + spanN namedB (bytesFrom s p)) := ⟨_, rfl⟩
  have hEs : E ≤ s.size := by
    have := spanN_le namedB (bytesFrom s p)
    rw [from_len] at this
    rw [hE.out]; omega
  have hEp : p < E := by
    have : 0 < spanN namedB (bytesFrom s p) := by
      rw [from_at s p hp]
      refine span_pos ?_
      rw [hbt hp]; unfold namedB; rw [hc.out, hN0]; rfl
    rw [hE.out]; omega
  obtain ⟨X, hX⟩ : ∃ X, Hid (X = s.extract p E) := ⟨_, rfl⟩
  have hXz : X.size = E - p := by rw [hX.out]; simp; omega
  have hXn : Hid (X = nameX s p) := by
    unfold nameX
    rw [Hid, extract_two s p _ (by have := hE.out; omega), ← hE.out]; exact hX.out
  have hRn : Hid (nextR s p = nameR s p) := by
    unfold nextR; rw [Hid, if_pos hN0]
  clear hN0
  go_loopw [7] (fun e wr => wr = w.alloc (.cells #[.int .u8 0, .string ⟨#[]⟩, .int .i64 0, .int .i64 0] 69) ∧ ∃ j : Nat, p ≤ j ∧ j ≤ s.size ∧ e = .int .i64 j ∧ Hid (j + spanN namedB (bytesFrom s j) = E)) (fun i _ => s.size - (intOf i).toNat)
  case atStart => exact ⟨rfl, p, Nat.le_refl _, by omega, rfl, hE.out.symm⟩
  case round =>
    obtain ⟨rfl, j, hpj, hj, rfl, hje⟩ := hrel
    by_cases hlj : j < s.size
    · have hlj' : (j : Int) < (s.size : Int) := by omega
      have hy0 := PlainAid.bt_nonneg s j
      have hy1 := PlainAid.bt_le s j
      obtain ⟨d, hd⟩ : ∃ c, Hid (c = PlainAid.bt s j) := ⟨_, rfl⟩
      have hbj : ∀ h : j < s.size, ((s[j]'h).toNat : Int) = d := fun h => by rw [hd.out]; exact PlainAid.get_bt s j h
      rw [← hd.out] at hy0 hy1
      have hu := Lib.hid (hbj hlj)
      have hfr := Lib.hid (from_at s j hlj)
      have K1 := Lib.hid (fun w => rletter_any d hy0 hy1 w)
      have K2 := Lib.hid (fun w => rdigit_any d hy0 hy1 w)
      obtain ⟨q1, hq1⟩ : ∃ a, a = letterB d := ⟨_, rfl⟩
      obtain ⟨q2, hq2⟩ : ∃ b, b = digitB d := ⟨_, rfl⟩
      have e : Hid (namedB d = (q1 || q2)) := by rw [hq1, hq2]; rfl
      rw [← hq1] at K1
      rw [← hq2] at K2
      clear hq1 hq2
      by_cases hpc : (q1 || q2) = true
      · have hn : Hid (j + 1 + spanN namedB (bytesFrom s (j + 1)) = E) := by
          rw [Hid, ← hje.out, hfr.out]; simp only [spanN]; rw [hu.out, e.out, if_pos hpc]; omega
        clear e
        cases q1
        · obtain rfl : q2 = true := by simpa using hpc
          clear hpc
          go_wp2_with (first
            | (go_at_call 84; refine (K1.out _).mono ?_; rintro e w' ⟨rfl, rfl⟩)
            | (go_at_call 85; refine (K2.out _).mono ?_; rintro e w' ⟨rfl, rfl⟩))
          go_roundw
          case rel => exact ⟨by first | rfl | trivial, j + 1, by omega, by omega, by go_num, hn⟩
          case measure => simp [intOf]; omega
        · clear hpc
          go_wp2_with (first
            | (go_at_call 84; refine (K1.out _).mono ?_; rintro e w' ⟨rfl, rfl⟩)
            | (go_at_call 85; refine (K2.out _).mono ?_; rintro e w' ⟨rfl, rfl⟩))
          go_roundw
          case rel => exact ⟨by first | rfl | trivial, j + 1, by omega, by omega, by go_num, hn⟩
          case measure => simp [intOf]; omega
      · have hn : Hid (j = E) := by
          rw [Hid, ← hje.out, hfr.out]; simp only [spanN]; rw [hu.out, e.out, if_neg hpc]; rfl
        obtain ⟨rfl, rfl⟩ : q1 = false ∧ q2 = false := by simpa using hpc
        clear hpc e
        obtain rfl : j = E := hn.out
        obtain ⟨q, hq⟩ : ∃ q, Hid (q = wordB X) := ⟨_, rfl⟩
        have HW : Hid (∀ W : World, Calls Tryd.prog 86 #[.string X] W fun e w' => e = .returned (.bool q) ∧ W = w') := fun W => by
          rw [hq.out]; exact rword_any X W
        cases q
        · have hw : Hid (wordB (nameX s p) = false) := by rw [Hid, ← hXn.out]; exact hq.out.symm
          by_cases h32 : (32 : Int) < (j : Int) - (p : Int)
          · have hV : Hid (nextR s p = ⟨0, ⟨#[]⟩, 0, 0, p + 32, 2⟩) := by
              rw [Hid, hRn.out]; unfold nameR
              rw [if_neg (by rw [hw.out]; decide), if_pos (by rw [← hXn.out, hXz]; omega)]
            go_wp2_with (first
              | (go_at_call 84; refine (K1.out _).mono ?_; rintro e w' ⟨rfl, rfl⟩)
              | (go_at_call 85; refine (K2.out _).mono ?_; rintro e w' ⟨rfl, rfl⟩)
              | (go_at_call 86; (try rw [← hX.out]); refine (HW.out _).mono ?_; rintro e w' ⟨rfl, rfl⟩))
            refine bodyPost_ret (v := .tuple #[.agg #[.int .u8 1, .string X, .int .i64 0, .int .i64 p], .int .i64 2, .int .i64 ((p : Int) + 32)]) (by simp [results, Tryd.results70, go_sem]) rfl ⟨?_, ?_⟩
            · unfold onePost; rw [hV.out]; exact ⟨_, _, _, _, rfl, fun h => by cases h⟩
            · exact (((Below.refl _ w).alloc (Nat.le_refl _) _).alloc (by simp) _)
          · have hV : Hid (nextR s p = ⟨1, X, 0, p, 0, 0⟩) := by
              rw [Hid, hRn.out]; unfold nameR
              rw [if_neg (by rw [hw.out]; decide), if_neg (by rw [← hXn.out, hXz]; omega), ← hXn.out]
            go_wp2_with (first
              | (go_at_call 84; refine (K1.out _).mono ?_; rintro e w' ⟨rfl, rfl⟩)
              | (go_at_call 85; refine (K2.out _).mono ?_; rintro e w' ⟨rfl, rfl⟩)
              | (go_at_call 86; (try rw [← hX.out]); refine (HW.out _).mono ?_; rintro e w' ⟨rfl, rfl⟩))
            refine bodyPost_ret (v := .tuple #[.agg #[.int .u8 1, .string X, .int .i64 0, .int .i64 p], .int .i64 0, .int .i64 0]) (by simp [results, Tryd.results70, go_sem]) rfl ⟨?_, ?_⟩
            · unfold onePost; rw [hV.out]; exact ⟨_, _, _, _, rfl, fun _ => ⟨rfl, rfl, rfl, rfl⟩⟩
            · exact (((Below.refl _ w).alloc (Nat.le_refl _) _).alloc (by simp) _)
        · have hw : Hid (wordB (nameX s p) = true) := by rw [Hid, ← hXn.out]; exact hq.out.symm
          have hsz := word_size hq.out.symm
          have h32 : ¬ (32 : Int) < (j : Int) - (p : Int) := by omega
          have hV : Hid (nextR s p = ⟨2, X, 0, p, 0, 0⟩) := by
            rw [Hid, hRn.out]; unfold nameR
            rw [if_pos hw.out, ← hXn.out]
          go_wp2_with (first
              | (go_at_call 84; refine (K1.out _).mono ?_; rintro e w' ⟨rfl, rfl⟩)
              | (go_at_call 85; refine (K2.out _).mono ?_; rintro e w' ⟨rfl, rfl⟩)
              | (go_at_call 86; (try rw [← hX.out]); refine (HW.out _).mono ?_; rintro e w' ⟨rfl, rfl⟩))
          refine bodyPost_ret (v := .tuple #[.agg #[.int .u8 2, .string X, .int .i64 0, .int .i64 p], .int .i64 0, .int .i64 0]) (by simp [results, Tryd.results70, go_sem]) rfl ⟨?_, ?_⟩
          · unfold onePost; rw [hV.out]; exact ⟨_, _, _, _, rfl, fun _ => ⟨rfl, rfl, rfl, rfl⟩⟩
          · exact (((Below.refl _ w).alloc (Nat.le_refl _) _).alloc (by simp) _)
    · have hlj' : ¬ (j : Int) < (s.size : Int) := by omega
      have hn : Hid (j = E) := by
        rw [Hid, ← hje.out, from_end s j (by omega)]; rfl
      obtain rfl : j = E := hn.out
      obtain ⟨q, hq⟩ : ∃ q, Hid (q = wordB X) := ⟨_, rfl⟩
      have HW : Hid (∀ W : World, Calls Tryd.prog 86 #[.string X] W fun e w' => e = .returned (.bool q) ∧ W = w') := fun W => by
        rw [hq.out]; exact rword_any X W
      cases q
      · have hw : Hid (wordB (nameX s p) = false) := by rw [Hid, ← hXn.out]; exact hq.out.symm
        by_cases h32 : (32 : Int) < (j : Int) - (p : Int)
        · have hV : Hid (nextR s p = ⟨0, ⟨#[]⟩, 0, 0, p + 32, 2⟩) := by
            rw [Hid, hRn.out]; unfold nameR
            rw [if_neg (by rw [hw.out]; decide), if_pos (by rw [← hXn.out, hXz]; omega)]
          go_wp2_with (go_at_call 86; (try rw [← hX.out]); refine (HW.out _).mono ?_; rintro e w' ⟨rfl, rfl⟩)
          refine bodyPost_ret (v := .tuple #[.agg #[.int .u8 1, .string X, .int .i64 0, .int .i64 p], .int .i64 2, .int .i64 ((p : Int) + 32)]) (by simp [results, Tryd.results70, go_sem]) rfl ⟨?_, ?_⟩
          · unfold onePost; rw [hV.out]; exact ⟨_, _, _, _, rfl, fun h => by cases h⟩
          · exact (((Below.refl _ w).alloc (Nat.le_refl _) _).alloc (by simp) _)
        · have hV : Hid (nextR s p = ⟨1, X, 0, p, 0, 0⟩) := by
            rw [Hid, hRn.out]; unfold nameR
            rw [if_neg (by rw [hw.out]; decide), if_neg (by rw [← hXn.out, hXz]; omega), ← hXn.out]
          go_wp2_with (go_at_call 86; (try rw [← hX.out]); refine (HW.out _).mono ?_; rintro e w' ⟨rfl, rfl⟩)
          refine bodyPost_ret (v := .tuple #[.agg #[.int .u8 1, .string X, .int .i64 0, .int .i64 p], .int .i64 0, .int .i64 0]) (by simp [results, Tryd.results70, go_sem]) rfl ⟨?_, ?_⟩
          · unfold onePost; rw [hV.out]; exact ⟨_, _, _, _, rfl, fun _ => ⟨rfl, rfl, rfl, rfl⟩⟩
          · exact (((Below.refl _ w).alloc (Nat.le_refl _) _).alloc (by simp) _)
      · have hw : Hid (wordB (nameX s p) = true) := by rw [Hid, ← hXn.out]; exact hq.out.symm
        have hsz := word_size hq.out.symm
        have h32 : ¬ (32 : Int) < (j : Int) - (p : Int) := by omega
        have hV : Hid (nextR s p = ⟨2, X, 0, p, 0, 0⟩) := by
          rw [Hid, hRn.out]; unfold nameR
          rw [if_pos hw.out, ← hXn.out]
        go_wp2_with (go_at_call 86; (try rw [← hX.out]); refine (HW.out _).mono ?_; rintro e w' ⟨rfl, rfl⟩)
        refine bodyPost_ret (v := .tuple #[.agg #[.int .u8 2, .string X, .int .i64 0, .int .i64 p], .int .i64 0, .int .i64 0]) (by simp [results, Tryd.results70, go_sem]) rfl ⟨?_, ?_⟩
        · unfold onePost; rw [hV.out]; exact ⟨_, _, _, _, rfl, fun _ => ⟨rfl, rfl, rfl, rfl⟩⟩
        · exact (((Below.refl _ w).alloc (Nat.le_refl _) _).alloc (by simp) _)
set_option maxRecDepth 100000 in
set_option maxHeartbeats 8000000 in
theorem one_digit (s : ByteArray) (hs : s.size ≤ 281474976710656) (p : Nat) (hp : p < s.size) (w : World) (hN0 : letterB (PlainAid.bt s p) = false) (hN1 : digitB (PlainAid.bt s p) = true) :
    Calls Tryd.prog 70 #[.string s, .int .i64 p] w fun e w' => onePost s p e ∧ Below w.heap.size w w' := by
  have hx0 := PlainAid.bt_nonneg s p
  have hx1 := PlainAid.bt_le s p
  obtain ⟨c, hc⟩ : ∃ c, Hid (c = PlainAid.bt s p) := ⟨_, rfl⟩
  have hbt : ∀ h : p < s.size, ((s[p]'h).toNat : Int) = c := fun h => by rw [hc.out]; exact PlainAid.get_bt s p h
  rw [← hc.out] at hx0 hx1
  have hp' : (p : Int) < (s.size : Int) := by omega
  have Hletter : Hid (∀ W : World, Calls Tryd.prog 84 #[.int .u8 c] W fun e w' => e = .returned (.bool false) ∧ W = w') := fun W => by
    have q := rletter_any c hx0 hx1 W
    rw [hc.out, hN0] at q
    rw [hc.out]
    exact q
  have Hdigit : Hid (∀ W : World, Calls Tryd.prog 85 #[.int .u8 c] W fun e w' => e = .returned (.bool true) ∧ W = w') := fun W => by
    have q := rdigit_any c hx0 hx1 W
    rw [hc.out, hN1] at q
    rw [hc.out]
    exact q
  have Hletter0 := Hletter
  have Hdigit0 := Hdigit
  go_enter Tryd.func70, Tryd.ntmps70
  go_wp2_with (first
    | (go_at_call 84; refine (Hletter.out _).mono ?_; rintro e w' ⟨rfl, rfl⟩)
    | (go_at_call 85; refine (Hdigit.out _).mono ?_; rintro e w' ⟨rfl, rfl⟩))
  clear Hletter Hdigit Hletter0 Hdigit0
  obtain ⟨E, hE⟩ : ∃ E, Hid (E = p + spanN digitB (bytesFrom s p)) := ⟨_, rfl⟩
  have hEs : E ≤ s.size := by
    have := spanN_le digitB (bytesFrom s p)
    rw [from_len] at this
    rw [hE.out]; omega
  have hEp : p < E := by
    have : 0 < spanN digitB (bytesFrom s p) := by
      rw [from_at s p hp]
      refine span_pos ?_
      rw [hbt hp, hc.out]; exact hN1
    rw [hE.out]; omega
  obtain ⟨X, hX⟩ : ∃ X, Hid (X = s.extract p E) := ⟨_, rfl⟩
  have hXz : X.size = E - p := by rw [hX.out]; simp; omega
  have hXn : Hid (X = numX s p) := by
    unfold numX
    rw [Hid, extract_two s p _ (by have := hE.out; omega), ← hE.out]; exact hX.out
  have hRn : Hid (nextR s p = numC s p (E - p) X (valueO X.data.toList)) := by
    unfold nextR; rw [Hid, if_neg (by rw [hN0]; decide), if_pos hN1]
    unfold numR; rw [← hXn.out, hE.out]; congr 1; omega
  have hbh : Hid (behindB s p = (decide (E < s.size) && letterB (PlainAid.bt s E))) := by
    unfold behindB; rw [Hid, ← hE.out]
  obtain ⟨O, hO⟩ : ∃ O, Hid (O = valueO X.data.toList) := ⟨_, rfl⟩
  rw [← hO.out] at hRn
  have HNum : Hid (∀ W : World, Calls Tryd.prog 87 #[.string X] W fun e w' => e = .returned (.tuple #[.int .i64 (O.getD 0), .bool O.isSome]) ∧ W = w') := fun W => by
    rw [hO.out]; exact rnumber_any X (by omega) W
  clear hN0 hN1
  go_loopw [7] (fun e wr => wr = w.alloc (.cells #[.int .u8 0, .string ⟨#[]⟩, .int .i64 0, .int .i64 0] 69) ∧ ∃ j : Nat, p ≤ j ∧ j ≤ s.size ∧ e = .int .i64 j ∧ Hid (j + spanN digitB (bytesFrom s j) = E)) (fun i _ => s.size - (intOf i).toNat)
  case atStart => exact ⟨rfl, p, Nat.le_refl _, by omega, rfl, hE.out.symm⟩
  case round =>
    obtain ⟨rfl, j, hpj, hj, rfl, hje⟩ := hrel
    by_cases hlj : j < s.size
    · have hlj' : (j : Int) < (s.size : Int) := by omega
      have hy0 := PlainAid.bt_nonneg s j
      have hy1 := PlainAid.bt_le s j
      obtain ⟨d, hd⟩ : ∃ c, Hid (c = PlainAid.bt s j) := ⟨_, rfl⟩
      have hbj : ∀ h : j < s.size, ((s[j]'h).toNat : Int) = d := fun h => by rw [hd.out]; exact PlainAid.get_bt s j h
      rw [← hd.out] at hy0 hy1
      have hu := Lib.hid (hbj hlj)
      have hfr := Lib.hid (from_at s j hlj)
      have K1 := Lib.hid (fun w => rletter_any d hy0 hy1 w)
      have K2 := Lib.hid (fun w => rdigit_any d hy0 hy1 w)
      obtain ⟨q1, hq1⟩ : ∃ a, Hid (a = letterB d) := ⟨_, rfl⟩
      obtain ⟨q2, hq2⟩ : ∃ b, Hid (b = digitB d) := ⟨_, rfl⟩
      rw [← hq1.out] at K1
      rw [← hq2.out] at K2
      cases q2
      · have hn : Hid (j = E) := by
          rw [Hid, ← hje.out, hfr.out]; simp only [spanN]; rw [hu.out, if_neg (by rw [← hq2.out]; decide)]; rfl
        obtain rfl : j = E := hn.out
        have hbb : Hid (behindB s p = q1) := by
          rw [Hid, hbh.out, decide_eq_true hlj, hq1.out, ← hd.out]; rfl
        clear hq2
        cases O with
        | none =>
          have hV : Hid (nextR s p = ⟨0, ⟨#[]⟩, 0, 0, p, 3⟩) := by rw [Hid, hRn.out]; rfl
          go_wp2_with (first
            | (go_at_call 84; refine (K1.out _).mono ?_; rintro e w' ⟨rfl, rfl⟩)
            | (go_at_call 85; refine (K2.out _).mono ?_; rintro e w' ⟨rfl, rfl⟩)
            | (go_at_call 87; (try rw [← hX.out]); refine (HNum.out _).mono ?_; rintro e w' ⟨rfl, rfl⟩))
          refine bodyPost_ret (v := .tuple #[.agg #[.int .u8 0, .string ⟨#[]⟩, .int .i64 0, .int .i64 0], .int .i64 3, .int .i64 p]) (by simp [results, Tryd.results70, go_sem]) rfl ⟨?_, ?_⟩
          · unfold onePost; rw [hV.out]; exact ⟨_, _, _, _, rfl, fun h => by cases h⟩
          · exact (Below.refl _ w).alloc (Nat.le_refl _) _
        | some v =>
          cases q1
          · have hV : Hid (nextR s p = ⟨3, X, v, p, 0, 0⟩) := by
              rw [Hid, hRn.out]; simp only [numC]; rw [if_neg (by rw [hbb.out]; decide)]
            go_wp2_with (first
              | (go_at_call 84; refine (K1.out _).mono ?_; rintro e w' ⟨rfl, rfl⟩)
              | (go_at_call 85; refine (K2.out _).mono ?_; rintro e w' ⟨rfl, rfl⟩)
              | (go_at_call 87; (try rw [← hX.out]); refine (HNum.out _).mono ?_; rintro e w' ⟨rfl, rfl⟩))
            refine bodyPost_ret (v := .tuple #[.agg #[.int .u8 3, .string X, .int .i64 v, .int .i64 p], .int .i64 0, .int .i64 0]) (by simp [results, Tryd.results70, go_sem, hX.out]) rfl ⟨?_, ?_⟩
            · unfold onePost; rw [hV.out]; exact ⟨_, _, _, _, rfl, fun _ => ⟨rfl, rfl, rfl, rfl⟩⟩
            · exact (Below.refl _ w).alloc (Nat.le_refl _) _
          · have hV : Hid (nextR s p = ⟨0, ⟨#[]⟩, 0, 0, j, 4⟩) := by
              rw [Hid, hRn.out]; simp only [numC]; rw [if_pos hbb.out]; congr 1; omega
            go_wp2_with (first
              | (go_at_call 84; refine (K1.out _).mono ?_; rintro e w' ⟨rfl, rfl⟩)
              | (go_at_call 85; refine (K2.out _).mono ?_; rintro e w' ⟨rfl, rfl⟩)
              | (go_at_call 87; (try rw [← hX.out]); refine (HNum.out _).mono ?_; rintro e w' ⟨rfl, rfl⟩))
            refine bodyPost_ret (v := .tuple #[.agg #[.int .u8 0, .string ⟨#[]⟩, .int .i64 0, .int .i64 0], .int .i64 4, .int .i64 j]) (by simp [results, Tryd.results70, go_sem]) rfl ⟨?_, ?_⟩
            · unfold onePost; rw [hV.out]; exact ⟨_, _, _, _, rfl, fun h => by cases h⟩
            · exact (Below.refl _ w).alloc (Nat.le_refl _) _
      · have hn : Hid (j + 1 + spanN digitB (bytesFrom s (j + 1)) = E) := by
          rw [Hid, ← hje.out, hfr.out]; simp only [spanN]; rw [hu.out, if_pos hq2.out.symm]; omega
        go_wp2_with (first
          | (go_at_call 84; refine (K1.out _).mono ?_; rintro e w' ⟨rfl, rfl⟩)
          | (go_at_call 85; refine (K2.out _).mono ?_; rintro e w' ⟨rfl, rfl⟩))
        go_roundw
        case rel => exact ⟨by first | rfl | trivial, j + 1, by omega, by omega, by go_num, hn⟩
        case measure => simp [intOf]; omega
    · have hlj' : ¬ (j : Int) < (s.size : Int) := by omega
      have hn : Hid (j = E) := by
        rw [Hid, ← hje.out, from_end s j (by omega)]; rfl
      obtain rfl : j = E := hn.out
      have hbb : Hid (behindB s p = false) := by
        rw [Hid, hbh.out, decide_eq_false hlj]; rfl
      cases O with
      | none =>
        have hV : Hid (nextR s p = ⟨0, ⟨#[]⟩, 0, 0, p, 3⟩) := by rw [Hid, hRn.out]; rfl
        go_wp2_with (go_at_call 87; (try rw [← hX.out]); refine (HNum.out _).mono ?_; rintro e w' ⟨rfl, rfl⟩)
        refine bodyPost_ret (v := .tuple #[.agg #[.int .u8 0, .string ⟨#[]⟩, .int .i64 0, .int .i64 0], .int .i64 3, .int .i64 p]) (by simp [results, Tryd.results70, go_sem]) rfl ⟨?_, ?_⟩
        · unfold onePost; rw [hV.out]; exact ⟨_, _, _, _, rfl, fun h => by cases h⟩
        · exact (Below.refl _ w).alloc (Nat.le_refl _) _
      | some v =>
        have hV : Hid (nextR s p = ⟨3, X, v, p, 0, 0⟩) := by
          rw [Hid, hRn.out]; simp only [numC]; rw [if_neg (by rw [hbb.out]; decide)]
        go_wp2_with (go_at_call 87; (try rw [← hX.out]); refine (HNum.out _).mono ?_; rintro e w' ⟨rfl, rfl⟩)
        refine bodyPost_ret (v := .tuple #[.agg #[.int .u8 3, .string X, .int .i64 v, .int .i64 p], .int .i64 0, .int .i64 0]) (by simp [results, Tryd.results70, go_sem, hX.out]) rfl ⟨?_, ?_⟩
        · unfold onePost; rw [hV.out]; exact ⟨_, _, _, _, rfl, fun _ => ⟨rfl, rfl, rfl, rfl⟩⟩
        · exact (Below.refl _ w).alloc (Nat.le_refl _) _
end Go.Proofs.YtgaibdipecngkaaDoor

namespace Go.Proofs.YtgaibdipecngkaaDoor
open Go.RowKit
set_option linter.unusedVariables false

theorem long_cons (a b : UInt8) (r : List UInt8) : longB (a :: b :: r) = longB [a, b] := by
  unfold longB
  rw [show (longAt 0).data.toList = [61, 61] from rfl, show (longAt 1).data.toList = [33, 61] from rfl, show (longAt 2).data.toList = [60, 61] from rfl, show (longAt 3).data.toList = [62, 61] from rfl, show (longAt 4).data.toList = [60, 60] from rfl, show (longAt 5).data.toList = [62, 62] from rfl]
  simp only [Lib.hasPrefix, List.isPrefixOf_cons_cons, List.isPrefixOf_nil_left]
theorem long_sign {a b : UInt8} (h : longB [a, b] = true) : signB (a.toNat : Int) = true := by
  rw [long2] at h
  unfold signL at h
  simp only [Bool.or_eq_true, beq_iff_eq, List.cons.injEq, and_true] at h
  have key : a = 61 ∨ a = 33 ∨ a = 60 ∨ a = 62 := by
    simp at h
    rcases h with ((((h | h) | h) | h) | h) | h <;> simp [h.1]
  rcases key with rfl | rfl | rfl | rfl <;> decide
theorem extract_list (s : ByteArray) (p n : Nat) : (s.extract p (p + n)).data.toList = (bytesFrom s p).take n := by
  rw [Lib.extract_data]
  unfold bytesFrom
  rw [show p + n - p = n by omega]
set_option maxRecDepth 100000 in
set_option maxHeartbeats 8000000 in
theorem one_sign (s : ByteArray) (hs : s.size ≤ 281474976710656) (p : Nat) (hp : p < s.size) (w : World) (hN0 : letterB (PlainAid.bt s p) = false) (hN1 : digitB (PlainAid.bt s p) = false) :
    Calls Tryd.prog 70 #[.string s, .int .i64 p] w fun e w' => onePost s p e ∧ Below w.heap.size w w' := by
  have hx0 := PlainAid.bt_nonneg s p
  have hx1 := PlainAid.bt_le s p
  obtain ⟨c, hc⟩ : ∃ c, Hid (c = PlainAid.bt s p) := ⟨_, rfl⟩
  have hbt : ∀ h : p < s.size, ((s[p]'h).toNat : Int) = c := fun h => by rw [hc.out]; exact PlainAid.get_bt s p h
  rw [← hc.out] at hx0 hx1
  have hp' : (p : Int) < (s.size : Int) := by omega
  have Hletter : Hid (∀ W : World, Calls Tryd.prog 84 #[.int .u8 c] W fun e w' => e = .returned (.bool false) ∧ W = w') := fun W => by
    have q := rletter_any c hx0 hx1 W
    rw [hc.out, hN0] at q
    rw [hc.out]
    exact q
  have Hdigit : Hid (∀ W : World, Calls Tryd.prog 85 #[.int .u8 c] W fun e w' => e = .returned (.bool false) ∧ W = w') := fun W => by
    have q := rdigit_any c hx0 hx1 W
    rw [hc.out, hN1] at q
    rw [hc.out]
    exact q
  have hfr := Lib.hid (from_at s p hp)
  obtain ⟨X1, hX1⟩ : ∃ X, Hid (X = s.extract p (p + 1)) := ⟨_, rfl⟩
  obtain ⟨q1, hq1⟩ : ∃ q, Hid (q = signB c) := ⟨_, rfl⟩
  have hbp : Hid (PlainAid.bt s p = c) := hc.out.symm
  have hpu : Hid (((s[p]'hp).toNat : Int) = c) := hbt hp
  have HS1 : Hid (∀ W : World, Calls Tryd.prog 88 #[.string X1] W fun e w' => e = .returned (.bool q1) ∧ W = w') := fun W => by
    have k := rsign_any X1 W
    rw [isSign_list, Lib.toList_data, hX1.out, extract_list, hfr.out] at k
    rw [hq1.out, hX1.out, ← hpu.out, sign1]
    exact k
  have hnext : Hid (nextR s p = if q1 = true then signR s p else ⟨0, ⟨#[]⟩, 0, 0, p, 1⟩) := by
    unfold nextR
    rw [Hid, if_neg (by rw [hN0]; decide), if_neg (by rw [hN1]; decide), hq1.out, hbp.out]
  clear hN0 hN1
  by_cases h2 : p + 1 < s.size
  · have h2' : (p : Int) + 1 < (s.size : Int) := by omega
    have hge : (p : Int) + 2 ≤ (s.size : Int) := by omega
    have hfr2 := Lib.hid (from_at s (p + 1) h2)
    obtain ⟨X2, hX2⟩ : ∃ X, Hid (X = s.extract p (p + 2)) := ⟨_, rfl⟩
    obtain ⟨q2, hq2⟩ : ∃ q, Hid (q = longB [s[p], s[p + 1]]) := ⟨longB [s[p], s[p + 1]], rfl⟩
    have HS2 : Hid (∀ W : World, Calls Tryd.prog 88 #[.string X2] W fun e w' => e = .returned (.bool q2) ∧ W = w') := fun W => by
      have k := rsign_any X2 W
      rw [isSign_list, Lib.toList_data, hX2.out, extract_list, hfr.out, hfr2.out] at k
      rw [hq2.out, hX2.out, long2]
      exact k
    have hah : Hid (aheadN (bytesFrom s p) = if q2 = true then 2 else if q1 = true then 1 else 0) := by
      rw [Hid, hfr.out, hfr2.out]
      unfold aheadN
      rw [long_cons, ← hq2.out]
      simp only [firstN]
      rw [hpu.out, hq1.out]
    have hls : Hid (q2 = true → q1 = true) := fun h => by
      rw [hq2.out] at h
      rw [hq1.out, ← hpu.out]
      exact long_sign h
    cases q2
    · cases q1
      · have hV : Hid (nextR s p = ⟨0, ⟨#[]⟩, 0, 0, p, 1⟩) := by rw [Hid, hnext.out, if_neg (by decide)]
        go_enter Tryd.func70, Tryd.ntmps70
        go_wp2_with (first
          | (go_at_call 84; refine (Hletter.out _).mono ?_; rintro e w' ⟨rfl, rfl⟩)
          | (go_at_call 85; refine (Hdigit.out _).mono ?_; rintro e w' ⟨rfl, rfl⟩)
          | (go_at_call 88; rw [← hX2.out]; (with_reducible refine (HS2.out _).mono ?_); rintro e w' ⟨rfl, rfl⟩)
          | (go_at_call 88; rw [← hX1.out]; (with_reducible refine (HS1.out _).mono ?_); rintro e w' ⟨rfl, rfl⟩))
        refine bodyPost_ret (v := .tuple #[.agg #[.int .u8 0, .string ⟨#[]⟩, .int .i64 0, .int .i64 0], .int .i64 1, .int .i64 p]) (by simp [results, Tryd.results70, go_sem]) rfl ⟨?_, ?_⟩
        · unfold onePost; rw [hV.out]; exact ⟨_, _, _, _, rfl, fun h => by cases h⟩
        · exact (Below.refl _ w).alloc (Nat.le_refl _) _
      · have hV : Hid (nextR s p = ⟨4, X1, 0, p, 0, 0⟩) := by
          rw [Hid, hnext.out, if_pos rfl]; unfold signR signX
          rw [hah.out, if_neg (by decide), if_pos rfl]
          rw [extract_two s p 1 (by omega), ← hX1.out]
        go_enter Tryd.func70, Tryd.ntmps70
        go_wp2_with (first
          | (go_at_call 84; refine (Hletter.out _).mono ?_; rintro e w' ⟨rfl, rfl⟩)
          | (go_at_call 85; refine (Hdigit.out _).mono ?_; rintro e w' ⟨rfl, rfl⟩)
          | (go_at_call 88; rw [← hX2.out]; (with_reducible refine (HS2.out _).mono ?_); rintro e w' ⟨rfl, rfl⟩)
          | (go_at_call 88; rw [← hX1.out]; (with_reducible refine (HS1.out _).mono ?_); rintro e w' ⟨rfl, rfl⟩))
        refine bodyPost_ret (v := .tuple #[.agg #[.int .u8 4, .string X1, .int .i64 0, .int .i64 p], .int .i64 0, .int .i64 0]) (by simp [results, Tryd.results70, go_sem, hX1.out]) rfl ⟨?_, ?_⟩
        · unfold onePost; rw [hV.out]; exact ⟨_, _, _, _, rfl, fun _ => ⟨rfl, rfl, rfl, rfl⟩⟩
        · exact (Below.refl _ w).alloc (Nat.le_refl _) _
    · have hV : Hid (nextR s p = ⟨4, X2, 0, p, 0, 0⟩) := by
        rw [Hid, hnext.out, if_pos (hls.out rfl)]; unfold signR signX
        rw [hah.out, if_pos rfl]
        rw [extract_two s p 2 (by omega), ← hX2.out]
      go_enter Tryd.func70, Tryd.ntmps70
      go_wp2_with (first
        | (go_at_call 84; refine (Hletter.out _).mono ?_; rintro e w' ⟨rfl, rfl⟩)
        | (go_at_call 85; refine (Hdigit.out _).mono ?_; rintro e w' ⟨rfl, rfl⟩)
        | (go_at_call 88; rw [← hX2.out]; (with_reducible refine (HS2.out _).mono ?_); rintro e w' ⟨rfl, rfl⟩)
        | (go_at_call 88; rw [← hX1.out]; (with_reducible refine (HS1.out _).mono ?_); rintro e w' ⟨rfl, rfl⟩))
      refine bodyPost_ret (v := .tuple #[.agg #[.int .u8 4, .string X2, .int .i64 0, .int .i64 p], .int .i64 0, .int .i64 0]) (by simp [results, Tryd.results70, go_sem, hX2.out]) rfl ⟨?_, ?_⟩
      · unfold onePost; rw [hV.out]; exact ⟨_, _, _, _, rfl, fun _ => ⟨rfl, rfl, rfl, rfl⟩⟩
      · exact (Below.refl _ w).alloc (Nat.le_refl _) _
  · have h2' : ¬ (p : Int) + 1 < (s.size : Int) := by omega
    have hge : ¬ (p : Int) + 2 ≤ (s.size : Int) := by omega
    have hah : Hid (aheadN (bytesFrom s p) = if q1 = true then 1 else 0) := by
      rw [Hid, hfr.out, from_end s (p + 1) (by omega)]
      unfold aheadN
      rw [long1, if_neg (by decide)]
      simp only [firstN]
      rw [hpu.out, hq1.out]
    cases q1
    · have hV : Hid (nextR s p = ⟨0, ⟨#[]⟩, 0, 0, p, 1⟩) := by rw [Hid, hnext.out, if_neg (by decide)]
      go_enter Tryd.func70, Tryd.ntmps70
      go_wp2_with (first
        | (go_at_call 84; refine (Hletter.out _).mono ?_; rintro e w' ⟨rfl, rfl⟩)
        | (go_at_call 85; refine (Hdigit.out _).mono ?_; rintro e w' ⟨rfl, rfl⟩)
        | (go_at_call 88; rw [← hX1.out]; (with_reducible refine (HS1.out _).mono ?_); rintro e w' ⟨rfl, rfl⟩))
      refine bodyPost_ret (v := .tuple #[.agg #[.int .u8 0, .string ⟨#[]⟩, .int .i64 0, .int .i64 0], .int .i64 1, .int .i64 p]) (by simp [results, Tryd.results70, go_sem]) rfl ⟨?_, ?_⟩
      · unfold onePost; rw [hV.out]; exact ⟨_, _, _, _, rfl, fun h => by cases h⟩
      · exact (Below.refl _ w).alloc (Nat.le_refl _) _
    · have hV : Hid (nextR s p = ⟨4, X1, 0, p, 0, 0⟩) := by
        rw [Hid, hnext.out, if_pos rfl]; unfold signR signX
        rw [hah.out, if_pos rfl]
        rw [extract_two s p 1 (by omega), ← hX1.out]
      go_enter Tryd.func70, Tryd.ntmps70
      go_wp2_with (first
        | (go_at_call 84; refine (Hletter.out _).mono ?_; rintro e w' ⟨rfl, rfl⟩)
        | (go_at_call 85; refine (Hdigit.out _).mono ?_; rintro e w' ⟨rfl, rfl⟩)
        | (go_at_call 88; rw [← hX1.out]; (with_reducible refine (HS1.out _).mono ?_); rintro e w' ⟨rfl, rfl⟩))
      refine bodyPost_ret (v := .tuple #[.agg #[.int .u8 4, .string X1, .int .i64 0, .int .i64 p], .int .i64 0, .int .i64 0]) (by simp [results, Tryd.results70, go_sem, hX1.out]) rfl ⟨?_, ?_⟩
      · unfold onePost; rw [hV.out]; exact ⟨_, _, _, _, rfl, fun _ => ⟨rfl, rfl, rfl, rfl⟩⟩
      · exact (Below.refl _ w).alloc (Nat.le_refl _) _
theorem one_any (s : ByteArray) (hs : s.size ≤ 281474976710656) (p : Nat) (hp : p < s.size) (w : World) :
    Calls Tryd.prog 70 #[.string s, .int .i64 p] w fun e w' => onePost s p e ∧ Below w.heap.size w w' := by
  cases h0 : letterB (PlainAid.bt s p) with
  | true => exact one_letter s hs p hp w h0
  | false =>
    cases h1 : digitB (PlainAid.bt s p) with
    | true => exact one_digit s hs p hp w h0 h1
    | false => exact one_sign s hs p hp w h0 h1
end Go.Proofs.YtgaibdipecngkaaDoor

namespace Go.Proofs.YtgaibdipecngkaaDoor
open Go.RowKit
set_option linter.unusedVariables false

theorem nextR_fr (s : ByteArray) (p : Nat) : 0 ≤ (nextR s p).fr := by
  unfold nextR
  split
  · unfold nameR
    split
    · simp
    · split <;> simp
  · split
    · unfold numR
      cases valueO (numX s p).data.toList with
      | none => simp [numC]
      | some v => simp only [numC]; split <;> simp
    · split
      · simp [signR]
      · simp
theorem own_lt {W : World} {base : Nat} {e : TypeId} {size : Nat} {v : Value} {k : Nat} {xs : List Value} (h : W.ownsRow base e size v k xs) {n : Nat} (hn : W.heap.size ≤ n) : some n ≠ v.ownBlock := by
  rcases h.2 with ⟨rfl, _⟩ | ⟨g, cap, cur, rfl, _, hg, _⟩
  · simp [Value.ownBlock]
  · intro e
    have h1 : g = n := by simpa [Value.ownBlock] using e.symm
    have := (Array.getElem?_eq_some_iff.1 hg).1
    omega
def frontPost (s : ByteArray) (n₀ : Nat) (W : World) (e : Ending) : Prop :=
  ∃ v, e = .returned (.tuple #[v, .int .i64 (frontR s).2.2, .int .i64 (frontR s).2.1]) ∧ W.ownsRow n₀ 69 4 v (frontR s).1.length (rowR (frontR s).1) ∧ (v = .slice none 0 0 ↔ (frontR s).1 = [])
theorem goH_at (s : ByteArray) (f q : Nat) : (goH s f q).2.2 = 0 → (goH s f q).2.1 = 0 ∨ True := fun _ => .inr trivial
set_option maxRecDepth 100000 in
set_option maxHeartbeats 8000000 in
theorem front_any (s : ByteArray) (hs : s.size ≤ 3000000000000) (w : World) :
    Calls Tryd.prog 44 #[.string s] w fun e w' => frontPost s w.heap.size w' e ∧ Below w.heap.size w w' := by
  obtain ⟨i0, hi, hz0, hz1, hz2⟩ := info_parts infoTok
  have HK0 : Hid (∀ W : World, Calls Tryd.prog 69 #[.string s, .int .i64 0] W fun e w' => e = .returned (.int .i64 ((passN (bytesFrom s 0) : Nat) : Int)) ∧ W = w') := fun W => by
    have k := skip_any s (by omega) 0 (Nat.zero_le _) W
    rw [Nat.zero_add] at k
    exact k
  go_enter Tryd.func44, Tryd.ntmps44
  go_wp2_with (go_at_call 69; refine (HK0.out _).mono ?_; rintro e w' ⟨rfl, rfl⟩)
  clear HK0
  go_loopw [2, 3, 4, 5, 6, 7, 8, 9] (fun _ _ _ v i _ _ _ wr => ∃ (pre : List Res) (k f : Nat), k ≤ s.size ∧ s.size < f + k ∧ pre.length ≤ k ∧ i = .int .i64 k ∧ wr.ownsRow w.heap.size 69 4 v pre.length (rowR pre) ∧ (v = .slice none 0 0 ↔ pre = []) ∧ Hid (Below w.heap.size w wr) ∧ Hid ((frontR s).1 = pre ++ (goH s f k).1 ∧ (frontR s).2 = (goH s f k).2)) (fun _ _ _ _ i _ _ _ _ => s.size - (intOf i).toNat)
  case atStart =>
    refine ⟨[], passN (bytesFrom s 0), s.size + 1, ?_, by omega, Nat.zero_le _, rfl, World.ownsRow_nil _ _ _ _, by simp, Below.refl _ _, ⟨rfl, rfl⟩⟩
    have := passN_le _ (bytesFrom s 0) (Nat.le_refl _)
    rw [from_len] at this
    omega
  case round =>
    obtain ⟨pre, k, f, hk, hf, hpk, rfl, hrow, hnil, hB, hfr⟩ := hrel
    by_cases hlt : k < s.size
    · have hlt' : (k : Int) < (s.size : Int) := by omega
      have HROW := Lib.hid hrow
      have HNIL := Lib.hid hnil
      clear hrow hnil
      obtain ⟨f, rfl⟩ : ∃ f', f = f' + 1 := ⟨f - 1, by omega⟩
      have H1 : Hid (∀ W : World, Calls Tryd.prog 70 #[.string s, .int .i64 k] W fun e w' => onePost s k e ∧ Below W.heap.size W w') := fun W => one_any s (by omega) k hlt W
      obtain ⟨R, hR⟩ : ∃ R, Hid (R = nextR s k) := ⟨_, rfl⟩
      have hfr0 := nextR_fr s k
      have hgd := fun h => nextR_good s k hlt h
      rw [← hR.out] at hfr0 hgd
      by_cases hr : R.fr = 0
      · obtain ⟨g1, g2, g3⟩ := hgd hr
        have hg := Lib.hid (goH_tok (f := f) hlt (by rw [← hR.out]; exact hr))
        obtain ⟨rk, rx, rw0, rp, ra, rr⟩ := R
        have hr' : rr = 0 := hr
        subst hr'
        have q1 : 0 < rx.size := g1
        have q2 : k + rx.size ≤ s.size := g2
        clear g1 g2 g3 hgd hfr0 hr
        have hnx : Hid (nx s k = k + rx.size + passN (bytesFrom s (k + rx.size))) := by
          unfold nx
          rw [Hid, ← hR.out]
        have hnx2 : Hid (nx s k ≤ s.size) := by
          have := passN_le _ (bytesFrom s (k + rx.size)) (Nat.le_refl _)
          rw [from_len] at this
          rw [Hid, hnx.out]
          omega
        have hnx3 : Hid (k + rx.size ≤ nx s k) := by rw [Hid, hnx.out]; omega
        have H2 : Hid (∀ W : World, Calls Tryd.prog 70 #[.string s, .int .i64 k] W fun e w' => e = .returned (.tuple #[.agg #[.int .u8 rk, .string rx, .int .i64 rw0, .int .i64 rp], .int .i64 0, .int .i64 ra]) ∧ Below W.heap.size W w') := fun W => by
          refine (H1.out W).mono ?_
          rintro e w' ⟨⟨a, b, c, d, rfl, h⟩, hb⟩
          rw [← hR.out] at h
          obtain ⟨rfl, rfl, rfl, rfl⟩ := h rfl
          rw [← hR.out]
          exact ⟨rfl, hb⟩
        have H3 : Hid (∀ W : World, Calls Tryd.prog 69 #[.string s, .int .i64 ((k : Int) + (rx.size : Int))] W fun e w' => e = .returned (.int .i64 ((nx s k : Nat) : Int)) ∧ W = w') := fun W => by
          have q := skip_any s (by omega) (k + rx.size) q2 W
          rw [← hnx.out, Int.natCast_add] at q
          exact q
        clear H1
        go_wp2_with (first
          | (go_at_call 70; refine (H2.out _).mono ?_; rintro e w1 ⟨rfl, hb1⟩; have HB1 := Lib.hid hb1; clear hb1)
          | (go_at_call 69; refine (H3.out _).mono ?_; rintro e w' ⟨rfl, rfl⟩)
          | (at_builtin; refine wpList_append_own _ rfl _ _ 44 rfl w.heap.size 69 i0 _ 4 40 Tryd.underlying44 hi hz0 hz1 hz2 rfl (by decide) u5 _ _ rfl (ownsRow_keep HROW.out (sel := fun _ _ => True) (((Keep.of_below HB1.out).alloc _).alloc _) (fun _ _ _ => trivial)) ⟨w1.heap.size + 1, 0, none⟩ 1 1 [.int .u8 rk, .string rx, .int .i64 rw0, .int .i64 rp] rfl rfl (fun j u hj => cell_four (heap_alloc2_new w1 _ _) j u hj) (by simp [Value.oneCell']) (by simp only [maxLen]; omega) (by omega) (by have := hB.out.size; have := HB1.out.size; simp; omega) ?_; intro v' w2 hown' hgrow _; obtain ⟨g', cap', rfl⟩ := ownsRow_succ hown'; have HO := Lib.hid hown'; have HG := Lib.hid hgrow; have hcell : w2.cell? ⟨w1.heap.size, 1, none⟩ = some (.string rx) := (World.cell?_of_block (hgrow.block _ (by simp; omega) (own_lt HROW.out HB1.out.size))).trans (cell_of_row _ _ 1 _ _ _ (heap_alloc2_old w1 _ _)); clear hown' hgrow))
        have hw2 : Hid (Below w.heap.size w w2) := by
          have z1 := hB.out.size
          have z2 := HB1.out.size
          refine (((hB.out.trans (HB1.out.mono z1)).alloc (by omega) _).alloc (by simp; omega) _).grown HG.out (by simp; omega) (fun r er => ?_)
          rcases HROW.out.2 with ⟨rfl, _⟩ | ⟨g, cap, cur, rfl, hb, _, _⟩
          · simp [Value.ownBlock] at er
          · obtain rfl : g = r := by simpa [Value.ownBlock] using er
            exact hb
        go_roundw
        case rel => exact ⟨pre ++ [nextR s k], nx s k, f, hnx2.out, by have := hnx3.out; omega, by have := hnx3.out; simp; omega, rfl, by rw [rowR_snoc, List.length_append, ← hR.out]; exact HO.out, by simp, hw2, by rw [Hid, hfr.out.1, hfr.out.2, hg.out]; simp⟩
        case measure =>
          have := hnx2.out
          have := hnx3.out
          simp [intOf]; omega
      · have hgt : 0 < R.fr := by omega
        have hg := Lib.hid (goH_fault (f := f) hlt (by rw [← hR.out]; exact hr))
        have H2 : Hid (∀ W : World, Calls Tryd.prog 70 #[.string s, .int .i64 k] W fun e w' => (∃ a b c d, e = .returned (.tuple #[.agg #[.int .u8 a, .string b, .int .i64 c, .int .i64 d], .int .i64 R.fr, .int .i64 R.fa])) ∧ Below W.heap.size W w') := fun W => by
          refine (H1.out W).mono ?_
          rintro e w' ⟨⟨a, b, c, d, rfl, h⟩, hb⟩
          rw [← hR.out]
          exact ⟨⟨a, b, c, d, rfl⟩, hb⟩
        obtain ⟨ra, hra⟩ : ∃ x, Hid (x = R.fa) := ⟨_, rfl⟩
        obtain ⟨rr, hrr⟩ : ∃ x, Hid (x = R.fr) := ⟨_, rfl⟩
        rw [← hra.out, ← hrr.out] at H2
        rw [← hrr.out] at hgt
        clear H1 hgd hfr0 hr
        go_wp2_with (go_at_call 70; refine (H2.out _).mono ?_; rintro e w1 ⟨⟨ta, tb, tc, td, rfl⟩, hb1⟩; have HB1 := Lib.hid hb1; clear hb1)
        have f1 : (frontR s).1 = pre := by rw [hfr.out.1, hg.out, List.append_nil]
        have f2 : (frontR s).2.1 = ra := by rw [hfr.out.2, hg.out, hra.out, hR.out]
        have f3 : (frontR s).2.2 = rr := by rw [hfr.out.2, hg.out, hrr.out, hR.out]
        have z1 := hB.out.size
        have z2 := HB1.out.size
        refine bodyPost_ret (v := .tuple #[u5, .int .i64 rr, .int .i64 ra]) (by simp [results, Tryd.results44, go_sem]) rfl ⟨?_, ?_⟩
        · refine ⟨u5, by rw [f2, f3], ?_, ?_⟩
          · rw [f1]; exact ownsRow_keep HROW.out (sel := fun _ _ => True) ((Keep.of_below HB1.out).alloc _) (fun _ _ _ => trivial)
          · rw [f1]; exact HNIL.out
        · exact (hB.out.trans (HB1.out.mono z1)).alloc (by omega) _
    · have hlt' : ¬ (k : Int) < (s.size : Int) := by omega
      have hg := Lib.hid (goH_end (f := f) hlt)
      have HROW := Lib.hid hrow
      have HNIL := Lib.hid hnil
      clear hrow hnil
      go_wp2_with fail
      have f1 : (frontR s).1 = pre := by rw [hfr.out.1, hg.out, List.append_nil]
      have f2 : (frontR s).2.1 = 0 := by rw [hfr.out.2, hg.out]
      have f3 : (frontR s).2.2 = 0 := by rw [hfr.out.2, hg.out]
      refine bodyPost_ret (v := .tuple #[u5, .int .i64 0, .int .i64 0]) (by simp [results, Tryd.results44, go_sem]) rfl ⟨?_, hB.out⟩
      refine ⟨u5, by rw [f2, f3], ?_, ?_⟩
      · rw [f1]; exact HROW.out
      · rw [f1]; exact HNIL.out
end Go.Proofs.YtgaibdipecngkaaDoor

namespace Go.Proofs.YtgaibdipecngkaaDoor
open Go.RowKit
set_option linter.unusedVariables false

/-- How many bytes are gone over: of blanks, or within a remark. -/
def sk : Bool → List UInt8 → Nat
  | _, [] => 0
  | true, c :: r => if c = 10 then 1 + sk false r else 1 + sk true r
  | false, c :: r => if blankB (c.toNat : Int) = true then 1 + sk false r else if c = 47 ∧ r.head? = some 47 then 1 + sk true r else 0
theorem feed_not {c : UInt8} (h : ¬ c = 10) : feedB (c.toNat : Int) = true := by
  unfold feedB
  exact b_t (fun e => h (u8_int.1 (by simpa using e)))
theorem feed_no : feedB ((10 : UInt8).toNat : Int) = false := by decide
theorem sk_true : ∀ l : List UInt8, sk true l = spanN feedB l + sk false (l.drop (spanN feedB l))
  | [] => rfl
  | c :: r => by
    have k := sk_true r
    by_cases hc : c = 10
    · subst hc
      have e : spanN feedB (10 :: r) = 0 := by simp only [spanN]; rw [if_neg (by rw [feed_no]; decide)]
      rw [e, List.drop_zero]
      have hb : blankB ((10 : UInt8).toNat : Int) = true := by decide
      simp only [sk]
      rw [if_pos hb]
      simp
    · have e : spanN feedB (c :: r) = spanN feedB r + 1 := by simp only [spanN]; rw [if_pos (feed_not hc)]
      rw [e, List.drop_succ_cons]
      simp only [sk]
      rw [if_neg hc]
      omega
theorem pass_sk : ∀ (n : Nat) (l : List UInt8), l.length ≤ n → passN l = sk false l
  | _, [], _ => rfl
  | 0, c :: r, h => by simp at h
  | n + 1, c :: r, h => by
    simp only [List.length_cons] at h
    by_cases hb : blankB (c.toNat : Int) = true
    · rw [pass_cons c r hb, pass_sk n r (by omega)]
      simp only [sk]
      rw [if_pos hb]
    · have hb' : blankB (c.toNat : Int) = false := by simpa using hb
      by_cases hp : Lib.hasPrefix (c :: r) slashes = true
      · have hc : c = 47 ∧ r.head? = some 47 := by
          cases r with
          | nil => rw [prefix_one] at hp; cases hp
          | cons d r => rw [prefix_two] at hp; simpa using hp
        have h10 : ¬ c = 10 := by rw [hc.1]; decide
        have e1 : spanN feedB (c :: r) = spanN feedB r + 1 := by simp only [spanN]; rw [if_pos (feed_not h10)]
        rw [pass_remark hp, pass_sk n _ (by rw [e1]; simp; omega), ← sk_true]
        simp only [sk]
        rw [if_neg h10, if_neg hb, if_pos hc]
      · have hp' : Lib.hasPrefix (c :: r) slashes = false := by simpa using hp
        rw [pass_none rfl hp' hb']
        simp only [sk]
        rw [if_neg hb, if_neg]
        rintro ⟨h1, h2⟩
        cases r with
        | nil => cases h2
        | cons d r =>
          have : d = 47 := by simpa using h2
          rw [h1, this, prefix_two] at hp'
          revert hp'; decide
theorem passN_sk (l : List UInt8) : passN l = sk false l := pass_sk _ l (Nat.le_refl _)
theorem sk_le : ∀ (b : Bool) (l : List UInt8), sk b l ≤ l.length
  | b, [] => by cases b <;> exact Nat.le_refl _
  | true, c :: r => by
    have := sk_le true r
    have := sk_le false r
    simp only [sk, List.length_cons]; split <;> omega
  | false, c :: r => by
    have := sk_le true r
    have := sk_le false r
    simp only [sk, List.length_cons]; split <;> (try split) <;> omega
/-- Where the going stops within a text, it stops whatever stands behind (but for a stroke). -/
theorem sk_in : ∀ (b : Bool) (p X Y : List UInt8), sk b (p ++ X) < p.length → ¬ Y.head? = some 47 → sk b (p ++ Y) = sk b (p ++ X)
  | _, [], _, _, h, _ => by simp at h
  | true, c :: p, X, Y, h, hy => by
    simp only [List.cons_append, sk, List.length_cons] at h ⊢
    split
    · rename_i hc; rw [if_pos hc] at h; rw [sk_in false p X Y (by omega) hy]
    · rename_i hc; rw [if_neg hc] at h; rw [sk_in true p X Y (by omega) hy]
  | false, c :: p, X, Y, h, hy => by
    simp only [List.cons_append, sk, List.length_cons] at h ⊢
    by_cases hb : blankB (c.toNat : Int) = true
    · rw [if_pos hb] at h; rw [if_pos hb, if_pos hb, sk_in false p X Y (by omega) hy]
    · rw [if_neg hb] at h; rw [if_neg hb, if_neg hb]
      cases p with
      | nil =>
        simp only [List.nil_append, List.length_nil] at h ⊢
        by_cases h1 : c = 47 ∧ X.head? = some 47
        · rw [if_pos h1] at h; omega
        · rw [if_neg h1, if_neg (fun h2 => hy h2.2)]
      | cons d p =>
        have k : ∀ Z, (c = 47 ∧ (d :: p ++ Z).head? = some 47) ↔ (c = 47 ∧ d = 47) := fun Z => by simp
        by_cases h1 : c = 47 ∧ d = 47
        · rw [if_pos ((k X).2 h1)] at h
          rw [if_pos ((k X).2 h1), if_pos ((k Y).2 h1)]
          rw [sk_in true (d :: p) X Y (by omega) hy]
        · rw [if_neg (fun h2 => h1 ((k X).1 h2)), if_neg (fun h2 => h1 ((k Y).1 h2))]
/-- A text that is gone over whole, and no more: so it is whatever stands behind. -/
theorem sk_over : ∀ (b : Bool) (p X : List UInt8), sk b (p ++ X) = p.length → ∃ b', sk b' X = 0 ∧ ∀ Y, sk b (p ++ Y) = p.length + sk b' Y
  | b, [], X, h => ⟨b, by simpa using h, fun Y => by simp⟩
  | true, c :: p, X, h => by
    simp only [List.cons_append, sk, List.length_cons] at h ⊢
    by_cases hc : c = 10
    · rw [if_pos hc] at h
      obtain ⟨b', h1, h2⟩ := sk_over false p X (by omega)
      exact ⟨b', h1, fun Y => by rw [if_pos hc, h2 Y]; omega⟩
    · rw [if_neg hc] at h
      obtain ⟨b', h1, h2⟩ := sk_over true p X (by omega)
      exact ⟨b', h1, fun Y => by rw [if_neg hc, h2 Y]; omega⟩
  | false, c :: p, X, h => by
    simp only [List.cons_append, sk, List.length_cons] at h ⊢
    by_cases hb : blankB (c.toNat : Int) = true
    · rw [if_pos hb] at h
      obtain ⟨b', h1, h2⟩ := sk_over false p X (by omega)
      exact ⟨b', h1, fun Y => by rw [if_pos hb, h2 Y]; omega⟩
    · rw [if_neg hb] at h
      by_cases h1 : c = 47 ∧ (p ++ X).head? = some 47
      · rw [if_pos h1] at h
        obtain ⟨b', h2, h3⟩ := sk_over true p X (by omega)
        cases p with
        | nil =>
          exfalso
          cases X with
          | nil => simp at h1
          | cons x X =>
            have e : x = 47 := by simpa using h1.2
            subst e
            simp [sk] at h
        | cons d p =>
          refine ⟨b', h2, fun Y => ?_⟩
          have k : ∀ Z, (c = 47 ∧ (d :: p ++ Z).head? = some 47) ↔ (c = 47 ∧ d = 47) := fun Z => by simp
          rw [if_neg hb, if_pos ((k Y).2 ((k X).1 h1)), h3 Y]; omega
      · rw [if_neg h1] at h; omega
/-- The token at a text's beginning: its kind, its length, its word; or the fault. -/
structure Nx where
  kind : Int
  n : Nat
  wd : Int
  fa : Nat
  fr : Int
def letterH : List UInt8 → Bool
  | [] => false
  | c :: _ => letterB (c.toNat : Int)
def nameL (l : List UInt8) : Nx :=
  if wordL (l.take (spanN namedB l)) = true then ⟨2, spanN namedB l, 0, 0, 0⟩ else if 32 < spanN namedB l then ⟨0, 0, 0, 32, 2⟩ else ⟨1, spanN namedB l, 0, 0, 0⟩
def numK (n : Nat) (b : Bool) : Option Int → Nx
  | none => ⟨0, 0, 0, 0, 3⟩
  | some v => if b = true then ⟨0, 0, 0, n, 4⟩ else ⟨3, n, v, 0, 0⟩
def numL (l : List UInt8) : Nx := numK (spanN digitB l) (letterH (l.drop (spanN digitB l))) (valueO (l.take (spanN digitB l)))
def nextL : List UInt8 → Nx
  | [] => ⟨0, 0, 0, 0, 1⟩
  | c :: r => if letterB (c.toNat : Int) = true then nameL (c :: r) else if digitB (c.toNat : Int) = true then numL (c :: r) else if signB (c.toNat : Int) = true then ⟨4, aheadN (c :: r), 0, 0, 0⟩ else ⟨0, 0, 0, 0, 1⟩
def toRes (q : Nat) (l : List UInt8) (x : Nx) : Res := if x.fr = 0 then ⟨x.kind, ⟨(l.take x.n).toArray⟩, x.wd, q, 0, 0⟩ else ⟨0, ⟨#[]⟩, 0, 0, ((q + x.fa : Nat) : Int), x.fr⟩
theorem cut_list (s : ByteArray) (q n : Nat) : (s.extract q s.size).extract 0 n = ⟨((bytesFrom s q).take n).toArray⟩ := by
  apply ByteArray.ext
  apply Array.ext'
  rw [Lib.extract_data, tail_list]
  simp
theorem behind_list (s : ByteArray) (q : Nat) : behindB s q = letterH ((bytesFrom s q).drop (spanN digitB (bytesFrom s q))) := by
  unfold behindB
  rw [from_drop]
  by_cases h : q + spanN digitB (bytesFrom s q) < s.size
  · rw [from_at s _ h, decide_eq_true h, Bool.true_and, ← bt_byte s _ h]; rfl
  · rw [decide_eq_false h, Bool.false_and, from_end s _ (by omega)]; rfl
theorem nextR_list (s : ByteArray) (q : Nat) (hq : q < s.size) : nextR s q = toRes q (bytesFrom s q) (nextL (bytesFrom s q)) := by
  have hl := from_len s q
  have hle := spanN_le namedB (bytesFrom s q)
  have e : nextL (bytesFrom s q) = if letterB (PlainAid.bt s q) = true then nameL (bytesFrom s q) else if digitB (PlainAid.bt s q) = true then numL (bytesFrom s q) else if signB (PlainAid.bt s q) = true then ⟨4, aheadN (bytesFrom s q), 0, 0, 0⟩ else ⟨0, 0, 0, 0, 1⟩ := by
    rw [← bt_byte s q hq, from_at s q hq]; rfl
  rw [e]
  unfold nextR
  split
  · have hz : (nameX s q).size = spanN namedB (bytesFrom s q) := extract_size s q _ (by omega) (by omega)
    have hx : nameX s q = ⟨((bytesFrom s q).take (spanN namedB (bytesFrom s q))).toArray⟩ := cut_list s q _
    unfold nameR nameL
    rw [wordB_list, Lib.toList_data, hz, hx]
    by_cases h1 : wordL ((bytesFrom s q).take (spanN namedB (bytesFrom s q))) = true
    · rw [if_pos h1, if_pos h1]; rfl
    · rw [if_neg h1, if_neg h1]
      by_cases h2 : 32 < spanN namedB (bytesFrom s q)
      · rw [if_pos h2, if_pos h2]; rfl
      · rw [if_neg h2, if_neg h2]; rfl
  · split
    · have hx : numX s q = ⟨((bytesFrom s q).take (spanN digitB (bytesFrom s q))).toArray⟩ := cut_list s q _
      unfold numR numL
      rw [← behind_list, hx]
      cases hv : valueO ((bytesFrom s q).take (spanN digitB (bytesFrom s q))) with
      | none => rfl
      | some v =>
        simp only [numC, numK]
        by_cases hb : behindB s q = true
        · rw [if_pos hb, if_pos hb]; rfl
        · rw [if_neg hb, if_neg hb]; rfl
    · split
      · have hx : signX s q = ⟨((bytesFrom s q).take (aheadN (bytesFrom s q))).toArray⟩ := cut_list s q _
        unfold signR
        rw [hx]; rfl
      · rfl
theorem ahead_pos {c : UInt8} {r : List UInt8} (h : signB (c.toNat : Int) = true) : 0 < aheadN (c :: r) := by
  unfold aheadN
  split
  · omega
  · simp only [firstN]; rw [if_pos h]; omega
/-- A token has a byte at least, and stands within its text. -/
theorem nextL_good (l : List UInt8) (h : (nextL l).fr = 0) : 0 < (nextL l).n ∧ (nextL l).n ≤ l.length := by
  cases l with
  | nil => simp [nextL] at h
  | cons c r =>
    simp only [nextL] at h ⊢
    split at h
    · rename_i h0
      rw [if_pos h0]
      have hp : 0 < spanN namedB (c :: r) := span_pos (by unfold namedB; rw [h0]; rfl)
      have hl := spanN_le namedB (c :: r)
      unfold nameL at h ⊢
      split
      · exact ⟨hp, hl⟩
      · rename_i hw
        rw [if_neg hw] at h
        split
        · rename_i h3; rw [if_pos h3] at h; simp at h
        · exact ⟨hp, hl⟩
    · rename_i h0
      rw [if_neg h0]
      split at h
      · rename_i h1
        rw [if_pos h1]
        have hp : 0 < spanN digitB (c :: r) := span_pos h1
        have hl := spanN_le digitB (c :: r)
        unfold numL at h ⊢
        cases hv : valueO ((c :: r).take (spanN digitB (c :: r))) with
        | none => rw [hv] at h; simp [numK] at h
        | some v =>
          rw [hv] at h
          simp only [numK] at h ⊢
          split
          · rename_i hb; rw [if_pos hb] at h; simp at h
          · exact ⟨hp, hl⟩
      · rename_i h1
        rw [if_neg h1]
        split at h
        · rename_i h2
          rw [if_pos h2]
          exact ⟨ahead_pos h2, ahead_le _⟩
        · simp at h
/-- The tokens of a text that begins with one, from a place on, up to the first fault; and that. -/
def goL : Nat → Nat → List UInt8 → List Res × Int × Int
  | 0, _, _ => ([], 0, 0)
  | f + 1, q, l => if l = [] then ([], 0, 0) else if (nextL l).fr = 0 then
      (toRes q l (nextL l) :: (goL f (q + (nextL l).n + sk false (l.drop (nextL l).n)) ((l.drop (nextL l).n).drop (sk false (l.drop (nextL l).n)))).1, (goL f (q + (nextL l).n + sk false (l.drop (nextL l).n)) ((l.drop (nextL l).n).drop (sk false (l.drop (nextL l).n)))).2)
    else ([], ((q + (nextL l).fa : Nat) : Int), (nextL l).fr)
theorem toRes_fr (q : Nat) (l : List UInt8) : (toRes q l (nextL l)).fr = (nextL l).fr := by
  unfold toRes; split
  · rename_i h; exact h.symm
  · rfl
theorem goH_list (s : ByteArray) : ∀ (f q : Nat), goH s f q = goL f q (bytesFrom s q)
  | 0, q => rfl
  | f + 1, q => by
    by_cases hq : q < s.size
    · have hne : ¬ bytesFrom s q = [] := by rw [from_at s q hq]; simp
      have hR := nextR_list s q hq
      simp only [goL]
      rw [if_neg hne]
      by_cases hf : (nextL (bytesFrom s q)).fr = 0
      · have hf' : (nextR s q).fr = 0 := by rw [hR, toRes_fr]; exact hf
        obtain ⟨_, g2⟩ := nextL_good _ hf
        have hz : (nextR s q).text.size = (nextL (bytesFrom s q)).n := by
          rw [hR]; unfold toRes; rw [if_pos hf]
          show (((bytesFrom s q).take _).toArray).size = _
          simp; omega
        have e : nx s q = q + (nextL (bytesFrom s q)).n + sk false ((bytesFrom s q).drop (nextL (bytesFrom s q)).n) := by
          unfold nx; rw [hz, passN_sk, from_drop]
        rw [goH_tok hq hf', if_pos hf, goH_list s f (nx s q), ← hR, e, from_drop, from_drop]
      · have hf' : ¬ (nextR s q).fr = 0 := by rw [hR, toRes_fr]; exact hf
        rw [goH_fault hq hf', if_neg hf, hR]
        unfold toRes
        rw [if_neg hf]
    · rw [goH_end hq, from_end s q (by omega)]
      simp [goL]
theorem goL_more : ∀ (f g q : Nat) (l : List UInt8), l.length < f → l.length < g → goL f q l = goL g q l
  | 0, _, _, _, h, _ => absurd h (Nat.not_lt_zero _)
  | _, 0, _, _, _, h => absurd h (Nat.not_lt_zero _)
  | f + 1, g + 1, q, l, hf, hg => by
    simp only [goL]
    by_cases h0 : l = []
    · rw [if_pos h0, if_pos h0]
    · rw [if_neg h0, if_neg h0]
      by_cases h1 : (nextL l).fr = 0
      · obtain ⟨g1, g2⟩ := nextL_good _ h1
        rw [if_pos h1, if_pos h1, goL_more f g _ _ (by simp; omega) (by simp; omega)]
      · rw [if_neg h1, if_neg h1]
def lexL (q : Nat) (l : List UInt8) : List Res × Int × Int := goL (l.length + 1) q l
theorem lexL_nil (q : Nat) : lexL q [] = ([], 0, 0) := rfl
theorem lexL_fault {q : Nat} {l : List UInt8} (h0 : ¬ l = []) (h : ¬ (nextL l).fr = 0) : lexL q l = ([], ((q + (nextL l).fa : Nat) : Int), (nextL l).fr) := by
  unfold lexL; simp only [goL]; rw [if_neg h0, if_neg h]
theorem lexL_tok {q : Nat} {l : List UInt8} (h : (nextL l).fr = 0) : lexL q l = (toRes q l (nextL l) :: (lexL (q + (nextL l).n + sk false (l.drop (nextL l).n)) ((l.drop (nextL l).n).drop (sk false (l.drop (nextL l).n)))).1, (lexL (q + (nextL l).n + sk false (l.drop (nextL l).n)) ((l.drop (nextL l).n).drop (sk false (l.drop (nextL l).n)))).2) := by
  obtain ⟨g1, g2⟩ := nextL_good _ h
  have h0 : ¬ l = [] := by rintro rfl; simp at g2; omega
  unfold lexL
  conv => lhs; simp only [goL]
  rw [if_neg h0, if_pos h, goL_more l.length _ _ _ (by simp; omega) (Nat.lt_succ_self _)]
theorem goL_clean : ∀ (f q : Nat) (l : List UInt8), (goL f q l).2.2 = 0 → (goL f q l).2.1 = 0
  | 0, _, _, _ => rfl
  | f + 1, q, l, h => by
    simp only [goL] at h ⊢
    split
    · rfl
    · rename_i h0
      rw [if_neg h0] at h
      split
      · rename_i h1
        rw [if_pos h1] at h
        exact goL_clean f _ _ h
      · rename_i h1
        rw [if_neg h1] at h
        exact absurd h h1
/-- The tokens of a text from a place on, blanks and remarks ahead; the first fault. -/
def restL (e : Nat) (l : List UInt8) : List Res × Int × Int := lexL (e + sk false l) (l.drop (sk false l))
theorem front_list (s : ByteArray) : frontR s = restL 0 s.data.toList := by
  unfold frontR restL lexL
  have hz : s.size = s.data.toList.length := by simp
  rw [passN_sk, from_nought, goH_list, Nat.zero_add]
  have e : bytesFrom s (sk false s.data.toList) = s.data.toList.drop (sk false s.data.toList) := rfl
  rw [e]
  exact goL_more _ _ _ _ (by rw [List.length_drop]; omega) (Nat.lt_succ_self _)
theorem rest_nil {e : Nat} {l : List UInt8} (h : l.drop (sk false l) = []) : restL e l = ([], 0, 0) := by
  unfold restL; rw [h]; rfl
theorem rest_fault {e : Nat} {l m : List UInt8} (hm : l.drop (sk false l) = m) (h0 : ¬ m = []) (h : ¬ (nextL m).fr = 0) : restL e l = ([], ((e + sk false l + (nextL m).fa : Nat) : Int), (nextL m).fr) := by
  unfold restL; rw [hm, lexL_fault h0 h]
theorem rest_tok {e : Nat} {l m : List UInt8} (hm : l.drop (sk false l) = m) (h : (nextL m).fr = 0) : restL e l = (toRes (e + sk false l) m (nextL m) :: (restL (e + sk false l + (nextL m).n) (m.drop (nextL m).n)).1, (restL (e + sk false l + (nextL m).n) (m.drop (nextL m).n)).2) := by
  unfold restL; rw [hm, lexL_tok h]
end Go.Proofs.YtgaibdipecngkaaDoor

namespace Go.Proofs.YtgaibdipecngkaaDoor
open Go.RowKit
set_option linter.unusedVariables false

theorem ownsRow_base {W : World} {base base' : Nat} {e : TypeId} {size : Nat} {v : Value} {k : Nat} {xs : List Value} (h : W.ownsRow base e size v k xs) (hb : base' ≤ base) : W.ownsRow base' e size v k xs := by
  refine ⟨h.1, ?_⟩
  rcases h.2 with h2 | ⟨g, cap, cur, hv, hg, rest⟩
  · exact .inl h2
  · exact .inr ⟨g, cap, cur, hv, Nat.le_trans hb hg, rest⟩
theorem flt_two {W : World} {n : Nat} (hfb : FltBox W n) (a r : Int) : Keep (fun _ o => IsTy 69 o) W ((W.setCell ⟨n, 0, none⟩ (.int .i64 a)).setCell ⟨n, 1, none⟩ (.int .i64 r)) ∧ ((W.setCell ⟨n, 0, none⟩ (.int .i64 a)).setCell ⟨n, 1, none⟩ (.int .i64 r)).heap[n]? = some (.cells #[.int .i64 a, .int .i64 r] 29 (0, 0)) := by
  have h1 := heap_setCell_same W n 0 _ _ (.int .i64 a) hfb
  exact ⟨((Keep.refl (fun _ o => IsTy 69 o) W).setCell (p := ⟨n, 0, none⟩) _ hfb (not_ty (t := 29) (u := 69) (by decide))).setCell (p := ⟨n, 1, none⟩) _ h1 (not_ty (t := 29) (u := 69) (by decide)), heap_setCell_same _ n 1 _ _ (.int .i64 r) h1⟩
theorem goH_nonneg (s : ByteArray) : ∀ (f q : Nat), 0 ≤ (goH s f q).2.2
  | 0, _ => Int.le_refl _
  | f + 1, q => by
    by_cases hq : q < s.size
    · by_cases hr : (nextR s q).fr = 0
      · rw [goH_tok hq hr]; exact goH_nonneg s f _
      · rw [goH_fault hq hr]; exact nextR_fr s q
    · rw [goH_end hq]; exact Int.le_refl _
set_option maxRecDepth 100000 in
set_option maxHeartbeats 4000000 in
theorem rscan_any (s : ByteArray) (w : World) :
    Calls Tryd.prog 22 #[.string s] w fun e w' => (∃ v, e = .returned v ∧ scanPost s w.heap.size w' v) ∧ Below w.heap.size w w' := by
  by_cases hl : 65536 < s.size
  · have hl' : (65536 : Int) < (s.size : Int) := by omega
    go_enter Tryd.func22, Tryd.ntmps22
    go_wp2
    refine bodyPost_ret (v := .tuple #[.slice none 0 0, .int .i64 4, .agg #[.int .i64 0, .int .i64 0]]) (by simp [results, Tryd.results22, go_sem]) rfl ⟨⟨_, rfl, ?_⟩, (Below.refl _ w).alloc (Nat.le_refl _) _⟩
    unfold scanPost
    rw [if_pos hl]
    rfl
  · have hl' : ¬ (65536 : Int) < (s.size : Int) := by omega
    have hfr0 : 0 ≤ (frontR s).2.2 := goH_nonneg s _ _
    obtain ⟨R, hR⟩ : ∃ R, Hid (R = frontR s) := ⟨_, rfl⟩
    have HF : Hid (∀ W : World, Calls Tryd.prog 44 #[.string s] W fun e w' => (∃ v, e = .returned (.tuple #[v, .int .i64 R.2.2, .int .i64 R.2.1]) ∧ w'.ownsRow W.heap.size 69 4 v R.1.length (rowR R.1) ∧ (v = .slice none 0 0 ↔ R.1 = [])) ∧ Below W.heap.size W w') := fun W => by
      rw [hR.out]; exact front_any s (by omega) W
    rw [← hR.out] at hfr0
    obtain ⟨rxs, ra, rr⟩ := R
    simp only at hfr0 HF
    by_cases hr : rr = 0
    · subst hr
      clear hfr0
      go_enter Tryd.func22, Tryd.ntmps22
      go_wp2_with (go_at_call 44; refine (HF.out _).mono ?_; rintro e w1 ⟨⟨v, rfl, hrow, hnil⟩, hb1⟩; have hfb : Hid (FltBox w1 w.heap.size) := (hb1.block _ (by simp)).trans (World.alloc_heap_new w _); obtain ⟨⟨b0, b1⟩, b2, b3⟩ := row2 hfb.out; have HB1 := Lib.hid hb1; have HROW := Lib.hid hrow; have HNIL := Lib.hid hnil; clear hb1 hrow hnil)
      obtain ⟨k1, k2⟩ := flt_two hfb.out 0 0
      obtain ⟨⟨z0, z1⟩, _⟩ := row2 k2
      refine bodyPost_ret (v := .tuple #[v, .int .i64 0, .agg #[.int .i64 0, .int .i64 0]]) (by simp [results, Tryd.results22, go_sem, z0, z1]) rfl ⟨⟨_, rfl, ?_⟩, ?_⟩
      · unfold scanPost
        rw [if_neg hl, ← hR.out, if_pos rfl]
        exact ⟨v, rfl, ownsRow_base (ownsRow_keep HROW.out k1 (fun g cs _ => ⟨_, _, rfl⟩)) (by simp), HNIL.out⟩
      · exact (((((Below.refl _ w).alloc (Nat.le_refl _) _).trans (HB1.out.mono (by simp))).setCell (p := ⟨w.heap.size, 0, none⟩) (Nat.le_refl _) _).setCell (p := ⟨w.heap.size, 1, none⟩) (Nat.le_refl _) _)
    · have hgt : 0 < rr := by omega
      clear hfr0 hr
      go_enter Tryd.func22, Tryd.ntmps22
      go_wp2_with (go_at_call 44; refine (HF.out _).mono ?_; rintro e w1 ⟨⟨v, rfl, hrow, hnil⟩, hb1⟩; have hfb : Hid (FltBox w1 w.heap.size) := (hb1.block _ (by simp)).trans (World.alloc_heap_new w _); obtain ⟨⟨b0, b1⟩, b2, b3⟩ := row2 hfb.out; have HB1 := Lib.hid hb1; have HROW := Lib.hid hrow; have HNIL := Lib.hid hnil; clear hb1 hrow hnil)
      obtain ⟨k1, k2⟩ := flt_two hfb.out ra rr
      obtain ⟨⟨z0, z1⟩, _⟩ := row2 k2
      refine bodyPost_ret (v := .tuple #[.slice none 0 0, .int .i64 20, .agg #[.int .i64 ra, .int .i64 rr]]) (by simp [results, Tryd.results22, go_sem, z0, z1]) rfl ⟨⟨_, rfl, ?_⟩, ?_⟩
      · unfold scanPost
        rw [if_neg hl, ← hR.out, if_neg (show ¬ rr = 0 by omega)]
        rfl
      · exact (((((Below.refl _ w).alloc (Nat.le_refl _) _).trans (HB1.out.mono (by simp))).setCell (p := ⟨w.heap.size, 0, none⟩) (Nat.le_refl _) _).setCell (p := ⟨w.heap.size, 1, none⟩) (Nat.le_refl _) _)
end Go.Proofs.YtgaibdipecngkaaDoor

namespace Go.Proofs.YtgaibdipecngkaaDoor
open Go.RowKit
set_option linter.unusedVariables false
/-- The value is a list of tokens, in memory. -/
def TokRow (W : World) (v : Value) (xs : List Res) : Prop :=
  ∃ oa cap, v = .slice oa xs.length cap ∧ ∀ (i : Nat) (x : Res), xs[i]? = some x → ∃ g off, oa = some ⟨g, off, none⟩ ∧
    W.cell? ⟨g, off + i * 4, none⟩ = some (.int .u8 x.kind) ∧ W.cell? ⟨g, off + i * 4 + 1, none⟩ = some (.string x.text) ∧ W.cell? ⟨g, off + i * 4 + 2, none⟩ = some (.int .i64 x.wd) ∧ W.cell? ⟨g, off + i * 4 + 3, none⟩ = some (.int .i64 x.place)
/-- What Scan says: tokens, error, fault. -/
def scanX (s : ByteArray) : List Res × Int × Int × Int :=
  if 65536 < s.size then ([], 4, 0, 0) else if (frontR s).2.2 = 0 then ((frontR s).1, 0, 0, 0) else ([], 20, (frontR s).2.1, (frontR s).2.2)
theorem scanPost_row {s : ByteArray} {n₀ : Nat} {W : World} {v : Value} (h : scanPost s n₀ W v) :
    ∃ u, v = .tuple #[u, .int .i64 (scanX s).2.1, .agg #[.int .i64 (scanX s).2.2.1, .int .i64 (scanX s).2.2.2]] ∧ W.ownsRow n₀ 69 4 u (scanX s).1.length (rowR (scanX s).1) ∧ (u = .slice none 0 0 ↔ (scanX s).1 = []) := by
  unfold scanPost at h
  unfold scanX
  split at h
  · rename_i hl
    rw [if_pos hl]
    exact ⟨_, h, World.ownsRow_nil _ _ _ _, by simp⟩
  · rename_i hl
    rw [if_neg hl]
    split at h
    · rename_i hf
      rw [if_pos hf]
      exact h
    · rename_i hf
      rw [if_neg hf]
      exact ⟨_, h, World.ownsRow_nil _ _ _ _, by simp⟩
theorem scanX_len (s : ByteArray) : (scanX s).1.length ≤ 65536 := by
  unfold scanX
  split
  · exact Nat.zero_le _
  · split
    · have := front_len s; simp only; omega
    · exact Nat.zero_le _
theorem rowR_at : ∀ (xs : List Res) (i j : Nat) (x : Res), xs[i]? = some x → j < 4 → (rowR xs)[i * 4 + j]? = (tokCells x)[j]?
  | [], i, j, x, h, _ => by simp at h
  | y :: ys, 0, j, x, h, hj => by
    obtain rfl : y = x := by simpa using h
    have : rowR (y :: ys) = tokCells y ++ rowR ys := rfl
    rw [this, Nat.zero_mul, Nat.zero_add, List.getElem?_append_left (by show j < 4; exact hj)]
  | y :: ys, i + 1, j, x, h, hj => by
    have : rowR (y :: ys) = tokCells y ++ rowR ys := rfl
    rw [this, List.getElem?_append_right (by show 4 ≤ _; omega)]
    have e : (i + 1) * 4 + j - (tokCells y).length = i * 4 + j := by show (i + 1) * 4 + j - 4 = _; omega
    rw [e]
    exact rowR_at ys i j x (by simpa using h) hj
theorem tokRow_owns {W : World} {base : Nat} {u : Value} {xs : List Res} (h : W.ownsRow base 69 4 u xs.length (rowR xs)) : TokRow W u xs := by
  rcases h.2 with ⟨rfl, h0⟩ | ⟨g, cap, cur, rfl, hb, hg, hle, hcap, hcs, htk⟩
  · refine ⟨none, 0, by rw [h0], fun i x hx => ?_⟩
    have := (List.getElem?_eq_some_iff.1 hx).1
    omega
  · refine ⟨some ⟨g, 0, none⟩, cap, rfl, fun i x hx => ⟨g, 0, rfl, ?_⟩⟩
    have key : ∀ j u, j < 4 → (tokCells x)[j]? = some u → W.cell? ⟨g, i * 4 + j, none⟩ = some u := fun j u hj4 hu => by
      have h0 := rowR_at xs i j x hx hj4
      rw [hu, ← htk, List.getElem?_take] at h0
      split at h0
      · have h2 : cur[i * 4 + j]? = some u := by rw [← Array.getElem?_toList]; exact h0
        rw [cell_of_row W g (i * 4 + j) _ _ _ hg]; exact h2
      · cases h0
    simp only [Nat.zero_add]
    exact ⟨key 0 _ (by decide) rfl, key 1 _ (by decide) rfl, key 2 _ (by decide) rfl, key 3 _ (by decide) rfl⟩
theorem TokRow.keep {W W' : World} {u : Value} {xs : List Res} (h : TokRow W u xs) (hb : Below W.heap.size W W') : TokRow W' u xs := by
  obtain ⟨oa, cap, hu, hc⟩ := h
  refine ⟨oa, cap, hu, fun i x hx => ?_⟩
  obtain ⟨g, off, ho, a0, a1, a2, a3⟩ := hc i x hx
  have hg : g < W.heap.size := lt_of_at a0
  exact ⟨g, off, ho, (hb.cell (p := ⟨g, off + i * 4, none⟩) hg).trans a0, (hb.cell (p := ⟨g, off + i * 4 + 1, none⟩) hg).trans a1, (hb.cell (p := ⟨g, off + i * 4 + 2, none⟩) hg).trans a2, (hb.cell (p := ⟨g, off + i * 4 + 3, none⟩) hg).trans a3⟩
theorem scan_row (s : ByteArray) {w : World} (T : LTabs w) :
    Calls Tryd.prog 17 #[.string s] w fun e w' => ∃ u, e = .returned (.tuple #[u, .int .i64 (scanX s).2.1, .agg #[.int .i64 (scanX s).2.2.1, .int .i64 (scanX s).2.2.2]]) ∧ w'.ownsRow w.heap.size 69 4 u (scanX s).1.length (rowR (scanX s).1) ∧ (u = .slice none 0 0 ↔ (scanX s).1 = []) ∧ Below w.heap.size w w' := by
  refine (scan_any s w T).mono ?_
  rintro e w' ⟨⟨v, rfl, h⟩, hb⟩
  obtain ⟨u, rfl, h1, h2⟩ := scanPost_row h
  exact ⟨u, rfl, h1, h2, hb⟩
theorem rscan_row (s : ByteArray) (w : World) :
    Calls Tryd.prog 22 #[.string s] w fun e w' => ∃ u, e = .returned (.tuple #[u, .int .i64 (scanX s).2.1, .agg #[.int .i64 (scanX s).2.2.1, .int .i64 (scanX s).2.2.2]]) ∧ w'.ownsRow w.heap.size 69 4 u (scanX s).1.length (rowR (scanX s).1) ∧ (u = .slice none 0 0 ↔ (scanX s).1 = []) ∧ Below w.heap.size w w' := by
  refine (rscan_any s w).mono ?_
  rintro e w' ⟨⟨v, rfl, h⟩, hb⟩
  obtain ⟨u, rfl, h1, h2⟩ := scanPost_row h
  exact ⟨u, rfl, h1, h2, hb⟩
end Go.Proofs.YtgaibdipecngkaaDoor

namespace Go.Proofs.YtgaibdipecngkaaDoor
set_option linter.unusedVariables false
theorem digitsV_in : ∀ (l : List UInt8) (v z : Int), 0 ≤ v → v ≤ 9223372036854775807 → digitsV l v = some z → 0 ≤ z ∧ z ≤ 9223372036854775807
  | [], v, z, h0, h1, h => by
    simp only [digitsV, Option.some.injEq] at h
    omega
  | c :: r, v, z, h0, h1, h => by
    simp only [digitsV] at h
    split at h
    · cases h
    · rename_i hd
      split at h
      · cases h
      · rename_i hv
        have hd : 48 ≤ (c.toNat : Int) ∧ (c.toNat : Int) ≤ 57 := by
          have : digitB (c.toNat : Int) = true := by simpa using hd
          unfold digitB at this
          simpa using this
        have hv2 : v ≤ (9223372036854775807 - ((c.toNat : Int) - 48)) / 10 := by omega
        exact digitsV_in r _ z (by omega) (by omega) h
theorem valueO_in {l : List UInt8} {z : Int} (h : valueO l = some z) : 0 ≤ z ∧ z ≤ 9223372036854775807 := by
  cases l with
  | nil => simp [valueO] at h
  | cons c r =>
    simp only [valueO] at h
    split at h
    · cases h
    · exact digitsV_in _ 0 z (by decide) (by decide) h
theorem nextL_wd (l : List UInt8) : 0 ≤ (nextL l).wd ∧ (nextL l).wd ≤ 9223372036854775807 := by
  cases l with
  | nil => exact ⟨Int.le_refl 0, (by decide : (0 : Int) ≤ 9223372036854775807)⟩
  | cons c r =>
    rw [show nextL (c :: r) = if letterB (c.toNat : Int) = true then nameL (c :: r) else if digitB (c.toNat : Int) = true then numL (c :: r) else if signB (c.toNat : Int) = true then ⟨4, aheadN (c :: r), 0, 0, 0⟩ else ⟨0, 0, 0, 0, 1⟩ from rfl]
    by_cases h1 : letterB (c.toNat : Int) = true
    · rw [if_pos h1]
      unfold nameL
      by_cases h2 : wordL ((c :: r).take (spanN namedB (c :: r))) = true
      · rw [if_pos h2]; exact ⟨Int.le_refl 0, (by decide : (0 : Int) ≤ 9223372036854775807)⟩
      · rw [if_neg h2]
        by_cases h3 : 32 < spanN namedB (c :: r)
        · rw [if_pos h3]; exact ⟨Int.le_refl 0, (by decide : (0 : Int) ≤ 9223372036854775807)⟩
        · rw [if_neg h3]; exact ⟨Int.le_refl 0, (by decide : (0 : Int) ≤ 9223372036854775807)⟩
    · rw [if_neg h1]
      by_cases h2 : digitB (c.toNat : Int) = true
      · rw [if_pos h2]
        unfold numL
        cases hv : valueO ((c :: r).take (spanN digitB (c :: r))) with
        | none => exact ⟨Int.le_refl 0, (by decide : (0 : Int) ≤ 9223372036854775807)⟩
        | some z =>
          simp only [numK]
          split
          · exact ⟨Int.le_refl 0, (by decide : (0 : Int) ≤ 9223372036854775807)⟩
          · exact valueO_in hv
      · rw [if_neg h2]
        split <;> exact ⟨Int.le_refl 0, (by decide : (0 : Int) ≤ 9223372036854775807)⟩
theorem toRes_wd (q : Nat) (l : List UInt8) : 0 ≤ (toRes q l (nextL l)).wd ∧ (toRes q l (nextL l)).wd ≤ 9223372036854775807 := by
  unfold toRes
  split
  · exact nextL_wd l
  · simp
theorem goL_wd : ∀ (f q : Nat) (l : List UInt8), ∀ x ∈ (goL f q l).1, 0 ≤ x.wd ∧ x.wd ≤ 9223372036854775807
  | 0, q, l, x, hx => by simp [goL] at hx
  | f + 1, q, l, x, hx => by
    simp only [goL] at hx
    split at hx
    · simp at hx
    · split at hx
      · rcases List.mem_cons.1 hx with rfl | hx
        · exact toRes_wd q l
        · exact goL_wd f _ _ x hx
      · simp at hx
theorem scanX_wd (s : ByteArray) : ∀ x ∈ (scanX s).1, 0 ≤ x.wd ∧ x.wd ≤ 9223372036854775807 := by
  unfold scanX
  split
  · simp
  · split
    · rw [front_list]
      exact goL_wd _ _ _
    · simp
end Go.Proofs.YtgaibdipecngkaaDoor

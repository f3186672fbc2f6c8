/- The proof, part 1: texts that belong together, in one. -/
import Derived.Test.YtikaflpiephaiaaGreatDoorRows
import Derived.WalkKit
import Derived.ProofKit
import Derived.LaidMore
import Derived.OpenShut
import Derived.ShutString
import Derived.Stop.Joined
import Derived.Below
import Derived.WalkSmall
import Derived.SevenTiedAt
import Derived.Handy
import Derived.PlainAid
import Derived.Lib.LaidTab
import Derived.Lib.Hide
import Derived.Lib.Strings
import Derived.Laws.Rows
import Derived.Laws.Tables
import Derived.Lib.ItoaNum
import Derived.MakeChecks
import Derived.WalkLawsBesides
import Derived.Shelf.Small.Strs
import Derived.Shelf.LaysM
import Derived.Shelf.Strconv.Clone
import Derived.Shelf.Strings.Search1
import Derived.Shelf.Strings.Prefix
import Derived.Shelf.Bits.Mul64
import Derived.Test.YtikaflpiephaiaaGreatDoorProg
set_option maxRecDepth 100000
set_option maxHeartbeats 20000000
namespace Go.Proofs.YtikaflpiephaiaaGreatDoor
open Go.ChangeShapes Go.WideShapes Go.ChangeAt Go.WideMaps Go.WideElems Go.RowKit
open Go.ChangeMaps (open_string shut_string)
def wordsL : List (List UInt8) := [[115, 104, 97, 114, 101, 100], [108, 111, 99, 107], [116, 104, 114, 101, 97, 100], [108, 111, 99, 97, 108], [105, 102], [101, 108, 115, 101], [119, 104, 105, 108, 101], [112, 114, 105, 110, 116], [115, 107, 105, 112], [115, 119, 97, 112]]
def longL : List (List UInt8) := [[61, 61], [33, 61], [60, 61], [62, 61], [60, 60], [62, 62]]
theorem own : ownKnob Tryz.prog.godebug = none := by kernel_rfl
theorem gWords : Tryz.prog.globalNamed "stile/lexer.languageWords" = some 0 := by kernel_rfl
theorem gLong : Tryz.prog.globalNamed "stile/lexer.longSigns" = some 4 := by kernel_rfl
theorem tWords : (Tryz.prog.globals[0]?).map (·.type) = some 195 := by kernel_rfl
theorem tLong : (Tryz.prog.globals[4]?).map (·.type) = some 241 := by kernel_rfl
def wordCells : Array Value := (wordsL.map fun s => Value.string ⟨s.toArray⟩).toArray
def longCells : Array Value := (longL.map fun s => Value.string ⟨s.toArray⟩).toArray
structure LTabs (W : World) : Prop where
 words : W.var? Tryz.prog "stile/lexer.languageWords" = some wordCells
 long : W.var? Tryz.prog "stile/lexer.longSigns" = some longCells
 size1 : 0 < W.heap.size
 size2 : 4 < W.heap.size
theorem lt_of_at {w : World} {a : Addr} {v : Value} (h : w.cell? a = some v) : a.block < w.heap.size := by
 apply Nat.lt_of_not_le
 intro hn
 simp [World.cell?, Array.getElem?_eq_none hn] at h
theorem cells_of_strs {H : Type} {enc : TypeId × Value → H} {P : Program} {w : World} {base : Nat} {sp : Nat → Bool} {held : Bool} {fuel : Nat} {t e : TypeId} {n : Nat} {cs : List Value} {ss : List (List UInt8)} {p : List MemPlace}
 (ht : P.underlying t = some (.array n e)) (he : P.underlying e = some .string) (hce : P.cellsOf e = 1) (hct : P.cellsOf t = n)
 (h : DataW.trod enc P w base sp held fuel t cs = some (.agg (ss.map fun s => .lit (.string s)), p)) : cs = ss.map fun s => Value.string ⟨s.toArray⟩ := by
 cases fuel with
 | zero => simp [DataW.trod] at h
 | succ fuel =>
   simp only [DataW.trod, ht, hce, hct, Nat.mul_one] at h
   split at h
   · rename_i hl
     obtain ⟨xs, hm, hx⟩ := Option.map_eq_some_iff.1 h
     have hxs : xs.map (·.1) = ss.map fun s => (DataW.lit (.string s) : DataW H) := by
      have := congrArg Prod.fst hx
      simpa using this
     have hxl : xs.length = n := by simpa using Lib.mapM_length hm
     apply List.ext_getElem?
     intro i
     by_cases hi : i < n
     · obtain ⟨b, hb, hf⟩ := Lib.mapM_at hm i i (by simp [hi])
       obtain ⟨z, hc, rfl, _⟩ := DataW.trod_string he hf
       have h1 : cs[i]? = some (.string z) := by
        have := congrArg (·[0]?) hc
        simpa [List.getElem?_take, List.getElem?_drop] using this
       have h2 : (xs.map (·.1))[i]? = some (DataW.lit (.string z.data.toList) : DataW H) := by simp [hb]
       rw [hxs] at h2
       simp only [List.getElem?_map, Option.map_eq_some_iff, DataW.lit.injEq, Lit.string.injEq] at h2
       obtain ⟨z', hz', e2⟩ := h2
       subst e2
       simp [h1, hz']
     · have hsl : ss.length = n := by
        have := congrArg List.length hxs
        simp at this
        omega
       rw [List.getElem?_eq_none (by omega), List.getElem?_eq_none (by simp; omega)]
   · cases h
theorem LTabs.below {W W' : World} {B : Nat} (T : LTabs W) (hB : W.heap.size ≤ B) (h : Below B W W') : LTabs W' := by
 have h1 := T.size1
 have h2 := T.size2
 exact ⟨var?_below h gWords (by omega) T.words, var?_below h gLong (by omega) T.long, by have := h.size; omega, by have := h.size; omega⟩
def lev : List Int := [0, 7, 7, 8, 8, 8, 3, 1, 2, 6, 6, 4, 4, 5, 5, 5, 5, 9, 9]
def sgn : List (List UInt8) := [[], [43], [45], [42], [47], [37], [38], [124], [94], [60, 60], [62, 62], [61, 61], [33, 61], [60], [60, 61], [62], [62, 61], [45], [33]]
theorem gLev : Tryz.prog.globalNamed "stile/words.levels" = some 2 := by kernel_rfl
theorem gSgn : Tryz.prog.globalNamed "stile/words.signs" = some 3 := by kernel_rfl
theorem tLev : (Tryz.prog.globals[2]?).map (·.type) = some 216 := by kernel_rfl
theorem tSgn : (Tryz.prog.globals[3]?).map (·.type) = some 217 := by kernel_rfl
structure Tabs (W : World) : Prop where
 size1 : 2 < W.heap.size
 size2 : 3 < W.heap.size
 lev : ∀ i, i < 19 → W.cell? ⟨2, i, none⟩ = some (.int .i64 (lev.getD i 0))
 sgn : ∀ i, i < 19 → W.cell? ⟨3, i, none⟩ = some (.string ⟨(sgn.getD i []).toArray⟩)
theorem Tabs.below {W W' : World} {B : Nat} (T : Tabs W) (hB : W.heap.size ≤ B) (h : Below B W W') : Tabs W' := by
 have h1 := T.size1
 have h2 := T.size2
 refine ⟨by have := h.size; omega, by have := h.size; omega, fun i hi => ?_, fun i hi => ?_⟩
 · rw [h.cell (p := ⟨2, i, none⟩) (by show 2 < B; omega)]; exact T.lev i hi
 · rw [h.cell (p := ⟨3, i, none⟩) (by show 3 < B; omega)]; exact T.sgn i hi
theorem laid_var {P : Program} {W : World} {n : String} {d : DataW Unit} {g : Nat} {t : TypeId} (hg : P.globalNamed n = some g) (ht : (P.globals[g]?).map (·.type) = some t) : ∀ {L : List (String × DataW Unit)} {ps : List MemPlace}, DataW.LaidVars P W L ps → (n, d) ∈ L →
 ∃ cs fuel p, W.var? P n = some cs ∧ DataW.trod (fun _ => ()) P W 0 (fun _ => true) false fuel t cs.toList = some (d, p)
 | (m, e) :: r, ps, ⟨g', t', cs, fuel, p, q, h1, h2, h3, h4, h5, _⟩, hm => by
   rcases List.mem_cons.1 hm with h | h
   · cases h
     obtain rfl := Option.some.inj (hg.symm.trans h1)
     obtain rfl := Option.some.inj (ht.symm.trans h2)
     exact ⟨cs, fuel, p, h3, h4⟩
   · exact laid_var hg ht h5 h
theorem tabs_of_vars {W : World} {L : List (String × DataW Unit)} {ps : List MemPlace} (h : DataW.LaidVars Tryz.prog W L ps) (h1 : ("stile/words.levels", Rows.laid_stile_words_levels) ∈ L) (h2 : ("stile/words.signs", Rows.laid_stile_words_signs) ∈ L) : Tabs W := by
 obtain ⟨c1, f1, p1, v1, d1⟩ := laid_var gLev tLev h h1
 obtain ⟨c2, f2, p2, v2, d2⟩ := laid_var gSgn tSgn h h2
 have e1 := Lib.cells_of_tab (k := .i64) (zs := lev) Tryz.underlying216 Tryz.underlying3 (by kernel_rfl) (by kernel_rfl) d1
 have e2 := cells_of_strs (ss := sgn) Tryz.underlying217 Tryz.underlying9 (by kernel_rfl) (by kernel_rfl) d2
 have i1 := lt_of_at (v := .int .i64 0) (by rw [World.var?_cell gLev v1 0, ← Array.getElem?_toList, e1]; rfl)
 have i2 := lt_of_at (v := .string ⟨#[]⟩) (by rw [World.var?_cell gSgn v2 0, ← Array.getElem?_toList, e2]; rfl)
 refine ⟨i1, i2, fun i hi => ?_, fun i hi => ?_⟩
 · have := World.var?_cell gLev v1 i
   rw [← Array.getElem?_toList, e1] at this
   rw [this]
   have hl : i < lev.length := hi
   simp [List.getD, hl]
 · have := World.var?_cell gSgn v2 i
   rw [← Array.getElem?_toList, e2] at this
   rw [this]
   have hl : i < sgn.length := hi
   simp [List.getD, hl]
theorem ltabs_of_vars {W : World} {L : List (String × DataW Unit)} {ps : List MemPlace} (h : DataW.LaidVars Tryz.prog W L ps) (h1 : ("stile/lexer.languageWords", Rows.laid_stile_lexer_languageWords) ∈ L) (h2 : ("stile/lexer.longSigns", Rows.laid_stile_lexer_longSigns) ∈ L) : LTabs W := by
 obtain ⟨c1, f1, p1, v1, d1⟩ := laid_var gWords tWords h h1
 obtain ⟨c2, f2, p2, v2, d2⟩ := laid_var gLong tLong h h2
 have e1 := cells_of_strs (ss := wordsL) Tryz.underlying195 Tryz.underlying9 (by kernel_rfl) (by kernel_rfl) d1
 have e2 := cells_of_strs (ss := longL) Tryz.underlying241 Tryz.underlying9 (by kernel_rfl) (by kernel_rfl) d2
 have k1 : c1 = wordCells := by unfold wordCells; rw [← e1]
 have k2 : c2 = longCells := by unfold longCells; rw [← e2]
 subst k1 k2
 have i1 := lt_of_at (v := .string ⟨#[115, 104, 97, 114, 101, 100]⟩) (by rw [World.var?_cell gWords v1 0]; rfl)
 have i2 := lt_of_at (v := .string ⟨#[61, 61]⟩) (by rw [World.var?_cell gLong v2 0]; rfl)
 exact ⟨v1, v2, by simp only at i1 i2; omega, by simp only at i1 i2; omega⟩
end Go.Proofs.YtikaflpiephaiaaGreatDoor
namespace Go.Proofs
open Go.Shelf
def Tryz.lays137_ren : Go.Shelf.Ren := ⟨fun | 137 => 219 | 217 => 231 | 266 => 238 | n => n, fun | 9 => 9 | 5 => 5 | 3 => 3 | n => n, fun | n => n⟩
theorem Tryz.lays137 : Go.Proofs.Lays.n137 Tryz.prog Tryz.lays137_ren := {
 mixed := by kernel_rfl
 f137 := Tryz.func219.trans (congrArg some (by kernel_rfl))
 f217 := Tryz.func231.trans (congrArg some (by kernel_rfl))
 f266 := Tryz.func238.trans (congrArg some (by kernel_rfl))
 t3 := Tryz.underlying3
 a3 := Tryz.isAgg3
 z3 := Tryz.sizeOf3
 v3 := Tryz.zeroValue3
 t5 := Tryz.underlying5
 a5 := Tryz.isAgg5
 z5 := Tryz.sizeOf5
 v5 := Tryz.zeroValue5
 t9 := Tryz.underlying9
 a9 := Tryz.isAgg9
 z9 := Tryz.sizeOf9
 v9 := Tryz.zeroValue9 }
open Go.RowKit in
theorem Tryz.strings_IndexByte (s : ByteArray) (c : Int) (w : World) :
 Calls Tryz.prog 219 #[.string s, .int .u8 c] w fun e w' => e = .returned (.int .i64 (Lib.indexByte s.data.toList c.toNat.toUInt8)) ∧ w' = w := Any.strings_IndexByte Tryz.lays137 s c w
def Tryz.laysM316_ren : Go.Shelf.Ren := ⟨fun | 316 => 125 | n => n, fun | 9 => 9 | 3 => 3 | 4 => 4 | 37 => 132 | 0 => 0 | 127 => 170 | 5 => 5 | n => n, fun | n => n⟩
theorem Tryz.laysM316 : Go.Proofs.LaysM.n316 Tryz.prog Tryz.laysM316_ren := {
 mixed := by kernel_rfl
 f316 := Tryz.func125.trans (congrArg some (by kernel_rfl))
 t0 := Tryz.underlying0
 a0 := Tryz.isAgg0
 z0 := Tryz.sizeOf0
 v0 := Tryz.zeroValue0
 t3 := Tryz.underlying3
 a3 := Tryz.isAgg3
 z3 := Tryz.sizeOf3
 v3 := Tryz.zeroValue3
 t4 := Tryz.underlying4
 a4 := Tryz.isAgg4
 z4 := Tryz.sizeOf4
 v4 := Tryz.zeroValue4
 t9 := Tryz.underlying9
 a9 := Tryz.isAgg9
 z9 := Tryz.sizeOf9
 v9 := Tryz.zeroValue9
 t37 := Tryz.underlying132
 a37 := Tryz.isAgg132
 z37 := Tryz.sizeOf132
 v37 := Tryz.zeroValue132
 t127 := Tryz.underlying170
 a127 := Tryz.isAgg170
 z127 := Tryz.sizeOf170
 v127 := Tryz.zeroValue170
 t5 := Tryz.underlying5
 a5 := Tryz.isAgg5
 z5 := Tryz.sizeOf5
 v5 := Tryz.zeroValue5
 i0 := by kernel_rfl
 i3 := by kernel_rfl
 i4 := by kernel_rfl
 i5 := by kernel_rfl
 i9 := by kernel_rfl
 i37 := by kernel_rfl
 i127 := by kernel_rfl }
open Go.RowKit in
theorem Tryz.stringslite_Clone (s : ByteArray) (w : World) (hlim : s.size ≤ 281474976710656) :
 Calls Tryz.prog 125 #[.string s] w fun e w' => e = .returned (.string s) ∧ Below w.heap.size w w' := Any.stringslite_Clone Tryz.laysM316 s w hlim
def Tryz.lays99_ren : Go.Shelf.Ren := ⟨fun | 99 => 169 | 206 => 196 | n => n, fun | 9 => 9 | 4 => 4 | 3 => 3 | n => n, fun | n => n⟩
theorem Tryz.lays99 : Go.Proofs.Lays.n99 Tryz.prog Tryz.lays99_ren := {
 mixed := by kernel_rfl
 f99 := Tryz.func169.trans (congrArg some (by kernel_rfl))
 f206 := Tryz.func196.trans (congrArg some (by kernel_rfl))
 t3 := Tryz.underlying3
 a3 := Tryz.isAgg3
 z3 := Tryz.sizeOf3
 v3 := Tryz.zeroValue3
 t4 := Tryz.underlying4
 a4 := Tryz.isAgg4
 z4 := Tryz.sizeOf4
 v4 := Tryz.zeroValue4
 t9 := Tryz.underlying9
 a9 := Tryz.isAgg9
 z9 := Tryz.sizeOf9
 v9 := Tryz.zeroValue9 }
open Go.RowKit Go.Lib in
theorem Tryz.strings_HasPrefix (s p : ByteArray) (w : World) :
 Calls Tryz.prog 169 #[.string s, .string p] w fun e w' => e = .returned (.bool (Lib.hasPrefix s.data.toList p.data.toList)) ∧ w' = w := Any.strings_HasPrefix Tryz.lays99 s p w
end Go.Proofs
namespace Go.Proofs.YtikaflpiephaiaaGreatDoor
open Go.RowKit
set_option linter.unusedVariables false
theorem int_f {a b : Int} (h : a ≠ b) : (a == b) = false := by simpa using h
theorem bytes_t {v s : ByteArray} (h : v.data.toList = s.data.toList) : (v.toList == s.toList) = true := by
 rw [Lib.toList_data, Lib.toList_data, h]; simp
theorem bytes_f {v s : ByteArray} (h : ¬ v.data.toList = s.data.toList) : (v.toList == s.toList) = false := by
 rw [Lib.toList_data, Lib.toList_data]; simpa using h
theorem ret_bool {a b : Bool} (h : a = b) : Ending.returned (.bool a) = .returned (.bool b) := by rw [h]
def letterB (c : Int) : Bool := decide (97 ≤ c ∧ c ≤ 122 ∨ 65 ≤ c ∧ c ≤ 90 ∨ c = 95)
def digitB (c : Int) : Bool := decide (48 ≤ c ∧ c ≤ 57)
def namedB (c : Int) : Bool := letterB c || digitB c
def blankB (c : Int) : Bool := decide (c = 32 ∨ c = 9 ∨ c = 10 ∨ c = 13)
def feedB (c : Int) : Bool := decide (c ≠ 10)
def shortL : List UInt8 := [40, 41, 123, 125, 44, 59, 61, 43, 45, 42, 47, 37, 38, 124, 94, 33, 60, 62]
def signB (c : Int) : Bool := decide (0 ≤ Lib.indexByte shortL c.toNat.toUInt8)
theorem b_t {p : Prop} [Decidable p] (h : p) : decide p = true := by simpa using h
theorem b_f {p : Prop} [Decidable p] (h : ¬ p) : decide p = false := by simpa using h
theorem letter_any (c : Int) (h0 : 0 ≤ c) (h1 : c ≤ 255) (w : World) : Calls Tryz.prog 164 #[.int .u8 c] w fun e w' => e = .returned (.bool (letterB c)) ∧ w = w' := by
 by_cases h : 97 ≤ c ∧ c ≤ 122
 · have e : letterB c = true := b_t (by omega)
   rw [e]
   clear e
   obtain ⟨k0, k1⟩ := h
   go_enter Tryz.func164, Tryz.ntmps164
   go_wp2
   go_ret
   exact ⟨rfl, rfl⟩
 by_cases h : 65 ≤ c ∧ c ≤ 90
 · have e : letterB c = true := b_t (by omega)
   rw [e]
   clear e
   obtain ⟨k0, k1⟩ := h
   go_enter Tryz.func164, Tryz.ntmps164
   go_wp2
   go_ret
   exact ⟨rfl, rfl⟩
 by_cases h : c = 95
 · have e : letterB c = true := b_t (by omega)
   rw [e]
   clear e
   subst h
   go_enter Tryz.func164, Tryz.ntmps164
   go_wp2
   go_ret
   exact ⟨rfl, rfl⟩
 by_cases h : c < 65
 · have e : letterB c = false := b_f (by omega)
   rw [e]
   clear e
   have q : (c == 95) = false := int_f (by omega)
   go_enter Tryz.func164, Tryz.ntmps164
   go_wp2
   go_ret
   exact ⟨rfl, rfl⟩
 by_cases h : 90 < c ∧ c < 95
 · have e : letterB c = false := b_f (by omega)
   rw [e]
   clear e
   have q : (c == 95) = false := int_f (by omega)
   have d90 : decide (c ≤ 90) = false := b_f (by omega)
   go_enter Tryz.func164, Tryz.ntmps164
   go_wp2
   go_ret
   exact ⟨rfl, rfl⟩
 by_cases h : c = 96
 · have e : letterB c = false := b_f (by omega)
   rw [e]
   clear e
   subst h
   go_enter Tryz.func164, Tryz.ntmps164
   go_wp2
   go_ret
   exact ⟨rfl, rfl⟩
 · have h' : 122 < c := by omega
   have e : letterB c = false := b_f (by omega)
   have q : (c == 95) = false := int_f (by omega)
   have d90 : decide (c ≤ 90) = false := b_f (by omega)
   have d122 : decide (c ≤ 122) = false := b_f (by omega)
   rw [e]
   clear e
   go_enter Tryz.func164, Tryz.ntmps164
   go_wp2
   go_ret
   exact ⟨rfl, rfl⟩
theorem digit_any (c : Int) (h0 : 0 ≤ c) (h1 : c ≤ 255) (w : World) : Calls Tryz.prog 128 #[.int .u8 c] w fun e w' => e = .returned (.bool (digitB c)) ∧ w = w' := by
 by_cases k0 : c < 48
 · have e : digitB c = false := b_f (by omega)
   rw [e]
   clear e
   go_enter Tryz.func128, Tryz.ntmps128
   go_wp2
   go_ret
   exact ⟨rfl, rfl⟩
 · by_cases k1 : 57 < c
   · have e : digitB c = false := b_f (by omega)
     have hd : decide (c ≤ 57) = false := b_f (by omega)
     rw [e]
     clear e
     go_enter Tryz.func128, Tryz.ntmps128
     go_wp2
     go_ret
     exact ⟨rfl, rfl⟩
   · have e : digitB c = true := b_t (by omega)
     rw [e]
     clear e
     go_enter Tryz.func128, Tryz.ntmps128
     go_wp2
     go_ret
     exact ⟨rfl, rfl⟩
theorem named_any (c : Int) (h0 : 0 ≤ c) (h1 : c ≤ 255) (w : World) : Calls Tryz.prog 131 #[.int .u8 c] w fun e w' => e = .returned (.bool (namedB c)) ∧ w = w' := by
 have H1 := Lib.hid (fun w => letter_any c h0 h1 w)
 have H2 := Lib.hid (fun w => digit_any c h0 h1 w)
 obtain ⟨a, ha⟩ : ∃ a, a = letterB c := ⟨_, rfl⟩
 obtain ⟨b, hb⟩ : ∃ b, b = digitB c := ⟨_, rfl⟩
 have e : namedB c = (a || b) := by rw [ha, hb]; rfl
 rw [← ha] at H1
 rw [← hb] at H2
 rw [e]
 clear ha hb e
 cases a
 · go_enter Tryz.func131, Tryz.ntmps131
   go_wp2_with (first | (go_at_call 164; refine (H1.out _).mono ?_; rintro e w' ⟨rfl, rfl⟩) | (go_at_call 128; refine (H2.out _).mono ?_; rintro e w' ⟨rfl, rfl⟩))
   go_ret
   exact ⟨rfl, rfl⟩
 · go_enter Tryz.func131, Tryz.ntmps131
   go_wp2_with (first | (go_at_call 164; refine (H1.out _).mono ?_; rintro e w' ⟨rfl, rfl⟩) | (go_at_call 128; refine (H2.out _).mono ?_; rintro e w' ⟨rfl, rfl⟩))
   go_ret
   exact ⟨rfl, rfl⟩
theorem blank_any (c : Int) (h0 : 0 ≤ c) (h1 : c ≤ 255) (w : World) : Calls Tryz.prog 179 #[.int .u8 c] w fun e w' => e = .returned (.bool (blankB c)) ∧ w = w' := by
 by_cases k32 : c = 32
 · subst k32
   have e : blankB 32 = true := b_t (by omega)
   rw [e]
   clear e
   go_enter Tryz.func179, Tryz.ntmps179
   go_wp2
   go_ret
   exact ⟨rfl, rfl⟩
 by_cases k9 : c = 9
 · subst k9
   have e : blankB 9 = true := b_t (by omega)
   rw [e]
   clear e
   go_enter Tryz.func179, Tryz.ntmps179
   go_wp2
   go_ret
   exact ⟨rfl, rfl⟩
 by_cases k10 : c = 10
 · subst k10
   have e : blankB 10 = true := b_t (by omega)
   rw [e]
   clear e
   go_enter Tryz.func179, Tryz.ntmps179
   go_wp2
   go_ret
   exact ⟨rfl, rfl⟩
 by_cases k13 : c = 13
 · subst k13
   have e : blankB 13 = true := b_t (by omega)
   rw [e]
   clear e
   go_enter Tryz.func179, Tryz.ntmps179
   go_wp2
   go_ret
   exact ⟨rfl, rfl⟩
 · have e : blankB c = false := b_f (by omega)
   have q1 := int_f k32
   have q2 := int_f k9
   have q3 := int_f k10
   have q4 := int_f k13
   rw [e]
   clear e k32 k9 k10 k13
   go_enter Tryz.func179, Tryz.ntmps179
   go_wp2
   go_ret
   exact ⟨rfl, rfl⟩
theorem feed_any (c : Int) (h0 : 0 ≤ c) (h1 : c ≤ 255) (w : World) : Calls Tryz.prog 180 #[.int .u8 c] w fun e w' => e = .returned (.bool (feedB c)) ∧ w = w' := by
 by_cases k : c = 10
 · subst k
   have e : feedB 10 = false := b_f (by omega)
   rw [e]
   clear e
   go_enter Tryz.func180, Tryz.ntmps180
   go_wp2
   go_ret
   exact ⟨rfl, rfl⟩
 · have e : feedB c = true := b_t k
   have q : (c != 10) = true := by simpa using k
   rw [e]
   clear e k
   go_enter Tryz.func180, Tryz.ntmps180
   go_wp2
   go_ret
   exact ⟨rfl, rfl⟩
theorem sign_any (c : Int) (h0 : 0 ≤ c) (h1 : c ≤ 255) (w : World) : Calls Tryz.prog 177 #[.int .u8 c] w fun e w' => e = .returned (.bool (signB c)) ∧ w = w' := by
 have H := Lib.hid (show ∀ w : World, Calls Tryz.prog 219 #[.string ⟨#[40, 41, 123, 125, 44, 59, 61, 43, 45, 42, 47, 37, 38, 124, 94, 33, 60, 62]⟩, .int .u8 c] w fun e w' => e = .returned (.int .i64 (Lib.indexByte shortL c.toNat.toUInt8)) ∧ w' = w from fun w => Go.Proofs.Tryz.strings_IndexByte _ c w)
 unfold signB
 obtain ⟨v, hv⟩ : ∃ v, v = Lib.indexByte shortL c.toNat.toUInt8 := ⟨_, rfl⟩
 rw [← hv] at H ⊢
 clear hv h0 h1
 go_enter Tryz.func177, Tryz.ntmps177
 go_wp2_with (go_at_call 219; refine (H.out _).mono ?_; rintro e w' ⟨rfl, rfl⟩)
 go_ret
 exact ⟨rfl, rfl⟩
def spanN (p : Int → Bool) : List UInt8 → Nat
 | [] => 0
 | c :: r => if p (c.toNat : Int) = true then spanN p r + 1 else 0
theorem spanN_le (p : Int → Bool) : ∀ l : List UInt8, spanN p l ≤ l.length
 | [] => Nat.le_refl _
 | c :: r => by
   simp only [spanN, List.length_cons]
   have := spanN_le p r
   split <;> omega
def bytesFrom (s : ByteArray) (n : Nat) : List UInt8 := s.data.toList.drop n
theorem from_at (s : ByteArray) (k : Nat) (h : k < s.size) : bytesFrom s k = s[k] :: bytesFrom s (k + 1) := by
 unfold bytesFrom
 rw [List.drop_eq_getElem_cons (by simpa using h)]; rfl
theorem from_end (s : ByteArray) (k : Nat) (h : s.size ≤ k) : bytesFrom s k = [] := List.drop_of_length_le (by simpa using h)
theorem from_nought (s : ByteArray) : bytesFrom s 0 = s.data.toList := rfl
theorem span_digit (s : ByteArray) (hs : s.size ≤ 4611686018427387904) (w : World) : Calls Tryz.prog 130 #[.string s, .func (.func 128) #[] #[]] w fun e w' => e = .returned (.int .i64 (spanN digitB s.data.toList)) ∧ w = w' := by
 obtain ⟨R, hR⟩ : ∃ R, R = spanN digitB s.data.toList := ⟨_, rfl⟩
 rw [← hR]
 have HR := Lib.hid hR
 clear hR
 go_enter Tryz.func130, Tryz.ntmps130
 go_wp2_with fail
 go_loop [8] (fun i => ∃ k : Nat, k ≤ s.size ∧ i = .int .i64 k ∧ Hid (spanN digitB (bytesFrom s k) + k = R)) (fun i => s.size - (intOf i).toNat)
 case atStart => exact ⟨0, Nat.zero_le _, rfl, HR.out.symm⟩
 case round =>
  obtain ⟨k, hk, rfl, hp⟩ := hrel
  by_cases hlt : k < s.size
  · have hx0 := PlainAid.bt_nonneg s k
    have hx1 := PlainAid.bt_le s k
    have hu : ((s[k]).toNat : Int) = PlainAid.bt s k := PlainAid.get_bt s k hlt
    have hfr := from_at s k hlt
    obtain ⟨c, hc⟩ : ∃ c, c = PlainAid.bt s k := ⟨_, rfl⟩
    have hbt : ∀ h : k < s.size, ((s[k]'h).toNat : Int) = c := fun h => by rw [hc]; exact PlainAid.get_bt s k h
    rw [← hc] at hu hx0 hx1
    clear hc
    have H := Lib.hid (fun w => digit_any c hx0 hx1 w)
    by_cases hpc : digitB c = true
    · have hn : Hid (spanN digitB (bytesFrom s (k + 1)) + (k + 1) = R) := by
       rw [Hid, ← hp.out, hfr]; simp only [spanN]; rw [hu, if_pos hpc]; omega
      rw [hpc] at H
      clear hfr hu hp hpc
      go_wp2_with (go_at_call 128; refine (H.out _).mono ?_; rintro e w' ⟨rfl, rfl⟩)
      go_round
      case rel => exact ⟨k + 1, by omega, by go_num, hn⟩
      case measure => simp [intOf]; omega
    · have hn : Hid (k = R) := by
       rw [Hid, ← hp.out, hfr]; simp only [spanN]; rw [hu, if_neg hpc]; omega
      have hpf : digitB c = false := by simpa using hpc
      rw [hpf] at H
      clear hfr hu hp hpc hpf
      go_wp2_with (go_at_call 128; refine (H.out _).mono ?_; rintro e w' ⟨rfl, rfl⟩)
      go_ret
      rw [← hn.out]
      exact ⟨rfl, rfl⟩
  · have hn : Hid (s.size = R) := by
     rw [Hid, ← hp.out, from_end s k (by omega)]; simp only [spanN]; omega
    clear hp
    go_wp2_with fail
    go_ret
    rw [← hn.out]
    exact ⟨rfl, rfl⟩
theorem span_named (s : ByteArray) (hs : s.size ≤ 4611686018427387904) (w : World) : Calls Tryz.prog 130 #[.string s, .func (.func 131) #[] #[]] w fun e w' => e = .returned (.int .i64 (spanN namedB s.data.toList)) ∧ w = w' := by
 obtain ⟨R, hR⟩ : ∃ R, R = spanN namedB s.data.toList := ⟨_, rfl⟩
 rw [← hR]
 have HR := Lib.hid hR
 clear hR
 go_enter Tryz.func130, Tryz.ntmps130
 go_wp2_with fail
 go_loop [8] (fun i => ∃ k : Nat, k ≤ s.size ∧ i = .int .i64 k ∧ Hid (spanN namedB (bytesFrom s k) + k = R)) (fun i => s.size - (intOf i).toNat)
 case atStart => exact ⟨0, Nat.zero_le _, rfl, HR.out.symm⟩
 case round =>
  obtain ⟨k, hk, rfl, hp⟩ := hrel
  by_cases hlt : k < s.size
  · have hx0 := PlainAid.bt_nonneg s k
    have hx1 := PlainAid.bt_le s k
    have hu : ((s[k]).toNat : Int) = PlainAid.bt s k := PlainAid.get_bt s k hlt
    have hfr := from_at s k hlt
    obtain ⟨c, hc⟩ : ∃ c, c = PlainAid.bt s k := ⟨_, rfl⟩
    have hbt : ∀ h : k < s.size, ((s[k]'h).toNat : Int) = c := fun h => by rw [hc]; exact PlainAid.get_bt s k h
    rw [← hc] at hu hx0 hx1
    clear hc
    have H := Lib.hid (fun w => named_any c hx0 hx1 w)
    by_cases hpc : namedB c = true
    · have hn : Hid (spanN namedB (bytesFrom s (k + 1)) + (k + 1) = R) := by
       rw [Hid, ← hp.out, hfr]; simp only [spanN]; rw [hu, if_pos hpc]; omega
      rw [hpc] at H
      clear hfr hu hp hpc
      go_wp2_with (go_at_call 131; refine (H.out _).mono ?_; rintro e w' ⟨rfl, rfl⟩)
      go_round
      case rel => exact ⟨k + 1, by omega, by go_num, hn⟩
      case measure => simp [intOf]; omega
    · have hn : Hid (k = R) := by
       rw [Hid, ← hp.out, hfr]; simp only [spanN]; rw [hu, if_neg hpc]; omega
      have hpf : namedB c = false := by simpa using hpc
      rw [hpf] at H
      clear hfr hu hp hpc hpf
      go_wp2_with (go_at_call 131; refine (H.out _).mono ?_; rintro e w' ⟨rfl, rfl⟩)
      go_ret
      rw [← hn.out]
      exact ⟨rfl, rfl⟩
  · have hn : Hid (s.size = R) := by
     rw [Hid, ← hp.out, from_end s k (by omega)]; simp only [spanN]; omega
    clear hp
    go_wp2_with fail
    go_ret
    rw [← hn.out]
    exact ⟨rfl, rfl⟩
theorem span_blank (s : ByteArray) (hs : s.size ≤ 4611686018427387904) (w : World) : Calls Tryz.prog 130 #[.string s, .func (.func 179) #[] #[]] w fun e w' => e = .returned (.int .i64 (spanN blankB s.data.toList)) ∧ w = w' := by
 obtain ⟨R, hR⟩ : ∃ R, R = spanN blankB s.data.toList := ⟨_, rfl⟩
 rw [← hR]
 have HR := Lib.hid hR
 clear hR
 go_enter Tryz.func130, Tryz.ntmps130
 go_wp2_with fail
 go_loop [8] (fun i => ∃ k : Nat, k ≤ s.size ∧ i = .int .i64 k ∧ Hid (spanN blankB (bytesFrom s k) + k = R)) (fun i => s.size - (intOf i).toNat)
 case atStart => exact ⟨0, Nat.zero_le _, rfl, HR.out.symm⟩
 case round =>
  obtain ⟨k, hk, rfl, hp⟩ := hrel
  by_cases hlt : k < s.size
  · have hx0 := PlainAid.bt_nonneg s k
    have hx1 := PlainAid.bt_le s k
    have hu : ((s[k]).toNat : Int) = PlainAid.bt s k := PlainAid.get_bt s k hlt
    have hfr := from_at s k hlt
    obtain ⟨c, hc⟩ : ∃ c, c = PlainAid.bt s k := ⟨_, rfl⟩
    have hbt : ∀ h : k < s.size, ((s[k]'h).toNat : Int) = c := fun h => by rw [hc]; exact PlainAid.get_bt s k h
    rw [← hc] at hu hx0 hx1
    clear hc
    have H := Lib.hid (fun w => blank_any c hx0 hx1 w)
    by_cases hpc : blankB c = true
    · have hn : Hid (spanN blankB (bytesFrom s (k + 1)) + (k + 1) = R) := by
       rw [Hid, ← hp.out, hfr]; simp only [spanN]; rw [hu, if_pos hpc]; omega
      rw [hpc] at H
      clear hfr hu hp hpc
      go_wp2_with (go_at_call 179; refine (H.out _).mono ?_; rintro e w' ⟨rfl, rfl⟩)
      go_round
      case rel => exact ⟨k + 1, by omega, by go_num, hn⟩
      case measure => simp [intOf]; omega
    · have hn : Hid (k = R) := by
       rw [Hid, ← hp.out, hfr]; simp only [spanN]; rw [hu, if_neg hpc]; omega
      have hpf : blankB c = false := by simpa using hpc
      rw [hpf] at H
      clear hfr hu hp hpc hpf
      go_wp2_with (go_at_call 179; refine (H.out _).mono ?_; rintro e w' ⟨rfl, rfl⟩)
      go_ret
      rw [← hn.out]
      exact ⟨rfl, rfl⟩
  · have hn : Hid (s.size = R) := by
     rw [Hid, ← hp.out, from_end s k (by omega)]; simp only [spanN]; omega
    clear hp
    go_wp2_with fail
    go_ret
    rw [← hn.out]
    exact ⟨rfl, rfl⟩
theorem span_feed (s : ByteArray) (hs : s.size ≤ 4611686018427387904) (w : World) : Calls Tryz.prog 130 #[.string s, .func (.func 180) #[] #[]] w fun e w' => e = .returned (.int .i64 (spanN feedB s.data.toList)) ∧ w = w' := by
 obtain ⟨R, hR⟩ : ∃ R, R = spanN feedB s.data.toList := ⟨_, rfl⟩
 rw [← hR]
 have HR := Lib.hid hR
 clear hR
 go_enter Tryz.func130, Tryz.ntmps130
 go_wp2_with fail
 go_loop [8] (fun i => ∃ k : Nat, k ≤ s.size ∧ i = .int .i64 k ∧ Hid (spanN feedB (bytesFrom s k) + k = R)) (fun i => s.size - (intOf i).toNat)
 case atStart => exact ⟨0, Nat.zero_le _, rfl, HR.out.symm⟩
 case round =>
  obtain ⟨k, hk, rfl, hp⟩ := hrel
  by_cases hlt : k < s.size
  · have hx0 := PlainAid.bt_nonneg s k
    have hx1 := PlainAid.bt_le s k
    have hu : ((s[k]).toNat : Int) = PlainAid.bt s k := PlainAid.get_bt s k hlt
    have hfr := from_at s k hlt
    obtain ⟨c, hc⟩ : ∃ c, c = PlainAid.bt s k := ⟨_, rfl⟩
    have hbt : ∀ h : k < s.size, ((s[k]'h).toNat : Int) = c := fun h => by rw [hc]; exact PlainAid.get_bt s k h
    rw [← hc] at hu hx0 hx1
    clear hc
    have H := Lib.hid (fun w => feed_any c hx0 hx1 w)
    by_cases hpc : feedB c = true
    · have hn : Hid (spanN feedB (bytesFrom s (k + 1)) + (k + 1) = R) := by
       rw [Hid, ← hp.out, hfr]; simp only [spanN]; rw [hu, if_pos hpc]; omega
      rw [hpc] at H
      clear hfr hu hp hpc
      go_wp2_with (go_at_call 180; refine (H.out _).mono ?_; rintro e w' ⟨rfl, rfl⟩)
      go_round
      case rel => exact ⟨k + 1, by omega, by go_num, hn⟩
      case measure => simp [intOf]; omega
    · have hn : Hid (k = R) := by
       rw [Hid, ← hp.out, hfr]; simp only [spanN]; rw [hu, if_neg hpc]; omega
      have hpf : feedB c = false := by simpa using hpc
      rw [hpf] at H
      clear hfr hu hp hpc hpf
      go_wp2_with (go_at_call 180; refine (H.out _).mono ?_; rintro e w' ⟨rfl, rfl⟩)
      go_ret
      rw [← hn.out]
      exact ⟨rfl, rfl⟩
  · have hn : Hid (s.size = R) := by
     rw [Hid, ← hp.out, from_end s k (by omega)]; simp only [spanN]; omega
    clear hp
    go_wp2_with fail
    go_ret
    rw [← hn.out]
    exact ⟨rfl, rfl⟩
open Go.RowKit
set_option linter.unusedVariables false
theorem var_heap {P : Program} {w : World} {n : String} {g : Nat} {cs : Array Value} (hg : P.globalNamed n = some g) (h : w.var? P n = some cs) : ∃ t fr, w.heap[g]? = some (.cells cs t fr) := by
 simp only [World.var?, hg, Option.bind_some] at h
 split at h
 · rename_i c e fr he
   simp only [Option.some.injEq] at h
   subst h
   exact ⟨_, _, he⟩
 · cases h
def wordAt (k : Nat) : ByteArray := ⟨(wordsL.getD k []).toArray⟩
def longAt (k : Nat) : ByteArray := ⟨(longL.getD k []).toArray⟩
def wordB (s : ByteArray) : Bool := (wordAt 0).toList == s.toList || (wordAt 1).toList == s.toList || (wordAt 2).toList == s.toList || (wordAt 3).toList == s.toList || (wordAt 4).toList == s.toList || (wordAt 5).toList == s.toList || (wordAt 6).toList == s.toList || (wordAt 7).toList == s.toList || (wordAt 8).toList == s.toList || (wordAt 9).toList == s.toList
theorem word_any (s : ByteArray) (w : World) (T : LTabs w) : Calls Tryz.prog 129 #[.string s] w fun e w' => e = .returned (.bool (wordB s)) ∧ w = w' := by
 obtain ⟨tt, fr, hg⟩ := var_heap gWords T.words
 have i0 : ∀ w, (Instr.index 195 (.agg wordCells) (.int .i64 0)).run Tryz.prog w = .ok (.string (wordAt 0)) w := fun _ => by kernel_rfl
 have i1 : ∀ w, (Instr.index 195 (.agg wordCells) (.int .i64 1)).run Tryz.prog w = .ok (.string (wordAt 1)) w := fun _ => by kernel_rfl
 have i2 : ∀ w, (Instr.index 195 (.agg wordCells) (.int .i64 2)).run Tryz.prog w = .ok (.string (wordAt 2)) w := fun _ => by kernel_rfl
 have i3 : ∀ w, (Instr.index 195 (.agg wordCells) (.int .i64 3)).run Tryz.prog w = .ok (.string (wordAt 3)) w := fun _ => by kernel_rfl
 have i4 : ∀ w, (Instr.index 195 (.agg wordCells) (.int .i64 4)).run Tryz.prog w = .ok (.string (wordAt 4)) w := fun _ => by kernel_rfl
 have i5 : ∀ w, (Instr.index 195 (.agg wordCells) (.int .i64 5)).run Tryz.prog w = .ok (.string (wordAt 5)) w := fun _ => by kernel_rfl
 have i6 : ∀ w, (Instr.index 195 (.agg wordCells) (.int .i64 6)).run Tryz.prog w = .ok (.string (wordAt 6)) w := fun _ => by kernel_rfl
 have i7 : ∀ w, (Instr.index 195 (.agg wordCells) (.int .i64 7)).run Tryz.prog w = .ok (.string (wordAt 7)) w := fun _ => by kernel_rfl
 have i8 : ∀ w, (Instr.index 195 (.agg wordCells) (.int .i64 8)).run Tryz.prog w = .ok (.string (wordAt 8)) w := fun _ => by kernel_rfl
 have i9 : ∀ w, (Instr.index 195 (.agg wordCells) (.int .i64 9)).run Tryz.prog w = .ok (.string (wordAt 9)) w := fun _ => by kernel_rfl
 clear T
 go_enter Tryz.func129, Tryz.ntmps129
 go_wp2_with (refine wpList_load_row rfl 195 _ rfl 0 rfl tt _ fr _ hg Tryz.underlying195 rfl (by kernel_rfl) ?_)
 go_rounds 11
 all_goals
  go_ret
  exact ⟨ret_bool (by simp [wordB, *]), rfl⟩
end Go.Proofs.YtikaflpiephaiaaGreatDoor

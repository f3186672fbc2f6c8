/- Numbers: the words' tables, their texts as tokens, and the law. -/
import Derived.Test.YteedpojchapjgaaDoorWBack
import Derived.WalkLawsBesides
import Derived.Laws.Rows
import Derived.Laws.Tables
import Derived.Lib.LaidTab
import Derived.Lib.ItoaNum
import Derived.LaidMore
import Derived.Stop.Joined
import Derived.SevenTiedAt
import Derived.Test.YteedpojchapjgaaDoorLexBack2
namespace Go.Proofs.YteedpojchapjgaaDoor
open Go.RowKit Go.WideMaps
set_option linter.unusedVariables false

def lev : List Int := [0, 7, 7, 8, 8, 8, 3, 1, 2, 6, 6, 4, 4, 5, 5, 5, 5, 9, 9]
def sgn : List (List UInt8) := [[], [43], [45], [42], [47], [37], [38], [124], [94], [60, 60], [62, 62], [61, 61], [33, 61], [60], [60, 61], [62], [62, 61], [45], [33]]


theorem gPow : Tryd.prog.globalNamed "internal/strconv.uint64pow10" = some 5 := by kernel_rfl
theorem gLev : Tryd.prog.globalNamed "stile/words.levels" = some 4 := by kernel_rfl
theorem gSgn : Tryd.prog.globalNamed "stile/words.signs" = some 1 := by kernel_rfl
theorem tPow : (Tryd.prog.globals[5]?).map (·.type) = some 117 := by kernel_rfl
theorem tLev : (Tryd.prog.globals[4]?).map (·.type) = some 114 := by kernel_rfl
theorem tSgn : (Tryd.prog.globals[1]?).map (·.type) = some 78 := by kernel_rfl

/-- What the listed variables hold. -/
structure NTabs (W : World) : Prop where
  size : 6 ≤ W.heap.size
  lev : ∀ i, i < 19 → W.cell? ⟨4, i, none⟩ = some (.int .i64 (lev.getD i 0))
  sgn : ∀ i, i < 19 → W.cell? ⟨1, i, none⟩ = some (.string ⟨(sgn.getD i []).toArray⟩)
  pow : Lib.TabIs Tryd.prog W "internal/strconv.uint64pow10" .u64 Lib.pow10Tab


theorem NTabs.below {W W' : World} {B : Nat} (T : NTabs W) (hB : W.heap.size ≤ B) (h : Below B W W') : NTabs W' := by
  have hz := T.size
  have lt : ∀ g, g < 6 → g < B := fun g hg => by omega
  refine ⟨by have := h.size; omega, fun i hi => ?_, fun i hi => ?_, ?_⟩
  · rw [h.cell (p := ⟨4, i, none⟩) (lt 4 (by decide))]; exact T.lev i hi
  · rw [h.cell (p := ⟨1, i, none⟩) (lt 1 (by decide))]; exact T.sgn i hi
  · exact var?_below h gPow (lt _ (by decide)) T.pow


def levelOf (o : Int) : Int := if 19 ≤ o then 0 else lev.getD o.toNat 0

theorem level_any (o : Int) (h0 : 0 ≤ o) (h1 : o ≤ 255) (w : World) (T : NTabs w) :
    Calls Tryd.prog 82 #[.int .u8 o] w fun e w' => e = .returned (.int .i64 (levelOf o)) ∧ w = w' := by
  by_cases h : 19 ≤ o
  · have hl : levelOf o = 0 := by unfold levelOf; rw [if_pos h]
    rw [hl]; clear hl
    go_enter Tryd.func82, Tryd.ntmps82
    go_wp2
    go_ret
    exact ⟨rfl, rfl⟩
  · have hc := T.lev o.toNat (by omega)
    have hl : levelOf o = lev.getD o.toNat 0 := by unfold levelOf; rw [if_neg h]
    rw [hl]; clear hl
    obtain ⟨v, hv⟩ : ∃ v, v = lev.getD o.toNat 0 := ⟨_, rfl⟩
    rw [← hv] at hc ⊢
    clear hv T
    go_enter Tryd.func82, Tryd.ntmps82
    go_wp2
    go_ret
    exact ⟨rfl, rfl⟩

def opsCells : Array Value := #[.nilFunc, .nilFunc, .func (.func 83) #[] #[], .nilFunc, .func (.func 84) #[] #[], .nilFunc, .func (.func 85) #[] #[], .nilFunc, .func (.func 86) #[] #[], .nilFunc, .func (.func 87) #[] #[], .nilFunc, .func (.func 88) #[] #[], .nilFunc, .func (.func 89) #[] #[], .nilFunc, .func (.func 90) #[] #[], .nilFunc, .func (.func 91) #[] #[], .nilFunc, .func (.func 92) #[] #[], .nilFunc, .func (.func 93) #[] #[], .nilFunc, .func (.func 95) #[] #[], .nilFunc, .func (.func 96) #[] #[], .nilFunc, .func (.func 97) #[] #[], .nilFunc, .func (.func 98) #[] #[], .nilFunc, .func (.func 99) #[] #[], .nilFunc, .nilFunc, .func (.func 100) #[] #[], .nilFunc, .func (.func 101) #[] #[]]
def opsV : Value := .agg opsCells
theorem ops_any (w : World) :
    Calls Tryd.prog 71 #[] w fun e w' => e = .returned opsV ∧ Below w.heap.size w w' := by
  go_enter Tryd.func71, Tryd.ntmps71
  go_wp2_with (refine wpList_store_row rfl 97 _ _ rfl w.heap.size opsCells rfl rfl 97 _ (heap_alloc_new w _) (by kernel_rfl) rfl (by kernel_rfl) ?_)
  refine bodyPost_ret (v := opsV) (results_cell_row rfl _ _ w.heap.size 97 opsCells (0, 0) _ rfl (setRow_heap _ _ _ _ _ _ (heap_alloc_new w _)) Tryd.underlying97 rfl (by kernel_rfl)) rfl ?_
  exact ⟨rfl, below_setRow ((Below.refl _ _).alloc (Nat.le_refl _) _) (Nat.le_refl _) _⟩

def bin1 (a b : Int) : Int := wrap64 (a + b)

theorem meth1 (a b : Int) (w : World) : Calls Tryd.prog 83 #[.int .i64 a, .int .i64 b] w fun e w' => e = .returned (.int .i64 (bin1 a b)) ∧ w = w' := by
  go_enter Tryd.func83, Tryd.ntmps83
  go_wp2
  go_ret
  exact ⟨rfl, rfl⟩

theorem two_yes (o : Int) (h0 : 0 ≤ o) (h1 : o ≤ 255) (hl : 0 < levelOf o) (hh : levelOf o < 9) (w : World) (T : NTabs w) :
    Calls Tryd.prog 70 #[.int .u8 o] w fun e w' => e = .returned (.bool true) ∧ w = w' := by
  have H := Lib.hid (level_any o h0 h1 w T)
  obtain ⟨v, hv⟩ : ∃ v, v = levelOf o := ⟨_, rfl⟩
  rw [← hv] at hl hh H
  clear hv T h0 h1
  go_enter Tryd.func70, Tryd.ntmps70
  go_wp2_with (go_at_call 82; refine (H.out).mono ?_; rintro e w' ⟨rfl, rfl⟩)
  go_ret
  exact ⟨rfl, rfl⟩

theorem do1 (a b : Int) (w : World) (T : NTabs w) : Calls Tryd.prog 53 #[.int .u8 1, .int .i64 a, .int .i64 b] w fun e w' => e = .returned (.tuple #[.int .i64 (bin1 a b), .int .i64 0]) ∧ Below w.heap.size w w' := by
  have H2 := Lib.hid (two_yes 1 (by decide) (by decide) (by decide) (by decide) w T)
  have hidx : ∀ w, (Instr.index 97 opsV (.int .u8 1)).run Tryd.prog w = .ok (.agg #[.func (.func 83) #[] #[], .nilFunc]) w := fun _ => by kernel_rfl
  have hfld : ∀ w, (Instr.field 96 (.agg #[.func (.func 83) #[] #[], .nilFunc]) 0).run Tryd.prog w = .ok (.func (.func 83) #[] #[]) w := fun _ => by kernel_rfl
  clear T
  go_enter Tryd.func53, Tryd.ntmps53
  go_wp2_with (first | (go_at_call 70; refine (H2.out).mono ?_; rintro e w' ⟨rfl, rfl⟩) | (go_at_call 71; refine (ops_any _).mono ?_; rintro e w1 ⟨rfl, hb⟩) | (go_at_call 83; refine (meth1 _ _ _).mono ?_; rintro e w' ⟨rfl, rfl⟩))
  go_ret2
  exact ⟨rfl, hb⟩

theorem below_gro (w : World) (k : Nat) (os : Array Obj) : Below w.heap.size w (Sort.grow (w.drewN k) os) := by
  refine ⟨rfl, rfl, rfl, ?_, fun i hi => ?_⟩
  · show w.heap.size ≤ (w.heap ++ os).size
    simp
  · show (w.heap ++ os)[i]? = _
    rw [Array.getElem?_append_left hi]
theorem wprint_any (n : Int) (h0 : -9223372036854775808 ≤ n) (h1 : n ≤ 9223372036854775807) (w : World) (T : NTabs w) :
    Calls Tryd.prog 32 #[.int .i64 n] w fun e w' => e = .returned (.string ⟨(Lib.itoa n).toArray⟩) ∧ Below w.heap.size w w' := by
  have H := Lib.hid (show Calls Tryd.prog 54 #[.int .i64 n, .int .i64 10] w fun e w' => e = .returned (.string ⟨(Lib.itoa n).toArray⟩) ∧ Below w.heap.size w w' from
    (Go.Proofs.Tryd.strconv_FormatInt_10 n h0 h1 w T.pow).mono fun e w' ⟨he, k, os, hw⟩ => ⟨he, by rw [hw]; exact below_gro w k os⟩)
  obtain ⟨s, hs⟩ : ∃ s : ByteArray, s = ⟨(Lib.itoa n).toArray⟩ := ⟨_, rfl⟩
  rw [← hs] at H ⊢
  clear hs T
  go_enter Tryd.func32, Tryd.ntmps32
  go_wp2_with (go_at_call 54; refine (H.out).mono ?_; rintro e w' ⟨rfl, hb⟩)
  go_ret
  exact ⟨rfl, hb⟩
/-- An operator's sign. -/
def signOf (o : Int) : List UInt8 := if 19 ≤ o then [] else sgn.getD o.toNat []
theorem show_any (o : Int) (h0 : 0 ≤ o) (h1 : o ≤ 255) (w : World) (T : NTabs w) :
    Calls Tryd.prog 33 #[.int .u8 o] w fun e w' => e = .returned (.string ⟨(signOf o).toArray⟩) ∧ w = w' := by
  by_cases h : 19 ≤ o
  · have hl : signOf o = [] := by unfold signOf; rw [if_pos h]
    rw [hl]; clear hl
    go_enter Tryd.func33, Tryd.ntmps33
    go_wp2
    go_ret
    exact ⟨rfl, rfl⟩
  · have hc := T.sgn o.toNat (by omega)
    have hl : signOf o = sgn.getD o.toNat [] := by unfold signOf; rw [if_neg h]
    rw [hl]; clear hl
    obtain ⟨v, hv⟩ : ∃ v : ByteArray, v = ⟨(sgn.getD o.toNat []).toArray⟩ := ⟨_, rfl⟩
    rw [← hv] at hc ⊢
    clear hv T
    go_enter Tryd.func33, Tryd.ntmps33
    go_wp2
    go_ret
    exact ⟨rfl, rfl⟩

structure AllTabs (W : World) : Prop where
  l : LTabs W
  n : NTabs W
theorem AllTabs.below {W W' : World} (T : AllTabs W) (h : Below W.heap.size W W') : AllTabs W' := ⟨T.l.below (Nat.le_refl _) h, T.n.below (Nat.le_refl _) h⟩
theorem all_of_laid {W : World} (h : laidMetH Tryd.prog [("math/bits.deBruijn32tab", Rows.laid_math_bits_deBruijn32tab), ("math/bits.deBruijn64tab", Rows.laid_math_bits_deBruijn64tab), ("internal/strconv.uint64pow10", Rows.laid_internal_strconv_uint64pow10), ("stile/words.levels", Rows.laid_stile_words_levels), ("stile/words.signs", Rows.laid_stile_words_signs), ("stile/lexer.languageWords", Rows.laid_stile_lexer_languageWords), ("stile/lexer.longSigns", Rows.laid_stile_lexer_longSigns)] W) : AllTabs W := by
  rw [MakeChecks.laidMetH_plain _ _ _ (by kernel_rfl)] at h
  obtain ⟨ps, ⟨g0, t0, cs0, f0, p0, q0, hg0, ht0, hv0, hd0, ⟨g1, t1, cs1, f1, p1, q1, hg1, ht1, hv1, hd1, ⟨g2, t2, cs2, f2, p2, q2, hg2, ht2, hv2, hd2, ⟨g3, t3, cs3, f3, p3, q3, hg3, ht3, hv3, hd3, ⟨g4, t4, cs4, f4, p4, q4, hg4, ht4, hv4, hd4, ⟨g5, t5, cs5, f5, p5, q5, hg5, ht5, hv5, hd5, ⟨g6, t6, cs6, f6, p6, q6, hg6, ht6, hv6, hd6, _, _⟩, _⟩, _⟩, _⟩, _⟩, _⟩, _⟩, _, _⟩ := h
  obtain rfl := Option.some.inj (gPow.symm.trans hg2)
  obtain rfl := Option.some.inj (gLev.symm.trans hg3)
  obtain rfl := Option.some.inj (gSgn.symm.trans hg4)
  obtain rfl := Option.some.inj (gWords.symm.trans hg5)
  obtain rfl := Option.some.inj (gLong.symm.trans hg6)
  obtain rfl := Option.some.inj (tPow.symm.trans ht2)
  obtain rfl := Option.some.inj (tLev.symm.trans ht3)
  obtain rfl := Option.some.inj (tSgn.symm.trans ht4)
  obtain rfl := Option.some.inj (tWords.symm.trans ht5)
  obtain rfl := Option.some.inj (tLong.symm.trans ht6)
  have c2 := Lib.cells_of_tab (k := .u64) (zs := Lib.pow10Tab) Tryd.underlying117 Tryd.underlying99 (by kernel_rfl) (by kernel_rfl) hd2
  have c3 := Lib.cells_of_tab (k := .i64) (zs := lev) Tryd.underlying114 Tryd.underlying3 (by kernel_rfl) (by kernel_rfl) hd3
  have c4 := cells_of_strs (ss := sgn) Tryd.underlying78 Tryd.underlying9 (by kernel_rfl) (by kernel_rfl) hd4
  have c5 := cells_of_strs (ss := wordsL) Tryd.underlying54 Tryd.underlying9 (by kernel_rfl) (by kernel_rfl) hd5
  have c6 := cells_of_strs (ss := longL) Tryd.underlying79 Tryd.underlying9 (by kernel_rfl) (by kernel_rfl) hd6
  have e5 : cs5 = wordCells := by unfold wordCells; rw [← c5]
  have e6 : cs6 = longCells := by unfold longCells; rw [← c6]
  have a2 : W.cell? ⟨5, 0, none⟩ = some (.int .u64 1) := by
    have := World.var?_cell gPow hv2 0
    rw [← Array.getElem?_toList, c2] at this
    exact this
  have hsz := lt_of_at a2
  subst e5 e6
  refine ⟨⟨hv5, hv6, ?_⟩, ⟨hsz, fun i hi => ?_, fun i hi => ?_, ?_⟩⟩
  · have : (5 : Nat) < W.heap.size := hsz
    omega
  · have := World.var?_cell gLev hv3 i
    rw [← Array.getElem?_toList, c3] at this
    rw [this]
    have hl : i < lev.length := hi
    simp [List.getD, hl]
  · have := World.var?_cell gSgn hv4 i
    rw [← Array.getElem?_toList, c4] at this
    rw [this]
    have hl : i < sgn.length := hi
    simp [List.getD, hl]
  · unfold Lib.TabIs
    rw [hv2, ← c2]
theorem ndoor_met (os : Os) (args : Array Value) : laidMetH Tryd.prog [("math/bits.deBruijn32tab", Rows.laid_math_bits_deBruijn32tab), ("math/bits.deBruijn64tab", Rows.laid_math_bits_deBruijn64tab), ("internal/strconv.uint64pow10", Rows.laid_internal_strconv_uint64pow10), ("stile/words.levels", Rows.laid_stile_words_levels), ("stile/words.signs", Rows.laid_stile_words_signs), ("stile/lexer.languageWords", Rows.laid_stile_lexer_languageWords), ("stile/lexer.longSigns", Rows.laid_stile_lexer_longSigns)] ((World.doorLaid Tryd.prog 400 os).forCall (fun _ _ => 0) ⟨#[], args, []⟩).memory :=
  laidMetH_of_parts3 (fuel := 8) (laidMet_of_run' 8 (by kernel_rfl) (by kernel_rfl)) (by kernel_rfl) (by kernel_rfl)
end Go.Proofs.YteedpojchapjgaaDoor

namespace Go.Proofs.YteedpojchapjgaaDoor
open Go.RowKit
set_option linter.unusedVariables false

theorem ndec_last (n : Nat) (h : 10 ≤ n) : Lib.decDigits n = Lib.decDigits (n / 10) ++ [UInt8.ofNat (48 + n % 10)] := by
  rw [Lib.decDigits, dif_neg (by omega)]
theorem ndigit_nat (k : Nat) (h : k < 10) : ((UInt8.ofNat (48 + k)).toNat : Int) = 48 + k := by
  rw [UInt8.toNat_ofNat']; omega
theorem digitsV_snoc (c : UInt8) : ∀ (l : List UInt8) (v : Int), digitsV (l ++ [c]) v = match digitsV l v with
    | none => none
    | some z => if digitB (c.toNat : Int) = false then none else if (9223372036854775807 - ((c.toNat : Int) - 48)) / 10 < z then none else some (z * 10 + ((c.toNat : Int) - 48))
  | [], v => by simp only [List.nil_append, digitsV]
  | d :: l, v => by
    simp only [List.cons_append, digitsV]
    split
    · rfl
    · split
      · rfl
      · exact digitsV_snoc c l _
theorem dec_small (n : Nat) (h : n < 10) : Lib.decDigits n = [UInt8.ofNat (48 + n)] := by
  exact Lib.decDigits_one h
theorem dec_value : ∀ (m n : Nat), n ≤ m → n ≤ 9223372036854775807 → digitsV (Lib.decDigits n) 0 = some (n : Int)
  | 0, n, h, _ => by
    have : n = 0 := by omega
    subst this
    rw [dec_small 0 (by decide)]
    decide
  | m + 1, n, h, hn => by
    by_cases h10 : n < 10
    · rw [dec_small n h10]
      have e := ndigit_nat n h10
      simp only [digitsV]
      rw [e]
      have hd : digitB (48 + (n : Int)) = true := by unfold digitB; exact b_t (by omega)
      rw [hd, if_neg (by decide), if_neg (by omega)]
      congr 1; omega
    · have ih := dec_value m (n / 10) (by omega) (by omega)
      rw [ndec_last n (by omega), digitsV_snoc, ih]
      have e := ndigit_nat (n % 10) (by omega)
      simp only
      rw [e]
      have hd : digitB (48 + ((n % 10 : Nat) : Int)) = true := by unfold digitB; exact b_t (by omega)
      rw [hd, if_neg (by decide), if_neg (by omega)]
      congr 1; omega
theorem dec_head : ∀ (m n : Nat), n ≤ m → 0 < n → ∃ c r, Lib.decDigits n = c :: r ∧ digitB (c.toNat : Int) = true ∧ ¬ (c.toNat : Int) = 48
  | 0, n, h, h0 => by omega
  | m + 1, n, h, h0 => by
    by_cases h10 : n < 10
    · rw [dec_small n h10]
      have e := ndigit_nat n h10
      exact ⟨_, [], rfl, by rw [e]; unfold digitB; exact b_t (by omega), by rw [e]; omega⟩
    · obtain ⟨c, r, hc, hd, h48⟩ := dec_head m (n / 10) (by omega) (by omega)
      rw [ndec_last n (by omega), hc]
      exact ⟨c, r ++ [UInt8.ofNat (48 + n % 10)], rfl, hd, h48⟩
theorem dec_valueO (n : Nat) (hn : n ≤ 9223372036854775807) : valueO (Lib.decDigits n) = some (n : Int) := by
  have hv := dec_value n n (Nat.le_refl _) hn
  by_cases h0 : n = 0
  · subst h0
    rw [dec_small 0 (by decide)]
    decide
  · obtain ⟨c, r, hc, _, h48⟩ := dec_head n n (Nat.le_refl _) (by omega)
    rw [hc] at hv ⊢
    simp only [valueO]
    rw [if_neg (fun h => h48 h.1)]
    exact hv
theorem dec_great : valueO (Lib.decDigits 9223372036854775808) = none := by
  have hv := dec_value 922337203685477580 922337203685477580 (Nat.le_refl _) (by decide)
  have e0 : digitsV (Lib.decDigits 9223372036854775808) 0 = none := by
    rw [ndec_last 9223372036854775808 (by decide), digitsV_snoc]
    have e1 : (9223372036854775808 : Nat) / 10 = 922337203685477580 := by decide
    rw [e1, hv]
    have e := ndigit_nat (9223372036854775808 % 10) (by decide)
    simp only
    rw [e]
    decide
  obtain ⟨c, r, hc, _, h48⟩ := dec_head 9223372036854775808 9223372036854775808 (Nat.le_refl _) (by decide)
  rw [hc] at e0 ⊢
  simp only [valueO]
  rw [if_neg (fun h => h48 h.1)]
  exact e0
def blanks (b : Nat) : List UInt8 := List.replicate b 32
theorem blanks_stop (b : Nat) : stopH (blanks b) = true := by
  cases b with
  | zero => rfl
  | succ b => show blankB _ = true; decide
theorem blanks_sk : ∀ (b : Nat) (Z : List UInt8), sk false (blanks b ++ Z) = b + sk false Z
  | 0, Z => by simp [blanks]
  | b + 1, Z => by
    show sk false (32 :: (blanks b ++ Z)) = _
    rw [sk_blank _ (by decide), blanks_sk b Z]; omega
theorem blanks_drop (b : Nat) (Z : List UInt8) : (blanks b ++ Z).drop b = Z := by
  have : (blanks b).length = b := by simp [blanks]
  rw [List.drop_append_of_le_length (by omega), List.drop_of_length_le (by omega), List.nil_append]
theorem blanks_rest0 (e b : Nat) : restL e (blanks b) = ([], 0, 0) := by
  refine rest_nil ?_
  have := blanks_sk b []
  rw [List.append_nil] at this
  rw [this]
  show (blanks b).drop (b + 0) = []
  exact List.drop_of_length_le (by simp [blanks])
/-- The text of a word that is not below 0, blanks about it. -/
theorem num_rest (n b : Nat) (hn : n ≤ 9223372036854775807) : ∃ p, restL 0 (blanks b ++ (Lib.decDigits n ++ blanks b)) = ([⟨3, ⟨(Lib.decDigits n).toArray⟩, n, p, 0, 0⟩], 0, 0) := by
  obtain ⟨t1, t2, t3⟩ := number_tx (dec_valueO n hn)
  have hz : sk false (blanks b ++ (Lib.decDigits n ++ blanks b)) = b := by rw [blanks_sk, t3 _ (blanks_stop b)]; rfl
  have hd : (blanks b ++ (Lib.decDigits n ++ blanks b)).drop (sk false (blanks b ++ (Lib.decDigits n ++ blanks b))) = Lib.decDigits n ++ blanks b := by rw [hz]; exact blanks_drop b _
  have hN : nextL (Lib.decDigits n ++ blanks b) = ⟨3, (Lib.decDigits n).length, n, 0, 0⟩ := by rw [nextL_stop t2 (blanks_stop b), t1]
  have hr := rest_tok (e := 0) hd (by rw [hN])
  rw [hN, hz] at hr
  simp only [List.drop_left] at hr
  rw [blanks_rest0] at hr
  refine ⟨((0 + b : Nat) : Int), ?_⟩
  rw [hr]
  unfold toRes
  rw [if_pos rfl, List.take_left]
theorem minus_next (c : UInt8) (r : List UInt8) : nextL (45 :: c :: r) = ⟨4, 1, 0, 0, 0⟩ := by
  have e : aheadN (45 :: c :: r) = 1 := by
    unfold aheadN
    have hl : longB (45 :: c :: r) = false := by
      rw [longW_cons, longW_eq]
      simp [longW, List.isPrefixOf]
    rw [hl, if_neg (by decide)]
    simp only [firstN]
    rw [if_pos (by decide)]
  simp only [nextL]
  rw [if_neg (by decide), if_neg (by decide), if_pos (by decide), e]
/-- The text of a word below 0, blanks about it. -/
theorem neg_rest (n b : Nat) (h0 : 0 < n) (hn : n ≤ 9223372036854775807) : ∃ p q, restL 0 (blanks b ++ (45 :: (Lib.decDigits n ++ blanks b))) = ([⟨4, ⟨#[45]⟩, 0, p, 0, 0⟩, ⟨3, ⟨(Lib.decDigits n).toArray⟩, n, q, 0, 0⟩], 0, 0) := by
  obtain ⟨t1, t2, t3⟩ := number_tx (dec_valueO n hn)
  obtain ⟨c, r, hc, _, _⟩ := dec_head n n (Nat.le_refl _) h0
  have hz : sk false (blanks b ++ (45 :: (Lib.decDigits n ++ blanks b))) = b := by rw [blanks_sk, sk_first _ (by decide) (by decide)]; rfl
  have hd : (blanks b ++ (45 :: (Lib.decDigits n ++ blanks b))).drop (sk false (blanks b ++ (45 :: (Lib.decDigits n ++ blanks b)))) = 45 :: (Lib.decDigits n ++ blanks b) := by rw [hz]; exact blanks_drop b _
  have hN : nextL (45 :: (Lib.decDigits n ++ blanks b)) = ⟨4, 1, 0, 0, 0⟩ := by rw [hc, List.cons_append]; exact minus_next _ _
  have hr := rest_tok (e := 0) hd (by rw [hN])
  rw [hN, hz] at hr
  simp only [List.drop_succ_cons, List.drop_zero] at hr
  have hz2 : sk false (Lib.decDigits n ++ blanks b) = 0 := t3 _ (blanks_stop b)
  have hN2 : nextL (Lib.decDigits n ++ blanks b) = ⟨3, (Lib.decDigits n).length, n, 0, 0⟩ := by rw [nextL_stop t2 (blanks_stop b), t1]
  have hr2 := rest_tok (e := 0 + b + 1) (l := Lib.decDigits n ++ blanks b) (m := Lib.decDigits n ++ blanks b) (by rw [hz2]; rfl) (by rw [hN2])
  rw [hN2, hz2] at hr2
  simp only [List.drop_left] at hr2
  rw [blanks_rest0] at hr2
  rw [hr2] at hr
  refine ⟨((0 + b : Nat) : Int), ((0 + b + 1 + 0 : Nat) : Int), ?_⟩
  rw [hr]
  unfold toRes
  rw [if_pos rfl, if_pos rfl, List.take_left]
  rfl
/-- The least word's amount is none. -/
theorem least_rest (b : Nat) : (restL 0 (blanks b ++ (45 :: (Lib.decDigits 9223372036854775808 ++ blanks b)))).2.2 = 3 := by
  obtain ⟨c, r, hc, hcd, _⟩ := dec_head 9223372036854775808 9223372036854775808 (Nat.le_refl _) (by decide)
  obtain ⟨D, hD⟩ : ∃ D, D = Lib.decDigits 9223372036854775808 := ⟨_, rfl⟩
  have hv := dec_great
  have hs : spanN digitB D = D.length := by
    have k := dec_value 922337203685477580 922337203685477580 (Nat.le_refl _) (by decide)
    have k2 := digits_span _ _ _ k
    have e : D = Lib.decDigits 922337203685477580 ++ [56] := by
      rw [hD, ndec_last 9223372036854775808 (by decide)]; rfl
    have key : ∀ l : List UInt8, spanN digitB l = l.length → spanN digitB (l ++ [56]) = l.length + 1 := by
      intro l
      induction l with
      | nil => intro _; decide
      | cons d l ih =>
        intro h
        simp only [spanN, List.length_cons] at h
        simp only [List.cons_append, spanN, List.length_cons]
        split at h
        · rename_i hd; rw [if_pos hd, ih (by omega)]
        · omega
    rw [e, key _ k2]; simp
  rw [← hD] at hv hc ⊢
  obtain ⟨q1, q2, q3⟩ := digit_not hcd
  have hz : sk false (blanks b ++ (45 :: (D ++ blanks b))) = b := by rw [blanks_sk, sk_first _ (by decide) (by decide)]; rfl
  have hd : (blanks b ++ (45 :: (D ++ blanks b))).drop (sk false (blanks b ++ (45 :: (D ++ blanks b)))) = 45 :: (D ++ blanks b) := by rw [hz]; exact blanks_drop b _
  have hN : nextL (45 :: (D ++ blanks b)) = ⟨4, 1, 0, 0, 0⟩ := by rw [hc, List.cons_append]; exact minus_next _ _
  have hr := rest_tok (e := 0) hd (by rw [hN])
  rw [hN, hz] at hr
  simp only [List.drop_succ_cons, List.drop_zero] at hr
  have hz2 : sk false (D ++ blanks b) = 0 := by rw [hc, List.cons_append]; exact sk_first _ q1 q2
  have hne : ¬ D = [] := by rw [hc]; simp
  have hN2 : nextL (D ++ blanks b) = ⟨0, 0, 0, 0, 3⟩ := by
    rw [nextL_stop hne (blanks_stop b)]
    have e1 : nextL D = numL D := by
      rw [hc]
      simp only [nextL]
      rw [if_neg (by rw [q3]; decide), if_pos hcd]
    rw [e1]
    unfold numL
    rw [hs, List.take_of_length_le (Nat.le_refl _), hv]
    rfl
  have hr2 := rest_fault (e := 0 + b + 1) (l := D ++ blanks b) (m := D ++ blanks b) (by rw [hz2]; rfl) (by rw [hc]; simp) (by rw [hN2]; decide)
  rw [hN2] at hr2
  rw [hr, hr2]
end Go.Proofs.YteedpojchapjgaaDoor

namespace Go.Proofs.YteedpojchapjgaaDoor
open Go.RowKit
set_option linter.unusedVariables false

def textC : ByteArray := ⟨#[120, 32, 61, 32, 49, 50, 59]⟩
theorem frontC : frontR textC = ([⟨1, ⟨#[120]⟩, 0, 0, 0, 0⟩, ⟨4, ⟨#[61]⟩, 0, 2, 0, 0⟩, ⟨3, ⟨#[49, 50]⟩, 12, 4, 0, 0⟩, ⟨4, ⟨#[59]⟩, 0, 6, 0, 0⟩], 0, 0) := by kernel_rfl
theorem scanC : scanX textC = ([⟨1, ⟨#[120]⟩, 0, 0, 0, 0⟩, ⟨4, ⟨#[61]⟩, 0, 2, 0, 0⟩, ⟨3, ⟨#[49, 50]⟩, 12, 4, 0, 0⟩, ⟨4, ⟨#[59]⟩, 0, 6, 0, 0⟩], 0, 0, 0) := by
  rw [scan_front (by decide) (by rw [frontC]), frontC]
/-- What the laws keep. -/
structure NInv (w w' : World) : Prop where
  tabs : AllTabs w'
  below : Below w.heap.size w w'
theorem NInv.start {w : World} (T : AllTabs w) : NInv w w := ⟨T, Below.refl _ _⟩
theorem NInv.next {w0 w w' : World} (I : NInv w0 w) (hb : Below w.heap.size w w') : NInv w0 w' := ⟨I.tabs.below hb, I.below.trans (hb.mono I.below.size)⟩
theorem NInv.l {w0 w : World} (I : NInv w0 w) : LInv w w := LInv.start I.tabs.l
set_option maxRecDepth 100000 in
set_option maxHeartbeats 4000000 in
theorem tbegins_any (w : World) (T : AllTabs w) : Calls Tryd.prog 31 #[] w fun e w' => e = .returned (.bool true) ∧ Below w.heap.size w w' := by
  have HD : Hid (Calls Tryd.prog 53 #[.int .u8 1, .int .i64 2, .int .i64 3] w fun e w' => e = .returned (.tuple #[.int .i64 5, .int .i64 0]) ∧ Below w.heap.size w w') := by
    have k := do1 2 3 w T.n
    have e : bin1 2 3 = 5 := by unfold bin1 wrap64; decide
    rw [e] at k
    exact k
  have HS : Hid (∀ W, AllTabs W → Calls Tryd.prog 22 #[.string ⟨#[120, 32, 61, 32, 49, 50, 59]⟩] W fun e w' => ∃ g off cap, e = .returned (.tuple #[.slice (some ⟨g, off, none⟩) 4 cap, .int .i64 0, .agg #[.int .i64 0, .int .i64 0]]) ∧ w'.cell? ⟨g, off + 8, none⟩ = some (.int .u8 3) ∧ w'.cell? ⟨g, off + 8 + 2, none⟩ = some (.int .i64 12) ∧ Below W.heap.size W w') := fun W TW => by
    refine (scan_of scanC (LInv.start TW.l)).mono ?_
    rintro e w' ⟨u, rfl, ht, hb⟩
    have ht2 := ht
    obtain ⟨oa, cap, rfl, _⟩ := ht
    obtain ⟨g, off, rfl, a0, a1, a2, a3⟩ := ht2.at (k := 2) (by decide)
    exact ⟨g, off, cap, rfl, a0, a2, hb⟩
  have HP : Hid (∀ W, AllTabs W → Calls Tryd.prog 32 #[.int .i64 (-7)] W fun e w' => e = .returned (.string ⟨#[45, 55]⟩) ∧ Below W.heap.size W w') := fun W TW => by
    have k := wprint_any (-7) (by decide) (by decide) W TW.n
    have e : Lib.itoa (-7) = [45, 55] := by
      show 45 :: Lib.decDigits 7 = _
      rw [Lib.decDigits_one (by decide)]; rfl
    rw [e] at k
    exact k
  have HT := Lib.hid T
  clear T
  go_enter Tryd.func31, Tryd.ntmps31
  go_wp2_with (go_at_call 53; refine (HD.out).mono ?_; rintro e w1 ⟨rfl, hb1⟩; have I1 := Lib.hid ((NInv.start HT.out).next hb1); clear hb1)
  refine (HS.out _ I1.out.tabs).mono ?_
  rintro e w2 ⟨g, off, cap, rfl, a0, a2, hb2⟩
  have I2 := Lib.hid ((I1.out.next hb2).next ((Below.refl _ w2).alloc (Nat.le_refl _) (.cells #[.int .i64 0, .int .i64 0] 27)))
  have hg : g < w2.heap.size := lt_of_at a0
  clear hb2
  go_wp2_with fail
  refine (HP.out _ I2.out.tabs).mono ?_
  rintro e w3 ⟨rfl, hb3⟩
  have b0 := (hb3.cell (p := ⟨g, off + 8, none⟩) (by simp; omega)).trans (((Below.refl _ w2).alloc (Nat.le_refl _) (.cells #[.int .i64 0, .int .i64 0] 27)).cell (p := ⟨g, off + 8, none⟩) hg |>.trans a0)
  have b2 := (hb3.cell (p := ⟨g, off + 8 + 2, none⟩) (by simp; omega)).trans (((Below.refl _ w2).alloc (Nat.le_refl _) (.cells #[.int .i64 0, .int .i64 0] 27)).cell (p := ⟨g, off + 8 + 2, none⟩) hg |>.trans a2)
  have I3 := Lib.hid (I2.out.next hb3)
  clear hb3
  go_wp2_with fail
  go_ret
  exact ⟨rfl, I3.out.below⟩
end Go.Proofs.YteedpojchapjgaaDoor

namespace Go.Proofs.YteedpojchapjgaaDoor
open Go.RowKit
set_option linter.unusedVariables false

theorem tbegins_i {w0 w : World} (I : NInv w0 w) : Calls Tryd.prog 31 #[] w fun e w' => e = .returned (.bool true) ∧ NInv w0 w' :=
  (tbegins_any w I.tabs).mono fun _ _ ⟨he, hb⟩ => ⟨he, I.next hb⟩
theorem join3 (S P : ByteArray) : (S ++ P ++ S).data.toList = S.data.toList ++ (P.data.toList ++ S.data.toList) := by
  rw [ByteArray.data_append, ByteArray.data_append, Array.toList_append, Array.toList_append, List.append_assoc]
theorem size3 (S P : ByteArray) : (S ++ P ++ S).size = S.size + P.size + S.size := by rw [ByteArray.size_append, ByteArray.size_append]
theorem dec_len20 : (Lib.decDigits 9223372036854775808).length ≤ 20 := by
  have h := valueO_len (dec_valueO 922337203685477580 (by decide))
  rw [ndec_last 9223372036854775808 (by decide), List.length_append]
  have e : (9223372036854775808 : Nat) / 10 = 922337203685477580 := by decide
  rw [e]
  simp
  omega
theorem scan_rest {t : ByteArray} {l : List UInt8} (ht : t.data.toList = l) (hz : t.size ≤ 65536) {xs : List Res} (h : restL 0 l = (xs, 0, 0)) : scanX t = (xs, 0, 0, 0) := by
  have e : frontR t = (xs, 0, 0) := by rw [front_list, ht, h]
  rw [scan_front hz (by rw [e]), e]
/-- A word that is not below 0. -/
theorem num_scan (n b : Nat) (hn : n ≤ 9223372036854775807) (hb : b ≤ 8) (S P : ByteArray) (hS : S.data.toList = blanks b) (hP : P.data.toList = Lib.decDigits n) : ∃ p, scanX (S ++ P ++ S) = ([⟨3, ⟨(Lib.decDigits n).toArray⟩, n, p, 0, 0⟩], 0, 0, 0) := by
  obtain ⟨p, hp⟩ := num_rest n b hn
  have hz1 : S.size = b := by have := congrArg List.length hS; simpa [blanks] using this
  have hz2 : P.size ≤ 19 := by have := congrArg List.length hP; have h2 := valueO_len (dec_valueO n hn); have h3 : P.data.toList.length = P.size := by simp
                               omega
  exact ⟨p, scan_rest (l := blanks b ++ (Lib.decDigits n ++ blanks b)) (by rw [join3, hS, hP]) (by rw [size3]; omega) hp⟩
theorem neg_scan (n b : Nat) (h0 : 0 < n) (hn : n ≤ 9223372036854775807) (hb : b ≤ 8) (S P : ByteArray) (hS : S.data.toList = blanks b) (hP : P.data.toList = 45 :: Lib.decDigits n) : ∃ p q, scanX (S ++ P ++ S) = ([⟨4, ⟨#[45]⟩, 0, p, 0, 0⟩, ⟨3, ⟨(Lib.decDigits n).toArray⟩, n, q, 0, 0⟩], 0, 0, 0) := by
  obtain ⟨p, q, hp⟩ := neg_rest n b h0 hn
  have hz1 : S.size = b := by have := congrArg List.length hS; simpa [blanks] using this
  have hz2 : P.size ≤ 20 := by
    have := congrArg List.length hP
    have h2 := valueO_len (dec_valueO n hn)
    have h3 : P.data.toList.length = P.size := by simp
    rw [List.length_cons] at this
    omega
  exact ⟨p, q, scan_rest (l := blanks b ++ (45 :: (Lib.decDigits n ++ blanks b))) (by rw [join3, hS, hP]; rfl) (by rw [size3]; omega) hp⟩
theorem least_scan (b : Nat) (hb : b ≤ 8) (S P : ByteArray) (hS : S.data.toList = blanks b) (hP : P.data.toList = 45 :: Lib.decDigits 9223372036854775808) : (scanX (S ++ P ++ S)).2.1 = 20 := by
  have hp := least_rest b
  have hz1 : S.size = b := by have := congrArg List.length hS; simpa [blanks] using this
  have hz2 : P.size ≤ 21 := by
    have := congrArg List.length hP
    have h2 := dec_len20
    have h3 : P.data.toList.length = P.size := by simp
    rw [List.length_cons] at this
    omega
  have e : (frontR (S ++ P ++ S)).2.2 = 3 := by rw [front_list, join3, hS, hP]; exact hp
  unfold scanX
  rw [if_neg (by rw [size3]; omega), if_neg (by rw [e]; decide)]
theorem sign_scan (t : ByteArray) (h : signL t.data.toList = true) : scanX t = ([⟨4, t, 0, 0, 0, 0⟩], 0, 0, 0) := by
  obtain ⟨t1, t2, t3⟩ := sign_tx _ h
  have hz : sk false t.data.toList = 0 := by have := t3 [] rfl; rwa [List.append_nil] at this
  have hr := rest_tok (e := 0) (l := t.data.toList) (m := t.data.toList) (by rw [hz]; rfl) (by rw [t1])
  rw [t1, hz] at hr
  simp only [List.drop_length] at hr
  have e0 : restL (0 + 0 + t.data.toList.length) [] = ([], 0, 0) := rest_nil rfl
  rw [e0] at hr
  have hsz : t.size ≤ 65536 := by
    have h2 := ahead_bd t.data.toList
    have hs : isSignB t = true := by rw [isSign_list, Lib.toList_data]; exact h
    unfold isSignB at hs
    simp only [Bool.and_eq_true, decide_eq_true_eq] at hs
    omega
  refine scan_rest rfl hsz ?_
  rw [hr]
  unfold toRes
  rw [if_pos rfl, List.take_of_length_le (Nat.le_refl _)]
  cases t
  rfl
theorem sgn_sign (o : Int) (h0 : 0 ≤ o) : signOf o = [] ∨ signL (signOf o) = true := by
  unfold signOf
  by_cases h : 19 ≤ o
  · rw [if_pos h]; exact .inl rfl
  · rw [if_neg h]
    have hc : o.toNat = 0 ∨ o.toNat = 1 ∨ o.toNat = 2 ∨ o.toNat = 3 ∨ o.toNat = 4 ∨ o.toNat = 5 ∨ o.toNat = 6 ∨ o.toNat = 7 ∨ o.toNat = 8 ∨ o.toNat = 9 ∨ o.toNat = 10 ∨ o.toNat = 11 ∨ o.toNat = 12 ∨ o.toNat = 13 ∨ o.toNat = 14 ∨ o.toNat = 15 ∨ o.toNat = 16 ∨ o.toNat = 17 ∨ o.toNat = 18 := by omega
    rcases hc with hc | hc | hc | hc | hc | hc | hc | hc | hc | hc | hc | hc | hc | hc | hc | hc | hc | hc | hc <;> rw [hc] <;> first | exact .inl rfl | exact .inr rfl
theorem blanks_snoc {S : ByteArray} {k : Nat} (h : S.data.toList = blanks k) : (S ++ ⟨#[32]⟩).data.toList = blanks (k + 1) := by
  rw [ByteArray.data_append, Array.toList_append, h]
  unfold blanks
  rw [List.replicate_succ']
theorem itoa_pos (n : Nat) : Lib.itoa (n : Int) = Lib.decDigits n := by
  unfold Lib.itoa
  first | rfl | (rw [if_neg (by omega)]; simp) | simp
theorem itoa_neg (n : Nat) (h : 0 < n) : Lib.itoa (-(n : Int)) = 45 :: Lib.decDigits n := by
  obtain ⟨m, rfl⟩ : ∃ m, n = m + 1 := ⟨n - 1, by omega⟩
  have e : -((m + 1 : Nat) : Int) = Int.negSucc m := by omega
  rw [e]
  unfold Lib.itoa
  first | rfl | (rw [if_pos (by omega)]; simp) | simp
theorem sign_one (t : ByteArray) (h : signL t.data.toList = true) : ∀ W, AllTabs W → Calls Tryd.prog 22 #[.string t] W fun e w' => ∃ g off cap, e = .returned (.tuple #[.slice (some ⟨g, off, none⟩) 1 cap, .int .i64 0, .agg #[.int .i64 0, .int .i64 0]]) ∧ w'.cell? ⟨g, off, none⟩ = some (.int .u8 4) ∧ w'.cell? ⟨g, off + 1, none⟩ = some (.string t) ∧ Below W.heap.size W w' := fun W TW => by
  refine (scan_of (sign_scan t h) (LInv.start TW.l)).mono ?_
  rintro e w' ⟨u, rfl, ht, hbb⟩
  have ht2 := ht
  obtain ⟨oa, cap, rfl, _⟩ := ht
  obtain ⟨g, off, rfl, a0, a1, a2, a3⟩ := ht2.at (k := 0) (by simp)
  exact ⟨g, off, cap, rfl, a0, a1, hbb⟩
theorem sign_yes (t : ByteArray) (h : signL t.data.toList = true) : ∀ W, AllTabs W → Calls Tryd.prog 19 #[.string t] W fun e w' => e = .returned (.bool true) ∧ W = w' := fun W TW => by
  have k := issign_any t W TW.l
  rw [isSign_list, Lib.toList_data, h] at k
  exact k
theorem sign_some (t : ByteArray) (h : signL t.data.toList = true) : (t.toList == []) = false := by
  rw [Lib.toList_data]
  cases ht : t.data.toList with
  | nil => rw [ht] at h; cases h
  | cons c r => rfl
set_option maxRecDepth 100000 in
set_option maxHeartbeats 8000000 in
theorem numbers_pos (n : Nat) (o bl : Int) (hn : n ≤ 9223372036854775807) (o0 : 0 ≤ o) (o1 : o ≤ 255) (b0 : 0 ≤ bl) (b1 : bl ≤ 255) (w : World) (T : AllTabs w) :
    Calls Tryd.prog 14 #[.int .i64 n, .int .u8 o, .int .u8 bl] w fun e w' => e = .returned (.bool true) ∧ NInv w w' := by
  have HB := Lib.hid (tbegins_i (NInv.start T))
  obtain ⟨b, hb⟩ : ∃ b : Nat, bl % 9 = (b : Int) := ⟨(bl % 9).toNat, by omega⟩
  have hb8 : b ≤ 8 := by omega
  obtain ⟨P, hP⟩ : ∃ P : ByteArray, Hid (P = ⟨(Lib.decDigits n).toArray⟩) := ⟨_, rfl⟩
  have HPr : Hid (∀ W, AllTabs W → Calls Tryd.prog 32 #[.int .i64 n] W fun e w' => e = .returned (.string P) ∧ Below W.heap.size W w') := fun W TW => by
    have k := wprint_any n (by omega) (by omega) W TW.n
    rw [itoa_pos, ← hP.out] at k
    exact k
  have HSC : Hid (∀ (S : ByteArray) W, S.data.toList = blanks b → AllTabs W → Calls Tryd.prog 22 #[.string (S ++ P ++ S)] W fun e w' => ∃ g off cap, e = .returned (.tuple #[.slice (some ⟨g, off, none⟩) 1 cap, .int .i64 0, .agg #[.int .i64 0, .int .i64 0]]) ∧ w'.cell? ⟨g, off, none⟩ = some (.int .u8 3) ∧ w'.cell? ⟨g, off + 2, none⟩ = some (.int .i64 n) ∧ Below W.heap.size W w') := fun S W hS TW => by
    obtain ⟨p, hp⟩ := num_scan n b hn hb8 S P hS (by rw [hP.out])
    refine (scan_of hp (LInv.start TW.l)).mono ?_
    rintro e w' ⟨u, rfl, ht, hbb⟩
    have ht2 := ht
    obtain ⟨oa, cap, rfl, _⟩ := ht
    obtain ⟨g, off, rfl, a0, a1, a2, a3⟩ := ht2.at (k := 0) (by simp)
    exact ⟨g, off, cap, rfl, a0, a2, hbb⟩
  have hPz : P.size ≤ 19 := by
    have h2 := valueO_len (dec_valueO n hn)
    rw [hP.out]
    show (Lib.decDigits n).toArray.size ≤ 19
    simpa using h2
  have HSH : Hid (∀ W, AllTabs W → Calls Tryd.prog 33 #[.int .u8 o] W fun e w' => e = .returned (.string ⟨(signOf o).toArray⟩) ∧ W = w') := fun W TW => show_any o o0 o1 W TW.n
  have hn1 : ((n : Int) == -9223372036854775808) = false := int_f (by omega)
  clear T
  go_enter Tryd.func14, Tryd.ntmps14
  go_wp2_with (go_at_call 31; refine (HB.out).mono ?_; rintro e w1 ⟨rfl, hI⟩; have I1 := Lib.hid hI; clear hI)
  go_loopw [7, 8] (fun s i wr => w1 = wr ∧ ∃ (k : Nat) (S : ByteArray), k ≤ b ∧ i = .int .i64 k ∧ s = .string S ∧ Hid (S.data.toList = blanks k) ∧ S.size ≤ k) (fun _ i _ => b - (intOf i).toNat)
  case atStart => exact ⟨rfl, 0, ⟨#[]⟩, Nat.zero_le _, rfl, rfl, rfl, by decide⟩
  case round =>
    obtain ⟨rfl, k, S, hk, rfl, rfl, hS, hSz⟩ := hrel
    by_cases hlt : k < b
    · have hlt' : (k : Int) < (b : Int) := by omega
      go_wp2_with fail
      go_roundw
      case rel => exact ⟨by trivial, k + 1, S ++ ⟨#[32]⟩, by omega, by go_num, rfl, Lib.hid (blanks_snoc hS.out), by rw [ByteArray.size_append]; show S.size + 1 ≤ k + 1; omega⟩
      case measure => simp [intOf]; omega
    · have hlt' : ¬ (k : Int) < (b : Int) := by omega
      have hkb : k = b := by omega
      have hSb : Hid (S.data.toList = blanks b) := by rw [Hid, ← hkb]; exact hS.out
      have hSz8 : S.size ≤ 8 := by omega
      clear hkb hS
      go_wp2_with fail
      refine (HPr.out _ I1.out.tabs).mono ?_
      rintro e w2 ⟨rfl, hb2⟩
      have I2 := Lib.hid (I1.out.next hb2)
      clear hb2
      go_wp2_with fail
      refine (HSC.out S _ hSb.out I2.out.tabs).mono ?_
      rintro e w3 ⟨g, off, cap, rfl, a0, a2, hb3⟩
      have I3 := Lib.hid ((I2.out.next hb3).next ((Below.refl _ w3).alloc (Nat.le_refl _) (.cells #[.int .i64 0, .int .i64 0] 27)))
      have hg : g < w3.heap.size := lt_of_at a0
      clear hb3
      rcases sgn_sign o o0 with hsg | hsg
      · rw [hsg] at HSH
        go_wp2_with (go_at_call 33; refine (HSH.out _ I3.out.tabs).mono ?_; rintro e w4 ⟨rfl, rfl⟩)
        go_ret
        exact ⟨rfl, I3.out⟩
      · obtain ⟨SG, hSG⟩ : ∃ SG : ByteArray, Hid (SG = ⟨(signOf o).toArray⟩) := ⟨_, rfl⟩
        rw [← hSG.out] at HSH
        have hsg2 : signL SG.data.toList = true := by rw [hSG.out]; exact hsg
        have HSS := Lib.hid (sign_one SG hsg2)
        have HSI := Lib.hid (sign_yes SG hsg2)
        have hne := sign_some SG hsg2
        clear hsg hsg2
        go_wp2_with (go_at_call 33; refine (HSH.out _ I3.out.tabs).mono ?_; rintro e w4 ⟨rfl, rfl⟩)
        refine (HSS.out _ I3.out.tabs).mono ?_
        rintro e w5 ⟨g5, off5, cap5, rfl, q0, q1, hb5⟩
        have c5 : Below w5.heap.size w5 (w5.alloc (.cells #[.int .i64 0, .int .i64 0] 27)) := (Below.refl _ w5).alloc (Nat.le_refl _) _
        have I5 := Lib.hid ((I3.out.next hb5).next c5)
        have hg5 : g5 < w5.heap.size := lt_of_at q0
        have hq : (SG.toList == SG.toList) = true := by simp
        clear hb5 c5
        go_wp2_with fail
        have HTT : Hid (∀ m, AllTabs ((w5.alloc (.cells #[.int .i64 0, .int .i64 0] 27)).drewN m)) := fun m => I5.out.tabs.below (below_drewN (Below.refl _ _) _)
        go_quiet (first
          | (go_at_call 33; first | (with_reducible exact quiet_one (HSH.out _ (HTT.out _))) | (with_reducible exact quiet_more (HSH.out _ (HTT.out _))))
          | (go_at_call 19; first | (with_reducible exact quiet_one (HSI.out _ (HTT.out _))) | (with_reducible exact quiet_more (HSI.out _ (HTT.out _)))))
        go_wp2_with fail
        go_ret
        exact ⟨rfl, I5.out.next (below_drewN (Below.refl _ _) _)⟩
end Go.Proofs.YteedpojchapjgaaDoor

namespace Go.Proofs.YteedpojchapjgaaDoor
open Go.RowKit
set_option linter.unusedVariables false

set_option maxRecDepth 100000 in
set_option maxHeartbeats 8000000 in
theorem numbers_neg (n : Nat) (v : Int) (hv : v = -(n : Int)) (h0 : 0 < n) (o bl : Int) (hn : n ≤ 9223372036854775807) (o0 : 0 ≤ o) (o1 : o ≤ 255) (b0 : 0 ≤ bl) (b1 : bl ≤ 255) (w : World) (T : AllTabs w) :
    Calls Tryd.prog 14 #[.int .i64 v, .int .u8 o, .int .u8 bl] w fun e w' => e = .returned (.bool true) ∧ NInv w w' := by
  have HB := Lib.hid (tbegins_i (NInv.start T))
  obtain ⟨b, hb⟩ : ∃ b : Nat, bl % 9 = (b : Int) := ⟨(bl % 9).toNat, by omega⟩
  have hb8 : b ≤ 8 := by omega
  obtain ⟨P, hP⟩ : ∃ P : ByteArray, Hid (P = ⟨(45 :: Lib.decDigits n).toArray⟩) := ⟨_, rfl⟩
  have HPr : Hid (∀ W, AllTabs W → Calls Tryd.prog 32 #[.int .i64 v] W fun e w' => e = .returned (.string P) ∧ Below W.heap.size W w') := fun W TW => by
    have k := wprint_any v (by omega) (by omega) W TW.n
    rw [hv, itoa_neg n h0, ← hP.out, ← hv] at k
    exact k
  have HSC : Hid (∀ (S : ByteArray) W, S.data.toList = blanks b → AllTabs W → Calls Tryd.prog 22 #[.string (S ++ P ++ S)] W fun e w' => ∃ g off cap, e = .returned (.tuple #[.slice (some ⟨g, off, none⟩) 2 cap, .int .i64 0, .agg #[.int .i64 0, .int .i64 0]]) ∧ w'.cell? ⟨g, off + 1, none⟩ = some (.string ⟨#[45]⟩) ∧ w'.cell? ⟨g, off + 4, none⟩ = some (.int .u8 3) ∧ w'.cell? ⟨g, off + 4 + 2, none⟩ = some (.int .i64 n) ∧ Below W.heap.size W w') := fun S W hS TW => by
    obtain ⟨p, q, hp⟩ := neg_scan n b h0 hn hb8 S P hS (by rw [hP.out])
    refine (scan_of hp (LInv.start TW.l)).mono ?_
    rintro e w' ⟨u, rfl, ht, hbb⟩
    have ht2 := ht
    obtain ⟨oa, cap, rfl, _⟩ := ht
    obtain ⟨g, off, rfl, a0, a1, a2, a3⟩ := ht2.at (k := 0) (by simp)
    obtain ⟨g2, off2, he2, d0, d1, d2, d3⟩ := ht2.at (k := 1) (by simp)
    cases he2
    exact ⟨g, off, cap, rfl, a1, d0, d2, hbb⟩
  have hPz : P.size ≤ 20 := by
    have h2 := valueO_len (dec_valueO n hn)
    rw [hP.out]
    show (45 :: Lib.decDigits n).toArray.size ≤ 20
    simp; omega
  have HSH : Hid (∀ W, AllTabs W → Calls Tryd.prog 33 #[.int .u8 o] W fun e w' => e = .returned (.string ⟨(signOf o).toArray⟩) ∧ W = w') := fun W TW => show_any o o0 o1 W TW.n
  have hn1 : (v == -9223372036854775808) = false := int_f (by omega)
  have hv0 : v < 0 := by omega
  have hv1 : -9223372036854775807 ≤ v := by omega
  have hvn : Hid (-v = (n : Int)) := by rw [Hid]; omega
  clear hv
  clear T
  go_enter Tryd.func14, Tryd.ntmps14
  go_wp2_with (go_at_call 31; refine (HB.out).mono ?_; rintro e w1 ⟨rfl, hI⟩; have I1 := Lib.hid hI; clear hI)
  go_loopw [7, 8] (fun s i wr => w1 = wr ∧ ∃ (k : Nat) (S : ByteArray), k ≤ b ∧ i = .int .i64 k ∧ s = .string S ∧ Hid (S.data.toList = blanks k) ∧ S.size ≤ k) (fun _ i _ => b - (intOf i).toNat)
  case atStart => exact ⟨rfl, 0, ⟨#[]⟩, Nat.zero_le _, rfl, rfl, rfl, by decide⟩
  case round =>
    obtain ⟨rfl, k, S, hk, rfl, rfl, hS, hSz⟩ := hrel
    by_cases hlt : k < b
    · have hlt' : (k : Int) < (b : Int) := by omega
      go_wp2_with fail
      go_roundw
      case rel => exact ⟨by trivial, k + 1, S ++ ⟨#[32]⟩, by omega, by go_num, rfl, Lib.hid (blanks_snoc hS.out), by rw [ByteArray.size_append]; show S.size + 1 ≤ k + 1; omega⟩
      case measure => simp [intOf]; omega
    · have hlt' : ¬ (k : Int) < (b : Int) := by omega
      have hkb : k = b := by omega
      have hSb : Hid (S.data.toList = blanks b) := by rw [Hid, ← hkb]; exact hS.out
      have hSz8 : S.size ≤ 8 := by omega
      clear hkb hS
      go_wp2_with fail
      refine (HPr.out _ I1.out.tabs).mono ?_
      rintro e w2 ⟨rfl, hb2⟩
      have I2 := Lib.hid (I1.out.next hb2)
      clear hb2
      go_wp2_with fail
      refine (HSC.out S _ hSb.out I2.out.tabs).mono ?_
      rintro e w3 ⟨g, off, cap, rfl, a0, a1, a2, hb3⟩
      rw [← hvn.out] at a2
      have I3 := Lib.hid ((I2.out.next hb3).next ((Below.refl _ w3).alloc (Nat.le_refl _) (.cells #[.int .i64 0, .int .i64 0] 27)))
      have hg : g < w3.heap.size := lt_of_at a0
      clear hb3
      rcases sgn_sign o o0 with hsg | hsg
      · rw [hsg] at HSH
        go_wp2_with (go_at_call 33; refine (HSH.out _ I3.out.tabs).mono ?_; rintro e w4 ⟨rfl, rfl⟩)
        go_ret
        exact ⟨rfl, I3.out⟩
      · obtain ⟨SG, hSG⟩ : ∃ SG : ByteArray, Hid (SG = ⟨(signOf o).toArray⟩) := ⟨_, rfl⟩
        rw [← hSG.out] at HSH
        have hsg2 : signL SG.data.toList = true := by rw [hSG.out]; exact hsg
        have HSS := Lib.hid (sign_one SG hsg2)
        have HSI := Lib.hid (sign_yes SG hsg2)
        have hne := sign_some SG hsg2
        clear hsg hsg2
        go_wp2_with (go_at_call 33; refine (HSH.out _ I3.out.tabs).mono ?_; rintro e w4 ⟨rfl, rfl⟩)
        refine (HSS.out _ I3.out.tabs).mono ?_
        rintro e w5 ⟨g5, off5, cap5, rfl, q0, q1, hb5⟩
        have c5 : Below w5.heap.size w5 (w5.alloc (.cells #[.int .i64 0, .int .i64 0] 27)) := (Below.refl _ w5).alloc (Nat.le_refl _) _
        have I5 := Lib.hid ((I3.out.next hb5).next c5)
        have hg5 : g5 < w5.heap.size := lt_of_at q0
        have hq : (SG.toList == SG.toList) = true := by simp
        clear hb5 c5
        go_wp2_with fail
        have HTT : Hid (∀ m, AllTabs ((w5.alloc (.cells #[.int .i64 0, .int .i64 0] 27)).drewN m)) := fun m => I5.out.tabs.below (below_drewN (Below.refl _ _) _)
        go_quiet (first
          | (go_at_call 33; first | (with_reducible exact quiet_one (HSH.out _ (HTT.out _))) | (with_reducible exact quiet_more (HSH.out _ (HTT.out _))))
          | (go_at_call 19; first | (with_reducible exact quiet_one (HSI.out _ (HTT.out _))) | (with_reducible exact quiet_more (HSI.out _ (HTT.out _)))))
        go_wp2_with fail
        go_ret
        exact ⟨rfl, I5.out.next (below_drewN (Below.refl _ _) _)⟩
end Go.Proofs.YteedpojchapjgaaDoor

namespace Go.Proofs.YteedpojchapjgaaDoor
open Go.RowKit
set_option linter.unusedVariables false

set_option maxRecDepth 100000 in
set_option maxHeartbeats 8000000 in
theorem numbers_least (o bl : Int) (o0 : 0 ≤ o) (o1 : o ≤ 255) (b0 : 0 ≤ bl) (b1 : bl ≤ 255) (w : World) (T : AllTabs w) :
    Calls Tryd.prog 14 #[.int .i64 (-9223372036854775808), .int .u8 o, .int .u8 bl] w fun e w' => e = .returned (.bool true) ∧ NInv w w' := by
  have HB := Lib.hid (tbegins_i (NInv.start T))
  obtain ⟨b, hb⟩ : ∃ b : Nat, bl % 9 = (b : Int) := ⟨(bl % 9).toNat, by omega⟩
  have hb8 : b ≤ 8 := by omega
  obtain ⟨P, hP⟩ : ∃ P : ByteArray, Hid (P = ⟨(45 :: Lib.decDigits 9223372036854775808).toArray⟩) := ⟨_, rfl⟩
  have HPr : Hid (∀ W, AllTabs W → Calls Tryd.prog 32 #[.int .i64 (-9223372036854775808)] W fun e w' => e = .returned (.string P) ∧ Below W.heap.size W w') := fun W TW => by
    have k := wprint_any (-9223372036854775808) (by omega) (by omega) W TW.n
    have e : Lib.itoa (-9223372036854775808) = 45 :: Lib.decDigits 9223372036854775808 := itoa_neg 9223372036854775808 (by decide)
    rw [e, ← hP.out] at k
    exact k
  have HSC : Hid (∀ (S : ByteArray) W, S.data.toList = blanks b → AllTabs W → Calls Tryd.prog 22 #[.string (S ++ P ++ S)] W fun e w' => ∃ fa fr, e = .returned (.tuple #[.slice none 0 0, .int .i64 20, .agg #[.int .i64 fa, .int .i64 fr]]) ∧ Below W.heap.size W w') := fun S W hS TW => by
    have hp := least_scan b hb8 S P hS (by rw [hP.out])
    refine (scan_none (S ++ P ++ S) (err_none (by rw [hp]; decide)) (LInv.start TW.l)).mono ?_
    rintro e w' ⟨rfl, hbb⟩
    rw [hp]
    exact ⟨_, _, rfl, hbb⟩
  have hPz : P.size ≤ 21 := by
    have h2 := dec_len20
    rw [hP.out]
    show (45 :: Lib.decDigits 9223372036854775808).toArray.size ≤ 21
    rw [List.size_toArray, List.length_cons]; omega
  clear T
  go_enter Tryd.func14, Tryd.ntmps14
  go_wp2_with (go_at_call 31; refine (HB.out).mono ?_; rintro e w1 ⟨rfl, hI⟩; have I1 := Lib.hid hI; clear hI)
  go_loopw [7, 8] (fun s i wr => w1 = wr ∧ ∃ (k : Nat) (S : ByteArray), k ≤ b ∧ i = .int .i64 k ∧ s = .string S ∧ Hid (S.data.toList = blanks k) ∧ S.size ≤ k) (fun _ i _ => b - (intOf i).toNat)
  case atStart => exact ⟨rfl, 0, ⟨#[]⟩, Nat.zero_le _, rfl, rfl, rfl, by decide⟩
  case round =>
    obtain ⟨rfl, k, S, hk, rfl, rfl, hS, hSz⟩ := hrel
    by_cases hlt : k < b
    · have hlt' : (k : Int) < (b : Int) := by omega
      go_wp2_with fail
      go_roundw
      case rel => exact ⟨by trivial, k + 1, S ++ ⟨#[32]⟩, by omega, by go_num, rfl, Lib.hid (blanks_snoc hS.out), by rw [ByteArray.size_append]; show S.size + 1 ≤ k + 1; omega⟩
      case measure => simp [intOf]; omega
    · have hlt' : ¬ (k : Int) < (b : Int) := by omega
      have hkb : k = b := by omega
      have hSb : Hid (S.data.toList = blanks b) := by rw [Hid, ← hkb]; exact hS.out
      have hSz8 : S.size ≤ 8 := by omega
      clear hkb hS
      go_wp2_with fail
      refine (HPr.out _ I1.out.tabs).mono ?_
      rintro e w2 ⟨rfl, hb2⟩
      have I2 := Lib.hid (I1.out.next hb2)
      clear hb2
      go_wp2_with fail
      refine (HSC.out S _ hSb.out I2.out.tabs).mono ?_
      rintro e w3 ⟨fa, fr, rfl, hb3⟩
      have I3 := Lib.hid ((I2.out.next hb3).next ((Below.refl _ w3).alloc (Nat.le_refl _) (.cells #[.int .i64 fa, .int .i64 fr] 27)))
      clear hb3
      go_wp2_with fail
      go_ret
      exact ⟨rfl, I3.out⟩
theorem numbers_walk (v o bl : Int) (v0 : -9223372036854775808 ≤ v) (v1 : v ≤ 9223372036854775807) (o0 : 0 ≤ o) (o1 : o ≤ 255) (b0 : 0 ≤ bl) (b1 : bl ≤ 255) (w : World) (T : AllTabs w) :
    Calls Tryd.prog 14 #[.int .i64 v, .int .u8 o, .int .u8 bl] w fun e w' => e = .returned (.bool true) ∧ NInv w w' := by
  by_cases h0 : 0 ≤ v
  · obtain ⟨n, rfl⟩ : ∃ n : Nat, v = n := ⟨v.toNat, by omega⟩
    exact numbers_pos n o bl (by omega) o0 o1 b0 b1 w T
  · by_cases hm : v = -9223372036854775808
    · subst hm
      exact numbers_least o bl o0 o1 b0 b1 w T
    · obtain ⟨n, hn⟩ : ∃ n : Nat, v = -(n : Int) := ⟨(-v).toNat, by omega⟩
      exact numbers_neg n v hn (by omega) o bl (by omega) o0 o1 b0 b1 w T
end Go.Proofs.YteedpojchapjgaaDoor

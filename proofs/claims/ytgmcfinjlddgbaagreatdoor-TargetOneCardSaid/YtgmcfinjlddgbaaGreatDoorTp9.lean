/- Target's Parse, walked. -/
import Derived.Test.YtgmcfinjlddgbaaGreatDoorTp8
import Derived.Test.YtgmcfinjlddgbaaGreatDoorTw5
namespace Go.Proofs.YtgmcfinjlddgbaaGreatDoor
open Go.RowKit
set_option linter.unusedVariables false
set_option maxRecDepth 100000
theorem results_cell_tmp2 {P : Program} {fn : Func} {p t u : Tmp} {ty : TypeId} (h : fn.results = #[.cell p ty, .tmp t, .tmp u]) (tmps : Array Value) (w : World) (g : Nat) (t0 : TypeId) (cs : Array Value) (fr : Nat × Nat) (d : TypeDesc)
    (hp : tmps.getD p undef = .pointer (some ⟨g, 0, none⟩)) (hg : w.heap[g]? = some (.cells cs t0 fr))
    (hu : P.underlying ty = some d) (hd : (match d with | .struct _ | .array _ _ => true | _ => false) = true) (hi : (P.info? ty).map (·.size) = some cs.size) :
    (results fn tmps).run P w = .ok (.tuple #[.agg cs, tmps.getD t undef, tmps.getD u undef]) w := by
  have hp' : tmps[p]?.getD undef = .pointer (some ⟨g, 0, none⟩) := by simpa using hp
  simp [results, h, hp', asAddr, run_loadVar_row w g t0 ty cs fr d hg hu hd hi]
theorem p_ret3 {T : TypeId} {n : Nat} (hT : RowT T n) {fn : Func} {p t u : Tmp} {R : Ending → World → Prop} (hr : fn.results = #[.cell p T, .tmp t, .tmp u]) {a : Act} {w : World} {g : Nat} {cs : Array Value} (hg : Own w g T cs) (hp : a.tmps.getD p undef = .pointer (some ⟨g, 0, none⟩)) (hd : a.defers = []) (hn : cs.size = n) {v x : Value} (hv : a.tmps.getD t undef = v) (hx : a.tmps.getD u undef = x)
    (h : R (.returned (.tuple #[.agg cs, v, x])) w) : bodyPost Tryz.prog fn R .ret a w := by
  obtain ⟨d, h1, h2, h3⟩ := hT
  subst hv hx
  exact bodyPost_ret (results_cell_tmp2 hr _ _ g T cs (0, 0) d hp hg h1 (by cases d <;> first | rfl | cases h2) (by rw [h3, hn])) hd h
structure RdV (B : Nat) (o : Ob) (v1 v5 : Value) (L : List (Cor × Value)) (W : World) : Prop where
  mem : W.ownsRow B 2 1 v1 o.mem.length (o.mem.map fun x => .int .i64 x)
  fst : L.map Prod.fst = o.cores
  cors : W.ownsRow B 64 2 v5 L.length (flatC L)
  codes : RdL B L W
/-- An object of the call's own. -/
def ObOwn (B : Nat) (o : Ob) (v : Value) (W : World) : Prop := ∃ v1 v5 L, v = .agg #[v1, .int .i64 o.sh, .int .i64 o.lk, .int .i64 o.bf, v5] ∧ RdV B o v1 v5 L W
theorem RdV.obA {W : World} {B : Nat} {o : Ob} {v1 v5 : Value} {L : List (Cor × Value)} (h : RdV B o v1 v5 L W) : obA W o (.agg #[v1, .int .i64 o.sh, .int .i64 o.lk, .int .i64 o.bf, v5]) := by
  obtain ⟨a1, c1, rfl, h1⟩ := row_ints h.mem
  have hlen : o.cores.length = L.length := by rw [← h.fst, List.length_map]
  obtain ⟨a5, c5, rfl⟩ := row_slice h.cors
  refine ⟨a1, c1, a5, c5, by rw [obV, hlen], h1, ?_⟩
  by_cases h0 : L = []
  · left
    rw [← h.fst, h0]
    rfl
  · obtain ⟨gb, cap, e, _, h2⟩ := row_at h.cors (List.length_pos_iff.2 h0)
    right
    injection e with e1 e2 e3
    refine ⟨gb, 0, e1, fun j c hj => ?_⟩
    rw [← h.fst, List.getElem?_map] at hj
    obtain ⟨x, hx, rfl⟩ := Option.map_eq_some_iff.1 hj
    obtain ⟨f1, f2⟩ := flatC_get L j x hx
    obtain ⟨a2, c2, e4, h4⟩ := row_insAt (h.codes.rows x (List.mem_of_getElem? hx))
    rw [Nat.zero_add]
    exact ⟨h2 _ _ f1, a2, c2, by rw [h2 _ _ f2, e4], h4⟩
theorem RdV.below {W W' : World} {B : Nat} {o : Ob} {v1 v5 : Value} {L : List (Cor × Value)} (h : RdV B o v1 v5 L W) (hb : Below W.heap.size W W') : RdV B o v1 v5 L W' := ⟨row_below h.mem hb, h.fst, row_below h.cors hb, h.codes.below hb⟩
theorem RdV.keep {W W' : World} {B p : Nat} {o : Ob} {v1 v5 : Value} {L : List (Cor × Value)} (h : RdV B o v1 v5 L W) {ty : TypeId} {row : Array Value} (hp : Own W p ty row) (t1 : (2 == ty) = false) (t2 : (64 == ty) = false) (t3 : (25 == ty) = false) (hk : Keep (fun k _ => k ≠ p) W W') : RdV B o v1 v5 L W' :=
  ⟨row_keep h.mem (row_apart h.mem hp t1) hk, h.fst, row_keep h.cors (row_apart h.cors hp t2) hk, h.codes.keep hp t3 hk⟩
theorem RdL.mono {B B' : Nat} {L : List (Cor × Value)} {W : World} (h : RdL B L W) (hb : B' ≤ B) : RdL B' L W := ⟨fun x hx => row_mono (h.rows x hx) hb, fun L' x e => by
  obtain ⟨bl, h1, h2, h3, h4⟩ := h.last L' x e
  exact ⟨bl, Nat.le_trans hb h1, h2, h3, h4⟩⟩
theorem RdS.v {B B' g : Nat} {o : Ob} {v1 v5 : Value} {L : List (Cor × Value)} {W : World} (h : RdS B g o v1 v5 L W) (hb : B' ≤ B) : RdV B' o v1 v5 L W := ⟨row_mono h.mem hb, h.fst, row_mono h.cors hb, h.codes.mono hb⟩
theorem rdv_zero (B : Nat) (W : World) : RdV B zOb (.slice none 0 0) (.slice none 0 0) [] W := ⟨World.ownsRow_nil _ _ _ _, rfl, World.ownsRow_nil _ _ _ _, ⟨fun x hx => by simp at hx, fun L' x e => by simp at e⟩⟩
theorem ObOwn.obA {W : World} {B : Nat} {o : Ob} {v : Value} (h : ObOwn B o v W) : obA W o v := by
  obtain ⟨v1, v5, L, rfl, h⟩ := h
  exact h.obA
theorem keep_setRow (W : World) (g : Nat) (cs : Array Value) : Keep (fun k _ => k ≠ g) W (W.setRow g cs) := ⟨rfl, rfl, rfl, by rw [size_setRow]; exact Nat.le_refl _, fun k o hk hs => (setRow_other cs hs).trans hk⟩
/-- What Parse says. -/
def parO (s : ByteArray) : Ob × Int × Int :=
  if 16777216 < s.size then (zOb, 4, 0)
  else if (txS s (s.size + 2) 0 0 zOb).1.2 = true then
    (if (chkO (txS s (s.size + 2) 0 0 zOb).2).1 = 0 then ((txS s (s.size + 2) 0 0 zOb).2, 0, 0) else (zOb, (chkO (txS s (s.size + 2) 0 0 zOb).2).1, 0))
  else (zOb, 161, (txS s (s.size + 2) 0 0 zOb).1.1)
def ParP (w : World) (r : Ob × Int × Int) (e : Ending) (w' : World) : Prop := ∃ v, e = .returned (.tuple #[v, .int .i64 r.2.1, .int .i64 r.2.2]) ∧ ObOwn w.heap.size r.1 v w' ∧ FitT r.1 ∧ Below w.heap.size w w'
theorem row_cellsO {W : World} {g : Nat} {T : TypeId} {cs : Array Value} (h : Own W g T cs) (j : Nat) (v : Value) (hj : cs[j]? = some v) : W.cell? ⟨g, j, none⟩ = some v := by
  rw [cell_of_row _ _ j _ _ _ h]
  exact hj
set_option maxHeartbeats 16000000 in
theorem t_Parse (s : ByteArray) (w : World) (HT : TgT w) : Calls Tryz.prog 38 #[.string s] w (ParP w (parO s)) := by
  have al0 := (Below.refl _ w).alloc (Nat.le_refl _) (.cells #[.slice none 0 0, .int .i64 0, .int .i64 0, .int .i64 0, .slice none 0 0] 29)
  have O0 := Own.new w 29 #[.slice none 0 0, .int .i64 0, .int .i64 0, .int .i64 0, .slice none 0 0]
  obtain ⟨W0, hW0⟩ : ∃ W, W = w.alloc (.cells #[.slice none 0 0, .int .i64 0, .int .i64 0, .int .i64 0, .slice none 0 0] 29) := ⟨_, rfl⟩
  rw [← hW0] at al0 O0
  have HW0 := Lib.hid hW0
  have HO0 := Lib.hid O0
  have HB0 := Lib.hid al0
  have hT0 : ∀ X, Below W0.heap.size W0 X → TgT X := fun X hX => HT.below (al0.trans (hX.mono al0.size))
  clear hW0
  unfold parO
  by_cases hs : 16777216 < s.size
  · rw [if_pos hs]
    have hs' : (16777216 : Int) < (s.size : Int) := by omega
    clear hs HT hT0 al0
    go_enter Tryz.func38, Tryz.ntmps38
    go_upto_region 1 with fail
    rw [← HW0.out]
    clear HW0
    go_wp2_with (refine st rowO rfl rfl O0 rfl rfl (by rfl) (by rfl) (by kernel_rfl) ?_)
    refine p_ret3 rowO rfl (HO0.out.row _) rfl rfl rfl rfl rfl ?_
    exact ⟨_, rfl, ⟨_, _, _, rfl, rdv_zero _ _⟩, fit_zero, Below.of_row HB0.out (Nat.le_refl _) _⟩
  rw [if_neg hs]
  have hs' : s.size ≤ 16777216 := by omega
  have hO1 := Own.new W0 114 #[.slice none 0 0, .int .i64 0, .int .i64 0, .int .i64 0, .slice none 0 0]
  have al1 := (Below.refl _ W0).alloc (Nat.le_refl _) (.cells #[.slice none 0 0, .int .i64 0, .int .i64 0, .int .i64 0, .slice none 0 0] 114)
  obtain ⟨g, hg⟩ : ∃ g, g = W0.heap.size := ⟨_, rfl⟩
  have hwg : w.heap.size < g := by have := O0.lt; omega
  have hg1 : Rg W0 W0.heap.size g zOb (W0.alloc (.cells #[.slice none 0 0, .int .i64 0, .int .i64 0, .int .i64 0, .slice none 0 0] 114)) := by
    have hz := rdv_zero W0.heap.size (W0.alloc (.cells #[.slice none 0 0, .int .i64 0, .int .i64 0, .int .i64 0, .slice none 0 0] 114))
    rw [hg]
    exact ⟨⟨_, _, _, ⟨hO1, hz.mem, hz.fst, hz.cors, hz.codes⟩⟩, al1⟩
  have HOB : Hid (Calls Tryz.prog 69 #[.pointer (some ⟨g, 0, none⟩), .string s] (W0.alloc (.cells #[.slice none 0 0, .int .i64 0, .int .i64 0, .int .i64 0, .slice none 0 0] 114)) fun e w' => e = .returned (.tuple #[.int .i64 (txS s (s.size + 2) 0 0 zOb).1.1, .bool (txS s (s.size + 2) 0 0 zOb).1.2]) ∧ Rg W0 W0.heap.size g (txS s (s.size + 2) 0 0 zOb).2 w' ∧ FitT (txS s (s.size + 2) 0 0 zOb).2) := t_object s hs' zOb fit_zero hg1 (by omega) hT0
  have HCK : Hid (∀ X o v, FitT o → obA X o v → Below W0.heap.size W0 X → Calls Tryz.prog 15 #[v] X fun e w' => e = chkE (chkO o) ∧ Below X.heap.size X w') := fun X o v h1 h2 h3 => check_any o h1.rg h1.fit h2 (hT0 X h3)
  generalize txS s (s.size + 2) 0 0 zOb = F at HOB ⊢
  obtain ⟨⟨at', ok⟩, o⟩ := F
  simp only at HOB ⊢
  obtain ⟨W1, hW1⟩ : ∃ W, W = W0.alloc (.cells #[.slice none 0 0, .int .i64 0, .int .i64 0, .int .i64 0, .slice none 0 0] 114) := ⟨_, rfl⟩
  rw [← hW1] at HOB
  have HW1 := Lib.hid hW1
  have HG := Lib.hid hg
  have HWG := Lib.hid hwg
  have HRES : Hid (∀ X, Below W0.heap.size W0 X → Own X w.heap.size 29 #[.slice none 0 0, .int .i64 0, .int .i64 0, .int .i64 0, .slice none 0 0]) := fun X hX => hX.block _ HO0.out.lt |>.trans HO0.out
  have HBB : Hid (∀ X, Below W0.heap.size W0 X → Below w.heap.size w X) := fun X hX => HB0.out.trans (hX.mono HB0.out.size)
  clear hs HT hT0 al0 al1 hO1 hg1 hW1 hg hwg O0
  cases ok with
  | false =>
    simp only [Bool.false_eq_true, if_false]
    go_enter Tryz.func38, Tryz.ntmps38
    go_upto_region 1 with fail
    rw [← HW0.out]
    clear HW0
    go_upto_region 4 with fail
    rw [← HW1.out, ← HG.out]
    clear HW1
    go_wp2_with (first | (go_at_call 69; refine HOB.out.mono ?_; rintro e w2 ⟨rfl, hg2, hf2⟩; have O2 := HRES.out _ hg2.bel; have HO2 := Lib.hid O2; have HB2 := Lib.hid (HBB.out _ hg2.bel); clear hg2 hf2) | (refine st rowO rfl rfl O2 rfl rfl (by rfl) (by rfl) (by kernel_rfl) ?_))
    refine p_ret3 rowO rfl (HO2.out.row _) rfl rfl rfl rfl rfl ?_
    exact ⟨_, rfl, ⟨_, _, _, rfl, rdv_zero _ _⟩, fit_zero, Below.of_row HB2.out (Nat.le_refl _) _⟩
  | true =>
    simp only [if_true]
    have HCO : Hid (∀ X v, FitT o → obA X o v → Below W0.heap.size W0 X → Calls Tryz.prog 15 #[v] X fun e w' => e = .returned (.tuple #[.int .i64 (chkO o).1, .int .i64 (chkO o).2.1, .int .i64 (chkO o).2.2]) ∧ Below X.heap.size X w') := fun X v h1 h2 h3 => HCK.out X o v h1 h2 h3
    generalize chkO o = ck at HCO ⊢
    obtain ⟨why, q1, q2⟩ := ck
    simp only at HCO ⊢
    obtain ⟨R, hR⟩ : ∃ R : Ob × Int × Int, R = (if why = 0 then (o, 0, 0) else (zOb, why, 0)) := ⟨_, rfl⟩
    rw [← hR]
    have HRR := Lib.hid hR
    clear HCK hR
    go_enter Tryz.func38, Tryz.ntmps38
    go_upto_region 1 with fail
    rw [← HW0.out]
    clear HW0
    go_upto_region 4 with fail
    rw [← HW1.out, ← HG.out]
    clear HW1
    go_upto_region 7 with (go_at_call 69; refine HOB.out.mono ?_; rintro e w2 ⟨rfl, hg2, hf2⟩; have HG2 := Lib.hid hg2; have HF2 := Lib.hid hf2; clear hg2 hf2)
    obtain ⟨v1, v5, L, hr⟩ := HG2.out.rd
    obtain ⟨a1, c1, rfl⟩ := row_slice hr.mem
    obtain ⟨a5, c5, rfl⟩ := row_slice hr.cors
    have HR := Lib.hid hr
    have hc2 := row_cellsO hr.own
    have HCK2 := Lib.hid (HCO.out w2 _ HF2.out hr.obA HG2.out.bel)
    clear hr HOB HCO
    generalize hn1 : o.mem.length = n1 at HR hc2 HCK2
    generalize hn5 : L.length = n5 at HR hc2 HCK2
    go_wp2_with (refine ldc rowO rfl rfl rfl hc2 rfl ?_)
    go_at_call 15
    refine HCK2.out.mono ?_
    rintro e w3 ⟨rfl, hb⟩
    have HR3 := Lib.hid (HR.out.below hb)
    have hg3 := HG2.out.below hb (by have := HG.out; omega)
    have O3 := HRES.out _ hg3.bel
    have HO3 := Lib.hid O3
    have HB3 := Lib.hid (HBB.out _ hg3.bel)
    clear hg3 hb hc2 HCK2
    by_cases hy : why = 0
    · obtain rfl : R = (o, 0, 0) := by rw [HRR.out, if_pos hy]
      clear HRR
      subst hy
      have hc3 := row_cellsO HR3.out.own
      go_wp2_with (first | (refine ldc rowO rfl rfl rfl hc3 rfl ?_) | (refine st rowO rfl rfl O3 rfl rfl (by rfl) (by rfl) (by kernel_rfl) ?_))
      refine p_ret3 rowO rfl (HO3.out.row _) rfl rfl rfl rfl rfl ?_
      refine ⟨_, rfl, ⟨_, _, L, rfl, ?_⟩, HF2.out, Below.of_row HB3.out (Nat.le_refl _) _⟩
      subst hn1 hn5
      refine (HR3.out.v HB0.out.size).keep HO3.out rfl rfl rfl (keep_setRow _ _ _)
    · obtain rfl : R = (zOb, why, 0) := by rw [HRR.out, if_neg hy]
      have q : (why != 0) = true := by simpa using hy
      clear hy HRR
      go_wp2_with (refine st rowO rfl rfl O3 rfl rfl (by rfl) (by rfl) (by kernel_rfl) ?_)
      refine p_ret3 rowO rfl (HO3.out.row _) rfl rfl rfl rfl rfl ?_
      exact ⟨_, rfl, ⟨_, _, _, rfl, rdv_zero _ _⟩, fit_zero, Below.of_row HB3.out (Nat.le_refl _) _⟩
end Go.Proofs.YtgmcfinjlddgbaaGreatDoor

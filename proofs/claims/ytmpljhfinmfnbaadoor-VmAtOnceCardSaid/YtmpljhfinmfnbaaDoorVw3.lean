/- The oldest store is taken. -/
import Derived.Test.YtmpljhfinmfnbaaDoorVw2
namespace Go.Proofs.YtmpljhfinmfnbaaDoor
open Go.RowKit
set_option linter.unusedVariables false
set_option maxRecDepth 100000
theorem results_cell_tmp {P : Program} {fn : Func} {p t : Tmp} {ty : TypeId} (h : fn.results = #[.cell p ty, .tmp t]) (tmps : Array Value) (w : World) (g : Nat) (t0 : TypeId) (cs : Array Value) (fr : Nat × Nat) (d : TypeDesc)
    (hp : tmps.getD p undef = .pointer (some ⟨g, 0, none⟩)) (hg : w.heap[g]? = some (.cells cs t0 fr))
    (hu : P.underlying ty = some d) (hd : (match d with | .struct _ | .array _ _ => true | _ => false) = true) (hi : (P.info? ty).map (·.size) = some cs.size) :
    (results fn tmps).run P w = .ok (.tuple #[.agg cs, tmps.getD t undef]) w := by
  have hp' : tmps[p]?.getD undef = .pointer (some ⟨g, 0, none⟩) := by simpa using hp
  simp [results, h, hp', asAddr, run_loadVar_row w g t0 ty cs fr d hg hu hd hi]
theorem p_ret2 {T : TypeId} {n : Nat} (hT : RowT T n) {fn : Func} {p t : Tmp} {R : Ending → World → Prop} (hr : fn.results = #[.cell p T, .tmp t]) {a : Act} {w : World} {g : Nat} {cs : Array Value} (hg : Own w g T cs) (hp : a.tmps.getD p undef = .pointer (some ⟨g, 0, none⟩)) (hd : a.defers = []) (hn : cs.size = n) {v : Value} (hv : a.tmps.getD t undef = v)
    (h : R (.returned (.tuple #[.agg cs, v])) w) : bodyPost Tryd.prog fn R .ret a w := by
  obtain ⟨d, h1, h2, h3⟩ := hT
  subst hv
  exact bodyPost_ret (results_cell_tmp hr _ _ g T cs (0, 0) d hp hg h1 (by cases d <;> first | rfl | cases h2) (by rw [h3, hn])) hd h
theorem rowS : RowT 76 3 := ⟨_, Tryd.underlying76, rfl, by kernel_rfl⟩
set_option maxHeartbeats 4000000 in
theorem p_take_nil {w : World} {g o : Nat} {c : Co} {bv cv : Value} (h : CoP w g o c bv cv) {ab : Option Addr} {cb : Nat} (hb : bv = .slice ab 0 cb) :
    Calls Tryd.prog 43 #[.pointer (some ⟨g, o, none⟩)] w fun e w' => e = .returned (.tuple #[.agg #[.int .i64 0, .int .i64 0, .int .i64 0], .bool false]) ∧ Below w.heap.size w w' := by
  have hgw : g < w.heap.size := lt_of_at h.pc
  have al := (Below.refl w.heap.size w).alloc (Nat.le_refl _) (.cells #[.int .i64 0, .int .i64 0, .int .i64 0] 76)
  have O1 := Own.new w 76 #[.int .i64 0, .int .i64 0, .int .i64 0]
  obtain ⟨W1, hW1⟩ : ∃ W, W = w.alloc (.cells #[.int .i64 0, .int .i64 0, .int .i64 0] 76) := ⟨_, rfl⟩
  rw [← hW1] at al O1
  have HW1 := Lib.hid hW1
  have c18 : W1.cell? ⟨g, o + 18, none⟩ = some (.slice ab 0 cb) := (al.cell (p := ⟨g, o + 18, none⟩) hgw).trans (by rw [← hb]; exact h.buf)
  have HB := Lib.hid al
  clear hW1 h hb hgw al
  go_enter Tryd.func43, Tryd.ntmps43
  go_upto_region 1 with fail
  rw [← HW1.out]
  clear HW1
  go_wp2_with (refine st rowS rfl rfl O1 rfl rfl (by rfl) (by rfl) (by kernel_rfl) ?_)
  exact p_ret2 rowS rfl (O1.row _) rfl rfl rfl rfl ⟨rfl, Below.of_row HB.out (Nat.le_refl _) _⟩
set_option maxHeartbeats 8000000 in
theorem p_take {w : World} {g o : Nat} {c : Co} {bv cv : Value} (h : CoP w g o c bv cv) {x : Sto} {r : List Sto} (hq : ownsQ w 0 76 3 bv (r.length + 1) (stoC x ++ stoF r)) :
    Calls Tryd.prog 43 #[.pointer (some ⟨g, o, none⟩)] w fun e w' => e = .returned (.tuple #[.agg #[.int .i64 x.p, .int .i64 x.a, .int .i64 x.x], .bool true]) ∧ ∃ bv', ownsQ w 0 76 3 bv' r.length (stoF r) ∧ bv'.ownBlock = bv.ownBlock ∧ Below w.heap.size (w.setCell ⟨g, o + 18, none⟩ bv') w' := by
  have hgw : g < w.heap.size := lt_of_at h.pc
  obtain ⟨gb, qb, cb, rfl, _, hcb, hcell⟩ := ownsQ_at hq (by omega)
  have htl := ownsQ_tail (x := stoC x) hq rfl
  have hgb : gb < w.heap.size := lt_of_at (hcell 0 _ rfl)
  have hcm : cb ≤ 9223372036854775807 := by
    obtain ⟨_, _, e, _, h3⟩ := ownsQ_slice hq
    injection e with _ _ e
    have : maxLen ≤ 9223372036854775807 := by unfold maxLen; decide
    omega
  have al := (Below.refl w.heap.size w).alloc (Nat.le_refl _) (.cells #[.int .i64 0, .int .i64 0, .int .i64 0] 76)
  have O1 := Own.new w 76 #[.int .i64 0, .int .i64 0, .int .i64 0]
  obtain ⟨W1, hW1⟩ : ∃ W, W = w.alloc (.cells #[.int .i64 0, .int .i64 0, .int .i64 0] 76) := ⟨_, rfl⟩
  rw [← hW1] at al O1
  have HW1 := Lib.hid hW1
  have c18 : W1.cell? ⟨g, o + 18, none⟩ = some (.slice (some ⟨gb, qb, none⟩) (r.length + 1) cb) := (al.cell (p := ⟨g, o + 18, none⟩) hgw).trans h.buf
  have s0 : W1.cell? ⟨gb, qb, none⟩ = some (.int .i64 x.p) := (al.cell (p := ⟨gb, qb + 0, none⟩) hgb).trans (hcell 0 _ rfl)
  have s1 : W1.cell? ⟨gb, qb + 1, none⟩ = some (.int .i64 x.a) := (al.cell (p := ⟨gb, qb + 1, none⟩) hgb).trans (hcell 1 _ rfl)
  have s2 : W1.cell? ⟨gb, qb + 2, none⟩ = some (.int .i64 x.x) := (al.cell (p := ⟨gb, qb + 2, none⟩) hgb).trans (hcell 2 _ rfl)
  have hsz : W1.heap.size = w.heap.size + 1 := by rw [hW1]; simp
  have HB := Lib.hid al
  have HFR : Hid (∀ X, Below w.heap.size w X → X.frozen? ⟨g, o + 18, none⟩ = false ∧ X.cell? ⟨g, o + 18, none⟩ = some (.slice (some ⟨gb, qb, none⟩) (r.length + 1) cb)) := fun X hX => ⟨by
    have e := h.at_.fr (o + 18)
    unfold World.frozen? at e ⊢
    rw [hX.block g hgw]
    exact e, (hX.cell (p := ⟨g, o + 18, none⟩) hgw).trans h.buf⟩
  have HTL := Lib.hid htl
  have hn0 : (0 : Int) < ((r.length + 1 : Nat) : Int) := by omega
  have hn1 : (1 : Int) ≤ ((r.length + 1 : Nat) : Int) := by omega
  obtain ⟨n, hn⟩ : ∃ n, n = r.length := ⟨_, rfl⟩
  have O2 := Own.new W1 76 #[.int .i64 0, .int .i64 0, .int .i64 0]
  have B2 : Below w.heap.size w ((W1.alloc (.cells #[.int .i64 0, .int .i64 0, .int .i64 0] 76)).setRow W1.heap.size #[.int .i64 x.p, .int .i64 x.a, .int .i64 x.x]) := al.trans ((Below.of_row ((Below.refl _ W1).alloc (Nat.le_refl _) (.cells #[.int .i64 0, .int .i64 0, .int .i64 0] 76)) (Nat.le_refl _) _).mono al.size)
  have O3 : Own ((W1.alloc (.cells #[.int .i64 0, .int .i64 0, .int .i64 0] 76)).setRow W1.heap.size #[.int .i64 x.p, .int .i64 x.a, .int .i64 x.x]) W1.heap.size 76 #[.int .i64 x.p, .int .i64 x.a, .int .i64 x.x] := O2.row _
  have O4 : Own ((W1.alloc (.cells #[.int .i64 0, .int .i64 0, .int .i64 0] 76)).setRow W1.heap.size #[.int .i64 x.p, .int .i64 x.a, .int .i64 x.x]) w.heap.size 76 #[.int .i64 0, .int .i64 0, .int .i64 0] := O1.below (Below.of_row ((Below.refl _ W1).alloc (Nat.le_refl _) (.cells #[.int .i64 0, .int .i64 0, .int .i64 0] 76)) (Nat.le_refl _) _)
  have HO3 := Lib.hid O3
  have HO4 := Lib.hid O4
  have HB2 := Lib.hid B2
  rw [← hn] at c18 hn0 hn1 HFR HTL hcb ⊢
  have HGW := Lib.hid (And.intro hgw hsz)
  have hcb' : (1 : Int) ≤ (cb : Int) := by omega
  clear h hq htl hcell hW1 hgw hgb al hsz O3 O4 B2 HB hn O1
  obtain ⟨px, ax, xx⟩ := x
  go_enter Tryd.func43, Tryd.ntmps43
  go_upto_region 1 with fail
  rw [← HW1.out]
  clear HW1
  go_upto_region 4 with (refine st rowS rfl rfl O2 rfl rfl (by rfl) (by rfl) (by kernel_rfl) ?_)
  clear c18 s0 s1 s2 O2
  generalize (W1.alloc (.cells #[.int .i64 0, .int .i64 0, .int .i64 0] 76)).setRow W1.heap.size #[.int .i64 px, .int .i64 ax, .int .i64 xx] = W2 at HO3 HO4 HB2 ⊢
  obtain ⟨f18, c18⟩ := HFR.out W2 HB2.out
  generalize W1.heap.size = gs at HO3 HGW ⊢
  by_cases hc1 : cb = 1
  · subst hc1
    obtain rfl : n = 0 := by omega
    have HO5 : Hid (Own (W2.setCell ⟨g, o + 18, none⟩ (.slice (some ⟨gb, qb, none⟩) 0 0)) gs 76 #[.int .i64 px, .int .i64 ax, .int .i64 xx]) := (Below.heap_setCell W2 ⟨g, o + 18, none⟩ _ gs (by have := HGW.out; show gs ≠ g; omega)).trans HO3.out
    have HO6 : Hid (Own (W2.setCell ⟨g, o + 18, none⟩ (.slice (some ⟨gb, qb, none⟩) 0 0)) w.heap.size 76 #[.int .i64 0, .int .i64 0, .int .i64 0]) := (Below.heap_setCell W2 ⟨g, o + 18, none⟩ _ w.heap.size (by have := HGW.out; show w.heap.size ≠ g; omega)).trans HO4.out
    have HB5 : Hid (Below w.heap.size (w.setCell ⟨g, o + 18, none⟩ (.slice (some ⟨gb, qb, none⟩) 0 0)) (W2.setCell ⟨g, o + 18, none⟩ (.slice (some ⟨gb, qb, none⟩) 0 0))) := below_both HB2.out _ _
    go_upto_region 5 with fail
    generalize W2.setCell ⟨g, o + 18, none⟩ (.slice (some ⟨gb, qb, none⟩) 0 0) = W3 at HO5 HO6 HB5 ⊢
    have O5 := HO5.out
    have O6 := HO6.out
    go_wp2_with (first | (refine ld rowS rfl rfl rfl O5 rfl ?_) | (refine st rowS rfl rfl O6 rfl rfl (by rfl) (by rfl) (by kernel_rfl) ?_))
    exact p_ret2 rowS rfl (O6.row _) rfl rfl rfl rfl ⟨rfl, _, HTL.out, rfl, Below.of_row HB5.out (by simp) _⟩
  · have hc2 : ¬ cb - 1 = 0 := by omega
    rw [if_neg hc2, Option.map_some, addr_addV] at HTL
    have HO5 : Hid (Own (W2.setCell ⟨g, o + 18, none⟩ (.slice (some ⟨gb, qb + 3, none⟩) n (cb - 1))) gs 76 #[.int .i64 px, .int .i64 ax, .int .i64 xx]) := (Below.heap_setCell W2 ⟨g, o + 18, none⟩ _ gs (by have := HGW.out; show gs ≠ g; omega)).trans HO3.out
    have HO6 : Hid (Own (W2.setCell ⟨g, o + 18, none⟩ (.slice (some ⟨gb, qb + 3, none⟩) n (cb - 1))) w.heap.size 76 #[.int .i64 0, .int .i64 0, .int .i64 0]) := (Below.heap_setCell W2 ⟨g, o + 18, none⟩ _ w.heap.size (by have := HGW.out; show w.heap.size ≠ g; omega)).trans HO4.out
    have HB5 : Hid (Below w.heap.size (w.setCell ⟨g, o + 18, none⟩ (.slice (some ⟨gb, qb + 3, none⟩) n (cb - 1))) (W2.setCell ⟨g, o + 18, none⟩ (.slice (some ⟨gb, qb + 3, none⟩) n (cb - 1)))) := below_both HB2.out _ _
    go_upto_region 5 with fail
    generalize W2.setCell ⟨g, o + 18, none⟩ (.slice (some ⟨gb, qb + 3, none⟩) n (cb - 1)) = W3 at HO5 HO6 HB5 ⊢
    have O5 := HO5.out
    have O6 := HO6.out
    go_wp2_with (first | (refine ld rowS rfl rfl rfl O5 rfl ?_) | (refine st rowS rfl rfl O6 rfl rfl (by rfl) (by rfl) (by kernel_rfl) ?_))
    exact p_ret2 rowS rfl (O6.row _) rfl rfl rfl rfl ⟨rfl, _, HTL.out, rfl, Below.of_row HB5.out (by simp) _⟩
end Go.Proofs.YtmpljhfinmfnbaaDoor

/- A core loads. -/
import Derived.Test.YtmpljhfinmfnbaaDoorVkc
import Derived.Test.YtmpljhfinmfnbaaDoorVwb
namespace Go.Proofs.YtmpljhfinmfnbaaDoor
open Go.RowKit
set_option linter.unusedVariables false
set_option maxRecDepth 100000
/-- Nothing but a block changes. -/
abbrev KeepB (b : Nat) (W W' : World) : Prop := Keep (fun k _ => k ≠ b) W W'
theorem keepB_below {b : Nat} {W W' : World} (h : Below W.heap.size W W') : KeepB b W W' := keep_below h
theorem keepB_set {b j : Nat} {W W' : World} {u : Value} (h : KeepB b W W') (hb : b < W'.heap.size) : KeepB b W (W'.setCell ⟨b, j, none⟩ u) :=
  h.setCell (p := ⟨b, j, none⟩) u (Array.getElem?_eq_getElem hb) (fun e => e rfl)
theorem CoP.keepB {b : Nat} {W W' : World} {g o : Nat} {c : Co} {bv cv : Value} (h : CoP W g o c bv cv) (hk : KeepB b W W') (hg : g ≠ b) (hc : ∀ k, cv.ownBlock = some k → k ≠ b) : CoP W' g o c bv cv := by
  have hgw : g < W.heap.size := lt_of_at h.pc
  have e : W'.heap[g]? = W.heap[g]? := by rw [hk.block g _ (Array.getElem?_eq_getElem hgw) hg, Array.getElem?_eq_getElem hgw]
  refine ⟨⟨fun j u hj => ?_, fun j => ?_⟩, row_stays h.code fun k _ e2 hl => by rw [hk.block k _ (Array.getElem?_eq_getElem hl) (hc k e2), Array.getElem?_eq_getElem hl], h.reg⟩
  · have := h.at_.cell j u hj
    unfold World.cell? at this ⊢
    rw [e]
    exact this
  · have := h.at_.fr j
    unfold World.frozen? at this ⊢
    rw [e]
    exact this
theorem Own.keepB {b : Nat} {W W' : World} {g : Nat} {T : TypeId} {r : Array Value} (h : Own W g T r) (hk : KeepB b W W') (hg : g ≠ b) : Own W' g T r := hk.block _ _ h hg
theorem PgA.keepB {b : Nat} {W W' : World} {mem : List Int} {pv : Value} {PL : List Nat} (h : PgA W mem pv PL) (hk : KeepB b W W') (hp : ∀ k, pv.ownBlock = some k → k ≠ b) (hg : ∀ (k g : Nat), PL[k]? = some g → g ≠ b) : PgA W' mem pv PL :=
  ⟨row_stays h.pgs fun k _ e2 hl => by rw [hk.block k _ (Array.getElem?_eq_getElem hl) (hp k e2), Array.getElem?_eq_getElem hl], h.pgn, fun k g e => (h.page k g e).keepB hk (hg k g e)⟩
theorem ownsQ_keepB {b : Nat} {W W' : World} {T : TypeId} {n : Nat} {v : Value} {m : Nat} {xs : List Value} (h : ownsQ W 0 T n v m xs) (hk : KeepB b W W') (hs : ∀ k, v.ownBlock = some k → k ≠ b) : ownsQ W' 0 T n v m xs :=
  ownsQ_stays h fun k e => by
    have hl := (ownsQ_lt h k e).2
    rw [hk.block k _ (Array.getElem?_eq_getElem hl) (hs k e), Array.getElem?_eq_getElem hl]
/-- What a load or a swap needs to know. -/
structure LdP (w : World) (p g o b : Nat) (c : Co) (bv cv : Value) (mem : List Int) (a1 : Option Addr) (n1 c1 : Nat) (sz : Int) (PL : List Nat) (mrow : Array Value) : Prop where
  co : CoP w g o c bv cv
  buf : ownsQ w 0 76 3 bv c.buf.length (stoF c.buf)
  bl : c.buf.length ≤ 4611686018427
  mch : Own w p 104 mrow
  m2 : mrow[2]? = some (.slice a1 n1 c1)
  m3 : mrow[3]? = some (.int .i64 sz)
  pg : PgA w mem (.slice a1 n1 c1) PL
  ml : mem.length ≤ 4096
  pb : p ≠ b
  gb : g ≠ b
  cb : ∀ k, cv.ownBlock = some k → k ≠ b
  bb : ∀ k, bv.ownBlock = some k → k ≠ b
  ab : ∀ k, (Value.slice a1 n1 c1).ownBlock = some k → k ≠ b
  gg : ∀ (k q : Nat), PL[k]? = some q → q ≠ b
theorem LdP.keep {w W : World} {p g o b : Nat} {c : Co} {bv cv : Value} {mem : List Int} {a1 : Option Addr} {n1 c1 : Nat} {sz : Int} {PL : List Nat} {mrow : Array Value} (h : LdP w p g o b c bv cv mem a1 n1 c1 sz PL mrow) (hk : KeepB b w W) : LdP W p g o b c bv cv mem a1 n1 c1 sz PL mrow :=
  ⟨h.co.keepB hk h.gb h.cb, ownsQ_keepB h.buf hk h.bb, h.bl, h.mch.keepB hk h.pb, h.m2, h.m3, h.pg.keepB hk h.ab h.gg, h.ml, h.pb, h.gb, h.cb, h.bb, h.ab, h.gg⟩
/-- Where a load stands. -/
structure LdS (w : World) (b : Nat) (irow : Array Value) (W : World) (row : Array Value) : Prop where
  kp : KeepB b w W
  did : Own W b 42 row
  ins : Own W w.heap.size 87 irow
theorem LdS.below {w W W' : World} {b : Nat} {irow row : Array Value} (h : LdS w b irow W row) (hb : Below W.heap.size W W') : LdS w b irow W' row := ⟨h.kp.trans (keepB_below hb), h.did.below hb, h.ins.below hb⟩
theorem LdS.set {w W : World} {b : Nat} {irow row : Array Value} (h : LdS w b irow W row) (hb : b < w.heap.size) (j : Nat) (u : Value) : LdS w b irow (W.setCell ⟨b, j, none⟩ u) (row.setIfInBounds j u) :=
  ⟨keepB_set h.kp h.did.lt, own_setin h.did j u, own_setother (by omega) h.ins j u⟩
set_option maxHeartbeats 8000000 in
theorem p_load {w : World} {p g o b : Nat} {c : Co} {bv cv : Value} {mem : List Int} {a1 : Option Addr} {n1 c1 : Nat} {sz : Int} {PL : List Nat} {mrow : Array Value} (h : LdP w p g o b c bv cv mem a1 n1 c1 sz PL mrow) (i : Ins) (hd : 0 ≤ i.d ∧ i.d < 16) (ha : 0 ≤ i.ad ∧ i.ad < mem.length) {q0 q1 q2 q3 q4 q5 : Int} {q6 : Bool} (hb : Own w b 42 #[.int .u8 q0, .int .i64 q1, .int .i64 q2, .int .i64 q3, .int .i64 q4, .int .i64 q5, .bool q6]) :
    Calls Tryd.prog 64 #[.pointer (some ⟨p, 0, none⟩), .pointer (some ⟨g, o, none⟩), insV i, .pointer (some ⟨b, 0, none⟩)] w fun e w' => e = .returned (.tuple #[]) ∧ ∃ W, KeepB b w W ∧ Own W b 42 #[.int .u8 q0, .int .i64 q1, .int .i64 q2, .int .i64 i.ad, .int .i64 ((newS c.buf i.ad).getD (rget mem i.ad)), .int .i64 q5, .bool (newS c.buf i.ad).isSome] ∧ Below W.heap.size (W.setCell ⟨g, o + 2 + i.d.toNat, none⟩ (.int .i64 ((newS c.buf i.ad).getD (rget mem i.ad)))) w' := by
  obtain ⟨k, oo, d, a, bb, ad, tt, wd, fr⟩ := i
  simp only at hd ha ⊢
  obtain ⟨dn, rfl⟩ : ∃ n : Nat, d = (n : Int) := ⟨d.toNat, by omega⟩
  obtain ⟨an, rfl⟩ : ∃ n : Nat, ad = (n : Int) := ⟨ad.toNat, by omega⟩
  have hbw := hb.lt
  have HSZ := Lib.hid hbw
  obtain ⟨W1, hW1⟩ : ∃ W, W = w.alloc (.cells #[.int .u8 k, .int .u8 oo, .int .i64 (dn : Int), .int .i64 a, .int .i64 bb, .int .i64 (an : Int), .int .i64 tt, .int .i64 wd, .int .i64 fr] 87) := ⟨_, rfl⟩
  have HS1 : Hid (LdS w b #[.int .u8 k, .int .u8 oo, .int .i64 (dn : Int), .int .i64 a, .int .i64 bb, .int .i64 (an : Int), .int .i64 tt, .int .i64 wd, .int .i64 fr] W1 #[.int .u8 q0, .int .i64 q1, .int .i64 q2, .int .i64 q3, .int .i64 q4, .int .i64 q5, .bool q6]) := by
    rw [hW1]
    have al := (Below.refl w.heap.size w).alloc (Nat.le_refl _) (.cells #[.int .u8 k, .int .u8 oo, .int .i64 (dn : Int), .int .i64 a, .int .i64 bb, .int .i64 (an : Int), .int .i64 tt, .int .i64 wd, .int .i64 fr] 87)
    exact ⟨keepB_below al, hb.below al, Own.new w _ _⟩
  have HH := Lib.hid h
  have HD16 : Hid ((dn : Int) < 16) := hd.2
  have HAN : Hid (an < mem.length) := by show _ < _; omega
  have p5 : W1.cell? ⟨w.heap.size, 5, none⟩ = some (.int .i64 (an : Int)) := row_cellsO HS1.out.ins 5 _ rfl
  have d3 : W1.cell? ⟨b, 3, none⟩ = some (.int .i64 q3) := row_cellsO HS1.out.did 3 _ rfl
  have f3 : W1.frozen? ⟨b, 3, none⟩ = false := own_frozen HS1.out.did 3
  have HW1 := Lib.hid hW1
  clear h hd ha hb hbw hW1
  rw [Int.toNat_natCast]
  obtain ⟨nw, hnw⟩ : ∃ x, x = newS c.buf (an : Int) := ⟨_, rfl⟩
  rw [← hnw]
  have HNW := Lib.hid hnw
  clear hnw
  simp only [insV, insC]
  go_enter Tryd.func64, Tryd.ntmps64
  go_upto_region 1 with fail
  rw [← HW1.out]
  clear HW1
  go_upto_region 2 with fail
  have HS2 := Lib.hid (HS1.out.set HSZ.out 3 (.int .i64 (an : Int)))
  clear p5 d3 f3 HS1
  generalize W1.setCell ⟨b, 3, none⟩ (.int .i64 (an : Int)) = W2 at HS2 ⊢
  have p5 : W2.cell? ⟨w.heap.size, 5, none⟩ = some (.int .i64 (an : Int)) := row_cellsO HS2.out.ins 5 _ rfl
  have HN : Hid (Calls Tryd.prog 87 #[.pointer (some ⟨g, o, none⟩), .int .i64 (an : Int)] W2 fun e w' => e = .returned (.tuple #[.int .i64 ((newS c.buf (an : Int)).getD 0), .bool (newS c.buf (an : Int)).isSome]) ∧ Below W2.heap.size W2 w') := p_newest (HH.out.keep HS2.out.kp).co (HH.out.keep HS2.out.kp).buf HH.out.bl _
  rw [← HNW.out] at HN
  clear HNW
  have HX : Hid (∀ V, Below W2.heap.size W2 V → V.cell? ⟨b, 4, none⟩ = some (.int .i64 q4) ∧ V.frozen? ⟨b, 4, none⟩ = false ∧ V.cell? ⟨b, 6, none⟩ = some (.bool q6) ∧ V.frozen? ⟨b, 6, none⟩ = false) := fun V hV => ⟨row_cellsO (HS2.out.below hV).did 4 _ rfl, own_frozen (HS2.out.below hV).did 4, row_cellsO (HS2.out.below hV).did 6 _ rfl, own_frozen (HS2.out.below hV).did 6⟩
  obtain ⟨nv, hnv⟩ : ∃ x, x = nw.getD 0 := ⟨_, rfl⟩
  rw [← hnv] at HN
  obtain ⟨ns, hns⟩ : ∃ x, x = nw.isSome := ⟨_, rfl⟩
  rw [← hns] at HN
  have HNV := Lib.hid (And.intro hnv hns)
  clear hnv hns
  go_upto_region 3 with (go_at_call 87; refine HN.out.mono ?_; rintro e W3 ⟨rfl, hb3⟩; obtain ⟨d4, f4, d6, f6⟩ := HX.out _ hb3; have HB3 := Lib.hid hb3; clear hb3)
  have HS4 := Lib.hid (((HS2.out.below HB3.out).set HSZ.out 4 (.int .i64 nv)).set HSZ.out 6 (.bool ns))
  clear p5 d4 f4 d6 f6 HS2 HB3 HX HN
  generalize (W3.setCell ⟨b, 4, none⟩ (.int .i64 nv)).setCell ⟨b, 6, none⟩ (.bool ns) = W4 at HS4 ⊢
  have d6 : W4.cell? ⟨b, 6, none⟩ = some (.bool ns) := row_cellsO HS4.out.did 6 _ rfl
  cases nw with
  | some v =>
    obtain ⟨rfl, rfl⟩ : nv = v ∧ ns = true := ⟨HNV.out.1, HNV.out.2⟩
    clear HNV
    go_upto_region 5 with fail
    clear d6
    obtain ⟨c1, f1⟩ := (HH.out.keep HS4.out.kp).co.reg_at (j := dn) (by have := HD16.out; omega)
    have dw : Below W4.heap.size W4 W4.drew := below_drewN (Below.refl _ W4) 1
    have hgw : g < W4.heap.size := lt_of_at c1
    have HE := Lib.hid (HS4.out.below dw)
    have p2 : W4.cell? ⟨w.heap.size, 2, none⟩ = some (.int .i64 (dn : Int)) := row_cellsO HS4.out.ins 2 _ rfl
    have d4 : W4.cell? ⟨b, 4, none⟩ = some (.int .i64 nv) := row_cellsO HS4.out.did 4 _ rfl
    have c2 : W4.drew.cell? ⟨g, o + 2 + dn, none⟩ = some (.int .i64 (rget c.regs dn)) := (dw.cell (p := ⟨g, o + 2 + dn, none⟩) hgw).trans c1
    have f2 : W4.drew.frozen? ⟨g, o + 2 + dn, none⟩ = false := frozen_below dw hgw f1
    have h16 := HD16.out
    clear c1 f1 dw hgw HS4
    go_still_tail 11, (by kernel_rfl)
    change wpList _ _ _ _ _ W4.drew
    clear p2 d4
    generalize W4.drew = W9 at c2 f2 HE ⊢
    go_wp2
    exact bodyPost_end (results_none rfl _ _ _) rfl ⟨rfl, W9, HE.out.kp, HE.out.did, Below.refl _ _⟩
  | none =>
    obtain ⟨rfl, rfl⟩ : nv = 0 ∧ ns = false := ⟨HNV.out.1, HNV.out.2⟩
    clear HNV
    go_upto_region 4 with fail
    clear d6
    have dw : Below W4.heap.size W4 W4.drew := below_drewN (Below.refl _ W4) 1
    have HS5 := Lib.hid (HS4.out.below dw)
    clear dw HS4
    refine wp_region_held (S := fun V => (V.cell? ⟨p, 2, none⟩ = some (.slice a1 n1 c1) ∧ V.cell? ⟨p, 3, none⟩ = some (.int .i64 sz)) ∧ V.cell? ⟨w.heap.size, 5, none⟩ = some (.int .i64 (an : Int))) (by kernel_rfl) ?_
    change wpAnyH _ _ _ _ _ _ _ _ W4.drew
    generalize W4.drew = W5 at HS5 ⊢
    have HSA : Hid (∀ V r, LdS w b #[.int .u8 k, .int .u8 oo, .int .i64 (dn : Int), .int .i64 a, .int .i64 bb, .int .i64 (an : Int), .int .i64 tt, .int .i64 wd, .int .i64 fr] V r → (V.cell? ⟨p, 2, none⟩ = some (.slice a1 n1 c1) ∧ V.cell? ⟨p, 3, none⟩ = some (.int .i64 sz)) ∧ V.cell? ⟨w.heap.size, 5, none⟩ = some (.int .i64 (an : Int))) := fun V r hV => ⟨⟨row_cellsO (HH.out.keep hV.kp).mch 2 _ HH.out.m2, row_cellsO (HH.out.keep hV.kp).mch 3 _ HH.out.m3⟩, row_cellsO hV.ins 5 _ rfl⟩
    have HSX := Lib.hid (HSA.out _ _ HS5.out)
    change wpAnyH _ _ _ _ _ _ _ { tmps := List.toArray (_ :: _ :: _ :: _ :: _ :: _ :: _ :: _ :: _ :: _ :: _ :: _ :: _ :: _ :: _ :: _ :: _ :: _ :: _ :: _ :: _ :: _ :: _ :: _ :: _ :: _ :: _ :: _ :: _ :: _ :: _ :: _ :: _ :: _ :: _ :: _ :: _ :: _ :: _ :: _ :: _ :: _ :: _ :: _ :: _ :: _ :: _ :: _ :: _ :: _ :: _ :: _ :: []), defers := [] } _
    refine dr_take 0 (.pointer (some ⟨b, 0, none⟩)) rfl rfl (by kernel_rfl) (by kernel_rfl) (by kernel_rfl) (fun _ _ _ h => h) (fun _ _ => by unfold execOp; go_simp) HSX.out ?_
    change wpAnyH _ _ _ _ _ _ _ { tmps := List.toArray (_ :: _ :: _ :: _ :: _ :: _ :: _ :: _ :: _ :: _ :: _ :: _ :: _ :: _ :: _ :: _ :: _ :: _ :: _ :: _ :: _ :: _ :: _ :: _ :: _ :: _ :: _ :: _ :: _ :: _ :: _ :: _ :: _ :: _ :: _ :: _ :: _ :: _ :: _ :: _ :: _ :: _ :: _ :: _ :: _ :: _ :: _ :: _ :: _ :: _ :: _ :: _ :: []), defers := [] } _
    refine dr_take 1 (.pointer (some ⟨p, 0, none⟩)) rfl rfl (by kernel_rfl) (by kernel_rfl) (by kernel_rfl) (fun _ _ _ h => h) (fun _ _ => by unfold execOp; go_simp) HSX.out ?_
    change wpAnyH _ _ _ _ _ _ _ { tmps := List.toArray (_ :: _ :: _ :: _ :: _ :: _ :: _ :: _ :: _ :: _ :: _ :: _ :: _ :: _ :: _ :: _ :: _ :: _ :: _ :: _ :: _ :: _ :: _ :: _ :: _ :: _ :: _ :: _ :: _ :: _ :: _ :: _ :: _ :: _ :: _ :: _ :: _ :: _ :: _ :: _ :: _ :: _ :: _ :: _ :: _ :: _ :: _ :: _ :: _ :: _ :: _ :: _ :: []), defers := [] } _
    refine dr_take 2 (.pointer (some ⟨p, 0, none⟩)) rfl rfl (by kernel_rfl) (by kernel_rfl) (by kernel_rfl) (fun _ _ _ h => h) (fun _ _ => by unfold execOp; go_simp) HSX.out ?_
    change wpAnyH _ _ _ _ _ _ _ { tmps := List.toArray (_ :: _ :: _ :: _ :: _ :: _ :: _ :: _ :: _ :: _ :: _ :: _ :: _ :: _ :: _ :: _ :: _ :: _ :: _ :: _ :: _ :: _ :: _ :: _ :: _ :: _ :: _ :: _ :: _ :: _ :: _ :: _ :: _ :: _ :: _ :: _ :: _ :: _ :: _ :: _ :: _ :: _ :: _ :: _ :: _ :: _ :: _ :: _ :: _ :: _ :: _ :: _ :: []), defers := [] } _
    refine dr_take 3 (.pointer (some ⟨p, 2, none⟩)) rfl rfl (by kernel_rfl) (by kernel_rfl) (by kernel_rfl) (fun _ _ _ h => h) (fun _ _ => by unfold execOp; go_simp) HSX.out ?_
    change wpAnyH _ _ _ _ _ _ _ { tmps := List.toArray (_ :: _ :: _ :: _ :: _ :: _ :: _ :: _ :: _ :: _ :: _ :: _ :: _ :: _ :: _ :: _ :: _ :: _ :: _ :: _ :: _ :: _ :: _ :: _ :: _ :: _ :: _ :: _ :: _ :: _ :: _ :: _ :: _ :: _ :: _ :: _ :: _ :: _ :: _ :: _ :: _ :: _ :: _ :: _ :: _ :: _ :: _ :: _ :: _ :: _ :: _ :: _ :: []), defers := [] } _
    refine dr_take 4 (.agg #[.slice a1 n1 c1, .int .i64 sz]) rfl rfl (by kernel_rfl) (by kernel_rfl) (by kernel_rfl) (fun _ _ _ h => h) (fun V h => by have h0 := h.1.1; have h1 := h.1.2; clear h; unfold execOp; go_simp) HSX.out ?_
    change wpAnyH _ _ _ _ _ _ _ { tmps := List.toArray (_ :: _ :: _ :: _ :: _ :: _ :: _ :: _ :: _ :: _ :: _ :: _ :: _ :: _ :: _ :: _ :: _ :: _ :: _ :: _ :: _ :: _ :: _ :: _ :: _ :: _ :: _ :: _ :: _ :: _ :: _ :: _ :: _ :: _ :: _ :: _ :: _ :: _ :: _ :: _ :: _ :: _ :: _ :: _ :: _ :: _ :: _ :: _ :: _ :: _ :: _ :: _ :: []), defers := [] } _
    refine dr_take 5 (.pointer (some ⟨w.heap.size, 5, none⟩)) rfl rfl (by kernel_rfl) (by kernel_rfl) (by kernel_rfl) (fun _ _ _ h => h) (fun _ _ => by unfold execOp; go_simp) HSX.out ?_
    change wpAnyH _ _ _ _ _ _ _ { tmps := List.toArray (_ :: _ :: _ :: _ :: _ :: _ :: _ :: _ :: _ :: _ :: _ :: _ :: _ :: _ :: _ :: _ :: _ :: _ :: _ :: _ :: _ :: _ :: _ :: _ :: _ :: _ :: _ :: _ :: _ :: _ :: _ :: _ :: _ :: _ :: _ :: _ :: _ :: _ :: _ :: _ :: _ :: _ :: _ :: _ :: _ :: _ :: _ :: _ :: _ :: _ :: _ :: _ :: []), defers := [] } _
    refine dr_take 6 (.int .i64 (an : Int)) rfl rfl (by kernel_rfl) (by kernel_rfl) (by kernel_rfl) (fun _ _ _ h => h) (fun V h => by have h0 := h.2; clear h; unfold execOp; go_simp) HSX.out ?_
    change wpAnyH _ _ _ _ _ _ _ { tmps := List.toArray (_ :: _ :: _ :: _ :: _ :: _ :: _ :: _ :: _ :: _ :: _ :: _ :: _ :: _ :: _ :: _ :: _ :: _ :: _ :: _ :: _ :: _ :: _ :: _ :: _ :: _ :: _ :: _ :: _ :: _ :: _ :: _ :: _ :: _ :: _ :: _ :: _ :: _ :: _ :: _ :: _ :: _ :: _ :: _ :: _ :: _ :: _ :: _ :: _ :: _ :: _ :: _ :: []), defers := [] } _
    refine dr_one 7 rfl rfl (by kernel_rfl) ?_
    refine wp_callT (vs := #[.agg #[.slice a1 n1 c1, .int .i64 sz], .int .i64 (an : Int)]) rfl rfl (enters_of Tryd.func88 (by kernel_rfl) rfl) (by simp [Act.eval]) (p_at (HH.out.keep HS5.out.kp).pg sz HH.out.ml HAN.out) ?_
    rintro e W6 ⟨rfl, hb6⟩
    have HS6 := Lib.hid (HS5.out.below hb6)
    have HSY := Lib.hid (HSA.out _ _ HS6.out)
    clear hb6 HSX HS5
    refine ⟨HSY.out, ?_⟩
    change wpAnyH _ _ _ _ _ _ _ { tmps := List.toArray (_ :: _ :: _ :: _ :: _ :: _ :: _ :: _ :: _ :: _ :: _ :: _ :: _ :: _ :: _ :: _ :: _ :: _ :: _ :: _ :: _ :: _ :: _ :: _ :: _ :: _ :: _ :: _ :: _ :: _ :: _ :: _ :: _ :: _ :: _ :: _ :: _ :: _ :: _ :: _ :: _ :: _ :: _ :: _ :: _ :: _ :: _ :: _ :: _ :: _ :: _ :: _ :: []), defers := [] } _
    refine dr_one 8 rfl rfl (by kernel_rfl) ?_
    refine wv_val (w' := W6) (v := .pointer (some ⟨b, 0, none⟩)) (by unfold execOp; go_simp) ⟨HSY.out, ?_⟩
    change wpAnyH _ _ _ _ _ _ _ { tmps := List.toArray (_ :: _ :: _ :: _ :: _ :: _ :: _ :: _ :: _ :: _ :: _ :: _ :: _ :: _ :: _ :: _ :: _ :: _ :: _ :: _ :: _ :: _ :: _ :: _ :: _ :: _ :: _ :: _ :: _ :: _ :: _ :: _ :: _ :: _ :: _ :: _ :: _ :: _ :: _ :: _ :: _ :: _ :: _ :: _ :: _ :: _ :: _ :: _ :: _ :: _ :: _ :: _ :: []), defers := [] } _
    refine dr_one 9 rfl rfl (by kernel_rfl) ?_
    refine wv_val (w' := W6) (v := .pointer (some ⟨b, 4, none⟩)) (by unfold execOp; go_simp) ⟨HSY.out, ?_⟩
    change wpAnyH _ _ _ _ _ _ _ { tmps := List.toArray (_ :: _ :: _ :: _ :: _ :: _ :: _ :: _ :: _ :: _ :: _ :: _ :: _ :: _ :: _ :: _ :: _ :: _ :: _ :: _ :: _ :: _ :: _ :: _ :: _ :: _ :: _ :: _ :: _ :: _ :: _ :: _ :: _ :: _ :: _ :: _ :: _ :: _ :: _ :: _ :: _ :: _ :: _ :: _ :: _ :: _ :: _ :: _ :: _ :: _ :: _ :: _ :: []), defers := [] } _
    refine dr_one 10 rfl rfl (by kernel_rfl) ?_
    have HS7 := Lib.hid (HS6.out.set HSZ.out 4 (.int .i64 (rget mem (an : Int))))
    refine wp_stI rfl rfl rfl (row_cellsO HS6.out.did 4 (.int .i64 0) rfl) (own_frozen HS6.out.did 4) ⟨HSA.out _ _ HS7.out, ?_⟩
    refine wpAnyH_done (by kernel_rfl) ?_ _
    clear HSY HS6 HSA
    generalize W6.setCell ⟨b, 4, none⟩ (.int .i64 (rget mem (an : Int))) = W7 at HS7 ⊢
    go_upto_region 5 with fail
    obtain ⟨c1, f1⟩ := (HH.out.keep HS7.out.kp).co.reg_at (j := dn) (by have := HD16.out; omega)
    have dw : Below W7.heap.size W7 W7.drew := below_drewN (Below.refl _ W7) 1
    have hgw : g < W7.heap.size := lt_of_at c1
    have HE := Lib.hid (HS7.out.below dw)
    have p2 : W7.cell? ⟨w.heap.size, 2, none⟩ = some (.int .i64 (dn : Int)) := row_cellsO HS7.out.ins 2 _ rfl
    have d4 : W7.cell? ⟨b, 4, none⟩ = some (.int .i64 (rget mem (an : Int))) := row_cellsO HS7.out.did 4 _ rfl
    have c2 : W7.drew.cell? ⟨g, o + 2 + dn, none⟩ = some (.int .i64 (rget c.regs dn)) := (dw.cell (p := ⟨g, o + 2 + dn, none⟩) hgw).trans c1
    have f2 : W7.drew.frozen? ⟨g, o + 2 + dn, none⟩ = false := frozen_below dw hgw f1
    have h16 := HD16.out
    clear c1 f1 dw hgw HS7
    go_still_tail 11, (by kernel_rfl)
    change wpList _ _ _ _ _ W7.drew
    clear p2 d4
    generalize W7.drew = W9 at c2 f2 HE ⊢
    go_wp2
    exact bodyPost_end (results_none rfl _ _ _) rfl ⟨rfl, W9, HE.out.kp, HE.out.did, Below.refl _ _⟩
end Go.Proofs.YtmpljhfinmfnbaaDoor

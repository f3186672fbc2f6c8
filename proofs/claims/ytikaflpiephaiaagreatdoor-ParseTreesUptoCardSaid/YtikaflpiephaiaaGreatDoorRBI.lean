/- The proof, part 35: texts that belong together, in one. -/
import Derived.Test.YtikaflpiephaiaaGreatDoorRBH
import Derived.Deep.RegionHeld3
import Derived.Deep.RegionWith
import Derived.Deep.DeepCutAuto
import Derived.Test.YtikaflpiephaiaaGreatDoorRBB
import Derived.ChangeArms
import Derived.SizedLaws
import Derived.Carry
import Derived.ChangeSame
import Derived.WideShapes
set_option maxRecDepth 100000
set_option maxHeartbeats 20000000
namespace Go.Proofs.YtikaflpiephaiaaGreatDoor
open Go.RowKit
set_option linter.unusedVariables false
def Bx (w : World) (T : TypeId) (r z : Array Value) (W : World) : Prop := Own W w.heap.size T r ∧ Own W (w.heap.size + 1) T z ∧ Below w.heap.size w W
section
variable {w W W' : World} {T : TypeId} {r z : Array Value}
theorem bx_new (w : World) (T : TypeId) (r z : Array Value) : Bx w T r z ((w.alloc (.cells r T)).alloc (.cells z T)) :=
 ⟨(Own.new w T r).alloc _, by have := Own.new (w.alloc (.cells r T)) T z; rw [World.size_alloc] at this; exact this, ((Below.refl _ w).alloc (Nat.le_refl _) _).alloc (by rw [World.size_alloc]; omega) _⟩
theorem bx_drewN (h : Bx w T r z W) (n : Nat) : Bx w T r z (W.drewN n) := ⟨h.1.drewN n, h.2.1.drewN n, below_drewN h.2.2 n⟩
theorem bx_below (h : Bx w T r z W) (hb : Below W.heap.size W W') : Bx w T r z W' := ⟨h.1.below hb, h.2.1.below hb, h.2.2.trans (hb.mono h.2.2.size)⟩
theorem bx_set (h : Bx w T r z W) (j : Nat) (v : Value) : Bx w T (r.setIfInBounds j v) z (W.setCell ⟨w.heap.size, j, none⟩ v) := ⟨h.1.setJ j v, h.2.1.setX j v (by omega), h.2.2.setCell (Nat.le_refl _) v⟩
theorem bx_cell (h : Bx w T r z W) {j : Nat} {v : Value} (hv : r[j]? = some v) : W.cell? ⟨w.heap.size, j, none⟩ = some v := by rw [cell_of_row _ _ j _ _ _ h.1]; exact hv
theorem bx_frozen (h : Bx w T r z W) (j : Nat) : W.frozen? ⟨w.heap.size, j, none⟩ = false := own_frozen h.1 j
theorem bx_gt (h : Bx w T r z W) : w.heap.size + 1 < W.heap.size := h.2.1.lt
end
def K1 (w : World) (a b : ByteArray) (r z : Array Value) (W : World) : Prop := W.cell? ⟨w.heap.size, 1, none⟩ = some (.string a) ∧ W.cell? ⟨w.heap.size, 2, none⟩ = some (.string b) ∧ W.frozen? ⟨w.heap.size, 1, none⟩ = false ∧ W.frozen? ⟨w.heap.size, 2, none⟩ = false ∧ Bx w 69 r z W
section
variable {w W W' : World} {k : Int} {nm ot : ByteArray} {v3 v4 v5 v6 : Value} {z : Array Value}
theorem k1_of (h : Bx w 69 #[.int .u8 k, .string nm, .string ot, v3, v4, v5, v6] z W) : K1 w nm ot #[.int .u8 k, .string nm, .string ot, v3, v4, v5, v6] z W := ⟨bx_cell h rfl, bx_cell h rfl, bx_frozen h 1, bx_frozen h 2, h⟩
theorem k1_drew (h : Bx w 69 #[.int .u8 k, .string nm, .string ot, v3, v4, v5, v6] z W) : K1 w nm ot #[.int .u8 k, .string nm, .string ot, v3, v4, v5, v6] z W.drew := k1_of (bx_drewN h 1)
theorem k1_below (h : K1 w nm ot #[.int .u8 k, .string nm, .string ot, v3, v4, v5, v6] z W) (hb : Below W.heap.size W W') : K1 w nm ot #[.int .u8 k, .string nm, .string ot, v3, v4, v5, v6] z W' := k1_of (bx_below h.2.2.2.2 hb)
theorem k1_set1 (h : K1 w nm ot #[.int .u8 k, .string nm, .string ot, v3, v4, v5, v6] z W) : K1 w nm ot #[.int .u8 k, .string nm, .string ot, v3, v4, v5, v6] z (W.setCell ⟨w.heap.size, 1, none⟩ (.string nm)) := k1_of (bx_set h.2.2.2.2 1 _)
theorem k1_set2 (h : K1 w nm ot #[.int .u8 k, .string nm, .string ot, v3, v4, v5, v6] z W) : K1 w nm ot #[.int .u8 k, .string nm, .string ot, v3, v4, v5, v6] z (W.setCell ⟨w.heap.size, 2, none⟩ (.string ot)) := k1_of (bx_set h.2.2.2.2 2 _)
end
def Dx (w : World) (r z : Array Value) (es : List Ex) (bo : List St) (a3 a4 : Option Addr) (W : World) : Prop := Bx w 69 r z W ∧ exsAt (fun b => w.heap.size + 1 < b) W es a3 ∧ stsAt (fun b => w.heap.size + 1 < b) W bo a4
def Fx (w : World) (r z : Array Value) (es : List Ex) (bo el : List St) (a3 a4 a5 : Option Addr) (W : World) : Prop := Dx w r z es bo a3 a4 W ∧ stsAt (fun b => w.heap.size + 1 < b) W el a5
section
variable {w W W' : World} {r z : Array Value} {es : List Ex} {bo el : List St} {a3 a4 a5 : Option Addr}
theorem stays_far {g j : Nat} {v : Value} (W : World) (hg : g = w.heap.size) : Stays (fun b => w.heap.size + 1 < b) W (W.setCell ⟨g, j, none⟩ v) := stays_setX W j v (fun b hb => by have h : w.heap.size + 1 < b := hb; omega)
theorem dx_of (h : Bx w 69 r z W) (h3 : exsAt (fun b => w.heap.size + 1 < b) W es a3) (h4 : stsAt (fun b => W.heap.size ≤ b) W' bo a4) (hb : Below W.heap.size W W') : Dx w r z es bo a3 a4 W' :=
 ⟨bx_below h hb, exsAt_stays (stays_below hb) (fun b hb => hb) h3, stsAt_mono' h4 (fun b hb => by have := bx_gt h; have h : W.heap.size ≤ b := hb; omega)⟩
theorem dx_set (h : Dx w r z es bo a3 a4 W) (j : Nat) (v : Value) : Dx w (r.setIfInBounds j v) z es bo a3 a4 (W.setCell ⟨w.heap.size, j, none⟩ v) :=
 ⟨bx_set h.1 j v, exsAt_stays (stays_far W rfl) (fun b hb => hb) h.2.1, stsAt_stays (stays_far W rfl) (fun b hb => hb) h.2.2⟩
theorem fx_of (h : Dx w r z es bo a3 a4 W) (h5 : stsAt (fun b => W.heap.size ≤ b) W' el a5) (hb : Below W.heap.size W W') : Fx w r z es bo el a3 a4 a5 W' :=
 ⟨⟨bx_below h.1 hb, exsAt_stays (stays_below hb) (fun b hb => hb) h.2.1, stsAt_stays (stays_below hb) (fun b hb => hb) h.2.2⟩, stsAt_mono' h5 (fun b hb => by have := bx_gt h.1; have h : W.heap.size ≤ b := hb; omega)⟩
theorem fx_set (h : Fx w r z es bo el a3 a4 a5 W) (j : Nat) (v : Value) : Fx w (r.setIfInBounds j v) z es bo el a3 a4 a5 (W.setCell ⟨w.heap.size, j, none⟩ v) :=
 ⟨dx_set h.1 j v, stsAt_stays (stays_far W rfl) (fun b hb => hb) h.2⟩
end
theorem cp_S (x : St) (HE : CpEs x.e) (HB : CpSs x.body) (HL : CpSs x.els) : CpS x := by
 intro hf a3 c3 a4 c4 a5 c5 w h3 h4 h5
 obtain ⟨k, nm, ot, es, bo, el, ps⟩ := x
 obtain ⟨f1, f2, ⟨f3, f4⟩, ⟨f5, f6⟩, f7, f8⟩ := hf
 have HCL : Hid (∀ s W, (s = nm ∨ s = ot) → Calls Tryz.prog 74 #[.string s] W fun e w' => e = .returned (.string s) ∧ Below W.heap.size W w') := fun s W hs => by
  rcases hs with rfl | rfl
  · exact p_clone _ f1 W
  · exact p_clone _ f2 W
 have HE0 : Hid (∀ W, Below w.heap.size w W → Calls Tryz.prog 126 #[.slice a3 es.length c3, .func (.func 127) #[] #[]] W fun e w' => ∃ a' c', e = .returned (.slice a' es.length c') ∧ exsAt (fun b => W.heap.size ≤ b) w' es a' ∧ Below W.heap.size W w') := fun W hW => HE f4 f3 a3 c3 W (exsAt_below h3 hW)
 have HE1 : Hid (∀ W, Below w.heap.size w W → Calls Tryz.prog 75 #[.slice a4 bo.length c4, .func (.func 76) #[] #[]] W fun e w' => ∃ a' c', e = .returned (.slice a' bo.length c') ∧ stsAt (fun b => W.heap.size ≤ b) w' bo a' ∧ Below W.heap.size W w') := fun W hW => HB f6 f5 a4 c4 W (stsAt_below h4 hW)
 have HE2 : Hid (∀ W, Below w.heap.size w W → Calls Tryz.prog 75 #[.slice a5 el.length c5, .func (.func 76) #[] #[]] W fun e w' => ∃ a' c', e = .returned (.slice a' el.length c') ∧ stsAt (fun b => W.heap.size ≤ b) w' el a' ∧ Below W.heap.size W w') := fun W hW => HL f8 f7 a5 c5 W (stsAt_below h5 hW)
 change Calls _ _ #[.agg #[.int .u8 k, .string nm, .string ot, .slice a3 es.length c3, .slice a4 bo.length c4, .slice a5 el.length c5, .int .i64 ps]] w _
 clear h3 h4 h5 f1 f2 f3 f4 f5 f6 f7 f8 HE HB HL
 obtain ⟨n3, hn3⟩ : ∃ n, n = es.length := ⟨_, rfl⟩
 rw [← hn3] at HE0 ⊢
 obtain ⟨n4, hn4⟩ : ∃ n, n = bo.length := ⟨_, rfl⟩
 rw [← hn4] at HE1 ⊢
 obtain ⟨n5, hn5⟩ : ∃ n, n = el.length := ⟨_, rfl⟩
 rw [← hn5] at HE2 ⊢
 have HN3 := Lib.hid hn3
 have HN4 := Lib.hid hn4
 have HN5 := Lib.hid hn5
 clear hn3 hn4 hn5
 have HX := Lib.hid (bx_new w 69 #[.int .u8 k, .string nm, .string ot, .slice a3 n3 c3, .slice a4 n4 c4, .slice a5 n5 c5, .int .i64 ps] zSt)
 go_enter Tryz.func76, Tryz.ntmps76
 go_upto_region 1 with (fail)
 rw [show (#[.int .u8 0, .string ⟨#[]⟩, .string ⟨#[]⟩, .slice none 0 0, .slice none 0 0, .slice none 0 0, .int .i64 0] : Array Value) = zSt from rfl]
 obtain ⟨W0, hW0⟩ : ∃ W, W = (w.alloc (.cells #[.int .u8 k, .string nm, .string ot, .slice a3 n3 c3, .slice a4 n4 c4, .slice a5 n5 c5, .int .i64 ps] 69)).alloc (.cells zSt 69) := ⟨_, rfl⟩
 rw [← hW0] at HX ⊢
 clear hW0
 go_cut [] (fun wx => K1 w nm ot #[.int .u8 k, .string nm, .string ot, .slice a3 n3 c3, .slice a4 n4 c4, .slice a5 n5 c5, .int .i64 ps] zSt wx)
 case first =>
  go_region_held3 (fun W => W.cell? ⟨w.heap.size, 1, none⟩ = some (.string nm) ∧ W.cell? ⟨w.heap.size, 2, none⟩ = some (.string ot) ∧ W.frozen? ⟨w.heap.size, 1, none⟩ = false ∧ W.frozen? ⟨w.heap.size, 2, none⟩ = false ∧ Bx w 69 #[.int .u8 k, .string nm, .string ot, .slice a3 n3 c3, .slice a4 n4 c4, .slice a5 n5 c5, .int .i64 ps] zSt W) (first | exact k1_drew HX.out | exact k1_set1 (by assumption) | exact k1_set2 (by assumption) | exact k1_below (by assumption) (by assumption)) (first | (go_at_call 74; refine (HCL.out _ _ (by first | exact .inl rfl | exact .inr rfl)).mono ?_; rintro e w3 ⟨rfl, hb3⟩))
  all_goals (go_wp2_with fail; go_meet; (first | assumption | (case rel => assumption)))
 case rest =>
  have HX := Lib.hid hcut.2.2.2.2
  clear hcut
  have y3 : wc.cell? ⟨w.heap.size, 3, none⟩ = some (.slice a3 n3 c3) := bx_cell HX.out rfl
  go_wp2_with fail
  go_at_call 126
  refine (HE0.out _ HX.out.2.2).mono ?_
  rintro e w3 ⟨a3', c3', rfl, hx3, hb3⟩
  have H3 := bx_below HX.out hb3
  have X3 := exsAt_mono (R' := fun b => w.heap.size + 1 < b) hx3 (fun b hb => by have := bx_gt HX.out; have h : wc.heap.size ≤ b := hb; omega)
  have u3 : w3.cell? ⟨w.heap.size, 3, none⟩ = some (.slice a3 n3 c3) := bx_cell H3 rfl
  have z3 : w3.frozen? ⟨w.heap.size, 3, none⟩ = false := bx_frozen H3 3
  have H4 : Hid (Bx w 69 #[.int .u8 k, .string nm, .string ot, .slice a3' n3 c3', .slice a4 n4 c4, .slice a5 n5 c5, .int .i64 ps] zSt (w3.setCell ⟨w.heap.size, 3, none⟩ (.slice a3' n3 c3'))) := bx_set H3 3 _
  have X4 := Lib.hid (exsAt_stays (stays_far (j := 3) (v := .slice a3' n3 c3') w3 rfl) (fun b hb => hb) X3)
  obtain ⟨w4, hw4⟩ : ∃ W, W = w3.setCell ⟨w.heap.size, 3, none⟩ (.slice a3' n3 c3') := ⟨_, rfl⟩
  rw [← hw4] at H4 X4
  have e4 := hw4.symm
  clear hw4 H3 X3 hb3 hx3 HX y3
  go_upto_region 3 with (fail)
  clear u3 z3 e4
  have hbd : Below w.heap.size w w4.drew := below_drewN H4.out.2.2 1
  have HZ := Lib.hid (bx_drewN H4.out 1)
  have XZ : Hid (exsAt (fun b => w.heap.size + 1 < b) w4.drew es a3') := exsAt_stays (stays_below (below_drewN (Below.refl _ w4) 1)) (fun b hb => hb) X4.out
  have y4 : w4.cell? ⟨w.heap.size, 4, none⟩ = some (.slice a4 n4 c4) := bx_cell H4.out rfl
  have y5 : w4.cell? ⟨w.heap.size, 5, none⟩ = some (.slice a5 n5 c5) := bx_cell H4.out rfl
  go_cut [] (fun wx => ∃ a4' c4' a5' c5', Fx w #[.int .u8 k, .string nm, .string ot, .slice a3' n3 c3', .slice a4' n4 c4', .slice a5' n5 c5', .int .i64 ps] zSt es bo el a3' a4' a5' wx)
  case first =>
   go_region_with (first
    | (go_at_call_of 75 (Value.slice a4 n4 c4)
       refine (HE1.out _ (by assumption)).mono ?_
       rintro e w5 ⟨a4', c4', rfl, hx4, hb4⟩
       have D5 := dx_of HZ.out XZ.out hx4 hb4
       have D5' := dx_set D5 4 (.slice a4' n4 c4')
       have hbd5 := D5.1.2.2
       have hbd5' := D5'.1.2.2
       have p4 : w5.cell? ⟨w.heap.size, 4, none⟩ = some (.slice a4 n4 c4) := bx_cell D5.1 rfl
       have p5 : w5.cell? ⟨w.heap.size, 5, none⟩ = some (.slice a5 n5 c5) := bx_cell D5.1 rfl
       have pz4 : w5.frozen? ⟨w.heap.size, 4, none⟩ = false := bx_frozen D5.1 4
       have p5' : (w5.setCell ⟨w.heap.size, 4, none⟩ (.slice a4' n4 c4')).cell? ⟨w.heap.size, 5, none⟩ = some (.slice a5 n5 c5) := bx_cell D5'.1 rfl
       clear hx4 hb4)
    | (go_at_call_of 75 (Value.slice a5 n5 c5)
       refine (HE2.out _ (by assumption)).mono ?_
       rintro e w6 ⟨a5', c5', rfl, hx5, hb5⟩
       have F6 := fx_of (by assumption) hx5 hb5
       have q5 : w6.cell? ⟨w.heap.size, 5, none⟩ = some (.slice a5 n5 c5) := bx_cell F6.1.1 rfl
       have qz5 : w6.frozen? ⟨w.heap.size, 5, none⟩ = false := bx_frozen F6.1.1 5
       have qz4 : w6.frozen? ⟨w.heap.size, 4, none⟩ = false := bx_frozen F6.1.1 4
       obtain ⟨v4, q4⟩ : ∃ v, w6.cell? ⟨w.heap.size, 4, none⟩ = some v := ⟨_, bx_cell F6.1.1 rfl⟩
       clear hx5 hb5))
   all_goals (go_wp2_with fail; go_meet; exact ⟨a4', c4', a5', c5', fx_set (fx_set F6 4 _) 5 _⟩)
  case rest =>
   obtain ⟨a4', c4', a5', c5', hF⟩ := hcut
   have HF := Lib.hid hF
   have P1q := HF.out.1.1.1
   have P2q := HF.out.1.1.2.1
   clear hF
   unfold zSt at P2q
   go_wp2_with (first | (refine ld rowSt rfl rfl rfl P1q rfl ?_) | (refine st rowSt rfl rfl P2q rfl rfl (by rfl) (by rfl) (by kernel_rfl) ?_))
   refine p_ret rowSt rfl (P2q.row #[.int .u8 k, .string nm, .string ot, .slice a3' n3 c3', .slice a4' n4 c4', .slice a5' n5 c5', .int .i64 ps]) rfl rfl rfl ?_
   have hst : Stays (fun b => w.heap.size + 1 < b) wc (wc.setRow (w.heap.size + 1) #[.int .u8 k, .string nm, .string ot, .slice a3' n3 c3', .slice a4' n4 c4', .slice a5' n5 c5', .int .i64 ps]) := stays_row wc _ (fun b hb => by have h : w.heap.size + 1 < b := hb; omega)
   refine ⟨a3', c3', a4', c4', a5', c5', by rw [HN3.out, HN4.out, HN5.out]; rfl, ?_, ?_, ?_, Below.of_row HF.out.1.1.2.2 (Nat.le_succ _) #[.int .u8 k, .string nm, .string ot, .slice a3' n3 c3', .slice a4' n4 c4', .slice a5' n5 c5', .int .i64 ps]⟩
   · exact exsAt_stays hst (fun b hb => by have h : w.heap.size + 1 < b := hb; show w.heap.size ≤ b; omega) HF.out.1.2.1
   · exact stsAt_stays hst (fun b hb => by have h : w.heap.size + 1 < b := hb; show w.heap.size ≤ b; omega) HF.out.1.2.2
   · exact stsAt_stays hst (fun b hb => by have h : w.heap.size + 1 < b := hb; show w.heap.size ≤ b; omega) HF.out.2
theorem cpE : ∀ x : Ex, CpE x := by
 intro x
 induction x using Ex.ind with
 | h k o wd nm ks ps ih => exact cp_E _ (cp_each_E ih)
theorem cpS : ∀ x : St, CpS x := by
 intro x
 induction x using St.ind with
 | h k n o e b l ps ihb ihl => exact cp_S _ (cp_each_E fun y _ => cpE y) (cp_each_S ihb) (cp_each_S ihl)
theorem cpT (x : Th) : CpT x := cp_T x (cp_each_D fun y _ => cp_D y) (cp_each_S fun y _ => cpS y)
def fitP (p : Pg) : Prop := (32 * p.shared.length ≤ 140737488355328 ∧ fitDs p.shared) ∧ (32 * p.locks.length ≤ 140737488355328 ∧ fitDs p.locks) ∧ 72 * p.threads.length ≤ 140737488355328 ∧ fitTs p.threads
def K2 (w : World) (v0 v1 v2 : Value) (W : World) : Prop := W.cell? ⟨w.heap.size, 0, none⟩ = some v0 ∧ W.cell? ⟨w.heap.size, 1, none⟩ = some v1 ∧ W.cell? ⟨w.heap.size, 2, none⟩ = some v2 ∧ Own W w.heap.size 25 #[v0, v1, v2] ∧ Below w.heap.size w W
section
variable {w W W' : World} {v0 v1 v2 : Value}
theorem k2_of (h : Own W w.heap.size 25 #[v0, v1, v2]) (hb : Below w.heap.size w W) : K2 w v0 v1 v2 W := ⟨by rw [cell_of_row _ _ 0 _ _ _ h]; rfl, by rw [cell_of_row _ _ 1 _ _ _ h]; rfl, by rw [cell_of_row _ _ 2 _ _ _ h]; rfl, h, hb⟩
theorem k2_below (h : K2 w v0 v1 v2 W) (hb : Below W.heap.size W W') : K2 w v0 v1 v2 W' := k2_of (h.2.2.2.1.below hb) (h.2.2.2.2.trans (hb.mono h.2.2.2.2.size))
theorem k2_set (h : K2 w v0 v1 v2 W) (j : Nat) (v : Value) : K2 w v0 v1 v2 (W.setCell ⟨w.heap.size + 1, j, none⟩ v) := k2_of (h.2.2.2.1.setX j v (by omega)) (h.2.2.2.2.setCell (by show w.heap.size ≤ w.heap.size + 1; omega) v)
end
theorem p_Copy (x : Pg) (hf : fitP x) {v : Value} {w : World} (hv : pA w x v) : Calls Tryz.prog 11 #[v] w fun e w' => (∃ s1 s1' s2 s2' s3 s3', e = .returned (.agg #[.slice s1 x.shared.length s1', .slice s2 x.locks.length s2', .slice s3 x.threads.length s3']) ∧ pA w' x (.agg #[.slice s1 x.shared.length s1', .slice s2 x.locks.length s2', .slice s3 x.threads.length s3'])) ∧ Below w.heap.size w w' := by
 obtain ⟨a1, c1, a2, c2, a3, c3, rfl, h1, h2, h3⟩ := hv
 obtain ⟨⟨f1, f2⟩, ⟨f3, f4⟩, f5, f6⟩ := hf
 have HE0 : Hid (∀ W, Below w.heap.size w W → Calls Tryz.prog 32 #[.slice a1 x.shared.length c1, .func (.func 33) #[] #[]] W fun e w' => ∃ a' c', e = .returned (.slice a' x.shared.length c') ∧ dcsAt (fun b => W.heap.size ≤ b) w' x.shared a' ∧ Below W.heap.size W w') := fun W hW => cp_each_D (fun y _ => cp_D y) f2 f1 a1 c1 W (dcsAt_below h1 hW)
 have HE1 : Hid (∀ W, Below w.heap.size w W → Calls Tryz.prog 32 #[.slice a2 x.locks.length c2, .func (.func 33) #[] #[]] W fun e w' => ∃ a' c', e = .returned (.slice a' x.locks.length c') ∧ dcsAt (fun b => W.heap.size ≤ b) w' x.locks a' ∧ Below W.heap.size W w') := fun W hW => cp_each_D (fun y _ => cp_D y) f4 f3 a2 c2 W (dcsAt_below h2 hW)
 have HE2 : Hid (∀ W, Below w.heap.size w W → Calls Tryz.prog 34 #[.slice a3 x.threads.length c3, .func (.func 35) #[] #[]] W fun e w' => ∃ a' c', e = .returned (.slice a' x.threads.length c') ∧ thsAt (fun b => W.heap.size ≤ b) w' x.threads a' ∧ Below W.heap.size W w') := fun W hW => cp_each_T (fun y _ => cpT y) f6 f5 a3 c3 W (thsAt_below h3 hW)
 clear h1 h2 h3 f1 f2 f3 f4 f5 f6
 obtain ⟨n1, hn1⟩ : ∃ n, n = x.shared.length := ⟨_, rfl⟩
 obtain ⟨n2, hn2⟩ : ∃ n, n = x.locks.length := ⟨_, rfl⟩
 obtain ⟨n3, hn3⟩ : ∃ n, n = x.threads.length := ⟨_, rfl⟩
 rw [← hn1] at HE0 ⊢
 rw [← hn2] at HE1 ⊢
 rw [← hn3] at HE2 ⊢
 have HN := Lib.hid (And.intro hn1 (And.intro hn2 hn3))
 clear hn1 hn2 hn3
 have HX := Lib.hid (bx_new w 25 #[.slice a1 n1 c1, .slice a2 n2 c2, .slice a3 n3 c3] zPg)
 go_enter Tryz.func11, Tryz.ntmps11
 go_upto_region 1 with (fail)
 rw [show (#[.slice none 0 0, .slice none 0 0, .slice none 0 0] : Array Value) = zPg from rfl]
 obtain ⟨W0, hW0⟩ : ∃ W, W = (w.alloc (.cells #[.slice a1 n1 c1, .slice a2 n2 c2, .slice a3 n3 c3] 25)).alloc (.cells zPg 25) := ⟨_, rfl⟩
 rw [← hW0] at HX ⊢
 clear hW0
 have hbd : Below w.heap.size w W0.drew := below_drewN HX.out.2.2 1
 have H1 : Hid (Own W0.drew w.heap.size 25 #[.slice a1 n1 c1, .slice a2 n2 c2, .slice a3 n3 c3]) := HX.out.1.drewN 1
 have H2 : Hid (Own W0.drew (w.heap.size + 1) 25 zPg) := HX.out.2.1.drewN 1
 go_region_held3 (fun W => W.cell? ⟨w.heap.size, 0, none⟩ = some (.slice a1 n1 c1) ∧ W.cell? ⟨w.heap.size, 1, none⟩ = some (.slice a2 n2 c2) ∧ W.cell? ⟨w.heap.size, 2, none⟩ = some (.slice a3 n3 c3) ∧ Own W w.heap.size 25 #[.slice a1 n1 c1, .slice a2 n2 c2, .slice a3 n3 c3] ∧ Below w.heap.size w W) (first | exact k2_of H1.out hbd | exact k2_below (by assumption) (by assumption) | exact k2_set (k2_set (k2_set (by assumption) _ _) _ _) _ _) (first
  | (go_at_call_of 32 (Value.slice a1 n1 c1)
     refine (HE0.out _ (by assumption)).mono ?_
     rintro e w5 ⟨a1', c1', rfl, hx1, hb1⟩
     have Q5 := Lib.hid (H2.out.below hb1)
     have hbd5 := hbd.trans (hb1.mono hbd.size)
     have Y1 : Hid (dcsAt (fun b => w.heap.size + 1 < b) w5 x.shared a1') := dcsAt_mono' hx1 (fun b hb => by have := H2.out.lt; have h : W0.drew.heap.size ≤ b := hb; omega))
  | (go_at_call_of 32 (Value.slice a2 n2 c2)
     refine (HE1.out _ (by assumption)).mono ?_
     rintro e w6 ⟨a2', c2', rfl, hx2, hb2⟩
     have Q6 := Lib.hid (Q5.out.below hb2)
     have hbd6 := hbd5.trans (hb2.mono hbd5.size)
     have Z1 : Hid (dcsAt (fun b => w.heap.size + 1 < b) w6 x.shared a1') := dcsAt_stays (stays_below hb2) (fun b hb => hb) Y1.out
     have Z2 : Hid (dcsAt (fun b => w.heap.size + 1 < b) w6 x.locks a2') := dcsAt_mono' hx2 (fun b hb => by have := Q5.out.lt; have h : w5.heap.size ≤ b := hb; omega))
  | (go_at_call_of 34 (Value.slice a3 n3 c3)
     refine (HE2.out _ (by assumption)).mono ?_
     rintro e w7 ⟨a3', c3', rfl, hx3, hb3⟩
     have Q7 := Lib.hid (Q6.out.below hb3)
     have U1 : Hid (dcsAt (fun b => w.heap.size + 1 < b) w7 x.shared a1') := dcsAt_stays (stays_below hb3) (fun b hb => hb) Z1.out
     have U2 : Hid (dcsAt (fun b => w.heap.size + 1 < b) w7 x.locks a2') := dcsAt_stays (stays_below hb3) (fun b hb => hb) Z2.out
     have U3 : Hid (thsAt (fun b => w.heap.size + 1 < b) w7 x.threads a3') := thsAt_stays (Stays.refl _ _) (fun b hb => by have := Q6.out.lt; have h : w6.heap.size ≤ b := hb; omega) hx3
     have q0 : w7.cell? ⟨w.heap.size + 1, 0, none⟩ = some (.slice none 0 0) := by rw [cell_of_row _ _ 0 _ _ _ Q7.out]; rfl
     have q1 : w7.cell? ⟨w.heap.size + 1, 1, none⟩ = some (.slice none 0 0) := by rw [cell_of_row _ _ 1 _ _ _ Q7.out]; rfl
     have q2 : w7.cell? ⟨w.heap.size + 1, 2, none⟩ = some (.slice none 0 0) := by rw [cell_of_row _ _ 2 _ _ _ Q7.out]; rfl
     have qz0 : w7.frozen? ⟨w.heap.size + 1, 0, none⟩ = false := own_frozen Q7.out 0
     have qz1 : w7.frozen? ⟨w.heap.size + 1, 1, none⟩ = false := own_frozen Q7.out 1
     have qz2 : w7.frozen? ⟨w.heap.size + 1, 2, none⟩ = false := own_frozen Q7.out 2))
 have R3 := ((Q7.out.setJ 0 (.slice a1' n1 c1')).setJ 1 (.slice a2' n2 c2')).setJ 2 (.slice a3' n3 c3')
 obtain ⟨W8, hW8⟩ : ∃ W, W = ((w7.setCell ⟨w.heap.size + 1, 0, none⟩ (.slice a1' n1 c1')).setCell ⟨w.heap.size + 1, 1, none⟩ (.slice a2' n2 c2')).setCell ⟨w.heap.size + 1, 2, none⟩ (.slice a3' n3 c3') := ⟨_, rfl⟩
 have hst : Stays (fun b => w.heap.size + 1 < b) w7 W8 := by
  rw [hW8]
  refine Stays.trans (Stays.trans (stays_setX _ 0 _ ?_) (stays_setX _ 1 _ ?_)) (stays_setX _ 2 _ ?_) <;> (intro b hb; have h : w.heap.size + 1 < b := hb; omega)
 have hBf : Below w.heap.size w W8 := by rw [hW8]; exact ((by assumption : K2 w _ _ _ _).2.2.2.2)
 rw [← hW8] at R3 ⊢
 clear hW8
 go_wp2_with fail
 refine p_ret rowPg rfl R3 rfl rfl rfl ?_
 have E1 : dcsAt (fun _ => True) W8 x.shared a1' := dcsAt_stays hst (fun _ _ => trivial) U1.out
 have E2 : dcsAt (fun _ => True) W8 x.locks a2' := dcsAt_stays hst (fun _ _ => trivial) U2.out
 have E3 : thsAt (fun _ => True) W8 x.threads a3' := thsAt_stays hst (fun _ _ => trivial) U3.out
 exact ⟨⟨a1', c1', a2', c2', a3', c3', rfl, a1', c1', a2', c2', a3', c3', by rw [HN.out.1, HN.out.2.1, HN.out.2.2], E1, E2, E3⟩, hBf⟩
open Go.RowKit Go.ChangeShapes Go.WideShapes
set_option linter.unusedVariables false
set_option maxRecDepth 100000
section
variable {H : Type} {enc : TypeId × Value → H} {W : World} {sp : Nat → Bool} {held : Bool}
theorem add_off (g off n : Nat) : (⟨g, off, none⟩ : Addr).add n = ⟨g, off + n, none⟩ := by
 by_cases h0 : n = 0
 · subst h0; rfl
 · simp [Addr.add, h0]
end
theorem dcsIn_all {w : World} {b : Nat} : ∀ (l : List Dc) (q : Nat), (∀ i x, l[i]? = some x → dcIn w x b (q + i * 3)) → dcsIn w l b q
 | [], q, h => trivial
 | x :: r, q, h => ⟨by have := h 0 x rfl; simpa using this, dcsIn_all r (q + 3) fun i y hy => by have := h (i + 1) y (by simpa using hy); rw [show q + 3 + i * 3 = q + (i + 1) * 3 by omega]; exact this⟩
theorem exsIn_all {R : Nat → Prop} {w : World} {b : Nat} : ∀ (l : List Ex) (q : Nat), (∀ i x, l[i]? = some x → exIn R w x b (q + i * 6)) → exsIn R w l b q
 | [], q, h => trivial
 | x :: r, q, h => ⟨by have := h 0 x rfl; simpa using this, exsIn_all r (q + 6) fun i y hy => by have := h (i + 1) y (by simpa using hy); rw [show q + 6 + i * 6 = q + (i + 1) * 6 by omega]; exact this⟩
theorem stsIn_all {R : Nat → Prop} {w : World} {b : Nat} : ∀ (l : List St) (q : Nat), (∀ i x, l[i]? = some x → stIn R w x b (q + i * 7)) → stsIn R w l b q
 | [], q, h => trivial
 | x :: r, q, h => ⟨by have := h 0 x rfl; simpa using this, stsIn_all r (q + 7) fun i y hy => by have := h (i + 1) y (by simpa using hy); rw [show q + 7 + i * 7 = q + (i + 1) * 7 by omega]; exact this⟩
theorem thsIn_all {R : Nat → Prop} {w : World} {b : Nat} : ∀ (l : List Th) (q : Nat), (∀ i x, l[i]? = some x → thIn R w x b (q + i * 4)) → thsIn R w l b q
 | [], q, h => trivial
 | x :: r, q, h => ⟨by have := h 0 x rfl; simpa using this, thsIn_all r (q + 4) fun i y hy => by have := h (i + 1) y (by simpa using hy); rw [show q + 4 + i * 4 = q + (i + 1) * 4 by omega]; exact this⟩
theorem okEs_all : ∀ {l : List Ex}, (∀ x ∈ l, okE x) → okEs l
 | [], _ => trivial
 | x :: r, h => ⟨h x (.head _), okEs_all fun y hy => h y (.tail _ hy)⟩
theorem okSs_all : ∀ {l : List St}, (∀ x ∈ l, okS x) → okSs l
 | [], _ => trivial
 | x :: r, h => ⟨h x (.head _), okSs_all fun y hy => h y (.tail _ hy)⟩
theorem fieldsD : ∃ fs : Array Go.Field, Tryz.prog.underlying 66 = some (.struct fs) ∧ fs.toList.map (fun f : Go.Field => (f.offset, Tryz.prog.cellsOf f.type, Tryz.prog.underlying f.type)) = [(0, 1, some (.string)), (1, 1, some (.int .i64)), (2, 1, some (.int .i64))] := ⟨_, Tryz.underlying66, by kernel_rfl⟩
theorem cellsD : Tryz.prog.cellsOf 66 = 3 := by kernel_rfl
theorem fieldsE : ∃ fs : Array Go.Field, Tryz.prog.underlying 38 = some (.struct fs) ∧ fs.toList.map (fun f : Go.Field => (f.offset, Tryz.prog.cellsOf f.type, Tryz.prog.underlying f.type)) = [(0, 1, some (.int .u8)), (1, 1, some (.int .u8)), (2, 1, some (.int .i64)), (3, 1, some (.string)), (4, 1, some (.slice 38)), (5, 1, some (.int .i64))] := ⟨_, Tryz.underlying38, by kernel_rfl⟩
theorem cellsE : Tryz.prog.cellsOf 38 = 6 := by kernel_rfl
theorem fieldsS : ∃ fs : Array Go.Field, Tryz.prog.underlying 69 = some (.struct fs) ∧ fs.toList.map (fun f : Go.Field => (f.offset, Tryz.prog.cellsOf f.type, Tryz.prog.underlying f.type)) = [(0, 1, some (.int .u8)), (1, 1, some (.string)), (2, 1, some (.string)), (3, 1, some (.slice 38)), (4, 1, some (.slice 69)), (5, 1, some (.slice 69)), (6, 1, some (.int .i64))] := ⟨_, Tryz.underlying69, by kernel_rfl⟩
theorem cellsS : Tryz.prog.cellsOf 69 = 7 := by kernel_rfl
theorem fieldsT : ∃ fs : Array Go.Field, Tryz.prog.underlying 64 = some (.struct fs) ∧ fs.toList.map (fun f : Go.Field => (f.offset, Tryz.prog.cellsOf f.type, Tryz.prog.underlying f.type)) = [(0, 1, some (.string)), (1, 1, some (.slice 66)), (2, 1, some (.slice 69)), (3, 1, some (.int .i64))] := ⟨_, Tryz.underlying64, by kernel_rfl⟩
theorem cellsT : Tryz.prog.cellsOf 64 = 4 := by kernel_rfl
theorem fieldsP : ∃ fs : Array Go.Field, Tryz.prog.underlying 25 = some (.struct fs) ∧ fs.toList.map (fun f : Go.Field => (f.offset, Tryz.prog.cellsOf f.type, Tryz.prog.underlying f.type)) = [(0, 1, some (.slice 66)), (1, 1, some (.slice 66)), (2, 1, some (.slice 64))] := ⟨_, Tryz.underlying25, by kernel_rfl⟩
theorem cellsP : Tryz.prog.cellsOf 25 = 3 := by kernel_rfl
section
variable {H : Type} {enc : TypeId × Value → H} {W : World} {sp : Nat → Bool} {held : Bool}
end
end Go.Proofs.YtikaflpiephaiaaGreatDoor

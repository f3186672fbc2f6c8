/- A core runs: it does its next instruction. -/
import Derived.Test.YtmpljhfinmfnbaaDoorVkf
namespace Go.Proofs.YtmpljhfinmfnbaaDoor
open Go.RowKit
set_option linter.unusedVariables false
set_option maxRecDepth 100000
def doK (k t : Int) (f : Nat) : Prop := (k = 1 ∧ t = 1 ∧ f = 62) ∨ (k = 2 ∧ t = 1 ∧ f = 63) ∨ (k = 3 ∧ t = 2 ∧ f = 64) ∨ (k = 4 ∧ t = 3 ∧ f = 65) ∨ (k = 5 ∧ t = 4 ∧ f = 66) ∨ (k = 6 ∧ t = 5 ∧ f = 67) ∨ (k = 7 ∧ t = 6 ∧ f = 68) ∨ (k = 8 ∧ t = 1 ∧ f = 69) ∨ (k = 9 ∧ t = 1 ∧ f = 70) ∨ (k = 10 ∧ t = 7 ∧ f = 71)
theorem work_at (k : Int) (h : 0 < k ∧ k < 11) : ∃ t f, (∀ W, (Instr.index 110 (.agg worksC) (.int .u8 k)).run Tryd.prog W = .ok (.agg #[.int .u8 t, .func (.func f) #[] #[]]) W) ∧ doK k t f := by
  have hk : k = 1 ∨ k = 2 ∨ k = 3 ∨ k = 4 ∨ k = 5 ∨ k = 6 ∨ k = 7 ∨ k = 8 ∨ k = 9 ∨ k = 10 := by omega
  rcases hk with rfl | rfl | rfl | rfl | rfl | rfl | rfl | rfl | rfl | rfl
  · exact ⟨1, 62, fun _ => by kernel_rfl, by simp [doK]⟩
  · exact ⟨1, 63, fun _ => by kernel_rfl, by simp [doK]⟩
  · exact ⟨2, 64, fun _ => by kernel_rfl, by simp [doK]⟩
  · exact ⟨3, 65, fun _ => by kernel_rfl, by simp [doK]⟩
  · exact ⟨4, 66, fun _ => by kernel_rfl, by simp [doK]⟩
  · exact ⟨5, 67, fun _ => by kernel_rfl, by simp [doK]⟩
  · exact ⟨6, 68, fun _ => by kernel_rfl, by simp [doK]⟩
  · exact ⟨1, 69, fun _ => by kernel_rfl, by simp [doK]⟩
  · exact ⟨1, 70, fun _ => by kernel_rfl, by simp [doK]⟩
  · exact ⟨7, 71, fun _ => by kernel_rfl, by simp [doK]⟩
theorem enters_do {k t : Int} {f : Nat} (h : doK k t f) : ∀ (args : Array Value) (w : World), (callFunc f args).run Tryd.prog w = .ok (.enter f args) w := by
  rcases h with ⟨_, _, rfl⟩ | ⟨_, _, rfl⟩ | ⟨_, _, rfl⟩ | ⟨_, _, rfl⟩ | ⟨_, _, rfl⟩ | ⟨_, _, rfl⟩ | ⟨_, _, rfl⟩ | ⟨_, _, rfl⟩ | ⟨_, _, rfl⟩ | ⟨_, _, rfl⟩
  · exact enters_of Tryd.func62 (by kernel_rfl) rfl
  · exact enters_of Tryd.func63 (by kernel_rfl) rfl
  · exact enters_of Tryd.func64 (by kernel_rfl) rfl
  · exact enters_of Tryd.func65 (by kernel_rfl) rfl
  · exact enters_of Tryd.func66 (by kernel_rfl) rfl
  · exact enters_of Tryd.func67 (by kernel_rfl) rfl
  · exact enters_of Tryd.func68 (by kernel_rfl) rfl
  · exact enters_of Tryd.func69 (by kernel_rfl) rfl
  · exact enters_of Tryd.func70 (by kernel_rfl) rfl
  · exact enters_of Tryd.func71 (by kernel_rfl) rfl
section
variable {w : World} {p b kk g : Nat} {s : Vm} {c : Co} {F : List Nat} {k0 : Int} {cv pv : Value} {sd : Option Addr} {L : List (Co × Value × Value)} {PL : List Nat} {bv cvv : Value} {cap : Nat}
theorem do_do (H : DoH w p b kk g s c F k0 cv pv sd L PL bv cvv cap) (T : Tabs w) (hl : s.said.length ≤ 4611686018427387904) {f : Nat} (hk : doK c.next.k k0 f) : Calls Tryd.prog f #[.pointer (some ⟨p, 0, none⟩), .pointer (some ⟨g, kk * 20, none⟩), insV c.next, .pointer (some ⟨b, 0, none⟩)] w fun x w' => x = .returned (.tuple #[]) ∧ DoR w p b (goI s kk c).1 (goI s kk c).2 F w' := by
  rcases hk with ⟨e, rfl, rfl⟩ | ⟨e, rfl, rfl⟩ | ⟨e, rfl, rfl⟩ | ⟨e, rfl, rfl⟩ | ⟨e, rfl, rfl⟩ | ⟨e, rfl, rfl⟩ | ⟨e, rfl, rfl⟩ | ⟨e, rfl, rfl⟩ | ⟨e, rfl, rfl⟩ | ⟨e, rfl, rfl⟩
  · exact do_set H e
  · exact do_operate H T e
  · exact do_load H e
  · exact do_store H e
  · exact do_swap H e
  · exact do_fence H e
  · exact do_print H hl e
  · exact do_jump H e
  · exact do_zero H e
  · exact do_halt H e
end
section
variable {o : Oper} {a : Act} {w : World} {K : Act → World → Prop} {Q : Exit → Act → World → Prop}
theorem wp_st_row {T : TypeId} {n : Nat} (hT : RowT T n) {x y : Operand} (ho : o.op = .store T x y) {g : Nat} {cs old : Array Value} (hg : Own w g T old) (hx : a.eval x = .pointer (some ⟨g, 0, none⟩)) (hy : a.eval y = .agg cs) (hn : cs.size = n) (hm : old.size = n) (h1 : cs.all (·.oneCell') = true)
    (h : K (a.put o.dst undef) (w.setRow g cs)) : o.wp Tryd.prog a w K Q := by
  obtain ⟨d, _, _, h3⟩ := hT
  exact wp_store_row T x y ho g cs hx hy T old hg (by rw [h3, hn]) (by rw [hm, hn]) h1 h
set_option maxHeartbeats 1000000 in
end
theorem rowWk : RowT 109 2 := ⟨_, Tryd.underlying109, rfl, by kernel_rfl⟩
theorem rowIn : RowT 87 9 := ⟨_, Tryd.underlying87, rfl, by kernel_rfl⟩
theorem keepV_new {F G : List Nat} {w W W' : World} (h : KeepV F w W) (h2 : KeepV G W W') (hG : ∀ k ∈ G, k ∈ F ∨ w.heap.size ≤ k) : KeepV F w W' :=
  ⟨h2.os.trans h.os, h2.tape.trans h.tape, h2.output.trans h.output, Nat.le_trans h.size h2.size, fun k o hk hs => h2.block k o (h.block k o hk hs) (hs.imp_left fun hn q => by
    rcases hG k q with q | q
    · exact hn q
    · have := (Array.getElem?_eq_some_iff.1 hk).1; omega)⟩
theorem keepV_row {W : World} {b : Nat} {T : TypeId} {r : Array Value} (h : Own W b T r) (h1 : (T == 135) = false) (h2 : (T == 140) = false) (h3 : (T == 87) = false) (cs : Array Value) : KeepV [b] W (W.setRow b cs) :=
  ⟨rfl, rfl, rfl, by rw [size_setRow]; exact Nat.le_refl _, fun k o hk hs => (setRow_other _ (by
    intro e2
    subst e2
    rcases hs with hs | hs
    · exact hs (by simp)
    · exact not_imm h h1 h2 h3 o hk hs)).trans hk⟩
/-- Where Run stands. -/
structure RnS (w : World) (p Bi : Nat) (s : Vm) (F : List Nat) (cv pv : Value) (sd : Option Addr) (L : List (Co × Value × Value)) (PL : List Nat) (irow : Array Value) (W : World) : Prop where
  x : VmX W p s F cv pv sd L PL
  res : Own W w.heap.size 42 #[.int .u8 0, .int .i64 0, .int .i64 0, .int .i64 0, .int .i64 0, .int .i64 0, .bool false]
  ins : Own W Bi 87 irow
  lt : w.heap.size < Bi
  bl : Below w.heap.size w W
theorem RnS.below {w : World} {p Bi : Nat} {s : Vm} {F : List Nat} {cv pv : Value} {sd : Option Addr} {L : List (Co × Value × Value)} {PL : List Nat} {irow : Array Value} {W W' : World} (h : RnS w p Bi s F cv pv sd L PL irow W) (hb : Below W.heap.size W W') : RnS w p Bi s F cv pv sd L PL irow W' :=
  ⟨h.x.below hb, h.res.below hb, h.ins.below hb, h.lt, h.bl.trans (hb.mono h.bl.size)⟩
section
variable {w : World} {p : Nat} {s : Vm} {F : List Nat} {cv pv : Value} {sd : Option Addr} {L : List (Co × Value × Value)} {PL : List Nat}
set_option maxHeartbeats 16000000 in
theorem p_Run_go (h : VmX w p s F cv pv sd L PL) (R : VmR s) (T : Tabs w) (hsl : s.said.length ≤ 4611686018427387904) (kk : Nat) {c : Co} (hc : s.cores[kk]? = some c) (hh : c.hal = false) (hw : c.waits s.room = false) (hF : ∀ k ∈ F, 1 < k ∧ k < w.heap.size) : Calls Tryd.prog 17 #[.pointer (some ⟨p, 0, none⟩), .int .i64 (kk : Int)] w fun e w' => e = .returned (.tuple #[ddV (goI s kk c).2, .int .i64 0]) ∧ StepR w p (goI s kk c).1 F w' := by
  obtain ⟨bv, cvv, hL⟩ := h.core hc
  have hlt : kk < L.length := (List.getElem?_eq_some_iff.1 hL).1
  have al := (Below.refl w.heap.size w).alloc (Nat.le_refl _) (.cells #[.int .u8 0, .int .i64 0, .int .i64 0, .int .i64 0, .int .i64 0, .int .i64 0, .bool false] 42)
  have hX := h.below al
  have HR : Hid (Calls Tryd.prog 39 #[.pointer (some ⟨p, 0, none⟩), .int .i64 (kk : Int)] (w.alloc (.cells #[.int .u8 0, .int .i64 0, .int .i64 0, .int .i64 0, .int .i64 0, .int .i64 0, .bool false] 42)) fun e w' => e = .returned (.int .i64 0) ∧ w.alloc (.cells #[.int .u8 0, .int .i64 0, .int .i64 0, .int .i64 0, .int .i64 0, .int .i64 0, .bool false] 42) = w') := by
    have h1 := p_refusal hX (kk : Int)
    rwa [if_pos ⟨by omega, by omega⟩] at h1
  have O1 := Own.new w 42 #[.int .u8 0, .int .i64 0, .int .i64 0, .int .i64 0, .int .i64 0, .int .i64 0, .bool false]
  have HB := Lib.hid al
  have HT := Lib.hid T
  obtain ⟨W1, hW1⟩ : ∃ W, W = w.alloc (.cells #[.int .u8 0, .int .i64 0, .int .i64 0, .int .i64 0, .int .i64 0, .int .i64 0, .bool false] 42) := ⟨_, rfl⟩
  rw [← hW1] at O1 HB HR hX
  have HW1 := Lib.hid hW1
  obtain ⟨g, cap, e1, hco⟩ := hX.cop R hL
  have p0 : W1.cell? ⟨p, 0, none⟩ = some (.slice (some ⟨g, 0, none⟩) L.length cap) := by rw [← e1]; exact row_cellsO hX.own 0 _ rfl
  have c1 : W1.cell? ⟨g, kk * 20 + 1, none⟩ = some (.bool c.hal) := hco.hal
  have hltI : (kk : Int) < (L.length : Int) := by omega
  have hk0 : (0 : Int) ≤ (kk : Int) := by omega
  rw [hh] at c1
  have hcr := R.cores c (List.mem_of_getElem? hc)
  have HMW : Hid (Calls Tryd.prog 40 #[.pointer (some ⟨g, kk * 20, none⟩), .int .i64 s.room] W1 fun e w' => e = .returned (.bool false) ∧ Below W1.heap.size W1 w') := by
    obtain ⟨ab, cb, e2, _⟩ := ownsQ_slice (hX.buf _ (List.mem_of_getElem? hL))
    have h1 := p_mustWait hco hcr.pc hcr.len e2 s.room
    rwa [hw] at h1
  have p1 : W1.cell? ⟨p, 1, none⟩ = some (.int .i64 s.room) := row_cellsO hX.own 1 _ rfl
  have HNX : Hid (∀ V, Below W1.heap.size W1 V → Calls Tryd.prog 41 #[.pointer (some ⟨g, kk * 20, none⟩)] V fun e w' => e = .returned (insV c.next) ∧ Below V.heap.size V w') := fun V hV => by
    obtain ⟨g2, cap2, e2, hco2⟩ := (hX.below hV).cop R hL
    rw [e1] at e2
    injection e2 with e2
    injection e2 with e2
    injection e2 with e2
    subst e2
    exact p_next hco2 hcr.pc hcr.len
  obtain ⟨t, f, hidx, hdk⟩ := work_at c.next.k (right_told hcr.right.1).k
  have HDK := Lib.hid hdk
  have HE1 := Lib.hid e1
  have HL := Lib.hid hL
  have HRR := Lib.hid (And.intro R (And.intro hc (And.intro hw (And.intro hsl hF))))
  have HXX := Lib.hid (And.intro hX O1)
  obtain ⟨ins, hins⟩ : ∃ i, i = c.next := ⟨_, rfl⟩
  rw [← hins] at HNX HDK hidx
  have HIN := Lib.hid hins
  obtain ⟨k, oo, dd, a, bb, ad, tt, wd, fr⟩ := ins
  simp only [insV, insC] at HNX hidx
  clear h R hco hX hcr al hW1 hdk e1 hsl hF hins hh T O1
  go_enter Tryd.func17, Tryd.ntmps17
  go_upto_region 1 with fail
  rw [← HW1.out]
  clear HW1
  go_upto_region 9 with (first | (go_at_call 39; refine HR.out.mono ?_; rintro e w' ⟨rfl, rfl⟩) | (go_at_call 40; refine HMW.out.mono ?_; rintro e w2 ⟨rfl, hb2⟩))
  have HNC := Lib.hid (HNX.out _ hb2)
  have HS2 : Hid (VmX w2 p s F cv pv sd L PL ∧ Own w2 w.heap.size 42 #[.int .u8 0, .int .i64 0, .int .i64 0, .int .i64 0, .int .i64 0, .int .i64 0, .bool false] ∧ Below w.heap.size w w2) := ⟨HXX.out.1.below hb2, HXX.out.2.below hb2, HB.out.trans (hb2.mono HB.out.size)⟩
  clear hb2 HXX HB HNX p0 c1 p1 HMW HR
  go_upto_region 10 with (first | (go_at_call 41; refine HNC.out.mono ?_; rintro e w3 ⟨rfl, hb3⟩; have OI := Own.new w3 87 #[.int .u8 0, .int .u8 0, .int .i64 0, .int .i64 0, .int .i64 0, .int .i64 0, .int .i64 0, .int .i64 0, .int .i64 0]) | (refine st (T := 87) (n := 9) ⟨_, Tryd.underlying87, rfl, by kernel_rfl⟩ rfl rfl OI rfl rfl (by rfl) (by rfl) (by kernel_rfl) ?_))
  obtain ⟨Bi, hBi⟩ : ∃ x, x = w3.heap.size := ⟨_, rfl⟩
  rw [← hBi]
  have HS4 : Hid (RnS w p Bi s F cv pv sd L PL #[.int .u8 k, .int .u8 oo, .int .i64 dd, .int .i64 a, .int .i64 bb, .int .i64 ad, .int .i64 tt, .int .i64 wd, .int .i64 fr] ((w3.alloc (.cells #[.int .u8 0, .int .u8 0, .int .i64 0, .int .i64 0, .int .i64 0, .int .i64 0, .int .i64 0, .int .i64 0, .int .i64 0] 87)).setRow Bi #[.int .u8 k, .int .u8 oo, .int .i64 dd, .int .i64 a, .int .i64 bb, .int .i64 ad, .int .i64 tt, .int .i64 wd, .int .i64 fr])) := by
    have h1 := HS2.out.1.below hb3
    have h2 := HS2.out.2.1.below hb3
    have h3 := HS2.out.2.2.trans (hb3.mono HS2.out.2.2.size)
    have al := Below.of_row ((Below.refl w3.heap.size w3).alloc (Nat.le_refl _) (.cells #[.int .u8 0, .int .u8 0, .int .i64 0, .int .i64 0, .int .i64 0, .int .i64 0, .int .i64 0, .int .i64 0, .int .i64 0] 87)) (Nat.le_refl _) #[.int .u8 k, .int .u8 oo, .int .i64 dd, .int .i64 a, .int .i64 bb, .int .i64 ad, .int .i64 tt, .int .i64 wd, .int .i64 fr]
    rw [hBi]
    exact ⟨h1.below al, h2.below al, OI.row _, h2.lt, h3.trans (al.mono h3.size)⟩
  clear OI hb3 HS2 HNC hBi
  generalize (w3.alloc (.cells #[.int .u8 0, .int .u8 0, .int .i64 0, .int .i64 0, .int .i64 0, .int .i64 0, .int .i64 0, .int .i64 0, .int .i64 0] 87)).setRow Bi #[.int .u8 k, .int .u8 oo, .int .i64 dd, .int .i64 a, .int .i64 bb, .int .i64 ad, .int .i64 tt, .int .i64 wd, .int .i64 fr] = W4 at HS4 ⊢
  change Code.wp _ _ _ { tmps := List.toArray (_ :: _ :: _ :: _ :: _ :: _ :: _ :: _ :: _ :: _ :: _ :: _ :: _ :: _ :: _ :: _ :: _ :: _ :: _ :: _ :: _ :: _ :: _ :: _ :: _ :: _ :: _ :: _ :: _ :: _ :: _ :: _ :: _ :: _ :: _ :: _ :: _ :: _ :: _ :: _ :: _ :: _ :: _ :: _ :: _ :: _ :: _ :: _ :: _ :: _ :: _ :: _ :: _ :: _ :: _ :: _ :: _ :: _ :: _ :: _ :: _ :: _ :: _ :: _ :: _ :: _ :: _ :: _ :: _ :: _ :: []), defers := [] } _
  go_cut [9] (fun u wx => ∃ Bw, u = .pointer (some ⟨Bw, 0, none⟩) ∧ w.heap.size < Bw ∧ RnS w p Bi s F cv pv sd L PL #[.int .u8 k, .int .u8 oo, .int .i64 dd, .int .i64 a, .int .i64 bb, .int .i64 ad, .int .i64 tt, .int .i64 wd, .int .i64 fr] wx ∧ Own wx Bw 109 #[.int .u8 t, .func (.func f) #[] #[]])
  case first =>
    have dw : Below W4.heap.size W4 W4.drew := below_drewN (Below.refl _ W4) 1
    have HS5 := Lib.hid (HS4.out.below dw)
    clear dw HS4
    refine wp_region_held (S := fun V => V.cell? ⟨Bi, 0, none⟩ = some (.int .u8 k)) (by kernel_rfl) ?_
    change wpAnyH _ _ _ _ _ _ _ _ W4.drew
    generalize W4.drew = W5 at HS5 ⊢
    have HSX : Hid (_ = _) := row_cellsO HS5.out.ins 0 _ rfl
    change wpAnyH _ _ _ _ _ _ _ { tmps := List.toArray (_ :: _ :: _ :: _ :: _ :: _ :: _ :: _ :: _ :: _ :: _ :: _ :: _ :: _ :: _ :: _ :: _ :: _ :: _ :: _ :: _ :: _ :: _ :: _ :: _ :: _ :: _ :: _ :: _ :: _ :: _ :: _ :: _ :: _ :: _ :: _ :: _ :: _ :: _ :: _ :: _ :: _ :: _ :: _ :: _ :: _ :: _ :: _ :: _ :: _ :: _ :: _ :: _ :: _ :: _ :: _ :: _ :: _ :: _ :: _ :: _ :: _ :: _ :: _ :: _ :: _ :: _ :: _ :: _ :: _ :: []), defers := [] } _
    refine dr_take 1 (.pointer (some ⟨Bi, 0, none⟩)) rfl rfl (by kernel_rfl) (by kernel_rfl) (by kernel_rfl) (fun _ _ _ h => h) (fun _ _ => by unfold execOp; go_simp) HSX.out ?_
    change wpAnyH _ _ _ _ _ _ _ { tmps := List.toArray (_ :: _ :: _ :: _ :: _ :: _ :: _ :: _ :: _ :: _ :: _ :: _ :: _ :: _ :: _ :: _ :: _ :: _ :: _ :: _ :: _ :: _ :: _ :: _ :: _ :: _ :: _ :: _ :: _ :: _ :: _ :: _ :: _ :: _ :: _ :: _ :: _ :: _ :: _ :: _ :: _ :: _ :: _ :: _ :: _ :: _ :: _ :: _ :: _ :: _ :: _ :: _ :: _ :: _ :: _ :: _ :: _ :: _ :: _ :: _ :: _ :: _ :: _ :: _ :: _ :: _ :: _ :: _ :: _ :: _ :: []), defers := [] } _
    refine dr_take 2 (.int .u8 k) rfl rfl (by kernel_rfl) (by kernel_rfl) (by kernel_rfl) (fun _ _ _ h => h) (fun V h => by have h0 := h; clear h; unfold execOp; go_simp) HSX.out ?_
    change wpAnyH _ _ _ _ _ _ _ { tmps := List.toArray (_ :: _ :: _ :: _ :: _ :: _ :: _ :: _ :: _ :: _ :: _ :: _ :: _ :: _ :: _ :: _ :: _ :: _ :: _ :: _ :: _ :: _ :: _ :: _ :: _ :: _ :: _ :: _ :: _ :: _ :: _ :: _ :: _ :: _ :: _ :: _ :: _ :: _ :: _ :: _ :: _ :: _ :: _ :: _ :: _ :: _ :: _ :: _ :: _ :: _ :: _ :: _ :: _ :: _ :: _ :: _ :: _ :: _ :: _ :: _ :: _ :: _ :: _ :: _ :: _ :: _ :: _ :: _ :: _ :: _ :: []), defers := [] } _
    refine dr_two 0 4 rfl rfl rfl rfl (by kernel_rfl) ?_ ?_
    · refine wp_callT (vs := #[]) rfl rfl (enters_of Tryd.func42 (by kernel_rfl) rfl) (by simp) (works_any _) ?_
      rintro e w6 ⟨rfl, hb6⟩
      have HS6 := Lib.hid (HS5.out.below hb6)
      have HSY : Hid (_ = _) := row_cellsO HS6.out.ins 0 _ rfl
      clear hb6
      refine ⟨HSY.out, ?_⟩
      change wpAnyH _ _ _ _ _ _ _ { tmps := List.toArray (_ :: _ :: _ :: _ :: _ :: _ :: _ :: _ :: _ :: _ :: _ :: _ :: _ :: _ :: _ :: _ :: _ :: _ :: _ :: _ :: _ :: _ :: _ :: _ :: _ :: _ :: _ :: _ :: _ :: _ :: _ :: _ :: _ :: _ :: _ :: _ :: _ :: _ :: _ :: _ :: _ :: _ :: _ :: _ :: _ :: _ :: _ :: _ :: _ :: _ :: _ :: _ :: _ :: _ :: _ :: _ :: _ :: _ :: _ :: _ :: _ :: _ :: _ :: _ :: _ :: _ :: _ :: _ :: _ :: _ :: []), defers := [] } _
      refine dr_take 3 (.agg #[.int .u8 t, .func (.func f) #[] #[]]) rfl rfl (by kernel_rfl) (by kernel_rfl) (by kernel_rfl) (fun _ _ _ h => h) (fun V _ => by unfold execOp; go_simp) HSY.out ?_
      change wpAnyH _ _ _ _ _ _ _ { tmps := List.toArray (_ :: _ :: _ :: _ :: _ :: _ :: _ :: _ :: _ :: _ :: _ :: _ :: _ :: _ :: _ :: _ :: _ :: _ :: _ :: _ :: _ :: _ :: _ :: _ :: _ :: _ :: _ :: _ :: _ :: _ :: _ :: _ :: _ :: _ :: _ :: _ :: _ :: _ :: _ :: _ :: _ :: _ :: _ :: _ :: _ :: _ :: _ :: _ :: _ :: _ :: _ :: _ :: _ :: _ :: _ :: _ :: _ :: _ :: _ :: _ :: _ :: _ :: _ :: _ :: _ :: _ :: _ :: _ :: _ :: _ :: []), defers := [] } _
      refine dr_one 4 rfl rfl (by kernel_rfl) ?_
      refine wv_val (w' := w6.alloc (.cells #[.int .u8 0, .nilFunc] 109)) (v := .pointer (some ⟨w6.heap.size, 0, none⟩)) (by unfold execOp; go_simp) ⟨row_cellsO (HS6.out.ins.alloc _) 0 _ rfl, ?_⟩
      change wpAnyH _ _ _ _ _ _ _ { tmps := List.toArray (_ :: _ :: _ :: _ :: _ :: _ :: _ :: _ :: _ :: _ :: _ :: _ :: _ :: _ :: _ :: _ :: _ :: _ :: _ :: _ :: _ :: _ :: _ :: _ :: _ :: _ :: _ :: _ :: _ :: _ :: _ :: _ :: _ :: _ :: _ :: _ :: _ :: _ :: _ :: _ :: _ :: _ :: _ :: _ :: _ :: _ :: _ :: _ :: _ :: _ :: _ :: _ :: _ :: _ :: _ :: _ :: _ :: _ :: _ :: _ :: _ :: _ :: _ :: _ :: _ :: _ :: _ :: _ :: _ :: _ :: []), defers := [] } _
      refine dr_one 5 rfl rfl (by kernel_rfl) ?_
      have al := Below.of_row ((Below.refl w6.heap.size w6).alloc (Nat.le_refl _) (.cells #[.int .u8 0, .nilFunc] 109)) (Nat.le_refl _) #[.int .u8 t, .func (.func f) #[] #[]]
      have HS7 := Lib.hid (HS6.out.below al)
      refine wp_st_row rowWk rfl (Own.new w6 _ _) rfl rfl rfl rfl (by kernel_rfl) ⟨row_cellsO HS7.out.ins 0 _ rfl, ?_⟩
      refine wpAnyH_done (by kernel_rfl) ?_ _
      try go_wp2_with fail
      go_meet
      exact ⟨_, rfl, Nat.lt_of_lt_of_le HS6.out.res.lt (Nat.le_refl _), HS7.out, (Own.new w6 _ _).row _⟩
    · have al := (Below.refl W5.heap.size W5).alloc (Nat.le_refl _) (.cells #[.int .u8 0, .nilFunc] 109)
      have HS6 := Lib.hid (HS5.out.below al)
      have HOW := Lib.hid (Own.new W5 109 #[.int .u8 0, .nilFunc])
      have HLB : Hid (w.heap.size < W5.heap.size) := HS5.out.res.lt
      refine wv_val (w' := (W5.alloc (.cells #[.int .u8 0, .nilFunc] 109))) (v := .pointer (some ⟨W5.heap.size, 0, none⟩)) (by unfold execOp; go_simp) ⟨row_cellsO HS6.out.ins 0 _ rfl, ?_⟩
      clear al HSX HS5
      generalize (W5.alloc (.cells #[.int .u8 0, .nilFunc] 109)) = W6 at HS6 HOW ⊢
      generalize W5.heap.size = Bw at HOW HLB ⊢
      change wpAnyH _ _ _ _ _ _ _ { tmps := List.toArray (_ :: _ :: _ :: _ :: _ :: _ :: _ :: _ :: _ :: _ :: _ :: _ :: _ :: _ :: _ :: _ :: _ :: _ :: _ :: _ :: _ :: _ :: _ :: _ :: _ :: _ :: _ :: _ :: _ :: _ :: _ :: _ :: _ :: _ :: _ :: _ :: _ :: _ :: _ :: _ :: _ :: _ :: _ :: _ :: _ :: _ :: _ :: _ :: _ :: _ :: _ :: _ :: _ :: _ :: _ :: _ :: _ :: _ :: _ :: _ :: _ :: _ :: _ :: _ :: _ :: _ :: _ :: _ :: _ :: _ :: []), defers := [] } _
      refine dr_one 0 rfl rfl (by kernel_rfl) ?_
      refine wp_callT (vs := #[]) rfl rfl (enters_of Tryd.func42 (by kernel_rfl) rfl) (by simp) (works_any _) ?_
      rintro e w7 ⟨rfl, hb7⟩
      have HS7 := Lib.hid (HS6.out.below hb7)
      have HO7 := Lib.hid (HOW.out.below hb7)
      have HSY : Hid (_ = _) := row_cellsO HS7.out.ins 0 _ rfl
      have HNB : Hid (Bw ≠ Bi) := own_unlike HO7.out HS7.out.ins (by decide)
      clear hb7
      refine ⟨HSY.out, ?_⟩
      change wpAnyH _ _ _ _ _ _ _ { tmps := List.toArray (_ :: _ :: _ :: _ :: _ :: _ :: _ :: _ :: _ :: _ :: _ :: _ :: _ :: _ :: _ :: _ :: _ :: _ :: _ :: _ :: _ :: _ :: _ :: _ :: _ :: _ :: _ :: _ :: _ :: _ :: _ :: _ :: _ :: _ :: _ :: _ :: _ :: _ :: _ :: _ :: _ :: _ :: _ :: _ :: _ :: _ :: _ :: _ :: _ :: _ :: _ :: _ :: _ :: _ :: _ :: _ :: _ :: _ :: _ :: _ :: _ :: _ :: _ :: _ :: _ :: _ :: _ :: _ :: _ :: _ :: []), defers := [] } _
      refine dr_take 3 (.agg #[.int .u8 t, .func (.func f) #[] #[]]) rfl rfl (by kernel_rfl) (by kernel_rfl) (by kernel_rfl) (fun _ _ _ h => h) (fun V _ => by unfold execOp; go_simp) HSY.out ?_
      change wpAnyH _ _ _ _ _ _ _ { tmps := List.toArray (_ :: _ :: _ :: _ :: _ :: _ :: _ :: _ :: _ :: _ :: _ :: _ :: _ :: _ :: _ :: _ :: _ :: _ :: _ :: _ :: _ :: _ :: _ :: _ :: _ :: _ :: _ :: _ :: _ :: _ :: _ :: _ :: _ :: _ :: _ :: _ :: _ :: _ :: _ :: _ :: _ :: _ :: _ :: _ :: _ :: _ :: _ :: _ :: _ :: _ :: _ :: _ :: _ :: _ :: _ :: _ :: _ :: _ :: _ :: _ :: _ :: _ :: _ :: _ :: _ :: _ :: _ :: _ :: _ :: _ :: []), defers := [] } _
      refine dr_one 5 rfl rfl (by kernel_rfl) ?_
      have oth : ∀ {k : Nat} {T : TypeId} {r : Array Value}, Own w7 k T r → k ≠ Bw → Own (w7.setRow Bw #[.int .u8 t, .func (.func f) #[] #[]]) k T r := fun h1 hk => h1.other _ hk
      have kv : KeepV [Bw] w7 (w7.setRow Bw #[.int .u8 t, .func (.func f) #[] #[]]) := ⟨rfl, rfl, rfl, by rw [size_setRow]; exact Nat.le_refl _, fun k o hk hs => (setRow_other _ (by
        intro e2
        subst e2
        rcases hs with hs | hs
        · exact hs (by simp)
        · exact not_imm HO7.out (by decide) (by decide) (by decide) o hk hs)).trans hk⟩
      have HS8 : Hid (RnS w p Bi s F cv pv sd L PL #[.int .u8 k, .int .u8 oo, .int .i64 dd, .int .i64 a, .int .i64 bb, .int .i64 ad, .int .i64 tt, .int .i64 wd, .int .i64 fr] (w7.setRow Bw #[.int .u8 t, .func (.func f) #[] #[]])) := ⟨HS7.out.x.keep kv (fun k hk q => by rw [List.mem_singleton] at q; have := (HRR.out.2.2.2.2 k hk).2; have := HLB.out; omega), oth HS7.out.res (by have := HLB.out; omega), oth HS7.out.ins (Ne.symm HNB.out), HS7.out.lt, Below.of_row HS7.out.bl (by have := HLB.out; omega) _⟩
      refine wp_st_row rowWk rfl HO7.out rfl rfl rfl rfl (by kernel_rfl) ⟨row_cellsO HS8.out.ins 0 _ rfl, ?_⟩
      refine wpAnyH_done (by kernel_rfl) ?_ _
      try go_wp2_with fail
      go_meet
      exact ⟨_, rfl, HLB.out, HS8.out, HO7.out.row _⟩
  case rest =>
    obtain ⟨Bw, rfl, hwb, hs, ho⟩ := hcut
    have HS5 := Lib.hid hs
    have HO5 := Lib.hid ho
    have HWB := Lib.hid hwb
    clear hs ho hwb HS4 hidx
    go_upto_region 11 with fail
    have dw : Below wc.heap.size wc wc.drew := below_drewN (Below.refl _ wc) 1
    have HS6 := Lib.hid (HS5.out.below dw)
    have HO6 := Lib.hid (HO5.out.below dw)
    clear dw HS5 HO5
    refine wp_region_held (S := fun V => V.cell? ⟨Bw, 0, none⟩ = some (.int .u8 t) ∧ V.cell? ⟨g, kk * 20, none⟩ = some (.int .i64 c.pc)) (by kernel_rfl) ?_
    change wpAnyH _ _ _ _ _ _ _ _ wc.drew
    generalize wc.drew = W6 at HS6 HO6 ⊢
    have HCP : Hid (∀ V, VmX V p s F cv pv sd L PL → V.cell? ⟨g, kk * 20, none⟩ = some (.int .i64 c.pc)) := fun V hV => by
      obtain ⟨g2, cap2, e2, hco2⟩ := hV.cop HRR.out.1 HL.out
      rw [HE1.out] at e2
      injection e2 with e2
      injection e2 with e2
      injection e2 with e2
      subst e2
      exact hco2.pc
    have HSX : Hid (W6.cell? ⟨Bw, 0, none⟩ = some (.int .u8 t) ∧ W6.cell? ⟨g, kk * 20, none⟩ = some (.int .i64 c.pc)) := ⟨row_cellsO HO6.out 0 _ rfl, HCP.out _ HS6.out.x⟩
    change wpAnyH _ _ _ _ _ _ _ { tmps := List.toArray (_ :: _ :: _ :: _ :: _ :: _ :: _ :: _ :: _ :: _ :: _ :: _ :: _ :: _ :: _ :: _ :: _ :: _ :: _ :: _ :: _ :: _ :: _ :: _ :: _ :: _ :: _ :: _ :: _ :: _ :: _ :: _ :: _ :: _ :: _ :: _ :: _ :: _ :: _ :: _ :: _ :: _ :: _ :: _ :: _ :: _ :: _ :: _ :: _ :: _ :: _ :: _ :: _ :: _ :: _ :: _ :: _ :: _ :: _ :: _ :: _ :: _ :: _ :: _ :: _ :: _ :: _ :: _ :: _ :: _ :: []), defers := [] } _
    refine dr_take 0 (.pointer (some ⟨Bw, 0, none⟩)) rfl rfl (by kernel_rfl) (by kernel_rfl) (by kernel_rfl) (fun _ _ _ h => h) (fun _ _ => by unfold execOp; go_simp) HSX.out ?_
    change wpAnyH _ _ _ _ _ _ _ { tmps := List.toArray (_ :: _ :: _ :: _ :: _ :: _ :: _ :: _ :: _ :: _ :: _ :: _ :: _ :: _ :: _ :: _ :: _ :: _ :: _ :: _ :: _ :: _ :: _ :: _ :: _ :: _ :: _ :: _ :: _ :: _ :: _ :: _ :: _ :: _ :: _ :: _ :: _ :: _ :: _ :: _ :: _ :: _ :: _ :: _ :: _ :: _ :: _ :: _ :: _ :: _ :: _ :: _ :: _ :: _ :: _ :: _ :: _ :: _ :: _ :: _ :: _ :: _ :: _ :: _ :: _ :: _ :: _ :: _ :: _ :: _ :: []), defers := [] } _
    refine dr_take 1 (.int .u8 t) rfl rfl (by kernel_rfl) (by kernel_rfl) (by kernel_rfl) (fun _ _ _ h => h) (fun V h => by have h0 := h.1; clear h; unfold execOp; go_simp) HSX.out ?_
    change wpAnyH _ _ _ _ _ _ _ { tmps := List.toArray (_ :: _ :: _ :: _ :: _ :: _ :: _ :: _ :: _ :: _ :: _ :: _ :: _ :: _ :: _ :: _ :: _ :: _ :: _ :: _ :: _ :: _ :: _ :: _ :: _ :: _ :: _ :: _ :: _ :: _ :: _ :: _ :: _ :: _ :: _ :: _ :: _ :: _ :: _ :: _ :: _ :: _ :: _ :: _ :: _ :: _ :: _ :: _ :: _ :: _ :: _ :: _ :: _ :: _ :: _ :: _ :: _ :: _ :: _ :: _ :: _ :: _ :: _ :: _ :: _ :: _ :: _ :: _ :: _ :: _ :: []), defers := [] } _
    refine dr_take 2 (.int .i64 (kk : Int)) rfl rfl (by kernel_rfl) (by kernel_rfl) (by kernel_rfl) (fun _ _ _ h => h) (fun _ _ => by unfold execOp; go_simp) HSX.out ?_
    change wpAnyH _ _ _ _ _ _ _ { tmps := List.toArray (_ :: _ :: _ :: _ :: _ :: _ :: _ :: _ :: _ :: _ :: _ :: _ :: _ :: _ :: _ :: _ :: _ :: _ :: _ :: _ :: _ :: _ :: _ :: _ :: _ :: _ :: _ :: _ :: _ :: _ :: _ :: _ :: _ :: _ :: _ :: _ :: _ :: _ :: _ :: _ :: _ :: _ :: _ :: _ :: _ :: _ :: _ :: _ :: _ :: _ :: _ :: _ :: _ :: _ :: _ :: _ :: _ :: _ :: _ :: _ :: _ :: _ :: _ :: _ :: _ :: _ :: _ :: _ :: _ :: _ :: []), defers := [] } _
    refine dr_take 3 (.pointer (some ⟨g, kk * 20, none⟩)) rfl rfl (by kernel_rfl) (by kernel_rfl) (by kernel_rfl) (fun _ _ _ h => h) (fun _ _ => by unfold execOp; go_simp) HSX.out ?_
    change wpAnyH _ _ _ _ _ _ _ { tmps := List.toArray (_ :: _ :: _ :: _ :: _ :: _ :: _ :: _ :: _ :: _ :: _ :: _ :: _ :: _ :: _ :: _ :: _ :: _ :: _ :: _ :: _ :: _ :: _ :: _ :: _ :: _ :: _ :: _ :: _ :: _ :: _ :: _ :: _ :: _ :: _ :: _ :: _ :: _ :: _ :: _ :: _ :: _ :: _ :: _ :: _ :: _ :: _ :: _ :: _ :: _ :: _ :: _ :: _ :: _ :: _ :: _ :: _ :: _ :: _ :: _ :: _ :: _ :: _ :: _ :: _ :: _ :: _ :: _ :: _ :: _ :: []), defers := [] } _
    refine dr_take 4 (.pointer (some ⟨g, kk * 20, none⟩)) rfl rfl (by kernel_rfl) (by kernel_rfl) (by kernel_rfl) (fun _ _ _ h => h) (fun _ _ => by unfold execOp; go_simp) HSX.out ?_
    change wpAnyH _ _ _ _ _ _ _ { tmps := List.toArray (_ :: _ :: _ :: _ :: _ :: _ :: _ :: _ :: _ :: _ :: _ :: _ :: _ :: _ :: _ :: _ :: _ :: _ :: _ :: _ :: _ :: _ :: _ :: _ :: _ :: _ :: _ :: _ :: _ :: _ :: _ :: _ :: _ :: _ :: _ :: _ :: _ :: _ :: _ :: _ :: _ :: _ :: _ :: _ :: _ :: _ :: _ :: _ :: _ :: _ :: _ :: _ :: _ :: _ :: _ :: _ :: _ :: _ :: _ :: _ :: _ :: _ :: _ :: _ :: _ :: _ :: _ :: _ :: _ :: _ :: []), defers := [] } _
    refine dr_take 5 (.pointer (some ⟨g, kk * 20, none⟩)) rfl rfl (by kernel_rfl) (by kernel_rfl) (by kernel_rfl) (fun _ _ _ h => h) (fun _ _ => by unfold execOp; go_simp) HSX.out ?_
    change wpAnyH _ _ _ _ _ _ _ { tmps := List.toArray (_ :: _ :: _ :: _ :: _ :: _ :: _ :: _ :: _ :: _ :: _ :: _ :: _ :: _ :: _ :: _ :: _ :: _ :: _ :: _ :: _ :: _ :: _ :: _ :: _ :: _ :: _ :: _ :: _ :: _ :: _ :: _ :: _ :: _ :: _ :: _ :: _ :: _ :: _ :: _ :: _ :: _ :: _ :: _ :: _ :: _ :: _ :: _ :: _ :: _ :: _ :: _ :: _ :: _ :: _ :: _ :: _ :: _ :: _ :: _ :: _ :: _ :: _ :: _ :: _ :: _ :: _ :: _ :: _ :: _ :: []), defers := [] } _
    refine dr_take 6 (.pointer (some ⟨g, kk * 20, none⟩)) rfl rfl (by kernel_rfl) (by kernel_rfl) (by kernel_rfl) (fun _ _ _ h => h) (fun _ _ => by unfold execOp; go_simp) HSX.out ?_
    change wpAnyH _ _ _ _ _ _ _ { tmps := List.toArray (_ :: _ :: _ :: _ :: _ :: _ :: _ :: _ :: _ :: _ :: _ :: _ :: _ :: _ :: _ :: _ :: _ :: _ :: _ :: _ :: _ :: _ :: _ :: _ :: _ :: _ :: _ :: _ :: _ :: _ :: _ :: _ :: _ :: _ :: _ :: _ :: _ :: _ :: _ :: _ :: _ :: _ :: _ :: _ :: _ :: _ :: _ :: _ :: _ :: _ :: _ :: _ :: _ :: _ :: _ :: _ :: _ :: _ :: _ :: _ :: _ :: _ :: _ :: _ :: _ :: _ :: _ :: _ :: _ :: _ :: []), defers := [] } _
    refine dr_take 7 (.int .i64 c.pc) rfl rfl (by kernel_rfl) (by kernel_rfl) (by kernel_rfl) (fun _ _ _ h => h) (fun V h => by have h0 := h.2; clear h; unfold execOp; go_simp) HSX.out ?_
    change wpAnyH _ _ _ _ _ _ _ { tmps := List.toArray (_ :: _ :: _ :: _ :: _ :: _ :: _ :: _ :: _ :: _ :: _ :: _ :: _ :: _ :: _ :: _ :: _ :: _ :: _ :: _ :: _ :: _ :: _ :: _ :: _ :: _ :: _ :: _ :: _ :: _ :: _ :: _ :: _ :: _ :: _ :: _ :: _ :: _ :: _ :: _ :: _ :: _ :: _ :: _ :: _ :: _ :: _ :: _ :: _ :: _ :: _ :: _ :: _ :: _ :: _ :: _ :: _ :: _ :: _ :: _ :: _ :: _ :: _ :: _ :: _ :: _ :: _ :: _ :: _ :: _ :: []), defers := [] } _
    refine dr_take 8 (.agg #[.int .u8 t, .int .i64 (kk : Int), .int .i64 c.pc, .int .i64 0, .int .i64 0, .int .i64 0, .bool false]) rfl rfl (by kernel_rfl) (by kernel_rfl) (by kernel_rfl) (fun _ _ _ h => h) (fun _ _ => by unfold execOp; go_simp) HSX.out ?_
    change wpAnyH _ _ _ _ _ _ _ { tmps := List.toArray (_ :: _ :: _ :: _ :: _ :: _ :: _ :: _ :: _ :: _ :: _ :: _ :: _ :: _ :: _ :: _ :: _ :: _ :: _ :: _ :: _ :: _ :: _ :: _ :: _ :: _ :: _ :: _ :: _ :: _ :: _ :: _ :: _ :: _ :: _ :: _ :: _ :: _ :: _ :: _ :: _ :: _ :: _ :: _ :: _ :: _ :: _ :: _ :: _ :: _ :: _ :: _ :: _ :: _ :: _ :: _ :: _ :: _ :: _ :: _ :: _ :: _ :: _ :: _ :: _ :: _ :: _ :: _ :: _ :: _ :: []), defers := [] } _
    refine dr_one 9 rfl rfl (by kernel_rfl) ?_
    have al0 := (Below.refl W6.heap.size W6).alloc (Nat.le_refl _) (.cells #[.int .u8 0, .int .i64 0, .int .i64 0, .int .i64 0, .int .i64 0, .int .i64 0, .bool false] 42)
    refine wv_val (w' := W6.alloc (.cells #[.int .u8 0, .int .i64 0, .int .i64 0, .int .i64 0, .int .i64 0, .int .i64 0, .bool false] 42)) (v := .pointer (some ⟨W6.heap.size, 0, none⟩)) (by unfold execOp; go_simp) ⟨⟨row_cellsO (HO6.out.below al0) 0 _ rfl, HCP.out _ (HS6.out.below al0).x⟩, ?_⟩
    change wpAnyH _ _ _ _ _ _ _ { tmps := List.toArray (_ :: _ :: _ :: _ :: _ :: _ :: _ :: _ :: _ :: _ :: _ :: _ :: _ :: _ :: _ :: _ :: _ :: _ :: _ :: _ :: _ :: _ :: _ :: _ :: _ :: _ :: _ :: _ :: _ :: _ :: _ :: _ :: _ :: _ :: _ :: _ :: _ :: _ :: _ :: _ :: _ :: _ :: _ :: _ :: _ :: _ :: _ :: _ :: _ :: _ :: _ :: _ :: _ :: _ :: _ :: _ :: _ :: _ :: _ :: _ :: _ :: _ :: _ :: _ :: _ :: _ :: _ :: _ :: _ :: _ :: []), defers := [] } _
    refine dr_one 10 rfl rfl (by kernel_rfl) ?_
    have al := Below.of_row al0 (Nat.le_refl _) #[.int .u8 t, .int .i64 (kk : Int), .int .i64 c.pc, .int .i64 0, .int .i64 0, .int .i64 0, .bool false]
    have HS7 := Lib.hid (HS6.out.below al)
    have HO7 := Lib.hid (HO6.out.below al)
    have HD7 := Lib.hid ((Own.new W6 42 #[.int .u8 0, .int .i64 0, .int .i64 0, .int .i64 0, .int .i64 0, .int .i64 0, .bool false]).row #[.int .u8 t, .int .i64 (kk : Int), .int .i64 c.pc, .int .i64 0, .int .i64 0, .int .i64 0, .bool false])
    refine wp_st_row rowD rfl (Own.new W6 _ _) rfl rfl rfl rfl (by kernel_rfl) ⟨⟨row_cellsO HO7.out 0 _ rfl, HCP.out _ HS7.out.x⟩, ?_⟩
    refine wpAnyH_done (by kernel_rfl) ?_ _
    have HLD : Hid (w.heap.size < W6.heap.size) := HS6.out.res.lt
    clear HSX al0 al HS6 HO6
    generalize (W6.alloc (.cells #[.int .u8 0, .int .i64 0, .int .i64 0, .int .i64 0, .int .i64 0, .int .i64 0, .bool false] 42)).setRow W6.heap.size #[.int .u8 t, .int .i64 (kk : Int), .int .i64 c.pc, .int .i64 0, .int .i64 0, .int .i64 0, .bool false] = W7 at HS7 HO7 HD7 ⊢
    generalize W6.heap.size = Bd at HD7 HLD ⊢
    have c0 : W7.cell? ⟨g, kk * 20, none⟩ = some (.int .i64 c.pc) := HCP.out _ HS7.out.x
    have f0 : W7.frozen? ⟨g, kk * 20, none⟩ = false := by
      obtain ⟨cur, hcur⟩ := row_cur HS7.out.x.cors HE1.out
      exact own_frozen hcur _
    have hw1 : wrap64 (c.pc + 1) = c.pc + 1 := by
      have hcr := HRR.out.1.cores c (List.mem_of_getElem? HRR.out.2.1)
      have h1 := hcr.pc
      have h2 := hcr.len
      unfold wrap64; omega
    go_upto_region 13 with fail
    have HDH : Hid (DoH (W7.setCell ⟨g, kk * 20, none⟩ (.int .i64 (c.pc + 1))) p Bd kk g s c F t cv pv sd (L.set kk ({ c with pc := c.pc + 1 }, bv, cvv)) PL bv cvv cap) := by
      obtain ⟨R, hc, hw, hsl, hF⟩ := HRR.out
      have h1 := HS7.out.x.setCo' (HS7.out.x.rg R) HL.out HE1.out (j := 0) (u := .int .i64 (c.pc + 1)) (c' := { c with pc := c.pc + 1 }) (by omega) rfl rfl rfl
      obtain ⟨cur, hcur⟩ := row_cur HS7.out.x.cors HE1.out
      refine ⟨h1, fun x hx => ?_, List.getElem?_set_self (List.getElem?_eq_some_iff.1 HL.out).1, by rw [List.length_set]; exact HE1.out, own_setother (own_unlike HD7.out hcur (by decide)) HD7.out _ _, fun q => ?_, R, hc, hw⟩
      · rcases set_mem hx with rfl | hx
        · exact (R.cores c (List.mem_of_getElem? hc)).regs
        · exact HS7.out.x.rg R x hx
      · have := (hF _ q).2
        have := HLD.out
        omega
    have HRX : Hid (Own (W7.setCell ⟨g, kk * 20, none⟩ (.int .i64 (c.pc + 1))) w.heap.size 42 #[.int .u8 0, .int .i64 0, .int .i64 0, .int .i64 0, .int .i64 0, .int .i64 0, .bool false] ∧ Own (W7.setCell ⟨g, kk * 20, none⟩ (.int .i64 (c.pc + 1))) Bi 87 #[.int .u8 k, .int .u8 oo, .int .i64 dd, .int .i64 a, .int .i64 bb, .int .i64 ad, .int .i64 tt, .int .i64 wd, .int .i64 fr] ∧ Own (W7.setCell ⟨g, kk * 20, none⟩ (.int .i64 (c.pc + 1))) Bw 109 #[.int .u8 t, .func (.func f) #[] #[]]) := by
      obtain ⟨cur, hcur⟩ := row_cur HS7.out.x.cors HE1.out
      exact ⟨own_setother (own_unlike HS7.out.res hcur (by decide)) HS7.out.res _ _, own_setother (own_unlike HS7.out.ins hcur (by decide)) HS7.out.ins _ _, own_setother (own_unlike HO7.out hcur (by decide)) HO7.out _ _⟩
    have HKV : Hid (KeepV F w (W7.setCell ⟨g, kk * 20, none⟩ (.int .i64 (c.pc + 1)))) := by
      obtain ⟨cur, hcur⟩ := row_cur HS7.out.x.cors HE1.out
      exact (keepV_below HS7.out.bl).trans (keepV_set (HS7.out.x.cF g (by rw [HE1.out]; rfl)) (Below.refl _ _) (not_imm hcur (by decide) (by decide) (by decide)))
    have HTT : Hid (Tabs (W7.setCell ⟨g, kk * 20, none⟩ (.int .i64 (c.pc + 1)))) := by
      have hg := (HRR.out.2.2.2.2 g (HS7.out.x.cF g (by rw [HE1.out]; rfl))).1
      have h1 := HS7.out.bl.size
      have h2 := HT.out.size1
      exact ⟨by simp only [World.setCell, Array.size_modify]; omega, fun i hi => (World.cell?_setCell_far _ _ _ _ (by show g ≠ 1; exact Nat.ne_of_gt hg)).trans ((HS7.out.bl.cell (p := ⟨1, i, none⟩) h2).trans (HT.out.lev i hi))⟩
    clear c0 f0 HD7 HO7 HCP HS7 hw1
    generalize W7.setCell ⟨g, kk * 20, none⟩ (.int .i64 (c.pc + 1)) = W8 at HDH HRX HKV HTT ⊢
    have k1 : W8.cell? ⟨Bw, 1, none⟩ = some (.func (.func f) #[] #[]) := row_cellsO HRX.out.2.2 1 _ rfl
    have OI := HRX.out.2.1
    have HDO : Hid (Calls Tryd.prog f #[.pointer (some ⟨p, 0, none⟩), .pointer (some ⟨g, kk * 20, none⟩), .agg #[.int .u8 k, .int .u8 oo, .int .i64 dd, .int .i64 a, .int .i64 bb, .int .i64 ad, .int .i64 tt, .int .i64 wd, .int .i64 fr], .pointer (some ⟨Bd, 0, none⟩)] W8 fun x w' => x = .returned (.tuple #[]) ∧ DoR W8 p Bd (goI s kk c).1 (goI s kk c).2 F w') := by
      have h1 := do_do HDH.out HTT.out HRR.out.2.2.2.1 (f := f) (by rw [← HIN.out]; exact HDK.out)
      rw [← HIN.out] at h1
      exact h1
    have hE := enters_do HDK.out
    go_wp2_with (refine ld rowIn rfl rfl rfl OI rfl ?_)
    refine HDO.out.mono ?_
    rintro x w9 ⟨rfl, F', hv, hd, hkk, hf⟩
    have hF := HRR.out.2.2.2.2
    have hr : Own w9 w.heap.size 42 #[.int .u8 0, .int .i64 0, .int .i64 0, .int .i64 0, .int .i64 0, .int .i64 0, .bool false] := hkk.block _ _ HRX.out.1 (.inl fun q => by
      rcases List.mem_cons.1 q with q | q
      · have := HLD.out; omega
      · have := (hF _ q).2; omega)
    have HV := Lib.hid hv
    have HKK := Lib.hid hkk
    have HF := Lib.hid hf
    clear hv hkk hf hF
    go_wp2_with (first | (refine ld rowD rfl rfl rfl hd rfl ?_) | (refine st rowD rfl rfl hr rfl rfl (by rfl) (by rfl) (by kernel_rfl) ?_))
    have hF := HRR.out.2.2.2.2
    have hsz := HKV.out.size
    have hw8 : w.heap.size < W8.heap.size := HRX.out.1.lt
    have kv : KeepV [w.heap.size] w9 (w9.setRow w.heap.size (ddC (goI s kk c).2).toArray) := keepV_row hr (by decide) (by decide) (by decide) _
    refine p_ret2 rowD rfl (hr.row _) rfl rfl rfl rfl ⟨rfl, F', HV.out.keep kv (fun k hk q => ?_), ?_, fun k hk => ?_⟩
    · rw [List.mem_singleton] at q
      rcases HF.out k hk with h1 | h1
      · have := (hF _ h1).2; omega
      · omega
    · refine keepV_new (keepV_new HKV.out HKK.out fun k hk => ?_) kv fun k hk => ?_
      · rcases List.mem_cons.1 hk with rfl | hk
        · exact .inr (Nat.le_of_lt HLD.out)
        · exact .inl hk
      · rw [List.mem_singleton] at hk
        exact .inr (by omega)
    · rcases HF.out k hk with h1 | h1
      · exact .inl h1
      · exact .inr (by omega)
end
end Go.Proofs.YtmpljhfinmfnbaaDoor

/- What an instruction does to the machine: without load and swap. -/
import Derived.Test.YtmpljhfinmfnbaaDoorVka
import Derived.Test.YtmpljhfinmfnbaaDoorVwb
namespace Go.Proofs.YtmpljhfinmfnbaaDoor
open Go.RowKit
set_option linter.unusedVariables false
set_option maxRecDepth 100000
theorem keepV_set {W W' : World} {G : List Nat} {g j : Nat} {u : Value} (hg : g ∈ G) (hb : Below W.heap.size (W.setCell ⟨g, j, none⟩ u) W') (hi : ∀ o, W.heap[g]? = some o → ¬ immO o) : KeepV G W W' := by
  refine ⟨hb.os, hb.tape, hb.output, by have := hb.size; simpa [World.setCell] using this, fun k o hk hs => ?_⟩
  have hne : k ≠ g := by
    intro e
    subst e
    rcases hs with hs | hs
    · exact hs hg
    · exact hi o hk hs
  exact (hb.block k (Array.getElem?_eq_some_iff.1 hk).1).trans ((Below.heap_setCell W ⟨g, j, none⟩ u k hne).trans hk)
theorem not_imm {W : World} {g : Nat} {T : TypeId} {r : Array Value} (h : Own W g T r) (h1 : (T == 135) = false) (h2 : (T == 140) = false) (h3 : (T == 87) = false) : ∀ o, W.heap[g]? = some o → ¬ immO o := by
  rintro o ho ⟨cur, t, rfl, ht⟩
  unfold Own at h
  rw [h] at ho
  injection ho with ho
  injection ho with _ ho
  subst ho
  rcases ht with rfl | rfl | rfl <;> simp_all
/-- A machine is about to do an instruction. -/
structure DoH (w : World) (p b kk g : Nat) (s : Vm) (c : Co) (F : List Nat) (k0 : Int) (cv pv : Value) (sd : Option Addr) (L : List (Co × Value × Value)) (PL : List Nat) (bv cvv : Value) (cap : Nat) : Prop where
  h : VmX w p { s with cores := s.cores.set kk { c with pc := c.pc + 1 } } F cv pv sd L PL
  rg : ∀ x ∈ L, x.1.regs.length = 16
  at_ : L[kk]? = some ({ c with pc := c.pc + 1 }, bv, cvv)
  cg : cv = .slice (some ⟨g, 0, none⟩) L.length cap
  own : Own w b 42 (ddC ⟨k0, kk, c.pc, 0, 0, 0, false⟩).toArray
  nb : b ∉ F
  R : VmR s
  c_ : s.cores[kk]? = some c
  nw : c.waits s.room = false
/-- It is done. -/
def DoR (w : World) (p b : Nat) (s' : Vm) (d : Dd) (F : List Nat) (w' : World) : Prop := ∃ F', VmS w' p s' F' ∧ Own w' b 42 (ddC d).toArray ∧ KeepV (b :: F) w w' ∧ ∀ k ∈ F', k ∈ F ∨ w.heap.size ≤ k
section
variable {w : World} {p b kk g : Nat} {s : Vm} {c : Co} {F : List Nat} {k0 : Int} {cv pv : Value} {sd : Option Addr} {L : List (Co × Value × Value)} {PL : List Nat} {bv cvv : Value} {cap : Nat}
theorem DoH.cop (H : DoH w p b kk g s c F k0 cv pv sd L PL bv cvv cap) : CoP w g (kk * 20) { c with pc := c.pc + 1 } bv cvv := by
  obtain ⟨g2, c2, e, h2, _⟩ := H.h.co H.rg H.at_
  rw [H.cg] at e
  injection e with e
  injection e with e
  injection e with e
  subst e
  exact ⟨h2, H.h.code _ (List.mem_of_getElem? H.at_), H.rg _ (List.mem_of_getElem? H.at_)⟩
theorem DoH.gF (H : DoH w p b kk g s c F k0 cv pv sd L PL bv cvv cap) : g ∈ F := H.h.cF g (by rw [H.cg]; rfl)
theorem DoH.gown (H : DoH w p b kk g s c F k0 cv pv sd L PL bv cvv cap) : ∃ cur, Own w g 97 cur := row_cur H.h.cors H.cg
theorem DoH.gb (H : DoH w p b kk g s c F k0 cv pv sd L PL bv cvv cap) : g ≠ b := fun e => H.nb (e ▸ H.gF)
theorem DoH.cor (H : DoH w p b kk g s c F k0 cv pv sd L PL bv cvv cap) : CoR s.room s.mem.length c := H.R.cores c (List.mem_of_getElem? H.c_)
theorem DoH.ri (H : DoH w p b kk g s c F k0 cv pv sd L PL bv cvv cap) : RiI c.next c.code.length s.mem.length := right_told H.cor.right.1
theorem DoH.same (H : DoH w p b kk g s c F k0 cv pv sd L PL bv cvv cap) {w' : World} (hb : Below w.heap.size w w') : DoR w p b { s with cores := s.cores.set kk { c with pc := c.pc + 1 } } ⟨k0, kk, c.pc, 0, 0, 0, false⟩ F w' :=
  ⟨F, ⟨_, _, _, _, _, H.h.below hb⟩, H.own.below hb, keepV_below hb, fun k hk => .inl hk⟩
/-- One cell of the core has changed. -/
theorem DoH.one (H : DoH w p b kk g s c F k0 cv pv sd L PL bv cvv cap) {w' : World} {j : Nat} {u : Value} {c' : Co} (hb : Below w.heap.size (w.setCell ⟨g, kk * 20 + j, none⟩ u) w') (hj : j < 20) (hc : coC c' bv cvv = (coC { c with pc := c.pc + 1 } bv cvv).set j u) (hcode : c'.code = c.code) (hbf : c'.buf = c.buf) :
    DoR w p b { s with cores := s.cores.set kk c' } ⟨k0, kk, c.pc, 0, 0, 0, false⟩ F w' := by
  have h1 := H.h.setCo' H.rg H.at_ H.cg hj hc hcode hbf
  have hsz : (w.setCell ⟨g, kk * 20 + j, none⟩ u).heap.size = w.heap.size := by simp [World.setCell]
  have hb' : Below (w.setCell ⟨g, kk * 20 + j, none⟩ u).heap.size (w.setCell ⟨g, kk * 20 + j, none⟩ u) w' := by rw [hsz]; exact hb
  have h2 := h1.below hb'
  simp only [List.set_set] at h2
  obtain ⟨cur, hgc⟩ := H.gown
  exact ⟨F, ⟨_, _, _, _, _, h2⟩, (own_setother (fun e => H.gb e.symm) H.own _ _).below hb', keepV_set (List.mem_cons_of_mem _ H.gF) hb (not_imm hgc (by decide) (by decide) (by decide)), fun k hk => .inl hk⟩
theorem do_set (H : DoH w p b kk g s c F 1 cv pv sd L PL bv cvv cap) (e : c.next.k = 1) : Calls Tryd.prog 62 #[.pointer (some ⟨p, 0, none⟩), .pointer (some ⟨g, kk * 20, none⟩), insV c.next, .pointer (some ⟨b, 0, none⟩)] w fun x w' => x = .returned (.tuple #[]) ∧ DoR w p b (goI s kk c).1 (goI s kk c).2 F w' := by
  have hd := H.ri.d (.inl e)
  refine (p_set H.cop c.next hd _ _).mono ?_
  rintro x w' ⟨rfl, hb⟩
  refine ⟨rfl, ?_⟩
  rw [Nat.add_assoc] at hb
  have h1 := H.one (c' := { c with pc := c.pc + 1, regs := rset c.regs c.next.d c.next.wd }) hb (by omega) (coC_reg { c with pc := c.pc + 1 } _ _ H.cor.regs _ _ (by omega)) rfl rfl
  simpa only [goI, e, if_true] using h1
theorem do_operate (H : DoH w p b kk g s c F 1 cv pv sd L PL bv cvv cap) (T : Tabs w) (e : c.next.k = 2) : Calls Tryd.prog 63 #[.pointer (some ⟨p, 0, none⟩), .pointer (some ⟨g, kk * 20, none⟩), insV c.next, .pointer (some ⟨b, 0, none⟩)] w fun x w' => x = .returned (.tuple #[]) ∧ DoR w p b (goI s kk c).1 (goI s kk c).2 F w' := by
  have hd := H.ri.d (.inr (.inl e))
  have ha := H.ri.a (.inl e)
  have ho := H.cor.right.2
  have hb : 0 ≤ c.next.b ∧ c.next.b < 16 := by
    by_cases ht : twoB c.next.o = true
    · exact H.ri.b e ht
    · rw [H.ri.b0 (fun q => ht q.2)]; omega
  refine (p_operate H.cop T c.next ho.2.1 hd ha hb _ _).mono ?_
  rintro x w' ⟨rfl, hb⟩
  refine ⟨rfl, ?_⟩
  rw [Nat.add_assoc] at hb
  have h1 := H.one (c' := { c with pc := c.pc + 1, regs := rset c.regs c.next.d (opX c.next.o (rget c.regs c.next.a) (rget c.regs c.next.b)) }) hb (by omega) (coC_reg { c with pc := c.pc + 1 } _ _ H.cor.regs _ _ (by omega)) rfl rfl
  simpa only [goI, e, Int.reduceEq, if_true, if_false] using h1
theorem do_fence (H : DoH w p b kk g s c F 5 cv pv sd L PL bv cvv cap) (e : c.next.k = 6) : Calls Tryd.prog 67 #[.pointer (some ⟨p, 0, none⟩), .pointer (some ⟨g, kk * 20, none⟩), insV c.next, .pointer (some ⟨b, 0, none⟩)] w fun x w' => x = .returned (.tuple #[]) ∧ DoR w p b (goI s kk c).1 (goI s kk c).2 F w' := by
  refine (p_fence H.cop c.next _ _).mono ?_
  rintro x w' ⟨rfl, hb⟩
  refine ⟨rfl, ?_⟩
  have h1 := H.same hb
  simpa only [goI, e, Int.reduceEq, if_true, if_false] using h1
theorem do_jump (H : DoH w p b kk g s c F 1 cv pv sd L PL bv cvv cap) (e : c.next.k = 8) : Calls Tryd.prog 69 #[.pointer (some ⟨p, 0, none⟩), .pointer (some ⟨g, kk * 20, none⟩), insV c.next, .pointer (some ⟨b, 0, none⟩)] w fun x w' => x = .returned (.tuple #[]) ∧ DoR w p b (goI s kk c).1 (goI s kk c).2 F w' := by
  refine (p_jump H.cop c.next _ _).mono ?_
  rintro x w' ⟨rfl, hb⟩
  refine ⟨rfl, ?_⟩
  have h1 := H.one (j := 0) (c' := { c with pc := c.next.tt }) hb (by omega) rfl rfl rfl
  simpa only [goI, e, Int.reduceEq, if_true, if_false] using h1
theorem do_zero (H : DoH w p b kk g s c F 1 cv pv sd L PL bv cvv cap) (e : c.next.k = 9) : Calls Tryd.prog 70 #[.pointer (some ⟨p, 0, none⟩), .pointer (some ⟨g, kk * 20, none⟩), insV c.next, .pointer (some ⟨b, 0, none⟩)] w fun x w' => x = .returned (.tuple #[]) ∧ DoR w p b (goI s kk c).1 (goI s kk c).2 F w' := by
  have ha := H.ri.a (.inr (.inr (.inr e)))
  refine (p_zero H.cop c.next ha _ _).mono ?_
  rintro x w' ⟨rfl, hb⟩
  refine ⟨rfl, ?_⟩
  by_cases h0 : rget c.regs c.next.a = 0
  · rw [if_pos h0] at hb
    have h1 := H.one (j := 0) (c' := { c with pc := c.next.tt }) hb (by omega) rfl rfl rfl
    simpa only [goI, e, h0, Int.reduceEq, if_true, if_false] using h1
  · rw [if_neg h0] at hb
    have h1 := H.same hb
    simpa only [goI, e, h0, Int.reduceEq, if_true, if_false] using h1
theorem do_halt (H : DoH w p b kk g s c F 7 cv pv sd L PL bv cvv cap) (e : c.next.k = 10) : Calls Tryd.prog 71 #[.pointer (some ⟨p, 0, none⟩), .pointer (some ⟨g, kk * 20, none⟩), insV c.next, .pointer (some ⟨b, 0, none⟩)] w fun x w' => x = .returned (.tuple #[]) ∧ DoR w p b (goI s kk c).1 (goI s kk c).2 F w' := by
  refine (p_halt H.cop c.next _ H.own H.gb (t := c.pc) rfl).mono ?_
  rintro x w' ⟨rfl, hb⟩
  refine ⟨rfl, ?_⟩
  obtain ⟨cur, hgc⟩ := H.gown
  have h1 := H.h.setCo' H.rg H.at_ H.cg (j := 1) (u := .bool true) (c' := { c with pc := c.pc + 1, hal := true }) (by omega) rfl rfl rfl
  have hg1 := own_setin hgc (kk * 20 + 1) (.bool true)
  have h2 := h1.setCo' (k := kk) (y := ({ c with pc := c.pc + 1, hal := true }, bv, cvv)) (fun x hx => by
    rcases set_mem hx with rfl | hx
    · exact H.cor.regs
    · exact H.rg x hx) (by rw [List.getElem?_set_self (List.getElem?_eq_some_iff.1 H.at_).1]) (by rw [List.length_set]; exact H.cg) (j := 0) (u := .int .i64 c.pc) (c' := { c with hal := true }) (by omega) rfl rfl rfl
  have hsz : ((w.setCell ⟨g, kk * 20 + 1, none⟩ (.bool true)).setCell ⟨g, kk * 20, none⟩ (.int .i64 c.pc)).heap.size = w.heap.size := by simp [World.setCell]
  have hb' := hb
  rw [← hsz] at hb'
  have h3 := h2.below hb'
  simp only [List.set_set] at h3
  have hgo : goI s kk c = ({ s with cores := s.cores.set kk { c with hal := true } }, ⟨7, kk, c.pc, 0, 0, 0, false⟩) := by
    simp only [goI, e, Int.reduceEq, if_false]
  rw [hgo]
  have hb2 : Below (w.setCell ⟨g, kk * 20 + 1, none⟩ (.bool true)).heap.size ((w.setCell ⟨g, kk * 20 + 1, none⟩ (.bool true)).setCell ⟨g, kk * 20, none⟩ (.int .i64 c.pc)) w' := by
    rw [show (w.setCell ⟨g, kk * 20 + 1, none⟩ (.bool true)).heap.size = w.heap.size by simp [World.setCell]]
    exact hb
  exact ⟨F, ⟨_, _, _, _, _, h3⟩, (own_setother (fun e => H.gb e.symm) (own_setother (fun e => H.gb e.symm) H.own _ _) _ _).below hb', (keepV_set (List.mem_cons_of_mem _ H.gF) (Below.refl _ _) (not_imm hgc (by decide) (by decide) (by decide))).trans (keepV_set (List.mem_cons_of_mem _ H.gF) hb2 (not_imm hg1 (by decide) (by decide) (by decide))), fun k hk => .inl hk⟩
theorem do_print (H : DoH w p b kk g s c F 6 cv pv sd L PL bv cvv cap) (hl : s.said.length ≤ 4611686018427387904) (e : c.next.k = 7) : Calls Tryd.prog 68 #[.pointer (some ⟨p, 0, none⟩), .pointer (some ⟨g, kk * 20, none⟩), insV c.next, .pointer (some ⟨b, 0, none⟩)] w fun x w' => x = .returned (.tuple #[]) ∧ DoR w p b (goI s kk c).1 (goI s kk c).2 F w' := by
  have ha := H.ri.a (.inr (.inr (.inl e)))
  have hpb : p ≠ b := fun q => H.nb (q ▸ H.h.pF)
  refine (p_print H.cop c.next ha H.h.own rfl H.h.said (by rw [List.length_reverse]; exact hl) H.own (cr := (kk : Int)) (wd0 := 0) rfl rfl hpb).mono ?_
  rintro x w' ⟨gs, rfl, hgs, hb, hso⟩
  refine ⟨rfl, ?_⟩
  have hk1 : KeepV [b] w (w.setCell ⟨b, 4, none⟩ (.int .i64 (rget c.regs c.next.a))) := keepV_set (by simp) (Below.refl _ _) (not_imm H.own (by decide) (by decide) (by decide))
  have h1 := H.h.keep hk1 (fun k hk q => by rw [List.mem_singleton] at q; exact H.nb (q ▸ hk))
  have hsz : (w.setCell ⟨b, 4, none⟩ (.int .i64 (rget c.regs c.next.a))).heap.size = w.heap.size := by simp [World.setCell]
  have hb' := hb
  rw [← hsz] at hb'
  rw [List.length_reverse] at hso
  have h2 := h1.setSaid (x := rget c.regs c.next.a) (t := (kk : Int)) hb' hso
  have hD := own_setother (a := b) (b := p) (Ne.symm hpb) (own_setin H.own 4 (.int .i64 (rget c.regs c.next.a))) 4 (.pointer (some ⟨gs, 0, none⟩))
  have hb2 : Below ((w.setCell ⟨b, 4, none⟩ (.int .i64 (rget c.regs c.next.a))).setCell ⟨p, 4, none⟩ (.pointer (some ⟨gs, 0, none⟩))).heap.size ((w.setCell ⟨b, 4, none⟩ (.int .i64 (rget c.regs c.next.a))).setCell ⟨p, 4, none⟩ (.pointer (some ⟨gs, 0, none⟩))) w' := by
    rw [show ((w.setCell ⟨b, 4, none⟩ (.int .i64 (rget c.regs c.next.a))).setCell ⟨p, 4, none⟩ (.pointer (some ⟨gs, 0, none⟩))).heap.size = w.heap.size by simp [World.setCell]]
    exact hb
  have hgo : goI s kk c = ({ s with cores := s.cores.set kk { c with pc := c.pc + 1 }, said := s.said ++ [((kk : Int), rget c.regs c.next.a)] }, ⟨6, kk, c.pc, 0, rget c.regs c.next.a, 0, false⟩) := by
    simp only [goI, e, Int.reduceEq, if_true, if_false]
  rw [hgo]
  exact ⟨F, ⟨_, _, _, _, _, h2⟩, hD.below hb2, (hk1.mono (fun k o q => q.imp_left fun q r => q (by simp at r ⊢; exact .inl r))).trans (keepV_set (List.mem_cons_of_mem _ H.h.pF) hb' (not_imm h1.own (by decide) (by decide) (by decide))), fun k hk => .inl hk⟩
theorem do_store (H : DoH w p b kk g s c F 3 cv pv sd L PL bv cvv cap) (e : c.next.k = 4) : Calls Tryd.prog 65 #[.pointer (some ⟨p, 0, none⟩), .pointer (some ⟨g, kk * 20, none⟩), insV c.next, .pointer (some ⟨b, 0, none⟩)] w fun x w' => x = .returned (.tuple #[]) ∧ DoR w p b (goI s kk c).1 (goI s kk c).2 F w' := by
  have ha := H.ri.a (.inr (.inl e))
  have hmem := List.mem_of_getElem? H.at_
  have hq : ownsQ w 0 76 3 bv c.buf.length (stoF c.buf) := H.h.buf _ hmem
  have hbl := H.cor.blen
  have hrm := H.R.room
  obtain ⟨cur, hgc⟩ := H.gown
  refine (p_store H.cop c.next ha _ H.own (at0 := c.pc) (ad0 := 0) (wd0 := 0) rfl rfl rfl H.gb hq (by omega) (fun k q => ⟨fun r => H.nb (r ▸ H.h.bF _ hmem k q), fun r => ownsQ_apart hq hgc (by decide) (r ▸ q)⟩)).mono ?_
  rintro x w' ⟨rfl, w4, W5, v5, hb, hq5, hgr, hv5, rfl⟩
  refine ⟨rfl, ?_⟩
  have hk1 : KeepV [b] w (w.setCell ⟨b, 3, none⟩ (.int .i64 c.next.ad)) := keepV_set (by simp) (Below.refl _ _) (not_imm H.own (by decide) (by decide) (by decide))
  have hd1 := own_setin H.own 3 (.int .i64 c.next.ad)
  have hsz : (w.setCell ⟨b, 3, none⟩ (.int .i64 c.next.ad)).heap.size = w.heap.size := by simp [World.setCell]
  have hb' := hb
  rw [← hsz] at hb'
  have hk2 : KeepV [b] (w.setCell ⟨b, 3, none⟩ (.int .i64 c.next.ad)) w4 := keepV_set (by simp) hb' (not_imm hd1 (by decide) (by decide) (by decide))
  have hk := hk1.trans hk2
  have h4 := H.h.keep hk (fun k hk q => by rw [List.mem_singleton] at q; exact H.nb (q ▸ hk))
  have hb4 : Below ((w.setCell ⟨b, 3, none⟩ (.int .i64 c.next.ad)).setCell ⟨b, 4, none⟩ (.int .i64 (rget c.regs c.next.a))).heap.size ((w.setCell ⟨b, 3, none⟩ (.int .i64 c.next.ad)).setCell ⟨b, 4, none⟩ (.int .i64 (rget c.regs c.next.a))) w4 := by
    rw [show ((w.setCell ⟨b, 3, none⟩ (.int .i64 c.next.ad)).setCell ⟨b, 4, none⟩ (.int .i64 (rget c.regs c.next.a))).heap.size = w.heap.size by simp [World.setCell]]
    exact hb
  have hD := (own_setin hd1 4 (.int .i64 (rget c.regs c.next.a))).below hb4
  have hq5' : ownsQ W5 0 76 3 v5 (c.buf ++ [(⟨c.pc, c.next.ad, rget c.regs c.next.a⟩ : Sto)]).length (stoF (c.buf ++ [(⟨c.pc, c.next.ad, rget c.regs c.next.a⟩ : Sto)])) := by
    unfold stoF at hq5 ⊢
    rw [List.length_append, List.flatMap_append]
    exact hq5
  have h5 := h4.setBuf H.rg H.at_ H.cg hgr hq5' hv5
  simp only [List.set_set] at h5
  have hbF : ∀ k, bv.ownBlock = some k → k ∈ F := H.h.bF _ hmem
  have hD5 : Own W5 b 42 _ := (hgr.block b hD.lt (fun q => H.nb (hbF b q.symm))).trans hD
  obtain ⟨cur4, hgc4⟩ := row_cur h4.cors H.cg
  have hgc5 : Own W5 g 97 cur4 := (hgr.block g hgc4.lt (fun q => ownsQ_apart hq hgc (by decide) q.symm)).trans hgc4
  have hk5 : KeepV (b :: F) w4 W5 := by
    refine ⟨hgr.os, hgr.tape, hgr.output, hgr.size, fun k o hk hs => (hgr.block k (Array.getElem?_eq_some_iff.1 hk).1 (fun q => ?_)).trans hk⟩
    rcases hs with hs | ⟨cu, t, rfl, ht⟩
    · exact hs (List.mem_cons_of_mem _ (hbF k q.symm))
    · have := ownsQ_apart (h4.buf _ hmem) (b := k) (U := t) (cs := cu) hk (by rcases ht with rfl | rfl | rfl <;> decide)
      exact this q.symm
  have hgo : goI s kk c = ({ s with cores := s.cores.set kk { c with pc := c.pc + 1, buf := c.buf ++ [⟨c.pc, c.next.ad, rget c.regs c.next.a⟩] } }, ⟨3, kk, c.pc, c.next.ad, rget c.regs c.next.a, 0, false⟩) := by
    simp only [goI, e, Int.reduceEq, if_true, if_false]
  rw [hgo]
  refine ⟨_, ⟨_, _, _, _, _, h5⟩, own_setother (fun q => H.gb q.symm) hD5 _ _, ((hk.mono (fun k o q => q.imp_left fun q r => q (by simp at r ⊢; exact .inl r))).trans hk5).trans (keepV_set (List.mem_cons_of_mem _ H.gF) (Below.refl _ _) (not_imm hgc5 (by decide) (by decide) (by decide))), fun k hk6 => ?_⟩
  rcases List.mem_append.1 hk6 with hk6 | hk6
  · rcases hv5 with hv5 | ⟨k2, e2, h2⟩
    · rw [hv5] at hk6
      exact .inl (hbF k (by simpa using hk6))
    · rw [e2] at hk6
      have : k = k2 := by simpa using hk6
      subst this
      exact .inr (Nat.le_trans hk.size h2)
  · exact .inl hk6
end
end Go.Proofs.YtmpljhfinmfnbaaDoor

/- What load and swap do to the machine. -/
import Derived.Test.YtmpljhfinmfnbaaDoorVkb
import Derived.Test.YtmpljhfinmfnbaaDoorVwd
namespace Go.Proofs.YtmpljhfinmfnbaaDoor
open Go.RowKit
set_option linter.unusedVariables false
set_option maxRecDepth 100000
section
variable {w : World} {p b kk g : Nat} {s : Vm} {c : Co} {F : List Nat} {k0 : Int} {cv pv : Value} {sd : Option Addr} {L : List (Co × Value × Value)} {PL : List Nat} {bv cvv : Value} {cap : Nat}
theorem keepV_of_keepB {W W' : World} {G : List Nat} (hb : b ∈ G) (h : KeepB b W W') (hi : ∀ o, W.heap[b]? = some o → ¬ immO o) : KeepV G W W' :=
  ⟨h.os, h.tape, h.output, h.size, fun k o hk hs => h.block k o hk fun e => by
    subst e
    rcases hs with hs | hs
    · exact hs hb
    · exact hi o hk hs⟩
theorem DoH.ldp (H : DoH w p b kk g s c F k0 cv pv sd L PL bv cvv cap) : ∃ a1 n1 c1, pv = .slice a1 n1 c1 ∧ LdP w p g (kk * 20) b { c with pc := c.pc + 1 } bv cvv s.mem a1 n1 c1 (s.mem.length : Int) PL #[cv, .int .i64 s.room, pv, .int .i64 (s.mem.length : Int), .pointer sd] ∧ p ≠ g ∧ (∀ k, pv.ownBlock = some k → k ≠ g) ∧ ∀ (k q : Nat), PL[k]? = some q → q ≠ g := by
  obtain ⟨a1, c1, e⟩ := row_slice H.h.pgs
  have hm := List.mem_of_getElem? H.at_
  obtain ⟨cur, hgc⟩ := H.gown
  refine ⟨a1, PL.length, c1, e, ⟨H.cop, H.h.buf _ hm, ?_, H.h.own, by rw [e]; rfl, rfl, ?_, H.R.mem, fun q => H.nb (q ▸ H.h.pF), H.gb, fun k q r => row_apart (H.h.code _ hm) H.own (by decide) (r ▸ q), fun k q r => H.nb (r ▸ H.h.bF _ hm k q), fun k q r => H.nb (r ▸ H.h.gF k (by rw [e]; exact q)), fun k q e2 r => own_unlike (H.h.page k q e2) H.own (by decide) r⟩, own_unlike H.h.own hgc (by decide), fun k q r => row_apart H.h.pgs hgc (by decide) (r ▸ q), fun k q e2 => own_unlike (H.h.page k q e2) hgc (by decide)⟩
  · have h1 := H.cor.blen
    have h2 := H.R.room
    show c.buf.length ≤ _
    omega
  · rw [← e]
    exact H.h.pga
theorem DoH.did (H : DoH w p b kk g s c F k0 cv pv sd L PL bv cvv cap) : Own w b 42 #[.int .u8 k0, .int .i64 (kk : Int), .int .i64 c.pc, .int .i64 0, .int .i64 0, .int .i64 0, .bool false] := H.own
/-- What is told is written, then one cell of the core. -/
theorem DoH.told (H : DoH w p b kk g s c F k0 cv pv sd L PL bv cvv cap) {W w' : World} {d : Dd} (hk : KeepB b w W) (hd : Own W b 42 (ddC d).toArray) {j : Nat} {u : Value} {c' : Co} (hb : Below W.heap.size (W.setCell ⟨g, kk * 20 + j, none⟩ u) w') (hj : j < 20) (hc : coC c' bv cvv = (coC { c with pc := c.pc + 1 } bv cvv).set j u) (hcode : c'.code = c.code) (hbf : c'.buf = c.buf) :
    VmX w' p { s with cores := s.cores.set kk c' } F cv pv sd (L.set kk (c', bv, cvv)) PL ∧ Own w' b 42 (ddC d).toArray ∧ KeepV (b :: F) w w' := by
  have hk1 : KeepV [b] w W := keepV_of_keepB (by simp) hk (not_imm H.own (by decide) (by decide) (by decide))
  have h0 := H.h.keep hk1 (fun k hk q => by rw [List.mem_singleton] at q; exact H.nb (q ▸ hk))
  have h1 := h0.setCo' H.rg H.at_ H.cg hj hc hcode hbf
  have hsz : (W.setCell ⟨g, kk * 20 + j, none⟩ u).heap.size = W.heap.size := by simp [World.setCell]
  have hb' : Below (W.setCell ⟨g, kk * 20 + j, none⟩ u).heap.size (W.setCell ⟨g, kk * 20 + j, none⟩ u) w' := by rw [hsz]; exact hb
  have h2 := h1.below hb'
  simp only [List.set_set] at h2
  obtain ⟨cur, hgc⟩ := row_cur h0.cors H.cg
  exact ⟨h2, (own_setother (fun e => H.gb e.symm) hd _ _).below hb', (hk1.mono (fun k o q => q.imp_left fun q r => q (by simp at r ⊢; exact .inl r))).trans (keepV_set (List.mem_cons_of_mem _ H.gF) hb (not_imm hgc (by decide) (by decide) (by decide)))⟩
theorem do_load (H : DoH w p b kk g s c F 2 cv pv sd L PL bv cvv cap) (e : c.next.k = 3) : Calls Tryd.prog 64 #[.pointer (some ⟨p, 0, none⟩), .pointer (some ⟨g, kk * 20, none⟩), insV c.next, .pointer (some ⟨b, 0, none⟩)] w fun x w' => x = .returned (.tuple #[]) ∧ DoR w p b (goI s kk c).1 (goI s kk c).2 F w' := by
  have hd := H.ri.d (.inr (.inr (.inl e)))
  have ha := H.ri.ad (.inl e)
  obtain ⟨a1, n1, c1, e1, hl, _⟩ := H.ldp
  refine (p_load hl c.next hd ha H.did).mono ?_
  rintro x w' ⟨rfl, W, hk, hdw, hb⟩
  refine ⟨rfl, ?_⟩
  rw [Nat.add_assoc] at hb
  have h1 := H.told (d := ⟨2, kk, c.pc, c.next.ad, (newS c.buf c.next.ad).getD (rget s.mem c.next.ad), 0, (newS c.buf c.next.ad).isSome⟩) (c' := { c with pc := c.pc + 1, regs := rset c.regs c.next.d ((newS c.buf c.next.ad).getD (rget s.mem c.next.ad)) }) hk hdw hb (by omega) (coC_reg { c with pc := c.pc + 1 } _ _ H.cor.regs _ _ (by omega)) rfl rfl
  have hgo : goI s kk c = ({ s with cores := s.cores.set kk { c with pc := c.pc + 1, regs := rset c.regs c.next.d ((newS c.buf c.next.ad).getD (rget s.mem c.next.ad)) } }, ⟨2, kk, c.pc, c.next.ad, (newS c.buf c.next.ad).getD (rget s.mem c.next.ad), 0, (newS c.buf c.next.ad).isSome⟩) := by
    simp only [goI, e, Int.reduceEq, if_true, if_false]
  rw [hgo]
  exact ⟨F, ⟨_, _, _, _, _, h1.1⟩, h1.2.1, h1.2.2, fun k hk => .inl hk⟩
theorem do_swap (H : DoH w p b kk g s c F 4 cv pv sd L PL bv cvv cap) (e : c.next.k = 5) : Calls Tryd.prog 66 #[.pointer (some ⟨p, 0, none⟩), .pointer (some ⟨g, kk * 20, none⟩), insV c.next, .pointer (some ⟨b, 0, none⟩)] w fun x w' => x = .returned (.tuple #[]) ∧ DoR w p b (goI s kk c).1 (goI s kk c).2 F w' := by
  have hd := H.ri.d (.inr (.inr (.inr e)))
  have ha := H.ri.ad (.inr (.inr e))
  obtain ⟨a1, n1, c1, e1, hl, hng⟩ := H.ldp
  rw [e1] at hng
  refine (p_swap hl hng c.next hd ha H.did).mono ?_
  rintro x w' ⟨rfl, W, W9, hk, hdw, hb, gp, g2, rfl, hg2, hb9, hpg⟩
  refine ⟨rfl, ?_⟩
  rw [Nat.add_assoc] at hb
  obtain ⟨h1, h2, h3⟩ := H.told (d := ⟨4, kk, c.pc, c.next.ad, rget s.mem c.next.ad, rget c.regs c.next.d, false⟩) (c' := { c with pc := c.pc + 1, regs := rset c.regs c.next.d (rget s.mem c.next.ad) }) hk hdw hb (by omega) (coC_reg { c with pc := c.pc + 1 } _ _ H.cor.regs _ _ (by omega)) rfl rfl
  have hgo : goI s kk c = ({ s with cores := s.cores.set kk { c with pc := c.pc + 1, regs := rset c.regs c.next.d (rget s.mem c.next.ad) }, mem := rset s.mem c.next.ad (rget c.regs c.next.d) }, ⟨4, kk, c.pc, c.next.ad, rget s.mem c.next.ad, rget c.regs c.next.d, false⟩) := by
    simp only [goI, e, Int.reduceEq, if_true, if_false]
  rw [hgo]
  obtain ⟨g3, cap3, e3, _, _⟩ := row_at H.h.pgs (by have h5 := H.h.pgn; have h6 : (0 : Int) < s.mem.length := by omega
                                                    simp only at h5; omega)
  have e4 : pv = .slice (some ⟨gp, 0, none⟩) PL.length cap3 := by
    rw [e1] at e3 ⊢
    injection e3 with q1 q2 q3
    rw [q2, q3]
  have h4 := h1.putPage e4 hb9 (a := c.next.ad) (x := rget c.regs c.next.d) (by rw [e1]; exact hpg)
  obtain ⟨cur, hcur⟩ := row_cur h1.pgs e4
  have hsz : (W9.setCell ⟨gp, c.next.ad.toNat / 32, none⟩ (.pointer (some ⟨g2, 0, none⟩))).heap.size = W9.heap.size := by simp [World.setCell]
  have hb9' := hb9
  rw [← hsz] at hb9'
  have hpF : gp ∈ F := H.h.gF gp (by rw [e4]; rfl)
  exact ⟨F, ⟨_, _, _, _, _, h4⟩, (own_setother (own_unlike h2 hcur (by decide)) h2 _ _).below hb9', h3.trans (keepV_set (List.mem_cons_of_mem _ hpF) hb9 (not_imm hcur (by decide) (by decide) (by decide))), fun k hk => .inl hk⟩
end
end Go.Proofs.YtmpljhfinmfnbaaDoor

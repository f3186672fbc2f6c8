/- Target's text reader: a core's line, walked. -/
import Derived.Test.YtgmcfinjlddgbaaGreatDoorTp2
import Derived.Test.YtgmcfinjlddgbaaGreatDoorShelf
namespace Go.Proofs.YtgmcfinjlddgbaaGreatDoor
open Go.RowKit
set_option linter.unusedVariables false
set_option maxRecDepth 100000
section
variable {P : Program} {ops : Array Oper} {Q : Exit → Act → World → Prop} {a : Act} {w : World}
/-- A call. -/
theorem wp_callT {o : Oper} {K : Act → World → Prop} {x : Operand} {args : Array Operand} {ts : Array TypeId} (ho : o.op = .call { callee := .value x, args := args, argTypes := ts }) {f : FuncId} {fst cap : Array Value} (hx : a.eval x = .func (.func f) fst cap) (hE : ∀ (args : Array Value) (w : World), (callFunc f args).run P w = .ok (.enter f args) w)
    {vs : Array Value} (hv : fst ++ args.map a.eval ++ cap = vs) {R : Ending → World → Prop} (hc : Calls P f vs w R) (hk : ∀ e w', R e w' → (match e with | .returned v => K (a.put o.dst v) w' | .panicked ch => Q (.panic ch) a w' | .outgrown => LetsOut Q)) : o.wp P a w K Q := by
  have h1 : ∀ ty, resolve a.eval { callee := .value x, args := args, argTypes := ts } ty = pure { target := .fn (.func f) cap, args := fst ++ args.map a.eval } := fun ty => by
    unfold resolve
    simp only [hx]
    rfl
  have hrun : (execOp a.eval o).run P w = .ok (.enter f vs) w := by
    unfold execOp
    simp only [ho, h1]
    obtain ⟨us, hus⟩ : ∃ us, us = args.map a.eval := ⟨_, rfl⟩
    rw [← hus] at hv ⊢
    simp [invoke, go_sem, hE, hv]
  unfold Oper.wp
  rw [hrun, Oper.upon_enter]
  exact hc.mono fun e w' h => by have := hk e w' h; cases e <;> exact this
end
section
variable {w X W W' : World} {B p g b : Nat} {y : Pst × Ob}
theorem Rq.next {s' : Pst} (h : Rq w B p g b y X) (k : Pq X p s' W) (hB : B ≤ p) (hb : b ≠ p) : Rq w B p g b (s', y.2) W :=
  ⟨h.rp.line k.own k.keep (k.bel.mono hB), k.other h.bx hb⟩
theorem own_grow {base : Nat} {T U : TypeId} {n : Nat} {v : Value} {m : Nat} {xs : List Value} {c : Nat} {row : Array Value} (ho : Own X c U row) (hr : X.ownsRow base T n v m xs) (ht : (T == U) = false) (hg : X.grownBy W v.ownBlock) : Own W c U row := (hg.block c ho.lt (fun e => row_apart hr ho ht e.symm)).trans ho
/-- A list has grown, and is stored. -/
theorem Rq.put (h : Rq w B p g b y X) {T : TypeId} {n : Nat} {v : Value} {m : Nat} {xs : List Value} (hr : X.ownsRow B T n v m xs) (t1 : (T == 171) = false) (t2 : (T == 161) = false) (hg : X.grownBy W v.ownBlock) {c j : Nat} {ty : TypeId} {row : Array Value} (hc : Own W c ty row) (t3 : (171 == ty) = false) (t4 : (161 == ty) = false) (hBc : B ≤ c) (hBp : B ≤ p) (u : Value) (o' : Ob) (hrd : ∃ v1 v5 L, RdS B g o' v1 v5 L (W.setCell ⟨c, j, none⟩ u)) : Rq w B p g b (y.1, o') (W.setCell ⟨c, j, none⟩ u) := by
  have e1 := own_grow h.rp.own hr t1 hg
  have e2 := own_grow h.bx hr t2 hg
  have hbg : Below B w W := ⟨hg.os.trans h.rp.bel.os, hg.tape.trans h.rp.bel.tape, hg.output.trans h.rp.bel.output, Nat.le_trans h.rp.bel.size hg.size, fun k hk => by
    have hk2 : k < X.heap.size := by
      have hle := h.rp.bel.size
      by_cases e : k < w.heap.size
      · omega
      · have := h.rp.own.lt
        omega
    exact (hg.block k hk2 (fun e => by have := (row_lt hr e.symm).1; omega)).trans (h.rp.bel.block k hk)⟩
  exact ⟨⟨own_set_other e1 (fun e => own_ne e1 hc t3 e.symm) u, hrd, hbg.setCell (p := ⟨c, j, none⟩) hBc u⟩, own_set_other e2 (fun e => own_ne e2 hc t4 e.symm) u⟩
end
theorem t_Clone (s : ByteArray) (w : World) (hs : s.size ≤ 281474976710656) : Calls Tryz.prog 132 #[.string s] w fun e w' => e = .returned (.string s) ∧ Below w.heap.size w w' := by
  have HC : Hid (Calls Tryz.prog 148 #[.string s] w fun e w' => e = .returned (.string s) ∧ Below w.heap.size w w') := Go.Proofs.Tryz.stringslite_Clone s w hs
  clear hs
  go_enter Tryz.func132, Tryz.ntmps132
  go_wp2_with (go_at_call 148; refine HC.out.mono ?_; rintro e w2 ⟨rfl, hb⟩)
  go_ret
  exact ⟨rfl, hb⟩
set_option maxHeartbeats 4000000 in
theorem t_core {w : World} {B p g : Nat} {y : Pst × Ob} (h : Rp w B p g y w) (hs : y.1.rest.size ≤ 281474976710656) (hn : y.2.cores.length ≤ 1000000) (hB : B ≤ p) (hB2 : B ≤ g) :
    Calls Tryz.prog 120 #[.pointer (some ⟨g, 0, none⟩), .agg #[.pointer (some ⟨p, 0, none⟩)]] w fun e w' => e = .returned (.bool (doneB (coS y).1)) ∧ Rp w B p g (coS y) w' := by
  have hq0 := h.box hB
  have hn1 : w.heap.size ≠ p := by have := h.own.lt; omega
  have hn2 : w.heap.size ≠ g := by
    obtain ⟨v1, v5, L, hr⟩ := h.rd
    have := hr.own.lt; omega
  have HN : Hid (∀ X, Rq w B p g w.heap.size y X → Calls Tryz.prog 117 #[.pointer (some ⟨p, 0, none⟩)] X fun e w' => e = .returned (.string (nextS y.1).1) ∧ Rq w B p g w.heap.size ((nextS y.1).2, y.2) w') := fun X hX => (p_next hX.rp.own (by omega)).mono fun _ _ ⟨e1, e2⟩ => ⟨e1, hX.next e2 hB hn1⟩
  have HDN : Hid (∀ X (y : Pst × Ob), Rq w B p g w.heap.size y X → Calls Tryz.prog 128 #[.pointer (some ⟨p, 0, none⟩)] X fun e w' => e = .returned (.bool (doneB y.1)) ∧ X = w') := fun X y h1 => p_done h1.rp.own
  have HSZ : Hid ((nextS y.1).1.size ≤ 281474976710656) := Nat.le_trans (next_size y.1).1 hs
  have HK : Hid (∀ X (t : Pst) v1 v5 L, Rq w B p g w.heap.size (t, y.2) X → RdS B g y.2 v1 v5 L X → Calls Tryz.prog 133 #[v5, .agg #[.string (nextS y.1).1, .slice none 0 0], .int .i64 8] X fun e w' => ∃ a5 n5 c5, e = .returned (.slice a5 n5 c5) ∧ (∃ u, w'.cell? ⟨g, 4, none⟩ = some u) ∧ w'.frozen? ⟨g, 4, none⟩ = false ∧ Rq w B p g w.heap.size (t, (coS y).2) (w'.setCell ⟨g, 4, none⟩ (.slice a5 n5 c5))) := fun X t v1 v5 L hX hr => by
    have hBX : B ≤ X.heap.size := Nat.le_trans hB (Nat.le_of_lt hX.rp.own.lt)
    have hlen : L.length = y.2.cores.length := by rw [← hr.fst, List.length_map]
    refine (kept_c (nextS y.1).1 none 0 0 hr.cors hBX (by omega) 8 (by omega) (by omega)).mono fun e w' hk => ?_
    obtain ⟨v', rfl, hg, hr2⟩ := kept_use hr.cors hk
    obtain ⟨a5, c5, rfl⟩ := row_slice hr2
    obtain ⟨L', hL'⟩ := hr.setCores (nextS y.1).1 hBX hg hr2
    have ho := own_grow hr.own hr.cors rfl hg
    exact ⟨_, _, _, rfl, ⟨_, by rw [cell_of_row _ _ 4 _ _ _ ho]; rfl⟩, own_frozen ho 4, hX.put hr.cors rfl rfl hg ho rfl rfl hB2 hB _ _ ⟨v1, _, L', hL'⟩⟩
  have hco : (coS y).1 = (nextS y.1).2 := rfl
  rw [hco]
  have HCO : Hid (∀ X, Rq w B p g w.heap.size ((nextS y.1).2, (coS y).2) X → Rp w B p g (coS y) X) := fun X hX => hX.rp
  generalize coS y = z at HK HCO ⊢
  generalize nextS y.1 = r at HN HSZ HK HCO ⊢
  obtain ⟨nm, s1⟩ := r
  simp only at HN HSZ HK HCO ⊢
  obtain ⟨W0, hW0⟩ : ∃ W, W = w.alloc (.cells #[.pointer (some ⟨p, 0, none⟩)] 161) := ⟨_, rfl⟩
  rw [← hW0] at hq0
  have HW0 := Lib.hid hW0
  have HP0 := Lib.hid hq0
  have HBP := Lib.hid hB
  have c0 : W0.cell? ⟨w.heap.size, 0, none⟩ = some (.pointer (some ⟨p, 0, none⟩)) := by rw [cell_of_row _ _ 0 _ _ _ hq0.bx]; rfl
  clear h hs hB hB2 hq0 hn1 hn2 hW0 hco hn
  go_enter Tryz.func120, Tryz.ntmps120
  go_upto_region 1 with (fail)
  rw [← HW0.out]
  clear HW0
  go_wp2_with (go_at_call 117; refine (HN.out _ HP0.out).mono ?_; rintro e w2 ⟨rfl, hz⟩; have HZ := Lib.hid hz; clear hz c0)
  go_at_call 132
  refine (t_Clone nm w2 HSZ.out).mono ?_
  rintro e w3 ⟨rfl, hb⟩
  have hz3 := HZ.out.below hb HBP.out
  have HZ3 := Lib.hid hz3
  obtain ⟨v1, v5, L, hr⟩ := hz3.rp.rd
  obtain ⟨a5, c5, rfl⟩ := row_slice hr.cors
  have HR3 := Lib.hid hr
  have c4 : w3.cell? ⟨g, 4, none⟩ = some (.slice a5 L.length c5) := by rw [cell_of_row _ _ 4 _ _ _ hr.own]; rfl
  clear hb hz3 hr HZ
  go_wp2_with fail
  go_at_call 133
  refine (HK.out _ _ _ _ _ HZ3.out HR3.out).mono ?_
  rintro e w4 ⟨a6, n6, c6, rfl, ⟨u, d4⟩, f4, hz⟩
  have HZ4 := Lib.hid hz
  have e0 : (w4.setCell ⟨g, 4, none⟩ (.slice a6 n6 c6)).cell? ⟨w.heap.size, 0, none⟩ = some (.pointer (some ⟨p, 0, none⟩)) := by rw [cell_of_row _ _ 0 _ _ _ hz.bx]; rfl
  clear hz HZ3 HR3 c4
  go_wp2_with (go_at_call 128; refine (HDN.out _ _ HZ4.out).mono ?_; rintro e w5 ⟨rfl, rfl⟩)
  go_ret
  exact ⟨rfl, HCO.out _ HZ4.out⟩
end Go.Proofs.YtgmcfinjlddgbaaGreatDoor

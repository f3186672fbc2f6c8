/- The proof, part 4: texts that belong together, in one. -/
import Derived.Test.YtgaibdipecngkaaDoorMC
import Derived.Carry
import Derived.Recover
import Derived.Tactics2
import Derived.RegionTactic
namespace Go.Proofs.YtgaibdipecngkaaDoor
open Go.RowKit
set_option linter.unusedVariables false
section
variable {o : Oper} {a : Act} {w : World} {K : Act → World → Prop} {Q : Exit → Act → World → Prop}
set_option maxHeartbeats 1000000 in
theorem wp_ld_dcs {x : Operand} (ho : o.op = .load 48 x) {p : Addr} (hx : a.eval x = .pointer (some p)) {v : Value} (hv : w.cell? p = some v) (h : K (a.put o.dst v) w) : o.wp Tryd.prog a w K Q := by
  have hrun : (execOp a.eval o).run Tryd.prog w = .ok (.value v) w := by
    unfold execOp
    simp only [ho, hx]
    go_simp
  unfold Oper.wp
  rw [hrun]
  exact h
set_option maxHeartbeats 1000000 in
theorem wp_st_dcs {x y : Operand} (ho : o.op = .store 48 x y) {p : Addr} (hx : a.eval x = .pointer (some p)) {s : Option Addr} {n cp : Nat} (hy : a.eval y = .slice s n cp) {u : Value} (hu : w.cell? p = some u) (hf : w.frozen? p = false) (h : K (a.put o.dst undef) (w.setCell p (.slice s n cp))) : o.wp Tryd.prog a w K Q := by
  have hrun : (execOp a.eval o).run Tryd.prog w = .ok .skip (w.setCell p (.slice s n cp)) := by
    unfold execOp
    simp only [ho, hx, hy]
    go_simp
  unfold Oper.wp
  rw [hrun]
  exact h
set_option maxHeartbeats 1000000 in
theorem wp_ld_ths {x : Operand} (ho : o.op = .load 49 x) {p : Addr} (hx : a.eval x = .pointer (some p)) {v : Value} (hv : w.cell? p = some v) (h : K (a.put o.dst v) w) : o.wp Tryd.prog a w K Q := by
  have hrun : (execOp a.eval o).run Tryd.prog w = .ok (.value v) w := by
    unfold execOp
    simp only [ho, hx]
    go_simp
  unfold Oper.wp
  rw [hrun]
  exact h
set_option maxHeartbeats 1000000 in
theorem wp_st_ths {x y : Operand} (ho : o.op = .store 49 x y) {p : Addr} (hx : a.eval x = .pointer (some p)) {s : Option Addr} {n cp : Nat} (hy : a.eval y = .slice s n cp) {u : Value} (hu : w.cell? p = some u) (hf : w.frozen? p = false) (h : K (a.put o.dst undef) (w.setCell p (.slice s n cp))) : o.wp Tryd.prog a w K Q := by
  have hrun : (execOp a.eval o).run Tryd.prog w = .ok .skip (w.setCell p (.slice s n cp)) := by
    unfold execOp
    simp only [ho, hx, hy]
    go_simp
  unfold Oper.wp
  rw [hrun]
  exact h
end
/-- While declarations are read: the reader's place, the program's block, its two lists. -/
structure PgI (c : Par) (w0 : World) (pb : Nat) (vS vL : Value) (p : Pg) (W : World) (k : Nat) : Prop where
  run : At c w0 W k
  ge : w0.heap.size < pb
  res : Own W w0.heap.size 51 zPg
  own : Own W pb 51 #[vS, vL, .slice none 0 0]
  rS : W.ownsRow w0.heap.size 58 3 vS p.shared.length (dcsL p.shared)
  rL : W.ownsRow w0.heap.size 58 3 vL p.locks.length (dcsL p.locks)
  ne : vS.ownBlock = none ∨ vS.ownBlock ≠ vL.ownBlock
section
variable {c : Par} {w0 W W' : World} {pb : Nat} {vS vL : Value} {p : Pg} {k k2 : Nat}
/-- A row's block is of its elements' type. -/
theorem row_apart {W : World} {base : Nat} {T U : TypeId} {n : Nat} {v : Value} {m : Nat} {xs : List Value} (h : W.ownsRow base T n v m xs) {b : Nat} {cs : Array Value} (hb : Own W b U cs) (ht : (T == U) = false) : v.ownBlock ≠ some b := by
  intro e
  rcases h.2 with ⟨rfl, _⟩ | ⟨g, cap, cur, rfl, _, hg, _⟩
  · cases e
  · have e : g = b := by simpa [Value.ownBlock] using e
    subst e
    unfold Own at hb
    rw [hg] at hb
    cases hb
    simp at ht
theorem PgI.call (h : PgI c w0 pb vS vL p W k) (hf : Fr c W W') (hp : Rd c W' k2) (hX : c.X < w0.heap.size) : PgI c w0 pb vS vL p W' k2 :=
  ⟨h.run.call hf hp, h.ge, h.res.fr hf (by omega), h.own.fr hf (by have := h.ge; omega), row_fr h.rS hf hX, row_fr h.rL hf hX, h.ne⟩
theorem PgI.cell (h : PgI c w0 pb vS vL p W k) {i : Nat} {v : Value} (hv : (#[vS, vL, .slice none 0 0] : Array Value)[i]? = some v) : W.cell? ⟨pb, i, none⟩ = some v := by rw [cell_of_row W _ i _ _ _ h.own]; exact hv
theorem own_frozen {b : Nat} {T : TypeId} {cs : Array Value} (h : Own W b T cs) (i : Nat) : W.frozen? ⟨b, i, none⟩ = false := by
  unfold Own at h
  simp only [World.frozen?, h]; rfl
theorem PgI.drew (h : PgI c w0 pb vS vL p W k) : PgI c w0 pb vS vL p W.drew k := ⟨h.run.drew, h.ge, h.res, h.own, h.rS, h.rL, h.ne⟩
end
theorem dcsL_cells (d : List Dc) : ∀ u ∈ dcsL d, u.oneCell' = true := by
  intro u hu
  unfold dcsL at hu
  rw [List.mem_flatMap] at hu
  obtain ⟨x, _, hx⟩ := hu
  simp [dcCells] at hx
  rcases hx with rfl | rfl | rfl <;> rfl
theorem row_news {W : World} {base : Nat} {T : TypeId} {n m : Nat} {g cap : Nat} {xs : List Value} (h : W.ownsRow base T n (.slice (some ⟨g, 0, none⟩) m cap) m xs) : ∀ j u, xs[j]? = some u → W.cell? ((⟨g, 0, none⟩ : Addr).add j) = some u := h.cells rfl
theorem list_count {L : Int} {one : List Tk → PR Dc} (ho : ∀ ts d r, one ts = .ok d r → r.length < ts.length) : ∀ {n : Nat} {acc : List Dc} {ts : List Tk} {l : List Dc} {r : List Tk}, listP L one n acc ts = .ok l r → l.length ≤ acc.length + ts.length
  | 0, acc, ts, l, r, h => by simp [listP] at h
  | n + 1, acc, ts, l, r, h => by
    simp only [listP] at h
    obtain ⟨a, b, h1, h2⟩ := PR.then_eq_ok h
    have k := ho _ _ _ h1
    split at h2
    · have := list_count ho h2
      rw [List.length_append, List.length_tail] at this
      simp at this
      omega
    · obtain ⟨u, c, h3, h4⟩ := PR.then_eq_ok h2
      cases h4
      rw [List.length_append]
      simp
      omega
section
variable {c : Par} {w0 W W' : World} {pb : Nat} {vS vL : Value} {p : Pg} {k k2 : Nat}
theorem PgI.grownS (h : PgI c w0 pb vS vL p W k) (hg : W.grownBy W' vS.ownBlock) (hX : c.X < w0.heap.size) : At c w0 W' k ∧ Own W' w0.heap.size 51 zPg ∧ Own W' pb 51 #[vS, vL, .slice none 0 0] ∧ W'.ownsRow w0.heap.size 58 3 vL p.locks.length (dcsL p.locks) :=
  ⟨grown_fr h.run hg (fun r hr => by have := (h.rS.lt r hr).1; exact ⟨this, by omega⟩), own_grown h.res hg (row_apart h.rS h.res rfl), own_grown h.own hg (row_apart h.rS h.own rfl),
   h.rL.kept hg (by
    rcases h.ne with e | e
    · cases hv : vL.ownBlock with
      | none => exact .inl rfl
      | some b => exact .inr (by rw [e]; simp)
    · exact .inr (fun e' => e e'.symm))⟩
theorem PgI.grownL (h : PgI c w0 pb vS vL p W k) (hg : W.grownBy W' vL.ownBlock) (hX : c.X < w0.heap.size) : At c w0 W' k ∧ Own W' w0.heap.size 51 zPg ∧ Own W' pb 51 #[vS, vL, .slice none 0 0] ∧ W'.ownsRow w0.heap.size 58 3 vS p.shared.length (dcsL p.shared) :=
  ⟨grown_fr h.run hg (fun r hr => by have := (h.rL.lt r hr).1; exact ⟨this, by omega⟩), own_grown h.res hg (row_apart h.rL h.res rfl), own_grown h.own hg (row_apart h.rL h.own rfl), h.rS.kept hg h.ne⟩
theorem PgI.endS (h : PgI c w0 pb vS vL p W k) {g cap : Nat} {d : List Dc} (hX : c.X < w0.heap.size) (hg : W.grownBy W' vS.ownBlock) (hown : W'.ownsRow w0.heap.size 58 3 (.slice (some ⟨g, 0, none⟩) (p.shared.length + d.length) cap) (p.shared.length + d.length) (dcsL p.shared ++ dcsL d)) (hl : vS.ownBlock = some g ∨ g = W.heap.size) :
    PgI c w0 pb (.slice (some ⟨g, 0, none⟩) (p.shared.length + d.length) cap) vL { p with shared := p.shared ++ d } (W'.setRow pb #[.slice (some ⟨g, 0, none⟩) (p.shared.length + d.length) cap, vL, .slice none 0 0]) k := by
  obtain ⟨h1, h2, h3, h4⟩ := h.grownS hg hX
  have ha := row_apart hown h3 rfl
  refine ⟨h1.setRow (by have := h.ge; omega) (by have := h.ge; omega) _, h.ge, h2.other _ (by have := h.ge; omega), h3.row _, ?_, row_row h4 _ (row_apart h4 h3 rfl), ?_⟩
  · have := row_row hown #[.slice (some ⟨g, 0, none⟩) (p.shared.length + d.length) cap, vL, .slice none 0 0] ha
    simp only [List.length_append, dcsL, List.flatMap_append] at this ⊢
    exact this
  · right
    intro e
    rcases hl with hl | hl
    · rcases h.ne with e' | e'
      · rw [e'] at hl; cases hl
      · exact e' (by rw [hl, ← e]; rfl)
    · have := (h.rL.lt g (by rw [← e]; rfl)).2
      omega
theorem PgI.endL (h : PgI c w0 pb vS vL p W k) {g cap : Nat} {d : List Dc} (hX : c.X < w0.heap.size) (hg : W.grownBy W' vL.ownBlock) (hown : W'.ownsRow w0.heap.size 58 3 (.slice (some ⟨g, 0, none⟩) (p.locks.length + d.length) cap) (p.locks.length + d.length) (dcsL p.locks ++ dcsL d)) (hl : vL.ownBlock = some g ∨ g = W.heap.size) :
    PgI c w0 pb vS (.slice (some ⟨g, 0, none⟩) (p.locks.length + d.length) cap) { p with locks := p.locks ++ d } (W'.setRow pb #[vS, .slice (some ⟨g, 0, none⟩) (p.locks.length + d.length) cap, .slice none 0 0]) k := by
  obtain ⟨h1, h2, h3, h4⟩ := h.grownL hg hX
  have ha := row_apart hown h3 rfl
  refine ⟨h1.setRow (by have := h.ge; omega) (by have := h.ge; omega) _, h.ge, h2.other _ (by have := h.ge; omega), h3.row _, row_row h4 _ (row_apart h4 h3 rfl), ?_, ?_⟩
  · have := row_row hown #[vS, .slice (some ⟨g, 0, none⟩) (p.locks.length + d.length) cap, .slice none 0 0] ha
    simp only [List.length_append, dcsL, List.flatMap_append] at this ⊢
    exact this
  · cases hv : vS.ownBlock with
    | none => exact .inl rfl
    | some b =>
      right
      intro e
      have e : b = g := by simpa [Value.ownBlock] using e
      subst e
      rcases hl with hl | hl
      · rcases h.ne with e' | e'
        · rw [e'] at hv; cases hv
        · exact e' (by rw [hl, hv])
      · have := (h.rS.lt b hv).2
        omega
end
set_option maxRecDepth 100000 in
set_option maxHeartbeats 4000000 in
theorem p_shared {c : Par} {w0 W : World} {pb : Nat} {vS vL : Value} {p : Pg} {k0 k n : Nat} (R : Rd c w0 k0) (hn : (c.at k).length < n) (G : PgI c w0 pb vS vL p W k) (hl : p.shared.length + (c.at k).length ≤ 65536) :
    Calls Tryd.prog 30 #[c.ptr, .pointer (some ⟨pb, 0, none⟩)] W fun e w' => match listP c.L (firstP c.L) n [] (c.at k) with
      | .ok d r => ∃ v' k', e = .returned (.tuple #[]) ∧ PgI c w0 pb v' vL { p with shared := p.shared ++ d } w' k' ∧ r = c.at k'
      | .bad q rl => e = .panicked (flt q rl) ∧ Fr c w0 w' := by
  have HLEN : Hid (∀ l r, listP c.L (firstP c.L) n [] (c.at k) = .ok l r → l.length ≤ (c.at k).length) := fun l r h => by simpa using list_count (fun _ _ _ => firstP_short) h
  have HL : Hid (∀ W, Rd c W k → Calls Tryd.prog 55 #[c.ptr, .func (.func 56) #[c.ptr] #[]] W (RdPost c W (listP c.L (firstP c.L) n [] (c.at k)) (fun l v w' => w'.ownsRow W.heap.size 58 3 v l.length (dcsL l) ∧ l ≠ []))) := fun W RW => p_list_first RW hn
  obtain ⟨Y, hY⟩ : ∃ Y, Y = listP c.L (firstP c.L) n [] (c.at k) := ⟨_, rfl⟩
  rw [← hY] at HL HLEN ⊢
  have HR := Lib.hid R
  have hX := Lib.hid R.lt
  have HG := Lib.hid G
  have HN := Lib.hid hl
  obtain ⟨SH, hSH⟩ : ∃ f : List Dc → Pg, f = fun d => { p with shared := p.shared ++ d } := ⟨_, rfl⟩
  obtain ⟨nl, xl, hrl⟩ : ∃ nl xl, nl = p.shared.length ∧ xl = dcsL p.shared := ⟨_, _, rfl, rfl⟩
  clear hY R G hn hl
  unfold Par.ptr at *
  go_enter Tryd.func30, Tryd.ntmps30
  refine wp_region_held (S := fun _ => True) (by kernel_rfl) ?_
  have G := HG.out.drew
  obtain ⟨W0, hW0⟩ : ∃ W0, W0 = W.drew := ⟨_, rfl⟩
  change wpAnyH _ _ _ _ _ _ _ _ W.drew
  rw [← hW0] at G ⊢
  clear hW0
  refine dr_take 0 (.pointer (some ⟨pb, 0, none⟩)) rfl rfl (by kernel_rfl) (by kernel_rfl) (by kernel_rfl) (fun _ _ _ h => h) (fun _ _ => rfl) trivial ?_
  change wpAnyH _ _ _ _ _ _ _ { tmps := #[.pointer (some ⟨c.X, 0, none⟩), .pointer (some ⟨pb, 0, none⟩), undef, undef, .pointer (some ⟨pb, 0, none⟩), undef, undef, undef, undef, undef, undef, undef, undef, undef, undef, undef], defers := [] } _
  refine dr_take 1 (.pointer (some ⟨pb, 0, none⟩)) rfl rfl (by kernel_rfl) (by kernel_rfl) (by kernel_rfl) (fun _ _ _ h => h) (fun _ _ => rfl) trivial ?_
  change wpAnyH _ _ _ _ _ _ _ { tmps := #[.pointer (some ⟨c.X, 0, none⟩), .pointer (some ⟨pb, 0, none⟩), undef, undef, .pointer (some ⟨pb, 0, none⟩), .pointer (some ⟨pb, 0, none⟩), undef, undef, undef, undef, undef, undef, undef, undef, undef, undef], defers := [] } _
  refine dr_take 2 (.pointer (some ⟨pb, 0, none⟩)) rfl rfl (by kernel_rfl) (by kernel_rfl) (by kernel_rfl) (fun _ _ _ h => h) (fun _ _ => by unfold execOp; go_simp) trivial ?_
  change wpAnyH _ _ _ _ _ _ _ { tmps := #[.pointer (some ⟨c.X, 0, none⟩), .pointer (some ⟨pb, 0, none⟩), undef, undef, .pointer (some ⟨pb, 0, none⟩), .pointer (some ⟨pb, 0, none⟩), .pointer (some ⟨pb, 0, none⟩), undef, undef, undef, undef, undef, undef, undef, undef, undef], defers := [] } _
  refine dr_take 3 (.pointer (some ⟨pb, 0, none⟩)) rfl rfl (by kernel_rfl) (by kernel_rfl) (by kernel_rfl) (fun _ _ _ h => h) (fun _ _ => by unfold execOp; go_simp) trivial ?_
  change wpAnyH _ _ _ _ _ _ _ { tmps := #[.pointer (some ⟨c.X, 0, none⟩), .pointer (some ⟨pb, 0, none⟩), undef, undef, .pointer (some ⟨pb, 0, none⟩), .pointer (some ⟨pb, 0, none⟩), .pointer (some ⟨pb, 0, none⟩), .pointer (some ⟨pb, 0, none⟩), undef, undef, undef, undef, undef, undef, undef, undef], defers := [] } _
  refine dr_take 5 (.pointer (some ⟨c.X, 0, none⟩)) rfl rfl (by kernel_rfl) (by kernel_rfl) (by kernel_rfl) (fun _ _ _ h => h) (fun _ _ => rfl) trivial ?_
  change wpAnyH _ _ _ _ _ _ _ { tmps := #[.pointer (some ⟨c.X, 0, none⟩), .pointer (some ⟨pb, 0, none⟩), undef, undef, .pointer (some ⟨pb, 0, none⟩), .pointer (some ⟨pb, 0, none⟩), .pointer (some ⟨pb, 0, none⟩), .pointer (some ⟨pb, 0, none⟩), undef, .pointer (some ⟨c.X, 0, none⟩), undef, undef, undef, undef, undef, undef], defers := [] } _
  refine dr_take 6 (.pointer (some ⟨c.X, 0, none⟩)) rfl rfl (by kernel_rfl) (by kernel_rfl) (by kernel_rfl) (fun _ _ _ h => h) (fun _ _ => rfl) trivial ?_
  change wpAnyH _ _ _ _ _ _ _ { tmps := #[.pointer (some ⟨c.X, 0, none⟩), .pointer (some ⟨pb, 0, none⟩), undef, undef, .pointer (some ⟨pb, 0, none⟩), .pointer (some ⟨pb, 0, none⟩), .pointer (some ⟨pb, 0, none⟩), .pointer (some ⟨pb, 0, none⟩), undef, .pointer (some ⟨c.X, 0, none⟩), .pointer (some ⟨c.X, 0, none⟩), undef, undef, undef, undef, undef], defers := [] } _
  refine dr_take 7 (.func (.func 56) #[.pointer (some ⟨c.X, 0, none⟩)] #[]) rfl rfl (by kernel_rfl) (by kernel_rfl) (by kernel_rfl) (fun _ _ _ h => h) (fun _ _ => by unfold execOp; go_simp) trivial ?_
  change wpAnyH _ _ _ _ _ _ _ { tmps := #[.pointer (some ⟨c.X, 0, none⟩), .pointer (some ⟨pb, 0, none⟩), undef, undef, .pointer (some ⟨pb, 0, none⟩), .pointer (some ⟨pb, 0, none⟩), .pointer (some ⟨pb, 0, none⟩), .pointer (some ⟨pb, 0, none⟩), undef, .pointer (some ⟨c.X, 0, none⟩), .pointer (some ⟨c.X, 0, none⟩), .func (.func 56) #[.pointer (some ⟨c.X, 0, none⟩)] #[], undef, undef, undef, undef], defers := [] } _
  refine dr_two 4 8 rfl rfl rfl rfl (by kernel_rfl) ?_ ?_
  · refine wp_ld_dcs rfl rfl (G.cell (i := 0) (v := vS) rfl) ⟨trivial, ?_⟩
    change wpAnyH _ _ _ _ _ _ _ { tmps := #[.pointer (some ⟨c.X, 0, none⟩), .pointer (some ⟨pb, 0, none⟩), undef, undef, .pointer (some ⟨pb, 0, none⟩), .pointer (some ⟨pb, 0, none⟩), .pointer (some ⟨pb, 0, none⟩), .pointer (some ⟨pb, 0, none⟩), vS, .pointer (some ⟨c.X, 0, none⟩), .pointer (some ⟨c.X, 0, none⟩), .func (.func 56) #[.pointer (some ⟨c.X, 0, none⟩)] #[], undef, undef, undef, undef], defers := [] } _
    refine dr_one 8 rfl rfl (by kernel_rfl) ?_
    refine wp_call (vs := #[.pointer (some ⟨c.X, 0, none⟩), .func (.func 56) #[.pointer (some ⟨c.X, 0, none⟩)] #[]]) rfl rfl (enters_of Tryd.func55 (by kernel_rfl) rfl) (by simp [Act.eval]) (HL.out _ (G.run.rd HR.out)) ?_
    rintro e w1 ⟨hf1, hm⟩
    rcases Y with ⟨d, r⟩ | ⟨q, rl⟩
    rotate_left
    · obtain rfl := hm
      exact ⟨rfl, rfl, G.run.fr.trans hf1⟩
    obtain ⟨v1, k1, rfl, ⟨hrow1, hd1⟩, hR1, rfl⟩ := hm
    have G1 := G.call hf1 hR1 hX.out
    have hlen := HLEN.out _ _ rfl
    have hz := Keep.size hf1
    obtain ⟨g1, cap1, rfl, hg1, hlt1⟩ := hrow1.form (List.length_pos_iff.2 hd1)
    refine ⟨trivial, ?_⟩
    change wpAnyH _ _ _ _ _ _ _ { tmps := #[.pointer (some ⟨c.X, 0, none⟩), .pointer (some ⟨pb, 0, none⟩), undef, undef, .pointer (some ⟨pb, 0, none⟩), .pointer (some ⟨pb, 0, none⟩), .pointer (some ⟨pb, 0, none⟩), .pointer (some ⟨pb, 0, none⟩), vS, .pointer (some ⟨c.X, 0, none⟩), .pointer (some ⟨c.X, 0, none⟩), .func (.func 56) #[.pointer (some ⟨c.X, 0, none⟩)] #[], .slice (some ⟨g1, 0, none⟩) d.length cap1, undef, undef, undef], defers := [] } _
    refine dr_one 9 rfl rfl (by kernel_rfl) ?_
    obtain ⟨i0, hi, hi0, hi1, hi2⟩ := info_parts infoDc
    refine wp_append_lies w1 _ _ 48 rfl w0.heap.size 58 i0 _ 3 32 Tryd.underlying48 hi hi0 hi1 hi2 rfl (by decide) vS p.shared.length (dcsL p.shared) rfl G1.rS ⟨g1, 0, none⟩ d.length cap1 (dcsL d) rfl (dcsL_len d) (row_news hrow1) (dcsL_cells d) (List.length_pos_iff.2 hd1) (by simp only [maxLen]; have := HN.out; omega) (by have := HN.out; omega) (by have := G1.run.fr.size; omega) _ rfl ?_
    intro g2 cap2 w2 hown2 hgrow2 hlies2 hlt2
    refine ⟨trivial, ?_⟩
    change wpAnyH _ _ _ _ _ _ _ { tmps := #[.pointer (some ⟨c.X, 0, none⟩), .pointer (some ⟨pb, 0, none⟩), undef, undef, .pointer (some ⟨pb, 0, none⟩), .pointer (some ⟨pb, 0, none⟩), .pointer (some ⟨pb, 0, none⟩), .pointer (some ⟨pb, 0, none⟩), vS, .pointer (some ⟨c.X, 0, none⟩), .pointer (some ⟨c.X, 0, none⟩), .func (.func 56) #[.pointer (some ⟨c.X, 0, none⟩)] #[], .slice (some ⟨g1, 0, none⟩) d.length cap1, .slice (some ⟨g2, 0, none⟩) (p.shared.length + d.length) cap2, undef, undef], defers := [] } _
    refine dr_take 10 (.pointer (some ⟨pb, 0, none⟩)) rfl rfl (by kernel_rfl) (by kernel_rfl) (by kernel_rfl) (fun _ _ _ h => h) (fun _ _ => by unfold execOp; go_simp) trivial ?_
    change wpAnyH _ _ _ _ _ _ _ { tmps := #[.pointer (some ⟨c.X, 0, none⟩), .pointer (some ⟨pb, 0, none⟩), undef, undef, .pointer (some ⟨pb, 0, none⟩), .pointer (some ⟨pb, 0, none⟩), .pointer (some ⟨pb, 0, none⟩), .pointer (some ⟨pb, 0, none⟩), vS, .pointer (some ⟨c.X, 0, none⟩), .pointer (some ⟨c.X, 0, none⟩), .func (.func 56) #[.pointer (some ⟨c.X, 0, none⟩)] #[], .slice (some ⟨g1, 0, none⟩) d.length cap1, .slice (some ⟨g2, 0, none⟩) (p.shared.length + d.length) cap2, .pointer (some ⟨pb, 0, none⟩), undef], defers := [] } _
    refine dr_take 11 (.pointer (some ⟨pb, 0, none⟩)) rfl rfl (by kernel_rfl) (by kernel_rfl) (by kernel_rfl) (fun _ _ _ h => h) (fun _ _ => by unfold execOp; go_simp) trivial ?_
    change wpAnyH _ _ _ _ _ _ _ { tmps := #[.pointer (some ⟨c.X, 0, none⟩), .pointer (some ⟨pb, 0, none⟩), undef, undef, .pointer (some ⟨pb, 0, none⟩), .pointer (some ⟨pb, 0, none⟩), .pointer (some ⟨pb, 0, none⟩), .pointer (some ⟨pb, 0, none⟩), vS, .pointer (some ⟨c.X, 0, none⟩), .pointer (some ⟨c.X, 0, none⟩), .func (.func 56) #[.pointer (some ⟨c.X, 0, none⟩)] #[], .slice (some ⟨g1, 0, none⟩) d.length cap1, .slice (some ⟨g2, 0, none⟩) (p.shared.length + d.length) cap2, .pointer (some ⟨pb, 0, none⟩), .pointer (some ⟨pb, 0, none⟩)], defers := [] } _
    refine dr_one 12 rfl rfl (by kernel_rfl) ?_
    have G2 := G1.grownS hgrow2 hX.out
    refine wp_st_dcs rfl rfl rfl (u := vS) (by rw [cell_of_row w2 _ 0 _ _ _ G2.2.2.1]; rfl) (own_frozen G2.2.2.1 0) ⟨trivial, ?_⟩
    refine wpAnyH_done (by kernel_rfl) ?_ _
    go_end0
    rw [setCell_row G2.2.2.1 0 _]
    exact ⟨.slice (some ⟨g2, 0, none⟩) (p.shared.length + d.length) cap2, k1, rfl, G1.endS hX.out hgrow2 hown2 hlies2, rfl⟩
  · skip
    refine wp_call (vs := #[.pointer (some ⟨c.X, 0, none⟩), .func (.func 56) #[.pointer (some ⟨c.X, 0, none⟩)] #[]]) rfl rfl (enters_of Tryd.func55 (by kernel_rfl) rfl) (by simp [Act.eval]) (HL.out _ (G.run.rd HR.out)) ?_
    rintro e w1 ⟨hf1, hm⟩
    rcases Y with ⟨d, r⟩ | ⟨q, rl⟩
    rotate_left
    · obtain rfl := hm
      exact ⟨rfl, rfl, G.run.fr.trans hf1⟩
    obtain ⟨v1, k1, rfl, ⟨hrow1, hd1⟩, hR1, rfl⟩ := hm
    have G1 := G.call hf1 hR1 hX.out
    have hlen := HLEN.out _ _ rfl
    have hz := Keep.size hf1
    obtain ⟨g1, cap1, rfl, hg1, hlt1⟩ := hrow1.form (List.length_pos_iff.2 hd1)
    refine ⟨trivial, ?_⟩
    change wpAnyH _ _ _ _ _ _ _ { tmps := #[.pointer (some ⟨c.X, 0, none⟩), .pointer (some ⟨pb, 0, none⟩), undef, undef, .pointer (some ⟨pb, 0, none⟩), .pointer (some ⟨pb, 0, none⟩), .pointer (some ⟨pb, 0, none⟩), .pointer (some ⟨pb, 0, none⟩), undef, .pointer (some ⟨c.X, 0, none⟩), .pointer (some ⟨c.X, 0, none⟩), .func (.func 56) #[.pointer (some ⟨c.X, 0, none⟩)] #[], .slice (some ⟨g1, 0, none⟩) d.length cap1, undef, undef, undef], defers := [] } _
    refine dr_one 4 rfl rfl (by kernel_rfl) ?_
    refine wp_ld_dcs rfl rfl (G1.cell (i := 0) (v := vS) rfl) ⟨trivial, ?_⟩
    change wpAnyH _ _ _ _ _ _ _ { tmps := #[.pointer (some ⟨c.X, 0, none⟩), .pointer (some ⟨pb, 0, none⟩), undef, undef, .pointer (some ⟨pb, 0, none⟩), .pointer (some ⟨pb, 0, none⟩), .pointer (some ⟨pb, 0, none⟩), .pointer (some ⟨pb, 0, none⟩), vS, .pointer (some ⟨c.X, 0, none⟩), .pointer (some ⟨c.X, 0, none⟩), .func (.func 56) #[.pointer (some ⟨c.X, 0, none⟩)] #[], .slice (some ⟨g1, 0, none⟩) d.length cap1, undef, undef, undef], defers := [] } _
    refine dr_one 9 rfl rfl (by kernel_rfl) ?_
    obtain ⟨i0, hi, hi0, hi1, hi2⟩ := info_parts infoDc
    refine wp_append_lies w1 _ _ 48 rfl w0.heap.size 58 i0 _ 3 32 Tryd.underlying48 hi hi0 hi1 hi2 rfl (by decide) vS p.shared.length (dcsL p.shared) rfl G1.rS ⟨g1, 0, none⟩ d.length cap1 (dcsL d) rfl (dcsL_len d) (row_news hrow1) (dcsL_cells d) (List.length_pos_iff.2 hd1) (by simp only [maxLen]; have := HN.out; omega) (by have := HN.out; omega) (by have := G1.run.fr.size; omega) _ rfl ?_
    intro g2 cap2 w2 hown2 hgrow2 hlies2 hlt2
    refine ⟨trivial, ?_⟩
    change wpAnyH _ _ _ _ _ _ _ { tmps := #[.pointer (some ⟨c.X, 0, none⟩), .pointer (some ⟨pb, 0, none⟩), undef, undef, .pointer (some ⟨pb, 0, none⟩), .pointer (some ⟨pb, 0, none⟩), .pointer (some ⟨pb, 0, none⟩), .pointer (some ⟨pb, 0, none⟩), vS, .pointer (some ⟨c.X, 0, none⟩), .pointer (some ⟨c.X, 0, none⟩), .func (.func 56) #[.pointer (some ⟨c.X, 0, none⟩)] #[], .slice (some ⟨g1, 0, none⟩) d.length cap1, .slice (some ⟨g2, 0, none⟩) (p.shared.length + d.length) cap2, undef, undef], defers := [] } _
    refine dr_take 10 (.pointer (some ⟨pb, 0, none⟩)) rfl rfl (by kernel_rfl) (by kernel_rfl) (by kernel_rfl) (fun _ _ _ h => h) (fun _ _ => by unfold execOp; go_simp) trivial ?_
    change wpAnyH _ _ _ _ _ _ _ { tmps := #[.pointer (some ⟨c.X, 0, none⟩), .pointer (some ⟨pb, 0, none⟩), undef, undef, .pointer (some ⟨pb, 0, none⟩), .pointer (some ⟨pb, 0, none⟩), .pointer (some ⟨pb, 0, none⟩), .pointer (some ⟨pb, 0, none⟩), vS, .pointer (some ⟨c.X, 0, none⟩), .pointer (some ⟨c.X, 0, none⟩), .func (.func 56) #[.pointer (some ⟨c.X, 0, none⟩)] #[], .slice (some ⟨g1, 0, none⟩) d.length cap1, .slice (some ⟨g2, 0, none⟩) (p.shared.length + d.length) cap2, .pointer (some ⟨pb, 0, none⟩), undef], defers := [] } _
    refine dr_take 11 (.pointer (some ⟨pb, 0, none⟩)) rfl rfl (by kernel_rfl) (by kernel_rfl) (by kernel_rfl) (fun _ _ _ h => h) (fun _ _ => by unfold execOp; go_simp) trivial ?_
    change wpAnyH _ _ _ _ _ _ _ { tmps := #[.pointer (some ⟨c.X, 0, none⟩), .pointer (some ⟨pb, 0, none⟩), undef, undef, .pointer (some ⟨pb, 0, none⟩), .pointer (some ⟨pb, 0, none⟩), .pointer (some ⟨pb, 0, none⟩), .pointer (some ⟨pb, 0, none⟩), vS, .pointer (some ⟨c.X, 0, none⟩), .pointer (some ⟨c.X, 0, none⟩), .func (.func 56) #[.pointer (some ⟨c.X, 0, none⟩)] #[], .slice (some ⟨g1, 0, none⟩) d.length cap1, .slice (some ⟨g2, 0, none⟩) (p.shared.length + d.length) cap2, .pointer (some ⟨pb, 0, none⟩), .pointer (some ⟨pb, 0, none⟩)], defers := [] } _
    refine dr_one 12 rfl rfl (by kernel_rfl) ?_
    have G2 := G1.grownS hgrow2 hX.out
    refine wp_st_dcs rfl rfl rfl (u := vS) (by rw [cell_of_row w2 _ 0 _ _ _ G2.2.2.1]; rfl) (own_frozen G2.2.2.1 0) ⟨trivial, ?_⟩
    refine wpAnyH_done (by kernel_rfl) ?_ _
    go_end0
    rw [setCell_row G2.2.2.1 0 _]
    exact ⟨.slice (some ⟨g2, 0, none⟩) (p.shared.length + d.length) cap2, k1, rfl, G1.endS hX.out hgrow2 hown2 hlies2, rfl⟩
set_option maxRecDepth 100000 in
set_option maxHeartbeats 4000000 in
theorem p_locks {c : Par} {w0 W : World} {pb : Nat} {vS vL : Value} {p : Pg} {k0 k n : Nat} (R : Rd c w0 k0) (hn : (c.at k).length < n) (G : PgI c w0 pb vS vL p W k) (hl : p.locks.length + (c.at k).length ≤ 65536) :
    Calls Tryd.prog 31 #[c.ptr, .pointer (some ⟨pb, 0, none⟩)] W fun e w' => match listP c.L (nameP c.L) n [] (c.at k) with
      | .ok d r => ∃ v' k', e = .returned (.tuple #[]) ∧ PgI c w0 pb vS v' { p with locks := p.locks ++ d } w' k' ∧ r = c.at k'
      | .bad q rl => e = .panicked (flt q rl) ∧ Fr c w0 w' := by
  have HLEN : Hid (∀ l r, listP c.L (nameP c.L) n [] (c.at k) = .ok l r → l.length ≤ (c.at k).length) := fun l r h => by simpa using list_count (fun _ _ _ => nameP_short) h
  have HL : Hid (∀ W, Rd c W k → Calls Tryd.prog 55 #[c.ptr, .func (.func 57) #[c.ptr] #[]] W (RdPost c W (listP c.L (nameP c.L) n [] (c.at k)) (fun l v w' => w'.ownsRow W.heap.size 58 3 v l.length (dcsL l) ∧ l ≠ []))) := fun W RW => p_list_name RW hn
  obtain ⟨Y, hY⟩ : ∃ Y, Y = listP c.L (nameP c.L) n [] (c.at k) := ⟨_, rfl⟩
  rw [← hY] at HL HLEN ⊢
  have HR := Lib.hid R
  have hX := Lib.hid R.lt
  have HG := Lib.hid G
  have HN := Lib.hid hl
  obtain ⟨SH, hSH⟩ : ∃ f : List Dc → Pg, f = fun d => { p with locks := p.locks ++ d } := ⟨_, rfl⟩
  obtain ⟨nl, xl, hrl⟩ : ∃ nl xl, nl = p.locks.length ∧ xl = dcsL p.locks := ⟨_, _, rfl, rfl⟩
  clear hY R G hn hl
  unfold Par.ptr at *
  go_enter Tryd.func31, Tryd.ntmps31
  refine wp_region_held (S := fun _ => True) (by kernel_rfl) ?_
  have G := HG.out.drew
  obtain ⟨W0, hW0⟩ : ∃ W0, W0 = W.drew := ⟨_, rfl⟩
  change wpAnyH _ _ _ _ _ _ _ _ W.drew
  rw [← hW0] at G ⊢
  clear hW0
  refine dr_take 0 (.pointer (some ⟨pb, 0, none⟩)) rfl rfl (by kernel_rfl) (by kernel_rfl) (by kernel_rfl) (fun _ _ _ h => h) (fun _ _ => rfl) trivial ?_
  change wpAnyH _ _ _ _ _ _ _ { tmps := #[.pointer (some ⟨c.X, 0, none⟩), .pointer (some ⟨pb, 0, none⟩), undef, undef, .pointer (some ⟨pb, 0, none⟩), undef, undef, undef, undef, undef, undef, undef, undef, undef, undef, undef], defers := [] } _
  refine dr_take 1 (.pointer (some ⟨pb, 0, none⟩)) rfl rfl (by kernel_rfl) (by kernel_rfl) (by kernel_rfl) (fun _ _ _ h => h) (fun _ _ => rfl) trivial ?_
  change wpAnyH _ _ _ _ _ _ _ { tmps := #[.pointer (some ⟨c.X, 0, none⟩), .pointer (some ⟨pb, 0, none⟩), undef, undef, .pointer (some ⟨pb, 0, none⟩), .pointer (some ⟨pb, 0, none⟩), undef, undef, undef, undef, undef, undef, undef, undef, undef, undef], defers := [] } _
  refine dr_take 2 (.pointer (some ⟨pb, 0, none⟩)) rfl rfl (by kernel_rfl) (by kernel_rfl) (by kernel_rfl) (fun _ _ _ h => h) (fun _ _ => by unfold execOp; go_simp) trivial ?_
  change wpAnyH _ _ _ _ _ _ _ { tmps := #[.pointer (some ⟨c.X, 0, none⟩), .pointer (some ⟨pb, 0, none⟩), undef, undef, .pointer (some ⟨pb, 0, none⟩), .pointer (some ⟨pb, 0, none⟩), .pointer (some ⟨pb, 0, none⟩), undef, undef, undef, undef, undef, undef, undef, undef, undef], defers := [] } _
  refine dr_take 3 (.pointer (some ⟨pb, 1, none⟩)) rfl rfl (by kernel_rfl) (by kernel_rfl) (by kernel_rfl) (fun _ _ _ h => h) (fun _ _ => by unfold execOp; go_simp) trivial ?_
  change wpAnyH _ _ _ _ _ _ _ { tmps := #[.pointer (some ⟨c.X, 0, none⟩), .pointer (some ⟨pb, 0, none⟩), undef, undef, .pointer (some ⟨pb, 0, none⟩), .pointer (some ⟨pb, 0, none⟩), .pointer (some ⟨pb, 0, none⟩), .pointer (some ⟨pb, 1, none⟩), undef, undef, undef, undef, undef, undef, undef, undef], defers := [] } _
  refine dr_take 5 (.pointer (some ⟨c.X, 0, none⟩)) rfl rfl (by kernel_rfl) (by kernel_rfl) (by kernel_rfl) (fun _ _ _ h => h) (fun _ _ => rfl) trivial ?_
  change wpAnyH _ _ _ _ _ _ _ { tmps := #[.pointer (some ⟨c.X, 0, none⟩), .pointer (some ⟨pb, 0, none⟩), undef, undef, .pointer (some ⟨pb, 0, none⟩), .pointer (some ⟨pb, 0, none⟩), .pointer (some ⟨pb, 0, none⟩), .pointer (some ⟨pb, 1, none⟩), undef, .pointer (some ⟨c.X, 0, none⟩), undef, undef, undef, undef, undef, undef], defers := [] } _
  refine dr_take 6 (.pointer (some ⟨c.X, 0, none⟩)) rfl rfl (by kernel_rfl) (by kernel_rfl) (by kernel_rfl) (fun _ _ _ h => h) (fun _ _ => rfl) trivial ?_
  change wpAnyH _ _ _ _ _ _ _ { tmps := #[.pointer (some ⟨c.X, 0, none⟩), .pointer (some ⟨pb, 0, none⟩), undef, undef, .pointer (some ⟨pb, 0, none⟩), .pointer (some ⟨pb, 0, none⟩), .pointer (some ⟨pb, 0, none⟩), .pointer (some ⟨pb, 1, none⟩), undef, .pointer (some ⟨c.X, 0, none⟩), .pointer (some ⟨c.X, 0, none⟩), undef, undef, undef, undef, undef], defers := [] } _
  refine dr_take 7 (.func (.func 57) #[.pointer (some ⟨c.X, 0, none⟩)] #[]) rfl rfl (by kernel_rfl) (by kernel_rfl) (by kernel_rfl) (fun _ _ _ h => h) (fun _ _ => by unfold execOp; go_simp) trivial ?_
  change wpAnyH _ _ _ _ _ _ _ { tmps := #[.pointer (some ⟨c.X, 0, none⟩), .pointer (some ⟨pb, 0, none⟩), undef, undef, .pointer (some ⟨pb, 0, none⟩), .pointer (some ⟨pb, 0, none⟩), .pointer (some ⟨pb, 0, none⟩), .pointer (some ⟨pb, 1, none⟩), undef, .pointer (some ⟨c.X, 0, none⟩), .pointer (some ⟨c.X, 0, none⟩), .func (.func 57) #[.pointer (some ⟨c.X, 0, none⟩)] #[], undef, undef, undef, undef], defers := [] } _
  refine dr_two 4 8 rfl rfl rfl rfl (by kernel_rfl) ?_ ?_
  · refine wp_ld_dcs rfl rfl (G.cell (i := 1) (v := vL) rfl) ⟨trivial, ?_⟩
    change wpAnyH _ _ _ _ _ _ _ { tmps := #[.pointer (some ⟨c.X, 0, none⟩), .pointer (some ⟨pb, 0, none⟩), undef, undef, .pointer (some ⟨pb, 0, none⟩), .pointer (some ⟨pb, 0, none⟩), .pointer (some ⟨pb, 0, none⟩), .pointer (some ⟨pb, 1, none⟩), vL, .pointer (some ⟨c.X, 0, none⟩), .pointer (some ⟨c.X, 0, none⟩), .func (.func 57) #[.pointer (some ⟨c.X, 0, none⟩)] #[], undef, undef, undef, undef], defers := [] } _
    refine dr_one 8 rfl rfl (by kernel_rfl) ?_
    refine wp_call (vs := #[.pointer (some ⟨c.X, 0, none⟩), .func (.func 57) #[.pointer (some ⟨c.X, 0, none⟩)] #[]]) rfl rfl (enters_of Tryd.func55 (by kernel_rfl) rfl) (by simp [Act.eval]) (HL.out _ (G.run.rd HR.out)) ?_
    rintro e w1 ⟨hf1, hm⟩
    rcases Y with ⟨d, r⟩ | ⟨q, rl⟩
    rotate_left
    · obtain rfl := hm
      exact ⟨rfl, rfl, G.run.fr.trans hf1⟩
    obtain ⟨v1, k1, rfl, ⟨hrow1, hd1⟩, hR1, rfl⟩ := hm
    have G1 := G.call hf1 hR1 hX.out
    have hlen := HLEN.out _ _ rfl
    have hz := Keep.size hf1
    obtain ⟨g1, cap1, rfl, hg1, hlt1⟩ := hrow1.form (List.length_pos_iff.2 hd1)
    refine ⟨trivial, ?_⟩
    change wpAnyH _ _ _ _ _ _ _ { tmps := #[.pointer (some ⟨c.X, 0, none⟩), .pointer (some ⟨pb, 0, none⟩), undef, undef, .pointer (some ⟨pb, 0, none⟩), .pointer (some ⟨pb, 0, none⟩), .pointer (some ⟨pb, 0, none⟩), .pointer (some ⟨pb, 1, none⟩), vL, .pointer (some ⟨c.X, 0, none⟩), .pointer (some ⟨c.X, 0, none⟩), .func (.func 57) #[.pointer (some ⟨c.X, 0, none⟩)] #[], .slice (some ⟨g1, 0, none⟩) d.length cap1, undef, undef, undef], defers := [] } _
    refine dr_one 9 rfl rfl (by kernel_rfl) ?_
    obtain ⟨i0, hi, hi0, hi1, hi2⟩ := info_parts infoDc
    refine wp_append_lies w1 _ _ 48 rfl w0.heap.size 58 i0 _ 3 32 Tryd.underlying48 hi hi0 hi1 hi2 rfl (by decide) vL p.locks.length (dcsL p.locks) rfl G1.rL ⟨g1, 0, none⟩ d.length cap1 (dcsL d) rfl (dcsL_len d) (row_news hrow1) (dcsL_cells d) (List.length_pos_iff.2 hd1) (by simp only [maxLen]; have := HN.out; omega) (by have := HN.out; omega) (by have := G1.run.fr.size; omega) _ rfl ?_
    intro g2 cap2 w2 hown2 hgrow2 hlies2 hlt2
    refine ⟨trivial, ?_⟩
    change wpAnyH _ _ _ _ _ _ _ { tmps := #[.pointer (some ⟨c.X, 0, none⟩), .pointer (some ⟨pb, 0, none⟩), undef, undef, .pointer (some ⟨pb, 0, none⟩), .pointer (some ⟨pb, 0, none⟩), .pointer (some ⟨pb, 0, none⟩), .pointer (some ⟨pb, 1, none⟩), vL, .pointer (some ⟨c.X, 0, none⟩), .pointer (some ⟨c.X, 0, none⟩), .func (.func 57) #[.pointer (some ⟨c.X, 0, none⟩)] #[], .slice (some ⟨g1, 0, none⟩) d.length cap1, .slice (some ⟨g2, 0, none⟩) (p.locks.length + d.length) cap2, undef, undef], defers := [] } _
    refine dr_take 10 (.pointer (some ⟨pb, 0, none⟩)) rfl rfl (by kernel_rfl) (by kernel_rfl) (by kernel_rfl) (fun _ _ _ h => h) (fun _ _ => by unfold execOp; go_simp) trivial ?_
    change wpAnyH _ _ _ _ _ _ _ { tmps := #[.pointer (some ⟨c.X, 0, none⟩), .pointer (some ⟨pb, 0, none⟩), undef, undef, .pointer (some ⟨pb, 0, none⟩), .pointer (some ⟨pb, 0, none⟩), .pointer (some ⟨pb, 0, none⟩), .pointer (some ⟨pb, 1, none⟩), vL, .pointer (some ⟨c.X, 0, none⟩), .pointer (some ⟨c.X, 0, none⟩), .func (.func 57) #[.pointer (some ⟨c.X, 0, none⟩)] #[], .slice (some ⟨g1, 0, none⟩) d.length cap1, .slice (some ⟨g2, 0, none⟩) (p.locks.length + d.length) cap2, .pointer (some ⟨pb, 0, none⟩), undef], defers := [] } _
    refine dr_take 11 (.pointer (some ⟨pb, 1, none⟩)) rfl rfl (by kernel_rfl) (by kernel_rfl) (by kernel_rfl) (fun _ _ _ h => h) (fun _ _ => by unfold execOp; go_simp) trivial ?_
    change wpAnyH _ _ _ _ _ _ _ { tmps := #[.pointer (some ⟨c.X, 0, none⟩), .pointer (some ⟨pb, 0, none⟩), undef, undef, .pointer (some ⟨pb, 0, none⟩), .pointer (some ⟨pb, 0, none⟩), .pointer (some ⟨pb, 0, none⟩), .pointer (some ⟨pb, 1, none⟩), vL, .pointer (some ⟨c.X, 0, none⟩), .pointer (some ⟨c.X, 0, none⟩), .func (.func 57) #[.pointer (some ⟨c.X, 0, none⟩)] #[], .slice (some ⟨g1, 0, none⟩) d.length cap1, .slice (some ⟨g2, 0, none⟩) (p.locks.length + d.length) cap2, .pointer (some ⟨pb, 0, none⟩), .pointer (some ⟨pb, 1, none⟩)], defers := [] } _
    refine dr_one 12 rfl rfl (by kernel_rfl) ?_
    have G2 := G1.grownL hgrow2 hX.out
    refine wp_st_dcs rfl rfl rfl (u := vL) (by rw [cell_of_row w2 _ 1 _ _ _ G2.2.2.1]; rfl) (own_frozen G2.2.2.1 1) ⟨trivial, ?_⟩
    refine wpAnyH_done (by kernel_rfl) ?_ _
    go_end0
    rw [setCell_row G2.2.2.1 1 _]
    exact ⟨.slice (some ⟨g2, 0, none⟩) (p.locks.length + d.length) cap2, k1, rfl, G1.endL hX.out hgrow2 hown2 hlies2, rfl⟩
  · skip
    refine wp_call (vs := #[.pointer (some ⟨c.X, 0, none⟩), .func (.func 57) #[.pointer (some ⟨c.X, 0, none⟩)] #[]]) rfl rfl (enters_of Tryd.func55 (by kernel_rfl) rfl) (by simp [Act.eval]) (HL.out _ (G.run.rd HR.out)) ?_
    rintro e w1 ⟨hf1, hm⟩
    rcases Y with ⟨d, r⟩ | ⟨q, rl⟩
    rotate_left
    · obtain rfl := hm
      exact ⟨rfl, rfl, G.run.fr.trans hf1⟩
    obtain ⟨v1, k1, rfl, ⟨hrow1, hd1⟩, hR1, rfl⟩ := hm
    have G1 := G.call hf1 hR1 hX.out
    have hlen := HLEN.out _ _ rfl
    have hz := Keep.size hf1
    obtain ⟨g1, cap1, rfl, hg1, hlt1⟩ := hrow1.form (List.length_pos_iff.2 hd1)
    refine ⟨trivial, ?_⟩
    change wpAnyH _ _ _ _ _ _ _ { tmps := #[.pointer (some ⟨c.X, 0, none⟩), .pointer (some ⟨pb, 0, none⟩), undef, undef, .pointer (some ⟨pb, 0, none⟩), .pointer (some ⟨pb, 0, none⟩), .pointer (some ⟨pb, 0, none⟩), .pointer (some ⟨pb, 1, none⟩), undef, .pointer (some ⟨c.X, 0, none⟩), .pointer (some ⟨c.X, 0, none⟩), .func (.func 57) #[.pointer (some ⟨c.X, 0, none⟩)] #[], .slice (some ⟨g1, 0, none⟩) d.length cap1, undef, undef, undef], defers := [] } _
    refine dr_one 4 rfl rfl (by kernel_rfl) ?_
    refine wp_ld_dcs rfl rfl (G1.cell (i := 1) (v := vL) rfl) ⟨trivial, ?_⟩
    change wpAnyH _ _ _ _ _ _ _ { tmps := #[.pointer (some ⟨c.X, 0, none⟩), .pointer (some ⟨pb, 0, none⟩), undef, undef, .pointer (some ⟨pb, 0, none⟩), .pointer (some ⟨pb, 0, none⟩), .pointer (some ⟨pb, 0, none⟩), .pointer (some ⟨pb, 1, none⟩), vL, .pointer (some ⟨c.X, 0, none⟩), .pointer (some ⟨c.X, 0, none⟩), .func (.func 57) #[.pointer (some ⟨c.X, 0, none⟩)] #[], .slice (some ⟨g1, 0, none⟩) d.length cap1, undef, undef, undef], defers := [] } _
    refine dr_one 9 rfl rfl (by kernel_rfl) ?_
    obtain ⟨i0, hi, hi0, hi1, hi2⟩ := info_parts infoDc
    refine wp_append_lies w1 _ _ 48 rfl w0.heap.size 58 i0 _ 3 32 Tryd.underlying48 hi hi0 hi1 hi2 rfl (by decide) vL p.locks.length (dcsL p.locks) rfl G1.rL ⟨g1, 0, none⟩ d.length cap1 (dcsL d) rfl (dcsL_len d) (row_news hrow1) (dcsL_cells d) (List.length_pos_iff.2 hd1) (by simp only [maxLen]; have := HN.out; omega) (by have := HN.out; omega) (by have := G1.run.fr.size; omega) _ rfl ?_
    intro g2 cap2 w2 hown2 hgrow2 hlies2 hlt2
    refine ⟨trivial, ?_⟩
    change wpAnyH _ _ _ _ _ _ _ { tmps := #[.pointer (some ⟨c.X, 0, none⟩), .pointer (some ⟨pb, 0, none⟩), undef, undef, .pointer (some ⟨pb, 0, none⟩), .pointer (some ⟨pb, 0, none⟩), .pointer (some ⟨pb, 0, none⟩), .pointer (some ⟨pb, 1, none⟩), vL, .pointer (some ⟨c.X, 0, none⟩), .pointer (some ⟨c.X, 0, none⟩), .func (.func 57) #[.pointer (some ⟨c.X, 0, none⟩)] #[], .slice (some ⟨g1, 0, none⟩) d.length cap1, .slice (some ⟨g2, 0, none⟩) (p.locks.length + d.length) cap2, undef, undef], defers := [] } _
    refine dr_take 10 (.pointer (some ⟨pb, 0, none⟩)) rfl rfl (by kernel_rfl) (by kernel_rfl) (by kernel_rfl) (fun _ _ _ h => h) (fun _ _ => by unfold execOp; go_simp) trivial ?_
    change wpAnyH _ _ _ _ _ _ _ { tmps := #[.pointer (some ⟨c.X, 0, none⟩), .pointer (some ⟨pb, 0, none⟩), undef, undef, .pointer (some ⟨pb, 0, none⟩), .pointer (some ⟨pb, 0, none⟩), .pointer (some ⟨pb, 0, none⟩), .pointer (some ⟨pb, 1, none⟩), vL, .pointer (some ⟨c.X, 0, none⟩), .pointer (some ⟨c.X, 0, none⟩), .func (.func 57) #[.pointer (some ⟨c.X, 0, none⟩)] #[], .slice (some ⟨g1, 0, none⟩) d.length cap1, .slice (some ⟨g2, 0, none⟩) (p.locks.length + d.length) cap2, .pointer (some ⟨pb, 0, none⟩), undef], defers := [] } _
    refine dr_take 11 (.pointer (some ⟨pb, 1, none⟩)) rfl rfl (by kernel_rfl) (by kernel_rfl) (by kernel_rfl) (fun _ _ _ h => h) (fun _ _ => by unfold execOp; go_simp) trivial ?_
    change wpAnyH _ _ _ _ _ _ _ { tmps := #[.pointer (some ⟨c.X, 0, none⟩), .pointer (some ⟨pb, 0, none⟩), undef, undef, .pointer (some ⟨pb, 0, none⟩), .pointer (some ⟨pb, 0, none⟩), .pointer (some ⟨pb, 0, none⟩), .pointer (some ⟨pb, 1, none⟩), vL, .pointer (some ⟨c.X, 0, none⟩), .pointer (some ⟨c.X, 0, none⟩), .func (.func 57) #[.pointer (some ⟨c.X, 0, none⟩)] #[], .slice (some ⟨g1, 0, none⟩) d.length cap1, .slice (some ⟨g2, 0, none⟩) (p.locks.length + d.length) cap2, .pointer (some ⟨pb, 0, none⟩), .pointer (some ⟨pb, 1, none⟩)], defers := [] } _
    refine dr_one 12 rfl rfl (by kernel_rfl) ?_
    have G2 := G1.grownL hgrow2 hX.out
    refine wp_st_dcs rfl rfl rfl (u := vL) (by rw [cell_of_row w2 _ 1 _ _ _ G2.2.2.1]; rfl) (own_frozen G2.2.2.1 1) ⟨trivial, ?_⟩
    refine wpAnyH_done (by kernel_rfl) ?_ _
    go_end0
    rw [setCell_row G2.2.2.1 1 _]
    exact ⟨.slice (some ⟨g2, 0, none⟩) (p.locks.length + d.length) cap2, k1, rfl, G1.endL hX.out hgrow2 hown2 hlies2, rfl⟩
end Go.Proofs.YtgaibdipecngkaaDoor

namespace Go.Proofs.YtgaibdipecngkaaDoor
open Go.RowKit
set_option linter.unusedVariables false
/-- A thread, as a value. -/
def thR (n : Nat) (t : Th) (v : Value) (W : World) : Prop := ∃ a1 c1 a2 c2, v = .agg #[.string t.name, .slice a1 t.locals.length c1, .slice a2 t.body.length c2, .int .i64 t.pos] ∧ dcsAt (fun b => n ≤ b) W t.locals a1 ∧ stsAt (fun b => n ≤ b) W t.body a2
/-- While locals are read: the thread's block and its locals. -/
structure ThI (c : Par) (w0 : World) (tb : Nat) (nm : ByteArray) (p : Int) (vL : Value) (l : List Dc) (W : World) (k : Nat) : Prop where
  run : At c w0 W k
  ge : w0.heap.size < tb
  res : Own W w0.heap.size 56 zTh
  own : Own W tb 56 #[.string nm, vL, .slice none 0 0, .int .i64 p]
  row : W.ownsRow w0.heap.size 58 3 vL l.length (dcsL l)
section
variable {c : Par} {w0 W W' : World} {tb : Nat} {nm : ByteArray} {p : Int} {vL : Value} {l : List Dc} {k k2 : Nat}
theorem ThI.call (h : ThI c w0 tb nm p vL l W k) (hf : Fr c W W') (hp : Rd c W' k2) (hX : c.X < w0.heap.size) : ThI c w0 tb nm p vL l W' k2 :=
  ⟨h.run.call hf hp, h.ge, h.res.fr hf (by omega), h.own.fr hf (by have := h.ge; omega), row_fr h.row hf hX⟩
theorem ThI.cell (h : ThI c w0 tb nm p vL l W k) {i : Nat} {v : Value} (hv : (#[.string nm, vL, .slice none 0 0, .int .i64 p] : Array Value)[i]? = some v) : W.cell? ⟨tb, i, none⟩ = some v := by rw [cell_of_row W _ i _ _ _ h.own]; exact hv
theorem ThI.drew (h : ThI c w0 tb nm p vL l W k) : ThI c w0 tb nm p vL l W.drew k := ⟨h.run.drew, h.ge, h.res, h.own, h.row⟩
theorem ThI.grown (h : ThI c w0 tb nm p vL l W k) (hg : W.grownBy W' vL.ownBlock) (hX : c.X < w0.heap.size) : At c w0 W' k ∧ Own W' w0.heap.size 56 zTh ∧ Own W' tb 56 #[.string nm, vL, .slice none 0 0, .int .i64 p] :=
  ⟨grown_fr h.run hg (fun r hr => by have := (h.row.lt r hr).1; exact ⟨this, by omega⟩), own_grown h.res hg (row_apart h.row h.res rfl), own_grown h.own hg (row_apart h.row h.own rfl)⟩
theorem ThI.end_ (h : ThI c w0 tb nm p vL l W k) {g cap : Nat} {d : List Dc} (hX : c.X < w0.heap.size) (hg : W.grownBy W' vL.ownBlock) (hown : W'.ownsRow w0.heap.size 58 3 (.slice (some ⟨g, 0, none⟩) (l.length + d.length) cap) (l.length + d.length) (dcsL l ++ dcsL d)) :
    ThI c w0 tb nm p (.slice (some ⟨g, 0, none⟩) (l.length + d.length) cap) (l ++ d) (W'.setRow tb #[.string nm, .slice (some ⟨g, 0, none⟩) (l.length + d.length) cap, .slice none 0 0, .int .i64 p]) k := by
  obtain ⟨h1, h2, h3⟩ := h.grown hg hX
  have ha := row_apart hown h3 rfl
  refine ⟨h1.setRow (by have := h.ge; omega) (by have := h.ge; omega) _, h.ge, h2.other _ (by have := h.ge; omega), h3.row _, ?_⟩
  have := row_row hown #[.string nm, .slice (some ⟨g, 0, none⟩) (l.length + d.length) cap, .slice none 0 0, .int .i64 p] ha
  simp only [List.length_append, dcsL, List.flatMap_append] at this ⊢
  exact this
end
theorem list_both {L : Int} {one : List Tk → PR Dc} (ho : ∀ ts d r, one ts = .ok d r → r.length < ts.length) : ∀ {n : Nat} {acc : List Dc} {ts : List Tk} {l : List Dc} {r : List Tk}, listP L one n acc ts = .ok l r → l.length + r.length ≤ acc.length + ts.length
  | 0, acc, ts, l, r, h => by simp [listP] at h
  | n + 1, acc, ts, l, r, h => by
    simp only [listP] at h
    obtain ⟨a, b, h1, h2⟩ := PR.then_eq_ok h
    have k := ho _ _ _ h1
    split at h2
    · have := list_both ho h2
      rw [List.length_append, List.length_tail] at this
      simp at this
      omega
    · obtain ⟨u, c, h3, h4⟩ := PR.then_eq_ok h2
      cases h4
      have := (need_ok h3).2.2
      rw [List.length_append]
      simp
      omega
/-- What holds at the head of a round of locals. -/
def LocI (c : Par) (w : World) (tb : Nat) (nm : ByteArray) (p : Int) (Y : PR (List Dc)) (m : Nat) (W : World) : Prop :=
  ∃ (j : Nat) (l : List Dc) (vL : Value), ThI c w tb nm p vL l W j ∧ localsP c.L m l (c.at j) = Y ∧ (c.at j).length < m ∧ l.length + (c.at j).length ≤ 65536
set_option maxRecDepth 100000 in
set_option maxHeartbeats 4000000 in
theorem p_thread {c : Par} {w : World} {k n : Nat} (R : Rd c w k) (hn : 3 * (c.at k).length + 2 ≤ n) :
    Calls Tryd.prog 51 #[c.ptr] w (RdPost c w (threadP fnd c.L n (c.at k)) (fun t v w' => thR w.heap.size t v w')) := by
  obtain ⟨Y, hY⟩ : ∃ Y, Y = threadP fnd c.L n (c.at k) := ⟨_, rfl⟩
  obtain ⟨Y1, hY1⟩ : ∃ Y1, Y1 = nameP c.L (c.at k) := ⟨_, rfl⟩
  have HS : Hid (Y = Y1.then fun d r => (openP c.L 1 r).then fun _ r => (localsP c.L n [] r).then fun l r => (restP fnd c.L n 1 [] r).then fun b r => .ok ⟨d.name, l, b, d.pos⟩ r) := by rw [Hid, hY, hY1]; rfl
  have HC1 : Hid (∀ W, Rd c W k → Calls Tryd.prog 57 #[c.ptr] W (RdPost c W Y1 (fun d v _ => v = dcVal d))) := fun W RW => by rw [hY1]; exact p_name RW
  have HL1 : Hid (∀ d r, Y1 = .ok d r → r.length < (c.at k).length) := fun d r h => nameP_short (hY1.symm.trans h)
  have hl0 : (c.at k).length ≤ 65536 := by rw [Par.at_len]; have := R.s.small.1; omega
  rw [← hY]
  have HP : Hid (∀ W j (s : ByteArray), Rd c W j → s.data.toList ≠ [] → Calls Tryd.prog 50 #[c.ptr, .string s] W fun e w' => e = .returned (.bool (isT s.data.toList (c.at j))) ∧ Fr c W w' ∧ Rd c w' (if isT s.data.toList (c.at j) = true then j + 1 else j)) := fun W j s RW hs => p_pass RW s hs
  have HO : Hid (∀ W j, Rd c W j → Calls Tryd.prog 71 #[c.ptr, .int .i64 1] W (RdPost c W (openP c.L 1 (c.at j)) (fun _ v _ => v = .tuple #[]))) := fun W j RW => p_open RW 1
  have HRS : Hid (∀ W j, Rd c W j → 3 * (c.at j).length + 2 ≤ n → Calls Tryd.prog 72 #[c.ptr, .int .i64 1] W (RdPost c W (restP fnd c.L n 1 [] (c.at j)) (fun l v w' => stsVal W.heap.size l v w'))) := fun W j RW hf => p_rest (fun m _ => stmt_all m) RW (by decide) (by decide) hf
  have A0 := Lib.hid ((At.start R).alloc (.cells zTh 56))
  have O0 := Own.new w 56 zTh
  have HR := Lib.hid R
  have hX := Lib.hid R.lt
  have HM := Lib.hid (And.intro hn hl0)
  clear hY hY1 R hn hl0
  unfold Par.ptr dcVal zTh at *
  go_enter Tryd.func51, Tryd.ntmps51
  go_wp2_with fail
  go_at_call 57
  refine (HC1.out _ (A0.out.rd HR.out)).mono ?_
  rintro e w1 ⟨hf1, hm1⟩
  rcases Y1 with ⟨d1, r1⟩ | ⟨p, q⟩
  rotate_left
  · obtain rfl := hm1
    have AZ := Lib.hid (A0.out.fr.trans hf1)
    clear hf1
    go_wp2_with fail
    refine ⟨rfl, ?_⟩
    rw [HS.out]
    exact ⟨AZ.out, rfl⟩
  obtain ⟨v1, k1, rfl, rfl, hR1, rfl⟩ := hm1
  obtain ⟨nm, dw, dp⟩ := d1
  have HS : Hid (Y = (openP c.L 1 (c.at k1)).then fun _ r => (localsP c.L n [] r).then fun l r => (restP fnd c.L n 1 [] r).then fun b r => .ok ⟨nm, l, b, dp⟩ r) := HS.out
  have hlen1 := HL1.out _ _ rfl
  have G : Hid (ThI c w (w1.heap.size + 1) nm dp (.slice none 0 0) [] ((w1.alloc (.cells #[.string nm, .int .i64 dw, .int .i64 dp] 58)).alloc (.cells #[.string nm, .slice none 0 0, .slice none 0 0, .int .i64 dp] 56)) k1) := by
    have hz := (O0.fr hf1 (by have := hX.out; omega)).lt
    have o2 := Own.new (w1.alloc (.cells #[.string nm, .int .i64 dw, .int .i64 dp] 58)) 56 #[.string nm, .slice none 0 0, .slice none 0 0, .int .i64 dp]
    rw [World.size_alloc] at o2
    exact ⟨((A0.out.call hf1 hR1).alloc _).alloc _, by omega, ((O0.fr hf1 (by have := hX.out; omega)).alloc _).alloc _, o2, World.ownsRow_nil _ _ _ _⟩
  have HLEN := Lib.hid hlen1
  clear hf1 hR1 hlen1 O0 A0
  go_wp2_with fail
  obtain ⟨W, hW⟩ : ∃ W, W = ((w1.alloc (.cells #[.string nm, .int .i64 dw, .int .i64 dp] 58)).alloc (.cells #[.string nm, .slice none 0 0, .slice none 0 0, .int .i64 dp] 56)) := ⟨_, rfl⟩
  rw [← hW] at G ⊢
  clear hW
  obtain ⟨TB, hTB⟩ : ∃ TB, TB = w1.heap.size + 1 := ⟨_, rfl⟩
  rw [← hTB] at G ⊢
  have HDB : Hid (w1.heap.size + 1 = TB) := hTB.symm
  obtain ⟨DB, hDB⟩ : ∃ DB, DB = w1.heap.size := ⟨_, rfl⟩
  rw [← hDB]
  clear hTB hDB
  obtain ⟨Z2, hZ2⟩ : ∃ Z2, Z2 = openP c.L 1 (c.at k1) := ⟨_, rfl⟩
  have HC2 : Hid (∀ W, Rd c W k1 → Calls Tryd.prog 71 #[.pointer (some ⟨c.X, 0, none⟩), .int .i64 1] W (RdPost c W Z2 (fun _ v _ => v = .tuple #[]))) := fun W RW => by rw [hZ2]; exact HO.out W k1 RW
  have HL2 : Hid (∀ u r, Z2 = .ok u r → r.length < (c.at k1).length) := fun u r h => by have := open_short (hZ2.symm.trans h); omega
  have HS : Hid (Y = Z2.then fun _ r => (localsP c.L n [] r).then fun l r => (restP fnd c.L n 1 [] r).then fun b r => .ok ⟨nm, l, b, dp⟩ r) := by rw [Hid, HS.out, hZ2]
  clear hZ2
  go_at_call 71
  refine (HC2.out _ (G.out.run.rd HR.out)).mono ?_
  rintro e w2 ⟨hf2, hm2⟩
  rcases Z2 with ⟨u2, r2⟩ | ⟨p, q⟩
  rotate_left
  · obtain rfl := hm2
    have AZ := Lib.hid (G.out.run.fr.trans hf2)
    clear hf2
    go_wp2_with fail
    refine ⟨rfl, ?_⟩
    rw [HS.out]
    exact ⟨AZ.out, rfl⟩
  obtain ⟨v2, k2, rfl, rfl, hR2, rfl⟩ := hm2
  have HL2 := Lib.hid (HL2.out _ _ rfl)
  have G := Lib.hid (G.out.call hf2 hR2 hX.out)
  obtain ⟨Z3, hZ3⟩ : ∃ Z3, Z3 = localsP c.L n [] (c.at k2) := ⟨_, rfl⟩
  have HS : Hid (Y = Z3.then fun l r => (restP fnd c.L n 1 [] r).then fun b r => .ok ⟨nm, l, b, dp⟩ r) := by rw [Hid, HS.out, hZ3]; rfl
  have HSH : Hid (∀ l r, Z3 = .ok l r → r.length ≤ (c.at k2).length) := fun l r h => locals_short _ _ _ _ _ (hZ3.symm.trans h)
  have B0 : Hid (LocI c w TB nm dp Z3 n w2) := ⟨k2, [], _, G.out, hZ3.symm, by have := HM.out; have := HLEN.out; have := HL2.out; omega, by have := HM.out; have := HLEN.out; have := HL2.out; simp; omega⟩
  clear hf2 hR2 hZ3 G
  go_wp2_with fail
  go_loopg [] n (fun m W => LocI c w TB nm dp Z3 m W ∧ m ≤ n)
  case atStart => exact ⟨B0.out, Nat.le_refl _⟩
  case round =>
    obtain ⟨⟨j, l, vL, G1, hY1, hfu, hle⟩, hgn⟩ := hrel
    have G := Lib.hid G1
    have HFU := Lib.hid (And.intro hfu hle)
    have HGN := Lib.hid hgn
    have HY1 := Lib.hid hY1
    clear G1 hY1 hfu hle hgn
    obtain ⟨m, rfl⟩ : ∃ m, gk = m + 1 := ⟨gk - 1, by have := HFU.out.1; omega⟩
    obtain ⟨B, hB⟩ : ∃ b, b = isT [108, 111, 99, 97, 108] (c.at j) := ⟨_, rfl⟩
    have HCB : Hid (∀ W, Rd c W j → Calls Tryd.prog 50 #[.pointer (some ⟨c.X, 0, none⟩), .string ⟨#[108, 111, 99, 97, 108]⟩] W fun e w' => e = .returned (.bool B) ∧ Fr c W w' ∧ Rd c w' (if B = true then j + 1 else j)) := fun W RW => by rw [hB]; exact HP.out W j ⟨#[108, 111, 99, 97, 108]⟩ RW (by decide)
    cases B with
    | false =>
      have hz3 : Z3 = .ok l (c.at j) := by rw [← HY1.out]; unfold localsP; rw [← hB]; rfl
      have HZ := Lib.hid hz3
      clear hz3 hB
      go_wp2_with fail
      go_at_call 50
      refine (HCB.out _ (G.out.run.rd HR.out)).mono ?_
      rintro e w3 ⟨rfl, hf3, hR3⟩
      have G := Lib.hid (G.out.call hf3 (show Rd c w3 j from hR3) hX.out)
      clear hf3 hR3
      go_wp2_with fail
      have HK := Lib.hid (HSH.out _ _ HZ.out)
      obtain ⟨Z4, hZ4⟩ : ∃ Z4, Z4 = restP fnd c.L n 1 [] (c.at j) := ⟨_, rfl⟩
      have HC4 : Hid (∀ W, Rd c W j → Calls Tryd.prog 72 #[.pointer (some ⟨c.X, 0, none⟩), .int .i64 1] W (RdPost c W Z4 (fun l v w' => stsVal W.heap.size l v w'))) := fun W RW => by rw [hZ4]; exact HRS.out W j RW (by have := HM.out.1; have := HLEN.out; have := HL2.out; have := HK.out; omega)
      have HS : Hid (Y = Z4.then fun b r => .ok ⟨nm, l, b, dp⟩ r) := by rw [Hid, HS.out, HZ.out, hZ4]; rfl
      clear hZ4
      go_at_call 72
      refine (HC4.out _ (G.out.run.rd HR.out)).mono ?_
      rintro e w4 ⟨hf4, hm4⟩
      rcases Z4 with ⟨l4, r4⟩ | ⟨p, q⟩
      rotate_left
      · obtain rfl := hm4
        have AZ := Lib.hid (G.out.run.fr.trans hf4)
        clear hf4
        go_wp2_with fail
        refine ⟨rfl, ?_⟩
        show RdPost c w Y _ _ _
        rw [HS.out]
        exact ⟨AZ.out, rfl⟩
      obtain ⟨v4, k4, rfl, ⟨a4, cap4, rfl, hV4⟩, hR4, rfl⟩ := hm4
      have hlt3 := G.out.own.lt
      have hge := Lib.hid G.out.ge
      have V4 := Lib.hid (stsAt_mono (R' := fun b => w.heap.size ≤ b ∧ b ≠ TB ∧ b ≠ w.heap.size) hV4 (fun b hb => by have := hge.out; change _ ≤ _ at hb; omega))
      have G := Lib.hid (G.out.call hf4 hR4 hX.out)
      clear hf4 hR4 hV4 hlt3
      obtain ⟨oa, cap, rfl, hoa⟩ := row_shape G.out.row
      have HOA := Lib.hid hoa
      clear hoa
      have E5 : w4.setCell ⟨TB, 2, none⟩ (.slice a4 l4.length cap4) = w4.setRow TB #[.string nm, .slice oa l.length cap, .slice a4 l4.length cap4, .int .i64 dp] := setCell_row G.out.own 2 _
      have c4 := G.out.cell (i := 2) (v := .slice none 0 0) rfl
      have z4 := own_frozen G.out.own 2
      have hne : w.heap.size ≠ TB := by have := hge.out; omega
      have hnX : c.X ≠ TB := by have := hge.out; have := hX.out; omega
      have hnX0 : c.X ≠ w.heap.size := by have := hX.out; omega
      have OR := G.out.res.other (g := TB) #[.string nm, .slice oa l.length cap, .slice a4 l4.length cap4, .int .i64 dp] hne
      have OS := G.out.own.row #[.string nm, .slice oa l.length cap, .slice a4 l4.length cap4, .int .i64 dp]
      have ROW := Lib.hid (row_row G.out.row #[.string nm, .slice oa l.length cap, .slice a4 l4.length cap4, .int .i64 dp] (row_apart G.out.row G.out.own rfl))
      have RA := Lib.hid (row_apart G.out.row G.out.res rfl)
      have V5 := Lib.hid (stsAt_stays (stays_row w4 (g := TB) #[.string nm, .slice oa l.length cap, .slice a4 l4.length cap4, .int .i64 dp] (fun b hb => hb.2.1)) (fun b hb => hb) V4.out)
      have A5 := Lib.hid (G.out.run.setRow (g := TB) (by have := hge.out; omega) hnX #[.string nm, .slice oa l.length cap, .slice a4 l4.length cap4, .int .i64 dp])
      have hne := Lib.hid hne
      have hnX := Lib.hid hnX
      have hnX0 := Lib.hid hnX0
      unfold zTh at OR
      go_wp2_with (first | (refine ld rowTh rfl rfl rfl OS rfl ?_) | (refine st rowTh rfl rfl OR rfl rfl (by rfl) (by rfl) (by kernel_rfl) ?_))
      clear E5 c4 z4
      have A6 := A5.out.setRow (Nat.le_refl _) hnX0.out #[.string nm, .slice oa l.length cap, .slice a4 l4.length cap4, .int .i64 dp]
      refine p_ret rowTh rfl (OR.row #[.string nm, .slice oa l.length cap, .slice a4 l4.length cap4, .int .i64 dp]) rfl rfl rfl ?_
      show RdPost c w Y _ _ _
      rw [HS.out]
      refine ⟨A6.fr, _, k4, rfl, ⟨oa, cap, a4, cap4, rfl, ?_, stsAt_stays (stays_row _ (g := w.heap.size) _ (fun b hb => hb.2.2)) (fun b hb => hb.1) V5.out⟩, A6.rd HR.out, rfl⟩
      have ROW6 := row_row ROW.out (g := w.heap.size) #[.string nm, .slice oa l.length cap, .slice a4 l4.length cap4, .int .i64 dp] RA.out
      cases l with
      | nil => exact .inl rfl
      | cons x xx =>
        obtain ⟨g, rfl, hg⟩ := HOA.out (by simp)
        exact .inr ⟨g, 0, rfl, hg, dcsIn_of (row_cells ROW6 rfl)⟩
    | true =>
      obtain ⟨Z4, hZ4⟩ : ∃ Z4, Z4 = listP c.L (nameP c.L) m [] (c.at (j + 1)) := ⟨_, rfl⟩
      have hjl := Par.isT_lt hB.symm
      have hat := at_step hjl
      have HC4 : Hid (∀ W, Rd c W (j + 1) → Calls Tryd.prog 55 #[.pointer (some ⟨c.X, 0, none⟩), .func (.func 57) #[.pointer (some ⟨c.X, 0, none⟩)] #[]] W (RdPost c W Z4 (fun l v w' => w'.ownsRow W.heap.size 58 3 v l.length (dcsL l) ∧ l ≠ []))) := fun W RW => by rw [hZ4]; exact p_list_name RW (by have := HFU.out.1; omega)
      have HN4 : Hid (∀ d r, Z4 = .ok d r → d.length ≤ (c.at (j + 1)).length ∧ d.length + r.length ≤ (c.at (j + 1)).length) := fun d r h => by have := list_both (fun _ _ _ => nameP_short) (hZ4.symm.trans h); simp at this; omega
      have hz3 : Z3 = Z4.then fun d r => localsP c.L m (l ++ d) r := by
        rw [← HY1.out]; conv => lhs; unfold localsP
        rw [← hB, hZ4, Par.at_tail]; rfl
      have HZ := Lib.hid hz3
      have HAT := Lib.hid hat
      clear hz3 hB hZ4 hjl hat
      go_wp2_with fail
      go_at_call 50
      refine (HCB.out _ (G.out.run.rd HR.out)).mono ?_
      rintro e w3 ⟨rfl, hf3, hR3⟩
      have G := Lib.hid (G.out.call hf3 (show Rd c w3 (j + 1) from hR3) hX.out)
      clear hf3 hR3
      go_wp2_with fail
      refine wp_region_held (S := fun _ => True) (by kernel_rfl) ?_
      have G := G.out.drew
      change wpAnyH _ _ _ _ _ _ _ _ w3.drew
      obtain ⟨W0, hW0⟩ : ∃ W0, W0 = w3.drew := ⟨_, rfl⟩
      rw [← hW0] at G ⊢
      clear hW0
      refine dr_take 0 (.pointer (some ⟨TB, 1, none⟩)) rfl rfl (by kernel_rfl) (by kernel_rfl) (by kernel_rfl) (fun _ _ _ h => h) (fun _ _ => by unfold execOp; go_simp) trivial ?_
      change wpAnyH _ _ _ _ _ _ _ { tmps := #[.pointer (some ⟨c.X, 0, none⟩), undef, .pointer (some ⟨w.heap.size, 0, none⟩), .pointer (some ⟨DB, 0, none⟩), .pointer (some ⟨TB, 0, none⟩), .pointer (some ⟨c.X, 0, none⟩), .agg #[.string nm, .int .i64 dw, .int .i64 dp], .pointer (some ⟨DB, 0, none⟩), .string nm, .pointer (some ⟨DB, 2, none⟩), .int .i64 dp, .agg #[.string nm, .slice none 0 0, .slice none 0 0, .int .i64 dp], .pointer (some ⟨c.X, 0, none⟩), .tuple #[], .pointer (some ⟨c.X, 0, none⟩), .bool true, .pointer (some ⟨TB, 1, none⟩), u17, u18, u19, u20, u21, u22, u23, undef, undef, undef, undef], defers := [] } _
      refine dr_take 2 (.pointer (some ⟨c.X, 0, none⟩)) rfl rfl (by kernel_rfl) (by kernel_rfl) (by kernel_rfl) (fun _ _ _ h => h) (fun _ _ => rfl) trivial ?_
      change wpAnyH _ _ _ _ _ _ _ { tmps := #[.pointer (some ⟨c.X, 0, none⟩), undef, .pointer (some ⟨w.heap.size, 0, none⟩), .pointer (some ⟨DB, 0, none⟩), .pointer (some ⟨TB, 0, none⟩), .pointer (some ⟨c.X, 0, none⟩), .agg #[.string nm, .int .i64 dw, .int .i64 dp], .pointer (some ⟨DB, 0, none⟩), .string nm, .pointer (some ⟨DB, 2, none⟩), .int .i64 dp, .agg #[.string nm, .slice none 0 0, .slice none 0 0, .int .i64 dp], .pointer (some ⟨c.X, 0, none⟩), .tuple #[], .pointer (some ⟨c.X, 0, none⟩), .bool true, .pointer (some ⟨TB, 1, none⟩), u17, .pointer (some ⟨c.X, 0, none⟩), u19, u20, u21, u22, u23, undef, undef, undef, undef], defers := [] } _
      refine dr_take 3 (.pointer (some ⟨c.X, 0, none⟩)) rfl rfl (by kernel_rfl) (by kernel_rfl) (by kernel_rfl) (fun _ _ _ h => h) (fun _ _ => rfl) trivial ?_
      change wpAnyH _ _ _ _ _ _ _ { tmps := #[.pointer (some ⟨c.X, 0, none⟩), undef, .pointer (some ⟨w.heap.size, 0, none⟩), .pointer (some ⟨DB, 0, none⟩), .pointer (some ⟨TB, 0, none⟩), .pointer (some ⟨c.X, 0, none⟩), .agg #[.string nm, .int .i64 dw, .int .i64 dp], .pointer (some ⟨DB, 0, none⟩), .string nm, .pointer (some ⟨DB, 2, none⟩), .int .i64 dp, .agg #[.string nm, .slice none 0 0, .slice none 0 0, .int .i64 dp], .pointer (some ⟨c.X, 0, none⟩), .tuple #[], .pointer (some ⟨c.X, 0, none⟩), .bool true, .pointer (some ⟨TB, 1, none⟩), u17, .pointer (some ⟨c.X, 0, none⟩), .pointer (some ⟨c.X, 0, none⟩), u20, u21, u22, u23, undef, undef, undef, undef], defers := [] } _
      refine dr_take 4 (.func (.func 57) #[.pointer (some ⟨c.X, 0, none⟩)] #[]) rfl rfl (by kernel_rfl) (by kernel_rfl) (by kernel_rfl) (fun _ _ _ h => h) (fun _ _ => by unfold execOp; go_simp) trivial ?_
      change wpAnyH _ _ _ _ _ _ _ { tmps := #[.pointer (some ⟨c.X, 0, none⟩), undef, .pointer (some ⟨w.heap.size, 0, none⟩), .pointer (some ⟨DB, 0, none⟩), .pointer (some ⟨TB, 0, none⟩), .pointer (some ⟨c.X, 0, none⟩), .agg #[.string nm, .int .i64 dw, .int .i64 dp], .pointer (some ⟨DB, 0, none⟩), .string nm, .pointer (some ⟨DB, 2, none⟩), .int .i64 dp, .agg #[.string nm, .slice none 0 0, .slice none 0 0, .int .i64 dp], .pointer (some ⟨c.X, 0, none⟩), .tuple #[], .pointer (some ⟨c.X, 0, none⟩), .bool true, .pointer (some ⟨TB, 1, none⟩), u17, .pointer (some ⟨c.X, 0, none⟩), .pointer (some ⟨c.X, 0, none⟩), .func (.func 57) #[.pointer (some ⟨c.X, 0, none⟩)] #[], u21, u22, u23, undef, undef, undef, undef], defers := [] } _
      refine dr_two 1 5 rfl rfl rfl rfl (by kernel_rfl) ?_ ?_
      · refine wp_ld_dcs rfl rfl (G.cell (i := 1) (v := vL) rfl) ⟨trivial, ?_⟩
        change wpAnyH _ _ _ _ _ _ _ { tmps := #[.pointer (some ⟨c.X, 0, none⟩), undef, .pointer (some ⟨w.heap.size, 0, none⟩), .pointer (some ⟨DB, 0, none⟩), .pointer (some ⟨TB, 0, none⟩), .pointer (some ⟨c.X, 0, none⟩), .agg #[.string nm, .int .i64 dw, .int .i64 dp], .pointer (some ⟨DB, 0, none⟩), .string nm, .pointer (some ⟨DB, 2, none⟩), .int .i64 dp, .agg #[.string nm, .slice none 0 0, .slice none 0 0, .int .i64 dp], .pointer (some ⟨c.X, 0, none⟩), .tuple #[], .pointer (some ⟨c.X, 0, none⟩), .bool true, .pointer (some ⟨TB, 1, none⟩), vL, .pointer (some ⟨c.X, 0, none⟩), .pointer (some ⟨c.X, 0, none⟩), .func (.func 57) #[.pointer (some ⟨c.X, 0, none⟩)] #[], u21, u22, u23, undef, undef, undef, undef], defers := [] } _
        refine dr_one 5 rfl rfl (by kernel_rfl) ?_
        refine wp_call (vs := #[.pointer (some ⟨c.X, 0, none⟩), .func (.func 57) #[.pointer (some ⟨c.X, 0, none⟩)] #[]]) rfl rfl (enters_of Tryd.func55 (by kernel_rfl) rfl) (by simp [Act.eval]) (HC4.out _ (G.run.rd HR.out)) ?_
        rintro e w4 ⟨hf4, hm⟩
        rcases Z4 with ⟨d, r⟩ | ⟨q, rl⟩
        rotate_left
        · obtain rfl := hm
          have AZ := G.run.fr.trans hf4
          have AZ := Lib.hid AZ
          clear hf4
          go_wp2_with fail
          refine ⟨rfl, ?_⟩
          show RdPost c w Y _ _ _
          rw [HS.out, HZ.out]
          exact ⟨AZ.out, rfl⟩
        obtain ⟨v1, k3, rfl, ⟨hrow1, hd1⟩, hR1, rfl⟩ := hm
        have G1 := G.call hf4 hR1 hX.out
        have hlen := HN4.out _ _ rfl
        obtain ⟨g1, cap1, rfl, hg1, hlt1⟩ := hrow1.form (List.length_pos_iff.2 hd1)
        refine ⟨trivial, ?_⟩
        change wpAnyH _ _ _ _ _ _ _ { tmps := #[.pointer (some ⟨c.X, 0, none⟩), undef, .pointer (some ⟨w.heap.size, 0, none⟩), .pointer (some ⟨DB, 0, none⟩), .pointer (some ⟨TB, 0, none⟩), .pointer (some ⟨c.X, 0, none⟩), .agg #[.string nm, .int .i64 dw, .int .i64 dp], .pointer (some ⟨DB, 0, none⟩), .string nm, .pointer (some ⟨DB, 2, none⟩), .int .i64 dp, .agg #[.string nm, .slice none 0 0, .slice none 0 0, .int .i64 dp], .pointer (some ⟨c.X, 0, none⟩), .tuple #[], .pointer (some ⟨c.X, 0, none⟩), .bool true, .pointer (some ⟨TB, 1, none⟩), vL, .pointer (some ⟨c.X, 0, none⟩), .pointer (some ⟨c.X, 0, none⟩), .func (.func 57) #[.pointer (some ⟨c.X, 0, none⟩)] #[], .slice (some ⟨g1, 0, none⟩) d.length cap1, u22, u23, undef, undef, undef, undef], defers := [] } _
        refine dr_one 6 rfl rfl (by kernel_rfl) ?_
        obtain ⟨i0, hi, hi0, hi1, hi2⟩ := info_parts infoDc
        refine wp_append_lies w4 _ _ 48 rfl w.heap.size 58 i0 _ 3 32 Tryd.underlying48 hi hi0 hi1 hi2 rfl (by decide) vL l.length (dcsL l) rfl G1.row ⟨g1, 0, none⟩ d.length cap1 (dcsL d) rfl (dcsL_len d) (row_news hrow1) (dcsL_cells d) (List.length_pos_iff.2 hd1) (by simp only [maxLen]; have := HFU.out.2; have := HAT.out; omega) (by have := HFU.out.2; have := HAT.out; omega) (by have := G1.run.fr.size; omega) _ rfl ?_
        intro g2 cap2 w5 hown2 hgrow2 hlies2 hlt2
        refine ⟨trivial, ?_⟩
        change wpAnyH _ _ _ _ _ _ _ { tmps := #[.pointer (some ⟨c.X, 0, none⟩), undef, .pointer (some ⟨w.heap.size, 0, none⟩), .pointer (some ⟨DB, 0, none⟩), .pointer (some ⟨TB, 0, none⟩), .pointer (some ⟨c.X, 0, none⟩), .agg #[.string nm, .int .i64 dw, .int .i64 dp], .pointer (some ⟨DB, 0, none⟩), .string nm, .pointer (some ⟨DB, 2, none⟩), .int .i64 dp, .agg #[.string nm, .slice none 0 0, .slice none 0 0, .int .i64 dp], .pointer (some ⟨c.X, 0, none⟩), .tuple #[], .pointer (some ⟨c.X, 0, none⟩), .bool true, .pointer (some ⟨TB, 1, none⟩), vL, .pointer (some ⟨c.X, 0, none⟩), .pointer (some ⟨c.X, 0, none⟩), .func (.func 57) #[.pointer (some ⟨c.X, 0, none⟩)] #[], .slice (some ⟨g1, 0, none⟩) d.length cap1, .slice (some ⟨g2, 0, none⟩) (l.length + d.length) cap2, u23, undef, undef, undef, undef], defers := [] } _
        refine dr_take 7 (.pointer (some ⟨TB, 1, none⟩)) rfl rfl (by kernel_rfl) (by kernel_rfl) (by kernel_rfl) (fun _ _ _ h => h) (fun _ _ => by unfold execOp; go_simp) trivial ?_
        change wpAnyH _ _ _ _ _ _ _ { tmps := #[.pointer (some ⟨c.X, 0, none⟩), undef, .pointer (some ⟨w.heap.size, 0, none⟩), .pointer (some ⟨DB, 0, none⟩), .pointer (some ⟨TB, 0, none⟩), .pointer (some ⟨c.X, 0, none⟩), .agg #[.string nm, .int .i64 dw, .int .i64 dp], .pointer (some ⟨DB, 0, none⟩), .string nm, .pointer (some ⟨DB, 2, none⟩), .int .i64 dp, .agg #[.string nm, .slice none 0 0, .slice none 0 0, .int .i64 dp], .pointer (some ⟨c.X, 0, none⟩), .tuple #[], .pointer (some ⟨c.X, 0, none⟩), .bool true, .pointer (some ⟨TB, 1, none⟩), vL, .pointer (some ⟨c.X, 0, none⟩), .pointer (some ⟨c.X, 0, none⟩), .func (.func 57) #[.pointer (some ⟨c.X, 0, none⟩)] #[], .slice (some ⟨g1, 0, none⟩) d.length cap1, .slice (some ⟨g2, 0, none⟩) (l.length + d.length) cap2, .pointer (some ⟨TB, 1, none⟩), undef, undef, undef, undef], defers := [] } _
        refine dr_one 8 rfl rfl (by kernel_rfl) ?_
        obtain ⟨B1, B2, B3⟩ := G1.grown hgrow2 hX.out
        refine wp_st_dcs rfl rfl rfl (u := vL) (by rw [cell_of_row w5 _ 1 _ _ _ B3]; rfl) (own_frozen B3 1) ⟨trivial, ?_⟩
        rw [setCell_row B3 1 _]
        have G3 := Lib.hid (G1.end_ hX.out hgrow2 hown2)
        have HLN := Lib.hid hlen
        refine wpAnyH_done (by kernel_rfl) ?_ _
        clear hrow1 hown2 hgrow2 hlies2 B1 B2 B3 G1 hlen
        go_wp2_with fail
        go_roundg m
        case measure => omega
        case rel =>
          refine ⟨⟨k3, l ++ d, _, G3.out, HZ.out.symm, by have := HFU.out.1; have := HLN.out; have := HAT.out; omega, by have := HFU.out.2; have := HLN.out; have := HAT.out; rw [List.length_append]; omega⟩, by have := HGN.out; omega⟩
      · skip
        refine wp_call (vs := #[.pointer (some ⟨c.X, 0, none⟩), .func (.func 57) #[.pointer (some ⟨c.X, 0, none⟩)] #[]]) rfl rfl (enters_of Tryd.func55 (by kernel_rfl) rfl) (by simp [Act.eval]) (HC4.out _ (G.run.rd HR.out)) ?_
        rintro e w4 ⟨hf4, hm⟩
        rcases Z4 with ⟨d, r⟩ | ⟨q, rl⟩
        rotate_left
        · obtain rfl := hm
          have AZ := G.run.fr.trans hf4
          have AZ := Lib.hid AZ
          clear hf4
          go_wp2_with fail
          refine ⟨rfl, ?_⟩
          show RdPost c w Y _ _ _
          rw [HS.out, HZ.out]
          exact ⟨AZ.out, rfl⟩
        obtain ⟨v1, k3, rfl, ⟨hrow1, hd1⟩, hR1, rfl⟩ := hm
        have G1 := G.call hf4 hR1 hX.out
        have hlen := HN4.out _ _ rfl
        obtain ⟨g1, cap1, rfl, hg1, hlt1⟩ := hrow1.form (List.length_pos_iff.2 hd1)
        refine ⟨trivial, ?_⟩
        change wpAnyH _ _ _ _ _ _ _ { tmps := #[.pointer (some ⟨c.X, 0, none⟩), undef, .pointer (some ⟨w.heap.size, 0, none⟩), .pointer (some ⟨DB, 0, none⟩), .pointer (some ⟨TB, 0, none⟩), .pointer (some ⟨c.X, 0, none⟩), .agg #[.string nm, .int .i64 dw, .int .i64 dp], .pointer (some ⟨DB, 0, none⟩), .string nm, .pointer (some ⟨DB, 2, none⟩), .int .i64 dp, .agg #[.string nm, .slice none 0 0, .slice none 0 0, .int .i64 dp], .pointer (some ⟨c.X, 0, none⟩), .tuple #[], .pointer (some ⟨c.X, 0, none⟩), .bool true, .pointer (some ⟨TB, 1, none⟩), u17, .pointer (some ⟨c.X, 0, none⟩), .pointer (some ⟨c.X, 0, none⟩), .func (.func 57) #[.pointer (some ⟨c.X, 0, none⟩)] #[], .slice (some ⟨g1, 0, none⟩) d.length cap1, u22, u23, undef, undef, undef, undef], defers := [] } _
        refine dr_one 1 rfl rfl (by kernel_rfl) ?_
        refine wp_ld_dcs rfl rfl (G1.cell (i := 1) (v := vL) rfl) ⟨trivial, ?_⟩
        change wpAnyH _ _ _ _ _ _ _ { tmps := #[.pointer (some ⟨c.X, 0, none⟩), undef, .pointer (some ⟨w.heap.size, 0, none⟩), .pointer (some ⟨DB, 0, none⟩), .pointer (some ⟨TB, 0, none⟩), .pointer (some ⟨c.X, 0, none⟩), .agg #[.string nm, .int .i64 dw, .int .i64 dp], .pointer (some ⟨DB, 0, none⟩), .string nm, .pointer (some ⟨DB, 2, none⟩), .int .i64 dp, .agg #[.string nm, .slice none 0 0, .slice none 0 0, .int .i64 dp], .pointer (some ⟨c.X, 0, none⟩), .tuple #[], .pointer (some ⟨c.X, 0, none⟩), .bool true, .pointer (some ⟨TB, 1, none⟩), vL, .pointer (some ⟨c.X, 0, none⟩), .pointer (some ⟨c.X, 0, none⟩), .func (.func 57) #[.pointer (some ⟨c.X, 0, none⟩)] #[], .slice (some ⟨g1, 0, none⟩) d.length cap1, u22, u23, undef, undef, undef, undef], defers := [] } _
        refine dr_one 6 rfl rfl (by kernel_rfl) ?_
        obtain ⟨i0, hi, hi0, hi1, hi2⟩ := info_parts infoDc
        refine wp_append_lies w4 _ _ 48 rfl w.heap.size 58 i0 _ 3 32 Tryd.underlying48 hi hi0 hi1 hi2 rfl (by decide) vL l.length (dcsL l) rfl G1.row ⟨g1, 0, none⟩ d.length cap1 (dcsL d) rfl (dcsL_len d) (row_news hrow1) (dcsL_cells d) (List.length_pos_iff.2 hd1) (by simp only [maxLen]; have := HFU.out.2; have := HAT.out; omega) (by have := HFU.out.2; have := HAT.out; omega) (by have := G1.run.fr.size; omega) _ rfl ?_
        intro g2 cap2 w5 hown2 hgrow2 hlies2 hlt2
        refine ⟨trivial, ?_⟩
        change wpAnyH _ _ _ _ _ _ _ { tmps := #[.pointer (some ⟨c.X, 0, none⟩), undef, .pointer (some ⟨w.heap.size, 0, none⟩), .pointer (some ⟨DB, 0, none⟩), .pointer (some ⟨TB, 0, none⟩), .pointer (some ⟨c.X, 0, none⟩), .agg #[.string nm, .int .i64 dw, .int .i64 dp], .pointer (some ⟨DB, 0, none⟩), .string nm, .pointer (some ⟨DB, 2, none⟩), .int .i64 dp, .agg #[.string nm, .slice none 0 0, .slice none 0 0, .int .i64 dp], .pointer (some ⟨c.X, 0, none⟩), .tuple #[], .pointer (some ⟨c.X, 0, none⟩), .bool true, .pointer (some ⟨TB, 1, none⟩), vL, .pointer (some ⟨c.X, 0, none⟩), .pointer (some ⟨c.X, 0, none⟩), .func (.func 57) #[.pointer (some ⟨c.X, 0, none⟩)] #[], .slice (some ⟨g1, 0, none⟩) d.length cap1, .slice (some ⟨g2, 0, none⟩) (l.length + d.length) cap2, u23, undef, undef, undef, undef], defers := [] } _
        refine dr_take 7 (.pointer (some ⟨TB, 1, none⟩)) rfl rfl (by kernel_rfl) (by kernel_rfl) (by kernel_rfl) (fun _ _ _ h => h) (fun _ _ => by unfold execOp; go_simp) trivial ?_
        change wpAnyH _ _ _ _ _ _ _ { tmps := #[.pointer (some ⟨c.X, 0, none⟩), undef, .pointer (some ⟨w.heap.size, 0, none⟩), .pointer (some ⟨DB, 0, none⟩), .pointer (some ⟨TB, 0, none⟩), .pointer (some ⟨c.X, 0, none⟩), .agg #[.string nm, .int .i64 dw, .int .i64 dp], .pointer (some ⟨DB, 0, none⟩), .string nm, .pointer (some ⟨DB, 2, none⟩), .int .i64 dp, .agg #[.string nm, .slice none 0 0, .slice none 0 0, .int .i64 dp], .pointer (some ⟨c.X, 0, none⟩), .tuple #[], .pointer (some ⟨c.X, 0, none⟩), .bool true, .pointer (some ⟨TB, 1, none⟩), vL, .pointer (some ⟨c.X, 0, none⟩), .pointer (some ⟨c.X, 0, none⟩), .func (.func 57) #[.pointer (some ⟨c.X, 0, none⟩)] #[], .slice (some ⟨g1, 0, none⟩) d.length cap1, .slice (some ⟨g2, 0, none⟩) (l.length + d.length) cap2, .pointer (some ⟨TB, 1, none⟩), undef, undef, undef, undef], defers := [] } _
        refine dr_one 8 rfl rfl (by kernel_rfl) ?_
        obtain ⟨B1, B2, B3⟩ := G1.grown hgrow2 hX.out
        refine wp_st_dcs rfl rfl rfl (u := vL) (by rw [cell_of_row w5 _ 1 _ _ _ B3]; rfl) (own_frozen B3 1) ⟨trivial, ?_⟩
        rw [setCell_row B3 1 _]
        have G3 := Lib.hid (G1.end_ hX.out hgrow2 hown2)
        have HLN := Lib.hid hlen
        refine wpAnyH_done (by kernel_rfl) ?_ _
        clear hrow1 hown2 hgrow2 hlies2 B1 B2 B3 G1 hlen
        go_wp2_with fail
        go_roundg m
        case measure => omega
        case rel =>
          refine ⟨⟨k3, l ++ d, _, G3.out, HZ.out.symm, by have := HFU.out.1; have := HLN.out; have := HAT.out; omega, by have := HFU.out.2; have := HLN.out; have := HAT.out; rw [List.length_append]; omega⟩, by have := HGN.out; omega⟩
end Go.Proofs.YtgaibdipecngkaaDoor

namespace Go.Proofs.YtgaibdipecngkaaDoor
open Go.RowKit
set_option linter.unusedVariables false
theorem infoTh : (Tryd.prog.info? 56).map (fun i => (i.zero, i.size, i.bytes)) = some (some (.agg zTh), 4, 72) := by kernel_rfl
theorem dcsAt_in {R : Nat → Prop} {w : World} {l : List Dc} {a : Option Addr} (h : dcsAt R w l a) : dcsAt (fun b => R b ∧ b < w.heap.size) w l a := by
  rcases h with h | ⟨g, q, rfl, hg, hi⟩
  · exact .inl h
  · cases l with
    | nil => exact .inl rfl
    | cons d r => exact .inr ⟨g, q, rfl, ⟨hg, cell_lt hi.1.1⟩, hi⟩
theorem dcsAt_mono {R R' : Nat → Prop} {w : World} {l : List Dc} {a : Option Addr} (h : dcsAt R w l a) (hm : ∀ b, R b → R' b) : dcsAt R' w l a := dcsAt_stays (Stays.refl R w) hm h
theorem thV_in {R : Nat → Prop} {w : World} {t : Th} {vs : List Value} (h : thV R w t vs) : thV (fun b => R b ∧ b < w.heap.size) w t vs := by
  obtain ⟨a1, c1, a2, c2, h1, h2, h3⟩ := h
  exact ⟨a1, c1, a2, c2, h1, dcsAt_in h2, stsAt_in h3⟩
theorem thsV_in {R : Nat → Prop} {w : World} : ∀ {l : List Th} {xs : List Value}, thsV R w l xs → thsV (fun b => R b ∧ b < w.heap.size) w l xs
  | [], xs, h => h
  | t :: r, xs, ⟨us, ys, h1, h2, h3⟩ => ⟨us, ys, h1, thV_in h2, thsV_in h3⟩
/-- A program, as a value. -/
def pgR (n : Nat) (p : Pg) (v : Value) (W : World) : Prop := ∃ a1 c1 a2 c2 a3 c3, v = .agg #[.slice a1 p.shared.length c1, .slice a2 p.locks.length c2, .slice a3 p.threads.length c3] ∧ dcsAt (fun b => n ≤ b) W p.shared a1 ∧ dcsAt (fun b => n ≤ b) W p.locks a2 ∧ thsAt (fun b => n ≤ b) W p.threads a3
/-- The blocks in which the lists lie. -/
def RB (w0 : World) (pb : Nat) (v : Value) (b : Nat) : Prop := w0.heap.size < b ∧ b ≠ pb ∧ v.ownBlock ≠ some b
/-- While threads are read: the reader's place, the program's block, its lists. -/
structure PgT (c : Par) (w0 : World) (pb : Nat) (a1 : Option Addr) (c1 : Nat) (a2 : Option Addr) (c2 : Nat) (vT : Value) (p : Pg) (l : List Th) (xs : List Value) (W : World) (k : Nat) : Prop where
  run : At c w0 W k
  ge : w0.heap.size < pb
  res : Own W w0.heap.size 51 zPg
  own : Own W pb 51 #[.slice a1 p.shared.length c1, .slice a2 p.locks.length c2, vT]
  dS : dcsAt (RB w0 pb vT) W p.shared a1
  dL : dcsAt (RB w0 pb vT) W p.locks a2
  rT : W.ownsRow w0.heap.size 56 4 vT l.length xs
  tv : thsV (RB w0 pb vT) W l xs
theorem dcs_of_row {W : World} {w0 : World} {pb : Nat} {v : Value} {l : List Dc} (h : W.ownsRow w0.heap.size 58 3 v l.length (dcsL l)) (h1 : v.ownBlock ≠ some w0.heap.size) (h2 : v.ownBlock ≠ some pb) : ∃ a cap, v = .slice a l.length cap ∧ dcsAt (RB w0 pb (.slice none 0 0)) W l a := by
  obtain ⟨oa, cap, rfl, hoa⟩ := row_shape h
  refine ⟨oa, cap, rfl, ?_⟩
  cases l with
  | nil => exact .inl rfl
  | cons x r =>
    obtain ⟨g, rfl, hg⟩ := hoa (by simp)
    refine .inr ⟨g, 0, rfl, ⟨?_, ?_, by simp [Value.ownBlock]⟩, dcsIn_of (row_cells h rfl)⟩
    · have : g ≠ w0.heap.size := fun e => h1 (by rw [e]; rfl)
      omega
    · exact fun e => h2 (by rw [e]; rfl)
theorem PgI.threads {c : Par} {w0 W : World} {pb k : Nat} {vS vL : Value} {p : Pg} (h : PgI c w0 pb vS vL p W k) : ∃ a1 c1 a2 c2, vS = .slice a1 p.shared.length c1 ∧ vL = .slice a2 p.locks.length c2 ∧ PgT c w0 pb a1 c1 a2 c2 (.slice none 0 0) p [] [] W k := by
  obtain ⟨a1, c1, rfl, d1⟩ := dcs_of_row (pb := pb) h.rS (row_apart h.rS h.res rfl) (row_apart h.rS h.own rfl)
  obtain ⟨a2, c2, rfl, d2⟩ := dcs_of_row (pb := pb) h.rL (row_apart h.rL h.res rfl) (row_apart h.rL h.own rfl)
  exact ⟨a1, c1, a2, c2, rfl, rfl, h.run, h.ge, h.res, h.own, d1, d2, World.ownsRow_nil _ _ _ _, rfl⟩
section
variable {c : Par} {w0 W W' : World} {pb : Nat} {a1 a2 : Option Addr} {c1 c2 : Nat} {vT : Value} {p : Pg} {l : List Th} {xs : List Value} {k k2 : Nat}
theorem PgT.call (h : PgT c w0 pb a1 c1 a2 c2 vT p l xs W k) (hf : Fr c W W') (hp : Rd c W' k2) (hX : c.X < w0.heap.size) : PgT c w0 pb a1 c1 a2 c2 vT p l xs W' k2 := by
  have st : Stays (RB w0 pb vT) W W' := stays_fr hf (fun b hb => by have := hb.1; omega)
  exact ⟨h.run.call hf hp, h.ge, h.res.fr hf (by omega), h.own.fr hf (by have := h.ge; omega), dcsAt_stays st (fun _ h => h) h.dS, dcsAt_stays st (fun _ h => h) h.dL, row_fr h.rT hf hX, thsV_stays st (fun _ h => h) h.tv⟩
theorem PgT.cell (h : PgT c w0 pb a1 c1 a2 c2 vT p l xs W k) {i : Nat} {v : Value} (hv : (#[.slice a1 p.shared.length c1, .slice a2 p.locks.length c2, vT] : Array Value)[i]? = some v) : W.cell? ⟨pb, i, none⟩ = some v := by rw [cell_of_row W _ i _ _ _ h.own]; exact hv
theorem PgT.drew (h : PgT c w0 pb a1 c1 a2 c2 vT p l xs W k) : PgT c w0 pb a1 c1 a2 c2 vT p l xs W.drew k :=
  have st : Stays (RB w0 pb vT) W W.drew := fun _ _ _ _ h => h
  ⟨h.run.drew, h.ge, h.res, h.own, dcsAt_stays st (fun _ h => h) h.dS, dcsAt_stays st (fun _ h => h) h.dL, h.rT, thsV_stays st (fun _ h => h) h.tv⟩
theorem PgT.alloc (h : PgT c w0 pb a1 c1 a2 c2 vT p l xs W k) (o : Obj) (hX : c.X < w0.heap.size) (R : Rd c w0 k2) : PgT c w0 pb a1 c1 a2 c2 vT p l xs (W.alloc o) k :=
  h.call ((Fr.refl c W).alloc o) ((h.run.rd R).alloc o) hX
theorem PgT.grown (h : PgT c w0 pb a1 c1 a2 c2 vT p l xs W k) (hg : W.grownBy W' vT.ownBlock) (hX : c.X < w0.heap.size) : At c w0 W' k ∧ Own W' w0.heap.size 51 zPg ∧ Own W' pb 51 #[.slice a1 p.shared.length c1, .slice a2 p.locks.length c2, vT] :=
  ⟨grown_fr h.run hg (fun r hr => by have := (h.rT.lt r hr).1; exact ⟨this, by omega⟩), own_grown h.res hg (row_apart h.rT h.res rfl), own_grown h.own hg (row_apart h.rT h.own rfl)⟩
theorem PgT.end_ (h : PgT c w0 pb a1 c1 a2 c2 vT p l xs W k) {t : Th} {vs : List Value} {g cap : Nat} (hX : c.X < w0.heap.size) (hv : thV (fun b => RB w0 pb vT b ∧ b < W.heap.size) W t vs) (hg : W.grownBy W' vT.ownBlock)
    (hown : W'.ownsRow w0.heap.size 56 4 (.slice (some ⟨g, 0, none⟩) (l.length + 1) cap) (l.length + 1) (xs ++ vs)) (hl : vT.ownBlock = some g ∨ g = W.heap.size) :
    PgT c w0 pb a1 c1 a2 c2 (.slice (some ⟨g, 0, none⟩) (l.length + 1) cap) p (l ++ [t]) (xs ++ vs) (W'.setRow pb #[.slice a1 p.shared.length c1, .slice a2 p.locks.length c2, .slice (some ⟨g, 0, none⟩) (l.length + 1) cap]) k := by
  obtain ⟨h1, h2, h3⟩ := h.grown hg hX
  have ha := row_apart hown h3 rfl
  have st1 : Stays (fun b => RB w0 pb vT b ∧ b < W.heap.size) W W' := stays_grown hg (fun b hb => hb.1.2.2)
  have st2 : Stays (fun b => RB w0 pb vT b ∧ b < W.heap.size) W' (W'.setRow pb #[.slice a1 p.shared.length c1, .slice a2 p.locks.length c2, .slice (some ⟨g, 0, none⟩) (l.length + 1) cap]) := stays_row W' _ (fun b hb => hb.1.2.1)
  have st := st1.trans st2
  have hm : ∀ b, RB w0 pb vT b ∧ b < W.heap.size → RB w0 pb (.slice (some ⟨g, 0, none⟩) (l.length + 1) cap) b := fun b hb => by
    refine ⟨hb.1.1, hb.1.2.1, fun e => ?_⟩
    have e : g = b := by simpa [Value.ownBlock] using e
    subst e
    rcases hl with hl | hl
    · exact hb.1.2.2 hl
    · have := hb.2; omega
  refine ⟨h1.setRow (by have := h.ge; omega) (by have := h.ge; omega) _, h.ge, h2.other _ (by have := h.ge; omega), h3.row _, dcsAt_stays st hm (dcsAt_in h.dS), dcsAt_stays st hm (dcsAt_in h.dL), ?_, thsV_stays st hm (thsV_snoc (thsV_in h.tv) hv)⟩
  have := row_row hown #[.slice a1 p.shared.length c1, .slice a2 p.locks.length c2, .slice (some ⟨g, 0, none⟩) (l.length + 1) cap] ha
  rw [List.length_append]
  exact this
end
end Go.Proofs.YtgaibdipecngkaaDoor

namespace Go.Proofs.YtgaibdipecngkaaDoor
open Go.RowKit
set_option linter.unusedVariables false
/-- Another thing in a block. -/
def putB (w : World) (r : Nat) (o : Obj) : World := { w with heap := w.heap.setIfInBounds r o }
theorem putB_size (w : World) (r : Nat) (o : Obj) : (putB w r o).heap.size = w.heap.size := by simp [putB]
theorem putB_same {w : World} {r : Nat} (o : Obj) (h : r < w.heap.size) : (putB w r o).heap[r]? = some o := by
  simp [putB, h]
theorem putB_other {w : World} {r b : Nat} (o : Obj) (h : b ≠ r) : (putB w r o).heap[b]? = w.heap[b]? := by
  simp only [putB]
  rw [Array.getElem?_setIfInBounds_ne (fun e => h e.symm)]
theorem putB_below {n : Nat} {a w : World} {r : Nat} (o : Obj) (h : Below n a w) (hr : n ≤ r) : Below n a (putB w r o) :=
  ⟨h.os, h.tape, h.output, by rw [putB_size]; exact h.size, fun k hk => (putB_other o (by omega)).trans (h.block k hk)⟩
theorem run_ins {P : Program} {w : World} {t k e : TypeId} {b : Nat} {es : Array MapEntry} {clock : Nat} (ht : P.underlying t = some (.map k e)) (hk : P.underlying k = some .string)
    (hb : w.heap[b]? = some (.map es clock)) (s : ByteArray) (v : Value) (hf : Instr.findNow .string (.string s) es.toList 0 = some none) :
    (Instr.mapUpdate t (.map (some b)) (.string s) v).run P w = .ok () (putB w b (.map (es.push ⟨.string s, v, clock⟩) (clock + 1))) := by
  have hck : (Instr.checkKey false 10000 k (.string s)).run P w = .ok () w := MapKept.run_checkKey (d := .string) hk (by simp [MapKept.IsKey]) false 9999
  have hf := MapKept.run_findKey (w := w) hk hf
  unfold Instr.mapUpdate
  simp [run_underlying ht, Result.andThen, MapKept.run_getObj_map hb, hck, hf, MapKept.run_setObj_map _ hb, putB]
set_option maxHeartbeats 1000000 in
theorem p_mkunary {w : World} (X : Nat) (o : Int) : Calls Tryd.prog 37 #[.pointer (some ⟨X, 0, none⟩), .int .u8 o] w fun e w' => e = .returned (.func (.func 63) #[] #[.pointer (some ⟨w.heap.size, 0, none⟩), .pointer (some ⟨w.heap.size + 1, 0, none⟩)]) ∧ w' = (w.alloc (.cells #[.pointer (some ⟨X, 0, none⟩)] 39)).alloc (.cells #[.int .u8 o] 23) := by
  go_enter Tryd.func37, Tryd.ntmps37
  go_wp2
  go_ret
  exact ⟨rfl, rfl⟩
set_option maxRecDepth 100000 in
set_option maxHeartbeats 1000000 in
/-- Behind the last token there is none. -/
theorem p_end {c : Par} {w : World} {k : Nat} (R : Rd c w k) :
    Calls Tryd.prog 20 #[c.ptr] w fun e w' => Fr c w w' ∧ e = match c.at k with | [] => .returned (.tuple #[]) | t :: _ => .panicked (flt t.pos 2) := by
  obtain ⟨⟨c0, c1, c2, _⟩, f⟩ := R.cells
  have hX := R.lt
  have hle := R.le
  have hsm := R.s.small.1
  by_cases hk : k < c.toks.length
  · have hnx : c.nx k = (c.toks[k]).tk := by unfold Par.nx; rw [Par.at_lt hk]
    have HN : Hid (∀ W, Rd c W k → Calls Tryd.prog 40 #[c.ptr] W fun e w' => e = .returned (tkV (c.nx k)) ∧ Below W.heap.size W w') := fun W h => p_next h
    rw [Par.at_lt hk]
    have HQ := Lib.hid (fun w => p_refuse (c.nx k) 2 w)
    rw [hnx] at HN HQ
    generalize (c.toks[k]).tk = t at HN HQ ⊢
    have hkk : decide ((k : Int) < (c.toks.length : Int)) = true := b_t (by omega)
    obtain ⟨n, hn⟩ : ∃ n, n = c.toks.length := ⟨_, rfl⟩
    rw [← hn] at c0 hkk hk hle hsm
    have HR := Lib.hid R
    have HD : Hid (∀ n, Rd c (w.drewN n) k) := fun n => ⟨R.s.drewN n, R.pos, R.le⟩
    clear hnx hn R
    unfold Par.ptr tkV at *
    go_enter Tryd.func20, Tryd.ntmps20
    go_wp2
    go_quiet (fail)
    have hD := HD.out nq
    have HF : Hid (Fr c w (w.drewN nq)) := Keep.drewN (Fr.refl c w) nq
    generalize w.drewN nq = W at hD HF ⊢
    go_wp2_with (first
      | (go_at_call 40; refine (HN.out _ hD).mono ?_; rintro e w1 ⟨rfl, hb⟩; have HB := Lib.hid hb; clear hb)
      | (go_at_call 39; refine (HQ.out _).mono ?_; rintro e w2 ⟨rfl, hb⟩; have HC := Lib.hid hb; clear hb))
    exact ⟨rfl, (HF.out.trans (.of_below HB.out)).trans (.of_below HC.out), rfl⟩
  · rw [Par.at_end (by omega)]
    have hkk : decide ((k : Int) < (c.toks.length : Int)) = false := b_f (by omega)
    have hkn : decide (k < c.toks.length) = false := b_f (by omega)
    obtain ⟨n, hn⟩ : ∃ n, n = c.toks.length := ⟨_, rfl⟩
    rw [← hn] at c0 hkk hk hle hsm hkn
    clear hn R
    unfold Par.ptr
    go_enter Tryd.func20, Tryd.ntmps20
    go_wp2
    go_quiet (fail)
    have HF : Hid (Fr c w (w.drewN nq)) := Keep.drewN (Fr.refl c w) nq
    go_wp2
    go_end0
    exact ⟨HF.out, rfl⟩
end Go.Proofs.YtgaibdipecngkaaDoor

namespace Go.Proofs.YtgaibdipecngkaaDoor
open Go.RowKit
set_option linter.unusedVariables false
theorem alloc_put (W : World) (o o' : Obj) : putB (W.alloc o) W.heap.size o' = W.alloc o' := by
  have : (W.heap.push o).setIfInBounds W.heap.size o' = W.heap.push o' := by
    apply Array.ext'
    simp [Array.toList_setIfInBounds]
  unfold putB World.alloc
  rw [this]
theorem size_setRow (W : World) (g : Nat) (cs : Array Value) : (W.setRow g cs).heap.size = W.heap.size := by
  simp [World.setRow]
theorem Below.of_row {B : Nat} {a W : World} (h : Below B a W) {g : Nat} (hg : B ≤ g) (cs : Array Value) : Below B a (W.setRow g cs) :=
  ⟨h.os, h.tape, h.output, by rw [size_setRow]; exact h.size, fun k hk => (setRow_other cs (by omega)).trans (h.block k hk)⟩
theorem ins_new {P : Program} {W : World} {t k e : TypeId} (ht : P.underlying t = some (.map k e)) (hk : P.underlying k = some .string) (es : Array MapEntry) (clock : Nat) (s : ByteArray) (v : Value)
    (hf : Instr.findNow .string (.string s) es.toList 0 = some none) :
    (Instr.mapUpdate t (.map (some W.heap.size)) (.string s) v).run P (W.alloc (.map es clock)) = .ok () (W.alloc (.map (es.push ⟨.string s, v, clock⟩) (clock + 1))) := by
  rw [run_ins ht hk (World.alloc_heap_new W _) s v hf, alloc_put]
/-- What a text's reader is. -/
def newC (w : World) (ta : Option Addr) (cap : Nat) (toks : List Res) (L : Nat) : Par := ⟨w.heap.size, ta, cap, toks, L, w.heap.size + 1, w.heap.size + 2, w.heap.size + 3, w.heap.size + 4, w.heap.size + 6⟩
set_option maxRecDepth 100000 in
set_option maxHeartbeats 4000000 in
theorem p_new {w : World} {ta : Option Addr} {cap : Nat} {toks : List Res} {L : Nat} (ht : TokRow w (.slice ta toks.length cap) toks) (hlt : ∀ g off, ta = some ⟨g, off, none⟩ → g < w.heap.size) (T : Tabs w) (hs : toks.length ≤ 65536 ∧ L ≤ 65536 ∧ ∀ x ∈ toks, 0 ≤ x.wd ∧ x.wd ≤ 9223372036854775807) :
    Calls Tryd.prog 19 #[.slice ta toks.length cap, .int .i64 (L : Int)] w fun e w' => e = .returned (newC w ta cap toks L).ptr ∧ Below w.heap.size w w' ∧ Rd (newC w ta cap toks L) w' 0 := by
  obtain ⟨n, hn⟩ : ∃ n, n = toks.length := ⟨_, rfl⟩
  rw [← hn]
  have HT := Lib.hid (And.intro ht (And.intro hlt (And.intro T hs)))
  have HN := Lib.hid hn
  clear ht hlt T hs hn
  have hmm := @run_makeMap Tryd.prog
  go_enter Tryd.func19, Tryd.ntmps19
  go_upto_region 2 with (fail)
  have O1 := Own.new w 84 #[.slice ta n cap, .int .i64 (L : Int), .int .i64 0, .map none, .map none, .map none]
  have B1 := (Below.refl w.heap.size w).alloc (Nat.le_refl _) (.cells #[.slice ta n cap, .int .i64 (L : Int), .int .i64 0, .map none, .map none, .map none] 84)
  have z1 : (w.alloc (.cells #[.slice ta n cap, .int .i64 (L : Int), .int .i64 0, .map none, .map none, .map none] 84)).heap.size ≤ w.heap.size + 1 ∧ w.heap.size + 1 ≤ (w.alloc (.cells #[.slice ta n cap, .int .i64 (L : Int), .int .i64 0, .map none, .map none, .map none] 84)).heap.size := by rw [World.size_alloc w (.cells #[.slice ta n cap, .int .i64 (L : Int), .int .i64 0, .map none, .map none, .map none] 84)]; omega
  obtain ⟨W1, hW1⟩ : ∃ W1, W1 = w.alloc (.cells #[.slice ta n cap, .int .i64 (L : Int), .int .i64 0, .map none, .map none, .map none] 84) := ⟨_, rfl⟩
  rw [← hW1] at O1 B1 z1 ⊢
  clear hW1
  have hI0 : (Instr.mapUpdate 80 (.map (some W1.heap.size)) (.string ⟨#[115, 104, 97, 114, 101, 100]⟩) (.func (.func 30) #[.pointer (some ⟨w.heap.size, 0, none⟩)] #[])).run Tryd.prog (W1.alloc (.map #[] 0)) = .ok () (W1.alloc (.map #[⟨.string ⟨#[115, 104, 97, 114, 101, 100]⟩, .func (.func 30) #[.pointer (some ⟨w.heap.size, 0, none⟩)] #[], 0⟩] 1)) := ins_new Tryd.underlying80 Tryd.underlying9 #[] 0 ⟨#[115, 104, 97, 114, 101, 100]⟩ (.func (.func 30) #[.pointer (some ⟨w.heap.size, 0, none⟩)] #[]) (by kernel_rfl)
  have hI1 : (Instr.mapUpdate 80 (.map (some W1.heap.size)) (.string ⟨#[108, 111, 99, 107]⟩) (.func (.func 31) #[.pointer (some ⟨w.heap.size, 0, none⟩)] #[])).run Tryd.prog (W1.alloc (.map #[⟨.string ⟨#[115, 104, 97, 114, 101, 100]⟩, .func (.func 30) #[.pointer (some ⟨w.heap.size, 0, none⟩)] #[], 0⟩] 1)) = .ok () (W1.alloc (.map #[⟨.string ⟨#[115, 104, 97, 114, 101, 100]⟩, .func (.func 30) #[.pointer (some ⟨w.heap.size, 0, none⟩)] #[], 0⟩, ⟨.string ⟨#[108, 111, 99, 107]⟩, .func (.func 31) #[.pointer (some ⟨w.heap.size, 0, none⟩)] #[], 1⟩] 2)) := ins_new Tryd.underlying80 Tryd.underlying9 #[⟨.string ⟨#[115, 104, 97, 114, 101, 100]⟩, .func (.func 30) #[.pointer (some ⟨w.heap.size, 0, none⟩)] #[], 0⟩] 1 ⟨#[108, 111, 99, 107]⟩ (.func (.func 31) #[.pointer (some ⟨w.heap.size, 0, none⟩)] #[]) (by kernel_rfl)
  have Q1 := O1.alloc (.map #[⟨.string ⟨#[115, 104, 97, 114, 101, 100]⟩, .func (.func 30) #[.pointer (some ⟨w.heap.size, 0, none⟩)] #[], 0⟩, ⟨.string ⟨#[108, 111, 99, 107]⟩, .func (.func 31) #[.pointer (some ⟨w.heap.size, 0, none⟩)] #[], 1⟩] 2)
  have c1 : (W1.alloc (.map #[⟨.string ⟨#[115, 104, 97, 114, 101, 100]⟩, .func (.func 30) #[.pointer (some ⟨w.heap.size, 0, none⟩)] #[], 0⟩, ⟨.string ⟨#[108, 111, 99, 107]⟩, .func (.func 31) #[.pointer (some ⟨w.heap.size, 0, none⟩)] #[], 1⟩] 2)).cell? ⟨w.heap.size, 3, none⟩ = some (.map none) := by rw [cell_of_row _ w.heap.size 3 _ _ _ Q1]; rfl
  have f1 := own_frozen Q1 3
  go_upto_region 3 with (fail)
  have E1 : (W1.alloc (.map #[⟨.string ⟨#[115, 104, 97, 114, 101, 100]⟩, .func (.func 30) #[.pointer (some ⟨w.heap.size, 0, none⟩)] #[], 0⟩, ⟨.string ⟨#[108, 111, 99, 107]⟩, .func (.func 31) #[.pointer (some ⟨w.heap.size, 0, none⟩)] #[], 1⟩] 2)).setCell ⟨w.heap.size, 3, none⟩ (.map (some W1.heap.size)) = (W1.alloc (.map #[⟨.string ⟨#[115, 104, 97, 114, 101, 100]⟩, .func (.func 30) #[.pointer (some ⟨w.heap.size, 0, none⟩)] #[], 0⟩, ⟨.string ⟨#[108, 111, 99, 107]⟩, .func (.func 31) #[.pointer (some ⟨w.heap.size, 0, none⟩)] #[], 1⟩] 2)).setRow w.heap.size #[.slice ta n cap, .int .i64 (L : Int), .int .i64 0, .map (some W1.heap.size), .map none, .map none] := setCell_row Q1 3 _
  rw [E1]
  clear E1
  have O2 := Q1.row #[.slice ta n cap, .int .i64 (L : Int), .int .i64 0, .map (some W1.heap.size), .map none, .map none]
  have M1 : ((W1.alloc (.map #[⟨.string ⟨#[115, 104, 97, 114, 101, 100]⟩, .func (.func 30) #[.pointer (some ⟨w.heap.size, 0, none⟩)] #[], 0⟩, ⟨.string ⟨#[108, 111, 99, 107]⟩, .func (.func 31) #[.pointer (some ⟨w.heap.size, 0, none⟩)] #[], 1⟩] 2)).setRow w.heap.size #[.slice ta n cap, .int .i64 (L : Int), .int .i64 0, .map (some W1.heap.size), .map none, .map none]).heap[W1.heap.size]? = some (.map #[⟨.string ⟨#[115, 104, 97, 114, 101, 100]⟩, .func (.func 30) #[.pointer (some ⟨w.heap.size, 0, none⟩)] #[], 0⟩, ⟨.string ⟨#[108, 111, 99, 107]⟩, .func (.func 31) #[.pointer (some ⟨w.heap.size, 0, none⟩)] #[], 1⟩] 2) := (setRow_other _ (by omega)).trans (World.alloc_heap_new W1 _)
  have B2 := Below.of_row (B1.alloc (by omega) (.map #[⟨.string ⟨#[115, 104, 97, 114, 101, 100]⟩, .func (.func 30) #[.pointer (some ⟨w.heap.size, 0, none⟩)] #[], 0⟩, ⟨.string ⟨#[108, 111, 99, 107]⟩, .func (.func 31) #[.pointer (some ⟨w.heap.size, 0, none⟩)] #[], 1⟩] 2)) (Nat.le_refl _) #[.slice ta n cap, .int .i64 (L : Int), .int .i64 0, .map (some W1.heap.size), .map none, .map none]
  have z2 : ((W1.alloc (.map #[⟨.string ⟨#[115, 104, 97, 114, 101, 100]⟩, .func (.func 30) #[.pointer (some ⟨w.heap.size, 0, none⟩)] #[], 0⟩, ⟨.string ⟨#[108, 111, 99, 107]⟩, .func (.func 31) #[.pointer (some ⟨w.heap.size, 0, none⟩)] #[], 1⟩] 2)).setRow w.heap.size #[.slice ta n cap, .int .i64 (L : Int), .int .i64 0, .map (some W1.heap.size), .map none, .map none]).heap.size ≤ W1.heap.size + 1 ∧ W1.heap.size + 1 ≤ ((W1.alloc (.map #[⟨.string ⟨#[115, 104, 97, 114, 101, 100]⟩, .func (.func 30) #[.pointer (some ⟨w.heap.size, 0, none⟩)] #[], 0⟩, ⟨.string ⟨#[108, 111, 99, 107]⟩, .func (.func 31) #[.pointer (some ⟨w.heap.size, 0, none⟩)] #[], 1⟩] 2)).setRow w.heap.size #[.slice ta n cap, .int .i64 (L : Int), .int .i64 0, .map (some W1.heap.size), .map none, .map none]).heap.size := by rw [(size_setRow (W1.alloc (.map #[⟨.string ⟨#[115, 104, 97, 114, 101, 100]⟩, .func (.func 30) #[.pointer (some ⟨w.heap.size, 0, none⟩)] #[], 0⟩, ⟨.string ⟨#[108, 111, 99, 107]⟩, .func (.func 31) #[.pointer (some ⟨w.heap.size, 0, none⟩)] #[], 1⟩] 2)) w.heap.size #[.slice ta n cap, .int .i64 (L : Int), .int .i64 0, .map (some W1.heap.size), .map none, .map none]).trans (World.size_alloc _ _)]; omega
  obtain ⟨W2, hW2⟩ : ∃ W, W = (W1.alloc (.map #[⟨.string ⟨#[115, 104, 97, 114, 101, 100]⟩, .func (.func 30) #[.pointer (some ⟨w.heap.size, 0, none⟩)] #[], 0⟩, ⟨.string ⟨#[108, 111, 99, 107]⟩, .func (.func 31) #[.pointer (some ⟨w.heap.size, 0, none⟩)] #[], 1⟩] 2)).setRow w.heap.size #[.slice ta n cap, .int .i64 (L : Int), .int .i64 0, .map (some W1.heap.size), .map none, .map none] := ⟨_, rfl⟩
  rw [← hW2] at O2 M1 B2 z2 ⊢
  clear hW2 Q1 c1 f1 hI0 hI1 O1 B1
  have hI0 : (Instr.mapUpdate 81 (.map (some W2.heap.size)) (.string ⟨#[105, 102]⟩) (.func (.func 32) #[.pointer (some ⟨w.heap.size, 0, none⟩)] #[])).run Tryd.prog (W2.alloc (.map #[] 0)) = .ok () (W2.alloc (.map #[⟨.string ⟨#[105, 102]⟩, .func (.func 32) #[.pointer (some ⟨w.heap.size, 0, none⟩)] #[], 0⟩] 1)) := ins_new Tryd.underlying81 Tryd.underlying9 #[] 0 ⟨#[105, 102]⟩ (.func (.func 32) #[.pointer (some ⟨w.heap.size, 0, none⟩)] #[]) (by kernel_rfl)
  have hI1 : (Instr.mapUpdate 81 (.map (some W2.heap.size)) (.string ⟨#[119, 104, 105, 108, 101]⟩) (.func (.func 33) #[.pointer (some ⟨w.heap.size, 0, none⟩)] #[])).run Tryd.prog (W2.alloc (.map #[⟨.string ⟨#[105, 102]⟩, .func (.func 32) #[.pointer (some ⟨w.heap.size, 0, none⟩)] #[], 0⟩] 1)) = .ok () (W2.alloc (.map #[⟨.string ⟨#[105, 102]⟩, .func (.func 32) #[.pointer (some ⟨w.heap.size, 0, none⟩)] #[], 0⟩, ⟨.string ⟨#[119, 104, 105, 108, 101]⟩, .func (.func 33) #[.pointer (some ⟨w.heap.size, 0, none⟩)] #[], 1⟩] 2)) := ins_new Tryd.underlying81 Tryd.underlying9 #[⟨.string ⟨#[105, 102]⟩, .func (.func 32) #[.pointer (some ⟨w.heap.size, 0, none⟩)] #[], 0⟩] 1 ⟨#[119, 104, 105, 108, 101]⟩ (.func (.func 33) #[.pointer (some ⟨w.heap.size, 0, none⟩)] #[]) (by kernel_rfl)
  have hI2 : (Instr.mapUpdate 81 (.map (some W2.heap.size)) (.string ⟨#[108, 111, 99, 107]⟩) (.func (.func 34) #[.pointer (some ⟨w.heap.size, 0, none⟩)] #[])).run Tryd.prog (W2.alloc (.map #[⟨.string ⟨#[105, 102]⟩, .func (.func 32) #[.pointer (some ⟨w.heap.size, 0, none⟩)] #[], 0⟩, ⟨.string ⟨#[119, 104, 105, 108, 101]⟩, .func (.func 33) #[.pointer (some ⟨w.heap.size, 0, none⟩)] #[], 1⟩] 2)) = .ok () (W2.alloc (.map #[⟨.string ⟨#[105, 102]⟩, .func (.func 32) #[.pointer (some ⟨w.heap.size, 0, none⟩)] #[], 0⟩, ⟨.string ⟨#[119, 104, 105, 108, 101]⟩, .func (.func 33) #[.pointer (some ⟨w.heap.size, 0, none⟩)] #[], 1⟩, ⟨.string ⟨#[108, 111, 99, 107]⟩, .func (.func 34) #[.pointer (some ⟨w.heap.size, 0, none⟩)] #[], 2⟩] 3)) := ins_new Tryd.underlying81 Tryd.underlying9 #[⟨.string ⟨#[105, 102]⟩, .func (.func 32) #[.pointer (some ⟨w.heap.size, 0, none⟩)] #[], 0⟩, ⟨.string ⟨#[119, 104, 105, 108, 101]⟩, .func (.func 33) #[.pointer (some ⟨w.heap.size, 0, none⟩)] #[], 1⟩] 2 ⟨#[108, 111, 99, 107]⟩ (.func (.func 34) #[.pointer (some ⟨w.heap.size, 0, none⟩)] #[]) (by kernel_rfl)
  have hI3 : (Instr.mapUpdate 81 (.map (some W2.heap.size)) (.string ⟨#[112, 114, 105, 110, 116]⟩) (.func (.func 35) #[.pointer (some ⟨w.heap.size, 0, none⟩)] #[])).run Tryd.prog (W2.alloc (.map #[⟨.string ⟨#[105, 102]⟩, .func (.func 32) #[.pointer (some ⟨w.heap.size, 0, none⟩)] #[], 0⟩, ⟨.string ⟨#[119, 104, 105, 108, 101]⟩, .func (.func 33) #[.pointer (some ⟨w.heap.size, 0, none⟩)] #[], 1⟩, ⟨.string ⟨#[108, 111, 99, 107]⟩, .func (.func 34) #[.pointer (some ⟨w.heap.size, 0, none⟩)] #[], 2⟩] 3)) = .ok () (W2.alloc (.map #[⟨.string ⟨#[105, 102]⟩, .func (.func 32) #[.pointer (some ⟨w.heap.size, 0, none⟩)] #[], 0⟩, ⟨.string ⟨#[119, 104, 105, 108, 101]⟩, .func (.func 33) #[.pointer (some ⟨w.heap.size, 0, none⟩)] #[], 1⟩, ⟨.string ⟨#[108, 111, 99, 107]⟩, .func (.func 34) #[.pointer (some ⟨w.heap.size, 0, none⟩)] #[], 2⟩, ⟨.string ⟨#[112, 114, 105, 110, 116]⟩, .func (.func 35) #[.pointer (some ⟨w.heap.size, 0, none⟩)] #[], 3⟩] 4)) := ins_new Tryd.underlying81 Tryd.underlying9 #[⟨.string ⟨#[105, 102]⟩, .func (.func 32) #[.pointer (some ⟨w.heap.size, 0, none⟩)] #[], 0⟩, ⟨.string ⟨#[119, 104, 105, 108, 101]⟩, .func (.func 33) #[.pointer (some ⟨w.heap.size, 0, none⟩)] #[], 1⟩, ⟨.string ⟨#[108, 111, 99, 107]⟩, .func (.func 34) #[.pointer (some ⟨w.heap.size, 0, none⟩)] #[], 2⟩] 3 ⟨#[112, 114, 105, 110, 116]⟩ (.func (.func 35) #[.pointer (some ⟨w.heap.size, 0, none⟩)] #[]) (by kernel_rfl)
  have hI4 : (Instr.mapUpdate 81 (.map (some W2.heap.size)) (.string ⟨#[115, 107, 105, 112]⟩) (.func (.func 36) #[.pointer (some ⟨w.heap.size, 0, none⟩)] #[])).run Tryd.prog (W2.alloc (.map #[⟨.string ⟨#[105, 102]⟩, .func (.func 32) #[.pointer (some ⟨w.heap.size, 0, none⟩)] #[], 0⟩, ⟨.string ⟨#[119, 104, 105, 108, 101]⟩, .func (.func 33) #[.pointer (some ⟨w.heap.size, 0, none⟩)] #[], 1⟩, ⟨.string ⟨#[108, 111, 99, 107]⟩, .func (.func 34) #[.pointer (some ⟨w.heap.size, 0, none⟩)] #[], 2⟩, ⟨.string ⟨#[112, 114, 105, 110, 116]⟩, .func (.func 35) #[.pointer (some ⟨w.heap.size, 0, none⟩)] #[], 3⟩] 4)) = .ok () (W2.alloc (.map #[⟨.string ⟨#[105, 102]⟩, .func (.func 32) #[.pointer (some ⟨w.heap.size, 0, none⟩)] #[], 0⟩, ⟨.string ⟨#[119, 104, 105, 108, 101]⟩, .func (.func 33) #[.pointer (some ⟨w.heap.size, 0, none⟩)] #[], 1⟩, ⟨.string ⟨#[108, 111, 99, 107]⟩, .func (.func 34) #[.pointer (some ⟨w.heap.size, 0, none⟩)] #[], 2⟩, ⟨.string ⟨#[112, 114, 105, 110, 116]⟩, .func (.func 35) #[.pointer (some ⟨w.heap.size, 0, none⟩)] #[], 3⟩, ⟨.string ⟨#[115, 107, 105, 112]⟩, .func (.func 36) #[.pointer (some ⟨w.heap.size, 0, none⟩)] #[], 4⟩] 5)) := ins_new Tryd.underlying81 Tryd.underlying9 #[⟨.string ⟨#[105, 102]⟩, .func (.func 32) #[.pointer (some ⟨w.heap.size, 0, none⟩)] #[], 0⟩, ⟨.string ⟨#[119, 104, 105, 108, 101]⟩, .func (.func 33) #[.pointer (some ⟨w.heap.size, 0, none⟩)] #[], 1⟩, ⟨.string ⟨#[108, 111, 99, 107]⟩, .func (.func 34) #[.pointer (some ⟨w.heap.size, 0, none⟩)] #[], 2⟩, ⟨.string ⟨#[112, 114, 105, 110, 116]⟩, .func (.func 35) #[.pointer (some ⟨w.heap.size, 0, none⟩)] #[], 3⟩] 4 ⟨#[115, 107, 105, 112]⟩ (.func (.func 36) #[.pointer (some ⟨w.heap.size, 0, none⟩)] #[]) (by kernel_rfl)
  have Q2 := O2.alloc (.map #[⟨.string ⟨#[105, 102]⟩, .func (.func 32) #[.pointer (some ⟨w.heap.size, 0, none⟩)] #[], 0⟩, ⟨.string ⟨#[119, 104, 105, 108, 101]⟩, .func (.func 33) #[.pointer (some ⟨w.heap.size, 0, none⟩)] #[], 1⟩, ⟨.string ⟨#[108, 111, 99, 107]⟩, .func (.func 34) #[.pointer (some ⟨w.heap.size, 0, none⟩)] #[], 2⟩, ⟨.string ⟨#[112, 114, 105, 110, 116]⟩, .func (.func 35) #[.pointer (some ⟨w.heap.size, 0, none⟩)] #[], 3⟩, ⟨.string ⟨#[115, 107, 105, 112]⟩, .func (.func 36) #[.pointer (some ⟨w.heap.size, 0, none⟩)] #[], 4⟩] 5)
  have c2 : (W2.alloc (.map #[⟨.string ⟨#[105, 102]⟩, .func (.func 32) #[.pointer (some ⟨w.heap.size, 0, none⟩)] #[], 0⟩, ⟨.string ⟨#[119, 104, 105, 108, 101]⟩, .func (.func 33) #[.pointer (some ⟨w.heap.size, 0, none⟩)] #[], 1⟩, ⟨.string ⟨#[108, 111, 99, 107]⟩, .func (.func 34) #[.pointer (some ⟨w.heap.size, 0, none⟩)] #[], 2⟩, ⟨.string ⟨#[112, 114, 105, 110, 116]⟩, .func (.func 35) #[.pointer (some ⟨w.heap.size, 0, none⟩)] #[], 3⟩, ⟨.string ⟨#[115, 107, 105, 112]⟩, .func (.func 36) #[.pointer (some ⟨w.heap.size, 0, none⟩)] #[], 4⟩] 5)).cell? ⟨w.heap.size, 4, none⟩ = some (.map none) := by rw [cell_of_row _ w.heap.size 4 _ _ _ Q2]; rfl
  have f2 := own_frozen Q2 4
  go_upto_region 4 with (fail)
  have E2 : (W2.alloc (.map #[⟨.string ⟨#[105, 102]⟩, .func (.func 32) #[.pointer (some ⟨w.heap.size, 0, none⟩)] #[], 0⟩, ⟨.string ⟨#[119, 104, 105, 108, 101]⟩, .func (.func 33) #[.pointer (some ⟨w.heap.size, 0, none⟩)] #[], 1⟩, ⟨.string ⟨#[108, 111, 99, 107]⟩, .func (.func 34) #[.pointer (some ⟨w.heap.size, 0, none⟩)] #[], 2⟩, ⟨.string ⟨#[112, 114, 105, 110, 116]⟩, .func (.func 35) #[.pointer (some ⟨w.heap.size, 0, none⟩)] #[], 3⟩, ⟨.string ⟨#[115, 107, 105, 112]⟩, .func (.func 36) #[.pointer (some ⟨w.heap.size, 0, none⟩)] #[], 4⟩] 5)).setCell ⟨w.heap.size, 4, none⟩ (.map (some W2.heap.size)) = (W2.alloc (.map #[⟨.string ⟨#[105, 102]⟩, .func (.func 32) #[.pointer (some ⟨w.heap.size, 0, none⟩)] #[], 0⟩, ⟨.string ⟨#[119, 104, 105, 108, 101]⟩, .func (.func 33) #[.pointer (some ⟨w.heap.size, 0, none⟩)] #[], 1⟩, ⟨.string ⟨#[108, 111, 99, 107]⟩, .func (.func 34) #[.pointer (some ⟨w.heap.size, 0, none⟩)] #[], 2⟩, ⟨.string ⟨#[112, 114, 105, 110, 116]⟩, .func (.func 35) #[.pointer (some ⟨w.heap.size, 0, none⟩)] #[], 3⟩, ⟨.string ⟨#[115, 107, 105, 112]⟩, .func (.func 36) #[.pointer (some ⟨w.heap.size, 0, none⟩)] #[], 4⟩] 5)).setRow w.heap.size #[.slice ta n cap, .int .i64 (L : Int), .int .i64 0, .map (some W1.heap.size), .map (some W2.heap.size), .map none] := setCell_row Q2 4 _
  rw [E2]
  clear E2
  have O3 := Q2.row #[.slice ta n cap, .int .i64 (L : Int), .int .i64 0, .map (some W1.heap.size), .map (some W2.heap.size), .map none]
  have M1 : ((W2.alloc (.map #[⟨.string ⟨#[105, 102]⟩, .func (.func 32) #[.pointer (some ⟨w.heap.size, 0, none⟩)] #[], 0⟩, ⟨.string ⟨#[119, 104, 105, 108, 101]⟩, .func (.func 33) #[.pointer (some ⟨w.heap.size, 0, none⟩)] #[], 1⟩, ⟨.string ⟨#[108, 111, 99, 107]⟩, .func (.func 34) #[.pointer (some ⟨w.heap.size, 0, none⟩)] #[], 2⟩, ⟨.string ⟨#[112, 114, 105, 110, 116]⟩, .func (.func 35) #[.pointer (some ⟨w.heap.size, 0, none⟩)] #[], 3⟩, ⟨.string ⟨#[115, 107, 105, 112]⟩, .func (.func 36) #[.pointer (some ⟨w.heap.size, 0, none⟩)] #[], 4⟩] 5)).setRow w.heap.size #[.slice ta n cap, .int .i64 (L : Int), .int .i64 0, .map (some W1.heap.size), .map (some W2.heap.size), .map none]).heap[W1.heap.size]? = _ := (setRow_other _ (by omega)).trans ((((Below.refl W2.heap.size W2).alloc (Nat.le_refl _) _).block _ (by omega)).trans M1)
  have M2 : ((W2.alloc (.map #[⟨.string ⟨#[105, 102]⟩, .func (.func 32) #[.pointer (some ⟨w.heap.size, 0, none⟩)] #[], 0⟩, ⟨.string ⟨#[119, 104, 105, 108, 101]⟩, .func (.func 33) #[.pointer (some ⟨w.heap.size, 0, none⟩)] #[], 1⟩, ⟨.string ⟨#[108, 111, 99, 107]⟩, .func (.func 34) #[.pointer (some ⟨w.heap.size, 0, none⟩)] #[], 2⟩, ⟨.string ⟨#[112, 114, 105, 110, 116]⟩, .func (.func 35) #[.pointer (some ⟨w.heap.size, 0, none⟩)] #[], 3⟩, ⟨.string ⟨#[115, 107, 105, 112]⟩, .func (.func 36) #[.pointer (some ⟨w.heap.size, 0, none⟩)] #[], 4⟩] 5)).setRow w.heap.size #[.slice ta n cap, .int .i64 (L : Int), .int .i64 0, .map (some W1.heap.size), .map (some W2.heap.size), .map none]).heap[W2.heap.size]? = some (.map #[⟨.string ⟨#[105, 102]⟩, .func (.func 32) #[.pointer (some ⟨w.heap.size, 0, none⟩)] #[], 0⟩, ⟨.string ⟨#[119, 104, 105, 108, 101]⟩, .func (.func 33) #[.pointer (some ⟨w.heap.size, 0, none⟩)] #[], 1⟩, ⟨.string ⟨#[108, 111, 99, 107]⟩, .func (.func 34) #[.pointer (some ⟨w.heap.size, 0, none⟩)] #[], 2⟩, ⟨.string ⟨#[112, 114, 105, 110, 116]⟩, .func (.func 35) #[.pointer (some ⟨w.heap.size, 0, none⟩)] #[], 3⟩, ⟨.string ⟨#[115, 107, 105, 112]⟩, .func (.func 36) #[.pointer (some ⟨w.heap.size, 0, none⟩)] #[], 4⟩] 5) := (setRow_other _ (by omega)).trans (World.alloc_heap_new W2 _)
  have B3 := Below.of_row (B2.alloc (by omega) (.map #[⟨.string ⟨#[105, 102]⟩, .func (.func 32) #[.pointer (some ⟨w.heap.size, 0, none⟩)] #[], 0⟩, ⟨.string ⟨#[119, 104, 105, 108, 101]⟩, .func (.func 33) #[.pointer (some ⟨w.heap.size, 0, none⟩)] #[], 1⟩, ⟨.string ⟨#[108, 111, 99, 107]⟩, .func (.func 34) #[.pointer (some ⟨w.heap.size, 0, none⟩)] #[], 2⟩, ⟨.string ⟨#[112, 114, 105, 110, 116]⟩, .func (.func 35) #[.pointer (some ⟨w.heap.size, 0, none⟩)] #[], 3⟩, ⟨.string ⟨#[115, 107, 105, 112]⟩, .func (.func 36) #[.pointer (some ⟨w.heap.size, 0, none⟩)] #[], 4⟩] 5)) (Nat.le_refl _) #[.slice ta n cap, .int .i64 (L : Int), .int .i64 0, .map (some W1.heap.size), .map (some W2.heap.size), .map none]
  have z3 : ((W2.alloc (.map #[⟨.string ⟨#[105, 102]⟩, .func (.func 32) #[.pointer (some ⟨w.heap.size, 0, none⟩)] #[], 0⟩, ⟨.string ⟨#[119, 104, 105, 108, 101]⟩, .func (.func 33) #[.pointer (some ⟨w.heap.size, 0, none⟩)] #[], 1⟩, ⟨.string ⟨#[108, 111, 99, 107]⟩, .func (.func 34) #[.pointer (some ⟨w.heap.size, 0, none⟩)] #[], 2⟩, ⟨.string ⟨#[112, 114, 105, 110, 116]⟩, .func (.func 35) #[.pointer (some ⟨w.heap.size, 0, none⟩)] #[], 3⟩, ⟨.string ⟨#[115, 107, 105, 112]⟩, .func (.func 36) #[.pointer (some ⟨w.heap.size, 0, none⟩)] #[], 4⟩] 5)).setRow w.heap.size #[.slice ta n cap, .int .i64 (L : Int), .int .i64 0, .map (some W1.heap.size), .map (some W2.heap.size), .map none]).heap.size ≤ W2.heap.size + 1 ∧ W2.heap.size + 1 ≤ ((W2.alloc (.map #[⟨.string ⟨#[105, 102]⟩, .func (.func 32) #[.pointer (some ⟨w.heap.size, 0, none⟩)] #[], 0⟩, ⟨.string ⟨#[119, 104, 105, 108, 101]⟩, .func (.func 33) #[.pointer (some ⟨w.heap.size, 0, none⟩)] #[], 1⟩, ⟨.string ⟨#[108, 111, 99, 107]⟩, .func (.func 34) #[.pointer (some ⟨w.heap.size, 0, none⟩)] #[], 2⟩, ⟨.string ⟨#[112, 114, 105, 110, 116]⟩, .func (.func 35) #[.pointer (some ⟨w.heap.size, 0, none⟩)] #[], 3⟩, ⟨.string ⟨#[115, 107, 105, 112]⟩, .func (.func 36) #[.pointer (some ⟨w.heap.size, 0, none⟩)] #[], 4⟩] 5)).setRow w.heap.size #[.slice ta n cap, .int .i64 (L : Int), .int .i64 0, .map (some W1.heap.size), .map (some W2.heap.size), .map none]).heap.size := by rw [(size_setRow (W2.alloc (.map #[⟨.string ⟨#[105, 102]⟩, .func (.func 32) #[.pointer (some ⟨w.heap.size, 0, none⟩)] #[], 0⟩, ⟨.string ⟨#[119, 104, 105, 108, 101]⟩, .func (.func 33) #[.pointer (some ⟨w.heap.size, 0, none⟩)] #[], 1⟩, ⟨.string ⟨#[108, 111, 99, 107]⟩, .func (.func 34) #[.pointer (some ⟨w.heap.size, 0, none⟩)] #[], 2⟩, ⟨.string ⟨#[112, 114, 105, 110, 116]⟩, .func (.func 35) #[.pointer (some ⟨w.heap.size, 0, none⟩)] #[], 3⟩, ⟨.string ⟨#[115, 107, 105, 112]⟩, .func (.func 36) #[.pointer (some ⟨w.heap.size, 0, none⟩)] #[], 4⟩] 5)) w.heap.size #[.slice ta n cap, .int .i64 (L : Int), .int .i64 0, .map (some W1.heap.size), .map (some W2.heap.size), .map none]).trans (World.size_alloc _ _)]; omega
  obtain ⟨W3, hW3⟩ : ∃ W, W = (W2.alloc (.map #[⟨.string ⟨#[105, 102]⟩, .func (.func 32) #[.pointer (some ⟨w.heap.size, 0, none⟩)] #[], 0⟩, ⟨.string ⟨#[119, 104, 105, 108, 101]⟩, .func (.func 33) #[.pointer (some ⟨w.heap.size, 0, none⟩)] #[], 1⟩, ⟨.string ⟨#[108, 111, 99, 107]⟩, .func (.func 34) #[.pointer (some ⟨w.heap.size, 0, none⟩)] #[], 2⟩, ⟨.string ⟨#[112, 114, 105, 110, 116]⟩, .func (.func 35) #[.pointer (some ⟨w.heap.size, 0, none⟩)] #[], 3⟩, ⟨.string ⟨#[115, 107, 105, 112]⟩, .func (.func 36) #[.pointer (some ⟨w.heap.size, 0, none⟩)] #[], 4⟩] 5)).setRow w.heap.size #[.slice ta n cap, .int .i64 (L : Int), .int .i64 0, .map (some W1.heap.size), .map (some W2.heap.size), .map none] := ⟨_, rfl⟩
  rw [← hW3] at O3 M1 M2 B3 z3 ⊢
  clear hW3 Q2 c2 f2 hI0 hI1 hI2 hI3 hI4 O2 B2
  have K3 : Below W3.heap.size W3 (W3.alloc (.map #[] 0)) := (Below.refl _ W3).alloc (Nat.le_refl _) _
  have N3 : (W3.alloc (.map #[] 0)).heap[W3.heap.size]? = some (.map #[] 0) := World.alloc_heap_new W3 _
  have y3 := World.size_alloc W3 (.map #[] 0)
  go_wp2_with fail
  go_at_call 37
  refine (p_mkunary _ _).mono ?_
  rintro e w4 ⟨rfl, hw4⟩
  rw [World.size_alloc]
  generalize W3.alloc (.map #[] 0) = V3 at K3 N3 y3 hw4
  have z4 : w4.heap.size ≤ W3.heap.size + 3 ∧ W3.heap.size + 3 ≤ w4.heap.size := by rw [hw4, World.size_alloc, World.size_alloc, y3]; omega
  have D4 : Below V3.heap.size V3 w4 := by rw [hw4]; exact ((Below.refl _ V3).alloc (Nat.le_refl _) _).alloc (by rw [World.size_alloc]; omega) _
  have b42 : w4.heap[W3.heap.size + 1 + 1]? = some (.cells #[.int .u8 17] 23 (0, 0)) := by
    rw [hw4, ← y3, ← World.size_alloc V3]; exact World.alloc_heap_new _ _
  have b41 : w4.heap[W3.heap.size + 1]? = some (.cells #[.pointer (some ⟨w.heap.size, 0, none⟩)] 39 (0, 0)) := by
    rw [hw4, ← y3, Below.heap_alloc _ _ _ (by rw [World.size_alloc]; omega)]; exact World.alloc_heap_new _ _
  clear hw4
  have N4 := (D4.block W3.heap.size (by omega)).trans N3
  have K4 := K3.trans (D4.mono (by omega))
  clear N3 K3 D4 y3
  have hI0 : (Instr.mapUpdate 82 (.map (some W3.heap.size)) (.string ⟨#[45]⟩) (.func (.func 63) #[] #[.pointer (some ⟨W3.heap.size + 1, 0, none⟩), .pointer (some ⟨W3.heap.size + 1 + 1, 0, none⟩)])).run Tryd.prog w4 = .ok () (putB w4 W3.heap.size (.map #[⟨.string ⟨#[45]⟩, .func (.func 63) #[] #[.pointer (some ⟨W3.heap.size + 1, 0, none⟩), .pointer (some ⟨W3.heap.size + 1 + 1, 0, none⟩)], 0⟩] 1)) := run_ins Tryd.underlying82 Tryd.underlying9 N4 ⟨#[45]⟩ (.func (.func 63) #[] #[.pointer (some ⟨W3.heap.size + 1, 0, none⟩), .pointer (some ⟨W3.heap.size + 1 + 1, 0, none⟩)]) (by kernel_rfl)
  go_wp2_with fail
  obtain ⟨w5, hw5⟩ : ∃ W, W = putB w4 W3.heap.size (.map #[⟨.string ⟨#[45]⟩, .func (.func 63) #[] #[.pointer (some ⟨W3.heap.size + 1, 0, none⟩), .pointer (some ⟨W3.heap.size + 1 + 1, 0, none⟩)], 0⟩] 1) := ⟨_, rfl⟩
  rw [← hw5]
  have z5 : w5.heap.size ≤ W3.heap.size + 3 ∧ W3.heap.size + 3 ≤ w5.heap.size := by rw [hw5, putB_size]; omega
  have N5 : w5.heap[W3.heap.size]? = some (.map #[⟨.string ⟨#[45]⟩, .func (.func 63) #[] #[.pointer (some ⟨W3.heap.size + 1, 0, none⟩), .pointer (some ⟨W3.heap.size + 1 + 1, 0, none⟩)], 0⟩] 1) := by rw [hw5]; exact putB_same _ (by omega)
  have b51 := (putB_other (w := w4) (r := W3.heap.size) (.map #[⟨.string ⟨#[45]⟩, .func (.func 63) #[] #[.pointer (some ⟨W3.heap.size + 1, 0, none⟩), .pointer (some ⟨W3.heap.size + 1 + 1, 0, none⟩)], 0⟩] 1) (by omega)).trans b41
  have b52 := (putB_other (w := w4) (r := W3.heap.size) (.map #[⟨.string ⟨#[45]⟩, .func (.func 63) #[] #[.pointer (some ⟨W3.heap.size + 1, 0, none⟩), .pointer (some ⟨W3.heap.size + 1 + 1, 0, none⟩)], 0⟩] 1) (by omega)).trans b42
  have K5 := putB_below (.map #[⟨.string ⟨#[45]⟩, .func (.func 63) #[] #[.pointer (some ⟨W3.heap.size + 1, 0, none⟩), .pointer (some ⟨W3.heap.size + 1 + 1, 0, none⟩)], 0⟩] 1) K4 (Nat.le_refl _)
  rw [← hw5] at b51 b52 K5
  clear hw5 b41 b42 K4 N4 hI0
  go_at_call 37
  refine (p_mkunary _ _).mono ?_
  rintro e w6 ⟨rfl, hw6⟩
  have y5 : w5.heap.size = W3.heap.size + 3 := by omega
  rw [y5]
  have z6 : w6.heap.size ≤ W3.heap.size + 5 ∧ W3.heap.size + 5 ≤ w6.heap.size := by rw [hw6, World.size_alloc, World.size_alloc, y5]; omega
  have D6 : Below w5.heap.size w5 w6 := by rw [hw6]; exact ((Below.refl _ w5).alloc (Nat.le_refl _) _).alloc (by rw [World.size_alloc]; omega) _
  have b64 : w6.heap[W3.heap.size + 3 + 1]? = some (.cells #[.int .u8 18] 23 (0, 0)) := by
    rw [hw6, ← y5, ← World.size_alloc w5]; exact World.alloc_heap_new _ _
  have b63 : w6.heap[W3.heap.size + 3]? = some (.cells #[.pointer (some ⟨w.heap.size, 0, none⟩)] 39 (0, 0)) := by
    rw [hw6, ← y5, Below.heap_alloc _ _ _ (by rw [World.size_alloc]; omega)]; exact World.alloc_heap_new _ _
  clear hw6
  have N6 := (D6.block W3.heap.size (by omega)).trans N5
  have b61 := (D6.block (W3.heap.size + 1) (by omega)).trans b51
  have b62 := (D6.block (W3.heap.size + 1 + 1) (by omega)).trans b52
  have K6 := K5.trans (D6.mono (by omega))
  clear y5 N5 K5 D6 b51 b52
  have hI1 : (Instr.mapUpdate 82 (.map (some W3.heap.size)) (.string ⟨#[33]⟩) (.func (.func 63) #[] #[.pointer (some ⟨W3.heap.size + 3, 0, none⟩), .pointer (some ⟨W3.heap.size + 3 + 1, 0, none⟩)])).run Tryd.prog w6 = .ok () (putB w6 W3.heap.size (.map #[⟨.string ⟨#[45]⟩, .func (.func 63) #[] #[.pointer (some ⟨W3.heap.size + 1, 0, none⟩), .pointer (some ⟨W3.heap.size + 1 + 1, 0, none⟩)], 0⟩, ⟨.string ⟨#[33]⟩, .func (.func 63) #[] #[.pointer (some ⟨W3.heap.size + 3, 0, none⟩), .pointer (some ⟨W3.heap.size + 3 + 1, 0, none⟩)], 1⟩] 2)) := run_ins Tryd.underlying82 Tryd.underlying9 N6 ⟨#[33]⟩ (.func (.func 63) #[] #[.pointer (some ⟨W3.heap.size + 3, 0, none⟩), .pointer (some ⟨W3.heap.size + 3 + 1, 0, none⟩)]) (by kernel_rfl)
  have N7 : (putB w6 W3.heap.size (.map #[⟨.string ⟨#[45]⟩, .func (.func 63) #[] #[.pointer (some ⟨W3.heap.size + 1, 0, none⟩), .pointer (some ⟨W3.heap.size + 1 + 1, 0, none⟩)], 0⟩, ⟨.string ⟨#[33]⟩, .func (.func 63) #[] #[.pointer (some ⟨W3.heap.size + 3, 0, none⟩), .pointer (some ⟨W3.heap.size + 3 + 1, 0, none⟩)], 1⟩] 2)).heap[W3.heap.size]? = some (.map #[⟨.string ⟨#[45]⟩, .func (.func 63) #[] #[.pointer (some ⟨W3.heap.size + 1, 0, none⟩), .pointer (some ⟨W3.heap.size + 1 + 1, 0, none⟩)], 0⟩, ⟨.string ⟨#[33]⟩, .func (.func 63) #[] #[.pointer (some ⟨W3.heap.size + 3, 0, none⟩), .pointer (some ⟨W3.heap.size + 3 + 1, 0, none⟩)], 1⟩] 2) := putB_same _ (by omega)
  have hI2 : (Instr.mapUpdate 82 (.map (some W3.heap.size)) (.string ⟨#[40]⟩) (.func (.func 38) #[.pointer (some ⟨w.heap.size, 0, none⟩)] #[])).run Tryd.prog (putB w6 W3.heap.size (.map #[⟨.string ⟨#[45]⟩, .func (.func 63) #[] #[.pointer (some ⟨W3.heap.size + 1, 0, none⟩), .pointer (some ⟨W3.heap.size + 1 + 1, 0, none⟩)], 0⟩, ⟨.string ⟨#[33]⟩, .func (.func 63) #[] #[.pointer (some ⟨W3.heap.size + 3, 0, none⟩), .pointer (some ⟨W3.heap.size + 3 + 1, 0, none⟩)], 1⟩] 2)) = .ok () (putB (putB w6 W3.heap.size (.map #[⟨.string ⟨#[45]⟩, .func (.func 63) #[] #[.pointer (some ⟨W3.heap.size + 1, 0, none⟩), .pointer (some ⟨W3.heap.size + 1 + 1, 0, none⟩)], 0⟩, ⟨.string ⟨#[33]⟩, .func (.func 63) #[] #[.pointer (some ⟨W3.heap.size + 3, 0, none⟩), .pointer (some ⟨W3.heap.size + 3 + 1, 0, none⟩)], 1⟩] 2)) W3.heap.size (.map #[⟨.string ⟨#[45]⟩, .func (.func 63) #[] #[.pointer (some ⟨W3.heap.size + 1, 0, none⟩), .pointer (some ⟨W3.heap.size + 1 + 1, 0, none⟩)], 0⟩, ⟨.string ⟨#[33]⟩, .func (.func 63) #[] #[.pointer (some ⟨W3.heap.size + 3, 0, none⟩), .pointer (some ⟨W3.heap.size + 3 + 1, 0, none⟩)], 1⟩, ⟨.string ⟨#[40]⟩, .func (.func 38) #[.pointer (some ⟨w.heap.size, 0, none⟩)] #[], 2⟩] 3)) := run_ins Tryd.underlying82 Tryd.underlying9 N7 ⟨#[40]⟩ (.func (.func 38) #[.pointer (some ⟨w.heap.size, 0, none⟩)] #[]) (by kernel_rfl)
  obtain ⟨w8, hw8⟩ : ∃ W, W = putB (putB w6 W3.heap.size (.map #[⟨.string ⟨#[45]⟩, .func (.func 63) #[] #[.pointer (some ⟨W3.heap.size + 1, 0, none⟩), .pointer (some ⟨W3.heap.size + 1 + 1, 0, none⟩)], 0⟩, ⟨.string ⟨#[33]⟩, .func (.func 63) #[] #[.pointer (some ⟨W3.heap.size + 3, 0, none⟩), .pointer (some ⟨W3.heap.size + 3 + 1, 0, none⟩)], 1⟩] 2)) W3.heap.size (.map #[⟨.string ⟨#[45]⟩, .func (.func 63) #[] #[.pointer (some ⟨W3.heap.size + 1, 0, none⟩), .pointer (some ⟨W3.heap.size + 1 + 1, 0, none⟩)], 0⟩, ⟨.string ⟨#[33]⟩, .func (.func 63) #[] #[.pointer (some ⟨W3.heap.size + 3, 0, none⟩), .pointer (some ⟨W3.heap.size + 3 + 1, 0, none⟩)], 1⟩, ⟨.string ⟨#[40]⟩, .func (.func 38) #[.pointer (some ⟨w.heap.size, 0, none⟩)] #[], 2⟩] 3) := ⟨_, rfl⟩
  rw [← hw8] at hI2
  have z8 : w8.heap.size ≤ W3.heap.size + 5 ∧ W3.heap.size + 5 ≤ w8.heap.size := by rw [hw8, putB_size, putB_size]; omega
  have N8 : w8.heap[W3.heap.size]? = some (.map #[⟨.string ⟨#[45]⟩, .func (.func 63) #[] #[.pointer (some ⟨W3.heap.size + 1, 0, none⟩), .pointer (some ⟨W3.heap.size + 1 + 1, 0, none⟩)], 0⟩, ⟨.string ⟨#[33]⟩, .func (.func 63) #[] #[.pointer (some ⟨W3.heap.size + 3, 0, none⟩), .pointer (some ⟨W3.heap.size + 3 + 1, 0, none⟩)], 1⟩, ⟨.string ⟨#[40]⟩, .func (.func 38) #[.pointer (some ⟨w.heap.size, 0, none⟩)] #[], 2⟩] 3) := by rw [hw8]; exact putB_same _ (by rw [putB_size]; omega)
  have P8 : ∀ b, b ≠ W3.heap.size → w8.heap[b]? = w6.heap[b]? := fun b hb => by rw [hw8, putB_other _ hb, putB_other _ hb]
  have K8 := putB_below (.map #[⟨.string ⟨#[45]⟩, .func (.func 63) #[] #[.pointer (some ⟨W3.heap.size + 1, 0, none⟩), .pointer (some ⟨W3.heap.size + 1 + 1, 0, none⟩)], 0⟩, ⟨.string ⟨#[33]⟩, .func (.func 63) #[] #[.pointer (some ⟨W3.heap.size + 3, 0, none⟩), .pointer (some ⟨W3.heap.size + 3 + 1, 0, none⟩)], 1⟩, ⟨.string ⟨#[40]⟩, .func (.func 38) #[.pointer (some ⟨w.heap.size, 0, none⟩)] #[], 2⟩] 3) (putB_below (.map #[⟨.string ⟨#[45]⟩, .func (.func 63) #[] #[.pointer (some ⟨W3.heap.size + 1, 0, none⟩), .pointer (some ⟨W3.heap.size + 1 + 1, 0, none⟩)], 0⟩, ⟨.string ⟨#[33]⟩, .func (.func 63) #[] #[.pointer (some ⟨W3.heap.size + 3, 0, none⟩), .pointer (some ⟨W3.heap.size + 3 + 1, 0, none⟩)], 1⟩] 2) K6 (Nat.le_refl _)) (Nat.le_refl _)
  rw [← hw8] at K8
  have b81 := (P8 _ (by omega)).trans b61
  have b82 := (P8 _ (by omega)).trans b62
  have b83 := (P8 _ (by omega)).trans b63
  have b84 := (P8 _ (by omega)).trans b64
  clear hw8 P8 N7 N6 K6 b61 b62 b63 b64
  have Q8 : Own w8 w.heap.size 84 #[.slice ta n cap, .int .i64 (L : Int), .int .i64 0, .map (some W1.heap.size), .map (some W2.heap.size), .map none] := (K8.block _ (by omega)).trans O3
  have c8 : w8.cell? ⟨w.heap.size, 5, none⟩ = some (.map none) := by rw [cell_of_row _ w.heap.size 5 _ _ _ Q8]; rfl
  have f8 := own_frozen Q8 5
  go_wp2_with fail
  go_ret
  have E8 : w8.setCell ⟨w.heap.size, 5, none⟩ (.map (some W3.heap.size)) = w8.setRow w.heap.size #[.slice ta n cap, .int .i64 (L : Int), .int .i64 0, .map (some W1.heap.size), .map (some W2.heap.size), .map (some W3.heap.size)] := setCell_row Q8 5 _
  rw [E8]
  have O9 := Q8.row #[.slice ta n cap, .int .i64 (L : Int), .int .i64 0, .map (some W1.heap.size), .map (some W2.heap.size), .map (some W3.heap.size)]
  have T9 : ∀ b, b ≠ w.heap.size → (w8.setRow w.heap.size #[.slice ta n cap, .int .i64 (L : Int), .int .i64 0, .map (some W1.heap.size), .map (some W2.heap.size), .map (some W3.heap.size)]).heap[b]? = w8.heap[b]? := fun b hb => setRow_other _ hb
  have L9 := Below.of_row (B3.trans (K8.mono (by omega))) (Nat.le_refl _) #[.slice ta n cap, .int .i64 (L : Int), .int .i64 0, .map (some W1.heap.size), .map (some W2.heap.size), .map (some W3.heap.size)]
  obtain ⟨ht, hlt, T, hs⟩ := HT.out
  have hn := HN.out
  refine ⟨rfl, L9, ⟨⟨?_, ?_, ?_, ?_, ?_, ?_, ?_, ?_, ?_, ?_, ?_, ?_, hs⟩, ?_, Nat.zero_le _⟩⟩
  · exact ht.keep L9
  · intro g off h
    have := hlt g off h
    show g ≠ w.heap.size
    omega
  · skip
    rw [show (newC w ta cap toks L).D = W1.heap.size by show w.heap.size + 1 = _; omega]
    exact (T9 _ (by omega)).trans ((K8.block _ (by omega)).trans M1)
  · skip
    rw [show (newC w ta cap toks L).S = W2.heap.size by show w.heap.size + 2 = _; omega]
    exact (T9 _ (by omega)).trans ((K8.block _ (by omega)).trans M2)
  · rw [show (newC w ta cap toks L).O = W3.heap.size by show w.heap.size + 3 = _; omega]
    have e1 : (newC w ta cap toks L).bm = W3.heap.size + 1 := by show w.heap.size + 4 = _; omega
    have e2 : (newC w ta cap toks L).bn = W3.heap.size + 3 := by show w.heap.size + 6 = _; omega
    unfold Par.operE
    rw [e1, e2]
    exact (T9 _ (by omega)).trans N8
  · rw [show (newC w ta cap toks L).bm = W3.heap.size + 1 by show w.heap.size + 4 = _; omega]
    exact (T9 _ (by omega)).trans b81
  · rw [show (newC w ta cap toks L).bm = W3.heap.size + 1 by show w.heap.size + 4 = _; omega]
    exact (T9 _ (by omega)).trans b82
  · rw [show (newC w ta cap toks L).bn = W3.heap.size + 3 by show w.heap.size + 6 = _; omega]
    exact (T9 _ (by omega)).trans b83
  · rw [show (newC w ta cap toks L).bn = W3.heap.size + 3 by show w.heap.size + 6 = _; omega]
    exact (T9 _ (by omega)).trans b84
  · simp only [newC]
    omega
  · have s1 := T.size1
    have s2 := T.size2
    have := L9.size
    exact ⟨by omega, by omega, fun i hi => (L9.cell (by exact s1)).trans (T.lev i hi), fun i hi => (L9.cell (by exact s2)).trans (T.sgn i hi)⟩
  · have s1 := T.size1
    have s2 := T.size2
    simp only [newC]
    omega
  · rw [show (newC w ta cap toks L).D = W1.heap.size by show w.heap.size + 1 = _; omega, show (newC w ta cap toks L).S = W2.heap.size by show w.heap.size + 2 = _; omega, show (newC w ta cap toks L).O = W3.heap.size by show w.heap.size + 3 = _; omega]
    show (w8.setRow w.heap.size #[.slice ta n cap, .int .i64 (L : Int), .int .i64 0, .map (some W1.heap.size), .map (some W2.heap.size), .map (some W3.heap.size)]).heap[w.heap.size]? = some (.cells #[.slice ta toks.length cap, .int .i64 (L : Int), .int .i64 0, .map (some W1.heap.size), .map (some W2.heap.size), .map (some W3.heap.size)] 84 (0, 0))
    rw [← hn]
    exact O9
end Go.Proofs.YtgaibdipecngkaaDoor

namespace Go.Proofs.YtgaibdipecngkaaDoor
open Go.RowKit
set_option linter.unusedVariables false
theorem any_eql (T : TypeId) (v : Value) (w : World) : (binOp .eql 20 (.iface T v) .nilIface).run Tryd.prog w = .ok (.bool false) w := by kernel_rfl
theorem any_flt (v : Value) (w : World) : (Instr.typeAssert (.iface 29 v) 20 29 true).run Tryd.prog w = .ok (.tuple #[v, .bool true]) w := by kernel_rfl
theorem any_nil (w : World) : (binOp .eql 20 .nilIface .nilIface).run Tryd.prog w = .ok (.bool true) w := by kernel_rfl
section
variable {o : Oper} {a : Act} {w : World} {K : Act → World → Prop} {Q : Exit → Act → World → Prop}
theorem wp_st_row {T : TypeId} {n : Nat} (hT : RowT T n) {x y : Operand} (ho : o.op = .store T x y) {g : Nat} {cs old : Array Value} (hg : Own w g T old) (hx : a.eval x = .pointer (some ⟨g, 0, none⟩)) (hy : a.eval y = .agg cs) (hn : cs.size = n) (hm : old.size = n) (h1 : cs.all (·.oneCell') = true)
    (h : K (a.put o.dst undef) (w.setRow g cs)) : o.wp Tryd.prog a w K Q := by
  obtain ⟨d, _, _, h3⟩ := hT
  exact wp_store_row T x y ho g cs hx hy T old hg (by rw [h3, hn]) (by rw [hm, hn]) h1 h
set_option maxHeartbeats 1000000 in
theorem wp_st_err {x : Operand} {z u : Int} (ho : o.op = .store 27 x (.const (.int .i64 z))) {p : Addr} (hx : a.eval x = .pointer (some p)) (hu : w.cell? p = some (.int .i64 u)) (hf : w.frozen? p = false) (h : K (a.put o.dst undef) (w.setCell p (.int .i64 z))) : o.wp Tryd.prog a w K Q := by
  have hrun : (execOp a.eval o).run Tryd.prog w = .ok .skip (w.setCell p (.int .i64 z)) := by
    unfold execOp
    simp only [ho, hx]
    go_simp
  unfold Oper.wp
  rw [hrun]
  exact h
end
set_option maxRecDepth 100000 in
set_option maxHeartbeats 4000000 in
theorem catch_ex {w : World} {n t y f : Nat} {ct cf : Array Value} {cy : Int} {p q : Int} {older : List PanicEntry} (h1 : Own w t 26 ct) (hs1 : ct.size = zEx.size) (h2 : Own w y 27 #[.int .i64 cy]) (h3 : Own w f 29 cf) (hs3 : cf.size = 2) (hn : n ≤ t ∧ n ≤ y ∧ n ≤ f) (hd : t ≠ y ∧ t ≠ f ∧ y ≠ f) :
    CallsD Tryd.prog 18 #[.pointer (some ⟨t, 0, none⟩), .pointer (some ⟨y, 0, none⟩), .pointer (some ⟨f, 0, none⟩)] (.panicking ({ v := .iface 29 (.agg #[.int .i64 p, .int .i64 q]), recovered := false } :: older)) w fun e u' w' =>
      e = .returned (.tuple #[]) ∧ u' = .panicking ({ v := .iface 29 (.agg #[.int .i64 p, .int .i64 q]), recovered := true } :: older) ∧ Own w' t 26 zEx ∧ Own w' y 27 #[.int .i64 30] ∧ Own w' f 29 #[.int .i64 p, .int .i64 q] ∧ Below n w w' := by
  refine callsD_of_wpS Tryd.func18 rfl fun c₀ cs hu => ?_
  apply wpS_seq
  apply wpS_region
  simp [wpOpsS, go_sem, recoverD, hu, Tryd.ntmps18, Exit.thenS]
  rw [show (#[.pointer (some ⟨t, 0, none⟩), .pointer (some ⟨y, 0, none⟩), .pointer (some ⟨f, 0, none⟩)] ++ (((Array.replicate 17 undef).setIfInBounds 4 (.iface 29 (.agg #[.int .i64 p, .int .i64 q]))).setIfInBounds 0 (.iface 29 (.agg #[.int .i64 p, .int .i64 q]))) : Array Value) = #[.pointer (some ⟨t, 0, none⟩), .pointer (some ⟨y, 0, none⟩), .pointer (some ⟨f, 0, none⟩), .iface 29 (.agg #[.int .i64 p, .int .i64 q]), undef, undef, undef, .iface 29 (.agg #[.int .i64 p, .int .i64 q]), undef, undef, undef, undef, undef, undef, undef, undef, undef, undef, undef, undef] from by kernel_rfl]
  refine wpS_of_wp ?_
  generalize hQ : (fun e a' w' => bodyPostS _ _ _ _ _ e a' _ w') = Q
  have F1 := any_eql
  have F2 := any_flt
  go_upto_region 2 with (fail)
  go_upto_region 6 with (fail)
  have l1 := h1.lt
  have l2 := h2.lt
  have l3 := h3.lt
  have OB := (Own.new w 29 #[.int .i64 p, .int .i64 q]).alloc (.cells #[.int .u8 0, .int .u8 0, .int .i64 0, .string ⟨#[]⟩, .slice none 0 0, .int .i64 0] 26)
  have OE := Own.new (w.alloc (.cells #[.int .i64 p, .int .i64 q] 29)) 26 #[.int .u8 0, .int .u8 0, .int .i64 0, .string ⟨#[]⟩, .slice none 0 0, .int .i64 0]
  rw [World.size_alloc] at OE
  have o1 := (h1.alloc (.cells #[.int .i64 p, .int .i64 q] 29)).alloc (.cells #[.int .u8 0, .int .u8 0, .int .i64 0, .string ⟨#[]⟩, .slice none 0 0, .int .i64 0] 26)
  have o2 := (h2.alloc (.cells #[.int .i64 p, .int .i64 q] 29)).alloc (.cells #[.int .u8 0, .int .u8 0, .int .i64 0, .string ⟨#[]⟩, .slice none 0 0, .int .i64 0] 26)
  have o3 := (h3.alloc (.cells #[.int .i64 p, .int .i64 q] 29)).alloc (.cells #[.int .u8 0, .int .u8 0, .int .i64 0, .string ⟨#[]⟩, .slice none 0 0, .int .i64 0] 26)
  have B6 : Below n w ((w.alloc (.cells #[.int .i64 p, .int .i64 q] 29)).alloc (.cells #[.int .u8 0, .int .u8 0, .int .i64 0, .string ⟨#[]⟩, .slice none 0 0, .int .i64 0] 26)) := ((Below.refl n w).alloc (by omega) _).alloc (by rw [World.size_alloc]; omega) _
  refine wp_region_held (S := fun W => Own W w.heap.size 29 #[.int .i64 p, .int .i64 q] ∧ Own W (w.heap.size + 1) 26 #[.int .u8 0, .int .u8 0, .int .i64 0, .string ⟨#[]⟩, .slice none 0 0, .int .i64 0]) (by kernel_rfl) ?_
  change wpAnyH _ _ _ _ _ _ _ _ (((w.alloc (.cells #[.int .i64 p, .int .i64 q] 29)).alloc (.cells #[.int .u8 0, .int .u8 0, .int .i64 0, .string ⟨#[]⟩, .slice none 0 0, .int .i64 0] 26)).drew)
  have B7 := B6.drew
  have OB : Own (((w.alloc (.cells #[.int .i64 p, .int .i64 q] 29)).alloc (.cells #[.int .u8 0, .int .u8 0, .int .i64 0, .string ⟨#[]⟩, .slice none 0 0, .int .i64 0] 26)).drew) _ _ _ := OB
  have OE : Own (((w.alloc (.cells #[.int .i64 p, .int .i64 q] 29)).alloc (.cells #[.int .u8 0, .int .u8 0, .int .i64 0, .string ⟨#[]⟩, .slice none 0 0, .int .i64 0] 26)).drew) _ _ _ := OE
  have o1 : Own (((w.alloc (.cells #[.int .i64 p, .int .i64 q] 29)).alloc (.cells #[.int .u8 0, .int .u8 0, .int .i64 0, .string ⟨#[]⟩, .slice none 0 0, .int .i64 0] 26)).drew) _ _ _ := o1
  have o2 : Own (((w.alloc (.cells #[.int .i64 p, .int .i64 q] 29)).alloc (.cells #[.int .u8 0, .int .u8 0, .int .i64 0, .string ⟨#[]⟩, .slice none 0 0, .int .i64 0] 26)).drew) _ _ _ := o2
  have o3 : Own (((w.alloc (.cells #[.int .i64 p, .int .i64 q] 29)).alloc (.cells #[.int .u8 0, .int .u8 0, .int .i64 0, .string ⟨#[]⟩, .slice none 0 0, .int .i64 0] 26)).drew) _ _ _ := o3
  clear B6
  generalize (((w.alloc (.cells #[.int .i64 p, .int .i64 q] 29)).alloc (.cells #[.int .u8 0, .int .u8 0, .int .i64 0, .string ⟨#[]⟩, .slice none 0 0, .int .i64 0] 26)).drew) = W7 at OB OE o1 o2 o3 B7 ⊢
  have S7 := And.intro OB OE
  refine dr_take 0 (.agg #[.int .u8 0, .int .u8 0, .int .i64 0, .string ⟨#[]⟩, .slice none 0 0, .int .i64 0]) rfl rfl (by kernel_rfl) (by kernel_rfl) (by kernel_rfl) (fun _ _ _ h => by rw [← hQ] at h ⊢; exact h) (fun W h => run_ld rowEx rfl rfl h.2 rfl) S7 ?_
  change wpAnyH _ _ _ _ _ _ _ { tmps := #[.pointer (some ⟨t, 0, none⟩), .pointer (some ⟨y, 0, none⟩), .pointer (some ⟨f, 0, none⟩), .iface 29 (.agg #[.int .i64 p, .int .i64 q]), .pointer (some ⟨w.heap.size, 0, none⟩), .bool true, .pointer (some ⟨w.heap.size + 1, 0, none⟩), .iface 29 (.agg #[.int .i64 p, .int .i64 q]), .iface 29 (.agg #[.int .i64 p, .int .i64 q]), .bool false, .tuple #[.agg #[.int .i64 p, .int .i64 q], .bool true], .iface 29 (.agg #[.int .i64 p, .int .i64 q]), .tuple #[.agg #[.int .i64 p, .int .i64 q], .bool true], .agg #[.int .i64 p, .int .i64 q], .bool true, .bool true, .bool false, undef, .agg #[.int .u8 0, .int .u8 0, .int .i64 0, .string ⟨#[]⟩, .slice none 0 0, .int .i64 0], undef], defers := [] } _
  refine dr_take 1 (.agg #[.int .i64 p, .int .i64 q]) rfl rfl (by kernel_rfl) (by kernel_rfl) (by kernel_rfl) (fun _ _ _ h => by rw [← hQ] at h ⊢; exact h) (fun W h => run_ld rowFl rfl rfl h.1 rfl) S7 ?_
  change wpAnyH _ _ _ _ _ _ _ { tmps := #[.pointer (some ⟨t, 0, none⟩), .pointer (some ⟨y, 0, none⟩), .pointer (some ⟨f, 0, none⟩), .iface 29 (.agg #[.int .i64 p, .int .i64 q]), .pointer (some ⟨w.heap.size, 0, none⟩), .bool true, .pointer (some ⟨w.heap.size + 1, 0, none⟩), .iface 29 (.agg #[.int .i64 p, .int .i64 q]), .iface 29 (.agg #[.int .i64 p, .int .i64 q]), .bool false, .tuple #[.agg #[.int .i64 p, .int .i64 q], .bool true], .iface 29 (.agg #[.int .i64 p, .int .i64 q]), .tuple #[.agg #[.int .i64 p, .int .i64 q], .bool true], .agg #[.int .i64 p, .int .i64 q], .bool true, .bool true, .bool false, undef, .agg #[.int .u8 0, .int .u8 0, .int .i64 0, .string ⟨#[]⟩, .slice none 0 0, .int .i64 0], .agg #[.int .i64 p, .int .i64 q]], defers := [] } _
  refine dr_one 2 rfl rfl (by kernel_rfl) ?_
  refine wp_st_row (cs := #[.int .u8 0, .int .u8 0, .int .i64 0, .string ⟨#[]⟩, .slice none 0 0, .int .i64 0]) rowEx rfl o1 rfl rfl rfl hs1 (by kernel_rfl) ?_
  have OB := OB.other (g := t) #[.int .u8 0, .int .u8 0, .int .i64 0, .string ⟨#[]⟩, .slice none 0 0, .int .i64 0] (by omega)
  have OE := OE.other (g := t) #[.int .u8 0, .int .u8 0, .int .i64 0, .string ⟨#[]⟩, .slice none 0 0, .int .i64 0] (by omega)
  have o1 := o1.row #[.int .u8 0, .int .u8 0, .int .i64 0, .string ⟨#[]⟩, .slice none 0 0, .int .i64 0]
  have o2 := o2.other (g := t) #[.int .u8 0, .int .u8 0, .int .i64 0, .string ⟨#[]⟩, .slice none 0 0, .int .i64 0] (by omega)
  have o3 := o3.other (g := t) #[.int .u8 0, .int .u8 0, .int .i64 0, .string ⟨#[]⟩, .slice none 0 0, .int .i64 0] (by omega)
  have B8 := Below.of_row B7 (g := t) (by omega) #[.int .u8 0, .int .u8 0, .int .i64 0, .string ⟨#[]⟩, .slice none 0 0, .int .i64 0]
  refine ⟨⟨OB, OE⟩, ?_⟩
  change wpAnyH _ _ _ _ _ _ _ { tmps := #[.pointer (some ⟨t, 0, none⟩), .pointer (some ⟨y, 0, none⟩), .pointer (some ⟨f, 0, none⟩), .iface 29 (.agg #[.int .i64 p, .int .i64 q]), .pointer (some ⟨w.heap.size, 0, none⟩), .bool true, .pointer (some ⟨w.heap.size + 1, 0, none⟩), .iface 29 (.agg #[.int .i64 p, .int .i64 q]), .iface 29 (.agg #[.int .i64 p, .int .i64 q]), .bool false, .tuple #[.agg #[.int .i64 p, .int .i64 q], .bool true], .iface 29 (.agg #[.int .i64 p, .int .i64 q]), .tuple #[.agg #[.int .i64 p, .int .i64 q], .bool true], .agg #[.int .i64 p, .int .i64 q], .bool true, .bool true, .bool false, undef, .agg #[.int .u8 0, .int .u8 0, .int .i64 0, .string ⟨#[]⟩, .slice none 0 0, .int .i64 0], .agg #[.int .i64 p, .int .i64 q]], defers := [] } _
  refine dr_one 3 rfl rfl (by kernel_rfl) ?_
  refine wp_st_err (u := cy) rfl rfl (by rw [cell_of_row _ y 0 _ _ _ o2]; rfl) (own_frozen o2 0) ?_
  have E : (W7.setRow t #[.int .u8 0, .int .u8 0, .int .i64 0, .string ⟨#[]⟩, .slice none 0 0, .int .i64 0]).setCell ⟨y, 0, none⟩ (.int .i64 30) = (W7.setRow t #[.int .u8 0, .int .u8 0, .int .i64 0, .string ⟨#[]⟩, .slice none 0 0, .int .i64 0]).setRow y #[.int .i64 30] := setCell_row o2 0 _
  rw [E]
  have OB := OB.other (g := y) #[.int .i64 30] (by omega)
  have OE := OE.other (g := y) #[.int .i64 30] (by omega)
  have o1 := o1.other (g := y) #[.int .i64 30] (by omega)
  have o2 := o2.row #[.int .i64 30]
  have o3 := o3.other (g := y) #[.int .i64 30] (by omega)
  have B9 := Below.of_row B8 (g := y) (by omega) #[.int .i64 30]
  refine ⟨⟨OB, OE⟩, ?_⟩
  change wpAnyH _ _ _ _ _ _ _ { tmps := #[.pointer (some ⟨t, 0, none⟩), .pointer (some ⟨y, 0, none⟩), .pointer (some ⟨f, 0, none⟩), .iface 29 (.agg #[.int .i64 p, .int .i64 q]), .pointer (some ⟨w.heap.size, 0, none⟩), .bool true, .pointer (some ⟨w.heap.size + 1, 0, none⟩), .iface 29 (.agg #[.int .i64 p, .int .i64 q]), .iface 29 (.agg #[.int .i64 p, .int .i64 q]), .bool false, .tuple #[.agg #[.int .i64 p, .int .i64 q], .bool true], .iface 29 (.agg #[.int .i64 p, .int .i64 q]), .tuple #[.agg #[.int .i64 p, .int .i64 q], .bool true], .agg #[.int .i64 p, .int .i64 q], .bool true, .bool true, .bool false, undef, .agg #[.int .u8 0, .int .u8 0, .int .i64 0, .string ⟨#[]⟩, .slice none 0 0, .int .i64 0], .agg #[.int .i64 p, .int .i64 q]], defers := [] } _
  refine dr_one 4 rfl rfl (by kernel_rfl) ?_
  refine wp_st_row (cs := #[.int .i64 p, .int .i64 q]) rowFl rfl o3 rfl rfl rfl hs3 (by kernel_rfl) ?_
  have OB := OB.other (g := f) #[.int .i64 p, .int .i64 q] (by omega)
  have OE := OE.other (g := f) #[.int .i64 p, .int .i64 q] (by omega)
  have o1 := o1.other (g := f) #[.int .i64 p, .int .i64 q] (by omega)
  have o2 := o2.other (g := f) #[.int .i64 p, .int .i64 q] (by omega)
  have o3 := o3.row #[.int .i64 p, .int .i64 q]
  have B10 := Below.of_row B9 (g := f) (by omega) #[.int .i64 p, .int .i64 q]
  refine ⟨⟨OB, OE⟩, ?_⟩
  refine wpAnyH_done (by kernel_rfl) ?_ _
  subst hQ
  simp [bodyPostS, results, Tryd.results18]
  exact ⟨rfl, o1, o2, o3, B10⟩
set_option maxRecDepth 100000 in
set_option maxHeartbeats 4000000 in
theorem catch_pg {w : World} {n t y f : Nat} {ct cf : Array Value} {cy : Int} {p q : Int} {older : List PanicEntry} (h1 : Own w t 51 ct) (hs1 : ct.size = zPg.size) (h2 : Own w y 27 #[.int .i64 cy]) (h3 : Own w f 29 cf) (hs3 : cf.size = 2) (hn : n ≤ t ∧ n ≤ y ∧ n ≤ f) (hd : t ≠ y ∧ t ≠ f ∧ y ≠ f) :
    CallsD Tryd.prog 49 #[.pointer (some ⟨t, 0, none⟩), .pointer (some ⟨y, 0, none⟩), .pointer (some ⟨f, 0, none⟩)] (.panicking ({ v := .iface 29 (.agg #[.int .i64 p, .int .i64 q]), recovered := false } :: older)) w fun e u' w' =>
      e = .returned (.tuple #[]) ∧ u' = .panicking ({ v := .iface 29 (.agg #[.int .i64 p, .int .i64 q]), recovered := true } :: older) ∧ Own w' t 51 zPg ∧ Own w' y 27 #[.int .i64 30] ∧ Own w' f 29 #[.int .i64 p, .int .i64 q] ∧ Below n w w' := by
  refine callsD_of_wpS Tryd.func49 rfl fun c₀ cs hu => ?_
  apply wpS_seq
  apply wpS_region
  simp [wpOpsS, go_sem, recoverD, hu, Tryd.ntmps49, Exit.thenS]
  rw [show (#[.pointer (some ⟨t, 0, none⟩), .pointer (some ⟨y, 0, none⟩), .pointer (some ⟨f, 0, none⟩)] ++ (((Array.replicate 17 undef).setIfInBounds 4 (.iface 29 (.agg #[.int .i64 p, .int .i64 q]))).setIfInBounds 0 (.iface 29 (.agg #[.int .i64 p, .int .i64 q]))) : Array Value) = #[.pointer (some ⟨t, 0, none⟩), .pointer (some ⟨y, 0, none⟩), .pointer (some ⟨f, 0, none⟩), .iface 29 (.agg #[.int .i64 p, .int .i64 q]), undef, undef, undef, .iface 29 (.agg #[.int .i64 p, .int .i64 q]), undef, undef, undef, undef, undef, undef, undef, undef, undef, undef, undef, undef] from by kernel_rfl]
  refine wpS_of_wp ?_
  generalize hQ : (fun e a' w' => bodyPostS _ _ _ _ _ e a' _ w') = Q
  have F1 := any_eql
  have F2 := any_flt
  go_upto_region 2 with (fail)
  go_upto_region 6 with (fail)
  have l1 := h1.lt
  have l2 := h2.lt
  have l3 := h3.lt
  have OB := (Own.new w 29 #[.int .i64 p, .int .i64 q]).alloc (.cells #[.slice none 0 0, .slice none 0 0, .slice none 0 0] 51)
  have OE := Own.new (w.alloc (.cells #[.int .i64 p, .int .i64 q] 29)) 51 #[.slice none 0 0, .slice none 0 0, .slice none 0 0]
  rw [World.size_alloc] at OE
  have o1 := (h1.alloc (.cells #[.int .i64 p, .int .i64 q] 29)).alloc (.cells #[.slice none 0 0, .slice none 0 0, .slice none 0 0] 51)
  have o2 := (h2.alloc (.cells #[.int .i64 p, .int .i64 q] 29)).alloc (.cells #[.slice none 0 0, .slice none 0 0, .slice none 0 0] 51)
  have o3 := (h3.alloc (.cells #[.int .i64 p, .int .i64 q] 29)).alloc (.cells #[.slice none 0 0, .slice none 0 0, .slice none 0 0] 51)
  have B6 : Below n w ((w.alloc (.cells #[.int .i64 p, .int .i64 q] 29)).alloc (.cells #[.slice none 0 0, .slice none 0 0, .slice none 0 0] 51)) := ((Below.refl n w).alloc (by omega) _).alloc (by rw [World.size_alloc]; omega) _
  refine wp_region_held (S := fun W => Own W w.heap.size 29 #[.int .i64 p, .int .i64 q] ∧ Own W (w.heap.size + 1) 51 #[.slice none 0 0, .slice none 0 0, .slice none 0 0]) (by kernel_rfl) ?_
  change wpAnyH _ _ _ _ _ _ _ _ (((w.alloc (.cells #[.int .i64 p, .int .i64 q] 29)).alloc (.cells #[.slice none 0 0, .slice none 0 0, .slice none 0 0] 51)).drew)
  have B7 := B6.drew
  have OB : Own (((w.alloc (.cells #[.int .i64 p, .int .i64 q] 29)).alloc (.cells #[.slice none 0 0, .slice none 0 0, .slice none 0 0] 51)).drew) _ _ _ := OB
  have OE : Own (((w.alloc (.cells #[.int .i64 p, .int .i64 q] 29)).alloc (.cells #[.slice none 0 0, .slice none 0 0, .slice none 0 0] 51)).drew) _ _ _ := OE
  have o1 : Own (((w.alloc (.cells #[.int .i64 p, .int .i64 q] 29)).alloc (.cells #[.slice none 0 0, .slice none 0 0, .slice none 0 0] 51)).drew) _ _ _ := o1
  have o2 : Own (((w.alloc (.cells #[.int .i64 p, .int .i64 q] 29)).alloc (.cells #[.slice none 0 0, .slice none 0 0, .slice none 0 0] 51)).drew) _ _ _ := o2
  have o3 : Own (((w.alloc (.cells #[.int .i64 p, .int .i64 q] 29)).alloc (.cells #[.slice none 0 0, .slice none 0 0, .slice none 0 0] 51)).drew) _ _ _ := o3
  clear B6
  generalize (((w.alloc (.cells #[.int .i64 p, .int .i64 q] 29)).alloc (.cells #[.slice none 0 0, .slice none 0 0, .slice none 0 0] 51)).drew) = W7 at OB OE o1 o2 o3 B7 ⊢
  have S7 := And.intro OB OE
  refine dr_take 0 (.agg #[.slice none 0 0, .slice none 0 0, .slice none 0 0]) rfl rfl (by kernel_rfl) (by kernel_rfl) (by kernel_rfl) (fun _ _ _ h => by rw [← hQ] at h ⊢; exact h) (fun W h => run_ld rowPg rfl rfl h.2 rfl) S7 ?_
  change wpAnyH _ _ _ _ _ _ _ { tmps := #[.pointer (some ⟨t, 0, none⟩), .pointer (some ⟨y, 0, none⟩), .pointer (some ⟨f, 0, none⟩), .iface 29 (.agg #[.int .i64 p, .int .i64 q]), .pointer (some ⟨w.heap.size, 0, none⟩), .bool true, .pointer (some ⟨w.heap.size + 1, 0, none⟩), .iface 29 (.agg #[.int .i64 p, .int .i64 q]), .iface 29 (.agg #[.int .i64 p, .int .i64 q]), .bool false, .tuple #[.agg #[.int .i64 p, .int .i64 q], .bool true], .iface 29 (.agg #[.int .i64 p, .int .i64 q]), .tuple #[.agg #[.int .i64 p, .int .i64 q], .bool true], .agg #[.int .i64 p, .int .i64 q], .bool true, .bool true, .bool false, undef, .agg #[.slice none 0 0, .slice none 0 0, .slice none 0 0], undef], defers := [] } _
  refine dr_take 1 (.agg #[.int .i64 p, .int .i64 q]) rfl rfl (by kernel_rfl) (by kernel_rfl) (by kernel_rfl) (fun _ _ _ h => by rw [← hQ] at h ⊢; exact h) (fun W h => run_ld rowFl rfl rfl h.1 rfl) S7 ?_
  change wpAnyH _ _ _ _ _ _ _ { tmps := #[.pointer (some ⟨t, 0, none⟩), .pointer (some ⟨y, 0, none⟩), .pointer (some ⟨f, 0, none⟩), .iface 29 (.agg #[.int .i64 p, .int .i64 q]), .pointer (some ⟨w.heap.size, 0, none⟩), .bool true, .pointer (some ⟨w.heap.size + 1, 0, none⟩), .iface 29 (.agg #[.int .i64 p, .int .i64 q]), .iface 29 (.agg #[.int .i64 p, .int .i64 q]), .bool false, .tuple #[.agg #[.int .i64 p, .int .i64 q], .bool true], .iface 29 (.agg #[.int .i64 p, .int .i64 q]), .tuple #[.agg #[.int .i64 p, .int .i64 q], .bool true], .agg #[.int .i64 p, .int .i64 q], .bool true, .bool true, .bool false, undef, .agg #[.slice none 0 0, .slice none 0 0, .slice none 0 0], .agg #[.int .i64 p, .int .i64 q]], defers := [] } _
  refine dr_one 2 rfl rfl (by kernel_rfl) ?_
  refine wp_st_row (cs := #[.slice none 0 0, .slice none 0 0, .slice none 0 0]) rowPg rfl o1 rfl rfl rfl hs1 (by kernel_rfl) ?_
  have OB := OB.other (g := t) #[.slice none 0 0, .slice none 0 0, .slice none 0 0] (by omega)
  have OE := OE.other (g := t) #[.slice none 0 0, .slice none 0 0, .slice none 0 0] (by omega)
  have o1 := o1.row #[.slice none 0 0, .slice none 0 0, .slice none 0 0]
  have o2 := o2.other (g := t) #[.slice none 0 0, .slice none 0 0, .slice none 0 0] (by omega)
  have o3 := o3.other (g := t) #[.slice none 0 0, .slice none 0 0, .slice none 0 0] (by omega)
  have B8 := Below.of_row B7 (g := t) (by omega) #[.slice none 0 0, .slice none 0 0, .slice none 0 0]
  refine ⟨⟨OB, OE⟩, ?_⟩
  change wpAnyH _ _ _ _ _ _ _ { tmps := #[.pointer (some ⟨t, 0, none⟩), .pointer (some ⟨y, 0, none⟩), .pointer (some ⟨f, 0, none⟩), .iface 29 (.agg #[.int .i64 p, .int .i64 q]), .pointer (some ⟨w.heap.size, 0, none⟩), .bool true, .pointer (some ⟨w.heap.size + 1, 0, none⟩), .iface 29 (.agg #[.int .i64 p, .int .i64 q]), .iface 29 (.agg #[.int .i64 p, .int .i64 q]), .bool false, .tuple #[.agg #[.int .i64 p, .int .i64 q], .bool true], .iface 29 (.agg #[.int .i64 p, .int .i64 q]), .tuple #[.agg #[.int .i64 p, .int .i64 q], .bool true], .agg #[.int .i64 p, .int .i64 q], .bool true, .bool true, .bool false, undef, .agg #[.slice none 0 0, .slice none 0 0, .slice none 0 0], .agg #[.int .i64 p, .int .i64 q]], defers := [] } _
  refine dr_one 3 rfl rfl (by kernel_rfl) ?_
  refine wp_st_err (u := cy) rfl rfl (by rw [cell_of_row _ y 0 _ _ _ o2]; rfl) (own_frozen o2 0) ?_
  have E : (W7.setRow t #[.slice none 0 0, .slice none 0 0, .slice none 0 0]).setCell ⟨y, 0, none⟩ (.int .i64 30) = (W7.setRow t #[.slice none 0 0, .slice none 0 0, .slice none 0 0]).setRow y #[.int .i64 30] := setCell_row o2 0 _
  rw [E]
  have OB := OB.other (g := y) #[.int .i64 30] (by omega)
  have OE := OE.other (g := y) #[.int .i64 30] (by omega)
  have o1 := o1.other (g := y) #[.int .i64 30] (by omega)
  have o2 := o2.row #[.int .i64 30]
  have o3 := o3.other (g := y) #[.int .i64 30] (by omega)
  have B9 := Below.of_row B8 (g := y) (by omega) #[.int .i64 30]
  refine ⟨⟨OB, OE⟩, ?_⟩
  change wpAnyH _ _ _ _ _ _ _ { tmps := #[.pointer (some ⟨t, 0, none⟩), .pointer (some ⟨y, 0, none⟩), .pointer (some ⟨f, 0, none⟩), .iface 29 (.agg #[.int .i64 p, .int .i64 q]), .pointer (some ⟨w.heap.size, 0, none⟩), .bool true, .pointer (some ⟨w.heap.size + 1, 0, none⟩), .iface 29 (.agg #[.int .i64 p, .int .i64 q]), .iface 29 (.agg #[.int .i64 p, .int .i64 q]), .bool false, .tuple #[.agg #[.int .i64 p, .int .i64 q], .bool true], .iface 29 (.agg #[.int .i64 p, .int .i64 q]), .tuple #[.agg #[.int .i64 p, .int .i64 q], .bool true], .agg #[.int .i64 p, .int .i64 q], .bool true, .bool true, .bool false, undef, .agg #[.slice none 0 0, .slice none 0 0, .slice none 0 0], .agg #[.int .i64 p, .int .i64 q]], defers := [] } _
  refine dr_one 4 rfl rfl (by kernel_rfl) ?_
  refine wp_st_row (cs := #[.int .i64 p, .int .i64 q]) rowFl rfl o3 rfl rfl rfl hs3 (by kernel_rfl) ?_
  have OB := OB.other (g := f) #[.int .i64 p, .int .i64 q] (by omega)
  have OE := OE.other (g := f) #[.int .i64 p, .int .i64 q] (by omega)
  have o1 := o1.other (g := f) #[.int .i64 p, .int .i64 q] (by omega)
  have o2 := o2.other (g := f) #[.int .i64 p, .int .i64 q] (by omega)
  have o3 := o3.row #[.int .i64 p, .int .i64 q]
  have B10 := Below.of_row B9 (g := f) (by omega) #[.int .i64 p, .int .i64 q]
  refine ⟨⟨OB, OE⟩, ?_⟩
  refine wpAnyH_done (by kernel_rfl) ?_ _
  subst hQ
  simp [bodyPostS, results, Tryd.results49]
  exact ⟨rfl, o1, o2, o3, B10⟩
end Go.Proofs.YtgaibdipecngkaaDoor

namespace Go.Proofs.YtgaibdipecngkaaDoor
open Go.RowKit
set_option linter.unusedVariables false
theorem zeroFnD (w : World) : (zeroValue 85).run Tryd.prog w = .ok .nilFunc w := by kernel_rfl
theorem decls_keys (c : Par) : ∀ e ∈ c.declE, ∃ t, e.key = .string t := by
  intro e he
  simp [Par.declE] at he
  rcases he with rfl | rfl <;> exact ⟨_, rfl⟩
theorem run_decls {c : Par} {W : World} (S : RdS c W) (s : ByteArray) : (Instr.lookup 80 (.map (some c.D)) (.string s) false).run Tryd.prog W = .ok (lookE s.data.toList c.declE) W :=
  run_look Tryd.underlying80 Tryd.underlying9 (zeroFnD W) S.dm (decls_keys c) s
theorem fn_neqD : ∀ (f : Fn) (u v : Array Value) (w : World), (binOp .neq 85 (.func f u v) .nilFunc).run Tryd.prog w = .ok (.bool true) w := fun f u v w => by kernel_rfl
theorem nil_neqD : ∀ (w : World), (binOp .neq 85 .nilFunc .nilFunc).run Tryd.prog w = .ok (.bool false) w := fun w => by kernel_rfl
section
variable {o : Oper} {a : Act} {w : World} {K : Act → World → Prop} {Q : Exit → Act → World → Prop}
set_option maxHeartbeats 1000000 in
theorem wp_ld_decls {x : Operand} (ho : o.op = .load 80 x) {p : Addr} (hx : a.eval x = .pointer (some p)) {v : Value} (hv : w.cell? p = some v) (h : K (a.put o.dst v) w) : o.wp Tryd.prog a w K Q := by
  have hrun : (execOp a.eval o).run Tryd.prog w = .ok (.value v) w := by
    unfold execOp
    simp only [ho, hx]
    go_simp
  unfold Oper.wp
  rw [hrun]
  exact h
set_option maxHeartbeats 1000000 in
theorem wp_lk_decls {x y : Operand} (ho : o.op = .lookup 80 x y false) {p : Nat} (hx : a.eval x = .map (some p)) {s : ByteArray} (hy : a.eval y = .string s) {v : Value} (hv : (Instr.lookup 80 (.map (some p)) (.string s) false).run Tryd.prog w = .ok v w) (h : K (a.put o.dst v) w) : o.wp Tryd.prog a w K Q := by
  have hrun : (execOp a.eval o).run Tryd.prog w = .ok (.value v) w := by
    unfold execOp
    simp only [ho, hx, hy]
    go_simp
  unfold Oper.wp
  rw [hrun]
  exact h
end
theorem run_ld_decls {o : Oper} {a : Act} {w : World} {x : Operand} (ho : o.op = .load 80 x) {p : Addr} (hx : a.eval x = .pointer (some p)) {v : Value} (hv : w.cell? p = some v) : (execOp a.eval o).run Tryd.prog w = .ok (.value v) w := by
  unfold execOp
  simp only [ho, hx]
  go_simp
theorem run_lk_decls {o : Oper} {a : Act} {w : World} {x y : Operand} (ho : o.op = .lookup 80 x y false) {p : Nat} (hx : a.eval x = .map (some p)) {s : ByteArray} (hy : a.eval y = .string s) {v : Value} (hv : (Instr.lookup 80 (.map (some p)) (.string s) false).run Tryd.prog w = .ok v w) : (execOp a.eval o).run Tryd.prog w = .ok (.value v) w := by
  unfold execOp
  simp only [ho, hx, hy]
  go_simp
theorem run_bs_th {o : Oper} {a : Act} {w : World} {x : Operand} (ho : o.op = .buildSlice 49 1 #[(0, x)]) {nm : ByteArray} {a1 a2 : Option Addr} {n1 c1 n2 c2 : Nat} {p : Int} (hx : a.eval x = .agg #[.string nm, .slice a1 n1 c1, .slice a2 n2 c2, .int .i64 p]) : (execOp a.eval o).run Tryd.prog w = .ok (.value (.slice (some ⟨w.heap.size, 0, none⟩) 1 1)) (w.alloc (.cells #[.string nm, .slice a1 n1 c1, .slice a2 n2 c2, .int .i64 p] 56)) := by
  unfold execOp
  simp [ho, hx]
  go_simp
/-- While declarations are read. -/
def PrI (c : Par) (w : World) (PB : Nat) (Y : PR Pg) (m : Nat) (u : Value) (W : World) : Prop :=
  ∃ (j : Nat) (p : Pg) (vS vL : Value), PgI c w PB vS vL p W j ∧ u = lookE (c.nx j).text.data.toList c.declE ∧ declsP c.L m p (c.at j) = Y ∧ (c.at j).length < m ∧ p.shared.length + p.locks.length + (c.at j).length ≤ 65536
/-- While threads are read. -/
def ThrI (c : Par) (w : World) (PB : Nat) (a1 : Option Addr) (c1 : Nat) (a2 : Option Addr) (c2 : Nat) (p : Pg) (Y : PR (List Th)) (m : Nat) (W : World) : Prop :=
  ∃ (j : Nat) (l : List Th) (vT : Value) (xs : List Value), PgT c w PB a1 c1 a2 c2 vT p l xs W j ∧ threadsP fnd c.L m l (c.at j) = Y ∧ 3 * (c.at j).length + 2 ≤ m ∧ l.length + (c.at j).length ≤ 65536
theorem look_shared {c : Par} {k : Nat} (h : isT [115, 104, 97, 114, 101, 100] (c.at k) = true) : lookE (c.nx k).text.data.toList c.declE = .func (.func 30) #[.pointer (some ⟨c.X, 0, none⟩)] #[] := by
  rw [Par.isT_nx c k (by decide)] at h
  have h : (c.nx k).text.data.toList = [115, 104, 97, 114, 101, 100] := by simpa [Tk.tx] using h
  rw [h]; rfl
theorem look_locks {c : Par} {k : Nat} (h : isT [108, 111, 99, 107] (c.at k) = true) : lookE (c.nx k).text.data.toList c.declE = .func (.func 31) #[.pointer (some ⟨c.X, 0, none⟩)] #[] := by
  rw [Par.isT_nx c k (by decide)] at h
  have h : (c.nx k).text.data.toList = [108, 111, 99, 107] := by simpa [Tk.tx] using h
  rw [h]; rfl
theorem look_none {c : Par} {k : Nat} (h1 : isT [115, 104, 97, 114, 101, 100] (c.at k) = false) (h2 : isT [108, 111, 99, 107] (c.at k) = false) : lookE (c.nx k).text.data.toList c.declE = .nilFunc := by
  rw [Par.isT_nx c k (by decide)] at h1 h2
  have h1 : ¬ (c.nx k).text.data.toList = [115, 104, 97, 114, 101, 100] := by simpa [Tk.tx] using h1
  have h2 : ¬ (c.nx k).text.data.toList = [108, 111, 99, 107] := by simpa [Tk.tx] using h2
  simp only [lookE, Par.declE]
  rw [if_neg h1, if_neg h2]
theorem run_fd_tok {o : Oper} {a : Act} {w : World} {x : Operand} (ho : o.op = .field 69 x 1) {u v d e : Value} (hx : a.eval x = .agg #[u, v, d, e]) : (execOp a.eval o).run Tryd.prog w = .ok (.value v) w := by
  unfold execOp
  simp only [ho, hx]
  have F := tok_f1 u v d e w
  go_simp
/-- What a line of declarations leaves. -/
def shPost (c : Par) (w : World) (PB : Nat) (vL : Value) (p : Pg) (Z : PR (List Dc)) (e : Ending) (w' : World) : Prop :=
  match Z with
  | .ok d r => ∃ v' k', e = .returned (.tuple #[]) ∧ PgI c w PB v' vL { p with shared := p.shared ++ d } w' k' ∧ r = c.at k'
  | .bad q rl => e = .panicked (flt q rl) ∧ Fr c w w'
def lkPost (c : Par) (w : World) (PB : Nat) (vS : Value) (p : Pg) (Z : PR (List Dc)) (e : Ending) (w' : World) : Prop :=
  match Z with
  | .ok d r => ∃ v' k', e = .returned (.tuple #[]) ∧ PgI c w PB vS v' { p with locks := p.locks ++ d } w' k' ∧ r = c.at k'
  | .bad q rl => e = .panicked (flt q rl) ∧ Fr c w w'
/-- An operation that is run. -/
theorem wp_val {P : Program} {o : Oper} {a : Act} {w w' : World} {K : Act → World → Prop} {Q : Exit → Act → World → Prop} {v : Value} (hrun : (execOp a.eval o).run P w = .ok (.value v) w') (h : K (a.put o.dst v) w') : o.wp P a w K Q := by
  unfold Oper.wp
  rw [hrun]
  exact h
theorem decls_short {L : Int} : ∀ (n : Nat) (p : Pg) (ts : List Tk) (q : Pg) (r : List Tk), declsP L n p ts = .ok q r → r.length ≤ ts.length
  | 0, p, ts, q, r, h => by simp [declsP] at h
  | n + 1, p, ts, q, r, h => by
    simp only [declsP] at h
    split at h
    · rename_i hi
      have := isT_tail hi
      obtain ⟨a, b, h1, h2⟩ := PR.then_eq_ok h
      have := list_short (L := L) (fun _ _ _ h => firstP_short h) n _ _ _ _ h1
      have := decls_short n _ _ _ _ h2
      omega
    · split at h
      · rename_i hi
        have := isT_tail hi
        obtain ⟨a, b, h1, h2⟩ := PR.then_eq_ok h
        have := list_short (L := L) (fun _ _ _ h => nameP_short h) n _ _ _ _ h1
        have := decls_short n _ _ _ _ h2
        omega
      · cases h; exact Nat.le_refl _
set_option maxRecDepth 100000 in
set_option maxHeartbeats 8000000 in
theorem p_program {c : Par} {w : World} {k n : Nat} (R : Rd c w k) (hn : 3 * (c.at k).length + 2 ≤ n) :
    Calls Tryd.prog 28 #[c.ptr] w (RdPost c w (progP fnd c.L n (c.at k)) (fun p v w' => pgR w.heap.size p v w')) := by
  obtain ⟨Y, hY⟩ : ∃ Y, Y = progP fnd c.L n (c.at k) := ⟨_, rfl⟩
  obtain ⟨Y1, hY1⟩ : ∃ Y1, Y1 = declsP c.L n ⟨[], [], []⟩ (c.at k) := ⟨_, rfl⟩
  have HS : Hid (Y = Y1.then fun p r => (threadsP fnd c.L n [] r).then fun l r => .ok { p with threads := l } r) := by rw [Hid, hY, hY1]; rfl
  have hl0 : (c.at k).length ≤ 65536 := by rw [Par.at_len]; have := R.s.small.1; omega
  rw [← hY]
  have HDL : Hid (∀ p r, Y1 = .ok p r → r.length ≤ (c.at k).length) := fun p r h => decls_short _ _ _ _ _ (hY1.symm.trans h)
  have HN : Hid (∀ W j, Rd c W j → Calls Tryd.prog 40 #[c.ptr] W fun e w' => e = .returned (tkV (c.nx j)) ∧ Below W.heap.size W w') := fun W j RW => p_next RW
  have HP : Hid (∀ W j (s : ByteArray), Rd c W j → s.data.toList ≠ [] → Calls Tryd.prog 50 #[c.ptr, .string s] W fun e w' => e = .returned (.bool (isT s.data.toList (c.at j))) ∧ Fr c W w' ∧ Rd c w' (if isT s.data.toList (c.at j) = true then j + 1 else j)) := fun W j s RW hs => p_pass RW s hs
  have HT : Hid (∀ W j m, Rd c W j → 3 * (c.at j).length + 2 ≤ m → Calls Tryd.prog 51 #[c.ptr] W (RdPost c W (threadP fnd c.L m (c.at j)) (fun t v w' => thR W.heap.size t v w'))) := fun W j m RW hm => p_thread RW hm
  have HJ : Hid (∀ j, j ≤ c.toks.length → j ≤ 65536) := fun j h => by have := R.s.small.1; omega
  have G0 := At.start R
  have HR := Lib.hid R
  have hX := Lib.hid R.lt
  have HM := Lib.hid (And.intro hn hl0)
  have F1 := fn_neqD
  have F2 := nil_neqD
  have G : Hid (PgI c w (w.heap.size + 1) (.slice none 0 0) (.slice none 0 0) ⟨[], [], []⟩ ((w.alloc (.cells zPg 51)).alloc (.cells zPg 51)) k) := by
    have o1 := Own.new w 51 zPg
    have o2 := Own.new (w.alloc (.cells zPg 51)) 51 zPg
    rw [World.size_alloc] at o2
    exact ⟨(G0.alloc _).alloc _, by omega, o1.alloc _, o2, World.ownsRow_nil _ _ _ _, World.ownsRow_nil _ _ _ _, .inl rfl⟩
  clear hY R hn hl0 G0
  unfold Par.ptr zPg tkV at *
  go_enter Tryd.func28, Tryd.ntmps28
  go_wp2_with fail
  obtain ⟨W, hW⟩ : ∃ W, W = ((w.alloc (.cells #[.slice none 0 0, .slice none 0 0, .slice none 0 0] 51)).alloc (.cells #[.slice none 0 0, .slice none 0 0, .slice none 0 0] 51)) := ⟨_, rfl⟩
  rw [← hW] at G ⊢
  clear hW
  obtain ⟨PB, hPB⟩ : ∃ PB, PB = w.heap.size + 1 := ⟨_, rfl⟩
  rw [← hPB] at G ⊢
  clear hPB
  refine wp_region_held (S := fun W => RdS c W ∧ W.cell? ⟨c.X, 3, none⟩ = some (.map (some c.D))) (by kernel_rfl) ?_
  have G := Lib.hid G.out.drew
  change wpAnyH _ _ _ _ _ _ _ _ (W).drew
  obtain ⟨W0, hW0⟩ : ∃ W0, W0 = (W).drew := ⟨_, rfl⟩
  rw [← hW0] at G ⊢
  clear hW0
  have S0 : RdS c W0 ∧ W0.cell? ⟨c.X, 3, none⟩ = some (.map (some c.D)) := ⟨(G.out.run.rd HR.out).s, G.out.run.cells.1.2.2.2.1⟩
  refine dr_take 0 (.pointer (some ⟨c.X, 0, none⟩)) rfl rfl (by kernel_rfl) (by kernel_rfl) (by kernel_rfl) (fun _ _ _ h => h) (fun _ _ => rfl) S0 ?_
  change wpAnyH _ _ _ _ _ _ _ { tmps := #[.pointer (some ⟨c.X, 0, none⟩), undef, .pointer (some ⟨w.heap.size, 0, none⟩), .pointer (some ⟨PB, 0, none⟩), undef, .pointer (some ⟨c.X, 0, none⟩), undef, undef, undef, undef, undef, undef, undef, undef, undef, undef, undef, undef, undef, undef, undef, undef, undef, undef, undef, undef, undef, undef, undef, undef, undef, undef, undef, undef, undef, undef, undef, undef, undef, undef, undef, undef], defers := [] } _
  refine dr_take 1 (.pointer (some ⟨c.X, 0, none⟩)) rfl rfl (by kernel_rfl) (by kernel_rfl) (by kernel_rfl) (fun _ _ _ h => h) (fun _ _ => by unfold execOp; go_simp) S0 ?_
  change wpAnyH _ _ _ _ _ _ _ { tmps := #[.pointer (some ⟨c.X, 0, none⟩), undef, .pointer (some ⟨w.heap.size, 0, none⟩), .pointer (some ⟨PB, 0, none⟩), undef, .pointer (some ⟨c.X, 0, none⟩), .pointer (some ⟨c.X, 0, none⟩), undef, undef, undef, undef, undef, undef, undef, undef, undef, undef, undef, undef, undef, undef, undef, undef, undef, undef, undef, undef, undef, undef, undef, undef, undef, undef, undef, undef, undef, undef, undef, undef, undef, undef, undef], defers := [] } _
  refine dr_take 2 (.pointer (some ⟨c.X, 3, none⟩)) rfl rfl (by kernel_rfl) (by kernel_rfl) (by kernel_rfl) (fun _ _ _ h => h) (fun _ _ => by unfold execOp; go_simp) S0 ?_
  change wpAnyH _ _ _ _ _ _ _ { tmps := #[.pointer (some ⟨c.X, 0, none⟩), undef, .pointer (some ⟨w.heap.size, 0, none⟩), .pointer (some ⟨PB, 0, none⟩), undef, .pointer (some ⟨c.X, 0, none⟩), .pointer (some ⟨c.X, 0, none⟩), .pointer (some ⟨c.X, 3, none⟩), undef, undef, undef, undef, undef, undef, undef, undef, undef, undef, undef, undef, undef, undef, undef, undef, undef, undef, undef, undef, undef, undef, undef, undef, undef, undef, undef, undef, undef, undef, undef, undef, undef, undef], defers := [] } _
  refine dr_take 3 (.map (some c.D)) rfl rfl (by kernel_rfl) (by kernel_rfl) (by kernel_rfl) (fun _ _ _ h => h) (fun W h => run_ld_decls rfl rfl h.2) S0 ?_
  change wpAnyH _ _ _ _ _ _ _ { tmps := #[.pointer (some ⟨c.X, 0, none⟩), undef, .pointer (some ⟨w.heap.size, 0, none⟩), .pointer (some ⟨PB, 0, none⟩), undef, .pointer (some ⟨c.X, 0, none⟩), .pointer (some ⟨c.X, 0, none⟩), .pointer (some ⟨c.X, 3, none⟩), .map (some c.D), undef, undef, undef, undef, undef, undef, undef, undef, undef, undef, undef, undef, undef, undef, undef, undef, undef, undef, undef, undef, undef, undef, undef, undef, undef, undef, undef, undef, undef, undef, undef, undef, undef], defers := [] } _
  refine dr_take 4 (.pointer (some ⟨c.X, 0, none⟩)) rfl rfl (by kernel_rfl) (by kernel_rfl) (by kernel_rfl) (fun _ _ _ h => h) (fun _ _ => rfl) S0 ?_
  change wpAnyH _ _ _ _ _ _ _ { tmps := #[.pointer (some ⟨c.X, 0, none⟩), undef, .pointer (some ⟨w.heap.size, 0, none⟩), .pointer (some ⟨PB, 0, none⟩), undef, .pointer (some ⟨c.X, 0, none⟩), .pointer (some ⟨c.X, 0, none⟩), .pointer (some ⟨c.X, 3, none⟩), .map (some c.D), .pointer (some ⟨c.X, 0, none⟩), undef, undef, undef, undef, undef, undef, undef, undef, undef, undef, undef, undef, undef, undef, undef, undef, undef, undef, undef, undef, undef, undef, undef, undef, undef, undef, undef, undef, undef, undef, undef, undef], defers := [] } _
  refine dr_one 5 rfl rfl (by kernel_rfl) ?_
  refine wp_call (vs := #[.pointer (some ⟨c.X, 0, none⟩)]) rfl rfl (enters_of Tryd.func40 (by kernel_rfl) rfl) (by simp [Act.eval]) (HN.out _ k (G.out.run.rd HR.out)) ?_
  rintro e w1 ⟨rfl, hb⟩
  have G := Lib.hid (G.out.call (.of_below hb) ((G.out.run.rd HR.out).below hb) hX.out)
  have S1 : RdS c w1 ∧ w1.cell? ⟨c.X, 3, none⟩ = some (.map (some c.D)) := ⟨(G.out.run.rd HR.out).s, G.out.run.cells.1.2.2.2.1⟩
  refine ⟨S1, ?_⟩
  change wpAnyH _ _ _ _ _ _ _ { tmps := #[.pointer (some ⟨c.X, 0, none⟩), undef, .pointer (some ⟨w.heap.size, 0, none⟩), .pointer (some ⟨PB, 0, none⟩), undef, .pointer (some ⟨c.X, 0, none⟩), .pointer (some ⟨c.X, 0, none⟩), .pointer (some ⟨c.X, 3, none⟩), .map (some c.D), .pointer (some ⟨c.X, 0, none⟩), .agg #[.int .u8 (c.nx k).kind, .string (c.nx k).text, .int .i64 (c.nx k).wd, .int .i64 (c.nx k).pos], undef, undef, undef, undef, undef, undef, undef, undef, undef, undef, undef, undef, undef, undef, undef, undef, undef, undef, undef, undef, undef, undef, undef, undef, undef, undef, undef, undef, undef, undef, undef], defers := [] } _
  refine dr_take 6 (.string (c.nx k).text) rfl rfl (by kernel_rfl) (by kernel_rfl) (by kernel_rfl) (fun _ _ _ h => h) (fun W _ => run_fd_tok rfl rfl) S1 ?_
  change wpAnyH _ _ _ _ _ _ _ { tmps := #[.pointer (some ⟨c.X, 0, none⟩), undef, .pointer (some ⟨w.heap.size, 0, none⟩), .pointer (some ⟨PB, 0, none⟩), undef, .pointer (some ⟨c.X, 0, none⟩), .pointer (some ⟨c.X, 0, none⟩), .pointer (some ⟨c.X, 3, none⟩), .map (some c.D), .pointer (some ⟨c.X, 0, none⟩), .agg #[.int .u8 (c.nx k).kind, .string (c.nx k).text, .int .i64 (c.nx k).wd, .int .i64 (c.nx k).pos], .string (c.nx k).text, undef, undef, undef, undef, undef, undef, undef, undef, undef, undef, undef, undef, undef, undef, undef, undef, undef, undef, undef, undef, undef, undef, undef, undef, undef, undef, undef, undef, undef, undef], defers := [] } _
  refine dr_take 7 (lookE (c.nx k).text.data.toList c.declE) rfl rfl (by kernel_rfl) (by kernel_rfl) (by kernel_rfl) (fun _ _ _ h => h) (fun W h => run_lk_decls rfl rfl rfl (run_decls h.1 _)) S1 ?_
  change wpAnyH _ _ _ _ _ _ _ { tmps := #[.pointer (some ⟨c.X, 0, none⟩), undef, .pointer (some ⟨w.heap.size, 0, none⟩), .pointer (some ⟨PB, 0, none⟩), undef, .pointer (some ⟨c.X, 0, none⟩), .pointer (some ⟨c.X, 0, none⟩), .pointer (some ⟨c.X, 3, none⟩), .map (some c.D), .pointer (some ⟨c.X, 0, none⟩), .agg #[.int .u8 (c.nx k).kind, .string (c.nx k).text, .int .i64 (c.nx k).wd, .int .i64 (c.nx k).pos], .string (c.nx k).text, lookE (c.nx k).text.data.toList c.declE, undef, undef, undef, undef, undef, undef, undef, undef, undef, undef, undef, undef, undef, undef, undef, undef, undef, undef, undef, undef, undef, undef, undef, undef, undef, undef, undef, undef, undef], defers := [] } _
  refine dr_take 8 (lookE (c.nx k).text.data.toList c.declE) rfl rfl (by kernel_rfl) (by kernel_rfl) (by kernel_rfl) (fun _ _ _ h => h) (fun _ _ => rfl) S1 ?_
  change wpAnyH _ _ _ _ _ _ _ { tmps := #[.pointer (some ⟨c.X, 0, none⟩), undef, .pointer (some ⟨w.heap.size, 0, none⟩), .pointer (some ⟨PB, 0, none⟩), lookE (c.nx k).text.data.toList c.declE, .pointer (some ⟨c.X, 0, none⟩), .pointer (some ⟨c.X, 0, none⟩), .pointer (some ⟨c.X, 3, none⟩), .map (some c.D), .pointer (some ⟨c.X, 0, none⟩), .agg #[.int .u8 (c.nx k).kind, .string (c.nx k).text, .int .i64 (c.nx k).wd, .int .i64 (c.nx k).pos], .string (c.nx k).text, lookE (c.nx k).text.data.toList c.declE, undef, undef, undef, undef, undef, undef, undef, undef, undef, undef, undef, undef, undef, undef, undef, undef, undef, undef, undef, undef, undef, undef, undef, undef, undef, undef, undef, undef, undef], defers := [] } _
  clear S0 S1 hb
  refine wpAnyH_done (by kernel_rfl) ?_ _
  have B0 : Hid (PrI c w PB Y1 n (lookE (c.nx k).text.data.toList c.declE) w1) := ⟨k, _, _, _, G.out, rfl, hY1.symm, by have := HM.out; omega, by have := HM.out; simp; omega⟩
  clear hY1 G
  generalize lookE (c.nx k).text.data.toList c.declE = U0 at B0 ⊢
  go_wp2_with fail
  go_loopg [4] n (fun m u W => PrI c w PB Y1 m u W ∧ m ≤ n)
  case atStart => exact ⟨B0.out, Nat.le_refl _⟩
  case round =>
    obtain ⟨⟨j, p, vS, vL, G1, hu, hY1, hfu, hle⟩, hgn⟩ := hrel
    have G := Lib.hid G1
    have HFU := Lib.hid (And.intro hfu hle)
    have HGN := Lib.hid hgn
    have HY1 := Lib.hid hY1
    have hj6 : j ≤ 65536 := HJ.out j G1.run.le
    clear G1 hY1 hfu hle hgn
    obtain ⟨m, rfl⟩ : ∃ m, gk = m + 1 := ⟨gk - 1, by have := HFU.out.1; omega⟩

    by_cases h1 : isT [115, 104, 97, 114, 101, 100] (c.at j) = true
    · have hjl := Par.isT_lt h1
      rw [look_shared h1] at hu
      subst hu
      obtain ⟨Z, hZ⟩ : ∃ Z, Z = listP c.L (firstP c.L) m [] (c.at (j + 1)) := ⟨_, rfl⟩
      have hz : Y1 = Z.then fun l r => declsP c.L m { p with shared := p.shared ++ l } r := by
        rw [← HY1.out]; conv => lhs; unfold declsP
        rw [if_pos h1, Par.at_tail, hZ]
      have HZ := Lib.hid hz
      have HLJ : Hid ((c.at (j + 1)).length + 1 = (c.at j).length) := by rw [Hid, Par.at_len, Par.at_len]; omega
      have HC : Hid (∀ W', PgI c w PB vS vL p W' (j + 1) → Calls Tryd.prog 30 #[.pointer (some ⟨c.X, 0, none⟩), .pointer (some ⟨PB, 0, none⟩)] W' (shPost c w PB vL p Z)) := fun W' GW => by rw [hZ]; exact p_shared HR.out (by have := HFU.out.1; have := HLJ.out; omega) GW (by have := HFU.out.2; have := HLJ.out; omega)
      have HN4 : Hid (∀ d r, Z = .ok d r → d.length + r.length ≤ (c.at (j + 1)).length) := fun d r h => by have := list_both (fun _ _ _ => firstP_short) (hZ.symm.trans h); simpa using this
      obtain ⟨⟨_, _, c2, _⟩, xf⟩ := G.out.run.cells
      have G3 := Lib.hid (G.out.call (Fr.setX (Fr.refl c _) (.int .i64 ((j : Int) + 1)) 2 G.out.run.pos) ((G.out.run.rd HR.out).step hjl) hX.out)
      clear hZ hz hjl h1
      go_wp2_with fail
      go_at_call 30
      refine (HC.out _ G3.out).mono ?_
      rintro e w3 hm
      rcases Z with ⟨d, r⟩ | ⟨q, rl⟩
      rotate_left
      · obtain ⟨rfl, hf⟩ := hm
        have AZ := Lib.hid hf
        clear hf
        go_wp2_with fail
        refine ⟨rfl, ?_⟩
        show RdPost c w Y _ _ _
        rw [HS.out, HZ.out]
        exact ⟨AZ.out, rfl⟩
      obtain ⟨v', k', rfl, G4, rfl⟩ := hm
      have G := Lib.hid G4
      have HN5 := Lib.hid (HN4.out _ _ rfl)
      clear G4 c2 xf G3
      go_wp2_with fail
      refine wp_region_held (S := fun W => RdS c W ∧ W.cell? ⟨c.X, 3, none⟩ = some (.map (some c.D))) (by kernel_rfl) ?_
      have G := Lib.hid G.out.drew
      change wpAnyH _ _ _ _ _ _ _ _ (w3).drew
      obtain ⟨W0, hW0⟩ : ∃ W0, W0 = (w3).drew := ⟨_, rfl⟩
      rw [← hW0] at G ⊢
      clear hW0
      have S0 : RdS c W0 ∧ W0.cell? ⟨c.X, 3, none⟩ = some (.map (some c.D)) := ⟨(G.out.run.rd HR.out).s, G.out.run.cells.1.2.2.2.1⟩
      refine dr_take 0 (.pointer (some ⟨c.X, 0, none⟩)) rfl rfl (by kernel_rfl) (by kernel_rfl) (by kernel_rfl) (fun _ _ _ h => h) (fun _ _ => rfl) S0 ?_
      change wpAnyH _ _ _ _ _ _ _ { tmps := #[.pointer (some ⟨c.X, 0, none⟩), undef, .pointer (some ⟨w.heap.size, 0, none⟩), .pointer (some ⟨PB, 0, none⟩), .func (.func 30) #[.pointer (some ⟨c.X, 0, none⟩)] #[], .pointer (some ⟨c.X, 0, none⟩), .pointer (some ⟨c.X, 0, none⟩), .pointer (some ⟨c.X, 3, none⟩), .map (some c.D), .pointer (some ⟨c.X, 0, none⟩), .agg #[.int .u8 (c.nx k).kind, .string (c.nx k).text, .int .i64 (c.nx k).wd, .int .i64 (c.nx k).pos], .string (c.nx k).text, U0, .func (.func 30) #[.pointer (some ⟨c.X, 0, none⟩)] #[], .bool true, .pointer (some ⟨c.X, 0, none⟩), u16, u17, u18, u19, u20, u21, u22, .pointer (some ⟨c.X, 0, none⟩), .pointer (some ⟨c.X, 0, none⟩), .pointer (some ⟨c.X, 2, none⟩), .int .i64 (j : Int), .int .i64 ((j : Int) + 1), .pointer (some ⟨c.X, 0, none⟩), .pointer (some ⟨c.X, 2, none⟩), .func (.func 30) #[.pointer (some ⟨c.X, 0, none⟩)] #[], .tuple #[], undef, undef, undef, undef, undef, undef, undef, undef, undef, undef], defers := [] } _
      refine dr_take 1 (.pointer (some ⟨c.X, 0, none⟩)) rfl rfl (by kernel_rfl) (by kernel_rfl) (by kernel_rfl) (fun _ _ _ h => h) (fun _ _ => by unfold execOp; go_simp) S0 ?_
      change wpAnyH _ _ _ _ _ _ _ { tmps := #[.pointer (some ⟨c.X, 0, none⟩), undef, .pointer (some ⟨w.heap.size, 0, none⟩), .pointer (some ⟨PB, 0, none⟩), .func (.func 30) #[.pointer (some ⟨c.X, 0, none⟩)] #[], .pointer (some ⟨c.X, 0, none⟩), .pointer (some ⟨c.X, 0, none⟩), .pointer (some ⟨c.X, 3, none⟩), .map (some c.D), .pointer (some ⟨c.X, 0, none⟩), .agg #[.int .u8 (c.nx k).kind, .string (c.nx k).text, .int .i64 (c.nx k).wd, .int .i64 (c.nx k).pos], .string (c.nx k).text, U0, .func (.func 30) #[.pointer (some ⟨c.X, 0, none⟩)] #[], .bool true, .pointer (some ⟨c.X, 0, none⟩), .pointer (some ⟨c.X, 0, none⟩), u17, u18, u19, u20, u21, u22, .pointer (some ⟨c.X, 0, none⟩), .pointer (some ⟨c.X, 0, none⟩), .pointer (some ⟨c.X, 2, none⟩), .int .i64 (j : Int), .int .i64 ((j : Int) + 1), .pointer (some ⟨c.X, 0, none⟩), .pointer (some ⟨c.X, 2, none⟩), .func (.func 30) #[.pointer (some ⟨c.X, 0, none⟩)] #[], .tuple #[], undef, undef, undef, undef, undef, undef, undef, undef, undef, undef], defers := [] } _
      refine dr_take 2 (.pointer (some ⟨c.X, 3, none⟩)) rfl rfl (by kernel_rfl) (by kernel_rfl) (by kernel_rfl) (fun _ _ _ h => h) (fun _ _ => by unfold execOp; go_simp) S0 ?_
      change wpAnyH _ _ _ _ _ _ _ { tmps := #[.pointer (some ⟨c.X, 0, none⟩), undef, .pointer (some ⟨w.heap.size, 0, none⟩), .pointer (some ⟨PB, 0, none⟩), .func (.func 30) #[.pointer (some ⟨c.X, 0, none⟩)] #[], .pointer (some ⟨c.X, 0, none⟩), .pointer (some ⟨c.X, 0, none⟩), .pointer (some ⟨c.X, 3, none⟩), .map (some c.D), .pointer (some ⟨c.X, 0, none⟩), .agg #[.int .u8 (c.nx k).kind, .string (c.nx k).text, .int .i64 (c.nx k).wd, .int .i64 (c.nx k).pos], .string (c.nx k).text, U0, .func (.func 30) #[.pointer (some ⟨c.X, 0, none⟩)] #[], .bool true, .pointer (some ⟨c.X, 0, none⟩), .pointer (some ⟨c.X, 0, none⟩), .pointer (some ⟨c.X, 3, none⟩), u18, u19, u20, u21, u22, .pointer (some ⟨c.X, 0, none⟩), .pointer (some ⟨c.X, 0, none⟩), .pointer (some ⟨c.X, 2, none⟩), .int .i64 (j : Int), .int .i64 ((j : Int) + 1), .pointer (some ⟨c.X, 0, none⟩), .pointer (some ⟨c.X, 2, none⟩), .func (.func 30) #[.pointer (some ⟨c.X, 0, none⟩)] #[], .tuple #[], undef, undef, undef, undef, undef, undef, undef, undef, undef, undef], defers := [] } _
      refine dr_take 3 (.map (some c.D)) rfl rfl (by kernel_rfl) (by kernel_rfl) (by kernel_rfl) (fun _ _ _ h => h) (fun W h => run_ld_decls rfl rfl h.2) S0 ?_
      change wpAnyH _ _ _ _ _ _ _ { tmps := #[.pointer (some ⟨c.X, 0, none⟩), undef, .pointer (some ⟨w.heap.size, 0, none⟩), .pointer (some ⟨PB, 0, none⟩), .func (.func 30) #[.pointer (some ⟨c.X, 0, none⟩)] #[], .pointer (some ⟨c.X, 0, none⟩), .pointer (some ⟨c.X, 0, none⟩), .pointer (some ⟨c.X, 3, none⟩), .map (some c.D), .pointer (some ⟨c.X, 0, none⟩), .agg #[.int .u8 (c.nx k).kind, .string (c.nx k).text, .int .i64 (c.nx k).wd, .int .i64 (c.nx k).pos], .string (c.nx k).text, U0, .func (.func 30) #[.pointer (some ⟨c.X, 0, none⟩)] #[], .bool true, .pointer (some ⟨c.X, 0, none⟩), .pointer (some ⟨c.X, 0, none⟩), .pointer (some ⟨c.X, 3, none⟩), .map (some c.D), u19, u20, u21, u22, .pointer (some ⟨c.X, 0, none⟩), .pointer (some ⟨c.X, 0, none⟩), .pointer (some ⟨c.X, 2, none⟩), .int .i64 (j : Int), .int .i64 ((j : Int) + 1), .pointer (some ⟨c.X, 0, none⟩), .pointer (some ⟨c.X, 2, none⟩), .func (.func 30) #[.pointer (some ⟨c.X, 0, none⟩)] #[], .tuple #[], undef, undef, undef, undef, undef, undef, undef, undef, undef, undef], defers := [] } _
      refine dr_take 4 (.pointer (some ⟨c.X, 0, none⟩)) rfl rfl (by kernel_rfl) (by kernel_rfl) (by kernel_rfl) (fun _ _ _ h => h) (fun _ _ => rfl) S0 ?_
      change wpAnyH _ _ _ _ _ _ _ { tmps := #[.pointer (some ⟨c.X, 0, none⟩), undef, .pointer (some ⟨w.heap.size, 0, none⟩), .pointer (some ⟨PB, 0, none⟩), .func (.func 30) #[.pointer (some ⟨c.X, 0, none⟩)] #[], .pointer (some ⟨c.X, 0, none⟩), .pointer (some ⟨c.X, 0, none⟩), .pointer (some ⟨c.X, 3, none⟩), .map (some c.D), .pointer (some ⟨c.X, 0, none⟩), .agg #[.int .u8 (c.nx k).kind, .string (c.nx k).text, .int .i64 (c.nx k).wd, .int .i64 (c.nx k).pos], .string (c.nx k).text, U0, .func (.func 30) #[.pointer (some ⟨c.X, 0, none⟩)] #[], .bool true, .pointer (some ⟨c.X, 0, none⟩), .pointer (some ⟨c.X, 0, none⟩), .pointer (some ⟨c.X, 3, none⟩), .map (some c.D), .pointer (some ⟨c.X, 0, none⟩), u20, u21, u22, .pointer (some ⟨c.X, 0, none⟩), .pointer (some ⟨c.X, 0, none⟩), .pointer (some ⟨c.X, 2, none⟩), .int .i64 (j : Int), .int .i64 ((j : Int) + 1), .pointer (some ⟨c.X, 0, none⟩), .pointer (some ⟨c.X, 2, none⟩), .func (.func 30) #[.pointer (some ⟨c.X, 0, none⟩)] #[], .tuple #[], undef, undef, undef, undef, undef, undef, undef, undef, undef, undef], defers := [] } _
      refine dr_one 5 rfl rfl (by kernel_rfl) ?_
      refine wp_call (vs := #[.pointer (some ⟨c.X, 0, none⟩)]) rfl rfl (enters_of Tryd.func40 (by kernel_rfl) rfl) (by simp [Act.eval]) (HN.out _ k' (G.out.run.rd HR.out)) ?_
      rintro e w1 ⟨rfl, hb⟩
      have G := Lib.hid (G.out.call (.of_below hb) ((G.out.run.rd HR.out).below hb) hX.out)
      have S1 : RdS c w1 ∧ w1.cell? ⟨c.X, 3, none⟩ = some (.map (some c.D)) := ⟨(G.out.run.rd HR.out).s, G.out.run.cells.1.2.2.2.1⟩
      refine ⟨S1, ?_⟩
      change wpAnyH _ _ _ _ _ _ _ { tmps := #[.pointer (some ⟨c.X, 0, none⟩), undef, .pointer (some ⟨w.heap.size, 0, none⟩), .pointer (some ⟨PB, 0, none⟩), .func (.func 30) #[.pointer (some ⟨c.X, 0, none⟩)] #[], .pointer (some ⟨c.X, 0, none⟩), .pointer (some ⟨c.X, 0, none⟩), .pointer (some ⟨c.X, 3, none⟩), .map (some c.D), .pointer (some ⟨c.X, 0, none⟩), .agg #[.int .u8 (c.nx k).kind, .string (c.nx k).text, .int .i64 (c.nx k).wd, .int .i64 (c.nx k).pos], .string (c.nx k).text, U0, .func (.func 30) #[.pointer (some ⟨c.X, 0, none⟩)] #[], .bool true, .pointer (some ⟨c.X, 0, none⟩), .pointer (some ⟨c.X, 0, none⟩), .pointer (some ⟨c.X, 3, none⟩), .map (some c.D), .pointer (some ⟨c.X, 0, none⟩), .agg #[.int .u8 (c.nx k').kind, .string (c.nx k').text, .int .i64 (c.nx k').wd, .int .i64 (c.nx k').pos], u21, u22, .pointer (some ⟨c.X, 0, none⟩), .pointer (some ⟨c.X, 0, none⟩), .pointer (some ⟨c.X, 2, none⟩), .int .i64 (j : Int), .int .i64 ((j : Int) + 1), .pointer (some ⟨c.X, 0, none⟩), .pointer (some ⟨c.X, 2, none⟩), .func (.func 30) #[.pointer (some ⟨c.X, 0, none⟩)] #[], .tuple #[], undef, undef, undef, undef, undef, undef, undef, undef, undef, undef], defers := [] } _
      refine dr_take 6 (.string (c.nx k').text) rfl rfl (by kernel_rfl) (by kernel_rfl) (by kernel_rfl) (fun _ _ _ h => h) (fun W _ => run_fd_tok rfl rfl) S1 ?_
      change wpAnyH _ _ _ _ _ _ _ { tmps := #[.pointer (some ⟨c.X, 0, none⟩), undef, .pointer (some ⟨w.heap.size, 0, none⟩), .pointer (some ⟨PB, 0, none⟩), .func (.func 30) #[.pointer (some ⟨c.X, 0, none⟩)] #[], .pointer (some ⟨c.X, 0, none⟩), .pointer (some ⟨c.X, 0, none⟩), .pointer (some ⟨c.X, 3, none⟩), .map (some c.D), .pointer (some ⟨c.X, 0, none⟩), .agg #[.int .u8 (c.nx k).kind, .string (c.nx k).text, .int .i64 (c.nx k).wd, .int .i64 (c.nx k).pos], .string (c.nx k).text, U0, .func (.func 30) #[.pointer (some ⟨c.X, 0, none⟩)] #[], .bool true, .pointer (some ⟨c.X, 0, none⟩), .pointer (some ⟨c.X, 0, none⟩), .pointer (some ⟨c.X, 3, none⟩), .map (some c.D), .pointer (some ⟨c.X, 0, none⟩), .agg #[.int .u8 (c.nx k').kind, .string (c.nx k').text, .int .i64 (c.nx k').wd, .int .i64 (c.nx k').pos], .string (c.nx k').text, u22, .pointer (some ⟨c.X, 0, none⟩), .pointer (some ⟨c.X, 0, none⟩), .pointer (some ⟨c.X, 2, none⟩), .int .i64 (j : Int), .int .i64 ((j : Int) + 1), .pointer (some ⟨c.X, 0, none⟩), .pointer (some ⟨c.X, 2, none⟩), .func (.func 30) #[.pointer (some ⟨c.X, 0, none⟩)] #[], .tuple #[], undef, undef, undef, undef, undef, undef, undef, undef, undef, undef], defers := [] } _
      refine dr_take 7 (lookE (c.nx k').text.data.toList c.declE) rfl rfl (by kernel_rfl) (by kernel_rfl) (by kernel_rfl) (fun _ _ _ h => h) (fun W h => run_lk_decls rfl rfl rfl (run_decls h.1 _)) S1 ?_
      change wpAnyH _ _ _ _ _ _ _ { tmps := #[.pointer (some ⟨c.X, 0, none⟩), undef, .pointer (some ⟨w.heap.size, 0, none⟩), .pointer (some ⟨PB, 0, none⟩), .func (.func 30) #[.pointer (some ⟨c.X, 0, none⟩)] #[], .pointer (some ⟨c.X, 0, none⟩), .pointer (some ⟨c.X, 0, none⟩), .pointer (some ⟨c.X, 3, none⟩), .map (some c.D), .pointer (some ⟨c.X, 0, none⟩), .agg #[.int .u8 (c.nx k).kind, .string (c.nx k).text, .int .i64 (c.nx k).wd, .int .i64 (c.nx k).pos], .string (c.nx k).text, U0, .func (.func 30) #[.pointer (some ⟨c.X, 0, none⟩)] #[], .bool true, .pointer (some ⟨c.X, 0, none⟩), .pointer (some ⟨c.X, 0, none⟩), .pointer (some ⟨c.X, 3, none⟩), .map (some c.D), .pointer (some ⟨c.X, 0, none⟩), .agg #[.int .u8 (c.nx k').kind, .string (c.nx k').text, .int .i64 (c.nx k').wd, .int .i64 (c.nx k').pos], .string (c.nx k').text, lookE (c.nx k').text.data.toList c.declE, .pointer (some ⟨c.X, 0, none⟩), .pointer (some ⟨c.X, 0, none⟩), .pointer (some ⟨c.X, 2, none⟩), .int .i64 (j : Int), .int .i64 ((j : Int) + 1), .pointer (some ⟨c.X, 0, none⟩), .pointer (some ⟨c.X, 2, none⟩), .func (.func 30) #[.pointer (some ⟨c.X, 0, none⟩)] #[], .tuple #[], undef, undef, undef, undef, undef, undef, undef, undef, undef, undef], defers := [] } _
      refine dr_take 8 (lookE (c.nx k').text.data.toList c.declE) rfl rfl (by kernel_rfl) (by kernel_rfl) (by kernel_rfl) (fun _ _ _ h => h) (fun _ _ => rfl) S1 ?_
      change wpAnyH _ _ _ _ _ _ _ { tmps := #[.pointer (some ⟨c.X, 0, none⟩), undef, .pointer (some ⟨w.heap.size, 0, none⟩), .pointer (some ⟨PB, 0, none⟩), lookE (c.nx k').text.data.toList c.declE, .pointer (some ⟨c.X, 0, none⟩), .pointer (some ⟨c.X, 0, none⟩), .pointer (some ⟨c.X, 3, none⟩), .map (some c.D), .pointer (some ⟨c.X, 0, none⟩), .agg #[.int .u8 (c.nx k).kind, .string (c.nx k).text, .int .i64 (c.nx k).wd, .int .i64 (c.nx k).pos], .string (c.nx k).text, U0, .func (.func 30) #[.pointer (some ⟨c.X, 0, none⟩)] #[], .bool true, .pointer (some ⟨c.X, 0, none⟩), .pointer (some ⟨c.X, 0, none⟩), .pointer (some ⟨c.X, 3, none⟩), .map (some c.D), .pointer (some ⟨c.X, 0, none⟩), .agg #[.int .u8 (c.nx k').kind, .string (c.nx k').text, .int .i64 (c.nx k').wd, .int .i64 (c.nx k').pos], .string (c.nx k').text, lookE (c.nx k').text.data.toList c.declE, .pointer (some ⟨c.X, 0, none⟩), .pointer (some ⟨c.X, 0, none⟩), .pointer (some ⟨c.X, 2, none⟩), .int .i64 (j : Int), .int .i64 ((j : Int) + 1), .pointer (some ⟨c.X, 0, none⟩), .pointer (some ⟨c.X, 2, none⟩), .func (.func 30) #[.pointer (some ⟨c.X, 0, none⟩)] #[], .tuple #[], undef, undef, undef, undef, undef, undef, undef, undef, undef, undef], defers := [] } _
      clear S0 S1 hb
      refine wpAnyH_done (by kernel_rfl) ?_ _
      go_wp2_with fail
      go_roundg m
      case measure => omega
      case rel => exact ⟨⟨k', _, _, _, G.out, rfl, HZ.out.symm, by have := HFU.out.1; have := HLJ.out; have := HN5.out; omega, by have := HFU.out.2; have := HLJ.out; have := HN5.out; simp only [List.length_append]; omega⟩, by have := HGN.out; omega⟩
    · by_cases h2 : isT [108, 111, 99, 107] (c.at j) = true
      · have hjl := Par.isT_lt h2
        rw [look_locks h2] at hu
        subst hu
        obtain ⟨Z, hZ⟩ : ∃ Z, Z = listP c.L (nameP c.L) m [] (c.at (j + 1)) := ⟨_, rfl⟩
        have hz : Y1 = Z.then fun l r => declsP c.L m { p with locks := p.locks ++ l } r := by
          rw [← HY1.out]; conv => lhs; unfold declsP
          rw [if_neg h1, if_pos h2, Par.at_tail, hZ]
        have HZ := Lib.hid hz
        have HLJ : Hid ((c.at (j + 1)).length + 1 = (c.at j).length) := by rw [Hid, Par.at_len, Par.at_len]; omega
        have HC : Hid (∀ W', PgI c w PB vS vL p W' (j + 1) → Calls Tryd.prog 31 #[.pointer (some ⟨c.X, 0, none⟩), .pointer (some ⟨PB, 0, none⟩)] W' (lkPost c w PB vS p Z)) := fun W' GW => by rw [hZ]; exact p_locks HR.out (by have := HFU.out.1; have := HLJ.out; omega) GW (by have := HFU.out.2; have := HLJ.out; omega)
        have HN4 : Hid (∀ d r, Z = .ok d r → d.length + r.length ≤ (c.at (j + 1)).length) := fun d r h => by have := list_both (fun _ _ _ => nameP_short) (hZ.symm.trans h); simpa using this
        obtain ⟨⟨_, _, c2, _⟩, xf⟩ := G.out.run.cells
        have G3 := Lib.hid (G.out.call (Fr.setX (Fr.refl c _) (.int .i64 ((j : Int) + 1)) 2 G.out.run.pos) ((G.out.run.rd HR.out).step hjl) hX.out)
        clear hZ hz hjl h1 h2
        go_wp2_with fail
        go_at_call 31
        refine (HC.out _ G3.out).mono ?_
        rintro e w3 hm
        rcases Z with ⟨d, r⟩ | ⟨q, rl⟩
        rotate_left
        · obtain ⟨rfl, hf⟩ := hm
          have AZ := Lib.hid hf
          clear hf
          go_wp2_with fail
          refine ⟨rfl, ?_⟩
          show RdPost c w Y _ _ _
          rw [HS.out, HZ.out]
          exact ⟨AZ.out, rfl⟩
        obtain ⟨v', k', rfl, G4, rfl⟩ := hm
        have G := Lib.hid G4
        have HN5 := Lib.hid (HN4.out _ _ rfl)
        clear G4 c2 xf G3
        go_wp2_with fail
        refine wp_region_held (S := fun W => RdS c W ∧ W.cell? ⟨c.X, 3, none⟩ = some (.map (some c.D))) (by kernel_rfl) ?_
        have G := Lib.hid G.out.drew
        change wpAnyH _ _ _ _ _ _ _ _ (w3).drew
        obtain ⟨W0, hW0⟩ : ∃ W0, W0 = (w3).drew := ⟨_, rfl⟩
        rw [← hW0] at G ⊢
        clear hW0
        have S0 : RdS c W0 ∧ W0.cell? ⟨c.X, 3, none⟩ = some (.map (some c.D)) := ⟨(G.out.run.rd HR.out).s, G.out.run.cells.1.2.2.2.1⟩
        refine dr_take 0 (.pointer (some ⟨c.X, 0, none⟩)) rfl rfl (by kernel_rfl) (by kernel_rfl) (by kernel_rfl) (fun _ _ _ h => h) (fun _ _ => rfl) S0 ?_
        change wpAnyH _ _ _ _ _ _ _ { tmps := #[.pointer (some ⟨c.X, 0, none⟩), undef, .pointer (some ⟨w.heap.size, 0, none⟩), .pointer (some ⟨PB, 0, none⟩), .func (.func 31) #[.pointer (some ⟨c.X, 0, none⟩)] #[], .pointer (some ⟨c.X, 0, none⟩), .pointer (some ⟨c.X, 0, none⟩), .pointer (some ⟨c.X, 3, none⟩), .map (some c.D), .pointer (some ⟨c.X, 0, none⟩), .agg #[.int .u8 (c.nx k).kind, .string (c.nx k).text, .int .i64 (c.nx k).wd, .int .i64 (c.nx k).pos], .string (c.nx k).text, U0, .func (.func 31) #[.pointer (some ⟨c.X, 0, none⟩)] #[], .bool true, .pointer (some ⟨c.X, 0, none⟩), u16, u17, u18, u19, u20, u21, u22, .pointer (some ⟨c.X, 0, none⟩), .pointer (some ⟨c.X, 0, none⟩), .pointer (some ⟨c.X, 2, none⟩), .int .i64 (j : Int), .int .i64 ((j : Int) + 1), .pointer (some ⟨c.X, 0, none⟩), .pointer (some ⟨c.X, 2, none⟩), .func (.func 31) #[.pointer (some ⟨c.X, 0, none⟩)] #[], .tuple #[], undef, undef, undef, undef, undef, undef, undef, undef, undef, undef], defers := [] } _
        refine dr_take 1 (.pointer (some ⟨c.X, 0, none⟩)) rfl rfl (by kernel_rfl) (by kernel_rfl) (by kernel_rfl) (fun _ _ _ h => h) (fun _ _ => by unfold execOp; go_simp) S0 ?_
        change wpAnyH _ _ _ _ _ _ _ { tmps := #[.pointer (some ⟨c.X, 0, none⟩), undef, .pointer (some ⟨w.heap.size, 0, none⟩), .pointer (some ⟨PB, 0, none⟩), .func (.func 31) #[.pointer (some ⟨c.X, 0, none⟩)] #[], .pointer (some ⟨c.X, 0, none⟩), .pointer (some ⟨c.X, 0, none⟩), .pointer (some ⟨c.X, 3, none⟩), .map (some c.D), .pointer (some ⟨c.X, 0, none⟩), .agg #[.int .u8 (c.nx k).kind, .string (c.nx k).text, .int .i64 (c.nx k).wd, .int .i64 (c.nx k).pos], .string (c.nx k).text, U0, .func (.func 31) #[.pointer (some ⟨c.X, 0, none⟩)] #[], .bool true, .pointer (some ⟨c.X, 0, none⟩), .pointer (some ⟨c.X, 0, none⟩), u17, u18, u19, u20, u21, u22, .pointer (some ⟨c.X, 0, none⟩), .pointer (some ⟨c.X, 0, none⟩), .pointer (some ⟨c.X, 2, none⟩), .int .i64 (j : Int), .int .i64 ((j : Int) + 1), .pointer (some ⟨c.X, 0, none⟩), .pointer (some ⟨c.X, 2, none⟩), .func (.func 31) #[.pointer (some ⟨c.X, 0, none⟩)] #[], .tuple #[], undef, undef, undef, undef, undef, undef, undef, undef, undef, undef], defers := [] } _
        refine dr_take 2 (.pointer (some ⟨c.X, 3, none⟩)) rfl rfl (by kernel_rfl) (by kernel_rfl) (by kernel_rfl) (fun _ _ _ h => h) (fun _ _ => by unfold execOp; go_simp) S0 ?_
        change wpAnyH _ _ _ _ _ _ _ { tmps := #[.pointer (some ⟨c.X, 0, none⟩), undef, .pointer (some ⟨w.heap.size, 0, none⟩), .pointer (some ⟨PB, 0, none⟩), .func (.func 31) #[.pointer (some ⟨c.X, 0, none⟩)] #[], .pointer (some ⟨c.X, 0, none⟩), .pointer (some ⟨c.X, 0, none⟩), .pointer (some ⟨c.X, 3, none⟩), .map (some c.D), .pointer (some ⟨c.X, 0, none⟩), .agg #[.int .u8 (c.nx k).kind, .string (c.nx k).text, .int .i64 (c.nx k).wd, .int .i64 (c.nx k).pos], .string (c.nx k).text, U0, .func (.func 31) #[.pointer (some ⟨c.X, 0, none⟩)] #[], .bool true, .pointer (some ⟨c.X, 0, none⟩), .pointer (some ⟨c.X, 0, none⟩), .pointer (some ⟨c.X, 3, none⟩), u18, u19, u20, u21, u22, .pointer (some ⟨c.X, 0, none⟩), .pointer (some ⟨c.X, 0, none⟩), .pointer (some ⟨c.X, 2, none⟩), .int .i64 (j : Int), .int .i64 ((j : Int) + 1), .pointer (some ⟨c.X, 0, none⟩), .pointer (some ⟨c.X, 2, none⟩), .func (.func 31) #[.pointer (some ⟨c.X, 0, none⟩)] #[], .tuple #[], undef, undef, undef, undef, undef, undef, undef, undef, undef, undef], defers := [] } _
        refine dr_take 3 (.map (some c.D)) rfl rfl (by kernel_rfl) (by kernel_rfl) (by kernel_rfl) (fun _ _ _ h => h) (fun W h => run_ld_decls rfl rfl h.2) S0 ?_
        change wpAnyH _ _ _ _ _ _ _ { tmps := #[.pointer (some ⟨c.X, 0, none⟩), undef, .pointer (some ⟨w.heap.size, 0, none⟩), .pointer (some ⟨PB, 0, none⟩), .func (.func 31) #[.pointer (some ⟨c.X, 0, none⟩)] #[], .pointer (some ⟨c.X, 0, none⟩), .pointer (some ⟨c.X, 0, none⟩), .pointer (some ⟨c.X, 3, none⟩), .map (some c.D), .pointer (some ⟨c.X, 0, none⟩), .agg #[.int .u8 (c.nx k).kind, .string (c.nx k).text, .int .i64 (c.nx k).wd, .int .i64 (c.nx k).pos], .string (c.nx k).text, U0, .func (.func 31) #[.pointer (some ⟨c.X, 0, none⟩)] #[], .bool true, .pointer (some ⟨c.X, 0, none⟩), .pointer (some ⟨c.X, 0, none⟩), .pointer (some ⟨c.X, 3, none⟩), .map (some c.D), u19, u20, u21, u22, .pointer (some ⟨c.X, 0, none⟩), .pointer (some ⟨c.X, 0, none⟩), .pointer (some ⟨c.X, 2, none⟩), .int .i64 (j : Int), .int .i64 ((j : Int) + 1), .pointer (some ⟨c.X, 0, none⟩), .pointer (some ⟨c.X, 2, none⟩), .func (.func 31) #[.pointer (some ⟨c.X, 0, none⟩)] #[], .tuple #[], undef, undef, undef, undef, undef, undef, undef, undef, undef, undef], defers := [] } _
        refine dr_take 4 (.pointer (some ⟨c.X, 0, none⟩)) rfl rfl (by kernel_rfl) (by kernel_rfl) (by kernel_rfl) (fun _ _ _ h => h) (fun _ _ => rfl) S0 ?_
        change wpAnyH _ _ _ _ _ _ _ { tmps := #[.pointer (some ⟨c.X, 0, none⟩), undef, .pointer (some ⟨w.heap.size, 0, none⟩), .pointer (some ⟨PB, 0, none⟩), .func (.func 31) #[.pointer (some ⟨c.X, 0, none⟩)] #[], .pointer (some ⟨c.X, 0, none⟩), .pointer (some ⟨c.X, 0, none⟩), .pointer (some ⟨c.X, 3, none⟩), .map (some c.D), .pointer (some ⟨c.X, 0, none⟩), .agg #[.int .u8 (c.nx k).kind, .string (c.nx k).text, .int .i64 (c.nx k).wd, .int .i64 (c.nx k).pos], .string (c.nx k).text, U0, .func (.func 31) #[.pointer (some ⟨c.X, 0, none⟩)] #[], .bool true, .pointer (some ⟨c.X, 0, none⟩), .pointer (some ⟨c.X, 0, none⟩), .pointer (some ⟨c.X, 3, none⟩), .map (some c.D), .pointer (some ⟨c.X, 0, none⟩), u20, u21, u22, .pointer (some ⟨c.X, 0, none⟩), .pointer (some ⟨c.X, 0, none⟩), .pointer (some ⟨c.X, 2, none⟩), .int .i64 (j : Int), .int .i64 ((j : Int) + 1), .pointer (some ⟨c.X, 0, none⟩), .pointer (some ⟨c.X, 2, none⟩), .func (.func 31) #[.pointer (some ⟨c.X, 0, none⟩)] #[], .tuple #[], undef, undef, undef, undef, undef, undef, undef, undef, undef, undef], defers := [] } _
        refine dr_one 5 rfl rfl (by kernel_rfl) ?_
        refine wp_call (vs := #[.pointer (some ⟨c.X, 0, none⟩)]) rfl rfl (enters_of Tryd.func40 (by kernel_rfl) rfl) (by simp [Act.eval]) (HN.out _ k' (G.out.run.rd HR.out)) ?_
        rintro e w1 ⟨rfl, hb⟩
        have G := Lib.hid (G.out.call (.of_below hb) ((G.out.run.rd HR.out).below hb) hX.out)
        have S1 : RdS c w1 ∧ w1.cell? ⟨c.X, 3, none⟩ = some (.map (some c.D)) := ⟨(G.out.run.rd HR.out).s, G.out.run.cells.1.2.2.2.1⟩
        refine ⟨S1, ?_⟩
        change wpAnyH _ _ _ _ _ _ _ { tmps := #[.pointer (some ⟨c.X, 0, none⟩), undef, .pointer (some ⟨w.heap.size, 0, none⟩), .pointer (some ⟨PB, 0, none⟩), .func (.func 31) #[.pointer (some ⟨c.X, 0, none⟩)] #[], .pointer (some ⟨c.X, 0, none⟩), .pointer (some ⟨c.X, 0, none⟩), .pointer (some ⟨c.X, 3, none⟩), .map (some c.D), .pointer (some ⟨c.X, 0, none⟩), .agg #[.int .u8 (c.nx k).kind, .string (c.nx k).text, .int .i64 (c.nx k).wd, .int .i64 (c.nx k).pos], .string (c.nx k).text, U0, .func (.func 31) #[.pointer (some ⟨c.X, 0, none⟩)] #[], .bool true, .pointer (some ⟨c.X, 0, none⟩), .pointer (some ⟨c.X, 0, none⟩), .pointer (some ⟨c.X, 3, none⟩), .map (some c.D), .pointer (some ⟨c.X, 0, none⟩), .agg #[.int .u8 (c.nx k').kind, .string (c.nx k').text, .int .i64 (c.nx k').wd, .int .i64 (c.nx k').pos], u21, u22, .pointer (some ⟨c.X, 0, none⟩), .pointer (some ⟨c.X, 0, none⟩), .pointer (some ⟨c.X, 2, none⟩), .int .i64 (j : Int), .int .i64 ((j : Int) + 1), .pointer (some ⟨c.X, 0, none⟩), .pointer (some ⟨c.X, 2, none⟩), .func (.func 31) #[.pointer (some ⟨c.X, 0, none⟩)] #[], .tuple #[], undef, undef, undef, undef, undef, undef, undef, undef, undef, undef], defers := [] } _
        refine dr_take 6 (.string (c.nx k').text) rfl rfl (by kernel_rfl) (by kernel_rfl) (by kernel_rfl) (fun _ _ _ h => h) (fun W _ => run_fd_tok rfl rfl) S1 ?_
        change wpAnyH _ _ _ _ _ _ _ { tmps := #[.pointer (some ⟨c.X, 0, none⟩), undef, .pointer (some ⟨w.heap.size, 0, none⟩), .pointer (some ⟨PB, 0, none⟩), .func (.func 31) #[.pointer (some ⟨c.X, 0, none⟩)] #[], .pointer (some ⟨c.X, 0, none⟩), .pointer (some ⟨c.X, 0, none⟩), .pointer (some ⟨c.X, 3, none⟩), .map (some c.D), .pointer (some ⟨c.X, 0, none⟩), .agg #[.int .u8 (c.nx k).kind, .string (c.nx k).text, .int .i64 (c.nx k).wd, .int .i64 (c.nx k).pos], .string (c.nx k).text, U0, .func (.func 31) #[.pointer (some ⟨c.X, 0, none⟩)] #[], .bool true, .pointer (some ⟨c.X, 0, none⟩), .pointer (some ⟨c.X, 0, none⟩), .pointer (some ⟨c.X, 3, none⟩), .map (some c.D), .pointer (some ⟨c.X, 0, none⟩), .agg #[.int .u8 (c.nx k').kind, .string (c.nx k').text, .int .i64 (c.nx k').wd, .int .i64 (c.nx k').pos], .string (c.nx k').text, u22, .pointer (some ⟨c.X, 0, none⟩), .pointer (some ⟨c.X, 0, none⟩), .pointer (some ⟨c.X, 2, none⟩), .int .i64 (j : Int), .int .i64 ((j : Int) + 1), .pointer (some ⟨c.X, 0, none⟩), .pointer (some ⟨c.X, 2, none⟩), .func (.func 31) #[.pointer (some ⟨c.X, 0, none⟩)] #[], .tuple #[], undef, undef, undef, undef, undef, undef, undef, undef, undef, undef], defers := [] } _
        refine dr_take 7 (lookE (c.nx k').text.data.toList c.declE) rfl rfl (by kernel_rfl) (by kernel_rfl) (by kernel_rfl) (fun _ _ _ h => h) (fun W h => run_lk_decls rfl rfl rfl (run_decls h.1 _)) S1 ?_
        change wpAnyH _ _ _ _ _ _ _ { tmps := #[.pointer (some ⟨c.X, 0, none⟩), undef, .pointer (some ⟨w.heap.size, 0, none⟩), .pointer (some ⟨PB, 0, none⟩), .func (.func 31) #[.pointer (some ⟨c.X, 0, none⟩)] #[], .pointer (some ⟨c.X, 0, none⟩), .pointer (some ⟨c.X, 0, none⟩), .pointer (some ⟨c.X, 3, none⟩), .map (some c.D), .pointer (some ⟨c.X, 0, none⟩), .agg #[.int .u8 (c.nx k).kind, .string (c.nx k).text, .int .i64 (c.nx k).wd, .int .i64 (c.nx k).pos], .string (c.nx k).text, U0, .func (.func 31) #[.pointer (some ⟨c.X, 0, none⟩)] #[], .bool true, .pointer (some ⟨c.X, 0, none⟩), .pointer (some ⟨c.X, 0, none⟩), .pointer (some ⟨c.X, 3, none⟩), .map (some c.D), .pointer (some ⟨c.X, 0, none⟩), .agg #[.int .u8 (c.nx k').kind, .string (c.nx k').text, .int .i64 (c.nx k').wd, .int .i64 (c.nx k').pos], .string (c.nx k').text, lookE (c.nx k').text.data.toList c.declE, .pointer (some ⟨c.X, 0, none⟩), .pointer (some ⟨c.X, 0, none⟩), .pointer (some ⟨c.X, 2, none⟩), .int .i64 (j : Int), .int .i64 ((j : Int) + 1), .pointer (some ⟨c.X, 0, none⟩), .pointer (some ⟨c.X, 2, none⟩), .func (.func 31) #[.pointer (some ⟨c.X, 0, none⟩)] #[], .tuple #[], undef, undef, undef, undef, undef, undef, undef, undef, undef, undef], defers := [] } _
        refine dr_take 8 (lookE (c.nx k').text.data.toList c.declE) rfl rfl (by kernel_rfl) (by kernel_rfl) (by kernel_rfl) (fun _ _ _ h => h) (fun _ _ => rfl) S1 ?_
        change wpAnyH _ _ _ _ _ _ _ { tmps := #[.pointer (some ⟨c.X, 0, none⟩), undef, .pointer (some ⟨w.heap.size, 0, none⟩), .pointer (some ⟨PB, 0, none⟩), lookE (c.nx k').text.data.toList c.declE, .pointer (some ⟨c.X, 0, none⟩), .pointer (some ⟨c.X, 0, none⟩), .pointer (some ⟨c.X, 3, none⟩), .map (some c.D), .pointer (some ⟨c.X, 0, none⟩), .agg #[.int .u8 (c.nx k).kind, .string (c.nx k).text, .int .i64 (c.nx k).wd, .int .i64 (c.nx k).pos], .string (c.nx k).text, U0, .func (.func 31) #[.pointer (some ⟨c.X, 0, none⟩)] #[], .bool true, .pointer (some ⟨c.X, 0, none⟩), .pointer (some ⟨c.X, 0, none⟩), .pointer (some ⟨c.X, 3, none⟩), .map (some c.D), .pointer (some ⟨c.X, 0, none⟩), .agg #[.int .u8 (c.nx k').kind, .string (c.nx k').text, .int .i64 (c.nx k').wd, .int .i64 (c.nx k').pos], .string (c.nx k').text, lookE (c.nx k').text.data.toList c.declE, .pointer (some ⟨c.X, 0, none⟩), .pointer (some ⟨c.X, 0, none⟩), .pointer (some ⟨c.X, 2, none⟩), .int .i64 (j : Int), .int .i64 ((j : Int) + 1), .pointer (some ⟨c.X, 0, none⟩), .pointer (some ⟨c.X, 2, none⟩), .func (.func 31) #[.pointer (some ⟨c.X, 0, none⟩)] #[], .tuple #[], undef, undef, undef, undef, undef, undef, undef, undef, undef, undef], defers := [] } _
        clear S0 S1 hb
        refine wpAnyH_done (by kernel_rfl) ?_ _
        go_wp2_with fail
        go_roundg m
        case measure => omega
        case rel => exact ⟨⟨k', _, _, _, G.out, rfl, HZ.out.symm, by have := HFU.out.1; have := HLJ.out; have := HN5.out; omega, by have := HFU.out.2; have := HLJ.out; have := HN5.out; simp only [List.length_append]; omega⟩, by have := HGN.out; omega⟩
      · rw [look_none (by simpa using h1) (by simpa using h2)] at hu
        subst hu
        have hz : Y1 = .ok p (c.at j) := by rw [← HY1.out]; unfold declsP; rw [if_neg h1, if_neg h2]
        have HLK := Lib.hid (HDL.out _ _ hz)
        obtain ⟨a1, c1, a2, c2, rfl, rfl, GT⟩ := G.out.threads
        obtain ⟨Z3, hZ3⟩ : ∃ Z3, Z3 = threadsP fnd c.L n [] (c.at j) := ⟨_, rfl⟩
        have HS : Hid (Y = Z3.then fun l r => .ok { p with threads := l } r) := by rw [Hid, HS.out, hz, hZ3]; rfl
        have B1 : Hid (ThrI c w PB a1 c1 a2 c2 p Z3 n _) := ⟨j, [], _, [], GT, hZ3.symm, by have := HM.out; have := HLK.out; omega, by have := HM.out; have := HLK.out; simp; omega⟩
        clear hz hZ3 h1 h2 G GT
        go_wp2_with fail
        go_loopg [] n (fun m W => ThrI c w PB a1 c1 a2 c2 p Z3 m W ∧ m ≤ n)
        case atStart => exact ⟨B1.out, Nat.le_refl _⟩
        case round =>
          obtain ⟨⟨i, l, vT, xs, G1, hY3, hfu, hle⟩, hgn⟩ := hrel
          have G := Lib.hid G1
          have HFU := Lib.hid (And.intro hfu hle)
          have HGN := Lib.hid hgn
          have HY3 := Lib.hid hY3
          clear G1 hY3 hfu hle hgn
          obtain ⟨m2, rfl⟩ : ∃ m2, gk = m2 + 1 := ⟨gk - 1, by have := HFU.out.1; omega⟩
          obtain ⟨B, hB⟩ : ∃ b, b = isT [116, 104, 114, 101, 97, 100] (c.at i) := ⟨_, rfl⟩
          have HCB : Hid (∀ W, Rd c W i → Calls Tryd.prog 50 #[.pointer (some ⟨c.X, 0, none⟩), .string ⟨#[116, 104, 114, 101, 97, 100]⟩] W fun e w' => e = .returned (.bool B) ∧ Fr c W w' ∧ Rd c w' (if B = true then i + 1 else i)) := fun W RW => by rw [hB]; exact HP.out W i ⟨#[116, 104, 114, 101, 97, 100]⟩ RW (by decide)
          cases B with
          | false =>
            have hz3 : Z3 = .ok l (c.at i) := by rw [← HY3.out]; unfold threadsP; rw [← hB]; rfl
            have HZ := Lib.hid hz3
            clear hz3 hB
            go_wp2_with fail
            go_at_call 50
            refine (HCB.out _ (G.out.run.rd HR.out)).mono ?_
            rintro e w3 ⟨rfl, hf3, hR3⟩
            have G := Lib.hid (G.out.call hf3 (show Rd c w3 i from hR3) hX.out)
            clear hf3 hR3
            obtain ⟨a3, c3, rfl, ha3⟩ := row_shape G.out.rT
            have HA3 := Lib.hid ha3
            clear ha3
            have OP := G.out.own
            have OR := G.out.res
            have hnX0 : c.X ≠ w.heap.size := by have := hX.out; omega
            have A6 := Lib.hid (G.out.run.setRow (Nat.le_refl _) hnX0 #[.slice a1 p.shared.length c1, .slice a2 p.locks.length c2, .slice a3 l.length c3])
            have st0 : Hid (Stays (RB w PB (.slice a3 l.length c3)) w3 (w3.setRow w.heap.size #[.slice a1 p.shared.length c1, .slice a2 p.locks.length c2, .slice a3 l.length c3])) := stays_row w3 _ (fun b hb => by have := hb.1; omega)
            have HAP := Lib.hid (row_apart G.out.rT G.out.res rfl)
            clear hnX0
            unfold zPg at OR
            go_wp2_with (first | (refine ld rowPg rfl rfl rfl OP rfl ?_) | (refine st rowPg rfl rfl OR rfl rfl (by rfl) (by rfl) (by kernel_rfl) ?_))
            refine p_ret rowPg rfl (OR.row #[.slice a1 p.shared.length c1, .slice a2 p.locks.length c2, .slice a3 l.length c3]) rfl rfl rfl ?_
            show RdPost c w Y _ _ _
            rw [HS.out, HZ.out]
            refine ⟨A6.out.fr, _, i, rfl, ⟨a1, c1, a2, c2, a3, c3, rfl, ?_, ?_, ?_⟩, A6.out.rd HR.out, rfl⟩
            · exact dcsAt_stays st0.out (fun b hb => Nat.le_of_lt hb.1) G.out.dS
            · exact dcsAt_stays st0.out (fun b hb => Nat.le_of_lt hb.1) G.out.dL
            · have ROW6 := row_row G.out.rT (g := w.heap.size) #[.slice a1 p.shared.length c1, .slice a2 p.locks.length c2, .slice a3 l.length c3] HAP.out
              have TV6 := thsV_stays st0.out (fun b hb => Nat.le_of_lt hb.1) G.out.tv (R' := fun b => w.heap.size ≤ b)
              cases l with
              | nil => exact .inl rfl
              | cons x xx =>
                obtain ⟨g, rfl, hg⟩ := HA3.out (by simp)
                exact .inr ⟨g, 0, rfl, hg, thsIn_of TV6 (row_cells ROW6 rfl)⟩
          | true =>
            have hil := Par.isT_lt hB.symm
            obtain ⟨Z4, hZ4⟩ : ∃ Z4, Z4 = threadP fnd c.L m2 (c.at (i + 1)) := ⟨_, rfl⟩
            have HLJ : Hid ((c.at (i + 1)).length + 1 = (c.at i).length) := by rw [Hid, Par.at_len, Par.at_len]; omega
            have HC4 : Hid (∀ W, Rd c W (i + 1) → Calls Tryd.prog 51 #[.pointer (some ⟨c.X, 0, none⟩)] W (RdPost c W Z4 (fun t v w' => thR W.heap.size t v w'))) := fun W RW => by rw [hZ4]; exact HT.out W (i + 1) m2 RW (by have := HFU.out.1; have := HLJ.out; omega)
            have HN4 : Hid (∀ t r, Z4 = .ok t r → r.length < (c.at (i + 1)).length) := fun t r h => thread_short (hZ4.symm.trans h)
            have hz3 : Z3 = Z4.then fun t r => threadsP fnd c.L m2 (l ++ [t]) r := by
              rw [← HY3.out]; conv => lhs; unfold threadsP
              rw [← hB, hZ4, Par.at_tail]; rfl
            have HZ := Lib.hid hz3
            clear hz3 hB hZ4 hil
            go_wp2_with fail
            go_at_call 50
            refine (HCB.out _ (G.out.run.rd HR.out)).mono ?_
            rintro e w3 ⟨rfl, hf3, hR3⟩
            have G := Lib.hid (G.out.call hf3 (show Rd c w3 (i + 1) from hR3) hX.out)
            clear hf3 hR3
            go_wp2_with fail
            refine wp_region_held (S := fun _ => True) (by kernel_rfl) ?_
            have G := G.out.drew
            change wpAnyH _ _ _ _ _ _ _ _ w3.drew
            obtain ⟨W0, hW0⟩ : ∃ W0, W0 = w3.drew := ⟨_, rfl⟩
            rw [← hW0] at G ⊢
            clear hW0
            refine dr_take 0 (.pointer (some ⟨PB, 2, none⟩)) rfl rfl (by kernel_rfl) (by kernel_rfl) (by kernel_rfl) (fun _ _ _ h => h) (fun _ _ => by unfold execOp; go_simp) trivial ?_
            change wpAnyH _ _ _ _ _ _ _ { tmps := #[.pointer (some ⟨c.X, 0, none⟩), undef, .pointer (some ⟨w.heap.size, 0, none⟩), .pointer (some ⟨PB, 0, none⟩), .nilFunc, .pointer (some ⟨c.X, 0, none⟩), .pointer (some ⟨c.X, 0, none⟩), .pointer (some ⟨c.X, 3, none⟩), .map (some c.D), .pointer (some ⟨c.X, 0, none⟩), .agg #[.int .u8 (c.nx k).kind, .string (c.nx k).text, .int .i64 (c.nx k).wd, .int .i64 (c.nx k).pos], .string (c.nx k).text, U0, .nilFunc, .bool false, u15, u16, u17, u18, u19, u20, u21, u22, u23, u24, u25, u26, u27, u28, u29, u30, u31, .pointer (some ⟨c.X, 0, none⟩), .bool true, .pointer (some ⟨PB, 2, none⟩), u35, u36, u37, u38, u39, u40, undef], defers := [] } _
            refine dr_take 2 (.pointer (some ⟨c.X, 0, none⟩)) rfl rfl (by kernel_rfl) (by kernel_rfl) (by kernel_rfl) (fun _ _ _ h => h) (fun _ _ => rfl) trivial ?_
            change wpAnyH _ _ _ _ _ _ _ { tmps := #[.pointer (some ⟨c.X, 0, none⟩), undef, .pointer (some ⟨w.heap.size, 0, none⟩), .pointer (some ⟨PB, 0, none⟩), .nilFunc, .pointer (some ⟨c.X, 0, none⟩), .pointer (some ⟨c.X, 0, none⟩), .pointer (some ⟨c.X, 3, none⟩), .map (some c.D), .pointer (some ⟨c.X, 0, none⟩), .agg #[.int .u8 (c.nx k).kind, .string (c.nx k).text, .int .i64 (c.nx k).wd, .int .i64 (c.nx k).pos], .string (c.nx k).text, U0, .nilFunc, .bool false, u15, u16, u17, u18, u19, u20, u21, u22, u23, u24, u25, u26, u27, u28, u29, u30, u31, .pointer (some ⟨c.X, 0, none⟩), .bool true, .pointer (some ⟨PB, 2, none⟩), u35, .pointer (some ⟨c.X, 0, none⟩), u37, u38, u39, u40, undef], defers := [] } _
            refine dr_two 1 3 rfl rfl rfl rfl (by kernel_rfl) ?_ ?_
            · refine wp_ld_ths rfl rfl (G.cell (i := 2) (v := vT) rfl) ⟨trivial, ?_⟩
              change wpAnyH _ _ _ _ _ _ _ { tmps := #[.pointer (some ⟨c.X, 0, none⟩), undef, .pointer (some ⟨w.heap.size, 0, none⟩), .pointer (some ⟨PB, 0, none⟩), .nilFunc, .pointer (some ⟨c.X, 0, none⟩), .pointer (some ⟨c.X, 0, none⟩), .pointer (some ⟨c.X, 3, none⟩), .map (some c.D), .pointer (some ⟨c.X, 0, none⟩), .agg #[.int .u8 (c.nx k).kind, .string (c.nx k).text, .int .i64 (c.nx k).wd, .int .i64 (c.nx k).pos], .string (c.nx k).text, U0, .nilFunc, .bool false, u15, u16, u17, u18, u19, u20, u21, u22, u23, u24, u25, u26, u27, u28, u29, u30, u31, .pointer (some ⟨c.X, 0, none⟩), .bool true, .pointer (some ⟨PB, 2, none⟩), vT, .pointer (some ⟨c.X, 0, none⟩), u37, u38, u39, u40, undef], defers := [] } _
              refine dr_one 3 rfl rfl (by kernel_rfl) ?_
              refine wp_call (vs := #[.pointer (some ⟨c.X, 0, none⟩)]) rfl rfl (enters_of Tryd.func51 (by kernel_rfl) rfl) (by simp [Act.eval]) (HC4.out _ (G.run.rd HR.out)) ?_
              rintro e w4 ⟨hf4, hm⟩
              rcases Z4 with ⟨t, r⟩ | ⟨q, rl⟩
              rotate_left
              · obtain rfl := hm
                have AZ := Lib.hid (G.run.fr.trans hf4)
                clear hf4
                go_wp2_with fail
                refine ⟨rfl, ?_⟩
                show RdPost c w Y _ _ _
                rw [HS.out, HZ.out]
                exact ⟨AZ.out, rfl⟩
              obtain ⟨v1, k3, rfl, ⟨a5, c5, a6, c6, rfl, hd5, hs6⟩, hR1, rfl⟩ := hm
              have G1 := G.call hf4 hR1 hX.out
              have hlen := HN4.out _ _ rfl
              have hW0 := G.run.fr.size
              have hPBl := G.own.lt
              have hPBg := G.ge
              have hq : ∀ b, W0.heap.size ≤ b ∧ b < w4.heap.size → RB w PB vT b ∧ b < w4.heap.size + 1 := fun b hb => ⟨⟨by omega, by omega, fun e => by have := (G.rT.lt b e).2; omega⟩, by omega⟩
              refine ⟨trivial, ?_⟩
              change wpAnyH _ _ _ _ _ _ _ { tmps := #[.pointer (some ⟨c.X, 0, none⟩), undef, .pointer (some ⟨w.heap.size, 0, none⟩), .pointer (some ⟨PB, 0, none⟩), .nilFunc, .pointer (some ⟨c.X, 0, none⟩), .pointer (some ⟨c.X, 0, none⟩), .pointer (some ⟨c.X, 3, none⟩), .map (some c.D), .pointer (some ⟨c.X, 0, none⟩), .agg #[.int .u8 (c.nx k).kind, .string (c.nx k).text, .int .i64 (c.nx k).wd, .int .i64 (c.nx k).pos], .string (c.nx k).text, U0, .nilFunc, .bool false, u15, u16, u17, u18, u19, u20, u21, u22, u23, u24, u25, u26, u27, u28, u29, u30, u31, .pointer (some ⟨c.X, 0, none⟩), .bool true, .pointer (some ⟨PB, 2, none⟩), vT, .pointer (some ⟨c.X, 0, none⟩), .agg #[.string t.name, .slice a5 t.locals.length c5, .slice a6 t.body.length c6, .int .i64 t.pos], u38, u39, u40, undef], defers := [] } _
              refine dr_one 4 rfl rfl (by kernel_rfl) ?_
              refine wp_val (run_bs_th rfl rfl) ⟨trivial, ?_⟩
              change wpAnyH _ _ _ _ _ _ _ { tmps := #[.pointer (some ⟨c.X, 0, none⟩), undef, .pointer (some ⟨w.heap.size, 0, none⟩), .pointer (some ⟨PB, 0, none⟩), .nilFunc, .pointer (some ⟨c.X, 0, none⟩), .pointer (some ⟨c.X, 0, none⟩), .pointer (some ⟨c.X, 3, none⟩), .map (some c.D), .pointer (some ⟨c.X, 0, none⟩), .agg #[.int .u8 (c.nx k).kind, .string (c.nx k).text, .int .i64 (c.nx k).wd, .int .i64 (c.nx k).pos], .string (c.nx k).text, U0, .nilFunc, .bool false, u15, u16, u17, u18, u19, u20, u21, u22, u23, u24, u25, u26, u27, u28, u29, u30, u31, .pointer (some ⟨c.X, 0, none⟩), .bool true, .pointer (some ⟨PB, 2, none⟩), vT, .pointer (some ⟨c.X, 0, none⟩), .agg #[.string t.name, .slice a5 t.locals.length c5, .slice a6 t.body.length c6, .int .i64 t.pos], .slice (some ⟨w4.heap.size, 0, none⟩) 1 1, u39, u40, undef], defers := [] } _
              have G2 := G1.alloc (.cells #[.string t.name, .slice a5 t.locals.length c5, .slice a6 t.body.length c6, .int .i64 t.pos] 56) hX.out HR.out
              have hv : thV (fun b => RB w PB vT b ∧ b < (w4.alloc (.cells #[.string t.name, .slice a5 t.locals.length c5, .slice a6 t.body.length c6, .int .i64 t.pos] 56)).heap.size) (w4.alloc (.cells #[.string t.name, .slice a5 t.locals.length c5, .slice a6 t.body.length c6, .int .i64 t.pos] 56)) t #[.string t.name, .slice a5 t.locals.length c5, .slice a6 t.body.length c6, .int .i64 t.pos].toList := by
                rw [World.size_alloc]
                exact ⟨a5, c5, a6, c6, rfl, dcsAt_stays (stays_alloc _ w4 _) hq (dcsAt_in hd5), stsAt_stays (stays_alloc _ w4 _) hq (stsAt_in hs6)⟩
              have hnews := World.news_of_block (Own.new w4 56 #[.string t.name, .slice a5 t.locals.length c5, .slice a6 t.body.length c6, .int .i64 t.pos])
              have hsz := World.size_alloc w4 (.cells #[.string t.name, .slice a5 t.locals.length c5, .slice a6 t.body.length c6, .int .i64 t.pos] 56)
              have hle6 := HFU.out.2

              refine dr_one 5 rfl rfl (by kernel_rfl) ?_
              obtain ⟨i0, hi, hi0, hi1, hi2⟩ := info_parts infoTh
              refine wp_append_lies (w4.alloc (.cells #[.string t.name, .slice a5 t.locals.length c5, .slice a6 t.body.length c6, .int .i64 t.pos] 56)) _ _ 49 rfl w.heap.size 56 i0 _ 4 72 Tryd.underlying49 hi hi0 hi1 hi2 rfl (by decide) vT l.length xs rfl G2.rT ⟨w4.heap.size, 0, none⟩ 1 1 #[.string t.name, .slice a5 t.locals.length c5, .slice a6 t.body.length c6, .int .i64 t.pos].toList rfl rfl hnews (by simp [Value.oneCell']) (by decide) (by simp only [maxLen]; omega) (by omega) (by have := G2.run.fr.size; omega) _ rfl ?_
              intro g2 cap2 w6 hown2 hgrow2 hlies2 hlt2
              refine ⟨trivial, ?_⟩
              change wpAnyH _ _ _ _ _ _ _ { tmps := #[.pointer (some ⟨c.X, 0, none⟩), undef, .pointer (some ⟨w.heap.size, 0, none⟩), .pointer (some ⟨PB, 0, none⟩), .nilFunc, .pointer (some ⟨c.X, 0, none⟩), .pointer (some ⟨c.X, 0, none⟩), .pointer (some ⟨c.X, 3, none⟩), .map (some c.D), .pointer (some ⟨c.X, 0, none⟩), .agg #[.int .u8 (c.nx k).kind, .string (c.nx k).text, .int .i64 (c.nx k).wd, .int .i64 (c.nx k).pos], .string (c.nx k).text, U0, .nilFunc, .bool false, u15, u16, u17, u18, u19, u20, u21, u22, u23, u24, u25, u26, u27, u28, u29, u30, u31, .pointer (some ⟨c.X, 0, none⟩), .bool true, .pointer (some ⟨PB, 2, none⟩), vT, .pointer (some ⟨c.X, 0, none⟩), .agg #[.string t.name, .slice a5 t.locals.length c5, .slice a6 t.body.length c6, .int .i64 t.pos], .slice (some ⟨w4.heap.size, 0, none⟩) 1 1, .slice (some ⟨g2, 0, none⟩) (l.length + 1) cap2, u40, undef], defers := [] } _
              refine dr_take 6 (.pointer (some ⟨PB, 2, none⟩)) rfl rfl (by kernel_rfl) (by kernel_rfl) (by kernel_rfl) (fun _ _ _ h => h) (fun _ _ => by unfold execOp; go_simp) trivial ?_
              change wpAnyH _ _ _ _ _ _ _ { tmps := #[.pointer (some ⟨c.X, 0, none⟩), undef, .pointer (some ⟨w.heap.size, 0, none⟩), .pointer (some ⟨PB, 0, none⟩), .nilFunc, .pointer (some ⟨c.X, 0, none⟩), .pointer (some ⟨c.X, 0, none⟩), .pointer (some ⟨c.X, 3, none⟩), .map (some c.D), .pointer (some ⟨c.X, 0, none⟩), .agg #[.int .u8 (c.nx k).kind, .string (c.nx k).text, .int .i64 (c.nx k).wd, .int .i64 (c.nx k).pos], .string (c.nx k).text, U0, .nilFunc, .bool false, u15, u16, u17, u18, u19, u20, u21, u22, u23, u24, u25, u26, u27, u28, u29, u30, u31, .pointer (some ⟨c.X, 0, none⟩), .bool true, .pointer (some ⟨PB, 2, none⟩), vT, .pointer (some ⟨c.X, 0, none⟩), .agg #[.string t.name, .slice a5 t.locals.length c5, .slice a6 t.body.length c6, .int .i64 t.pos], .slice (some ⟨w4.heap.size, 0, none⟩) 1 1, .slice (some ⟨g2, 0, none⟩) (l.length + 1) cap2, .pointer (some ⟨PB, 2, none⟩), undef], defers := [] } _
              refine dr_one 7 rfl rfl (by kernel_rfl) ?_
              obtain ⟨B1, B2, B3⟩ := G2.grown hgrow2 hX.out
              refine wp_st_ths rfl rfl rfl (u := vT) (by rw [cell_of_row w6 _ 2 _ _ _ B3]; rfl) (own_frozen B3 2) ⟨trivial, ?_⟩
              rw [setCell_row B3 2 _]
              have G3 := Lib.hid (G2.end_ hX.out hv hgrow2 hown2 hlies2)
              have HLN := Lib.hid hlen
              refine wpAnyH_done (by kernel_rfl) ?_ _
              clear hown2 hgrow2 hlies2 B1 B2 B3 G1 G2 hlen hv hnews hsz hd5 hs6 hq hW0 hPBl hPBg hle6
              go_wp2_with fail
              go_roundg m2
              case measure => omega
              case rel => exact ⟨⟨k3, l ++ [t], _, _, G3.out, HZ.out.symm, by have := HFU.out.1; have := HLN.out; have := HLJ.out; omega, by have := HFU.out.2; have := HLN.out; have := HLJ.out; rw [List.length_append, List.length_singleton]; omega⟩, by have := HGN.out; omega⟩
            · skip
              refine wp_call (vs := #[.pointer (some ⟨c.X, 0, none⟩)]) rfl rfl (enters_of Tryd.func51 (by kernel_rfl) rfl) (by simp [Act.eval]) (HC4.out _ (G.run.rd HR.out)) ?_
              rintro e w4 ⟨hf4, hm⟩
              rcases Z4 with ⟨t, r⟩ | ⟨q, rl⟩
              rotate_left
              · obtain rfl := hm
                have AZ := Lib.hid (G.run.fr.trans hf4)
                clear hf4
                go_wp2_with fail
                refine ⟨rfl, ?_⟩
                show RdPost c w Y _ _ _
                rw [HS.out, HZ.out]
                exact ⟨AZ.out, rfl⟩
              obtain ⟨v1, k3, rfl, ⟨a5, c5, a6, c6, rfl, hd5, hs6⟩, hR1, rfl⟩ := hm
              have G1 := G.call hf4 hR1 hX.out
              have hlen := HN4.out _ _ rfl
              have hW0 := G.run.fr.size
              have hPBl := G.own.lt
              have hPBg := G.ge
              have hq : ∀ b, W0.heap.size ≤ b ∧ b < w4.heap.size → RB w PB vT b ∧ b < w4.heap.size + 1 := fun b hb => ⟨⟨by omega, by omega, fun e => by have := (G.rT.lt b e).2; omega⟩, by omega⟩
              refine ⟨trivial, ?_⟩
              change wpAnyH _ _ _ _ _ _ _ { tmps := #[.pointer (some ⟨c.X, 0, none⟩), undef, .pointer (some ⟨w.heap.size, 0, none⟩), .pointer (some ⟨PB, 0, none⟩), .nilFunc, .pointer (some ⟨c.X, 0, none⟩), .pointer (some ⟨c.X, 0, none⟩), .pointer (some ⟨c.X, 3, none⟩), .map (some c.D), .pointer (some ⟨c.X, 0, none⟩), .agg #[.int .u8 (c.nx k).kind, .string (c.nx k).text, .int .i64 (c.nx k).wd, .int .i64 (c.nx k).pos], .string (c.nx k).text, U0, .nilFunc, .bool false, u15, u16, u17, u18, u19, u20, u21, u22, u23, u24, u25, u26, u27, u28, u29, u30, u31, .pointer (some ⟨c.X, 0, none⟩), .bool true, .pointer (some ⟨PB, 2, none⟩), u35, .pointer (some ⟨c.X, 0, none⟩), .agg #[.string t.name, .slice a5 t.locals.length c5, .slice a6 t.body.length c6, .int .i64 t.pos], u38, u39, u40, undef], defers := [] } _
              refine dr_two 1 4 rfl rfl rfl rfl (by kernel_rfl) ?_ ?_
              · refine wp_ld_ths rfl rfl (G1.cell (i := 2) (v := vT) rfl) ⟨trivial, ?_⟩
                change wpAnyH _ _ _ _ _ _ _ { tmps := #[.pointer (some ⟨c.X, 0, none⟩), undef, .pointer (some ⟨w.heap.size, 0, none⟩), .pointer (some ⟨PB, 0, none⟩), .nilFunc, .pointer (some ⟨c.X, 0, none⟩), .pointer (some ⟨c.X, 0, none⟩), .pointer (some ⟨c.X, 3, none⟩), .map (some c.D), .pointer (some ⟨c.X, 0, none⟩), .agg #[.int .u8 (c.nx k).kind, .string (c.nx k).text, .int .i64 (c.nx k).wd, .int .i64 (c.nx k).pos], .string (c.nx k).text, U0, .nilFunc, .bool false, u15, u16, u17, u18, u19, u20, u21, u22, u23, u24, u25, u26, u27, u28, u29, u30, u31, .pointer (some ⟨c.X, 0, none⟩), .bool true, .pointer (some ⟨PB, 2, none⟩), vT, .pointer (some ⟨c.X, 0, none⟩), .agg #[.string t.name, .slice a5 t.locals.length c5, .slice a6 t.body.length c6, .int .i64 t.pos], u38, u39, u40, undef], defers := [] } _
                refine dr_one 4 rfl rfl (by kernel_rfl) ?_
                refine wp_val (run_bs_th rfl rfl) ⟨trivial, ?_⟩
                change wpAnyH _ _ _ _ _ _ _ { tmps := #[.pointer (some ⟨c.X, 0, none⟩), undef, .pointer (some ⟨w.heap.size, 0, none⟩), .pointer (some ⟨PB, 0, none⟩), .nilFunc, .pointer (some ⟨c.X, 0, none⟩), .pointer (some ⟨c.X, 0, none⟩), .pointer (some ⟨c.X, 3, none⟩), .map (some c.D), .pointer (some ⟨c.X, 0, none⟩), .agg #[.int .u8 (c.nx k).kind, .string (c.nx k).text, .int .i64 (c.nx k).wd, .int .i64 (c.nx k).pos], .string (c.nx k).text, U0, .nilFunc, .bool false, u15, u16, u17, u18, u19, u20, u21, u22, u23, u24, u25, u26, u27, u28, u29, u30, u31, .pointer (some ⟨c.X, 0, none⟩), .bool true, .pointer (some ⟨PB, 2, none⟩), vT, .pointer (some ⟨c.X, 0, none⟩), .agg #[.string t.name, .slice a5 t.locals.length c5, .slice a6 t.body.length c6, .int .i64 t.pos], .slice (some ⟨w4.heap.size, 0, none⟩) 1 1, u39, u40, undef], defers := [] } _
                have G2 := G1.alloc (.cells #[.string t.name, .slice a5 t.locals.length c5, .slice a6 t.body.length c6, .int .i64 t.pos] 56) hX.out HR.out
                have hv : thV (fun b => RB w PB vT b ∧ b < (w4.alloc (.cells #[.string t.name, .slice a5 t.locals.length c5, .slice a6 t.body.length c6, .int .i64 t.pos] 56)).heap.size) (w4.alloc (.cells #[.string t.name, .slice a5 t.locals.length c5, .slice a6 t.body.length c6, .int .i64 t.pos] 56)) t #[.string t.name, .slice a5 t.locals.length c5, .slice a6 t.body.length c6, .int .i64 t.pos].toList := by
                  rw [World.size_alloc]
                  exact ⟨a5, c5, a6, c6, rfl, dcsAt_stays (stays_alloc _ w4 _) hq (dcsAt_in hd5), stsAt_stays (stays_alloc _ w4 _) hq (stsAt_in hs6)⟩
                have hnews := World.news_of_block (Own.new w4 56 #[.string t.name, .slice a5 t.locals.length c5, .slice a6 t.body.length c6, .int .i64 t.pos])
                have hsz := World.size_alloc w4 (.cells #[.string t.name, .slice a5 t.locals.length c5, .slice a6 t.body.length c6, .int .i64 t.pos] 56)
                have hle6 := HFU.out.2

                refine dr_one 5 rfl rfl (by kernel_rfl) ?_
                obtain ⟨i0, hi, hi0, hi1, hi2⟩ := info_parts infoTh
                refine wp_append_lies (w4.alloc (.cells #[.string t.name, .slice a5 t.locals.length c5, .slice a6 t.body.length c6, .int .i64 t.pos] 56)) _ _ 49 rfl w.heap.size 56 i0 _ 4 72 Tryd.underlying49 hi hi0 hi1 hi2 rfl (by decide) vT l.length xs rfl G2.rT ⟨w4.heap.size, 0, none⟩ 1 1 #[.string t.name, .slice a5 t.locals.length c5, .slice a6 t.body.length c6, .int .i64 t.pos].toList rfl rfl hnews (by simp [Value.oneCell']) (by decide) (by simp only [maxLen]; omega) (by omega) (by have := G2.run.fr.size; omega) _ rfl ?_
                intro g2 cap2 w6 hown2 hgrow2 hlies2 hlt2
                refine ⟨trivial, ?_⟩
                change wpAnyH _ _ _ _ _ _ _ { tmps := #[.pointer (some ⟨c.X, 0, none⟩), undef, .pointer (some ⟨w.heap.size, 0, none⟩), .pointer (some ⟨PB, 0, none⟩), .nilFunc, .pointer (some ⟨c.X, 0, none⟩), .pointer (some ⟨c.X, 0, none⟩), .pointer (some ⟨c.X, 3, none⟩), .map (some c.D), .pointer (some ⟨c.X, 0, none⟩), .agg #[.int .u8 (c.nx k).kind, .string (c.nx k).text, .int .i64 (c.nx k).wd, .int .i64 (c.nx k).pos], .string (c.nx k).text, U0, .nilFunc, .bool false, u15, u16, u17, u18, u19, u20, u21, u22, u23, u24, u25, u26, u27, u28, u29, u30, u31, .pointer (some ⟨c.X, 0, none⟩), .bool true, .pointer (some ⟨PB, 2, none⟩), vT, .pointer (some ⟨c.X, 0, none⟩), .agg #[.string t.name, .slice a5 t.locals.length c5, .slice a6 t.body.length c6, .int .i64 t.pos], .slice (some ⟨w4.heap.size, 0, none⟩) 1 1, .slice (some ⟨g2, 0, none⟩) (l.length + 1) cap2, u40, undef], defers := [] } _
                refine dr_take 6 (.pointer (some ⟨PB, 2, none⟩)) rfl rfl (by kernel_rfl) (by kernel_rfl) (by kernel_rfl) (fun _ _ _ h => h) (fun _ _ => by unfold execOp; go_simp) trivial ?_
                change wpAnyH _ _ _ _ _ _ _ { tmps := #[.pointer (some ⟨c.X, 0, none⟩), undef, .pointer (some ⟨w.heap.size, 0, none⟩), .pointer (some ⟨PB, 0, none⟩), .nilFunc, .pointer (some ⟨c.X, 0, none⟩), .pointer (some ⟨c.X, 0, none⟩), .pointer (some ⟨c.X, 3, none⟩), .map (some c.D), .pointer (some ⟨c.X, 0, none⟩), .agg #[.int .u8 (c.nx k).kind, .string (c.nx k).text, .int .i64 (c.nx k).wd, .int .i64 (c.nx k).pos], .string (c.nx k).text, U0, .nilFunc, .bool false, u15, u16, u17, u18, u19, u20, u21, u22, u23, u24, u25, u26, u27, u28, u29, u30, u31, .pointer (some ⟨c.X, 0, none⟩), .bool true, .pointer (some ⟨PB, 2, none⟩), vT, .pointer (some ⟨c.X, 0, none⟩), .agg #[.string t.name, .slice a5 t.locals.length c5, .slice a6 t.body.length c6, .int .i64 t.pos], .slice (some ⟨w4.heap.size, 0, none⟩) 1 1, .slice (some ⟨g2, 0, none⟩) (l.length + 1) cap2, .pointer (some ⟨PB, 2, none⟩), undef], defers := [] } _
                refine dr_one 7 rfl rfl (by kernel_rfl) ?_
                obtain ⟨B1, B2, B3⟩ := G2.grown hgrow2 hX.out
                refine wp_st_ths rfl rfl rfl (u := vT) (by rw [cell_of_row w6 _ 2 _ _ _ B3]; rfl) (own_frozen B3 2) ⟨trivial, ?_⟩
                rw [setCell_row B3 2 _]
                have G3 := Lib.hid (G2.end_ hX.out hv hgrow2 hown2 hlies2)
                have HLN := Lib.hid hlen
                refine wpAnyH_done (by kernel_rfl) ?_ _
                clear hown2 hgrow2 hlies2 B1 B2 B3 G1 G2 hlen hv hnews hsz hd5 hs6 hq hW0 hPBl hPBg hle6
                go_wp2_with fail
                go_roundg m2
                case measure => omega
                case rel => exact ⟨⟨k3, l ++ [t], _, _, G3.out, HZ.out.symm, by have := HFU.out.1; have := HLN.out; have := HLJ.out; omega, by have := HFU.out.2; have := HLN.out; have := HLJ.out; rw [List.length_append, List.length_singleton]; omega⟩, by have := HGN.out; omega⟩
              · skip
                refine wp_val (run_bs_th rfl rfl) ⟨trivial, ?_⟩
                change wpAnyH _ _ _ _ _ _ _ { tmps := #[.pointer (some ⟨c.X, 0, none⟩), undef, .pointer (some ⟨w.heap.size, 0, none⟩), .pointer (some ⟨PB, 0, none⟩), .nilFunc, .pointer (some ⟨c.X, 0, none⟩), .pointer (some ⟨c.X, 0, none⟩), .pointer (some ⟨c.X, 3, none⟩), .map (some c.D), .pointer (some ⟨c.X, 0, none⟩), .agg #[.int .u8 (c.nx k).kind, .string (c.nx k).text, .int .i64 (c.nx k).wd, .int .i64 (c.nx k).pos], .string (c.nx k).text, U0, .nilFunc, .bool false, u15, u16, u17, u18, u19, u20, u21, u22, u23, u24, u25, u26, u27, u28, u29, u30, u31, .pointer (some ⟨c.X, 0, none⟩), .bool true, .pointer (some ⟨PB, 2, none⟩), u35, .pointer (some ⟨c.X, 0, none⟩), .agg #[.string t.name, .slice a5 t.locals.length c5, .slice a6 t.body.length c6, .int .i64 t.pos], .slice (some ⟨w4.heap.size, 0, none⟩) 1 1, u39, u40, undef], defers := [] } _
                have G2 := G1.alloc (.cells #[.string t.name, .slice a5 t.locals.length c5, .slice a6 t.body.length c6, .int .i64 t.pos] 56) hX.out HR.out
                have hv : thV (fun b => RB w PB vT b ∧ b < (w4.alloc (.cells #[.string t.name, .slice a5 t.locals.length c5, .slice a6 t.body.length c6, .int .i64 t.pos] 56)).heap.size) (w4.alloc (.cells #[.string t.name, .slice a5 t.locals.length c5, .slice a6 t.body.length c6, .int .i64 t.pos] 56)) t #[.string t.name, .slice a5 t.locals.length c5, .slice a6 t.body.length c6, .int .i64 t.pos].toList := by
                  rw [World.size_alloc]
                  exact ⟨a5, c5, a6, c6, rfl, dcsAt_stays (stays_alloc _ w4 _) hq (dcsAt_in hd5), stsAt_stays (stays_alloc _ w4 _) hq (stsAt_in hs6)⟩
                have hnews := World.news_of_block (Own.new w4 56 #[.string t.name, .slice a5 t.locals.length c5, .slice a6 t.body.length c6, .int .i64 t.pos])
                have hsz := World.size_alloc w4 (.cells #[.string t.name, .slice a5 t.locals.length c5, .slice a6 t.body.length c6, .int .i64 t.pos] 56)
                have hle6 := HFU.out.2

                refine dr_one 1 rfl rfl (by kernel_rfl) ?_
                refine wp_ld_ths rfl rfl (G2.cell (i := 2) (v := vT) rfl) ⟨trivial, ?_⟩
                change wpAnyH _ _ _ _ _ _ _ { tmps := #[.pointer (some ⟨c.X, 0, none⟩), undef, .pointer (some ⟨w.heap.size, 0, none⟩), .pointer (some ⟨PB, 0, none⟩), .nilFunc, .pointer (some ⟨c.X, 0, none⟩), .pointer (some ⟨c.X, 0, none⟩), .pointer (some ⟨c.X, 3, none⟩), .map (some c.D), .pointer (some ⟨c.X, 0, none⟩), .agg #[.int .u8 (c.nx k).kind, .string (c.nx k).text, .int .i64 (c.nx k).wd, .int .i64 (c.nx k).pos], .string (c.nx k).text, U0, .nilFunc, .bool false, u15, u16, u17, u18, u19, u20, u21, u22, u23, u24, u25, u26, u27, u28, u29, u30, u31, .pointer (some ⟨c.X, 0, none⟩), .bool true, .pointer (some ⟨PB, 2, none⟩), vT, .pointer (some ⟨c.X, 0, none⟩), .agg #[.string t.name, .slice a5 t.locals.length c5, .slice a6 t.body.length c6, .int .i64 t.pos], .slice (some ⟨w4.heap.size, 0, none⟩) 1 1, u39, u40, undef], defers := [] } _
                refine dr_one 5 rfl rfl (by kernel_rfl) ?_
                obtain ⟨i0, hi, hi0, hi1, hi2⟩ := info_parts infoTh
                refine wp_append_lies (w4.alloc (.cells #[.string t.name, .slice a5 t.locals.length c5, .slice a6 t.body.length c6, .int .i64 t.pos] 56)) _ _ 49 rfl w.heap.size 56 i0 _ 4 72 Tryd.underlying49 hi hi0 hi1 hi2 rfl (by decide) vT l.length xs rfl G2.rT ⟨w4.heap.size, 0, none⟩ 1 1 #[.string t.name, .slice a5 t.locals.length c5, .slice a6 t.body.length c6, .int .i64 t.pos].toList rfl rfl hnews (by simp [Value.oneCell']) (by decide) (by simp only [maxLen]; omega) (by omega) (by have := G2.run.fr.size; omega) _ rfl ?_
                intro g2 cap2 w6 hown2 hgrow2 hlies2 hlt2
                refine ⟨trivial, ?_⟩
                change wpAnyH _ _ _ _ _ _ _ { tmps := #[.pointer (some ⟨c.X, 0, none⟩), undef, .pointer (some ⟨w.heap.size, 0, none⟩), .pointer (some ⟨PB, 0, none⟩), .nilFunc, .pointer (some ⟨c.X, 0, none⟩), .pointer (some ⟨c.X, 0, none⟩), .pointer (some ⟨c.X, 3, none⟩), .map (some c.D), .pointer (some ⟨c.X, 0, none⟩), .agg #[.int .u8 (c.nx k).kind, .string (c.nx k).text, .int .i64 (c.nx k).wd, .int .i64 (c.nx k).pos], .string (c.nx k).text, U0, .nilFunc, .bool false, u15, u16, u17, u18, u19, u20, u21, u22, u23, u24, u25, u26, u27, u28, u29, u30, u31, .pointer (some ⟨c.X, 0, none⟩), .bool true, .pointer (some ⟨PB, 2, none⟩), vT, .pointer (some ⟨c.X, 0, none⟩), .agg #[.string t.name, .slice a5 t.locals.length c5, .slice a6 t.body.length c6, .int .i64 t.pos], .slice (some ⟨w4.heap.size, 0, none⟩) 1 1, .slice (some ⟨g2, 0, none⟩) (l.length + 1) cap2, u40, undef], defers := [] } _
                refine dr_take 6 (.pointer (some ⟨PB, 2, none⟩)) rfl rfl (by kernel_rfl) (by kernel_rfl) (by kernel_rfl) (fun _ _ _ h => h) (fun _ _ => by unfold execOp; go_simp) trivial ?_
                change wpAnyH _ _ _ _ _ _ _ { tmps := #[.pointer (some ⟨c.X, 0, none⟩), undef, .pointer (some ⟨w.heap.size, 0, none⟩), .pointer (some ⟨PB, 0, none⟩), .nilFunc, .pointer (some ⟨c.X, 0, none⟩), .pointer (some ⟨c.X, 0, none⟩), .pointer (some ⟨c.X, 3, none⟩), .map (some c.D), .pointer (some ⟨c.X, 0, none⟩), .agg #[.int .u8 (c.nx k).kind, .string (c.nx k).text, .int .i64 (c.nx k).wd, .int .i64 (c.nx k).pos], .string (c.nx k).text, U0, .nilFunc, .bool false, u15, u16, u17, u18, u19, u20, u21, u22, u23, u24, u25, u26, u27, u28, u29, u30, u31, .pointer (some ⟨c.X, 0, none⟩), .bool true, .pointer (some ⟨PB, 2, none⟩), vT, .pointer (some ⟨c.X, 0, none⟩), .agg #[.string t.name, .slice a5 t.locals.length c5, .slice a6 t.body.length c6, .int .i64 t.pos], .slice (some ⟨w4.heap.size, 0, none⟩) 1 1, .slice (some ⟨g2, 0, none⟩) (l.length + 1) cap2, .pointer (some ⟨PB, 2, none⟩), undef], defers := [] } _
                refine dr_one 7 rfl rfl (by kernel_rfl) ?_
                obtain ⟨B1, B2, B3⟩ := G2.grown hgrow2 hX.out
                refine wp_st_ths rfl rfl rfl (u := vT) (by rw [cell_of_row w6 _ 2 _ _ _ B3]; rfl) (own_frozen B3 2) ⟨trivial, ?_⟩
                rw [setCell_row B3 2 _]
                have G3 := Lib.hid (G2.end_ hX.out hv hgrow2 hown2 hlies2)
                have HLN := Lib.hid hlen
                refine wpAnyH_done (by kernel_rfl) ?_ _
                clear hown2 hgrow2 hlies2 B1 B2 B3 G1 G2 hlen hv hnews hsz hd5 hs6 hq hW0 hPBl hPBg hle6
                go_wp2_with fail
                go_roundg m2
                case measure => omega
                case rel => exact ⟨⟨k3, l ++ [t], _, _, G3.out, HZ.out.symm, by have := HFU.out.1; have := HLN.out; have := HLJ.out; omega, by have := HFU.out.2; have := HLN.out; have := HLJ.out; rw [List.length_append, List.length_singleton]; omega⟩, by have := HGN.out; omega⟩
end Go.Proofs.YtgaibdipecngkaaDoor

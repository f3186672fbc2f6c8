/- The proof, part 4: texts that belong together, in one. -/
import Derived.Test.YtjpmdafaaonpoaaDoorMC
namespace Go.Proofs.YtjpmdafaaonpoaaDoor
open Go.RowKit
set_option linter.unusedVariables false
theorem zeroFnD (w : World) : (zeroValue 94).run Tryd.prog w = .ok .nilFunc w := by kernel_rfl
theorem decls_keys (c : Par) : ∀ e ∈ c.declE, ∃ t, e.key = .string t := by
  intro e he
  simp [Par.declE] at he
  rcases he with rfl | rfl <;> exact ⟨_, rfl⟩
theorem run_decls {c : Par} {W : World} (S : RdS c W) (s : ByteArray) : (Instr.lookup 95 (.map (some c.D)) (.string s) false).run Tryd.prog W = .ok (lookE s.data.toList c.declE) W :=
  run_look Tryd.underlying95 Tryd.underlying9 (zeroFnD W) S.dm (decls_keys c) s
theorem fn_neqD : ∀ (f : Fn) (u v : Array Value) (w : World), (binOp .neq 94 (.func f u v) .nilFunc).run Tryd.prog w = .ok (.bool true) w := fun f u v w => by kernel_rfl
theorem nil_neqD : ∀ (w : World), (binOp .neq 94 .nilFunc .nilFunc).run Tryd.prog w = .ok (.bool false) w := fun w => by kernel_rfl
section
variable {o : Oper} {a : Act} {w : World} {K : Act → World → Prop} {Q : Exit → Act → World → Prop}
set_option maxHeartbeats 1000000 in
theorem wp_ld_decls {x : Operand} (ho : o.op = .load 95 x) {p : Addr} (hx : a.eval x = .pointer (some p)) {v : Value} (hv : w.cell? p = some v) (h : K (a.put o.dst v) w) : o.wp Tryd.prog a w K Q := by
  have hrun : (execOp a.eval o).run Tryd.prog w = .ok (.value v) w := by
    unfold execOp
    simp only [ho, hx]
    go_simp
  unfold Oper.wp
  rw [hrun]
  exact h
set_option maxHeartbeats 1000000 in
theorem wp_lk_decls {x y : Operand} (ho : o.op = .lookup 95 x y false) {p : Nat} (hx : a.eval x = .map (some p)) {s : ByteArray} (hy : a.eval y = .string s) {v : Value} (hv : (Instr.lookup 95 (.map (some p)) (.string s) false).run Tryd.prog w = .ok v w) (h : K (a.put o.dst v) w) : o.wp Tryd.prog a w K Q := by
  have hrun : (execOp a.eval o).run Tryd.prog w = .ok (.value v) w := by
    unfold execOp
    simp only [ho, hx, hy]
    go_simp
  unfold Oper.wp
  rw [hrun]
  exact h
end
theorem run_ld_decls {o : Oper} {a : Act} {w : World} {x : Operand} (ho : o.op = .load 95 x) {p : Addr} (hx : a.eval x = .pointer (some p)) {v : Value} (hv : w.cell? p = some v) : (execOp a.eval o).run Tryd.prog w = .ok (.value v) w := by
  unfold execOp
  simp only [ho, hx]
  go_simp
theorem run_lk_decls {o : Oper} {a : Act} {w : World} {x y : Operand} (ho : o.op = .lookup 95 x y false) {p : Nat} (hx : a.eval x = .map (some p)) {s : ByteArray} (hy : a.eval y = .string s) {v : Value} (hv : (Instr.lookup 95 (.map (some p)) (.string s) false).run Tryd.prog w = .ok v w) : (execOp a.eval o).run Tryd.prog w = .ok (.value v) w := by
  unfold execOp
  simp only [ho, hx, hy]
  go_simp
theorem run_bs_th {o : Oper} {a : Act} {w : World} {x : Operand} (ho : o.op = .buildSlice 38 1 #[(0, x)]) {nm : ByteArray} {a1 a2 : Option Addr} {n1 c1 n2 c2 : Nat} {p : Int} (hx : a.eval x = .agg #[.string nm, .slice a1 n1 c1, .slice a2 n2 c2, .int .i64 p]) : (execOp a.eval o).run Tryd.prog w = .ok (.value (.slice (some ⟨w.heap.size, 0, none⟩) 1 1)) (w.alloc (.cells #[.string nm, .slice a1 n1 c1, .slice a2 n2 c2, .int .i64 p] 69)) := by
  unfold execOp
  simp [ho, hx]
  go_simp
/-- While declarations are read. -/
def PrI (c : Par) (w : World) (PB : Nat) (Y : PR Pg) (m : Nat) (u : Value) (W : World) : Prop :=
  ∃ (j : Nat) (p : Pg) (vS vL : Value), PgI c w PB vS vL p W j ∧ u = lookE (c.nx j).text.data.toList c.declE ∧ declsP c.L m p (c.at j) = Y ∧ (c.at j).length < m ∧ p.shared.length + p.locks.length + (c.at j).length ≤ 65536
/-- While threads are read. -/
def ThrI (c : Par) (w : World) (PB : Nat) (a1 : Option Addr) (c1 : Nat) (a2 : Option Addr) (c2 : Nat) (p : Pg) (Y : PR (List Th)) (m : Nat) (W : World) : Prop :=
  ∃ (j : Nat) (l : List Th) (vT : Value) (xs : List Value), PgT c w PB a1 c1 a2 c2 vT p l xs W j ∧ threadsP fnd c.L m l (c.at j) = Y ∧ 3 * (c.at j).length + 2 ≤ m ∧ l.length + (c.at j).length ≤ 65536
theorem look_shared {c : Par} {k : Nat} (h : isT [115, 104, 97, 114, 101, 100] (c.at k) = true) : lookE (c.nx k).text.data.toList c.declE = .func (.func 52) #[.pointer (some ⟨c.X, 0, none⟩)] #[] := by
  rw [Par.isT_nx c k (by decide)] at h
  have h : (c.nx k).text.data.toList = [115, 104, 97, 114, 101, 100] := by simpa [Tk.tx] using h
  rw [h]; rfl
theorem look_locks {c : Par} {k : Nat} (h : isT [108, 111, 99, 107] (c.at k) = true) : lookE (c.nx k).text.data.toList c.declE = .func (.func 53) #[.pointer (some ⟨c.X, 0, none⟩)] #[] := by
  rw [Par.isT_nx c k (by decide)] at h
  have h : (c.nx k).text.data.toList = [108, 111, 99, 107] := by simpa [Tk.tx] using h
  rw [h]; rfl
theorem look_none {c : Par} {k : Nat} (h1 : isT [115, 104, 97, 114, 101, 100] (c.at k) = false) (h2 : isT [108, 111, 99, 107] (c.at k) = false) : lookE (c.nx k).text.data.toList c.declE = .nilFunc := by
  rw [Par.isT_nx c k (by decide)] at h1 h2
  have h1 : ¬ (c.nx k).text.data.toList = [115, 104, 97, 114, 101, 100] := by simpa [Tk.tx] using h1
  have h2 : ¬ (c.nx k).text.data.toList = [108, 111, 99, 107] := by simpa [Tk.tx] using h2
  simp only [lookE, Par.declE]
  rw [if_neg h1, if_neg h2]
theorem run_fd_tok {o : Oper} {a : Act} {w : World} {x : Operand} (ho : o.op = .field 49 x 1) {u v d e : Value} (hx : a.eval x = .agg #[u, v, d, e]) : (execOp a.eval o).run Tryd.prog w = .ok (.value v) w := by
  unfold execOp
  simp only [ho, hx]
  have F := tok_f1 u v d e w
  go_simp
/-- What a line of declarations leaves. -/
def shPost (c : Par) (w : World) (PB : Nat) (vL : Value) (p : Pg) (Z : PR (List Dc)) (e : Ending) (w' : World) : Prop :=
  match Z with
  | .ok d r => ∃ v' k', e = .returned (.tuple #[]) ∧ PgI c w PB v' vL { p with shared := p.shared ++ d } w' k' ∧ r = c.at k'
  | .bad q rl => e = .panicked (flt q rl) ∧ Fr c w w'
def lkPost (c : Par) (w : World) (PB : Nat) (vS : Value) (p : Pg) (Z : PR (List Dc)) (e : Ending) (w' : World) : Prop :=
  match Z with
  | .ok d r => ∃ v' k', e = .returned (.tuple #[]) ∧ PgI c w PB vS v' { p with locks := p.locks ++ d } w' k' ∧ r = c.at k'
  | .bad q rl => e = .panicked (flt q rl) ∧ Fr c w w'
/-- An operation that is run. -/
theorem wp_val {P : Program} {o : Oper} {a : Act} {w w' : World} {K : Act → World → Prop} {Q : Exit → Act → World → Prop} {v : Value} (hrun : (execOp a.eval o).run P w = .ok (.value v) w') (h : K (a.put o.dst v) w') : o.wp P a w K Q := by
  unfold Oper.wp
  rw [hrun]
  exact h
theorem decls_short {L : Int} : ∀ (n : Nat) (p : Pg) (ts : List Tk) (q : Pg) (r : List Tk), declsP L n p ts = .ok q r → r.length ≤ ts.length
  | 0, p, ts, q, r, h => by simp [declsP] at h
  | n + 1, p, ts, q, r, h => by
    simp only [declsP] at h
    split at h
    · rename_i hi
      have := isT_tail hi
      obtain ⟨a, b, h1, h2⟩ := PR.then_eq_ok h
      have := list_short (L := L) (fun _ _ _ h => firstP_short h) n _ _ _ _ h1
      have := decls_short n _ _ _ _ h2
      omega
    · split at h
      · rename_i hi
        have := isT_tail hi
        obtain ⟨a, b, h1, h2⟩ := PR.then_eq_ok h
        have := list_short (L := L) (fun _ _ _ h => nameP_short h) n _ _ _ _ h1
        have := decls_short n _ _ _ _ h2
        omega
      · cases h; exact Nat.le_refl _
set_option maxRecDepth 100000 in
set_option maxHeartbeats 8000000 in
theorem p_program {c : Par} {w : World} {k n : Nat} (R : Rd c w k) (hn : 3 * (c.at k).length + 2 ≤ n) :
    Calls Tryd.prog 27 #[c.ptr] w (RdPost c w (progP fnd c.L n (c.at k)) (fun p v w' => pgR w.heap.size p v w')) := by
  obtain ⟨Y, hY⟩ : ∃ Y, Y = progP fnd c.L n (c.at k) := ⟨_, rfl⟩
  obtain ⟨Y1, hY1⟩ : ∃ Y1, Y1 = declsP c.L n ⟨[], [], []⟩ (c.at k) := ⟨_, rfl⟩
  have HS : Hid (Y = Y1.then fun p r => (threadsP fnd c.L n [] r).then fun l r => .ok { p with threads := l } r) := by rw [Hid, hY, hY1]; rfl
  have hl0 : (c.at k).length ≤ 65536 := by rw [Par.at_len]; have := R.s.small.1; omega
  rw [← hY]
  have HDL : Hid (∀ p r, Y1 = .ok p r → r.length ≤ (c.at k).length) := fun p r h => decls_short _ _ _ _ _ (hY1.symm.trans h)
  have HN : Hid (∀ W j, Rd c W j → Calls Tryd.prog 44 #[c.ptr] W fun e w' => e = .returned (tkV (c.nx j)) ∧ Below W.heap.size W w') := fun W j RW => p_next RW
  have HP : Hid (∀ W j (s : ByteArray), Rd c W j → s.data.toList ≠ [] → Calls Tryd.prog 45 #[c.ptr, .string s] W fun e w' => e = .returned (.bool (isT s.data.toList (c.at j))) ∧ Fr c W w' ∧ Rd c w' (if isT s.data.toList (c.at j) = true then j + 1 else j)) := fun W j s RW hs => p_pass RW s hs
  have HT : Hid (∀ W j m, Rd c W j → 3 * (c.at j).length + 2 ≤ m → Calls Tryd.prog 46 #[c.ptr] W (RdPost c W (threadP fnd c.L m (c.at j)) (fun t v w' => thR W.heap.size t v w'))) := fun W j m RW hm => p_thread RW hm
  have HJ : Hid (∀ j, j ≤ c.toks.length → j ≤ 65536) := fun j h => by have := R.s.small.1; omega
  have G0 := At.start R
  have HR := Lib.hid R
  have hX := Lib.hid R.lt
  have HM := Lib.hid (And.intro hn hl0)
  have F1 := fn_neqD
  have F2 := nil_neqD
  have G : Hid (PgI c w (w.heap.size + 1) (.slice none 0 0) (.slice none 0 0) ⟨[], [], []⟩ ((w.alloc (.cells zPg 40)).alloc (.cells zPg 40)) k) := by
    have o1 := Own.new w 40 zPg
    have o2 := Own.new (w.alloc (.cells zPg 40)) 40 zPg
    rw [World.size_alloc] at o2
    exact ⟨(G0.alloc _).alloc _, by omega, o1.alloc _, o2, World.ownsRow_nil _ _ _ _, World.ownsRow_nil _ _ _ _, .inl rfl⟩
  clear hY R hn hl0 G0
  unfold Par.ptr zPg tkV at *
  go_enter Tryd.func27, Tryd.ntmps27
  go_wp2_with fail
  obtain ⟨W, hW⟩ : ∃ W, W = ((w.alloc (.cells #[.slice none 0 0, .slice none 0 0, .slice none 0 0] 40)).alloc (.cells #[.slice none 0 0, .slice none 0 0, .slice none 0 0] 40)) := ⟨_, rfl⟩
  rw [← hW] at G ⊢
  clear hW
  obtain ⟨PB, hPB⟩ : ∃ PB, PB = w.heap.size + 1 := ⟨_, rfl⟩
  rw [← hPB] at G ⊢
  clear hPB
  refine wp_region_held (S := fun W => RdS c W ∧ W.cell? ⟨c.X, 3, none⟩ = some (.map (some c.D))) (by kernel_rfl) ?_
  have G := Lib.hid G.out.drew
  change wpAnyH _ _ _ _ _ _ _ _ (W).drew
  obtain ⟨W0, hW0⟩ : ∃ W0, W0 = (W).drew := ⟨_, rfl⟩
  rw [← hW0] at G ⊢
  clear hW0
  have S0 : RdS c W0 ∧ W0.cell? ⟨c.X, 3, none⟩ = some (.map (some c.D)) := ⟨(G.out.run.rd HR.out).s, G.out.run.cells.1.2.2.2.1⟩
  refine dr_take 0 (.pointer (some ⟨c.X, 0, none⟩)) rfl rfl (by kernel_rfl) (by kernel_rfl) (by kernel_rfl) (fun _ _ _ h => h) (fun _ _ => rfl) S0 ?_
  change wpAnyH _ _ _ _ _ _ _ { tmps := #[.pointer (some ⟨c.X, 0, none⟩), undef, .pointer (some ⟨w.heap.size, 0, none⟩), .pointer (some ⟨PB, 0, none⟩), undef, .pointer (some ⟨c.X, 0, none⟩), undef, undef, undef, undef, undef, undef, undef, undef, undef, undef, undef, undef, undef, undef, undef, undef, undef, undef, undef, undef, undef, undef, undef, undef, undef, undef, undef, undef, undef, undef, undef, undef, undef, undef, undef, undef], defers := [] } _
  refine dr_take 1 (.pointer (some ⟨c.X, 0, none⟩)) rfl rfl (by kernel_rfl) (by kernel_rfl) (by kernel_rfl) (fun _ _ _ h => h) (fun _ _ => by unfold execOp; go_simp) S0 ?_
  change wpAnyH _ _ _ _ _ _ _ { tmps := #[.pointer (some ⟨c.X, 0, none⟩), undef, .pointer (some ⟨w.heap.size, 0, none⟩), .pointer (some ⟨PB, 0, none⟩), undef, .pointer (some ⟨c.X, 0, none⟩), .pointer (some ⟨c.X, 0, none⟩), undef, undef, undef, undef, undef, undef, undef, undef, undef, undef, undef, undef, undef, undef, undef, undef, undef, undef, undef, undef, undef, undef, undef, undef, undef, undef, undef, undef, undef, undef, undef, undef, undef, undef, undef], defers := [] } _
  refine dr_take 2 (.pointer (some ⟨c.X, 3, none⟩)) rfl rfl (by kernel_rfl) (by kernel_rfl) (by kernel_rfl) (fun _ _ _ h => h) (fun _ _ => by unfold execOp; go_simp) S0 ?_
  change wpAnyH _ _ _ _ _ _ _ { tmps := #[.pointer (some ⟨c.X, 0, none⟩), undef, .pointer (some ⟨w.heap.size, 0, none⟩), .pointer (some ⟨PB, 0, none⟩), undef, .pointer (some ⟨c.X, 0, none⟩), .pointer (some ⟨c.X, 0, none⟩), .pointer (some ⟨c.X, 3, none⟩), undef, undef, undef, undef, undef, undef, undef, undef, undef, undef, undef, undef, undef, undef, undef, undef, undef, undef, undef, undef, undef, undef, undef, undef, undef, undef, undef, undef, undef, undef, undef, undef, undef, undef], defers := [] } _
  refine dr_take 3 (.map (some c.D)) rfl rfl (by kernel_rfl) (by kernel_rfl) (by kernel_rfl) (fun _ _ _ h => h) (fun W h => run_ld_decls rfl rfl h.2) S0 ?_
  change wpAnyH _ _ _ _ _ _ _ { tmps := #[.pointer (some ⟨c.X, 0, none⟩), undef, .pointer (some ⟨w.heap.size, 0, none⟩), .pointer (some ⟨PB, 0, none⟩), undef, .pointer (some ⟨c.X, 0, none⟩), .pointer (some ⟨c.X, 0, none⟩), .pointer (some ⟨c.X, 3, none⟩), .map (some c.D), undef, undef, undef, undef, undef, undef, undef, undef, undef, undef, undef, undef, undef, undef, undef, undef, undef, undef, undef, undef, undef, undef, undef, undef, undef, undef, undef, undef, undef, undef, undef, undef, undef], defers := [] } _
  refine dr_take 4 (.pointer (some ⟨c.X, 0, none⟩)) rfl rfl (by kernel_rfl) (by kernel_rfl) (by kernel_rfl) (fun _ _ _ h => h) (fun _ _ => rfl) S0 ?_
  change wpAnyH _ _ _ _ _ _ _ { tmps := #[.pointer (some ⟨c.X, 0, none⟩), undef, .pointer (some ⟨w.heap.size, 0, none⟩), .pointer (some ⟨PB, 0, none⟩), undef, .pointer (some ⟨c.X, 0, none⟩), .pointer (some ⟨c.X, 0, none⟩), .pointer (some ⟨c.X, 3, none⟩), .map (some c.D), .pointer (some ⟨c.X, 0, none⟩), undef, undef, undef, undef, undef, undef, undef, undef, undef, undef, undef, undef, undef, undef, undef, undef, undef, undef, undef, undef, undef, undef, undef, undef, undef, undef, undef, undef, undef, undef, undef, undef], defers := [] } _
  refine dr_one 5 rfl rfl (by kernel_rfl) ?_
  refine wp_call (vs := #[.pointer (some ⟨c.X, 0, none⟩)]) rfl rfl (enters_of Tryd.func44 (by kernel_rfl) rfl) (by simp [Act.eval]) (HN.out _ k (G.out.run.rd HR.out)) ?_
  rintro e w1 ⟨rfl, hb⟩
  have G := Lib.hid (G.out.call (.of_below hb) ((G.out.run.rd HR.out).below hb) hX.out)
  have S1 : RdS c w1 ∧ w1.cell? ⟨c.X, 3, none⟩ = some (.map (some c.D)) := ⟨(G.out.run.rd HR.out).s, G.out.run.cells.1.2.2.2.1⟩
  refine ⟨S1, ?_⟩
  change wpAnyH _ _ _ _ _ _ _ { tmps := #[.pointer (some ⟨c.X, 0, none⟩), undef, .pointer (some ⟨w.heap.size, 0, none⟩), .pointer (some ⟨PB, 0, none⟩), undef, .pointer (some ⟨c.X, 0, none⟩), .pointer (some ⟨c.X, 0, none⟩), .pointer (some ⟨c.X, 3, none⟩), .map (some c.D), .pointer (some ⟨c.X, 0, none⟩), .agg #[.int .u8 (c.nx k).kind, .string (c.nx k).text, .int .i64 (c.nx k).wd, .int .i64 (c.nx k).pos], undef, undef, undef, undef, undef, undef, undef, undef, undef, undef, undef, undef, undef, undef, undef, undef, undef, undef, undef, undef, undef, undef, undef, undef, undef, undef, undef, undef, undef, undef, undef], defers := [] } _
  refine dr_take 6 (.string (c.nx k).text) rfl rfl (by kernel_rfl) (by kernel_rfl) (by kernel_rfl) (fun _ _ _ h => h) (fun W _ => run_fd_tok rfl rfl) S1 ?_
  change wpAnyH _ _ _ _ _ _ _ { tmps := #[.pointer (some ⟨c.X, 0, none⟩), undef, .pointer (some ⟨w.heap.size, 0, none⟩), .pointer (some ⟨PB, 0, none⟩), undef, .pointer (some ⟨c.X, 0, none⟩), .pointer (some ⟨c.X, 0, none⟩), .pointer (some ⟨c.X, 3, none⟩), .map (some c.D), .pointer (some ⟨c.X, 0, none⟩), .agg #[.int .u8 (c.nx k).kind, .string (c.nx k).text, .int .i64 (c.nx k).wd, .int .i64 (c.nx k).pos], .string (c.nx k).text, undef, undef, undef, undef, undef, undef, undef, undef, undef, undef, undef, undef, undef, undef, undef, undef, undef, undef, undef, undef, undef, undef, undef, undef, undef, undef, undef, undef, undef, undef], defers := [] } _
  refine dr_take 7 (lookE (c.nx k).text.data.toList c.declE) rfl rfl (by kernel_rfl) (by kernel_rfl) (by kernel_rfl) (fun _ _ _ h => h) (fun W h => run_lk_decls rfl rfl rfl (run_decls h.1 _)) S1 ?_
  change wpAnyH _ _ _ _ _ _ _ { tmps := #[.pointer (some ⟨c.X, 0, none⟩), undef, .pointer (some ⟨w.heap.size, 0, none⟩), .pointer (some ⟨PB, 0, none⟩), undef, .pointer (some ⟨c.X, 0, none⟩), .pointer (some ⟨c.X, 0, none⟩), .pointer (some ⟨c.X, 3, none⟩), .map (some c.D), .pointer (some ⟨c.X, 0, none⟩), .agg #[.int .u8 (c.nx k).kind, .string (c.nx k).text, .int .i64 (c.nx k).wd, .int .i64 (c.nx k).pos], .string (c.nx k).text, lookE (c.nx k).text.data.toList c.declE, undef, undef, undef, undef, undef, undef, undef, undef, undef, undef, undef, undef, undef, undef, undef, undef, undef, undef, undef, undef, undef, undef, undef, undef, undef, undef, undef, undef, undef], defers := [] } _
  refine dr_take 8 (lookE (c.nx k).text.data.toList c.declE) rfl rfl (by kernel_rfl) (by kernel_rfl) (by kernel_rfl) (fun _ _ _ h => h) (fun _ _ => rfl) S1 ?_
  change wpAnyH _ _ _ _ _ _ _ { tmps := #[.pointer (some ⟨c.X, 0, none⟩), undef, .pointer (some ⟨w.heap.size, 0, none⟩), .pointer (some ⟨PB, 0, none⟩), lookE (c.nx k).text.data.toList c.declE, .pointer (some ⟨c.X, 0, none⟩), .pointer (some ⟨c.X, 0, none⟩), .pointer (some ⟨c.X, 3, none⟩), .map (some c.D), .pointer (some ⟨c.X, 0, none⟩), .agg #[.int .u8 (c.nx k).kind, .string (c.nx k).text, .int .i64 (c.nx k).wd, .int .i64 (c.nx k).pos], .string (c.nx k).text, lookE (c.nx k).text.data.toList c.declE, undef, undef, undef, undef, undef, undef, undef, undef, undef, undef, undef, undef, undef, undef, undef, undef, undef, undef, undef, undef, undef, undef, undef, undef, undef, undef, undef, undef, undef], defers := [] } _
  clear S0 S1 hb
  refine wpAnyH_done (by kernel_rfl) ?_ _
  have B0 : Hid (PrI c w PB Y1 n (lookE (c.nx k).text.data.toList c.declE) w1) := ⟨k, _, _, _, G.out, rfl, hY1.symm, by have := HM.out; omega, by have := HM.out; simp; omega⟩
  clear hY1 G
  generalize lookE (c.nx k).text.data.toList c.declE = U0 at B0 ⊢
  go_wp2_with fail
  go_loopg [4] n (fun m u W => PrI c w PB Y1 m u W ∧ m ≤ n)
  case atStart => exact ⟨B0.out, Nat.le_refl _⟩
  case round =>
    obtain ⟨⟨j, p, vS, vL, G1, hu, hY1, hfu, hle⟩, hgn⟩ := hrel
    have G := Lib.hid G1
    have HFU := Lib.hid (And.intro hfu hle)
    have HGN := Lib.hid hgn
    have HY1 := Lib.hid hY1
    have hj6 : j ≤ 65536 := HJ.out j G1.run.le
    clear G1 hY1 hfu hle hgn
    obtain ⟨m, rfl⟩ : ∃ m, gk = m + 1 := ⟨gk - 1, by have := HFU.out.1; omega⟩

    by_cases h1 : isT [115, 104, 97, 114, 101, 100] (c.at j) = true
    · have hjl := Par.isT_lt h1
      rw [look_shared h1] at hu
      subst hu
      obtain ⟨Z, hZ⟩ : ∃ Z, Z = listP c.L (firstP c.L) m [] (c.at (j + 1)) := ⟨_, rfl⟩
      have hz : Y1 = Z.then fun l r => declsP c.L m { p with shared := p.shared ++ l } r := by
        rw [← HY1.out]; conv => lhs; unfold declsP
        rw [if_pos h1, Par.at_tail, hZ]
      have HZ := Lib.hid hz
      have HLJ : Hid ((c.at (j + 1)).length + 1 = (c.at j).length) := by rw [Hid, Par.at_len, Par.at_len]; omega
      have HC : Hid (∀ W', PgI c w PB vS vL p W' (j + 1) → Calls Tryd.prog 52 #[.pointer (some ⟨c.X, 0, none⟩), .pointer (some ⟨PB, 0, none⟩)] W' (shPost c w PB vL p Z)) := fun W' GW => by rw [hZ]; exact p_shared HR.out (by have := HFU.out.1; have := HLJ.out; omega) GW (by have := HFU.out.2; have := HLJ.out; omega)
      have HN4 : Hid (∀ d r, Z = .ok d r → d.length + r.length ≤ (c.at (j + 1)).length) := fun d r h => by have := list_both (fun _ _ _ => firstP_short) (hZ.symm.trans h); simpa using this
      obtain ⟨⟨_, _, c2, _⟩, xf⟩ := G.out.run.cells
      have G3 := Lib.hid (G.out.call (Fr.setX (Fr.refl c _) (.int .i64 ((j : Int) + 1)) 2 G.out.run.pos) ((G.out.run.rd HR.out).step hjl) hX.out)
      clear hZ hz hjl h1
      go_wp2_with fail
      go_at_call 52
      refine (HC.out _ G3.out).mono ?_
      rintro e w3 hm
      rcases Z with ⟨d, r⟩ | ⟨q, rl⟩
      rotate_left
      · obtain ⟨rfl, hf⟩ := hm
        have AZ := Lib.hid hf
        clear hf
        go_wp2_with fail
        refine ⟨rfl, ?_⟩
        show RdPost c w Y _ _ _
        rw [HS.out, HZ.out]
        exact ⟨AZ.out, rfl⟩
      obtain ⟨v', k', rfl, G4, rfl⟩ := hm
      have G := Lib.hid G4
      have HN5 := Lib.hid (HN4.out _ _ rfl)
      clear G4 c2 xf G3
      go_wp2_with fail
      refine wp_region_held (S := fun W => RdS c W ∧ W.cell? ⟨c.X, 3, none⟩ = some (.map (some c.D))) (by kernel_rfl) ?_
      have G := Lib.hid G.out.drew
      change wpAnyH _ _ _ _ _ _ _ _ (w3).drew
      obtain ⟨W0, hW0⟩ : ∃ W0, W0 = (w3).drew := ⟨_, rfl⟩
      rw [← hW0] at G ⊢
      clear hW0
      have S0 : RdS c W0 ∧ W0.cell? ⟨c.X, 3, none⟩ = some (.map (some c.D)) := ⟨(G.out.run.rd HR.out).s, G.out.run.cells.1.2.2.2.1⟩
      refine dr_take 0 (.pointer (some ⟨c.X, 0, none⟩)) rfl rfl (by kernel_rfl) (by kernel_rfl) (by kernel_rfl) (fun _ _ _ h => h) (fun _ _ => rfl) S0 ?_
      change wpAnyH _ _ _ _ _ _ _ { tmps := #[.pointer (some ⟨c.X, 0, none⟩), undef, .pointer (some ⟨w.heap.size, 0, none⟩), .pointer (some ⟨PB, 0, none⟩), .func (.func 52) #[.pointer (some ⟨c.X, 0, none⟩)] #[], .pointer (some ⟨c.X, 0, none⟩), .pointer (some ⟨c.X, 0, none⟩), .pointer (some ⟨c.X, 3, none⟩), .map (some c.D), .pointer (some ⟨c.X, 0, none⟩), .agg #[.int .u8 (c.nx k).kind, .string (c.nx k).text, .int .i64 (c.nx k).wd, .int .i64 (c.nx k).pos], .string (c.nx k).text, U0, .func (.func 52) #[.pointer (some ⟨c.X, 0, none⟩)] #[], .bool true, .pointer (some ⟨c.X, 0, none⟩), u16, u17, u18, u19, u20, u21, u22, .pointer (some ⟨c.X, 0, none⟩), .pointer (some ⟨c.X, 0, none⟩), .pointer (some ⟨c.X, 2, none⟩), .int .i64 (j : Int), .int .i64 ((j : Int) + 1), .pointer (some ⟨c.X, 0, none⟩), .pointer (some ⟨c.X, 2, none⟩), .func (.func 52) #[.pointer (some ⟨c.X, 0, none⟩)] #[], .tuple #[], undef, undef, undef, undef, undef, undef, undef, undef, undef, undef], defers := [] } _
      refine dr_take 1 (.pointer (some ⟨c.X, 0, none⟩)) rfl rfl (by kernel_rfl) (by kernel_rfl) (by kernel_rfl) (fun _ _ _ h => h) (fun _ _ => by unfold execOp; go_simp) S0 ?_
      change wpAnyH _ _ _ _ _ _ _ { tmps := #[.pointer (some ⟨c.X, 0, none⟩), undef, .pointer (some ⟨w.heap.size, 0, none⟩), .pointer (some ⟨PB, 0, none⟩), .func (.func 52) #[.pointer (some ⟨c.X, 0, none⟩)] #[], .pointer (some ⟨c.X, 0, none⟩), .pointer (some ⟨c.X, 0, none⟩), .pointer (some ⟨c.X, 3, none⟩), .map (some c.D), .pointer (some ⟨c.X, 0, none⟩), .agg #[.int .u8 (c.nx k).kind, .string (c.nx k).text, .int .i64 (c.nx k).wd, .int .i64 (c.nx k).pos], .string (c.nx k).text, U0, .func (.func 52) #[.pointer (some ⟨c.X, 0, none⟩)] #[], .bool true, .pointer (some ⟨c.X, 0, none⟩), .pointer (some ⟨c.X, 0, none⟩), u17, u18, u19, u20, u21, u22, .pointer (some ⟨c.X, 0, none⟩), .pointer (some ⟨c.X, 0, none⟩), .pointer (some ⟨c.X, 2, none⟩), .int .i64 (j : Int), .int .i64 ((j : Int) + 1), .pointer (some ⟨c.X, 0, none⟩), .pointer (some ⟨c.X, 2, none⟩), .func (.func 52) #[.pointer (some ⟨c.X, 0, none⟩)] #[], .tuple #[], undef, undef, undef, undef, undef, undef, undef, undef, undef, undef], defers := [] } _
      refine dr_take 2 (.pointer (some ⟨c.X, 3, none⟩)) rfl rfl (by kernel_rfl) (by kernel_rfl) (by kernel_rfl) (fun _ _ _ h => h) (fun _ _ => by unfold execOp; go_simp) S0 ?_
      change wpAnyH _ _ _ _ _ _ _ { tmps := #[.pointer (some ⟨c.X, 0, none⟩), undef, .pointer (some ⟨w.heap.size, 0, none⟩), .pointer (some ⟨PB, 0, none⟩), .func (.func 52) #[.pointer (some ⟨c.X, 0, none⟩)] #[], .pointer (some ⟨c.X, 0, none⟩), .pointer (some ⟨c.X, 0, none⟩), .pointer (some ⟨c.X, 3, none⟩), .map (some c.D), .pointer (some ⟨c.X, 0, none⟩), .agg #[.int .u8 (c.nx k).kind, .string (c.nx k).text, .int .i64 (c.nx k).wd, .int .i64 (c.nx k).pos], .string (c.nx k).text, U0, .func (.func 52) #[.pointer (some ⟨c.X, 0, none⟩)] #[], .bool true, .pointer (some ⟨c.X, 0, none⟩), .pointer (some ⟨c.X, 0, none⟩), .pointer (some ⟨c.X, 3, none⟩), u18, u19, u20, u21, u22, .pointer (some ⟨c.X, 0, none⟩), .pointer (some ⟨c.X, 0, none⟩), .pointer (some ⟨c.X, 2, none⟩), .int .i64 (j : Int), .int .i64 ((j : Int) + 1), .pointer (some ⟨c.X, 0, none⟩), .pointer (some ⟨c.X, 2, none⟩), .func (.func 52) #[.pointer (some ⟨c.X, 0, none⟩)] #[], .tuple #[], undef, undef, undef, undef, undef, undef, undef, undef, undef, undef], defers := [] } _
      refine dr_take 3 (.map (some c.D)) rfl rfl (by kernel_rfl) (by kernel_rfl) (by kernel_rfl) (fun _ _ _ h => h) (fun W h => run_ld_decls rfl rfl h.2) S0 ?_
      change wpAnyH _ _ _ _ _ _ _ { tmps := #[.pointer (some ⟨c.X, 0, none⟩), undef, .pointer (some ⟨w.heap.size, 0, none⟩), .pointer (some ⟨PB, 0, none⟩), .func (.func 52) #[.pointer (some ⟨c.X, 0, none⟩)] #[], .pointer (some ⟨c.X, 0, none⟩), .pointer (some ⟨c.X, 0, none⟩), .pointer (some ⟨c.X, 3, none⟩), .map (some c.D), .pointer (some ⟨c.X, 0, none⟩), .agg #[.int .u8 (c.nx k).kind, .string (c.nx k).text, .int .i64 (c.nx k).wd, .int .i64 (c.nx k).pos], .string (c.nx k).text, U0, .func (.func 52) #[.pointer (some ⟨c.X, 0, none⟩)] #[], .bool true, .pointer (some ⟨c.X, 0, none⟩), .pointer (some ⟨c.X, 0, none⟩), .pointer (some ⟨c.X, 3, none⟩), .map (some c.D), u19, u20, u21, u22, .pointer (some ⟨c.X, 0, none⟩), .pointer (some ⟨c.X, 0, none⟩), .pointer (some ⟨c.X, 2, none⟩), .int .i64 (j : Int), .int .i64 ((j : Int) + 1), .pointer (some ⟨c.X, 0, none⟩), .pointer (some ⟨c.X, 2, none⟩), .func (.func 52) #[.pointer (some ⟨c.X, 0, none⟩)] #[], .tuple #[], undef, undef, undef, undef, undef, undef, undef, undef, undef, undef], defers := [] } _
      refine dr_take 4 (.pointer (some ⟨c.X, 0, none⟩)) rfl rfl (by kernel_rfl) (by kernel_rfl) (by kernel_rfl) (fun _ _ _ h => h) (fun _ _ => rfl) S0 ?_
      change wpAnyH _ _ _ _ _ _ _ { tmps := #[.pointer (some ⟨c.X, 0, none⟩), undef, .pointer (some ⟨w.heap.size, 0, none⟩), .pointer (some ⟨PB, 0, none⟩), .func (.func 52) #[.pointer (some ⟨c.X, 0, none⟩)] #[], .pointer (some ⟨c.X, 0, none⟩), .pointer (some ⟨c.X, 0, none⟩), .pointer (some ⟨c.X, 3, none⟩), .map (some c.D), .pointer (some ⟨c.X, 0, none⟩), .agg #[.int .u8 (c.nx k).kind, .string (c.nx k).text, .int .i64 (c.nx k).wd, .int .i64 (c.nx k).pos], .string (c.nx k).text, U0, .func (.func 52) #[.pointer (some ⟨c.X, 0, none⟩)] #[], .bool true, .pointer (some ⟨c.X, 0, none⟩), .pointer (some ⟨c.X, 0, none⟩), .pointer (some ⟨c.X, 3, none⟩), .map (some c.D), .pointer (some ⟨c.X, 0, none⟩), u20, u21, u22, .pointer (some ⟨c.X, 0, none⟩), .pointer (some ⟨c.X, 0, none⟩), .pointer (some ⟨c.X, 2, none⟩), .int .i64 (j : Int), .int .i64 ((j : Int) + 1), .pointer (some ⟨c.X, 0, none⟩), .pointer (some ⟨c.X, 2, none⟩), .func (.func 52) #[.pointer (some ⟨c.X, 0, none⟩)] #[], .tuple #[], undef, undef, undef, undef, undef, undef, undef, undef, undef, undef], defers := [] } _
      refine dr_one 5 rfl rfl (by kernel_rfl) ?_
      refine wp_call (vs := #[.pointer (some ⟨c.X, 0, none⟩)]) rfl rfl (enters_of Tryd.func44 (by kernel_rfl) rfl) (by simp [Act.eval]) (HN.out _ k' (G.out.run.rd HR.out)) ?_
      rintro e w1 ⟨rfl, hb⟩
      have G := Lib.hid (G.out.call (.of_below hb) ((G.out.run.rd HR.out).below hb) hX.out)
      have S1 : RdS c w1 ∧ w1.cell? ⟨c.X, 3, none⟩ = some (.map (some c.D)) := ⟨(G.out.run.rd HR.out).s, G.out.run.cells.1.2.2.2.1⟩
      refine ⟨S1, ?_⟩
      change wpAnyH _ _ _ _ _ _ _ { tmps := #[.pointer (some ⟨c.X, 0, none⟩), undef, .pointer (some ⟨w.heap.size, 0, none⟩), .pointer (some ⟨PB, 0, none⟩), .func (.func 52) #[.pointer (some ⟨c.X, 0, none⟩)] #[], .pointer (some ⟨c.X, 0, none⟩), .pointer (some ⟨c.X, 0, none⟩), .pointer (some ⟨c.X, 3, none⟩), .map (some c.D), .pointer (some ⟨c.X, 0, none⟩), .agg #[.int .u8 (c.nx k).kind, .string (c.nx k).text, .int .i64 (c.nx k).wd, .int .i64 (c.nx k).pos], .string (c.nx k).text, U0, .func (.func 52) #[.pointer (some ⟨c.X, 0, none⟩)] #[], .bool true, .pointer (some ⟨c.X, 0, none⟩), .pointer (some ⟨c.X, 0, none⟩), .pointer (some ⟨c.X, 3, none⟩), .map (some c.D), .pointer (some ⟨c.X, 0, none⟩), .agg #[.int .u8 (c.nx k').kind, .string (c.nx k').text, .int .i64 (c.nx k').wd, .int .i64 (c.nx k').pos], u21, u22, .pointer (some ⟨c.X, 0, none⟩), .pointer (some ⟨c.X, 0, none⟩), .pointer (some ⟨c.X, 2, none⟩), .int .i64 (j : Int), .int .i64 ((j : Int) + 1), .pointer (some ⟨c.X, 0, none⟩), .pointer (some ⟨c.X, 2, none⟩), .func (.func 52) #[.pointer (some ⟨c.X, 0, none⟩)] #[], .tuple #[], undef, undef, undef, undef, undef, undef, undef, undef, undef, undef], defers := [] } _
      refine dr_take 6 (.string (c.nx k').text) rfl rfl (by kernel_rfl) (by kernel_rfl) (by kernel_rfl) (fun _ _ _ h => h) (fun W _ => run_fd_tok rfl rfl) S1 ?_
      change wpAnyH _ _ _ _ _ _ _ { tmps := #[.pointer (some ⟨c.X, 0, none⟩), undef, .pointer (some ⟨w.heap.size, 0, none⟩), .pointer (some ⟨PB, 0, none⟩), .func (.func 52) #[.pointer (some ⟨c.X, 0, none⟩)] #[], .pointer (some ⟨c.X, 0, none⟩), .pointer (some ⟨c.X, 0, none⟩), .pointer (some ⟨c.X, 3, none⟩), .map (some c.D), .pointer (some ⟨c.X, 0, none⟩), .agg #[.int .u8 (c.nx k).kind, .string (c.nx k).text, .int .i64 (c.nx k).wd, .int .i64 (c.nx k).pos], .string (c.nx k).text, U0, .func (.func 52) #[.pointer (some ⟨c.X, 0, none⟩)] #[], .bool true, .pointer (some ⟨c.X, 0, none⟩), .pointer (some ⟨c.X, 0, none⟩), .pointer (some ⟨c.X, 3, none⟩), .map (some c.D), .pointer (some ⟨c.X, 0, none⟩), .agg #[.int .u8 (c.nx k').kind, .string (c.nx k').text, .int .i64 (c.nx k').wd, .int .i64 (c.nx k').pos], .string (c.nx k').text, u22, .pointer (some ⟨c.X, 0, none⟩), .pointer (some ⟨c.X, 0, none⟩), .pointer (some ⟨c.X, 2, none⟩), .int .i64 (j : Int), .int .i64 ((j : Int) + 1), .pointer (some ⟨c.X, 0, none⟩), .pointer (some ⟨c.X, 2, none⟩), .func (.func 52) #[.pointer (some ⟨c.X, 0, none⟩)] #[], .tuple #[], undef, undef, undef, undef, undef, undef, undef, undef, undef, undef], defers := [] } _
      refine dr_take 7 (lookE (c.nx k').text.data.toList c.declE) rfl rfl (by kernel_rfl) (by kernel_rfl) (by kernel_rfl) (fun _ _ _ h => h) (fun W h => run_lk_decls rfl rfl rfl (run_decls h.1 _)) S1 ?_
      change wpAnyH _ _ _ _ _ _ _ { tmps := #[.pointer (some ⟨c.X, 0, none⟩), undef, .pointer (some ⟨w.heap.size, 0, none⟩), .pointer (some ⟨PB, 0, none⟩), .func (.func 52) #[.pointer (some ⟨c.X, 0, none⟩)] #[], .pointer (some ⟨c.X, 0, none⟩), .pointer (some ⟨c.X, 0, none⟩), .pointer (some ⟨c.X, 3, none⟩), .map (some c.D), .pointer (some ⟨c.X, 0, none⟩), .agg #[.int .u8 (c.nx k).kind, .string (c.nx k).text, .int .i64 (c.nx k).wd, .int .i64 (c.nx k).pos], .string (c.nx k).text, U0, .func (.func 52) #[.pointer (some ⟨c.X, 0, none⟩)] #[], .bool true, .pointer (some ⟨c.X, 0, none⟩), .pointer (some ⟨c.X, 0, none⟩), .pointer (some ⟨c.X, 3, none⟩), .map (some c.D), .pointer (some ⟨c.X, 0, none⟩), .agg #[.int .u8 (c.nx k').kind, .string (c.nx k').text, .int .i64 (c.nx k').wd, .int .i64 (c.nx k').pos], .string (c.nx k').text, lookE (c.nx k').text.data.toList c.declE, .pointer (some ⟨c.X, 0, none⟩), .pointer (some ⟨c.X, 0, none⟩), .pointer (some ⟨c.X, 2, none⟩), .int .i64 (j : Int), .int .i64 ((j : Int) + 1), .pointer (some ⟨c.X, 0, none⟩), .pointer (some ⟨c.X, 2, none⟩), .func (.func 52) #[.pointer (some ⟨c.X, 0, none⟩)] #[], .tuple #[], undef, undef, undef, undef, undef, undef, undef, undef, undef, undef], defers := [] } _
      refine dr_take 8 (lookE (c.nx k').text.data.toList c.declE) rfl rfl (by kernel_rfl) (by kernel_rfl) (by kernel_rfl) (fun _ _ _ h => h) (fun _ _ => rfl) S1 ?_
      change wpAnyH _ _ _ _ _ _ _ { tmps := #[.pointer (some ⟨c.X, 0, none⟩), undef, .pointer (some ⟨w.heap.size, 0, none⟩), .pointer (some ⟨PB, 0, none⟩), lookE (c.nx k').text.data.toList c.declE, .pointer (some ⟨c.X, 0, none⟩), .pointer (some ⟨c.X, 0, none⟩), .pointer (some ⟨c.X, 3, none⟩), .map (some c.D), .pointer (some ⟨c.X, 0, none⟩), .agg #[.int .u8 (c.nx k).kind, .string (c.nx k).text, .int .i64 (c.nx k).wd, .int .i64 (c.nx k).pos], .string (c.nx k).text, U0, .func (.func 52) #[.pointer (some ⟨c.X, 0, none⟩)] #[], .bool true, .pointer (some ⟨c.X, 0, none⟩), .pointer (some ⟨c.X, 0, none⟩), .pointer (some ⟨c.X, 3, none⟩), .map (some c.D), .pointer (some ⟨c.X, 0, none⟩), .agg #[.int .u8 (c.nx k').kind, .string (c.nx k').text, .int .i64 (c.nx k').wd, .int .i64 (c.nx k').pos], .string (c.nx k').text, lookE (c.nx k').text.data.toList c.declE, .pointer (some ⟨c.X, 0, none⟩), .pointer (some ⟨c.X, 0, none⟩), .pointer (some ⟨c.X, 2, none⟩), .int .i64 (j : Int), .int .i64 ((j : Int) + 1), .pointer (some ⟨c.X, 0, none⟩), .pointer (some ⟨c.X, 2, none⟩), .func (.func 52) #[.pointer (some ⟨c.X, 0, none⟩)] #[], .tuple #[], undef, undef, undef, undef, undef, undef, undef, undef, undef, undef], defers := [] } _
      clear S0 S1 hb
      refine wpAnyH_done (by kernel_rfl) ?_ _
      go_wp2_with fail
      go_roundg m
      case measure => omega
      case rel => exact ⟨⟨k', _, _, _, G.out, rfl, HZ.out.symm, by have := HFU.out.1; have := HLJ.out; have := HN5.out; omega, by have := HFU.out.2; have := HLJ.out; have := HN5.out; simp only [List.length_append]; omega⟩, by have := HGN.out; omega⟩
    · by_cases h2 : isT [108, 111, 99, 107] (c.at j) = true
      · have hjl := Par.isT_lt h2
        rw [look_locks h2] at hu
        subst hu
        obtain ⟨Z, hZ⟩ : ∃ Z, Z = listP c.L (nameP c.L) m [] (c.at (j + 1)) := ⟨_, rfl⟩
        have hz : Y1 = Z.then fun l r => declsP c.L m { p with locks := p.locks ++ l } r := by
          rw [← HY1.out]; conv => lhs; unfold declsP
          rw [if_neg h1, if_pos h2, Par.at_tail, hZ]
        have HZ := Lib.hid hz
        have HLJ : Hid ((c.at (j + 1)).length + 1 = (c.at j).length) := by rw [Hid, Par.at_len, Par.at_len]; omega
        have HC : Hid (∀ W', PgI c w PB vS vL p W' (j + 1) → Calls Tryd.prog 53 #[.pointer (some ⟨c.X, 0, none⟩), .pointer (some ⟨PB, 0, none⟩)] W' (lkPost c w PB vS p Z)) := fun W' GW => by rw [hZ]; exact p_locks HR.out (by have := HFU.out.1; have := HLJ.out; omega) GW (by have := HFU.out.2; have := HLJ.out; omega)
        have HN4 : Hid (∀ d r, Z = .ok d r → d.length + r.length ≤ (c.at (j + 1)).length) := fun d r h => by have := list_both (fun _ _ _ => nameP_short) (hZ.symm.trans h); simpa using this
        obtain ⟨⟨_, _, c2, _⟩, xf⟩ := G.out.run.cells
        have G3 := Lib.hid (G.out.call (Fr.setX (Fr.refl c _) (.int .i64 ((j : Int) + 1)) 2 G.out.run.pos) ((G.out.run.rd HR.out).step hjl) hX.out)
        clear hZ hz hjl h1 h2
        go_wp2_with fail
        go_at_call 53
        refine (HC.out _ G3.out).mono ?_
        rintro e w3 hm
        rcases Z with ⟨d, r⟩ | ⟨q, rl⟩
        rotate_left
        · obtain ⟨rfl, hf⟩ := hm
          have AZ := Lib.hid hf
          clear hf
          go_wp2_with fail
          refine ⟨rfl, ?_⟩
          show RdPost c w Y _ _ _
          rw [HS.out, HZ.out]
          exact ⟨AZ.out, rfl⟩
        obtain ⟨v', k', rfl, G4, rfl⟩ := hm
        have G := Lib.hid G4
        have HN5 := Lib.hid (HN4.out _ _ rfl)
        clear G4 c2 xf G3
        go_wp2_with fail
        refine wp_region_held (S := fun W => RdS c W ∧ W.cell? ⟨c.X, 3, none⟩ = some (.map (some c.D))) (by kernel_rfl) ?_
        have G := Lib.hid G.out.drew
        change wpAnyH _ _ _ _ _ _ _ _ (w3).drew
        obtain ⟨W0, hW0⟩ : ∃ W0, W0 = (w3).drew := ⟨_, rfl⟩
        rw [← hW0] at G ⊢
        clear hW0
        have S0 : RdS c W0 ∧ W0.cell? ⟨c.X, 3, none⟩ = some (.map (some c.D)) := ⟨(G.out.run.rd HR.out).s, G.out.run.cells.1.2.2.2.1⟩
        refine dr_take 0 (.pointer (some ⟨c.X, 0, none⟩)) rfl rfl (by kernel_rfl) (by kernel_rfl) (by kernel_rfl) (fun _ _ _ h => h) (fun _ _ => rfl) S0 ?_
        change wpAnyH _ _ _ _ _ _ _ { tmps := #[.pointer (some ⟨c.X, 0, none⟩), undef, .pointer (some ⟨w.heap.size, 0, none⟩), .pointer (some ⟨PB, 0, none⟩), .func (.func 53) #[.pointer (some ⟨c.X, 0, none⟩)] #[], .pointer (some ⟨c.X, 0, none⟩), .pointer (some ⟨c.X, 0, none⟩), .pointer (some ⟨c.X, 3, none⟩), .map (some c.D), .pointer (some ⟨c.X, 0, none⟩), .agg #[.int .u8 (c.nx k).kind, .string (c.nx k).text, .int .i64 (c.nx k).wd, .int .i64 (c.nx k).pos], .string (c.nx k).text, U0, .func (.func 53) #[.pointer (some ⟨c.X, 0, none⟩)] #[], .bool true, .pointer (some ⟨c.X, 0, none⟩), u16, u17, u18, u19, u20, u21, u22, .pointer (some ⟨c.X, 0, none⟩), .pointer (some ⟨c.X, 0, none⟩), .pointer (some ⟨c.X, 2, none⟩), .int .i64 (j : Int), .int .i64 ((j : Int) + 1), .pointer (some ⟨c.X, 0, none⟩), .pointer (some ⟨c.X, 2, none⟩), .func (.func 53) #[.pointer (some ⟨c.X, 0, none⟩)] #[], .tuple #[], undef, undef, undef, undef, undef, undef, undef, undef, undef, undef], defers := [] } _
        refine dr_take 1 (.pointer (some ⟨c.X, 0, none⟩)) rfl rfl (by kernel_rfl) (by kernel_rfl) (by kernel_rfl) (fun _ _ _ h => h) (fun _ _ => by unfold execOp; go_simp) S0 ?_
        change wpAnyH _ _ _ _ _ _ _ { tmps := #[.pointer (some ⟨c.X, 0, none⟩), undef, .pointer (some ⟨w.heap.size, 0, none⟩), .pointer (some ⟨PB, 0, none⟩), .func (.func 53) #[.pointer (some ⟨c.X, 0, none⟩)] #[], .pointer (some ⟨c.X, 0, none⟩), .pointer (some ⟨c.X, 0, none⟩), .pointer (some ⟨c.X, 3, none⟩), .map (some c.D), .pointer (some ⟨c.X, 0, none⟩), .agg #[.int .u8 (c.nx k).kind, .string (c.nx k).text, .int .i64 (c.nx k).wd, .int .i64 (c.nx k).pos], .string (c.nx k).text, U0, .func (.func 53) #[.pointer (some ⟨c.X, 0, none⟩)] #[], .bool true, .pointer (some ⟨c.X, 0, none⟩), .pointer (some ⟨c.X, 0, none⟩), u17, u18, u19, u20, u21, u22, .pointer (some ⟨c.X, 0, none⟩), .pointer (some ⟨c.X, 0, none⟩), .pointer (some ⟨c.X, 2, none⟩), .int .i64 (j : Int), .int .i64 ((j : Int) + 1), .pointer (some ⟨c.X, 0, none⟩), .pointer (some ⟨c.X, 2, none⟩), .func (.func 53) #[.pointer (some ⟨c.X, 0, none⟩)] #[], .tuple #[], undef, undef, undef, undef, undef, undef, undef, undef, undef, undef], defers := [] } _
        refine dr_take 2 (.pointer (some ⟨c.X, 3, none⟩)) rfl rfl (by kernel_rfl) (by kernel_rfl) (by kernel_rfl) (fun _ _ _ h => h) (fun _ _ => by unfold execOp; go_simp) S0 ?_
        change wpAnyH _ _ _ _ _ _ _ { tmps := #[.pointer (some ⟨c.X, 0, none⟩), undef, .pointer (some ⟨w.heap.size, 0, none⟩), .pointer (some ⟨PB, 0, none⟩), .func (.func 53) #[.pointer (some ⟨c.X, 0, none⟩)] #[], .pointer (some ⟨c.X, 0, none⟩), .pointer (some ⟨c.X, 0, none⟩), .pointer (some ⟨c.X, 3, none⟩), .map (some c.D), .pointer (some ⟨c.X, 0, none⟩), .agg #[.int .u8 (c.nx k).kind, .string (c.nx k).text, .int .i64 (c.nx k).wd, .int .i64 (c.nx k).pos], .string (c.nx k).text, U0, .func (.func 53) #[.pointer (some ⟨c.X, 0, none⟩)] #[], .bool true, .pointer (some ⟨c.X, 0, none⟩), .pointer (some ⟨c.X, 0, none⟩), .pointer (some ⟨c.X, 3, none⟩), u18, u19, u20, u21, u22, .pointer (some ⟨c.X, 0, none⟩), .pointer (some ⟨c.X, 0, none⟩), .pointer (some ⟨c.X, 2, none⟩), .int .i64 (j : Int), .int .i64 ((j : Int) + 1), .pointer (some ⟨c.X, 0, none⟩), .pointer (some ⟨c.X, 2, none⟩), .func (.func 53) #[.pointer (some ⟨c.X, 0, none⟩)] #[], .tuple #[], undef, undef, undef, undef, undef, undef, undef, undef, undef, undef], defers := [] } _
        refine dr_take 3 (.map (some c.D)) rfl rfl (by kernel_rfl) (by kernel_rfl) (by kernel_rfl) (fun _ _ _ h => h) (fun W h => run_ld_decls rfl rfl h.2) S0 ?_
        change wpAnyH _ _ _ _ _ _ _ { tmps := #[.pointer (some ⟨c.X, 0, none⟩), undef, .pointer (some ⟨w.heap.size, 0, none⟩), .pointer (some ⟨PB, 0, none⟩), .func (.func 53) #[.pointer (some ⟨c.X, 0, none⟩)] #[], .pointer (some ⟨c.X, 0, none⟩), .pointer (some ⟨c.X, 0, none⟩), .pointer (some ⟨c.X, 3, none⟩), .map (some c.D), .pointer (some ⟨c.X, 0, none⟩), .agg #[.int .u8 (c.nx k).kind, .string (c.nx k).text, .int .i64 (c.nx k).wd, .int .i64 (c.nx k).pos], .string (c.nx k).text, U0, .func (.func 53) #[.pointer (some ⟨c.X, 0, none⟩)] #[], .bool true, .pointer (some ⟨c.X, 0, none⟩), .pointer (some ⟨c.X, 0, none⟩), .pointer (some ⟨c.X, 3, none⟩), .map (some c.D), u19, u20, u21, u22, .pointer (some ⟨c.X, 0, none⟩), .pointer (some ⟨c.X, 0, none⟩), .pointer (some ⟨c.X, 2, none⟩), .int .i64 (j : Int), .int .i64 ((j : Int) + 1), .pointer (some ⟨c.X, 0, none⟩), .pointer (some ⟨c.X, 2, none⟩), .func (.func 53) #[.pointer (some ⟨c.X, 0, none⟩)] #[], .tuple #[], undef, undef, undef, undef, undef, undef, undef, undef, undef, undef], defers := [] } _
        refine dr_take 4 (.pointer (some ⟨c.X, 0, none⟩)) rfl rfl (by kernel_rfl) (by kernel_rfl) (by kernel_rfl) (fun _ _ _ h => h) (fun _ _ => rfl) S0 ?_
        change wpAnyH _ _ _ _ _ _ _ { tmps := #[.pointer (some ⟨c.X, 0, none⟩), undef, .pointer (some ⟨w.heap.size, 0, none⟩), .pointer (some ⟨PB, 0, none⟩), .func (.func 53) #[.pointer (some ⟨c.X, 0, none⟩)] #[], .pointer (some ⟨c.X, 0, none⟩), .pointer (some ⟨c.X, 0, none⟩), .pointer (some ⟨c.X, 3, none⟩), .map (some c.D), .pointer (some ⟨c.X, 0, none⟩), .agg #[.int .u8 (c.nx k).kind, .string (c.nx k).text, .int .i64 (c.nx k).wd, .int .i64 (c.nx k).pos], .string (c.nx k).text, U0, .func (.func 53) #[.pointer (some ⟨c.X, 0, none⟩)] #[], .bool true, .pointer (some ⟨c.X, 0, none⟩), .pointer (some ⟨c.X, 0, none⟩), .pointer (some ⟨c.X, 3, none⟩), .map (some c.D), .pointer (some ⟨c.X, 0, none⟩), u20, u21, u22, .pointer (some ⟨c.X, 0, none⟩), .pointer (some ⟨c.X, 0, none⟩), .pointer (some ⟨c.X, 2, none⟩), .int .i64 (j : Int), .int .i64 ((j : Int) + 1), .pointer (some ⟨c.X, 0, none⟩), .pointer (some ⟨c.X, 2, none⟩), .func (.func 53) #[.pointer (some ⟨c.X, 0, none⟩)] #[], .tuple #[], undef, undef, undef, undef, undef, undef, undef, undef, undef, undef], defers := [] } _
        refine dr_one 5 rfl rfl (by kernel_rfl) ?_
        refine wp_call (vs := #[.pointer (some ⟨c.X, 0, none⟩)]) rfl rfl (enters_of Tryd.func44 (by kernel_rfl) rfl) (by simp [Act.eval]) (HN.out _ k' (G.out.run.rd HR.out)) ?_
        rintro e w1 ⟨rfl, hb⟩
        have G := Lib.hid (G.out.call (.of_below hb) ((G.out.run.rd HR.out).below hb) hX.out)
        have S1 : RdS c w1 ∧ w1.cell? ⟨c.X, 3, none⟩ = some (.map (some c.D)) := ⟨(G.out.run.rd HR.out).s, G.out.run.cells.1.2.2.2.1⟩
        refine ⟨S1, ?_⟩
        change wpAnyH _ _ _ _ _ _ _ { tmps := #[.pointer (some ⟨c.X, 0, none⟩), undef, .pointer (some ⟨w.heap.size, 0, none⟩), .pointer (some ⟨PB, 0, none⟩), .func (.func 53) #[.pointer (some ⟨c.X, 0, none⟩)] #[], .pointer (some ⟨c.X, 0, none⟩), .pointer (some ⟨c.X, 0, none⟩), .pointer (some ⟨c.X, 3, none⟩), .map (some c.D), .pointer (some ⟨c.X, 0, none⟩), .agg #[.int .u8 (c.nx k).kind, .string (c.nx k).text, .int .i64 (c.nx k).wd, .int .i64 (c.nx k).pos], .string (c.nx k).text, U0, .func (.func 53) #[.pointer (some ⟨c.X, 0, none⟩)] #[], .bool true, .pointer (some ⟨c.X, 0, none⟩), .pointer (some ⟨c.X, 0, none⟩), .pointer (some ⟨c.X, 3, none⟩), .map (some c.D), .pointer (some ⟨c.X, 0, none⟩), .agg #[.int .u8 (c.nx k').kind, .string (c.nx k').text, .int .i64 (c.nx k').wd, .int .i64 (c.nx k').pos], u21, u22, .pointer (some ⟨c.X, 0, none⟩), .pointer (some ⟨c.X, 0, none⟩), .pointer (some ⟨c.X, 2, none⟩), .int .i64 (j : Int), .int .i64 ((j : Int) + 1), .pointer (some ⟨c.X, 0, none⟩), .pointer (some ⟨c.X, 2, none⟩), .func (.func 53) #[.pointer (some ⟨c.X, 0, none⟩)] #[], .tuple #[], undef, undef, undef, undef, undef, undef, undef, undef, undef, undef], defers := [] } _
        refine dr_take 6 (.string (c.nx k').text) rfl rfl (by kernel_rfl) (by kernel_rfl) (by kernel_rfl) (fun _ _ _ h => h) (fun W _ => run_fd_tok rfl rfl) S1 ?_
        change wpAnyH _ _ _ _ _ _ _ { tmps := #[.pointer (some ⟨c.X, 0, none⟩), undef, .pointer (some ⟨w.heap.size, 0, none⟩), .pointer (some ⟨PB, 0, none⟩), .func (.func 53) #[.pointer (some ⟨c.X, 0, none⟩)] #[], .pointer (some ⟨c.X, 0, none⟩), .pointer (some ⟨c.X, 0, none⟩), .pointer (some ⟨c.X, 3, none⟩), .map (some c.D), .pointer (some ⟨c.X, 0, none⟩), .agg #[.int .u8 (c.nx k).kind, .string (c.nx k).text, .int .i64 (c.nx k).wd, .int .i64 (c.nx k).pos], .string (c.nx k).text, U0, .func (.func 53) #[.pointer (some ⟨c.X, 0, none⟩)] #[], .bool true, .pointer (some ⟨c.X, 0, none⟩), .pointer (some ⟨c.X, 0, none⟩), .pointer (some ⟨c.X, 3, none⟩), .map (some c.D), .pointer (some ⟨c.X, 0, none⟩), .agg #[.int .u8 (c.nx k').kind, .string (c.nx k').text, .int .i64 (c.nx k').wd, .int .i64 (c.nx k').pos], .string (c.nx k').text, u22, .pointer (some ⟨c.X, 0, none⟩), .pointer (some ⟨c.X, 0, none⟩), .pointer (some ⟨c.X, 2, none⟩), .int .i64 (j : Int), .int .i64 ((j : Int) + 1), .pointer (some ⟨c.X, 0, none⟩), .pointer (some ⟨c.X, 2, none⟩), .func (.func 53) #[.pointer (some ⟨c.X, 0, none⟩)] #[], .tuple #[], undef, undef, undef, undef, undef, undef, undef, undef, undef, undef], defers := [] } _
        refine dr_take 7 (lookE (c.nx k').text.data.toList c.declE) rfl rfl (by kernel_rfl) (by kernel_rfl) (by kernel_rfl) (fun _ _ _ h => h) (fun W h => run_lk_decls rfl rfl rfl (run_decls h.1 _)) S1 ?_
        change wpAnyH _ _ _ _ _ _ _ { tmps := #[.pointer (some ⟨c.X, 0, none⟩), undef, .pointer (some ⟨w.heap.size, 0, none⟩), .pointer (some ⟨PB, 0, none⟩), .func (.func 53) #[.pointer (some ⟨c.X, 0, none⟩)] #[], .pointer (some ⟨c.X, 0, none⟩), .pointer (some ⟨c.X, 0, none⟩), .pointer (some ⟨c.X, 3, none⟩), .map (some c.D), .pointer (some ⟨c.X, 0, none⟩), .agg #[.int .u8 (c.nx k).kind, .string (c.nx k).text, .int .i64 (c.nx k).wd, .int .i64 (c.nx k).pos], .string (c.nx k).text, U0, .func (.func 53) #[.pointer (some ⟨c.X, 0, none⟩)] #[], .bool true, .pointer (some ⟨c.X, 0, none⟩), .pointer (some ⟨c.X, 0, none⟩), .pointer (some ⟨c.X, 3, none⟩), .map (some c.D), .pointer (some ⟨c.X, 0, none⟩), .agg #[.int .u8 (c.nx k').kind, .string (c.nx k').text, .int .i64 (c.nx k').wd, .int .i64 (c.nx k').pos], .string (c.nx k').text, lookE (c.nx k').text.data.toList c.declE, .pointer (some ⟨c.X, 0, none⟩), .pointer (some ⟨c.X, 0, none⟩), .pointer (some ⟨c.X, 2, none⟩), .int .i64 (j : Int), .int .i64 ((j : Int) + 1), .pointer (some ⟨c.X, 0, none⟩), .pointer (some ⟨c.X, 2, none⟩), .func (.func 53) #[.pointer (some ⟨c.X, 0, none⟩)] #[], .tuple #[], undef, undef, undef, undef, undef, undef, undef, undef, undef, undef], defers := [] } _
        refine dr_take 8 (lookE (c.nx k').text.data.toList c.declE) rfl rfl (by kernel_rfl) (by kernel_rfl) (by kernel_rfl) (fun _ _ _ h => h) (fun _ _ => rfl) S1 ?_
        change wpAnyH _ _ _ _ _ _ _ { tmps := #[.pointer (some ⟨c.X, 0, none⟩), undef, .pointer (some ⟨w.heap.size, 0, none⟩), .pointer (some ⟨PB, 0, none⟩), lookE (c.nx k').text.data.toList c.declE, .pointer (some ⟨c.X, 0, none⟩), .pointer (some ⟨c.X, 0, none⟩), .pointer (some ⟨c.X, 3, none⟩), .map (some c.D), .pointer (some ⟨c.X, 0, none⟩), .agg #[.int .u8 (c.nx k).kind, .string (c.nx k).text, .int .i64 (c.nx k).wd, .int .i64 (c.nx k).pos], .string (c.nx k).text, U0, .func (.func 53) #[.pointer (some ⟨c.X, 0, none⟩)] #[], .bool true, .pointer (some ⟨c.X, 0, none⟩), .pointer (some ⟨c.X, 0, none⟩), .pointer (some ⟨c.X, 3, none⟩), .map (some c.D), .pointer (some ⟨c.X, 0, none⟩), .agg #[.int .u8 (c.nx k').kind, .string (c.nx k').text, .int .i64 (c.nx k').wd, .int .i64 (c.nx k').pos], .string (c.nx k').text, lookE (c.nx k').text.data.toList c.declE, .pointer (some ⟨c.X, 0, none⟩), .pointer (some ⟨c.X, 0, none⟩), .pointer (some ⟨c.X, 2, none⟩), .int .i64 (j : Int), .int .i64 ((j : Int) + 1), .pointer (some ⟨c.X, 0, none⟩), .pointer (some ⟨c.X, 2, none⟩), .func (.func 53) #[.pointer (some ⟨c.X, 0, none⟩)] #[], .tuple #[], undef, undef, undef, undef, undef, undef, undef, undef, undef, undef], defers := [] } _
        clear S0 S1 hb
        refine wpAnyH_done (by kernel_rfl) ?_ _
        go_wp2_with fail
        go_roundg m
        case measure => omega
        case rel => exact ⟨⟨k', _, _, _, G.out, rfl, HZ.out.symm, by have := HFU.out.1; have := HLJ.out; have := HN5.out; omega, by have := HFU.out.2; have := HLJ.out; have := HN5.out; simp only [List.length_append]; omega⟩, by have := HGN.out; omega⟩
      · rw [look_none (by simpa using h1) (by simpa using h2)] at hu
        subst hu
        have hz : Y1 = .ok p (c.at j) := by rw [← HY1.out]; unfold declsP; rw [if_neg h1, if_neg h2]
        have HLK := Lib.hid (HDL.out _ _ hz)
        obtain ⟨a1, c1, a2, c2, rfl, rfl, GT⟩ := G.out.threads
        obtain ⟨Z3, hZ3⟩ : ∃ Z3, Z3 = threadsP fnd c.L n [] (c.at j) := ⟨_, rfl⟩
        have HS : Hid (Y = Z3.then fun l r => .ok { p with threads := l } r) := by rw [Hid, HS.out, hz, hZ3]; rfl
        have B1 : Hid (ThrI c w PB a1 c1 a2 c2 p Z3 n _) := ⟨j, [], _, [], GT, hZ3.symm, by have := HM.out; have := HLK.out; omega, by have := HM.out; have := HLK.out; simp; omega⟩
        clear hz hZ3 h1 h2 G GT
        go_wp2_with fail
        go_loopg [] n (fun m W => ThrI c w PB a1 c1 a2 c2 p Z3 m W ∧ m ≤ n)
        case atStart => exact ⟨B1.out, Nat.le_refl _⟩
        case round =>
          obtain ⟨⟨i, l, vT, xs, G1, hY3, hfu, hle⟩, hgn⟩ := hrel
          have G := Lib.hid G1
          have HFU := Lib.hid (And.intro hfu hle)
          have HGN := Lib.hid hgn
          have HY3 := Lib.hid hY3
          clear G1 hY3 hfu hle hgn
          obtain ⟨m2, rfl⟩ : ∃ m2, gk = m2 + 1 := ⟨gk - 1, by have := HFU.out.1; omega⟩
          obtain ⟨B, hB⟩ : ∃ b, b = isT [116, 104, 114, 101, 97, 100] (c.at i) := ⟨_, rfl⟩
          have HCB : Hid (∀ W, Rd c W i → Calls Tryd.prog 45 #[.pointer (some ⟨c.X, 0, none⟩), .string ⟨#[116, 104, 114, 101, 97, 100]⟩] W fun e w' => e = .returned (.bool B) ∧ Fr c W w' ∧ Rd c w' (if B = true then i + 1 else i)) := fun W RW => by rw [hB]; exact HP.out W i ⟨#[116, 104, 114, 101, 97, 100]⟩ RW (by decide)
          cases B with
          | false =>
            have hz3 : Z3 = .ok l (c.at i) := by rw [← HY3.out]; unfold threadsP; rw [← hB]; rfl
            have HZ := Lib.hid hz3
            clear hz3 hB
            go_wp2_with fail
            go_at_call 45
            refine (HCB.out _ (G.out.run.rd HR.out)).mono ?_
            rintro e w3 ⟨rfl, hf3, hR3⟩
            have G := Lib.hid (G.out.call hf3 (show Rd c w3 i from hR3) hX.out)
            clear hf3 hR3
            obtain ⟨a3, c3, rfl, ha3⟩ := row_shape G.out.rT
            have HA3 := Lib.hid ha3
            clear ha3
            have OP := G.out.own
            have OR := G.out.res
            have hnX0 : c.X ≠ w.heap.size := by have := hX.out; omega
            have A6 := Lib.hid (G.out.run.setRow (Nat.le_refl _) hnX0 #[.slice a1 p.shared.length c1, .slice a2 p.locks.length c2, .slice a3 l.length c3])
            have st0 : Hid (Stays (RB w PB (.slice a3 l.length c3)) w3 (w3.setRow w.heap.size #[.slice a1 p.shared.length c1, .slice a2 p.locks.length c2, .slice a3 l.length c3])) := stays_row w3 _ (fun b hb => by have := hb.1; omega)
            have HAP := Lib.hid (row_apart G.out.rT G.out.res rfl)
            clear hnX0
            unfold zPg at OR
            go_wp2_with (first | (refine ld rowPg rfl rfl rfl OP rfl ?_) | (refine st rowPg rfl rfl OR rfl rfl (by rfl) (by rfl) (by kernel_rfl) ?_))
            refine p_ret rowPg rfl (OR.row #[.slice a1 p.shared.length c1, .slice a2 p.locks.length c2, .slice a3 l.length c3]) rfl rfl rfl ?_
            show RdPost c w Y _ _ _
            rw [HS.out, HZ.out]
            refine ⟨A6.out.fr, _, i, rfl, ⟨a1, c1, a2, c2, a3, c3, rfl, ?_, ?_, ?_⟩, A6.out.rd HR.out, rfl⟩
            · exact dcsAt_stays st0.out (fun b hb => Nat.le_of_lt hb.1) G.out.dS
            · exact dcsAt_stays st0.out (fun b hb => Nat.le_of_lt hb.1) G.out.dL
            · have ROW6 := row_row G.out.rT (g := w.heap.size) #[.slice a1 p.shared.length c1, .slice a2 p.locks.length c2, .slice a3 l.length c3] HAP.out
              have TV6 := thsV_stays st0.out (fun b hb => Nat.le_of_lt hb.1) G.out.tv (R' := fun b => w.heap.size ≤ b)
              cases l with
              | nil => exact .inl rfl
              | cons x xx =>
                obtain ⟨g, rfl, hg⟩ := HA3.out (by simp)
                exact .inr ⟨g, 0, rfl, hg, thsIn_of TV6 (row_cells ROW6 rfl)⟩
          | true =>
            have hil := Par.isT_lt hB.symm
            obtain ⟨Z4, hZ4⟩ : ∃ Z4, Z4 = threadP fnd c.L m2 (c.at (i + 1)) := ⟨_, rfl⟩
            have HLJ : Hid ((c.at (i + 1)).length + 1 = (c.at i).length) := by rw [Hid, Par.at_len, Par.at_len]; omega
            have HC4 : Hid (∀ W, Rd c W (i + 1) → Calls Tryd.prog 46 #[.pointer (some ⟨c.X, 0, none⟩)] W (RdPost c W Z4 (fun t v w' => thR W.heap.size t v w'))) := fun W RW => by rw [hZ4]; exact HT.out W (i + 1) m2 RW (by have := HFU.out.1; have := HLJ.out; omega)
            have HN4 : Hid (∀ t r, Z4 = .ok t r → r.length < (c.at (i + 1)).length) := fun t r h => thread_short (hZ4.symm.trans h)
            have hz3 : Z3 = Z4.then fun t r => threadsP fnd c.L m2 (l ++ [t]) r := by
              rw [← HY3.out]; conv => lhs; unfold threadsP
              rw [← hB, hZ4, Par.at_tail]; rfl
            have HZ := Lib.hid hz3
            clear hz3 hB hZ4 hil
            go_wp2_with fail
            go_at_call 45
            refine (HCB.out _ (G.out.run.rd HR.out)).mono ?_
            rintro e w3 ⟨rfl, hf3, hR3⟩
            have G := Lib.hid (G.out.call hf3 (show Rd c w3 (i + 1) from hR3) hX.out)
            clear hf3 hR3
            go_wp2_with fail
            refine wp_region_held (S := fun _ => True) (by kernel_rfl) ?_
            have G := G.out.drew
            change wpAnyH _ _ _ _ _ _ _ _ w3.drew
            obtain ⟨W0, hW0⟩ : ∃ W0, W0 = w3.drew := ⟨_, rfl⟩
            rw [← hW0] at G ⊢
            clear hW0
            refine dr_take 0 (.pointer (some ⟨PB, 2, none⟩)) rfl rfl (by kernel_rfl) (by kernel_rfl) (by kernel_rfl) (fun _ _ _ h => h) (fun _ _ => by unfold execOp; go_simp) trivial ?_
            change wpAnyH _ _ _ _ _ _ _ { tmps := #[.pointer (some ⟨c.X, 0, none⟩), undef, .pointer (some ⟨w.heap.size, 0, none⟩), .pointer (some ⟨PB, 0, none⟩), .nilFunc, .pointer (some ⟨c.X, 0, none⟩), .pointer (some ⟨c.X, 0, none⟩), .pointer (some ⟨c.X, 3, none⟩), .map (some c.D), .pointer (some ⟨c.X, 0, none⟩), .agg #[.int .u8 (c.nx k).kind, .string (c.nx k).text, .int .i64 (c.nx k).wd, .int .i64 (c.nx k).pos], .string (c.nx k).text, U0, .nilFunc, .bool false, u15, u16, u17, u18, u19, u20, u21, u22, u23, u24, u25, u26, u27, u28, u29, u30, u31, .pointer (some ⟨c.X, 0, none⟩), .bool true, .pointer (some ⟨PB, 2, none⟩), u35, u36, u37, u38, u39, u40, undef], defers := [] } _
            refine dr_take 2 (.pointer (some ⟨c.X, 0, none⟩)) rfl rfl (by kernel_rfl) (by kernel_rfl) (by kernel_rfl) (fun _ _ _ h => h) (fun _ _ => rfl) trivial ?_
            change wpAnyH _ _ _ _ _ _ _ { tmps := #[.pointer (some ⟨c.X, 0, none⟩), undef, .pointer (some ⟨w.heap.size, 0, none⟩), .pointer (some ⟨PB, 0, none⟩), .nilFunc, .pointer (some ⟨c.X, 0, none⟩), .pointer (some ⟨c.X, 0, none⟩), .pointer (some ⟨c.X, 3, none⟩), .map (some c.D), .pointer (some ⟨c.X, 0, none⟩), .agg #[.int .u8 (c.nx k).kind, .string (c.nx k).text, .int .i64 (c.nx k).wd, .int .i64 (c.nx k).pos], .string (c.nx k).text, U0, .nilFunc, .bool false, u15, u16, u17, u18, u19, u20, u21, u22, u23, u24, u25, u26, u27, u28, u29, u30, u31, .pointer (some ⟨c.X, 0, none⟩), .bool true, .pointer (some ⟨PB, 2, none⟩), u35, .pointer (some ⟨c.X, 0, none⟩), u37, u38, u39, u40, undef], defers := [] } _
            refine dr_two 1 3 rfl rfl rfl rfl (by kernel_rfl) ?_ ?_
            · refine wp_ld_ths rfl rfl (G.cell (i := 2) (v := vT) rfl) ⟨trivial, ?_⟩
              change wpAnyH _ _ _ _ _ _ _ { tmps := #[.pointer (some ⟨c.X, 0, none⟩), undef, .pointer (some ⟨w.heap.size, 0, none⟩), .pointer (some ⟨PB, 0, none⟩), .nilFunc, .pointer (some ⟨c.X, 0, none⟩), .pointer (some ⟨c.X, 0, none⟩), .pointer (some ⟨c.X, 3, none⟩), .map (some c.D), .pointer (some ⟨c.X, 0, none⟩), .agg #[.int .u8 (c.nx k).kind, .string (c.nx k).text, .int .i64 (c.nx k).wd, .int .i64 (c.nx k).pos], .string (c.nx k).text, U0, .nilFunc, .bool false, u15, u16, u17, u18, u19, u20, u21, u22, u23, u24, u25, u26, u27, u28, u29, u30, u31, .pointer (some ⟨c.X, 0, none⟩), .bool true, .pointer (some ⟨PB, 2, none⟩), vT, .pointer (some ⟨c.X, 0, none⟩), u37, u38, u39, u40, undef], defers := [] } _
              refine dr_one 3 rfl rfl (by kernel_rfl) ?_
              refine wp_call (vs := #[.pointer (some ⟨c.X, 0, none⟩)]) rfl rfl (enters_of Tryd.func46 (by kernel_rfl) rfl) (by simp [Act.eval]) (HC4.out _ (G.run.rd HR.out)) ?_
              rintro e w4 ⟨hf4, hm⟩
              rcases Z4 with ⟨t, r⟩ | ⟨q, rl⟩
              rotate_left
              · obtain rfl := hm
                have AZ := Lib.hid (G.run.fr.trans hf4)
                clear hf4
                go_wp2_with fail
                refine ⟨rfl, ?_⟩
                show RdPost c w Y _ _ _
                rw [HS.out, HZ.out]
                exact ⟨AZ.out, rfl⟩
              obtain ⟨v1, k3, rfl, ⟨a5, c5, a6, c6, rfl, hd5, hs6⟩, hR1, rfl⟩ := hm
              have G1 := G.call hf4 hR1 hX.out
              have hlen := HN4.out _ _ rfl
              have hW0 := G.run.fr.size
              have hPBl := G.own.lt
              have hPBg := G.ge
              have hq : ∀ b, W0.heap.size ≤ b ∧ b < w4.heap.size → RB w PB vT b ∧ b < w4.heap.size + 1 := fun b hb => ⟨⟨by omega, by omega, fun e => by have := (G.rT.lt b e).2; omega⟩, by omega⟩
              refine ⟨trivial, ?_⟩
              change wpAnyH _ _ _ _ _ _ _ { tmps := #[.pointer (some ⟨c.X, 0, none⟩), undef, .pointer (some ⟨w.heap.size, 0, none⟩), .pointer (some ⟨PB, 0, none⟩), .nilFunc, .pointer (some ⟨c.X, 0, none⟩), .pointer (some ⟨c.X, 0, none⟩), .pointer (some ⟨c.X, 3, none⟩), .map (some c.D), .pointer (some ⟨c.X, 0, none⟩), .agg #[.int .u8 (c.nx k).kind, .string (c.nx k).text, .int .i64 (c.nx k).wd, .int .i64 (c.nx k).pos], .string (c.nx k).text, U0, .nilFunc, .bool false, u15, u16, u17, u18, u19, u20, u21, u22, u23, u24, u25, u26, u27, u28, u29, u30, u31, .pointer (some ⟨c.X, 0, none⟩), .bool true, .pointer (some ⟨PB, 2, none⟩), vT, .pointer (some ⟨c.X, 0, none⟩), .agg #[.string t.name, .slice a5 t.locals.length c5, .slice a6 t.body.length c6, .int .i64 t.pos], u38, u39, u40, undef], defers := [] } _
              refine dr_one 4 rfl rfl (by kernel_rfl) ?_
              refine wp_val (run_bs_th rfl rfl) ⟨trivial, ?_⟩
              change wpAnyH _ _ _ _ _ _ _ { tmps := #[.pointer (some ⟨c.X, 0, none⟩), undef, .pointer (some ⟨w.heap.size, 0, none⟩), .pointer (some ⟨PB, 0, none⟩), .nilFunc, .pointer (some ⟨c.X, 0, none⟩), .pointer (some ⟨c.X, 0, none⟩), .pointer (some ⟨c.X, 3, none⟩), .map (some c.D), .pointer (some ⟨c.X, 0, none⟩), .agg #[.int .u8 (c.nx k).kind, .string (c.nx k).text, .int .i64 (c.nx k).wd, .int .i64 (c.nx k).pos], .string (c.nx k).text, U0, .nilFunc, .bool false, u15, u16, u17, u18, u19, u20, u21, u22, u23, u24, u25, u26, u27, u28, u29, u30, u31, .pointer (some ⟨c.X, 0, none⟩), .bool true, .pointer (some ⟨PB, 2, none⟩), vT, .pointer (some ⟨c.X, 0, none⟩), .agg #[.string t.name, .slice a5 t.locals.length c5, .slice a6 t.body.length c6, .int .i64 t.pos], .slice (some ⟨w4.heap.size, 0, none⟩) 1 1, u39, u40, undef], defers := [] } _
              have G2 := G1.alloc (.cells #[.string t.name, .slice a5 t.locals.length c5, .slice a6 t.body.length c6, .int .i64 t.pos] 69) hX.out HR.out
              have hv : thV (fun b => RB w PB vT b ∧ b < (w4.alloc (.cells #[.string t.name, .slice a5 t.locals.length c5, .slice a6 t.body.length c6, .int .i64 t.pos] 69)).heap.size) (w4.alloc (.cells #[.string t.name, .slice a5 t.locals.length c5, .slice a6 t.body.length c6, .int .i64 t.pos] 69)) t #[.string t.name, .slice a5 t.locals.length c5, .slice a6 t.body.length c6, .int .i64 t.pos].toList := by
                rw [World.size_alloc]
                exact ⟨a5, c5, a6, c6, rfl, dcsAt_stays (stays_alloc _ w4 _) hq (dcsAt_in hd5), stsAt_stays (stays_alloc _ w4 _) hq (stsAt_in hs6)⟩
              have hnews := World.news_of_block (Own.new w4 69 #[.string t.name, .slice a5 t.locals.length c5, .slice a6 t.body.length c6, .int .i64 t.pos])
              have hsz := World.size_alloc w4 (.cells #[.string t.name, .slice a5 t.locals.length c5, .slice a6 t.body.length c6, .int .i64 t.pos] 69)
              have hle6 := HFU.out.2

              refine dr_one 5 rfl rfl (by kernel_rfl) ?_
              obtain ⟨i0, hi, hi0, hi1, hi2⟩ := info_parts infoTh
              refine wp_append_lies (w4.alloc (.cells #[.string t.name, .slice a5 t.locals.length c5, .slice a6 t.body.length c6, .int .i64 t.pos] 69)) _ _ 38 rfl w.heap.size 69 i0 _ 4 72 Tryd.underlying38 hi hi0 hi1 hi2 rfl (by decide) vT l.length xs rfl G2.rT ⟨w4.heap.size, 0, none⟩ 1 1 #[.string t.name, .slice a5 t.locals.length c5, .slice a6 t.body.length c6, .int .i64 t.pos].toList rfl rfl hnews (by simp [Value.oneCell']) (by decide) (by simp only [maxLen]; omega) (by omega) (by have := G2.run.fr.size; omega) _ rfl ?_
              intro g2 cap2 w6 hown2 hgrow2 hlies2 hlt2
              refine ⟨trivial, ?_⟩
              change wpAnyH _ _ _ _ _ _ _ { tmps := #[.pointer (some ⟨c.X, 0, none⟩), undef, .pointer (some ⟨w.heap.size, 0, none⟩), .pointer (some ⟨PB, 0, none⟩), .nilFunc, .pointer (some ⟨c.X, 0, none⟩), .pointer (some ⟨c.X, 0, none⟩), .pointer (some ⟨c.X, 3, none⟩), .map (some c.D), .pointer (some ⟨c.X, 0, none⟩), .agg #[.int .u8 (c.nx k).kind, .string (c.nx k).text, .int .i64 (c.nx k).wd, .int .i64 (c.nx k).pos], .string (c.nx k).text, U0, .nilFunc, .bool false, u15, u16, u17, u18, u19, u20, u21, u22, u23, u24, u25, u26, u27, u28, u29, u30, u31, .pointer (some ⟨c.X, 0, none⟩), .bool true, .pointer (some ⟨PB, 2, none⟩), vT, .pointer (some ⟨c.X, 0, none⟩), .agg #[.string t.name, .slice a5 t.locals.length c5, .slice a6 t.body.length c6, .int .i64 t.pos], .slice (some ⟨w4.heap.size, 0, none⟩) 1 1, .slice (some ⟨g2, 0, none⟩) (l.length + 1) cap2, u40, undef], defers := [] } _
              refine dr_take 6 (.pointer (some ⟨PB, 2, none⟩)) rfl rfl (by kernel_rfl) (by kernel_rfl) (by kernel_rfl) (fun _ _ _ h => h) (fun _ _ => by unfold execOp; go_simp) trivial ?_
              change wpAnyH _ _ _ _ _ _ _ { tmps := #[.pointer (some ⟨c.X, 0, none⟩), undef, .pointer (some ⟨w.heap.size, 0, none⟩), .pointer (some ⟨PB, 0, none⟩), .nilFunc, .pointer (some ⟨c.X, 0, none⟩), .pointer (some ⟨c.X, 0, none⟩), .pointer (some ⟨c.X, 3, none⟩), .map (some c.D), .pointer (some ⟨c.X, 0, none⟩), .agg #[.int .u8 (c.nx k).kind, .string (c.nx k).text, .int .i64 (c.nx k).wd, .int .i64 (c.nx k).pos], .string (c.nx k).text, U0, .nilFunc, .bool false, u15, u16, u17, u18, u19, u20, u21, u22, u23, u24, u25, u26, u27, u28, u29, u30, u31, .pointer (some ⟨c.X, 0, none⟩), .bool true, .pointer (some ⟨PB, 2, none⟩), vT, .pointer (some ⟨c.X, 0, none⟩), .agg #[.string t.name, .slice a5 t.locals.length c5, .slice a6 t.body.length c6, .int .i64 t.pos], .slice (some ⟨w4.heap.size, 0, none⟩) 1 1, .slice (some ⟨g2, 0, none⟩) (l.length + 1) cap2, .pointer (some ⟨PB, 2, none⟩), undef], defers := [] } _
              refine dr_one 7 rfl rfl (by kernel_rfl) ?_
              obtain ⟨B1, B2, B3⟩ := G2.grown hgrow2 hX.out
              refine wp_st_ths rfl rfl rfl (u := vT) (by rw [cell_of_row w6 _ 2 _ _ _ B3]; rfl) (own_frozen B3 2) ⟨trivial, ?_⟩
              rw [setCell_row B3 2 _]
              have G3 := Lib.hid (G2.end_ hX.out hv hgrow2 hown2 hlies2)
              have HLN := Lib.hid hlen
              refine wpAnyH_done (by kernel_rfl) ?_ _
              clear hown2 hgrow2 hlies2 B1 B2 B3 G1 G2 hlen hv hnews hsz hd5 hs6 hq hW0 hPBl hPBg hle6
              go_wp2_with fail
              go_roundg m2
              case measure => omega
              case rel => exact ⟨⟨k3, l ++ [t], _, _, G3.out, HZ.out.symm, by have := HFU.out.1; have := HLN.out; have := HLJ.out; omega, by have := HFU.out.2; have := HLN.out; have := HLJ.out; rw [List.length_append, List.length_singleton]; omega⟩, by have := HGN.out; omega⟩
            · skip
              refine wp_call (vs := #[.pointer (some ⟨c.X, 0, none⟩)]) rfl rfl (enters_of Tryd.func46 (by kernel_rfl) rfl) (by simp [Act.eval]) (HC4.out _ (G.run.rd HR.out)) ?_
              rintro e w4 ⟨hf4, hm⟩
              rcases Z4 with ⟨t, r⟩ | ⟨q, rl⟩
              rotate_left
              · obtain rfl := hm
                have AZ := Lib.hid (G.run.fr.trans hf4)
                clear hf4
                go_wp2_with fail
                refine ⟨rfl, ?_⟩
                show RdPost c w Y _ _ _
                rw [HS.out, HZ.out]
                exact ⟨AZ.out, rfl⟩
              obtain ⟨v1, k3, rfl, ⟨a5, c5, a6, c6, rfl, hd5, hs6⟩, hR1, rfl⟩ := hm
              have G1 := G.call hf4 hR1 hX.out
              have hlen := HN4.out _ _ rfl
              have hW0 := G.run.fr.size
              have hPBl := G.own.lt
              have hPBg := G.ge
              have hq : ∀ b, W0.heap.size ≤ b ∧ b < w4.heap.size → RB w PB vT b ∧ b < w4.heap.size + 1 := fun b hb => ⟨⟨by omega, by omega, fun e => by have := (G.rT.lt b e).2; omega⟩, by omega⟩
              refine ⟨trivial, ?_⟩
              change wpAnyH _ _ _ _ _ _ _ { tmps := #[.pointer (some ⟨c.X, 0, none⟩), undef, .pointer (some ⟨w.heap.size, 0, none⟩), .pointer (some ⟨PB, 0, none⟩), .nilFunc, .pointer (some ⟨c.X, 0, none⟩), .pointer (some ⟨c.X, 0, none⟩), .pointer (some ⟨c.X, 3, none⟩), .map (some c.D), .pointer (some ⟨c.X, 0, none⟩), .agg #[.int .u8 (c.nx k).kind, .string (c.nx k).text, .int .i64 (c.nx k).wd, .int .i64 (c.nx k).pos], .string (c.nx k).text, U0, .nilFunc, .bool false, u15, u16, u17, u18, u19, u20, u21, u22, u23, u24, u25, u26, u27, u28, u29, u30, u31, .pointer (some ⟨c.X, 0, none⟩), .bool true, .pointer (some ⟨PB, 2, none⟩), u35, .pointer (some ⟨c.X, 0, none⟩), .agg #[.string t.name, .slice a5 t.locals.length c5, .slice a6 t.body.length c6, .int .i64 t.pos], u38, u39, u40, undef], defers := [] } _
              refine dr_two 1 4 rfl rfl rfl rfl (by kernel_rfl) ?_ ?_
              · refine wp_ld_ths rfl rfl (G1.cell (i := 2) (v := vT) rfl) ⟨trivial, ?_⟩
                change wpAnyH _ _ _ _ _ _ _ { tmps := #[.pointer (some ⟨c.X, 0, none⟩), undef, .pointer (some ⟨w.heap.size, 0, none⟩), .pointer (some ⟨PB, 0, none⟩), .nilFunc, .pointer (some ⟨c.X, 0, none⟩), .pointer (some ⟨c.X, 0, none⟩), .pointer (some ⟨c.X, 3, none⟩), .map (some c.D), .pointer (some ⟨c.X, 0, none⟩), .agg #[.int .u8 (c.nx k).kind, .string (c.nx k).text, .int .i64 (c.nx k).wd, .int .i64 (c.nx k).pos], .string (c.nx k).text, U0, .nilFunc, .bool false, u15, u16, u17, u18, u19, u20, u21, u22, u23, u24, u25, u26, u27, u28, u29, u30, u31, .pointer (some ⟨c.X, 0, none⟩), .bool true, .pointer (some ⟨PB, 2, none⟩), vT, .pointer (some ⟨c.X, 0, none⟩), .agg #[.string t.name, .slice a5 t.locals.length c5, .slice a6 t.body.length c6, .int .i64 t.pos], u38, u39, u40, undef], defers := [] } _
                refine dr_one 4 rfl rfl (by kernel_rfl) ?_
                refine wp_val (run_bs_th rfl rfl) ⟨trivial, ?_⟩
                change wpAnyH _ _ _ _ _ _ _ { tmps := #[.pointer (some ⟨c.X, 0, none⟩), undef, .pointer (some ⟨w.heap.size, 0, none⟩), .pointer (some ⟨PB, 0, none⟩), .nilFunc, .pointer (some ⟨c.X, 0, none⟩), .pointer (some ⟨c.X, 0, none⟩), .pointer (some ⟨c.X, 3, none⟩), .map (some c.D), .pointer (some ⟨c.X, 0, none⟩), .agg #[.int .u8 (c.nx k).kind, .string (c.nx k).text, .int .i64 (c.nx k).wd, .int .i64 (c.nx k).pos], .string (c.nx k).text, U0, .nilFunc, .bool false, u15, u16, u17, u18, u19, u20, u21, u22, u23, u24, u25, u26, u27, u28, u29, u30, u31, .pointer (some ⟨c.X, 0, none⟩), .bool true, .pointer (some ⟨PB, 2, none⟩), vT, .pointer (some ⟨c.X, 0, none⟩), .agg #[.string t.name, .slice a5 t.locals.length c5, .slice a6 t.body.length c6, .int .i64 t.pos], .slice (some ⟨w4.heap.size, 0, none⟩) 1 1, u39, u40, undef], defers := [] } _
                have G2 := G1.alloc (.cells #[.string t.name, .slice a5 t.locals.length c5, .slice a6 t.body.length c6, .int .i64 t.pos] 69) hX.out HR.out
                have hv : thV (fun b => RB w PB vT b ∧ b < (w4.alloc (.cells #[.string t.name, .slice a5 t.locals.length c5, .slice a6 t.body.length c6, .int .i64 t.pos] 69)).heap.size) (w4.alloc (.cells #[.string t.name, .slice a5 t.locals.length c5, .slice a6 t.body.length c6, .int .i64 t.pos] 69)) t #[.string t.name, .slice a5 t.locals.length c5, .slice a6 t.body.length c6, .int .i64 t.pos].toList := by
                  rw [World.size_alloc]
                  exact ⟨a5, c5, a6, c6, rfl, dcsAt_stays (stays_alloc _ w4 _) hq (dcsAt_in hd5), stsAt_stays (stays_alloc _ w4 _) hq (stsAt_in hs6)⟩
                have hnews := World.news_of_block (Own.new w4 69 #[.string t.name, .slice a5 t.locals.length c5, .slice a6 t.body.length c6, .int .i64 t.pos])
                have hsz := World.size_alloc w4 (.cells #[.string t.name, .slice a5 t.locals.length c5, .slice a6 t.body.length c6, .int .i64 t.pos] 69)
                have hle6 := HFU.out.2

                refine dr_one 5 rfl rfl (by kernel_rfl) ?_
                obtain ⟨i0, hi, hi0, hi1, hi2⟩ := info_parts infoTh
                refine wp_append_lies (w4.alloc (.cells #[.string t.name, .slice a5 t.locals.length c5, .slice a6 t.body.length c6, .int .i64 t.pos] 69)) _ _ 38 rfl w.heap.size 69 i0 _ 4 72 Tryd.underlying38 hi hi0 hi1 hi2 rfl (by decide) vT l.length xs rfl G2.rT ⟨w4.heap.size, 0, none⟩ 1 1 #[.string t.name, .slice a5 t.locals.length c5, .slice a6 t.body.length c6, .int .i64 t.pos].toList rfl rfl hnews (by simp [Value.oneCell']) (by decide) (by simp only [maxLen]; omega) (by omega) (by have := G2.run.fr.size; omega) _ rfl ?_
                intro g2 cap2 w6 hown2 hgrow2 hlies2 hlt2
                refine ⟨trivial, ?_⟩
                change wpAnyH _ _ _ _ _ _ _ { tmps := #[.pointer (some ⟨c.X, 0, none⟩), undef, .pointer (some ⟨w.heap.size, 0, none⟩), .pointer (some ⟨PB, 0, none⟩), .nilFunc, .pointer (some ⟨c.X, 0, none⟩), .pointer (some ⟨c.X, 0, none⟩), .pointer (some ⟨c.X, 3, none⟩), .map (some c.D), .pointer (some ⟨c.X, 0, none⟩), .agg #[.int .u8 (c.nx k).kind, .string (c.nx k).text, .int .i64 (c.nx k).wd, .int .i64 (c.nx k).pos], .string (c.nx k).text, U0, .nilFunc, .bool false, u15, u16, u17, u18, u19, u20, u21, u22, u23, u24, u25, u26, u27, u28, u29, u30, u31, .pointer (some ⟨c.X, 0, none⟩), .bool true, .pointer (some ⟨PB, 2, none⟩), vT, .pointer (some ⟨c.X, 0, none⟩), .agg #[.string t.name, .slice a5 t.locals.length c5, .slice a6 t.body.length c6, .int .i64 t.pos], .slice (some ⟨w4.heap.size, 0, none⟩) 1 1, .slice (some ⟨g2, 0, none⟩) (l.length + 1) cap2, u40, undef], defers := [] } _
                refine dr_take 6 (.pointer (some ⟨PB, 2, none⟩)) rfl rfl (by kernel_rfl) (by kernel_rfl) (by kernel_rfl) (fun _ _ _ h => h) (fun _ _ => by unfold execOp; go_simp) trivial ?_
                change wpAnyH _ _ _ _ _ _ _ { tmps := #[.pointer (some ⟨c.X, 0, none⟩), undef, .pointer (some ⟨w.heap.size, 0, none⟩), .pointer (some ⟨PB, 0, none⟩), .nilFunc, .pointer (some ⟨c.X, 0, none⟩), .pointer (some ⟨c.X, 0, none⟩), .pointer (some ⟨c.X, 3, none⟩), .map (some c.D), .pointer (some ⟨c.X, 0, none⟩), .agg #[.int .u8 (c.nx k).kind, .string (c.nx k).text, .int .i64 (c.nx k).wd, .int .i64 (c.nx k).pos], .string (c.nx k).text, U0, .nilFunc, .bool false, u15, u16, u17, u18, u19, u20, u21, u22, u23, u24, u25, u26, u27, u28, u29, u30, u31, .pointer (some ⟨c.X, 0, none⟩), .bool true, .pointer (some ⟨PB, 2, none⟩), vT, .pointer (some ⟨c.X, 0, none⟩), .agg #[.string t.name, .slice a5 t.locals.length c5, .slice a6 t.body.length c6, .int .i64 t.pos], .slice (some ⟨w4.heap.size, 0, none⟩) 1 1, .slice (some ⟨g2, 0, none⟩) (l.length + 1) cap2, .pointer (some ⟨PB, 2, none⟩), undef], defers := [] } _
                refine dr_one 7 rfl rfl (by kernel_rfl) ?_
                obtain ⟨B1, B2, B3⟩ := G2.grown hgrow2 hX.out
                refine wp_st_ths rfl rfl rfl (u := vT) (by rw [cell_of_row w6 _ 2 _ _ _ B3]; rfl) (own_frozen B3 2) ⟨trivial, ?_⟩
                rw [setCell_row B3 2 _]
                have G3 := Lib.hid (G2.end_ hX.out hv hgrow2 hown2 hlies2)
                have HLN := Lib.hid hlen
                refine wpAnyH_done (by kernel_rfl) ?_ _
                clear hown2 hgrow2 hlies2 B1 B2 B3 G1 G2 hlen hv hnews hsz hd5 hs6 hq hW0 hPBl hPBg hle6
                go_wp2_with fail
                go_roundg m2
                case measure => omega
                case rel => exact ⟨⟨k3, l ++ [t], _, _, G3.out, HZ.out.symm, by have := HFU.out.1; have := HLN.out; have := HLJ.out; omega, by have := HFU.out.2; have := HLN.out; have := HLJ.out; rw [List.length_append, List.length_singleton]; omega⟩, by have := HGN.out; omega⟩
              · skip
                refine wp_val (run_bs_th rfl rfl) ⟨trivial, ?_⟩
                change wpAnyH _ _ _ _ _ _ _ { tmps := #[.pointer (some ⟨c.X, 0, none⟩), undef, .pointer (some ⟨w.heap.size, 0, none⟩), .pointer (some ⟨PB, 0, none⟩), .nilFunc, .pointer (some ⟨c.X, 0, none⟩), .pointer (some ⟨c.X, 0, none⟩), .pointer (some ⟨c.X, 3, none⟩), .map (some c.D), .pointer (some ⟨c.X, 0, none⟩), .agg #[.int .u8 (c.nx k).kind, .string (c.nx k).text, .int .i64 (c.nx k).wd, .int .i64 (c.nx k).pos], .string (c.nx k).text, U0, .nilFunc, .bool false, u15, u16, u17, u18, u19, u20, u21, u22, u23, u24, u25, u26, u27, u28, u29, u30, u31, .pointer (some ⟨c.X, 0, none⟩), .bool true, .pointer (some ⟨PB, 2, none⟩), u35, .pointer (some ⟨c.X, 0, none⟩), .agg #[.string t.name, .slice a5 t.locals.length c5, .slice a6 t.body.length c6, .int .i64 t.pos], .slice (some ⟨w4.heap.size, 0, none⟩) 1 1, u39, u40, undef], defers := [] } _
                have G2 := G1.alloc (.cells #[.string t.name, .slice a5 t.locals.length c5, .slice a6 t.body.length c6, .int .i64 t.pos] 69) hX.out HR.out
                have hv : thV (fun b => RB w PB vT b ∧ b < (w4.alloc (.cells #[.string t.name, .slice a5 t.locals.length c5, .slice a6 t.body.length c6, .int .i64 t.pos] 69)).heap.size) (w4.alloc (.cells #[.string t.name, .slice a5 t.locals.length c5, .slice a6 t.body.length c6, .int .i64 t.pos] 69)) t #[.string t.name, .slice a5 t.locals.length c5, .slice a6 t.body.length c6, .int .i64 t.pos].toList := by
                  rw [World.size_alloc]
                  exact ⟨a5, c5, a6, c6, rfl, dcsAt_stays (stays_alloc _ w4 _) hq (dcsAt_in hd5), stsAt_stays (stays_alloc _ w4 _) hq (stsAt_in hs6)⟩
                have hnews := World.news_of_block (Own.new w4 69 #[.string t.name, .slice a5 t.locals.length c5, .slice a6 t.body.length c6, .int .i64 t.pos])
                have hsz := World.size_alloc w4 (.cells #[.string t.name, .slice a5 t.locals.length c5, .slice a6 t.body.length c6, .int .i64 t.pos] 69)
                have hle6 := HFU.out.2

                refine dr_one 1 rfl rfl (by kernel_rfl) ?_
                refine wp_ld_ths rfl rfl (G2.cell (i := 2) (v := vT) rfl) ⟨trivial, ?_⟩
                change wpAnyH _ _ _ _ _ _ _ { tmps := #[.pointer (some ⟨c.X, 0, none⟩), undef, .pointer (some ⟨w.heap.size, 0, none⟩), .pointer (some ⟨PB, 0, none⟩), .nilFunc, .pointer (some ⟨c.X, 0, none⟩), .pointer (some ⟨c.X, 0, none⟩), .pointer (some ⟨c.X, 3, none⟩), .map (some c.D), .pointer (some ⟨c.X, 0, none⟩), .agg #[.int .u8 (c.nx k).kind, .string (c.nx k).text, .int .i64 (c.nx k).wd, .int .i64 (c.nx k).pos], .string (c.nx k).text, U0, .nilFunc, .bool false, u15, u16, u17, u18, u19, u20, u21, u22, u23, u24, u25, u26, u27, u28, u29, u30, u31, .pointer (some ⟨c.X, 0, none⟩), .bool true, .pointer (some ⟨PB, 2, none⟩), vT, .pointer (some ⟨c.X, 0, none⟩), .agg #[.string t.name, .slice a5 t.locals.length c5, .slice a6 t.body.length c6, .int .i64 t.pos], .slice (some ⟨w4.heap.size, 0, none⟩) 1 1, u39, u40, undef], defers := [] } _
                refine dr_one 5 rfl rfl (by kernel_rfl) ?_
                obtain ⟨i0, hi, hi0, hi1, hi2⟩ := info_parts infoTh
                refine wp_append_lies (w4.alloc (.cells #[.string t.name, .slice a5 t.locals.length c5, .slice a6 t.body.length c6, .int .i64 t.pos] 69)) _ _ 38 rfl w.heap.size 69 i0 _ 4 72 Tryd.underlying38 hi hi0 hi1 hi2 rfl (by decide) vT l.length xs rfl G2.rT ⟨w4.heap.size, 0, none⟩ 1 1 #[.string t.name, .slice a5 t.locals.length c5, .slice a6 t.body.length c6, .int .i64 t.pos].toList rfl rfl hnews (by simp [Value.oneCell']) (by decide) (by simp only [maxLen]; omega) (by omega) (by have := G2.run.fr.size; omega) _ rfl ?_
                intro g2 cap2 w6 hown2 hgrow2 hlies2 hlt2
                refine ⟨trivial, ?_⟩
                change wpAnyH _ _ _ _ _ _ _ { tmps := #[.pointer (some ⟨c.X, 0, none⟩), undef, .pointer (some ⟨w.heap.size, 0, none⟩), .pointer (some ⟨PB, 0, none⟩), .nilFunc, .pointer (some ⟨c.X, 0, none⟩), .pointer (some ⟨c.X, 0, none⟩), .pointer (some ⟨c.X, 3, none⟩), .map (some c.D), .pointer (some ⟨c.X, 0, none⟩), .agg #[.int .u8 (c.nx k).kind, .string (c.nx k).text, .int .i64 (c.nx k).wd, .int .i64 (c.nx k).pos], .string (c.nx k).text, U0, .nilFunc, .bool false, u15, u16, u17, u18, u19, u20, u21, u22, u23, u24, u25, u26, u27, u28, u29, u30, u31, .pointer (some ⟨c.X, 0, none⟩), .bool true, .pointer (some ⟨PB, 2, none⟩), vT, .pointer (some ⟨c.X, 0, none⟩), .agg #[.string t.name, .slice a5 t.locals.length c5, .slice a6 t.body.length c6, .int .i64 t.pos], .slice (some ⟨w4.heap.size, 0, none⟩) 1 1, .slice (some ⟨g2, 0, none⟩) (l.length + 1) cap2, u40, undef], defers := [] } _
                refine dr_take 6 (.pointer (some ⟨PB, 2, none⟩)) rfl rfl (by kernel_rfl) (by kernel_rfl) (by kernel_rfl) (fun _ _ _ h => h) (fun _ _ => by unfold execOp; go_simp) trivial ?_
                change wpAnyH _ _ _ _ _ _ _ { tmps := #[.pointer (some ⟨c.X, 0, none⟩), undef, .pointer (some ⟨w.heap.size, 0, none⟩), .pointer (some ⟨PB, 0, none⟩), .nilFunc, .pointer (some ⟨c.X, 0, none⟩), .pointer (some ⟨c.X, 0, none⟩), .pointer (some ⟨c.X, 3, none⟩), .map (some c.D), .pointer (some ⟨c.X, 0, none⟩), .agg #[.int .u8 (c.nx k).kind, .string (c.nx k).text, .int .i64 (c.nx k).wd, .int .i64 (c.nx k).pos], .string (c.nx k).text, U0, .nilFunc, .bool false, u15, u16, u17, u18, u19, u20, u21, u22, u23, u24, u25, u26, u27, u28, u29, u30, u31, .pointer (some ⟨c.X, 0, none⟩), .bool true, .pointer (some ⟨PB, 2, none⟩), vT, .pointer (some ⟨c.X, 0, none⟩), .agg #[.string t.name, .slice a5 t.locals.length c5, .slice a6 t.body.length c6, .int .i64 t.pos], .slice (some ⟨w4.heap.size, 0, none⟩) 1 1, .slice (some ⟨g2, 0, none⟩) (l.length + 1) cap2, .pointer (some ⟨PB, 2, none⟩), undef], defers := [] } _
                refine dr_one 7 rfl rfl (by kernel_rfl) ?_
                obtain ⟨B1, B2, B3⟩ := G2.grown hgrow2 hX.out
                refine wp_st_ths rfl rfl rfl (u := vT) (by rw [cell_of_row w6 _ 2 _ _ _ B3]; rfl) (own_frozen B3 2) ⟨trivial, ?_⟩
                rw [setCell_row B3 2 _]
                have G3 := Lib.hid (G2.end_ hX.out hv hgrow2 hown2 hlies2)
                have HLN := Lib.hid hlen
                refine wpAnyH_done (by kernel_rfl) ?_ _
                clear hown2 hgrow2 hlies2 B1 B2 B3 G1 G2 hlen hv hnews hsz hd5 hs6 hq hW0 hPBl hPBg hle6
                go_wp2_with fail
                go_roundg m2
                case measure => omega
                case rel => exact ⟨⟨k3, l ++ [t], _, _, G3.out, HZ.out.symm, by have := HFU.out.1; have := HLN.out; have := HLJ.out; omega, by have := HFU.out.2; have := HLN.out; have := HLJ.out; rw [List.length_append, List.length_singleton]; omega⟩, by have := HGN.out; omega⟩
end Go.Proofs.YtjpmdafaaonpoaaDoor

namespace Go.Proofs.YtjpmdafaaonpoaaDoor
open Go.RowKit
set_option linter.unusedVariables false
theorem res3 {fn : Func} {T U V : TypeId} {i j k : Tmp} (h : fn.results = #[.cell i T, .cell j U, .cell k V]) {tmps : Array Value} {P : Program} {w : World} {a b d : Addr} {x y z : Value} (ha : tmps.getD i undef = .pointer (some a)) (hb : tmps.getD j undef = .pointer (some b)) (hd : tmps.getD k undef = .pointer (some d))
    (h1 : (loadVar T a).run P w = .ok x w) (h2 : (loadVar U b).run P w = .ok y w) (h3 : (loadVar V d).run P w = .ok z w) : (results fn tmps).run P w = .ok (.tuple #[x, y, z]) w := by
  have ha' : tmps[i]?.getD undef = .pointer (some a) := by simpa using ha
  have hb' : tmps[j]?.getD undef = .pointer (some b) := by simpa using hb
  have hd' : tmps[k]?.getD undef = .pointer (some d) := by simpa using hd
  simp [results, h, ha', hb', hd', asAddr, h1, h2, h3, Result.andThen]
theorem res2 {fn : Func} {T V : TypeId} {i j k : Tmp} (h : fn.results = #[.cell i T, .tmp j, .cell k V]) {tmps : Array Value} {P : Program} {w : World} {a d : Addr} {x y z : Value} (ha : tmps.getD i undef = .pointer (some a)) (hb : tmps.getD j undef = y) (hd : tmps.getD k undef = .pointer (some d))
    (h1 : (loadVar T a).run P w = .ok x w) (h3 : (loadVar V d).run P w = .ok z w) : (results fn tmps).run P w = .ok (.tuple #[x, y, z]) w := by
  have ha' : tmps[i]?.getD undef = .pointer (some a) := by simpa using ha
  have hb' : tmps[j]?.getD undef = y := by simpa using hb
  have hd' : tmps[k]?.getD undef = .pointer (some d) := by simpa using hd
  simp [results, h, ha', hb', hd', asAddr, h1, h3, Result.andThen]
theorem lv_row {w : World} {g : Nat} {T : TypeId} {n : Nat} (hT : RowT T n) {cs : Array Value} (h : Own w g T cs) (hn : cs.size = n) : (loadVar T ⟨g, 0, none⟩).run Tryd.prog w = .ok (.agg cs) w := by
  obtain ⟨d, h1, h2, h3⟩ := hT
  exact run_loadVar_row w g T T cs (0, 0) d h h1 (by cases d <;> first | rfl | cases h2) (by rw [h3, hn])
set_option maxHeartbeats 1000000 in
theorem lv_err {w : World} {g : Nat} {z : Int} (h : Own w g 27 #[.int .i64 z]) : (loadVar 27 ⟨g, 0, none⟩).run Tryd.prog w = .ok (.int .i64 z) w := by
  have hc : w.cell? ⟨g, 0, none⟩ = some (.int .i64 z) := by rw [cell_of_row w g 0 _ _ _ h]; rfl
  go_simp
def endR {α : Type} : PR α → Option α × Int × Int × Int
  | .ok a _ => (some a, 0, 0, 0)
  | .bad p q => (none, 30, p, q)
/-- What is said of a text: a tree or none, the error, the place and the rule of the fault. -/
def wholeR {α : Type} (f : Int → List Tk → PR α) (s : ByteArray) : Option α × Int × Int × Int :=
  if 65536 < s.size then (none, 4, 0, 0) else if ¬ (frontR s).2.2 = 0 then (none, 30, (frontR s).2.1, 1) else
    endR (endP (f s.size ((scanX s).1.map Res.tk)))
def WhPost {α : Type} (w : World) (zero : Array Value) (V : Nat → α → Value → World → Prop) (r : Option α × Int × Int × Int) (e : Ending) (w' : World) : Prop :=
  Below w.heap.size w w' ∧ ∃ v, e = .returned (.tuple #[v, .int .i64 r.2.1, .agg #[.int .i64 r.2.2.1, .int .i64 r.2.2.2]]) ∧ match r.1 with | none => v = .agg zero | some a => V w.heap.size a v w'
theorem exR_stays {n m : Nat} {e : Ex} {v : Value} {w w' : World} (h : exR n e v w) (hs : Stays (fun b => n ≤ b) w w') (hm : m ≤ n) : exR m e v w' := by
  obtain ⟨a, cap, h1, h2⟩ := h
  exact ⟨a, cap, h1, exsAt_stays hs (fun b hb => Nat.le_trans hm hb) h2⟩
theorem pgR_stays {n m : Nat} {e : Pg} {v : Value} {w w' : World} (h : pgR n e v w) (hs : Stays (fun b => n ≤ b) w w') (hm : m ≤ n) : pgR m e v w' := by
  obtain ⟨a1, c1, a2, c2, a3, c3, h0, h1, h2, h3⟩ := h
  exact ⟨a1, c1, a2, c2, a3, c3, h0, dcsAt_stays hs (fun b hb => Nat.le_trans hm hb) h1, dcsAt_stays hs (fun b hb => Nat.le_trans hm hb) h2, thsAt_stays hs (fun b hb => Nat.le_trans hm hb) h3⟩
theorem fr_below {c : Par} {n : Nat} {w w' : World} (h : Fr c w w') (hX : n ≤ c.X) (hn : n ≤ w.heap.size) : Below n w w' := by
  refine ⟨Keep.os h, Keep.tape h, Keep.output h, Keep.size h, fun k hk => ?_⟩
  rw [Array.getElem?_eq_getElem (by omega : k < w.heap.size)]
  exact h.block (Array.getElem?_eq_getElem (by omega)) (by omega)
/-- Another block is set. -/
theorem Rd.setRow {c : Par} {w : World} {k : Nat} (R : Rd c w k) {g : Nat} (cs : Array Value) (h : g ≠ c.X ∧ g ≠ c.D ∧ g ≠ c.S ∧ g ≠ c.O ∧ g ≠ c.bm ∧ g ≠ c.bm + 1 ∧ g ≠ c.bn ∧ g ≠ c.bn + 1) (ht : ∀ b off, c.ta = some ⟨b, off, none⟩ → b ≠ g) (hg : 1 ≠ g ∧ 0 ≠ g) : Rd c (w.setRow g cs) k := by
  have k0 : ∀ b, b ≠ g → (w.setRow g cs).heap[b]? = w.heap[b]? := fun b hb => setRow_other cs hb
  have k1 : ∀ b o, b ≠ g → (w.setRow g cs).cell? ⟨b, o, none⟩ = w.cell? ⟨b, o, none⟩ := fun b o hb => by simp only [World.cell?, k0 b hb]
  obtain ⟨⟨tok, tne, dm, sm, om, b1, b2, b3, b4, ne, T, gne, small⟩, pos, le⟩ := R
  obtain ⟨h1, h2, h3, h4, h5, h6, h7, h8⟩ := h
  refine ⟨⟨?_, tne, (k0 _ h2.symm).trans dm, (k0 _ h3.symm).trans sm, (k0 _ h4.symm).trans om, (k0 _ h5.symm).trans b1, (k0 _ h6.symm).trans b2, (k0 _ h7.symm).trans b3, (k0 _ h8.symm).trans b4, ne, ?_, gne, small⟩, (k0 _ h1.symm).trans pos, le⟩
  · obtain ⟨oa, cap, hu, hc⟩ := tok
    refine ⟨oa, cap, hu, fun i x hx => ?_⟩
    obtain ⟨b, off, ho, a0, a1, a2, a3⟩ := hc i x hx
    obtain ⟨rfl, _, _⟩ : c.ta = oa ∧ c.toks.length = c.toks.length ∧ c.cap = cap := by cases hu; exact ⟨rfl, rfl, rfl⟩
    have hb := ht b off ho
    exact ⟨b, off, ho, (k1 _ _ hb).trans a0, (k1 _ _ hb).trans a1, (k1 _ _ hb).trans a2, (k1 _ _ hb).trans a3⟩
  · have s1 := T.size1
    have s2 := T.size2
    exact ⟨by rw [size_setRow]; exact s1, by rw [size_setRow]; exact s2, fun i hi => (k1 _ _ hg.1).trans (T.lev i hi), fun i hi => (k1 _ _ hg.2).trans (T.sgn i hi)⟩
theorem leaves_tmps {P : Program} {fn : Func} {R : Ending → World → Prop} {t1 t2 : Array Value} (h : results fn t1 = results fn t2) : ∀ (ds : List Deferred) (u : FrameMode) (w : World), Leaves P fn t1 R ds u w → Leaves P fn t2 R ds u w
  | [], .returning, w, k => by
    obtain ⟨v, h1, h2⟩ := k
    exact ⟨v, by rw [← h]; exact h1, h2⟩
  | [], .panicking c, w, k => k
  | [], .run, w, k => k
  | d :: ds, u, w, k => by
    obtain ⟨h1, fv, cap, f, args, h2, h3, h4⟩ := k
    refine ⟨h1, fv, cap, f, args, h2, h3, h4.mono fun e u' w' he => ?_⟩
    cases e with
    | returned v => exact leaves_tmps h ds _ _ he
    | panicked c => exact leaves_tmps h ds _ _ he
    | outgrown => exact he
theorem post_put {P : Program} {fn : Func} {R : Ending → World → Prop} {i j k d : Nat} {T U V : TypeId} (h : fn.results = #[.cell i T, .cell j U, .cell k V]) (hd : d ≠ i ∧ d ≠ j ∧ d ≠ k) (c : List PanicEntry) (a : Act) (w : World) (v : Value) (hq : bodyPostD P fn R (.panic c) (a.put (some d) v) w) : bodyPostD P fn R (.panic c) a w := by
  have e : results fn (a.put (some d) v).tmps = results fn a.tmps := by
    unfold results
    rw [h]
    simp only [Act.put]
    simp [Array.getElem?_setIfInBounds, hd.1, hd.2.1, hd.2.2]
  exact leaves_tmps e _ _ _ hq
theorem scan_long {s : ByteArray} (h : 65536 < s.size) : scanX s = ([], 4, 0, 0) := by unfold scanX; rw [if_pos h]
theorem scan_lex {s : ByteArray} (h : ¬ 65536 < s.size) (hf : ¬ (frontR s).2.2 = 0) : scanX s = ([], 20, (frontR s).2.1, (frontR s).2.2) := by unfold scanX; rw [if_neg h, if_neg hf]
theorem scan_toks {s : ByteArray} (h : ¬ 65536 < s.size) (hf : (frontR s).2.2 = 0) : scanX s = ((frontR s).1, 0, 0, 0) := by unfold scanX; rw [if_neg h, if_pos hf]
theorem run_ld_err {o : Oper} {a : Act} {w : World} {x : Operand} (ho : o.op = .load 27 x) {g : Nat} (hx : a.eval x = .pointer (some ⟨g, 0, none⟩)) {z : Int} (hg : Own w g 27 #[.int .i64 z]) : (execOp a.eval o).run Tryd.prog w = .ok (.value (.int .i64 z)) w := by
  have hc : w.cell? ⟨g, 0, none⟩ = some (.int .i64 z) := by rw [cell_of_row w g 0 _ _ _ hg]; rfl
  unfold execOp
  simp only [ho, hx]
  go_simp
theorem run_ld_int {o : Oper} {a : Act} {w : World} {x : Operand} (ho : o.op = .load 3 x) {p : Addr} (hx : a.eval x = .pointer (some p)) {v : Value} (hc : w.cell? p = some v) : (execOp a.eval o).run Tryd.prog w = .ok (.value v) w := by
  unfold execOp
  simp only [ho, hx]
  go_simp
set_option maxHeartbeats 1000000 in
theorem wp_st_errv {o : Oper} {a : Act} {w : World} {K : Act → World → Prop} {Q : Exit → Act → World → Prop} {x y : Operand} {z u : Int} (ho : o.op = .store 27 x y) {p : Addr} (hx : a.eval x = .pointer (some p)) (hy : a.eval y = .int .i64 z) (hu : w.cell? p = some (.int .i64 u)) (hf : w.frozen? p = false) (h : K (a.put o.dst undef) (w.setCell p (.int .i64 z))) : o.wp Tryd.prog a w K Q := by
  have hrun : (execOp a.eval o).run Tryd.prog w = .ok .skip (w.setCell p (.int .i64 z)) := by
    unfold execOp
    simp only [ho, hx, hy]
    go_simp
  unfold Oper.wp
  rw [hrun]
  exact h
set_option maxRecDepth 100000 in
set_option maxHeartbeats 1000000 in
theorem idle_E (x y z : Value) (w : World) : CallsD Tryd.prog 34 #[x, y, z] .returning w fun e u' w' => e = .returned (.tuple #[]) ∧ u' = .returning ∧ w' = w := by
  have hnil := any_nil
  refine callsD_of_wpS Tryd.func34 rfl fun c₀ cs hu => ?_
  apply wpS_seq
  apply wpS_region
  simp [wpOpsS, go_sem, recoverD, hu, Tryd.ntmps34, Exit.thenS]
  rw [show (#[x, y, z] ++ (((Array.replicate 17 undef).setIfInBounds 4 .nilIface).setIfInBounds 0 .nilIface) : Array Value) = #[x, y, z, .nilIface, undef, undef, undef, .nilIface, undef, undef, undef, undef, undef, undef, undef, undef, undef, undef, undef, undef] from by kernel_rfl]
  refine wpS_of_wp ?_
  generalize hQ : (fun e a' w' => bodyPostS _ _ _ _ _ e a' _ w') = Q
  go_wp2
  subst hQ
  cases c₀
  simp_all [bodyPostS, results, Tryd.results34]
set_option maxRecDepth 100000 in
set_option maxHeartbeats 8000000 in
theorem wh_long_E (s : ByteArray) {w : World} (T : LTabs w) (TW : Tabs w) (hl : 65536 < s.size) :
    Calls Tryd.prog 19 #[.string s, .func (.func 20) #[] #[]] w (WhPost w zEx exR (wholeR (fun L ts => binE fnd L (fuel ts) 1 0 ts) s)) := by
  obtain ⟨R, hR⟩ : ∃ R, R = wholeR (fun L ts => binE fnd L (fuel ts) 1 0 ts) s := ⟨_, rfl⟩
  rw [← hR]
  have HR : Hid (R = (none, 4, 0, 0)) := by rw [Hid, hR]; unfold wholeR; rw [if_pos hl]
  clear hR
  have HT := Lib.hid (And.intro T TW)
  have HSC : Hid (∀ W, LTabs W → Calls Tryd.prog 13 #[.string s] W fun e w' => ∃ u, e = .returned (.tuple #[u, .int .i64 4, .agg #[.int .i64 0, .int .i64 0]]) ∧ w'.ownsRow W.heap.size 49 4 u (scanX s).1.length (rowR (scanX s).1) ∧ (u = .slice none 0 0 ↔ (scanX s).1 = []) ∧ Below W.heap.size W w') := fun W TW => by have := scan_row s TW; rw [scan_long hl] at this ⊢; exact this
  have O1 := ((Own.new w 26 zEx).alloc (.cells #[.int .i64 0] 27)).alloc (.cells #[.int .i64 0, .int .i64 0] 29)
  have O2 := (Own.new (w.alloc (.cells zEx 26)) 27 #[.int .i64 0]).alloc (.cells #[.int .i64 0, .int .i64 0] 29)
  have O3 := Own.new ((w.alloc (.cells zEx 26)).alloc (.cells #[.int .i64 0] 27)) 29 #[.int .i64 0, .int .i64 0]
  have B0 : Below w.heap.size w (((w.alloc (.cells zEx 26)).alloc (.cells #[.int .i64 0] 27)).alloc (.cells #[.int .i64 0, .int .i64 0] 29)) := (((Below.refl _ w).alloc (Nat.le_refl _) _).alloc (by simp only [World.size_alloc]; omega) _).alloc (by simp only [World.size_alloc]; omega) _
  have z0 : Hid ((((w.alloc (.cells zEx 26)).alloc (.cells #[.int .i64 0] 27)).alloc (.cells #[.int .i64 0, .int .i64 0] 29)).heap.size = w.heap.size + 3) := by simp only [Hid, World.size_alloc]
  rw [World.size_alloc] at O2
  rw [World.size_alloc, World.size_alloc] at O3
  have hmf : ∀ (fn : Fn) (first cap : Array Value) (w : World), (Instr.makeFunc fn first cap).run Tryd.prog w = .ok (.func fn first cap) w := fun _ _ _ _ => rfl
  clear T TW
  unfold zEx at *
  go_enter_defers Tryd.func19, Tryd.ntmps19
  go_wp2_with fail
  obtain ⟨W0, hW0⟩ : ∃ W, W = (((w.alloc (.cells #[.int .u8 0, .int .u8 0, .int .i64 0, .string ⟨#[]⟩, .slice none 0 0, .int .i64 0] 26)).alloc (.cells #[.int .i64 0] 27)).alloc (.cells #[.int .i64 0, .int .i64 0] 29)) := ⟨_, rfl⟩
  rw [← hW0] at O1 O2 O3 B0 z0 ⊢
  clear hW0
  go_at_call 13
  refine (HSC.out _ (HT.out.1.below (Nat.le_refl _) B0)).mono ?_
  rintro e w1 ⟨u, rfl, hrow, hnil, hb1⟩
  have O1 := O1.below hb1
  have O2 := O2.below hb1
  have O3 := O3.below hb1
  have B1 := Lib.hid (B0.trans (hb1.mono (by have := z0.out; omega)))
  have z1 : Hid (w.heap.size + 3 ≤ w1.heap.size) := by have := hb1.size; have := z0.out; simp only [Hid]; omega
  have e5 : w1.setCell ⟨w.heap.size + 1, 0, none⟩ (.int .i64 4) = w1.setRow (w.heap.size + 1) #[.int .i64 4] := setCell_row O2 0 _
  have O1 := O1.other (g := w.heap.size + 1) #[.int .i64 4] (by omega)
  have O2' := O2.row #[.int .i64 4]
  have O3 := O3.other (g := w.heap.size + 1) #[.int .i64 4] (by omega)
  have c5 : w1.cell? ⟨w.heap.size + 1, 0, none⟩ = some (.int .i64 0) := by rw [cell_of_row _ _ 0 _ _ _ O2]; rfl
  have f5 := own_frozen O2 0
  have O1 := Lib.hid (O1.other (g := w.heap.size + 1 + 1) #[.int .i64 0, .int .i64 0] (by omega))
  have O2 := Lib.hid (O2'.other (g := w.heap.size + 1 + 1) #[.int .i64 0, .int .i64 0] (by omega))
  have O4 := Lib.hid (O3.row #[.int .i64 0, .int .i64 0])
  have B2 := Lib.hid (Below.of_row (Below.of_row B1.out (g := w.heap.size + 1) (by omega) #[.int .i64 4]) (g := w.heap.size + 1 + 1) (by omega) #[.int .i64 0, .int .i64 0])
  have z2 : Hid (((w1.setRow (w.heap.size + 1) #[.int .i64 4]).setRow (w.heap.size + 1 + 1) #[.int .i64 0, .int .i64 0]).heap.size = w1.heap.size) := by rw [Hid, size_setRow, size_setRow]
  have RW : Hid (((w1.setRow (w.heap.size + 1) #[.int .i64 4]).setRow (w.heap.size + 1 + 1) #[.int .i64 0, .int .i64 0]).ownsRow (w.heap.size + 3) 49 4 u (scanX s).1.length (rowR (scanX s).1)) := by
    have hrow := ownsRow_base hrow (base' := w.heap.size + 3) (by have := z0.out; omega)
    exact row_row (row_row hrow _ (fun e => by have := (hrow.lt _ e).1; omega)) _ (fun e => by have := (hrow.lt _ e).1; omega)
  clear hrow B0 O2' z0 hb1
  have HNIL := Lib.hid hnil
  clear hnil
  go_upto_region 2 with (first | (refine st rowFl rfl rfl O3 rfl rfl (by rfl) (by rfl) (by kernel_rfl) ?_))
  obtain ⟨W2, hW2⟩ : ∃ W, W = ((w1.setRow (w.heap.size + 1) #[.int .i64 4]).setRow (w.heap.size + 1 + 1) #[.int .i64 0, .int .i64 0]) := ⟨_, rfl⟩
  rw [← hW2] at O1 O2 O4 B2 z2 RW ⊢
  clear hW2 O3 e5 c5 f5
  have c5 : W2.cell? ⟨w.heap.size + 1, 0, none⟩ = some (.int .i64 4) := by rw [cell_of_row _ _ 0 _ _ _ O2.out]; rfl
  go_upto_region 3 with (fail)
  clear c5
  refine wp_region_held (S := fun W => Own W w.heap.size 26 #[.int .u8 0, .int .u8 0, .int .i64 0, .string ⟨#[]⟩, .slice none 0 0, .int .i64 0] ∧ Own W (w.heap.size + 1) 27 #[.int .i64 4]) (by kernel_rfl) ?_
  change wpAnyH _ _ _ _ _ _ _ _ W2.drew
  have o1 : Own W2.drew _ _ _ := O1.out
  have o2 : Own W2.drew _ _ _ := O2.out
  have o4 : Own W2.drew _ _ _ := O4.out
  have B3 := B2.out.drew
  generalize W2.drew = W3 at o1 o2 o4 B3 ⊢
  have S3 := And.intro o1 o2
  refine dr_take 0 (.agg #[.int .u8 0, .int .u8 0, .int .i64 0, .string ⟨#[]⟩, .slice none 0 0, .int .i64 0]) rfl rfl (by kernel_rfl) (by kernel_rfl) (by kernel_rfl) (fun c a w h => post_put rfl (by decide) c a w _ h) (fun W h => run_ld rowEx rfl rfl h.1 rfl) S3 ?_
  change wpAnyH _ _ _ _ _ _ _ { tmps := #[.string s, .func (.func 20) #[] #[], undef, undef, .pointer (some ⟨w.heap.size, 0, none⟩), .pointer (some ⟨w.heap.size + 1, 0, none⟩), .pointer (some ⟨w.heap.size + 1 + 1, 0, none⟩), u, undef, .tuple #[u, .int .i64 4, .agg #[.int .i64 0, .int .i64 0]], .string s, .tuple #[u, .int .i64 4, .agg #[.int .i64 0, .int .i64 0]], u, .int .i64 4, .agg #[.int .i64 0, .int .i64 0], .int .i64 4, .bool true, .agg #[.int .u8 0, .int .u8 0, .int .i64 0, .string ⟨#[]⟩, .slice none 0 0, .int .i64 0], undef, undef, undef, undef, undef, undef, undef, undef, undef, undef, undef, undef, undef, undef, undef, undef, undef, undef, undef, undef], defers := [] } _
  refine dr_take 1 (.int .i64 4) rfl rfl (by kernel_rfl) (by kernel_rfl) (by kernel_rfl) (fun c a w h => post_put rfl (by decide) c a w _ h) (fun W h => run_ld_err rfl rfl h.2) S3 ?_
  change wpAnyH _ _ _ _ _ _ _ { tmps := #[.string s, .func (.func 20) #[] #[], undef, undef, .pointer (some ⟨w.heap.size, 0, none⟩), .pointer (some ⟨w.heap.size + 1, 0, none⟩), .pointer (some ⟨w.heap.size + 1 + 1, 0, none⟩), u, undef, .tuple #[u, .int .i64 4, .agg #[.int .i64 0, .int .i64 0]], .string s, .tuple #[u, .int .i64 4, .agg #[.int .i64 0, .int .i64 0]], u, .int .i64 4, .agg #[.int .i64 0, .int .i64 0], .int .i64 4, .bool true, .agg #[.int .u8 0, .int .u8 0, .int .i64 0, .string ⟨#[]⟩, .slice none 0 0, .int .i64 0], .int .i64 4, undef, undef, undef, undef, undef, undef, undef, undef, undef, undef, undef, undef, undef, undef, undef, undef, undef, undef, undef], defers := [] } _
  refine dr_take 2 (.agg #[.int .i64 0, .int .i64 0]) rfl rfl (by kernel_rfl) (by kernel_rfl) (by kernel_rfl) (fun c a w h => post_put rfl (by decide) c a w _ h) (fun W h => by unfold execOp; go_simp) S3 ?_
  change wpAnyH _ _ _ _ _ _ _ { tmps := #[.string s, .func (.func 20) #[] #[], undef, undef, .pointer (some ⟨w.heap.size, 0, none⟩), .pointer (some ⟨w.heap.size + 1, 0, none⟩), .pointer (some ⟨w.heap.size + 1 + 1, 0, none⟩), u, undef, .tuple #[u, .int .i64 4, .agg #[.int .i64 0, .int .i64 0]], .string s, .tuple #[u, .int .i64 4, .agg #[.int .i64 0, .int .i64 0]], u, .int .i64 4, .agg #[.int .i64 0, .int .i64 0], .int .i64 4, .bool true, .agg #[.int .u8 0, .int .u8 0, .int .i64 0, .string ⟨#[]⟩, .slice none 0 0, .int .i64 0], .int .i64 4, .agg #[.int .i64 0, .int .i64 0], undef, undef, undef, undef, undef, undef, undef, undef, undef, undef, undef, undef, undef, undef, undef, undef, undef, undef], defers := [] } _
  refine dr_one 3 rfl rfl (by kernel_rfl) ?_
  refine wp_st_row (cs := #[.int .u8 0, .int .u8 0, .int .i64 0, .string ⟨#[]⟩, .slice none 0 0, .int .i64 0]) rowEx rfl o1 rfl rfl rfl rfl (by kernel_rfl) ?_
  have o1 := o1.row #[.int .u8 0, .int .u8 0, .int .i64 0, .string ⟨#[]⟩, .slice none 0 0, .int .i64 0]
  have o2 := o2.other (g := w.heap.size) #[.int .u8 0, .int .u8 0, .int .i64 0, .string ⟨#[]⟩, .slice none 0 0, .int .i64 0] (by omega)
  have o4 := o4.other (g := w.heap.size) #[.int .u8 0, .int .u8 0, .int .i64 0, .string ⟨#[]⟩, .slice none 0 0, .int .i64 0] (by omega)
  have B3 := Below.of_row B3 (g := w.heap.size) (by omega) #[.int .u8 0, .int .u8 0, .int .i64 0, .string ⟨#[]⟩, .slice none 0 0, .int .i64 0]
  refine ⟨⟨o1, o2⟩, ?_⟩
  change wpAnyH _ _ _ _ _ _ _ { tmps := #[.string s, .func (.func 20) #[] #[], undef, undef, .pointer (some ⟨w.heap.size, 0, none⟩), .pointer (some ⟨w.heap.size + 1, 0, none⟩), .pointer (some ⟨w.heap.size + 1 + 1, 0, none⟩), u, undef, .tuple #[u, .int .i64 4, .agg #[.int .i64 0, .int .i64 0]], .string s, .tuple #[u, .int .i64 4, .agg #[.int .i64 0, .int .i64 0]], u, .int .i64 4, .agg #[.int .i64 0, .int .i64 0], .int .i64 4, .bool true, .agg #[.int .u8 0, .int .u8 0, .int .i64 0, .string ⟨#[]⟩, .slice none 0 0, .int .i64 0], .int .i64 4, .agg #[.int .i64 0, .int .i64 0], undef, undef, undef, undef, undef, undef, undef, undef, undef, undef, undef, undef, undef, undef, undef, undef, undef, undef], defers := [] } _
  refine dr_one 4 rfl rfl (by kernel_rfl) ?_
  refine wp_st_errv (u := 4) rfl rfl rfl (by rw [cell_of_row _ _ 0 _ _ _ o2]; rfl) (own_frozen o2 0) ?_
  rw [show (W3.setRow w.heap.size #[.int .u8 0, .int .u8 0, .int .i64 0, .string ⟨#[]⟩, .slice none 0 0, .int .i64 0]).setCell ⟨w.heap.size + 1, 0, none⟩ (.int .i64 4) = (W3.setRow w.heap.size #[.int .u8 0, .int .u8 0, .int .i64 0, .string ⟨#[]⟩, .slice none 0 0, .int .i64 0]).setRow (w.heap.size + 1) #[.int .i64 4] from setCell_row o2 0 _]
  have o1 := o1.other (g := w.heap.size + 1) #[.int .i64 4] (by omega)
  have o2 := o2.row #[.int .i64 4]
  have o4 := o4.other (g := w.heap.size + 1) #[.int .i64 4] (by omega)
  have B3 := Below.of_row B3 (g := w.heap.size + 1) (by omega) #[.int .i64 4]
  refine ⟨⟨o1, o2⟩, ?_⟩
  change wpAnyH _ _ _ _ _ _ _ { tmps := #[.string s, .func (.func 20) #[] #[], undef, undef, .pointer (some ⟨w.heap.size, 0, none⟩), .pointer (some ⟨w.heap.size + 1, 0, none⟩), .pointer (some ⟨w.heap.size + 1 + 1, 0, none⟩), u, undef, .tuple #[u, .int .i64 4, .agg #[.int .i64 0, .int .i64 0]], .string s, .tuple #[u, .int .i64 4, .agg #[.int .i64 0, .int .i64 0]], u, .int .i64 4, .agg #[.int .i64 0, .int .i64 0], .int .i64 4, .bool true, .agg #[.int .u8 0, .int .u8 0, .int .i64 0, .string ⟨#[]⟩, .slice none 0 0, .int .i64 0], .int .i64 4, .agg #[.int .i64 0, .int .i64 0], undef, undef, undef, undef, undef, undef, undef, undef, undef, undef, undef, undef, undef, undef, undef, undef, undef, undef], defers := [] } _
  refine dr_one 5 rfl rfl (by kernel_rfl) ?_
  refine wp_st_row (cs := #[.int .i64 0, .int .i64 0]) rowFl rfl o4 rfl rfl rfl rfl (by kernel_rfl) ?_
  have o1 := Lib.hid (o1.other (g := w.heap.size + 1 + 1) #[.int .i64 0, .int .i64 0] (by omega))
  have o2 := Lib.hid (o2.other (g := w.heap.size + 1 + 1) #[.int .i64 0, .int .i64 0] (by omega))
  have o4 := Lib.hid (o4.row #[.int .i64 0, .int .i64 0])
  have B3 := Lib.hid (Below.of_row B3 (g := w.heap.size + 1 + 1) (by omega) #[.int .i64 0, .int .i64 0])
  refine ⟨⟨o1.out, o2.out⟩, ?_⟩
  clear S3
  refine wpAnyH_done (by kernel_rfl) ?_ _
  go_wp2_with fail
  refine ⟨_, res3 rfl rfl rfl rfl (lv_row rowEx o1.out rfl) (lv_err o2.out) (lv_row rowFl o4.out rfl), B3.out, ?_⟩
  rw [HR.out]
  exact ⟨_, rfl, rfl⟩
set_option maxRecDepth 100000 in
set_option maxHeartbeats 8000000 in
theorem wh_lex_E (s : ByteArray) {w : World} (T : LTabs w) (TW : Tabs w) (hl : ¬ 65536 < s.size) (hf : ¬ (frontR s).2.2 = 0) :
    Calls Tryd.prog 19 #[.string s, .func (.func 20) #[] #[]] w (WhPost w zEx exR (wholeR (fun L ts => binE fnd L (fuel ts) 1 0 ts) s)) := by
  obtain ⟨R, hR⟩ : ∃ R, R = wholeR (fun L ts => binE fnd L (fuel ts) 1 0 ts) s := ⟨_, rfl⟩
  rw [← hR]
  obtain ⟨pa, hpa⟩ : ∃ a, a = (frontR s).2.1 := ⟨_, rfl⟩
  obtain ⟨ru, hru⟩ : ∃ a, a = (frontR s).2.2 := ⟨_, rfl⟩
  have HR : Hid (R = (none, 30, pa, 1)) := by rw [Hid, hR, hpa]; unfold wholeR; rw [if_neg hl, if_pos hf]
  clear hR
  have HT := Lib.hid (And.intro T TW)
  have HSC : Hid (∀ W, LTabs W → Calls Tryd.prog 13 #[.string s] W fun e w' => ∃ u, e = .returned (.tuple #[u, .int .i64 20, .agg #[.int .i64 pa, .int .i64 ru]]) ∧ w'.ownsRow W.heap.size 49 4 u (scanX s).1.length (rowR (scanX s).1) ∧ (u = .slice none 0 0 ↔ (scanX s).1 = []) ∧ Below W.heap.size W w') := fun W TW => by have := scan_row s TW; rw [scan_lex hl hf] at this ⊢; rw [hpa, hru]; exact this
  clear hpa hru hf hl
  have O1 := ((Own.new w 26 zEx).alloc (.cells #[.int .i64 0] 27)).alloc (.cells #[.int .i64 0, .int .i64 0] 29)
  have O2 := (Own.new (w.alloc (.cells zEx 26)) 27 #[.int .i64 0]).alloc (.cells #[.int .i64 0, .int .i64 0] 29)
  have O3 := Own.new ((w.alloc (.cells zEx 26)).alloc (.cells #[.int .i64 0] 27)) 29 #[.int .i64 0, .int .i64 0]
  have B0 : Below w.heap.size w (((w.alloc (.cells zEx 26)).alloc (.cells #[.int .i64 0] 27)).alloc (.cells #[.int .i64 0, .int .i64 0] 29)) := (((Below.refl _ w).alloc (Nat.le_refl _) _).alloc (by simp only [World.size_alloc]; omega) _).alloc (by simp only [World.size_alloc]; omega) _
  have z0 : Hid ((((w.alloc (.cells zEx 26)).alloc (.cells #[.int .i64 0] 27)).alloc (.cells #[.int .i64 0, .int .i64 0] 29)).heap.size = w.heap.size + 3) := by simp only [Hid, World.size_alloc]
  rw [World.size_alloc] at O2
  rw [World.size_alloc, World.size_alloc] at O3
  have hmf : ∀ (fn : Fn) (first cap : Array Value) (w : World), (Instr.makeFunc fn first cap).run Tryd.prog w = .ok (.func fn first cap) w := fun _ _ _ _ => rfl
  clear T TW
  unfold zEx at *
  go_enter_defers Tryd.func19, Tryd.ntmps19
  go_wp2_with fail
  obtain ⟨W0, hW0⟩ : ∃ W, W = (((w.alloc (.cells #[.int .u8 0, .int .u8 0, .int .i64 0, .string ⟨#[]⟩, .slice none 0 0, .int .i64 0] 26)).alloc (.cells #[.int .i64 0] 27)).alloc (.cells #[.int .i64 0, .int .i64 0] 29)) := ⟨_, rfl⟩
  rw [← hW0] at O1 O2 O3 B0 z0 ⊢
  clear hW0
  go_at_call 13
  refine (HSC.out _ (HT.out.1.below (Nat.le_refl _) B0)).mono ?_
  rintro e w1 ⟨u, rfl, hrow, hnil, hb1⟩
  have O1 := O1.below hb1
  have O2 := O2.below hb1
  have O3 := O3.below hb1
  have B1 := Lib.hid (B0.trans (hb1.mono (by have := z0.out; omega)))
  have z1 : Hid (w.heap.size + 3 ≤ w1.heap.size) := by have := hb1.size; have := z0.out; simp only [Hid]; omega
  have e5 : w1.setCell ⟨w.heap.size + 1, 0, none⟩ (.int .i64 20) = w1.setRow (w.heap.size + 1) #[.int .i64 20] := setCell_row O2 0 _
  have O1 := O1.other (g := w.heap.size + 1) #[.int .i64 20] (by omega)
  have O2' := O2.row #[.int .i64 20]
  have O3 := O3.other (g := w.heap.size + 1) #[.int .i64 20] (by omega)
  have c5 : w1.cell? ⟨w.heap.size + 1, 0, none⟩ = some (.int .i64 0) := by rw [cell_of_row _ _ 0 _ _ _ O2]; rfl
  have f5 := own_frozen O2 0
  have O1 := Lib.hid (O1.other (g := w.heap.size + 1 + 1) #[.int .i64 pa, .int .i64 ru] (by omega))
  have O2 := Lib.hid (O2'.other (g := w.heap.size + 1 + 1) #[.int .i64 pa, .int .i64 ru] (by omega))
  have O4 := Lib.hid (O3.row #[.int .i64 pa, .int .i64 ru])
  have B2 := Lib.hid (Below.of_row (Below.of_row B1.out (g := w.heap.size + 1) (by omega) #[.int .i64 20]) (g := w.heap.size + 1 + 1) (by omega) #[.int .i64 pa, .int .i64 ru])
  have z2 : Hid (((w1.setRow (w.heap.size + 1) #[.int .i64 20]).setRow (w.heap.size + 1 + 1) #[.int .i64 pa, .int .i64 ru]).heap.size = w1.heap.size) := by rw [Hid, size_setRow, size_setRow]
  have RW : Hid (((w1.setRow (w.heap.size + 1) #[.int .i64 20]).setRow (w.heap.size + 1 + 1) #[.int .i64 pa, .int .i64 ru]).ownsRow (w.heap.size + 3) 49 4 u (scanX s).1.length (rowR (scanX s).1)) := by
    have hrow := ownsRow_base hrow (base' := w.heap.size + 3) (by have := z0.out; omega)
    exact row_row (row_row hrow _ (fun e => by have := (hrow.lt _ e).1; omega)) _ (fun e => by have := (hrow.lt _ e).1; omega)
  clear hrow B0 O2' z0 hb1
  have HNIL := Lib.hid hnil
  clear hnil
  go_upto_region 2 with (first | (refine st rowFl rfl rfl O3 rfl rfl (by rfl) (by rfl) (by kernel_rfl) ?_))
  obtain ⟨W2, hW2⟩ : ∃ W, W = ((w1.setRow (w.heap.size + 1) #[.int .i64 20]).setRow (w.heap.size + 1 + 1) #[.int .i64 pa, .int .i64 ru]) := ⟨_, rfl⟩
  rw [← hW2] at O1 O2 O4 B2 z2 RW ⊢
  clear hW2 O3 e5 c5 f5
  have c5 : W2.cell? ⟨w.heap.size + 1, 0, none⟩ = some (.int .i64 20) := by rw [cell_of_row _ _ 0 _ _ _ O2.out]; rfl
  go_upto_region 5 with (fail)
  clear c5
  refine wp_region_held (S := fun W => Own W w.heap.size 26 #[.int .u8 0, .int .u8 0, .int .i64 0, .string ⟨#[]⟩, .slice none 0 0, .int .i64 0] ∧ W.cell? ⟨w.heap.size + 1 + 1, 0, none⟩ = some (.int .i64 pa)) (by kernel_rfl) ?_
  change wpAnyH _ _ _ _ _ _ _ _ W2.drew
  have o1 : Own W2.drew _ _ _ := O1.out
  have o2 : Own W2.drew _ _ _ := O2.out
  have o4 : Own W2.drew _ _ _ := O4.out
  have B3 := B2.out.drew
  generalize W2.drew = W3 at o1 o2 o4 B3 ⊢
  have S3 : Own W3 w.heap.size 26 #[.int .u8 0, .int .u8 0, .int .i64 0, .string ⟨#[]⟩, .slice none 0 0, .int .i64 0] ∧ W3.cell? ⟨w.heap.size + 1 + 1, 0, none⟩ = some (.int .i64 pa) := ⟨o1, by rw [cell_of_row _ _ 0 _ _ _ o4]; rfl⟩
  refine dr_take 0 (.agg #[.int .u8 0, .int .u8 0, .int .i64 0, .string ⟨#[]⟩, .slice none 0 0, .int .i64 0]) rfl rfl (by kernel_rfl) (by kernel_rfl) (by kernel_rfl) (fun c a w h => post_put rfl (by decide) c a w _ h) (fun W h => run_ld rowEx rfl rfl h.1 rfl) S3 ?_
  change wpAnyH _ _ _ _ _ _ _ { tmps := #[.string s, .func (.func 20) #[] #[], undef, undef, .pointer (some ⟨w.heap.size, 0, none⟩), .pointer (some ⟨w.heap.size + 1, 0, none⟩), .pointer (some ⟨w.heap.size + 1 + 1, 0, none⟩), u, undef, .tuple #[u, .int .i64 20, .agg #[.int .i64 pa, .int .i64 ru]], .string s, .tuple #[u, .int .i64 20, .agg #[.int .i64 pa, .int .i64 ru]], u, .int .i64 20, .agg #[.int .i64 pa, .int .i64 ru], .int .i64 20, .bool false, undef, undef, undef, .int .i64 20, .bool true, .agg #[.int .u8 0, .int .u8 0, .int .i64 0, .string ⟨#[]⟩, .slice none 0 0, .int .i64 0], undef, undef, undef, undef, undef, undef, undef, undef, undef, undef, undef, undef, undef, undef, undef], defers := [] } _
  refine dr_take 1 (.pointer (some ⟨w.heap.size + 1 + 1, 0, none⟩)) rfl rfl (by kernel_rfl) (by kernel_rfl) (by kernel_rfl) (fun c a w h => post_put rfl (by decide) c a w _ h) (fun W h => by unfold execOp; go_simp) S3 ?_
  change wpAnyH _ _ _ _ _ _ _ { tmps := #[.string s, .func (.func 20) #[] #[], undef, undef, .pointer (some ⟨w.heap.size, 0, none⟩), .pointer (some ⟨w.heap.size + 1, 0, none⟩), .pointer (some ⟨w.heap.size + 1 + 1, 0, none⟩), u, undef, .tuple #[u, .int .i64 20, .agg #[.int .i64 pa, .int .i64 ru]], .string s, .tuple #[u, .int .i64 20, .agg #[.int .i64 pa, .int .i64 ru]], u, .int .i64 20, .agg #[.int .i64 pa, .int .i64 ru], .int .i64 20, .bool false, undef, undef, undef, .int .i64 20, .bool true, .agg #[.int .u8 0, .int .u8 0, .int .i64 0, .string ⟨#[]⟩, .slice none 0 0, .int .i64 0], .pointer (some ⟨w.heap.size + 1 + 1, 0, none⟩), undef, undef, undef, undef, undef, undef, undef, undef, undef, undef, undef, undef, undef, undef], defers := [] } _
  refine dr_take 2 (.int .i64 pa) rfl rfl (by kernel_rfl) (by kernel_rfl) (by kernel_rfl) (fun c a w h => post_put rfl (by decide) c a w _ h) (fun W h => run_ld_int rfl rfl h.2) S3 ?_
  change wpAnyH _ _ _ _ _ _ _ { tmps := #[.string s, .func (.func 20) #[] #[], undef, undef, .pointer (some ⟨w.heap.size, 0, none⟩), .pointer (some ⟨w.heap.size + 1, 0, none⟩), .pointer (some ⟨w.heap.size + 1 + 1, 0, none⟩), u, undef, .tuple #[u, .int .i64 20, .agg #[.int .i64 pa, .int .i64 ru]], .string s, .tuple #[u, .int .i64 20, .agg #[.int .i64 pa, .int .i64 ru]], u, .int .i64 20, .agg #[.int .i64 pa, .int .i64 ru], .int .i64 20, .bool false, undef, undef, undef, .int .i64 20, .bool true, .agg #[.int .u8 0, .int .u8 0, .int .i64 0, .string ⟨#[]⟩, .slice none 0 0, .int .i64 0], .pointer (some ⟨w.heap.size + 1 + 1, 0, none⟩), .int .i64 pa, undef, undef, undef, undef, undef, undef, undef, undef, undef, undef, undef, undef, undef], defers := [] } _
  refine dr_take 3 (.agg #[.int .i64 pa, .int .i64 1]) rfl rfl (by kernel_rfl) (by kernel_rfl) (by kernel_rfl) (fun c a w h => post_put rfl (by decide) c a w _ h) (fun W h => by unfold execOp; go_simp) S3 ?_
  change wpAnyH _ _ _ _ _ _ _ { tmps := #[.string s, .func (.func 20) #[] #[], undef, undef, .pointer (some ⟨w.heap.size, 0, none⟩), .pointer (some ⟨w.heap.size + 1, 0, none⟩), .pointer (some ⟨w.heap.size + 1 + 1, 0, none⟩), u, undef, .tuple #[u, .int .i64 20, .agg #[.int .i64 pa, .int .i64 ru]], .string s, .tuple #[u, .int .i64 20, .agg #[.int .i64 pa, .int .i64 ru]], u, .int .i64 20, .agg #[.int .i64 pa, .int .i64 ru], .int .i64 20, .bool false, undef, undef, undef, .int .i64 20, .bool true, .agg #[.int .u8 0, .int .u8 0, .int .i64 0, .string ⟨#[]⟩, .slice none 0 0, .int .i64 0], .pointer (some ⟨w.heap.size + 1 + 1, 0, none⟩), .int .i64 pa, .agg #[.int .i64 pa, .int .i64 1], undef, undef, undef, undef, undef, undef, undef, undef, undef, undef, undef, undef], defers := [] } _
  refine dr_one 4 rfl rfl (by kernel_rfl) ?_
  refine wp_st_row (cs := #[.int .u8 0, .int .u8 0, .int .i64 0, .string ⟨#[]⟩, .slice none 0 0, .int .i64 0]) rowEx rfl o1 rfl rfl rfl rfl (by kernel_rfl) ?_
  have o1 := o1.row #[.int .u8 0, .int .u8 0, .int .i64 0, .string ⟨#[]⟩, .slice none 0 0, .int .i64 0]
  have o2 := o2.other (g := w.heap.size) #[.int .u8 0, .int .u8 0, .int .i64 0, .string ⟨#[]⟩, .slice none 0 0, .int .i64 0] (by omega)
  have o4 := o4.other (g := w.heap.size) #[.int .u8 0, .int .u8 0, .int .i64 0, .string ⟨#[]⟩, .slice none 0 0, .int .i64 0] (by omega)
  have B3 := Below.of_row B3 (g := w.heap.size) (by omega) #[.int .u8 0, .int .u8 0, .int .i64 0, .string ⟨#[]⟩, .slice none 0 0, .int .i64 0]
  refine ⟨⟨o1, by rw [cell_of_row _ _ 0 _ _ _ o4]; rfl⟩, ?_⟩
  change wpAnyH _ _ _ _ _ _ _ { tmps := #[.string s, .func (.func 20) #[] #[], undef, undef, .pointer (some ⟨w.heap.size, 0, none⟩), .pointer (some ⟨w.heap.size + 1, 0, none⟩), .pointer (some ⟨w.heap.size + 1 + 1, 0, none⟩), u, undef, .tuple #[u, .int .i64 20, .agg #[.int .i64 pa, .int .i64 ru]], .string s, .tuple #[u, .int .i64 20, .agg #[.int .i64 pa, .int .i64 ru]], u, .int .i64 20, .agg #[.int .i64 pa, .int .i64 ru], .int .i64 20, .bool false, undef, undef, undef, .int .i64 20, .bool true, .agg #[.int .u8 0, .int .u8 0, .int .i64 0, .string ⟨#[]⟩, .slice none 0 0, .int .i64 0], .pointer (some ⟨w.heap.size + 1 + 1, 0, none⟩), .int .i64 pa, .agg #[.int .i64 pa, .int .i64 1], undef, undef, undef, undef, undef, undef, undef, undef, undef, undef, undef, undef], defers := [] } _
  refine dr_one 5 rfl rfl (by kernel_rfl) ?_
  refine wp_st_err (u := 20) rfl rfl (by rw [cell_of_row _ _ 0 _ _ _ o2]; rfl) (own_frozen o2 0) ?_
  rw [show (W3.setRow w.heap.size #[.int .u8 0, .int .u8 0, .int .i64 0, .string ⟨#[]⟩, .slice none 0 0, .int .i64 0]).setCell ⟨w.heap.size + 1, 0, none⟩ (.int .i64 30) = (W3.setRow w.heap.size #[.int .u8 0, .int .u8 0, .int .i64 0, .string ⟨#[]⟩, .slice none 0 0, .int .i64 0]).setRow (w.heap.size + 1) #[.int .i64 30] from setCell_row o2 0 _]
  have o1 := o1.other (g := w.heap.size + 1) #[.int .i64 30] (by omega)
  have o2 := o2.row #[.int .i64 30]
  have o4 := o4.other (g := w.heap.size + 1) #[.int .i64 30] (by omega)
  have B3 := Below.of_row B3 (g := w.heap.size + 1) (by omega) #[.int .i64 30]
  refine ⟨⟨o1, by rw [cell_of_row _ _ 0 _ _ _ o4]; rfl⟩, ?_⟩
  change wpAnyH _ _ _ _ _ _ _ { tmps := #[.string s, .func (.func 20) #[] #[], undef, undef, .pointer (some ⟨w.heap.size, 0, none⟩), .pointer (some ⟨w.heap.size + 1, 0, none⟩), .pointer (some ⟨w.heap.size + 1 + 1, 0, none⟩), u, undef, .tuple #[u, .int .i64 20, .agg #[.int .i64 pa, .int .i64 ru]], .string s, .tuple #[u, .int .i64 20, .agg #[.int .i64 pa, .int .i64 ru]], u, .int .i64 20, .agg #[.int .i64 pa, .int .i64 ru], .int .i64 20, .bool false, undef, undef, undef, .int .i64 20, .bool true, .agg #[.int .u8 0, .int .u8 0, .int .i64 0, .string ⟨#[]⟩, .slice none 0 0, .int .i64 0], .pointer (some ⟨w.heap.size + 1 + 1, 0, none⟩), .int .i64 pa, .agg #[.int .i64 pa, .int .i64 1], undef, undef, undef, undef, undef, undef, undef, undef, undef, undef, undef, undef], defers := [] } _
  refine dr_one 6 rfl rfl (by kernel_rfl) ?_
  refine wp_st_row (cs := #[.int .i64 pa, .int .i64 1]) rowFl rfl o4 rfl rfl rfl rfl (by kernel_rfl) ?_
  have o1 := Lib.hid (o1.other (g := w.heap.size + 1 + 1) #[.int .i64 pa, .int .i64 1] (by omega))
  have o2 := Lib.hid (o2.other (g := w.heap.size + 1 + 1) #[.int .i64 pa, .int .i64 1] (by omega))
  have o4 := Lib.hid (o4.row #[.int .i64 pa, .int .i64 1])
  have B3 := Lib.hid (Below.of_row B3 (g := w.heap.size + 1 + 1) (by omega) #[.int .i64 pa, .int .i64 1])
  refine ⟨⟨o1.out, by rw [cell_of_row _ _ 0 _ _ _ o4.out]; rfl⟩, ?_⟩
  clear S3
  refine wpAnyH_done (by kernel_rfl) ?_ _
  go_wp2_with fail
  refine ⟨_, res3 rfl rfl rfl rfl (lv_row rowEx o1.out rfl) (lv_err o2.out) (lv_row rowFl o4.out rfl), B3.out, ?_⟩
  rw [HR.out]
  exact ⟨_, rfl, rfl⟩
set_option maxRecDepth 100000 in
set_option maxHeartbeats 8000000 in
theorem wh_go_E (s : ByteArray) {w : World} (T : LTabs w) (TW : Tabs w) (hl : ¬ 65536 < s.size) (hf : (frontR s).2.2 = 0) :
    Calls Tryd.prog 19 #[.string s, .func (.func 20) #[] #[]] w (WhPost w zEx exR (wholeR (fun L ts => binE fnd L (fuel ts) 1 0 ts) s)) := by
  obtain ⟨R, hR⟩ : ∃ R, R = wholeR (fun L ts => binE fnd L (fuel ts) 1 0 ts) s := ⟨_, rfl⟩
  rw [← hR]
  obtain ⟨toks, hto⟩ : ∃ l, l = (scanX s).1 := ⟨_, rfl⟩
  obtain ⟨Y, hY⟩ : ∃ Y, Y = binE fnd (s.size : Int) (fuel (toks.map Res.tk)) 1 0 (toks.map Res.tk) := ⟨_, rfl⟩
  have HR : Hid (R = endR (endP Y)) := by rw [Hid, hR, hY, hto]; unfold wholeR; rw [if_neg hl, if_neg (by simpa using hf)]
  have HTK : Hid (toks.length ≤ 65536 ∧ s.size ≤ 65536 ∧ ∀ x ∈ toks, 0 ≤ x.wd ∧ x.wd ≤ 9223372036854775807) := ⟨by rw [hto]; exact scanX_len s, by omega, by rw [hto]; exact scanX_wd s⟩
  clear hR
  have HT := Lib.hid (And.intro T TW)
  have HSC : Hid (∀ W, LTabs W → Calls Tryd.prog 13 #[.string s] W fun e w' => ∃ u, e = .returned (.tuple #[u, .int .i64 0, .agg #[.int .i64 0, .int .i64 0]]) ∧ w'.ownsRow W.heap.size 49 4 u (scanX s).1.length (rowR (scanX s).1) ∧ (u = .slice none 0 0 ↔ (scanX s).1 = []) ∧ Below W.heap.size W w') := fun W TW => by have := scan_row s TW; rw [scan_toks hl hf] at this ⊢; exact this
  have O1 := ((Own.new w 26 zEx).alloc (.cells #[.int .i64 0] 27)).alloc (.cells #[.int .i64 0, .int .i64 0] 29)
  have O2 := (Own.new (w.alloc (.cells zEx 26)) 27 #[.int .i64 0]).alloc (.cells #[.int .i64 0, .int .i64 0] 29)
  have O3 := Own.new ((w.alloc (.cells zEx 26)).alloc (.cells #[.int .i64 0] 27)) 29 #[.int .i64 0, .int .i64 0]
  have B0 : Below w.heap.size w (((w.alloc (.cells zEx 26)).alloc (.cells #[.int .i64 0] 27)).alloc (.cells #[.int .i64 0, .int .i64 0] 29)) := (((Below.refl _ w).alloc (Nat.le_refl _) _).alloc (by simp only [World.size_alloc]; omega) _).alloc (by simp only [World.size_alloc]; omega) _
  have z0 : Hid ((((w.alloc (.cells zEx 26)).alloc (.cells #[.int .i64 0] 27)).alloc (.cells #[.int .i64 0, .int .i64 0] 29)).heap.size = w.heap.size + 3) := by simp only [Hid, World.size_alloc]
  rw [World.size_alloc] at O2
  rw [World.size_alloc, World.size_alloc] at O3
  have hmf : ∀ (fn : Fn) (first cap : Array Value) (w : World), (Instr.makeFunc fn first cap).run Tryd.prog w = .ok (.func fn first cap) w := fun _ _ _ _ => rfl
  clear T TW
  unfold zEx at *
  rw [← hto] at HSC
  clear hl hf hto
  have HY := Lib.hid hY
  clear hY
  go_enter_defers Tryd.func19, Tryd.ntmps19
  go_wp2_with fail
  obtain ⟨W0, hW0⟩ : ∃ W, W = (((w.alloc (.cells #[.int .u8 0, .int .u8 0, .int .i64 0, .string ⟨#[]⟩, .slice none 0 0, .int .i64 0] 26)).alloc (.cells #[.int .i64 0] 27)).alloc (.cells #[.int .i64 0, .int .i64 0] 29)) := ⟨_, rfl⟩
  rw [← hW0] at O1 O2 O3 B0 z0 ⊢
  clear hW0
  go_at_call 13
  refine (HSC.out _ (HT.out.1.below (Nat.le_refl _) B0)).mono ?_
  rintro e w1 ⟨u, rfl, hrow, hnil, hb1⟩
  have O1 := O1.below hb1
  have O2 := O2.below hb1
  have O3 := O3.below hb1
  have B1 := Lib.hid (B0.trans (hb1.mono (by have := z0.out; omega)))
  have z1 : Hid (w.heap.size + 3 ≤ w1.heap.size) := by have := hb1.size; have := z0.out; simp only [Hid]; omega
  have e5 : w1.setCell ⟨w.heap.size + 1, 0, none⟩ (.int .i64 0) = w1.setRow (w.heap.size + 1) #[.int .i64 0] := setCell_row O2 0 _
  have O1 := O1.other (g := w.heap.size + 1) #[.int .i64 0] (by omega)
  have O2' := O2.row #[.int .i64 0]
  have O3 := O3.other (g := w.heap.size + 1) #[.int .i64 0] (by omega)
  have c5 : w1.cell? ⟨w.heap.size + 1, 0, none⟩ = some (.int .i64 0) := by rw [cell_of_row _ _ 0 _ _ _ O2]; rfl
  have f5 := own_frozen O2 0
  have O1 := Lib.hid (O1.other (g := w.heap.size + 1 + 1) #[.int .i64 0, .int .i64 0] (by omega))
  have O2 := Lib.hid (O2'.other (g := w.heap.size + 1 + 1) #[.int .i64 0, .int .i64 0] (by omega))
  have O4 := Lib.hid (O3.row #[.int .i64 0, .int .i64 0])
  have B2 := Lib.hid (Below.of_row (Below.of_row B1.out (g := w.heap.size + 1) (by omega) #[.int .i64 0]) (g := w.heap.size + 1 + 1) (by omega) #[.int .i64 0, .int .i64 0])
  have z2 : Hid (((w1.setRow (w.heap.size + 1) #[.int .i64 0]).setRow (w.heap.size + 1 + 1) #[.int .i64 0, .int .i64 0]).heap.size = w1.heap.size) := by rw [Hid, size_setRow, size_setRow]
  have RW : Hid (((w1.setRow (w.heap.size + 1) #[.int .i64 0]).setRow (w.heap.size + 1 + 1) #[.int .i64 0, .int .i64 0]).ownsRow (w.heap.size + 3) 49 4 u toks.length (rowR toks)) := by
    have hrow := ownsRow_base hrow (base' := w.heap.size + 3) (by have := z0.out; omega)
    exact row_row (row_row hrow _ (fun e => by have := (hrow.lt _ e).1; omega)) _ (fun e => by have := (hrow.lt _ e).1; omega)
  clear hrow B0 O2' z0 hb1
  have HNIL := Lib.hid hnil
  clear hnil
  go_upto_region 2 with (first | (refine st rowFl rfl rfl O3 rfl rfl (by rfl) (by rfl) (by kernel_rfl) ?_))
  obtain ⟨W2, hW2⟩ : ∃ W, W = ((w1.setRow (w.heap.size + 1) #[.int .i64 0]).setRow (w.heap.size + 1 + 1) #[.int .i64 0, .int .i64 0]) := ⟨_, rfl⟩
  rw [← hW2] at O1 O2 O4 B2 z2 RW ⊢
  clear hW2 O3 e5 c5 f5
  have c5 : W2.cell? ⟨w.heap.size + 1, 0, none⟩ = some (.int .i64 0) := by rw [cell_of_row _ _ 0 _ _ _ O2.out]; rfl
  obtain ⟨oa, cap, rfl, hoa⟩ := row_shape RW.out
  have HLT : Hid (∀ g off, oa = some ⟨g, off, none⟩ → w.heap.size + 3 ≤ g ∧ g < W2.heap.size) := by
    intro g off e
    subst e
    rcases RW.out.2 with ⟨h, _⟩ | ⟨g', cap', cur, h, h2, h3, _⟩
    · cases h
    · cases h
      exact ⟨h2, (Array.getElem?_eq_some_iff.1 h3).1⟩
  have LT2 := Lib.hid (HT.out.2.below (Nat.le_refl _) B2.out)
  have HNW := Lib.hid (p_new (L := s.size) (tokRow_owns RW.out) (fun g off e => (HLT.out g off e).2) LT2.out HTK.out)
  obtain ⟨c, hc⟩ : ∃ c, c = newC W2 oa cap toks s.size := ⟨_, rfl⟩
  rw [← hc] at HNW
  have HC := Lib.hid hc
  have z3 : Hid (w.heap.size + 3 ≤ W2.heap.size) := by have := z1.out; have := z2.out; simp only [Hid]; omega
  have cX : Hid (c.X = W2.heap.size) := by rw [hc]; rfl
  have cL : Hid (c.L = s.size ∧ c.at 0 = toks.map Res.tk) := by rw [hc]; exact ⟨rfl, rfl⟩
  have HEX : Hid (∀ W, Rd c W 0 → Calls Tryd.prog 20 #[c.ptr] W (RdPost c W Y (exR W.heap.size))) := fun W RW => by
    have := p_expression (n := fuel (toks.map Res.tk)) RW (by rw [cL.out.2]; unfold fuel; omega)
    rw [cL.out.2, cL.out.1] at this
    rw [HY.out]
    exact this
  have HEN : Hid (∀ W k, Rd c W k → Calls Tryd.prog 36 #[c.ptr] W fun e w' => Fr c W w' ∧ e = match c.at k with | [] => .returned (.tuple #[]) | t :: _ => .panicked (flt t.pos 2)) := fun W k RW => p_end RW
  have HRW : Hid (∀ W k cs, Rd c W k → Rd c (W.setRow w.heap.size cs) k) := fun W k cs RW => RW.setRow cs (by rw [hc]; simp only [newC]; have := z3.out; omega) (fun b off e => by have := (HLT.out b off (by rw [hc] at e; exact e)).1; omega) (by have h1 := HT.out.2.size1; have h2 := HT.out.2.size2; omega)
  clear hc hoa
  unfold Par.ptr at *
  go_wp2_with fail
  go_at_call 35
  refine HNW.out.mono ?_
  rintro e w3 ⟨rfl, hb3, hR3⟩
  have O1 := Lib.hid (O1.out.below hb3)
  have O2 := Lib.hid (O2.out.below hb3)
  have O4 := Lib.hid (O4.out.below hb3)
  have B3 := Lib.hid (B2.out.trans (hb3.mono (by have := z3.out; omega)))
  have R3 := Lib.hid hR3
  have z4 : Hid (w.heap.size + 3 ≤ w3.heap.size) := by have := hb3.size; have := z3.out; simp only [Hid]; omega
  clear hb3 hR3 c5
  go_wp2_with fail
  go_at_call 20
  refine (HEX.out _ R3.out).mono ?_
  rintro e w4 ⟨hf4, hm⟩
  have xX : Hid (c.X ≠ w.heap.size ∧ c.X ≠ w.heap.size + 1 ∧ c.X ≠ w.heap.size + 1 + 1 ∧ w.heap.size ≤ c.X) := by have := z3.out; have := cX.out; simp only [Hid]; omega
  have O1 := Lib.hid (O1.out.fr hf4 xX.out.1)
  have O2 := Lib.hid (O2.out.fr hf4 xX.out.2.1)
  have O4 := Lib.hid (O4.out.fr hf4 xX.out.2.2.1)
  have B4 : Hid (Below w.heap.size w w4) := B3.out.trans (fr_below hf4 xX.out.2.2.2 (by have := z4.out; omega))
  rcases Y with ⟨x, r⟩ | ⟨p, q⟩
  rotate_left
  · obtain rfl := hm
    clear hf4
    go_wp2_with fail
    refine leaves_cons (f := 34) (args := #[.pointer (some ⟨w.heap.size, 0, none⟩), .pointer (some ⟨w.heap.size + 1, 0, none⟩), .pointer (some ⟨w.heap.size + 1 + 1, 0, none⟩)]) (by simp) (by simp [go_sem]) ?_
    refine (catch_ex (n := w.heap.size) O1.out rfl O2.out O4.out rfl (by omega) (by omega)).mono ?_
    rintro e u' w5 ⟨rfl, rfl, q1, q2, q3, hb⟩
    refine ⟨_, res3 rfl rfl rfl rfl (lv_row rowEx q1 rfl) (lv_err q2) (lv_row rowFl q3 rfl), B4.out.trans hb, ?_⟩
    rw [HR.out]
    exact ⟨_, rfl, rfl⟩
  obtain ⟨v, k4, rfl, hV, hR4, rfl⟩ := hm
  have z5 : Hid (w.heap.size + 3 ≤ w4.heap.size ∧ w3.heap.size ≤ w4.heap.size) := by have := Keep.size hf4; have := z4.out; simp only [Hid]; omega
  have HV := Lib.hid hV
  obtain ⟨a6, c6, rfl, _⟩ := hV
  obtain ⟨VV, hVV⟩ : ∃ VV : Array Value, VV = #[.int .u8 x.kind, .int .u8 x.op, .int .i64 x.wd, .string x.name, .slice a6 x.kids.length c6, .int .i64 x.pos] := ⟨_, rfl⟩
  have VS : Hid (VV.size = zEx.size) := by rw [hVV]; rfl
  have P1 := Lib.hid (O1.out.row VV)
  have P2 := Lib.hid (O2.out.other (g := w.heap.size) VV (by omega))
  have P4 := Lib.hid (O4.out.other (g := w.heap.size) VV (by omega))
  have B5 := Lib.hid (Below.of_row B4.out (g := w.heap.size) (Nat.le_refl _) VV)
  have R5 := Lib.hid (HRW.out _ _ VV hR4)
  have V5 : Hid (exR w3.heap.size x (.agg VV) (w4.setRow w.heap.size VV)) := by rw [hVV]; exact exR_stays HV.out (stays_row w4 _ (fun b hb => by have := z4.out; omega)) (Nat.le_refl _)
  clear hf4 hR4
  have o1 := O1.out
  subst hVV
  go_wp2_with (first | (refine st rowEx rfl rfl o1 rfl rfl (by rfl) (by rfl) (by kernel_rfl) ?_))
  clear o1
  go_at_call 36
  refine (HEN.out _ _ R5.out).mono ?_
  rintro e w6 ⟨hf6, he⟩
  have z6 : Hid (w.heap.size + 3 ≤ w6.heap.size) := by have := Keep.size hf6; rw [size_setRow] at this; have := z5.out; simp only [Hid]; omega
  have P1 := Lib.hid (P1.out.fr hf6 xX.out.1)
  have P2 := Lib.hid (P2.out.fr hf6 xX.out.2.1)
  have P4 := Lib.hid (P4.out.fr hf6 xX.out.2.2.1)
  have B6 : Hid (Below w.heap.size w w6) := B5.out.trans (fr_below hf6 xX.out.2.2.2 (by rw [size_setRow]; have := z5.out; omega))
  have V6 : Hid (exR w3.heap.size x (.agg #[.int .u8 x.kind, .int .u8 x.op, .int .i64 x.wd, .string x.name, .slice a6 x.kids.length c6, .int .i64 x.pos]) w6) := exR_stays V5.out (stays_fr hf6 (fun b hb => by have h1 := hb; have h2 := R3.out.lt; change w3.heap.size ≤ b at h1; omega)) (Nat.le_refl _)
  have HR : Hid (R = match c.at k4 with | [] => (some x, 0, 0, 0) | t :: _ => (none, 30, t.pos, 2)) := by
    rw [Hid, HR.out]
    show endR (match c.at k4 with | [] => PR.ok x [] | t :: _ => PR.bad t.pos 2) = _
    cases c.at k4 <;> rfl
  clear hf6
  generalize c.at k4 = ts at he HR
  cases ts with
  | cons t r =>
    subst he
    go_wp2_with fail
    refine leaves_cons (f := 34) (args := #[.pointer (some ⟨w.heap.size, 0, none⟩), .pointer (some ⟨w.heap.size + 1, 0, none⟩), .pointer (some ⟨w.heap.size + 1 + 1, 0, none⟩)]) (by simp) (by simp [go_sem]) ?_
    refine (catch_ex (n := w.heap.size) P1.out VS.out P2.out P4.out rfl (by omega) (by omega)).mono ?_
    rintro e u' w7 ⟨rfl, rfl, q1, q2, q3, hb⟩
    refine ⟨_, res3 rfl rfl rfl rfl (lv_row rowEx q1 rfl) (lv_err q2) (lv_row rowFl q3 rfl), B6.out.trans hb, ?_⟩
    rw [HR.out]
    exact ⟨_, rfl, rfl⟩
  | nil =>
    subst he
    have p1 := P1.out
    have e7 : (w6.setRow w.heap.size #[.int .u8 x.kind, .int .u8 x.op, .int .i64 x.wd, .string x.name, .slice a6 x.kids.length c6, .int .i64 x.pos]).setCell ⟨w.heap.size + 1, 0, none⟩ (.int .i64 0) = (w6.setRow w.heap.size #[.int .u8 x.kind, .int .u8 x.op, .int .i64 x.wd, .string x.name, .slice a6 x.kids.length c6, .int .i64 x.pos]).setRow (w.heap.size + 1) #[.int .i64 0] := setCell_row (P2.out.other (g := w.heap.size) #[.int .u8 x.kind, .int .u8 x.op, .int .i64 x.wd, .string x.name, .slice a6 x.kids.length c6, .int .i64 x.pos] (by omega)) 0 _
    have c7 : (w6.setRow w.heap.size #[.int .u8 x.kind, .int .u8 x.op, .int .i64 x.wd, .string x.name, .slice a6 x.kids.length c6, .int .i64 x.pos]).cell? ⟨w.heap.size + 1, 0, none⟩ = some (.int .i64 0) := by rw [cell_of_row _ _ 0 _ _ _ (P2.out.other (g := w.heap.size) #[.int .u8 x.kind, .int .u8 x.op, .int .i64 x.wd, .string x.name, .slice a6 x.kids.length c6, .int .i64 x.pos] (by omega))]; rfl
    have f7 := own_frozen (P2.out.other (g := w.heap.size) #[.int .u8 x.kind, .int .u8 x.op, .int .i64 x.wd, .string x.name, .slice a6 x.kids.length c6, .int .i64 x.pos] (by omega)) 0
    have q1 := Lib.hid (((P1.out.row #[.int .u8 x.kind, .int .u8 x.op, .int .i64 x.wd, .string x.name, .slice a6 x.kids.length c6, .int .i64 x.pos]).other (g := w.heap.size + 1) #[.int .i64 0] (by omega)).other (g := w.heap.size + 1 + 1) #[.int .i64 0, .int .i64 0] (by omega))
    have q2 := Lib.hid (((P2.out.other (g := w.heap.size) #[.int .u8 x.kind, .int .u8 x.op, .int .i64 x.wd, .string x.name, .slice a6 x.kids.length c6, .int .i64 x.pos] (by omega)).row #[.int .i64 0]).other (g := w.heap.size + 1 + 1) #[.int .i64 0, .int .i64 0] (by omega))
    have p4 := (P4.out.other (g := w.heap.size) #[.int .u8 x.kind, .int .u8 x.op, .int .i64 x.wd, .string x.name, .slice a6 x.kids.length c6, .int .i64 x.pos] (by omega)).other (g := w.heap.size + 1) #[.int .i64 0] (by omega)
    have q4 := Lib.hid (p4.row #[.int .i64 0, .int .i64 0])
    have B7 := Lib.hid (Below.of_row (Below.of_row (Below.of_row B6.out (g := w.heap.size) (Nat.le_refl _) #[.int .u8 x.kind, .int .u8 x.op, .int .i64 x.wd, .string x.name, .slice a6 x.kids.length c6, .int .i64 x.pos]) (g := w.heap.size + 1) (by omega) #[.int .i64 0]) (g := w.heap.size + 1 + 1) (by omega) #[.int .i64 0, .int .i64 0])
    have V7 : Hid (exR w.heap.size x (.agg #[.int .u8 x.kind, .int .u8 x.op, .int .i64 x.wd, .string x.name, .slice a6 x.kids.length c6, .int .i64 x.pos]) (((w6.setRow w.heap.size #[.int .u8 x.kind, .int .u8 x.op, .int .i64 x.wd, .string x.name, .slice a6 x.kids.length c6, .int .i64 x.pos]).setRow (w.heap.size + 1) #[.int .i64 0]).setRow (w.heap.size + 1 + 1) #[.int .i64 0, .int .i64 0])) := exR_stays V6.out (((stays_row w6 _ (fun b hb => by have := z4.out; change w3.heap.size ≤ b at hb; omega)).trans (stays_row _ _ (fun b hb => by have := z4.out; change w3.heap.size ≤ b at hb; omega))).trans (stays_row _ _ (fun b hb => by have := z4.out; change w3.heap.size ≤ b at hb; omega))) (by have := z4.out; omega)
    go_wp2_with (first | (refine ld rowEx rfl rfl rfl p1 rfl ?_) | (refine st rowEx rfl rfl p1 rfl rfl (by rfl) (by rfl) (by kernel_rfl) ?_) | (refine st rowFl rfl rfl p4 rfl rfl (by rfl) (by rfl) (by kernel_rfl) ?_))
    refine leaves_cons (f := 34) (args := #[.pointer (some ⟨w.heap.size, 0, none⟩), .pointer (some ⟨w.heap.size + 1, 0, none⟩), .pointer (some ⟨w.heap.size + 1 + 1, 0, none⟩)]) (by simp) (by simp [go_sem]) ?_
    refine (idle_E _ _ _ _).mono ?_
    rintro e u' w8 ⟨rfl, rfl, rfl⟩
    refine ⟨_, res3 rfl rfl rfl rfl (lv_row rowEx q1.out rfl) (lv_err q2.out) (lv_row rowFl q4.out rfl), B7.out, ?_⟩
    rw [HR.out]
    exact ⟨_, rfl, V7.out⟩
/-- A whole text. -/
theorem p_whole_E (s : ByteArray) {w : World} (T : LTabs w) (TW : Tabs w) :
    Calls Tryd.prog 19 #[.string s, .func (.func 20) #[] #[]] w (WhPost w zEx exR (wholeR (fun L ts => binE fnd L (fuel ts) 1 0 ts) s)) := by
  by_cases hl : 65536 < s.size
  · exact wh_long_E s T TW hl
  · by_cases hf : (frontR s).2.2 = 0
    · exact wh_go_E s T TW hl hf
    · exact wh_lex_E s T TW hl hf
set_option maxRecDepth 100000 in
set_option maxHeartbeats 1000000 in
theorem idle_P (x y z : Value) (w : World) : CallsD Tryd.prog 43 #[x, y, z] .returning w fun e u' w' => e = .returned (.tuple #[]) ∧ u' = .returning ∧ w' = w := by
  have hnil := any_nil
  refine callsD_of_wpS Tryd.func43 rfl fun c₀ cs hu => ?_
  apply wpS_seq
  apply wpS_region
  simp [wpOpsS, go_sem, recoverD, hu, Tryd.ntmps43, Exit.thenS]
  rw [show (#[x, y, z] ++ (((Array.replicate 17 undef).setIfInBounds 4 .nilIface).setIfInBounds 0 .nilIface) : Array Value) = #[x, y, z, .nilIface, undef, undef, undef, .nilIface, undef, undef, undef, undef, undef, undef, undef, undef, undef, undef, undef, undef] from by kernel_rfl]
  refine wpS_of_wp ?_
  generalize hQ : (fun e a' w' => bodyPostS _ _ _ _ _ e a' _ w') = Q
  go_wp2
  subst hQ
  cases c₀
  simp_all [bodyPostS, results, Tryd.results43]
set_option maxRecDepth 100000 in
set_option maxHeartbeats 8000000 in
theorem wh_long_P (s : ByteArray) {w : World} (T : LTabs w) (TW : Tabs w) (hl : 65536 < s.size) :
    Calls Tryd.prog 26 #[.string s, .func (.func 27) #[] #[]] w (WhPost w zPg pgR (wholeR (fun L ts => progP fnd L (fuel ts) ts) s)) := by
  obtain ⟨R, hR⟩ : ∃ R, R = wholeR (fun L ts => progP fnd L (fuel ts) ts) s := ⟨_, rfl⟩
  rw [← hR]
  have HR : Hid (R = (none, 4, 0, 0)) := by rw [Hid, hR]; unfold wholeR; rw [if_pos hl]
  clear hR
  have HT := Lib.hid (And.intro T TW)
  have HSC : Hid (∀ W, LTabs W → Calls Tryd.prog 13 #[.string s] W fun e w' => ∃ u, e = .returned (.tuple #[u, .int .i64 4, .agg #[.int .i64 0, .int .i64 0]]) ∧ w'.ownsRow W.heap.size 49 4 u (scanX s).1.length (rowR (scanX s).1) ∧ (u = .slice none 0 0 ↔ (scanX s).1 = []) ∧ Below W.heap.size W w') := fun W TW => by have := scan_row s TW; rw [scan_long hl] at this ⊢; exact this
  have O1 := ((Own.new w 40 zPg).alloc (.cells #[.int .i64 0] 27)).alloc (.cells #[.int .i64 0, .int .i64 0] 29)
  have O2 := (Own.new (w.alloc (.cells zPg 40)) 27 #[.int .i64 0]).alloc (.cells #[.int .i64 0, .int .i64 0] 29)
  have O3 := Own.new ((w.alloc (.cells zPg 40)).alloc (.cells #[.int .i64 0] 27)) 29 #[.int .i64 0, .int .i64 0]
  have B0 : Below w.heap.size w (((w.alloc (.cells zPg 40)).alloc (.cells #[.int .i64 0] 27)).alloc (.cells #[.int .i64 0, .int .i64 0] 29)) := (((Below.refl _ w).alloc (Nat.le_refl _) _).alloc (by simp only [World.size_alloc]; omega) _).alloc (by simp only [World.size_alloc]; omega) _
  have z0 : Hid ((((w.alloc (.cells zPg 40)).alloc (.cells #[.int .i64 0] 27)).alloc (.cells #[.int .i64 0, .int .i64 0] 29)).heap.size = w.heap.size + 3) := by simp only [Hid, World.size_alloc]
  rw [World.size_alloc] at O2
  rw [World.size_alloc, World.size_alloc] at O3
  have hmf : ∀ (fn : Fn) (first cap : Array Value) (w : World), (Instr.makeFunc fn first cap).run Tryd.prog w = .ok (.func fn first cap) w := fun _ _ _ _ => rfl
  clear T TW
  unfold zPg at *
  go_enter_defers Tryd.func26, Tryd.ntmps26
  go_wp2_with fail
  obtain ⟨W0, hW0⟩ : ∃ W, W = (((w.alloc (.cells #[.slice none 0 0, .slice none 0 0, .slice none 0 0] 40)).alloc (.cells #[.int .i64 0] 27)).alloc (.cells #[.int .i64 0, .int .i64 0] 29)) := ⟨_, rfl⟩
  rw [← hW0] at O1 O2 O3 B0 z0 ⊢
  clear hW0
  go_at_call 13
  refine (HSC.out _ (HT.out.1.below (Nat.le_refl _) B0)).mono ?_
  rintro e w1 ⟨u, rfl, hrow, hnil, hb1⟩
  have O1 := O1.below hb1
  have O2 := O2.below hb1
  have O3 := O3.below hb1
  have B1 := Lib.hid (B0.trans (hb1.mono (by have := z0.out; omega)))
  have z1 : Hid (w.heap.size + 3 ≤ w1.heap.size) := by have := hb1.size; have := z0.out; simp only [Hid]; omega
  have e5 : w1.setCell ⟨w.heap.size + 1, 0, none⟩ (.int .i64 4) = w1.setRow (w.heap.size + 1) #[.int .i64 4] := setCell_row O2 0 _
  have O1 := O1.other (g := w.heap.size + 1) #[.int .i64 4] (by omega)
  have O2' := O2.row #[.int .i64 4]
  have O3 := O3.other (g := w.heap.size + 1) #[.int .i64 4] (by omega)
  have c5 : w1.cell? ⟨w.heap.size + 1, 0, none⟩ = some (.int .i64 0) := by rw [cell_of_row _ _ 0 _ _ _ O2]; rfl
  have f5 := own_frozen O2 0
  have O1 := Lib.hid (O1.other (g := w.heap.size + 1 + 1) #[.int .i64 0, .int .i64 0] (by omega))
  have O2 := Lib.hid (O2'.other (g := w.heap.size + 1 + 1) #[.int .i64 0, .int .i64 0] (by omega))
  have O4 := Lib.hid (O3.row #[.int .i64 0, .int .i64 0])
  have B2 := Lib.hid (Below.of_row (Below.of_row B1.out (g := w.heap.size + 1) (by omega) #[.int .i64 4]) (g := w.heap.size + 1 + 1) (by omega) #[.int .i64 0, .int .i64 0])
  have z2 : Hid (((w1.setRow (w.heap.size + 1) #[.int .i64 4]).setRow (w.heap.size + 1 + 1) #[.int .i64 0, .int .i64 0]).heap.size = w1.heap.size) := by rw [Hid, size_setRow, size_setRow]
  have RW : Hid (((w1.setRow (w.heap.size + 1) #[.int .i64 4]).setRow (w.heap.size + 1 + 1) #[.int .i64 0, .int .i64 0]).ownsRow (w.heap.size + 3) 49 4 u (scanX s).1.length (rowR (scanX s).1)) := by
    have hrow := ownsRow_base hrow (base' := w.heap.size + 3) (by have := z0.out; omega)
    exact row_row (row_row hrow _ (fun e => by have := (hrow.lt _ e).1; omega)) _ (fun e => by have := (hrow.lt _ e).1; omega)
  clear hrow B0 O2' z0 hb1
  have HNIL := Lib.hid hnil
  clear hnil
  go_upto_region 2 with (first | (refine st rowFl rfl rfl O3 rfl rfl (by rfl) (by rfl) (by kernel_rfl) ?_))
  obtain ⟨W2, hW2⟩ : ∃ W, W = ((w1.setRow (w.heap.size + 1) #[.int .i64 4]).setRow (w.heap.size + 1 + 1) #[.int .i64 0, .int .i64 0]) := ⟨_, rfl⟩
  rw [← hW2] at O1 O2 O4 B2 z2 RW ⊢
  clear hW2 O3 e5 c5 f5
  have c5 : W2.cell? ⟨w.heap.size + 1, 0, none⟩ = some (.int .i64 4) := by rw [cell_of_row _ _ 0 _ _ _ O2.out]; rfl
  go_upto_region 3 with (fail)
  clear c5
  refine wp_region_held (S := fun W => Own W w.heap.size 40 #[.slice none 0 0, .slice none 0 0, .slice none 0 0] ∧ Own W (w.heap.size + 1) 27 #[.int .i64 4]) (by kernel_rfl) ?_
  change wpAnyH _ _ _ _ _ _ _ _ W2.drew
  have o1 : Own W2.drew _ _ _ := O1.out
  have o2 : Own W2.drew _ _ _ := O2.out
  have o4 : Own W2.drew _ _ _ := O4.out
  have B3 := B2.out.drew
  generalize W2.drew = W3 at o1 o2 o4 B3 ⊢
  have S3 := And.intro o1 o2
  refine dr_take 0 (.agg #[.slice none 0 0, .slice none 0 0, .slice none 0 0]) rfl rfl (by kernel_rfl) (by kernel_rfl) (by kernel_rfl) (fun c a w h => post_put rfl (by decide) c a w _ h) (fun W h => run_ld rowPg rfl rfl h.1 rfl) S3 ?_
  change wpAnyH _ _ _ _ _ _ _ { tmps := #[.string s, .func (.func 27) #[] #[], undef, undef, .pointer (some ⟨w.heap.size, 0, none⟩), .pointer (some ⟨w.heap.size + 1, 0, none⟩), .pointer (some ⟨w.heap.size + 1 + 1, 0, none⟩), u, undef, .tuple #[u, .int .i64 4, .agg #[.int .i64 0, .int .i64 0]], .string s, .tuple #[u, .int .i64 4, .agg #[.int .i64 0, .int .i64 0]], u, .int .i64 4, .agg #[.int .i64 0, .int .i64 0], .int .i64 4, .bool true, .agg #[.slice none 0 0, .slice none 0 0, .slice none 0 0], undef, undef, undef, undef, undef, undef, undef, undef, undef, undef, undef, undef, undef, undef, undef, undef, undef, undef, undef, undef], defers := [] } _
  refine dr_take 1 (.int .i64 4) rfl rfl (by kernel_rfl) (by kernel_rfl) (by kernel_rfl) (fun c a w h => post_put rfl (by decide) c a w _ h) (fun W h => run_ld_err rfl rfl h.2) S3 ?_
  change wpAnyH _ _ _ _ _ _ _ { tmps := #[.string s, .func (.func 27) #[] #[], undef, undef, .pointer (some ⟨w.heap.size, 0, none⟩), .pointer (some ⟨w.heap.size + 1, 0, none⟩), .pointer (some ⟨w.heap.size + 1 + 1, 0, none⟩), u, undef, .tuple #[u, .int .i64 4, .agg #[.int .i64 0, .int .i64 0]], .string s, .tuple #[u, .int .i64 4, .agg #[.int .i64 0, .int .i64 0]], u, .int .i64 4, .agg #[.int .i64 0, .int .i64 0], .int .i64 4, .bool true, .agg #[.slice none 0 0, .slice none 0 0, .slice none 0 0], .int .i64 4, undef, undef, undef, undef, undef, undef, undef, undef, undef, undef, undef, undef, undef, undef, undef, undef, undef, undef, undef], defers := [] } _
  refine dr_take 2 (.agg #[.int .i64 0, .int .i64 0]) rfl rfl (by kernel_rfl) (by kernel_rfl) (by kernel_rfl) (fun c a w h => post_put rfl (by decide) c a w _ h) (fun W h => by unfold execOp; go_simp) S3 ?_
  change wpAnyH _ _ _ _ _ _ _ { tmps := #[.string s, .func (.func 27) #[] #[], undef, undef, .pointer (some ⟨w.heap.size, 0, none⟩), .pointer (some ⟨w.heap.size + 1, 0, none⟩), .pointer (some ⟨w.heap.size + 1 + 1, 0, none⟩), u, undef, .tuple #[u, .int .i64 4, .agg #[.int .i64 0, .int .i64 0]], .string s, .tuple #[u, .int .i64 4, .agg #[.int .i64 0, .int .i64 0]], u, .int .i64 4, .agg #[.int .i64 0, .int .i64 0], .int .i64 4, .bool true, .agg #[.slice none 0 0, .slice none 0 0, .slice none 0 0], .int .i64 4, .agg #[.int .i64 0, .int .i64 0], undef, undef, undef, undef, undef, undef, undef, undef, undef, undef, undef, undef, undef, undef, undef, undef, undef, undef], defers := [] } _
  refine dr_one 3 rfl rfl (by kernel_rfl) ?_
  refine wp_st_row (cs := #[.slice none 0 0, .slice none 0 0, .slice none 0 0]) rowPg rfl o1 rfl rfl rfl rfl (by kernel_rfl) ?_
  have o1 := o1.row #[.slice none 0 0, .slice none 0 0, .slice none 0 0]
  have o2 := o2.other (g := w.heap.size) #[.slice none 0 0, .slice none 0 0, .slice none 0 0] (by omega)
  have o4 := o4.other (g := w.heap.size) #[.slice none 0 0, .slice none 0 0, .slice none 0 0] (by omega)
  have B3 := Below.of_row B3 (g := w.heap.size) (by omega) #[.slice none 0 0, .slice none 0 0, .slice none 0 0]
  refine ⟨⟨o1, o2⟩, ?_⟩
  change wpAnyH _ _ _ _ _ _ _ { tmps := #[.string s, .func (.func 27) #[] #[], undef, undef, .pointer (some ⟨w.heap.size, 0, none⟩), .pointer (some ⟨w.heap.size + 1, 0, none⟩), .pointer (some ⟨w.heap.size + 1 + 1, 0, none⟩), u, undef, .tuple #[u, .int .i64 4, .agg #[.int .i64 0, .int .i64 0]], .string s, .tuple #[u, .int .i64 4, .agg #[.int .i64 0, .int .i64 0]], u, .int .i64 4, .agg #[.int .i64 0, .int .i64 0], .int .i64 4, .bool true, .agg #[.slice none 0 0, .slice none 0 0, .slice none 0 0], .int .i64 4, .agg #[.int .i64 0, .int .i64 0], undef, undef, undef, undef, undef, undef, undef, undef, undef, undef, undef, undef, undef, undef, undef, undef, undef, undef], defers := [] } _
  refine dr_one 4 rfl rfl (by kernel_rfl) ?_
  refine wp_st_errv (u := 4) rfl rfl rfl (by rw [cell_of_row _ _ 0 _ _ _ o2]; rfl) (own_frozen o2 0) ?_
  rw [show (W3.setRow w.heap.size #[.slice none 0 0, .slice none 0 0, .slice none 0 0]).setCell ⟨w.heap.size + 1, 0, none⟩ (.int .i64 4) = (W3.setRow w.heap.size #[.slice none 0 0, .slice none 0 0, .slice none 0 0]).setRow (w.heap.size + 1) #[.int .i64 4] from setCell_row o2 0 _]
  have o1 := o1.other (g := w.heap.size + 1) #[.int .i64 4] (by omega)
  have o2 := o2.row #[.int .i64 4]
  have o4 := o4.other (g := w.heap.size + 1) #[.int .i64 4] (by omega)
  have B3 := Below.of_row B3 (g := w.heap.size + 1) (by omega) #[.int .i64 4]
  refine ⟨⟨o1, o2⟩, ?_⟩
  change wpAnyH _ _ _ _ _ _ _ { tmps := #[.string s, .func (.func 27) #[] #[], undef, undef, .pointer (some ⟨w.heap.size, 0, none⟩), .pointer (some ⟨w.heap.size + 1, 0, none⟩), .pointer (some ⟨w.heap.size + 1 + 1, 0, none⟩), u, undef, .tuple #[u, .int .i64 4, .agg #[.int .i64 0, .int .i64 0]], .string s, .tuple #[u, .int .i64 4, .agg #[.int .i64 0, .int .i64 0]], u, .int .i64 4, .agg #[.int .i64 0, .int .i64 0], .int .i64 4, .bool true, .agg #[.slice none 0 0, .slice none 0 0, .slice none 0 0], .int .i64 4, .agg #[.int .i64 0, .int .i64 0], undef, undef, undef, undef, undef, undef, undef, undef, undef, undef, undef, undef, undef, undef, undef, undef, undef, undef], defers := [] } _
  refine dr_one 5 rfl rfl (by kernel_rfl) ?_
  refine wp_st_row (cs := #[.int .i64 0, .int .i64 0]) rowFl rfl o4 rfl rfl rfl rfl (by kernel_rfl) ?_
  have o1 := Lib.hid (o1.other (g := w.heap.size + 1 + 1) #[.int .i64 0, .int .i64 0] (by omega))
  have o2 := Lib.hid (o2.other (g := w.heap.size + 1 + 1) #[.int .i64 0, .int .i64 0] (by omega))
  have o4 := Lib.hid (o4.row #[.int .i64 0, .int .i64 0])
  have B3 := Lib.hid (Below.of_row B3 (g := w.heap.size + 1 + 1) (by omega) #[.int .i64 0, .int .i64 0])
  refine ⟨⟨o1.out, o2.out⟩, ?_⟩
  clear S3
  refine wpAnyH_done (by kernel_rfl) ?_ _
  go_wp2_with fail
  refine ⟨_, res3 rfl rfl rfl rfl (lv_row rowPg o1.out rfl) (lv_err o2.out) (lv_row rowFl o4.out rfl), B3.out, ?_⟩
  rw [HR.out]
  exact ⟨_, rfl, rfl⟩
set_option maxRecDepth 100000 in
set_option maxHeartbeats 8000000 in
theorem wh_lex_P (s : ByteArray) {w : World} (T : LTabs w) (TW : Tabs w) (hl : ¬ 65536 < s.size) (hf : ¬ (frontR s).2.2 = 0) :
    Calls Tryd.prog 26 #[.string s, .func (.func 27) #[] #[]] w (WhPost w zPg pgR (wholeR (fun L ts => progP fnd L (fuel ts) ts) s)) := by
  obtain ⟨R, hR⟩ : ∃ R, R = wholeR (fun L ts => progP fnd L (fuel ts) ts) s := ⟨_, rfl⟩
  rw [← hR]
  obtain ⟨pa, hpa⟩ : ∃ a, a = (frontR s).2.1 := ⟨_, rfl⟩
  obtain ⟨ru, hru⟩ : ∃ a, a = (frontR s).2.2 := ⟨_, rfl⟩
  have HR : Hid (R = (none, 30, pa, 1)) := by rw [Hid, hR, hpa]; unfold wholeR; rw [if_neg hl, if_pos hf]
  clear hR
  have HT := Lib.hid (And.intro T TW)
  have HSC : Hid (∀ W, LTabs W → Calls Tryd.prog 13 #[.string s] W fun e w' => ∃ u, e = .returned (.tuple #[u, .int .i64 20, .agg #[.int .i64 pa, .int .i64 ru]]) ∧ w'.ownsRow W.heap.size 49 4 u (scanX s).1.length (rowR (scanX s).1) ∧ (u = .slice none 0 0 ↔ (scanX s).1 = []) ∧ Below W.heap.size W w') := fun W TW => by have := scan_row s TW; rw [scan_lex hl hf] at this ⊢; rw [hpa, hru]; exact this
  clear hpa hru hf hl
  have O1 := ((Own.new w 40 zPg).alloc (.cells #[.int .i64 0] 27)).alloc (.cells #[.int .i64 0, .int .i64 0] 29)
  have O2 := (Own.new (w.alloc (.cells zPg 40)) 27 #[.int .i64 0]).alloc (.cells #[.int .i64 0, .int .i64 0] 29)
  have O3 := Own.new ((w.alloc (.cells zPg 40)).alloc (.cells #[.int .i64 0] 27)) 29 #[.int .i64 0, .int .i64 0]
  have B0 : Below w.heap.size w (((w.alloc (.cells zPg 40)).alloc (.cells #[.int .i64 0] 27)).alloc (.cells #[.int .i64 0, .int .i64 0] 29)) := (((Below.refl _ w).alloc (Nat.le_refl _) _).alloc (by simp only [World.size_alloc]; omega) _).alloc (by simp only [World.size_alloc]; omega) _
  have z0 : Hid ((((w.alloc (.cells zPg 40)).alloc (.cells #[.int .i64 0] 27)).alloc (.cells #[.int .i64 0, .int .i64 0] 29)).heap.size = w.heap.size + 3) := by simp only [Hid, World.size_alloc]
  rw [World.size_alloc] at O2
  rw [World.size_alloc, World.size_alloc] at O3
  have hmf : ∀ (fn : Fn) (first cap : Array Value) (w : World), (Instr.makeFunc fn first cap).run Tryd.prog w = .ok (.func fn first cap) w := fun _ _ _ _ => rfl
  clear T TW
  unfold zPg at *
  go_enter_defers Tryd.func26, Tryd.ntmps26
  go_wp2_with fail
  obtain ⟨W0, hW0⟩ : ∃ W, W = (((w.alloc (.cells #[.slice none 0 0, .slice none 0 0, .slice none 0 0] 40)).alloc (.cells #[.int .i64 0] 27)).alloc (.cells #[.int .i64 0, .int .i64 0] 29)) := ⟨_, rfl⟩
  rw [← hW0] at O1 O2 O3 B0 z0 ⊢
  clear hW0
  go_at_call 13
  refine (HSC.out _ (HT.out.1.below (Nat.le_refl _) B0)).mono ?_
  rintro e w1 ⟨u, rfl, hrow, hnil, hb1⟩
  have O1 := O1.below hb1
  have O2 := O2.below hb1
  have O3 := O3.below hb1
  have B1 := Lib.hid (B0.trans (hb1.mono (by have := z0.out; omega)))
  have z1 : Hid (w.heap.size + 3 ≤ w1.heap.size) := by have := hb1.size; have := z0.out; simp only [Hid]; omega
  have e5 : w1.setCell ⟨w.heap.size + 1, 0, none⟩ (.int .i64 20) = w1.setRow (w.heap.size + 1) #[.int .i64 20] := setCell_row O2 0 _
  have O1 := O1.other (g := w.heap.size + 1) #[.int .i64 20] (by omega)
  have O2' := O2.row #[.int .i64 20]
  have O3 := O3.other (g := w.heap.size + 1) #[.int .i64 20] (by omega)
  have c5 : w1.cell? ⟨w.heap.size + 1, 0, none⟩ = some (.int .i64 0) := by rw [cell_of_row _ _ 0 _ _ _ O2]; rfl
  have f5 := own_frozen O2 0
  have O1 := Lib.hid (O1.other (g := w.heap.size + 1 + 1) #[.int .i64 pa, .int .i64 ru] (by omega))
  have O2 := Lib.hid (O2'.other (g := w.heap.size + 1 + 1) #[.int .i64 pa, .int .i64 ru] (by omega))
  have O4 := Lib.hid (O3.row #[.int .i64 pa, .int .i64 ru])
  have B2 := Lib.hid (Below.of_row (Below.of_row B1.out (g := w.heap.size + 1) (by omega) #[.int .i64 20]) (g := w.heap.size + 1 + 1) (by omega) #[.int .i64 pa, .int .i64 ru])
  have z2 : Hid (((w1.setRow (w.heap.size + 1) #[.int .i64 20]).setRow (w.heap.size + 1 + 1) #[.int .i64 pa, .int .i64 ru]).heap.size = w1.heap.size) := by rw [Hid, size_setRow, size_setRow]
  have RW : Hid (((w1.setRow (w.heap.size + 1) #[.int .i64 20]).setRow (w.heap.size + 1 + 1) #[.int .i64 pa, .int .i64 ru]).ownsRow (w.heap.size + 3) 49 4 u (scanX s).1.length (rowR (scanX s).1)) := by
    have hrow := ownsRow_base hrow (base' := w.heap.size + 3) (by have := z0.out; omega)
    exact row_row (row_row hrow _ (fun e => by have := (hrow.lt _ e).1; omega)) _ (fun e => by have := (hrow.lt _ e).1; omega)
  clear hrow B0 O2' z0 hb1
  have HNIL := Lib.hid hnil
  clear hnil
  go_upto_region 2 with (first | (refine st rowFl rfl rfl O3 rfl rfl (by rfl) (by rfl) (by kernel_rfl) ?_))
  obtain ⟨W2, hW2⟩ : ∃ W, W = ((w1.setRow (w.heap.size + 1) #[.int .i64 20]).setRow (w.heap.size + 1 + 1) #[.int .i64 pa, .int .i64 ru]) := ⟨_, rfl⟩
  rw [← hW2] at O1 O2 O4 B2 z2 RW ⊢
  clear hW2 O3 e5 c5 f5
  have c5 : W2.cell? ⟨w.heap.size + 1, 0, none⟩ = some (.int .i64 20) := by rw [cell_of_row _ _ 0 _ _ _ O2.out]; rfl
  go_upto_region 5 with (fail)
  clear c5
  refine wp_region_held (S := fun W => Own W w.heap.size 40 #[.slice none 0 0, .slice none 0 0, .slice none 0 0] ∧ W.cell? ⟨w.heap.size + 1 + 1, 0, none⟩ = some (.int .i64 pa)) (by kernel_rfl) ?_
  change wpAnyH _ _ _ _ _ _ _ _ W2.drew
  have o1 : Own W2.drew _ _ _ := O1.out
  have o2 : Own W2.drew _ _ _ := O2.out
  have o4 : Own W2.drew _ _ _ := O4.out
  have B3 := B2.out.drew
  generalize W2.drew = W3 at o1 o2 o4 B3 ⊢
  have S3 : Own W3 w.heap.size 40 #[.slice none 0 0, .slice none 0 0, .slice none 0 0] ∧ W3.cell? ⟨w.heap.size + 1 + 1, 0, none⟩ = some (.int .i64 pa) := ⟨o1, by rw [cell_of_row _ _ 0 _ _ _ o4]; rfl⟩
  refine dr_take 0 (.agg #[.slice none 0 0, .slice none 0 0, .slice none 0 0]) rfl rfl (by kernel_rfl) (by kernel_rfl) (by kernel_rfl) (fun c a w h => post_put rfl (by decide) c a w _ h) (fun W h => run_ld rowPg rfl rfl h.1 rfl) S3 ?_
  change wpAnyH _ _ _ _ _ _ _ { tmps := #[.string s, .func (.func 27) #[] #[], undef, undef, .pointer (some ⟨w.heap.size, 0, none⟩), .pointer (some ⟨w.heap.size + 1, 0, none⟩), .pointer (some ⟨w.heap.size + 1 + 1, 0, none⟩), u, undef, .tuple #[u, .int .i64 20, .agg #[.int .i64 pa, .int .i64 ru]], .string s, .tuple #[u, .int .i64 20, .agg #[.int .i64 pa, .int .i64 ru]], u, .int .i64 20, .agg #[.int .i64 pa, .int .i64 ru], .int .i64 20, .bool false, undef, undef, undef, .int .i64 20, .bool true, .agg #[.slice none 0 0, .slice none 0 0, .slice none 0 0], undef, undef, undef, undef, undef, undef, undef, undef, undef, undef, undef, undef, undef, undef, undef], defers := [] } _
  refine dr_take 1 (.pointer (some ⟨w.heap.size + 1 + 1, 0, none⟩)) rfl rfl (by kernel_rfl) (by kernel_rfl) (by kernel_rfl) (fun c a w h => post_put rfl (by decide) c a w _ h) (fun W h => by unfold execOp; go_simp) S3 ?_
  change wpAnyH _ _ _ _ _ _ _ { tmps := #[.string s, .func (.func 27) #[] #[], undef, undef, .pointer (some ⟨w.heap.size, 0, none⟩), .pointer (some ⟨w.heap.size + 1, 0, none⟩), .pointer (some ⟨w.heap.size + 1 + 1, 0, none⟩), u, undef, .tuple #[u, .int .i64 20, .agg #[.int .i64 pa, .int .i64 ru]], .string s, .tuple #[u, .int .i64 20, .agg #[.int .i64 pa, .int .i64 ru]], u, .int .i64 20, .agg #[.int .i64 pa, .int .i64 ru], .int .i64 20, .bool false, undef, undef, undef, .int .i64 20, .bool true, .agg #[.slice none 0 0, .slice none 0 0, .slice none 0 0], .pointer (some ⟨w.heap.size + 1 + 1, 0, none⟩), undef, undef, undef, undef, undef, undef, undef, undef, undef, undef, undef, undef, undef, undef], defers := [] } _
  refine dr_take 2 (.int .i64 pa) rfl rfl (by kernel_rfl) (by kernel_rfl) (by kernel_rfl) (fun c a w h => post_put rfl (by decide) c a w _ h) (fun W h => run_ld_int rfl rfl h.2) S3 ?_
  change wpAnyH _ _ _ _ _ _ _ { tmps := #[.string s, .func (.func 27) #[] #[], undef, undef, .pointer (some ⟨w.heap.size, 0, none⟩), .pointer (some ⟨w.heap.size + 1, 0, none⟩), .pointer (some ⟨w.heap.size + 1 + 1, 0, none⟩), u, undef, .tuple #[u, .int .i64 20, .agg #[.int .i64 pa, .int .i64 ru]], .string s, .tuple #[u, .int .i64 20, .agg #[.int .i64 pa, .int .i64 ru]], u, .int .i64 20, .agg #[.int .i64 pa, .int .i64 ru], .int .i64 20, .bool false, undef, undef, undef, .int .i64 20, .bool true, .agg #[.slice none 0 0, .slice none 0 0, .slice none 0 0], .pointer (some ⟨w.heap.size + 1 + 1, 0, none⟩), .int .i64 pa, undef, undef, undef, undef, undef, undef, undef, undef, undef, undef, undef, undef, undef], defers := [] } _
  refine dr_take 3 (.agg #[.int .i64 pa, .int .i64 1]) rfl rfl (by kernel_rfl) (by kernel_rfl) (by kernel_rfl) (fun c a w h => post_put rfl (by decide) c a w _ h) (fun W h => by unfold execOp; go_simp) S3 ?_
  change wpAnyH _ _ _ _ _ _ _ { tmps := #[.string s, .func (.func 27) #[] #[], undef, undef, .pointer (some ⟨w.heap.size, 0, none⟩), .pointer (some ⟨w.heap.size + 1, 0, none⟩), .pointer (some ⟨w.heap.size + 1 + 1, 0, none⟩), u, undef, .tuple #[u, .int .i64 20, .agg #[.int .i64 pa, .int .i64 ru]], .string s, .tuple #[u, .int .i64 20, .agg #[.int .i64 pa, .int .i64 ru]], u, .int .i64 20, .agg #[.int .i64 pa, .int .i64 ru], .int .i64 20, .bool false, undef, undef, undef, .int .i64 20, .bool true, .agg #[.slice none 0 0, .slice none 0 0, .slice none 0 0], .pointer (some ⟨w.heap.size + 1 + 1, 0, none⟩), .int .i64 pa, .agg #[.int .i64 pa, .int .i64 1], undef, undef, undef, undef, undef, undef, undef, undef, undef, undef, undef, undef], defers := [] } _
  refine dr_one 4 rfl rfl (by kernel_rfl) ?_
  refine wp_st_row (cs := #[.slice none 0 0, .slice none 0 0, .slice none 0 0]) rowPg rfl o1 rfl rfl rfl rfl (by kernel_rfl) ?_
  have o1 := o1.row #[.slice none 0 0, .slice none 0 0, .slice none 0 0]
  have o2 := o2.other (g := w.heap.size) #[.slice none 0 0, .slice none 0 0, .slice none 0 0] (by omega)
  have o4 := o4.other (g := w.heap.size) #[.slice none 0 0, .slice none 0 0, .slice none 0 0] (by omega)
  have B3 := Below.of_row B3 (g := w.heap.size) (by omega) #[.slice none 0 0, .slice none 0 0, .slice none 0 0]
  refine ⟨⟨o1, by rw [cell_of_row _ _ 0 _ _ _ o4]; rfl⟩, ?_⟩
  change wpAnyH _ _ _ _ _ _ _ { tmps := #[.string s, .func (.func 27) #[] #[], undef, undef, .pointer (some ⟨w.heap.size, 0, none⟩), .pointer (some ⟨w.heap.size + 1, 0, none⟩), .pointer (some ⟨w.heap.size + 1 + 1, 0, none⟩), u, undef, .tuple #[u, .int .i64 20, .agg #[.int .i64 pa, .int .i64 ru]], .string s, .tuple #[u, .int .i64 20, .agg #[.int .i64 pa, .int .i64 ru]], u, .int .i64 20, .agg #[.int .i64 pa, .int .i64 ru], .int .i64 20, .bool false, undef, undef, undef, .int .i64 20, .bool true, .agg #[.slice none 0 0, .slice none 0 0, .slice none 0 0], .pointer (some ⟨w.heap.size + 1 + 1, 0, none⟩), .int .i64 pa, .agg #[.int .i64 pa, .int .i64 1], undef, undef, undef, undef, undef, undef, undef, undef, undef, undef, undef, undef], defers := [] } _
  refine dr_one 5 rfl rfl (by kernel_rfl) ?_
  refine wp_st_err (u := 20) rfl rfl (by rw [cell_of_row _ _ 0 _ _ _ o2]; rfl) (own_frozen o2 0) ?_
  rw [show (W3.setRow w.heap.size #[.slice none 0 0, .slice none 0 0, .slice none 0 0]).setCell ⟨w.heap.size + 1, 0, none⟩ (.int .i64 30) = (W3.setRow w.heap.size #[.slice none 0 0, .slice none 0 0, .slice none 0 0]).setRow (w.heap.size + 1) #[.int .i64 30] from setCell_row o2 0 _]
  have o1 := o1.other (g := w.heap.size + 1) #[.int .i64 30] (by omega)
  have o2 := o2.row #[.int .i64 30]
  have o4 := o4.other (g := w.heap.size + 1) #[.int .i64 30] (by omega)
  have B3 := Below.of_row B3 (g := w.heap.size + 1) (by omega) #[.int .i64 30]
  refine ⟨⟨o1, by rw [cell_of_row _ _ 0 _ _ _ o4]; rfl⟩, ?_⟩
  change wpAnyH _ _ _ _ _ _ _ { tmps := #[.string s, .func (.func 27) #[] #[], undef, undef, .pointer (some ⟨w.heap.size, 0, none⟩), .pointer (some ⟨w.heap.size + 1, 0, none⟩), .pointer (some ⟨w.heap.size + 1 + 1, 0, none⟩), u, undef, .tuple #[u, .int .i64 20, .agg #[.int .i64 pa, .int .i64 ru]], .string s, .tuple #[u, .int .i64 20, .agg #[.int .i64 pa, .int .i64 ru]], u, .int .i64 20, .agg #[.int .i64 pa, .int .i64 ru], .int .i64 20, .bool false, undef, undef, undef, .int .i64 20, .bool true, .agg #[.slice none 0 0, .slice none 0 0, .slice none 0 0], .pointer (some ⟨w.heap.size + 1 + 1, 0, none⟩), .int .i64 pa, .agg #[.int .i64 pa, .int .i64 1], undef, undef, undef, undef, undef, undef, undef, undef, undef, undef, undef, undef], defers := [] } _
  refine dr_one 6 rfl rfl (by kernel_rfl) ?_
  refine wp_st_row (cs := #[.int .i64 pa, .int .i64 1]) rowFl rfl o4 rfl rfl rfl rfl (by kernel_rfl) ?_
  have o1 := Lib.hid (o1.other (g := w.heap.size + 1 + 1) #[.int .i64 pa, .int .i64 1] (by omega))
  have o2 := Lib.hid (o2.other (g := w.heap.size + 1 + 1) #[.int .i64 pa, .int .i64 1] (by omega))
  have o4 := Lib.hid (o4.row #[.int .i64 pa, .int .i64 1])
  have B3 := Lib.hid (Below.of_row B3 (g := w.heap.size + 1 + 1) (by omega) #[.int .i64 pa, .int .i64 1])
  refine ⟨⟨o1.out, by rw [cell_of_row _ _ 0 _ _ _ o4.out]; rfl⟩, ?_⟩
  clear S3
  refine wpAnyH_done (by kernel_rfl) ?_ _
  go_wp2_with fail
  refine ⟨_, res3 rfl rfl rfl rfl (lv_row rowPg o1.out rfl) (lv_err o2.out) (lv_row rowFl o4.out rfl), B3.out, ?_⟩
  rw [HR.out]
  exact ⟨_, rfl, rfl⟩
set_option maxRecDepth 100000 in
set_option maxHeartbeats 8000000 in
theorem wh_go_P (s : ByteArray) {w : World} (T : LTabs w) (TW : Tabs w) (hl : ¬ 65536 < s.size) (hf : (frontR s).2.2 = 0) :
    Calls Tryd.prog 26 #[.string s, .func (.func 27) #[] #[]] w (WhPost w zPg pgR (wholeR (fun L ts => progP fnd L (fuel ts) ts) s)) := by
  obtain ⟨R, hR⟩ : ∃ R, R = wholeR (fun L ts => progP fnd L (fuel ts) ts) s := ⟨_, rfl⟩
  rw [← hR]
  obtain ⟨toks, hto⟩ : ∃ l, l = (scanX s).1 := ⟨_, rfl⟩
  obtain ⟨Y, hY⟩ : ∃ Y, Y = progP fnd (s.size : Int) (fuel (toks.map Res.tk)) (toks.map Res.tk) := ⟨_, rfl⟩
  have HR : Hid (R = endR (endP Y)) := by rw [Hid, hR, hY, hto]; unfold wholeR; rw [if_neg hl, if_neg (by simpa using hf)]
  have HTK : Hid (toks.length ≤ 65536 ∧ s.size ≤ 65536 ∧ ∀ x ∈ toks, 0 ≤ x.wd ∧ x.wd ≤ 9223372036854775807) := ⟨by rw [hto]; exact scanX_len s, by omega, by rw [hto]; exact scanX_wd s⟩
  clear hR
  have HT := Lib.hid (And.intro T TW)
  have HSC : Hid (∀ W, LTabs W → Calls Tryd.prog 13 #[.string s] W fun e w' => ∃ u, e = .returned (.tuple #[u, .int .i64 0, .agg #[.int .i64 0, .int .i64 0]]) ∧ w'.ownsRow W.heap.size 49 4 u (scanX s).1.length (rowR (scanX s).1) ∧ (u = .slice none 0 0 ↔ (scanX s).1 = []) ∧ Below W.heap.size W w') := fun W TW => by have := scan_row s TW; rw [scan_toks hl hf] at this ⊢; exact this
  have O1 := ((Own.new w 40 zPg).alloc (.cells #[.int .i64 0] 27)).alloc (.cells #[.int .i64 0, .int .i64 0] 29)
  have O2 := (Own.new (w.alloc (.cells zPg 40)) 27 #[.int .i64 0]).alloc (.cells #[.int .i64 0, .int .i64 0] 29)
  have O3 := Own.new ((w.alloc (.cells zPg 40)).alloc (.cells #[.int .i64 0] 27)) 29 #[.int .i64 0, .int .i64 0]
  have B0 : Below w.heap.size w (((w.alloc (.cells zPg 40)).alloc (.cells #[.int .i64 0] 27)).alloc (.cells #[.int .i64 0, .int .i64 0] 29)) := (((Below.refl _ w).alloc (Nat.le_refl _) _).alloc (by simp only [World.size_alloc]; omega) _).alloc (by simp only [World.size_alloc]; omega) _
  have z0 : Hid ((((w.alloc (.cells zPg 40)).alloc (.cells #[.int .i64 0] 27)).alloc (.cells #[.int .i64 0, .int .i64 0] 29)).heap.size = w.heap.size + 3) := by simp only [Hid, World.size_alloc]
  rw [World.size_alloc] at O2
  rw [World.size_alloc, World.size_alloc] at O3
  have hmf : ∀ (fn : Fn) (first cap : Array Value) (w : World), (Instr.makeFunc fn first cap).run Tryd.prog w = .ok (.func fn first cap) w := fun _ _ _ _ => rfl
  clear T TW
  unfold zPg at *
  rw [← hto] at HSC
  clear hl hf hto
  have HY := Lib.hid hY
  clear hY
  go_enter_defers Tryd.func26, Tryd.ntmps26
  go_wp2_with fail
  obtain ⟨W0, hW0⟩ : ∃ W, W = (((w.alloc (.cells #[.slice none 0 0, .slice none 0 0, .slice none 0 0] 40)).alloc (.cells #[.int .i64 0] 27)).alloc (.cells #[.int .i64 0, .int .i64 0] 29)) := ⟨_, rfl⟩
  rw [← hW0] at O1 O2 O3 B0 z0 ⊢
  clear hW0
  go_at_call 13
  refine (HSC.out _ (HT.out.1.below (Nat.le_refl _) B0)).mono ?_
  rintro e w1 ⟨u, rfl, hrow, hnil, hb1⟩
  have O1 := O1.below hb1
  have O2 := O2.below hb1
  have O3 := O3.below hb1
  have B1 := Lib.hid (B0.trans (hb1.mono (by have := z0.out; omega)))
  have z1 : Hid (w.heap.size + 3 ≤ w1.heap.size) := by have := hb1.size; have := z0.out; simp only [Hid]; omega
  have e5 : w1.setCell ⟨w.heap.size + 1, 0, none⟩ (.int .i64 0) = w1.setRow (w.heap.size + 1) #[.int .i64 0] := setCell_row O2 0 _
  have O1 := O1.other (g := w.heap.size + 1) #[.int .i64 0] (by omega)
  have O2' := O2.row #[.int .i64 0]
  have O3 := O3.other (g := w.heap.size + 1) #[.int .i64 0] (by omega)
  have c5 : w1.cell? ⟨w.heap.size + 1, 0, none⟩ = some (.int .i64 0) := by rw [cell_of_row _ _ 0 _ _ _ O2]; rfl
  have f5 := own_frozen O2 0
  have O1 := Lib.hid (O1.other (g := w.heap.size + 1 + 1) #[.int .i64 0, .int .i64 0] (by omega))
  have O2 := Lib.hid (O2'.other (g := w.heap.size + 1 + 1) #[.int .i64 0, .int .i64 0] (by omega))
  have O4 := Lib.hid (O3.row #[.int .i64 0, .int .i64 0])
  have B2 := Lib.hid (Below.of_row (Below.of_row B1.out (g := w.heap.size + 1) (by omega) #[.int .i64 0]) (g := w.heap.size + 1 + 1) (by omega) #[.int .i64 0, .int .i64 0])
  have z2 : Hid (((w1.setRow (w.heap.size + 1) #[.int .i64 0]).setRow (w.heap.size + 1 + 1) #[.int .i64 0, .int .i64 0]).heap.size = w1.heap.size) := by rw [Hid, size_setRow, size_setRow]
  have RW : Hid (((w1.setRow (w.heap.size + 1) #[.int .i64 0]).setRow (w.heap.size + 1 + 1) #[.int .i64 0, .int .i64 0]).ownsRow (w.heap.size + 3) 49 4 u toks.length (rowR toks)) := by
    have hrow := ownsRow_base hrow (base' := w.heap.size + 3) (by have := z0.out; omega)
    exact row_row (row_row hrow _ (fun e => by have := (hrow.lt _ e).1; omega)) _ (fun e => by have := (hrow.lt _ e).1; omega)
  clear hrow B0 O2' z0 hb1
  have HNIL := Lib.hid hnil
  clear hnil
  go_upto_region 2 with (first | (refine st rowFl rfl rfl O3 rfl rfl (by rfl) (by rfl) (by kernel_rfl) ?_))
  obtain ⟨W2, hW2⟩ : ∃ W, W = ((w1.setRow (w.heap.size + 1) #[.int .i64 0]).setRow (w.heap.size + 1 + 1) #[.int .i64 0, .int .i64 0]) := ⟨_, rfl⟩
  rw [← hW2] at O1 O2 O4 B2 z2 RW ⊢
  clear hW2 O3 e5 c5 f5
  have c5 : W2.cell? ⟨w.heap.size + 1, 0, none⟩ = some (.int .i64 0) := by rw [cell_of_row _ _ 0 _ _ _ O2.out]; rfl
  obtain ⟨oa, cap, rfl, hoa⟩ := row_shape RW.out
  have HLT : Hid (∀ g off, oa = some ⟨g, off, none⟩ → w.heap.size + 3 ≤ g ∧ g < W2.heap.size) := by
    intro g off e
    subst e
    rcases RW.out.2 with ⟨h, _⟩ | ⟨g', cap', cur, h, h2, h3, _⟩
    · cases h
    · cases h
      exact ⟨h2, (Array.getElem?_eq_some_iff.1 h3).1⟩
  have LT2 := Lib.hid (HT.out.2.below (Nat.le_refl _) B2.out)
  have HNW := Lib.hid (p_new (L := s.size) (tokRow_owns RW.out) (fun g off e => (HLT.out g off e).2) LT2.out HTK.out)
  obtain ⟨c, hc⟩ : ∃ c, c = newC W2 oa cap toks s.size := ⟨_, rfl⟩
  rw [← hc] at HNW
  have HC := Lib.hid hc
  have z3 : Hid (w.heap.size + 3 ≤ W2.heap.size) := by have := z1.out; have := z2.out; simp only [Hid]; omega
  have cX : Hid (c.X = W2.heap.size) := by rw [hc]; rfl
  have cL : Hid (c.L = s.size ∧ c.at 0 = toks.map Res.tk) := by rw [hc]; exact ⟨rfl, rfl⟩
  have HEX : Hid (∀ W, Rd c W 0 → Calls Tryd.prog 27 #[c.ptr] W (RdPost c W Y (fun p v w' => pgR W.heap.size p v w'))) := fun W RW => by
    have := p_program (n := fuel (toks.map Res.tk)) RW (by rw [cL.out.2]; unfold fuel; omega)
    rw [cL.out.2, cL.out.1] at this
    rw [HY.out]
    exact this
  have HEN : Hid (∀ W k, Rd c W k → Calls Tryd.prog 36 #[c.ptr] W fun e w' => Fr c W w' ∧ e = match c.at k with | [] => .returned (.tuple #[]) | t :: _ => .panicked (flt t.pos 2)) := fun W k RW => p_end RW
  have HRW : Hid (∀ W k cs, Rd c W k → Rd c (W.setRow w.heap.size cs) k) := fun W k cs RW => RW.setRow cs (by rw [hc]; simp only [newC]; have := z3.out; omega) (fun b off e => by have := (HLT.out b off (by rw [hc] at e; exact e)).1; omega) (by have h1 := HT.out.2.size1; have h2 := HT.out.2.size2; omega)
  clear hc hoa
  unfold Par.ptr at *
  go_wp2_with fail
  go_at_call 35
  refine HNW.out.mono ?_
  rintro e w3 ⟨rfl, hb3, hR3⟩
  have O1 := Lib.hid (O1.out.below hb3)
  have O2 := Lib.hid (O2.out.below hb3)
  have O4 := Lib.hid (O4.out.below hb3)
  have B3 := Lib.hid (B2.out.trans (hb3.mono (by have := z3.out; omega)))
  have R3 := Lib.hid hR3
  have z4 : Hid (w.heap.size + 3 ≤ w3.heap.size) := by have := hb3.size; have := z3.out; simp only [Hid]; omega
  clear hb3 hR3 c5
  go_wp2_with fail
  go_at_call 27
  refine (HEX.out _ R3.out).mono ?_
  rintro e w4 ⟨hf4, hm⟩
  have xX : Hid (c.X ≠ w.heap.size ∧ c.X ≠ w.heap.size + 1 ∧ c.X ≠ w.heap.size + 1 + 1 ∧ w.heap.size ≤ c.X) := by have := z3.out; have := cX.out; simp only [Hid]; omega
  have O1 := Lib.hid (O1.out.fr hf4 xX.out.1)
  have O2 := Lib.hid (O2.out.fr hf4 xX.out.2.1)
  have O4 := Lib.hid (O4.out.fr hf4 xX.out.2.2.1)
  have B4 : Hid (Below w.heap.size w w4) := B3.out.trans (fr_below hf4 xX.out.2.2.2 (by have := z4.out; omega))
  rcases Y with ⟨x, r⟩ | ⟨p, q⟩
  rotate_left
  · obtain rfl := hm
    clear hf4
    go_wp2_with fail
    refine leaves_cons (f := 43) (args := #[.pointer (some ⟨w.heap.size, 0, none⟩), .pointer (some ⟨w.heap.size + 1, 0, none⟩), .pointer (some ⟨w.heap.size + 1 + 1, 0, none⟩)]) (by simp) (by simp [go_sem]) ?_
    refine (catch_pg (n := w.heap.size) O1.out rfl O2.out O4.out rfl (by omega) (by omega)).mono ?_
    rintro e u' w5 ⟨rfl, rfl, q1, q2, q3, hb⟩
    refine ⟨_, res3 rfl rfl rfl rfl (lv_row rowPg q1 rfl) (lv_err q2) (lv_row rowFl q3 rfl), B4.out.trans hb, ?_⟩
    rw [HR.out]
    exact ⟨_, rfl, rfl⟩
  obtain ⟨v, k4, rfl, hV, hR4, rfl⟩ := hm
  have z5 : Hid (w.heap.size + 3 ≤ w4.heap.size ∧ w3.heap.size ≤ w4.heap.size) := by have := Keep.size hf4; have := z4.out; simp only [Hid]; omega
  have HV := Lib.hid hV
  obtain ⟨a1, c1, a2, c2, a3, c3, rfl, _⟩ := hV
  obtain ⟨VV, hVV⟩ : ∃ VV : Array Value, VV = #[.slice a1 x.shared.length c1, .slice a2 x.locks.length c2, .slice a3 x.threads.length c3] := ⟨_, rfl⟩
  have VS : Hid (VV.size = zPg.size) := by rw [hVV]; rfl
  have P1 := Lib.hid (O1.out.row VV)
  have P2 := Lib.hid (O2.out.other (g := w.heap.size) VV (by omega))
  have P4 := Lib.hid (O4.out.other (g := w.heap.size) VV (by omega))
  have B5 := Lib.hid (Below.of_row B4.out (g := w.heap.size) (Nat.le_refl _) VV)
  have R5 := Lib.hid (HRW.out _ _ VV hR4)
  have V5 : Hid (pgR w3.heap.size x (.agg VV) (w4.setRow w.heap.size VV)) := by rw [hVV]; exact pgR_stays HV.out (stays_row w4 _ (fun b hb => by have := z4.out; omega)) (Nat.le_refl _)
  clear hf4 hR4
  have o1 := O1.out
  subst hVV
  go_wp2_with (first | (refine st rowPg rfl rfl o1 rfl rfl (by rfl) (by rfl) (by kernel_rfl) ?_))
  clear o1
  go_at_call 36
  refine (HEN.out _ _ R5.out).mono ?_
  rintro e w6 ⟨hf6, he⟩
  have z6 : Hid (w.heap.size + 3 ≤ w6.heap.size) := by have := Keep.size hf6; rw [size_setRow] at this; have := z5.out; simp only [Hid]; omega
  have P1 := Lib.hid (P1.out.fr hf6 xX.out.1)
  have P2 := Lib.hid (P2.out.fr hf6 xX.out.2.1)
  have P4 := Lib.hid (P4.out.fr hf6 xX.out.2.2.1)
  have B6 : Hid (Below w.heap.size w w6) := B5.out.trans (fr_below hf6 xX.out.2.2.2 (by rw [size_setRow]; have := z5.out; omega))
  have V6 : Hid (pgR w3.heap.size x (.agg #[.slice a1 x.shared.length c1, .slice a2 x.locks.length c2, .slice a3 x.threads.length c3]) w6) := pgR_stays V5.out (stays_fr hf6 (fun b hb => by have h1 := hb; have h2 := R3.out.lt; change w3.heap.size ≤ b at h1; omega)) (Nat.le_refl _)
  have HR : Hid (R = match c.at k4 with | [] => (some x, 0, 0, 0) | t :: _ => (none, 30, t.pos, 2)) := by
    rw [Hid, HR.out]
    show endR (match c.at k4 with | [] => PR.ok x [] | t :: _ => PR.bad t.pos 2) = _
    cases c.at k4 <;> rfl
  clear hf6
  generalize c.at k4 = ts at he HR
  cases ts with
  | cons t r =>
    subst he
    go_wp2_with fail
    refine leaves_cons (f := 43) (args := #[.pointer (some ⟨w.heap.size, 0, none⟩), .pointer (some ⟨w.heap.size + 1, 0, none⟩), .pointer (some ⟨w.heap.size + 1 + 1, 0, none⟩)]) (by simp) (by simp [go_sem]) ?_
    refine (catch_pg (n := w.heap.size) P1.out VS.out P2.out P4.out rfl (by omega) (by omega)).mono ?_
    rintro e u' w7 ⟨rfl, rfl, q1, q2, q3, hb⟩
    refine ⟨_, res3 rfl rfl rfl rfl (lv_row rowPg q1 rfl) (lv_err q2) (lv_row rowFl q3 rfl), B6.out.trans hb, ?_⟩
    rw [HR.out]
    exact ⟨_, rfl, rfl⟩
  | nil =>
    subst he
    have p1 := P1.out
    have e7 : (w6.setRow w.heap.size #[.slice a1 x.shared.length c1, .slice a2 x.locks.length c2, .slice a3 x.threads.length c3]).setCell ⟨w.heap.size + 1, 0, none⟩ (.int .i64 0) = (w6.setRow w.heap.size #[.slice a1 x.shared.length c1, .slice a2 x.locks.length c2, .slice a3 x.threads.length c3]).setRow (w.heap.size + 1) #[.int .i64 0] := setCell_row (P2.out.other (g := w.heap.size) #[.slice a1 x.shared.length c1, .slice a2 x.locks.length c2, .slice a3 x.threads.length c3] (by omega)) 0 _
    have c7 : (w6.setRow w.heap.size #[.slice a1 x.shared.length c1, .slice a2 x.locks.length c2, .slice a3 x.threads.length c3]).cell? ⟨w.heap.size + 1, 0, none⟩ = some (.int .i64 0) := by rw [cell_of_row _ _ 0 _ _ _ (P2.out.other (g := w.heap.size) #[.slice a1 x.shared.length c1, .slice a2 x.locks.length c2, .slice a3 x.threads.length c3] (by omega))]; rfl
    have f7 := own_frozen (P2.out.other (g := w.heap.size) #[.slice a1 x.shared.length c1, .slice a2 x.locks.length c2, .slice a3 x.threads.length c3] (by omega)) 0
    have q1 := Lib.hid (((P1.out.row #[.slice a1 x.shared.length c1, .slice a2 x.locks.length c2, .slice a3 x.threads.length c3]).other (g := w.heap.size + 1) #[.int .i64 0] (by omega)).other (g := w.heap.size + 1 + 1) #[.int .i64 0, .int .i64 0] (by omega))
    have q2 := Lib.hid (((P2.out.other (g := w.heap.size) #[.slice a1 x.shared.length c1, .slice a2 x.locks.length c2, .slice a3 x.threads.length c3] (by omega)).row #[.int .i64 0]).other (g := w.heap.size + 1 + 1) #[.int .i64 0, .int .i64 0] (by omega))
    have p4 := (P4.out.other (g := w.heap.size) #[.slice a1 x.shared.length c1, .slice a2 x.locks.length c2, .slice a3 x.threads.length c3] (by omega)).other (g := w.heap.size + 1) #[.int .i64 0] (by omega)
    have q4 := Lib.hid (p4.row #[.int .i64 0, .int .i64 0])
    have B7 := Lib.hid (Below.of_row (Below.of_row (Below.of_row B6.out (g := w.heap.size) (Nat.le_refl _) #[.slice a1 x.shared.length c1, .slice a2 x.locks.length c2, .slice a3 x.threads.length c3]) (g := w.heap.size + 1) (by omega) #[.int .i64 0]) (g := w.heap.size + 1 + 1) (by omega) #[.int .i64 0, .int .i64 0])
    have V7 : Hid (pgR w.heap.size x (.agg #[.slice a1 x.shared.length c1, .slice a2 x.locks.length c2, .slice a3 x.threads.length c3]) (((w6.setRow w.heap.size #[.slice a1 x.shared.length c1, .slice a2 x.locks.length c2, .slice a3 x.threads.length c3]).setRow (w.heap.size + 1) #[.int .i64 0]).setRow (w.heap.size + 1 + 1) #[.int .i64 0, .int .i64 0])) := pgR_stays V6.out (((stays_row w6 _ (fun b hb => by have := z4.out; change w3.heap.size ≤ b at hb; omega)).trans (stays_row _ _ (fun b hb => by have := z4.out; change w3.heap.size ≤ b at hb; omega))).trans (stays_row _ _ (fun b hb => by have := z4.out; change w3.heap.size ≤ b at hb; omega))) (by have := z4.out; omega)
    go_wp2_with (first | (refine ld rowPg rfl rfl rfl p1 rfl ?_) | (refine st rowPg rfl rfl p1 rfl rfl (by rfl) (by rfl) (by kernel_rfl) ?_) | (refine st rowFl rfl rfl p4 rfl rfl (by rfl) (by rfl) (by kernel_rfl) ?_))
    refine leaves_cons (f := 43) (args := #[.pointer (some ⟨w.heap.size, 0, none⟩), .pointer (some ⟨w.heap.size + 1, 0, none⟩), .pointer (some ⟨w.heap.size + 1 + 1, 0, none⟩)]) (by simp) (by simp [go_sem]) ?_
    refine (idle_P _ _ _ _).mono ?_
    rintro e u' w8 ⟨rfl, rfl, rfl⟩
    refine ⟨_, res3 rfl rfl rfl rfl (lv_row rowPg q1.out rfl) (lv_err q2.out) (lv_row rowFl q4.out rfl), B7.out, ?_⟩
    rw [HR.out]
    exact ⟨_, rfl, V7.out⟩
/-- A whole text. -/
theorem p_whole_P (s : ByteArray) {w : World} (T : LTabs w) (TW : Tabs w) :
    Calls Tryd.prog 26 #[.string s, .func (.func 27) #[] #[]] w (WhPost w zPg pgR (wholeR (fun L ts => progP fnd L (fuel ts) ts) s)) := by
  by_cases hl : 65536 < s.size
  · exact wh_long_P s T TW hl
  · by_cases hf : (frontR s).2.2 = 0
    · exact wh_go_P s T TW hl hf
    · exact wh_lex_P s T TW hl hf
end Go.Proofs.YtjpmdafaaonpoaaDoor

namespace Go.Proofs.YtjpmdafaaonpoaaDoor
open Go.RowKit
set_option linter.unusedVariables false
def said_E (s : ByteArray) := wholeR (fun L ts => binE fnd L (fuel ts) 1 0 ts) s
set_option maxRecDepth 100000 in
set_option maxHeartbeats 4000000 in
theorem p_Expr (s : ByteArray) {w : World} (T : LTabs w) (TW : Tabs w) : Calls Tryd.prog 7 #[.string s] w (WhPost w zEx exR (said_E s)) := by
  have HW : Hid (∀ W, LTabs W → Tabs W → Calls Tryd.prog 19 #[.string s, .func (.func 20) #[] #[]] W (WhPost W zEx exR (said_E s))) := fun W T TW => p_whole_E s T TW
  generalize said_E s = R at HW ⊢
  have O1 := (Own.new w 26 zEx).alloc (.cells #[.int .i64 0, .int .i64 0] 29)
  have O2 := Own.new (w.alloc (.cells zEx 26)) 29 #[.int .i64 0, .int .i64 0]
  have B0 : Below w.heap.size w ((w.alloc (.cells zEx 26)).alloc (.cells #[.int .i64 0, .int .i64 0] 29)) := ((Below.refl _ w).alloc (Nat.le_refl _) _).alloc (by simp only [World.size_alloc]; omega) _
  have z0 : Hid (((w.alloc (.cells zEx 26)).alloc (.cells #[.int .i64 0, .int .i64 0] 29)).heap.size = w.heap.size + 2) := by simp only [Hid, World.size_alloc]
  rw [World.size_alloc] at O2
  have T2 := Lib.hid (T.below (Nat.le_refl _) B0)
  have TW2 := Lib.hid (TW.below (Nat.le_refl _) B0)
  clear T TW
  unfold zEx at *
  go_enter Tryd.func7, Tryd.ntmps7
  go_wp2_with fail
  obtain ⟨W0, hW0⟩ : ∃ W, W = ((w.alloc (.cells #[.int .u8 0, .int .u8 0, .int .i64 0, .string ⟨#[]⟩, .slice none 0 0, .int .i64 0] 26)).alloc (.cells #[.int .i64 0, .int .i64 0] 29)) := ⟨_, rfl⟩
  rw [← hW0] at O1 O2 B0 z0 T2 TW2 ⊢
  clear hW0
  go_at_call 19
  refine (HW.out _ T2.out TW2.out).mono ?_
  rintro e w1 ⟨hb, v, rfl, hv⟩
  obtain ⟨r1, r2, r3, r4⟩ := R
  have O1 := O1.below hb
  have O2 := O2.below hb
  have B1 := Lib.hid (B0.trans (hb.mono (by have := z0.out; omega)))
  have z1 : Hid (w.heap.size + 2 ≤ w1.heap.size) := by have := hb.size; have := z0.out; simp only [Hid]; omega
  clear hb B0
  cases r1 with
  | none =>
    obtain rfl : v = .agg #[.int .u8 0, .int .u8 0, .int .i64 0, .string ⟨#[]⟩, .slice none 0 0, .int .i64 0] := hv
    have o2 := O2.other (g := w.heap.size) #[.int .u8 0, .int .u8 0, .int .i64 0, .string ⟨#[]⟩, .slice none 0 0, .int .i64 0] (by omega)
    have p1 := Lib.hid ((O1.row #[.int .u8 0, .int .u8 0, .int .i64 0, .string ⟨#[]⟩, .slice none 0 0, .int .i64 0]).other (g := w.heap.size + 1) #[.int .i64 r3, .int .i64 r4] (by omega))
    have p2 := Lib.hid (o2.row #[.int .i64 r3, .int .i64 r4])
    have B2 := Lib.hid (Below.of_row (Below.of_row B1.out (g := w.heap.size) (Nat.le_refl _) #[.int .u8 0, .int .u8 0, .int .i64 0, .string ⟨#[]⟩, .slice none 0 0, .int .i64 0]) (g := w.heap.size + 1) (by omega) #[.int .i64 r3, .int .i64 r4])
    go_wp2_with (first | (refine st rowEx rfl rfl O1 rfl rfl (by rfl) (by rfl) (by kernel_rfl) ?_) | (refine st rowFl rfl rfl o2 rfl rfl (by rfl) (by rfl) (by kernel_rfl) ?_))
    refine bodyPost_ret (res2 rfl rfl rfl rfl (lv_row rowEx p1.out rfl) (lv_row rowFl p2.out rfl)) rfl ⟨B2.out, _, rfl, rfl⟩
  | some x =>
    have hv : exR W0.heap.size x v w1 := hv
    have HV := Lib.hid hv
    obtain ⟨a6, c6, rfl, _⟩ := hv
    have o2 := O2.other (g := w.heap.size) #[.int .u8 x.kind, .int .u8 x.op, .int .i64 x.wd, .string x.name, .slice a6 x.kids.length c6, .int .i64 x.pos] (by omega)
    have p1 := Lib.hid ((O1.row #[.int .u8 x.kind, .int .u8 x.op, .int .i64 x.wd, .string x.name, .slice a6 x.kids.length c6, .int .i64 x.pos]).other (g := w.heap.size + 1) #[.int .i64 r3, .int .i64 r4] (by omega))
    have p2 := Lib.hid (o2.row #[.int .i64 r3, .int .i64 r4])
    have B2 := Lib.hid (Below.of_row (Below.of_row B1.out (g := w.heap.size) (Nat.le_refl _) #[.int .u8 x.kind, .int .u8 x.op, .int .i64 x.wd, .string x.name, .slice a6 x.kids.length c6, .int .i64 x.pos]) (g := w.heap.size + 1) (by omega) #[.int .i64 r3, .int .i64 r4])
    have V2 : Hid (exR w.heap.size x (.agg #[.int .u8 x.kind, .int .u8 x.op, .int .i64 x.wd, .string x.name, .slice a6 x.kids.length c6, .int .i64 x.pos]) ((w1.setRow w.heap.size #[.int .u8 x.kind, .int .u8 x.op, .int .i64 x.wd, .string x.name, .slice a6 x.kids.length c6, .int .i64 x.pos]).setRow (w.heap.size + 1) #[.int .i64 r3, .int .i64 r4])) := exR_stays HV.out ((stays_row w1 _ (fun b hb => by have := z0.out; omega)).trans (stays_row _ _ (fun b hb => by have := z0.out; omega))) (by have := z0.out; omega)
    go_wp2_with (first | (refine st rowEx rfl rfl O1 rfl rfl (by rfl) (by rfl) (by kernel_rfl) ?_) | (refine st rowFl rfl rfl o2 rfl rfl (by rfl) (by rfl) (by kernel_rfl) ?_))
    refine bodyPost_ret (res2 rfl rfl rfl rfl (lv_row rowEx p1.out rfl) (lv_row rowFl p2.out rfl)) rfl ⟨B2.out, _, rfl, V2.out⟩
def said_P (s : ByteArray) := wholeR (fun L ts => progP fnd L (fuel ts) ts) s
set_option maxRecDepth 100000 in
set_option maxHeartbeats 4000000 in
theorem p_Parse (s : ByteArray) {w : World} (T : LTabs w) (TW : Tabs w) : Calls Tryd.prog 12 #[.string s] w (WhPost w zPg pgR (said_P s)) := by
  have HW : Hid (∀ W, LTabs W → Tabs W → Calls Tryd.prog 26 #[.string s, .func (.func 27) #[] #[]] W (WhPost W zPg pgR (said_P s))) := fun W T TW => p_whole_P s T TW
  generalize said_P s = R at HW ⊢
  have O1 := (Own.new w 40 zPg).alloc (.cells #[.int .i64 0, .int .i64 0] 29)
  have O2 := Own.new (w.alloc (.cells zPg 40)) 29 #[.int .i64 0, .int .i64 0]
  have B0 : Below w.heap.size w ((w.alloc (.cells zPg 40)).alloc (.cells #[.int .i64 0, .int .i64 0] 29)) := ((Below.refl _ w).alloc (Nat.le_refl _) _).alloc (by simp only [World.size_alloc]; omega) _
  have z0 : Hid (((w.alloc (.cells zPg 40)).alloc (.cells #[.int .i64 0, .int .i64 0] 29)).heap.size = w.heap.size + 2) := by simp only [Hid, World.size_alloc]
  rw [World.size_alloc] at O2
  have T2 := Lib.hid (T.below (Nat.le_refl _) B0)
  have TW2 := Lib.hid (TW.below (Nat.le_refl _) B0)
  clear T TW
  unfold zPg at *
  go_enter Tryd.func12, Tryd.ntmps12
  go_wp2_with fail
  obtain ⟨W0, hW0⟩ : ∃ W, W = ((w.alloc (.cells #[.slice none 0 0, .slice none 0 0, .slice none 0 0] 40)).alloc (.cells #[.int .i64 0, .int .i64 0] 29)) := ⟨_, rfl⟩
  rw [← hW0] at O1 O2 B0 z0 T2 TW2 ⊢
  clear hW0
  go_at_call 26
  refine (HW.out _ T2.out TW2.out).mono ?_
  rintro e w1 ⟨hb, v, rfl, hv⟩
  obtain ⟨r1, r2, r3, r4⟩ := R
  have O1 := O1.below hb
  have O2 := O2.below hb
  have B1 := Lib.hid (B0.trans (hb.mono (by have := z0.out; omega)))
  have z1 : Hid (w.heap.size + 2 ≤ w1.heap.size) := by have := hb.size; have := z0.out; simp only [Hid]; omega
  clear hb B0
  cases r1 with
  | none =>
    obtain rfl : v = .agg #[.slice none 0 0, .slice none 0 0, .slice none 0 0] := hv
    have o2 := O2.other (g := w.heap.size) #[.slice none 0 0, .slice none 0 0, .slice none 0 0] (by omega)
    have p1 := Lib.hid ((O1.row #[.slice none 0 0, .slice none 0 0, .slice none 0 0]).other (g := w.heap.size + 1) #[.int .i64 r3, .int .i64 r4] (by omega))
    have p2 := Lib.hid (o2.row #[.int .i64 r3, .int .i64 r4])
    have B2 := Lib.hid (Below.of_row (Below.of_row B1.out (g := w.heap.size) (Nat.le_refl _) #[.slice none 0 0, .slice none 0 0, .slice none 0 0]) (g := w.heap.size + 1) (by omega) #[.int .i64 r3, .int .i64 r4])
    go_wp2_with (first | (refine st rowPg rfl rfl O1 rfl rfl (by rfl) (by rfl) (by kernel_rfl) ?_) | (refine st rowFl rfl rfl o2 rfl rfl (by rfl) (by rfl) (by kernel_rfl) ?_))
    refine bodyPost_ret (res2 rfl rfl rfl rfl (lv_row rowPg p1.out rfl) (lv_row rowFl p2.out rfl)) rfl ⟨B2.out, _, rfl, rfl⟩
  | some x =>
    have hv : pgR W0.heap.size x v w1 := hv
    have HV := Lib.hid hv
    obtain ⟨a1, c1, a2, c2, a3, c3, rfl, _⟩ := hv
    have o2 := O2.other (g := w.heap.size) #[.slice a1 x.shared.length c1, .slice a2 x.locks.length c2, .slice a3 x.threads.length c3] (by omega)
    have p1 := Lib.hid ((O1.row #[.slice a1 x.shared.length c1, .slice a2 x.locks.length c2, .slice a3 x.threads.length c3]).other (g := w.heap.size + 1) #[.int .i64 r3, .int .i64 r4] (by omega))
    have p2 := Lib.hid (o2.row #[.int .i64 r3, .int .i64 r4])
    have B2 := Lib.hid (Below.of_row (Below.of_row B1.out (g := w.heap.size) (Nat.le_refl _) #[.slice a1 x.shared.length c1, .slice a2 x.locks.length c2, .slice a3 x.threads.length c3]) (g := w.heap.size + 1) (by omega) #[.int .i64 r3, .int .i64 r4])
    have V2 : Hid (pgR w.heap.size x (.agg #[.slice a1 x.shared.length c1, .slice a2 x.locks.length c2, .slice a3 x.threads.length c3]) ((w1.setRow w.heap.size #[.slice a1 x.shared.length c1, .slice a2 x.locks.length c2, .slice a3 x.threads.length c3]).setRow (w.heap.size + 1) #[.int .i64 r3, .int .i64 r4])) := pgR_stays HV.out ((stays_row w1 _ (fun b hb => by have := z0.out; omega)).trans (stays_row _ _ (fun b hb => by have := z0.out; omega))) (by have := z0.out; omega)
    go_wp2_with (first | (refine st rowPg rfl rfl O1 rfl rfl (by rfl) (by rfl) (by kernel_rfl) ?_) | (refine st rowFl rfl rfl o2 rfl rfl (by rfl) (by rfl) (by kernel_rfl) ?_))
    refine bodyPost_ret (res2 rfl rfl rfl rfl (lv_row rowPg p1.out rfl) (lv_row rowFl p2.out rfl)) rfl ⟨B2.out, _, rfl, V2.out⟩
end Go.Proofs.YtjpmdafaaonpoaaDoor

namespace Go.Proofs.YtjpmdafaaonpoaaDoor
open Go.RowKit
set_option linter.unusedVariables false
def exB : Ex := .mk 4 1 0 ⟨#[]⟩ [.mk 1 0 1 ⟨#[]⟩ [] 30, .mk 4 3 0 ⟨#[]⟩ [.mk 1 0 2 ⟨#[]⟩ [] 34, .mk 2 0 0 ⟨#[120]⟩ [] 38] 36] 32
def pgB : Pg := ⟨[⟨⟨#[120]⟩, -3, 7⟩], [], [⟨⟨#[97]⟩, [], [.mk 1 ⟨#[120]⟩ ⟨#[]⟩ [exB] [] [] 26], 22⟩]⟩
def txt1 : List UInt8 := [115, 104, 97, 114, 101, 100, 32, 120, 32, 61, 32, 45, 51, 59, 32, 116, 104, 114, 101, 97, 100, 32, 97, 32, 123, 32, 120, 32, 61, 32, 49, 32, 43, 32, 50, 32, 42, 32, 120, 59, 32, 125]
def txt2 : List UInt8 := [116, 104, 114, 101, 97, 100, 32, 97, 32, 123, 32, 120, 32, 61, 32, 49, 32, 125]
set_option maxRecDepth 100000 in
theorem key1 : endR (endP (progP fnd 42 (fuel ((restL 0 txt1).1.map Res.tk)) ((restL 0 txt1).1.map Res.tk))) = (some pgB, 0, 0, 0) := by kernel_rfl
set_option maxRecDepth 100000 in
theorem key2 : endR (endP (progP fnd 18 (fuel ((restL 0 txt2).1.map Res.tk)) ((restL 0 txt2).1.map Res.tk))) = (none, 30, 17, 2) := by kernel_rfl
set_option maxRecDepth 100000 in
theorem said_one : said_P ⟨#[115, 104, 97, 114, 101, 100, 32, 120, 32, 61, 32, 45, 51, 59, 32, 116, 104, 114, 101, 97, 100, 32, 97, 32, 123, 32, 120, 32, 61, 32, 49, 32, 43, 32, 50, 32, 42, 32, 120, 59, 32, 125]⟩ = (some pgB, 0, 0, 0) := by
  unfold said_P wholeR
  have h : ¬ 65536 < (⟨#[115, 104, 97, 114, 101, 100, 32, 120, 32, 61, 32, 45, 51, 59, 32, 116, 104, 114, 101, 97, 100, 32, 97, 32, 123, 32, 120, 32, 61, 32, 49, 32, 43, 32, 50, 32, 42, 32, 120, 59, 32, 125]⟩ : ByteArray).size := by decide
  rw [if_neg h, front_list, if_neg (by
    intro h
    exact h (by kernel_rfl))]
  unfold scanX
  rw [if_neg h, front_list, if_pos (by kernel_rfl)]
  exact key1
set_option maxRecDepth 100000 in
theorem said_two : said_P ⟨#[116, 104, 114, 101, 97, 100, 32, 97, 32, 123, 32, 120, 32, 61, 32, 49, 32, 125]⟩ = (none, 30, 17, 2) := by
  unfold said_P wholeR
  have h : ¬ 65536 < (⟨#[116, 104, 114, 101, 97, 100, 32, 97, 32, 123, 32, 120, 32, 61, 32, 49, 32, 125]⟩ : ByteArray).size := by decide
  rw [if_neg h, front_list, if_neg (by
    intro h
    exact h (by kernel_rfl))]
  unfold scanX
  rw [if_neg h, front_list, if_pos (by kernel_rfl)]
  exact key2
end Go.Proofs.YtjpmdafaaonpoaaDoor

namespace Go.Proofs.YtjpmdafaaonpoaaDoor
open Go.RowKit
set_option linter.unusedVariables false
/-- The cells that are looked at. -/
theorem pgB_cells {n : Nat} {v : Value} {w : World} (h : pgR n pgB v w) : ∃ g1 q1 c1 a2 c2 g3 q3 c3 g4 q4 c4 g5 q5 c5 g6 q6 c6, v = .agg #[.slice (some ⟨g1, q1, none⟩) 1 c1, .slice a2 0 c2, .slice (some ⟨g3, q3, none⟩) 1 c3] ∧
    w.cell? ⟨g1, q1 + 1, none⟩ = some (.int .i64 (-3)) ∧ w.cell? ⟨g3, q3 + 2, none⟩ = some (.slice (some ⟨g4, q4, none⟩) 1 c4) ∧ w.cell? ⟨g4, q4 + 3, none⟩ = some (.slice (some ⟨g5, q5, none⟩) 1 c5) ∧
    w.cell? ⟨g5, q5 + 1, none⟩ = some (.int .u8 1) ∧ w.cell? ⟨g5, q5 + 4, none⟩ = some (.slice (some ⟨g6, q6, none⟩) 2 c6) ∧ w.cell? ⟨g6, q6 + 6 + 1, none⟩ = some (.int .u8 3) := by
  obtain ⟨a1, c1, a2, c2, a3, c3, rfl, h1, h2, h3⟩ := h
  rcases h1 with h1 | ⟨g1, q1, rfl, _, h1⟩
  · cases h1
  rcases h3 with h3 | ⟨g3, q3, rfl, _, h3⟩
  · cases h3
  obtain ⟨⟨_, d1, _⟩, _⟩ := h1
  obtain ⟨⟨_, _, ⟨a4, c4, t2, h4⟩, _⟩, _⟩ := h3
  rcases h4 with h4 | ⟨g4, q4, rfl, _, h4⟩
  · cases h4
  obtain ⟨⟨_, _, _, ⟨a5, c5, s3, h5⟩, _⟩, _⟩ := h4
  rcases h5 with h5 | ⟨g5, q5, rfl, _, h5⟩
  · cases h5
  obtain ⟨⟨_, e1, _, _, ⟨a6, c6, e4, h6⟩, _⟩, _⟩ := h5
  rcases h6 with h6 | ⟨g6, q6, rfl, _, h6⟩
  · cases h6
  obtain ⟨_, ⟨_, f1, _⟩, _⟩ := h6
  exact ⟨g1, q1, c1, a2, c2, g3, q3, c3, g4, q4, c4, g5, q5, c5, g6, q6, c6, rfl, d1, t2, s3, e1, e4, f1⟩
set_option maxRecDepth 100000 in
set_option maxHeartbeats 8000000 in
theorem p_lives {w : World} (T : LTabs w) (TW : Tabs w) : Calls Tryd.prog 9 #[] w fun e w' => e = .returned (.bool true) ∧ Below w.heap.size w w' := by
  have HP : Hid (∀ s W, LTabs W → Tabs W → Calls Tryd.prog 12 #[.string s] W (WhPost W zPg pgR (said_P s))) := fun s W T TW => p_Parse s T TW
  have HT := Lib.hid (And.intro T TW)
  clear T TW
  go_enter Tryd.func9, Tryd.ntmps9
  go_wp2_with fail
  go_at_call 12
  refine (HP.out ⟨#[115, 104, 97, 114, 101, 100, 32, 120, 32, 61, 32, 45, 51, 59, 32, 116, 104, 114, 101, 97, 100, 32, 97, 32, 123, 32, 120, 32, 61, 32, 49, 32, 43, 32, 50, 32, 42, 32, 120, 59, 32, 125]⟩ _ HT.out.1 HT.out.2).mono ?_
  rintro e w1 ⟨hb1, v, rfl, hv⟩
  rw [said_one] at hv ⊢
  have hv : pgR w.heap.size pgB v w1 := hv
  obtain ⟨g1, q1, c1, a2, c2, g3, q3, c3, g4, q4, c4, g5, q5, c5, g6, q6, c6, rfl, d1, d2, d3, d4, d5, d6⟩ := pgB_cells hv
  have l1 := lt_of_at d1
  have l2 := lt_of_at d2
  have l3 := lt_of_at d3
  have l4 := lt_of_at d4
  have l6 := lt_of_at d6
  simp only at l1 l2 l3 l4 l6
  clear hv
  have O1 := (Own.new w1 40 #[.slice (some ⟨g1, q1, none⟩) 1 c1, .slice a2 0 c2, .slice (some ⟨g3, q3, none⟩) 1 c3]).alloc (.cells #[.int .i64 0, .int .i64 0] 29)
  have Z1 := (Own.new w1 40 #[.slice none 0 0, .slice none 0 0, .slice none 0 0]).alloc (.cells #[.int .i64 0, .int .i64 0] 29)
  have Z2 := Own.new (w1.alloc (.cells #[.slice none 0 0, .slice none 0 0, .slice none 0 0] 40)) 29 #[.int .i64 0, .int .i64 0]
  rw [World.size_alloc] at Z2
  have Z2' := Z2.other (g := w1.heap.size) #[.slice (some ⟨g1, q1, none⟩) 1 c1, .slice a2 0 c2, .slice (some ⟨g3, q3, none⟩) 1 c3] (by omega)
  have P1 := Lib.hid ((Z1.row #[.slice (some ⟨g1, q1, none⟩) 1 c1, .slice a2 0 c2, .slice (some ⟨g3, q3, none⟩) 1 c3]).other (g := w1.heap.size + 1) #[.int .i64 0, .int .i64 0] (by omega))
  have B1 := Lib.hid (Below.of_row (Below.of_row (((Below.refl w1.heap.size w1).alloc (Nat.le_refl _) (.cells #[.slice none 0 0, .slice none 0 0, .slice none 0 0] 40)).alloc (by rw [World.size_alloc]; omega) (.cells #[.int .i64 0, .int .i64 0] 29)) (g := w1.heap.size) (Nat.le_refl _) #[.slice (some ⟨g1, q1, none⟩) 1 c1, .slice a2 0 c2, .slice (some ⟨g3, q3, none⟩) 1 c3]) (g := w1.heap.size + 1) (by omega) #[.int .i64 0, .int .i64 0])
  have zz : Hid (((((w1.alloc (.cells #[.slice none 0 0, .slice none 0 0, .slice none 0 0] 40)).alloc (.cells #[.int .i64 0, .int .i64 0] 29)).setRow w1.heap.size #[.slice (some ⟨g1, q1, none⟩) 1 c1, .slice a2 0 c2, .slice (some ⟨g3, q3, none⟩) 1 c3]).setRow (w1.heap.size + 1) #[.int .i64 0, .int .i64 0]).heap.size = w1.heap.size + 2) := by simp only [Hid, size_setRow, World.size_alloc]
  have HB1 := Lib.hid hb1
  have D := Lib.hid (And.intro d1 (And.intro d2 (And.intro d3 (And.intro d4 (And.intro d5 d6)))))
  have LL := Lib.hid (And.intro l1 (And.intro l2 (And.intro l3 (And.intro l4 l6))))
  clear O1 hb1 d1 d2 d3 d4 d5 d6 l1 l2 l3 l4 l6 Z2
  go_upto_region 2 with (first | (refine st rowPg rfl rfl Z1 rfl rfl (by rfl) (by rfl) (by kernel_rfl) ?_) | (refine st rowFl rfl rfl Z2' rfl rfl (by rfl) (by rfl) (by kernel_rfl) ?_))
  obtain ⟨W2, hW2⟩ : ∃ W, W = ((((w1.alloc (.cells #[.slice none 0 0, .slice none 0 0, .slice none 0 0] 40)).alloc (.cells #[.int .i64 0, .int .i64 0] 29)).setRow w1.heap.size #[.slice (some ⟨g1, q1, none⟩) 1 c1, .slice a2 0 c2, .slice (some ⟨g3, q3, none⟩) 1 c3]).setRow (w1.heap.size + 1) #[.int .i64 0, .int .i64 0]) := ⟨_, rfl⟩
  rw [← hW2] at P1 B1 zz ⊢
  clear hW2 Z1 Z2'
  have T2 : Hid (LTabs W2 ∧ Tabs W2) := ⟨(HT.out.1.below (Nat.le_refl _) HB1.out).below (Nat.le_refl _) B1.out, (HT.out.2.below (Nat.le_refl _) HB1.out).below (Nat.le_refl _) B1.out⟩
  go_wp2_with fail
  go_at_call 12
  refine (HP.out ⟨#[116, 104, 114, 101, 97, 100, 32, 97, 32, 123, 32, 120, 32, 61, 32, 49, 32, 125]⟩ _ T2.out.1 T2.out.2).mono ?_
  rintro e w3 ⟨hb3, v, rfl, hv⟩
  rw [said_two] at hv ⊢
  obtain rfl : v = .agg #[.slice none 0 0, .slice none 0 0, .slice none 0 0] := hv
  have Y1 := (Own.new w3 40 #[.slice none 0 0, .slice none 0 0, .slice none 0 0]).alloc (.cells #[.int .i64 0, .int .i64 0] 29)
  have Y2 := Own.new (w3.alloc (.cells #[.slice none 0 0, .slice none 0 0, .slice none 0 0] 40)) 29 #[.int .i64 0, .int .i64 0]
  rw [World.size_alloc] at Y2
  have Y2' := Y2.other (g := w3.heap.size) #[.slice none 0 0, .slice none 0 0, .slice none 0 0] (by omega)
  have E2 := Y2'.row #[.int .i64 17, .int .i64 2]
  have B3 := Below.of_row (Below.of_row (((Below.refl w3.heap.size w3).alloc (Nat.le_refl _) (.cells #[.slice none 0 0, .slice none 0 0, .slice none 0 0] 40)).alloc (by rw [World.size_alloc]; omega) (.cells #[.int .i64 0, .int .i64 0] 29)) (g := w3.heap.size) (Nat.le_refl _) #[.slice none 0 0, .slice none 0 0, .slice none 0 0]) (g := w3.heap.size + 1) (by omega) #[.int .i64 17, .int .i64 2]
  have s12 : w1.heap.size + 2 ≤ W2.heap.size := by have := zz.out; omega
  have s23 := hb3.size
  have A1 := (P1.out.below hb3).below B3
  have BB := ((B1.out.trans (hb3.mono (by omega))).trans (B3.mono (by omega)))
  have HBB := Lib.hid BB
  have HA1 := Lib.hid A1
  have HE2 := Lib.hid E2
  clear hb3 Y2 A1 B3 BB E2 s12 s23
  go_upto_region 3 with (first | (refine st rowPg rfl rfl Y1 rfl rfl (by rfl) (by rfl) (by kernel_rfl) ?_) | (refine st rowFl rfl rfl Y2' rfl rfl (by rfl) (by rfl) (by kernel_rfl) ?_))
  obtain ⟨W4, hW4⟩ : ∃ W, W = ((((w3.alloc (.cells #[.slice none 0 0, .slice none 0 0, .slice none 0 0] 40)).alloc (.cells #[.int .i64 0, .int .i64 0] 29)).setRow w3.heap.size #[.slice none 0 0, .slice none 0 0, .slice none 0 0]).setRow (w3.heap.size + 1) #[.int .i64 17, .int .i64 2]) := ⟨_, rfl⟩
  rw [← hW4] at HBB HA1 HE2 ⊢
  clear hW4 Y1 Y2'
  obtain ⟨d1, d2, d3, d4, d5, d6⟩ := D.out
  obtain ⟨l1, l2, l3, l4, l6⟩ := LL.out
  have d1 := (HBB.out.cell (p := ⟨g1, q1 + 1, none⟩) l1).trans d1
  have d2 := (HBB.out.cell (p := ⟨g3, q3 + 2, none⟩) l2).trans d2
  have d3 := (HBB.out.cell (p := ⟨g4, q4 + 3, none⟩) l3).trans d3
  have d4 := (HBB.out.cell (p := ⟨g5, q5 + 1, none⟩) l4).trans d4
  have d5 := (HBB.out.cell (p := ⟨g5, q5 + 4, none⟩) l4).trans d5
  have d6 := (HBB.out.cell (p := ⟨g6, q6 + 6 + 1, none⟩) l6).trans d6
  have f0 : W4.cell? ⟨w1.heap.size, 0, none⟩ = some (.slice (some ⟨g1, q1, none⟩) 1 c1) := by rw [cell_of_row _ _ 0 _ _ _ HA1.out]; rfl
  have f2 : W4.cell? ⟨w1.heap.size, 2, none⟩ = some (.slice (some ⟨g3, q3, none⟩) 1 c3) := by rw [cell_of_row _ _ 2 _ _ _ HA1.out]; rfl
  have e0 : W4.cell? ⟨w3.heap.size + 1, 0, none⟩ = some (.int .i64 17) := by rw [cell_of_row _ _ 0 _ _ _ HE2.out]; rfl
  have e1 : W4.cell? ⟨w3.heap.size + 1, 1, none⟩ = some (.int .i64 2) := by rw [cell_of_row _ _ 1 _ _ _ HE2.out]; rfl
  clear l1 l2 l3 l4 l6
  go_wp2
  go_ret
  exact ⟨rfl, HB1.out.trans (HBB.out.mono HB1.out.size)⟩
end Go.Proofs.YtjpmdafaaonpoaaDoor

namespace Go.Proofs.YtjpmdafaaonpoaaDoor
set_option linter.unusedVariables false
theorem said_list {l : List UInt8} (h : l.length ≤ 65536) (hf : (restL 0 l).2.2 = 0) : said_E ⟨l.toArray⟩ = endR (endP (binE fnd (l.length : Nat) (fuel ((restL 0 l).1.map Res.tk)) 1 0 ((restL 0 l).1.map Res.tk))) := by
  have hsz : (⟨l.toArray⟩ : ByteArray).size = l.length := by simp [ByteArray.size]
  have h1 : ¬ 65536 < (⟨l.toArray⟩ : ByteArray).size := by rw [hsz]; omega
  have hfr : frontR ⟨l.toArray⟩ = restL 0 l := by rw [front_list]
  unfold said_E wholeR scanX
  rw [if_neg h1, hfr, hsz, if_neg (by simpa using hf), if_neg (by omega : ¬ 65536 < l.length), if_pos hf]
def lvText (a b : Nat) (less : Bool) : List UInt8 := [120, 32] ++ sgnAt a ++ [32, 121, 32] ++ sgnAt b ++ [32] ++ (if less then [45, 32, 122] else [122])
def goodE (a b : Int) : Ex → Bool
  | .mk k o _ _ [.mk _ o0 _ n0 ks0 _, .mk _ o1 _ _ _ _] _ => k == 4 && (if levelOf b > levelOf a then o == a && n0.data.toList == [120] && o1 == b else o == b && o0 == a && (match ks0 with | [_, .mk _ _ _ n _ _] => n.data.toList == [121] | _ => false))
  | _ => false
def goodR (a b : Int) : Option Ex × Int × Int × Int → Bool
  | (some e, 0, 0, 0) => goodE a b e
  | _ => false
def lvOk (a b : Nat) (less : Bool) : Bool :=
  (restL 0 (lvText a b less)).2.2 == 0 && goodR a b (endR (endP (binE fnd ((lvText a b less).length : Nat) (fuel ((restL 0 (lvText a b less)).1.map Res.tk)) 1 0 ((restL 0 (lvText a b less)).1.map Res.tk))))
set_option maxRecDepth 100000 in
theorem lv_all : ((List.range 16).all fun a => (List.range 16).all fun b => lvOk (a + 1) (b + 1) false && lvOk (a + 1) (b + 1) true) = true := by kernel_rfl
theorem lv_len : ((List.range 16).all fun a => (List.range 16).all fun b => decide ((lvText (a + 1) (b + 1) false).length ≤ 65536) && decide ((lvText (a + 1) (b + 1) true).length ≤ 65536)) = true := by kernel_rfl
theorem lv_said {a b : Nat} (ha : 1 ≤ a ∧ a ≤ 16) (hb : 1 ≤ b ∧ b ≤ 16) (less : Bool) : ∃ e, said_E ⟨(lvText a b less).toArray⟩ = (some e, 0, 0, 0) ∧ goodE a b e = true := by
  have h1 := List.all_eq_true.1 (List.all_eq_true.1 lv_all (a - 1) (List.mem_range.2 (by omega))) (b - 1) (List.mem_range.2 (by omega))
  have h2 := List.all_eq_true.1 (List.all_eq_true.1 lv_len (a - 1) (List.mem_range.2 (by omega))) (b - 1) (List.mem_range.2 (by omega))
  have ea : a - 1 + 1 = a := by omega
  have eb : b - 1 + 1 = b := by omega
  rw [ea, eb] at h1 h2
  simp only [Bool.and_eq_true, decide_eq_true_eq] at h1 h2
  have h3 : lvOk a b less = true := by cases less; exact h1.1; exact h1.2
  have h4 : (lvText a b less).length ≤ 65536 := by cases less; exact h2.1; exact h2.2
  unfold lvOk at h3
  simp only [Bool.and_eq_true, beq_iff_eq] at h3
  rw [said_list h4 h3.1]
  have h5 := h3.2
  generalize endR (endP (binE fnd ((lvText a b less).length : Nat) (fuel ((restL 0 (lvText a b less)).1.map Res.tk)) 1 0 ((restL 0 (lvText a b less)).1.map Res.tk))) = R at h5 ⊢
  obtain ⟨r1, r2, r3, r4⟩ := R
  unfold goodR at h5
  split at h5
  · rename_i e he
    cases he
    exact ⟨e, rfl, h5⟩
  · cases h5
end Go.Proofs.YtjpmdafaaonpoaaDoor

namespace Go.Proofs.YtjpmdafaaonpoaaDoor
open Go.RowKit
set_option linter.unusedVariables false
theorem two_range {a : Int} (h0 : 0 ≤ a) (h1 : 0 < levelOf a) (h2 : levelOf a < 9) : ∃ k : Nat, a = k ∧ 1 ≤ k ∧ k ≤ 16 := by
  obtain ⟨k, rfl⟩ : ∃ k : Nat, a = k := ⟨a.toNat, by omega⟩
  refine ⟨k, rfl, ?_⟩
  apply Classical.byContradiction
  intro hn
  have hk : k = 0 ∨ k = 17 ∨ k = 18 ∨ 19 ≤ k := by omega
  rcases hk with rfl | rfl | rfl | hk
  · revert h1; decide
  · revert h2; decide
  · revert h2; decide
  · have : levelOf (k : Int) = 0 := by unfold levelOf; rw [if_pos (by omega)]
    omega
theorem of_bytes {s : ByteArray} {l : List UInt8} (h : s.data.toList = l) : s = ⟨l.toArray⟩ := ByteArray.ext (Array.ext' (by rw [h]))
theorem good_hi {a b : Int} {e : Ex} (h : goodE a b e = true) (hl : levelOf b > levelOf a) : ∃ wd nm p k0 o0 w0 ks0 p0 k1 w1 n1 ks1 p1, e = .mk 4 a wd nm [.mk k0 o0 w0 ⟨#[120]⟩ ks0 p0, .mk k1 b w1 n1 ks1 p1] p := by
  unfold goodE at h
  split at h
  · rename_i k o wd nm k0 o0 w0 n0 ks0 p0 k1 o1 w1 n1 ks1 p1 p
    rw [if_pos hl] at h
    simp only [Bool.and_eq_true, beq_iff_eq] at h
    obtain ⟨rfl, ⟨rfl, h2⟩, rfl⟩ := h
    have := of_bytes h2
    subst this
    exact ⟨wd, nm, p, k0, o0, w0, ks0, p0, k1, w1, n1, ks1, p1, rfl⟩
  · cases h
theorem good_lo {a b : Int} {e : Ex} (h : goodE a b e = true) (hl : ¬ levelOf b > levelOf a) : ∃ wd nm p k0 w0 n0 p0 kk k2 o2 w2 ks2 p2 k1 o1 w1 n1 ks1 p1, e = .mk 4 b wd nm [.mk k0 a w0 n0 [kk, .mk k2 o2 w2 ⟨#[121]⟩ ks2 p2] p0, .mk k1 o1 w1 n1 ks1 p1] p := by
  unfold goodE at h
  split at h
  · rename_i k o wd nm k0 o0 w0 n0 ks0 p0 k1 o1 w1 n1 ks1 p1 p
    rw [if_neg hl] at h
    simp only [Bool.and_eq_true, beq_iff_eq] at h
    obtain ⟨rfl, ⟨rfl, rfl⟩, h2⟩ := h
    split at h2
    · rename_i kk k2 o2 w2 n2 ks2 p2
      have h2 : n2.data.toList = [121] := by simpa using h2
      have := of_bytes h2
      subst this
      exact ⟨wd, nm, p, k0, w0, n0, p0, kk, k2, o2, w2, ks2, p2, k1, o1, w1, n1, ks1, p1, rfl⟩
    · cases h2
  · cases h
theorem sgnAt_len (k : Nat) (h : k ≤ 16) : (sgnAt k).length ≤ 2 := by
  have : ((List.range 17).all fun k => decide ((sgnAt k).length ≤ 2)) = true := by decide
  have := List.all_eq_true.1 this k (List.mem_range.2 (by omega))
  simpa using this
theorem append_to (a b : List UInt8) : (⟨a.toArray⟩ : ByteArray) ++ ⟨b.toArray⟩ = ⟨(a ++ b).toArray⟩ := by
  apply ByteArray.ext
  simp
set_option maxRecDepth 100000 in
set_option maxHeartbeats 600000 in
theorem levels_no1 (a b : Int) (less : Bool) (ha0 : 0 ≤ a) (ha1 : a ≤ 255) (hl : levelOf a = 0 ∨ levelOf a = 9) (w : World) (TT : LTabs w ∧ Tabs w) : Calls Tryd.prog 6 #[.int .u8 a, .int .u8 b, .bool less] w fun e w' => e = .returned (.bool true) ∧ Below w.heap.size w w' := by
  have HL := Lib.hid (p_lives TT.1 TT.2)
  have H2 : Hid (∀ W, Below w.heap.size w W → Calls Tryd.prog 16 #[.int .u8 a] W fun e w' => e = .returned (.bool false) ∧ W = w') := fun W hb => two_no a ha0 ha1 hl W (TT.2.below (Nat.le_refl _) hb)
  clear TT hl ha0 ha1
  go_enter Tryd.func6, Tryd.ntmps6
  go_wp2_with (first
    | (go_at_call 9; refine (HL.out).mono ?_; rintro e w1 ⟨rfl, hb⟩; have HB := Lib.hid hb; clear hb)
    | (go_at_call 16; refine (H2.out _ HB.out).mono ?_; rintro e w2 ⟨rfl, rfl⟩))
  go_ret
  exact ⟨rfl, HB.out⟩
set_option maxRecDepth 100000 in
set_option maxHeartbeats 600000 in
theorem levels_no2 (a b : Int) (less : Bool) (ha0 : 0 ≤ a) (ha1 : a ≤ 255) (hl1 : 0 < levelOf a) (hl2 : levelOf a < 9) (hb0 : 0 ≤ b) (hb1 : b ≤ 255) (hl : levelOf b = 0 ∨ levelOf b = 9) (w : World) (TT : LTabs w ∧ Tabs w) : Calls Tryd.prog 6 #[.int .u8 a, .int .u8 b, .bool less] w fun e w' => e = .returned (.bool true) ∧ Below w.heap.size w w' := by
  have HL := Lib.hid (p_lives TT.1 TT.2)
  have H1 : Hid (∀ W, Below w.heap.size w W → Calls Tryd.prog 16 #[.int .u8 a] W fun e w' => e = .returned (.bool true) ∧ W = w') := fun W hb => two_yes a ha0 ha1 hl1 hl2 W (TT.2.below (Nat.le_refl _) hb)
  have H2 : Hid (∀ W, Below w.heap.size w W → Calls Tryd.prog 16 #[.int .u8 b] W fun e w' => e = .returned (.bool false) ∧ W = w') := fun W hb => two_no b hb0 hb1 hl W (TT.2.below (Nat.le_refl _) hb)
  clear TT hl ha0 ha1 hl1 hl2 hb0 hb1
  go_enter Tryd.func6, Tryd.ntmps6
  go_wp2_with fail
  go_at_call 9
  refine (HL.out).mono ?_
  rintro e w1 ⟨rfl, hb⟩
  have HB := Lib.hid hb
  clear hb
  go_wp2_with fail
  go_at_call 16
  refine (H1.out _ HB.out).mono ?_
  rintro e w2 ⟨rfl, rfl⟩
  go_wp2_with fail
  go_at_call 16
  refine (H2.out _ HB.out).mono ?_
  rintro e w2 ⟨rfl, rfl⟩
  go_wp2_with fail
  go_ret
  exact ⟨rfl, HB.out⟩
set_option maxRecDepth 100000 in
set_option maxHeartbeats 600000 in
theorem levels_hi_false (a b : Int) (less : Bool) (hle : less = false) (ha0 : 0 ≤ a) (ha1 : a ≤ 255) (hl1 : 0 < levelOf a) (hl2 : levelOf a < 9) (hb0 : 0 ≤ b) (hb1 : b ≤ 255) (hm1 : 0 < levelOf b) (hm2 : levelOf b < 9) (hh : levelOf b > levelOf a) (w : World) (TT : LTabs w ∧ Tabs w) : Calls Tryd.prog 6 #[.int .u8 a, .int .u8 b, .bool less] w fun e w' => e = .returned (.bool true) ∧ Below w.heap.size w w' := by
  subst hle
  have HL := Lib.hid (p_lives TT.1 TT.2)
  obtain ⟨ka, eka, ka1, ka2⟩ := two_range ha0 hl1 hl2
  obtain ⟨kb, ekb, kb1, kb2⟩ := two_range hb0 hm1 hm2
  obtain ⟨E, hE, hG⟩ := lv_said ⟨ka1, ka2⟩ ⟨kb1, kb2⟩ false
  rw [← eka, ← ekb] at hG
  have HV1 : Hid (∀ W, Below w.heap.size w W → Calls Tryd.prog 18 #[.int .u8 a] W fun e w' => e = .returned (.int .i64 (levelOf a)) ∧ W = w') := fun W hb => level_any a ha0 ha1 W (TT.2.below (Nat.le_refl _) hb)
  have HV2 : Hid (∀ W, Below w.heap.size w W → Calls Tryd.prog 18 #[.int .u8 b] W fun e w' => e = .returned (.int .i64 (levelOf b)) ∧ W = w') := fun W hb => level_any b hb0 hb1 W (TT.2.below (Nat.le_refl _) hb)
  have H1 : Hid (∀ W, Below w.heap.size w W → Calls Tryd.prog 16 #[.int .u8 a] W fun e w' => e = .returned (.bool true) ∧ W = w') := fun W hb => two_yes a ha0 ha1 hl1 hl2 W (TT.2.below (Nat.le_refl _) hb)
  have H2 : Hid (∀ W, Below w.heap.size w W → Calls Tryd.prog 16 #[.int .u8 b] W fun e w' => e = .returned (.bool true) ∧ W = w') := fun W hb => two_yes b hb0 hb1 hm1 hm2 W (TT.2.below (Nat.le_refl _) hb)
  have S1 : Hid (∀ W, Below w.heap.size w W → Calls Tryd.prog 17 #[.int .u8 a] W fun e w' => e = .returned (.string ⟨(sgnAt ka).toArray⟩) ∧ W = w') := fun W hb => by rw [← signOf_nat ka (by omega), ← eka]; exact show_any a ha0 ha1 W (TT.2.below (Nat.le_refl _) hb)
  have S2 : Hid (∀ W, Below w.heap.size w W → Calls Tryd.prog 17 #[.int .u8 b] W fun e w' => e = .returned (.string ⟨(sgnAt kb).toArray⟩) ∧ W = w') := fun W hb => by rw [← signOf_nat kb (by omega), ← ekb]; exact show_any b hb0 hb1 W (TT.2.below (Nat.le_refl _) hb)
  have HX : Hid (∀ s W, Below w.heap.size w W → Calls Tryd.prog 7 #[.string s] W (WhPost W zEx exR (said_E s))) := fun s W hb => p_Expr s (TT.1.below (Nat.le_refl _) hb) (TT.2.below (Nat.le_refl _) hb)
  have hC := good_hi hG hh
  have HC := Lib.hid hC
  have HE := Lib.hid hE
  have ETX : Hid (∀ s : ByteArray, s.data.toList = lvText ka kb false → said_E s = (some E, 0, 0, 0)) := fun s h => by
    have : s = ⟨(lvText ka kb false).toArray⟩ := ByteArray.ext (Array.ext' (by rw [h]))
    rw [this]; exact HE.out
  generalize hsa : (⟨(sgnAt ka).toArray⟩ : ByteArray) = sa at S1
  generalize hsb : (⟨(sgnAt kb).toArray⟩ : ByteArray) = sb at S2
  have HSA : Hid (sa.data.toList = sgnAt ka) := by simp only [Hid, ← hsa]
  have HSB : Hid (sb.data.toList = sgnAt kb) := by simp only [Hid, ← hsb]
  have zsa : sa.size ≤ 2 := by
    have h1 : sa.size = (sgnAt ka).length := by rw [← HSA.out, Array.length_toList]; rfl
    have h2 := sgnAt_len ka ka2
    omega
  have zsb : sb.size ≤ 2 := by
    have h1 : sb.size = (sgnAt kb).length := by rw [← HSB.out, Array.length_toList]; rfl
    have h2 := sgnAt_len kb kb2
    omega
  clear TT hl1 hl2 hm1 hm2 hG hC hE hsa hsb eka ekb ka1 ka2 kb1 kb2 ha0 ha1 hb0 hb1
  obtain ⟨la, hla⟩ : ∃ x, x = levelOf a := ⟨_, rfl⟩
  obtain ⟨lb, hlb⟩ : ∃ x, x = levelOf b := ⟨_, rfl⟩
  rw [← hla] at HV1 hh
  rw [← hlb] at HV2 hh
  clear hla hlb
  go_enter Tryd.func6, Tryd.ntmps6
  go_wp2_with fail
  go_at_call 9
  refine (HL.out).mono ?_
  rintro e w1 ⟨rfl, hb⟩
  have HB := Lib.hid hb
  clear hb
  go_wp2_with fail
  go_at_call 16
  refine (H1.out _ HB.out).mono ?_
  rintro e w2 ⟨rfl, rfl⟩
  go_wp2_with fail
  go_at_call 16
  refine (H2.out _ HB.out).mono ?_
  rintro e w2 ⟨rfl, rfl⟩
  go_wp2_with fail
  try (go_at_call 17)
  refine (S1.out _ HB.out).mono ?_
  rintro e w2 ⟨rfl, rfl⟩
  go_wp2_with fail
  try (go_at_call 17)
  refine (S2.out _ HB.out).mono ?_
  rintro e w2 ⟨rfl, rfl⟩
  go_wp2_with fail
  go_at_call 7
  refine (HX.out _ _ HB.out).mono ?_
  rintro e w3 ⟨hb3, v, rfl, hv⟩
  rw [ETX.out _ (by simp [lvText, HSA.out, HSB.out])] at hv ⊢
  have hv : exR w1.heap.size E v w3 := hv
  obtain ⟨wd, nm, p, k0, o0, w0, ks0, p0, k1, w9, n1, ks1, p1, rfl⟩ := HC.out
  obtain ⟨a6, c6, hvv, hk⟩ := hv
  rcases hk with hk | ⟨g, q, rfl, _, hk⟩
  · cases hk
  obtain rfl : v = .agg #[.int .u8 4, .int .u8 a, .int .i64 wd, .string nm, .slice (some ⟨g, q, none⟩) 2 c6, .int .i64 p] := hvv
  obtain ⟨⟨_, _, _, d3, _⟩, ⟨⟨_, e1, _⟩, _⟩⟩ := hk
  have l1 := lt_of_at d3
  simp only at l1
  have Z1 := (Own.new w3 26 #[.int .u8 0, .int .u8 0, .int .i64 0, .string ⟨#[]⟩, .slice none 0 0, .int .i64 0]).alloc (.cells #[.int .i64 0, .int .i64 0] 29)
  have Z2 := Own.new (w3.alloc (.cells #[.int .u8 0, .int .u8 0, .int .i64 0, .string ⟨#[]⟩, .slice none 0 0, .int .i64 0] 26)) 29 #[.int .i64 0, .int .i64 0]
  rw [World.size_alloc] at Z2
  have Z2' := Z2.other (g := w3.heap.size) #[.int .u8 4, .int .u8 a, .int .i64 wd, .string nm, .slice (some ⟨g, q, none⟩) 2 c6, .int .i64 p] (by omega)
  have P1 := Lib.hid ((Z1.row #[.int .u8 4, .int .u8 a, .int .i64 wd, .string nm, .slice (some ⟨g, q, none⟩) 2 c6, .int .i64 p]).other (g := w3.heap.size + 1) #[.int .i64 0, .int .i64 0] (by omega))
  have B3 := Below.of_row (Below.of_row (((Below.refl w3.heap.size w3).alloc (Nat.le_refl _) (.cells #[.int .u8 0, .int .u8 0, .int .i64 0, .string ⟨#[]⟩, .slice none 0 0, .int .i64 0] 26)).alloc (by rw [World.size_alloc]; omega) (.cells #[.int .i64 0, .int .i64 0] 29)) (g := w3.heap.size) (Nat.le_refl _) #[.int .u8 4, .int .u8 a, .int .i64 wd, .string nm, .slice (some ⟨g, q, none⟩) 2 c6, .int .i64 p]) (g := w3.heap.size + 1) (by omega) #[.int .i64 0, .int .i64 0]
  have HB4 := Lib.hid ((HB.out.trans (hb3.mono HB.out.size)).trans (B3.mono (Nat.le_trans HB.out.size hb3.size)))
  have d3 := (B3.cell (p := ⟨g, q + 3, none⟩) l1).trans d3
  have e1 := (B3.cell (p := ⟨g, q + 6 + 1, none⟩) l1).trans e1
  clear l1
  clear Z2 hb3 B3
  go_upto_region 9 with (first | (refine st rowEx rfl rfl Z1 rfl rfl (by rfl) (by rfl) (by kernel_rfl) ?_) | (refine st rowFl rfl rfl Z2' rfl rfl (by rfl) (by rfl) (by kernel_rfl) ?_))
  obtain ⟨W4, hW4⟩ : ∃ W, W = ((((w3.alloc (.cells #[.int .u8 0, .int .u8 0, .int .i64 0, .string ⟨#[]⟩, .slice none 0 0, .int .i64 0] 26)).alloc (.cells #[.int .i64 0, .int .i64 0] 29)).setRow w3.heap.size #[.int .u8 4, .int .u8 a, .int .i64 wd, .string nm, .slice (some ⟨g, q, none⟩) 2 c6, .int .i64 p]).setRow (w3.heap.size + 1) #[.int .i64 0, .int .i64 0]) := ⟨_, rfl⟩
  rw [← hW4] at P1 HB4 d3 e1 ⊢
  clear hW4 Z1 Z2'
  have f0 : W4.cell? ⟨w3.heap.size, 0, none⟩ = some (.int .u8 4) := by rw [cell_of_row _ _ 0 _ _ _ P1.out]; rfl
  have f1 : W4.cell? ⟨w3.heap.size, 1, none⟩ = some (.int .u8 a) := by rw [cell_of_row _ _ 1 _ _ _ P1.out]; rfl
  have f4 : W4.cell? ⟨w3.heap.size, 4, none⟩ = some (.slice (some ⟨g, q, none⟩) 2 c6) := by rw [cell_of_row _ _ 4 _ _ _ P1.out]; rfl
  go_wp2_with fail
  go_at_call 18
  refine (HV2.out _ HB4.out).mono ?_
  rintro e w5 ⟨rfl, rfl⟩
  go_wp2_with fail
  go_at_call 18
  refine (HV1.out _ HB4.out).mono ?_
  rintro e w5 ⟨rfl, rfl⟩
  go_wp2_with fail
  go_ret
  exact ⟨rfl, HB4.out⟩
set_option maxRecDepth 100000 in
set_option maxHeartbeats 600000 in
theorem levels_lo_false (a b : Int) (less : Bool) (hle : less = false) (ha0 : 0 ≤ a) (ha1 : a ≤ 255) (hl1 : 0 < levelOf a) (hl2 : levelOf a < 9) (hb0 : 0 ≤ b) (hb1 : b ≤ 255) (hm1 : 0 < levelOf b) (hm2 : levelOf b < 9) (hh : ¬ levelOf b > levelOf a) (w : World) (TT : LTabs w ∧ Tabs w) : Calls Tryd.prog 6 #[.int .u8 a, .int .u8 b, .bool less] w fun e w' => e = .returned (.bool true) ∧ Below w.heap.size w w' := by
  subst hle
  have HL := Lib.hid (p_lives TT.1 TT.2)
  obtain ⟨ka, eka, ka1, ka2⟩ := two_range ha0 hl1 hl2
  obtain ⟨kb, ekb, kb1, kb2⟩ := two_range hb0 hm1 hm2
  obtain ⟨E, hE, hG⟩ := lv_said ⟨ka1, ka2⟩ ⟨kb1, kb2⟩ false
  rw [← eka, ← ekb] at hG
  have HV1 : Hid (∀ W, Below w.heap.size w W → Calls Tryd.prog 18 #[.int .u8 a] W fun e w' => e = .returned (.int .i64 (levelOf a)) ∧ W = w') := fun W hb => level_any a ha0 ha1 W (TT.2.below (Nat.le_refl _) hb)
  have HV2 : Hid (∀ W, Below w.heap.size w W → Calls Tryd.prog 18 #[.int .u8 b] W fun e w' => e = .returned (.int .i64 (levelOf b)) ∧ W = w') := fun W hb => level_any b hb0 hb1 W (TT.2.below (Nat.le_refl _) hb)
  have H1 : Hid (∀ W, Below w.heap.size w W → Calls Tryd.prog 16 #[.int .u8 a] W fun e w' => e = .returned (.bool true) ∧ W = w') := fun W hb => two_yes a ha0 ha1 hl1 hl2 W (TT.2.below (Nat.le_refl _) hb)
  have H2 : Hid (∀ W, Below w.heap.size w W → Calls Tryd.prog 16 #[.int .u8 b] W fun e w' => e = .returned (.bool true) ∧ W = w') := fun W hb => two_yes b hb0 hb1 hm1 hm2 W (TT.2.below (Nat.le_refl _) hb)
  have S1 : Hid (∀ W, Below w.heap.size w W → Calls Tryd.prog 17 #[.int .u8 a] W fun e w' => e = .returned (.string ⟨(sgnAt ka).toArray⟩) ∧ W = w') := fun W hb => by rw [← signOf_nat ka (by omega), ← eka]; exact show_any a ha0 ha1 W (TT.2.below (Nat.le_refl _) hb)
  have S2 : Hid (∀ W, Below w.heap.size w W → Calls Tryd.prog 17 #[.int .u8 b] W fun e w' => e = .returned (.string ⟨(sgnAt kb).toArray⟩) ∧ W = w') := fun W hb => by rw [← signOf_nat kb (by omega), ← ekb]; exact show_any b hb0 hb1 W (TT.2.below (Nat.le_refl _) hb)
  have HX : Hid (∀ s W, Below w.heap.size w W → Calls Tryd.prog 7 #[.string s] W (WhPost W zEx exR (said_E s))) := fun s W hb => p_Expr s (TT.1.below (Nat.le_refl _) hb) (TT.2.below (Nat.le_refl _) hb)
  have hC := good_lo hG hh
  have HC := Lib.hid hC
  have HE := Lib.hid hE
  have ETX : Hid (∀ s : ByteArray, s.data.toList = lvText ka kb false → said_E s = (some E, 0, 0, 0)) := fun s h => by
    have : s = ⟨(lvText ka kb false).toArray⟩ := ByteArray.ext (Array.ext' (by rw [h]))
    rw [this]; exact HE.out
  generalize hsa : (⟨(sgnAt ka).toArray⟩ : ByteArray) = sa at S1
  generalize hsb : (⟨(sgnAt kb).toArray⟩ : ByteArray) = sb at S2
  have HSA : Hid (sa.data.toList = sgnAt ka) := by simp only [Hid, ← hsa]
  have HSB : Hid (sb.data.toList = sgnAt kb) := by simp only [Hid, ← hsb]
  have zsa : sa.size ≤ 2 := by
    have h1 : sa.size = (sgnAt ka).length := by rw [← HSA.out, Array.length_toList]; rfl
    have h2 := sgnAt_len ka ka2
    omega
  have zsb : sb.size ≤ 2 := by
    have h1 : sb.size = (sgnAt kb).length := by rw [← HSB.out, Array.length_toList]; rfl
    have h2 := sgnAt_len kb kb2
    omega
  clear TT hl1 hl2 hm1 hm2 hG hC hE hsa hsb eka ekb ka1 ka2 kb1 kb2 ha0 ha1 hb0 hb1
  obtain ⟨la, hla⟩ : ∃ x, x = levelOf a := ⟨_, rfl⟩
  obtain ⟨lb, hlb⟩ : ∃ x, x = levelOf b := ⟨_, rfl⟩
  rw [← hla] at HV1 hh
  rw [← hlb] at HV2 hh
  clear hla hlb
  go_enter Tryd.func6, Tryd.ntmps6
  go_wp2_with fail
  go_at_call 9
  refine (HL.out).mono ?_
  rintro e w1 ⟨rfl, hb⟩
  have HB := Lib.hid hb
  clear hb
  go_wp2_with fail
  go_at_call 16
  refine (H1.out _ HB.out).mono ?_
  rintro e w2 ⟨rfl, rfl⟩
  go_wp2_with fail
  go_at_call 16
  refine (H2.out _ HB.out).mono ?_
  rintro e w2 ⟨rfl, rfl⟩
  go_wp2_with fail
  try (go_at_call 17)
  refine (S1.out _ HB.out).mono ?_
  rintro e w2 ⟨rfl, rfl⟩
  go_wp2_with fail
  try (go_at_call 17)
  refine (S2.out _ HB.out).mono ?_
  rintro e w2 ⟨rfl, rfl⟩
  go_wp2_with fail
  go_at_call 7
  refine (HX.out _ _ HB.out).mono ?_
  rintro e w3 ⟨hb3, v, rfl, hv⟩
  rw [ETX.out _ (by simp [lvText, HSA.out, HSB.out])] at hv ⊢
  have hv : exR w1.heap.size E v w3 := hv
  obtain ⟨wd, nm, p, k0, w0, n0, p0, kk, k2, o2, w2, ks2, p2, k1, o1, w9, n1, ks1, p1, rfl⟩ := HC.out
  obtain ⟨a6, c6, hvv, hk⟩ := hv
  rcases hk with hk | ⟨g, q, rfl, _, hk⟩
  · cases hk
  obtain rfl : v = .agg #[.int .u8 4, .int .u8 b, .int .i64 wd, .string nm, .slice (some ⟨g, q, none⟩) 2 c6, .int .i64 p] := hvv
  obtain ⟨⟨_, d1, _, _, ⟨a7, c7, d4, hk2⟩, _⟩, _⟩ := hk
  rcases hk2 with hk2 | ⟨g2, q2, rfl, _, hk2⟩
  · cases hk2
  obtain ⟨_, ⟨⟨_, _, _, e3, _⟩, _⟩⟩ := hk2
  have l1 := lt_of_at d1
  have l2 := lt_of_at e3
  simp only at l1 l2
  have Z1 := (Own.new w3 26 #[.int .u8 0, .int .u8 0, .int .i64 0, .string ⟨#[]⟩, .slice none 0 0, .int .i64 0]).alloc (.cells #[.int .i64 0, .int .i64 0] 29)
  have Z2 := Own.new (w3.alloc (.cells #[.int .u8 0, .int .u8 0, .int .i64 0, .string ⟨#[]⟩, .slice none 0 0, .int .i64 0] 26)) 29 #[.int .i64 0, .int .i64 0]
  rw [World.size_alloc] at Z2
  have Z2' := Z2.other (g := w3.heap.size) #[.int .u8 4, .int .u8 b, .int .i64 wd, .string nm, .slice (some ⟨g, q, none⟩) 2 c6, .int .i64 p] (by omega)
  have P1 := Lib.hid ((Z1.row #[.int .u8 4, .int .u8 b, .int .i64 wd, .string nm, .slice (some ⟨g, q, none⟩) 2 c6, .int .i64 p]).other (g := w3.heap.size + 1) #[.int .i64 0, .int .i64 0] (by omega))
  have B3 := Below.of_row (Below.of_row (((Below.refl w3.heap.size w3).alloc (Nat.le_refl _) (.cells #[.int .u8 0, .int .u8 0, .int .i64 0, .string ⟨#[]⟩, .slice none 0 0, .int .i64 0] 26)).alloc (by rw [World.size_alloc]; omega) (.cells #[.int .i64 0, .int .i64 0] 29)) (g := w3.heap.size) (Nat.le_refl _) #[.int .u8 4, .int .u8 b, .int .i64 wd, .string nm, .slice (some ⟨g, q, none⟩) 2 c6, .int .i64 p]) (g := w3.heap.size + 1) (by omega) #[.int .i64 0, .int .i64 0]
  have HB4 := Lib.hid ((HB.out.trans (hb3.mono HB.out.size)).trans (B3.mono (Nat.le_trans HB.out.size hb3.size)))
  have d1 := (B3.cell (p := ⟨g, q + 1, none⟩) l1).trans d1
  have d4 := (B3.cell (p := ⟨g, q + 4, none⟩) l1).trans d4
  have e3 := (B3.cell (p := ⟨g2, q2 + 6 + 3, none⟩) l2).trans e3
  clear l1 l2
  clear Z2 hb3 B3
  go_upto_region 9 with (first | (refine st rowEx rfl rfl Z1 rfl rfl (by rfl) (by rfl) (by kernel_rfl) ?_) | (refine st rowFl rfl rfl Z2' rfl rfl (by rfl) (by rfl) (by kernel_rfl) ?_))
  obtain ⟨W4, hW4⟩ : ∃ W, W = ((((w3.alloc (.cells #[.int .u8 0, .int .u8 0, .int .i64 0, .string ⟨#[]⟩, .slice none 0 0, .int .i64 0] 26)).alloc (.cells #[.int .i64 0, .int .i64 0] 29)).setRow w3.heap.size #[.int .u8 4, .int .u8 b, .int .i64 wd, .string nm, .slice (some ⟨g, q, none⟩) 2 c6, .int .i64 p]).setRow (w3.heap.size + 1) #[.int .i64 0, .int .i64 0]) := ⟨_, rfl⟩
  rw [← hW4] at P1 HB4 d1 d4 e3 ⊢
  clear hW4 Z1 Z2'
  have f0 : W4.cell? ⟨w3.heap.size, 0, none⟩ = some (.int .u8 4) := by rw [cell_of_row _ _ 0 _ _ _ P1.out]; rfl
  have f1 : W4.cell? ⟨w3.heap.size, 1, none⟩ = some (.int .u8 b) := by rw [cell_of_row _ _ 1 _ _ _ P1.out]; rfl
  have f4 : W4.cell? ⟨w3.heap.size, 4, none⟩ = some (.slice (some ⟨g, q, none⟩) 2 c6) := by rw [cell_of_row _ _ 4 _ _ _ P1.out]; rfl
  go_wp2_with fail
  go_at_call 18
  refine (HV2.out _ HB4.out).mono ?_
  rintro e w5 ⟨rfl, rfl⟩
  go_wp2_with fail
  go_at_call 18
  refine (HV1.out _ HB4.out).mono ?_
  rintro e w5 ⟨rfl, rfl⟩
  go_wp2_with fail
  go_ret
  exact ⟨rfl, HB4.out⟩
set_option maxRecDepth 100000 in
set_option maxHeartbeats 600000 in
theorem levels_hi_true (a b : Int) (less : Bool) (hle : less = true) (ha0 : 0 ≤ a) (ha1 : a ≤ 255) (hl1 : 0 < levelOf a) (hl2 : levelOf a < 9) (hb0 : 0 ≤ b) (hb1 : b ≤ 255) (hm1 : 0 < levelOf b) (hm2 : levelOf b < 9) (hh : levelOf b > levelOf a) (w : World) (TT : LTabs w ∧ Tabs w) : Calls Tryd.prog 6 #[.int .u8 a, .int .u8 b, .bool less] w fun e w' => e = .returned (.bool true) ∧ Below w.heap.size w w' := by
  subst hle
  have HL := Lib.hid (p_lives TT.1 TT.2)
  obtain ⟨ka, eka, ka1, ka2⟩ := two_range ha0 hl1 hl2
  obtain ⟨kb, ekb, kb1, kb2⟩ := two_range hb0 hm1 hm2
  obtain ⟨E, hE, hG⟩ := lv_said ⟨ka1, ka2⟩ ⟨kb1, kb2⟩ true
  rw [← eka, ← ekb] at hG
  have HV1 : Hid (∀ W, Below w.heap.size w W → Calls Tryd.prog 18 #[.int .u8 a] W fun e w' => e = .returned (.int .i64 (levelOf a)) ∧ W = w') := fun W hb => level_any a ha0 ha1 W (TT.2.below (Nat.le_refl _) hb)
  have HV2 : Hid (∀ W, Below w.heap.size w W → Calls Tryd.prog 18 #[.int .u8 b] W fun e w' => e = .returned (.int .i64 (levelOf b)) ∧ W = w') := fun W hb => level_any b hb0 hb1 W (TT.2.below (Nat.le_refl _) hb)
  have H1 : Hid (∀ W, Below w.heap.size w W → Calls Tryd.prog 16 #[.int .u8 a] W fun e w' => e = .returned (.bool true) ∧ W = w') := fun W hb => two_yes a ha0 ha1 hl1 hl2 W (TT.2.below (Nat.le_refl _) hb)
  have H2 : Hid (∀ W, Below w.heap.size w W → Calls Tryd.prog 16 #[.int .u8 b] W fun e w' => e = .returned (.bool true) ∧ W = w') := fun W hb => two_yes b hb0 hb1 hm1 hm2 W (TT.2.below (Nat.le_refl _) hb)
  have S1 : Hid (∀ W, Below w.heap.size w W → Calls Tryd.prog 17 #[.int .u8 a] W fun e w' => e = .returned (.string ⟨(sgnAt ka).toArray⟩) ∧ W = w') := fun W hb => by rw [← signOf_nat ka (by omega), ← eka]; exact show_any a ha0 ha1 W (TT.2.below (Nat.le_refl _) hb)
  have S2 : Hid (∀ W, Below w.heap.size w W → Calls Tryd.prog 17 #[.int .u8 b] W fun e w' => e = .returned (.string ⟨(sgnAt kb).toArray⟩) ∧ W = w') := fun W hb => by rw [← signOf_nat kb (by omega), ← ekb]; exact show_any b hb0 hb1 W (TT.2.below (Nat.le_refl _) hb)
  have HX : Hid (∀ s W, Below w.heap.size w W → Calls Tryd.prog 7 #[.string s] W (WhPost W zEx exR (said_E s))) := fun s W hb => p_Expr s (TT.1.below (Nat.le_refl _) hb) (TT.2.below (Nat.le_refl _) hb)
  have hC := good_hi hG hh
  have HC := Lib.hid hC
  have HE := Lib.hid hE
  have ETX : Hid (∀ s : ByteArray, s.data.toList = lvText ka kb true → said_E s = (some E, 0, 0, 0)) := fun s h => by
    have : s = ⟨(lvText ka kb true).toArray⟩ := ByteArray.ext (Array.ext' (by rw [h]))
    rw [this]; exact HE.out
  generalize hsa : (⟨(sgnAt ka).toArray⟩ : ByteArray) = sa at S1
  generalize hsb : (⟨(sgnAt kb).toArray⟩ : ByteArray) = sb at S2
  have HSA : Hid (sa.data.toList = sgnAt ka) := by simp only [Hid, ← hsa]
  have HSB : Hid (sb.data.toList = sgnAt kb) := by simp only [Hid, ← hsb]
  have zsa : sa.size ≤ 2 := by
    have h1 : sa.size = (sgnAt ka).length := by rw [← HSA.out, Array.length_toList]; rfl
    have h2 := sgnAt_len ka ka2
    omega
  have zsb : sb.size ≤ 2 := by
    have h1 : sb.size = (sgnAt kb).length := by rw [← HSB.out, Array.length_toList]; rfl
    have h2 := sgnAt_len kb kb2
    omega
  clear TT hl1 hl2 hm1 hm2 hG hC hE hsa hsb eka ekb ka1 ka2 kb1 kb2 ha0 ha1 hb0 hb1
  obtain ⟨la, hla⟩ : ∃ x, x = levelOf a := ⟨_, rfl⟩
  obtain ⟨lb, hlb⟩ : ∃ x, x = levelOf b := ⟨_, rfl⟩
  rw [← hla] at HV1 hh
  rw [← hlb] at HV2 hh
  clear hla hlb
  go_enter Tryd.func6, Tryd.ntmps6
  go_wp2_with fail
  go_at_call 9
  refine (HL.out).mono ?_
  rintro e w1 ⟨rfl, hb⟩
  have HB := Lib.hid hb
  clear hb
  go_wp2_with fail
  go_at_call 16
  refine (H1.out _ HB.out).mono ?_
  rintro e w2 ⟨rfl, rfl⟩
  go_wp2_with fail
  go_at_call 16
  refine (H2.out _ HB.out).mono ?_
  rintro e w2 ⟨rfl, rfl⟩
  go_wp2_with fail
  try (go_at_call 17)
  refine (S1.out _ HB.out).mono ?_
  rintro e w2 ⟨rfl, rfl⟩
  go_wp2_with fail
  try (go_at_call 17)
  refine (S2.out _ HB.out).mono ?_
  rintro e w2 ⟨rfl, rfl⟩
  go_wp2_with fail
  go_at_call 7
  refine (HX.out _ _ HB.out).mono ?_
  rintro e w3 ⟨hb3, v, rfl, hv⟩
  rw [ETX.out _ (by simp [lvText, HSA.out, HSB.out])] at hv ⊢
  have hv : exR w1.heap.size E v w3 := hv
  obtain ⟨wd, nm, p, k0, o0, w0, ks0, p0, k1, w9, n1, ks1, p1, rfl⟩ := HC.out
  obtain ⟨a6, c6, hvv, hk⟩ := hv
  rcases hk with hk | ⟨g, q, rfl, _, hk⟩
  · cases hk
  obtain rfl : v = .agg #[.int .u8 4, .int .u8 a, .int .i64 wd, .string nm, .slice (some ⟨g, q, none⟩) 2 c6, .int .i64 p] := hvv
  obtain ⟨⟨_, _, _, d3, _⟩, ⟨⟨_, e1, _⟩, _⟩⟩ := hk
  have l1 := lt_of_at d3
  simp only at l1
  have Z1 := (Own.new w3 26 #[.int .u8 0, .int .u8 0, .int .i64 0, .string ⟨#[]⟩, .slice none 0 0, .int .i64 0]).alloc (.cells #[.int .i64 0, .int .i64 0] 29)
  have Z2 := Own.new (w3.alloc (.cells #[.int .u8 0, .int .u8 0, .int .i64 0, .string ⟨#[]⟩, .slice none 0 0, .int .i64 0] 26)) 29 #[.int .i64 0, .int .i64 0]
  rw [World.size_alloc] at Z2
  have Z2' := Z2.other (g := w3.heap.size) #[.int .u8 4, .int .u8 a, .int .i64 wd, .string nm, .slice (some ⟨g, q, none⟩) 2 c6, .int .i64 p] (by omega)
  have P1 := Lib.hid ((Z1.row #[.int .u8 4, .int .u8 a, .int .i64 wd, .string nm, .slice (some ⟨g, q, none⟩) 2 c6, .int .i64 p]).other (g := w3.heap.size + 1) #[.int .i64 0, .int .i64 0] (by omega))
  have B3 := Below.of_row (Below.of_row (((Below.refl w3.heap.size w3).alloc (Nat.le_refl _) (.cells #[.int .u8 0, .int .u8 0, .int .i64 0, .string ⟨#[]⟩, .slice none 0 0, .int .i64 0] 26)).alloc (by rw [World.size_alloc]; omega) (.cells #[.int .i64 0, .int .i64 0] 29)) (g := w3.heap.size) (Nat.le_refl _) #[.int .u8 4, .int .u8 a, .int .i64 wd, .string nm, .slice (some ⟨g, q, none⟩) 2 c6, .int .i64 p]) (g := w3.heap.size + 1) (by omega) #[.int .i64 0, .int .i64 0]
  have HB4 := Lib.hid ((HB.out.trans (hb3.mono HB.out.size)).trans (B3.mono (Nat.le_trans HB.out.size hb3.size)))
  have d3 := (B3.cell (p := ⟨g, q + 3, none⟩) l1).trans d3
  have e1 := (B3.cell (p := ⟨g, q + 6 + 1, none⟩) l1).trans e1
  clear l1
  clear Z2 hb3 B3
  go_upto_region 9 with (first | (refine st rowEx rfl rfl Z1 rfl rfl (by rfl) (by rfl) (by kernel_rfl) ?_) | (refine st rowFl rfl rfl Z2' rfl rfl (by rfl) (by rfl) (by kernel_rfl) ?_))
  obtain ⟨W4, hW4⟩ : ∃ W, W = ((((w3.alloc (.cells #[.int .u8 0, .int .u8 0, .int .i64 0, .string ⟨#[]⟩, .slice none 0 0, .int .i64 0] 26)).alloc (.cells #[.int .i64 0, .int .i64 0] 29)).setRow w3.heap.size #[.int .u8 4, .int .u8 a, .int .i64 wd, .string nm, .slice (some ⟨g, q, none⟩) 2 c6, .int .i64 p]).setRow (w3.heap.size + 1) #[.int .i64 0, .int .i64 0]) := ⟨_, rfl⟩
  rw [← hW4] at P1 HB4 d3 e1 ⊢
  clear hW4 Z1 Z2'
  have f0 : W4.cell? ⟨w3.heap.size, 0, none⟩ = some (.int .u8 4) := by rw [cell_of_row _ _ 0 _ _ _ P1.out]; rfl
  have f1 : W4.cell? ⟨w3.heap.size, 1, none⟩ = some (.int .u8 a) := by rw [cell_of_row _ _ 1 _ _ _ P1.out]; rfl
  have f4 : W4.cell? ⟨w3.heap.size, 4, none⟩ = some (.slice (some ⟨g, q, none⟩) 2 c6) := by rw [cell_of_row _ _ 4 _ _ _ P1.out]; rfl
  go_wp2_with fail
  go_at_call 18
  refine (HV2.out _ HB4.out).mono ?_
  rintro e w5 ⟨rfl, rfl⟩
  go_wp2_with fail
  go_at_call 18
  refine (HV1.out _ HB4.out).mono ?_
  rintro e w5 ⟨rfl, rfl⟩
  go_wp2_with fail
  go_ret
  exact ⟨rfl, HB4.out⟩
set_option maxRecDepth 100000 in
set_option maxHeartbeats 600000 in
theorem levels_lo_true (a b : Int) (less : Bool) (hle : less = true) (ha0 : 0 ≤ a) (ha1 : a ≤ 255) (hl1 : 0 < levelOf a) (hl2 : levelOf a < 9) (hb0 : 0 ≤ b) (hb1 : b ≤ 255) (hm1 : 0 < levelOf b) (hm2 : levelOf b < 9) (hh : ¬ levelOf b > levelOf a) (w : World) (TT : LTabs w ∧ Tabs w) : Calls Tryd.prog 6 #[.int .u8 a, .int .u8 b, .bool less] w fun e w' => e = .returned (.bool true) ∧ Below w.heap.size w w' := by
  subst hle
  have HL := Lib.hid (p_lives TT.1 TT.2)
  obtain ⟨ka, eka, ka1, ka2⟩ := two_range ha0 hl1 hl2
  obtain ⟨kb, ekb, kb1, kb2⟩ := two_range hb0 hm1 hm2
  obtain ⟨E, hE, hG⟩ := lv_said ⟨ka1, ka2⟩ ⟨kb1, kb2⟩ true
  rw [← eka, ← ekb] at hG
  have HV1 : Hid (∀ W, Below w.heap.size w W → Calls Tryd.prog 18 #[.int .u8 a] W fun e w' => e = .returned (.int .i64 (levelOf a)) ∧ W = w') := fun W hb => level_any a ha0 ha1 W (TT.2.below (Nat.le_refl _) hb)
  have HV2 : Hid (∀ W, Below w.heap.size w W → Calls Tryd.prog 18 #[.int .u8 b] W fun e w' => e = .returned (.int .i64 (levelOf b)) ∧ W = w') := fun W hb => level_any b hb0 hb1 W (TT.2.below (Nat.le_refl _) hb)
  have H1 : Hid (∀ W, Below w.heap.size w W → Calls Tryd.prog 16 #[.int .u8 a] W fun e w' => e = .returned (.bool true) ∧ W = w') := fun W hb => two_yes a ha0 ha1 hl1 hl2 W (TT.2.below (Nat.le_refl _) hb)
  have H2 : Hid (∀ W, Below w.heap.size w W → Calls Tryd.prog 16 #[.int .u8 b] W fun e w' => e = .returned (.bool true) ∧ W = w') := fun W hb => two_yes b hb0 hb1 hm1 hm2 W (TT.2.below (Nat.le_refl _) hb)
  have S1 : Hid (∀ W, Below w.heap.size w W → Calls Tryd.prog 17 #[.int .u8 a] W fun e w' => e = .returned (.string ⟨(sgnAt ka).toArray⟩) ∧ W = w') := fun W hb => by rw [← signOf_nat ka (by omega), ← eka]; exact show_any a ha0 ha1 W (TT.2.below (Nat.le_refl _) hb)
  have S2 : Hid (∀ W, Below w.heap.size w W → Calls Tryd.prog 17 #[.int .u8 b] W fun e w' => e = .returned (.string ⟨(sgnAt kb).toArray⟩) ∧ W = w') := fun W hb => by rw [← signOf_nat kb (by omega), ← ekb]; exact show_any b hb0 hb1 W (TT.2.below (Nat.le_refl _) hb)
  have HX : Hid (∀ s W, Below w.heap.size w W → Calls Tryd.prog 7 #[.string s] W (WhPost W zEx exR (said_E s))) := fun s W hb => p_Expr s (TT.1.below (Nat.le_refl _) hb) (TT.2.below (Nat.le_refl _) hb)
  have hC := good_lo hG hh
  have HC := Lib.hid hC
  have HE := Lib.hid hE
  have ETX : Hid (∀ s : ByteArray, s.data.toList = lvText ka kb true → said_E s = (some E, 0, 0, 0)) := fun s h => by
    have : s = ⟨(lvText ka kb true).toArray⟩ := ByteArray.ext (Array.ext' (by rw [h]))
    rw [this]; exact HE.out
  generalize hsa : (⟨(sgnAt ka).toArray⟩ : ByteArray) = sa at S1
  generalize hsb : (⟨(sgnAt kb).toArray⟩ : ByteArray) = sb at S2
  have HSA : Hid (sa.data.toList = sgnAt ka) := by simp only [Hid, ← hsa]
  have HSB : Hid (sb.data.toList = sgnAt kb) := by simp only [Hid, ← hsb]
  have zsa : sa.size ≤ 2 := by
    have h1 : sa.size = (sgnAt ka).length := by rw [← HSA.out, Array.length_toList]; rfl
    have h2 := sgnAt_len ka ka2
    omega
  have zsb : sb.size ≤ 2 := by
    have h1 : sb.size = (sgnAt kb).length := by rw [← HSB.out, Array.length_toList]; rfl
    have h2 := sgnAt_len kb kb2
    omega
  clear TT hl1 hl2 hm1 hm2 hG hC hE hsa hsb eka ekb ka1 ka2 kb1 kb2 ha0 ha1 hb0 hb1
  obtain ⟨la, hla⟩ : ∃ x, x = levelOf a := ⟨_, rfl⟩
  obtain ⟨lb, hlb⟩ : ∃ x, x = levelOf b := ⟨_, rfl⟩
  rw [← hla] at HV1 hh
  rw [← hlb] at HV2 hh
  clear hla hlb
  go_enter Tryd.func6, Tryd.ntmps6
  go_wp2_with fail
  go_at_call 9
  refine (HL.out).mono ?_
  rintro e w1 ⟨rfl, hb⟩
  have HB := Lib.hid hb
  clear hb
  go_wp2_with fail
  go_at_call 16
  refine (H1.out _ HB.out).mono ?_
  rintro e w2 ⟨rfl, rfl⟩
  go_wp2_with fail
  go_at_call 16
  refine (H2.out _ HB.out).mono ?_
  rintro e w2 ⟨rfl, rfl⟩
  go_wp2_with fail
  try (go_at_call 17)
  refine (S1.out _ HB.out).mono ?_
  rintro e w2 ⟨rfl, rfl⟩
  go_wp2_with fail
  try (go_at_call 17)
  refine (S2.out _ HB.out).mono ?_
  rintro e w2 ⟨rfl, rfl⟩
  go_wp2_with fail
  go_at_call 7
  refine (HX.out _ _ HB.out).mono ?_
  rintro e w3 ⟨hb3, v, rfl, hv⟩
  rw [ETX.out _ (by simp [lvText, HSA.out, HSB.out])] at hv ⊢
  have hv : exR w1.heap.size E v w3 := hv
  obtain ⟨wd, nm, p, k0, w0, n0, p0, kk, k2, o2, w2, ks2, p2, k1, o1, w9, n1, ks1, p1, rfl⟩ := HC.out
  obtain ⟨a6, c6, hvv, hk⟩ := hv
  rcases hk with hk | ⟨g, q, rfl, _, hk⟩
  · cases hk
  obtain rfl : v = .agg #[.int .u8 4, .int .u8 b, .int .i64 wd, .string nm, .slice (some ⟨g, q, none⟩) 2 c6, .int .i64 p] := hvv
  obtain ⟨⟨_, d1, _, _, ⟨a7, c7, d4, hk2⟩, _⟩, _⟩ := hk
  rcases hk2 with hk2 | ⟨g2, q2, rfl, _, hk2⟩
  · cases hk2
  obtain ⟨_, ⟨⟨_, _, _, e3, _⟩, _⟩⟩ := hk2
  have l1 := lt_of_at d1
  have l2 := lt_of_at e3
  simp only at l1 l2
  have Z1 := (Own.new w3 26 #[.int .u8 0, .int .u8 0, .int .i64 0, .string ⟨#[]⟩, .slice none 0 0, .int .i64 0]).alloc (.cells #[.int .i64 0, .int .i64 0] 29)
  have Z2 := Own.new (w3.alloc (.cells #[.int .u8 0, .int .u8 0, .int .i64 0, .string ⟨#[]⟩, .slice none 0 0, .int .i64 0] 26)) 29 #[.int .i64 0, .int .i64 0]
  rw [World.size_alloc] at Z2
  have Z2' := Z2.other (g := w3.heap.size) #[.int .u8 4, .int .u8 b, .int .i64 wd, .string nm, .slice (some ⟨g, q, none⟩) 2 c6, .int .i64 p] (by omega)
  have P1 := Lib.hid ((Z1.row #[.int .u8 4, .int .u8 b, .int .i64 wd, .string nm, .slice (some ⟨g, q, none⟩) 2 c6, .int .i64 p]).other (g := w3.heap.size + 1) #[.int .i64 0, .int .i64 0] (by omega))
  have B3 := Below.of_row (Below.of_row (((Below.refl w3.heap.size w3).alloc (Nat.le_refl _) (.cells #[.int .u8 0, .int .u8 0, .int .i64 0, .string ⟨#[]⟩, .slice none 0 0, .int .i64 0] 26)).alloc (by rw [World.size_alloc]; omega) (.cells #[.int .i64 0, .int .i64 0] 29)) (g := w3.heap.size) (Nat.le_refl _) #[.int .u8 4, .int .u8 b, .int .i64 wd, .string nm, .slice (some ⟨g, q, none⟩) 2 c6, .int .i64 p]) (g := w3.heap.size + 1) (by omega) #[.int .i64 0, .int .i64 0]
  have HB4 := Lib.hid ((HB.out.trans (hb3.mono HB.out.size)).trans (B3.mono (Nat.le_trans HB.out.size hb3.size)))
  have d1 := (B3.cell (p := ⟨g, q + 1, none⟩) l1).trans d1
  have d4 := (B3.cell (p := ⟨g, q + 4, none⟩) l1).trans d4
  have e3 := (B3.cell (p := ⟨g2, q2 + 6 + 3, none⟩) l2).trans e3
  clear l1 l2
  clear Z2 hb3 B3
  go_upto_region 9 with (first | (refine st rowEx rfl rfl Z1 rfl rfl (by rfl) (by rfl) (by kernel_rfl) ?_) | (refine st rowFl rfl rfl Z2' rfl rfl (by rfl) (by rfl) (by kernel_rfl) ?_))
  obtain ⟨W4, hW4⟩ : ∃ W, W = ((((w3.alloc (.cells #[.int .u8 0, .int .u8 0, .int .i64 0, .string ⟨#[]⟩, .slice none 0 0, .int .i64 0] 26)).alloc (.cells #[.int .i64 0, .int .i64 0] 29)).setRow w3.heap.size #[.int .u8 4, .int .u8 b, .int .i64 wd, .string nm, .slice (some ⟨g, q, none⟩) 2 c6, .int .i64 p]).setRow (w3.heap.size + 1) #[.int .i64 0, .int .i64 0]) := ⟨_, rfl⟩
  rw [← hW4] at P1 HB4 d1 d4 e3 ⊢
  clear hW4 Z1 Z2'
  have f0 : W4.cell? ⟨w3.heap.size, 0, none⟩ = some (.int .u8 4) := by rw [cell_of_row _ _ 0 _ _ _ P1.out]; rfl
  have f1 : W4.cell? ⟨w3.heap.size, 1, none⟩ = some (.int .u8 b) := by rw [cell_of_row _ _ 1 _ _ _ P1.out]; rfl
  have f4 : W4.cell? ⟨w3.heap.size, 4, none⟩ = some (.slice (some ⟨g, q, none⟩) 2 c6) := by rw [cell_of_row _ _ 4 _ _ _ P1.out]; rfl
  go_wp2_with fail
  go_at_call 18
  refine (HV2.out _ HB4.out).mono ?_
  rintro e w5 ⟨rfl, rfl⟩
  go_wp2_with fail
  go_at_call 18
  refine (HV1.out _ HB4.out).mono ?_
  rintro e w5 ⟨rfl, rfl⟩
  go_wp2_with fail
  go_ret
  exact ⟨rfl, HB4.out⟩
theorem levels_walk (a b : Int) (less : Bool) (ha0 : 0 ≤ a) (ha1 : a ≤ 255) (hb0 : 0 ≤ b) (hb1 : b ≤ 255) (w : World) (TT : LTabs w ∧ Tabs w) : Calls Tryd.prog 6 #[.int .u8 a, .int .u8 b, .bool less] w fun e w' => e = .returned (.bool true) ∧ Below w.heap.size w w' := by
  have lv : ∀ o : Int, 0 ≤ o → 0 ≤ levelOf o ∧ levelOf o ≤ 9 := fun o h => by
    by_cases h9 : 19 ≤ o
    · unfold levelOf; rw [if_pos h9]; exact ⟨by omega, by omega⟩
    · obtain ⟨k, rfl⟩ : ∃ k : Nat, o = k := ⟨o.toNat, by omega⟩
      have : ((List.range 19).all fun k => decide (0 ≤ levelOf (k : Int)) && decide (levelOf (k : Int) ≤ 9)) = true := by decide
      have := List.all_eq_true.1 this k (List.mem_range.2 (by omega))
      simpa using this
  have la := lv a ha0
  have lb := lv b hb0
  by_cases h1 : levelOf a = 0 ∨ levelOf a = 9
  · exact levels_no1 a b less ha0 ha1 h1 w TT
  · by_cases h2 : levelOf b = 0 ∨ levelOf b = 9
    · exact levels_no2 a b less ha0 ha1 (by omega) (by omega) hb0 hb1 h2 w TT
    · by_cases h3 : levelOf b > levelOf a
      · cases less with
        | false => exact levels_hi_false a b false rfl ha0 ha1 (by omega) (by omega) hb0 hb1 (by omega) (by omega) h3 w TT
        | true => exact levels_hi_true a b true rfl ha0 ha1 (by omega) (by omega) hb0 hb1 (by omega) (by omega) h3 w TT
      · cases less with
        | false => exact levels_lo_false a b false rfl ha0 ha1 (by omega) (by omega) hb0 hb1 (by omega) (by omega) h3 w TT
        | true => exact levels_lo_true a b true rfl ha0 ha1 (by omega) (by omega) hb0 hb1 (by omega) (by omega) h3 w TT
end Go.Proofs.YtjpmdafaaonpoaaDoor

namespace Go.Proofs.YtjpmdafaaonpoaaDoor
open Go.ChangeShapes Go.WideShapes Go.ChangeAt Go.WideMaps Go.WideElems Go.RowKit
set_option linter.unusedVariables false
abbrev PL : List (String × DataW Unit) := [("stile/words.levels", Rows.laid_stile_words_levels), ("stile/words.signs", Rows.laid_stile_words_signs), ("stile/lexer.languageWords", Rows.laid_stile_lexer_languageWords), ("stile/lexer.longSigns", Rows.laid_stile_lexer_longSigns)]
theorem both_of_laid {W : World} (h : laidMetH Tryd.prog PL W) : LTabs W ∧ Tabs W := by
  rw [MakeChecks.laidMetH_plain _ _ _ (by kernel_rfl)] at h
  obtain ⟨ps, h, _⟩ := h
  exact ⟨ltabs_of_vars h (by simp) (by simp), tabs_of_vars h (by simp) (by simp)⟩
theorem pdoor_met (os : Os) (args : Array Value) : laidMetH Tryd.prog PL ((World.doorLaid Tryd.prog 400 os).forCall (fun _ _ => 0) ⟨#[], args, []⟩).memory :=
  laidMetH_of_parts3 (fuel := 8) (laidMet_of_run' 8 (by kernel_rfl) (by kernel_rfl)) (by kernel_rfl) (by kernel_rfl)
theorem i64_bd {x : Int} (h : (Lit.int .i64 x).wf = true) : -9223372036854775808 ≤ x ∧ x ≤ 9223372036854775807 := by
  simp [Lit.wf, IntKind.min, IntKind.max, IntKind.signed, IntKind.bits] at h; omega
theorem u8_bd {x : Int} (h : (Lit.int .u8 x).wf = true) : 0 ≤ x ∧ x ≤ 255 := by
  simp [Lit.wf, IntKind.min, IntKind.max, IntKind.signed, IntKind.bits] at h; omega
end Go.Proofs.YtjpmdafaaonpoaaDoor

/- The proof, part 3: texts that belong together, in one. -/
import Derived.Test.YtgaibdipecngkaaDoorMB
import Derived.Deep.LoopGhost
import Derived.Laws.OwnMore
import Derived.Deep.AppendLies
namespace Go.Proofs.YtgaibdipecngkaaDoor
open Go.RowKit
set_option linter.unusedVariables false
theorem nx_lt {c : Par} {k : Nat} (h : (c.nx k).kind ≠ 0 ∨ (c.nx k).tx ≠ []) : k < c.toks.length := by
  apply Nat.lt_of_not_le
  intro hn
  have e : c.nx k = ⟨0, ⟨#[]⟩, 0, c.L⟩ := by unfold Par.nx; rw [Par.at_end hn]
  rw [e] at h
  rcases h with h | h <;> exact h rfl
theorem at_nx {c : Par} {k : Nat} (h : k < c.toks.length) : c.at k = c.nx k :: c.at (k + 1) := by
  have := Par.at_lt h
  unfold Par.nx
  rw [this]
theorem zeroFn (w : World) : (zeroValue 87).run Tryd.prog w = .ok .nilFunc w := by kernel_rfl
theorem opers_keys (c : Par) : ∀ e ∈ c.operE, ∃ t, e.key = .string t := by
  intro e he
  simp only [Par.operE, List.mem_cons, List.not_mem_nil, or_false] at he
  rcases he with rfl | rfl | rfl <;> exact ⟨_, rfl⟩
theorem run_opers {c : Par} {W : World} (S : RdS c W) (s : ByteArray) : (Instr.lookup 82 (.map (some c.O)) (.string s) false).run Tryd.prog W = .ok (lookE s.data.toList c.operE) W :=
  run_look Tryd.underlying82 Tryd.underlying9 (zeroFn W) S.om (opers_keys c) s
theorem RdS.drewN {c : Par} {W : World} (S : RdS c W) (n : Nat) : RdS c (W.drewN n) := S.keep (Keep.drewN (Fr.refl c W) n)
theorem fn_eql : ∀ (f : Fn) (u v : Array Value) (w : World), (binOp .eql 87 (.func f u v) .nilFunc).run Tryd.prog w = .ok (.bool false) w := fun f u v w => by kernel_rfl
theorem nil_eql : ∀ (w : World), (binOp .eql 87 .nilFunc .nilFunc).run Tryd.prog w = .ok (.bool true) w := fun w => by kernel_rfl
set_option maxRecDepth 100000 in
set_option maxHeartbeats 4000000 in
theorem o_number {c : Par} {w : World} {k : Nat} (R : Rd c w k) (d : Int) (hyp : (c.nx k).kind = 3) :
    Calls Tryd.prog 41 #[c.ptr, .int .i64 d] w fun e w' => e = .returned (.agg #[.int .u8 1, .int .u8 0, .int .i64 (c.nx k).wd, .string ⟨#[]⟩, .slice none 0 0, .int .i64 (c.nx k).pos]) ∧ Fr c w w' ∧ Rd c w' (k + 1) := by
  have hlt := Lib.hid (nx_lt (.inl (by rw [hyp]; decide)))
  have hk6 : k ≤ 65536 := by have := R.s.small.1; have := R.le; omega
  have HN : Hid (∀ W, Rd c W k → Calls Tryd.prog 40 #[c.ptr] W fun e w' => e = .returned (tkV (c.nx k)) ∧ Below W.heap.size W w') := fun W h => p_next h
  obtain ⟨t, ht⟩ : ∃ t, t = c.nx k := ⟨_, rfl⟩
  have HT := Lib.hid ht
  rw [← ht] at HN hyp
  clear ht
  obtain ⟨tk, tx, tw, tp⟩ := t
  have HR := Lib.hid R
  have hX := Lib.hid R.lt
  have A0 := Lib.hid ((At.start R).alloc (.cells zEx 26))
  have O0 := Own.new w 26 zEx
  have hlook : Hid (∀ W, RdS c W → (Instr.lookup 82 (.map (some c.O)) (.string tx) false).run Tryd.prog W = .ok (lookE tx.data.toList c.operE) W) := fun W S => run_opers S _
  clear R
  rw [← HT.out]
  simp only at hyp ⊢
  subst hyp
  obtain ⟨V, hV⟩ : ∃ V, V = lookE tx.data.toList c.operE := ⟨_, rfl⟩
  rw [← hV] at hlook
  clear hV HT
  have HNUM := Lib.hid (fun w => p_number ⟨3, tx, tw, tp⟩ d w)
  unfold tkV Par.ptr zEx at *
  have F1 := fn_eql
  go_enter Tryd.func41, Tryd.ntmps41
  go_wp2_with fail
  go_at_call 40
  refine (HN.out _ (A0.out.rd HR.out)).mono ?_
  rintro e w1 ⟨rfl, hb⟩
  have A1 := Lib.hid ((A0.out.below hb).alloc (.cells #[.int .u8 3, .string tx, .int .i64 tw, .int .i64 tp] 69))
  have O1 := Lib.hid ((O0.below hb).alloc (.cells #[.int .u8 3, .string tx, .int .i64 tw, .int .i64 tp] 69))
  have T1 := Lib.hid (Own.new w1 69 #[.int .u8 3, .string tx, .int .i64 tw, .int .i64 tp])
  have hz1 := Lib.hid (O0.below hb).lt
  clear hb O0
  go_upto_region 2 with (fail)
  obtain ⟨W, hW⟩ : ∃ W, W = w1.alloc (.cells #[.int .u8 3, .string tx, .int .i64 tw, .int .i64 tp] 69) := ⟨_, rfl⟩
  rw [← hW] at A1 O1 T1 ⊢
  clear hW
  obtain ⟨⟨_, _, x2, _, _, x5⟩, xf⟩ := A1.out.cells
  have t1 : W.cell? ⟨w1.heap.size, 1, none⟩ = some (.string tx) := by rw [cell_of_row W w1.heap.size 1 _ _ _ T1.out]; rfl
  have t0 : W.cell? ⟨w1.heap.size, 0, none⟩ = some (.int .u8 3) := by rw [cell_of_row W w1.heap.size 0 _ _ _ T1.out]; rfl
  have hlk := fun n => hlook.out (W.drewN n) ((A1.out.rd HR.out).s.drewN n)
  go_quiet (fail)
  obtain ⟨W2, hW2⟩ : ∃ W2, W2 = W.drewN nq := ⟨_, rfl⟩
  have A2 := A1.out.drewN nq
  have O2 := O1.out.drewN nq
  have T2 := T1.out.drewN nq
  rw [← hW2] at A2 O2 T2 ⊢
  have A2 := Lib.hid A2
  have O2 := Lib.hid O2
  have T2 := Lib.hid T2
  clear hW2 x2 x5 xf t1 t0 hlk A1 O1 T1
  obtain ⟨⟨_, _, x2, _⟩, xf⟩ := A2.out.cells
  have t0 : W2.cell? ⟨w1.heap.size, 0, none⟩ = some (.int .u8 3) := by rw [cell_of_row W2 w1.heap.size 0 _ _ _ T2.out]; rfl
  have A3 := Lib.hid (A2.out.step hlt.out)
  have hn1 : c.X ≠ w1.heap.size := by have := hX.out; have := hz1.out; omega
  have hn2 : c.X ≠ w.heap.size := by have := hX.out; omega
  have T3 := T2.out.setX 2 (.int .i64 ((k : Int) + 1)) hn1
  have O3 := Lib.hid (O2.out.setX 2 (.int .i64 ((k : Int) + 1)) hn2)
  have hn1 := Lib.hid hn1
  have hn2 := Lib.hid hn2
  go_wp2_with (first | (refine ld rowTok rfl rfl rfl T3 rfl ?_) | (go_at_call 65; refine (HNUM.out _).mono ?_; rintro e w3 ⟨rfl, hb⟩; have A4 := Lib.hid (A3.out.below hb); have O4 := O3.out.below hb; clear hb) | (refine st rowEx rfl rfl O4 rfl rfl (by rfl) (by rfl) (by kernel_rfl) ?_))
  have A5 := A4.out.setRow (Nat.le_refl _) hn2.out #[.int .u8 1, .int .u8 0, .int .i64 tw, .string ⟨#[]⟩, .slice none 0 0, .int .i64 tp]
  exact p_ret rowEx rfl (O4.row #[.int .u8 1, .int .u8 0, .int .i64 tw, .string ⟨#[]⟩, .slice none 0 0, .int .i64 tp]) rfl rfl rfl ⟨rfl, A5.fr, A5.rd HR.out⟩
set_option maxRecDepth 100000 in
set_option maxHeartbeats 4000000 in
theorem o_name {c : Par} {w : World} {k : Nat} (R : Rd c w k) (d : Int) (hyp : (c.nx k).kind = 1) :
    Calls Tryd.prog 41 #[c.ptr, .int .i64 d] w fun e w' => e = .returned (.agg #[.int .u8 2, .int .u8 0, .int .i64 0, .string (c.nx k).text, .slice none 0 0, .int .i64 (c.nx k).pos]) ∧ Fr c w w' ∧ Rd c w' (k + 1) := by
  have hlt := Lib.hid (nx_lt (.inl (by rw [hyp]; decide)))
  have hk6 : k ≤ 65536 := by have := R.s.small.1; have := R.le; omega
  have HN : Hid (∀ W, Rd c W k → Calls Tryd.prog 40 #[c.ptr] W fun e w' => e = .returned (tkV (c.nx k)) ∧ Below W.heap.size W w') := fun W h => p_next h
  obtain ⟨t, ht⟩ : ∃ t, t = c.nx k := ⟨_, rfl⟩
  have HT := Lib.hid ht
  rw [← ht] at HN hyp
  clear ht
  obtain ⟨tk, tx, tw, tp⟩ := t
  have HR := Lib.hid R
  have hX := Lib.hid R.lt
  have A0 := Lib.hid ((At.start R).alloc (.cells zEx 26))
  have O0 := Own.new w 26 zEx
  have hlook : Hid (∀ W, RdS c W → (Instr.lookup 82 (.map (some c.O)) (.string tx) false).run Tryd.prog W = .ok (lookE tx.data.toList c.operE) W) := fun W S => run_opers S _
  clear R
  rw [← HT.out]
  simp only at hyp ⊢
  subst hyp
  obtain ⟨V, hV⟩ : ∃ V, V = lookE tx.data.toList c.operE := ⟨_, rfl⟩
  rw [← hV] at hlook
  clear hV HT
  have HNUM := Lib.hid (fun w => p_variable ⟨1, tx, tw, tp⟩ d w)
  unfold tkV Par.ptr zEx at *
  have F1 := fn_eql
  go_enter Tryd.func41, Tryd.ntmps41
  go_wp2_with fail
  go_at_call 40
  refine (HN.out _ (A0.out.rd HR.out)).mono ?_
  rintro e w1 ⟨rfl, hb⟩
  have A1 := Lib.hid ((A0.out.below hb).alloc (.cells #[.int .u8 1, .string tx, .int .i64 tw, .int .i64 tp] 69))
  have O1 := Lib.hid ((O0.below hb).alloc (.cells #[.int .u8 1, .string tx, .int .i64 tw, .int .i64 tp] 69))
  have T1 := Lib.hid (Own.new w1 69 #[.int .u8 1, .string tx, .int .i64 tw, .int .i64 tp])
  have hz1 := Lib.hid (O0.below hb).lt
  clear hb O0
  go_upto_region 2 with (fail)
  obtain ⟨W, hW⟩ : ∃ W, W = w1.alloc (.cells #[.int .u8 1, .string tx, .int .i64 tw, .int .i64 tp] 69) := ⟨_, rfl⟩
  rw [← hW] at A1 O1 T1 ⊢
  clear hW
  obtain ⟨⟨_, _, x2, _, _, x5⟩, xf⟩ := A1.out.cells
  have t1 : W.cell? ⟨w1.heap.size, 1, none⟩ = some (.string tx) := by rw [cell_of_row W w1.heap.size 1 _ _ _ T1.out]; rfl
  have t0 : W.cell? ⟨w1.heap.size, 0, none⟩ = some (.int .u8 1) := by rw [cell_of_row W w1.heap.size 0 _ _ _ T1.out]; rfl
  have hlk := fun n => hlook.out (W.drewN n) ((A1.out.rd HR.out).s.drewN n)
  go_quiet (fail)
  obtain ⟨W2, hW2⟩ : ∃ W2, W2 = W.drewN nq := ⟨_, rfl⟩
  have A2 := A1.out.drewN nq
  have O2 := O1.out.drewN nq
  have T2 := T1.out.drewN nq
  rw [← hW2] at A2 O2 T2 ⊢
  have A2 := Lib.hid A2
  have O2 := Lib.hid O2
  have T2 := Lib.hid T2
  clear hW2 x2 x5 xf t1 t0 hlk A1 O1 T1
  obtain ⟨⟨_, _, x2, _⟩, xf⟩ := A2.out.cells
  have t0 : W2.cell? ⟨w1.heap.size, 0, none⟩ = some (.int .u8 1) := by rw [cell_of_row W2 w1.heap.size 0 _ _ _ T2.out]; rfl
  have A3 := Lib.hid (A2.out.step hlt.out)
  have hn1 : c.X ≠ w1.heap.size := by have := hX.out; have := hz1.out; omega
  have hn2 : c.X ≠ w.heap.size := by have := hX.out; omega
  have T3 := T2.out.setX 2 (.int .i64 ((k : Int) + 1)) hn1
  have O3 := Lib.hid (O2.out.setX 2 (.int .i64 ((k : Int) + 1)) hn2)
  have hn1 := Lib.hid hn1
  have hn2 := Lib.hid hn2
  go_wp2_with (first | (refine ld rowTok rfl rfl rfl T3 rfl ?_) | (go_at_call 66; refine (HNUM.out _).mono ?_; rintro e w3 ⟨rfl, hb⟩; have A4 := Lib.hid (A3.out.below hb); have O4 := O3.out.below hb; clear hb) | (refine st rowEx rfl rfl O4 rfl rfl (by rfl) (by rfl) (by kernel_rfl) ?_))
  have A5 := A4.out.setRow (Nat.le_refl _) hn2.out #[.int .u8 2, .int .u8 0, .int .i64 0, .string tx, .slice none 0 0, .int .i64 tp]
  exact p_ret rowEx rfl (O4.row #[.int .u8 2, .int .u8 0, .int .i64 0, .string tx, .slice none 0 0, .int .i64 tp]) rfl rfl rfl ⟨rfl, A5.fr, A5.rd HR.out⟩
set_option maxRecDepth 100000 in
set_option maxHeartbeats 4000000 in
theorem o_minus {c : Par} {w : World} {k : Nat} (R : Rd c w k) (d : Int) (Y : PR Ex) (hyp : ¬ (c.nx k).kind = 3 ∧ ¬ (c.nx k).kind = 1 ∧ (c.nx k).tx = [45])
    (HC : ∀ W, Rd c W (k + 1) → Calls Tryd.prog 63 #[tkV (c.nx k), .int .i64 d, .pointer (some ⟨c.bm, 0, none⟩), .pointer (some ⟨c.bm + 1, 0, none⟩)] W (RdPost c W Y (exR W.heap.size))) :
    Calls Tryd.prog 41 #[c.ptr, .int .i64 d] w (RdPost c w Y (exR w.heap.size)) := by
  have hlt := Lib.hid (nx_lt (c := c) (k := k) (.inr (by rw [hyp.2.2]; decide)))
  have hk6 : k ≤ 65536 := by have := R.s.small.1; have := R.le; omega
  have HN : Hid (∀ W, Rd c W k → Calls Tryd.prog 40 #[c.ptr] W fun e w' => e = .returned (tkV (c.nx k)) ∧ Below W.heap.size W w') := fun W h => p_next h
  obtain ⟨t, ht⟩ : ∃ t, t = c.nx k := ⟨_, rfl⟩
  have HT := Lib.hid ht
  rw [← ht] at HN hyp
  clear ht
  obtain ⟨tk, tx, tw, tp⟩ := t
  have HR := Lib.hid R
  have hX := Lib.hid R.lt
  have A0 := Lib.hid ((At.start R).alloc (.cells zEx 26))
  have O0 := Own.new w 26 zEx
  have hlook : Hid (∀ W, RdS c W → (Instr.lookup 82 (.map (some c.O)) (.string tx) false).run Tryd.prog W = .ok (.func (.func 63) #[] #[.pointer (some ⟨c.bm, 0, none⟩), .pointer (some ⟨c.bm + 1, 0, none⟩)]) W) := fun W S => by
    rw [run_opers S]; have e : tx.data.toList = [45] := hyp.2.2; rw [e]; rfl
  clear R
  have HC := Lib.hid HC
  rw [← HT.out] at HC
  have q3 : (tk == 3) = false := by simpa using hyp.1
  have q1 : (tk == 1) = false := by simpa using hyp.2.1
  clear hyp HT
  unfold tkV Par.ptr zEx at *
  have F1 := fn_eql
  go_enter Tryd.func41, Tryd.ntmps41
  go_wp2_with fail
  go_at_call 40
  refine (HN.out _ (A0.out.rd HR.out)).mono ?_
  rintro e w1 ⟨rfl, hb⟩
  have A1 := Lib.hid ((A0.out.below hb).alloc (.cells #[.int .u8 tk, .string tx, .int .i64 tw, .int .i64 tp] 69))
  have O1 := Lib.hid ((O0.below hb).alloc (.cells #[.int .u8 tk, .string tx, .int .i64 tw, .int .i64 tp] 69))
  have T1 := Lib.hid (Own.new w1 69 #[.int .u8 tk, .string tx, .int .i64 tw, .int .i64 tp])
  have hz1 := Lib.hid (O0.below hb).lt
  clear hb O0
  go_upto_region 2 with (fail)
  obtain ⟨W, hW⟩ : ∃ W, W = w1.alloc (.cells #[.int .u8 tk, .string tx, .int .i64 tw, .int .i64 tp] 69) := ⟨_, rfl⟩
  rw [← hW] at A1 O1 T1 ⊢
  clear hW
  obtain ⟨⟨_, _, x2, _, _, x5⟩, xf⟩ := A1.out.cells
  have t1 : W.cell? ⟨w1.heap.size, 1, none⟩ = some (.string tx) := by rw [cell_of_row W w1.heap.size 1 _ _ _ T1.out]; rfl
  have t0 : W.cell? ⟨w1.heap.size, 0, none⟩ = some (.int .u8 tk) := by rw [cell_of_row W w1.heap.size 0 _ _ _ T1.out]; rfl
  have hlk := fun n => hlook.out (W.drewN n) ((A1.out.rd HR.out).s.drewN n)
  go_quiet (fail)
  obtain ⟨W2, hW2⟩ : ∃ W2, W2 = W.drewN nq := ⟨_, rfl⟩
  have A2 := A1.out.drewN nq
  have O2 := O1.out.drewN nq
  have T2 := T1.out.drewN nq
  rw [← hW2] at A2 O2 T2 ⊢
  have A2 := Lib.hid A2
  have O2 := Lib.hid O2
  have T2 := Lib.hid T2
  clear hW2 x2 x5 xf t1 t0 hlk A1 O1 T1
  obtain ⟨⟨_, _, x2, _⟩, xf⟩ := A2.out.cells
  have t0 : W2.cell? ⟨w1.heap.size, 0, none⟩ = some (.int .u8 tk) := by rw [cell_of_row W2 w1.heap.size 0 _ _ _ T2.out]; rfl
  have A3 := Lib.hid (A2.out.step hlt.out)
  have hn1 : c.X ≠ w1.heap.size := by have := hX.out; have := hz1.out; omega
  have hn2 : c.X ≠ w.heap.size := by have := hX.out; omega
  have T3 := T2.out.setX 2 (.int .i64 ((k : Int) + 1)) hn1
  have O3 := Lib.hid (O2.out.setX 2 (.int .i64 ((k : Int) + 1)) hn2)
  have hn1 := Lib.hid hn1
  have hn2 := Lib.hid hn2
  go_wp2_with (first | (refine ld rowTok rfl rfl rfl T3 rfl ?_))
  go_at_call 63
  refine (HC.out _ (A3.out.rd HR.out)).mono ?_
  rintro e w3 ⟨hf3, hm⟩
  rcases Y with ⟨e0, r0⟩ | ⟨p, q⟩
  rotate_left
  · obtain rfl := hm
    have A4 := Lib.hid (A3.out.fr.trans hf3)
    clear hf3
    go_wp2_with fail
    exact ⟨rfl, A4.out, rfl⟩
  obtain ⟨v, k2, rfl, ⟨a4, cap4, rfl, hV⟩, hR2, rfl⟩ := hm
  have A4 := Lib.hid (A3.out.call hf3 hR2)
  have O4 := O3.out.fr hf3 hn2.out
  have HV := Lib.hid hV
  have hl := Lib.hid O3.out.lt
  clear hf3 hR2 hV T3 xf x2 t0
  go_wp2_with (first | (refine st rowEx rfl rfl O4 rfl rfl (by rfl) (by rfl) (by kernel_rfl) ?_))
  have hll := hl.out
  have A5 := A4.out.setRow (Nat.le_refl _) hn2.out #[.int .u8 e0.kind, .int .u8 e0.op, .int .i64 e0.wd, .string e0.name, .slice a4 e0.kids.length cap4, .int .i64 e0.pos]
  have V5 := exsAt_stays (stays_row w3 (g := w.heap.size) #[.int .u8 e0.kind, .int .u8 e0.op, .int .i64 e0.wd, .string e0.name, .slice a4 e0.kids.length cap4, .int .i64 e0.pos] (fun b hb => by omega)) (fun b hb => hb) HV.out
  refine p_ret rowEx rfl (O4.row #[.int .u8 e0.kind, .int .u8 e0.op, .int .i64 e0.wd, .string e0.name, .slice a4 e0.kids.length cap4, .int .i64 e0.pos]) rfl rfl rfl ?_
  exact ⟨A5.fr, _, k2, rfl, ⟨a4, cap4, rfl, exsAt_mono V5 (fun b hb => by omega)⟩, A5.rd HR.out, rfl⟩
set_option maxRecDepth 100000 in
set_option maxHeartbeats 4000000 in
theorem o_not {c : Par} {w : World} {k : Nat} (R : Rd c w k) (d : Int) (Y : PR Ex) (hyp : ¬ (c.nx k).kind = 3 ∧ ¬ (c.nx k).kind = 1 ∧ (c.nx k).tx = [33])
    (HC : ∀ W, Rd c W (k + 1) → Calls Tryd.prog 63 #[tkV (c.nx k), .int .i64 d, .pointer (some ⟨c.bn, 0, none⟩), .pointer (some ⟨c.bn + 1, 0, none⟩)] W (RdPost c W Y (exR W.heap.size))) :
    Calls Tryd.prog 41 #[c.ptr, .int .i64 d] w (RdPost c w Y (exR w.heap.size)) := by
  have hlt := Lib.hid (nx_lt (c := c) (k := k) (.inr (by rw [hyp.2.2]; decide)))
  have hk6 : k ≤ 65536 := by have := R.s.small.1; have := R.le; omega
  have HN : Hid (∀ W, Rd c W k → Calls Tryd.prog 40 #[c.ptr] W fun e w' => e = .returned (tkV (c.nx k)) ∧ Below W.heap.size W w') := fun W h => p_next h
  obtain ⟨t, ht⟩ : ∃ t, t = c.nx k := ⟨_, rfl⟩
  have HT := Lib.hid ht
  rw [← ht] at HN hyp
  clear ht
  obtain ⟨tk, tx, tw, tp⟩ := t
  have HR := Lib.hid R
  have hX := Lib.hid R.lt
  have A0 := Lib.hid ((At.start R).alloc (.cells zEx 26))
  have O0 := Own.new w 26 zEx
  have hlook : Hid (∀ W, RdS c W → (Instr.lookup 82 (.map (some c.O)) (.string tx) false).run Tryd.prog W = .ok (.func (.func 63) #[] #[.pointer (some ⟨c.bn, 0, none⟩), .pointer (some ⟨c.bn + 1, 0, none⟩)]) W) := fun W S => by
    rw [run_opers S]; have e : tx.data.toList = [33] := hyp.2.2; rw [e]; rfl
  clear R
  have HC := Lib.hid HC
  rw [← HT.out] at HC
  have q3 : (tk == 3) = false := by simpa using hyp.1
  have q1 : (tk == 1) = false := by simpa using hyp.2.1
  clear hyp HT
  unfold tkV Par.ptr zEx at *
  have F1 := fn_eql
  go_enter Tryd.func41, Tryd.ntmps41
  go_wp2_with fail
  go_at_call 40
  refine (HN.out _ (A0.out.rd HR.out)).mono ?_
  rintro e w1 ⟨rfl, hb⟩
  have A1 := Lib.hid ((A0.out.below hb).alloc (.cells #[.int .u8 tk, .string tx, .int .i64 tw, .int .i64 tp] 69))
  have O1 := Lib.hid ((O0.below hb).alloc (.cells #[.int .u8 tk, .string tx, .int .i64 tw, .int .i64 tp] 69))
  have T1 := Lib.hid (Own.new w1 69 #[.int .u8 tk, .string tx, .int .i64 tw, .int .i64 tp])
  have hz1 := Lib.hid (O0.below hb).lt
  clear hb O0
  go_upto_region 2 with (fail)
  obtain ⟨W, hW⟩ : ∃ W, W = w1.alloc (.cells #[.int .u8 tk, .string tx, .int .i64 tw, .int .i64 tp] 69) := ⟨_, rfl⟩
  rw [← hW] at A1 O1 T1 ⊢
  clear hW
  obtain ⟨⟨_, _, x2, _, _, x5⟩, xf⟩ := A1.out.cells
  have t1 : W.cell? ⟨w1.heap.size, 1, none⟩ = some (.string tx) := by rw [cell_of_row W w1.heap.size 1 _ _ _ T1.out]; rfl
  have t0 : W.cell? ⟨w1.heap.size, 0, none⟩ = some (.int .u8 tk) := by rw [cell_of_row W w1.heap.size 0 _ _ _ T1.out]; rfl
  have hlk := fun n => hlook.out (W.drewN n) ((A1.out.rd HR.out).s.drewN n)
  go_quiet (fail)
  obtain ⟨W2, hW2⟩ : ∃ W2, W2 = W.drewN nq := ⟨_, rfl⟩
  have A2 := A1.out.drewN nq
  have O2 := O1.out.drewN nq
  have T2 := T1.out.drewN nq
  rw [← hW2] at A2 O2 T2 ⊢
  have A2 := Lib.hid A2
  have O2 := Lib.hid O2
  have T2 := Lib.hid T2
  clear hW2 x2 x5 xf t1 t0 hlk A1 O1 T1
  obtain ⟨⟨_, _, x2, _⟩, xf⟩ := A2.out.cells
  have t0 : W2.cell? ⟨w1.heap.size, 0, none⟩ = some (.int .u8 tk) := by rw [cell_of_row W2 w1.heap.size 0 _ _ _ T2.out]; rfl
  have A3 := Lib.hid (A2.out.step hlt.out)
  have hn1 : c.X ≠ w1.heap.size := by have := hX.out; have := hz1.out; omega
  have hn2 : c.X ≠ w.heap.size := by have := hX.out; omega
  have T3 := T2.out.setX 2 (.int .i64 ((k : Int) + 1)) hn1
  have O3 := Lib.hid (O2.out.setX 2 (.int .i64 ((k : Int) + 1)) hn2)
  have hn1 := Lib.hid hn1
  have hn2 := Lib.hid hn2
  go_wp2_with (first | (refine ld rowTok rfl rfl rfl T3 rfl ?_))
  go_at_call 63
  refine (HC.out _ (A3.out.rd HR.out)).mono ?_
  rintro e w3 ⟨hf3, hm⟩
  rcases Y with ⟨e0, r0⟩ | ⟨p, q⟩
  rotate_left
  · obtain rfl := hm
    have A4 := Lib.hid (A3.out.fr.trans hf3)
    clear hf3
    go_wp2_with fail
    exact ⟨rfl, A4.out, rfl⟩
  obtain ⟨v, k2, rfl, ⟨a4, cap4, rfl, hV⟩, hR2, rfl⟩ := hm
  have A4 := Lib.hid (A3.out.call hf3 hR2)
  have O4 := O3.out.fr hf3 hn2.out
  have HV := Lib.hid hV
  have hl := Lib.hid O3.out.lt
  clear hf3 hR2 hV T3 xf x2 t0
  go_wp2_with (first | (refine st rowEx rfl rfl O4 rfl rfl (by rfl) (by rfl) (by kernel_rfl) ?_))
  have hll := hl.out
  have A5 := A4.out.setRow (Nat.le_refl _) hn2.out #[.int .u8 e0.kind, .int .u8 e0.op, .int .i64 e0.wd, .string e0.name, .slice a4 e0.kids.length cap4, .int .i64 e0.pos]
  have V5 := exsAt_stays (stays_row w3 (g := w.heap.size) #[.int .u8 e0.kind, .int .u8 e0.op, .int .i64 e0.wd, .string e0.name, .slice a4 e0.kids.length cap4, .int .i64 e0.pos] (fun b hb => by omega)) (fun b hb => hb) HV.out
  refine p_ret rowEx rfl (O4.row #[.int .u8 e0.kind, .int .u8 e0.op, .int .i64 e0.wd, .string e0.name, .slice a4 e0.kids.length cap4, .int .i64 e0.pos]) rfl rfl rfl ?_
  exact ⟨A5.fr, _, k2, rfl, ⟨a4, cap4, rfl, exsAt_mono V5 (fun b hb => by omega)⟩, A5.rd HR.out, rfl⟩
set_option maxRecDepth 100000 in
set_option maxHeartbeats 4000000 in
theorem o_paren {c : Par} {w : World} {k : Nat} (R : Rd c w k) (d : Int) (Y : PR Ex) (hyp : ¬ (c.nx k).kind = 3 ∧ ¬ (c.nx k).kind = 1 ∧ (c.nx k).tx = [40])
    (HC : ∀ W, Rd c W (k + 1) → Calls Tryd.prog 38 #[c.ptr, tkV (c.nx k), .int .i64 d] W (RdPost c W Y (exR W.heap.size))) :
    Calls Tryd.prog 41 #[c.ptr, .int .i64 d] w (RdPost c w Y (exR w.heap.size)) := by
  have hlt := Lib.hid (nx_lt (c := c) (k := k) (.inr (by rw [hyp.2.2]; decide)))
  have hk6 : k ≤ 65536 := by have := R.s.small.1; have := R.le; omega
  have HN : Hid (∀ W, Rd c W k → Calls Tryd.prog 40 #[c.ptr] W fun e w' => e = .returned (tkV (c.nx k)) ∧ Below W.heap.size W w') := fun W h => p_next h
  obtain ⟨t, ht⟩ : ∃ t, t = c.nx k := ⟨_, rfl⟩
  have HT := Lib.hid ht
  rw [← ht] at HN hyp
  clear ht
  obtain ⟨tk, tx, tw, tp⟩ := t
  have HR := Lib.hid R
  have hX := Lib.hid R.lt
  have A0 := Lib.hid ((At.start R).alloc (.cells zEx 26))
  have O0 := Own.new w 26 zEx
  have hlook : Hid (∀ W, RdS c W → (Instr.lookup 82 (.map (some c.O)) (.string tx) false).run Tryd.prog W = .ok (.func (.func 38) #[.pointer (some ⟨c.X, 0, none⟩)] #[]) W) := fun W S => by
    rw [run_opers S]; have e : tx.data.toList = [40] := hyp.2.2; rw [e]; rfl
  clear R
  have HC := Lib.hid HC
  rw [← HT.out] at HC
  have q3 : (tk == 3) = false := by simpa using hyp.1
  have q1 : (tk == 1) = false := by simpa using hyp.2.1
  clear hyp HT
  unfold tkV Par.ptr zEx at *
  have F1 := fn_eql
  go_enter Tryd.func41, Tryd.ntmps41
  go_wp2_with fail
  go_at_call 40
  refine (HN.out _ (A0.out.rd HR.out)).mono ?_
  rintro e w1 ⟨rfl, hb⟩
  have A1 := Lib.hid ((A0.out.below hb).alloc (.cells #[.int .u8 tk, .string tx, .int .i64 tw, .int .i64 tp] 69))
  have O1 := Lib.hid ((O0.below hb).alloc (.cells #[.int .u8 tk, .string tx, .int .i64 tw, .int .i64 tp] 69))
  have T1 := Lib.hid (Own.new w1 69 #[.int .u8 tk, .string tx, .int .i64 tw, .int .i64 tp])
  have hz1 := Lib.hid (O0.below hb).lt
  clear hb O0
  go_upto_region 2 with (fail)
  obtain ⟨W, hW⟩ : ∃ W, W = w1.alloc (.cells #[.int .u8 tk, .string tx, .int .i64 tw, .int .i64 tp] 69) := ⟨_, rfl⟩
  rw [← hW] at A1 O1 T1 ⊢
  clear hW
  obtain ⟨⟨_, _, x2, _, _, x5⟩, xf⟩ := A1.out.cells
  have t1 : W.cell? ⟨w1.heap.size, 1, none⟩ = some (.string tx) := by rw [cell_of_row W w1.heap.size 1 _ _ _ T1.out]; rfl
  have t0 : W.cell? ⟨w1.heap.size, 0, none⟩ = some (.int .u8 tk) := by rw [cell_of_row W w1.heap.size 0 _ _ _ T1.out]; rfl
  have hlk := fun n => hlook.out (W.drewN n) ((A1.out.rd HR.out).s.drewN n)
  go_quiet (fail)
  obtain ⟨W2, hW2⟩ : ∃ W2, W2 = W.drewN nq := ⟨_, rfl⟩
  have A2 := A1.out.drewN nq
  have O2 := O1.out.drewN nq
  have T2 := T1.out.drewN nq
  rw [← hW2] at A2 O2 T2 ⊢
  have A2 := Lib.hid A2
  have O2 := Lib.hid O2
  have T2 := Lib.hid T2
  clear hW2 x2 x5 xf t1 t0 hlk A1 O1 T1
  obtain ⟨⟨_, _, x2, _⟩, xf⟩ := A2.out.cells
  have t0 : W2.cell? ⟨w1.heap.size, 0, none⟩ = some (.int .u8 tk) := by rw [cell_of_row W2 w1.heap.size 0 _ _ _ T2.out]; rfl
  have A3 := Lib.hid (A2.out.step hlt.out)
  have hn1 : c.X ≠ w1.heap.size := by have := hX.out; have := hz1.out; omega
  have hn2 : c.X ≠ w.heap.size := by have := hX.out; omega
  have T3 := T2.out.setX 2 (.int .i64 ((k : Int) + 1)) hn1
  have O3 := Lib.hid (O2.out.setX 2 (.int .i64 ((k : Int) + 1)) hn2)
  have hn1 := Lib.hid hn1
  have hn2 := Lib.hid hn2
  go_wp2_with (first | (refine ld rowTok rfl rfl rfl T3 rfl ?_))
  go_at_call 38
  refine (HC.out _ (A3.out.rd HR.out)).mono ?_
  rintro e w3 ⟨hf3, hm⟩
  rcases Y with ⟨e0, r0⟩ | ⟨p, q⟩
  rotate_left
  · obtain rfl := hm
    have A4 := Lib.hid (A3.out.fr.trans hf3)
    clear hf3
    go_wp2_with fail
    exact ⟨rfl, A4.out, rfl⟩
  obtain ⟨v, k2, rfl, ⟨a4, cap4, rfl, hV⟩, hR2, rfl⟩ := hm
  have A4 := Lib.hid (A3.out.call hf3 hR2)
  have O4 := O3.out.fr hf3 hn2.out
  have HV := Lib.hid hV
  have hl := Lib.hid O3.out.lt
  clear hf3 hR2 hV T3 xf x2 t0
  go_wp2_with (first | (refine st rowEx rfl rfl O4 rfl rfl (by rfl) (by rfl) (by kernel_rfl) ?_))
  have hll := hl.out
  have A5 := A4.out.setRow (Nat.le_refl _) hn2.out #[.int .u8 e0.kind, .int .u8 e0.op, .int .i64 e0.wd, .string e0.name, .slice a4 e0.kids.length cap4, .int .i64 e0.pos]
  have V5 := exsAt_stays (stays_row w3 (g := w.heap.size) #[.int .u8 e0.kind, .int .u8 e0.op, .int .i64 e0.wd, .string e0.name, .slice a4 e0.kids.length cap4, .int .i64 e0.pos] (fun b hb => by omega)) (fun b hb => hb) HV.out
  refine p_ret rowEx rfl (O4.row #[.int .u8 e0.kind, .int .u8 e0.op, .int .i64 e0.wd, .string e0.name, .slice a4 e0.kids.length cap4, .int .i64 e0.pos]) rfl rfl rfl ?_
  exact ⟨A5.fr, _, k2, rfl, ⟨a4, cap4, rfl, exsAt_mono V5 (fun b hb => by omega)⟩, A5.rd HR.out, rfl⟩
set_option maxRecDepth 100000 in
set_option maxHeartbeats 4000000 in
theorem o_none {c : Par} {w : World} {k : Nat} (R : Rd c w k) (d : Int) (hyp : ¬ (c.nx k).kind = 3 ∧ ¬ (c.nx k).kind = 1 ∧ ¬ (c.nx k).tx = [45] ∧ ¬ (c.nx k).tx = [33] ∧ ¬ (c.nx k).tx = [40]) :
    Calls Tryd.prog 41 #[c.ptr, .int .i64 d] w fun e w' => e = .panicked (flt (hdP c.L (c.at k)) 2) ∧ Fr c w w' := by
  have hp := c.nx_pos k
  rw [← hp]
  clear hp
  have hk6 : k ≤ 65536 := by have := R.s.small.1; have := R.le; omega
  have HN : Hid (∀ W, Rd c W k → Calls Tryd.prog 40 #[c.ptr] W fun e w' => e = .returned (tkV (c.nx k)) ∧ Below W.heap.size W w') := fun W h => p_next h
  obtain ⟨t, ht⟩ : ∃ t, t = c.nx k := ⟨_, rfl⟩
  have HT := Lib.hid ht
  rw [← ht] at HN hyp
  clear ht
  obtain ⟨tk, tx, tw, tp⟩ := t
  have HR := Lib.hid R
  have hX := Lib.hid R.lt
  have A0 := Lib.hid ((At.start R).alloc (.cells zEx 26))
  have O0 := Own.new w 26 zEx
  have hlook : Hid (∀ W, RdS c W → (Instr.lookup 82 (.map (some c.O)) (.string tx) false).run Tryd.prog W = .ok (.nilFunc) W) := fun W S => by
    rw [run_opers S]
    have e : lookE tx.data.toList c.operE = .nilFunc := by
      obtain ⟨_, _, h1, h2, h3⟩ := hyp
      have h1' : ¬ tx.data.toList = [45] := h1
      have h2' : ¬ tx.data.toList = [33] := h2
      have h3' : ¬ tx.data.toList = [40] := h3
      simp only [lookE, Par.operE]
      rw [if_neg h1', if_neg h2', if_neg h3']
    rw [e]
  clear R
  rw [← HT.out]
  have q3 : (tk == 3) = false := by simpa using hyp.1
  have q1 : (tk == 1) = false := by simpa using hyp.2.1
  have HQ := Lib.hid (fun w => p_refuse ⟨tk, tx, tw, tp⟩ 2 w)
  have F2 := nil_eql
  clear hyp HT
  unfold tkV Par.ptr zEx at *
  have F1 := fn_eql
  go_enter Tryd.func41, Tryd.ntmps41
  go_wp2_with fail
  go_at_call 40
  refine (HN.out _ (A0.out.rd HR.out)).mono ?_
  rintro e w1 ⟨rfl, hb⟩
  have A1 := Lib.hid ((A0.out.below hb).alloc (.cells #[.int .u8 tk, .string tx, .int .i64 tw, .int .i64 tp] 69))
  have O1 := Lib.hid ((O0.below hb).alloc (.cells #[.int .u8 tk, .string tx, .int .i64 tw, .int .i64 tp] 69))
  have T1 := Lib.hid (Own.new w1 69 #[.int .u8 tk, .string tx, .int .i64 tw, .int .i64 tp])
  have hz1 := Lib.hid (O0.below hb).lt
  clear hb O0
  go_upto_region 2 with (fail)
  obtain ⟨W, hW⟩ : ∃ W, W = w1.alloc (.cells #[.int .u8 tk, .string tx, .int .i64 tw, .int .i64 tp] 69) := ⟨_, rfl⟩
  rw [← hW] at A1 O1 T1 ⊢
  clear hW
  obtain ⟨⟨_, _, x2, _, _, x5⟩, xf⟩ := A1.out.cells
  have t1 : W.cell? ⟨w1.heap.size, 1, none⟩ = some (.string tx) := by rw [cell_of_row W w1.heap.size 1 _ _ _ T1.out]; rfl
  have t0 : W.cell? ⟨w1.heap.size, 0, none⟩ = some (.int .u8 tk) := by rw [cell_of_row W w1.heap.size 0 _ _ _ T1.out]; rfl
  have hlk := fun n => hlook.out (W.drewN n) ((A1.out.rd HR.out).s.drewN n)
  go_quiet (fail)
  obtain ⟨W2, hW2⟩ : ∃ W2, W2 = W.drewN nq := ⟨_, rfl⟩
  have A2 := A1.out.drewN nq
  have O2 := O1.out.drewN nq
  have T2 := T1.out.drewN nq
  rw [← hW2] at A2 O2 T2 ⊢
  have A2 := Lib.hid A2
  have O2 := Lib.hid O2
  have T2 := Lib.hid T2
  clear hW2 x2 x5 xf t1 t0 hlk A1 O1 T1
  have t0 : W2.cell? ⟨w1.heap.size, 0, none⟩ = some (.int .u8 tk) := by rw [cell_of_row W2 w1.heap.size 0 _ _ _ T2.out]; rfl
  have T3 := T2.out
  go_wp2_with (first | (refine ld rowTok rfl rfl rfl T3 rfl ?_) | (go_at_call 39; refine (HQ.out _).mono ?_; rintro e w3 ⟨rfl, hb⟩; have HC := Lib.hid hb; clear hb))
  exact ⟨rfl, rfl, A2.out.fr.trans (.of_below HC.out)⟩
end Go.Proofs.YtgaibdipecngkaaDoor

namespace Go.Proofs.YtgaibdipecngkaaDoor
open Go.RowKit
set_option linter.unusedVariables false
theorem opnd_step {n : Nat} (H1 : OpndC n) (H2 : BinC n) : OpndC (n + 1) := by
  intro c w k d R h0 h1 hn
  by_cases hk : k < c.toks.length
  · have hat := at_nx hk
    have hl : (c.at k).length = (c.at (k + 1)).length + 1 := by rw [hat]; rfl
    rw [hat]
    simp only [opnd]
    by_cases k3 : (c.nx k).kind = 3
    · rw [if_pos k3]
      exact (o_number R d k3).mono fun e w' ⟨he, hf, hr⟩ => ⟨hf, _, k + 1, he, ⟨none, 0, rfl, .inl rfl⟩, hr, rfl⟩
    rw [if_neg k3]
    by_cases k1 : (c.nx k).kind = 1
    · rw [if_pos k1]
      exact (o_name R d k1).mono fun e w' ⟨he, hf, hr⟩ => ⟨hf, _, k + 1, he, ⟨none, 0, rfl, .inl rfl⟩, hr, rfl⟩
    rw [if_neg k1]
    by_cases q1 : (c.nx k).tx = [45]
    · rw [if_pos q1]
      by_cases hd : d = 64
      · subst hd
        rw [if_pos rfl]
        exact o_minus R 64 _ ⟨k3, k1, q1⟩ fun W RW => (p_unary_bad RW (c.nx k) c.bm 17 RW.s.b1 RW.s.b2).mono fun e w' ⟨he, hf⟩ => ⟨hf, he⟩
      · rw [if_neg hd]
        exact o_minus R d _ ⟨k3, k1, q1⟩ fun W RW => p_unary H1 RW (c.nx k) d 17 c.bm h0 (by omega) (by omega) RW.s.b1 RW.s.b2 RW.s.ne.2.2.2.1 RW.s.ne.2.2.2.2.1
    rw [if_neg q1]
    by_cases q2 : (c.nx k).tx = [33]
    · rw [if_pos q2]
      by_cases hd : d = 64
      · subst hd
        rw [if_pos rfl]
        exact o_not R 64 _ ⟨k3, k1, q2⟩ fun W RW => (p_unary_bad RW (c.nx k) c.bn 18 RW.s.b3 RW.s.b4).mono fun e w' ⟨he, hf⟩ => ⟨hf, he⟩
      · rw [if_neg hd]
        exact o_not R d _ ⟨k3, k1, q2⟩ fun W RW => p_unary H1 RW (c.nx k) d 18 c.bn h0 (by omega) (by omega) RW.s.b3 RW.s.b4 RW.s.ne.2.2.2.2.2.1 RW.s.ne.2.2.2.2.2.2
    rw [if_neg q2]
    by_cases q3 : (c.nx k).tx = [40]
    · rw [if_pos q3]
      by_cases hd : d = 64
      · subst hd
        rw [if_pos rfl]
        exact o_paren R 64 _ ⟨k3, k1, q3⟩ fun W RW => (p_inner_bad RW (c.nx k)).mono fun e w' ⟨he, hf⟩ => ⟨hf, he⟩
      · rw [if_neg hd]
        exact o_paren R d _ ⟨k3, k1, q3⟩ fun W RW => p_inner H2 RW (c.nx k) d h0 (by omega) (by omega)
    rw [if_neg q3]
    exact (o_none R d ⟨k3, k1, q1, q2, q3⟩).mono fun e w' ⟨he, hf⟩ => ⟨hf, by rw [he, hat]; rfl⟩
  · have hat := Par.at_end (c := c) (k := k) (by omega)
    have hnx : c.nx k = ⟨0, ⟨#[]⟩, 0, c.L⟩ := by unfold Par.nx; rw [hat]
    rw [hat]
    simp only [opnd]
    exact (o_none R d (by rw [hnx]; exact ⟨by show ¬ (0 : Int) = 3; decide, by show ¬ (0 : Int) = 1; decide, by show ¬ ([] : Bs) = [45]; decide, by show ¬ ([] : Bs) = [33]; decide, by show ¬ ([] : Bs) = [40]; decide⟩)).mono fun e w' ⟨he, hf⟩ => ⟨hf, by rw [he, hat]; rfl⟩
theorem fnd_bd (l : Bs) : 0 ≤ (fnd l).1 ∧ (fnd l).1 ≤ 16 ∧ ((fnd l).2 = true → 1 ≤ (fnd l).1) := by
  have key : ∀ n k, 1 ≤ k → k + n ≤ 17 → 0 ≤ (fndFrom l n k).1 ∧ (fndFrom l n k).1 ≤ 16 ∧ ((fndFrom l n k).2 = true → 1 ≤ (fndFrom l n k).1) := by
    intro n
    induction n with
    | zero => intro k _ _; exact ⟨Int.le_refl _, by show (0 : Int) ≤ 16; decide, fun h => by cases h⟩
    | succ n ih =>
      intro k h1 h2
      simp only [fndFrom]
      split
      · exact ⟨by simp only; omega, by simp only; omega, fun _ => by simp only; omega⟩
      · exact ih (k + 1) (by omega) (by omega)
  exact key 16 1 (by omega) (by omega)
theorem level_fnd (l : Bs) : levelOf (fnd l).1 = levelI (fnd l).1 := by
  have := fnd_bd l
  unfold levelOf levelI
  rw [if_neg (by omega)]
  rfl
theorem level_bd {o : Int} (h0 : 1 ≤ o) (h1 : o ≤ 16) : 1 ≤ levelI o ∧ levelI o ≤ 8 := by
  have : o = 1 ∨ o = 2 ∨ o = 3 ∨ o = 4 ∨ o = 5 ∨ o = 6 ∨ o = 7 ∨ o = 8 ∨ o = 9 ∨ o = 10 ∨ o = 11 ∨ o = 12 ∨ o = 13 ∨ o = 14 ∨ o = 15 ∨ o = 16 := by omega
  rcases this with rfl | rfl | rfl | rfl | rfl | rfl | rfl | rfl | rfl | rfl | rfl | rfl | rfl | rfl | rfl | rfl <;> decide
theorem fnd_nil : fnd [] = (0, false) := by decide
/-- The operator that comes next. -/
def Par.op (c : Par) (k : Nat) : Int × Bool := fnd (c.nx k).tx
/-- Does it bind so strongly? -/
def goesOn (c : Par) (k : Nat) (v : Int) : Bool := (c.op k).2 && decide (v ≤ levelI (c.op k).1)
theorem binL_stop {c : Par} {k n : Nat} {v d : Int} {e : Ex} (h : goesOn c k v = false) : binL fnd c.L (n + 1) v d e (c.at k) = .ok e (c.at k) := by
  by_cases hk : k < c.toks.length
  · rw [at_nx hk]
    simp only [binL]
    rw [if_neg]
    intro hh
    unfold goesOn Par.op at h
    rw [hh.1] at h
    simp at h
    omega
  · rw [Par.at_end (by omega)]; rfl
theorem binL_go {c : Par} {k n : Nat} {v d : Int} {e : Ex} (h : goesOn c k v = true) : k < c.toks.length ∧ binL fnd c.L (n + 1) v d e (c.at k) = (binE fnd c.L n (levelI (c.op k).1 + 1) d (c.at (k + 1))).then fun f r => binL fnd c.L n v d (biX (c.op k).1 (c.nx k).pos e f) r := by
  unfold goesOn at h
  simp only [Bool.and_eq_true, decide_eq_true_eq] at h
  have hk : k < c.toks.length := nx_lt (.inr (fun e0 => by
    have := h.1
    unfold Par.op at this
    rw [e0, fnd_nil] at this
    cases this))
  refine ⟨hk, ?_⟩
  rw [at_nx hk]
  simp only [binL]
  rw [if_pos]
  · rfl
  · exact h
theorem Tabs.fr {c : Par} {W : World} (S : RdS c W) : Tabs W := S.tabs
/-- What holds within binary: the reader, the left one, the result's block. -/
structure BinS (c : Par) (w : World) (b7 : Nat) (e1 : Ex) (a5 : Option Addr) (cap5 : Nat) (W : World) (j : Nat) : Prop where
  run : At c w W j
  left : Own W b7 26 #[.int .u8 e1.kind, .int .u8 e1.op, .int .i64 e1.wd, .string e1.name, .slice a5 e1.kids.length cap5, .int .i64 e1.pos]
  res : Own W w.heap.size 26 zEx
  tree : exsAt (fun b => w.heap.size < b ∧ b ≠ b7) W e1.kids a5
section
variable {c : Par} {w W W' : World} {b7 : Nat} {e1 : Ex} {a5 : Option Addr} {cap5 j k2 : Nat}
theorem BinS.below (h : BinS c w b7 e1 a5 cap5 W j) (hb : Below W.heap.size W W') : BinS c w b7 e1 a5 cap5 W' j :=
  ⟨h.run.below hb, h.left.below hb, h.res.below hb, exsAt_stays (stays_below hb) (fun b hb => hb) h.tree⟩
theorem BinS.alloc (h : BinS c w b7 e1 a5 cap5 W j) (o : Obj) : BinS c w b7 e1 a5 cap5 (W.alloc o) j := h.below ((Below.refl _ W).alloc (Nat.le_refl _) o)
theorem BinS.step (h : BinS c w b7 e1 a5 cap5 W j) (hj : j < c.toks.length) (hX : c.X < w.heap.size) (h7 : w.heap.size < b7) : BinS c w b7 e1 a5 cap5 (W.setCell ⟨c.X, 2, none⟩ (.int .i64 ((j : Int) + 1))) (j + 1) :=
  ⟨h.run.step hj, h.left.setX 2 _ (by omega), h.res.setX 2 _ (by omega), exsAt_stays (stays_setX W 2 _ (fun b hb => by omega)) (fun b hb => hb) h.tree⟩
theorem BinS.call (h : BinS c w b7 e1 a5 cap5 W j) (hf : Fr c W W') (hp : Rd c W' k2) (hX : c.X < w.heap.size) (h7 : w.heap.size < b7) : BinS c w b7 e1 a5 cap5 W' k2 :=
  ⟨h.run.call hf hp, h.left.fr hf (by omega), h.res.fr hf (by omega), exsAt_stays (stays_fr hf (fun b hb => by omega)) (fun b hb => hb) h.tree⟩
end
/-- What holds at the head of a round of binary. -/
def BinI (c : Par) (w : World) (b7 : Nat) (v d : Int) (Y : PR Ex) (m : Nat) (W : World) : Prop :=
  ∃ (j : Nat) (e1 : Ex) (a5 : Option Addr) (cap5 : Nat), BinS c w b7 e1 a5 cap5 W j ∧ binL fnd c.L m v d e1 (c.at j) = Y ∧ 3 * (c.at j).length + 1 ≤ m
set_option maxRecDepth 100000 in
set_option maxHeartbeats 8000000 in
theorem p_binary {n : Nat} (H : ∀ m, m < n + 1 → OpndC m ∧ BinC m) : BinC (n + 1) := by
  intro c w k v d R v0 v1 h0 h1 hn
  obtain ⟨Y0, hY0⟩ : ∃ Y0, Y0 = opnd fnd c.L n d (c.at k) := ⟨_, rfl⟩
  have HC : Hid (∀ W, Rd c W k → Calls Tryd.prog 41 #[c.ptr, .int .i64 d] W (RdPost c W Y0 (exR W.heap.size))) := fun W RW => by rw [hY0]; exact (H n (by omega)).1 c W k d RW h0 h1 (by omega)
  have HY : Hid (∀ e r, Y0 = .ok e r → r.length < (c.at k).length) := fun e r h => opnd_short (hY0.symm.trans h)
  have HB : Hid (∀ (m : Nat) (W : World) (j : Nat) (x : Int), m < n + 1 → Rd c W j → 1 ≤ x → x ≤ 9 → 3 * (c.at j).length + 2 ≤ m → Calls Tryd.prog 21 #[c.ptr, .int .i64 x, .int .i64 d] W (RdPost c W (binE fnd c.L m x d (c.at j)) (exR W.heap.size))) := fun m W j x hm RW h2 h3 h4 => (H m hm).2 c W j x d RW h2 h3 h0 h1 h4
  simp only [binE]
  rw [← hY0]
  have A0 := Lib.hid ((At.start R).alloc (.cells zEx 26))
  have O0 := Own.new w 26 zEx
  have HR := Lib.hid R
  have hX := Lib.hid R.lt
  have HN := Lib.hid hn
  clear hY0 H R hn
  unfold Par.ptr zEx at *
  go_enter Tryd.func21, Tryd.ntmps21
  go_wp2_with fail
  go_at_call 41
  refine (HC.out _ (A0.out.rd HR.out)).mono ?_
  rintro e w1 ⟨hf1, hm⟩
  rcases Y0 with ⟨e0, r0⟩ | ⟨p, q⟩
  rotate_left
  · obtain rfl := hm
    have A1 := Lib.hid (A0.out.fr.trans hf1)
    clear hf1
    go_wp2_with fail
    exact ⟨rfl, A1.out, rfl⟩
  obtain ⟨v1, k1, rfl, ⟨a4, cap4, rfl, hV⟩, hR1, rfl⟩ := hm
  have hlen := HY.out _ _ rfl
  have hXX := hX.out
  have l0 := O0.lt
  have B0 : Hid (BinI c w w1.heap.size v d (binL fnd c.L n v d e0 (c.at k1)) n (w1.alloc (.cells #[.int .u8 e0.kind, .int .u8 e0.op, .int .i64 e0.wd, .string e0.name, .slice a4 e0.kids.length cap4, .int .i64 e0.pos] 26))) := by
    refine ⟨k1, e0, a4, cap4, ⟨(A0.out.call hf1 hR1).alloc _, Own.new w1 _ _, (O0.fr hf1 (by omega)).alloc _, ?_⟩, rfl, by have := HN.out; omega⟩
    exact exsAt_mono (exsAt_stays (stays_alloc _ w1 _) (fun b hb => hb) (exsAt_in hV)) (fun b hb => by have h1 := hb.1; have h2 := hb.2; simp at h1; omega)
  have hw1 := Lib.hid (show w.heap.size < w1.heap.size by have := Keep.size hf1; omega)
  have HM := Lib.hid (show n < n + 1 by omega)
  obtain ⟨Y, hY⟩ : ∃ Y, Y = binL fnd c.L n v d e0 (c.at k1) := ⟨_, rfl⟩
  rw [← hY] at B0
  have HYY := Lib.hid hY.symm
  clear hf1 hV hR1 hlen hXX l0 O0 A0 hY HY HC
  go_wp2_with fail
  go_loopg [] n (fun m W => m < n + 1 ∧ BinI c w w1.heap.size v d Y m W)
  case atStart => exact ⟨HM.out, B0.out⟩
  case round =>
    obtain ⟨hm, j, e1, a5, cap5, S1, hL, hfu⟩ := hrel
    obtain ⟨m, rfl⟩ : ∃ m, gk = m + 1 := ⟨gk - 1, by omega⟩
    have hj6 : j ≤ 65536 := by have := HR.out.s.small.1; have := S1.run.le; omega
    have HS1 := Lib.hid S1
    have HFU := Lib.hid hfu
    have HMM := Lib.hid hm
    have HL := Lib.hid hL
    have HNX := Lib.hid (p_next (S1.run.rd HR.out))
    obtain ⟨t, ht⟩ : ∃ t, t = c.nx j := ⟨_, rfl⟩
    have HT := Lib.hid ht
    rw [← ht] at HNX
    clear S1 hfu hm hL ht
    obtain ⟨tk, tx, tw, tp⟩ := t
    have HOP : Hid (fnd tx.data.toList = c.op j) := by show fnd tx.data.toList = fnd (c.nx j).tx; rw [← HT.out]; rfl
    obtain ⟨op, hop⟩ : ∃ op, op = (c.op j).1 := ⟨_, rfl⟩
    obtain ⟨is, his⟩ : ∃ is, is = (c.op j).2 := ⟨_, rfl⟩
    have HFN : Hid (∀ W, Tabs W → Calls Tryd.prog 42 #[.string tx] W fun e w' => e = .returned (.tuple #[.int .u8 op, .bool is]) ∧ Below W.heap.size W w') := fun W TW => by
      have := find_any tx W TW
      rw [HOP.out, ← hop, ← his] at this
      exact this
    have hb := fnd_bd (c.nx j).tx
    have hlv : levelOf op = levelI op := by rw [hop]; exact level_fnd _
    have ho0 : 0 ≤ op := by rw [hop]; exact hb.1
    have ho1 : op ≤ 16 := by rw [hop]; exact hb.2.1
    have hoi : is = true → 1 ≤ op := by rw [hop, his]; exact hb.2.2
    have HG : Hid (goesOn c j v = (is && decide (v ≤ levelI op))) := by unfold goesOn; rw [Hid, ← hop, ← his]
    obtain ⟨lv, hlvv⟩ : ∃ lv, lv = levelI op := ⟨_, rfl⟩
    have HLV : Hid (∀ W, Tabs W → Calls Tryd.prog 43 #[.int .u8 op] W fun e w' => e = .returned (.int .i64 lv) ∧ W = w') := fun W TW => by
      have := level_any op ho0 (by omega) W TW
      rw [hlv, ← hlvv] at this
      exact this
    rw [← hlvv] at HG
    have hlb : Hid (is = true → 1 ≤ lv ∧ lv ≤ 8) := fun h => by rw [hlvv]; exact level_bd (hoi h) ho1
    have HOP2 := Lib.hid (And.intro hop hlvv)
    clear hop his hb hlv hoi hlvv
    unfold tkV at *
    go_wp2_with fail
    go_at_call 40
    refine (HNX.out).mono ?_
    rintro e w2 ⟨rfl, hb⟩
    have S2 := Lib.hid ((HS1.out.below hb).alloc (.cells #[.int .u8 tk, .string tx, .int .i64 tw, .int .i64 tp] 69))
    have T2 := Lib.hid (Own.new w2 69 #[.int .u8 tk, .string tx, .int .i64 tw, .int .i64 tp])
    have hz2 := Lib.hid (HS1.out.below hb).left.lt
    clear hb
    go_wp2_with fail
    go_at_call 42
    refine (HFN.out _ (S2.out.run.rd HR.out).s.tabs).mono ?_
    rintro e w3 ⟨rfl, hb⟩
    have S3 := Lib.hid (S2.out.below hb)
    have T3 := Lib.hid (T2.out.below hb)
    clear hb
    by_cases hg : goesOn c j v = true
    · obtain ⟨hjlt, hsp⟩ := binL_go (n := m) (d := d) (e := e1) hg
      rw [HG.out] at hg
      obtain ⟨rfl, hvl⟩ : is = true ∧ v ≤ lv := by simpa using hg
      obtain ⟨lv1, lv8⟩ := hlb.out rfl
      obtain ⟨Z, hZ⟩ : ∃ Z, Z = binE fnd c.L m (lv + 1) d (c.at (j + 1)) := ⟨_, rfl⟩
      have hlen : (c.at j).length = (c.at (j + 1)).length + 1 := by rw [at_nx hjlt]; rfl
      have HBC : Hid (∀ W, Rd c W (j + 1) → Calls Tryd.prog 21 #[.pointer (some ⟨c.X, 0, none⟩), .int .i64 (lv + 1), .int .i64 d] W (RdPost c W Z (exR W.heap.size))) := fun W RW => by
        rw [hZ]; exact HB.out m W (j + 1) (lv + 1) (by have := HMM.out; omega) RW (by omega) (by omega) (by have := HFU.out; omega)
      have HSP : Hid (Y = Z.then fun f r => binL fnd c.L m v d (biX op tp e1 f) r) := by
        rw [Hid, ← HL.out, hsp, hZ, ← HOP2.out.1, ← HOP2.out.2, ← HT.out]
      have HZL : Hid (∀ e r, Z = .ok e r → r.length < (c.at (j + 1)).length) := fun e r h => binE_short (hZ.symm.trans h)
      have HLEN := Lib.hid hlen
      have HJ := Lib.hid hjlt
      obtain ⟨⟨_, _, x2, _⟩, xf⟩ := S3.out.run.cells
      have S4 := Lib.hid (S3.out.step hjlt hX.out hw1.out)
      have hn3 := Lib.hid (show c.X ≠ w2.heap.size by have := hX.out; have := hw1.out; have := hz2.out; omega)
      have T4 := Lib.hid (T3.out.setX 2 (.int .i64 ((j : Int) + 1)) hn3.out)
      clear hg hsp hZ hlen hjlt
      go_wp2_with (first | (go_at_call 43; refine (HLV.out _ (S3.out.run.rd HR.out).s.tabs).mono ?_; rintro e w4 ⟨rfl, rfl⟩) | (go_at_call 43; refine (HLV.out _ (S4.out.run.rd HR.out).s.tabs).mono ?_; rintro e w4 ⟨rfl, rfl⟩))
      go_at_call 21
      refine (HBC.out _ (S4.out.run.rd HR.out)).mono ?_
      rintro e w5 ⟨hf5, hm5⟩
      rcases Z with ⟨e2, r2⟩ | ⟨p, q⟩
      rotate_left
      · obtain rfl := hm5
        have A5 := Lib.hid (S4.out.run.fr.trans hf5)
        clear hf5 x2 xf
        go_wp2_with fail
        refine ⟨rfl, ?_⟩
        show RdPost c w (binL fnd c.L n v d e0 (c.at k1)) _ _ _
        rw [HYY.out, HSP.out]
        exact ⟨A5.out, rfl⟩
      obtain ⟨v2, k2, rfl, ⟨a6, cap6, rfl, hV⟩, hR5, rfl⟩ := hm5
      have S5 := S4.out.call hf5 hR5 hX.out hw1.out
      have T5 := T4.out.fr hf5 hn3.out
      have S6 := Lib.hid ((S5.alloc (.cells #[.int .u8 e2.kind, .int .u8 e2.op, .int .i64 e2.wd, .string e2.name, .slice a6 e2.kids.length cap6, .int .i64 e2.pos] 26)).alloc (.cells #[.int .u8 e1.kind, .int .u8 e1.op, .int .i64 e1.wd, .string e1.name, .slice a5 e1.kids.length cap5, .int .i64 e1.pos, .int .u8 e2.kind, .int .u8 e2.op, .int .i64 e2.wd, .string e2.name, .slice a6 e2.kids.length cap6, .int .i64 e2.pos] 26))
      have O7 := (S5.alloc (.cells #[.int .u8 e2.kind, .int .u8 e2.op, .int .i64 e2.wd, .string e2.name, .slice a6 e2.kids.length cap6, .int .i64 e2.pos] 26)).left
      have N6 := Own.new w5 26 #[.int .u8 e2.kind, .int .u8 e2.op, .int .i64 e2.wd, .string e2.name, .slice a6 e2.kids.length cap6, .int .i64 e2.pos]
      have N7 := Own.new (w5.alloc (.cells #[.int .u8 e2.kind, .int .u8 e2.op, .int .i64 e2.wd, .string e2.name, .slice a6 e2.kids.length cap6, .int .i64 e2.pos] 26)) 26 #[.int .u8 e1.kind, .int .u8 e1.op, .int .i64 e1.wd, .string e1.name, .slice a5 e1.kids.length cap5, .int .i64 e1.pos, .int .u8 e2.kind, .int .u8 e2.op, .int .i64 e2.wd, .string e2.name, .slice a6 e2.kids.length cap6, .int .i64 e2.pos]
      rw [World.size_alloc] at N7
      have N7 := Lib.hid N7
      have t3 : w5.cell? ⟨w2.heap.size, 3, none⟩ = some (.int .i64 tp) := by rw [cell_of_row w5 w2.heap.size 3 _ _ _ T5]; rfl
      have hl5 := T5.lt
      have O77 := S6.out.left
      have hV5 := Lib.hid (exsAt_in hV)
      have hl7 := Lib.hid (And.intro S5.left.lt (show w1.heap.size < w2.heap.size from hz2.out))
      have hsz5 := Lib.hid (Keep.size hf5)
      have hk2 := Lib.hid (HZL.out _ _ rfl)
      clear hf5 hR5 hV S5 T5 x2 xf
      go_wp2_with (first | (refine ld rowEx rfl rfl rfl O7 rfl ?_) | (refine ld rowEx rfl rfl rfl N6 rfl ?_) | (refine st rowEx rfl rfl O77 rfl rfl (by rfl) (by rfl) (by kernel_rfl) ?_))
      go_roundg m
      case measure => omega
      case rel =>
        have hx := hX.out
        have h17 := hw1.out
        obtain ⟨h27, h37⟩ := hl7.out
        have h5 := hsz5.out
        have h2z := hz2.out
        have h23 := T3.out.lt
        have h4s : w3.heap.size ≤ w5.heap.size := by simpa using h5
        have S7 := S6.out.run.setRow (g := w1.heap.size) (by omega) (by omega) #[.int .u8 4, .int .u8 op, .int .i64 0, .string ⟨#[]⟩, .slice (some ⟨w5.heap.size + 1, 0, none⟩) 2 2, .int .i64 tp]
        have st7 : Stays (fun b => w.heap.size < b ∧ b ≠ w1.heap.size) (w5.alloc (.cells #[.int .u8 e2.kind, .int .u8 e2.op, .int .i64 e2.wd, .string e2.name, .slice a6 e2.kids.length cap6, .int .i64 e2.pos] 26)) (((w5.alloc (.cells #[.int .u8 e2.kind, .int .u8 e2.op, .int .i64 e2.wd, .string e2.name, .slice a6 e2.kids.length cap6, .int .i64 e2.pos] 26)).alloc (.cells #[.int .u8 e1.kind, .int .u8 e1.op, .int .i64 e1.wd, .string e1.name, .slice a5 e1.kids.length cap5, .int .i64 e1.pos, .int .u8 e2.kind, .int .u8 e2.op, .int .i64 e2.wd, .string e2.name, .slice a6 e2.kids.length cap6, .int .i64 e2.pos] 26)).setRow w1.heap.size #[.int .u8 4, .int .u8 op, .int .i64 0, .string ⟨#[]⟩, .slice (some ⟨w5.heap.size + 1, 0, none⟩) 2 2, .int .i64 tp]) := (stays_alloc _ _ _).trans (stays_row _ _ (fun b hb => by omega))
        have N8 := N7.out.other #[.int .u8 4, .int .u8 op, .int .i64 0, .string ⟨#[]⟩, .slice (some ⟨w5.heap.size + 1, 0, none⟩) 2 2, .int .i64 tp] (g := w1.heap.size) (by omega)
        refine ⟨by have := HMM.out; omega, k2, biX op tp e1 e2, some ⟨w5.heap.size + 1, 0, none⟩, 2, ⟨S7, S6.out.left.row _, S6.out.res.other _ (by omega), ?_⟩, ?_, ?_⟩
        · refine .inr ⟨w5.heap.size + 1, 0, rfl, ⟨by omega, by omega⟩, ?_⟩
          have v1 := exsAt_stays (stays_row _ (g := w1.heap.size) #[.int .u8 4, .int .u8 op, .int .i64 0, .string ⟨#[]⟩, .slice (some ⟨w5.heap.size + 1, 0, none⟩) 2 2, .int .i64 tp] (fun b hb => by omega)) (fun b hb => hb) S6.out.tree
          have v2 := exsAt_mono (exsAt_stays ((stays_alloc _ w5 (.cells #[.int .u8 e2.kind, .int .u8 e2.op, .int .i64 e2.wd, .string e2.name, .slice a6 e2.kids.length cap6, .int .i64 e2.pos] 26)).trans ((stays_alloc _ _ (.cells #[.int .u8 e1.kind, .int .u8 e1.op, .int .i64 e1.wd, .string e1.name, .slice a5 e1.kids.length cap5, .int .i64 e1.pos, .int .u8 e2.kind, .int .u8 e2.op, .int .i64 e2.wd, .string e2.name, .slice a6 e2.kids.length cap6, .int .i64 e2.pos] 26)).trans (stays_row _ (g := w1.heap.size) #[.int .u8 4, .int .u8 op, .int .i64 0, .string ⟨#[]⟩, .slice (some ⟨w5.heap.size + 1, 0, none⟩) 2 2, .int .i64 tp] (fun b hb => by have h1 := hb.1; simp at h1; omega)))) (fun b hb => hb) hV5.out) (R' := fun b => w.heap.size < b ∧ b ≠ w1.heap.size) (fun b hb => by have h1 := hb.1; simp at h1; omega)
          refine ⟨exIn_of (vs := exCells e1 a5 cap5) ⟨a5, cap5, rfl, v1⟩ ?_, exIn_of (vs := exCells e2 a6 cap6) ⟨a6, cap6, rfl, v2⟩ ?_, trivial⟩
          · intro q u hq
            have hq6 : q < 6 := (List.getElem?_eq_some_iff.1 hq).1
            rw [Nat.zero_add, cell_of_row _ (w5.heap.size + 1) q _ _ _ N8, ← hq]
            have : q = 0 ∨ q = 1 ∨ q = 2 ∨ q = 3 ∨ q = 4 ∨ q = 5 := by omega
            rcases this with rfl | rfl | rfl | rfl | rfl | rfl <;> rfl
          · intro q u hq
            have hq6 : q < 6 := (List.getElem?_eq_some_iff.1 hq).1
            rw [cell_of_row _ (w5.heap.size + 1) (0 + 6 + q) _ _ _ N8, ← hq]
            have : q = 0 ∨ q = 1 ∨ q = 2 ∨ q = 3 ∨ q = 4 ∨ q = 5 := by omega
            rcases this with rfl | rfl | rfl | rfl | rfl | rfl <;> rfl
        · rw [HSP.out]; rfl
        · have h1 := hk2.out
          have h2 := HFU.out
          have h3 := HLEN.out
          omega
    · have hg' : goesOn c j v = false := by simpa using hg
      have hres : Hid (Y = .ok e1 (c.at j)) := by rw [Hid, ← HL.out]; exact binL_stop hg'
      have fin : ∀ (W : World), W = w3 → RdPost c w (binL fnd c.L n v d e0 (c.at k1)) (exR w.heap.size) (.returned (.agg #[.int .u8 e1.kind, .int .u8 e1.op, .int .i64 e1.wd, .string e1.name, .slice a5 e1.kids.length cap5, .int .i64 e1.pos])) (W.setRow w.heap.size #[.int .u8 e1.kind, .int .u8 e1.op, .int .i64 e1.wd, .string e1.name, .slice a5 e1.kids.length cap5, .int .i64 e1.pos]) := by
        rintro W rfl
        rw [HYY.out, hres.out]
        have hx := hX.out
        have S4 := S3.out.run.setRow (Nat.le_refl _) (by omega) #[.int .u8 e1.kind, .int .u8 e1.op, .int .i64 e1.wd, .string e1.name, .slice a5 e1.kids.length cap5, .int .i64 e1.pos]
        exact ⟨S4.fr, _, j, rfl, ⟨a5, cap5, rfl, exsAt_mono (exsAt_stays (stays_row W (g := w.heap.size) #[.int .u8 e1.kind, .int .u8 e1.op, .int .i64 e1.wd, .string e1.name, .slice a5 e1.kids.length cap5, .int .i64 e1.pos] (fun b hb => by omega)) (fun b hb => hb) S3.out.tree) (fun b hb => by omega)⟩, S4.rd HR.out, rfl⟩
      have O7 := S3.out.left
      have O6 := S3.out.res
      have fin := Lib.hid fin
      rw [HG.out] at hg'
      clear hg
      cases is with
      | false =>
        clear hg'
        go_wp2_with (first | (refine ld rowEx rfl rfl rfl O7 rfl ?_) | (refine st rowEx rfl rfl O6 rfl rfl (by rfl) (by rfl) (by kernel_rfl) ?_))
        exact p_ret rowEx rfl (O6.row #[.int .u8 e1.kind, .int .u8 e1.op, .int .i64 e1.wd, .string e1.name, .slice a5 e1.kids.length cap5, .int .i64 e1.pos]) rfl rfl rfl (fin.out _ rfl)
      | true =>
        have hlt : lv < v := by simpa using hg'
        clear hg'
        go_wp2_with (first | (go_at_call 43; refine (HLV.out _ (S3.out.run.rd HR.out).s.tabs).mono ?_; rintro e w4 ⟨rfl, rfl⟩) | (refine ld rowEx rfl rfl rfl O7 rfl ?_) | (refine st rowEx rfl rfl O6 rfl rfl (by rfl) (by rfl) (by kernel_rfl) ?_))
        exact p_ret rowEx rfl (O6.row #[.int .u8 e1.kind, .int .u8 e1.op, .int .i64 e1.wd, .string e1.name, .slice a5 e1.kids.length cap5, .int .i64 e1.pos]) rfl rfl rfl (fin.out _ rfl)
theorem exprs_step {n : Nat} (H : ∀ m, m < n → OpndC m ∧ BinC m) : OpndC n ∧ BinC n := by
  cases n with
  | zero => exact ⟨fun c w k d _ _ _ h => by omega, fun c w k v d _ _ _ _ _ h => by omega⟩
  | succ n => exact ⟨opnd_step (H n (by omega)).1 (H n (by omega)).2, p_binary H⟩
theorem exprs_all (n : Nat) : OpndC n ∧ BinC n := by
  induction n using Nat.strongRecOn with
  | ind n ih => exact exprs_step ih
/-- An expression. -/
theorem p_expression {c : Par} {w : World} {k n : Nat} (R : Rd c w k) (hn : 3 * (c.at k).length + 2 ≤ n) :
    Calls Tryd.prog 10 #[c.ptr] w (RdPost c w (binE fnd c.L n 1 0 (c.at k)) (exR w.heap.size)) := by
  obtain ⟨Y, hY⟩ : ∃ Y, Y = binE fnd c.L n 1 0 (c.at k) := ⟨_, rfl⟩
  have HC : Hid (∀ W, Rd c W k → Calls Tryd.prog 21 #[c.ptr, .int .i64 1, .int .i64 0] W (RdPost c W Y (exR W.heap.size))) := fun W RW => by
    rw [hY]; exact (exprs_all n).2 c W k 1 0 RW (by omega) (by omega) (by omega) (by omega) hn
  rw [← hY]
  have A0 := Lib.hid ((At.start R).alloc (.cells zEx 26))
  have O0 := Own.new w 26 zEx
  have HR := Lib.hid R
  have hX := Lib.hid R.lt
  clear hY R hn
  unfold Par.ptr zEx at *
  go_enter Tryd.func10, Tryd.ntmps10
  go_wp2_with fail
  go_at_call 21
  refine (HC.out _ (A0.out.rd HR.out)).mono ?_
  rintro e w1 ⟨hf1, hm⟩
  rcases Y with ⟨e0, r0⟩ | ⟨p, q⟩
  rotate_left
  · obtain rfl := hm
    have A1 := Lib.hid (A0.out.fr.trans hf1)
    clear hf1
    go_wp2_with fail
    exact ⟨rfl, A1.out, rfl⟩
  obtain ⟨v1, k1, rfl, ⟨a4, cap4, rfl, hV⟩, hR1, rfl⟩ := hm
  have hx := hX.out
  have O1 := O0.fr hf1 (by omega)
  have A1 := Lib.hid (A0.out.call hf1 hR1)
  have HV := Lib.hid hV
  clear hf1 hV hR1 hx
  go_wp2_with (first | (refine st rowEx rfl rfl O1 rfl rfl (by rfl) (by rfl) (by kernel_rfl) ?_))
  have hx := hX.out
  have A2 := A1.out.setRow (Nat.le_refl _) (by omega) #[.int .u8 e0.kind, .int .u8 e0.op, .int .i64 e0.wd, .string e0.name, .slice a4 e0.kids.length cap4, .int .i64 e0.pos]
  refine p_ret rowEx rfl (O1.row #[.int .u8 e0.kind, .int .u8 e0.op, .int .i64 e0.wd, .string e0.name, .slice a4 e0.kids.length cap4, .int .i64 e0.pos]) rfl rfl rfl ?_
  exact ⟨A2.fr, _, k1, rfl, ⟨a4, cap4, rfl, exsAt_mono (exsAt_stays (stays_row w1 (g := w.heap.size) _ (fun b hb => by simp at hb; omega)) (fun b hb => hb) HV.out) (fun b hb => by simp at hb; omega)⟩, A2.rd HR.out, rfl⟩
end Go.Proofs.YtgaibdipecngkaaDoor

namespace Go.Proofs.YtgaibdipecngkaaDoor
open Go.RowKit
set_option linter.unusedVariables false
theorem isK_two {L : Int} {ts : List Tk} {a b : Bs} (h : isK L a ts = true) (hab : a ≠ b) : isK L b ts = false := by
  unfold isK at h ⊢
  simp only [Bool.and_eq_true, beq_iff_eq] at h
  rw [h.2]
  have : (a == b) = false := by simpa using hab
  rw [this]; simp
theorem isK_kind {L : Int} {ts : List Tk} {a : Bs} (h : isK L a ts = true) : ¬ (hereM L ts).kind = 3 ∧ ¬ (hereM L ts).kind = 1 := by
  unfold isK at h
  simp only [Bool.and_eq_true, Bool.or_eq_true, beq_iff_eq] at h
  omega
theorem un_step {n : Nat} (H1 : UnC n) (H2 : ExC n) : UnC (n + 1) := by
  intro c w σ d R h0 h1 hn
  obtain ⟨b1, e1⟩ : ∃ b, isK c.L [45] σ.ts = b := ⟨_, rfl⟩
  obtain ⟨b2, e2⟩ : ∃ b, isK c.L [33] σ.ts = b := ⟨_, rfl⟩
  obtain ⟨b3, e3⟩ : ∃ b, isK c.L [40] σ.ts = b := ⟨_, rfl⟩
  by_cases hok : σ.ok = true
  · have hs : ∀ s, isK c.L s σ.ts = true → (σ.step.ok = true → 3 * σ.step.ts.length + 2 ≤ n) := by
      intro s hk hh
      have := isK_ne hk
      have := hn hok
      have e : σ.step.ts.length = σ.ts.tail.length := rfl
      omega
    simp only [unM]
    by_cases hb : (b1 || b2 || b3) = true
    · have hany : ∃ s, isK c.L s σ.ts = true := by
        simp only [Bool.or_eq_true] at hb
        rcases hb with (hb | hb) | hb
        · exact ⟨_, e1.trans hb⟩
        · exact ⟨_, e2.trans hb⟩
        · exact ⟨_, e3.trans hb⟩
      obtain ⟨s, hs1⟩ := hany
      obtain ⟨k3, k1⟩ := isK_kind hs1
      by_cases hd : d = 64
      · have hdm : σ.deepM c.L d = σ.fail c.L 3 := by
          unfold Sr.deepM
          rw [e1, e2, e3, if_pos]
          rw [hb]; simp; omega
        rw [hdm, if_pos (fail_ok (by decide))]
        cases b1 with
        | true => exact un_deep_T R e1 e2 e3 (by omega)
        | false =>
          cases b2 with
          | true => exact un_deep_FT R e1 e2 e3 (by omega)
          | false =>
            cases b3 with
            | true => exact un_deep_FFT R e1 e2 e3 (by omega)
            | false => cases hb
      · have hdm : σ.deepM c.L d = σ := by
          unfold Sr.deepM
          rw [if_neg]
          simp only [Bool.and_eq_true, decide_eq_true_eq]
          intro hh; omega
        rw [hdm, if_neg (by rw [hok]; decide), if_neg k3, if_neg k1]
        cases b1 with
        | true =>
          have f2 := isK_two (b := [33]) e1 (by decide)
          have f3 := isK_two (b := [40]) e1 (by decide)
          rw [if_neg (by rw [f3]; decide), if_pos e1]
          exact un_sub R e1 f2 f3 hok k3 k1 h0 (by omega) (fun W RW => H1 c W σ.step (d + 1) RW (by omega) (by omega) (fun h => by have := hs _ e1 h; omega))
        | false =>
          cases b2 with
          | true =>
            have f3 := isK_two (b := [40]) e2 (by decide)
            rw [if_neg (by rw [f3]; decide), if_neg (by rw [e1]; decide), if_pos e2]
            exact un_not R e1 e2 f3 hok k3 k1 h0 (by omega) (fun W RW => H1 c W σ.step (d + 1) RW (by omega) (by omega) (fun h => by have := hs _ e2 h; omega))
          | false =>
            cases b3 with
            | true =>
              rw [if_pos e3]
              exact un_par R e1 e2 e3 hok k3 k1 h0 (by omega) (fun W RW => H2 c W σ.step 1 (d + 1) RW (by omega) (by omega) (by omega) (by omega) (fun h => hs _ e3 h))
            | false => cases hb
    · have hb' : b1 = false ∧ b2 = false ∧ b3 = false := by
        cases b1 <;> cases b2 <;> cases b3 <;> simp at hb ⊢
      obtain ⟨rfl, rfl, rfl⟩ := hb'
      have hdm : σ.deepM c.L d = σ := by
        unfold Sr.deepM
        rw [e1, e2, e3, if_neg (by simp)]
      rw [hdm, if_neg (by rw [hok]; decide)]
      by_cases k3 : (hereM c.L σ.ts).kind = 3
      · rw [if_pos k3]; exact un_kind3 R e1 e2 e3 hok k3
      · rw [if_neg k3]
        by_cases k1 : (hereM c.L σ.ts).kind = 1
        · rw [if_pos k1]; exact un_kind1 R e1 e2 e3 hok k1
        · rw [if_neg k1, if_neg (by rw [e3]; decide), if_neg (by rw [e1]; decide), if_neg (by rw [e2]; decide)]
          exact un_none R e1 e2 e3 hok k3 k1
  · have hb : σ.ok = false := by simpa using hok
    rw [(bad_expr (n + 1) hb).1]
    by_cases hd : d < 64
    · cases b1 with
      | true => exact un_bad_T0 R e1 e2 e3 hb hd
      | false =>
        cases b2 with
        | true => exact un_bad_FT0 R e1 e2 e3 hb hd
        | false =>
          cases b3 with
          | true => exact un_bad_FFT0 R e1 e2 e3 hb hd
          | false => exact un_bad_FFF0 R e1 e2 e3 hb
    · cases b1 with
      | true => exact un_bad_T1 R e1 e2 e3 hb (by omega)
      | false =>
        cases b2 with
        | true => exact un_bad_FT1 R e1 e2 e3 hb (by omega)
        | false =>
          cases b3 with
          | true => exact un_bad_FFT1 R e1 e2 e3 hb (by omega)
          | false => exact un_bad_FFF0 R e1 e2 e3 hb
/-- A reader with a fault needs no fuel. -/
theorem un_zero : UnC 0 := by
  intro c w σ d R h0 h1 hn
  have hb : σ.ok = false := by
    cases h : σ.ok with
    | false => rfl
    | true => have := hn h; omega
  have e : unM c.L 0 d σ = unM c.L 1 d σ := by rw [(bad_expr 0 hb).1, (bad_expr 1 hb).1]
  rw [e]
  obtain ⟨b1, e1⟩ : ∃ b, isK c.L [45] σ.ts = b := ⟨_, rfl⟩
  obtain ⟨b2, e2⟩ : ∃ b, isK c.L [33] σ.ts = b := ⟨_, rfl⟩
  obtain ⟨b3, e3⟩ : ∃ b, isK c.L [40] σ.ts = b := ⟨_, rfl⟩
  rw [(bad_expr 1 hb).1]
  by_cases hd : d < 64
  · cases b1 with
    | true => exact un_bad_T0 R e1 e2 e3 hb hd
    | false =>
      cases b2 with
      | true => exact un_bad_FT0 R e1 e2 e3 hb hd
      | false =>
        cases b3 with
        | true => exact un_bad_FFT0 R e1 e2 e3 hb hd
        | false => exact un_bad_FFF0 R e1 e2 e3 hb
  · cases b1 with
    | true => exact un_bad_T1 R e1 e2 e3 hb (by omega)
    | false =>
      cases b2 with
      | true => exact un_bad_FT1 R e1 e2 e3 hb (by omega)
      | false =>
        cases b3 with
        | true => exact un_bad_FFT1 R e1 e2 e3 hb (by omega)
        | false => exact un_bad_FFF0 R e1 e2 e3 hb
/-- What holds within expr: the reader, the left one, the result's block. -/
structure ExS (c : Par) (w : World) (b7 : Nat) (e1 : Ex) (a5 : Option Addr) (cap5 : Nat) (W : World) (σ : Sr) : Prop where
  run : As c w W σ
  left : Own W b7 26 #[.int .u8 e1.kind, .int .u8 e1.op, .int .i64 e1.wd, .string e1.name, .slice a5 e1.kids.length cap5, .int .i64 e1.pos]
  res : Own W w.heap.size 26 zEx
  tree : exsAt (fun b => w.heap.size < b ∧ b ≠ b7) W e1.kids a5
section
variable {c : Par} {w W W' : World} {b7 : Nat} {e1 : Ex} {a5 : Option Addr} {cap5 : Nat} {σ σ' : Sr}
theorem ExS.below (h : ExS c w b7 e1 a5 cap5 W σ) (hb : Below W.heap.size W W') : ExS c w b7 e1 a5 cap5 W' σ :=
  ⟨h.run.below hb, h.left.below hb, h.res.below hb, exsAt_stays (stays_below hb) (fun b hb => hb) h.tree⟩
theorem ExS.alloc (h : ExS c w b7 e1 a5 cap5 W σ) (o : Obj) : ExS c w b7 e1 a5 cap5 (W.alloc o) σ := h.below ((Below.refl _ W).alloc (Nat.le_refl _) o)
theorem ExS.setX (h : ExS c w b7 e1 a5 cap5 W σ) {j : Nat} {v : Value} (hr : As c w (W.setCell ⟨c.X, j, none⟩ v) σ') (hX : c.X < w.heap.size) (h7 : w.heap.size < b7) : ExS c w b7 e1 a5 cap5 (W.setCell ⟨c.X, j, none⟩ v) σ' :=
  ⟨hr, h.left.setX j _ (by omega), h.res.setX j _ (by omega), exsAt_stays (stays_setX W j _ (fun b hb => by omega)) (fun b hb => hb) h.tree⟩
theorem ExS.call (h : ExS c w b7 e1 a5 cap5 W σ) (hf : Fr c W W') (hp : Rs c W' σ') (hX : c.X < w.heap.size) (h7 : w.heap.size < b7) : ExS c w b7 e1 a5 cap5 W' σ' :=
  ⟨h.run.call hf hp, h.left.fr hf (by omega), h.res.fr hf (by omega), exsAt_stays (stays_fr hf (fun b hb => by omega)) (fun b hb => hb) h.tree⟩
end
/-- What holds at the head of a round of expr. -/
def ExI (c : Par) (w : World) (b7 : Nat) (v d : Int) (Y : Ex × Sr) (m : Nat) (W : World) : Prop :=
  ∃ (σ : Sr) (e1 : Ex) (a5 : Option Addr) (cap5 : Nat), ExS c w b7 e1 a5 cap5 W σ ∧ exLM c.L m v d e1 σ = Y ∧ (σ.ok = true → 3 * σ.ts.length + 1 ≤ m)
/-- The end of expr. -/
theorem ex_fin {c : Par} {w W : World} {b7 : Nat} {e1 : Ex} {a5 : Option Addr} {cap5 : Nat} {σ : Sr} {Y : Ex × Sr} (S : RkS c w) (hX : c.X < w.heap.size) (h : ExS c w b7 e1 a5 cap5 W σ) (hY : Y = (e1, σ)) :
    RsPost c w Y (exR w.heap.size) (.returned (.agg #[.int .u8 e1.kind, .int .u8 e1.op, .int .i64 e1.wd, .string e1.name, .slice a5 e1.kids.length cap5, .int .i64 e1.pos])) (W.setRow w.heap.size #[.int .u8 e1.kind, .int .u8 e1.op, .int .i64 e1.wd, .string e1.name, .slice a5 e1.kids.length cap5, .int .i64 e1.pos]) := by
  subst hY
  have S4 := h.run.setRow (g := w.heap.size) (Nat.le_refl _) (by omega) #[.int .u8 e1.kind, .int .u8 e1.op, .int .i64 e1.wd, .string e1.name, .slice a5 e1.kids.length cap5, .int .i64 e1.pos]
  exact ⟨S4.fr, _, rfl, ⟨a5, cap5, rfl, exsAt_mono (exsAt_stays (stays_row W (g := w.heap.size) #[.int .u8 e1.kind, .int .u8 e1.op, .int .i64 e1.wd, .string e1.name, .slice a5 e1.kids.length cap5, .int .i64 e1.pos] (fun b hb => by omega)) (fun b hb => hb) h.tree) (fun b hb => by omega)⟩, S4.rs S⟩
set_option maxRecDepth 100000 in
set_option maxHeartbeats 8000000 in
theorem ex_step {n : Nat} (HU : UnC n) (H : ∀ m, m < n → ExC m) : ExC (n + 1) := by
  intro c w σ v d R v0 v1 h0 h1 hn
  obtain ⟨Y0, hY0⟩ : ∃ Y0, Y0 = unM c.L n d σ := ⟨_, rfl⟩
  have HC : Hid (∀ W, Rs c W σ → Calls Tryd.prog 23 #[c.ptr, .int .i64 d] W (RsPost c W Y0 (exR W.heap.size))) := fun W RW => by rw [hY0]; exact HU c W σ d RW h0 h1 (fun h => by have := hn h; omega)
  have HY : Hid (Y0.2.ok = true → 3 * Y0.2.ts.length + 1 ≤ n) := fun h => by
    rw [hY0] at h ⊢
    have h3 := (expr_len (L := c.L) n).1 d σ h
    have := hn h3.1
    have h2 := h3.2
    omega
  have HB : Hid (∀ (m : Nat) (W : World) (σ : Sr) (x : Int), m < n → Rs c W σ → 1 ≤ x → x ≤ 9 → (σ.ok = true → 3 * σ.ts.length + 2 ≤ m) → Calls Tryd.prog 12 #[c.ptr, .int .i64 x, .int .i64 d] W (RsPost c W (exM c.L m x d σ) (exR W.heap.size))) := fun m W σ x hm RW h2 h3 h4 => H m hm c W σ x d RW h2 h3 h0 h1 h4
  simp only [exM]
  rw [← hY0]
  have A0 := Lib.hid (R.as.alloc (.cells zEx 26))
  have O0 := Own.new w 26 zEx
  have HS := Lib.hid R.s
  have hX := Lib.hid R.lt
  clear hY0 H HU R hn
  unfold Par.ptr zEx at *
  go_enter Tryd.func12, Tryd.ntmps12
  go_wp2_with fail
  go_at_call 23
  refine (HC.out _ (A0.out.rs HS.out)).mono ?_
  obtain ⟨e0, σ1⟩ := Y0
  rintro e w1 ⟨hf1, v2, rfl, ⟨a4, cap4, rfl, hV⟩, hR1⟩
  have hXX := hX.out
  have l0 := O0.lt
  have B0 : Hid (ExI c w w1.heap.size v d (exLM c.L n v d e0 σ1) n (w1.alloc (.cells #[.int .u8 e0.kind, .int .u8 e0.op, .int .i64 e0.wd, .string e0.name, .slice a4 e0.kids.length cap4, .int .i64 e0.pos] 26))) := by
    refine ⟨σ1, e0, a4, cap4, ⟨(A0.out.call hf1 hR1).alloc _, Own.new w1 _ _, (O0.fr hf1 (by omega)).alloc _, ?_⟩, rfl, HY.out⟩
    exact exsAt_mono (exsAt_stays (stays_alloc _ w1 _) (fun b hb => hb) (exsAt_in hV)) (fun b hb => by have h1 := hb.1; have h2 := hb.2; simp at h1; omega)
  have hw1 := Lib.hid (show w.heap.size < w1.heap.size by have := Keep.size hf1; omega)
  have HM := Lib.hid (show n < n + 1 by omega)
  obtain ⟨Y, hY⟩ : ∃ Y, Y = exLM c.L n v d e0 σ1 := ⟨_, rfl⟩
  rw [← hY] at B0
  have HYY := Lib.hid hY.symm
  clear hf1 hV hR1 hXX l0 O0 A0 hY HY HC
  go_wp2_with fail
  go_loopg [] n (fun m W => m < n + 1 ∧ ExI c w w1.heap.size v d Y m W)
  case atStart => exact ⟨HM.out, B0.out⟩
  case round =>
    obtain ⟨hm, σj, e1, a5, cap5, S1, hL, hfu⟩ := hrel
    have HS1 := Lib.hid S1
    have HFU := Lib.hid hfu
    have HMM := Lib.hid hm
    have HL := Lib.hid hL
    have HO := Lib.hid (r_okS (S1.run.rs HS.out))
    clear S1 hfu hm hL
    by_cases hok : σj.ok = true
    · obtain ⟨m, rfl⟩ : ∃ m, gk = m + 1 := ⟨gk - 1, by have := HFU.out hok; omega⟩
      rw [hok] at HO
      have HNX : Hid (∀ W, Rs c W σj → Calls Tryd.prog 24 #[c.ptr] W fun e w' => e = .returned (tkV (hereM c.L σj.ts)) ∧ Below W.heap.size W w') := fun W R => r_hereS R
      obtain ⟨t, ht⟩ : ∃ t, t = hereM c.L σj.ts := ⟨_, rfl⟩
      rw [← ht] at HNX
      have HT := Lib.hid ht
      have HOK := Lib.hid hok
      clear ht hok
      obtain ⟨tk, tx, tw, tp⟩ := t
      obtain ⟨op, hop⟩ : ∃ op, op = (fnd tx.data.toList).1 := ⟨_, rfl⟩
      obtain ⟨is, his⟩ : ∃ is, is = (fnd tx.data.toList).2 := ⟨_, rfl⟩
      have HFN : Hid (∀ W, Calls Tryd.prog 25 #[.string tx] W fun e w' => e = .returned (.tuple #[.int .u8 op, .bool is]) ∧ Below W.heap.size W w') := fun W => by
        have := rfind_any tx W
        rw [← hop, ← his] at this
        exact this
      have hb := fnd_bd tx.data.toList
      have hlv : levelOf op = levelI op := by rw [hop]; exact level_fnd _
      have ho0 : 0 ≤ op := by rw [hop]; exact hb.1
      have ho1 : op ≤ 16 := by rw [hop]; exact hb.2.1
      have hoi : is = true → 1 ≤ op := by rw [hop, his]; exact hb.2.2
      obtain ⟨lv, hlvv⟩ : ∃ lv, lv = levelI op := ⟨_, rfl⟩
      have HLV : Hid (∀ W, Calls Tryd.prog 26 #[.int .u8 op] W fun e w' => e = .returned (.int .i64 lv) ∧ Below W.heap.size W w') := fun W => by
        have := rlevel_any op ho0 W
        rw [hlv, ← hlvv] at this
        exact this
      have HG : Hid (σj.goes c.L v = (tk == 4 && is && decide (v ≤ lv))) := by
        unfold Sr.goes
        rw [Hid, HOK.out, ← HT.out, hlvv, hop, his]; rfl
      have hlb : Hid (is = true → 1 ≤ lv ∧ lv ≤ 8) := fun h => by rw [hlvv]; exact level_bd (hoi h) ho1
      have HOP2 : Hid ((fnd (hereM c.L σj.ts).tx).1 = op ∧ levelI op = lv ∧ (hereM c.L σj.ts).pos = tp) := by
        rw [Hid, ← HT.out]; exact ⟨hop.symm, hlvv.symm, rfl⟩
      clear hop his hb hlv hoi hlvv
      unfold tkV at *
      go_wp2_with fail
      go_at_call 13
      refine (HO.out).mono ?_
      rintro e w2 ⟨rfl, hb⟩
      have S2 := Lib.hid (HS1.out.below hb)
      clear hb HS1
      go_wp2_with fail
      go_at_call 24
      refine (HNX.out _ (S2.out.run.rs HS.out)).mono ?_
      rintro e w2 ⟨rfl, hb⟩
      have hz2 := Lib.hid (S2.out.below hb).left.lt
      have S2 := Lib.hid ((S2.out.below hb).alloc (.cells #[.int .u8 tk, .string tx, .int .i64 tw, .int .i64 tp] 69))
      have T2 := Lib.hid (Own.new w2 69 #[.int .u8 tk, .string tx, .int .i64 tw, .int .i64 tp])
      clear hb
      go_upto_region 4 with (fail)
      obtain ⟨W3, hW3⟩ : ∃ W, W = w2.alloc (.cells #[.int .u8 tk, .string tx, .int .i64 tw, .int .i64 tp] 69) := ⟨_, rfl⟩
      rw [← hW3] at S2 T2 ⊢
      clear hW3
      have t1 : W3.cell? ⟨w2.heap.size, 1, none⟩ = some (.string tx) := by rw [cell_of_row _ _ 1 _ _ _ T2.out]; rfl
      go_wp2_with fail
      go_at_call 25
      refine (HFN.out _).mono ?_
      rintro e w3 ⟨rfl, hb⟩
      have S3 := Lib.hid (S2.out.below hb)
      have T3 := Lib.hid (T2.out.below hb)
      have t0 : w3.cell? ⟨w2.heap.size, 0, none⟩ = some (.int .u8 tk) := by rw [cell_of_row _ _ 0 _ _ _ T3.out]; rfl
      clear hb t1 S2 T2
      by_cases hg : σj.goes c.L v = true
      · obtain ⟨_, hne⟩ := goes_ne hg
        have HNE := Lib.hid hne
        have hsp : exLM c.L (m + 1) v d e1 σj = exLM c.L m v d (biX op tp e1 (exM c.L m (lv + 1) d σj.step).1) (exM c.L m (lv + 1) d σj.step).2 := by
          simp only [exLM]
          rw [if_pos hg, HOP2.out.1, HOP2.out.2.1, HOP2.out.2.2]
        rw [HG.out] at hg
        simp only [Bool.and_eq_true, beq_iff_eq, decide_eq_true_eq] at hg
        obtain ⟨⟨hk4, hist⟩, hvl⟩ := hg
        subst hist
        subst hk4
        obtain ⟨lv1, lv8⟩ := hlb.out rfl
        obtain ⟨Z, hZ⟩ : ∃ Z, Z = exM c.L m (lv + 1) d σj.step := ⟨_, rfl⟩
        have HBC : Hid (∀ W, Rs c W σj.step → Calls Tryd.prog 12 #[.pointer (some ⟨c.X, 0, none⟩), .int .i64 (lv + 1), .int .i64 d] W (RsPost c W Z (exR W.heap.size))) := fun W RW => by
          rw [hZ]; exact HB.out m W σj.step (lv + 1) (by have := HMM.out; omega) RW (by omega) (by omega) (fun h => by have := HFU.out HOK.out; omega)
        have HSP : Hid (exLM c.L m v d (biX op tp e1 Z.1) Z.2 = Y) := by rw [Hid, ← HL.out, hsp, hZ]
        have HZL : Hid (Z.2.ok = true → 3 * Z.2.ts.length + 1 ≤ m) := fun h => by
          rw [hZ] at h ⊢
          have h3 := ex_len h
          have := HFU.out HOK.out
          have h2 := h3.2
          omega
        obtain ⟨k, x1, xf, hk6, xl, AS⟩ := S3.out.run.open HS.out hne
        have S4 := Lib.hid (S3.out.setX AS hX.out hw1.out)
        have hn3 := Lib.hid (show c.X ≠ w2.heap.size by have := hX.out; have := hw1.out; have := hz2.out; omega)
        have T4 := Lib.hid (T3.out.setX 1 (.int .i64 ((k : Int) + 1)) hn3.out)
        clear hsp hZ hne AS
        go_wp2_with fail
        go_at_call 26
        refine (HLV.out _).mono ?_
        rintro e w4 ⟨rfl, hb⟩
        have S3 := Lib.hid (S3.out.below hb)
        have T3 := Lib.hid (T3.out.below hb)
        clear x1 xf xl S4 T4 t0
        obtain ⟨k, x1, xf, hk6, xl, AS⟩ := S3.out.run.open HS.out HNE.out
        have S4 := Lib.hid (S3.out.setX AS hX.out hw1.out)
        have T4 := Lib.hid (T3.out.setX 1 (.int .i64 ((k : Int) + 1)) hn3.out)
        clear hb AS
        go_wp2_with fail
        go_at_call 26
        refine (HLV.out _).mono ?_
        rintro e w5 ⟨rfl, hb⟩
        have S5 := Lib.hid (S4.out.below hb)
        have T5 := Lib.hid (T4.out.below hb)
        clear hb x1 xf xl S4 T4 S3 T3
        go_wp2_with fail
        go_at_call 12
        refine (HBC.out _ (S5.out.run.rs HS.out)).mono ?_
        obtain ⟨e2, σ2⟩ := Z
        have hsz4 := Lib.hid (show w2.heap.size < w5.heap.size from T5.out.lt)
        rintro e w5 ⟨hf5, v2, rfl, ⟨a6, cap6, rfl, hV⟩, hR5⟩
        have S5 := S5.out.call hf5 hR5 hX.out hw1.out
        have T5 := T5.out.fr hf5 hn3.out
        have S6 := Lib.hid ((S5.alloc (.cells #[.int .u8 e2.kind, .int .u8 e2.op, .int .i64 e2.wd, .string e2.name, .slice a6 e2.kids.length cap6, .int .i64 e2.pos] 26)).alloc (.cells #[.int .u8 e1.kind, .int .u8 e1.op, .int .i64 e1.wd, .string e1.name, .slice a5 e1.kids.length cap5, .int .i64 e1.pos, .int .u8 e2.kind, .int .u8 e2.op, .int .i64 e2.wd, .string e2.name, .slice a6 e2.kids.length cap6, .int .i64 e2.pos] 26))
        have O7 := (S5.alloc (.cells #[.int .u8 e2.kind, .int .u8 e2.op, .int .i64 e2.wd, .string e2.name, .slice a6 e2.kids.length cap6, .int .i64 e2.pos] 26)).left
        have N6 := Own.new w5 26 #[.int .u8 e2.kind, .int .u8 e2.op, .int .i64 e2.wd, .string e2.name, .slice a6 e2.kids.length cap6, .int .i64 e2.pos]
        have N7 := Own.new (w5.alloc (.cells #[.int .u8 e2.kind, .int .u8 e2.op, .int .i64 e2.wd, .string e2.name, .slice a6 e2.kids.length cap6, .int .i64 e2.pos] 26)) 26 #[.int .u8 e1.kind, .int .u8 e1.op, .int .i64 e1.wd, .string e1.name, .slice a5 e1.kids.length cap5, .int .i64 e1.pos, .int .u8 e2.kind, .int .u8 e2.op, .int .i64 e2.wd, .string e2.name, .slice a6 e2.kids.length cap6, .int .i64 e2.pos]
        rw [World.size_alloc] at N7
        have N7 := Lib.hid N7
        have t3 : w5.cell? ⟨w2.heap.size, 3, none⟩ = some (.int .i64 tp) := by rw [cell_of_row w5 w2.heap.size 3 _ _ _ T5]; rfl
        have hl5 := T5.lt
        have O77 := S6.out.left
        have hV5 := Lib.hid (exsAt_in hV)
        have hl7 := Lib.hid (And.intro S5.left.lt (show w1.heap.size < w2.heap.size from hz2.out))
        have hsz5 := Lib.hid (Keep.size hf5)
        clear hf5 hR5 hV S5 T5
        go_wp2_with (first | (refine ld rowEx rfl rfl rfl O7 rfl ?_) | (refine ld rowEx rfl rfl rfl N6 rfl ?_) | (refine st rowEx rfl rfl O77 rfl rfl (by rfl) (by rfl) (by kernel_rfl) ?_))
        go_roundg m
        case measure => omega
        case rel =>
          have hx := hX.out
          have h17 := hw1.out
          obtain ⟨h27, h37⟩ := hl7.out
          have h5 := hsz5.out
          have h2z := hz2.out
          have h24 := hsz4.out
          have S7 := S6.out.run.setRow (g := w1.heap.size) (by omega) (by omega) #[.int .u8 4, .int .u8 op, .int .i64 0, .string ⟨#[]⟩, .slice (some ⟨w5.heap.size + 1, 0, none⟩) 2 2, .int .i64 tp]
          have N8 := N7.out.other #[.int .u8 4, .int .u8 op, .int .i64 0, .string ⟨#[]⟩, .slice (some ⟨w5.heap.size + 1, 0, none⟩) 2 2, .int .i64 tp] (g := w1.heap.size) (by omega)
          refine ⟨by have := HMM.out; omega, σ2, biX op tp e1 e2, some ⟨w5.heap.size + 1, 0, none⟩, 2, ⟨S7, S6.out.left.row _, S6.out.res.other _ (by omega), ?_⟩, HSP.out, HZL.out⟩
          refine .inr ⟨w5.heap.size + 1, 0, rfl, ⟨by omega, by omega⟩, ?_⟩
          have v1 := exsAt_stays (stays_row _ (g := w1.heap.size) #[.int .u8 4, .int .u8 op, .int .i64 0, .string ⟨#[]⟩, .slice (some ⟨w5.heap.size + 1, 0, none⟩) 2 2, .int .i64 tp] (fun b hb => by omega)) (fun b hb => hb) S6.out.tree
          have v2 := exsAt_mono (exsAt_stays ((stays_alloc _ w5 (.cells #[.int .u8 e2.kind, .int .u8 e2.op, .int .i64 e2.wd, .string e2.name, .slice a6 e2.kids.length cap6, .int .i64 e2.pos] 26)).trans ((stays_alloc _ _ (.cells #[.int .u8 e1.kind, .int .u8 e1.op, .int .i64 e1.wd, .string e1.name, .slice a5 e1.kids.length cap5, .int .i64 e1.pos, .int .u8 e2.kind, .int .u8 e2.op, .int .i64 e2.wd, .string e2.name, .slice a6 e2.kids.length cap6, .int .i64 e2.pos] 26)).trans (stays_row _ (g := w1.heap.size) #[.int .u8 4, .int .u8 op, .int .i64 0, .string ⟨#[]⟩, .slice (some ⟨w5.heap.size + 1, 0, none⟩) 2 2, .int .i64 tp] (fun b hb => by have h1 := hb.1; omega)))) (fun b hb => hb) hV5.out) (R' := fun b => w.heap.size < b ∧ b ≠ w1.heap.size) (fun b hb => by have h1 := hb.1; omega)
          refine ⟨exIn_of (vs := exCells e1 a5 cap5) ⟨a5, cap5, rfl, v1⟩ ?_, exIn_of (vs := exCells e2 a6 cap6) ⟨a6, cap6, rfl, v2⟩ ?_, trivial⟩
          · intro q u hq
            have hq6 : q < 6 := (List.getElem?_eq_some_iff.1 hq).1
            rw [Nat.zero_add, cell_of_row _ (w5.heap.size + 1) q _ _ _ N8, ← hq]
            have : q = 0 ∨ q = 1 ∨ q = 2 ∨ q = 3 ∨ q = 4 ∨ q = 5 := by omega
            rcases this with rfl | rfl | rfl | rfl | rfl | rfl <;> rfl
          · intro q u hq
            have hq6 : q < 6 := (List.getElem?_eq_some_iff.1 hq).1
            rw [cell_of_row _ (w5.heap.size + 1) (0 + 6 + q) _ _ _ N8, ← hq]
            have : q = 0 ∨ q = 1 ∨ q = 2 ∨ q = 3 ∨ q = 4 ∨ q = 5 := by omega
            rcases this with rfl | rfl | rfl | rfl | rfl | rfl <;> rfl
      · have hg' : σj.goes c.L v = false := by simpa using hg
        have hres : Y = (e1, σj) := by
          rw [← HL.out]
          simp only [exLM]
          rw [hg']; rfl
        have fin := Lib.hid (fun W (h : ExS c w w1.heap.size e1 a5 cap5 W σj) => ex_fin HS.out hX.out h (HYY.out.trans hres))
        rw [HG.out] at hg'
        clear hg hres
        cases h4 : (tk == 4) with
        | false =>
          clear hg'
          have h5 : (tk != 4) = true := by unfold bne; rw [h4]; rfl
          have h6 : ¬ tk = 4 := by simpa using h4
          have O7 := S3.out.left
          have O6 := S3.out.res
          go_wp2_with (first | (refine ld rowEx rfl rfl rfl O7 rfl ?_) | (refine st rowEx rfl rfl O6 rfl rfl (by rfl) (by rfl) (by kernel_rfl) ?_))
          exact p_ret rowEx rfl (O6.row #[.int .u8 e1.kind, .int .u8 e1.op, .int .i64 e1.wd, .string e1.name, .slice a5 e1.kids.length cap5, .int .i64 e1.pos]) rfl rfl rfl (fin.out _ S3.out)
        | true =>
          obtain rfl : tk = 4 := by simpa using h4
          clear h4
          cases is with
          | false =>
            clear hg'
            have O7 := S3.out.left
            have O6 := S3.out.res
            go_wp2_with (first | (refine ld rowEx rfl rfl rfl O7 rfl ?_) | (refine st rowEx rfl rfl O6 rfl rfl (by rfl) (by rfl) (by kernel_rfl) ?_))
            exact p_ret rowEx rfl (O6.row #[.int .u8 e1.kind, .int .u8 e1.op, .int .i64 e1.wd, .string e1.name, .slice a5 e1.kids.length cap5, .int .i64 e1.pos]) rfl rfl rfl (fin.out _ S3.out)
          | true =>
            have hlt : lv < v := by simpa using hg'
            clear hg'
            go_wp2_with fail
            go_at_call 26
            refine (HLV.out _).mono ?_
            rintro e w4 ⟨rfl, hb⟩
            have S3 := Lib.hid (S3.out.below hb)
            have O7 := S3.out.left
            have O6 := S3.out.res
            clear hb t0
            go_wp2_with (first | (refine ld rowEx rfl rfl rfl O7 rfl ?_) | (refine st rowEx rfl rfl O6 rfl rfl (by rfl) (by rfl) (by kernel_rfl) ?_))
            exact p_ret rowEx rfl (O6.row #[.int .u8 e1.kind, .int .u8 e1.op, .int .i64 e1.wd, .string e1.name, .slice a5 e1.kids.length cap5, .int .i64 e1.pos]) rfl rfl rfl (fin.out _ S3.out)
    · have hb : σj.ok = false := by simpa using hok
      rw [hb] at HO
      have hres : Y = (e1, σj) := by rw [← HL.out, (bad_expr gk hb).2.1]
      have fin := Lib.hid (fun W (h : ExS c w w1.heap.size e1 a5 cap5 W σj) => ex_fin HS.out hX.out h (HYY.out.trans hres))
      clear hok hb hres
      go_wp2_with fail
      go_at_call 13
      refine (HO.out).mono ?_
      rintro e w2 ⟨rfl, hb⟩
      have S3 := Lib.hid (HS1.out.below hb)
      have O7 := S3.out.left
      have O6 := S3.out.res
      clear hb
      go_wp2_with (first | (refine ld rowEx rfl rfl rfl O7 rfl ?_) | (refine st rowEx rfl rfl O6 rfl rfl (by rfl) (by rfl) (by kernel_rfl) ?_))
      exact p_ret rowEx rfl (O6.row #[.int .u8 e1.kind, .int .u8 e1.op, .int .i64 e1.wd, .string e1.name, .slice a5 e1.kids.length cap5, .int .i64 e1.pos]) rfl rfl rfl (fin.out _ S3.out)
theorem ex_zero : ExC 0 := by
  intro c w σ v d R v0 v1 h0 h1 hn
  have hb : σ.ok = false := by
    cases h : σ.ok with
    | false => rfl
    | true => have := hn h; omega
  have e : exM c.L 0 v d σ = exM c.L 1 v d σ := by rw [(bad_expr 0 hb).2.2, (bad_expr 1 hb).2.2]
  rw [e]
  exact ex_step un_zero (fun m h => by omega) c w σ v d R v0 v1 h0 h1 (fun h => by rw [hb] at h; cases h)
theorem exs_step {n : Nat} (H : ∀ m, m < n → UnC m ∧ ExC m) : UnC n ∧ ExC n := by
  cases n with
  | zero => exact ⟨un_zero, ex_zero⟩
  | succ n => exact ⟨un_step (H n (by omega)).1 (H n (by omega)).2, ex_step (H n (by omega)).1 (fun m h => (H m (by omega)).2)⟩
theorem exs_all (n : Nat) : UnC n ∧ ExC n := by
  induction n using Nat.strongRecOn with
  | ind n ih => exact exs_step ih
end Go.Proofs.YtgaibdipecngkaaDoor

namespace Go.Proofs.YtgaibdipecngkaaDoor
open Go.RowKit
set_option linter.unusedVariables false

/-- A row of the call's own stays. -/
theorem row_stays {W W' : World} {base : Nat} {T : TypeId} {n : Nat} {v : Value} {k : Nat} {xs : List Value} (h : W.ownsRow base T n v k xs) (hw : ∀ g, base ≤ g → v.ownBlock = some g → g < W.heap.size → W'.heap[g]? = W.heap[g]?) : W'.ownsRow base T n v k xs := by
  obtain ⟨h1, h2⟩ := h
  refine ⟨h1, ?_⟩
  rcases h2 with h2 | ⟨g, cap, cur, rfl, hb, hg, rest⟩
  · exact .inl h2
  · exact .inr ⟨g, cap, cur, rfl, hb, (hw g hb rfl (Array.getElem?_eq_some_iff.1 hg).1).trans hg, rest⟩
theorem row_below {W W' : World} {base : Nat} {T : TypeId} {n : Nat} {v : Value} {k : Nat} {xs : List Value} (h : W.ownsRow base T n v k xs) (hb : Below W.heap.size W W') : W'.ownsRow base T n v k xs := row_stays h fun g _ _ hg => hb.block g hg
theorem row_fr {c : Par} {W W' : World} {base : Nat} {T : TypeId} {n : Nat} {v : Value} {k : Nat} {xs : List Value} (h : W.ownsRow base T n v k xs) (hf : Fr c W W') (hx : c.X < base) : W'.ownsRow base T n v k xs :=
  row_stays h fun g hb _ hg => by
    rw [hf.block (b := g) (Array.getElem?_eq_getElem hg) (by omega), Array.getElem?_eq_getElem hg]
theorem row_setX {W : World} {base : Nat} {T : TypeId} {n : Nat} {v : Value} {k : Nat} {xs : List Value} (h : W.ownsRow base T n v k xs) {x : Nat} (j : Nat) (u : Value) (hx : x < base) : (W.setCell ⟨x, j, none⟩ u).ownsRow base T n v k xs :=
  row_stays h fun g hb _ _ => Below.heap_setCell _ _ _ _ (show g ≠ x by omega)
theorem row_row {W : World} {base : Nat} {T : TypeId} {n : Nat} {v : Value} {k : Nat} {xs : List Value} (h : W.ownsRow base T n v k xs) {g : Nat} (cs : Array Value) (hg : v.ownBlock ≠ some g) : (W.setRow g cs).ownsRow base T n v k xs :=
  row_stays h fun b _ hb _ => setRow_other cs (fun e => hg (by rw [← e]; exact hb))
theorem row_base {W : World} {base base' : Nat} {T : TypeId} {n : Nat} {v : Value} {k : Nat} {xs : List Value} (h : W.ownsRow base T n v k xs) (hb : base' ≤ base) : W.ownsRow base' T n v k xs := ownsRow_base h hb
theorem row_shape {W : World} {base : Nat} {T : TypeId} {n : Nat} {v : Value} {k : Nat} {xs : List Value} (h : W.ownsRow base T n v k xs) : ∃ oa cap, v = .slice oa k cap ∧ (k ≠ 0 → ∃ g, oa = some ⟨g, 0, none⟩ ∧ base ≤ g) := by
  rcases h.2 with ⟨rfl, rfl⟩ | ⟨g, cap, cur, rfl, hb, _⟩
  · exact ⟨none, 0, rfl, fun h => absurd rfl h⟩
  · exact ⟨_, cap, rfl, fun _ => ⟨g, rfl, hb⟩⟩
theorem row_cells {W : World} {base : Nat} {T : TypeId} {n : Nat} {v : Value} {k : Nat} {xs : List Value} (h : W.ownsRow base T n v k xs) {g : Nat} (hg : v.ownBlock = some g) : cellsIn W g 0 xs := by
  intro j u hj
  have := h.cells hg j u hj
  rw [show (⟨g, 0, none⟩ : Addr).add j = ⟨g, 0 + j, none⟩ by by_cases h0 : j = 0 <;> simp [Addr.add, h0]] at this
  exact this
theorem grown_fr {c : Par} {w W W' : World} {k : Nat} (A : At c w W k) {row : Option Nat} (hg : W.grownBy W' row) (hr : ∀ r, row = some r → w.heap.size ≤ r ∧ r ≠ c.X) : At c w W' k := by
  refine ⟨Keep.grown A.fr hg (fun r o e _ hs => by have := hr r e; have := hs.1; omega), ?_, A.le⟩
  rw [hg.block c.X A.lt (fun e => (hr c.X e.symm).2 rfl)]
  exact A.pos
theorem own_grown {W W' : World} {b : Nat} {t : TypeId} {cs : Array Value} (h : Own W b t cs) {row : Option Nat} (hg : W.grownBy W' row) (hr : row ≠ some b) : Own W' b t cs := (hg.block b h.lt (fun e => hr e.symm)).trans h
theorem stays_grown {R : Nat → Prop} {W W' : World} {row : Option Nat} (hg : W.grownBy W' row) (hr : ∀ b, R b → row ≠ some b) : Stays R W W' := fun b o v hb hv => by
  have e := hg.block b (by have := cell_lt hv; simpa using this) (fun e => hr b hb e.symm)
  rw [← hv]; simp only [World.cell?, e]
/-- A declaration, as a value. -/
def dcVal (d : Dc) : Value := .agg #[.string d.name, .int .i64 d.wd, .int .i64 d.pos]
set_option maxRecDepth 100000 in
set_option maxHeartbeats 1000000 in
theorem p_name_ok {c : Par} {w : World} {k : Nat} (R : Rd c w k) (h : (c.nx k).kind = 1) :
    Calls Tryd.prog 57 #[c.ptr] w fun e w' => e = .returned (dcVal ⟨(c.nx k).text, 0, (c.nx k).pos⟩) ∧ Fr c w w' ∧ Rd c w' (k + 1) := by
  have HK : Hid (∀ W, Rd c W k → Calls Tryd.prog 60 #[c.ptr, .int .u8 1] W fun e w' => e = .returned (tkV (c.nx k)) ∧ Fr c W w' ∧ Rd c w' (k + 1)) := fun W RW => p_kind_ok RW 1 h (nx_lt (.inl (by rw [h]; decide)))
  obtain ⟨t, ht⟩ : ∃ t, t = c.nx k := ⟨_, rfl⟩
  rw [← ht] at HK ⊢
  obtain ⟨tk, tx, tw, tp⟩ := t
  have A0 := Lib.hid ((At.start R).alloc (.cells zDc 58))
  have O0 := Own.new w 58 zDc
  have HR := Lib.hid R
  have hX := Lib.hid R.lt
  clear ht h R
  unfold tkV Par.ptr zDc dcVal at *
  go_enter Tryd.func57, Tryd.ntmps57
  go_wp2_with fail
  go_at_call 60
  refine (HK.out _ (A0.out.rd HR.out)).mono ?_
  rintro e w1 ⟨rfl, hf1, hR1⟩
  have hx := hX.out
  have A1 := Lib.hid ((A0.out.call hf1 hR1).alloc (.cells #[.int .u8 tk, .string tx, .int .i64 tw, .int .i64 tp] 69))
  have O1 := (O0.fr hf1 (by omega)).alloc (.cells #[.int .u8 tk, .string tx, .int .i64 tw, .int .i64 tp] 69)
  clear hf1 hR1 hx O0
  go_wp2_with (first | (refine st rowDc rfl rfl O1 rfl rfl (by rfl) (by rfl) (by kernel_rfl) ?_))
  have hx := hX.out
  have A2 := A1.out.setRow (Nat.le_refl _) (by omega) #[.string tx, .int .i64 0, .int .i64 tp]
  exact p_ret rowDc rfl (O1.row #[.string tx, .int .i64 0, .int .i64 tp]) rfl rfl rfl ⟨rfl, A2.fr, A2.rd HR.out⟩
theorem p_name_bad {c : Par} {w : World} {k : Nat} (R : Rd c w k) (h : ¬ (c.nx k).kind = 1) :
    Calls Tryd.prog 57 #[c.ptr] w fun e w' => e = .panicked (flt (hdP c.L (c.at k)) 2) ∧ Fr c w w' := by
  have HK : Hid (∀ W, Rd c W k → Calls Tryd.prog 60 #[c.ptr, .int .u8 1] W fun e w' => e = .panicked (flt (hdP c.L (c.at k)) 2) ∧ Fr c W w') := fun W RW => p_kind_bad RW 1 h
  have A0 := Lib.hid ((At.start R).alloc (.cells zDc 58))
  have HR := Lib.hid R
  clear h R
  unfold Par.ptr zDc at *
  go_enter Tryd.func57, Tryd.ntmps57
  go_wp2_with (go_at_call 60; refine (HK.out _ (A0.out.rd HR.out)).mono ?_; rintro e w1 ⟨rfl, hf1⟩; have A1 := Lib.hid (A0.out.fr.trans hf1); clear hf1)
  exact ⟨rfl, rfl, A1.out⟩
theorem nameP_at {c : Par} {k : Nat} : nameP c.L (c.at k) = if (c.nx k).kind = 1 then .ok ⟨(c.nx k).text, 0, (c.nx k).pos⟩ (c.at (k + 1)) else .bad (hdP c.L (c.at k)) 2 := by
  by_cases hk : k < c.toks.length
  · rw [at_nx hk]
    simp only [nameP, hdP]
  · have e := Par.at_end (c := c) (k := k) (by omega)
    have : c.nx k = ⟨0, ⟨#[]⟩, 0, c.L⟩ := by unfold Par.nx; rw [e]
    rw [e, this]
    rfl
theorem numP_at {c : Par} {k : Nat} : numP c.L (c.at k) = if (c.nx k).kind = 3 then .ok (c.nx k).wd (c.at (k + 1)) else .bad (hdP c.L (c.at k)) 2 := by
  by_cases hk : k < c.toks.length
  · rw [at_nx hk]
    simp only [numP, hdP]
  · have e := Par.at_end (c := c) (k := k) (by omega)
    have : c.nx k = ⟨0, ⟨#[]⟩, 0, c.L⟩ := by unfold Par.nx; rw [e]
    rw [e, this]
    rfl
theorem p_name {c : Par} {w : World} {k : Nat} (R : Rd c w k) : Calls Tryd.prog 57 #[c.ptr] w (RdPost c w (nameP c.L (c.at k)) (fun d v _ => v = dcVal d)) := by
  rw [nameP_at]
  by_cases h : (c.nx k).kind = 1
  · rw [if_pos h]
    exact (p_name_ok R h).mono fun e w' ⟨he, hf, hr⟩ => ⟨hf, _, k + 1, he, rfl, hr, rfl⟩
  · rw [if_neg h]
    exact (p_name_bad R h).mono fun e w' ⟨he, hf⟩ => ⟨hf, he⟩
end Go.Proofs.YtgaibdipecngkaaDoor

namespace Go.Proofs.YtgaibdipecngkaaDoor
open Go.RowKit
set_option linter.unusedVariables false
theorem wd_bd {c : Par} {w : World} {k : Nat} (R : Rd c w k) : 0 ≤ (c.nx k).wd ∧ (c.nx k).wd ≤ 9223372036854775807 := by
  by_cases hk : k < c.toks.length
  · have : c.nx k = (c.toks[k]).tk := by unfold Par.nx; rw [Par.at_lt hk]
    rw [this]
    exact R.s.small.2.2 _ (List.getElem_mem hk)
  · have : c.nx k = ⟨0, ⟨#[]⟩, 0, c.L⟩ := by unfold Par.nx; rw [Par.at_end (by omega)]
    rw [this]; exact ⟨Int.le_refl _, by show (0 : Int) ≤ 9223372036854775807; decide⟩
/-- The word of a name, behind its sign. -/
def firstP.go (L : Int) (d : Dc) (b : Bool) (ts : List Tk) : PR Dc := (numP L ts).then fun v r => .ok ⟨d.name, if b then -v else v, d.pos⟩ r
set_option maxRecDepth 100000 in
set_option maxHeartbeats 4000000 in
theorem p_first {c : Par} {w : World} {k : Nat} (R : Rd c w k) : Calls Tryd.prog 56 #[c.ptr] w (RdPost c w (firstP c.L (c.at k)) (fun d v _ => v = dcVal d)) := by
  have HK : Hid (∀ W, Rd c W k → Calls Tryd.prog 57 #[c.ptr] W (RdPost c W (nameP c.L (c.at k)) (fun d v _ => v = dcVal d))) := fun W RW => p_name RW
  have HP : Hid (∀ W j (s : ByteArray), Rd c W j → s.data.toList ≠ [] → Calls Tryd.prog 50 #[c.ptr, .string s] W fun e w' => e = .returned (.bool (isT s.data.toList (c.at j))) ∧ Fr c W w' ∧ Rd c w' (if isT s.data.toList (c.at j) = true then j + 1 else j)) := fun W j s RW hs => p_pass RW s hs
  have HT : Hid (∀ W j, Rd c W j → (c.nx j).kind = 3 → Calls Tryd.prog 60 #[c.ptr, .int .u8 3] W fun e w' => e = .returned (tkV (c.nx j)) ∧ Fr c W w' ∧ Rd c w' (j + 1)) := fun W j RW h => p_kind_ok RW 3 h (nx_lt (.inl (by rw [h]; decide)))
  have HU : Hid (∀ W j, Rd c W j → ¬ (c.nx j).kind = 3 → Calls Tryd.prog 60 #[c.ptr, .int .u8 3] W fun e w' => e = .panicked (flt (hdP c.L (c.at j)) 2) ∧ Fr c W w') := fun W j RW h => p_kind_bad RW 3 h
  obtain ⟨Y, hY⟩ : ∃ Y, Y = nameP c.L (c.at k) := ⟨_, rfl⟩
  unfold firstP
  rw [← hY] at HK ⊢
  have A0 := Lib.hid ((At.start R).alloc (.cells zDc 58))
  have O0 := Own.new w 58 zDc
  have HR := Lib.hid R
  have hX := Lib.hid R.lt
  clear hY R
  unfold Par.ptr zDc dcVal tkV at *
  go_enter Tryd.func56, Tryd.ntmps56
  go_wp2_with fail
  go_at_call 57
  refine (HK.out _ (A0.out.rd HR.out)).mono ?_
  rintro e w1 ⟨hf1, hm⟩
  rcases Y with ⟨d0, r0⟩ | ⟨p, q⟩
  rotate_left
  · obtain rfl := hm
    have A1 := Lib.hid (A0.out.fr.trans hf1)
    clear hf1
    go_wp2_with fail
    exact ⟨rfl, A1.out, rfl⟩
  obtain ⟨v1, k1, rfl, rfl, hR1, rfl⟩ := hm
  obtain ⟨dn, dw, dp⟩ := d0
  have hx := hX.out
  have A1 := Lib.hid ((A0.out.call hf1 hR1).alloc (.cells #[.string dn, .int .i64 dw, .int .i64 dp] 58))
  have O1 := Lib.hid ((O0.fr hf1 (by omega)).alloc (.cells #[.string dn, .int .i64 dw, .int .i64 dp] 58))
  have N1 := Lib.hid (Own.new w1 58 #[.string dn, .int .i64 dw, .int .i64 dp])
  have hw1 := Lib.hid (O0.fr hf1 (by omega)).lt
  clear hf1 hR1 hx O0
  go_wp2_with fail
  by_cases h1 : isT [61] (c.at k1) = true
  rotate_left
  · go_at_call 50
    refine (HP.out _ k1 ⟨#[61]⟩ (A1.out.rd HR.out) (by decide)).mono ?_
    have h1' : isT [61] (c.at k1) = false := by simpa using h1
    rintro e w2 ⟨he, hf2, hR2⟩
    rw [show (⟨#[61]⟩ : ByteArray).data.toList = [61] from rfl, h1'] at he hR2
    rw [if_neg (by simp)] at hR2
    subst he
    have hx := hX.out
    have hww := hw1.out
    have A2 := Lib.hid (A1.out.call hf2 hR2)
    have O2 := O1.out.fr hf2 (by omega)
    have N2 := N1.out.fr hf2 (by omega)
    have H1 := Lib.hid h1'
    clear hf2 hR2 hx hww h1 h1'
    go_wp2_with (first | (refine ld rowDc rfl rfl rfl N2 rfl ?_) | (refine st rowDc rfl rfl O2 rfl rfl (by rfl) (by rfl) (by kernel_rfl) ?_))
    have hx := hX.out
    have A3 := A2.out.setRow (Nat.le_refl _) (by omega) #[.string dn, .int .i64 dw, .int .i64 dp]
    refine p_ret rowDc rfl (O2.row #[.string dn, .int .i64 dw, .int .i64 dp]) rfl rfl rfl ?_
    simp only [PR.then_ok, H1.out]
    exact ⟨A3.fr, _, k1, rfl, rfl, A3.rd HR.out, rfl⟩
  go_at_call 50
  refine (HP.out _ k1 ⟨#[61]⟩ (A1.out.rd HR.out) (by decide)).mono ?_
  rintro e w2 ⟨he, hf2, hR2⟩
  rw [show (⟨#[61]⟩ : ByteArray).data.toList = [61] from rfl, h1] at he hR2
  rw [if_pos rfl] at hR2
  subst he
  have hx := hX.out
  have hww := hw1.out
  have A2 := Lib.hid (A1.out.call hf2 hR2)
  have O2 := Lib.hid (O1.out.fr hf2 (by omega))
  have N2 := Lib.hid (N1.out.fr hf2 (by omega))
  have H1 := Lib.hid h1
  clear hf2 hR2 hx hww h1
  go_wp2_with fail
  obtain ⟨b, hb⟩ : ∃ b, b = isT [45] (c.at (k1 + 1)) := ⟨_, rfl⟩
  obtain ⟨k3, hk3⟩ : ∃ k3, k3 = if b = true then k1 + 1 + 1 else k1 + 1 := ⟨_, rfl⟩
  have H3 : Hid (RdPost c w (firstP.go c.L ⟨dn, dw, dp⟩ b (c.at k3)) (fun d v _ => v = .agg #[.string d.name, .int .i64 d.wd, .int .i64 d.pos]) = RdPost c w (((PR.ok (⟨dn, dw, dp⟩ : Dc) (c.at k1)).then fun d r => if isT [61] r = true then if isT [45] r.tail = true then (numP c.L r.tail.tail).then fun v r => .ok ⟨d.name, -v, d.pos⟩ r else (numP c.L r.tail).then fun v r => .ok ⟨d.name, v, d.pos⟩ r else .ok d r)) (fun d v _ => v = .agg #[.string d.name, .int .i64 d.wd, .int .i64 d.pos])) := by
    rw [Hid]
    congr 1
    simp only [PR.then_ok, H1.out, if_true, Par.at_tail, ← hb, hk3]
    cases b <;> rfl
  have HB := Lib.hid (And.intro hb hk3)
  clear hb hk3
  go_at_call 50
  refine (HP.out _ (k1 + 1) ⟨#[45]⟩ (A2.out.rd HR.out) (by decide)).mono ?_
  rintro e w3 ⟨he, hf3, hR3⟩
  rw [show (⟨#[45]⟩ : ByteArray).data.toList = [45] from rfl, ← HB.out.1] at he hR3
  rw [← HB.out.2] at hR3
  subst he
  have hx := hX.out
  have hww := hw1.out
  have A3 := Lib.hid (A2.out.call hf3 hR3)
  have O3 := Lib.hid (O2.out.fr hf3 (by omega))
  have N3 := Lib.hid (N2.out.fr hf3 (by omega))
  clear hf3 hR3 hx hww
  go_wp2_with fail
  by_cases hkd : (c.nx k3).kind = 3
  rotate_left
  · go_at_call 60
    refine (HU.out _ k3 (A3.out.rd HR.out) hkd).mono ?_
    rintro e w4 ⟨rfl, hf4⟩
    have A4 := Lib.hid (A3.out.fr.trans hf4)
    have HKD := Lib.hid hkd
    clear hf4 hkd
    go_wp2_with fail
    refine ⟨rfl, ?_⟩
    rw [← H3.out]
    unfold firstP.go
    rw [numP_at, if_neg HKD.out]
    exact ⟨A4.out, rfl⟩
  have hbd := wd_bd (A3.out.rd HR.out)
  have HT2 := Lib.hid (HT.out _ k3 (A3.out.rd HR.out) hkd)
  obtain ⟨t, ht⟩ : ∃ t, t = c.nx k3 := ⟨_, rfl⟩
  have HTT := Lib.hid ht
  rw [← ht] at HT2 hbd
  have HKD := Lib.hid hkd
  clear ht hkd
  obtain ⟨tk, tx, tw, tp⟩ := t
  simp only at hbd
  obtain ⟨tw0, tw1⟩ := hbd
  go_at_call 60
  refine (HT2.out).mono ?_
  rintro e w4 ⟨rfl, hf4, hR4⟩
  have hx := hX.out
  have hww := hw1.out
  have A4 := Lib.hid (A3.out.call hf4 hR4)
  have O4 := O3.out.fr hf4 (by omega)
  have N4 := N3.out.fr hf4 (by omega)
  have n0 : w4.cell? ⟨w1.heap.size, 0, none⟩ = some (.string dn) := by rw [cell_of_row w4 w1.heap.size 0 _ _ _ N4]; rfl
  have n1 : w4.cell? ⟨w1.heap.size, 1, none⟩ = some (.int .i64 dw) := by rw [cell_of_row w4 w1.heap.size 1 _ _ _ N4]; rfl
  have n2 : w4.frozen? ⟨w1.heap.size, 1, none⟩ = false := by simp only [World.frozen?]; unfold Own at N4; rw [N4]; rfl
  have F2 := tok_f2
  clear hf4 hR4 hx hww
  cases b with
  | false =>
    go_upto_region 8 with (fail)
    obtain ⟨W, hW⟩ : ∃ W, W = w4.setCell ⟨w1.heap.size, 1, none⟩ (.int .i64 tw) := ⟨_, rfl⟩
    rw [← hW]
    have hne : w1.heap.size ≠ w.heap.size := by have := hw1.out; omega
    have N5 : Own W w1.heap.size 58 #[.string dn, .int .i64 tw, .int .i64 dp] := by rw [hW]; exact heap_setCell_same w4 w1.heap.size 1 _ _ (.int .i64 tw) N4
    have O5 : Own W w.heap.size 58 #[.string ⟨#[]⟩, .int .i64 0, .int .i64 0] := by rw [hW]; exact O4.setX 1 _ hne
    have A5 : Hid (At c w W (k3 + 1)) := by
      rw [hW]
      have hx := hX.out
      have hww := hw1.out
      exact ⟨Keep.setCell A4.out.fr (p := ⟨w1.heap.size, 1, none⟩) _ N4 (fun hs => by have := hs.1; simp at this; omega), (Below.heap_setCell _ _ _ _ (show c.X ≠ w1.heap.size by omega)).trans A4.out.pos, A4.out.le⟩
    clear n0 n1 n2 hW hne O4 N4
    go_wp2_with (first | (refine ld rowDc rfl rfl rfl N5 rfl ?_) | (refine st rowDc rfl rfl O5 rfl rfl (by rfl) (by rfl) (by kernel_rfl) ?_))
    have hx := hX.out
    have A6 := A5.out.setRow (Nat.le_refl _) (by omega) #[.string dn, .int .i64 tw, .int .i64 dp]
    refine p_ret rowDc rfl (O5.row #[.string dn, .int .i64 tw, .int .i64 dp]) rfl rfl rfl ?_
    rw [← H3.out]
    unfold firstP.go
    rw [numP_at, if_pos HKD.out, ← HTT.out]
    exact ⟨A6.fr, _, k3 + 1, rfl, rfl, A6.rd HR.out, rfl⟩
  | true =>
    go_upto_region 8 with (fail)
    obtain ⟨W, hW⟩ : ∃ W, W = (w4.setCell ⟨w1.heap.size, 1, none⟩ (.int .i64 tw)).setCell ⟨w1.heap.size, 1, none⟩ (.int .i64 (-tw)) := ⟨_, rfl⟩
    rw [← hW]
    have hne : w1.heap.size ≠ w.heap.size := by have := hw1.out; omega
    have N5 : Own W w1.heap.size 58 #[.string dn, .int .i64 (-tw), .int .i64 dp] := by rw [hW]; exact heap_setCell_same _ w1.heap.size 1 _ _ (.int .i64 (-tw)) (heap_setCell_same w4 w1.heap.size 1 _ _ (.int .i64 tw) N4)
    have O5 : Own W w.heap.size 58 #[.string ⟨#[]⟩, .int .i64 0, .int .i64 0] := by rw [hW]; exact (O4.setX 1 _ hne).setX 1 _ hne
    have A5 : Hid (At c w W (k3 + 1)) := by
      rw [hW]
      have hx := hX.out
      have hww := hw1.out
      have N4' := heap_setCell_same w4 w1.heap.size 1 _ _ (.int .i64 tw) N4
      refine ⟨Keep.setCell (Keep.setCell A4.out.fr (p := ⟨w1.heap.size, 1, none⟩) _ N4 (fun hs => by have := hs.1; simp at this; omega)) (p := ⟨w1.heap.size, 1, none⟩) _ N4' (fun hs => by have := hs.1; simp at this; omega), ?_, A4.out.le⟩
      exact (Below.heap_setCell _ _ _ _ (show c.X ≠ w1.heap.size by omega)).trans ((Below.heap_setCell _ _ _ _ (show c.X ≠ w1.heap.size by omega)).trans A4.out.pos)
    clear n0 n1 n2 hW hne O4 N4
    go_wp2_with (first | (refine ld rowDc rfl rfl rfl N5 rfl ?_) | (refine st rowDc rfl rfl O5 rfl rfl (by rfl) (by rfl) (by kernel_rfl) ?_))
    have hx := hX.out
    have A6 := A5.out.setRow (Nat.le_refl _) (by omega) #[.string dn, .int .i64 (-tw), .int .i64 dp]
    refine p_ret rowDc rfl (O5.row #[.string dn, .int .i64 (-tw), .int .i64 dp]) rfl rfl rfl ?_
    rw [← H3.out]
    unfold firstP.go
    rw [numP_at, if_pos HKD.out, ← HTT.out]
    exact ⟨A6.fr, _, k3 + 1, rfl, rfl, A6.rd HR.out, rfl⟩
end Go.Proofs.YtgaibdipecngkaaDoor

namespace Go.Proofs.YtgaibdipecngkaaDoor
open Go.RowKit
set_option linter.unusedVariables false
theorem infoDc : (Tryd.prog.info? 58).map (fun i => (i.zero, i.size, i.bytes)) = some (some (.agg zDc), 3, 32) := by kernel_rfl
/-- Behind one item of a list. -/
def listR (L : Int) (one : List Tk → PR Dc) (m : Nat) (l : List Dc) (ts : List Tk) : PR (List Dc) := if isT [44] ts then listP L one m l ts.tail else (need L [59] ts).then fun _ r => .ok l r
theorem need_at {c : Par} {k : Nat} (s : Bs) : need c.L s (c.at k) = if isT s (c.at k) = true then .ok () (c.at (k + 1)) else .bad (hdP c.L (c.at k)) 2 := by
  unfold need
  rw [Par.at_tail]
theorem cells_three {W : World} {g : Nat} {a b d : Value} {t : TypeId} (h : Own W g t #[a, b, d]) (j : Nat) (u : Value) (hj : [a, b, d][j]? = some u) : W.cell? ((⟨g, 0, none⟩ : Addr).add j) = some u := by
  have e : (⟨g, 0, none⟩ : Addr).add j = ⟨g, j, none⟩ := by by_cases h0 : j = 0 <;> simp [Addr.add, h0]
  rw [e, cell_of_row W g j _ _ _ h, ← hj]
  have : j < 3 := (List.getElem?_eq_some_iff.1 hj).1
  have h3 : j = 0 ∨ j = 1 ∨ j = 2 := by omega
  rcases h3 with rfl | rfl | rfl <;> rfl
/-- What holds at the head of a round. -/
def LstI (c : Par) (w : World) (one : List Tk → PR Dc) (Y : PR (List Dc)) (m : Nat) (v : Value) (W : World) : Prop :=
  ∃ (j : Nat) (l : List Dc), At c w W j ∧ W.ownsRow w.heap.size 58 3 v l.length (dcsL l) ∧ l ≠ [] ∧ listR c.L one m l (c.at j) = Y ∧ (c.at j).length ≤ m ∧ l.length + (c.at j).length ≤ 65536
set_option maxRecDepth 100000 in
set_option maxHeartbeats 4000000 in
theorem p_list_name {c : Par} {w : World} {k n : Nat} (R : Rd c w k) (hn : (c.at k).length < n) : Calls Tryd.prog 55 #[c.ptr, .func (.func 57) #[c.ptr] #[]] w
    (RdPost c w (listP c.L (nameP c.L) n [] (c.at k)) (fun l v w' => w'.ownsRow w.heap.size 58 3 v l.length (dcsL l) ∧ l ≠ [])) := by
  have HK : Hid (∀ W j, Rd c W j → Calls Tryd.prog 57 #[c.ptr] W (RdPost c W (nameP c.L (c.at j)) (fun d v _ => v = dcVal d))) := fun W j RW => p_name RW
  have HP : Hid (∀ W j (s : ByteArray), Rd c W j → s.data.toList ≠ [] → Calls Tryd.prog 50 #[c.ptr, .string s] W fun e w' => e = .returned (.bool (isT s.data.toList (c.at j))) ∧ Fr c W w' ∧ Rd c w' (if isT s.data.toList (c.at j) = true then j + 1 else j)) := fun W j s RW hs => p_pass RW s hs
  have HSH : Hid (∀ ts d r, nameP c.L ts = .ok d r → r.length < ts.length) := fun ts d r h => nameP_short h
  obtain ⟨one, hone⟩ : ∃ one, one = nameP c.L := ⟨_, rfl⟩
  rw [← hone] at HK HSH ⊢
  obtain ⟨n, rfl⟩ : ∃ n', n = n' + 1 := ⟨n - 1, by omega⟩
  obtain ⟨Y0, hY0⟩ : ∃ Y0, Y0 = one (c.at k) := ⟨_, rfl⟩
  have hl0 : (c.at k).length ≤ 65536 := by rw [Par.at_len]; have := R.s.small.1; omega
  have HK0 : Hid (∀ W, Rd c W k → Calls Tryd.prog 57 #[c.ptr] W (RdPost c W Y0 (fun d v _ => v = dcVal d))) := fun W RW => by rw [hY0]; exact HK.out W k RW
  simp only [listP]
  rw [← hY0]
  have HY0 : Hid (∀ d r, Y0 = .ok d r → r.length < (c.at k).length) := fun d r h => HSH.out _ _ _ (hY0.symm.trans h)
  have A0 := Lib.hid (At.start R)
  have HR := Lib.hid R
  have hX := Lib.hid R.lt
  have HN := Lib.hid (And.intro hn hl0)
  clear hY0 R hone hn hl0
  unfold Par.ptr dcVal at *
  go_enter Tryd.func55, Tryd.ntmps55
  go_wp2_with fail
  go_at_call 57
  refine (HK0.out _ HR.out).mono ?_
  rintro e w1 ⟨hf1, hm⟩
  rcases Y0 with ⟨d0, r0⟩ | ⟨p, q⟩
  rotate_left
  · obtain rfl := hm
    have A1 := Lib.hid (A0.out.fr.trans hf1)
    clear hf1
    go_wp2_with fail
    exact ⟨rfl, A1.out, rfl⟩
  obtain ⟨v1, k1, rfl, rfl, hR1, rfl⟩ := hm
  have hlen := HY0.out _ _ rfl
  have B0 : Hid (LstI c w one (listR c.L one n ([] ++ [d0]) (c.at k1)) n (.slice (some ⟨w1.heap.size, 0, none⟩) 1 1) (w1.alloc (.cells #[.string d0.name, .int .i64 d0.wd, .int .i64 d0.pos] 58))) := by
    have hz := Keep.size hf1
    refine ⟨k1, [d0], (A0.out.call hf1 hR1).alloc _, ⟨rfl, .inr ⟨w1.heap.size, 1, _, rfl, hz, Own.new w1 _ _, Nat.le_refl _, by decide, rfl, rfl⟩⟩, by simp, rfl, by have := HN.out.1; omega, by have := HN.out.2; simp; omega⟩
  obtain ⟨Y, hY⟩ : ∃ Y, Y = listR c.L one n ([] ++ [d0]) (c.at k1) := ⟨_, rfl⟩
  rw [← hY] at B0
  have HYY := Lib.hid hY.symm
  clear hf1 hR1 hlen hY HY0 HK0
  go_wp2_with fail
  go_loopg [5] n (fun m u W => LstI c w one Y m u W)
  case atStart => exact B0.out
  case round =>
    obtain ⟨j, l, A1, hrow, hne, hL, hfu, hle⟩ := hrel
    have HA1 := Lib.hid A1
    have HROW := Lib.hid hrow
    have HNE := Lib.hid hne
    have HL := Lib.hid hL
    have HFU := Lib.hid (And.intro hfu hle)
    obtain ⟨oa, cap, rfl, hoa⟩ := row_shape hrow
    have HOA := Lib.hid hoa
    clear A1 hrow hne hL hfu hle hoa
    by_cases h1 : isT [44] (c.at j) = true
    · have hjl := Par.isT_lt h1
      have hlen1 : (c.at j).length = (c.at (j + 1)).length + 1 := by rw [at_nx hjl]; rfl
      have HLE := Lib.hid hlen1
      obtain ⟨m, rfl⟩ : ∃ m, gk = m + 1 := ⟨gk - 1, by have := HFU.out.1; omega⟩
      have hs2 : Y = (one (c.at (j + 1))).then fun d r => listR c.L one m (l ++ [d]) r := by
        rw [← HL.out]; unfold listR; rw [if_pos h1, Par.at_tail]; rfl
      obtain ⟨Z, hZ⟩ : ∃ Z, Z = one (c.at (j + 1)) := ⟨_, rfl⟩
      rw [← hZ] at hs2
      have HSP := Lib.hid hs2
      have HKZ : Hid (∀ W, Rd c W (j + 1) → Calls Tryd.prog 57 #[.pointer (some ⟨c.X, 0, none⟩)] W (RdPost c W Z (fun d v _ => v = .agg #[.string d.name, .int .i64 d.wd, .int .i64 d.pos]))) := fun W RW => by rw [hZ]; exact HK.out W (j + 1) RW
      have HZL : Hid (∀ d r, Z = .ok d r → r.length < (c.at (j + 1)).length) := fun d r h => HSH.out _ _ _ (hZ.symm.trans h)
      have H1 := Lib.hid h1
      clear h1 hjl hlen1 hs2 hZ
      go_wp2_with fail
      go_at_call 50
      refine (HP.out _ j ⟨#[44]⟩ (HA1.out.rd HR.out) (by decide)).mono ?_
      rintro e w2 ⟨he, hf2, hR2⟩
      rw [show (⟨#[44]⟩ : ByteArray).data.toList = [44] from rfl, H1.out] at he hR2
      rw [if_pos rfl] at hR2
      subst he
      have A2 := Lib.hid (HA1.out.call hf2 hR2)
      have ROW2 := Lib.hid (row_fr HROW.out hf2 hX.out)
      clear hf2 hR2
      go_wp2_with fail
      go_at_call 57
      refine (HKZ.out _ (A2.out.rd HR.out)).mono ?_
      rintro e w3 ⟨hf3, hm3⟩
      rcases Z with ⟨d2, r2⟩ | ⟨p, q⟩
      rotate_left
      · obtain rfl := hm3
        have A3 := Lib.hid (A2.out.fr.trans hf3)
        clear hf3
        go_wp2_with fail
        refine ⟨rfl, ?_⟩
        show RdPost c w (listR c.L one n ([] ++ [d0]) (c.at k1)) _ _ _
        rw [HYY.out, HSP.out]
        exact ⟨A3.out, rfl⟩
      obtain ⟨v3, k3, rfl, rfl, hR3, rfl⟩ := hm3
      have A3 := Lib.hid ((A2.out.call hf3 hR3).alloc (.cells #[.string d2.name, .int .i64 d2.wd, .int .i64 d2.pos] 58))
      have row3 := (row_fr ROW2.out hf3 hX.out).alloc (.cells #[.string d2.name, .int .i64 d2.wd, .int .i64 d2.pos] 58)
      have hz3 : w.heap.size ≤ w3.heap.size := Keep.size (A2.out.call hf3 hR3).fr
      have hl6 : l.length ≤ 65535 := by have := HFU.out.2; have := HLE.out; omega
      obtain ⟨i0, hi, hi0, hi1, hi2⟩ := info_parts infoDc
      have hk3 := Lib.hid (HZL.out _ _ rfl)
      have N3 := Own.new w3 58 #[.string d2.name, .int .i64 d2.wd, .int .i64 d2.pos]
      clear hf3 hR3
      go_wp2_with (at_builtin; refine wpList_append_own _ rfl _ _ 48 rfl w.heap.size 58 i0 _ 3 32 Tryd.underlying48 hi hi0 hi1 hi2 rfl (by decide) _ _ _ rfl row3 ⟨w3.heap.size, 0, none⟩ 1 1 [.string d2.name, .int .i64 d2.wd, .int .i64 d2.pos] rfl rfl (fun j u hj => cells_three N3 j u hj) (by simp [Value.oneCell']) (by simp only [maxLen]; omega) (by omega) (by simp; omega) ?_; intro v' w4 hown' hgrow _; have ROW4 := Lib.hid hown'; have GR := Lib.hid hgrow; clear hown' hgrow)
      go_roundg m
      case measure => omega
      case rel =>
        have hx := hX.out
        refine ⟨k3, l ++ [d2], grown_fr A3.out GR.out (fun r hr => ?_), ?_, by simp, HSP.out.symm, by have := HFU.out.1; have := hk3.out; have := HLE.out; omega, by have := HFU.out.2; have := hk3.out; have := HLE.out; simp; omega⟩
        · have h2 := (row3.lt r hr).1
          exact ⟨h2, by omega⟩
        · have := ROW4.out
          rw [dcsL_snoc, List.length_append]
          exact this
    · have h1' : isT [44] (c.at j) = false := by simpa using h1
      have hs2 : Y = (need c.L [59] (c.at j)).then fun _ r => .ok l r := by rw [← HL.out]; unfold listR; rw [h1']; rfl
      have HSP := Lib.hid hs2
      have H1 := Lib.hid h1'
      clear h1 h1' hs2
      go_wp2_with fail
      go_at_call 50
      refine (HP.out _ j ⟨#[44]⟩ (HA1.out.rd HR.out) (by decide)).mono ?_
      rintro e w2 ⟨he, hf2, hR2⟩
      rw [show (⟨#[44]⟩ : ByteArray).data.toList = [44] from rfl, H1.out] at he hR2
      rw [if_neg (by simp)] at hR2
      subst he
      have A2 := Lib.hid (HA1.out.call hf2 hR2)
      have ROW2 := Lib.hid (row_fr HROW.out hf2 hX.out)
      clear hf2 hR2
      go_wp2_with fail
      by_cases h2 : isT [59] (c.at j) = true
      · go_at_call 62
        refine (p_take_ok (A2.out.rd HR.out) ⟨#[59]⟩ (by decide) h2).mono ?_
        rintro e w3 ⟨rfl, hf3, hR3⟩
        have A3 := Lib.hid (A2.out.call hf3 hR3)
        have ROW3 := Lib.hid (row_fr ROW2.out hf3 hX.out)
        have H2 := Lib.hid h2
        clear hf3 hR3 h2
        go_wp2_with fail
        go_ret
        show RdPost c w (listR c.L one n ([] ++ [d0]) (c.at k1)) _ _ _
        rw [HYY.out, HSP.out, need_at, if_pos H2.out]
        exact ⟨A3.out.fr, _, j + 1, rfl, ⟨ROW3.out, HNE.out⟩, A3.out.rd HR.out, rfl⟩
      · have h2' : isT [59] (c.at j) = false := by simpa using h2
        go_at_call 62
        refine (p_take_bad (A2.out.rd HR.out) ⟨#[59]⟩ (by decide) h2').mono ?_
        rintro e w3 ⟨rfl, hf3⟩
        have A3 := Lib.hid (A2.out.fr.trans hf3)
        have H2 := Lib.hid h2'
        clear hf3 h2 h2'
        go_wp2_with fail
        refine ⟨rfl, ?_⟩
        show RdPost c w (listR c.L one n ([] ++ [d0]) (c.at k1)) _ _ _
        rw [HYY.out, HSP.out, need_at, H2.out]
        exact ⟨A3.out, rfl⟩
set_option maxRecDepth 100000 in
set_option maxHeartbeats 4000000 in
theorem p_list_first {c : Par} {w : World} {k n : Nat} (R : Rd c w k) (hn : (c.at k).length < n) : Calls Tryd.prog 55 #[c.ptr, .func (.func 56) #[c.ptr] #[]] w
    (RdPost c w (listP c.L (firstP c.L) n [] (c.at k)) (fun l v w' => w'.ownsRow w.heap.size 58 3 v l.length (dcsL l) ∧ l ≠ [])) := by
  have HK : Hid (∀ W j, Rd c W j → Calls Tryd.prog 56 #[c.ptr] W (RdPost c W (firstP c.L (c.at j)) (fun d v _ => v = dcVal d))) := fun W j RW => p_first RW
  have HP : Hid (∀ W j (s : ByteArray), Rd c W j → s.data.toList ≠ [] → Calls Tryd.prog 50 #[c.ptr, .string s] W fun e w' => e = .returned (.bool (isT s.data.toList (c.at j))) ∧ Fr c W w' ∧ Rd c w' (if isT s.data.toList (c.at j) = true then j + 1 else j)) := fun W j s RW hs => p_pass RW s hs
  have HSH : Hid (∀ ts d r, firstP c.L ts = .ok d r → r.length < ts.length) := fun ts d r h => firstP_short h
  obtain ⟨one, hone⟩ : ∃ one, one = firstP c.L := ⟨_, rfl⟩
  rw [← hone] at HK HSH ⊢
  obtain ⟨n, rfl⟩ : ∃ n', n = n' + 1 := ⟨n - 1, by omega⟩
  obtain ⟨Y0, hY0⟩ : ∃ Y0, Y0 = one (c.at k) := ⟨_, rfl⟩
  have hl0 : (c.at k).length ≤ 65536 := by rw [Par.at_len]; have := R.s.small.1; omega
  have HK0 : Hid (∀ W, Rd c W k → Calls Tryd.prog 56 #[c.ptr] W (RdPost c W Y0 (fun d v _ => v = dcVal d))) := fun W RW => by rw [hY0]; exact HK.out W k RW
  simp only [listP]
  rw [← hY0]
  have HY0 : Hid (∀ d r, Y0 = .ok d r → r.length < (c.at k).length) := fun d r h => HSH.out _ _ _ (hY0.symm.trans h)
  have A0 := Lib.hid (At.start R)
  have HR := Lib.hid R
  have hX := Lib.hid R.lt
  have HN := Lib.hid (And.intro hn hl0)
  clear hY0 R hone hn hl0
  unfold Par.ptr dcVal at *
  go_enter Tryd.func55, Tryd.ntmps55
  go_wp2_with fail
  go_at_call 56
  refine (HK0.out _ HR.out).mono ?_
  rintro e w1 ⟨hf1, hm⟩
  rcases Y0 with ⟨d0, r0⟩ | ⟨p, q⟩
  rotate_left
  · obtain rfl := hm
    have A1 := Lib.hid (A0.out.fr.trans hf1)
    clear hf1
    go_wp2_with fail
    exact ⟨rfl, A1.out, rfl⟩
  obtain ⟨v1, k1, rfl, rfl, hR1, rfl⟩ := hm
  have hlen := HY0.out _ _ rfl
  have B0 : Hid (LstI c w one (listR c.L one n ([] ++ [d0]) (c.at k1)) n (.slice (some ⟨w1.heap.size, 0, none⟩) 1 1) (w1.alloc (.cells #[.string d0.name, .int .i64 d0.wd, .int .i64 d0.pos] 58))) := by
    have hz := Keep.size hf1
    refine ⟨k1, [d0], (A0.out.call hf1 hR1).alloc _, ⟨rfl, .inr ⟨w1.heap.size, 1, _, rfl, hz, Own.new w1 _ _, Nat.le_refl _, by decide, rfl, rfl⟩⟩, by simp, rfl, by have := HN.out.1; omega, by have := HN.out.2; simp; omega⟩
  obtain ⟨Y, hY⟩ : ∃ Y, Y = listR c.L one n ([] ++ [d0]) (c.at k1) := ⟨_, rfl⟩
  rw [← hY] at B0
  have HYY := Lib.hid hY.symm
  clear hf1 hR1 hlen hY HY0 HK0
  go_wp2_with fail
  go_loopg [5] n (fun m u W => LstI c w one Y m u W)
  case atStart => exact B0.out
  case round =>
    obtain ⟨j, l, A1, hrow, hne, hL, hfu, hle⟩ := hrel
    have HA1 := Lib.hid A1
    have HROW := Lib.hid hrow
    have HNE := Lib.hid hne
    have HL := Lib.hid hL
    have HFU := Lib.hid (And.intro hfu hle)
    obtain ⟨oa, cap, rfl, hoa⟩ := row_shape hrow
    have HOA := Lib.hid hoa
    clear A1 hrow hne hL hfu hle hoa
    by_cases h1 : isT [44] (c.at j) = true
    · have hjl := Par.isT_lt h1
      have hlen1 : (c.at j).length = (c.at (j + 1)).length + 1 := by rw [at_nx hjl]; rfl
      have HLE := Lib.hid hlen1
      obtain ⟨m, rfl⟩ : ∃ m, gk = m + 1 := ⟨gk - 1, by have := HFU.out.1; omega⟩
      have hs2 : Y = (one (c.at (j + 1))).then fun d r => listR c.L one m (l ++ [d]) r := by
        rw [← HL.out]; unfold listR; rw [if_pos h1, Par.at_tail]; rfl
      obtain ⟨Z, hZ⟩ : ∃ Z, Z = one (c.at (j + 1)) := ⟨_, rfl⟩
      rw [← hZ] at hs2
      have HSP := Lib.hid hs2
      have HKZ : Hid (∀ W, Rd c W (j + 1) → Calls Tryd.prog 56 #[.pointer (some ⟨c.X, 0, none⟩)] W (RdPost c W Z (fun d v _ => v = .agg #[.string d.name, .int .i64 d.wd, .int .i64 d.pos]))) := fun W RW => by rw [hZ]; exact HK.out W (j + 1) RW
      have HZL : Hid (∀ d r, Z = .ok d r → r.length < (c.at (j + 1)).length) := fun d r h => HSH.out _ _ _ (hZ.symm.trans h)
      have H1 := Lib.hid h1
      clear h1 hjl hlen1 hs2 hZ
      go_wp2_with fail
      go_at_call 50
      refine (HP.out _ j ⟨#[44]⟩ (HA1.out.rd HR.out) (by decide)).mono ?_
      rintro e w2 ⟨he, hf2, hR2⟩
      rw [show (⟨#[44]⟩ : ByteArray).data.toList = [44] from rfl, H1.out] at he hR2
      rw [if_pos rfl] at hR2
      subst he
      have A2 := Lib.hid (HA1.out.call hf2 hR2)
      have ROW2 := Lib.hid (row_fr HROW.out hf2 hX.out)
      clear hf2 hR2
      go_wp2_with fail
      go_at_call 56
      refine (HKZ.out _ (A2.out.rd HR.out)).mono ?_
      rintro e w3 ⟨hf3, hm3⟩
      rcases Z with ⟨d2, r2⟩ | ⟨p, q⟩
      rotate_left
      · obtain rfl := hm3
        have A3 := Lib.hid (A2.out.fr.trans hf3)
        clear hf3
        go_wp2_with fail
        refine ⟨rfl, ?_⟩
        show RdPost c w (listR c.L one n ([] ++ [d0]) (c.at k1)) _ _ _
        rw [HYY.out, HSP.out]
        exact ⟨A3.out, rfl⟩
      obtain ⟨v3, k3, rfl, rfl, hR3, rfl⟩ := hm3
      have A3 := Lib.hid ((A2.out.call hf3 hR3).alloc (.cells #[.string d2.name, .int .i64 d2.wd, .int .i64 d2.pos] 58))
      have row3 := (row_fr ROW2.out hf3 hX.out).alloc (.cells #[.string d2.name, .int .i64 d2.wd, .int .i64 d2.pos] 58)
      have hz3 : w.heap.size ≤ w3.heap.size := Keep.size (A2.out.call hf3 hR3).fr
      have hl6 : l.length ≤ 65535 := by have := HFU.out.2; have := HLE.out; omega
      obtain ⟨i0, hi, hi0, hi1, hi2⟩ := info_parts infoDc
      have hk3 := Lib.hid (HZL.out _ _ rfl)
      have N3 := Own.new w3 58 #[.string d2.name, .int .i64 d2.wd, .int .i64 d2.pos]
      clear hf3 hR3
      go_wp2_with (at_builtin; refine wpList_append_own _ rfl _ _ 48 rfl w.heap.size 58 i0 _ 3 32 Tryd.underlying48 hi hi0 hi1 hi2 rfl (by decide) _ _ _ rfl row3 ⟨w3.heap.size, 0, none⟩ 1 1 [.string d2.name, .int .i64 d2.wd, .int .i64 d2.pos] rfl rfl (fun j u hj => cells_three N3 j u hj) (by simp [Value.oneCell']) (by simp only [maxLen]; omega) (by omega) (by simp; omega) ?_; intro v' w4 hown' hgrow _; have ROW4 := Lib.hid hown'; have GR := Lib.hid hgrow; clear hown' hgrow)
      go_roundg m
      case measure => omega
      case rel =>
        have hx := hX.out
        refine ⟨k3, l ++ [d2], grown_fr A3.out GR.out (fun r hr => ?_), ?_, by simp, HSP.out.symm, by have := HFU.out.1; have := hk3.out; have := HLE.out; omega, by have := HFU.out.2; have := hk3.out; have := HLE.out; simp; omega⟩
        · have h2 := (row3.lt r hr).1
          exact ⟨h2, by omega⟩
        · have := ROW4.out
          rw [dcsL_snoc, List.length_append]
          exact this
    · have h1' : isT [44] (c.at j) = false := by simpa using h1
      have hs2 : Y = (need c.L [59] (c.at j)).then fun _ r => .ok l r := by rw [← HL.out]; unfold listR; rw [h1']; rfl
      have HSP := Lib.hid hs2
      have H1 := Lib.hid h1'
      clear h1 h1' hs2
      go_wp2_with fail
      go_at_call 50
      refine (HP.out _ j ⟨#[44]⟩ (HA1.out.rd HR.out) (by decide)).mono ?_
      rintro e w2 ⟨he, hf2, hR2⟩
      rw [show (⟨#[44]⟩ : ByteArray).data.toList = [44] from rfl, H1.out] at he hR2
      rw [if_neg (by simp)] at hR2
      subst he
      have A2 := Lib.hid (HA1.out.call hf2 hR2)
      have ROW2 := Lib.hid (row_fr HROW.out hf2 hX.out)
      clear hf2 hR2
      go_wp2_with fail
      by_cases h2 : isT [59] (c.at j) = true
      · go_at_call 62
        refine (p_take_ok (A2.out.rd HR.out) ⟨#[59]⟩ (by decide) h2).mono ?_
        rintro e w3 ⟨rfl, hf3, hR3⟩
        have A3 := Lib.hid (A2.out.call hf3 hR3)
        have ROW3 := Lib.hid (row_fr ROW2.out hf3 hX.out)
        have H2 := Lib.hid h2
        clear hf3 hR3 h2
        go_wp2_with fail
        go_ret
        show RdPost c w (listR c.L one n ([] ++ [d0]) (c.at k1)) _ _ _
        rw [HYY.out, HSP.out, need_at, if_pos H2.out]
        exact ⟨A3.out.fr, _, j + 1, rfl, ⟨ROW3.out, HNE.out⟩, A3.out.rd HR.out, rfl⟩
      · have h2' : isT [59] (c.at j) = false := by simpa using h2
        go_at_call 62
        refine (p_take_bad (A2.out.rd HR.out) ⟨#[59]⟩ (by decide) h2').mono ?_
        rintro e w3 ⟨rfl, hf3⟩
        have A3 := Lib.hid (A2.out.fr.trans hf3)
        have H2 := Lib.hid h2'
        clear hf3 h2 h2'
        go_wp2_with fail
        refine ⟨rfl, ?_⟩
        show RdPost c w (listR c.L one n ([] ++ [d0]) (c.at k1)) _ _ _
        rw [HYY.out, HSP.out, need_at, H2.out]
        exact ⟨A3.out, rfl⟩
end Go.Proofs.YtgaibdipecngkaaDoor

namespace Go.Proofs.YtgaibdipecngkaaDoor
open Go.RowKit
set_option linter.unusedVariables false
theorem setCell_row {W : World} {g : Nat} {t : TypeId} {cs : Array Value} (h : Own W g t cs) (j : Nat) (v : Value) : W.setCell ⟨g, j, none⟩ v = W.setRow g (cs.setIfInBounds j v) := by
  have key : (W.setCell ⟨g, j, none⟩ v).heap = (W.setRow g (cs.setIfInBounds j v)).heap := by
    apply Array.ext_getElem?
    intro i
    by_cases hi : i = g
    · subst hi
      rw [heap_setCell_same W i j _ _ v h, setRow_heap W i _ _ _ _ h]
    · rw [Below.heap_setCell W ⟨g, j, none⟩ v i hi, setRow_other _ hi]
  exact congrArg (fun h => ({ W with heap := h } : World)) key
/-- A statement, as a value: its place is p; its parts lie in blocks from n on. -/
def stR (n : Nat) (p : Int) (s : St) (v : Value) (W : World) : Prop :=
  ∃ a3 c3 a4 c4 a5 c5, v = .agg #[.int .u8 s.kind, .string s.name, .string s.other, .slice a3 s.e.length c3, .slice a4 s.body.length c4, .slice a5 s.els.length c5, .int .i64 p] ∧ exsAt (fun b => n ≤ b) W s.e a3 ∧ stsAt (fun b => n ≤ b) W s.body a4 ∧ stsAt (fun b => n ≤ b) W s.els a5
def exsVal (n : Nat) (l : List Ex) (v : Value) (W : World) : Prop := ∃ a cap, v = .slice a l.length cap ∧ exsAt (fun b => n ≤ b) W l a
def stsVal (n : Nat) (l : List St) (v : Value) (W : World) : Prop := ∃ a cap, v = .slice a l.length cap ∧ stsAt (fun b => n ≤ b) W l a
theorem stsAt_mono {R R' : Nat → Prop} {w : World} {l : List St} {a : Option Addr} (h : stsAt R w l a) (hm : ∀ b, R b → R' b) : stsAt R' w l a := stsAt_stays (Stays.refl R w) hm h
/-- Within a function that makes a statement: a token's box, the result's block, the statement's block. -/
structure StG (c : Par) (w : World) (t : Tk) (cs : Array Value) (W : World) (j : Nat) : Prop where
  run : At c w W j
  tok : Own W w.heap.size 69 #[.int .u8 t.kind, .string t.text, .int .i64 t.wd, .int .i64 t.pos]
  res : Own W (w.heap.size + 1) 61 zSt
  st : Own W (w.heap.size + 1 + 1) 61 cs
section
variable {c : Par} {w W W' : World} {t : Tk} {cs : Array Value} {j k2 : Nat}
theorem StG.start {k : Nat} (R : Rd c w k) (t : Tk) (cs : Array Value) : StG c w t cs (((w.alloc (.cells #[.int .u8 t.kind, .string t.text, .int .i64 t.wd, .int .i64 t.pos] 69)).alloc (.cells zSt 61)).alloc (.cells cs 61)) k := by
  have o1 := Own.new (w.alloc (.cells #[.int .u8 t.kind, .string t.text, .int .i64 t.wd, .int .i64 t.pos] 69)) 61 zSt
  have o2 := Own.new ((w.alloc (.cells #[.int .u8 t.kind, .string t.text, .int .i64 t.wd, .int .i64 t.pos] 69)).alloc (.cells zSt 61)) 61 cs
  rw [World.size_alloc] at o1 o2
  rw [World.size_alloc] at o2
  exact ⟨(((At.start R).alloc _).alloc _).alloc _, ((Own.new w _ _).alloc _).alloc _, o1.alloc _, o2⟩
theorem StG.call (h : StG c w t cs W j) (hf : Fr c W W') (hp : Rd c W' k2) (hX : c.X < w.heap.size) : StG c w t cs W' k2 :=
  ⟨h.run.call hf hp, h.tok.fr hf (by omega), h.res.fr hf (by omega), h.st.fr hf (by omega)⟩
theorem StG.row (h : StG c w t cs W j) (ds : Array Value) (hX : c.X < w.heap.size) : StG c w t ds (W.setRow (w.heap.size + 1 + 1) ds) j :=
  ⟨h.run.setRow (by omega) (by omega) ds, h.tok.other ds (by omega), h.res.other ds (by omega), h.st.row ds⟩
theorem StG.cell (h : StG c w t cs W j) {i : Nat} {v : Value} (hv : cs[i]? = some v) : W.cell? ⟨w.heap.size + 1 + 1, i, none⟩ = some v := by rw [cell_of_row W _ i _ _ _ h.st]; exact hv
theorem StG.frozen (h : StG c w t cs W j) (i : Nat) : W.frozen? ⟨w.heap.size + 1 + 1, i, none⟩ = false := by
  have := h.st
  unfold Own at this
  simp only [World.frozen?, this]; rfl
end
theorem exsAt_call {c : Par} {W W' : World} {n : Nat} {l : List Ex} {a : Option Addr} (h : exsAt (fun b => n ≤ b) W l a) (hf : Fr c W W') (hX : c.X < n) : exsAt (fun b => n ≤ b) W' l a := exsAt_stays (stays_fr hf (fun b hb => by omega)) (fun b hb => hb) h
theorem stsAt_call {c : Par} {W W' : World} {n : Nat} {l : List St} {a : Option Addr} (h : stsAt (fun b => n ≤ b) W l a) (hf : Fr c W W') (hX : c.X < n) : stsAt (fun b => n ≤ b) W' l a := stsAt_stays (stays_fr hf (fun b hb => by omega)) (fun b hb => hb) h
theorem exsAt_row {W : World} {n g : Nat} {l : List Ex} {a : Option Addr} (h : exsAt (fun b => n ≤ b) W l a) (cs : Array Value) (hg : g < n) : exsAt (fun b => n ≤ b) (W.setRow g cs) l a := exsAt_stays (stays_row W cs (fun b hb => by omega)) (fun b hb => hb) h
theorem stsAt_row {W : World} {n g : Nat} {l : List St} {a : Option Addr} (h : stsAt (fun b => n ≤ b) W l a) (cs : Array Value) (hg : g < n) : stsAt (fun b => n ≤ b) (W.setRow g cs) l a := stsAt_stays (stays_row W cs (fun b hb => by omega)) (fun b hb => hb) h
/-- A value: an expression alone in a list. -/
theorem p_value {c : Par} {w : World} {k n : Nat} (R : Rd c w k) (hn : 3 * (c.at k).length + 2 ≤ n) :
    Calls Tryd.prog 61 #[c.ptr] w (RdPost c w (binE fnd c.L n 1 0 (c.at k)) (fun e v w' => exsVal w.heap.size [e] v w')) := by
  have HC : Hid (∀ W, Rd c W k → Calls Tryd.prog 10 #[c.ptr] W (RdPost c W (binE fnd c.L n 1 0 (c.at k)) (exR W.heap.size))) := fun W RW => p_expression RW hn
  obtain ⟨Y, hY⟩ : ∃ Y, Y = binE fnd c.L n 1 0 (c.at k) := ⟨_, rfl⟩
  rw [← hY] at HC ⊢
  have HR := Lib.hid R
  clear hY R hn
  unfold Par.ptr at *
  go_enter Tryd.func61, Tryd.ntmps61
  go_wp2_with fail
  go_at_call 10
  refine (HC.out _ HR.out).mono ?_
  rintro e w1 ⟨hf1, hm⟩
  rcases Y with ⟨e0, r0⟩ | ⟨p, q⟩
  rotate_left
  · obtain rfl := hm
    have A1 := Lib.hid hf1
    clear hf1
    go_wp2_with fail
    exact ⟨rfl, A1.out, rfl⟩
  obtain ⟨v1, k1, rfl, ⟨a4, cap4, rfl, hV⟩, hR1, rfl⟩ := hm
  have A1 := Lib.hid (((At.start HR.out).call hf1 hR1).alloc (.cells #[.int .u8 e0.kind, .int .u8 e0.op, .int .i64 e0.wd, .string e0.name, .slice a4 e0.kids.length cap4, .int .i64 e0.pos] 26))
  have N1 := Lib.hid (Own.new w1 26 #[.int .u8 e0.kind, .int .u8 e0.op, .int .i64 e0.wd, .string e0.name, .slice a4 e0.kids.length cap4, .int .i64 e0.pos])
  have HV := Lib.hid (exsAt_stays (stays_alloc _ w1 (.cells #[.int .u8 e0.kind, .int .u8 e0.op, .int .i64 e0.wd, .string e0.name, .slice a4 e0.kids.length cap4, .int .i64 e0.pos] 26)) (fun b hb => hb) hV)
  have hz := Lib.hid (Keep.size hf1)
  clear hf1 hV hR1
  go_wp2_with fail
  go_ret
  refine ⟨A1.out.fr, _, k1, rfl, ⟨_, _, rfl, .inr ⟨w1.heap.size, 0, rfl, hz.out, exIn_of (vs := exCells e0 a4 cap4) ⟨a4, cap4, rfl, HV.out⟩ ?_, trivial⟩⟩, A1.out.rd HR.out, rfl⟩
  intro q u hq
  have hq6 : q < 6 := (List.getElem?_eq_some_iff.1 hq).1
  rw [cell_of_row _ w1.heap.size (0 + q) _ _ _ N1.out, ← hq]
  have : q = 0 ∨ q = 1 ∨ q = 2 ∨ q = 3 ∨ q = 4 ∨ q = 5 := by omega
  rcases this with rfl | rfl | rfl | rfl | rfl | rfl <;> rfl
set_option maxRecDepth 100000 in
set_option maxHeartbeats 1000000 in
theorem p_open {c : Par} {w : World} {k : Nat} (R : Rd c w k) (d : Int) : Calls Tryd.prog 71 #[c.ptr, .int .i64 d] w (RdPost c w (openP c.L d (c.at k)) (fun _ v _ => v = .tuple #[])) := by
  have HN : Hid (∀ W, Rd c W k → Calls Tryd.prog 40 #[c.ptr] W fun e w' => e = .returned (tkV (c.nx k)) ∧ Below W.heap.size W w') := fun W h => p_next h
  have hp := c.nx_pos k
  obtain ⟨t, ht⟩ : ∃ t, t = c.nx k := ⟨_, rfl⟩
  rw [← ht] at HN hp
  have HP := Lib.hid hp
  have HR := Lib.hid R
  have hX := Lib.hid R.lt
  have HQ := Lib.hid (fun w => p_refuse t 3 w)
  unfold openP
  rw [need_at]
  obtain ⟨tk, tx, tw, tp⟩ := t
  clear ht hp R
  unfold tkV Par.ptr at *
  by_cases h1 : isT [123] (c.at k) = true
  · rw [if_pos h1]
    simp only [PR.then_ok]
    have H1 := Lib.hid h1
    by_cases hd : 64 < d
    · rw [if_pos hd]
      clear h1
      go_enter Tryd.func71, Tryd.ntmps71
      go_wp2_with fail
      go_at_call 40
      refine (HN.out _ HR.out).mono ?_
      rintro e w1 ⟨rfl, hb⟩
      have A1 := Lib.hid (((At.start HR.out).below hb).alloc (.cells #[.int .u8 tk, .string tx, .int .i64 tw, .int .i64 tp] 69))
      have N1 := Lib.hid (Own.new w1 69 #[.int .u8 tk, .string tx, .int .i64 tw, .int .i64 tp])
      have hz := Lib.hid hb.size
      clear hb
      go_wp2_with fail
      go_at_call 62
      refine (p_take_ok (A1.out.rd HR.out) ⟨#[123]⟩ (by decide) H1.out).mono ?_
      rintro e w2 ⟨rfl, hf2, hR2⟩
      have A2 := Lib.hid (A1.out.call hf2 hR2)
      have N2 := N1.out.fr hf2 (by have := hX.out; have := hz.out; omega)
      clear hf2 hR2
      go_wp2_with (first | (refine ld rowTok rfl rfl rfl N2 rfl ?_) | (go_at_call 39; refine (HQ.out _).mono ?_; rintro e w3 ⟨rfl, hb⟩; have HC := Lib.hid hb; clear hb))
      refine ⟨rfl, A2.out.fr.trans (.of_below HC.out), ?_⟩
      rw [← HP.out]
    · rw [if_neg hd]
      have hd' : d ≤ 64 := by omega
      clear h1 hd
      go_enter Tryd.func71, Tryd.ntmps71
      go_wp2_with fail
      go_at_call 40
      refine (HN.out _ HR.out).mono ?_
      rintro e w1 ⟨rfl, hb⟩
      have A1 := Lib.hid (((At.start HR.out).below hb).alloc (.cells #[.int .u8 tk, .string tx, .int .i64 tw, .int .i64 tp] 69))
      clear hb
      go_wp2_with fail
      go_at_call 62
      refine (p_take_ok (A1.out.rd HR.out) ⟨#[123]⟩ (by decide) H1.out).mono ?_
      rintro e w2 ⟨rfl, hf2, hR2⟩
      have A2 := Lib.hid (A1.out.call hf2 hR2)
      clear hf2 hR2
      go_wp2_with fail
      go_end0
      exact ⟨A2.out.fr, _, k + 1, rfl, rfl, A2.out.rd HR.out, rfl⟩
  · have h1' : isT [123] (c.at k) = false := by simpa using h1
    rw [if_neg h1]
    simp only [PR.then_bad]
    have H1 := Lib.hid h1'
    clear h1 h1'
    go_enter Tryd.func71, Tryd.ntmps71
    go_wp2_with fail
    go_at_call 40
    refine (HN.out _ HR.out).mono ?_
    rintro e w1 ⟨rfl, hb⟩
    have A1 := Lib.hid (((At.start HR.out).below hb).alloc (.cells #[.int .u8 tk, .string tx, .int .i64 tw, .int .i64 tp] 69))
    clear hb
    go_wp2_with fail
    go_at_call 62
    refine (p_take_bad (A1.out.rd HR.out) ⟨#[123]⟩ (by decide) H1.out).mono ?_
    rintro e w2 ⟨rfl, hf2⟩
    have A2 := Lib.hid (A1.out.fr.trans hf2)
    clear hf2
    go_wp2_with fail
    exact ⟨rfl, A2.out, rfl⟩
end Go.Proofs.YtgaibdipecngkaaDoor

namespace Go.Proofs.YtgaibdipecngkaaDoor
open Go.RowKit
set_option linter.unusedVariables false
theorem at_step {c : Par} {k : Nat} (h : k < c.toks.length) : (c.at (k + 1)).length < (c.at k).length := by rw [at_nx h]; simp
/-- A block with its braces. -/
def blkP (L : Int) (m : Nat) (d : Int) (ts : List Tk) : PR (List St) := (openP L d ts).then fun _ r => restP fnd L m d [] r
theorem blkP_short {L : Int} {m : Nat} {d : Int} {ts : List Tk} {l : List St} {r : List Tk} (h : blkP L m d ts = .ok l r) : r.length < ts.length := by
  obtain ⟨u, q, h1, h2⟩ := PR.then_eq_ok h
  have := open_short h1
  have := restP_short h2
  omega
theorem blk_then {L : Int} {m : Nat} {d : Int} {β : Type} (ts : List Tk) (f : List St → List Tk → PR β) (_ : Unit) (_ : Unit) : ((openP L d ts).then fun _ r => (restP fnd L m d [] r).then f) = (blkP L m d ts).then f := by
  unfold blkP
  cases openP L d ts <;> rfl
/-- The contract of block. -/
def BlkC (m : Nat) : Prop := ∀ (c : Par) (w : World) (k : Nat) (d : Int), Rd c w k → 0 ≤ d → d ≤ 65 → 3 * (c.at k).length + 2 ≤ m →
  Calls Tryd.prog 59 #[c.ptr, .int .i64 d] w (RdPost c w (blkP c.L m d (c.at k)) (fun l v w' => stsVal w.heap.size l v w'))

set_option maxRecDepth 100000 in
set_option maxHeartbeats 4000000 in
theorem m_print {m : Nat} {c : Par} {w : World} {k : Nat} (R : Rd c w k) (t : Tk) (d : Int) (hd0 : 0 ≤ d) (hd1 : d ≤ 64) (hm : 3 * (c.at k).length + 3 ≤ m) :
    Calls Tryd.prog 35 #[c.ptr, tkV t, .int .i64 d] w (RdPost c w ((binE fnd c.L m 1 0 (c.at k)).then fun e r => (need c.L [59] r).then fun _ r => .ok (St.mk 6 ⟨#[]⟩ ⟨#[]⟩ [e] [] [] t.pos) r) (fun s v w' => s.pos = t.pos ∧ stR w.heap.size 0 s v w')) := by
  obtain ⟨tk, tx, tw, tp⟩ := t
  obtain ⟨Y, hY⟩ : ∃ Y, Y = (binE fnd c.L m 1 0 (c.at k)).then fun e r => (need c.L [59] r).then fun _ r => .ok (St.mk 6 ⟨#[]⟩ ⟨#[]⟩ [e] [] [] tp) r := ⟨_, rfl⟩
  have HS := Lib.hid hY
  change Calls _ _ _ _ (RdPost c w ((binE fnd c.L m 1 0 (c.at k)).then fun e r => (need c.L [59] r).then fun _ r => .ok (St.mk 6 ⟨#[]⟩ ⟨#[]⟩ [e] [] [] tp) r) _)
  rw [← hY]
  have HR := Lib.hid R
  have hX := Lib.hid R.lt
  have HM := Lib.hid hm
  have G := Lib.hid (StG.start R ⟨tk, tx, tw, tp⟩ #[.int .u8 6, .string ⟨#[]⟩, .string ⟨#[]⟩, .slice none 0 0, .slice none 0 0, .slice none 0 0, .int .i64 0])
  clear hY R hm
  unfold tkV Par.ptr zSt at *
  go_enter Tryd.func35, Tryd.ntmps35
  go_wp2_with fail
  obtain ⟨Z1, hZ1⟩ : ∃ Z1, Z1 = binE fnd c.L m 1 0 (c.at k) := ⟨_, rfl⟩
  have HC1 : Hid (∀ W, Rd c W k → Calls Tryd.prog 61 #[.pointer (some ⟨c.X, 0, none⟩)] W (RdPost c W Z1 (fun e v w' => exsVal W.heap.size [e] v w'))) := fun W RW => by rw [hZ1]; exact p_value RW (by have := HM.out; skip; omega)
  have HSH1 : Hid (∀ e r, Z1 = .ok e r → r.length < (c.at k).length) := fun e r h => binE_short (hZ1.symm.trans h)
  have HS : Hid (Y = Z1.then fun e r => (need c.L [59] r).then fun _ r => .ok (St.mk 6 ⟨#[]⟩ ⟨#[]⟩ [e] [] [] tp) r) := by first | (rw [Hid, HS.out, hZ1]; done) | (rw [Hid, HS.out, hZ1]; rfl) | (rw [Hid, HS.out, hZ1]; unfold parenP; rfl)
  clear hZ1
  go_at_call 61
  refine (HC1.out _ (G.out.run.rd HR.out)).mono ?_
  rintro e w1 ⟨hf1, hm1⟩
  rcases Z1 with ⟨e1, r1⟩ | ⟨p, q⟩
  rotate_left
  · obtain rfl := hm1
    have HS2 := HS
    have AZ := Lib.hid (G.out.run.fr.trans hf1)
    clear hf1
    go_wp2_with fail
    refine ⟨rfl, ?_⟩
    rw [HS2.out]
    exact ⟨AZ.out, rfl⟩
  obtain ⟨v1, j1, rfl, ⟨a1, cap1, rfl, hV1⟩, hR1, rfl⟩ := hm1
  have HS : Hid (Y = (need c.L [59] (c.at j1)).then fun _ r => .ok (St.mk 6 ⟨#[]⟩ ⟨#[]⟩ [e1] [] [] tp) r) := HS.out
  have HL1 := Lib.hid (HSH1.out _ _ rfl)
  have V1 : Hid (exsAt (fun b => w.heap.size + 1 + 1 + 1 ≤ b) w1 [e1] a1) := Lib.hid (exsAt_mono hV1 (fun b hb => by have := G.out.st.lt; change _ ≤ _ at hb; omega))
  have G := Lib.hid (G.out.call hf1 hR1 hX.out)
  clear hf1 hR1 hV1
  have c3 := G.out.cell (i := 3) (v := .slice none 0 0) rfl
  have z3 := G.out.frozen 3
  go_wp2_with fail
  rw [show w1.setCell ⟨w.heap.size + 1 + 1, 3, none⟩ (.slice a1 1 cap1) = w1.setRow (w.heap.size + 1 + 1) #[.int .u8 6, .string ⟨#[]⟩, .string ⟨#[]⟩, .slice a1 1 cap1, .slice none 0 0, .slice none 0 0, .int .i64 0] from setCell_row G.out.st 3 _]
  have V1 := Lib.hid (exsAt_row V1.out #[.int .u8 6, .string ⟨#[]⟩, .string ⟨#[]⟩, .slice a1 1 cap1, .slice none 0 0, .slice none 0 0, .int .i64 0] (g := w.heap.size + 1 + 1) (by omega))
  have G := Lib.hid (G.out.row #[.int .u8 6, .string ⟨#[]⟩, .string ⟨#[]⟩, .slice a1 1 cap1, .slice none 0 0, .slice none 0 0, .int .i64 0] hX.out)
  clear c3 z3
  by_cases q2 : isT [59] (c.at (j1)) = true
  rotate_left
  · have q2' : isT [59] (c.at (j1)) = false := by simpa using q2
    go_at_call 62
    refine (p_take_bad (G.out.run.rd HR.out) ⟨#[59]⟩ (by decide) q2').mono ?_
    rintro e w2 ⟨rfl, hf2⟩
    have HS2 := HS.out
    rw [need_at, q2'] at HS2
    have HS2 := Lib.hid HS2
    clear q2 q2'
    have AZ := Lib.hid (G.out.run.fr.trans hf2)
    clear hf2
    go_wp2_with fail
    refine ⟨rfl, ?_⟩
    rw [HS2.out]
    exact ⟨AZ.out, rfl⟩
  go_at_call 62
  refine (p_take_ok (G.out.run.rd HR.out) ⟨#[59]⟩ (by decide) q2).mono ?_
  rintro e w2 ⟨rfl, hf2, hR2⟩
  have HS2 := HS.out
  rw [need_at, if_pos q2] at HS2
  have HS : Hid (Y = .ok (St.mk 6 ⟨#[]⟩ ⟨#[]⟩ [e1] [] [] tp) (c.at (j1 + 1))) := HS2
  have HL2 := Lib.hid (at_step (Par.isT_lt q2))
  have V1 := Lib.hid (exsAt_call V1.out hf2 (by have := hX.out; omega))
  have G := Lib.hid (G.out.call hf2 hR2 hX.out)
  clear HS2 q2 hf2 hR2
  obtain ⟨WE, hWE⟩ : ∃ WE, Hid (WE = w2) := ⟨_, rfl⟩
  rw [← hWE.out]
  rw [← hWE.out] at G V1
  have OS := G.out.st
  have OR := G.out.res
  go_wp2_with (first | (refine ld rowSt rfl rfl rfl OS rfl ?_) | (refine st rowSt rfl rfl OR rfl rfl (by rfl) (by rfl) (by kernel_rfl) ?_))
  have hx := hX.out
  have AE := G.out.run.setRow (g := w.heap.size + 1) (by omega) (by omega) #[.int .u8 6, .string ⟨#[]⟩, .string ⟨#[]⟩, .slice a1 1 cap1, .slice none 0 0, .slice none 0 0, .int .i64 0]
  refine p_ret rowSt rfl (OR.row #[.int .u8 6, .string ⟨#[]⟩, .string ⟨#[]⟩, .slice a1 1 cap1, .slice none 0 0, .slice none 0 0, .int .i64 0]) rfl rfl rfl ?_
  rw [HS.out]
  exact ⟨AE.fr, _, (j1 + 1), rfl, ⟨rfl, _, _, _, _, _, _, rfl, exsAt_mono (exsAt_row V1.out _ (g := w.heap.size + 1) (by omega)) (fun b hb => by omega), .inl rfl, .inl rfl⟩, AE.rd HR.out, rfl⟩
set_option maxRecDepth 100000 in
set_option maxHeartbeats 4000000 in
theorem m_skip {m : Nat} {c : Par} {w : World} {k : Nat} (R : Rd c w k) (t : Tk) (d : Int) :
    Calls Tryd.prog 36 #[c.ptr, tkV t, .int .i64 d] w (RdPost c w ((need c.L [59] (c.at k)).then fun _ r => .ok (St.mk 7 ⟨#[]⟩ ⟨#[]⟩ [] [] [] t.pos) r) (fun s v w' => s.pos = t.pos ∧ stR w.heap.size 0 s v w')) := by
  obtain ⟨tk, tx, tw, tp⟩ := t
  rw [need_at]
  have HR := Lib.hid R
  have hX := Lib.hid R.lt
  have A0 := Lib.hid (((At.start R).alloc (.cells #[.int .u8 tk, .string tx, .int .i64 tw, .int .i64 tp] 69)).alloc (.cells zSt 61))
  have O0 := Own.new (w.alloc (.cells #[.int .u8 tk, .string tx, .int .i64 tw, .int .i64 tp] 69)) 61 zSt
  rw [World.size_alloc] at O0
  have O0 := Lib.hid O0
  by_cases h1 : isT [59] (c.at k) = true
  · rw [if_pos h1]
    simp only [PR.then_ok]
    have H1 := Lib.hid h1
    clear h1 R
    unfold tkV Par.ptr zSt at *
    go_enter Tryd.func36, Tryd.ntmps36
    go_wp2_with fail
    go_at_call 62
    refine (p_take_ok (A0.out.rd HR.out) ⟨#[59]⟩ (by decide) H1.out).mono ?_
    rintro e w1 ⟨rfl, hf1, hR1⟩
    have hx := hX.out
    have A1 := Lib.hid (A0.out.call hf1 hR1)
    have O1 := O0.out.fr hf1 (by omega)
    clear hf1 hR1 hx O0
    go_wp2_with (first | (refine st rowSt rfl rfl O1 rfl rfl (by rfl) (by rfl) (by kernel_rfl) ?_))
    have hx := hX.out
    have A2 := A1.out.setRow (g := w.heap.size + 1) (by omega) (by omega) #[.int .u8 7, .string ⟨#[]⟩, .string ⟨#[]⟩, .slice none 0 0, .slice none 0 0, .slice none 0 0, .int .i64 0]
    exact p_ret rowSt rfl (O1.row #[.int .u8 7, .string ⟨#[]⟩, .string ⟨#[]⟩, .slice none 0 0, .slice none 0 0, .slice none 0 0, .int .i64 0]) rfl rfl rfl ⟨A2.fr, _, k + 1, rfl, ⟨rfl, none, 0, none, 0, none, 0, rfl, .inl rfl, .inl rfl, .inl rfl⟩, A2.rd HR.out, rfl⟩
  · have h1' : isT [59] (c.at k) = false := by simpa using h1
    rw [if_neg h1]
    simp only [PR.then_bad]
    have H1 := Lib.hid h1'
    clear h1 h1' R
    unfold tkV Par.ptr zSt at *
    go_enter Tryd.func36, Tryd.ntmps36
    go_wp2_with fail
    go_at_call 62
    refine (p_take_bad (A0.out.rd HR.out) ⟨#[59]⟩ (by decide) H1.out).mono ?_
    rintro e w1 ⟨rfl, hf1⟩
    have A1 := Lib.hid (A0.out.fr.trans hf1)
    clear hf1
    go_wp2_with fail
    exact ⟨rfl, A1.out, rfl⟩
/-- An expression in parentheses, alone in a list. -/
theorem p_condition {c : Par} {w : World} {k n : Nat} (R : Rd c w k) (hn : 3 * (c.at k).length + 2 ≤ n) :
    Calls Tryd.prog 58 #[c.ptr] w (RdPost c w (parenP fnd c.L n (c.at k)) (fun e v w' => exsVal w.heap.size [e] v w')) := by
  obtain ⟨Y, hY⟩ : ∃ Y, Y = parenP fnd c.L n (c.at k) := ⟨_, rfl⟩
  have HS := Lib.hid hY
  change Calls _ _ _ _ (RdPost c w (parenP fnd c.L n (c.at k)) _)
  rw [← hY]
  have HR := Lib.hid R
  have hX := Lib.hid R.lt
  have HM := Lib.hid hn
  clear hY R hn
  unfold Par.ptr at *
  have A0 := Lib.hid (At.start HR.out)
  go_enter Tryd.func58, Tryd.ntmps58
  go_wp2_with fail
  by_cases q1 : isT [40] (c.at k) = true; rotate_left
  · have q1' : isT [40] (c.at k) = false := by simpa using q1
    go_at_call 62
    refine (p_take_bad HR.out ⟨#[40]⟩ (by decide) q1').mono ?_
    rintro e w1 ⟨rfl, hf1⟩
    have HS2 := HS.out
    unfold parenP at HS2
    rw [need_at, q1'] at HS2
    have HS2 := Lib.hid HS2
    have AZ := Lib.hid hf1
    clear hf1 q1 q1'
    go_wp2_with fail
    refine ⟨rfl, ?_⟩
    rw [HS2.out]
    exact ⟨AZ.out, rfl⟩
  go_at_call 62
  refine (p_take_ok HR.out ⟨#[40]⟩ (by decide) q1).mono ?_
  rintro e w1 ⟨rfl, hf1, hR1⟩
  have HS2 := HS.out
  unfold parenP at HS2
  rw [need_at, if_pos q1] at HS2
  obtain ⟨Z, hZ⟩ : ∃ Z, Z = binE fnd c.L n 1 0 (c.at (k + 1)) := ⟨_, rfl⟩
  have HC : Hid (∀ W, Rd c W (k + 1) → Calls Tryd.prog 61 #[.pointer (some ⟨c.X, 0, none⟩)] W (RdPost c W Z (fun e v w' => exsVal W.heap.size [e] v w'))) := fun W RW => by rw [hZ]; exact p_value RW (by have := HM.out; have := at_step (Par.isT_lt q1); omega)
  have HS : Hid (Y = Z.then fun e r => (need c.L [41] r).then fun _ r => .ok e r) := by rw [Hid, HS2, hZ]; rfl
  have A1 := Lib.hid (A0.out.call hf1 hR1)
  clear HS2 q1 hf1 hR1 hZ
  go_wp2_with fail
  go_at_call 61
  refine (HC.out _ (A1.out.rd HR.out)).mono ?_
  rintro e w2 ⟨hf2, hm2⟩
  rcases Z with ⟨e2, r2⟩ | ⟨p, q⟩; rotate_left
  · obtain rfl := hm2
    have AZ := Lib.hid (A1.out.fr.trans hf2)
    clear hf2
    go_wp2_with fail
    refine ⟨rfl, ?_⟩
    rw [HS.out]
    exact ⟨AZ.out, rfl⟩
  obtain ⟨v2, j2, rfl, ⟨a2, cap2, rfl, hV2⟩, hR2, rfl⟩ := hm2
  have HS : Hid (Y = (need c.L [41] (c.at j2)).then fun _ r => .ok e2 r) := HS.out
  have V2 : Hid (exsAt (fun b => w.heap.size ≤ b) w2 [e2] a2) := Lib.hid (exsAt_mono hV2 (fun b hb => by have := A1.out.fr.size; change _ ≤ _ at hb; omega))
  have A2 := Lib.hid (A1.out.call hf2 hR2)
  clear hf2 hR2 hV2
  go_wp2_with fail
  by_cases q3 : isT [41] (c.at j2) = true; rotate_left
  · have q3' : isT [41] (c.at j2) = false := by simpa using q3
    go_at_call 62
    refine (p_take_bad (A2.out.rd HR.out) ⟨#[41]⟩ (by decide) q3').mono ?_
    rintro e w3 ⟨rfl, hf3⟩
    have HS2 := HS.out
    rw [need_at, q3'] at HS2
    have HS2 := Lib.hid HS2
    have AZ := Lib.hid (A2.out.fr.trans hf3)
    clear hf3 q3 q3'
    go_wp2_with fail
    refine ⟨rfl, ?_⟩
    rw [HS2.out]
    exact ⟨AZ.out, rfl⟩
  go_at_call 62
  refine (p_take_ok (A2.out.rd HR.out) ⟨#[41]⟩ (by decide) q3).mono ?_
  rintro e w3 ⟨rfl, hf3, hR3⟩
  have HS2 := HS.out
  rw [need_at, if_pos q3] at HS2
  have HS2 := Lib.hid HS2
  have V3 := Lib.hid (exsAt_call V2.out hf3 hX.out)
  have A3 := Lib.hid (A2.out.call hf3 hR3)
  clear hf3 hR3 q3
  go_wp2_with fail
  go_ret
  rw [HS2.out]
  exact ⟨A3.out.fr, _, _, rfl, ⟨_, _, rfl, V3.out⟩, A3.out.rd HR.out, rfl⟩

set_option maxRecDepth 100000 in
set_option maxHeartbeats 4000000 in
theorem m_loop {m : Nat} (HB : BlkC m) {c : Par} {w : World} {k : Nat} (R : Rd c w k) (t : Tk) (d : Int) (hd0 : 0 ≤ d) (hd1 : d ≤ 64) (hm : 3 * (c.at k).length + 3 ≤ m) :
    Calls Tryd.prog 33 #[c.ptr, tkV t, .int .i64 d] w (RdPost c w ((parenP fnd c.L m (c.at k)).then fun e r => (blkP c.L m (d + 1) r).then fun b r => .ok (St.mk 4 ⟨#[]⟩ ⟨#[]⟩ [e] b [] t.pos) r) (fun s v w' => s.pos = t.pos ∧ stR w.heap.size 0 s v w')) := by
  obtain ⟨tk, tx, tw, tp⟩ := t
  obtain ⟨Y, hY⟩ : ∃ Y, Y = (parenP fnd c.L m (c.at k)).then fun e r => (blkP c.L m (d + 1) r).then fun b r => .ok (St.mk 4 ⟨#[]⟩ ⟨#[]⟩ [e] b [] tp) r := ⟨_, rfl⟩
  have HS := Lib.hid hY
  change Calls _ _ _ _ (RdPost c w ((parenP fnd c.L m (c.at k)).then fun e r => (blkP c.L m (d + 1) r).then fun b r => .ok (St.mk 4 ⟨#[]⟩ ⟨#[]⟩ [e] b [] tp) r) _)
  rw [← hY]
  have HR := Lib.hid R
  have hX := Lib.hid R.lt
  have HM := Lib.hid hm
  have HB := Lib.hid HB
  have G := Lib.hid (StG.start R ⟨tk, tx, tw, tp⟩ #[.int .u8 4, .string ⟨#[]⟩, .string ⟨#[]⟩, .slice none 0 0, .slice none 0 0, .slice none 0 0, .int .i64 0])
  clear hY R hm
  unfold tkV Par.ptr zSt at *
  go_enter Tryd.func33, Tryd.ntmps33
  go_wp2_with fail
  obtain ⟨Z1, hZ1⟩ : ∃ Z1, Z1 = parenP fnd c.L m (c.at k) := ⟨_, rfl⟩
  have HC1 : Hid (∀ W, Rd c W k → Calls Tryd.prog 58 #[.pointer (some ⟨c.X, 0, none⟩)] W (RdPost c W Z1 (fun e v w' => exsVal W.heap.size [e] v w'))) := fun W RW => by rw [hZ1]; exact p_condition RW (by have := HM.out; skip; omega)
  have HSH1 : Hid (∀ e r, Z1 = .ok e r → r.length < (c.at k).length) := fun e r h => paren_short (hZ1.symm.trans h)
  have HS : Hid (Y = Z1.then fun e r => (blkP c.L m (d + 1) r).then fun b r => .ok (St.mk 4 ⟨#[]⟩ ⟨#[]⟩ [e] b [] tp) r) := by first | (rw [Hid, HS.out, hZ1]; done) | (rw [Hid, HS.out, hZ1]; rfl) | (rw [Hid, HS.out, hZ1]; unfold parenP; rfl)
  clear hZ1
  go_at_call 58
  refine (HC1.out _ (G.out.run.rd HR.out)).mono ?_
  rintro e w1 ⟨hf1, hm1⟩
  rcases Z1 with ⟨e1, r1⟩ | ⟨p, q⟩
  rotate_left
  · obtain rfl := hm1
    have HS2 := HS
    have AZ := Lib.hid (G.out.run.fr.trans hf1)
    clear hf1
    go_wp2_with fail
    refine ⟨rfl, ?_⟩
    rw [HS2.out]
    exact ⟨AZ.out, rfl⟩
  obtain ⟨v1, j1, rfl, ⟨a1, cap1, rfl, hV1⟩, hR1, rfl⟩ := hm1
  have HS : Hid (Y = (blkP c.L m (d + 1) (c.at j1)).then fun b r => .ok (St.mk 4 ⟨#[]⟩ ⟨#[]⟩ [e1] b [] tp) r) := HS.out
  have HL1 := Lib.hid (HSH1.out _ _ rfl)
  have V1 : Hid (exsAt (fun b => w.heap.size + 1 + 1 + 1 ≤ b) w1 [e1] a1) := Lib.hid (exsAt_mono hV1 (fun b hb => by have := G.out.st.lt; change _ ≤ _ at hb; omega))
  have G := Lib.hid (G.out.call hf1 hR1 hX.out)
  clear hf1 hR1 hV1
  have c3 := G.out.cell (i := 3) (v := .slice none 0 0) rfl
  have z3 := G.out.frozen 3
  go_wp2_with fail
  rw [show w1.setCell ⟨w.heap.size + 1 + 1, 3, none⟩ (.slice a1 1 cap1) = w1.setRow (w.heap.size + 1 + 1) #[.int .u8 4, .string ⟨#[]⟩, .string ⟨#[]⟩, .slice a1 1 cap1, .slice none 0 0, .slice none 0 0, .int .i64 0] from setCell_row G.out.st 3 _]
  have V1 := Lib.hid (exsAt_row V1.out #[.int .u8 4, .string ⟨#[]⟩, .string ⟨#[]⟩, .slice a1 1 cap1, .slice none 0 0, .slice none 0 0, .int .i64 0] (g := w.heap.size + 1 + 1) (by omega))
  have G := Lib.hid (G.out.row #[.int .u8 4, .string ⟨#[]⟩, .string ⟨#[]⟩, .slice a1 1 cap1, .slice none 0 0, .slice none 0 0, .int .i64 0] hX.out)
  clear c3 z3
  obtain ⟨Z2, hZ2⟩ : ∃ Z2, Z2 = blkP c.L m (d + 1) (c.at j1) := ⟨_, rfl⟩
  have HC2 : Hid (∀ W, Rd c W j1 → Calls Tryd.prog 59 #[.pointer (some ⟨c.X, 0, none⟩), .int .i64 (d + 1)] W (RdPost c W Z2 (fun l v w' => stsVal W.heap.size l v w'))) := fun W RW => by rw [hZ2]; exact HB.out c W j1 (d + 1) RW (by omega) (by omega) (by have := HM.out; have := HL1.out; omega)
  have HSH2 : Hid (∀ e r, Z2 = .ok e r → r.length < (c.at j1).length) := fun e r h => blkP_short (hZ2.symm.trans h)
  have HS : Hid (Y = Z2.then fun b r => .ok (St.mk 4 ⟨#[]⟩ ⟨#[]⟩ [e1] b [] tp) r) := by first | (rw [Hid, HS.out, hZ2]; done) | (rw [Hid, HS.out, hZ2]; exact blk_then _ _ () ())
  clear hZ2
  go_at_call 59
  refine (HC2.out _ (G.out.run.rd HR.out)).mono ?_
  rintro e w2 ⟨hf2, hm2⟩
  rcases Z2 with ⟨e2, r2⟩ | ⟨p, q⟩
  rotate_left
  · obtain rfl := hm2
    have HS2 := HS
    have AZ := Lib.hid (G.out.run.fr.trans hf2)
    clear hf2
    go_wp2_with fail
    refine ⟨rfl, ?_⟩
    rw [HS2.out]
    exact ⟨AZ.out, rfl⟩
  obtain ⟨v2, j2, rfl, ⟨a2, cap2, rfl, hV2⟩, hR2, rfl⟩ := hm2
  have HS : Hid (Y = .ok (St.mk 4 ⟨#[]⟩ ⟨#[]⟩ [e1] e2 [] tp) (c.at j2)) := HS.out
  have HL2 := Lib.hid (HSH2.out _ _ rfl)
  have V2 : Hid (stsAt (fun b => w.heap.size + 1 + 1 + 1 ≤ b) w2 e2 a2) := Lib.hid (stsAt_mono hV2 (fun b hb => by have := G.out.st.lt; change _ ≤ _ at hb; omega))
  have V1 := Lib.hid (exsAt_call V1.out hf2 (by have := hX.out; omega))
  have G := Lib.hid (G.out.call hf2 hR2 hX.out)
  clear hf2 hR2 hV2
  have C4 := Lib.hid (G.out.cell (i := 4) (v := .slice none 0 0) rfl)
  have Z4 := Lib.hid (G.out.frozen 4)
  have E5 : w2.setCell ⟨w.heap.size + 1 + 1, 4, none⟩ (.slice a2 e2.length cap2) = w2.setRow (w.heap.size + 1 + 1) #[.int .u8 4, .string ⟨#[]⟩, .string ⟨#[]⟩, .slice a1 1 cap1, .slice a2 e2.length cap2, .slice none 0 0, .int .i64 0] := setCell_row G.out.st 4 (.slice a2 e2.length cap2)
  have V1 := Lib.hid (exsAt_row V1.out #[.int .u8 4, .string ⟨#[]⟩, .string ⟨#[]⟩, .slice a1 1 cap1, .slice a2 e2.length cap2, .slice none 0 0, .int .i64 0] (g := w.heap.size + 1 + 1) (by omega))
  have V2 := Lib.hid (stsAt_row V2.out #[.int .u8 4, .string ⟨#[]⟩, .string ⟨#[]⟩, .slice a1 1 cap1, .slice a2 e2.length cap2, .slice none 0 0, .int .i64 0] (g := w.heap.size + 1 + 1) (by omega))
  have G := Lib.hid (G.out.row #[.int .u8 4, .string ⟨#[]⟩, .string ⟨#[]⟩, .slice a1 1 cap1, .slice a2 e2.length cap2, .slice none 0 0, .int .i64 0] hX.out)
  have OS := G.out.st
  have OR := G.out.res
  have C4 := C4.out
  have Z4 := Z4.out
  unfold zSt at OR
  go_wp2_with (first | (refine ld rowSt rfl rfl rfl OS rfl ?_) | (refine st rowSt rfl rfl OR rfl rfl (by rfl) (by rfl) (by kernel_rfl) ?_))
  clear C4 Z4 E5
  have hx := hX.out
  have AE := G.out.run.setRow (g := w.heap.size + 1) (by omega) (by omega) #[.int .u8 4, .string ⟨#[]⟩, .string ⟨#[]⟩, .slice a1 1 cap1, .slice a2 e2.length cap2, .slice none 0 0, .int .i64 0]
  refine p_ret rowSt rfl (OR.row #[.int .u8 4, .string ⟨#[]⟩, .string ⟨#[]⟩, .slice a1 1 cap1, .slice a2 e2.length cap2, .slice none 0 0, .int .i64 0]) rfl rfl rfl ?_
  rw [HS.out]
  exact ⟨AE.fr, _, j2, rfl, ⟨rfl, _, _, _, _, _, _, rfl, exsAt_mono (exsAt_row V1.out _ (g := w.heap.size + 1) (by omega)) (fun b hb => by omega), stsAt_mono (stsAt_row V2.out _ (g := w.heap.size + 1) (by omega)) (fun b hb => by omega), .inl rfl⟩, AE.rd HR.out, rfl⟩
set_option maxRecDepth 100000 in
set_option maxHeartbeats 4000000 in
theorem m_guard {m : Nat} (HB : BlkC m) {c : Par} {w : World} {k : Nat} (R : Rd c w k) (t : Tk) (d : Int) (hd0 : 0 ≤ d) (hd1 : d ≤ 64) (hm : 3 * (c.at k).length + 3 ≤ m) :
    Calls Tryd.prog 34 #[c.ptr, tkV t, .int .i64 d] w (RdPost c w ((nameP c.L (c.at k)).then fun o r => (blkP c.L m (d + 1) r).then fun b r => .ok (St.mk 5 o.name ⟨#[]⟩ [] b [] t.pos) r) (fun s v w' => s.pos = t.pos ∧ stR w.heap.size 0 s v w')) := by
  obtain ⟨tk, tx, tw, tp⟩ := t
  obtain ⟨Y, hY⟩ : ∃ Y, Y = (nameP c.L (c.at k)).then fun o r => (blkP c.L m (d + 1) r).then fun b r => .ok (St.mk 5 o.name ⟨#[]⟩ [] b [] tp) r := ⟨_, rfl⟩
  have HS := Lib.hid hY
  change Calls _ _ _ _ (RdPost c w ((nameP c.L (c.at k)).then fun o r => (blkP c.L m (d + 1) r).then fun b r => .ok (St.mk 5 o.name ⟨#[]⟩ [] b [] tp) r) _)
  rw [← hY]
  have HR := Lib.hid R
  have hX := Lib.hid R.lt
  have HM := Lib.hid hm
  have HB := Lib.hid HB
  have G := Lib.hid (StG.start R ⟨tk, tx, tw, tp⟩ #[.int .u8 5, .string ⟨#[]⟩, .string ⟨#[]⟩, .slice none 0 0, .slice none 0 0, .slice none 0 0, .int .i64 0])
  clear hY R hm
  unfold tkV Par.ptr zSt at *
  go_enter Tryd.func34, Tryd.ntmps34
  go_wp2_with fail
  by_cases q1 : (c.nx k).kind = 1
  rotate_left
  · go_at_call 60
    refine (p_kind_bad (G.out.run.rd HR.out) 1 q1).mono ?_
    rintro e w1 ⟨rfl, hf1⟩
    have HS2 := HS.out
    rw [nameP_at, if_neg q1] at HS2
    have HS2 := Lib.hid HS2
    clear q1
    have AZ := Lib.hid (G.out.run.fr.trans hf1)
    clear hf1
    go_wp2_with fail
    refine ⟨rfl, ?_⟩
    rw [HS2.out]
    exact ⟨AZ.out, rfl⟩
  have HK1 := Lib.hid (p_kind_ok (G.out.run.rd HR.out) 1 q1 (nx_lt (.inl (by rw [q1]; decide))))
  obtain ⟨t1, ht1⟩ : ∃ t, t = c.nx k := ⟨_, rfl⟩
  have HS2 := HS.out
  rw [nameP_at, if_pos q1, ← ht1] at HS2
  have HL1 := Lib.hid (at_step (c := c) (k := k) (nx_lt (.inl (by rw [q1]; decide))))
  rw [← ht1] at HK1
  have HS : Hid (Y = (blkP c.L m (d + 1) (c.at (k + 1))).then fun b r => .ok (St.mk 5 t1.text ⟨#[]⟩ [] b [] tp) r) := HS2
  clear q1 ht1 HS2
  obtain ⟨nk1, nm1, nw1, np1⟩ := t1
  unfold tkV Par.ptr at HK1
  go_at_call 60
  refine (HK1.out).mono ?_
  rintro e w1 ⟨rfl, hf1, hR1⟩
  have G := Lib.hid (G.out.call hf1 hR1 hX.out)
  clear hf1 hR1
  have c1 := G.out.cell (i := 1) (v := .string ⟨#[]⟩) rfl
  have z1 := G.out.frozen 1
  have F1 := tok_f1
  go_wp2_with fail
  rw [show w1.setCell ⟨w.heap.size + 1 + 1, 1, none⟩ (.string nm1) = w1.setRow (w.heap.size + 1 + 1) #[.int .u8 5, .string nm1, .string ⟨#[]⟩, .slice none 0 0, .slice none 0 0, .slice none 0 0, .int .i64 0] from setCell_row G.out.st 1 _]
  have G := Lib.hid (G.out.row #[.int .u8 5, .string nm1, .string ⟨#[]⟩, .slice none 0 0, .slice none 0 0, .slice none 0 0, .int .i64 0] hX.out)
  clear c1 z1
  clear F1
  obtain ⟨Z2, hZ2⟩ : ∃ Z2, Z2 = blkP c.L m (d + 1) (c.at (k + 1)) := ⟨_, rfl⟩
  have HC2 : Hid (∀ W, Rd c W (k + 1) → Calls Tryd.prog 59 #[.pointer (some ⟨c.X, 0, none⟩), .int .i64 (d + 1)] W (RdPost c W Z2 (fun l v w' => stsVal W.heap.size l v w'))) := fun W RW => by rw [hZ2]; exact HB.out c W (k + 1) (d + 1) RW (by omega) (by omega) (by have := HM.out; have := HL1.out; omega)
  have HSH2 : Hid (∀ e r, Z2 = .ok e r → r.length < (c.at (k + 1)).length) := fun e r h => blkP_short (hZ2.symm.trans h)
  have HS : Hid (Y = Z2.then fun b r => .ok (St.mk 5 nm1 ⟨#[]⟩ [] b [] tp) r) := by first | (rw [Hid, HS.out, hZ2]; done) | (rw [Hid, HS.out, hZ2]; exact blk_then _ _ () ())
  clear hZ2
  go_at_call 59
  refine (HC2.out _ (G.out.run.rd HR.out)).mono ?_
  rintro e w2 ⟨hf2, hm2⟩
  rcases Z2 with ⟨e2, r2⟩ | ⟨p, q⟩
  rotate_left
  · obtain rfl := hm2
    have HS2 := HS
    have AZ := Lib.hid (G.out.run.fr.trans hf2)
    clear hf2
    go_wp2_with fail
    refine ⟨rfl, ?_⟩
    rw [HS2.out]
    exact ⟨AZ.out, rfl⟩
  obtain ⟨v2, j2, rfl, ⟨a2, cap2, rfl, hV2⟩, hR2, rfl⟩ := hm2
  have HS : Hid (Y = .ok (St.mk 5 nm1 ⟨#[]⟩ [] e2 [] tp) (c.at j2)) := HS.out
  have HL2 := Lib.hid (HSH2.out _ _ rfl)
  have V2 : Hid (stsAt (fun b => w.heap.size + 1 + 1 + 1 ≤ b) w2 e2 a2) := Lib.hid (stsAt_mono hV2 (fun b hb => by have := G.out.st.lt; change _ ≤ _ at hb; omega))
  have G := Lib.hid (G.out.call hf2 hR2 hX.out)
  clear hf2 hR2 hV2
  have C4 := Lib.hid (G.out.cell (i := 4) (v := .slice none 0 0) rfl)
  have Z4 := Lib.hid (G.out.frozen 4)
  have E5 : w2.setCell ⟨w.heap.size + 1 + 1, 4, none⟩ (.slice a2 e2.length cap2) = w2.setRow (w.heap.size + 1 + 1) #[.int .u8 5, .string nm1, .string ⟨#[]⟩, .slice none 0 0, .slice a2 e2.length cap2, .slice none 0 0, .int .i64 0] := setCell_row G.out.st 4 (.slice a2 e2.length cap2)
  have V2 := Lib.hid (stsAt_row V2.out #[.int .u8 5, .string nm1, .string ⟨#[]⟩, .slice none 0 0, .slice a2 e2.length cap2, .slice none 0 0, .int .i64 0] (g := w.heap.size + 1 + 1) (by omega))
  have G := Lib.hid (G.out.row #[.int .u8 5, .string nm1, .string ⟨#[]⟩, .slice none 0 0, .slice a2 e2.length cap2, .slice none 0 0, .int .i64 0] hX.out)
  have OS := G.out.st
  have OR := G.out.res
  have C4 := C4.out
  have Z4 := Z4.out
  unfold zSt at OR
  go_wp2_with (first | (refine ld rowSt rfl rfl rfl OS rfl ?_) | (refine st rowSt rfl rfl OR rfl rfl (by rfl) (by rfl) (by kernel_rfl) ?_))
  clear C4 Z4 E5
  have hx := hX.out
  have AE := G.out.run.setRow (g := w.heap.size + 1) (by omega) (by omega) #[.int .u8 5, .string nm1, .string ⟨#[]⟩, .slice none 0 0, .slice a2 e2.length cap2, .slice none 0 0, .int .i64 0]
  refine p_ret rowSt rfl (OR.row #[.int .u8 5, .string nm1, .string ⟨#[]⟩, .slice none 0 0, .slice a2 e2.length cap2, .slice none 0 0, .int .i64 0]) rfl rfl rfl ?_
  rw [HS.out]
  exact ⟨AE.fr, _, j2, rfl, ⟨rfl, _, _, _, _, _, _, rfl, .inl rfl, stsAt_mono (stsAt_row V2.out _ (g := w.heap.size + 1) (by omega)) (fun b hb => by omega), .inl rfl⟩, AE.rd HR.out, rfl⟩
set_option maxRecDepth 100000 in
set_option maxHeartbeats 4000000 in
theorem m_choice {m : Nat} (HB : BlkC m) {c : Par} {w : World} {k : Nat} (R : Rd c w k) (t : Tk) (d : Int) (hd0 : 0 ≤ d) (hd1 : d ≤ 64) (hm : 3 * (c.at k).length + 3 ≤ m) :
    Calls Tryd.prog 32 #[c.ptr, tkV t, .int .i64 d] w (RdPost c w ((parenP fnd c.L m (c.at k)).then fun e r => (blkP c.L m (d + 1) r).then fun b r => if isT [101, 108, 115, 101] r = true then (blkP c.L m (d + 1) r.tail).then fun l r => .ok (St.mk 3 ⟨#[]⟩ ⟨#[]⟩ [e] b l t.pos) r else .ok (St.mk 3 ⟨#[]⟩ ⟨#[]⟩ [e] b [] t.pos) r) (fun s v w' => s.pos = t.pos ∧ stR w.heap.size 0 s v w')) := by
  obtain ⟨tk, tx, tw, tp⟩ := t
  obtain ⟨Y, hY⟩ : ∃ Y, Y = (parenP fnd c.L m (c.at k)).then fun e r => (blkP c.L m (d + 1) r).then fun b r => if isT [101, 108, 115, 101] r = true then (blkP c.L m (d + 1) r.tail).then fun l r => .ok (St.mk 3 ⟨#[]⟩ ⟨#[]⟩ [e] b l tp) r else .ok (St.mk 3 ⟨#[]⟩ ⟨#[]⟩ [e] b [] tp) r := ⟨_, rfl⟩
  have HS := Lib.hid hY
  change Calls _ _ _ _ (RdPost c w ((parenP fnd c.L m (c.at k)).then fun e r => (blkP c.L m (d + 1) r).then fun b r => if isT [101, 108, 115, 101] r = true then (blkP c.L m (d + 1) r.tail).then fun l r => .ok (St.mk 3 ⟨#[]⟩ ⟨#[]⟩ [e] b l tp) r else .ok (St.mk 3 ⟨#[]⟩ ⟨#[]⟩ [e] b [] tp) r) _)
  rw [← hY]
  have HR := Lib.hid R
  have hX := Lib.hid R.lt
  have HM := Lib.hid hm
  have HB := Lib.hid HB
  have G := Lib.hid (StG.start R ⟨tk, tx, tw, tp⟩ #[.int .u8 3, .string ⟨#[]⟩, .string ⟨#[]⟩, .slice none 0 0, .slice none 0 0, .slice none 0 0, .int .i64 0])
  clear hY R hm
  unfold tkV Par.ptr zSt at *
  go_enter Tryd.func32, Tryd.ntmps32
  go_wp2_with fail
  obtain ⟨Z1, hZ1⟩ : ∃ Z1, Z1 = parenP fnd c.L m (c.at k) := ⟨_, rfl⟩
  have HC1 : Hid (∀ W, Rd c W k → Calls Tryd.prog 58 #[.pointer (some ⟨c.X, 0, none⟩)] W (RdPost c W Z1 (fun e v w' => exsVal W.heap.size [e] v w'))) := fun W RW => by rw [hZ1]; exact p_condition RW (by have := HM.out; skip; omega)
  have HSH1 : Hid (∀ e r, Z1 = .ok e r → r.length < (c.at k).length) := fun e r h => paren_short (hZ1.symm.trans h)
  have HS : Hid (Y = Z1.then fun e r => (blkP c.L m (d + 1) r).then fun b r => if isT [101, 108, 115, 101] r = true then (blkP c.L m (d + 1) r.tail).then fun l r => .ok (St.mk 3 ⟨#[]⟩ ⟨#[]⟩ [e] b l tp) r else .ok (St.mk 3 ⟨#[]⟩ ⟨#[]⟩ [e] b [] tp) r) := by first | (rw [Hid, HS.out, hZ1]; done) | (rw [Hid, HS.out, hZ1]; rfl) | (rw [Hid, HS.out, hZ1]; unfold parenP; rfl)
  clear hZ1
  go_at_call 58
  refine (HC1.out _ (G.out.run.rd HR.out)).mono ?_
  rintro e w1 ⟨hf1, hm1⟩
  rcases Z1 with ⟨e1, r1⟩ | ⟨p, q⟩
  rotate_left
  · obtain rfl := hm1
    have HS2 := HS
    have AZ := Lib.hid (G.out.run.fr.trans hf1)
    clear hf1
    go_wp2_with fail
    refine ⟨rfl, ?_⟩
    rw [HS2.out]
    exact ⟨AZ.out, rfl⟩
  obtain ⟨v1, j1, rfl, ⟨a1, cap1, rfl, hV1⟩, hR1, rfl⟩ := hm1
  have HS : Hid (Y = (blkP c.L m (d + 1) (c.at j1)).then fun b r => if isT [101, 108, 115, 101] r = true then (blkP c.L m (d + 1) r.tail).then fun l r => .ok (St.mk 3 ⟨#[]⟩ ⟨#[]⟩ [e1] b l tp) r else .ok (St.mk 3 ⟨#[]⟩ ⟨#[]⟩ [e1] b [] tp) r) := HS.out
  have HL1 := Lib.hid (HSH1.out _ _ rfl)
  have V1 : Hid (exsAt (fun b => w.heap.size + 1 + 1 + 1 ≤ b) w1 [e1] a1) := Lib.hid (exsAt_mono hV1 (fun b hb => by have := G.out.st.lt; change _ ≤ _ at hb; omega))
  have G := Lib.hid (G.out.call hf1 hR1 hX.out)
  clear hf1 hR1 hV1
  have c3 := G.out.cell (i := 3) (v := .slice none 0 0) rfl
  have z3 := G.out.frozen 3
  go_wp2_with fail
  rw [show w1.setCell ⟨w.heap.size + 1 + 1, 3, none⟩ (.slice a1 1 cap1) = w1.setRow (w.heap.size + 1 + 1) #[.int .u8 3, .string ⟨#[]⟩, .string ⟨#[]⟩, .slice a1 1 cap1, .slice none 0 0, .slice none 0 0, .int .i64 0] from setCell_row G.out.st 3 _]
  have V1 := Lib.hid (exsAt_row V1.out #[.int .u8 3, .string ⟨#[]⟩, .string ⟨#[]⟩, .slice a1 1 cap1, .slice none 0 0, .slice none 0 0, .int .i64 0] (g := w.heap.size + 1 + 1) (by omega))
  have G := Lib.hid (G.out.row #[.int .u8 3, .string ⟨#[]⟩, .string ⟨#[]⟩, .slice a1 1 cap1, .slice none 0 0, .slice none 0 0, .int .i64 0] hX.out)
  clear c3 z3
  obtain ⟨Z2, hZ2⟩ : ∃ Z2, Z2 = blkP c.L m (d + 1) (c.at j1) := ⟨_, rfl⟩
  have HC2 : Hid (∀ W, Rd c W j1 → Calls Tryd.prog 59 #[.pointer (some ⟨c.X, 0, none⟩), .int .i64 (d + 1)] W (RdPost c W Z2 (fun l v w' => stsVal W.heap.size l v w'))) := fun W RW => by rw [hZ2]; exact HB.out c W j1 (d + 1) RW (by omega) (by omega) (by have := HM.out; have := HL1.out; omega)
  have HSH2 : Hid (∀ e r, Z2 = .ok e r → r.length < (c.at j1).length) := fun e r h => blkP_short (hZ2.symm.trans h)
  have HS : Hid (Y = Z2.then fun b r => if isT [101, 108, 115, 101] r = true then (blkP c.L m (d + 1) r.tail).then fun l r => .ok (St.mk 3 ⟨#[]⟩ ⟨#[]⟩ [e1] b l tp) r else .ok (St.mk 3 ⟨#[]⟩ ⟨#[]⟩ [e1] b [] tp) r) := by first | (rw [Hid, HS.out, hZ2]; done) | (rw [Hid, HS.out, hZ2]; exact blk_then _ _ () ())
  clear hZ2
  go_at_call 59
  refine (HC2.out _ (G.out.run.rd HR.out)).mono ?_
  rintro e w2 ⟨hf2, hm2⟩
  rcases Z2 with ⟨e2, r2⟩ | ⟨p, q⟩
  rotate_left
  · obtain rfl := hm2
    have HS2 := HS
    have AZ := Lib.hid (G.out.run.fr.trans hf2)
    clear hf2
    go_wp2_with fail
    refine ⟨rfl, ?_⟩
    rw [HS2.out]
    exact ⟨AZ.out, rfl⟩
  obtain ⟨v2, j2, rfl, ⟨a2, cap2, rfl, hV2⟩, hR2, rfl⟩ := hm2
  have HS : Hid (Y = if isT [101, 108, 115, 101] (c.at j2) = true then (blkP c.L m (d + 1) (c.at j2).tail).then fun l r => .ok (St.mk 3 ⟨#[]⟩ ⟨#[]⟩ [e1] e2 l tp) r else .ok (St.mk 3 ⟨#[]⟩ ⟨#[]⟩ [e1] e2 [] tp) (c.at j2)) := HS.out
  have HL2 := Lib.hid (HSH2.out _ _ rfl)
  have V2 : Hid (stsAt (fun b => w.heap.size + 1 + 1 + 1 ≤ b) w2 e2 a2) := Lib.hid (stsAt_mono hV2 (fun b hb => by have := G.out.st.lt; change _ ≤ _ at hb; omega))
  have V1 := Lib.hid (exsAt_call V1.out hf2 (by have := hX.out; omega))
  have G := Lib.hid (G.out.call hf2 hR2 hX.out)
  clear hf2 hR2 hV2
  have c4 := G.out.cell (i := 4) (v := .slice none 0 0) rfl
  have z4 := G.out.frozen 4
  go_wp2_with fail
  rw [show w2.setCell ⟨w.heap.size + 1 + 1, 4, none⟩ (.slice a2 e2.length cap2) = w2.setRow (w.heap.size + 1 + 1) #[.int .u8 3, .string ⟨#[]⟩, .string ⟨#[]⟩, .slice a1 1 cap1, .slice a2 e2.length cap2, .slice none 0 0, .int .i64 0] from setCell_row G.out.st 4 _]
  have V1 := Lib.hid (exsAt_row V1.out #[.int .u8 3, .string ⟨#[]⟩, .string ⟨#[]⟩, .slice a1 1 cap1, .slice a2 e2.length cap2, .slice none 0 0, .int .i64 0] (g := w.heap.size + 1 + 1) (by omega))
  have V2 := Lib.hid (stsAt_row V2.out #[.int .u8 3, .string ⟨#[]⟩, .string ⟨#[]⟩, .slice a1 1 cap1, .slice a2 e2.length cap2, .slice none 0 0, .int .i64 0] (g := w.heap.size + 1 + 1) (by omega))
  have G := Lib.hid (G.out.row #[.int .u8 3, .string ⟨#[]⟩, .string ⟨#[]⟩, .slice a1 1 cap1, .slice a2 e2.length cap2, .slice none 0 0, .int .i64 0] hX.out)
  clear c4 z4
  obtain ⟨B3, hB3⟩ : ∃ b, b = isT [101, 108, 115, 101] (c.at j2) := ⟨_, rfl⟩
  have HC3 : Hid (∀ W, Rd c W j2 → Calls Tryd.prog 50 #[.pointer (some ⟨c.X, 0, none⟩), .string ⟨#[101, 108, 115, 101]⟩] W fun e w' => e = .returned (.bool B3) ∧ Fr c W w' ∧ Rd c w' (if B3 = true then j2 + 1 else j2)) := fun W RW => by rw [hB3]; exact p_pass RW ⟨#[101, 108, 115, 101]⟩ (by decide)
  go_at_call 50
  refine (HC3.out _ (G.out.run.rd HR.out)).mono ?_
  rintro e w3 ⟨rfl, hf3, hR3⟩
  have HS2 := HS.out
  have V1 := Lib.hid (exsAt_call V1.out hf3 (by have := hX.out; omega))
  have V2 := Lib.hid (stsAt_call V2.out hf3 (by have := hX.out; omega))
  rw [← hB3] at HS2
  cases B3
  · have HS : Hid (Y = .ok (St.mk 3 ⟨#[]⟩ ⟨#[]⟩ [e1] e2 [] tp) (c.at j2)) := HS2
    have G := Lib.hid (G.out.call hf3 (show Rd c w3 j2 from hR3) hX.out)
    clear HS2 hB3 HC3 hf3 hR3
    obtain ⟨WE, hWE⟩ : ∃ WE, Hid (WE = w3) := ⟨_, rfl⟩
    rw [← hWE.out]
    rw [← hWE.out] at G V1 V2
    have OS := G.out.st
    have OR := G.out.res
    go_wp2_with (first | (refine ld rowSt rfl rfl rfl OS rfl ?_) | (refine st rowSt rfl rfl OR rfl rfl (by rfl) (by rfl) (by kernel_rfl) ?_))
    have hx := hX.out
    have AE := G.out.run.setRow (g := w.heap.size + 1) (by omega) (by omega) #[.int .u8 3, .string ⟨#[]⟩, .string ⟨#[]⟩, .slice a1 1 cap1, .slice a2 e2.length cap2, .slice none 0 0, .int .i64 0]
    refine p_ret rowSt rfl (OR.row #[.int .u8 3, .string ⟨#[]⟩, .string ⟨#[]⟩, .slice a1 1 cap1, .slice a2 e2.length cap2, .slice none 0 0, .int .i64 0]) rfl rfl rfl ?_
    rw [HS.out]
    exact ⟨AE.fr, _, j2, rfl, ⟨rfl, _, _, _, _, _, _, rfl, exsAt_mono (exsAt_row V1.out _ (g := w.heap.size + 1) (by omega)) (fun b hb => by omega), stsAt_mono (stsAt_row V2.out _ (g := w.heap.size + 1) (by omega)) (fun b hb => by omega), .inl rfl⟩, AE.rd HR.out, rfl⟩
  have HS : Hid (Y = (blkP c.L m (d + 1) (c.at (j2 + 1))).then fun l r => .ok (St.mk 3 ⟨#[]⟩ ⟨#[]⟩ [e1] e2 l tp) r) := HS2.trans (by rw [if_pos rfl, Par.at_tail])
  have G := Lib.hid (G.out.call hf3 (show Rd c w3 (j2 + 1) from hR3) hX.out)
  have HL3 := Lib.hid (at_step (Par.isT_lt hB3.symm))
  clear HS2 hB3 HC3 hf3 hR3
  go_wp2_with fail
  obtain ⟨Z4, hZ4⟩ : ∃ Z4, Z4 = blkP c.L m (d + 1) (c.at (j2 + 1)) := ⟨_, rfl⟩
  have HC4 : Hid (∀ W, Rd c W (j2 + 1) → Calls Tryd.prog 59 #[.pointer (some ⟨c.X, 0, none⟩), .int .i64 (d + 1)] W (RdPost c W Z4 (fun l v w' => stsVal W.heap.size l v w'))) := fun W RW => by rw [hZ4]; exact HB.out c W (j2 + 1) (d + 1) RW (by omega) (by omega) (by have := HM.out; have := HL1.out; have := HL2.out; have := HL3.out; omega)
  have HSH4 : Hid (∀ e r, Z4 = .ok e r → r.length < (c.at (j2 + 1)).length) := fun e r h => blkP_short (hZ4.symm.trans h)
  have HS : Hid (Y = Z4.then fun b r => .ok (St.mk 3 ⟨#[]⟩ ⟨#[]⟩ [e1] e2 b tp) r) := by first | (rw [Hid, HS.out, hZ4]; done) | (rw [Hid, HS.out, hZ4]; exact blk_then _ _ () ())
  clear hZ4
  go_at_call 59
  refine (HC4.out _ (G.out.run.rd HR.out)).mono ?_
  rintro e w4 ⟨hf4, hm4⟩
  rcases Z4 with ⟨e4, r4⟩ | ⟨p, q⟩
  rotate_left
  · obtain rfl := hm4
    have HS2 := HS
    have AZ := Lib.hid (G.out.run.fr.trans hf4)
    clear hf4
    go_wp2_with fail
    refine ⟨rfl, ?_⟩
    rw [HS2.out]
    exact ⟨AZ.out, rfl⟩
  obtain ⟨v4, j4, rfl, ⟨a4, cap4, rfl, hV4⟩, hR4, rfl⟩ := hm4
  have HS : Hid (Y = .ok (St.mk 3 ⟨#[]⟩ ⟨#[]⟩ [e1] e2 e4 tp) (c.at j4)) := HS.out
  have HL4 := Lib.hid (HSH4.out _ _ rfl)
  have V4 : Hid (stsAt (fun b => w.heap.size + 1 + 1 + 1 ≤ b) w4 e4 a4) := Lib.hid (stsAt_mono hV4 (fun b hb => by have := G.out.st.lt; change _ ≤ _ at hb; omega))
  have V1 := Lib.hid (exsAt_call V1.out hf4 (by have := hX.out; omega))
  have V2 := Lib.hid (stsAt_call V2.out hf4 (by have := hX.out; omega))
  have G := Lib.hid (G.out.call hf4 hR4 hX.out)
  clear hf4 hR4 hV4
  have C4 := Lib.hid (G.out.cell (i := 5) (v := .slice none 0 0) rfl)
  have Z4 := Lib.hid (G.out.frozen 5)
  have E5 : w4.setCell ⟨w.heap.size + 1 + 1, 5, none⟩ (.slice a4 e4.length cap4) = w4.setRow (w.heap.size + 1 + 1) #[.int .u8 3, .string ⟨#[]⟩, .string ⟨#[]⟩, .slice a1 1 cap1, .slice a2 e2.length cap2, .slice a4 e4.length cap4, .int .i64 0] := setCell_row G.out.st 5 (.slice a4 e4.length cap4)
  have V1 := Lib.hid (exsAt_row V1.out #[.int .u8 3, .string ⟨#[]⟩, .string ⟨#[]⟩, .slice a1 1 cap1, .slice a2 e2.length cap2, .slice a4 e4.length cap4, .int .i64 0] (g := w.heap.size + 1 + 1) (by omega))
  have V2 := Lib.hid (stsAt_row V2.out #[.int .u8 3, .string ⟨#[]⟩, .string ⟨#[]⟩, .slice a1 1 cap1, .slice a2 e2.length cap2, .slice a4 e4.length cap4, .int .i64 0] (g := w.heap.size + 1 + 1) (by omega))
  have V4 := Lib.hid (stsAt_row V4.out #[.int .u8 3, .string ⟨#[]⟩, .string ⟨#[]⟩, .slice a1 1 cap1, .slice a2 e2.length cap2, .slice a4 e4.length cap4, .int .i64 0] (g := w.heap.size + 1 + 1) (by omega))
  have G := Lib.hid (G.out.row #[.int .u8 3, .string ⟨#[]⟩, .string ⟨#[]⟩, .slice a1 1 cap1, .slice a2 e2.length cap2, .slice a4 e4.length cap4, .int .i64 0] hX.out)
  have OS := G.out.st
  have OR := G.out.res
  have C4 := C4.out
  have Z4 := Z4.out
  unfold zSt at OR
  go_wp2_with (first | (refine ld rowSt rfl rfl rfl OS rfl ?_) | (refine st rowSt rfl rfl OR rfl rfl (by rfl) (by rfl) (by kernel_rfl) ?_))
  clear C4 Z4 E5
  have hx := hX.out
  have AE := G.out.run.setRow (g := w.heap.size + 1) (by omega) (by omega) #[.int .u8 3, .string ⟨#[]⟩, .string ⟨#[]⟩, .slice a1 1 cap1, .slice a2 e2.length cap2, .slice a4 e4.length cap4, .int .i64 0]
  refine p_ret rowSt rfl (OR.row #[.int .u8 3, .string ⟨#[]⟩, .string ⟨#[]⟩, .slice a1 1 cap1, .slice a2 e2.length cap2, .slice a4 e4.length cap4, .int .i64 0]) rfl rfl rfl ?_
  rw [HS.out]
  exact ⟨AE.fr, _, j4, rfl, ⟨rfl, _, _, _, _, _, _, rfl, exsAt_mono (exsAt_row V1.out _ (g := w.heap.size + 1) (by omega)) (fun b hb => by omega), stsAt_mono (stsAt_row V2.out _ (g := w.heap.size + 1) (by omega)) (fun b hb => by omega), stsAt_mono (stsAt_row V4.out _ (g := w.heap.size + 1) (by omega)) (fun b hb => by omega)⟩, AE.rd HR.out, rfl⟩
set_option maxRecDepth 100000 in
set_option maxHeartbeats 4000000 in
theorem m_change {m : Nat} {c : Par} {w : World} {k : Nat} (R : Rd c w k) (t : Tk) (d : Int) (hd0 : 0 ≤ d) (hd1 : d ≤ 64) (hm : 3 * (c.at k).length + 3 ≤ m) :
    Calls Tryd.prog 97 #[c.ptr, tkV t, .int .i64 d] w (RdPost c w ((need c.L [61] (c.at k)).then fun _ r => if isT [115, 119, 97, 112] r = true then (need c.L [40] r.tail).then fun _ r => (nameP c.L r).then fun o r => (need c.L [44] r).then fun _ r => (binE fnd c.L m 1 0 r).then fun e r => (need c.L [41] r).then fun _ r => (need c.L [59] r).then fun _ r => .ok (St.mk 2 t.text o.name [e] [] [] t.pos) r else (binE fnd c.L m 1 0 r).then fun e r => (need c.L [59] r).then fun _ r => .ok (St.mk 1 t.text ⟨#[]⟩ [e] [] [] t.pos) r) (fun s v w' => s.pos = t.pos ∧ stR w.heap.size 0 s v w')) := by
  obtain ⟨tk, tx, tw, tp⟩ := t
  obtain ⟨Y, hY⟩ : ∃ Y, Y = (need c.L [61] (c.at k)).then fun _ r => if isT [115, 119, 97, 112] r = true then (need c.L [40] r.tail).then fun _ r => (nameP c.L r).then fun o r => (need c.L [44] r).then fun _ r => (binE fnd c.L m 1 0 r).then fun e r => (need c.L [41] r).then fun _ r => (need c.L [59] r).then fun _ r => .ok (St.mk 2 tx o.name [e] [] [] tp) r else (binE fnd c.L m 1 0 r).then fun e r => (need c.L [59] r).then fun _ r => .ok (St.mk 1 tx ⟨#[]⟩ [e] [] [] tp) r := ⟨_, rfl⟩
  have HS := Lib.hid hY
  change Calls _ _ _ _ (RdPost c w ((need c.L [61] (c.at k)).then fun _ r => if isT [115, 119, 97, 112] r = true then (need c.L [40] r.tail).then fun _ r => (nameP c.L r).then fun o r => (need c.L [44] r).then fun _ r => (binE fnd c.L m 1 0 r).then fun e r => (need c.L [41] r).then fun _ r => (need c.L [59] r).then fun _ r => .ok (St.mk 2 tx o.name [e] [] [] tp) r else (binE fnd c.L m 1 0 r).then fun e r => (need c.L [59] r).then fun _ r => .ok (St.mk 1 tx ⟨#[]⟩ [e] [] [] tp) r) _)
  rw [← hY]
  have HR := Lib.hid R
  have hX := Lib.hid R.lt
  have HM := Lib.hid hm
  have G := Lib.hid (StG.start R ⟨tk, tx, tw, tp⟩ #[.int .u8 1, .string tx, .string ⟨#[]⟩, .slice none 0 0, .slice none 0 0, .slice none 0 0, .int .i64 0])
  clear hY R hm
  unfold tkV Par.ptr zSt at *
  go_enter Tryd.func97, Tryd.ntmps97
  go_wp2_with fail
  by_cases q1 : isT [61] (c.at (k)) = true
  rotate_left
  · have q1' : isT [61] (c.at (k)) = false := by simpa using q1
    go_at_call 62
    refine (p_take_bad (G.out.run.rd HR.out) ⟨#[61]⟩ (by decide) q1').mono ?_
    rintro e w1 ⟨rfl, hf1⟩
    have HS2 := HS.out
    rw [need_at, q1'] at HS2
    have HS2 := Lib.hid HS2
    clear q1 q1'
    have AZ := Lib.hid (G.out.run.fr.trans hf1)
    clear hf1
    go_wp2_with fail
    refine ⟨rfl, ?_⟩
    rw [HS2.out]
    exact ⟨AZ.out, rfl⟩
  go_at_call 62
  refine (p_take_ok (G.out.run.rd HR.out) ⟨#[61]⟩ (by decide) q1).mono ?_
  rintro e w1 ⟨rfl, hf1, hR1⟩
  have HS2 := HS.out
  rw [need_at, if_pos q1] at HS2
  have HS : Hid (Y = if isT [115, 119, 97, 112] (c.at (k + 1)) = true then (need c.L [40] (c.at (k + 1)).tail).then fun _ r => (nameP c.L r).then fun o r => (need c.L [44] r).then fun _ r => (binE fnd c.L m 1 0 r).then fun e r => (need c.L [41] r).then fun _ r => (need c.L [59] r).then fun _ r => .ok (St.mk 2 tx o.name [e] [] [] tp) r else (binE fnd c.L m 1 0 (c.at (k + 1))).then fun e r => (need c.L [59] r).then fun _ r => .ok (St.mk 1 tx ⟨#[]⟩ [e] [] [] tp) r) := HS2
  have HL1 := Lib.hid (at_step (Par.isT_lt q1))
  have G := Lib.hid (G.out.call hf1 hR1 hX.out)
  clear HS2 q1 hf1 hR1
  go_wp2_with fail
  obtain ⟨B2, hB2⟩ : ∃ b, b = isT [115, 119, 97, 112] (c.at (k + 1)) := ⟨_, rfl⟩
  have HC2 : Hid (∀ W, Rd c W (k + 1) → Calls Tryd.prog 50 #[.pointer (some ⟨c.X, 0, none⟩), .string ⟨#[115, 119, 97, 112]⟩] W fun e w' => e = .returned (.bool B2) ∧ Fr c W w' ∧ Rd c w' (if B2 = true then (k + 1) + 1 else (k + 1))) := fun W RW => by rw [hB2]; exact p_pass RW ⟨#[115, 119, 97, 112]⟩ (by decide)
  go_at_call 50
  refine (HC2.out _ (G.out.run.rd HR.out)).mono ?_
  rintro e w2 ⟨rfl, hf2, hR2⟩
  have HS2 := HS.out
  rw [← hB2] at HS2
  cases B2
  · have HS : Hid (Y = (binE fnd c.L m 1 0 (c.at (k + 1))).then fun e r => (need c.L [59] r).then fun _ r => .ok (St.mk 1 tx ⟨#[]⟩ [e] [] [] tp) r) := HS2
    have G := Lib.hid (G.out.call hf2 (show Rd c w2 (k + 1) from hR2) hX.out)
    clear HS2 hB2 HC2 hf2 hR2
    go_wp2_with fail
    obtain ⟨Z3, hZ3⟩ : ∃ Z3, Z3 = binE fnd c.L m 1 0 (c.at (k + 1)) := ⟨_, rfl⟩
    have HC3 : Hid (∀ W, Rd c W (k + 1) → Calls Tryd.prog 61 #[.pointer (some ⟨c.X, 0, none⟩)] W (RdPost c W Z3 (fun e v w' => exsVal W.heap.size [e] v w'))) := fun W RW => by rw [hZ3]; exact p_value RW (by have := HM.out; have := HL1.out; omega)
    have HSH3 : Hid (∀ e r, Z3 = .ok e r → r.length < (c.at (k + 1)).length) := fun e r h => binE_short (hZ3.symm.trans h)
    have HS : Hid (Y = Z3.then fun e r => (need c.L [59] r).then fun _ r => .ok (St.mk 1 tx ⟨#[]⟩ [e] [] [] tp) r) := by first | (rw [Hid, HS.out, hZ3]; done) | (rw [Hid, HS.out, hZ3]; rfl) | (rw [Hid, HS.out, hZ3]; unfold parenP; rfl)
    clear hZ3
    go_at_call 61
    refine (HC3.out _ (G.out.run.rd HR.out)).mono ?_
    rintro e w3 ⟨hf3, hm3⟩
    rcases Z3 with ⟨e3, r3⟩ | ⟨p, q⟩
    rotate_left
    · obtain rfl := hm3
      have HS2 := HS
      have AZ := Lib.hid (G.out.run.fr.trans hf3)
      clear hf3
      go_wp2_with fail
      refine ⟨rfl, ?_⟩
      rw [HS2.out]
      exact ⟨AZ.out, rfl⟩
    obtain ⟨v3, j3, rfl, ⟨a3, cap3, rfl, hV3⟩, hR3, rfl⟩ := hm3
    have HS : Hid (Y = (need c.L [59] (c.at j3)).then fun _ r => .ok (St.mk 1 tx ⟨#[]⟩ [e3] [] [] tp) r) := HS.out
    have HL3 := Lib.hid (HSH3.out _ _ rfl)
    have V3 : Hid (exsAt (fun b => w.heap.size + 1 + 1 + 1 ≤ b) w3 [e3] a3) := Lib.hid (exsAt_mono hV3 (fun b hb => by have := G.out.st.lt; change _ ≤ _ at hb; omega))
    have G := Lib.hid (G.out.call hf3 hR3 hX.out)
    clear hf3 hR3 hV3
    have c3 := G.out.cell (i := 3) (v := .slice none 0 0) rfl
    have z3 := G.out.frozen 3
    go_wp2_with fail
    rw [show w3.setCell ⟨w.heap.size + 1 + 1, 3, none⟩ (.slice a3 1 cap3) = w3.setRow (w.heap.size + 1 + 1) #[.int .u8 1, .string tx, .string ⟨#[]⟩, .slice a3 1 cap3, .slice none 0 0, .slice none 0 0, .int .i64 0] from setCell_row G.out.st 3 _]
    have V3 := Lib.hid (exsAt_row V3.out #[.int .u8 1, .string tx, .string ⟨#[]⟩, .slice a3 1 cap3, .slice none 0 0, .slice none 0 0, .int .i64 0] (g := w.heap.size + 1 + 1) (by omega))
    have G := Lib.hid (G.out.row #[.int .u8 1, .string tx, .string ⟨#[]⟩, .slice a3 1 cap3, .slice none 0 0, .slice none 0 0, .int .i64 0] hX.out)
    clear c3 z3
    by_cases q4 : isT [59] (c.at (j3)) = true
    rotate_left
    · have q4' : isT [59] (c.at (j3)) = false := by simpa using q4
      go_at_call 62
      refine (p_take_bad (G.out.run.rd HR.out) ⟨#[59]⟩ (by decide) q4').mono ?_
      rintro e w4 ⟨rfl, hf4⟩
      have HS2 := HS.out
      rw [need_at, q4'] at HS2
      have HS2 := Lib.hid HS2
      clear q4 q4'
      have AZ := Lib.hid (G.out.run.fr.trans hf4)
      clear hf4
      go_wp2_with fail
      refine ⟨rfl, ?_⟩
      rw [HS2.out]
      exact ⟨AZ.out, rfl⟩
    go_at_call 62
    refine (p_take_ok (G.out.run.rd HR.out) ⟨#[59]⟩ (by decide) q4).mono ?_
    rintro e w4 ⟨rfl, hf4, hR4⟩
    have HS2 := HS.out
    rw [need_at, if_pos q4] at HS2
    have HS : Hid (Y = .ok (St.mk 1 tx ⟨#[]⟩ [e3] [] [] tp) (c.at (j3 + 1))) := HS2
    have HL4 := Lib.hid (at_step (Par.isT_lt q4))
    have V3 := Lib.hid (exsAt_call V3.out hf4 (by have := hX.out; omega))
    have G := Lib.hid (G.out.call hf4 hR4 hX.out)
    clear HS2 q4 hf4 hR4
    obtain ⟨WE, hWE⟩ : ∃ WE, Hid (WE = w4) := ⟨_, rfl⟩
    rw [← hWE.out]
    rw [← hWE.out] at G V3
    have OS := G.out.st
    have OR := G.out.res
    go_wp2_with (first | (refine ld rowSt rfl rfl rfl OS rfl ?_) | (refine st rowSt rfl rfl OR rfl rfl (by rfl) (by rfl) (by kernel_rfl) ?_))
    have hx := hX.out
    have AE := G.out.run.setRow (g := w.heap.size + 1) (by omega) (by omega) #[.int .u8 1, .string tx, .string ⟨#[]⟩, .slice a3 1 cap3, .slice none 0 0, .slice none 0 0, .int .i64 0]
    refine p_ret rowSt rfl (OR.row #[.int .u8 1, .string tx, .string ⟨#[]⟩, .slice a3 1 cap3, .slice none 0 0, .slice none 0 0, .int .i64 0]) rfl rfl rfl ?_
    rw [HS.out]
    exact ⟨AE.fr, _, (j3 + 1), rfl, ⟨rfl, _, _, _, _, _, _, rfl, exsAt_mono (exsAt_row V3.out _ (g := w.heap.size + 1) (by omega)) (fun b hb => by omega), .inl rfl, .inl rfl⟩, AE.rd HR.out, rfl⟩
  have HS : Hid (Y = (need c.L [40] (c.at ((k + 1) + 1))).then fun _ r => (nameP c.L r).then fun o r => (need c.L [44] r).then fun _ r => (binE fnd c.L m 1 0 r).then fun e r => (need c.L [41] r).then fun _ r => (need c.L [59] r).then fun _ r => .ok (St.mk 2 tx o.name [e] [] [] tp) r) := HS2.trans (by rw [if_pos rfl, Par.at_tail])
  have G := Lib.hid (G.out.call hf2 (show Rd c w2 ((k + 1) + 1) from hR2) hX.out)
  have HL2 := Lib.hid (at_step (Par.isT_lt hB2.symm))
  clear HS2 hB2 HC2 hf2 hR2
  have c0 := G.out.cell (i := 0) (v := .int .u8 1) rfl
  have z0 := G.out.frozen 0
  go_wp2_with fail
  rw [show w2.setCell ⟨w.heap.size + 1 + 1, 0, none⟩ (.int .u8 2) = w2.setRow (w.heap.size + 1 + 1) #[.int .u8 2, .string tx, .string ⟨#[]⟩, .slice none 0 0, .slice none 0 0, .slice none 0 0, .int .i64 0] from setCell_row G.out.st 0 _]
  have G := Lib.hid (G.out.row #[.int .u8 2, .string tx, .string ⟨#[]⟩, .slice none 0 0, .slice none 0 0, .slice none 0 0, .int .i64 0] hX.out)
  clear c0 z0
  by_cases q3 : isT [40] (c.at (((k + 1) + 1))) = true
  rotate_left
  · have q3' : isT [40] (c.at (((k + 1) + 1))) = false := by simpa using q3
    go_at_call 62
    refine (p_take_bad (G.out.run.rd HR.out) ⟨#[40]⟩ (by decide) q3').mono ?_
    rintro e w3 ⟨rfl, hf3⟩
    have HS2 := HS.out
    rw [need_at, q3'] at HS2
    have HS2 := Lib.hid HS2
    clear q3 q3'
    have AZ := Lib.hid (G.out.run.fr.trans hf3)
    clear hf3
    go_wp2_with fail
    refine ⟨rfl, ?_⟩
    rw [HS2.out]
    exact ⟨AZ.out, rfl⟩
  go_at_call 62
  refine (p_take_ok (G.out.run.rd HR.out) ⟨#[40]⟩ (by decide) q3).mono ?_
  rintro e w3 ⟨rfl, hf3, hR3⟩
  have HS2 := HS.out
  rw [need_at, if_pos q3] at HS2
  have HS : Hid (Y = (nameP c.L (c.at (((k + 1) + 1) + 1))).then fun o r => (need c.L [44] r).then fun _ r => (binE fnd c.L m 1 0 r).then fun e r => (need c.L [41] r).then fun _ r => (need c.L [59] r).then fun _ r => .ok (St.mk 2 tx o.name [e] [] [] tp) r) := HS2
  have HL3 := Lib.hid (at_step (Par.isT_lt q3))
  have G := Lib.hid (G.out.call hf3 hR3 hX.out)
  clear HS2 q3 hf3 hR3
  go_wp2_with fail
  by_cases q4 : (c.nx (((k + 1) + 1) + 1)).kind = 1
  rotate_left
  · go_at_call 60
    refine (p_kind_bad (G.out.run.rd HR.out) 1 q4).mono ?_
    rintro e w4 ⟨rfl, hf4⟩
    have HS2 := HS.out
    rw [nameP_at, if_neg q4] at HS2
    have HS2 := Lib.hid HS2
    clear q4
    have AZ := Lib.hid (G.out.run.fr.trans hf4)
    clear hf4
    go_wp2_with fail
    refine ⟨rfl, ?_⟩
    rw [HS2.out]
    exact ⟨AZ.out, rfl⟩
  have HK4 := Lib.hid (p_kind_ok (G.out.run.rd HR.out) 1 q4 (nx_lt (.inl (by rw [q4]; decide))))
  obtain ⟨t4, ht4⟩ : ∃ t, t = c.nx (((k + 1) + 1) + 1) := ⟨_, rfl⟩
  have HS2 := HS.out
  rw [nameP_at, if_pos q4, ← ht4] at HS2
  have HL4 := Lib.hid (at_step (c := c) (k := (((k + 1) + 1) + 1)) (nx_lt (.inl (by rw [q4]; decide))))
  rw [← ht4] at HK4
  have HS : Hid (Y = (need c.L [44] (c.at ((((k + 1) + 1) + 1) + 1))).then fun _ r => (binE fnd c.L m 1 0 r).then fun e r => (need c.L [41] r).then fun _ r => (need c.L [59] r).then fun _ r => .ok (St.mk 2 tx t4.text [e] [] [] tp) r) := HS2
  clear q4 ht4 HS2
  obtain ⟨nk4, nm4, nw4, np4⟩ := t4
  unfold tkV Par.ptr at HK4
  go_at_call 60
  refine (HK4.out).mono ?_
  rintro e w4 ⟨rfl, hf4, hR4⟩
  have G := Lib.hid (G.out.call hf4 hR4 hX.out)
  clear hf4 hR4
  have c2 := G.out.cell (i := 2) (v := .string ⟨#[]⟩) rfl
  have z2 := G.out.frozen 2
  have F1 := tok_f1
  go_wp2_with fail
  rw [show w4.setCell ⟨w.heap.size + 1 + 1, 2, none⟩ (.string nm4) = w4.setRow (w.heap.size + 1 + 1) #[.int .u8 2, .string tx, .string nm4, .slice none 0 0, .slice none 0 0, .slice none 0 0, .int .i64 0] from setCell_row G.out.st 2 _]
  have G := Lib.hid (G.out.row #[.int .u8 2, .string tx, .string nm4, .slice none 0 0, .slice none 0 0, .slice none 0 0, .int .i64 0] hX.out)
  clear c2 z2
  clear F1
  by_cases q5 : isT [44] (c.at (((((k + 1) + 1) + 1) + 1))) = true
  rotate_left
  · have q5' : isT [44] (c.at (((((k + 1) + 1) + 1) + 1))) = false := by simpa using q5
    go_at_call 62
    refine (p_take_bad (G.out.run.rd HR.out) ⟨#[44]⟩ (by decide) q5').mono ?_
    rintro e w5 ⟨rfl, hf5⟩
    have HS2 := HS.out
    rw [need_at, q5'] at HS2
    have HS2 := Lib.hid HS2
    clear q5 q5'
    have AZ := Lib.hid (G.out.run.fr.trans hf5)
    clear hf5
    go_wp2_with fail
    refine ⟨rfl, ?_⟩
    rw [HS2.out]
    exact ⟨AZ.out, rfl⟩
  go_at_call 62
  refine (p_take_ok (G.out.run.rd HR.out) ⟨#[44]⟩ (by decide) q5).mono ?_
  rintro e w5 ⟨rfl, hf5, hR5⟩
  have HS2 := HS.out
  rw [need_at, if_pos q5] at HS2
  have HS : Hid (Y = (binE fnd c.L m 1 0 (c.at (((((k + 1) + 1) + 1) + 1) + 1))).then fun e r => (need c.L [41] r).then fun _ r => (need c.L [59] r).then fun _ r => .ok (St.mk 2 tx nm4 [e] [] [] tp) r) := HS2
  have HL5 := Lib.hid (at_step (Par.isT_lt q5))
  have G := Lib.hid (G.out.call hf5 hR5 hX.out)
  clear HS2 q5 hf5 hR5
  go_wp2_with fail
  obtain ⟨Z6, hZ6⟩ : ∃ Z6, Z6 = binE fnd c.L m 1 0 (c.at (((((k + 1) + 1) + 1) + 1) + 1)) := ⟨_, rfl⟩
  have HC6 : Hid (∀ W, Rd c W (((((k + 1) + 1) + 1) + 1) + 1) → Calls Tryd.prog 61 #[.pointer (some ⟨c.X, 0, none⟩)] W (RdPost c W Z6 (fun e v w' => exsVal W.heap.size [e] v w'))) := fun W RW => by rw [hZ6]; exact p_value RW (by have := HM.out; have := HL1.out; have := HL2.out; have := HL3.out; have := HL4.out; have := HL5.out; omega)
  have HSH6 : Hid (∀ e r, Z6 = .ok e r → r.length < (c.at (((((k + 1) + 1) + 1) + 1) + 1)).length) := fun e r h => binE_short (hZ6.symm.trans h)
  have HS : Hid (Y = Z6.then fun e r => (need c.L [41] r).then fun _ r => (need c.L [59] r).then fun _ r => .ok (St.mk 2 tx nm4 [e] [] [] tp) r) := by first | (rw [Hid, HS.out, hZ6]; done) | (rw [Hid, HS.out, hZ6]; rfl) | (rw [Hid, HS.out, hZ6]; unfold parenP; rfl)
  clear hZ6
  go_at_call 61
  refine (HC6.out _ (G.out.run.rd HR.out)).mono ?_
  rintro e w6 ⟨hf6, hm6⟩
  rcases Z6 with ⟨e6, r6⟩ | ⟨p, q⟩
  rotate_left
  · obtain rfl := hm6
    have HS2 := HS
    have AZ := Lib.hid (G.out.run.fr.trans hf6)
    clear hf6
    go_wp2_with fail
    refine ⟨rfl, ?_⟩
    rw [HS2.out]
    exact ⟨AZ.out, rfl⟩
  obtain ⟨v6, j6, rfl, ⟨a6, cap6, rfl, hV6⟩, hR6, rfl⟩ := hm6
  have HS : Hid (Y = (need c.L [41] (c.at j6)).then fun _ r => (need c.L [59] r).then fun _ r => .ok (St.mk 2 tx nm4 [e6] [] [] tp) r) := HS.out
  have HL6 := Lib.hid (HSH6.out _ _ rfl)
  have V6 : Hid (exsAt (fun b => w.heap.size + 1 + 1 + 1 ≤ b) w6 [e6] a6) := Lib.hid (exsAt_mono hV6 (fun b hb => by have := G.out.st.lt; change _ ≤ _ at hb; omega))
  have G := Lib.hid (G.out.call hf6 hR6 hX.out)
  clear hf6 hR6 hV6
  have c3 := G.out.cell (i := 3) (v := .slice none 0 0) rfl
  have z3 := G.out.frozen 3
  go_wp2_with fail
  rw [show w6.setCell ⟨w.heap.size + 1 + 1, 3, none⟩ (.slice a6 1 cap6) = w6.setRow (w.heap.size + 1 + 1) #[.int .u8 2, .string tx, .string nm4, .slice a6 1 cap6, .slice none 0 0, .slice none 0 0, .int .i64 0] from setCell_row G.out.st 3 _]
  have V6 := Lib.hid (exsAt_row V6.out #[.int .u8 2, .string tx, .string nm4, .slice a6 1 cap6, .slice none 0 0, .slice none 0 0, .int .i64 0] (g := w.heap.size + 1 + 1) (by omega))
  have G := Lib.hid (G.out.row #[.int .u8 2, .string tx, .string nm4, .slice a6 1 cap6, .slice none 0 0, .slice none 0 0, .int .i64 0] hX.out)
  clear c3 z3
  by_cases q7 : isT [41] (c.at (j6)) = true
  rotate_left
  · have q7' : isT [41] (c.at (j6)) = false := by simpa using q7
    go_at_call 62
    refine (p_take_bad (G.out.run.rd HR.out) ⟨#[41]⟩ (by decide) q7').mono ?_
    rintro e w7 ⟨rfl, hf7⟩
    have HS2 := HS.out
    rw [need_at, q7'] at HS2
    have HS2 := Lib.hid HS2
    clear q7 q7'
    have AZ := Lib.hid (G.out.run.fr.trans hf7)
    clear hf7
    go_wp2_with fail
    refine ⟨rfl, ?_⟩
    rw [HS2.out]
    exact ⟨AZ.out, rfl⟩
  go_at_call 62
  refine (p_take_ok (G.out.run.rd HR.out) ⟨#[41]⟩ (by decide) q7).mono ?_
  rintro e w7 ⟨rfl, hf7, hR7⟩
  have HS2 := HS.out
  rw [need_at, if_pos q7] at HS2
  have HS : Hid (Y = (need c.L [59] (c.at (j6 + 1))).then fun _ r => .ok (St.mk 2 tx nm4 [e6] [] [] tp) r) := HS2
  have HL7 := Lib.hid (at_step (Par.isT_lt q7))
  have V6 := Lib.hid (exsAt_call V6.out hf7 (by have := hX.out; omega))
  have G := Lib.hid (G.out.call hf7 hR7 hX.out)
  clear HS2 q7 hf7 hR7
  go_wp2_with fail
  by_cases q8 : isT [59] (c.at ((j6 + 1))) = true
  rotate_left
  · have q8' : isT [59] (c.at ((j6 + 1))) = false := by simpa using q8
    go_at_call 62
    refine (p_take_bad (G.out.run.rd HR.out) ⟨#[59]⟩ (by decide) q8').mono ?_
    rintro e w8 ⟨rfl, hf8⟩
    have HS2 := HS.out
    rw [need_at, q8'] at HS2
    have HS2 := Lib.hid HS2
    clear q8 q8'
    have AZ := Lib.hid (G.out.run.fr.trans hf8)
    clear hf8
    go_wp2_with fail
    refine ⟨rfl, ?_⟩
    rw [HS2.out]
    exact ⟨AZ.out, rfl⟩
  go_at_call 62
  refine (p_take_ok (G.out.run.rd HR.out) ⟨#[59]⟩ (by decide) q8).mono ?_
  rintro e w8 ⟨rfl, hf8, hR8⟩
  have HS2 := HS.out
  rw [need_at, if_pos q8] at HS2
  have HS : Hid (Y = .ok (St.mk 2 tx nm4 [e6] [] [] tp) (c.at ((j6 + 1) + 1))) := HS2
  have HL8 := Lib.hid (at_step (Par.isT_lt q8))
  have V6 := Lib.hid (exsAt_call V6.out hf8 (by have := hX.out; omega))
  have G := Lib.hid (G.out.call hf8 hR8 hX.out)
  clear HS2 q8 hf8 hR8
  obtain ⟨WE, hWE⟩ : ∃ WE, Hid (WE = w8) := ⟨_, rfl⟩
  rw [← hWE.out]
  rw [← hWE.out] at G V6
  have OS := G.out.st
  have OR := G.out.res
  go_wp2_with (first | (refine ld rowSt rfl rfl rfl OS rfl ?_) | (refine st rowSt rfl rfl OR rfl rfl (by rfl) (by rfl) (by kernel_rfl) ?_))
  have hx := hX.out
  have AE := G.out.run.setRow (g := w.heap.size + 1) (by omega) (by omega) #[.int .u8 2, .string tx, .string nm4, .slice a6 1 cap6, .slice none 0 0, .slice none 0 0, .int .i64 0]
  refine p_ret rowSt rfl (OR.row #[.int .u8 2, .string tx, .string nm4, .slice a6 1 cap6, .slice none 0 0, .slice none 0 0, .int .i64 0]) rfl rfl rfl ?_
  rw [HS.out]
  exact ⟨AE.fr, _, ((j6 + 1) + 1), rfl, ⟨rfl, _, _, _, _, _, _, rfl, exsAt_mono (exsAt_row V6.out _ (g := w.heap.size + 1) (by omega)) (fun b hb => by omega), .inl rfl, .inl rfl⟩, AE.rd HR.out, rfl⟩
end Go.Proofs.YtgaibdipecngkaaDoor

namespace Go.Proofs.YtgaibdipecngkaaDoor
open Go.RowKit
set_option linter.unusedVariables false
theorem zeroFnS (w : World) : (zeroValue 86).run Tryd.prog w = .ok .nilFunc w := by kernel_rfl
theorem stmts_keys (c : Par) : ∀ e ∈ c.stmtE, ∃ t, e.key = .string t := by
  intro e he
  simp only [Par.stmtE, List.mem_cons, List.not_mem_nil, or_false] at he
  rcases he with rfl | rfl | rfl | rfl | rfl <;> exact ⟨_, rfl⟩
theorem run_stmts {c : Par} {W : World} (S : RdS c W) (s : ByteArray) : (Instr.lookup 81 (.map (some c.S)) (.string s) false).run Tryd.prog W = .ok (lookE s.data.toList c.stmtE) W :=
  run_look Tryd.underlying81 Tryd.underlying9 (zeroFnS W) S.sm (stmts_keys c) s
theorem fn_eqlS : ∀ (f : Fn) (u v : Array Value) (w : World), (binOp .eql 86 (.func f u v) .nilFunc).run Tryd.prog w = .ok (.bool false) w := fun f u v w => by kernel_rfl
theorem nil_eqlS : ∀ (w : World), (binOp .eql 86 .nilFunc .nilFunc).run Tryd.prog w = .ok (.bool true) w := fun w => by kernel_rfl
def stW (n : Nat) (s : St) (v : Value) (W : World) : Prop := stR n s.pos s v W
theorem stsAt_in {R : Nat → Prop} {w : World} {l : List St} {a : Option Addr} (h : stsAt R w l a) : stsAt (fun b => R b ∧ b < w.heap.size) w l a := by
  have key : ∀ (l : List St) (b off : Nat), stsIn R w l b off → stsIn (fun b => R b ∧ b < w.heap.size) w l b off := by
    intro l
    induction l using Sts.ind with
    | h0 => intro b off _; exact trivial
    | h1 k n o e bd el p r ih1 ih2 ih3 =>
      intro b off h
      obtain ⟨⟨c0, c1, c2, ⟨a3, cap3, c3, h3⟩, ⟨a4, cap4, c4, h4⟩, ⟨a5, cap5, c5, h5⟩, c6⟩, hr⟩ := h
      refine ⟨⟨c0, c1, c2, ⟨a3, cap3, c3, exsAt_in h3⟩, ⟨a4, cap4, c4, ?_⟩, ⟨a5, cap5, c5, ?_⟩, c6⟩, ih3 b _ hr⟩
      · rcases h4 with h4 | ⟨g, q, rfl, hg, hi⟩
        · exact .inl h4
        · cases bd with
          | nil => exact .inl rfl
          | cons x xs =>
            refine .inr ⟨g, q, rfl, ⟨hg, ?_⟩, ih1 g q hi⟩
            obtain ⟨k', n', o', e', b', l', p'⟩ := x
            exact cell_lt hi.1.1
      · rcases h5 with h5 | ⟨g, q, rfl, hg, hi⟩
        · exact .inl h5
        · cases el with
          | nil => exact .inl rfl
          | cons x xs =>
            refine .inr ⟨g, q, rfl, ⟨hg, ?_⟩, ih2 g q hi⟩
            obtain ⟨k', n', o', e', b', l', p'⟩ := x
            exact cell_lt hi.1.1
  rcases h with h | ⟨g, q, rfl, hg, hi⟩
  · exact .inl h
  · cases l with
    | nil => exact .inl rfl
    | cons x xs =>
      refine .inr ⟨g, q, rfl, ⟨hg, ?_⟩, key _ g q hi⟩
      obtain ⟨k', n', o', e', b', l', p'⟩ := x
      exact cell_lt hi.1.1
set_option maxRecDepth 100000 in
set_option maxHeartbeats 4000000 in
theorem s_change {c : Par} {w : World} {k : Nat} (R : Rd c w k) (d : Int) (Y : PR St) (hyp : (c.nx k).kind = 1)
    (HC : ∀ W, Rd c W (k + 1) → Calls Tryd.prog 97 #[c.ptr, tkV (c.nx k), .int .i64 d] W (RdPost c W Y (fun s v w' => s.pos = (c.nx k).pos ∧ stR W.heap.size 0 s v w'))) :
    Calls Tryd.prog 89 #[c.ptr, .int .i64 d] w (RdPost c w Y (stW w.heap.size)) := by
  have hlt := Lib.hid (nx_lt (c := c) (k := k) (.inl (by rw [hyp]; decide)))
  have hk6 : k ≤ 65536 := by have := R.s.small.1; have := R.le; omega
  have HN : Hid (∀ W, Rd c W k → Calls Tryd.prog 40 #[c.ptr] W fun e w' => e = .returned (tkV (c.nx k)) ∧ Below W.heap.size W w') := fun W h => p_next h
  obtain ⟨t, ht⟩ : ∃ t, t = c.nx k := ⟨_, rfl⟩
  have HT := Lib.hid ht
  rw [← ht] at HN hyp
  clear ht
  obtain ⟨tk, tx, tw, tp⟩ := t
  have HR := Lib.hid R
  have hX := Lib.hid R.lt
  have A0 := Lib.hid ((At.start R).alloc (.cells zSt 61))
  have O0 := Own.new w 61 zSt
  have hlook : Hid (∀ W, RdS c W → (Instr.lookup 81 (.map (some c.S)) (.string tx) false).run Tryd.prog W = .ok (lookE tx.data.toList c.stmtE) W) := fun W S => run_stmts S _
  obtain ⟨V, hV⟩ : ∃ V, V = lookE tx.data.toList c.stmtE := ⟨_, rfl⟩
  rw [← hV] at hlook
  clear hV
  clear R
  have HC := Lib.hid HC
  rw [← HT.out] at HC
  simp only at hyp
  subst hyp
  clear HT
  unfold tkV Par.ptr zSt at *
  have F1 := fn_eqlS
  go_enter Tryd.func89, Tryd.ntmps89
  go_wp2_with fail
  go_at_call 40
  refine (HN.out _ (A0.out.rd HR.out)).mono ?_
  rintro e w1 ⟨rfl, hb⟩
  have A1 := Lib.hid ((A0.out.below hb).alloc (.cells #[.int .u8 1, .string tx, .int .i64 tw, .int .i64 tp] 69))
  have O1 := Lib.hid ((O0.below hb).alloc (.cells #[.int .u8 1, .string tx, .int .i64 tw, .int .i64 tp] 69))
  have T1 := Lib.hid (Own.new w1 69 #[.int .u8 1, .string tx, .int .i64 tw, .int .i64 tp])
  have hz1 := Lib.hid (O0.below hb).lt
  clear hb O0
  go_upto_region 2 with (fail)
  have hsz : Hid ((w1.alloc (.cells #[.int .u8 1, .string tx, .int .i64 tw, .int .i64 tp] 69)).heap.size = w1.heap.size + 1) := World.size_alloc _ _
  obtain ⟨W, hW⟩ : ∃ W, W = w1.alloc (.cells #[.int .u8 1, .string tx, .int .i64 tw, .int .i64 tp] 69) := ⟨_, rfl⟩
  rw [← hW] at A1 O1 T1 hsz ⊢
  clear hW
  obtain ⟨⟨_, _, x2, _, x4, _⟩, xf⟩ := A1.out.cells
  have t1 : W.cell? ⟨w1.heap.size, 1, none⟩ = some (.string tx) := by rw [cell_of_row W w1.heap.size 1 _ _ _ T1.out]; rfl
  have t0 : W.cell? ⟨w1.heap.size, 0, none⟩ = some (.int .u8 1) := by rw [cell_of_row W w1.heap.size 0 _ _ _ T1.out]; rfl
  have hlk := fun n => hlook.out (W.drewN n) ((A1.out.rd HR.out).s.drewN n)
  go_quiet (fail)
  obtain ⟨W2, hW2⟩ : ∃ W2, W2 = W.drewN nq := ⟨_, rfl⟩
  have A2 := A1.out.drewN nq
  have O2 := O1.out.drewN nq
  have T2 := T1.out.drewN nq
  have hsz : Hid (W2.heap.size = w1.heap.size + 1) := by rw [hW2]; exact hsz.out
  rw [← hW2] at A2 O2 T2 ⊢
  have A2 := Lib.hid A2
  have O2 := Lib.hid O2
  have T2 := Lib.hid T2
  clear hW2 x2 x4 xf t1 t0 hlk A1 O1 T1
  obtain ⟨⟨_, _, x2, _⟩, xf⟩ := A2.out.cells
  have t0 : W2.cell? ⟨w1.heap.size, 0, none⟩ = some (.int .u8 1) := by rw [cell_of_row W2 w1.heap.size 0 _ _ _ T2.out]; rfl
  have A3 := Lib.hid (A2.out.step hlt.out)
  have hn1 : c.X ≠ w1.heap.size := by have := hX.out; have := hz1.out; omega
  have hn2 : c.X ≠ w.heap.size := by have := hX.out; omega
  have T3 := T2.out.setX 2 (.int .i64 ((k : Int) + 1)) hn1
  have O3 := Lib.hid (O2.out.setX 2 (.int .i64 ((k : Int) + 1)) hn2)
  have hn1 := Lib.hid hn1
  have hn2 := Lib.hid hn2
  go_wp2_with (first | (refine ld rowTok rfl rfl rfl T3 rfl ?_))
  go_at_call 97
  refine (HC.out _ (A3.out.rd HR.out)).mono ?_
  rintro e w3 ⟨hf3, hm⟩
  rcases Y with ⟨s0, r0⟩ | ⟨p, q⟩
  rotate_left
  · obtain rfl := hm
    have A4 := Lib.hid (A3.out.fr.trans hf3)
    clear hf3
    go_wp2_with fail
    exact ⟨rfl, A4.out, rfl⟩
  obtain ⟨v, k2, rfl, ⟨hpos, a3, c3, a4, c4, a5, c5, rfl, hV3, hV4, hV5⟩, hR2, rfl⟩ := hm
  change s0.pos = tp at hpos
  obtain ⟨CS, hCS⟩ : ∃ CS : Array Value, CS = #[.int .u8 s0.kind, .string s0.name, .string s0.other, .slice a3 s0.e.length c3, .slice a4 s0.body.length c4, .slice a5 s0.els.length c5, .int .i64 0] := ⟨_, rfl⟩
  have A4 := Lib.hid ((A3.out.call hf3 hR2).alloc (.cells CS 61))
  have O4 := (O3.out.fr hf3 hn2.out).alloc (.cells CS 61)
  have T4 := (T3.fr hf3 hn1.out).alloc (.cells CS 61)
  have N4 := Own.new w3 61 CS
  have hz3 : w1.heap.size < w3.heap.size := by have h1 := Keep.size hf3; have := hsz.out; rw [World.size_setCell] at h1; omega
  have hb3 : ∀ b, (W2.setCell ⟨c.X, 2, none⟩ (.int .i64 ((k : Int) + 1))).heap.size ≤ b → w.heap.size + 1 ≤ b := fun b hb => by have := hz1.out; have := hsz.out; rw [World.size_setCell] at hb; omega
  have V3 := Lib.hid (exsAt_stays (stays_alloc _ w3 (.cells CS 61)) (fun b hb => hb) (exsAt_in hV3))
  have V4 := Lib.hid (stsAt_stays (stays_alloc _ w3 (.cells CS 61)) (fun b hb => hb) (stsAt_in hV4))
  have V5 := Lib.hid (stsAt_stays (stays_alloc _ w3 (.cells CS 61)) (fun b hb => hb) (stsAt_in hV5))
  have V3 := Lib.hid (exsAt_mono (R' := fun b => w.heap.size + 1 ≤ b ∧ b ≠ w3.heap.size) V3.out (fun b hb => ⟨hb3 b hb.1, by have := hb.2; omega⟩))
  have V4 := Lib.hid (stsAt_mono (R' := fun b => w.heap.size + 1 ≤ b ∧ b ≠ w3.heap.size) V4.out (fun b hb => ⟨hb3 b hb.1, by have := hb.2; omega⟩))
  have V5 := Lib.hid (stsAt_mono (R' := fun b => w.heap.size + 1 ≤ b ∧ b ≠ w3.heap.size) V5.out (fun b hb => ⟨hb3 b hb.1, by have := hb.2; omega⟩))
  obtain ⟨W5, hW5⟩ : ∃ W5, W5 = (w3.alloc (.cells CS 61)).setRow w3.heap.size #[.int .u8 s0.kind, .string s0.name, .string s0.other, .slice a3 s0.e.length c3, .slice a4 s0.body.length c4, .slice a5 s0.els.length c5, .int .i64 tp] := ⟨_, rfl⟩
  have hn3 : c.X ≠ w3.heap.size := by have := hX.out; have := hz1.out; omega
  have hwz : w.heap.size ≤ w3.heap.size := by have := hz1.out; omega
  have hw0 : w.heap.size ≠ w3.heap.size := by have := hz1.out; omega
  have A5 := Lib.hid (A4.out.setRow hwz hn3 #[.int .u8 s0.kind, .string s0.name, .string s0.other, .slice a3 s0.e.length c3, .slice a4 s0.body.length c4, .slice a5 s0.els.length c5, .int .i64 tp])
  have O5 := O4.other (g := w3.heap.size) #[.int .u8 s0.kind, .string s0.name, .string s0.other, .slice a3 s0.e.length c3, .slice a4 s0.body.length c4, .slice a5 s0.els.length c5, .int .i64 tp] hw0
  have N5 := N4.row #[.int .u8 s0.kind, .string s0.name, .string s0.other, .slice a3 s0.e.length c3, .slice a4 s0.body.length c4, .slice a5 s0.els.length c5, .int .i64 tp]
  have U3 := Lib.hid (exsAt_stays (stays_row (w3.alloc (.cells CS 61)) (g := w3.heap.size) #[.int .u8 s0.kind, .string s0.name, .string s0.other, .slice a3 s0.e.length c3, .slice a4 s0.body.length c4, .slice a5 s0.els.length c5, .int .i64 tp] (fun b hb => hb.2)) (fun b hb => hb.1) V3.out)
  have U4 := Lib.hid (stsAt_stays (stays_row (w3.alloc (.cells CS 61)) (g := w3.heap.size) #[.int .u8 s0.kind, .string s0.name, .string s0.other, .slice a3 s0.e.length c3, .slice a4 s0.body.length c4, .slice a5 s0.els.length c5, .int .i64 tp] (fun b hb => hb.2)) (fun b hb => hb.1) V4.out)
  have U5 := Lib.hid (stsAt_stays (stays_row (w3.alloc (.cells CS 61)) (g := w3.heap.size) #[.int .u8 s0.kind, .string s0.name, .string s0.other, .slice a3 s0.e.length c3, .slice a4 s0.body.length c4, .slice a5 s0.els.length c5, .int .i64 tp] (fun b hb => hb.2)) (fun b hb => hb.1) V5.out)
  have E5 : (w3.alloc (.cells CS 61)).setCell ⟨w3.heap.size, 6, none⟩ (.int .i64 tp) = W5 := by
    rw [hW5, setCell_row N4 6 _, hCS]; rfl
  rw [← hW5] at A5 O5 N5 U3 U4 U5
  have t3 : (w3.alloc (.cells CS 61)).cell? ⟨w1.heap.size, 3, none⟩ = some (.int .i64 tp) := by rw [cell_of_row _ w1.heap.size 3 _ _ _ T4]; rfl
  subst hCS
  have HP := Lib.hid hpos
  clear hf3 hR2 hV3 hV4 hV5 hb3 A4 O4 T4 N4 hW5 x2 xf t0 T3 hpos
  go_wp2_with (first | (refine ld rowSt rfl rfl rfl N5 rfl ?_) | (refine st rowSt rfl rfl O5 rfl rfl (by rfl) (by rfl) (by kernel_rfl) ?_))
  have A6 := A5.out.setRow (Nat.le_refl _) hn2.out #[.int .u8 s0.kind, .string s0.name, .string s0.other, .slice a3 s0.e.length c3, .slice a4 s0.body.length c4, .slice a5 s0.els.length c5, .int .i64 tp]
  have hb0 : ∀ b, w.heap.size + 1 ≤ b → b ≠ w.heap.size := fun b h => by omega
  have hb1 : ∀ b, w.heap.size + 1 ≤ b → w.heap.size ≤ b := fun b h => by omega
  refine p_ret rowSt rfl (O5.row #[.int .u8 s0.kind, .string s0.name, .string s0.other, .slice a3 s0.e.length c3, .slice a4 s0.body.length c4, .slice a5 s0.els.length c5, .int .i64 tp]) rfl rfl rfl ?_
  refine ⟨A6.fr, _, k2, rfl, ⟨a3, c3, a4, c4, a5, c5, by rw [HP.out], ?_, ?_, ?_⟩, A6.rd HR.out, rfl⟩
  · exact exsAt_stays (stays_row W5 _ hb0) hb1 U3.out
  · exact stsAt_stays (stays_row W5 _ hb0) hb1 U4.out
  · exact stsAt_stays (stays_row W5 _ hb0) hb1 U5.out
set_option maxRecDepth 100000 in
set_option maxHeartbeats 4000000 in
theorem s_choice {c : Par} {w : World} {k : Nat} (R : Rd c w k) (d : Int) (Y : PR St) (hyp : ¬ (c.nx k).kind = 1 ∧ (c.nx k).tx = [105, 102])
    (HC : ∀ W, Rd c W (k + 1) → Calls Tryd.prog 32 #[c.ptr, tkV (c.nx k), .int .i64 d] W (RdPost c W Y (fun s v w' => s.pos = (c.nx k).pos ∧ stR W.heap.size 0 s v w'))) :
    Calls Tryd.prog 89 #[c.ptr, .int .i64 d] w (RdPost c w Y (stW w.heap.size)) := by
  have hlt := Lib.hid (nx_lt (c := c) (k := k) (.inr (by rw [hyp.2]; decide)))
  have hk6 : k ≤ 65536 := by have := R.s.small.1; have := R.le; omega
  have HN : Hid (∀ W, Rd c W k → Calls Tryd.prog 40 #[c.ptr] W fun e w' => e = .returned (tkV (c.nx k)) ∧ Below W.heap.size W w') := fun W h => p_next h
  obtain ⟨t, ht⟩ : ∃ t, t = c.nx k := ⟨_, rfl⟩
  have HT := Lib.hid ht
  rw [← ht] at HN hyp
  clear ht
  obtain ⟨tk, tx, tw, tp⟩ := t
  have HR := Lib.hid R
  have hX := Lib.hid R.lt
  have A0 := Lib.hid ((At.start R).alloc (.cells zSt 61))
  have O0 := Own.new w 61 zSt
  have hlook : Hid (∀ W, RdS c W → (Instr.lookup 81 (.map (some c.S)) (.string tx) false).run Tryd.prog W = .ok (.func (.func 32) #[.pointer (some ⟨c.X, 0, none⟩)] #[]) W) := fun W S => by
    rw [run_stmts S]; have e : tx.data.toList = [105, 102] := hyp.2; rw [e]; rfl
  clear R
  have HC := Lib.hid HC
  rw [← HT.out] at HC
  have q1 : (tk == 1) = false := by simpa using hyp.1
  clear hyp HT
  unfold tkV Par.ptr zSt at *
  have F1 := fn_eqlS
  go_enter Tryd.func89, Tryd.ntmps89
  go_wp2_with fail
  go_at_call 40
  refine (HN.out _ (A0.out.rd HR.out)).mono ?_
  rintro e w1 ⟨rfl, hb⟩
  have A1 := Lib.hid ((A0.out.below hb).alloc (.cells #[.int .u8 tk, .string tx, .int .i64 tw, .int .i64 tp] 69))
  have O1 := Lib.hid ((O0.below hb).alloc (.cells #[.int .u8 tk, .string tx, .int .i64 tw, .int .i64 tp] 69))
  have T1 := Lib.hid (Own.new w1 69 #[.int .u8 tk, .string tx, .int .i64 tw, .int .i64 tp])
  have hz1 := Lib.hid (O0.below hb).lt
  clear hb O0
  go_upto_region 2 with (fail)
  have hsz : Hid ((w1.alloc (.cells #[.int .u8 tk, .string tx, .int .i64 tw, .int .i64 tp] 69)).heap.size = w1.heap.size + 1) := World.size_alloc _ _
  obtain ⟨W, hW⟩ : ∃ W, W = w1.alloc (.cells #[.int .u8 tk, .string tx, .int .i64 tw, .int .i64 tp] 69) := ⟨_, rfl⟩
  rw [← hW] at A1 O1 T1 hsz ⊢
  clear hW
  obtain ⟨⟨_, _, x2, _, x4, _⟩, xf⟩ := A1.out.cells
  have t1 : W.cell? ⟨w1.heap.size, 1, none⟩ = some (.string tx) := by rw [cell_of_row W w1.heap.size 1 _ _ _ T1.out]; rfl
  have t0 : W.cell? ⟨w1.heap.size, 0, none⟩ = some (.int .u8 tk) := by rw [cell_of_row W w1.heap.size 0 _ _ _ T1.out]; rfl
  have hlk := fun n => hlook.out (W.drewN n) ((A1.out.rd HR.out).s.drewN n)
  go_quiet (fail)
  obtain ⟨W2, hW2⟩ : ∃ W2, W2 = W.drewN nq := ⟨_, rfl⟩
  have A2 := A1.out.drewN nq
  have O2 := O1.out.drewN nq
  have T2 := T1.out.drewN nq
  have hsz : Hid (W2.heap.size = w1.heap.size + 1) := by rw [hW2]; exact hsz.out
  rw [← hW2] at A2 O2 T2 ⊢
  have A2 := Lib.hid A2
  have O2 := Lib.hid O2
  have T2 := Lib.hid T2
  clear hW2 x2 x4 xf t1 t0 hlk A1 O1 T1
  obtain ⟨⟨_, _, x2, _⟩, xf⟩ := A2.out.cells
  have t0 : W2.cell? ⟨w1.heap.size, 0, none⟩ = some (.int .u8 tk) := by rw [cell_of_row W2 w1.heap.size 0 _ _ _ T2.out]; rfl
  have A3 := Lib.hid (A2.out.step hlt.out)
  have hn1 : c.X ≠ w1.heap.size := by have := hX.out; have := hz1.out; omega
  have hn2 : c.X ≠ w.heap.size := by have := hX.out; omega
  have T3 := T2.out.setX 2 (.int .i64 ((k : Int) + 1)) hn1
  have O3 := Lib.hid (O2.out.setX 2 (.int .i64 ((k : Int) + 1)) hn2)
  have hn1 := Lib.hid hn1
  have hn2 := Lib.hid hn2
  go_wp2_with (first | (refine ld rowTok rfl rfl rfl T3 rfl ?_))
  go_at_call 32
  refine (HC.out _ (A3.out.rd HR.out)).mono ?_
  rintro e w3 ⟨hf3, hm⟩
  rcases Y with ⟨s0, r0⟩ | ⟨p, q⟩
  rotate_left
  · obtain rfl := hm
    have A4 := Lib.hid (A3.out.fr.trans hf3)
    clear hf3
    go_wp2_with fail
    exact ⟨rfl, A4.out, rfl⟩
  obtain ⟨v, k2, rfl, ⟨hpos, a3, c3, a4, c4, a5, c5, rfl, hV3, hV4, hV5⟩, hR2, rfl⟩ := hm
  change s0.pos = tp at hpos
  obtain ⟨CS, hCS⟩ : ∃ CS : Array Value, CS = #[.int .u8 s0.kind, .string s0.name, .string s0.other, .slice a3 s0.e.length c3, .slice a4 s0.body.length c4, .slice a5 s0.els.length c5, .int .i64 0] := ⟨_, rfl⟩
  have A4 := Lib.hid ((A3.out.call hf3 hR2).alloc (.cells CS 61))
  have O4 := (O3.out.fr hf3 hn2.out).alloc (.cells CS 61)
  have T4 := (T3.fr hf3 hn1.out).alloc (.cells CS 61)
  have N4 := Own.new w3 61 CS
  have hz3 : w1.heap.size < w3.heap.size := by have h1 := Keep.size hf3; have := hsz.out; rw [World.size_setCell] at h1; omega
  have hb3 : ∀ b, (W2.setCell ⟨c.X, 2, none⟩ (.int .i64 ((k : Int) + 1))).heap.size ≤ b → w.heap.size + 1 ≤ b := fun b hb => by have := hz1.out; have := hsz.out; rw [World.size_setCell] at hb; omega
  have V3 := Lib.hid (exsAt_stays (stays_alloc _ w3 (.cells CS 61)) (fun b hb => hb) (exsAt_in hV3))
  have V4 := Lib.hid (stsAt_stays (stays_alloc _ w3 (.cells CS 61)) (fun b hb => hb) (stsAt_in hV4))
  have V5 := Lib.hid (stsAt_stays (stays_alloc _ w3 (.cells CS 61)) (fun b hb => hb) (stsAt_in hV5))
  have V3 := Lib.hid (exsAt_mono (R' := fun b => w.heap.size + 1 ≤ b ∧ b ≠ w3.heap.size) V3.out (fun b hb => ⟨hb3 b hb.1, by have := hb.2; omega⟩))
  have V4 := Lib.hid (stsAt_mono (R' := fun b => w.heap.size + 1 ≤ b ∧ b ≠ w3.heap.size) V4.out (fun b hb => ⟨hb3 b hb.1, by have := hb.2; omega⟩))
  have V5 := Lib.hid (stsAt_mono (R' := fun b => w.heap.size + 1 ≤ b ∧ b ≠ w3.heap.size) V5.out (fun b hb => ⟨hb3 b hb.1, by have := hb.2; omega⟩))
  obtain ⟨W5, hW5⟩ : ∃ W5, W5 = (w3.alloc (.cells CS 61)).setRow w3.heap.size #[.int .u8 s0.kind, .string s0.name, .string s0.other, .slice a3 s0.e.length c3, .slice a4 s0.body.length c4, .slice a5 s0.els.length c5, .int .i64 tp] := ⟨_, rfl⟩
  have hn3 : c.X ≠ w3.heap.size := by have := hX.out; have := hz1.out; omega
  have hwz : w.heap.size ≤ w3.heap.size := by have := hz1.out; omega
  have hw0 : w.heap.size ≠ w3.heap.size := by have := hz1.out; omega
  have A5 := Lib.hid (A4.out.setRow hwz hn3 #[.int .u8 s0.kind, .string s0.name, .string s0.other, .slice a3 s0.e.length c3, .slice a4 s0.body.length c4, .slice a5 s0.els.length c5, .int .i64 tp])
  have O5 := O4.other (g := w3.heap.size) #[.int .u8 s0.kind, .string s0.name, .string s0.other, .slice a3 s0.e.length c3, .slice a4 s0.body.length c4, .slice a5 s0.els.length c5, .int .i64 tp] hw0
  have N5 := N4.row #[.int .u8 s0.kind, .string s0.name, .string s0.other, .slice a3 s0.e.length c3, .slice a4 s0.body.length c4, .slice a5 s0.els.length c5, .int .i64 tp]
  have U3 := Lib.hid (exsAt_stays (stays_row (w3.alloc (.cells CS 61)) (g := w3.heap.size) #[.int .u8 s0.kind, .string s0.name, .string s0.other, .slice a3 s0.e.length c3, .slice a4 s0.body.length c4, .slice a5 s0.els.length c5, .int .i64 tp] (fun b hb => hb.2)) (fun b hb => hb.1) V3.out)
  have U4 := Lib.hid (stsAt_stays (stays_row (w3.alloc (.cells CS 61)) (g := w3.heap.size) #[.int .u8 s0.kind, .string s0.name, .string s0.other, .slice a3 s0.e.length c3, .slice a4 s0.body.length c4, .slice a5 s0.els.length c5, .int .i64 tp] (fun b hb => hb.2)) (fun b hb => hb.1) V4.out)
  have U5 := Lib.hid (stsAt_stays (stays_row (w3.alloc (.cells CS 61)) (g := w3.heap.size) #[.int .u8 s0.kind, .string s0.name, .string s0.other, .slice a3 s0.e.length c3, .slice a4 s0.body.length c4, .slice a5 s0.els.length c5, .int .i64 tp] (fun b hb => hb.2)) (fun b hb => hb.1) V5.out)
  have E5 : (w3.alloc (.cells CS 61)).setCell ⟨w3.heap.size, 6, none⟩ (.int .i64 tp) = W5 := by
    rw [hW5, setCell_row N4 6 _, hCS]; rfl
  rw [← hW5] at A5 O5 N5 U3 U4 U5
  have t3 : (w3.alloc (.cells CS 61)).cell? ⟨w1.heap.size, 3, none⟩ = some (.int .i64 tp) := by rw [cell_of_row _ w1.heap.size 3 _ _ _ T4]; rfl
  subst hCS
  have HP := Lib.hid hpos
  clear hf3 hR2 hV3 hV4 hV5 hb3 A4 O4 T4 N4 hW5 x2 xf t0 T3 hpos
  go_wp2_with (first | (refine ld rowSt rfl rfl rfl N5 rfl ?_) | (refine st rowSt rfl rfl O5 rfl rfl (by rfl) (by rfl) (by kernel_rfl) ?_))
  have A6 := A5.out.setRow (Nat.le_refl _) hn2.out #[.int .u8 s0.kind, .string s0.name, .string s0.other, .slice a3 s0.e.length c3, .slice a4 s0.body.length c4, .slice a5 s0.els.length c5, .int .i64 tp]
  have hb0 : ∀ b, w.heap.size + 1 ≤ b → b ≠ w.heap.size := fun b h => by omega
  have hb1 : ∀ b, w.heap.size + 1 ≤ b → w.heap.size ≤ b := fun b h => by omega
  refine p_ret rowSt rfl (O5.row #[.int .u8 s0.kind, .string s0.name, .string s0.other, .slice a3 s0.e.length c3, .slice a4 s0.body.length c4, .slice a5 s0.els.length c5, .int .i64 tp]) rfl rfl rfl ?_
  refine ⟨A6.fr, _, k2, rfl, ⟨a3, c3, a4, c4, a5, c5, by rw [HP.out], ?_, ?_, ?_⟩, A6.rd HR.out, rfl⟩
  · exact exsAt_stays (stays_row W5 _ hb0) hb1 U3.out
  · exact stsAt_stays (stays_row W5 _ hb0) hb1 U4.out
  · exact stsAt_stays (stays_row W5 _ hb0) hb1 U5.out
set_option maxRecDepth 100000 in
set_option maxHeartbeats 4000000 in
theorem s_loop {c : Par} {w : World} {k : Nat} (R : Rd c w k) (d : Int) (Y : PR St) (hyp : ¬ (c.nx k).kind = 1 ∧ (c.nx k).tx = [119, 104, 105, 108, 101])
    (HC : ∀ W, Rd c W (k + 1) → Calls Tryd.prog 33 #[c.ptr, tkV (c.nx k), .int .i64 d] W (RdPost c W Y (fun s v w' => s.pos = (c.nx k).pos ∧ stR W.heap.size 0 s v w'))) :
    Calls Tryd.prog 89 #[c.ptr, .int .i64 d] w (RdPost c w Y (stW w.heap.size)) := by
  have hlt := Lib.hid (nx_lt (c := c) (k := k) (.inr (by rw [hyp.2]; decide)))
  have hk6 : k ≤ 65536 := by have := R.s.small.1; have := R.le; omega
  have HN : Hid (∀ W, Rd c W k → Calls Tryd.prog 40 #[c.ptr] W fun e w' => e = .returned (tkV (c.nx k)) ∧ Below W.heap.size W w') := fun W h => p_next h
  obtain ⟨t, ht⟩ : ∃ t, t = c.nx k := ⟨_, rfl⟩
  have HT := Lib.hid ht
  rw [← ht] at HN hyp
  clear ht
  obtain ⟨tk, tx, tw, tp⟩ := t
  have HR := Lib.hid R
  have hX := Lib.hid R.lt
  have A0 := Lib.hid ((At.start R).alloc (.cells zSt 61))
  have O0 := Own.new w 61 zSt
  have hlook : Hid (∀ W, RdS c W → (Instr.lookup 81 (.map (some c.S)) (.string tx) false).run Tryd.prog W = .ok (.func (.func 33) #[.pointer (some ⟨c.X, 0, none⟩)] #[]) W) := fun W S => by
    rw [run_stmts S]; have e : tx.data.toList = [119, 104, 105, 108, 101] := hyp.2; rw [e]; rfl
  clear R
  have HC := Lib.hid HC
  rw [← HT.out] at HC
  have q1 : (tk == 1) = false := by simpa using hyp.1
  clear hyp HT
  unfold tkV Par.ptr zSt at *
  have F1 := fn_eqlS
  go_enter Tryd.func89, Tryd.ntmps89
  go_wp2_with fail
  go_at_call 40
  refine (HN.out _ (A0.out.rd HR.out)).mono ?_
  rintro e w1 ⟨rfl, hb⟩
  have A1 := Lib.hid ((A0.out.below hb).alloc (.cells #[.int .u8 tk, .string tx, .int .i64 tw, .int .i64 tp] 69))
  have O1 := Lib.hid ((O0.below hb).alloc (.cells #[.int .u8 tk, .string tx, .int .i64 tw, .int .i64 tp] 69))
  have T1 := Lib.hid (Own.new w1 69 #[.int .u8 tk, .string tx, .int .i64 tw, .int .i64 tp])
  have hz1 := Lib.hid (O0.below hb).lt
  clear hb O0
  go_upto_region 2 with (fail)
  have hsz : Hid ((w1.alloc (.cells #[.int .u8 tk, .string tx, .int .i64 tw, .int .i64 tp] 69)).heap.size = w1.heap.size + 1) := World.size_alloc _ _
  obtain ⟨W, hW⟩ : ∃ W, W = w1.alloc (.cells #[.int .u8 tk, .string tx, .int .i64 tw, .int .i64 tp] 69) := ⟨_, rfl⟩
  rw [← hW] at A1 O1 T1 hsz ⊢
  clear hW
  obtain ⟨⟨_, _, x2, _, x4, _⟩, xf⟩ := A1.out.cells
  have t1 : W.cell? ⟨w1.heap.size, 1, none⟩ = some (.string tx) := by rw [cell_of_row W w1.heap.size 1 _ _ _ T1.out]; rfl
  have t0 : W.cell? ⟨w1.heap.size, 0, none⟩ = some (.int .u8 tk) := by rw [cell_of_row W w1.heap.size 0 _ _ _ T1.out]; rfl
  have hlk := fun n => hlook.out (W.drewN n) ((A1.out.rd HR.out).s.drewN n)
  go_quiet (fail)
  obtain ⟨W2, hW2⟩ : ∃ W2, W2 = W.drewN nq := ⟨_, rfl⟩
  have A2 := A1.out.drewN nq
  have O2 := O1.out.drewN nq
  have T2 := T1.out.drewN nq
  have hsz : Hid (W2.heap.size = w1.heap.size + 1) := by rw [hW2]; exact hsz.out
  rw [← hW2] at A2 O2 T2 ⊢
  have A2 := Lib.hid A2
  have O2 := Lib.hid O2
  have T2 := Lib.hid T2
  clear hW2 x2 x4 xf t1 t0 hlk A1 O1 T1
  obtain ⟨⟨_, _, x2, _⟩, xf⟩ := A2.out.cells
  have t0 : W2.cell? ⟨w1.heap.size, 0, none⟩ = some (.int .u8 tk) := by rw [cell_of_row W2 w1.heap.size 0 _ _ _ T2.out]; rfl
  have A3 := Lib.hid (A2.out.step hlt.out)
  have hn1 : c.X ≠ w1.heap.size := by have := hX.out; have := hz1.out; omega
  have hn2 : c.X ≠ w.heap.size := by have := hX.out; omega
  have T3 := T2.out.setX 2 (.int .i64 ((k : Int) + 1)) hn1
  have O3 := Lib.hid (O2.out.setX 2 (.int .i64 ((k : Int) + 1)) hn2)
  have hn1 := Lib.hid hn1
  have hn2 := Lib.hid hn2
  go_wp2_with (first | (refine ld rowTok rfl rfl rfl T3 rfl ?_))
  go_at_call 33
  refine (HC.out _ (A3.out.rd HR.out)).mono ?_
  rintro e w3 ⟨hf3, hm⟩
  rcases Y with ⟨s0, r0⟩ | ⟨p, q⟩
  rotate_left
  · obtain rfl := hm
    have A4 := Lib.hid (A3.out.fr.trans hf3)
    clear hf3
    go_wp2_with fail
    exact ⟨rfl, A4.out, rfl⟩
  obtain ⟨v, k2, rfl, ⟨hpos, a3, c3, a4, c4, a5, c5, rfl, hV3, hV4, hV5⟩, hR2, rfl⟩ := hm
  change s0.pos = tp at hpos
  obtain ⟨CS, hCS⟩ : ∃ CS : Array Value, CS = #[.int .u8 s0.kind, .string s0.name, .string s0.other, .slice a3 s0.e.length c3, .slice a4 s0.body.length c4, .slice a5 s0.els.length c5, .int .i64 0] := ⟨_, rfl⟩
  have A4 := Lib.hid ((A3.out.call hf3 hR2).alloc (.cells CS 61))
  have O4 := (O3.out.fr hf3 hn2.out).alloc (.cells CS 61)
  have T4 := (T3.fr hf3 hn1.out).alloc (.cells CS 61)
  have N4 := Own.new w3 61 CS
  have hz3 : w1.heap.size < w3.heap.size := by have h1 := Keep.size hf3; have := hsz.out; rw [World.size_setCell] at h1; omega
  have hb3 : ∀ b, (W2.setCell ⟨c.X, 2, none⟩ (.int .i64 ((k : Int) + 1))).heap.size ≤ b → w.heap.size + 1 ≤ b := fun b hb => by have := hz1.out; have := hsz.out; rw [World.size_setCell] at hb; omega
  have V3 := Lib.hid (exsAt_stays (stays_alloc _ w3 (.cells CS 61)) (fun b hb => hb) (exsAt_in hV3))
  have V4 := Lib.hid (stsAt_stays (stays_alloc _ w3 (.cells CS 61)) (fun b hb => hb) (stsAt_in hV4))
  have V5 := Lib.hid (stsAt_stays (stays_alloc _ w3 (.cells CS 61)) (fun b hb => hb) (stsAt_in hV5))
  have V3 := Lib.hid (exsAt_mono (R' := fun b => w.heap.size + 1 ≤ b ∧ b ≠ w3.heap.size) V3.out (fun b hb => ⟨hb3 b hb.1, by have := hb.2; omega⟩))
  have V4 := Lib.hid (stsAt_mono (R' := fun b => w.heap.size + 1 ≤ b ∧ b ≠ w3.heap.size) V4.out (fun b hb => ⟨hb3 b hb.1, by have := hb.2; omega⟩))
  have V5 := Lib.hid (stsAt_mono (R' := fun b => w.heap.size + 1 ≤ b ∧ b ≠ w3.heap.size) V5.out (fun b hb => ⟨hb3 b hb.1, by have := hb.2; omega⟩))
  obtain ⟨W5, hW5⟩ : ∃ W5, W5 = (w3.alloc (.cells CS 61)).setRow w3.heap.size #[.int .u8 s0.kind, .string s0.name, .string s0.other, .slice a3 s0.e.length c3, .slice a4 s0.body.length c4, .slice a5 s0.els.length c5, .int .i64 tp] := ⟨_, rfl⟩
  have hn3 : c.X ≠ w3.heap.size := by have := hX.out; have := hz1.out; omega
  have hwz : w.heap.size ≤ w3.heap.size := by have := hz1.out; omega
  have hw0 : w.heap.size ≠ w3.heap.size := by have := hz1.out; omega
  have A5 := Lib.hid (A4.out.setRow hwz hn3 #[.int .u8 s0.kind, .string s0.name, .string s0.other, .slice a3 s0.e.length c3, .slice a4 s0.body.length c4, .slice a5 s0.els.length c5, .int .i64 tp])
  have O5 := O4.other (g := w3.heap.size) #[.int .u8 s0.kind, .string s0.name, .string s0.other, .slice a3 s0.e.length c3, .slice a4 s0.body.length c4, .slice a5 s0.els.length c5, .int .i64 tp] hw0
  have N5 := N4.row #[.int .u8 s0.kind, .string s0.name, .string s0.other, .slice a3 s0.e.length c3, .slice a4 s0.body.length c4, .slice a5 s0.els.length c5, .int .i64 tp]
  have U3 := Lib.hid (exsAt_stays (stays_row (w3.alloc (.cells CS 61)) (g := w3.heap.size) #[.int .u8 s0.kind, .string s0.name, .string s0.other, .slice a3 s0.e.length c3, .slice a4 s0.body.length c4, .slice a5 s0.els.length c5, .int .i64 tp] (fun b hb => hb.2)) (fun b hb => hb.1) V3.out)
  have U4 := Lib.hid (stsAt_stays (stays_row (w3.alloc (.cells CS 61)) (g := w3.heap.size) #[.int .u8 s0.kind, .string s0.name, .string s0.other, .slice a3 s0.e.length c3, .slice a4 s0.body.length c4, .slice a5 s0.els.length c5, .int .i64 tp] (fun b hb => hb.2)) (fun b hb => hb.1) V4.out)
  have U5 := Lib.hid (stsAt_stays (stays_row (w3.alloc (.cells CS 61)) (g := w3.heap.size) #[.int .u8 s0.kind, .string s0.name, .string s0.other, .slice a3 s0.e.length c3, .slice a4 s0.body.length c4, .slice a5 s0.els.length c5, .int .i64 tp] (fun b hb => hb.2)) (fun b hb => hb.1) V5.out)
  have E5 : (w3.alloc (.cells CS 61)).setCell ⟨w3.heap.size, 6, none⟩ (.int .i64 tp) = W5 := by
    rw [hW5, setCell_row N4 6 _, hCS]; rfl
  rw [← hW5] at A5 O5 N5 U3 U4 U5
  have t3 : (w3.alloc (.cells CS 61)).cell? ⟨w1.heap.size, 3, none⟩ = some (.int .i64 tp) := by rw [cell_of_row _ w1.heap.size 3 _ _ _ T4]; rfl
  subst hCS
  have HP := Lib.hid hpos
  clear hf3 hR2 hV3 hV4 hV5 hb3 A4 O4 T4 N4 hW5 x2 xf t0 T3 hpos
  go_wp2_with (first | (refine ld rowSt rfl rfl rfl N5 rfl ?_) | (refine st rowSt rfl rfl O5 rfl rfl (by rfl) (by rfl) (by kernel_rfl) ?_))
  have A6 := A5.out.setRow (Nat.le_refl _) hn2.out #[.int .u8 s0.kind, .string s0.name, .string s0.other, .slice a3 s0.e.length c3, .slice a4 s0.body.length c4, .slice a5 s0.els.length c5, .int .i64 tp]
  have hb0 : ∀ b, w.heap.size + 1 ≤ b → b ≠ w.heap.size := fun b h => by omega
  have hb1 : ∀ b, w.heap.size + 1 ≤ b → w.heap.size ≤ b := fun b h => by omega
  refine p_ret rowSt rfl (O5.row #[.int .u8 s0.kind, .string s0.name, .string s0.other, .slice a3 s0.e.length c3, .slice a4 s0.body.length c4, .slice a5 s0.els.length c5, .int .i64 tp]) rfl rfl rfl ?_
  refine ⟨A6.fr, _, k2, rfl, ⟨a3, c3, a4, c4, a5, c5, by rw [HP.out], ?_, ?_, ?_⟩, A6.rd HR.out, rfl⟩
  · exact exsAt_stays (stays_row W5 _ hb0) hb1 U3.out
  · exact stsAt_stays (stays_row W5 _ hb0) hb1 U4.out
  · exact stsAt_stays (stays_row W5 _ hb0) hb1 U5.out
set_option maxRecDepth 100000 in
set_option maxHeartbeats 4000000 in
theorem s_guard {c : Par} {w : World} {k : Nat} (R : Rd c w k) (d : Int) (Y : PR St) (hyp : ¬ (c.nx k).kind = 1 ∧ (c.nx k).tx = [108, 111, 99, 107])
    (HC : ∀ W, Rd c W (k + 1) → Calls Tryd.prog 34 #[c.ptr, tkV (c.nx k), .int .i64 d] W (RdPost c W Y (fun s v w' => s.pos = (c.nx k).pos ∧ stR W.heap.size 0 s v w'))) :
    Calls Tryd.prog 89 #[c.ptr, .int .i64 d] w (RdPost c w Y (stW w.heap.size)) := by
  have hlt := Lib.hid (nx_lt (c := c) (k := k) (.inr (by rw [hyp.2]; decide)))
  have hk6 : k ≤ 65536 := by have := R.s.small.1; have := R.le; omega
  have HN : Hid (∀ W, Rd c W k → Calls Tryd.prog 40 #[c.ptr] W fun e w' => e = .returned (tkV (c.nx k)) ∧ Below W.heap.size W w') := fun W h => p_next h
  obtain ⟨t, ht⟩ : ∃ t, t = c.nx k := ⟨_, rfl⟩
  have HT := Lib.hid ht
  rw [← ht] at HN hyp
  clear ht
  obtain ⟨tk, tx, tw, tp⟩ := t
  have HR := Lib.hid R
  have hX := Lib.hid R.lt
  have A0 := Lib.hid ((At.start R).alloc (.cells zSt 61))
  have O0 := Own.new w 61 zSt
  have hlook : Hid (∀ W, RdS c W → (Instr.lookup 81 (.map (some c.S)) (.string tx) false).run Tryd.prog W = .ok (.func (.func 34) #[.pointer (some ⟨c.X, 0, none⟩)] #[]) W) := fun W S => by
    rw [run_stmts S]; have e : tx.data.toList = [108, 111, 99, 107] := hyp.2; rw [e]; rfl
  clear R
  have HC := Lib.hid HC
  rw [← HT.out] at HC
  have q1 : (tk == 1) = false := by simpa using hyp.1
  clear hyp HT
  unfold tkV Par.ptr zSt at *
  have F1 := fn_eqlS
  go_enter Tryd.func89, Tryd.ntmps89
  go_wp2_with fail
  go_at_call 40
  refine (HN.out _ (A0.out.rd HR.out)).mono ?_
  rintro e w1 ⟨rfl, hb⟩
  have A1 := Lib.hid ((A0.out.below hb).alloc (.cells #[.int .u8 tk, .string tx, .int .i64 tw, .int .i64 tp] 69))
  have O1 := Lib.hid ((O0.below hb).alloc (.cells #[.int .u8 tk, .string tx, .int .i64 tw, .int .i64 tp] 69))
  have T1 := Lib.hid (Own.new w1 69 #[.int .u8 tk, .string tx, .int .i64 tw, .int .i64 tp])
  have hz1 := Lib.hid (O0.below hb).lt
  clear hb O0
  go_upto_region 2 with (fail)
  have hsz : Hid ((w1.alloc (.cells #[.int .u8 tk, .string tx, .int .i64 tw, .int .i64 tp] 69)).heap.size = w1.heap.size + 1) := World.size_alloc _ _
  obtain ⟨W, hW⟩ : ∃ W, W = w1.alloc (.cells #[.int .u8 tk, .string tx, .int .i64 tw, .int .i64 tp] 69) := ⟨_, rfl⟩
  rw [← hW] at A1 O1 T1 hsz ⊢
  clear hW
  obtain ⟨⟨_, _, x2, _, x4, _⟩, xf⟩ := A1.out.cells
  have t1 : W.cell? ⟨w1.heap.size, 1, none⟩ = some (.string tx) := by rw [cell_of_row W w1.heap.size 1 _ _ _ T1.out]; rfl
  have t0 : W.cell? ⟨w1.heap.size, 0, none⟩ = some (.int .u8 tk) := by rw [cell_of_row W w1.heap.size 0 _ _ _ T1.out]; rfl
  have hlk := fun n => hlook.out (W.drewN n) ((A1.out.rd HR.out).s.drewN n)
  go_quiet (fail)
  obtain ⟨W2, hW2⟩ : ∃ W2, W2 = W.drewN nq := ⟨_, rfl⟩
  have A2 := A1.out.drewN nq
  have O2 := O1.out.drewN nq
  have T2 := T1.out.drewN nq
  have hsz : Hid (W2.heap.size = w1.heap.size + 1) := by rw [hW2]; exact hsz.out
  rw [← hW2] at A2 O2 T2 ⊢
  have A2 := Lib.hid A2
  have O2 := Lib.hid O2
  have T2 := Lib.hid T2
  clear hW2 x2 x4 xf t1 t0 hlk A1 O1 T1
  obtain ⟨⟨_, _, x2, _⟩, xf⟩ := A2.out.cells
  have t0 : W2.cell? ⟨w1.heap.size, 0, none⟩ = some (.int .u8 tk) := by rw [cell_of_row W2 w1.heap.size 0 _ _ _ T2.out]; rfl
  have A3 := Lib.hid (A2.out.step hlt.out)
  have hn1 : c.X ≠ w1.heap.size := by have := hX.out; have := hz1.out; omega
  have hn2 : c.X ≠ w.heap.size := by have := hX.out; omega
  have T3 := T2.out.setX 2 (.int .i64 ((k : Int) + 1)) hn1
  have O3 := Lib.hid (O2.out.setX 2 (.int .i64 ((k : Int) + 1)) hn2)
  have hn1 := Lib.hid hn1
  have hn2 := Lib.hid hn2
  go_wp2_with (first | (refine ld rowTok rfl rfl rfl T3 rfl ?_))
  go_at_call 34
  refine (HC.out _ (A3.out.rd HR.out)).mono ?_
  rintro e w3 ⟨hf3, hm⟩
  rcases Y with ⟨s0, r0⟩ | ⟨p, q⟩
  rotate_left
  · obtain rfl := hm
    have A4 := Lib.hid (A3.out.fr.trans hf3)
    clear hf3
    go_wp2_with fail
    exact ⟨rfl, A4.out, rfl⟩
  obtain ⟨v, k2, rfl, ⟨hpos, a3, c3, a4, c4, a5, c5, rfl, hV3, hV4, hV5⟩, hR2, rfl⟩ := hm
  change s0.pos = tp at hpos
  obtain ⟨CS, hCS⟩ : ∃ CS : Array Value, CS = #[.int .u8 s0.kind, .string s0.name, .string s0.other, .slice a3 s0.e.length c3, .slice a4 s0.body.length c4, .slice a5 s0.els.length c5, .int .i64 0] := ⟨_, rfl⟩
  have A4 := Lib.hid ((A3.out.call hf3 hR2).alloc (.cells CS 61))
  have O4 := (O3.out.fr hf3 hn2.out).alloc (.cells CS 61)
  have T4 := (T3.fr hf3 hn1.out).alloc (.cells CS 61)
  have N4 := Own.new w3 61 CS
  have hz3 : w1.heap.size < w3.heap.size := by have h1 := Keep.size hf3; have := hsz.out; rw [World.size_setCell] at h1; omega
  have hb3 : ∀ b, (W2.setCell ⟨c.X, 2, none⟩ (.int .i64 ((k : Int) + 1))).heap.size ≤ b → w.heap.size + 1 ≤ b := fun b hb => by have := hz1.out; have := hsz.out; rw [World.size_setCell] at hb; omega
  have V3 := Lib.hid (exsAt_stays (stays_alloc _ w3 (.cells CS 61)) (fun b hb => hb) (exsAt_in hV3))
  have V4 := Lib.hid (stsAt_stays (stays_alloc _ w3 (.cells CS 61)) (fun b hb => hb) (stsAt_in hV4))
  have V5 := Lib.hid (stsAt_stays (stays_alloc _ w3 (.cells CS 61)) (fun b hb => hb) (stsAt_in hV5))
  have V3 := Lib.hid (exsAt_mono (R' := fun b => w.heap.size + 1 ≤ b ∧ b ≠ w3.heap.size) V3.out (fun b hb => ⟨hb3 b hb.1, by have := hb.2; omega⟩))
  have V4 := Lib.hid (stsAt_mono (R' := fun b => w.heap.size + 1 ≤ b ∧ b ≠ w3.heap.size) V4.out (fun b hb => ⟨hb3 b hb.1, by have := hb.2; omega⟩))
  have V5 := Lib.hid (stsAt_mono (R' := fun b => w.heap.size + 1 ≤ b ∧ b ≠ w3.heap.size) V5.out (fun b hb => ⟨hb3 b hb.1, by have := hb.2; omega⟩))
  obtain ⟨W5, hW5⟩ : ∃ W5, W5 = (w3.alloc (.cells CS 61)).setRow w3.heap.size #[.int .u8 s0.kind, .string s0.name, .string s0.other, .slice a3 s0.e.length c3, .slice a4 s0.body.length c4, .slice a5 s0.els.length c5, .int .i64 tp] := ⟨_, rfl⟩
  have hn3 : c.X ≠ w3.heap.size := by have := hX.out; have := hz1.out; omega
  have hwz : w.heap.size ≤ w3.heap.size := by have := hz1.out; omega
  have hw0 : w.heap.size ≠ w3.heap.size := by have := hz1.out; omega
  have A5 := Lib.hid (A4.out.setRow hwz hn3 #[.int .u8 s0.kind, .string s0.name, .string s0.other, .slice a3 s0.e.length c3, .slice a4 s0.body.length c4, .slice a5 s0.els.length c5, .int .i64 tp])
  have O5 := O4.other (g := w3.heap.size) #[.int .u8 s0.kind, .string s0.name, .string s0.other, .slice a3 s0.e.length c3, .slice a4 s0.body.length c4, .slice a5 s0.els.length c5, .int .i64 tp] hw0
  have N5 := N4.row #[.int .u8 s0.kind, .string s0.name, .string s0.other, .slice a3 s0.e.length c3, .slice a4 s0.body.length c4, .slice a5 s0.els.length c5, .int .i64 tp]
  have U3 := Lib.hid (exsAt_stays (stays_row (w3.alloc (.cells CS 61)) (g := w3.heap.size) #[.int .u8 s0.kind, .string s0.name, .string s0.other, .slice a3 s0.e.length c3, .slice a4 s0.body.length c4, .slice a5 s0.els.length c5, .int .i64 tp] (fun b hb => hb.2)) (fun b hb => hb.1) V3.out)
  have U4 := Lib.hid (stsAt_stays (stays_row (w3.alloc (.cells CS 61)) (g := w3.heap.size) #[.int .u8 s0.kind, .string s0.name, .string s0.other, .slice a3 s0.e.length c3, .slice a4 s0.body.length c4, .slice a5 s0.els.length c5, .int .i64 tp] (fun b hb => hb.2)) (fun b hb => hb.1) V4.out)
  have U5 := Lib.hid (stsAt_stays (stays_row (w3.alloc (.cells CS 61)) (g := w3.heap.size) #[.int .u8 s0.kind, .string s0.name, .string s0.other, .slice a3 s0.e.length c3, .slice a4 s0.body.length c4, .slice a5 s0.els.length c5, .int .i64 tp] (fun b hb => hb.2)) (fun b hb => hb.1) V5.out)
  have E5 : (w3.alloc (.cells CS 61)).setCell ⟨w3.heap.size, 6, none⟩ (.int .i64 tp) = W5 := by
    rw [hW5, setCell_row N4 6 _, hCS]; rfl
  rw [← hW5] at A5 O5 N5 U3 U4 U5
  have t3 : (w3.alloc (.cells CS 61)).cell? ⟨w1.heap.size, 3, none⟩ = some (.int .i64 tp) := by rw [cell_of_row _ w1.heap.size 3 _ _ _ T4]; rfl
  subst hCS
  have HP := Lib.hid hpos
  clear hf3 hR2 hV3 hV4 hV5 hb3 A4 O4 T4 N4 hW5 x2 xf t0 T3 hpos
  go_wp2_with (first | (refine ld rowSt rfl rfl rfl N5 rfl ?_) | (refine st rowSt rfl rfl O5 rfl rfl (by rfl) (by rfl) (by kernel_rfl) ?_))
  have A6 := A5.out.setRow (Nat.le_refl _) hn2.out #[.int .u8 s0.kind, .string s0.name, .string s0.other, .slice a3 s0.e.length c3, .slice a4 s0.body.length c4, .slice a5 s0.els.length c5, .int .i64 tp]
  have hb0 : ∀ b, w.heap.size + 1 ≤ b → b ≠ w.heap.size := fun b h => by omega
  have hb1 : ∀ b, w.heap.size + 1 ≤ b → w.heap.size ≤ b := fun b h => by omega
  refine p_ret rowSt rfl (O5.row #[.int .u8 s0.kind, .string s0.name, .string s0.other, .slice a3 s0.e.length c3, .slice a4 s0.body.length c4, .slice a5 s0.els.length c5, .int .i64 tp]) rfl rfl rfl ?_
  refine ⟨A6.fr, _, k2, rfl, ⟨a3, c3, a4, c4, a5, c5, by rw [HP.out], ?_, ?_, ?_⟩, A6.rd HR.out, rfl⟩
  · exact exsAt_stays (stays_row W5 _ hb0) hb1 U3.out
  · exact stsAt_stays (stays_row W5 _ hb0) hb1 U4.out
  · exact stsAt_stays (stays_row W5 _ hb0) hb1 U5.out
set_option maxRecDepth 100000 in
set_option maxHeartbeats 4000000 in
theorem s_print {c : Par} {w : World} {k : Nat} (R : Rd c w k) (d : Int) (Y : PR St) (hyp : ¬ (c.nx k).kind = 1 ∧ (c.nx k).tx = [112, 114, 105, 110, 116])
    (HC : ∀ W, Rd c W (k + 1) → Calls Tryd.prog 35 #[c.ptr, tkV (c.nx k), .int .i64 d] W (RdPost c W Y (fun s v w' => s.pos = (c.nx k).pos ∧ stR W.heap.size 0 s v w'))) :
    Calls Tryd.prog 89 #[c.ptr, .int .i64 d] w (RdPost c w Y (stW w.heap.size)) := by
  have hlt := Lib.hid (nx_lt (c := c) (k := k) (.inr (by rw [hyp.2]; decide)))
  have hk6 : k ≤ 65536 := by have := R.s.small.1; have := R.le; omega
  have HN : Hid (∀ W, Rd c W k → Calls Tryd.prog 40 #[c.ptr] W fun e w' => e = .returned (tkV (c.nx k)) ∧ Below W.heap.size W w') := fun W h => p_next h
  obtain ⟨t, ht⟩ : ∃ t, t = c.nx k := ⟨_, rfl⟩
  have HT := Lib.hid ht
  rw [← ht] at HN hyp
  clear ht
  obtain ⟨tk, tx, tw, tp⟩ := t
  have HR := Lib.hid R
  have hX := Lib.hid R.lt
  have A0 := Lib.hid ((At.start R).alloc (.cells zSt 61))
  have O0 := Own.new w 61 zSt
  have hlook : Hid (∀ W, RdS c W → (Instr.lookup 81 (.map (some c.S)) (.string tx) false).run Tryd.prog W = .ok (.func (.func 35) #[.pointer (some ⟨c.X, 0, none⟩)] #[]) W) := fun W S => by
    rw [run_stmts S]; have e : tx.data.toList = [112, 114, 105, 110, 116] := hyp.2; rw [e]; rfl
  clear R
  have HC := Lib.hid HC
  rw [← HT.out] at HC
  have q1 : (tk == 1) = false := by simpa using hyp.1
  clear hyp HT
  unfold tkV Par.ptr zSt at *
  have F1 := fn_eqlS
  go_enter Tryd.func89, Tryd.ntmps89
  go_wp2_with fail
  go_at_call 40
  refine (HN.out _ (A0.out.rd HR.out)).mono ?_
  rintro e w1 ⟨rfl, hb⟩
  have A1 := Lib.hid ((A0.out.below hb).alloc (.cells #[.int .u8 tk, .string tx, .int .i64 tw, .int .i64 tp] 69))
  have O1 := Lib.hid ((O0.below hb).alloc (.cells #[.int .u8 tk, .string tx, .int .i64 tw, .int .i64 tp] 69))
  have T1 := Lib.hid (Own.new w1 69 #[.int .u8 tk, .string tx, .int .i64 tw, .int .i64 tp])
  have hz1 := Lib.hid (O0.below hb).lt
  clear hb O0
  go_upto_region 2 with (fail)
  have hsz : Hid ((w1.alloc (.cells #[.int .u8 tk, .string tx, .int .i64 tw, .int .i64 tp] 69)).heap.size = w1.heap.size + 1) := World.size_alloc _ _
  obtain ⟨W, hW⟩ : ∃ W, W = w1.alloc (.cells #[.int .u8 tk, .string tx, .int .i64 tw, .int .i64 tp] 69) := ⟨_, rfl⟩
  rw [← hW] at A1 O1 T1 hsz ⊢
  clear hW
  obtain ⟨⟨_, _, x2, _, x4, _⟩, xf⟩ := A1.out.cells
  have t1 : W.cell? ⟨w1.heap.size, 1, none⟩ = some (.string tx) := by rw [cell_of_row W w1.heap.size 1 _ _ _ T1.out]; rfl
  have t0 : W.cell? ⟨w1.heap.size, 0, none⟩ = some (.int .u8 tk) := by rw [cell_of_row W w1.heap.size 0 _ _ _ T1.out]; rfl
  have hlk := fun n => hlook.out (W.drewN n) ((A1.out.rd HR.out).s.drewN n)
  go_quiet (fail)
  obtain ⟨W2, hW2⟩ : ∃ W2, W2 = W.drewN nq := ⟨_, rfl⟩
  have A2 := A1.out.drewN nq
  have O2 := O1.out.drewN nq
  have T2 := T1.out.drewN nq
  have hsz : Hid (W2.heap.size = w1.heap.size + 1) := by rw [hW2]; exact hsz.out
  rw [← hW2] at A2 O2 T2 ⊢
  have A2 := Lib.hid A2
  have O2 := Lib.hid O2
  have T2 := Lib.hid T2
  clear hW2 x2 x4 xf t1 t0 hlk A1 O1 T1
  obtain ⟨⟨_, _, x2, _⟩, xf⟩ := A2.out.cells
  have t0 : W2.cell? ⟨w1.heap.size, 0, none⟩ = some (.int .u8 tk) := by rw [cell_of_row W2 w1.heap.size 0 _ _ _ T2.out]; rfl
  have A3 := Lib.hid (A2.out.step hlt.out)
  have hn1 : c.X ≠ w1.heap.size := by have := hX.out; have := hz1.out; omega
  have hn2 : c.X ≠ w.heap.size := by have := hX.out; omega
  have T3 := T2.out.setX 2 (.int .i64 ((k : Int) + 1)) hn1
  have O3 := Lib.hid (O2.out.setX 2 (.int .i64 ((k : Int) + 1)) hn2)
  have hn1 := Lib.hid hn1
  have hn2 := Lib.hid hn2
  go_wp2_with (first | (refine ld rowTok rfl rfl rfl T3 rfl ?_))
  go_at_call 35
  refine (HC.out _ (A3.out.rd HR.out)).mono ?_
  rintro e w3 ⟨hf3, hm⟩
  rcases Y with ⟨s0, r0⟩ | ⟨p, q⟩
  rotate_left
  · obtain rfl := hm
    have A4 := Lib.hid (A3.out.fr.trans hf3)
    clear hf3
    go_wp2_with fail
    exact ⟨rfl, A4.out, rfl⟩
  obtain ⟨v, k2, rfl, ⟨hpos, a3, c3, a4, c4, a5, c5, rfl, hV3, hV4, hV5⟩, hR2, rfl⟩ := hm
  change s0.pos = tp at hpos
  obtain ⟨CS, hCS⟩ : ∃ CS : Array Value, CS = #[.int .u8 s0.kind, .string s0.name, .string s0.other, .slice a3 s0.e.length c3, .slice a4 s0.body.length c4, .slice a5 s0.els.length c5, .int .i64 0] := ⟨_, rfl⟩
  have A4 := Lib.hid ((A3.out.call hf3 hR2).alloc (.cells CS 61))
  have O4 := (O3.out.fr hf3 hn2.out).alloc (.cells CS 61)
  have T4 := (T3.fr hf3 hn1.out).alloc (.cells CS 61)
  have N4 := Own.new w3 61 CS
  have hz3 : w1.heap.size < w3.heap.size := by have h1 := Keep.size hf3; have := hsz.out; rw [World.size_setCell] at h1; omega
  have hb3 : ∀ b, (W2.setCell ⟨c.X, 2, none⟩ (.int .i64 ((k : Int) + 1))).heap.size ≤ b → w.heap.size + 1 ≤ b := fun b hb => by have := hz1.out; have := hsz.out; rw [World.size_setCell] at hb; omega
  have V3 := Lib.hid (exsAt_stays (stays_alloc _ w3 (.cells CS 61)) (fun b hb => hb) (exsAt_in hV3))
  have V4 := Lib.hid (stsAt_stays (stays_alloc _ w3 (.cells CS 61)) (fun b hb => hb) (stsAt_in hV4))
  have V5 := Lib.hid (stsAt_stays (stays_alloc _ w3 (.cells CS 61)) (fun b hb => hb) (stsAt_in hV5))
  have V3 := Lib.hid (exsAt_mono (R' := fun b => w.heap.size + 1 ≤ b ∧ b ≠ w3.heap.size) V3.out (fun b hb => ⟨hb3 b hb.1, by have := hb.2; omega⟩))
  have V4 := Lib.hid (stsAt_mono (R' := fun b => w.heap.size + 1 ≤ b ∧ b ≠ w3.heap.size) V4.out (fun b hb => ⟨hb3 b hb.1, by have := hb.2; omega⟩))
  have V5 := Lib.hid (stsAt_mono (R' := fun b => w.heap.size + 1 ≤ b ∧ b ≠ w3.heap.size) V5.out (fun b hb => ⟨hb3 b hb.1, by have := hb.2; omega⟩))
  obtain ⟨W5, hW5⟩ : ∃ W5, W5 = (w3.alloc (.cells CS 61)).setRow w3.heap.size #[.int .u8 s0.kind, .string s0.name, .string s0.other, .slice a3 s0.e.length c3, .slice a4 s0.body.length c4, .slice a5 s0.els.length c5, .int .i64 tp] := ⟨_, rfl⟩
  have hn3 : c.X ≠ w3.heap.size := by have := hX.out; have := hz1.out; omega
  have hwz : w.heap.size ≤ w3.heap.size := by have := hz1.out; omega
  have hw0 : w.heap.size ≠ w3.heap.size := by have := hz1.out; omega
  have A5 := Lib.hid (A4.out.setRow hwz hn3 #[.int .u8 s0.kind, .string s0.name, .string s0.other, .slice a3 s0.e.length c3, .slice a4 s0.body.length c4, .slice a5 s0.els.length c5, .int .i64 tp])
  have O5 := O4.other (g := w3.heap.size) #[.int .u8 s0.kind, .string s0.name, .string s0.other, .slice a3 s0.e.length c3, .slice a4 s0.body.length c4, .slice a5 s0.els.length c5, .int .i64 tp] hw0
  have N5 := N4.row #[.int .u8 s0.kind, .string s0.name, .string s0.other, .slice a3 s0.e.length c3, .slice a4 s0.body.length c4, .slice a5 s0.els.length c5, .int .i64 tp]
  have U3 := Lib.hid (exsAt_stays (stays_row (w3.alloc (.cells CS 61)) (g := w3.heap.size) #[.int .u8 s0.kind, .string s0.name, .string s0.other, .slice a3 s0.e.length c3, .slice a4 s0.body.length c4, .slice a5 s0.els.length c5, .int .i64 tp] (fun b hb => hb.2)) (fun b hb => hb.1) V3.out)
  have U4 := Lib.hid (stsAt_stays (stays_row (w3.alloc (.cells CS 61)) (g := w3.heap.size) #[.int .u8 s0.kind, .string s0.name, .string s0.other, .slice a3 s0.e.length c3, .slice a4 s0.body.length c4, .slice a5 s0.els.length c5, .int .i64 tp] (fun b hb => hb.2)) (fun b hb => hb.1) V4.out)
  have U5 := Lib.hid (stsAt_stays (stays_row (w3.alloc (.cells CS 61)) (g := w3.heap.size) #[.int .u8 s0.kind, .string s0.name, .string s0.other, .slice a3 s0.e.length c3, .slice a4 s0.body.length c4, .slice a5 s0.els.length c5, .int .i64 tp] (fun b hb => hb.2)) (fun b hb => hb.1) V5.out)
  have E5 : (w3.alloc (.cells CS 61)).setCell ⟨w3.heap.size, 6, none⟩ (.int .i64 tp) = W5 := by
    rw [hW5, setCell_row N4 6 _, hCS]; rfl
  rw [← hW5] at A5 O5 N5 U3 U4 U5
  have t3 : (w3.alloc (.cells CS 61)).cell? ⟨w1.heap.size, 3, none⟩ = some (.int .i64 tp) := by rw [cell_of_row _ w1.heap.size 3 _ _ _ T4]; rfl
  subst hCS
  have HP := Lib.hid hpos
  clear hf3 hR2 hV3 hV4 hV5 hb3 A4 O4 T4 N4 hW5 x2 xf t0 T3 hpos
  go_wp2_with (first | (refine ld rowSt rfl rfl rfl N5 rfl ?_) | (refine st rowSt rfl rfl O5 rfl rfl (by rfl) (by rfl) (by kernel_rfl) ?_))
  have A6 := A5.out.setRow (Nat.le_refl _) hn2.out #[.int .u8 s0.kind, .string s0.name, .string s0.other, .slice a3 s0.e.length c3, .slice a4 s0.body.length c4, .slice a5 s0.els.length c5, .int .i64 tp]
  have hb0 : ∀ b, w.heap.size + 1 ≤ b → b ≠ w.heap.size := fun b h => by omega
  have hb1 : ∀ b, w.heap.size + 1 ≤ b → w.heap.size ≤ b := fun b h => by omega
  refine p_ret rowSt rfl (O5.row #[.int .u8 s0.kind, .string s0.name, .string s0.other, .slice a3 s0.e.length c3, .slice a4 s0.body.length c4, .slice a5 s0.els.length c5, .int .i64 tp]) rfl rfl rfl ?_
  refine ⟨A6.fr, _, k2, rfl, ⟨a3, c3, a4, c4, a5, c5, by rw [HP.out], ?_, ?_, ?_⟩, A6.rd HR.out, rfl⟩
  · exact exsAt_stays (stays_row W5 _ hb0) hb1 U3.out
  · exact stsAt_stays (stays_row W5 _ hb0) hb1 U4.out
  · exact stsAt_stays (stays_row W5 _ hb0) hb1 U5.out
set_option maxRecDepth 100000 in
set_option maxHeartbeats 4000000 in
theorem s_skip {c : Par} {w : World} {k : Nat} (R : Rd c w k) (d : Int) (Y : PR St) (hyp : ¬ (c.nx k).kind = 1 ∧ (c.nx k).tx = [115, 107, 105, 112])
    (HC : ∀ W, Rd c W (k + 1) → Calls Tryd.prog 36 #[c.ptr, tkV (c.nx k), .int .i64 d] W (RdPost c W Y (fun s v w' => s.pos = (c.nx k).pos ∧ stR W.heap.size 0 s v w'))) :
    Calls Tryd.prog 89 #[c.ptr, .int .i64 d] w (RdPost c w Y (stW w.heap.size)) := by
  have hlt := Lib.hid (nx_lt (c := c) (k := k) (.inr (by rw [hyp.2]; decide)))
  have hk6 : k ≤ 65536 := by have := R.s.small.1; have := R.le; omega
  have HN : Hid (∀ W, Rd c W k → Calls Tryd.prog 40 #[c.ptr] W fun e w' => e = .returned (tkV (c.nx k)) ∧ Below W.heap.size W w') := fun W h => p_next h
  obtain ⟨t, ht⟩ : ∃ t, t = c.nx k := ⟨_, rfl⟩
  have HT := Lib.hid ht
  rw [← ht] at HN hyp
  clear ht
  obtain ⟨tk, tx, tw, tp⟩ := t
  have HR := Lib.hid R
  have hX := Lib.hid R.lt
  have A0 := Lib.hid ((At.start R).alloc (.cells zSt 61))
  have O0 := Own.new w 61 zSt
  have hlook : Hid (∀ W, RdS c W → (Instr.lookup 81 (.map (some c.S)) (.string tx) false).run Tryd.prog W = .ok (.func (.func 36) #[.pointer (some ⟨c.X, 0, none⟩)] #[]) W) := fun W S => by
    rw [run_stmts S]; have e : tx.data.toList = [115, 107, 105, 112] := hyp.2; rw [e]; rfl
  clear R
  have HC := Lib.hid HC
  rw [← HT.out] at HC
  have q1 : (tk == 1) = false := by simpa using hyp.1
  clear hyp HT
  unfold tkV Par.ptr zSt at *
  have F1 := fn_eqlS
  go_enter Tryd.func89, Tryd.ntmps89
  go_wp2_with fail
  go_at_call 40
  refine (HN.out _ (A0.out.rd HR.out)).mono ?_
  rintro e w1 ⟨rfl, hb⟩
  have A1 := Lib.hid ((A0.out.below hb).alloc (.cells #[.int .u8 tk, .string tx, .int .i64 tw, .int .i64 tp] 69))
  have O1 := Lib.hid ((O0.below hb).alloc (.cells #[.int .u8 tk, .string tx, .int .i64 tw, .int .i64 tp] 69))
  have T1 := Lib.hid (Own.new w1 69 #[.int .u8 tk, .string tx, .int .i64 tw, .int .i64 tp])
  have hz1 := Lib.hid (O0.below hb).lt
  clear hb O0
  go_upto_region 2 with (fail)
  have hsz : Hid ((w1.alloc (.cells #[.int .u8 tk, .string tx, .int .i64 tw, .int .i64 tp] 69)).heap.size = w1.heap.size + 1) := World.size_alloc _ _
  obtain ⟨W, hW⟩ : ∃ W, W = w1.alloc (.cells #[.int .u8 tk, .string tx, .int .i64 tw, .int .i64 tp] 69) := ⟨_, rfl⟩
  rw [← hW] at A1 O1 T1 hsz ⊢
  clear hW
  obtain ⟨⟨_, _, x2, _, x4, _⟩, xf⟩ := A1.out.cells
  have t1 : W.cell? ⟨w1.heap.size, 1, none⟩ = some (.string tx) := by rw [cell_of_row W w1.heap.size 1 _ _ _ T1.out]; rfl
  have t0 : W.cell? ⟨w1.heap.size, 0, none⟩ = some (.int .u8 tk) := by rw [cell_of_row W w1.heap.size 0 _ _ _ T1.out]; rfl
  have hlk := fun n => hlook.out (W.drewN n) ((A1.out.rd HR.out).s.drewN n)
  go_quiet (fail)
  obtain ⟨W2, hW2⟩ : ∃ W2, W2 = W.drewN nq := ⟨_, rfl⟩
  have A2 := A1.out.drewN nq
  have O2 := O1.out.drewN nq
  have T2 := T1.out.drewN nq
  have hsz : Hid (W2.heap.size = w1.heap.size + 1) := by rw [hW2]; exact hsz.out
  rw [← hW2] at A2 O2 T2 ⊢
  have A2 := Lib.hid A2
  have O2 := Lib.hid O2
  have T2 := Lib.hid T2
  clear hW2 x2 x4 xf t1 t0 hlk A1 O1 T1
  obtain ⟨⟨_, _, x2, _⟩, xf⟩ := A2.out.cells
  have t0 : W2.cell? ⟨w1.heap.size, 0, none⟩ = some (.int .u8 tk) := by rw [cell_of_row W2 w1.heap.size 0 _ _ _ T2.out]; rfl
  have A3 := Lib.hid (A2.out.step hlt.out)
  have hn1 : c.X ≠ w1.heap.size := by have := hX.out; have := hz1.out; omega
  have hn2 : c.X ≠ w.heap.size := by have := hX.out; omega
  have T3 := T2.out.setX 2 (.int .i64 ((k : Int) + 1)) hn1
  have O3 := Lib.hid (O2.out.setX 2 (.int .i64 ((k : Int) + 1)) hn2)
  have hn1 := Lib.hid hn1
  have hn2 := Lib.hid hn2
  go_wp2_with (first | (refine ld rowTok rfl rfl rfl T3 rfl ?_))
  go_at_call 36
  refine (HC.out _ (A3.out.rd HR.out)).mono ?_
  rintro e w3 ⟨hf3, hm⟩
  rcases Y with ⟨s0, r0⟩ | ⟨p, q⟩
  rotate_left
  · obtain rfl := hm
    have A4 := Lib.hid (A3.out.fr.trans hf3)
    clear hf3
    go_wp2_with fail
    exact ⟨rfl, A4.out, rfl⟩
  obtain ⟨v, k2, rfl, ⟨hpos, a3, c3, a4, c4, a5, c5, rfl, hV3, hV4, hV5⟩, hR2, rfl⟩ := hm
  change s0.pos = tp at hpos
  obtain ⟨CS, hCS⟩ : ∃ CS : Array Value, CS = #[.int .u8 s0.kind, .string s0.name, .string s0.other, .slice a3 s0.e.length c3, .slice a4 s0.body.length c4, .slice a5 s0.els.length c5, .int .i64 0] := ⟨_, rfl⟩
  have A4 := Lib.hid ((A3.out.call hf3 hR2).alloc (.cells CS 61))
  have O4 := (O3.out.fr hf3 hn2.out).alloc (.cells CS 61)
  have T4 := (T3.fr hf3 hn1.out).alloc (.cells CS 61)
  have N4 := Own.new w3 61 CS
  have hz3 : w1.heap.size < w3.heap.size := by have h1 := Keep.size hf3; have := hsz.out; rw [World.size_setCell] at h1; omega
  have hb3 : ∀ b, (W2.setCell ⟨c.X, 2, none⟩ (.int .i64 ((k : Int) + 1))).heap.size ≤ b → w.heap.size + 1 ≤ b := fun b hb => by have := hz1.out; have := hsz.out; rw [World.size_setCell] at hb; omega
  have V3 := Lib.hid (exsAt_stays (stays_alloc _ w3 (.cells CS 61)) (fun b hb => hb) (exsAt_in hV3))
  have V4 := Lib.hid (stsAt_stays (stays_alloc _ w3 (.cells CS 61)) (fun b hb => hb) (stsAt_in hV4))
  have V5 := Lib.hid (stsAt_stays (stays_alloc _ w3 (.cells CS 61)) (fun b hb => hb) (stsAt_in hV5))
  have V3 := Lib.hid (exsAt_mono (R' := fun b => w.heap.size + 1 ≤ b ∧ b ≠ w3.heap.size) V3.out (fun b hb => ⟨hb3 b hb.1, by have := hb.2; omega⟩))
  have V4 := Lib.hid (stsAt_mono (R' := fun b => w.heap.size + 1 ≤ b ∧ b ≠ w3.heap.size) V4.out (fun b hb => ⟨hb3 b hb.1, by have := hb.2; omega⟩))
  have V5 := Lib.hid (stsAt_mono (R' := fun b => w.heap.size + 1 ≤ b ∧ b ≠ w3.heap.size) V5.out (fun b hb => ⟨hb3 b hb.1, by have := hb.2; omega⟩))
  obtain ⟨W5, hW5⟩ : ∃ W5, W5 = (w3.alloc (.cells CS 61)).setRow w3.heap.size #[.int .u8 s0.kind, .string s0.name, .string s0.other, .slice a3 s0.e.length c3, .slice a4 s0.body.length c4, .slice a5 s0.els.length c5, .int .i64 tp] := ⟨_, rfl⟩
  have hn3 : c.X ≠ w3.heap.size := by have := hX.out; have := hz1.out; omega
  have hwz : w.heap.size ≤ w3.heap.size := by have := hz1.out; omega
  have hw0 : w.heap.size ≠ w3.heap.size := by have := hz1.out; omega
  have A5 := Lib.hid (A4.out.setRow hwz hn3 #[.int .u8 s0.kind, .string s0.name, .string s0.other, .slice a3 s0.e.length c3, .slice a4 s0.body.length c4, .slice a5 s0.els.length c5, .int .i64 tp])
  have O5 := O4.other (g := w3.heap.size) #[.int .u8 s0.kind, .string s0.name, .string s0.other, .slice a3 s0.e.length c3, .slice a4 s0.body.length c4, .slice a5 s0.els.length c5, .int .i64 tp] hw0
  have N5 := N4.row #[.int .u8 s0.kind, .string s0.name, .string s0.other, .slice a3 s0.e.length c3, .slice a4 s0.body.length c4, .slice a5 s0.els.length c5, .int .i64 tp]
  have U3 := Lib.hid (exsAt_stays (stays_row (w3.alloc (.cells CS 61)) (g := w3.heap.size) #[.int .u8 s0.kind, .string s0.name, .string s0.other, .slice a3 s0.e.length c3, .slice a4 s0.body.length c4, .slice a5 s0.els.length c5, .int .i64 tp] (fun b hb => hb.2)) (fun b hb => hb.1) V3.out)
  have U4 := Lib.hid (stsAt_stays (stays_row (w3.alloc (.cells CS 61)) (g := w3.heap.size) #[.int .u8 s0.kind, .string s0.name, .string s0.other, .slice a3 s0.e.length c3, .slice a4 s0.body.length c4, .slice a5 s0.els.length c5, .int .i64 tp] (fun b hb => hb.2)) (fun b hb => hb.1) V4.out)
  have U5 := Lib.hid (stsAt_stays (stays_row (w3.alloc (.cells CS 61)) (g := w3.heap.size) #[.int .u8 s0.kind, .string s0.name, .string s0.other, .slice a3 s0.e.length c3, .slice a4 s0.body.length c4, .slice a5 s0.els.length c5, .int .i64 tp] (fun b hb => hb.2)) (fun b hb => hb.1) V5.out)
  have E5 : (w3.alloc (.cells CS 61)).setCell ⟨w3.heap.size, 6, none⟩ (.int .i64 tp) = W5 := by
    rw [hW5, setCell_row N4 6 _, hCS]; rfl
  rw [← hW5] at A5 O5 N5 U3 U4 U5
  have t3 : (w3.alloc (.cells CS 61)).cell? ⟨w1.heap.size, 3, none⟩ = some (.int .i64 tp) := by rw [cell_of_row _ w1.heap.size 3 _ _ _ T4]; rfl
  subst hCS
  have HP := Lib.hid hpos
  clear hf3 hR2 hV3 hV4 hV5 hb3 A4 O4 T4 N4 hW5 x2 xf t0 T3 hpos
  go_wp2_with (first | (refine ld rowSt rfl rfl rfl N5 rfl ?_) | (refine st rowSt rfl rfl O5 rfl rfl (by rfl) (by rfl) (by kernel_rfl) ?_))
  have A6 := A5.out.setRow (Nat.le_refl _) hn2.out #[.int .u8 s0.kind, .string s0.name, .string s0.other, .slice a3 s0.e.length c3, .slice a4 s0.body.length c4, .slice a5 s0.els.length c5, .int .i64 tp]
  have hb0 : ∀ b, w.heap.size + 1 ≤ b → b ≠ w.heap.size := fun b h => by omega
  have hb1 : ∀ b, w.heap.size + 1 ≤ b → w.heap.size ≤ b := fun b h => by omega
  refine p_ret rowSt rfl (O5.row #[.int .u8 s0.kind, .string s0.name, .string s0.other, .slice a3 s0.e.length c3, .slice a4 s0.body.length c4, .slice a5 s0.els.length c5, .int .i64 tp]) rfl rfl rfl ?_
  refine ⟨A6.fr, _, k2, rfl, ⟨a3, c3, a4, c4, a5, c5, by rw [HP.out], ?_, ?_, ?_⟩, A6.rd HR.out, rfl⟩
  · exact exsAt_stays (stays_row W5 _ hb0) hb1 U3.out
  · exact stsAt_stays (stays_row W5 _ hb0) hb1 U4.out
  · exact stsAt_stays (stays_row W5 _ hb0) hb1 U5.out
end Go.Proofs.YtgaibdipecngkaaDoor

namespace Go.Proofs.YtgaibdipecngkaaDoor
open Go.RowKit
set_option linter.unusedVariables false
set_option maxRecDepth 100000 in
set_option maxHeartbeats 4000000 in
theorem s_none {c : Par} {w : World} {k : Nat} (R : Rd c w k) (d : Int) (hyp : ¬ (c.nx k).kind = 1 ∧ ¬ (c.nx k).tx = [105, 102] ∧ ¬ (c.nx k).tx = [119, 104, 105, 108, 101] ∧ ¬ (c.nx k).tx = [108, 111, 99, 107] ∧ ¬ (c.nx k).tx = [112, 114, 105, 110, 116] ∧ ¬ (c.nx k).tx = [115, 107, 105, 112]) :
    Calls Tryd.prog 89 #[c.ptr, .int .i64 d] w fun e w' => e = .panicked (flt (hdP c.L (c.at k)) 2) ∧ Fr c w w' := by
  have hp := c.nx_pos k
  rw [← hp]
  clear hp
  have hk6 : k ≤ 65536 := by have := R.s.small.1; have := R.le; omega
  have HN : Hid (∀ W, Rd c W k → Calls Tryd.prog 40 #[c.ptr] W fun e w' => e = .returned (tkV (c.nx k)) ∧ Below W.heap.size W w') := fun W h => p_next h
  obtain ⟨t, ht⟩ : ∃ t, t = c.nx k := ⟨_, rfl⟩
  have HT := Lib.hid ht
  rw [← ht] at HN hyp
  clear ht
  obtain ⟨tk, tx, tw, tp⟩ := t
  have HR := Lib.hid R
  have hX := Lib.hid R.lt
  have A0 := Lib.hid ((At.start R).alloc (.cells zSt 61))
  have O0 := Own.new w 61 zSt
  have hlook : Hid (∀ W, RdS c W → (Instr.lookup 81 (.map (some c.S)) (.string tx) false).run Tryd.prog W = .ok (.nilFunc) W) := fun W S => by
    rw [run_stmts S]
    have e : lookE tx.data.toList c.stmtE = .nilFunc := by
      obtain ⟨_, h1, h2, h3, h4, h5⟩ := hyp
      have h1' : ¬ tx.data.toList = [105, 102] := h1
      have h2' : ¬ tx.data.toList = [119, 104, 105, 108, 101] := h2
      have h3' : ¬ tx.data.toList = [108, 111, 99, 107] := h3
      have h4' : ¬ tx.data.toList = [112, 114, 105, 110, 116] := h4
      have h5' : ¬ tx.data.toList = [115, 107, 105, 112] := h5
      simp only [lookE, Par.stmtE]
      rw [if_neg h1', if_neg h2', if_neg h3', if_neg h4', if_neg h5']
    rw [e]
  clear R
  rw [← HT.out]
  have q1 : (tk == 1) = false := by simpa using hyp.1
  have HQ := Lib.hid (fun w => p_refuse ⟨tk, tx, tw, tp⟩ 2 w)
  have F2 := nil_eqlS
  clear hyp HT
  unfold tkV Par.ptr zSt at *
  have F1 := fn_eqlS
  go_enter Tryd.func89, Tryd.ntmps89
  go_wp2_with fail
  go_at_call 40
  refine (HN.out _ (A0.out.rd HR.out)).mono ?_
  rintro e w1 ⟨rfl, hb⟩
  have A1 := Lib.hid ((A0.out.below hb).alloc (.cells #[.int .u8 tk, .string tx, .int .i64 tw, .int .i64 tp] 69))
  have O1 := Lib.hid ((O0.below hb).alloc (.cells #[.int .u8 tk, .string tx, .int .i64 tw, .int .i64 tp] 69))
  have T1 := Lib.hid (Own.new w1 69 #[.int .u8 tk, .string tx, .int .i64 tw, .int .i64 tp])
  have hz1 := Lib.hid (O0.below hb).lt
  clear hb O0
  go_upto_region 2 with (fail)
  obtain ⟨W, hW⟩ : ∃ W, W = w1.alloc (.cells #[.int .u8 tk, .string tx, .int .i64 tw, .int .i64 tp] 69) := ⟨_, rfl⟩
  rw [← hW] at A1 O1 T1 ⊢
  clear hW
  obtain ⟨⟨_, _, x2, _, x4, _⟩, xf⟩ := A1.out.cells
  have t1 : W.cell? ⟨w1.heap.size, 1, none⟩ = some (.string tx) := by rw [cell_of_row W w1.heap.size 1 _ _ _ T1.out]; rfl
  have t0 : W.cell? ⟨w1.heap.size, 0, none⟩ = some (.int .u8 tk) := by rw [cell_of_row W w1.heap.size 0 _ _ _ T1.out]; rfl
  have hlk := fun n => hlook.out (W.drewN n) ((A1.out.rd HR.out).s.drewN n)
  go_quiet (fail)
  obtain ⟨W2, hW2⟩ : ∃ W2, W2 = W.drewN nq := ⟨_, rfl⟩
  have A2 := A1.out.drewN nq
  have O2 := O1.out.drewN nq
  have T2 := T1.out.drewN nq
  rw [← hW2] at A2 O2 T2 ⊢
  have A2 := Lib.hid A2
  have O2 := Lib.hid O2
  have T2 := Lib.hid T2
  clear hW2 x2 x4 xf t1 t0 hlk A1 O1 T1
  have t0 : W2.cell? ⟨w1.heap.size, 0, none⟩ = some (.int .u8 tk) := by rw [cell_of_row W2 w1.heap.size 0 _ _ _ T2.out]; rfl
  have T3 := T2.out
  go_wp2_with (first | (refine ld rowTok rfl rfl rfl T3 rfl ?_) | (go_at_call 39; refine (HQ.out _).mono ?_; rintro e w3 ⟨rfl, hb⟩; have HC := Lib.hid hb; clear hb))
  exact ⟨rfl, rfl, A2.out.fr.trans (.of_below HC.out)⟩
theorem PR.then_assoc {α β γ : Type} (x : PR α) (f : α → List Tk → PR β) (g : β → List Tk → PR γ) : (x.then f).then g = x.then fun a r => (f a r).then g := by cases x <;> rfl
theorem stsV_in {R : Nat → Prop} {w : World} : ∀ {l : List St} {xs : List Value}, stsV R w l xs → stsV (fun b => R b ∧ b < w.heap.size) w l xs
  | [], xs, h => h
  | x :: r, xs, ⟨us, ys, h1, ⟨a3, c3, a4, c4, a5, c5, h2, h3, h4, h5⟩, h6⟩ => ⟨us, ys, h1, ⟨a3, c3, a4, c4, a5, c5, h2, exsAt_in h3, stsAt_in h4, stsAt_in h5⟩, stsV_in h6⟩
theorem infoSt : (Tryd.prog.info? 61).map (fun i => (i.zero, i.size, i.bytes)) = some (some (.agg zSt), 7, 120) := by kernel_rfl
/-- The contract of statement. -/
def StmtC (n : Nat) : Prop := ∀ (c : Par) (w : World) (k : Nat) (d : Int), Rd c w k → 0 ≤ d → d ≤ 64 → 3 * (c.at k).length + 1 ≤ n →
  Calls Tryd.prog 89 #[c.ptr, .int .i64 d] w (RdPost c w (stmtP fnd c.L n d (c.at k)) (stW w.heap.size))
theorem stmtP_step {c : Par} {k m : Nat} {d : Int} (h : k < c.toks.length) : stmtP fnd c.L (m + 1) d (c.at k) =
    if (c.nx k).kind = 1 then changeP fnd c.L m (c.nx k) (c.at (k + 1))
    else if (c.nx k).tx = [105, 102] then (parenP fnd c.L m (c.at (k + 1))).then fun e r => (blkP c.L m (d + 1) r).then fun b r => if isT [101, 108, 115, 101] r = true then (blkP c.L m (d + 1) r.tail).then fun l r => .ok (St.mk 3 ⟨#[]⟩ ⟨#[]⟩ [e] b l (c.nx k).pos) r else .ok (St.mk 3 ⟨#[]⟩ ⟨#[]⟩ [e] b [] (c.nx k).pos) r
    else if (c.nx k).tx = [119, 104, 105, 108, 101] then (parenP fnd c.L m (c.at (k + 1))).then fun e r => (blkP c.L m (d + 1) r).then fun b r => .ok (St.mk 4 ⟨#[]⟩ ⟨#[]⟩ [e] b [] (c.nx k).pos) r
    else if (c.nx k).tx = [108, 111, 99, 107] then (nameP c.L (c.at (k + 1))).then fun o r => (blkP c.L m (d + 1) r).then fun b r => .ok (St.mk 5 o.name ⟨#[]⟩ [] b [] (c.nx k).pos) r
    else if (c.nx k).tx = [112, 114, 105, 110, 116] then (binE fnd c.L m 1 0 (c.at (k + 1))).then fun e r => (need c.L [59] r).then fun _ r => .ok (St.mk 6 ⟨#[]⟩ ⟨#[]⟩ [e] [] [] (c.nx k).pos) r
    else if (c.nx k).tx = [115, 107, 105, 112] then (need c.L [59] (c.at (k + 1))).then fun _ r => .ok (St.mk 7 ⟨#[]⟩ ⟨#[]⟩ [] [] [] (c.nx k).pos) r
    else .bad (c.nx k).pos 2 := by
  rw [at_nx h]
  simp only [stmtP, blkP, PR.then_assoc]
theorem stmt_step {m : Nat} (HB : BlkC m) : StmtC (m + 1) := by
  intro c w k d R hd0 hd1 hm
  by_cases hk : k < c.toks.length
  · have hl := at_step hk
    have hm' : 3 * (c.at (k + 1)).length + 3 ≤ m := by omega
    rw [stmtP_step hk]
    by_cases h1 : (c.nx k).kind = 1
    · rw [if_pos h1]
      exact s_change R d _ h1 fun W RW => m_change RW (c.nx k) d hd0 hd1 hm'
    rw [if_neg h1]
    by_cases h2 : (c.nx k).tx = [105, 102]
    · rw [if_pos h2]
      exact s_choice R d _ ⟨h1, h2⟩ fun W RW => m_choice HB RW (c.nx k) d hd0 hd1 hm'
    rw [if_neg h2]
    by_cases h3 : (c.nx k).tx = [119, 104, 105, 108, 101]
    · rw [if_pos h3]
      exact s_loop R d _ ⟨h1, h3⟩ fun W RW => m_loop HB RW (c.nx k) d hd0 hd1 hm'
    rw [if_neg h3]
    by_cases h4 : (c.nx k).tx = [108, 111, 99, 107]
    · rw [if_pos h4]
      exact s_guard R d _ ⟨h1, h4⟩ fun W RW => m_guard HB RW (c.nx k) d hd0 hd1 hm'
    rw [if_neg h4]
    by_cases h5 : (c.nx k).tx = [112, 114, 105, 110, 116]
    · rw [if_pos h5]
      exact s_print R d _ ⟨h1, h5⟩ fun W RW => m_print RW (c.nx k) d hd0 hd1 hm'
    rw [if_neg h5]
    by_cases h6 : (c.nx k).tx = [115, 107, 105, 112]
    · rw [if_pos h6]
      exact s_skip R d _ ⟨h1, h6⟩ fun W RW => m_skip (m := m) RW (c.nx k) d
    rw [if_neg h6]
    refine (s_none R d ⟨h1, h2, h3, h4, h5, h6⟩).mono fun e w' ⟨he, hf⟩ => ⟨hf, ?_⟩
    rw [he, ← c.nx_pos k]
  · have e := Par.at_end (c := c) (k := k) (by omega)
    have hn : c.nx k = ⟨0, ⟨#[]⟩, 0, c.L⟩ := by unfold Par.nx; rw [e]
    rw [e]
    refine (s_none R d (by rw [hn]; exact ⟨(by show ¬ (0 : Int) = 1; decide), (by show ¬ ([] : Bs) = _; decide), (by show ¬ ([] : Bs) = _; decide), (by show ¬ ([] : Bs) = _; decide), (by show ¬ ([] : Bs) = _; decide), (by show ¬ ([] : Bs) = _; decide)⟩)).mono fun e' w' ⟨he, hf⟩ => ⟨hf, ?_⟩
    rw [he, e]
    rfl
/-- What holds at the head of a round of rest. -/
def RestI (c : Par) (w : World) (d : Int) (Y : PR (List St)) (m : Nat) (v : Value) (W : World) : Prop :=
  ∃ (j : Nat) (l : List St) (xs : List Value), At c w W j ∧ W.ownsRow w.heap.size 61 7 v l.length xs ∧ stsV (fun b => w.heap.size ≤ b ∧ v.ownBlock ≠ some b) W l xs ∧ restP fnd c.L m d l (c.at j) = Y ∧ 3 * (c.at j).length + 2 ≤ m ∧ l.length + (c.at j).length ≤ 65536
set_option maxRecDepth 100000 in
set_option maxHeartbeats 4000000 in
theorem p_rest {n : Nat} (HI : ∀ m, m < n → StmtC m) {c : Par} {w : World} {k : Nat} {d : Int} (R : Rd c w k) (hd0 : 0 ≤ d) (hd1 : d ≤ 64) (hm : 3 * (c.at k).length + 2 ≤ n) :
    Calls Tryd.prog 72 #[c.ptr, .int .i64 d] w (RdPost c w (restP fnd c.L n d [] (c.at k)) (fun l v w' => stsVal w.heap.size l v w')) := by
  have HP : Hid (∀ W j (s : ByteArray), Rd c W j → s.data.toList ≠ [] → Calls Tryd.prog 50 #[c.ptr, .string s] W fun e w' => e = .returned (.bool (isT s.data.toList (c.at j))) ∧ Fr c W w' ∧ Rd c w' (if isT s.data.toList (c.at j) = true then j + 1 else j)) := fun W j s RW hs => p_pass RW s hs
  have HS : Hid (∀ m, m < n → ∀ W j, Rd c W j → 3 * (c.at j).length + 1 ≤ m → Calls Tryd.prog 89 #[c.ptr, .int .i64 d] W (RdPost c W (stmtP fnd c.L m d (c.at j)) (stW W.heap.size))) := fun m hmn W j RW hf => HI m hmn c W j d RW hd0 hd1 hf
  have hl0 : (c.at k).length ≤ 65536 := by rw [Par.at_len]; have := R.s.small.1; omega
  obtain ⟨Y, hY⟩ : ∃ Y, Y = restP fnd c.L n d [] (c.at k) := ⟨_, rfl⟩
  rw [← hY]
  have B0 : Hid (RestI c w d Y n (.slice none 0 0) w) := ⟨k, [], [], At.start R, World.ownsRow_nil _ _ _ _, rfl, hY.symm, hm, by simpa using hl0⟩
  have HR := Lib.hid R
  have hX := Lib.hid R.lt
  have HYY := Lib.hid (rfl : Y = Y)
  clear HI hY R hm hl0
  unfold Par.ptr at *
  go_enter Tryd.func72, Tryd.ntmps72
  go_wp2_with fail
  go_loopg [5] n (fun m u W => RestI c w d Y m u W ∧ m ≤ n)
  case atStart => exact ⟨B0.out, Nat.le_refl _⟩
  case round =>
    obtain ⟨⟨j, l, xs, A1, hrow, hsv, hL, hfu, hle⟩, hgn⟩ := hrel
    have HA1 := Lib.hid A1
    have HROW := Lib.hid hrow
    have HSV := Lib.hid hsv
    have HL := Lib.hid hL
    have HFU := Lib.hid (And.intro hfu hle)
    have HGN := Lib.hid hgn
    obtain ⟨oa, cap, rfl, hoa⟩ := row_shape hrow
    have HOA := Lib.hid hoa
    clear A1 hrow hsv hL hfu hle hoa hgn
    by_cases h1 : isT [125] (c.at j) = true
    · have H1 := Lib.hid h1
      have hs2 : Y = .ok l (c.at (j + 1)) := by
        obtain ⟨m, rfl⟩ : ∃ m, gk = m + 1 := ⟨gk - 1, by have := HFU.out.1; omega⟩
        rw [← HL.out]; unfold restP; rw [if_pos h1, Par.at_tail]
      have HSP := Lib.hid hs2
      clear h1 hs2
      go_wp2_with fail
      go_at_call 50
      refine (HP.out _ j ⟨#[125]⟩ (HA1.out.rd HR.out) (by decide)).mono ?_
      rintro e w2 ⟨he, hf2, hR2⟩
      rw [show (⟨#[125]⟩ : ByteArray).data.toList = [125] from rfl, H1.out] at he hR2
      rw [if_pos rfl] at hR2
      subst he
      have A2 := Lib.hid (HA1.out.call hf2 hR2)
      have ROW2 := Lib.hid (row_fr HROW.out hf2 hX.out)
      have SV2 := Lib.hid (stsV_stays (stays_fr hf2 (fun b hb => by have := hb.1; have := hX.out; omega)) (fun b hb => hb) HSV.out)
      clear hf2 hR2
      go_wp2_with fail
      go_ret
      show RdPost c w Y _ _ _
      rw [HSP.out]
      refine ⟨A2.out.fr, _, j + 1, rfl, ⟨_, _, rfl, ?_⟩, A2.out.rd HR.out, rfl⟩
      cases l with
      | nil => exact .inl rfl
      | cons x xx =>
        obtain ⟨g, rfl, hg⟩ := HOA.out (by simp)
        exact .inr ⟨g, 0, rfl, hg, stsIn_of (stsV_stays (R' := fun b => w.heap.size ≤ b) (Stays.refl _ _) (fun b hb => hb.1) SV2.out) (row_cells ROW2.out rfl)⟩
    · have h1' : isT [125] (c.at j) = false := by simpa using h1
      obtain ⟨m, rfl⟩ : ∃ m, gk = m + 1 := ⟨gk - 1, by have := HFU.out.1; omega⟩
      have hs2 : Y = (stmtP fnd c.L m d (c.at j)).then fun s r => restP fnd c.L m d (l ++ [s]) r := by
        rw [← HL.out]; conv => lhs; unfold restP
        rw [h1']; rfl
      obtain ⟨Z, hZ⟩ : ∃ Z, Z = stmtP fnd c.L m d (c.at j) := ⟨_, rfl⟩
      rw [← hZ] at hs2
      have HSP := Lib.hid hs2
      have HKZ : Hid (∀ W, Rd c W j → Calls Tryd.prog 89 #[.pointer (some ⟨c.X, 0, none⟩), .int .i64 d] W (RdPost c W Z (stW W.heap.size))) := fun W RW => by rw [hZ]; exact HS.out m (by have := HGN.out; omega) W j RW (by have := HFU.out.1; omega)
      have HZL : Hid (∀ s r, Z = .ok s r → r.length < (c.at j).length) := fun s r h => stmtP_short (hZ.symm.trans h)
      have H1 := Lib.hid h1'
      clear h1 h1' hs2 hZ
      go_wp2_with fail
      go_at_call 50
      refine (HP.out _ j ⟨#[125]⟩ (HA1.out.rd HR.out) (by decide)).mono ?_
      rintro e w2 ⟨he, hf2, hR2⟩
      rw [show (⟨#[125]⟩ : ByteArray).data.toList = [125] from rfl, H1.out] at he hR2
      rw [if_neg (by simp)] at hR2
      subst he
      have A2 := Lib.hid (HA1.out.call hf2 hR2)
      have ROW2 := Lib.hid (row_fr HROW.out hf2 hX.out)
      have SV2 := Lib.hid (stsV_stays (stays_fr hf2 (fun b hb => by have := hb.1; have := hX.out; omega)) (fun b hb => hb) HSV.out)
      clear hf2 hR2
      go_wp2_with fail
      go_at_call 89
      refine (HKZ.out _ (A2.out.rd HR.out)).mono ?_
      rintro e w3 ⟨hf3, hm3⟩
      rcases Z with ⟨s2, r2⟩ | ⟨p, q⟩
      rotate_left
      · obtain rfl := hm3
        have A3 := Lib.hid (A2.out.fr.trans hf3)
        clear hf3
        go_wp2_with fail
        refine ⟨rfl, ?_⟩
        show RdPost c w Y _ _ _
        rw [HSP.out]
        exact ⟨A3.out, rfl⟩
      obtain ⟨v3, k3, rfl, ⟨a3, c3, a4, c4, a5, c5, rfl, hV3, hV4, hV5⟩, hR3, rfl⟩ := hm3
      have hz2 : w.heap.size ≤ w2.heap.size := Keep.size A2.out.fr
      have hz23 : w2.heap.size ≤ w3.heap.size := Keep.size hf3
      have row3 := (row_fr ROW2.out hf3 hX.out).alloc (.cells #[.int .u8 s2.kind, .string s2.name, .string s2.other, .slice a3 s2.e.length c3, .slice a4 s2.body.length c4, .slice a5 s2.els.length c5, .int .i64 s2.pos] 61)
      have hlt2 := ROW2.out.lt
      have A3 := Lib.hid ((A2.out.call hf3 hR3).alloc (.cells #[.int .u8 s2.kind, .string s2.name, .string s2.other, .slice a3 s2.e.length c3, .slice a4 s2.body.length c4, .slice a5 s2.els.length c5, .int .i64 s2.pos] 61))
      have SV3 := stsV_stays (stays_fr hf3 (fun b hb => by have := hb.1; have := hX.out; omega)) (fun b hb => hb) SV2.out
      have NV : stV (fun b => w.heap.size ≤ b ∧ (Value.slice oa l.length cap).ownBlock ≠ some b ∧ b < w3.heap.size) w3 s2 [.int .u8 s2.kind, .string s2.name, .string s2.other, .slice a3 s2.e.length c3, .slice a4 s2.body.length c4, .slice a5 s2.els.length c5, .int .i64 s2.pos] := by
        have hq : ∀ b, w2.heap.size ≤ b ∧ b < w3.heap.size → w.heap.size ≤ b ∧ (Value.slice oa l.length cap).ownBlock ≠ some b ∧ b < w3.heap.size := fun b hb => ⟨by omega, fun e => by have := (hlt2 b e).2; omega, hb.2⟩
        exact ⟨a3, c3, a4, c4, a5, c5, rfl, exsAt_mono (exsAt_in hV3) hq, stsAt_mono (stsAt_in hV4) hq, stsAt_mono (stsAt_in hV5) hq⟩
      have SVN := stsV_snoc (stsV_stays (R' := fun b => w.heap.size ≤ b ∧ (Value.slice oa l.length cap).ownBlock ≠ some b ∧ b < w3.heap.size) (Stays.refl _ w3) (fun b hb => ⟨hb.1.1, hb.1.2, hb.2⟩) (stsV_in SV3)) NV
      have SVN := Lib.hid (stsV_stays (stays_alloc _ w3 (.cells #[.int .u8 s2.kind, .string s2.name, .string s2.other, .slice a3 s2.e.length c3, .slice a4 s2.body.length c4, .slice a5 s2.els.length c5, .int .i64 s2.pos] 61)) (fun b hb => hb) SVN)
      have hz3 : w.heap.size ≤ w3.heap.size := by omega
      have hl6 : l.length ≤ 65536 := by have := HFU.out.2; omega
      obtain ⟨i0, hi, hi0, hi1, hi2⟩ := info_parts infoSt
      have hk3 := Lib.hid (HZL.out _ _ rfl)
      have N3 := Own.new w3 61 #[.int .u8 s2.kind, .string s2.name, .string s2.other, .slice a3 s2.e.length c3, .slice a4 s2.body.length c4, .slice a5 s2.els.length c5, .int .i64 s2.pos]
      have HNEWS : Hid (∀ jj u, [Value.int .u8 s2.kind, .string s2.name, .string s2.other, .slice a3 s2.e.length c3, .slice a4 s2.body.length c4, .slice a5 s2.els.length c5, .int .i64 s2.pos][jj]? = some u → (w3.alloc (.cells #[.int .u8 s2.kind, .string s2.name, .string s2.other, .slice a3 s2.e.length c3, .slice a4 s2.body.length c4, .slice a5 s2.els.length c5, .int .i64 s2.pos] 61)).cell? ((⟨w3.heap.size, 0, none⟩ : Addr).add jj) = some u) := World.news_of_block N3
      have HSZ := Lib.hid (World.size_alloc w3 (.cells #[.int .u8 s2.kind, .string s2.name, .string s2.other, .slice a3 s2.e.length c3, .slice a4 s2.body.length c4, .slice a5 s2.els.length c5, .int .i64 s2.pos] 61))
      have HZ23 := Lib.hid hz23
      clear hf3 hR3 hV3 hV4 hV5 SV3 NV hz2 hz23 hlt2
      go_wp2_with (at_builtin; refine wpList_append_lies _ rfl _ _ 54 rfl w.heap.size 61 i0 _ 7 120 Tryd.underlying54 hi hi0 hi1 hi2 rfl (by decide) _ _ _ rfl row3 ⟨w3.heap.size, 0, none⟩ 1 1 [.int .u8 s2.kind, .string s2.name, .string s2.other, .slice a3 s2.e.length c3, .slice a4 s2.body.length c4, .slice a5 s2.els.length c5, .int .i64 s2.pos] rfl rfl HNEWS.out (by simp [Value.oneCell']) (by decide) (by simp only [maxLen]; omega) (by omega) (by rw [HSZ.out]; omega) _ rfl ?_; intro g2 cap2 w4 hown' hgrow hlies hglt; have ROW4 := Lib.hid hown'; have GR := Lib.hid hgrow; have LIES := Lib.hid hlies; clear hown' hgrow hlies)
      go_roundg m
      case measure => omega
      case rel =>
        have hx := hX.out
        refine ⟨⟨k3, l ++ [s2], _, grown_fr A3.out GR.out (fun r hr => ?_), by rw [List.length_append]; exact ROW4.out, ?_, HSP.out.symm, by have := HFU.out.1; have := hk3.out; omega, by have := HFU.out.2; have := hk3.out; rw [List.length_append, List.length_singleton]; omega⟩, by have := HGN.out; omega⟩
        · have h2 := (row3.lt r hr).1
          exact ⟨h2, by omega⟩
        · refine stsV_stays (stays_grown GR.out (fun b hb => hb.2.1)) (fun b hb => ⟨hb.1, ?_⟩) SVN.out
          intro e
          have e : g2 = b := by simpa [Value.ownBlock] using e
          subst e
          rcases LIES.out with h | h
          · exact hb.2.1 h
          · rw [HSZ.out] at h; have := hb.2.2; omega
theorem p_block {m : Nat} (HI : ∀ m', m' < m → StmtC m') : BlkC m := by
  intro c w k d R hd0 hd1 hm
  obtain ⟨Y, hY⟩ : ∃ Y, Y = blkP c.L m d (c.at k) := ⟨_, rfl⟩
  have HS := Lib.hid hY
  rw [← hY]
  have hl0 := Lib.hid R.le
  have HR := Lib.hid R
  have hX := Lib.hid R.lt
  have HM := Lib.hid hm
  have HO : Hid (∀ W, Rd c W k → Calls Tryd.prog 71 #[c.ptr, .int .i64 d] W (RdPost c W (openP c.L d (c.at k)) (fun _ v _ => v = .tuple #[]))) := fun W RW => p_open RW d
  have HRS : Hid (∀ W j, Rd c W j → d ≤ 64 → 3 * (c.at j).length + 2 ≤ m → Calls Tryd.prog 72 #[c.ptr, .int .i64 d] W (RdPost c W (restP fnd c.L m d [] (c.at j)) (fun l v w' => stsVal W.heap.size l v w'))) := fun W j RW hd hf => p_rest HI RW hd0 hd hf
  obtain ⟨O, hO⟩ : ∃ O, O = openP c.L d (c.at k) := ⟨_, rfl⟩
  rw [← hO] at HO
  have HOD : Hid (∀ u r, O = .ok u r → d ≤ 64 ∧ r.length < (c.at k).length) := fun u r h => by
    have h := hO.symm.trans h
    refine ⟨?_, by have := open_short h; omega⟩
    unfold openP at h
    obtain ⟨a, b, h1, h2⟩ := PR.then_eq_ok h
    split at h2
    · cases h2
    · omega
  have HS : Hid (Y = O.then fun _ r => restP fnd c.L m d [] r) := by rw [Hid, HS.out, hO]; rfl
  have A0 := Lib.hid (At.start R)
  clear hY R hm hO HI
  unfold Par.ptr at *
  go_enter Tryd.func59, Tryd.ntmps59
  go_wp2_with fail
  go_at_call 71
  refine (HO.out _ HR.out).mono ?_
  rintro e w1 ⟨hf1, hm1⟩
  rcases O with ⟨o1, r1⟩ | ⟨p, q⟩
  rotate_left
  · obtain rfl := hm1
    have A1 := Lib.hid hf1
    clear hf1
    go_wp2_with fail
    refine ⟨rfl, ?_⟩
    rw [HS.out]
    exact ⟨A1.out, rfl⟩
  obtain ⟨v1, k1, rfl, rfl, hR1, rfl⟩ := hm1
  have HOD := Lib.hid (HOD.out _ _ rfl)
  have A1 := Lib.hid (A0.out.call hf1 hR1)
  obtain ⟨Z, hZ⟩ : ∃ Z, Z = restP fnd c.L m d [] (c.at k1) := ⟨_, rfl⟩
  have HC : Hid (∀ W, Rd c W k1 → Calls Tryd.prog 72 #[.pointer (some ⟨c.X, 0, none⟩), .int .i64 d] W (RdPost c W Z (fun l v w' => stsVal W.heap.size l v w'))) := fun W RW => by rw [hZ]; exact HRS.out W k1 RW HOD.out.1 (by have := HM.out; have := HOD.out.2; omega)
  have HS : Hid (Y = Z) := by rw [Hid, HS.out, hZ]; rfl
  clear hf1 hR1 hZ
  go_wp2_with fail
  go_at_call 72
  refine (HC.out _ (A1.out.rd HR.out)).mono ?_
  rintro e w2 ⟨hf2, hm2⟩
  rcases Z with ⟨l2, r2⟩ | ⟨p, q⟩
  rotate_left
  · obtain rfl := hm2
    have A2 := Lib.hid (A1.out.fr.trans hf2)
    clear hf2
    go_wp2_with fail
    refine ⟨rfl, ?_⟩
    rw [HS.out]
    exact ⟨A2.out, rfl⟩
  obtain ⟨v2, k2, rfl, ⟨a, cap, rfl, hV⟩, hR2, rfl⟩ := hm2
  have V2 : Hid (stsAt (fun b => w.heap.size ≤ b) w2 l2 a) := Lib.hid (stsAt_mono hV (fun b hb => by have := A1.out.fr.size; change _ ≤ _ at hb; omega))
  have A2 := Lib.hid (A1.out.call hf2 hR2)
  clear hf2 hR2 hV
  go_wp2_with fail
  go_ret
  rw [HS.out]
  exact ⟨A2.out.fr, _, k2, rfl, ⟨_, _, rfl, V2.out⟩, A2.out.rd HR.out, rfl⟩
theorem stmt_all : ∀ n, StmtC n := by
  intro n
  induction n using Nat.strongRecOn with
  | ind n ih =>
    cases n with
    | zero => intro c w k d R _ _ h; omega
    | succ m => exact stmt_step (p_block fun m' h => ih m' (by omega))
end Go.Proofs.YtgaibdipecngkaaDoor

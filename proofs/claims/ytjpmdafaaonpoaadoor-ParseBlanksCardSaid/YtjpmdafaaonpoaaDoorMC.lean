/- The proof, part 3: texts that belong together, in one. -/
import Derived.Test.YtjpmdafaaonpoaaDoorMB
import Derived.Deep.AppendLies
import Derived.Carry
import Derived.Recover
import Derived.Tactics2
import Derived.RegionTactic
namespace Go.Proofs.YtjpmdafaaonpoaaDoor
open Go.RowKit
set_option linter.unusedVariables false
theorem zeroFnS (w : World) : (zeroValue 114).run Tryd.prog w = .ok .nilFunc w := by kernel_rfl
theorem stmts_keys (c : Par) : ∀ e ∈ c.stmtE, ∃ t, e.key = .string t := by
  intro e he
  simp only [Par.stmtE, List.mem_cons, List.not_mem_nil, or_false] at he
  rcases he with rfl | rfl | rfl | rfl | rfl <;> exact ⟨_, rfl⟩
theorem run_stmts {c : Par} {W : World} (S : RdS c W) (s : ByteArray) : (Instr.lookup 96 (.map (some c.S)) (.string s) false).run Tryd.prog W = .ok (lookE s.data.toList c.stmtE) W :=
  run_look Tryd.underlying96 Tryd.underlying9 (zeroFnS W) S.sm (stmts_keys c) s
theorem fn_eqlS : ∀ (f : Fn) (u v : Array Value) (w : World), (binOp .eql 114 (.func f u v) .nilFunc).run Tryd.prog w = .ok (.bool false) w := fun f u v w => by kernel_rfl
theorem nil_eqlS : ∀ (w : World), (binOp .eql 114 .nilFunc .nilFunc).run Tryd.prog w = .ok (.bool true) w := fun w => by kernel_rfl
def stW (n : Nat) (s : St) (v : Value) (W : World) : Prop := stR n s.pos s v W
theorem stsAt_in {R : Nat → Prop} {w : World} {l : List St} {a : Option Addr} (h : stsAt R w l a) : stsAt (fun b => R b ∧ b < w.heap.size) w l a := by
  have key : ∀ (l : List St) (b off : Nat), stsIn R w l b off → stsIn (fun b => R b ∧ b < w.heap.size) w l b off := by
    intro l
    induction l using Sts.ind with
    | h0 => intro b off _; exact trivial
    | h1 k n o e bd el p r ih1 ih2 ih3 =>
      intro b off h
      obtain ⟨⟨c0, c1, c2, ⟨a3, cap3, c3, h3⟩, ⟨a4, cap4, c4, h4⟩, ⟨a5, cap5, c5, h5⟩, c6⟩, hr⟩ := h
      refine ⟨⟨c0, c1, c2, ⟨a3, cap3, c3, exsAt_in h3⟩, ⟨a4, cap4, c4, ?_⟩, ⟨a5, cap5, c5, ?_⟩, c6⟩, ih3 b _ hr⟩
      · rcases h4 with h4 | ⟨g, q, rfl, hg, hi⟩
        · exact .inl h4
        · cases bd with
          | nil => exact .inl rfl
          | cons x xs =>
            refine .inr ⟨g, q, rfl, ⟨hg, ?_⟩, ih1 g q hi⟩
            obtain ⟨k', n', o', e', b', l', p'⟩ := x
            exact cell_lt hi.1.1
      · rcases h5 with h5 | ⟨g, q, rfl, hg, hi⟩
        · exact .inl h5
        · cases el with
          | nil => exact .inl rfl
          | cons x xs =>
            refine .inr ⟨g, q, rfl, ⟨hg, ?_⟩, ih2 g q hi⟩
            obtain ⟨k', n', o', e', b', l', p'⟩ := x
            exact cell_lt hi.1.1
  rcases h with h | ⟨g, q, rfl, hg, hi⟩
  · exact .inl h
  · cases l with
    | nil => exact .inl rfl
    | cons x xs =>
      refine .inr ⟨g, q, rfl, ⟨hg, ?_⟩, key _ g q hi⟩
      obtain ⟨k', n', o', e', b', l', p'⟩ := x
      exact cell_lt hi.1.1
set_option maxRecDepth 100000 in
set_option maxHeartbeats 4000000 in
theorem s_change {c : Par} {w : World} {k : Nat} (R : Rd c w k) (d : Int) (Y : PR St) (hyp : (c.nx k).kind = 1)
    (HC : ∀ W, Rd c W (k + 1) → Calls Tryd.prog 110 #[c.ptr, tkV (c.nx k), .int .i64 d] W (RdPost c W Y (fun s v w' => s.pos = (c.nx k).pos ∧ stR W.heap.size 0 s v w'))) :
    Calls Tryd.prog 96 #[c.ptr, .int .i64 d] w (RdPost c w Y (stW w.heap.size)) := by
  have hlt := Lib.hid (nx_lt (c := c) (k := k) (.inl (by rw [hyp]; decide)))
  have hk6 : k ≤ 65536 := by have := R.s.small.1; have := R.le; omega
  have HN : Hid (∀ W, Rd c W k → Calls Tryd.prog 44 #[c.ptr] W fun e w' => e = .returned (tkV (c.nx k)) ∧ Below W.heap.size W w') := fun W h => p_next h
  obtain ⟨t, ht⟩ : ∃ t, t = c.nx k := ⟨_, rfl⟩
  have HT := Lib.hid ht
  rw [← ht] at HN hyp
  clear ht
  obtain ⟨tk, tx, tw, tp⟩ := t
  have HR := Lib.hid R
  have hX := Lib.hid R.lt
  have A0 := Lib.hid ((At.start R).alloc (.cells zSt 74))
  have O0 := Own.new w 74 zSt
  have hlook : Hid (∀ W, RdS c W → (Instr.lookup 96 (.map (some c.S)) (.string tx) false).run Tryd.prog W = .ok (lookE tx.data.toList c.stmtE) W) := fun W S => run_stmts S _
  obtain ⟨V, hV⟩ : ∃ V, V = lookE tx.data.toList c.stmtE := ⟨_, rfl⟩
  rw [← hV] at hlook
  clear hV
  clear R
  have HC := Lib.hid HC
  rw [← HT.out] at HC
  simp only at hyp
  subst hyp
  clear HT
  unfold tkV Par.ptr zSt at *
  have F1 := fn_eqlS
  go_enter Tryd.func96, Tryd.ntmps96
  go_wp2_with fail
  go_at_call 44
  refine (HN.out _ (A0.out.rd HR.out)).mono ?_
  rintro e w1 ⟨rfl, hb⟩
  have A1 := Lib.hid ((A0.out.below hb).alloc (.cells #[.int .u8 1, .string tx, .int .i64 tw, .int .i64 tp] 49))
  have O1 := Lib.hid ((O0.below hb).alloc (.cells #[.int .u8 1, .string tx, .int .i64 tw, .int .i64 tp] 49))
  have T1 := Lib.hid (Own.new w1 49 #[.int .u8 1, .string tx, .int .i64 tw, .int .i64 tp])
  have hz1 := Lib.hid (O0.below hb).lt
  clear hb O0
  go_upto_region 2 with (fail)
  have hsz : Hid ((w1.alloc (.cells #[.int .u8 1, .string tx, .int .i64 tw, .int .i64 tp] 49)).heap.size = w1.heap.size + 1) := World.size_alloc _ _
  obtain ⟨W, hW⟩ : ∃ W, W = w1.alloc (.cells #[.int .u8 1, .string tx, .int .i64 tw, .int .i64 tp] 49) := ⟨_, rfl⟩
  rw [← hW] at A1 O1 T1 hsz ⊢
  clear hW
  obtain ⟨⟨_, _, x2, _, x4, _⟩, xf⟩ := A1.out.cells
  have t1 : W.cell? ⟨w1.heap.size, 1, none⟩ = some (.string tx) := by rw [cell_of_row W w1.heap.size 1 _ _ _ T1.out]; rfl
  have t0 : W.cell? ⟨w1.heap.size, 0, none⟩ = some (.int .u8 1) := by rw [cell_of_row W w1.heap.size 0 _ _ _ T1.out]; rfl
  have hlk := fun n => hlook.out (W.drewN n) ((A1.out.rd HR.out).s.drewN n)
  go_quiet (fail)
  obtain ⟨W2, hW2⟩ : ∃ W2, W2 = W.drewN nq := ⟨_, rfl⟩
  have A2 := A1.out.drewN nq
  have O2 := O1.out.drewN nq
  have T2 := T1.out.drewN nq
  have hsz : Hid (W2.heap.size = w1.heap.size + 1) := by rw [hW2]; exact hsz.out
  rw [← hW2] at A2 O2 T2 ⊢
  have A2 := Lib.hid A2
  have O2 := Lib.hid O2
  have T2 := Lib.hid T2
  clear hW2 x2 x4 xf t1 t0 hlk A1 O1 T1
  obtain ⟨⟨_, _, x2, _⟩, xf⟩ := A2.out.cells
  have t0 : W2.cell? ⟨w1.heap.size, 0, none⟩ = some (.int .u8 1) := by rw [cell_of_row W2 w1.heap.size 0 _ _ _ T2.out]; rfl
  have A3 := Lib.hid (A2.out.step hlt.out)
  have hn1 : c.X ≠ w1.heap.size := by have := hX.out; have := hz1.out; omega
  have hn2 : c.X ≠ w.heap.size := by have := hX.out; omega
  have T3 := T2.out.setX 2 (.int .i64 ((k : Int) + 1)) hn1
  have O3 := Lib.hid (O2.out.setX 2 (.int .i64 ((k : Int) + 1)) hn2)
  have hn1 := Lib.hid hn1
  have hn2 := Lib.hid hn2
  go_wp2_with (first | (refine ld rowTok rfl rfl rfl T3 rfl ?_))
  go_at_call 110
  refine (HC.out _ (A3.out.rd HR.out)).mono ?_
  rintro e w3 ⟨hf3, hm⟩
  rcases Y with ⟨s0, r0⟩ | ⟨p, q⟩
  rotate_left
  · obtain rfl := hm
    have A4 := Lib.hid (A3.out.fr.trans hf3)
    clear hf3
    go_wp2_with fail
    exact ⟨rfl, A4.out, rfl⟩
  obtain ⟨v, k2, rfl, ⟨hpos, a3, c3, a4, c4, a5, c5, rfl, hV3, hV4, hV5⟩, hR2, rfl⟩ := hm
  change s0.pos = tp at hpos
  obtain ⟨CS, hCS⟩ : ∃ CS : Array Value, CS = #[.int .u8 s0.kind, .string s0.name, .string s0.other, .slice a3 s0.e.length c3, .slice a4 s0.body.length c4, .slice a5 s0.els.length c5, .int .i64 0] := ⟨_, rfl⟩
  have A4 := Lib.hid ((A3.out.call hf3 hR2).alloc (.cells CS 74))
  have O4 := (O3.out.fr hf3 hn2.out).alloc (.cells CS 74)
  have T4 := (T3.fr hf3 hn1.out).alloc (.cells CS 74)
  have N4 := Own.new w3 74 CS
  have hz3 : w1.heap.size < w3.heap.size := by have h1 := Keep.size hf3; have := hsz.out; rw [World.size_setCell] at h1; omega
  have hb3 : ∀ b, (W2.setCell ⟨c.X, 2, none⟩ (.int .i64 ((k : Int) + 1))).heap.size ≤ b → w.heap.size + 1 ≤ b := fun b hb => by have := hz1.out; have := hsz.out; rw [World.size_setCell] at hb; omega
  have V3 := Lib.hid (exsAt_stays (stays_alloc _ w3 (.cells CS 74)) (fun b hb => hb) (exsAt_in hV3))
  have V4 := Lib.hid (stsAt_stays (stays_alloc _ w3 (.cells CS 74)) (fun b hb => hb) (stsAt_in hV4))
  have V5 := Lib.hid (stsAt_stays (stays_alloc _ w3 (.cells CS 74)) (fun b hb => hb) (stsAt_in hV5))
  have V3 := Lib.hid (exsAt_mono (R' := fun b => w.heap.size + 1 ≤ b ∧ b ≠ w3.heap.size) V3.out (fun b hb => ⟨hb3 b hb.1, by have := hb.2; omega⟩))
  have V4 := Lib.hid (stsAt_mono (R' := fun b => w.heap.size + 1 ≤ b ∧ b ≠ w3.heap.size) V4.out (fun b hb => ⟨hb3 b hb.1, by have := hb.2; omega⟩))
  have V5 := Lib.hid (stsAt_mono (R' := fun b => w.heap.size + 1 ≤ b ∧ b ≠ w3.heap.size) V5.out (fun b hb => ⟨hb3 b hb.1, by have := hb.2; omega⟩))
  obtain ⟨W5, hW5⟩ : ∃ W5, W5 = (w3.alloc (.cells CS 74)).setRow w3.heap.size #[.int .u8 s0.kind, .string s0.name, .string s0.other, .slice a3 s0.e.length c3, .slice a4 s0.body.length c4, .slice a5 s0.els.length c5, .int .i64 tp] := ⟨_, rfl⟩
  have hn3 : c.X ≠ w3.heap.size := by have := hX.out; have := hz1.out; omega
  have hwz : w.heap.size ≤ w3.heap.size := by have := hz1.out; omega
  have hw0 : w.heap.size ≠ w3.heap.size := by have := hz1.out; omega
  have A5 := Lib.hid (A4.out.setRow hwz hn3 #[.int .u8 s0.kind, .string s0.name, .string s0.other, .slice a3 s0.e.length c3, .slice a4 s0.body.length c4, .slice a5 s0.els.length c5, .int .i64 tp])
  have O5 := O4.other (g := w3.heap.size) #[.int .u8 s0.kind, .string s0.name, .string s0.other, .slice a3 s0.e.length c3, .slice a4 s0.body.length c4, .slice a5 s0.els.length c5, .int .i64 tp] hw0
  have N5 := N4.row #[.int .u8 s0.kind, .string s0.name, .string s0.other, .slice a3 s0.e.length c3, .slice a4 s0.body.length c4, .slice a5 s0.els.length c5, .int .i64 tp]
  have U3 := Lib.hid (exsAt_stays (stays_row (w3.alloc (.cells CS 74)) (g := w3.heap.size) #[.int .u8 s0.kind, .string s0.name, .string s0.other, .slice a3 s0.e.length c3, .slice a4 s0.body.length c4, .slice a5 s0.els.length c5, .int .i64 tp] (fun b hb => hb.2)) (fun b hb => hb.1) V3.out)
  have U4 := Lib.hid (stsAt_stays (stays_row (w3.alloc (.cells CS 74)) (g := w3.heap.size) #[.int .u8 s0.kind, .string s0.name, .string s0.other, .slice a3 s0.e.length c3, .slice a4 s0.body.length c4, .slice a5 s0.els.length c5, .int .i64 tp] (fun b hb => hb.2)) (fun b hb => hb.1) V4.out)
  have U5 := Lib.hid (stsAt_stays (stays_row (w3.alloc (.cells CS 74)) (g := w3.heap.size) #[.int .u8 s0.kind, .string s0.name, .string s0.other, .slice a3 s0.e.length c3, .slice a4 s0.body.length c4, .slice a5 s0.els.length c5, .int .i64 tp] (fun b hb => hb.2)) (fun b hb => hb.1) V5.out)
  have E5 : (w3.alloc (.cells CS 74)).setCell ⟨w3.heap.size, 6, none⟩ (.int .i64 tp) = W5 := by
    rw [hW5, setCell_row N4 6 _, hCS]; rfl
  rw [← hW5] at A5 O5 N5 U3 U4 U5
  have t3 : (w3.alloc (.cells CS 74)).cell? ⟨w1.heap.size, 3, none⟩ = some (.int .i64 tp) := by rw [cell_of_row _ w1.heap.size 3 _ _ _ T4]; rfl
  subst hCS
  have HP := Lib.hid hpos
  clear hf3 hR2 hV3 hV4 hV5 hb3 A4 O4 T4 N4 hW5 x2 xf t0 T3 hpos
  go_wp2_with (first | (refine ld rowSt rfl rfl rfl N5 rfl ?_) | (refine st rowSt rfl rfl O5 rfl rfl (by rfl) (by rfl) (by kernel_rfl) ?_))
  have A6 := A5.out.setRow (Nat.le_refl _) hn2.out #[.int .u8 s0.kind, .string s0.name, .string s0.other, .slice a3 s0.e.length c3, .slice a4 s0.body.length c4, .slice a5 s0.els.length c5, .int .i64 tp]
  have hb0 : ∀ b, w.heap.size + 1 ≤ b → b ≠ w.heap.size := fun b h => by omega
  have hb1 : ∀ b, w.heap.size + 1 ≤ b → w.heap.size ≤ b := fun b h => by omega
  refine p_ret rowSt rfl (O5.row #[.int .u8 s0.kind, .string s0.name, .string s0.other, .slice a3 s0.e.length c3, .slice a4 s0.body.length c4, .slice a5 s0.els.length c5, .int .i64 tp]) rfl rfl rfl ?_
  refine ⟨A6.fr, _, k2, rfl, ⟨a3, c3, a4, c4, a5, c5, by rw [HP.out], ?_, ?_, ?_⟩, A6.rd HR.out, rfl⟩
  · exact exsAt_stays (stays_row W5 _ hb0) hb1 U3.out
  · exact stsAt_stays (stays_row W5 _ hb0) hb1 U4.out
  · exact stsAt_stays (stays_row W5 _ hb0) hb1 U5.out
set_option maxRecDepth 100000 in
set_option maxHeartbeats 4000000 in
theorem s_choice {c : Par} {w : World} {k : Nat} (R : Rd c w k) (d : Int) (Y : PR St) (hyp : ¬ (c.nx k).kind = 1 ∧ (c.nx k).tx = [105, 102])
    (HC : ∀ W, Rd c W (k + 1) → Calls Tryd.prog 54 #[c.ptr, tkV (c.nx k), .int .i64 d] W (RdPost c W Y (fun s v w' => s.pos = (c.nx k).pos ∧ stR W.heap.size 0 s v w'))) :
    Calls Tryd.prog 96 #[c.ptr, .int .i64 d] w (RdPost c w Y (stW w.heap.size)) := by
  have hlt := Lib.hid (nx_lt (c := c) (k := k) (.inr (by rw [hyp.2]; decide)))
  have hk6 : k ≤ 65536 := by have := R.s.small.1; have := R.le; omega
  have HN : Hid (∀ W, Rd c W k → Calls Tryd.prog 44 #[c.ptr] W fun e w' => e = .returned (tkV (c.nx k)) ∧ Below W.heap.size W w') := fun W h => p_next h
  obtain ⟨t, ht⟩ : ∃ t, t = c.nx k := ⟨_, rfl⟩
  have HT := Lib.hid ht
  rw [← ht] at HN hyp
  clear ht
  obtain ⟨tk, tx, tw, tp⟩ := t
  have HR := Lib.hid R
  have hX := Lib.hid R.lt
  have A0 := Lib.hid ((At.start R).alloc (.cells zSt 74))
  have O0 := Own.new w 74 zSt
  have hlook : Hid (∀ W, RdS c W → (Instr.lookup 96 (.map (some c.S)) (.string tx) false).run Tryd.prog W = .ok (.func (.func 54) #[.pointer (some ⟨c.X, 0, none⟩)] #[]) W) := fun W S => by
    rw [run_stmts S]; have e : tx.data.toList = [105, 102] := hyp.2; rw [e]; rfl
  clear R
  have HC := Lib.hid HC
  rw [← HT.out] at HC
  have q1 : (tk == 1) = false := by simpa using hyp.1
  clear hyp HT
  unfold tkV Par.ptr zSt at *
  have F1 := fn_eqlS
  go_enter Tryd.func96, Tryd.ntmps96
  go_wp2_with fail
  go_at_call 44
  refine (HN.out _ (A0.out.rd HR.out)).mono ?_
  rintro e w1 ⟨rfl, hb⟩
  have A1 := Lib.hid ((A0.out.below hb).alloc (.cells #[.int .u8 tk, .string tx, .int .i64 tw, .int .i64 tp] 49))
  have O1 := Lib.hid ((O0.below hb).alloc (.cells #[.int .u8 tk, .string tx, .int .i64 tw, .int .i64 tp] 49))
  have T1 := Lib.hid (Own.new w1 49 #[.int .u8 tk, .string tx, .int .i64 tw, .int .i64 tp])
  have hz1 := Lib.hid (O0.below hb).lt
  clear hb O0
  go_upto_region 2 with (fail)
  have hsz : Hid ((w1.alloc (.cells #[.int .u8 tk, .string tx, .int .i64 tw, .int .i64 tp] 49)).heap.size = w1.heap.size + 1) := World.size_alloc _ _
  obtain ⟨W, hW⟩ : ∃ W, W = w1.alloc (.cells #[.int .u8 tk, .string tx, .int .i64 tw, .int .i64 tp] 49) := ⟨_, rfl⟩
  rw [← hW] at A1 O1 T1 hsz ⊢
  clear hW
  obtain ⟨⟨_, _, x2, _, x4, _⟩, xf⟩ := A1.out.cells
  have t1 : W.cell? ⟨w1.heap.size, 1, none⟩ = some (.string tx) := by rw [cell_of_row W w1.heap.size 1 _ _ _ T1.out]; rfl
  have t0 : W.cell? ⟨w1.heap.size, 0, none⟩ = some (.int .u8 tk) := by rw [cell_of_row W w1.heap.size 0 _ _ _ T1.out]; rfl
  have hlk := fun n => hlook.out (W.drewN n) ((A1.out.rd HR.out).s.drewN n)
  go_quiet (fail)
  obtain ⟨W2, hW2⟩ : ∃ W2, W2 = W.drewN nq := ⟨_, rfl⟩
  have A2 := A1.out.drewN nq
  have O2 := O1.out.drewN nq
  have T2 := T1.out.drewN nq
  have hsz : Hid (W2.heap.size = w1.heap.size + 1) := by rw [hW2]; exact hsz.out
  rw [← hW2] at A2 O2 T2 ⊢
  have A2 := Lib.hid A2
  have O2 := Lib.hid O2
  have T2 := Lib.hid T2
  clear hW2 x2 x4 xf t1 t0 hlk A1 O1 T1
  obtain ⟨⟨_, _, x2, _⟩, xf⟩ := A2.out.cells
  have t0 : W2.cell? ⟨w1.heap.size, 0, none⟩ = some (.int .u8 tk) := by rw [cell_of_row W2 w1.heap.size 0 _ _ _ T2.out]; rfl
  have A3 := Lib.hid (A2.out.step hlt.out)
  have hn1 : c.X ≠ w1.heap.size := by have := hX.out; have := hz1.out; omega
  have hn2 : c.X ≠ w.heap.size := by have := hX.out; omega
  have T3 := T2.out.setX 2 (.int .i64 ((k : Int) + 1)) hn1
  have O3 := Lib.hid (O2.out.setX 2 (.int .i64 ((k : Int) + 1)) hn2)
  have hn1 := Lib.hid hn1
  have hn2 := Lib.hid hn2
  go_wp2_with (first | (refine ld rowTok rfl rfl rfl T3 rfl ?_))
  go_at_call 54
  refine (HC.out _ (A3.out.rd HR.out)).mono ?_
  rintro e w3 ⟨hf3, hm⟩
  rcases Y with ⟨s0, r0⟩ | ⟨p, q⟩
  rotate_left
  · obtain rfl := hm
    have A4 := Lib.hid (A3.out.fr.trans hf3)
    clear hf3
    go_wp2_with fail
    exact ⟨rfl, A4.out, rfl⟩
  obtain ⟨v, k2, rfl, ⟨hpos, a3, c3, a4, c4, a5, c5, rfl, hV3, hV4, hV5⟩, hR2, rfl⟩ := hm
  change s0.pos = tp at hpos
  obtain ⟨CS, hCS⟩ : ∃ CS : Array Value, CS = #[.int .u8 s0.kind, .string s0.name, .string s0.other, .slice a3 s0.e.length c3, .slice a4 s0.body.length c4, .slice a5 s0.els.length c5, .int .i64 0] := ⟨_, rfl⟩
  have A4 := Lib.hid ((A3.out.call hf3 hR2).alloc (.cells CS 74))
  have O4 := (O3.out.fr hf3 hn2.out).alloc (.cells CS 74)
  have T4 := (T3.fr hf3 hn1.out).alloc (.cells CS 74)
  have N4 := Own.new w3 74 CS
  have hz3 : w1.heap.size < w3.heap.size := by have h1 := Keep.size hf3; have := hsz.out; rw [World.size_setCell] at h1; omega
  have hb3 : ∀ b, (W2.setCell ⟨c.X, 2, none⟩ (.int .i64 ((k : Int) + 1))).heap.size ≤ b → w.heap.size + 1 ≤ b := fun b hb => by have := hz1.out; have := hsz.out; rw [World.size_setCell] at hb; omega
  have V3 := Lib.hid (exsAt_stays (stays_alloc _ w3 (.cells CS 74)) (fun b hb => hb) (exsAt_in hV3))
  have V4 := Lib.hid (stsAt_stays (stays_alloc _ w3 (.cells CS 74)) (fun b hb => hb) (stsAt_in hV4))
  have V5 := Lib.hid (stsAt_stays (stays_alloc _ w3 (.cells CS 74)) (fun b hb => hb) (stsAt_in hV5))
  have V3 := Lib.hid (exsAt_mono (R' := fun b => w.heap.size + 1 ≤ b ∧ b ≠ w3.heap.size) V3.out (fun b hb => ⟨hb3 b hb.1, by have := hb.2; omega⟩))
  have V4 := Lib.hid (stsAt_mono (R' := fun b => w.heap.size + 1 ≤ b ∧ b ≠ w3.heap.size) V4.out (fun b hb => ⟨hb3 b hb.1, by have := hb.2; omega⟩))
  have V5 := Lib.hid (stsAt_mono (R' := fun b => w.heap.size + 1 ≤ b ∧ b ≠ w3.heap.size) V5.out (fun b hb => ⟨hb3 b hb.1, by have := hb.2; omega⟩))
  obtain ⟨W5, hW5⟩ : ∃ W5, W5 = (w3.alloc (.cells CS 74)).setRow w3.heap.size #[.int .u8 s0.kind, .string s0.name, .string s0.other, .slice a3 s0.e.length c3, .slice a4 s0.body.length c4, .slice a5 s0.els.length c5, .int .i64 tp] := ⟨_, rfl⟩
  have hn3 : c.X ≠ w3.heap.size := by have := hX.out; have := hz1.out; omega
  have hwz : w.heap.size ≤ w3.heap.size := by have := hz1.out; omega
  have hw0 : w.heap.size ≠ w3.heap.size := by have := hz1.out; omega
  have A5 := Lib.hid (A4.out.setRow hwz hn3 #[.int .u8 s0.kind, .string s0.name, .string s0.other, .slice a3 s0.e.length c3, .slice a4 s0.body.length c4, .slice a5 s0.els.length c5, .int .i64 tp])
  have O5 := O4.other (g := w3.heap.size) #[.int .u8 s0.kind, .string s0.name, .string s0.other, .slice a3 s0.e.length c3, .slice a4 s0.body.length c4, .slice a5 s0.els.length c5, .int .i64 tp] hw0
  have N5 := N4.row #[.int .u8 s0.kind, .string s0.name, .string s0.other, .slice a3 s0.e.length c3, .slice a4 s0.body.length c4, .slice a5 s0.els.length c5, .int .i64 tp]
  have U3 := Lib.hid (exsAt_stays (stays_row (w3.alloc (.cells CS 74)) (g := w3.heap.size) #[.int .u8 s0.kind, .string s0.name, .string s0.other, .slice a3 s0.e.length c3, .slice a4 s0.body.length c4, .slice a5 s0.els.length c5, .int .i64 tp] (fun b hb => hb.2)) (fun b hb => hb.1) V3.out)
  have U4 := Lib.hid (stsAt_stays (stays_row (w3.alloc (.cells CS 74)) (g := w3.heap.size) #[.int .u8 s0.kind, .string s0.name, .string s0.other, .slice a3 s0.e.length c3, .slice a4 s0.body.length c4, .slice a5 s0.els.length c5, .int .i64 tp] (fun b hb => hb.2)) (fun b hb => hb.1) V4.out)
  have U5 := Lib.hid (stsAt_stays (stays_row (w3.alloc (.cells CS 74)) (g := w3.heap.size) #[.int .u8 s0.kind, .string s0.name, .string s0.other, .slice a3 s0.e.length c3, .slice a4 s0.body.length c4, .slice a5 s0.els.length c5, .int .i64 tp] (fun b hb => hb.2)) (fun b hb => hb.1) V5.out)
  have E5 : (w3.alloc (.cells CS 74)).setCell ⟨w3.heap.size, 6, none⟩ (.int .i64 tp) = W5 := by
    rw [hW5, setCell_row N4 6 _, hCS]; rfl
  rw [← hW5] at A5 O5 N5 U3 U4 U5
  have t3 : (w3.alloc (.cells CS 74)).cell? ⟨w1.heap.size, 3, none⟩ = some (.int .i64 tp) := by rw [cell_of_row _ w1.heap.size 3 _ _ _ T4]; rfl
  subst hCS
  have HP := Lib.hid hpos
  clear hf3 hR2 hV3 hV4 hV5 hb3 A4 O4 T4 N4 hW5 x2 xf t0 T3 hpos
  go_wp2_with (first | (refine ld rowSt rfl rfl rfl N5 rfl ?_) | (refine st rowSt rfl rfl O5 rfl rfl (by rfl) (by rfl) (by kernel_rfl) ?_))
  have A6 := A5.out.setRow (Nat.le_refl _) hn2.out #[.int .u8 s0.kind, .string s0.name, .string s0.other, .slice a3 s0.e.length c3, .slice a4 s0.body.length c4, .slice a5 s0.els.length c5, .int .i64 tp]
  have hb0 : ∀ b, w.heap.size + 1 ≤ b → b ≠ w.heap.size := fun b h => by omega
  have hb1 : ∀ b, w.heap.size + 1 ≤ b → w.heap.size ≤ b := fun b h => by omega
  refine p_ret rowSt rfl (O5.row #[.int .u8 s0.kind, .string s0.name, .string s0.other, .slice a3 s0.e.length c3, .slice a4 s0.body.length c4, .slice a5 s0.els.length c5, .int .i64 tp]) rfl rfl rfl ?_
  refine ⟨A6.fr, _, k2, rfl, ⟨a3, c3, a4, c4, a5, c5, by rw [HP.out], ?_, ?_, ?_⟩, A6.rd HR.out, rfl⟩
  · exact exsAt_stays (stays_row W5 _ hb0) hb1 U3.out
  · exact stsAt_stays (stays_row W5 _ hb0) hb1 U4.out
  · exact stsAt_stays (stays_row W5 _ hb0) hb1 U5.out
set_option maxRecDepth 100000 in
set_option maxHeartbeats 4000000 in
theorem s_loop {c : Par} {w : World} {k : Nat} (R : Rd c w k) (d : Int) (Y : PR St) (hyp : ¬ (c.nx k).kind = 1 ∧ (c.nx k).tx = [119, 104, 105, 108, 101])
    (HC : ∀ W, Rd c W (k + 1) → Calls Tryd.prog 55 #[c.ptr, tkV (c.nx k), .int .i64 d] W (RdPost c W Y (fun s v w' => s.pos = (c.nx k).pos ∧ stR W.heap.size 0 s v w'))) :
    Calls Tryd.prog 96 #[c.ptr, .int .i64 d] w (RdPost c w Y (stW w.heap.size)) := by
  have hlt := Lib.hid (nx_lt (c := c) (k := k) (.inr (by rw [hyp.2]; decide)))
  have hk6 : k ≤ 65536 := by have := R.s.small.1; have := R.le; omega
  have HN : Hid (∀ W, Rd c W k → Calls Tryd.prog 44 #[c.ptr] W fun e w' => e = .returned (tkV (c.nx k)) ∧ Below W.heap.size W w') := fun W h => p_next h
  obtain ⟨t, ht⟩ : ∃ t, t = c.nx k := ⟨_, rfl⟩
  have HT := Lib.hid ht
  rw [← ht] at HN hyp
  clear ht
  obtain ⟨tk, tx, tw, tp⟩ := t
  have HR := Lib.hid R
  have hX := Lib.hid R.lt
  have A0 := Lib.hid ((At.start R).alloc (.cells zSt 74))
  have O0 := Own.new w 74 zSt
  have hlook : Hid (∀ W, RdS c W → (Instr.lookup 96 (.map (some c.S)) (.string tx) false).run Tryd.prog W = .ok (.func (.func 55) #[.pointer (some ⟨c.X, 0, none⟩)] #[]) W) := fun W S => by
    rw [run_stmts S]; have e : tx.data.toList = [119, 104, 105, 108, 101] := hyp.2; rw [e]; rfl
  clear R
  have HC := Lib.hid HC
  rw [← HT.out] at HC
  have q1 : (tk == 1) = false := by simpa using hyp.1
  clear hyp HT
  unfold tkV Par.ptr zSt at *
  have F1 := fn_eqlS
  go_enter Tryd.func96, Tryd.ntmps96
  go_wp2_with fail
  go_at_call 44
  refine (HN.out _ (A0.out.rd HR.out)).mono ?_
  rintro e w1 ⟨rfl, hb⟩
  have A1 := Lib.hid ((A0.out.below hb).alloc (.cells #[.int .u8 tk, .string tx, .int .i64 tw, .int .i64 tp] 49))
  have O1 := Lib.hid ((O0.below hb).alloc (.cells #[.int .u8 tk, .string tx, .int .i64 tw, .int .i64 tp] 49))
  have T1 := Lib.hid (Own.new w1 49 #[.int .u8 tk, .string tx, .int .i64 tw, .int .i64 tp])
  have hz1 := Lib.hid (O0.below hb).lt
  clear hb O0
  go_upto_region 2 with (fail)
  have hsz : Hid ((w1.alloc (.cells #[.int .u8 tk, .string tx, .int .i64 tw, .int .i64 tp] 49)).heap.size = w1.heap.size + 1) := World.size_alloc _ _
  obtain ⟨W, hW⟩ : ∃ W, W = w1.alloc (.cells #[.int .u8 tk, .string tx, .int .i64 tw, .int .i64 tp] 49) := ⟨_, rfl⟩
  rw [← hW] at A1 O1 T1 hsz ⊢
  clear hW
  obtain ⟨⟨_, _, x2, _, x4, _⟩, xf⟩ := A1.out.cells
  have t1 : W.cell? ⟨w1.heap.size, 1, none⟩ = some (.string tx) := by rw [cell_of_row W w1.heap.size 1 _ _ _ T1.out]; rfl
  have t0 : W.cell? ⟨w1.heap.size, 0, none⟩ = some (.int .u8 tk) := by rw [cell_of_row W w1.heap.size 0 _ _ _ T1.out]; rfl
  have hlk := fun n => hlook.out (W.drewN n) ((A1.out.rd HR.out).s.drewN n)
  go_quiet (fail)
  obtain ⟨W2, hW2⟩ : ∃ W2, W2 = W.drewN nq := ⟨_, rfl⟩
  have A2 := A1.out.drewN nq
  have O2 := O1.out.drewN nq
  have T2 := T1.out.drewN nq
  have hsz : Hid (W2.heap.size = w1.heap.size + 1) := by rw [hW2]; exact hsz.out
  rw [← hW2] at A2 O2 T2 ⊢
  have A2 := Lib.hid A2
  have O2 := Lib.hid O2
  have T2 := Lib.hid T2
  clear hW2 x2 x4 xf t1 t0 hlk A1 O1 T1
  obtain ⟨⟨_, _, x2, _⟩, xf⟩ := A2.out.cells
  have t0 : W2.cell? ⟨w1.heap.size, 0, none⟩ = some (.int .u8 tk) := by rw [cell_of_row W2 w1.heap.size 0 _ _ _ T2.out]; rfl
  have A3 := Lib.hid (A2.out.step hlt.out)
  have hn1 : c.X ≠ w1.heap.size := by have := hX.out; have := hz1.out; omega
  have hn2 : c.X ≠ w.heap.size := by have := hX.out; omega
  have T3 := T2.out.setX 2 (.int .i64 ((k : Int) + 1)) hn1
  have O3 := Lib.hid (O2.out.setX 2 (.int .i64 ((k : Int) + 1)) hn2)
  have hn1 := Lib.hid hn1
  have hn2 := Lib.hid hn2
  go_wp2_with (first | (refine ld rowTok rfl rfl rfl T3 rfl ?_))
  go_at_call 55
  refine (HC.out _ (A3.out.rd HR.out)).mono ?_
  rintro e w3 ⟨hf3, hm⟩
  rcases Y with ⟨s0, r0⟩ | ⟨p, q⟩
  rotate_left
  · obtain rfl := hm
    have A4 := Lib.hid (A3.out.fr.trans hf3)
    clear hf3
    go_wp2_with fail
    exact ⟨rfl, A4.out, rfl⟩
  obtain ⟨v, k2, rfl, ⟨hpos, a3, c3, a4, c4, a5, c5, rfl, hV3, hV4, hV5⟩, hR2, rfl⟩ := hm
  change s0.pos = tp at hpos
  obtain ⟨CS, hCS⟩ : ∃ CS : Array Value, CS = #[.int .u8 s0.kind, .string s0.name, .string s0.other, .slice a3 s0.e.length c3, .slice a4 s0.body.length c4, .slice a5 s0.els.length c5, .int .i64 0] := ⟨_, rfl⟩
  have A4 := Lib.hid ((A3.out.call hf3 hR2).alloc (.cells CS 74))
  have O4 := (O3.out.fr hf3 hn2.out).alloc (.cells CS 74)
  have T4 := (T3.fr hf3 hn1.out).alloc (.cells CS 74)
  have N4 := Own.new w3 74 CS
  have hz3 : w1.heap.size < w3.heap.size := by have h1 := Keep.size hf3; have := hsz.out; rw [World.size_setCell] at h1; omega
  have hb3 : ∀ b, (W2.setCell ⟨c.X, 2, none⟩ (.int .i64 ((k : Int) + 1))).heap.size ≤ b → w.heap.size + 1 ≤ b := fun b hb => by have := hz1.out; have := hsz.out; rw [World.size_setCell] at hb; omega
  have V3 := Lib.hid (exsAt_stays (stays_alloc _ w3 (.cells CS 74)) (fun b hb => hb) (exsAt_in hV3))
  have V4 := Lib.hid (stsAt_stays (stays_alloc _ w3 (.cells CS 74)) (fun b hb => hb) (stsAt_in hV4))
  have V5 := Lib.hid (stsAt_stays (stays_alloc _ w3 (.cells CS 74)) (fun b hb => hb) (stsAt_in hV5))
  have V3 := Lib.hid (exsAt_mono (R' := fun b => w.heap.size + 1 ≤ b ∧ b ≠ w3.heap.size) V3.out (fun b hb => ⟨hb3 b hb.1, by have := hb.2; omega⟩))
  have V4 := Lib.hid (stsAt_mono (R' := fun b => w.heap.size + 1 ≤ b ∧ b ≠ w3.heap.size) V4.out (fun b hb => ⟨hb3 b hb.1, by have := hb.2; omega⟩))
  have V5 := Lib.hid (stsAt_mono (R' := fun b => w.heap.size + 1 ≤ b ∧ b ≠ w3.heap.size) V5.out (fun b hb => ⟨hb3 b hb.1, by have := hb.2; omega⟩))
  obtain ⟨W5, hW5⟩ : ∃ W5, W5 = (w3.alloc (.cells CS 74)).setRow w3.heap.size #[.int .u8 s0.kind, .string s0.name, .string s0.other, .slice a3 s0.e.length c3, .slice a4 s0.body.length c4, .slice a5 s0.els.length c5, .int .i64 tp] := ⟨_, rfl⟩
  have hn3 : c.X ≠ w3.heap.size := by have := hX.out; have := hz1.out; omega
  have hwz : w.heap.size ≤ w3.heap.size := by have := hz1.out; omega
  have hw0 : w.heap.size ≠ w3.heap.size := by have := hz1.out; omega
  have A5 := Lib.hid (A4.out.setRow hwz hn3 #[.int .u8 s0.kind, .string s0.name, .string s0.other, .slice a3 s0.e.length c3, .slice a4 s0.body.length c4, .slice a5 s0.els.length c5, .int .i64 tp])
  have O5 := O4.other (g := w3.heap.size) #[.int .u8 s0.kind, .string s0.name, .string s0.other, .slice a3 s0.e.length c3, .slice a4 s0.body.length c4, .slice a5 s0.els.length c5, .int .i64 tp] hw0
  have N5 := N4.row #[.int .u8 s0.kind, .string s0.name, .string s0.other, .slice a3 s0.e.length c3, .slice a4 s0.body.length c4, .slice a5 s0.els.length c5, .int .i64 tp]
  have U3 := Lib.hid (exsAt_stays (stays_row (w3.alloc (.cells CS 74)) (g := w3.heap.size) #[.int .u8 s0.kind, .string s0.name, .string s0.other, .slice a3 s0.e.length c3, .slice a4 s0.body.length c4, .slice a5 s0.els.length c5, .int .i64 tp] (fun b hb => hb.2)) (fun b hb => hb.1) V3.out)
  have U4 := Lib.hid (stsAt_stays (stays_row (w3.alloc (.cells CS 74)) (g := w3.heap.size) #[.int .u8 s0.kind, .string s0.name, .string s0.other, .slice a3 s0.e.length c3, .slice a4 s0.body.length c4, .slice a5 s0.els.length c5, .int .i64 tp] (fun b hb => hb.2)) (fun b hb => hb.1) V4.out)
  have U5 := Lib.hid (stsAt_stays (stays_row (w3.alloc (.cells CS 74)) (g := w3.heap.size) #[.int .u8 s0.kind, .string s0.name, .string s0.other, .slice a3 s0.e.length c3, .slice a4 s0.body.length c4, .slice a5 s0.els.length c5, .int .i64 tp] (fun b hb => hb.2)) (fun b hb => hb.1) V5.out)
  have E5 : (w3.alloc (.cells CS 74)).setCell ⟨w3.heap.size, 6, none⟩ (.int .i64 tp) = W5 := by
    rw [hW5, setCell_row N4 6 _, hCS]; rfl
  rw [← hW5] at A5 O5 N5 U3 U4 U5
  have t3 : (w3.alloc (.cells CS 74)).cell? ⟨w1.heap.size, 3, none⟩ = some (.int .i64 tp) := by rw [cell_of_row _ w1.heap.size 3 _ _ _ T4]; rfl
  subst hCS
  have HP := Lib.hid hpos
  clear hf3 hR2 hV3 hV4 hV5 hb3 A4 O4 T4 N4 hW5 x2 xf t0 T3 hpos
  go_wp2_with (first | (refine ld rowSt rfl rfl rfl N5 rfl ?_) | (refine st rowSt rfl rfl O5 rfl rfl (by rfl) (by rfl) (by kernel_rfl) ?_))
  have A6 := A5.out.setRow (Nat.le_refl _) hn2.out #[.int .u8 s0.kind, .string s0.name, .string s0.other, .slice a3 s0.e.length c3, .slice a4 s0.body.length c4, .slice a5 s0.els.length c5, .int .i64 tp]
  have hb0 : ∀ b, w.heap.size + 1 ≤ b → b ≠ w.heap.size := fun b h => by omega
  have hb1 : ∀ b, w.heap.size + 1 ≤ b → w.heap.size ≤ b := fun b h => by omega
  refine p_ret rowSt rfl (O5.row #[.int .u8 s0.kind, .string s0.name, .string s0.other, .slice a3 s0.e.length c3, .slice a4 s0.body.length c4, .slice a5 s0.els.length c5, .int .i64 tp]) rfl rfl rfl ?_
  refine ⟨A6.fr, _, k2, rfl, ⟨a3, c3, a4, c4, a5, c5, by rw [HP.out], ?_, ?_, ?_⟩, A6.rd HR.out, rfl⟩
  · exact exsAt_stays (stays_row W5 _ hb0) hb1 U3.out
  · exact stsAt_stays (stays_row W5 _ hb0) hb1 U4.out
  · exact stsAt_stays (stays_row W5 _ hb0) hb1 U5.out
set_option maxRecDepth 100000 in
set_option maxHeartbeats 4000000 in
theorem s_guard {c : Par} {w : World} {k : Nat} (R : Rd c w k) (d : Int) (Y : PR St) (hyp : ¬ (c.nx k).kind = 1 ∧ (c.nx k).tx = [108, 111, 99, 107])
    (HC : ∀ W, Rd c W (k + 1) → Calls Tryd.prog 56 #[c.ptr, tkV (c.nx k), .int .i64 d] W (RdPost c W Y (fun s v w' => s.pos = (c.nx k).pos ∧ stR W.heap.size 0 s v w'))) :
    Calls Tryd.prog 96 #[c.ptr, .int .i64 d] w (RdPost c w Y (stW w.heap.size)) := by
  have hlt := Lib.hid (nx_lt (c := c) (k := k) (.inr (by rw [hyp.2]; decide)))
  have hk6 : k ≤ 65536 := by have := R.s.small.1; have := R.le; omega
  have HN : Hid (∀ W, Rd c W k → Calls Tryd.prog 44 #[c.ptr] W fun e w' => e = .returned (tkV (c.nx k)) ∧ Below W.heap.size W w') := fun W h => p_next h
  obtain ⟨t, ht⟩ : ∃ t, t = c.nx k := ⟨_, rfl⟩
  have HT := Lib.hid ht
  rw [← ht] at HN hyp
  clear ht
  obtain ⟨tk, tx, tw, tp⟩ := t
  have HR := Lib.hid R
  have hX := Lib.hid R.lt
  have A0 := Lib.hid ((At.start R).alloc (.cells zSt 74))
  have O0 := Own.new w 74 zSt
  have hlook : Hid (∀ W, RdS c W → (Instr.lookup 96 (.map (some c.S)) (.string tx) false).run Tryd.prog W = .ok (.func (.func 56) #[.pointer (some ⟨c.X, 0, none⟩)] #[]) W) := fun W S => by
    rw [run_stmts S]; have e : tx.data.toList = [108, 111, 99, 107] := hyp.2; rw [e]; rfl
  clear R
  have HC := Lib.hid HC
  rw [← HT.out] at HC
  have q1 : (tk == 1) = false := by simpa using hyp.1
  clear hyp HT
  unfold tkV Par.ptr zSt at *
  have F1 := fn_eqlS
  go_enter Tryd.func96, Tryd.ntmps96
  go_wp2_with fail
  go_at_call 44
  refine (HN.out _ (A0.out.rd HR.out)).mono ?_
  rintro e w1 ⟨rfl, hb⟩
  have A1 := Lib.hid ((A0.out.below hb).alloc (.cells #[.int .u8 tk, .string tx, .int .i64 tw, .int .i64 tp] 49))
  have O1 := Lib.hid ((O0.below hb).alloc (.cells #[.int .u8 tk, .string tx, .int .i64 tw, .int .i64 tp] 49))
  have T1 := Lib.hid (Own.new w1 49 #[.int .u8 tk, .string tx, .int .i64 tw, .int .i64 tp])
  have hz1 := Lib.hid (O0.below hb).lt
  clear hb O0
  go_upto_region 2 with (fail)
  have hsz : Hid ((w1.alloc (.cells #[.int .u8 tk, .string tx, .int .i64 tw, .int .i64 tp] 49)).heap.size = w1.heap.size + 1) := World.size_alloc _ _
  obtain ⟨W, hW⟩ : ∃ W, W = w1.alloc (.cells #[.int .u8 tk, .string tx, .int .i64 tw, .int .i64 tp] 49) := ⟨_, rfl⟩
  rw [← hW] at A1 O1 T1 hsz ⊢
  clear hW
  obtain ⟨⟨_, _, x2, _, x4, _⟩, xf⟩ := A1.out.cells
  have t1 : W.cell? ⟨w1.heap.size, 1, none⟩ = some (.string tx) := by rw [cell_of_row W w1.heap.size 1 _ _ _ T1.out]; rfl
  have t0 : W.cell? ⟨w1.heap.size, 0, none⟩ = some (.int .u8 tk) := by rw [cell_of_row W w1.heap.size 0 _ _ _ T1.out]; rfl
  have hlk := fun n => hlook.out (W.drewN n) ((A1.out.rd HR.out).s.drewN n)
  go_quiet (fail)
  obtain ⟨W2, hW2⟩ : ∃ W2, W2 = W.drewN nq := ⟨_, rfl⟩
  have A2 := A1.out.drewN nq
  have O2 := O1.out.drewN nq
  have T2 := T1.out.drewN nq
  have hsz : Hid (W2.heap.size = w1.heap.size + 1) := by rw [hW2]; exact hsz.out
  rw [← hW2] at A2 O2 T2 ⊢
  have A2 := Lib.hid A2
  have O2 := Lib.hid O2
  have T2 := Lib.hid T2
  clear hW2 x2 x4 xf t1 t0 hlk A1 O1 T1
  obtain ⟨⟨_, _, x2, _⟩, xf⟩ := A2.out.cells
  have t0 : W2.cell? ⟨w1.heap.size, 0, none⟩ = some (.int .u8 tk) := by rw [cell_of_row W2 w1.heap.size 0 _ _ _ T2.out]; rfl
  have A3 := Lib.hid (A2.out.step hlt.out)
  have hn1 : c.X ≠ w1.heap.size := by have := hX.out; have := hz1.out; omega
  have hn2 : c.X ≠ w.heap.size := by have := hX.out; omega
  have T3 := T2.out.setX 2 (.int .i64 ((k : Int) + 1)) hn1
  have O3 := Lib.hid (O2.out.setX 2 (.int .i64 ((k : Int) + 1)) hn2)
  have hn1 := Lib.hid hn1
  have hn2 := Lib.hid hn2
  go_wp2_with (first | (refine ld rowTok rfl rfl rfl T3 rfl ?_))
  go_at_call 56
  refine (HC.out _ (A3.out.rd HR.out)).mono ?_
  rintro e w3 ⟨hf3, hm⟩
  rcases Y with ⟨s0, r0⟩ | ⟨p, q⟩
  rotate_left
  · obtain rfl := hm
    have A4 := Lib.hid (A3.out.fr.trans hf3)
    clear hf3
    go_wp2_with fail
    exact ⟨rfl, A4.out, rfl⟩
  obtain ⟨v, k2, rfl, ⟨hpos, a3, c3, a4, c4, a5, c5, rfl, hV3, hV4, hV5⟩, hR2, rfl⟩ := hm
  change s0.pos = tp at hpos
  obtain ⟨CS, hCS⟩ : ∃ CS : Array Value, CS = #[.int .u8 s0.kind, .string s0.name, .string s0.other, .slice a3 s0.e.length c3, .slice a4 s0.body.length c4, .slice a5 s0.els.length c5, .int .i64 0] := ⟨_, rfl⟩
  have A4 := Lib.hid ((A3.out.call hf3 hR2).alloc (.cells CS 74))
  have O4 := (O3.out.fr hf3 hn2.out).alloc (.cells CS 74)
  have T4 := (T3.fr hf3 hn1.out).alloc (.cells CS 74)
  have N4 := Own.new w3 74 CS
  have hz3 : w1.heap.size < w3.heap.size := by have h1 := Keep.size hf3; have := hsz.out; rw [World.size_setCell] at h1; omega
  have hb3 : ∀ b, (W2.setCell ⟨c.X, 2, none⟩ (.int .i64 ((k : Int) + 1))).heap.size ≤ b → w.heap.size + 1 ≤ b := fun b hb => by have := hz1.out; have := hsz.out; rw [World.size_setCell] at hb; omega
  have V3 := Lib.hid (exsAt_stays (stays_alloc _ w3 (.cells CS 74)) (fun b hb => hb) (exsAt_in hV3))
  have V4 := Lib.hid (stsAt_stays (stays_alloc _ w3 (.cells CS 74)) (fun b hb => hb) (stsAt_in hV4))
  have V5 := Lib.hid (stsAt_stays (stays_alloc _ w3 (.cells CS 74)) (fun b hb => hb) (stsAt_in hV5))
  have V3 := Lib.hid (exsAt_mono (R' := fun b => w.heap.size + 1 ≤ b ∧ b ≠ w3.heap.size) V3.out (fun b hb => ⟨hb3 b hb.1, by have := hb.2; omega⟩))
  have V4 := Lib.hid (stsAt_mono (R' := fun b => w.heap.size + 1 ≤ b ∧ b ≠ w3.heap.size) V4.out (fun b hb => ⟨hb3 b hb.1, by have := hb.2; omega⟩))
  have V5 := Lib.hid (stsAt_mono (R' := fun b => w.heap.size + 1 ≤ b ∧ b ≠ w3.heap.size) V5.out (fun b hb => ⟨hb3 b hb.1, by have := hb.2; omega⟩))
  obtain ⟨W5, hW5⟩ : ∃ W5, W5 = (w3.alloc (.cells CS 74)).setRow w3.heap.size #[.int .u8 s0.kind, .string s0.name, .string s0.other, .slice a3 s0.e.length c3, .slice a4 s0.body.length c4, .slice a5 s0.els.length c5, .int .i64 tp] := ⟨_, rfl⟩
  have hn3 : c.X ≠ w3.heap.size := by have := hX.out; have := hz1.out; omega
  have hwz : w.heap.size ≤ w3.heap.size := by have := hz1.out; omega
  have hw0 : w.heap.size ≠ w3.heap.size := by have := hz1.out; omega
  have A5 := Lib.hid (A4.out.setRow hwz hn3 #[.int .u8 s0.kind, .string s0.name, .string s0.other, .slice a3 s0.e.length c3, .slice a4 s0.body.length c4, .slice a5 s0.els.length c5, .int .i64 tp])
  have O5 := O4.other (g := w3.heap.size) #[.int .u8 s0.kind, .string s0.name, .string s0.other, .slice a3 s0.e.length c3, .slice a4 s0.body.length c4, .slice a5 s0.els.length c5, .int .i64 tp] hw0
  have N5 := N4.row #[.int .u8 s0.kind, .string s0.name, .string s0.other, .slice a3 s0.e.length c3, .slice a4 s0.body.length c4, .slice a5 s0.els.length c5, .int .i64 tp]
  have U3 := Lib.hid (exsAt_stays (stays_row (w3.alloc (.cells CS 74)) (g := w3.heap.size) #[.int .u8 s0.kind, .string s0.name, .string s0.other, .slice a3 s0.e.length c3, .slice a4 s0.body.length c4, .slice a5 s0.els.length c5, .int .i64 tp] (fun b hb => hb.2)) (fun b hb => hb.1) V3.out)
  have U4 := Lib.hid (stsAt_stays (stays_row (w3.alloc (.cells CS 74)) (g := w3.heap.size) #[.int .u8 s0.kind, .string s0.name, .string s0.other, .slice a3 s0.e.length c3, .slice a4 s0.body.length c4, .slice a5 s0.els.length c5, .int .i64 tp] (fun b hb => hb.2)) (fun b hb => hb.1) V4.out)
  have U5 := Lib.hid (stsAt_stays (stays_row (w3.alloc (.cells CS 74)) (g := w3.heap.size) #[.int .u8 s0.kind, .string s0.name, .string s0.other, .slice a3 s0.e.length c3, .slice a4 s0.body.length c4, .slice a5 s0.els.length c5, .int .i64 tp] (fun b hb => hb.2)) (fun b hb => hb.1) V5.out)
  have E5 : (w3.alloc (.cells CS 74)).setCell ⟨w3.heap.size, 6, none⟩ (.int .i64 tp) = W5 := by
    rw [hW5, setCell_row N4 6 _, hCS]; rfl
  rw [← hW5] at A5 O5 N5 U3 U4 U5
  have t3 : (w3.alloc (.cells CS 74)).cell? ⟨w1.heap.size, 3, none⟩ = some (.int .i64 tp) := by rw [cell_of_row _ w1.heap.size 3 _ _ _ T4]; rfl
  subst hCS
  have HP := Lib.hid hpos
  clear hf3 hR2 hV3 hV4 hV5 hb3 A4 O4 T4 N4 hW5 x2 xf t0 T3 hpos
  go_wp2_with (first | (refine ld rowSt rfl rfl rfl N5 rfl ?_) | (refine st rowSt rfl rfl O5 rfl rfl (by rfl) (by rfl) (by kernel_rfl) ?_))
  have A6 := A5.out.setRow (Nat.le_refl _) hn2.out #[.int .u8 s0.kind, .string s0.name, .string s0.other, .slice a3 s0.e.length c3, .slice a4 s0.body.length c4, .slice a5 s0.els.length c5, .int .i64 tp]
  have hb0 : ∀ b, w.heap.size + 1 ≤ b → b ≠ w.heap.size := fun b h => by omega
  have hb1 : ∀ b, w.heap.size + 1 ≤ b → w.heap.size ≤ b := fun b h => by omega
  refine p_ret rowSt rfl (O5.row #[.int .u8 s0.kind, .string s0.name, .string s0.other, .slice a3 s0.e.length c3, .slice a4 s0.body.length c4, .slice a5 s0.els.length c5, .int .i64 tp]) rfl rfl rfl ?_
  refine ⟨A6.fr, _, k2, rfl, ⟨a3, c3, a4, c4, a5, c5, by rw [HP.out], ?_, ?_, ?_⟩, A6.rd HR.out, rfl⟩
  · exact exsAt_stays (stays_row W5 _ hb0) hb1 U3.out
  · exact stsAt_stays (stays_row W5 _ hb0) hb1 U4.out
  · exact stsAt_stays (stays_row W5 _ hb0) hb1 U5.out
set_option maxRecDepth 100000 in
set_option maxHeartbeats 4000000 in
theorem s_print {c : Par} {w : World} {k : Nat} (R : Rd c w k) (d : Int) (Y : PR St) (hyp : ¬ (c.nx k).kind = 1 ∧ (c.nx k).tx = [112, 114, 105, 110, 116])
    (HC : ∀ W, Rd c W (k + 1) → Calls Tryd.prog 57 #[c.ptr, tkV (c.nx k), .int .i64 d] W (RdPost c W Y (fun s v w' => s.pos = (c.nx k).pos ∧ stR W.heap.size 0 s v w'))) :
    Calls Tryd.prog 96 #[c.ptr, .int .i64 d] w (RdPost c w Y (stW w.heap.size)) := by
  have hlt := Lib.hid (nx_lt (c := c) (k := k) (.inr (by rw [hyp.2]; decide)))
  have hk6 : k ≤ 65536 := by have := R.s.small.1; have := R.le; omega
  have HN : Hid (∀ W, Rd c W k → Calls Tryd.prog 44 #[c.ptr] W fun e w' => e = .returned (tkV (c.nx k)) ∧ Below W.heap.size W w') := fun W h => p_next h
  obtain ⟨t, ht⟩ : ∃ t, t = c.nx k := ⟨_, rfl⟩
  have HT := Lib.hid ht
  rw [← ht] at HN hyp
  clear ht
  obtain ⟨tk, tx, tw, tp⟩ := t
  have HR := Lib.hid R
  have hX := Lib.hid R.lt
  have A0 := Lib.hid ((At.start R).alloc (.cells zSt 74))
  have O0 := Own.new w 74 zSt
  have hlook : Hid (∀ W, RdS c W → (Instr.lookup 96 (.map (some c.S)) (.string tx) false).run Tryd.prog W = .ok (.func (.func 57) #[.pointer (some ⟨c.X, 0, none⟩)] #[]) W) := fun W S => by
    rw [run_stmts S]; have e : tx.data.toList = [112, 114, 105, 110, 116] := hyp.2; rw [e]; rfl
  clear R
  have HC := Lib.hid HC
  rw [← HT.out] at HC
  have q1 : (tk == 1) = false := by simpa using hyp.1
  clear hyp HT
  unfold tkV Par.ptr zSt at *
  have F1 := fn_eqlS
  go_enter Tryd.func96, Tryd.ntmps96
  go_wp2_with fail
  go_at_call 44
  refine (HN.out _ (A0.out.rd HR.out)).mono ?_
  rintro e w1 ⟨rfl, hb⟩
  have A1 := Lib.hid ((A0.out.below hb).alloc (.cells #[.int .u8 tk, .string tx, .int .i64 tw, .int .i64 tp] 49))
  have O1 := Lib.hid ((O0.below hb).alloc (.cells #[.int .u8 tk, .string tx, .int .i64 tw, .int .i64 tp] 49))
  have T1 := Lib.hid (Own.new w1 49 #[.int .u8 tk, .string tx, .int .i64 tw, .int .i64 tp])
  have hz1 := Lib.hid (O0.below hb).lt
  clear hb O0
  go_upto_region 2 with (fail)
  have hsz : Hid ((w1.alloc (.cells #[.int .u8 tk, .string tx, .int .i64 tw, .int .i64 tp] 49)).heap.size = w1.heap.size + 1) := World.size_alloc _ _
  obtain ⟨W, hW⟩ : ∃ W, W = w1.alloc (.cells #[.int .u8 tk, .string tx, .int .i64 tw, .int .i64 tp] 49) := ⟨_, rfl⟩
  rw [← hW] at A1 O1 T1 hsz ⊢
  clear hW
  obtain ⟨⟨_, _, x2, _, x4, _⟩, xf⟩ := A1.out.cells
  have t1 : W.cell? ⟨w1.heap.size, 1, none⟩ = some (.string tx) := by rw [cell_of_row W w1.heap.size 1 _ _ _ T1.out]; rfl
  have t0 : W.cell? ⟨w1.heap.size, 0, none⟩ = some (.int .u8 tk) := by rw [cell_of_row W w1.heap.size 0 _ _ _ T1.out]; rfl
  have hlk := fun n => hlook.out (W.drewN n) ((A1.out.rd HR.out).s.drewN n)
  go_quiet (fail)
  obtain ⟨W2, hW2⟩ : ∃ W2, W2 = W.drewN nq := ⟨_, rfl⟩
  have A2 := A1.out.drewN nq
  have O2 := O1.out.drewN nq
  have T2 := T1.out.drewN nq
  have hsz : Hid (W2.heap.size = w1.heap.size + 1) := by rw [hW2]; exact hsz.out
  rw [← hW2] at A2 O2 T2 ⊢
  have A2 := Lib.hid A2
  have O2 := Lib.hid O2
  have T2 := Lib.hid T2
  clear hW2 x2 x4 xf t1 t0 hlk A1 O1 T1
  obtain ⟨⟨_, _, x2, _⟩, xf⟩ := A2.out.cells
  have t0 : W2.cell? ⟨w1.heap.size, 0, none⟩ = some (.int .u8 tk) := by rw [cell_of_row W2 w1.heap.size 0 _ _ _ T2.out]; rfl
  have A3 := Lib.hid (A2.out.step hlt.out)
  have hn1 : c.X ≠ w1.heap.size := by have := hX.out; have := hz1.out; omega
  have hn2 : c.X ≠ w.heap.size := by have := hX.out; omega
  have T3 := T2.out.setX 2 (.int .i64 ((k : Int) + 1)) hn1
  have O3 := Lib.hid (O2.out.setX 2 (.int .i64 ((k : Int) + 1)) hn2)
  have hn1 := Lib.hid hn1
  have hn2 := Lib.hid hn2
  go_wp2_with (first | (refine ld rowTok rfl rfl rfl T3 rfl ?_))
  go_at_call 57
  refine (HC.out _ (A3.out.rd HR.out)).mono ?_
  rintro e w3 ⟨hf3, hm⟩
  rcases Y with ⟨s0, r0⟩ | ⟨p, q⟩
  rotate_left
  · obtain rfl := hm
    have A4 := Lib.hid (A3.out.fr.trans hf3)
    clear hf3
    go_wp2_with fail
    exact ⟨rfl, A4.out, rfl⟩
  obtain ⟨v, k2, rfl, ⟨hpos, a3, c3, a4, c4, a5, c5, rfl, hV3, hV4, hV5⟩, hR2, rfl⟩ := hm
  change s0.pos = tp at hpos
  obtain ⟨CS, hCS⟩ : ∃ CS : Array Value, CS = #[.int .u8 s0.kind, .string s0.name, .string s0.other, .slice a3 s0.e.length c3, .slice a4 s0.body.length c4, .slice a5 s0.els.length c5, .int .i64 0] := ⟨_, rfl⟩
  have A4 := Lib.hid ((A3.out.call hf3 hR2).alloc (.cells CS 74))
  have O4 := (O3.out.fr hf3 hn2.out).alloc (.cells CS 74)
  have T4 := (T3.fr hf3 hn1.out).alloc (.cells CS 74)
  have N4 := Own.new w3 74 CS
  have hz3 : w1.heap.size < w3.heap.size := by have h1 := Keep.size hf3; have := hsz.out; rw [World.size_setCell] at h1; omega
  have hb3 : ∀ b, (W2.setCell ⟨c.X, 2, none⟩ (.int .i64 ((k : Int) + 1))).heap.size ≤ b → w.heap.size + 1 ≤ b := fun b hb => by have := hz1.out; have := hsz.out; rw [World.size_setCell] at hb; omega
  have V3 := Lib.hid (exsAt_stays (stays_alloc _ w3 (.cells CS 74)) (fun b hb => hb) (exsAt_in hV3))
  have V4 := Lib.hid (stsAt_stays (stays_alloc _ w3 (.cells CS 74)) (fun b hb => hb) (stsAt_in hV4))
  have V5 := Lib.hid (stsAt_stays (stays_alloc _ w3 (.cells CS 74)) (fun b hb => hb) (stsAt_in hV5))
  have V3 := Lib.hid (exsAt_mono (R' := fun b => w.heap.size + 1 ≤ b ∧ b ≠ w3.heap.size) V3.out (fun b hb => ⟨hb3 b hb.1, by have := hb.2; omega⟩))
  have V4 := Lib.hid (stsAt_mono (R' := fun b => w.heap.size + 1 ≤ b ∧ b ≠ w3.heap.size) V4.out (fun b hb => ⟨hb3 b hb.1, by have := hb.2; omega⟩))
  have V5 := Lib.hid (stsAt_mono (R' := fun b => w.heap.size + 1 ≤ b ∧ b ≠ w3.heap.size) V5.out (fun b hb => ⟨hb3 b hb.1, by have := hb.2; omega⟩))
  obtain ⟨W5, hW5⟩ : ∃ W5, W5 = (w3.alloc (.cells CS 74)).setRow w3.heap.size #[.int .u8 s0.kind, .string s0.name, .string s0.other, .slice a3 s0.e.length c3, .slice a4 s0.body.length c4, .slice a5 s0.els.length c5, .int .i64 tp] := ⟨_, rfl⟩
  have hn3 : c.X ≠ w3.heap.size := by have := hX.out; have := hz1.out; omega
  have hwz : w.heap.size ≤ w3.heap.size := by have := hz1.out; omega
  have hw0 : w.heap.size ≠ w3.heap.size := by have := hz1.out; omega
  have A5 := Lib.hid (A4.out.setRow hwz hn3 #[.int .u8 s0.kind, .string s0.name, .string s0.other, .slice a3 s0.e.length c3, .slice a4 s0.body.length c4, .slice a5 s0.els.length c5, .int .i64 tp])
  have O5 := O4.other (g := w3.heap.size) #[.int .u8 s0.kind, .string s0.name, .string s0.other, .slice a3 s0.e.length c3, .slice a4 s0.body.length c4, .slice a5 s0.els.length c5, .int .i64 tp] hw0
  have N5 := N4.row #[.int .u8 s0.kind, .string s0.name, .string s0.other, .slice a3 s0.e.length c3, .slice a4 s0.body.length c4, .slice a5 s0.els.length c5, .int .i64 tp]
  have U3 := Lib.hid (exsAt_stays (stays_row (w3.alloc (.cells CS 74)) (g := w3.heap.size) #[.int .u8 s0.kind, .string s0.name, .string s0.other, .slice a3 s0.e.length c3, .slice a4 s0.body.length c4, .slice a5 s0.els.length c5, .int .i64 tp] (fun b hb => hb.2)) (fun b hb => hb.1) V3.out)
  have U4 := Lib.hid (stsAt_stays (stays_row (w3.alloc (.cells CS 74)) (g := w3.heap.size) #[.int .u8 s0.kind, .string s0.name, .string s0.other, .slice a3 s0.e.length c3, .slice a4 s0.body.length c4, .slice a5 s0.els.length c5, .int .i64 tp] (fun b hb => hb.2)) (fun b hb => hb.1) V4.out)
  have U5 := Lib.hid (stsAt_stays (stays_row (w3.alloc (.cells CS 74)) (g := w3.heap.size) #[.int .u8 s0.kind, .string s0.name, .string s0.other, .slice a3 s0.e.length c3, .slice a4 s0.body.length c4, .slice a5 s0.els.length c5, .int .i64 tp] (fun b hb => hb.2)) (fun b hb => hb.1) V5.out)
  have E5 : (w3.alloc (.cells CS 74)).setCell ⟨w3.heap.size, 6, none⟩ (.int .i64 tp) = W5 := by
    rw [hW5, setCell_row N4 6 _, hCS]; rfl
  rw [← hW5] at A5 O5 N5 U3 U4 U5
  have t3 : (w3.alloc (.cells CS 74)).cell? ⟨w1.heap.size, 3, none⟩ = some (.int .i64 tp) := by rw [cell_of_row _ w1.heap.size 3 _ _ _ T4]; rfl
  subst hCS
  have HP := Lib.hid hpos
  clear hf3 hR2 hV3 hV4 hV5 hb3 A4 O4 T4 N4 hW5 x2 xf t0 T3 hpos
  go_wp2_with (first | (refine ld rowSt rfl rfl rfl N5 rfl ?_) | (refine st rowSt rfl rfl O5 rfl rfl (by rfl) (by rfl) (by kernel_rfl) ?_))
  have A6 := A5.out.setRow (Nat.le_refl _) hn2.out #[.int .u8 s0.kind, .string s0.name, .string s0.other, .slice a3 s0.e.length c3, .slice a4 s0.body.length c4, .slice a5 s0.els.length c5, .int .i64 tp]
  have hb0 : ∀ b, w.heap.size + 1 ≤ b → b ≠ w.heap.size := fun b h => by omega
  have hb1 : ∀ b, w.heap.size + 1 ≤ b → w.heap.size ≤ b := fun b h => by omega
  refine p_ret rowSt rfl (O5.row #[.int .u8 s0.kind, .string s0.name, .string s0.other, .slice a3 s0.e.length c3, .slice a4 s0.body.length c4, .slice a5 s0.els.length c5, .int .i64 tp]) rfl rfl rfl ?_
  refine ⟨A6.fr, _, k2, rfl, ⟨a3, c3, a4, c4, a5, c5, by rw [HP.out], ?_, ?_, ?_⟩, A6.rd HR.out, rfl⟩
  · exact exsAt_stays (stays_row W5 _ hb0) hb1 U3.out
  · exact stsAt_stays (stays_row W5 _ hb0) hb1 U4.out
  · exact stsAt_stays (stays_row W5 _ hb0) hb1 U5.out
set_option maxRecDepth 100000 in
set_option maxHeartbeats 4000000 in
theorem s_skip {c : Par} {w : World} {k : Nat} (R : Rd c w k) (d : Int) (Y : PR St) (hyp : ¬ (c.nx k).kind = 1 ∧ (c.nx k).tx = [115, 107, 105, 112])
    (HC : ∀ W, Rd c W (k + 1) → Calls Tryd.prog 58 #[c.ptr, tkV (c.nx k), .int .i64 d] W (RdPost c W Y (fun s v w' => s.pos = (c.nx k).pos ∧ stR W.heap.size 0 s v w'))) :
    Calls Tryd.prog 96 #[c.ptr, .int .i64 d] w (RdPost c w Y (stW w.heap.size)) := by
  have hlt := Lib.hid (nx_lt (c := c) (k := k) (.inr (by rw [hyp.2]; decide)))
  have hk6 : k ≤ 65536 := by have := R.s.small.1; have := R.le; omega
  have HN : Hid (∀ W, Rd c W k → Calls Tryd.prog 44 #[c.ptr] W fun e w' => e = .returned (tkV (c.nx k)) ∧ Below W.heap.size W w') := fun W h => p_next h
  obtain ⟨t, ht⟩ : ∃ t, t = c.nx k := ⟨_, rfl⟩
  have HT := Lib.hid ht
  rw [← ht] at HN hyp
  clear ht
  obtain ⟨tk, tx, tw, tp⟩ := t
  have HR := Lib.hid R
  have hX := Lib.hid R.lt
  have A0 := Lib.hid ((At.start R).alloc (.cells zSt 74))
  have O0 := Own.new w 74 zSt
  have hlook : Hid (∀ W, RdS c W → (Instr.lookup 96 (.map (some c.S)) (.string tx) false).run Tryd.prog W = .ok (.func (.func 58) #[.pointer (some ⟨c.X, 0, none⟩)] #[]) W) := fun W S => by
    rw [run_stmts S]; have e : tx.data.toList = [115, 107, 105, 112] := hyp.2; rw [e]; rfl
  clear R
  have HC := Lib.hid HC
  rw [← HT.out] at HC
  have q1 : (tk == 1) = false := by simpa using hyp.1
  clear hyp HT
  unfold tkV Par.ptr zSt at *
  have F1 := fn_eqlS
  go_enter Tryd.func96, Tryd.ntmps96
  go_wp2_with fail
  go_at_call 44
  refine (HN.out _ (A0.out.rd HR.out)).mono ?_
  rintro e w1 ⟨rfl, hb⟩
  have A1 := Lib.hid ((A0.out.below hb).alloc (.cells #[.int .u8 tk, .string tx, .int .i64 tw, .int .i64 tp] 49))
  have O1 := Lib.hid ((O0.below hb).alloc (.cells #[.int .u8 tk, .string tx, .int .i64 tw, .int .i64 tp] 49))
  have T1 := Lib.hid (Own.new w1 49 #[.int .u8 tk, .string tx, .int .i64 tw, .int .i64 tp])
  have hz1 := Lib.hid (O0.below hb).lt
  clear hb O0
  go_upto_region 2 with (fail)
  have hsz : Hid ((w1.alloc (.cells #[.int .u8 tk, .string tx, .int .i64 tw, .int .i64 tp] 49)).heap.size = w1.heap.size + 1) := World.size_alloc _ _
  obtain ⟨W, hW⟩ : ∃ W, W = w1.alloc (.cells #[.int .u8 tk, .string tx, .int .i64 tw, .int .i64 tp] 49) := ⟨_, rfl⟩
  rw [← hW] at A1 O1 T1 hsz ⊢
  clear hW
  obtain ⟨⟨_, _, x2, _, x4, _⟩, xf⟩ := A1.out.cells
  have t1 : W.cell? ⟨w1.heap.size, 1, none⟩ = some (.string tx) := by rw [cell_of_row W w1.heap.size 1 _ _ _ T1.out]; rfl
  have t0 : W.cell? ⟨w1.heap.size, 0, none⟩ = some (.int .u8 tk) := by rw [cell_of_row W w1.heap.size 0 _ _ _ T1.out]; rfl
  have hlk := fun n => hlook.out (W.drewN n) ((A1.out.rd HR.out).s.drewN n)
  go_quiet (fail)
  obtain ⟨W2, hW2⟩ : ∃ W2, W2 = W.drewN nq := ⟨_, rfl⟩
  have A2 := A1.out.drewN nq
  have O2 := O1.out.drewN nq
  have T2 := T1.out.drewN nq
  have hsz : Hid (W2.heap.size = w1.heap.size + 1) := by rw [hW2]; exact hsz.out
  rw [← hW2] at A2 O2 T2 ⊢
  have A2 := Lib.hid A2
  have O2 := Lib.hid O2
  have T2 := Lib.hid T2
  clear hW2 x2 x4 xf t1 t0 hlk A1 O1 T1
  obtain ⟨⟨_, _, x2, _⟩, xf⟩ := A2.out.cells
  have t0 : W2.cell? ⟨w1.heap.size, 0, none⟩ = some (.int .u8 tk) := by rw [cell_of_row W2 w1.heap.size 0 _ _ _ T2.out]; rfl
  have A3 := Lib.hid (A2.out.step hlt.out)
  have hn1 : c.X ≠ w1.heap.size := by have := hX.out; have := hz1.out; omega
  have hn2 : c.X ≠ w.heap.size := by have := hX.out; omega
  have T3 := T2.out.setX 2 (.int .i64 ((k : Int) + 1)) hn1
  have O3 := Lib.hid (O2.out.setX 2 (.int .i64 ((k : Int) + 1)) hn2)
  have hn1 := Lib.hid hn1
  have hn2 := Lib.hid hn2
  go_wp2_with (first | (refine ld rowTok rfl rfl rfl T3 rfl ?_))
  go_at_call 58
  refine (HC.out _ (A3.out.rd HR.out)).mono ?_
  rintro e w3 ⟨hf3, hm⟩
  rcases Y with ⟨s0, r0⟩ | ⟨p, q⟩
  rotate_left
  · obtain rfl := hm
    have A4 := Lib.hid (A3.out.fr.trans hf3)
    clear hf3
    go_wp2_with fail
    exact ⟨rfl, A4.out, rfl⟩
  obtain ⟨v, k2, rfl, ⟨hpos, a3, c3, a4, c4, a5, c5, rfl, hV3, hV4, hV5⟩, hR2, rfl⟩ := hm
  change s0.pos = tp at hpos
  obtain ⟨CS, hCS⟩ : ∃ CS : Array Value, CS = #[.int .u8 s0.kind, .string s0.name, .string s0.other, .slice a3 s0.e.length c3, .slice a4 s0.body.length c4, .slice a5 s0.els.length c5, .int .i64 0] := ⟨_, rfl⟩
  have A4 := Lib.hid ((A3.out.call hf3 hR2).alloc (.cells CS 74))
  have O4 := (O3.out.fr hf3 hn2.out).alloc (.cells CS 74)
  have T4 := (T3.fr hf3 hn1.out).alloc (.cells CS 74)
  have N4 := Own.new w3 74 CS
  have hz3 : w1.heap.size < w3.heap.size := by have h1 := Keep.size hf3; have := hsz.out; rw [World.size_setCell] at h1; omega
  have hb3 : ∀ b, (W2.setCell ⟨c.X, 2, none⟩ (.int .i64 ((k : Int) + 1))).heap.size ≤ b → w.heap.size + 1 ≤ b := fun b hb => by have := hz1.out; have := hsz.out; rw [World.size_setCell] at hb; omega
  have V3 := Lib.hid (exsAt_stays (stays_alloc _ w3 (.cells CS 74)) (fun b hb => hb) (exsAt_in hV3))
  have V4 := Lib.hid (stsAt_stays (stays_alloc _ w3 (.cells CS 74)) (fun b hb => hb) (stsAt_in hV4))
  have V5 := Lib.hid (stsAt_stays (stays_alloc _ w3 (.cells CS 74)) (fun b hb => hb) (stsAt_in hV5))
  have V3 := Lib.hid (exsAt_mono (R' := fun b => w.heap.size + 1 ≤ b ∧ b ≠ w3.heap.size) V3.out (fun b hb => ⟨hb3 b hb.1, by have := hb.2; omega⟩))
  have V4 := Lib.hid (stsAt_mono (R' := fun b => w.heap.size + 1 ≤ b ∧ b ≠ w3.heap.size) V4.out (fun b hb => ⟨hb3 b hb.1, by have := hb.2; omega⟩))
  have V5 := Lib.hid (stsAt_mono (R' := fun b => w.heap.size + 1 ≤ b ∧ b ≠ w3.heap.size) V5.out (fun b hb => ⟨hb3 b hb.1, by have := hb.2; omega⟩))
  obtain ⟨W5, hW5⟩ : ∃ W5, W5 = (w3.alloc (.cells CS 74)).setRow w3.heap.size #[.int .u8 s0.kind, .string s0.name, .string s0.other, .slice a3 s0.e.length c3, .slice a4 s0.body.length c4, .slice a5 s0.els.length c5, .int .i64 tp] := ⟨_, rfl⟩
  have hn3 : c.X ≠ w3.heap.size := by have := hX.out; have := hz1.out; omega
  have hwz : w.heap.size ≤ w3.heap.size := by have := hz1.out; omega
  have hw0 : w.heap.size ≠ w3.heap.size := by have := hz1.out; omega
  have A5 := Lib.hid (A4.out.setRow hwz hn3 #[.int .u8 s0.kind, .string s0.name, .string s0.other, .slice a3 s0.e.length c3, .slice a4 s0.body.length c4, .slice a5 s0.els.length c5, .int .i64 tp])
  have O5 := O4.other (g := w3.heap.size) #[.int .u8 s0.kind, .string s0.name, .string s0.other, .slice a3 s0.e.length c3, .slice a4 s0.body.length c4, .slice a5 s0.els.length c5, .int .i64 tp] hw0
  have N5 := N4.row #[.int .u8 s0.kind, .string s0.name, .string s0.other, .slice a3 s0.e.length c3, .slice a4 s0.body.length c4, .slice a5 s0.els.length c5, .int .i64 tp]
  have U3 := Lib.hid (exsAt_stays (stays_row (w3.alloc (.cells CS 74)) (g := w3.heap.size) #[.int .u8 s0.kind, .string s0.name, .string s0.other, .slice a3 s0.e.length c3, .slice a4 s0.body.length c4, .slice a5 s0.els.length c5, .int .i64 tp] (fun b hb => hb.2)) (fun b hb => hb.1) V3.out)
  have U4 := Lib.hid (stsAt_stays (stays_row (w3.alloc (.cells CS 74)) (g := w3.heap.size) #[.int .u8 s0.kind, .string s0.name, .string s0.other, .slice a3 s0.e.length c3, .slice a4 s0.body.length c4, .slice a5 s0.els.length c5, .int .i64 tp] (fun b hb => hb.2)) (fun b hb => hb.1) V4.out)
  have U5 := Lib.hid (stsAt_stays (stays_row (w3.alloc (.cells CS 74)) (g := w3.heap.size) #[.int .u8 s0.kind, .string s0.name, .string s0.other, .slice a3 s0.e.length c3, .slice a4 s0.body.length c4, .slice a5 s0.els.length c5, .int .i64 tp] (fun b hb => hb.2)) (fun b hb => hb.1) V5.out)
  have E5 : (w3.alloc (.cells CS 74)).setCell ⟨w3.heap.size, 6, none⟩ (.int .i64 tp) = W5 := by
    rw [hW5, setCell_row N4 6 _, hCS]; rfl
  rw [← hW5] at A5 O5 N5 U3 U4 U5
  have t3 : (w3.alloc (.cells CS 74)).cell? ⟨w1.heap.size, 3, none⟩ = some (.int .i64 tp) := by rw [cell_of_row _ w1.heap.size 3 _ _ _ T4]; rfl
  subst hCS
  have HP := Lib.hid hpos
  clear hf3 hR2 hV3 hV4 hV5 hb3 A4 O4 T4 N4 hW5 x2 xf t0 T3 hpos
  go_wp2_with (first | (refine ld rowSt rfl rfl rfl N5 rfl ?_) | (refine st rowSt rfl rfl O5 rfl rfl (by rfl) (by rfl) (by kernel_rfl) ?_))
  have A6 := A5.out.setRow (Nat.le_refl _) hn2.out #[.int .u8 s0.kind, .string s0.name, .string s0.other, .slice a3 s0.e.length c3, .slice a4 s0.body.length c4, .slice a5 s0.els.length c5, .int .i64 tp]
  have hb0 : ∀ b, w.heap.size + 1 ≤ b → b ≠ w.heap.size := fun b h => by omega
  have hb1 : ∀ b, w.heap.size + 1 ≤ b → w.heap.size ≤ b := fun b h => by omega
  refine p_ret rowSt rfl (O5.row #[.int .u8 s0.kind, .string s0.name, .string s0.other, .slice a3 s0.e.length c3, .slice a4 s0.body.length c4, .slice a5 s0.els.length c5, .int .i64 tp]) rfl rfl rfl ?_
  refine ⟨A6.fr, _, k2, rfl, ⟨a3, c3, a4, c4, a5, c5, by rw [HP.out], ?_, ?_, ?_⟩, A6.rd HR.out, rfl⟩
  · exact exsAt_stays (stays_row W5 _ hb0) hb1 U3.out
  · exact stsAt_stays (stays_row W5 _ hb0) hb1 U4.out
  · exact stsAt_stays (stays_row W5 _ hb0) hb1 U5.out
end Go.Proofs.YtjpmdafaaonpoaaDoor

namespace Go.Proofs.YtjpmdafaaonpoaaDoor
open Go.RowKit
set_option linter.unusedVariables false
set_option maxRecDepth 100000 in
set_option maxHeartbeats 4000000 in
theorem s_none {c : Par} {w : World} {k : Nat} (R : Rd c w k) (d : Int) (hyp : ¬ (c.nx k).kind = 1 ∧ ¬ (c.nx k).tx = [105, 102] ∧ ¬ (c.nx k).tx = [119, 104, 105, 108, 101] ∧ ¬ (c.nx k).tx = [108, 111, 99, 107] ∧ ¬ (c.nx k).tx = [112, 114, 105, 110, 116] ∧ ¬ (c.nx k).tx = [115, 107, 105, 112]) :
    Calls Tryd.prog 96 #[c.ptr, .int .i64 d] w fun e w' => e = .panicked (flt (hdP c.L (c.at k)) 2) ∧ Fr c w w' := by
  have hp := c.nx_pos k
  rw [← hp]
  clear hp
  have hk6 : k ≤ 65536 := by have := R.s.small.1; have := R.le; omega
  have HN : Hid (∀ W, Rd c W k → Calls Tryd.prog 44 #[c.ptr] W fun e w' => e = .returned (tkV (c.nx k)) ∧ Below W.heap.size W w') := fun W h => p_next h
  obtain ⟨t, ht⟩ : ∃ t, t = c.nx k := ⟨_, rfl⟩
  have HT := Lib.hid ht
  rw [← ht] at HN hyp
  clear ht
  obtain ⟨tk, tx, tw, tp⟩ := t
  have HR := Lib.hid R
  have hX := Lib.hid R.lt
  have A0 := Lib.hid ((At.start R).alloc (.cells zSt 74))
  have O0 := Own.new w 74 zSt
  have hlook : Hid (∀ W, RdS c W → (Instr.lookup 96 (.map (some c.S)) (.string tx) false).run Tryd.prog W = .ok (.nilFunc) W) := fun W S => by
    rw [run_stmts S]
    have e : lookE tx.data.toList c.stmtE = .nilFunc := by
      obtain ⟨_, h1, h2, h3, h4, h5⟩ := hyp
      have h1' : ¬ tx.data.toList = [105, 102] := h1
      have h2' : ¬ tx.data.toList = [119, 104, 105, 108, 101] := h2
      have h3' : ¬ tx.data.toList = [108, 111, 99, 107] := h3
      have h4' : ¬ tx.data.toList = [112, 114, 105, 110, 116] := h4
      have h5' : ¬ tx.data.toList = [115, 107, 105, 112] := h5
      simp only [lookE, Par.stmtE]
      rw [if_neg h1', if_neg h2', if_neg h3', if_neg h4', if_neg h5']
    rw [e]
  clear R
  rw [← HT.out]
  have q1 : (tk == 1) = false := by simpa using hyp.1
  have HQ := Lib.hid (fun w => p_refuse ⟨tk, tx, tw, tp⟩ 2 w)
  have F2 := nil_eqlS
  clear hyp HT
  unfold tkV Par.ptr zSt at *
  have F1 := fn_eqlS
  go_enter Tryd.func96, Tryd.ntmps96
  go_wp2_with fail
  go_at_call 44
  refine (HN.out _ (A0.out.rd HR.out)).mono ?_
  rintro e w1 ⟨rfl, hb⟩
  have A1 := Lib.hid ((A0.out.below hb).alloc (.cells #[.int .u8 tk, .string tx, .int .i64 tw, .int .i64 tp] 49))
  have O1 := Lib.hid ((O0.below hb).alloc (.cells #[.int .u8 tk, .string tx, .int .i64 tw, .int .i64 tp] 49))
  have T1 := Lib.hid (Own.new w1 49 #[.int .u8 tk, .string tx, .int .i64 tw, .int .i64 tp])
  have hz1 := Lib.hid (O0.below hb).lt
  clear hb O0
  go_upto_region 2 with (fail)
  obtain ⟨W, hW⟩ : ∃ W, W = w1.alloc (.cells #[.int .u8 tk, .string tx, .int .i64 tw, .int .i64 tp] 49) := ⟨_, rfl⟩
  rw [← hW] at A1 O1 T1 ⊢
  clear hW
  obtain ⟨⟨_, _, x2, _, x4, _⟩, xf⟩ := A1.out.cells
  have t1 : W.cell? ⟨w1.heap.size, 1, none⟩ = some (.string tx) := by rw [cell_of_row W w1.heap.size 1 _ _ _ T1.out]; rfl
  have t0 : W.cell? ⟨w1.heap.size, 0, none⟩ = some (.int .u8 tk) := by rw [cell_of_row W w1.heap.size 0 _ _ _ T1.out]; rfl
  have hlk := fun n => hlook.out (W.drewN n) ((A1.out.rd HR.out).s.drewN n)
  go_quiet (fail)
  obtain ⟨W2, hW2⟩ : ∃ W2, W2 = W.drewN nq := ⟨_, rfl⟩
  have A2 := A1.out.drewN nq
  have O2 := O1.out.drewN nq
  have T2 := T1.out.drewN nq
  rw [← hW2] at A2 O2 T2 ⊢
  have A2 := Lib.hid A2
  have O2 := Lib.hid O2
  have T2 := Lib.hid T2
  clear hW2 x2 x4 xf t1 t0 hlk A1 O1 T1
  have t0 : W2.cell? ⟨w1.heap.size, 0, none⟩ = some (.int .u8 tk) := by rw [cell_of_row W2 w1.heap.size 0 _ _ _ T2.out]; rfl
  have T3 := T2.out
  go_wp2_with (first | (refine ld rowTok rfl rfl rfl T3 rfl ?_) | (go_at_call 61; refine (HQ.out _).mono ?_; rintro e w3 ⟨rfl, hb⟩; have HC := Lib.hid hb; clear hb))
  exact ⟨rfl, rfl, A2.out.fr.trans (.of_below HC.out)⟩
theorem PR.then_assoc {α β γ : Type} (x : PR α) (f : α → List Tk → PR β) (g : β → List Tk → PR γ) : (x.then f).then g = x.then fun a r => (f a r).then g := by cases x <;> rfl
theorem stsV_in {R : Nat → Prop} {w : World} : ∀ {l : List St} {xs : List Value}, stsV R w l xs → stsV (fun b => R b ∧ b < w.heap.size) w l xs
  | [], xs, h => h
  | x :: r, xs, ⟨us, ys, h1, ⟨a3, c3, a4, c4, a5, c5, h2, h3, h4, h5⟩, h6⟩ => ⟨us, ys, h1, ⟨a3, c3, a4, c4, a5, c5, h2, exsAt_in h3, stsAt_in h4, stsAt_in h5⟩, stsV_in h6⟩
theorem infoSt : (Tryd.prog.info? 74).map (fun i => (i.zero, i.size, i.bytes)) = some (some (.agg zSt), 7, 120) := by kernel_rfl
/-- The contract of statement. -/
def StmtC (n : Nat) : Prop := ∀ (c : Par) (w : World) (k : Nat) (d : Int), Rd c w k → 0 ≤ d → d ≤ 64 → 3 * (c.at k).length + 1 ≤ n →
  Calls Tryd.prog 96 #[c.ptr, .int .i64 d] w (RdPost c w (stmtP fnd c.L n d (c.at k)) (stW w.heap.size))
theorem stmtP_step {c : Par} {k m : Nat} {d : Int} (h : k < c.toks.length) : stmtP fnd c.L (m + 1) d (c.at k) =
    if (c.nx k).kind = 1 then changeP fnd c.L m (c.nx k) (c.at (k + 1))
    else if (c.nx k).tx = [105, 102] then (parenP fnd c.L m (c.at (k + 1))).then fun e r => (blkP c.L m (d + 1) r).then fun b r => if isT [101, 108, 115, 101] r = true then (blkP c.L m (d + 1) r.tail).then fun l r => .ok (St.mk 3 ⟨#[]⟩ ⟨#[]⟩ [e] b l (c.nx k).pos) r else .ok (St.mk 3 ⟨#[]⟩ ⟨#[]⟩ [e] b [] (c.nx k).pos) r
    else if (c.nx k).tx = [119, 104, 105, 108, 101] then (parenP fnd c.L m (c.at (k + 1))).then fun e r => (blkP c.L m (d + 1) r).then fun b r => .ok (St.mk 4 ⟨#[]⟩ ⟨#[]⟩ [e] b [] (c.nx k).pos) r
    else if (c.nx k).tx = [108, 111, 99, 107] then (nameP c.L (c.at (k + 1))).then fun o r => (blkP c.L m (d + 1) r).then fun b r => .ok (St.mk 5 o.name ⟨#[]⟩ [] b [] (c.nx k).pos) r
    else if (c.nx k).tx = [112, 114, 105, 110, 116] then (binE fnd c.L m 1 0 (c.at (k + 1))).then fun e r => (need c.L [59] r).then fun _ r => .ok (St.mk 6 ⟨#[]⟩ ⟨#[]⟩ [e] [] [] (c.nx k).pos) r
    else if (c.nx k).tx = [115, 107, 105, 112] then (need c.L [59] (c.at (k + 1))).then fun _ r => .ok (St.mk 7 ⟨#[]⟩ ⟨#[]⟩ [] [] [] (c.nx k).pos) r
    else .bad (c.nx k).pos 2 := by
  rw [at_nx h]
  simp only [stmtP, blkP, PR.then_assoc]
theorem stmt_step {m : Nat} (HB : BlkC m) : StmtC (m + 1) := by
  intro c w k d R hd0 hd1 hm
  by_cases hk : k < c.toks.length
  · have hl := at_step hk
    have hm' : 3 * (c.at (k + 1)).length + 3 ≤ m := by omega
    rw [stmtP_step hk]
    by_cases h1 : (c.nx k).kind = 1
    · rw [if_pos h1]
      exact s_change R d _ h1 fun W RW => m_change RW (c.nx k) d hd0 hd1 hm'
    rw [if_neg h1]
    by_cases h2 : (c.nx k).tx = [105, 102]
    · rw [if_pos h2]
      exact s_choice R d _ ⟨h1, h2⟩ fun W RW => m_choice HB RW (c.nx k) d hd0 hd1 hm'
    rw [if_neg h2]
    by_cases h3 : (c.nx k).tx = [119, 104, 105, 108, 101]
    · rw [if_pos h3]
      exact s_loop R d _ ⟨h1, h3⟩ fun W RW => m_loop HB RW (c.nx k) d hd0 hd1 hm'
    rw [if_neg h3]
    by_cases h4 : (c.nx k).tx = [108, 111, 99, 107]
    · rw [if_pos h4]
      exact s_guard R d _ ⟨h1, h4⟩ fun W RW => m_guard HB RW (c.nx k) d hd0 hd1 hm'
    rw [if_neg h4]
    by_cases h5 : (c.nx k).tx = [112, 114, 105, 110, 116]
    · rw [if_pos h5]
      exact s_print R d _ ⟨h1, h5⟩ fun W RW => m_print RW (c.nx k) d hd0 hd1 hm'
    rw [if_neg h5]
    by_cases h6 : (c.nx k).tx = [115, 107, 105, 112]
    · rw [if_pos h6]
      exact s_skip R d _ ⟨h1, h6⟩ fun W RW => m_skip (m := m) RW (c.nx k) d
    rw [if_neg h6]
    refine (s_none R d ⟨h1, h2, h3, h4, h5, h6⟩).mono fun e w' ⟨he, hf⟩ => ⟨hf, ?_⟩
    rw [he, ← c.nx_pos k]
  · have e := Par.at_end (c := c) (k := k) (by omega)
    have hn : c.nx k = ⟨0, ⟨#[]⟩, 0, c.L⟩ := by unfold Par.nx; rw [e]
    rw [e]
    refine (s_none R d (by rw [hn]; exact ⟨(by show ¬ (0 : Int) = 1; decide), (by show ¬ ([] : Bs) = _; decide), (by show ¬ ([] : Bs) = _; decide), (by show ¬ ([] : Bs) = _; decide), (by show ¬ ([] : Bs) = _; decide), (by show ¬ ([] : Bs) = _; decide)⟩)).mono fun e' w' ⟨he, hf⟩ => ⟨hf, ?_⟩
    rw [he, e]
    rfl
/-- What holds at the head of a round of rest. -/
def RestI (c : Par) (w : World) (d : Int) (Y : PR (List St)) (m : Nat) (v : Value) (W : World) : Prop :=
  ∃ (j : Nat) (l : List St) (xs : List Value), At c w W j ∧ W.ownsRow w.heap.size 74 7 v l.length xs ∧ stsV (fun b => w.heap.size ≤ b ∧ v.ownBlock ≠ some b) W l xs ∧ restP fnd c.L m d l (c.at j) = Y ∧ 3 * (c.at j).length + 2 ≤ m ∧ l.length + (c.at j).length ≤ 65536
set_option maxRecDepth 100000 in
set_option maxHeartbeats 4000000 in
theorem p_rest {n : Nat} (HI : ∀ m, m < n → StmtC m) {c : Par} {w : World} {k : Nat} {d : Int} (R : Rd c w k) (hd0 : 0 ≤ d) (hd1 : d ≤ 64) (hm : 3 * (c.at k).length + 2 ≤ n) :
    Calls Tryd.prog 72 #[c.ptr, .int .i64 d] w (RdPost c w (restP fnd c.L n d [] (c.at k)) (fun l v w' => stsVal w.heap.size l v w')) := by
  have HP : Hid (∀ W j (s : ByteArray), Rd c W j → s.data.toList ≠ [] → Calls Tryd.prog 45 #[c.ptr, .string s] W fun e w' => e = .returned (.bool (isT s.data.toList (c.at j))) ∧ Fr c W w' ∧ Rd c w' (if isT s.data.toList (c.at j) = true then j + 1 else j)) := fun W j s RW hs => p_pass RW s hs
  have HS : Hid (∀ m, m < n → ∀ W j, Rd c W j → 3 * (c.at j).length + 1 ≤ m → Calls Tryd.prog 96 #[c.ptr, .int .i64 d] W (RdPost c W (stmtP fnd c.L m d (c.at j)) (stW W.heap.size))) := fun m hmn W j RW hf => HI m hmn c W j d RW hd0 hd1 hf
  have hl0 : (c.at k).length ≤ 65536 := by rw [Par.at_len]; have := R.s.small.1; omega
  obtain ⟨Y, hY⟩ : ∃ Y, Y = restP fnd c.L n d [] (c.at k) := ⟨_, rfl⟩
  rw [← hY]
  have B0 : Hid (RestI c w d Y n (.slice none 0 0) w) := ⟨k, [], [], At.start R, World.ownsRow_nil _ _ _ _, rfl, hY.symm, hm, by simpa using hl0⟩
  have HR := Lib.hid R
  have hX := Lib.hid R.lt
  have HYY := Lib.hid (rfl : Y = Y)
  clear HI hY R hm hl0
  unfold Par.ptr at *
  go_enter Tryd.func72, Tryd.ntmps72
  go_wp2_with fail
  go_loopg [5] n (fun m u W => RestI c w d Y m u W ∧ m ≤ n)
  case atStart => exact ⟨B0.out, Nat.le_refl _⟩
  case round =>
    obtain ⟨⟨j, l, xs, A1, hrow, hsv, hL, hfu, hle⟩, hgn⟩ := hrel
    have HA1 := Lib.hid A1
    have HROW := Lib.hid hrow
    have HSV := Lib.hid hsv
    have HL := Lib.hid hL
    have HFU := Lib.hid (And.intro hfu hle)
    have HGN := Lib.hid hgn
    obtain ⟨oa, cap, rfl, hoa⟩ := row_shape hrow
    have HOA := Lib.hid hoa
    clear A1 hrow hsv hL hfu hle hoa hgn
    by_cases h1 : isT [125] (c.at j) = true
    · have H1 := Lib.hid h1
      have hs2 : Y = .ok l (c.at (j + 1)) := by
        obtain ⟨m, rfl⟩ : ∃ m, gk = m + 1 := ⟨gk - 1, by have := HFU.out.1; omega⟩
        rw [← HL.out]; unfold restP; rw [if_pos h1, Par.at_tail]
      have HSP := Lib.hid hs2
      clear h1 hs2
      go_wp2_with fail
      go_at_call 45
      refine (HP.out _ j ⟨#[125]⟩ (HA1.out.rd HR.out) (by decide)).mono ?_
      rintro e w2 ⟨he, hf2, hR2⟩
      rw [show (⟨#[125]⟩ : ByteArray).data.toList = [125] from rfl, H1.out] at he hR2
      rw [if_pos rfl] at hR2
      subst he
      have A2 := Lib.hid (HA1.out.call hf2 hR2)
      have ROW2 := Lib.hid (row_fr HROW.out hf2 hX.out)
      have SV2 := Lib.hid (stsV_stays (stays_fr hf2 (fun b hb => by have := hb.1; have := hX.out; omega)) (fun b hb => hb) HSV.out)
      clear hf2 hR2
      go_wp2_with fail
      go_ret
      show RdPost c w Y _ _ _
      rw [HSP.out]
      refine ⟨A2.out.fr, _, j + 1, rfl, ⟨_, _, rfl, ?_⟩, A2.out.rd HR.out, rfl⟩
      cases l with
      | nil => exact .inl rfl
      | cons x xx =>
        obtain ⟨g, rfl, hg⟩ := HOA.out (by simp)
        exact .inr ⟨g, 0, rfl, hg, stsIn_of (stsV_stays (R' := fun b => w.heap.size ≤ b) (Stays.refl _ _) (fun b hb => hb.1) SV2.out) (row_cells ROW2.out rfl)⟩
    · have h1' : isT [125] (c.at j) = false := by simpa using h1
      obtain ⟨m, rfl⟩ : ∃ m, gk = m + 1 := ⟨gk - 1, by have := HFU.out.1; omega⟩
      have hs2 : Y = (stmtP fnd c.L m d (c.at j)).then fun s r => restP fnd c.L m d (l ++ [s]) r := by
        rw [← HL.out]; conv => lhs; unfold restP
        rw [h1']; rfl
      obtain ⟨Z, hZ⟩ : ∃ Z, Z = stmtP fnd c.L m d (c.at j) := ⟨_, rfl⟩
      rw [← hZ] at hs2
      have HSP := Lib.hid hs2
      have HKZ : Hid (∀ W, Rd c W j → Calls Tryd.prog 96 #[.pointer (some ⟨c.X, 0, none⟩), .int .i64 d] W (RdPost c W Z (stW W.heap.size))) := fun W RW => by rw [hZ]; exact HS.out m (by have := HGN.out; omega) W j RW (by have := HFU.out.1; omega)
      have HZL : Hid (∀ s r, Z = .ok s r → r.length < (c.at j).length) := fun s r h => stmtP_short (hZ.symm.trans h)
      have H1 := Lib.hid h1'
      clear h1 h1' hs2 hZ
      go_wp2_with fail
      go_at_call 45
      refine (HP.out _ j ⟨#[125]⟩ (HA1.out.rd HR.out) (by decide)).mono ?_
      rintro e w2 ⟨he, hf2, hR2⟩
      rw [show (⟨#[125]⟩ : ByteArray).data.toList = [125] from rfl, H1.out] at he hR2
      rw [if_neg (by simp)] at hR2
      subst he
      have A2 := Lib.hid (HA1.out.call hf2 hR2)
      have ROW2 := Lib.hid (row_fr HROW.out hf2 hX.out)
      have SV2 := Lib.hid (stsV_stays (stays_fr hf2 (fun b hb => by have := hb.1; have := hX.out; omega)) (fun b hb => hb) HSV.out)
      clear hf2 hR2
      go_wp2_with fail
      go_at_call 96
      refine (HKZ.out _ (A2.out.rd HR.out)).mono ?_
      rintro e w3 ⟨hf3, hm3⟩
      rcases Z with ⟨s2, r2⟩ | ⟨p, q⟩
      rotate_left
      · obtain rfl := hm3
        have A3 := Lib.hid (A2.out.fr.trans hf3)
        clear hf3
        go_wp2_with fail
        refine ⟨rfl, ?_⟩
        show RdPost c w Y _ _ _
        rw [HSP.out]
        exact ⟨A3.out, rfl⟩
      obtain ⟨v3, k3, rfl, ⟨a3, c3, a4, c4, a5, c5, rfl, hV3, hV4, hV5⟩, hR3, rfl⟩ := hm3
      have hz2 : w.heap.size ≤ w2.heap.size := Keep.size A2.out.fr
      have hz23 : w2.heap.size ≤ w3.heap.size := Keep.size hf3
      have row3 := (row_fr ROW2.out hf3 hX.out).alloc (.cells #[.int .u8 s2.kind, .string s2.name, .string s2.other, .slice a3 s2.e.length c3, .slice a4 s2.body.length c4, .slice a5 s2.els.length c5, .int .i64 s2.pos] 74)
      have hlt2 := ROW2.out.lt
      have A3 := Lib.hid ((A2.out.call hf3 hR3).alloc (.cells #[.int .u8 s2.kind, .string s2.name, .string s2.other, .slice a3 s2.e.length c3, .slice a4 s2.body.length c4, .slice a5 s2.els.length c5, .int .i64 s2.pos] 74))
      have SV3 := stsV_stays (stays_fr hf3 (fun b hb => by have := hb.1; have := hX.out; omega)) (fun b hb => hb) SV2.out
      have NV : stV (fun b => w.heap.size ≤ b ∧ (Value.slice oa l.length cap).ownBlock ≠ some b ∧ b < w3.heap.size) w3 s2 [.int .u8 s2.kind, .string s2.name, .string s2.other, .slice a3 s2.e.length c3, .slice a4 s2.body.length c4, .slice a5 s2.els.length c5, .int .i64 s2.pos] := by
        have hq : ∀ b, w2.heap.size ≤ b ∧ b < w3.heap.size → w.heap.size ≤ b ∧ (Value.slice oa l.length cap).ownBlock ≠ some b ∧ b < w3.heap.size := fun b hb => ⟨by omega, fun e => by have := (hlt2 b e).2; omega, hb.2⟩
        exact ⟨a3, c3, a4, c4, a5, c5, rfl, exsAt_mono (exsAt_in hV3) hq, stsAt_mono (stsAt_in hV4) hq, stsAt_mono (stsAt_in hV5) hq⟩
      have SVN := stsV_snoc (stsV_stays (R' := fun b => w.heap.size ≤ b ∧ (Value.slice oa l.length cap).ownBlock ≠ some b ∧ b < w3.heap.size) (Stays.refl _ w3) (fun b hb => ⟨hb.1.1, hb.1.2, hb.2⟩) (stsV_in SV3)) NV
      have SVN := Lib.hid (stsV_stays (stays_alloc _ w3 (.cells #[.int .u8 s2.kind, .string s2.name, .string s2.other, .slice a3 s2.e.length c3, .slice a4 s2.body.length c4, .slice a5 s2.els.length c5, .int .i64 s2.pos] 74)) (fun b hb => hb) SVN)
      have hz3 : w.heap.size ≤ w3.heap.size := by omega
      have hl6 : l.length ≤ 65536 := by have := HFU.out.2; omega
      obtain ⟨i0, hi, hi0, hi1, hi2⟩ := info_parts infoSt
      have hk3 := Lib.hid (HZL.out _ _ rfl)
      have N3 := Own.new w3 74 #[.int .u8 s2.kind, .string s2.name, .string s2.other, .slice a3 s2.e.length c3, .slice a4 s2.body.length c4, .slice a5 s2.els.length c5, .int .i64 s2.pos]
      have HNEWS : Hid (∀ jj u, [Value.int .u8 s2.kind, .string s2.name, .string s2.other, .slice a3 s2.e.length c3, .slice a4 s2.body.length c4, .slice a5 s2.els.length c5, .int .i64 s2.pos][jj]? = some u → (w3.alloc (.cells #[.int .u8 s2.kind, .string s2.name, .string s2.other, .slice a3 s2.e.length c3, .slice a4 s2.body.length c4, .slice a5 s2.els.length c5, .int .i64 s2.pos] 74)).cell? ((⟨w3.heap.size, 0, none⟩ : Addr).add jj) = some u) := World.news_of_block N3
      have HSZ := Lib.hid (World.size_alloc w3 (.cells #[.int .u8 s2.kind, .string s2.name, .string s2.other, .slice a3 s2.e.length c3, .slice a4 s2.body.length c4, .slice a5 s2.els.length c5, .int .i64 s2.pos] 74))
      have HZ23 := Lib.hid hz23
      clear hf3 hR3 hV3 hV4 hV5 SV3 NV hz2 hz23 hlt2
      go_wp2_with (at_builtin; refine wpList_append_lies _ rfl _ _ 67 rfl w.heap.size 74 i0 _ 7 120 Tryd.underlying67 hi hi0 hi1 hi2 rfl (by decide) _ _ _ rfl row3 ⟨w3.heap.size, 0, none⟩ 1 1 [.int .u8 s2.kind, .string s2.name, .string s2.other, .slice a3 s2.e.length c3, .slice a4 s2.body.length c4, .slice a5 s2.els.length c5, .int .i64 s2.pos] rfl rfl HNEWS.out (by simp [Value.oneCell']) (by decide) (by simp only [maxLen]; omega) (by omega) (by rw [HSZ.out]; omega) _ rfl ?_; intro g2 cap2 w4 hown' hgrow hlies hglt; have ROW4 := Lib.hid hown'; have GR := Lib.hid hgrow; have LIES := Lib.hid hlies; clear hown' hgrow hlies)
      go_roundg m
      case measure => omega
      case rel =>
        have hx := hX.out
        refine ⟨⟨k3, l ++ [s2], _, grown_fr A3.out GR.out (fun r hr => ?_), by rw [List.length_append]; exact ROW4.out, ?_, HSP.out.symm, by have := HFU.out.1; have := hk3.out; omega, by have := HFU.out.2; have := hk3.out; rw [List.length_append, List.length_singleton]; omega⟩, by have := HGN.out; omega⟩
        · have h2 := (row3.lt r hr).1
          exact ⟨h2, by omega⟩
        · refine stsV_stays (stays_grown GR.out (fun b hb => hb.2.1)) (fun b hb => ⟨hb.1, ?_⟩) SVN.out
          intro e
          have e : g2 = b := by simpa [Value.ownBlock] using e
          subst e
          rcases LIES.out with h | h
          · exact hb.2.1 h
          · rw [HSZ.out] at h; have := hb.2.2; omega
theorem p_block {m : Nat} (HI : ∀ m', m' < m → StmtC m') : BlkC m := by
  intro c w k d R hd0 hd1 hm
  obtain ⟨Y, hY⟩ : ∃ Y, Y = blkP c.L m d (c.at k) := ⟨_, rfl⟩
  have HS := Lib.hid hY
  rw [← hY]
  have hl0 := Lib.hid R.le
  have HR := Lib.hid R
  have hX := Lib.hid R.lt
  have HM := Lib.hid hm
  have HO : Hid (∀ W, Rd c W k → Calls Tryd.prog 70 #[c.ptr, .int .i64 d] W (RdPost c W (openP c.L d (c.at k)) (fun _ v _ => v = .tuple #[]))) := fun W RW => p_open RW d
  have HRS : Hid (∀ W j, Rd c W j → d ≤ 64 → 3 * (c.at j).length + 2 ≤ m → Calls Tryd.prog 72 #[c.ptr, .int .i64 d] W (RdPost c W (restP fnd c.L m d [] (c.at j)) (fun l v w' => stsVal W.heap.size l v w'))) := fun W j RW hd hf => p_rest HI RW hd0 hd hf
  obtain ⟨O, hO⟩ : ∃ O, O = openP c.L d (c.at k) := ⟨_, rfl⟩
  rw [← hO] at HO
  have HOD : Hid (∀ u r, O = .ok u r → d ≤ 64 ∧ r.length < (c.at k).length) := fun u r h => by
    have h := hO.symm.trans h
    refine ⟨?_, by have := open_short h; omega⟩
    unfold openP at h
    obtain ⟨a, b, h1, h2⟩ := PR.then_eq_ok h
    split at h2
    · cases h2
    · omega
  have HS : Hid (Y = O.then fun _ r => restP fnd c.L m d [] r) := by rw [Hid, HS.out, hO]; rfl
  have A0 := Lib.hid (At.start R)
  clear hY R hm hO HI
  unfold Par.ptr at *
  go_enter Tryd.func85, Tryd.ntmps85
  go_wp2_with fail
  go_at_call 70
  refine (HO.out _ HR.out).mono ?_
  rintro e w1 ⟨hf1, hm1⟩
  rcases O with ⟨o1, r1⟩ | ⟨p, q⟩
  rotate_left
  · obtain rfl := hm1
    have A1 := Lib.hid hf1
    clear hf1
    go_wp2_with fail
    refine ⟨rfl, ?_⟩
    rw [HS.out]
    exact ⟨A1.out, rfl⟩
  obtain ⟨v1, k1, rfl, rfl, hR1, rfl⟩ := hm1
  have HOD := Lib.hid (HOD.out _ _ rfl)
  have A1 := Lib.hid (A0.out.call hf1 hR1)
  obtain ⟨Z, hZ⟩ : ∃ Z, Z = restP fnd c.L m d [] (c.at k1) := ⟨_, rfl⟩
  have HC : Hid (∀ W, Rd c W k1 → Calls Tryd.prog 72 #[.pointer (some ⟨c.X, 0, none⟩), .int .i64 d] W (RdPost c W Z (fun l v w' => stsVal W.heap.size l v w'))) := fun W RW => by rw [hZ]; exact HRS.out W k1 RW HOD.out.1 (by have := HM.out; have := HOD.out.2; omega)
  have HS : Hid (Y = Z) := by rw [Hid, HS.out, hZ]; rfl
  clear hf1 hR1 hZ
  go_wp2_with fail
  go_at_call 72
  refine (HC.out _ (A1.out.rd HR.out)).mono ?_
  rintro e w2 ⟨hf2, hm2⟩
  rcases Z with ⟨l2, r2⟩ | ⟨p, q⟩
  rotate_left
  · obtain rfl := hm2
    have A2 := Lib.hid (A1.out.fr.trans hf2)
    clear hf2
    go_wp2_with fail
    refine ⟨rfl, ?_⟩
    rw [HS.out]
    exact ⟨A2.out, rfl⟩
  obtain ⟨v2, k2, rfl, ⟨a, cap, rfl, hV⟩, hR2, rfl⟩ := hm2
  have V2 : Hid (stsAt (fun b => w.heap.size ≤ b) w2 l2 a) := Lib.hid (stsAt_mono hV (fun b hb => by have := A1.out.fr.size; change _ ≤ _ at hb; omega))
  have A2 := Lib.hid (A1.out.call hf2 hR2)
  clear hf2 hR2 hV
  go_wp2_with fail
  go_ret
  rw [HS.out]
  exact ⟨A2.out.fr, _, k2, rfl, ⟨_, _, rfl, V2.out⟩, A2.out.rd HR.out, rfl⟩
theorem stmt_all : ∀ n, StmtC n := by
  intro n
  induction n using Nat.strongRecOn with
  | ind n ih =>
    cases n with
    | zero => intro c w k d R _ _ h; omega
    | succ m => exact stmt_step (p_block fun m' h => ih m' (by omega))
end Go.Proofs.YtjpmdafaaonpoaaDoor

namespace Go.Proofs.YtjpmdafaaonpoaaDoor
open Go.RowKit
set_option linter.unusedVariables false
section
variable {o : Oper} {a : Act} {w : World} {K : Act → World → Prop} {Q : Exit → Act → World → Prop}
set_option maxHeartbeats 1000000 in
theorem wp_ld_dcs {x : Operand} (ho : o.op = .load 37 x) {p : Addr} (hx : a.eval x = .pointer (some p)) {v : Value} (hv : w.cell? p = some v) (h : K (a.put o.dst v) w) : o.wp Tryd.prog a w K Q := by
  have hrun : (execOp a.eval o).run Tryd.prog w = .ok (.value v) w := by
    unfold execOp
    simp only [ho, hx]
    go_simp
  unfold Oper.wp
  rw [hrun]
  exact h
set_option maxHeartbeats 1000000 in
theorem wp_st_dcs {x y : Operand} (ho : o.op = .store 37 x y) {p : Addr} (hx : a.eval x = .pointer (some p)) {s : Option Addr} {n cp : Nat} (hy : a.eval y = .slice s n cp) {u : Value} (hu : w.cell? p = some u) (hf : w.frozen? p = false) (h : K (a.put o.dst undef) (w.setCell p (.slice s n cp))) : o.wp Tryd.prog a w K Q := by
  have hrun : (execOp a.eval o).run Tryd.prog w = .ok .skip (w.setCell p (.slice s n cp)) := by
    unfold execOp
    simp only [ho, hx, hy]
    go_simp
  unfold Oper.wp
  rw [hrun]
  exact h
set_option maxHeartbeats 1000000 in
theorem wp_ld_ths {x : Operand} (ho : o.op = .load 38 x) {p : Addr} (hx : a.eval x = .pointer (some p)) {v : Value} (hv : w.cell? p = some v) (h : K (a.put o.dst v) w) : o.wp Tryd.prog a w K Q := by
  have hrun : (execOp a.eval o).run Tryd.prog w = .ok (.value v) w := by
    unfold execOp
    simp only [ho, hx]
    go_simp
  unfold Oper.wp
  rw [hrun]
  exact h
set_option maxHeartbeats 1000000 in
theorem wp_st_ths {x y : Operand} (ho : o.op = .store 38 x y) {p : Addr} (hx : a.eval x = .pointer (some p)) {s : Option Addr} {n cp : Nat} (hy : a.eval y = .slice s n cp) {u : Value} (hu : w.cell? p = some u) (hf : w.frozen? p = false) (h : K (a.put o.dst undef) (w.setCell p (.slice s n cp))) : o.wp Tryd.prog a w K Q := by
  have hrun : (execOp a.eval o).run Tryd.prog w = .ok .skip (w.setCell p (.slice s n cp)) := by
    unfold execOp
    simp only [ho, hx, hy]
    go_simp
  unfold Oper.wp
  rw [hrun]
  exact h
end
/-- While declarations are read: the reader's place, the program's block, its two lists. -/
structure PgI (c : Par) (w0 : World) (pb : Nat) (vS vL : Value) (p : Pg) (W : World) (k : Nat) : Prop where
  run : At c w0 W k
  ge : w0.heap.size < pb
  res : Own W w0.heap.size 40 zPg
  own : Own W pb 40 #[vS, vL, .slice none 0 0]
  rS : W.ownsRow w0.heap.size 71 3 vS p.shared.length (dcsL p.shared)
  rL : W.ownsRow w0.heap.size 71 3 vL p.locks.length (dcsL p.locks)
  ne : vS.ownBlock = none ∨ vS.ownBlock ≠ vL.ownBlock
section
variable {c : Par} {w0 W W' : World} {pb : Nat} {vS vL : Value} {p : Pg} {k k2 : Nat}
/-- A row's block is of its elements' type. -/
theorem row_apart {W : World} {base : Nat} {T U : TypeId} {n : Nat} {v : Value} {m : Nat} {xs : List Value} (h : W.ownsRow base T n v m xs) {b : Nat} {cs : Array Value} (hb : Own W b U cs) (ht : (T == U) = false) : v.ownBlock ≠ some b := by
  intro e
  rcases h.2 with ⟨rfl, _⟩ | ⟨g, cap, cur, rfl, _, hg, _⟩
  · cases e
  · have e : g = b := by simpa [Value.ownBlock] using e
    subst e
    unfold Own at hb
    rw [hg] at hb
    cases hb
    simp at ht
theorem PgI.call (h : PgI c w0 pb vS vL p W k) (hf : Fr c W W') (hp : Rd c W' k2) (hX : c.X < w0.heap.size) : PgI c w0 pb vS vL p W' k2 :=
  ⟨h.run.call hf hp, h.ge, h.res.fr hf (by omega), h.own.fr hf (by have := h.ge; omega), row_fr h.rS hf hX, row_fr h.rL hf hX, h.ne⟩
theorem PgI.cell (h : PgI c w0 pb vS vL p W k) {i : Nat} {v : Value} (hv : (#[vS, vL, .slice none 0 0] : Array Value)[i]? = some v) : W.cell? ⟨pb, i, none⟩ = some v := by rw [cell_of_row W _ i _ _ _ h.own]; exact hv
theorem own_frozen {b : Nat} {T : TypeId} {cs : Array Value} (h : Own W b T cs) (i : Nat) : W.frozen? ⟨b, i, none⟩ = false := by
  unfold Own at h
  simp only [World.frozen?, h]; rfl
theorem PgI.drew (h : PgI c w0 pb vS vL p W k) : PgI c w0 pb vS vL p W.drew k := ⟨h.run.drew, h.ge, h.res, h.own, h.rS, h.rL, h.ne⟩
end
theorem dcsL_cells (d : List Dc) : ∀ u ∈ dcsL d, u.oneCell' = true := by
  intro u hu
  unfold dcsL at hu
  rw [List.mem_flatMap] at hu
  obtain ⟨x, _, hx⟩ := hu
  simp [dcCells] at hx
  rcases hx with rfl | rfl | rfl <;> rfl
theorem row_news {W : World} {base : Nat} {T : TypeId} {n m : Nat} {g cap : Nat} {xs : List Value} (h : W.ownsRow base T n (.slice (some ⟨g, 0, none⟩) m cap) m xs) : ∀ j u, xs[j]? = some u → W.cell? ((⟨g, 0, none⟩ : Addr).add j) = some u := h.cells rfl
theorem list_count {L : Int} {one : List Tk → PR Dc} (ho : ∀ ts d r, one ts = .ok d r → r.length < ts.length) : ∀ {n : Nat} {acc : List Dc} {ts : List Tk} {l : List Dc} {r : List Tk}, listP L one n acc ts = .ok l r → l.length ≤ acc.length + ts.length
  | 0, acc, ts, l, r, h => by simp [listP] at h
  | n + 1, acc, ts, l, r, h => by
    simp only [listP] at h
    obtain ⟨a, b, h1, h2⟩ := PR.then_eq_ok h
    have k := ho _ _ _ h1
    split at h2
    · have := list_count ho h2
      rw [List.length_append, List.length_tail] at this
      simp at this
      omega
    · obtain ⟨u, c, h3, h4⟩ := PR.then_eq_ok h2
      cases h4
      rw [List.length_append]
      simp
      omega
section
variable {c : Par} {w0 W W' : World} {pb : Nat} {vS vL : Value} {p : Pg} {k k2 : Nat}
theorem PgI.grownS (h : PgI c w0 pb vS vL p W k) (hg : W.grownBy W' vS.ownBlock) (hX : c.X < w0.heap.size) : At c w0 W' k ∧ Own W' w0.heap.size 40 zPg ∧ Own W' pb 40 #[vS, vL, .slice none 0 0] ∧ W'.ownsRow w0.heap.size 71 3 vL p.locks.length (dcsL p.locks) :=
  ⟨grown_fr h.run hg (fun r hr => by have := (h.rS.lt r hr).1; exact ⟨this, by omega⟩), own_grown h.res hg (row_apart h.rS h.res rfl), own_grown h.own hg (row_apart h.rS h.own rfl),
   h.rL.kept hg (by
    rcases h.ne with e | e
    · cases hv : vL.ownBlock with
      | none => exact .inl rfl
      | some b => exact .inr (by rw [e]; simp)
    · exact .inr (fun e' => e e'.symm))⟩
theorem PgI.grownL (h : PgI c w0 pb vS vL p W k) (hg : W.grownBy W' vL.ownBlock) (hX : c.X < w0.heap.size) : At c w0 W' k ∧ Own W' w0.heap.size 40 zPg ∧ Own W' pb 40 #[vS, vL, .slice none 0 0] ∧ W'.ownsRow w0.heap.size 71 3 vS p.shared.length (dcsL p.shared) :=
  ⟨grown_fr h.run hg (fun r hr => by have := (h.rL.lt r hr).1; exact ⟨this, by omega⟩), own_grown h.res hg (row_apart h.rL h.res rfl), own_grown h.own hg (row_apart h.rL h.own rfl), h.rS.kept hg h.ne⟩
theorem PgI.endS (h : PgI c w0 pb vS vL p W k) {g cap : Nat} {d : List Dc} (hX : c.X < w0.heap.size) (hg : W.grownBy W' vS.ownBlock) (hown : W'.ownsRow w0.heap.size 71 3 (.slice (some ⟨g, 0, none⟩) (p.shared.length + d.length) cap) (p.shared.length + d.length) (dcsL p.shared ++ dcsL d)) (hl : vS.ownBlock = some g ∨ g = W.heap.size) :
    PgI c w0 pb (.slice (some ⟨g, 0, none⟩) (p.shared.length + d.length) cap) vL { p with shared := p.shared ++ d } (W'.setRow pb #[.slice (some ⟨g, 0, none⟩) (p.shared.length + d.length) cap, vL, .slice none 0 0]) k := by
  obtain ⟨h1, h2, h3, h4⟩ := h.grownS hg hX
  have ha := row_apart hown h3 rfl
  refine ⟨h1.setRow (by have := h.ge; omega) (by have := h.ge; omega) _, h.ge, h2.other _ (by have := h.ge; omega), h3.row _, ?_, row_row h4 _ (row_apart h4 h3 rfl), ?_⟩
  · have := row_row hown #[.slice (some ⟨g, 0, none⟩) (p.shared.length + d.length) cap, vL, .slice none 0 0] ha
    simp only [List.length_append, dcsL, List.flatMap_append] at this ⊢
    exact this
  · right
    intro e
    rcases hl with hl | hl
    · rcases h.ne with e' | e'
      · rw [e'] at hl; cases hl
      · exact e' (by rw [hl, ← e]; rfl)
    · have := (h.rL.lt g (by rw [← e]; rfl)).2
      omega
theorem PgI.endL (h : PgI c w0 pb vS vL p W k) {g cap : Nat} {d : List Dc} (hX : c.X < w0.heap.size) (hg : W.grownBy W' vL.ownBlock) (hown : W'.ownsRow w0.heap.size 71 3 (.slice (some ⟨g, 0, none⟩) (p.locks.length + d.length) cap) (p.locks.length + d.length) (dcsL p.locks ++ dcsL d)) (hl : vL.ownBlock = some g ∨ g = W.heap.size) :
    PgI c w0 pb vS (.slice (some ⟨g, 0, none⟩) (p.locks.length + d.length) cap) { p with locks := p.locks ++ d } (W'.setRow pb #[vS, .slice (some ⟨g, 0, none⟩) (p.locks.length + d.length) cap, .slice none 0 0]) k := by
  obtain ⟨h1, h2, h3, h4⟩ := h.grownL hg hX
  have ha := row_apart hown h3 rfl
  refine ⟨h1.setRow (by have := h.ge; omega) (by have := h.ge; omega) _, h.ge, h2.other _ (by have := h.ge; omega), h3.row _, row_row h4 _ (row_apart h4 h3 rfl), ?_, ?_⟩
  · have := row_row hown #[vS, .slice (some ⟨g, 0, none⟩) (p.locks.length + d.length) cap, .slice none 0 0] ha
    simp only [List.length_append, dcsL, List.flatMap_append] at this ⊢
    exact this
  · cases hv : vS.ownBlock with
    | none => exact .inl rfl
    | some b =>
      right
      intro e
      have e : b = g := by simpa [Value.ownBlock] using e
      subst e
      rcases hl with hl | hl
      · rcases h.ne with e' | e'
        · rw [e'] at hv; cases hv
        · exact e' (by rw [hl, hv])
      · have := (h.rS.lt b hv).2
        omega
end
set_option maxRecDepth 100000 in
set_option maxHeartbeats 4000000 in
theorem p_shared {c : Par} {w0 W : World} {pb : Nat} {vS vL : Value} {p : Pg} {k0 k n : Nat} (R : Rd c w0 k0) (hn : (c.at k).length < n) (G : PgI c w0 pb vS vL p W k) (hl : p.shared.length + (c.at k).length ≤ 65536) :
    Calls Tryd.prog 52 #[c.ptr, .pointer (some ⟨pb, 0, none⟩)] W fun e w' => match listP c.L (firstP c.L) n [] (c.at k) with
      | .ok d r => ∃ v' k', e = .returned (.tuple #[]) ∧ PgI c w0 pb v' vL { p with shared := p.shared ++ d } w' k' ∧ r = c.at k'
      | .bad q rl => e = .panicked (flt q rl) ∧ Fr c w0 w' := by
  have HLEN : Hid (∀ l r, listP c.L (firstP c.L) n [] (c.at k) = .ok l r → l.length ≤ (c.at k).length) := fun l r h => by simpa using list_count (fun _ _ _ => firstP_short) h
  have HL : Hid (∀ W, Rd c W k → Calls Tryd.prog 71 #[c.ptr, .func (.func 83) #[c.ptr] #[]] W (RdPost c W (listP c.L (firstP c.L) n [] (c.at k)) (fun l v w' => w'.ownsRow W.heap.size 71 3 v l.length (dcsL l) ∧ l ≠ []))) := fun W RW => p_list_first RW hn
  obtain ⟨Y, hY⟩ : ∃ Y, Y = listP c.L (firstP c.L) n [] (c.at k) := ⟨_, rfl⟩
  rw [← hY] at HL HLEN ⊢
  have HR := Lib.hid R
  have hX := Lib.hid R.lt
  have HG := Lib.hid G
  have HN := Lib.hid hl
  obtain ⟨SH, hSH⟩ : ∃ f : List Dc → Pg, f = fun d => { p with shared := p.shared ++ d } := ⟨_, rfl⟩
  obtain ⟨nl, xl, hrl⟩ : ∃ nl xl, nl = p.shared.length ∧ xl = dcsL p.shared := ⟨_, _, rfl, rfl⟩
  clear hY R G hn hl
  unfold Par.ptr at *
  go_enter Tryd.func52, Tryd.ntmps52
  refine wp_region_held (S := fun _ => True) (by kernel_rfl) ?_
  have G := HG.out.drew
  obtain ⟨W0, hW0⟩ : ∃ W0, W0 = W.drew := ⟨_, rfl⟩
  change wpAnyH _ _ _ _ _ _ _ _ W.drew
  rw [← hW0] at G ⊢
  clear hW0
  refine dr_take 0 (.pointer (some ⟨pb, 0, none⟩)) rfl rfl (by kernel_rfl) (by kernel_rfl) (by kernel_rfl) (fun _ _ _ h => h) (fun _ _ => rfl) trivial ?_
  change wpAnyH _ _ _ _ _ _ _ { tmps := #[.pointer (some ⟨c.X, 0, none⟩), .pointer (some ⟨pb, 0, none⟩), undef, undef, .pointer (some ⟨pb, 0, none⟩), undef, undef, undef, undef, undef, undef, undef, undef, undef, undef, undef], defers := [] } _
  refine dr_take 1 (.pointer (some ⟨pb, 0, none⟩)) rfl rfl (by kernel_rfl) (by kernel_rfl) (by kernel_rfl) (fun _ _ _ h => h) (fun _ _ => rfl) trivial ?_
  change wpAnyH _ _ _ _ _ _ _ { tmps := #[.pointer (some ⟨c.X, 0, none⟩), .pointer (some ⟨pb, 0, none⟩), undef, undef, .pointer (some ⟨pb, 0, none⟩), .pointer (some ⟨pb, 0, none⟩), undef, undef, undef, undef, undef, undef, undef, undef, undef, undef], defers := [] } _
  refine dr_take 2 (.pointer (some ⟨pb, 0, none⟩)) rfl rfl (by kernel_rfl) (by kernel_rfl) (by kernel_rfl) (fun _ _ _ h => h) (fun _ _ => by unfold execOp; go_simp) trivial ?_
  change wpAnyH _ _ _ _ _ _ _ { tmps := #[.pointer (some ⟨c.X, 0, none⟩), .pointer (some ⟨pb, 0, none⟩), undef, undef, .pointer (some ⟨pb, 0, none⟩), .pointer (some ⟨pb, 0, none⟩), .pointer (some ⟨pb, 0, none⟩), undef, undef, undef, undef, undef, undef, undef, undef, undef], defers := [] } _
  refine dr_take 3 (.pointer (some ⟨pb, 0, none⟩)) rfl rfl (by kernel_rfl) (by kernel_rfl) (by kernel_rfl) (fun _ _ _ h => h) (fun _ _ => by unfold execOp; go_simp) trivial ?_
  change wpAnyH _ _ _ _ _ _ _ { tmps := #[.pointer (some ⟨c.X, 0, none⟩), .pointer (some ⟨pb, 0, none⟩), undef, undef, .pointer (some ⟨pb, 0, none⟩), .pointer (some ⟨pb, 0, none⟩), .pointer (some ⟨pb, 0, none⟩), .pointer (some ⟨pb, 0, none⟩), undef, undef, undef, undef, undef, undef, undef, undef], defers := [] } _
  refine dr_take 5 (.pointer (some ⟨c.X, 0, none⟩)) rfl rfl (by kernel_rfl) (by kernel_rfl) (by kernel_rfl) (fun _ _ _ h => h) (fun _ _ => rfl) trivial ?_
  change wpAnyH _ _ _ _ _ _ _ { tmps := #[.pointer (some ⟨c.X, 0, none⟩), .pointer (some ⟨pb, 0, none⟩), undef, undef, .pointer (some ⟨pb, 0, none⟩), .pointer (some ⟨pb, 0, none⟩), .pointer (some ⟨pb, 0, none⟩), .pointer (some ⟨pb, 0, none⟩), undef, .pointer (some ⟨c.X, 0, none⟩), undef, undef, undef, undef, undef, undef], defers := [] } _
  refine dr_take 6 (.pointer (some ⟨c.X, 0, none⟩)) rfl rfl (by kernel_rfl) (by kernel_rfl) (by kernel_rfl) (fun _ _ _ h => h) (fun _ _ => rfl) trivial ?_
  change wpAnyH _ _ _ _ _ _ _ { tmps := #[.pointer (some ⟨c.X, 0, none⟩), .pointer (some ⟨pb, 0, none⟩), undef, undef, .pointer (some ⟨pb, 0, none⟩), .pointer (some ⟨pb, 0, none⟩), .pointer (some ⟨pb, 0, none⟩), .pointer (some ⟨pb, 0, none⟩), undef, .pointer (some ⟨c.X, 0, none⟩), .pointer (some ⟨c.X, 0, none⟩), undef, undef, undef, undef, undef], defers := [] } _
  refine dr_take 7 (.func (.func 83) #[.pointer (some ⟨c.X, 0, none⟩)] #[]) rfl rfl (by kernel_rfl) (by kernel_rfl) (by kernel_rfl) (fun _ _ _ h => h) (fun _ _ => by unfold execOp; go_simp) trivial ?_
  change wpAnyH _ _ _ _ _ _ _ { tmps := #[.pointer (some ⟨c.X, 0, none⟩), .pointer (some ⟨pb, 0, none⟩), undef, undef, .pointer (some ⟨pb, 0, none⟩), .pointer (some ⟨pb, 0, none⟩), .pointer (some ⟨pb, 0, none⟩), .pointer (some ⟨pb, 0, none⟩), undef, .pointer (some ⟨c.X, 0, none⟩), .pointer (some ⟨c.X, 0, none⟩), .func (.func 83) #[.pointer (some ⟨c.X, 0, none⟩)] #[], undef, undef, undef, undef], defers := [] } _
  refine dr_two 4 8 rfl rfl rfl rfl (by kernel_rfl) ?_ ?_
  · refine wp_ld_dcs rfl rfl (G.cell (i := 0) (v := vS) rfl) ⟨trivial, ?_⟩
    change wpAnyH _ _ _ _ _ _ _ { tmps := #[.pointer (some ⟨c.X, 0, none⟩), .pointer (some ⟨pb, 0, none⟩), undef, undef, .pointer (some ⟨pb, 0, none⟩), .pointer (some ⟨pb, 0, none⟩), .pointer (some ⟨pb, 0, none⟩), .pointer (some ⟨pb, 0, none⟩), vS, .pointer (some ⟨c.X, 0, none⟩), .pointer (some ⟨c.X, 0, none⟩), .func (.func 83) #[.pointer (some ⟨c.X, 0, none⟩)] #[], undef, undef, undef, undef], defers := [] } _
    refine dr_one 8 rfl rfl (by kernel_rfl) ?_
    refine wp_call (vs := #[.pointer (some ⟨c.X, 0, none⟩), .func (.func 83) #[.pointer (some ⟨c.X, 0, none⟩)] #[]]) rfl rfl (enters_of Tryd.func71 (by kernel_rfl) rfl) (by simp [Act.eval]) (HL.out _ (G.run.rd HR.out)) ?_
    rintro e w1 ⟨hf1, hm⟩
    rcases Y with ⟨d, r⟩ | ⟨q, rl⟩
    rotate_left
    · obtain rfl := hm
      exact ⟨rfl, rfl, G.run.fr.trans hf1⟩
    obtain ⟨v1, k1, rfl, ⟨hrow1, hd1⟩, hR1, rfl⟩ := hm
    have G1 := G.call hf1 hR1 hX.out
    have hlen := HLEN.out _ _ rfl
    have hz := Keep.size hf1
    obtain ⟨g1, cap1, rfl, hg1, hlt1⟩ := hrow1.form (List.length_pos_iff.2 hd1)
    refine ⟨trivial, ?_⟩
    change wpAnyH _ _ _ _ _ _ _ { tmps := #[.pointer (some ⟨c.X, 0, none⟩), .pointer (some ⟨pb, 0, none⟩), undef, undef, .pointer (some ⟨pb, 0, none⟩), .pointer (some ⟨pb, 0, none⟩), .pointer (some ⟨pb, 0, none⟩), .pointer (some ⟨pb, 0, none⟩), vS, .pointer (some ⟨c.X, 0, none⟩), .pointer (some ⟨c.X, 0, none⟩), .func (.func 83) #[.pointer (some ⟨c.X, 0, none⟩)] #[], .slice (some ⟨g1, 0, none⟩) d.length cap1, undef, undef, undef], defers := [] } _
    refine dr_one 9 rfl rfl (by kernel_rfl) ?_
    obtain ⟨i0, hi, hi0, hi1, hi2⟩ := info_parts infoDc
    refine wp_append_lies w1 _ _ 37 rfl w0.heap.size 71 i0 _ 3 32 Tryd.underlying37 hi hi0 hi1 hi2 rfl (by decide) vS p.shared.length (dcsL p.shared) rfl G1.rS ⟨g1, 0, none⟩ d.length cap1 (dcsL d) rfl (dcsL_len d) (row_news hrow1) (dcsL_cells d) (List.length_pos_iff.2 hd1) (by simp only [maxLen]; have := HN.out; omega) (by have := HN.out; omega) (by have := G1.run.fr.size; omega) _ rfl ?_
    intro g2 cap2 w2 hown2 hgrow2 hlies2 hlt2
    refine ⟨trivial, ?_⟩
    change wpAnyH _ _ _ _ _ _ _ { tmps := #[.pointer (some ⟨c.X, 0, none⟩), .pointer (some ⟨pb, 0, none⟩), undef, undef, .pointer (some ⟨pb, 0, none⟩), .pointer (some ⟨pb, 0, none⟩), .pointer (some ⟨pb, 0, none⟩), .pointer (some ⟨pb, 0, none⟩), vS, .pointer (some ⟨c.X, 0, none⟩), .pointer (some ⟨c.X, 0, none⟩), .func (.func 83) #[.pointer (some ⟨c.X, 0, none⟩)] #[], .slice (some ⟨g1, 0, none⟩) d.length cap1, .slice (some ⟨g2, 0, none⟩) (p.shared.length + d.length) cap2, undef, undef], defers := [] } _
    refine dr_take 10 (.pointer (some ⟨pb, 0, none⟩)) rfl rfl (by kernel_rfl) (by kernel_rfl) (by kernel_rfl) (fun _ _ _ h => h) (fun _ _ => by unfold execOp; go_simp) trivial ?_
    change wpAnyH _ _ _ _ _ _ _ { tmps := #[.pointer (some ⟨c.X, 0, none⟩), .pointer (some ⟨pb, 0, none⟩), undef, undef, .pointer (some ⟨pb, 0, none⟩), .pointer (some ⟨pb, 0, none⟩), .pointer (some ⟨pb, 0, none⟩), .pointer (some ⟨pb, 0, none⟩), vS, .pointer (some ⟨c.X, 0, none⟩), .pointer (some ⟨c.X, 0, none⟩), .func (.func 83) #[.pointer (some ⟨c.X, 0, none⟩)] #[], .slice (some ⟨g1, 0, none⟩) d.length cap1, .slice (some ⟨g2, 0, none⟩) (p.shared.length + d.length) cap2, .pointer (some ⟨pb, 0, none⟩), undef], defers := [] } _
    refine dr_take 11 (.pointer (some ⟨pb, 0, none⟩)) rfl rfl (by kernel_rfl) (by kernel_rfl) (by kernel_rfl) (fun _ _ _ h => h) (fun _ _ => by unfold execOp; go_simp) trivial ?_
    change wpAnyH _ _ _ _ _ _ _ { tmps := #[.pointer (some ⟨c.X, 0, none⟩), .pointer (some ⟨pb, 0, none⟩), undef, undef, .pointer (some ⟨pb, 0, none⟩), .pointer (some ⟨pb, 0, none⟩), .pointer (some ⟨pb, 0, none⟩), .pointer (some ⟨pb, 0, none⟩), vS, .pointer (some ⟨c.X, 0, none⟩), .pointer (some ⟨c.X, 0, none⟩), .func (.func 83) #[.pointer (some ⟨c.X, 0, none⟩)] #[], .slice (some ⟨g1, 0, none⟩) d.length cap1, .slice (some ⟨g2, 0, none⟩) (p.shared.length + d.length) cap2, .pointer (some ⟨pb, 0, none⟩), .pointer (some ⟨pb, 0, none⟩)], defers := [] } _
    refine dr_one 12 rfl rfl (by kernel_rfl) ?_
    have G2 := G1.grownS hgrow2 hX.out
    refine wp_st_dcs rfl rfl rfl (u := vS) (by rw [cell_of_row w2 _ 0 _ _ _ G2.2.2.1]; rfl) (own_frozen G2.2.2.1 0) ⟨trivial, ?_⟩
    refine wpAnyH_done (by kernel_rfl) ?_ _
    go_end0
    rw [setCell_row G2.2.2.1 0 _]
    exact ⟨.slice (some ⟨g2, 0, none⟩) (p.shared.length + d.length) cap2, k1, rfl, G1.endS hX.out hgrow2 hown2 hlies2, rfl⟩
  · skip
    refine wp_call (vs := #[.pointer (some ⟨c.X, 0, none⟩), .func (.func 83) #[.pointer (some ⟨c.X, 0, none⟩)] #[]]) rfl rfl (enters_of Tryd.func71 (by kernel_rfl) rfl) (by simp [Act.eval]) (HL.out _ (G.run.rd HR.out)) ?_
    rintro e w1 ⟨hf1, hm⟩
    rcases Y with ⟨d, r⟩ | ⟨q, rl⟩
    rotate_left
    · obtain rfl := hm
      exact ⟨rfl, rfl, G.run.fr.trans hf1⟩
    obtain ⟨v1, k1, rfl, ⟨hrow1, hd1⟩, hR1, rfl⟩ := hm
    have G1 := G.call hf1 hR1 hX.out
    have hlen := HLEN.out _ _ rfl
    have hz := Keep.size hf1
    obtain ⟨g1, cap1, rfl, hg1, hlt1⟩ := hrow1.form (List.length_pos_iff.2 hd1)
    refine ⟨trivial, ?_⟩
    change wpAnyH _ _ _ _ _ _ _ { tmps := #[.pointer (some ⟨c.X, 0, none⟩), .pointer (some ⟨pb, 0, none⟩), undef, undef, .pointer (some ⟨pb, 0, none⟩), .pointer (some ⟨pb, 0, none⟩), .pointer (some ⟨pb, 0, none⟩), .pointer (some ⟨pb, 0, none⟩), undef, .pointer (some ⟨c.X, 0, none⟩), .pointer (some ⟨c.X, 0, none⟩), .func (.func 83) #[.pointer (some ⟨c.X, 0, none⟩)] #[], .slice (some ⟨g1, 0, none⟩) d.length cap1, undef, undef, undef], defers := [] } _
    refine dr_one 4 rfl rfl (by kernel_rfl) ?_
    refine wp_ld_dcs rfl rfl (G1.cell (i := 0) (v := vS) rfl) ⟨trivial, ?_⟩
    change wpAnyH _ _ _ _ _ _ _ { tmps := #[.pointer (some ⟨c.X, 0, none⟩), .pointer (some ⟨pb, 0, none⟩), undef, undef, .pointer (some ⟨pb, 0, none⟩), .pointer (some ⟨pb, 0, none⟩), .pointer (some ⟨pb, 0, none⟩), .pointer (some ⟨pb, 0, none⟩), vS, .pointer (some ⟨c.X, 0, none⟩), .pointer (some ⟨c.X, 0, none⟩), .func (.func 83) #[.pointer (some ⟨c.X, 0, none⟩)] #[], .slice (some ⟨g1, 0, none⟩) d.length cap1, undef, undef, undef], defers := [] } _
    refine dr_one 9 rfl rfl (by kernel_rfl) ?_
    obtain ⟨i0, hi, hi0, hi1, hi2⟩ := info_parts infoDc
    refine wp_append_lies w1 _ _ 37 rfl w0.heap.size 71 i0 _ 3 32 Tryd.underlying37 hi hi0 hi1 hi2 rfl (by decide) vS p.shared.length (dcsL p.shared) rfl G1.rS ⟨g1, 0, none⟩ d.length cap1 (dcsL d) rfl (dcsL_len d) (row_news hrow1) (dcsL_cells d) (List.length_pos_iff.2 hd1) (by simp only [maxLen]; have := HN.out; omega) (by have := HN.out; omega) (by have := G1.run.fr.size; omega) _ rfl ?_
    intro g2 cap2 w2 hown2 hgrow2 hlies2 hlt2
    refine ⟨trivial, ?_⟩
    change wpAnyH _ _ _ _ _ _ _ { tmps := #[.pointer (some ⟨c.X, 0, none⟩), .pointer (some ⟨pb, 0, none⟩), undef, undef, .pointer (some ⟨pb, 0, none⟩), .pointer (some ⟨pb, 0, none⟩), .pointer (some ⟨pb, 0, none⟩), .pointer (some ⟨pb, 0, none⟩), vS, .pointer (some ⟨c.X, 0, none⟩), .pointer (some ⟨c.X, 0, none⟩), .func (.func 83) #[.pointer (some ⟨c.X, 0, none⟩)] #[], .slice (some ⟨g1, 0, none⟩) d.length cap1, .slice (some ⟨g2, 0, none⟩) (p.shared.length + d.length) cap2, undef, undef], defers := [] } _
    refine dr_take 10 (.pointer (some ⟨pb, 0, none⟩)) rfl rfl (by kernel_rfl) (by kernel_rfl) (by kernel_rfl) (fun _ _ _ h => h) (fun _ _ => by unfold execOp; go_simp) trivial ?_
    change wpAnyH _ _ _ _ _ _ _ { tmps := #[.pointer (some ⟨c.X, 0, none⟩), .pointer (some ⟨pb, 0, none⟩), undef, undef, .pointer (some ⟨pb, 0, none⟩), .pointer (some ⟨pb, 0, none⟩), .pointer (some ⟨pb, 0, none⟩), .pointer (some ⟨pb, 0, none⟩), vS, .pointer (some ⟨c.X, 0, none⟩), .pointer (some ⟨c.X, 0, none⟩), .func (.func 83) #[.pointer (some ⟨c.X, 0, none⟩)] #[], .slice (some ⟨g1, 0, none⟩) d.length cap1, .slice (some ⟨g2, 0, none⟩) (p.shared.length + d.length) cap2, .pointer (some ⟨pb, 0, none⟩), undef], defers := [] } _
    refine dr_take 11 (.pointer (some ⟨pb, 0, none⟩)) rfl rfl (by kernel_rfl) (by kernel_rfl) (by kernel_rfl) (fun _ _ _ h => h) (fun _ _ => by unfold execOp; go_simp) trivial ?_
    change wpAnyH _ _ _ _ _ _ _ { tmps := #[.pointer (some ⟨c.X, 0, none⟩), .pointer (some ⟨pb, 0, none⟩), undef, undef, .pointer (some ⟨pb, 0, none⟩), .pointer (some ⟨pb, 0, none⟩), .pointer (some ⟨pb, 0, none⟩), .pointer (some ⟨pb, 0, none⟩), vS, .pointer (some ⟨c.X, 0, none⟩), .pointer (some ⟨c.X, 0, none⟩), .func (.func 83) #[.pointer (some ⟨c.X, 0, none⟩)] #[], .slice (some ⟨g1, 0, none⟩) d.length cap1, .slice (some ⟨g2, 0, none⟩) (p.shared.length + d.length) cap2, .pointer (some ⟨pb, 0, none⟩), .pointer (some ⟨pb, 0, none⟩)], defers := [] } _
    refine dr_one 12 rfl rfl (by kernel_rfl) ?_
    have G2 := G1.grownS hgrow2 hX.out
    refine wp_st_dcs rfl rfl rfl (u := vS) (by rw [cell_of_row w2 _ 0 _ _ _ G2.2.2.1]; rfl) (own_frozen G2.2.2.1 0) ⟨trivial, ?_⟩
    refine wpAnyH_done (by kernel_rfl) ?_ _
    go_end0
    rw [setCell_row G2.2.2.1 0 _]
    exact ⟨.slice (some ⟨g2, 0, none⟩) (p.shared.length + d.length) cap2, k1, rfl, G1.endS hX.out hgrow2 hown2 hlies2, rfl⟩
set_option maxRecDepth 100000 in
set_option maxHeartbeats 4000000 in
theorem p_locks {c : Par} {w0 W : World} {pb : Nat} {vS vL : Value} {p : Pg} {k0 k n : Nat} (R : Rd c w0 k0) (hn : (c.at k).length < n) (G : PgI c w0 pb vS vL p W k) (hl : p.locks.length + (c.at k).length ≤ 65536) :
    Calls Tryd.prog 53 #[c.ptr, .pointer (some ⟨pb, 0, none⟩)] W fun e w' => match listP c.L (nameP c.L) n [] (c.at k) with
      | .ok d r => ∃ v' k', e = .returned (.tuple #[]) ∧ PgI c w0 pb vS v' { p with locks := p.locks ++ d } w' k' ∧ r = c.at k'
      | .bad q rl => e = .panicked (flt q rl) ∧ Fr c w0 w' := by
  have HLEN : Hid (∀ l r, listP c.L (nameP c.L) n [] (c.at k) = .ok l r → l.length ≤ (c.at k).length) := fun l r h => by simpa using list_count (fun _ _ _ => nameP_short) h
  have HL : Hid (∀ W, Rd c W k → Calls Tryd.prog 71 #[c.ptr, .func (.func 69) #[c.ptr] #[]] W (RdPost c W (listP c.L (nameP c.L) n [] (c.at k)) (fun l v w' => w'.ownsRow W.heap.size 71 3 v l.length (dcsL l) ∧ l ≠ []))) := fun W RW => p_list_name RW hn
  obtain ⟨Y, hY⟩ : ∃ Y, Y = listP c.L (nameP c.L) n [] (c.at k) := ⟨_, rfl⟩
  rw [← hY] at HL HLEN ⊢
  have HR := Lib.hid R
  have hX := Lib.hid R.lt
  have HG := Lib.hid G
  have HN := Lib.hid hl
  obtain ⟨SH, hSH⟩ : ∃ f : List Dc → Pg, f = fun d => { p with locks := p.locks ++ d } := ⟨_, rfl⟩
  obtain ⟨nl, xl, hrl⟩ : ∃ nl xl, nl = p.locks.length ∧ xl = dcsL p.locks := ⟨_, _, rfl, rfl⟩
  clear hY R G hn hl
  unfold Par.ptr at *
  go_enter Tryd.func53, Tryd.ntmps53
  refine wp_region_held (S := fun _ => True) (by kernel_rfl) ?_
  have G := HG.out.drew
  obtain ⟨W0, hW0⟩ : ∃ W0, W0 = W.drew := ⟨_, rfl⟩
  change wpAnyH _ _ _ _ _ _ _ _ W.drew
  rw [← hW0] at G ⊢
  clear hW0
  refine dr_take 0 (.pointer (some ⟨pb, 0, none⟩)) rfl rfl (by kernel_rfl) (by kernel_rfl) (by kernel_rfl) (fun _ _ _ h => h) (fun _ _ => rfl) trivial ?_
  change wpAnyH _ _ _ _ _ _ _ { tmps := #[.pointer (some ⟨c.X, 0, none⟩), .pointer (some ⟨pb, 0, none⟩), undef, undef, .pointer (some ⟨pb, 0, none⟩), undef, undef, undef, undef, undef, undef, undef, undef, undef, undef, undef], defers := [] } _
  refine dr_take 1 (.pointer (some ⟨pb, 0, none⟩)) rfl rfl (by kernel_rfl) (by kernel_rfl) (by kernel_rfl) (fun _ _ _ h => h) (fun _ _ => rfl) trivial ?_
  change wpAnyH _ _ _ _ _ _ _ { tmps := #[.pointer (some ⟨c.X, 0, none⟩), .pointer (some ⟨pb, 0, none⟩), undef, undef, .pointer (some ⟨pb, 0, none⟩), .pointer (some ⟨pb, 0, none⟩), undef, undef, undef, undef, undef, undef, undef, undef, undef, undef], defers := [] } _
  refine dr_take 2 (.pointer (some ⟨pb, 0, none⟩)) rfl rfl (by kernel_rfl) (by kernel_rfl) (by kernel_rfl) (fun _ _ _ h => h) (fun _ _ => by unfold execOp; go_simp) trivial ?_
  change wpAnyH _ _ _ _ _ _ _ { tmps := #[.pointer (some ⟨c.X, 0, none⟩), .pointer (some ⟨pb, 0, none⟩), undef, undef, .pointer (some ⟨pb, 0, none⟩), .pointer (some ⟨pb, 0, none⟩), .pointer (some ⟨pb, 0, none⟩), undef, undef, undef, undef, undef, undef, undef, undef, undef], defers := [] } _
  refine dr_take 3 (.pointer (some ⟨pb, 1, none⟩)) rfl rfl (by kernel_rfl) (by kernel_rfl) (by kernel_rfl) (fun _ _ _ h => h) (fun _ _ => by unfold execOp; go_simp) trivial ?_
  change wpAnyH _ _ _ _ _ _ _ { tmps := #[.pointer (some ⟨c.X, 0, none⟩), .pointer (some ⟨pb, 0, none⟩), undef, undef, .pointer (some ⟨pb, 0, none⟩), .pointer (some ⟨pb, 0, none⟩), .pointer (some ⟨pb, 0, none⟩), .pointer (some ⟨pb, 1, none⟩), undef, undef, undef, undef, undef, undef, undef, undef], defers := [] } _
  refine dr_take 5 (.pointer (some ⟨c.X, 0, none⟩)) rfl rfl (by kernel_rfl) (by kernel_rfl) (by kernel_rfl) (fun _ _ _ h => h) (fun _ _ => rfl) trivial ?_
  change wpAnyH _ _ _ _ _ _ _ { tmps := #[.pointer (some ⟨c.X, 0, none⟩), .pointer (some ⟨pb, 0, none⟩), undef, undef, .pointer (some ⟨pb, 0, none⟩), .pointer (some ⟨pb, 0, none⟩), .pointer (some ⟨pb, 0, none⟩), .pointer (some ⟨pb, 1, none⟩), undef, .pointer (some ⟨c.X, 0, none⟩), undef, undef, undef, undef, undef, undef], defers := [] } _
  refine dr_take 6 (.pointer (some ⟨c.X, 0, none⟩)) rfl rfl (by kernel_rfl) (by kernel_rfl) (by kernel_rfl) (fun _ _ _ h => h) (fun _ _ => rfl) trivial ?_
  change wpAnyH _ _ _ _ _ _ _ { tmps := #[.pointer (some ⟨c.X, 0, none⟩), .pointer (some ⟨pb, 0, none⟩), undef, undef, .pointer (some ⟨pb, 0, none⟩), .pointer (some ⟨pb, 0, none⟩), .pointer (some ⟨pb, 0, none⟩), .pointer (some ⟨pb, 1, none⟩), undef, .pointer (some ⟨c.X, 0, none⟩), .pointer (some ⟨c.X, 0, none⟩), undef, undef, undef, undef, undef], defers := [] } _
  refine dr_take 7 (.func (.func 69) #[.pointer (some ⟨c.X, 0, none⟩)] #[]) rfl rfl (by kernel_rfl) (by kernel_rfl) (by kernel_rfl) (fun _ _ _ h => h) (fun _ _ => by unfold execOp; go_simp) trivial ?_
  change wpAnyH _ _ _ _ _ _ _ { tmps := #[.pointer (some ⟨c.X, 0, none⟩), .pointer (some ⟨pb, 0, none⟩), undef, undef, .pointer (some ⟨pb, 0, none⟩), .pointer (some ⟨pb, 0, none⟩), .pointer (some ⟨pb, 0, none⟩), .pointer (some ⟨pb, 1, none⟩), undef, .pointer (some ⟨c.X, 0, none⟩), .pointer (some ⟨c.X, 0, none⟩), .func (.func 69) #[.pointer (some ⟨c.X, 0, none⟩)] #[], undef, undef, undef, undef], defers := [] } _
  refine dr_two 4 8 rfl rfl rfl rfl (by kernel_rfl) ?_ ?_
  · refine wp_ld_dcs rfl rfl (G.cell (i := 1) (v := vL) rfl) ⟨trivial, ?_⟩
    change wpAnyH _ _ _ _ _ _ _ { tmps := #[.pointer (some ⟨c.X, 0, none⟩), .pointer (some ⟨pb, 0, none⟩), undef, undef, .pointer (some ⟨pb, 0, none⟩), .pointer (some ⟨pb, 0, none⟩), .pointer (some ⟨pb, 0, none⟩), .pointer (some ⟨pb, 1, none⟩), vL, .pointer (some ⟨c.X, 0, none⟩), .pointer (some ⟨c.X, 0, none⟩), .func (.func 69) #[.pointer (some ⟨c.X, 0, none⟩)] #[], undef, undef, undef, undef], defers := [] } _
    refine dr_one 8 rfl rfl (by kernel_rfl) ?_
    refine wp_call (vs := #[.pointer (some ⟨c.X, 0, none⟩), .func (.func 69) #[.pointer (some ⟨c.X, 0, none⟩)] #[]]) rfl rfl (enters_of Tryd.func71 (by kernel_rfl) rfl) (by simp [Act.eval]) (HL.out _ (G.run.rd HR.out)) ?_
    rintro e w1 ⟨hf1, hm⟩
    rcases Y with ⟨d, r⟩ | ⟨q, rl⟩
    rotate_left
    · obtain rfl := hm
      exact ⟨rfl, rfl, G.run.fr.trans hf1⟩
    obtain ⟨v1, k1, rfl, ⟨hrow1, hd1⟩, hR1, rfl⟩ := hm
    have G1 := G.call hf1 hR1 hX.out
    have hlen := HLEN.out _ _ rfl
    have hz := Keep.size hf1
    obtain ⟨g1, cap1, rfl, hg1, hlt1⟩ := hrow1.form (List.length_pos_iff.2 hd1)
    refine ⟨trivial, ?_⟩
    change wpAnyH _ _ _ _ _ _ _ { tmps := #[.pointer (some ⟨c.X, 0, none⟩), .pointer (some ⟨pb, 0, none⟩), undef, undef, .pointer (some ⟨pb, 0, none⟩), .pointer (some ⟨pb, 0, none⟩), .pointer (some ⟨pb, 0, none⟩), .pointer (some ⟨pb, 1, none⟩), vL, .pointer (some ⟨c.X, 0, none⟩), .pointer (some ⟨c.X, 0, none⟩), .func (.func 69) #[.pointer (some ⟨c.X, 0, none⟩)] #[], .slice (some ⟨g1, 0, none⟩) d.length cap1, undef, undef, undef], defers := [] } _
    refine dr_one 9 rfl rfl (by kernel_rfl) ?_
    obtain ⟨i0, hi, hi0, hi1, hi2⟩ := info_parts infoDc
    refine wp_append_lies w1 _ _ 37 rfl w0.heap.size 71 i0 _ 3 32 Tryd.underlying37 hi hi0 hi1 hi2 rfl (by decide) vL p.locks.length (dcsL p.locks) rfl G1.rL ⟨g1, 0, none⟩ d.length cap1 (dcsL d) rfl (dcsL_len d) (row_news hrow1) (dcsL_cells d) (List.length_pos_iff.2 hd1) (by simp only [maxLen]; have := HN.out; omega) (by have := HN.out; omega) (by have := G1.run.fr.size; omega) _ rfl ?_
    intro g2 cap2 w2 hown2 hgrow2 hlies2 hlt2
    refine ⟨trivial, ?_⟩
    change wpAnyH _ _ _ _ _ _ _ { tmps := #[.pointer (some ⟨c.X, 0, none⟩), .pointer (some ⟨pb, 0, none⟩), undef, undef, .pointer (some ⟨pb, 0, none⟩), .pointer (some ⟨pb, 0, none⟩), .pointer (some ⟨pb, 0, none⟩), .pointer (some ⟨pb, 1, none⟩), vL, .pointer (some ⟨c.X, 0, none⟩), .pointer (some ⟨c.X, 0, none⟩), .func (.func 69) #[.pointer (some ⟨c.X, 0, none⟩)] #[], .slice (some ⟨g1, 0, none⟩) d.length cap1, .slice (some ⟨g2, 0, none⟩) (p.locks.length + d.length) cap2, undef, undef], defers := [] } _
    refine dr_take 10 (.pointer (some ⟨pb, 0, none⟩)) rfl rfl (by kernel_rfl) (by kernel_rfl) (by kernel_rfl) (fun _ _ _ h => h) (fun _ _ => by unfold execOp; go_simp) trivial ?_
    change wpAnyH _ _ _ _ _ _ _ { tmps := #[.pointer (some ⟨c.X, 0, none⟩), .pointer (some ⟨pb, 0, none⟩), undef, undef, .pointer (some ⟨pb, 0, none⟩), .pointer (some ⟨pb, 0, none⟩), .pointer (some ⟨pb, 0, none⟩), .pointer (some ⟨pb, 1, none⟩), vL, .pointer (some ⟨c.X, 0, none⟩), .pointer (some ⟨c.X, 0, none⟩), .func (.func 69) #[.pointer (some ⟨c.X, 0, none⟩)] #[], .slice (some ⟨g1, 0, none⟩) d.length cap1, .slice (some ⟨g2, 0, none⟩) (p.locks.length + d.length) cap2, .pointer (some ⟨pb, 0, none⟩), undef], defers := [] } _
    refine dr_take 11 (.pointer (some ⟨pb, 1, none⟩)) rfl rfl (by kernel_rfl) (by kernel_rfl) (by kernel_rfl) (fun _ _ _ h => h) (fun _ _ => by unfold execOp; go_simp) trivial ?_
    change wpAnyH _ _ _ _ _ _ _ { tmps := #[.pointer (some ⟨c.X, 0, none⟩), .pointer (some ⟨pb, 0, none⟩), undef, undef, .pointer (some ⟨pb, 0, none⟩), .pointer (some ⟨pb, 0, none⟩), .pointer (some ⟨pb, 0, none⟩), .pointer (some ⟨pb, 1, none⟩), vL, .pointer (some ⟨c.X, 0, none⟩), .pointer (some ⟨c.X, 0, none⟩), .func (.func 69) #[.pointer (some ⟨c.X, 0, none⟩)] #[], .slice (some ⟨g1, 0, none⟩) d.length cap1, .slice (some ⟨g2, 0, none⟩) (p.locks.length + d.length) cap2, .pointer (some ⟨pb, 0, none⟩), .pointer (some ⟨pb, 1, none⟩)], defers := [] } _
    refine dr_one 12 rfl rfl (by kernel_rfl) ?_
    have G2 := G1.grownL hgrow2 hX.out
    refine wp_st_dcs rfl rfl rfl (u := vL) (by rw [cell_of_row w2 _ 1 _ _ _ G2.2.2.1]; rfl) (own_frozen G2.2.2.1 1) ⟨trivial, ?_⟩
    refine wpAnyH_done (by kernel_rfl) ?_ _
    go_end0
    rw [setCell_row G2.2.2.1 1 _]
    exact ⟨.slice (some ⟨g2, 0, none⟩) (p.locks.length + d.length) cap2, k1, rfl, G1.endL hX.out hgrow2 hown2 hlies2, rfl⟩
  · skip
    refine wp_call (vs := #[.pointer (some ⟨c.X, 0, none⟩), .func (.func 69) #[.pointer (some ⟨c.X, 0, none⟩)] #[]]) rfl rfl (enters_of Tryd.func71 (by kernel_rfl) rfl) (by simp [Act.eval]) (HL.out _ (G.run.rd HR.out)) ?_
    rintro e w1 ⟨hf1, hm⟩
    rcases Y with ⟨d, r⟩ | ⟨q, rl⟩
    rotate_left
    · obtain rfl := hm
      exact ⟨rfl, rfl, G.run.fr.trans hf1⟩
    obtain ⟨v1, k1, rfl, ⟨hrow1, hd1⟩, hR1, rfl⟩ := hm
    have G1 := G.call hf1 hR1 hX.out
    have hlen := HLEN.out _ _ rfl
    have hz := Keep.size hf1
    obtain ⟨g1, cap1, rfl, hg1, hlt1⟩ := hrow1.form (List.length_pos_iff.2 hd1)
    refine ⟨trivial, ?_⟩
    change wpAnyH _ _ _ _ _ _ _ { tmps := #[.pointer (some ⟨c.X, 0, none⟩), .pointer (some ⟨pb, 0, none⟩), undef, undef, .pointer (some ⟨pb, 0, none⟩), .pointer (some ⟨pb, 0, none⟩), .pointer (some ⟨pb, 0, none⟩), .pointer (some ⟨pb, 1, none⟩), undef, .pointer (some ⟨c.X, 0, none⟩), .pointer (some ⟨c.X, 0, none⟩), .func (.func 69) #[.pointer (some ⟨c.X, 0, none⟩)] #[], .slice (some ⟨g1, 0, none⟩) d.length cap1, undef, undef, undef], defers := [] } _
    refine dr_one 4 rfl rfl (by kernel_rfl) ?_
    refine wp_ld_dcs rfl rfl (G1.cell (i := 1) (v := vL) rfl) ⟨trivial, ?_⟩
    change wpAnyH _ _ _ _ _ _ _ { tmps := #[.pointer (some ⟨c.X, 0, none⟩), .pointer (some ⟨pb, 0, none⟩), undef, undef, .pointer (some ⟨pb, 0, none⟩), .pointer (some ⟨pb, 0, none⟩), .pointer (some ⟨pb, 0, none⟩), .pointer (some ⟨pb, 1, none⟩), vL, .pointer (some ⟨c.X, 0, none⟩), .pointer (some ⟨c.X, 0, none⟩), .func (.func 69) #[.pointer (some ⟨c.X, 0, none⟩)] #[], .slice (some ⟨g1, 0, none⟩) d.length cap1, undef, undef, undef], defers := [] } _
    refine dr_one 9 rfl rfl (by kernel_rfl) ?_
    obtain ⟨i0, hi, hi0, hi1, hi2⟩ := info_parts infoDc
    refine wp_append_lies w1 _ _ 37 rfl w0.heap.size 71 i0 _ 3 32 Tryd.underlying37 hi hi0 hi1 hi2 rfl (by decide) vL p.locks.length (dcsL p.locks) rfl G1.rL ⟨g1, 0, none⟩ d.length cap1 (dcsL d) rfl (dcsL_len d) (row_news hrow1) (dcsL_cells d) (List.length_pos_iff.2 hd1) (by simp only [maxLen]; have := HN.out; omega) (by have := HN.out; omega) (by have := G1.run.fr.size; omega) _ rfl ?_
    intro g2 cap2 w2 hown2 hgrow2 hlies2 hlt2
    refine ⟨trivial, ?_⟩
    change wpAnyH _ _ _ _ _ _ _ { tmps := #[.pointer (some ⟨c.X, 0, none⟩), .pointer (some ⟨pb, 0, none⟩), undef, undef, .pointer (some ⟨pb, 0, none⟩), .pointer (some ⟨pb, 0, none⟩), .pointer (some ⟨pb, 0, none⟩), .pointer (some ⟨pb, 1, none⟩), vL, .pointer (some ⟨c.X, 0, none⟩), .pointer (some ⟨c.X, 0, none⟩), .func (.func 69) #[.pointer (some ⟨c.X, 0, none⟩)] #[], .slice (some ⟨g1, 0, none⟩) d.length cap1, .slice (some ⟨g2, 0, none⟩) (p.locks.length + d.length) cap2, undef, undef], defers := [] } _
    refine dr_take 10 (.pointer (some ⟨pb, 0, none⟩)) rfl rfl (by kernel_rfl) (by kernel_rfl) (by kernel_rfl) (fun _ _ _ h => h) (fun _ _ => by unfold execOp; go_simp) trivial ?_
    change wpAnyH _ _ _ _ _ _ _ { tmps := #[.pointer (some ⟨c.X, 0, none⟩), .pointer (some ⟨pb, 0, none⟩), undef, undef, .pointer (some ⟨pb, 0, none⟩), .pointer (some ⟨pb, 0, none⟩), .pointer (some ⟨pb, 0, none⟩), .pointer (some ⟨pb, 1, none⟩), vL, .pointer (some ⟨c.X, 0, none⟩), .pointer (some ⟨c.X, 0, none⟩), .func (.func 69) #[.pointer (some ⟨c.X, 0, none⟩)] #[], .slice (some ⟨g1, 0, none⟩) d.length cap1, .slice (some ⟨g2, 0, none⟩) (p.locks.length + d.length) cap2, .pointer (some ⟨pb, 0, none⟩), undef], defers := [] } _
    refine dr_take 11 (.pointer (some ⟨pb, 1, none⟩)) rfl rfl (by kernel_rfl) (by kernel_rfl) (by kernel_rfl) (fun _ _ _ h => h) (fun _ _ => by unfold execOp; go_simp) trivial ?_
    change wpAnyH _ _ _ _ _ _ _ { tmps := #[.pointer (some ⟨c.X, 0, none⟩), .pointer (some ⟨pb, 0, none⟩), undef, undef, .pointer (some ⟨pb, 0, none⟩), .pointer (some ⟨pb, 0, none⟩), .pointer (some ⟨pb, 0, none⟩), .pointer (some ⟨pb, 1, none⟩), vL, .pointer (some ⟨c.X, 0, none⟩), .pointer (some ⟨c.X, 0, none⟩), .func (.func 69) #[.pointer (some ⟨c.X, 0, none⟩)] #[], .slice (some ⟨g1, 0, none⟩) d.length cap1, .slice (some ⟨g2, 0, none⟩) (p.locks.length + d.length) cap2, .pointer (some ⟨pb, 0, none⟩), .pointer (some ⟨pb, 1, none⟩)], defers := [] } _
    refine dr_one 12 rfl rfl (by kernel_rfl) ?_
    have G2 := G1.grownL hgrow2 hX.out
    refine wp_st_dcs rfl rfl rfl (u := vL) (by rw [cell_of_row w2 _ 1 _ _ _ G2.2.2.1]; rfl) (own_frozen G2.2.2.1 1) ⟨trivial, ?_⟩
    refine wpAnyH_done (by kernel_rfl) ?_ _
    go_end0
    rw [setCell_row G2.2.2.1 1 _]
    exact ⟨.slice (some ⟨g2, 0, none⟩) (p.locks.length + d.length) cap2, k1, rfl, G1.endL hX.out hgrow2 hown2 hlies2, rfl⟩
end Go.Proofs.YtjpmdafaaonpoaaDoor

namespace Go.Proofs.YtjpmdafaaonpoaaDoor
open Go.RowKit
set_option linter.unusedVariables false
/-- A thread, as a value. -/
def thR (n : Nat) (t : Th) (v : Value) (W : World) : Prop := ∃ a1 c1 a2 c2, v = .agg #[.string t.name, .slice a1 t.locals.length c1, .slice a2 t.body.length c2, .int .i64 t.pos] ∧ dcsAt (fun b => n ≤ b) W t.locals a1 ∧ stsAt (fun b => n ≤ b) W t.body a2
/-- While locals are read: the thread's block and its locals. -/
structure ThI (c : Par) (w0 : World) (tb : Nat) (nm : ByteArray) (p : Int) (vL : Value) (l : List Dc) (W : World) (k : Nat) : Prop where
  run : At c w0 W k
  ge : w0.heap.size < tb
  res : Own W w0.heap.size 69 zTh
  own : Own W tb 69 #[.string nm, vL, .slice none 0 0, .int .i64 p]
  row : W.ownsRow w0.heap.size 71 3 vL l.length (dcsL l)
section
variable {c : Par} {w0 W W' : World} {tb : Nat} {nm : ByteArray} {p : Int} {vL : Value} {l : List Dc} {k k2 : Nat}
theorem ThI.call (h : ThI c w0 tb nm p vL l W k) (hf : Fr c W W') (hp : Rd c W' k2) (hX : c.X < w0.heap.size) : ThI c w0 tb nm p vL l W' k2 :=
  ⟨h.run.call hf hp, h.ge, h.res.fr hf (by omega), h.own.fr hf (by have := h.ge; omega), row_fr h.row hf hX⟩
theorem ThI.cell (h : ThI c w0 tb nm p vL l W k) {i : Nat} {v : Value} (hv : (#[.string nm, vL, .slice none 0 0, .int .i64 p] : Array Value)[i]? = some v) : W.cell? ⟨tb, i, none⟩ = some v := by rw [cell_of_row W _ i _ _ _ h.own]; exact hv
theorem ThI.drew (h : ThI c w0 tb nm p vL l W k) : ThI c w0 tb nm p vL l W.drew k := ⟨h.run.drew, h.ge, h.res, h.own, h.row⟩
theorem ThI.grown (h : ThI c w0 tb nm p vL l W k) (hg : W.grownBy W' vL.ownBlock) (hX : c.X < w0.heap.size) : At c w0 W' k ∧ Own W' w0.heap.size 69 zTh ∧ Own W' tb 69 #[.string nm, vL, .slice none 0 0, .int .i64 p] :=
  ⟨grown_fr h.run hg (fun r hr => by have := (h.row.lt r hr).1; exact ⟨this, by omega⟩), own_grown h.res hg (row_apart h.row h.res rfl), own_grown h.own hg (row_apart h.row h.own rfl)⟩
theorem ThI.end_ (h : ThI c w0 tb nm p vL l W k) {g cap : Nat} {d : List Dc} (hX : c.X < w0.heap.size) (hg : W.grownBy W' vL.ownBlock) (hown : W'.ownsRow w0.heap.size 71 3 (.slice (some ⟨g, 0, none⟩) (l.length + d.length) cap) (l.length + d.length) (dcsL l ++ dcsL d)) :
    ThI c w0 tb nm p (.slice (some ⟨g, 0, none⟩) (l.length + d.length) cap) (l ++ d) (W'.setRow tb #[.string nm, .slice (some ⟨g, 0, none⟩) (l.length + d.length) cap, .slice none 0 0, .int .i64 p]) k := by
  obtain ⟨h1, h2, h3⟩ := h.grown hg hX
  have ha := row_apart hown h3 rfl
  refine ⟨h1.setRow (by have := h.ge; omega) (by have := h.ge; omega) _, h.ge, h2.other _ (by have := h.ge; omega), h3.row _, ?_⟩
  have := row_row hown #[.string nm, .slice (some ⟨g, 0, none⟩) (l.length + d.length) cap, .slice none 0 0, .int .i64 p] ha
  simp only [List.length_append, dcsL, List.flatMap_append] at this ⊢
  exact this
end
theorem list_both {L : Int} {one : List Tk → PR Dc} (ho : ∀ ts d r, one ts = .ok d r → r.length < ts.length) : ∀ {n : Nat} {acc : List Dc} {ts : List Tk} {l : List Dc} {r : List Tk}, listP L one n acc ts = .ok l r → l.length + r.length ≤ acc.length + ts.length
  | 0, acc, ts, l, r, h => by simp [listP] at h
  | n + 1, acc, ts, l, r, h => by
    simp only [listP] at h
    obtain ⟨a, b, h1, h2⟩ := PR.then_eq_ok h
    have k := ho _ _ _ h1
    split at h2
    · have := list_both ho h2
      rw [List.length_append, List.length_tail] at this
      simp at this
      omega
    · obtain ⟨u, c, h3, h4⟩ := PR.then_eq_ok h2
      cases h4
      have := (need_ok h3).2.2
      rw [List.length_append]
      simp
      omega
/-- What holds at the head of a round of locals. -/
def LocI (c : Par) (w : World) (tb : Nat) (nm : ByteArray) (p : Int) (Y : PR (List Dc)) (m : Nat) (W : World) : Prop :=
  ∃ (j : Nat) (l : List Dc) (vL : Value), ThI c w tb nm p vL l W j ∧ localsP c.L m l (c.at j) = Y ∧ (c.at j).length < m ∧ l.length + (c.at j).length ≤ 65536
set_option maxRecDepth 100000 in
set_option maxHeartbeats 4000000 in
theorem p_thread {c : Par} {w : World} {k n : Nat} (R : Rd c w k) (hn : 3 * (c.at k).length + 2 ≤ n) :
    Calls Tryd.prog 46 #[c.ptr] w (RdPost c w (threadP fnd c.L n (c.at k)) (fun t v w' => thR w.heap.size t v w')) := by
  obtain ⟨Y, hY⟩ : ∃ Y, Y = threadP fnd c.L n (c.at k) := ⟨_, rfl⟩
  obtain ⟨Y1, hY1⟩ : ∃ Y1, Y1 = nameP c.L (c.at k) := ⟨_, rfl⟩
  have HS : Hid (Y = Y1.then fun d r => (openP c.L 1 r).then fun _ r => (localsP c.L n [] r).then fun l r => (restP fnd c.L n 1 [] r).then fun b r => .ok ⟨d.name, l, b, d.pos⟩ r) := by rw [Hid, hY, hY1]; rfl
  have HC1 : Hid (∀ W, Rd c W k → Calls Tryd.prog 69 #[c.ptr] W (RdPost c W Y1 (fun d v _ => v = dcVal d))) := fun W RW => by rw [hY1]; exact p_name RW
  have HL1 : Hid (∀ d r, Y1 = .ok d r → r.length < (c.at k).length) := fun d r h => nameP_short (hY1.symm.trans h)
  have hl0 : (c.at k).length ≤ 65536 := by rw [Par.at_len]; have := R.s.small.1; omega
  rw [← hY]
  have HP : Hid (∀ W j (s : ByteArray), Rd c W j → s.data.toList ≠ [] → Calls Tryd.prog 45 #[c.ptr, .string s] W fun e w' => e = .returned (.bool (isT s.data.toList (c.at j))) ∧ Fr c W w' ∧ Rd c w' (if isT s.data.toList (c.at j) = true then j + 1 else j)) := fun W j s RW hs => p_pass RW s hs
  have HO : Hid (∀ W j, Rd c W j → Calls Tryd.prog 70 #[c.ptr, .int .i64 1] W (RdPost c W (openP c.L 1 (c.at j)) (fun _ v _ => v = .tuple #[]))) := fun W j RW => p_open RW 1
  have HRS : Hid (∀ W j, Rd c W j → 3 * (c.at j).length + 2 ≤ n → Calls Tryd.prog 72 #[c.ptr, .int .i64 1] W (RdPost c W (restP fnd c.L n 1 [] (c.at j)) (fun l v w' => stsVal W.heap.size l v w'))) := fun W j RW hf => p_rest (fun m _ => stmt_all m) RW (by decide) (by decide) hf
  have A0 := Lib.hid ((At.start R).alloc (.cells zTh 69))
  have O0 := Own.new w 69 zTh
  have HR := Lib.hid R
  have hX := Lib.hid R.lt
  have HM := Lib.hid (And.intro hn hl0)
  clear hY hY1 R hn hl0
  unfold Par.ptr dcVal zTh at *
  go_enter Tryd.func46, Tryd.ntmps46
  go_wp2_with fail
  go_at_call 69
  refine (HC1.out _ (A0.out.rd HR.out)).mono ?_
  rintro e w1 ⟨hf1, hm1⟩
  rcases Y1 with ⟨d1, r1⟩ | ⟨p, q⟩
  rotate_left
  · obtain rfl := hm1
    have AZ := Lib.hid (A0.out.fr.trans hf1)
    clear hf1
    go_wp2_with fail
    refine ⟨rfl, ?_⟩
    rw [HS.out]
    exact ⟨AZ.out, rfl⟩
  obtain ⟨v1, k1, rfl, rfl, hR1, rfl⟩ := hm1
  obtain ⟨nm, dw, dp⟩ := d1
  have HS : Hid (Y = (openP c.L 1 (c.at k1)).then fun _ r => (localsP c.L n [] r).then fun l r => (restP fnd c.L n 1 [] r).then fun b r => .ok ⟨nm, l, b, dp⟩ r) := HS.out
  have hlen1 := HL1.out _ _ rfl
  have G : Hid (ThI c w (w1.heap.size + 1) nm dp (.slice none 0 0) [] ((w1.alloc (.cells #[.string nm, .int .i64 dw, .int .i64 dp] 71)).alloc (.cells #[.string nm, .slice none 0 0, .slice none 0 0, .int .i64 dp] 69)) k1) := by
    have hz := (O0.fr hf1 (by have := hX.out; omega)).lt
    have o2 := Own.new (w1.alloc (.cells #[.string nm, .int .i64 dw, .int .i64 dp] 71)) 69 #[.string nm, .slice none 0 0, .slice none 0 0, .int .i64 dp]
    rw [World.size_alloc] at o2
    exact ⟨((A0.out.call hf1 hR1).alloc _).alloc _, by omega, ((O0.fr hf1 (by have := hX.out; omega)).alloc _).alloc _, o2, World.ownsRow_nil _ _ _ _⟩
  have HLEN := Lib.hid hlen1
  clear hf1 hR1 hlen1 O0 A0
  go_wp2_with fail
  obtain ⟨W, hW⟩ : ∃ W, W = ((w1.alloc (.cells #[.string nm, .int .i64 dw, .int .i64 dp] 71)).alloc (.cells #[.string nm, .slice none 0 0, .slice none 0 0, .int .i64 dp] 69)) := ⟨_, rfl⟩
  rw [← hW] at G ⊢
  clear hW
  obtain ⟨TB, hTB⟩ : ∃ TB, TB = w1.heap.size + 1 := ⟨_, rfl⟩
  rw [← hTB] at G ⊢
  have HDB : Hid (w1.heap.size + 1 = TB) := hTB.symm
  obtain ⟨DB, hDB⟩ : ∃ DB, DB = w1.heap.size := ⟨_, rfl⟩
  rw [← hDB]
  clear hTB hDB
  obtain ⟨Z2, hZ2⟩ : ∃ Z2, Z2 = openP c.L 1 (c.at k1) := ⟨_, rfl⟩
  have HC2 : Hid (∀ W, Rd c W k1 → Calls Tryd.prog 70 #[.pointer (some ⟨c.X, 0, none⟩), .int .i64 1] W (RdPost c W Z2 (fun _ v _ => v = .tuple #[]))) := fun W RW => by rw [hZ2]; exact HO.out W k1 RW
  have HL2 : Hid (∀ u r, Z2 = .ok u r → r.length < (c.at k1).length) := fun u r h => by have := open_short (hZ2.symm.trans h); omega
  have HS : Hid (Y = Z2.then fun _ r => (localsP c.L n [] r).then fun l r => (restP fnd c.L n 1 [] r).then fun b r => .ok ⟨nm, l, b, dp⟩ r) := by rw [Hid, HS.out, hZ2]
  clear hZ2
  go_at_call 70
  refine (HC2.out _ (G.out.run.rd HR.out)).mono ?_
  rintro e w2 ⟨hf2, hm2⟩
  rcases Z2 with ⟨u2, r2⟩ | ⟨p, q⟩
  rotate_left
  · obtain rfl := hm2
    have AZ := Lib.hid (G.out.run.fr.trans hf2)
    clear hf2
    go_wp2_with fail
    refine ⟨rfl, ?_⟩
    rw [HS.out]
    exact ⟨AZ.out, rfl⟩
  obtain ⟨v2, k2, rfl, rfl, hR2, rfl⟩ := hm2
  have HL2 := Lib.hid (HL2.out _ _ rfl)
  have G := Lib.hid (G.out.call hf2 hR2 hX.out)
  obtain ⟨Z3, hZ3⟩ : ∃ Z3, Z3 = localsP c.L n [] (c.at k2) := ⟨_, rfl⟩
  have HS : Hid (Y = Z3.then fun l r => (restP fnd c.L n 1 [] r).then fun b r => .ok ⟨nm, l, b, dp⟩ r) := by rw [Hid, HS.out, hZ3]; rfl
  have HSH : Hid (∀ l r, Z3 = .ok l r → r.length ≤ (c.at k2).length) := fun l r h => locals_short _ _ _ _ _ (hZ3.symm.trans h)
  have B0 : Hid (LocI c w TB nm dp Z3 n w2) := ⟨k2, [], _, G.out, hZ3.symm, by have := HM.out; have := HLEN.out; have := HL2.out; omega, by have := HM.out; have := HLEN.out; have := HL2.out; simp; omega⟩
  clear hf2 hR2 hZ3 G
  go_wp2_with fail
  go_loopg [] n (fun m W => LocI c w TB nm dp Z3 m W ∧ m ≤ n)
  case atStart => exact ⟨B0.out, Nat.le_refl _⟩
  case round =>
    obtain ⟨⟨j, l, vL, G1, hY1, hfu, hle⟩, hgn⟩ := hrel
    have G := Lib.hid G1
    have HFU := Lib.hid (And.intro hfu hle)
    have HGN := Lib.hid hgn
    have HY1 := Lib.hid hY1
    clear G1 hY1 hfu hle hgn
    obtain ⟨m, rfl⟩ : ∃ m, gk = m + 1 := ⟨gk - 1, by have := HFU.out.1; omega⟩
    obtain ⟨B, hB⟩ : ∃ b, b = isT [108, 111, 99, 97, 108] (c.at j) := ⟨_, rfl⟩
    have HCB : Hid (∀ W, Rd c W j → Calls Tryd.prog 45 #[.pointer (some ⟨c.X, 0, none⟩), .string ⟨#[108, 111, 99, 97, 108]⟩] W fun e w' => e = .returned (.bool B) ∧ Fr c W w' ∧ Rd c w' (if B = true then j + 1 else j)) := fun W RW => by rw [hB]; exact HP.out W j ⟨#[108, 111, 99, 97, 108]⟩ RW (by decide)
    cases B with
    | false =>
      have hz3 : Z3 = .ok l (c.at j) := by rw [← HY1.out]; unfold localsP; rw [← hB]; rfl
      have HZ := Lib.hid hz3
      clear hz3 hB
      go_wp2_with fail
      go_at_call 45
      refine (HCB.out _ (G.out.run.rd HR.out)).mono ?_
      rintro e w3 ⟨rfl, hf3, hR3⟩
      have G := Lib.hid (G.out.call hf3 (show Rd c w3 j from hR3) hX.out)
      clear hf3 hR3
      go_wp2_with fail
      have HK := Lib.hid (HSH.out _ _ HZ.out)
      obtain ⟨Z4, hZ4⟩ : ∃ Z4, Z4 = restP fnd c.L n 1 [] (c.at j) := ⟨_, rfl⟩
      have HC4 : Hid (∀ W, Rd c W j → Calls Tryd.prog 72 #[.pointer (some ⟨c.X, 0, none⟩), .int .i64 1] W (RdPost c W Z4 (fun l v w' => stsVal W.heap.size l v w'))) := fun W RW => by rw [hZ4]; exact HRS.out W j RW (by have := HM.out.1; have := HLEN.out; have := HL2.out; have := HK.out; omega)
      have HS : Hid (Y = Z4.then fun b r => .ok ⟨nm, l, b, dp⟩ r) := by rw [Hid, HS.out, HZ.out, hZ4]; rfl
      clear hZ4
      go_at_call 72
      refine (HC4.out _ (G.out.run.rd HR.out)).mono ?_
      rintro e w4 ⟨hf4, hm4⟩
      rcases Z4 with ⟨l4, r4⟩ | ⟨p, q⟩
      rotate_left
      · obtain rfl := hm4
        have AZ := Lib.hid (G.out.run.fr.trans hf4)
        clear hf4
        go_wp2_with fail
        refine ⟨rfl, ?_⟩
        show RdPost c w Y _ _ _
        rw [HS.out]
        exact ⟨AZ.out, rfl⟩
      obtain ⟨v4, k4, rfl, ⟨a4, cap4, rfl, hV4⟩, hR4, rfl⟩ := hm4
      have hlt3 := G.out.own.lt
      have hge := Lib.hid G.out.ge
      have V4 := Lib.hid (stsAt_mono (R' := fun b => w.heap.size ≤ b ∧ b ≠ TB ∧ b ≠ w.heap.size) hV4 (fun b hb => by have := hge.out; change _ ≤ _ at hb; omega))
      have G := Lib.hid (G.out.call hf4 hR4 hX.out)
      clear hf4 hR4 hV4 hlt3
      obtain ⟨oa, cap, rfl, hoa⟩ := row_shape G.out.row
      have HOA := Lib.hid hoa
      clear hoa
      have E5 : w4.setCell ⟨TB, 2, none⟩ (.slice a4 l4.length cap4) = w4.setRow TB #[.string nm, .slice oa l.length cap, .slice a4 l4.length cap4, .int .i64 dp] := setCell_row G.out.own 2 _
      have c4 := G.out.cell (i := 2) (v := .slice none 0 0) rfl
      have z4 := own_frozen G.out.own 2
      have hne : w.heap.size ≠ TB := by have := hge.out; omega
      have hnX : c.X ≠ TB := by have := hge.out; have := hX.out; omega
      have hnX0 : c.X ≠ w.heap.size := by have := hX.out; omega
      have OR := G.out.res.other (g := TB) #[.string nm, .slice oa l.length cap, .slice a4 l4.length cap4, .int .i64 dp] hne
      have OS := G.out.own.row #[.string nm, .slice oa l.length cap, .slice a4 l4.length cap4, .int .i64 dp]
      have ROW := Lib.hid (row_row G.out.row #[.string nm, .slice oa l.length cap, .slice a4 l4.length cap4, .int .i64 dp] (row_apart G.out.row G.out.own rfl))
      have RA := Lib.hid (row_apart G.out.row G.out.res rfl)
      have V5 := Lib.hid (stsAt_stays (stays_row w4 (g := TB) #[.string nm, .slice oa l.length cap, .slice a4 l4.length cap4, .int .i64 dp] (fun b hb => hb.2.1)) (fun b hb => hb) V4.out)
      have A5 := Lib.hid (G.out.run.setRow (g := TB) (by have := hge.out; omega) hnX #[.string nm, .slice oa l.length cap, .slice a4 l4.length cap4, .int .i64 dp])
      have hne := Lib.hid hne
      have hnX := Lib.hid hnX
      have hnX0 := Lib.hid hnX0
      unfold zTh at OR
      go_wp2_with (first | (refine ld rowTh rfl rfl rfl OS rfl ?_) | (refine st rowTh rfl rfl OR rfl rfl (by rfl) (by rfl) (by kernel_rfl) ?_))
      clear E5 c4 z4
      have A6 := A5.out.setRow (Nat.le_refl _) hnX0.out #[.string nm, .slice oa l.length cap, .slice a4 l4.length cap4, .int .i64 dp]
      refine p_ret rowTh rfl (OR.row #[.string nm, .slice oa l.length cap, .slice a4 l4.length cap4, .int .i64 dp]) rfl rfl rfl ?_
      show RdPost c w Y _ _ _
      rw [HS.out]
      refine ⟨A6.fr, _, k4, rfl, ⟨oa, cap, a4, cap4, rfl, ?_, stsAt_stays (stays_row _ (g := w.heap.size) _ (fun b hb => hb.2.2)) (fun b hb => hb.1) V5.out⟩, A6.rd HR.out, rfl⟩
      have ROW6 := row_row ROW.out (g := w.heap.size) #[.string nm, .slice oa l.length cap, .slice a4 l4.length cap4, .int .i64 dp] RA.out
      cases l with
      | nil => exact .inl rfl
      | cons x xx =>
        obtain ⟨g, rfl, hg⟩ := HOA.out (by simp)
        exact .inr ⟨g, 0, rfl, hg, dcsIn_of (row_cells ROW6 rfl)⟩
    | true =>
      obtain ⟨Z4, hZ4⟩ : ∃ Z4, Z4 = listP c.L (nameP c.L) m [] (c.at (j + 1)) := ⟨_, rfl⟩
      have hjl := Par.isT_lt hB.symm
      have hat := at_step hjl
      have HC4 : Hid (∀ W, Rd c W (j + 1) → Calls Tryd.prog 71 #[.pointer (some ⟨c.X, 0, none⟩), .func (.func 69) #[.pointer (some ⟨c.X, 0, none⟩)] #[]] W (RdPost c W Z4 (fun l v w' => w'.ownsRow W.heap.size 71 3 v l.length (dcsL l) ∧ l ≠ []))) := fun W RW => by rw [hZ4]; exact p_list_name RW (by have := HFU.out.1; omega)
      have HN4 : Hid (∀ d r, Z4 = .ok d r → d.length ≤ (c.at (j + 1)).length ∧ d.length + r.length ≤ (c.at (j + 1)).length) := fun d r h => by have := list_both (fun _ _ _ => nameP_short) (hZ4.symm.trans h); simp at this; omega
      have hz3 : Z3 = Z4.then fun d r => localsP c.L m (l ++ d) r := by
        rw [← HY1.out]; conv => lhs; unfold localsP
        rw [← hB, hZ4, Par.at_tail]; rfl
      have HZ := Lib.hid hz3
      have HAT := Lib.hid hat
      clear hz3 hB hZ4 hjl hat
      go_wp2_with fail
      go_at_call 45
      refine (HCB.out _ (G.out.run.rd HR.out)).mono ?_
      rintro e w3 ⟨rfl, hf3, hR3⟩
      have G := Lib.hid (G.out.call hf3 (show Rd c w3 (j + 1) from hR3) hX.out)
      clear hf3 hR3
      go_wp2_with fail
      refine wp_region_held (S := fun _ => True) (by kernel_rfl) ?_
      have G := G.out.drew
      change wpAnyH _ _ _ _ _ _ _ _ w3.drew
      obtain ⟨W0, hW0⟩ : ∃ W0, W0 = w3.drew := ⟨_, rfl⟩
      rw [← hW0] at G ⊢
      clear hW0
      refine dr_take 0 (.pointer (some ⟨TB, 1, none⟩)) rfl rfl (by kernel_rfl) (by kernel_rfl) (by kernel_rfl) (fun _ _ _ h => h) (fun _ _ => by unfold execOp; go_simp) trivial ?_
      change wpAnyH _ _ _ _ _ _ _ { tmps := #[.pointer (some ⟨c.X, 0, none⟩), undef, .pointer (some ⟨w.heap.size, 0, none⟩), .pointer (some ⟨DB, 0, none⟩), .pointer (some ⟨TB, 0, none⟩), .pointer (some ⟨c.X, 0, none⟩), .agg #[.string nm, .int .i64 dw, .int .i64 dp], .pointer (some ⟨DB, 0, none⟩), .string nm, .pointer (some ⟨DB, 2, none⟩), .int .i64 dp, .agg #[.string nm, .slice none 0 0, .slice none 0 0, .int .i64 dp], .pointer (some ⟨c.X, 0, none⟩), .tuple #[], .pointer (some ⟨c.X, 0, none⟩), .bool true, .pointer (some ⟨TB, 1, none⟩), u17, u18, u19, u20, u21, u22, u23, undef, undef, undef, undef], defers := [] } _
      refine dr_take 2 (.pointer (some ⟨c.X, 0, none⟩)) rfl rfl (by kernel_rfl) (by kernel_rfl) (by kernel_rfl) (fun _ _ _ h => h) (fun _ _ => rfl) trivial ?_
      change wpAnyH _ _ _ _ _ _ _ { tmps := #[.pointer (some ⟨c.X, 0, none⟩), undef, .pointer (some ⟨w.heap.size, 0, none⟩), .pointer (some ⟨DB, 0, none⟩), .pointer (some ⟨TB, 0, none⟩), .pointer (some ⟨c.X, 0, none⟩), .agg #[.string nm, .int .i64 dw, .int .i64 dp], .pointer (some ⟨DB, 0, none⟩), .string nm, .pointer (some ⟨DB, 2, none⟩), .int .i64 dp, .agg #[.string nm, .slice none 0 0, .slice none 0 0, .int .i64 dp], .pointer (some ⟨c.X, 0, none⟩), .tuple #[], .pointer (some ⟨c.X, 0, none⟩), .bool true, .pointer (some ⟨TB, 1, none⟩), u17, .pointer (some ⟨c.X, 0, none⟩), u19, u20, u21, u22, u23, undef, undef, undef, undef], defers := [] } _
      refine dr_take 3 (.pointer (some ⟨c.X, 0, none⟩)) rfl rfl (by kernel_rfl) (by kernel_rfl) (by kernel_rfl) (fun _ _ _ h => h) (fun _ _ => rfl) trivial ?_
      change wpAnyH _ _ _ _ _ _ _ { tmps := #[.pointer (some ⟨c.X, 0, none⟩), undef, .pointer (some ⟨w.heap.size, 0, none⟩), .pointer (some ⟨DB, 0, none⟩), .pointer (some ⟨TB, 0, none⟩), .pointer (some ⟨c.X, 0, none⟩), .agg #[.string nm, .int .i64 dw, .int .i64 dp], .pointer (some ⟨DB, 0, none⟩), .string nm, .pointer (some ⟨DB, 2, none⟩), .int .i64 dp, .agg #[.string nm, .slice none 0 0, .slice none 0 0, .int .i64 dp], .pointer (some ⟨c.X, 0, none⟩), .tuple #[], .pointer (some ⟨c.X, 0, none⟩), .bool true, .pointer (some ⟨TB, 1, none⟩), u17, .pointer (some ⟨c.X, 0, none⟩), .pointer (some ⟨c.X, 0, none⟩), u20, u21, u22, u23, undef, undef, undef, undef], defers := [] } _
      refine dr_take 4 (.func (.func 69) #[.pointer (some ⟨c.X, 0, none⟩)] #[]) rfl rfl (by kernel_rfl) (by kernel_rfl) (by kernel_rfl) (fun _ _ _ h => h) (fun _ _ => by unfold execOp; go_simp) trivial ?_
      change wpAnyH _ _ _ _ _ _ _ { tmps := #[.pointer (some ⟨c.X, 0, none⟩), undef, .pointer (some ⟨w.heap.size, 0, none⟩), .pointer (some ⟨DB, 0, none⟩), .pointer (some ⟨TB, 0, none⟩), .pointer (some ⟨c.X, 0, none⟩), .agg #[.string nm, .int .i64 dw, .int .i64 dp], .pointer (some ⟨DB, 0, none⟩), .string nm, .pointer (some ⟨DB, 2, none⟩), .int .i64 dp, .agg #[.string nm, .slice none 0 0, .slice none 0 0, .int .i64 dp], .pointer (some ⟨c.X, 0, none⟩), .tuple #[], .pointer (some ⟨c.X, 0, none⟩), .bool true, .pointer (some ⟨TB, 1, none⟩), u17, .pointer (some ⟨c.X, 0, none⟩), .pointer (some ⟨c.X, 0, none⟩), .func (.func 69) #[.pointer (some ⟨c.X, 0, none⟩)] #[], u21, u22, u23, undef, undef, undef, undef], defers := [] } _
      refine dr_two 1 5 rfl rfl rfl rfl (by kernel_rfl) ?_ ?_
      · refine wp_ld_dcs rfl rfl (G.cell (i := 1) (v := vL) rfl) ⟨trivial, ?_⟩
        change wpAnyH _ _ _ _ _ _ _ { tmps := #[.pointer (some ⟨c.X, 0, none⟩), undef, .pointer (some ⟨w.heap.size, 0, none⟩), .pointer (some ⟨DB, 0, none⟩), .pointer (some ⟨TB, 0, none⟩), .pointer (some ⟨c.X, 0, none⟩), .agg #[.string nm, .int .i64 dw, .int .i64 dp], .pointer (some ⟨DB, 0, none⟩), .string nm, .pointer (some ⟨DB, 2, none⟩), .int .i64 dp, .agg #[.string nm, .slice none 0 0, .slice none 0 0, .int .i64 dp], .pointer (some ⟨c.X, 0, none⟩), .tuple #[], .pointer (some ⟨c.X, 0, none⟩), .bool true, .pointer (some ⟨TB, 1, none⟩), vL, .pointer (some ⟨c.X, 0, none⟩), .pointer (some ⟨c.X, 0, none⟩), .func (.func 69) #[.pointer (some ⟨c.X, 0, none⟩)] #[], u21, u22, u23, undef, undef, undef, undef], defers := [] } _
        refine dr_one 5 rfl rfl (by kernel_rfl) ?_
        refine wp_call (vs := #[.pointer (some ⟨c.X, 0, none⟩), .func (.func 69) #[.pointer (some ⟨c.X, 0, none⟩)] #[]]) rfl rfl (enters_of Tryd.func71 (by kernel_rfl) rfl) (by simp [Act.eval]) (HC4.out _ (G.run.rd HR.out)) ?_
        rintro e w4 ⟨hf4, hm⟩
        rcases Z4 with ⟨d, r⟩ | ⟨q, rl⟩
        rotate_left
        · obtain rfl := hm
          have AZ := G.run.fr.trans hf4
          have AZ := Lib.hid AZ
          clear hf4
          go_wp2_with fail
          refine ⟨rfl, ?_⟩
          show RdPost c w Y _ _ _
          rw [HS.out, HZ.out]
          exact ⟨AZ.out, rfl⟩
        obtain ⟨v1, k3, rfl, ⟨hrow1, hd1⟩, hR1, rfl⟩ := hm
        have G1 := G.call hf4 hR1 hX.out
        have hlen := HN4.out _ _ rfl
        obtain ⟨g1, cap1, rfl, hg1, hlt1⟩ := hrow1.form (List.length_pos_iff.2 hd1)
        refine ⟨trivial, ?_⟩
        change wpAnyH _ _ _ _ _ _ _ { tmps := #[.pointer (some ⟨c.X, 0, none⟩), undef, .pointer (some ⟨w.heap.size, 0, none⟩), .pointer (some ⟨DB, 0, none⟩), .pointer (some ⟨TB, 0, none⟩), .pointer (some ⟨c.X, 0, none⟩), .agg #[.string nm, .int .i64 dw, .int .i64 dp], .pointer (some ⟨DB, 0, none⟩), .string nm, .pointer (some ⟨DB, 2, none⟩), .int .i64 dp, .agg #[.string nm, .slice none 0 0, .slice none 0 0, .int .i64 dp], .pointer (some ⟨c.X, 0, none⟩), .tuple #[], .pointer (some ⟨c.X, 0, none⟩), .bool true, .pointer (some ⟨TB, 1, none⟩), vL, .pointer (some ⟨c.X, 0, none⟩), .pointer (some ⟨c.X, 0, none⟩), .func (.func 69) #[.pointer (some ⟨c.X, 0, none⟩)] #[], .slice (some ⟨g1, 0, none⟩) d.length cap1, u22, u23, undef, undef, undef, undef], defers := [] } _
        refine dr_one 6 rfl rfl (by kernel_rfl) ?_
        obtain ⟨i0, hi, hi0, hi1, hi2⟩ := info_parts infoDc
        refine wp_append_lies w4 _ _ 37 rfl w.heap.size 71 i0 _ 3 32 Tryd.underlying37 hi hi0 hi1 hi2 rfl (by decide) vL l.length (dcsL l) rfl G1.row ⟨g1, 0, none⟩ d.length cap1 (dcsL d) rfl (dcsL_len d) (row_news hrow1) (dcsL_cells d) (List.length_pos_iff.2 hd1) (by simp only [maxLen]; have := HFU.out.2; have := HAT.out; omega) (by have := HFU.out.2; have := HAT.out; omega) (by have := G1.run.fr.size; omega) _ rfl ?_
        intro g2 cap2 w5 hown2 hgrow2 hlies2 hlt2
        refine ⟨trivial, ?_⟩
        change wpAnyH _ _ _ _ _ _ _ { tmps := #[.pointer (some ⟨c.X, 0, none⟩), undef, .pointer (some ⟨w.heap.size, 0, none⟩), .pointer (some ⟨DB, 0, none⟩), .pointer (some ⟨TB, 0, none⟩), .pointer (some ⟨c.X, 0, none⟩), .agg #[.string nm, .int .i64 dw, .int .i64 dp], .pointer (some ⟨DB, 0, none⟩), .string nm, .pointer (some ⟨DB, 2, none⟩), .int .i64 dp, .agg #[.string nm, .slice none 0 0, .slice none 0 0, .int .i64 dp], .pointer (some ⟨c.X, 0, none⟩), .tuple #[], .pointer (some ⟨c.X, 0, none⟩), .bool true, .pointer (some ⟨TB, 1, none⟩), vL, .pointer (some ⟨c.X, 0, none⟩), .pointer (some ⟨c.X, 0, none⟩), .func (.func 69) #[.pointer (some ⟨c.X, 0, none⟩)] #[], .slice (some ⟨g1, 0, none⟩) d.length cap1, .slice (some ⟨g2, 0, none⟩) (l.length + d.length) cap2, u23, undef, undef, undef, undef], defers := [] } _
        refine dr_take 7 (.pointer (some ⟨TB, 1, none⟩)) rfl rfl (by kernel_rfl) (by kernel_rfl) (by kernel_rfl) (fun _ _ _ h => h) (fun _ _ => by unfold execOp; go_simp) trivial ?_
        change wpAnyH _ _ _ _ _ _ _ { tmps := #[.pointer (some ⟨c.X, 0, none⟩), undef, .pointer (some ⟨w.heap.size, 0, none⟩), .pointer (some ⟨DB, 0, none⟩), .pointer (some ⟨TB, 0, none⟩), .pointer (some ⟨c.X, 0, none⟩), .agg #[.string nm, .int .i64 dw, .int .i64 dp], .pointer (some ⟨DB, 0, none⟩), .string nm, .pointer (some ⟨DB, 2, none⟩), .int .i64 dp, .agg #[.string nm, .slice none 0 0, .slice none 0 0, .int .i64 dp], .pointer (some ⟨c.X, 0, none⟩), .tuple #[], .pointer (some ⟨c.X, 0, none⟩), .bool true, .pointer (some ⟨TB, 1, none⟩), vL, .pointer (some ⟨c.X, 0, none⟩), .pointer (some ⟨c.X, 0, none⟩), .func (.func 69) #[.pointer (some ⟨c.X, 0, none⟩)] #[], .slice (some ⟨g1, 0, none⟩) d.length cap1, .slice (some ⟨g2, 0, none⟩) (l.length + d.length) cap2, .pointer (some ⟨TB, 1, none⟩), undef, undef, undef, undef], defers := [] } _
        refine dr_one 8 rfl rfl (by kernel_rfl) ?_
        obtain ⟨B1, B2, B3⟩ := G1.grown hgrow2 hX.out
        refine wp_st_dcs rfl rfl rfl (u := vL) (by rw [cell_of_row w5 _ 1 _ _ _ B3]; rfl) (own_frozen B3 1) ⟨trivial, ?_⟩
        rw [setCell_row B3 1 _]
        have G3 := Lib.hid (G1.end_ hX.out hgrow2 hown2)
        have HLN := Lib.hid hlen
        refine wpAnyH_done (by kernel_rfl) ?_ _
        clear hrow1 hown2 hgrow2 hlies2 B1 B2 B3 G1 hlen
        go_wp2_with fail
        go_roundg m
        case measure => omega
        case rel =>
          refine ⟨⟨k3, l ++ d, _, G3.out, HZ.out.symm, by have := HFU.out.1; have := HLN.out; have := HAT.out; omega, by have := HFU.out.2; have := HLN.out; have := HAT.out; rw [List.length_append]; omega⟩, by have := HGN.out; omega⟩
      · skip
        refine wp_call (vs := #[.pointer (some ⟨c.X, 0, none⟩), .func (.func 69) #[.pointer (some ⟨c.X, 0, none⟩)] #[]]) rfl rfl (enters_of Tryd.func71 (by kernel_rfl) rfl) (by simp [Act.eval]) (HC4.out _ (G.run.rd HR.out)) ?_
        rintro e w4 ⟨hf4, hm⟩
        rcases Z4 with ⟨d, r⟩ | ⟨q, rl⟩
        rotate_left
        · obtain rfl := hm
          have AZ := G.run.fr.trans hf4
          have AZ := Lib.hid AZ
          clear hf4
          go_wp2_with fail
          refine ⟨rfl, ?_⟩
          show RdPost c w Y _ _ _
          rw [HS.out, HZ.out]
          exact ⟨AZ.out, rfl⟩
        obtain ⟨v1, k3, rfl, ⟨hrow1, hd1⟩, hR1, rfl⟩ := hm
        have G1 := G.call hf4 hR1 hX.out
        have hlen := HN4.out _ _ rfl
        obtain ⟨g1, cap1, rfl, hg1, hlt1⟩ := hrow1.form (List.length_pos_iff.2 hd1)
        refine ⟨trivial, ?_⟩
        change wpAnyH _ _ _ _ _ _ _ { tmps := #[.pointer (some ⟨c.X, 0, none⟩), undef, .pointer (some ⟨w.heap.size, 0, none⟩), .pointer (some ⟨DB, 0, none⟩), .pointer (some ⟨TB, 0, none⟩), .pointer (some ⟨c.X, 0, none⟩), .agg #[.string nm, .int .i64 dw, .int .i64 dp], .pointer (some ⟨DB, 0, none⟩), .string nm, .pointer (some ⟨DB, 2, none⟩), .int .i64 dp, .agg #[.string nm, .slice none 0 0, .slice none 0 0, .int .i64 dp], .pointer (some ⟨c.X, 0, none⟩), .tuple #[], .pointer (some ⟨c.X, 0, none⟩), .bool true, .pointer (some ⟨TB, 1, none⟩), u17, .pointer (some ⟨c.X, 0, none⟩), .pointer (some ⟨c.X, 0, none⟩), .func (.func 69) #[.pointer (some ⟨c.X, 0, none⟩)] #[], .slice (some ⟨g1, 0, none⟩) d.length cap1, u22, u23, undef, undef, undef, undef], defers := [] } _
        refine dr_one 1 rfl rfl (by kernel_rfl) ?_
        refine wp_ld_dcs rfl rfl (G1.cell (i := 1) (v := vL) rfl) ⟨trivial, ?_⟩
        change wpAnyH _ _ _ _ _ _ _ { tmps := #[.pointer (some ⟨c.X, 0, none⟩), undef, .pointer (some ⟨w.heap.size, 0, none⟩), .pointer (some ⟨DB, 0, none⟩), .pointer (some ⟨TB, 0, none⟩), .pointer (some ⟨c.X, 0, none⟩), .agg #[.string nm, .int .i64 dw, .int .i64 dp], .pointer (some ⟨DB, 0, none⟩), .string nm, .pointer (some ⟨DB, 2, none⟩), .int .i64 dp, .agg #[.string nm, .slice none 0 0, .slice none 0 0, .int .i64 dp], .pointer (some ⟨c.X, 0, none⟩), .tuple #[], .pointer (some ⟨c.X, 0, none⟩), .bool true, .pointer (some ⟨TB, 1, none⟩), vL, .pointer (some ⟨c.X, 0, none⟩), .pointer (some ⟨c.X, 0, none⟩), .func (.func 69) #[.pointer (some ⟨c.X, 0, none⟩)] #[], .slice (some ⟨g1, 0, none⟩) d.length cap1, u22, u23, undef, undef, undef, undef], defers := [] } _
        refine dr_one 6 rfl rfl (by kernel_rfl) ?_
        obtain ⟨i0, hi, hi0, hi1, hi2⟩ := info_parts infoDc
        refine wp_append_lies w4 _ _ 37 rfl w.heap.size 71 i0 _ 3 32 Tryd.underlying37 hi hi0 hi1 hi2 rfl (by decide) vL l.length (dcsL l) rfl G1.row ⟨g1, 0, none⟩ d.length cap1 (dcsL d) rfl (dcsL_len d) (row_news hrow1) (dcsL_cells d) (List.length_pos_iff.2 hd1) (by simp only [maxLen]; have := HFU.out.2; have := HAT.out; omega) (by have := HFU.out.2; have := HAT.out; omega) (by have := G1.run.fr.size; omega) _ rfl ?_
        intro g2 cap2 w5 hown2 hgrow2 hlies2 hlt2
        refine ⟨trivial, ?_⟩
        change wpAnyH _ _ _ _ _ _ _ { tmps := #[.pointer (some ⟨c.X, 0, none⟩), undef, .pointer (some ⟨w.heap.size, 0, none⟩), .pointer (some ⟨DB, 0, none⟩), .pointer (some ⟨TB, 0, none⟩), .pointer (some ⟨c.X, 0, none⟩), .agg #[.string nm, .int .i64 dw, .int .i64 dp], .pointer (some ⟨DB, 0, none⟩), .string nm, .pointer (some ⟨DB, 2, none⟩), .int .i64 dp, .agg #[.string nm, .slice none 0 0, .slice none 0 0, .int .i64 dp], .pointer (some ⟨c.X, 0, none⟩), .tuple #[], .pointer (some ⟨c.X, 0, none⟩), .bool true, .pointer (some ⟨TB, 1, none⟩), vL, .pointer (some ⟨c.X, 0, none⟩), .pointer (some ⟨c.X, 0, none⟩), .func (.func 69) #[.pointer (some ⟨c.X, 0, none⟩)] #[], .slice (some ⟨g1, 0, none⟩) d.length cap1, .slice (some ⟨g2, 0, none⟩) (l.length + d.length) cap2, u23, undef, undef, undef, undef], defers := [] } _
        refine dr_take 7 (.pointer (some ⟨TB, 1, none⟩)) rfl rfl (by kernel_rfl) (by kernel_rfl) (by kernel_rfl) (fun _ _ _ h => h) (fun _ _ => by unfold execOp; go_simp) trivial ?_
        change wpAnyH _ _ _ _ _ _ _ { tmps := #[.pointer (some ⟨c.X, 0, none⟩), undef, .pointer (some ⟨w.heap.size, 0, none⟩), .pointer (some ⟨DB, 0, none⟩), .pointer (some ⟨TB, 0, none⟩), .pointer (some ⟨c.X, 0, none⟩), .agg #[.string nm, .int .i64 dw, .int .i64 dp], .pointer (some ⟨DB, 0, none⟩), .string nm, .pointer (some ⟨DB, 2, none⟩), .int .i64 dp, .agg #[.string nm, .slice none 0 0, .slice none 0 0, .int .i64 dp], .pointer (some ⟨c.X, 0, none⟩), .tuple #[], .pointer (some ⟨c.X, 0, none⟩), .bool true, .pointer (some ⟨TB, 1, none⟩), vL, .pointer (some ⟨c.X, 0, none⟩), .pointer (some ⟨c.X, 0, none⟩), .func (.func 69) #[.pointer (some ⟨c.X, 0, none⟩)] #[], .slice (some ⟨g1, 0, none⟩) d.length cap1, .slice (some ⟨g2, 0, none⟩) (l.length + d.length) cap2, .pointer (some ⟨TB, 1, none⟩), undef, undef, undef, undef], defers := [] } _
        refine dr_one 8 rfl rfl (by kernel_rfl) ?_
        obtain ⟨B1, B2, B3⟩ := G1.grown hgrow2 hX.out
        refine wp_st_dcs rfl rfl rfl (u := vL) (by rw [cell_of_row w5 _ 1 _ _ _ B3]; rfl) (own_frozen B3 1) ⟨trivial, ?_⟩
        rw [setCell_row B3 1 _]
        have G3 := Lib.hid (G1.end_ hX.out hgrow2 hown2)
        have HLN := Lib.hid hlen
        refine wpAnyH_done (by kernel_rfl) ?_ _
        clear hrow1 hown2 hgrow2 hlies2 B1 B2 B3 G1 hlen
        go_wp2_with fail
        go_roundg m
        case measure => omega
        case rel =>
          refine ⟨⟨k3, l ++ d, _, G3.out, HZ.out.symm, by have := HFU.out.1; have := HLN.out; have := HAT.out; omega, by have := HFU.out.2; have := HLN.out; have := HAT.out; rw [List.length_append]; omega⟩, by have := HGN.out; omega⟩
end Go.Proofs.YtjpmdafaaonpoaaDoor

namespace Go.Proofs.YtjpmdafaaonpoaaDoor
open Go.RowKit
set_option linter.unusedVariables false
theorem infoTh : (Tryd.prog.info? 69).map (fun i => (i.zero, i.size, i.bytes)) = some (some (.agg zTh), 4, 72) := by kernel_rfl
theorem dcsAt_in {R : Nat → Prop} {w : World} {l : List Dc} {a : Option Addr} (h : dcsAt R w l a) : dcsAt (fun b => R b ∧ b < w.heap.size) w l a := by
  rcases h with h | ⟨g, q, rfl, hg, hi⟩
  · exact .inl h
  · cases l with
    | nil => exact .inl rfl
    | cons d r => exact .inr ⟨g, q, rfl, ⟨hg, cell_lt hi.1.1⟩, hi⟩
theorem dcsAt_mono {R R' : Nat → Prop} {w : World} {l : List Dc} {a : Option Addr} (h : dcsAt R w l a) (hm : ∀ b, R b → R' b) : dcsAt R' w l a := dcsAt_stays (Stays.refl R w) hm h
theorem thV_in {R : Nat → Prop} {w : World} {t : Th} {vs : List Value} (h : thV R w t vs) : thV (fun b => R b ∧ b < w.heap.size) w t vs := by
  obtain ⟨a1, c1, a2, c2, h1, h2, h3⟩ := h
  exact ⟨a1, c1, a2, c2, h1, dcsAt_in h2, stsAt_in h3⟩
theorem thsV_in {R : Nat → Prop} {w : World} : ∀ {l : List Th} {xs : List Value}, thsV R w l xs → thsV (fun b => R b ∧ b < w.heap.size) w l xs
  | [], xs, h => h
  | t :: r, xs, ⟨us, ys, h1, h2, h3⟩ => ⟨us, ys, h1, thV_in h2, thsV_in h3⟩
/-- A program, as a value. -/
def pgR (n : Nat) (p : Pg) (v : Value) (W : World) : Prop := ∃ a1 c1 a2 c2 a3 c3, v = .agg #[.slice a1 p.shared.length c1, .slice a2 p.locks.length c2, .slice a3 p.threads.length c3] ∧ dcsAt (fun b => n ≤ b) W p.shared a1 ∧ dcsAt (fun b => n ≤ b) W p.locks a2 ∧ thsAt (fun b => n ≤ b) W p.threads a3
/-- The blocks in which the lists lie. -/
def RB (w0 : World) (pb : Nat) (v : Value) (b : Nat) : Prop := w0.heap.size < b ∧ b ≠ pb ∧ v.ownBlock ≠ some b
/-- While threads are read: the reader's place, the program's block, its lists. -/
structure PgT (c : Par) (w0 : World) (pb : Nat) (a1 : Option Addr) (c1 : Nat) (a2 : Option Addr) (c2 : Nat) (vT : Value) (p : Pg) (l : List Th) (xs : List Value) (W : World) (k : Nat) : Prop where
  run : At c w0 W k
  ge : w0.heap.size < pb
  res : Own W w0.heap.size 40 zPg
  own : Own W pb 40 #[.slice a1 p.shared.length c1, .slice a2 p.locks.length c2, vT]
  dS : dcsAt (RB w0 pb vT) W p.shared a1
  dL : dcsAt (RB w0 pb vT) W p.locks a2
  rT : W.ownsRow w0.heap.size 69 4 vT l.length xs
  tv : thsV (RB w0 pb vT) W l xs
theorem dcs_of_row {W : World} {w0 : World} {pb : Nat} {v : Value} {l : List Dc} (h : W.ownsRow w0.heap.size 71 3 v l.length (dcsL l)) (h1 : v.ownBlock ≠ some w0.heap.size) (h2 : v.ownBlock ≠ some pb) : ∃ a cap, v = .slice a l.length cap ∧ dcsAt (RB w0 pb (.slice none 0 0)) W l a := by
  obtain ⟨oa, cap, rfl, hoa⟩ := row_shape h
  refine ⟨oa, cap, rfl, ?_⟩
  cases l with
  | nil => exact .inl rfl
  | cons x r =>
    obtain ⟨g, rfl, hg⟩ := hoa (by simp)
    refine .inr ⟨g, 0, rfl, ⟨?_, ?_, by simp [Value.ownBlock]⟩, dcsIn_of (row_cells h rfl)⟩
    · have : g ≠ w0.heap.size := fun e => h1 (by rw [e]; rfl)
      omega
    · exact fun e => h2 (by rw [e]; rfl)
theorem PgI.threads {c : Par} {w0 W : World} {pb k : Nat} {vS vL : Value} {p : Pg} (h : PgI c w0 pb vS vL p W k) : ∃ a1 c1 a2 c2, vS = .slice a1 p.shared.length c1 ∧ vL = .slice a2 p.locks.length c2 ∧ PgT c w0 pb a1 c1 a2 c2 (.slice none 0 0) p [] [] W k := by
  obtain ⟨a1, c1, rfl, d1⟩ := dcs_of_row (pb := pb) h.rS (row_apart h.rS h.res rfl) (row_apart h.rS h.own rfl)
  obtain ⟨a2, c2, rfl, d2⟩ := dcs_of_row (pb := pb) h.rL (row_apart h.rL h.res rfl) (row_apart h.rL h.own rfl)
  exact ⟨a1, c1, a2, c2, rfl, rfl, h.run, h.ge, h.res, h.own, d1, d2, World.ownsRow_nil _ _ _ _, rfl⟩
section
variable {c : Par} {w0 W W' : World} {pb : Nat} {a1 a2 : Option Addr} {c1 c2 : Nat} {vT : Value} {p : Pg} {l : List Th} {xs : List Value} {k k2 : Nat}
theorem PgT.call (h : PgT c w0 pb a1 c1 a2 c2 vT p l xs W k) (hf : Fr c W W') (hp : Rd c W' k2) (hX : c.X < w0.heap.size) : PgT c w0 pb a1 c1 a2 c2 vT p l xs W' k2 := by
  have st : Stays (RB w0 pb vT) W W' := stays_fr hf (fun b hb => by have := hb.1; omega)
  exact ⟨h.run.call hf hp, h.ge, h.res.fr hf (by omega), h.own.fr hf (by have := h.ge; omega), dcsAt_stays st (fun _ h => h) h.dS, dcsAt_stays st (fun _ h => h) h.dL, row_fr h.rT hf hX, thsV_stays st (fun _ h => h) h.tv⟩
theorem PgT.cell (h : PgT c w0 pb a1 c1 a2 c2 vT p l xs W k) {i : Nat} {v : Value} (hv : (#[.slice a1 p.shared.length c1, .slice a2 p.locks.length c2, vT] : Array Value)[i]? = some v) : W.cell? ⟨pb, i, none⟩ = some v := by rw [cell_of_row W _ i _ _ _ h.own]; exact hv
theorem PgT.drew (h : PgT c w0 pb a1 c1 a2 c2 vT p l xs W k) : PgT c w0 pb a1 c1 a2 c2 vT p l xs W.drew k :=
  have st : Stays (RB w0 pb vT) W W.drew := fun _ _ _ _ h => h
  ⟨h.run.drew, h.ge, h.res, h.own, dcsAt_stays st (fun _ h => h) h.dS, dcsAt_stays st (fun _ h => h) h.dL, h.rT, thsV_stays st (fun _ h => h) h.tv⟩
theorem PgT.alloc (h : PgT c w0 pb a1 c1 a2 c2 vT p l xs W k) (o : Obj) (hX : c.X < w0.heap.size) (R : Rd c w0 k2) : PgT c w0 pb a1 c1 a2 c2 vT p l xs (W.alloc o) k :=
  h.call ((Fr.refl c W).alloc o) ((h.run.rd R).alloc o) hX
theorem PgT.grown (h : PgT c w0 pb a1 c1 a2 c2 vT p l xs W k) (hg : W.grownBy W' vT.ownBlock) (hX : c.X < w0.heap.size) : At c w0 W' k ∧ Own W' w0.heap.size 40 zPg ∧ Own W' pb 40 #[.slice a1 p.shared.length c1, .slice a2 p.locks.length c2, vT] :=
  ⟨grown_fr h.run hg (fun r hr => by have := (h.rT.lt r hr).1; exact ⟨this, by omega⟩), own_grown h.res hg (row_apart h.rT h.res rfl), own_grown h.own hg (row_apart h.rT h.own rfl)⟩
theorem PgT.end_ (h : PgT c w0 pb a1 c1 a2 c2 vT p l xs W k) {t : Th} {vs : List Value} {g cap : Nat} (hX : c.X < w0.heap.size) (hv : thV (fun b => RB w0 pb vT b ∧ b < W.heap.size) W t vs) (hg : W.grownBy W' vT.ownBlock)
    (hown : W'.ownsRow w0.heap.size 69 4 (.slice (some ⟨g, 0, none⟩) (l.length + 1) cap) (l.length + 1) (xs ++ vs)) (hl : vT.ownBlock = some g ∨ g = W.heap.size) :
    PgT c w0 pb a1 c1 a2 c2 (.slice (some ⟨g, 0, none⟩) (l.length + 1) cap) p (l ++ [t]) (xs ++ vs) (W'.setRow pb #[.slice a1 p.shared.length c1, .slice a2 p.locks.length c2, .slice (some ⟨g, 0, none⟩) (l.length + 1) cap]) k := by
  obtain ⟨h1, h2, h3⟩ := h.grown hg hX
  have ha := row_apart hown h3 rfl
  have st1 : Stays (fun b => RB w0 pb vT b ∧ b < W.heap.size) W W' := stays_grown hg (fun b hb => hb.1.2.2)
  have st2 : Stays (fun b => RB w0 pb vT b ∧ b < W.heap.size) W' (W'.setRow pb #[.slice a1 p.shared.length c1, .slice a2 p.locks.length c2, .slice (some ⟨g, 0, none⟩) (l.length + 1) cap]) := stays_row W' _ (fun b hb => hb.1.2.1)
  have st := st1.trans st2
  have hm : ∀ b, RB w0 pb vT b ∧ b < W.heap.size → RB w0 pb (.slice (some ⟨g, 0, none⟩) (l.length + 1) cap) b := fun b hb => by
    refine ⟨hb.1.1, hb.1.2.1, fun e => ?_⟩
    have e : g = b := by simpa [Value.ownBlock] using e
    subst e
    rcases hl with hl | hl
    · exact hb.1.2.2 hl
    · have := hb.2; omega
  refine ⟨h1.setRow (by have := h.ge; omega) (by have := h.ge; omega) _, h.ge, h2.other _ (by have := h.ge; omega), h3.row _, dcsAt_stays st hm (dcsAt_in h.dS), dcsAt_stays st hm (dcsAt_in h.dL), ?_, thsV_stays st hm (thsV_snoc (thsV_in h.tv) hv)⟩
  have := row_row hown #[.slice a1 p.shared.length c1, .slice a2 p.locks.length c2, .slice (some ⟨g, 0, none⟩) (l.length + 1) cap] ha
  rw [List.length_append]
  exact this
end
end Go.Proofs.YtjpmdafaaonpoaaDoor

namespace Go.Proofs.YtjpmdafaaonpoaaDoor
open Go.RowKit
set_option linter.unusedVariables false
/-- Another thing in a block. -/
def putB (w : World) (r : Nat) (o : Obj) : World := { w with heap := w.heap.setIfInBounds r o }
theorem putB_size (w : World) (r : Nat) (o : Obj) : (putB w r o).heap.size = w.heap.size := by simp [putB]
theorem putB_same {w : World} {r : Nat} (o : Obj) (h : r < w.heap.size) : (putB w r o).heap[r]? = some o := by
  simp [putB, h]
theorem putB_other {w : World} {r b : Nat} (o : Obj) (h : b ≠ r) : (putB w r o).heap[b]? = w.heap[b]? := by
  simp only [putB]
  rw [Array.getElem?_setIfInBounds_ne (fun e => h e.symm)]
theorem putB_below {n : Nat} {a w : World} {r : Nat} (o : Obj) (h : Below n a w) (hr : n ≤ r) : Below n a (putB w r o) :=
  ⟨h.os, h.tape, h.output, by rw [putB_size]; exact h.size, fun k hk => (putB_other o (by omega)).trans (h.block k hk)⟩
theorem run_ins {P : Program} {w : World} {t k e : TypeId} {b : Nat} {es : Array MapEntry} {clock : Nat} (ht : P.underlying t = some (.map k e)) (hk : P.underlying k = some .string)
    (hb : w.heap[b]? = some (.map es clock)) (s : ByteArray) (v : Value) (hf : Instr.findNow .string (.string s) es.toList 0 = some none) :
    (Instr.mapUpdate t (.map (some b)) (.string s) v).run P w = .ok () (putB w b (.map (es.push ⟨.string s, v, clock⟩) (clock + 1))) := by
  have hck : (Instr.checkKey false 10000 k (.string s)).run P w = .ok () w := MapKept.run_checkKey (d := .string) hk (by simp [MapKept.IsKey]) false 9999
  have hf := MapKept.run_findKey (w := w) hk hf
  unfold Instr.mapUpdate
  simp [run_underlying ht, Result.andThen, MapKept.run_getObj_map hb, hck, hf, MapKept.run_setObj_map _ hb, putB]
set_option maxHeartbeats 1000000 in
theorem p_mkunary {w : World} (X : Nat) (o : Int) : Calls Tryd.prog 59 #[.pointer (some ⟨X, 0, none⟩), .int .u8 o] w fun e w' => e = .returned (.func (.func 89) #[] #[.pointer (some ⟨w.heap.size, 0, none⟩), .pointer (some ⟨w.heap.size + 1, 0, none⟩)]) ∧ w' = (w.alloc (.cells #[.pointer (some ⟨X, 0, none⟩)] 59)).alloc (.cells #[.int .u8 o] 23) := by
  go_enter Tryd.func59, Tryd.ntmps59
  go_wp2
  go_ret
  exact ⟨rfl, rfl⟩
set_option maxRecDepth 100000 in
set_option maxHeartbeats 1000000 in
/-- Behind the last token there is none. -/
theorem p_end {c : Par} {w : World} {k : Nat} (R : Rd c w k) :
    Calls Tryd.prog 36 #[c.ptr] w fun e w' => Fr c w w' ∧ e = match c.at k with | [] => .returned (.tuple #[]) | t :: _ => .panicked (flt t.pos 2) := by
  obtain ⟨⟨c0, c1, c2, _⟩, f⟩ := R.cells
  have hX := R.lt
  have hle := R.le
  have hsm := R.s.small.1
  by_cases hk : k < c.toks.length
  · have hnx : c.nx k = (c.toks[k]).tk := by unfold Par.nx; rw [Par.at_lt hk]
    have HN : Hid (∀ W, Rd c W k → Calls Tryd.prog 44 #[c.ptr] W fun e w' => e = .returned (tkV (c.nx k)) ∧ Below W.heap.size W w') := fun W h => p_next h
    rw [Par.at_lt hk]
    have HQ := Lib.hid (fun w => p_refuse (c.nx k) 2 w)
    rw [hnx] at HN HQ
    generalize (c.toks[k]).tk = t at HN HQ ⊢
    have hkk : decide ((k : Int) < (c.toks.length : Int)) = true := b_t (by omega)
    obtain ⟨n, hn⟩ : ∃ n, n = c.toks.length := ⟨_, rfl⟩
    rw [← hn] at c0 hkk hk hle hsm
    have HR := Lib.hid R
    have HD : Hid (∀ n, Rd c (w.drewN n) k) := fun n => ⟨R.s.drewN n, R.pos, R.le⟩
    clear hnx hn R
    unfold Par.ptr tkV at *
    go_enter Tryd.func36, Tryd.ntmps36
    go_wp2
    go_quiet (fail)
    have hD := HD.out nq
    have HF : Hid (Fr c w (w.drewN nq)) := Keep.drewN (Fr.refl c w) nq
    generalize w.drewN nq = W at hD HF ⊢
    go_wp2_with (first
      | (go_at_call 44; refine (HN.out _ hD).mono ?_; rintro e w1 ⟨rfl, hb⟩; have HB := Lib.hid hb; clear hb)
      | (go_at_call 61; refine (HQ.out _).mono ?_; rintro e w2 ⟨rfl, hb⟩; have HC := Lib.hid hb; clear hb))
    exact ⟨rfl, (HF.out.trans (.of_below HB.out)).trans (.of_below HC.out), rfl⟩
  · rw [Par.at_end (by omega)]
    have hkk : decide ((k : Int) < (c.toks.length : Int)) = false := b_f (by omega)
    have hkn : decide (k < c.toks.length) = false := b_f (by omega)
    obtain ⟨n, hn⟩ : ∃ n, n = c.toks.length := ⟨_, rfl⟩
    rw [← hn] at c0 hkk hk hle hsm hkn
    clear hn R
    unfold Par.ptr
    go_enter Tryd.func36, Tryd.ntmps36
    go_wp2
    go_quiet (fail)
    have HF : Hid (Fr c w (w.drewN nq)) := Keep.drewN (Fr.refl c w) nq
    go_wp2
    go_end0
    exact ⟨HF.out, rfl⟩
end Go.Proofs.YtjpmdafaaonpoaaDoor

namespace Go.Proofs.YtjpmdafaaonpoaaDoor
open Go.RowKit
set_option linter.unusedVariables false

/-- How many bytes are gone over: of blanks, or within a remark. -/
def sk : Bool → List UInt8 → Nat
  | _, [] => 0
  | true, c :: r => if c = 10 then 1 + sk false r else 1 + sk true r
  | false, c :: r => if blankB (c.toNat : Int) = true then 1 + sk false r else if c = 47 ∧ r.head? = some 47 then 1 + sk true r else 0
theorem feed_not {c : UInt8} (h : ¬ c = 10) : feedB (c.toNat : Int) = true := by
  unfold feedB
  exact b_t (fun e => h (u8_int.1 (by simpa using e)))
theorem feed_no : feedB ((10 : UInt8).toNat : Int) = false := by decide
theorem sk_true : ∀ l : List UInt8, sk true l = spanN feedB l + sk false (l.drop (spanN feedB l))
  | [] => rfl
  | c :: r => by
    have k := sk_true r
    by_cases hc : c = 10
    · subst hc
      have e : spanN feedB (10 :: r) = 0 := by simp only [spanN]; rw [if_neg (by rw [feed_no]; decide)]
      rw [e, List.drop_zero]
      have hb : blankB ((10 : UInt8).toNat : Int) = true := by decide
      simp only [sk]
      rw [if_pos hb]
      simp
    · have e : spanN feedB (c :: r) = spanN feedB r + 1 := by simp only [spanN]; rw [if_pos (feed_not hc)]
      rw [e, List.drop_succ_cons]
      simp only [sk]
      rw [if_neg hc]
      omega
theorem pass_sk : ∀ (n : Nat) (l : List UInt8), l.length ≤ n → passN l = sk false l
  | _, [], _ => rfl
  | 0, c :: r, h => by simp at h
  | n + 1, c :: r, h => by
    simp only [List.length_cons] at h
    by_cases hb : blankB (c.toNat : Int) = true
    · rw [pass_cons c r hb, pass_sk n r (by omega)]
      simp only [sk]
      rw [if_pos hb]
    · have hb' : blankB (c.toNat : Int) = false := by simpa using hb
      by_cases hp : Lib.hasPrefix (c :: r) slashes = true
      · have hc : c = 47 ∧ r.head? = some 47 := by
          cases r with
          | nil => rw [prefix_one] at hp; cases hp
          | cons d r => rw [prefix_two] at hp; simpa using hp
        have h10 : ¬ c = 10 := by rw [hc.1]; decide
        have e1 : spanN feedB (c :: r) = spanN feedB r + 1 := by simp only [spanN]; rw [if_pos (feed_not h10)]
        rw [pass_remark hp, pass_sk n _ (by rw [e1]; simp; omega), ← sk_true]
        simp only [sk]
        rw [if_neg h10, if_neg hb, if_pos hc]
      · have hp' : Lib.hasPrefix (c :: r) slashes = false := by simpa using hp
        rw [pass_none rfl hp' hb']
        simp only [sk]
        rw [if_neg hb, if_neg]
        rintro ⟨h1, h2⟩
        cases r with
        | nil => cases h2
        | cons d r =>
          have : d = 47 := by simpa using h2
          rw [h1, this, prefix_two] at hp'
          revert hp'; decide
theorem passN_sk (l : List UInt8) : passN l = sk false l := pass_sk _ l (Nat.le_refl _)
theorem sk_le : ∀ (b : Bool) (l : List UInt8), sk b l ≤ l.length
  | b, [] => by cases b <;> exact Nat.le_refl _
  | true, c :: r => by
    have := sk_le true r
    have := sk_le false r
    simp only [sk, List.length_cons]; split <;> omega
  | false, c :: r => by
    have := sk_le true r
    have := sk_le false r
    simp only [sk, List.length_cons]; split <;> (try split) <;> omega
/-- Where the going stops within a text, it stops whatever stands behind (but for a stroke). -/
theorem sk_in : ∀ (b : Bool) (p X Y : List UInt8), sk b (p ++ X) < p.length → ¬ Y.head? = some 47 → sk b (p ++ Y) = sk b (p ++ X)
  | _, [], _, _, h, _ => by simp at h
  | true, c :: p, X, Y, h, hy => by
    simp only [List.cons_append, sk, List.length_cons] at h ⊢
    split
    · rename_i hc; rw [if_pos hc] at h; rw [sk_in false p X Y (by omega) hy]
    · rename_i hc; rw [if_neg hc] at h; rw [sk_in true p X Y (by omega) hy]
  | false, c :: p, X, Y, h, hy => by
    simp only [List.cons_append, sk, List.length_cons] at h ⊢
    by_cases hb : blankB (c.toNat : Int) = true
    · rw [if_pos hb] at h; rw [if_pos hb, if_pos hb, sk_in false p X Y (by omega) hy]
    · rw [if_neg hb] at h; rw [if_neg hb, if_neg hb]
      cases p with
      | nil =>
        simp only [List.nil_append, List.length_nil] at h ⊢
        by_cases h1 : c = 47 ∧ X.head? = some 47
        · rw [if_pos h1] at h; omega
        · rw [if_neg h1, if_neg (fun h2 => hy h2.2)]
      | cons d p =>
        have k : ∀ Z, (c = 47 ∧ (d :: p ++ Z).head? = some 47) ↔ (c = 47 ∧ d = 47) := fun Z => by simp
        by_cases h1 : c = 47 ∧ d = 47
        · rw [if_pos ((k X).2 h1)] at h
          rw [if_pos ((k X).2 h1), if_pos ((k Y).2 h1)]
          rw [sk_in true (d :: p) X Y (by omega) hy]
        · rw [if_neg (fun h2 => h1 ((k X).1 h2)), if_neg (fun h2 => h1 ((k Y).1 h2))]
/-- A text that is gone over whole, and no more: so it is whatever stands behind. -/
theorem sk_over : ∀ (b : Bool) (p X : List UInt8), sk b (p ++ X) = p.length → ∃ b', sk b' X = 0 ∧ ∀ Y, sk b (p ++ Y) = p.length + sk b' Y
  | b, [], X, h => ⟨b, by simpa using h, fun Y => by simp⟩
  | true, c :: p, X, h => by
    simp only [List.cons_append, sk, List.length_cons] at h ⊢
    by_cases hc : c = 10
    · rw [if_pos hc] at h
      obtain ⟨b', h1, h2⟩ := sk_over false p X (by omega)
      exact ⟨b', h1, fun Y => by rw [if_pos hc, h2 Y]; omega⟩
    · rw [if_neg hc] at h
      obtain ⟨b', h1, h2⟩ := sk_over true p X (by omega)
      exact ⟨b', h1, fun Y => by rw [if_neg hc, h2 Y]; omega⟩
  | false, c :: p, X, h => by
    simp only [List.cons_append, sk, List.length_cons] at h ⊢
    by_cases hb : blankB (c.toNat : Int) = true
    · rw [if_pos hb] at h
      obtain ⟨b', h1, h2⟩ := sk_over false p X (by omega)
      exact ⟨b', h1, fun Y => by rw [if_pos hb, h2 Y]; omega⟩
    · rw [if_neg hb] at h
      by_cases h1 : c = 47 ∧ (p ++ X).head? = some 47
      · rw [if_pos h1] at h
        obtain ⟨b', h2, h3⟩ := sk_over true p X (by omega)
        cases p with
        | nil =>
          exfalso
          cases X with
          | nil => simp at h1
          | cons x X =>
            have e : x = 47 := by simpa using h1.2
            subst e
            simp [sk] at h
        | cons d p =>
          refine ⟨b', h2, fun Y => ?_⟩
          have k : ∀ Z, (c = 47 ∧ (d :: p ++ Z).head? = some 47) ↔ (c = 47 ∧ d = 47) := fun Z => by simp
          rw [if_neg hb, if_pos ((k Y).2 ((k X).1 h1)), h3 Y]; omega
      · rw [if_neg h1] at h; omega
/-- The token at a text's beginning: its kind, its length, its word; or the fault. -/
structure Nx where
  kind : Int
  n : Nat
  wd : Int
  fa : Nat
  fr : Int
def letterH : List UInt8 → Bool
  | [] => false
  | c :: _ => letterB (c.toNat : Int)
def nameL (l : List UInt8) : Nx :=
  if wordL (l.take (spanN namedB l)) = true then ⟨2, spanN namedB l, 0, 0, 0⟩ else if 32 < spanN namedB l then ⟨0, 0, 0, 32, 2⟩ else ⟨1, spanN namedB l, 0, 0, 0⟩
def numK (n : Nat) (b : Bool) : Option Int → Nx
  | none => ⟨0, 0, 0, 0, 3⟩
  | some v => if b = true then ⟨0, 0, 0, n, 4⟩ else ⟨3, n, v, 0, 0⟩
def numL (l : List UInt8) : Nx := numK (spanN digitB l) (letterH (l.drop (spanN digitB l))) (valueO (l.take (spanN digitB l)))
def nextL : List UInt8 → Nx
  | [] => ⟨0, 0, 0, 0, 1⟩
  | c :: r => if letterB (c.toNat : Int) = true then nameL (c :: r) else if digitB (c.toNat : Int) = true then numL (c :: r) else if signB (c.toNat : Int) = true then ⟨4, aheadN (c :: r), 0, 0, 0⟩ else ⟨0, 0, 0, 0, 1⟩
def toRes (q : Nat) (l : List UInt8) (x : Nx) : Res := if x.fr = 0 then ⟨x.kind, ⟨(l.take x.n).toArray⟩, x.wd, q, 0, 0⟩ else ⟨0, ⟨#[]⟩, 0, 0, ((q + x.fa : Nat) : Int), x.fr⟩
theorem cut_list (s : ByteArray) (q n : Nat) : (s.extract q s.size).extract 0 n = ⟨((bytesFrom s q).take n).toArray⟩ := by
  apply ByteArray.ext
  apply Array.ext'
  rw [Lib.extract_data, tail_list]
  simp
theorem behind_list (s : ByteArray) (q : Nat) : behindB s q = letterH ((bytesFrom s q).drop (spanN digitB (bytesFrom s q))) := by
  unfold behindB
  rw [from_drop]
  by_cases h : q + spanN digitB (bytesFrom s q) < s.size
  · rw [from_at s _ h, decide_eq_true h, Bool.true_and, ← bt_byte s _ h]; rfl
  · rw [decide_eq_false h, Bool.false_and, from_end s _ (by omega)]; rfl
theorem nextR_list (s : ByteArray) (q : Nat) (hq : q < s.size) : nextR s q = toRes q (bytesFrom s q) (nextL (bytesFrom s q)) := by
  have hl := from_len s q
  have hle := spanN_le namedB (bytesFrom s q)
  have e : nextL (bytesFrom s q) = if letterB (PlainAid.bt s q) = true then nameL (bytesFrom s q) else if digitB (PlainAid.bt s q) = true then numL (bytesFrom s q) else if signB (PlainAid.bt s q) = true then ⟨4, aheadN (bytesFrom s q), 0, 0, 0⟩ else ⟨0, 0, 0, 0, 1⟩ := by
    rw [← bt_byte s q hq, from_at s q hq]; rfl
  rw [e]
  unfold nextR
  split
  · have hz : (nameX s q).size = spanN namedB (bytesFrom s q) := extract_size s q _ (by omega) (by omega)
    have hx : nameX s q = ⟨((bytesFrom s q).take (spanN namedB (bytesFrom s q))).toArray⟩ := cut_list s q _
    unfold nameR nameL
    rw [wordB_list, Lib.toList_data, hz, hx]
    by_cases h1 : wordL ((bytesFrom s q).take (spanN namedB (bytesFrom s q))) = true
    · rw [if_pos h1, if_pos h1]; rfl
    · rw [if_neg h1, if_neg h1]
      by_cases h2 : 32 < spanN namedB (bytesFrom s q)
      · rw [if_pos h2, if_pos h2]; rfl
      · rw [if_neg h2, if_neg h2]; rfl
  · split
    · have hx : numX s q = ⟨((bytesFrom s q).take (spanN digitB (bytesFrom s q))).toArray⟩ := cut_list s q _
      unfold numR numL
      rw [← behind_list, hx]
      cases hv : valueO ((bytesFrom s q).take (spanN digitB (bytesFrom s q))) with
      | none => rfl
      | some v =>
        simp only [numC, numK]
        by_cases hb : behindB s q = true
        · rw [if_pos hb, if_pos hb]; rfl
        · rw [if_neg hb, if_neg hb]; rfl
    · split
      · have hx : signX s q = ⟨((bytesFrom s q).take (aheadN (bytesFrom s q))).toArray⟩ := cut_list s q _
        unfold signR
        rw [hx]; rfl
      · rfl
theorem ahead_pos {c : UInt8} {r : List UInt8} (h : signB (c.toNat : Int) = true) : 0 < aheadN (c :: r) := by
  unfold aheadN
  split
  · omega
  · simp only [firstN]; rw [if_pos h]; omega
/-- A token has a byte at least, and stands within its text. -/
theorem nextL_good (l : List UInt8) (h : (nextL l).fr = 0) : 0 < (nextL l).n ∧ (nextL l).n ≤ l.length := by
  cases l with
  | nil => simp [nextL] at h
  | cons c r =>
    simp only [nextL] at h ⊢
    split at h
    · rename_i h0
      rw [if_pos h0]
      have hp : 0 < spanN namedB (c :: r) := span_pos (by unfold namedB; rw [h0]; rfl)
      have hl := spanN_le namedB (c :: r)
      unfold nameL at h ⊢
      split
      · exact ⟨hp, hl⟩
      · rename_i hw
        rw [if_neg hw] at h
        split
        · rename_i h3; rw [if_pos h3] at h; simp at h
        · exact ⟨hp, hl⟩
    · rename_i h0
      rw [if_neg h0]
      split at h
      · rename_i h1
        rw [if_pos h1]
        have hp : 0 < spanN digitB (c :: r) := span_pos h1
        have hl := spanN_le digitB (c :: r)
        unfold numL at h ⊢
        cases hv : valueO ((c :: r).take (spanN digitB (c :: r))) with
        | none => rw [hv] at h; simp [numK] at h
        | some v =>
          rw [hv] at h
          simp only [numK] at h ⊢
          split
          · rename_i hb; rw [if_pos hb] at h; simp at h
          · exact ⟨hp, hl⟩
      · rename_i h1
        rw [if_neg h1]
        split at h
        · rename_i h2
          rw [if_pos h2]
          exact ⟨ahead_pos h2, ahead_le _⟩
        · simp at h
/-- The tokens of a text that begins with one, from a place on, up to the first fault; and that. -/
def goL : Nat → Nat → List UInt8 → List Res × Int × Int
  | 0, _, _ => ([], 0, 0)
  | f + 1, q, l => if l = [] then ([], 0, 0) else if (nextL l).fr = 0 then
      (toRes q l (nextL l) :: (goL f (q + (nextL l).n + sk false (l.drop (nextL l).n)) ((l.drop (nextL l).n).drop (sk false (l.drop (nextL l).n)))).1, (goL f (q + (nextL l).n + sk false (l.drop (nextL l).n)) ((l.drop (nextL l).n).drop (sk false (l.drop (nextL l).n)))).2)
    else ([], ((q + (nextL l).fa : Nat) : Int), (nextL l).fr)
theorem toRes_fr (q : Nat) (l : List UInt8) : (toRes q l (nextL l)).fr = (nextL l).fr := by
  unfold toRes; split
  · rename_i h; exact h.symm
  · rfl
theorem goH_list (s : ByteArray) : ∀ (f q : Nat), goH s f q = goL f q (bytesFrom s q)
  | 0, q => rfl
  | f + 1, q => by
    by_cases hq : q < s.size
    · have hne : ¬ bytesFrom s q = [] := by rw [from_at s q hq]; simp
      have hR := nextR_list s q hq
      simp only [goL]
      rw [if_neg hne]
      by_cases hf : (nextL (bytesFrom s q)).fr = 0
      · have hf' : (nextR s q).fr = 0 := by rw [hR, toRes_fr]; exact hf
        obtain ⟨_, g2⟩ := nextL_good _ hf
        have hz : (nextR s q).text.size = (nextL (bytesFrom s q)).n := by
          rw [hR]; unfold toRes; rw [if_pos hf]
          show (((bytesFrom s q).take _).toArray).size = _
          simp; omega
        have e : nx s q = q + (nextL (bytesFrom s q)).n + sk false ((bytesFrom s q).drop (nextL (bytesFrom s q)).n) := by
          unfold nx; rw [hz, passN_sk, from_drop]
        rw [goH_tok hq hf', if_pos hf, goH_list s f (nx s q), ← hR, e, from_drop, from_drop]
      · have hf' : ¬ (nextR s q).fr = 0 := by rw [hR, toRes_fr]; exact hf
        rw [goH_fault hq hf', if_neg hf, hR]
        unfold toRes
        rw [if_neg hf]
    · rw [goH_end hq, from_end s q (by omega)]
      simp [goL]
theorem goL_more : ∀ (f g q : Nat) (l : List UInt8), l.length < f → l.length < g → goL f q l = goL g q l
  | 0, _, _, _, h, _ => absurd h (Nat.not_lt_zero _)
  | _, 0, _, _, _, h => absurd h (Nat.not_lt_zero _)
  | f + 1, g + 1, q, l, hf, hg => by
    simp only [goL]
    by_cases h0 : l = []
    · rw [if_pos h0, if_pos h0]
    · rw [if_neg h0, if_neg h0]
      by_cases h1 : (nextL l).fr = 0
      · obtain ⟨g1, g2⟩ := nextL_good _ h1
        rw [if_pos h1, if_pos h1, goL_more f g _ _ (by simp; omega) (by simp; omega)]
      · rw [if_neg h1, if_neg h1]
def lexL (q : Nat) (l : List UInt8) : List Res × Int × Int := goL (l.length + 1) q l
theorem lexL_nil (q : Nat) : lexL q [] = ([], 0, 0) := rfl
theorem lexL_fault {q : Nat} {l : List UInt8} (h0 : ¬ l = []) (h : ¬ (nextL l).fr = 0) : lexL q l = ([], ((q + (nextL l).fa : Nat) : Int), (nextL l).fr) := by
  unfold lexL; simp only [goL]; rw [if_neg h0, if_neg h]
theorem lexL_tok {q : Nat} {l : List UInt8} (h : (nextL l).fr = 0) : lexL q l = (toRes q l (nextL l) :: (lexL (q + (nextL l).n + sk false (l.drop (nextL l).n)) ((l.drop (nextL l).n).drop (sk false (l.drop (nextL l).n)))).1, (lexL (q + (nextL l).n + sk false (l.drop (nextL l).n)) ((l.drop (nextL l).n).drop (sk false (l.drop (nextL l).n)))).2) := by
  obtain ⟨g1, g2⟩ := nextL_good _ h
  have h0 : ¬ l = [] := by rintro rfl; simp at g2; omega
  unfold lexL
  conv => lhs; simp only [goL]
  rw [if_neg h0, if_pos h, goL_more l.length _ _ _ (by simp; omega) (Nat.lt_succ_self _)]
theorem goL_clean : ∀ (f q : Nat) (l : List UInt8), (goL f q l).2.2 = 0 → (goL f q l).2.1 = 0
  | 0, _, _, _ => rfl
  | f + 1, q, l, h => by
    simp only [goL] at h ⊢
    split
    · rfl
    · rename_i h0
      rw [if_neg h0] at h
      split
      · rename_i h1
        rw [if_pos h1] at h
        exact goL_clean f _ _ h
      · rename_i h1
        rw [if_neg h1] at h
        exact absurd h h1
/-- The tokens of a text from a place on, blanks and remarks ahead; the first fault. -/
def restL (e : Nat) (l : List UInt8) : List Res × Int × Int := lexL (e + sk false l) (l.drop (sk false l))
theorem front_list (s : ByteArray) : frontR s = restL 0 s.data.toList := by
  unfold frontR restL lexL
  have hz : s.size = s.data.toList.length := by simp
  rw [passN_sk, from_nought, goH_list, Nat.zero_add]
  have e : bytesFrom s (sk false s.data.toList) = s.data.toList.drop (sk false s.data.toList) := rfl
  rw [e]
  exact goL_more _ _ _ _ (by rw [List.length_drop]; omega) (Nat.lt_succ_self _)
theorem rest_nil {e : Nat} {l : List UInt8} (h : l.drop (sk false l) = []) : restL e l = ([], 0, 0) := by
  unfold restL; rw [h]; rfl
theorem rest_fault {e : Nat} {l m : List UInt8} (hm : l.drop (sk false l) = m) (h0 : ¬ m = []) (h : ¬ (nextL m).fr = 0) : restL e l = ([], ((e + sk false l + (nextL m).fa : Nat) : Int), (nextL m).fr) := by
  unfold restL; rw [hm, lexL_fault h0 h]
theorem rest_tok {e : Nat} {l m : List UInt8} (hm : l.drop (sk false l) = m) (h : (nextL m).fr = 0) : restL e l = (toRes (e + sk false l) m (nextL m) :: (restL (e + sk false l + (nextL m).n) (m.drop (nextL m).n)).1, (restL (e + sk false l + (nextL m).n) (m.drop (nextL m).n)).2) := by
  unfold restL; rw [hm, lexL_tok h]
end Go.Proofs.YtjpmdafaaonpoaaDoor

namespace Go.Proofs.YtjpmdafaaonpoaaDoor
set_option linter.unusedVariables false
theorem digitsV_in : ∀ (l : List UInt8) (v z : Int), 0 ≤ v → v ≤ 9223372036854775807 → digitsV l v = some z → 0 ≤ z ∧ z ≤ 9223372036854775807
  | [], v, z, h0, h1, h => by
    simp only [digitsV, Option.some.injEq] at h
    omega
  | c :: r, v, z, h0, h1, h => by
    simp only [digitsV] at h
    split at h
    · cases h
    · rename_i hd
      split at h
      · cases h
      · rename_i hv
        have hd : 48 ≤ (c.toNat : Int) ∧ (c.toNat : Int) ≤ 57 := by
          have : digitB (c.toNat : Int) = true := by simpa using hd
          unfold digitB at this
          simpa using this
        have hv2 : v ≤ (9223372036854775807 - ((c.toNat : Int) - 48)) / 10 := by omega
        exact digitsV_in r _ z (by omega) (by omega) h
theorem valueO_in {l : List UInt8} {z : Int} (h : valueO l = some z) : 0 ≤ z ∧ z ≤ 9223372036854775807 := by
  cases l with
  | nil => simp [valueO] at h
  | cons c r =>
    simp only [valueO] at h
    split at h
    · cases h
    · exact digitsV_in _ 0 z (by decide) (by decide) h
theorem nextL_wd (l : List UInt8) : 0 ≤ (nextL l).wd ∧ (nextL l).wd ≤ 9223372036854775807 := by
  cases l with
  | nil => exact ⟨Int.le_refl 0, (by decide : (0 : Int) ≤ 9223372036854775807)⟩
  | cons c r =>
    rw [show nextL (c :: r) = if letterB (c.toNat : Int) = true then nameL (c :: r) else if digitB (c.toNat : Int) = true then numL (c :: r) else if signB (c.toNat : Int) = true then ⟨4, aheadN (c :: r), 0, 0, 0⟩ else ⟨0, 0, 0, 0, 1⟩ from rfl]
    by_cases h1 : letterB (c.toNat : Int) = true
    · rw [if_pos h1]
      unfold nameL
      by_cases h2 : wordL ((c :: r).take (spanN namedB (c :: r))) = true
      · rw [if_pos h2]; exact ⟨Int.le_refl 0, (by decide : (0 : Int) ≤ 9223372036854775807)⟩
      · rw [if_neg h2]
        by_cases h3 : 32 < spanN namedB (c :: r)
        · rw [if_pos h3]; exact ⟨Int.le_refl 0, (by decide : (0 : Int) ≤ 9223372036854775807)⟩
        · rw [if_neg h3]; exact ⟨Int.le_refl 0, (by decide : (0 : Int) ≤ 9223372036854775807)⟩
    · rw [if_neg h1]
      by_cases h2 : digitB (c.toNat : Int) = true
      · rw [if_pos h2]
        unfold numL
        cases hv : valueO ((c :: r).take (spanN digitB (c :: r))) with
        | none => exact ⟨Int.le_refl 0, (by decide : (0 : Int) ≤ 9223372036854775807)⟩
        | some z =>
          simp only [numK]
          split
          · exact ⟨Int.le_refl 0, (by decide : (0 : Int) ≤ 9223372036854775807)⟩
          · exact valueO_in hv
      · rw [if_neg h2]
        split <;> exact ⟨Int.le_refl 0, (by decide : (0 : Int) ≤ 9223372036854775807)⟩
theorem toRes_wd (q : Nat) (l : List UInt8) : 0 ≤ (toRes q l (nextL l)).wd ∧ (toRes q l (nextL l)).wd ≤ 9223372036854775807 := by
  unfold toRes
  split
  · exact nextL_wd l
  · simp
theorem goL_wd : ∀ (f q : Nat) (l : List UInt8), ∀ x ∈ (goL f q l).1, 0 ≤ x.wd ∧ x.wd ≤ 9223372036854775807
  | 0, q, l, x, hx => by simp [goL] at hx
  | f + 1, q, l, x, hx => by
    simp only [goL] at hx
    split at hx
    · simp at hx
    · split at hx
      · rcases List.mem_cons.1 hx with rfl | hx
        · exact toRes_wd q l
        · exact goL_wd f _ _ x hx
      · simp at hx
theorem scanX_wd (s : ByteArray) : ∀ x ∈ (scanX s).1, 0 ≤ x.wd ∧ x.wd ≤ 9223372036854775807 := by
  unfold scanX
  split
  · simp
  · split
    · rw [front_list]
      exact goL_wd _ _ _
    · simp
end Go.Proofs.YtjpmdafaaonpoaaDoor

namespace Go.Proofs.YtjpmdafaaonpoaaDoor
open Go.RowKit
set_option linter.unusedVariables false
theorem alloc_put (W : World) (o o' : Obj) : putB (W.alloc o) W.heap.size o' = W.alloc o' := by
  have : (W.heap.push o).setIfInBounds W.heap.size o' = W.heap.push o' := by
    apply Array.ext'
    simp [Array.toList_setIfInBounds]
  unfold putB World.alloc
  rw [this]
theorem size_setRow (W : World) (g : Nat) (cs : Array Value) : (W.setRow g cs).heap.size = W.heap.size := by
  simp [World.setRow]
theorem Below.of_row {B : Nat} {a W : World} (h : Below B a W) {g : Nat} (hg : B ≤ g) (cs : Array Value) : Below B a (W.setRow g cs) :=
  ⟨h.os, h.tape, h.output, by rw [size_setRow]; exact h.size, fun k hk => (setRow_other cs (by omega)).trans (h.block k hk)⟩
theorem ins_new {P : Program} {W : World} {t k e : TypeId} (ht : P.underlying t = some (.map k e)) (hk : P.underlying k = some .string) (es : Array MapEntry) (clock : Nat) (s : ByteArray) (v : Value)
    (hf : Instr.findNow .string (.string s) es.toList 0 = some none) :
    (Instr.mapUpdate t (.map (some W.heap.size)) (.string s) v).run P (W.alloc (.map es clock)) = .ok () (W.alloc (.map (es.push ⟨.string s, v, clock⟩) (clock + 1))) := by
  rw [run_ins ht hk (World.alloc_heap_new W _) s v hf, alloc_put]
/-- What a text's reader is. -/
def newC (w : World) (ta : Option Addr) (cap : Nat) (toks : List Res) (L : Nat) : Par := ⟨w.heap.size, ta, cap, toks, L, w.heap.size + 1, w.heap.size + 2, w.heap.size + 3, w.heap.size + 4, w.heap.size + 6⟩
set_option maxRecDepth 100000 in
set_option maxHeartbeats 4000000 in
theorem p_new {w : World} {ta : Option Addr} {cap : Nat} {toks : List Res} {L : Nat} (ht : TokRow w (.slice ta toks.length cap) toks) (hlt : ∀ g off, ta = some ⟨g, off, none⟩ → g < w.heap.size) (T : Tabs w) (hs : toks.length ≤ 65536 ∧ L ≤ 65536 ∧ ∀ x ∈ toks, 0 ≤ x.wd ∧ x.wd ≤ 9223372036854775807) :
    Calls Tryd.prog 35 #[.slice ta toks.length cap, .int .i64 (L : Int)] w fun e w' => e = .returned (newC w ta cap toks L).ptr ∧ Below w.heap.size w w' ∧ Rd (newC w ta cap toks L) w' 0 := by
  obtain ⟨n, hn⟩ : ∃ n, n = toks.length := ⟨_, rfl⟩
  rw [← hn]
  have HT := Lib.hid (And.intro ht (And.intro hlt (And.intro T hs)))
  have HN := Lib.hid hn
  clear ht hlt T hs hn
  have hmm := @run_makeMap Tryd.prog
  go_enter Tryd.func35, Tryd.ntmps35
  go_upto_region 2 with (fail)
  have O1 := Own.new w 99 #[.slice ta n cap, .int .i64 (L : Int), .int .i64 0, .map none, .map none, .map none]
  have B1 := (Below.refl w.heap.size w).alloc (Nat.le_refl _) (.cells #[.slice ta n cap, .int .i64 (L : Int), .int .i64 0, .map none, .map none, .map none] 99)
  have z1 : (w.alloc (.cells #[.slice ta n cap, .int .i64 (L : Int), .int .i64 0, .map none, .map none, .map none] 99)).heap.size ≤ w.heap.size + 1 ∧ w.heap.size + 1 ≤ (w.alloc (.cells #[.slice ta n cap, .int .i64 (L : Int), .int .i64 0, .map none, .map none, .map none] 99)).heap.size := by rw [World.size_alloc w (.cells #[.slice ta n cap, .int .i64 (L : Int), .int .i64 0, .map none, .map none, .map none] 99)]; omega
  obtain ⟨W1, hW1⟩ : ∃ W1, W1 = w.alloc (.cells #[.slice ta n cap, .int .i64 (L : Int), .int .i64 0, .map none, .map none, .map none] 99) := ⟨_, rfl⟩
  rw [← hW1] at O1 B1 z1 ⊢
  clear hW1
  have hI0 : (Instr.mapUpdate 95 (.map (some W1.heap.size)) (.string ⟨#[115, 104, 97, 114, 101, 100]⟩) (.func (.func 52) #[.pointer (some ⟨w.heap.size, 0, none⟩)] #[])).run Tryd.prog (W1.alloc (.map #[] 0)) = .ok () (W1.alloc (.map #[⟨.string ⟨#[115, 104, 97, 114, 101, 100]⟩, .func (.func 52) #[.pointer (some ⟨w.heap.size, 0, none⟩)] #[], 0⟩] 1)) := ins_new Tryd.underlying95 Tryd.underlying9 #[] 0 ⟨#[115, 104, 97, 114, 101, 100]⟩ (.func (.func 52) #[.pointer (some ⟨w.heap.size, 0, none⟩)] #[]) (by kernel_rfl)
  have hI1 : (Instr.mapUpdate 95 (.map (some W1.heap.size)) (.string ⟨#[108, 111, 99, 107]⟩) (.func (.func 53) #[.pointer (some ⟨w.heap.size, 0, none⟩)] #[])).run Tryd.prog (W1.alloc (.map #[⟨.string ⟨#[115, 104, 97, 114, 101, 100]⟩, .func (.func 52) #[.pointer (some ⟨w.heap.size, 0, none⟩)] #[], 0⟩] 1)) = .ok () (W1.alloc (.map #[⟨.string ⟨#[115, 104, 97, 114, 101, 100]⟩, .func (.func 52) #[.pointer (some ⟨w.heap.size, 0, none⟩)] #[], 0⟩, ⟨.string ⟨#[108, 111, 99, 107]⟩, .func (.func 53) #[.pointer (some ⟨w.heap.size, 0, none⟩)] #[], 1⟩] 2)) := ins_new Tryd.underlying95 Tryd.underlying9 #[⟨.string ⟨#[115, 104, 97, 114, 101, 100]⟩, .func (.func 52) #[.pointer (some ⟨w.heap.size, 0, none⟩)] #[], 0⟩] 1 ⟨#[108, 111, 99, 107]⟩ (.func (.func 53) #[.pointer (some ⟨w.heap.size, 0, none⟩)] #[]) (by kernel_rfl)
  have Q1 := O1.alloc (.map #[⟨.string ⟨#[115, 104, 97, 114, 101, 100]⟩, .func (.func 52) #[.pointer (some ⟨w.heap.size, 0, none⟩)] #[], 0⟩, ⟨.string ⟨#[108, 111, 99, 107]⟩, .func (.func 53) #[.pointer (some ⟨w.heap.size, 0, none⟩)] #[], 1⟩] 2)
  have c1 : (W1.alloc (.map #[⟨.string ⟨#[115, 104, 97, 114, 101, 100]⟩, .func (.func 52) #[.pointer (some ⟨w.heap.size, 0, none⟩)] #[], 0⟩, ⟨.string ⟨#[108, 111, 99, 107]⟩, .func (.func 53) #[.pointer (some ⟨w.heap.size, 0, none⟩)] #[], 1⟩] 2)).cell? ⟨w.heap.size, 3, none⟩ = some (.map none) := by rw [cell_of_row _ w.heap.size 3 _ _ _ Q1]; rfl
  have f1 := own_frozen Q1 3
  go_upto_region 3 with (fail)
  have E1 : (W1.alloc (.map #[⟨.string ⟨#[115, 104, 97, 114, 101, 100]⟩, .func (.func 52) #[.pointer (some ⟨w.heap.size, 0, none⟩)] #[], 0⟩, ⟨.string ⟨#[108, 111, 99, 107]⟩, .func (.func 53) #[.pointer (some ⟨w.heap.size, 0, none⟩)] #[], 1⟩] 2)).setCell ⟨w.heap.size, 3, none⟩ (.map (some W1.heap.size)) = (W1.alloc (.map #[⟨.string ⟨#[115, 104, 97, 114, 101, 100]⟩, .func (.func 52) #[.pointer (some ⟨w.heap.size, 0, none⟩)] #[], 0⟩, ⟨.string ⟨#[108, 111, 99, 107]⟩, .func (.func 53) #[.pointer (some ⟨w.heap.size, 0, none⟩)] #[], 1⟩] 2)).setRow w.heap.size #[.slice ta n cap, .int .i64 (L : Int), .int .i64 0, .map (some W1.heap.size), .map none, .map none] := setCell_row Q1 3 _
  rw [E1]
  clear E1
  have O2 := Q1.row #[.slice ta n cap, .int .i64 (L : Int), .int .i64 0, .map (some W1.heap.size), .map none, .map none]
  have M1 : ((W1.alloc (.map #[⟨.string ⟨#[115, 104, 97, 114, 101, 100]⟩, .func (.func 52) #[.pointer (some ⟨w.heap.size, 0, none⟩)] #[], 0⟩, ⟨.string ⟨#[108, 111, 99, 107]⟩, .func (.func 53) #[.pointer (some ⟨w.heap.size, 0, none⟩)] #[], 1⟩] 2)).setRow w.heap.size #[.slice ta n cap, .int .i64 (L : Int), .int .i64 0, .map (some W1.heap.size), .map none, .map none]).heap[W1.heap.size]? = some (.map #[⟨.string ⟨#[115, 104, 97, 114, 101, 100]⟩, .func (.func 52) #[.pointer (some ⟨w.heap.size, 0, none⟩)] #[], 0⟩, ⟨.string ⟨#[108, 111, 99, 107]⟩, .func (.func 53) #[.pointer (some ⟨w.heap.size, 0, none⟩)] #[], 1⟩] 2) := (setRow_other _ (by omega)).trans (World.alloc_heap_new W1 _)
  have B2 := Below.of_row (B1.alloc (by omega) (.map #[⟨.string ⟨#[115, 104, 97, 114, 101, 100]⟩, .func (.func 52) #[.pointer (some ⟨w.heap.size, 0, none⟩)] #[], 0⟩, ⟨.string ⟨#[108, 111, 99, 107]⟩, .func (.func 53) #[.pointer (some ⟨w.heap.size, 0, none⟩)] #[], 1⟩] 2)) (Nat.le_refl _) #[.slice ta n cap, .int .i64 (L : Int), .int .i64 0, .map (some W1.heap.size), .map none, .map none]
  have z2 : ((W1.alloc (.map #[⟨.string ⟨#[115, 104, 97, 114, 101, 100]⟩, .func (.func 52) #[.pointer (some ⟨w.heap.size, 0, none⟩)] #[], 0⟩, ⟨.string ⟨#[108, 111, 99, 107]⟩, .func (.func 53) #[.pointer (some ⟨w.heap.size, 0, none⟩)] #[], 1⟩] 2)).setRow w.heap.size #[.slice ta n cap, .int .i64 (L : Int), .int .i64 0, .map (some W1.heap.size), .map none, .map none]).heap.size ≤ W1.heap.size + 1 ∧ W1.heap.size + 1 ≤ ((W1.alloc (.map #[⟨.string ⟨#[115, 104, 97, 114, 101, 100]⟩, .func (.func 52) #[.pointer (some ⟨w.heap.size, 0, none⟩)] #[], 0⟩, ⟨.string ⟨#[108, 111, 99, 107]⟩, .func (.func 53) #[.pointer (some ⟨w.heap.size, 0, none⟩)] #[], 1⟩] 2)).setRow w.heap.size #[.slice ta n cap, .int .i64 (L : Int), .int .i64 0, .map (some W1.heap.size), .map none, .map none]).heap.size := by rw [(size_setRow (W1.alloc (.map #[⟨.string ⟨#[115, 104, 97, 114, 101, 100]⟩, .func (.func 52) #[.pointer (some ⟨w.heap.size, 0, none⟩)] #[], 0⟩, ⟨.string ⟨#[108, 111, 99, 107]⟩, .func (.func 53) #[.pointer (some ⟨w.heap.size, 0, none⟩)] #[], 1⟩] 2)) w.heap.size #[.slice ta n cap, .int .i64 (L : Int), .int .i64 0, .map (some W1.heap.size), .map none, .map none]).trans (World.size_alloc _ _)]; omega
  obtain ⟨W2, hW2⟩ : ∃ W, W = (W1.alloc (.map #[⟨.string ⟨#[115, 104, 97, 114, 101, 100]⟩, .func (.func 52) #[.pointer (some ⟨w.heap.size, 0, none⟩)] #[], 0⟩, ⟨.string ⟨#[108, 111, 99, 107]⟩, .func (.func 53) #[.pointer (some ⟨w.heap.size, 0, none⟩)] #[], 1⟩] 2)).setRow w.heap.size #[.slice ta n cap, .int .i64 (L : Int), .int .i64 0, .map (some W1.heap.size), .map none, .map none] := ⟨_, rfl⟩
  rw [← hW2] at O2 M1 B2 z2 ⊢
  clear hW2 Q1 c1 f1 hI0 hI1 O1 B1
  have hI0 : (Instr.mapUpdate 96 (.map (some W2.heap.size)) (.string ⟨#[105, 102]⟩) (.func (.func 54) #[.pointer (some ⟨w.heap.size, 0, none⟩)] #[])).run Tryd.prog (W2.alloc (.map #[] 0)) = .ok () (W2.alloc (.map #[⟨.string ⟨#[105, 102]⟩, .func (.func 54) #[.pointer (some ⟨w.heap.size, 0, none⟩)] #[], 0⟩] 1)) := ins_new Tryd.underlying96 Tryd.underlying9 #[] 0 ⟨#[105, 102]⟩ (.func (.func 54) #[.pointer (some ⟨w.heap.size, 0, none⟩)] #[]) (by kernel_rfl)
  have hI1 : (Instr.mapUpdate 96 (.map (some W2.heap.size)) (.string ⟨#[119, 104, 105, 108, 101]⟩) (.func (.func 55) #[.pointer (some ⟨w.heap.size, 0, none⟩)] #[])).run Tryd.prog (W2.alloc (.map #[⟨.string ⟨#[105, 102]⟩, .func (.func 54) #[.pointer (some ⟨w.heap.size, 0, none⟩)] #[], 0⟩] 1)) = .ok () (W2.alloc (.map #[⟨.string ⟨#[105, 102]⟩, .func (.func 54) #[.pointer (some ⟨w.heap.size, 0, none⟩)] #[], 0⟩, ⟨.string ⟨#[119, 104, 105, 108, 101]⟩, .func (.func 55) #[.pointer (some ⟨w.heap.size, 0, none⟩)] #[], 1⟩] 2)) := ins_new Tryd.underlying96 Tryd.underlying9 #[⟨.string ⟨#[105, 102]⟩, .func (.func 54) #[.pointer (some ⟨w.heap.size, 0, none⟩)] #[], 0⟩] 1 ⟨#[119, 104, 105, 108, 101]⟩ (.func (.func 55) #[.pointer (some ⟨w.heap.size, 0, none⟩)] #[]) (by kernel_rfl)
  have hI2 : (Instr.mapUpdate 96 (.map (some W2.heap.size)) (.string ⟨#[108, 111, 99, 107]⟩) (.func (.func 56) #[.pointer (some ⟨w.heap.size, 0, none⟩)] #[])).run Tryd.prog (W2.alloc (.map #[⟨.string ⟨#[105, 102]⟩, .func (.func 54) #[.pointer (some ⟨w.heap.size, 0, none⟩)] #[], 0⟩, ⟨.string ⟨#[119, 104, 105, 108, 101]⟩, .func (.func 55) #[.pointer (some ⟨w.heap.size, 0, none⟩)] #[], 1⟩] 2)) = .ok () (W2.alloc (.map #[⟨.string ⟨#[105, 102]⟩, .func (.func 54) #[.pointer (some ⟨w.heap.size, 0, none⟩)] #[], 0⟩, ⟨.string ⟨#[119, 104, 105, 108, 101]⟩, .func (.func 55) #[.pointer (some ⟨w.heap.size, 0, none⟩)] #[], 1⟩, ⟨.string ⟨#[108, 111, 99, 107]⟩, .func (.func 56) #[.pointer (some ⟨w.heap.size, 0, none⟩)] #[], 2⟩] 3)) := ins_new Tryd.underlying96 Tryd.underlying9 #[⟨.string ⟨#[105, 102]⟩, .func (.func 54) #[.pointer (some ⟨w.heap.size, 0, none⟩)] #[], 0⟩, ⟨.string ⟨#[119, 104, 105, 108, 101]⟩, .func (.func 55) #[.pointer (some ⟨w.heap.size, 0, none⟩)] #[], 1⟩] 2 ⟨#[108, 111, 99, 107]⟩ (.func (.func 56) #[.pointer (some ⟨w.heap.size, 0, none⟩)] #[]) (by kernel_rfl)
  have hI3 : (Instr.mapUpdate 96 (.map (some W2.heap.size)) (.string ⟨#[112, 114, 105, 110, 116]⟩) (.func (.func 57) #[.pointer (some ⟨w.heap.size, 0, none⟩)] #[])).run Tryd.prog (W2.alloc (.map #[⟨.string ⟨#[105, 102]⟩, .func (.func 54) #[.pointer (some ⟨w.heap.size, 0, none⟩)] #[], 0⟩, ⟨.string ⟨#[119, 104, 105, 108, 101]⟩, .func (.func 55) #[.pointer (some ⟨w.heap.size, 0, none⟩)] #[], 1⟩, ⟨.string ⟨#[108, 111, 99, 107]⟩, .func (.func 56) #[.pointer (some ⟨w.heap.size, 0, none⟩)] #[], 2⟩] 3)) = .ok () (W2.alloc (.map #[⟨.string ⟨#[105, 102]⟩, .func (.func 54) #[.pointer (some ⟨w.heap.size, 0, none⟩)] #[], 0⟩, ⟨.string ⟨#[119, 104, 105, 108, 101]⟩, .func (.func 55) #[.pointer (some ⟨w.heap.size, 0, none⟩)] #[], 1⟩, ⟨.string ⟨#[108, 111, 99, 107]⟩, .func (.func 56) #[.pointer (some ⟨w.heap.size, 0, none⟩)] #[], 2⟩, ⟨.string ⟨#[112, 114, 105, 110, 116]⟩, .func (.func 57) #[.pointer (some ⟨w.heap.size, 0, none⟩)] #[], 3⟩] 4)) := ins_new Tryd.underlying96 Tryd.underlying9 #[⟨.string ⟨#[105, 102]⟩, .func (.func 54) #[.pointer (some ⟨w.heap.size, 0, none⟩)] #[], 0⟩, ⟨.string ⟨#[119, 104, 105, 108, 101]⟩, .func (.func 55) #[.pointer (some ⟨w.heap.size, 0, none⟩)] #[], 1⟩, ⟨.string ⟨#[108, 111, 99, 107]⟩, .func (.func 56) #[.pointer (some ⟨w.heap.size, 0, none⟩)] #[], 2⟩] 3 ⟨#[112, 114, 105, 110, 116]⟩ (.func (.func 57) #[.pointer (some ⟨w.heap.size, 0, none⟩)] #[]) (by kernel_rfl)
  have hI4 : (Instr.mapUpdate 96 (.map (some W2.heap.size)) (.string ⟨#[115, 107, 105, 112]⟩) (.func (.func 58) #[.pointer (some ⟨w.heap.size, 0, none⟩)] #[])).run Tryd.prog (W2.alloc (.map #[⟨.string ⟨#[105, 102]⟩, .func (.func 54) #[.pointer (some ⟨w.heap.size, 0, none⟩)] #[], 0⟩, ⟨.string ⟨#[119, 104, 105, 108, 101]⟩, .func (.func 55) #[.pointer (some ⟨w.heap.size, 0, none⟩)] #[], 1⟩, ⟨.string ⟨#[108, 111, 99, 107]⟩, .func (.func 56) #[.pointer (some ⟨w.heap.size, 0, none⟩)] #[], 2⟩, ⟨.string ⟨#[112, 114, 105, 110, 116]⟩, .func (.func 57) #[.pointer (some ⟨w.heap.size, 0, none⟩)] #[], 3⟩] 4)) = .ok () (W2.alloc (.map #[⟨.string ⟨#[105, 102]⟩, .func (.func 54) #[.pointer (some ⟨w.heap.size, 0, none⟩)] #[], 0⟩, ⟨.string ⟨#[119, 104, 105, 108, 101]⟩, .func (.func 55) #[.pointer (some ⟨w.heap.size, 0, none⟩)] #[], 1⟩, ⟨.string ⟨#[108, 111, 99, 107]⟩, .func (.func 56) #[.pointer (some ⟨w.heap.size, 0, none⟩)] #[], 2⟩, ⟨.string ⟨#[112, 114, 105, 110, 116]⟩, .func (.func 57) #[.pointer (some ⟨w.heap.size, 0, none⟩)] #[], 3⟩, ⟨.string ⟨#[115, 107, 105, 112]⟩, .func (.func 58) #[.pointer (some ⟨w.heap.size, 0, none⟩)] #[], 4⟩] 5)) := ins_new Tryd.underlying96 Tryd.underlying9 #[⟨.string ⟨#[105, 102]⟩, .func (.func 54) #[.pointer (some ⟨w.heap.size, 0, none⟩)] #[], 0⟩, ⟨.string ⟨#[119, 104, 105, 108, 101]⟩, .func (.func 55) #[.pointer (some ⟨w.heap.size, 0, none⟩)] #[], 1⟩, ⟨.string ⟨#[108, 111, 99, 107]⟩, .func (.func 56) #[.pointer (some ⟨w.heap.size, 0, none⟩)] #[], 2⟩, ⟨.string ⟨#[112, 114, 105, 110, 116]⟩, .func (.func 57) #[.pointer (some ⟨w.heap.size, 0, none⟩)] #[], 3⟩] 4 ⟨#[115, 107, 105, 112]⟩ (.func (.func 58) #[.pointer (some ⟨w.heap.size, 0, none⟩)] #[]) (by kernel_rfl)
  have Q2 := O2.alloc (.map #[⟨.string ⟨#[105, 102]⟩, .func (.func 54) #[.pointer (some ⟨w.heap.size, 0, none⟩)] #[], 0⟩, ⟨.string ⟨#[119, 104, 105, 108, 101]⟩, .func (.func 55) #[.pointer (some ⟨w.heap.size, 0, none⟩)] #[], 1⟩, ⟨.string ⟨#[108, 111, 99, 107]⟩, .func (.func 56) #[.pointer (some ⟨w.heap.size, 0, none⟩)] #[], 2⟩, ⟨.string ⟨#[112, 114, 105, 110, 116]⟩, .func (.func 57) #[.pointer (some ⟨w.heap.size, 0, none⟩)] #[], 3⟩, ⟨.string ⟨#[115, 107, 105, 112]⟩, .func (.func 58) #[.pointer (some ⟨w.heap.size, 0, none⟩)] #[], 4⟩] 5)
  have c2 : (W2.alloc (.map #[⟨.string ⟨#[105, 102]⟩, .func (.func 54) #[.pointer (some ⟨w.heap.size, 0, none⟩)] #[], 0⟩, ⟨.string ⟨#[119, 104, 105, 108, 101]⟩, .func (.func 55) #[.pointer (some ⟨w.heap.size, 0, none⟩)] #[], 1⟩, ⟨.string ⟨#[108, 111, 99, 107]⟩, .func (.func 56) #[.pointer (some ⟨w.heap.size, 0, none⟩)] #[], 2⟩, ⟨.string ⟨#[112, 114, 105, 110, 116]⟩, .func (.func 57) #[.pointer (some ⟨w.heap.size, 0, none⟩)] #[], 3⟩, ⟨.string ⟨#[115, 107, 105, 112]⟩, .func (.func 58) #[.pointer (some ⟨w.heap.size, 0, none⟩)] #[], 4⟩] 5)).cell? ⟨w.heap.size, 4, none⟩ = some (.map none) := by rw [cell_of_row _ w.heap.size 4 _ _ _ Q2]; rfl
  have f2 := own_frozen Q2 4
  go_upto_region 4 with (fail)
  have E2 : (W2.alloc (.map #[⟨.string ⟨#[105, 102]⟩, .func (.func 54) #[.pointer (some ⟨w.heap.size, 0, none⟩)] #[], 0⟩, ⟨.string ⟨#[119, 104, 105, 108, 101]⟩, .func (.func 55) #[.pointer (some ⟨w.heap.size, 0, none⟩)] #[], 1⟩, ⟨.string ⟨#[108, 111, 99, 107]⟩, .func (.func 56) #[.pointer (some ⟨w.heap.size, 0, none⟩)] #[], 2⟩, ⟨.string ⟨#[112, 114, 105, 110, 116]⟩, .func (.func 57) #[.pointer (some ⟨w.heap.size, 0, none⟩)] #[], 3⟩, ⟨.string ⟨#[115, 107, 105, 112]⟩, .func (.func 58) #[.pointer (some ⟨w.heap.size, 0, none⟩)] #[], 4⟩] 5)).setCell ⟨w.heap.size, 4, none⟩ (.map (some W2.heap.size)) = (W2.alloc (.map #[⟨.string ⟨#[105, 102]⟩, .func (.func 54) #[.pointer (some ⟨w.heap.size, 0, none⟩)] #[], 0⟩, ⟨.string ⟨#[119, 104, 105, 108, 101]⟩, .func (.func 55) #[.pointer (some ⟨w.heap.size, 0, none⟩)] #[], 1⟩, ⟨.string ⟨#[108, 111, 99, 107]⟩, .func (.func 56) #[.pointer (some ⟨w.heap.size, 0, none⟩)] #[], 2⟩, ⟨.string ⟨#[112, 114, 105, 110, 116]⟩, .func (.func 57) #[.pointer (some ⟨w.heap.size, 0, none⟩)] #[], 3⟩, ⟨.string ⟨#[115, 107, 105, 112]⟩, .func (.func 58) #[.pointer (some ⟨w.heap.size, 0, none⟩)] #[], 4⟩] 5)).setRow w.heap.size #[.slice ta n cap, .int .i64 (L : Int), .int .i64 0, .map (some W1.heap.size), .map (some W2.heap.size), .map none] := setCell_row Q2 4 _
  rw [E2]
  clear E2
  have O3 := Q2.row #[.slice ta n cap, .int .i64 (L : Int), .int .i64 0, .map (some W1.heap.size), .map (some W2.heap.size), .map none]
  have M1 : ((W2.alloc (.map #[⟨.string ⟨#[105, 102]⟩, .func (.func 54) #[.pointer (some ⟨w.heap.size, 0, none⟩)] #[], 0⟩, ⟨.string ⟨#[119, 104, 105, 108, 101]⟩, .func (.func 55) #[.pointer (some ⟨w.heap.size, 0, none⟩)] #[], 1⟩, ⟨.string ⟨#[108, 111, 99, 107]⟩, .func (.func 56) #[.pointer (some ⟨w.heap.size, 0, none⟩)] #[], 2⟩, ⟨.string ⟨#[112, 114, 105, 110, 116]⟩, .func (.func 57) #[.pointer (some ⟨w.heap.size, 0, none⟩)] #[], 3⟩, ⟨.string ⟨#[115, 107, 105, 112]⟩, .func (.func 58) #[.pointer (some ⟨w.heap.size, 0, none⟩)] #[], 4⟩] 5)).setRow w.heap.size #[.slice ta n cap, .int .i64 (L : Int), .int .i64 0, .map (some W1.heap.size), .map (some W2.heap.size), .map none]).heap[W1.heap.size]? = _ := (setRow_other _ (by omega)).trans ((((Below.refl W2.heap.size W2).alloc (Nat.le_refl _) _).block _ (by omega)).trans M1)
  have M2 : ((W2.alloc (.map #[⟨.string ⟨#[105, 102]⟩, .func (.func 54) #[.pointer (some ⟨w.heap.size, 0, none⟩)] #[], 0⟩, ⟨.string ⟨#[119, 104, 105, 108, 101]⟩, .func (.func 55) #[.pointer (some ⟨w.heap.size, 0, none⟩)] #[], 1⟩, ⟨.string ⟨#[108, 111, 99, 107]⟩, .func (.func 56) #[.pointer (some ⟨w.heap.size, 0, none⟩)] #[], 2⟩, ⟨.string ⟨#[112, 114, 105, 110, 116]⟩, .func (.func 57) #[.pointer (some ⟨w.heap.size, 0, none⟩)] #[], 3⟩, ⟨.string ⟨#[115, 107, 105, 112]⟩, .func (.func 58) #[.pointer (some ⟨w.heap.size, 0, none⟩)] #[], 4⟩] 5)).setRow w.heap.size #[.slice ta n cap, .int .i64 (L : Int), .int .i64 0, .map (some W1.heap.size), .map (some W2.heap.size), .map none]).heap[W2.heap.size]? = some (.map #[⟨.string ⟨#[105, 102]⟩, .func (.func 54) #[.pointer (some ⟨w.heap.size, 0, none⟩)] #[], 0⟩, ⟨.string ⟨#[119, 104, 105, 108, 101]⟩, .func (.func 55) #[.pointer (some ⟨w.heap.size, 0, none⟩)] #[], 1⟩, ⟨.string ⟨#[108, 111, 99, 107]⟩, .func (.func 56) #[.pointer (some ⟨w.heap.size, 0, none⟩)] #[], 2⟩, ⟨.string ⟨#[112, 114, 105, 110, 116]⟩, .func (.func 57) #[.pointer (some ⟨w.heap.size, 0, none⟩)] #[], 3⟩, ⟨.string ⟨#[115, 107, 105, 112]⟩, .func (.func 58) #[.pointer (some ⟨w.heap.size, 0, none⟩)] #[], 4⟩] 5) := (setRow_other _ (by omega)).trans (World.alloc_heap_new W2 _)
  have B3 := Below.of_row (B2.alloc (by omega) (.map #[⟨.string ⟨#[105, 102]⟩, .func (.func 54) #[.pointer (some ⟨w.heap.size, 0, none⟩)] #[], 0⟩, ⟨.string ⟨#[119, 104, 105, 108, 101]⟩, .func (.func 55) #[.pointer (some ⟨w.heap.size, 0, none⟩)] #[], 1⟩, ⟨.string ⟨#[108, 111, 99, 107]⟩, .func (.func 56) #[.pointer (some ⟨w.heap.size, 0, none⟩)] #[], 2⟩, ⟨.string ⟨#[112, 114, 105, 110, 116]⟩, .func (.func 57) #[.pointer (some ⟨w.heap.size, 0, none⟩)] #[], 3⟩, ⟨.string ⟨#[115, 107, 105, 112]⟩, .func (.func 58) #[.pointer (some ⟨w.heap.size, 0, none⟩)] #[], 4⟩] 5)) (Nat.le_refl _) #[.slice ta n cap, .int .i64 (L : Int), .int .i64 0, .map (some W1.heap.size), .map (some W2.heap.size), .map none]
  have z3 : ((W2.alloc (.map #[⟨.string ⟨#[105, 102]⟩, .func (.func 54) #[.pointer (some ⟨w.heap.size, 0, none⟩)] #[], 0⟩, ⟨.string ⟨#[119, 104, 105, 108, 101]⟩, .func (.func 55) #[.pointer (some ⟨w.heap.size, 0, none⟩)] #[], 1⟩, ⟨.string ⟨#[108, 111, 99, 107]⟩, .func (.func 56) #[.pointer (some ⟨w.heap.size, 0, none⟩)] #[], 2⟩, ⟨.string ⟨#[112, 114, 105, 110, 116]⟩, .func (.func 57) #[.pointer (some ⟨w.heap.size, 0, none⟩)] #[], 3⟩, ⟨.string ⟨#[115, 107, 105, 112]⟩, .func (.func 58) #[.pointer (some ⟨w.heap.size, 0, none⟩)] #[], 4⟩] 5)).setRow w.heap.size #[.slice ta n cap, .int .i64 (L : Int), .int .i64 0, .map (some W1.heap.size), .map (some W2.heap.size), .map none]).heap.size ≤ W2.heap.size + 1 ∧ W2.heap.size + 1 ≤ ((W2.alloc (.map #[⟨.string ⟨#[105, 102]⟩, .func (.func 54) #[.pointer (some ⟨w.heap.size, 0, none⟩)] #[], 0⟩, ⟨.string ⟨#[119, 104, 105, 108, 101]⟩, .func (.func 55) #[.pointer (some ⟨w.heap.size, 0, none⟩)] #[], 1⟩, ⟨.string ⟨#[108, 111, 99, 107]⟩, .func (.func 56) #[.pointer (some ⟨w.heap.size, 0, none⟩)] #[], 2⟩, ⟨.string ⟨#[112, 114, 105, 110, 116]⟩, .func (.func 57) #[.pointer (some ⟨w.heap.size, 0, none⟩)] #[], 3⟩, ⟨.string ⟨#[115, 107, 105, 112]⟩, .func (.func 58) #[.pointer (some ⟨w.heap.size, 0, none⟩)] #[], 4⟩] 5)).setRow w.heap.size #[.slice ta n cap, .int .i64 (L : Int), .int .i64 0, .map (some W1.heap.size), .map (some W2.heap.size), .map none]).heap.size := by rw [(size_setRow (W2.alloc (.map #[⟨.string ⟨#[105, 102]⟩, .func (.func 54) #[.pointer (some ⟨w.heap.size, 0, none⟩)] #[], 0⟩, ⟨.string ⟨#[119, 104, 105, 108, 101]⟩, .func (.func 55) #[.pointer (some ⟨w.heap.size, 0, none⟩)] #[], 1⟩, ⟨.string ⟨#[108, 111, 99, 107]⟩, .func (.func 56) #[.pointer (some ⟨w.heap.size, 0, none⟩)] #[], 2⟩, ⟨.string ⟨#[112, 114, 105, 110, 116]⟩, .func (.func 57) #[.pointer (some ⟨w.heap.size, 0, none⟩)] #[], 3⟩, ⟨.string ⟨#[115, 107, 105, 112]⟩, .func (.func 58) #[.pointer (some ⟨w.heap.size, 0, none⟩)] #[], 4⟩] 5)) w.heap.size #[.slice ta n cap, .int .i64 (L : Int), .int .i64 0, .map (some W1.heap.size), .map (some W2.heap.size), .map none]).trans (World.size_alloc _ _)]; omega
  obtain ⟨W3, hW3⟩ : ∃ W, W = (W2.alloc (.map #[⟨.string ⟨#[105, 102]⟩, .func (.func 54) #[.pointer (some ⟨w.heap.size, 0, none⟩)] #[], 0⟩, ⟨.string ⟨#[119, 104, 105, 108, 101]⟩, .func (.func 55) #[.pointer (some ⟨w.heap.size, 0, none⟩)] #[], 1⟩, ⟨.string ⟨#[108, 111, 99, 107]⟩, .func (.func 56) #[.pointer (some ⟨w.heap.size, 0, none⟩)] #[], 2⟩, ⟨.string ⟨#[112, 114, 105, 110, 116]⟩, .func (.func 57) #[.pointer (some ⟨w.heap.size, 0, none⟩)] #[], 3⟩, ⟨.string ⟨#[115, 107, 105, 112]⟩, .func (.func 58) #[.pointer (some ⟨w.heap.size, 0, none⟩)] #[], 4⟩] 5)).setRow w.heap.size #[.slice ta n cap, .int .i64 (L : Int), .int .i64 0, .map (some W1.heap.size), .map (some W2.heap.size), .map none] := ⟨_, rfl⟩
  rw [← hW3] at O3 M1 M2 B3 z3 ⊢
  clear hW3 Q2 c2 f2 hI0 hI1 hI2 hI3 hI4 O2 B2
  have K3 : Below W3.heap.size W3 (W3.alloc (.map #[] 0)) := (Below.refl _ W3).alloc (Nat.le_refl _) _
  have N3 : (W3.alloc (.map #[] 0)).heap[W3.heap.size]? = some (.map #[] 0) := World.alloc_heap_new W3 _
  have y3 := World.size_alloc W3 (.map #[] 0)
  go_wp2_with fail
  go_at_call 59
  refine (p_mkunary _ _).mono ?_
  rintro e w4 ⟨rfl, hw4⟩
  rw [World.size_alloc]
  generalize W3.alloc (.map #[] 0) = V3 at K3 N3 y3 hw4
  have z4 : w4.heap.size ≤ W3.heap.size + 3 ∧ W3.heap.size + 3 ≤ w4.heap.size := by rw [hw4, World.size_alloc, World.size_alloc, y3]; omega
  have D4 : Below V3.heap.size V3 w4 := by rw [hw4]; exact ((Below.refl _ V3).alloc (Nat.le_refl _) _).alloc (by rw [World.size_alloc]; omega) _
  have b42 : w4.heap[W3.heap.size + 1 + 1]? = some (.cells #[.int .u8 17] 23 (0, 0)) := by
    rw [hw4, ← y3, ← World.size_alloc V3]; exact World.alloc_heap_new _ _
  have b41 : w4.heap[W3.heap.size + 1]? = some (.cells #[.pointer (some ⟨w.heap.size, 0, none⟩)] 59 (0, 0)) := by
    rw [hw4, ← y3, Below.heap_alloc _ _ _ (by rw [World.size_alloc]; omega)]; exact World.alloc_heap_new _ _
  clear hw4
  have N4 := (D4.block W3.heap.size (by omega)).trans N3
  have K4 := K3.trans (D4.mono (by omega))
  clear N3 K3 D4 y3
  have hI0 : (Instr.mapUpdate 97 (.map (some W3.heap.size)) (.string ⟨#[45]⟩) (.func (.func 89) #[] #[.pointer (some ⟨W3.heap.size + 1, 0, none⟩), .pointer (some ⟨W3.heap.size + 1 + 1, 0, none⟩)])).run Tryd.prog w4 = .ok () (putB w4 W3.heap.size (.map #[⟨.string ⟨#[45]⟩, .func (.func 89) #[] #[.pointer (some ⟨W3.heap.size + 1, 0, none⟩), .pointer (some ⟨W3.heap.size + 1 + 1, 0, none⟩)], 0⟩] 1)) := run_ins Tryd.underlying97 Tryd.underlying9 N4 ⟨#[45]⟩ (.func (.func 89) #[] #[.pointer (some ⟨W3.heap.size + 1, 0, none⟩), .pointer (some ⟨W3.heap.size + 1 + 1, 0, none⟩)]) (by kernel_rfl)
  go_wp2_with fail
  obtain ⟨w5, hw5⟩ : ∃ W, W = putB w4 W3.heap.size (.map #[⟨.string ⟨#[45]⟩, .func (.func 89) #[] #[.pointer (some ⟨W3.heap.size + 1, 0, none⟩), .pointer (some ⟨W3.heap.size + 1 + 1, 0, none⟩)], 0⟩] 1) := ⟨_, rfl⟩
  rw [← hw5]
  have z5 : w5.heap.size ≤ W3.heap.size + 3 ∧ W3.heap.size + 3 ≤ w5.heap.size := by rw [hw5, putB_size]; omega
  have N5 : w5.heap[W3.heap.size]? = some (.map #[⟨.string ⟨#[45]⟩, .func (.func 89) #[] #[.pointer (some ⟨W3.heap.size + 1, 0, none⟩), .pointer (some ⟨W3.heap.size + 1 + 1, 0, none⟩)], 0⟩] 1) := by rw [hw5]; exact putB_same _ (by omega)
  have b51 := (putB_other (w := w4) (r := W3.heap.size) (.map #[⟨.string ⟨#[45]⟩, .func (.func 89) #[] #[.pointer (some ⟨W3.heap.size + 1, 0, none⟩), .pointer (some ⟨W3.heap.size + 1 + 1, 0, none⟩)], 0⟩] 1) (by omega)).trans b41
  have b52 := (putB_other (w := w4) (r := W3.heap.size) (.map #[⟨.string ⟨#[45]⟩, .func (.func 89) #[] #[.pointer (some ⟨W3.heap.size + 1, 0, none⟩), .pointer (some ⟨W3.heap.size + 1 + 1, 0, none⟩)], 0⟩] 1) (by omega)).trans b42
  have K5 := putB_below (.map #[⟨.string ⟨#[45]⟩, .func (.func 89) #[] #[.pointer (some ⟨W3.heap.size + 1, 0, none⟩), .pointer (some ⟨W3.heap.size + 1 + 1, 0, none⟩)], 0⟩] 1) K4 (Nat.le_refl _)
  rw [← hw5] at b51 b52 K5
  clear hw5 b41 b42 K4 N4 hI0
  go_at_call 59
  refine (p_mkunary _ _).mono ?_
  rintro e w6 ⟨rfl, hw6⟩
  have y5 : w5.heap.size = W3.heap.size + 3 := by omega
  rw [y5]
  have z6 : w6.heap.size ≤ W3.heap.size + 5 ∧ W3.heap.size + 5 ≤ w6.heap.size := by rw [hw6, World.size_alloc, World.size_alloc, y5]; omega
  have D6 : Below w5.heap.size w5 w6 := by rw [hw6]; exact ((Below.refl _ w5).alloc (Nat.le_refl _) _).alloc (by rw [World.size_alloc]; omega) _
  have b64 : w6.heap[W3.heap.size + 3 + 1]? = some (.cells #[.int .u8 18] 23 (0, 0)) := by
    rw [hw6, ← y5, ← World.size_alloc w5]; exact World.alloc_heap_new _ _
  have b63 : w6.heap[W3.heap.size + 3]? = some (.cells #[.pointer (some ⟨w.heap.size, 0, none⟩)] 59 (0, 0)) := by
    rw [hw6, ← y5, Below.heap_alloc _ _ _ (by rw [World.size_alloc]; omega)]; exact World.alloc_heap_new _ _
  clear hw6
  have N6 := (D6.block W3.heap.size (by omega)).trans N5
  have b61 := (D6.block (W3.heap.size + 1) (by omega)).trans b51
  have b62 := (D6.block (W3.heap.size + 1 + 1) (by omega)).trans b52
  have K6 := K5.trans (D6.mono (by omega))
  clear y5 N5 K5 D6 b51 b52
  have hI1 : (Instr.mapUpdate 97 (.map (some W3.heap.size)) (.string ⟨#[33]⟩) (.func (.func 89) #[] #[.pointer (some ⟨W3.heap.size + 3, 0, none⟩), .pointer (some ⟨W3.heap.size + 3 + 1, 0, none⟩)])).run Tryd.prog w6 = .ok () (putB w6 W3.heap.size (.map #[⟨.string ⟨#[45]⟩, .func (.func 89) #[] #[.pointer (some ⟨W3.heap.size + 1, 0, none⟩), .pointer (some ⟨W3.heap.size + 1 + 1, 0, none⟩)], 0⟩, ⟨.string ⟨#[33]⟩, .func (.func 89) #[] #[.pointer (some ⟨W3.heap.size + 3, 0, none⟩), .pointer (some ⟨W3.heap.size + 3 + 1, 0, none⟩)], 1⟩] 2)) := run_ins Tryd.underlying97 Tryd.underlying9 N6 ⟨#[33]⟩ (.func (.func 89) #[] #[.pointer (some ⟨W3.heap.size + 3, 0, none⟩), .pointer (some ⟨W3.heap.size + 3 + 1, 0, none⟩)]) (by kernel_rfl)
  have N7 : (putB w6 W3.heap.size (.map #[⟨.string ⟨#[45]⟩, .func (.func 89) #[] #[.pointer (some ⟨W3.heap.size + 1, 0, none⟩), .pointer (some ⟨W3.heap.size + 1 + 1, 0, none⟩)], 0⟩, ⟨.string ⟨#[33]⟩, .func (.func 89) #[] #[.pointer (some ⟨W3.heap.size + 3, 0, none⟩), .pointer (some ⟨W3.heap.size + 3 + 1, 0, none⟩)], 1⟩] 2)).heap[W3.heap.size]? = some (.map #[⟨.string ⟨#[45]⟩, .func (.func 89) #[] #[.pointer (some ⟨W3.heap.size + 1, 0, none⟩), .pointer (some ⟨W3.heap.size + 1 + 1, 0, none⟩)], 0⟩, ⟨.string ⟨#[33]⟩, .func (.func 89) #[] #[.pointer (some ⟨W3.heap.size + 3, 0, none⟩), .pointer (some ⟨W3.heap.size + 3 + 1, 0, none⟩)], 1⟩] 2) := putB_same _ (by omega)
  have hI2 : (Instr.mapUpdate 97 (.map (some W3.heap.size)) (.string ⟨#[40]⟩) (.func (.func 60) #[.pointer (some ⟨w.heap.size, 0, none⟩)] #[])).run Tryd.prog (putB w6 W3.heap.size (.map #[⟨.string ⟨#[45]⟩, .func (.func 89) #[] #[.pointer (some ⟨W3.heap.size + 1, 0, none⟩), .pointer (some ⟨W3.heap.size + 1 + 1, 0, none⟩)], 0⟩, ⟨.string ⟨#[33]⟩, .func (.func 89) #[] #[.pointer (some ⟨W3.heap.size + 3, 0, none⟩), .pointer (some ⟨W3.heap.size + 3 + 1, 0, none⟩)], 1⟩] 2)) = .ok () (putB (putB w6 W3.heap.size (.map #[⟨.string ⟨#[45]⟩, .func (.func 89) #[] #[.pointer (some ⟨W3.heap.size + 1, 0, none⟩), .pointer (some ⟨W3.heap.size + 1 + 1, 0, none⟩)], 0⟩, ⟨.string ⟨#[33]⟩, .func (.func 89) #[] #[.pointer (some ⟨W3.heap.size + 3, 0, none⟩), .pointer (some ⟨W3.heap.size + 3 + 1, 0, none⟩)], 1⟩] 2)) W3.heap.size (.map #[⟨.string ⟨#[45]⟩, .func (.func 89) #[] #[.pointer (some ⟨W3.heap.size + 1, 0, none⟩), .pointer (some ⟨W3.heap.size + 1 + 1, 0, none⟩)], 0⟩, ⟨.string ⟨#[33]⟩, .func (.func 89) #[] #[.pointer (some ⟨W3.heap.size + 3, 0, none⟩), .pointer (some ⟨W3.heap.size + 3 + 1, 0, none⟩)], 1⟩, ⟨.string ⟨#[40]⟩, .func (.func 60) #[.pointer (some ⟨w.heap.size, 0, none⟩)] #[], 2⟩] 3)) := run_ins Tryd.underlying97 Tryd.underlying9 N7 ⟨#[40]⟩ (.func (.func 60) #[.pointer (some ⟨w.heap.size, 0, none⟩)] #[]) (by kernel_rfl)
  obtain ⟨w8, hw8⟩ : ∃ W, W = putB (putB w6 W3.heap.size (.map #[⟨.string ⟨#[45]⟩, .func (.func 89) #[] #[.pointer (some ⟨W3.heap.size + 1, 0, none⟩), .pointer (some ⟨W3.heap.size + 1 + 1, 0, none⟩)], 0⟩, ⟨.string ⟨#[33]⟩, .func (.func 89) #[] #[.pointer (some ⟨W3.heap.size + 3, 0, none⟩), .pointer (some ⟨W3.heap.size + 3 + 1, 0, none⟩)], 1⟩] 2)) W3.heap.size (.map #[⟨.string ⟨#[45]⟩, .func (.func 89) #[] #[.pointer (some ⟨W3.heap.size + 1, 0, none⟩), .pointer (some ⟨W3.heap.size + 1 + 1, 0, none⟩)], 0⟩, ⟨.string ⟨#[33]⟩, .func (.func 89) #[] #[.pointer (some ⟨W3.heap.size + 3, 0, none⟩), .pointer (some ⟨W3.heap.size + 3 + 1, 0, none⟩)], 1⟩, ⟨.string ⟨#[40]⟩, .func (.func 60) #[.pointer (some ⟨w.heap.size, 0, none⟩)] #[], 2⟩] 3) := ⟨_, rfl⟩
  rw [← hw8] at hI2
  have z8 : w8.heap.size ≤ W3.heap.size + 5 ∧ W3.heap.size + 5 ≤ w8.heap.size := by rw [hw8, putB_size, putB_size]; omega
  have N8 : w8.heap[W3.heap.size]? = some (.map #[⟨.string ⟨#[45]⟩, .func (.func 89) #[] #[.pointer (some ⟨W3.heap.size + 1, 0, none⟩), .pointer (some ⟨W3.heap.size + 1 + 1, 0, none⟩)], 0⟩, ⟨.string ⟨#[33]⟩, .func (.func 89) #[] #[.pointer (some ⟨W3.heap.size + 3, 0, none⟩), .pointer (some ⟨W3.heap.size + 3 + 1, 0, none⟩)], 1⟩, ⟨.string ⟨#[40]⟩, .func (.func 60) #[.pointer (some ⟨w.heap.size, 0, none⟩)] #[], 2⟩] 3) := by rw [hw8]; exact putB_same _ (by rw [putB_size]; omega)
  have P8 : ∀ b, b ≠ W3.heap.size → w8.heap[b]? = w6.heap[b]? := fun b hb => by rw [hw8, putB_other _ hb, putB_other _ hb]
  have K8 := putB_below (.map #[⟨.string ⟨#[45]⟩, .func (.func 89) #[] #[.pointer (some ⟨W3.heap.size + 1, 0, none⟩), .pointer (some ⟨W3.heap.size + 1 + 1, 0, none⟩)], 0⟩, ⟨.string ⟨#[33]⟩, .func (.func 89) #[] #[.pointer (some ⟨W3.heap.size + 3, 0, none⟩), .pointer (some ⟨W3.heap.size + 3 + 1, 0, none⟩)], 1⟩, ⟨.string ⟨#[40]⟩, .func (.func 60) #[.pointer (some ⟨w.heap.size, 0, none⟩)] #[], 2⟩] 3) (putB_below (.map #[⟨.string ⟨#[45]⟩, .func (.func 89) #[] #[.pointer (some ⟨W3.heap.size + 1, 0, none⟩), .pointer (some ⟨W3.heap.size + 1 + 1, 0, none⟩)], 0⟩, ⟨.string ⟨#[33]⟩, .func (.func 89) #[] #[.pointer (some ⟨W3.heap.size + 3, 0, none⟩), .pointer (some ⟨W3.heap.size + 3 + 1, 0, none⟩)], 1⟩] 2) K6 (Nat.le_refl _)) (Nat.le_refl _)
  rw [← hw8] at K8
  have b81 := (P8 _ (by omega)).trans b61
  have b82 := (P8 _ (by omega)).trans b62
  have b83 := (P8 _ (by omega)).trans b63
  have b84 := (P8 _ (by omega)).trans b64
  clear hw8 P8 N7 N6 K6 b61 b62 b63 b64
  have Q8 : Own w8 w.heap.size 99 #[.slice ta n cap, .int .i64 (L : Int), .int .i64 0, .map (some W1.heap.size), .map (some W2.heap.size), .map none] := (K8.block _ (by omega)).trans O3
  have c8 : w8.cell? ⟨w.heap.size, 5, none⟩ = some (.map none) := by rw [cell_of_row _ w.heap.size 5 _ _ _ Q8]; rfl
  have f8 := own_frozen Q8 5
  go_wp2_with fail
  go_ret
  have E8 : w8.setCell ⟨w.heap.size, 5, none⟩ (.map (some W3.heap.size)) = w8.setRow w.heap.size #[.slice ta n cap, .int .i64 (L : Int), .int .i64 0, .map (some W1.heap.size), .map (some W2.heap.size), .map (some W3.heap.size)] := setCell_row Q8 5 _
  rw [E8]
  have O9 := Q8.row #[.slice ta n cap, .int .i64 (L : Int), .int .i64 0, .map (some W1.heap.size), .map (some W2.heap.size), .map (some W3.heap.size)]
  have T9 : ∀ b, b ≠ w.heap.size → (w8.setRow w.heap.size #[.slice ta n cap, .int .i64 (L : Int), .int .i64 0, .map (some W1.heap.size), .map (some W2.heap.size), .map (some W3.heap.size)]).heap[b]? = w8.heap[b]? := fun b hb => setRow_other _ hb
  have L9 := Below.of_row (B3.trans (K8.mono (by omega))) (Nat.le_refl _) #[.slice ta n cap, .int .i64 (L : Int), .int .i64 0, .map (some W1.heap.size), .map (some W2.heap.size), .map (some W3.heap.size)]
  obtain ⟨ht, hlt, T, hs⟩ := HT.out
  have hn := HN.out
  refine ⟨rfl, L9, ⟨⟨?_, ?_, ?_, ?_, ?_, ?_, ?_, ?_, ?_, ?_, ?_, ?_, hs⟩, ?_, Nat.zero_le _⟩⟩
  · exact ht.keep L9
  · intro g off h
    have := hlt g off h
    show g ≠ w.heap.size
    omega
  · skip
    rw [show (newC w ta cap toks L).D = W1.heap.size by show w.heap.size + 1 = _; omega]
    exact (T9 _ (by omega)).trans ((K8.block _ (by omega)).trans M1)
  · skip
    rw [show (newC w ta cap toks L).S = W2.heap.size by show w.heap.size + 2 = _; omega]
    exact (T9 _ (by omega)).trans ((K8.block _ (by omega)).trans M2)
  · rw [show (newC w ta cap toks L).O = W3.heap.size by show w.heap.size + 3 = _; omega]
    have e1 : (newC w ta cap toks L).bm = W3.heap.size + 1 := by show w.heap.size + 4 = _; omega
    have e2 : (newC w ta cap toks L).bn = W3.heap.size + 3 := by show w.heap.size + 6 = _; omega
    unfold Par.operE
    rw [e1, e2]
    exact (T9 _ (by omega)).trans N8
  · rw [show (newC w ta cap toks L).bm = W3.heap.size + 1 by show w.heap.size + 4 = _; omega]
    exact (T9 _ (by omega)).trans b81
  · rw [show (newC w ta cap toks L).bm = W3.heap.size + 1 by show w.heap.size + 4 = _; omega]
    exact (T9 _ (by omega)).trans b82
  · rw [show (newC w ta cap toks L).bn = W3.heap.size + 3 by show w.heap.size + 6 = _; omega]
    exact (T9 _ (by omega)).trans b83
  · rw [show (newC w ta cap toks L).bn = W3.heap.size + 3 by show w.heap.size + 6 = _; omega]
    exact (T9 _ (by omega)).trans b84
  · simp only [newC]
    omega
  · have s1 := T.size1
    have s2 := T.size2
    have := L9.size
    exact ⟨by omega, by omega, fun i hi => (L9.cell (by exact s1)).trans (T.lev i hi), fun i hi => (L9.cell (by exact s2)).trans (T.sgn i hi)⟩
  · have s1 := T.size1
    have s2 := T.size2
    simp only [newC]
    omega
  · rw [show (newC w ta cap toks L).D = W1.heap.size by show w.heap.size + 1 = _; omega, show (newC w ta cap toks L).S = W2.heap.size by show w.heap.size + 2 = _; omega, show (newC w ta cap toks L).O = W3.heap.size by show w.heap.size + 3 = _; omega]
    show (w8.setRow w.heap.size #[.slice ta n cap, .int .i64 (L : Int), .int .i64 0, .map (some W1.heap.size), .map (some W2.heap.size), .map (some W3.heap.size)]).heap[w.heap.size]? = some (.cells #[.slice ta toks.length cap, .int .i64 (L : Int), .int .i64 0, .map (some W1.heap.size), .map (some W2.heap.size), .map (some W3.heap.size)] 99 (0, 0))
    rw [← hn]
    exact O9
end Go.Proofs.YtjpmdafaaonpoaaDoor

namespace Go.Proofs.YtjpmdafaaonpoaaDoor
open Go.RowKit
set_option linter.unusedVariables false
theorem any_eql (T : TypeId) (v : Value) (w : World) : (binOp .eql 20 (.iface T v) .nilIface).run Tryd.prog w = .ok (.bool false) w := by kernel_rfl
theorem any_flt (v : Value) (w : World) : (Instr.typeAssert (.iface 29 v) 20 29 true).run Tryd.prog w = .ok (.tuple #[v, .bool true]) w := by kernel_rfl
theorem any_nil (w : World) : (binOp .eql 20 .nilIface .nilIface).run Tryd.prog w = .ok (.bool true) w := by kernel_rfl
section
variable {o : Oper} {a : Act} {w : World} {K : Act → World → Prop} {Q : Exit → Act → World → Prop}
theorem wp_st_row {T : TypeId} {n : Nat} (hT : RowT T n) {x y : Operand} (ho : o.op = .store T x y) {g : Nat} {cs old : Array Value} (hg : Own w g T old) (hx : a.eval x = .pointer (some ⟨g, 0, none⟩)) (hy : a.eval y = .agg cs) (hn : cs.size = n) (hm : old.size = n) (h1 : cs.all (·.oneCell') = true)
    (h : K (a.put o.dst undef) (w.setRow g cs)) : o.wp Tryd.prog a w K Q := by
  obtain ⟨d, _, _, h3⟩ := hT
  exact wp_store_row T x y ho g cs hx hy T old hg (by rw [h3, hn]) (by rw [hm, hn]) h1 h
set_option maxHeartbeats 1000000 in
theorem wp_st_err {x : Operand} {z u : Int} (ho : o.op = .store 27 x (.const (.int .i64 z))) {p : Addr} (hx : a.eval x = .pointer (some p)) (hu : w.cell? p = some (.int .i64 u)) (hf : w.frozen? p = false) (h : K (a.put o.dst undef) (w.setCell p (.int .i64 z))) : o.wp Tryd.prog a w K Q := by
  have hrun : (execOp a.eval o).run Tryd.prog w = .ok .skip (w.setCell p (.int .i64 z)) := by
    unfold execOp
    simp only [ho, hx]
    go_simp
  unfold Oper.wp
  rw [hrun]
  exact h
end
set_option maxRecDepth 100000 in
set_option maxHeartbeats 4000000 in
theorem catch_ex {w : World} {n t y f : Nat} {ct cf : Array Value} {cy : Int} {p q : Int} {older : List PanicEntry} (h1 : Own w t 26 ct) (hs1 : ct.size = zEx.size) (h2 : Own w y 27 #[.int .i64 cy]) (h3 : Own w f 29 cf) (hs3 : cf.size = 2) (hn : n ≤ t ∧ n ≤ y ∧ n ≤ f) (hd : t ≠ y ∧ t ≠ f ∧ y ≠ f) :
    CallsD Tryd.prog 34 #[.pointer (some ⟨t, 0, none⟩), .pointer (some ⟨y, 0, none⟩), .pointer (some ⟨f, 0, none⟩)] (.panicking ({ v := .iface 29 (.agg #[.int .i64 p, .int .i64 q]), recovered := false } :: older)) w fun e u' w' =>
      e = .returned (.tuple #[]) ∧ u' = .panicking ({ v := .iface 29 (.agg #[.int .i64 p, .int .i64 q]), recovered := true } :: older) ∧ Own w' t 26 zEx ∧ Own w' y 27 #[.int .i64 30] ∧ Own w' f 29 #[.int .i64 p, .int .i64 q] ∧ Below n w w' := by
  refine callsD_of_wpS Tryd.func34 rfl fun c₀ cs hu => ?_
  apply wpS_seq
  apply wpS_region
  simp [wpOpsS, go_sem, recoverD, hu, Tryd.ntmps34, Exit.thenS]
  rw [show (#[.pointer (some ⟨t, 0, none⟩), .pointer (some ⟨y, 0, none⟩), .pointer (some ⟨f, 0, none⟩)] ++ (((Array.replicate 17 undef).setIfInBounds 4 (.iface 29 (.agg #[.int .i64 p, .int .i64 q]))).setIfInBounds 0 (.iface 29 (.agg #[.int .i64 p, .int .i64 q]))) : Array Value) = #[.pointer (some ⟨t, 0, none⟩), .pointer (some ⟨y, 0, none⟩), .pointer (some ⟨f, 0, none⟩), .iface 29 (.agg #[.int .i64 p, .int .i64 q]), undef, undef, undef, .iface 29 (.agg #[.int .i64 p, .int .i64 q]), undef, undef, undef, undef, undef, undef, undef, undef, undef, undef, undef, undef] from by kernel_rfl]
  refine wpS_of_wp ?_
  generalize hQ : (fun e a' w' => bodyPostS _ _ _ _ _ e a' _ w') = Q
  have F1 := any_eql
  have F2 := any_flt
  go_upto_region 2 with (fail)
  go_upto_region 6 with (fail)
  have l1 := h1.lt
  have l2 := h2.lt
  have l3 := h3.lt
  have OB := (Own.new w 29 #[.int .i64 p, .int .i64 q]).alloc (.cells #[.int .u8 0, .int .u8 0, .int .i64 0, .string ⟨#[]⟩, .slice none 0 0, .int .i64 0] 26)
  have OE := Own.new (w.alloc (.cells #[.int .i64 p, .int .i64 q] 29)) 26 #[.int .u8 0, .int .u8 0, .int .i64 0, .string ⟨#[]⟩, .slice none 0 0, .int .i64 0]
  rw [World.size_alloc] at OE
  have o1 := (h1.alloc (.cells #[.int .i64 p, .int .i64 q] 29)).alloc (.cells #[.int .u8 0, .int .u8 0, .int .i64 0, .string ⟨#[]⟩, .slice none 0 0, .int .i64 0] 26)
  have o2 := (h2.alloc (.cells #[.int .i64 p, .int .i64 q] 29)).alloc (.cells #[.int .u8 0, .int .u8 0, .int .i64 0, .string ⟨#[]⟩, .slice none 0 0, .int .i64 0] 26)
  have o3 := (h3.alloc (.cells #[.int .i64 p, .int .i64 q] 29)).alloc (.cells #[.int .u8 0, .int .u8 0, .int .i64 0, .string ⟨#[]⟩, .slice none 0 0, .int .i64 0] 26)
  have B6 : Below n w ((w.alloc (.cells #[.int .i64 p, .int .i64 q] 29)).alloc (.cells #[.int .u8 0, .int .u8 0, .int .i64 0, .string ⟨#[]⟩, .slice none 0 0, .int .i64 0] 26)) := ((Below.refl n w).alloc (by omega) _).alloc (by rw [World.size_alloc]; omega) _
  refine wp_region_held (S := fun W => Own W w.heap.size 29 #[.int .i64 p, .int .i64 q] ∧ Own W (w.heap.size + 1) 26 #[.int .u8 0, .int .u8 0, .int .i64 0, .string ⟨#[]⟩, .slice none 0 0, .int .i64 0]) (by kernel_rfl) ?_
  change wpAnyH _ _ _ _ _ _ _ _ (((w.alloc (.cells #[.int .i64 p, .int .i64 q] 29)).alloc (.cells #[.int .u8 0, .int .u8 0, .int .i64 0, .string ⟨#[]⟩, .slice none 0 0, .int .i64 0] 26)).drew)
  have B7 := B6.drew
  have OB : Own (((w.alloc (.cells #[.int .i64 p, .int .i64 q] 29)).alloc (.cells #[.int .u8 0, .int .u8 0, .int .i64 0, .string ⟨#[]⟩, .slice none 0 0, .int .i64 0] 26)).drew) _ _ _ := OB
  have OE : Own (((w.alloc (.cells #[.int .i64 p, .int .i64 q] 29)).alloc (.cells #[.int .u8 0, .int .u8 0, .int .i64 0, .string ⟨#[]⟩, .slice none 0 0, .int .i64 0] 26)).drew) _ _ _ := OE
  have o1 : Own (((w.alloc (.cells #[.int .i64 p, .int .i64 q] 29)).alloc (.cells #[.int .u8 0, .int .u8 0, .int .i64 0, .string ⟨#[]⟩, .slice none 0 0, .int .i64 0] 26)).drew) _ _ _ := o1
  have o2 : Own (((w.alloc (.cells #[.int .i64 p, .int .i64 q] 29)).alloc (.cells #[.int .u8 0, .int .u8 0, .int .i64 0, .string ⟨#[]⟩, .slice none 0 0, .int .i64 0] 26)).drew) _ _ _ := o2
  have o3 : Own (((w.alloc (.cells #[.int .i64 p, .int .i64 q] 29)).alloc (.cells #[.int .u8 0, .int .u8 0, .int .i64 0, .string ⟨#[]⟩, .slice none 0 0, .int .i64 0] 26)).drew) _ _ _ := o3
  clear B6
  generalize (((w.alloc (.cells #[.int .i64 p, .int .i64 q] 29)).alloc (.cells #[.int .u8 0, .int .u8 0, .int .i64 0, .string ⟨#[]⟩, .slice none 0 0, .int .i64 0] 26)).drew) = W7 at OB OE o1 o2 o3 B7 ⊢
  have S7 := And.intro OB OE
  refine dr_take 0 (.agg #[.int .u8 0, .int .u8 0, .int .i64 0, .string ⟨#[]⟩, .slice none 0 0, .int .i64 0]) rfl rfl (by kernel_rfl) (by kernel_rfl) (by kernel_rfl) (fun _ _ _ h => by rw [← hQ] at h ⊢; exact h) (fun W h => run_ld rowEx rfl rfl h.2 rfl) S7 ?_
  change wpAnyH _ _ _ _ _ _ _ { tmps := #[.pointer (some ⟨t, 0, none⟩), .pointer (some ⟨y, 0, none⟩), .pointer (some ⟨f, 0, none⟩), .iface 29 (.agg #[.int .i64 p, .int .i64 q]), .pointer (some ⟨w.heap.size, 0, none⟩), .bool true, .pointer (some ⟨w.heap.size + 1, 0, none⟩), .iface 29 (.agg #[.int .i64 p, .int .i64 q]), .iface 29 (.agg #[.int .i64 p, .int .i64 q]), .bool false, .tuple #[.agg #[.int .i64 p, .int .i64 q], .bool true], .iface 29 (.agg #[.int .i64 p, .int .i64 q]), .tuple #[.agg #[.int .i64 p, .int .i64 q], .bool true], .agg #[.int .i64 p, .int .i64 q], .bool true, .bool true, .bool false, undef, .agg #[.int .u8 0, .int .u8 0, .int .i64 0, .string ⟨#[]⟩, .slice none 0 0, .int .i64 0], undef], defers := [] } _
  refine dr_take 1 (.agg #[.int .i64 p, .int .i64 q]) rfl rfl (by kernel_rfl) (by kernel_rfl) (by kernel_rfl) (fun _ _ _ h => by rw [← hQ] at h ⊢; exact h) (fun W h => run_ld rowFl rfl rfl h.1 rfl) S7 ?_
  change wpAnyH _ _ _ _ _ _ _ { tmps := #[.pointer (some ⟨t, 0, none⟩), .pointer (some ⟨y, 0, none⟩), .pointer (some ⟨f, 0, none⟩), .iface 29 (.agg #[.int .i64 p, .int .i64 q]), .pointer (some ⟨w.heap.size, 0, none⟩), .bool true, .pointer (some ⟨w.heap.size + 1, 0, none⟩), .iface 29 (.agg #[.int .i64 p, .int .i64 q]), .iface 29 (.agg #[.int .i64 p, .int .i64 q]), .bool false, .tuple #[.agg #[.int .i64 p, .int .i64 q], .bool true], .iface 29 (.agg #[.int .i64 p, .int .i64 q]), .tuple #[.agg #[.int .i64 p, .int .i64 q], .bool true], .agg #[.int .i64 p, .int .i64 q], .bool true, .bool true, .bool false, undef, .agg #[.int .u8 0, .int .u8 0, .int .i64 0, .string ⟨#[]⟩, .slice none 0 0, .int .i64 0], .agg #[.int .i64 p, .int .i64 q]], defers := [] } _
  refine dr_one 2 rfl rfl (by kernel_rfl) ?_
  refine wp_st_row (cs := #[.int .u8 0, .int .u8 0, .int .i64 0, .string ⟨#[]⟩, .slice none 0 0, .int .i64 0]) rowEx rfl o1 rfl rfl rfl hs1 (by kernel_rfl) ?_
  have OB := OB.other (g := t) #[.int .u8 0, .int .u8 0, .int .i64 0, .string ⟨#[]⟩, .slice none 0 0, .int .i64 0] (by omega)
  have OE := OE.other (g := t) #[.int .u8 0, .int .u8 0, .int .i64 0, .string ⟨#[]⟩, .slice none 0 0, .int .i64 0] (by omega)
  have o1 := o1.row #[.int .u8 0, .int .u8 0, .int .i64 0, .string ⟨#[]⟩, .slice none 0 0, .int .i64 0]
  have o2 := o2.other (g := t) #[.int .u8 0, .int .u8 0, .int .i64 0, .string ⟨#[]⟩, .slice none 0 0, .int .i64 0] (by omega)
  have o3 := o3.other (g := t) #[.int .u8 0, .int .u8 0, .int .i64 0, .string ⟨#[]⟩, .slice none 0 0, .int .i64 0] (by omega)
  have B8 := Below.of_row B7 (g := t) (by omega) #[.int .u8 0, .int .u8 0, .int .i64 0, .string ⟨#[]⟩, .slice none 0 0, .int .i64 0]
  refine ⟨⟨OB, OE⟩, ?_⟩
  change wpAnyH _ _ _ _ _ _ _ { tmps := #[.pointer (some ⟨t, 0, none⟩), .pointer (some ⟨y, 0, none⟩), .pointer (some ⟨f, 0, none⟩), .iface 29 (.agg #[.int .i64 p, .int .i64 q]), .pointer (some ⟨w.heap.size, 0, none⟩), .bool true, .pointer (some ⟨w.heap.size + 1, 0, none⟩), .iface 29 (.agg #[.int .i64 p, .int .i64 q]), .iface 29 (.agg #[.int .i64 p, .int .i64 q]), .bool false, .tuple #[.agg #[.int .i64 p, .int .i64 q], .bool true], .iface 29 (.agg #[.int .i64 p, .int .i64 q]), .tuple #[.agg #[.int .i64 p, .int .i64 q], .bool true], .agg #[.int .i64 p, .int .i64 q], .bool true, .bool true, .bool false, undef, .agg #[.int .u8 0, .int .u8 0, .int .i64 0, .string ⟨#[]⟩, .slice none 0 0, .int .i64 0], .agg #[.int .i64 p, .int .i64 q]], defers := [] } _
  refine dr_one 3 rfl rfl (by kernel_rfl) ?_
  refine wp_st_err (u := cy) rfl rfl (by rw [cell_of_row _ y 0 _ _ _ o2]; rfl) (own_frozen o2 0) ?_
  have E : (W7.setRow t #[.int .u8 0, .int .u8 0, .int .i64 0, .string ⟨#[]⟩, .slice none 0 0, .int .i64 0]).setCell ⟨y, 0, none⟩ (.int .i64 30) = (W7.setRow t #[.int .u8 0, .int .u8 0, .int .i64 0, .string ⟨#[]⟩, .slice none 0 0, .int .i64 0]).setRow y #[.int .i64 30] := setCell_row o2 0 _
  rw [E]
  have OB := OB.other (g := y) #[.int .i64 30] (by omega)
  have OE := OE.other (g := y) #[.int .i64 30] (by omega)
  have o1 := o1.other (g := y) #[.int .i64 30] (by omega)
  have o2 := o2.row #[.int .i64 30]
  have o3 := o3.other (g := y) #[.int .i64 30] (by omega)
  have B9 := Below.of_row B8 (g := y) (by omega) #[.int .i64 30]
  refine ⟨⟨OB, OE⟩, ?_⟩
  change wpAnyH _ _ _ _ _ _ _ { tmps := #[.pointer (some ⟨t, 0, none⟩), .pointer (some ⟨y, 0, none⟩), .pointer (some ⟨f, 0, none⟩), .iface 29 (.agg #[.int .i64 p, .int .i64 q]), .pointer (some ⟨w.heap.size, 0, none⟩), .bool true, .pointer (some ⟨w.heap.size + 1, 0, none⟩), .iface 29 (.agg #[.int .i64 p, .int .i64 q]), .iface 29 (.agg #[.int .i64 p, .int .i64 q]), .bool false, .tuple #[.agg #[.int .i64 p, .int .i64 q], .bool true], .iface 29 (.agg #[.int .i64 p, .int .i64 q]), .tuple #[.agg #[.int .i64 p, .int .i64 q], .bool true], .agg #[.int .i64 p, .int .i64 q], .bool true, .bool true, .bool false, undef, .agg #[.int .u8 0, .int .u8 0, .int .i64 0, .string ⟨#[]⟩, .slice none 0 0, .int .i64 0], .agg #[.int .i64 p, .int .i64 q]], defers := [] } _
  refine dr_one 4 rfl rfl (by kernel_rfl) ?_
  refine wp_st_row (cs := #[.int .i64 p, .int .i64 q]) rowFl rfl o3 rfl rfl rfl hs3 (by kernel_rfl) ?_
  have OB := OB.other (g := f) #[.int .i64 p, .int .i64 q] (by omega)
  have OE := OE.other (g := f) #[.int .i64 p, .int .i64 q] (by omega)
  have o1 := o1.other (g := f) #[.int .i64 p, .int .i64 q] (by omega)
  have o2 := o2.other (g := f) #[.int .i64 p, .int .i64 q] (by omega)
  have o3 := o3.row #[.int .i64 p, .int .i64 q]
  have B10 := Below.of_row B9 (g := f) (by omega) #[.int .i64 p, .int .i64 q]
  refine ⟨⟨OB, OE⟩, ?_⟩
  refine wpAnyH_done (by kernel_rfl) ?_ _
  subst hQ
  simp [bodyPostS, results, Tryd.results34]
  exact ⟨rfl, o1, o2, o3, B10⟩
set_option maxRecDepth 100000 in
set_option maxHeartbeats 4000000 in
theorem catch_pg {w : World} {n t y f : Nat} {ct cf : Array Value} {cy : Int} {p q : Int} {older : List PanicEntry} (h1 : Own w t 40 ct) (hs1 : ct.size = zPg.size) (h2 : Own w y 27 #[.int .i64 cy]) (h3 : Own w f 29 cf) (hs3 : cf.size = 2) (hn : n ≤ t ∧ n ≤ y ∧ n ≤ f) (hd : t ≠ y ∧ t ≠ f ∧ y ≠ f) :
    CallsD Tryd.prog 43 #[.pointer (some ⟨t, 0, none⟩), .pointer (some ⟨y, 0, none⟩), .pointer (some ⟨f, 0, none⟩)] (.panicking ({ v := .iface 29 (.agg #[.int .i64 p, .int .i64 q]), recovered := false } :: older)) w fun e u' w' =>
      e = .returned (.tuple #[]) ∧ u' = .panicking ({ v := .iface 29 (.agg #[.int .i64 p, .int .i64 q]), recovered := true } :: older) ∧ Own w' t 40 zPg ∧ Own w' y 27 #[.int .i64 30] ∧ Own w' f 29 #[.int .i64 p, .int .i64 q] ∧ Below n w w' := by
  refine callsD_of_wpS Tryd.func43 rfl fun c₀ cs hu => ?_
  apply wpS_seq
  apply wpS_region
  simp [wpOpsS, go_sem, recoverD, hu, Tryd.ntmps43, Exit.thenS]
  rw [show (#[.pointer (some ⟨t, 0, none⟩), .pointer (some ⟨y, 0, none⟩), .pointer (some ⟨f, 0, none⟩)] ++ (((Array.replicate 17 undef).setIfInBounds 4 (.iface 29 (.agg #[.int .i64 p, .int .i64 q]))).setIfInBounds 0 (.iface 29 (.agg #[.int .i64 p, .int .i64 q]))) : Array Value) = #[.pointer (some ⟨t, 0, none⟩), .pointer (some ⟨y, 0, none⟩), .pointer (some ⟨f, 0, none⟩), .iface 29 (.agg #[.int .i64 p, .int .i64 q]), undef, undef, undef, .iface 29 (.agg #[.int .i64 p, .int .i64 q]), undef, undef, undef, undef, undef, undef, undef, undef, undef, undef, undef, undef] from by kernel_rfl]
  refine wpS_of_wp ?_
  generalize hQ : (fun e a' w' => bodyPostS _ _ _ _ _ e a' _ w') = Q
  have F1 := any_eql
  have F2 := any_flt
  go_upto_region 2 with (fail)
  go_upto_region 6 with (fail)
  have l1 := h1.lt
  have l2 := h2.lt
  have l3 := h3.lt
  have OB := (Own.new w 29 #[.int .i64 p, .int .i64 q]).alloc (.cells #[.slice none 0 0, .slice none 0 0, .slice none 0 0] 40)
  have OE := Own.new (w.alloc (.cells #[.int .i64 p, .int .i64 q] 29)) 40 #[.slice none 0 0, .slice none 0 0, .slice none 0 0]
  rw [World.size_alloc] at OE
  have o1 := (h1.alloc (.cells #[.int .i64 p, .int .i64 q] 29)).alloc (.cells #[.slice none 0 0, .slice none 0 0, .slice none 0 0] 40)
  have o2 := (h2.alloc (.cells #[.int .i64 p, .int .i64 q] 29)).alloc (.cells #[.slice none 0 0, .slice none 0 0, .slice none 0 0] 40)
  have o3 := (h3.alloc (.cells #[.int .i64 p, .int .i64 q] 29)).alloc (.cells #[.slice none 0 0, .slice none 0 0, .slice none 0 0] 40)
  have B6 : Below n w ((w.alloc (.cells #[.int .i64 p, .int .i64 q] 29)).alloc (.cells #[.slice none 0 0, .slice none 0 0, .slice none 0 0] 40)) := ((Below.refl n w).alloc (by omega) _).alloc (by rw [World.size_alloc]; omega) _
  refine wp_region_held (S := fun W => Own W w.heap.size 29 #[.int .i64 p, .int .i64 q] ∧ Own W (w.heap.size + 1) 40 #[.slice none 0 0, .slice none 0 0, .slice none 0 0]) (by kernel_rfl) ?_
  change wpAnyH _ _ _ _ _ _ _ _ (((w.alloc (.cells #[.int .i64 p, .int .i64 q] 29)).alloc (.cells #[.slice none 0 0, .slice none 0 0, .slice none 0 0] 40)).drew)
  have B7 := B6.drew
  have OB : Own (((w.alloc (.cells #[.int .i64 p, .int .i64 q] 29)).alloc (.cells #[.slice none 0 0, .slice none 0 0, .slice none 0 0] 40)).drew) _ _ _ := OB
  have OE : Own (((w.alloc (.cells #[.int .i64 p, .int .i64 q] 29)).alloc (.cells #[.slice none 0 0, .slice none 0 0, .slice none 0 0] 40)).drew) _ _ _ := OE
  have o1 : Own (((w.alloc (.cells #[.int .i64 p, .int .i64 q] 29)).alloc (.cells #[.slice none 0 0, .slice none 0 0, .slice none 0 0] 40)).drew) _ _ _ := o1
  have o2 : Own (((w.alloc (.cells #[.int .i64 p, .int .i64 q] 29)).alloc (.cells #[.slice none 0 0, .slice none 0 0, .slice none 0 0] 40)).drew) _ _ _ := o2
  have o3 : Own (((w.alloc (.cells #[.int .i64 p, .int .i64 q] 29)).alloc (.cells #[.slice none 0 0, .slice none 0 0, .slice none 0 0] 40)).drew) _ _ _ := o3
  clear B6
  generalize (((w.alloc (.cells #[.int .i64 p, .int .i64 q] 29)).alloc (.cells #[.slice none 0 0, .slice none 0 0, .slice none 0 0] 40)).drew) = W7 at OB OE o1 o2 o3 B7 ⊢
  have S7 := And.intro OB OE
  refine dr_take 0 (.agg #[.slice none 0 0, .slice none 0 0, .slice none 0 0]) rfl rfl (by kernel_rfl) (by kernel_rfl) (by kernel_rfl) (fun _ _ _ h => by rw [← hQ] at h ⊢; exact h) (fun W h => run_ld rowPg rfl rfl h.2 rfl) S7 ?_
  change wpAnyH _ _ _ _ _ _ _ { tmps := #[.pointer (some ⟨t, 0, none⟩), .pointer (some ⟨y, 0, none⟩), .pointer (some ⟨f, 0, none⟩), .iface 29 (.agg #[.int .i64 p, .int .i64 q]), .pointer (some ⟨w.heap.size, 0, none⟩), .bool true, .pointer (some ⟨w.heap.size + 1, 0, none⟩), .iface 29 (.agg #[.int .i64 p, .int .i64 q]), .iface 29 (.agg #[.int .i64 p, .int .i64 q]), .bool false, .tuple #[.agg #[.int .i64 p, .int .i64 q], .bool true], .iface 29 (.agg #[.int .i64 p, .int .i64 q]), .tuple #[.agg #[.int .i64 p, .int .i64 q], .bool true], .agg #[.int .i64 p, .int .i64 q], .bool true, .bool true, .bool false, undef, .agg #[.slice none 0 0, .slice none 0 0, .slice none 0 0], undef], defers := [] } _
  refine dr_take 1 (.agg #[.int .i64 p, .int .i64 q]) rfl rfl (by kernel_rfl) (by kernel_rfl) (by kernel_rfl) (fun _ _ _ h => by rw [← hQ] at h ⊢; exact h) (fun W h => run_ld rowFl rfl rfl h.1 rfl) S7 ?_
  change wpAnyH _ _ _ _ _ _ _ { tmps := #[.pointer (some ⟨t, 0, none⟩), .pointer (some ⟨y, 0, none⟩), .pointer (some ⟨f, 0, none⟩), .iface 29 (.agg #[.int .i64 p, .int .i64 q]), .pointer (some ⟨w.heap.size, 0, none⟩), .bool true, .pointer (some ⟨w.heap.size + 1, 0, none⟩), .iface 29 (.agg #[.int .i64 p, .int .i64 q]), .iface 29 (.agg #[.int .i64 p, .int .i64 q]), .bool false, .tuple #[.agg #[.int .i64 p, .int .i64 q], .bool true], .iface 29 (.agg #[.int .i64 p, .int .i64 q]), .tuple #[.agg #[.int .i64 p, .int .i64 q], .bool true], .agg #[.int .i64 p, .int .i64 q], .bool true, .bool true, .bool false, undef, .agg #[.slice none 0 0, .slice none 0 0, .slice none 0 0], .agg #[.int .i64 p, .int .i64 q]], defers := [] } _
  refine dr_one 2 rfl rfl (by kernel_rfl) ?_
  refine wp_st_row (cs := #[.slice none 0 0, .slice none 0 0, .slice none 0 0]) rowPg rfl o1 rfl rfl rfl hs1 (by kernel_rfl) ?_
  have OB := OB.other (g := t) #[.slice none 0 0, .slice none 0 0, .slice none 0 0] (by omega)
  have OE := OE.other (g := t) #[.slice none 0 0, .slice none 0 0, .slice none 0 0] (by omega)
  have o1 := o1.row #[.slice none 0 0, .slice none 0 0, .slice none 0 0]
  have o2 := o2.other (g := t) #[.slice none 0 0, .slice none 0 0, .slice none 0 0] (by omega)
  have o3 := o3.other (g := t) #[.slice none 0 0, .slice none 0 0, .slice none 0 0] (by omega)
  have B8 := Below.of_row B7 (g := t) (by omega) #[.slice none 0 0, .slice none 0 0, .slice none 0 0]
  refine ⟨⟨OB, OE⟩, ?_⟩
  change wpAnyH _ _ _ _ _ _ _ { tmps := #[.pointer (some ⟨t, 0, none⟩), .pointer (some ⟨y, 0, none⟩), .pointer (some ⟨f, 0, none⟩), .iface 29 (.agg #[.int .i64 p, .int .i64 q]), .pointer (some ⟨w.heap.size, 0, none⟩), .bool true, .pointer (some ⟨w.heap.size + 1, 0, none⟩), .iface 29 (.agg #[.int .i64 p, .int .i64 q]), .iface 29 (.agg #[.int .i64 p, .int .i64 q]), .bool false, .tuple #[.agg #[.int .i64 p, .int .i64 q], .bool true], .iface 29 (.agg #[.int .i64 p, .int .i64 q]), .tuple #[.agg #[.int .i64 p, .int .i64 q], .bool true], .agg #[.int .i64 p, .int .i64 q], .bool true, .bool true, .bool false, undef, .agg #[.slice none 0 0, .slice none 0 0, .slice none 0 0], .agg #[.int .i64 p, .int .i64 q]], defers := [] } _
  refine dr_one 3 rfl rfl (by kernel_rfl) ?_
  refine wp_st_err (u := cy) rfl rfl (by rw [cell_of_row _ y 0 _ _ _ o2]; rfl) (own_frozen o2 0) ?_
  have E : (W7.setRow t #[.slice none 0 0, .slice none 0 0, .slice none 0 0]).setCell ⟨y, 0, none⟩ (.int .i64 30) = (W7.setRow t #[.slice none 0 0, .slice none 0 0, .slice none 0 0]).setRow y #[.int .i64 30] := setCell_row o2 0 _
  rw [E]
  have OB := OB.other (g := y) #[.int .i64 30] (by omega)
  have OE := OE.other (g := y) #[.int .i64 30] (by omega)
  have o1 := o1.other (g := y) #[.int .i64 30] (by omega)
  have o2 := o2.row #[.int .i64 30]
  have o3 := o3.other (g := y) #[.int .i64 30] (by omega)
  have B9 := Below.of_row B8 (g := y) (by omega) #[.int .i64 30]
  refine ⟨⟨OB, OE⟩, ?_⟩
  change wpAnyH _ _ _ _ _ _ _ { tmps := #[.pointer (some ⟨t, 0, none⟩), .pointer (some ⟨y, 0, none⟩), .pointer (some ⟨f, 0, none⟩), .iface 29 (.agg #[.int .i64 p, .int .i64 q]), .pointer (some ⟨w.heap.size, 0, none⟩), .bool true, .pointer (some ⟨w.heap.size + 1, 0, none⟩), .iface 29 (.agg #[.int .i64 p, .int .i64 q]), .iface 29 (.agg #[.int .i64 p, .int .i64 q]), .bool false, .tuple #[.agg #[.int .i64 p, .int .i64 q], .bool true], .iface 29 (.agg #[.int .i64 p, .int .i64 q]), .tuple #[.agg #[.int .i64 p, .int .i64 q], .bool true], .agg #[.int .i64 p, .int .i64 q], .bool true, .bool true, .bool false, undef, .agg #[.slice none 0 0, .slice none 0 0, .slice none 0 0], .agg #[.int .i64 p, .int .i64 q]], defers := [] } _
  refine dr_one 4 rfl rfl (by kernel_rfl) ?_
  refine wp_st_row (cs := #[.int .i64 p, .int .i64 q]) rowFl rfl o3 rfl rfl rfl hs3 (by kernel_rfl) ?_
  have OB := OB.other (g := f) #[.int .i64 p, .int .i64 q] (by omega)
  have OE := OE.other (g := f) #[.int .i64 p, .int .i64 q] (by omega)
  have o1 := o1.other (g := f) #[.int .i64 p, .int .i64 q] (by omega)
  have o2 := o2.other (g := f) #[.int .i64 p, .int .i64 q] (by omega)
  have o3 := o3.row #[.int .i64 p, .int .i64 q]
  have B10 := Below.of_row B9 (g := f) (by omega) #[.int .i64 p, .int .i64 q]
  refine ⟨⟨OB, OE⟩, ?_⟩
  refine wpAnyH_done (by kernel_rfl) ?_ _
  subst hQ
  simp [bodyPostS, results, Tryd.results43]
  exact ⟨rfl, o1, o2, o3, B10⟩
end Go.Proofs.YtjpmdafaaonpoaaDoor

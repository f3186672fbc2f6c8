/- The lexer: Each: a text's tokens, one by one. -/
import Derived.Test.YteedpojchapjgaaDoorScan2
namespace Go.Proofs.YteedpojchapjgaaDoor
set_option pp.deepTerms true
set_option pp.maxSteps 1000000
open Go.RowKit Go.Shelf
set_option linter.unusedVariables false
attribute [local go_sem] Oper.semAt_some

theorem yieldAt_wide {m m' : Nat} {P : Program} {l : Nat} {args : Array Value} {W : World} {R : Ending → World → Prop} (h : YieldAt Fence.wide m P l args W R) : YieldAt Fence.wide m' P l args W R := by
  obtain ⟨fn, tmps, assign, body, h1, h2, h3⟩ := h
  exact ⟨fn, tmps, assign, body, h1, h2, fun c cs _ => h3 c cs (room_wide _)⟩
/-- Each of a text that is not too long: a function that holds a copy of the text. -/
theorem each_any (s : ByteArray) (hs : s.size ≤ 65536) (w : World) :
    Calls Tryd.prog 26 #[.string s] w fun e w' => ∃ c, e = .returned (.func (.func 45) #[] #[.pointer (some ⟨c, 0, none⟩)]) ∧ w.heap.size ≤ c ∧ Boxed w' c 9 (.string s) ∧ Below w.heap.size w w' := by
  have hl' : ¬ (65536 : Int) < (s.size : Int) := by omega
  have HC : Hid (∀ W, Calls Tryd.prog 44 #[.string s] W fun e w' => e = .returned (.string s) ∧ Below W.heap.size W w') := fun W => clone_any s (by omega) W
  go_enter Tryd.func26, Tryd.ntmps26
  go_wp2_with (go_at_call 44; refine (HC.out _).mono ?_; rintro e w1 ⟨rfl, hb1⟩; have hbx : Boxed w1 w.heap.size 9 (.string s) := (hb1.block _ (by simp)).trans (World.alloc_heap_new w _); have hc1 := hbx.cell; have hf1 := hbx.frozen; have HB1 := Lib.hid hb1; have HX := Lib.hid hbx; clear hb1 hbx)
  go_ret
  refine ⟨_, rfl, Nat.le_refl _, ?_, ?_⟩
  · exact one_setCell HX.out
  · exact (((Below.refl _ w).alloc (Nat.le_refl _) _).trans (HB1.out.mono (by simp))).setCell (p := ⟨w.heap.size, 0, none⟩) (Nat.le_refl _) _
set_option maxRecDepth 100000 in
set_option maxHeartbeats 4000000 in
/-- The function that Each hands out, at a caller's loop. -/
theorem each2_in (n l c : Nat) (s : ByteArray) (hs : s.size ≤ 65536) (w0 : World) (T : LTabs w0) (J Jx : List Res → World → Prop)
    (hJ : ∀ p A B, J p A → Keep (selO w0.heap.size) A B → J p B) (hJx : ∀ p A B, Jx p A → Keep (selO w0.heap.size) A B → Jx p B)
    (hY : ∀ pre x W1, J pre W1 → okR s pre x → YieldAt Fence.wide (n - 1) Tryd.prog l (encR x) W1 fun e W' =>
      (e = .returned (.bool true) ∧ J (pre ++ [x]) W' ∧ Keep (selY w0.heap.size) W1 W') ∨ (e = .returned (.bool false) ∧ Jx (pre ++ [x]) W' ∧ Keep (selY w0.heap.size) W1 W'))
    (W : World) (hW : Below w0.heap.size w0 W) (hc : Boxed W c 9 (.string s)) (h0 : J [] W) :
    CallsIn Fence.wide n Tryd.prog 45 #[.func (.yield l) #[] #[], .pointer (some ⟨c, 0, none⟩)] W fun e W' => (∃ v, e = .returned v) ∧
      ((∃ xs, xs = (frontR s).1 ∧ J xs W') ∨ (∃ pre, True ∧ Jx pre W')) := by
  have hc1 := hc.cell
  have hlt := hc.lt
  have HT0 : Hid (∀ n : Nat, CallsIn Fence.wide n Tryd.prog 40 #[.pointer (some ⟨W.heap.size, 0, none⟩), .func (.yield l) #[] #[]] (W.alloc (.cells #[.string s, .int .i64 0, .int .i64 0, .int .i64 0] 57)) fun e W' => (∃ v, e = .returned v) ∧
      ((∃ xs, xs = (frontR s).1 ∧ J xs W') ∨ (∃ pre, True ∧ Jx pre W'))) := fun m => by
    refine CallsIn.mono (tokens_in m l W.heap.size s hs w0 T J Jx hJ hJx (fun pre x W1 h1 h2 => yieldAt_wide (hY pre x W1 h1 h2)) _ (hW.alloc hW.size _) hW.size (World.alloc_heap_new W _) (hJ _ _ _ h0 ((Keep.refl _ W).alloc _))) ?_
    rintro e W' ⟨hv, ⟨xs, ⟨hx, _⟩, hj⟩ | hr⟩
    · exact ⟨hv, .inl ⟨xs, hx, hj⟩⟩
    · exact ⟨hv, .inr hr⟩
  clear hJ hJx hY hW T h0 hc
  have hcmp : ∀ W : World, Sem.run Tryd.prog (binOp BinOp.neq 61 (Value.func (Fn.yield l) #[] #[]) Value.nilFunc) W = .ok (.bool true) W := fun W => by first | rfl | kernel_rfl | simp [go_sem]
  refine callsIn_of_wp Tryd.func45 rfl trivial ?_ rfl
  simp only [Tryd.ntmps45, List.size_toArray, List.length_cons, List.length_nil, Nat.reduceAdd, Nat.reduceSub, Array.replicate_succ, Array.replicate_zero, List.push_toArray, List.append_toArray, List.nil_append, List.cons_append]
  gi_wp2_with ((refine ⟨trivial, (by intro h; cases h), ?_⟩); gi_at_call 40; refine (HT0.out _).mono ?_; rintro e w2 ⟨⟨v, rfl⟩, hr⟩; have HR := Lib.hid hr; clear hr)
  first
    | exact bodyPost_ret (results_none rfl _ _ _) rfl ⟨⟨_, rfl⟩, HR.out⟩
    | (go_end0; exact ⟨⟨_, rfl⟩, HR.out⟩)
end Go.Proofs.YteedpojchapjgaaDoor

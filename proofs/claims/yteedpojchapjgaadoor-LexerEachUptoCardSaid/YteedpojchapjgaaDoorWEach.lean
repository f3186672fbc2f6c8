/- The lexer's laws: Each, told to stop behind so many tokens. -/
import Derived.Test.YteedpojchapjgaaDoorFaults2
import Derived.Test.YteedpojchapjgaaDoorEach
namespace Go.Proofs.YteedpojchapjgaaDoor
set_option pp.deepTerms true
set_option pp.maxSteps 1000000
open Go.RowKit Go.Shelf
set_option linter.unusedVariables false
attribute [local go_sem] Oper.semAt_some

theorem okR_take {s : ByteArray} {pre xs : List Res} {x : Res} {st : Int} (h : okR s pre x) (hx : xs = (frontR s).1) (h1 : (pre.length : Int) < st) (h2 : st ≤ (pre.length : Int) + 1) : pre ++ [x] = xs.take st.toNat := by
  unfold okR at h
  rw [← hx] at h
  have e : st.toNat = (pre ++ [x]).length := by simp; omega
  rw [e]
  exact (List.prefix_iff_eq_take.1 h)
theorem TokRow.take {W : World} {oa : Option Addr} {n cap : Nat} {xs : List Res} (h : TokRow W (.slice oa n cap) xs) {k : Nat} (hk : k ≤ xs.length) (cap' : Nat) : TokRow W (.slice oa k cap') (xs.take k) := by
  obtain ⟨oa', c', hu, hc⟩ := h
  cases hu
  have hl : (xs.take k).length = k := by simp; omega
  refine ⟨oa, cap', by rw [hl], fun i x hx => ?_⟩
  refine hc i x ?_
  rw [List.getElem?_take] at hx
  split at hx
  · exact hx
  · cases hx
theorem each_long (s : ByteArray) (hs : 65536 < s.size) (w : World) :
    Calls Tryd.prog 26 #[.string s] w fun e w' => e = .returned (.func (.func 43) #[] #[]) ∧ Below w.heap.size w w' := by
  have hl' : (65536 : Int) < (s.size : Int) := by omega
  go_enter Tryd.func26, Tryd.ntmps26
  go_wp2_with fail
  go_ret
  exact ⟨rfl, (Below.refl _ w).alloc (Nat.le_refl _) _⟩
theorem each1_in (n l : Nat) (W : World) {S : List Res → World → Prop} {R : World → Prop} {J : List Res → World → Prop} (hS : S [] W) (h0 : J [] W) :
    CallsIn Fence.wide n Tryd.prog 43 #[.func (.yield l) #[] #[]] W fun e W' => (∃ v, e = .returned v) ∧ ((∃ xs, S xs W' ∧ J xs W') ∨ R W') := by
  refine callsIn_of_wp Tryd.func43 rfl trivial ?_ rfl
  gi_wp2
  first
    | exact bodyPost_ret (results_none rfl _ _ _) rfl ⟨⟨_, rfl⟩, .inl ⟨[], hS, h0⟩⟩
    | (go_end0; exact ⟨⟨_, rfl⟩, .inl ⟨[], hS, h0⟩⟩)
end Go.Proofs.YteedpojchapjgaaDoor

/- A machine's steps, whole. -/
import Derived.Test.YtmpljhfinmfnbaaDoorVkj
import Derived.Test.YtmpljhfinmfnbaaDoorVkn
namespace Go.Proofs.YtmpljhfinmfnbaaDoor
open Go.RowKit
set_option linter.unusedVariables false
set_option maxRecDepth 100000
section
variable {w : World} {p : Nat} {s : Vm} {F : List Nat} {cv pv : Value} {sd : Option Addr} {L : List (Co × Value × Value)} {PL : List Nat}
theorem VmX.trim (h : VmX w p s F cv pv sd L PL) : VmX w p s (F.filter (fun k => decide (k < w.heap.size))) cv pv sd L PL := by
  have ok : ∀ k, k ∈ F → k < w.heap.size → k ∈ F.filter (fun k => decide (k < w.heap.size)) := fun k h1 h2 => List.mem_filter.2 ⟨h1, by simpa using h2⟩
  refine ⟨h.own, h.fst, h.cors, h.pgs, h.pgn, h.page, h.said, h.buf, h.code, h.apart, ok _ h.pF h.own.lt, fun k e => ok _ (h.cF k e) ?_, fun k e => ok _ (h.gF k e) ?_, fun x hx k e => ok _ (h.bF x hx k e) (ownsQ_lt (h.buf x hx) k e).2⟩
  · obtain ⟨_, _, h2⟩ := row_base h.cors e
    exact h2.lt
  · obtain ⟨_, _, h2⟩ := row_base h.pgs e
    exact h2.lt
/-- A machine's blocks lie there. -/
def FIn (n0 : Nat) (F : List Nat) (w : World) : Prop := ∀ k ∈ F, n0 ≤ k ∧ k < w.heap.size
theorem FIn.up {n0 : Nat} {w' : World} (h : FIn n0 F w) (hs : w.heap.size ≤ w'.heap.size) : FIn n0 F w' := fun k hk => ⟨(h k hk).1, Nat.lt_of_lt_of_le (h k hk).2 hs⟩
/-- A step is done. -/
def StepF (n0 : Nat) (w : World) (p : Nat) (s' : Vm) (F : List Nat) (w' : World) : Prop := ∃ F', VmS w' p s' F' ∧ FIn n0 F' w' ∧ KeepV F w w' ∧ ∀ k ∈ F', k ∈ F ∨ w.heap.size ≤ k
theorem StepR.stepF {n0 : Nat} {w' : World} {s' : Vm} (h : StepR w p s' F w') (hn : n0 ≤ w.heap.size) (hF : FIn n0 F w) : StepF n0 w p s' F w' := by
  obtain ⟨F', ⟨cv, pv, sd, L, PL, h1⟩, h2, h3⟩ := h
  refine ⟨_, ⟨cv, pv, sd, L, PL, h1.trim⟩, fun k hk => ?_, h2, fun k hk => h3 k (List.mem_filter.1 hk).1⟩
  obtain ⟨h4, h5⟩ := List.mem_filter.1 hk
  refine ⟨?_, by simpa using h5⟩
  rcases h3 k h4 with h6 | h6
  · exact (hF k h6).1
  · omega
theorem coreAt_some {k : Int} {c : Co} (h : coreAt s k = some c) : ∃ kk : Nat, k = (kk : Int) ∧ s.cores[kk]? = some c := by
  obtain ⟨h0, h1, h2⟩ := core_at h
  exact ⟨k.toNat, by omega, h2⟩
theorem p_Run {n0 : Nat} (h : VmS w p s F) (R : VmR s) (T : Tabs w) (hsl : s.said.length ≤ 4611686018427387904) (hl : 1 < n0) (hn : n0 ≤ w.heap.size) (hF : FIn n0 F w) (k : Int) : Calls Tryd.prog 17 #[.pointer (some ⟨p, 0, none⟩), .int .i64 k] w fun e w' => e = .returned (.tuple #[ddV (runV s k).2.1, .int .i64 (runV s k).2.2]) ∧ StepF n0 w p (runV s k).1 F w' := by
  have h0 := h
  obtain ⟨cv, pv, sd, L, PL, hx⟩ := h
  have stay : ∀ {w' : World}, Below w.heap.size w w' → StepF n0 w p s F w' := fun hb => (h0.stay hb).stepF hn hF
  unfold runV
  cases hc : coreAt s k with
  | none => exact (p_Run_no hx k hc).mono fun e w' ⟨h1, h2⟩ => ⟨h1, stay h2⟩
  | some c =>
    obtain ⟨kk, rfl, hc2⟩ := coreAt_some hc
    simp only
    by_cases hh : c.hal = true
    · rw [if_pos hh]
      exact (p_Run_hal hx R kk hc2 hh).mono fun e w' ⟨h1, h2⟩ => ⟨h1, stay h2⟩
    · rw [if_neg hh]
      have hh2 : c.hal = false := by simpa using hh
      by_cases hw : c.waits s.room = true
      · rw [if_pos hw]
        exact (p_Run_wait hx R kk hc2 hh2 hw).mono fun e w' ⟨h1, h2⟩ => ⟨h1, stay h2⟩
      · rw [if_neg hw]
        refine (p_Run_go hx R T hsl kk hc2 hh2 (by simpa using hw) (fun k hk => ⟨by have := (hF k hk).1; omega, (hF k hk).2⟩)).mono ?_
        rintro e w' ⟨h1, h2⟩
        exact ⟨h1, h2.stepF hn hF⟩
theorem p_Drain {n0 : Nat} (h : VmS w p s F) (R : VmR s) (hn : n0 ≤ w.heap.size) (hF : FIn n0 F w) (k : Int) : Calls Tryd.prog 18 #[.pointer (some ⟨p, 0, none⟩), .int .i64 k] w fun e w' => e = .returned (.tuple #[ddV (drainV s k).2.1, .int .i64 (drainV s k).2.2]) ∧ StepF n0 w p (drainV s k).1 F w' := by
  have h0 := h
  obtain ⟨cv, pv, sd, L, PL, hx⟩ := h
  have stay : ∀ {w' : World}, Below w.heap.size w w' → StepF n0 w p s F w' := fun hb => (h0.stay hb).stepF hn hF
  unfold drainV
  cases hc : coreAt s k with
  | none => exact (p_Drain_no hx k hc).mono fun e w' ⟨h1, h2⟩ => ⟨h1, stay h2⟩
  | some c =>
    obtain ⟨kk, rfl, hc2⟩ := coreAt_some hc
    simp only
    cases hb : c.buf with
    | nil => exact (p_Drain_nil hx R kk hc2 hb).mono fun e w' ⟨h1, h2⟩ => ⟨h1, stay h2⟩
    | cons x r =>
      simp only [Int.toNat_natCast]
      exact (p_Drain_go hx R kk hc2 (fun k hk => (hF k hk).2) hb).mono fun e w' ⟨h1, h2⟩ => ⟨h1, h2.stepF hn hF⟩
set_option maxHeartbeats 4000000 in
theorem p_Cores (h : VmS w p s F) : Calls Tryd.prog 23 #[.pointer (some ⟨p, 0, none⟩)] w fun e w' => e = .returned (.int .i64 (s.cores.length : Int)) ∧ w = w' := by
  obtain ⟨cv, pv, sd, L, PL, hx⟩ := h
  obtain ⟨a1, c1, e1⟩ := row_slice hx.cors
  have p0 : w.cell? ⟨p, 0, none⟩ = some (.slice a1 L.length c1) := by rw [← e1]; exact row_cellsO hx.own 0 _ rfl
  rw [← hx.len]
  clear hx e1
  go_enter Tryd.func23, Tryd.ntmps23
  go_wp2
  go_ret
  exact ⟨rfl, rfl⟩
/-- What a step prints is no more than one. -/
theorem go_said (s : Vm) (k : Nat) (c : Co) : (goI s k c).1.said.length ≤ s.said.length + 1 := by
  unfold goI
  simp only
  repeat' split
  all_goals simp
theorem run_said (s : Vm) (k : Int) : (runV s k).1.said.length ≤ s.said.length + 1 := by
  unfold runV
  cases coreAt s k with
  | none => simp
  | some c =>
    simp only
    split
    · simp
    · split
      · simp
      · exact go_said _ _ _
theorem drain_said (s : Vm) (k : Int) : (drainV s k).1.said.length = s.said.length := by
  unfold drainV
  cases coreAt s k with
  | none => rfl
  | some c => simp only; split <;> rfl
theorem step_said (s : Vm) (q k : Int) : (stepV s q k).1.said.length ≤ s.said.length + 1 := by
  unfold stepV
  split
  · exact run_said s k
  · split
    · rw [drain_said]; omega
    · simp
end
end Go.Proofs.YtmpljhfinmfnbaaDoor

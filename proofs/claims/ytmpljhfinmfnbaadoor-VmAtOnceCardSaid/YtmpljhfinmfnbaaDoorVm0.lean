/- The machine: pure. -/
import Derived.Test.YtmpljhfinmfnbaaDoorGc0
import Derived.Test.YtmpljhfinmfnbaaDoorVdo
namespace Go.Proofs.YtmpljhfinmfnbaaDoor
open Go.RowKit
set_option linter.unusedVariables false
set_option maxRecDepth 100000
/-- A store that waits. -/
structure Sto where
  p : Int
  a : Int
  x : Int
/-- A core. -/
structure Co where
  pc : Int
  hal : Bool
  regs : List Int
  buf : List Sto
  code : List Ins
/-- A machine. -/
structure Vm where
  cores : List Co
  room : Int
  mem : List Int
  said : List (Int × Int)
structure Dd where
  k : Int
  c : Int
  p : Int
  a : Int
  x : Int
  y : Int
  own : Bool
def stoC (s : Sto) : List Value := [.int .i64 s.p, .int .i64 s.a, .int .i64 s.x]
def stoF (l : List Sto) : List Value := l.flatMap stoC
def ddC (d : Dd) : List Value := [.int .u8 d.k, .int .i64 d.c, .int .i64 d.p, .int .i64 d.a, .int .i64 d.x, .int .i64 d.y, .bool d.own]
def ddV (d : Dd) : Value := .agg (ddC d).toArray
def d0 : Dd := ⟨0, 0, 0, 0, 0, 0, false⟩
def I0 : Ins := ⟨0, 0, 0, 0, 0, 0, 0, 0, 0⟩
def Co.next (c : Co) : Ins := c.code.getD c.pc.toNat I0
def drainB (k : Int) : Bool := k == 5 || (k == 6 || k == 7)
def Co.waits (c : Co) (room : Int) : Bool := bif drainB c.next.k then decide (0 < c.buf.length) else (c.next.k == 4 && decide (room ≤ c.buf.length))
/-- The newest store to an address. -/
def newS : List Sto → Int → Option Int
  | [], _ => none
  | s :: r, a => match newS r a with | some x => some x | none => if s.a = a then some s.x else none
theorem newS_app (l : List Sto) (s : Sto) (a : Int) : newS (l ++ [s]) a = if s.a = a then some s.x else newS l a := by
  induction l with
  | nil => rfl
  | cons t r ih =>
    show (match newS (r ++ [s]) a with | some x => some x | none => if t.a = a then some t.x else none) = _
    rw [ih]
    by_cases h : s.a = a
    · rw [if_pos h, if_pos h]
    · rw [if_neg h, if_neg h]
      rfl
def rget (l : List Int) (i : Int) : Int := l.getD i.toNat 0
def rset (l : List Int) (i x : Int) : List Int := l.set i.toNat x
/-- What a core does that need not wait. -/
def goI (s : Vm) (k : Nat) (c : Co) : Vm × Dd :=
  let i := c.next
  let u : Co := { c with pc := c.pc + 1 }
  let d : Dd := ⟨1, k, c.pc, 0, 0, 0, false⟩
  let put (x : Co) : Vm := { s with cores := s.cores.set k x }
  if i.k = 1 then (put { u with regs := rset c.regs i.d i.wd }, d)
  else if i.k = 2 then (put { u with regs := rset c.regs i.d (opX i.o (rget c.regs i.a) (rget c.regs i.b)) }, d)
  else if i.k = 3 then
    let x := (newS c.buf i.ad).getD (rget s.mem i.ad)
    (put { u with regs := rset c.regs i.d x }, ⟨2, k, c.pc, i.ad, x, 0, (newS c.buf i.ad).isSome⟩)
  else if i.k = 4 then (put { u with buf := c.buf ++ [⟨c.pc, i.ad, rget c.regs i.a⟩] }, ⟨3, k, c.pc, i.ad, rget c.regs i.a, 0, false⟩)
  else if i.k = 5 then ({ put { u with regs := rset c.regs i.d (rget s.mem i.ad) } with mem := rset s.mem i.ad (rget c.regs i.d) }, ⟨4, k, c.pc, i.ad, rget s.mem i.ad, rget c.regs i.d, false⟩)
  else if i.k = 6 then (put u, ⟨5, k, c.pc, 0, 0, 0, false⟩)
  else if i.k = 7 then ({ put u with said := s.said ++ [((k : Int), rget c.regs i.a)] }, ⟨6, k, c.pc, 0, rget c.regs i.a, 0, false⟩)
  else if i.k = 8 then (put { c with pc := i.tt }, d)
  else if i.k = 9 then (put (if rget c.regs i.a = 0 then { c with pc := i.tt } else u), d)
  else (put { c with hal := true }, ⟨7, k, c.pc, 0, 0, 0, false⟩)
def coreAt (s : Vm) (k : Int) : Option Co := if 0 ≤ k then s.cores[k.toNat]? else none
def runV (s : Vm) (k : Int) : Vm × Dd × Int :=
  match coreAt s k with
  | none => (s, d0, 180)
  | some c => if c.hal = true then (s, d0, 0) else if c.waits s.room = true then (s, d0, 181) else ((goI s k.toNat c).1, (goI s k.toNat c).2, 0)
def drainV (s : Vm) (k : Int) : Vm × Dd × Int :=
  match coreAt s k with
  | none => (s, d0, 180)
  | some c => match c.buf with
    | [] => (s, d0, 0)
    | x :: r => ({ s with cores := s.cores.set k.toNat { c with buf := r }, mem := rset s.mem x.a x.x }, ⟨8, k, x.p, x.a, x.x, 0, false⟩, 0)
def stepV (s : Vm) (q k : Int) : Vm × Dd × Int := if q = 1 then runV s k else if q = 2 then drainV s k else (s, d0, 182)
def newC (c : Cor) : Co := ⟨0, false, List.replicate 16 0, [], c.code⟩
def newV (o : Ob) : Vm := ⟨o.cores.map newC, o.bf, o.mem, []⟩
/-- What a machine is always like. -/
structure CoR (room mem : Int) (c : Co) : Prop where
  regs : c.regs.length = 16
  pc : 0 ≤ c.pc ∧ c.pc < c.code.length
  len : c.code.length ≤ 16384
  code : ∀ i ∈ c.code, rightB i c.code.length mem = true ∧ rgI i
  last : ∀ i, c.code[c.code.length - 1]? = some i → i.k = 8 ∨ i.k = 10
  blen : (c.buf.length : Int) ≤ room
  buf : ∀ x ∈ c.buf, 0 ≤ x.a ∧ x.a < mem
structure VmR (s : Vm) : Prop where
  room : 1 ≤ s.room ∧ s.room ≤ 16
  mem : s.mem.length ≤ 4096
  len : s.cores.length ≤ 8
  cores : ∀ c ∈ s.cores, CoR s.room s.mem.length c
theorem rset_len (l : List Int) (i x : Int) : (rset l i x).length = l.length := List.length_set ..
theorem CoR.next_mem {room mem : Int} {c : Co} (h : CoR room mem c) : c.code[c.pc.toNat]? = some c.next ∧ c.next ∈ c.code := by
  have hp := h.pc
  have hl : c.pc.toNat < c.code.length := by omega
  have e : c.code[c.pc.toNat]? = some c.next := by
    unfold Co.next
    rw [List.getD_eq_getElem?_getD, List.getElem?_eq_getElem hl]
    rfl
  exact ⟨e, List.mem_of_getElem? e⟩
theorem CoR.right {room mem : Int} {c : Co} (h : CoR room mem c) : rightB c.next c.code.length mem = true ∧ rgI c.next := h.code _ h.next_mem.2
/-- What is right of an instruction, told. -/
structure RiI (i : Ins) (n m : Int) : Prop where
  k : 0 < i.k ∧ i.k < 11
  d : i.k = 1 ∨ i.k = 2 ∨ i.k = 3 ∨ i.k = 5 → 0 ≤ i.d ∧ i.d < 16
  a : i.k = 2 ∨ i.k = 4 ∨ i.k = 7 ∨ i.k = 9 → 0 ≤ i.a ∧ i.a < 16
  b : i.k = 2 → twoB i.o = true → 0 ≤ i.b ∧ i.b < 16
  b0 : ¬ (i.k = 2 ∧ twoB i.o = true) → i.b = 0
  ad : i.k = 3 ∨ i.k = 4 ∨ i.k = 5 → 0 ≤ i.ad ∧ i.ad < m
  tt : i.k = 8 ∨ i.k = 9 → 0 ≤ i.tt ∧ i.tt < n
  o : i.k = 2 → 0 < levelOf i.o
theorem fit_in {u : Bool} {x c : Int} (h : fitB u x c = true) : (u = true → 0 ≤ x ∧ x < c) ∧ (u = false → x = 0) := by
  cases u with
  | true =>
    have h : inB x c = true := h
    simp only [inB, Bool.and_eq_true, decide_eq_true_eq] at h
    exact ⟨fun _ => h, fun q => by cases q⟩
  | false =>
    have h : (x == 0) = true := h
    exact ⟨fun q => (by cases q), fun _ => eq_of_beq h⟩
theorem right_told {i : Ins} {n m : Int} (h : rightB i n m = true) : RiI i n m := by
  simp only [rightB, Bool.and_eq_true] at h
  obtain ⟨h1, h2, h3, h4, h5, h6, h7, h8, h9⟩ := h
  have hk : 0 < i.k ∧ i.k < 11 := by have := kB_iff.1 h1; omega
  refine ⟨hk, fun q => (fit_in h4).1 ?_, fun q => (fit_in h5).1 ?_, fun q t => (fit_in h6).1 ?_, fun q => (fit_in h6).2 ?_, fun q => (fit_in h7).1 ?_, fun q => (fit_in h8).1 ?_, fun q => ?_⟩
  · unfold dB; rcases q with e | e | e | e <;> rw [e] <;> decide
  · unfold aB; rcases q with e | e | e | e <;> rw [e] <;> decide
  · unfold bB; rw [q, t]; decide
  · unfold bB
    rw [Bool.and_eq_false_iff]
    by_cases e : i.k = 2
    · right
      cases ht : twoB i.o with
      | true => exact absurd ⟨e, ht⟩ q
      | false => rfl
    · left; simpa using e
  · unfold adB; rcases q with e | e | e <;> rw [e] <;> decide
  · unfold toB; rcases q with e | e <;> rw [e] <;> decide
  · unfold opB at h3; rw [q] at h3; simpa using h3
theorem set_mem {α : Type} {l : List α} {k : Nat} {x y : α} (h : y ∈ l.set k x) : y = x ∨ y ∈ l := by
  rcases List.mem_or_eq_of_mem_set h with h | h
  · exact .inr h
  · exact .inl h
theorem VmR.put {s : Vm} (h : VmR s) (k : Nat) {c : Co} (hc : CoR s.room s.mem.length c) : VmR { s with cores := s.cores.set k c } :=
  ⟨h.room, h.mem, by rw [List.length_set]; exact h.len, fun y hy => by
    rcases set_mem hy with rfl | hy
    · exact hc
    · exact h.cores y hy⟩
theorem VmR.setMem {s : Vm} (h : VmR s) (a x : Int) : VmR { s with mem := rset s.mem a x } :=
  ⟨h.room, by rw [rset_len]; exact h.mem, h.len, fun y hy => by rw [rset_len]; exact h.cores y hy⟩
theorem VmR.setSaid {s : Vm} (h : VmR s) (l : List (Int × Int)) : VmR { s with said := l } := ⟨h.room, h.mem, h.len, h.cores⟩
theorem CoR.setRegs {room mem : Int} {c : Co} (h : CoR room mem c) (a x : Int) : CoR room mem { c with regs := rset c.regs a x } := ⟨by rw [rset_len]; exact h.regs, h.pc, h.len, h.code, h.last, h.blen, h.buf⟩
theorem CoR.setPc {room mem : Int} {c : Co} (h : CoR room mem c) {p : Int} (hp : 0 ≤ p ∧ p < c.code.length) : CoR room mem { c with pc := p } := ⟨h.regs, hp, h.len, h.code, h.last, h.blen, h.buf⟩
theorem CoR.setHal {room mem : Int} {c : Co} (h : CoR room mem c) (b : Bool) : CoR room mem { c with hal := b } := ⟨h.regs, h.pc, h.len, h.code, h.last, h.blen, h.buf⟩
theorem CoR.step {room mem : Int} {c : Co} (h : CoR room mem c) (h8 : c.next.k ≠ 8) (h10 : c.next.k ≠ 10) : CoR room mem { c with pc := c.pc + 1 } := by
  have hp := h.pc
  refine h.setPc ⟨by omega, ?_⟩
  apply Int.lt_of_not_ge
  intro hge
  have e : c.pc.toNat = c.code.length - 1 := by omega
  have h1 := h.next_mem.1
  rw [e] at h1
  rcases h.last _ h1 with q | q
  · exact h8 q
  · exact h10 q
theorem go_right {s : Vm} (h : VmR s) {k : Nat} {c : Co} (hc : s.cores[k]? = some c) (hw : c.waits s.room = false) : VmR (goI s k c).1 := by
  have hr := h.cores c (List.mem_of_getElem? hc)
  have ht := right_told hr.right.1
  have hst := hr.step
  unfold goI
  by_cases e1 : c.next.k = 1
  · simp only [e1, if_true]
    exact h.put k ((hst (by omega) (by omega)).setRegs _ _)
  by_cases e2 : c.next.k = 2
  · simp only [e2, Int.reduceEq, if_true, if_false]
    exact h.put k ((hst (by omega) (by omega)).setRegs _ _)
  by_cases e3 : c.next.k = 3
  · simp only [e3, Int.reduceEq, if_true, if_false]
    exact h.put k ((hst (by omega) (by omega)).setRegs _ _)
  by_cases e4 : c.next.k = 4
  · simp only [e4, Int.reduceEq, if_true, if_false]
    have hs := hst (by omega) (by omega)
    refine h.put k ⟨hs.regs, hs.pc, hs.len, hs.code, hs.last, ?_, ?_⟩
    · have hb : ¬ s.room ≤ (c.buf.length : Int) := by
        intro q
        unfold Co.waits drainB at hw
        rw [e4] at hw
        have : decide (s.room ≤ (c.buf.length : Int)) = false := hw
        simp at this
        omega
      simp only [List.length_append, List.length_cons, List.length_nil]
      omega
    · intro x hx
      rcases List.mem_append.1 hx with hx | hx
      · exact hs.buf x hx
      · obtain rfl := List.mem_singleton.1 hx
        exact ht.ad (.inr (.inl e4))
  by_cases e5 : c.next.k = 5
  · simp only [e5, Int.reduceEq, if_true, if_false]
    exact (h.put k ((hst (by omega) (by omega)).setRegs _ _)).setMem _ _
  by_cases e6 : c.next.k = 6
  · simp only [e6, Int.reduceEq, if_true, if_false]
    exact h.put k (hst (by omega) (by omega))
  by_cases e7 : c.next.k = 7
  · simp only [e7, Int.reduceEq, if_true, if_false]
    exact (h.put k (hst (by omega) (by omega))).setSaid _
  by_cases e8 : c.next.k = 8
  · simp only [e8, Int.reduceEq, if_true, if_false]
    exact h.put k (hr.setPc (ht.tt (.inl e8)))
  by_cases e9 : c.next.k = 9
  · simp only [e9, Int.reduceEq, if_true, if_false]
    split
    · exact h.put k (hr.setPc (ht.tt (.inr e9)))
    · exact h.put k (hst (by omega) (by omega))
  · simp only [e1, e2, e3, e4, e5, e6, e7, e8, e9, if_false]
    exact h.put k (hr.setHal true)
theorem core_at {s : Vm} {k : Int} {c : Co} (h : coreAt s k = some c) : 0 ≤ k ∧ k.toNat < s.cores.length ∧ s.cores[k.toNat]? = some c := by
  unfold coreAt at h
  split at h
  · next h0 => exact ⟨h0, (List.getElem?_eq_some_iff.1 h).1, h⟩
  · cases h
theorem core_no {s : Vm} {k : Int} (h : coreAt s k = none) : k < 0 ∨ (s.cores.length : Int) ≤ k := by
  unfold coreAt at h
  split at h
  · next h0 => have := List.getElem?_eq_none_iff.1 h; omega
  · omega
theorem run_right {s : Vm} (h : VmR s) (k : Int) : VmR (runV s k).1 := by
  unfold runV
  cases hc : coreAt s k with
  | none => exact h
  | some c =>
    simp only
    obtain ⟨h0, h1, h2⟩ := core_at hc
    split
    · exact h
    · split
      · exact h
      · next hw => exact go_right h h2 (by simpa using hw)
theorem drain_right {s : Vm} (h : VmR s) (k : Int) : VmR (drainV s k).1 := by
  unfold drainV
  cases hc : coreAt s k with
  | none => exact h
  | some c =>
    simp only
    obtain ⟨h0, h1, h2⟩ := core_at hc
    have hr := h.cores c (List.mem_of_getElem? h2)
    cases hb : c.buf with
    | nil => exact h
    | cons x r =>
      simp only
      have hl := hr.blen
      rw [hb, List.length_cons] at hl
      exact (h.put k.toNat (c := { c with buf := r }) ⟨hr.regs, hr.pc, hr.len, hr.code, hr.last, by simp only; omega, fun y hy => hr.buf y (by rw [hb]; exact List.mem_cons_of_mem _ hy)⟩).setMem _ _
theorem step_right {s : Vm} (h : VmR s) (q k : Int) : VmR (stepV s q k).1 := by
  unfold stepV
  split
  · exact run_right h k
  · split
    · exact drain_right h k
    · exact h
end Go.Proofs.YtmpljhfinmfnbaaDoor

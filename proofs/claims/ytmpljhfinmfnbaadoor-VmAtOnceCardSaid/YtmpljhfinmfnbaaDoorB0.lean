/- Small lemmas. -/
import Derived.Test.YtmpljhfinmfnbaaDoorProg
import Derived.WalkKit
import Derived.ProofKit
import Derived.LaidMore
import Derived.OpenShut
import Derived.ShutString
import Derived.Stop.Joined
import Derived.Below
import Derived.WalkSmall
import Derived.SevenTiedAt
import Derived.Handy
import Derived.PlainAid
import Derived.Lib.LaidTab
import Derived.Lib.Hide
import Derived.Lib.Strings
import Derived.Laws.Rows
import Derived.Laws.Tables
import Derived.Lib.ItoaNum
import Derived.MakeChecks
import Derived.WalkLawsBesides
import Derived.Lib.Bytealg
import Derived.RangeFuncNested
import Derived.RangeFuncBound
import Derived.RangeFuncCalls
import Derived.RangeFuncLeaves
import Derived.Shelf.Abstract
import Derived.Shelf.RegionOpen
import Derived.OwnWalkIn
import Derived.TacticsInMore
import Derived.LoopNIn
import Derived.LoopIn
import Derived.Maps.AppendAt
import Derived.Sort.QuietIn
import Derived.Deep.QuietTactic
import Derived.BigQuiet
import Derived.Laws.EntriesVeiled
import Derived.BigRegion
import Derived.Outline
import Derived.Deep.DeepCutAuto
import Derived.OrdersHeld
import Derived.Laws.OwnMore
import Derived.Lib.AppendStr
import Derived.Lib.Builder
import Derived.Lib.UnsafeStr
import Derived.Laws.Externs
import Derived.Shelf.RegionOpenPlain
namespace Go.Proofs.YtmpljhfinmfnbaaDoor
open Go.RowKit
set_option linter.unusedVariables false
set_option maxRecDepth 100000
def wordsL : List (List UInt8) := [[115, 104, 97, 114, 101, 100], [108, 111, 99, 107], [116, 104, 114, 101, 97, 100], [108, 111, 99, 97, 108], [105, 102], [101, 108, 115, 101], [119, 104, 105, 108, 101], [112, 114, 105, 110, 116], [115, 107, 105, 112], [115, 119, 97, 112]]
theorem lt_of_at {w : World} {a : Addr} {v : Value} (h : w.cell? a = some v) : a.block < w.heap.size := by
  apply Nat.lt_of_not_le
  intro hn
  simp [World.cell?, Array.getElem?_eq_none hn] at h
theorem int_f {a b : Int} (h : a ≠ b) : (a == b) = false := by simpa using h
theorem int_t {a b : Int} (h : a = b) : (a == b) = true := by simpa using h
def letterB (c : Int) : Bool := decide (97 ≤ c ∧ c ≤ 122 ∨ 65 ≤ c ∧ c ≤ 90 ∨ c = 95)
def digitB (c : Int) : Bool := decide (48 ≤ c ∧ c ≤ 57)
def namedB (c : Int) : Bool := letterB c || digitB c
/-- How many bytes at the beginning are such. -/
def spanN (p : Int → Bool) : List UInt8 → Nat
  | [] => 0
  | c :: r => if p (c.toNat : Int) = true then spanN p r + 1 else 0
def wordAt (k : Nat) : ByteArray := ⟨(wordsL.getD k []).toArray⟩
/-- Is it a word of the language? -/
def wordB (s : ByteArray) : Bool := (wordAt 0).toList == s.toList || (wordAt 1).toList == s.toList || (wordAt 2).toList == s.toList || (wordAt 3).toList == s.toList || (wordAt 4).toList == s.toList || (wordAt 5).toList == s.toList || (wordAt 6).toList == s.toList || (wordAt 7).toList == s.toList || (wordAt 8).toList == s.toList || (wordAt 9).toList == s.toList
/-- Each block that is chosen lies in B as it lay in A; the streams are as they were. -/
structure Keep (sel : Nat → Obj → Prop) (A B : World) : Prop where
  os : B.os = A.os
  tape : B.tape = A.tape
  output : B.output = A.output
  size : A.heap.size ≤ B.heap.size
  block : ∀ k o, A.heap[k]? = some o → sel k o → B.heap[k]? = some o
theorem Keep.refl (sel : Nat → Obj → Prop) (A : World) : Keep sel A A := ⟨rfl, rfl, rfl, Nat.le_refl _, fun _ _ h _ => h⟩
theorem Keep.trans {sel : Nat → Obj → Prop} {A B C : World} (h : Keep sel A B) (k : Keep sel B C) : Keep sel A C :=
  ⟨k.os.trans h.os, k.tape.trans h.tape, k.output.trans h.output, Nat.le_trans h.size k.size, fun i o hi hs => k.block i o (h.block i o hi hs) hs⟩
theorem Keep.mono {sel sel' : Nat → Obj → Prop} {A B : World} (h : Keep sel A B) (hm : ∀ k o, sel' k o → sel k o) : Keep sel' A B :=
  ⟨h.os, h.tape, h.output, h.size, fun k o hk hs => h.block k o hk (hm k o hs)⟩
theorem Keep.grown {sel : Nat → Obj → Prop} {A B C : World} {row : Option Nat} (h : Keep sel A B) (hg : B.grownBy C row) (hr : ∀ r o, row = some r → B.heap[r]? = some o → ¬ sel r o) : Keep sel A C :=
  h.trans ⟨hg.os, hg.tape, hg.output, hg.size, fun k o hk hs => (hg.block k (Array.getElem?_eq_some_iff.1 hk).1 (fun e => hr k o e.symm hk hs)).trans hk⟩
theorem Keep.alloc {sel : Nat → Obj → Prop} {A B : World} (h : Keep sel A B) (o : Obj) : Keep sel A (B.alloc o) :=
  h.grown (World.grownBy_alloc B o none) (fun _ _ e => by cases e)
theorem grownBy_setCellAt (W : World) (p : Addr) (v : Value) : W.grownBy (W.setCell p v) (some p.block) :=
  ⟨rfl, rfl, rfl, by simp [World.setCell], fun k _ hk => Below.heap_setCell _ _ _ k (fun e => hk (by rw [e]))⟩
theorem Keep.setCell {sel : Nat → Obj → Prop} {A B : World} (h : Keep sel A B) {p : Addr} {o : Obj} (u : Value) (hl : B.heap[p.block]? = some o) (hs : ¬ sel p.block o) : Keep sel A (B.setCell p u) :=
  h.grown (grownBy_setCellAt B p u) (fun r x e hx => by cases e; rw [hl] at hx; cases hx; exact hs)
theorem Keep.below {sel : Nat → Obj → Prop} {A B : World} {n : Nat} (h : Keep sel A B) (hn : n ≤ A.heap.size) (hs : ∀ k o, k < n → sel k o) : Below n A B :=
  ⟨h.os, h.tape, h.output, h.size, fun k hk => by
    have hlt : k < A.heap.size := by omega
    rw [h.block k _ (Array.getElem?_eq_getElem hlt) (hs k _ hk), Array.getElem?_eq_getElem hlt]⟩
/-- A block of cells of a type. -/
def IsTy (t : TypeId) (o : Obj) : Prop := ∃ cs f, o = .cells cs t f
theorem below_drewN {B : Nat} {a w : World} (h : Below B a w) (n : Nat) : Below B a (w.drewN n) := ⟨h.os, h.tape, h.output, h.size, h.block⟩
theorem Keep.drewN {sel : Nat → Obj → Prop} {A B : World} (h : Keep sel A B) (n : Nat) : Keep sel A (B.drewN n) := ⟨h.os, h.tape, h.output, h.size, h.block⟩
theorem setRow_other {W : World} {b g : Nat} (cs : Array Value) (h : b ≠ g) : (W.setRow g cs).heap[b]? = W.heap[b]? := by
  simp only [World.setRow, Array.getElem?_modify]
  rw [if_neg (fun e => h e.symm)]
/-- A block of the call's own. -/
def Own (W : World) (b : Nat) (t : TypeId) (cs : Array Value) : Prop := W.heap[b]? = some (.cells cs t (0, 0))
theorem Own.new (W : World) (t : TypeId) (cs : Array Value) : Own (W.alloc (.cells cs t)) W.heap.size t cs := World.alloc_heap_new W _
theorem Own.lt {W : World} {b : Nat} {t : TypeId} {cs : Array Value} (h : Own W b t cs) : b < W.heap.size := (Array.getElem?_eq_some_iff.1 h).1
theorem Own.alloc {W : World} {b : Nat} {t : TypeId} {cs : Array Value} (h : Own W b t cs) (o : Obj) : Own (W.alloc o) b t cs := (((Below.refl _ W).alloc (Nat.le_refl _) o).block _ h.lt).trans h
theorem Own.below {W W' : World} {b : Nat} {t : TypeId} {cs : Array Value} (h : Own W b t cs) (hb : Below W.heap.size W W') : Own W' b t cs := (hb.block _ h.lt).trans h
theorem Own.drewN {W : World} {b : Nat} {t : TypeId} {cs : Array Value} (h : Own W b t cs) (n : Nat) : Own (W.drewN n) b t cs := h
theorem Own.row {W : World} {b : Nat} {t : TypeId} {cs : Array Value} (h : Own W b t cs) (ds : Array Value) : Own (W.setRow b ds) b t ds := setRow_heap _ _ _ _ _ _ h
theorem Own.other {W : World} {b g : Nat} {t : TypeId} {cs : Array Value} (h : Own W b t cs) (ds : Array Value) (hb : b ≠ g) : Own (W.setRow g ds) b t cs := (setRow_other ds hb).trans h
/-- A struct of so many cells. -/
def RowT (T : TypeId) (n : Nat) : Prop := ∃ d, Tryd.prog.underlying T = some d ∧ (match d with | .struct _ | .array _ _ => true | _ => false) = true ∧ (Tryd.prog.info? T).map (·.size) = some n
section
variable {ops : Array Oper} {rest : List Oper} {o : Oper} {a : Act} {w : World} {Q : Exit → Act → World → Prop} {T : TypeId} {n : Nat}
theorem ld (hT : RowT T n) (hgd : o.guard = none) {x : Operand} (ho : o.op = .load T x) {g : Nat} (hx : a.eval x = .pointer (some ⟨g, 0, none⟩)) {cs : Array Value} (hg : Own w g T cs) (hn : cs.size = n)
    (h : wpList Tryd.prog ops Q rest (a.put o.dst (.agg cs)) w) : wpList Tryd.prog ops Q (o :: rest) a w := by
  obtain ⟨d, h1, h2, h3⟩ := hT
  exact wpList_load_row hgd T x ho g hx T cs (0, 0) d hg h1 (by cases d <;> first | rfl | cases h2) (by rw [h3, hn]) h
theorem st (hT : RowT T n) (hgd : o.guard = none) {x y : Operand} (ho : o.op = .store T x y) {g : Nat} {cs old : Array Value} (hg : Own w g T old) (hx : a.eval x = .pointer (some ⟨g, 0, none⟩)) (hy : a.eval y = .agg cs) (hn : cs.size = n) (hm : old.size = n) (h1 : cs.all (·.oneCell') = true)
    (h : wpList Tryd.prog ops Q rest (a.put o.dst undef) (w.setRow g cs)) : wpList Tryd.prog ops Q (o :: rest) a w := by
  obtain ⟨d, _, _, h3⟩ := hT
  exact wpList_store_row hgd T x y ho g cs hx hy T old hg (by rw [h3, hn]) (by rw [hm, hn]) h1 h
theorem p_ret (hT : RowT T n) {fn : Func} {p : Tmp} {R : Ending → World → Prop} (hr : fn.results = #[.cell p T]) {g : Nat} {cs : Array Value} (hg : Own w g T cs) (hp : a.tmps.getD p undef = .pointer (some ⟨g, 0, none⟩)) (hd : a.defers = []) (hn : cs.size = n)
    (h : R (.returned (.agg cs)) w) : bodyPost Tryd.prog fn R .ret a w := by
  obtain ⟨d, h1, h2, h3⟩ := hT
  exact bodyPost_ret (results_cell_row hr _ _ g T cs (0, 0) d hp hg h1 (by cases d <;> first | rfl | cases h2) (by rw [h3, hn])) hd h
end
section
variable {P : Program} {md : Region.Mode} {ops : Array Oper} {Q : Exit → Act → World → Prop} {S : World → Prop} {fuel : Nat} {listed : Array Bool} {a : Act} {w : World}
/-- A quiet operation, first. -/
theorem dr_take (i : Nat) {oi : Oper} (v : Value) (hi : ops[i]? = some oi) (hg : oi.guard = none) (hs : Region.noSelect ops = true) (hf : Region.free md ops listed i = true) (hr : (Region.ready md ops listed).contains i = true)
    (hQ : ∀ c a w, Q (.panic c) (a.put oi.dst v) w → Q (.panic c) a w) (hrun : ∀ w, S w → (execOp a.eval oi).run P w = .ok (.value v) w) (hS : S w)
    (h : wpAnyH P md ops Q S fuel (listed.setIfInBounds i true) (a.put oi.dst v) w) : wpAnyH P md ops Q S (fuel + 1) listed a w :=
  wpAnyH_take hi hs hf hr hQ (.inl ⟨by simp [Region.wanted, hg], hrun⟩) hS h
/-- One operation alone may come up. -/
theorem dr_one (i : Nat) {oi : Oper} (hi : ops[i]? = some oi) (hg : oi.guard = none) (hr : Region.ready md ops listed = [i])
    (h : oi.wp P a w (fun a' w' => S w' ∧ wpAnyH P md ops Q S fuel (listed.setIfInBounds i true) a' w') Q) : wpAnyH P md ops Q S (fuel + 1) listed a w := by
  refine wpAnyH_all hr (by simp) fun j hj => ?_
  obtain rfl : j = i := by simpa using hj
  unfold wpOp
  simp only [hi, Region.wanted, hg]
  exact .inl h
/-- Two operations may come up. -/
theorem dr_two (i k : Nat) {oi ok : Oper} (hi : ops[i]? = some oi) (hk : ops[k]? = some ok) (hg : oi.guard = none) (hgk : ok.guard = none) (hr : Region.ready md ops listed = [i, k])
    (h : oi.wp P a w (fun a' w' => S w' ∧ wpAnyH P md ops Q S fuel (listed.setIfInBounds i true) a' w') Q)
    (h' : ok.wp P a w (fun a' w' => S w' ∧ wpAnyH P md ops Q S fuel (listed.setIfInBounds k true) a' w') Q) : wpAnyH P md ops Q S (fuel + 1) listed a w := by
  refine wpAnyH_all hr (by simp) fun j hj => ?_
  have hj' : j = i ∨ j = k := by simpa using hj
  unfold wpOp
  rcases hj' with rfl | rfl
  · simp only [hi, Region.wanted, hg]; exact .inl h
  · simp only [hk, Region.wanted, hgk]; exact .inl h'
end
/-- A row of the call's own stays. -/
theorem row_stays {W W' : World} {base : Nat} {T : TypeId} {n : Nat} {v : Value} {k : Nat} {xs : List Value} (h : W.ownsRow base T n v k xs) (hw : ∀ g, base ≤ g → v.ownBlock = some g → g < W.heap.size → W'.heap[g]? = W.heap[g]?) : W'.ownsRow base T n v k xs := by
  obtain ⟨h1, h2⟩ := h
  refine ⟨h1, ?_⟩
  rcases h2 with h2 | ⟨g, cap, cur, rfl, hb, hg, rest⟩
  · exact .inl h2
  · exact .inr ⟨g, cap, cur, rfl, hb, (hw g hb rfl (Array.getElem?_eq_some_iff.1 hg).1).trans hg, rest⟩
theorem row_below {W W' : World} {base : Nat} {T : TypeId} {n : Nat} {v : Value} {k : Nat} {xs : List Value} (h : W.ownsRow base T n v k xs) (hb : Below W.heap.size W W') : W'.ownsRow base T n v k xs := row_stays h fun g _ _ hg => hb.block g hg
section
variable {W : World}
theorem own_frozen {b : Nat} {T : TypeId} {cs : Array Value} (h : Own W b T cs) (i : Nat) : W.frozen? ⟨b, i, none⟩ = false := by
  unfold Own at h
  simp only [World.frozen?, h]; rfl
end
/-- Is it a name? -/
def nameB (s : ByteArray) : Bool := decide (0 < s.size) && (decide (s.size ≤ 32) && (!digitB (PlainAid.bt s 0) && (!wordB s && decide (spanN namedB s.data.toList = s.size))))
theorem size_setRow (W : World) (g : Nat) (cs : Array Value) : (W.setRow g cs).heap.size = W.heap.size := by
  simp [World.setRow]
theorem Below.of_row {B : Nat} {a W : World} (h : Below B a W) {g : Nat} (hg : B ≤ g) (cs : Array Value) : Below B a (W.setRow g cs) :=
  ⟨h.os, h.tape, h.output, by rw [size_setRow]; exact h.size, fun k hk => (setRow_other cs (by omega)).trans (h.block k hk)⟩
theorem lv_row {w : World} {g : Nat} {T : TypeId} {n : Nat} (hT : RowT T n) {cs : Array Value} (h : Own w g T cs) (hn : cs.size = n) : (loadVar T ⟨g, 0, none⟩).run Tryd.prog w = .ok (.agg cs) w := by
  obtain ⟨d, h1, h2, h3⟩ := hT
  exact run_loadVar_row w g T T cs (0, 0) d h h1 (by cases d <;> first | rfl | cases h2) (by rw [h3, hn])
theorem infoU8' : (Tryd.prog.info? 5).map (fun i => (i.zero, i.size, i.bytes)) = some (some (.int .u8 0), 1, 1) := by kernel_rfl
/-- The box of what is looked at. -/
def Bw (w : World) (T : TypeId) (r : Array Value) (W : World) : Prop := Own W w.heap.size T r ∧ Below w.heap.size w W
theorem bw_new (w : World) (T : TypeId) (r : Array Value) : Bw w T r (w.alloc (.cells r T)) := ⟨Own.new w T r, (Below.refl _ w).alloc (Nat.le_refl _) _⟩
theorem bw_below {w W W' : World} {T : TypeId} {r : Array Value} (h : Bw w T r W) (hb : Below W.heap.size W W') : Bw w T r W' := ⟨h.1.below hb, h.2.trans (hb.mono h.2.size)⟩
theorem and_t {R a b : Bool} (h : R = (a && b)) (ha : a = true) : R = b := by subst ha; exact h
theorem keep_below {sel : Nat → Obj → Prop} {W W' : World} (h : Below W.heap.size W W') : Keep sel W W' := ⟨h.os, h.tape, h.output, h.size, fun k o ho _ => (h.block _ (Array.getElem?_eq_some_iff.1 ho).1).trans ho⟩
section
variable {g h : ByteArray → ByteArray}
theorem bytes_same {a b : ByteArray} (h : (a.data.toList == b.data.toList) = true) : a = b := by
  have h := eq_of_beq h
  cases a with
  | mk a => cases b with
    | mk b => congr 1; exact Array.toList_inj.1 h
end
theorem bytes_eqT {a b : ByteArray} (h : a = b) : (a.toList == b.toList) = true := by subst h; simp
theorem bytes_eqF {a b : ByteArray} (h : a ≠ b) : (a.toList == b.toList) = false := by
  rw [Lib.toList_data, Lib.toList_data]
  exact beq_eq_false_iff_ne.2 fun e => h (bytes_same (by rw [e]; simp))
end Go.Proofs.YtmpljhfinmfnbaaDoor

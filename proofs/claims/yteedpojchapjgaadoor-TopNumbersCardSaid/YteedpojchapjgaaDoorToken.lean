/- The lexer: the scanner in memory; a token of its own. -/
import Derived.Test.YteedpojchapjgaaDoorValue
import Derived.Deep.RegionWith
import Derived.Deep.QuietTactic
import Derived.BigQuiet
import Derived.Deep.DeepMust
namespace Go.Proofs.YteedpojchapjgaaDoor
open Go.RowKit
set_option linter.unusedVariables false

theorem bcells {W w1 : World} (hb : Below W.heap.size W w1) : (∀ b o, b < W.heap.size → w1.cell? ⟨b, o, none⟩ = W.cell? ⟨b, o, none⟩) ∧ (∀ b o, b < W.heap.size → w1.frozen? ⟨b, o, none⟩ = W.frozen? ⟨b, o, none⟩) :=
  ⟨fun b o h => hb.cell (p := ⟨b, o, none⟩) h, fun b o h => hb.frozen (p := ⟨b, o, none⟩) h⟩
/-- Block b holds a scanner: its text, the byte that comes next, the first fault's place and rule. -/
def Sc (W : World) (b : Nat) (s : ByteArray) (p fa fr : Int) : Prop := W.heap[b]? = some (.cells #[.string s, .int .i64 p, .int .i64 fa, .int .i64 fr] 57 (0, 0))
theorem Sc.lt {W : World} {b : Nat} {s : ByteArray} {p fa fr : Int} (h : Sc W b s p fa fr) : b < W.heap.size := (Array.getElem?_eq_some_iff.1 h).1
theorem Sc.cells {W : World} {b : Nat} {s : ByteArray} {p fa fr : Int} (h : Sc W b s p fa fr) :
    (W.cell? ⟨b, 0, none⟩ = some (.string s) ∧ W.cell? ⟨b, 1, none⟩ = some (.int .i64 p) ∧ W.cell? ⟨b, 2, none⟩ = some (.int .i64 fa) ∧ W.cell? ⟨b, 3, none⟩ = some (.int .i64 fr)) ∧
    (W.frozen? ⟨b, 1, none⟩ = false ∧ W.frozen? ⟨b, 2, none⟩ = false ∧ W.frozen? ⟨b, 3, none⟩ = false) :=
  ⟨⟨cell_of_row W b 0 _ _ _ h, cell_of_row W b 1 _ _ _ h, cell_of_row W b 2 _ _ _ h, cell_of_row W b 3 _ _ _ h⟩, frozen_of_row W b 1 _ _ h, frozen_of_row W b 2 _ _ h, frozen_of_row W b 3 _ _ h⟩
theorem Sc.below {W W' : World} {b B : Nat} {s : ByteArray} {p fa fr : Int} (h : Sc W b s p fa fr) (hb : Below B W W') (hB : b < B) : Sc W' b s p fa fr := (hb.block b hB).trans h
def tokV (kind : Int) (x : ByteArray) (wd p : Int) : Value := .agg #[.int .u8 kind, .string x, .int .i64 wd, .int .i64 p]
def faultV (a r : Int) : Value := .agg #[.int .i64 a, .int .i64 r]
theorem kept2 {W w1 : World} (hb : Below W.heap.size W w1) (w : World) (A B : Obj) (hW : W.heap = ((w.alloc A).alloc B).heap) (hos : W.os = w.os) (htape : W.tape = w.tape) (hout : W.output = w.output) :
    w1.heap[w.heap.size]? = some A ∧ w1.heap[w.heap.size + 1]? = some B ∧ w.heap.size + 1 < w1.heap.size ∧ Below w.heap.size w w1 := by
  have hz : W.heap.size = w.heap.size + 2 := by rw [hW]; simp
  have h0 : W.heap[w.heap.size]? = some A := by rw [hW]; exact heap_alloc2_old w A B
  have h1 : W.heap[w.heap.size + 1]? = some B := by rw [hW]; exact heap_alloc2_new w A B
  refine ⟨(hb.block _ (by omega)).trans h0, (hb.block _ (by omega)).trans h1, by have := hb.size; omega, hb.os.trans hos, hb.tape.trans htape, hb.output.trans hout, by have := hb.size; omega, fun k hk => ?_⟩
  rw [hb.block k (by omega), hW]
  have e1 := Below.heap_alloc w A k hk
  have e2 := Below.heap_alloc (w.alloc A) B k (by simp; omega)
  rw [e2, e1]
theorem row4 {w : World} {g : Nat} {a b c d : Value} {t : TypeId} (h : w.heap[g]? = some (.cells #[a, b, c, d] t (0, 0))) :
    (w.cell? ⟨g, 0, none⟩ = some a ∧ w.cell? ⟨g, 1, none⟩ = some b ∧ w.cell? ⟨g, 2, none⟩ = some c ∧ w.cell? ⟨g, 3, none⟩ = some d) ∧ w.frozen? ⟨g, 0, none⟩ = false ∧ w.frozen? ⟨g, 1, none⟩ = false ∧ w.frozen? ⟨g, 2, none⟩ = false ∧ w.frozen? ⟨g, 3, none⟩ = false :=
  ⟨⟨cell_of_row w g 0 _ _ _ h, cell_of_row w g 1 _ _ _ h, cell_of_row w g 2 _ _ _ h, cell_of_row w g 3 _ _ _ h⟩, frozen_of_row w g 0 _ _ h, frozen_of_row w g 1 _ _ h, frozen_of_row w g 2 _ _ h, frozen_of_row w g 3 _ _ h⟩
theorem row2 {w : World} {g : Nat} {a b : Value} {t : TypeId} (h : w.heap[g]? = some (.cells #[a, b] t (0, 0))) :
    (w.cell? ⟨g, 0, none⟩ = some a ∧ w.cell? ⟨g, 1, none⟩ = some b) ∧ w.frozen? ⟨g, 0, none⟩ = false ∧ w.frozen? ⟨g, 1, none⟩ = false :=
  ⟨⟨cell_of_row w g 0 _ _ _ h, cell_of_row w g 1 _ _ _ h⟩, frozen_of_row w g 0 _ _ h, frozen_of_row w g 1 _ _ h⟩
def tokZ : Obj := .cells #[.int .u8 0, .string ⟨#[]⟩, .int .i64 0, .int .i64 0] 38
def faultZ : Obj := .cells #[.int .i64 0, .int .i64 0] 27
set_option maxHeartbeats 4000000 in
theorem token_any (b : Nat) (s x : ByteArray) (p fa fr kind wd : Int) (w : World) (hx : x.size ≤ 281474976710656) (hs : Sc w b s p fa fr) :
    Calls Tryd.prog 107 #[.pointer (some ⟨b, 0, none⟩), .int .u8 kind, .string x, .int .i64 wd] w fun e w' => e = .returned (.tuple #[tokV kind x wd p, faultV 0 0]) ∧ Below w.heap.size w w' := by
  have hlt := hs.lt
  obtain ⟨⟨c0, c1, c2, c3⟩, f1, f2, f3⟩ := hs.cells
  have H := Lib.hid (fun w => clone_any x hx w)
  clear hs hx
  go_enter Tryd.func107, Tryd.ntmps107
  go_wp2_with fail
  go_region_with (go_at_call 44; go_must (refine (H.out _).mono ?_; rintro e w1 ⟨rfl, hb⟩; obtain ⟨hA, hB, hz, hw⟩ := kept2 hb w tokZ faultZ rfl rfl rfl rfl; obtain ⟨⟨a0, a1, a2, a3⟩, a4, a5, a6, a7⟩ := row4 hA; obtain ⟨⟨b0, b1⟩, b2, b3⟩ := row2 hB; have g1 := (hw.cell (p := ⟨b, 1, none⟩) hlt).trans c1; clear hA hB hb))
  all_goals
    go_wp2
    refine bodyPost_ret (v := .tuple #[.agg #[.int .u8 kind, .string x, .int .i64 wd, .int .i64 p], .agg #[.int .i64 0, .int .i64 0]]) (by simp [results, Tryd.results107, go_sem, a0, a1, a2, a3, b0, b1]) rfl ⟨rfl, ?_⟩
    exact (((((hw.setCell (p := ⟨w.heap.size, 0, none⟩) (Nat.le_refl _) _).setCell (p := ⟨w.heap.size, 1, none⟩) (Nat.le_refl _) _).setCell (p := ⟨w.heap.size, 2, none⟩) (Nat.le_refl _) _).setCell (p := ⟨w.heap.size, 3, none⟩) (Nat.le_refl _) _).setCell (p := ⟨w.heap.size + 1, 0, none⟩) (Nat.le_succ _) _).setCell (p := ⟨w.heap.size + 1, 1, none⟩) (Nat.le_succ _) _
end Go.Proofs.YteedpojchapjgaaDoor

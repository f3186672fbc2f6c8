/- The proof, part 13: texts that belong together, in one. -/
import Derived.Test.YtikaflpiephaiaaGreatDoorRAL
set_option maxRecDepth 100000
set_option maxHeartbeats 20000000
namespace Go.Proofs.YtikaflpiephaiaaGreatDoor
open Go.RowKit
set_option linter.unusedVariables false
theorem setCell_row {W : World} {g : Nat} {t : TypeId} {cs : Array Value} (h : Own W g t cs) (j : Nat) (v : Value) : W.setCell ⟨g, j, none⟩ v = W.setRow g (cs.setIfInBounds j v) := by
 have key : (W.setCell ⟨g, j, none⟩ v).heap = (W.setRow g (cs.setIfInBounds j v)).heap := by
  apply Array.ext_getElem?
  intro i
  by_cases hi : i = g
  · subst hi
    rw [heap_setCell_same W i j _ _ v h, setRow_heap W i _ _ _ _ h]
  · rw [Below.heap_setCell W ⟨g, j, none⟩ v i hi, setRow_other _ hi]
 exact congrArg (fun h => ({ W with heap := h } : World)) key
def stR (n : Nat) (p : Int) (s : St) (v : Value) (W : World) : Prop :=
 ∃ a3 c3 a4 c4 a5 c5, v = .agg #[.int .u8 s.kind, .string s.name, .string s.other, .slice a3 s.e.length c3, .slice a4 s.body.length c4, .slice a5 s.els.length c5, .int .i64 p] ∧ exsAt (fun b => n ≤ b) W s.e a3 ∧ stsAt (fun b => n ≤ b) W s.body a4 ∧ stsAt (fun b => n ≤ b) W s.els a5
def exsVal (n : Nat) (l : List Ex) (v : Value) (W : World) : Prop := ∃ a cap, v = .slice a l.length cap ∧ exsAt (fun b => n ≤ b) W l a
def stsVal (n : Nat) (l : List St) (v : Value) (W : World) : Prop := ∃ a cap, v = .slice a l.length cap ∧ stsAt (fun b => n ≤ b) W l a
theorem stsAt_mono {R R' : Nat → Prop} {w : World} {l : List St} {a : Option Addr} (h : stsAt R w l a) (hm : ∀ b, R b → R' b) : stsAt R' w l a := stsAt_stays (Stays.refl R w) hm h
structure StG (c : Par) (w : World) (t : Tk) (cs : Array Value) (W : World) (j : Nat) : Prop where
 run : At c w W j
 tok : Own W w.heap.size 108 #[.int .u8 t.kind, .string t.text, .int .i64 t.wd, .int .i64 t.pos]
 res : Own W (w.heap.size + 1) 69 zSt
 st : Own W (w.heap.size + 1 + 1) 69 cs
section
variable {c : Par} {w W W' : World} {t : Tk} {cs : Array Value} {j k2 : Nat}
theorem StG.start {k : Nat} (R : Rd c w k) (t : Tk) (cs : Array Value) : StG c w t cs (((w.alloc (.cells #[.int .u8 t.kind, .string t.text, .int .i64 t.wd, .int .i64 t.pos] 108)).alloc (.cells zSt 69)).alloc (.cells cs 69)) k := by
 have o1 := Own.new (w.alloc (.cells #[.int .u8 t.kind, .string t.text, .int .i64 t.wd, .int .i64 t.pos] 108)) 69 zSt
 have o2 := Own.new ((w.alloc (.cells #[.int .u8 t.kind, .string t.text, .int .i64 t.wd, .int .i64 t.pos] 108)).alloc (.cells zSt 69)) 69 cs
 rw [World.size_alloc] at o1 o2
 rw [World.size_alloc] at o2
 exact ⟨(((At.start R).alloc _).alloc _).alloc _, ((Own.new w _ _).alloc _).alloc _, o1.alloc _, o2⟩
theorem StG.call (h : StG c w t cs W j) (hf : Fr c W W') (hp : Rd c W' k2) (hX : c.X < w.heap.size) : StG c w t cs W' k2 :=
 ⟨h.run.call hf hp, h.tok.fr hf (by omega), h.res.fr hf (by omega), h.st.fr hf (by omega)⟩
theorem StG.row (h : StG c w t cs W j) (ds : Array Value) (hX : c.X < w.heap.size) : StG c w t ds (W.setRow (w.heap.size + 1 + 1) ds) j :=
 ⟨h.run.setRow (by omega) (by omega) ds, h.tok.other ds (by omega), h.res.other ds (by omega), h.st.row ds⟩
theorem StG.cell (h : StG c w t cs W j) {i : Nat} {v : Value} (hv : cs[i]? = some v) : W.cell? ⟨w.heap.size + 1 + 1, i, none⟩ = some v := by rw [cell_of_row W _ i _ _ _ h.st]; exact hv
theorem StG.frozen (h : StG c w t cs W j) (i : Nat) : W.frozen? ⟨w.heap.size + 1 + 1, i, none⟩ = false := by
 have := h.st
 unfold Own at this
 simp only [World.frozen?, this]; rfl
end
theorem exsAt_call {c : Par} {W W' : World} {n : Nat} {l : List Ex} {a : Option Addr} (h : exsAt (fun b => n ≤ b) W l a) (hf : Fr c W W') (hX : c.X < n) : exsAt (fun b => n ≤ b) W' l a := exsAt_stays (stays_fr hf (fun b hb => by omega)) (fun b hb => hb) h
theorem stsAt_call {c : Par} {W W' : World} {n : Nat} {l : List St} {a : Option Addr} (h : stsAt (fun b => n ≤ b) W l a) (hf : Fr c W W') (hX : c.X < n) : stsAt (fun b => n ≤ b) W' l a := stsAt_stays (stays_fr hf (fun b hb => by omega)) (fun b hb => hb) h
theorem exsAt_row {W : World} {n g : Nat} {l : List Ex} {a : Option Addr} (h : exsAt (fun b => n ≤ b) W l a) (cs : Array Value) (hg : g < n) : exsAt (fun b => n ≤ b) (W.setRow g cs) l a := exsAt_stays (stays_row W cs (fun b hb => by omega)) (fun b hb => hb) h
theorem stsAt_row {W : World} {n g : Nat} {l : List St} {a : Option Addr} (h : stsAt (fun b => n ≤ b) W l a) (cs : Array Value) (hg : g < n) : stsAt (fun b => n ≤ b) (W.setRow g cs) l a := stsAt_stays (stays_row W cs (fun b hb => by omega)) (fun b hb => hb) h
theorem p_value {c : Par} {w : World} {k n : Nat} (R : Rd c w k) (hn : 3 * (c.at k).length + 2 ≤ n) :
 Calls Tryz.prog 156 #[c.ptr] w (RdPost c w (binE fnd c.L n 1 0 (c.at k)) (fun e v w' => exsVal w.heap.size [e] v w')) := by
 have HC : Hid (∀ W, Rd c W k → Calls Tryz.prog 60 #[c.ptr] W (RdPost c W (binE fnd c.L n 1 0 (c.at k)) (exR W.heap.size))) := fun W RW => p_expression RW hn
 obtain ⟨Y, hY⟩ : ∃ Y, Y = binE fnd c.L n 1 0 (c.at k) := ⟨_, rfl⟩
 rw [← hY] at HC ⊢
 have HR := Lib.hid R
 clear hY R hn
 unfold Par.ptr at *
 go_enter Tryz.func156, Tryz.ntmps156
 go_wp2_with fail
 go_at_call 60
 refine (HC.out _ HR.out).mono ?_
 rintro e w1 ⟨hf1, hm⟩
 rcases Y with ⟨e0, r0⟩ | ⟨p, q⟩
 rotate_left
 · obtain rfl := hm
   have A1 := Lib.hid hf1
   clear hf1
   go_wp2_with fail
   exact ⟨rfl, A1.out, rfl⟩
 obtain ⟨v1, k1, rfl, ⟨a4, cap4, rfl, hV⟩, hR1, rfl⟩ := hm
 have A1 := Lib.hid (((At.start HR.out).call hf1 hR1).alloc (.cells #[.int .u8 e0.kind, .int .u8 e0.op, .int .i64 e0.wd, .string e0.name, .slice a4 e0.kids.length cap4, .int .i64 e0.pos] 38))
 have N1 := Lib.hid (Own.new w1 38 #[.int .u8 e0.kind, .int .u8 e0.op, .int .i64 e0.wd, .string e0.name, .slice a4 e0.kids.length cap4, .int .i64 e0.pos])
 have HV := Lib.hid (exsAt_stays (stays_alloc _ w1 (.cells #[.int .u8 e0.kind, .int .u8 e0.op, .int .i64 e0.wd, .string e0.name, .slice a4 e0.kids.length cap4, .int .i64 e0.pos] 38)) (fun b hb => hb) hV)
 have hz := Lib.hid (Keep.size hf1)
 clear hf1 hV hR1
 go_wp2_with fail
 go_ret
 refine ⟨A1.out.fr, _, k1, rfl, ⟨_, _, rfl, .inr ⟨w1.heap.size, 0, rfl, hz.out, exIn_of (vs := exCells e0 a4 cap4) ⟨a4, cap4, rfl, HV.out⟩ ?_, trivial⟩⟩, A1.out.rd HR.out, rfl⟩
 intro q u hq
 have hq6 : q < 6 := (List.getElem?_eq_some_iff.1 hq).1
 rw [cell_of_row _ w1.heap.size (0 + q) _ _ _ N1.out, ← hq]
 have : q = 0 ∨ q = 1 ∨ q = 2 ∨ q = 3 ∨ q = 4 ∨ q = 5 := by omega
 rcases this with rfl | rfl | rfl | rfl | rfl | rfl <;> rfl
theorem p_open {c : Par} {w : World} {k : Nat} (R : Rd c w k) (d : Int) : Calls Tryz.prog 115 #[c.ptr, .int .i64 d] w (RdPost c w (openP c.L d (c.at k)) (fun _ v _ => v = .tuple #[])) := by
 have HN : Hid (∀ W, Rd c W k → Calls Tryz.prog 65 #[c.ptr] W fun e w' => e = .returned (tkV (c.nx k)) ∧ Below W.heap.size W w') := fun W h => p_next h
 have hp := c.nx_pos k
 obtain ⟨t, ht⟩ : ∃ t, t = c.nx k := ⟨_, rfl⟩
 rw [← ht] at HN hp
 have HP := Lib.hid hp
 have HR := Lib.hid R
 have hX := Lib.hid R.lt
 have HQ := Lib.hid (fun w => p_refuse t 3 w)
 unfold openP
 rw [need_at]
 obtain ⟨tk, tx, tw, tp⟩ := t
 clear ht hp R
 unfold tkV Par.ptr at *
 by_cases h1 : isT [123] (c.at k) = true
 · rw [if_pos h1]
   simp only [PR.then_ok]
   have H1 := Lib.hid h1
   by_cases hd : 64 < d
   · rw [if_pos hd]
     clear h1
     go_enter Tryz.func115, Tryz.ntmps115
     go_wp2_with fail
     go_at_call 65
     refine (HN.out _ HR.out).mono ?_
     rintro e w1 ⟨rfl, hb⟩
     have A1 := Lib.hid (((At.start HR.out).below hb).alloc (.cells #[.int .u8 tk, .string tx, .int .i64 tw, .int .i64 tp] 108))
     have N1 := Lib.hid (Own.new w1 108 #[.int .u8 tk, .string tx, .int .i64 tw, .int .i64 tp])
     have hz := Lib.hid hb.size
     clear hb
     go_wp2_with fail
     go_at_call 157
     refine (p_take_ok (A1.out.rd HR.out) ⟨#[123]⟩ (by decide) H1.out).mono ?_
     rintro e w2 ⟨rfl, hf2, hR2⟩
     have A2 := Lib.hid (A1.out.call hf2 hR2)
     have N2 := N1.out.fr hf2 (by have := hX.out; have := hz.out; omega)
     clear hf2 hR2
     go_wp2_with (first | (refine ld rowTok rfl rfl rfl N2 rfl ?_) | (go_at_call 113; refine (HQ.out _).mono ?_; rintro e w3 ⟨rfl, hb⟩; have HC := Lib.hid hb; clear hb))
     refine ⟨rfl, A2.out.fr.trans (.of_below HC.out), ?_⟩
     rw [← HP.out]
   · rw [if_neg hd]
     have hd' : d ≤ 64 := by omega
     clear h1 hd
     go_enter Tryz.func115, Tryz.ntmps115
     go_wp2_with fail
     go_at_call 65
     refine (HN.out _ HR.out).mono ?_
     rintro e w1 ⟨rfl, hb⟩
     have A1 := Lib.hid (((At.start HR.out).below hb).alloc (.cells #[.int .u8 tk, .string tx, .int .i64 tw, .int .i64 tp] 108))
     clear hb
     go_wp2_with fail
     go_at_call 157
     refine (p_take_ok (A1.out.rd HR.out) ⟨#[123]⟩ (by decide) H1.out).mono ?_
     rintro e w2 ⟨rfl, hf2, hR2⟩
     have A2 := Lib.hid (A1.out.call hf2 hR2)
     clear hf2 hR2
     go_wp2_with fail
     go_end0
     exact ⟨A2.out.fr, _, k + 1, rfl, rfl, A2.out.rd HR.out, rfl⟩
 · have h1' : isT [123] (c.at k) = false := by simpa using h1
   rw [if_neg h1]
   simp only [PR.then_bad]
   have H1 := Lib.hid h1'
   clear h1 h1'
   go_enter Tryz.func115, Tryz.ntmps115
   go_wp2_with fail
   go_at_call 65
   refine (HN.out _ HR.out).mono ?_
   rintro e w1 ⟨rfl, hb⟩
   have A1 := Lib.hid (((At.start HR.out).below hb).alloc (.cells #[.int .u8 tk, .string tx, .int .i64 tw, .int .i64 tp] 108))
   clear hb
   go_wp2_with fail
   go_at_call 157
   refine (p_take_bad (A1.out.rd HR.out) ⟨#[123]⟩ (by decide) H1.out).mono ?_
   rintro e w2 ⟨rfl, hf2⟩
   have A2 := Lib.hid (A1.out.fr.trans hf2)
   clear hf2
   go_wp2_with fail
   exact ⟨rfl, A2.out, rfl⟩
end Go.Proofs.YtikaflpiephaiaaGreatDoor

/- The proof, part 19: texts that belong together, in one. -/
import Derived.Test.YtikaflpiephaiaaGreatDoorRAR
import Derived.Carry
import Derived.Test.YtikaflpiephaiaaGreatDoorRAE
import Derived.Test.YtikaflpiephaiaaGreatDoorRAF
set_option maxRecDepth 100000
set_option maxHeartbeats 20000000
namespace Go.Proofs.YtikaflpiephaiaaGreatDoor
open Go.RowKit
set_option linter.unusedVariables false
theorem infoTh : (Tryz.prog.info? 64).map (fun i => (i.zero, i.size, i.bytes)) = some (some (.agg zTh), 4, 72) := by kernel_rfl
theorem dcsAt_in {R : Nat → Prop} {w : World} {l : List Dc} {a : Option Addr} (h : dcsAt R w l a) : dcsAt (fun b => R b ∧ b < w.heap.size) w l a := by
 rcases h with h | ⟨g, q, rfl, hg, hi⟩
 · exact .inl h
 · cases l with
   | nil => exact .inl rfl
   | cons d r => exact .inr ⟨g, q, rfl, ⟨hg, cell_lt hi.1.1⟩, hi⟩
theorem thV_in {R : Nat → Prop} {w : World} {t : Th} {vs : List Value} (h : thV R w t vs) : thV (fun b => R b ∧ b < w.heap.size) w t vs := by
 obtain ⟨a1, c1, a2, c2, h1, h2, h3⟩ := h
 exact ⟨a1, c1, a2, c2, h1, dcsAt_in h2, stsAt_in h3⟩
theorem thsV_in {R : Nat → Prop} {w : World} : ∀ {l : List Th} {xs : List Value}, thsV R w l xs → thsV (fun b => R b ∧ b < w.heap.size) w l xs
 | [], xs, h => h
 | t :: r, xs, ⟨us, ys, h1, h2, h3⟩ => ⟨us, ys, h1, thV_in h2, thsV_in h3⟩
def pgR (n : Nat) (p : Pg) (v : Value) (W : World) : Prop := ∃ a1 c1 a2 c2 a3 c3, v = .agg #[.slice a1 p.shared.length c1, .slice a2 p.locks.length c2, .slice a3 p.threads.length c3] ∧ dcsAt (fun b => n ≤ b) W p.shared a1 ∧ dcsAt (fun b => n ≤ b) W p.locks a2 ∧ thsAt (fun b => n ≤ b) W p.threads a3
def RB (w0 : World) (pb : Nat) (v : Value) (b : Nat) : Prop := w0.heap.size < b ∧ b ≠ pb ∧ v.ownBlock ≠ some b
structure PgT (c : Par) (w0 : World) (pb : Nat) (a1 : Option Addr) (c1 : Nat) (a2 : Option Addr) (c2 : Nat) (vT : Value) (p : Pg) (l : List Th) (xs : List Value) (W : World) (k : Nat) : Prop where
 run : At c w0 W k
 ge : w0.heap.size < pb
 res : Own W w0.heap.size 25 zPg
 own : Own W pb 25 #[.slice a1 p.shared.length c1, .slice a2 p.locks.length c2, vT]
 dS : dcsAt (RB w0 pb vT) W p.shared a1
 dL : dcsAt (RB w0 pb vT) W p.locks a2
 rT : W.ownsRow w0.heap.size 64 4 vT l.length xs
 tv : thsV (RB w0 pb vT) W l xs
theorem dcs_of_row {W : World} {w0 : World} {pb : Nat} {v : Value} {l : List Dc} (h : W.ownsRow w0.heap.size 66 3 v l.length (dcsL l)) (h1 : v.ownBlock ≠ some w0.heap.size) (h2 : v.ownBlock ≠ some pb) : ∃ a cap, v = .slice a l.length cap ∧ dcsAt (RB w0 pb (.slice none 0 0)) W l a := by
 obtain ⟨oa, cap, rfl, hoa⟩ := row_shape h
 refine ⟨oa, cap, rfl, ?_⟩
 cases l with
 | nil => exact .inl rfl
 | cons x r =>
   obtain ⟨g, rfl, hg⟩ := hoa (by simp)
   refine .inr ⟨g, 0, rfl, ⟨?_, ?_, by simp [Value.ownBlock]⟩, dcsIn_of (row_cells h rfl)⟩
   · have : g ≠ w0.heap.size := fun e => h1 (by rw [e]; rfl)
     omega
   · exact fun e => h2 (by rw [e]; rfl)
theorem PgI.threads {c : Par} {w0 W : World} {pb k : Nat} {vS vL : Value} {p : Pg} (h : PgI c w0 pb vS vL p W k) : ∃ a1 c1 a2 c2, vS = .slice a1 p.shared.length c1 ∧ vL = .slice a2 p.locks.length c2 ∧ PgT c w0 pb a1 c1 a2 c2 (.slice none 0 0) p [] [] W k := by
 obtain ⟨a1, c1, rfl, d1⟩ := dcs_of_row (pb := pb) h.rS (row_apart h.rS h.res rfl) (row_apart h.rS h.own rfl)
 obtain ⟨a2, c2, rfl, d2⟩ := dcs_of_row (pb := pb) h.rL (row_apart h.rL h.res rfl) (row_apart h.rL h.own rfl)
 exact ⟨a1, c1, a2, c2, rfl, rfl, h.run, h.ge, h.res, h.own, d1, d2, World.ownsRow_nil _ _ _ _, rfl⟩
section
variable {c : Par} {w0 W W' : World} {pb : Nat} {a1 a2 : Option Addr} {c1 c2 : Nat} {vT : Value} {p : Pg} {l : List Th} {xs : List Value} {k k2 : Nat}
theorem PgT.call (h : PgT c w0 pb a1 c1 a2 c2 vT p l xs W k) (hf : Fr c W W') (hp : Rd c W' k2) (hX : c.X < w0.heap.size) : PgT c w0 pb a1 c1 a2 c2 vT p l xs W' k2 := by
 have st : Stays (RB w0 pb vT) W W' := stays_fr hf (fun b hb => by have := hb.1; omega)
 exact ⟨h.run.call hf hp, h.ge, h.res.fr hf (by omega), h.own.fr hf (by have := h.ge; omega), dcsAt_stays st (fun _ h => h) h.dS, dcsAt_stays st (fun _ h => h) h.dL, row_fr h.rT hf hX, thsV_stays st (fun _ h => h) h.tv⟩
theorem PgT.cell (h : PgT c w0 pb a1 c1 a2 c2 vT p l xs W k) {i : Nat} {v : Value} (hv : (#[.slice a1 p.shared.length c1, .slice a2 p.locks.length c2, vT] : Array Value)[i]? = some v) : W.cell? ⟨pb, i, none⟩ = some v := by rw [cell_of_row W _ i _ _ _ h.own]; exact hv
theorem PgT.drew (h : PgT c w0 pb a1 c1 a2 c2 vT p l xs W k) : PgT c w0 pb a1 c1 a2 c2 vT p l xs W.drew k :=
 have st : Stays (RB w0 pb vT) W W.drew := fun _ _ _ _ h => h
 ⟨h.run.drew, h.ge, h.res, h.own, dcsAt_stays st (fun _ h => h) h.dS, dcsAt_stays st (fun _ h => h) h.dL, h.rT, thsV_stays st (fun _ h => h) h.tv⟩
theorem PgT.alloc (h : PgT c w0 pb a1 c1 a2 c2 vT p l xs W k) (o : Obj) (hX : c.X < w0.heap.size) (R : Rd c w0 k2) : PgT c w0 pb a1 c1 a2 c2 vT p l xs (W.alloc o) k :=
 h.call ((Fr.refl c W).alloc o) ((h.run.rd R).alloc o) hX
theorem PgT.grown (h : PgT c w0 pb a1 c1 a2 c2 vT p l xs W k) (hg : W.grownBy W' vT.ownBlock) (hX : c.X < w0.heap.size) : At c w0 W' k ∧ Own W' w0.heap.size 25 zPg ∧ Own W' pb 25 #[.slice a1 p.shared.length c1, .slice a2 p.locks.length c2, vT] :=
 ⟨grown_fr h.run hg (fun r hr => by have := (h.rT.lt r hr).1; exact ⟨this, by omega⟩), own_grown h.res hg (row_apart h.rT h.res rfl), own_grown h.own hg (row_apart h.rT h.own rfl)⟩
theorem PgT.end_ (h : PgT c w0 pb a1 c1 a2 c2 vT p l xs W k) {t : Th} {vs : List Value} {g cap : Nat} (hX : c.X < w0.heap.size) (hv : thV (fun b => RB w0 pb vT b ∧ b < W.heap.size) W t vs) (hg : W.grownBy W' vT.ownBlock)
 (hown : W'.ownsRow w0.heap.size 64 4 (.slice (some ⟨g, 0, none⟩) (l.length + 1) cap) (l.length + 1) (xs ++ vs)) (hl : vT.ownBlock = some g ∨ g = W.heap.size) :
 PgT c w0 pb a1 c1 a2 c2 (.slice (some ⟨g, 0, none⟩) (l.length + 1) cap) p (l ++ [t]) (xs ++ vs) (W'.setRow pb #[.slice a1 p.shared.length c1, .slice a2 p.locks.length c2, .slice (some ⟨g, 0, none⟩) (l.length + 1) cap]) k := by
 obtain ⟨h1, h2, h3⟩ := h.grown hg hX
 have ha := row_apart hown h3 rfl
 have st1 : Stays (fun b => RB w0 pb vT b ∧ b < W.heap.size) W W' := stays_grown hg (fun b hb => hb.1.2.2)
 have st2 : Stays (fun b => RB w0 pb vT b ∧ b < W.heap.size) W' (W'.setRow pb #[.slice a1 p.shared.length c1, .slice a2 p.locks.length c2, .slice (some ⟨g, 0, none⟩) (l.length + 1) cap]) := stays_row W' _ (fun b hb => hb.1.2.1)
 have st := st1.trans st2
 have hm : ∀ b, RB w0 pb vT b ∧ b < W.heap.size → RB w0 pb (.slice (some ⟨g, 0, none⟩) (l.length + 1) cap) b := fun b hb => by
  refine ⟨hb.1.1, hb.1.2.1, fun e => ?_⟩
  have e : g = b := by simpa [Value.ownBlock] using e
  subst e
  rcases hl with hl | hl
  · exact hb.1.2.2 hl
  · have := hb.2; omega
 refine ⟨h1.setRow (by have := h.ge; omega) (by have := h.ge; omega) _, h.ge, h2.other _ (by have := h.ge; omega), h3.row _, dcsAt_stays st hm (dcsAt_in h.dS), dcsAt_stays st hm (dcsAt_in h.dL), ?_, thsV_stays st hm (thsV_snoc (thsV_in h.tv) hv)⟩
 have := row_row hown #[.slice a1 p.shared.length c1, .slice a2 p.locks.length c2, .slice (some ⟨g, 0, none⟩) (l.length + 1) cap] ha
 rw [List.length_append]
 exact this
end
open Go.RowKit
set_option linter.unusedVariables false
def putB (w : World) (r : Nat) (o : Obj) : World := { w with heap := w.heap.setIfInBounds r o }
theorem putB_size (w : World) (r : Nat) (o : Obj) : (putB w r o).heap.size = w.heap.size := by simp [putB]
theorem putB_same {w : World} {r : Nat} (o : Obj) (h : r < w.heap.size) : (putB w r o).heap[r]? = some o := by
 simp [putB, h]
theorem putB_other {w : World} {r b : Nat} (o : Obj) (h : b ≠ r) : (putB w r o).heap[b]? = w.heap[b]? := by
 simp only [putB]
 rw [Array.getElem?_setIfInBounds_ne (fun e => h e.symm)]
theorem putB_below {n : Nat} {a w : World} {r : Nat} (o : Obj) (h : Below n a w) (hr : n ≤ r) : Below n a (putB w r o) :=
 ⟨h.os, h.tape, h.output, by rw [putB_size]; exact h.size, fun k hk => (putB_other o (by omega)).trans (h.block k hk)⟩
theorem run_ins {P : Program} {w : World} {t k e : TypeId} {b : Nat} {es : Array MapEntry} {clock : Nat} (ht : P.underlying t = some (.map k e)) (hk : P.underlying k = some .string)
 (hb : w.heap[b]? = some (.map es clock)) (s : ByteArray) (v : Value) (hf : Instr.findNow .string (.string s) es.toList 0 = some none) :
 (Instr.mapUpdate t (.map (some b)) (.string s) v).run P w = .ok () (putB w b (.map (es.push ⟨.string s, v, clock⟩) (clock + 1))) := by
 have hck : (Instr.checkKey false 10000 k (.string s)).run P w = .ok () w := MapKept.run_checkKey (d := .string) hk (by simp [MapKept.IsKey]) false 9999
 have hf := MapKept.run_findKey (w := w) hk hf
 unfold Instr.mapUpdate
 simp [run_underlying ht, Result.andThen, MapKept.run_getObj_map hb, hck, hf, MapKept.run_setObj_map _ hb, putB]
theorem p_mkunary {w : World} (X : Nat) (o : Int) : Calls Tryz.prog 111 #[.pointer (some ⟨X, 0, none⟩), .int .u8 o] w fun e w' => e = .returned (.func (.func 158) #[] #[.pointer (some ⟨w.heap.size, 0, none⟩), .pointer (some ⟨w.heap.size + 1, 0, none⟩)]) ∧ w' = (w.alloc (.cells #[.pointer (some ⟨X, 0, none⟩)] 55)).alloc (.cells #[.int .u8 o] 35) := by
 go_enter Tryz.func111, Tryz.ntmps111
 go_wp2
 go_ret
 exact ⟨rfl, rfl⟩
theorem p_end {c : Par} {w : World} {k : Nat} (R : Rd c w k) :
 Calls Tryz.prog 64 #[c.ptr] w fun e w' => Fr c w w' ∧ e = match c.at k with | [] => .returned (.tuple #[]) | t :: _ => .panicked (flt t.pos 2) := by
 obtain ⟨⟨c0, c1, c2, _⟩, f⟩ := R.cells
 have hX := R.lt
 have hle := R.le
 have hsm := R.s.small.1
 by_cases hk : k < c.toks.length
 · have hnx : c.nx k = (c.toks[k]).tk := by unfold Par.nx; rw [Par.at_lt hk]
   have HN : Hid (∀ W, Rd c W k → Calls Tryz.prog 65 #[c.ptr] W fun e w' => e = .returned (tkV (c.nx k)) ∧ Below W.heap.size W w') := fun W h => p_next h
   rw [Par.at_lt hk]
   have HQ := Lib.hid (fun w => p_refuse (c.nx k) 2 w)
   rw [hnx] at HN HQ
   generalize (c.toks[k]).tk = t at HN HQ ⊢
   have hkk : decide ((k : Int) < (c.toks.length : Int)) = true := b_t (by omega)
   obtain ⟨n, hn⟩ : ∃ n, n = c.toks.length := ⟨_, rfl⟩
   rw [← hn] at c0 hkk hk hle hsm
   have HR := Lib.hid R
   have HD : Hid (∀ n, Rd c (w.drewN n) k) := fun n => ⟨R.s.drewN n, R.pos, R.le⟩
   clear hnx hn R
   unfold Par.ptr tkV at *
   go_enter Tryz.func64, Tryz.ntmps64
   go_wp2
   go_quiet (fail)
   have hD := HD.out nq
   have HF : Hid (Fr c w (w.drewN nq)) := Keep.drewN (Fr.refl c w) nq
   generalize w.drewN nq = W at hD HF ⊢
   go_wp2_with (first
    | (go_at_call 65; refine (HN.out _ hD).mono ?_; rintro e w1 ⟨rfl, hb⟩; have HB := Lib.hid hb; clear hb)
    | (go_at_call 113; refine (HQ.out _).mono ?_; rintro e w2 ⟨rfl, hb⟩; have HC := Lib.hid hb; clear hb))
   exact ⟨rfl, (HF.out.trans (.of_below HB.out)).trans (.of_below HC.out), rfl⟩
 · rw [Par.at_end (by omega)]
   have hkk : decide ((k : Int) < (c.toks.length : Int)) = false := b_f (by omega)
   have hkn : decide (k < c.toks.length) = false := b_f (by omega)
   obtain ⟨n, hn⟩ : ∃ n, n = c.toks.length := ⟨_, rfl⟩
   rw [← hn] at c0 hkk hk hle hsm hkn
   clear hn R
   unfold Par.ptr
   go_enter Tryz.func64, Tryz.ntmps64
   go_wp2
   go_quiet (fail)
   have HF : Hid (Fr c w (w.drewN nq)) := Keep.drewN (Fr.refl c w) nq
   go_wp2
   go_end0
   exact ⟨HF.out, rfl⟩
open Go.RowKit
set_option linter.unusedVariables false
def sk : Bool → List UInt8 → Nat
 | _, [] => 0
 | true, c :: r => if c = 10 then 1 + sk false r else 1 + sk true r
 | false, c :: r => if blankB (c.toNat : Int) = true then 1 + sk false r else if c = 47 ∧ r.head? = some 47 then 1 + sk true r else 0
theorem feed_not {c : UInt8} (h : ¬ c = 10) : feedB (c.toNat : Int) = true := by
 unfold feedB
 exact b_t (fun e => h (u8_int.1 (by simpa using e)))
theorem feed_no : feedB ((10 : UInt8).toNat : Int) = false := by decide
theorem sk_true : ∀ l : List UInt8, sk true l = spanN feedB l + sk false (l.drop (spanN feedB l))
 | [] => rfl
 | c :: r => by
   have k := sk_true r
   by_cases hc : c = 10
   · subst hc
     have e : spanN feedB (10 :: r) = 0 := by simp only [spanN]; rw [if_neg (by rw [feed_no]; decide)]
     rw [e, List.drop_zero]
     have hb : blankB ((10 : UInt8).toNat : Int) = true := by decide
     simp only [sk]
     rw [if_pos hb]
     simp
   · have e : spanN feedB (c :: r) = spanN feedB r + 1 := by simp only [spanN]; rw [if_pos (feed_not hc)]
     rw [e, List.drop_succ_cons]
     simp only [sk]
     rw [if_neg hc]
     omega
theorem pass_sk : ∀ (n : Nat) (l : List UInt8), l.length ≤ n → passN l = sk false l
 | _, [], _ => rfl
 | 0, c :: r, h => by simp at h
 | n + 1, c :: r, h => by
   simp only [List.length_cons] at h
   by_cases hb : blankB (c.toNat : Int) = true
   · rw [pass_cons c r hb, pass_sk n r (by omega)]
     simp only [sk]
     rw [if_pos hb]
   · have hb' : blankB (c.toNat : Int) = false := by simpa using hb
     by_cases hp : Lib.hasPrefix (c :: r) slashes = true
     · have hc : c = 47 ∧ r.head? = some 47 := by
        cases r with
        | nil => rw [prefix_one] at hp; cases hp
        | cons d r => rw [prefix_two] at hp; simpa using hp
       have h10 : ¬ c = 10 := by rw [hc.1]; decide
       have e1 : spanN feedB (c :: r) = spanN feedB r + 1 := by simp only [spanN]; rw [if_pos (feed_not h10)]
       rw [pass_remark hp, pass_sk n _ (by rw [e1]; simp; omega), ← sk_true]
       simp only [sk]
       rw [if_neg h10, if_neg hb, if_pos hc]
     · have hp' : Lib.hasPrefix (c :: r) slashes = false := by simpa using hp
       rw [pass_none rfl hp' hb']
       simp only [sk]
       rw [if_neg hb, if_neg]
       rintro ⟨h1, h2⟩
       cases r with
       | nil => cases h2
       | cons d r =>
         have : d = 47 := by simpa using h2
         rw [h1, this, prefix_two] at hp'
         revert hp'; decide
theorem passN_sk (l : List UInt8) : passN l = sk false l := pass_sk _ l (Nat.le_refl _)
structure Nx where
 kind : Int
 n : Nat
 wd : Int
 fa : Nat
 fr : Int
def letterH : List UInt8 → Bool
 | [] => false
 | c :: _ => letterB (c.toNat : Int)
def nameL (l : List UInt8) : Nx :=
 if wordL (l.take (spanN namedB l)) = true then ⟨2, spanN namedB l, 0, 0, 0⟩ else if 32 < spanN namedB l then ⟨0, 0, 0, 32, 2⟩ else ⟨1, spanN namedB l, 0, 0, 0⟩
def numK (n : Nat) (b : Bool) : Option Int → Nx
 | none => ⟨0, 0, 0, 0, 3⟩
 | some v => if b = true then ⟨0, 0, 0, n, 4⟩ else ⟨3, n, v, 0, 0⟩
def numL (l : List UInt8) : Nx := numK (spanN digitB l) (letterH (l.drop (spanN digitB l))) (valueO (l.take (spanN digitB l)))
def nextL : List UInt8 → Nx
 | [] => ⟨0, 0, 0, 0, 1⟩
 | c :: r => if letterB (c.toNat : Int) = true then nameL (c :: r) else if digitB (c.toNat : Int) = true then numL (c :: r) else if signB (c.toNat : Int) = true then ⟨4, aheadN (c :: r), 0, 0, 0⟩ else ⟨0, 0, 0, 0, 1⟩
def toRes (q : Nat) (l : List UInt8) (x : Nx) : Res := if x.fr = 0 then ⟨x.kind, ⟨(l.take x.n).toArray⟩, x.wd, q, 0, 0⟩ else ⟨0, ⟨#[]⟩, 0, 0, ((q + x.fa : Nat) : Int), x.fr⟩
theorem cut_list (s : ByteArray) (q n : Nat) : (s.extract q s.size).extract 0 n = ⟨((bytesFrom s q).take n).toArray⟩ := by
 apply ByteArray.ext
 apply Array.ext'
 rw [Lib.extract_data, tail_list]
 simp
theorem behind_list (s : ByteArray) (q : Nat) : behindB s q = letterH ((bytesFrom s q).drop (spanN digitB (bytesFrom s q))) := by
 unfold behindB
 rw [from_drop]
 by_cases h : q + spanN digitB (bytesFrom s q) < s.size
 · rw [from_at s _ h, decide_eq_true h, Bool.true_and, ← bt_byte s _ h]; rfl
 · rw [decide_eq_false h, Bool.false_and, from_end s _ (by omega)]; rfl
theorem nextR_list (s : ByteArray) (q : Nat) (hq : q < s.size) : nextR s q = toRes q (bytesFrom s q) (nextL (bytesFrom s q)) := by
 have hl := from_len s q
 have hle := spanN_le namedB (bytesFrom s q)
 have e : nextL (bytesFrom s q) = if letterB (PlainAid.bt s q) = true then nameL (bytesFrom s q) else if digitB (PlainAid.bt s q) = true then numL (bytesFrom s q) else if signB (PlainAid.bt s q) = true then ⟨4, aheadN (bytesFrom s q), 0, 0, 0⟩ else ⟨0, 0, 0, 0, 1⟩ := by
  rw [← bt_byte s q hq, from_at s q hq]; rfl
 rw [e]
 unfold nextR
 split
 · have hz : (nameX s q).size = spanN namedB (bytesFrom s q) := extract_size s q _ (by omega) (by omega)
   have hx : nameX s q = ⟨((bytesFrom s q).take (spanN namedB (bytesFrom s q))).toArray⟩ := cut_list s q _
   unfold nameR nameL
   rw [wordB_list, Lib.toList_data, hz, hx]
   by_cases h1 : wordL ((bytesFrom s q).take (spanN namedB (bytesFrom s q))) = true
   · rw [if_pos h1, if_pos h1]; rfl
   · rw [if_neg h1, if_neg h1]
     by_cases h2 : 32 < spanN namedB (bytesFrom s q)
     · rw [if_pos h2, if_pos h2]; rfl
     · rw [if_neg h2, if_neg h2]; rfl
 · split
   · have hx : numX s q = ⟨((bytesFrom s q).take (spanN digitB (bytesFrom s q))).toArray⟩ := cut_list s q _
     unfold numR numL
     rw [← behind_list, hx]
     cases hv : valueO ((bytesFrom s q).take (spanN digitB (bytesFrom s q))) with
     | none => rfl
     | some v =>
       simp only [numC, numK]
       by_cases hb : behindB s q = true
       · rw [if_pos hb, if_pos hb]; rfl
       · rw [if_neg hb, if_neg hb]; rfl
   · split
     · have hx : signX s q = ⟨((bytesFrom s q).take (aheadN (bytesFrom s q))).toArray⟩ := cut_list s q _
       unfold signR
       rw [hx]; rfl
     · rfl
theorem ahead_pos {c : UInt8} {r : List UInt8} (h : signB (c.toNat : Int) = true) : 0 < aheadN (c :: r) := by
 unfold aheadN
 split
 · omega
 · simp only [firstN]; rw [if_pos h]; omega
theorem nextL_good (l : List UInt8) (h : (nextL l).fr = 0) : 0 < (nextL l).n ∧ (nextL l).n ≤ l.length := by
 cases l with
 | nil => simp [nextL] at h
 | cons c r =>
   simp only [nextL] at h ⊢
   split at h
   · rename_i h0
     rw [if_pos h0]
     have hp : 0 < spanN namedB (c :: r) := span_pos (by unfold namedB; rw [h0]; rfl)
     have hl := spanN_le namedB (c :: r)
     unfold nameL at h ⊢
     split
     · exact ⟨hp, hl⟩
     · rename_i hw
       rw [if_neg hw] at h
       split
       · rename_i h3; rw [if_pos h3] at h; simp at h
       · exact ⟨hp, hl⟩
   · rename_i h0
     rw [if_neg h0]
     split at h
     · rename_i h1
       rw [if_pos h1]
       have hp : 0 < spanN digitB (c :: r) := span_pos h1
       have hl := spanN_le digitB (c :: r)
       unfold numL at h ⊢
       cases hv : valueO ((c :: r).take (spanN digitB (c :: r))) with
       | none => rw [hv] at h; simp [numK] at h
       | some v =>
         rw [hv] at h
         simp only [numK] at h ⊢
         split
         · rename_i hb; rw [if_pos hb] at h; simp at h
         · exact ⟨hp, hl⟩
     · rename_i h1
       rw [if_neg h1]
       split at h
       · rename_i h2
         rw [if_pos h2]
         exact ⟨ahead_pos h2, ahead_le _⟩
       · simp at h
def goL : Nat → Nat → List UInt8 → List Res × Int × Int
 | 0, _, _ => ([], 0, 0)
 | f + 1, q, l => if l = [] then ([], 0, 0) else if (nextL l).fr = 0 then
     (toRes q l (nextL l) :: (goL f (q + (nextL l).n + sk false (l.drop (nextL l).n)) ((l.drop (nextL l).n).drop (sk false (l.drop (nextL l).n)))).1, (goL f (q + (nextL l).n + sk false (l.drop (nextL l).n)) ((l.drop (nextL l).n).drop (sk false (l.drop (nextL l).n)))).2)
   else ([], ((q + (nextL l).fa : Nat) : Int), (nextL l).fr)
theorem toRes_fr (q : Nat) (l : List UInt8) : (toRes q l (nextL l)).fr = (nextL l).fr := by
 unfold toRes; split
 · rename_i h; exact h.symm
 · rfl
theorem goH_list (s : ByteArray) : ∀ (f q : Nat), goH s f q = goL f q (bytesFrom s q)
 | 0, q => rfl
 | f + 1, q => by
   by_cases hq : q < s.size
   · have hne : ¬ bytesFrom s q = [] := by rw [from_at s q hq]; simp
     have hR := nextR_list s q hq
     simp only [goL]
     rw [if_neg hne]
     by_cases hf : (nextL (bytesFrom s q)).fr = 0
     · have hf' : (nextR s q).fr = 0 := by rw [hR, toRes_fr]; exact hf
       obtain ⟨_, g2⟩ := nextL_good _ hf
       have hz : (nextR s q).text.size = (nextL (bytesFrom s q)).n := by
        rw [hR]; unfold toRes; rw [if_pos hf]
        show (((bytesFrom s q).take _).toArray).size = _
        simp; omega
       have e : nx s q = q + (nextL (bytesFrom s q)).n + sk false ((bytesFrom s q).drop (nextL (bytesFrom s q)).n) := by
        unfold nx; rw [hz, passN_sk, from_drop]
       rw [goH_tok hq hf', if_pos hf, goH_list s f (nx s q), ← hR, e, from_drop, from_drop]
     · have hf' : ¬ (nextR s q).fr = 0 := by rw [hR, toRes_fr]; exact hf
       rw [goH_fault hq hf', if_neg hf, hR]
       unfold toRes
       rw [if_neg hf]
   · rw [goH_end hq, from_end s q (by omega)]
     simp [goL]
theorem goL_more : ∀ (f g q : Nat) (l : List UInt8), l.length < f → l.length < g → goL f q l = goL g q l
 | 0, _, _, _, h, _ => absurd h (Nat.not_lt_zero _)
 | _, 0, _, _, _, h => absurd h (Nat.not_lt_zero _)
 | f + 1, g + 1, q, l, hf, hg => by
   simp only [goL]
   by_cases h0 : l = []
   · rw [if_pos h0, if_pos h0]
   · rw [if_neg h0, if_neg h0]
     by_cases h1 : (nextL l).fr = 0
     · obtain ⟨g1, g2⟩ := nextL_good _ h1
       rw [if_pos h1, if_pos h1, goL_more f g _ _ (by simp; omega) (by simp; omega)]
     · rw [if_neg h1, if_neg h1]
def lexL (q : Nat) (l : List UInt8) : List Res × Int × Int := goL (l.length + 1) q l
def restL (e : Nat) (l : List UInt8) : List Res × Int × Int := lexL (e + sk false l) (l.drop (sk false l))
theorem front_list (s : ByteArray) : frontR s = restL 0 s.data.toList := by
 unfold frontR restL lexL
 have hz : s.size = s.data.toList.length := by simp
 rw [passN_sk, from_nought, goH_list, Nat.zero_add]
 have e : bytesFrom s (sk false s.data.toList) = s.data.toList.drop (sk false s.data.toList) := rfl
 rw [e]
 exact goL_more _ _ _ _ (by rw [List.length_drop]; omega) (Nat.lt_succ_self _)
set_option linter.unusedVariables false
theorem digitsV_in : ∀ (l : List UInt8) (v z : Int), 0 ≤ v → v ≤ 9223372036854775807 → digitsV l v = some z → 0 ≤ z ∧ z ≤ 9223372036854775807
 | [], v, z, h0, h1, h => by
   simp only [digitsV, Option.some.injEq] at h
   omega
 | c :: r, v, z, h0, h1, h => by
   simp only [digitsV] at h
   split at h
   · cases h
   · rename_i hd
     split at h
     · cases h
     · rename_i hv
       have hd : 48 ≤ (c.toNat : Int) ∧ (c.toNat : Int) ≤ 57 := by
        have : digitB (c.toNat : Int) = true := by simpa using hd
        unfold digitB at this
        simpa using this
       have hv2 : v ≤ (9223372036854775807 - ((c.toNat : Int) - 48)) / 10 := by omega
       exact digitsV_in r _ z (by omega) (by omega) h
theorem valueO_in {l : List UInt8} {z : Int} (h : valueO l = some z) : 0 ≤ z ∧ z ≤ 9223372036854775807 := by
 cases l with
 | nil => simp [valueO] at h
 | cons c r =>
   simp only [valueO] at h
   split at h
   · cases h
   · exact digitsV_in _ 0 z (by decide) (by decide) h
theorem nextL_wd (l : List UInt8) : 0 ≤ (nextL l).wd ∧ (nextL l).wd ≤ 9223372036854775807 := by
 cases l with
 | nil => exact ⟨Int.le_refl 0, (by decide : (0 : Int) ≤ 9223372036854775807)⟩
 | cons c r =>
   rw [show nextL (c :: r) = if letterB (c.toNat : Int) = true then nameL (c :: r) else if digitB (c.toNat : Int) = true then numL (c :: r) else if signB (c.toNat : Int) = true then ⟨4, aheadN (c :: r), 0, 0, 0⟩ else ⟨0, 0, 0, 0, 1⟩ from rfl]
   by_cases h1 : letterB (c.toNat : Int) = true
   · rw [if_pos h1]
     unfold nameL
     by_cases h2 : wordL ((c :: r).take (spanN namedB (c :: r))) = true
     · rw [if_pos h2]; exact ⟨Int.le_refl 0, (by decide : (0 : Int) ≤ 9223372036854775807)⟩
     · rw [if_neg h2]
       by_cases h3 : 32 < spanN namedB (c :: r)
       · rw [if_pos h3]; exact ⟨Int.le_refl 0, (by decide : (0 : Int) ≤ 9223372036854775807)⟩
       · rw [if_neg h3]; exact ⟨Int.le_refl 0, (by decide : (0 : Int) ≤ 9223372036854775807)⟩
   · rw [if_neg h1]
     by_cases h2 : digitB (c.toNat : Int) = true
     · rw [if_pos h2]
       unfold numL
       cases hv : valueO ((c :: r).take (spanN digitB (c :: r))) with
       | none => exact ⟨Int.le_refl 0, (by decide : (0 : Int) ≤ 9223372036854775807)⟩
       | some z =>
         simp only [numK]
         split
         · exact ⟨Int.le_refl 0, (by decide : (0 : Int) ≤ 9223372036854775807)⟩
         · exact valueO_in hv
     · rw [if_neg h2]
       split <;> exact ⟨Int.le_refl 0, (by decide : (0 : Int) ≤ 9223372036854775807)⟩
theorem toRes_wd (q : Nat) (l : List UInt8) : 0 ≤ (toRes q l (nextL l)).wd ∧ (toRes q l (nextL l)).wd ≤ 9223372036854775807 := by
 unfold toRes
 split
 · exact nextL_wd l
 · simp
theorem goL_wd : ∀ (f q : Nat) (l : List UInt8), ∀ x ∈ (goL f q l).1, 0 ≤ x.wd ∧ x.wd ≤ 9223372036854775807
 | 0, q, l, x, hx => by simp [goL] at hx
 | f + 1, q, l, x, hx => by
   simp only [goL] at hx
   split at hx
   · simp at hx
   · split at hx
     · rcases List.mem_cons.1 hx with rfl | hx
       · exact toRes_wd q l
       · exact goL_wd f _ _ x hx
     · simp at hx
theorem scanX_wd (s : ByteArray) : ∀ x ∈ (scanX s).1, 0 ≤ x.wd ∧ x.wd ≤ 9223372036854775807 := by
 unfold scanX
 split
 · simp
 · split
   · rw [front_list]
     exact goL_wd _ _ _
   · simp
end Go.Proofs.YtikaflpiephaiaaGreatDoor

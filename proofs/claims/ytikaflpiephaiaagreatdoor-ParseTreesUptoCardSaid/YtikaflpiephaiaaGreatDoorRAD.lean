/- The proof, part 4: texts that belong together, in one. -/
import Derived.RangeFuncNested
import Derived.RangeFuncBound
import Derived.RangeFuncCalls
import Derived.RangeFuncLeaves
import Derived.Shelf.Abstract
import Derived.Shelf.RegionOpen
import Derived.WalkKit
import Derived.OwnWalkIn
import Derived.TacticsInMore
import Derived.LoopNIn
import Derived.LoopIn
import Derived.Maps.AppendAt
import Derived.Test.YtikaflpiephaiaaGreatDoorRAC
import Derived.Sort.QuietIn
set_option maxRecDepth 100000
set_option maxHeartbeats 20000000
namespace Go.Proofs.YtikaflpiephaiaaGreatDoor
open Go.RowKit
structure Keep (sel : Nat → Obj → Prop) (A B : World) : Prop where
 os : B.os = A.os
 tape : B.tape = A.tape
 output : B.output = A.output
 size : A.heap.size ≤ B.heap.size
 block : ∀ k o, A.heap[k]? = some o → sel k o → B.heap[k]? = some o
theorem Keep.refl (sel : Nat → Obj → Prop) (A : World) : Keep sel A A := ⟨rfl, rfl, rfl, Nat.le_refl _, fun _ _ h _ => h⟩
theorem Keep.trans {sel : Nat → Obj → Prop} {A B C : World} (h : Keep sel A B) (k : Keep sel B C) : Keep sel A C :=
 ⟨k.os.trans h.os, k.tape.trans h.tape, k.output.trans h.output, Nat.le_trans h.size k.size, fun i o hi hs => k.block i o (h.block i o hi hs) hs⟩
theorem Keep.mono {sel sel' : Nat → Obj → Prop} {A B : World} (h : Keep sel A B) (hm : ∀ k o, sel' k o → sel k o) : Keep sel' A B :=
 ⟨h.os, h.tape, h.output, h.size, fun k o hk hs => h.block k o hk (hm k o hs)⟩
theorem Keep.grown {sel : Nat → Obj → Prop} {A B C : World} {row : Option Nat} (h : Keep sel A B) (hg : B.grownBy C row) (hr : ∀ r o, row = some r → B.heap[r]? = some o → ¬ sel r o) : Keep sel A C :=
 h.trans ⟨hg.os, hg.tape, hg.output, hg.size, fun k o hk hs => (hg.block k (Array.getElem?_eq_some_iff.1 hk).1 (fun e => hr k o e.symm hk hs)).trans hk⟩
theorem Keep.alloc {sel : Nat → Obj → Prop} {A B : World} (h : Keep sel A B) (o : Obj) : Keep sel A (B.alloc o) :=
 h.grown (World.grownBy_alloc B o none) (fun _ _ e => by cases e)
theorem Keep.putObj {sel : Nat → Obj → Prop} {A B : World} (h : Keep sel A B) {l : Nat} {o : Obj} (o' : Obj) (hl : B.heap[l]? = some o) (hs : ¬ sel l o) : Keep sel A (B.putObj l o') :=
 h.grown (grownBy_putObj' B l o') (fun r u e hu => by cases e; rw [hl] at hu; cases hu; exact hs)
theorem grownBy_setCellAt (W : World) (p : Addr) (v : Value) : W.grownBy (W.setCell p v) (some p.block) :=
 ⟨rfl, rfl, rfl, by simp [World.setCell], fun k _ hk => Below.heap_setCell _ _ _ k (fun e => hk (by rw [e]))⟩
theorem Keep.setCell {sel : Nat → Obj → Prop} {A B : World} (h : Keep sel A B) {p : Addr} {o : Obj} (u : Value) (hl : B.heap[p.block]? = some o) (hs : ¬ sel p.block o) : Keep sel A (B.setCell p u) :=
 h.grown (grownBy_setCellAt B p u) (fun r x e hx => by cases e; rw [hl] at hx; cases hx; exact hs)
theorem Keep.below {sel : Nat → Obj → Prop} {A B : World} {n : Nat} (h : Keep sel A B) (hn : n ≤ A.heap.size) (hs : ∀ k o, k < n → sel k o) : Below n A B :=
 ⟨h.os, h.tape, h.output, h.size, fun k hk => by
  have hlt : k < A.heap.size := by omega
  rw [h.block k _ (Array.getElem?_eq_getElem hlt) (hs k _ hk), Array.getElem?_eq_getElem hlt]⟩
theorem Keep.of_below {sel : Nat → Obj → Prop} {A B : World} (h : Below A.heap.size A B) : Keep sel A B :=
 ⟨h.os, h.tape, h.output, h.size, fun k _ hk _ => (h.block k (Array.getElem?_eq_some_iff.1 hk).1).trans hk⟩
def keepPost {α : Type} (sB : Nat → Obj → Prop) (I : List α → World → Prop) (Ix : Code → List α → World → Prop) (xs : List α) (W : World) : Exit → Act → World → Prop
 | .normal, _, W' => Keep sB W W' ∧ I xs W'
 | .ret, _, W' => Keep sB W W' ∧ Ix .ret xs W'
 | .exit id, _, W' => Keep sB W W' ∧ Ix (.exit id) xs W'
 | .goto t, _, W' => Keep sB W W' ∧ Ix (.goto t) xs W'
 | .panic _, _, _ => False
 | .outgrown, _, _ => False
theorem wpIn_range_keep {F : Fence} {n : Nat} {P : Program} {α : Type} {g : Operand} {ps : Array Tmp} {assign body : Code} {Q : Exit → Act → World → Prop} {a : Act} {w : World}
 (hro : F.round = none) (h1 : 1 ≤ n) {gf : Nat} {fst lb : Array Value} (hg : a.eval g = .func (.func gf) fst lb) (hFg : F.fn gf) (eg : ∀ args w, (callFunc gf args).run P w = .ok (.enter gf args) w)
 {encs : α → Array Value} (hps : ∀ x, (encs x).size = ps.size)
 (sO sY sC : Nat → Obj → Prop) (hO : ∀ k o, o.isCells = false → sO k o) (hY : ∀ k o, w.heap.size ≤ k → sY k o → o.isCells = true) (hC : ∀ k o, w.heap.size ≤ k → sC k o → o.isCells = true) (hCO : ∀ k o, sC k o → sO k o)
 {S Sp : List α → World → Prop} {ok : List α → α → Prop}
 (hseq : ∀ (l : Nat) (J Jx : List α → World → Prop) (W : World), Below w.heap.size w W →
  (∀ s A B, J s A → Keep sO A B → J s B) → (∀ s A B, Jx s A → Keep sO A B → Jx s B) →
  (∀ pre x W1, J pre W1 → ok pre x → YieldAt F (n - 1 - 1) P l (encs x) W1 fun e W' =>
   (e = .returned (.bool true) ∧ J (pre ++ [x]) W' ∧ Keep sY W1 W') ∨ (e = .returned (.bool false) ∧ Jx (pre ++ [x]) W' ∧ Keep sY W1 W')) →
  J [] W →
  CallsIn F (n - 1) P gf (fst ++ #[.func (.yield l) #[] #[]] ++ lb) W fun e W' => (∃ v, e = .returned v) ∧ ((∃ xs, S xs W' ∧ J xs W') ∨ (∃ pre, Sp pre W' ∧ Jx pre W')))
 (I : List α → World → Prop) (Ix : Code → List α → World → Prop) (hI : ∀ s A B, I s A → Keep sC A B → I s B) (hIx : ∀ c s A B, Ix c s A → Keep sC A B → Ix c s B) (h0 : I [] w)
 (Ax : α → Act → World → Prop) (hAx : ∀ x a' A B, Ax x a' A → Keep sC A B → Ax x a' B)
 (hassign : ∀ (l : Nat) (pre : List α) (x : α) (W : World) (K : Act → World → Prop), I pre W → (∀ a' W', Keep (fun k o => sY k o ∨ o.isCells = false) W W' → I pre W' → Ax x a' W' → K a' W') →
  assign.wpIn (F.inRound l) (n - 1 - 1) P (Exit.then K (fun _ _ _ => False)) { tmps := (ps.zip (encs x)).foldl (fun t (p, v) => t.setIfInBounds p v) a.tmps, defers := [] } W)
 (hbody : ∀ (l : Nat) (pre : List α) (x : α) (a' : Act) (W : World), I pre W → Ax x a' W → ok pre x → body.wpIn (F.inRound l) (n - 1 - 1) P (keepPost (fun k o => sY k o ∨ o.isCells = false) I Ix (pre ++ [x]) W) a' W)
 (hdone : ∀ (D : Nat) (xs : List α) (W0 W : World), w.heap.size ≤ D → S xs W0 → I xs W → Keep (fun k o => k < w.heap.size ∨ o.isCells = true) W0 W → W.heap[D]? = some (.deferred (some [])) → Q .normal { a with defers := { target := .collected D, args := #[] } :: a.defers } W)
 (hstop : ∀ (D : Nat) (c : Code) (pre : List α) (W0 W : World), w.heap.size ≤ D → Sp pre W0 → Ix c pre W → Keep (fun k o => k < w.heap.size ∨ o.isCells = true) W0 W → W.heap[D]? = some (.deferred (some [])) → c.wpIn F n P Q { a with defers := { target := .collected D, args := #[] } :: a.defers } W) :
 (Code.rangeFunc g ps assign body).wpIn F n P Q a w := by
 refine wpIn_rangeFunc ?_
 intro fn hfn
 rw [hro]
 obtain ⟨rec, hrec⟩ : ∃ rec : LoopState → Option Code → Loop, rec = fun st pe => { state := st, pending := pe, fn, tmps := a.tmps, params := ps, assign, body, defers := w.heap.size } := ⟨_, rfl⟩
 obtain ⟨W1, hW1⟩ : ∃ W1, (w.alloc (.deferred (some []))).alloc (.loop (rec .ready none)) = W1 := ⟨_, rfl⟩
 have hL1 : W1.heap[w.heap.size + 1]? = some (.loop (rec .ready none)) := by
  rw [← hW1]; have := World.alloc_heap_new (w.alloc (.deferred (some []))) (.loop (rec .ready none)); rwa [World.size_alloc] at this
 have hK1 : W1.heap[w.heap.size]? = some (.deferred (some [])) := by
  rw [← hW1]; exact (Below.heap_alloc _ _ _ (by simp)).trans (World.alloc_heap_new w _)
 have hI1 : I [] W1 := by rw [← hW1]; exact hI _ _ _ h0 (((Keep.refl _ w).alloc _).alloc _)
 have hb1 : Below w.heap.size w W1 := by
  rw [← hW1]; exact ((Below.refl _ w).alloc (Nat.le_refl _) _).alloc (by simp) _
 have put : ∀ {W : World} {l : Nat} {o : Obj} (o' : Obj), w.heap.size ≤ l → W.heap[l]? = some o → o.isCells = false → Keep sC W (W.putObj l o') := fun o' hle hl hc =>
  (Keep.refl _ _).putObj o' hl (fun hs => by have := hC _ _ hle hs; rw [hc] at this; cases this)
 have putY : ∀ {W : World} {l : Nat} {o : Obj} (o' : Obj), w.heap.size ≤ l → W.heap[l]? = some o → o.isCells = false → Keep sY W (W.putObj l o') := fun o' hle hl hc =>
  (Keep.refl _ _).putObj o' hl (fun hs => by have := hY _ _ hle hs; rw [hc] at this; cases this)
 have putR : ∀ {W : World} {l : Nat} {o : Obj} (o' : Obj), w.heap.size ≤ l → W.heap[l]? = some o → o.isCells = false → Keep (fun k o => k < w.heap.size ∨ o.isCells = true) W (W.putObj l o') := fun o' hle hl hc =>
  (Keep.refl _ _).putObj o' hl (fun hs => by rcases hs with hs | hs; · omega
                                             · rw [hc] at hs; cases hs)
 refine ⟨w.heap.size + 1, [{ target := .collected w.heap.size, args := #[] }], W1, { target := .fn (.func gf) lb, args := fst ++ #[.func (.yield (w.heap.size + 1)) #[] #[]] }, W1, gf,
  fst ++ #[.func (.yield (w.heap.size + 1)) #[] #[]] ++ lb, W1, ?_, ?_, ?_, ?_, fun _ => h1, ?_⟩
 · rw [← hW1, hrec]; exact run_enterLoop_outer _ _ _ _ _
 · simp only [resolve, hg]
   simp [go_sem]
 · intro f' hf'; simp [Target.leads] at hf'; subst hf'; exact hFg
 · simp [invoke, go_sem, eg]
 · refine (hseq (w.heap.size + 1)
    (fun pre W => I pre W ∧ W.heap[w.heap.size + 1]? = some (.loop (rec .ready none)) ∧ W.heap[w.heap.size]? = some (.deferred (some [])))
    (fun pre W => ∃ c, Ix c pre W ∧ W.heap[w.heap.size + 1]? = some (.loop (rec .done (some c))) ∧ W.heap[w.heap.size]? = some (.deferred (some [])))
    W1 hb1
    (fun s A B hs hk => ⟨hI s A B hs.1 (hk.mono hCO), hk.block _ _ hs.2.1 (hO _ _ rfl), hk.block _ _ hs.2.2 (hO _ _ rfl)⟩)
    (fun s A B hs hk => by
     obtain ⟨c, hc, hl, hd⟩ := hs
     exact ⟨c, hIx c s A B hc (hk.mono hCO), hk.block _ _ hl (hO _ _ rfl), hk.block _ _ hd (hO _ _ rfl)⟩)
    ?_ ⟨hI1, hL1, hK1⟩).mono ?_
   ·
    rintro pre x W ⟨hi, hl, hk⟩ hok
    have hlt : w.heap.size + 1 < W.heap.size := (Array.getElem?_eq_some_iff.1 hl).1
    have hy := run_yield (P := P) (args := encs x) hl (by rw [hrec]; exact hps x)
    rw [hrec] at hy
    refine ⟨fn, _, assign, body, hy, roundIn_of_wpIn hfn (hassign _ pre x W _ hi ?_)⟩
    clear hy
    intro a' Wa hka hia hax
    have hkY : Keep sY W Wa := hka.mono (fun _ _ h => .inl h)
    replace hl := hka.block _ _ hl (.inr rfl)
    replace hk := hka.block _ _ hk (.inr rfl)
    replace hlt : w.heap.size + 1 < Wa.heap.size := (Array.getElem?_eq_some_iff.1 hl).1
    refine ⟨_, run_beginRound hl (by rw [hrec]), ?_⟩
    have hl2 : (Wa.putObj (w.heap.size + 1) (.loop { rec .ready none with state := .busy })).heap[w.heap.size + 1]? = some (.loop { rec .ready none with state := .busy }) := World.putObj_heap_same hlt
    have hk2 : (Wa.putObj (w.heap.size + 1) (.loop { rec .ready none with state := .busy })).heap[w.heap.size]? = some (.deferred (some [])) := (World.putObj_heap_other (by omega)).trans hk
    have hw2 : Keep sY Wa (Wa.putObj (w.heap.size + 1) (.loop { rec .ready none with state := .busy })) := putY _ (by omega) hl rfl
    have hw2C : Keep sC Wa (Wa.putObj (w.heap.size + 1) (.loop { rec .ready none with state := .busy })) := put _ (by omega) hl rfl
    refine wpIn_mono (hbody _ pre x a' _ (hI _ _ _ hia hw2C) (hAx _ _ _ _ hax hw2C) hok) ?_
    have fin : ∀ (jump : Option Code) (W3 : World), Keep (fun k o => sY k o ∨ o.isCells = false) (Wa.putObj (w.heap.size + 1) (.loop { rec .ready none with state := .busy })) W3 →
     (Instr.endRound (w.heap.size + 1) jump).run P W3 = .ok (.bool jump.isNone) (W3.putObj (w.heap.size + 1) (.loop (rec (if jump.isNone then .ready else .done) jump))) ∧
     W3.heap[w.heap.size + 1]? = some (.loop { rec .ready none with state := .busy }) ∧
     (W3.putObj (w.heap.size + 1) (.loop (rec (if jump.isNone then .ready else .done) jump))).heap[w.heap.size + 1]? = some (.loop (rec (if jump.isNone then .ready else .done) jump)) ∧
     (W3.putObj (w.heap.size + 1) (.loop (rec (if jump.isNone then .ready else .done) jump))).heap[w.heap.size]? = some (.deferred (some [])) ∧
     Keep sY W (W3.putObj (w.heap.size + 1) (.loop (rec (if jump.isNone then .ready else .done) jump))) ∧
     Keep sC W3 (W3.putObj (w.heap.size + 1) (.loop (rec (if jump.isNone then .ready else .done) jump))) := fun jump W3 hk3 => by
     have hl3 := hk3.block _ _ hl2 (.inr rfl)
     have := run_endRound (P := P) jump hl3
     rw [hrec] at this ⊢
     exact ⟨this, by rw [hrec] at hl3; exact hl3, World.putObj_heap_same (Array.getElem?_eq_some_iff.1 hl3).1, (World.putObj_heap_other (by omega)).trans (hk3.block _ _ hk2 (.inr rfl)),
      hkY.trans (Keep.trans (by rw [hrec] at hw2; exact hw2) (Keep.trans (by rw [hrec] at hk3; exact hk3.mono (fun _ _ h => .inl h)) (putY _ (by omega) hl3 rfl))), put _ (by omega) hl3 rfl⟩
    rintro e a3 W3 hp
    cases e with
    | normal =>
      obtain ⟨hk3, hi3⟩ := hp
      obtain ⟨hr, hl3, hl4, hk4, hy4, hc4⟩ := fin none W3 hk3
      exact ⟨_, _, hr, .inl ⟨rfl, ⟨hI _ _ _ hi3 hc4, hl4, hk4⟩, hy4⟩⟩
    | ret =>
      obtain ⟨hk3, hi3⟩ := hp
      obtain ⟨hr, hl3, hl4, hk4, hy4, hc4⟩ := fin (some .ret) W3 hk3
      exact ⟨_, _, hr, .inr ⟨rfl, ⟨.ret, hIx _ _ _ _ hi3 hc4, hl4, hk4⟩, hy4⟩⟩
    | exit id =>
      obtain ⟨hk3, hi3⟩ := hp
      obtain ⟨hr, hl3, hl4, hk4, hy4, hc4⟩ := fin (some (.exit id)) W3 hk3
      exact ⟨_, _, hr, .inr ⟨rfl, ⟨.exit id, hIx _ _ _ _ hi3 hc4, hl4, hk4⟩, hy4⟩⟩
    | goto t =>
      obtain ⟨hk3, hi3⟩ := hp
      obtain ⟨hr, hl3, hl4, hk4, hy4, hc4⟩ := fin (some (.goto t)) W3 hk3
      exact ⟨_, _, hr, .inr ⟨rfl, ⟨.goto t, hIx _ _ _ _ hi3 hc4, hl4, hk4⟩, hy4⟩⟩
    | panic ch => exact hp.elim
    | outgrown => exact hp.elim
   ·
    rintro e W2 ⟨⟨v, rfl⟩, (⟨xs, hS, hi, hl, hk⟩ | ⟨pre, hSp, c, hi, hl, hk⟩)⟩
    · exact ⟨none, _, by have := run_endLoop (P := P) hl (by rw [hrec]; simp); rw [hrec] at this; exact this, hdone _ xs W2 _ (Nat.le_refl _) hS (hI _ _ _ hi (put _ (by omega) hl rfl)) (putR _ (by omega) hl rfl) ((World.putObj_heap_other (by omega)).trans hk)⟩
    · exact ⟨some c, _, by have := run_endLoop (P := P) hl (by rw [hrec]; simp); rw [hrec] at this; exact this, hstop _ c pre W2 _ (Nat.le_refl _) hSp (hIx _ _ _ _ hi (put _ (by omega) hl rfl)) (putR _ (by omega) hl rfl) ((World.putObj_heap_other (by omega)).trans hk)⟩
open Go.RowKit
set_option linter.unusedVariables false
def slashes : List UInt8 := [47, 47]
def stepN (l : List UInt8) : Nat := if Lib.hasPrefix l slashes = true then spanN feedB l else spanN blankB l
theorem stepN_le (l : List UInt8) : stepN l ≤ l.length := by
 unfold stepN; split
 · exact spanN_le _ _
 · exact spanN_le _ _
def passF : Nat → List UInt8 → Nat
 | 0, _ => 0
 | f + 1, l => if stepN l = 0 then 0 else stepN l + passF f (l.drop (stepN l))
theorem passF_more : ∀ (f g : Nat) (l : List UInt8), l.length ≤ f → l.length ≤ g → passF f l = passF g l
 | 0, 0, _, _, _ => rfl
 | 0, g + 1, l, h, _ => by
   have : l = [] := List.length_eq_zero_iff.1 (by omega)
   subst this
   rfl
 | f + 1, 0, l, _, h => by
   have : l = [] := List.length_eq_zero_iff.1 (by omega)
   subst this
   rfl
 | f + 1, g + 1, l, hf, hg => by
   simp only [passF]
   by_cases h : stepN l = 0
   · rw [if_pos h, if_pos h]
   · rw [if_neg h, if_neg h, passF_more f g (l.drop (stepN l)) (by simp; omega) (by simp; omega)]
def passN (l : List UInt8) : Nat := passF l.length l
theorem passN_stop {l : List UInt8} (h : stepN l = 0) : passN l = 0 := by
 unfold passN
 cases hl : l.length with
 | zero => rfl
 | succ n => simp only [passF]; rw [if_pos h]
theorem passN_step {l : List UInt8} (h : ¬ stepN l = 0) : passN l = stepN l + passN (l.drop (stepN l)) := by
 have hle := stepN_le l
 have e : passF l.length l = passF (l.length + 1) l := passF_more _ _ l (Nat.le_refl _) (Nat.le_succ _)
 have e2 : passF (l.length + 1) l = stepN l + passF l.length (l.drop (stepN l)) := by
  simp only [passF]; rw [if_neg h]
 have e3 : passN (l.drop (stepN l)) = passF l.length (l.drop (stepN l)) := passF_more _ _ _ (Nat.le_refl _) (by simp)
 rw [e3, ← e2, ← e]
 rfl
theorem passN_le : ∀ (n : Nat) (l : List UInt8), l.length ≤ n → passN l ≤ l.length
 | 0, l, h => by
   have : l = [] := List.length_eq_zero_iff.1 (by omega)
   subst this
   exact Nat.le_refl _
 | n + 1, l, h => by
   by_cases h0 : stepN l = 0
   · rw [passN_stop h0]; exact Nat.zero_le _
   · have hle := stepN_le l
     have k := passN_le n (l.drop (stepN l)) (by simp; omega)
     rw [passN_step h0]
     simp at k
     omega
theorem from_drop (s : ByteArray) (p n : Nat) : (bytesFrom s p).drop n = bytesFrom s (p + n) := by
 unfold bytesFrom; rw [List.drop_drop]
theorem from_len (s : ByteArray) (p : Nat) : (bytesFrom s p).length = s.size - p := by
 unfold bytesFrom; simp
theorem Sc.setAt {W : World} {b : Nat} {s : ByteArray} {p fa fr : Int} (h : Sc W b s p fa fr) (p' : Int) : Sc (W.setCell ⟨b, 1, none⟩ (.int .i64 p')) b s p' fa fr :=
 heap_setCell_same W b 1 _ _ (.int .i64 p') h
def atOf (b : Nat) (w : World) : Nat := match w.cell? ⟨b, 1, none⟩ with
 | some v => (intOf v).toNat
 | none => 0
theorem Sc.atOf {W : World} {b : Nat} {s : ByteArray} {p : Nat} {fa fr : Int} (h : Sc W b s p fa fr) : atOf b W = p := by
 unfold Proofs.YtikaflpiephaiaaGreatDoor.atOf; rw [h.cells.1.2.1]; simp [intOf]
theorem pass_any (b : Nat) (s : ByteArray) (p : Nat) (fa fr : Int) (w : World) (hs62 : s.size ≤ 281474976710656) (hp : p ≤ s.size) (hs : Sc w b s p fa fr) :
 Calls Tryz.prog 150 #[.pointer (some ⟨b, 0, none⟩)] w fun e w' => e = .returned (.tuple #[]) ∧ Sc w' b s ((p + passN (bytesFrom s p) : Nat) : Int) fa fr ∧ Keep (fun k _ => k ≠ b) w w' ∧ w'.heap.size = w.heap.size := by
 have HS := Lib.hid hs
 clear hs
 obtain ⟨R, hR⟩ : ∃ R, Hid (R = p + passN (bytesFrom s p)) := ⟨_, rfl⟩
 rw [← hR.out]
 go_enter Tryz.func150, Tryz.ntmps150
 go_wp2_with fail
 go_loopw [2, 3] (fun _ _ wr => ∃ k : Nat, k ≤ s.size ∧ Sc wr b s k fa fr ∧ Hid (k + passN (bytesFrom s k) = R) ∧ Keep (fun k _ => k ≠ b) w wr ∧ wr.heap.size = w.heap.size) (fun _ _ wr => s.size - atOf b wr)
 case atStart => exact ⟨p, hp, HS.out, hR.out.symm, Keep.refl _ _, rfl⟩
 case round =>
  obtain ⟨k, hk, hsc, hpa, hB, hsz⟩ := hrel
  have HSC := Lib.hid hsc
  have HSZ := Lib.hid hsz
  obtain ⟨⟨c0, c1, c2, c3⟩, f1, f2, f3⟩ := hsc.cells
  clear hsc hsz
  obtain ⟨X0, hX0⟩ : ∃ X0, Hid (X0 = s.extract k s.size) := ⟨_, rfl⟩
  have hl0 : X0.data.toList = bytesFrom s k := by rw [hX0.out]; exact tail_list s k
  have hz0 : X0.size ≤ 281474976710656 := by rw [hX0.out]; simp; omega
  obtain ⟨l, hl⟩ : ∃ l, Hid (l = bytesFrom s k) := ⟨_, rfl⟩
  rw [← hl.out] at hl0 hpa
  obtain ⟨n1, hn1⟩ : ∃ n, Hid (n = spanN blankB l) := ⟨_, rfl⟩
  obtain ⟨n2, hn2⟩ : ∃ n, Hid (n = spanN feedB l) := ⟨_, rfl⟩
  obtain ⟨q, hq⟩ : ∃ q, Hid (q = Lib.hasPrefix l slashes) := ⟨_, rfl⟩
  have H1 : Hid (∀ W : World, Calls Tryz.prog 130 #[.string X0, .func (.func 179) #[] #[]] W fun e w' => e = .returned (.int .i64 n1) ∧ W = w') := fun W => by
   have k := span_blank X0 (by omega) W
   rw [hl0, ← hn1.out] at k
   exact k
  have H2 : Hid (∀ W : World, Calls Tryz.prog 130 #[.string X0, .func (.func 180) #[] #[]] W fun e w' => e = .returned (.int .i64 n2) ∧ W = w') := fun W => by
   have k := span_feed X0 (by omega) W
   rw [hl0, ← hn2.out] at k
   exact k
  have H3 : Hid (∀ W : World, Calls Tryz.prog 169 #[.string X0, .string ⟨#[47, 47]⟩] W fun e w' => e = .returned (.bool q) ∧ w' = W) := fun W => by
   have k := Go.Proofs.Tryz.strings_HasPrefix X0 ⟨#[47, 47]⟩ W
   rw [hl0] at k
   rw [hq.out]
   exact k
  have hlen : l.length = s.size - k := by rw [hl.out]; exact from_len s k
  have hle1 : n1 ≤ s.size - k := by rw [hn1.out, ← hlen]; exact spanN_le _ _
  have hle2 : n2 ≤ s.size - k := by rw [hn2.out, ← hlen]; exact spanN_le _ _
  have hst : Hid (stepN l = if q = true then n2 else n1) := by rw [Hid, hq.out, hn1.out, hn2.out]; rfl
  clear hl0 hlen
  go_wp2
  go_quiet (fail)
  rw [← hX0.out]
  cases q
  · by_cases h0 : n1 = 0
    · subst h0
      have hfin : Hid (R = k) := by rw [Hid, ← hpa.out, passN_stop (by rw [hst.out]; rfl)]; omega
      go_wp2_with (first
       | (go_at_call 130; (with_reducible refine (H1.out _).mono ?_); rintro e w' ⟨rfl, rfl⟩)
       | (go_at_call 130; (with_reducible refine (H2.out _).mono ?_); rintro e w' ⟨rfl, rfl⟩)
       | (go_at_call 169; refine (H3.out _).mono ?_; rintro e w' ⟨rfl, rfl⟩))
      refine bodyPost_ret (results_none rfl _ _ _) rfl ?_
      rw [hfin.out]
      exact ⟨rfl, HSC.out, ⟨hB.os, hB.tape, hB.output, hB.size, hB.block⟩, HSZ.out⟩
    · have qn : ((n1 : Int) == 0) = false := int_f (by omega)
      have hpos : 0 < n1 := by omega
      have hnext : Hid (k + n1 + passN (bytesFrom s (k + n1)) = R) := by
       have e1 : stepN l = n1 := by rw [hst.out]; rfl
       have e2 := passN_step (l := l) (by rw [e1]; exact h0)
       rw [e1] at e2
       rw [Hid, ← hpa.out, e2, ← from_drop, ← hl.out]
       omega
      clear h0
      go_wp2_with (first
       | (go_at_call 130; (with_reducible refine (H1.out _).mono ?_); rintro e w' ⟨rfl, rfl⟩)
       | (go_at_call 130; (with_reducible refine (H2.out _).mono ?_); rintro e w' ⟨rfl, rfl⟩)
       | (go_at_call 169; refine (H3.out _).mono ?_; rintro e w' ⟨rfl, rfl⟩))
      have hnew : Sc ((wr.drewN nq).setCell ⟨b, 1, none⟩ (.int .i64 ((k : Int) + (n1 : Int)))) b s ((k + n1 : Nat) : Int) fa fr := by
       rw [Int.natCast_add]
       exact (show Sc (wr.drewN nq) b s k fa fr from HSC.out).setAt _
      go_roundw
      case rel => exact ⟨k + n1, by omega, hnew, hnext, (show Keep (fun k _ => k ≠ b) w (wr.drewN nq) from ⟨hB.os, hB.tape, hB.output, hB.size, hB.block⟩).setCell (p := ⟨b, 1, none⟩) _ HSC.out (fun h => h rfl), by simp [World.setCell]; exact HSZ.out⟩
      case measure =>
       rw [hnew.atOf, HSC.out.atOf]
       omega
  · by_cases h0 : n2 = 0
    · subst h0
      have hfin : Hid (R = k) := by rw [Hid, ← hpa.out, passN_stop (by rw [hst.out]; rfl)]; omega
      go_wp2_with (first
       | (go_at_call 130; (with_reducible refine (H1.out _).mono ?_); rintro e w' ⟨rfl, rfl⟩)
       | (go_at_call 130; (with_reducible refine (H2.out _).mono ?_); rintro e w' ⟨rfl, rfl⟩)
       | (go_at_call 169; refine (H3.out _).mono ?_; rintro e w' ⟨rfl, rfl⟩))
      refine bodyPost_ret (results_none rfl _ _ _) rfl ?_
      rw [hfin.out]
      exact ⟨rfl, HSC.out, ⟨hB.os, hB.tape, hB.output, hB.size, hB.block⟩, HSZ.out⟩
    · have qn : ((n2 : Int) == 0) = false := int_f (by omega)
      have hpos : 0 < n2 := by omega
      have hnext : Hid (k + n2 + passN (bytesFrom s (k + n2)) = R) := by
       have e1 : stepN l = n2 := by rw [hst.out]; rfl
       have e2 := passN_step (l := l) (by rw [e1]; exact h0)
       rw [e1] at e2
       rw [Hid, ← hpa.out, e2, ← from_drop, ← hl.out]
       omega
      clear h0
      go_wp2_with (first
       | (go_at_call 130; (with_reducible refine (H1.out _).mono ?_); rintro e w' ⟨rfl, rfl⟩)
       | (go_at_call 130; (with_reducible refine (H2.out _).mono ?_); rintro e w' ⟨rfl, rfl⟩)
       | (go_at_call 169; refine (H3.out _).mono ?_; rintro e w' ⟨rfl, rfl⟩))
      have hnew : Sc ((wr.drewN nq).setCell ⟨b, 1, none⟩ (.int .i64 ((k : Int) + (n2 : Int)))) b s ((k + n2 : Nat) : Int) fa fr := by
       rw [Int.natCast_add]
       exact (show Sc (wr.drewN nq) b s k fa fr from HSC.out).setAt _
      go_roundw
      case rel => exact ⟨k + n2, by omega, hnew, hnext, (show Keep (fun k _ => k ≠ b) w (wr.drewN nq) from ⟨hB.os, hB.tape, hB.output, hB.size, hB.block⟩).setCell (p := ⟨b, 1, none⟩) _ HSC.out (fun h => h rfl), by simp [World.setCell]; exact HSZ.out⟩
      case measure =>
       rw [hnew.atOf, HSC.out.atOf]
       omega
open Go.RowKit Go.Shelf
set_option linter.unusedVariables false
attribute [local go_sem] Oper.semAt_some
def IsTy (t : TypeId) (o : Obj) : Prop := ∃ cs f, o = .cells cs t f
def selO (n : Nat) (k : Nat) (o : Obj) : Prop := k < n ∨ ¬ IsTy 147 o
def selY (n : Nat) (k : Nat) (o : Obj) : Prop := k < n ∨ IsTy 147 o ∨ IsTy 184 o
def nx (s : ByteArray) (q : Nat) : Nat := q + (nextR s q).text.size + passN (bytesFrom s (q + (nextR s q).text.size))
def goH (s : ByteArray) : Nat → Nat → List Res × Int × Int
 | 0, _ => ([], 0, 0)
 | f + 1, q => if q < s.size then (if (nextR s q).fr = 0 then (nextR s q :: (goH s f (nx s q)).1, (goH s f (nx s q)).2) else ([], (nextR s q).fa, (nextR s q).fr)) else ([], 0, 0)
def frontR (s : ByteArray) : List Res × Int × Int := goH s (s.size + 1) (passN (bytesFrom s 0))
theorem span_pos {p : Int → Bool} {c : UInt8} {r : List UInt8} (h : p (c.toNat : Int) = true) : 0 < spanN p (c :: r) := by
 simp only [spanN]; rw [if_pos h]; omega
theorem extract_size (s : ByteArray) (p n : Nat) (h : n ≤ s.size - p) (hp : p ≤ s.size) : ((s.extract p s.size).extract 0 n).size = n := by
 simp; omega
theorem bt_byte (s : ByteArray) (q : Nat) (hq : q < s.size) : ((s[q]'hq).toNat : Int) = PlainAid.bt s q := PlainAid.get_bt s q hq
theorem nextR_good (s : ByteArray) (q : Nat) (hq : q < s.size) (h : (nextR s q).fr = 0) : 0 < (nextR s q).text.size ∧ q + (nextR s q).text.size ≤ s.size ∧ (nextR s q).place = q := by
 have hl := from_len s q
 have hc := bt_byte s q hq
 have hf := from_at s q hq
 unfold nextR at h ⊢
 by_cases h0 : letterB (PlainAid.bt s q) = true
 · rw [if_pos h0] at h ⊢
   have hle := spanN_le namedB (bytesFrom s q)
   have hz : (nameX s q).size = spanN namedB (bytesFrom s q) := extract_size s q _ (by omega) (by omega)
   have hpos : 0 < spanN namedB (bytesFrom s q) := by
    rw [hf]; exact span_pos (by rw [hc]; unfold namedB; rw [h0]; rfl)
   unfold nameR at h ⊢
   split
   · refine ⟨show 0 < (nameX s q).size by omega, show q + (nameX s q).size ≤ s.size by omega, rfl⟩
   · rename_i hw
     rw [if_neg hw] at h
     split
     · rename_i h32
       rw [if_pos h32] at h
       simp at h
     · refine ⟨show 0 < (nameX s q).size by omega, show q + (nameX s q).size ≤ s.size by omega, rfl⟩
 · rw [if_neg h0] at h ⊢
   by_cases h1 : digitB (PlainAid.bt s q) = true
   · rw [if_pos h1] at h ⊢
     have hle := spanN_le digitB (bytesFrom s q)
     have hz : (numX s q).size = spanN digitB (bytesFrom s q) := extract_size s q _ (by omega) (by omega)
     have hpos : 0 < spanN digitB (bytesFrom s q) := by
      rw [hf]; exact span_pos (by rw [hc]; exact h1)
     unfold numR at h ⊢
     cases hv : valueO (numX s q).data.toList with
     | none => rw [hv] at h; simp [numC] at h
     | some v =>
       rw [hv] at h
       simp only [numC] at h ⊢
       by_cases hb : behindB s q = true
       · rw [if_pos hb] at h; simp at h
       · rw [if_neg hb]; refine ⟨show 0 < (numX s q).size by omega, show q + (numX s q).size ≤ s.size by omega, rfl⟩
   · rw [if_neg h1] at h ⊢
     by_cases h2 : signB (PlainAid.bt s q) = true
     · rw [if_pos h2] at h ⊢
       have hle := ahead_le (bytesFrom s q)
       have hz : (signX s q).size = aheadN (bytesFrom s q) := extract_size s q _ (by omega) (by omega)
       have hpos : 0 < aheadN (bytesFrom s q) := by
        unfold aheadN
        split
        · omega
        · rw [hf]; simp only [firstN]; rw [if_pos (by rw [hc]; exact h2)]; omega
       unfold signR
       refine ⟨show 0 < (signX s q).size by omega, show q + (signX s q).size ≤ s.size by omega, rfl⟩
     · rw [if_neg h2] at h
       simp at h
theorem goH_end {s : ByteArray} {f q : Nat} (h : ¬ q < s.size) : goH s f q = ([], 0, 0) := by
 cases f with
 | zero => rfl
 | succ f => simp only [goH]; rw [if_neg h]
theorem goH_fault {s : ByteArray} {f q : Nat} (h : q < s.size) (hf : ¬ (nextR s q).fr = 0) : goH s (f + 1) q = ([], (nextR s q).fa, (nextR s q).fr) := by
 simp only [goH]; rw [if_pos h, if_neg hf]
theorem goH_tok {s : ByteArray} {f q : Nat} (h : q < s.size) (hf : (nextR s q).fr = 0) : goH s (f + 1) q = (nextR s q :: (goH s f (nx s q)).1, (goH s f (nx s q)).2) := by
 simp only [goH]; rw [if_pos h, if_pos hf]
def okR (s : ByteArray) (pre : List Res) (x : Res) : Prop := (pre ++ [x]) <+: (frontR s).1
def encR (x : Res) : Array Value := #[tokV x.kind x.text x.wd x.place]
theorem Sc.keep {W W' : World} {b : Nat} {s : ByteArray} {p fa fr : Int} {sel : Nat → Obj → Prop} (h : Sc W b s p fa fr) (hk : Keep sel W W') (hs : sel b (.cells #[.string s, .int .i64 p, .int .i64 fa, .int .i64 fr] 147 (0, 0))) : Sc W' b s p fa fr := hk.block _ _ h hs
def Fm (W : World) (g b : Nat) : Prop := W.heap[g]? = some (.cells (famCells b) 184 (0, 0))
theorem not_ty {t u : TypeId} {cs : Array Value} {f : Nat × Nat} (h : t ≠ u) : ¬ IsTy u (.cells cs t f) := fun ⟨_, _, e⟩ => by
 cases e; exact h rfl
theorem keepO_below {n : Nat} {W W' : World} (h : Below W.heap.size W W') : Keep (selO n) W W' := Keep.of_below h
end Go.Proofs.YtikaflpiephaiaaGreatDoor

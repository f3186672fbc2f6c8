/- A machine in memory. -/
import Derived.Test.YtmpljhfinmfnbaaDoorVm0
import Derived.Test.YtmpljhfinmfnbaaDoorVo0
import Derived.Test.YtmpljhfinmfnbaaDoorVb0
namespace Go.Proofs.YtmpljhfinmfnbaaDoor
open Go.RowKit
set_option linter.unusedVariables false
set_option maxRecDepth 100000
/-- Blocks that never change: pages, what was printed, code. -/
def immO (o : Obj) : Prop := ∃ cur t, o = .cells cur t (0, 0) ∧ (t = 135 ∨ t = 140 ∨ t = 87)
/-- Nothing but these blocks changes. -/
abbrev KeepV (F : List Nat) (W W' : World) : Prop := Keep (fun k o => k ∉ F ∨ immO o) W W'
def pageRow (mem : List Int) (k : Nat) : Array Value := ((List.range 32).map fun j => Value.int .i64 (mem.getD (32 * k + j) 0)).toArray
def coC (c : Co) (bv cv : Value) : List Value := [.int .i64 c.pc, .bool c.hal] ++ (c.regs.map fun x => .int .i64 x) ++ [bv, cv]
def flatK (L : List (Co × Value × Value)) : List Value := L.flatMap fun x => coC x.1 x.2.1 x.2.2
def ptrs (L : List Nat) : List Value := L.map fun g => .pointer (some ⟨g, 0, none⟩)
def saidR (W : World) : Option Addr → List (Int × Int) → Prop
  | a, [] => a = none
  | a, x :: r => ∃ g b, a = some ⟨g, 0, none⟩ ∧ Own W g 140 #[.pointer b, .int .i64 x.1, .int .i64 x.2, .int .i64 ((r.length + 1 : Nat) : Int)] ∧ saidR W b r
def apartL (L : List (Co × Value × Value)) : Prop := ∀ (i j : Nat) (x y : Co × Value × Value), L[i]? = some x → L[j]? = some y → i ≠ j → ∀ k, x.2.1.ownBlock = some k → y.2.1.ownBlock ≠ some k
/-- A machine behind a pointer: its blocks that change are among F. -/
structure VmX (W : World) (p : Nat) (s : Vm) (F : List Nat) (cv pv : Value) (sd : Option Addr) (L : List (Co × Value × Value)) (PL : List Nat) : Prop where
  own : Own W p 104 #[cv, .int .i64 s.room, pv, .int .i64 (s.mem.length : Int), .pointer sd]
  fst : L.map Prod.fst = s.cores
  cors : W.ownsRow 0 97 20 cv L.length (flatK L)
  pgs : W.ownsRow 0 136 1 pv PL.length (ptrs PL)
  pgn : PL.length = (s.mem.length + 31) / 32
  page : ∀ (k g : Nat), PL[k]? = some g → Own W g 135 (pageRow s.mem k)
  said : saidR W sd s.said.reverse
  buf : ∀ x ∈ L, ownsQ W 0 76 3 x.2.1 x.1.buf.length (stoF x.1.buf)
  code : ∀ x ∈ L, W.ownsRow 0 87 9 x.2.2 x.1.code.length (flatI x.1.code)
  apart : apartL L
  pF : p ∈ F
  cF : ∀ k, cv.ownBlock = some k → k ∈ F
  gF : ∀ k, pv.ownBlock = some k → k ∈ F
  bF : ∀ x ∈ L, ∀ k, x.2.1.ownBlock = some k → k ∈ F
def VmS (W : World) (p : Nat) (s : Vm) (F : List Nat) : Prop := ∃ cv pv sd L PL, VmX W p s F cv pv sd L PL
section
variable {W W' : World} {F G : List Nat}
theorem saidR_keep (h : KeepV G W W') : ∀ (a : Option Addr) (l : List (Int × Int)), saidR W a l → saidR W' a l
  | a, [], q => q
  | a, x :: r, ⟨g, b, e, h1, h2⟩ => ⟨g, b, e, h.block _ _ h1 (.inr ⟨_, _, rfl, .inr (.inl rfl)⟩), saidR_keep h b r h2⟩
theorem row_keepV {T : TypeId} {n : Nat} {v : Value} {m : Nat} {xs : List Value} (h : W.ownsRow 0 T n v m xs) (hk : KeepV G W W') (hs : (∀ k, v.ownBlock = some k → k ∉ G) ∨ (T = 135 ∨ T = 140 ∨ T = 87)) : W'.ownsRow 0 T n v m xs := by
  refine ⟨h.1, ?_⟩
  rcases h.2 with hn | ⟨g, cap, cur, rfl, hb, hg, r⟩
  · exact .inl hn
  · refine .inr ⟨g, cap, cur, rfl, hb, hk.block _ _ hg ?_, r⟩
    rcases hs with hs | hs
    · exact .inl (hs g rfl)
    · exact .inr ⟨_, _, rfl, hs⟩
theorem ownsQ_keepV {T : TypeId} {n : Nat} {v : Value} {m : Nat} {xs : List Value} (h : ownsQ W 0 T n v m xs) (hk : KeepV G W W') (hs : ∀ k, v.ownBlock = some k → k ∉ G) : ownsQ W' 0 T n v m xs :=
  ownsQ_stays h fun k e => by
    have hl := (ownsQ_lt h k e).2
    rw [hk.block k _ (Array.getElem?_eq_getElem hl) (.inl (hs k e)), Array.getElem?_eq_getElem hl]
theorem VmX.keep {p : Nat} {s : Vm} {cv pv : Value} {sd : Option Addr} {L : List (Co × Value × Value)} {PL : List Nat} (h : VmX W p s F cv pv sd L PL) (hk : KeepV G W W') (hd : ∀ k ∈ F, k ∉ G) : VmX W' p s F cv pv sd L PL :=
  ⟨hk.block _ _ h.own (.inl (hd _ h.pF)), h.fst, row_keepV h.cors hk (.inl fun k e => hd k (h.cF k e)), row_keepV h.pgs hk (.inl fun k e => hd k (h.gF k e)), h.pgn, fun k g e => hk.block _ _ (h.page k g e) (.inr ⟨_, _, rfl, .inl rfl⟩), saidR_keep hk _ _ h.said, fun x hx => ownsQ_keepV (h.buf x hx) hk fun k e => hd k (h.bF x hx k e), fun x hx => row_keepV (h.code x hx) hk (.inr (.inr (.inr rfl))), h.apart, h.pF, h.cF, h.gF, h.bF⟩
theorem VmS.keep {p : Nat} {s : Vm} (h : VmS W p s F) (hk : KeepV G W W') (hd : ∀ k ∈ F, k ∉ G) : VmS W' p s F := by
  obtain ⟨cv, pv, sd, L, PL, h⟩ := h
  exact ⟨cv, pv, sd, L, PL, h.keep hk hd⟩
theorem keepV_below (hb : Below W.heap.size W W') : KeepV G W W' := ⟨hb.os, hb.tape, hb.output, hb.size, fun k o hk _ => (hb.block k (Array.getElem?_eq_some_iff.1 hk).1).trans hk⟩
theorem VmS.below {p : Nat} {s : Vm} (h : VmS W p s F) (hb : Below W.heap.size W W') : VmS W' p s F := h.keep (G := []) (keepV_below hb) fun k _ q => by cases q
theorem VmX.lt {p : Nat} {s : Vm} {cv pv : Value} {sd : Option Addr} {L : List (Co × Value × Value)} {PL : List Nat} (h : VmX W p s F cv pv sd L PL) : p < W.heap.size := h.own.lt
end
end Go.Proofs.YtmpljhfinmfnbaaDoor

/- A machine's blocks change. -/
import Derived.Test.YtmpljhfinmfnbaaDoorVw9
import Derived.Test.YtmpljhfinmfnbaaDoorVw3
namespace Go.Proofs.YtmpljhfinmfnbaaDoor
open Go.RowKit
set_option linter.unusedVariables false
set_option maxRecDepth 100000
theorem flatK_len : ∀ L : List (Co × Value × Value), (∀ x ∈ L, x.1.regs.length = 16) → (flatK L).length = L.length * 20
  | [], _ => rfl
  | y :: L, hl => by
    show (coC y.1 y.2.1 y.2.2 ++ flatK L).length = _
    rw [List.length_append, coC_len (hl y (by simp)), flatK_len L (fun z hz => hl z (by simp [hz])), List.length_cons, Nat.succ_mul]
    omega
theorem flatK_set : ∀ (L : List (Co × Value × Value)), (∀ x ∈ L, x.1.regs.length = 16) → ∀ (k : Nat) (x y : Co × Value × Value), L[k]? = some y → ∀ (j : Nat) (u : Value), j < 20 → coC x.1 x.2.1 x.2.2 = (coC y.1 y.2.1 y.2.2).set j u → flatK (L.set k x) = (flatK L).set (k * 20 + j) u
  | [], _, k, x, y, hk, _, _, _, _ => by simp at hk
  | z :: L, hl, 0, x, y, hk, j, u, hj, hc => by
    obtain rfl : z = y := by simpa using hk
    show coC x.1 x.2.1 x.2.2 ++ flatK L = (coC z.1 z.2.1 z.2.2 ++ flatK L).set (0 * 20 + j) u
    rw [Nat.zero_mul, Nat.zero_add, List.set_append_left _ _ (by rw [coC_len (hl z (by simp))]; exact hj), hc]
  | z :: L, hl, k + 1, x, y, hk, j, u, hj, hc => by
    have h20 := coC_len (bv := z.2.1) (cv := z.2.2) (hl z (by simp))
    show coC z.1 z.2.1 z.2.2 ++ flatK (L.set k x) = (coC z.1 z.2.1 z.2.2 ++ flatK L).set ((k + 1) * 20 + j) u
    rw [List.set_append_right _ _ (by rw [h20]; omega), h20, show (k + 1) * 20 + j - 20 = k * 20 + j by omega, flatK_set L (fun w hw => hl w (by simp [hw])) k x y (by simpa using hk) j u hj hc]
theorem coC_reg (c : Co) (bv cv : Value) (h : c.regs.length = 16) (j : Nat) (x : Int) (hj : j < 16) : coC { c with regs := c.regs.set j x } bv cv = (coC c bv cv).set (2 + j) (.int .i64 x) := by
  unfold coC
  rw [List.set_append_left _ _ (by simp [h]; omega), List.set_append_right _ _ (by simp), List.map_set]
  simp
theorem coC_buf (c : Co) (bv cv : Value) (h : c.regs.length = 16) (l : List Sto) (bv' : Value) : coC { c with buf := l } bv' cv = (coC c bv cv).set 18 bv' := by
  unfold coC
  rw [List.set_append_right _ _ (by simp [h])]
  simp [h]
theorem ownsQ_apart {W : World} {base : Nat} {T U : TypeId} {n : Nat} {v : Value} {m : Nat} {xs : List Value} (h : ownsQ W base T n v m xs) {b : Nat} {cs : Array Value} (hb : Own W b U cs) (ht : (T == U) = false) : v.ownBlock ≠ some b := by
  intro e
  rcases h.2 with ⟨rfl, _⟩ | ⟨g, q, cap, cur, rfl, _, hg, _⟩
  · simp [Value.ownBlock] at e
  · simp [Value.ownBlock] at e
    subst e
    exact own_unlike (a := g) (b := g) hg hb ht rfl
theorem VmX.mono {W : World} {p : Nat} {s : Vm} {F G : List Nat} {cv pv : Value} {sd : Option Addr} {L : List (Co × Value × Value)} {PL : List Nat} (h : VmX W p s F cv pv sd L PL) (hs : ∀ k ∈ F, k ∈ G) : VmX W p s G cv pv sd L PL :=
  ⟨h.own, h.fst, h.cors, h.pgs, h.pgn, h.page, h.said, h.buf, h.code, h.apart, hs _ h.pF, fun k e => hs _ (h.cF k e), fun k e => hs _ (h.gF k e), fun x hx k e => hs _ (h.bF x hx k e)⟩
theorem row_cur {W : World} {T : TypeId} {n : Nat} {v : Value} {m : Nat} {xs : List Value} (h : W.ownsRow 0 T n v m xs) {g c : Nat} (hv : v = .slice (some ⟨g, 0, none⟩) m c) : ∃ cur, Own W g T cur := by
  rcases h.2 with ⟨e, _⟩ | ⟨g3, cap3, cur, e, _, hg3, _⟩
  · rw [hv] at e; cases e
  · rw [hv] at e
    injection e with e
    injection e with e
    injection e with e
    subst e
    exact ⟨cur, hg3⟩
section
variable {W : World} {p : Nat} {s : Vm} {F : List Nat} {cv pv : Value} {sd : Option Addr} {L : List (Co × Value × Value)} {PL : List Nat}
theorem VmX.setCo (h : VmX W p s F cv pv sd L PL) (hr : ∀ x ∈ L, x.1.regs.length = 16) {k : Nat} {y : Co × Value × Value} (hk : L[k]? = some y) {g cap : Nat} (hg : cv = .slice (some ⟨g, 0, none⟩) L.length cap) {c' : Co} {bv' : Value} {j : Nat} {u : Value} (hj : j < 20) (hc : coC c' bv' y.2.2 = (coC y.1 y.2.1 y.2.2).set j u) (hcode : c'.code = y.1.code)
    (hbuf : ownsQ (W.setCell ⟨g, k * 20 + j, none⟩ u) 0 76 3 bv' c'.buf.length (stoF c'.buf)) (hbF : ∀ b, bv'.ownBlock = some b → b ∈ F) (hap : ∀ (i : Nat) (x : Co × Value × Value), i ≠ k → L[i]? = some x → ∀ b, bv'.ownBlock = some b → x.2.1.ownBlock ≠ some b) :
    VmX (W.setCell ⟨g, k * 20 + j, none⟩ u) p { s with cores := s.cores.set k c' } F cv pv sd (L.set k (c', bv', y.2.2)) PL := by
  obtain ⟨cur, hgc⟩ := row_cur h.cors hg
  have row_st : ∀ {T : TypeId} {n : Nat} {v : Value} {m : Nat} {xs : List Value}, W.ownsRow 0 T n v m xs → (T == 97) = false → (W.setCell ⟨g, k * 20 + j, none⟩ u).ownsRow 0 T n v m xs := fun h1 ht => row_stays h1 fun b _ e _ => Below.heap_setCell _ _ _ b (by intro e2; subst e2; exact row_apart h1 hgc ht e)
  have q_st : ∀ {v : Value} {m : Nat} {xs : List Value}, ownsQ W 0 76 3 v m xs → ownsQ (W.setCell ⟨g, k * 20 + j, none⟩ u) 0 76 3 v m xs := fun h1 => ownsQ_stays h1 fun b e => Below.heap_setCell _ _ _ b (by intro e2; subst e2; exact ownsQ_apart h1 hgc (by decide) e)
  refine ⟨own_setother (own_unlike h.own hgc (by decide)) h.own _ _, ?_, ?_, row_st h.pgs (by decide), h.pgn, fun a b e => own_setother (own_unlike (h.page a b e) hgc (by decide)) (h.page a b e) _ _, said_setother hgc (by decide) _ _ _ _ h.said, ?_, ?_, ?_, h.pF, h.cF, h.gF, ?_⟩
  · rw [List.map_set, h.fst]
  · rw [List.length_set, flatK_set L hr k (c', bv', y.2.2) y hk j u hj hc]
    exact row_setAt h.cors hg (k * 20 + j) u
  · intro x hx
    rcases set_mem hx with rfl | hx
    · exact hbuf
    · exact q_st (h.buf x hx)
  · intro x hx
    rcases set_mem hx with rfl | hx
    · rw [hcode]
      exact row_st (h.code y (List.mem_of_getElem? hk)) (by decide)
    · exact row_st (h.code x hx) (by decide)
  · intro a b x z hx hz hab e he
    by_cases ha : a = k
    · subst ha
      rw [List.getElem?_set_self (List.getElem?_eq_some_iff.1 hk).1] at hx
      injection hx with hx
      subst hx
      rw [List.getElem?_set_ne hab] at hz
      exact hap b z (fun q => hab q.symm) hz e he
    · rw [List.getElem?_set_ne (fun q => ha q.symm)] at hx
      by_cases hb : b = k
      · subst hb
        rw [List.getElem?_set_self (List.getElem?_eq_some_iff.1 hk).1] at hz
        injection hz with hz
        subst hz
        intro q
        exact hap a x ha hx e q he
      · rw [List.getElem?_set_ne (fun q => hb q.symm)] at hz
        exact h.apart a b x z hx hz hab e he
  · intro x hx b e
    rcases set_mem hx with rfl | hx
    · exact hbF b e
    · exact h.bF x hx b e
/-- A core's cell changes, its buffer stays. -/
theorem VmX.setCo' (h : VmX W p s F cv pv sd L PL) (hr : ∀ x ∈ L, x.1.regs.length = 16) {k : Nat} {y : Co × Value × Value} (hk : L[k]? = some y) {g cap : Nat} (hg : cv = .slice (some ⟨g, 0, none⟩) L.length cap) {c' : Co} {j : Nat} {u : Value} (hj : j < 20) (hc : coC c' y.2.1 y.2.2 = (coC y.1 y.2.1 y.2.2).set j u) (hcode : c'.code = y.1.code) (hb : c'.buf = y.1.buf) :
    VmX (W.setCell ⟨g, k * 20 + j, none⟩ u) p { s with cores := s.cores.set k c' } F cv pv sd (L.set k (c', y.2.1, y.2.2)) PL := by
  obtain ⟨cur, hgc⟩ := row_cur h.cors hg
  have hy := List.mem_of_getElem? hk
  have h1 := h.buf y hy
  refine h.setCo hr hk hg hj hc hcode ?_ (h.bF y hy) (fun i x hi hx b e q => h.apart i k x y hx hk hi b q e)
  rw [hb]
  exact ownsQ_stays h1 fun b e => Below.heap_setCell _ _ _ b (by intro e2; subst e2; exact ownsQ_apart h1 hgc (by decide) e)
theorem VmX.below {W' : World} (h : VmX W p s F cv pv sd L PL) (hb : Below W.heap.size W W') : VmX W' p s F cv pv sd L PL := h.keep (G := []) (keepV_below hb) fun k _ q => by cases q
/-- A page of memory is put. -/
theorem VmX.putPage (h : VmX W p s F cv pv sd L PL) {gp cap : Nat} (hg : pv = .slice (some ⟨gp, 0, none⟩) PL.length cap) {W' : World} {j g2 : Nat} {u : Value} (hb : Below W.heap.size (W.setCell ⟨gp, j, none⟩ u) W') {a x : Int} (hp : PgA W' (rset s.mem a x) pv (PL.set j g2)) :
    VmX W' p { s with mem := rset s.mem a x } F cv pv sd L (PL.set j g2) := by
  obtain ⟨cur, hgc⟩ := row_cur h.pgs hg
  have hsz : (W.setCell ⟨gp, j, none⟩ u).heap.size = W.heap.size := by simp [World.setCell]
  have hb' : Below (W.setCell ⟨gp, j, none⟩ u).heap.size (W.setCell ⟨gp, j, none⟩ u) W' := by rw [hsz]; exact hb
  have blk : ∀ b, b < W.heap.size → b ≠ gp → W'.heap[b]? = W.heap[b]? := fun b h1 h2 => (hb.block b h1).trans (Below.heap_setCell _ _ _ b h2)
  have own_st : ∀ {b : Nat} {T : TypeId} {r : Array Value}, Own W b T r → (T == 136) = false → Own W' b T r := fun h1 ht => (blk _ h1.lt (own_unlike h1 hgc ht)).trans h1
  have row_st : ∀ {T : TypeId} {n : Nat} {v : Value} {m : Nat} {xs : List Value}, W.ownsRow 0 T n v m xs → (T == 136) = false → W'.ownsRow 0 T n v m xs := fun h1 ht => row_stays h1 fun b _ e hl => blk b hl (by intro e2; subst e2; exact row_apart h1 hgc ht e)
  have said_st : ∀ (a : Option Addr) (l : List (Int × Int)), saidR W a l → saidR W' a l := by
    intro a l
    induction l generalizing a with
    | nil => exact fun q => q
    | cons z r ih => exact fun ⟨b, b', e, h1, h2⟩ => ⟨b, b', e, own_st h1 (by decide), ih _ h2⟩
  refine ⟨?_, h.fst, row_st h.cors (by decide), hp.pgs, hp.pgn, hp.page, said_st _ _ h.said, fun z hz => ownsQ_stays (h.buf z hz) fun b e => blk b (ownsQ_lt (h.buf z hz) b e).2 (by intro e2; subst e2; exact ownsQ_apart (h.buf z hz) hgc (by decide) e), fun z hz => row_st (h.code z hz) (by decide), h.apart, h.pF, h.cF, h.gF, h.bF⟩
  have h1 := own_st h.own (by decide)
  rw [← rset_len s.mem a x] at h1
  exact h1
/-- A machine's word for what was printed. -/
theorem VmX.setSaid (h : VmX W p s F cv pv sd L PL) {gs : Nat} {t x : Int} {W' : World} (hb : Below W.heap.size (W.setCell ⟨p, 4, none⟩ (.pointer (some ⟨gs, 0, none⟩))) W') (hgs : Own W' gs 140 #[.pointer sd, .int .i64 t, .int .i64 x, .int .i64 ((s.said.length + 1 : Nat) : Int)]) :
    VmX W' p { s with said := s.said ++ [(t, x)] } F cv pv (some ⟨gs, 0, none⟩) L PL := by
  have blk : ∀ b, b < W.heap.size → b ≠ p → W'.heap[b]? = W.heap[b]? := fun b h1 h2 => (hb.block b h1).trans (Below.heap_setCell _ _ _ b h2)
  have own_st : ∀ {b : Nat} {T : TypeId} {r : Array Value}, Own W b T r → (T == 104) = false → Own W' b T r := fun h1 ht => (blk _ h1.lt (own_unlike h1 h.own ht)).trans h1
  have row_st : ∀ {T : TypeId} {n : Nat} {v : Value} {m : Nat} {xs : List Value}, W.ownsRow 0 T n v m xs → (T == 104) = false → W'.ownsRow 0 T n v m xs := fun h1 ht => row_stays h1 fun b _ e hl => blk b hl (by intro e2; subst e2; exact row_apart h1 h.own ht e)
  have said_st : ∀ (a : Option Addr) (l : List (Int × Int)), saidR W a l → saidR W' a l := by
    intro a l
    induction l generalizing a with
    | nil => exact fun q => q
    | cons z r ih => exact fun ⟨b, b', e, h1, h2⟩ => ⟨b, b', e, own_st h1 (by decide), ih _ h2⟩
  refine ⟨?_, h.fst, row_st h.cors (by decide), row_st h.pgs (by decide), h.pgn, fun a b e => own_st (h.page a b e) (by decide), ?_, fun z hz => ownsQ_stays (h.buf z hz) fun b e => blk b (ownsQ_lt (h.buf z hz) b e).2 (by intro e2; subst e2; exact ownsQ_apart (h.buf z hz) h.own (by decide) e), fun z hz => row_st (h.code z hz) (by decide), h.apart, h.pF, h.cF, h.gF, h.bF⟩
  · have h1 := own_setin h.own 4 (.pointer (some ⟨gs, 0, none⟩))
    exact (hb.block p h.own.lt).trans h1
  · show saidR W' (some ⟨gs, 0, none⟩) (s.said ++ [(t, x)]).reverse
    rw [List.reverse_append]
    refine ⟨gs, sd, rfl, ?_, said_st _ _ h.said⟩
    show Own W' gs 140 #[.pointer sd, .int .i64 t, .int .i64 x, .int .i64 ((s.said.reverse.length + 1 : Nat) : Int)]
    rw [List.length_reverse]
    exact hgs
/-- A core's buffer has grown. -/
theorem VmX.setBuf (h : VmX W p s F cv pv sd L PL) (hr : ∀ x ∈ L, x.1.regs.length = 16) {k : Nat} {y : Co × Value × Value} (hk : L[k]? = some y) {g cap : Nat} (hg : cv = .slice (some ⟨g, 0, none⟩) L.length cap) {v5 : Value} {l : List Sto} {W5 : World} (hgr : W.grownBy W5 y.2.1.ownBlock) (hq : ownsQ W5 0 76 3 v5 l.length (stoF l)) (hv : v5.ownBlock = y.2.1.ownBlock ∨ ∃ k, v5.ownBlock = some k ∧ W.heap.size ≤ k) :
    VmX (W5.setCell ⟨g, k * 20 + 18, none⟩ v5) p { s with cores := s.cores.set k { y.1 with buf := l } } (v5.ownBlock.toList ++ F) cv pv sd (L.set k ({ y.1 with buf := l }, v5, y.2.2)) PL := by
  obtain ⟨cur, hgc⟩ := row_cur h.cors hg
  have hy := List.mem_of_getElem? hk
  have hqy := h.buf y hy
  have b5 : ∀ b, b < W.heap.size → y.2.1.ownBlock ≠ some b → W5.heap[b]? = W.heap[b]? := fun b h1 h2 => hgr.block b h1 (fun e => h2 e.symm)
  have hg5 : Own W5 g 97 cur := (b5 g hgc.lt (ownsQ_apart hqy hgc (by decide))).trans hgc
  have blk : ∀ b, b < W.heap.size → b ≠ g → y.2.1.ownBlock ≠ some b → (W5.setCell ⟨g, k * 20 + 18, none⟩ v5).heap[b]? = W.heap[b]? := fun b h1 h2 h3 => (Below.heap_setCell W5 ⟨g, k * 20 + 18, none⟩ v5 b h2).trans (b5 b h1 h3)
  have own_st : ∀ {b : Nat} {T : TypeId} {r : Array Value}, Own W b T r → (T == 97) = false → (76 == T) = false → Own (W5.setCell ⟨g, k * 20 + 18, none⟩ v5) b T r := fun h1 ht ht2 => (blk _ h1.lt (own_unlike h1 hgc ht) (ownsQ_apart hqy h1 ht2)).trans h1
  have row_st : ∀ {T : TypeId} {n : Nat} {v : Value} {m : Nat} {xs : List Value}, W.ownsRow 0 T n v m xs → (T == 97) = false → (76 == T) = false → (W5.setCell ⟨g, k * 20 + 18, none⟩ v5).ownsRow 0 T n v m xs := by
    intro T n v m xs h1 ht ht2
    refine ⟨h1.1, ?_⟩
    rcases h1.2 with h2 | ⟨b, cp, cu, e, h3, h4, h5⟩
    · exact .inl h2
    · exact .inr ⟨b, cp, cu, e, h3, own_st (T := T) h4 ht ht2, h5⟩
  have said_st : ∀ (a : Option Addr) (l : List (Int × Int)), saidR W a l → saidR (W5.setCell ⟨g, k * 20 + 18, none⟩ v5) a l := by
    intro a l
    induction l generalizing a with
    | nil => exact fun q => q
    | cons z r ih => exact fun ⟨b, b', e, h1, h2⟩ => ⟨b, b', e, own_st h1 (by decide) (by decide), ih _ h2⟩
  have hv' : ∀ b, v5.ownBlock = some b → y.2.1.ownBlock = some b ∨ W.heap.size ≤ b := by
    intro b e
    rcases hv with hv | ⟨b2, e2, h2⟩
    · exact .inl (hv ▸ e)
    · rw [e] at e2
      injection e2 with e2
      subst e2
      exact .inr h2
  have hap : ∀ (i : Nat) (x : Co × Value × Value), i ≠ k → L[i]? = some x → ∀ b, v5.ownBlock = some b → x.2.1.ownBlock ≠ some b := by
    intro i x hi hx b e q
    rcases hv' b e with e | e
    · exact h.apart i k x y hx hk hi b q e
    · have := (ownsQ_lt (h.buf x (List.mem_of_getElem? hx)) b q).2
      omega
  refine ⟨own_st h.own (by decide) (by decide), ?_, ?_, row_st h.pgs (by decide) (by decide), h.pgn, fun a b e => own_st (h.page a b e) (by decide) (by decide), said_st _ _ h.said, ?_, ?_, ?_, List.mem_append_right _ h.pF, fun b e => List.mem_append_right _ (h.cF b e), fun b e => List.mem_append_right _ (h.gF b e), ?_⟩
  · rw [List.map_set, h.fst]
  · rw [List.length_set, flatK_set L hr k ({ y.1 with buf := l }, v5, y.2.2) y hk 18 v5 (by decide) (coC_buf _ _ _ (hr y hy) _ _)]
    refine row_setAt ?_ hg (k * 20 + 18) v5
    exact row_stays h.cors fun b _ e hl => b5 b hl (fun q => ownsQ_apart hqy hgc (by decide) (by rw [hg] at e; injection e with e; subst e; exact q))
  · intro x hx
    obtain ⟨i, hi⟩ := List.mem_iff_getElem?.1 hx
    by_cases e : i = k
    · subst e
      rw [List.getElem?_set_self (List.getElem?_eq_some_iff.1 hk).1] at hi
      injection hi with hi
      subst hi
      exact ownsQ_stays hq fun b e => Below.heap_setCell _ _ _ b (by intro e2; subst e2; exact ownsQ_apart hq hg5 (by decide) e)
    · rw [List.getElem?_set_ne (fun q => e q.symm)] at hi
      have hx' := h.buf x (List.mem_of_getElem? hi)
      exact ownsQ_stays hx' fun b e1 => blk b (ownsQ_lt hx' b e1).2 (by intro e2; subst e2; exact ownsQ_apart hx' hgc (by decide) e1) (fun q => h.apart i k x y hi hk e b e1 q)
  · intro x hx
    rcases set_mem hx with rfl | hx
    · exact row_st (h.code y hy) (by decide) (by decide)
    · exact row_st (h.code x hx) (by decide) (by decide)
  · intro a b x z hx hz hab e he
    by_cases ha : a = k
    · subst ha
      rw [List.getElem?_set_self (List.getElem?_eq_some_iff.1 hk).1] at hx
      injection hx with hx
      subst hx
      rw [List.getElem?_set_ne hab] at hz
      exact hap b z (fun q => hab q.symm) hz e he
    · rw [List.getElem?_set_ne (fun q => ha q.symm)] at hx
      by_cases hb : b = k
      · subst hb
        rw [List.getElem?_set_self (List.getElem?_eq_some_iff.1 hk).1] at hz
        injection hz with hz
        subst hz
        intro q
        exact hap a x ha hx e q he
      · rw [List.getElem?_set_ne (fun q => hb q.symm)] at hz
        exact h.apart a b x z hx hz hab e he
  · intro x hx b e
    rcases set_mem hx with rfl | hx
    · exact List.mem_append_left _ (by simp only at e; rw [e]; simp)
    · exact List.mem_append_right _ (h.bF x hx b e)
end
end Go.Proofs.YtmpljhfinmfnbaaDoor

/- The newest store that waits: a range over slices.Backward. -/
import Derived.Test.YtmpljhfinmfnbaaDoorVka
import Derived.Test.YtmpljhfinmfnbaaDoorKp
import Derived.Test.YtmpljhfinmfnbaaDoorVh0
namespace Go.Proofs.YtmpljhfinmfnbaaDoor
open Go.RowKit Go.Shelf
set_option linter.unusedVariables false
set_option maxRecDepth 100000
attribute [local go_sem] Oper.semAt_some
theorem newS_append (a b : List Sto) (x : Int) : newS (a ++ b) x = match newS b x with | some v => some v | none => newS a x := by
  induction a with
  | nil => rw [List.nil_append]; cases newS b x <;> rfl
  | cons s r ih =>
    show (match newS (r ++ b) x with | some v => some v | none => if s.a = x then some s.x else none) = _
    rw [ih]
    cases newS b x with
    | none => rfl
    | some v => rfl
theorem stoF_get : ∀ (l : List Sto) (j : Nat) (s : Sto), l[j]? = some s → ∀ (m : Nat) (v : Value), (stoC s)[m]? = some v → (stoF l)[j * 3 + m]? = some v
  | [], _, _, h, _, _, _ => by simp at h
  | y :: l, 0, s, h, m, v, hm => by
    obtain rfl : y = s := by simpa using h
    show (stoC y ++ stoF l)[0 * 3 + m]? = some v
    rw [Nat.zero_mul, Nat.zero_add, List.getElem?_append_left (List.getElem?_eq_some_iff.1 hm).1]
    exact hm
  | y :: l, j + 1, s, h, m, v, hm => by
    show (stoC y ++ stoF l)[(j + 1) * 3 + m]? = some v
    rw [List.getElem?_append_right (by simp [stoC]; omega), show (stoC y).length = 3 from rfl, show (j + 1) * 3 + m - 3 = j * 3 + m by omega]
    exact stoF_get l j s (by simpa using h) m v hm
def encS (x : Int × Sto) : Array Value := #[.int .i64 x.1, .agg #[.int .i64 x.2.p, .int .i64 x.2.a, .int .i64 x.2.x]]
def okS (buf : List Sto) (pre : List (Int × Sto)) (x : Int × Sto) : Prop := ∃ k : Nat, buf.length = pre.length + 1 + k ∧ buf[k]? = some x.2
theorem backward_in (F : Fence) (n : Nat) (hF : F.fn 101) (hro : F.round = none) (a : Option Addr) (len cap : Nat) (w : World) :
    CallsIn F n Tryd.prog 101 #[.slice a len cap] w fun e w' => e = .returned (.func (.func 126) #[] #[.pointer (some ⟨w.heap.size, 0, none⟩)]) ∧ w' = w.alloc (.cells #[.slice a len cap] 54) := by
  refine callsIn_of_wp Tryd.func101 rfl hF ?_ hro
  simp only [Tryd.ntmps101, List.size_toArray, List.length_cons, List.length_nil, Nat.reduceAdd, Nat.reduceSub, Array.replicate_succ, Array.replicate_zero, List.push_toArray, List.append_toArray, List.nil_append, List.cons_append]
  gi_wp2
  go_ret
  exact ⟨rfl, rfl⟩
set_option maxHeartbeats 4000000 in
theorem back1_in (F : Fence) (n : Nat) (hF : F.fn 126) (hro : F.round = none) (hn : 1 ≤ n) (l Bs g q cap : Nat) (buf : List Sto) (hcap : buf.length ≤ 4611686018427) (sY : Nat → Obj → Prop) (hYb : ∀ o, o.isCells = true → sY Bs o) (hYg : ∀ o, o.isCells = true → sY g o) (J Jx : List (Int × Sto) → World → Prop)
    (hY : ∀ pre x W, J pre W → okS buf pre x → YieldAt F (n - 1) Tryd.prog l (encS x) W fun e W' =>
      (e = .returned (.bool true) ∧ J (pre ++ [x]) W' ∧ Keep sY W W') ∨ (e = .returned (.bool false) ∧ Jx (pre ++ [x]) W' ∧ Keep sY W W'))
    (W : World) {cu : Array Value} {tu : TypeId} {fu : Nat × Nat} (hBs : W.heap[Bs]? = some (.cells #[.slice (some ⟨g, q, none⟩) buf.length cap] 54 (0, 0))) (hg : W.heap[g]? = some (.cells cu tu fu)) (hc : ∀ (j : Nat) (u : Value), (stoF buf)[j]? = some u → cu[q + j]? = some u) (h0 : J [] W) :
    CallsIn F n Tryd.prog 126 #[.func (.yield l) #[] #[], .pointer (some ⟨Bs, 0, none⟩)] W fun e W' => (∃ v, e = .returned v) ∧
      ((∃ xs, xs.length = buf.length ∧ J xs W') ∨ (∃ pre, Jx pre W')) := by
  refine callsIn_of_wp Tryd.func126 rfl hF ?_ hro
  simp only [Tryd.ntmps126, List.size_toArray, List.length_cons, List.length_nil, Nat.reduceAdd, Nat.reduceSub, Array.replicate_succ, Array.replicate_zero, List.push_toArray, List.append_toArray, List.nil_append, List.cons_append]
  have hb0 : W.cell? ⟨Bs, 0, none⟩ = some (.slice (some ⟨g, q, none⟩) buf.length cap) := by rw [cell_of_row _ _ 0 _ _ _ hBs]; rfl
  have hw0 : wrap64 ((buf.length : Int) - 1) = (buf.length : Int) - 1 := by unfold wrap64; omega
  gi_wp2
  gi_loopw [3] (fun i wr => ∃ pre : List (Int × Sto), pre.length ≤ buf.length ∧ i = .int .i64 ((buf.length : Int) - 1 - pre.length) ∧ J pre wr ∧ Keep sY W wr)
    (fun i _ => (intOf i + 1).toNat)
  case atStart => exact ⟨[], Nat.zero_le _, by simp, h0, Keep.refl _ _⟩
  case round =>
    obtain ⟨pre, hk, rfl, hJs, hnx⟩ := hrel
    have hb1 : wr.cell? ⟨Bs, 0, none⟩ = some (.slice (some ⟨g, q, none⟩) buf.length cap) := by rw [cell_of_row _ _ 0 _ _ _ (hnx.block _ _ hBs (hYb _ rfl))]; rfl
    have hg1 := hnx.block _ _ hg (hYg _ rfl)
    by_cases hlt : pre.length < buf.length
    · obtain ⟨k, hkk⟩ : ∃ k, buf.length = pre.length + 1 + k := ⟨buf.length - pre.length - 1, by omega⟩
      have hkl : k < buf.length := by omega
      obtain ⟨bk, hs⟩ : ∃ bk, buf[k]? = some bk := ⟨_, List.getElem?_eq_getElem hkl⟩
      obtain ⟨fn, tmps, assign, body, hy, hR⟩ := hY pre ((k : Int), bk) wr hJs ⟨k, hkk, hs⟩
      have hidx : (buf.length : Int) - 1 - pre.length = (k : Int) := by omega
      rw [hidx]
      have hsc : ∀ (m : Nat) (v : Value), (stoC bk)[m]? = some v → wr.cell? ⟨g, q + (k * 3 + m), none⟩ = some v := fun m v hm => by
        rw [cell_of_row _ _ _ _ _ _ hg1]
        exact hc _ _ (stoF_get buf k _ hs m v hm)
      obtain ⟨sp, sa, sx⟩ := bk
      have s0 : wr.cell? ⟨g, q + k * 3, none⟩ = some (.int .i64 sp) := hsc 0 _ rfl
      have s1 : wr.cell? ⟨g, q + k * 3 + 1, none⟩ = some (.int .i64 sa) := by rw [Nat.add_assoc]; exact hsc 1 _ rfl
      have s2 : wr.cell? ⟨g, q + k * 3 + 2, none⟩ = some (.int .i64 sx) := by rw [Nat.add_assoc]; exact hsc 2 _ rfl
      have hkn : (k : Int) < (buf.length : Int) := by omega
      have hk0 : (0 : Int) ≤ (k : Int) := by omega
      have HC := Lib.hid hc
      have HKK := Lib.hid hkk
      have HNX := Lib.hid hnx
      simp only [encS] at hy
      clear hc hkk hnx hsc hs hidx
      gi_wp2
      refine hR.mono ?_
      rintro e W3 (⟨rfl, hJ3, hk3⟩ | ⟨rfl, hJx3, hk3⟩)
      · have hw2 : wrap64 ((k : Int) - 1) = (k : Int) - 1 := by unfold wrap64; omega
        gi_wp2
        go_roundw
        case rel => exact ⟨pre ++ [((k : Int), ⟨sp, sa, sx⟩)], by simp; omega, by have := HKK.out; simp; omega, hJ3, HNX.out.trans hk3⟩
        case measure => simp [intOf]
      · gi_wp2
        refine bodyPost_ret (results_none rfl _ _ _) rfl ?_
        exact ⟨⟨_, rfl⟩, .inr ⟨_, hJx3⟩⟩
    · have hl0 : pre.length = buf.length := by omega
      have hidx : (buf.length : Int) - 1 - pre.length = -1 := by omega
      rw [hidx]
      gi_wp2
      go_end0
      exact ⟨⟨_, rfl⟩, .inl ⟨pre, hl0, hJs⟩⟩
set_option maxHeartbeats 4000000 in
theorem back1_nil (F : Fence) (n : Nat) (hF : F.fn 126) (hro : F.round = none) (l Bs cap : Nat) (a : Option Addr) (J : List (Int × Sto) → World → Prop) (W : World) (hBs : W.cell? ⟨Bs, 0, none⟩ = some (.slice a 0 cap)) (h0 : J [] W) :
    CallsIn F n Tryd.prog 126 #[.func (.yield l) #[] #[], .pointer (some ⟨Bs, 0, none⟩)] W fun e W' => (∃ v, e = .returned v) ∧ J [] W' := by
  refine callsIn_of_wp Tryd.func126 rfl hF ?_ hro
  simp only [Tryd.ntmps126, List.size_toArray, List.length_cons, List.length_nil, Nat.reduceAdd, Nat.reduceSub, Array.replicate_succ, Array.replicate_zero, List.push_toArray, List.append_toArray, List.nil_append, List.cons_append]
  gi_wp2
  gi_loopw [3] (fun i wr => i = .int .i64 (-1) ∧ J [] wr) (fun _ _ => 0)
  case atStart => exact ⟨rfl, h0⟩
  case round =>
    obtain ⟨rfl, hJs⟩ := hrel
    gi_wp2
    go_end0
    exact ⟨⟨_, rfl⟩, hJs⟩
theorem newS_step (buf : List Sto) (pre : List (Int × Sto)) (x : Int × Sto) (hok : okS buf pre x) (a : Int) (h : newS (buf.drop (buf.length - pre.length)) a = none) : newS (buf.drop (buf.length - (pre ++ [x]).length)) a = if x.2.a = a then some x.2.x else none := by
  obtain ⟨k, hk, hx⟩ := hok
  rw [List.length_append, List.length_singleton, show buf.length - (pre.length + 1) = k by omega, List.drop_eq_getElem_cons (by omega)]
  have e : buf[k] = x.2 := by
    have := List.getElem?_eq_getElem (l := buf) (i := k) (by omega)
    rw [hx] at this
    injection this with this
    exact this.symm
  rw [e]
  show (match newS (buf.drop (k + 1)) a with | some v => some v | none => if x.2.a = a then some x.2.x else none) = _
  rw [show buf.length - pre.length = k + 1 by omega] at h
  rw [h]
theorem newS_all (buf : List Sto) (m : Nat) (a : Int) (v : Int) (h : newS (buf.drop m) a = some v) : newS buf a = some v := by
  rw [← List.take_append_drop m buf, newS_append, h]
set_option maxHeartbeats 8000000 in
theorem p_newest {w : World} {g o : Nat} {c : Co} {bv cv : Value} (h : CoP w g o c bv cv) (hq : ownsQ w 0 76 3 bv c.buf.length (stoF c.buf)) (hl : c.buf.length ≤ 4611686018427) (a : Int) :
    Calls Tryd.prog 87 #[.pointer (some ⟨g, o, none⟩), .int .i64 a] w fun e w' => e = .returned (.tuple #[.int .i64 ((newS c.buf a).getD 0), .bool (newS c.buf a).isSome]) ∧ Below w.heap.size w w' := by
  obtain ⟨ab, cb, rfl, _, _⟩ := ownsQ_slice hq
  have hgw : g < w.heap.size := lt_of_at h.pc
  have c18 := h.buf
  obtain ⟨buf, hbuf⟩ : ∃ l, l = c.buf := ⟨_, rfl⟩
  rw [← hbuf] at hq c18 hl ⊢
  obtain ⟨len, hlen⟩ : ∃ n, n = buf.length := ⟨_, rfl⟩
  rw [← hlen] at c18
  have HQ := Lib.hid hq
  have HL := Lib.hid hl
  have HLN := Lib.hid hlen
  have B3 : Below w.heap.size w (((w.alloc (.cells #[.int .i64 a] 3)).alloc (.cells #[.int .i64 0] 2)).alloc (.cells #[.bool false] 4)) := (((Below.refl _ w).alloc (Nat.le_refl _) _).alloc (by simp) _).alloc (by simp; omega) _
  have c18' := (B3.cell (p := ⟨g, o + 18, none⟩) hgw).trans c18
  have HB3 := Lib.hid B3
  clear hq h hbuf hl hlen c18 B3
  refine (callsIn_wide (n := 3)).1 ?_
  refine callsIn_of_wp_marks Tryd.func87 rfl trivial ?_ rfl
  simp only [Tryd.ntmps87, List.size_toArray, List.length_cons, List.length_nil, Nat.reduceAdd, Nat.reduceSub, Array.replicate_succ, Array.replicate_zero, List.push_toArray, List.append_toArray, List.nil_append, List.cons_append]
  gi_wp2_with (refine ⟨trivial, ?_⟩; gi_at_call 101; refine (backward_in _ _ trivial rfl _ _ _ _).mono ?_; rintro e w' ⟨rfl, rfl⟩)
  obtain ⟨W0, hW0⟩ : ∃ W0, W0 = (((w.alloc (.cells #[.int .i64 a] 3)).alloc (.cells #[.int .i64 0] 2)).alloc (.cells #[.bool false] 4)).alloc (.cells #[.slice ab len cb] 54) := ⟨_, rfl⟩
  rw [← hW0]
  have hz : W0.heap.size = w.heap.size + 4 := by rw [hW0]; simp
  have hB0 : Below w.heap.size w W0 := by rw [hW0]; exact HB3.out.alloc (by simp; omega) _
  have hb0 : Own W0 w.heap.size 3 #[.int .i64 a] := by
    rw [hW0]
    exact (((Own.new w _ _).alloc _).alloc _).alloc _
  have hb1 : Own W0 (w.heap.size + 1) 2 #[.int .i64 0] := by
    rw [hW0]
    have h1 := Own.new (w.alloc (.cells #[.int .i64 a] 3)) 2 #[.int .i64 0]
    rw [World.size_alloc] at h1
    exact (h1.alloc _).alloc _
  have hb2 : Own W0 (w.heap.size + 2) 4 #[.bool false] := by
    rw [hW0]
    have h1 := Own.new ((w.alloc (.cells #[.int .i64 a] 3)).alloc (.cells #[.int .i64 0] 2)) 4 #[.bool false]
    rw [World.size_alloc, World.size_alloc] at h1
    exact h1.alloc _
  have hb3 : Own W0 (w.heap.size + 3) 54 #[.slice ab len cb] := by
    rw [hW0]
    have h1 := Own.new (((w.alloc (.cells #[.int .i64 a] 3)).alloc (.cells #[.int .i64 0] 2)).alloc (.cells #[.bool false] 4)) 54 #[.slice ab len cb]
    rw [World.size_alloc, World.size_alloc, World.size_alloc] at h1
    exact h1
  have hs3 : (((w.alloc (.cells #[.int .i64 a] 3)).alloc (.cells #[.int .i64 0] 2)).alloc (.cells #[.bool false] 4)).heap.size = w.heap.size + 3 := by simp
  clear hW0 c18'
  have HW0 := Lib.hid hz
  refine wpIn_range_keep (n := 3) rfl (by omega) (gf := 126) (fst := #[]) (lb := #[.pointer (some ⟨w.heap.size + 3, 0, none⟩)]) rfl trivial (enters_of Tryd.func126 (by kernel_rfl) rfl)
    (encs := encS) (fun _ => rfl) (fun _ _ => True) (fun k o => (k ≠ w.heap.size + 1 ∧ k ≠ w.heap.size + 2) ∧ (k < w.heap.size + 4 ∨ o.isCells = true)) (fun k o => k < w.heap.size + 4 ∨ o.isCells = true)
    (fun _ _ _ => trivial)
    (fun k o hk ho => by rcases ho.2 with h | h; · omega
                         · exact h)
    (fun k o hk ho => by rcases ho with h | h; · omega
                         · exact h)
    (fun _ _ _ => trivial)
    (S := fun xs W => xs.length = buf.length) (Sp := fun _ _ => True) (ok := okS buf)
    (fun l J Jx W hbW hJ hJx hYl hJ0 => by
      have hb3W := hb3.below hbW
      have hqW := ownsQ_stays HQ.out (fun k e => (hbW.block k (by have := (ownsQ_lt HQ.out k e).2; omega)).trans (hB0.block k (ownsQ_lt HQ.out k e).2))
      rcases hqW.2 with ⟨_, h0⟩ | ⟨gb, qb, cap, cur, e1, _, hgb, h1, h2, h3, h4⟩
      · rw [← HLN.out] at h0
        subst h0
        refine (back1_nil Fence.wide 2 trivial rfl l (w.heap.size + 3) cb ab J W (row_cellsO hb3W 0 _ rfl) hJ0).mono ?_
        rintro e W' ⟨h1, h2⟩
        exact ⟨h1, .inl ⟨[], by rw [← HLN.out]; rfl, h2⟩⟩
      · injection e1 with e1 e2 e3
        subst e1 e3
        have hl1 := HL.out
        have hgb1 : gb < w.heap.size := (ownsQ_lt HQ.out gb rfl).2
        rw [HLN.out] at hb3W
        refine (back1_in Fence.wide 2 trivial rfl (by omega) l (w.heap.size + 3) gb qb cb buf hl1 _ (fun o ho => ⟨⟨by omega, by omega⟩, .inr ho⟩) (fun o ho => ⟨⟨by omega, by omega⟩, .inr ho⟩) J Jx hYl W hb3W hgb (fun j u hj => ?_) hJ0).mono ?_
        · rw [← h4, List.getElem?_take] at hj
          split at hj
          · rw [List.getElem?_drop] at hj
            simpa using hj
          · cases hj
        · rintro e W' ⟨h5, ⟨xs, h6, h7⟩ | ⟨pre, h6⟩⟩
          · exact ⟨h5, .inl ⟨xs, h6, h7⟩⟩
          · exact ⟨h5, .inr ⟨pre, trivial, h6⟩⟩)
    (fun pre W => (newS (buf.drop (buf.length - pre.length)) a = none ∧ Own W w.heap.size 3 #[.int .i64 a] ∧ Own W (w.heap.size + 1) 2 #[.int .i64 0] ∧ Own W (w.heap.size + 2) 4 #[.bool false]) ∧ Below w.heap.size w W)
    (fun c pre W => (c = .ret ∧ ∃ v, newS buf a = some v ∧ Own W (w.heap.size + 1) 2 #[.int .i64 v] ∧ Own W (w.heap.size + 2) 4 #[.bool true]) ∧ Below w.heap.size w W)
    (fun s A B h hk => ⟨⟨h.1.1, hk.block _ _ h.1.2.1 (.inr rfl), hk.block _ _ h.1.2.2.1 (.inr rfl), hk.block _ _ h.1.2.2.2 (.inr rfl)⟩, h.2.trans (hk.below h.2.size (fun k _ hk => .inl (by omega)))⟩)
    (fun c s A B h hk => by
      obtain ⟨⟨h1, v, h2, h3, h4⟩, h5⟩ := h
      exact ⟨⟨h1, v, h2, hk.block _ _ h3 (.inr rfl), hk.block _ _ h4 (.inr rfl)⟩, h5.trans (hk.below h5.size (fun k _ hk => .inl (by omega)))⟩)
    ⟨⟨by simp [newS], hb0, hb1, hb2⟩, hB0⟩
    (fun x a' W => ∃ Bx, Own W Bx 76 #[.int .i64 x.2.p, .int .i64 x.2.a, .int .i64 x.2.x] ∧ a' = { tmps := #[.pointer (some ⟨g, o, none⟩), .int .i64 a, undef, .pointer (some ⟨w.heap.size, 0, none⟩), .pointer (some ⟨w.heap.size + 1, 0, none⟩), .pointer (some ⟨w.heap.size + 1 + 1, 0, none⟩), undef, .pointer (some ⟨Bx, 0, none⟩), .pointer (some ⟨g, o, none⟩), .pointer (some ⟨g, o, none⟩), .pointer (some ⟨g, o, none⟩), .pointer (some ⟨g, o + 18, none⟩), .slice ab len cb, .func (.func 126) #[] #[.pointer (some ⟨w.heap.size + 3, 0, none⟩)], .int .i64 x.1, .agg #[.int .i64 x.2.p, .int .i64 x.2.a, .int .i64 x.2.x], undef, undef, undef, undef, undef, undef], defers := [] })
    (fun x a' A B h hk => by
      obtain ⟨Bx, h1, h2⟩ := h
      exact ⟨Bx, hk.block _ _ h1 (.inr rfl), h2⟩)
    ?assign ?body ?done ?stop
  case assign =>
    rintro l pre ⟨xi, sp, sa, sx⟩ W K hi hK
    have HI := Lib.hid hi
    have HK := Lib.hid hK
    clear hi hK
    simp only [encS]
    gi_wp2
    have hi := HI.out
    exact HK.out _ _ ((Keep.refl _ W).alloc _) ⟨⟨hi.1.1, hi.1.2.1.alloc _, hi.1.2.2.1.alloc _, hi.1.2.2.2.alloc _⟩, hi.2.alloc hi.2.size _⟩ ⟨W.heap.size, Own.new W _ _, rfl⟩
  case body =>
    rintro l pre ⟨xi, sp, sa, sx⟩ a' W ⟨⟨hn, h0, h1, h2⟩, hB⟩ ⟨Bx, hbx, rfl⟩ hok
    have hns := newS_step buf pre _ hok a hn
    have x1 : W.cell? ⟨Bx, 1, none⟩ = some (.int .i64 sa) := row_cellsO hbx 1 _ rfl
    have x2 : W.cell? ⟨Bx, 2, none⟩ = some (.int .i64 sx) := row_cellsO hbx 2 _ rfl
    have a0 : W.cell? ⟨w.heap.size, 0, none⟩ = some (.int .i64 a) := row_cellsO h0 0 _ rfl
    have r1 : W.cell? ⟨w.heap.size + 1, 0, none⟩ = some (.int .i64 0) := row_cellsO h1 0 _ rfl
    have r2 : W.cell? ⟨w.heap.size + 1 + 1, 0, none⟩ = some (.bool false) := row_cellsO h2 0 _ rfl
    have f1 : W.frozen? ⟨w.heap.size + 1, 0, none⟩ = false := own_frozen h1 0
    have f2 : W.frozen? ⟨w.heap.size + 1 + 1, 0, none⟩ = false := own_frozen h2 0
    have HB := Lib.hid hB
    have HO := Lib.hid (And.intro h0 (And.intro h1 h2))
    clear h0 h1 h2 hn hok hB hbx
    simp only at hns x1 x2 ⊢
    by_cases hsa : sa = a
    · subst hsa
      rw [if_pos rfl] at hns
      gi_wp2
      obtain ⟨o0, o1, o2⟩ := HO.out
      have k1 := own_setin o1 0 (.int .i64 sx)
      have k2 := own_setother (show w.heap.size + 2 ≠ w.heap.size + 1 by omega) o2 0 (.int .i64 sx)
      refine ⟨((Keep.refl _ W).setCell (p := ⟨w.heap.size + 1, 0, none⟩) _ o1 ?_).setCell (p := ⟨w.heap.size + 2, 0, none⟩) _ k2 ?_, ⟨rfl, sx, newS_all _ _ _ _ hns, own_setother (by omega) k1 0 _, own_setin k2 0 _⟩, (HB.out.setCell (p := ⟨w.heap.size + 1, 0, none⟩) (by show w.heap.size ≤ w.heap.size + 1; omega) _).setCell (p := ⟨w.heap.size + 2, 0, none⟩) (by show w.heap.size ≤ w.heap.size + 2; omega) _⟩
      · rintro (⟨⟨h, _⟩, _⟩ | h)
        · exact h rfl
        · cases h
      · rintro (⟨⟨_, h⟩, _⟩ | h)
        · exact h rfl
        · cases h
    · have hf : (sa == a) = false := by simpa using hsa
      rw [if_neg hsa] at hns
      gi_wp2
      exact ⟨Keep.refl _ W, ⟨hns, HO.out⟩, HB.out⟩
  case done =>
    rintro D xs W1 W hD hS ⟨⟨hn, h0, h1, h2⟩, hB⟩ hk hK
    rw [hS, Nat.sub_self, List.drop_zero] at hn
    have r1 : W.cell? ⟨w.heap.size + 1, 0, none⟩ = some (.int .i64 0) := row_cellsO h1 0 _ rfl
    have r2 : W.cell? ⟨w.heap.size + 1 + 1, 0, none⟩ = some (.bool false) := row_cellsO h2 0 _ rfl
    have f1 : W.frozen? ⟨w.heap.size + 1, 0, none⟩ = false := own_frozen h1 0
    have f2 : W.frozen? ⟨w.heap.size + 1 + 1, 0, none⟩ = false := own_frozen h2 0
    have HB := Lib.hid hB
    have HO := Lib.hid (And.intro h1 h2)
    have HK := Lib.hid hK
    clear h0 h1 h2 hB hk hK hb0 hb1 hb2 hb3 hB0
    gi_wp2
    have hD' : w.heap.size + 4 ≤ D := by have := HW0.out; omega
    obtain ⟨o1, o2⟩ := HO.out
    have hK := HK.out
    have hb := HB.out
    replace hb := (hb.setCell (p := ⟨w.heap.size + 1, 0, none⟩) (by show w.heap.size ≤ w.heap.size + 1; omega) (.int .i64 0)).setCell (p := ⟨w.heap.size + 1 + 1, 0, none⟩) (by show w.heap.size ≤ w.heap.size + 1 + 1; omega) (.bool false)
    replace hK := (Below.heap_setCell (W.setCell ⟨w.heap.size + 1, 0, none⟩ (.int .i64 0)) ⟨w.heap.size + 1 + 1, 0, none⟩ (.bool false) D (by show D ≠ w.heap.size + 1 + 1; omega)).trans ((Below.heap_setCell W ⟨w.heap.size + 1, 0, none⟩ (.int .i64 0) D (by show D ≠ w.heap.size + 1; omega)).trans hK)
    replace o1 := own_setother (a := w.heap.size + 1) (b := w.heap.size + 1 + 1) (by omega) (own_setin o1 0 (.int .i64 0)) 0 (.bool false)
    replace o2 := own_setin (own_setother (a := w.heap.size + 1 + 1) (b := w.heap.size + 1) (by omega) o2 0 (.int .i64 0)) 0 (.bool false)
    refine ⟨by simp, .inl ⟨_, _, rfl, run_takeDeferred hK, ?_⟩⟩
    have z1 : (((W.setCell ⟨w.heap.size + 1, 0, none⟩ (.int .i64 0)).setCell ⟨w.heap.size + 1 + 1, 0, none⟩ (.bool false)).putObj D (.deferred none)).cell? ⟨w.heap.size + 1, 0, none⟩ = some (.int .i64 0) := row_cellsO (cs := #[_]) ((World.putObj_heap_other (by omega)).trans o1) 0 _ rfl
    have z2 : (((W.setCell ⟨w.heap.size + 1, 0, none⟩ (.int .i64 0)).setCell ⟨w.heap.size + 1 + 1, 0, none⟩ (.bool false)).putObj D (.deferred none)).cell? ⟨w.heap.size + 1 + 1, 0, none⟩ = some (.bool false) := row_cellsO (cs := #[_]) ((World.putObj_heap_other (by omega)).trans o2) 0 _ rfl
    exact ⟨.tuple #[.int .i64 0, .bool false], by simp [results, Tryd.results87, go_sem, z1, z2], by rw [hn]; rfl, hb.trans (belowK_b (w := w) (Nat.le_refl _) _ D _ _ (by omega) hK rfl rfl)⟩
  case stop =>
    rintro D cc pre W1 W hD _ ⟨⟨rfl, v, hv, h1, h2⟩, hB⟩ hk hK
    have HB := Lib.hid hB
    have HO := Lib.hid (And.intro h1 h2)
    have HK := Lib.hid hK
    clear h1 h2 hB hk hK hb0 hb1 hb2 hb3 hB0
    gi_wp2
    have hD' : w.heap.size + 4 ≤ D := by have := HW0.out; omega
    obtain ⟨o1, o2⟩ := HO.out
    have hK := HK.out
    have hb := HB.out
    skip
    refine ⟨by simp, .inl ⟨_, _, rfl, run_takeDeferred hK, ?_⟩⟩
    have z1 : (W.putObj D (.deferred none)).cell? ⟨w.heap.size + 1, 0, none⟩ = some (.int .i64 v) := row_cellsO (cs := #[_]) ((World.putObj_heap_other (by omega)).trans o1) 0 _ rfl
    have z2 : (W.putObj D (.deferred none)).cell? ⟨w.heap.size + 1 + 1, 0, none⟩ = some (.bool true) := row_cellsO (cs := #[_]) ((World.putObj_heap_other (by omega)).trans o2) 0 _ rfl
    exact ⟨.tuple #[.int .i64 v, .bool true], by simp [results, Tryd.results87, go_sem, z1, z2], by rw [hv]; rfl, hb.trans (belowK_b (w := w) (Nat.le_refl _) _ D _ _ (by omega) hK rfl rfl)⟩
end Go.Proofs.YtmpljhfinmfnbaaDoor

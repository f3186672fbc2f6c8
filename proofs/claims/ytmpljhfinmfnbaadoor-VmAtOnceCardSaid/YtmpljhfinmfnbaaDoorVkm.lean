/- A machine is made. -/
import Derived.Test.YtmpljhfinmfnbaaDoorVkl
import Derived.Test.YtmpljhfinmfnbaaDoorVm1
namespace Go.Proofs.YtmpljhfinmfnbaaDoor
open Go.RowKit
set_option linter.unusedVariables false
set_option maxRecDepth 100000
set_option maxHeartbeats 1000000 in
theorem wp_stC {o : Oper} {a : Act} {w : World} {K : Act → World → Prop} {Q : Exit → Act → World → Prop} {x y : Operand} (ho : o.op = .store 98 x y) {p : Addr} (hx : a.eval x = .pointer (some p)) {s : Option Addr} {n c : Nat} (hy : a.eval y = .slice s n c) {u : Value} (hu : w.cell? p = some u) (hf : w.frozen? p = false) (h : K (a.put o.dst undef) (w.setCell p (.slice s n c))) : o.wp Tryd.prog a w K Q := by
  have hrun : (execOp a.eval o).run Tryd.prog w = .ok .skip (w.setCell p (.slice s n c)) := by
    unfold execOp
    simp only [ho, hx, hy]
    go_simp
  unfold Oper.wp
  rw [hrun]
  exact h
theorem rowCr : RowT 83 2 := ⟨_, Tryd.underlying83, rfl, by kernel_rfl⟩
theorem info_core : (Tryd.prog.info? 97).map (fun i => (i.zero, i.size, i.bytes)) = some (some (.agg #[.int .i64 0, .bool false, .int .i64 0, .int .i64 0, .int .i64 0, .int .i64 0, .int .i64 0, .int .i64 0, .int .i64 0, .int .i64 0, .int .i64 0, .int .i64 0, .int .i64 0, .int .i64 0, .int .i64 0, .int .i64 0, .int .i64 0, .int .i64 0, .slice none 0 0, .slice none 0 0]), 20, 192) := by kernel_rfl
/-- Cores so far. -/
def NwI (w : World) (o : Ob) (orow : Array Value) (pm t : Nat) (W : World) : Prop :=
  ∃ (cv pv : Value) (L : List (Co × Value × Value)) (PL : List Nat), (Own W pm 104 #[cv, .int .i64 o.bf, pv, .int .i64 (o.mem.length : Int), .pointer none] ∧ Own W w.heap.size 25 orow) ∧ (L.length = t ∧ L.map Prod.fst = (o.cores.take t).map newC ∧ (∀ x ∈ L, x.2.1 = .slice none 0 0)) ∧ W.ownsRow w.heap.size 97 20 cv t (flatK L) ∧ (PgA W o.mem pv PL ∧ ∀ k, pv.ownBlock = some k → w.heap.size ≤ k) ∧ (∀ x ∈ L, W.ownsRow w.heap.size 87 9 x.2.2 x.1.code.length (flatI x.1.code)) ∧ Below w.heap.size w W ∧ w.heap.size < pm
theorem NwI.done {w : World} {o : Ob} {orow : Array Value} {pm : Nat} {W : World} (h : NwI w o orow pm o.cores.length W) : ∃ F, VmS W pm (newV o) F ∧ (∀ k ∈ F, w.heap.size ≤ k ∧ k < W.heap.size) ∧ Below w.heap.size w W := by
  obtain ⟨cv, pv, L, PL, ⟨h1, _⟩, ⟨h2, h3, h4⟩, h5, ⟨h6, h7⟩, h8, h9, h10⟩ := h
  rw [List.take_length] at h3
  refine ⟨[pm] ++ cv.ownBlock.toList ++ pv.ownBlock.toList, ⟨cv, pv, none, L, PL, h1, h3, ?_, h6.pgs, h6.pgn, h6.page, rfl, fun x hx => ?_, fun x hx => row_mono (h8 x hx) (Nat.zero_le _), ?_, by simp, fun k e => by rw [e]; simp, fun k e => by rw [e]; simp, fun x hx k e => ?_⟩, fun k hk => ?_, h9⟩
  · rw [h2]
    exact row_mono h5 (Nat.zero_le _)
  · have hb : x.1.buf = [] := by
      have h11 : x.1 ∈ o.cores.map newC := by rw [← h3]; exact List.mem_map_of_mem hx
      obtain ⟨d, _, e⟩ := List.mem_map.1 h11
      rw [← e]
      rfl
    rw [h4 x hx, hb]
    exact ownsQ_nil _ _ _ _
  · intro i j x y hi hj hij k e
    rw [h4 x (List.mem_of_getElem? hi)] at e
    simp [Value.ownBlock] at e
  · rw [h4 x hx] at e
    simp [Value.ownBlock] at e
  · simp only [List.mem_append, List.mem_singleton, Option.mem_toList] at hk
    rcases hk with (rfl | hk) | hk
    · exact ⟨by omega, h1.lt⟩
    · obtain ⟨q1, cur, q2⟩ := row_base h5 hk
      exact ⟨q1, q2.lt⟩
    · obtain ⟨q1, cur, q2⟩ := row_base h6.pgs hk
      exact ⟨h7 k hk, q2.lt⟩
theorem NwI.below {w : World} {o : Ob} {orow : Array Value} {pm t : Nat} {W W' : World} (h : NwI w o orow pm t W) (hb : Below W.heap.size W W') : NwI w o orow pm t W' := by
  obtain ⟨cv, pv, L, PL, ⟨h1, h1'⟩, h2, h5, ⟨h6, h7⟩, h8, h9, h10⟩ := h
  exact ⟨cv, pv, L, PL, ⟨h1.below hb, h1'.below hb⟩, h2, row_below h5 hb, ⟨h6.below hb, h7⟩, fun x hx => row_below (h8 x hx) hb, h9.trans (hb.mono h9.size), h10⟩
theorem NwI.step {w : World} {o : Ob} {orow : Array Value} {pm t : Nat} {W6 W8 W9 : World} {ka : Option Addr} {kc : Nat} {pv : Value} {L : List (Co × Value × Value)} {PL : List Nat} (h1 : Own W6 pm 104 #[.slice ka t kc, .int .i64 o.bf, pv, .int .i64 (o.mem.length : Int), .pointer none]) (h2 : Own W6 w.heap.size 25 orow) (h3 : L.length = t ∧ L.map Prod.fst = (o.cores.take t).map newC ∧ (∀ x ∈ L, x.2.1 = .slice none 0 0)) (h4 : W6.ownsRow w.heap.size 97 20 (.slice ka t kc) t (flatK L)) (h5 : PgA W6 o.mem pv PL ∧ ∀ k, pv.ownBlock = some k → w.heap.size ≤ k) (h6 : ∀ x ∈ L, W6.ownsRow w.heap.size 87 9 x.2.2 x.1.code.length (flatI x.1.code)) (h7 : Below w.heap.size w W6) (h8 : w.heap.size < pm)
    {x0 : Cor} (g1 : o.cores[t]? = some x0) (hb : Below W6.heap.size W6 W8) {cdv v9 : Value} (hcode : W8.ownsRow W6.heap.size 87 9 cdv x0.code.length (flatI x0.code)) (hown : W9.ownsRow w.heap.size 97 20 v9 (t + 1) (flatK L ++ [.int .i64 0, .bool false, .int .i64 0, .int .i64 0, .int .i64 0, .int .i64 0, .int .i64 0, .int .i64 0, .int .i64 0, .int .i64 0, .int .i64 0, .int .i64 0, .int .i64 0, .int .i64 0, .int .i64 0, .int .i64 0, .int .i64 0, .int .i64 0, .slice none 0 0, cdv])) (hgrow : W8.grownBy W9 (Value.slice ka t kc).ownBlock) : NwI w o orow pm (t + 1) (W9.setCell ⟨pm, 0, none⟩ v9) := by
  have hr8 := row_below h4 hb
  have st9 : ∀ {k : Nat} {T : TypeId} {q : Array Value}, Own W8 k T q → (97 == T) = false → Own W9 k T q := fun h1 ht => (hgrow.block _ h1.lt (fun e => row_apart hr8 h1 ht e.symm)).trans h1
  have m9 := st9 (h1.below hb) (by decide)
  have st : ∀ {k : Nat} {T : TypeId} {q : Array Value}, Own W8 k T q → (97 == T) = false → (T == 104) = false → Own (W9.setCell ⟨pm, 0, none⟩ v9) k T q := fun h1 ht h2 => own_setother (own_unlike (st9 h1 ht) m9 h2) (st9 h1 ht) _ _
  have rst : ∀ {B : Nat} {T : TypeId} {n : Nat} {v : Value} {m : Nat} {xs : List Value}, W8.ownsRow B T n v m xs → (97 == T) = false → (T == 104) = false → (W9.setCell ⟨pm, 0, none⟩ v9).ownsRow B T n v m xs := by
    intro B T n v m xs hh ht ht2
    refine ⟨hh.1, ?_⟩
    rcases hh.2 with hh | ⟨b, cp, cu, e, hb, hg, hrest⟩
    · exact .inl hh
    · exact .inr ⟨b, cp, cu, e, hb, st (T := T) hg ht ht2, hrest⟩
  obtain ⟨ha, hb2, hc⟩ := h3
  have hlen : t < o.cores.length := (List.getElem?_eq_some_iff.1 g1).1
  have htk : o.cores.take (t + 1) = o.cores.take t ++ [x0] := by
    rw [List.take_succ_eq_append_getElem hlen]
    have := List.getElem?_eq_getElem hlen
    rw [g1] at this
    injection this with this
    rw [this]
  refine ⟨v9, pv, L ++ [(newC x0, .slice none 0 0, cdv)], PL, ⟨own_setin m9 0 v9, st (h2.below hb) (by decide) (by decide)⟩, ⟨by rw [List.length_append, ha]; rfl, ?_, ?_⟩, ?_, ⟨⟨rst (row_below h5.1.pgs hb) (by decide) (by decide), h5.1.pgn, fun k g e => st ((h5.1.page k g e).below hb) (by decide) (by decide)⟩, h5.2⟩, ?_, ?_, h8⟩
  · rw [List.map_append, hb2, htk, List.map_append]
    rfl
  · intro x hx
    rcases List.mem_append.1 hx with hx | hx
    · exact hc x hx
    · obtain rfl := List.mem_singleton.1 hx
      rfl
  · have e : flatK (L ++ [(newC x0, .slice none 0 0, cdv)]) = flatK L ++ [.int .i64 0, .bool false, .int .i64 0, .int .i64 0, .int .i64 0, .int .i64 0, .int .i64 0, .int .i64 0, .int .i64 0, .int .i64 0, .int .i64 0, .int .i64 0, .int .i64 0, .int .i64 0, .int .i64 0, .int .i64 0, .int .i64 0, .int .i64 0, .slice none 0 0, cdv] := by
      unfold flatK
      rw [List.flatMap_append]
      rfl
    rw [e]
    exact row_stays hown fun b _ e2 _ => Below.heap_setCell _ _ _ b (by intro e3; subst e3; exact row_apart hown m9 (by decide) e2)
  · intro x hx
    rcases List.mem_append.1 hx with hx | hx
    · exact rst (row_below (h6 x hx) hb) (by decide) (by decide)
    · obtain rfl := List.mem_singleton.1 hx
      exact rst (row_mono hcode h7.size) (by decide) (by decide)
  · refine Below.setCell (p := ⟨pm, 0, none⟩) ?_ (by show w.heap.size ≤ pm; omega) _
    exact (h7.trans (hb.mono h7.size)).grown hgrow (Nat.le_trans h7.size hb.size) fun k e => (row_base h4 e).1
set_option maxHeartbeats 16000000 in
theorem p_New_ok (o : Ob) (hg : rgO o) (hf : fitO o) {a1 a5 : Option Addr} {c1 c5 : Nat} {w : World} (hm : intsAt w o.mem a1) (h5 : corsAt w o.cores a5) (hcap : o.mem.length ≤ c1) (hcm : c1 ≤ 9223372036854775807) (T : TgT w) {x y : Int} (hc : chkO o = (0, x, y)) : Calls Tryd.prog 33 #[obV o a1 c1 a5 c5] w fun e w' => ∃ p F, e = .returned (.tuple #[.pointer (some ⟨p, 0, none⟩), .int .i64 0]) ∧ VmS w' p (newV o) F ∧ (∀ k ∈ F, w.heap.size ≤ k ∧ k < w'.heap.size) ∧ Below w.heap.size w w' := by
  have HCK : Hid (∀ W, Below w.heap.size w W → Calls Tryd.prog 49 #[obV o a1 c1 a5 c5] W fun e w' => e = .returned (.tuple #[.int .i64 0, .int .i64 x, .int .i64 y]) ∧ Below W.heap.size W w') := fun W hb => by
    have h1 := check_any o hg hf (obA_below ⟨a1, c1, a5, c5, rfl, hm, h5⟩ hb) (T.below hb)
    rw [hc] at h1
    exact h1
  have HR := Lib.hid (obR_of hc)
  have HM : Hid (∀ V, Below w.heap.size w V → Calls Tryd.prog 50 #[.slice a1 o.mem.length c1] V fun e w' => ∃ (pv : Value) (PL : List Nat), e = .returned (.agg #[pv, .int .i64 (o.mem.length : Int)]) ∧ PgA w' o.mem pv PL ∧ (∀ k, pv.ownBlock = some k → V.heap.size ≤ k) ∧ (∀ (k g : Nat), PL[k]? = some g → V.heap.size ≤ g) ∧ Below V.heap.size V w') := fun V hV => p_newMemory (intsAt_below hm hV) hcap hcm HR.out.mem
  have H5 := Lib.hid h5
  obtain ⟨ob, hob⟩ : ∃ x, x = o := ⟨_, rfl⟩
  have HOB := Lib.hid hob
  rw [← hob] at HR
  rw [show newV o = newV ob by rw [hob]]
  obtain ⟨mem, sh, lk, bf, cores⟩ := o
  simp only [obV] at HCK HM H5 ⊢
  obtain ⟨n1, hn1⟩ : ∃ n, n = mem.length := ⟨_, rfl⟩
  obtain ⟨n5, hn5⟩ : ∃ n, n = cores.length := ⟨_, rfl⟩
  rw [← hn1] at HCK HM ⊢
  rw [← hn5] at HCK ⊢
  have HN := Lib.hid (And.intro hn1 hn5)
  have O0 := Own.new w 25 #[.slice a1 n1 c1, .int .i64 sh, .int .i64 lk, .int .i64 bf, .slice a5 n5 c5]
  have B0 : Below w.heap.size w (w.alloc (.cells #[.slice a1 n1 c1, .int .i64 sh, .int .i64 lk, .int .i64 bf, .slice a5 n5 c5] 25)) := (Below.refl _ w).alloc (Nat.le_refl _) _
  obtain ⟨W0, hW0⟩ : ∃ W, W = w.alloc (.cells #[.slice a1 n1 c1, .int .i64 sh, .int .i64 lk, .int .i64 bf, .slice a5 n5 c5] 25) := ⟨_, rfl⟩
  rw [← hW0] at O0 B0
  have HW0 := Lib.hid hW0
  have HB0 := Lib.hid B0
  clear hW0 h5 T hg hf hc B0 hm hn1 hn5 hob
  go_enter Tryd.func33, Tryd.ntmps33
  go_upto_region 1 with (fail)
  rw [← HW0.out]
  clear HW0
  go_upto_region 4 with (first | (refine ld rowO rfl rfl rfl O0 rfl ?_) | (go_at_call 49; refine (HCK.out _ HB0.out).mono ?_; rintro e w1 ⟨rfl, hb⟩))
  have dw : Below w1.heap.size w1 w1.drew := below_drewN (Below.refl _ w1) 1
  have HS1 : Hid (Own w1.drew w.heap.size 25 #[.slice a1 n1 c1, .int .i64 sh, .int .i64 lk, .int .i64 bf, .slice a5 n5 c5] ∧ Below w.heap.size w w1.drew) := ⟨(O0.below hb).below dw, (HB0.out.trans (hb.mono HB0.out.size)).trans (dw.mono (HB0.out.trans (hb.mono HB0.out.size)).size)⟩
  clear dw hb O0 HB0 HCK
  refine wp_region_held (S := fun V => V.cell? ⟨w.heap.size, 3, none⟩ = some (.int .i64 bf) ∧ V.cell? ⟨w.heap.size, 0, none⟩ = some (.slice a1 n1 c1)) (by kernel_rfl) ?_
  change wpAnyH _ _ _ _ _ _ _ _ w1.drew
  generalize w1.drew = W2 at HS1 ⊢
  have HSX : Hid (W2.cell? ⟨w.heap.size, 3, none⟩ = some (.int .i64 bf) ∧ W2.cell? ⟨w.heap.size, 0, none⟩ = some (.slice a1 n1 c1)) := ⟨row_cellsO HS1.out.1 3 _ rfl, row_cellsO HS1.out.1 0 _ rfl⟩
  change wpAnyH _ _ _ _ _ _ _ { tmps := List.toArray (_ :: _ :: _ :: _ :: _ :: _ :: _ :: _ :: _ :: _ :: _ :: _ :: _ :: _ :: _ :: _ :: _ :: _ :: _ :: _ :: _ :: _ :: _ :: _ :: _ :: _ :: _ :: _ :: _ :: _ :: _ :: _ :: _ :: _ :: _ :: _ :: _ :: _ :: _ :: _ :: _ :: _ :: _ :: _ :: _ :: _ :: _ :: _ :: []), defers := [] } _
  refine dr_take 0 (.pointer (some ⟨w.heap.size, 3, none⟩)) rfl rfl (by kernel_rfl) (by kernel_rfl) (by kernel_rfl) (fun _ _ _ h => h) (fun _ _ => by unfold execOp; go_simp) HSX.out ?_
  change wpAnyH _ _ _ _ _ _ _ { tmps := List.toArray (_ :: _ :: _ :: _ :: _ :: _ :: _ :: _ :: _ :: _ :: _ :: _ :: _ :: _ :: _ :: _ :: _ :: _ :: _ :: _ :: _ :: _ :: _ :: _ :: _ :: _ :: _ :: _ :: _ :: _ :: _ :: _ :: _ :: _ :: _ :: _ :: _ :: _ :: _ :: _ :: _ :: _ :: _ :: _ :: _ :: _ :: _ :: _ :: []), defers := [] } _
  refine dr_take 1 (.int .i64 bf) rfl rfl (by kernel_rfl) (by kernel_rfl) (by kernel_rfl) (fun _ _ _ h => h) (fun V h => by have h0 := h.1; clear h; unfold execOp; go_simp) HSX.out ?_
  change wpAnyH _ _ _ _ _ _ _ { tmps := List.toArray (_ :: _ :: _ :: _ :: _ :: _ :: _ :: _ :: _ :: _ :: _ :: _ :: _ :: _ :: _ :: _ :: _ :: _ :: _ :: _ :: _ :: _ :: _ :: _ :: _ :: _ :: _ :: _ :: _ :: _ :: _ :: _ :: _ :: _ :: _ :: _ :: _ :: _ :: _ :: _ :: _ :: _ :: _ :: _ :: _ :: _ :: _ :: _ :: []), defers := [] } _
  refine dr_take 2 (.pointer (some ⟨w.heap.size, 0, none⟩)) rfl rfl (by kernel_rfl) (by kernel_rfl) (by kernel_rfl) (fun _ _ _ h => h) (fun _ _ => by unfold execOp; go_simp) HSX.out ?_
  change wpAnyH _ _ _ _ _ _ _ { tmps := List.toArray (_ :: _ :: _ :: _ :: _ :: _ :: _ :: _ :: _ :: _ :: _ :: _ :: _ :: _ :: _ :: _ :: _ :: _ :: _ :: _ :: _ :: _ :: _ :: _ :: _ :: _ :: _ :: _ :: _ :: _ :: _ :: _ :: _ :: _ :: _ :: _ :: _ :: _ :: _ :: _ :: _ :: _ :: _ :: _ :: _ :: _ :: _ :: _ :: []), defers := [] } _
  refine dr_take 3 (.slice a1 n1 c1) rfl rfl (by kernel_rfl) (by kernel_rfl) (by kernel_rfl) (fun _ _ _ h => h) (fun V h => by have h0 := h.2; clear h; unfold execOp; go_simp) HSX.out ?_
  change wpAnyH _ _ _ _ _ _ _ { tmps := List.toArray (_ :: _ :: _ :: _ :: _ :: _ :: _ :: _ :: _ :: _ :: _ :: _ :: _ :: _ :: _ :: _ :: _ :: _ :: _ :: _ :: _ :: _ :: _ :: _ :: _ :: _ :: _ :: _ :: _ :: _ :: _ :: _ :: _ :: _ :: _ :: _ :: _ :: _ :: _ :: _ :: _ :: _ :: _ :: _ :: _ :: _ :: _ :: _ :: []), defers := [] } _
  refine dr_one 4 rfl rfl (by kernel_rfl) ?_
  refine wp_callT (vs := #[.slice a1 n1 c1]) rfl rfl (enters_of Tryd.func50 (by kernel_rfl) rfl) (by simp [Act.eval]) (HM.out _ HS1.out.2) ?_
  rintro e W3 ⟨pv, PL, rfl, hpg, hpb, _, hb3⟩
  have HS3 : Hid (Own W3 w.heap.size 25 #[.slice a1 n1 c1, .int .i64 sh, .int .i64 lk, .int .i64 bf, .slice a5 n5 c5] ∧ Below w.heap.size w W3) := ⟨HS1.out.1.below hb3, HS1.out.2.trans (hb3.mono HS1.out.2.size)⟩
  have HSY : Hid (W3.cell? ⟨w.heap.size, 3, none⟩ = some (.int .i64 bf) ∧ W3.cell? ⟨w.heap.size, 0, none⟩ = some (.slice a1 n1 c1)) := ⟨row_cellsO HS3.out.1 3 _ rfl, row_cellsO HS3.out.1 0 _ rfl⟩
  refine ⟨HSY.out, ?_⟩
  change wpAnyH _ _ _ _ _ _ _ { tmps := List.toArray (_ :: _ :: _ :: _ :: _ :: _ :: _ :: _ :: _ :: _ :: _ :: _ :: _ :: _ :: _ :: _ :: _ :: _ :: _ :: _ :: _ :: _ :: _ :: _ :: _ :: _ :: _ :: _ :: _ :: _ :: _ :: _ :: _ :: _ :: _ :: _ :: _ :: _ :: _ :: _ :: _ :: _ :: _ :: _ :: _ :: _ :: _ :: _ :: []), defers := [] } _
  refine dr_take 5 (.agg #[.slice none 0 0, .int .i64 bf, pv, .int .i64 (n1 : Int), .pointer none]) rfl rfl (by kernel_rfl) (by kernel_rfl) (by kernel_rfl) (fun _ _ _ h => h) (fun _ _ => by unfold execOp; go_simp) HSY.out ?_
  change wpAnyH _ _ _ _ _ _ _ { tmps := List.toArray (_ :: _ :: _ :: _ :: _ :: _ :: _ :: _ :: _ :: _ :: _ :: _ :: _ :: _ :: _ :: _ :: _ :: _ :: _ :: _ :: _ :: _ :: _ :: _ :: _ :: _ :: _ :: _ :: _ :: _ :: _ :: _ :: _ :: _ :: _ :: _ :: _ :: _ :: _ :: _ :: _ :: _ :: _ :: _ :: _ :: _ :: _ :: _ :: []), defers := [] } _
  refine dr_one 6 rfl rfl (by kernel_rfl) ?_
  have al := (Below.refl W3.heap.size W3).alloc (Nat.le_refl _) (.cells #[.slice none 0 0, .int .i64 bf, pv, .int .i64 (n1 : Int), .pointer none] 104)
  have HSZ : Hid ((W3.alloc (.cells #[.slice none 0 0, .int .i64 bf, pv, .int .i64 (n1 : Int), .pointer none] 104)).cell? ⟨w.heap.size, 3, none⟩ = some (.int .i64 bf) ∧ (W3.alloc (.cells #[.slice none 0 0, .int .i64 bf, pv, .int .i64 (n1 : Int), .pointer none] 104)).cell? ⟨w.heap.size, 0, none⟩ = some (.slice a1 n1 c1)) := ⟨row_cellsO (HS3.out.1.below al) 3 _ rfl, row_cellsO (HS3.out.1.below al) 0 _ rfl⟩
  refine wv_val (w' := W3.alloc (.cells #[.slice none 0 0, .int .i64 bf, pv, .int .i64 (n1 : Int), .pointer none] 104)) (v := .pointer (some ⟨W3.heap.size, 0, none⟩)) (by unfold execOp; go_simp) ⟨HSZ.out, ?_⟩
  change wpAnyH _ _ _ _ _ _ _ { tmps := List.toArray (_ :: _ :: _ :: _ :: _ :: _ :: _ :: _ :: _ :: _ :: _ :: _ :: _ :: _ :: _ :: _ :: _ :: _ :: _ :: _ :: _ :: _ :: _ :: _ :: _ :: _ :: _ :: _ :: _ :: _ :: _ :: _ :: _ :: _ :: _ :: _ :: _ :: _ :: _ :: _ :: _ :: _ :: _ :: _ :: _ :: _ :: _ :: _ :: []), defers := [] } _
  refine dr_one 7 rfl rfl (by kernel_rfl) ?_
  refine wv_val (w' := W3.alloc (.cells #[.slice none 0 0, .int .i64 bf, pv, .int .i64 (n1 : Int), .pointer none] 104)) (v := .pointer (some ⟨W3.heap.size, 0, none⟩)) (by unfold execOp; go_simp) ⟨HSZ.out, ?_⟩
  refine wpAnyH_done (by kernel_rfl) ?_ _
  have HI : Hid (NwI w ob #[.slice a1 n1 c1, .int .i64 sh, .int .i64 lk, .int .i64 bf, .slice a5 n5 c5] W3.heap.size 0 (W3.alloc (.cells #[.slice none 0 0, .int .i64 bf, pv, .int .i64 (n1 : Int), .pointer none] 104))) := by
    refine ⟨.slice none 0 0, pv, [], PL, ⟨?_, HS3.out.1.below al⟩, ⟨rfl, rfl, fun x hx => by cases hx⟩, World.ownsRow_nil _ _ _ _, ⟨?_, fun k e => Nat.le_trans HS1.out.2.size (hpb k e)⟩, (fun x hx => by cases hx), HS3.out.2.trans (al.mono HS3.out.2.size), HS3.out.1.lt⟩
    · have h7 := Own.new W3 104 #[.slice none 0 0, .int .i64 bf, pv, .int .i64 (n1 : Int), .pointer none]
      rw [HOB.out]
      show Own _ _ _ #[.slice none 0 0, .int .i64 bf, pv, .int .i64 (mem.length : Int), .pointer none]
      rw [← HN.out.1]
      exact h7
    · rw [HOB.out]
      exact hpg.below al
  clear HSX HSY HSZ hpg hpb hb3 al HS1 HS3 HM
  generalize W3.alloc (.cells #[.slice none 0 0, .int .i64 bf, pv, .int .i64 (n1 : Int), .pointer none] 104) = W4 at HI ⊢
  generalize W3.heap.size = pm at HI ⊢
  have c4 : W4.cell? ⟨w.heap.size, 4, none⟩ = some (.slice a5 n5 c5) := by
    obtain ⟨_, _, _, _, ⟨_, h⟩, _⟩ := HI.out
    exact row_cellsO h 4 _ rfl
  go_wp2_with fail
  go_loopg [29] (n5 + 1) (fun m' u W => ∃ t : Nat, u = .int .i64 (t : Int) ∧ t ≤ n5 ∧ m' = n5 - t + 1 ∧ NwI w ob #[.slice a1 n1 c1, .int .i64 sh, .int .i64 lk, .int .i64 bf, .slice a5 n5 c5] pm t W)
  case atStart => exact ⟨0, rfl, Nat.zero_le _, by omega, HI.out⟩
  case round =>
    clear HI c4
    obtain ⟨t, rfl, ht, hm, hx⟩ := hrel
    have HMM := Lib.hid hm
    have HX := Lib.hid hx
    clear hm hx
    have hoc : ob.cores = cores := by rw [HOB.out]
    by_cases htn : t < n5
    rotate_left
    · have htn2 : t = n5 := by omega
      subst htn2
      go_wp2_with fail
      refine bodyPost_ret (results_tmp2 rfl _ _ _) rfl ?_
      have h7 := HX.out
      rw [HN.out.2, ← hoc] at h7
      obtain ⟨F, h8, h9, h10⟩ := h7.done
      exact ⟨pm, F, rfl, h8, h9, h10⟩
    have il : t < cores.length := by have := HN.out.2; omega
    obtain ⟨x0, g1⟩ : ∃ x, cores[t]? = some x := ⟨_, List.getElem?_eq_getElem il⟩
    obtain ⟨ccv, cpv, cL, cPL, ⟨hmr, hor⟩, hL, hrow, hpg, hcd, hbl, hpm⟩ := HX.out
    have h5 := corsAt_below H5.out hbl
    rcases h5 with h5 | ⟨g, q, rfl, h5⟩
    · rw [h5] at il; simp at il
    obtain ⟨hs0, a2, c2, hs1, hins⟩ := h5 t x0 g1
    have hxc : x0 ∈ ob.cores := by rw [hoc]; exact List.mem_of_getElem? g1
    obtain ⟨hl1, hl2, _⟩ := HR.out.code x0 hxc
    obtain ⟨n2, hn2⟩ : ∃ n, n = x0.code.length := ⟨_, rfl⟩
    rw [← hn2] at hs1
    have hti : (t : Int) < (n5 : Int) := by omega
    have ht0 : (0 : Int) ≤ (t : Int) := by omega
    have OB := Own.new wr 83 #[.string ⟨#[]⟩, .slice none 0 0]
    have al := Below.of_row ((Below.refl wr.heap.size wr).alloc (Nat.le_refl _) (.cells #[.string ⟨#[]⟩, .slice none 0 0] 83)) (Nat.le_refl _) #[.string x0.name, .slice a2 n2 c2]
    have HI5 := Lib.hid (HX.out.below al)
    have HIN : Hid (insAt ((wr.alloc (.cells #[.string ⟨#[]⟩, .slice none 0 0] 83)).setRow wr.heap.size #[.string x0.name, .slice a2 n2 c2]) x0.code a2) := insAt_below hins al
    have HBX : Hid (Own ((wr.alloc (.cells #[.string ⟨#[]⟩, .slice none 0 0] 83)).setRow wr.heap.size #[.string x0.name, .slice a2 n2 c2]) wr.heap.size 83 #[.string x0.name, .slice a2 n2 c2]) := OB.row _
    have HG := Lib.hid (And.intro g1 (And.intro hn2 (And.intro hl2 (And.intro htn hoc))))
    have HBI : Hid (w.heap.size < wr.heap.size) := hor.lt
    clear h5 hins hmr hor hL hrow hpg hcd hbl hpm al hxc hl1 hl2 il hoc htn hn2 g1
    go_upto_region 8 with (refine st rowCr rfl rfl OB rfl rfl (by rfl) (by rfl) (by kernel_rfl) ?_)
    clear hs0 hs1 OB HX
    generalize (wr.alloc (.cells #[.string ⟨#[]⟩, .slice none 0 0] 83)).setRow wr.heap.size #[.string x0.name, .slice a2 n2 c2] = W5 at HI5 HIN HBX ⊢
    generalize wr.heap.size = bx at HBX HBI ⊢
    have dw : Below W5.heap.size W5 W5.drew := below_drewN (Below.refl _ W5) 1
    have HI6 := Lib.hid (HI5.out.below dw)
    have HBX6 := Lib.hid (HBX.out.below dw)
    have HIN6 := Lib.hid (insAt_below HIN.out dw)
    clear dw HI5 HBX HIN
    obtain ⟨kcv, kpv, kL, kPL, ⟨kmr, kor⟩, kL2, krow, kpg, kcd, kbl, kpm⟩ := HI6.out
    obtain ⟨ka, kc, rfl⟩ := row_slice krow
    refine wp_region_held (S := fun V => V.cell? ⟨bx, 1, none⟩ = some (.slice a2 n2 c2)) (by kernel_rfl) ?_
    change wpAnyH _ _ _ _ _ _ _ _ W5.drew
    generalize W5.drew = W6 at HI6 HBX6 HIN6 kmr kor krow kpg kcd kbl ⊢
    have HSX : Hid (W6.cell? ⟨bx, 1, none⟩ = some (.slice a2 n2 c2)) := row_cellsO HBX6.out 1 _ rfl
    have HK := Lib.hid (And.intro kmr (And.intro kor (And.intro kL2 (And.intro krow (And.intro kpg (And.intro kcd (And.intro kbl kpm)))))))
    have HCL : Hid (Calls Tryd.prog 51 #[.slice a2 n2 c2] W6 fun e w' => ∃ v, e = .returned v ∧ w'.ownsRow W6.heap.size 87 9 v n2 (flatI x0.code) ∧ Below W6.heap.size W6 w') := by
      have h7 := p_CloneI HIN6.out HG.out.2.2.1 c2
      rw [← HG.out.2.1] at h7
      exact h7
    clear kmr kor kL2 krow kpg kcd kbl kpm HI6
    obtain ⟨i0, hi, hz0, hz1, hz2⟩ := info_parts info_core
    have ht8 : t ≤ 8 := by
      have h7 := HR.out.len
      rw [HG.out.2.2.2.2] at h7
      have h8 := HN.out.2
      have h9 := HG.out.2.2.2.1
      omega
    change wpAnyH _ _ _ _ _ _ _ { tmps := List.toArray (_ :: _ :: _ :: _ :: _ :: _ :: _ :: _ :: _ :: _ :: _ :: _ :: _ :: _ :: _ :: _ :: _ :: _ :: _ :: _ :: _ :: _ :: _ :: _ :: _ :: _ :: _ :: _ :: _ :: _ :: _ :: _ :: _ :: _ :: _ :: _ :: _ :: _ :: _ :: _ :: _ :: _ :: _ :: _ :: _ :: _ :: _ :: _ :: []), defers := [] } _
    refine dr_take 0 (.pointer (some ⟨pm, 0, none⟩)) rfl rfl (by kernel_rfl) (by kernel_rfl) (by kernel_rfl) (fun _ _ _ h => h) (fun _ _ => by unfold execOp; go_simp) HSX.out ?_
    change wpAnyH _ _ _ _ _ _ _ { tmps := List.toArray (_ :: _ :: _ :: _ :: _ :: _ :: _ :: _ :: _ :: _ :: _ :: _ :: _ :: _ :: _ :: _ :: _ :: _ :: _ :: _ :: _ :: _ :: _ :: _ :: _ :: _ :: _ :: _ :: _ :: _ :: _ :: _ :: _ :: _ :: _ :: _ :: _ :: _ :: _ :: _ :: _ :: _ :: _ :: _ :: _ :: _ :: _ :: _ :: []), defers := [] } _
    refine dr_take 1 (.pointer (some ⟨pm, 0, none⟩)) rfl rfl (by kernel_rfl) (by kernel_rfl) (by kernel_rfl) (fun _ _ _ h => h) (fun _ _ => by unfold execOp; go_simp) HSX.out ?_
    change wpAnyH _ _ _ _ _ _ _ { tmps := List.toArray (_ :: _ :: _ :: _ :: _ :: _ :: _ :: _ :: _ :: _ :: _ :: _ :: _ :: _ :: _ :: _ :: _ :: _ :: _ :: _ :: _ :: _ :: _ :: _ :: _ :: _ :: _ :: _ :: _ :: _ :: _ :: _ :: _ :: _ :: _ :: _ :: _ :: _ :: _ :: _ :: _ :: _ :: _ :: _ :: _ :: _ :: _ :: _ :: []), defers := [] } _
    refine dr_take 2 (.pointer (some ⟨pm, 0, none⟩)) rfl rfl (by kernel_rfl) (by kernel_rfl) (by kernel_rfl) (fun _ _ _ h => h) (fun _ _ => by unfold execOp; go_simp) HSX.out ?_
    change wpAnyH _ _ _ _ _ _ _ { tmps := List.toArray (_ :: _ :: _ :: _ :: _ :: _ :: _ :: _ :: _ :: _ :: _ :: _ :: _ :: _ :: _ :: _ :: _ :: _ :: _ :: _ :: _ :: _ :: _ :: _ :: _ :: _ :: _ :: _ :: _ :: _ :: _ :: _ :: _ :: _ :: _ :: _ :: _ :: _ :: _ :: _ :: _ :: _ :: _ :: _ :: _ :: _ :: _ :: _ :: []), defers := [] } _
    refine dr_take 3 (.pointer (some ⟨pm, 0, none⟩)) rfl rfl (by kernel_rfl) (by kernel_rfl) (by kernel_rfl) (fun _ _ _ h => h) (fun _ _ => by unfold execOp; go_simp) HSX.out ?_
    change wpAnyH _ _ _ _ _ _ _ { tmps := List.toArray (_ :: _ :: _ :: _ :: _ :: _ :: _ :: _ :: _ :: _ :: _ :: _ :: _ :: _ :: _ :: _ :: _ :: _ :: _ :: _ :: _ :: _ :: _ :: _ :: _ :: _ :: _ :: _ :: _ :: _ :: _ :: _ :: _ :: _ :: _ :: _ :: _ :: _ :: _ :: _ :: _ :: _ :: _ :: _ :: _ :: _ :: _ :: _ :: []), defers := [] } _
    refine dr_take 5 (.pointer (some ⟨bx, 1, none⟩)) rfl rfl (by kernel_rfl) (by kernel_rfl) (by kernel_rfl) (fun _ _ _ h => h) (fun _ _ => by unfold execOp; go_simp) HSX.out ?_
    change wpAnyH _ _ _ _ _ _ _ { tmps := List.toArray (_ :: _ :: _ :: _ :: _ :: _ :: _ :: _ :: _ :: _ :: _ :: _ :: _ :: _ :: _ :: _ :: _ :: _ :: _ :: _ :: _ :: _ :: _ :: _ :: _ :: _ :: _ :: _ :: _ :: _ :: _ :: _ :: _ :: _ :: _ :: _ :: _ :: _ :: _ :: _ :: _ :: _ :: _ :: _ :: _ :: _ :: _ :: _ :: []), defers := [] } _
    refine dr_take 6 (.slice a2 n2 c2) rfl rfl (by kernel_rfl) (by kernel_rfl) (by kernel_rfl) (fun _ _ _ h => h) (fun V h => by unfold execOp; go_simp) HSX.out ?_
    change wpAnyH _ _ _ _ _ _ _ { tmps := List.toArray (_ :: _ :: _ :: _ :: _ :: _ :: _ :: _ :: _ :: _ :: _ :: _ :: _ :: _ :: _ :: _ :: _ :: _ :: _ :: _ :: _ :: _ :: _ :: _ :: _ :: _ :: _ :: _ :: _ :: _ :: _ :: _ :: _ :: _ :: _ :: _ :: _ :: _ :: _ :: _ :: _ :: _ :: _ :: _ :: _ :: _ :: _ :: _ :: []), defers := [] } _
    refine dr_two 4 7 rfl rfl rfl rfl (by kernel_rfl) ?_ ?_
    · have m4 : W6.cell? ⟨pm, 0, none⟩ = some (.slice ka t kc) := row_cellsO HK.out.1 0 _ rfl
      refine wv_val (w' := W6) (v := .slice ka t kc) (by unfold execOp; go_simp) ⟨HSX.out, ?_⟩
      clear m4
      change wpAnyH _ _ _ _ _ _ _ { tmps := List.toArray (_ :: _ :: _ :: _ :: _ :: _ :: _ :: _ :: _ :: _ :: _ :: _ :: _ :: _ :: _ :: _ :: _ :: _ :: _ :: _ :: _ :: _ :: _ :: _ :: _ :: _ :: _ :: _ :: _ :: _ :: _ :: _ :: _ :: _ :: _ :: _ :: _ :: _ :: _ :: _ :: _ :: _ :: _ :: _ :: _ :: _ :: _ :: _ :: []), defers := [] } _
      refine dr_one 7 rfl rfl (by kernel_rfl) ?_
      refine wp_callT (vs := #[.slice a2 n2 c2]) rfl rfl (enters_of Tryd.func51 (by kernel_rfl) rfl) (by simp [Act.eval]) HCL.out ?_
      rintro e W7 ⟨cdv, rfl, hcrow, hb7⟩
      obtain ⟨cda, cdc, rfl⟩ := row_slice hcrow
      have HB7 := Lib.hid hb7
      have HSY : Hid (W7.cell? ⟨bx, 1, none⟩ = some (.slice a2 n2 c2)) := row_cellsO (HBX6.out.below hb7) 1 _ rfl
      refine ⟨HSY.out, ?_⟩
      change wpAnyH _ _ _ _ _ _ _ { tmps := List.toArray (_ :: _ :: _ :: _ :: _ :: _ :: _ :: _ :: _ :: _ :: _ :: _ :: _ :: _ :: _ :: _ :: _ :: _ :: _ :: _ :: _ :: _ :: _ :: _ :: _ :: _ :: _ :: _ :: _ :: _ :: _ :: _ :: _ :: _ :: _ :: _ :: _ :: _ :: _ :: _ :: _ :: _ :: _ :: _ :: _ :: _ :: _ :: _ :: []), defers := [] } _
      refine dr_take 8 (.agg #[.int .i64 0, .bool false, .int .i64 0, .int .i64 0, .int .i64 0, .int .i64 0, .int .i64 0, .int .i64 0, .int .i64 0, .int .i64 0, .int .i64 0, .int .i64 0, .int .i64 0, .int .i64 0, .int .i64 0, .int .i64 0, .int .i64 0, .int .i64 0, .slice none 0 0, .slice cda n2 cdc]) rfl rfl (by kernel_rfl) (by kernel_rfl) (by kernel_rfl) (fun _ _ _ h => h) (fun _ _ => by unfold execOp; go_simp) HSY.out ?_
      change wpAnyH _ _ _ _ _ _ _ { tmps := List.toArray (_ :: _ :: _ :: _ :: _ :: _ :: _ :: _ :: _ :: _ :: _ :: _ :: _ :: _ :: _ :: _ :: _ :: _ :: _ :: _ :: _ :: _ :: _ :: _ :: _ :: _ :: _ :: _ :: _ :: _ :: _ :: _ :: _ :: _ :: _ :: _ :: _ :: _ :: _ :: _ :: _ :: _ :: _ :: _ :: _ :: _ :: _ :: _ :: []), defers := [] } _
      refine dr_one 9 rfl rfl (by kernel_rfl) ?_
      have al := (Below.refl W7.heap.size W7).alloc (Nat.le_refl _) (.cells #[.int .i64 0, .bool false, .int .i64 0, .int .i64 0, .int .i64 0, .int .i64 0, .int .i64 0, .int .i64 0, .int .i64 0, .int .i64 0, .int .i64 0, .int .i64 0, .int .i64 0, .int .i64 0, .int .i64 0, .int .i64 0, .int .i64 0, .int .i64 0, .slice none 0 0, .slice cda n2 cdc] 97)
      have HB8 := Lib.hid (HB7.out.trans (al.mono HB7.out.size))
      have HSZ : Hid ((W7.alloc (.cells #[.int .i64 0, .bool false, .int .i64 0, .int .i64 0, .int .i64 0, .int .i64 0, .int .i64 0, .int .i64 0, .int .i64 0, .int .i64 0, .int .i64 0, .int .i64 0, .int .i64 0, .int .i64 0, .int .i64 0, .int .i64 0, .int .i64 0, .int .i64 0, .slice none 0 0, .slice cda n2 cdc] 97)).cell? ⟨bx, 1, none⟩ = some (.slice a2 n2 c2)) := row_cellsO (HBX6.out.below HB8.out) 1 _ rfl
      have HCR := Lib.hid (row_below hcrow al)
      have HON := Lib.hid (Own.new W7 97 #[.int .i64 0, .bool false, .int .i64 0, .int .i64 0, .int .i64 0, .int .i64 0, .int .i64 0, .int .i64 0, .int .i64 0, .int .i64 0, .int .i64 0, .int .i64 0, .int .i64 0, .int .i64 0, .int .i64 0, .int .i64 0, .int .i64 0, .int .i64 0, .slice none 0 0, .slice cda n2 cdc])
      refine wv_val (w' := W7.alloc (.cells #[.int .i64 0, .bool false, .int .i64 0, .int .i64 0, .int .i64 0, .int .i64 0, .int .i64 0, .int .i64 0, .int .i64 0, .int .i64 0, .int .i64 0, .int .i64 0, .int .i64 0, .int .i64 0, .int .i64 0, .int .i64 0, .int .i64 0, .int .i64 0, .slice none 0 0, .slice cda n2 cdc] 97)) (v := .slice (some ⟨W7.heap.size, 0, none⟩) 1 1) (by unfold execOp; go_simp) ⟨HSZ.out, ?_⟩
      clear al hcrow hb7
      generalize W7.alloc (.cells #[.int .i64 0, .bool false, .int .i64 0, .int .i64 0, .int .i64 0, .int .i64 0, .int .i64 0, .int .i64 0, .int .i64 0, .int .i64 0, .int .i64 0, .int .i64 0, .int .i64 0, .int .i64 0, .int .i64 0, .int .i64 0, .int .i64 0, .int .i64 0, .slice none 0 0, .slice cda n2 cdc] 97) = W8 at HB8 HSZ HCR HON ⊢
      generalize W7.heap.size = bn at HON ⊢
      change wpAnyH _ _ _ _ _ _ _ { tmps := List.toArray (_ :: _ :: _ :: _ :: _ :: _ :: _ :: _ :: _ :: _ :: _ :: _ :: _ :: _ :: _ :: _ :: _ :: _ :: _ :: _ :: _ :: _ :: _ :: _ :: _ :: _ :: _ :: _ :: _ :: _ :: _ :: _ :: _ :: _ :: _ :: _ :: _ :: _ :: _ :: _ :: _ :: _ :: _ :: _ :: _ :: _ :: _ :: _ :: []), defers := [] } _
      refine dr_one 10 rfl rfl (by kernel_rfl) ?_
      have hk8 := row_below HK.out.2.2.2.1 HB8.out
      have hw8 : w.heap.size ≤ W8.heap.size := Nat.le_trans HK.out.2.2.2.2.2.2.1.size HB8.out.size
      refine wp_append_row _ _ 98 rfl w.heap.size 97 i0 _ 20 192 Tryd.underlying98 hi hz0 hz1 hz2 rfl (by decide) (.slice ka t kc) t (flatK kL) rfl hk8 ⟨bn, 0, none⟩ 1 1 [.int .i64 0, .bool false, .int .i64 0, .int .i64 0, .int .i64 0, .int .i64 0, .int .i64 0, .int .i64 0, .int .i64 0, .int .i64 0, .int .i64 0, .int .i64 0, .int .i64 0, .int .i64 0, .int .i64 0, .int .i64 0, .int .i64 0, .int .i64 0, .slice none 0 0, .slice cda n2 cdc] rfl rfl (fun j u hj => by rw [addr_addV, Nat.zero_add]; exact row_cellsO HON.out j u (by simpa using hj)) (by simp [Value.oneCell']) (by simp only [maxLen]; omega) (by omega) hw8 ?_
      intro v9 W9 hown hgrow
      obtain ⟨va9, vc9, rfl⟩ := row_slice hown
      have st9 : ∀ {k : Nat} {T : TypeId} {q : Array Value}, Own W8 k T q → (97 == T) = false → Own W9 k T q := fun h1 ht => (hgrow.block _ h1.lt (fun e => row_apart hk8 h1 ht e.symm)).trans h1
      have M9 := Lib.hid (st9 (HK.out.1.below HB8.out) (by decide))
      have B9 := Lib.hid (st9 (HBX6.out.below HB8.out) (by decide))
      have HSV : Hid (W9.cell? ⟨bx, 1, none⟩ = some (.slice a2 n2 c2)) := row_cellsO B9.out 1 _ rfl
      refine ⟨HSV.out, ?_⟩
      change wpAnyH _ _ _ _ _ _ _ { tmps := List.toArray (_ :: _ :: _ :: _ :: _ :: _ :: _ :: _ :: _ :: _ :: _ :: _ :: _ :: _ :: _ :: _ :: _ :: _ :: _ :: _ :: _ :: _ :: _ :: _ :: _ :: _ :: _ :: _ :: _ :: _ :: _ :: _ :: _ :: _ :: _ :: _ :: _ :: _ :: _ :: _ :: _ :: _ :: _ :: _ :: _ :: _ :: _ :: _ :: []), defers := [] } _
      refine dr_one 11 rfl rfl (by kernel_rfl) ?_
      refine wv_val (w' := W9) (v := .pointer (some ⟨pm, 0, none⟩)) (by unfold execOp; go_simp) ⟨HSV.out, ?_⟩
      change wpAnyH _ _ _ _ _ _ _ { tmps := List.toArray (_ :: _ :: _ :: _ :: _ :: _ :: _ :: _ :: _ :: _ :: _ :: _ :: _ :: _ :: _ :: _ :: _ :: _ :: _ :: _ :: _ :: _ :: _ :: _ :: _ :: _ :: _ :: _ :: _ :: _ :: _ :: _ :: _ :: _ :: _ :: _ :: _ :: _ :: _ :: _ :: _ :: _ :: _ :: _ :: _ :: _ :: _ :: _ :: []), defers := [] } _
      refine dr_one 12 rfl rfl (by kernel_rfl) ?_
      refine wv_val (w' := W9) (v := .pointer (some ⟨pm, 0, none⟩)) (by unfold execOp; go_simp) ⟨HSV.out, ?_⟩
      change wpAnyH _ _ _ _ _ _ _ { tmps := List.toArray (_ :: _ :: _ :: _ :: _ :: _ :: _ :: _ :: _ :: _ :: _ :: _ :: _ :: _ :: _ :: _ :: _ :: _ :: _ :: _ :: _ :: _ :: _ :: _ :: _ :: _ :: _ :: _ :: _ :: _ :: _ :: _ :: _ :: _ :: _ :: _ :: _ :: _ :: _ :: _ :: _ :: _ :: _ :: _ :: _ :: _ :: _ :: _ :: []), defers := [] } _
      refine dr_one 13 rfl rfl (by kernel_rfl) ?_
      refine wp_stC rfl rfl rfl (row_cellsO M9.out 0 (.slice ka t kc) rfl) (own_frozen M9.out 0) ⟨(World.cell?_setCell_far _ _ _ _ (by show pm ≠ bx; exact own_unlike M9.out B9.out (by decide))).trans HSV.out, ?_⟩
      refine wpAnyH_done (by kernel_rfl) ?_ _
      have HZ : Hid (NwI w ob #[.slice a1 n1 c1, .int .i64 sh, .int .i64 lk, .int .i64 bf, .slice (some ⟨g, q, none⟩) n5 c5] pm (t + 1) (W9.setCell ⟨pm, 0, none⟩ (.slice va9 (t + 1) vc9))) := by
        obtain ⟨k1, k2, k3, k4, k5, k6, k7, k8⟩ := HK.out
        have hcr := HCR.out
        rw [HG.out.2.1] at hcr hown
        exact NwI.step k1 k2 k3 k4 k5 k6 k7 k8 (by rw [HG.out.2.2.2.2]; exact HG.out.1) HB8.out hcr hown hgrow
      clear M9 B9 HSV hown hgrow st9 hk8
      generalize W9.setCell ⟨pm, 0, none⟩ (.slice va9 (t + 1) vc9) = W10 at HZ ⊢
      go_wp2_with fail
      go_roundg (n5 - (t + 1) + 1)
      case measure => have := HMM.out; have := HG.out.2.2.2.1; omega
      case rel => exact ⟨t + 1, by simp, by have := HG.out.2.2.2.1; omega, rfl, HZ.out⟩
    · refine wp_callT (vs := #[.slice a2 n2 c2]) rfl rfl (enters_of Tryd.func51 (by kernel_rfl) rfl) (by simp [Act.eval]) HCL.out ?_
      rintro e W7 ⟨cdv, rfl, hcrow, hb7⟩
      obtain ⟨cda, cdc, rfl⟩ := row_slice hcrow
      have HB7 := Lib.hid hb7
      have HSY : Hid (W7.cell? ⟨bx, 1, none⟩ = some (.slice a2 n2 c2)) := row_cellsO (HBX6.out.below hb7) 1 _ rfl
      refine ⟨HSY.out, ?_⟩
      change wpAnyH _ _ _ _ _ _ _ { tmps := List.toArray (_ :: _ :: _ :: _ :: _ :: _ :: _ :: _ :: _ :: _ :: _ :: _ :: _ :: _ :: _ :: _ :: _ :: _ :: _ :: _ :: _ :: _ :: _ :: _ :: _ :: _ :: _ :: _ :: _ :: _ :: _ :: _ :: _ :: _ :: _ :: _ :: _ :: _ :: _ :: _ :: _ :: _ :: _ :: _ :: _ :: _ :: _ :: _ :: []), defers := [] } _
      refine dr_take 8 (.agg #[.int .i64 0, .bool false, .int .i64 0, .int .i64 0, .int .i64 0, .int .i64 0, .int .i64 0, .int .i64 0, .int .i64 0, .int .i64 0, .int .i64 0, .int .i64 0, .int .i64 0, .int .i64 0, .int .i64 0, .int .i64 0, .int .i64 0, .int .i64 0, .slice none 0 0, .slice cda n2 cdc]) rfl rfl (by kernel_rfl) (by kernel_rfl) (by kernel_rfl) (fun _ _ _ h => h) (fun _ _ => by unfold execOp; go_simp) HSY.out ?_
      change wpAnyH _ _ _ _ _ _ _ { tmps := List.toArray (_ :: _ :: _ :: _ :: _ :: _ :: _ :: _ :: _ :: _ :: _ :: _ :: _ :: _ :: _ :: _ :: _ :: _ :: _ :: _ :: _ :: _ :: _ :: _ :: _ :: _ :: _ :: _ :: _ :: _ :: _ :: _ :: _ :: _ :: _ :: _ :: _ :: _ :: _ :: _ :: _ :: _ :: _ :: _ :: _ :: _ :: _ :: _ :: []), defers := [] } _
      refine dr_two 4 9 rfl rfl rfl rfl (by kernel_rfl) ?_ ?_
      · have m4 : W7.cell? ⟨pm, 0, none⟩ = some (.slice ka t kc) := row_cellsO (HK.out.1.below hb7) 0 _ rfl
        refine wv_val (w' := W7) (v := .slice ka t kc) (by unfold execOp; go_simp) ⟨HSY.out, ?_⟩
        clear m4
        change wpAnyH _ _ _ _ _ _ _ { tmps := List.toArray (_ :: _ :: _ :: _ :: _ :: _ :: _ :: _ :: _ :: _ :: _ :: _ :: _ :: _ :: _ :: _ :: _ :: _ :: _ :: _ :: _ :: _ :: _ :: _ :: _ :: _ :: _ :: _ :: _ :: _ :: _ :: _ :: _ :: _ :: _ :: _ :: _ :: _ :: _ :: _ :: _ :: _ :: _ :: _ :: _ :: _ :: _ :: _ :: []), defers := [] } _
        refine dr_one 9 rfl rfl (by kernel_rfl) ?_
        have al := (Below.refl W7.heap.size W7).alloc (Nat.le_refl _) (.cells #[.int .i64 0, .bool false, .int .i64 0, .int .i64 0, .int .i64 0, .int .i64 0, .int .i64 0, .int .i64 0, .int .i64 0, .int .i64 0, .int .i64 0, .int .i64 0, .int .i64 0, .int .i64 0, .int .i64 0, .int .i64 0, .int .i64 0, .int .i64 0, .slice none 0 0, .slice cda n2 cdc] 97)
        have HB8 := Lib.hid (HB7.out.trans (al.mono HB7.out.size))
        have HSZ : Hid ((W7.alloc (.cells #[.int .i64 0, .bool false, .int .i64 0, .int .i64 0, .int .i64 0, .int .i64 0, .int .i64 0, .int .i64 0, .int .i64 0, .int .i64 0, .int .i64 0, .int .i64 0, .int .i64 0, .int .i64 0, .int .i64 0, .int .i64 0, .int .i64 0, .int .i64 0, .slice none 0 0, .slice cda n2 cdc] 97)).cell? ⟨bx, 1, none⟩ = some (.slice a2 n2 c2)) := row_cellsO (HBX6.out.below HB8.out) 1 _ rfl
        have HCR := Lib.hid (row_below hcrow al)
        have HON := Lib.hid (Own.new W7 97 #[.int .i64 0, .bool false, .int .i64 0, .int .i64 0, .int .i64 0, .int .i64 0, .int .i64 0, .int .i64 0, .int .i64 0, .int .i64 0, .int .i64 0, .int .i64 0, .int .i64 0, .int .i64 0, .int .i64 0, .int .i64 0, .int .i64 0, .int .i64 0, .slice none 0 0, .slice cda n2 cdc])
        refine wv_val (w' := W7.alloc (.cells #[.int .i64 0, .bool false, .int .i64 0, .int .i64 0, .int .i64 0, .int .i64 0, .int .i64 0, .int .i64 0, .int .i64 0, .int .i64 0, .int .i64 0, .int .i64 0, .int .i64 0, .int .i64 0, .int .i64 0, .int .i64 0, .int .i64 0, .int .i64 0, .slice none 0 0, .slice cda n2 cdc] 97)) (v := .slice (some ⟨W7.heap.size, 0, none⟩) 1 1) (by unfold execOp; go_simp) ⟨HSZ.out, ?_⟩
        clear al hcrow hb7
        generalize W7.alloc (.cells #[.int .i64 0, .bool false, .int .i64 0, .int .i64 0, .int .i64 0, .int .i64 0, .int .i64 0, .int .i64 0, .int .i64 0, .int .i64 0, .int .i64 0, .int .i64 0, .int .i64 0, .int .i64 0, .int .i64 0, .int .i64 0, .int .i64 0, .int .i64 0, .slice none 0 0, .slice cda n2 cdc] 97) = W8 at HB8 HSZ HCR HON ⊢
        generalize W7.heap.size = bn at HON ⊢
        change wpAnyH _ _ _ _ _ _ _ { tmps := List.toArray (_ :: _ :: _ :: _ :: _ :: _ :: _ :: _ :: _ :: _ :: _ :: _ :: _ :: _ :: _ :: _ :: _ :: _ :: _ :: _ :: _ :: _ :: _ :: _ :: _ :: _ :: _ :: _ :: _ :: _ :: _ :: _ :: _ :: _ :: _ :: _ :: _ :: _ :: _ :: _ :: _ :: _ :: _ :: _ :: _ :: _ :: _ :: _ :: []), defers := [] } _
        refine dr_one 10 rfl rfl (by kernel_rfl) ?_
        have hk8 := row_below HK.out.2.2.2.1 HB8.out
        have hw8 : w.heap.size ≤ W8.heap.size := Nat.le_trans HK.out.2.2.2.2.2.2.1.size HB8.out.size
        refine wp_append_row _ _ 98 rfl w.heap.size 97 i0 _ 20 192 Tryd.underlying98 hi hz0 hz1 hz2 rfl (by decide) (.slice ka t kc) t (flatK kL) rfl hk8 ⟨bn, 0, none⟩ 1 1 [.int .i64 0, .bool false, .int .i64 0, .int .i64 0, .int .i64 0, .int .i64 0, .int .i64 0, .int .i64 0, .int .i64 0, .int .i64 0, .int .i64 0, .int .i64 0, .int .i64 0, .int .i64 0, .int .i64 0, .int .i64 0, .int .i64 0, .int .i64 0, .slice none 0 0, .slice cda n2 cdc] rfl rfl (fun j u hj => by rw [addr_addV, Nat.zero_add]; exact row_cellsO HON.out j u (by simpa using hj)) (by simp [Value.oneCell']) (by simp only [maxLen]; omega) (by omega) hw8 ?_
        intro v9 W9 hown hgrow
        obtain ⟨va9, vc9, rfl⟩ := row_slice hown
        have st9 : ∀ {k : Nat} {T : TypeId} {q : Array Value}, Own W8 k T q → (97 == T) = false → Own W9 k T q := fun h1 ht => (hgrow.block _ h1.lt (fun e => row_apart hk8 h1 ht e.symm)).trans h1
        have M9 := Lib.hid (st9 (HK.out.1.below HB8.out) (by decide))
        have B9 := Lib.hid (st9 (HBX6.out.below HB8.out) (by decide))
        have HSV : Hid (W9.cell? ⟨bx, 1, none⟩ = some (.slice a2 n2 c2)) := row_cellsO B9.out 1 _ rfl
        refine ⟨HSV.out, ?_⟩
        change wpAnyH _ _ _ _ _ _ _ { tmps := List.toArray (_ :: _ :: _ :: _ :: _ :: _ :: _ :: _ :: _ :: _ :: _ :: _ :: _ :: _ :: _ :: _ :: _ :: _ :: _ :: _ :: _ :: _ :: _ :: _ :: _ :: _ :: _ :: _ :: _ :: _ :: _ :: _ :: _ :: _ :: _ :: _ :: _ :: _ :: _ :: _ :: _ :: _ :: _ :: _ :: _ :: _ :: _ :: _ :: []), defers := [] } _
        refine dr_one 11 rfl rfl (by kernel_rfl) ?_
        refine wv_val (w' := W9) (v := .pointer (some ⟨pm, 0, none⟩)) (by unfold execOp; go_simp) ⟨HSV.out, ?_⟩
        change wpAnyH _ _ _ _ _ _ _ { tmps := List.toArray (_ :: _ :: _ :: _ :: _ :: _ :: _ :: _ :: _ :: _ :: _ :: _ :: _ :: _ :: _ :: _ :: _ :: _ :: _ :: _ :: _ :: _ :: _ :: _ :: _ :: _ :: _ :: _ :: _ :: _ :: _ :: _ :: _ :: _ :: _ :: _ :: _ :: _ :: _ :: _ :: _ :: _ :: _ :: _ :: _ :: _ :: _ :: _ :: []), defers := [] } _
        refine dr_one 12 rfl rfl (by kernel_rfl) ?_
        refine wv_val (w' := W9) (v := .pointer (some ⟨pm, 0, none⟩)) (by unfold execOp; go_simp) ⟨HSV.out, ?_⟩
        change wpAnyH _ _ _ _ _ _ _ { tmps := List.toArray (_ :: _ :: _ :: _ :: _ :: _ :: _ :: _ :: _ :: _ :: _ :: _ :: _ :: _ :: _ :: _ :: _ :: _ :: _ :: _ :: _ :: _ :: _ :: _ :: _ :: _ :: _ :: _ :: _ :: _ :: _ :: _ :: _ :: _ :: _ :: _ :: _ :: _ :: _ :: _ :: _ :: _ :: _ :: _ :: _ :: _ :: _ :: _ :: []), defers := [] } _
        refine dr_one 13 rfl rfl (by kernel_rfl) ?_
        refine wp_stC rfl rfl rfl (row_cellsO M9.out 0 (.slice ka t kc) rfl) (own_frozen M9.out 0) ⟨(World.cell?_setCell_far _ _ _ _ (by show pm ≠ bx; exact own_unlike M9.out B9.out (by decide))).trans HSV.out, ?_⟩
        refine wpAnyH_done (by kernel_rfl) ?_ _
        have HZ : Hid (NwI w ob #[.slice a1 n1 c1, .int .i64 sh, .int .i64 lk, .int .i64 bf, .slice (some ⟨g, q, none⟩) n5 c5] pm (t + 1) (W9.setCell ⟨pm, 0, none⟩ (.slice va9 (t + 1) vc9))) := by
          obtain ⟨k1, k2, k3, k4, k5, k6, k7, k8⟩ := HK.out
          have hcr := HCR.out
          rw [HG.out.2.1] at hcr hown
          exact NwI.step k1 k2 k3 k4 k5 k6 k7 k8 (by rw [HG.out.2.2.2.2]; exact HG.out.1) HB8.out hcr hown hgrow
        clear M9 B9 HSV hown hgrow st9 hk8
        generalize W9.setCell ⟨pm, 0, none⟩ (.slice va9 (t + 1) vc9) = W10 at HZ ⊢
        go_wp2_with fail
        go_roundg (n5 - (t + 1) + 1)
        case measure => have := HMM.out; have := HG.out.2.2.2.1; omega
        case rel => exact ⟨t + 1, by simp, by have := HG.out.2.2.2.1; omega, rfl, HZ.out⟩
      · have al := (Below.refl W7.heap.size W7).alloc (Nat.le_refl _) (.cells #[.int .i64 0, .bool false, .int .i64 0, .int .i64 0, .int .i64 0, .int .i64 0, .int .i64 0, .int .i64 0, .int .i64 0, .int .i64 0, .int .i64 0, .int .i64 0, .int .i64 0, .int .i64 0, .int .i64 0, .int .i64 0, .int .i64 0, .int .i64 0, .slice none 0 0, .slice cda n2 cdc] 97)
        have HB8 := Lib.hid (HB7.out.trans (al.mono HB7.out.size))
        have HSZ : Hid ((W7.alloc (.cells #[.int .i64 0, .bool false, .int .i64 0, .int .i64 0, .int .i64 0, .int .i64 0, .int .i64 0, .int .i64 0, .int .i64 0, .int .i64 0, .int .i64 0, .int .i64 0, .int .i64 0, .int .i64 0, .int .i64 0, .int .i64 0, .int .i64 0, .int .i64 0, .slice none 0 0, .slice cda n2 cdc] 97)).cell? ⟨bx, 1, none⟩ = some (.slice a2 n2 c2)) := row_cellsO (HBX6.out.below HB8.out) 1 _ rfl
        have HCR := Lib.hid (row_below hcrow al)
        have HON := Lib.hid (Own.new W7 97 #[.int .i64 0, .bool false, .int .i64 0, .int .i64 0, .int .i64 0, .int .i64 0, .int .i64 0, .int .i64 0, .int .i64 0, .int .i64 0, .int .i64 0, .int .i64 0, .int .i64 0, .int .i64 0, .int .i64 0, .int .i64 0, .int .i64 0, .int .i64 0, .slice none 0 0, .slice cda n2 cdc])
        refine wv_val (w' := W7.alloc (.cells #[.int .i64 0, .bool false, .int .i64 0, .int .i64 0, .int .i64 0, .int .i64 0, .int .i64 0, .int .i64 0, .int .i64 0, .int .i64 0, .int .i64 0, .int .i64 0, .int .i64 0, .int .i64 0, .int .i64 0, .int .i64 0, .int .i64 0, .int .i64 0, .slice none 0 0, .slice cda n2 cdc] 97)) (v := .slice (some ⟨W7.heap.size, 0, none⟩) 1 1) (by unfold execOp; go_simp) ⟨HSZ.out, ?_⟩
        clear al hcrow hb7
        generalize W7.alloc (.cells #[.int .i64 0, .bool false, .int .i64 0, .int .i64 0, .int .i64 0, .int .i64 0, .int .i64 0, .int .i64 0, .int .i64 0, .int .i64 0, .int .i64 0, .int .i64 0, .int .i64 0, .int .i64 0, .int .i64 0, .int .i64 0, .int .i64 0, .int .i64 0, .slice none 0 0, .slice cda n2 cdc] 97) = W8 at HB8 HSZ HCR HON ⊢
        generalize W7.heap.size = bn at HON ⊢
        change wpAnyH _ _ _ _ _ _ _ { tmps := List.toArray (_ :: _ :: _ :: _ :: _ :: _ :: _ :: _ :: _ :: _ :: _ :: _ :: _ :: _ :: _ :: _ :: _ :: _ :: _ :: _ :: _ :: _ :: _ :: _ :: _ :: _ :: _ :: _ :: _ :: _ :: _ :: _ :: _ :: _ :: _ :: _ :: _ :: _ :: _ :: _ :: _ :: _ :: _ :: _ :: _ :: _ :: _ :: _ :: []), defers := [] } _
        refine dr_one 4 rfl rfl (by kernel_rfl) ?_
        have m4 : W8.cell? ⟨pm, 0, none⟩ = some (.slice ka t kc) := row_cellsO (HK.out.1.below HB8.out) 0 _ rfl
        refine wv_val (w' := W8) (v := .slice ka t kc) (by unfold execOp; go_simp) ⟨HSZ.out, ?_⟩
        clear m4
        change wpAnyH _ _ _ _ _ _ _ { tmps := List.toArray (_ :: _ :: _ :: _ :: _ :: _ :: _ :: _ :: _ :: _ :: _ :: _ :: _ :: _ :: _ :: _ :: _ :: _ :: _ :: _ :: _ :: _ :: _ :: _ :: _ :: _ :: _ :: _ :: _ :: _ :: _ :: _ :: _ :: _ :: _ :: _ :: _ :: _ :: _ :: _ :: _ :: _ :: _ :: _ :: _ :: _ :: _ :: _ :: []), defers := [] } _
        refine dr_one 10 rfl rfl (by kernel_rfl) ?_
        have hk8 := row_below HK.out.2.2.2.1 HB8.out
        have hw8 : w.heap.size ≤ W8.heap.size := Nat.le_trans HK.out.2.2.2.2.2.2.1.size HB8.out.size
        refine wp_append_row _ _ 98 rfl w.heap.size 97 i0 _ 20 192 Tryd.underlying98 hi hz0 hz1 hz2 rfl (by decide) (.slice ka t kc) t (flatK kL) rfl hk8 ⟨bn, 0, none⟩ 1 1 [.int .i64 0, .bool false, .int .i64 0, .int .i64 0, .int .i64 0, .int .i64 0, .int .i64 0, .int .i64 0, .int .i64 0, .int .i64 0, .int .i64 0, .int .i64 0, .int .i64 0, .int .i64 0, .int .i64 0, .int .i64 0, .int .i64 0, .int .i64 0, .slice none 0 0, .slice cda n2 cdc] rfl rfl (fun j u hj => by rw [addr_addV, Nat.zero_add]; exact row_cellsO HON.out j u (by simpa using hj)) (by simp [Value.oneCell']) (by simp only [maxLen]; omega) (by omega) hw8 ?_
        intro v9 W9 hown hgrow
        obtain ⟨va9, vc9, rfl⟩ := row_slice hown
        have st9 : ∀ {k : Nat} {T : TypeId} {q : Array Value}, Own W8 k T q → (97 == T) = false → Own W9 k T q := fun h1 ht => (hgrow.block _ h1.lt (fun e => row_apart hk8 h1 ht e.symm)).trans h1
        have M9 := Lib.hid (st9 (HK.out.1.below HB8.out) (by decide))
        have B9 := Lib.hid (st9 (HBX6.out.below HB8.out) (by decide))
        have HSV : Hid (W9.cell? ⟨bx, 1, none⟩ = some (.slice a2 n2 c2)) := row_cellsO B9.out 1 _ rfl
        refine ⟨HSV.out, ?_⟩
        change wpAnyH _ _ _ _ _ _ _ { tmps := List.toArray (_ :: _ :: _ :: _ :: _ :: _ :: _ :: _ :: _ :: _ :: _ :: _ :: _ :: _ :: _ :: _ :: _ :: _ :: _ :: _ :: _ :: _ :: _ :: _ :: _ :: _ :: _ :: _ :: _ :: _ :: _ :: _ :: _ :: _ :: _ :: _ :: _ :: _ :: _ :: _ :: _ :: _ :: _ :: _ :: _ :: _ :: _ :: _ :: []), defers := [] } _
        refine dr_one 11 rfl rfl (by kernel_rfl) ?_
        refine wv_val (w' := W9) (v := .pointer (some ⟨pm, 0, none⟩)) (by unfold execOp; go_simp) ⟨HSV.out, ?_⟩
        change wpAnyH _ _ _ _ _ _ _ { tmps := List.toArray (_ :: _ :: _ :: _ :: _ :: _ :: _ :: _ :: _ :: _ :: _ :: _ :: _ :: _ :: _ :: _ :: _ :: _ :: _ :: _ :: _ :: _ :: _ :: _ :: _ :: _ :: _ :: _ :: _ :: _ :: _ :: _ :: _ :: _ :: _ :: _ :: _ :: _ :: _ :: _ :: _ :: _ :: _ :: _ :: _ :: _ :: _ :: _ :: []), defers := [] } _
        refine dr_one 12 rfl rfl (by kernel_rfl) ?_
        refine wv_val (w' := W9) (v := .pointer (some ⟨pm, 0, none⟩)) (by unfold execOp; go_simp) ⟨HSV.out, ?_⟩
        change wpAnyH _ _ _ _ _ _ _ { tmps := List.toArray (_ :: _ :: _ :: _ :: _ :: _ :: _ :: _ :: _ :: _ :: _ :: _ :: _ :: _ :: _ :: _ :: _ :: _ :: _ :: _ :: _ :: _ :: _ :: _ :: _ :: _ :: _ :: _ :: _ :: _ :: _ :: _ :: _ :: _ :: _ :: _ :: _ :: _ :: _ :: _ :: _ :: _ :: _ :: _ :: _ :: _ :: _ :: _ :: []), defers := [] } _
        refine dr_one 13 rfl rfl (by kernel_rfl) ?_
        refine wp_stC rfl rfl rfl (row_cellsO M9.out 0 (.slice ka t kc) rfl) (own_frozen M9.out 0) ⟨(World.cell?_setCell_far _ _ _ _ (by show pm ≠ bx; exact own_unlike M9.out B9.out (by decide))).trans HSV.out, ?_⟩
        refine wpAnyH_done (by kernel_rfl) ?_ _
        have HZ : Hid (NwI w ob #[.slice a1 n1 c1, .int .i64 sh, .int .i64 lk, .int .i64 bf, .slice (some ⟨g, q, none⟩) n5 c5] pm (t + 1) (W9.setCell ⟨pm, 0, none⟩ (.slice va9 (t + 1) vc9))) := by
          obtain ⟨k1, k2, k3, k4, k5, k6, k7, k8⟩ := HK.out
          have hcr := HCR.out
          rw [HG.out.2.1] at hcr hown
          exact NwI.step k1 k2 k3 k4 k5 k6 k7 k8 (by rw [HG.out.2.2.2.2]; exact HG.out.1) HB8.out hcr hown hgrow
        clear M9 B9 HSV hown hgrow st9 hk8
        generalize W9.setCell ⟨pm, 0, none⟩ (.slice va9 (t + 1) vc9) = W10 at HZ ⊢
        go_wp2_with fail
        go_roundg (n5 - (t + 1) + 1)
        case measure => have := HMM.out; have := HG.out.2.2.2.1; omega
        case rel => exact ⟨t + 1, by simp, by have := HG.out.2.2.2.1; omega, rfl, HZ.out⟩
end Go.Proofs.YtmpljhfinmfnbaaDoor

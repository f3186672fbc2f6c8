/- The lexer: a text as tokens: the contract of Scan. -/
import Derived.Test.YteedpojchapjgaaDoorScan
namespace Go.Proofs.YteedpojchapjgaaDoor
open Go.RowKit Go.Shelf
set_option linter.unusedVariables false
attribute [local go_sem] Oper.semAt_some

/-- What Scan says. -/
def scanPost (s : ByteArray) (n₀ : Nat) (W : World) (v : Value) : Prop :=
  if 65536 < s.size then v = .tuple #[.slice none 0 0, .int .i64 4, faultV 0 0]
  else if (frontR s).2.2 = 0 then ∃ u, v = .tuple #[u, .int .i64 0, faultV 0 0] ∧ W.ownsRow n₀ 38 4 u (frontR s).1.length (rowR (frontR s).1) ∧ (u = .slice none 0 0 ↔ (frontR s).1 = [])
  else v = .tuple #[.slice none 0 0, .int .i64 20, faultV (frontR s).2.1 (frontR s).2.2]
def FltBox (W : World) (B : Nat) : Prop := W.heap[B]? = some (.cells #[.int .i64 0, .int .i64 0] 27 (0, 0))
theorem scan_end {W : World} {D n₀ : Nat} (hfb : FltBox W n₀) (hK : W.heap[D]? = some (.deferred (some []))) (hD : n₀ < D) (a r : Int) :
    ((W.setCell ⟨n₀, 0, none⟩ (.int .i64 a)).setCell ⟨n₀, 1, none⟩ (.int .i64 r)).heap[D]? = some (.deferred (some [])) ∧
    (((W.setCell ⟨n₀, 0, none⟩ (.int .i64 a)).setCell ⟨n₀, 1, none⟩ (.int .i64 r)).putObj D (.deferred none)).heap[n₀]? = some (.cells #[.int .i64 a, .int .i64 r] 27 (0, 0)) ∧
    Keep (fun k o => k < n₀ ∨ IsTy 38 o) W (((W.setCell ⟨n₀, 0, none⟩ (.int .i64 a)).setCell ⟨n₀, 1, none⟩ (.int .i64 r)).putObj D (.deferred none)) := by
  have h1 := heap_setCell_same W n₀ 0 _ _ (.int .i64 a) hfb
  have h2 := heap_setCell_same _ n₀ 1 _ _ (.int .i64 r) h1
  have hd : ((W.setCell ⟨n₀, 0, none⟩ (.int .i64 a)).setCell ⟨n₀, 1, none⟩ (.int .i64 r)).heap[D]? = some (.deferred (some [])) :=
    (Below.heap_setCell _ _ _ _ (show D ≠ n₀ by omega)).trans ((Below.heap_setCell _ _ _ _ (show D ≠ n₀ by omega)).trans hK)
  refine ⟨hd, (World.putObj_heap_other (by omega)).trans h2, ?_⟩
  refine (((Keep.refl _ W).setCell (p := ⟨n₀, 0, none⟩) _ hfb ?_).setCell (p := ⟨n₀, 1, none⟩) _ h1 ?_).putObj _ hd ?_
  · rintro (h | h)
    · exact Nat.lt_irrefl _ h
    · exact not_ty (by decide) h
  · rintro (h | h)
    · exact Nat.lt_irrefl _ h
    · exact not_ty (by decide) h
  · rintro (h | ⟨_, _, h⟩)
    · omega
    · cases h
set_option maxRecDepth 100000 in
set_option maxHeartbeats 4000000 in
theorem scan_any (s : ByteArray) (w : World) (T : LTabs w) :
    Calls Tryd.prog 22 #[.string s] w fun e w' => (∃ v, e = .returned v ∧ scanPost s w.heap.size w' v) ∧ Below w.heap.size w w' := by
  by_cases hl : 65536 < s.size
  · go_enter Tryd.func22, Tryd.ntmps22
    have hl' : (65536 : Int) < (s.size : Int) := by omega
    go_wp2
    refine bodyPost_ret (v := .tuple #[.slice none 0 0, .int .i64 4, .agg #[.int .i64 0, .int .i64 0]]) (by simp [results, Tryd.results22, go_sem]) rfl ⟨⟨_, rfl, ?_⟩, (Below.refl _ w).alloc (Nat.le_refl _) _⟩
    unfold scanPost
    rw [if_pos hl]
    rfl
  · refine (callsIn_wide (n := 3)).1 ?_
    have hl' : ¬ (65536 : Int) < (s.size : Int) := by omega
    have HT := Lib.hid T
    clear T
    obtain ⟨i0, hi, hz0, hz1, hz2⟩ := info_parts infoTok
    refine callsIn_of_wp_marks Tryd.func22 rfl trivial ?_ rfl
    simp only [Tryd.ntmps22, List.size_toArray, List.length_cons, List.length_nil, Nat.reduceAdd, Nat.reduceSub, Array.replicate_succ, Array.replicate_zero, List.push_toArray, List.append_toArray, List.nil_append, List.cons_append]
    gi_wp2
    obtain ⟨W0, hW0⟩ : ∃ W0, W0 = (((w.alloc (Obj.cells #[Value.int IntKind.i64 0, Value.int IntKind.i64 0] 27)).alloc (Obj.cells #[Value.string s, Value.int IntKind.i64 0, Value.int IntKind.i64 0, Value.int IntKind.i64 0] 57)).alloc (Obj.cells #[Value.slice none 0 0] 24)) := ⟨_, rfl⟩
    rw [← hW0]
    have hz : W0.heap.size = w.heap.size + 3 := by rw [hW0]; simp
    have hB0 : Below w.heap.size w W0 := by rw [hW0]; exact (((Below.refl _ w).alloc (Nat.le_refl _) _).alloc (by simp) _).alloc (by simp; omega) _
    have hflt : FltBox W0 w.heap.size := by
      rw [hW0]
      exact ((Below.heap_alloc _ _ _ (by simp; omega)).trans ((Below.heap_alloc _ _ _ (by simp)).trans (World.alloc_heap_new w _)))
    have hsc : Sc W0 (w.heap.size + 1) s 0 0 0 := by
      rw [hW0]
      have h := World.alloc_heap_new (w.alloc (Obj.cells #[Value.int IntKind.i64 0, Value.int IntKind.i64 0] 27)) (Obj.cells #[Value.string s, Value.int IntKind.i64 0, Value.int IntKind.i64 0, Value.int IntKind.i64 0] 57)
      rw [World.size_alloc] at h
      exact (Below.heap_alloc _ _ _ (by simp)).trans h
    have hbox : Boxed W0 (w.heap.size + 1 + 1) 24 (.slice none 0 0) := by
      rw [hW0]
      have h := World.alloc_heap_new ((w.alloc (Obj.cells #[Value.int IntKind.i64 0, Value.int IntKind.i64 0] 27)).alloc (Obj.cells #[Value.string s, Value.int IntKind.i64 0, Value.int IntKind.i64 0, Value.int IntKind.i64 0] 57)) (Obj.cells #[Value.slice none 0 0] 24)
      rw [World.size_alloc, World.size_alloc] at h
      exact h
    clear hW0
    have hI : ∀ (pre : List Res) (A B : World), (Lst w.heap.size (w.heap.size + 1 + 1) pre A ∧ FltBox A w.heap.size ∧ Below w.heap.size w A) → Keep (selC w.heap.size) A B → (Lst w.heap.size (w.heap.size + 1 + 1) pre B ∧ FltBox B w.heap.size ∧ Below w.heap.size w B) :=
      fun pre A B h hk => ⟨h.1.keepC hk, hk.block _ _ h.2.1 (.inr ⟨rfl, not_ty (by decide)⟩), h.2.2.trans (hk.below h.2.2.size (fun k _ hk => .inl hk))⟩
    refine wpIn_range_keep (n := 3) rfl (by omega) (gf := 40) (fst := #[.pointer (some ⟨w.heap.size + 1, 0, none⟩)]) (lb := #[]) rfl trivial (enters_of Tryd.func40 (by kernel_rfl) rfl)
      (encs := encR) (fun _ => rfl) (selO w.heap.size) (selY w.heap.size) (selC w.heap.size)
      (fun k o ho => .inr (fun ⟨_, _, e⟩ => by rw [e] at ho; cases ho))
      (fun k o hk ho => by
        rcases ho with ho | ⟨_, _, e⟩ | ⟨_, _, e⟩
        · omega
        · rw [e]; rfl
        · rw [e]; rfl)
      (fun k o hk ho => by
        rcases ho with ho | ho
        · omega
        · exact ho.1)
      (fun k o ho => by
        rcases ho with ho | ho
        · exact .inl ho
        · exact .inr ho.2)
      (S := fun xs W => xs = (frontR s).1 ∧ ∃ p : Nat, Sc W (w.heap.size + 1) s p (frontR s).2.1 (frontR s).2.2) (Sp := fun _ _ => True) (ok := okR s)
      (fun l J Jx W hbW hJ hJx hYl hJ0 => tokens_in 2 l (w.heap.size + 1) s (by omega) w HT.out J Jx hJ hJx hYl W (hB0.trans (hbW.mono (by omega))) (by omega) (hsc.below hbW (by omega)) hJ0)
      (fun pre W => Lst w.heap.size (w.heap.size + 1 + 1) pre W ∧ FltBox W w.heap.size ∧ Below w.heap.size w W)
      (fun _ _ _ => False)
      hI
      (fun _ _ _ _ h _ => h)
      ⟨⟨_, hbox, World.ownsRow_nil _ _ _ _, by simp⟩, hflt, hB0⟩
      (fun x a' W => ∃ Bx, TokBox W Bx x ∧ a' = { tmps := #[Value.string s, undef, Value.slice none 0 0, Value.int IntKind.i64 0, Value.pointer (some { block := w.heap.size, off := 0 }), Value.pointer (some { block := w.heap.size + 1, off := 0 }), Value.pointer (some { block := w.heap.size + 1 + 1, off := 0 }), Value.pointer (some { block := Bx, off := 0 }), Value.string s, Value.int IntKind.i64 ↑s.size, Value.bool false, undef, Value.string s, Value.agg #[Value.string s, Value.int IntKind.i64 0, Value.int IntKind.i64 0, Value.int IntKind.i64 0], Value.func (Fn.func 40) #[Value.pointer (some { block := w.heap.size + 1, off := 0 })] #[], tokV x.kind x.text x.wd x.place, undef, undef, undef, undef, undef, undef, undef, undef, undef, undef, undef, undef], defers := [] })
      (fun x a' A B h hk => by
        obtain ⟨Bx, h1, h2⟩ := h
        exact ⟨Bx, hk.block _ _ h1 (.inr ⟨rfl, not_ty (by decide)⟩), h2⟩)
      ?assign ?body ?done ?stop
    case assign =>
      rintro l pre x W K hi hK
      have HI := Lib.hid hi
      have HK := Lib.hid hK
      obtain ⟨rk, rx, rw0, rp, ra, rr⟩ := x
      clear hi hK
      simp only [encR, tokV]
      gi_wp2
      exact HK.out _ _ ((Keep.refl _ W).alloc _) (hI _ _ _ HI.out ((Keep.refl _ W).alloc _)) ⟨W.heap.size, World.alloc_heap_new W _, rfl⟩
    case body =>
      rintro l pre x a' W ⟨⟨v, hv, hrow, hnil⟩, hfb, hB⟩ ⟨Bx, hbx, rfl⟩ hok
      have hlen := okR_len hok (by omega)
      obtain ⟨rk, rx, rw0, rp, ra, rr⟩ := x
      obtain ⟨⟨t0, t1, t2, t3⟩, _⟩ := row4 hbx
      have hc := hv.cell
      have HB := Lib.hid hB
      have hBs : w.heap.size ≤ W.heap.size := hB.size
      have HF := Lib.hid hfb
      have HBX := Lib.hid hbx
      clear hB hfb hbx
      simp only [tokV]
      gi_wp2_with (gi_at_builtin; refine wpListIn_append_own _ rfl _ _ 24 rfl w.heap.size 38 i0 _ 4 40 Tryd.underlying24 hi hz0 hz1 hz2 rfl (by decide) _ _ _ rfl (hrow.alloc _) ⟨W.heap.size, 0, none⟩ 1 1 [.int .u8 rk, .string rx, .int .i64 rw0, .int .i64 rp] rfl rfl (fun j u hj => cell_four (World.alloc_heap_new W _) j u hj) (by simp [Value.oneCell']) (by simp only [maxLen]; omega) (by omega) (by simp; omega) ?_; intro v' w1 hown' hgrow _; obtain ⟨g', cap', rfl⟩ := ownsRow_succ hown'; obtain ⟨hv1, hv2, hr2, _, hb2⟩ := hv.appended (by decide) hrow hBs (by omega) hown' hgrow; have hc1 := hv1.cell; have hf1 := hv1.frozen)
      refine ⟨appended_keep (sel := selB w.heap.size) hrow hgrow hv1 (fun g cs hg => notB hg (by decide) (by decide)) (fun cs => notB (by omega) (by decide) (by decide)), ⟨_, hv2, ?_, ?_⟩, ?_, HB.out.trans hb2⟩
      · rw [rowR_snoc, List.length_append]; exact hr2
      · simp
      · exact (appended_keep (sel := fun k o => IsTy 27 o) hrow hgrow hv1 (fun _ _ _ => not_ty (by decide)) (fun _ => not_ty (by decide))).block _ _ HF.out ⟨_, _, rfl⟩
    case done =>
      rintro D xs W1 W hD ⟨rfl, p, hsc1⟩ ⟨⟨v, hv, hrow, hnil⟩, hfb, hB⟩ hk hK
      have hscW : Sc W (w.heap.size + 1) s p (frontR s).2.1 (frontR s).2.2 := hsc1.keep hk (.inr rfl)
      obtain ⟨⟨c0, c1, c2, c3⟩, f1, f2, f3⟩ := hscW.cells
      obtain ⟨⟨b0, b1⟩, b2, b3⟩ := row2 hfb
      have hc := hv.cell
      have hbs := hB.size
      obtain ⟨R, hR⟩ : ∃ R, Hid (R = frontR s) := ⟨_, rfl⟩
      rw [← hR.out] at c2 c3 hrow hnil
      obtain ⟨rxs, ra, rr⟩ := R
      have HFB := Lib.hid hfb
      have HK := Lib.hid hK
      have HBB := Lib.hid hB
      have HR := Lib.hid hrow
      have HN := Lib.hid hnil
      clear hfb hK hB hrow hnil hk hsc1 hscW hv
      by_cases hrr : rr = 0
      · subst hrr
        gi_wp2
        obtain ⟨k1, k2, k3⟩ := scan_end HFB.out HK.out (by omega) 0 0
        refine ⟨by simp, .inl ⟨_, _, rfl, run_takeDeferred k1, ?_⟩⟩
        obtain ⟨⟨z0, z1⟩, _⟩ := row2 k2
        refine ⟨.tuple #[v, .int .i64 0, .agg #[.int .i64 0, .int .i64 0]], by simp [results, Tryd.results22, go_sem, z0, z1], ⟨_, rfl, ?_⟩, HBB.out.trans (k3.below HBB.out.size (fun k _ hk => .inl hk))⟩
        unfold scanPost
        rw [if_neg hl, ← hR.out, if_pos rfl]
        exact ⟨v, rfl, ownsRow_keep HR.out k3 (fun g cs _ => .inr ⟨_, _, rfl⟩), HN.out⟩
      · have hne : (rr != 0) = true := by simpa using hrr
        gi_wp2
        gi_region
        gi_wp2
        obtain ⟨k1, k2, k3⟩ := scan_end HFB.out HK.out (by omega) ra rr
        obtain ⟨⟨z0, z1⟩, _⟩ := row2 k2
        have k4 : Keep (fun k o => k < w.heap.size ∨ IsTy 38 o) W ((((W.setCell ⟨w.heap.size, 0, none⟩ (.int .i64 ra)).setCell ⟨w.heap.size, 1, none⟩ (.int .i64 rr)).drew).putObj D (.deferred none)) := ⟨k3.os, k3.tape, k3.output, k3.size, k3.block⟩
        have y0 : ((((W.setCell ⟨w.heap.size, 0, none⟩ (.int .i64 ra)).setCell ⟨w.heap.size, 1, none⟩ (.int .i64 rr)).drew).putObj D (.deferred none)).cell? ⟨w.heap.size, 0, none⟩ = some (.int .i64 ra) := z0
        have y1 : ((((W.setCell ⟨w.heap.size, 0, none⟩ (.int .i64 ra)).setCell ⟨w.heap.size, 1, none⟩ (.int .i64 rr)).drew).putObj D (.deferred none)).cell? ⟨w.heap.size, 1, none⟩ = some (.int .i64 rr) := z1
        refine ⟨by simp, .inl ⟨_, _, rfl, run_takeDeferred (show ((W.setCell ⟨w.heap.size, 0, none⟩ (.int .i64 ra)).setCell ⟨w.heap.size, 1, none⟩ (.int .i64 rr)).drew.heap[D]? = _ from k1), ?_⟩⟩
        refine ⟨.tuple #[.slice none 0 0, .int .i64 20, .agg #[.int .i64 ra, .int .i64 rr]], by simp [results, Tryd.results22, go_sem, y0, y1], ⟨_, rfl, ?_⟩, HBB.out.trans (k4.below HBB.out.size (fun k _ hk => .inl hk))⟩
        unfold scanPost
        rw [if_neg hl, ← hR.out, if_neg hrr]
        rfl
    case stop =>
      rintro D c pre W1 W _ _ h _ _
      exact h.elim
end Go.Proofs.YteedpojchapjgaaDoor

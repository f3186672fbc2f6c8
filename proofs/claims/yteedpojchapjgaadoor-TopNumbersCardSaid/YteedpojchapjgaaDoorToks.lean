/- The lexer's laws: a list of tokens among the arguments. -/
import Derived.Test.YteedpojchapjgaaDoorSame2
import Derived.Test.YteedpojchapjgaaDoorWOwn2
import Derived.ChangeArms
import Derived.SizedLaws
import Derived.Carry
import Derived.ChangeSame
import Derived.WideShapes
namespace Go.Proofs.YteedpojchapjgaaDoor
open Go.RowKit Go.ChangeShapes Go.WideShapes
set_option linter.unusedVariables false

theorem cellsTok : Tryd.prog.cellsOf 38 = 4 := by kernel_rfl
theorem bytesTok : Tryd.prog.bytesOf 38 = 40 := by kernel_rfl
theorem structTok : ∃ f0 f1 f2 f3 : Field, Tryd.prog.underlying 38 = some (.struct #[f0, f1, f2, f3]) ∧ f0.offset = 0 ∧ f1.offset = 1 ∧ f2.offset = 2 ∧ f3.offset = 3 ∧
    Tryd.prog.cellsOf f0.type = 1 ∧ Tryd.prog.cellsOf f1.type = 1 ∧ Tryd.prog.cellsOf f2.type = 1 ∧ Tryd.prog.cellsOf f3.type = 1 ∧
    Tryd.prog.underlying f0.type = some (.int .u8) ∧ Tryd.prog.underlying f1.type = some .string ∧ Tryd.prog.underlying f2.type = some (.int .i64) ∧ Tryd.prog.underlying f3.type = some (.int .i64) :=
  ⟨_, _, _, _, Tryd.underlying38, rfl, rfl, rfl, rfl, by kernel_rfl, by kernel_rfl, by kernel_rfl, by kernel_rfl, by kernel_rfl, by kernel_rfl, by kernel_rfl, by kernel_rfl⟩
section
variable {H : Type} {enc : TypeId × Value → H} {W : World} {sp : Nat → Bool} {held : Bool}
set_option maxRecDepth 100000 in
/-- One token, read. -/
theorem open_token {n : Nat} {cs : List Value} {y : DataW H × List MemPlace} (h : DataW.trod enc Tryd.prog W 0 sp held n 38 cs = some y) :
    ∃ x : Res, cs = [.int .u8 x.kind, .string x.text, .int .i64 x.wd, .int .i64 x.place] ∧ ∃ parts, y.1 = .agg parts ∧ parts[1]? = some (.lit (.string x.text.data.toList)) := by
  obtain ⟨f0, f1, f2, f3, hs, o0, o1, o2, o3, c0, c1, c2, c3, u0, u1, u2, u3⟩ := structTok
  obtain ⟨ys, m, _, hyx, hl, hyl, hf⟩ := DataW.trod_struct hs h
  rw [cellsTok] at hl
  obtain ⟨v0, v1, v2, v3, rfl⟩ : ∃ v0 v1 v2 v3, cs = [v0, v1, v2, v3] := by
    have step : ∀ (l : List Value) (n : Nat), l.length = n + 1 → ∃ v r, l = v :: r ∧ r.length = n := fun l n h => by
      cases l with
      | nil => simp at h
      | cons v r => exact ⟨v, r, rfl, by simpa using h⟩
    obtain ⟨v0, r0, rfl, h0⟩ := step cs 3 hl
    obtain ⟨v1, r1, rfl, h1⟩ := step r0 2 h0
    obtain ⟨v2, r2, rfl, h2⟩ := step r1 1 h1
    obtain ⟨v3, r3, rfl, h3⟩ := step r2 0 h2
    have : r3 = [] := List.length_eq_zero_iff.1 h3
    subst this
    exact ⟨v0, v1, v2, v3, rfl⟩
  have hy : ∀ i, i < 4 → ∃ z, ys[i]? = some z := fun i hi => ⟨_, List.getElem?_eq_getElem (by rw [hyl]; simpa using hi)⟩
  obtain ⟨z0, e0⟩ := hy 0 (by decide)
  obtain ⟨z1, e1⟩ := hy 1 (by decide)
  obtain ⟨z2, e2⟩ := hy 2 (by decide)
  obtain ⟨z3, e3⟩ := hy 3 (by decide)
  have g0 := hf 0 f0 rfl
  have g1 := hf 1 f1 rfl
  have g2 := hf 2 f2 rfl
  have g3 := hf 3 f3 rfl
  rw [o0, c0, e0] at g0
  rw [o1, c1, e1] at g1
  rw [o2, c2, e2] at g2
  rw [o3, c3, e3] at g3
  obtain ⟨k, hk, _⟩ := DataW.trod_int u0 g0
  obtain ⟨x, hx, hx1, _⟩ := DataW.trod_string u1 g1
  obtain ⟨wd, hw, _⟩ := DataW.trod_int u2 g2
  obtain ⟨p, hp, _⟩ := DataW.trod_int u3 g3
  simp only [List.drop_zero, List.take_succ_cons, List.take_zero, List.drop_succ_cons, List.cons.injEq, and_true] at hk hx hw hp
  subst hk hx hw hp
  refine ⟨⟨k, x, wd, p, 0, 0⟩, rfl, ys.map (·.1), by rw [hyx], ?_⟩
  rw [List.getElem?_map, e1, hx1]; rfl
set_option maxRecDepth 100000 in
/-- A list of tokens, read. -/
theorem open_tokens {r : Reach} {b0 : Nat} {v : Value} {d : DataW H} {ps : List MemPlace} (hval : Value.okWide Tryd.prog W r b0 24 v) (hd : DataW.Trod enc Tryd.prog W 0 sp held 24 v d ps) :
    v = .slice none 0 0 ∨ ∃ (a : Addr) (cap : Nat) (xs : List Res) (elems spare : List (DataW H)), v = .slice (some a) xs.length cap ∧ TokRow W (.slice (some a) xs.length cap) xs ∧ d = .slice elems spare ∧ elems.length = xs.length ∧ ∀ x ∈ xs, ∃ e ∈ elems, ∃ parts, e = .agg parts ∧ parts[1]? = some (.lit (.string x.text.data.toList)) := by
  obtain ⟨a0, len0, cap0, rfl⟩ := okWide_slice Tryd.underlying24 hval
  obtain ⟨fuel, hf⟩ := hd
  rcases DataW.trod_slice Tryd.underlying24 hf with ⟨hcs, _⟩ | ⟨a, len, cap, elems, rest, n, _, hcs, hx, _, hle, hcap, hlen, hel, _⟩
  · left
    simpa [Value.cells] using hcs
  · right
    have hv : Value.slice a0 len0 cap0 = .slice (some a) len cap := by simpa [Value.cells] using hcs
    rw [hv]
    have each : ∀ i, i < len → ∃ x : Res, (∃ g off, a = ⟨g, off, none⟩ ∧ W.cell? ⟨g, off + i * 4, none⟩ = some (.int .u8 x.kind) ∧ W.cell? ⟨g, off + i * 4 + 1, none⟩ = some (.string x.text) ∧ W.cell? ⟨g, off + i * 4 + 2, none⟩ = some (.int .i64 x.wd) ∧ W.cell? ⟨g, off + i * 4 + 3, none⟩ = some (.int .i64 x.place)) ∧ ∃ e ∈ elems.map (·.1), ∃ parts, e = .agg parts ∧ parts[1]? = some (.lit (.string x.text.data.toList)) := by
      intro i hi
      have h1 := hel i hi
      rw [List.getElem?_eq_getElem (by omega), cellsTok, Option.bind_eq_some_iff] at h1
      obtain ⟨cs, h2, h3⟩ := h1
      obtain ⟨x, rfl, hxs⟩ := open_token h3
      have hxs2 : ∃ e ∈ elems.map (·.1), ∃ parts, e = .agg parts ∧ parts[1]? = some (.lit (.string x.text.data.toList)) := ⟨_, List.mem_map.2 ⟨_, List.getElem_mem (by omega : i < elems.length), rfl⟩, hxs⟩
      obtain ⟨_, _, hc⟩ := World.cells?_some h2
      have hadd : ∀ (g off n : Nat), (⟨g, off, none⟩ : Addr).add n = ⟨g, off + n, none⟩ := fun g off n => by
        by_cases h0 : n = 0
        · subst h0; rfl
        · simp [Addr.add, h0]
      have hspot : a.spot = none := by
        have h1 := hel 0 (by omega)
        rw [List.getElem?_eq_getElem (by omega), cellsTok, Option.bind_eq_some_iff] at h1
        obtain ⟨cs0, h20, h30⟩ := h1
        obtain ⟨_, rfl, _⟩ := open_token h30
        obtain ⟨_, _, hc⟩ := World.cells?_some h20
        have := World.cell?_spot (hc 0 (by decide))
        simpa [Addr.add] using this
      obtain ⟨g, off, spot⟩ := a
      simp only at hspot
      subst hspot
      refine ⟨x, ⟨g, off, rfl, ?_, ?_, ?_, ?_⟩, hxs2⟩
      · have := hc 0 (by decide); rw [hadd, hadd] at this; exact this
      · have := hc 1 (by decide); rw [hadd, hadd] at this; exact this
      · have := hc 2 (by decide); rw [hadd, hadd] at this; exact this
      · have := hc 3 (by decide); rw [hadd, hadd] at this; exact this
    obtain ⟨xs, hxl, hxs⟩ : ∃ xs : List Res, xs.length = len ∧ ∀ i x, xs[i]? = some x → (∃ g off, a = ⟨g, off, none⟩ ∧ W.cell? ⟨g, off + i * 4, none⟩ = some (.int .u8 x.kind) ∧ W.cell? ⟨g, off + i * 4 + 1, none⟩ = some (.string x.text) ∧ W.cell? ⟨g, off + i * 4 + 2, none⟩ = some (.int .i64 x.wd) ∧ W.cell? ⟨g, off + i * 4 + 3, none⟩ = some (.int .i64 x.place)) ∧ ∃ e ∈ elems.map (·.1), ∃ parts, e = .agg parts ∧ parts[1]? = some (.lit (.string x.text.data.toList)) := by
      refine ⟨(List.range len).map fun i => if h : i < len then (each i h).choose else ⟨0, ⟨#[]⟩, 0, 0, 0, 0⟩, by simp, fun i x hx => ?_⟩
      have hi : i < len := by have := (List.getElem?_eq_some_iff.1 hx).1; simpa using this
      rw [List.getElem?_map, List.getElem?_range hi] at hx
      simp only [Option.map_some, Option.some.injEq] at hx
      rw [dif_pos hi] at hx
      rw [← hx]
      exact (each i hi).choose_spec
    refine ⟨a, cap, xs, elems.map (·.1), rest.map (·.1), by rw [hxl], ⟨some a, cap, rfl, fun i x hx => ?_⟩, (Prod.mk.inj hx).1, by simp; omega, fun x hx => ?_⟩
    · obtain ⟨⟨g, off, ha, q⟩, _⟩ := hxs i x hx
      exact ⟨g, off, by rw [ha], q⟩
    · obtain ⟨i, hi⟩ := List.getElem?_of_mem hx
      exact (hxs i x hi).2
end
theorem weightsAll_in {H : Type} {P : Program} {e : TypeId} : ∀ {l : List (DataW H)} {d : DataW H}, d ∈ l → ∀ n ∈ d.weights P e, n ∈ DataW.weightsAll P e l
  | d' :: r, d, hd, n, hn => by
    simp only [DataW.weightsAll, List.mem_append]
    rcases List.mem_cons.1 hd with rfl | h
    · exact Or.inl hn
    · exact Or.inr (weightsAll_in h n hn)
/-- The texts of a list of tokens are within the form's own reach. -/
theorem toks_sized {H : Type} {ts : List TypeId} {ds : List (DataW H)} (h : (DataW.weightsEach Tryd.prog ts ds).all (· ≤ reachBytes) = true) {j : Nat} {elems spare : List (DataW H)} (ht : ts[j]? = some 24) (hd : ds[j]? = some (.slice elems spare)) {xs : List Res}
    (hx : ∀ x ∈ xs, ∃ e ∈ elems, ∃ parts, e = .agg parts ∧ parts[1]? = some (.lit (.string x.text.data.toList))) : ∀ x ∈ xs, x.text.size ≤ 4611686018427387904 := by
  intro x hm
  obtain ⟨e, he, parts, rfl, hp⟩ := hx x hm
  obtain ⟨f0, f1, f2, f3, hs, _⟩ := structTok
  have hin : x.text.data.toList.length ∈ DataW.weightsEach Tryd.prog ts ds := by
    refine DataW.weights_mem_each ht hd _ ?_
    simp only [DataW.weights, Tryd.underlying24, List.mem_cons, List.mem_append]
    refine Or.inr (Or.inl (weightsAll_in he _ ?_))
    simp only [DataW.weights, hs]
    exact DataW.weights_mem_each (j := 1) (t := f1.type) rfl hp _ (by simp [DataW.weights])
  have hle := List.all_eq_true.1 h _ hin
  have hz : x.text.data.toList.length = x.text.size := by simp
  rw [hz] at hle
  have : x.text.size ≤ reachBytes := of_decide_eq_true hle
  exact Nat.le_trans this (by decide)
/-- A list of tokens among the arguments. -/
def TokArg (W : World) (v : Value) : Prop := v = .slice none 0 0 ∨ ∃ (a : Addr) (cap : Nat) (xs : List Res), v = .slice (some a) xs.length cap ∧ TokRow W (.slice (some a) xs.length cap) xs ∧ (∀ x ∈ xs, x.text.size ≤ 4611686018427387904) ∧ xs.length ≤ 3518437208883
theorem laidOut : laidOutB Tryd.prog = true := by kernel_rfl
set_option maxRecDepth 100000 in
theorem tokArg_of {H : Type} {enc : TypeId × Value → H} {W : World} {sp : Nat → Bool} {held : Bool} {r : Reach} {b0 : Nat} {v : Value} {d : DataW H} {ps : List MemPlace} {ts : List TypeId} {ds : List (DataW H)} (h : (DataW.weightsEach Tryd.prog ts ds).all (· ≤ reachBytes) = true)
    (hval : Value.okWide Tryd.prog W r b0 24 v) (hd : DataW.Trod enc Tryd.prog W 0 sp held 24 v d ps) {j : Nat} (ht : ts[j]? = some 24) (hj : ds[j]? = some d) : TokArg W v := by
  rcases open_tokens hval hd with rfl | ⟨a, cap, xs, elems, spare, rfl, tu, rfl, hel, hin⟩
  · exact .inl rfl
  · refine .inr ⟨a, cap, xs, rfl, tu, toks_sized h ht hj hin, ?_⟩
    have hs := sized_slice h ht hj Tryd.underlying24
    rw [bytesTok, hel] at hs
    have hr : reachBytes = 140737488351232 := rfl
    omega
/-- The last step of a law that reads memory through its arguments and answers true. -/
theorem law_post_at {H : Type} {enc : TypeId × Value → H} {P : Program} {f : Func} {s : ChangeSpec} {W W' : World} {args : Array Value} {tb : TypeId} {ds : List (DataW H)} {ps : List MemPlace}
    (hW : DataW.Whole enc P f.params.toList s.vars false W args.toList ds [] ps) (hres : f.resultTypes = #[tb]) (hb : P.underlying tb = some .bool)
    (hvars : s.vars = []) (hfn : (s.fn H (ds ++ [])).results = [.lit (.bool true)]) (hfa : (s.fn H (ds ++ [])).args = ds) (hfv : (s.fn H (ds ++ [])).vars = [])
    (hargs : ∀ sp : Nat → Bool, (∀ p ∈ ps, sp p.block = true) → DataW.TrodAll enc P W' 0 sp true f.params.toList args.toList ds ps)
    (hk : Below W.heap.size W W') : s.post enc P f false true false false W args (.bool true) W' := by
  have hr : ∀ (b : Nat) (sp : Nat → Bool) (hd : Bool), DataW.TrodAll enc P W' b sp hd f.resultTypes.toList ((Value.bool true).resultList f.resultTypes.size) (s.fn H (ds ++ [])).results [] := fun b sp hd => by
    rw [hfn, hres]
    exact trodAll_mk1 (shut_bool hb _)
  have ha : ∀ sp : Nat → Bool, (∀ p ∈ ps, sp p.block = true) → DataW.TrodAll enc P W' 0 sp true f.params.toList args.toList (s.fn H (ds ++ [])).args ps := fun sp hsp => by
    rw [hfa]; exact hargs sp hsp
  have hv : ∀ sp : Nat → Bool, DataW.TrodVars enc P W' sp s.vars (s.fn H (ds ++ [])).vars [] := fun sp => by
    rw [hvars, hfv]; rfl
  have hold : ∀ p ∈ ps, (fun b => decide (b < W.heap.size)) p.block = true := fun p hp => by simpa using hW.lt p hp
  have hW2 := hW
  obtain ⟨_, _, _, _, _, hz, hn⟩ := hW2
  refine ⟨ds, [], ps, [], ps, [], hW, hr _ _ _, ha _ hold, hv _, World.keptBut_mono (fun p hp => ⟨hp, Or.inr (Or.inl hp)⟩) (hk.frame (· ∈ ps)), fun _ => ?_⟩
  refine ⟨ok_one hres rfl (okWide_bool_mk hb _), _, _, ([] ++ ps) ++ [], ⟨[] ++ ps, [], trodAll_append (ha _ (fun _ _ => rfl)) (hr _ _ _), hv _, rfl, ?_, ?_⟩, ?_⟩
  · intro b off hp
    have hp' : MemPlace.cell b off ∈ ps := by simpa using hp
    rw [hk.frozen (p := ⟨b, off, none⟩) (hW.lt _ hp')]
    exact hz b off hp'
  · intro hx; cases hx
  · intro p hp _
    simpa using hp
end Go.Proofs.YteedpojchapjgaaDoor

/- Target's text reader: what it has read lies in memory. -/
import Derived.Test.YtgmcfinjlddgbaaGreatDoorTp0
namespace Go.Proofs.YtgmcfinjlddgbaaGreatDoor
open Go.RowKit
set_option linter.unusedVariables false
set_option maxRecDepth 100000
theorem row_at {W : World} {base : Nat} {T : TypeId} {n : Nat} {v : Value} {k : Nat} {xs : List Value} (h : W.ownsRow base T n v k xs) (hk : 0 < k) : ∃ g cap, v = .slice (some ⟨g, 0, none⟩) k cap ∧ base ≤ g ∧ ∀ (j : Nat) (u : Value), xs[j]? = some u → W.cell? ⟨g, j, none⟩ = some u := by
  rcases h.2 with ⟨hv, h0⟩ | ⟨g, cap, cur, hv, h1, h2, h3, h4, h5, h6⟩
  · omega
  · refine ⟨g, cap, hv, h1, fun j u hj => ?_⟩
    rw [← h6] at hj
    rw [List.getElem?_take] at hj
    split at hj
    · simp only [World.cell?, h2]
      simpa using hj
    · cases hj
theorem row_set {W : World} {base : Nat} {T : TypeId} {n g cap : Nat} {k : Nat} {xs : List Value} (h : W.ownsRow base T n (.slice (some ⟨g, 0, none⟩) k cap) k xs) (j : Nat) (u : Value) : (W.setCell ⟨g, j, none⟩ u).ownsRow base T n (.slice (some ⟨g, 0, none⟩) k cap) k (xs.set j u) := by
  rcases h.2 with ⟨hv, h0⟩ | ⟨g', cap', cur, hv, h1, h2, h3, h4, h5, h6⟩
  · cases hv
  · obtain ⟨rfl, rfl⟩ : g = g' ∧ cap = cap' := by injection hv with e1 _ e2; injection e1 with e1; injection e1 with e1; exact ⟨e1, e2⟩
    refine ⟨by rw [List.length_set]; exact h.1, .inr ⟨g, cap, cur.setIfInBounds j u, rfl, h1, heap_setCell_same W g j _ _ u h2, h3, h4, by rw [Array.size_setIfInBounds]; exact h5, ?_⟩⟩
    rw [Array.toList_setIfInBounds, List.take_set, h6]
theorem row_mono {W : World} {base base' : Nat} {T : TypeId} {n : Nat} {v : Value} {k : Nat} {xs : List Value} (h : W.ownsRow base T n v k xs) (hb : base' ≤ base) : W.ownsRow base' T n v k xs := by
  obtain ⟨h1, h2⟩ := h
  refine ⟨h1, ?_⟩
  rcases h2 with h2 | ⟨g, cap, cur, e, hg, rest⟩
  · exact .inl h2
  · exact .inr ⟨g, cap, cur, e, Nat.le_trans hb hg, rest⟩
theorem kept_use {w w' : World} {B : Nat} {E : TypeId} {k : Nat} {v : Value} {n : Nat} {xs : List Value} {most : Int} {news : List Value} {e : Ending} (hown : w.ownsRow B E k v n xs) (h : KeptP w B E k v n xs most news e w') : ∃ v', e = .returned v' ∧ w.grownBy w' v.ownBlock ∧ w'.ownsRow B E k v' (if most < (n : Int) then n else n + 1) (if most < (n : Int) then xs else xs ++ news) := by
  unfold KeptP at h
  split at h
  · next hm =>
    obtain ⟨rfl, hb⟩ := h
    refine ⟨v, rfl, ⟨hb.os, hb.tape, hb.output, hb.size, fun j hj _ => hb.block j hj⟩, ?_⟩
    rw [if_pos hm, if_pos hm]
    exact row_below hown hb
  · next hm =>
    obtain ⟨v', w1, rfl, hb, hg, hr⟩ := h
    refine ⟨v', rfl, ⟨hg.os.trans hb.os, hg.tape.trans hb.tape, hg.output.trans hb.output, Nat.le_trans hb.size hg.size, fun j hj hne => (hg.block j (Nat.lt_of_lt_of_le hj hb.size) hne).trans (hb.block j hj)⟩, ?_⟩
    rw [if_neg hm, if_neg hm]
    exact hr
theorem keep_len2 {α : Type} (l : List α) (x : α) (n : Nat) : (keepL l x n).length = if (n : Int) < (l.length : Int) then l.length else l.length + 1 := by
  unfold keepL
  by_cases h : n < l.length
  · rw [if_pos h, if_pos (by omega)]
  · rw [if_neg h, if_neg (by omega), List.length_append]; rfl
theorem keep_mem (l : List Int) (x : Int) (n : Nat) : (keepL l x n).map (fun x => Value.int .i64 x) = if (n : Int) < (l.length : Int) then l.map (fun x => Value.int .i64 x) else l.map (fun x => Value.int .i64 x) ++ [.int .i64 x] := by
  unfold keepL
  by_cases h : n < l.length
  · rw [if_pos h, if_pos (by omega)]
  · rw [if_neg h, if_neg (by omega), List.map_append]; rfl
theorem keep_ins (l : List Ins) (i : Ins) (n : Nat) : flatI (keepL l i n) = if (n : Int) < (l.length : Int) then flatI l else flatI l ++ insC i := by
  unfold keepL
  by_cases h : n < l.length
  · rw [if_pos h, if_pos (by omega)]
  · rw [if_neg h, if_neg (by omega), flatI_app]; simp [flatI]
theorem row_lt {W : World} {base : Nat} {T : TypeId} {n : Nat} {v : Value} {k : Nat} {xs : List Value} (h : W.ownsRow base T n v k xs) {b : Nat} (hb : v.ownBlock = some b) : base ≤ b ∧ b < W.heap.size := by
  rcases h.2 with ⟨hv, h0⟩ | ⟨g, cap, cur, hv, h1, h2, h3⟩
  · rw [hv] at hb; simp [Value.ownBlock] at hb
  · rw [hv] at hb
    obtain rfl : g = b := by simpa [Value.ownBlock] using hb
    exact ⟨h1, (Array.getElem?_eq_some_iff.1 h2).1⟩
section
variable {W W' : World} {B g : Nat} {o : Ob} {v1 v5 : Value} {L : List (Cor × Value)}
/-- The cores' list has grown, or not, and is stored. -/
theorem RdS.setCores (h : RdS B g o v1 v5 L W) {v5' : Value} (nm : ByteArray) (hB : B ≤ W.heap.size) (hg : W.grownBy W' v5.ownBlock) (hr : W'.ownsRow B 64 2 v5' (if (8 : Int) < (L.length : Int) then L.length else L.length + 1) (if (8 : Int) < (L.length : Int) then flatC L else flatC L ++ [.string nm, .slice none 0 0])) :
    ∃ L', RdS B g { o with cores := keepL o.cores ⟨nm, []⟩ 8 } v1 v5' L' (W'.setCell ⟨g, 4, none⟩ v5') := by
  have e0 : Own W' g 114 #[v1, .int .i64 o.sh, .int .i64 o.lk, .int .i64 o.bf, v5] := (hg.block g h.own.lt (fun e => row_apart h.cors h.own rfl e.symm)).trans h.own
  have hk : Keep (fun k _ => k ≠ g) W' (W'.setCell ⟨g, 4, none⟩ v5') := (Keep.refl _ _).setCell (p := ⟨g, 4, none⟩) v5' e0 (fun q => q rfl)
  have hm : W'.ownsRow B 2 1 v1 o.mem.length (o.mem.map fun x => .int .i64 x) := row_stays h.mem fun b _ hb hlt => hg.block b hlt (fun e => row_apart2 h.cors h.mem rfl b hb e.symm)
  have hrow : ∀ {base : Nat} {x : Cor × Value}, W.ownsRow base 25 9 x.2 x.1.code.length (flatI x.1.code) → W'.ownsRow base 25 9 x.2 x.1.code.length (flatI x.1.code) := fun hx => row_stays hx fun b _ hb hlt => hg.block b hlt (fun e => row_apart2 h.cors hx rfl b hb e.symm)
  have hlen : o.cores.length = L.length := by rw [← h.fst, List.length_map]
  have hown := heap_setCell_same W' g 4 _ _ v5' e0
  have hm2 := row_keep hm (row_apart hm e0 rfl) hk
  by_cases hl : 8 < L.length
  · rw [if_pos (by omega), if_pos (by omega)] at hr
    refine ⟨L, hown, hm2, ?_, row_keep hr (row_apart hr e0 rfl) hk, ?_⟩
    · show _ = keepL _ _ _
      unfold keepL
      rw [if_pos (by omega)]
      exact h.fst
    · refine RdL.keep ⟨fun x hx => hrow (h.codes.rows x hx), fun L' x e => ?_⟩ e0 rfl hk
      obtain ⟨bl, k1, k2, k3, k4⟩ := h.codes.last L' x e
      exact ⟨bl, k1, Nat.le_trans k2 hg.size, hrow k3, k4⟩
  · rw [if_neg (by omega), if_neg (by omega)] at hr
    refine ⟨L ++ [(⟨nm, []⟩, .slice none 0 0)], hown, hm2, ?_, ?_, ?_⟩
    · show _ = keepL _ _ _
      unfold keepL
      rw [if_neg (by omega), List.map_append, h.fst]
      rfl
    · rw [List.length_append, flatC_app]
      exact row_keep hr (row_apart hr e0 rfl) hk
    · refine RdL.keep ⟨fun x hx => ?_, fun L' x e => ?_⟩ e0 rfl hk
      · rcases List.mem_append.1 hx with hx | hx
        · exact hrow (h.codes.rows x hx)
        · obtain rfl : x = (⟨nm, []⟩, .slice none 0 0) := by simpa using hx
          exact World.ownsRow_nil _ _ _ _
      · obtain ⟨rfl, rfl⟩ : L = L' ∧ (⟨nm, []⟩, .slice none 0 0) = x := by
          have := List.append_inj' e rfl
          exact ⟨this.1, by simpa using this.2⟩
        refine ⟨W'.heap.size, Nat.le_trans hB hg.size, Nat.le_refl _, World.ownsRow_nil _ _ _ _, fun y hy b hb => ?_⟩
        exact Nat.lt_of_lt_of_le (row_lt (h.codes.rows y hy) hb).2 hg.size
theorem flatC_last (L0 : List (Cor × Value)) (c c' : Cor) (v v' : Value) (hn : c'.name = c.name) : (flatC (L0 ++ [(c, v)])).set (L0.length * 2 + 1) v' = flatC (L0 ++ [(c', v')]) := by
  rw [flatC_app, flatC_app, List.set_append_right _ _ (by rw [flatC_len]; omega), flatC_len]
  have : L0.length * 2 + 1 - L0.length * 2 = 1 := by omega
  rw [this]
  simp [flatC, hn]
/-- The last core's code has grown, or not, and is stored. -/
theorem RdS.setCode (h : RdS B g o v1 v5 L W) {L0 : List (Cor × Value)} {c : Cor} {v v' : Value} (hL : L = L0 ++ [(c, v)]) {bl : Nat} (hB : B ≤ bl) (hbl : bl ≤ W.heap.size) (hlt : ∀ y ∈ L0, ∀ b, y.2.ownBlock = some b → b < bl) (hv : W.ownsRow bl 25 9 v c.code.length (flatI c.code)) (i : Ins) (hg : W.grownBy W' v.ownBlock) {gb cap : Nat} (h5 : v5 = .slice (some ⟨gb, 0, none⟩) L.length cap)
    (hr : W'.ownsRow bl 25 9 v' (if (16384 : Int) < (c.code.length : Int) then c.code.length else c.code.length + 1) (if (16384 : Int) < (c.code.length : Int) then flatI c.code else flatI c.code ++ insC i)) :
    RdS B g { o with cores := pushI o.cores i } v1 v5 (L0 ++ [(⟨c.name, keepL c.code i 16384⟩, v')]) (W'.setCell ⟨gb, L0.length * 2 + 1, none⟩ v') := by
  have e0 : Own W' g 114 #[v1, .int .i64 o.sh, .int .i64 o.lk, .int .i64 o.bf, v5] := (hg.block g h.own.lt (fun e => row_apart hv h.own rfl e.symm)).trans h.own
  have hm : W'.ownsRow B 2 1 v1 o.mem.length (o.mem.map fun x => .int .i64 x) := row_stays h.mem fun b _ hb hl => hg.block b hl (fun e => row_apart2 hv h.mem rfl b hb e.symm)
  have hc : W'.ownsRow B 64 2 v5 L.length (flatC L) := row_stays h.cors fun b _ hb hl => hg.block b hl (fun e => row_apart2 hv h.cors rfl b hb e.symm)
  have hrow : ∀ y ∈ L0, W'.ownsRow B 25 9 y.2 y.1.code.length (flatI y.1.code) := fun y hy => row_stays (h.codes.rows y (by rw [hL]; exact List.mem_append_left _ hy)) fun b _ hb hl => hg.block b hl (fun e => by
    have h1 := hlt y hy b hb
    have h2 := (row_lt hv e.symm).1
    omega)
  replace hr : W'.ownsRow bl 25 9 v' (keepL c.code i 16384).length (flatI (keepL c.code i 16384)) := by
    rw [keep_len2, keep_ins]
    exact hr
  subst h5
  -- the cores' block
  have hcb : ∃ cur, Own W' gb 64 cur := by
    rcases hc.2 with ⟨hv, h0⟩ | ⟨g', cap', cur, hv, h1, h2, _⟩
    · cases hv
    · obtain rfl : gb = g' := by injection hv with e1 _ e2; injection e1 with e1; injection e1 with e1
      exact ⟨cur, h2⟩
  obtain ⟨cur, hcur⟩ := hcb
  have hne : gb ≠ g := fun e => by
    subst e
    exact row_apart h.cors h.own rfl rfl
  have hk : Keep (fun k _ => k ≠ gb) W' (W'.setCell ⟨gb, L0.length * 2 + 1, none⟩ v') := (Keep.refl _ _).setCell (p := ⟨gb, L0.length * 2 + 1, none⟩) v' hcur (fun q => q rfl)
  have hset := row_set hc (L0.length * 2 + 1) v'
  have hlen : L.length = (L0 ++ [((⟨c.name, keepL c.code i 16384⟩ : Cor), v')]).length := by rw [hL]; simp
  refine ⟨hk.block _ _ e0 (fun e => hne e.symm), row_keep hm (row_apart hm hcur rfl) hk, ?_, ?_, ?_⟩
  · show _ = pushI o.cores i
    rw [← h.fst, hL, List.map_append, List.map_append]
    unfold pushI
    simp
  · rw [← hlen]
    rw [show (flatC L).set (L0.length * 2 + 1) v' = flatC (L0 ++ [((⟨c.name, keepL c.code i 16384⟩ : Cor), v')]) from by rw [hL]; exact flatC_last L0 c ⟨c.name, keepL c.code i 16384⟩ v v' rfl] at hset
    exact hset
  · refine RdL.keep ⟨fun x hx => ?_, fun L' x e => ?_⟩ hcur rfl hk
    · rcases List.mem_append.1 hx with hx | hx
      · exact hrow x hx
      · obtain rfl : x = (⟨c.name, keepL c.code i 16384⟩, v') := by simpa using hx
        exact row_mono hr hB
    · obtain ⟨rfl, rfl⟩ : L0 = L' ∧ (⟨c.name, keepL c.code i 16384⟩, v') = x := by
        have := List.append_inj' e rfl
        exact ⟨this.1, by simpa using this.2⟩
      exact ⟨bl, hB, Nat.le_trans hbl hg.size, hr, hlt⟩
end
theorem flatI_get : ∀ (l : List Ins) (j : Nat) (i : Ins), l[j]? = some i → ∀ (m : Nat) (v : Value), (insC i)[m]? = some v → (flatI l)[j * 9 + m]? = some v
  | [], j, i, h, _, _, _ => by simp at h
  | x :: l, 0, i, h, m, v, hv => by
    obtain rfl : x = i := by simpa using h
    simp only [flatI, List.flatMap_cons, Nat.zero_mul, Nat.zero_add]
    have hlt : m < (insC x).length := (List.getElem?_eq_some_iff.1 hv).1
    rw [List.getElem?_append_left hlt]
    exact hv
  | x :: l, j + 1, i, h, m, v, hv => by
    have h' := flatI_get l j i (by simpa using h) m v hv
    simp only [flatI, List.flatMap_cons] at h' ⊢
    have h9 : (insC x).length = 9 := rfl
    rw [List.getElem?_append_right (by rw [h9]; omega), h9]
    rw [show (j + 1) * 9 + m - 9 = j * 9 + m by omega]
    exact h'
theorem flatC_get : ∀ (L : List (Cor × Value)) (j : Nat) (x : Cor × Value), L[j]? = some x → (flatC L)[j * 2]? = some (.string x.1.name) ∧ (flatC L)[j * 2 + 1]? = some x.2
  | [], j, x, h => by simp at h
  | y :: L, 0, x, h => by
    obtain rfl : y = x := by simpa using h
    simp [flatC]
  | y :: L, j + 1, x, h => by
    have h' := flatC_get L j x (by simpa using h)
    simp only [flatC, List.flatMap_cons] at h' ⊢
    rw [List.getElem?_append_right (by simp; omega), List.getElem?_append_right (by simp; omega)]
    simp only [List.length_cons, List.length_nil]
    rw [show (j + 1) * 2 - (0 + 1 + 1) = j * 2 by omega, show (j + 1) * 2 + 1 - (0 + 1 + 1) = j * 2 + 1 by omega]
    exact h'
theorem row_ints {W : World} {base : Nat} {v : Value} {l : List Int} (h : W.ownsRow base 2 1 v l.length (l.map fun x => .int .i64 x)) : ∃ a c, v = .slice a l.length c ∧ intsAt W l a := by
  by_cases h0 : l = []
  · obtain ⟨a, c, e⟩ := row_slice h
    exact ⟨a, c, e, .inl h0⟩
  · obtain ⟨g, cap, e, _, h2⟩ := row_at h (List.length_pos_iff.2 h0)
    refine ⟨_, _, e, .inr ⟨g, 0, rfl, fun j x hj => ?_⟩⟩
    rw [Nat.zero_add]
    exact h2 j _ (by rw [List.getElem?_map, hj]; rfl)
theorem row_insAt {W : World} {base : Nat} {v : Value} {l : List Ins} (h : W.ownsRow base 25 9 v l.length (flatI l)) : ∃ a c, v = .slice a l.length c ∧ insAt W l a := by
  by_cases h0 : l = []
  · obtain ⟨a, c, e⟩ := row_slice h
    exact ⟨a, c, e, .inl h0⟩
  · obtain ⟨g, cap, e, _, h2⟩ := row_at h (List.length_pos_iff.2 h0)
    refine ⟨_, _, e, .inr ⟨g, 0, rfl, fun j i hj m u hu => ?_⟩⟩
    rw [Nat.zero_add]
    exact h2 _ _ (flatI_get l j i hj m u hu)
theorem RdS.obA {W : World} {B g : Nat} {o : Ob} {v1 v5 : Value} {L : List (Cor × Value)} (h : RdS B g o v1 v5 L W) : obA W o (.agg #[v1, .int .i64 o.sh, .int .i64 o.lk, .int .i64 o.bf, v5]) := by
  obtain ⟨a1, c1, rfl, h1⟩ := row_ints h.mem
  have hlen : o.cores.length = L.length := by rw [← h.fst, List.length_map]
  obtain ⟨a5, c5, rfl⟩ := row_slice h.cors
  refine ⟨a1, c1, a5, c5, by rw [obV, hlen], h1, ?_⟩
  by_cases h0 : L = []
  · left
    rw [← h.fst, h0]
    rfl
  · obtain ⟨gb, cap, e, _, h2⟩ := row_at h.cors (List.length_pos_iff.2 h0)
    right
    injection e with e1 e2 e3
    refine ⟨gb, 0, e1, fun j c hj => ?_⟩
    rw [← h.fst, List.getElem?_map] at hj
    obtain ⟨x, hx, rfl⟩ := Option.map_eq_some_iff.1 hj
    obtain ⟨f1, f2⟩ := flatC_get L j x hx
    obtain ⟨a2, c2, e4, h4⟩ := row_insAt (h.codes.rows x (List.mem_of_getElem? hx))
    rw [Nat.zero_add]
    exact ⟨h2 _ _ f1, a2, c2, by rw [h2 _ _ f2, e4], h4⟩
end Go.Proofs.YtgmcfinjlddgbaaGreatDoor

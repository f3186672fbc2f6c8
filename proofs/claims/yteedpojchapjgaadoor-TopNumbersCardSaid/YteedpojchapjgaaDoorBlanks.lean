/- The lexer over lists of bytes: blanks and a remark between tokens change nothing but places. -/
import Derived.Test.YteedpojchapjgaaDoorLex2
import Derived.Test.YteedpojchapjgaaDoorWScans
namespace Go.Proofs.YteedpojchapjgaaDoor
open Go.RowKit
set_option linter.unusedVariables false

def bare (x : Res) : Int × ByteArray × Int := (x.kind, x.text, x.wd)
theorem toks_bare {xs ys : List Res} (h : xs.map bare = ys.map bare) : EqToks false xs ys := by
  refine ⟨by simpa using congrArg List.length h, fun i x y hx hy => ?_⟩
  have e : (xs.map bare)[i]? = (ys.map bare)[i]? := by rw [h]
  rw [List.getElem?_map, List.getElem?_map, hx, hy] at e
  have e' : bare x = bare y := by simpa using e
  unfold bare at e'
  simp only [Prod.mk.injEq] at e'
  exact ⟨e'.1, e'.2.1, e'.2.2, fun h => by cases h⟩
theorem toRes_bare (q q' : Nat) (l : List UInt8) (x : Nx) : bare (toRes q l x) = bare (toRes q' l x) := by
  unfold toRes; split <;> rfl
/-- Where a text stands changes but its places. -/
theorem goL_bare : ∀ (f q q' : Nat) (l : List UInt8), (goL f q l).1.map bare = (goL f q' l).1.map bare ∧ (goL f q l).2.2 = (goL f q' l).2.2
  | 0, _, _, _ => ⟨rfl, rfl⟩
  | f + 1, q, q', l => by
    simp only [goL]
    split
    · exact ⟨rfl, rfl⟩
    · split
      · obtain ⟨h1, h2⟩ := goL_bare f (q + (nextL l).n + sk false (l.drop (nextL l).n)) (q' + (nextL l).n + sk false (l.drop (nextL l).n)) ((l.drop (nextL l).n).drop (sk false (l.drop (nextL l).n)))
        exact ⟨by simp only [List.map_cons]; rw [h1, toRes_bare q q'], h2⟩
      · exact ⟨rfl, rfl⟩
theorem goL_from : ∀ (f q : Nat) (l : List UInt8) (i : Nat) (x : Res), (goL f q l).1[i]? = some x → (q : Int) ≤ x.place
  | 0, _, _, i, x, h => by simp [goL] at h
  | f + 1, q, l, i, x, h => by
    simp only [goL] at h
    split at h
    · simp at h
    · split at h
      · rename_i hf
        cases i with
        | zero =>
          have e : toRes q l (nextL l) = x := by simpa using h
          rw [← e]; unfold toRes; rw [if_pos hf]
          exact Int.le_refl _
        | succ i =>
          have k := goL_from f _ _ i x (by simpa using h)
          omega
      · simp at h
theorem rest_from {e : Nat} {l : List UInt8} {i : Nat} {x : Res} (h : (restL e l).1[i]? = some x) : (e : Int) ≤ x.place := by
  have := goL_from _ _ _ _ _ h
  omega
/-- What is put between two tokens. -/
structure Gap (M : List UInt8) (B : List UInt8) : Prop where
  stop : stopH M = true
  pos : ¬ M = []
  shut : ¬ B = [] → sk false (M ++ B) = M.length + sk false B
  last : B = [] → ∀ b, sk b M = M.length
theorem stop_not47 {M : List UInt8} (h : stopH M = true) (hM : ¬ M = []) (B : List UInt8) : ¬ (M ++ B).head? = some 47 := by
  cases M with
  | nil => exact absurd rfl hM
  | cons c r =>
    simp only [List.cons_append, List.head?_cons]
    intro e
    have e : c = 47 := by simpa using e
    subst e
    exact absurd (show blankB ((47 : UInt8).toNat : Int) = true from h) (by decide)
theorem stop_app {M : List UInt8} (h : stopH M = true) (hM : ¬ M = []) (B : List UInt8) : stopH (M ++ B) = true := by
  cases M with
  | nil => exact absurd rfl hM
  | cons c r => exact h
theorem drop_app {p B : List UInt8} {n : Nat} (h : n ≤ p.length) : (p ++ B).drop n = p.drop n ++ B := List.drop_append_of_le_length h
theorem take_app {p B : List UInt8} {n : Nat} (h : n ≤ p.length) : (p ++ B).take n = p.take n := List.take_append_of_le_length h
theorem blanks_rest {M B : List UInt8} (G : Gap M B) : ∀ (k e e' : Nat) (p : List UInt8) (xs : List Res), restL e (p ++ B) = (xs, 0, 0) →
    (xs.length = k ∧ B = [] ∨ ¬ B = [] ∧ ∃ x, xs[k]? = some x ∧ x.place = ((e + p.length : Nat) : Int)) →
    ∃ ys, restL e' (p ++ (M ++ B)) = (ys, 0, 0) ∧ xs.map bare = ys.map bare
  | 0, e, e', p, xs, h, hk => by
    rcases hk with ⟨hk, rfl⟩ | ⟨hB, x, hx, hp⟩
    · have hz : xs = [] := List.length_eq_zero_iff.1 hk
      subst hz
      rw [List.append_nil] at h ⊢
      have hle := sk_le false p
      have hs : sk false p = p.length := by
        by_cases hm : p.drop (sk false p) = []
        · have := congrArg List.length hm
          simp at this
          omega
        · by_cases hf : (nextL (p.drop (sk false p))).fr = 0
          · rw [rest_tok rfl hf] at h; cases h
          · rw [rest_fault rfl hm hf] at h
            exact absurd (congrArg (fun x => x.2.2) h) hf
      obtain ⟨b', _, h2⟩ := sk_over false p [] (by rw [List.append_nil]; exact hs)
      have h3 := h2 M
      rw [G.last rfl b'] at h3
      exact ⟨[], rest_nil (by rw [h3]; simp), rfl⟩
    · have hle := sk_le false (p ++ B)
      have hm : ¬ (p ++ B).drop (sk false (p ++ B)) = [] := fun hm => by rw [rest_nil hm] at h; cases h; simp at hx
      have hf : (nextL ((p ++ B).drop (sk false (p ++ B)))).fr = 0 := by
        by_cases hf : (nextL ((p ++ B).drop (sk false (p ++ B)))).fr = 0
        · exact hf
        · rw [rest_fault rfl hm hf] at h
          exact absurd (congrArg (fun x => x.2.2) h) hf
      have h' := h
      rw [rest_tok rfl hf] at h'
      simp only [Prod.mk.injEq] at h'
      rw [← h'.1] at hx
      have ex : x = toRes (e + sk false (p ++ B)) ((p ++ B).drop (sk false (p ++ B))) (nextL ((p ++ B).drop (sk false (p ++ B)))) := by simpa using hx.symm
      have hs : sk false (p ++ B) = p.length := by
        rw [ex] at hp
        unfold toRes at hp
        rw [if_pos hf] at hp
        simp only at hp
        omega
      obtain ⟨b', h1, h2⟩ := sk_over false p B hs
      have hb : b' = false := by
        cases b' with
        | false => rfl
        | true =>
          cases B with
          | nil => exact absurd rfl hB
          | cons c r => simp only [sk] at h1; split at h1 <;> omega
      subst hb
      have h3 := h2 (M ++ B)
      rw [G.shut hB, h1] at h3
      have d1 : (p ++ B).drop (sk false (p ++ B)) = B := by rw [hs]; simp
      have d2 : (p ++ (M ++ B)).drop (sk false (p ++ (M ++ B))) = B := by rw [h3, ← List.append_assoc]; simp
      have r1 : restL e (p ++ B) = goL (B.length + 1) (e + sk false (p ++ B)) B := by unfold restL lexL; rw [d1]
      have r2 : restL e' (p ++ (M ++ B)) = goL (B.length + 1) (e' + sk false (p ++ (M ++ B))) B := by unfold restL lexL; rw [d2]
      obtain ⟨g1, g2⟩ := goL_bare (B.length + 1) (e + sk false (p ++ B)) (e' + sk false (p ++ (M ++ B))) B
      rw [← r1, ← r2, h] at g1 g2
      have g3 : (restL e' (p ++ (M ++ B))).2.1 = 0 := goL_clean _ _ _ g2.symm
      exact ⟨(restL e' (p ++ (M ++ B))).1, Prod.ext rfl (Prod.ext g3 g2.symm), g1⟩
  | k + 1, e, e', p, xs, h, hk => by
    have hle := sk_le false (p ++ B)
    have hne : ¬ xs = [] := by
      rintro rfl
      rcases hk with ⟨hk, _⟩ | ⟨_, x, hx, _⟩
      · simp at hk
      · simp at hx
    have hm : ¬ (p ++ B).drop (sk false (p ++ B)) = [] := fun hm => by rw [rest_nil hm] at h; cases h; exact hne rfl
    have hf : (nextL ((p ++ B).drop (sk false (p ++ B)))).fr = 0 := by
      by_cases hf : (nextL ((p ++ B).drop (sk false (p ++ B)))).fr = 0
      · exact hf
      · rw [rest_fault rfl hm hf] at h
        exact absurd (congrArg (fun x => x.2.2) h) hf
    obtain ⟨n1, n2⟩ := nextL_good _ hf
    have h' := h
    rw [rest_tok rfl hf] at h'
    simp only [Prod.mk.injEq] at h'
    obtain ⟨hx1, hx2⟩ := h'
    obtain ⟨z, hz⟩ : ∃ z, z = sk false (p ++ B) := ⟨_, rfl⟩
    rw [← hz] at hm hf hle n1 n2 hx1 hx2
    obtain ⟨n, hn⟩ : ∃ n, n = (nextL ((p ++ B).drop z)).n := ⟨_, rfl⟩
    rw [← hn] at n1 n2 hx1 hx2
    -- the token lies ahead of where the blanks come
    have hin : z + n ≤ p.length := by
      rcases hk with ⟨_, rfl⟩ | ⟨_, x, hx, hp⟩
      · simp at n2 hle; omega
      · rw [← hx1, List.getElem?_cons_succ] at hx
        have := rest_from hx
        omega
    have d1 : (p ++ B).drop z = p.drop z ++ B := drop_app (by omega)
    have d2 : (p ++ (M ++ B)).drop z = p.drop z ++ (M ++ B) := drop_app (by omega)
    have hz2 : sk false (p ++ (M ++ B)) = z := by rw [hz]; exact sk_in false p B (M ++ B) (by omega) (stop_not47 G.stop G.pos B)
    have hpz : ¬ p.drop z = [] := fun h0 => by have := congrArg List.length h0; simp at this; omega
    have t1 : nextL (p.drop z) = nextL (p.drop z ++ B) := nextL_cut hpz (by rw [← d1]; exact hf) (by rw [← d1, ← hn, List.length_drop]; omega)
    have t2 : nextL (p.drop z ++ (M ++ B)) = nextL (p.drop z) := nextL_stop hpz (stop_app G.stop G.pos B)
    have t3 : nextL ((p ++ (M ++ B)).drop z) = nextL ((p ++ B).drop z) := by rw [d1, d2, t2, t1]
    have hdl : n ≤ (p.drop z).length := by rw [List.length_drop]; omega
    have d3 : ((p ++ B).drop z).drop n = (p.drop z).drop n ++ B := by rw [d1]; exact drop_app hdl
    have d4 : ((p ++ (M ++ B)).drop z).drop n = (p.drop z).drop n ++ (M ++ B) := by rw [d2]; exact drop_app hdl
    rw [d3] at hx1 hx2
    obtain ⟨xs', hxs⟩ : ∃ xs', xs' = (restL (e + z + n) ((p.drop z).drop n ++ B)).1 := ⟨_, rfl⟩
    rw [← hxs] at hx1
    obtain ⟨ys, hy1, hy2⟩ := blanks_rest G k (e + z + n) (e' + z + n) ((p.drop z).drop n) xs' (by rw [hxs]; exact Prod.ext rfl hx2) (by
      rcases hk with ⟨hk, hB⟩ | ⟨hB, x, hx, hp⟩
      · refine .inl ⟨?_, hB⟩
        rw [← hx1] at hk
        simpa using hk
      · refine .inr ⟨hB, x, ?_, ?_⟩
        · rw [← hx1, List.getElem?_cons_succ] at hx; exact hx
        · rw [hp]; simp only [List.length_drop]; omega)
    refine ⟨toRes (e' + z) ((p ++ (M ++ B)).drop z) (nextL ((p ++ (M ++ B)).drop z)) :: ys, ?_, ?_⟩
    · have hf2 : (nextL ((p ++ (M ++ B)).drop z)).fr = 0 := by rw [t3]; exact hf
      rw [rest_tok (m := (p ++ (M ++ B)).drop z) (by rw [hz2]) hf2, hz2, t3, ← hn, d4, hy1]
    · rw [← hx1, List.map_cons, List.map_cons, hy2]
      congr 1
      rw [t3]
      unfold toRes
      rw [if_pos hf, if_pos hf, ← hn]
      unfold bare
      simp only
      rw [d1, d2, take_app hdl, take_app hdl]
end Go.Proofs.YteedpojchapjgaaDoor

/- The lexer: a text with blanks and a remark between two tokens. -/
import Derived.Test.YteedpojchapjgaaDoorBlanks
import Derived.Test.YteedpojchapjgaaDoorStands
namespace Go.Proofs.YteedpojchapjgaaDoor
open Go.RowKit
set_option linter.unusedVariables false

theorem sk_remark : ∀ (r Z : List UInt8), (∀ c ∈ r, ¬ c = 10) → sk true (r ++ 10 :: Z) = r.length + (1 + sk false Z)
  | [], Z, _ => by simp [sk]
  | c :: r, Z, h => by
    simp only [List.cons_append, sk, List.length_cons]
    rw [if_neg (h c (List.mem_cons_self ..)), sk_remark r Z (fun d hd => h d (List.mem_cons_of_mem _ hd))]
    omega
theorem sk_blank {c : UInt8} (Z : List UInt8) (h : blankB (c.toNat : Int) = true) : sk false (c :: Z) = 1 + sk false Z := by
  simp only [sk]; rw [if_pos h]
theorem sk_begin (r Z : List UInt8) (h : ∀ c ∈ r, ¬ c = 10) : sk false ([32, 9, 13, 47, 47] ++ r ++ 10 :: Z) = r.length + 6 + sk false Z := by
  simp only [List.cons_append, List.nil_append]
  rw [sk_blank _ (by decide), sk_blank _ (by decide), sk_blank _ (by decide)]
  have e : sk false (47 :: 47 :: (r ++ 10 :: Z)) = 1 + (1 + sk true (r ++ 10 :: Z)) := by
    simp only [sk]
    rw [if_neg (by decide), if_pos (by simp), if_neg (by decide)]
  rw [e, sk_remark r Z h]
  omega
def moreL (r : List UInt8) : List UInt8 := [32, 9, 13, 47, 47] ++ r ++ [10]
theorem gap_mid {r B : List UInt8} (h : ∀ c ∈ r, ¬ c = 10) (hB : ¬ B = []) : Gap (moreL r) B where
  stop := by unfold moreL; simp only [List.cons_append]; show blankB _ = true; decide
  pos := by unfold moreL; simp
  shut := fun _ => by
    have e : moreL r ++ B = [32, 9, 13, 47, 47] ++ r ++ 10 :: B := by unfold moreL; simp
    rw [e, sk_begin r B h]
    unfold moreL; simp
  last := fun h0 => absurd h0 hB
theorem gap_end {r : List UInt8} (h : ∀ c ∈ r, ¬ c = 10) : Gap (10 :: moreL r) [] where
  stop := by show blankB _ = true; decide
  pos := by simp
  shut := fun h0 => absurd rfl h0
  last := fun _ b => by
    have k : sk false (moreL r) = r.length + 6 := by
      have e : moreL r = [32, 9, 13, 47, 47] ++ r ++ 10 :: [] := by unfold moreL; simp
      rw [e, sk_begin r [] h]; rfl
    have l : (10 :: moreL r).length = r.length + 7 := by unfold moreL; simp
    rw [l]
    cases b
    · rw [sk_blank _ (by decide), k]; omega
    · simp only [sk]; rw [if_pos trivial, k]; omega
theorem goL_below : ∀ (f q : Nat) (l : List UInt8) (i : Nat) (x : Res), (goL f q l).1[i]? = some x → x.place < ((q + l.length : Nat) : Int) ∧ ∃ p : Nat, x.place = p
  | 0, _, _, i, x, h => by simp [goL] at h
  | f + 1, q, l, i, x, h => by
    simp only [goL] at h
    split at h
    · simp at h
    · split at h
      · rename_i hf
        obtain ⟨g1, g2⟩ := nextL_good _ hf
        cases i with
        | zero =>
          have e : toRes q l (nextL l) = x := by simpa using h
          rw [← e]; unfold toRes; rw [if_pos hf]
          exact ⟨by show (q : Int) < _; omega, q, rfl⟩
        | succ i =>
          obtain ⟨k1, k2⟩ := goL_below f _ _ i x (by simpa using h)
          refine ⟨?_, k2⟩
          have hle := sk_le false (l.drop (nextL l).n)
          simp only [List.length_drop] at k1 hle
          omega
      · simp at h
theorem rest_below {e : Nat} {l : List UInt8} {i : Nat} {x : Res} (h : (restL e l).1[i]? = some x) : x.place < ((e + l.length : Nat) : Int) ∧ ∃ p : Nat, x.place = p := by
  obtain ⟨h1, h2⟩ := goL_below _ _ _ _ _ h
  have hle := sk_le false l
  simp only [List.length_drop] at h1
  exact ⟨by omega, h2⟩
/-- What a text of blanks and a remark, put at a place, does to its tokens. -/
theorem blanks_scan {s s' : ByteArray} {k a : Nat} {M : List UInt8} (h0 : (scanX s).2.1 = 0) (hs' : s'.size ≤ 65536) (hk : k ≤ (scanX s).1.length)
    (ha : ∀ x, (scanX s).1[k]? = some x → x.place = a) (hb : (scanX s).1[k]? = none → a = s.size)
    (hM : Gap M (s.data.toList.drop a)) (hl : s'.data.toList = s.data.toList.take a ++ (M ++ s.data.toList.drop a)) :
    ∃ ys, scanX s' = (ys, 0, 0, 0) ∧ EqToks false (scanX s).1 ys := by
  obtain ⟨⟨_, hst⟩, hs⟩ := front_stand h0
  rw [from_nought] at hst
  have hz : s.size = s.data.toList.length := by simp
  have hlt : (scanX s).1[k]? = none ∨ ∃ x, (scanX s).1[k]? = some x ∧ a < s.data.toList.length := by
    cases hx : (scanX s).1[k]? with
    | none => exact .inl rfl
    | some x =>
      refine .inr ⟨x, rfl, ?_⟩
      have k1 := (rest_below (e := 0) (l := s.data.toList) (i := k) (x := x) (by rw [hst]; exact hx)).1
      rw [ha x hx] at k1
      omega
  obtain ⟨ys, hy1, hy2⟩ := blanks_rest hM k 0 0 (s.data.toList.take a) (scanX s).1 (by rw [List.take_append_drop]; exact hst) (by
    rcases hlt with hx | ⟨x, hx, hlt⟩
    · have := List.getElem?_eq_none_iff.1 hx
      refine .inl ⟨by omega, ?_⟩
      rw [hb hx, hz]; exact List.drop_length ..
    · refine .inr ⟨fun h => ?_, x, hx, ?_⟩
      · have := congrArg List.length h
        simp at this
        simp at hlt
        omega
      · rw [ha x hx]; simp; simp at hlt; omega)
  rw [← hl, ← front_list] at hy1
  refine ⟨ys, ?_, toks_bare hy2⟩
  rw [scan_front hs' (by rw [hy1]), hy1]
end Go.Proofs.YteedpojchapjgaaDoor

/- The lexer over lists of bytes: a fault stays, whatever stands behind its line. -/
import Derived.Test.YteedpojchapjgaaDoorBlanks2
namespace Go.Proofs.YteedpojchapjgaaDoor
open Go.RowKit
set_option linter.unusedVariables false

theorem sk_stop : ∀ (b : Bool) (l : List UInt8), l.drop (sk b l) = [] ∨ stopH (l.drop (sk b l)) = false
  | b, [] => by left; simp
  | true, c :: r => by
    simp only [sk]
    split
    · rw [Nat.add_comm, List.drop_succ_cons]; exact sk_stop false r
    · rw [Nat.add_comm, List.drop_succ_cons]; exact sk_stop true r
  | false, c :: r => by
    simp only [sk]
    split
    · rw [Nat.add_comm, List.drop_succ_cons]; exact sk_stop false r
    · rename_i hb
      split
      · rw [Nat.add_comm, List.drop_succ_cons]; exact sk_stop true r
      · right
        simpa [stopH] using hb
theorem span_at {f : Int → Bool} : ∀ (l : List UInt8) (i : Nat), i < spanN f l → ∃ c r, l.drop i = c :: r ∧ f (c.toNat : Int) = true
  | [], i, h => by simp [spanN] at h
  | c :: r, i, h => by
    simp only [spanN] at h
    split at h
    · rename_i hc
      cases i with
      | zero => exact ⟨c, r, rfl, hc⟩
      | succ i => rw [List.drop_succ_cons]; exact span_at r i (by omega)
    · omega
theorem nextL_fault (l : List UInt8) (h0 : stopH l = false) (h : ¬ (nextL l).fr = 0) : (nextL l).fa < l.length ∧ stopH (l.drop (nextL l).fa) = false ∧ 1 ≤ (nextL l).fr ∧ (nextL l).fr ≤ 4 := by
  cases l with
  | nil => cases h0
  | cons c r =>
    have hnb : ∀ (f : Int → Bool) (d : UInt8), (∀ c : UInt8, blankB (c.toNat : Int) = true → f (c.toNat : Int) = false) → f (d.toNat : Int) = true → blankB (d.toNat : Int) = false := fun f d hf hd => by
      cases hb : blankB (d.toNat : Int) with
      | false => rfl
      | true => rw [hf d hb] at hd; cases hd
    simp only [nextL] at h ⊢
    split at h
    · rename_i h1
      rw [if_pos h1]
      unfold nameL at h ⊢
      split at h
      · simp at h
      · rename_i h2
        rw [if_neg h2]
        split at h
        · rename_i h3
          rw [if_pos h3]
          have hl := spanN_le namedB (c :: r)
          obtain ⟨d, r', hd, hn⟩ := span_at (c :: r) 32 h3
          refine ⟨by show 32 < _; omega, ?_, by decide, by decide⟩
          show stopH ((c :: r).drop 32) = false
          rw [hd]
          exact hnb namedB d named_blank hn
        · simp at h
    · rename_i h1
      rw [if_neg h1]
      split at h
      · rename_i h2
        rw [if_pos h2]
        unfold numL at h ⊢
        cases hv : valueO ((c :: r).take (spanN digitB (c :: r))) with
        | none =>
          simp only [numK]
          exact ⟨by simp, h0, by decide, by decide⟩
        | some v =>
          rw [hv] at h
          simp only [numK] at h ⊢
          split at h
          · rename_i hb
            rw [if_pos hb]
            simp only
            have hl := spanN_le digitB (c :: r)
            cases hd : (c :: r).drop (spanN digitB (c :: r)) with
            | nil => rw [hd] at hb; cases hb
            | cons d r' =>
              rw [hd] at hb
              have hlt : spanN digitB (c :: r) < (c :: r).length := by
                have := congrArg List.length hd
                simp only [List.length_drop, List.length_cons] at this ⊢
                omega
              exact ⟨hlt, hnb letterB d letter_blank hb, by decide, by decide⟩
          · simp at h
      · rename_i h2
        rw [if_neg h2]
        split at h
        · simp at h
        · rename_i h3
          rw [if_neg h3]
          exact ⟨by simp, h0, by decide, by decide⟩
theorem goL_fault : ∀ (f q : Nat) (l : List UInt8), (l = [] ∨ stopH l = false) → ¬ (goL f q l).2.2 = 0 → ∃ d : Nat, (goL f q l).2.1 = ((q + d : Nat) : Int) ∧ d < l.length ∧ stopH (l.drop d) = false ∧ 1 ≤ (goL f q l).2.2 ∧ (goL f q l).2.2 ≤ 4
  | 0, q, l, _, h => absurd rfl h
  | f + 1, q, l, hl, h => by
    simp only [goL] at h ⊢
    split at h
    · exact absurd rfl h
    · rename_i h0
      rw [if_neg h0]
      have hs : stopH l = false := hl.resolve_left h0
      split at h
      · rename_i hf
        rw [if_pos hf]
        obtain ⟨g1, g2⟩ := nextL_good _ hf
        obtain ⟨d, e1, e2, e3, e4⟩ := goL_fault f _ _ (sk_stop false _) h
        have hle := sk_le false (l.drop (nextL l).n)
        simp only [List.length_drop] at e2 hle
        refine ⟨(nextL l).n + sk false (l.drop (nextL l).n) + d, ?_, by omega, ?_, e4⟩
        · rw [e1]; simp only [Nat.add_assoc]
        · rw [List.drop_drop, List.drop_drop, ← Nat.add_assoc] at e3
          exact e3
      · rename_i hf
        rw [if_neg hf]
        obtain ⟨g1, g2, g3⟩ := nextL_fault l hs hf
        exact ⟨(nextL l).fa, rfl, g1, g2, g3⟩
theorem rest_at {e : Nat} {l : List UInt8} (h : ¬ (restL e l).2.2 = 0) : ∃ d : Nat, (restL e l).2.1 = ((e + d : Nat) : Int) ∧ sk false l ≤ d ∧ d < l.length ∧ stopH (l.drop d) = false ∧ 1 ≤ (restL e l).2.2 ∧ (restL e l).2.2 ≤ 4 := by
  obtain ⟨d, e1, e2, e3, e4⟩ := goL_fault _ _ _ (sk_stop false l) h
  have hle := sk_le false l
  simp only [List.length_drop] at e2
  rw [List.drop_drop] at e3
  exact ⟨sk false l + d, by rw [← Nat.add_assoc]; exact e1, by omega, by omega, e3, e4⟩
theorem faults_rest {X Y : List UInt8} (hX : stopH X = true) (hY : stopH Y = true) : ∀ (n e : Nat) (p : List UInt8), p.length ≤ n → ¬ (restL e (p ++ X)).2.2 = 0 → (restL e (p ++ X)).2.1 < ((e + p.length : Nat) : Int) → restL e (p ++ Y) = restL e (p ++ X) := by
  intro n
  induction n with
  | zero =>
    intro e p hp h hlt
    obtain ⟨d, e1, e2, _⟩ := rest_at h
    omega
  | succ n ih =>
    intro e p hp h hlt
    obtain ⟨d, e1, e2, _⟩ := rest_at h
    have hz : sk false (p ++ X) < p.length := by omega
    have hY47 : ¬ Y.head? = some 47 := by
      cases Y with
      | nil => simp
      | cons c r =>
        intro e
        have e : c = 47 := by simpa using e
        subst e
        exact absurd (show blankB ((47 : UInt8).toNat : Int) = true from hY) (by decide)
    have hz2 := sk_in false p X Y hz hY47
    have hle := sk_le false (p ++ X)
    obtain ⟨z, ez⟩ : ∃ z, z = sk false (p ++ X) := ⟨_, rfl⟩
    rw [← ez] at hz hz2 hle
    have d1 : (p ++ X).drop z = p.drop z ++ X := drop_app (by omega)
    have d2 : (p ++ Y).drop z = p.drop z ++ Y := drop_app (by omega)
    have hpz : ¬ p.drop z = [] := fun h0 => by have := congrArg List.length h0; simp at this; omega
    have t1 : nextL (p.drop z ++ X) = nextL (p.drop z) := nextL_stop hpz hX
    have t2 : nextL (p.drop z ++ Y) = nextL (p.drop z) := nextL_stop hpz hY
    have m1 : (p ++ X).drop (sk false (p ++ X)) = p.drop z ++ X := by rw [← ez]; exact d1
    have m2 : (p ++ Y).drop (sk false (p ++ Y)) = p.drop z ++ Y := by rw [hz2]; exact d2
    by_cases hf : (nextL (p.drop z)).fr = 0
    · obtain ⟨g1, g2⟩ := nextL_good _ hf
      have r1 := rest_tok (e := e) m1 (by rw [t1]; exact hf)
      have r2 := rest_tok (e := e) m2 (by rw [t2]; exact hf)
      rw [t1, ← ez, drop_app g2] at r1
      rw [t2, hz2, drop_app g2] at r2
      rw [r1] at h hlt
      have k := ih (e + z + (nextL (p.drop z)).n) ((p.drop z).drop (nextL (p.drop z)).n) (by simp; omega) h (by
        have : ((p.drop z).drop (nextL (p.drop z)).n).length = p.length - z - (nextL (p.drop z)).n := by simp; omega
        rw [this]
        have g2' : (nextL (p.drop z)).n ≤ p.length - z := by simpa using g2
        simp only at hlt
        omega)
      rw [r1, r2, k]
      have et : toRes (e + z) (p.drop z ++ Y) (nextL (p.drop z)) = toRes (e + z) (p.drop z ++ X) (nextL (p.drop z)) := by
        unfold toRes
        rw [if_pos hf, if_pos hf, take_app g2, take_app g2]
      rw [et]
    · have r1 := rest_fault (e := e) m1 (fun h => hpz (List.append_eq_nil_iff.1 h).1) (by rw [t1]; exact hf)
      have r2 := rest_fault (e := e) m2 (fun h => hpz (List.append_eq_nil_iff.1 h).1) (by rw [t2]; exact hf)
      rw [r1, r2, t1, t2, hz2, ← ez]
end Go.Proofs.YteedpojchapjgaaDoor

/- The lexer: tokens as a text: how long it is, and its bytes. -/
import Derived.Test.YteedpojchapjgaaDoorMay
import Derived.Test.YteedpojchapjgaaDoorBld
namespace Go.Proofs.YteedpojchapjgaaDoor
open Go.RowKit
set_option linter.unusedVariables false

def okT (x : Res) : Bool := mayB x.kind x.text x.wd
def tailN : List Res → Nat
  | [] => 0
  | x :: r => 1 + x.text.size + tailN r
def joinN : List Res → Nat
  | [] => 0
  | x :: r => x.text.size + tailN r
def tailB : List Res → List UInt8
  | [] => []
  | x :: r => 32 :: (x.text.data.toList ++ tailB r)
def joinB : List Res → List UInt8
  | [] => []
  | x :: r => x.text.data.toList ++ tailB r
theorem tailN_snoc (x : Res) : ∀ l, tailN (l ++ [x]) = tailN l + (1 + x.text.size)
  | [] => by simp [tailN]
  | y :: r => by simp only [List.cons_append, tailN, tailN_snoc x r]; omega
theorem joinN_snoc (x : Res) : ∀ l, joinN (l ++ [x]) = joinN l + (if l = [] then 0 else 1) + x.text.size
  | [] => by simp [joinN, tailN]
  | y :: r => by simp only [List.cons_append, joinN, tailN_snoc]; rw [if_neg (by simp)]; omega
theorem tailB_snoc (x : Res) : ∀ l, tailB (l ++ [x]) = tailB l ++ 32 :: x.text.data.toList
  | [] => by simp [tailB]
  | y :: r => by simp [tailB, tailB_snoc x r]
theorem joinB_snoc (x : Res) : ∀ l, joinB (l ++ [x]) = joinB l ++ (if l = [] then [] else [32]) ++ x.text.data.toList
  | [] => by simp [joinB, tailB]
  | y :: r => by simp [joinB, tailB_snoc x r]
theorem tailB_len : ∀ l, (tailB l).length = tailN l
  | [] => rfl
  | x :: r => by simp [tailB, tailN, tailB_len r]; omega
theorem joinB_len : ∀ l, (joinB l).length = joinN l
  | [] => rfl
  | x :: r => by simp [joinB, joinN, tailB_len r]
theorem digitsV_grows : ∀ (l : List UInt8) (v z : Int), 0 ≤ v → digitsV l v = some z → v * (10 : Int) ^ l.length ≤ z ∧ (l ≠ [] → z ≤ 9223372036854775807)
  | [], v, z, h0, h => by
    simp only [digitsV, Option.some.injEq] at h
    subst h
    simp
  | c :: r, v, z, h0, h => by
    simp only [digitsV] at h
    split at h
    · cases h
    · rename_i hd
      have hd' : digitB (c.toNat : Int) = true := by simpa using hd
      obtain ⟨d0, d1⟩ := digitB_bd hd'
      split at h
      · cases h
      · rename_i hv
        obtain ⟨k1, k2⟩ := digitsV_grows r (v * 10 + ((c.toNat : Int) - 48)) z (by omega) h
        have hp : (0 : Int) ≤ (10 : Int) ^ r.length := Int.pow_nonneg (by decide)
        refine ⟨?_, fun _ => ?_⟩
        · rw [List.length_cons, Int.pow_succ]
          have e : v * ((10 : Int) ^ r.length * 10) = (v * 10) * (10 : Int) ^ r.length := by rw [Int.mul_comm ((10 : Int) ^ r.length) 10, ← Int.mul_assoc]
          rw [e]
          exact Int.le_trans (Int.mul_le_mul_of_nonneg_right (by omega) hp) k1
        · by_cases hr : r = []
          · subst hr
            simp only [digitsV, Option.some.injEq] at h
            omega
          · exact k2 hr
theorem valueO_len {l : List UInt8} {v : Int} (h : valueO l = some v) : l.length ≤ 19 := by
  cases l with
  | nil => simp
  | cons c r =>
    simp only [valueO] at h
    split at h
    · cases h
    · rename_i hc
      by_cases hr : r = []
      · subst hr; simp
      · have hc48 : ¬ (c.toNat : Int) = 48 := fun e => hc ⟨e, hr⟩
        obtain ⟨_, k2⟩ := digitsV_grows (c :: r) 0 v (Int.le_refl _) h
        have hz := k2 (by simp)
        simp only [digitsV] at h
        split at h
        · cases h
        · rename_i hd
          have hd' : digitB (c.toNat : Int) = true := by simpa using hd
          obtain ⟨d0, d1⟩ := digitB_bd hd'
          split at h
          · cases h
          · obtain ⟨k1, _⟩ := digitsV_grows r (0 * 10 + ((c.toNat : Int) - 48)) v (by omega) h
            have hp : (0 : Int) ≤ (10 : Int) ^ r.length := Int.pow_nonneg (by decide)
            have k3 : (10 : Int) ^ r.length ≤ v := by
              have : 1 * (10 : Int) ^ r.length ≤ (0 * 10 + ((c.toNat : Int) - 48)) * (10 : Int) ^ r.length := Int.mul_le_mul_of_nonneg_right (by omega) hp
              omega
            by_cases hlen : r.length ≤ 18
            · simp; omega
            · have k4 : (10 : Int) ^ 19 ≤ (10 : Int) ^ r.length := by
                have e : ∀ n : Nat, (10 : Int) ^ n = ((10 ^ n : Nat) : Int) := fun n => by simp
                have := Nat.pow_le_pow_right (n := 10) (by decide) (show 19 ≤ r.length by omega)
                rw [e, e]; omega
              have k5 : (10 : Int) ^ 19 = 10000000000000000000 := by decide
              omega
theorem okT_size {x : Res} (h : okT x = true) : x.text.size ≤ 32 := by
  unfold okT mayB at h
  split at h
  · split at h
    · rename_i v hv
      have := valueO_len hv
      have hz : x.text.data.toList.length = x.text.size := by simp
      omega
    · cases h
  · split at h
    · split at h
      · unfold nameB at h
        simp only [Bool.and_eq_true, decide_eq_true_eq] at h
        exact h.2.1
      · split at h
        · have := word_size h; omega
        · split at h
          · unfold isSignB at h
            simp only [Bool.and_eq_true, decide_eq_true_eq] at h
            have := ahead_bd x.text.data.toList
            omega
          · cases h
    · cases h
theorem joinN_take : ∀ (xs : List Res) (k : Nat), (∀ i x, i < k → xs[i]? = some x → okT x = true) → joinN (xs.take k) ≤ 33 * k
  | xs, 0, _ => by simp [joinN]
  | xs, k + 1, h => by
    have k1 := joinN_take xs k (fun i x hi hx => h i x (by omega) hx)
    cases hx : xs[k]? with
    | none =>
      have hl := List.getElem?_eq_none_iff.1 hx
      have e : xs.take (k + 1) = xs.take k := by rw [List.take_of_length_le (by omega), List.take_of_length_le hl]
      rw [e]; omega
    | some x =>
      have hk : k < xs.length := (List.getElem?_eq_some_iff.1 hx).1
      have e : xs.take (k + 1) = xs.take k ++ [x] := by
        rw [List.take_add_one, hx]; rfl
      have hs := okT_size (h k x (by omega) hx)
      rw [e, joinN_snoc]
      split <;> omega
end Go.Proofs.YteedpojchapjgaaDoor

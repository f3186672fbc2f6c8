/- The lexer: what a list of tokens is in memory, and a round that lengthens it. -/
import Derived.Test.YteedpojchapjgaaDoorTokens2
namespace Go.Proofs.YteedpojchapjgaaDoor
open Go.RowKit Go.Shelf
set_option linter.unusedVariables false
attribute [local go_sem] Oper.semAt_some

def tokCells (r : Res) : List Value := [.int .u8 r.kind, .string r.text, .int .i64 r.wd, .int .i64 r.place]
def rowR (xs : List Res) : List Value := xs.flatMap tokCells
theorem rowR_nil : rowR [] = [] := rfl
theorem rowR_snoc (xs : List Res) (x : Res) : rowR (xs ++ [x]) = rowR xs ++ tokCells x := by
  simp [rowR]
/-- What the caller of a loop over tokens keeps of its own; what its rounds keep. -/
def selC (n : Nat) (k : Nat) (o : Obj) : Prop := k < n ∨ (o.isCells = true ∧ ¬ IsTy 57 o)
def selB (n : Nat) (k : Nat) (o : Obj) : Prop := selY n k o ∨ o.isCells = false
theorem boxC {W W' : World} {B n : Nat} {t : TypeId} {v : Value} (h : Boxed W B t v) (hk : Keep (selC n) W W') (ht : t ≠ 57) : Boxed W' B t v :=
  hk.block _ _ h (.inr ⟨rfl, not_ty ht⟩)
theorem ownsRow_keep {W W' : World} {sel : Nat → Obj → Prop} {base : Nat} {e : TypeId} {size : Nat} {v : Value} {k : Nat} {xs : List Value} (h : W.ownsRow base e size v k xs) (hk : Keep sel W W') (hs : ∀ g cs, base ≤ g → sel g (.cells cs e (0, 0))) : W'.ownsRow base e size v k xs := by
  refine ⟨h.1, ?_⟩
  rcases h.2 with h2 | ⟨g, cap, cur, hv, hb, hg, rest⟩
  · exact .inl h2
  · exact .inr ⟨g, cap, cur, hv, hb, hk.block _ _ hg (hs _ _ hb), rest⟩
def TokBox (W : World) (B : Nat) (x : Res) : Prop := W.heap[B]? = some (.cells #[.int .u8 x.kind, .string x.text, .int .i64 x.wd, .int .i64 x.place] 38 (0, 0))
/-- The box of a list that has grown by tokens. -/
def Lst (n₀ B : Nat) (pre : List Res) (W : World) : Prop :=
  ∃ v, Boxed W B 24 v ∧ W.ownsRow n₀ 38 4 v pre.length (rowR pre) ∧ (v = .slice none 0 0 ↔ pre = [])
theorem Lst.keepC {n₀ B n : Nat} {pre : List Res} {W W' : World} (h : Lst n₀ B pre W) (hk : Keep (selC n) W W') : Lst n₀ B pre W' := by
  obtain ⟨v, h1, h2, h3⟩ := h
  exact ⟨v, boxC h1 hk (by decide), ownsRow_keep h2 hk (fun g cs _ => .inr ⟨rfl, not_ty (by decide)⟩), h3⟩
theorem infoTok : (Tryd.prog.info? 38).map (fun i => (i.zero, i.size, i.bytes)) = some (some (.agg #[.int .u8 0, .string ⟨#[]⟩, .int .i64 0, .int .i64 0]), 4, 40) := by kernel_rfl
theorem goH_len (s : ByteArray) : ∀ (f q : Nat), q ≤ s.size → (goH s f q).1.length ≤ s.size - q
  | 0, q, h => Nat.zero_le _
  | f + 1, q, h => by
    by_cases hq : q < s.size
    · by_cases hr : (nextR s q).fr = 0
      · rw [goH_tok hq hr]
        obtain ⟨g1, g2, _⟩ := nextR_good s q hq hr
        have g3 : nx s q ≤ s.size := by
          have := passN_le _ (bytesFrom s (q + (nextR s q).text.size)) (Nat.le_refl _)
          rw [from_len] at this
          unfold nx
          omega
        have g4 : q + (nextR s q).text.size ≤ nx s q := by unfold nx; omega
        have := goH_len s f (nx s q) g3
        simp only [List.length_cons]
        omega
      · rw [goH_fault hq hr]; exact Nat.zero_le _
    · rw [goH_end hq]; exact Nat.zero_le _
theorem front_len (s : ByteArray) : (frontR s).1.length ≤ s.size := by
  have := passN_le _ (bytesFrom s 0) (Nat.le_refl _)
  rw [from_len] at this
  have := goH_len s (s.size + 1) (passN (bytesFrom s 0)) (by omega)
  unfold frontR
  omega
theorem okR_len {s : ByteArray} {pre : List Res} {x : Res} (h : okR s pre x) (hs : s.size ≤ 65536) : pre.length + 1 ≤ 65536 := by
  obtain ⟨t, ht⟩ := h
  have := congrArg List.length ht
  have := front_len s
  simp at *
  omega
theorem cell_four {W : World} {g : Nat} {a b c d : Value} {t : TypeId} (h : W.heap[g]? = some (.cells #[a, b, c, d] t (0, 0))) (j : Nat) (u : Value) (hj : [a, b, c, d][j]? = some u) : W.cell? ((⟨g, 0, none⟩ : Addr).add j) = some u := by
  obtain ⟨⟨h0, h1, h2, h3⟩, _⟩ := row4 h
  match j, hj with
  | 0, hj => cases hj; exact h0
  | 1, hj => cases hj; exact h1
  | 2, hj => cases hj; exact h2
  | 3, hj => cases hj; exact h3
theorem appended_keep {sel : Nat → Obj → Prop} {W w1 : World} {n₀ B : Nat} {v v' : Value} {k : Nat} {xs : List Value} {tmp : Obj}
    (hrow : W.ownsRow n₀ 38 4 v k xs) (hgrow : (W.alloc tmp).grownBy w1 v.ownBlock) (hv1 : Boxed w1 B 24 v) (hs : ∀ g cs, n₀ ≤ g → ¬ sel g (.cells cs 38 (0, 0))) (hs2 : ∀ cs, ¬ sel B (.cells cs 24 (0, 0))) :
    Keep sel W (w1.setCell ⟨B, 0, none⟩ v') := by
  refine (((Keep.refl sel W).alloc tmp).grown hgrow fun r o er ho => ?_).setCell (p := ⟨B, 0, none⟩) v' hv1 (hs2 _)
  rcases (hrow.alloc tmp).2 with ⟨rfl, _⟩ | ⟨g, cap, cur, rfl, hb, hgb, _⟩
  · simp [Value.ownBlock] at er
  · obtain rfl : g = r := by simpa [Value.ownBlock] using er
    rw [hgb] at ho; cases ho
    exact hs _ _ hb
theorem notB {n g : Nat} {cs : Array Value} {t : TypeId} (hn : n ≤ g) (h1 : t ≠ 57) (h2 : t ≠ 84) : ¬ selB n g (.cells cs t (0, 0)) := fun h => by
  rcases h with (h | h | h) | h
  · omega
  · exact not_ty h1 h
  · exact not_ty h2 h
  · cases h
end Go.Proofs.YteedpojchapjgaaDoor

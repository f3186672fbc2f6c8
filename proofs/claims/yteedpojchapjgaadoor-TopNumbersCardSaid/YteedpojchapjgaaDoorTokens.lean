/- The lexer: the iterator over the tokens of a text. -/
import Derived.Test.YteedpojchapjgaaDoorNext
import Derived.Test.YteedpojchapjgaaDoorPass
import Derived.Sort.QuietIn
namespace Go.Proofs.YteedpojchapjgaaDoor
open Go.RowKit Go.Shelf
set_option linter.unusedVariables false
attribute [local go_sem] Oper.semAt_some

/-- A block of cells of a type. -/
def IsTy (t : TypeId) (o : Obj) : Prop := ∃ cs f, o = .cells cs t f
/-- What the iterator keeps; what a round keeps for it. -/
def selO (n : Nat) (k : Nat) (o : Obj) : Prop := k < n ∨ ¬ IsTy 57 o
def selY (n : Nat) (k : Nat) (o : Obj) : Prop := k < n ∨ IsTy 57 o ∨ IsTy 84 o
/-- The next place at which a token may begin. -/
def nx (s : ByteArray) (q : Nat) : Nat := q + (nextR s q).text.size + passN (bytesFrom s (q + (nextR s q).text.size))
/-- The tokens from a place on up to the first fault, and that. -/
def goH (s : ByteArray) : Nat → Nat → List Res × Int × Int
  | 0, _ => ([], 0, 0)
  | f + 1, q => if q < s.size then (if (nextR s q).fr = 0 then (nextR s q :: (goH s f (nx s q)).1, (goH s f (nx s q)).2) else ([], (nextR s q).fa, (nextR s q).fr)) else ([], 0, 0)
def frontR (s : ByteArray) : List Res × Int × Int := goH s (s.size + 1) (passN (bytesFrom s 0))
theorem span_pos {p : Int → Bool} {c : UInt8} {r : List UInt8} (h : p (c.toNat : Int) = true) : 0 < spanN p (c :: r) := by
  simp only [spanN]; rw [if_pos h]; omega
theorem extract_size (s : ByteArray) (p n : Nat) (h : n ≤ s.size - p) (hp : p ≤ s.size) : ((s.extract p s.size).extract 0 n).size = n := by
  simp; omega
theorem bt_byte (s : ByteArray) (q : Nat) (hq : q < s.size) : ((s[q]'hq).toNat : Int) = PlainAid.bt s q := PlainAid.get_bt s q hq
/-- A token takes a byte at least, and lies within its text. -/
theorem nextR_good (s : ByteArray) (q : Nat) (hq : q < s.size) (h : (nextR s q).fr = 0) : 0 < (nextR s q).text.size ∧ q + (nextR s q).text.size ≤ s.size ∧ (nextR s q).place = q := by
  have hl := from_len s q
  have hc := bt_byte s q hq
  have hf := from_at s q hq
  unfold nextR at h ⊢
  by_cases h0 : letterB (PlainAid.bt s q) = true
  · rw [if_pos h0] at h ⊢
    have hle := spanN_le namedB (bytesFrom s q)
    have hz : (nameX s q).size = spanN namedB (bytesFrom s q) := extract_size s q _ (by omega) (by omega)
    have hpos : 0 < spanN namedB (bytesFrom s q) := by
      rw [hf]; exact span_pos (by rw [hc]; unfold namedB; rw [h0]; rfl)
    unfold nameR at h ⊢
    split
    · refine ⟨show 0 < (nameX s q).size by omega, show q + (nameX s q).size ≤ s.size by omega, rfl⟩
    · rename_i hw
      rw [if_neg hw] at h
      split
      · rename_i h32
        rw [if_pos h32] at h
        simp at h
      · refine ⟨show 0 < (nameX s q).size by omega, show q + (nameX s q).size ≤ s.size by omega, rfl⟩
  · rw [if_neg h0] at h ⊢
    by_cases h1 : digitB (PlainAid.bt s q) = true
    · rw [if_pos h1] at h ⊢
      have hle := spanN_le digitB (bytesFrom s q)
      have hz : (numX s q).size = spanN digitB (bytesFrom s q) := extract_size s q _ (by omega) (by omega)
      have hpos : 0 < spanN digitB (bytesFrom s q) := by
        rw [hf]; exact span_pos (by rw [hc]; exact h1)
      unfold numR at h ⊢
      cases hv : valueO (numX s q).data.toList with
      | none => rw [hv] at h; simp [numC] at h
      | some v =>
        rw [hv] at h
        simp only [numC] at h ⊢
        by_cases hb : behindB s q = true
        · rw [if_pos hb] at h; simp at h
        · rw [if_neg hb]; refine ⟨show 0 < (numX s q).size by omega, show q + (numX s q).size ≤ s.size by omega, rfl⟩
    · rw [if_neg h1] at h ⊢
      by_cases h2 : signB (PlainAid.bt s q) = true
      · rw [if_pos h2] at h ⊢
        have hle := ahead_le (bytesFrom s q)
        have hz : (signX s q).size = aheadN (bytesFrom s q) := extract_size s q _ (by omega) (by omega)
        have hpos : 0 < aheadN (bytesFrom s q) := by
          unfold aheadN
          split
          · omega
          · rw [hf]; simp only [firstN]; rw [if_pos (by rw [hc]; exact h2)]; omega
        unfold signR
        refine ⟨show 0 < (signX s q).size by omega, show q + (signX s q).size ≤ s.size by omega, rfl⟩
      · rw [if_neg h2] at h
        simp at h
theorem goH_end {s : ByteArray} {f q : Nat} (h : ¬ q < s.size) : goH s f q = ([], 0, 0) := by
  cases f with
  | zero => rfl
  | succ f => simp only [goH]; rw [if_neg h]
theorem goH_fault {s : ByteArray} {f q : Nat} (h : q < s.size) (hf : ¬ (nextR s q).fr = 0) : goH s (f + 1) q = ([], (nextR s q).fa, (nextR s q).fr) := by
  simp only [goH]; rw [if_pos h, if_neg hf]
theorem goH_tok {s : ByteArray} {f q : Nat} (h : q < s.size) (hf : (nextR s q).fr = 0) : goH s (f + 1) q = (nextR s q :: (goH s f (nx s q)).1, (goH s f (nx s q)).2) := by
  simp only [goH]; rw [if_pos h, if_pos hf]
def okR (s : ByteArray) (pre : List Res) (x : Res) : Prop := (pre ++ [x]) <+: (frontR s).1
def encR (x : Res) : Array Value := #[tokV x.kind x.text x.wd x.place]
theorem Sc.keep {W W' : World} {b : Nat} {s : ByteArray} {p fa fr : Int} {sel : Nat → Obj → Prop} (h : Sc W b s p fa fr) (hk : Keep sel W W') (hs : sel b (.cells #[.string s, .int .i64 p, .int .i64 fa, .int .i64 fr] 57 (0, 0))) : Sc W' b s p fa fr := hk.block _ _ h hs
def Fm (W : World) (g b : Nat) : Prop := W.heap[g]? = some (.cells (famCells b) 84 (0, 0))
theorem not_ty {t u : TypeId} {cs : Array Value} {f : Nat × Nat} (h : t ≠ u) : ¬ IsTy u (.cells cs t f) := fun ⟨_, _, e⟩ => by
  cases e; exact h rfl
theorem keepO_below {n : Nat} {W W' : World} (h : Below W.heap.size W W') : Keep (selO n) W W' := Keep.of_below h
end Go.Proofs.YteedpojchapjgaaDoor

/- The lexer: a name or a word; a sign; a number: what the scanner finds at a byte. -/
import Derived.Test.YteedpojchapjgaaDoorToken
import Derived.RegionTactic
import Derived.ChangeAlike
namespace Go.Proofs.YteedpojchapjgaaDoor
open Go.RowKit
set_option linter.unusedVariables false

/-- What is found at a byte: a token, and a fault (its rule is 0 where there is none). -/
structure Res where
  kind : Int
  text : ByteArray
  wd : Int
  place : Int
  fa : Int
  fr : Int
def Res.val (r : Res) : Value := .tuple #[tokV r.kind r.text r.wd r.place, faultV r.fa r.fr]
theorem drew2 {w : World} {A B : Obj} (n : Nat) : Below w.heap.size w (((w.alloc A).alloc B).drewN n) := by
  have h := ((Below.refl w.heap.size w).alloc (Nat.le_refl _) A).alloc (by simp) B
  exact ⟨h.os, h.tape, h.output, h.size, h.block⟩
theorem LTabs.drew2 {w : World} (T : LTabs w) (A B : Obj) (n : Nat) : LTabs (((w.alloc A).alloc B).drewN n) := T.below (Nat.le_refl _) (Proofs.YteedpojchapjgaaDoor.drew2 n)
theorem Sc.drew2 {w : World} {b : Nat} {s : ByteArray} {p fa fr : Int} (h : Sc w b s p fa fr) (A B : Obj) (n : Nat) : Sc (((w.alloc A).alloc B).drewN n) b s p fa fr := h.below (Proofs.YteedpojchapjgaaDoor.drew2 n) h.lt
theorem tail_list (s : ByteArray) (p : Nat) : (s.extract p s.size).data.toList = bytesFrom s p := by
  rw [Lib.extract_data]
  unfold bytesFrom
  rw [List.take_of_length_le (by simp)]
/-- The longest name that begins at a byte. -/
def nameX (s : ByteArray) (p : Nat) : ByteArray := (s.extract p s.size).extract 0 (spanN namedB (bytesFrom s p))
def nameR (s : ByteArray) (p : Nat) : Res :=
  if wordB (nameX s p) = true then ⟨2, nameX s p, 0, p, 0, 0⟩
  else if 32 < (nameX s p).size then ⟨0, ⟨#[]⟩, 0, 0, p + 32, 2⟩
  else ⟨1, nameX s p, 0, p, 0, 0⟩
theorem token_lit (b : Nat) (s x : ByteArray) (p fa fr kind wd : Int) (w : World) (hx : x.size ≤ 281474976710656) (hs : Sc w b s p fa fr) :
    Calls Tryd.prog 107 #[.pointer (some ⟨b, 0, none⟩), .int .u8 kind, .string x, .int .i64 wd] w fun e w' => e = .returned (.tuple #[.agg #[.int .u8 kind, .string x, .int .i64 wd, .int .i64 p], .agg #[.int .i64 0, .int .i64 0]]) ∧ Below w.heap.size w w' :=
  token_any b s x p fa fr kind wd w hx hs
theorem stored6 {w w1 : World} (hw : Below w.heap.size w w1) (u0 u1 u2 u3 v0 v1 : Value) : Below w.heap.size w ((((((w1.setCell ⟨w.heap.size, 0, none⟩ u0).setCell ⟨w.heap.size, 1, none⟩ u1).setCell ⟨w.heap.size, 2, none⟩ u2).setCell ⟨w.heap.size, 3, none⟩ u3).setCell ⟨w.heap.size + 1, 0, none⟩ v0).setCell ⟨w.heap.size + 1, 1, none⟩ v1) :=
  (((((hw.setCell (p := ⟨w.heap.size, 0, none⟩) (Nat.le_refl _) _).setCell (p := ⟨w.heap.size, 1, none⟩) (Nat.le_refl _) _).setCell (p := ⟨w.heap.size, 2, none⟩) (Nat.le_refl _) _).setCell (p := ⟨w.heap.size, 3, none⟩) (Nat.le_refl _) _).setCell (p := ⟨w.heap.size + 1, 0, none⟩) (Nat.le_succ _) _).setCell (p := ⟨w.heap.size + 1, 1, none⟩) (Nat.le_succ _) _
theorem name_word {s : ByteArray} {p : Nat} {X : ByteArray} (hX : X = nameX s p) (h : wordB X = true) : (nameR s p).val = .tuple #[.agg #[.int .u8 2, .string X, .int .i64 0, .int .i64 p], .agg #[.int .i64 0, .int .i64 0]] := by
  subst hX; unfold nameR; rw [if_pos h]; rfl
theorem name_long {s : ByteArray} {p : Nat} {X : ByteArray} (hX : X = nameX s p) (h : wordB X = false) (h2 : 32 < X.size) : (nameR s p).val = .tuple #[.agg #[.int .u8 0, .string ⟨#[]⟩, .int .i64 0, .int .i64 0], .agg #[.int .i64 (p + 32), .int .i64 2]] := by
  subst hX; unfold nameR; rw [if_neg (by rw [h]; decide), if_pos h2]; rfl
theorem name_name {s : ByteArray} {p : Nat} {X : ByteArray} (hX : X = nameX s p) (h : wordB X = false) (h2 : ¬ 32 < X.size) : (nameR s p).val = .tuple #[.agg #[.int .u8 1, .string X, .int .i64 0, .int .i64 p], .agg #[.int .i64 0, .int .i64 0]] := by
  subst hX; unfold nameR; rw [if_neg (by rw [h]; decide), if_neg h2]; rfl
set_option maxHeartbeats 4000000 in
theorem name_any (b : Nat) (s : ByteArray) (p : Nat) (fa fr : Int) (w : World) (T : LTabs w) (hs62 : s.size ≤ 281474976710656) (hp : p < s.size) (hs : Sc w b s p fa fr) :
    Calls Tryd.prog 75 #[.pointer (some ⟨b, 0, none⟩)] w fun e w' => e = .returned (nameR s p).val ∧ Below w.heap.size w w' := by
  have hlt := hs.lt
  obtain ⟨⟨c0, c1, c2, c3⟩, f1, f2, f3⟩ := hs.cells
  have HS := Lib.hid hs
  have HT := Lib.hid T
  clear hs T
  obtain ⟨V, hV⟩ : ∃ V, Hid (V = (nameR s p).val) := ⟨_, rfl⟩
  rw [← hV.out]
  go_enter Tryd.func75, Tryd.ntmps75
  go_wp2
  go_quiet (fail)
  obtain ⟨X0, hX0⟩ : ∃ X0, Hid (X0 = s.extract p s.size) := ⟨_, rfl⟩
  rw [← hX0.out]
  have hz0 : X0.size ≤ 281474976710656 := by rw [hX0.out]; simp; omega
  obtain ⟨n, hn⟩ : ∃ n, Hid (n = spanN namedB (bytesFrom s p)) := ⟨_, rfl⟩
  have hl0 : X0.data.toList = bytesFrom s p := by rw [hX0.out]; exact tail_list s p
  have hnle : n ≤ X0.size := by
    have := spanN_le namedB (bytesFrom s p)
    rw [← hn.out, ← hl0] at this
    simpa using this
  have H1 : Hid (∀ W : World, Calls Tryd.prog 35 #[.string X0, .func (.func 36) #[] #[]] W fun e w' => e = .returned (.int .i64 n) ∧ W = w') := fun W => by
    have k := span_named X0 (by omega) W
    rw [hl0, ← hn.out] at k
    exact k
  clear hl0
  go_wp2_with (go_at_call 35; refine (H1.out _).mono ?_; rintro e w' ⟨rfl, rfl⟩)
  obtain ⟨X, hX⟩ : ∃ X, Hid (X = X0.extract 0 n) := ⟨_, rfl⟩
  rw [← hX.out]
  have hXn : Hid (X = nameX s p) := by rw [Hid, hX.out, hX0.out, hn.out]; rfl
  have hzX : X.size ≤ 281474976710656 := by rw [hX.out]; simp; omega
  obtain ⟨q, hq⟩ : ∃ q, Hid (q = wordB X) := ⟨_, rfl⟩
  have H2 : Hid (∀ W : World, LTabs W → Calls Tryd.prog 17 #[.string X] W fun e w' => e = .returned (.bool q) ∧ W = w') := fun W TW => by
    rw [hq.out]; exact word_any X W TW
  refine (H2.out _ (HT.out.drew2 _ _ _)).mono ?_
  rintro e w' ⟨rfl, rfl⟩
  clear hz0 hnle H1 H2
  cases q
  · by_cases h32 : 32 < X.size
    · have hres : Hid (V = .tuple #[.agg #[.int .u8 0, .string ⟨#[]⟩, .int .i64 0, .int .i64 0], .agg #[.int .i64 (p + 32), .int .i64 2]]) := by rw [Hid, hV.out]; exact name_long hXn.out hq.out.symm h32
      go_wp2
      go_region
      all_goals
        go_wp2
        rw [hres.out]
        refine bodyPost_ret (v := .tuple #[.agg #[.int .u8 0, .string ⟨#[]⟩, .int .i64 0, .int .i64 0], .agg #[.int .i64 (p + 32), .int .i64 2]]) (by simp [results, Tryd.results75, go_sem]) rfl ⟨rfl, stored6 (drew2 _) _ _ _ _ _ _⟩
    · have hres : Hid (V = .tuple #[.agg #[.int .u8 1, .string X, .int .i64 0, .int .i64 p], .agg #[.int .i64 0, .int .i64 0]]) := by rw [Hid, hV.out]; exact name_name hXn.out hq.out.symm h32
      go_wp2_with (go_at_call 107; go_must (refine (token_lit b s X p fa fr 1 0 _ hzX (HS.out.drew2 _ _ _)).mono ?_; rintro e w1 ⟨rfl, hb⟩; obtain ⟨hA, hB, hz, hw⟩ := kept2 hb w tokZ faultZ rfl rfl rfl rfl; obtain ⟨⟨a0, a1, a2, a3⟩, a4, a5, a6, a7⟩ := row4 hA; obtain ⟨⟨b0, b1⟩, b2, b3⟩ := row2 hB; clear hA hB hb))
      rw [hres.out]
      refine bodyPost_ret (v := .tuple #[.agg #[.int .u8 1, .string X, .int .i64 0, .int .i64 p], .agg #[.int .i64 0, .int .i64 0]]) (by simp [results, Tryd.results75, go_sem, a0, a1, a2, a3, b0, b1]) rfl ⟨rfl, stored6 hw _ _ _ _ _ _⟩
  · have hres : Hid (V = .tuple #[.agg #[.int .u8 2, .string X, .int .i64 0, .int .i64 p], .agg #[.int .i64 0, .int .i64 0]]) := by rw [Hid, hV.out]; exact name_word hXn.out hq.out.symm
    go_wp2_with (go_at_call 107; go_must (refine (token_lit b s X p fa fr 2 0 _ hzX (HS.out.drew2 _ _ _)).mono ?_; rintro e w1 ⟨rfl, hb⟩; obtain ⟨hA, hB, hz, hw⟩ := kept2 hb w tokZ faultZ rfl rfl rfl rfl; obtain ⟨⟨a0, a1, a2, a3⟩, a4, a5, a6, a7⟩ := row4 hA; obtain ⟨⟨b0, b1⟩, b2, b3⟩ := row2 hB; clear hA hB hb))
    rw [hres.out]
    refine bodyPost_ret (v := .tuple #[.agg #[.int .u8 2, .string X, .int .i64 0, .int .i64 p], .agg #[.int .i64 0, .int .i64 0]]) (by simp [results, Tryd.results75, go_sem, a0, a1, a2, a3, b0, b1]) rfl ⟨rfl, stored6 hw _ _ _ _ _ _⟩
end Go.Proofs.YteedpojchapjgaaDoor

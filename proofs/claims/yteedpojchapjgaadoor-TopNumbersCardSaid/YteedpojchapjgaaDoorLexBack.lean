/- The lexer over lists of bytes: what is printed is cut as it was; what is cut may be printed. -/
import Derived.Test.YteedpojchapjgaaDoorWPrints
import Derived.Test.YteedpojchapjgaaDoorBlanks2
namespace Go.Proofs.YteedpojchapjgaaDoor
open Go.RowKit
set_option linter.unusedVariables false

/-- The text of a token: alone it is that token; ahead of it nothing is gone over. -/
structure TokTx (l : List UInt8) (k wd : Int) : Prop where
  next : nextL l = ⟨k, l.length, wd, 0, 0⟩
  pos : ¬ l = []
  quiet : ∀ Z, stopH Z = true → sk false (l ++ Z) = 0
theorem stop_not {Z : List UInt8} (h : stopH Z = true) : ¬ Z.head? = some 47 := by
  cases Z with
  | nil => simp
  | cons c r =>
    intro e
    have e : c = 47 := by simpa using e
    subst e
    exact absurd (show blankB ((47 : UInt8).toNat : Int) = true from h) (by decide)
/-- A byte that is neither blank nor a stroke: there the going stops. -/
theorem sk_first {c : UInt8} (r : List UInt8) (hb : blankB (c.toNat : Int) = false) (hc : ¬ c = 47) : sk false (c :: r) = 0 := by
  simp only [sk]
  rw [if_neg (by rw [hb]; decide), if_neg (fun h => hc h.1)]
theorem letter_not {c : UInt8} (h : letterB (c.toNat : Int) = true) : blankB (c.toNat : Int) = false ∧ ¬ c = 47 ∧ digitB (c.toNat : Int) = false := by
  refine ⟨?_, ?_, ?_⟩
  · cases hb : blankB (c.toNat : Int) with
    | false => rfl
    | true => rw [letter_blank c hb] at h; cases h
  · rintro rfl; revert h; decide
  · unfold letterB at h
    unfold digitB
    have h := of_decide_eq_true h
    exact b_f (by omega)
theorem digit_not {c : UInt8} (h : digitB (c.toNat : Int) = true) : blankB (c.toNat : Int) = false ∧ ¬ c = 47 ∧ letterB (c.toNat : Int) = false := by
  refine ⟨?_, ?_, ?_⟩
  · cases hb : blankB (c.toNat : Int) with
    | false => rfl
    | true => rw [digit_blank c hb] at h; cases h
  · rintro rfl; revert h; decide
  · obtain ⟨h1, h2⟩ := digitB_bd h
    unfold letterB
    exact b_f (by omega)
theorem digits_span : ∀ (l : List UInt8) (v z : Int), digitsV l v = some z → spanN digitB l = l.length
  | [], _, _, _ => rfl
  | c :: r, v, z, h => by
    simp only [digitsV] at h
    split at h
    · cases h
    · rename_i hd
      have hd' : digitB (c.toNat : Int) = true := by simpa using hd
      split at h
      · cases h
      · simp only [spanN, List.length_cons]
        rw [if_pos hd', digits_span r _ _ h]
theorem word_tx : ∀ l, wordL l = true → TokTx l 2 0 := by
  intro l h
  unfold wordL at h
  simp only [Bool.or_eq_true, beq_iff_eq] at h
  rcases h with ((((((((h | h) | h) | h) | h) | h) | h) | h) | h) | h <;> subst h <;>
    exact ⟨by kernel_rfl, by simp, fun Z _ => sk_first _ (by decide) (by decide)⟩
theorem sign_tx : ∀ l, signL l = true → TokTx l 4 0 := by
  intro l h
  unfold signL at h
  simp only [Bool.or_eq_true, beq_iff_eq] at h
  rcases h with ((((((((((((((((((((((h | h) | h) | h) | h) | h) | h) | h) | h) | h) | h) | h) | h) | h) | h) | h) | h) | h) | h) | h) | h) | h) | h) | h <;> subst h <;>
    (refine ⟨by kernel_rfl, by simp, fun Z hZ => ?_⟩; first
      | exact sk_first _ (by decide) (by decide)
      | (simp only [List.cons_append, List.nil_append, sk]; rw [if_neg (by decide), if_neg (fun e => stop_not hZ e.2)]))
theorem name_tx {s : ByteArray} (h : nameB s = true) : TokTx s.data.toList 1 0 := by
  unfold nameB at h
  simp only [Bool.and_eq_true, decide_eq_true_eq, Bool.not_eq_true'] at h
  obtain ⟨h0, h32, hd, hw, hs⟩ := h
  have hl : s.data.toList = s[0] :: bytesFrom s 1 := from_at s 0 h0
  have hb0 := PlainAid.get_bt s 0 h0
  have hz : s.data.toList.length = s.size := by simp
  have hn : namedB (s[0].toNat : Int) = true := by
    by_cases hn : namedB (s[0].toNat : Int) = true
    · exact hn
    · rw [hl] at hs
      simp only [spanN] at hs
      rw [if_neg hn] at hs
      omega
  have hlet : letterB (s[0].toNat : Int) = true := by
    unfold namedB at hn
    rw [hb0] at hn ⊢
    rw [hd, Bool.or_false] at hn
    exact hn
  obtain ⟨q1, q2, q3⟩ := letter_not hlet
  have hw' : wordL s.data.toList = false := by rw [← Lib.toList_data, ← wordB_list]; exact hw
  refine ⟨?_, fun e => by rw [e] at hz; simp at hz; omega, fun Z _ => by rw [hl, List.cons_append]; exact sk_first _ q1 q2⟩
  have e1 : nextL s.data.toList = nameL s.data.toList := by
    rw [hl]
    simp only [nextL]
    rw [if_pos hlet]
  rw [e1]
  unfold nameL
  rw [hs, List.take_of_length_le (by omega), hw', if_neg (by decide), if_neg (by omega), hz]
theorem number_tx {l : List UInt8} {v : Int} (h : valueO l = some v) : TokTx l 3 v := by
  cases l with
  | nil => cases h
  | cons c r =>
    have h2 := h
    simp only [valueO] at h
    split at h
    · cases h
    · have hs := digits_span _ _ _ h
      simp only [digitsV] at h
      split at h
      · cases h
      · rename_i hd
        have hd' : digitB (c.toNat : Int) = true := by simpa using hd
        obtain ⟨q1, q2, q3⟩ := digit_not hd'
        refine ⟨?_, by simp, fun Z _ => by rw [List.cons_append]; exact sk_first _ q1 q2⟩
        have e1 : nextL (c :: r) = numL (c :: r) := by
          simp only [nextL]
          rw [if_neg (by rw [q3]; decide), if_pos hd']
        rw [e1]
        unfold numL
        rw [hs, List.take_of_length_le (Nat.le_refl _), List.drop_of_length_le (Nat.le_refl _), h2]
        rfl
theorem ok_tx {x : Res} (h : okT x = true) : TokTx x.text.data.toList x.kind x.wd := by
  unfold okT mayB at h
  split at h
  · rename_i hk
    split at h
    · rename_i v hv
      have : v = x.wd := by simpa using h
      rw [hk, ← this]
      exact number_tx hv
    · cases h
  · split at h
    · rename_i hw
      rw [hw]
      split at h
      · rename_i hk; rw [hk]; exact name_tx h
      · split at h
        · rename_i hk; rw [hk]; exact word_tx _ (by rw [← Lib.toList_data, ← wordB_list]; exact h)
        · split at h
          · rename_i hk; rw [hk]; exact sign_tx _ (by rw [← Lib.toList_data, ← isSign_list]; exact h)
          · cases h
    · cases h
theorem tail_stop (xs : List Res) : stopH (tailB xs) = true := by
  cases xs with
  | nil => rfl
  | cons x r => show blankB _ = true; decide
theorem one_back {x : Res} (h : okT x = true) (e : Nat) (Z : List UInt8) (hZ : stopH Z = true) {l : List UInt8} {z : Nat} (hl : l.drop z = x.text.data.toList ++ Z) (hz : sk false l = z) :
    ∃ r, bare r = bare x ∧ restL e l = (r :: (restL (e + z + x.text.data.toList.length) Z).1, (restL (e + z + x.text.data.toList.length) Z).2) := by
  obtain ⟨t1, t2, _⟩ := ok_tx h
  have hn : nextL (x.text.data.toList ++ Z) = ⟨x.kind, x.text.data.toList.length, x.wd, 0, 0⟩ := by rw [nextL_stop t2 hZ, t1]
  have hr := rest_tok (e := e) (l := l) (m := x.text.data.toList ++ Z) (by rw [hz]; exact hl) (by rw [hn])
  rw [hn, hz] at hr
  simp only at hr
  rw [List.drop_left] at hr
  refine ⟨_, ?_, hr⟩
  unfold toRes bare
  rw [if_pos rfl]
  simp only [List.take_left]
theorem tail_back : ∀ (xs : List Res), (∀ x ∈ xs, okT x = true) → ∀ e, ∃ ys, restL e (tailB xs) = (ys, 0, 0) ∧ ys.map bare = xs.map bare
  | [], _, e => ⟨[], rest_nil rfl, rfl⟩
  | x :: r, h, e => by
    have hx := h x (List.mem_cons_self ..)
    have hz : sk false (tailB (x :: r)) = 1 := by
      simp only [tailB]
      rw [sk_blank _ (by decide), (ok_tx hx).quiet _ (tail_stop r)]
    obtain ⟨t, ht, hr⟩ := one_back hx e (tailB r) (tail_stop r) (l := tailB (x :: r)) (z := 1) rfl hz
    obtain ⟨ys, hy1, hy2⟩ := tail_back r (fun y hy => h y (List.mem_cons_of_mem _ hy)) (e + 1 + x.text.data.toList.length)
    rw [hy1] at hr
    exact ⟨t :: ys, hr, by rw [List.map_cons, List.map_cons, ht, hy2]⟩
theorem join_back (xs : List Res) (h : ∀ x ∈ xs, okT x = true) : ∃ ys, restL 0 (joinB xs) = (ys, 0, 0) ∧ ys.map bare = xs.map bare := by
  cases xs with
  | nil => exact ⟨[], rest_nil rfl, rfl⟩
  | cons x r =>
    have hx := h x (List.mem_cons_self ..)
    have hz : sk false (joinB (x :: r)) = 0 := (ok_tx hx).quiet _ (tail_stop r)
    obtain ⟨t, ht, hr⟩ := one_back hx 0 (tailB r) (tail_stop r) (l := joinB (x :: r)) (z := 0) rfl hz
    obtain ⟨ys, hy1, hy2⟩ := tail_back r (fun y hy => h y (List.mem_cons_of_mem _ hy)) (0 + 0 + x.text.data.toList.length)
    rw [hy1] at hr
    exact ⟨t :: ys, hr, by rw [List.map_cons, List.map_cons, ht, hy2]⟩
/-- What is printed is cut as it was. -/
theorem print_scan {xs : List Res} (h : (printX xs).2 = 0) : ∃ ys, scanX (printX xs).1 = (ys, 0, 0, 0) ∧ EqToks false ys xs := by
  unfold printX at h ⊢
  split at h
  · rename_i ha
    split at h
    · cases h
    · rename_i hl
      rw [if_pos ha, if_neg hl]
      obtain ⟨ys, hy1, hy2⟩ := join_back xs (fun x hx => List.all_eq_true.1 ha x hx)
      have hd : (⟨(joinB xs).toArray⟩ : ByteArray).data.toList = joinB xs := rfl
      have hz : (⟨(joinB xs).toArray⟩ : ByteArray).size = joinN xs := by
        rw [← joinB_len]; rfl
      have e : frontR ⟨(joinB xs).toArray⟩ = (ys, 0, 0) := by rw [front_list, hd, hy1]
      refine ⟨ys, ?_, toks_bare hy2⟩
      show scanX ⟨(joinB xs).toArray⟩ = _
      rw [scan_front (by rw [hz]; omega) (by rw [e]), e]
  · cases h
end Go.Proofs.YteedpojchapjgaaDoor

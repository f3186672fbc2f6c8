/- The lexer: a sign, and a number: what the scanner finds at a byte. -/
import Derived.Test.YteedpojchapjgaaDoorName
import Derived.WalkSpells
namespace Go.Proofs.YteedpojchapjgaaDoor
open Go.RowKit
set_option linter.unusedVariables false

theorem prefix_len {p l : List UInt8} (h : Lib.hasPrefix l p = true) : p.length ≤ l.length := by
  have h' : p.isPrefixOf l = true := h
  exact (List.isPrefixOf_iff_prefix.1 h').length_le
theorem ahead_le (l : List UInt8) : aheadN l ≤ l.length := by
  unfold aheadN
  split
  · rename_i h
    unfold longB at h
    simp only [Bool.or_eq_true] at h
    have key : ∀ k, k < 6 → Lib.hasPrefix l (longAt k).data.toList = true → 2 ≤ l.length := by
      intro k hk hp
      have h1 := prefix_len hp
      have h2 : (longAt k).data.toList.length = 2 := by
        have : k = 0 ∨ k = 1 ∨ k = 2 ∨ k = 3 ∨ k = 4 ∨ k = 5 := by omega
        rcases this with rfl | rfl | rfl | rfl | rfl | rfl <;> rfl
      omega
    rcases h with ((((h | h) | h) | h) | h) | h
    · exact key 0 (by omega) h
    · exact key 1 (by omega) h
    · exact key 2 (by omega) h
    · exact key 3 (by omega) h
    · exact key 4 (by omega) h
    · exact key 5 (by omega) h
  · unfold firstN
    split
    · exact Nat.zero_le _
    · split <;> simp
def signX (s : ByteArray) (p : Nat) : ByteArray := (s.extract p s.size).extract 0 (aheadN (bytesFrom s p))
def signR (s : ByteArray) (p : Nat) : Res := ⟨4, signX s p, 0, p, 0, 0⟩
set_option maxHeartbeats 4000000 in
theorem sign_at (b : Nat) (s : ByteArray) (p : Nat) (fa fr : Int) (w : World) (T : LTabs w) (hs62 : s.size ≤ 281474976710656) (hp : p < s.size) (hs : Sc w b s p fa fr) :
    Calls Tryd.prog 77 #[.pointer (some ⟨b, 0, none⟩)] w fun e w' => e = .returned (signR s p).val ∧ Below w.heap.size w w' := by
  have hlt := hs.lt
  obtain ⟨⟨c0, c1, c2, c3⟩, f1, f2, f3⟩ := hs.cells
  have HS := Lib.hid hs
  have HT := Lib.hid T
  clear hs T
  obtain ⟨V, hV⟩ : ∃ V, Hid (V = (signR s p).val) := ⟨_, rfl⟩
  rw [← hV.out]
  go_enter Tryd.func77, Tryd.ntmps77
  go_wp2
  go_quiet (fail)
  obtain ⟨X0, hX0⟩ : ∃ X0, Hid (X0 = s.extract p s.size) := ⟨_, rfl⟩
  rw [← hX0.out]
  have hz0 : X0.size ≤ 281474976710656 := by rw [hX0.out]; simp; omega
  obtain ⟨n, hn⟩ : ∃ n, Hid (n = aheadN (bytesFrom s p)) := ⟨_, rfl⟩
  have hl0 : X0.data.toList = bytesFrom s p := by rw [hX0.out]; exact tail_list s p
  have hnle : n ≤ X0.size := by
    have := ahead_le (bytesFrom s p)
    rw [← hn.out, ← hl0] at this
    simpa using this
  have H1 : Hid (∀ W : World, LTabs W → Calls Tryd.prog 39 #[.string X0] W fun e w' => e = .returned (.int .i64 n) ∧ W = w') := fun W TW => by
    have k := ahead_any X0 W TW
    rw [hl0, ← hn.out] at k
    exact k
  clear hl0
  go_wp2_with (go_at_call 39; refine (H1.out _ (HT.out.drew2 _ _ _)).mono ?_; rintro e w' ⟨rfl, rfl⟩)
  obtain ⟨X, hX⟩ : ∃ X, Hid (X = X0.extract 0 n) := ⟨_, rfl⟩
  rw [← hX.out]
  have hzX : X.size ≤ 281474976710656 := by rw [hX.out]; simp; omega
  have hres : Hid (V = .tuple #[.agg #[.int .u8 4, .string X, .int .i64 0, .int .i64 p], .agg #[.int .i64 0, .int .i64 0]]) := by
    rw [Hid, hV.out, show X = signX s p by rw [hX.out, hX0.out, hn.out]; rfl]; rfl
  clear hz0 hnle H1
  refine (token_lit b s X p fa fr 4 0 _ hzX (HS.out.drew2 _ _ _)).mono ?_
  rintro e w1 ⟨rfl, hb⟩
  obtain ⟨hA, hB, hz, hw⟩ := kept2 hb w tokZ faultZ rfl rfl rfl rfl
  obtain ⟨⟨a0, a1, a2, a3⟩, a4, a5, a6, a7⟩ := row4 hA
  obtain ⟨⟨b0, b1⟩, b2, b3⟩ := row2 hB
  clear hA hB hb
  go_wp2
  rw [hres.out]
  refine bodyPost_ret (v := .tuple #[.agg #[.int .u8 4, .string X, .int .i64 0, .int .i64 p], .agg #[.int .i64 0, .int .i64 0]]) (by simp [results, Tryd.results77, go_sem, a0, a1, a2, a3, b0, b1]) rfl ⟨rfl, stored6 hw _ _ _ _ _ _⟩
def numX (s : ByteArray) (p : Nat) : ByteArray := (s.extract p s.size).extract 0 (spanN digitB (bytesFrom s p))
/-- Does a letter stand behind the digits? -/
def behindB (s : ByteArray) (p : Nat) : Bool := decide (p + spanN digitB (bytesFrom s p) < s.size) && letterB (PlainAid.bt s (p + spanN digitB (bytesFrom s p)))
def numC (s : ByteArray) (p n : Nat) (X : ByteArray) : Option Int → Res
  | none => ⟨0, ⟨#[]⟩, 0, 0, p, 3⟩
  | some v => if behindB s p = true then ⟨0, ⟨#[]⟩, 0, 0, p + (n : Nat), 4⟩ else ⟨3, X, v, p, 0, 0⟩
def numR (s : ByteArray) (p : Nat) : Res := numC s p (spanN digitB (bytesFrom s p)) (numX s p) (valueO (numX s p).data.toList)
theorem bt_extract (s : ByteArray) (p n : Nat) (h : p + n < s.size) : PlainAid.bt (s.extract p s.size) n = PlainAid.bt s (p + n) := by
  have h1 : n < (s.extract p s.size).size := by simp; omega
  have e1 := PlainAid.get_bt (s.extract p s.size) n h1
  have e2 := PlainAid.get_bt s (p + n) h
  rw [← e1, ← e2]
  rw [ByteArray.getElem_extract]
set_option maxHeartbeats 4000000 in
theorem number_any (b : Nat) (s : ByteArray) (p : Nat) (fa fr : Int) (w : World) (hs62 : s.size ≤ 281474976710656) (hp : p < s.size) (hs : Sc w b s p fa fr) :
    Calls Tryd.prog 76 #[.pointer (some ⟨b, 0, none⟩)] w fun e w' => e = .returned (numR s p).val ∧ Below w.heap.size w w' := by
  have hlt := hs.lt
  obtain ⟨⟨c0, c1, c2, c3⟩, f1, f2, f3⟩ := hs.cells
  have HS := Lib.hid hs
  clear hs
  obtain ⟨V, hV⟩ : ∃ V, Hid (V = (numR s p).val) := ⟨_, rfl⟩
  rw [← hV.out]
  go_enter Tryd.func76, Tryd.ntmps76
  go_wp2
  go_quiet (fail)
  obtain ⟨X0, hX0⟩ : ∃ X0, Hid (X0 = s.extract p s.size) := ⟨_, rfl⟩
  rw [← hX0.out]
  have hz0 : X0.size ≤ 281474976710656 := by rw [hX0.out]; simp; omega
  obtain ⟨n, hn⟩ : ∃ n, Hid (n = spanN digitB (bytesFrom s p)) := ⟨_, rfl⟩
  have hl0 : X0.data.toList = bytesFrom s p := by rw [hX0.out]; exact tail_list s p
  have hnle : n ≤ X0.size := by
    have := spanN_le digitB (bytesFrom s p)
    rw [← hn.out, ← hl0] at this
    simpa using this
  have H1 : Hid (∀ W : World, Calls Tryd.prog 35 #[.string X0, .func (.func 34) #[] #[]] W fun e w' => e = .returned (.int .i64 n) ∧ W = w') := fun W => by
    have k := span_digit X0 (by omega) W
    rw [hl0, ← hn.out] at k
    exact k
  clear hl0
  go_wp2_with (go_at_call 35; refine (H1.out _).mono ?_; rintro e w' ⟨rfl, rfl⟩)
  obtain ⟨X, hX⟩ : ∃ X, Hid (X = X0.extract 0 n) := ⟨_, rfl⟩
  rw [← hX.out]
  have hXn : Hid (X = numX s p) := by rw [Hid, hX.out, hX0.out, hn.out]; rfl
  have hzX : X.size ≤ 281474976710656 := by rw [hX.out]; simp; omega
  have hsz0 : X0.size = s.size - p := by rw [hX0.out]; simp
  obtain ⟨o, ho⟩ : ∃ o, Hid (o = valueO X.data.toList) := ⟨_, rfl⟩
  have H2 : Hid (∀ W : World, Calls Tryd.prog 64 #[.string X] W fun e w' => e = .returned (ValueV o) ∧ W = w') := fun W => by
    rw [ho.out]; exact value_any X (by omega) W
  have hnum : Hid (numR s p = numC s p n X o) := by
    have e : numR s p = numC s p (spanN digitB (bytesFrom s p)) (numX s p) (valueO (numX s p).data.toList) := rfl
    rw [Hid, e, ← hn.out, ← hXn.out, ← ho.out]
  cases o with
  | none =>
    have hres : Hid (V = .tuple #[.agg #[.int .u8 0, .string ⟨#[]⟩, .int .i64 0, .int .i64 0], .agg #[.int .i64 p, .int .i64 3]]) := by rw [Hid, hV.out, hnum.out]; rfl
    have H3 : Hid (∀ W : World, Calls Tryd.prog 64 #[.string X] W fun e w' => e = .returned (.tuple #[.int .i64 0, .bool false]) ∧ W = w') := H2
    clear H2 hsz0
    refine (H3.out _).mono ?_
    rintro e w' ⟨rfl, rfl⟩
    go_wp2
    go_region
    all_goals
      go_wp2
      rw [hres.out]
      refine bodyPost_ret (v := .tuple #[.agg #[.int .u8 0, .string ⟨#[]⟩, .int .i64 0, .int .i64 0], .agg #[.int .i64 p, .int .i64 3]]) (by simp [results, Tryd.results76, go_sem]) rfl ⟨rfl, stored6 (drew2 _) _ _ _ _ _ _⟩
  | some v =>
    have H3 : Hid (∀ W : World, Calls Tryd.prog 64 #[.string X] W fun e w' => e = .returned (.tuple #[.int .i64 v, .bool true]) ∧ W = w') := H2
    clear H2
    by_cases hlast : n < X0.size
    · obtain ⟨c, hc⟩ : ∃ c, Hid (c = PlainAid.bt X0 n) := ⟨_, rfl⟩
      have hbt : ∀ h : n < X0.size, ((X0[n]'h).toNat : Int) = c := fun h => by rw [hc.out]; exact PlainAid.get_bt X0 n h
      have hx0 : 0 ≤ c := by rw [hc.out]; exact PlainAid.bt_nonneg X0 n
      have hx1 : c ≤ 255 := by rw [hc.out]; exact PlainAid.bt_le X0 n
      obtain ⟨q, hq⟩ : ∃ q, Hid (q = letterB c) := ⟨_, rfl⟩
      have H4 : Hid (∀ W : World, Calls Tryd.prog 55 #[.int .u8 c] W fun e w' => e = .returned (.bool q) ∧ W = w') := fun W => by
        rw [hq.out]; exact letter_any c hx0 hx1 W
      have hbe : Hid (behindB s p = q) := by
        rw [Hid]; unfold behindB
        rw [← hn.out, b_t (show p + n < s.size by omega), hq.out, hc.out, hX0.out, bt_extract s p n (by omega)]
        rfl
      clear hsz0
      cases q
      · have hres : Hid (V = .tuple #[.agg #[.int .u8 3, .string X, .int .i64 v, .int .i64 p], .agg #[.int .i64 0, .int .i64 0]]) := by
          rw [Hid, hV.out, hnum.out]; unfold numC; simp only []; rw [if_neg (by rw [hbe.out]; decide)]; rfl
        refine (H3.out _).mono ?_
        rintro e w' ⟨rfl, rfl⟩
        go_wp2_with (first | (go_at_call 55; refine (H4.out _).mono ?_; rintro e w' ⟨rfl, rfl⟩))
        rw [← hX.out]
        refine (token_lit b s X p fa fr 3 v _ hzX (HS.out.drew2 _ _ _)).mono ?_
        rintro e w1 ⟨rfl, hb⟩
        obtain ⟨hA, hB, hz, hw⟩ := kept2 hb w tokZ faultZ rfl rfl rfl rfl
        obtain ⟨⟨a0, a1, a2, a3⟩, a4, a5, a6, a7⟩ := row4 hA
        obtain ⟨⟨b0, b1⟩, b2, b3⟩ := row2 hB
        clear hA hB hb
        go_wp2
        rw [hres.out]
        refine bodyPost_ret (v := .tuple #[.agg #[.int .u8 3, .string X, .int .i64 v, .int .i64 p], .agg #[.int .i64 0, .int .i64 0]]) (by simp [results, Tryd.results76, go_sem, a0, a1, a2, a3, b0, b1]) rfl ⟨rfl, stored6 hw _ _ _ _ _ _⟩
      · have hres : Hid (V = .tuple #[.agg #[.int .u8 0, .string ⟨#[]⟩, .int .i64 0, .int .i64 0], .agg #[.int .i64 (p + n), .int .i64 4]]) := by
          rw [Hid, hV.out, hnum.out]; unfold numC; simp only []; rw [if_pos hbe.out]; rfl
        have esum : IntKind.i64.wrap ((p : Int) + (n : Int)) = (p : Int) + (n : Int) := IntWalk.i64_in _ (by omega)
        refine (H3.out _).mono ?_
        rintro e w' ⟨rfl, rfl⟩
        go_wp2_with (first | (go_at_call 55; refine (H4.out _).mono ?_; rintro e w' ⟨rfl, rfl⟩))
        go_region
        all_goals
          go_wp2
          rw [hres.out]
          refine bodyPost_ret (v := .tuple #[.agg #[.int .u8 0, .string ⟨#[]⟩, .int .i64 0, .int .i64 0], .agg #[.int .i64 (p + n), .int .i64 4]]) (by simp [results, Tryd.results76, go_sem]) rfl ⟨rfl, stored6 (drew2 _) _ _ _ _ _ _⟩
    · have hbe : Hid (behindB s p = false) := by
        rw [Hid]; unfold behindB
        rw [← hn.out, b_f (show ¬ p + n < s.size by omega)]
        rfl
      have hres : Hid (V = .tuple #[.agg #[.int .u8 3, .string X, .int .i64 v, .int .i64 p], .agg #[.int .i64 0, .int .i64 0]]) := by
        rw [Hid, hV.out, hnum.out]; unfold numC; simp only []; rw [if_neg (by rw [hbe.out]; decide)]; rfl
      clear hsz0
      refine (H3.out _).mono ?_
      rintro e w' ⟨rfl, rfl⟩
      go_wp2_with fail
      rw [← hX.out]
      refine (token_lit b s X p fa fr 3 v _ hzX (HS.out.drew2 _ _ _)).mono ?_
      rintro e w1 ⟨rfl, hb⟩
      obtain ⟨hA, hB, hz, hw⟩ := kept2 hb w tokZ faultZ rfl rfl rfl rfl
      obtain ⟨⟨a0, a1, a2, a3⟩, a4, a5, a6, a7⟩ := row4 hA
      obtain ⟨⟨b0, b1⟩, b2, b3⟩ := row2 hB
      clear hA hB hb
      go_wp2
      rw [hres.out]
      refine bodyPost_ret (v := .tuple #[.agg #[.int .u8 3, .string X, .int .i64 v, .int .i64 p], .agg #[.int .i64 0, .int .i64 0]]) (by simp [results, Tryd.results76, go_sem, a0, a1, a2, a3, b0, b1]) rfl ⟨rfl, stored6 hw _ _ _ _ _ _⟩
end Go.Proofs.YteedpojchapjgaaDoor

/- The lexer: the line and the column of a byte. -/
import Derived.Test.YteedpojchapjgaaDoorBegins
namespace Go.Proofs.YteedpojchapjgaaDoor
open Go.RowKit
set_option linter.unusedVariables false

/-- Line and column behind so many bytes. -/
def placeN (l : List UInt8) : Nat → Int × Int
  | 0 => (1, 1)
  | k + 1 => if l[k]? = some 10 then ((placeN l k).1 + 1, 1) else ((placeN l k).1, (placeN l k).2 + 1)
def PlaceV (s : ByteArray) (a : Int) : Value :=
  if 0 ≤ a ∧ a ≤ s.size then .tuple #[.int .i64 (placeN s.data.toList a.toNat).1, .int .i64 (placeN s.data.toList a.toNat).2, .int .i64 0] else .tuple #[.int .i64 0, .int .i64 0, .int .i64 2]
theorem place_bd (l : List UInt8) : ∀ k, 1 ≤ (placeN l k).1 ∧ (placeN l k).1 ≤ k + 1 ∧ 1 ≤ (placeN l k).2 ∧ (placeN l k).2 ≤ k + 1
  | 0 => by simp [placeN]
  | k + 1 => by
    have := place_bd l k
    simp only [placeN]
    split <;> simp only <;> omega
theorem place_line (l : List UInt8) : ∀ k, k ≤ l.length → (placeN l k).1 = 1 + ((l.take k).count 10 : Nat)
  | 0, _ => by simp [placeN]
  | k + 1, h => by
    have ih := place_line l k (by omega)
    have hk : k < l.length := by omega
    have e : l.take (k + 1) = l.take k ++ [l[k]] := List.take_succ_eq_append_getElem hk
    have e2 : l[k]? = some l[k] := List.getElem?_eq_getElem hk
    rw [e, List.count_append]
    simp only [placeN]
    by_cases hc : l[k] = 10
    · rw [if_pos (by rw [e2, hc])]
      simp only [hc]
      rw [ih]
      simp
      omega
    · rw [if_neg (by rw [e2]; intro h; exact hc (Option.some.inj h))]
      simp only
      rw [ih, List.count_singleton]
      simp [hc]
theorem extract_byte (s : ByteArray) (n k : Nat) (hk : k < n) (hn : n ≤ s.size) : (s.extract 0 n).data[k]! = s.data.toList[k]'(by simpa using Nat.lt_of_lt_of_le hk hn) := by
  have hz : (s.extract 0 n).size = n := by simp; omega
  have h1 : k < (s.extract 0 n).data.size := by show k < (s.extract 0 n).size; omega
  rw [getElem!_pos (s.extract 0 n).data k h1, ← Array.getElem_toList]
  have e := Lib.extract_data s 0 n
  simp only [List.drop_zero, Nat.sub_zero] at e
  simp only [e]
  rw [List.getElem_take]
theorem place_col (s : ByteArray) (n : Nat) (hn : n ≤ s.size) : ∀ k, k ≤ n → (placeN s.data.toList k).2 = k - Lib.lastIdx (s.extract 0 n) 10 k
  | 0, _ => by simp [placeN, Lib.lastIdx]
  | k + 1, h => by
    have ih := place_col s n hn k (by omega)
    have hk : k < s.data.toList.length := by simp; omega
    have e2 : s.data.toList[k]? = some s.data.toList[k] := List.getElem?_eq_getElem hk
    have hb := extract_byte s n k (by omega) hn
    simp only [placeN]
    by_cases hc : s.data.toList[k] = 10
    · rw [if_pos (by rw [e2, hc]), Lib.lastIdx_hit _ _ _ (by rw [hb, hc]; rfl)]
      simp only
      omega
    · rw [if_neg (by rw [e2]; intro h; exact hc (Option.some.inj h)), Lib.lastIdx_miss _ _ _ (by
        rw [hb]
        intro h
        exact hc (UInt8.toNat_inj.1 (by have : (s.data.toList[k]).toNat = 10 := by omega
                                        rw [this]; rfl)))]
      simp only
      omega
theorem place_any (s : ByteArray) (hs : s.size ≤ 281474976710656) (a : Int) (w : World) : Calls Tryd.prog 29 #[.string s, .int .i64 a] w fun e w' => e = .returned (PlaceV s a) ∧ w = w' := by
  by_cases h : 0 ≤ a ∧ a ≤ s.size
  · obtain ⟨h0, h1⟩ := h
    obtain ⟨k, rfl⟩ := Int.eq_ofNat_of_zero_le h0
    have hk : k ≤ s.size := by omega
    obtain ⟨hb1, hb2, hb3, hb4⟩ := place_bd s.data.toList k
    have hl := place_line s.data.toList k (by simpa using hk)
    have hc := place_col s k hk k (Nat.le_refl _)
    obtain ⟨X, hX⟩ : ∃ X, Hid (X = s.extract 0 k) := ⟨_, rfl⟩
    have hXz : X.size = k := by rw [hX.out]; simp; omega
    have hXl : X.data.toList = s.data.toList.take k := by
      rw [hX.out, Lib.extract_data]; simp
    have hV : Hid (PlaceV s (k : Int) = .tuple #[.int .i64 (1 + ((X.data.toList.count 10 : Nat) : Int)), .int .i64 ((k : Int) - Lib.lastIndexByte X 10), .int .i64 0]) := by
      unfold PlaceV
      rw [Hid, if_pos ⟨h0, h1⟩, Int.toNat_natCast, hl, hc, hXl]
      unfold Lib.lastIndexByte
      rw [hXz, hX.out]
    have H1 : Hid (∀ W : World, Calls Tryd.prog 51 #[.string X, .string ⟨#[10]⟩] W fun e w' => e = .returned (.int .i64 (X.data.toList.count 10 : Nat)) ∧ w' = W) := fun W => Go.Proofs.Tryd.strings_Count_one X 10 W
    have H2 : Hid (∀ W : World, Calls Tryd.prog 52 #[.string X, .int .u8 10] W fun e w' => e = .returned (.int .i64 (Lib.lastIndexByte X 10)) ∧ w' = W) := fun W => Go.Proofs.Tryd.strings_LastIndexByte X 10 (by omega) W
    have g1 : X.data.toList.count 10 ≤ k := by
      have := List.count_le_length (a := (10 : UInt8)) (l := X.data.toList)
      have hz : X.data.toList.length = X.size := by simp
      omega
    have g2 : -1 ≤ Lib.lastIndexByte X 10 ∧ Lib.lastIndexByte X 10 ≤ k := by
      rcases Lib.lastIndexByte_spec X 10 with ⟨e, _⟩ | ⟨i, hi, e, _⟩ <;> rw [e] <;> omega
    obtain ⟨g2, g3⟩ := g2
    obtain ⟨c, hcc⟩ : ∃ c, Hid (c = X.data.toList.count 10) := ⟨_, rfl⟩
    obtain ⟨d, hdd⟩ : ∃ d, Hid (d = Lib.lastIndexByte X 10) := ⟨_, rfl⟩
    rw [← hcc.out] at g1
    rw [← hdd.out] at g2 g3
    rw [← hcc.out, ← hdd.out] at hV
    rw [← hcc.out] at H1
    rw [← hdd.out] at H2
    rw [hV.out]
    clear hl hc hXz hXl hb1 hb2 hb3 hb4
    go_enter Tryd.func29, Tryd.ntmps29
    go_wp2_with (first
      | (go_at_call 51; (try rw [← hX.out]); refine (H1.out _).mono ?_; rintro e w' ⟨rfl, rfl⟩)
      | (go_at_call 52; (try rw [← hX.out]); refine (H2.out _).mono ?_; rintro e w' ⟨rfl, rfl⟩))
    refine bodyPost_ret (v := .tuple #[.int .i64 (1 + (c : Int)), .int .i64 ((k : Int) - d), .int .i64 0]) (by simp [results, Tryd.results29, go_sem]) rfl ⟨rfl, rfl⟩
  · have hV : Hid (PlaceV s a = .tuple #[.int .i64 0, .int .i64 0, .int .i64 2]) := by
      unfold PlaceV; rw [Hid, if_neg h]
    rw [hV.out]
    by_cases h0 : 0 ≤ a
    · have h1 : (s.size : Int) < a := by omega
      go_enter Tryd.func29, Tryd.ntmps29
      go_wp2
      refine bodyPost_ret (v := .tuple #[.int .i64 0, .int .i64 0, .int .i64 2]) (by simp [results, Tryd.results29, go_sem]) rfl ⟨rfl, rfl⟩
    · have h1 : a < 0 := by omega
      go_enter Tryd.func29, Tryd.ntmps29
      go_wp2
      refine bodyPost_ret (v := .tuple #[.int .i64 0, .int .i64 0, .int .i64 2]) (by simp [results, Tryd.results29, go_sem]) rfl ⟨rfl, rfl⟩
end Go.Proofs.YteedpojchapjgaaDoor

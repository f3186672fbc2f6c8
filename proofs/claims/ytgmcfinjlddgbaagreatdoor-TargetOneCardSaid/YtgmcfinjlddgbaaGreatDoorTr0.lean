/- Texts cut at a byte; a sign in front. -/
import Derived.Test.YtgmcfinjlddgbaaGreatDoorTw1
import Derived.Test.YtgmcfinjlddgbaaGreatDoorShelf4
import Derived.StillTailTactics
namespace Go.Proofs.YtgmcfinjlddgbaaGreatDoor
open Go.RowKit
set_option linter.unusedVariables false
set_option maxRecDepth 100000
/-- A text cut at a byte. -/
def cutA (s : ByteArray) (c : UInt8) : ByteArray × ByteArray × Bool := if 0 ≤ Lib.indexByte s.data.toList c then (s.extract 0 (Lib.indexByte s.data.toList c).toNat, s.extract ((Lib.indexByte s.data.toList c).toNat + 1) s.size, true) else (s, ⟨#[]⟩, false)
theorem idx_lt : ∀ (l : List UInt8) (c : UInt8), Lib.indexByte l c < l.length
  | [], c => by simp [Lib.indexByte]
  | b :: l, c => by
    have h := idx_lt l c
    simp only [Lib.indexByte, List.length_cons]
    split
    · omega
    · split <;> omega
theorem lcut_any (s : ByteArray) (c : UInt8) (hs : s.size ≤ 4611686018427387904) (w : World) : Calls Tryz.prog 115 #[.string s, .string ⟨#[c]⟩] w fun e w' => e = .returned (.tuple #[.string (cutA s c).1, .string (cutA s c).2.1, .bool (cutA s c).2.2]) ∧ Below w.heap.size w w' := by
  have HI : Hid (∀ X, Calls Tryz.prog 126 #[.string s, .string ⟨#[c]⟩] X fun e w' => e = .returned (.int .i64 (Lib.indexByte s.data.toList c)) ∧ w' = X) := fun X => Go.Proofs.Tryz.stringslite_Index_one s c X
  have hlt : Lib.indexByte s.data.toList c < s.size := by
    have h := idx_lt s.data.toList c
    have h2 : s.data.toList.length = s.size := Array.length_toList
    omega
  unfold cutA
  obtain ⟨k, hk⟩ : ∃ k, k = Lib.indexByte s.data.toList c := ⟨_, rfl⟩
  rw [← hk] at HI hlt ⊢
  clear hk
  by_cases h0 : 0 ≤ k
  · rw [if_pos h0]
    obtain ⟨n, rfl⟩ : ∃ n : Nat, k = (n : Int) := ⟨k.toNat, by omega⟩
    have hn : n < s.size := by omega
    clear hlt
    show Calls _ _ _ _ fun e w' => e = .returned (.tuple #[.string (s.extract 0 n), .string (s.extract (n + 1) s.size), .bool true]) ∧ _
    go_enter Tryz.func115, Tryz.ntmps115
    go_wp2_with (go_at_call 126; refine (HI.out _).mono ?_; rintro e w' ⟨rfl, rfl⟩)
    go_quiet (fail)
    go_wp2_with fail
    go_ret3
    exact ⟨rfl, below_drewN (Below.refl _ _) _⟩
  · rw [if_neg h0]
    go_enter Tryz.func115, Tryz.ntmps115
    go_wp2_with (go_at_call 126; refine (HI.out _).mono ?_; rintro e w' ⟨rfl, rfl⟩)
    go_ret3
    exact ⟨rfl, Below.refl _ _⟩
theorem cut_any (s : ByteArray) (c : UInt8) (hs : s.size ≤ 4611686018427387904) (w : World) : Calls Tryz.prog 95 #[.string s, .string ⟨#[c]⟩] w fun e w' => e = .returned (.tuple #[.string (cutA s c).1, .string (cutA s c).2.1, .bool (cutA s c).2.2]) ∧ Below w.heap.size w w' := by
  have HI : Hid (∀ X, Calls Tryz.prog 115 #[.string s, .string ⟨#[c]⟩] X fun e w' => e = .returned (.tuple #[.string (cutA s c).1, .string (cutA s c).2.1, .bool (cutA s c).2.2]) ∧ Below X.heap.size X w') := fun X => lcut_any s c hs X
  generalize cutA s c = r at HI ⊢
  obtain ⟨r1, r2, r3⟩ := r
  replace HI : Hid (∀ X, Calls Tryz.prog 115 #[.string s, .string ⟨#[c]⟩] X fun e w' => e = .returned (.tuple #[.string r1, .string r2, .bool r3]) ∧ Below X.heap.size X w') := HI.out
  show Calls _ _ _ _ fun e w' => e = .returned (.tuple #[.string r1, .string r2, .bool r3]) ∧ _
  go_enter Tryz.func95, Tryz.ntmps95
  go_wp2_with (go_at_call 115; refine (HI.out _).mono ?_; rintro e w' ⟨rfl, hb⟩)
  go_ret3
  exact ⟨rfl, hb⟩
/-- A text behind a sign. -/
def preA (s : ByteArray) (c : UInt8) : ByteArray × Bool := if Lib.hasPrefix s.data.toList [c] = true then (s.extract 1 s.size, true) else (s, false)
theorem has1 {s : ByteArray} {c : UInt8} (h : Lib.hasPrefix s.data.toList [c] = true) : 1 ≤ s.size := by
  have h2 : s.data.toList.length = s.size := Array.length_toList
  cases hl : s.data.toList with
  | nil => rw [hl] at h; simp [Lib.hasPrefix] at h
  | cons a r => rw [hl] at h2; simp at h2; omega
theorem lpre_any (s : ByteArray) (c : UInt8) (hs : s.size ≤ 4611686018427387904) (w : World) : Calls Tryz.prog 165 #[.string s, .string ⟨#[c]⟩] w fun e w' => e = .returned (.tuple #[.string (preA s c).1, .bool (preA s c).2]) ∧ Below w.heap.size w w' := by
  have HI : Hid (∀ X, Calls Tryz.prog 166 #[.string s, .string ⟨#[c]⟩] X fun e w' => e = .returned (.bool (Lib.hasPrefix s.data.toList [c])) ∧ w' = X) := fun X => Go.Proofs.Tryz.stringslite_HasPrefix s ⟨#[c]⟩ X
  have h1 := @has1 s c
  unfold preA
  cases hb : Lib.hasPrefix s.data.toList [c] with
  | true =>
    rw [hb] at HI
    have h2 := h1 hb
    rw [if_pos rfl]
    clear hb h1
    go_enter Tryz.func165, Tryz.ntmps165
    go_wp2_with (go_at_call 166; refine (HI.out _).mono ?_; rintro e w' ⟨rfl, rfl⟩)
    refine bodyPost_ret (results_tmp2 rfl _ _ _) rfl ?_
    exact ⟨rfl, Below.refl _ _⟩
  | false =>
    rw [hb] at HI
    rw [if_neg (by decide)]
    clear hb h1
    go_enter Tryz.func165, Tryz.ntmps165
    go_wp2_with (go_at_call 166; refine (HI.out _).mono ?_; rintro e w' ⟨rfl, rfl⟩)
    refine bodyPost_ret (results_tmp2 rfl _ _ _) rfl ?_
    exact ⟨rfl, Below.refl _ _⟩
theorem pre_any (s : ByteArray) (c : UInt8) (hs : s.size ≤ 4611686018427387904) (w : World) : Calls Tryz.prog 159 #[.string s, .string ⟨#[c]⟩] w fun e w' => e = .returned (.tuple #[.string (preA s c).1, .bool (preA s c).2]) ∧ Below w.heap.size w w' := by
  have HI : Hid (∀ X, Calls Tryz.prog 165 #[.string s, .string ⟨#[c]⟩] X fun e w' => e = .returned (.tuple #[.string (preA s c).1, .bool (preA s c).2]) ∧ Below X.heap.size X w') := fun X => lpre_any s c hs X
  generalize preA s c = r at HI ⊢
  obtain ⟨r1, r2⟩ := r
  replace HI : Hid (∀ X, Calls Tryz.prog 165 #[.string s, .string ⟨#[c]⟩] X fun e w' => e = .returned (.tuple #[.string r1, .bool r2]) ∧ Below X.heap.size X w') := HI.out
  show Calls _ _ _ _ fun e w' => e = .returned (.tuple #[.string r1, .bool r2]) ∧ _
  go_enter Tryz.func159, Tryz.ntmps159
  go_wp2_with (go_at_call 165; refine (HI.out _).mono ?_; rintro e w' ⟨rfl, hb⟩)
  refine bodyPost_ret (results_tmp2 rfl _ _ _) rfl ?_
  exact ⟨rfl, hb⟩
end Go.Proofs.YtgmcfinjlddgbaaGreatDoor

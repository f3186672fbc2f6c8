/- Words: the reader of a word's digits, byte by byte: what a step takes and what it refuses. -/
import Derived.Test.YtgmcfinjlddgbaaGreatDoorB1
import Derived.Lib.Hide
import Derived.Deep.QuietTactic
import Derived.BigQuiet
namespace Go.Proofs.YtgmcfinjlddgbaaGreatDoor
open Go.RowKit
set_option linter.unusedVariables false

/-- Block b holds a reader: below, most, size, digits. -/
def Rd (W : World) (b : Nat) (bl : Bool) (m s d : Int) : Prop := W.heap[b]? = some (.cells #[.bool bl, .int .u64 m, .int .u64 s, .int .i64 d] 200 (0, 0))
theorem Rd.cells {W : World} {b : Nat} {bl : Bool} {m s d : Int} (h : Rd W b bl m s d) :
    (W.cell? ⟨b, 0, none⟩ = some (.bool bl) ∧ W.cell? ⟨b, 1, none⟩ = some (.int .u64 m) ∧ W.cell? ⟨b, 2, none⟩ = some (.int .u64 s) ∧ W.cell? ⟨b, 3, none⟩ = some (.int .i64 d)) ∧
    (W.frozen? ⟨b, 2, none⟩ = false ∧ W.frozen? ⟨b, 3, none⟩ = false) :=
  ⟨⟨cell_of_row W b 0 _ _ _ h, cell_of_row W b 1 _ _ _ h, cell_of_row W b 2 _ _ _ h, cell_of_row W b 3 _ _ _ h⟩, frozen_of_row W b 2 _ _ h, frozen_of_row W b 3 _ _ h⟩
theorem Rd.drewN {W : World} {b : Nat} {bl : Bool} {m s d : Int} (h : Rd W b bl m s d) (n : Nat) : Rd (W.drewN n) b bl m s d := h
theorem Rd.set {W : World} {b : Nat} {bl : Bool} {m s d s' d' : Int} (h : Rd W b bl m s d) : Rd ((W.setCell ⟨b, 2, none⟩ (.int .u64 s')).setCell ⟨b, 3, none⟩ (.int .i64 d')) b bl m s' d' := by
  have e1 := heap_setCell_same W b 2 _ _ (.int .u64 s') h
  exact heap_setCell_same _ b 3 _ _ (.int .i64 d') e1

/-- May the reader not take the byte c? -/
def Halts (bl : Bool) (m s d c : Int) : Prop := c < 48 ∨ 57 < c ∨ (c = 48 ∧ d = 0 ∧ bl = true) ∨ (0 < d ∧ s = 0) ∨ (m - (c - 48)) / 10 < s

theorem take_byte (b : Nat) (c : Int) (w : World) (h0 : 0 ≤ c) (h1 : c ≤ 255) (h : c < 48 ∨ 57 < c) :
    Calls Tryz.prog 162 #[.pointer (some ⟨b, 0, none⟩), .int .u8 c] w fun e w' => e = .returned (.bool false) ∧ w = w' := by
  rcases h with h | h
  · go_enter Tryz.func162, Tryz.ntmps162
    go_wp2
    go_ret
    exact ⟨rfl, rfl⟩
  · go_enter Tryz.func162, Tryz.ntmps162
    go_wp2
    go_ret
    exact ⟨rfl, rfl⟩
theorem take_nought (b : Nat) (m s : Int) (w : World) (hr : Rd w b true m s 0) :
    Calls Tryz.prog 162 #[.pointer (some ⟨b, 0, none⟩), .int .u8 48] w fun e w' => e = .returned (.bool false) ∧ ∃ n, w' = w.drewN n := by
  obtain ⟨⟨c0, c1, c2, c3⟩, f2, f3⟩ := hr.cells
  clear hr
  go_enter Tryz.func162, Tryz.ntmps162
  go_wp2
  go_quiet (fail)
  go_wp2
  go_ret
  exact ⟨rfl, _, rfl⟩
theorem take_behind (b : Nat) (bl : Bool) (m d c : Int) (w : World) (hr : Rd w b bl m 0 d) (h0 : 48 ≤ c) (h1 : c ≤ 57) (hd : 0 < d) :
    Calls Tryz.prog 162 #[.pointer (some ⟨b, 0, none⟩), .int .u8 c] w fun e w' => e = .returned (.bool false) ∧ ∃ n, w' = w.drewN n := by
  obtain ⟨⟨c0, c1, c2, c3⟩, f2, f3⟩ := hr.cells
  clear hr
  have hd0 : (d == 0) = false := by simp; omega
  by_cases h : c = 48
  · subst h
    go_enter Tryz.func162, Tryz.ntmps162
    go_wp2
    go_quiet (fail)
    go_wp2
    go_ret
    exact ⟨rfl, _, rfl⟩
  · have h48 : (c == 48) = false := by simpa using h
    go_enter Tryz.func162, Tryz.ntmps162
    go_wp2
    go_quiet (fail)
    go_wp2
    go_ret
    exact ⟨rfl, _, rfl⟩
theorem take_over1 (b : Nat) (m s : Int) (w : World) (hr : Rd w b false m s 0) (hm0 : 9 ≤ m) (hm1 : m ≤ 9223372036854775808) (hs0 : 0 ≤ s) (hs : (m - (48 - 48)) / 10 < s) :
    Calls Tryz.prog 162 #[.pointer (some ⟨b, 0, none⟩), .int .u8 (48)] w fun e w' => e = .returned (.bool false) ∧ ∃ n, w' = w.drewN n := by
  obtain ⟨⟨c0, c1, c2, c3⟩, f2, f3⟩ := hr.cells
  clear hr
  have e1 : IntKind.u64.wrap (m - (48 - 48)) = m - (48 - 48) := IntWalk.u64_in _ (by omega)
  have e2 : 0 ≤ m - (48 - 48) := by omega
  go_enter Tryz.func162, Tryz.ntmps162
  go_wp2
  go_quiet (fail)
  go_wp2
  go_ret
  exact ⟨rfl, _, rfl⟩
theorem take_over2 (b : Nat) (bl : Bool) (m s d : Int) (hd : 0 < d) (hd1 : d ≤ 4611686018427387904) (hs2 : 0 < s) (w : World) (hr : Rd w b bl m s d) (hm0 : 9 ≤ m) (hm1 : m ≤ 9223372036854775808) (hs0 : 0 ≤ s) (hs : (m - (48 - 48)) / 10 < s) :
    Calls Tryz.prog 162 #[.pointer (some ⟨b, 0, none⟩), .int .u8 (48)] w fun e w' => e = .returned (.bool false) ∧ ∃ n, w' = w.drewN n := by
  obtain ⟨⟨c0, c1, c2, c3⟩, f2, f3⟩ := hr.cells
  clear hr
  have e1 : IntKind.u64.wrap (m - (48 - 48)) = m - (48 - 48) := IntWalk.u64_in _ (by omega)
  have e2 : 0 ≤ m - (48 - 48) := by omega
  have q1 : (d == 0) = false := by simp; omega
  have q2 : (s == 0) = false := by simp; omega
  go_enter Tryz.func162, Tryz.ntmps162
  go_wp2
  go_quiet (fail)
  go_wp2
  go_ret
  exact ⟨rfl, _, rfl⟩
theorem take_over3 (b : Nat) (bl : Bool) (m s c : Int) (hc : 48 < c) (hc2 : c ≤ 57) (w : World) (hr : Rd w b bl m s 0) (hm0 : 9 ≤ m) (hm1 : m ≤ 9223372036854775808) (hs0 : 0 ≤ s) (hs : (m - (c - 48)) / 10 < s) :
    Calls Tryz.prog 162 #[.pointer (some ⟨b, 0, none⟩), .int .u8 (c)] w fun e w' => e = .returned (.bool false) ∧ ∃ n, w' = w.drewN n := by
  obtain ⟨⟨c0, c1, c2, c3⟩, f2, f3⟩ := hr.cells
  clear hr
  have e1 : IntKind.u64.wrap (m - (c - 48)) = m - (c - 48) := IntWalk.u64_in _ (by omega)
  have e2 : 0 ≤ m - (c - 48) := by omega
  have q3 : (c == 48) = false := by simp; omega
  go_enter Tryz.func162, Tryz.ntmps162
  go_wp2
  go_quiet (fail)
  go_wp2
  go_ret
  exact ⟨rfl, _, rfl⟩
theorem take_over4 (b : Nat) (bl : Bool) (m s d c : Int) (hc : 48 < c) (hc2 : c ≤ 57) (hd : 0 < d) (hd1 : d ≤ 4611686018427387904) (hs2 : 0 < s) (w : World) (hr : Rd w b bl m s d) (hm0 : 9 ≤ m) (hm1 : m ≤ 9223372036854775808) (hs0 : 0 ≤ s) (hs : (m - (c - 48)) / 10 < s) :
    Calls Tryz.prog 162 #[.pointer (some ⟨b, 0, none⟩), .int .u8 (c)] w fun e w' => e = .returned (.bool false) ∧ ∃ n, w' = w.drewN n := by
  obtain ⟨⟨c0, c1, c2, c3⟩, f2, f3⟩ := hr.cells
  clear hr
  have e1 : IntKind.u64.wrap (m - (c - 48)) = m - (c - 48) := IntWalk.u64_in _ (by omega)
  have e2 : 0 ≤ m - (c - 48) := by omega
  have q1 : (d == 0) = false := by simp; omega
  have q2 : (s == 0) = false := by simp; omega
  have q3 : (c == 48) = false := by simp; omega
  go_enter Tryz.func162, Tryz.ntmps162
  go_wp2
  go_quiet (fail)
  go_wp2
  go_ret
  exact ⟨rfl, _, rfl⟩
theorem take_yes1 (b : Nat) (m s : Int) (w : World) (hr : Rd w b false m s 0) (hm0 : 9 ≤ m) (hm1 : m ≤ 9223372036854775808) (hs0 : 0 ≤ s) (hs : s ≤ (m - (48 - 48)) / 10) :
    Calls Tryz.prog 162 #[.pointer (some ⟨b, 0, none⟩), .int .u8 (48)] w fun e w' => e = .returned (.bool true) ∧ ∃ n, w' = ((w.drewN n).setCell ⟨b, 2, none⟩ (.int .u64 (s * 10 + (48 - 48)))).setCell ⟨b, 3, none⟩ (.int .i64 (0 + 1)) := by
  obtain ⟨⟨c0, c1, c2, c3⟩, f2, f3⟩ := hr.cells
  clear hr
  rw [show s * 10 + (48 - 48) = s * 10 from by omega]
  have e1 : IntKind.u64.wrap (m - (48 - 48)) = m - (48 - 48) := IntWalk.u64_in _ (by omega)
  have e2 : 0 ≤ m - (48 - 48) := by omega
  go_enter Tryz.func162, Tryz.ntmps162
  go_wp2
  go_quiet (fail)
  go_wp2
  go_ret
  exact ⟨rfl, _, rfl⟩
theorem take_yes2 (b : Nat) (bl : Bool) (m s d : Int) (hd : 0 < d) (hd1 : d ≤ 4611686018427387904) (hs2 : 0 < s) (w : World) (hr : Rd w b bl m s d) (hm0 : 9 ≤ m) (hm1 : m ≤ 9223372036854775808) (hs0 : 0 ≤ s) (hs : s ≤ (m - (48 - 48)) / 10) :
    Calls Tryz.prog 162 #[.pointer (some ⟨b, 0, none⟩), .int .u8 (48)] w fun e w' => e = .returned (.bool true) ∧ ∃ n, w' = ((w.drewN n).setCell ⟨b, 2, none⟩ (.int .u64 (s * 10 + (48 - 48)))).setCell ⟨b, 3, none⟩ (.int .i64 (d + 1)) := by
  obtain ⟨⟨c0, c1, c2, c3⟩, f2, f3⟩ := hr.cells
  clear hr
  rw [show s * 10 + (48 - 48) = s * 10 from by omega]
  have e1 : IntKind.u64.wrap (m - (48 - 48)) = m - (48 - 48) := IntWalk.u64_in _ (by omega)
  have e2 : 0 ≤ m - (48 - 48) := by omega
  have q1 : (d == 0) = false := by simp; omega
  have q2 : (s == 0) = false := by simp; omega
  go_enter Tryz.func162, Tryz.ntmps162
  go_wp2
  go_quiet (fail)
  go_wp2
  go_ret
  exact ⟨rfl, _, rfl⟩
theorem take_yes3 (b : Nat) (bl : Bool) (m s c : Int) (hc : 48 < c) (hc2 : c ≤ 57) (w : World) (hr : Rd w b bl m s 0) (hm0 : 9 ≤ m) (hm1 : m ≤ 9223372036854775808) (hs0 : 0 ≤ s) (hs : s ≤ (m - (c - 48)) / 10) :
    Calls Tryz.prog 162 #[.pointer (some ⟨b, 0, none⟩), .int .u8 (c)] w fun e w' => e = .returned (.bool true) ∧ ∃ n, w' = ((w.drewN n).setCell ⟨b, 2, none⟩ (.int .u64 (s * 10 + (c - 48)))).setCell ⟨b, 3, none⟩ (.int .i64 (0 + 1)) := by
  obtain ⟨⟨c0, c1, c2, c3⟩, f2, f3⟩ := hr.cells
  clear hr
  have e1 : IntKind.u64.wrap (m - (c - 48)) = m - (c - 48) := IntWalk.u64_in _ (by omega)
  have e2 : 0 ≤ m - (c - 48) := by omega
  have q3 : (c == 48) = false := by simp; omega
  go_enter Tryz.func162, Tryz.ntmps162
  go_wp2
  go_quiet (fail)
  go_wp2
  go_ret
  exact ⟨rfl, _, rfl⟩
theorem take_yes4 (b : Nat) (bl : Bool) (m s d c : Int) (hc : 48 < c) (hc2 : c ≤ 57) (hd : 0 < d) (hd1 : d ≤ 4611686018427387904) (hs2 : 0 < s) (w : World) (hr : Rd w b bl m s d) (hm0 : 9 ≤ m) (hm1 : m ≤ 9223372036854775808) (hs0 : 0 ≤ s) (hs : s ≤ (m - (c - 48)) / 10) :
    Calls Tryz.prog 162 #[.pointer (some ⟨b, 0, none⟩), .int .u8 (c)] w fun e w' => e = .returned (.bool true) ∧ ∃ n, w' = ((w.drewN n).setCell ⟨b, 2, none⟩ (.int .u64 (s * 10 + (c - 48)))).setCell ⟨b, 3, none⟩ (.int .i64 (d + 1)) := by
  obtain ⟨⟨c0, c1, c2, c3⟩, f2, f3⟩ := hr.cells
  clear hr
  have e1 : IntKind.u64.wrap (m - (c - 48)) = m - (c - 48) := IntWalk.u64_in _ (by omega)
  have e2 : 0 ≤ m - (c - 48) := by omega
  have q1 : (d == 0) = false := by simp; omega
  have q2 : (s == 0) = false := by simp; omega
  have q3 : (c == 48) = false := by simp; omega
  go_enter Tryz.func162, Tryz.ntmps162
  go_wp2
  go_quiet (fail)
  go_wp2
  go_ret
  exact ⟨rfl, _, rfl⟩

theorem rd_below {w W : World} {b n : Nat} (hb : b < w.heap.size) (u v : Value) (e : W = ((w.drewN n).setCell ⟨b, 2, none⟩ u).setCell ⟨b, 3, none⟩ v) : Below b w W ∧ W.heap.size = w.heap.size := by
  subst e
  have h0 : Below b w (w.drewN n) := ⟨rfl, rfl, rfl, Nat.le_refl _, fun _ _ => rfl⟩
  exact ⟨(h0.setCell (p := ⟨b, 2, none⟩) (Nat.le_refl _) u).setCell (p := ⟨b, 3, none⟩) (Nat.le_refl _) v, by simp [World.setCell]⟩

/-- A step that is refused: nothing changes. -/
theorem take_no (b : Nat) (bl : Bool) (m s d c : Int) (w : World) (hr : Rd w b bl m s d) (h0 : 0 ≤ c) (h1 : c ≤ 255) (hm0 : 9 ≤ m) (hm1 : m ≤ 9223372036854775808) (hs0 : 0 ≤ s) (hd0 : 0 ≤ d) (hd1 : d ≤ 4611686018427387904) (h : Halts bl m s d c) :
    Calls Tryz.prog 162 #[.pointer (some ⟨b, 0, none⟩), .int .u8 c] w fun e w' => e = .returned (.bool false) ∧ Rd w' b bl m s d ∧ Below b w w' ∧ w'.heap.size = w.heap.size := by
  have fin : ∀ w' n, w' = w.drewN n → Rd w' b bl m s d ∧ Below b w w' ∧ w'.heap.size = w.heap.size := fun w' n e => by
    subst e
    exact ⟨hr, ⟨rfl, rfl, rfl, Nat.le_refl _, fun _ _ => rfl⟩, rfl⟩
  by_cases hb : c < 48 ∨ 57 < c
  · exact (take_byte b c w h0 h1 hb).mono fun e w' ⟨he, hw⟩ => ⟨he, by subst hw; exact ⟨hr, Below.refl _ _, rfl⟩⟩
  have k0 : 48 ≤ c := by omega
  have k1 : c ≤ 57 := by omega
  by_cases hn : c = 48 ∧ d = 0 ∧ bl = true
  · obtain ⟨rfl, rfl, rfl⟩ := hn
    exact (take_nought b m s w hr).mono fun e w' ⟨he, n, hw⟩ => ⟨he, fin w' n hw⟩
  by_cases hz : 0 < d ∧ s = 0
  · obtain ⟨hd, rfl⟩ := hz
    exact (take_behind b bl m d c w hr k0 k1 hd).mono fun e w' ⟨he, n, hw⟩ => ⟨he, fin w' n hw⟩
  have hs : (m - (c - 48)) / 10 < s := by
    rcases h with h | h | h | h | h
    · omega
    · omega
    · exact absurd h hn
    · exact absurd h hz
    · exact h
  by_cases hc : c = 48
  · subst hc
    by_cases hd : d = 0
    · subst hd
      have hbl : bl = false := by cases bl <;> simp_all
      subst hbl
      exact (take_over1 b m s w hr hm0 hm1 hs0 hs).mono fun e w' ⟨he, n, hw⟩ => ⟨he, fin w' n hw⟩
    · exact (take_over2 b bl m s d (by omega) hd1 (by omega) w hr hm0 hm1 hs0 hs).mono fun e w' ⟨he, n, hw⟩ => ⟨he, fin w' n hw⟩
  · by_cases hd : d = 0
    · subst hd
      exact (take_over3 b bl m s c (by omega) k1 w hr hm0 hm1 hs0 hs).mono fun e w' ⟨he, n, hw⟩ => ⟨he, fin w' n hw⟩
    · exact (take_over4 b bl m s d c (by omega) k1 (by omega) hd1 (by omega) w hr hm0 hm1 hs0 hs).mono fun e w' ⟨he, n, hw⟩ => ⟨he, fin w' n hw⟩

/-- A step that is taken. -/
theorem take_yes (b : Nat) (bl : Bool) (m s d c : Int) (w : World) (hr : Rd w b bl m s d) (h0 : 0 ≤ c) (h1 : c ≤ 255) (hm0 : 9 ≤ m) (hm1 : m ≤ 9223372036854775808) (hs0 : 0 ≤ s) (hd0 : 0 ≤ d) (hd1 : d ≤ 4611686018427387904) (h : ¬ Halts bl m s d c) :
    Calls Tryz.prog 162 #[.pointer (some ⟨b, 0, none⟩), .int .u8 c] w fun e w' => e = .returned (.bool true) ∧ Rd w' b bl m (s * 10 + (c - 48)) (d + 1) ∧ Below b w w' ∧ w'.heap.size = w.heap.size := by
  have hlt : b < w.heap.size := (Array.getElem?_eq_some_iff.1 hr).1
  have fin : ∀ w' n, w' = ((w.drewN n).setCell ⟨b, 2, none⟩ (.int .u64 (s * 10 + (c - 48)))).setCell ⟨b, 3, none⟩ (.int .i64 (d + 1)) → Rd w' b bl m (s * 10 + (c - 48)) (d + 1) ∧ Below b w w' ∧ w'.heap.size = w.heap.size := fun w' n e => by
    have k := rd_below hlt _ _ e
    subst e
    exact ⟨(hr.drewN n).set, k.1, k.2⟩
  have k0 : 48 ≤ c := by
    apply Int.not_lt.1; intro hx; exact h (.inl hx)
  have k1 : c ≤ 57 := by
    apply Int.not_lt.1; intro hx; exact h (.inr (.inl hx))
  have hn : ¬ (c = 48 ∧ d = 0 ∧ bl = true) := fun hx => h (.inr (.inr (.inl hx)))
  have hz : ¬ (0 < d ∧ s = 0) := fun hx => h (.inr (.inr (.inr (.inl hx))))
  have hs : s ≤ (m - (c - 48)) / 10 := by
    apply Int.not_lt.1; intro hx; exact h (.inr (.inr (.inr (.inr hx))))
  by_cases hc : c = 48
  · subst hc
    by_cases hd : d = 0
    · subst hd
      have hbl : bl = false := by cases bl <;> simp_all
      subst hbl
      exact (take_yes1 b m s w hr hm0 hm1 hs0 hs).mono fun e w' ⟨he, n, hw⟩ => ⟨he, fin w' n hw⟩
    · exact (take_yes2 b bl m s d (by omega) hd1 (by omega) w hr hm0 hm1 hs0 hs).mono fun e w' ⟨he, n, hw⟩ => ⟨he, fin w' n hw⟩
  · by_cases hd : d = 0
    · subst hd
      exact (take_yes3 b bl m s c (by omega) k1 w hr hm0 hm1 hs0 hs).mono fun e w' ⟨he, n, hw⟩ => ⟨he, fin w' n hw⟩
    · exact (take_yes4 b bl m s d c (by omega) k1 (by omega) hd1 (by omega) w hr hm0 hm1 hs0 hs).mono fun e w' ⟨he, n, hw⟩ => ⟨he, fin w' n hw⟩
end Go.Proofs.YtgmcfinjlddgbaaGreatDoor

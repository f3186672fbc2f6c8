/- The proof, part 2: texts that belong together, in one. -/
import Derived.Test.YtgaibdipecngkaaDoorMA
import Derived.Deep.QuietTactic
import Derived.BigQuiet
import Derived.WalkLawsBesides
import Derived.Laws.Rows
import Derived.Laws.Tables
import Derived.Lib.Hide
import Derived.PlainAid
import Derived.WalkKit
import Derived.Below
import Derived.MapKept
import Derived.Laws.EntriesVeiled
import Derived.BigRegion
import Derived.Outline
import Derived.Deep.DeepCutAuto
import Derived.Deep.RegionHeld3
import Derived.Deep.LoopGhost
import Derived.OrdersHeld
import Derived.Shelf.Abstract
import Derived.Deep.RegionHeldLaw
namespace Go.Proofs.YtgaibdipecngkaaDoor
open Go.RowKit
set_option linter.unusedVariables false
def levelOf (o : Int) : Int := if 19 ≤ o then 0 else lev.getD o.toNat 0

theorem level_any (o : Int) (h0 : 0 ≤ o) (h1 : o ≤ 255) (w : World) (T : Tabs w) :
    Calls Tryd.prog 43 #[.int .u8 o] w fun e w' => e = .returned (.int .i64 (levelOf o)) ∧ w = w' := by
  by_cases h : 19 ≤ o
  · have hl : levelOf o = 0 := by unfold levelOf; rw [if_pos h]
    rw [hl]; clear hl
    go_enter Tryd.func43, Tryd.ntmps43
    go_wp2
    go_ret
    exact ⟨rfl, rfl⟩
  · have hc := T.lev o.toNat (by omega)
    have hl : levelOf o = lev.getD o.toNat 0 := by unfold levelOf; rw [if_neg h]
    rw [hl]; clear hl
    obtain ⟨v, hv⟩ : ∃ v, v = lev.getD o.toNat 0 := ⟨_, rfl⟩
    rw [← hv] at hc ⊢
    clear hv T
    go_enter Tryd.func43, Tryd.ntmps43
    go_wp2
    go_ret
    exact ⟨rfl, rfl⟩

theorem two_yes (o : Int) (h0 : 0 ≤ o) (h1 : o ≤ 255) (hl : 0 < levelOf o) (hh : levelOf o < 9) (w : World) (T : Tabs w) :
    Calls Tryd.prog 68 #[.int .u8 o] w fun e w' => e = .returned (.bool true) ∧ w = w' := by
  have H := Lib.hid (level_any o h0 h1 w T)
  obtain ⟨v, hv⟩ : ∃ v, v = levelOf o := ⟨_, rfl⟩
  rw [← hv] at hl hh H
  clear hv T h0 h1
  go_enter Tryd.func68, Tryd.ntmps68
  go_wp2_with (go_at_call 43; refine (H.out).mono ?_; rintro e w' ⟨rfl, rfl⟩)
  go_ret
  exact ⟨rfl, rfl⟩
theorem two_no (o : Int) (h0 : 0 ≤ o) (h1 : o ≤ 255) (hl : levelOf o = 0 ∨ levelOf o = 9) (w : World) (T : Tabs w) :
    Calls Tryd.prog 68 #[.int .u8 o] w fun e w' => e = .returned (.bool false) ∧ w = w' := by
  have H := Lib.hid (level_any o h0 h1 w T)
  clear T h0 h1
  rcases hl with hl | hl
  all_goals
    rw [hl] at H
    clear hl
    go_enter Tryd.func68, Tryd.ntmps68
    go_wp2_with (go_at_call 43; refine (H.out).mono ?_; rintro e w' ⟨rfl, rfl⟩)
    go_ret
    exact ⟨rfl, rfl⟩
def signOf (o : Int) : List UInt8 := if 19 ≤ o then [] else sgn.getD o.toNat []
theorem rlevel_great (o : Int) (h : 19 ≤ o) (w : World) : Calls Tryd.prog 26 #[.int .u8 o] w fun e w' => e = .returned (.int .i64 0) ∧ Below w.heap.size w w' := by
  go_enter Tryd.func26, Tryd.ntmps26
  go_wp2
  go_ret
  exact ⟨rfl, Below.refl _ _⟩
theorem rshow_great (o : Int) (h : 19 ≤ o) (w : World) : Calls Tryd.prog 48 #[.int .u8 o] w fun e w' => e = .returned (.string ⟨#[]⟩) ∧ Below w.heap.size w w' := by
  go_enter Tryd.func48, Tryd.ntmps48
  go_wp2
  go_ret
  exact ⟨rfl, Below.refl _ _⟩
set_option maxHeartbeats 4000000 in
theorem rlevel_small (o : Int) (h0 : 0 ≤ o) (h : o < 19) (w : World) : Calls Tryd.prog 26 #[.int .u8 o] w fun e w' => e = .returned (.int .i64 (levelOf o)) ∧ Below w.heap.size w w' := by
  have : o = 0 ∨ o = 1 ∨ o = 2 ∨ o = 3 ∨ o = 4 ∨ o = 5 ∨ o = 6 ∨ o = 7 ∨ o = 8 ∨ o = 9 ∨ o = 10 ∨ o = 11 ∨ o = 12 ∨ o = 13 ∨ o = 14 ∨ o = 15 ∨ o = 16 ∨ o = 17 ∨ o = 18 := by omega
  clear h0 h
  rcases this with rfl | rfl | rfl | rfl | rfl | rfl | rfl | rfl | rfl | rfl | rfl | rfl | rfl | rfl | rfl | rfl | rfl | rfl | rfl
  all_goals
    go_enter Tryd.func26, Tryd.ntmps26
    go_wp2
    go_ret
    exact ⟨rfl, (Below.refl _ _).alloc (Nat.le_refl _) _⟩
set_option maxHeartbeats 4000000 in
theorem rshow_small (o : Int) (h0 : 0 ≤ o) (h : o < 19) (w : World) : Calls Tryd.prog 48 #[.int .u8 o] w fun e w' => e = .returned (.string ⟨(signOf o).toArray⟩) ∧ Below w.heap.size w w' := by
  have : o = 0 ∨ o = 1 ∨ o = 2 ∨ o = 3 ∨ o = 4 ∨ o = 5 ∨ o = 6 ∨ o = 7 ∨ o = 8 ∨ o = 9 ∨ o = 10 ∨ o = 11 ∨ o = 12 ∨ o = 13 ∨ o = 14 ∨ o = 15 ∨ o = 16 ∨ o = 17 ∨ o = 18 := by omega
  clear h0 h
  rcases this with rfl | rfl | rfl | rfl | rfl | rfl | rfl | rfl | rfl | rfl | rfl | rfl | rfl | rfl | rfl | rfl | rfl | rfl | rfl
  all_goals
    go_enter Tryd.func48, Tryd.ntmps48
    go_wp2
    go_ret
    exact ⟨rfl, (Below.refl _ _).alloc (Nat.le_refl _) _⟩
theorem rlevel_any (o : Int) (h0 : 0 ≤ o) (w : World) : Calls Tryd.prog 26 #[.int .u8 o] w fun e w' => e = .returned (.int .i64 (levelOf o)) ∧ Below w.heap.size w w' := by
  by_cases h : 19 ≤ o
  · have e : levelOf o = 0 := by unfold levelOf; rw [if_pos h]
    rw [e]; exact rlevel_great o h w
  · exact rlevel_small o h0 (by omega) w
theorem rshow_any (o : Int) (h0 : 0 ≤ o) (w : World) : Calls Tryd.prog 48 #[.int .u8 o] w fun e w' => e = .returned (.string ⟨(signOf o).toArray⟩) ∧ Below w.heap.size w w' := by
  by_cases h : 19 ≤ o
  · have e : signOf o = [] := by unfold signOf; rw [if_pos h]
    rw [e]; exact rshow_great o h w
  · exact rshow_small o h0 (by omega) w
/-- An operator's sign, by its number. -/
def sgnAt (k : Nat) : List UInt8 := sgn.getD k []
/-- The first operator from number k on whose sign is l, among the next n. -/
def fndFrom (l : List UInt8) : Nat → Nat → Int × Bool
  | 0, _ => (0, false)
  | n + 1, k => if sgnAt k = l then ((k : Int), true) else fndFrom l n (k + 1)
def fnd (l : List UInt8) : Int × Bool := fndFrom l 16 1
theorem fnd_step {l : List UInt8} {k : Nat} (h0 : 1 ≤ k) (h1 : k ≤ 16) (hp : fndFrom l (17 - k) k = fnd l) (hn : sgnAt k ≠ l) : fndFrom l (17 - (k + 1)) (k + 1) = fnd l := by
  rw [← hp, show 17 - k = (17 - (k + 1)) + 1 by omega]
  simp only [fndFrom]
  rw [if_neg hn]
theorem fnd_hit {l : List UInt8} {k : Nat} (h0 : 1 ≤ k) (h1 : k ≤ 16) (hp : fndFrom l (17 - k) k = fnd l) (hn : sgnAt k = l) : fnd l = ((k : Int), true) := by
  rw [← hp, show 17 - k = (17 - (k + 1)) + 1 by omega]
  simp only [fndFrom]
  rw [if_pos hn]
theorem signOf_nat (k : Nat) (h : k < 19) : signOf (k : Int) = sgnAt k := by
  unfold signOf sgnAt
  rw [if_neg (by omega)]
  simp
theorem rfind_any (s : ByteArray) (w : World) : Calls Tryd.prog 25 #[.string s] w fun e w' => e = .returned (.tuple #[.int .u8 (fnd s.data.toList).1, .bool (fnd s.data.toList).2]) ∧ Below w.heap.size w w' := by
  obtain ⟨R, hR⟩ : ∃ R, R = fnd s.data.toList := ⟨_, rfl⟩
  rw [← hR]
  have HR := Lib.hid hR
  clear hR
  go_enter Tryd.func25, Tryd.ntmps25
  go_wp2_with fail
  go_loopw [4] (fun o wr => ∃ k : Nat, 1 ≤ k ∧ k ≤ 17 ∧ o = .int .u8 k ∧ Hid (fndFrom s.data.toList (17 - k) k = fnd s.data.toList) ∧ Below w.heap.size w wr) (fun o _ => 17 - (intOf o).toNat)
  case atStart => exact ⟨1, by omega, by omega, rfl, rfl, Below.refl _ _⟩
  case round =>
    obtain ⟨k, hk1, hk2, rfl, hp, hB⟩ := hrel
    by_cases hk : k ≤ 16
    · obtain ⟨v, hv⟩ : ∃ v : ByteArray, v = ⟨(signOf (k : Int)).toArray⟩ := ⟨_, rfl⟩
      have H : Hid (∀ W : World, Calls Tryd.prog 48 #[.int .u8 (k : Int)] W fun e w' => e = .returned (.string v) ∧ Below W.heap.size W w') := fun W => by
        rw [hv]; exact rshow_any (k : Int) (by omega) W
      have hvl : v.data.toList = sgnAt k := by rw [hv, signOf_nat k (by omega)]
      clear hv
      by_cases he : v.data.toList = s.data.toList
      · have hres : Hid (R = ((k : Int), true)) := by rw [Hid, HR.out, fnd_hit hk1 hk hp.out (hvl.symm.trans he)]
        have ht : (v.toList == s.toList) = true := bytes_t he
        clear hvl he hp
        go_wp2_with (go_at_call 48; refine (H.out _).mono ?_; rintro e w1 ⟨rfl, hb⟩)
        go_ret2
        rw [hres.out]
        exact ⟨rfl, hB.trans (hb.mono hB.size)⟩
      · have hnx : Hid (fndFrom s.data.toList (17 - (k + 1)) (k + 1) = fnd s.data.toList) := fnd_step hk1 hk hp.out (fun h => he (hvl.trans h))
        have ht : (v.toList == s.toList) = false := bytes_f he
        clear hvl he hp
        go_wp2_with (go_at_call 48; refine (H.out _).mono ?_; rintro e w1 ⟨rfl, hb⟩)
        go_roundw
        case rel => exact ⟨k + 1, by omega, by omega, by go_num, hnx, hB.trans (hb.mono hB.size)⟩
        case measure => simp [intOf]; omega
    · obtain rfl : k = 17 := by omega
      have hres : Hid (R = (0, false)) := by rw [Hid, HR.out, ← hp.out]; rfl
      clear hp
      go_wp2_with fail
      go_ret2
      rw [hres.out]
      exact ⟨rfl, hB⟩
theorem Tabs.drewN {w : World} (T : Tabs w) (n : Nat) : Tabs (w.drewN n) := T.below (Nat.le_refl _) ⟨rfl, rfl, rfl, Nat.le_refl _, fun _ _ => rfl⟩
/-- The closure of Find: is operator k of two, and is its sign s? -/
theorem found_yes (b : Nat) (k : Nat) (s v : ByteArray) (w : World) (T : Tabs w) (h1 : 1 ≤ k) (h2 : k ≤ 16) (hc : w.cell? ⟨b, 0, none⟩ = some (.string s)) (hv : w.cell? ⟨0, k, none⟩ = some (.string v)) :
    Calls Tryd.prog 67 #[.int .u8 (k : Int), .pointer (some ⟨b, 0, none⟩)] w fun e w' => e = .returned (.bool (v.toList == s.toList)) ∧ ∃ n, w' = w.drewN n := by
  have hl : 0 < levelOf (k : Int) ∧ levelOf (k : Int) < 9 := by
    have : k = 1 ∨ k = 2 ∨ k = 3 ∨ k = 4 ∨ k = 5 ∨ k = 6 ∨ k = 7 ∨ k = 8 ∨ k = 9 ∨ k = 10 ∨ k = 11 ∨ k = 12 ∨ k = 13 ∨ k = 14 ∨ k = 15 ∨ k = 16 := by omega
    rcases this with rfl | rfl | rfl | rfl | rfl | rfl | rfl | rfl | rfl | rfl | rfl | rfl | rfl | rfl | rfl | rfl <;> decide
  have H2 : ∀ W : World, Tabs W → Calls Tryd.prog 68 #[.int .u8 (k : Int)] W fun e w' => e = .returned (.bool true) ∧ w' = W := fun W TW =>
    (two_yes (k : Int) (by omega) (by omega) hl.1 hl.2 W TW).mono fun _ _ ⟨a, c⟩ => ⟨a, c.symm⟩
  have HH := Lib.hid H2
  clear H2 hl
  go_enter Tryd.func67, Tryd.ntmps67
  go_wp2
  go_quiet ((go_at_call 68; exact Calls.quiet_of_same (HH.out _ (T.drewN _))))
  go_wp2
  go_ret
  exact ⟨rfl, _, rfl⟩
theorem found_no (b : Nat) (k : Nat) (w : World) (T : Tabs w) (h : k = 0 ∨ k = 17 ∨ k = 18) :
    Calls Tryd.prog 67 #[.int .u8 (k : Int), .pointer (some ⟨b, 0, none⟩)] w fun e w' => e = .returned (.bool false) ∧ ∃ n, w' = w.drewN n := by
  have hl : levelOf (k : Int) = 0 ∨ levelOf (k : Int) = 9 := by
    rcases h with rfl | rfl | rfl <;> decide
  have H2 : ∀ W : World, Tabs W → Calls Tryd.prog 68 #[.int .u8 (k : Int)] W fun e w' => e = .returned (.bool false) ∧ w' = W := fun W TW =>
    (two_no (k : Int) (by omega) (by omega) hl W TW).mono fun _ _ ⟨a, c⟩ => ⟨a, c.symm⟩
  have HH := Lib.hid H2
  clear H2 hl h
  go_enter Tryd.func67, Tryd.ntmps67
  go_wp2
  go_quiet ((go_at_call 68; exact Calls.quiet_of_same (HH.out _ (T.drewN _))))
  go_wp2
  go_ret
  exact ⟨rfl, _, rfl⟩
/-- How far the search has come. -/
def FP (l : List UInt8) (k : Nat) : Prop := (1 ≤ k → k ≤ 17 → fndFrom l (17 - k) k = fnd l) ∧ (17 ≤ k → fnd l = (0, false))
theorem below_drewN {B : Nat} {a w : World} (h : Below B a w) (n : Nat) : Below B a (w.drewN n) := ⟨h.os, h.tape, h.output, h.size, h.block⟩
theorem find_any (s : ByteArray) (w : World) (T : Tabs w) : Calls Tryd.prog 42 #[.string s] w fun e w' => e = .returned (.tuple #[.int .u8 (fnd s.data.toList).1, .bool (fnd s.data.toList).2]) ∧ Below w.heap.size w w' := by
  obtain ⟨R, hR⟩ : ∃ R, R = fnd s.data.toList := ⟨_, rfl⟩
  rw [← hR]
  have HR := Lib.hid hR
  clear hR
  have hA : Below w.heap.size w (w.alloc (.cells #[.string s] 9)) := (Below.refl _ _).alloc (Nat.le_refl _) _
  have TA := T.below (Nat.le_refl _) hA
  clear T
  go_enter Tryd.func42, Tryd.ntmps42
  go_wp2_with fail
  go_loopw [7] (fun o wr => ∃ k : Nat, k ≤ 19 ∧ o = .int .u8 k ∧ FP s.data.toList k ∧ wr.cell? ⟨w.heap.size, 0, none⟩ = some (.string s) ∧ Tabs wr ∧ Below w.heap.size w wr) (fun o _ => 19 - (intOf o).toNat)
  case atStart => exact ⟨0, by omega, rfl, ⟨fun h => by omega, fun h => by omega⟩, cell_of_row _ _ 0 _ _ _ (heap_alloc_new _ _), TA, hA⟩
  case round =>
    obtain ⟨k, hk, rfl, hp, hc, T, hB⟩ := hrel
    clear TA hA
    have hz := hB.size
    by_cases hk19 : k < 19
    · by_cases hin : 1 ≤ k ∧ k ≤ 16
      · obtain ⟨v, hv⟩ : ∃ v : ByteArray, v = ⟨(sgn.getD k []).toArray⟩ := ⟨_, rfl⟩
        have hcv := T.sgn k hk19
        rw [← hv] at hcv
        have hvl : v.data.toList = sgnAt k := by rw [hv]; rfl
        have hp1 := hp.1 hin.1 (by omega)
        have H := Lib.hid (found_yes w.heap.size k s v wr T hin.1 hin.2 hc hcv)
        clear hv hcv
        by_cases he : v.data.toList = s.data.toList
        · have hres : Hid (R = ((k : Int), true)) := by rw [Hid, HR.out, fnd_hit hin.1 hin.2 hp1 (hvl.symm.trans he)]
          have ht : (v.toList == s.toList) = true := bytes_t he
          rw [ht] at H
          clear hvl he hp hp1 hin ht
          go_wp2_with (go_at_call 67; refine (H.out).mono ?_; rintro e w1 ⟨rfl, n, rfl⟩)
          go_ret2
          rw [hres.out]
          exact ⟨rfl, below_drewN hB _⟩
        · have hnx : FP s.data.toList (k + 1) := by
            have hst := fnd_step hin.1 hin.2 hp1 (fun h => he (hvl.trans h))
            refine ⟨fun _ _ => hst, fun h => ?_⟩
            obtain rfl : k = 16 := by omega
            exact hst.symm
          have ht : (v.toList == s.toList) = false := bytes_f he
          rw [ht] at H
          clear hvl he hp hp1 hin ht
          go_wp2_with (go_at_call 67; refine (H.out).mono ?_; rintro e w1 ⟨rfl, n, rfl⟩)
          go_roundw
          case rel => exact ⟨k + 1, by omega, by go_num, hnx, hc, T.drewN _, below_drewN hB _⟩
          case measure => simp [intOf]; omega
      · have H := Lib.hid (found_no w.heap.size k wr T (by omega))
        have hnx : FP s.data.toList (k + 1) := by
          refine ⟨fun _ h => ?_, fun h => hp.2 (by omega)⟩
          obtain rfl : k = 0 := by omega
          rfl
        clear hp hin
        go_wp2_with (go_at_call 67; refine (H.out).mono ?_; rintro e w1 ⟨rfl, n, rfl⟩)
        go_roundw
        case rel => exact ⟨k + 1, by omega, by go_num, hnx, hc, T.drewN _, below_drewN hB _⟩
        case measure => simp [intOf]; omega
    · have hres : Hid (R = (0, false)) := by rw [Hid, HR.out, hp.2 (by omega)]
      clear hp
      go_wp2_with fail
      go_ret2
      rw [hres.out]
      exact ⟨rfl, hB⟩

end Go.Proofs.YtgaibdipecngkaaDoor

namespace Go.Proofs.YtgaibdipecngkaaDoor
set_option linter.unusedVariables false

/-- A token. -/
structure Tk where
  kind : Int
  text : ByteArray
  wd : Int
  pos : Int
/-- An expression. -/
inductive Ex where
  | mk (kind op wd : Int) (name : ByteArray) (kids : List Ex) (pos : Int)
/-- A declaration. -/
structure Dc where
  name : ByteArray
  wd : Int
  pos : Int
/-- A statement. -/
inductive St where
  | mk (kind : Int) (name other : ByteArray) (e : List Ex) (body els : List St) (pos : Int)
/-- A thread. -/
structure Th where
  name : ByteArray
  locals : List Dc
  body : List St
  pos : Int
/-- A program. -/
structure Pg where
  shared : List Dc
  locks : List Dc
  threads : List Th
theorem Ex.ind {P : Ex → Prop} (h : ∀ k o w n ks a, (∀ x ∈ ks, P x) → P (.mk k o w n ks a)) : ∀ e, P e
  | .mk k o w n ks a => h k o w n ks a fun x hx => Ex.ind h x
termination_by e => SizeOf.sizeOf e
decreasing_by
  have := List.sizeOf_lt_of_mem hx
  simp only [Ex.mk.sizeOf_spec]
  omega
theorem St.ind {P : St → Prop} (h : ∀ k n o e b l a, (∀ x ∈ b, P x) → (∀ x ∈ l, P x) → P (.mk k n o e b l a)) : ∀ s, P s
  | .mk k n o e b l a => h k n o e b l a (fun x hx => St.ind h x) (fun x hx => St.ind h x)
termination_by s => SizeOf.sizeOf s
decreasing_by
  · have := List.sizeOf_lt_of_mem hx
    simp only [St.mk.sizeOf_spec]
    omega
  · have := List.sizeOf_lt_of_mem hx
    simp only [St.mk.sizeOf_spec]
    omega
theorem Exs.ind {P : List Ex → Prop} (h0 : P []) (h1 : ∀ k o w n ks a r, P ks → P r → P (.mk k o w n ks a :: r)) : ∀ l, P l
  | [] => h0
  | .mk k o w n ks a :: r => h1 k o w n ks a r (Exs.ind h0 h1 ks) (Exs.ind h0 h1 r)
termination_by l => SizeOf.sizeOf l
theorem Sts.ind {P : List St → Prop} (h0 : P []) (h1 : ∀ k n o e b l a r, P b → P l → P r → P (.mk k n o e b l a :: r)) : ∀ l, P l
  | [] => h0
  | .mk k n o e b l a :: r => h1 k n o e b l a r (Sts.ind h0 h1 b) (Sts.ind h0 h1 l) (Sts.ind h0 h1 r)
termination_by l => SizeOf.sizeOf l
def Ex.kind : Ex → Int | .mk k _ _ _ _ _ => k
def Ex.op : Ex → Int | .mk _ o _ _ _ _ => o
def Ex.wd : Ex → Int | .mk _ _ w _ _ _ => w
def Ex.name : Ex → ByteArray | .mk _ _ _ n _ _ => n
def Ex.kids : Ex → List Ex | .mk _ _ _ _ k _ => k
def Ex.pos : Ex → Int | .mk _ _ _ _ _ p => p
def St.kind : St → Int | .mk k _ _ _ _ _ _ => k
def St.name : St → ByteArray | .mk _ n _ _ _ _ _ => n
def St.other : St → ByteArray | .mk _ _ o _ _ _ _ => o
def St.e : St → List Ex | .mk _ _ _ e _ _ _ => e
def St.body : St → List St | .mk _ _ _ _ b _ _ => b
def St.els : St → List St | .mk _ _ _ _ _ l _ => l
def St.pos : St → Int | .mk _ _ _ _ _ _ p => p
def St.put (p : Int) : St → St | .mk k n o e b l _ => .mk k n o e b l p

/-- A result of reading: what was read and what is left, or the place and the rule of the fault. -/
inductive PR (α : Type) where
  | ok (a : α) (r : List Tk)
  | bad (pos rule : Int)
def PR.then {α β : Type} (x : PR α) (f : α → List Tk → PR β) : PR β :=
  match x with
  | .ok a r => f a r
  | .bad p r => .bad p r
@[simp] theorem PR.then_ok {α β : Type} (a : α) (r : List Tk) (f : α → List Tk → PR β) : (PR.ok a r).then f = f a r := rfl
@[simp] theorem PR.then_bad {α β : Type} (p r : Int) (f : α → List Tk → PR β) : (PR.bad p r : PR α).then f = .bad p r := rfl
/-- What is left is shorter. -/
def PR.Short {α : Type} (x : PR α) (n : Nat) : Prop := ∀ a r, x = .ok a r → r.length < n

abbrev Bs := List UInt8
def Tk.tx (t : Tk) : Bs := t.text.data.toList
/-- The place of what comes next. -/
def hdP (L : Int) : List Tk → Int
  | [] => L
  | t :: _ => t.pos
def isT (s : Bs) : List Tk → Bool
  | [] => false
  | t :: _ => t.tx == s
def need (L : Int) (s : Bs) (ts : List Tk) : PR Unit := if isT s ts then .ok () ts.tail else .bad (hdP L ts) 2
def nameP (L : Int) : List Tk → PR Dc
  | [] => .bad L 2
  | t :: r => if t.kind = 1 then .ok ⟨t.text, 0, t.pos⟩ r else .bad t.pos 2
def numP (L : Int) : List Tk → PR Int
  | [] => .bad L 2
  | t :: r => if t.kind = 3 then .ok t.wd r else .bad t.pos 2
def sLevel : List Int := [0, 7, 7, 8, 8, 8, 3, 1, 2, 6, 6, 4, 4, 5, 5, 5, 5, 9, 9]
def levelI (o : Int) : Int := sLevel.getD o.toNat 0
def unX (op : Int) (p : Int) (e : Ex) : Ex := .mk 3 op 0 ⟨#[]⟩ [e] p
def biX (op : Int) (p : Int) (a b : Ex) : Ex := .mk 4 op 0 ⟨#[]⟩ [a, b] p
section
variable (fnd : Bs → Int × Bool) (L : Int)
mutual
def opnd : Nat → Int → List Tk → PR Ex
  | 0, _, _ => .bad 0 0
  | _ + 1, _, [] => .bad L 2
  | n + 1, d, t :: r =>
    if t.kind = 3 then .ok (.mk 1 0 t.wd ⟨#[]⟩ [] t.pos) r
    else if t.kind = 1 then .ok (.mk 2 0 0 t.text [] t.pos) r
    else if t.tx = [45] then if d = 64 then .bad t.pos 3 else (opnd n (d + 1) r).then fun e r => .ok (unX 17 t.pos e) r
    else if t.tx = [33] then if d = 64 then .bad t.pos 3 else (opnd n (d + 1) r).then fun e r => .ok (unX 18 t.pos e) r
    else if t.tx = [40] then if d = 64 then .bad t.pos 3 else (binE n 1 (d + 1) r).then fun e r => (need L [41] r).then fun _ r => .ok e r
    else .bad t.pos 2
def binE : Nat → Int → Int → List Tk → PR Ex
  | 0, _, _, _ => .bad 0 0
  | n + 1, v, d, ts => (opnd n d ts).then fun e r => binL n v d e r
def binL : Nat → Int → Int → Ex → List Tk → PR Ex
  | 0, _, _, _, _ => .bad 0 0
  | _ + 1, _, _, e, [] => .ok e []
  | n + 1, v, d, e, t :: r =>
    if (fnd t.tx).2 = true ∧ v ≤ levelI (fnd t.tx).1 then (binE n (levelI (fnd t.tx).1 + 1) d r).then fun f r => binL n v d (biX (fnd t.tx).1 t.pos e f) r
    else .ok e (t :: r)
end
/-- One or more, with commas between and a semicolon behind. -/
def listP (one : List Tk → PR Dc) : Nat → List Dc → List Tk → PR (List Dc)
  | 0, _, _ => .bad 0 0
  | n + 1, acc, ts => (one ts).then fun d r => if isT [44] r then listP one n (acc ++ [d]) r.tail else (need L [59] r).then fun _ r => .ok (acc ++ [d]) r
def firstP (ts : List Tk) : PR Dc := (nameP L ts).then fun d r =>
  if isT [61] r then
    if isT [45] r.tail then (numP L r.tail.tail).then fun v r => .ok ⟨d.name, -v, d.pos⟩ r
    else (numP L r.tail).then fun v r => .ok ⟨d.name, v, d.pos⟩ r
  else .ok d r
def parenP (n : Nat) (ts : List Tk) : PR Ex := (need L [40] ts).then fun _ r => (binE fnd L n 1 0 r).then fun e r => (need L [41] r).then fun _ r => .ok e r
def changeP (n : Nat) (t : Tk) (r : List Tk) : PR St :=
  (need L [61] r).then fun _ r =>
    if isT [115, 119, 97, 112] r then
      (need L [40] r.tail).then fun _ r => (nameP L r).then fun o r => (need L [44] r).then fun _ r => (binE fnd L n 1 0 r).then fun e r => (need L [41] r).then fun _ r => (need L [59] r).then fun _ r => .ok (.mk 2 t.text o.name [e] [] [] t.pos) r
    else (binE fnd L n 1 0 r).then fun e r => (need L [59] r).then fun _ r => .ok (.mk 1 t.text ⟨#[]⟩ [e] [] [] t.pos) r
/-- The brace of a block that lies so deep. -/
def openP (d : Int) (ts : List Tk) : PR Unit := (need L [123] ts).then fun _ r => if 64 < d then .bad (hdP L ts) 3 else .ok () r
mutual
def stmtP : Nat → Int → List Tk → PR St
  | 0, _, _ => .bad 0 0
  | _ + 1, _, [] => .bad L 2
  | n + 1, d, t :: r =>
    if t.kind = 1 then changeP fnd L n t r
    else if t.tx = [105, 102] then (parenP fnd L n r).then fun e r => (openP L (d + 1) r).then fun _ r => (restP n (d + 1) [] r).then fun b r =>
      if isT [101, 108, 115, 101] r then (openP L (d + 1) r.tail).then fun _ r => (restP n (d + 1) [] r).then fun l r => .ok (.mk 3 ⟨#[]⟩ ⟨#[]⟩ [e] b l t.pos) r
      else .ok (.mk 3 ⟨#[]⟩ ⟨#[]⟩ [e] b [] t.pos) r
    else if t.tx = [119, 104, 105, 108, 101] then (parenP fnd L n r).then fun e r => (openP L (d + 1) r).then fun _ r => (restP n (d + 1) [] r).then fun b r => .ok (.mk 4 ⟨#[]⟩ ⟨#[]⟩ [e] b [] t.pos) r
    else if t.tx = [108, 111, 99, 107] then (nameP L r).then fun o r => (openP L (d + 1) r).then fun _ r => (restP n (d + 1) [] r).then fun b r => .ok (.mk 5 o.name ⟨#[]⟩ [] b [] t.pos) r
    else if t.tx = [112, 114, 105, 110, 116] then (binE fnd L n 1 0 r).then fun e r => (need L [59] r).then fun _ r => .ok (.mk 6 ⟨#[]⟩ ⟨#[]⟩ [e] [] [] t.pos) r
    else if t.tx = [115, 107, 105, 112] then (need L [59] r).then fun _ r => .ok (.mk 7 ⟨#[]⟩ ⟨#[]⟩ [] [] [] t.pos) r
    else .bad t.pos 2
/-- The statements of a block, with the brace behind them. -/
def restP : Nat → Int → List St → List Tk → PR (List St)
  | 0, _, _, _ => .bad 0 0
  | n + 1, d, acc, ts => if isT [125] ts then .ok acc ts.tail else (stmtP n d ts).then fun s r => restP n d (acc ++ [s]) r
end
/-- Lines of locals. -/
def localsP : Nat → List Dc → List Tk → PR (List Dc)
  | 0, _, _ => .bad 0 0
  | n + 1, acc, ts => if isT [108, 111, 99, 97, 108] ts then (listP L (nameP L) n [] ts.tail).then fun l r => localsP n (acc ++ l) r else .ok acc ts
/-- A thread, behind its word. -/
def threadP (n : Nat) (ts : List Tk) : PR Th :=
  (nameP L ts).then fun d r => (openP L 1 r).then fun _ r => (localsP L n [] r).then fun l r => (restP fnd L n 1 [] r).then fun b r => .ok ⟨d.name, l, b, d.pos⟩ r
def threadsP : Nat → List Th → List Tk → PR (List Th)
  | 0, _, _ => .bad 0 0
  | n + 1, acc, ts => if isT [116, 104, 114, 101, 97, 100] ts then (threadP fnd L n ts.tail).then fun t r => threadsP n (acc ++ [t]) r else .ok acc ts
def declsP : Nat → Pg → List Tk → PR Pg
  | 0, _, _ => .bad 0 0
  | n + 1, p, ts =>
    if isT [115, 104, 97, 114, 101, 100] ts then (listP L (firstP L) n [] ts.tail).then fun l r => declsP n { p with shared := p.shared ++ l } r
    else if isT [108, 111, 99, 107] ts then (listP L (nameP L) n [] ts.tail).then fun l r => declsP n { p with locks := p.locks ++ l } r
    else .ok p ts
def endP {α : Type} (x : PR α) : PR α := x.then fun a r => match r with | [] => .ok a [] | t :: _ => .bad t.pos 2
def progP (n : Nat) (ts : List Tk) : PR Pg := (declsP L n ⟨[], [], []⟩ ts).then fun p r => (threadsP fnd L n [] r).then fun l r => .ok { p with threads := l } r
def fuel (ts : List Tk) : Nat := 3 * ts.length + 5
def parseP (ts : List Tk) : PR Pg := endP (progP fnd L (fuel ts) ts)
def exprP (ts : List Tk) : PR Ex := endP (binE fnd L (fuel ts) 1 0 ts)
end
end Go.Proofs.YtgaibdipecngkaaDoor

namespace Go.Proofs.YtgaibdipecngkaaDoor
set_option linter.unusedVariables false
theorem PR.then_eq_ok {α β : Type} {x : PR α} {f : α → List Tk → PR β} {b : β} {r : List Tk} (h : x.then f = .ok b r) : ∃ a q, x = .ok a q ∧ f a q = .ok b r := by
  cases x with
  | ok a q => exact ⟨a, q, rfl, h⟩
  | bad p q => cases h
theorem need_ok {L : Int} {s : Bs} {ts : List Tk} {u : Unit} {r : List Tk} (h : need L s ts = .ok u r) : isT s ts = true ∧ r = ts.tail ∧ r.length + 1 = ts.length := by
  unfold need at h
  split at h
  · rename_i hi
    cases h
    cases ts with
    | nil => cases hi
    | cons t r => exact ⟨hi, rfl, rfl⟩
  · cases h
theorem isT_tail {s : Bs} {ts : List Tk} (h : isT s ts = true) : ts.tail.length + 1 = ts.length := by
  cases ts with
  | nil => cases h
  | cons t r => rfl
theorem name_ok {L : Int} {ts : List Tk} {d : Dc} {r : List Tk} (h : nameP L ts = .ok d r) : r.length + 1 = ts.length := by
  cases ts with
  | nil => cases h
  | cons t q =>
    simp only [nameP] at h
    split at h
    · cases h; rfl
    · cases h
theorem num_ok {L : Int} {ts : List Tk} {d : Int} {r : List Tk} (h : numP L ts = .ok d r) : r.length + 1 = ts.length := by
  cases ts with
  | nil => cases h
  | cons t q =>
    simp only [numP] at h
    split at h
    · cases h; rfl
    · cases h
section
variable {fnd : Bs → Int × Bool} {L : Int}
theorem expr_short : ∀ n : Nat,
    (∀ d ts e r, opnd fnd L n d ts = .ok e r → r.length < ts.length) ∧
    (∀ v d ts e r, binE fnd L n v d ts = .ok e r → r.length < ts.length) ∧
    (∀ v d l ts e r, binL fnd L n v d l ts = .ok e r → r.length ≤ ts.length) := by
  intro n
  induction n with
  | zero => exact ⟨fun d ts e r h => by simp [opnd] at h, fun v d ts e r h => by simp [binE] at h, fun v d l ts e r h => by simp [binL] at h⟩
  | succ n ih =>
    obtain ⟨i1, i2, i3⟩ := ih
    refine ⟨fun d ts e r h => ?_, fun v d ts e r h => ?_, fun v d l ts e r h => ?_⟩
    · cases ts with
      | nil => simp [opnd] at h
      | cons t q =>
        simp only [opnd] at h
        split at h
        · cases h; simp
        split at h
        · cases h; simp
        split at h
        · split at h
          · cases h
          · obtain ⟨a, b, h1, h2⟩ := PR.then_eq_ok h
            cases h2
            have := i1 _ _ _ _ h1
            simp; omega
        split at h
        · split at h
          · cases h
          · obtain ⟨a, b, h1, h2⟩ := PR.then_eq_ok h
            cases h2
            have := i1 _ _ _ _ h1
            simp; omega
        split at h
        · split at h
          · cases h
          · obtain ⟨a, b, h1, h2⟩ := PR.then_eq_ok h
            obtain ⟨u, c, h3, h4⟩ := PR.then_eq_ok h2
            cases h4
            have := i2 _ _ _ _ _ h1
            have := (need_ok h3).2.2
            simp; omega
        · cases h
    · simp only [binE] at h
      obtain ⟨a, b, h1, h2⟩ := PR.then_eq_ok h
      have := i1 _ _ _ _ h1
      have := i3 _ _ _ _ _ _ h2
      omega
    · cases ts with
      | nil => simp only [binL] at h; cases h; simp
      | cons t q =>
        simp only [binL] at h
        split at h
        · obtain ⟨a, b, h1, h2⟩ := PR.then_eq_ok h
          have := i2 _ _ _ _ _ h1
          have := i3 _ _ _ _ _ _ h2
          simp; omega
        · cases h; simp
theorem opnd_short {n : Nat} {d : Int} {ts : List Tk} {e : Ex} {r : List Tk} (h : opnd fnd L n d ts = .ok e r) : r.length < ts.length := (expr_short n).1 _ _ _ _ h
theorem binE_short {n : Nat} {v d : Int} {ts : List Tk} {e : Ex} {r : List Tk} (h : binE fnd L n v d ts = .ok e r) : r.length < ts.length := (expr_short n).2.1 _ _ _ _ _ h
theorem binL_short {n : Nat} {v d : Int} {l : Ex} {ts : List Tk} {e : Ex} {r : List Tk} (h : binL fnd L n v d l ts = .ok e r) : r.length ≤ ts.length := (expr_short n).2.2 _ _ _ _ _ _ h
theorem list_short {one : List Tk → PR Dc} (ho : ∀ ts d r, one ts = .ok d r → r.length < ts.length) : ∀ (n : Nat) (acc : List Dc) (ts : List Tk) (l : List Dc) (r : List Tk), listP L one n acc ts = .ok l r → r.length < ts.length
  | 0, acc, ts, l, r, h => by simp [listP] at h
  | n + 1, acc, ts, l, r, h => by
    simp only [listP] at h
    obtain ⟨a, b, h1, h2⟩ := PR.then_eq_ok h
    have k := ho _ _ _ h1
    split at h2
    · rename_i hi
      have := list_short ho n _ _ _ _ h2
      have := isT_tail hi
      omega
    · obtain ⟨u, c, h3, h4⟩ := PR.then_eq_ok h2
      cases h4
      have := (need_ok h3).2.2
      omega
theorem nameP_short {ts : List Tk} {d : Dc} {r : List Tk} (h : nameP L ts = .ok d r) : r.length < ts.length := by have := name_ok h; omega
theorem firstP_short {ts : List Tk} {d : Dc} {r : List Tk} (h : firstP L ts = .ok d r) : r.length < ts.length := by
  unfold firstP at h
  obtain ⟨a, b, h1, h2⟩ := PR.then_eq_ok h
  have k := nameP_short h1
  split at h2
  · rename_i i1
    have q1 := isT_tail i1
    split at h2
    · rename_i i2
      have q2 := isT_tail i2
      obtain ⟨c, e, h3, h4⟩ := PR.then_eq_ok h2
      have := num_ok h3
      cases h4
      omega
    · obtain ⟨c, e, h3, h4⟩ := PR.then_eq_ok h2
      have := num_ok h3
      cases h4
      omega
  · cases h2; exact k
theorem paren_short {n : Nat} {ts : List Tk} {e : Ex} {r : List Tk} (h : parenP fnd L n ts = .ok e r) : r.length < ts.length := by
  unfold parenP at h
  obtain ⟨u, b, h1, h2⟩ := PR.then_eq_ok h
  obtain ⟨a, c, h3, h4⟩ := PR.then_eq_ok h2
  obtain ⟨u', d, h5, h6⟩ := PR.then_eq_ok h4
  cases h6
  have := (need_ok h1).2.2
  have := binE_short h3
  have := (need_ok h5).2.2
  omega
theorem open_short {d : Int} {ts : List Tk} {u : Unit} {r : List Tk} (h : openP L d ts = .ok u r) : r.length + 1 = ts.length := by
  unfold openP at h
  obtain ⟨a, b, h1, h2⟩ := PR.then_eq_ok h
  split at h2
  · cases h2
  · cases h2
    exact (need_ok h1).2.2
theorem change_short {n : Nat} {t : Tk} {ts : List Tk} {s : St} {r : List Tk} (h : changeP fnd L n t ts = .ok s r) : r.length < ts.length := by
  unfold changeP at h
  obtain ⟨u, b, h1, h2⟩ := PR.then_eq_ok h
  have := (need_ok h1).2.2
  split at h2
  · rename_i i1
    have := isT_tail i1
    obtain ⟨u1, b1, h3, h4⟩ := PR.then_eq_ok h2
    obtain ⟨u2, b2, h5, h6⟩ := PR.then_eq_ok h4
    obtain ⟨u3, b3, h7, h8⟩ := PR.then_eq_ok h6
    obtain ⟨u4, b4, h9, h10⟩ := PR.then_eq_ok h8
    obtain ⟨u5, b5, h11, h12⟩ := PR.then_eq_ok h10
    obtain ⟨u6, b6, h13, h14⟩ := PR.then_eq_ok h12
    cases h14
    have := (need_ok h3).2.2
    have := name_ok h5
    have := (need_ok h7).2.2
    have := binE_short h9
    have := (need_ok h11).2.2
    have := (need_ok h13).2.2
    omega
  · obtain ⟨u4, b4, h9, h10⟩ := PR.then_eq_ok h2
    obtain ⟨u5, b5, h11, h12⟩ := PR.then_eq_ok h10
    cases h12
    have := binE_short h9
    have := (need_ok h11).2.2
    omega
theorem stmt_short : ∀ n : Nat,
    (∀ d ts s r, stmtP fnd L n d ts = .ok s r → r.length < ts.length) ∧
    (∀ d acc ts l r, restP fnd L n d acc ts = .ok l r → r.length < ts.length) := by
  intro n
  induction n with
  | zero => exact ⟨fun d ts s r h => by simp [stmtP] at h, fun d acc ts l r h => by simp [restP] at h⟩
  | succ n ih =>
    obtain ⟨i1, i2⟩ := ih
    refine ⟨fun d ts s r h => ?_, fun d acc ts l r h => ?_⟩
    · cases ts with
      | nil => simp [stmtP] at h
      | cons t q =>
        simp only [stmtP] at h
        rw [List.length_cons]
        split at h
        · have := change_short h; omega
        split at h
        · obtain ⟨u1, b1, h1, h2⟩ := PR.then_eq_ok h
          obtain ⟨u2, b2, h3, h4⟩ := PR.then_eq_ok h2
          obtain ⟨u3, b3, h5, h6⟩ := PR.then_eq_ok h4
          have := paren_short h1
          have := open_short h3
          have := i2 _ _ _ _ _ h5
          split at h6
          · rename_i hi
            have := isT_tail hi
            obtain ⟨u4, b4, h7, h8⟩ := PR.then_eq_ok h6
            obtain ⟨u5, b5, h9, h10⟩ := PR.then_eq_ok h8
            have := open_short h7
            have := i2 _ _ _ _ _ h9
            cases h10
            omega
          · cases h6; omega
        split at h
        · obtain ⟨u1, b1, h1, h2⟩ := PR.then_eq_ok h
          obtain ⟨u2, b2, h3, h4⟩ := PR.then_eq_ok h2
          obtain ⟨u3, b3, h5, h6⟩ := PR.then_eq_ok h4
          have := paren_short h1
          have := open_short h3
          have := i2 _ _ _ _ _ h5
          cases h6; omega
        split at h
        · obtain ⟨u1, b1, h1, h2⟩ := PR.then_eq_ok h
          obtain ⟨u2, b2, h3, h4⟩ := PR.then_eq_ok h2
          obtain ⟨u3, b3, h5, h6⟩ := PR.then_eq_ok h4
          have := name_ok h1
          have := open_short h3
          have := i2 _ _ _ _ _ h5
          cases h6; omega
        split at h
        · obtain ⟨u1, b1, h1, h2⟩ := PR.then_eq_ok h
          obtain ⟨u2, b2, h3, h4⟩ := PR.then_eq_ok h2
          have := binE_short h1
          have := (need_ok h3).2.2
          cases h4; omega
        split at h
        · obtain ⟨u1, b1, h1, h2⟩ := PR.then_eq_ok h
          have := (need_ok h1).2.2
          cases h2; omega
        · cases h
    · simp only [restP] at h
      split at h
      · rename_i hi
        cases h
        have := isT_tail hi
        omega
      · obtain ⟨a, b, h1, h2⟩ := PR.then_eq_ok h
        have := i1 _ _ _ _ h1
        have := i2 _ _ _ _ _ h2
        omega
theorem stmtP_short {n : Nat} {d : Int} {ts : List Tk} {s : St} {r : List Tk} (h : stmtP fnd L n d ts = .ok s r) : r.length < ts.length := (stmt_short n).1 _ _ _ _ h
theorem restP_short {n : Nat} {d : Int} {acc : List St} {ts : List Tk} {l : List St} {r : List Tk} (h : restP fnd L n d acc ts = .ok l r) : r.length < ts.length := (stmt_short n).2 _ _ _ _ _ h
theorem locals_short : ∀ (n : Nat) (acc : List Dc) (ts : List Tk) (l : List Dc) (r : List Tk), localsP L n acc ts = .ok l r → r.length ≤ ts.length
  | 0, acc, ts, l, r, h => by simp [localsP] at h
  | n + 1, acc, ts, l, r, h => by
    simp only [localsP] at h
    split at h
    · rename_i hi
      have := isT_tail hi
      obtain ⟨a, b, h1, h2⟩ := PR.then_eq_ok h
      have := list_short (L := L) (fun _ _ _ h => nameP_short h) n _ _ _ _ h1
      have := locals_short n _ _ _ _ h2
      omega
    · cases h; exact Nat.le_refl _
theorem thread_short {n : Nat} {ts : List Tk} {t : Th} {r : List Tk} (h : threadP fnd L n ts = .ok t r) : r.length < ts.length := by
  unfold threadP at h
  obtain ⟨u1, b1, h1, h2⟩ := PR.then_eq_ok h
  obtain ⟨u2, b2, h3, h4⟩ := PR.then_eq_ok h2
  obtain ⟨u3, b3, h5, h6⟩ := PR.then_eq_ok h4
  obtain ⟨u4, b4, h7, h8⟩ := PR.then_eq_ok h6
  cases h8
  have := name_ok h1
  have := open_short h3
  have := locals_short _ _ _ _ _ h5
  have := restP_short h7
  omega
end
end Go.Proofs.YtgaibdipecngkaaDoor

namespace Go.Proofs.YtgaibdipecngkaaDoor
set_option linter.unusedVariables false
def Tk.bare (t : Tk) : Int × ByteArray × Int := (t.kind, t.text, t.wd)
mutual
def Ex.bare : Ex → Ex
  | .mk k o w n ks _ => .mk k o w n (exsBare ks) 0
def exsBare : List Ex → List Ex
  | [] => []
  | e :: r => e.bare :: exsBare r
end
mutual
def St.bare : St → St
  | .mk k n o e b l _ => .mk k n o (exsBare e) (stsBare b) (stsBare l) 0
def stsBare : List St → List St
  | [] => []
  | e :: r => e.bare :: stsBare r
end
def Dc.bare (d : Dc) : Dc := ⟨d.name, d.wd, 0⟩
def Th.bare (t : Th) : Th := ⟨t.name, t.locals.map Dc.bare, stsBare t.body, 0⟩
def Pg.bare (p : Pg) : Pg := ⟨p.shared.map Dc.bare, p.locks.map Dc.bare, p.threads.map Th.bare⟩
theorem bare_name {a b : Dc} (h : a.bare = b.bare) : a.name = b.name := by
  have k := congrArg Dc.name h
  exact k
theorem stsBare_snoc (l : List St) (s : St) : stsBare (l ++ [s]) = stsBare l ++ [s.bare] := by
  induction l with
  | nil => simp [stsBare]
  | cons x r ih => simp [stsBare, ih]
def Like (ts us : List Tk) : Prop := ts.map Tk.bare = us.map Tk.bare
theorem Like.len {ts us : List Tk} (h : Like ts us) : ts.length = us.length := by simpa using congrArg List.length h
theorem Like.tail {ts us : List Tk} (h : Like ts us) : Like ts.tail us.tail := by
  have := congrArg List.tail h
  simpa [Like] using this
theorem Like.refl (ts : List Tk) : Like ts ts := rfl
theorem Like.cases {ts us : List Tk} (h : Like ts us) : (ts = [] ∧ us = []) ∨ ∃ t r u q, ts = t :: r ∧ us = u :: q ∧ t.kind = u.kind ∧ t.text = u.text ∧ t.wd = u.wd ∧ Like r q := by
  cases ts with
  | nil =>
    cases us with
    | nil => exact .inl ⟨rfl, rfl⟩
    | cons u q => cases h
  | cons t r =>
    cases us with
    | nil => cases h
    | cons u q =>
      unfold Like at h
      simp only [List.map_cons, List.cons.injEq, Tk.bare, Prod.mk.injEq] at h
      exact .inr ⟨t, r, u, q, rfl, rfl, h.1.1, h.1.2.1, h.1.2.2, h.2⟩
theorem Like.isT {ts us : List Tk} (h : Like ts us) (s : Bs) : isT s ts = isT s us := by
  rcases h.cases with ⟨rfl, rfl⟩ | ⟨t, r, u, q, rfl, rfl, h1, h2, h3, h4⟩
  · rfl
  · simp only [Proofs.YtgaibdipecngkaaDoor.isT, Tk.tx, h2]
/-- Two results are one, but for places. -/
def PR.sim {α β : Type} (S : α → β → Prop) : PR α → PR β → Prop
  | .ok a r, .ok b q => S a b ∧ Like r q
  | .bad _ r, .bad _ s => r = s
  | _, _ => False
theorem sim_then {α β γ δ : Type} {S : α → β → Prop} {T : γ → δ → Prop} {x : PR α} {y : PR β} {f : α → List Tk → PR γ} {g : β → List Tk → PR δ} (h : x.sim S y) (hf : ∀ a r b q, S a b → Like r q → (f a r).sim T (g b q)) : (x.then f).sim T (y.then g) := by
  cases x with
  | ok a r => cases y with
    | ok b q => exact hf a r b q h.1 h.2
    | bad p s => exact h.elim
  | bad p s => cases y with
    | ok b q => exact h.elim
    | bad p' s' => exact h
section
variable {fnd : Bs → Int × Bool} {L L' : Int}
theorem sim_need {ts us : List Tk} (h : Like ts us) (s : Bs) : (need L s ts).sim (fun _ _ => True) (need L' s us) := by
  unfold need
  rw [h.isT s]
  split
  · exact ⟨trivial, h.tail⟩
  · rfl
theorem sim_name {ts us : List Tk} (h : Like ts us) : (nameP L ts).sim (fun a b => a.bare = b.bare) (nameP L' us) := by
  rcases h.cases with ⟨rfl, rfl⟩ | ⟨t, r, u, q, rfl, rfl, h1, h2, h3, h4⟩
  · rfl
  · simp only [nameP, h1]
    split
    · exact ⟨by simp [Dc.bare, h2], h4⟩
    · rfl
theorem sim_num {ts us : List Tk} (h : Like ts us) : (numP L ts).sim (fun a b => a = b) (numP L' us) := by
  rcases h.cases with ⟨rfl, rfl⟩ | ⟨t, r, u, q, rfl, rfl, h1, h2, h3, h4⟩
  · rfl
  · simp only [numP, h1]
    split
    · exact ⟨h3, h4⟩
    · rfl
def exSim (a b : Ex) : Prop := a.bare = b.bare
theorem sim_expr : ∀ n : Nat,
    (∀ d ts us, Like ts us → (opnd fnd L n d ts).sim exSim (opnd fnd L' n d us)) ∧
    (∀ v d ts us, Like ts us → (binE fnd L n v d ts).sim exSim (binE fnd L' n v d us)) ∧
    (∀ v d l m ts us, exSim l m → Like ts us → (binL fnd L n v d l ts).sim exSim (binL fnd L' n v d m us)) := by
  intro n
  induction n with
  | zero => exact ⟨fun d ts us h => by simp [opnd, PR.sim], fun v d ts us h => by simp [binE, PR.sim], fun v d l m ts us hl h => by simp [binL, PR.sim]⟩
  | succ n ih =>
    obtain ⟨i1, i2, i3⟩ := ih
    refine ⟨fun d ts us h => ?_, fun v d ts us h => ?_, fun v d l m ts us hl h => ?_⟩
    · rcases h.cases with ⟨rfl, rfl⟩ | ⟨t, r, u, q, rfl, rfl, h1, h2, h3, h4⟩
      · simp [opnd, PR.sim]
      · have h2' : t.tx = u.tx := by simp only [Tk.tx, h2]
        simp only [opnd, h1, h2, h2', h3]
        by_cases c : u.kind = 3
        · rw [if_pos c, if_pos c]; exact ⟨by simp [exSim, Ex.bare], h4⟩
        rw [if_neg c, if_neg c]; clear c
        by_cases c : u.kind = 1
        · rw [if_pos c, if_pos c]; exact ⟨by simp [exSim, Ex.bare], h4⟩
        rw [if_neg c, if_neg c]; clear c
        by_cases c : u.tx = [45]
        · rw [if_pos c, if_pos c]
          by_cases k : d = 64
          · rw [if_pos k, if_pos k]; rfl
          · rw [if_neg k, if_neg k]
            refine sim_then (i1 _ _ _ h4) fun a r b q hs hl => ⟨?_, hl⟩
            have hs' : a.bare = b.bare := hs
            simp [exSim, unX, Ex.bare, exsBare, hs']
        rw [if_neg c, if_neg c]; clear c
        by_cases c : u.tx = [33]
        · rw [if_pos c, if_pos c]
          by_cases k : d = 64
          · rw [if_pos k, if_pos k]; rfl
          · rw [if_neg k, if_neg k]
            refine sim_then (i1 _ _ _ h4) fun a r b q hs hl => ⟨?_, hl⟩
            have hs' : a.bare = b.bare := hs
            simp [exSim, unX, Ex.bare, exsBare, hs']
        rw [if_neg c, if_neg c]; clear c
        by_cases c : u.tx = [40]
        · rw [if_pos c, if_pos c]
          by_cases k : d = 64
          · rw [if_pos k, if_pos k]; rfl
          · rw [if_neg k, if_neg k]
            exact sim_then (i2 _ _ _ _ h4) fun a r b q hs hl => sim_then (sim_need hl _) fun _ _ _ _ _ hl => ⟨hs, hl⟩
        rw [if_neg c, if_neg c]
        rfl
    · simp only [binE]
      exact sim_then (i1 _ _ _ h) fun a r b q hs hl => i3 _ _ _ _ _ _ hs hl
    · rcases h.cases with ⟨rfl, rfl⟩ | ⟨t, r, u, q, rfl, rfl, h1, h2, h3, h4⟩
      · simp only [binL]; exact ⟨hl, Like.refl _⟩
      · have h2' : t.tx = u.tx := by simp only [Tk.tx, h2]
        simp only [binL, h2']
        by_cases c : (fnd u.tx).2 = true ∧ v ≤ levelI (fnd u.tx).1
        · rw [if_pos c, if_pos c]
          refine sim_then (i2 _ _ _ _ h4) fun a r b q hs hl' => i3 _ _ _ _ _ _ ?_ hl'
          unfold exSim at hs hl ⊢
          simp [biX, Ex.bare, exsBare, hs, hl]
        · rw [if_neg c, if_neg c]; exact ⟨hl, h⟩
theorem sim_list {one : List Tk → PR Dc} {one' : List Tk → PR Dc} (ho : ∀ ts us, Like ts us → (one ts).sim (fun a b => a.bare = b.bare) (one' us)) : ∀ (n : Nat) (acc acc' : List Dc) (ts us : List Tk), acc.map Dc.bare = acc'.map Dc.bare → Like ts us →
    (listP L one n acc ts).sim (fun a b => a.map Dc.bare = b.map Dc.bare) (listP L' one' n acc' us)
  | 0, acc, acc', ts, us, ha, h => by simp [listP, PR.sim]
  | n + 1, acc, acc', ts, us, ha, h => by
    simp only [listP]
    refine sim_then (ho _ _ h) fun a r b q hs hl => ?_
    rw [hl.isT]
    have h2 : (acc ++ [a]).map Dc.bare = (acc' ++ [b]).map Dc.bare := by simp [ha, hs]
    split
    · exact sim_list ho n _ _ _ _ h2 hl.tail
    · exact sim_then (sim_need hl _) fun _ _ _ _ _ hl => ⟨h2, hl⟩
theorem sim_first {ts us : List Tk} (h : Like ts us) : (firstP L ts).sim (fun a b => a.bare = b.bare) (firstP L' us) := by
  unfold firstP
  refine sim_then (sim_name h) fun a r b q hs hl => ?_
  have hn : a.name = b.name := by
    have := bare_name hs
    exact this
  rw [hl.isT]
  split
  · rw [hl.tail.isT]
    split
    · exact sim_then (sim_num hl.tail.tail) fun x r y q e hl => ⟨by simp [Dc.bare, hn, e], hl⟩
    · exact sim_then (sim_num hl.tail) fun x r y q e hl => ⟨by simp [Dc.bare, hn, e], hl⟩
  · exact ⟨hs, hl⟩
theorem sim_paren (n : Nat) {ts us : List Tk} (h : Like ts us) : (parenP fnd L n ts).sim exSim (parenP fnd L' n us) :=
  sim_then (sim_need h _) fun _ _ _ _ _ hl => sim_then ((sim_expr n).2.1 _ _ _ _ hl) fun a r b q hs hl => sim_then (sim_need hl _) fun _ _ _ _ _ hl => ⟨hs, hl⟩
theorem sim_open (d : Int) {ts us : List Tk} (h : Like ts us) : (openP L d ts).sim (fun _ _ => True) (openP L' d us) := by
  refine sim_then (sim_need h _) fun _ _ _ _ _ hl => ?_
  split
  · rfl
  · exact ⟨trivial, hl⟩
def stSim (a b : St) : Prop := a.bare = b.bare
def stsSim (a b : List St) : Prop := stsBare a = stsBare b
theorem sim_change (n : Nat) {t u : Tk} (ht : t.text = u.text) {ts us : List Tk} (h : Like ts us) : (changeP fnd L n t ts).sim stSim (changeP fnd L' n u us) := by
  refine sim_then (sim_need h _) fun _ r _ q _ hl => ?_
  rw [hl.isT]
  split
  · refine sim_then (sim_need hl.tail _) fun _ _ _ _ _ hl => sim_then (sim_name hl) fun o _ o' _ hn hl => sim_then (sim_need hl _) fun _ _ _ _ _ hl => sim_then ((sim_expr n).2.1 _ _ _ _ hl) fun a r b q hs hl => sim_then (sim_need hl _) fun _ _ _ _ _ hl => sim_then (sim_need hl _) fun _ _ _ _ _ hl => ⟨?_, hl⟩
    have h1 : o.name = o'.name := bare_name hn
    have h2 : a.bare = b.bare := hs
    simp [stSim, St.bare, exsBare, stsBare, ht, h1, h2]
  · refine sim_then ((sim_expr n).2.1 _ _ _ _ hl) fun a r b q hs hl => sim_then (sim_need hl _) fun _ _ _ _ _ hl => ⟨?_, hl⟩
    have h2 : a.bare = b.bare := hs
    simp [stSim, St.bare, exsBare, stsBare, ht, h2]
theorem sim_stmt : ∀ n : Nat,
    (∀ d ts us, Like ts us → (stmtP fnd L n d ts).sim stSim (stmtP fnd L' n d us)) ∧
    (∀ d acc acc' ts us, stsSim acc acc' → Like ts us → (restP fnd L n d acc ts).sim stsSim (restP fnd L' n d acc' us)) := by
  intro n
  induction n with
  | zero => exact ⟨fun d ts us h => by simp [stmtP, PR.sim], fun d acc acc' ts us ha h => by simp [restP, PR.sim]⟩
  | succ n ih =>
    obtain ⟨i1, i2⟩ := ih
    refine ⟨fun d ts us h => ?_, fun d acc acc' ts us ha h => ?_⟩
    · rcases h.cases with ⟨rfl, rfl⟩ | ⟨t, r, u, q, rfl, rfl, h1, h2, h3, h4⟩
      · simp [stmtP, PR.sim]
      · have h2' : t.tx = u.tx := by simp only [Tk.tx, h2]
        simp only [stmtP, h1, h2']
        split
        · exact sim_change n h2 h4
        split
        · refine sim_then (sim_paren n h4) fun e _ e' _ he hl => sim_then (sim_open _ hl) fun _ _ _ _ _ hl => sim_then (i2 _ _ _ _ _ rfl hl) fun b _ b' _ hb hl => ?_
          have he' : e.bare = e'.bare := he
          have hb' : stsBare b = stsBare b' := hb
          rw [hl.isT]
          split
          · refine sim_then (sim_open _ hl.tail) fun _ _ _ _ _ hl => sim_then (i2 _ _ _ _ _ rfl hl) fun c _ c' _ hc hl => ⟨?_, hl⟩
            have hc' : stsBare c = stsBare c' := hc
            simp [stSim, St.bare, exsBare, he', hb', hc']
          · exact ⟨by simp [stSim, St.bare, exsBare, stsBare, he', hb'], hl⟩
        split
        · refine sim_then (sim_paren n h4) fun e _ e' _ he hl => sim_then (sim_open _ hl) fun _ _ _ _ _ hl => sim_then (i2 _ _ _ _ _ rfl hl) fun b _ b' _ hb hl => ⟨?_, hl⟩
          have he' : e.bare = e'.bare := he
          have hb' : stsBare b = stsBare b' := hb
          simp [stSim, St.bare, exsBare, stsBare, he', hb']
        split
        · refine sim_then (sim_name h4) fun o _ o' _ hn hl => sim_then (sim_open _ hl) fun _ _ _ _ _ hl => sim_then (i2 _ _ _ _ _ rfl hl) fun b _ b' _ hb hl => ⟨?_, hl⟩
          have h1 : o.name = o'.name := bare_name hn
          have hb' : stsBare b = stsBare b' := hb
          simp [stSim, St.bare, exsBare, stsBare, h1, hb']
        split
        · refine sim_then ((sim_expr n).2.1 _ _ _ _ h4) fun a r b q hs hl => sim_then (sim_need hl _) fun _ _ _ _ _ hl => ⟨?_, hl⟩
          have h2 : a.bare = b.bare := hs
          simp [stSim, St.bare, exsBare, stsBare, h2]
        split
        · exact sim_then (sim_need h4 _) fun _ _ _ _ _ hl => ⟨by simp [stSim, St.bare], hl⟩
        · rfl
    · simp only [restP]
      rw [h.isT]
      split
      · exact ⟨ha, h.tail⟩
      · refine sim_then (i1 _ _ _ h) fun s _ s' _ hs hl => i2 _ _ _ _ _ ?_ hl
        unfold stsSim at ha ⊢
        have hs' : s.bare = s'.bare := hs
        rw [stsBare_snoc, stsBare_snoc, ha, hs']
theorem sim_locals : ∀ (n : Nat) (acc acc' : List Dc) (ts us : List Tk), acc.map Dc.bare = acc'.map Dc.bare → Like ts us → (localsP L n acc ts).sim (fun a b => a.map Dc.bare = b.map Dc.bare) (localsP L' n acc' us)
  | 0, acc, acc', ts, us, ha, h => by simp [localsP, PR.sim]
  | n + 1, acc, acc', ts, us, ha, h => by
    simp only [localsP]
    rw [h.isT]
    split
    · exact sim_then (sim_list (fun _ _ h => sim_name h) n _ _ _ _ rfl h.tail) fun a r b q hs hl => sim_locals n _ _ _ _ (by simp [ha, hs]) hl
    · exact ⟨ha, h⟩
theorem sim_thread (n : Nat) {ts us : List Tk} (h : Like ts us) : (threadP fnd L n ts).sim (fun a b => a.bare = b.bare) (threadP fnd L' n us) := by
  refine sim_then (sim_name h) fun o _ o' _ hn hl => sim_then (sim_open _ hl) fun _ _ _ _ _ hl => sim_then (sim_locals n _ _ _ _ rfl hl) fun b _ b' _ hb hl => sim_then ((sim_stmt n).2 _ _ _ _ _ rfl hl) fun c _ c' _ hc hl => ⟨?_, hl⟩
  have h1 : o.name = o'.name := bare_name hn
  have hc' : stsBare c = stsBare c' := hc
  simp [Th.bare, h1, hb, hc']
theorem sim_threads : ∀ (n : Nat) (acc acc' : List Th) (ts us : List Tk), acc.map Th.bare = acc'.map Th.bare → Like ts us → (threadsP fnd L n acc ts).sim (fun a b => a.map Th.bare = b.map Th.bare) (threadsP fnd L' n acc' us)
  | 0, acc, acc', ts, us, ha, h => by simp [threadsP, PR.sim]
  | n + 1, acc, acc', ts, us, ha, h => by
    simp only [threadsP]
    rw [h.isT]
    split
    · exact sim_then (sim_thread n h.tail) fun a r b q hs hl => sim_threads n _ _ _ _ (by simp [ha, hs]) hl
    · exact ⟨ha, h⟩
theorem sim_decls : ∀ (n : Nat) (p p' : Pg) (ts us : List Tk), p.bare = p'.bare → Like ts us → (declsP L n p ts).sim (fun a b => a.bare = b.bare) (declsP L' n p' us)
  | 0, acc, acc', ts, us, ha, h => by simp [declsP, PR.sim]
  | n + 1, p, p', ts, us, ha, h => by
    simp only [declsP]
    have ha1 : p.shared.map Dc.bare = p'.shared.map Dc.bare := congrArg Pg.shared ha
    have ha2 : p.locks.map Dc.bare = p'.locks.map Dc.bare := congrArg Pg.locks ha
    have ha3 : p.threads.map Th.bare = p'.threads.map Th.bare := congrArg Pg.threads ha
    rw [h.isT, h.isT]
    split
    · exact sim_then (sim_list (fun _ _ h => sim_first h) n _ _ _ _ rfl h.tail) fun a r b q hs hl => sim_decls n _ _ _ _ (by simp [Pg.bare, ha1, ha2, ha3, hs]) hl
    split
    · exact sim_then (sim_list (fun _ _ h => sim_name h) n _ _ _ _ rfl h.tail) fun a r b q hs hl => sim_decls n _ _ _ _ (by simp [Pg.bare, ha1, ha2, ha3, hs]) hl
    · exact ⟨ha, h⟩
theorem sim_prog (n : Nat) {ts us : List Tk} (h : Like ts us) : (progP fnd L n ts).sim (fun a b => a.bare = b.bare) (progP fnd L' n us) := by
  refine sim_then (sim_decls n _ _ _ _ rfl h) fun a _ b _ hs hl => sim_then (sim_threads n _ _ _ _ rfl hl) fun c _ d _ ht hl => ⟨?_, hl⟩
  have ha1 : a.shared.map Dc.bare = b.shared.map Dc.bare := congrArg Pg.shared hs
  have ha2 : a.locks.map Dc.bare = b.locks.map Dc.bare := congrArg Pg.locks hs
  simp [Pg.bare, ha1, ha2, ht]
theorem sim_end {α β : Type} {S : α → β → Prop} {x : PR α} {y : PR β} (h : x.sim S y) : (endP x).sim S (endP y) := by
  refine sim_then h fun a r b q hs hl => ?_
  rcases hl.cases with ⟨rfl, rfl⟩ | ⟨t, r, u, q, rfl, rfl, _⟩
  · exact ⟨hs, rfl⟩
  · rfl
theorem sim_parse {ts us : List Tk} (h : Like ts us) : (parseP fnd L ts).sim (fun a b => a.bare = b.bare) (parseP fnd L' us) := by
  unfold parseP fuel
  rw [h.len]
  exact sim_end (sim_prog _ h)
theorem sim_exprP {ts us : List Tk} (h : Like ts us) : (exprP fnd L ts).sim exSim (exprP fnd L' us) := by
  unfold exprP fuel
  rw [h.len]
  exact sim_end ((sim_expr _).2.1 _ _ _ _ h)
end
end Go.Proofs.YtgaibdipecngkaaDoor

namespace Go.Proofs.YtgaibdipecngkaaDoor
open Go.RowKit
set_option linter.unusedVariables false

/-- Where a list of so many cells a part begins: nil and what is empty may lie anywhere. -/
def AtP (R : Nat → Prop) (e : Bool) (a : Option Addr) (F : Nat → Nat → Prop) : Prop := e = true ∨ ∃ b o, a = some ⟨b, o, none⟩ ∧ R b ∧ F b o
mutual
def exIn (R : Nat → Prop) (w : World) : Ex → Nat → Nat → Prop
  | .mk k o wd nm ks p, b, off =>
    w.cell? ⟨b, off, none⟩ = some (.int .u8 k) ∧ w.cell? ⟨b, off + 1, none⟩ = some (.int .u8 o) ∧ w.cell? ⟨b, off + 2, none⟩ = some (.int .i64 wd) ∧ w.cell? ⟨b, off + 3, none⟩ = some (.string nm) ∧
    (∃ a cap, w.cell? ⟨b, off + 4, none⟩ = some (.slice a ks.length cap) ∧ (ks.isEmpty = true ∨ ∃ g q, a = some ⟨g, q, none⟩ ∧ R g ∧ exsIn R w ks g q)) ∧ w.cell? ⟨b, off + 5, none⟩ = some (.int .i64 p)
def exsIn (R : Nat → Prop) (w : World) : List Ex → Nat → Nat → Prop
  | [], _, _ => True
  | e :: r, b, off => exIn R w e b off ∧ exsIn R w r b (off + 6)
end
/-- A slice that begins there reads as these expressions. -/
def exsAt (R : Nat → Prop) (w : World) (l : List Ex) (a : Option Addr) : Prop := l.isEmpty = true ∨ ∃ g q, a = some ⟨g, q, none⟩ ∧ R g ∧ exsIn R w l g q
mutual
def stIn (R : Nat → Prop) (w : World) : St → Nat → Nat → Prop
  | .mk k n o e b l p, g, off =>
    w.cell? ⟨g, off, none⟩ = some (.int .u8 k) ∧ w.cell? ⟨g, off + 1, none⟩ = some (.string n) ∧ w.cell? ⟨g, off + 2, none⟩ = some (.string o) ∧
    (∃ a cap, w.cell? ⟨g, off + 3, none⟩ = some (.slice a e.length cap) ∧ exsAt R w e a) ∧
    (∃ a cap, w.cell? ⟨g, off + 4, none⟩ = some (.slice a b.length cap) ∧ (b.isEmpty = true ∨ ∃ g q, a = some ⟨g, q, none⟩ ∧ R g ∧ stsIn R w b g q)) ∧
    (∃ a cap, w.cell? ⟨g, off + 5, none⟩ = some (.slice a l.length cap) ∧ (l.isEmpty = true ∨ ∃ g q, a = some ⟨g, q, none⟩ ∧ R g ∧ stsIn R w l g q)) ∧ w.cell? ⟨g, off + 6, none⟩ = some (.int .i64 p)
def stsIn (R : Nat → Prop) (w : World) : List St → Nat → Nat → Prop
  | [], _, _ => True
  | s :: r, b, off => stIn R w s b off ∧ stsIn R w r b (off + 7)
end
def stsAt (R : Nat → Prop) (w : World) (l : List St) (a : Option Addr) : Prop := l.isEmpty = true ∨ ∃ g q, a = some ⟨g, q, none⟩ ∧ R g ∧ stsIn R w l g q
def dcIn (w : World) (d : Dc) (b off : Nat) : Prop := w.cell? ⟨b, off, none⟩ = some (.string d.name) ∧ w.cell? ⟨b, off + 1, none⟩ = some (.int .i64 d.wd) ∧ w.cell? ⟨b, off + 2, none⟩ = some (.int .i64 d.pos)
def dcsIn (w : World) : List Dc → Nat → Nat → Prop
  | [], _, _ => True
  | d :: r, b, off => dcIn w d b off ∧ dcsIn w r b (off + 3)
def dcsAt (R : Nat → Prop) (w : World) (l : List Dc) (a : Option Addr) : Prop := l.isEmpty = true ∨ ∃ g q, a = some ⟨g, q, none⟩ ∧ R g ∧ dcsIn w l g q
def thIn (R : Nat → Prop) (w : World) (t : Th) (b off : Nat) : Prop :=
  w.cell? ⟨b, off, none⟩ = some (.string t.name) ∧ (∃ a cap, w.cell? ⟨b, off + 1, none⟩ = some (.slice a t.locals.length cap) ∧ dcsAt R w t.locals a) ∧
  (∃ a cap, w.cell? ⟨b, off + 2, none⟩ = some (.slice a t.body.length cap) ∧ stsAt R w t.body a) ∧ w.cell? ⟨b, off + 3, none⟩ = some (.int .i64 t.pos)
def thsIn (R : Nat → Prop) (w : World) : List Th → Nat → Nat → Prop
  | [], _, _ => True
  | t :: r, b, off => thIn R w t b off ∧ thsIn R w r b (off + 4)
def thsAt (R : Nat → Prop) (w : World) (l : List Th) (a : Option Addr) : Prop := l.isEmpty = true ∨ ∃ g q, a = some ⟨g, q, none⟩ ∧ R g ∧ thsIn R w l g q

/-- What lies in a block that is chosen lies there still. -/
def Stays (R : Nat → Prop) (w w' : World) : Prop := ∀ b o v, R b → w.cell? ⟨b, o, none⟩ = some v → w'.cell? ⟨b, o, none⟩ = some v
theorem Stays.refl (R : Nat → Prop) (w : World) : Stays R w w := fun _ _ _ _ h => h
theorem Stays.trans {R : Nat → Prop} {a b c : World} (h : Stays R a b) (k : Stays R b c) : Stays R a c := fun g o v hg hv => k g o v hg (h g o v hg hv)
theorem Stays.mono {R R' : Nat → Prop} {w w' : World} (h : Stays R' w w') (hm : ∀ b, R b → R' b) : Stays R w w' := fun g o v hg hv => h g o v (hm g hg) hv
section
variable {R R' : Nat → Prop} {w w' : World}
theorem exsIn_stays (hw : Stays R w w') (hm : ∀ b, R b → R' b) : ∀ (l : List Ex) (b off : Nat), R b → exsIn R w l b off → exsIn R' w' l b off := by
  intro l
  induction l using Exs.ind with
  | h0 => intro b off _ _; exact trivial
  | h1 k o wd nm ks p r ih1 ih2 =>
    intro b off hb h
    obtain ⟨⟨c0, c1, c2, c3, ⟨a, cap, c4, h4⟩, c5⟩, hr⟩ := h
    refine ⟨⟨hw _ _ _ hb c0, hw _ _ _ hb c1, hw _ _ _ hb c2, hw _ _ _ hb c3, ⟨a, cap, hw _ _ _ hb c4, ?_⟩, hw _ _ _ hb c5⟩, ih2 b _ hb hr⟩
    rcases h4 with h4 | ⟨g, q, rfl, hg, hi⟩
    · exact .inl h4
    · exact .inr ⟨g, q, rfl, hm g hg, ih1 g q hg hi⟩
theorem exsAt_stays (hw : Stays R w w') (hm : ∀ b, R b → R' b) {l : List Ex} {a : Option Addr} (h : exsAt R w l a) : exsAt R' w' l a := by
  rcases h with h | ⟨g, q, rfl, hg, hi⟩
  · exact .inl h
  · exact .inr ⟨g, q, rfl, hm g hg, exsIn_stays hw hm l g q hg hi⟩
theorem stsIn_stays (hw : Stays R w w') (hm : ∀ b, R b → R' b) : ∀ (l : List St) (b off : Nat), R b → stsIn R w l b off → stsIn R' w' l b off := by
  intro l
  induction l using Sts.ind with
  | h0 => intro b off _ _; exact trivial
  | h1 k n o e bd el p r ih1 ih2 ih3 =>
    intro b off hb h
    obtain ⟨⟨c0, c1, c2, ⟨a3, cap3, c3, h3⟩, ⟨a4, cap4, c4, h4⟩, ⟨a5, cap5, c5, h5⟩, c6⟩, hr⟩ := h
    refine ⟨⟨hw _ _ _ hb c0, hw _ _ _ hb c1, hw _ _ _ hb c2, ⟨a3, cap3, hw _ _ _ hb c3, exsAt_stays hw hm h3⟩, ⟨a4, cap4, hw _ _ _ hb c4, ?_⟩, ⟨a5, cap5, hw _ _ _ hb c5, ?_⟩, hw _ _ _ hb c6⟩, ih3 b _ hb hr⟩
    · rcases h4 with h4 | ⟨g, q, rfl, hg, hi⟩
      · exact .inl h4
      · exact .inr ⟨g, q, rfl, hm g hg, ih1 g q hg hi⟩
    · rcases h5 with h5 | ⟨g, q, rfl, hg, hi⟩
      · exact .inl h5
      · exact .inr ⟨g, q, rfl, hm g hg, ih2 g q hg hi⟩
theorem stsAt_stays (hw : Stays R w w') (hm : ∀ b, R b → R' b) {l : List St} {a : Option Addr} (h : stsAt R w l a) : stsAt R' w' l a := by
  rcases h with h | ⟨g, q, rfl, hg, hi⟩
  · exact .inl h
  · exact .inr ⟨g, q, rfl, hm g hg, stsIn_stays hw hm l g q hg hi⟩
theorem dcsIn_stays (hw : Stays R w w') : ∀ (l : List Dc) (b off : Nat), R b → dcsIn w l b off → dcsIn w' l b off
  | [], _, _, _, _ => trivial
  | d :: r, b, off, hb, ⟨⟨c0, c1, c2⟩, hr⟩ => ⟨⟨hw _ _ _ hb c0, hw _ _ _ hb c1, hw _ _ _ hb c2⟩, dcsIn_stays hw r b _ hb hr⟩
theorem dcsAt_stays (hw : Stays R w w') (hm : ∀ b, R b → R' b) {l : List Dc} {a : Option Addr} (h : dcsAt R w l a) : dcsAt R' w' l a := by
  rcases h with h | ⟨g, q, rfl, hg, hi⟩
  · exact .inl h
  · exact .inr ⟨g, q, rfl, hm g hg, dcsIn_stays hw l g q hg hi⟩
theorem thsIn_stays (hw : Stays R w w') (hm : ∀ b, R b → R' b) : ∀ (l : List Th) (b off : Nat), R b → thsIn R w l b off → thsIn R' w' l b off
  | [], _, _, _, _ => trivial
  | t :: r, b, off, hb, ⟨⟨c0, ⟨a1, cap1, c1, h1⟩, ⟨a2, cap2, c2, h2⟩, c3⟩, hr⟩ =>
    ⟨⟨hw _ _ _ hb c0, ⟨a1, cap1, hw _ _ _ hb c1, dcsAt_stays hw hm h1⟩, ⟨a2, cap2, hw _ _ _ hb c2, stsAt_stays hw hm h2⟩, hw _ _ _ hb c3⟩, thsIn_stays hw hm r b _ hb hr⟩
theorem thsAt_stays (hw : Stays R w w') (hm : ∀ b, R b → R' b) {l : List Th} {a : Option Addr} (h : thsAt R w l a) : thsAt R' w' l a := by
  rcases h with h | ⟨g, q, rfl, hg, hi⟩
  · exact .inl h
  · exact .inr ⟨g, q, rfl, hm g hg, thsIn_stays hw hm l g q hg hi⟩
end
theorem cell_lt {w : World} {a : Addr} {v : Value} (h : w.cell? a = some v) : a.block < w.heap.size := by
  apply Nat.lt_of_not_le
  intro hn
  simp [World.cell?, Array.getElem?_eq_none hn] at h
/-- What is read lies in blocks that are there. -/
theorem exsAt_in {R : Nat → Prop} {w : World} {l : List Ex} {a : Option Addr} (h : exsAt R w l a) : exsAt (fun b => R b ∧ b < w.heap.size) w l a := by
  have key : ∀ (l : List Ex) (b off : Nat), exsIn R w l b off → exsIn (fun b => R b ∧ b < w.heap.size) w l b off := by
    intro l
    induction l using Exs.ind with
    | h0 => intro b off _; exact trivial
    | h1 k o wd nm ks p r ih1 ih2 =>
      intro b off h
      obtain ⟨⟨c0, c1, c2, c3, ⟨a, cap, c4, h4⟩, c5⟩, hr⟩ := h
      refine ⟨⟨c0, c1, c2, c3, ⟨a, cap, c4, ?_⟩, c5⟩, ih2 b _ hr⟩
      rcases h4 with h4 | ⟨g, q, rfl, hg, hi⟩
      · exact .inl h4
      · cases ks with
        | nil => exact .inl rfl
        | cons x xs =>
          refine .inr ⟨g, q, rfl, ⟨hg, ?_⟩, ih1 g q hi⟩
          obtain ⟨k', o', wd', nm', ks', p'⟩ := x
          exact cell_lt hi.1.1
  rcases h with h | ⟨g, q, rfl, hg, hi⟩
  · exact .inl h
  · cases l with
    | nil => exact .inl rfl
    | cons x xs =>
      refine .inr ⟨g, q, rfl, ⟨hg, ?_⟩, key _ g q hi⟩
      obtain ⟨k', o', wd', nm', ks', p'⟩ := x
      exact cell_lt hi.1.1
theorem exsAt_mono {R R' : Nat → Prop} {w : World} {l : List Ex} {a : Option Addr} (h : exsAt R w l a) (hm : ∀ b, R b → R' b) : exsAt R' w l a := exsAt_stays (Stays.refl R w) hm h
/-- One part of a list, by its number. -/
theorem exsIn_get {R : Nat → Prop} {w : World} : ∀ {l : List Ex} {b off : Nat} (i : Nat) (x : Ex), exsIn R w l b off → l[i]? = some x → exIn R w x b (off + i * 6)
  | e :: r, b, off, 0, x, h, hx => by cases hx; exact h.1
  | e :: r, b, off, i + 1, x, h, hx => by
    have := exsIn_get i x h.2 hx
    rw [show off + (i + 1) * 6 = off + 6 + i * 6 by omega]; exact this
theorem stsIn_get {R : Nat → Prop} {w : World} : ∀ {l : List St} {b off : Nat} (i : Nat) (x : St), stsIn R w l b off → l[i]? = some x → stIn R w x b (off + i * 7)
  | e :: r, b, off, 0, x, h, hx => by cases hx; exact h.1
  | e :: r, b, off, i + 1, x, h, hx => by
    have := stsIn_get i x h.2 hx
    rw [show off + (i + 1) * 7 = off + 7 + i * 7 by omega]; exact this
theorem dcsIn_get {w : World} : ∀ {l : List Dc} {b off : Nat} (i : Nat) (x : Dc), dcsIn w l b off → l[i]? = some x → dcIn w x b (off + i * 3)
  | e :: r, b, off, 0, x, h, hx => by cases hx; exact h.1
  | e :: r, b, off, i + 1, x, h, hx => by
    have := dcsIn_get i x h.2 hx
    rw [show off + (i + 1) * 3 = off + 3 + i * 3 by omega]; exact this
theorem thsIn_get {R : Nat → Prop} {w : World} : ∀ {l : List Th} {b off : Nat} (i : Nat) (x : Th), thsIn R w l b off → l[i]? = some x → thIn R w x b (off + i * 4)
  | e :: r, b, off, 0, x, h, hx => by cases hx; exact h.1
  | e :: r, b, off, i + 1, x, h, hx => by
    have := thsIn_get i x h.2 hx
    rw [show off + (i + 1) * 4 = off + 4 + i * 4 by omega]; exact this
/-- The values of the cells of a list's parts. -/
def exCells (e : Ex) (a : Option Addr) (cap : Nat) : List Value := [.int .u8 e.kind, .int .u8 e.op, .int .i64 e.wd, .string e.name, .slice a e.kids.length cap, .int .i64 e.pos]
def stCells (s : St) (a3 : Option Addr) (c3 : Nat) (a4 : Option Addr) (c4 : Nat) (a5 : Option Addr) (c5 : Nat) : List Value := [.int .u8 s.kind, .string s.name, .string s.other, .slice a3 s.e.length c3, .slice a4 s.body.length c4, .slice a5 s.els.length c5, .int .i64 s.pos]
def dcCells (d : Dc) : List Value := [.string d.name, .int .i64 d.wd, .int .i64 d.pos]
def thCells (t : Th) (a1 : Option Addr) (c1 : Nat) (a2 : Option Addr) (c2 : Nat) : List Value := [.string t.name, .slice a1 t.locals.length c1, .slice a2 t.body.length c2, .int .i64 t.pos]
/-- A value is an expression, a statement. -/
def exV (R : Nat → Prop) (w : World) (e : Ex) (vs : List Value) : Prop := ∃ a cap, vs = exCells e a cap ∧ exsAt R w e.kids a
def stV (R : Nat → Prop) (w : World) (s : St) (vs : List Value) : Prop := ∃ a3 c3 a4 c4 a5 c5, vs = stCells s a3 c3 a4 c4 a5 c5 ∧ exsAt R w s.e a3 ∧ stsAt R w s.body a4 ∧ stsAt R w s.els a5
def thV (R : Nat → Prop) (w : World) (t : Th) (vs : List Value) : Prop := ∃ a1 c1 a2 c2, vs = thCells t a1 c1 a2 c2 ∧ dcsAt R w t.locals a1 ∧ stsAt R w t.body a2
theorem exV_stays {R R' : Nat → Prop} {w w' : World} (hw : Stays R w w') (hm : ∀ b, R b → R' b) {e : Ex} {vs : List Value} (h : exV R w e vs) : exV R' w' e vs := by
  obtain ⟨a, c, rfl, h⟩ := h
  exact ⟨a, c, rfl, exsAt_stays hw hm h⟩
theorem stV_stays {R R' : Nat → Prop} {w w' : World} (hw : Stays R w w') (hm : ∀ b, R b → R' b) {e : St} {vs : List Value} (h : stV R w e vs) : stV R' w' e vs := by
  obtain ⟨a3, c3, a4, c4, a5, c5, rfl, h3, h4, h5⟩ := h
  exact ⟨a3, c3, a4, c4, a5, c5, rfl, exsAt_stays hw hm h3, stsAt_stays hw hm h4, stsAt_stays hw hm h5⟩
theorem thV_stays {R R' : Nat → Prop} {w w' : World} (hw : Stays R w w') (hm : ∀ b, R b → R' b) {e : Th} {vs : List Value} (h : thV R w e vs) : thV R' w' e vs := by
  obtain ⟨a3, c3, a4, c4, rfl, h3, h4⟩ := h
  exact ⟨a3, c3, a4, c4, rfl, dcsAt_stays hw hm h3, stsAt_stays hw hm h4⟩
/-- Cells behind one another. -/
def cellsIn (w : World) (b off : Nat) (vs : List Value) : Prop := ∀ j v, vs[j]? = some v → w.cell? ⟨b, off + j, none⟩ = some v
theorem exIn_of {R : Nat → Prop} {w : World} {e : Ex} {vs : List Value} {b off : Nat} (h : exV R w e vs) (hc : cellsIn w b off vs) : exIn R w e b off := by
  obtain ⟨a, c, rfl, h⟩ := h
  obtain ⟨k, o, wd, nm, ks, p⟩ := e
  exact ⟨hc 0 _ rfl, hc 1 _ rfl, hc 2 _ rfl, hc 3 _ rfl, ⟨a, c, hc 4 _ rfl, h⟩, hc 5 _ rfl⟩
theorem exV_of {R : Nat → Prop} {w : World} {e : Ex} {b off : Nat} (h : exIn R w e b off) : ∃ a cap, cellsIn w b off (exCells e a cap) ∧ exsAt R w e.kids a := by
  obtain ⟨k, o, wd, nm, ks, p⟩ := e
  obtain ⟨c0, c1, c2, c3, ⟨a, cap, c4, h⟩, c5⟩ := h
  refine ⟨a, cap, fun j v hj => ?_, h⟩
  match j, hj with
  | 0, hj => cases hj; exact c0
  | 1, hj => cases hj; exact c1
  | 2, hj => cases hj; exact c2
  | 3, hj => cases hj; exact c3
  | 4, hj => cases hj; exact c4
  | 5, hj => cases hj; exact c5
  | j + 6, hj => simp [exCells] at hj
theorem stIn_of {R : Nat → Prop} {w : World} {e : St} {vs : List Value} {b off : Nat} (h : stV R w e vs) (hc : cellsIn w b off vs) : stIn R w e b off := by
  obtain ⟨a3, c3, a4, c4, a5, c5, rfl, h3, h4, h5⟩ := h
  obtain ⟨k, n, o, e, bd, el, p⟩ := e
  exact ⟨hc 0 _ rfl, hc 1 _ rfl, hc 2 _ rfl, ⟨a3, c3, hc 3 _ rfl, h3⟩, ⟨a4, c4, hc 4 _ rfl, h4⟩, ⟨a5, c5, hc 5 _ rfl, h5⟩, hc 6 _ rfl⟩
theorem thIn_of {R : Nat → Prop} {w : World} {e : Th} {vs : List Value} {b off : Nat} (h : thV R w e vs) (hc : cellsIn w b off vs) : thIn R w e b off := by
  obtain ⟨a3, c3, a4, c4, rfl, h3, h4⟩ := h
  exact ⟨hc 0 _ rfl, ⟨a3, c3, hc 1 _ rfl, h3⟩, ⟨a4, c4, hc 2 _ rfl, h4⟩, hc 3 _ rfl⟩
theorem dcIn_of {w : World} {d : Dc} {b off : Nat} (hc : cellsIn w b off (dcCells d)) : dcIn w d b off := ⟨hc 0 _ rfl, hc 1 _ rfl, hc 2 _ rfl⟩
theorem cellsIn_app {w : World} {b off : Nat} {xs ys : List Value} (h : cellsIn w b off (xs ++ ys)) : cellsIn w b off xs ∧ cellsIn w b (off + xs.length) ys := by
  refine ⟨fun j v hj => h j v ?_, fun j v hj => ?_⟩
  · rw [List.getElem?_append_left (List.getElem?_eq_some_iff.1 hj).1]; exact hj
  · have := h (xs.length + j) v (by rw [List.getElem?_append_right (by omega)]; simpa using hj)
    rw [← Nat.add_assoc] at this; exact this
/-- Cells behind one another are these parts. -/
def exsV (R : Nat → Prop) (w : World) : List Ex → List Value → Prop
  | [], xs => xs = []
  | e :: r, xs => ∃ vs ys, xs = vs ++ ys ∧ exV R w e vs ∧ exsV R w r ys
def stsV (R : Nat → Prop) (w : World) : List St → List Value → Prop
  | [], xs => xs = []
  | e :: r, xs => ∃ vs ys, xs = vs ++ ys ∧ stV R w e vs ∧ stsV R w r ys
def thsV (R : Nat → Prop) (w : World) : List Th → List Value → Prop
  | [], xs => xs = []
  | e :: r, xs => ∃ vs ys, xs = vs ++ ys ∧ thV R w e vs ∧ thsV R w r ys
def dcsL (l : List Dc) : List Value := l.flatMap dcCells
section
variable {R R' : Nat → Prop} {w w' : World}
theorem exsV_snoc : ∀ {l : List Ex} {xs vs : List Value} {e : Ex}, exsV R w l xs → exV R w e vs → exsV R w (l ++ [e]) (xs ++ vs)
  | [], xs, vs, e, h, he => by cases h; exact ⟨vs, [], by simp, he, rfl⟩
  | x :: r, xs, vs, e, ⟨us, ys, h1, h2, h3⟩, he => ⟨us, ys ++ vs, by rw [h1, List.append_assoc], h2, exsV_snoc h3 he⟩
theorem stsV_snoc : ∀ {l : List St} {xs vs : List Value} {e : St}, stsV R w l xs → stV R w e vs → stsV R w (l ++ [e]) (xs ++ vs)
  | [], xs, vs, e, h, he => by cases h; exact ⟨vs, [], by simp, he, rfl⟩
  | x :: r, xs, vs, e, ⟨us, ys, h1, h2, h3⟩, he => ⟨us, ys ++ vs, by rw [h1, List.append_assoc], h2, stsV_snoc h3 he⟩
theorem thsV_snoc : ∀ {l : List Th} {xs vs : List Value} {e : Th}, thsV R w l xs → thV R w e vs → thsV R w (l ++ [e]) (xs ++ vs)
  | [], xs, vs, e, h, he => by cases h; exact ⟨vs, [], by simp, he, rfl⟩
  | x :: r, xs, vs, e, ⟨us, ys, h1, h2, h3⟩, he => ⟨us, ys ++ vs, by rw [h1, List.append_assoc], h2, thsV_snoc h3 he⟩
theorem exsV_stays (hw : Stays R w w') (hm : ∀ b, R b → R' b) : ∀ {l : List Ex} {xs : List Value}, exsV R w l xs → exsV R' w' l xs
  | [], xs, h => h
  | x :: r, xs, ⟨us, ys, h1, h2, h3⟩ => ⟨us, ys, h1, exV_stays hw hm h2, exsV_stays hw hm h3⟩
theorem stsV_stays (hw : Stays R w w') (hm : ∀ b, R b → R' b) : ∀ {l : List St} {xs : List Value}, stsV R w l xs → stsV R' w' l xs
  | [], xs, h => h
  | x :: r, xs, ⟨us, ys, h1, h2, h3⟩ => ⟨us, ys, h1, stV_stays hw hm h2, stsV_stays hw hm h3⟩
theorem thsV_stays (hw : Stays R w w') (hm : ∀ b, R b → R' b) : ∀ {l : List Th} {xs : List Value}, thsV R w l xs → thsV R' w' l xs
  | [], xs, h => h
  | x :: r, xs, ⟨us, ys, h1, h2, h3⟩ => ⟨us, ys, h1, thV_stays hw hm h2, thsV_stays hw hm h3⟩
theorem exV_len {e : Ex} {vs : List Value} (h : exV R w e vs) : vs.length = 6 := by obtain ⟨a, c, rfl, _⟩ := h; rfl
theorem stV_len {e : St} {vs : List Value} (h : stV R w e vs) : vs.length = 7 := by obtain ⟨a3, c3, a4, c4, a5, c5, rfl, _⟩ := h; rfl
theorem thV_len {e : Th} {vs : List Value} (h : thV R w e vs) : vs.length = 4 := by obtain ⟨a3, c3, a4, c4, rfl, _⟩ := h; rfl
theorem exsV_len : ∀ {l : List Ex} {xs : List Value}, exsV R w l xs → xs.length = l.length * 6
  | [], xs, h => by cases h; rfl
  | x :: r, xs, ⟨us, ys, h1, h2, h3⟩ => by rw [h1, List.length_append, exV_len h2, exsV_len h3, List.length_cons]; omega
theorem stsV_len : ∀ {l : List St} {xs : List Value}, stsV R w l xs → xs.length = l.length * 7
  | [], xs, h => by cases h; rfl
  | x :: r, xs, ⟨us, ys, h1, h2, h3⟩ => by rw [h1, List.length_append, stV_len h2, stsV_len h3, List.length_cons]; omega
theorem thsV_len : ∀ {l : List Th} {xs : List Value}, thsV R w l xs → xs.length = l.length * 4
  | [], xs, h => by cases h; rfl
  | x :: r, xs, ⟨us, ys, h1, h2, h3⟩ => by rw [h1, List.length_append, thV_len h2, thsV_len h3, List.length_cons]; omega
theorem exsIn_of : ∀ {l : List Ex} {xs : List Value} {b off : Nat}, exsV R w l xs → cellsIn w b off xs → exsIn R w l b off
  | [], xs, b, off, _, _ => trivial
  | x :: r, xs, b, off, ⟨us, ys, h1, h2, h3⟩, hc => by
    subst h1
    obtain ⟨k1, k2⟩ := cellsIn_app hc
    rw [exV_len h2] at k2
    exact ⟨exIn_of h2 k1, exsIn_of h3 k2⟩
theorem stsIn_of : ∀ {l : List St} {xs : List Value} {b off : Nat}, stsV R w l xs → cellsIn w b off xs → stsIn R w l b off
  | [], xs, b, off, _, _ => trivial
  | x :: r, xs, b, off, ⟨us, ys, h1, h2, h3⟩, hc => by
    subst h1
    obtain ⟨k1, k2⟩ := cellsIn_app hc
    rw [stV_len h2] at k2
    exact ⟨stIn_of h2 k1, stsIn_of h3 k2⟩
theorem thsIn_of : ∀ {l : List Th} {xs : List Value} {b off : Nat}, thsV R w l xs → cellsIn w b off xs → thsIn R w l b off
  | [], xs, b, off, _, _ => trivial
  | x :: r, xs, b, off, ⟨us, ys, h1, h2, h3⟩, hc => by
    subst h1
    obtain ⟨k1, k2⟩ := cellsIn_app hc
    rw [thV_len h2] at k2
    exact ⟨thIn_of h2 k1, thsIn_of h3 k2⟩
theorem dcsIn_of : ∀ {l : List Dc} {b off : Nat}, cellsIn w b off (dcsL l) → dcsIn w l b off
  | [], b, off, _ => trivial
  | d :: r, b, off, hc => by
    obtain ⟨k1, k2⟩ := cellsIn_app (xs := dcCells d) (ys := dcsL r) (by simpa [dcsL] using hc)
    exact ⟨dcIn_of k1, dcsIn_of k2⟩
end
theorem dcsL_snoc (l : List Dc) (d : Dc) : dcsL (l ++ [d]) = dcsL l ++ dcCells d := by simp [dcsL]
theorem dcsL_len : ∀ l : List Dc, (dcsL l).length = l.length * 3
  | [] => rfl
  | d :: r => by
    have := dcsL_len r
    simp only [dcsL, List.flatMap_cons, List.length_append, List.length_cons] at this ⊢
    rw [this]; simp [dcCells]; omega
theorem dcsL_app (l m : List Dc) : dcsL (l ++ m) = dcsL l ++ dcsL m := by simp [dcsL]
end Go.Proofs.YtgaibdipecngkaaDoor

namespace Go.Proofs.YtgaibdipecngkaaDoor
open Go.RowKit
set_option linter.unusedVariables false

def Res.tk (x : Res) : Tk := ⟨x.kind, x.text, x.wd, x.place⟩
/-- What a reader holds, but for its place. -/
structure Par where
  X : Nat
  ta : Option Addr
  cap : Nat
  toks : List Res
  L : Nat
  D : Nat
  S : Nat
  O : Nat
  bm : Nat
  bn : Nat
def Par.ptr (c : Par) : Value := .pointer (some ⟨c.X, 0, none⟩)
def Par.at (c : Par) (k : Nat) : List Tk := (c.toks.drop k).map Res.tk
def Par.declE (c : Par) : List MapEntry := [⟨.string ⟨#[115, 104, 97, 114, 101, 100]⟩, .func (.func 30) #[c.ptr] #[], 0⟩, ⟨.string ⟨#[108, 111, 99, 107]⟩, .func (.func 31) #[c.ptr] #[], 1⟩]
def Par.stmtE (c : Par) : List MapEntry := [⟨.string ⟨#[105, 102]⟩, .func (.func 32) #[c.ptr] #[], 0⟩, ⟨.string ⟨#[119, 104, 105, 108, 101]⟩, .func (.func 33) #[c.ptr] #[], 1⟩, ⟨.string ⟨#[108, 111, 99, 107]⟩, .func (.func 34) #[c.ptr] #[], 2⟩, ⟨.string ⟨#[112, 114, 105, 110, 116]⟩, .func (.func 35) #[c.ptr] #[], 3⟩, ⟨.string ⟨#[115, 107, 105, 112]⟩, .func (.func 36) #[c.ptr] #[], 4⟩]
def Par.operE (c : Par) : List MapEntry := [⟨.string ⟨#[45]⟩, .func (.func 63) #[] #[.pointer (some ⟨c.bm, 0, none⟩), .pointer (some ⟨c.bm + 1, 0, none⟩)], 0⟩, ⟨.string ⟨#[33]⟩, .func (.func 63) #[] #[.pointer (some ⟨c.bn, 0, none⟩), .pointer (some ⟨c.bn + 1, 0, none⟩)], 1⟩, ⟨.string ⟨#[40]⟩, .func (.func 38) #[c.ptr] #[], 2⟩]
/-- What stays as it is. -/
structure RdS (c : Par) (w : World) : Prop where
  tok : TokRow w (.slice c.ta c.toks.length c.cap) c.toks
  tne : ∀ g off, c.ta = some ⟨g, off, none⟩ → g ≠ c.X
  dm : w.heap[c.D]? = some (.map c.declE.toArray 2)
  sm : w.heap[c.S]? = some (.map c.stmtE.toArray 5)
  om : w.heap[c.O]? = some (.map c.operE.toArray 3)
  b1 : w.heap[c.bm]? = some (.cells #[c.ptr] 39 (0, 0))
  b2 : w.heap[c.bm + 1]? = some (.cells #[.int .u8 17] 23 (0, 0))
  b3 : w.heap[c.bn]? = some (.cells #[c.ptr] 39 (0, 0))
  b4 : w.heap[c.bn + 1]? = some (.cells #[.int .u8 18] 23 (0, 0))
  ne : c.D ≠ c.X ∧ c.S ≠ c.X ∧ c.O ≠ c.X ∧ c.bm ≠ c.X ∧ c.bm + 1 ≠ c.X ∧ c.bn ≠ c.X ∧ c.bn + 1 ≠ c.X
  tabs : Tabs w
  gne : 1 ≠ c.X ∧ 0 ≠ c.X
  small : c.toks.length ≤ 65536 ∧ c.L ≤ 65536 ∧ ∀ x ∈ c.toks, 0 ≤ x.wd ∧ x.wd ≤ 9223372036854775807
/-- The reader stands at token k. -/
structure Rd (c : Par) (w : World) (k : Nat) : Prop where
  s : RdS c w
  pos : w.heap[c.X]? = some (.cells #[.slice c.ta c.toks.length c.cap, .int .i64 (c.L : Int), .int .i64 (k : Int), .map (some c.D), .map (some c.S), .map (some c.O)] 84 (0, 0))
  le : k ≤ c.toks.length
/-- What a call leaves: all that was there, but for the reader's place. -/
@[reducible] def Fr (c : Par) (w w' : World) : Prop := Keep (fun k _ => k < w.heap.size ∧ k ≠ c.X) w w'
theorem Fr.refl (c : Par) (w : World) : Fr c w w := Keep.refl _ w
theorem Fr.trans {c : Par} {u v w : World} (h : Fr c u v) (k : Fr c v w) : Fr c u w :=
  Keep.trans h (Keep.mono k fun b o hb => ⟨by have := h.size; omega, hb.2⟩)
theorem Fr.of_below {c : Par} {w w' : World} (h : Below w.heap.size w w') : Fr c w w' := Keep.of_below h
theorem Fr.alloc {c : Par} {w w' : World} (h : Fr c w w') (o : Obj) : Fr c w (w'.alloc o) := Keep.alloc h o
theorem Fr.stays {c : Par} {w w' : World} (h : Fr c w w') : Stays (fun b => b < w.heap.size ∧ b ≠ c.X) w w' := by
  intro b o v hb hv
  have hlt := lt_of_at hv
  have hb2 : w'.heap[b]? = w.heap[b]? := by
    rw [h.block b _ (Array.getElem?_eq_getElem (by simpa using hlt)) hb, Array.getElem?_eq_getElem (by simpa using hlt)]
  rw [← hv]
  simp only [World.cell?, hb2]
theorem Fr.cell {c : Par} {w w' : World} (h : Fr c w w') {b o : Nat} (hb : b < w.heap.size) (hx : b ≠ c.X) : w'.cell? ⟨b, o, none⟩ = w.cell? ⟨b, o, none⟩ := by
  have hb2 : w'.heap[b]? = w.heap[b]? := by
    rw [h.block b _ (Array.getElem?_eq_getElem hb) ⟨hb, hx⟩, Array.getElem?_eq_getElem hb]
  simp only [World.cell?, hb2]
theorem Fr.frozen {c : Par} {w w' : World} (h : Fr c w w') {b o : Nat} (hb : b < w.heap.size) (hx : b ≠ c.X) : w'.frozen? ⟨b, o, none⟩ = w.frozen? ⟨b, o, none⟩ := by
  have hb2 : w'.heap[b]? = w.heap[b]? := by
    rw [h.block b _ (Array.getElem?_eq_getElem hb) ⟨hb, hx⟩, Array.getElem?_eq_getElem hb]
  simp only [World.frozen?, hb2]
theorem Fr.block {c : Par} {w w' : World} (h : Fr c w w') {b : Nat} {o : Obj} (hb : w.heap[b]? = some o) (hx : b ≠ c.X) : w'.heap[b]? = some o :=
  Keep.block h b o hb ⟨(Array.getElem?_eq_some_iff.1 hb).1, hx⟩
theorem Fr.setX {c : Par} {w w' : World} (h : Fr c w w') (v : Value) (j : Nat) {o : Obj} (ho : w'.heap[c.X]? = some o) : Fr c w (w'.setCell ⟨c.X, j, none⟩ v) :=
  Keep.setCell h (p := ⟨c.X, j, none⟩) v ho (fun hs => hs.2 rfl)
theorem RdS.keep {c : Par} {w w' : World} (h : RdS c w) (k : Fr c w w') : RdS c w' := by
  obtain ⟨tok, tne, dm, sm, om, b1, b2, b3, b4, ⟨n1, n2, n3, n4, n5, n6, n7⟩, T, ⟨g1, g2⟩, small⟩ := h
  refine ⟨?_, tne, k.block dm n1, k.block sm n2, k.block om n3, k.block b1 n4, k.block b2 n5, k.block b3 n6, k.block b4 n7, ⟨n1, n2, n3, n4, n5, n6, n7⟩, ?_, ⟨g1, g2⟩, small⟩
  · obtain ⟨oa, cap, hu, hc⟩ := tok
    refine ⟨oa, cap, hu, fun i x hx => ?_⟩
    obtain ⟨g, off, ho, a0, a1, a2, a3⟩ := hc i x hx
    have hg : g < w.heap.size := lt_of_at a0
    obtain ⟨rfl, _, _⟩ : c.ta = oa ∧ c.toks.length = c.toks.length ∧ c.cap = cap := by cases hu; exact ⟨rfl, rfl, rfl⟩
    have hx := tne g off ho
    exact ⟨g, off, ho, (k.cell hg hx).trans a0, (k.cell hg hx).trans a1, (k.cell hg hx).trans a2, (k.cell hg hx).trans a3⟩
  · have s1 := T.size1
    have s2 := T.size2
    have := Keep.size k
    exact ⟨by omega, by omega, fun i hi => (k.cell s1 g1).trans (T.lev i hi), fun i hi => (k.cell s2 g2).trans (T.sgn i hi)⟩
theorem Rd.lt {c : Par} {w : World} {k : Nat} (h : Rd c w k) : c.X < w.heap.size := (Array.getElem?_eq_some_iff.1 h.pos).1
/-- A call that does not go on. -/
theorem Rd.below {c : Par} {w w' : World} {k : Nat} (h : Rd c w k) (hb : Below w.heap.size w w') : Rd c w' k :=
  ⟨h.s.keep (.of_below hb), by rw [hb.block _ h.lt]; exact h.pos, h.le⟩
theorem Rd.alloc {c : Par} {w : World} {k : Nat} (h : Rd c w k) (o : Obj) : Rd c (w.alloc o) k := h.below ((Below.refl _ w).alloc (Nat.le_refl _) o)
/-- The reader goes over a token. -/
theorem Rd.step {c : Par} {w : World} {k : Nat} (h : Rd c w k) (hk : k < c.toks.length) : Rd c (w.setCell ⟨c.X, 2, none⟩ (.int .i64 ((k : Int) + 1))) (k + 1) := by
  refine ⟨h.s.keep ((Fr.refl c w).setX _ 2 h.pos), ?_, hk⟩
  have := heap_setCell_same w c.X 2 _ _ (.int .i64 ((k : Int) + 1)) h.pos
  rw [this]
  rfl
/-- The reader's cells. -/
theorem Rd.cells {c : Par} {w : World} {k : Nat} (h : Rd c w k) :
    (w.cell? ⟨c.X, 0, none⟩ = some (.slice c.ta c.toks.length c.cap) ∧ w.cell? ⟨c.X, 1, none⟩ = some (.int .i64 (c.L : Int)) ∧ w.cell? ⟨c.X, 2, none⟩ = some (.int .i64 (k : Int)) ∧
      w.cell? ⟨c.X, 3, none⟩ = some (.map (some c.D)) ∧ w.cell? ⟨c.X, 4, none⟩ = some (.map (some c.S)) ∧ w.cell? ⟨c.X, 5, none⟩ = some (.map (some c.O))) ∧ (∀ o, w.frozen? ⟨c.X, o, none⟩ = false) := by
  refine ⟨⟨?_, ?_, ?_, ?_, ?_, ?_⟩, fun o => ?_⟩
  · rw [cell_of_row w c.X 0 _ _ _ h.pos]; rfl
  · rw [cell_of_row w c.X 1 _ _ _ h.pos]; rfl
  · rw [cell_of_row w c.X 2 _ _ _ h.pos]; rfl
  · rw [cell_of_row w c.X 3 _ _ _ h.pos]; rfl
  · rw [cell_of_row w c.X 4 _ _ _ h.pos]; rfl
  · rw [cell_of_row w c.X 5 _ _ _ h.pos]; rfl
  · simp [World.frozen?, h.pos]
/-- The token that comes next, as a value. -/
def Par.nx (c : Par) (k : Nat) : Tk := match c.at k with | [] => ⟨0, ⟨#[]⟩, 0, c.L⟩ | t :: _ => t
def tkV (t : Tk) : Value := .agg #[.int .u8 t.kind, .string t.text, .int .i64 t.wd, .int .i64 t.pos]
theorem Par.at_lt {c : Par} {k : Nat} (h : k < c.toks.length) : c.at k = (c.toks[k]).tk :: c.at (k + 1) := by
  unfold Par.at
  rw [List.drop_eq_getElem_cons h]; rfl
theorem Par.at_end {c : Par} {k : Nat} (h : c.toks.length ≤ k) : c.at k = [] := by
  unfold Par.at
  rw [List.drop_of_length_le h]; rfl
theorem Par.at_tail {c : Par} {k : Nat} : (c.at k).tail = c.at (k + 1) := by
  by_cases h : k < c.toks.length
  · rw [Par.at_lt h]; rfl
  · rw [Par.at_end (by omega), Par.at_end (by omega)]; rfl
theorem Par.at_len (c : Par) (k : Nat) : (c.at k).length = c.toks.length - k := by simp [Par.at]
theorem Par.nx_pos (c : Par) (k : Nat) : (c.nx k).pos = hdP c.L (c.at k) := by
  unfold Par.nx
  cases c.at k <;> rfl
theorem Par.isT_nx (c : Par) (k : Nat) {s : Bs} (hs : s ≠ []) : isT s (c.at k) = ((c.nx k).tx == s) := by
  unfold Par.nx
  cases c.at k with
  | nil => cases s with
    | nil => exact absurd rfl hs
    | cons a b => rfl
  | cons t r => rfl
theorem Par.isT_lt {c : Par} {k : Nat} {s : Bs} (h : isT s (c.at k) = true) : k < c.toks.length := by
  apply Nat.lt_of_not_le
  intro hn
  rw [Par.at_end hn] at h; cases h
/-- The fault with which a call gives up. -/
def flt (p r : Int) : List PanicEntry := [{ v := .iface 29 (.agg #[.int .i64 p, .int .i64 r]), recovered := false }]
/-- How a call ends that reads. -/
def RdPost {α : Type} (c : Par) (w : World) (x : PR α) (V : α → Value → World → Prop) (e : Ending) (w' : World) : Prop :=
  Fr c w w' ∧ match x with
    | .ok a r => ∃ v k, e = .returned v ∧ V a v w' ∧ Rd c w' k ∧ r = c.at k
    | .bad p q => e = .panicked (flt p q)

/-! ### the look-up in a table of functions by a text -/
/-- What stands in a table by a text. -/
def lookE (s : Bs) : List MapEntry → Value
  | [] => .nilFunc
  | e :: r => match e.key with
    | .string t => if s = t.data.toList then e.val else lookE s r
    | _ => lookE s r
theorem findNow_str (s : ByteArray) : ∀ (es : List MapEntry) (i : Nat), (∀ e ∈ es, ∃ t, e.key = .string t) →
    (∃ j v, Instr.findNow .string (.string s) es i = some (some (j, v)) ∧ v = lookE s.data.toList es) ∨ (Instr.findNow .string (.string s) es i = some none ∧ lookE s.data.toList es = .nilFunc)
  | [], i, _ => .inr ⟨rfl, rfl⟩
  | e :: r, i, h => by
    obtain ⟨t, ht⟩ := h e (.head _)
    by_cases hs : s.data.toList = t.data.toList
    · left
      refine ⟨i, e.val, ?_, ?_⟩
      · have hst : s = t := ByteArray.ext (Array.ext' hs)
        subst hst
        have hb : (s == s) = true := (MapKept.bytes_beq s s).2 rfl
        simp only [Instr.findNow, ht, Instr.sameNow, hb]
      · simp only [lookE, ht]; rw [if_pos hs]
    · have hb : (s == t) = false := by
        cases hq : s == t with
        | false => rfl
        | true => exact absurd (by rw [(MapKept.bytes_beq s t).1 hq]) hs
      have hstep : Instr.findNow .string (.string s) (e :: r) i = Instr.findNow .string (.string s) r (i + 1) := by
        simp only [Instr.findNow, ht, Instr.sameNow, hb]
      have hl : lookE s.data.toList (e :: r) = lookE s.data.toList r := by simp only [lookE, ht]; rw [if_neg hs]
      rw [hstep, hl]
      exact findNow_str s r (i + 1) (fun x hx => h x (.tail _ hx))
theorem run_look {P : Program} {w : World} {t k e : TypeId} {b : Nat} {es : List MapEntry} {clock : Nat} (ht : P.underlying t = some (.map k e)) (hk : P.underlying k = some .string) (hz : (zeroValue e).run P w = .ok .nilFunc w)
    (hb : w.heap[b]? = some (.map es.toArray clock)) (he : ∀ e ∈ es, ∃ t, e.key = .string t) (s : ByteArray) : (Instr.lookup t (.map (some b)) (.string s) false).run P w = .ok (lookE s.data.toList es) w := by
  have hck : ∀ em, (Instr.checkKey em 10000 k (.string s)).run P w = .ok () w := fun em => MapKept.run_checkKey (d := .string) hk (by simp [MapKept.IsKey]) em 9999
  rcases findNow_str s es 0 he with ⟨j, v, h1, h2⟩ | ⟨h1, h2⟩
  · have hf := MapKept.run_findKey (w := w) hk h1
    unfold Instr.lookup
    simp [run_underlying ht, Result.andThen, MapKept.run_getObj_map hb, hck, hf, h2]
  · have hf := MapKept.run_findKey (w := w) hk h1
    unfold Instr.lookup
    simp [run_underlying ht, Result.andThen, MapKept.run_getObj_map hb, hck, hf, h2, hz]
end Go.Proofs.YtgaibdipecngkaaDoor

namespace Go.Proofs.YtgaibdipecngkaaDoor
open Go.RowKit
set_option linter.unusedVariables false
def digitH : List UInt8 → Bool
  | [] => false
  | c :: _ => digitB (c.toNat : Int)
/-- A kind goes with a text. -/
def KdOK (k : Int) (t : Bs) : Prop := (k = 1 ∨ k = 2 ∨ k = 3 ∨ k = 4) ∧ (k = 1 → letterH t = true ∧ wordL t = false) ∧ (k = 2 → letterH t = true) ∧ (k = 3 → digitH t = true)
theorem letterH_take {c : UInt8} {r : List UInt8} {n : Nat} (h : 0 < n) : letterH ((c :: r).take n) = letterB (c.toNat : Int) := by
  cases n with
  | zero => omega
  | succ n => rfl
theorem digitH_take {c : UInt8} {r : List UInt8} {n : Nat} (h : 0 < n) : digitH ((c :: r).take n) = digitB (c.toNat : Int) := by
  cases n with
  | zero => omega
  | succ n => rfl
theorem nextL_kd (l : List UInt8) (h : (nextL l).fr = 0) : KdOK (nextL l).kind (l.take (nextL l).n) := by
  cases l with
  | nil => simp [nextL] at h
  | cons c r =>
    simp only [nextL] at h ⊢
    split at h
    · rename_i h0
      rw [if_pos h0]
      have hp : 0 < spanN namedB (c :: r) := span_pos (by unfold namedB; rw [h0]; rfl)
      unfold nameL at h ⊢
      split
      · exact ⟨.inr (.inl rfl), (fun e => absurd e (by show ¬ (2 : Int) = 1; decide)), (fun _ => by show letterH ((c :: r).take _) = true; rw [letterH_take hp, h0]), (fun e => absurd e (by show ¬ (2 : Int) = 3; decide))⟩
      · rename_i hw
        rw [if_neg hw] at h
        split
        · rename_i h3; rw [if_pos h3] at h; simp at h
        · exact ⟨.inl rfl, (fun _ => ⟨by show letterH ((c :: r).take _) = true; rw [letterH_take hp, h0], by simpa using hw⟩), (fun e => absurd e (by show ¬ (1 : Int) = 2; decide)), (fun e => absurd e (by show ¬ (1 : Int) = 3; decide))⟩
    · rename_i h0
      rw [if_neg h0]
      split at h
      · rename_i h1
        rw [if_pos h1]
        have hp : 0 < spanN digitB (c :: r) := span_pos h1
        unfold numL at h ⊢
        cases hv : valueO ((c :: r).take (spanN digitB (c :: r))) with
        | none => rw [hv] at h; simp [numK] at h
        | some v =>
          rw [hv] at h
          simp only [numK] at h ⊢
          split
          · rename_i hb; rw [if_pos hb] at h; simp at h
          · exact ⟨.inr (.inr (.inl rfl)), (fun e => absurd e (by show ¬ (3 : Int) = 1; decide)), (fun e => absurd e (by show ¬ (3 : Int) = 2; decide)), (fun _ => by show digitH ((c :: r).take _) = true; rw [digitH_take hp, h1])⟩
      · rename_i h1
        rw [if_neg h1]
        split at h
        · rename_i h2
          rw [if_pos h2]
          exact ⟨.inr (.inr (.inr rfl)), (fun e => absurd e (by show ¬ (4 : Int) = 1; decide)), (fun e => absurd e (by show ¬ (4 : Int) = 2; decide)), (fun e => absurd e (by show ¬ (4 : Int) = 3; decide))⟩
        · simp at h
theorem goL_kd : ∀ (f q : Nat) (l : List UInt8), ∀ x ∈ (goL f q l).1, KdOK x.kind x.text.data.toList
  | 0, q, l, x, hx => by simp [goL] at hx
  | f + 1, q, l, x, hx => by
    simp only [goL] at hx
    split at hx
    · simp at hx
    · split at hx
      · rename_i h0 h1
        rcases List.mem_cons.1 hx with rfl | hx
        · have := nextL_kd l h1
          unfold toRes
          rw [if_pos h1]
          simpa using this
        · exact goL_kd f _ _ x hx
      · simp at hx
/-- All tokens are so. -/
def AllKd (ts : List Tk) : Prop := ∀ t ∈ ts, KdOK t.kind t.tx
theorem AllKd.tail {ts : List Tk} (h : AllKd ts) : AllKd ts.tail := fun t ht => h t (List.mem_of_mem_tail ht)
theorem scanX_kd (s : ByteArray) : AllKd ((scanX s).1.map Res.tk) := by
  intro t ht
  obtain ⟨x, hx, rfl⟩ := List.mem_map.1 ht
  unfold scanX at hx
  split at hx
  · simp at hx
  · split at hx
    · rw [front_list] at hx
      exact goL_kd _ _ _ x hx
    · simp at hx
/-- A word or a sign. -/
def Good (s : Bs) : Prop := digitH s = false ∧ (letterH s = false ∨ wordL s = true)
theorem kd_good {k : Int} {s : Bs} (h : KdOK k s) (g : Good s) : (k == 2 || k == 4) = true := by
  obtain ⟨h1, h2, h3, h4⟩ := h
  obtain ⟨g1, g2⟩ := g
  rcases h1 with rfl | rfl | rfl | rfl
  · obtain ⟨a, b⟩ := h2 rfl
    rcases g2 with g2 | g2
    · rw [g2] at a; cases a
    · rw [g2] at b; cases b
  · rfl
  · have := h4 rfl
    rw [g1] at this; cases this
  · rfl
theorem fnd_head (l : Bs) (h : (fnd l).2 = true) : digitH l = false ∧ letterH l = false := by
  have key : ∀ n k, 1 ≤ k → k + n ≤ 17 → (fndFrom l n k).2 = true → digitH l = false ∧ letterH l = false := by
    intro n
    induction n with
    | zero => intro k _ _ h; cases h
    | succ n ih =>
      intro k h1 h2 h
      simp only [fndFrom] at h
      split at h
      · rename_i he
        have hk : ∀ j : Fin 17, digitH (sgnAt j.val) = false ∧ letterH (sgnAt j.val) = false := by decide +kernel
        have := hk ⟨k, by omega⟩
        rw [← he]; exact this
      · exact ih (k + 1) (by omega) (by omega) h
  exact key 16 1 (by omega) (by omega) h
theorem kd_fnd {k : Int} {s : Bs} (h : KdOK k s) (g : (fnd s).2 = true) : k = 4 := by
  obtain ⟨h1, h2, h3, h4⟩ := h
  obtain ⟨g1, g2⟩ := fnd_head s g
  rcases h1 with rfl | rfl | rfl | rfl
  · have := (h2 rfl).1; rw [g2] at this; cases this
  · have := h3 rfl; rw [g2] at this; cases this
  · have := h4 rfl; rw [g1] at this; cases this
  · rfl
end Go.Proofs.YtgaibdipecngkaaDoor

namespace Go.Proofs.YtgaibdipecngkaaDoor
open Go.RowKit
set_option linter.unusedVariables false
/-- A reader: what is left, the first fault's place and rule (0: none). -/
structure Sr where
  ts : List Tk
  pos : Int
  rule : Int
def Sr.ok (σ : Sr) : Bool := σ.rule == 0
def hereM (L : Int) : List Tk → Tk
  | [] => ⟨0, ⟨#[]⟩, 0, L⟩
  | t :: _ => t
def Sr.fail (L : Int) (σ : Sr) (q : Int) : Sr := if σ.ok = true then ⟨σ.ts, (hereM L σ.ts).pos, q⟩ else σ
def Sr.step (σ : Sr) : Sr := ⟨σ.ts.tail, σ.pos, σ.rule⟩
def isK (L : Int) (s : Bs) (ts : List Tk) : Bool := ((hereM L ts).kind == 2 || (hereM L ts).kind == 4) && (hereM L ts).tx == s
/-- Would it go over a word or a sign? -/
def Sr.has (L : Int) (σ : Sr) (s : Bs) : Bool := σ.ok && isK L s σ.ts
def Sr.take (L : Int) (σ : Sr) (s : Bs) : Sr := if σ.has L s = true then σ.step else σ
def Sr.want (L : Int) (σ : Sr) (s : Bs) : Sr := if σ.has L s = true then σ.step else σ.fail L 2
def zE : Ex := .mk 0 0 0 ⟨#[]⟩ [] 0
section
variable (L : Int)
/-- Does an operator of two of at least that level come next? -/
def Sr.goes (σ : Sr) (v : Int) : Bool := σ.ok && (hereM L σ.ts).kind == 4 && (fnd (hereM L σ.ts).tx).2 && decide (v ≤ levelI (fnd (hereM L σ.ts).tx).1)
/-- Too deep? -/
def Sr.deepM (σ : Sr) (d : Int) : Sr := if ((isK L [45] σ.ts || isK L [33] σ.ts || isK L [40] σ.ts) && decide (64 ≤ d)) = true then σ.fail L 3 else σ
mutual
def exM : Nat → Int → Int → Sr → Ex × Sr
  | 0, _, _, σ => (zE, σ)
  | n + 1, v, d, σ => exLM n v d (unM n d σ).1 (unM n d σ).2
def exLM : Nat → Int → Int → Ex → Sr → Ex × Sr
  | 0, _, _, e, σ => (e, σ)
  | n + 1, v, d, e, σ =>
    if σ.goes L v = true then
      exLM n v d (biX (fnd (hereM L σ.ts).tx).1 (hereM L σ.ts).pos e (exM n (levelI (fnd (hereM L σ.ts).tx).1 + 1) d σ.step).1) (exM n (levelI (fnd (hereM L σ.ts).tx).1 + 1) d σ.step).2
    else (e, σ)
def unM : Nat → Int → Sr → Ex × Sr
  | 0, _, σ => (zE, σ)
  | n + 1, d, σ =>
    if (σ.deepM L d).ok = false then (zE, σ.deepM L d)
    else if (hereM L σ.ts).kind = 3 then (.mk 1 0 (hereM L σ.ts).wd ⟨#[]⟩ [] (hereM L σ.ts).pos, σ.step)
    else if (hereM L σ.ts).kind = 1 then (.mk 2 0 0 (hereM L σ.ts).text [] (hereM L σ.ts).pos, σ.step)
    else if isK L [40] σ.ts = true then ((exM n 1 (d + 1) σ.step).1, (exM n 1 (d + 1) σ.step).2.want L [41])
    else if isK L [45] σ.ts = true then (unX 17 (hereM L σ.ts).pos (unM n (d + 1) σ.step).1, (unM n (d + 1) σ.step).2)
    else if isK L [33] σ.ts = true then (unX 18 (hereM L σ.ts).pos (unM n (d + 1) σ.step).1, (unM n (d + 1) σ.step).2)
    else (zE, σ.fail L 2)
end
end
/-- A good reader. -/
def fine (ts : List Tk) : Sr := ⟨ts, 0, 0⟩
theorem fine_ok (ts : List Tk) : (fine ts).ok = true := rfl
/-- A reader that has come upon a fault. -/
def Sr.At (σ : Sr) (p q : Int) : Prop := σ.pos = p ∧ σ.rule = q ∧ q ≠ 0
theorem Sr.At.bad {σ : Sr} {p q : Int} (h : σ.At p q) : σ.ok = false := by
  obtain ⟨_, h2, h3⟩ := h
  unfold Sr.ok
  rw [h2]; simpa using h3
theorem bad_fail {L : Int} {σ : Sr} (h : σ.ok = false) (q : Int) : σ.fail L q = σ := by unfold Sr.fail; rw [h]; rfl
theorem bad_has {L : Int} {σ : Sr} (h : σ.ok = false) (s : Bs) : σ.has L s = false := by unfold Sr.has; rw [h]; rfl
theorem bad_take {L : Int} {σ : Sr} (h : σ.ok = false) (s : Bs) : σ.take L s = σ := by unfold Sr.take; rw [bad_has h]; rfl
theorem bad_want {L : Int} {σ : Sr} (h : σ.ok = false) (s : Bs) : σ.want L s = σ := by unfold Sr.want; rw [bad_has h]; exact bad_fail h 2
theorem bad_deep {L : Int} {σ : Sr} (h : σ.ok = false) (d : Int) : σ.deepM L d = σ := by unfold Sr.deepM; split; exact bad_fail h 3; rfl
theorem bad_goes {L : Int} {σ : Sr} (h : σ.ok = false) (v : Int) : σ.goes L v = false := by unfold Sr.goes; rw [h]; rfl
/-- A reader that has come upon a fault stays as it is. -/
theorem bad_expr {L : Int} : ∀ (n : Nat) {σ : Sr}, σ.ok = false → (∀ d, unM L n d σ = (zE, σ)) ∧ (∀ v d e, exLM L n v d e σ = (e, σ)) ∧ (∀ v d, exM L n v d σ = (zE, σ))
  | 0, σ, h => ⟨fun d => rfl, fun v d e => rfl, fun v d => rfl⟩
  | n + 1, σ, h => by
    obtain ⟨i1, i2, i3⟩ := bad_expr n (L := L) h
    refine ⟨fun d => ?_, fun v d e => ?_, fun v d => ?_⟩
    · simp only [unM]; rw [bad_deep h, if_pos h]
    · simp only [exLM]; rw [bad_goes h]; rfl
    · simp only [exM]; rw [i1, i2]
/-- What is read by the grammar, and by the reader. -/
def PR.as {α : Type} (x : PR α) (y : α × Sr) : Prop := match x with
  | .ok a r => y = (a, fine r)
  | .bad p q => y.2.At p q
theorem fine_fail (L : Int) (ts : List Tk) {q : Int} (hq : q ≠ 0) : ((fine ts).fail L q).At (hdP L ts) q := by
  unfold Sr.fail
  rw [if_pos (fine_ok ts)]
  refine ⟨?_, rfl, hq⟩
  cases ts <;> rfl
theorem fine_has {L : Int} {ts : List Tk} (K : AllKd ts) {s : Bs} (g : Good s) : (fine ts).has L s = isT s ts := by
  unfold Sr.has isK
  rw [fine_ok]
  show (true && _) = _
  cases ts with
  | nil => rfl
  | cons t r =>
    show (true && ((t.kind == 2 || t.kind == 4) && t.tx == s)) = (t.tx == s)
    by_cases h : t.tx = s
    · have := K t (.head _)
      rw [h] at this
      rw [kd_good this g, h]; simp
    · rw [show (t.tx == s) = false by simpa using h]; simp
theorem fine_isK {L : Int} {ts : List Tk} (K : AllKd ts) {s : Bs} (g : Good s) : isK L s ts = isT s ts := by
  rw [← fine_has (L := L) K g]
  unfold Sr.has
  rw [fine_ok]; rfl
theorem fine_want {L : Int} {ts : List Tk} (K : AllKd ts) {s : Bs} (g : Good s) : (need L s ts).as ((), (fine ts).want L s) := by
  unfold need Sr.want
  rw [fine_has K g]
  split
  · rfl
  · exact fine_fail L ts (by decide)
theorem as_then {α β : Type} {x : PR α} {y : α × Sr} (h : x.as y) {f : α → List Tk → PR β} {g : α → Sr → β × Sr} (hf : ∀ a r, x = .ok a r → (f a r).as (g a (fine r))) (hb : ∀ a σ, σ.ok = false → (g a σ).2 = σ) : (x.then f).as (g y.1 y.2) := by
  cases x with
  | ok a r =>
    have h : y = (a, fine r) := h
    rw [h]
    exact hf a r rfl
  | bad p q =>
    have h : y.2.At p q := h
    show (g y.1 y.2).2.At p q
    rw [hb _ _ h.bad]
    exact h
theorem good_sub : Good [45] := ⟨by decide, .inl (by decide)⟩
theorem good_not : Good [33] := ⟨by decide, .inl (by decide)⟩
theorem good_par : Good [40] := ⟨by decide, .inl (by decide)⟩
theorem good_rap : Good [41] := ⟨by decide, .inl (by decide)⟩
theorem all_short {ts r : List Tk} (K : AllKd ts) (h : ∃ a, r = a ++ ts) : True := trivial
/-- What is left is an end of what was there. -/
def Sub (r ts : List Tk) : Prop := ∃ a, ts = a ++ r
theorem Sub.refl (ts : List Tk) : Sub ts ts := ⟨[], rfl⟩
theorem Sub.tail (t : Tk) (ts : List Tk) : Sub ts (t :: ts) := ⟨[t], rfl⟩
theorem Sub.trans {a b c : List Tk} (h : Sub a b) (k : Sub b c) : Sub a c := by
  obtain ⟨x, rfl⟩ := h
  obtain ⟨y, rfl⟩ := k
  exact ⟨y ++ x, by simp⟩
theorem Sub.kd {r ts : List Tk} (h : Sub r ts) (K : AllKd ts) : AllKd r := by
  obtain ⟨a, rfl⟩ := h
  exact fun t ht => K t (List.mem_append_right _ ht)
theorem need_sub {L : Int} {s : Bs} {ts : List Tk} {u : Unit} {r : List Tk} (h : need L s ts = .ok u r) : Sub r ts := by
  obtain ⟨h1, rfl, _⟩ := need_ok h
  cases ts with
  | nil => exact Sub.refl _
  | cons t r => exact Sub.tail t r
theorem expr_sub {fd : Bs → Int × Bool} {L : Int} : ∀ n : Nat,
    (∀ d ts e r, opnd fd L n d ts = .ok e r → Sub r ts) ∧
    (∀ v d ts e r, binE fd L n v d ts = .ok e r → Sub r ts) ∧
    (∀ v d l ts e r, binL fd L n v d l ts = .ok e r → Sub r ts) := by
  intro n
  induction n with
  | zero => exact ⟨fun d ts e r h => by simp [opnd] at h, fun v d ts e r h => by simp [binE] at h, fun v d l ts e r h => by simp [binL] at h⟩
  | succ n ih =>
    obtain ⟨i1, i2, i3⟩ := ih
    refine ⟨fun d ts e r h => ?_, fun v d ts e r h => ?_, fun v d l ts e r h => ?_⟩
    · cases ts with
      | nil => simp [opnd] at h
      | cons t q =>
        simp only [opnd] at h
        split at h
        · cases h; exact Sub.tail _ _
        split at h
        · cases h; exact Sub.tail _ _
        split at h
        · split at h
          · cases h
          · obtain ⟨a, b, h1, h2⟩ := PR.then_eq_ok h
            cases h2
            exact (i1 _ _ _ _ h1).trans (Sub.tail _ _)
        split at h
        · split at h
          · cases h
          · obtain ⟨a, b, h1, h2⟩ := PR.then_eq_ok h
            cases h2
            exact (i1 _ _ _ _ h1).trans (Sub.tail _ _)
        split at h
        · split at h
          · cases h
          · obtain ⟨a, b, h1, h2⟩ := PR.then_eq_ok h
            obtain ⟨u, c, h3, h4⟩ := PR.then_eq_ok h2
            cases h4
            exact ((need_sub h3).trans (i2 _ _ _ _ _ h1)).trans (Sub.tail _ _)
        · cases h
    · simp only [binE] at h
      obtain ⟨a, b, h1, h2⟩ := PR.then_eq_ok h
      exact (i3 _ _ _ _ _ _ h2).trans (i1 _ _ _ _ h1)
    · cases ts with
      | nil => simp only [binL] at h; cases h; exact Sub.refl _
      | cons t q =>
        simp only [binL] at h
        split at h
        · obtain ⟨a, b, h1, h2⟩ := PR.then_eq_ok h
          exact ((i3 _ _ _ _ _ _ h2).trans (i2 _ _ _ _ _ h1)).trans (Sub.tail _ _)
        · cases h; exact Sub.refl _
theorem isT_one {s : Bs} {t : Tk} {r : List Tk} : isT s (t :: r) = (t.tx == s) := rfl
theorem fine_deep {L : Int} {t : Tk} {r : List Tk} (K : AllKd (t :: r)) {d : Int} (hd : d ≤ 64) :
    (fine (t :: r)).deepM L d = if (t.tx = [45] ∨ t.tx = [33] ∨ t.tx = [40]) ∧ d = 64 then (fine (t :: r)).fail L 3 else fine (t :: r) := by
  unfold Sr.deepM
  show (if ((isK L [45] (t :: r) || isK L [33] (t :: r) || isK L [40] (t :: r)) && decide (64 ≤ d)) = true then _ else _) = _
  rw [fine_isK K good_sub, fine_isK K good_not, fine_isK K good_par, isT_one, isT_one, isT_one]
  by_cases h : (t.tx = [45] ∨ t.tx = [33] ∨ t.tx = [40]) ∧ d = 64
  · rw [if_pos h, if_pos]
    obtain ⟨h1, rfl⟩ := h
    rcases h1 with h1 | h1 | h1 <;> rw [h1] <;> rfl
  · rw [if_neg h, if_neg]
    intro hh
    apply h
    simp only [Bool.and_eq_true, Bool.or_eq_true, beq_iff_eq, decide_eq_true_eq] at hh
    exact ⟨by rcases hh.1 with (h1 | h1) | h1; exact .inl h1; exact .inr (.inl h1); exact .inr (.inr h1), by omega⟩
/-- The reader reads what the grammar says. -/
theorem expr_as {L : Int} : ∀ n : Nat,
    (∀ d ts, AllKd ts → 0 ≤ d → d ≤ 64 → 3 * ts.length + 1 ≤ n → (opnd fnd L n d ts).as (unM L n d (fine ts))) ∧
    (∀ v d ts, AllKd ts → 0 ≤ d → d ≤ 64 → 3 * ts.length + 2 ≤ n → (binE fnd L n v d ts).as (exM L n v d (fine ts))) ∧
    (∀ v d e ts, AllKd ts → 0 ≤ d → d ≤ 64 → 3 * ts.length + 1 ≤ n → (binL fnd L n v d e ts).as (exLM L n v d e (fine ts))) := by
  intro n
  induction n with
  | zero => exact ⟨fun d ts K h0 h1 h => by omega, fun v d ts K h0 h1 h => by omega, fun v d e ts K h0 h1 h => by omega⟩
  | succ n ih =>
    obtain ⟨i1, i2, i3⟩ := ih
    refine ⟨fun d ts K h0 h1 h => ?_, fun v d ts K h0 h1 h => ?_, fun v d e ts K h0 h1 h => ?_⟩
    · cases ts with
      | nil =>
        have e : unM L (n + 1) d (fine []) = (zE, (fine []).fail L 2) := by
          simp only [unM]
          have : (fine []).deepM L d = fine [] := rfl
          rw [this]
          rfl
        rw [e]
        exact fine_fail L [] (by decide)
      | cons t r =>
        simp only [List.length_cons] at h
        have Kr : AllKd r := K.tail
        have hst : (fine (t :: r)).step = fine r := rfl
        have hh : hereM L (fine (t :: r)).ts = t := rfl
        simp only [opnd, unM]
        rw [hst, hh, fine_deep K h1]
        have q40 : isK L [40] (fine (t :: r)).ts = (t.tx == [40]) := fine_isK K good_par
        have q45 : isK L [45] (fine (t :: r)).ts = (t.tx == [45]) := fine_isK K good_sub
        have q33 : isK L [33] (fine (t :: r)).ts = (t.tx == [33]) := fine_isK K good_not
        rw [q40, q45, q33]
        have no3 : (t.tx = [45] ∨ t.tx = [33] ∨ t.tx = [40]) → ¬ t.kind = 3 ∧ ¬ t.kind = 1 := by
          intro hx
          have k := K t (.head _)
          have : (t.kind == 2 || t.kind == 4) = true := by
            rcases hx with hx | hx | hx
            · exact kd_good (hx ▸ k) good_sub
            · exact kd_good (hx ▸ k) good_not
            · exact kd_good (hx ▸ k) good_par
          simp only [Bool.or_eq_true, beq_iff_eq] at this
          omega
        by_cases hx : t.tx = [45] ∨ t.tx = [33] ∨ t.tx = [40]
        · obtain ⟨n3, n1⟩ := no3 hx
          by_cases hd : d = 64
          · subst hd
            rw [if_pos (show (t.tx = [45] ∨ t.tx = [33] ∨ t.tx = [40]) ∧ (64 : Int) = 64 from ⟨hx, rfl⟩)]
            have hf := fine_fail L (t :: r) (q := 3) (by decide)
            rw [if_pos hf.bad, if_neg n3, if_neg n1]
            have goal : (PR.bad t.pos 3 : PR Ex).as (zE, (fine (t :: r)).fail L 3) := hf
            rcases hx with hx | hx | hx
            · rw [if_pos hx, if_pos rfl]; exact goal
            · rw [if_neg (by rw [hx]; decide), if_pos hx, if_pos rfl]; exact goal
            · rw [if_neg (by rw [hx]; decide), if_neg (by rw [hx]; decide), if_pos hx, if_pos rfl]; exact goal
          · rw [if_neg (show ¬ ((t.tx = [45] ∨ t.tx = [33] ∨ t.tx = [40]) ∧ d = 64) from fun c => hd c.2), if_neg (show ¬ (fine (t :: r)).ok = false by rw [fine_ok]; decide), if_neg n3, if_neg n1, if_neg n3, if_neg n1]
            rcases hx with hx | hx | hx
            · rw [if_pos hx, if_neg hd, if_neg (by rw [hx]; decide), if_pos (by rw [hx]; rfl)]
              exact as_then (g := fun e σ => (unX 17 t.pos e, σ)) (i1 (d + 1) r Kr (by omega) (by omega) (by omega)) (fun a r' _ => rfl) (fun a σ _ => rfl)
            · rw [if_neg (by rw [hx]; decide), if_pos hx, if_neg hd, if_neg (by rw [hx]; decide), if_neg (by rw [hx]; decide), if_pos (by rw [hx]; rfl)]
              exact as_then (g := fun e σ => (unX 18 t.pos e, σ)) (i1 (d + 1) r Kr (by omega) (by omega) (by omega)) (fun a r' _ => rfl) (fun a σ _ => rfl)
            · rw [if_neg (by rw [hx]; decide), if_neg (by rw [hx]; decide), if_pos hx, if_neg hd, if_pos (by rw [hx]; rfl)]
              exact as_then (g := fun e σ => (e, σ.want L [41])) (i2 1 (d + 1) r Kr (by omega) (by omega) (by omega)) (fun a r' hr => by
                have hk := ((expr_sub n).2.1 _ _ _ _ _ hr).kd Kr
                exact as_then (g := fun _ σ => (a, σ)) (fine_want hk good_rap) (fun a r' _ => rfl) (fun a σ _ => rfl)) (fun a σ h => bad_want h _)
        · have hx' : ¬ t.tx = [45] ∧ ¬ t.tx = [33] ∧ ¬ t.tx = [40] := ⟨fun e => hx (.inl e), fun e => hx (.inr (.inl e)), fun e => hx (.inr (.inr e))⟩
          rw [if_neg (show ¬ ((t.tx = [45] ∨ t.tx = [33] ∨ t.tx = [40]) ∧ d = 64) from fun c => hx c.1), if_neg (show ¬ (fine (t :: r)).ok = false by rw [fine_ok]; decide)]
          by_cases n3 : t.kind = 3
          · rw [if_pos n3, if_pos n3]; rfl
          · rw [if_neg n3, if_neg n3]
            by_cases n1 : t.kind = 1
            · rw [if_pos n1, if_pos n1]; rfl
            · rw [if_neg n1, if_neg n1, if_neg hx'.1, if_neg hx'.2.1, if_neg hx'.2.2, if_neg (by simpa using hx'.2.2), if_neg (by simpa using hx'.1), if_neg (by simpa using hx'.2.1)]
              exact fine_fail L (t :: r) (by decide)
    · simp only [binE, exM]
      exact as_then (g := fun e σ => exLM L n v d e σ) (i1 d ts K h0 h1 (by omega)) (fun a r hr => by
        have hs := opnd_short hr
        exact i3 v d a r (((expr_sub n).1 _ _ _ _ hr).kd K) h0 h1 (by omega)) (fun a σ hb => by rw [(bad_expr n hb).2.1])
    · cases ts with
      | nil =>
        simp only [binL, exLM]
        have : (fine []).goes L v = false := rfl
        rw [this]; rfl
      | cons t r =>
        simp only [List.length_cons] at h
        have Kr : AllKd r := K.tail
        have hst : (fine (t :: r)).step = fine r := rfl
        have hh : hereM L (fine (t :: r)).ts = t := rfl
        simp only [binL, exLM]
        rw [hst, hh]
        have hg : (fine (t :: r)).goes L v = ((fnd t.tx).2 && decide (v ≤ levelI (fnd t.tx).1)) := by
          unfold Sr.goes
          rw [fine_ok, hh]
          by_cases hf : (fnd t.tx).2 = true
          · rw [kd_fnd (K t (.head _)) hf]; rfl
          · rw [show (fnd t.tx).2 = false by simpa using hf]; simp
        rw [hg]
        by_cases hc : (fnd t.tx).2 = true ∧ v ≤ levelI (fnd t.tx).1
        · rw [if_pos hc, if_pos (by simpa using hc)]
          exact as_then (g := fun f σ => exLM L n v d (biX (fnd t.tx).1 t.pos e f) σ) (i2 (levelI (fnd t.tx).1 + 1) d r Kr h0 h1 (by omega)) (fun a r' hr => by
            have hs := binE_short hr
            exact i3 v d _ r' (((expr_sub n).2.1 _ _ _ _ _ hr).kd Kr) h0 h1 (by omega)) (fun a σ hb => by rw [(bad_expr n hb).2.1])
        · rw [if_neg hc, if_neg (by simpa using hc)]; rfl
end Go.Proofs.YtgaibdipecngkaaDoor

namespace Go.Proofs.YtgaibdipecngkaaDoor
open Go.RowKit
set_option linter.unusedVariables false
theorem step_ok (σ : Sr) : σ.step.ok = σ.ok := rfl
theorem fail_ok {L : Int} {σ : Sr} {q : Int} (hq : q ≠ 0) : (σ.fail L q).ok = false := by
  unfold Sr.fail
  split
  · unfold Sr.ok; simpa using hq
  · rename_i h; simpa using h
theorem has_ne {L : Int} {σ : Sr} {s : Bs} (h : σ.has L s = true) : σ.ok = true ∧ σ.step.ts.length + 1 = σ.ts.length := by
  unfold Sr.has isK at h
  simp only [Bool.and_eq_true, Bool.or_eq_true, beq_iff_eq] at h
  refine ⟨h.1, ?_⟩
  obtain ⟨ts, p, q⟩ := σ
  cases ts with
  | nil => simp [hereM] at h
  | cons t r => rfl
theorem want_ok {L : Int} {σ : Sr} {s : Bs} (h : (σ.want L s).ok = true) : σ.has L s = true ∧ σ.want L s = σ.step := by
  unfold Sr.want at h ⊢
  split at h
  · rename_i hh; rw [if_pos hh]; exact ⟨hh, rfl⟩
  · rw [fail_ok (by decide)] at h; cases h
theorem isK_ne {L : Int} {s : Bs} {ts : List Tk} (h : isK L s ts = true) : ts.tail.length + 1 = ts.length := by
  unfold isK at h
  simp only [Bool.and_eq_true, Bool.or_eq_true, beq_iff_eq] at h
  cases ts with
  | nil => simp [hereM] at h
  | cons t r => rfl
theorem kind_ne {L : Int} {ts : List Tk} {k : Int} (h : (hereM L ts).kind = k) (hk : k ≠ 0) : ts.tail.length + 1 = ts.length := by
  cases ts with
  | nil => exact absurd h.symm hk
  | cons t r => rfl
theorem deep_ok {L : Int} {σ : Sr} {d : Int} (h : (σ.deepM L d).ok = true) : σ.ok = true ∧ σ.deepM L d = σ := by
  unfold Sr.deepM at h ⊢
  split at h
  · rw [fail_ok (by decide)] at h; cases h
  · rename_i hh; rw [if_neg hh]; exact ⟨h, rfl⟩
theorem goes_ne {L : Int} {σ : Sr} {v : Int} (h : σ.goes L v = true) : σ.ok = true ∧ σ.step.ts.length + 1 = σ.ts.length := by
  unfold Sr.goes at h
  simp only [Bool.and_eq_true, beq_iff_eq] at h
  exact ⟨h.1.1.1, kind_ne h.1.1.2 (by decide)⟩
/-- Where all is well behind it, it was so ahead; and no more is left. -/
theorem expr_len {L : Int} : ∀ n : Nat,
    (∀ d σ, (unM L n d σ).2.ok = true → σ.ok = true ∧ (unM L n d σ).2.ts.length + min n 1 ≤ σ.ts.length) ∧
    (∀ v d σ, (exM L n v d σ).2.ok = true → σ.ok = true ∧ (exM L n v d σ).2.ts.length ≤ σ.ts.length) ∧
    (∀ v d e σ, (exLM L n v d e σ).2.ok = true → σ.ok = true ∧ (exLM L n v d e σ).2.ts.length ≤ σ.ts.length) := by
  intro n
  induction n with
  | zero => exact ⟨fun d σ h => ⟨h, by show σ.ts.length + 0 ≤ _; omega⟩, fun v d σ h => ⟨h, Nat.le_refl _⟩, fun v d e σ h => ⟨h, Nat.le_refl _⟩⟩
  | succ n ih =>
    obtain ⟨i1, i2, i3⟩ := ih
    refine ⟨fun d σ h => ?_, fun v d σ h => ?_, fun v d e σ h => ?_⟩
    · have hm : min (n + 1) 1 = 1 := by omega
      rw [hm]
      simp only [unM] at h ⊢
      split at h
      · rename_i h0
        rw [h0] at h; cases h
      rename_i h0
      rw [if_neg h0]
      have hok := (deep_ok (by simpa using h0)).1
      split at h
      · rename_i h3
        rw [if_pos h3]
        exact ⟨hok, by have := kind_ne h3 (by decide); show σ.ts.tail.length + 1 ≤ _; omega⟩
      rename_i h3
      rw [if_neg h3]
      split at h
      · rename_i h1
        rw [if_pos h1]
        exact ⟨hok, by have := kind_ne h1 (by decide); show σ.ts.tail.length + 1 ≤ _; omega⟩
      rename_i h1
      rw [if_neg h1]
      split at h
      · rename_i q
        rw [if_pos q]
        have := isK_ne q
        obtain ⟨k1, k2⟩ := want_ok h
        obtain ⟨k3, k4⟩ := has_ne k1
        have := (i2 1 (d + 1) σ.step k3).2
        have e : σ.step.ts.length = σ.ts.tail.length := rfl
        show _ ∧ ((exM L n 1 (d + 1) σ.step).2.want L [41]).ts.length + 1 ≤ _
        rw [k2]
        exact ⟨hok, by omega⟩
      rename_i q
      rw [if_neg q]
      split at h
      · rename_i q
        rw [if_pos q]
        have := isK_ne q
        have := (i1 (d + 1) σ.step h).2
        have e : σ.step.ts.length = σ.ts.tail.length := rfl
        exact ⟨hok, by show (unM L n (d + 1) σ.step).2.ts.length + 1 ≤ _; omega⟩
      rename_i q
      rw [if_neg q]
      split at h
      · rename_i q
        rw [if_pos q]
        have := isK_ne q
        have := (i1 (d + 1) σ.step h).2
        have e : σ.step.ts.length = σ.ts.tail.length := rfl
        exact ⟨hok, by show (unM L n (d + 1) σ.step).2.ts.length + 1 ≤ _; omega⟩
      · rw [fail_ok (by decide)] at h; cases h
    · simp only [exM] at h ⊢
      have a := i3 _ _ _ _ h
      have b := i1 _ _ a.1
      exact ⟨b.1, by have := a.2; have := b.2; omega⟩
    · simp only [exLM] at h ⊢
      split at h
      · rename_i hg
        rw [if_pos hg]
        obtain ⟨g1, g2⟩ := goes_ne hg
        have a := i3 _ _ _ _ h
        have b := i2 _ _ _ a.1
        exact ⟨g1, by have := a.2; have := b.2; omega⟩
      · rename_i hg
        rw [if_neg hg]
        exact ⟨h, Nat.le_refl _⟩
theorem un_len {L : Int} {n : Nat} {d : Int} {σ : Sr} (h : (unM L (n + 1) d σ).2.ok = true) : σ.ok = true ∧ (unM L (n + 1) d σ).2.ts.length + 1 ≤ σ.ts.length := by
  have := (expr_len (L := L) (n + 1)).1 d σ h
  rw [show min (n + 1) 1 = 1 by omega] at this
  exact this
theorem ex_len {L : Int} {n : Nat} {v d : Int} {σ : Sr} (h : (exM L n v d σ).2.ok = true) : σ.ok = true ∧ (exM L n v d σ).2.ts.length ≤ σ.ts.length := (expr_len (L := L) n).2.1 v d σ h
end Go.Proofs.YtgaibdipecngkaaDoor

namespace Go.Proofs.YtgaibdipecngkaaDoor
open Go.RowKit
set_option linter.unusedVariables false

theorem tok_f1 : ∀ (a b c d : Value) (w : World), (Instr.field 69 (.agg #[a, b, c, d]) 1).run Tryd.prog w = .ok b w := fun a b c d w => by kernel_rfl
theorem tok_f2 : ∀ (a b c d : Value) (w : World), (Instr.field 69 (.agg #[a, b, c, d]) 2).run Tryd.prog w = .ok c w := fun a b c d w => by kernel_rfl
theorem ret_tk (t : Tk) {k x w p : Value} (h1 : k = .int .u8 t.kind) (h2 : x = .string t.text) (h3 : w = .int .i64 t.wd) (h4 : p = .int .i64 t.pos) : Ending.returned (.agg #[k, x, w, p]) = .returned (tkV t) := by
  subst h1 h2 h3 h4; rfl
theorem Keep.drewN {sel : Nat → Obj → Prop} {A B : World} (h : Keep sel A B) (n : Nat) : Keep sel A (B.drewN n) := ⟨h.os, h.tape, h.output, h.size, h.block⟩
theorem fr_new {c : Par} {w : World} (o : Obj) (n : Nat) : Fr c w ((w.alloc o).drewN n) := Keep.drewN ((Fr.refl c w).alloc o) n
theorem Rd.new {c : Par} {w : World} {k : Nat} (h : Rd c w k) (o : Obj) (n : Nat) : Rd c ((w.alloc o).drewN n) k := by
  have hb := (Below.refl w.heap.size w).alloc (Nat.le_refl _) o
  exact h.below ⟨hb.os, hb.tape, hb.output, hb.size, hb.block⟩
set_option maxRecDepth 100000 in
set_option maxHeartbeats 1000000 in
theorem p_next {c : Par} {w : World} {k : Nat} (R : Rd c w k) :
    Calls Tryd.prog 40 #[c.ptr] w fun e w' => e = .returned (tkV (c.nx k)) ∧ Below w.heap.size w w' := by
  obtain ⟨⟨c0, c1, c2, _⟩, f⟩ := R.cells
  have hX := R.lt
  have hle := R.le
  have hsm := R.s.small.1
  by_cases hk : k < c.toks.length
  · have hnx : c.nx k = (c.toks[k]).tk := by unfold Par.nx; rw [Par.at_lt hk]
    obtain ⟨oa, cap, hu, htok⟩ := R.s.tok
    obtain ⟨g, off, ho, a0, a1, a2, a3⟩ := htok k c.toks[k] (List.getElem?_eq_getElem hk)
    obtain ⟨hta, _⟩ : c.ta = oa ∧ True := by cases hu; exact ⟨rfl, trivial⟩
    obtain ⟨x, hx⟩ : ∃ x, x = c.toks[k] := ⟨_, rfl⟩
    rw [← hx] at a0 a1 a2 a3 hnx
    obtain ⟨rk, rx, rw0, rp, ra, rr⟩ := x
    simp only at a0 a1 a2 a3
    rw [hnx]
    subst hta
    rw [ho] at c0
    have hkk : (k : Int) < (c.toks.length : Int) := by omega
    obtain ⟨n, hn⟩ : ∃ n, n = c.toks.length := ⟨_, rfl⟩
    rw [← hn] at c0 hkk hk hle hsm
    have hg := lt_of_at a0
    clear hnx htok hu ho hx hn R
    unfold Par.ptr
    go_enter Tryd.func40, Tryd.ntmps40
    go_wp2
    go_quiet (fail)
    go_wp2
    go_region
    go_wp2
    refine bodyPost_ret (v := tkV ⟨rk, rx, rw0, rp⟩) (by simp [results, Tryd.results40, go_sem, tkV]) rfl ⟨rfl, ?_⟩
    repeat (first | exact Below.refl _ _ | refine below_drewN ?_ _ | refine Below.setCell ?_ (by simp) _ | refine Below.alloc ?_ (by simp) _)
  · have hnx : c.nx k = ⟨0, ⟨#[]⟩, 0, c.L⟩ := by unfold Par.nx; rw [Par.at_end (by omega)]
    rw [hnx]
    have hkk : decide ((k : Int) < (c.toks.length : Int)) = false := b_f (by omega)
    have hkn : decide (k < c.toks.length) = false := b_f (by omega)
    obtain ⟨n, hn⟩ : ∃ n, n = c.toks.length := ⟨_, rfl⟩
    rw [← hn] at c0 hkk hk hle hsm hkn
    obtain ⟨L, hL⟩ : ∃ L, L = c.L := ⟨_, rfl⟩
    rw [← hL] at c1 ⊢
    clear hnx hn hL R
    unfold Par.ptr
    go_enter Tryd.func40, Tryd.ntmps40
    go_wp2
    go_quiet (fail)
    go_wp2
    refine bodyPost_ret (v := tkV ⟨0, ⟨#[]⟩, 0, L⟩) (by simp [results, Tryd.results40, go_sem, tkV]) rfl ⟨rfl, ?_⟩
    repeat (first | exact Below.refl _ _ | refine below_drewN ?_ _ | refine Below.setCell ?_ (by simp) _ | refine Below.alloc ?_ (by simp) _)
/-- A call that gives up. -/
theorem p_refuse (t : Tk) (r : Int) (w : World) : Calls Tryd.prog 39 #[tkV t, .int .i64 r] w fun e w' => e = .panicked (flt t.pos r) ∧ Below w.heap.size w w' := by
  obtain ⟨k, x, v, p⟩ := t
  unfold tkV
  go_enter Tryd.func39, Tryd.ntmps39
  go_wp2
  exact ⟨rfl, rfl, (Below.refl _ w).alloc (Nat.le_refl _) _⟩
set_option maxRecDepth 100000 in
set_option maxHeartbeats 1000000 in
theorem p_pass {c : Par} {w : World} {k : Nat} (R : Rd c w k) (s : ByteArray) (hs : s.data.toList ≠ []) :
    Calls Tryd.prog 50 #[c.ptr, .string s] w fun e w' => e = .returned (.bool (isT s.data.toList (c.at k))) ∧ Fr c w w' ∧ Rd c w' (if isT s.data.toList (c.at k) = true then k + 1 else k) := by
  have HN := Lib.hid (p_next R)
  have HR := Lib.hid R
  have hT := Par.isT_nx c k hs
  by_cases h : isT s.data.toList (c.at k) = true
  · have hk := Par.isT_lt h
    have hk6 : k ≤ 65536 := by have := R.s.small.1; omega
    rw [h] at hT ⊢
    rw [if_pos rfl]
    obtain ⟨t, ht⟩ : ∃ t, t = c.nx k := ⟨_, rfl⟩
    rw [← ht] at HN hT
    obtain ⟨tk, tx, tw, tp⟩ := t
    have hx : (tx.toList == s.toList) = true := by
      have e : tx.data.toList = s.data.toList := by simpa [Tk.tx] using hT.symm
      rw [Lib.toList_data, Lib.toList_data, e]; simp
    have HX := Lib.hid hk
    clear hT h ht R hk
    unfold tkV at HN
    unfold Par.ptr at HN ⊢
    have F1 := tok_f1
    go_enter Tryd.func50, Tryd.ntmps50
    go_wp2_with (go_at_call 40; refine (HN.out).mono ?_; rintro e w1 ⟨rfl, hb⟩; have HB := Lib.hid hb; have R1 := Lib.hid (HR.out.below hb); obtain ⟨⟨_, _, c2, _⟩, f⟩ := R1.out.cells; clear hb)
    go_ret
    exact ⟨rfl, Fr.setX (.of_below HB.out) _ 2 R1.out.pos, R1.out.step HX.out⟩
  · have h' : isT s.data.toList (c.at k) = false := by simpa using h
    rw [h'] at hT ⊢
    rw [if_neg (by simp)]
    obtain ⟨t, ht⟩ : ∃ t, t = c.nx k := ⟨_, rfl⟩
    rw [← ht] at HN hT
    obtain ⟨tk, tx, tw, tp⟩ := t
    have hx : (tx.toList == s.toList) = false := by
      have e : ¬ tx.data.toList = s.data.toList := by
        have := hT.symm
        simpa [Tk.tx] using this
      rw [Lib.toList_data, Lib.toList_data]; simpa using e
    clear hT h h' ht R
    unfold tkV at HN
    unfold Par.ptr at HN ⊢
    have F1 := tok_f1
    go_enter Tryd.func50, Tryd.ntmps50
    go_wp2_with (go_at_call 40; refine (HN.out).mono ?_; rintro e w1 ⟨rfl, hb⟩; have HB := Lib.hid hb; clear hb)
    go_ret
    exact ⟨rfl, .of_below HB.out, HR.out.below HB.out⟩
theorem p_take_ok {c : Par} {w : World} {k : Nat} (R : Rd c w k) (s : ByteArray) (hs : s.data.toList ≠ []) (h : isT s.data.toList (c.at k) = true) :
    Calls Tryd.prog 62 #[c.ptr, .string s] w fun e w' => e = .returned (.tuple #[]) ∧ Fr c w w' ∧ Rd c w' (k + 1) := by
  have HP := p_pass R s hs
  rw [h, if_pos rfl] at HP
  have HP := Lib.hid HP
  clear R
  unfold Par.ptr at HP ⊢
  go_enter Tryd.func62, Tryd.ntmps62
  go_wp2_with (go_at_call 50; refine (HP.out).mono ?_; rintro e w1 ⟨rfl, hf, hr⟩; have HF := Lib.hid hf; have HR := Lib.hid hr; clear hf hr)
  go_end0
  exact ⟨rfl, HF.out, HR.out⟩
theorem p_take_bad {c : Par} {w : World} {k : Nat} (R : Rd c w k) (s : ByteArray) (hs : s.data.toList ≠ []) (h : isT s.data.toList (c.at k) = false) :
    Calls Tryd.prog 62 #[c.ptr, .string s] w fun e w' => e = .panicked (flt (hdP c.L (c.at k)) 2) ∧ Fr c w w' := by
  have HP := p_pass R s hs
  rw [h, if_neg (by simp)] at HP
  have HP := Lib.hid HP
  have HQ : Hid (∀ W, Rd c W k → Calls Tryd.prog 40 #[c.ptr] W fun e w' => e = .returned (tkV (c.nx k)) ∧ Below W.heap.size W w') := fun W h => p_next h
  have hp := c.nx_pos k
  obtain ⟨t, ht⟩ : ∃ t, t = c.nx k := ⟨_, rfl⟩
  rw [← ht] at HQ hp
  rw [← hp]
  clear R ht hp
  unfold Par.ptr at HP HQ ⊢
  go_enter Tryd.func62, Tryd.ntmps62
  go_wp2_with (first
    | (go_at_call 50; refine (HP.out).mono ?_; rintro e w1 ⟨rfl, hf, hr⟩; have HF := Lib.hid hf; have HR := Lib.hid hr; clear hf hr)
    | (go_at_call 40; refine (HQ.out _ HR.out).mono ?_; rintro e w2 ⟨rfl, hb⟩; have HB := Lib.hid hb; clear hb)
    | (go_at_call 39; refine (p_refuse _ _ _).mono ?_; rintro e w3 ⟨rfl, hb⟩; have HC := Lib.hid hb; clear hb))
  exact ⟨rfl, rfl, (HF.out.trans (.of_below HB.out)).trans (.of_below HC.out)⟩
end Go.Proofs.YtgaibdipecngkaaDoor

namespace Go.Proofs.YtgaibdipecngkaaDoor
open Go.RowKit
set_option linter.unusedVariables false

/-- The reader's block. -/
def Par.row (c : Par) (k : Nat) : Obj := .cells #[.slice c.ta c.toks.length c.cap, .int .i64 (c.L : Int), .int .i64 (k : Int), .map (some c.D), .map (some c.S), .map (some c.O)] 84 (0, 0)
/-- Behind some calls that began in w. -/
structure At (c : Par) (w W : World) (k : Nat) : Prop where
  fr : Fr c w W
  pos : W.heap[c.X]? = some (c.row k)
  le : k ≤ c.toks.length
theorem At.start {c : Par} {w : World} {k : Nat} (R : Rd c w k) : At c w w k := ⟨Fr.refl c w, R.pos, R.le⟩
theorem At.rd {c : Par} {w W : World} {k k' : Nat} (A : At c w W k') (R : Rd c w k) : Rd c W k' := ⟨R.s.keep A.fr, A.pos, A.le⟩
theorem At.lt {c : Par} {w W : World} {k : Nat} (A : At c w W k) : c.X < W.heap.size := (Array.getElem?_eq_some_iff.1 A.pos).1
theorem At.alloc {c : Par} {w W : World} {k : Nat} (A : At c w W k) (o : Obj) : At c w (W.alloc o) k :=
  ⟨A.fr.alloc o, ((Below.refl _ W).alloc (Nat.le_refl _) o).block _ A.lt |>.trans A.pos, A.le⟩
theorem At.below {c : Par} {w W W' : World} {k : Nat} (A : At c w W k) (h : Below W.heap.size W W') : At c w W' k :=
  ⟨A.fr.trans (.of_below h), (h.block _ A.lt).trans A.pos, A.le⟩
theorem At.call {c : Par} {w W W' : World} {k k' : Nat} (A : At c w W k) (h : Fr c W W') (R : Rd c W' k') : At c w W' k' := ⟨A.fr.trans h, R.pos, R.le⟩
theorem setRow_other {W : World} {b g : Nat} (cs : Array Value) (h : b ≠ g) : (W.setRow g cs).heap[b]? = W.heap[b]? := by
  simp only [World.setRow, Array.getElem?_modify]
  rw [if_neg (fun e => h e.symm)]
theorem Fr.setRow {c : Par} {w W : World} (h : Fr c w W) {g : Nat} (hg : w.heap.size ≤ g) (cs : Array Value) : Fr c w (W.setRow g cs) :=
  have h1 := Keep.os h
  have h2 := Keep.tape h
  have h3 := Keep.output h
  ⟨h1, h2, h3, by have := Keep.size h; simpa [World.setRow] using this, fun b o hb hs => by rw [setRow_other cs (by have := hs.1; omega)]; exact Keep.block h b o hb hs⟩
theorem At.setRow {c : Par} {w W : World} {k : Nat} (A : At c w W k) {g : Nat} (hg : w.heap.size ≤ g) (hx : c.X ≠ g) (cs : Array Value) : At c w (W.setRow g cs) k :=
  ⟨A.fr.setRow hg cs, (setRow_other cs hx).trans A.pos, A.le⟩
theorem At.drew {c : Par} {w W : World} {k : Nat} (A : At c w W k) : At c w W.drew k := ⟨Keep.drewN A.fr 1, A.pos, A.le⟩
theorem Fr.drew {c : Par} {w W : World} (A : Fr c w W) : Fr c w W.drew := Keep.drewN A 1
theorem At.drewN {c : Par} {w W : World} {k : Nat} (A : At c w W k) (n : Nat) : At c w (W.drewN n) k := ⟨Keep.drewN A.fr n, A.pos, A.le⟩
/-- The reader goes over a token. -/
theorem At.step {c : Par} {w W : World} {k : Nat} (A : At c w W k) (hk : k < c.toks.length) : At c w (W.setCell ⟨c.X, 2, none⟩ (.int .i64 ((k : Int) + 1))) (k + 1) := by
  refine ⟨A.fr.setX _ 2 A.pos, ?_, hk⟩
  rw [heap_setCell_same W c.X 2 _ _ (.int .i64 ((k : Int) + 1)) A.pos]
  rfl
theorem At.cells {c : Par} {w W : World} {k : Nat} (A : At c w W k) :
    (W.cell? ⟨c.X, 0, none⟩ = some (.slice c.ta c.toks.length c.cap) ∧ W.cell? ⟨c.X, 1, none⟩ = some (.int .i64 (c.L : Int)) ∧ W.cell? ⟨c.X, 2, none⟩ = some (.int .i64 (k : Int)) ∧
      W.cell? ⟨c.X, 3, none⟩ = some (.map (some c.D)) ∧ W.cell? ⟨c.X, 4, none⟩ = some (.map (some c.S)) ∧ W.cell? ⟨c.X, 5, none⟩ = some (.map (some c.O))) ∧ W.frozen? ⟨c.X, 2, none⟩ = false := by
  have hp := A.pos
  refine ⟨⟨?_, ?_, ?_, ?_, ?_, ?_⟩, ?_⟩
  · rw [cell_of_row W c.X 0 _ _ _ hp]; rfl
  · rw [cell_of_row W c.X 1 _ _ _ hp]; rfl
  · rw [cell_of_row W c.X 2 _ _ _ hp]; rfl
  · rw [cell_of_row W c.X 3 _ _ _ hp]; rfl
  · rw [cell_of_row W c.X 4 _ _ _ hp]; rfl
  · rw [cell_of_row W c.X 5 _ _ _ hp]; rfl
  · simp only [World.frozen?, hp]; rfl
/-- A block of the call's own. -/
def Own (W : World) (b : Nat) (t : TypeId) (cs : Array Value) : Prop := W.heap[b]? = some (.cells cs t (0, 0))
theorem Own.new (W : World) (t : TypeId) (cs : Array Value) : Own (W.alloc (.cells cs t)) W.heap.size t cs := World.alloc_heap_new W _
theorem Own.lt {W : World} {b : Nat} {t : TypeId} {cs : Array Value} (h : Own W b t cs) : b < W.heap.size := (Array.getElem?_eq_some_iff.1 h).1
theorem Own.alloc {W : World} {b : Nat} {t : TypeId} {cs : Array Value} (h : Own W b t cs) (o : Obj) : Own (W.alloc o) b t cs := (((Below.refl _ W).alloc (Nat.le_refl _) o).block _ h.lt).trans h
theorem Own.below {W W' : World} {b : Nat} {t : TypeId} {cs : Array Value} (h : Own W b t cs) (hb : Below W.heap.size W W') : Own W' b t cs := (hb.block _ h.lt).trans h
theorem Own.fr {c : Par} {W W' : World} {b : Nat} {t : TypeId} {cs : Array Value} (h : Own W b t cs) (hf : Fr c W W') (hx : c.X ≠ b) : Own W' b t cs := hf.block h (fun e => hx e.symm)
theorem Own.setX {W : World} {b : Nat} {t : TypeId} {cs : Array Value} (h : Own W b t cs) {x : Nat} (j : Nat) (v : Value) (hx : x ≠ b) : Own (W.setCell ⟨x, j, none⟩ v) b t cs := (Below.heap_setCell _ _ _ _ (fun e => hx e.symm)).trans h
theorem Own.drewN {W : World} {b : Nat} {t : TypeId} {cs : Array Value} (h : Own W b t cs) (n : Nat) : Own (W.drewN n) b t cs := h
theorem Own.row {W : World} {b : Nat} {t : TypeId} {cs : Array Value} (h : Own W b t cs) (ds : Array Value) : Own (W.setRow b ds) b t ds := setRow_heap _ _ _ _ _ _ h
theorem Own.other {W : World} {b g : Nat} {t : TypeId} {cs : Array Value} (h : Own W b t cs) (ds : Array Value) (hb : b ≠ g) : Own (W.setRow g ds) b t cs := (setRow_other ds hb).trans h
/-- Behind a call: all cells, but for the reader's. -/
theorem fr_cells {c : Par} {W w1 : World} (h : Fr c W w1) : (∀ b o, b < W.heap.size → ¬ b = c.X → w1.cell? ⟨b, o, none⟩ = W.cell? ⟨b, o, none⟩) ∧ (∀ b o, b < W.heap.size → ¬ b = c.X → w1.frozen? ⟨b, o, none⟩ = W.frozen? ⟨b, o, none⟩) ∧ W.heap.size ≤ w1.heap.size :=
  ⟨fun b o hb hx => h.cell hb hx, fun b o hb hx => h.frozen hb hx, Keep.size h⟩
/-- A new block is none of the reader's. -/
theorem own_ne {c : Par} {w : World} {k : Nat} (R : Rd c w k) : (¬ w.heap.size = c.X) ∧ ∀ n, ¬ w.heap.size + n = c.X := by
  have := R.lt
  exact ⟨by omega, fun n => by omega⟩
theorem stays_fr {c : Par} {R : Nat → Prop} {W W' : World} (h : Fr c W W') (hx : ∀ b, R b → b ≠ c.X) : Stays R W W' := fun b o v hb hv => by
  rw [h.cell (by have := cell_lt hv; simpa using this) (hx b hb)]; exact hv
theorem stays_alloc (R : Nat → Prop) (W : World) (o : Obj) : Stays R W (W.alloc o) := fun b o' v hb hv => by
  rw [((Below.refl W.heap.size W).alloc (Nat.le_refl _) o).cell (p := ⟨b, o', none⟩) (by have := cell_lt hv; simpa using this)]; exact hv
theorem stays_below {R : Nat → Prop} {W W' : World} (h : Below W.heap.size W W') : Stays R W W' := fun b o' v hb hv => by
  rw [h.cell (p := ⟨b, o', none⟩) (by have := cell_lt hv; simpa using this)]; exact hv
theorem stays_row {R : Nat → Prop} (W : World) {g : Nat} (cs : Array Value) (hx : ∀ b, R b → b ≠ g) : Stays R W (W.setRow g cs) := fun b o v hb hv => by
  have e := setRow_other (W := W) cs (hx b hb)
  rw [← hv]; simp only [World.cell?, e]
theorem stays_setX {R : Nat → Prop} (W : World) {x : Nat} (j : Nat) (u : Value) (hx : ∀ b, R b → b ≠ x) : Stays R W (W.setCell ⟨x, j, none⟩ u) := fun b o v hb hv => by
  have e := Below.heap_setCell W ⟨x, j, none⟩ u b (hx b hb)
  rw [← hv]; simp only [World.cell?, e]
/-- A struct of so many cells. -/
def RowT (T : TypeId) (n : Nat) : Prop := ∃ d, Tryd.prog.underlying T = some d ∧ (match d with | .struct _ | .array _ _ => true | _ => false) = true ∧ (Tryd.prog.info? T).map (·.size) = some n
theorem rowTok : RowT 69 4 := ⟨_, Tryd.underlying69, rfl, by kernel_rfl⟩
theorem rowEx : RowT 26 6 := ⟨_, Tryd.underlying26, rfl, by kernel_rfl⟩
theorem rowDc : RowT 58 3 := ⟨_, Tryd.underlying58, rfl, by kernel_rfl⟩
theorem rowSt : RowT 61 7 := ⟨_, Tryd.underlying61, rfl, by kernel_rfl⟩
theorem rowTh : RowT 56 4 := ⟨_, Tryd.underlying56, rfl, by kernel_rfl⟩
theorem rowPg : RowT 51 3 := ⟨_, Tryd.underlying51, rfl, by kernel_rfl⟩
theorem rowFl : RowT 29 2 := ⟨_, Tryd.underlying29, rfl, by kernel_rfl⟩
section
variable {ops : Array Oper} {rest : List Oper} {o : Oper} {a : Act} {w : World} {Q : Exit → Act → World → Prop} {T : TypeId} {n : Nat}
theorem ld (hT : RowT T n) (hgd : o.guard = none) {x : Operand} (ho : o.op = .load T x) {g : Nat} (hx : a.eval x = .pointer (some ⟨g, 0, none⟩)) {cs : Array Value} (hg : Own w g T cs) (hn : cs.size = n)
    (h : wpList Tryd.prog ops Q rest (a.put o.dst (.agg cs)) w) : wpList Tryd.prog ops Q (o :: rest) a w := by
  obtain ⟨d, h1, h2, h3⟩ := hT
  exact wpList_load_row hgd T x ho g hx T cs (0, 0) d hg h1 (by cases d <;> first | rfl | cases h2) (by rw [h3, hn]) h
theorem st (hT : RowT T n) (hgd : o.guard = none) {x y : Operand} (ho : o.op = .store T x y) {g : Nat} {cs old : Array Value} (hg : Own w g T old) (hx : a.eval x = .pointer (some ⟨g, 0, none⟩)) (hy : a.eval y = .agg cs) (hn : cs.size = n) (hm : old.size = n) (h1 : cs.all (·.oneCell') = true)
    (h : wpList Tryd.prog ops Q rest (a.put o.dst undef) (w.setRow g cs)) : wpList Tryd.prog ops Q (o :: rest) a w := by
  obtain ⟨d, _, _, h3⟩ := hT
  exact wpList_store_row hgd T x y ho g cs hx hy T old hg (by rw [h3, hn]) (by rw [hm, hn]) h1 h
theorem step_st {K : Act → World → Prop} {E : Prop} (hT : RowT T n) (hgd : o.guard = none) {x y : Operand} (ho : o.op = .store T x y) {g : Nat} {cs old : Array Value} (hx : a.eval x = .pointer (some ⟨g, 0, none⟩)) (hy : a.eval y = .agg cs) (hn : cs.size = n) (h1 : cs.all (·.oneCell') = true) (hg : Own w g T old) (hm : old.size = n)
    (h : K (a.put o.dst undef) (w.setRow g cs)) : if Region.wanted o (yielded ops a.tmps) = true then Oper.wp Tryd.prog o a w K Q else E := by
  obtain ⟨d, _, _, h3⟩ := hT
  rw [if_pos (by simp [Region.wanted, hgd])]
  exact wp_store_row T x y ho g cs hx hy T old hg (by rw [h3, hn]) (by rw [hm, hn]) h1 h
theorem p_ret (hT : RowT T n) {fn : Func} {p : Tmp} {R : Ending → World → Prop} (hr : fn.results = #[.cell p T]) {g : Nat} {cs : Array Value} (hg : Own w g T cs) (hp : a.tmps.getD p undef = .pointer (some ⟨g, 0, none⟩)) (hd : a.defers = []) (hn : cs.size = n)
    (h : R (.returned (.agg cs)) w) : bodyPost Tryd.prog fn R .ret a w := by
  obtain ⟨d, h1, h2, h3⟩ := hT
  exact bodyPost_ret (results_cell_row hr _ _ g T cs (0, 0) d hp hg h1 (by cases d <;> first | rfl | cases h2) (by rw [h3, hn])) hd h
end
/-- The zero values. -/
def zTok : Array Value := #[.int .u8 0, .string ⟨#[]⟩, .int .i64 0, .int .i64 0]
def zEx : Array Value := #[.int .u8 0, .int .u8 0, .int .i64 0, .string ⟨#[]⟩, .slice none 0 0, .int .i64 0]
def zSt : Array Value := #[.int .u8 0, .string ⟨#[]⟩, .string ⟨#[]⟩, .slice none 0 0, .slice none 0 0, .slice none 0 0, .int .i64 0]
def zDc : Array Value := #[.string ⟨#[]⟩, .int .i64 0, .int .i64 0]
def zTh : Array Value := #[.string ⟨#[]⟩, .slice none 0 0, .slice none 0 0, .int .i64 0]
def zPg : Array Value := #[.slice none 0 0, .slice none 0 0, .slice none 0 0]
set_option maxRecDepth 100000 in
set_option maxHeartbeats 1000000 in
theorem p_kind_ok {c : Par} {w : World} {k : Nat} (R : Rd c w k) (kd : Int) (h : (c.nx k).kind = kd) (hk : k < c.toks.length) :
    Calls Tryd.prog 60 #[c.ptr, .int .u8 kd] w fun e w' => e = .returned (tkV (c.nx k)) ∧ Fr c w w' ∧ Rd c w' (k + 1) := by
  have hk6 : k ≤ 65536 := by have := R.s.small.1; omega
  have HK := Lib.hid hk
  have hX : c.X ≠ w.heap.size := by have := R.lt; omega
  have HN : Hid (∀ W, Rd c W k → Calls Tryd.prog 40 #[c.ptr] W fun e w' => e = .returned (tkV (c.nx k)) ∧ Below W.heap.size W w') := fun W h => p_next h
  obtain ⟨t, ht⟩ : ∃ t, t = c.nx k := ⟨_, rfl⟩
  rw [← ht] at HN h ⊢
  obtain ⟨tk, tx, tw, tp⟩ := t
  simp only at h
  subst h
  have HR := Lib.hid R
  have HX := Lib.hid hX
  clear ht hk R hX
  unfold tkV Par.ptr at *
  go_enter Tryd.func60, Tryd.ntmps60
  go_wp2_with fail
  have A0 := (At.start HR.out).alloc (.cells #[.int .u8 0, .string ⟨#[]⟩, .int .i64 0, .int .i64 0] 69)
  have O0 := Own.new w 69 #[.int .u8 0, .string ⟨#[]⟩, .int .i64 0, .int .i64 0]
  go_at_call 40
  refine (HN.out _ (A0.rd HR.out)).mono ?_
  rintro e w1 ⟨rfl, hb⟩
  have A1 := Lib.hid (A0.below hb)
  have O1 := Lib.hid (O0.below hb)
  have hX1 := A1.out.lt
  obtain ⟨⟨_, _, c2, _⟩, f⟩ := A1.out.cells
  clear hb A0 O0
  go_upto_region 5 with (fail)
  have A2 := ((A1.out.step HK.out).alloc (.cells #[.int .u8 tk, .string tx, .int .i64 tw, .int .i64 tp] 69))
  have O2 := (O1.out.setX 2 (.int .i64 ((k : Int) + 1)) HX.out).alloc (.cells #[.int .u8 tk, .string tx, .int .i64 tw, .int .i64 tp] 69)
  have P2 := Own.new (w1.setCell ⟨c.X, 2, none⟩ (.int .i64 ((k : Int) + 1))) 69 #[.int .u8 tk, .string tx, .int .i64 tw, .int .i64 tp]
  rw [World.size_setCell] at P2
  obtain ⟨W, hW⟩ : ∃ W, W = (w1.setCell ⟨c.X, 2, none⟩ (.int .i64 ((k : Int) + 1))).alloc (.cells #[.int .u8 tk, .string tx, .int .i64 tw, .int .i64 tp] 69) := ⟨_, rfl⟩
  rw [← hW] at A2 O2 P2 ⊢
  have AA := Lib.hid A2
  clear c2 f hX1 hW A2
  go_wp2_with (first | (refine ld rowTok rfl rfl rfl P2 rfl ?_) | (refine st rowTok rfl rfl O2 rfl rfl (by rfl) (by rfl) (by kernel_rfl) ?_))
  have A3 := AA.out.setRow (Nat.le_refl _) HX.out #[.int .u8 tk, .string tx, .int .i64 tw, .int .i64 tp]
  exact p_ret rowTok rfl (O2.row #[.int .u8 tk, .string tx, .int .i64 tw, .int .i64 tp]) rfl rfl rfl ⟨rfl, A3.fr, A3.rd HR.out⟩
theorem p_kind_bad {c : Par} {w : World} {k : Nat} (R : Rd c w k) (kd : Int) (h : ¬ (c.nx k).kind = kd) :
    Calls Tryd.prog 60 #[c.ptr, .int .u8 kd] w fun e w' => e = .panicked (flt (hdP c.L (c.at k)) 2) ∧ Fr c w w' := by
  have HN : Hid (∀ W, Rd c W k → Calls Tryd.prog 40 #[c.ptr] W fun e w' => e = .returned (tkV (c.nx k)) ∧ Below W.heap.size W w') := fun W h => p_next h
  have hp := c.nx_pos k
  obtain ⟨t, ht⟩ : ∃ t, t = c.nx k := ⟨_, rfl⟩
  rw [← ht] at HN h hp
  rw [← hp]
  obtain ⟨tk, tx, tw, tp⟩ := t
  simp only at h
  have hne : (tk == kd) = false := by simpa using h
  have HR := Lib.hid R
  clear ht R h hp
  have HQ := Lib.hid (fun w => p_refuse ⟨tk, tx, tw, tp⟩ 2 w)
  unfold tkV Par.ptr at *
  go_enter Tryd.func60, Tryd.ntmps60
  go_wp2_with fail
  have A0 := (At.start HR.out).alloc (.cells zTok 69)
  go_at_call 40
  refine (HN.out _ (A0.rd HR.out)).mono ?_
  rintro e w1 ⟨rfl, hb⟩
  have A1 := Lib.hid ((A0.below hb).alloc (.cells #[.int .u8 tk, .string tx, .int .i64 tw, .int .i64 tp] 69))
  clear hb A0
  go_wp2_with (go_at_call 39; refine (HQ.out _).mono ?_; rintro e w3 ⟨rfl, hb⟩; have HC := Lib.hid hb; clear hb)
  exact ⟨rfl, rfl, A1.out.fr.trans (.of_below HC.out)⟩
end Go.Proofs.YtgaibdipecngkaaDoor

namespace Go.Proofs.YtgaibdipecngkaaDoor
open Go.RowKit
set_option linter.unusedVariables false
/-- The reader's block. -/
def Par.rrow (c : Par) (k : Nat) (p q : Int) : Obj := .cells #[.slice c.ta c.toks.length c.cap, .int .i64 (k : Int), .int .i64 (c.L : Int), .int .i64 p, .int .i64 q] 46 (0, 0)
/-- What stays as it is. -/
structure RkS (c : Par) (w : World) : Prop where
  tok : TokRow w (.slice c.ta c.toks.length c.cap) c.toks
  tne : ∀ g off, c.ta = some ⟨g, off, none⟩ → g ≠ c.X
  small : c.toks.length ≤ 65536 ∧ c.L ≤ 65536 ∧ ∀ x ∈ c.toks, 0 ≤ x.wd ∧ x.wd ≤ 9223372036854775807
/-- The reader stands at token k; its fault. -/
structure Rk (c : Par) (w : World) (k : Nat) (p q : Int) : Prop where
  s : RkS c w
  pos : w.heap[c.X]? = some (c.rrow k p q)
  le : k ≤ c.toks.length
/-- Behind some calls that began in w. -/
structure Ak (c : Par) (w W : World) (k : Nat) (p q : Int) : Prop where
  fr : Fr c w W
  pos : W.heap[c.X]? = some (c.rrow k p q)
  le : k ≤ c.toks.length
theorem RkS.keep {c : Par} {w w' : World} (h : RkS c w) (k : Fr c w w') : RkS c w' := by
  obtain ⟨tok, tne, small⟩ := h
  refine ⟨?_, tne, small⟩
  obtain ⟨oa, cap, hu, hc⟩ := tok
  refine ⟨oa, cap, hu, fun i x hx => ?_⟩
  obtain ⟨g, off, ho, a0, a1, a2, a3⟩ := hc i x hx
  have hg : g < w.heap.size := lt_of_at a0
  obtain ⟨rfl, _, _⟩ : c.ta = oa ∧ c.toks.length = c.toks.length ∧ c.cap = cap := by cases hu; exact ⟨rfl, rfl, rfl⟩
  have hx := tne g off ho
  exact ⟨g, off, ho, (k.cell hg hx).trans a0, (k.cell hg hx).trans a1, (k.cell hg hx).trans a2, (k.cell hg hx).trans a3⟩
section
variable {c : Par} {w W W' : World} {k k' : Nat} {p q p' q' : Int}
theorem Rk.lt (h : Rk c w k p q) : c.X < w.heap.size := (Array.getElem?_eq_some_iff.1 h.pos).1
theorem Rk.below (h : Rk c w k p q) (hb : Below w.heap.size w W) : Rk c W k p q := ⟨h.s.keep (.of_below hb), by rw [hb.block _ h.lt]; exact h.pos, h.le⟩
theorem Ak.start (R : Rk c w k p q) : Ak c w w k p q := ⟨Fr.refl c w, R.pos, R.le⟩
theorem Ak.rd (A : Ak c w W k' p' q') (R : Rk c w k p q) : Rk c W k' p' q' := ⟨R.s.keep A.fr, A.pos, A.le⟩
theorem Ak.lt (A : Ak c w W k p q) : c.X < W.heap.size := (Array.getElem?_eq_some_iff.1 A.pos).1
theorem Ak.alloc (A : Ak c w W k p q) (o : Obj) : Ak c w (W.alloc o) k p q :=
  ⟨A.fr.alloc o, ((Below.refl _ W).alloc (Nat.le_refl _) o).block _ A.lt |>.trans A.pos, A.le⟩
theorem Ak.below (A : Ak c w W k p q) (h : Below W.heap.size W W') : Ak c w W' k p q := ⟨A.fr.trans (.of_below h), (h.block _ A.lt).trans A.pos, A.le⟩
theorem Ak.call (A : Ak c w W k p q) (h : Fr c W W') (R : Rk c W' k' p' q') : Ak c w W' k' p' q' := ⟨A.fr.trans h, R.pos, R.le⟩
theorem Ak.setRow (A : Ak c w W k p q) {g : Nat} (hg : w.heap.size ≤ g) (hx : c.X ≠ g) (cs : Array Value) : Ak c w (W.setRow g cs) k p q :=
  ⟨A.fr.setRow hg cs, (setRow_other cs hx).trans A.pos, A.le⟩
theorem Ak.drewN (A : Ak c w W k p q) (n : Nat) : Ak c w (W.drewN n) k p q := ⟨Keep.drewN A.fr n, A.pos, A.le⟩
theorem Ak.drew (A : Ak c w W k p q) : Ak c w W.drew k p q := ⟨Keep.drewN A.fr 1, A.pos, A.le⟩
/-- The reader goes over a token. -/
theorem Ak.step (A : Ak c w W k p q) (hk : k < c.toks.length) : Ak c w (W.setCell ⟨c.X, 1, none⟩ (.int .i64 ((k : Int) + 1))) (k + 1) p q := by
  refine ⟨A.fr.setX _ 1 A.pos, ?_, hk⟩
  rw [heap_setCell_same W c.X 1 _ _ (.int .i64 ((k : Int) + 1)) A.pos]
  rfl
/-- The reader's first fault. -/
theorem Ak.flt (A : Ak c w W k p q) (p2 q2 : Int) : Ak c w ((W.setCell ⟨c.X, 3, none⟩ (.int .i64 p2)).setCell ⟨c.X, 4, none⟩ (.int .i64 q2)) k p2 q2 := by
  have h1 := heap_setCell_same W c.X 3 _ _ (.int .i64 p2) A.pos
  refine ⟨(A.fr.setX _ 3 A.pos).setX _ 4 h1, ?_, A.le⟩
  rw [heap_setCell_same _ c.X 4 _ _ (.int .i64 q2) h1]
  rfl
theorem Ak.cells (A : Ak c w W k p q) :
    (W.cell? ⟨c.X, 0, none⟩ = some (.slice c.ta c.toks.length c.cap) ∧ W.cell? ⟨c.X, 1, none⟩ = some (.int .i64 (k : Int)) ∧ W.cell? ⟨c.X, 2, none⟩ = some (.int .i64 (c.L : Int)) ∧
      W.cell? ⟨c.X, 3, none⟩ = some (.int .i64 p) ∧ W.cell? ⟨c.X, 4, none⟩ = some (.int .i64 q)) ∧ ∀ o, W.frozen? ⟨c.X, o, none⟩ = false := by
  have hp := A.pos
  refine ⟨⟨?_, ?_, ?_, ?_, ?_⟩, fun o => ?_⟩
  · rw [cell_of_row W c.X 0 _ _ _ hp]; rfl
  · rw [cell_of_row W c.X 1 _ _ _ hp]; rfl
  · rw [cell_of_row W c.X 2 _ _ _ hp]; rfl
  · rw [cell_of_row W c.X 3 _ _ _ hp]; rfl
  · rw [cell_of_row W c.X 4 _ _ _ hp]; rfl
  · simp only [World.frozen?, hp]; rfl
end
/-- The reader as a list of tokens. -/
def Par.sr (c : Par) (k : Nat) (p q : Int) : Sr := ⟨c.at k, p, q⟩
/-- The reader in memory is that one. -/
def Rs (c : Par) (w : World) (σ : Sr) : Prop := ∃ k, Rk c w k σ.pos σ.rule ∧ σ.ts = c.at k
theorem Rs.of {c : Par} {w : World} {k : Nat} {p q : Int} (h : Rk c w k p q) : Rs c w (c.sr k p q) := ⟨k, h, rfl⟩
theorem here_nx (c : Par) (k : Nat) : hereM c.L (c.at k) = c.nx k := by
  unfold hereM Par.nx
  cases c.at k <;> rfl
set_option maxRecDepth 100000 in
set_option maxHeartbeats 1000000 in
theorem r_ok {c : Par} {w : World} {k : Nat} {p q : Int} (R : Rk c w k p q) :
    Calls Tryd.prog 13 #[c.ptr] w fun e w' => e = .returned (.bool (q == 0)) ∧ Below w.heap.size w w' := by
  obtain ⟨⟨_, _, _, _, c4⟩, _⟩ := (Ak.start R).cells
  have hX := R.lt
  clear R
  unfold Par.ptr
  go_enter Tryd.func13, Tryd.ntmps13
  go_wp2
  go_ret
  exact ⟨rfl, Below.refl _ w⟩
set_option maxRecDepth 100000 in
set_option maxHeartbeats 1000000 in
theorem r_here {c : Par} {w : World} {k : Nat} {p q : Int} (R : Rk c w k p q) :
    Calls Tryd.prog 24 #[c.ptr] w fun e w' => e = .returned (tkV (c.nx k)) ∧ Below w.heap.size w w' := by
  obtain ⟨⟨c0, c1, c2, _⟩, f⟩ := (Ak.start R).cells
  have hX := R.lt
  have hle := R.le
  have hsm := R.s.small.1
  by_cases hk : k < c.toks.length
  · have hnx : c.nx k = (c.toks[k]).tk := by unfold Par.nx; rw [Par.at_lt hk]
    obtain ⟨oa, cap, hu, htok⟩ := R.s.tok
    obtain ⟨g, off, ho, a0, a1, a2, a3⟩ := htok k c.toks[k] (List.getElem?_eq_getElem hk)
    obtain ⟨hta, _⟩ : c.ta = oa ∧ True := by cases hu; exact ⟨rfl, trivial⟩
    obtain ⟨x, hx⟩ : ∃ x, x = c.toks[k] := ⟨_, rfl⟩
    rw [← hx] at a0 a1 a2 a3 hnx
    obtain ⟨rk, rx, rw0, rp, ra, rr⟩ := x
    simp only at a0 a1 a2 a3
    rw [hnx]
    subst hta
    rw [ho] at c0
    have hkk : (k : Int) < (c.toks.length : Int) := by omega
    obtain ⟨n, hn⟩ : ∃ n, n = c.toks.length := ⟨_, rfl⟩
    rw [← hn] at c0 hkk hk hle hsm
    have hg := lt_of_at a0
    clear hnx htok hu ho hx hn R
    unfold Par.ptr
    go_enter Tryd.func24, Tryd.ntmps24
    go_wp2
    go_quiet (fail)
    go_wp2
    go_region
    go_wp2
    refine bodyPost_ret (v := tkV ⟨rk, rx, rw0, rp⟩) (by simp [results, Tryd.results24, go_sem, tkV]) rfl ⟨rfl, ?_⟩
    repeat (first | exact Below.refl _ _ | refine below_drewN ?_ _ | refine Below.setCell ?_ (by simp) _ | refine Below.alloc ?_ (by simp) _)
  · have hnx : c.nx k = ⟨0, ⟨#[]⟩, 0, c.L⟩ := by unfold Par.nx; rw [Par.at_end (by omega)]
    rw [hnx]
    have hkk : decide ((k : Int) < (c.toks.length : Int)) = false := b_f (by omega)
    have hkn : decide (k < c.toks.length) = false := b_f (by omega)
    obtain ⟨n, hn⟩ : ∃ n, n = c.toks.length := ⟨_, rfl⟩
    rw [← hn] at c0 hkk hk hle hsm hkn
    obtain ⟨L, hL⟩ : ∃ L, L = c.L := ⟨_, rfl⟩
    rw [← hL] at c2 ⊢
    clear hnx hn hL R
    unfold Par.ptr
    go_enter Tryd.func24, Tryd.ntmps24
    go_wp2
    go_quiet (fail)
    go_wp2
    refine bodyPost_ret (v := tkV ⟨0, ⟨#[]⟩, 0, L⟩) (by simp [results, Tryd.results24, go_sem, tkV]) rfl ⟨rfl, ?_⟩
    repeat (first | exact Below.refl _ _ | refine below_drewN ?_ _ | refine Below.setCell ?_ (by simp) _ | refine Below.alloc ?_ (by simp) _)
end Go.Proofs.YtgaibdipecngkaaDoor

namespace Go.Proofs.YtgaibdipecngkaaDoor
open Go.RowKit
set_option linter.unusedVariables false
set_option maxRecDepth 100000 in
set_option maxHeartbeats 1000000 in
theorem r_fail_no {c : Par} {w : World} {k : Nat} {p q : Int} (R : Rk c w k p q) (hq : ¬ q = 0) (r : Int) :
    Calls Tryd.prog 14 #[c.ptr, .int .i64 r] w fun e w' => e = .returned (.tuple #[]) ∧ Below w.heap.size w w' := by
  have HO := r_ok R
  rw [show (q == 0) = false by simpa using hq] at HO
  have HO := Lib.hid HO
  clear R hq
  unfold Par.ptr at HO ⊢
  go_enter Tryd.func14, Tryd.ntmps14
  go_wp2_with (go_at_call 13; refine (HO.out).mono ?_; rintro e w1 ⟨rfl, hb⟩; have HB := Lib.hid hb; clear hb)
  go_end0
  exact ⟨rfl, HB.out⟩
set_option maxRecDepth 100000 in
set_option maxHeartbeats 1000000 in
theorem r_fail_yes {c : Par} {w : World} {k : Nat} {p : Int} (R : Rk c w k p 0) (r : Int) :
    Calls Tryd.prog 14 #[c.ptr, .int .i64 r] w fun e w' => e = .returned (.tuple #[]) ∧ Fr c w w' ∧ Rk c w' k (c.nx k).pos r := by
  have HO := Lib.hid (r_ok R)
  have HH : Hid (∀ W, Rk c W k p 0 → Calls Tryd.prog 24 #[c.ptr] W fun e w' => e = .returned (tkV (c.nx k)) ∧ Below W.heap.size W w') := fun W h => r_here h
  obtain ⟨t, ht⟩ : ∃ t, t = c.nx k := ⟨_, rfl⟩
  rw [← ht] at HH ⊢
  obtain ⟨tk, tx, tw, tp⟩ := t
  have HR := Lib.hid R
  clear ht R
  unfold tkV Par.ptr at *
  have F3 : ∀ (a b c d : Value) (w : World), (Instr.field 69 (.agg #[a, b, c, d]) 3).run Tryd.prog w = .ok d w := fun a b c d w => by kernel_rfl
  go_enter Tryd.func14, Tryd.ntmps14
  go_wp2_with (go_at_call 13; refine (HO.out).mono ?_; rintro e w1 ⟨rfl, hb⟩; have A1 := Lib.hid ((Ak.start HR.out).below hb); clear hb)
  go_at_call 24
  refine (HH.out _ (A1.out.rd HR.out)).mono ?_
  rintro e w2 ⟨rfl, hb⟩
  have A2 := Lib.hid (A1.out.below hb)
  obtain ⟨⟨_, _, _, c3, c4⟩, f⟩ := A2.out.cells
  have hX := A2.out.lt
  clear hb A1
  go_wp2_with fail
  go_end0
  have A3 := A2.out.flt tp r
  exact ⟨rfl, A3.fr, A3.rd HR.out⟩
/-- A fault, unless there is one. -/
theorem r_fail {c : Par} {w : World} {σ : Sr} (R : Rs c w σ) (r : Int) :
    Calls Tryd.prog 14 #[c.ptr, .int .i64 r] w fun e w' => e = .returned (.tuple #[]) ∧ Fr c w w' ∧ Rs c w' (σ.fail c.L r) := by
  obtain ⟨k, R, hk⟩ := R
  obtain ⟨ts, p, q⟩ := σ
  simp only at R hk
  subst hk
  by_cases hq : q = 0
  · subst hq
    refine (r_fail_yes R r).mono fun e w' ⟨he, hf, hr⟩ => ⟨he, hf, ?_⟩
    have e : (⟨c.at k, p, 0⟩ : Sr).fail c.L r = ⟨c.at k, (c.nx k).pos, r⟩ := by
      unfold Sr.fail
      rw [if_pos (by rfl), here_nx]
    rw [e]
    exact ⟨k, hr, rfl⟩
  · refine (r_fail_no R hq r).mono fun e w' ⟨he, hb⟩ => ⟨he, .of_below hb, ?_⟩
    rw [bad_fail (show (⟨c.at k, p, q⟩ : Sr).ok = false by unfold Sr.ok; simpa using hq)]
    exact ⟨k, R.below hb, rfl⟩
set_option maxRecDepth 100000 in
set_option maxHeartbeats 1000000 in
theorem r_is {c : Par} {w : World} {k : Nat} {p q : Int} (R : Rk c w k p q) (s : ByteArray) :
    Calls Tryd.prog 45 #[c.ptr, .string s] w fun e w' => e = .returned (.bool (isK c.L s.data.toList (c.at k))) ∧ Below w.heap.size w w' := by
  unfold isK
  rw [here_nx]
  have HH := Lib.hid (r_here R)
  obtain ⟨t, ht⟩ : ∃ t, t = c.nx k := ⟨_, rfl⟩
  rw [← ht] at HH ⊢
  obtain ⟨tk, tx, tw, tp⟩ := t
  clear ht R
  have e : ((⟨tk, tx, tw, tp⟩ : Tk).tx == s.data.toList) = (tx.toList == s.toList) := by rw [Lib.toList_data, Lib.toList_data]; rfl
  rw [e]
  show Calls _ _ _ _ (fun e w' => e = .returned (.bool ((tk == 2 || tk == 4) && tx.toList == s.toList)) ∧ _)
  clear e
  unfold tkV Par.ptr at *
  by_cases h2 : tk = 2
  · subst h2
    go_enter Tryd.func45, Tryd.ntmps45
    go_wp2_with (go_at_call 24; refine (HH.out).mono ?_; rintro e w1 ⟨rfl, hb⟩; have HB := Lib.hid hb; clear hb)
    go_ret
    exact ⟨rfl, HB.out.alloc HB.out.size _⟩
  · by_cases h4 : tk = 4
    · subst h4
      clear h2
      go_enter Tryd.func45, Tryd.ntmps45
      go_wp2_with (go_at_call 24; refine (HH.out).mono ?_; rintro e w1 ⟨rfl, hb⟩; have HB := Lib.hid hb; clear hb)
      go_ret
      exact ⟨rfl, HB.out.alloc HB.out.size _⟩
    · have q2 : (tk == 2) = false := by simpa using h2
      have q4 : (tk == 4) = false := by simpa using h4
      clear h2 h4
      go_enter Tryd.func45, Tryd.ntmps45
      go_wp2_with (go_at_call 24; refine (HH.out).mono ?_; rintro e w1 ⟨rfl, hb⟩; have HB := Lib.hid hb; clear hb)
      go_ret
      exact ⟨by rw [q2, q4]; rfl, HB.out.alloc HB.out.size _⟩
theorem sr_ok {c : Par} {k : Nat} {p q : Int} : (⟨c.at k, p, q⟩ : Sr).ok = (q == 0) := rfl
set_option maxRecDepth 100000 in
set_option maxHeartbeats 1000000 in
/-- Over a word or a sign, if it comes next. -/
theorem r_take {c : Par} {w : World} {σ : Sr} (R : Rs c w σ) (s : ByteArray) :
    Calls Tryd.prog 46 #[c.ptr, .string s] w fun e w' => e = .returned (.bool (σ.has c.L s.data.toList)) ∧ Fr c w w' ∧ Rs c w' (σ.take c.L s.data.toList) := by
  obtain ⟨k, R, hk⟩ := R
  obtain ⟨ts, p, q⟩ := σ
  simp only at R hk
  subst hk
  have HO := r_ok R
  have HI : Hid (∀ W, Rk c W k p q → Calls Tryd.prog 45 #[c.ptr, .string s] W fun e w' => e = .returned (.bool (isK c.L s.data.toList (c.at k))) ∧ Below W.heap.size W w') := fun W h => r_is h s
  have hk6 : k ≤ 65536 := by have := R.s.small.1; have := R.le; omega
  by_cases hq : q = 0
  · subst hq
    rw [show ((0 : Int) == 0) = true by rfl] at HO
    by_cases hi : isK c.L s.data.toList (c.at k) = true
    · have hh : (⟨c.at k, p, 0⟩ : Sr).has c.L s.data.toList = true := by unfold Sr.has; rw [sr_ok, hi]; rfl
      unfold Sr.take
      rw [hh, if_pos rfl]
      have hlt := Lib.hid (show k < c.toks.length by
        have := isK_ne hi
        rw [Par.at_tail, Par.at_len, Par.at_len] at this
        omega)
      rw [hi] at HI
      have HO := Lib.hid HO
      have HR := Lib.hid R
      clear R hi hh
      unfold Par.ptr at *
      go_enter Tryd.func46, Tryd.ntmps46
      go_wp2_with (first
        | (go_at_call 13; refine (HO.out).mono ?_; rintro e w1 ⟨rfl, hb⟩; have A1 := Lib.hid ((Ak.start HR.out).below hb); clear hb)
        | (go_at_call 45; refine (HI.out _ (A1.out.rd HR.out)).mono ?_; rintro e w2 ⟨rfl, hb⟩; have A2 := Lib.hid (A1.out.below hb); obtain ⟨⟨_, x1, _⟩, f⟩ := A2.out.cells; have hX := A2.out.lt; clear hb))
      go_ret
      have A3 := A2.out.step hlt.out
      exact ⟨rfl, A3.fr, k + 1, A3.rd HR.out, by show (c.at k).tail = _; rw [Par.at_tail]⟩
    · have hi' : isK c.L s.data.toList (c.at k) = false := by simpa using hi
      have hh : (⟨c.at k, p, 0⟩ : Sr).has c.L s.data.toList = false := by unfold Sr.has; rw [sr_ok, hi']; rfl
      unfold Sr.take
      rw [hh, if_neg (by decide)]
      rw [hi'] at HI
      have HO := Lib.hid HO
      have HR := Lib.hid R
      clear R hi hi' hh
      unfold Par.ptr at *
      go_enter Tryd.func46, Tryd.ntmps46
      go_wp2_with (first
        | (go_at_call 13; refine (HO.out).mono ?_; rintro e w1 ⟨rfl, hb⟩; have A1 := Lib.hid ((Ak.start HR.out).below hb); clear hb)
        | (go_at_call 45; refine (HI.out _ (A1.out.rd HR.out)).mono ?_; rintro e w2 ⟨rfl, hb⟩; have A2 := Lib.hid (A1.out.below hb); clear hb))
      go_ret
      exact ⟨rfl, A2.out.fr, k, A2.out.rd HR.out, rfl⟩
  · have hh : (⟨c.at k, p, q⟩ : Sr).ok = false := by rw [sr_ok]; simpa using hq
    rw [bad_has hh, bad_take hh]
    rw [show (q == 0) = false by simpa using hq] at HO
    have HO := Lib.hid HO
    have HR := Lib.hid R
    clear R hq hh
    unfold Par.ptr at *
    go_enter Tryd.func46, Tryd.ntmps46
    go_wp2_with (go_at_call 13; refine (HO.out).mono ?_; rintro e w1 ⟨rfl, hb⟩; have A1 := Lib.hid ((Ak.start HR.out).below hb); clear hb)
    go_ret
    exact ⟨rfl, A1.out.fr, k, A1.out.rd HR.out, rfl⟩
set_option maxRecDepth 100000 in
set_option maxHeartbeats 1000000 in
/-- Over a word or a sign, which must come next. -/
theorem r_want {c : Par} {w : World} {σ : Sr} (R : Rs c w σ) (s : ByteArray) :
    Calls Tryd.prog 47 #[c.ptr, .string s] w fun e w' => e = .returned (.tuple #[]) ∧ Fr c w w' ∧ Rs c w' (σ.want c.L s.data.toList) := by
  have HT := r_take R s
  unfold Sr.take at HT
  unfold Sr.want
  by_cases h : σ.has c.L s.data.toList = true
  · rw [if_pos h]
    rw [if_pos h, h] at HT
    have HT := Lib.hid HT
    clear R h
    unfold Par.ptr at *
    go_enter Tryd.func47, Tryd.ntmps47
    go_wp2_with (go_at_call 46; refine (HT.out).mono ?_; rintro e w1 ⟨rfl, hf, hr⟩; have HF := Lib.hid hf; have HR := Lib.hid hr; clear hf hr)
    go_end0
    exact ⟨rfl, HF.out, HR.out⟩
  · rw [if_neg h]
    rw [if_neg h, show σ.has c.L s.data.toList = false by simpa using h] at HT
    have HT := Lib.hid HT
    have HL : Hid (∀ W, Rs c W σ → Calls Tryd.prog 14 #[c.ptr, .int .i64 2] W fun e w' => e = .returned (.tuple #[]) ∧ Fr c W w' ∧ Rs c w' (σ.fail c.L 2)) := fun W h => r_fail h 2
    clear R h
    unfold Par.ptr at *
    go_enter Tryd.func47, Tryd.ntmps47
    go_wp2_with (first
      | (go_at_call 46; refine (HT.out).mono ?_; rintro e w1 ⟨rfl, hf, hr⟩; have HF := Lib.hid hf; have HR := Lib.hid hr; clear hf hr)
      | (go_at_call 14; refine (HL.out _ HR.out).mono ?_; rintro e w2 ⟨rfl, hf, hr⟩; have HF2 := Lib.hid hf; have HR2 := Lib.hid hr; clear hf hr))
    go_end0
    exact ⟨rfl, HF.out.trans HF2.out, HR2.out⟩
end Go.Proofs.YtgaibdipecngkaaDoor

namespace Go.Proofs.YtgaibdipecngkaaDoor
open Go.RowKit
set_option linter.unusedVariables false

theorem p_deeper_ok (t : Tk) (d : Int) (h0 : 0 ≤ d) (h1 : d < 64) (w : World) : Calls Tryd.prog 64 #[tkV t, .int .i64 d] w fun e w' => e = .returned (.int .i64 (d + 1)) ∧ Below w.heap.size w w' := by
  obtain ⟨tk, tx, tw, tp⟩ := t
  have hne : (d == 64) = false := by simp; omega
  unfold tkV
  go_enter Tryd.func64, Tryd.ntmps64
  go_wp2_with fail
  go_ret
  exact ⟨rfl, (Below.refl _ w).alloc (Nat.le_refl _) _⟩
theorem p_deeper_bad (t : Tk) (w : World) : Calls Tryd.prog 64 #[tkV t, .int .i64 64] w fun e w' => e = .panicked (flt t.pos 3) ∧ Below w.heap.size w w' := by
  obtain ⟨tk, tx, tw, tp⟩ := t
  have HQ := Lib.hid (fun w => p_refuse ⟨tk, tx, tw, tp⟩ 3 w)
  unfold tkV at *
  go_enter Tryd.func64, Tryd.ntmps64
  go_wp2_with (go_at_call 39; refine (HQ.out _).mono ?_; rintro e w3 ⟨rfl, hb⟩; have HC := Lib.hid hb; clear hb)
  exact ⟨rfl, rfl, ((Below.refl w.heap.size w).alloc (Nat.le_refl _) _).trans (HC.out.mono (by simp))⟩
/-- An expression, as a value: its parts lie in blocks from n on. -/
def exR (n : Nat) (e : Ex) (v : Value) (w' : World) : Prop := ∃ a cap, v = .agg #[.int .u8 e.kind, .int .u8 e.op, .int .i64 e.wd, .string e.name, .slice a e.kids.length cap, .int .i64 e.pos] ∧ exsAt (fun b => n ≤ b) w' e.kids a
theorem p_number (t : Tk) (d : Int) (w : World) : Calls Tryd.prog 65 #[tkV t, .int .i64 d] w fun e w' => e = .returned (.agg #[.int .u8 1, .int .u8 0, .int .i64 t.wd, .string ⟨#[]⟩, .slice none 0 0, .int .i64 t.pos]) ∧ Below w.heap.size w w' := by
  obtain ⟨tk, tx, tw, tp⟩ := t
  have O0 := Own.new (w.alloc (.cells #[.int .u8 tk, .string tx, .int .i64 tw, .int .i64 tp] 69)) 26 zEx
  rw [World.size_alloc] at O0
  unfold tkV zEx at *
  go_enter Tryd.func65, Tryd.ntmps65
  go_wp2_with (refine st rowEx rfl rfl O0 rfl rfl (by rfl) (by rfl) (by kernel_rfl) ?_)
  exact p_ret rowEx rfl (O0.row #[.int .u8 1, .int .u8 0, .int .i64 tw, .string ⟨#[]⟩, .slice none 0 0, .int .i64 tp]) rfl rfl rfl ⟨rfl, below_setRow ((((Below.refl _ w).alloc (Nat.le_refl _) _)).alloc (by simp) _) (by simp) _⟩
theorem p_variable (t : Tk) (d : Int) (w : World) : Calls Tryd.prog 66 #[tkV t, .int .i64 d] w fun e w' => e = .returned (.agg #[.int .u8 2, .int .u8 0, .int .i64 0, .string t.text, .slice none 0 0, .int .i64 t.pos]) ∧ Below w.heap.size w w' := by
  obtain ⟨tk, tx, tw, tp⟩ := t
  have O0 := Own.new (w.alloc (.cells #[.int .u8 tk, .string tx, .int .i64 tw, .int .i64 tp] 69)) 26 zEx
  rw [World.size_alloc] at O0
  unfold tkV zEx at *
  go_enter Tryd.func66, Tryd.ntmps66
  go_wp2_with (refine st rowEx rfl rfl O0 rfl rfl (by rfl) (by rfl) (by kernel_rfl) ?_)
  exact p_ret rowEx rfl (O0.row #[.int .u8 2, .int .u8 0, .int .i64 0, .string tx, .slice none 0 0, .int .i64 tp]) rfl rfl rfl ⟨rfl, below_setRow ((((Below.refl _ w).alloc (Nat.le_refl _) _)).alloc (by simp) _) (by simp) _⟩
end Go.Proofs.YtgaibdipecngkaaDoor

namespace Go.Proofs.YtgaibdipecngkaaDoor
open Go.RowKit
set_option linter.unusedVariables false
/-- Behind some calls that began in w. -/
def As (c : Par) (w W : World) (σ : Sr) : Prop := ∃ k, Ak c w W k σ.pos σ.rule ∧ σ.ts = c.at k
section
variable {c : Par} {w W W' : World} {σ σ' : Sr}
theorem Rs.s (R : Rs c w σ) : RkS c w := by obtain ⟨k, R, _⟩ := R; exact R.s
theorem Rs.lt (R : Rs c w σ) : c.X < w.heap.size := by obtain ⟨k, R, _⟩ := R; exact R.lt
theorem Rs.as (R : Rs c w σ) : As c w w σ := by obtain ⟨k, R, h⟩ := R; exact ⟨k, Ak.start R, h⟩
theorem As.fr (A : As c w W σ) : Fr c w W := by obtain ⟨k, A, _⟩ := A; exact A.fr
theorem As.rs (A : As c w W σ) (S : RkS c w) : Rs c W σ := by obtain ⟨k, A, h⟩ := A; exact ⟨k, ⟨S.keep A.fr, A.pos, A.le⟩, h⟩
theorem As.lt (A : As c w W σ) : c.X < W.heap.size := by obtain ⟨k, A, _⟩ := A; exact A.lt
theorem As.alloc (A : As c w W σ) (o : Obj) : As c w (W.alloc o) σ := by obtain ⟨k, A, h⟩ := A; exact ⟨k, A.alloc o, h⟩
theorem As.below (A : As c w W σ) (hb : Below W.heap.size W W') : As c w W' σ := by obtain ⟨k, A, h⟩ := A; exact ⟨k, A.below hb, h⟩
theorem As.call (A : As c w W σ) (hf : Fr c W W') (R : Rs c W' σ') : As c w W' σ' := by
  obtain ⟨k, A, h⟩ := A
  obtain ⟨k', R, h'⟩ := R
  exact ⟨k', ⟨A.fr.trans hf, R.pos, R.le⟩, h'⟩
theorem As.setRow (A : As c w W σ) {g : Nat} (hg : w.heap.size ≤ g) (hx : c.X ≠ g) (cs : Array Value) : As c w (W.setRow g cs) σ := by
  obtain ⟨k, A, h⟩ := A; exact ⟨k, A.setRow hg hx cs, h⟩
theorem As.drew (A : As c w W σ) : As c w W.drew σ := by obtain ⟨k, A, h⟩ := A; exact ⟨k, A.drew, h⟩
theorem As.drewN (A : As c w W σ) (n : Nat) : As c w (W.drewN n) σ := by obtain ⟨k, A, h⟩ := A; exact ⟨k, A.drewN n, h⟩
/-- The reader's own cells, to go over a token. -/
theorem As.open (A : As c w W σ) (S : RkS c w) (hn : σ.step.ts.length + 1 = σ.ts.length) : ∃ k : Nat, W.cell? ⟨c.X, 1, none⟩ = some (.int .i64 (k : Int)) ∧ W.frozen? ⟨c.X, 1, none⟩ = false ∧ k ≤ 65536 ∧ c.X < W.heap.size ∧ As c w (W.setCell ⟨c.X, 1, none⟩ (.int .i64 ((k : Int) + 1))) σ.step := by
  obtain ⟨k, A, h⟩ := A
  obtain ⟨⟨_, x1, _⟩, f⟩ := A.cells
  have hlt : k < c.toks.length := by
    have e : σ.step.ts = c.at (k + 1) := by show σ.ts.tail = _; rw [h, Par.at_tail]
    rw [e, h, Par.at_len, Par.at_len] at hn
    omega
  exact ⟨k, x1, f 1, by have := S.small.1; omega, A.lt, k + 1, A.step hlt, by show σ.ts.tail = _; rw [h, Par.at_tail]⟩
theorem r_hereS (R : Rs c w σ) : Calls Tryd.prog 24 #[c.ptr] w fun e w' => e = .returned (tkV (hereM c.L σ.ts)) ∧ Below w.heap.size w w' := by
  obtain ⟨k, R, h⟩ := R
  rw [h, here_nx]; exact r_here R
theorem r_okS (R : Rs c w σ) : Calls Tryd.prog 13 #[c.ptr] w fun e w' => e = .returned (.bool σ.ok) ∧ Below w.heap.size w w' := by
  obtain ⟨k, R, h⟩ := R
  exact r_ok R
theorem r_isS (R : Rs c w σ) (s : ByteArray) : Calls Tryd.prog 45 #[c.ptr, .string s] w fun e w' => e = .returned (.bool (isK c.L s.data.toList σ.ts)) ∧ Below w.heap.size w w' := by
  obtain ⟨k, R, h⟩ := R
  rw [h]; exact r_is R s
end
/-- How a call ends that reads. -/
def RsPost {α : Type} (c : Par) (w : World) (y : α × Sr) (V : α → Value → World → Prop) (e : Ending) (w' : World) : Prop :=
  Fr c w w' ∧ ∃ v, e = .returned v ∧ V y.1 v w' ∧ Rs c w' y.2
def UnC (n : Nat) : Prop := ∀ (c : Par) (w : World) (σ : Sr) (d : Int), Rs c w σ → 0 ≤ d → d ≤ 64 → (σ.ok = true → 3 * σ.ts.length + 1 ≤ n) →
  Calls Tryd.prog 23 #[c.ptr, .int .i64 d] w (RsPost c w (unM c.L n d σ) (exR w.heap.size))
def ExC (n : Nat) : Prop := ∀ (c : Par) (w : World) (σ : Sr) (v d : Int), Rs c w σ → 1 ≤ v → v ≤ 9 → 0 ≤ d → d ≤ 64 → (σ.ok = true → 3 * σ.ts.length + 2 ≤ n) →
  Calls Tryd.prog 12 #[c.ptr, .int .i64 v, .int .i64 d] w (RsPost c w (exM c.L n v d σ) (exR w.heap.size))
end Go.Proofs.YtgaibdipecngkaaDoor

namespace Go.Proofs.YtgaibdipecngkaaDoor
open Go.RowKit
set_option linter.unusedVariables false

set_option maxRecDepth 100000 in
set_option maxHeartbeats 4000000 in
theorem un_bad_T0 {c : Par} {w : World} {σ : Sr} {d : Int} (R : Rs c w σ) (hsub : isK c.L [45] σ.ts = true) {inot : Bool} (hnot : isK c.L [33] σ.ts = inot) {ipar : Bool} (hpar : isK c.L [40] σ.ts = ipar) (hok : σ.ok = false) (hd : d < 64) :
    Calls Tryd.prog 23 #[c.ptr, .int .i64 d] w (RsPost c w ((zE, σ)) (exR w.heap.size)) := by
  obtain ⟨t, ht⟩ : ∃ t, t = hereM c.L σ.ts := ⟨_, rfl⟩
  have HH : Hid (∀ W, Rs c W σ → Calls Tryd.prog 24 #[c.ptr] W fun e w' => e = .returned (tkV t) ∧ Below W.heap.size W w') := fun W R => by rw [ht]; exact r_hereS R
  have HIsub : Hid (∀ W, Rs c W σ → Calls Tryd.prog 45 #[c.ptr, .string ⟨#[45]⟩] W fun e w' => e = .returned (.bool true) ∧ Below W.heap.size W w') := fun W R => by rw [← hsub]; exact r_isS R ⟨#[45]⟩
  have HInot : Hid (∀ W, Rs c W σ → Calls Tryd.prog 45 #[c.ptr, .string ⟨#[33]⟩] W fun e w' => e = .returned (.bool inot) ∧ Below W.heap.size W w') := fun W R => by rw [← hnot]; exact r_isS R ⟨#[33]⟩
  have HIpar : Hid (∀ W, Rs c W σ → Calls Tryd.prog 45 #[c.ptr, .string ⟨#[40]⟩] W fun e w' => e = .returned (.bool ipar) ∧ Below W.heap.size W w') := fun W R => by rw [← hpar]; exact r_isS R ⟨#[40]⟩
  have HT := Lib.hid ht
  have HS := Lib.hid R.s
  have A0 := Lib.hid (R.as.alloc (.cells zEx 26))
  have O0 := Lib.hid (Own.new w 26 zEx)
  have hX := Lib.hid R.lt
  have HO : Hid (∀ W, Rs c W σ → Calls Tryd.prog 13 #[c.ptr] W fun e w' => e = .returned (.bool false) ∧ Below W.heap.size W w') := fun W R => by rw [← hok]; exact r_okS R
  clear hok
  clear hsub hnot hpar
  clear ht R
  obtain ⟨tk, tx, tw, tp⟩ := t
  unfold tkV Par.ptr zEx at *
  go_enter Tryd.func23, Tryd.ntmps23
  go_wp2_with fail
  go_at_call 24
  refine (HH.out _ (A0.out.rs HS.out)).mono ?_
  rintro e w1 ⟨rfl, hb⟩
  have A := Lib.hid ((A0.out.below hb).alloc (.cells #[.int .u8 tk, .string tx, .int .i64 tw, .int .i64 tp] 69))
  have hz := (O0.out.below hb).lt
  have O0 := Lib.hid ((O0.out.below hb).alloc (.cells #[.int .u8 tk, .string tx, .int .i64 tw, .int .i64 tp] 69))
  have T1 := Lib.hid (Own.new w1 69 #[.int .u8 tk, .string tx, .int .i64 tw, .int .i64 tp])
  have HX : Hid (c.X ≠ w.heap.size ∧ c.X ≠ w1.heap.size) := by have := hX.out; simp only [Hid]; omega
  have HZ := Lib.hid hz
  clear hb hz A0
  go_upto_region 2 with (fail)
  obtain ⟨W1, hW1⟩ : ∃ W, W = w1.alloc (.cells #[.int .u8 tk, .string tx, .int .i64 tw, .int .i64 tp] 69) := ⟨_, rfl⟩
  rw [← hW1] at A O0 T1 ⊢
  clear hW1
  go_wp2_with fail
  go_at_call 45
  refine (HIsub.out _ (A.out.rs HS.out)).mono ?_
  rintro e w2 ⟨rfl, hb⟩
  have A := Lib.hid (A.out.below hb)
  have O0 := Lib.hid (O0.out.below hb)
  have T1 := Lib.hid (T1.out.below hb)
  clear hb
  go_wp2_with fail
  go_at_call 13
  refine (HO.out _ (A.out.rs HS.out)).mono ?_
  rintro e w3 ⟨rfl, hb⟩
  have A := Lib.hid (A.out.below hb)
  have O0 := Lib.hid (O0.out.below hb)
  have T1 := Lib.hid (T1.out.below hb)
  clear hb
  have o0 := O0.out
  go_wp2_with (first | (refine st rowEx rfl rfl o0 rfl rfl (by rfl) (by rfl) (by kernel_rfl) ?_))
  have A := A.out.setRow (Nat.le_refl _) HX.out.1 #[.int .u8 0, .int .u8 0, .int .i64 0, .string ⟨#[]⟩, .slice none 0 0, .int .i64 0]
  refine p_ret rowEx rfl (o0.row #[.int .u8 0, .int .u8 0, .int .i64 0, .string ⟨#[]⟩, .slice none 0 0, .int .i64 0]) rfl rfl rfl ?_
  exact ⟨A.fr, _, rfl, ⟨none, 0, rfl, .inl rfl⟩, A.rs HS.out⟩
set_option maxRecDepth 100000 in
set_option maxHeartbeats 4000000 in
theorem un_bad_T1 {c : Par} {w : World} {σ : Sr} {d : Int} (R : Rs c w σ) (hsub : isK c.L [45] σ.ts = true) {inot : Bool} (hnot : isK c.L [33] σ.ts = inot) {ipar : Bool} (hpar : isK c.L [40] σ.ts = ipar) (hok : σ.ok = false) (hd : 64 ≤ d) :
    Calls Tryd.prog 23 #[c.ptr, .int .i64 d] w (RsPost c w ((zE, σ)) (exR w.heap.size)) := by
  obtain ⟨t, ht⟩ : ∃ t, t = hereM c.L σ.ts := ⟨_, rfl⟩
  have HH : Hid (∀ W, Rs c W σ → Calls Tryd.prog 24 #[c.ptr] W fun e w' => e = .returned (tkV t) ∧ Below W.heap.size W w') := fun W R => by rw [ht]; exact r_hereS R
  have HIsub : Hid (∀ W, Rs c W σ → Calls Tryd.prog 45 #[c.ptr, .string ⟨#[45]⟩] W fun e w' => e = .returned (.bool true) ∧ Below W.heap.size W w') := fun W R => by rw [← hsub]; exact r_isS R ⟨#[45]⟩
  have HInot : Hid (∀ W, Rs c W σ → Calls Tryd.prog 45 #[c.ptr, .string ⟨#[33]⟩] W fun e w' => e = .returned (.bool inot) ∧ Below W.heap.size W w') := fun W R => by rw [← hnot]; exact r_isS R ⟨#[33]⟩
  have HIpar : Hid (∀ W, Rs c W σ → Calls Tryd.prog 45 #[c.ptr, .string ⟨#[40]⟩] W fun e w' => e = .returned (.bool ipar) ∧ Below W.heap.size W w') := fun W R => by rw [← hpar]; exact r_isS R ⟨#[40]⟩
  have HT := Lib.hid ht
  have HS := Lib.hid R.s
  have A0 := Lib.hid (R.as.alloc (.cells zEx 26))
  have O0 := Lib.hid (Own.new w 26 zEx)
  have hX := Lib.hid R.lt
  have HO : Hid (∀ W, Rs c W σ → Calls Tryd.prog 13 #[c.ptr] W fun e w' => e = .returned (.bool false) ∧ Below W.heap.size W w') := fun W R => by rw [← hok]; exact r_okS R
  have HF : Hid (∀ W, Rs c W σ → Calls Tryd.prog 14 #[c.ptr, .int .i64 3] W fun e w' => e = .returned (.tuple #[]) ∧ Fr c W w' ∧ Rs c w' σ) := fun W R => by have := r_fail R 3; rw [bad_fail hok] at this; exact this
  clear hok
  clear hsub hnot hpar
  clear ht R
  obtain ⟨tk, tx, tw, tp⟩ := t
  unfold tkV Par.ptr zEx at *
  go_enter Tryd.func23, Tryd.ntmps23
  go_wp2_with fail
  go_at_call 24
  refine (HH.out _ (A0.out.rs HS.out)).mono ?_
  rintro e w1 ⟨rfl, hb⟩
  have A := Lib.hid ((A0.out.below hb).alloc (.cells #[.int .u8 tk, .string tx, .int .i64 tw, .int .i64 tp] 69))
  have hz := (O0.out.below hb).lt
  have O0 := Lib.hid ((O0.out.below hb).alloc (.cells #[.int .u8 tk, .string tx, .int .i64 tw, .int .i64 tp] 69))
  have T1 := Lib.hid (Own.new w1 69 #[.int .u8 tk, .string tx, .int .i64 tw, .int .i64 tp])
  have HX : Hid (c.X ≠ w.heap.size ∧ c.X ≠ w1.heap.size) := by have := hX.out; simp only [Hid]; omega
  have HZ := Lib.hid hz
  clear hb hz A0
  go_upto_region 2 with (fail)
  obtain ⟨W1, hW1⟩ : ∃ W, W = w1.alloc (.cells #[.int .u8 tk, .string tx, .int .i64 tw, .int .i64 tp] 69) := ⟨_, rfl⟩
  rw [← hW1] at A O0 T1 ⊢
  clear hW1
  go_wp2_with fail
  go_at_call 45
  refine (HIsub.out _ (A.out.rs HS.out)).mono ?_
  rintro e w2 ⟨rfl, hb⟩
  have A := Lib.hid (A.out.below hb)
  have O0 := Lib.hid (O0.out.below hb)
  have T1 := Lib.hid (T1.out.below hb)
  clear hb
  go_wp2_with fail
  go_at_call 14
  refine (HF.out _ (A.out.rs HS.out)).mono ?_
  rintro e w3 ⟨rfl, hf, hr⟩
  have A := Lib.hid (A.out.call hf hr)
  have O0 := Lib.hid (O0.out.fr hf HX.out.1)
  have T1 := Lib.hid (T1.out.fr hf HX.out.2)
  clear hf hr
  go_wp2_with fail
  go_at_call 13
  refine (HO.out _ (A.out.rs HS.out)).mono ?_
  rintro e w4 ⟨rfl, hb⟩
  have A := Lib.hid (A.out.below hb)
  have O0 := Lib.hid (O0.out.below hb)
  have T1 := Lib.hid (T1.out.below hb)
  clear hb
  have o0 := O0.out
  go_wp2_with (first | (refine st rowEx rfl rfl o0 rfl rfl (by rfl) (by rfl) (by kernel_rfl) ?_))
  have A := A.out.setRow (Nat.le_refl _) HX.out.1 #[.int .u8 0, .int .u8 0, .int .i64 0, .string ⟨#[]⟩, .slice none 0 0, .int .i64 0]
  refine p_ret rowEx rfl (o0.row #[.int .u8 0, .int .u8 0, .int .i64 0, .string ⟨#[]⟩, .slice none 0 0, .int .i64 0]) rfl rfl rfl ?_
  exact ⟨A.fr, _, rfl, ⟨none, 0, rfl, .inl rfl⟩, A.rs HS.out⟩
set_option maxRecDepth 100000 in
set_option maxHeartbeats 4000000 in
theorem un_bad_FT0 {c : Par} {w : World} {σ : Sr} {d : Int} (R : Rs c w σ) (hsub : isK c.L [45] σ.ts = false) (hnot : isK c.L [33] σ.ts = true) {ipar : Bool} (hpar : isK c.L [40] σ.ts = ipar) (hok : σ.ok = false) (hd : d < 64) :
    Calls Tryd.prog 23 #[c.ptr, .int .i64 d] w (RsPost c w ((zE, σ)) (exR w.heap.size)) := by
  obtain ⟨t, ht⟩ : ∃ t, t = hereM c.L σ.ts := ⟨_, rfl⟩
  have HH : Hid (∀ W, Rs c W σ → Calls Tryd.prog 24 #[c.ptr] W fun e w' => e = .returned (tkV t) ∧ Below W.heap.size W w') := fun W R => by rw [ht]; exact r_hereS R
  have HIsub : Hid (∀ W, Rs c W σ → Calls Tryd.prog 45 #[c.ptr, .string ⟨#[45]⟩] W fun e w' => e = .returned (.bool false) ∧ Below W.heap.size W w') := fun W R => by rw [← hsub]; exact r_isS R ⟨#[45]⟩
  have HInot : Hid (∀ W, Rs c W σ → Calls Tryd.prog 45 #[c.ptr, .string ⟨#[33]⟩] W fun e w' => e = .returned (.bool true) ∧ Below W.heap.size W w') := fun W R => by rw [← hnot]; exact r_isS R ⟨#[33]⟩
  have HIpar : Hid (∀ W, Rs c W σ → Calls Tryd.prog 45 #[c.ptr, .string ⟨#[40]⟩] W fun e w' => e = .returned (.bool ipar) ∧ Below W.heap.size W w') := fun W R => by rw [← hpar]; exact r_isS R ⟨#[40]⟩
  have HT := Lib.hid ht
  have HS := Lib.hid R.s
  have A0 := Lib.hid (R.as.alloc (.cells zEx 26))
  have O0 := Lib.hid (Own.new w 26 zEx)
  have hX := Lib.hid R.lt
  have HO : Hid (∀ W, Rs c W σ → Calls Tryd.prog 13 #[c.ptr] W fun e w' => e = .returned (.bool false) ∧ Below W.heap.size W w') := fun W R => by rw [← hok]; exact r_okS R
  clear hok
  clear hsub hnot hpar
  clear ht R
  obtain ⟨tk, tx, tw, tp⟩ := t
  unfold tkV Par.ptr zEx at *
  go_enter Tryd.func23, Tryd.ntmps23
  go_wp2_with fail
  go_at_call 24
  refine (HH.out _ (A0.out.rs HS.out)).mono ?_
  rintro e w1 ⟨rfl, hb⟩
  have A := Lib.hid ((A0.out.below hb).alloc (.cells #[.int .u8 tk, .string tx, .int .i64 tw, .int .i64 tp] 69))
  have hz := (O0.out.below hb).lt
  have O0 := Lib.hid ((O0.out.below hb).alloc (.cells #[.int .u8 tk, .string tx, .int .i64 tw, .int .i64 tp] 69))
  have T1 := Lib.hid (Own.new w1 69 #[.int .u8 tk, .string tx, .int .i64 tw, .int .i64 tp])
  have HX : Hid (c.X ≠ w.heap.size ∧ c.X ≠ w1.heap.size) := by have := hX.out; simp only [Hid]; omega
  have HZ := Lib.hid hz
  clear hb hz A0
  go_upto_region 2 with (fail)
  obtain ⟨W1, hW1⟩ : ∃ W, W = w1.alloc (.cells #[.int .u8 tk, .string tx, .int .i64 tw, .int .i64 tp] 69) := ⟨_, rfl⟩
  rw [← hW1] at A O0 T1 ⊢
  clear hW1
  go_wp2_with fail
  go_at_call 45
  refine (HIsub.out _ (A.out.rs HS.out)).mono ?_
  rintro e w2 ⟨rfl, hb⟩
  have A := Lib.hid (A.out.below hb)
  have O0 := Lib.hid (O0.out.below hb)
  have T1 := Lib.hid (T1.out.below hb)
  clear hb
  go_wp2_with fail
  go_at_call 45
  refine (HInot.out _ (A.out.rs HS.out)).mono ?_
  rintro e w3 ⟨rfl, hb⟩
  have A := Lib.hid (A.out.below hb)
  have O0 := Lib.hid (O0.out.below hb)
  have T1 := Lib.hid (T1.out.below hb)
  clear hb
  go_wp2_with fail
  go_at_call 13
  refine (HO.out _ (A.out.rs HS.out)).mono ?_
  rintro e w4 ⟨rfl, hb⟩
  have A := Lib.hid (A.out.below hb)
  have O0 := Lib.hid (O0.out.below hb)
  have T1 := Lib.hid (T1.out.below hb)
  clear hb
  have o0 := O0.out
  go_wp2_with (first | (refine st rowEx rfl rfl o0 rfl rfl (by rfl) (by rfl) (by kernel_rfl) ?_))
  have A := A.out.setRow (Nat.le_refl _) HX.out.1 #[.int .u8 0, .int .u8 0, .int .i64 0, .string ⟨#[]⟩, .slice none 0 0, .int .i64 0]
  refine p_ret rowEx rfl (o0.row #[.int .u8 0, .int .u8 0, .int .i64 0, .string ⟨#[]⟩, .slice none 0 0, .int .i64 0]) rfl rfl rfl ?_
  exact ⟨A.fr, _, rfl, ⟨none, 0, rfl, .inl rfl⟩, A.rs HS.out⟩
set_option maxRecDepth 100000 in
set_option maxHeartbeats 4000000 in
theorem un_bad_FT1 {c : Par} {w : World} {σ : Sr} {d : Int} (R : Rs c w σ) (hsub : isK c.L [45] σ.ts = false) (hnot : isK c.L [33] σ.ts = true) {ipar : Bool} (hpar : isK c.L [40] σ.ts = ipar) (hok : σ.ok = false) (hd : 64 ≤ d) :
    Calls Tryd.prog 23 #[c.ptr, .int .i64 d] w (RsPost c w ((zE, σ)) (exR w.heap.size)) := by
  obtain ⟨t, ht⟩ : ∃ t, t = hereM c.L σ.ts := ⟨_, rfl⟩
  have HH : Hid (∀ W, Rs c W σ → Calls Tryd.prog 24 #[c.ptr] W fun e w' => e = .returned (tkV t) ∧ Below W.heap.size W w') := fun W R => by rw [ht]; exact r_hereS R
  have HIsub : Hid (∀ W, Rs c W σ → Calls Tryd.prog 45 #[c.ptr, .string ⟨#[45]⟩] W fun e w' => e = .returned (.bool false) ∧ Below W.heap.size W w') := fun W R => by rw [← hsub]; exact r_isS R ⟨#[45]⟩
  have HInot : Hid (∀ W, Rs c W σ → Calls Tryd.prog 45 #[c.ptr, .string ⟨#[33]⟩] W fun e w' => e = .returned (.bool true) ∧ Below W.heap.size W w') := fun W R => by rw [← hnot]; exact r_isS R ⟨#[33]⟩
  have HIpar : Hid (∀ W, Rs c W σ → Calls Tryd.prog 45 #[c.ptr, .string ⟨#[40]⟩] W fun e w' => e = .returned (.bool ipar) ∧ Below W.heap.size W w') := fun W R => by rw [← hpar]; exact r_isS R ⟨#[40]⟩
  have HT := Lib.hid ht
  have HS := Lib.hid R.s
  have A0 := Lib.hid (R.as.alloc (.cells zEx 26))
  have O0 := Lib.hid (Own.new w 26 zEx)
  have hX := Lib.hid R.lt
  have HO : Hid (∀ W, Rs c W σ → Calls Tryd.prog 13 #[c.ptr] W fun e w' => e = .returned (.bool false) ∧ Below W.heap.size W w') := fun W R => by rw [← hok]; exact r_okS R
  have HF : Hid (∀ W, Rs c W σ → Calls Tryd.prog 14 #[c.ptr, .int .i64 3] W fun e w' => e = .returned (.tuple #[]) ∧ Fr c W w' ∧ Rs c w' σ) := fun W R => by have := r_fail R 3; rw [bad_fail hok] at this; exact this
  clear hok
  clear hsub hnot hpar
  clear ht R
  obtain ⟨tk, tx, tw, tp⟩ := t
  unfold tkV Par.ptr zEx at *
  go_enter Tryd.func23, Tryd.ntmps23
  go_wp2_with fail
  go_at_call 24
  refine (HH.out _ (A0.out.rs HS.out)).mono ?_
  rintro e w1 ⟨rfl, hb⟩
  have A := Lib.hid ((A0.out.below hb).alloc (.cells #[.int .u8 tk, .string tx, .int .i64 tw, .int .i64 tp] 69))
  have hz := (O0.out.below hb).lt
  have O0 := Lib.hid ((O0.out.below hb).alloc (.cells #[.int .u8 tk, .string tx, .int .i64 tw, .int .i64 tp] 69))
  have T1 := Lib.hid (Own.new w1 69 #[.int .u8 tk, .string tx, .int .i64 tw, .int .i64 tp])
  have HX : Hid (c.X ≠ w.heap.size ∧ c.X ≠ w1.heap.size) := by have := hX.out; simp only [Hid]; omega
  have HZ := Lib.hid hz
  clear hb hz A0
  go_upto_region 2 with (fail)
  obtain ⟨W1, hW1⟩ : ∃ W, W = w1.alloc (.cells #[.int .u8 tk, .string tx, .int .i64 tw, .int .i64 tp] 69) := ⟨_, rfl⟩
  rw [← hW1] at A O0 T1 ⊢
  clear hW1
  go_wp2_with fail
  go_at_call 45
  refine (HIsub.out _ (A.out.rs HS.out)).mono ?_
  rintro e w2 ⟨rfl, hb⟩
  have A := Lib.hid (A.out.below hb)
  have O0 := Lib.hid (O0.out.below hb)
  have T1 := Lib.hid (T1.out.below hb)
  clear hb
  go_wp2_with fail
  go_at_call 45
  refine (HInot.out _ (A.out.rs HS.out)).mono ?_
  rintro e w3 ⟨rfl, hb⟩
  have A := Lib.hid (A.out.below hb)
  have O0 := Lib.hid (O0.out.below hb)
  have T1 := Lib.hid (T1.out.below hb)
  clear hb
  go_wp2_with fail
  go_at_call 14
  refine (HF.out _ (A.out.rs HS.out)).mono ?_
  rintro e w4 ⟨rfl, hf, hr⟩
  have A := Lib.hid (A.out.call hf hr)
  have O0 := Lib.hid (O0.out.fr hf HX.out.1)
  have T1 := Lib.hid (T1.out.fr hf HX.out.2)
  clear hf hr
  go_wp2_with fail
  go_at_call 13
  refine (HO.out _ (A.out.rs HS.out)).mono ?_
  rintro e w5 ⟨rfl, hb⟩
  have A := Lib.hid (A.out.below hb)
  have O0 := Lib.hid (O0.out.below hb)
  have T1 := Lib.hid (T1.out.below hb)
  clear hb
  have o0 := O0.out
  go_wp2_with (first | (refine st rowEx rfl rfl o0 rfl rfl (by rfl) (by rfl) (by kernel_rfl) ?_))
  have A := A.out.setRow (Nat.le_refl _) HX.out.1 #[.int .u8 0, .int .u8 0, .int .i64 0, .string ⟨#[]⟩, .slice none 0 0, .int .i64 0]
  refine p_ret rowEx rfl (o0.row #[.int .u8 0, .int .u8 0, .int .i64 0, .string ⟨#[]⟩, .slice none 0 0, .int .i64 0]) rfl rfl rfl ?_
  exact ⟨A.fr, _, rfl, ⟨none, 0, rfl, .inl rfl⟩, A.rs HS.out⟩
set_option maxRecDepth 100000 in
set_option maxHeartbeats 4000000 in
theorem un_bad_FFT0 {c : Par} {w : World} {σ : Sr} {d : Int} (R : Rs c w σ) (hsub : isK c.L [45] σ.ts = false) (hnot : isK c.L [33] σ.ts = false) (hpar : isK c.L [40] σ.ts = true) (hok : σ.ok = false) (hd : d < 64) :
    Calls Tryd.prog 23 #[c.ptr, .int .i64 d] w (RsPost c w ((zE, σ)) (exR w.heap.size)) := by
  obtain ⟨t, ht⟩ : ∃ t, t = hereM c.L σ.ts := ⟨_, rfl⟩
  have HH : Hid (∀ W, Rs c W σ → Calls Tryd.prog 24 #[c.ptr] W fun e w' => e = .returned (tkV t) ∧ Below W.heap.size W w') := fun W R => by rw [ht]; exact r_hereS R
  have HIsub : Hid (∀ W, Rs c W σ → Calls Tryd.prog 45 #[c.ptr, .string ⟨#[45]⟩] W fun e w' => e = .returned (.bool false) ∧ Below W.heap.size W w') := fun W R => by rw [← hsub]; exact r_isS R ⟨#[45]⟩
  have HInot : Hid (∀ W, Rs c W σ → Calls Tryd.prog 45 #[c.ptr, .string ⟨#[33]⟩] W fun e w' => e = .returned (.bool false) ∧ Below W.heap.size W w') := fun W R => by rw [← hnot]; exact r_isS R ⟨#[33]⟩
  have HIpar : Hid (∀ W, Rs c W σ → Calls Tryd.prog 45 #[c.ptr, .string ⟨#[40]⟩] W fun e w' => e = .returned (.bool true) ∧ Below W.heap.size W w') := fun W R => by rw [← hpar]; exact r_isS R ⟨#[40]⟩
  have HT := Lib.hid ht
  have HS := Lib.hid R.s
  have A0 := Lib.hid (R.as.alloc (.cells zEx 26))
  have O0 := Lib.hid (Own.new w 26 zEx)
  have hX := Lib.hid R.lt
  have HO : Hid (∀ W, Rs c W σ → Calls Tryd.prog 13 #[c.ptr] W fun e w' => e = .returned (.bool false) ∧ Below W.heap.size W w') := fun W R => by rw [← hok]; exact r_okS R
  clear hok
  clear hsub hnot hpar
  clear ht R
  obtain ⟨tk, tx, tw, tp⟩ := t
  unfold tkV Par.ptr zEx at *
  go_enter Tryd.func23, Tryd.ntmps23
  go_wp2_with fail
  go_at_call 24
  refine (HH.out _ (A0.out.rs HS.out)).mono ?_
  rintro e w1 ⟨rfl, hb⟩
  have A := Lib.hid ((A0.out.below hb).alloc (.cells #[.int .u8 tk, .string tx, .int .i64 tw, .int .i64 tp] 69))
  have hz := (O0.out.below hb).lt
  have O0 := Lib.hid ((O0.out.below hb).alloc (.cells #[.int .u8 tk, .string tx, .int .i64 tw, .int .i64 tp] 69))
  have T1 := Lib.hid (Own.new w1 69 #[.int .u8 tk, .string tx, .int .i64 tw, .int .i64 tp])
  have HX : Hid (c.X ≠ w.heap.size ∧ c.X ≠ w1.heap.size) := by have := hX.out; simp only [Hid]; omega
  have HZ := Lib.hid hz
  clear hb hz A0
  go_upto_region 2 with (fail)
  obtain ⟨W1, hW1⟩ : ∃ W, W = w1.alloc (.cells #[.int .u8 tk, .string tx, .int .i64 tw, .int .i64 tp] 69) := ⟨_, rfl⟩
  rw [← hW1] at A O0 T1 ⊢
  clear hW1
  go_wp2_with fail
  go_at_call 45
  refine (HIsub.out _ (A.out.rs HS.out)).mono ?_
  rintro e w2 ⟨rfl, hb⟩
  have A := Lib.hid (A.out.below hb)
  have O0 := Lib.hid (O0.out.below hb)
  have T1 := Lib.hid (T1.out.below hb)
  clear hb
  go_wp2_with fail
  go_at_call 45
  refine (HInot.out _ (A.out.rs HS.out)).mono ?_
  rintro e w3 ⟨rfl, hb⟩
  have A := Lib.hid (A.out.below hb)
  have O0 := Lib.hid (O0.out.below hb)
  have T1 := Lib.hid (T1.out.below hb)
  clear hb
  go_wp2_with fail
  go_at_call 45
  refine (HIpar.out _ (A.out.rs HS.out)).mono ?_
  rintro e w4 ⟨rfl, hb⟩
  have A := Lib.hid (A.out.below hb)
  have O0 := Lib.hid (O0.out.below hb)
  have T1 := Lib.hid (T1.out.below hb)
  clear hb
  go_wp2_with fail
  go_at_call 13
  refine (HO.out _ (A.out.rs HS.out)).mono ?_
  rintro e w5 ⟨rfl, hb⟩
  have A := Lib.hid (A.out.below hb)
  have O0 := Lib.hid (O0.out.below hb)
  have T1 := Lib.hid (T1.out.below hb)
  clear hb
  have o0 := O0.out
  go_wp2_with (first | (refine st rowEx rfl rfl o0 rfl rfl (by rfl) (by rfl) (by kernel_rfl) ?_))
  have A := A.out.setRow (Nat.le_refl _) HX.out.1 #[.int .u8 0, .int .u8 0, .int .i64 0, .string ⟨#[]⟩, .slice none 0 0, .int .i64 0]
  refine p_ret rowEx rfl (o0.row #[.int .u8 0, .int .u8 0, .int .i64 0, .string ⟨#[]⟩, .slice none 0 0, .int .i64 0]) rfl rfl rfl ?_
  exact ⟨A.fr, _, rfl, ⟨none, 0, rfl, .inl rfl⟩, A.rs HS.out⟩
set_option maxRecDepth 100000 in
set_option maxHeartbeats 4000000 in
theorem un_bad_FFT1 {c : Par} {w : World} {σ : Sr} {d : Int} (R : Rs c w σ) (hsub : isK c.L [45] σ.ts = false) (hnot : isK c.L [33] σ.ts = false) (hpar : isK c.L [40] σ.ts = true) (hok : σ.ok = false) (hd : 64 ≤ d) :
    Calls Tryd.prog 23 #[c.ptr, .int .i64 d] w (RsPost c w ((zE, σ)) (exR w.heap.size)) := by
  obtain ⟨t, ht⟩ : ∃ t, t = hereM c.L σ.ts := ⟨_, rfl⟩
  have HH : Hid (∀ W, Rs c W σ → Calls Tryd.prog 24 #[c.ptr] W fun e w' => e = .returned (tkV t) ∧ Below W.heap.size W w') := fun W R => by rw [ht]; exact r_hereS R
  have HIsub : Hid (∀ W, Rs c W σ → Calls Tryd.prog 45 #[c.ptr, .string ⟨#[45]⟩] W fun e w' => e = .returned (.bool false) ∧ Below W.heap.size W w') := fun W R => by rw [← hsub]; exact r_isS R ⟨#[45]⟩
  have HInot : Hid (∀ W, Rs c W σ → Calls Tryd.prog 45 #[c.ptr, .string ⟨#[33]⟩] W fun e w' => e = .returned (.bool false) ∧ Below W.heap.size W w') := fun W R => by rw [← hnot]; exact r_isS R ⟨#[33]⟩
  have HIpar : Hid (∀ W, Rs c W σ → Calls Tryd.prog 45 #[c.ptr, .string ⟨#[40]⟩] W fun e w' => e = .returned (.bool true) ∧ Below W.heap.size W w') := fun W R => by rw [← hpar]; exact r_isS R ⟨#[40]⟩
  have HT := Lib.hid ht
  have HS := Lib.hid R.s
  have A0 := Lib.hid (R.as.alloc (.cells zEx 26))
  have O0 := Lib.hid (Own.new w 26 zEx)
  have hX := Lib.hid R.lt
  have HO : Hid (∀ W, Rs c W σ → Calls Tryd.prog 13 #[c.ptr] W fun e w' => e = .returned (.bool false) ∧ Below W.heap.size W w') := fun W R => by rw [← hok]; exact r_okS R
  have HF : Hid (∀ W, Rs c W σ → Calls Tryd.prog 14 #[c.ptr, .int .i64 3] W fun e w' => e = .returned (.tuple #[]) ∧ Fr c W w' ∧ Rs c w' σ) := fun W R => by have := r_fail R 3; rw [bad_fail hok] at this; exact this
  clear hok
  clear hsub hnot hpar
  clear ht R
  obtain ⟨tk, tx, tw, tp⟩ := t
  unfold tkV Par.ptr zEx at *
  go_enter Tryd.func23, Tryd.ntmps23
  go_wp2_with fail
  go_at_call 24
  refine (HH.out _ (A0.out.rs HS.out)).mono ?_
  rintro e w1 ⟨rfl, hb⟩
  have A := Lib.hid ((A0.out.below hb).alloc (.cells #[.int .u8 tk, .string tx, .int .i64 tw, .int .i64 tp] 69))
  have hz := (O0.out.below hb).lt
  have O0 := Lib.hid ((O0.out.below hb).alloc (.cells #[.int .u8 tk, .string tx, .int .i64 tw, .int .i64 tp] 69))
  have T1 := Lib.hid (Own.new w1 69 #[.int .u8 tk, .string tx, .int .i64 tw, .int .i64 tp])
  have HX : Hid (c.X ≠ w.heap.size ∧ c.X ≠ w1.heap.size) := by have := hX.out; simp only [Hid]; omega
  have HZ := Lib.hid hz
  clear hb hz A0
  go_upto_region 2 with (fail)
  obtain ⟨W1, hW1⟩ : ∃ W, W = w1.alloc (.cells #[.int .u8 tk, .string tx, .int .i64 tw, .int .i64 tp] 69) := ⟨_, rfl⟩
  rw [← hW1] at A O0 T1 ⊢
  clear hW1
  go_wp2_with fail
  go_at_call 45
  refine (HIsub.out _ (A.out.rs HS.out)).mono ?_
  rintro e w2 ⟨rfl, hb⟩
  have A := Lib.hid (A.out.below hb)
  have O0 := Lib.hid (O0.out.below hb)
  have T1 := Lib.hid (T1.out.below hb)
  clear hb
  go_wp2_with fail
  go_at_call 45
  refine (HInot.out _ (A.out.rs HS.out)).mono ?_
  rintro e w3 ⟨rfl, hb⟩
  have A := Lib.hid (A.out.below hb)
  have O0 := Lib.hid (O0.out.below hb)
  have T1 := Lib.hid (T1.out.below hb)
  clear hb
  go_wp2_with fail
  go_at_call 45
  refine (HIpar.out _ (A.out.rs HS.out)).mono ?_
  rintro e w4 ⟨rfl, hb⟩
  have A := Lib.hid (A.out.below hb)
  have O0 := Lib.hid (O0.out.below hb)
  have T1 := Lib.hid (T1.out.below hb)
  clear hb
  go_wp2_with fail
  go_at_call 14
  refine (HF.out _ (A.out.rs HS.out)).mono ?_
  rintro e w5 ⟨rfl, hf, hr⟩
  have A := Lib.hid (A.out.call hf hr)
  have O0 := Lib.hid (O0.out.fr hf HX.out.1)
  have T1 := Lib.hid (T1.out.fr hf HX.out.2)
  clear hf hr
  go_wp2_with fail
  go_at_call 13
  refine (HO.out _ (A.out.rs HS.out)).mono ?_
  rintro e w6 ⟨rfl, hb⟩
  have A := Lib.hid (A.out.below hb)
  have O0 := Lib.hid (O0.out.below hb)
  have T1 := Lib.hid (T1.out.below hb)
  clear hb
  have o0 := O0.out
  go_wp2_with (first | (refine st rowEx rfl rfl o0 rfl rfl (by rfl) (by rfl) (by kernel_rfl) ?_))
  have A := A.out.setRow (Nat.le_refl _) HX.out.1 #[.int .u8 0, .int .u8 0, .int .i64 0, .string ⟨#[]⟩, .slice none 0 0, .int .i64 0]
  refine p_ret rowEx rfl (o0.row #[.int .u8 0, .int .u8 0, .int .i64 0, .string ⟨#[]⟩, .slice none 0 0, .int .i64 0]) rfl rfl rfl ?_
  exact ⟨A.fr, _, rfl, ⟨none, 0, rfl, .inl rfl⟩, A.rs HS.out⟩
set_option maxRecDepth 100000 in
set_option maxHeartbeats 4000000 in
theorem un_bad_FFF0 {c : Par} {w : World} {σ : Sr} {d : Int} (R : Rs c w σ) (hsub : isK c.L [45] σ.ts = false) (hnot : isK c.L [33] σ.ts = false) (hpar : isK c.L [40] σ.ts = false) (hok : σ.ok = false) :
    Calls Tryd.prog 23 #[c.ptr, .int .i64 d] w (RsPost c w ((zE, σ)) (exR w.heap.size)) := by
  obtain ⟨t, ht⟩ : ∃ t, t = hereM c.L σ.ts := ⟨_, rfl⟩
  have HH : Hid (∀ W, Rs c W σ → Calls Tryd.prog 24 #[c.ptr] W fun e w' => e = .returned (tkV t) ∧ Below W.heap.size W w') := fun W R => by rw [ht]; exact r_hereS R
  have HIsub : Hid (∀ W, Rs c W σ → Calls Tryd.prog 45 #[c.ptr, .string ⟨#[45]⟩] W fun e w' => e = .returned (.bool false) ∧ Below W.heap.size W w') := fun W R => by rw [← hsub]; exact r_isS R ⟨#[45]⟩
  have HInot : Hid (∀ W, Rs c W σ → Calls Tryd.prog 45 #[c.ptr, .string ⟨#[33]⟩] W fun e w' => e = .returned (.bool false) ∧ Below W.heap.size W w') := fun W R => by rw [← hnot]; exact r_isS R ⟨#[33]⟩
  have HIpar : Hid (∀ W, Rs c W σ → Calls Tryd.prog 45 #[c.ptr, .string ⟨#[40]⟩] W fun e w' => e = .returned (.bool false) ∧ Below W.heap.size W w') := fun W R => by rw [← hpar]; exact r_isS R ⟨#[40]⟩
  have HT := Lib.hid ht
  have HS := Lib.hid R.s
  have A0 := Lib.hid (R.as.alloc (.cells zEx 26))
  have O0 := Lib.hid (Own.new w 26 zEx)
  have hX := Lib.hid R.lt
  have HO : Hid (∀ W, Rs c W σ → Calls Tryd.prog 13 #[c.ptr] W fun e w' => e = .returned (.bool false) ∧ Below W.heap.size W w') := fun W R => by rw [← hok]; exact r_okS R
  clear hok
  clear hsub hnot hpar
  clear ht R
  obtain ⟨tk, tx, tw, tp⟩ := t
  unfold tkV Par.ptr zEx at *
  go_enter Tryd.func23, Tryd.ntmps23
  go_wp2_with fail
  go_at_call 24
  refine (HH.out _ (A0.out.rs HS.out)).mono ?_
  rintro e w1 ⟨rfl, hb⟩
  have A := Lib.hid ((A0.out.below hb).alloc (.cells #[.int .u8 tk, .string tx, .int .i64 tw, .int .i64 tp] 69))
  have hz := (O0.out.below hb).lt
  have O0 := Lib.hid ((O0.out.below hb).alloc (.cells #[.int .u8 tk, .string tx, .int .i64 tw, .int .i64 tp] 69))
  have T1 := Lib.hid (Own.new w1 69 #[.int .u8 tk, .string tx, .int .i64 tw, .int .i64 tp])
  have HX : Hid (c.X ≠ w.heap.size ∧ c.X ≠ w1.heap.size) := by have := hX.out; simp only [Hid]; omega
  have HZ := Lib.hid hz
  clear hb hz A0
  go_upto_region 2 with (fail)
  obtain ⟨W1, hW1⟩ : ∃ W, W = w1.alloc (.cells #[.int .u8 tk, .string tx, .int .i64 tw, .int .i64 tp] 69) := ⟨_, rfl⟩
  rw [← hW1] at A O0 T1 ⊢
  clear hW1
  go_wp2_with fail
  go_at_call 45
  refine (HIsub.out _ (A.out.rs HS.out)).mono ?_
  rintro e w2 ⟨rfl, hb⟩
  have A := Lib.hid (A.out.below hb)
  have O0 := Lib.hid (O0.out.below hb)
  have T1 := Lib.hid (T1.out.below hb)
  clear hb
  go_wp2_with fail
  go_at_call 45
  refine (HInot.out _ (A.out.rs HS.out)).mono ?_
  rintro e w3 ⟨rfl, hb⟩
  have A := Lib.hid (A.out.below hb)
  have O0 := Lib.hid (O0.out.below hb)
  have T1 := Lib.hid (T1.out.below hb)
  clear hb
  go_wp2_with fail
  go_at_call 45
  refine (HIpar.out _ (A.out.rs HS.out)).mono ?_
  rintro e w4 ⟨rfl, hb⟩
  have A := Lib.hid (A.out.below hb)
  have O0 := Lib.hid (O0.out.below hb)
  have T1 := Lib.hid (T1.out.below hb)
  clear hb
  go_wp2_with fail
  go_at_call 13
  refine (HO.out _ (A.out.rs HS.out)).mono ?_
  rintro e w5 ⟨rfl, hb⟩
  have A := Lib.hid (A.out.below hb)
  have O0 := Lib.hid (O0.out.below hb)
  have T1 := Lib.hid (T1.out.below hb)
  clear hb
  have o0 := O0.out
  go_wp2_with (first | (refine st rowEx rfl rfl o0 rfl rfl (by rfl) (by rfl) (by kernel_rfl) ?_))
  have A := A.out.setRow (Nat.le_refl _) HX.out.1 #[.int .u8 0, .int .u8 0, .int .i64 0, .string ⟨#[]⟩, .slice none 0 0, .int .i64 0]
  refine p_ret rowEx rfl (o0.row #[.int .u8 0, .int .u8 0, .int .i64 0, .string ⟨#[]⟩, .slice none 0 0, .int .i64 0]) rfl rfl rfl ?_
  exact ⟨A.fr, _, rfl, ⟨none, 0, rfl, .inl rfl⟩, A.rs HS.out⟩
set_option maxRecDepth 100000 in
set_option maxHeartbeats 4000000 in
theorem un_deep_T {c : Par} {w : World} {σ : Sr} {d : Int} (R : Rs c w σ) (hsub : isK c.L [45] σ.ts = true) {inot : Bool} (hnot : isK c.L [33] σ.ts = inot) {ipar : Bool} (hpar : isK c.L [40] σ.ts = ipar) (hd : 64 ≤ d) :
    Calls Tryd.prog 23 #[c.ptr, .int .i64 d] w (RsPost c w ((zE, σ.fail c.L 3)) (exR w.heap.size)) := by
  obtain ⟨t, ht⟩ : ∃ t, t = hereM c.L σ.ts := ⟨_, rfl⟩
  have HH : Hid (∀ W, Rs c W σ → Calls Tryd.prog 24 #[c.ptr] W fun e w' => e = .returned (tkV t) ∧ Below W.heap.size W w') := fun W R => by rw [ht]; exact r_hereS R
  have HIsub : Hid (∀ W, Rs c W σ → Calls Tryd.prog 45 #[c.ptr, .string ⟨#[45]⟩] W fun e w' => e = .returned (.bool true) ∧ Below W.heap.size W w') := fun W R => by rw [← hsub]; exact r_isS R ⟨#[45]⟩
  have HInot : Hid (∀ W, Rs c W σ → Calls Tryd.prog 45 #[c.ptr, .string ⟨#[33]⟩] W fun e w' => e = .returned (.bool inot) ∧ Below W.heap.size W w') := fun W R => by rw [← hnot]; exact r_isS R ⟨#[33]⟩
  have HIpar : Hid (∀ W, Rs c W σ → Calls Tryd.prog 45 #[c.ptr, .string ⟨#[40]⟩] W fun e w' => e = .returned (.bool ipar) ∧ Below W.heap.size W w') := fun W R => by rw [← hpar]; exact r_isS R ⟨#[40]⟩
  have HT := Lib.hid ht
  have HS := Lib.hid R.s
  have A0 := Lib.hid (R.as.alloc (.cells zEx 26))
  have O0 := Lib.hid (Own.new w 26 zEx)
  have hX := Lib.hid R.lt
  obtain ⟨σ3, hσ3⟩ : ∃ σ3, σ3 = σ.fail c.L 3 := ⟨_, rfl⟩
  have HF : Hid (∀ W, Rs c W σ → Calls Tryd.prog 14 #[c.ptr, .int .i64 3] W fun e w' => e = .returned (.tuple #[]) ∧ Fr c W w' ∧ Rs c w' σ3) := fun W R => by rw [hσ3]; exact r_fail R 3
  have HO : Hid (∀ W, Rs c W σ3 → Calls Tryd.prog 13 #[c.ptr] W fun e w' => e = .returned (.bool false) ∧ Below W.heap.size W w') := fun W R => by have := r_okS R; rw [hσ3, fail_ok (by decide)] at this; exact this
  rw [← hσ3]
  clear hσ3
  clear hsub hnot hpar
  clear ht R
  obtain ⟨tk, tx, tw, tp⟩ := t
  unfold tkV Par.ptr zEx at *
  go_enter Tryd.func23, Tryd.ntmps23
  go_wp2_with fail
  go_at_call 24
  refine (HH.out _ (A0.out.rs HS.out)).mono ?_
  rintro e w1 ⟨rfl, hb⟩
  have A := Lib.hid ((A0.out.below hb).alloc (.cells #[.int .u8 tk, .string tx, .int .i64 tw, .int .i64 tp] 69))
  have hz := (O0.out.below hb).lt
  have O0 := Lib.hid ((O0.out.below hb).alloc (.cells #[.int .u8 tk, .string tx, .int .i64 tw, .int .i64 tp] 69))
  have T1 := Lib.hid (Own.new w1 69 #[.int .u8 tk, .string tx, .int .i64 tw, .int .i64 tp])
  have HX : Hid (c.X ≠ w.heap.size ∧ c.X ≠ w1.heap.size) := by have := hX.out; simp only [Hid]; omega
  have HZ := Lib.hid hz
  clear hb hz A0
  go_upto_region 2 with (fail)
  obtain ⟨W1, hW1⟩ : ∃ W, W = w1.alloc (.cells #[.int .u8 tk, .string tx, .int .i64 tw, .int .i64 tp] 69) := ⟨_, rfl⟩
  rw [← hW1] at A O0 T1 ⊢
  clear hW1
  go_wp2_with fail
  go_at_call 45
  refine (HIsub.out _ (A.out.rs HS.out)).mono ?_
  rintro e w2 ⟨rfl, hb⟩
  have A := Lib.hid (A.out.below hb)
  have O0 := Lib.hid (O0.out.below hb)
  have T1 := Lib.hid (T1.out.below hb)
  clear hb
  go_wp2_with fail
  go_at_call 14
  refine (HF.out _ (A.out.rs HS.out)).mono ?_
  rintro e w3 ⟨rfl, hf, hr⟩
  have A := Lib.hid (A.out.call hf hr)
  have O0 := Lib.hid (O0.out.fr hf HX.out.1)
  have T1 := Lib.hid (T1.out.fr hf HX.out.2)
  clear hf hr
  go_wp2_with fail
  go_at_call 13
  refine (HO.out _ (A.out.rs HS.out)).mono ?_
  rintro e w4 ⟨rfl, hb⟩
  have A := Lib.hid (A.out.below hb)
  have O0 := Lib.hid (O0.out.below hb)
  have T1 := Lib.hid (T1.out.below hb)
  clear hb
  have o0 := O0.out
  go_wp2_with (first | (refine st rowEx rfl rfl o0 rfl rfl (by rfl) (by rfl) (by kernel_rfl) ?_))
  have A := A.out.setRow (Nat.le_refl _) HX.out.1 #[.int .u8 0, .int .u8 0, .int .i64 0, .string ⟨#[]⟩, .slice none 0 0, .int .i64 0]
  refine p_ret rowEx rfl (o0.row #[.int .u8 0, .int .u8 0, .int .i64 0, .string ⟨#[]⟩, .slice none 0 0, .int .i64 0]) rfl rfl rfl ?_
  exact ⟨A.fr, _, rfl, ⟨none, 0, rfl, .inl rfl⟩, A.rs HS.out⟩
set_option maxRecDepth 100000 in
set_option maxHeartbeats 4000000 in
theorem un_deep_FT {c : Par} {w : World} {σ : Sr} {d : Int} (R : Rs c w σ) (hsub : isK c.L [45] σ.ts = false) (hnot : isK c.L [33] σ.ts = true) {ipar : Bool} (hpar : isK c.L [40] σ.ts = ipar) (hd : 64 ≤ d) :
    Calls Tryd.prog 23 #[c.ptr, .int .i64 d] w (RsPost c w ((zE, σ.fail c.L 3)) (exR w.heap.size)) := by
  obtain ⟨t, ht⟩ : ∃ t, t = hereM c.L σ.ts := ⟨_, rfl⟩
  have HH : Hid (∀ W, Rs c W σ → Calls Tryd.prog 24 #[c.ptr] W fun e w' => e = .returned (tkV t) ∧ Below W.heap.size W w') := fun W R => by rw [ht]; exact r_hereS R
  have HIsub : Hid (∀ W, Rs c W σ → Calls Tryd.prog 45 #[c.ptr, .string ⟨#[45]⟩] W fun e w' => e = .returned (.bool false) ∧ Below W.heap.size W w') := fun W R => by rw [← hsub]; exact r_isS R ⟨#[45]⟩
  have HInot : Hid (∀ W, Rs c W σ → Calls Tryd.prog 45 #[c.ptr, .string ⟨#[33]⟩] W fun e w' => e = .returned (.bool true) ∧ Below W.heap.size W w') := fun W R => by rw [← hnot]; exact r_isS R ⟨#[33]⟩
  have HIpar : Hid (∀ W, Rs c W σ → Calls Tryd.prog 45 #[c.ptr, .string ⟨#[40]⟩] W fun e w' => e = .returned (.bool ipar) ∧ Below W.heap.size W w') := fun W R => by rw [← hpar]; exact r_isS R ⟨#[40]⟩
  have HT := Lib.hid ht
  have HS := Lib.hid R.s
  have A0 := Lib.hid (R.as.alloc (.cells zEx 26))
  have O0 := Lib.hid (Own.new w 26 zEx)
  have hX := Lib.hid R.lt
  obtain ⟨σ3, hσ3⟩ : ∃ σ3, σ3 = σ.fail c.L 3 := ⟨_, rfl⟩
  have HF : Hid (∀ W, Rs c W σ → Calls Tryd.prog 14 #[c.ptr, .int .i64 3] W fun e w' => e = .returned (.tuple #[]) ∧ Fr c W w' ∧ Rs c w' σ3) := fun W R => by rw [hσ3]; exact r_fail R 3
  have HO : Hid (∀ W, Rs c W σ3 → Calls Tryd.prog 13 #[c.ptr] W fun e w' => e = .returned (.bool false) ∧ Below W.heap.size W w') := fun W R => by have := r_okS R; rw [hσ3, fail_ok (by decide)] at this; exact this
  rw [← hσ3]
  clear hσ3
  clear hsub hnot hpar
  clear ht R
  obtain ⟨tk, tx, tw, tp⟩ := t
  unfold tkV Par.ptr zEx at *
  go_enter Tryd.func23, Tryd.ntmps23
  go_wp2_with fail
  go_at_call 24
  refine (HH.out _ (A0.out.rs HS.out)).mono ?_
  rintro e w1 ⟨rfl, hb⟩
  have A := Lib.hid ((A0.out.below hb).alloc (.cells #[.int .u8 tk, .string tx, .int .i64 tw, .int .i64 tp] 69))
  have hz := (O0.out.below hb).lt
  have O0 := Lib.hid ((O0.out.below hb).alloc (.cells #[.int .u8 tk, .string tx, .int .i64 tw, .int .i64 tp] 69))
  have T1 := Lib.hid (Own.new w1 69 #[.int .u8 tk, .string tx, .int .i64 tw, .int .i64 tp])
  have HX : Hid (c.X ≠ w.heap.size ∧ c.X ≠ w1.heap.size) := by have := hX.out; simp only [Hid]; omega
  have HZ := Lib.hid hz
  clear hb hz A0
  go_upto_region 2 with (fail)
  obtain ⟨W1, hW1⟩ : ∃ W, W = w1.alloc (.cells #[.int .u8 tk, .string tx, .int .i64 tw, .int .i64 tp] 69) := ⟨_, rfl⟩
  rw [← hW1] at A O0 T1 ⊢
  clear hW1
  go_wp2_with fail
  go_at_call 45
  refine (HIsub.out _ (A.out.rs HS.out)).mono ?_
  rintro e w2 ⟨rfl, hb⟩
  have A := Lib.hid (A.out.below hb)
  have O0 := Lib.hid (O0.out.below hb)
  have T1 := Lib.hid (T1.out.below hb)
  clear hb
  go_wp2_with fail
  go_at_call 45
  refine (HInot.out _ (A.out.rs HS.out)).mono ?_
  rintro e w3 ⟨rfl, hb⟩
  have A := Lib.hid (A.out.below hb)
  have O0 := Lib.hid (O0.out.below hb)
  have T1 := Lib.hid (T1.out.below hb)
  clear hb
  go_wp2_with fail
  go_at_call 14
  refine (HF.out _ (A.out.rs HS.out)).mono ?_
  rintro e w4 ⟨rfl, hf, hr⟩
  have A := Lib.hid (A.out.call hf hr)
  have O0 := Lib.hid (O0.out.fr hf HX.out.1)
  have T1 := Lib.hid (T1.out.fr hf HX.out.2)
  clear hf hr
  go_wp2_with fail
  go_at_call 13
  refine (HO.out _ (A.out.rs HS.out)).mono ?_
  rintro e w5 ⟨rfl, hb⟩
  have A := Lib.hid (A.out.below hb)
  have O0 := Lib.hid (O0.out.below hb)
  have T1 := Lib.hid (T1.out.below hb)
  clear hb
  have o0 := O0.out
  go_wp2_with (first | (refine st rowEx rfl rfl o0 rfl rfl (by rfl) (by rfl) (by kernel_rfl) ?_))
  have A := A.out.setRow (Nat.le_refl _) HX.out.1 #[.int .u8 0, .int .u8 0, .int .i64 0, .string ⟨#[]⟩, .slice none 0 0, .int .i64 0]
  refine p_ret rowEx rfl (o0.row #[.int .u8 0, .int .u8 0, .int .i64 0, .string ⟨#[]⟩, .slice none 0 0, .int .i64 0]) rfl rfl rfl ?_
  exact ⟨A.fr, _, rfl, ⟨none, 0, rfl, .inl rfl⟩, A.rs HS.out⟩
set_option maxRecDepth 100000 in
set_option maxHeartbeats 4000000 in
theorem un_deep_FFT {c : Par} {w : World} {σ : Sr} {d : Int} (R : Rs c w σ) (hsub : isK c.L [45] σ.ts = false) (hnot : isK c.L [33] σ.ts = false) (hpar : isK c.L [40] σ.ts = true) (hd : 64 ≤ d) :
    Calls Tryd.prog 23 #[c.ptr, .int .i64 d] w (RsPost c w ((zE, σ.fail c.L 3)) (exR w.heap.size)) := by
  obtain ⟨t, ht⟩ : ∃ t, t = hereM c.L σ.ts := ⟨_, rfl⟩
  have HH : Hid (∀ W, Rs c W σ → Calls Tryd.prog 24 #[c.ptr] W fun e w' => e = .returned (tkV t) ∧ Below W.heap.size W w') := fun W R => by rw [ht]; exact r_hereS R
  have HIsub : Hid (∀ W, Rs c W σ → Calls Tryd.prog 45 #[c.ptr, .string ⟨#[45]⟩] W fun e w' => e = .returned (.bool false) ∧ Below W.heap.size W w') := fun W R => by rw [← hsub]; exact r_isS R ⟨#[45]⟩
  have HInot : Hid (∀ W, Rs c W σ → Calls Tryd.prog 45 #[c.ptr, .string ⟨#[33]⟩] W fun e w' => e = .returned (.bool false) ∧ Below W.heap.size W w') := fun W R => by rw [← hnot]; exact r_isS R ⟨#[33]⟩
  have HIpar : Hid (∀ W, Rs c W σ → Calls Tryd.prog 45 #[c.ptr, .string ⟨#[40]⟩] W fun e w' => e = .returned (.bool true) ∧ Below W.heap.size W w') := fun W R => by rw [← hpar]; exact r_isS R ⟨#[40]⟩
  have HT := Lib.hid ht
  have HS := Lib.hid R.s
  have A0 := Lib.hid (R.as.alloc (.cells zEx 26))
  have O0 := Lib.hid (Own.new w 26 zEx)
  have hX := Lib.hid R.lt
  obtain ⟨σ3, hσ3⟩ : ∃ σ3, σ3 = σ.fail c.L 3 := ⟨_, rfl⟩
  have HF : Hid (∀ W, Rs c W σ → Calls Tryd.prog 14 #[c.ptr, .int .i64 3] W fun e w' => e = .returned (.tuple #[]) ∧ Fr c W w' ∧ Rs c w' σ3) := fun W R => by rw [hσ3]; exact r_fail R 3
  have HO : Hid (∀ W, Rs c W σ3 → Calls Tryd.prog 13 #[c.ptr] W fun e w' => e = .returned (.bool false) ∧ Below W.heap.size W w') := fun W R => by have := r_okS R; rw [hσ3, fail_ok (by decide)] at this; exact this
  rw [← hσ3]
  clear hσ3
  clear hsub hnot hpar
  clear ht R
  obtain ⟨tk, tx, tw, tp⟩ := t
  unfold tkV Par.ptr zEx at *
  go_enter Tryd.func23, Tryd.ntmps23
  go_wp2_with fail
  go_at_call 24
  refine (HH.out _ (A0.out.rs HS.out)).mono ?_
  rintro e w1 ⟨rfl, hb⟩
  have A := Lib.hid ((A0.out.below hb).alloc (.cells #[.int .u8 tk, .string tx, .int .i64 tw, .int .i64 tp] 69))
  have hz := (O0.out.below hb).lt
  have O0 := Lib.hid ((O0.out.below hb).alloc (.cells #[.int .u8 tk, .string tx, .int .i64 tw, .int .i64 tp] 69))
  have T1 := Lib.hid (Own.new w1 69 #[.int .u8 tk, .string tx, .int .i64 tw, .int .i64 tp])
  have HX : Hid (c.X ≠ w.heap.size ∧ c.X ≠ w1.heap.size) := by have := hX.out; simp only [Hid]; omega
  have HZ := Lib.hid hz
  clear hb hz A0
  go_upto_region 2 with (fail)
  obtain ⟨W1, hW1⟩ : ∃ W, W = w1.alloc (.cells #[.int .u8 tk, .string tx, .int .i64 tw, .int .i64 tp] 69) := ⟨_, rfl⟩
  rw [← hW1] at A O0 T1 ⊢
  clear hW1
  go_wp2_with fail
  go_at_call 45
  refine (HIsub.out _ (A.out.rs HS.out)).mono ?_
  rintro e w2 ⟨rfl, hb⟩
  have A := Lib.hid (A.out.below hb)
  have O0 := Lib.hid (O0.out.below hb)
  have T1 := Lib.hid (T1.out.below hb)
  clear hb
  go_wp2_with fail
  go_at_call 45
  refine (HInot.out _ (A.out.rs HS.out)).mono ?_
  rintro e w3 ⟨rfl, hb⟩
  have A := Lib.hid (A.out.below hb)
  have O0 := Lib.hid (O0.out.below hb)
  have T1 := Lib.hid (T1.out.below hb)
  clear hb
  go_wp2_with fail
  go_at_call 45
  refine (HIpar.out _ (A.out.rs HS.out)).mono ?_
  rintro e w4 ⟨rfl, hb⟩
  have A := Lib.hid (A.out.below hb)
  have O0 := Lib.hid (O0.out.below hb)
  have T1 := Lib.hid (T1.out.below hb)
  clear hb
  go_wp2_with fail
  go_at_call 14
  refine (HF.out _ (A.out.rs HS.out)).mono ?_
  rintro e w5 ⟨rfl, hf, hr⟩
  have A := Lib.hid (A.out.call hf hr)
  have O0 := Lib.hid (O0.out.fr hf HX.out.1)
  have T1 := Lib.hid (T1.out.fr hf HX.out.2)
  clear hf hr
  go_wp2_with fail
  go_at_call 13
  refine (HO.out _ (A.out.rs HS.out)).mono ?_
  rintro e w6 ⟨rfl, hb⟩
  have A := Lib.hid (A.out.below hb)
  have O0 := Lib.hid (O0.out.below hb)
  have T1 := Lib.hid (T1.out.below hb)
  clear hb
  have o0 := O0.out
  go_wp2_with (first | (refine st rowEx rfl rfl o0 rfl rfl (by rfl) (by rfl) (by kernel_rfl) ?_))
  have A := A.out.setRow (Nat.le_refl _) HX.out.1 #[.int .u8 0, .int .u8 0, .int .i64 0, .string ⟨#[]⟩, .slice none 0 0, .int .i64 0]
  refine p_ret rowEx rfl (o0.row #[.int .u8 0, .int .u8 0, .int .i64 0, .string ⟨#[]⟩, .slice none 0 0, .int .i64 0]) rfl rfl rfl ?_
  exact ⟨A.fr, _, rfl, ⟨none, 0, rfl, .inl rfl⟩, A.rs HS.out⟩
set_option maxRecDepth 100000 in
set_option maxHeartbeats 4000000 in
theorem un_kind3 {c : Par} {w : World} {σ : Sr} {d : Int} (R : Rs c w σ) (hsub : isK c.L [45] σ.ts = false) (hnot : isK c.L [33] σ.ts = false) (hpar : isK c.L [40] σ.ts = false) (hok : σ.ok = true) (hk : (hereM c.L σ.ts).kind = 3) :
    Calls Tryd.prog 23 #[c.ptr, .int .i64 d] w (RsPost c w ((.mk 1 0 (hereM c.L σ.ts).wd ⟨#[]⟩ [] (hereM c.L σ.ts).pos, σ.step)) (exR w.heap.size)) := by
  obtain ⟨t, ht⟩ : ∃ t, t = hereM c.L σ.ts := ⟨_, rfl⟩
  have HH : Hid (∀ W, Rs c W σ → Calls Tryd.prog 24 #[c.ptr] W fun e w' => e = .returned (tkV t) ∧ Below W.heap.size W w') := fun W R => by rw [ht]; exact r_hereS R
  have HIsub : Hid (∀ W, Rs c W σ → Calls Tryd.prog 45 #[c.ptr, .string ⟨#[45]⟩] W fun e w' => e = .returned (.bool false) ∧ Below W.heap.size W w') := fun W R => by rw [← hsub]; exact r_isS R ⟨#[45]⟩
  have HInot : Hid (∀ W, Rs c W σ → Calls Tryd.prog 45 #[c.ptr, .string ⟨#[33]⟩] W fun e w' => e = .returned (.bool false) ∧ Below W.heap.size W w') := fun W R => by rw [← hnot]; exact r_isS R ⟨#[33]⟩
  have HIpar : Hid (∀ W, Rs c W σ → Calls Tryd.prog 45 #[c.ptr, .string ⟨#[40]⟩] W fun e w' => e = .returned (.bool false) ∧ Below W.heap.size W w') := fun W R => by rw [← hpar]; exact r_isS R ⟨#[40]⟩
  have HT := Lib.hid ht
  have HS := Lib.hid R.s
  have A0 := Lib.hid (R.as.alloc (.cells zEx 26))
  have O0 := Lib.hid (Own.new w 26 zEx)
  have hX := Lib.hid R.lt
  have HO : Hid (∀ W, Rs c W σ → Calls Tryd.prog 13 #[c.ptr] W fun e w' => e = .returned (.bool true) ∧ Below W.heap.size W w') := fun W R => by rw [← hok]; exact r_okS R
  have hne := kind_ne hk (by decide)
  rw [← ht] at hk ⊢
  have hne : Hid (σ.step.ts.length + 1 = σ.ts.length) := hne
  clear hok hsub hnot hpar
  clear ht R
  obtain ⟨tk, tx, tw, tp⟩ := t
  simp only at hk ⊢
  subst hk
  unfold tkV Par.ptr zEx at *
  go_enter Tryd.func23, Tryd.ntmps23
  go_wp2_with fail
  go_at_call 24
  refine (HH.out _ (A0.out.rs HS.out)).mono ?_
  rintro e w1 ⟨rfl, hb⟩
  have A := Lib.hid ((A0.out.below hb).alloc (.cells #[.int .u8 3, .string tx, .int .i64 tw, .int .i64 tp] 69))
  have hz := (O0.out.below hb).lt
  have O0 := Lib.hid ((O0.out.below hb).alloc (.cells #[.int .u8 3, .string tx, .int .i64 tw, .int .i64 tp] 69))
  have T1 := Lib.hid (Own.new w1 69 #[.int .u8 3, .string tx, .int .i64 tw, .int .i64 tp])
  have HX : Hid (c.X ≠ w.heap.size ∧ c.X ≠ w1.heap.size) := by have := hX.out; simp only [Hid]; omega
  have HZ := Lib.hid hz
  clear hb hz A0
  go_upto_region 2 with (fail)
  obtain ⟨W1, hW1⟩ : ∃ W, W = w1.alloc (.cells #[.int .u8 3, .string tx, .int .i64 tw, .int .i64 tp] 69) := ⟨_, rfl⟩
  rw [← hW1] at A O0 T1 ⊢
  clear hW1
  go_wp2_with fail
  go_at_call 45
  refine (HIsub.out _ (A.out.rs HS.out)).mono ?_
  rintro e w2 ⟨rfl, hb⟩
  have A := Lib.hid (A.out.below hb)
  have O0 := Lib.hid (O0.out.below hb)
  have T1 := Lib.hid (T1.out.below hb)
  clear hb
  go_wp2_with fail
  go_at_call 45
  refine (HInot.out _ (A.out.rs HS.out)).mono ?_
  rintro e w3 ⟨rfl, hb⟩
  have A := Lib.hid (A.out.below hb)
  have O0 := Lib.hid (O0.out.below hb)
  have T1 := Lib.hid (T1.out.below hb)
  clear hb
  go_wp2_with fail
  go_at_call 45
  refine (HIpar.out _ (A.out.rs HS.out)).mono ?_
  rintro e w4 ⟨rfl, hb⟩
  have A := Lib.hid (A.out.below hb)
  have O0 := Lib.hid (O0.out.below hb)
  have T1 := Lib.hid (T1.out.below hb)
  clear hb
  go_wp2_with fail
  go_at_call 13
  refine (HO.out _ (A.out.rs HS.out)).mono ?_
  rintro e w5 ⟨rfl, hb⟩
  have A := Lib.hid (A.out.below hb)
  have O0 := Lib.hid (O0.out.below hb)
  have T1 := Lib.hid (T1.out.below hb)
  clear hb
  obtain ⟨k, x1, xf, hk6, xl, AS⟩ := A.out.open HS.out hne.out
  have AS := Lib.hid AS
  have t0 : w5.cell? ⟨w1.heap.size, 0, none⟩ = some (.int .u8 3) := by rw [cell_of_row _ _ 0 _ _ _ T1.out]; rfl
  have o0 := O0.out.setX 1 (.int .i64 ((k : Int) + 1)) HX.out.1
  have T2 := T1.out.setX 1 (.int .i64 ((k : Int) + 1)) HX.out.2
  have y2 : (w5.setCell ⟨c.X, 1, none⟩ (.int .i64 ((k : Int) + 1))).cell? ⟨w1.heap.size, 2, none⟩ = some (.int .i64 tw) := by rw [cell_of_row _ _ 2 _ _ _ T2]; rfl
  have y3 : (w5.setCell ⟨c.X, 1, none⟩ (.int .i64 ((k : Int) + 1))).cell? ⟨w1.heap.size, 3, none⟩ = some (.int .i64 tp) := by rw [cell_of_row _ _ 3 _ _ _ T2]; rfl
  clear T2
  go_wp2_with (first | (refine st rowEx rfl rfl o0 rfl rfl (by rfl) (by rfl) (by kernel_rfl) ?_))
  have A := AS.out.setRow (Nat.le_refl _) HX.out.1 #[.int .u8 1, .int .u8 0, .int .i64 tw, .string ⟨#[]⟩, .slice none 0 0, .int .i64 tp]
  refine p_ret rowEx rfl (o0.row #[.int .u8 1, .int .u8 0, .int .i64 tw, .string ⟨#[]⟩, .slice none 0 0, .int .i64 tp]) rfl rfl rfl ?_
  exact ⟨A.fr, _, rfl, ⟨none, 0, rfl, .inl rfl⟩, A.rs HS.out⟩
set_option maxRecDepth 100000 in
set_option maxHeartbeats 4000000 in
theorem un_kind1 {c : Par} {w : World} {σ : Sr} {d : Int} (R : Rs c w σ) (hsub : isK c.L [45] σ.ts = false) (hnot : isK c.L [33] σ.ts = false) (hpar : isK c.L [40] σ.ts = false) (hok : σ.ok = true) (hk : (hereM c.L σ.ts).kind = 1) :
    Calls Tryd.prog 23 #[c.ptr, .int .i64 d] w (RsPost c w ((.mk 2 0 0 (hereM c.L σ.ts).text [] (hereM c.L σ.ts).pos, σ.step)) (exR w.heap.size)) := by
  obtain ⟨t, ht⟩ : ∃ t, t = hereM c.L σ.ts := ⟨_, rfl⟩
  have HH : Hid (∀ W, Rs c W σ → Calls Tryd.prog 24 #[c.ptr] W fun e w' => e = .returned (tkV t) ∧ Below W.heap.size W w') := fun W R => by rw [ht]; exact r_hereS R
  have HIsub : Hid (∀ W, Rs c W σ → Calls Tryd.prog 45 #[c.ptr, .string ⟨#[45]⟩] W fun e w' => e = .returned (.bool false) ∧ Below W.heap.size W w') := fun W R => by rw [← hsub]; exact r_isS R ⟨#[45]⟩
  have HInot : Hid (∀ W, Rs c W σ → Calls Tryd.prog 45 #[c.ptr, .string ⟨#[33]⟩] W fun e w' => e = .returned (.bool false) ∧ Below W.heap.size W w') := fun W R => by rw [← hnot]; exact r_isS R ⟨#[33]⟩
  have HIpar : Hid (∀ W, Rs c W σ → Calls Tryd.prog 45 #[c.ptr, .string ⟨#[40]⟩] W fun e w' => e = .returned (.bool false) ∧ Below W.heap.size W w') := fun W R => by rw [← hpar]; exact r_isS R ⟨#[40]⟩
  have HT := Lib.hid ht
  have HS := Lib.hid R.s
  have A0 := Lib.hid (R.as.alloc (.cells zEx 26))
  have O0 := Lib.hid (Own.new w 26 zEx)
  have hX := Lib.hid R.lt
  have HO : Hid (∀ W, Rs c W σ → Calls Tryd.prog 13 #[c.ptr] W fun e w' => e = .returned (.bool true) ∧ Below W.heap.size W w') := fun W R => by rw [← hok]; exact r_okS R
  have hne := kind_ne hk (by decide)
  rw [← ht] at hk ⊢
  have hne : Hid (σ.step.ts.length + 1 = σ.ts.length) := hne
  clear hok hsub hnot hpar
  clear ht R
  obtain ⟨tk, tx, tw, tp⟩ := t
  simp only at hk ⊢
  subst hk
  unfold tkV Par.ptr zEx at *
  go_enter Tryd.func23, Tryd.ntmps23
  go_wp2_with fail
  go_at_call 24
  refine (HH.out _ (A0.out.rs HS.out)).mono ?_
  rintro e w1 ⟨rfl, hb⟩
  have A := Lib.hid ((A0.out.below hb).alloc (.cells #[.int .u8 1, .string tx, .int .i64 tw, .int .i64 tp] 69))
  have hz := (O0.out.below hb).lt
  have O0 := Lib.hid ((O0.out.below hb).alloc (.cells #[.int .u8 1, .string tx, .int .i64 tw, .int .i64 tp] 69))
  have T1 := Lib.hid (Own.new w1 69 #[.int .u8 1, .string tx, .int .i64 tw, .int .i64 tp])
  have HX : Hid (c.X ≠ w.heap.size ∧ c.X ≠ w1.heap.size) := by have := hX.out; simp only [Hid]; omega
  have HZ := Lib.hid hz
  clear hb hz A0
  go_upto_region 2 with (fail)
  obtain ⟨W1, hW1⟩ : ∃ W, W = w1.alloc (.cells #[.int .u8 1, .string tx, .int .i64 tw, .int .i64 tp] 69) := ⟨_, rfl⟩
  rw [← hW1] at A O0 T1 ⊢
  clear hW1
  go_wp2_with fail
  go_at_call 45
  refine (HIsub.out _ (A.out.rs HS.out)).mono ?_
  rintro e w2 ⟨rfl, hb⟩
  have A := Lib.hid (A.out.below hb)
  have O0 := Lib.hid (O0.out.below hb)
  have T1 := Lib.hid (T1.out.below hb)
  clear hb
  go_wp2_with fail
  go_at_call 45
  refine (HInot.out _ (A.out.rs HS.out)).mono ?_
  rintro e w3 ⟨rfl, hb⟩
  have A := Lib.hid (A.out.below hb)
  have O0 := Lib.hid (O0.out.below hb)
  have T1 := Lib.hid (T1.out.below hb)
  clear hb
  go_wp2_with fail
  go_at_call 45
  refine (HIpar.out _ (A.out.rs HS.out)).mono ?_
  rintro e w4 ⟨rfl, hb⟩
  have A := Lib.hid (A.out.below hb)
  have O0 := Lib.hid (O0.out.below hb)
  have T1 := Lib.hid (T1.out.below hb)
  clear hb
  go_wp2_with fail
  go_at_call 13
  refine (HO.out _ (A.out.rs HS.out)).mono ?_
  rintro e w5 ⟨rfl, hb⟩
  have A := Lib.hid (A.out.below hb)
  have O0 := Lib.hid (O0.out.below hb)
  have T1 := Lib.hid (T1.out.below hb)
  clear hb
  obtain ⟨k, x1, xf, hk6, xl, AS⟩ := A.out.open HS.out hne.out
  have AS := Lib.hid AS
  have t0 : w5.cell? ⟨w1.heap.size, 0, none⟩ = some (.int .u8 1) := by rw [cell_of_row _ _ 0 _ _ _ T1.out]; rfl
  have o0 := O0.out.setX 1 (.int .i64 ((k : Int) + 1)) HX.out.1
  have T2 := T1.out.setX 1 (.int .i64 ((k : Int) + 1)) HX.out.2
  have y1 : (w5.setCell ⟨c.X, 1, none⟩ (.int .i64 ((k : Int) + 1))).cell? ⟨w1.heap.size, 1, none⟩ = some (.string tx) := by rw [cell_of_row _ _ 1 _ _ _ T2]; rfl
  have y3 : (w5.setCell ⟨c.X, 1, none⟩ (.int .i64 ((k : Int) + 1))).cell? ⟨w1.heap.size, 3, none⟩ = some (.int .i64 tp) := by rw [cell_of_row _ _ 3 _ _ _ T2]; rfl
  clear T2
  go_wp2_with (first | (refine st rowEx rfl rfl o0 rfl rfl (by rfl) (by rfl) (by kernel_rfl) ?_))
  have A := AS.out.setRow (Nat.le_refl _) HX.out.1 #[.int .u8 2, .int .u8 0, .int .i64 0, .string tx, .slice none 0 0, .int .i64 tp]
  refine p_ret rowEx rfl (o0.row #[.int .u8 2, .int .u8 0, .int .i64 0, .string tx, .slice none 0 0, .int .i64 tp]) rfl rfl rfl ?_
  exact ⟨A.fr, _, rfl, ⟨none, 0, rfl, .inl rfl⟩, A.rs HS.out⟩
end Go.Proofs.YtgaibdipecngkaaDoor

namespace Go.Proofs.YtgaibdipecngkaaDoor
open Go.RowKit
set_option linter.unusedVariables false
theorem take_yes {c : Par} {w : World} {σ : Sr} {s : ByteArray} (R : Rs c w σ) (hok : σ.ok = true) (h : isK c.L s.data.toList σ.ts = true) : Calls Tryd.prog 46 #[c.ptr, .string s] w fun e w' => e = .returned (.bool true) ∧ Fr c w w' ∧ Rs c w' σ.step := by
  have hh : σ.has c.L s.data.toList = true := by unfold Sr.has; rw [hok, h]; rfl
  have e : σ.take c.L s.data.toList = σ.step := by unfold Sr.take; rw [if_pos hh]
  have := r_take R s
  rw [hh, e] at this
  exact this
theorem take_no {c : Par} {w : World} {σ : Sr} {s : ByteArray} (R : Rs c w σ) (h : isK c.L s.data.toList σ.ts = false) : Calls Tryd.prog 46 #[c.ptr, .string s] w fun e w' => e = .returned (.bool false) ∧ Fr c w w' ∧ Rs c w' σ := by
  have hh : σ.has c.L s.data.toList = false := by unfold Sr.has; rw [h]; simp
  have e : σ.take c.L s.data.toList = σ := by unfold Sr.take; rw [if_neg (by rw [hh]; decide)]
  have := r_take R s
  rw [hh, e] at this
  exact this

set_option maxRecDepth 100000 in
set_option maxHeartbeats 4000000 in
theorem un_sub {c : Par} {w : World} {σ : Sr} {d : Int} (R : Rs c w σ) (hsub : isK c.L [45] σ.ts = true) (hnot : isK c.L [33] σ.ts = false) (hpar : isK c.L [40] σ.ts = false) (hok : σ.ok = true) (hk3 : ¬ (hereM c.L σ.ts).kind = 3) (hk1 : ¬ (hereM c.L σ.ts).kind = 1) (hd0 : 0 ≤ d) (hd : d < 64) {Y : Ex × Sr} (HU : ∀ W, Rs c W σ.step → Calls Tryd.prog 23 #[c.ptr, .int .i64 (d + 1)] W (RsPost c W Y (exR W.heap.size))) :
    Calls Tryd.prog 23 #[c.ptr, .int .i64 d] w (RsPost c w ((unX 17 (hereM c.L σ.ts).pos Y.1, Y.2)) (exR w.heap.size)) := by
  obtain ⟨t, ht⟩ : ∃ t, t = hereM c.L σ.ts := ⟨_, rfl⟩
  have HH : Hid (∀ W, Rs c W σ → Calls Tryd.prog 24 #[c.ptr] W fun e w' => e = .returned (tkV t) ∧ Below W.heap.size W w') := fun W R => by rw [ht]; exact r_hereS R
  have HIsub : Hid (∀ W, Rs c W σ → Calls Tryd.prog 45 #[c.ptr, .string ⟨#[45]⟩] W fun e w' => e = .returned (.bool true) ∧ Below W.heap.size W w') := fun W R => by rw [← hsub]; exact r_isS R ⟨#[45]⟩
  have HInot : Hid (∀ W, Rs c W σ → Calls Tryd.prog 45 #[c.ptr, .string ⟨#[33]⟩] W fun e w' => e = .returned (.bool false) ∧ Below W.heap.size W w') := fun W R => by rw [← hnot]; exact r_isS R ⟨#[33]⟩
  have HIpar : Hid (∀ W, Rs c W σ → Calls Tryd.prog 45 #[c.ptr, .string ⟨#[40]⟩] W fun e w' => e = .returned (.bool false) ∧ Below W.heap.size W w') := fun W R => by rw [← hpar]; exact r_isS R ⟨#[40]⟩
  have HT := Lib.hid ht
  have HS := Lib.hid R.s
  have A0 := Lib.hid (R.as.alloc (.cells zEx 26))
  have O0 := Lib.hid (Own.new w 26 zEx)
  have hX := Lib.hid R.lt
  have HO : Hid (∀ W, Rs c W σ → Calls Tryd.prog 13 #[c.ptr] W fun e w' => e = .returned (.bool true) ∧ Below W.heap.size W w') := fun W R => by rw [← hok]; exact r_okS R
  have q3 : (t.kind == 3) = false := by rw [ht]; simpa using hk3
  have q1 : (t.kind == 1) = false := by rw [ht]; simpa using hk1
  have HTpar : Hid (∀ W, Rs c W σ → Calls Tryd.prog 46 #[c.ptr, .string ⟨#[40]⟩] W fun e w' => e = .returned (.bool false) ∧ Fr c W w' ∧ Rs c w' σ) := fun W R => take_no R hpar
  have HTsub : Hid (∀ W, Rs c W σ → Calls Tryd.prog 46 #[c.ptr, .string ⟨#[45]⟩] W fun e w' => e = .returned (.bool true) ∧ Fr c W w' ∧ Rs c w' σ.step) := fun W R => take_yes R hok hsub
  rw [← ht]
  have HU : Hid (∀ W, Rs c W σ.step → Calls Tryd.prog 23 #[c.ptr, .int .i64 (d + 1)] W (RsPost c W Y (exR W.heap.size))) := HU
  clear hok hk3 hk1 hsub hnot hpar
  clear ht R
  obtain ⟨tk, tx, tw, tp⟩ := t
  unfold tkV Par.ptr zEx at *
  go_enter Tryd.func23, Tryd.ntmps23
  go_wp2_with fail
  go_at_call 24
  refine (HH.out _ (A0.out.rs HS.out)).mono ?_
  rintro e w1 ⟨rfl, hb⟩
  have A := Lib.hid ((A0.out.below hb).alloc (.cells #[.int .u8 tk, .string tx, .int .i64 tw, .int .i64 tp] 69))
  have hz := (O0.out.below hb).lt
  have O0 := Lib.hid ((O0.out.below hb).alloc (.cells #[.int .u8 tk, .string tx, .int .i64 tw, .int .i64 tp] 69))
  have T1 := Lib.hid (Own.new w1 69 #[.int .u8 tk, .string tx, .int .i64 tw, .int .i64 tp])
  have HX : Hid (c.X ≠ w.heap.size ∧ c.X ≠ w1.heap.size) := by have := hX.out; simp only [Hid]; omega
  have HZ := Lib.hid hz
  clear hb hz A0
  go_upto_region 2 with (fail)
  obtain ⟨W1, hW1⟩ : ∃ W, W = w1.alloc (.cells #[.int .u8 tk, .string tx, .int .i64 tw, .int .i64 tp] 69) := ⟨_, rfl⟩
  rw [← hW1] at A O0 T1 ⊢
  clear hW1
  try simp only at q1 q3
  go_wp2_with fail
  go_at_call 45
  refine (HIsub.out _ (A.out.rs HS.out)).mono ?_
  rintro e w2 ⟨rfl, hb⟩
  have A := Lib.hid (A.out.below hb)
  have O0 := Lib.hid (O0.out.below hb)
  have T1 := Lib.hid (T1.out.below hb)
  clear hb
  go_wp2_with fail
  go_at_call 13
  refine (HO.out _ (A.out.rs HS.out)).mono ?_
  rintro e w3 ⟨rfl, hb⟩
  have A := Lib.hid (A.out.below hb)
  have O0 := Lib.hid (O0.out.below hb)
  have T1 := Lib.hid (T1.out.below hb)
  clear hb
  have t0 : w3.cell? ⟨w1.heap.size, 0, none⟩ = some (.int .u8 tk) := by rw [cell_of_row _ _ 0 _ _ _ T1.out]; rfl
  go_wp2_with fail
  go_at_call 46
  refine (HTpar.out _ (A.out.rs HS.out)).mono ?_
  rintro e w4 ⟨rfl, hf, hr⟩
  have A := Lib.hid (A.out.call hf hr)
  have O0 := Lib.hid (O0.out.fr hf HX.out.1)
  have T1 := Lib.hid (T1.out.fr hf HX.out.2)
  clear hf hr
  go_wp2_with fail
  go_at_call 46
  refine (HTsub.out _ (A.out.rs HS.out)).mono ?_
  rintro e w5 ⟨rfl, hf, hr⟩
  have A := Lib.hid (A.out.call hf hr)
  have O0 := Lib.hid (O0.out.fr hf HX.out.1)
  have T1 := Lib.hid (T1.out.fr hf HX.out.2)
  clear hf hr
  have hlt := T1.out.lt
  go_wp2_with fail
  go_at_call 23
  refine (HU.out _ (A.out.rs HS.out)).mono ?_
  obtain ⟨e0, σ4⟩ := Y
  rintro e w9 ⟨hf, v, rfl, ⟨a4, cap4, rfl, hV⟩, hr⟩
  have HV := Lib.hid (exsAt_mono (exsAt_stays (stays_alloc _ w9 (.cells #[.int .u8 e0.kind, .int .u8 e0.op, .int .i64 e0.wd, .string e0.name, .slice a4 e0.kids.length cap4, .int .i64 e0.pos] 26)) (fun b hb => hb) (exsAt_in hV)) (R' := fun b => w1.heap.size < b ∧ b < w9.heap.size) (fun b hb => ⟨by have := hb.1; omega, hb.2⟩))
  have h9 := Keep.size hf
  have A := Lib.hid ((A.out.call hf hr).alloc (.cells #[.int .u8 e0.kind, .int .u8 e0.op, .int .i64 e0.wd, .string e0.name, .slice a4 e0.kids.length cap4, .int .i64 e0.pos] 26))
  have O0 := Lib.hid ((O0.out.fr hf HX.out.1).alloc (.cells #[.int .u8 e0.kind, .int .u8 e0.op, .int .i64 e0.wd, .string e0.name, .slice a4 e0.kids.length cap4, .int .i64 e0.pos] 26))
  have T1 := Lib.hid ((T1.out.fr hf HX.out.2).alloc (.cells #[.int .u8 e0.kind, .int .u8 e0.op, .int .i64 e0.wd, .string e0.name, .slice a4 e0.kids.length cap4, .int .i64 e0.pos] 26))
  have E1 := Own.new w9 26 #[.int .u8 e0.kind, .int .u8 e0.op, .int .i64 e0.wd, .string e0.name, .slice a4 e0.kids.length cap4, .int .i64 e0.pos]
  have H9 : Hid (w1.heap.size < w9.heap.size) := by simp only [Hid]; omega
  have hz9 : Hid ((w9.alloc (.cells #[.int .u8 e0.kind, .int .u8 e0.op, .int .i64 e0.wd, .string e0.name, .slice a4 e0.kids.length cap4, .int .i64 e0.pos] 26)).heap.size = w9.heap.size + 1) := World.size_alloc _ _
  clear hf hr hV hlt h9
  go_upto_region 18 with (fail)
  obtain ⟨W5, hW5⟩ : ∃ W, W = w9.alloc (.cells #[.int .u8 e0.kind, .int .u8 e0.op, .int .i64 e0.wd, .string e0.name, .slice a4 e0.kids.length cap4, .int .i64 e0.pos] 26) := ⟨_, rfl⟩
  rw [← hW5] at A O0 T1 E1 HV hz9 ⊢
  clear hW5
  have t3 : W5.cell? ⟨w1.heap.size, 3, none⟩ = some (.int .i64 tp) := by rw [cell_of_row _ _ 3 _ _ _ T1.out]; rfl
  have lt := T1.out.lt
  have o0 := O0.out.alloc (.cells #[.int .u8 e0.kind, .int .u8 e0.op, .int .i64 e0.wd, .string e0.name, .slice a4 e0.kids.length cap4, .int .i64 e0.pos] 26)
  have N0 := Lib.hid (Own.new W5 26 #[.int .u8 e0.kind, .int .u8 e0.op, .int .i64 e0.wd, .string e0.name, .slice a4 e0.kids.length cap4, .int .i64 e0.pos])
  go_wp2_with (first | (refine ld rowEx rfl rfl rfl E1 rfl ?_) | (refine st rowEx rfl rfl o0 rfl rfl (by rfl) (by rfl) (by kernel_rfl) ?_))
  have hzz := HZ.out
  have h9 := H9.out
  have h9z := hz9.out
  have A4 := (A.out.alloc (.cells #[.int .u8 e0.kind, .int .u8 e0.op, .int .i64 e0.wd, .string e0.name, .slice a4 e0.kids.length cap4, .int .i64 e0.pos] 26)).setRow (g := w.heap.size) (Nat.le_refl _) HX.out.1 #[.int .u8 3, .int .u8 17, .int .i64 0, .string ⟨#[]⟩, .slice (some ⟨W5.heap.size, 0, none⟩) 1 1, .int .i64 tp]
  refine p_ret rowEx rfl (o0.row #[.int .u8 3, .int .u8 17, .int .i64 0, .string ⟨#[]⟩, .slice (some ⟨W5.heap.size, 0, none⟩) 1 1, .int .i64 tp]) rfl rfl rfl ?_
  refine ⟨A4.fr, _, rfl, ⟨_, _, rfl, ?_⟩, A4.rs HS.out⟩
  refine .inr ⟨W5.heap.size, 0, rfl, by show w.heap.size ≤ W5.heap.size; omega, ?_, trivial⟩
  have hst : Stays (fun b => w1.heap.size < b ∧ b < w9.heap.size) W5 ((W5.alloc (.cells #[.int .u8 e0.kind, .int .u8 e0.op, .int .i64 e0.wd, .string e0.name, .slice a4 e0.kids.length cap4, .int .i64 e0.pos] 26)).setRow w.heap.size #[.int .u8 3, .int .u8 17, .int .i64 0, .string ⟨#[]⟩, .slice (some ⟨W5.heap.size, 0, none⟩) 1 1, .int .i64 tp]) := (stays_alloc _ W5 _).trans (stays_row _ _ (fun b hb => by have := hb.1; omega))
  refine exIn_of (vs := exCells e0 a4 cap4) ⟨a4, cap4, rfl, exsAt_stays hst (fun b hb => by have := hb.1; omega) HV.out⟩ ?_
  have N1 := N0.out.other #[.int .u8 3, .int .u8 17, .int .i64 0, .string ⟨#[]⟩, .slice (some ⟨W5.heap.size, 0, none⟩) 1 1, .int .i64 tp] (g := w.heap.size) (by omega)
  intro j v hj
  rw [Nat.zero_add, cell_of_row _ W5.heap.size j _ _ _ N1, ← hj]
  simp [exCells]
set_option maxRecDepth 100000 in
set_option maxHeartbeats 4000000 in
theorem un_not {c : Par} {w : World} {σ : Sr} {d : Int} (R : Rs c w σ) (hsub : isK c.L [45] σ.ts = false) (hnot : isK c.L [33] σ.ts = true) (hpar : isK c.L [40] σ.ts = false) (hok : σ.ok = true) (hk3 : ¬ (hereM c.L σ.ts).kind = 3) (hk1 : ¬ (hereM c.L σ.ts).kind = 1) (hd0 : 0 ≤ d) (hd : d < 64) {Y : Ex × Sr} (HU : ∀ W, Rs c W σ.step → Calls Tryd.prog 23 #[c.ptr, .int .i64 (d + 1)] W (RsPost c W Y (exR W.heap.size))) :
    Calls Tryd.prog 23 #[c.ptr, .int .i64 d] w (RsPost c w ((unX 18 (hereM c.L σ.ts).pos Y.1, Y.2)) (exR w.heap.size)) := by
  obtain ⟨t, ht⟩ : ∃ t, t = hereM c.L σ.ts := ⟨_, rfl⟩
  have HH : Hid (∀ W, Rs c W σ → Calls Tryd.prog 24 #[c.ptr] W fun e w' => e = .returned (tkV t) ∧ Below W.heap.size W w') := fun W R => by rw [ht]; exact r_hereS R
  have HIsub : Hid (∀ W, Rs c W σ → Calls Tryd.prog 45 #[c.ptr, .string ⟨#[45]⟩] W fun e w' => e = .returned (.bool false) ∧ Below W.heap.size W w') := fun W R => by rw [← hsub]; exact r_isS R ⟨#[45]⟩
  have HInot : Hid (∀ W, Rs c W σ → Calls Tryd.prog 45 #[c.ptr, .string ⟨#[33]⟩] W fun e w' => e = .returned (.bool true) ∧ Below W.heap.size W w') := fun W R => by rw [← hnot]; exact r_isS R ⟨#[33]⟩
  have HIpar : Hid (∀ W, Rs c W σ → Calls Tryd.prog 45 #[c.ptr, .string ⟨#[40]⟩] W fun e w' => e = .returned (.bool false) ∧ Below W.heap.size W w') := fun W R => by rw [← hpar]; exact r_isS R ⟨#[40]⟩
  have HT := Lib.hid ht
  have HS := Lib.hid R.s
  have A0 := Lib.hid (R.as.alloc (.cells zEx 26))
  have O0 := Lib.hid (Own.new w 26 zEx)
  have hX := Lib.hid R.lt
  have HO : Hid (∀ W, Rs c W σ → Calls Tryd.prog 13 #[c.ptr] W fun e w' => e = .returned (.bool true) ∧ Below W.heap.size W w') := fun W R => by rw [← hok]; exact r_okS R
  have q3 : (t.kind == 3) = false := by rw [ht]; simpa using hk3
  have q1 : (t.kind == 1) = false := by rw [ht]; simpa using hk1
  have HTpar : Hid (∀ W, Rs c W σ → Calls Tryd.prog 46 #[c.ptr, .string ⟨#[40]⟩] W fun e w' => e = .returned (.bool false) ∧ Fr c W w' ∧ Rs c w' σ) := fun W R => take_no R hpar
  have HTsub : Hid (∀ W, Rs c W σ → Calls Tryd.prog 46 #[c.ptr, .string ⟨#[45]⟩] W fun e w' => e = .returned (.bool false) ∧ Fr c W w' ∧ Rs c w' σ) := fun W R => take_no R hsub
  have HTnot : Hid (∀ W, Rs c W σ → Calls Tryd.prog 46 #[c.ptr, .string ⟨#[33]⟩] W fun e w' => e = .returned (.bool true) ∧ Fr c W w' ∧ Rs c w' σ.step) := fun W R => take_yes R hok hnot
  rw [← ht]
  have HU : Hid (∀ W, Rs c W σ.step → Calls Tryd.prog 23 #[c.ptr, .int .i64 (d + 1)] W (RsPost c W Y (exR W.heap.size))) := HU
  clear hok hk3 hk1 hsub hnot hpar
  clear ht R
  obtain ⟨tk, tx, tw, tp⟩ := t
  unfold tkV Par.ptr zEx at *
  go_enter Tryd.func23, Tryd.ntmps23
  go_wp2_with fail
  go_at_call 24
  refine (HH.out _ (A0.out.rs HS.out)).mono ?_
  rintro e w1 ⟨rfl, hb⟩
  have A := Lib.hid ((A0.out.below hb).alloc (.cells #[.int .u8 tk, .string tx, .int .i64 tw, .int .i64 tp] 69))
  have hz := (O0.out.below hb).lt
  have O0 := Lib.hid ((O0.out.below hb).alloc (.cells #[.int .u8 tk, .string tx, .int .i64 tw, .int .i64 tp] 69))
  have T1 := Lib.hid (Own.new w1 69 #[.int .u8 tk, .string tx, .int .i64 tw, .int .i64 tp])
  have HX : Hid (c.X ≠ w.heap.size ∧ c.X ≠ w1.heap.size) := by have := hX.out; simp only [Hid]; omega
  have HZ := Lib.hid hz
  clear hb hz A0
  go_upto_region 2 with (fail)
  obtain ⟨W1, hW1⟩ : ∃ W, W = w1.alloc (.cells #[.int .u8 tk, .string tx, .int .i64 tw, .int .i64 tp] 69) := ⟨_, rfl⟩
  rw [← hW1] at A O0 T1 ⊢
  clear hW1
  try simp only at q1 q3
  go_wp2_with fail
  go_at_call 45
  refine (HIsub.out _ (A.out.rs HS.out)).mono ?_
  rintro e w2 ⟨rfl, hb⟩
  have A := Lib.hid (A.out.below hb)
  have O0 := Lib.hid (O0.out.below hb)
  have T1 := Lib.hid (T1.out.below hb)
  clear hb
  go_wp2_with fail
  go_at_call 45
  refine (HInot.out _ (A.out.rs HS.out)).mono ?_
  rintro e w3 ⟨rfl, hb⟩
  have A := Lib.hid (A.out.below hb)
  have O0 := Lib.hid (O0.out.below hb)
  have T1 := Lib.hid (T1.out.below hb)
  clear hb
  go_wp2_with fail
  go_at_call 13
  refine (HO.out _ (A.out.rs HS.out)).mono ?_
  rintro e w4 ⟨rfl, hb⟩
  have A := Lib.hid (A.out.below hb)
  have O0 := Lib.hid (O0.out.below hb)
  have T1 := Lib.hid (T1.out.below hb)
  clear hb
  have t0 : w4.cell? ⟨w1.heap.size, 0, none⟩ = some (.int .u8 tk) := by rw [cell_of_row _ _ 0 _ _ _ T1.out]; rfl
  go_wp2_with fail
  go_at_call 46
  refine (HTpar.out _ (A.out.rs HS.out)).mono ?_
  rintro e w5 ⟨rfl, hf, hr⟩
  have A := Lib.hid (A.out.call hf hr)
  have O0 := Lib.hid (O0.out.fr hf HX.out.1)
  have T1 := Lib.hid (T1.out.fr hf HX.out.2)
  clear hf hr
  go_wp2_with fail
  go_at_call 46
  refine (HTsub.out _ (A.out.rs HS.out)).mono ?_
  rintro e w6 ⟨rfl, hf, hr⟩
  have A := Lib.hid (A.out.call hf hr)
  have O0 := Lib.hid (O0.out.fr hf HX.out.1)
  have T1 := Lib.hid (T1.out.fr hf HX.out.2)
  clear hf hr
  go_wp2_with fail
  go_at_call 46
  refine (HTnot.out _ (A.out.rs HS.out)).mono ?_
  rintro e w7 ⟨rfl, hf, hr⟩
  have A := Lib.hid (A.out.call hf hr)
  have O0 := Lib.hid (O0.out.fr hf HX.out.1)
  have T1 := Lib.hid (T1.out.fr hf HX.out.2)
  clear hf hr
  have hlt := T1.out.lt
  go_wp2_with fail
  go_at_call 23
  refine (HU.out _ (A.out.rs HS.out)).mono ?_
  obtain ⟨e0, σ4⟩ := Y
  rintro e w9 ⟨hf, v, rfl, ⟨a4, cap4, rfl, hV⟩, hr⟩
  have HV := Lib.hid (exsAt_mono (exsAt_stays (stays_alloc _ w9 (.cells #[.int .u8 e0.kind, .int .u8 e0.op, .int .i64 e0.wd, .string e0.name, .slice a4 e0.kids.length cap4, .int .i64 e0.pos] 26)) (fun b hb => hb) (exsAt_in hV)) (R' := fun b => w1.heap.size < b ∧ b < w9.heap.size) (fun b hb => ⟨by have := hb.1; omega, hb.2⟩))
  have h9 := Keep.size hf
  have A := Lib.hid ((A.out.call hf hr).alloc (.cells #[.int .u8 e0.kind, .int .u8 e0.op, .int .i64 e0.wd, .string e0.name, .slice a4 e0.kids.length cap4, .int .i64 e0.pos] 26))
  have O0 := Lib.hid ((O0.out.fr hf HX.out.1).alloc (.cells #[.int .u8 e0.kind, .int .u8 e0.op, .int .i64 e0.wd, .string e0.name, .slice a4 e0.kids.length cap4, .int .i64 e0.pos] 26))
  have T1 := Lib.hid ((T1.out.fr hf HX.out.2).alloc (.cells #[.int .u8 e0.kind, .int .u8 e0.op, .int .i64 e0.wd, .string e0.name, .slice a4 e0.kids.length cap4, .int .i64 e0.pos] 26))
  have E1 := Own.new w9 26 #[.int .u8 e0.kind, .int .u8 e0.op, .int .i64 e0.wd, .string e0.name, .slice a4 e0.kids.length cap4, .int .i64 e0.pos]
  have H9 : Hid (w1.heap.size < w9.heap.size) := by simp only [Hid]; omega
  have hz9 : Hid ((w9.alloc (.cells #[.int .u8 e0.kind, .int .u8 e0.op, .int .i64 e0.wd, .string e0.name, .slice a4 e0.kids.length cap4, .int .i64 e0.pos] 26)).heap.size = w9.heap.size + 1) := World.size_alloc _ _
  clear hf hr hV hlt h9
  go_upto_region 21 with (fail)
  obtain ⟨W5, hW5⟩ : ∃ W, W = w9.alloc (.cells #[.int .u8 e0.kind, .int .u8 e0.op, .int .i64 e0.wd, .string e0.name, .slice a4 e0.kids.length cap4, .int .i64 e0.pos] 26) := ⟨_, rfl⟩
  rw [← hW5] at A O0 T1 E1 HV hz9 ⊢
  clear hW5
  have t3 : W5.cell? ⟨w1.heap.size, 3, none⟩ = some (.int .i64 tp) := by rw [cell_of_row _ _ 3 _ _ _ T1.out]; rfl
  have lt := T1.out.lt
  have o0 := O0.out.alloc (.cells #[.int .u8 e0.kind, .int .u8 e0.op, .int .i64 e0.wd, .string e0.name, .slice a4 e0.kids.length cap4, .int .i64 e0.pos] 26)
  have N0 := Lib.hid (Own.new W5 26 #[.int .u8 e0.kind, .int .u8 e0.op, .int .i64 e0.wd, .string e0.name, .slice a4 e0.kids.length cap4, .int .i64 e0.pos])
  go_wp2_with (first | (refine ld rowEx rfl rfl rfl E1 rfl ?_) | (refine st rowEx rfl rfl o0 rfl rfl (by rfl) (by rfl) (by kernel_rfl) ?_))
  have hzz := HZ.out
  have h9 := H9.out
  have h9z := hz9.out
  have A4 := (A.out.alloc (.cells #[.int .u8 e0.kind, .int .u8 e0.op, .int .i64 e0.wd, .string e0.name, .slice a4 e0.kids.length cap4, .int .i64 e0.pos] 26)).setRow (g := w.heap.size) (Nat.le_refl _) HX.out.1 #[.int .u8 3, .int .u8 18, .int .i64 0, .string ⟨#[]⟩, .slice (some ⟨W5.heap.size, 0, none⟩) 1 1, .int .i64 tp]
  refine p_ret rowEx rfl (o0.row #[.int .u8 3, .int .u8 18, .int .i64 0, .string ⟨#[]⟩, .slice (some ⟨W5.heap.size, 0, none⟩) 1 1, .int .i64 tp]) rfl rfl rfl ?_
  refine ⟨A4.fr, _, rfl, ⟨_, _, rfl, ?_⟩, A4.rs HS.out⟩
  refine .inr ⟨W5.heap.size, 0, rfl, by show w.heap.size ≤ W5.heap.size; omega, ?_, trivial⟩
  have hst : Stays (fun b => w1.heap.size < b ∧ b < w9.heap.size) W5 ((W5.alloc (.cells #[.int .u8 e0.kind, .int .u8 e0.op, .int .i64 e0.wd, .string e0.name, .slice a4 e0.kids.length cap4, .int .i64 e0.pos] 26)).setRow w.heap.size #[.int .u8 3, .int .u8 18, .int .i64 0, .string ⟨#[]⟩, .slice (some ⟨W5.heap.size, 0, none⟩) 1 1, .int .i64 tp]) := (stays_alloc _ W5 _).trans (stays_row _ _ (fun b hb => by have := hb.1; omega))
  refine exIn_of (vs := exCells e0 a4 cap4) ⟨a4, cap4, rfl, exsAt_stays hst (fun b hb => by have := hb.1; omega) HV.out⟩ ?_
  have N1 := N0.out.other #[.int .u8 3, .int .u8 18, .int .i64 0, .string ⟨#[]⟩, .slice (some ⟨W5.heap.size, 0, none⟩) 1 1, .int .i64 tp] (g := w.heap.size) (by omega)
  intro j v hj
  rw [Nat.zero_add, cell_of_row _ W5.heap.size j _ _ _ N1, ← hj]
  simp [exCells]
set_option maxRecDepth 100000 in
set_option maxHeartbeats 4000000 in
theorem un_par {c : Par} {w : World} {σ : Sr} {d : Int} (R : Rs c w σ) (hsub : isK c.L [45] σ.ts = false) (hnot : isK c.L [33] σ.ts = false) (hpar : isK c.L [40] σ.ts = true) (hok : σ.ok = true) (hk3 : ¬ (hereM c.L σ.ts).kind = 3) (hk1 : ¬ (hereM c.L σ.ts).kind = 1) (hd0 : 0 ≤ d) (hd : d < 64) {Y : Ex × Sr} (HU : ∀ W, Rs c W σ.step → Calls Tryd.prog 12 #[c.ptr, .int .i64 1, .int .i64 (d + 1)] W (RsPost c W Y (exR W.heap.size))) :
    Calls Tryd.prog 23 #[c.ptr, .int .i64 d] w (RsPost c w ((Y.1, Y.2.want c.L [41])) (exR w.heap.size)) := by
  obtain ⟨t, ht⟩ : ∃ t, t = hereM c.L σ.ts := ⟨_, rfl⟩
  have HH : Hid (∀ W, Rs c W σ → Calls Tryd.prog 24 #[c.ptr] W fun e w' => e = .returned (tkV t) ∧ Below W.heap.size W w') := fun W R => by rw [ht]; exact r_hereS R
  have HIsub : Hid (∀ W, Rs c W σ → Calls Tryd.prog 45 #[c.ptr, .string ⟨#[45]⟩] W fun e w' => e = .returned (.bool false) ∧ Below W.heap.size W w') := fun W R => by rw [← hsub]; exact r_isS R ⟨#[45]⟩
  have HInot : Hid (∀ W, Rs c W σ → Calls Tryd.prog 45 #[c.ptr, .string ⟨#[33]⟩] W fun e w' => e = .returned (.bool false) ∧ Below W.heap.size W w') := fun W R => by rw [← hnot]; exact r_isS R ⟨#[33]⟩
  have HIpar : Hid (∀ W, Rs c W σ → Calls Tryd.prog 45 #[c.ptr, .string ⟨#[40]⟩] W fun e w' => e = .returned (.bool true) ∧ Below W.heap.size W w') := fun W R => by rw [← hpar]; exact r_isS R ⟨#[40]⟩
  have HT := Lib.hid ht
  have HS := Lib.hid R.s
  have A0 := Lib.hid (R.as.alloc (.cells zEx 26))
  have O0 := Lib.hid (Own.new w 26 zEx)
  have hX := Lib.hid R.lt
  have HO : Hid (∀ W, Rs c W σ → Calls Tryd.prog 13 #[c.ptr] W fun e w' => e = .returned (.bool true) ∧ Below W.heap.size W w') := fun W R => by rw [← hok]; exact r_okS R
  have q3 : (t.kind == 3) = false := by rw [ht]; simpa using hk3
  have q1 : (t.kind == 1) = false := by rw [ht]; simpa using hk1
  have HTpar : Hid (∀ W, Rs c W σ → Calls Tryd.prog 46 #[c.ptr, .string ⟨#[40]⟩] W fun e w' => e = .returned (.bool true) ∧ Fr c W w' ∧ Rs c w' σ.step) := fun W R => take_yes R hok hpar
  have HU : Hid (∀ W, Rs c W σ.step → Calls Tryd.prog 12 #[c.ptr, .int .i64 1, .int .i64 (d + 1)] W (RsPost c W Y (exR W.heap.size))) := HU
  have HW : Hid (∀ W, Rs c W Y.2 → Calls Tryd.prog 47 #[c.ptr, .string ⟨#[41]⟩] W fun e w' => e = .returned (.tuple #[]) ∧ Fr c W w' ∧ Rs c w' (Y.2.want c.L [41])) := fun W R => r_want R ⟨#[41]⟩
  clear hok hk3 hk1 hsub hnot hpar
  clear ht R
  obtain ⟨tk, tx, tw, tp⟩ := t
  unfold tkV Par.ptr zEx at *
  go_enter Tryd.func23, Tryd.ntmps23
  go_wp2_with fail
  go_at_call 24
  refine (HH.out _ (A0.out.rs HS.out)).mono ?_
  rintro e w1 ⟨rfl, hb⟩
  have A := Lib.hid ((A0.out.below hb).alloc (.cells #[.int .u8 tk, .string tx, .int .i64 tw, .int .i64 tp] 69))
  have hz := (O0.out.below hb).lt
  have O0 := Lib.hid ((O0.out.below hb).alloc (.cells #[.int .u8 tk, .string tx, .int .i64 tw, .int .i64 tp] 69))
  have T1 := Lib.hid (Own.new w1 69 #[.int .u8 tk, .string tx, .int .i64 tw, .int .i64 tp])
  have HX : Hid (c.X ≠ w.heap.size ∧ c.X ≠ w1.heap.size) := by have := hX.out; simp only [Hid]; omega
  have HZ := Lib.hid hz
  clear hb hz A0
  go_upto_region 2 with (fail)
  obtain ⟨W1, hW1⟩ : ∃ W, W = w1.alloc (.cells #[.int .u8 tk, .string tx, .int .i64 tw, .int .i64 tp] 69) := ⟨_, rfl⟩
  rw [← hW1] at A O0 T1 ⊢
  clear hW1
  try simp only at q1 q3
  go_wp2_with fail
  go_at_call 45
  refine (HIsub.out _ (A.out.rs HS.out)).mono ?_
  rintro e w2 ⟨rfl, hb⟩
  have A := Lib.hid (A.out.below hb)
  have O0 := Lib.hid (O0.out.below hb)
  have T1 := Lib.hid (T1.out.below hb)
  clear hb
  go_wp2_with fail
  go_at_call 45
  refine (HInot.out _ (A.out.rs HS.out)).mono ?_
  rintro e w3 ⟨rfl, hb⟩
  have A := Lib.hid (A.out.below hb)
  have O0 := Lib.hid (O0.out.below hb)
  have T1 := Lib.hid (T1.out.below hb)
  clear hb
  go_wp2_with fail
  go_at_call 45
  refine (HIpar.out _ (A.out.rs HS.out)).mono ?_
  rintro e w4 ⟨rfl, hb⟩
  have A := Lib.hid (A.out.below hb)
  have O0 := Lib.hid (O0.out.below hb)
  have T1 := Lib.hid (T1.out.below hb)
  clear hb
  go_wp2_with fail
  go_at_call 13
  refine (HO.out _ (A.out.rs HS.out)).mono ?_
  rintro e w5 ⟨rfl, hb⟩
  have A := Lib.hid (A.out.below hb)
  have O0 := Lib.hid (O0.out.below hb)
  have T1 := Lib.hid (T1.out.below hb)
  clear hb
  have t0 : w5.cell? ⟨w1.heap.size, 0, none⟩ = some (.int .u8 tk) := by rw [cell_of_row _ _ 0 _ _ _ T1.out]; rfl
  go_wp2_with fail
  go_at_call 46
  refine (HTpar.out _ (A.out.rs HS.out)).mono ?_
  rintro e w6 ⟨rfl, hf, hr⟩
  have A := Lib.hid (A.out.call hf hr)
  have O0 := Lib.hid (O0.out.fr hf HX.out.1)
  have T1 := Lib.hid (T1.out.fr hf HX.out.2)
  clear hf hr
  have hlt := T1.out.lt
  go_wp2_with fail
  go_at_call 12
  refine (HU.out _ (A.out.rs HS.out)).mono ?_
  obtain ⟨e0, σ4⟩ := Y
  rintro e w9 ⟨hf, v, rfl, ⟨a4, cap4, rfl, hV⟩, hr⟩
  have HV := Lib.hid (exsAt_mono (exsAt_stays (stays_alloc _ w9 (.cells #[.int .u8 e0.kind, .int .u8 e0.op, .int .i64 e0.wd, .string e0.name, .slice a4 e0.kids.length cap4, .int .i64 e0.pos] 26)) (fun b hb => hb) (exsAt_in hV)) (R' := fun b => w1.heap.size < b ∧ b < w9.heap.size) (fun b hb => ⟨by have := hb.1; omega, hb.2⟩))
  have h9 := Keep.size hf
  have A := Lib.hid ((A.out.call hf hr).alloc (.cells #[.int .u8 e0.kind, .int .u8 e0.op, .int .i64 e0.wd, .string e0.name, .slice a4 e0.kids.length cap4, .int .i64 e0.pos] 26))
  have O0 := Lib.hid ((O0.out.fr hf HX.out.1).alloc (.cells #[.int .u8 e0.kind, .int .u8 e0.op, .int .i64 e0.wd, .string e0.name, .slice a4 e0.kids.length cap4, .int .i64 e0.pos] 26))
  have E1 := Lib.hid (Own.new w9 26 #[.int .u8 e0.kind, .int .u8 e0.op, .int .i64 e0.wd, .string e0.name, .slice a4 e0.kids.length cap4, .int .i64 e0.pos])
  have H9 : Hid (w1.heap.size < w9.heap.size) := by simp only [Hid]; omega
  have HX9 : Hid (c.X ≠ w9.heap.size) := by have := hX.out; have := HZ.out; simp only [Hid]; omega
  clear hf hr hV hlt h9
  go_upto_region 14 with (fail)
  obtain ⟨W5, hW5⟩ : ∃ W, W = w9.alloc (.cells #[.int .u8 e0.kind, .int .u8 e0.op, .int .i64 e0.wd, .string e0.name, .slice a4 e0.kids.length cap4, .int .i64 e0.pos] 26) := ⟨_, rfl⟩
  rw [← hW5] at A O0 E1 HV ⊢
  clear hW5
  go_wp2_with fail
  go_at_call 47
  refine (HW.out _ (A.out.rs HS.out)).mono ?_
  rintro e w10 ⟨rfl, hf, hr⟩
  have A := Lib.hid (A.out.call hf hr)
  have o0 := O0.out.fr hf HX.out.1
  have e1 := E1.out.fr hf HX9.out
  have HV := Lib.hid (exsAt_stays (stays_fr hf (fun b hb => by have := hX.out; have := HZ.out; have := hb.1; omega)) (fun b hb => hb) HV.out)
  clear hf hr
  go_wp2_with (first | (refine ld rowEx rfl rfl rfl e1 rfl ?_) | (refine st rowEx rfl rfl o0 rfl rfl (by rfl) (by rfl) (by kernel_rfl) ?_))
  have A4 := A.out.setRow (g := w.heap.size) (Nat.le_refl _) HX.out.1 #[.int .u8 e0.kind, .int .u8 e0.op, .int .i64 e0.wd, .string e0.name, .slice a4 e0.kids.length cap4, .int .i64 e0.pos]
  refine p_ret rowEx rfl (o0.row #[.int .u8 e0.kind, .int .u8 e0.op, .int .i64 e0.wd, .string e0.name, .slice a4 e0.kids.length cap4, .int .i64 e0.pos]) rfl rfl rfl ?_
  have hzz := HZ.out
  exact ⟨A4.fr, _, rfl, ⟨a4, cap4, rfl, exsAt_stays (stays_row _ _ (fun b hb => by have := hb.1; omega)) (fun b hb => by have := hb.1; omega) HV.out⟩, A4.rs HS.out⟩
set_option maxRecDepth 100000 in
set_option maxHeartbeats 4000000 in
theorem un_none {c : Par} {w : World} {σ : Sr} {d : Int} (R : Rs c w σ) (hsub : isK c.L [45] σ.ts = false) (hnot : isK c.L [33] σ.ts = false) (hpar : isK c.L [40] σ.ts = false) (hok : σ.ok = true) (hk3 : ¬ (hereM c.L σ.ts).kind = 3) (hk1 : ¬ (hereM c.L σ.ts).kind = 1) :
    Calls Tryd.prog 23 #[c.ptr, .int .i64 d] w (RsPost c w ((zE, σ.fail c.L 2)) (exR w.heap.size)) := by
  obtain ⟨t, ht⟩ : ∃ t, t = hereM c.L σ.ts := ⟨_, rfl⟩
  have HH : Hid (∀ W, Rs c W σ → Calls Tryd.prog 24 #[c.ptr] W fun e w' => e = .returned (tkV t) ∧ Below W.heap.size W w') := fun W R => by rw [ht]; exact r_hereS R
  have HIsub : Hid (∀ W, Rs c W σ → Calls Tryd.prog 45 #[c.ptr, .string ⟨#[45]⟩] W fun e w' => e = .returned (.bool false) ∧ Below W.heap.size W w') := fun W R => by rw [← hsub]; exact r_isS R ⟨#[45]⟩
  have HInot : Hid (∀ W, Rs c W σ → Calls Tryd.prog 45 #[c.ptr, .string ⟨#[33]⟩] W fun e w' => e = .returned (.bool false) ∧ Below W.heap.size W w') := fun W R => by rw [← hnot]; exact r_isS R ⟨#[33]⟩
  have HIpar : Hid (∀ W, Rs c W σ → Calls Tryd.prog 45 #[c.ptr, .string ⟨#[40]⟩] W fun e w' => e = .returned (.bool false) ∧ Below W.heap.size W w') := fun W R => by rw [← hpar]; exact r_isS R ⟨#[40]⟩
  have HT := Lib.hid ht
  have HS := Lib.hid R.s
  have A0 := Lib.hid (R.as.alloc (.cells zEx 26))
  have O0 := Lib.hid (Own.new w 26 zEx)
  have hX := Lib.hid R.lt
  have HO : Hid (∀ W, Rs c W σ → Calls Tryd.prog 13 #[c.ptr] W fun e w' => e = .returned (.bool true) ∧ Below W.heap.size W w') := fun W R => by rw [← hok]; exact r_okS R
  have q3 : (t.kind == 3) = false := by rw [ht]; simpa using hk3
  have q1 : (t.kind == 1) = false := by rw [ht]; simpa using hk1
  have HTpar : Hid (∀ W, Rs c W σ → Calls Tryd.prog 46 #[c.ptr, .string ⟨#[40]⟩] W fun e w' => e = .returned (.bool false) ∧ Fr c W w' ∧ Rs c w' σ) := fun W R => take_no R hpar
  have HTsub : Hid (∀ W, Rs c W σ → Calls Tryd.prog 46 #[c.ptr, .string ⟨#[45]⟩] W fun e w' => e = .returned (.bool false) ∧ Fr c W w' ∧ Rs c w' σ) := fun W R => take_no R hsub
  have HTnot : Hid (∀ W, Rs c W σ → Calls Tryd.prog 46 #[c.ptr, .string ⟨#[33]⟩] W fun e w' => e = .returned (.bool false) ∧ Fr c W w' ∧ Rs c w' σ) := fun W R => take_no R hnot
  have HF : Hid (∀ W, Rs c W σ → Calls Tryd.prog 14 #[c.ptr, .int .i64 2] W fun e w' => e = .returned (.tuple #[]) ∧ Fr c W w' ∧ Rs c w' (σ.fail c.L 2)) := fun W R => r_fail R 2
  clear hok hk3 hk1 hsub hnot hpar
  clear ht R
  obtain ⟨tk, tx, tw, tp⟩ := t
  unfold tkV Par.ptr zEx at *
  go_enter Tryd.func23, Tryd.ntmps23
  go_wp2_with fail
  go_at_call 24
  refine (HH.out _ (A0.out.rs HS.out)).mono ?_
  rintro e w1 ⟨rfl, hb⟩
  have A := Lib.hid ((A0.out.below hb).alloc (.cells #[.int .u8 tk, .string tx, .int .i64 tw, .int .i64 tp] 69))
  have hz := (O0.out.below hb).lt
  have O0 := Lib.hid ((O0.out.below hb).alloc (.cells #[.int .u8 tk, .string tx, .int .i64 tw, .int .i64 tp] 69))
  have T1 := Lib.hid (Own.new w1 69 #[.int .u8 tk, .string tx, .int .i64 tw, .int .i64 tp])
  have HX : Hid (c.X ≠ w.heap.size ∧ c.X ≠ w1.heap.size) := by have := hX.out; simp only [Hid]; omega
  have HZ := Lib.hid hz
  clear hb hz A0
  go_upto_region 2 with (fail)
  obtain ⟨W1, hW1⟩ : ∃ W, W = w1.alloc (.cells #[.int .u8 tk, .string tx, .int .i64 tw, .int .i64 tp] 69) := ⟨_, rfl⟩
  rw [← hW1] at A O0 T1 ⊢
  clear hW1
  try simp only at q1 q3
  go_wp2_with fail
  go_at_call 45
  refine (HIsub.out _ (A.out.rs HS.out)).mono ?_
  rintro e w2 ⟨rfl, hb⟩
  have A := Lib.hid (A.out.below hb)
  have O0 := Lib.hid (O0.out.below hb)
  have T1 := Lib.hid (T1.out.below hb)
  clear hb
  go_wp2_with fail
  go_at_call 45
  refine (HInot.out _ (A.out.rs HS.out)).mono ?_
  rintro e w3 ⟨rfl, hb⟩
  have A := Lib.hid (A.out.below hb)
  have O0 := Lib.hid (O0.out.below hb)
  have T1 := Lib.hid (T1.out.below hb)
  clear hb
  go_wp2_with fail
  go_at_call 45
  refine (HIpar.out _ (A.out.rs HS.out)).mono ?_
  rintro e w4 ⟨rfl, hb⟩
  have A := Lib.hid (A.out.below hb)
  have O0 := Lib.hid (O0.out.below hb)
  have T1 := Lib.hid (T1.out.below hb)
  clear hb
  go_wp2_with fail
  go_at_call 13
  refine (HO.out _ (A.out.rs HS.out)).mono ?_
  rintro e w5 ⟨rfl, hb⟩
  have A := Lib.hid (A.out.below hb)
  have O0 := Lib.hid (O0.out.below hb)
  have T1 := Lib.hid (T1.out.below hb)
  clear hb
  have t0 : w5.cell? ⟨w1.heap.size, 0, none⟩ = some (.int .u8 tk) := by rw [cell_of_row _ _ 0 _ _ _ T1.out]; rfl
  go_wp2_with fail
  go_at_call 46
  refine (HTpar.out _ (A.out.rs HS.out)).mono ?_
  rintro e w6 ⟨rfl, hf, hr⟩
  have A := Lib.hid (A.out.call hf hr)
  have O0 := Lib.hid (O0.out.fr hf HX.out.1)
  have T1 := Lib.hid (T1.out.fr hf HX.out.2)
  clear hf hr
  go_wp2_with fail
  go_at_call 46
  refine (HTsub.out _ (A.out.rs HS.out)).mono ?_
  rintro e w7 ⟨rfl, hf, hr⟩
  have A := Lib.hid (A.out.call hf hr)
  have O0 := Lib.hid (O0.out.fr hf HX.out.1)
  have T1 := Lib.hid (T1.out.fr hf HX.out.2)
  clear hf hr
  go_wp2_with fail
  go_at_call 46
  refine (HTnot.out _ (A.out.rs HS.out)).mono ?_
  rintro e w8 ⟨rfl, hf, hr⟩
  have A := Lib.hid (A.out.call hf hr)
  have O0 := Lib.hid (O0.out.fr hf HX.out.1)
  have T1 := Lib.hid (T1.out.fr hf HX.out.2)
  clear hf hr
  go_wp2_with fail
  go_at_call 14
  refine (HF.out _ (A.out.rs HS.out)).mono ?_
  rintro e w9 ⟨rfl, hf, hr⟩
  have A := Lib.hid (A.out.call hf hr)
  have O0 := Lib.hid (O0.out.fr hf HX.out.1)
  have T1 := Lib.hid (T1.out.fr hf HX.out.2)
  clear hf hr
  have o0 := O0.out
  go_wp2_with (first | (refine st rowEx rfl rfl o0 rfl rfl (by rfl) (by rfl) (by kernel_rfl) ?_))
  have A := A.out.setRow (Nat.le_refl _) HX.out.1 #[.int .u8 0, .int .u8 0, .int .i64 0, .string ⟨#[]⟩, .slice none 0 0, .int .i64 0]
  refine p_ret rowEx rfl (o0.row #[.int .u8 0, .int .u8 0, .int .i64 0, .string ⟨#[]⟩, .slice none 0 0, .int .i64 0]) rfl rfl rfl ?_
  exact ⟨A.fr, _, rfl, ⟨none, 0, rfl, .inl rfl⟩, A.rs HS.out⟩
end Go.Proofs.YtgaibdipecngkaaDoor

namespace Go.Proofs.YtgaibdipecngkaaDoor
open Go.RowKit
set_option linter.unusedVariables false
section
variable {P : Program} {md : Region.Mode} {ops : Array Oper} {Q : Exit → Act → World → Prop} {S : World → Prop} {fuel : Nat} {listed : Array Bool} {a : Act} {w : World}
theorem wanted_free {o : Oper} (h : o.guard = none) (y : Nat → Option Bool) : Region.wanted o y = true := by simp [Region.wanted, h]
/-- A quiet operation, first. -/
theorem dr_take (i : Nat) {oi : Oper} (v : Value) (hi : ops[i]? = some oi) (hg : oi.guard = none) (hs : Region.noSelect ops = true) (hf : Region.free md ops listed i = true) (hr : (Region.ready md ops listed).contains i = true)
    (hQ : ∀ c a w, Q (.panic c) (a.put oi.dst v) w → Q (.panic c) a w) (hrun : ∀ w, S w → (execOp a.eval oi).run P w = .ok (.value v) w) (hS : S w)
    (h : wpAnyH P md ops Q S fuel (listed.setIfInBounds i true) (a.put oi.dst v) w) : wpAnyH P md ops Q S (fuel + 1) listed a w :=
  wpAnyH_take hi hs hf hr hQ (.inl ⟨by simp [Region.wanted, hg], hrun⟩) hS h
/-- One operation alone may come up. -/
theorem dr_one (i : Nat) {oi : Oper} (hi : ops[i]? = some oi) (hg : oi.guard = none) (hr : Region.ready md ops listed = [i])
    (h : oi.wp P a w (fun a' w' => S w' ∧ wpAnyH P md ops Q S fuel (listed.setIfInBounds i true) a' w') Q) : wpAnyH P md ops Q S (fuel + 1) listed a w := by
  refine wpAnyH_all hr (by simp) fun j hj => ?_
  obtain rfl : j = i := by simpa using hj
  unfold wpOp
  simp only [hi, Region.wanted, hg]
  exact .inl h
/-- Two operations may come up. -/
theorem dr_two (i k : Nat) {oi ok : Oper} (hi : ops[i]? = some oi) (hk : ops[k]? = some ok) (hg : oi.guard = none) (hgk : ok.guard = none) (hr : Region.ready md ops listed = [i, k])
    (h : oi.wp P a w (fun a' w' => S w' ∧ wpAnyH P md ops Q S fuel (listed.setIfInBounds i true) a' w') Q)
    (h' : ok.wp P a w (fun a' w' => S w' ∧ wpAnyH P md ops Q S fuel (listed.setIfInBounds k true) a' w') Q) : wpAnyH P md ops Q S (fuel + 1) listed a w := by
  refine wpAnyH_all hr (by simp) fun j hj => ?_
  have hj' : j = i ∨ j = k := by simpa using hj
  unfold wpOp
  rcases hj' with rfl | rfl
  · simp only [hi, Region.wanted, hg]; exact .inl h
  · simp only [hk, Region.wanted, hgk]; exact .inl h'
/-- A call. -/
theorem wp_call {o : Oper} {K : Act → World → Prop} {x : Operand} {args : Array Operand} {ts : Array TypeId} (ho : o.op = .call { callee := .value x, args := args, argTypes := ts }) {f : FuncId} {fst cap : Array Value} (hx : a.eval x = .func (.func f) fst cap) (hE : ∀ (args : Array Value) (w : World), (callFunc f args).run P w = .ok (.enter f args) w)
    {vs : Array Value} (hv : fst ++ args.map a.eval ++ cap = vs) {R : Ending → World → Prop} (hc : Calls P f vs w R) (hk : ∀ e w', R e w' → (match e with | .returned v => K (a.put o.dst v) w' | .panicked ch => Q (.panic ch) a w' | .outgrown => LetsOut Q)) : o.wp P a w K Q := by
  have h1 : ∀ ty, resolve a.eval { callee := .value x, args := args, argTypes := ts } ty = pure { target := .fn (.func f) cap, args := fst ++ args.map a.eval } := fun ty => by
    unfold resolve
    simp only [hx]
    rfl
  have hrun : (execOp a.eval o).run P w = .ok (.enter f vs) w := by
    unfold execOp
    simp only [ho, h1]
    obtain ⟨us, hus⟩ : ∃ us, us = args.map a.eval := ⟨_, rfl⟩
    rw [← hus] at hv ⊢
    simp [invoke, go_sem, hE, hv]
  unfold Oper.wp
  rw [hrun, Oper.upon_enter]
  exact hc.mono fun e w' h => by have := hk e w' h; cases e <;> exact this
end
theorem run_ld {o : Oper} {a : Act} {w : World} {T : TypeId} {n : Nat} (hT : RowT T n) {x : Operand} (ho : o.op = .load T x) {g : Nat} (hx : a.eval x = .pointer (some ⟨g, 0, none⟩)) {cs : Array Value} (hg : Own w g T cs) (hn : cs.size = n) : (execOp a.eval o).run Tryd.prog w = .ok (.value (.agg cs)) w := by
  obtain ⟨d, h1, h2, h3⟩ := hT
  unfold execOp
  simp only [ho, hx, Instr.loadAt, Instr.sureAddr, Sem.run_bind, Sem.run_pure, Result.andThen_ok, run_loadVar_row w g T T cs (0, 0) d hg h1 (by cases d <;> first | rfl | cases h2) (by rw [h3, hn])]
set_option maxHeartbeats 1000000 in
theorem wp_alloc_ex {o : Oper} {a : Act} {w : World} {K : Act → World → Prop} {Q : Exit → Act → World → Prop} (ho : o.op = .alloc 26) (h : K (a.put o.dst (.pointer (some ⟨w.heap.size, 0, none⟩))) (w.alloc (.cells zEx 26))) : o.wp Tryd.prog a w K Q := by
  have hrun : (execOp a.eval o).run Tryd.prog w = .ok (.value (.pointer (some ⟨w.heap.size, 0, none⟩))) (w.alloc (.cells zEx 26)) := by
    unfold execOp
    simp only [ho]
    go_simp
    rfl
  unfold Oper.wp
  rw [hrun]
  exact h
end Go.Proofs.YtgaibdipecngkaaDoor

namespace Go.Proofs.YtgaibdipecngkaaDoor
open Go.RowKit
set_option linter.unusedVariables false

/-- The contract of operand, with so much fuel. -/
def OpndC (n : Nat) : Prop := ∀ (c : Par) (w : World) (k : Nat) (d : Int), Rd c w k → 0 ≤ d → d ≤ 64 → 3 * (c.at k).length + 1 ≤ n →
  Calls Tryd.prog 41 #[c.ptr, .int .i64 d] w (RdPost c w (opnd fnd c.L n d (c.at k)) (exR w.heap.size))
/-- The contract of binary. -/
def BinC (n : Nat) : Prop := ∀ (c : Par) (w : World) (k : Nat) (v d : Int), Rd c w k → 1 ≤ v → v ≤ 9 → 0 ≤ d → d ≤ 64 → 3 * (c.at k).length + 2 ≤ n →
  Calls Tryd.prog 21 #[c.ptr, .int .i64 v, .int .i64 d] w (RdPost c w (binE fnd c.L n v d (c.at k)) (exR w.heap.size))
/-- What holds in operands of one, within their function. -/
structure UnG (c : Par) (w : World) (b : Nat) (op : Int) (t : Tk) (W : World) (j : Nat) : Prop where
  run : At c w W j
  box : W.cell? ⟨b, 0, none⟩ = some (.pointer (some ⟨c.X, 0, none⟩))
  opr : W.cell? ⟨b + 1, 0, none⟩ = some (.int .u8 op)
  tok : Own W w.heap.size 69 #[.int .u8 t.kind, .string t.text, .int .i64 t.wd, .int .i64 t.pos]
  res : Own W (w.heap.size + 1) 26 zEx
section
variable {c : Par} {w W W' : World} {b : Nat} {op : Int} {t : Tk} {j k2 : Nat}
theorem UnG.below (h : UnG c w b op t W j) (hb : Below W.heap.size W W') : UnG c w b op t W' j :=
  ⟨h.run.below hb, (hb.cell (p := ⟨b, 0, none⟩) (by have := cell_lt h.box; simpa using this)).trans h.box, (hb.cell (p := ⟨b + 1, 0, none⟩) (by have := cell_lt h.opr; simpa using this)).trans h.opr, h.tok.below hb, h.res.below hb⟩
theorem UnG.alloc (h : UnG c w b op t W j) (o : Obj) : UnG c w b op t (W.alloc o) j := h.below ((Below.refl _ W).alloc (Nat.le_refl _) o)
theorem UnG.drew (h : UnG c w b op t W j) : UnG c w b op t W.drew j := ⟨h.run.drew, h.box, h.opr, h.tok, h.res⟩
theorem UnG.call (h : UnG c w b op t W j) (hf : Fr c W W') (hp : At c w W' k2) (hX : c.X < w.heap.size) (h1 : b ≠ c.X) (h2 : b + 1 ≠ c.X) : UnG c w b op t W' k2 :=
  ⟨hp, (hf.cell (by have := cell_lt h.box; simpa using this) h1).trans h.box, (hf.cell (by have := cell_lt h.opr; simpa using this) h2).trans h.opr, h.tok.fr hf (by omega), h.res.fr hf (by omega)⟩
theorem UnG.row (h : UnG c w b op t W j) (cs : Array Value) {g : Nat} (hg : w.heap.size + 1 < g) (hX : c.X < w.heap.size) (h1 : b ≠ c.X) (h2 : b + 1 ≠ c.X) (hb : b + 1 < w.heap.size) : UnG c w b op t (W.setRow g cs) j := by
  have e : ∀ x, x ≠ g → (W.setRow g cs).cell? ⟨x, 0, none⟩ = W.cell? ⟨x, 0, none⟩ := fun x hx => by
    have := setRow_other (W := W) cs hx
    simp only [World.cell?, this]
  exact ⟨h.run.setRow (by omega) (by omega) cs, (e b (by omega)).trans h.box, (e (b + 1) (by omega)).trans h.opr, h.tok.other cs (by omega), h.res.other cs (by omega)⟩
end
set_option maxRecDepth 100000 in
set_option maxHeartbeats 4000000 in
theorem p_unary {n : Nat} (H : OpndC n) {c : Par} {w : World} {k : Nat} (R : Rd c w k) (t : Tk) (d op : Int) (b : Nat) (h0 : 0 ≤ d) (h1 : d < 64) (hn : 3 * (c.at k).length + 1 ≤ n) (hb1 : Own w b 39 #[c.ptr]) (hb2 : Own w (b + 1) 23 #[.int .u8 op]) (hx0 : b ≠ c.X) (hx1 : b + 1 ≠ c.X) :
    Calls Tryd.prog 63 #[tkV t, .int .i64 d, .pointer (some ⟨b, 0, none⟩), .pointer (some ⟨b + 1, 0, none⟩)] w
      (RdPost c w ((opnd fnd c.L n (d + 1) (c.at k)).then fun e r => .ok (unX op t.pos e) r) (exR w.heap.size)) := by
  obtain ⟨Y, hY⟩ : ∃ Y, Y = opnd fnd c.L n (d + 1) (c.at k) := ⟨_, rfl⟩
  have HC : Hid (∀ W, Rd c W k → Calls Tryd.prog 41 #[c.ptr, .int .i64 (d + 1)] W (RdPost c W Y (exR W.heap.size))) := fun W RW => by rw [hY]; exact H c W k (d + 1) RW (by omega) (by omega) hn
  have HR := Lib.hid R
  rw [← hY]
  obtain ⟨tk, tx, tw, tp⟩ := t
  have hd := Lib.hid (fun W => p_deeper_ok ⟨tk, tx, tw, tp⟩ d h0 h1 W)
  have c1 : w.cell? ⟨b, 0, none⟩ = some c.ptr := by rw [cell_of_row w b 0 _ _ _ hb1]; rfl
  have c2 : w.cell? ⟨b + 1, 0, none⟩ = some (.int .u8 op) := by rw [cell_of_row w (b + 1) 0 _ _ _ hb2]; rfl
  have hX := Lib.hid R.lt
  have HX := Lib.hid (And.intro hx0 hx1)
  have HL := Lib.hid (And.intro hb1.lt hb2.lt)
  clear hY H R hn hb1 hb2 hx0 hx1
  unfold tkV Par.ptr at *
  go_enter Tryd.func63, Tryd.ntmps63
  go_wp2_with fail
  have G0 : UnG c w b op ⟨tk, tx, tw, tp⟩ ((w.alloc (.cells #[.int .u8 tk, .string tx, .int .i64 tw, .int .i64 tp] 69)).alloc (.cells zEx 26)).drew k := by
    have hb := ((Below.refl w.heap.size w).alloc (Nat.le_refl _) (.cells #[.int .u8 tk, .string tx, .int .i64 tw, .int .i64 tp] 69)).alloc (by simp) (.cells zEx 26)
    have o2 := Own.new (w.alloc (.cells #[.int .u8 tk, .string tx, .int .i64 tw, .int .i64 tp] 69)) 26 zEx
    rw [World.size_alloc] at o2
    exact UnG.drew ⟨((At.start HR.out).alloc _).alloc _, (hb.cell (p := ⟨b, 0, none⟩) HL.out.1).trans c1, (hb.cell (p := ⟨b + 1, 0, none⟩) HL.out.2).trans c2, (Own.new w _ _).alloc _, o2⟩
  rename_i Q1 K1 hK1
  have tail : ∀ (g : Nat) (W : World) (e0 : Ex) (a4 : Option Addr) (cap4 k2 : Nat), Y = .ok e0 (c.at k2) → UnG c w b op ⟨tk, tx, tw, tp⟩ W k2 → Own W g 26 #[.int .u8 e0.kind, .int .u8 e0.op, .int .i64 e0.wd, .string e0.name, .slice a4 e0.kids.length cap4, .int .i64 e0.pos] → w.heap.size + 1 < g → exsAt (fun b => w.heap.size + 1 < b ∧ b ≠ g) W e0.kids a4 →
      K1 { tmps := #[.agg #[.int .u8 tk, .string tx, .int .i64 tw, .int .i64 tp], .int .i64 d, .pointer (some ⟨b, 0, none⟩), .pointer (some ⟨b + 1, 0, none⟩), .pointer (some ⟨w.heap.size, 0, none⟩), undef, .pointer (some ⟨w.heap.size + 1, 0, none⟩), .pointer (some ⟨g, 0, none⟩), .pointer (some ⟨c.X, 0, none⟩), .agg #[.int .u8 tk, .string tx, .int .i64 tw, .int .i64 tp], .int .i64 d, .int .i64 (d + 1),
        .agg #[.int .u8 e0.kind, .int .u8 e0.op, .int .i64 e0.wd, .string e0.name, .slice a4 e0.kids.length cap4, .int .i64 e0.pos], undef, undef, undef, undef, undef, undef], defers := [] } W := by
    intro g W e0 a4 cap4 k2 hY hG hg hlt hV
    subst hY
    have HG := Lib.hid hG
    have HV := Lib.hid hV
    have HLT := Lib.hid hlt
    have co := hG.opr
    have ct : W.cell? ⟨w.heap.size, 3, none⟩ = some (.int .i64 tp) := by rw [cell_of_row W w.heap.size 3 _ _ _ hG.tok]; rfl
    have lt := hG.tok.lt
    have O6 := hG.res.alloc (.cells #[.int .u8 e0.kind, .int .u8 e0.op, .int .i64 e0.wd, .string e0.name, .slice a4 e0.kids.length cap4, .int .i64 e0.pos] 26)
    have N0 := Lib.hid (Own.new W 26 #[.int .u8 e0.kind, .int .u8 e0.op, .int .i64 e0.wd, .string e0.name, .slice a4 e0.kids.length cap4, .int .i64 e0.pos])
    clear hG hV hlt
    apply hK1
    go_wp2_with (first | (refine ld rowEx rfl rfl rfl hg rfl ?_) | (refine st rowEx rfl rfl O6 rfl rfl (by rfl) (by rfl) (by kernel_rfl) ?_))
    have hsz := HG.out.res.lt
    refine p_ret rowEx rfl (O6.row #[.int .u8 3, .int .u8 op, .int .i64 0, .string ⟨#[]⟩, .slice (some ⟨W.heap.size, 0, none⟩) 1 1, .int .i64 tp]) rfl rfl rfl ?_
    have hXX := hX.out
    have A4 := (HG.out.run.alloc (.cells #[.int .u8 e0.kind, .int .u8 e0.op, .int .i64 e0.wd, .string e0.name, .slice a4 e0.kids.length cap4, .int .i64 e0.pos] 26)).setRow (g := w.heap.size + 1) (by omega) (by omega) #[.int .u8 3, .int .u8 op, .int .i64 0, .string ⟨#[]⟩, .slice (some ⟨W.heap.size, 0, none⟩) 1 1, .int .i64 tp]
    refine ⟨A4.fr, _, k2, rfl, ⟨_, _, rfl, ?_⟩, A4.rd HR.out, rfl⟩
    refine .inr ⟨W.heap.size, 0, rfl, by omega, ?_, trivial⟩
    have hst : Stays (fun b => w.heap.size + 1 < b ∧ b ≠ g) W ((W.alloc (.cells #[.int .u8 e0.kind, .int .u8 e0.op, .int .i64 e0.wd, .string e0.name, .slice a4 e0.kids.length cap4, .int .i64 e0.pos] 26)).setRow (w.heap.size + 1) #[.int .u8 3, .int .u8 op, .int .i64 0, .string ⟨#[]⟩, .slice (some ⟨W.heap.size, 0, none⟩) 1 1, .int .i64 tp]) :=
      (stays_alloc _ W _).trans (stays_row _ _ (fun b hb => by omega))
    refine exIn_of (vs := exCells e0 a4 cap4) ⟨a4, cap4, rfl, exsAt_stays hst (fun b hb => by omega) HV.out⟩ ?_
    have N1 := N0.out.other #[.int .u8 3, .int .u8 op, .int .i64 0, .string ⟨#[]⟩, .slice (some ⟨W.heap.size, 0, none⟩) 1 1, .int .i64 tp] (g := w.heap.size + 1) (by omega)
    intro j v hj
    rw [Nat.zero_add, cell_of_row _ W.heap.size j _ _ _ N1, ← hj]
    simp [exCells]
  refine wp_region_held (S := fun W => W.cell? ⟨b, 0, none⟩ = some (.pointer (some ⟨c.X, 0, none⟩)) ∧ Own W w.heap.size 69 #[.int .u8 tk, .string tx, .int .i64 tw, .int .i64 tp]) (by kernel_rfl) ?_
  obtain ⟨W0, hW0⟩ : ∃ W0, W0 = ((w.alloc (.cells #[.int .u8 tk, .string tx, .int .i64 tw, .int .i64 tp] 69)).alloc (.cells zEx 26)).drew := ⟨_, rfl⟩
  change wpAnyH _ _ _ _ _ _ _ _ ((w.alloc (.cells #[.int .u8 tk, .string tx, .int .i64 tw, .int .i64 tp] 69)).alloc (.cells zEx 26)).drew
  rw [← hW0] at G0 ⊢
  clear hW0
  refine dr_take 0 (.pointer (some ⟨c.X, 0, none⟩)) rfl rfl (by kernel_rfl) (by kernel_rfl) (by kernel_rfl) (fun _ _ _ h => h) ?_ ⟨G0.box, G0.tok⟩ ?_
  · rintro w' ⟨s1, s2⟩
    unfold execOp
    go_simp
  change wpAnyH _ _ _ _ _ _ _ { tmps := #[.agg #[.int .u8 tk, .string tx, .int .i64 tw, .int .i64 tp], .int .i64 d, .pointer (some ⟨b, 0, none⟩), .pointer (some ⟨b + 1, 0, none⟩), .pointer (some ⟨w.heap.size, 0, none⟩), undef, .pointer (some ⟨w.heap.size + 1, 0, none⟩), undef, .pointer (some ⟨c.X, 0, none⟩), undef, undef, undef, undef, undef, undef, undef, undef, undef, undef], defers := [] } _
  refine dr_take 1 (.agg #[.int .u8 tk, .string tx, .int .i64 tw, .int .i64 tp]) rfl rfl (by kernel_rfl) (by kernel_rfl) (by kernel_rfl) (fun _ _ _ h => h) ?_ ⟨G0.box, G0.tok⟩ ?_
  · rintro w' ⟨s1, s2⟩
    exact run_ld rowTok rfl rfl s2 rfl
  change wpAnyH _ _ _ _ _ _ _ { tmps := #[.agg #[.int .u8 tk, .string tx, .int .i64 tw, .int .i64 tp], .int .i64 d, .pointer (some ⟨b, 0, none⟩), .pointer (some ⟨b + 1, 0, none⟩), .pointer (some ⟨w.heap.size, 0, none⟩), undef, .pointer (some ⟨w.heap.size + 1, 0, none⟩), undef, .pointer (some ⟨c.X, 0, none⟩), .agg #[.int .u8 tk, .string tx, .int .i64 tw, .int .i64 tp], undef, undef, undef, undef, undef, undef, undef, undef, undef], defers := [] } _
  refine dr_take 2 (.int .i64 d) rfl rfl (by kernel_rfl) (by kernel_rfl) (by kernel_rfl) (fun _ _ _ h => h) (fun _ _ => rfl) ⟨G0.box, G0.tok⟩ ?_
  change wpAnyH _ _ _ _ _ _ _ { tmps := #[.agg #[.int .u8 tk, .string tx, .int .i64 tw, .int .i64 tp], .int .i64 d, .pointer (some ⟨b, 0, none⟩), .pointer (some ⟨b + 1, 0, none⟩), .pointer (some ⟨w.heap.size, 0, none⟩), undef, .pointer (some ⟨w.heap.size + 1, 0, none⟩), undef, .pointer (some ⟨c.X, 0, none⟩), .agg #[.int .u8 tk, .string tx, .int .i64 tw, .int .i64 tp], .int .i64 d, undef, undef, undef, undef, undef, undef, undef, undef], defers := [] } _
  refine dr_two 3 5 rfl rfl rfl rfl (by kernel_rfl) ?_ ?_
  · refine wp_call (vs := #[.agg #[.int .u8 tk, .string tx, .int .i64 tw, .int .i64 tp], .int .i64 d]) rfl rfl (enters_of Tryd.func64 (by kernel_rfl) rfl) (by simp [Act.eval]) (hd.out _) ?_
    rintro e w1 ⟨rfl, hb⟩
    have G1 := G0.below hb
    refine ⟨⟨G1.box, G1.tok⟩, ?_⟩
    change wpAnyH _ _ _ _ _ _ _ { tmps := #[.agg #[.int .u8 tk, .string tx, .int .i64 tw, .int .i64 tp], .int .i64 d, .pointer (some ⟨b, 0, none⟩), .pointer (some ⟨b + 1, 0, none⟩), .pointer (some ⟨w.heap.size, 0, none⟩), undef, .pointer (some ⟨w.heap.size + 1, 0, none⟩), undef, .pointer (some ⟨c.X, 0, none⟩), .agg #[.int .u8 tk, .string tx, .int .i64 tw, .int .i64 tp], .int .i64 d, .int .i64 (d + 1), undef, undef, undef, undef, undef, undef, undef], defers := [] } _
    refine dr_two 4 5 rfl rfl rfl rfl (by kernel_rfl) ?_ ?_
    · refine wp_call (vs := #[.pointer (some ⟨c.X, 0, none⟩), .int .i64 (d + 1)]) rfl rfl (enters_of Tryd.func41 (by kernel_rfl) rfl) (by simp [Act.eval]) (HC.out _ (G1.run.rd HR.out)) ?_
      rintro e w2 ⟨hf2, hm⟩
      rcases Y with ⟨e0, r0⟩ | ⟨p, q⟩
      rotate_left
      · obtain rfl := hm
        exact ⟨rfl, G1.run.fr.trans hf2, rfl⟩
      obtain ⟨v, k2, rfl, ⟨a4, cap4, rfl, hV⟩, hR2, rfl⟩ := hm
      have G2 := G1.call hf2 (G1.run.call hf2 hR2) hX.out HX.out.1 HX.out.2
      refine ⟨⟨G2.box, G2.tok⟩, ?_⟩
      change wpAnyH _ _ _ _ _ _ _ { tmps := #[.agg #[.int .u8 tk, .string tx, .int .i64 tw, .int .i64 tp], .int .i64 d, .pointer (some ⟨b, 0, none⟩), .pointer (some ⟨b + 1, 0, none⟩), .pointer (some ⟨w.heap.size, 0, none⟩), undef, .pointer (some ⟨w.heap.size + 1, 0, none⟩), undef, .pointer (some ⟨c.X, 0, none⟩), .agg #[.int .u8 tk, .string tx, .int .i64 tw, .int .i64 tp], .int .i64 d, .int .i64 (d + 1), .agg #[.int .u8 e0.kind, .int .u8 e0.op, .int .i64 e0.wd, .string e0.name, .slice a4 e0.kids.length cap4, .int .i64 e0.pos], undef, undef, undef, undef, undef, undef], defers := [] } _
      refine dr_one 5 rfl rfl (by kernel_rfl) ?_
      refine wp_alloc_ex rfl ⟨⟨(G2.alloc _).box, (G2.alloc _).tok⟩, ?_⟩
      change wpAnyH _ _ _ _ _ _ _ { tmps := #[.agg #[.int .u8 tk, .string tx, .int .i64 tw, .int .i64 tp], .int .i64 d, .pointer (some ⟨b, 0, none⟩), .pointer (some ⟨b + 1, 0, none⟩), .pointer (some ⟨w.heap.size, 0, none⟩), undef, .pointer (some ⟨w.heap.size + 1, 0, none⟩), .pointer (some ⟨w2.heap.size, 0, none⟩), .pointer (some ⟨c.X, 0, none⟩), .agg #[.int .u8 tk, .string tx, .int .i64 tw, .int .i64 tp], .int .i64 d, .int .i64 (d + 1), .agg #[.int .u8 e0.kind, .int .u8 e0.op, .int .i64 e0.wd, .string e0.name, .slice a4 e0.kids.length cap4, .int .i64 e0.pos], undef, undef, undef, undef, undef, undef], defers := [] } _
      refine dr_one 6 rfl rfl (by kernel_rfl) ?_
      have hO := Own.new w2 26 zEx
      have hs := G2.res.lt
      refine wp_store_row 26 _ _ rfl w2.heap.size #[.int .u8 e0.kind, .int .u8 e0.op, .int .i64 e0.wd, .string e0.name, .slice a4 e0.kids.length cap4, .int .i64 e0.pos] rfl rfl 26 zEx hO (by kernel_rfl) rfl (by kernel_rfl) ?_
      have G3 := (G2.alloc (.cells zEx 26)).row #[.int .u8 e0.kind, .int .u8 e0.op, .int .i64 e0.wd, .string e0.name, .slice a4 e0.kids.length cap4, .int .i64 e0.pos] (g := w2.heap.size) (by omega) hX.out HX.out.1 HX.out.2 HL.out.2
      refine ⟨⟨G3.box, G3.tok⟩, wpAnyH_done (by kernel_rfl) ?_ _⟩
      refine tail w2.heap.size _ e0 a4 cap4 k2 rfl G3 (hO.row _) (by omega) ?_
      have hV2 := exsAt_stays ((stays_alloc _ w2 (.cells zEx 26)).trans (stays_row _ (g := w2.heap.size) #[.int .u8 e0.kind, .int .u8 e0.op, .int .i64 e0.wd, .string e0.name, .slice a4 e0.kids.length cap4, .int .i64 e0.pos] (fun b hb => by have := hb.2; omega))) (fun b hb => hb) (exsAt_in hV)
      exact exsAt_mono hV2 (fun b hb => by have h1 := hb.1; have h2 := hb.2; have h3 := G1.res.lt; omega)
    · refine wp_alloc_ex rfl ⟨⟨(G1.alloc _).box, (G1.alloc _).tok⟩, ?_⟩
      change wpAnyH _ _ _ _ _ _ _ { tmps := #[.agg #[.int .u8 tk, .string tx, .int .i64 tw, .int .i64 tp], .int .i64 d, .pointer (some ⟨b, 0, none⟩), .pointer (some ⟨b + 1, 0, none⟩), .pointer (some ⟨w.heap.size, 0, none⟩), undef, .pointer (some ⟨w.heap.size + 1, 0, none⟩), .pointer (some ⟨w1.heap.size, 0, none⟩), .pointer (some ⟨c.X, 0, none⟩), .agg #[.int .u8 tk, .string tx, .int .i64 tw, .int .i64 tp], .int .i64 d, .int .i64 (d + 1), undef, undef, undef, undef, undef, undef, undef], defers := [] } _
      have G1' := G1.alloc (.cells zEx 26)
      have hO1 := Own.new w1 26 zEx
      have hs1 := G1.res.lt
      refine dr_one 4 rfl rfl (by kernel_rfl) ?_
      refine wp_call (vs := #[.pointer (some ⟨c.X, 0, none⟩), .int .i64 (d + 1)]) rfl rfl (enters_of Tryd.func41 (by kernel_rfl) rfl) (by simp [Act.eval]) (HC.out _ (G1'.run.rd HR.out)) ?_
      rintro e w2 ⟨hf2, hm⟩
      rcases Y with ⟨e0, r0⟩ | ⟨p, q⟩
      rotate_left
      · obtain rfl := hm
        exact ⟨rfl, G1'.run.fr.trans hf2, rfl⟩
      obtain ⟨v, k2, rfl, ⟨a4, cap4, rfl, hV⟩, hR2, rfl⟩ := hm
      have G2 := G1'.call hf2 (G1'.run.call hf2 hR2) hX.out HX.out.1 HX.out.2
      refine ⟨⟨G2.box, G2.tok⟩, ?_⟩
      change wpAnyH _ _ _ _ _ _ _ { tmps := #[.agg #[.int .u8 tk, .string tx, .int .i64 tw, .int .i64 tp], .int .i64 d, .pointer (some ⟨b, 0, none⟩), .pointer (some ⟨b + 1, 0, none⟩), .pointer (some ⟨w.heap.size, 0, none⟩), undef, .pointer (some ⟨w.heap.size + 1, 0, none⟩), .pointer (some ⟨w1.heap.size, 0, none⟩), .pointer (some ⟨c.X, 0, none⟩), .agg #[.int .u8 tk, .string tx, .int .i64 tw, .int .i64 tp], .int .i64 d, .int .i64 (d + 1), .agg #[.int .u8 e0.kind, .int .u8 e0.op, .int .i64 e0.wd, .string e0.name, .slice a4 e0.kids.length cap4, .int .i64 e0.pos], undef, undef, undef, undef, undef, undef], defers := [] } _
      refine dr_one 6 rfl rfl (by kernel_rfl) ?_
      have hXX := hX.out
      have hO := hO1.fr hf2 (by omega)
      refine wp_store_row 26 _ _ rfl w1.heap.size #[.int .u8 e0.kind, .int .u8 e0.op, .int .i64 e0.wd, .string e0.name, .slice a4 e0.kids.length cap4, .int .i64 e0.pos] rfl rfl 26 zEx hO (by kernel_rfl) rfl (by kernel_rfl) ?_
      have G3 := G2.row #[.int .u8 e0.kind, .int .u8 e0.op, .int .i64 e0.wd, .string e0.name, .slice a4 e0.kids.length cap4, .int .i64 e0.pos] (g := w1.heap.size) (by omega) hX.out HX.out.1 HX.out.2 HL.out.2
      refine ⟨⟨G3.box, G3.tok⟩, wpAnyH_done (by kernel_rfl) ?_ _⟩
      refine tail w1.heap.size _ e0 a4 cap4 k2 rfl G3 (hO.row _) (by omega) ?_
      have hV2 := exsAt_stays (stays_row _ (g := w1.heap.size) #[.int .u8 e0.kind, .int .u8 e0.op, .int .i64 e0.wd, .string e0.name, .slice a4 e0.kids.length cap4, .int .i64 e0.pos] (fun b hb => by have := hb; simp at this; omega)) (fun b hb => hb) hV
      exact exsAt_mono hV2 (fun b hb => by simp at hb; omega)
  · refine wp_alloc_ex rfl ⟨⟨(G0.alloc _).box, (G0.alloc _).tok⟩, ?_⟩
    change wpAnyH _ _ _ _ _ _ _ { tmps := #[.agg #[.int .u8 tk, .string tx, .int .i64 tw, .int .i64 tp], .int .i64 d, .pointer (some ⟨b, 0, none⟩), .pointer (some ⟨b + 1, 0, none⟩), .pointer (some ⟨w.heap.size, 0, none⟩), undef, .pointer (some ⟨w.heap.size + 1, 0, none⟩), .pointer (some ⟨W0.heap.size, 0, none⟩), .pointer (some ⟨c.X, 0, none⟩), .agg #[.int .u8 tk, .string tx, .int .i64 tw, .int .i64 tp], .int .i64 d, undef, undef, undef, undef, undef, undef, undef, undef], defers := [] } _
    have G0' := G0.alloc (.cells zEx 26)
    have hO0 := Own.new W0 26 zEx
    have hs0 := G0.res.lt
    refine dr_one 3 rfl rfl (by kernel_rfl) ?_
    refine wp_call (vs := #[.agg #[.int .u8 tk, .string tx, .int .i64 tw, .int .i64 tp], .int .i64 d]) rfl rfl (enters_of Tryd.func64 (by kernel_rfl) rfl) (by simp [Act.eval]) (hd.out _) ?_
    rintro e w1 ⟨rfl, hb⟩
    have G1 := G0'.below hb
    refine ⟨⟨G1.box, G1.tok⟩, ?_⟩
    change wpAnyH _ _ _ _ _ _ _ { tmps := #[.agg #[.int .u8 tk, .string tx, .int .i64 tw, .int .i64 tp], .int .i64 d, .pointer (some ⟨b, 0, none⟩), .pointer (some ⟨b + 1, 0, none⟩), .pointer (some ⟨w.heap.size, 0, none⟩), undef, .pointer (some ⟨w.heap.size + 1, 0, none⟩), .pointer (some ⟨W0.heap.size, 0, none⟩), .pointer (some ⟨c.X, 0, none⟩), .agg #[.int .u8 tk, .string tx, .int .i64 tw, .int .i64 tp], .int .i64 d, .int .i64 (d + 1), undef, undef, undef, undef, undef, undef, undef], defers := [] } _
    have hz1 := hb.size
    have hO1 := hO0.below hb
    refine dr_one 4 rfl rfl (by kernel_rfl) ?_
    refine wp_call (vs := #[.pointer (some ⟨c.X, 0, none⟩), .int .i64 (d + 1)]) rfl rfl (enters_of Tryd.func41 (by kernel_rfl) rfl) (by simp [Act.eval]) (HC.out _ (G1.run.rd HR.out)) ?_
    rintro e w2 ⟨hf2, hm⟩
    rcases Y with ⟨e0, r0⟩ | ⟨p, q⟩
    rotate_left
    · obtain rfl := hm
      exact ⟨rfl, G1.run.fr.trans hf2, rfl⟩
    obtain ⟨v, k2, rfl, ⟨a4, cap4, rfl, hV⟩, hR2, rfl⟩ := hm
    have G2 := G1.call hf2 (G1.run.call hf2 hR2) hX.out HX.out.1 HX.out.2
    refine ⟨⟨G2.box, G2.tok⟩, ?_⟩
    change wpAnyH _ _ _ _ _ _ _ { tmps := #[.agg #[.int .u8 tk, .string tx, .int .i64 tw, .int .i64 tp], .int .i64 d, .pointer (some ⟨b, 0, none⟩), .pointer (some ⟨b + 1, 0, none⟩), .pointer (some ⟨w.heap.size, 0, none⟩), undef, .pointer (some ⟨w.heap.size + 1, 0, none⟩), .pointer (some ⟨W0.heap.size, 0, none⟩), .pointer (some ⟨c.X, 0, none⟩), .agg #[.int .u8 tk, .string tx, .int .i64 tw, .int .i64 tp], .int .i64 d, .int .i64 (d + 1), .agg #[.int .u8 e0.kind, .int .u8 e0.op, .int .i64 e0.wd, .string e0.name, .slice a4 e0.kids.length cap4, .int .i64 e0.pos], undef, undef, undef, undef, undef, undef], defers := [] } _
    refine dr_one 6 rfl rfl (by kernel_rfl) ?_
    have hXX := hX.out
    have hO := hO1.fr hf2 (by omega)
    have hl1 := hO1.lt
    refine wp_store_row 26 _ _ rfl W0.heap.size #[.int .u8 e0.kind, .int .u8 e0.op, .int .i64 e0.wd, .string e0.name, .slice a4 e0.kids.length cap4, .int .i64 e0.pos] rfl rfl 26 zEx hO (by kernel_rfl) rfl (by kernel_rfl) ?_
    have G3 := G2.row #[.int .u8 e0.kind, .int .u8 e0.op, .int .i64 e0.wd, .string e0.name, .slice a4 e0.kids.length cap4, .int .i64 e0.pos] (g := W0.heap.size) (by omega) hX.out HX.out.1 HX.out.2 HL.out.2
    refine ⟨⟨G3.box, G3.tok⟩, wpAnyH_done (by kernel_rfl) ?_ _⟩
    refine tail W0.heap.size _ e0 a4 cap4 k2 rfl G3 (hO.row _) (by omega) ?_
    have hV2 := exsAt_stays (stays_row _ (g := W0.heap.size) #[.int .u8 e0.kind, .int .u8 e0.op, .int .i64 e0.wd, .string e0.name, .slice a4 e0.kids.length cap4, .int .i64 e0.pos] (fun b hb => by have := hb; omega)) (fun b hb => hb) hV
    exact exsAt_mono hV2 (fun b hb => by have := hb; omega)
end Go.Proofs.YtgaibdipecngkaaDoor

namespace Go.Proofs.YtgaibdipecngkaaDoor
open Go.RowKit
set_option linter.unusedVariables false
set_option maxRecDepth 100000 in
set_option maxHeartbeats 4000000 in
theorem p_unary_bad {c : Par} {w : World} {k : Nat} (R : Rd c w k) (t : Tk) (b : Nat) (op : Int) (hb1 : Own w b 39 #[c.ptr]) (hb2 : Own w (b + 1) 23 #[.int .u8 op]) :
    Calls Tryd.prog 63 #[tkV t, .int .i64 64, .pointer (some ⟨b, 0, none⟩), .pointer (some ⟨b + 1, 0, none⟩)] w fun e w' => e = .panicked (flt t.pos 3) ∧ Fr c w w' := by
  have HR := Lib.hid R
  obtain ⟨tk, tx, tw, tp⟩ := t
  have hd := Lib.hid (fun W => p_deeper_bad ⟨tk, tx, tw, tp⟩ W)
  have c1 : w.cell? ⟨b, 0, none⟩ = some c.ptr := by rw [cell_of_row w b 0 _ _ _ hb1]; rfl
  have c2 : w.cell? ⟨b + 1, 0, none⟩ = some (.int .u8 op) := by rw [cell_of_row w (b + 1) 0 _ _ _ hb2]; rfl
  have HL := Lib.hid (And.intro hb1.lt hb2.lt)
  clear R hb1 hb2
  unfold tkV Par.ptr at *
  go_enter Tryd.func63, Tryd.ntmps63
  go_wp2_with fail
  have G0 : UnG c w b op ⟨tk, tx, tw, tp⟩ ((w.alloc (.cells #[.int .u8 tk, .string tx, .int .i64 tw, .int .i64 tp] 69)).alloc (.cells zEx 26)).drew k := by
    have hb := ((Below.refl w.heap.size w).alloc (Nat.le_refl _) (.cells #[.int .u8 tk, .string tx, .int .i64 tw, .int .i64 tp] 69)).alloc (by simp) (.cells zEx 26)
    have o2 := Own.new (w.alloc (.cells #[.int .u8 tk, .string tx, .int .i64 tw, .int .i64 tp] 69)) 26 zEx
    rw [World.size_alloc] at o2
    exact UnG.drew ⟨((At.start HR.out).alloc _).alloc _, (hb.cell (p := ⟨b, 0, none⟩) HL.out.1).trans c1, (hb.cell (p := ⟨b + 1, 0, none⟩) HL.out.2).trans c2, (Own.new w _ _).alloc _, o2⟩
  refine wp_region_held (S := fun W => W.cell? ⟨b, 0, none⟩ = some (.pointer (some ⟨c.X, 0, none⟩)) ∧ Own W w.heap.size 69 #[.int .u8 tk, .string tx, .int .i64 tw, .int .i64 tp]) (by kernel_rfl) ?_
  obtain ⟨W0, hW0⟩ : ∃ W0, W0 = ((w.alloc (.cells #[.int .u8 tk, .string tx, .int .i64 tw, .int .i64 tp] 69)).alloc (.cells zEx 26)).drew := ⟨_, rfl⟩
  change wpAnyH _ _ _ _ _ _ _ _ ((w.alloc (.cells #[.int .u8 tk, .string tx, .int .i64 tw, .int .i64 tp] 69)).alloc (.cells zEx 26)).drew
  rw [← hW0] at G0 ⊢
  clear hW0
  refine dr_take 0 (.pointer (some ⟨c.X, 0, none⟩)) rfl rfl (by kernel_rfl) (by kernel_rfl) (by kernel_rfl) (fun _ _ _ h => h) ?_ ⟨G0.box, G0.tok⟩ ?_
  · rintro w' ⟨s1, s2⟩
    unfold execOp
    go_simp
  change wpAnyH _ _ _ _ _ _ _ { tmps := #[.agg #[.int .u8 tk, .string tx, .int .i64 tw, .int .i64 tp], .int .i64 64, .pointer (some ⟨b, 0, none⟩), .pointer (some ⟨b + 1, 0, none⟩), .pointer (some ⟨w.heap.size, 0, none⟩), undef, .pointer (some ⟨w.heap.size + 1, 0, none⟩), undef, .pointer (some ⟨c.X, 0, none⟩), undef, undef, undef, undef, undef, undef, undef, undef, undef, undef], defers := [] } _
  refine dr_take 1 (.agg #[.int .u8 tk, .string tx, .int .i64 tw, .int .i64 tp]) rfl rfl (by kernel_rfl) (by kernel_rfl) (by kernel_rfl) (fun _ _ _ h => h) ?_ ⟨G0.box, G0.tok⟩ ?_
  · rintro w' ⟨s1, s2⟩
    exact run_ld rowTok rfl rfl s2 rfl
  change wpAnyH _ _ _ _ _ _ _ { tmps := #[.agg #[.int .u8 tk, .string tx, .int .i64 tw, .int .i64 tp], .int .i64 64, .pointer (some ⟨b, 0, none⟩), .pointer (some ⟨b + 1, 0, none⟩), .pointer (some ⟨w.heap.size, 0, none⟩), undef, .pointer (some ⟨w.heap.size + 1, 0, none⟩), undef, .pointer (some ⟨c.X, 0, none⟩), .agg #[.int .u8 tk, .string tx, .int .i64 tw, .int .i64 tp], undef, undef, undef, undef, undef, undef, undef, undef, undef], defers := [] } _
  refine dr_take 2 (.int .i64 64) rfl rfl (by kernel_rfl) (by kernel_rfl) (by kernel_rfl) (fun _ _ _ h => h) (fun _ _ => rfl) ⟨G0.box, G0.tok⟩ ?_
  change wpAnyH _ _ _ _ _ _ _ { tmps := #[.agg #[.int .u8 tk, .string tx, .int .i64 tw, .int .i64 tp], .int .i64 64, .pointer (some ⟨b, 0, none⟩), .pointer (some ⟨b + 1, 0, none⟩), .pointer (some ⟨w.heap.size, 0, none⟩), undef, .pointer (some ⟨w.heap.size + 1, 0, none⟩), undef, .pointer (some ⟨c.X, 0, none⟩), .agg #[.int .u8 tk, .string tx, .int .i64 tw, .int .i64 tp], .int .i64 64, undef, undef, undef, undef, undef, undef, undef, undef], defers := [] } _
  refine dr_two 3 5 rfl rfl rfl rfl (by kernel_rfl) ?_ ?_
  · refine wp_call (vs := #[.agg #[.int .u8 tk, .string tx, .int .i64 tw, .int .i64 tp], .int .i64 64]) rfl rfl (enters_of Tryd.func64 (by kernel_rfl) rfl) (by simp [Act.eval]) (hd.out _) ?_
    rintro e w1 ⟨rfl, hb⟩
    exact ⟨rfl, rfl, G0.run.fr.trans (.of_below hb)⟩
  · refine wp_alloc_ex rfl ⟨⟨(G0.alloc _).box, (G0.alloc _).tok⟩, ?_⟩
    change wpAnyH _ _ _ _ _ _ _ { tmps := #[.agg #[.int .u8 tk, .string tx, .int .i64 tw, .int .i64 tp], .int .i64 64, .pointer (some ⟨b, 0, none⟩), .pointer (some ⟨b + 1, 0, none⟩), .pointer (some ⟨w.heap.size, 0, none⟩), undef, .pointer (some ⟨w.heap.size + 1, 0, none⟩), .pointer (some ⟨W0.heap.size, 0, none⟩), .pointer (some ⟨c.X, 0, none⟩), .agg #[.int .u8 tk, .string tx, .int .i64 tw, .int .i64 tp], .int .i64 64, undef, undef, undef, undef, undef, undef, undef, undef], defers := [] } _
    refine dr_one 3 rfl rfl (by kernel_rfl) ?_
    refine wp_call (vs := #[.agg #[.int .u8 tk, .string tx, .int .i64 tw, .int .i64 tp], .int .i64 64]) rfl rfl (enters_of Tryd.func64 (by kernel_rfl) rfl) (by simp [Act.eval]) (hd.out _) ?_
    rintro e w1 ⟨rfl, hb⟩
    exact ⟨rfl, rfl, (G0.alloc (.cells zEx 26)).run.fr.trans (.of_below hb)⟩
/-- What stands in parentheses. -/
theorem p_inner_bad {c : Par} {w : World} {k : Nat} (R : Rd c w k) (t : Tk) :
    Calls Tryd.prog 38 #[c.ptr, tkV t, .int .i64 64] w fun e w' => e = .panicked (flt t.pos 3) ∧ Fr c w w' := by
  obtain ⟨tk, tx, tw, tp⟩ := t
  have hd := Lib.hid (fun W => p_deeper_bad ⟨tk, tx, tw, tp⟩ W)
  have O4 := (Own.new w 69 #[.int .u8 tk, .string tx, .int .i64 tw, .int .i64 tp]).alloc (.cells zEx 26)
  have A0 := Lib.hid (((At.start R).alloc (.cells #[.int .u8 tk, .string tx, .int .i64 tw, .int .i64 tp] 69)).alloc (.cells zEx 26))
  clear R
  unfold tkV Par.ptr zEx at *
  go_enter Tryd.func38, Tryd.ntmps38
  go_wp2_with (first | (refine ld rowTok rfl rfl rfl O4 rfl ?_) | (go_at_call 64; refine (hd.out _).mono ?_; rintro e w1 ⟨rfl, hb⟩; have HB := Lib.hid hb; clear hb))
  exact ⟨rfl, rfl, A0.out.fr.trans (.of_below HB.out)⟩
set_option maxRecDepth 100000 in
set_option maxHeartbeats 4000000 in
theorem p_inner {n : Nat} (H : BinC n) {c : Par} {w : World} {k : Nat} (R : Rd c w k) (t : Tk) (d : Int) (h0 : 0 ≤ d) (h1 : d < 64) (hn : 3 * (c.at k).length + 2 ≤ n) :
    Calls Tryd.prog 38 #[c.ptr, tkV t, .int .i64 d] w (RdPost c w ((binE fnd c.L n 1 (d + 1) (c.at k)).then fun e r => (need c.L [41] r).then fun _ r => .ok e r) (exR w.heap.size)) := by
  obtain ⟨Y, hY⟩ : ∃ Y, Y = binE fnd c.L n 1 (d + 1) (c.at k) := ⟨_, rfl⟩
  have HC : Hid (∀ W, Rd c W k → Calls Tryd.prog 21 #[c.ptr, .int .i64 1, .int .i64 (d + 1)] W (RdPost c W Y (exR W.heap.size))) := fun W RW => by rw [hY]; exact H c W k 1 (d + 1) RW (by omega) (by omega) (by omega) (by omega) hn
  rw [← hY]
  obtain ⟨tk, tx, tw, tp⟩ := t
  have hd := Lib.hid (fun W => p_deeper_ok ⟨tk, tx, tw, tp⟩ d h0 h1 W)
  have O4 := (Own.new w 69 #[.int .u8 tk, .string tx, .int .i64 tw, .int .i64 tp]).alloc (.cells zEx 26)
  have O6 := Own.new (w.alloc (.cells #[.int .u8 tk, .string tx, .int .i64 tw, .int .i64 tp] 69)) 26 zEx
  rw [World.size_alloc] at O6
  have O66 := Lib.hid O6
  have A0 := Lib.hid (((At.start R).alloc (.cells #[.int .u8 tk, .string tx, .int .i64 tw, .int .i64 tp] 69)).alloc (.cells zEx 26))
  have HR := Lib.hid R
  have hX := Lib.hid R.lt
  clear hY H R hn O6
  unfold tkV Par.ptr zEx at *
  go_enter Tryd.func38, Tryd.ntmps38
  go_wp2_with (first | (refine ld rowTok rfl rfl rfl O4 rfl ?_) | (go_at_call 64; refine (hd.out _).mono ?_; rintro e w1 ⟨rfl, hb⟩; have A1 := Lib.hid (A0.out.below hb); have O1 := Lib.hid (O66.out.below hb); clear hb))
  go_at_call 21
  refine (HC.out _ (A1.out.rd HR.out)).mono ?_
  rintro e w2 ⟨hf2, hm⟩
  rcases Y with ⟨e0, r0⟩ | ⟨p, q⟩
  rotate_left
  · obtain rfl := hm
    go_wp2_with fail
    exact ⟨rfl, A1.out.fr.trans hf2, rfl⟩
  obtain ⟨v, k2, rfl, ⟨a4, cap4, rfl, hV⟩, hR2, rfl⟩ := hm
  have HZ := Lib.hid (And.intro O1.out.lt (Keep.size hf2))
  have A2 := Lib.hid ((A1.out.call hf2 hR2).alloc (.cells #[.int .u8 e0.kind, .int .u8 e0.op, .int .i64 e0.wd, .string e0.name, .slice a4 e0.kids.length cap4, .int .i64 e0.pos] 26))
  have O2 := Lib.hid ((O1.out.fr hf2 (by have := hX.out; omega)).alloc (.cells #[.int .u8 e0.kind, .int .u8 e0.op, .int .i64 e0.wd, .string e0.name, .slice a4 e0.kids.length cap4, .int .i64 e0.pos] 26))
  have N2 := Own.new w2 26 #[.int .u8 e0.kind, .int .u8 e0.op, .int .i64 e0.wd, .string e0.name, .slice a4 e0.kids.length cap4, .int .i64 e0.pos]
  have V2 := Lib.hid (exsAt_stays (stays_alloc _ w2 (.cells #[.int .u8 e0.kind, .int .u8 e0.op, .int .i64 e0.wd, .string e0.name, .slice a4 e0.kids.length cap4, .int .i64 e0.pos] 26)) (fun b hb => hb) (exsAt_in hV))
  clear hf2 hR2 hV O4
  go_wp2_with fail
  obtain ⟨W, hW⟩ : ∃ W, W = w2.alloc (.cells #[.int .u8 e0.kind, .int .u8 e0.op, .int .i64 e0.wd, .string e0.name, .slice a4 e0.kids.length cap4, .int .i64 e0.pos] 26) := ⟨_, rfl⟩
  rw [← hW] at A2 O2 N2 V2 ⊢
  clear hW
  by_cases hq : isT [41] (c.at k2) = true
  · go_at_call 62
    refine (p_take_ok (A2.out.rd HR.out) ⟨#[41]⟩ (by decide) hq).mono ?_
    rintro e w3 ⟨rfl, hf3, hR3⟩
    have hXX := hX.out
    have hZ := HZ.out
    have A3 := Lib.hid (A2.out.call hf3 hR3)
    have N3 := N2.fr hf3 (by omega)
    have O3 := O2.out.fr hf3 (by omega)
    have V3 := Lib.hid (exsAt_stays (R := fun b => w1.heap.size ≤ b ∧ b < w2.heap.size) (stays_fr hf3 (fun b hb => by omega)) (fun b hb => hb) V2.out)
    clear hf3 hR3 hXX hZ N2 O2
    go_wp2_with (first | (refine ld rowEx rfl rfl rfl N3 rfl ?_) | (refine st rowEx rfl rfl O3 rfl rfl (by rfl) (by rfl) (by kernel_rfl) ?_))
    have hXX := hX.out
    have hZ := HZ.out
    have A4 := A3.out.setRow (g := w.heap.size + 1) (by omega) (by omega) #[.int .u8 e0.kind, .int .u8 e0.op, .int .i64 e0.wd, .string e0.name, .slice a4 e0.kids.length cap4, .int .i64 e0.pos]
    have V4 := exsAt_stays (R := fun b => w1.heap.size ≤ b ∧ b < w2.heap.size) (stays_row w3 (g := w.heap.size + 1) #[.int .u8 e0.kind, .int .u8 e0.op, .int .i64 e0.wd, .string e0.name, .slice a4 e0.kids.length cap4, .int .i64 e0.pos] (fun b hb => by omega)) (fun b hb => hb) V3.out
    have e1 : need c.L [41] (c.at k2) = .ok () (c.at (k2 + 1)) := by unfold need; rw [if_pos hq, Par.at_tail]
    refine p_ret rowEx rfl (O3.row #[.int .u8 e0.kind, .int .u8 e0.op, .int .i64 e0.wd, .string e0.name, .slice a4 e0.kids.length cap4, .int .i64 e0.pos]) rfl rfl rfl ?_
    simp only [PR.then_ok, e1]
    exact ⟨A4.fr, _, k2 + 1, rfl, ⟨a4, cap4, rfl, exsAt_mono V4 (fun b hb => by omega)⟩, A4.rd HR.out, rfl⟩
  · have hq' : isT [41] (c.at k2) = false := by simpa using hq
    have e1 : need c.L [41] (c.at k2) = .bad (hdP c.L (c.at k2)) 2 := by unfold need; rw [if_neg hq]
    go_at_call 62
    refine (p_take_bad (A2.out.rd HR.out) ⟨#[41]⟩ (by decide) hq').mono ?_
    rintro e w3 ⟨rfl, hf3⟩
    have A3 := Lib.hid (A2.out.fr.trans hf3)
    clear hf3
    go_wp2_with fail
    refine ⟨rfl, ?_⟩
    simp only [PR.then_ok, e1, PR.then_bad]
    exact ⟨A3.out, rfl⟩
end Go.Proofs.YtgaibdipecngkaaDoor

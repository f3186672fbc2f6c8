/- The lexer: going over blanks and remarks. -/
import Derived.Test.YteedpojchapjgaaDoorNumber
import Derived.Test.YteedpojchapjgaaDoorKeep
namespace Go.Proofs.YteedpojchapjgaaDoor
open Go.RowKit
set_option linter.unusedVariables false

def slashes : List UInt8 := [47, 47]
/-- How many bytes one step goes over. -/
def stepN (l : List UInt8) : Nat := if Lib.hasPrefix l slashes = true then spanN feedB l else spanN blankB l
theorem stepN_le (l : List UInt8) : stepN l ≤ l.length := by
  unfold stepN; split
  · exact spanN_le _ _
  · exact spanN_le _ _
def passF : Nat → List UInt8 → Nat
  | 0, _ => 0
  | f + 1, l => if stepN l = 0 then 0 else stepN l + passF f (l.drop (stepN l))
theorem passF_more : ∀ (f g : Nat) (l : List UInt8), l.length ≤ f → l.length ≤ g → passF f l = passF g l
  | 0, 0, _, _, _ => rfl
  | 0, g + 1, l, h, _ => by
    have : l = [] := List.length_eq_zero_iff.1 (by omega)
    subst this
    rfl
  | f + 1, 0, l, _, h => by
    have : l = [] := List.length_eq_zero_iff.1 (by omega)
    subst this
    rfl
  | f + 1, g + 1, l, hf, hg => by
    simp only [passF]
    by_cases h : stepN l = 0
    · rw [if_pos h, if_pos h]
    · rw [if_neg h, if_neg h, passF_more f g (l.drop (stepN l)) (by simp; omega) (by simp; omega)]
/-- How many bytes blanks and remarks take at the beginning. -/
def passN (l : List UInt8) : Nat := passF l.length l
theorem passN_stop {l : List UInt8} (h : stepN l = 0) : passN l = 0 := by
  unfold passN
  cases hl : l.length with
  | zero => rfl
  | succ n => simp only [passF]; rw [if_pos h]
theorem passN_step {l : List UInt8} (h : ¬ stepN l = 0) : passN l = stepN l + passN (l.drop (stepN l)) := by
  have hle := stepN_le l
  have e : passF l.length l = passF (l.length + 1) l := passF_more _ _ l (Nat.le_refl _) (Nat.le_succ _)
  have e2 : passF (l.length + 1) l = stepN l + passF l.length (l.drop (stepN l)) := by
    simp only [passF]; rw [if_neg h]
  have e3 : passN (l.drop (stepN l)) = passF l.length (l.drop (stepN l)) := passF_more _ _ _ (Nat.le_refl _) (by simp)
  rw [e3, ← e2, ← e]
  rfl
theorem passN_le : ∀ (n : Nat) (l : List UInt8), l.length ≤ n → passN l ≤ l.length
  | 0, l, h => by
    have : l = [] := List.length_eq_zero_iff.1 (by omega)
    subst this
    exact Nat.le_refl _
  | n + 1, l, h => by
    by_cases h0 : stepN l = 0
    · rw [passN_stop h0]; exact Nat.zero_le _
    · have hle := stepN_le l
      have k := passN_le n (l.drop (stepN l)) (by simp; omega)
      rw [passN_step h0]
      simp at k
      omega
theorem from_drop (s : ByteArray) (p n : Nat) : (bytesFrom s p).drop n = bytesFrom s (p + n) := by
  unfold bytesFrom; rw [List.drop_drop]
theorem from_len (s : ByteArray) (p : Nat) : (bytesFrom s p).length = s.size - p := by
  unfold bytesFrom; simp
theorem Sc.setAt {W : World} {b : Nat} {s : ByteArray} {p fa fr : Int} (h : Sc W b s p fa fr) (p' : Int) : Sc (W.setCell ⟨b, 1, none⟩ (.int .i64 p')) b s p' fa fr :=
  heap_setCell_same W b 1 _ _ (.int .i64 p') h
def atOf (b : Nat) (w : World) : Nat := match w.cell? ⟨b, 1, none⟩ with
  | some v => (intOf v).toNat
  | none => 0
theorem Sc.atOf {W : World} {b : Nat} {s : ByteArray} {p : Nat} {fa fr : Int} (h : Sc W b s p fa fr) : atOf b W = p := by
  unfold Proofs.YteedpojchapjgaaDoor.atOf; rw [h.cells.1.2.1]; simp [intOf]
set_option maxHeartbeats 2000000 in
theorem pass_any (b : Nat) (s : ByteArray) (p : Nat) (fa fr : Int) (w : World) (hs62 : s.size ≤ 281474976710656) (hp : p ≤ s.size) (hs : Sc w b s p fa fr) :
    Calls Tryd.prog 59 #[.pointer (some ⟨b, 0, none⟩)] w fun e w' => e = .returned (.tuple #[]) ∧ Sc w' b s ((p + passN (bytesFrom s p) : Nat) : Int) fa fr ∧ Keep (fun k _ => k ≠ b) w w' ∧ w'.heap.size = w.heap.size := by
  have HS := Lib.hid hs
  clear hs
  obtain ⟨R, hR⟩ : ∃ R, Hid (R = p + passN (bytesFrom s p)) := ⟨_, rfl⟩
  rw [← hR.out]
  go_enter Tryd.func59, Tryd.ntmps59
  go_wp2_with fail
  go_loopw [2, 3] (fun _ _ wr => ∃ k : Nat, k ≤ s.size ∧ Sc wr b s k fa fr ∧ Hid (k + passN (bytesFrom s k) = R) ∧ Keep (fun k _ => k ≠ b) w wr ∧ wr.heap.size = w.heap.size) (fun _ _ wr => s.size - atOf b wr)
  case atStart => exact ⟨p, hp, HS.out, hR.out.symm, Keep.refl _ _, rfl⟩
  case round =>
    obtain ⟨k, hk, hsc, hpa, hB, hsz⟩ := hrel
    have HSC := Lib.hid hsc
    have HSZ := Lib.hid hsz
    obtain ⟨⟨c0, c1, c2, c3⟩, f1, f2, f3⟩ := hsc.cells
    clear hsc hsz
    obtain ⟨X0, hX0⟩ : ∃ X0, Hid (X0 = s.extract k s.size) := ⟨_, rfl⟩
    have hl0 : X0.data.toList = bytesFrom s k := by rw [hX0.out]; exact tail_list s k
    have hz0 : X0.size ≤ 281474976710656 := by rw [hX0.out]; simp; omega
    obtain ⟨l, hl⟩ : ∃ l, Hid (l = bytesFrom s k) := ⟨_, rfl⟩
    rw [← hl.out] at hl0 hpa
    obtain ⟨n1, hn1⟩ : ∃ n, Hid (n = spanN blankB l) := ⟨_, rfl⟩
    obtain ⟨n2, hn2⟩ : ∃ n, Hid (n = spanN feedB l) := ⟨_, rfl⟩
    obtain ⟨q, hq⟩ : ∃ q, Hid (q = Lib.hasPrefix l slashes) := ⟨_, rfl⟩
    have H1 : Hid (∀ W : World, Calls Tryd.prog 35 #[.string X0, .func (.func 78) #[] #[]] W fun e w' => e = .returned (.int .i64 n1) ∧ W = w') := fun W => by
      have k := span_blank X0 (by omega) W
      rw [hl0, ← hn1.out] at k
      exact k
    have H2 : Hid (∀ W : World, Calls Tryd.prog 35 #[.string X0, .func (.func 79) #[] #[]] W fun e w' => e = .returned (.int .i64 n2) ∧ W = w') := fun W => by
      have k := span_feed X0 (by omega) W
      rw [hl0, ← hn2.out] at k
      exact k
    have H3 : Hid (∀ W : World, Calls Tryd.prog 56 #[.string X0, .string ⟨#[47, 47]⟩] W fun e w' => e = .returned (.bool q) ∧ w' = W) := fun W => by
      have k := Go.Proofs.Tryd.strings_HasPrefix X0 ⟨#[47, 47]⟩ W
      rw [hl0] at k
      rw [hq.out]
      exact k
    have hlen : l.length = s.size - k := by rw [hl.out]; exact from_len s k
    have hle1 : n1 ≤ s.size - k := by rw [hn1.out, ← hlen]; exact spanN_le _ _
    have hle2 : n2 ≤ s.size - k := by rw [hn2.out, ← hlen]; exact spanN_le _ _
    have hst : Hid (stepN l = if q = true then n2 else n1) := by rw [Hid, hq.out, hn1.out, hn2.out]; rfl
    clear hl0 hlen
    go_wp2
    go_quiet (fail)
    rw [← hX0.out]
    cases q
    · by_cases h0 : n1 = 0
      · subst h0
        have hfin : Hid (R = k) := by rw [Hid, ← hpa.out, passN_stop (by rw [hst.out]; rfl)]; omega
        go_wp2_with (first
          | (go_at_call 35; (with_reducible refine (H1.out _).mono ?_); rintro e w' ⟨rfl, rfl⟩)
          | (go_at_call 35; (with_reducible refine (H2.out _).mono ?_); rintro e w' ⟨rfl, rfl⟩)
          | (go_at_call 56; refine (H3.out _).mono ?_; rintro e w' ⟨rfl, rfl⟩))
        refine bodyPost_ret (results_none rfl _ _ _) rfl ?_
        rw [hfin.out]
        exact ⟨rfl, HSC.out, ⟨hB.os, hB.tape, hB.output, hB.size, hB.block⟩, HSZ.out⟩
      · have qn : ((n1 : Int) == 0) = false := int_f (by omega)
        have hpos : 0 < n1 := by omega
        have hnext : Hid (k + n1 + passN (bytesFrom s (k + n1)) = R) := by
          have e1 : stepN l = n1 := by rw [hst.out]; rfl
          have e2 := passN_step (l := l) (by rw [e1]; exact h0)
          rw [e1] at e2
          rw [Hid, ← hpa.out, e2, ← from_drop, ← hl.out]
          omega
        clear h0
        go_wp2_with (first
          | (go_at_call 35; (with_reducible refine (H1.out _).mono ?_); rintro e w' ⟨rfl, rfl⟩)
          | (go_at_call 35; (with_reducible refine (H2.out _).mono ?_); rintro e w' ⟨rfl, rfl⟩)
          | (go_at_call 56; refine (H3.out _).mono ?_; rintro e w' ⟨rfl, rfl⟩))
        have hnew : Sc ((wr.drewN nq).setCell ⟨b, 1, none⟩ (.int .i64 ((k : Int) + (n1 : Int)))) b s ((k + n1 : Nat) : Int) fa fr := by
          rw [Int.natCast_add]
          exact (show Sc (wr.drewN nq) b s k fa fr from HSC.out).setAt _
        go_roundw
        case rel => exact ⟨k + n1, by omega, hnew, hnext, (show Keep (fun k _ => k ≠ b) w (wr.drewN nq) from ⟨hB.os, hB.tape, hB.output, hB.size, hB.block⟩).setCell (p := ⟨b, 1, none⟩) _ HSC.out (fun h => h rfl), by simp [World.setCell]; exact HSZ.out⟩
        case measure =>
          rw [hnew.atOf, HSC.out.atOf]
          omega
    · by_cases h0 : n2 = 0
      · subst h0
        have hfin : Hid (R = k) := by rw [Hid, ← hpa.out, passN_stop (by rw [hst.out]; rfl)]; omega
        go_wp2_with (first
          | (go_at_call 35; (with_reducible refine (H1.out _).mono ?_); rintro e w' ⟨rfl, rfl⟩)
          | (go_at_call 35; (with_reducible refine (H2.out _).mono ?_); rintro e w' ⟨rfl, rfl⟩)
          | (go_at_call 56; refine (H3.out _).mono ?_; rintro e w' ⟨rfl, rfl⟩))
        refine bodyPost_ret (results_none rfl _ _ _) rfl ?_
        rw [hfin.out]
        exact ⟨rfl, HSC.out, ⟨hB.os, hB.tape, hB.output, hB.size, hB.block⟩, HSZ.out⟩
      · have qn : ((n2 : Int) == 0) = false := int_f (by omega)
        have hpos : 0 < n2 := by omega
        have hnext : Hid (k + n2 + passN (bytesFrom s (k + n2)) = R) := by
          have e1 : stepN l = n2 := by rw [hst.out]; rfl
          have e2 := passN_step (l := l) (by rw [e1]; exact h0)
          rw [e1] at e2
          rw [Hid, ← hpa.out, e2, ← from_drop, ← hl.out]
          omega
        clear h0
        go_wp2_with (first
          | (go_at_call 35; (with_reducible refine (H1.out _).mono ?_); rintro e w' ⟨rfl, rfl⟩)
          | (go_at_call 35; (with_reducible refine (H2.out _).mono ?_); rintro e w' ⟨rfl, rfl⟩)
          | (go_at_call 56; refine (H3.out _).mono ?_; rintro e w' ⟨rfl, rfl⟩))
        have hnew : Sc ((wr.drewN nq).setCell ⟨b, 1, none⟩ (.int .i64 ((k : Int) + (n2 : Int)))) b s ((k + n2 : Nat) : Int) fa fr := by
          rw [Int.natCast_add]
          exact (show Sc (wr.drewN nq) b s k fa fr from HSC.out).setAt _
        go_roundw
        case rel => exact ⟨k + n2, by omega, hnew, hnext, (show Keep (fun k _ => k ≠ b) w (wr.drewN nq) from ⟨hB.os, hB.tape, hB.output, hB.size, hB.block⟩).setCell (p := ⟨b, 1, none⟩) _ HSC.out (fun h => h rfl), by simp [World.setCell]; exact HSZ.out⟩
        case measure =>
          rw [hnew.atOf, HSC.out.atOf]
          omega
end Go.Proofs.YteedpojchapjgaaDoor

/- The lexer's laws: blanks and a remark between tokens. -/
import Derived.Test.YteedpojchapjgaaDoorBlanks2
import Derived.Test.YteedpojchapjgaaDoorWOwn2
import Derived.Deep.RegionWith
namespace Go.Proofs.YteedpojchapjgaaDoor
open Go.RowKit
set_option linter.unusedVariables false

theorem bt_feed {r : ByteArray} : (∃ j, j < r.size ∧ PlainAid.bt r j = 10) ∨ ∀ c ∈ r.data.toList, ¬ c = 10 := by
  by_cases h : ∀ c ∈ r.data.toList, ¬ c = 10
  · exact .inr h
  · left
    simp only [Classical.not_forall, Classical.not_not] at h
    obtain ⟨c, hc, rfl⟩ := h
    obtain ⟨j, hj, e⟩ := List.mem_iff_getElem.1 hc
    have hj' : j < r.size := by simpa using hj
    refine ⟨j, hj', ?_⟩
    rw [← PlainAid.get_bt r j hj']
    have : r[j] = 10 := e
    rw [this]; rfl
theorem bt_not {r : ByteArray} (h : ∀ c ∈ r.data.toList, ¬ c = 10) {j : Nat} (hj : j < r.size) : (PlainAid.bt r j == 10) = false := by
  rw [← PlainAid.get_bt r j hj]
  refine int_f (fun e => ?_)
  refine h (r[j]) ?_ (UInt8.toNat_inj.1 (show r[j].toNat = (10 : UInt8).toNat by have : (r[j].toNat : Int) = 10 := e; have h2 : (10 : UInt8).toNat = 10 := rfl; omega))
  have : r[j] = r.data.toList[j]'(by simpa using hj) := rfl
  rw [this]
  exact List.getElem_mem _
/-- A remark cannot hold the byte that ends it. -/
theorem blanks_feed (s : ByteArray) (k : Int) (r : ByteArray) (hr : r.size ≤ reachBytes) (w : World) (T : LTabs w) (hf : ∃ j, j < r.size ∧ PlainAid.bt r j = 10) :
    Calls Tryd.prog 9 #[.string s, .int .i64 k, .string r] w fun e w' => e = .returned (.bool true) ∧ LInv w w' := by
  obtain ⟨j, hj, hj10⟩ := hf
  have HB := Lib.hid (begins_i (LInv.start T))
  have hbs := PlainAid.get_bt r
  have hrr : r.size ≤ 281474976710656 := Nat.le_trans hr (by decide)
  clear T hr
  go_enter Tryd.func9, Tryd.ntmps9
  go_wp2_with (go_at_call 21; refine (HB.out).mono ?_; rintro e w1 ⟨rfl, hI⟩; have HI := Lib.hid hI; clear hI)
  go_loopw [6, 7] (fun _ i wr => w1 = wr ∧ ∃ k : Nat, k ≤ j ∧ i = .int .i64 k) (fun _ i _ => j + 1 - (intOf i).toNat)
  case atStart => exact ⟨rfl, 0, Nat.zero_le _, rfl⟩
  case round =>
    obtain ⟨rfl, k, hk, rfl⟩ := hrel
    have hlt : k < r.size := by omega
    have hlt' : (k : Int) < (r.size : Int) := by omega
    by_cases h10 : PlainAid.bt r k = 10
    · have e10 : (PlainAid.bt r k == 10) = true := int_t h10
      go_wp2_with fail
      go_ret
      exact ⟨rfl, HI.out⟩
    · have e10 : (PlainAid.bt r k == 10) = false := int_f h10
      have hne : k ≠ j := fun e => h10 (by rw [e]; exact hj10)
      go_wp2_with fail
      go_roundw
      case rel => exact ⟨by trivial, k + 1, by omega, by go_num⟩
      case measure => simp [intOf]; omega
/-- A text with a fault, or a place that isn't there: nothing is asked. -/
theorem blanks_early (s : ByteArray) (k : Int) (r : ByteArray) (hr : r.size ≤ reachBytes) (w : World) (T : LTabs w) (hf : ∀ c ∈ r.data.toList, ¬ c = 10)
    (h : ¬ (scanX s).2.1 = 0 ∨ (scanX s).2.1 = 0 ∧ k < 0 ∨ (scanX s).2.1 = 0 ∧ 0 ≤ k ∧ ((scanX s).1.length : Int) < k) :
    Calls Tryd.prog 9 #[.string s, .int .i64 k, .string r] w fun e w' => e = .returned (.bool true) ∧ LInv w w' := by
  have hlen := scanX_len s
  have HB := Lib.hid (begins_i (LInv.start T))
  have hbs := PlainAid.get_bt r
  have HF : Hid (∀ j, j < r.size → (PlainAid.bt r j == 10) = false) := fun j hj => bt_not hf hj
  have hrr : r.size ≤ 281474976710656 := Nat.le_trans hr (by decide)
  have HA : Hid (∀ W, LInv w W → Calls Tryd.prog 22 #[.string s] W fun e w' => ∃ oa cap, e = .returned (.tuple #[.slice oa (scanX s).1.length cap, .int .i64 (scanX s).2.1, .agg #[.int .i64 (scanX s).2.2.1, .int .i64 (scanX s).2.2.2]]) ∧ Below W.heap.size W w') := fun W I => by
    refine (scan_row s I).mono ?_
    rintro e w' ⟨u, rfl, h1, h2, hb⟩
    obtain ⟨oa, cap, rfl, _⟩ := tokRow_owns h1
    exact ⟨oa, cap, rfl, hb⟩
  obtain ⟨X, hX⟩ : ∃ X, Hid (X = scanX s) := ⟨_, rfl⟩
  rw [← hX.out] at HA hlen h
  obtain ⟨xs, er, fa, fr⟩ := X
  simp only at HA hlen h
  obtain ⟨n, hn⟩ : ∃ n, n = xs.length := ⟨_, rfl⟩
  rw [← hn] at HA hlen h
  clear T hr hf
  go_enter Tryd.func9, Tryd.ntmps9
  go_wp2_with (go_at_call 21; refine (HB.out).mono ?_; rintro e w1 ⟨rfl, hI⟩; have HI := Lib.hid hI; clear hI)
  go_loopw [6, 7] (fun _ i wr => w1 = wr ∧ ∃ k : Nat, k ≤ r.size ∧ i = .int .i64 k) (fun _ i _ => r.size - (intOf i).toNat)
  case atStart => exact ⟨rfl, 0, Nat.zero_le _, rfl⟩
  case round =>
    obtain ⟨rfl, j, hj, rfl⟩ := hrel
    by_cases hlt : j < r.size
    · have hlt' : (j : Int) < (r.size : Int) := by omega
      have e10 := HF.out j hlt
      go_wp2_with fail
      go_roundw
      case rel => exact ⟨by trivial, j + 1, by omega, by go_num⟩
      case measure => simp [intOf]; omega
    · have hlt' : ¬ (j : Int) < (r.size : Int) := by omega
      clear hbs HF
      rcases h with h | ⟨h, h2⟩ | ⟨h, h2, h3⟩
      · have hne : (er != 0) = true := by simpa using h
        go_wp2_with (go_at_call 22; refine (HA.out _ HI.out).mono ?_; rintro e w2 ⟨oa, cap, rfl, hb⟩; have HJ := Lib.hid ((HI.out.next hb).next ((Below.refl _ w2).alloc (Nat.le_refl _) (.cells #[.int .i64 fa, .int .i64 fr] 27))); clear hb)
        go_ret
        exact ⟨rfl, HJ.out⟩
      · subst h
        have h2' : decide (k < 0) = true := by simpa using h2
        go_wp2_with (go_at_call 22; refine (HA.out _ HI.out).mono ?_; rintro e w2 ⟨oa, cap, rfl, hb⟩; have HJ := Lib.hid ((HI.out.next hb).next ((Below.refl _ w2).alloc (Nat.le_refl _) (.cells #[.int .i64 fa, .int .i64 fr] 27))); clear hb)
        go_ret
        exact ⟨rfl, HJ.out⟩
      · subst h
        have h2' : decide (k < 0) = false := by simp; omega
        have h3' : decide ((n : Int) < k) = true := by simpa using h3
        go_wp2_with (go_at_call 22; refine (HA.out _ HI.out).mono ?_; rintro e w2 ⟨oa, cap, rfl, hb⟩; have HJ := Lib.hid ((HI.out.next hb).next ((Below.refl _ w2).alloc (Nat.le_refl _) (.cells #[.int .i64 fa, .int .i64 fr] 27))); clear hb)
        go_ret
        exact ⟨rfl, HJ.out⟩
def moreB (r : ByteArray) : ByteArray := (⟨#[32, 9, 13, 47, 47]⟩ ++ r) ++ ⟨#[10]⟩
theorem more_list (r : ByteArray) : (moreB r).data.toList = moreL r.data.toList := by
  unfold moreB moreL
  rw [ByteArray.data_append, ByteArray.data_append, Array.toList_append, Array.toList_append]
theorem put_list (s M : ByteArray) (a : Nat) : (s.extract 0 a ++ M ++ s.extract a s.size).data.toList = s.data.toList.take a ++ (M.data.toList ++ s.data.toList.drop a) := by
  rw [ByteArray.data_append, ByteArray.data_append, Array.toList_append, Array.toList_append, Lib.extract_data, Lib.extract_data, List.append_assoc, List.drop_zero, Nat.sub_zero, List.take_of_length_le (l := s.data.toList.drop a) (by simp)]
end Go.Proofs.YteedpojchapjgaaDoor

/- A core runs: what it is told; where it does nothing. -/
import Derived.Test.YtmpljhfinmfnbaaDoorVke
namespace Go.Proofs.YtmpljhfinmfnbaaDoor
open Go.RowKit
set_option linter.unusedVariables false
set_option maxRecDepth 100000
def worksC : Array Value := #[.int .u8 0, .nilFunc, .int .u8 1, .func (.func 62) #[] #[], .int .u8 1, .func (.func 63) #[] #[], .int .u8 2, .func (.func 64) #[] #[], .int .u8 3, .func (.func 65) #[] #[], .int .u8 4, .func (.func 66) #[] #[], .int .u8 5, .func (.func 67) #[] #[], .int .u8 6, .func (.func 68) #[] #[], .int .u8 1, .func (.func 69) #[] #[], .int .u8 1, .func (.func 70) #[] #[], .int .u8 7, .func (.func 71) #[] #[]]
theorem rowD : RowT 42 7 := ⟨_, Tryd.underlying42, rfl, by kernel_rfl⟩
theorem works_any (w : World) : Calls Tryd.prog 42 #[] w fun e w' => e = .returned (.agg worksC) ∧ Below w.heap.size w w' := by
  go_enter Tryd.func42, Tryd.ntmps42
  go_wp2_with (refine wpList_store_row rfl 110 _ _ rfl w.heap.size worksC rfl rfl 110 _ (heap_alloc_new w _) (by kernel_rfl) rfl (by kernel_rfl) ?_)
  refine bodyPost_ret (v := .agg worksC) (results_cell_row rfl _ _ w.heap.size 110 worksC (0, 0) _ rfl (setRow_heap _ _ _ _ _ _ (heap_alloc_new w _)) Tryd.underlying110 rfl (by kernel_rfl)) rfl ?_
  exact ⟨rfl, Below.of_row ((Below.refl _ _).alloc (Nat.le_refl _) _) (Nat.le_refl _) _⟩
/-- A step's end. -/
def StepR (w : World) (p : Nat) (s' : Vm) (F : List Nat) (w' : World) : Prop := ∃ F', VmS w' p s' F' ∧ KeepV F w w' ∧ ∀ k ∈ F', k ∈ F ∨ w.heap.size ≤ k
theorem VmS.stay {w w' : World} {p : Nat} {s : Vm} {F : List Nat} (h : VmS w p s F) (hb : Below w.heap.size w w') : StepR w p s F w' := ⟨F, h.below hb, keepV_below hb, fun k hk => .inl hk⟩
section
variable {w : World} {p : Nat} {s : Vm} {F : List Nat} {cv pv : Value} {sd : Option Addr} {L : List (Co × Value × Value)} {PL : List Nat}
theorem VmX.len (h : VmX w p s F cv pv sd L PL) : L.length = s.cores.length := by rw [← h.fst, List.length_map]
theorem VmX.rg (h : VmX w p s F cv pv sd L PL) (R : VmR s) : ∀ x ∈ L, x.1.regs.length = 16 := fun x hx => (R.cores x.1 (by rw [← h.fst]; exact List.mem_map_of_mem hx)).regs
theorem VmX.core (h : VmX w p s F cv pv sd L PL) {k : Nat} {c : Co} (hc : s.cores[k]? = some c) : ∃ bv cvv, L[k]? = some (c, bv, cvv) := by
  rw [← h.fst, List.getElem?_map] at hc
  cases e : L[k]? with
  | none => rw [e] at hc; cases hc
  | some x =>
    rw [e] at hc
    injection hc with hc
    exact ⟨x.2.1, x.2.2, by rw [← hc]⟩
theorem VmX.cop (h : VmX w p s F cv pv sd L PL) (R : VmR s) {k : Nat} {c : Co} {bv cvv : Value} (hk : L[k]? = some (c, bv, cvv)) : ∃ g cap, cv = .slice (some ⟨g, 0, none⟩) L.length cap ∧ CoP w g (k * 20) c bv cvv := by
  obtain ⟨g, cap, e, h2, _⟩ := h.co (h.rg R) hk
  exact ⟨g, cap, e, h2, h.code _ (List.mem_of_getElem? hk), h.rg R _ (List.mem_of_getElem? hk)⟩
set_option maxHeartbeats 4000000 in
theorem p_Run_no (h : VmX w p s F cv pv sd L PL) (k : Int) (hk : coreAt s k = none) : Calls Tryd.prog 17 #[.pointer (some ⟨p, 0, none⟩), .int .i64 k] w fun e w' => e = .returned (.tuple #[ddV d0, .int .i64 180]) ∧ Below w.heap.size w w' := by
  have hk2 : ¬ (0 ≤ k ∧ k < (L.length : Int)) := by have := core_no hk; rw [h.len]; omega
  have al := (Below.refl w.heap.size w).alloc (Nat.le_refl _) (.cells #[.int .u8 0, .int .i64 0, .int .i64 0, .int .i64 0, .int .i64 0, .int .i64 0, .bool false] 42)
  have HR : Hid (Calls Tryd.prog 39 #[.pointer (some ⟨p, 0, none⟩), .int .i64 k] (w.alloc (.cells #[.int .u8 0, .int .i64 0, .int .i64 0, .int .i64 0, .int .i64 0, .int .i64 0, .bool false] 42)) fun e w' => e = .returned (.int .i64 180) ∧ w.alloc (.cells #[.int .u8 0, .int .i64 0, .int .i64 0, .int .i64 0, .int .i64 0, .int .i64 0, .bool false] 42) = w') := by
    have h1 := p_refusal (h.below al) k
    rwa [if_neg hk2] at h1
  have O1 := Own.new w 42 #[.int .u8 0, .int .i64 0, .int .i64 0, .int .i64 0, .int .i64 0, .int .i64 0, .bool false]
  have HB := Lib.hid al
  obtain ⟨W1, hW1⟩ : ∃ W, W = w.alloc (.cells #[.int .u8 0, .int .i64 0, .int .i64 0, .int .i64 0, .int .i64 0, .int .i64 0, .bool false] 42) := ⟨_, rfl⟩
  rw [← hW1] at O1 HB HR
  have HW1 := Lib.hid hW1
  clear h hk hk2 al hW1
  go_enter Tryd.func17, Tryd.ntmps17
  go_upto_region 1 with fail
  rw [← HW1.out]
  clear HW1
  go_wp2_with (first | (go_at_call 39; refine HR.out.mono ?_; rintro e w' ⟨rfl, rfl⟩) | (refine st rowD rfl rfl O1 rfl rfl (by rfl) (by rfl) (by kernel_rfl) ?_))
  exact p_ret2 rowD rfl (O1.row _) rfl rfl rfl rfl ⟨rfl, Below.of_row HB.out (Nat.le_refl _) _⟩
set_option maxHeartbeats 4000000 in
theorem p_Run_hal (h : VmX w p s F cv pv sd L PL) (R : VmR s) (kk : Nat) {c : Co} (hc : s.cores[kk]? = some c) (hh : c.hal = true) : Calls Tryd.prog 17 #[.pointer (some ⟨p, 0, none⟩), .int .i64 (kk : Int)] w fun e w' => e = .returned (.tuple #[ddV d0, .int .i64 0]) ∧ Below w.heap.size w w' := by
  obtain ⟨bv, cvv, hL⟩ := h.core hc
  have hlt : kk < L.length := (List.getElem?_eq_some_iff.1 hL).1
  have al := (Below.refl w.heap.size w).alloc (Nat.le_refl _) (.cells #[.int .u8 0, .int .i64 0, .int .i64 0, .int .i64 0, .int .i64 0, .int .i64 0, .bool false] 42)
  have hX := h.below al
  have HR : Hid (Calls Tryd.prog 39 #[.pointer (some ⟨p, 0, none⟩), .int .i64 (kk : Int)] (w.alloc (.cells #[.int .u8 0, .int .i64 0, .int .i64 0, .int .i64 0, .int .i64 0, .int .i64 0, .bool false] 42)) fun e w' => e = .returned (.int .i64 0) ∧ w.alloc (.cells #[.int .u8 0, .int .i64 0, .int .i64 0, .int .i64 0, .int .i64 0, .int .i64 0, .bool false] 42) = w') := by
    have h1 := p_refusal hX (kk : Int)
    rwa [if_pos ⟨by omega, by omega⟩] at h1
  have O1 := Own.new w 42 #[.int .u8 0, .int .i64 0, .int .i64 0, .int .i64 0, .int .i64 0, .int .i64 0, .bool false]
  have HB := Lib.hid al
  obtain ⟨W1, hW1⟩ : ∃ W, W = w.alloc (.cells #[.int .u8 0, .int .i64 0, .int .i64 0, .int .i64 0, .int .i64 0, .int .i64 0, .bool false] 42) := ⟨_, rfl⟩
  rw [← hW1] at O1 HB HR hX
  have HW1 := Lib.hid hW1
  obtain ⟨g, cap, e1, hco⟩ := hX.cop R hL
  have p0 : W1.cell? ⟨p, 0, none⟩ = some (.slice (some ⟨g, 0, none⟩) L.length cap) := by rw [← e1]; exact row_cellsO hX.own 0 _ rfl
  have c1 : W1.cell? ⟨g, kk * 20 + 1, none⟩ = some (.bool c.hal) := hco.hal
  have hltI : (kk : Int) < (L.length : Int) := by omega
  have hk0 : (0 : Int) ≤ (kk : Int) := by omega
  rw [hh] at c1
  clear h R hco hX al hW1
  go_enter Tryd.func17, Tryd.ntmps17
  go_upto_region 1 with fail
  rw [← HW1.out]
  clear HW1
  go_wp2_with (first | (go_at_call 39; refine HR.out.mono ?_; rintro e w' ⟨rfl, rfl⟩) | (refine st rowD rfl rfl O1 rfl rfl (by rfl) (by rfl) (by kernel_rfl) ?_))
  exact p_ret2 rowD rfl (O1.row _) rfl rfl rfl rfl ⟨rfl, Below.of_row HB.out (Nat.le_refl _) _⟩
set_option maxHeartbeats 4000000 in
theorem p_Run_wait (h : VmX w p s F cv pv sd L PL) (R : VmR s) (kk : Nat) {c : Co} (hc : s.cores[kk]? = some c) (hh : c.hal = false) (hw : c.waits s.room = true) : Calls Tryd.prog 17 #[.pointer (some ⟨p, 0, none⟩), .int .i64 (kk : Int)] w fun e w' => e = .returned (.tuple #[ddV d0, .int .i64 181]) ∧ Below w.heap.size w w' := by
  obtain ⟨bv, cvv, hL⟩ := h.core hc
  have hlt : kk < L.length := (List.getElem?_eq_some_iff.1 hL).1
  have al := (Below.refl w.heap.size w).alloc (Nat.le_refl _) (.cells #[.int .u8 0, .int .i64 0, .int .i64 0, .int .i64 0, .int .i64 0, .int .i64 0, .bool false] 42)
  have hX := h.below al
  have HR : Hid (Calls Tryd.prog 39 #[.pointer (some ⟨p, 0, none⟩), .int .i64 (kk : Int)] (w.alloc (.cells #[.int .u8 0, .int .i64 0, .int .i64 0, .int .i64 0, .int .i64 0, .int .i64 0, .bool false] 42)) fun e w' => e = .returned (.int .i64 0) ∧ w.alloc (.cells #[.int .u8 0, .int .i64 0, .int .i64 0, .int .i64 0, .int .i64 0, .int .i64 0, .bool false] 42) = w') := by
    have h1 := p_refusal hX (kk : Int)
    rwa [if_pos ⟨by omega, by omega⟩] at h1
  have O1 := Own.new w 42 #[.int .u8 0, .int .i64 0, .int .i64 0, .int .i64 0, .int .i64 0, .int .i64 0, .bool false]
  have HB := Lib.hid al
  obtain ⟨W1, hW1⟩ : ∃ W, W = w.alloc (.cells #[.int .u8 0, .int .i64 0, .int .i64 0, .int .i64 0, .int .i64 0, .int .i64 0, .bool false] 42) := ⟨_, rfl⟩
  rw [← hW1] at O1 HB HR hX
  have HW1 := Lib.hid hW1
  obtain ⟨g, cap, e1, hco⟩ := hX.cop R hL
  have p0 : W1.cell? ⟨p, 0, none⟩ = some (.slice (some ⟨g, 0, none⟩) L.length cap) := by rw [← e1]; exact row_cellsO hX.own 0 _ rfl
  have c1 : W1.cell? ⟨g, kk * 20 + 1, none⟩ = some (.bool c.hal) := hco.hal
  have hltI : (kk : Int) < (L.length : Int) := by omega
  have hk0 : (0 : Int) ≤ (kk : Int) := by omega
  rw [hh] at c1
  have HMW : Hid (Calls Tryd.prog 40 #[.pointer (some ⟨g, kk * 20, none⟩), .int .i64 s.room] W1 fun e w' => e = .returned (.bool (c.waits s.room)) ∧ Below W1.heap.size W1 w') := by
    have hcr := R.cores c (List.mem_of_getElem? hc)
    obtain ⟨ab, cb, e2, _⟩ := ownsQ_slice (hX.buf _ (List.mem_of_getElem? hL))
    exact p_mustWait hco hcr.pc hcr.len e2 s.room
  have p1 : W1.cell? ⟨p, 1, none⟩ = some (.int .i64 s.room) := row_cellsO hX.own 1 _ rfl
  rw [hw] at HMW
  clear h R hco hX al hW1
  go_enter Tryd.func17, Tryd.ntmps17
  go_upto_region 1 with fail
  rw [← HW1.out]
  clear HW1
  go_wp2_with (first | (go_at_call 39; refine HR.out.mono ?_; rintro e w' ⟨rfl, rfl⟩) | (go_at_call 40; refine HMW.out.mono ?_; rintro e w2 ⟨rfl, hb2⟩; have O2 := O1.below hb2; have HB2 := Lib.hid (HB.out.trans (hb2.mono HB.out.size)); clear hb2) | (refine st rowD rfl rfl O2 rfl rfl (by rfl) (by rfl) (by kernel_rfl) ?_))
  exact p_ret2 rowD rfl (O2.row _) rfl rfl rfl rfl ⟨rfl, Below.of_row HB2.out (Nat.le_refl _) _⟩
end
end Go.Proofs.YtmpljhfinmfnbaaDoor

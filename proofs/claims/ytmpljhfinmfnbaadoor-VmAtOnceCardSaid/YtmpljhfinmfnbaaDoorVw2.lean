/- Whether a core must wait; the oldest store is taken; memory's words. -/
import Derived.Test.YtmpljhfinmfnbaaDoorVw1
namespace Go.Proofs.YtmpljhfinmfnbaaDoor
open Go.RowKit
set_option linter.unusedVariables false
set_option maxRecDepth 100000
theorem below_both {w W : World} (h : Below w.heap.size w W) (p : Addr) (v : Value) : Below w.heap.size (w.setCell p v) (W.setCell p v) := by
  refine ⟨h.os, h.tape, h.output, by simp [World.setCell, h.size], fun k hk => ?_⟩
  simp only [World.setCell, Array.getElem?_modify]
  rw [h.block k hk]
theorem drains_p (k : Int) (w : World) : Calls Tryd.prog 61 #[.int .u8 k] w fun e w' => e = .returned (.bool (drainB k)) ∧ w = w' := by
  unfold drainB
  by_cases h5 : k = 5
  · subst h5
    go_enter Tryd.func61, Tryd.ntmps61
    go_wp2
    go_ret
    exact ⟨rfl, rfl⟩
  by_cases h6 : k = 6
  · subst h6
    go_enter Tryd.func61, Tryd.ntmps61
    go_wp2
    go_ret
    exact ⟨rfl, rfl⟩
  by_cases h7 : k = 7
  · subst h7
    go_enter Tryd.func61, Tryd.ntmps61
    go_wp2
    go_ret
    exact ⟨rfl, rfl⟩
  · have e : (k == 5 || (k == 6 || k == 7)) = false := by simp [h5, h6, h7]
    rw [e]
    have e5 : (k == 5) = false := by simpa using h5
    have e6 : (k == 6) = false := by simpa using h6
    have e7 : (k == 7) = false := by simpa using h7
    go_enter Tryd.func61, Tryd.ntmps61
    go_wp2
    go_ret
    exact ⟨rfl, rfl⟩
set_option maxHeartbeats 4000000 in
theorem p_mustWait {w : World} {g o : Nat} {c : Co} {bv cv : Value} (h : CoP w g o c bv cv) (hp : 0 ≤ c.pc ∧ c.pc < c.code.length) (hl : c.code.length ≤ 16384) {ab : Option Addr} {cb : Nat} (hb : bv = .slice ab c.buf.length cb) (room : Int) :
    Calls Tryd.prog 40 #[.pointer (some ⟨g, o, none⟩), .int .i64 room] w fun e w' => e = .returned (.bool (c.waits room)) ∧ Below w.heap.size w w' := by
  have HN := Lib.hid (p_next h hp hl)
  have hgw : g < w.heap.size := lt_of_at h.pc
  have HB : Hid (∀ X, Below w.heap.size w X → X.cell? ⟨g, o + 18, none⟩ = some (.slice ab c.buf.length cb)) := fun X hX => (hX.cell (p := ⟨g, o + 18, none⟩) hgw).trans (by rw [← hb]; exact h.buf)
  have hw : c.waits room = bif drainB c.next.k then decide (0 < c.buf.length) else (c.next.k == 4 && decide (room ≤ c.buf.length)) := rfl
  rw [hw]
  clear hw h hp hl hb hgw
  generalize c.next = i at HN ⊢
  obtain ⟨k, oo, d, a, bb, ad, tt, wd, fr⟩ := i
  simp only
  generalize c.buf.length = n at HB ⊢
  have HD : Hid (∀ X, Calls Tryd.prog 61 #[.int .u8 k] X fun e w' => e = .returned (.bool (drainB k)) ∧ X = w') := fun X => drains_p k X
  replace HN : Hid (Calls Tryd.prog 41 #[.pointer (some ⟨g, o, none⟩)] w fun e w' => e = .returned (.agg #[.int .u8 k, .int .u8 oo, .int .i64 d, .int .i64 a, .int .i64 bb, .int .i64 ad, .int .i64 tt, .int .i64 wd, .int .i64 fr]) ∧ Below w.heap.size w w') := HN.out
  have hfld : ∀ X : World, (Instr.field 87 (.agg #[.int .u8 k, .int .u8 oo, .int .i64 d, .int .i64 a, .int .i64 bb, .int .i64 ad, .int .i64 tt, .int .i64 wd, .int .i64 fr]) 0).run Tryd.prog X = .ok (.int .u8 k) X := fun _ => by kernel_rfl
  generalize hdr : drainB k = dr at HD
  cases dr with
  | true =>
    rw [cond_true]
    go_enter Tryd.func40, Tryd.ntmps40
    go_wp2_with (first | (go_at_call 41; refine HN.out.mono ?_; rintro e w2 ⟨rfl, hb⟩; have c18 := HB.out _ hb; have HB2 := Lib.hid hb; clear hb) | (go_at_call 61; refine (HD.out _).mono ?_; rintro e w3 ⟨rfl, rfl⟩))
    go_ret
    refine ⟨ret_bool ?_, HB2.out⟩
    first | rfl | simp
  | false =>
    rw [cond_false]
    by_cases h4 : k = 4
    · subst h4
      go_enter Tryd.func40, Tryd.ntmps40
      go_wp2_with (first | (go_at_call 41; refine HN.out.mono ?_; rintro e w2 ⟨rfl, hb⟩; have c18 := HB.out _ hb; have HB2 := Lib.hid hb; clear hb) | (go_at_call 61; refine (HD.out _).mono ?_; rintro e w3 ⟨rfl, rfl⟩))
      go_ret
      refine ⟨ret_bool ?_, HB2.out⟩
      first | rfl | simp
    · have e4 : (k == 4) = false := by simpa using h4
      rw [e4]
      go_enter Tryd.func40, Tryd.ntmps40
      go_wp2_with (first | (go_at_call 41; refine HN.out.mono ?_; rintro e w2 ⟨rfl, hb⟩; have c18 := HB.out _ hb; have HB2 := Lib.hid hb; clear hb) | (go_at_call 61; refine (HD.out _).mono ?_; rintro e w3 ⟨rfl, rfl⟩))
      go_ret
      exact ⟨rfl, HB2.out⟩
end Go.Proofs.YtmpljhfinmfnbaaDoor

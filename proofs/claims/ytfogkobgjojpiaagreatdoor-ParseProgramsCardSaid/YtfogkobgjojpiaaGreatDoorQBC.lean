/- The proof, part 29: texts that belong together, in one. -/
import Derived.Test.YtfogkobgjojpiaaGreatDoorQBB
import Derived.Test.YtfogkobgjojpiaaGreatDoorQAK
import Derived.Deep.LoopGhost
set_option maxRecDepth 100000
set_option maxHeartbeats 20000000
namespace Go.Proofs.YtfogkobgjojpiaaGreatDoor
open Go.RowKit
set_option linter.unusedVariables false
theorem r_fail_no {c : Par} {w : World} {k : Nat} {p q : Int} (R : Rk c w k p q) (hq : ¬ q = 0) (r : Int) :
 Calls Tryz.prog 122 #[c.ptr, .int .i64 r] w fun e w' => e = .returned (.tuple #[]) ∧ Below w.heap.size w w' := by
 have HO := r_ok R
 rw [show (q == 0) = false by simpa using hq] at HO
 have HO := Lib.hid HO
 clear R hq
 unfold Par.ptr at HO ⊢
 go_enter Tryz.func122, Tryz.ntmps122
 go_wp2_with (go_at_call 29; refine (HO.out).mono ?_; rintro e w1 ⟨rfl, hb⟩; have HB := Lib.hid hb; clear hb)
 go_end0
 exact ⟨rfl, HB.out⟩
theorem r_fail_yes {c : Par} {w : World} {k : Nat} {p : Int} (R : Rk c w k p 0) (r : Int) :
 Calls Tryz.prog 122 #[c.ptr, .int .i64 r] w fun e w' => e = .returned (.tuple #[]) ∧ Fr c w w' ∧ Rk c w' k (c.nx k).pos r := by
 have HO := Lib.hid (r_ok R)
 have HH : Hid (∀ W, Rk c W k p 0 → Calls Tryz.prog 121 #[c.ptr] W fun e w' => e = .returned (tkV (c.nx k)) ∧ Below W.heap.size W w') := fun W h => r_here h
 obtain ⟨t, ht⟩ : ∃ t, t = c.nx k := ⟨_, rfl⟩
 rw [← ht] at HH ⊢
 obtain ⟨tk, tx, tw, tp⟩ := t
 have HR := Lib.hid R
 clear ht R
 unfold tkV Par.ptr at *
 have F3 : ∀ (a b c d : Value) (w : World), (Instr.field 108 (.agg #[a, b, c, d]) 3).run Tryz.prog w = .ok d w := fun a b c d w => by kernel_rfl
 go_enter Tryz.func122, Tryz.ntmps122
 go_wp2_with (go_at_call 29; refine (HO.out).mono ?_; rintro e w1 ⟨rfl, hb⟩; have A1 := Lib.hid ((Ak.start HR.out).below hb); clear hb)
 go_at_call 121
 refine (HH.out _ (A1.out.rd HR.out)).mono ?_
 rintro e w2 ⟨rfl, hb⟩
 have A2 := Lib.hid (A1.out.below hb)
 obtain ⟨⟨_, _, _, c3, c4⟩, f⟩ := A2.out.cells
 have hX := A2.out.lt
 clear hb A1
 go_wp2_with fail
 go_end0
 have A3 := A2.out.flt tp r
 exact ⟨rfl, A3.fr, A3.rd HR.out⟩
theorem r_fail {c : Par} {w : World} {σ : Sr} (R : Rs c w σ) (r : Int) :
 Calls Tryz.prog 122 #[c.ptr, .int .i64 r] w fun e w' => e = .returned (.tuple #[]) ∧ Fr c w w' ∧ Rs c w' (σ.fail c.L r) := by
 obtain ⟨k, R, hk⟩ := R
 obtain ⟨ts, p, q⟩ := σ
 simp only at R hk
 subst hk
 by_cases hq : q = 0
 · subst hq
   refine (r_fail_yes R r).mono fun e w' ⟨he, hf, hr⟩ => ⟨he, hf, ?_⟩
   have e : (⟨c.at k, p, 0⟩ : Sr).fail c.L r = ⟨c.at k, (c.nx k).pos, r⟩ := by
    unfold Sr.fail
    rw [if_pos (by rfl), here_nx]
   rw [e]
   exact ⟨k, hr, rfl⟩
 · refine (r_fail_no R hq r).mono fun e w' ⟨he, hb⟩ => ⟨he, .of_below hb, ?_⟩
   rw [bad_fail (show (⟨c.at k, p, q⟩ : Sr).ok = false by unfold Sr.ok; simpa using hq)]
   exact ⟨k, R.below hb, rfl⟩
theorem r_is {c : Par} {w : World} {k : Nat} {p q : Int} (R : Rk c w k p q) (s : ByteArray) :
 Calls Tryz.prog 119 #[c.ptr, .string s] w fun e w' => e = .returned (.bool (isK c.L s.data.toList (c.at k))) ∧ Below w.heap.size w w' := by
 unfold isK
 rw [here_nx]
 have HH := Lib.hid (r_here R)
 obtain ⟨t, ht⟩ : ∃ t, t = c.nx k := ⟨_, rfl⟩
 rw [← ht] at HH ⊢
 obtain ⟨tk, tx, tw, tp⟩ := t
 clear ht R
 have e : ((⟨tk, tx, tw, tp⟩ : Tk).tx == s.data.toList) = (tx.toList == s.toList) := by rw [Lib.toList_data, Lib.toList_data]; rfl
 rw [e]
 show Calls _ _ _ _ (fun e w' => e = .returned (.bool ((tk == 2 || tk == 4) && tx.toList == s.toList)) ∧ _)
 clear e
 unfold tkV Par.ptr at *
 by_cases h2 : tk = 2
 · subst h2
   go_enter Tryz.func119, Tryz.ntmps119
   go_wp2_with (go_at_call 121; refine (HH.out).mono ?_; rintro e w1 ⟨rfl, hb⟩; have HB := Lib.hid hb; clear hb)
   go_ret
   exact ⟨rfl, HB.out.alloc HB.out.size _⟩
 · by_cases h4 : tk = 4
   · subst h4
     clear h2
     go_enter Tryz.func119, Tryz.ntmps119
     go_wp2_with (go_at_call 121; refine (HH.out).mono ?_; rintro e w1 ⟨rfl, hb⟩; have HB := Lib.hid hb; clear hb)
     go_ret
     exact ⟨rfl, HB.out.alloc HB.out.size _⟩
   · have q2 : (tk == 2) = false := by simpa using h2
     have q4 : (tk == 4) = false := by simpa using h4
     clear h2 h4
     go_enter Tryz.func119, Tryz.ntmps119
     go_wp2_with (go_at_call 121; refine (HH.out).mono ?_; rintro e w1 ⟨rfl, hb⟩; have HB := Lib.hid hb; clear hb)
     go_ret
     exact ⟨by rw [q2, q4]; rfl, HB.out.alloc HB.out.size _⟩
theorem sr_ok {c : Par} {k : Nat} {p q : Int} : (⟨c.at k, p, q⟩ : Sr).ok = (q == 0) := rfl
theorem r_take {c : Par} {w : World} {σ : Sr} (R : Rs c w σ) (s : ByteArray) :
 Calls Tryz.prog 69 #[c.ptr, .string s] w fun e w' => e = .returned (.bool (σ.has c.L s.data.toList)) ∧ Fr c w w' ∧ Rs c w' (σ.take c.L s.data.toList) := by
 obtain ⟨k, R, hk⟩ := R
 obtain ⟨ts, p, q⟩ := σ
 simp only at R hk
 subst hk
 have HO := r_ok R
 have HI : Hid (∀ W, Rk c W k p q → Calls Tryz.prog 119 #[c.ptr, .string s] W fun e w' => e = .returned (.bool (isK c.L s.data.toList (c.at k))) ∧ Below W.heap.size W w') := fun W h => r_is h s
 have hk6 : k ≤ 65536 := by have := R.s.small.1; have := R.le; omega
 by_cases hq : q = 0
 · subst hq
   rw [show ((0 : Int) == 0) = true by rfl] at HO
   by_cases hi : isK c.L s.data.toList (c.at k) = true
   · have hh : (⟨c.at k, p, 0⟩ : Sr).has c.L s.data.toList = true := by unfold Sr.has; rw [sr_ok, hi]; rfl
     unfold Sr.take
     rw [hh, if_pos rfl]
     have hlt := Lib.hid (show k < c.toks.length by
      have := isK_ne hi
      rw [Par.at_tail, Par.at_len, Par.at_len] at this
      omega)
     rw [hi] at HI
     have HO := Lib.hid HO
     have HR := Lib.hid R
     clear R hi hh
     unfold Par.ptr at *
     go_enter Tryz.func69, Tryz.ntmps69
     go_wp2_with (first
      | (go_at_call 29; refine (HO.out).mono ?_; rintro e w1 ⟨rfl, hb⟩; have A1 := Lib.hid ((Ak.start HR.out).below hb); clear hb)
      | (go_at_call 119; refine (HI.out _ (A1.out.rd HR.out)).mono ?_; rintro e w2 ⟨rfl, hb⟩; have A2 := Lib.hid (A1.out.below hb); obtain ⟨⟨_, x1, _⟩, f⟩ := A2.out.cells; have hX := A2.out.lt; clear hb))
     go_ret
     have A3 := A2.out.step hlt.out
     exact ⟨rfl, A3.fr, k + 1, A3.rd HR.out, by show (c.at k).tail = _; rw [Par.at_tail]⟩
   · have hi' : isK c.L s.data.toList (c.at k) = false := by simpa using hi
     have hh : (⟨c.at k, p, 0⟩ : Sr).has c.L s.data.toList = false := by unfold Sr.has; rw [sr_ok, hi']; rfl
     unfold Sr.take
     rw [hh, if_neg (by decide)]
     rw [hi'] at HI
     have HO := Lib.hid HO
     have HR := Lib.hid R
     clear R hi hi' hh
     unfold Par.ptr at *
     go_enter Tryz.func69, Tryz.ntmps69
     go_wp2_with (first
      | (go_at_call 29; refine (HO.out).mono ?_; rintro e w1 ⟨rfl, hb⟩; have A1 := Lib.hid ((Ak.start HR.out).below hb); clear hb)
      | (go_at_call 119; refine (HI.out _ (A1.out.rd HR.out)).mono ?_; rintro e w2 ⟨rfl, hb⟩; have A2 := Lib.hid (A1.out.below hb); clear hb))
     go_ret
     exact ⟨rfl, A2.out.fr, k, A2.out.rd HR.out, rfl⟩
 · have hh : (⟨c.at k, p, q⟩ : Sr).ok = false := by rw [sr_ok]; simpa using hq
   rw [bad_has hh, bad_take hh]
   rw [show (q == 0) = false by simpa using hq] at HO
   have HO := Lib.hid HO
   have HR := Lib.hid R
   clear R hq hh
   unfold Par.ptr at *
   go_enter Tryz.func69, Tryz.ntmps69
   go_wp2_with (go_at_call 29; refine (HO.out).mono ?_; rintro e w1 ⟨rfl, hb⟩; have A1 := Lib.hid ((Ak.start HR.out).below hb); clear hb)
   go_ret
   exact ⟨rfl, A1.out.fr, k, A1.out.rd HR.out, rfl⟩
theorem r_want {c : Par} {w : World} {σ : Sr} (R : Rs c w σ) (s : ByteArray) :
 Calls Tryz.prog 123 #[c.ptr, .string s] w fun e w' => e = .returned (.tuple #[]) ∧ Fr c w w' ∧ Rs c w' (σ.want c.L s.data.toList) := by
 have HT := r_take R s
 unfold Sr.take at HT
 unfold Sr.want
 by_cases h : σ.has c.L s.data.toList = true
 · rw [if_pos h]
   rw [if_pos h, h] at HT
   have HT := Lib.hid HT
   clear R h
   unfold Par.ptr at *
   go_enter Tryz.func123, Tryz.ntmps123
   go_wp2_with (go_at_call 69; refine (HT.out).mono ?_; rintro e w1 ⟨rfl, hf, hr⟩; have HF := Lib.hid hf; have HR := Lib.hid hr; clear hf hr)
   go_end0
   exact ⟨rfl, HF.out, HR.out⟩
 · rw [if_neg h]
   rw [if_neg h, show σ.has c.L s.data.toList = false by simpa using h] at HT
   have HT := Lib.hid HT
   have HL : Hid (∀ W, Rs c W σ → Calls Tryz.prog 122 #[c.ptr, .int .i64 2] W fun e w' => e = .returned (.tuple #[]) ∧ Fr c W w' ∧ Rs c w' (σ.fail c.L 2)) := fun W h => r_fail h 2
   clear R h
   unfold Par.ptr at *
   go_enter Tryz.func123, Tryz.ntmps123
   go_wp2_with (first
    | (go_at_call 69; refine (HT.out).mono ?_; rintro e w1 ⟨rfl, hf, hr⟩; have HF := Lib.hid hf; have HR := Lib.hid hr; clear hf hr)
    | (go_at_call 122; refine (HL.out _ HR.out).mono ?_; rintro e w2 ⟨rfl, hf, hr⟩; have HF2 := Lib.hid hf; have HR2 := Lib.hid hr; clear hf hr))
   go_end0
   exact ⟨rfl, HF.out.trans HF2.out, HR2.out⟩
open Go.RowKit
set_option linter.unusedVariables false
def As (c : Par) (w W : World) (σ : Sr) : Prop := ∃ k, Ak c w W k σ.pos σ.rule ∧ σ.ts = c.at k
section
variable {c : Par} {w W W' : World} {σ σ' : Sr}
theorem Rs.s (R : Rs c w σ) : RkS c w := by obtain ⟨k, R, _⟩ := R; exact R.s
theorem Rs.lt (R : Rs c w σ) : c.X < w.heap.size := by obtain ⟨k, R, _⟩ := R; exact R.lt
theorem Rs.as (R : Rs c w σ) : As c w w σ := by obtain ⟨k, R, h⟩ := R; exact ⟨k, Ak.start R, h⟩
theorem As.fr (A : As c w W σ) : Fr c w W := by obtain ⟨k, A, _⟩ := A; exact A.fr
theorem As.rs (A : As c w W σ) (S : RkS c w) : Rs c W σ := by obtain ⟨k, A, h⟩ := A; exact ⟨k, ⟨S.keep A.fr, A.pos, A.le⟩, h⟩
theorem As.lt (A : As c w W σ) : c.X < W.heap.size := by obtain ⟨k, A, _⟩ := A; exact A.lt
theorem As.alloc (A : As c w W σ) (o : Obj) : As c w (W.alloc o) σ := by obtain ⟨k, A, h⟩ := A; exact ⟨k, A.alloc o, h⟩
theorem As.below (A : As c w W σ) (hb : Below W.heap.size W W') : As c w W' σ := by obtain ⟨k, A, h⟩ := A; exact ⟨k, A.below hb, h⟩
theorem As.call (A : As c w W σ) (hf : Fr c W W') (R : Rs c W' σ') : As c w W' σ' := by
 obtain ⟨k, A, h⟩ := A
 obtain ⟨k', R, h'⟩ := R
 exact ⟨k', ⟨A.fr.trans hf, R.pos, R.le⟩, h'⟩
theorem As.setRow (A : As c w W σ) {g : Nat} (hg : w.heap.size ≤ g) (hx : c.X ≠ g) (cs : Array Value) : As c w (W.setRow g cs) σ := by
 obtain ⟨k, A, h⟩ := A; exact ⟨k, A.setRow hg hx cs, h⟩
theorem As.drew (A : As c w W σ) : As c w W.drew σ := by obtain ⟨k, A, h⟩ := A; exact ⟨k, A.drew, h⟩
theorem As.drewN (A : As c w W σ) (n : Nat) : As c w (W.drewN n) σ := by obtain ⟨k, A, h⟩ := A; exact ⟨k, A.drewN n, h⟩
theorem As.open (A : As c w W σ) (S : RkS c w) (hn : σ.step.ts.length + 1 = σ.ts.length) : ∃ k : Nat, W.cell? ⟨c.X, 1, none⟩ = some (.int .i64 (k : Int)) ∧ W.frozen? ⟨c.X, 1, none⟩ = false ∧ k ≤ 65536 ∧ c.X < W.heap.size ∧ As c w (W.setCell ⟨c.X, 1, none⟩ (.int .i64 ((k : Int) + 1))) σ.step := by
 obtain ⟨k, A, h⟩ := A
 obtain ⟨⟨_, x1, _⟩, f⟩ := A.cells
 have hlt : k < c.toks.length := by
  have e : σ.step.ts = c.at (k + 1) := by show σ.ts.tail = _; rw [h, Par.at_tail]
  rw [e, h, Par.at_len, Par.at_len] at hn
  omega
 exact ⟨k, x1, f 1, by have := S.small.1; omega, A.lt, k + 1, A.step hlt, by show σ.ts.tail = _; rw [h, Par.at_tail]⟩
theorem r_hereS (R : Rs c w σ) : Calls Tryz.prog 121 #[c.ptr] w fun e w' => e = .returned (tkV (hereM c.L σ.ts)) ∧ Below w.heap.size w w' := by
 obtain ⟨k, R, h⟩ := R
 rw [h, here_nx]; exact r_here R
theorem r_okS (R : Rs c w σ) : Calls Tryz.prog 29 #[c.ptr] w fun e w' => e = .returned (.bool σ.ok) ∧ Below w.heap.size w w' := by
 obtain ⟨k, R, h⟩ := R
 exact r_ok R
theorem r_isS (R : Rs c w σ) (s : ByteArray) : Calls Tryz.prog 119 #[c.ptr, .string s] w fun e w' => e = .returned (.bool (isK c.L s.data.toList σ.ts)) ∧ Below w.heap.size w w' := by
 obtain ⟨k, R, h⟩ := R
 rw [h]; exact r_is R s
end
def RsPost {α : Type} (c : Par) (w : World) (y : α × Sr) (V : α → Value → World → Prop) (e : Ending) (w' : World) : Prop :=
 Fr c w w' ∧ ∃ v, e = .returned v ∧ V y.1 v w' ∧ Rs c w' y.2
def UnC (n : Nat) : Prop := ∀ (c : Par) (w : World) (σ : Sr) (d : Int), Rs c w σ → 0 ≤ d → d ≤ 64 → (σ.ok = true → 3 * σ.ts.length + 1 ≤ n) →
 Calls Tryz.prog 221 #[c.ptr, .int .i64 d] w (RsPost c w (unM c.L n d σ) (exR w.heap.size))
def ExC (n : Nat) : Prop := ∀ (c : Par) (w : World) (σ : Sr) (v d : Int), Rs c w σ → 1 ≤ v → v ≤ 9 → 0 ≤ d → d ≤ 64 → (σ.ok = true → 3 * σ.ts.length + 2 ≤ n) →
 Calls Tryz.prog 190 #[c.ptr, .int .i64 v, .int .i64 d] w (RsPost c w (exM c.L n v d σ) (exR w.heap.size))
end Go.Proofs.YtfogkobgjojpiaaGreatDoor

/- The lexer's reference: lists of tokens are the same: of any length that memory holds. -/
import Derived.Test.YteedpojchapjgaaDoorSame
namespace Go.Proofs.YteedpojchapjgaaDoor
open Go.RowKit
set_option linter.unusedVariables false

set_option maxRecDepth 100000 in
set_option maxHeartbeats 4000000 in
theorem same_big (W : World) (u v : Value) (xs ys : List Res) (hu : TokRow W u xs) (hv : TokRow W v ys) (he : EqToks true xs ys) (hlen : xs.length ≤ 4611686018427) :
    Calls Tryd.prog 24 #[u, v, .bool true] W fun e w' => e = .returned (.bool true) ∧ ∃ n, w' = W.drewN n := by
  obtain ⟨oa, ca, rfl, hu⟩ := hu
  obtain ⟨ob, cb, rfl, hv⟩ := hv
  obtain ⟨hl, he⟩ := he
  rw [← hl]
  obtain ⟨n, hn⟩ : ∃ n, Hid (n = xs.length) := ⟨_, rfl⟩
  have HU := Lib.hid hu
  have HV := Lib.hid hv
  have HE := Lib.hid he
  have HL := Lib.hid hl
  rw [← hn.out] at hlen ⊢
  clear hu hv he hl
  go_enter Tryd.func24, Tryd.ntmps24
  go_wp2_with fail
  go_loopw [6, 7] (fun _ i wr => (∃ m, wr = W.drewN m) ∧ ∃ k : Nat, k ≤ n ∧ i = .int .i64 k) (fun _ i _ => n - (intOf i).toNat)
  case atStart => exact ⟨⟨0, rfl⟩, 0, Nat.zero_le _, rfl⟩
  case round =>
    obtain ⟨⟨m, rfl⟩, k, hk, rfl⟩ := hrel
    by_cases hlt : k < n
    · have hlt' : (k : Int) < (n : Int) := by omega
      have hx : k < xs.length := by rw [← hn.out]; exact hlt
      have hy : k < ys.length := by rw [← HL.out]; exact hx
      have ex : xs[k]? = some xs[k] := List.getElem?_eq_getElem hx
      have ey : ys[k]? = some ys[k] := List.getElem?_eq_getElem hy
      obtain ⟨g, off, hoa, a0, a1, a2, a3⟩ := HU.out k _ ex
      obtain ⟨g2, off2, hob, b0, b1, b2, b3⟩ := HV.out k _ ey
      obtain ⟨t0, t1, t2, t3⟩ := HE.out k _ _ ex ey
      rw [← t0] at b0
      rw [← t1] at b1
      rw [← t2] at b2
      rw [← t3 rfl] at b3
      subst hoa hob
      generalize xs[k].kind = xk at *
      generalize xs[k].text = xt at *
      generalize xs[k].wd = xw at *
      generalize xs[k].place = xp at *
      clear ex ey t0 t1 t2 t3 hx hy
      go_wp2_with fail
      go_quiet (fail)
      go_wp2_with fail
      go_roundw
      case rel => exact ⟨⟨m + nq, rfl⟩, k + 1, by omega, by go_num⟩
      case measure => simp [intOf]; omega
    · have hlt' : ¬ (k : Int) < (n : Int) := by omega
      go_wp2_with fail
      go_ret
      exact ⟨rfl, m, rfl⟩
end Go.Proofs.YteedpojchapjgaaDoor

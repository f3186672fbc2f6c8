/- A machine is made: what is refused. -/
import Derived.Test.YtmpljhfinmfnbaaDoorVki
import Derived.Test.YtmpljhfinmfnbaaDoorVkk
import Derived.Test.YtmpljhfinmfnbaaDoorGc0
namespace Go.Proofs.YtmpljhfinmfnbaaDoor
open Go.RowKit
set_option linter.unusedVariables false
set_option maxRecDepth 100000
theorem wp_append_row {P : Program} {w : World} {o : Oper} {a : Act} {K : Act → World → Prop} {Q : Exit → Act → World → Prop} (s x : Operand) (t : TypeId)
    (ho : o.op = .call { callee := .builtin .append, args := #[s, x], argTypes := #[t, t] })
    (base : Nat) (e : TypeId) (i : TypeInfo) (z : Value) (size bytes : Nat) (ht : P.underlying t = some (.slice e)) (hi : P.info? e = some i) (hz : i.zero = some z)
    (hsize : i.size = size) (hby : i.bytes = bytes) (hzs : z.cells.size = size) (hsz : 0 < size)
    (v : Value) (n : Nat) (xs : List Value) (hs : a.eval s = v) (hown : w.ownsRow base e size v n xs)
    (ad : Addr) (m c : Nat) (news : List Value) (hx : a.eval x = .slice (some ad) m c) (hl : news.length = m * size) (hnews : ∀ j u, news[j]? = some u → w.cell? (ad.add j) = some u) (h1 : ∀ u ∈ news, u.oneCell' = true)
    (h63 : n + m ≤ maxLen) (hbytes : (n + m) * bytes ≤ 140737488355328) (hbase : base ≤ w.heap.size)
    (h : ∀ v' w', w'.ownsRow base e size v' (n + m) (xs ++ news) → w.grownBy w' v.ownBlock → K (a.put o.dst v') w') : o.wp P a w K Q := by
  obtain ⟨v', w', hrun, r1, r2, r3⟩ := run_append_own (P := P) w base t o.type e i z size bytes ht hi hz hsize hby hzs hsz v n xs hown ad m c news hl hnews h1 h63 hbytes hbase
  unfold Oper.wp
  simp [execOp, ho, resolve, invoke, builtin, hs, hx, hrun, Result.andThen]
  exact h v' w' r1 r2
set_option maxHeartbeats 8000000 in
theorem p_New_bad (o : Ob) (hg : rgO o) (hf : fitO o) {v : Value} {w : World} (hv : obA w o v) (T : TgT w) {why x y : Int} (hc : chkO o = (why, x, y)) (hw : why ≠ 0) : Calls Tryd.prog 33 #[v] w fun e w' => e = .returned (.tuple #[.pointer none, .int .i64 why]) ∧ Below w.heap.size w w' := by
  have HCK : Hid (∀ W, Below w.heap.size w W → Calls Tryd.prog 49 #[v] W fun e w' => e = .returned (.tuple #[.int .i64 why, .int .i64 x, .int .i64 y]) ∧ Below W.heap.size W w') := fun W hb => by
    have h1 := check_any o hg hf (obA_below hv hb) (T.below hb)
    rw [hc] at h1
    exact h1
  obtain ⟨a1, c1, a5, c5, rfl, _, h5⟩ := hv
  obtain ⟨mem, sh, lk, bf, cores⟩ := o
  simp only [obV] at HCK ⊢
  generalize mem.length = n1 at HCK ⊢
  generalize cores.length = n5 at HCK ⊢
  have hne : (why != 0) = true := by simpa using hw
  have O0 := Own.new w 25 #[.slice a1 n1 c1, .int .i64 sh, .int .i64 lk, .int .i64 bf, .slice a5 n5 c5]
  have B0 : Below w.heap.size w (w.alloc (.cells #[.slice a1 n1 c1, .int .i64 sh, .int .i64 lk, .int .i64 bf, .slice a5 n5 c5] 25)) := (Below.refl _ w).alloc (Nat.le_refl _) _
  obtain ⟨W0, hW0⟩ : ∃ W, W = w.alloc (.cells #[.slice a1 n1 c1, .int .i64 sh, .int .i64 lk, .int .i64 bf, .slice a5 n5 c5] 25) := ⟨_, rfl⟩
  rw [← hW0] at O0 B0
  have HW0 := Lib.hid hW0
  have HB0 := Lib.hid B0
  clear hW0 h5 T hg hf hc B0
  go_enter Tryd.func33, Tryd.ntmps33
  go_upto_region 1 with (fail)
  rw [← HW0.out]
  clear HW0
  go_wp2_with (first | (refine ld rowO rfl rfl rfl O0 rfl ?_) | (go_at_call 49; refine (HCK.out _ HB0.out).mono ?_; rintro e w1 ⟨rfl, hb⟩))
  refine bodyPost_ret (results_tmp2 rfl _ _ _) rfl ?_
  exact ⟨rfl, HB0.out.trans (hb.mono HB0.out.size)⟩
end Go.Proofs.YtmpljhfinmfnbaaDoor

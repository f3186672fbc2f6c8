/- Memory's words in pages. -/
import Derived.Test.YtmpljhfinmfnbaaDoorVw3
namespace Go.Proofs.YtmpljhfinmfnbaaDoor
open Go.RowKit
set_option linter.unusedVariables false
set_option maxRecDepth 100000
/-- Words in pages. -/
structure PgA (W : World) (mem : List Int) (pv : Value) (PL : List Nat) : Prop where
  pgs : W.ownsRow 0 136 1 pv PL.length (ptrs PL)
  pgn : PL.length = (mem.length + 31) / 32
  page : ∀ (k g : Nat), PL[k]? = some g → Own W g 135 (pageRow mem k)
theorem VmX.pga {W : World} {p : Nat} {s : Vm} {F : List Nat} {cv pv : Value} {sd : Option Addr} {L : List (Co × Value × Value)} {PL : List Nat} (h : VmX W p s F cv pv sd L PL) : PgA W s.mem pv PL := ⟨h.pgs, h.pgn, h.page⟩
theorem pageRow_get (mem : List Int) (k j : Nat) (hj : j < 32) : (pageRow mem k)[j]? = some (.int .i64 (mem.getD (32 * k + j) 0)) := by
  unfold pageRow
  rw [List.getElem?_toArray, List.getElem?_map, List.getElem?_range hj]
  rfl
theorem PgA.below {W W' : World} {mem : List Int} {pv : Value} {PL : List Nat} (h : PgA W mem pv PL) (hb : Below W.heap.size W W') : PgA W' mem pv PL := ⟨row_below h.pgs hb, h.pgn, fun k g e => (h.page k g e).below hb⟩
/-- Where a word stands. -/
theorem PgA.word {W : World} {mem : List Int} {pv : Value} {PL : List Nat} (h : PgA W mem pv PL) {n : Nat} (hn : n < mem.length) : ∃ gp cap g, pv = .slice (some ⟨gp, 0, none⟩) PL.length cap ∧ PL[n / 32]? = some g ∧ W.cell? ⟨gp, n / 32, none⟩ = some (.pointer (some ⟨g, 0, none⟩)) ∧ W.cell? ⟨g, n % 32, none⟩ = some (.int .i64 (rget mem n)) ∧ n / 32 < PL.length := by
  have hpn := h.pgn
  have hk : n / 32 < PL.length := by omega
  obtain ⟨gp, cap, e, _, h2⟩ := row_at h.pgs (by omega)
  obtain ⟨g, hg⟩ : ∃ g, PL[n / 32]? = some g := ⟨_, List.getElem?_eq_getElem hk⟩
  refine ⟨gp, cap, g, e, hg, h2 _ _ (by rw [ptrs, List.getElem?_map, hg]; rfl), ?_, hk⟩
  rw [cell_of_row _ _ (n % 32) _ _ _ (h.page _ _ hg), pageRow_get _ _ _ (Nat.mod_lt _ (by decide)), show 32 * (n / 32) + n % 32 = n by omega]
  rfl
set_option maxHeartbeats 4000000 in
theorem p_at {w : World} {mem : List Int} {a1 : Option Addr} {n1 c1 : Nat} {PL : List Nat} (h : PgA w mem (.slice a1 n1 c1) PL) (sz : Int) (hm : mem.length ≤ 4096) {n : Nat} (hn : n < mem.length) :
    Calls Tryd.prog 88 #[.agg #[.slice a1 n1 c1, .int .i64 sz], .int .i64 (n : Int)] w fun e w' => e = .returned (.int .i64 (rget mem n)) ∧ Below w.heap.size w w' := by
  obtain ⟨gp, cap, g, e, _, c1', c2', hk⟩ := h.word hn
  injection e with e1 e2 e3
  subst e1 e2 e3
  have al := (Below.refl w.heap.size w).alloc (Nat.le_refl _) (.cells #[.slice (some ⟨gp, 0, none⟩) PL.length c1, .int .i64 sz] 101)
  have O1 := Own.new w 101 #[.slice (some ⟨gp, 0, none⟩) PL.length c1, .int .i64 sz]
  obtain ⟨W1, hW1⟩ : ∃ W, W = w.alloc (.cells #[.slice (some ⟨gp, 0, none⟩) PL.length c1, .int .i64 sz] 101) := ⟨_, rfl⟩
  rw [← hW1] at al O1
  have HW1 := Lib.hid hW1
  have p0 : W1.cell? ⟨w.heap.size, 0, none⟩ = some (.slice (some ⟨gp, 0, none⟩) PL.length c1) := by rw [cell_of_row _ _ 0 _ _ _ O1]; rfl
  have d1 : W1.cell? ⟨gp, n / 32, none⟩ = some (.pointer (some ⟨g, 0, none⟩)) := (al.cell (p := ⟨gp, n / 32, none⟩) (lt_of_at c1')).trans c1'
  have d2 : W1.cell? ⟨g, n % 32, none⟩ = some (.int .i64 (rget mem n)) := (al.cell (p := ⟨g, n % 32, none⟩) (lt_of_at c2')).trans c2'
  have HB := Lib.hid al
  have e1 : (n : Int).tdiv 32 = ((n / 32 : Nat) : Int) := rfl
  have e2 : (n : Int).tmod 32 = ((n % 32 : Nat) : Int) := rfl
  have e3 : (n : Int) / 32 = ((n / 32 : Nat) : Int) := rfl
  have e4 : (n : Int) % 32 = ((n % 32 : Nat) : Int) := rfl
  have h5 : n % 32 < 32 := Nat.mod_lt _ (by decide)
  have h6 : n / 32 ≤ 200 := by omega
  generalize rget mem n = x at d2 ⊢
  obtain ⟨qn, hqn⟩ : ∃ q, q = n / 32 := ⟨_, rfl⟩
  obtain ⟨rn, hrn⟩ : ∃ q, q = n % 32 := ⟨_, rfl⟩
  rw [← hqn] at d1 e1 e3 hk h6
  rw [← hrn] at d2 e2 e4 h5
  have hq1 : (qn : Int) < (PL.length : Int) := by omega
  have hr1 : (rn : Int) < 32 := by omega
  have w1 : wrap64 (qn : Int) = (qn : Int) := by unfold wrap64; omega
  have w2 : wrap64 (rn : Int) = (rn : Int) := by unfold wrap64; omega
  clear h hm hW1 c1' c2' hn al O1 hqn hrn
  go_enter Tryd.func88, Tryd.ntmps88
  go_upto_region 1 with fail
  rw [← HW1.out]
  clear HW1
  go_wp2
  go_ret
  exact ⟨rfl, HB.out⟩
end Go.Proofs.YtmpljhfinmfnbaaDoor

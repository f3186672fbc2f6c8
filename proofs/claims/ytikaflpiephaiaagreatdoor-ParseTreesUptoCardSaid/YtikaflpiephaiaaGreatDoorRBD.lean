/- The proof, part 30: texts that belong together, in one. -/
import Derived.Test.YtikaflpiephaiaaGreatDoorRBC
import Derived.WalkLawsBesides
set_option maxRecDepth 100000
set_option maxHeartbeats 20000000
namespace Go.Proofs.YtikaflpiephaiaaGreatDoor
open Go.RowKit
set_option linter.unusedVariables false
def szTN : List Th → Int | [] => 0 | t :: r => szNs t.body + szTN r
def szTK : List Th → Int | [] => 0 | t :: r => szKs t.body + szTK r
theorem szTN_snoc : ∀ (l : List Th) (e : Th), szTN (l ++ [e]) = szTN l + szNs e.body
 | [], e => by simp [szTN]
 | x :: r, e => by simp only [List.cons_append, szTN, szTN_snoc r e]; omega
theorem szTK_snoc : ∀ (l : List Th) (e : Th), szTK (l ++ [e]) = szTK l + szKs e.body
 | [], e => by simp [szTK]
 | x :: r, e => by simp only [List.cons_append, szTK, szTK_snoc r e]; omega
theorem r_Size (x : Pg) (hok : okP x) {v : Value} {w : World} (hv : pA w x v) : Calls Tryz.prog 13 #[v] w fun e w' => e = .returned (.tuple #[.int .i64 (wrap64 (szTN x.threads)), .int .i64 (wrap64 (szTK x.threads))]) ∧ Below w.heap.size w w' := by
 obtain ⟨a1, c1, a2, c2, a3, c3, rfl, _, _, h3⟩ := hv
 obtain ⟨_, _, l3, hth⟩ := hok
 obtain ⟨sh, lk, th⟩ := x
 simp only at *
 have HTH := Lib.hid hth
 have E1 := Lib.hid h3
 clear hth h3
 generalize sh.length = n1 at *
 generalize lk.length = n2 at *
 obtain ⟨n3, hn⟩ : ∃ n, n = th.length := ⟨_, rfl⟩
 rw [← hn] at l3 ⊢
 have HN := Lib.hid hn
 clear hn
 obtain ⟨Z, hZ⟩ : ∃ Z, Z = wrap64 (szTN th) := ⟨_, rfl⟩
 obtain ⟨Y, hY⟩ : ∃ Y, Y = wrap64 (szTK th) := ⟨_, rfl⟩
 rw [← hZ, ← hY]
 have HZ := Lib.hid hZ
 have HY := Lib.hid hY
 clear hZ hY
 have HB : Hid (Below w.heap.size w (w.alloc (.cells #[.slice a1 n1 c1, .slice a2 n2 c2, .slice a3 n3 c3] 25))) := (Below.refl _ w).alloc (Nat.le_refl _) _
 go_enter Tryz.func13, Tryz.ntmps13
 go_wp2_with fail
 go_loopg [4, 5, 13] (n3 + 1) (fun m' v v2 u W => ∃ (i : Nat) (A K : Int), u = .int .i64 (i : Int) ∧ v = .int .i64 A ∧ v2 = .int .i64 K ∧ i ≤ n3 ∧ m' = n3 - i + 1 ∧ A = wrap64 (szTN (th.take i)) ∧ K = wrap64 (szTK (th.take i)) ∧ Below w.heap.size w W)
 case atStart => exact ⟨0, _, _, rfl, rfl, rfl, Nat.zero_le _, by omega, by simp [szTN, wrap64], by simp [szTK, wrap64], HB.out⟩
 case round =>
  clear HB
  obtain ⟨i, A, K, rfl, rfl, rfl, hi, hm, hA, hK, hb0⟩ := hrel
  have HM := Lib.hid hm
  have HA := Lib.hid hA
  have HK := Lib.hid hK
  have HB := Lib.hid hb0
  clear hm hb0 hA hK
  by_cases hin : i < n3
  · have il : i < th.length := by have := HN.out; omega
    have g1 : th[i]? = some th[i] := List.getElem?_eq_getElem il
    have hmem : th[i] ∈ th := List.getElem_mem il
    have HT := Lib.hid (take_one il)
    generalize th[i] = x at g1 hmem HT
    obtain ⟨_, o2, o3⟩ := HTH.out x hmem
    rcases E1.out with e | ⟨g, q, rfl, _, e1⟩
    · cases th with
      | nil => simp at il
      | cons => cases e
    obtain ⟨a0, ⟨ta, tc, a1', _⟩, ⟨sa, sc, a2', w2⟩, a3'⟩ := thsIn_get i x e1 g1
    obtain ⟨nm, lo, bo, ps⟩ := x
    simp only at *
    have lg := lt_of_at a0
    simp only at lg
    have hin' : (i : Int) < (n3 : Int) := by omega
    have HC : Hid (∀ W, Below w.heap.size w W → Calls Tryz.prog 37 #[.slice sa bo.length sc] W fun e' w' => e' = .returned (.tuple #[.int .i64 (wrap64 (szNs bo)), .int .i64 (wrap64 (szKs bo))]) ∧ Below W.heap.size W w') := fun W hW => r_sizes bo o3 o2 sa sc W (stsAt_below w2 hW)
    have BX := HB.out
    have a0' : wr.cell? ⟨g, q + i * 4, none⟩ = some (.string nm) := (BX.cell (p := ⟨g, q + i * 4, none⟩) lg).trans a0
    have a1' : wr.cell? ⟨g, q + i * 4 + 1, none⟩ = some (.slice ta lo.length tc) := (BX.cell (p := ⟨g, q + i * 4 + 1, none⟩) lg).trans a1'
    have a2' : wr.cell? ⟨g, q + i * 4 + 2, none⟩ = some (.slice sa bo.length sc) := (BX.cell (p := ⟨g, q + i * 4 + 2, none⟩) lg).trans a2'
    have a3' : wr.cell? ⟨g, q + i * 4 + 3, none⟩ = some (.int .i64 ps) := (BX.cell (p := ⟨g, q + i * 4 + 3, none⟩) lg).trans a3'
    have HT : Hid (szTN (th.take (i + 1)) = szTN (th.take i) + szNs bo ∧ szTK (th.take (i + 1)) = szTK (th.take i) + szKs bo) := by
     rw [Hid, HT.out]; exact ⟨by rw [szTN_snoc], by rw [szTK_snoc]⟩
    clear g1 e1 il w2 o2 o3 hmem BX a0
    obtain ⟨S1, hS1⟩ : ∃ P, P = wrap64 (szNs bo) := ⟨_, rfl⟩
    obtain ⟨K1, hK1⟩ : ∃ P, P = wrap64 (szKs bo) := ⟨_, rfl⟩
    rw [← hS1, ← hK1] at HC
    have HPP := Lib.hid (And.intro hS1 hK1)
    clear hS1 hK1
    generalize lo.length = m1 at *
    generalize bo.length = m2 at *
    have HB := Lib.hid (HB.out.alloc HB.out.size (.cells #[.string nm, .slice ta m1 tc, .slice sa m2 sc, .int .i64 ps] 64))
    go_wp2_with fail
    go_at_call 37
    refine (HC.out _ HB.out).mono ?_
    rintro e w3 ⟨rfl, hb3⟩
    have HB := Lib.hid (HB.out.trans (hb3.mono HB.out.size))
    clear hb3
    go_wp2_with fail
    go_roundg (n3 - (i + 1) + 1)
    case measure => have := HM.out; omega
    case rel => exact ⟨i + 1, _, _, rfl, rfl, rfl, by omega, by omega, by rw [HA.out, HPP.out.1, HT.out.1]; exact w_add _ _, by rw [HK.out, HPP.out.2, HT.out.2]; exact w_add _ _, HB.out⟩
  · have : i = n3 := by omega
    subst this
    have HAZ : Hid (A = Z) := by
     rw [Hid, HA.out, HZ.out, List.take_of_length_le (by have := HN.out; omega)]
    have HKY : Hid (K = Y) := by
     rw [Hid, HK.out, HY.out, List.take_of_length_le (by have := HN.out; omega)]
    obtain rfl : A = Z := HAZ.out
    obtain rfl : K = Y := HKY.out
    clear HAZ HKY
    go_wp2_with fail
    go_ret2
    exact ⟨rfl, HB.out⟩
theorem p_Size (x : Pg) (hok : okP x) {v : Value} {w : World} (hv : pA w x v) : Calls Tryz.prog 12 #[v] w fun e w' => e = .returned (.tuple #[.int .i64 (wrap64 (szTN x.threads)), .int .i64 (wrap64 (szTK x.threads))]) ∧ Below w.heap.size w w' := by
 obtain ⟨a1, c1, a2, c2, a3, c3, rfl, _, _, h3⟩ := hv
 obtain ⟨_, _, l3, hth⟩ := hok
 obtain ⟨sh, lk, th⟩ := x
 simp only at *
 have HTH := Lib.hid hth
 have E1 := Lib.hid h3
 clear hth h3
 generalize sh.length = n1 at *
 generalize lk.length = n2 at *
 obtain ⟨n3, hn⟩ : ∃ n, n = th.length := ⟨_, rfl⟩
 rw [← hn] at l3 ⊢
 have HN := Lib.hid hn
 clear hn
 obtain ⟨Z, hZ⟩ : ∃ Z, Z = wrap64 (szTN th) := ⟨_, rfl⟩
 obtain ⟨Y, hY⟩ : ∃ Y, Y = wrap64 (szTK th) := ⟨_, rfl⟩
 rw [← hZ, ← hY]
 have HZ := Lib.hid hZ
 have HY := Lib.hid hY
 clear hZ hY
 have HB : Hid (Below w.heap.size w (w.alloc (.cells #[.slice a1 n1 c1, .slice a2 n2 c2, .slice a3 n3 c3] 25))) := (Below.refl _ w).alloc (Nat.le_refl _) _
 go_enter Tryz.func12, Tryz.ntmps12
 go_wp2_with fail
 go_loopg [4, 5, 13] (n3 + 1) (fun m' v v2 u W => ∃ (i : Nat) (A K : Int), u = .int .i64 (i : Int) ∧ v = .int .i64 A ∧ v2 = .int .i64 K ∧ i ≤ n3 ∧ m' = n3 - i + 1 ∧ A = wrap64 (szTN (th.take i)) ∧ K = wrap64 (szTK (th.take i)) ∧ Below w.heap.size w W)
 case atStart => exact ⟨0, _, _, rfl, rfl, rfl, Nat.zero_le _, by omega, by simp [szTN, wrap64], by simp [szTK, wrap64], HB.out⟩
 case round =>
  clear HB
  obtain ⟨i, A, K, rfl, rfl, rfl, hi, hm, hA, hK, hb0⟩ := hrel
  have HM := Lib.hid hm
  have HA := Lib.hid hA
  have HK := Lib.hid hK
  have HB := Lib.hid hb0
  clear hm hb0 hA hK
  by_cases hin : i < n3
  · have il : i < th.length := by have := HN.out; omega
    have g1 : th[i]? = some th[i] := List.getElem?_eq_getElem il
    have hmem : th[i] ∈ th := List.getElem_mem il
    have HT := Lib.hid (take_one il)
    generalize th[i] = x at g1 hmem HT
    obtain ⟨_, o2, o3⟩ := HTH.out x hmem
    rcases E1.out with e | ⟨g, q, rfl, _, e1⟩
    · cases th with
      | nil => simp at il
      | cons => cases e
    obtain ⟨a0, ⟨ta, tc, a1', _⟩, ⟨sa, sc, a2', w2⟩, a3'⟩ := thsIn_get i x e1 g1
    obtain ⟨nm, lo, bo, ps⟩ := x
    simp only at *
    have lg := lt_of_at a0
    simp only at lg
    have hin' : (i : Int) < (n3 : Int) := by omega
    have HC : Hid (∀ W, Below w.heap.size w W → Calls Tryz.prog 36 #[.slice sa bo.length sc] W fun e' w' => e' = .returned (.tuple #[.int .i64 (wrap64 (szNs bo)), .int .i64 (wrap64 (szKs bo))]) ∧ Below W.heap.size W w') := fun W hW => p_size bo o3 o2 sa sc W (stsAt_below w2 hW)
    have BX := HB.out
    have a0' : wr.cell? ⟨g, q + i * 4, none⟩ = some (.string nm) := (BX.cell (p := ⟨g, q + i * 4, none⟩) lg).trans a0
    have a1' : wr.cell? ⟨g, q + i * 4 + 1, none⟩ = some (.slice ta lo.length tc) := (BX.cell (p := ⟨g, q + i * 4 + 1, none⟩) lg).trans a1'
    have a2' : wr.cell? ⟨g, q + i * 4 + 2, none⟩ = some (.slice sa bo.length sc) := (BX.cell (p := ⟨g, q + i * 4 + 2, none⟩) lg).trans a2'
    have a3' : wr.cell? ⟨g, q + i * 4 + 3, none⟩ = some (.int .i64 ps) := (BX.cell (p := ⟨g, q + i * 4 + 3, none⟩) lg).trans a3'
    have HT : Hid (szTN (th.take (i + 1)) = szTN (th.take i) + szNs bo ∧ szTK (th.take (i + 1)) = szTK (th.take i) + szKs bo) := by
     rw [Hid, HT.out]; exact ⟨by rw [szTN_snoc], by rw [szTK_snoc]⟩
    clear g1 e1 il w2 o2 o3 hmem BX a0
    obtain ⟨S1, hS1⟩ : ∃ P, P = wrap64 (szNs bo) := ⟨_, rfl⟩
    obtain ⟨K1, hK1⟩ : ∃ P, P = wrap64 (szKs bo) := ⟨_, rfl⟩
    rw [← hS1, ← hK1] at HC
    have HPP := Lib.hid (And.intro hS1 hK1)
    clear hS1 hK1
    generalize lo.length = m1 at *
    generalize bo.length = m2 at *
    have HB := Lib.hid (HB.out.alloc HB.out.size (.cells #[.string nm, .slice ta m1 tc, .slice sa m2 sc, .int .i64 ps] 64))
    go_wp2_with fail
    go_at_call 36
    refine (HC.out _ HB.out).mono ?_
    rintro e w3 ⟨rfl, hb3⟩
    have HB := Lib.hid (HB.out.trans (hb3.mono HB.out.size))
    clear hb3
    go_wp2_with fail
    go_roundg (n3 - (i + 1) + 1)
    case measure => have := HM.out; omega
    case rel => exact ⟨i + 1, _, _, rfl, rfl, rfl, by omega, by omega, by rw [HA.out, HPP.out.1, HT.out.1]; exact w_add _ _, by rw [HK.out, HPP.out.2, HT.out.2]; exact w_add _ _, HB.out⟩
  · have : i = n3 := by omega
    subst this
    have HAZ : Hid (A = Z) := by
     rw [Hid, HA.out, HZ.out, List.take_of_length_le (by have := HN.out; omega)]
    have HKY : Hid (K = Y) := by
     rw [Hid, HK.out, HY.out, List.take_of_length_le (by have := HN.out; omega)]
    obtain rfl : A = Z := HAZ.out
    obtain rfl : K = Y := HKY.out
    clear HAZ HKY
    go_wp2_with fail
    go_ret2
    exact ⟨rfl, HB.out⟩
open Go.RowKit
set_option linter.unusedVariables false
mutual
def dpS : St → Int | .mk k _ _ _ b l _ => if k = 3 ∨ k = 4 ∨ k = 5 then max (dpSs b) (if l.isEmpty then 0 else dpSs l) else 0
def dpSs : List St → Int | [] => 1 | s :: r => max (1 + dpS s) (dpSs r)
end
theorem dpSs_pos : ∀ l : List St, 1 ≤ dpSs l
 | [] => by simp [dpSs]
 | s :: r => by have := dpSs_pos r; simp only [dpSs]; omega
theorem dpS_pos (s : St) : 0 ≤ dpS s := by
 obtain ⟨k, n, o, e, b, l, a⟩ := s
 have h1 := dpSs_pos b
 simp only [dpS]
 split
 · split <;> omega
 · omega
theorem dpSs_snoc : ∀ (l : List St) (e : St), dpSs (l ++ [e]) = max (dpSs l) (1 + dpS e)
 | [], e => by have := dpS_pos e; simp only [List.nil_append, dpSs]; omega
 | x :: r, e => by simp only [List.cons_append, dpSs, dpSs_snoc r e]; omega
theorem dpSs_take (l : List St) (i : Nat) : dpSs (l.take i) ≤ dpSs l := by
 induction l generalizing i with
 | nil => simp
 | cons x r ih =>
   cases i with
   | zero => have := dpSs_pos (x :: r); simpa [dpSs] using this
   | succ i => have := ih i; simp only [List.take_succ_cons, dpSs]; omega
theorem dpS_mem : ∀ {l : List St} {x : St}, x ∈ l → 1 + dpS x ≤ dpSs l
 | y :: r, x, h => by
   rcases List.mem_cons.1 h with rfl | h
   · simp only [dpSs]; omega
   · have := dpS_mem h; simp only [dpSs]; omega
theorem dpS_yes {k : Int} {n o : ByteArray} {e : List Ex} {b l : List St} {a : Int} (h : k = 3 ∨ k = 4 ∨ k = 5) : dpS (.mk k n o e b l a) = max (dpSs b) (if l.isEmpty then 0 else dpSs l) := by simp only [dpS]; rw [if_pos h]
theorem dpS_no {k : Int} {n o : ByteArray} {e : List Ex} {b l : List St} {a : Int} (h : ¬ (k = 3 ∨ k = 4 ∨ k = 5)) : dpS (.mk k n o e b l a) = 0 := by simp only [dpS]; rw [if_neg h]
def DPR (l : List St) : Prop := okSs l → l.length ≤ 9223372036854775807 → dpSs l ≤ 1073741824 → ∀ (a : Option Addr) (c : Nat) (w : World), stsAt (fun _ => True) w l a →
 Calls Tryz.prog 47 #[.slice a l.length c] w fun e w' => e = .returned (.int .i64 (dpSs l)) ∧ Below w.heap.size w w'
theorem r_deep_one {l : List St} (HI : ∀ x ∈ l, DPR x.body ∧ DPR x.els) : DPR l := by
 intro HO hl hd a c w h1
 have HI := Lib.hid HI
 have HO := Lib.hid HO
 have E1 := Lib.hid h1
 have HD := Lib.hid hd
 obtain ⟨n, hn⟩ : ∃ n, n = l.length := ⟨_, rfl⟩
 rw [← hn] at hl ⊢
 have HN := Lib.hid hn
 obtain ⟨Z, hZ⟩ : ∃ Z, Z = dpSs l := ⟨_, rfl⟩
 rw [← hZ]
 have HZ := Lib.hid hZ
 clear h1 hn hZ hd
 go_enter Tryz.func47, Tryz.ntmps47
 go_wp2_with fail
 go_loopg [3, 8] (n + 1) (fun m' v u W => ∃ (i : Nat) (A : Int), u = .int .i64 (i : Int) ∧ v = .int .i64 A ∧ i ≤ n ∧ m' = n - i + 1 ∧ A = dpSs (l.take i) ∧ Below w.heap.size w W)
 case atStart => exact ⟨0, _, rfl, rfl, Nat.zero_le _, by omega, by simp [dpSs], Below.refl _ w⟩
 case round =>
  obtain ⟨i, A, rfl, rfl, hi, hm, hA, hb0⟩ := hrel
  have HM := Lib.hid hm
  have HA := Lib.hid hA
  have HB := Lib.hid hb0
  clear hm hb0 hA
  by_cases hin : i < n
  · have il : i < l.length := by have := HN.out; omega
    have g1 : l[i]? = some l[i] := List.getElem?_eq_getElem il
    have hmem : l[i] ∈ l := List.getElem_mem il
    have HT := Lib.hid (take_one il)
    generalize l[i] = x at g1 hmem HT
    have hok := okSs_mem HO.out x hmem
    have hdx := dpS_mem hmem
    have HX := Lib.hid (HI.out x hmem)
    rcases E1.out with e | ⟨g, q, rfl, _, e1⟩
    · cases l with
      | nil => simp at il
      | cons => cases e
    have x1 := stsIn_get i x e1 g1
    obtain ⟨k, nm, ot, es, bo, el, ps⟩ := x
    obtain ⟨a0, a1, a2, ⟨ea, ec, a3, w3⟩, ⟨ba, bc, a4, w4⟩, ⟨la, lc, a5, w5⟩, a6⟩ := x1
    obtain ⟨_, ⟨o3, o4⟩, o5, o6⟩ := hok
    have lg := lt_of_at a0
    simp only at lg
    have hin' : (i : Int) < (n : Int) := by omega
    have BX := HB.out
    have a0 : wr.cell? ⟨g, q + i * 7, none⟩ = some (.int .u8 k) := (BX.cell (p := ⟨g, q + i * 7, none⟩) lg).trans a0
    have a1 : wr.cell? ⟨g, q + i * 7 + 1, none⟩ = some (.string nm) := (BX.cell (p := ⟨g, q + i * 7 + 1, none⟩) lg).trans a1
    have a2 : wr.cell? ⟨g, q + i * 7 + 2, none⟩ = some (.string ot) := (BX.cell (p := ⟨g, q + i * 7 + 2, none⟩) lg).trans a2
    have a3 : wr.cell? ⟨g, q + i * 7 + 3, none⟩ = some (.slice ea es.length ec) := (BX.cell (p := ⟨g, q + i * 7 + 3, none⟩) lg).trans a3
    have a4 : wr.cell? ⟨g, q + i * 7 + 4, none⟩ = some (.slice ba bo.length bc) := (BX.cell (p := ⟨g, q + i * 7 + 4, none⟩) lg).trans a4
    have a5 : wr.cell? ⟨g, q + i * 7 + 5, none⟩ = some (.slice la el.length lc) := (BX.cell (p := ⟨g, q + i * 7 + 5, none⟩) lg).trans a5
    have a6 : wr.cell? ⟨g, q + i * 7 + 6, none⟩ = some (.int .i64 ps) := (BX.cell (p := ⟨g, q + i * 7 + 6, none⟩) lg).trans a6
    have HTT : Hid (dpSs (l.take (i + 1)) = max A (1 + dpS (.mk k nm ot es bo el ps))) := by
     rw [Hid, HT.out, dpSs_snoc, HA.out]
    have HDX := Lib.hid hdx
    clear hdx
    have HAB : Hid (1 ≤ A ∧ A ≤ 1073741824) := by
     have h1 := dpSs_pos (l.take i); have h2 := dpSs_take l i; have := HD.out; rw [Hid, HA.out]; omega
    have hA1 : 1 ≤ A := HAB.out.1
    have hA2 : A ≤ 1073741824 := HAB.out.2
    by_cases hk : k = 3 ∨ k = 4 ∨ k = 5
    · have hdy : 1 + dpSs bo ≤ 1073741824 ∧ (el.isEmpty = false → 1 + dpSs el ≤ 1073741824) := by
       have h1 := HDX.out; have h2 := HD.out; rw [dpS_yes hk] at h1
       exact ⟨by omega, fun h => by rw [h] at h1; simp only [Bool.false_eq_true, if_false] at h1; omega⟩
      have hb1 := dpSs_pos bo
      have hHC1 : ∀ W, Below w.heap.size w W → Calls Tryz.prog 47 #[.slice ba bo.length bc] W fun e' w' => e' = .returned (.int .i64 (dpSs bo)) ∧ Below W.heap.size W w' := fun W hW => HX.out.1 o4 o3 (show dpSs bo ≤ 1073741824 by have := hdy.1; omega) ba bc W (stsAt_below w4 hW)
      have HC1 := Lib.hid hHC1
      replace HTT : Hid (dpSs (l.take (i + 1)) = max A (1 + max (dpSs bo) (if el.isEmpty then 0 else dpSs el))) := by rw [Hid, HTT.out, dpS_yes hk]
      have hD1 : 1 + dpSs bo ≤ 1073741824 := hdy.1
      clear hHC1
      by_cases hel : el = []
      · subst hel
        replace HTT : Hid (dpSs (l.take (i + 1)) = max A (1 + dpSs bo)) := by rw [Hid, HTT.out]; simp only [List.isEmpty_nil, if_true]; omega
        clear hdy g1 e1 il w3 w4 w5 o3 o4 o5 o6 HX hmem BX
        generalize dpSs bo = D1 at *
        generalize es.length = n3 at *
        generalize bo.length = n4 at *
        simp only [List.length_nil] at *
        have O1 := Lib.hid (Own.new wr 69 #[.int .u8 k, .string nm, .string ot, .slice ea n3 ec, .slice ba n4 bc, .slice la 0 lc, .int .i64 ps])
        replace HB := Lib.hid (HB.out.alloc HB.out.size (.cells #[.int .u8 k, .string nm, .string ot, .slice ea n3 ec, .slice ba n4 bc, .slice la 0 lc, .int .i64 ps] 69))
        rcases hk with rfl | rfl | rfl
        all_goals
         go_wp2_with fail
         go_at_call 47
         refine (HC1.out _ HB.out).mono ?_
         rintro e w3 ⟨rfl, hb3⟩
         have O1 := Lib.hid (O1.out.below hb3)
         replace HB := Lib.hid (HB.out.trans (hb3.mono HB.out.size))
         clear hb3
         have x5 : w3.cell? ⟨wr.heap.size, 5, none⟩ = some (.slice la 0 lc) := by rw [cell_of_row _ _ 5 _ _ _ O1.out]; rfl
         go_wp2_with fail
         go_roundg (n - (i + 1) + 1)
         case measure => have := HM.out; omega
         case rel => exact ⟨i + 1, _, rfl, rfl, by omega, by omega, HTT.out.symm, HB.out⟩
      · have hel' : el.isEmpty = false := by cases el with | nil => exact absurd rfl hel | cons => rfl
        have hHC2 : ∀ W, Below w.heap.size w W → Calls Tryz.prog 47 #[.slice la el.length lc] W fun e' w' => e' = .returned (.int .i64 (dpSs el)) ∧ Below W.heap.size W w' := fun W hW => HX.out.2 o6 o5 (show dpSs el ≤ 1073741824 by have := hdy.2 hel'; omega) la lc W (stsAt_below w5 hW)
        have HC2 := Lib.hid hHC2
        have hD2 : 1 + dpSs el ≤ 1073741824 := hdy.2 hel'
        have hb2 := dpSs_pos el
        replace HTT : Hid (dpSs (l.take (i + 1)) = max A (1 + max (dpSs bo) (dpSs el))) := by rw [Hid, HTT.out, hel']; simp only [Bool.false_eq_true, if_false]
        have h0 : 0 < el.length := by cases el with | nil => exact absurd rfl hel | cons => simp
        clear hdy hel hel' hHC2 g1 e1 il w3 w4 w5 o3 o4 o5 o6 HX hmem BX
        generalize dpSs bo = D1 at *
        generalize dpSs el = D2 at *
        generalize es.length = n3 at *
        generalize bo.length = n4 at *
        generalize el.length = n5 at *
        have O1 := Lib.hid (Own.new wr 69 #[.int .u8 k, .string nm, .string ot, .slice ea n3 ec, .slice ba n4 bc, .slice la n5 lc, .int .i64 ps])
        replace HB := Lib.hid (HB.out.alloc HB.out.size (.cells #[.int .u8 k, .string nm, .string ot, .slice ea n3 ec, .slice ba n4 bc, .slice la n5 lc, .int .i64 ps] 69))
        rcases hk with rfl | rfl | rfl
        all_goals
         go_wp2_with fail
         go_at_call 47
         refine (HC1.out _ HB.out).mono ?_
         rintro e w3 ⟨rfl, hb3⟩
         have O1 := Lib.hid (O1.out.below hb3)
         replace HB := Lib.hid (HB.out.trans (hb3.mono HB.out.size))
         clear hb3
         have x5 : w3.cell? ⟨wr.heap.size, 5, none⟩ = some (.slice la n5 lc) := by rw [cell_of_row _ _ 5 _ _ _ O1.out]; rfl
         go_wp2_with fail
         go_at_call 47
         refine (HC2.out _ HB.out).mono ?_
         rintro e w4 ⟨rfl, hb3⟩
         replace HB := Lib.hid (HB.out.trans (hb3.mono HB.out.size))
         clear hb3
         go_wp2_with fail
         go_roundg (n - (i + 1) + 1)
         case measure => have := HM.out; omega
         case rel => exact ⟨i + 1, _, rfl, rfl, by omega, by omega, HTT.out.symm, HB.out⟩
    · replace HTT : Hid (dpSs (l.take (i + 1)) = A) := by rw [Hid, HTT.out, dpS_no hk]; omega
      have q3 : (k != 3) = true := by simp; omega
      have q4 : (k != 4) = true := by simp; omega
      have q5 : (k != 5) = true := by simp; omega
      replace HB := Lib.hid (HB.out.alloc HB.out.size (.cells #[.int .u8 k, .string nm, .string ot, .slice ea es.length ec, .slice ba bo.length bc, .slice la el.length lc, .int .i64 ps] 69))
      clear hk g1 e1 il w3 w4 w5 o3 o4 o5 o6 HX hmem BX
      generalize es.length = n3 at *
      generalize bo.length = n4 at *
      generalize el.length = n5 at *
      go_wp2_with fail
      go_roundg (n - (i + 1) + 1)
      case measure => have := HM.out; omega
      case rel => exact ⟨i + 1, _, rfl, rfl, by omega, by omega, HTT.out.symm, HB.out⟩
  · have : i = n := by omega
    subst this
    have HAZ : Hid (A = Z) := by
     rw [Hid, HA.out, HZ.out, List.take_of_length_le (by have := HN.out; omega)]
    obtain rfl : A = Z := HAZ.out
    clear HAZ
    go_wp2_with fail
    go_ret
    exact ⟨rfl, HB.out⟩
theorem r_deep_subs : ∀ l : List St, ∀ x ∈ l, DPR x.body ∧ DPR x.els := by
 intro l
 induction l using Sts.ind with
 | h0 => intro x hx; cases hx
 | h1 k n o e b l a r hb hl hr =>
   intro x hx
   rcases List.mem_cons.1 hx with rfl | hx
   · exact ⟨r_deep_one hb, r_deep_one hl⟩
   · exact hr x hx
theorem r_deep (l : List St) : DPR l := r_deep_one (r_deep_subs l)
end Go.Proofs.YtikaflpiephaiaaGreatDoor

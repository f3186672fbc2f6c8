/- The proof, part 29: texts that belong together, in one. -/
import Derived.Test.YtikaflpiephaiaaGreatDoorRBB
import Derived.Deep.CutBlock
set_option maxRecDepth 100000
set_option maxHeartbeats 20000000
namespace Go.Proofs.YtikaflpiephaiaaGreatDoor
open Go.RowKit
set_option linter.unusedVariables false
mutual
def cntE : Ex → Int | .mk _ _ _ _ ks _ => 1 + cntEs ks
def cntEs : List Ex → Int | [] => 0 | e :: r => cntE e + cntEs r
end
def cntK : List Ex → Int | [] => 0 | e :: r => cntEs e.kids + cntK r
theorem cntE_kids (e : Ex) : cntE e = 1 + cntEs e.kids := by cases e; rfl
theorem cntEs_len : ∀ l : List Ex, cntEs l = l.length + cntK l
 | [] => rfl
 | e :: r => by simp only [cntEs, cntK, List.length_cons, cntE_kids, cntEs_len r]; omega
theorem cntEs_snoc : ∀ (l : List Ex) (e : Ex), cntEs (l ++ [e]) = cntEs l + cntE e
 | [], e => by simp [cntEs]
 | x :: r, e => by simp only [List.cons_append, cntEs, cntEs_snoc r e]; omega
theorem cntK_snoc : ∀ (l : List Ex) (e : Ex), cntK (l ++ [e]) = cntK l + cntEs e.kids
 | [], e => by simp [cntK]
 | x :: r, e => by simp only [List.cons_append, cntK, cntK_snoc r e]; omega
theorem take_one {α : Type} {l : List α} {i : Nat} (h : i < l.length) : l.take (i + 1) = l.take i ++ [l[i]] := by rw [List.take_succ_eq_append_getElem h]
theorem w_add (a b : Int) : wrap64 (wrap64 a + wrap64 b) = wrap64 (a + b) := by unfold wrap64; omega
theorem w_ref (a b : Int) : wrap64 (wrap64 a + wrap64 (1 + wrap64 b)) = wrap64 (a + (1 + b)) := by unfold wrap64; omega
theorem w_prg (a b c : Int) : wrap64 (wrap64 (a + b) + wrap64 c) = wrap64 (a + (b + c)) := by unfold wrap64; omega
theorem w_len (n : Nat) (h : n ≤ 9223372036854775807) : wrap64 (n : Int) = n := by unfold wrap64; omega
def R_PARTS (l : List Ex) : Prop := okEs l → l.length ≤ 9223372036854775807 → ∀ (a : Option Addr) (c : Nat) (w : World), exsAt (fun _ => True) w l a →
 Calls Tryz.prog 78 #[.slice a l.length c] w fun e w' => e = .returned (.int .i64 (wrap64 (cntEs l))) ∧ Below w.heap.size w w'
theorem r_parts_one {l : List Ex} (HI : ∀ x ∈ l, R_PARTS x.kids) : R_PARTS l := by
 intro HO hl a c w h1
 have HI := Lib.hid HI
 have HO := Lib.hid HO
 have E1 := Lib.hid h1
 obtain ⟨n, hn⟩ : ∃ n, n = l.length := ⟨_, rfl⟩
 rw [← hn] at hl ⊢
 have HN := Lib.hid hn
 obtain ⟨Z, hZ⟩ : ∃ Z, Z = wrap64 (cntEs l) := ⟨_, rfl⟩
 rw [← hZ]
 have HZ := Lib.hid hZ
 clear h1 hn hZ
 go_enter Tryz.func78, Tryz.ntmps78
 go_wp2_with fail
 go_loopg [3, 8] (n + 1) (fun m' v u W => ∃ (i : Nat) (A : Int), u = .int .i64 (i : Int) ∧ v = .int .i64 A ∧ i ≤ n ∧ m' = n - i + 1 ∧ A = wrap64 (cntEs (l.take i)) ∧ Below w.heap.size w W)
 case atStart => exact ⟨0, _, rfl, rfl, Nat.zero_le _, by omega, by simp [cntEs, wrap64], Below.refl _ w⟩
 case round =>
  obtain ⟨i, A, rfl, rfl, hi, hm, hA, hb0⟩ := hrel
  have HM := Lib.hid hm
  have HA := Lib.hid hA
  have HB := Lib.hid hb0
  clear hm hb0 hA
  by_cases hin : i < n
  · have il : i < l.length := by have := HN.out; omega
    have g1 : l[i]? = some l[i] := List.getElem?_eq_getElem il
    have hmem : l[i] ∈ l := List.getElem_mem il
    have HT := Lib.hid (take_one il)
    generalize l[i] = x at g1 hmem HT
    have hok := okEs_mem HO.out x hmem
    have HX := Lib.hid (HI.out x hmem)
    rcases E1.out with e | ⟨g, q, rfl, _, e1⟩
    · cases l with
      | nil => simp at il
      | cons => cases e
    have x1 := exsIn_get i x e1 g1
    obtain ⟨k, o, wd, nm, ks, ps⟩ := x
    obtain ⟨a0, a1, a2, a3, ⟨ka, kc, a4, w4⟩, a5⟩ := x1
    obtain ⟨o1, o2⟩ := hok
    have lg := lt_of_at a0
    simp only at lg
    have hin' : (i : Int) < (n : Int) := by omega
    have HC : Hid (∀ W, Below w.heap.size w W → Calls Tryz.prog 78 #[.slice ka ks.length kc] W fun e' w' => e' = .returned (.int .i64 (wrap64 (cntEs ks))) ∧ Below W.heap.size W w') := fun W hW => HX.out o2 o1 ka kc W (exsAt_below w4 hW)
    have BX := HB.out
    have a0 : wr.cell? ⟨g, q + i * 6, none⟩ = some (.int .u8 k) := (BX.cell (p := ⟨g, q + i * 6, none⟩) lg).trans a0
    have a1 : wr.cell? ⟨g, q + i * 6 + 1, none⟩ = some (.int .u8 o) := (BX.cell (p := ⟨g, q + i * 6 + 1, none⟩) lg).trans a1
    have a2 : wr.cell? ⟨g, q + i * 6 + 2, none⟩ = some (.int .i64 wd) := (BX.cell (p := ⟨g, q + i * 6 + 2, none⟩) lg).trans a2
    have a3 : wr.cell? ⟨g, q + i * 6 + 3, none⟩ = some (.string nm) := (BX.cell (p := ⟨g, q + i * 6 + 3, none⟩) lg).trans a3
    have a4 : wr.cell? ⟨g, q + i * 6 + 4, none⟩ = some (.slice ka ks.length kc) := (BX.cell (p := ⟨g, q + i * 6 + 4, none⟩) lg).trans a4
    have a5 : wr.cell? ⟨g, q + i * 6 + 5, none⟩ = some (.int .i64 ps) := (BX.cell (p := ⟨g, q + i * 6 + 5, none⟩) lg).trans a5
    have HBA : Hid (∀ o, Below w.heap.size w (wr.alloc o)) := fun o => HB.out.alloc HB.out.size o
    have HT : Hid (cntEs (l.take (i + 1)) = cntEs (l.take i) + (1 + cntEs ks) ∧ cntK (l.take (i + 1)) = cntK (l.take i) + cntEs ks) := by
     rw [Hid, HT.out]; exact ⟨by rw [cntEs_snoc, cntE_kids]; rfl, by rw [cntK_snoc]; rfl⟩
    clear g1 e1 il w4 o1 o2 HX hmem BX
    generalize cntEs ks = CK at HC HT
    obtain ⟨B, hB⟩ : ∃ B, B = wrap64 CK := ⟨_, rfl⟩
    rw [← hB] at HC
    have HBB := Lib.hid hB
    clear hB
    generalize ks.length = nk at *
    go_wp2_with fail
    go_at_call 78
    refine (HC.out _ (HBA.out _)).mono ?_
    rintro e w3 ⟨rfl, hb3⟩
    have HB := Lib.hid ((HBA.out _).trans (hb3.mono (HBA.out _).size))
    clear hb3
    go_wp2_with fail
    go_roundg (n - (i + 1) + 1)
    case measure => have := HM.out; omega
    case rel => exact ⟨i + 1, _, rfl, rfl, by omega, by omega, by rw [HA.out, HBB.out, HT.out.1]; exact w_ref _ _, HB.out⟩
  · have : i = n := by omega
    subst this
    have HAZ : Hid (A = Z) := by
     rw [Hid, HA.out, HZ.out, List.take_of_length_le (by have := HN.out; omega)]
    obtain rfl : A = Z := HAZ.out
    clear HAZ
    go_wp2_with fail
    go_ret
    exact ⟨rfl, HB.out⟩
theorem r_parts_kids : ∀ e : Ex, R_PARTS e.kids := by
 intro e
 induction e using Ex.ind with
 | h k o w n ks a h => exact r_parts_one h
theorem r_parts (l : List Ex) : R_PARTS l := r_parts_one fun x _ => r_parts_kids x
def P_PARTS (l : List Ex) : Prop := okEs l → l.length ≤ 9223372036854775807 → ∀ (a : Option Addr) (c : Nat) (w : World), exsAt (fun _ => True) w l a →
 Calls Tryz.prog 77 #[.slice a l.length c] w fun e w' => e = .returned (.int .i64 (wrap64 (cntEs l))) ∧ Below w.heap.size w w'
theorem p_parts_one {l : List Ex} (HI : ∀ x ∈ l, P_PARTS x.kids) : P_PARTS l := by
 intro HO hl a c w h1
 have HI := Lib.hid HI
 have HO := Lib.hid HO
 have E1 := Lib.hid h1
 obtain ⟨n, hn⟩ : ∃ n, n = l.length := ⟨_, rfl⟩
 rw [← hn] at hl ⊢
 have HN := Lib.hid hn
 obtain ⟨Z, hZ⟩ : ∃ Z, Z = wrap64 (cntEs l) := ⟨_, rfl⟩
 rw [← hZ]
 have HZ := Lib.hid hZ
 clear h1 hn hZ
 go_enter Tryz.func77, Tryz.ntmps77
 go_wp2_with fail
 go_loopg [3, 10] (n + 1) (fun m' v u W => ∃ (i : Nat) (A : Int), u = .int .i64 (i : Int) ∧ v = .int .i64 A ∧ i ≤ n ∧ m' = n - i + 1 ∧ A = wrap64 (l.length + cntK (l.take i)) ∧ Below w.heap.size w W)
 case atStart => exact ⟨0, _, rfl, rfl, Nat.zero_le _, by omega, by rw [List.take_zero, ← HN.out, show cntK [] = 0 from rfl, Int.add_zero, w_len n hl], Below.refl _ w⟩
 case round =>
  obtain ⟨i, A, rfl, rfl, hi, hm, hA, hb0⟩ := hrel
  have HM := Lib.hid hm
  have HA := Lib.hid hA
  have HB := Lib.hid hb0
  clear hm hb0 hA
  by_cases hin : i < n
  · have il : i < l.length := by have := HN.out; omega
    have g1 : l[i]? = some l[i] := List.getElem?_eq_getElem il
    have hmem : l[i] ∈ l := List.getElem_mem il
    have HT := Lib.hid (take_one il)
    generalize l[i] = x at g1 hmem HT
    have hok := okEs_mem HO.out x hmem
    have HX := Lib.hid (HI.out x hmem)
    rcases E1.out with e | ⟨g, q, rfl, _, e1⟩
    · cases l with
      | nil => simp at il
      | cons => cases e
    have x1 := exsIn_get i x e1 g1
    obtain ⟨k, o, wd, nm, ks, ps⟩ := x
    obtain ⟨a0, a1, a2, a3, ⟨ka, kc, a4, w4⟩, a5⟩ := x1
    obtain ⟨o1, o2⟩ := hok
    have lg := lt_of_at a0
    simp only at lg
    have hin' : (i : Int) < (n : Int) := by omega
    have HC : Hid (∀ W, Below w.heap.size w W → Calls Tryz.prog 77 #[.slice ka ks.length kc] W fun e' w' => e' = .returned (.int .i64 (wrap64 (cntEs ks))) ∧ Below W.heap.size W w') := fun W hW => HX.out o2 o1 ka kc W (exsAt_below w4 hW)
    have BX := HB.out
    have a0 : wr.cell? ⟨g, q + i * 6, none⟩ = some (.int .u8 k) := (BX.cell (p := ⟨g, q + i * 6, none⟩) lg).trans a0
    have a1 : wr.cell? ⟨g, q + i * 6 + 1, none⟩ = some (.int .u8 o) := (BX.cell (p := ⟨g, q + i * 6 + 1, none⟩) lg).trans a1
    have a2 : wr.cell? ⟨g, q + i * 6 + 2, none⟩ = some (.int .i64 wd) := (BX.cell (p := ⟨g, q + i * 6 + 2, none⟩) lg).trans a2
    have a3 : wr.cell? ⟨g, q + i * 6 + 3, none⟩ = some (.string nm) := (BX.cell (p := ⟨g, q + i * 6 + 3, none⟩) lg).trans a3
    have a4 : wr.cell? ⟨g, q + i * 6 + 4, none⟩ = some (.slice ka ks.length kc) := (BX.cell (p := ⟨g, q + i * 6 + 4, none⟩) lg).trans a4
    have a5 : wr.cell? ⟨g, q + i * 6 + 5, none⟩ = some (.int .i64 ps) := (BX.cell (p := ⟨g, q + i * 6 + 5, none⟩) lg).trans a5
    have HBA : Hid (∀ o, Below w.heap.size w (wr.alloc o)) := fun o => HB.out.alloc HB.out.size o
    have HT : Hid (cntEs (l.take (i + 1)) = cntEs (l.take i) + (1 + cntEs ks) ∧ cntK (l.take (i + 1)) = cntK (l.take i) + cntEs ks) := by
     rw [Hid, HT.out]; exact ⟨by rw [cntEs_snoc, cntE_kids]; rfl, by rw [cntK_snoc]; rfl⟩
    clear g1 e1 il w4 o1 o2 HX hmem BX
    generalize cntEs ks = CK at HC HT
    obtain ⟨B, hB⟩ : ∃ B, B = wrap64 CK := ⟨_, rfl⟩
    rw [← hB] at HC
    have HBB := Lib.hid hB
    clear hB
    generalize ks.length = nk at *
    go_wp2_with fail
    go_at_call 77
    refine (HC.out _ (HBA.out _)).mono ?_
    rintro e w3 ⟨rfl, hb3⟩
    have HB := Lib.hid ((HBA.out _).trans (hb3.mono (HBA.out _).size))
    clear hb3
    go_wp2_with fail
    go_roundg (n - (i + 1) + 1)
    case measure => have := HM.out; omega
    case rel => exact ⟨i + 1, _, rfl, rfl, by omega, by omega, by rw [HA.out, HBB.out, HT.out.2]; exact w_prg _ _ _, HB.out⟩
  · have : i = n := by omega
    subst this
    have HAZ : Hid (A = Z) := by
     rw [Hid, HA.out, HZ.out, List.take_of_length_le (by have := HN.out; omega)]
     rw [cntEs_len]
    obtain rfl : A = Z := HAZ.out
    clear HAZ
    go_wp2_with fail
    go_ret
    exact ⟨rfl, HB.out⟩
theorem p_parts_kids : ∀ e : Ex, P_PARTS e.kids := by
 intro e
 induction e using Ex.ind with
 | h k o w n ks a h => exact p_parts_one h
theorem p_parts (l : List Ex) : P_PARTS l := p_parts_one fun x _ => p_parts_kids x
mutual
def szN : St → Int | .mk _ _ _ _ b l _ => 1 + szNs b + szNs l
def szNs : List St → Int | [] => 0 | s :: r => szN s + szNs r
end
mutual
def szK : St → Int | .mk _ _ _ e b l _ => cntEs e + szKs b + szKs l
def szKs : List St → Int | [] => 0 | s :: r => szK s + szKs r
end
def szM : List St → Int | [] => 0 | s :: r => szNs s.body + szNs s.els + szM r
theorem szN_eq (s : St) : szN s = 1 + szNs s.body + szNs s.els := by cases s; rfl
theorem szK_eq (s : St) : szK s = cntEs s.e + szKs s.body + szKs s.els := by cases s; rfl
theorem szNs_len : ∀ l : List St, szNs l = l.length + szM l
 | [] => rfl
 | e :: r => by simp only [szNs, szM, List.length_cons, szN_eq, szNs_len r]; omega
theorem szNs_snoc : ∀ (l : List St) (e : St), szNs (l ++ [e]) = szNs l + szN e
 | [], e => by simp [szNs]
 | x :: r, e => by simp only [List.cons_append, szNs, szNs_snoc r e]; omega
theorem szKs_snoc : ∀ (l : List St) (e : St), szKs (l ++ [e]) = szKs l + szK e
 | [], e => by simp [szKs]
 | x :: r, e => by simp only [List.cons_append, szKs, szKs_snoc r e]; omega
theorem szM_snoc : ∀ (l : List St) (e : St), szM (l ++ [e]) = szM l + (szNs e.body + szNs e.els)
 | [], e => by simp [szM]
 | x :: r, e => by simp only [List.cons_append, szM, szM_snoc r e]; omega
theorem w_sn (a b c : Int) : wrap64 (wrap64 a + wrap64 (wrap64 (1 + wrap64 b) + wrap64 c)) = wrap64 (a + (1 + b + c)) := by unfold wrap64; omega
theorem w_sk (a b c d : Int) : wrap64 (wrap64 a + wrap64 (wrap64 (wrap64 b + wrap64 c) + wrap64 d)) = wrap64 (a + (b + c + d)) := by unfold wrap64; omega
theorem w_pn (a b c : Int) : wrap64 (wrap64 (wrap64 a + wrap64 b) + wrap64 c) = wrap64 (a + (b + c)) := by unfold wrap64; omega
theorem w_pk (a b c d : Int) : wrap64 (wrap64 (wrap64 (wrap64 a + wrap64 b) + wrap64 c) + wrap64 d) = wrap64 (a + (b + c + d)) := by unfold wrap64; omega
def R_SIZES (l : List St) : Prop := okSs l → l.length ≤ 9223372036854775807 → ∀ (a : Option Addr) (c : Nat) (w : World), stsAt (fun _ => True) w l a →
 Calls Tryz.prog 37 #[.slice a l.length c] w fun e w' => e = .returned (.tuple #[.int .i64 (wrap64 (szNs l)), .int .i64 (wrap64 (szKs l))]) ∧ Below w.heap.size w w'
theorem r_sizes_one {l : List St} (HI : ∀ x ∈ l, R_SIZES x.body ∧ R_SIZES x.els) : R_SIZES l := by
 intro HO hl a c w h1
 have HI := Lib.hid HI
 have HO := Lib.hid HO
 have E1 := Lib.hid h1
 obtain ⟨n, hn⟩ : ∃ n, n = l.length := ⟨_, rfl⟩
 rw [← hn] at hl ⊢
 have HN := Lib.hid hn
 obtain ⟨Z, hZ⟩ : ∃ Z, Z = wrap64 (szNs l) := ⟨_, rfl⟩
 obtain ⟨Y, hY⟩ : ∃ Y, Y = wrap64 (szKs l) := ⟨_, rfl⟩
 rw [← hZ, ← hY]
 have HZ := Lib.hid hZ
 have HY := Lib.hid hY
 clear h1 hn hZ hY
 go_enter Tryz.func37, Tryz.ntmps37
 go_wp2_with fail
 go_loopg [4, 5, 14] (n + 1) (fun m' v v2 u W => ∃ (i : Nat) (A K : Int), u = .int .i64 (i : Int) ∧ v = .int .i64 A ∧ v2 = .int .i64 K ∧ i ≤ n ∧ m' = n - i + 1 ∧ A = wrap64 (szNs (l.take i)) ∧ K = wrap64 (szKs (l.take i)) ∧ Below w.heap.size w W)
 case atStart => exact ⟨0, _, _, rfl, rfl, rfl, Nat.zero_le _, by omega, by simp [szNs, wrap64], by simp [szKs, wrap64], Below.refl _ w⟩
 case round =>
  obtain ⟨i, A, K, rfl, rfl, rfl, hi, hm, hA, hK, hb0⟩ := hrel
  have HM := Lib.hid hm
  have HA := Lib.hid hA
  have HK := Lib.hid hK
  have HB := Lib.hid hb0
  clear hm hb0 hA hK
  by_cases hin : i < n
  · have il : i < l.length := by have := HN.out; omega
    have g1 : l[i]? = some l[i] := List.getElem?_eq_getElem il
    have hmem : l[i] ∈ l := List.getElem_mem il
    have HT := Lib.hid (take_one il)
    generalize l[i] = x at g1 hmem HT
    have hok := okSs_mem HO.out x hmem
    have HX := Lib.hid (HI.out x hmem)
    rcases E1.out with e | ⟨g, q, rfl, _, e1⟩
    · cases l with
      | nil => simp at il
      | cons => cases e
    have x1 := stsIn_get i x e1 g1
    obtain ⟨k, nm, ot, es, bo, el, ps⟩ := x
    obtain ⟨a0, a1, a2, ⟨ea, ec, a3, w3⟩, ⟨ba, bc, a4, w4⟩, ⟨la, lc, a5, w5⟩, a6⟩ := x1
    obtain ⟨⟨o1, o2⟩, ⟨o3, o4⟩, o5, o6⟩ := hok
    have lg := lt_of_at a0
    simp only at lg
    have hin' : (i : Int) < (n : Int) := by omega
    have HC1 : Hid (∀ W, Below w.heap.size w W → Calls Tryz.prog 78 #[.slice ea es.length ec] W fun e' w' => e' = .returned (.int .i64 (wrap64 (cntEs es))) ∧ Below W.heap.size W w') := fun W hW => r_parts es o2 o1 ea ec W (exsAt_below w3 hW)
    have HC2 : Hid (∀ W, Below w.heap.size w W → Calls Tryz.prog 37 #[.slice ba bo.length bc] W fun e' w' => e' = .returned (.tuple #[.int .i64 (wrap64 (szNs bo)), .int .i64 (wrap64 (szKs bo))]) ∧ Below W.heap.size W w') := fun W hW => HX.out.1 o4 o3 ba bc W (stsAt_below w4 hW)
    have HC3 : Hid (∀ W, Below w.heap.size w W → Calls Tryz.prog 37 #[.slice la el.length lc] W fun e' w' => e' = .returned (.tuple #[.int .i64 (wrap64 (szNs el)), .int .i64 (wrap64 (szKs el))]) ∧ Below W.heap.size W w') := fun W hW => HX.out.2 o6 o5 la lc W (stsAt_below w5 hW)
    have BX := HB.out
    have a0 : wr.cell? ⟨g, q + i * 7, none⟩ = some (.int .u8 k) := (BX.cell (p := ⟨g, q + i * 7, none⟩) lg).trans a0
    have a1 : wr.cell? ⟨g, q + i * 7 + 1, none⟩ = some (.string nm) := (BX.cell (p := ⟨g, q + i * 7 + 1, none⟩) lg).trans a1
    have a2 : wr.cell? ⟨g, q + i * 7 + 2, none⟩ = some (.string ot) := (BX.cell (p := ⟨g, q + i * 7 + 2, none⟩) lg).trans a2
    have a3 : wr.cell? ⟨g, q + i * 7 + 3, none⟩ = some (.slice ea es.length ec) := (BX.cell (p := ⟨g, q + i * 7 + 3, none⟩) lg).trans a3
    have a4 : wr.cell? ⟨g, q + i * 7 + 4, none⟩ = some (.slice ba bo.length bc) := (BX.cell (p := ⟨g, q + i * 7 + 4, none⟩) lg).trans a4
    have a5 : wr.cell? ⟨g, q + i * 7 + 5, none⟩ = some (.slice la el.length lc) := (BX.cell (p := ⟨g, q + i * 7 + 5, none⟩) lg).trans a5
    have a6 : wr.cell? ⟨g, q + i * 7 + 6, none⟩ = some (.int .i64 ps) := (BX.cell (p := ⟨g, q + i * 7 + 6, none⟩) lg).trans a6
    have HT : Hid (szNs (l.take (i + 1)) = szNs (l.take i) + (1 + szNs bo + szNs el) ∧ szM (l.take (i + 1)) = szM (l.take i) + (szNs bo + szNs el) ∧ szKs (l.take (i + 1)) = szKs (l.take i) + (cntEs es + szKs bo + szKs el)) := by
     rw [Hid, HT.out]; exact ⟨by rw [szNs_snoc, szN_eq]; rfl, by rw [szM_snoc]; rfl, by rw [szKs_snoc, szK_eq]; rfl⟩
    clear g1 e1 il w3 w4 w5 o1 o2 o3 o4 o5 o6 HX hmem BX
    obtain ⟨P, hP⟩ : ∃ P, P = wrap64 (cntEs es) := ⟨_, rfl⟩
    obtain ⟨S1, hS1⟩ : ∃ P, P = wrap64 (szNs bo) := ⟨_, rfl⟩
    obtain ⟨S2, hS2⟩ : ∃ P, P = wrap64 (szNs el) := ⟨_, rfl⟩
    obtain ⟨K1, hK1⟩ : ∃ P, P = wrap64 (szKs bo) := ⟨_, rfl⟩
    obtain ⟨K2, hK2⟩ : ∃ P, P = wrap64 (szKs el) := ⟨_, rfl⟩
    rw [← hP] at HC1
    rw [← hS1, ← hK1] at HC2
    rw [← hS2, ← hK2] at HC3
    have HPP := Lib.hid (And.intro hP (And.intro (And.intro hS1 hS2) (And.intro hK1 hK2)))
    clear hP hS1 hS2 hK1 hK2
    generalize es.length = n3 at *
    generalize bo.length = n4 at *
    generalize el.length = n5 at *
    have O1 := Lib.hid (Own.new wr 69 #[.int .u8 k, .string nm, .string ot, .slice ea n3 ec, .slice ba n4 bc, .slice la n5 lc, .int .i64 ps])
    have HB := Lib.hid (HB.out.alloc HB.out.size (.cells #[.int .u8 k, .string nm, .string ot, .slice ea n3 ec, .slice ba n4 bc, .slice la n5 lc, .int .i64 ps] 69))
    go_wp2_with fail
    go_at_call 37
    refine (HC2.out _ HB.out).mono ?_
    rintro e w3 ⟨rfl, hb3⟩
    have O1 := Lib.hid (O1.out.below hb3)
    have HB := Lib.hid (HB.out.trans (hb3.mono HB.out.size))
    clear hb3
    have x5 : w3.cell? ⟨wr.heap.size, 5, none⟩ = some (.slice la n5 lc) := by rw [cell_of_row _ _ 5 _ _ _ O1.out]; rfl
    go_wp2_with fail
    go_at_call 37
    refine (HC3.out _ HB.out).mono ?_
    rintro e w4 ⟨rfl, hb3⟩
    have O1 := Lib.hid (O1.out.below hb3)
    have HB := Lib.hid (HB.out.trans (hb3.mono HB.out.size))
    clear hb3
    have x3 : w4.cell? ⟨wr.heap.size, 3, none⟩ = some (.slice ea n3 ec) := by rw [cell_of_row _ _ 3 _ _ _ O1.out]; rfl
    go_wp2_with fail
    go_at_call 78
    refine (HC1.out _ HB.out).mono ?_
    rintro e w5 ⟨rfl, hb3⟩
    have O1 := Lib.hid (O1.out.below hb3)
    have HB := Lib.hid (HB.out.trans (hb3.mono HB.out.size))
    clear hb3
    go_wp2_with fail
    go_roundg (n - (i + 1) + 1)
    case measure => have := HM.out; omega
    case rel => exact ⟨i + 1, _, _, rfl, rfl, rfl, by omega, by omega, by rw [HA.out, HT.out.1, HPP.out.2.1.1, HPP.out.2.1.2]; exact w_sn _ _ _, by rw [HK.out, HT.out.2.2, HPP.out.1, HPP.out.2.2.1, HPP.out.2.2.2]; exact w_sk _ _ _ _, HB.out⟩
  · have : i = n := by omega
    subst this
    have HAZ : Hid (A = Z) := by
     rw [Hid, HA.out, HZ.out, List.take_of_length_le (by have := HN.out; omega)]
    have HKY : Hid (K = Y) := by
     rw [Hid, HK.out, HY.out, List.take_of_length_le (by have := HN.out; omega)]
    obtain rfl : A = Z := HAZ.out
    obtain rfl : K = Y := HKY.out
    clear HAZ HKY
    go_wp2_with fail
    go_ret2
    exact ⟨rfl, HB.out⟩
theorem r_sizes_subs : ∀ l : List St, ∀ x ∈ l, R_SIZES x.body ∧ R_SIZES x.els := by
 intro l
 induction l using Sts.ind with
 | h0 => intro x hx; cases hx
 | h1 k n o e b l a r hb hl hr =>
   intro x hx
   rcases List.mem_cons.1 hx with rfl | hx
   · exact ⟨r_sizes_one hb, r_sizes_one hl⟩
   · exact hr x hx
theorem r_sizes (l : List St) : R_SIZES l := r_sizes_one (r_sizes_subs l)
def P_SIZE (l : List St) : Prop := okSs l → l.length ≤ 9223372036854775807 → ∀ (a : Option Addr) (c : Nat) (w : World), stsAt (fun _ => True) w l a →
 Calls Tryz.prog 36 #[.slice a l.length c] w fun e w' => e = .returned (.tuple #[.int .i64 (wrap64 (szNs l)), .int .i64 (wrap64 (szKs l))]) ∧ Below w.heap.size w w'
theorem p_size_one {l : List St} (HI : ∀ x ∈ l, P_SIZE x.body ∧ P_SIZE x.els) : P_SIZE l := by
 intro HO hl a c w h1
 have HI := Lib.hid HI
 have HO := Lib.hid HO
 have E1 := Lib.hid h1
 obtain ⟨n, hn⟩ : ∃ n, n = l.length := ⟨_, rfl⟩
 rw [← hn] at hl ⊢
 have HN := Lib.hid hn
 obtain ⟨Z, hZ⟩ : ∃ Z, Z = wrap64 (szNs l) := ⟨_, rfl⟩
 obtain ⟨Y, hY⟩ : ∃ Y, Y = wrap64 (szKs l) := ⟨_, rfl⟩
 rw [← hZ, ← hY]
 have HZ := Lib.hid hZ
 have HY := Lib.hid hY
 clear h1 hn hZ hY
 go_enter Tryz.func36, Tryz.ntmps36
 go_wp2_with fail
 go_loopg [4, 5, 16] (n + 1) (fun m' v v2 u W => ∃ (i : Nat) (A K : Int), u = .int .i64 (i : Int) ∧ v = .int .i64 A ∧ v2 = .int .i64 K ∧ i ≤ n ∧ m' = n - i + 1 ∧ A = wrap64 (l.length + szM (l.take i)) ∧ K = wrap64 (szKs (l.take i)) ∧ Below w.heap.size w W)
 case atStart => exact ⟨0, _, _, rfl, rfl, rfl, Nat.zero_le _, by omega, by rw [List.take_zero, ← HN.out, show szM [] = 0 from rfl, Int.add_zero, w_len n hl], by simp [szKs, wrap64], Below.refl _ w⟩
 case round =>
  obtain ⟨i, A, K, rfl, rfl, rfl, hi, hm, hA, hK, hb0⟩ := hrel
  have HM := Lib.hid hm
  have HA := Lib.hid hA
  have HK := Lib.hid hK
  have HB := Lib.hid hb0
  clear hm hb0 hA hK
  by_cases hin : i < n
  · have il : i < l.length := by have := HN.out; omega
    have g1 : l[i]? = some l[i] := List.getElem?_eq_getElem il
    have hmem : l[i] ∈ l := List.getElem_mem il
    have HT := Lib.hid (take_one il)
    generalize l[i] = x at g1 hmem HT
    have hok := okSs_mem HO.out x hmem
    have HX := Lib.hid (HI.out x hmem)
    rcases E1.out with e | ⟨g, q, rfl, _, e1⟩
    · cases l with
      | nil => simp at il
      | cons => cases e
    have x1 := stsIn_get i x e1 g1
    obtain ⟨k, nm, ot, es, bo, el, ps⟩ := x
    obtain ⟨a0, a1, a2, ⟨ea, ec, a3, w3⟩, ⟨ba, bc, a4, w4⟩, ⟨la, lc, a5, w5⟩, a6⟩ := x1
    obtain ⟨⟨o1, o2⟩, ⟨o3, o4⟩, o5, o6⟩ := hok
    have lg := lt_of_at a0
    simp only at lg
    have hin' : (i : Int) < (n : Int) := by omega
    have HC1 : Hid (∀ W, Below w.heap.size w W → Calls Tryz.prog 77 #[.slice ea es.length ec] W fun e' w' => e' = .returned (.int .i64 (wrap64 (cntEs es))) ∧ Below W.heap.size W w') := fun W hW => p_parts es o2 o1 ea ec W (exsAt_below w3 hW)
    have HC2 : Hid (∀ W, Below w.heap.size w W → Calls Tryz.prog 36 #[.slice ba bo.length bc] W fun e' w' => e' = .returned (.tuple #[.int .i64 (wrap64 (szNs bo)), .int .i64 (wrap64 (szKs bo))]) ∧ Below W.heap.size W w') := fun W hW => HX.out.1 o4 o3 ba bc W (stsAt_below w4 hW)
    have HC3 : Hid (∀ W, Below w.heap.size w W → Calls Tryz.prog 36 #[.slice la el.length lc] W fun e' w' => e' = .returned (.tuple #[.int .i64 (wrap64 (szNs el)), .int .i64 (wrap64 (szKs el))]) ∧ Below W.heap.size W w') := fun W hW => HX.out.2 o6 o5 la lc W (stsAt_below w5 hW)
    have BX := HB.out
    have a0 : wr.cell? ⟨g, q + i * 7, none⟩ = some (.int .u8 k) := (BX.cell (p := ⟨g, q + i * 7, none⟩) lg).trans a0
    have a1 : wr.cell? ⟨g, q + i * 7 + 1, none⟩ = some (.string nm) := (BX.cell (p := ⟨g, q + i * 7 + 1, none⟩) lg).trans a1
    have a2 : wr.cell? ⟨g, q + i * 7 + 2, none⟩ = some (.string ot) := (BX.cell (p := ⟨g, q + i * 7 + 2, none⟩) lg).trans a2
    have a3 : wr.cell? ⟨g, q + i * 7 + 3, none⟩ = some (.slice ea es.length ec) := (BX.cell (p := ⟨g, q + i * 7 + 3, none⟩) lg).trans a3
    have a4 : wr.cell? ⟨g, q + i * 7 + 4, none⟩ = some (.slice ba bo.length bc) := (BX.cell (p := ⟨g, q + i * 7 + 4, none⟩) lg).trans a4
    have a5 : wr.cell? ⟨g, q + i * 7 + 5, none⟩ = some (.slice la el.length lc) := (BX.cell (p := ⟨g, q + i * 7 + 5, none⟩) lg).trans a5
    have a6 : wr.cell? ⟨g, q + i * 7 + 6, none⟩ = some (.int .i64 ps) := (BX.cell (p := ⟨g, q + i * 7 + 6, none⟩) lg).trans a6
    have HT : Hid (szNs (l.take (i + 1)) = szNs (l.take i) + (1 + szNs bo + szNs el) ∧ szM (l.take (i + 1)) = szM (l.take i) + (szNs bo + szNs el) ∧ szKs (l.take (i + 1)) = szKs (l.take i) + (cntEs es + szKs bo + szKs el)) := by
     rw [Hid, HT.out]; exact ⟨by rw [szNs_snoc, szN_eq]; rfl, by rw [szM_snoc]; rfl, by rw [szKs_snoc, szK_eq]; rfl⟩
    clear g1 e1 il w3 w4 w5 o1 o2 o3 o4 o5 o6 HX hmem BX
    obtain ⟨P, hP⟩ : ∃ P, P = wrap64 (cntEs es) := ⟨_, rfl⟩
    obtain ⟨S1, hS1⟩ : ∃ P, P = wrap64 (szNs bo) := ⟨_, rfl⟩
    obtain ⟨S2, hS2⟩ : ∃ P, P = wrap64 (szNs el) := ⟨_, rfl⟩
    obtain ⟨K1, hK1⟩ : ∃ P, P = wrap64 (szKs bo) := ⟨_, rfl⟩
    obtain ⟨K2, hK2⟩ : ∃ P, P = wrap64 (szKs el) := ⟨_, rfl⟩
    rw [← hP] at HC1
    rw [← hS1, ← hK1] at HC2
    rw [← hS2, ← hK2] at HC3
    have HPP := Lib.hid (And.intro hP (And.intro (And.intro hS1 hS2) (And.intro hK1 hK2)))
    clear hP hS1 hS2 hK1 hK2
    generalize es.length = n3 at *
    generalize bo.length = n4 at *
    generalize el.length = n5 at *
    have O1 := Lib.hid (Own.new wr 69 #[.int .u8 k, .string nm, .string ot, .slice ea n3 ec, .slice ba n4 bc, .slice la n5 lc, .int .i64 ps])
    have HB := Lib.hid (HB.out.alloc HB.out.size (.cells #[.int .u8 k, .string nm, .string ot, .slice ea n3 ec, .slice ba n4 bc, .slice la n5 lc, .int .i64 ps] 69))
    go_wp2_with fail
    go_at_call 77
    refine (HC1.out _ HB.out).mono ?_
    rintro e w3 ⟨rfl, hb3⟩
    have O1 := Lib.hid (O1.out.below hb3)
    have HB := Lib.hid (HB.out.trans (hb3.mono HB.out.size))
    clear hb3
    have x4 : w3.cell? ⟨wr.heap.size, 4, none⟩ = some (.slice ba n4 bc) := by rw [cell_of_row _ _ 4 _ _ _ O1.out]; rfl
    have x5 : w3.cell? ⟨wr.heap.size, 5, none⟩ = some (.slice la n5 lc) := by rw [cell_of_row _ _ 5 _ _ _ O1.out]; rfl
    obtain ⟨KP, hKP⟩ : ∃ KP, KP = wrap64 (K + P) := ⟨_, rfl⟩
    have HKP := Lib.hid hKP
    go_upto_block 2 with (fail)
    rw [← hKP]
    clear hKP x4 x5 O1
    obtain ⟨wo, hwo⟩ : ∃ wo : World, wo = wr := ⟨_, rfl⟩
    rw [← hwo] at *
    clear hwo
    go_wp2_with fail
    go_loopg [4, 5, 30] 3 (fun m' v v2 u W => ∃ j : Nat, j ≤ 2 ∧ m' = 3 - j ∧ u = .int .i64 (j : Int) ∧ v = .int .i64 (match j with | 0 => A | 1 => wrap64 (A + S1) | _ => wrap64 (wrap64 (A + S1) + S2)) ∧ v2 = .int .i64 (match j with | 0 => KP | 1 => wrap64 (KP + K1) | _ => wrap64 (wrap64 (KP + K1) + K2)) ∧ Below w.heap.size w W)
    case atStart => exact ⟨0, by omega, by omega, rfl, rfl, rfl, HB.out⟩
    case round =>
     clear HB
     obtain ⟨j, hj, hm2, rfl, hv, hv2, hb0⟩ := hrel
     have HB := Lib.hid hb0
     clear hb0
     have i0 : ∀ w, (Instr.index 117 (.agg #[.slice ba n4 bc, .slice la n5 lc]) (.int .i64 0)).run Tryz.prog w = .ok (.slice ba n4 bc) w := fun _ => by kernel_rfl
     have i1 : ∀ w, (Instr.index 117 (.agg #[.slice ba n4 bc, .slice la n5 lc]) (.int .i64 1)).run Tryz.prog w = .ok (.slice la n5 lc) w := fun _ => by kernel_rfl
     obtain rfl | rfl | rfl : j = 0 ∨ j = 1 ∨ j = 2 := by omega
     · obtain rfl := hv
       obtain rfl := hv2
       go_wp2_with fail
       go_at_call 36
       refine (HC2.out _ HB.out).mono ?_
       rintro e w4 ⟨rfl, hb3⟩
       have HB := Lib.hid (HB.out.trans (hb3.mono HB.out.size))
       clear hb3
       go_wp2_with fail
       go_roundg 2
       case measure => omega
       case rel => exact ⟨1, by omega, by omega, rfl, rfl, rfl, HB.out⟩
     · obtain rfl := hv
       obtain rfl := hv2
       go_wp2_with fail
       go_at_call 36
       refine (HC3.out _ HB.out).mono ?_
       rintro e w4 ⟨rfl, hb3⟩
       have HB := Lib.hid (HB.out.trans (hb3.mono HB.out.size))
       clear hb3
       go_wp2_with fail
       go_roundg 1
       case measure => omega
       case rel => exact ⟨2, by omega, by omega, rfl, rfl, rfl, HB.out⟩
     · obtain rfl := hv
       obtain rfl := hv2
       go_wp2_with fail
       go_roundg (n - (i + 1) + 1)
       case measure => have := HM.out; omega
       case rel => exact ⟨i + 1, _, _, rfl, rfl, rfl, by omega, by omega, by rw [HA.out, HT.out.2.1, HPP.out.2.1.1, HPP.out.2.1.2, ← Int.add_assoc]; exact w_pn _ _ _, by rw [HKP.out, HK.out, HT.out.2.2, HPP.out.1, HPP.out.2.2.1, HPP.out.2.2.2]; exact w_pk _ _ _ _, HB.out⟩
  · have : i = n := by omega
    subst this
    have HAZ : Hid (A = Z) := by
     rw [Hid, HA.out, HZ.out, List.take_of_length_le (by have := HN.out; omega)]
     rw [szNs_len]
    have HKY : Hid (K = Y) := by
     rw [Hid, HK.out, HY.out, List.take_of_length_le (by have := HN.out; omega)]
    obtain rfl : A = Z := HAZ.out
    obtain rfl : K = Y := HKY.out
    clear HAZ HKY
    go_wp2_with fail
    go_ret2
    exact ⟨rfl, HB.out⟩
theorem p_size_subs : ∀ l : List St, ∀ x ∈ l, P_SIZE x.body ∧ P_SIZE x.els := by
 intro l
 induction l using Sts.ind with
 | h0 => intro x hx; cases hx
 | h1 k n o e b l a r hb hl hr =>
   intro x hx
   rcases List.mem_cons.1 hx with rfl | hx
   · exact ⟨p_size_one hb, p_size_one hl⟩
   · exact hr x hx
theorem p_size (l : List St) : P_SIZE l := p_size_one (p_size_subs l)
end Go.Proofs.YtikaflpiephaiaaGreatDoor

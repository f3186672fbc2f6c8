/- The proof, part 6: texts that belong together, in one. -/
import Derived.Test.YtikaflpiephaiaaGreatDoorRAE
import Derived.Test.YtikaflpiephaiaaGreatDoorRAA
import Derived.Deep.QuietTactic
import Derived.BigQuiet
import Derived.WalkLawsBesides
import Derived.Laws.Rows
import Derived.Laws.Tables
import Derived.Lib.Hide
import Derived.PlainAid
set_option maxRecDepth 100000
set_option maxHeartbeats 20000000
namespace Go.Proofs.YtikaflpiephaiaaGreatDoor
open Go.RowKit
set_option linter.unusedVariables false
theorem ownsRow_base {W : World} {base base' : Nat} {e : TypeId} {size : Nat} {v : Value} {k : Nat} {xs : List Value} (h : W.ownsRow base e size v k xs) (hb : base' ≤ base) : W.ownsRow base' e size v k xs := by
 refine ⟨h.1, ?_⟩
 rcases h.2 with h2 | ⟨g, cap, cur, hv, hg, rest⟩
 · exact .inl h2
 · exact .inr ⟨g, cap, cur, hv, Nat.le_trans hb hg, rest⟩
open Go.RowKit
set_option linter.unusedVariables false
def TokRow (W : World) (v : Value) (xs : List Res) : Prop :=
 ∃ oa cap, v = .slice oa xs.length cap ∧ ∀ (i : Nat) (x : Res), xs[i]? = some x → ∃ g off, oa = some ⟨g, off, none⟩ ∧
   W.cell? ⟨g, off + i * 4, none⟩ = some (.int .u8 x.kind) ∧ W.cell? ⟨g, off + i * 4 + 1, none⟩ = some (.string x.text) ∧ W.cell? ⟨g, off + i * 4 + 2, none⟩ = some (.int .i64 x.wd) ∧ W.cell? ⟨g, off + i * 4 + 3, none⟩ = some (.int .i64 x.place)
def scanX (s : ByteArray) : List Res × Int × Int × Int :=
 if 65536 < s.size then ([], 4, 0, 0) else if (frontR s).2.2 = 0 then ((frontR s).1, 0, 0, 0) else ([], 20, (frontR s).2.1, (frontR s).2.2)
theorem scanPost_row {s : ByteArray} {n₀ : Nat} {W : World} {v : Value} (h : scanPost s n₀ W v) :
 ∃ u, v = .tuple #[u, .int .i64 (scanX s).2.1, .agg #[.int .i64 (scanX s).2.2.1, .int .i64 (scanX s).2.2.2]] ∧ W.ownsRow n₀ 108 4 u (scanX s).1.length (rowR (scanX s).1) ∧ (u = .slice none 0 0 ↔ (scanX s).1 = []) := by
 unfold scanPost at h
 unfold scanX
 split at h
 · rename_i hl
   rw [if_pos hl]
   exact ⟨_, h, World.ownsRow_nil _ _ _ _, by simp⟩
 · rename_i hl
   rw [if_neg hl]
   split at h
   · rename_i hf
     rw [if_pos hf]
     exact h
   · rename_i hf
     rw [if_neg hf]
     exact ⟨_, h, World.ownsRow_nil _ _ _ _, by simp⟩
theorem scanX_len (s : ByteArray) : (scanX s).1.length ≤ 65536 := by
 unfold scanX
 split
 · exact Nat.zero_le _
 · split
   · have := front_len s; simp only; omega
   · exact Nat.zero_le _
theorem rowR_at : ∀ (xs : List Res) (i j : Nat) (x : Res), xs[i]? = some x → j < 4 → (rowR xs)[i * 4 + j]? = (tokCells x)[j]?
 | [], i, j, x, h, _ => by simp at h
 | y :: ys, 0, j, x, h, hj => by
   obtain rfl : y = x := by simpa using h
   have : rowR (y :: ys) = tokCells y ++ rowR ys := rfl
   rw [this, Nat.zero_mul, Nat.zero_add, List.getElem?_append_left (by show j < 4; exact hj)]
 | y :: ys, i + 1, j, x, h, hj => by
   have : rowR (y :: ys) = tokCells y ++ rowR ys := rfl
   rw [this, List.getElem?_append_right (by show 4 ≤ _; omega)]
   have e : (i + 1) * 4 + j - (tokCells y).length = i * 4 + j := by show (i + 1) * 4 + j - 4 = _; omega
   rw [e]
   exact rowR_at ys i j x (by simpa using h) hj
theorem tokRow_owns {W : World} {base : Nat} {u : Value} {xs : List Res} (h : W.ownsRow base 108 4 u xs.length (rowR xs)) : TokRow W u xs := by
 rcases h.2 with ⟨rfl, h0⟩ | ⟨g, cap, cur, rfl, hb, hg, hle, hcap, hcs, htk⟩
 · refine ⟨none, 0, by rw [h0], fun i x hx => ?_⟩
   have := (List.getElem?_eq_some_iff.1 hx).1
   omega
 · refine ⟨some ⟨g, 0, none⟩, cap, rfl, fun i x hx => ⟨g, 0, rfl, ?_⟩⟩
   have key : ∀ j u, j < 4 → (tokCells x)[j]? = some u → W.cell? ⟨g, i * 4 + j, none⟩ = some u := fun j u hj4 hu => by
    have h0 := rowR_at xs i j x hx hj4
    rw [hu, ← htk, List.getElem?_take] at h0
    split at h0
    · have h2 : cur[i * 4 + j]? = some u := by rw [← Array.getElem?_toList]; exact h0
      rw [cell_of_row W g (i * 4 + j) _ _ _ hg]; exact h2
    · cases h0
   simp only [Nat.zero_add]
   exact ⟨key 0 _ (by decide) rfl, key 1 _ (by decide) rfl, key 2 _ (by decide) rfl, key 3 _ (by decide) rfl⟩
theorem TokRow.keep {W W' : World} {u : Value} {xs : List Res} (h : TokRow W u xs) (hb : Below W.heap.size W W') : TokRow W' u xs := by
 obtain ⟨oa, cap, hu, hc⟩ := h
 refine ⟨oa, cap, hu, fun i x hx => ?_⟩
 obtain ⟨g, off, ho, a0, a1, a2, a3⟩ := hc i x hx
 have hg : g < W.heap.size := lt_of_at a0
 exact ⟨g, off, ho, (hb.cell (p := ⟨g, off + i * 4, none⟩) hg).trans a0, (hb.cell (p := ⟨g, off + i * 4 + 1, none⟩) hg).trans a1, (hb.cell (p := ⟨g, off + i * 4 + 2, none⟩) hg).trans a2, (hb.cell (p := ⟨g, off + i * 4 + 3, none⟩) hg).trans a3⟩
theorem scan_row (s : ByteArray) {w : World} (T : LTabs w) :
 Calls Tryz.prog 61 #[.string s] w fun e w' => ∃ u, e = .returned (.tuple #[u, .int .i64 (scanX s).2.1, .agg #[.int .i64 (scanX s).2.2.1, .int .i64 (scanX s).2.2.2]]) ∧ w'.ownsRow w.heap.size 108 4 u (scanX s).1.length (rowR (scanX s).1) ∧ (u = .slice none 0 0 ↔ (scanX s).1 = []) ∧ Below w.heap.size w w' := by
 refine (scan_any s w T).mono ?_
 rintro e w' ⟨⟨v, rfl, h⟩, hb⟩
 obtain ⟨u, rfl, h1, h2⟩ := scanPost_row h
 exact ⟨u, rfl, h1, h2, hb⟩
open Go.RowKit
set_option linter.unusedVariables false
def levelOf (o : Int) : Int := if 19 ≤ o then 0 else lev.getD o.toNat 0
theorem level_any (o : Int) (h0 : 0 ≤ o) (h1 : o ≤ 255) (w : World) (T : Tabs w) :
 Calls Tryz.prog 144 #[.int .u8 o] w fun e w' => e = .returned (.int .i64 (levelOf o)) ∧ w = w' := by
 by_cases h : 19 ≤ o
 · have hl : levelOf o = 0 := by unfold levelOf; rw [if_pos h]
   rw [hl]; clear hl
   go_enter Tryz.func144, Tryz.ntmps144
   go_wp2
   go_ret
   exact ⟨rfl, rfl⟩
 · have hc := T.lev o.toNat (by omega)
   have hl : levelOf o = lev.getD o.toNat 0 := by unfold levelOf; rw [if_neg h]
   rw [hl]; clear hl
   obtain ⟨v, hv⟩ : ∃ v, v = lev.getD o.toNat 0 := ⟨_, rfl⟩
   rw [← hv] at hc ⊢
   clear hv T
   go_enter Tryz.func144, Tryz.ntmps144
   go_wp2
   go_ret
   exact ⟨rfl, rfl⟩
theorem two_yes (o : Int) (h0 : 0 ≤ o) (h1 : o ≤ 255) (hl : 0 < levelOf o) (hh : levelOf o < 9) (w : World) (T : Tabs w) :
 Calls Tryz.prog 97 #[.int .u8 o] w fun e w' => e = .returned (.bool true) ∧ w = w' := by
 have H := Lib.hid (level_any o h0 h1 w T)
 obtain ⟨v, hv⟩ : ∃ v, v = levelOf o := ⟨_, rfl⟩
 rw [← hv] at hl hh H
 clear hv T h0 h1
 go_enter Tryz.func97, Tryz.ntmps97
 go_wp2_with (go_at_call 144; refine (H.out).mono ?_; rintro e w' ⟨rfl, rfl⟩)
 go_ret
 exact ⟨rfl, rfl⟩
theorem two_no (o : Int) (h0 : 0 ≤ o) (h1 : o ≤ 255) (hl : levelOf o = 0 ∨ levelOf o = 9) (w : World) (T : Tabs w) :
 Calls Tryz.prog 97 #[.int .u8 o] w fun e w' => e = .returned (.bool false) ∧ w = w' := by
 have H := Lib.hid (level_any o h0 h1 w T)
 clear T h0 h1
 rcases hl with hl | hl
 all_goals
  rw [hl] at H
  clear hl
  go_enter Tryz.func97, Tryz.ntmps97
  go_wp2_with (go_at_call 144; refine (H.out).mono ?_; rintro e w' ⟨rfl, rfl⟩)
  go_ret
  exact ⟨rfl, rfl⟩
def sgnAt (k : Nat) : List UInt8 := sgn.getD k []
def fndFrom (l : List UInt8) : Nat → Nat → Int × Bool
 | 0, _ => (0, false)
 | n + 1, k => if sgnAt k = l then ((k : Int), true) else fndFrom l n (k + 1)
def fnd (l : List UInt8) : Int × Bool := fndFrom l 16 1
theorem fnd_step {l : List UInt8} {k : Nat} (h0 : 1 ≤ k) (h1 : k ≤ 16) (hp : fndFrom l (17 - k) k = fnd l) (hn : sgnAt k ≠ l) : fndFrom l (17 - (k + 1)) (k + 1) = fnd l := by
 rw [← hp, show 17 - k = (17 - (k + 1)) + 1 by omega]
 simp only [fndFrom]
 rw [if_neg hn]
theorem fnd_hit {l : List UInt8} {k : Nat} (h0 : 1 ≤ k) (h1 : k ≤ 16) (hp : fndFrom l (17 - k) k = fnd l) (hn : sgnAt k = l) : fnd l = ((k : Int), true) := by
 rw [← hp, show 17 - k = (17 - (k + 1)) + 1 by omega]
 simp only [fndFrom]
 rw [if_pos hn]
theorem Tabs.drewN {w : World} (T : Tabs w) (n : Nat) : Tabs (w.drewN n) := T.below (Nat.le_refl _) ⟨rfl, rfl, rfl, Nat.le_refl _, fun _ _ => rfl⟩
theorem found_yes (b : Nat) (k : Nat) (s v : ByteArray) (w : World) (T : Tabs w) (h1 : 1 ≤ k) (h2 : k ≤ 16) (hc : w.cell? ⟨b, 0, none⟩ = some (.string s)) (hv : w.cell? ⟨3, k, none⟩ = some (.string v)) :
 Calls Tryz.prog 174 #[.int .u8 (k : Int), .pointer (some ⟨b, 0, none⟩)] w fun e w' => e = .returned (.bool (v.toList == s.toList)) ∧ ∃ n, w' = w.drewN n := by
 have hl : 0 < levelOf (k : Int) ∧ levelOf (k : Int) < 9 := by
  have : k = 1 ∨ k = 2 ∨ k = 3 ∨ k = 4 ∨ k = 5 ∨ k = 6 ∨ k = 7 ∨ k = 8 ∨ k = 9 ∨ k = 10 ∨ k = 11 ∨ k = 12 ∨ k = 13 ∨ k = 14 ∨ k = 15 ∨ k = 16 := by omega
  rcases this with rfl | rfl | rfl | rfl | rfl | rfl | rfl | rfl | rfl | rfl | rfl | rfl | rfl | rfl | rfl | rfl <;> decide
 have H2 : ∀ W : World, Tabs W → Calls Tryz.prog 97 #[.int .u8 (k : Int)] W fun e w' => e = .returned (.bool true) ∧ w' = W := fun W TW =>
  (two_yes (k : Int) (by omega) (by omega) hl.1 hl.2 W TW).mono fun _ _ ⟨a, c⟩ => ⟨a, c.symm⟩
 have HH := Lib.hid H2
 clear H2 hl
 go_enter Tryz.func174, Tryz.ntmps174
 go_wp2
 go_quiet ((go_at_call 97; exact Calls.quiet_of_same (HH.out _ (T.drewN _))))
 go_wp2
 go_ret
 exact ⟨rfl, _, rfl⟩
theorem found_no (b : Nat) (k : Nat) (w : World) (T : Tabs w) (h : k = 0 ∨ k = 17 ∨ k = 18) :
 Calls Tryz.prog 174 #[.int .u8 (k : Int), .pointer (some ⟨b, 0, none⟩)] w fun e w' => e = .returned (.bool false) ∧ ∃ n, w' = w.drewN n := by
 have hl : levelOf (k : Int) = 0 ∨ levelOf (k : Int) = 9 := by
  rcases h with rfl | rfl | rfl <;> decide
 have H2 : ∀ W : World, Tabs W → Calls Tryz.prog 97 #[.int .u8 (k : Int)] W fun e w' => e = .returned (.bool false) ∧ w' = W := fun W TW =>
  (two_no (k : Int) (by omega) (by omega) hl W TW).mono fun _ _ ⟨a, c⟩ => ⟨a, c.symm⟩
 have HH := Lib.hid H2
 clear H2 hl h
 go_enter Tryz.func174, Tryz.ntmps174
 go_wp2
 go_quiet ((go_at_call 97; exact Calls.quiet_of_same (HH.out _ (T.drewN _))))
 go_wp2
 go_ret
 exact ⟨rfl, _, rfl⟩
def FP (l : List UInt8) (k : Nat) : Prop := (1 ≤ k → k ≤ 17 → fndFrom l (17 - k) k = fnd l) ∧ (17 ≤ k → fnd l = (0, false))
theorem below_drewN {B : Nat} {a w : World} (h : Below B a w) (n : Nat) : Below B a (w.drewN n) := ⟨h.os, h.tape, h.output, h.size, h.block⟩
theorem find_any (s : ByteArray) (w : World) (T : Tabs w) : Calls Tryz.prog 148 #[.string s] w fun e w' => e = .returned (.tuple #[.int .u8 (fnd s.data.toList).1, .bool (fnd s.data.toList).2]) ∧ Below w.heap.size w w' := by
 obtain ⟨R, hR⟩ : ∃ R, R = fnd s.data.toList := ⟨_, rfl⟩
 rw [← hR]
 have HR := Lib.hid hR
 clear hR
 have hA : Below w.heap.size w (w.alloc (.cells #[.string s] 9)) := (Below.refl _ _).alloc (Nat.le_refl _) _
 have TA := T.below (Nat.le_refl _) hA
 clear T
 go_enter Tryz.func148, Tryz.ntmps148
 go_wp2_with fail
 go_loopw [7] (fun o wr => ∃ k : Nat, k ≤ 19 ∧ o = .int .u8 k ∧ FP s.data.toList k ∧ wr.cell? ⟨w.heap.size, 0, none⟩ = some (.string s) ∧ Tabs wr ∧ Below w.heap.size w wr) (fun o _ => 19 - (intOf o).toNat)
 case atStart => exact ⟨0, by omega, rfl, ⟨fun h => by omega, fun h => by omega⟩, cell_of_row _ _ 0 _ _ _ (heap_alloc_new _ _), TA, hA⟩
 case round =>
  obtain ⟨k, hk, rfl, hp, hc, T, hB⟩ := hrel
  clear TA hA
  have hz := hB.size
  by_cases hk19 : k < 19
  · by_cases hin : 1 ≤ k ∧ k ≤ 16
    · obtain ⟨v, hv⟩ : ∃ v : ByteArray, v = ⟨(sgn.getD k []).toArray⟩ := ⟨_, rfl⟩
      have hcv := T.sgn k hk19
      rw [← hv] at hcv
      have hvl : v.data.toList = sgnAt k := by rw [hv]; rfl
      have hp1 := hp.1 hin.1 (by omega)
      have H := Lib.hid (found_yes w.heap.size k s v wr T hin.1 hin.2 hc hcv)
      clear hv hcv
      by_cases he : v.data.toList = s.data.toList
      · have hres : Hid (R = ((k : Int), true)) := by rw [Hid, HR.out, fnd_hit hin.1 hin.2 hp1 (hvl.symm.trans he)]
        have ht : (v.toList == s.toList) = true := bytes_t he
        rw [ht] at H
        clear hvl he hp hp1 hin ht
        go_wp2_with (go_at_call 174; refine (H.out).mono ?_; rintro e w1 ⟨rfl, n, rfl⟩)
        go_ret2
        rw [hres.out]
        exact ⟨rfl, below_drewN hB _⟩
      · have hnx : FP s.data.toList (k + 1) := by
         have hst := fnd_step hin.1 hin.2 hp1 (fun h => he (hvl.trans h))
         refine ⟨fun _ _ => hst, fun h => ?_⟩
         obtain rfl : k = 16 := by omega
         exact hst.symm
        have ht : (v.toList == s.toList) = false := bytes_f he
        rw [ht] at H
        clear hvl he hp hp1 hin ht
        go_wp2_with (go_at_call 174; refine (H.out).mono ?_; rintro e w1 ⟨rfl, n, rfl⟩)
        go_roundw
        case rel => exact ⟨k + 1, by omega, by go_num, hnx, hc, T.drewN _, below_drewN hB _⟩
        case measure => simp [intOf]; omega
    · have H := Lib.hid (found_no w.heap.size k wr T (by omega))
      have hnx : FP s.data.toList (k + 1) := by
       refine ⟨fun _ h => ?_, fun h => hp.2 (by omega)⟩
       obtain rfl : k = 0 := by omega
       rfl
      clear hp hin
      go_wp2_with (go_at_call 174; refine (H.out).mono ?_; rintro e w1 ⟨rfl, n, rfl⟩)
      go_roundw
      case rel => exact ⟨k + 1, by omega, by go_num, hnx, hc, T.drewN _, below_drewN hB _⟩
      case measure => simp [intOf]; omega
  · have hres : Hid (R = (0, false)) := by rw [Hid, HR.out, hp.2 (by omega)]
    clear hp
    go_wp2_with fail
    go_ret2
    rw [hres.out]
    exact ⟨rfl, hB⟩
set_option linter.unusedVariables false
structure Tk where
 kind : Int
 text : ByteArray
 wd : Int
 pos : Int
inductive Ex where
 | mk (kind op wd : Int) (name : ByteArray) (kids : List Ex) (pos : Int)
structure Dc where
 name : ByteArray
 wd : Int
 pos : Int
inductive St where
 | mk (kind : Int) (name other : ByteArray) (e : List Ex) (body els : List St) (pos : Int)
structure Th where
 name : ByteArray
 locals : List Dc
 body : List St
 pos : Int
structure Pg where
 shared : List Dc
 locks : List Dc
 threads : List Th
theorem Ex.ind {P : Ex → Prop} (h : ∀ k o w n ks a, (∀ x ∈ ks, P x) → P (.mk k o w n ks a)) : ∀ e, P e
 | .mk k o w n ks a => h k o w n ks a fun x hx => Ex.ind h x
termination_by e => SizeOf.sizeOf e
decreasing_by
 have := List.sizeOf_lt_of_mem hx
 simp only [Ex.mk.sizeOf_spec]
 omega
theorem St.ind {P : St → Prop} (h : ∀ k n o e b l a, (∀ x ∈ b, P x) → (∀ x ∈ l, P x) → P (.mk k n o e b l a)) : ∀ s, P s
 | .mk k n o e b l a => h k n o e b l a (fun x hx => St.ind h x) (fun x hx => St.ind h x)
termination_by s => SizeOf.sizeOf s
decreasing_by
 · have := List.sizeOf_lt_of_mem hx
   simp only [St.mk.sizeOf_spec]
   omega
 · have := List.sizeOf_lt_of_mem hx
   simp only [St.mk.sizeOf_spec]
   omega
theorem Exs.ind {P : List Ex → Prop} (h0 : P []) (h1 : ∀ k o w n ks a r, P ks → P r → P (.mk k o w n ks a :: r)) : ∀ l, P l
 | [] => h0
 | .mk k o w n ks a :: r => h1 k o w n ks a r (Exs.ind h0 h1 ks) (Exs.ind h0 h1 r)
termination_by l => SizeOf.sizeOf l
theorem Sts.ind {P : List St → Prop} (h0 : P []) (h1 : ∀ k n o e b l a r, P b → P l → P r → P (.mk k n o e b l a :: r)) : ∀ l, P l
 | [] => h0
 | .mk k n o e b l a :: r => h1 k n o e b l a r (Sts.ind h0 h1 b) (Sts.ind h0 h1 l) (Sts.ind h0 h1 r)
termination_by l => SizeOf.sizeOf l
def Ex.kind : Ex → Int | .mk k _ _ _ _ _ => k
def Ex.op : Ex → Int | .mk _ o _ _ _ _ => o
def Ex.wd : Ex → Int | .mk _ _ w _ _ _ => w
def Ex.name : Ex → ByteArray | .mk _ _ _ n _ _ => n
def Ex.kids : Ex → List Ex | .mk _ _ _ _ k _ => k
def Ex.pos : Ex → Int | .mk _ _ _ _ _ p => p
def St.kind : St → Int | .mk k _ _ _ _ _ _ => k
def St.name : St → ByteArray | .mk _ n _ _ _ _ _ => n
def St.other : St → ByteArray | .mk _ _ o _ _ _ _ => o
def St.e : St → List Ex | .mk _ _ _ e _ _ _ => e
def St.body : St → List St | .mk _ _ _ _ b _ _ => b
def St.els : St → List St | .mk _ _ _ _ _ l _ => l
def St.pos : St → Int | .mk _ _ _ _ _ _ p => p
inductive PR (α : Type) where
 | ok (a : α) (r : List Tk)
 | bad (pos rule : Int)
def PR.then {α β : Type} (x : PR α) (f : α → List Tk → PR β) : PR β :=
 match x with
 | .ok a r => f a r
 | .bad p r => .bad p r
@[simp] theorem PR.then_ok {α β : Type} (a : α) (r : List Tk) (f : α → List Tk → PR β) : (PR.ok a r).then f = f a r := rfl
@[simp] theorem PR.then_bad {α β : Type} (p r : Int) (f : α → List Tk → PR β) : (PR.bad p r : PR α).then f = .bad p r := rfl
abbrev Bs := List UInt8
def Tk.tx (t : Tk) : Bs := t.text.data.toList
def hdP (L : Int) : List Tk → Int
 | [] => L
 | t :: _ => t.pos
def isT (s : Bs) : List Tk → Bool
 | [] => false
 | t :: _ => t.tx == s
def need (L : Int) (s : Bs) (ts : List Tk) : PR Unit := if isT s ts then .ok () ts.tail else .bad (hdP L ts) 2
def nameP (L : Int) : List Tk → PR Dc
 | [] => .bad L 2
 | t :: r => if t.kind = 1 then .ok ⟨t.text, 0, t.pos⟩ r else .bad t.pos 2
def numP (L : Int) : List Tk → PR Int
 | [] => .bad L 2
 | t :: r => if t.kind = 3 then .ok t.wd r else .bad t.pos 2
def sLevel : List Int := [0, 7, 7, 8, 8, 8, 3, 1, 2, 6, 6, 4, 4, 5, 5, 5, 5, 9, 9]
def levelI (o : Int) : Int := sLevel.getD o.toNat 0
def unX (op : Int) (p : Int) (e : Ex) : Ex := .mk 3 op 0 ⟨#[]⟩ [e] p
def biX (op : Int) (p : Int) (a b : Ex) : Ex := .mk 4 op 0 ⟨#[]⟩ [a, b] p
section
variable (fnd : Bs → Int × Bool) (L : Int)
mutual
def opnd : Nat → Int → List Tk → PR Ex
 | 0, _, _ => .bad 0 0
 | _ + 1, _, [] => .bad L 2
 | n + 1, d, t :: r =>
   if t.kind = 3 then .ok (.mk 1 0 t.wd ⟨#[]⟩ [] t.pos) r
   else if t.kind = 1 then .ok (.mk 2 0 0 t.text [] t.pos) r
   else if t.tx = [45] then if d = 64 then .bad t.pos 3 else (opnd n (d + 1) r).then fun e r => .ok (unX 17 t.pos e) r
   else if t.tx = [33] then if d = 64 then .bad t.pos 3 else (opnd n (d + 1) r).then fun e r => .ok (unX 18 t.pos e) r
   else if t.tx = [40] then if d = 64 then .bad t.pos 3 else (binE n 1 (d + 1) r).then fun e r => (need L [41] r).then fun _ r => .ok e r
   else .bad t.pos 2
def binE : Nat → Int → Int → List Tk → PR Ex
 | 0, _, _, _ => .bad 0 0
 | n + 1, v, d, ts => (opnd n d ts).then fun e r => binL n v d e r
def binL : Nat → Int → Int → Ex → List Tk → PR Ex
 | 0, _, _, _, _ => .bad 0 0
 | _ + 1, _, _, e, [] => .ok e []
 | n + 1, v, d, e, t :: r =>
   if (fnd t.tx).2 = true ∧ v ≤ levelI (fnd t.tx).1 then (binE n (levelI (fnd t.tx).1 + 1) d r).then fun f r => binL n v d (biX (fnd t.tx).1 t.pos e f) r
   else .ok e (t :: r)
end
def listP (one : List Tk → PR Dc) : Nat → List Dc → List Tk → PR (List Dc)
 | 0, _, _ => .bad 0 0
 | n + 1, acc, ts => (one ts).then fun d r => if isT [44] r then listP one n (acc ++ [d]) r.tail else (need L [59] r).then fun _ r => .ok (acc ++ [d]) r
def firstP (ts : List Tk) : PR Dc := (nameP L ts).then fun d r =>
 if isT [61] r then
  if isT [45] r.tail then (numP L r.tail.tail).then fun v r => .ok ⟨d.name, -v, d.pos⟩ r
  else (numP L r.tail).then fun v r => .ok ⟨d.name, v, d.pos⟩ r
 else .ok d r
def parenP (n : Nat) (ts : List Tk) : PR Ex := (need L [40] ts).then fun _ r => (binE fnd L n 1 0 r).then fun e r => (need L [41] r).then fun _ r => .ok e r
def changeP (n : Nat) (t : Tk) (r : List Tk) : PR St :=
 (need L [61] r).then fun _ r =>
  if isT [115, 119, 97, 112] r then
   (need L [40] r.tail).then fun _ r => (nameP L r).then fun o r => (need L [44] r).then fun _ r => (binE fnd L n 1 0 r).then fun e r => (need L [41] r).then fun _ r => (need L [59] r).then fun _ r => .ok (.mk 2 t.text o.name [e] [] [] t.pos) r
  else (binE fnd L n 1 0 r).then fun e r => (need L [59] r).then fun _ r => .ok (.mk 1 t.text ⟨#[]⟩ [e] [] [] t.pos) r
def openP (d : Int) (ts : List Tk) : PR Unit := (need L [123] ts).then fun _ r => if 64 < d then .bad (hdP L ts) 3 else .ok () r
mutual
def stmtP : Nat → Int → List Tk → PR St
 | 0, _, _ => .bad 0 0
 | _ + 1, _, [] => .bad L 2
 | n + 1, d, t :: r =>
   if t.kind = 1 then changeP fnd L n t r
   else if t.tx = [105, 102] then (parenP fnd L n r).then fun e r => (openP L (d + 1) r).then fun _ r => (restP n (d + 1) [] r).then fun b r =>
    if isT [101, 108, 115, 101] r then (openP L (d + 1) r.tail).then fun _ r => (restP n (d + 1) [] r).then fun l r => .ok (.mk 3 ⟨#[]⟩ ⟨#[]⟩ [e] b l t.pos) r
    else .ok (.mk 3 ⟨#[]⟩ ⟨#[]⟩ [e] b [] t.pos) r
   else if t.tx = [119, 104, 105, 108, 101] then (parenP fnd L n r).then fun e r => (openP L (d + 1) r).then fun _ r => (restP n (d + 1) [] r).then fun b r => .ok (.mk 4 ⟨#[]⟩ ⟨#[]⟩ [e] b [] t.pos) r
   else if t.tx = [108, 111, 99, 107] then (nameP L r).then fun o r => (openP L (d + 1) r).then fun _ r => (restP n (d + 1) [] r).then fun b r => .ok (.mk 5 o.name ⟨#[]⟩ [] b [] t.pos) r
   else if t.tx = [112, 114, 105, 110, 116] then (binE fnd L n 1 0 r).then fun e r => (need L [59] r).then fun _ r => .ok (.mk 6 ⟨#[]⟩ ⟨#[]⟩ [e] [] [] t.pos) r
   else if t.tx = [115, 107, 105, 112] then (need L [59] r).then fun _ r => .ok (.mk 7 ⟨#[]⟩ ⟨#[]⟩ [] [] [] t.pos) r
   else .bad t.pos 2
def restP : Nat → Int → List St → List Tk → PR (List St)
 | 0, _, _, _ => .bad 0 0
 | n + 1, d, acc, ts => if isT [125] ts then .ok acc ts.tail else (stmtP n d ts).then fun s r => restP n d (acc ++ [s]) r
end
def localsP : Nat → List Dc → List Tk → PR (List Dc)
 | 0, _, _ => .bad 0 0
 | n + 1, acc, ts => if isT [108, 111, 99, 97, 108] ts then (listP L (nameP L) n [] ts.tail).then fun l r => localsP n (acc ++ l) r else .ok acc ts
def threadP (n : Nat) (ts : List Tk) : PR Th :=
 (nameP L ts).then fun d r => (openP L 1 r).then fun _ r => (localsP L n [] r).then fun l r => (restP fnd L n 1 [] r).then fun b r => .ok ⟨d.name, l, b, d.pos⟩ r
def threadsP : Nat → List Th → List Tk → PR (List Th)
 | 0, _, _ => .bad 0 0
 | n + 1, acc, ts => if isT [116, 104, 114, 101, 97, 100] ts then (threadP fnd L n ts.tail).then fun t r => threadsP n (acc ++ [t]) r else .ok acc ts
def declsP : Nat → Pg → List Tk → PR Pg
 | 0, _, _ => .bad 0 0
 | n + 1, p, ts =>
   if isT [115, 104, 97, 114, 101, 100] ts then (listP L (firstP L) n [] ts.tail).then fun l r => declsP n { p with shared := p.shared ++ l } r
   else if isT [108, 111, 99, 107] ts then (listP L (nameP L) n [] ts.tail).then fun l r => declsP n { p with locks := p.locks ++ l } r
   else .ok p ts
def endP {α : Type} (x : PR α) : PR α := x.then fun a r => match r with | [] => .ok a [] | t :: _ => .bad t.pos 2
def progP (n : Nat) (ts : List Tk) : PR Pg := (declsP L n ⟨[], [], []⟩ ts).then fun p r => (threadsP fnd L n [] r).then fun l r => .ok { p with threads := l } r
def fuel (ts : List Tk) : Nat := 3 * ts.length + 5
end
set_option linter.unusedVariables false
theorem PR.then_eq_ok {α β : Type} {x : PR α} {f : α → List Tk → PR β} {b : β} {r : List Tk} (h : x.then f = .ok b r) : ∃ a q, x = .ok a q ∧ f a q = .ok b r := by
 cases x with
 | ok a q => exact ⟨a, q, rfl, h⟩
 | bad p q => cases h
theorem need_ok {L : Int} {s : Bs} {ts : List Tk} {u : Unit} {r : List Tk} (h : need L s ts = .ok u r) : isT s ts = true ∧ r = ts.tail ∧ r.length + 1 = ts.length := by
 unfold need at h
 split at h
 · rename_i hi
   cases h
   cases ts with
   | nil => cases hi
   | cons t r => exact ⟨hi, rfl, rfl⟩
 · cases h
theorem isT_tail {s : Bs} {ts : List Tk} (h : isT s ts = true) : ts.tail.length + 1 = ts.length := by
 cases ts with
 | nil => cases h
 | cons t r => rfl
theorem name_ok {L : Int} {ts : List Tk} {d : Dc} {r : List Tk} (h : nameP L ts = .ok d r) : r.length + 1 = ts.length := by
 cases ts with
 | nil => cases h
 | cons t q =>
   simp only [nameP] at h
   split at h
   · cases h; rfl
   · cases h
theorem num_ok {L : Int} {ts : List Tk} {d : Int} {r : List Tk} (h : numP L ts = .ok d r) : r.length + 1 = ts.length := by
 cases ts with
 | nil => cases h
 | cons t q =>
   simp only [numP] at h
   split at h
   · cases h; rfl
   · cases h
section
variable {fnd : Bs → Int × Bool} {L : Int}
theorem expr_short : ∀ n : Nat,
 (∀ d ts e r, opnd fnd L n d ts = .ok e r → r.length < ts.length) ∧
 (∀ v d ts e r, binE fnd L n v d ts = .ok e r → r.length < ts.length) ∧
 (∀ v d l ts e r, binL fnd L n v d l ts = .ok e r → r.length ≤ ts.length) := by
 intro n
 induction n with
 | zero => exact ⟨fun d ts e r h => by simp [opnd] at h, fun v d ts e r h => by simp [binE] at h, fun v d l ts e r h => by simp [binL] at h⟩
 | succ n ih =>
   obtain ⟨i1, i2, i3⟩ := ih
   refine ⟨fun d ts e r h => ?_, fun v d ts e r h => ?_, fun v d l ts e r h => ?_⟩
   · cases ts with
     | nil => simp [opnd] at h
     | cons t q =>
       simp only [opnd] at h
       split at h
       · cases h; simp
       split at h
       · cases h; simp
       split at h
       · split at h
         · cases h
         · obtain ⟨a, b, h1, h2⟩ := PR.then_eq_ok h
           cases h2
           have := i1 _ _ _ _ h1
           simp; omega
       split at h
       · split at h
         · cases h
         · obtain ⟨a, b, h1, h2⟩ := PR.then_eq_ok h
           cases h2
           have := i1 _ _ _ _ h1
           simp; omega
       split at h
       · split at h
         · cases h
         · obtain ⟨a, b, h1, h2⟩ := PR.then_eq_ok h
           obtain ⟨u, c, h3, h4⟩ := PR.then_eq_ok h2
           cases h4
           have := i2 _ _ _ _ _ h1
           have := (need_ok h3).2.2
           simp; omega
       · cases h
   · simp only [binE] at h
     obtain ⟨a, b, h1, h2⟩ := PR.then_eq_ok h
     have := i1 _ _ _ _ h1
     have := i3 _ _ _ _ _ _ h2
     omega
   · cases ts with
     | nil => simp only [binL] at h; cases h; simp
     | cons t q =>
       simp only [binL] at h
       split at h
       · obtain ⟨a, b, h1, h2⟩ := PR.then_eq_ok h
         have := i2 _ _ _ _ _ h1
         have := i3 _ _ _ _ _ _ h2
         simp; omega
       · cases h; simp
theorem opnd_short {n : Nat} {d : Int} {ts : List Tk} {e : Ex} {r : List Tk} (h : opnd fnd L n d ts = .ok e r) : r.length < ts.length := (expr_short n).1 _ _ _ _ h
theorem binE_short {n : Nat} {v d : Int} {ts : List Tk} {e : Ex} {r : List Tk} (h : binE fnd L n v d ts = .ok e r) : r.length < ts.length := (expr_short n).2.1 _ _ _ _ _ h
theorem list_short {one : List Tk → PR Dc} (ho : ∀ ts d r, one ts = .ok d r → r.length < ts.length) : ∀ (n : Nat) (acc : List Dc) (ts : List Tk) (l : List Dc) (r : List Tk), listP L one n acc ts = .ok l r → r.length < ts.length
 | 0, acc, ts, l, r, h => by simp [listP] at h
 | n + 1, acc, ts, l, r, h => by
   simp only [listP] at h
   obtain ⟨a, b, h1, h2⟩ := PR.then_eq_ok h
   have k := ho _ _ _ h1
   split at h2
   · rename_i hi
     have := list_short ho n _ _ _ _ h2
     have := isT_tail hi
     omega
   · obtain ⟨u, c, h3, h4⟩ := PR.then_eq_ok h2
     cases h4
     have := (need_ok h3).2.2
     omega
theorem nameP_short {ts : List Tk} {d : Dc} {r : List Tk} (h : nameP L ts = .ok d r) : r.length < ts.length := by have := name_ok h; omega
theorem firstP_short {ts : List Tk} {d : Dc} {r : List Tk} (h : firstP L ts = .ok d r) : r.length < ts.length := by
 unfold firstP at h
 obtain ⟨a, b, h1, h2⟩ := PR.then_eq_ok h
 have k := nameP_short h1
 split at h2
 · rename_i i1
   have q1 := isT_tail i1
   split at h2
   · rename_i i2
     have q2 := isT_tail i2
     obtain ⟨c, e, h3, h4⟩ := PR.then_eq_ok h2
     have := num_ok h3
     cases h4
     omega
   · obtain ⟨c, e, h3, h4⟩ := PR.then_eq_ok h2
     have := num_ok h3
     cases h4
     omega
 · cases h2; exact k
theorem paren_short {n : Nat} {ts : List Tk} {e : Ex} {r : List Tk} (h : parenP fnd L n ts = .ok e r) : r.length < ts.length := by
 unfold parenP at h
 obtain ⟨u, b, h1, h2⟩ := PR.then_eq_ok h
 obtain ⟨a, c, h3, h4⟩ := PR.then_eq_ok h2
 obtain ⟨u', d, h5, h6⟩ := PR.then_eq_ok h4
 cases h6
 have := (need_ok h1).2.2
 have := binE_short h3
 have := (need_ok h5).2.2
 omega
theorem open_short {d : Int} {ts : List Tk} {u : Unit} {r : List Tk} (h : openP L d ts = .ok u r) : r.length + 1 = ts.length := by
 unfold openP at h
 obtain ⟨a, b, h1, h2⟩ := PR.then_eq_ok h
 split at h2
 · cases h2
 · cases h2
   exact (need_ok h1).2.2
theorem change_short {n : Nat} {t : Tk} {ts : List Tk} {s : St} {r : List Tk} (h : changeP fnd L n t ts = .ok s r) : r.length < ts.length := by
 unfold changeP at h
 obtain ⟨u, b, h1, h2⟩ := PR.then_eq_ok h
 have := (need_ok h1).2.2
 split at h2
 · rename_i i1
   have := isT_tail i1
   obtain ⟨u1, b1, h3, h4⟩ := PR.then_eq_ok h2
   obtain ⟨u2, b2, h5, h6⟩ := PR.then_eq_ok h4
   obtain ⟨u3, b3, h7, h8⟩ := PR.then_eq_ok h6
   obtain ⟨u4, b4, h9, h10⟩ := PR.then_eq_ok h8
   obtain ⟨u5, b5, h11, h12⟩ := PR.then_eq_ok h10
   obtain ⟨u6, b6, h13, h14⟩ := PR.then_eq_ok h12
   cases h14
   have := (need_ok h3).2.2
   have := name_ok h5
   have := (need_ok h7).2.2
   have := binE_short h9
   have := (need_ok h11).2.2
   have := (need_ok h13).2.2
   omega
 · obtain ⟨u4, b4, h9, h10⟩ := PR.then_eq_ok h2
   obtain ⟨u5, b5, h11, h12⟩ := PR.then_eq_ok h10
   cases h12
   have := binE_short h9
   have := (need_ok h11).2.2
   omega
theorem stmt_short : ∀ n : Nat,
 (∀ d ts s r, stmtP fnd L n d ts = .ok s r → r.length < ts.length) ∧
 (∀ d acc ts l r, restP fnd L n d acc ts = .ok l r → r.length < ts.length) := by
 intro n
 induction n with
 | zero => exact ⟨fun d ts s r h => by simp [stmtP] at h, fun d acc ts l r h => by simp [restP] at h⟩
 | succ n ih =>
   obtain ⟨i1, i2⟩ := ih
   refine ⟨fun d ts s r h => ?_, fun d acc ts l r h => ?_⟩
   · cases ts with
     | nil => simp [stmtP] at h
     | cons t q =>
       simp only [stmtP] at h
       rw [List.length_cons]
       split at h
       · have := change_short h; omega
       split at h
       · obtain ⟨u1, b1, h1, h2⟩ := PR.then_eq_ok h
         obtain ⟨u2, b2, h3, h4⟩ := PR.then_eq_ok h2
         obtain ⟨u3, b3, h5, h6⟩ := PR.then_eq_ok h4
         have := paren_short h1
         have := open_short h3
         have := i2 _ _ _ _ _ h5
         split at h6
         · rename_i hi
           have := isT_tail hi
           obtain ⟨u4, b4, h7, h8⟩ := PR.then_eq_ok h6
           obtain ⟨u5, b5, h9, h10⟩ := PR.then_eq_ok h8
           have := open_short h7
           have := i2 _ _ _ _ _ h9
           cases h10
           omega
         · cases h6; omega
       split at h
       · obtain ⟨u1, b1, h1, h2⟩ := PR.then_eq_ok h
         obtain ⟨u2, b2, h3, h4⟩ := PR.then_eq_ok h2
         obtain ⟨u3, b3, h5, h6⟩ := PR.then_eq_ok h4
         have := paren_short h1
         have := open_short h3
         have := i2 _ _ _ _ _ h5
         cases h6; omega
       split at h
       · obtain ⟨u1, b1, h1, h2⟩ := PR.then_eq_ok h
         obtain ⟨u2, b2, h3, h4⟩ := PR.then_eq_ok h2
         obtain ⟨u3, b3, h5, h6⟩ := PR.then_eq_ok h4
         have := name_ok h1
         have := open_short h3
         have := i2 _ _ _ _ _ h5
         cases h6; omega
       split at h
       · obtain ⟨u1, b1, h1, h2⟩ := PR.then_eq_ok h
         obtain ⟨u2, b2, h3, h4⟩ := PR.then_eq_ok h2
         have := binE_short h1
         have := (need_ok h3).2.2
         cases h4; omega
       split at h
       · obtain ⟨u1, b1, h1, h2⟩ := PR.then_eq_ok h
         have := (need_ok h1).2.2
         cases h2; omega
       · cases h
   · simp only [restP] at h
     split at h
     · rename_i hi
       cases h
       have := isT_tail hi
       omega
     · obtain ⟨a, b, h1, h2⟩ := PR.then_eq_ok h
       have := i1 _ _ _ _ h1
       have := i2 _ _ _ _ _ h2
       omega
theorem stmtP_short {n : Nat} {d : Int} {ts : List Tk} {s : St} {r : List Tk} (h : stmtP fnd L n d ts = .ok s r) : r.length < ts.length := (stmt_short n).1 _ _ _ _ h
theorem restP_short {n : Nat} {d : Int} {acc : List St} {ts : List Tk} {l : List St} {r : List Tk} (h : restP fnd L n d acc ts = .ok l r) : r.length < ts.length := (stmt_short n).2 _ _ _ _ _ h
theorem locals_short : ∀ (n : Nat) (acc : List Dc) (ts : List Tk) (l : List Dc) (r : List Tk), localsP L n acc ts = .ok l r → r.length ≤ ts.length
 | 0, acc, ts, l, r, h => by simp [localsP] at h
 | n + 1, acc, ts, l, r, h => by
   simp only [localsP] at h
   split at h
   · rename_i hi
     have := isT_tail hi
     obtain ⟨a, b, h1, h2⟩ := PR.then_eq_ok h
     have := list_short (L := L) (fun _ _ _ h => nameP_short h) n _ _ _ _ h1
     have := locals_short n _ _ _ _ h2
     omega
   · cases h; exact Nat.le_refl _
theorem thread_short {n : Nat} {ts : List Tk} {t : Th} {r : List Tk} (h : threadP fnd L n ts = .ok t r) : r.length < ts.length := by
 unfold threadP at h
 obtain ⟨u1, b1, h1, h2⟩ := PR.then_eq_ok h
 obtain ⟨u2, b2, h3, h4⟩ := PR.then_eq_ok h2
 obtain ⟨u3, b3, h5, h6⟩ := PR.then_eq_ok h4
 obtain ⟨u4, b4, h7, h8⟩ := PR.then_eq_ok h6
 cases h8
 have := name_ok h1
 have := open_short h3
 have := locals_short _ _ _ _ _ h5
 have := restP_short h7
 omega
end
end Go.Proofs.YtikaflpiephaiaaGreatDoor

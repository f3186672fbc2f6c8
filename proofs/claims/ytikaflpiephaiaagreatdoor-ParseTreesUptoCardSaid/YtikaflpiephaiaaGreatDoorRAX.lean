/- The proof, part 24: texts that belong together, in one. -/
import Derived.Test.YtikaflpiephaiaaGreatDoorRAW
import Derived.Deep.QuietTactic
import Derived.BigQuiet
import Derived.Deep.Draws
import Derived.StillTailTactics
import Derived.Deep.LoopGhost
import Derived.Test.YtikaflpiephaiaaGreatDoorRAS
import Derived.Test.YtikaflpiephaiaaGreatDoorRAG
import Derived.Test.YtikaflpiephaiaaGreatDoorRAH
import Derived.Test.YtikaflpiephaiaaGreatDoorRAK
import Derived.Deep.RegionWith
import Derived.Test.YtikaflpiephaiaaGreatDoorRAL
import Derived.Test.YtikaflpiephaiaaGreatDoorRAP
set_option maxRecDepth 100000
set_option maxHeartbeats 20000000
namespace Go.Proofs.YtikaflpiephaiaaGreatDoor
open Go.RowKit
set_option linter.unusedVariables false
def said_P (s : ByteArray) := wholeR (fun L ts => progP fnd L (fuel ts) ts) s
theorem p_Parse (s : ByteArray) {w : World} (T : LTabs w) (TW : Tabs w) : Calls Tryz.prog 7 #[.string s] w (WhPost w zPg pgR (said_P s)) := by
 have HW : Hid (∀ W, LTabs W → Tabs W → Calls Tryz.prog 25 #[.string s, .func (.func 26) #[] #[]] W (WhPost W zPg pgR (said_P s))) := fun W T TW => p_whole_P s T TW
 generalize said_P s = R at HW ⊢
 have O1 := (Own.new w 25 zPg).alloc (.cells #[.int .i64 0, .int .i64 0] 28)
 have O2 := Own.new (w.alloc (.cells zPg 25)) 28 #[.int .i64 0, .int .i64 0]
 have B0 : Below w.heap.size w ((w.alloc (.cells zPg 25)).alloc (.cells #[.int .i64 0, .int .i64 0] 28)) := ((Below.refl _ w).alloc (Nat.le_refl _) _).alloc (by simp only [World.size_alloc]; omega) _
 have z0 : Hid (((w.alloc (.cells zPg 25)).alloc (.cells #[.int .i64 0, .int .i64 0] 28)).heap.size = w.heap.size + 2) := by simp only [Hid, World.size_alloc]
 rw [World.size_alloc] at O2
 have T2 := Lib.hid (T.below (Nat.le_refl _) B0)
 have TW2 := Lib.hid (TW.below (Nat.le_refl _) B0)
 clear T TW
 unfold zPg at *
 go_enter Tryz.func7, Tryz.ntmps7
 go_wp2_with fail
 obtain ⟨W0, hW0⟩ : ∃ W, W = ((w.alloc (.cells #[.slice none 0 0, .slice none 0 0, .slice none 0 0] 25)).alloc (.cells #[.int .i64 0, .int .i64 0] 28)) := ⟨_, rfl⟩
 rw [← hW0] at O1 O2 B0 z0 T2 TW2 ⊢
 clear hW0
 go_at_call 25
 refine (HW.out _ T2.out TW2.out).mono ?_
 rintro e w1 ⟨hb, v, rfl, hv⟩
 obtain ⟨r1, r2, r3, r4⟩ := R
 have O1 := O1.below hb
 have O2 := O2.below hb
 have B1 := Lib.hid (B0.trans (hb.mono (by have := z0.out; omega)))
 have z1 : Hid (w.heap.size + 2 ≤ w1.heap.size) := by have := hb.size; have := z0.out; simp only [Hid]; omega
 clear hb B0
 cases r1 with
 | none =>
   obtain rfl : v = .agg #[.slice none 0 0, .slice none 0 0, .slice none 0 0] := hv
   have o2 := O2.other (g := w.heap.size) #[.slice none 0 0, .slice none 0 0, .slice none 0 0] (by omega)
   have p1 := Lib.hid ((O1.row #[.slice none 0 0, .slice none 0 0, .slice none 0 0]).other (g := w.heap.size + 1) #[.int .i64 r3, .int .i64 r4] (by omega))
   have p2 := Lib.hid (o2.row #[.int .i64 r3, .int .i64 r4])
   have B2 := Lib.hid (Below.of_row (Below.of_row B1.out (g := w.heap.size) (Nat.le_refl _) #[.slice none 0 0, .slice none 0 0, .slice none 0 0]) (g := w.heap.size + 1) (by omega) #[.int .i64 r3, .int .i64 r4])
   go_wp2_with (first | (refine st rowPg rfl rfl O1 rfl rfl (by rfl) (by rfl) (by kernel_rfl) ?_) | (refine st rowFl rfl rfl o2 rfl rfl (by rfl) (by rfl) (by kernel_rfl) ?_))
   refine bodyPost_ret (res2 rfl rfl rfl rfl (lv_row rowPg p1.out rfl) (lv_row rowFl p2.out rfl)) rfl ⟨B2.out, _, rfl, rfl⟩
 | some x =>
   have hv : pgR W0.heap.size x v w1 := hv
   have HV := Lib.hid hv
   obtain ⟨a1, c1, a2, c2, a3, c3, rfl, _⟩ := hv
   have o2 := O2.other (g := w.heap.size) #[.slice a1 x.shared.length c1, .slice a2 x.locks.length c2, .slice a3 x.threads.length c3] (by omega)
   have p1 := Lib.hid ((O1.row #[.slice a1 x.shared.length c1, .slice a2 x.locks.length c2, .slice a3 x.threads.length c3]).other (g := w.heap.size + 1) #[.int .i64 r3, .int .i64 r4] (by omega))
   have p2 := Lib.hid (o2.row #[.int .i64 r3, .int .i64 r4])
   have B2 := Lib.hid (Below.of_row (Below.of_row B1.out (g := w.heap.size) (Nat.le_refl _) #[.slice a1 x.shared.length c1, .slice a2 x.locks.length c2, .slice a3 x.threads.length c3]) (g := w.heap.size + 1) (by omega) #[.int .i64 r3, .int .i64 r4])
   have V2 : Hid (pgR w.heap.size x (.agg #[.slice a1 x.shared.length c1, .slice a2 x.locks.length c2, .slice a3 x.threads.length c3]) ((w1.setRow w.heap.size #[.slice a1 x.shared.length c1, .slice a2 x.locks.length c2, .slice a3 x.threads.length c3]).setRow (w.heap.size + 1) #[.int .i64 r3, .int .i64 r4])) := pgR_stays HV.out ((stays_row w1 _ (fun b hb => by have := z0.out; omega)).trans (stays_row _ _ (fun b hb => by have := z0.out; omega))) (by have := z0.out; omega)
   go_wp2_with (first | (refine st rowPg rfl rfl O1 rfl rfl (by rfl) (by rfl) (by kernel_rfl) ?_) | (refine st rowFl rfl rfl o2 rfl rfl (by rfl) (by rfl) (by kernel_rfl) ?_))
   refine bodyPost_ret (res2 rfl rfl rfl rfl (lv_row rowPg p1.out rfl) (lv_row rowFl p2.out rfl)) rfl ⟨B2.out, _, rfl, V2.out⟩
open Go.RowKit
set_option linter.unusedVariables false
mutual
def sameE : Ex → Ex → Bool
 | .mk k o w n ks _, .mk k' o' w' n' ks' _ => k == k' && o == o' && w == w' && n.data.toList == n'.data.toList && sameEs ks ks'
def sameEs : List Ex → List Ex → Bool
 | [], [] => true
 | x :: r, y :: s => sameE x y && sameEs r s
 | _, _ => false
end
theorem sameEs_len : ∀ (l m : List Ex), sameEs l m = true → l.length = m.length
 | [], [], _ => rfl
 | [], _ :: _, h => by simp [sameEs] at h
 | _ :: _, [], h => by simp [sameEs] at h
 | x :: r, y :: s, h => by
   simp only [sameEs, Bool.and_eq_true] at h
   have := sameEs_len r s h.2
   simp [this]
def sameFrom (l m : List Ex) (i : Nat) : Bool := sameEs (l.drop i) (m.drop i)
theorem sameFrom_step {l m : List Ex} {i : Nat} (hl : i < l.length) (hm : i < m.length) : sameFrom l m i = (sameE l[i] m[i] && sameFrom l m (i + 1)) := by
 unfold sameFrom
 rw [List.drop_eq_getElem_cons hl, List.drop_eq_getElem_cons hm]
 rfl
theorem sameFrom_end {l m : List Ex} {i : Nat} (hl : l.length ≤ i) (hm : m.length ≤ i) : sameFrom l m i = true := by
 unfold sameFrom
 rw [List.drop_of_length_le hl, List.drop_of_length_le hm]
 rfl
theorem sameEs_ne {l m : List Ex} (h : l.length ≠ m.length) : sameEs l m = false := by
 cases hs : sameEs l m with
 | false => rfl
 | true => exact absurd (sameEs_len l m hs) h
def exA (w : World) (e : Ex) (v : Value) : Prop := ∃ a cap, v = .agg #[.int .u8 e.kind, .int .u8 e.op, .int .i64 e.wd, .string e.name, .slice a e.kids.length cap, .int .i64 e.pos] ∧ exsAt (fun _ => True) w e.kids a
mutual
def okE : Ex → Prop
 | .mk _ _ _ _ ks _ => ks.length ≤ 9223372036854775807 ∧ okEs ks
def okEs : List Ex → Prop
 | [] => True
 | x :: r => okE x ∧ okEs r
end
theorem okEs_mem : ∀ {l : List Ex}, okEs l → ∀ x ∈ l, okE x
 | [], _, x, hx => by simp at hx
 | y :: r, h, x, hx => by
   rcases List.mem_cons.1 hx with rfl | hx
   · exact h.1
   · exact okEs_mem h.2 x hx
theorem exsAt_below {w w' : World} {l : List Ex} {a : Option Addr} (h : exsAt (fun _ => True) w l a) (hb : Below w.heap.size w w') : exsAt (fun _ => True) w' l a := by
 have h := exsAt_in h
 exact exsAt_stays (R := fun b => True ∧ b < w.heap.size) (fun b o v hb2 hv => by rw [← hv]; exact hb.cell (p := ⟨b, o, none⟩) hb2.2) (fun _ _ => trivial) h
open Go.RowKit
set_option linter.unusedVariables false
def RSameC (e : Ex) : Prop := okE e → ∀ (f : Ex) (v u : Value) (w : World), exA w e v → exA w f u → Calls Tryz.prog 17 #[v, u] w fun e' w' => e' = .returned (.bool (sameE e f)) ∧ Below w.heap.size w w'
theorem r_exprs {l : List Ex} (HI : ∀ x ∈ l, RSameC x) (HO : okEs l) {m : List Ex} {a b : Option Addr} {c1 c2 : Nat} {w : World} (hl : l.length ≤ 9223372036854775807) (h1 : exsAt (fun _ => True) w l a) (h2 : exsAt (fun _ => True) w m b) :
 Calls Tryz.prog 45 #[.slice a l.length c1, .slice b m.length c2] w fun e w' => e = .returned (.bool (sameEs l m)) ∧ Below w.heap.size w w' := by
 by_cases hne : l.length = m.length
 · obtain ⟨R, hR⟩ : ∃ R, R = sameEs l m := ⟨_, rfl⟩
   rw [← hR]
   have HRR := Lib.hid hR
   have HI := Lib.hid HI
   have HO := Lib.hid HO
   have HL := Lib.hid hl
   have HLM := Lib.hid hne
   have E1 := Lib.hid h1
   have E2 := Lib.hid h2
   rw [← hne]
   obtain ⟨n, hn⟩ : ∃ n, n = l.length := ⟨_, rfl⟩
   rw [← hn]
   have HN := Lib.hid hn
   have hn6 : n ≤ 9223372036854775807 := by omega
   have hnn : ((n : Int) != (n : Int)) = false := by simp
   clear hl hne h1 h2 hR hn
   go_enter Tryz.func45, Tryz.ntmps45
   go_wp2_with fail
   go_loopg [13] (n + 1) (fun m' u W => ∃ i : Nat, u = .int .i64 (i : Int) ∧ i ≤ n ∧ m' = n - i + 1 ∧ sameFrom l m i = R ∧ Below w.heap.size w W)
   case atStart => exact ⟨0, rfl, Nat.zero_le _, by omega, HRR.out.symm, Below.refl _ w⟩
   case round =>
    obtain ⟨i, rfl, hi, hm, hR, hb⟩ := hrel
    have HB := Lib.hid hb
    have HRI := Lib.hid hR
    have HM := Lib.hid hm
    clear hb hR hm
    by_cases hin : i < n
    · have HIN := Lib.hid hin
      have il : i < l.length := by have := HN.out; omega
      have im : i < m.length := by have := HLM.out; omega
      have g1 : l[i]? = some l[i] := List.getElem?_eq_getElem il
      have g2 : m[i]? = some m[i] := List.getElem?_eq_getElem im
      have hmem : l[i] ∈ l := List.getElem_mem il
      have hst := sameFrom_step il im
      generalize l[i] = x at g1 hst hmem
      generalize m[i] = y at g2 hst
      have HX := Lib.hid (HI.out x hmem (okEs_mem HO.out x hmem))
      rcases E1.out with e | ⟨g, q, rfl, _, e1⟩
      · cases l with
        | nil => simp at il
        | cons => cases e
      rcases E2.out with e | ⟨g', q', rfl, _, e2⟩
      · cases m with
        | nil => simp at im
        | cons => cases e
      have x1 := exsIn_get i x e1 g1
      have y1 := exsIn_get i y e2 g2
      have HST := Lib.hid (HRI.out.symm.trans hst)
      obtain ⟨k, o, wd, nm, ks, ps⟩ := x
      obtain ⟨k', o', wd', nm', ks', ps'⟩ := y
      obtain ⟨a0, a1, a2, a3, ⟨ka, kc, a4, hka⟩, a5⟩ := x1
      obtain ⟨b0, b1, b2, b3, ⟨kb, kd, b4, hkb⟩, b5⟩ := y1
      have HKA := Lib.hid hka
      have HKB := Lib.hid hkb
      have lg := lt_of_at a0
      have lg' := lt_of_at b0
      simp only at lg lg'
      have BX := HB.out
      have a0 := (BX.cell (p := ⟨g, q + i * 6, none⟩) lg).trans a0
      have a1 := (BX.cell (p := ⟨g, q + i * 6 + 1, none⟩) lg).trans a1
      have a2 := (BX.cell (p := ⟨g, q + i * 6 + 2, none⟩) lg).trans a2
      have a3 := (BX.cell (p := ⟨g, q + i * 6 + 3, none⟩) lg).trans a3
      have a4 := (BX.cell (p := ⟨g, q + i * 6 + 4, none⟩) lg).trans a4
      have a5 := (BX.cell (p := ⟨g, q + i * 6 + 5, none⟩) lg).trans a5
      have b0 := (BX.cell (p := ⟨g', q' + i * 6, none⟩) lg').trans b0
      have b1 := (BX.cell (p := ⟨g', q' + i * 6 + 1, none⟩) lg').trans b1
      have b2 := (BX.cell (p := ⟨g', q' + i * 6 + 2, none⟩) lg').trans b2
      have b3 := (BX.cell (p := ⟨g', q' + i * 6 + 3, none⟩) lg').trans b3
      have b4 := (BX.cell (p := ⟨g', q' + i * 6 + 4, none⟩) lg').trans b4
      have b5 := (BX.cell (p := ⟨g', q' + i * 6 + 5, none⟩) lg').trans b5
      have hin' : (i : Int) < (n : Int) := by omega
      have BW : Hid (Below w.heap.size w wr.drew) := below_drewN HB.out 1
      have HC : Hid (Calls Tryz.prog 17 #[.agg #[.int .u8 k, .int .u8 o, .int .i64 wd, .string nm, .slice ka ks.length kc, .int .i64 ps], .agg #[.int .u8 k', .int .u8 o', .int .i64 wd', .string nm', .slice kb ks'.length kd, .int .i64 ps']] wr.drew fun e' w' => e' = .returned (.bool (sameE (.mk k o wd nm ks ps) (.mk k' o' wd' nm' ks' ps'))) ∧ Below wr.drew.heap.size wr.drew w') :=
       HX.out _ _ _ _ ⟨ka, kc, rfl, exsAt_below HKA.out BW.out⟩ ⟨kb, kd, rfl, exsAt_below HKB.out BW.out⟩
      generalize sameE (.mk k o wd nm ks ps) (.mk k' o' wd' nm' ks' ps') = B at HST HC
      clear hst hmem g1 g2 e1 e2 hka hkb il im BX
      go_wp2_with fail
      go_still_tail 8, (by kernel_rfl)
      change wpList _ _ _ _ _ wr.drew
      clear a0 a1 a2 a3 a4 a5 b0 b1 b2 b3 b4 b5
      obtain ⟨W1, hW1⟩ : ∃ W, W = wr.drew := ⟨_, rfl⟩
      rw [← hW1] at HC BW ⊢
      clear hW1
      cases B with
      | false =>
        go_wp2_with (go_at_call 17; refine (HC.out).mono ?_; rintro e w3 ⟨rfl, hb3⟩; have HB3 := Lib.hid hb3; clear hb3)
        go_ret
        exact ⟨by rw [HST.out]; rfl, BW.out.trans (HB3.out.mono (BW.out.size))⟩
      | true =>
        go_wp2_with (go_at_call 17; refine (HC.out).mono ?_; rintro e w3 ⟨rfl, hb3⟩; have HB3 := Lib.hid hb3; clear hb3)
        go_roundg (n - (i + 1) + 1)
        case measure => have := HM.out; omega
        case rel => exact ⟨i + 1, rfl, by omega, by omega, by rw [HST.out]; simp, BW.out.trans (HB3.out.mono (BW.out.size))⟩
    · have : i = n := by omega
      subst this
      have hR : R = true := by rw [← HRI.out]; exact sameFrom_end (by have := HN.out; omega) (by have := HLM.out; have := HN.out; omega)
      have HRT := Lib.hid hR
      clear hR
      go_wp2_with fail
      go_ret
      exact ⟨by rw [HRT.out]; rfl, HB.out⟩
 · rw [sameEs_ne hne]
   obtain ⟨n, hn⟩ : ∃ n, n = l.length := ⟨_, rfl⟩
   obtain ⟨k, hk⟩ : ∃ k, k = m.length := ⟨_, rfl⟩
   rw [← hn] at hne hl ⊢
   rw [← hk] at hne ⊢
   have hq : ((n : Int) != (k : Int)) = true := by simp; omega
   clear h1 h2 HI HO hn hk
   go_enter Tryz.func45, Tryz.ntmps45
   go_wp2_with fail
   go_ret
   exact ⟨rfl, Below.refl _ w⟩
theorem rsame_no0 {k o wd ps k' o' wd' ps' : Int} {nm nm' : ByteArray} {n n' kc kd : Nat} {ka kb : Option Addr} (w : World) (q0 : (k != k') = true) :
 Calls Tryz.prog 17 #[.agg #[.int .u8 k, .int .u8 o, .int .i64 wd, .string nm, .slice ka n kc, .int .i64 ps], .agg #[.int .u8 k', .int .u8 o', .int .i64 wd', .string nm', .slice kb n' kd, .int .i64 ps']] w fun e' w' => e' = .returned (.bool false) ∧ Below w.heap.size w w' := by
 go_enter Tryz.func17, Tryz.ntmps17
 go_wp2_with fail
 go_ret
 exact ⟨rfl, (((Below.refl _ w).alloc (Nat.le_refl _) _).alloc (by rw [World.size_alloc]; omega) _)⟩
theorem rsame_no1 {k o wd ps k' o' wd' ps' : Int} {nm nm' : ByteArray} {n n' kc kd : Nat} {ka kb : Option Addr} (w : World) (q0 : (k != k') = false) (q1 : (o != o') = true) :
 Calls Tryz.prog 17 #[.agg #[.int .u8 k, .int .u8 o, .int .i64 wd, .string nm, .slice ka n kc, .int .i64 ps], .agg #[.int .u8 k', .int .u8 o', .int .i64 wd', .string nm', .slice kb n' kd, .int .i64 ps']] w fun e' w' => e' = .returned (.bool false) ∧ Below w.heap.size w w' := by
 go_enter Tryz.func17, Tryz.ntmps17
 go_wp2_with fail
 go_ret
 exact ⟨rfl, (((Below.refl _ w).alloc (Nat.le_refl _) _).alloc (by rw [World.size_alloc]; omega) _)⟩
theorem rsame_no2 {k o wd ps k' o' wd' ps' : Int} {nm nm' : ByteArray} {n n' kc kd : Nat} {ka kb : Option Addr} (w : World) (q0 : (k != k') = false) (q1 : (o != o') = false) (q2 : (wd != wd') = true) :
 Calls Tryz.prog 17 #[.agg #[.int .u8 k, .int .u8 o, .int .i64 wd, .string nm, .slice ka n kc, .int .i64 ps], .agg #[.int .u8 k', .int .u8 o', .int .i64 wd', .string nm', .slice kb n' kd, .int .i64 ps']] w fun e' w' => e' = .returned (.bool false) ∧ Below w.heap.size w w' := by
 go_enter Tryz.func17, Tryz.ntmps17
 go_wp2_with fail
 go_ret
 exact ⟨rfl, (((Below.refl _ w).alloc (Nat.le_refl _) _).alloc (by rw [World.size_alloc]; omega) _)⟩
theorem rsame_no3 {k o wd ps k' o' wd' ps' : Int} {nm nm' : ByteArray} {n n' kc kd : Nat} {ka kb : Option Addr} (w : World) (q0 : (k != k') = false) (q1 : (o != o') = false) (q2 : (wd != wd') = false) (q3 : (nm.toList != nm'.toList) = true) (q3' : (nm.toList == nm'.toList) = false) :
 Calls Tryz.prog 17 #[.agg #[.int .u8 k, .int .u8 o, .int .i64 wd, .string nm, .slice ka n kc, .int .i64 ps], .agg #[.int .u8 k', .int .u8 o', .int .i64 wd', .string nm', .slice kb n' kd, .int .i64 ps']] w fun e' w' => e' = .returned (.bool false) ∧ Below w.heap.size w w' := by
 go_enter Tryz.func17, Tryz.ntmps17
 go_wp2_with fail
 go_ret
 exact ⟨rfl, (((Below.refl _ w).alloc (Nat.le_refl _) _).alloc (by rw [World.size_alloc]; omega) _)⟩
theorem rsame_yes {k o wd ps k' o' wd' ps' : Int} {nm nm' : ByteArray} {n n' kc kd : Nat} {ka kb : Option Addr} (w : World) {B : Bool} (q0 : (k != k') = false) (q1 : (o != o') = false) (q2 : (wd != wd') = false) (q3 : (nm.toList != nm'.toList) = false) (q3' : (nm.toList == nm'.toList) = true) (HC : ∀ W, Below w.heap.size w W → Calls Tryz.prog 45 #[.slice ka n kc, .slice kb n' kd] W fun e w' => e = .returned (.bool B) ∧ Below W.heap.size W w') :
 Calls Tryz.prog 17 #[.agg #[.int .u8 k, .int .u8 o, .int .i64 wd, .string nm, .slice ka n kc, .int .i64 ps], .agg #[.int .u8 k', .int .u8 o', .int .i64 wd', .string nm', .slice kb n' kd, .int .i64 ps']] w fun e' w' => e' = .returned (.bool B) ∧ Below w.heap.size w w' := by
 have HC := Lib.hid HC
 have HB : Hid (Below w.heap.size w ((w.alloc (.cells #[.int .u8 k, .int .u8 o, .int .i64 wd, .string nm, .slice ka n kc, .int .i64 ps] 38)).alloc (.cells #[.int .u8 k', .int .u8 o', .int .i64 wd', .string nm', .slice kb n' kd, .int .i64 ps'] 38))) := (((Below.refl _ w).alloc (Nat.le_refl _) _).alloc (by rw [World.size_alloc]; omega) _)
 go_enter Tryz.func17, Tryz.ntmps17
 go_wp2_with (go_at_call 45; refine (HC.out _ HB.out).mono ?_; rintro e w3 ⟨rfl, hb3⟩; have HB3 := Lib.hid hb3; clear hb3)
 go_ret
 exact ⟨rfl, HB.out.trans (HB3.out.mono HB.out.size)⟩
theorem r_same : ∀ e : Ex, RSameC e := by
 intro e
 induction e using Ex.ind with
 | h k o wd nm ks ps ih =>
   intro hok f v u w hv hu
   obtain ⟨k', o', wd', nm', ks', ps'⟩ := f
   obtain ⟨ka, kc, rfl, hka⟩ := hv
   obtain ⟨kb, kd, rfl, hkb⟩ := hu
   show Calls _ _ #[.agg #[.int .u8 k, .int .u8 o, .int .i64 wd, .string nm, .slice ka ks.length kc, .int .i64 ps], .agg #[.int .u8 k', .int .u8 o', .int .i64 wd', .string nm', .slice kb ks'.length kd, .int .i64 ps']] _ _
   simp only [sameE]
   have ne : ∀ {a b : Int}, ¬ (a == b) = true → (a != b) = true := fun h => by unfold bne; simpa using h
   have eq : ∀ {a b : Int}, (a == b) = true → (a != b) = false := fun h => by unfold bne; rw [h]; rfl
   by_cases h1 : (k == k') = true
   · by_cases h2 : (o == o') = true
     · by_cases h3 : (wd == wd') = true
       · have hd : (nm.toList == nm'.toList) = (nm.data.toList == nm'.data.toList) := by rw [Lib.toList_data, Lib.toList_data]
         by_cases h4 : (nm.data.toList == nm'.data.toList) = true
         · rw [h1, h2, h3, h4]
           simp only [Bool.true_and]
           exact rsame_yes w (eq h1) (eq h2) (eq h3) (by unfold bne; rw [hd, h4]; rfl) (hd.trans h4) (fun W hb => r_exprs (fun x hx => ih x hx) hok.2 hok.1 (exsAt_below hka hb) (exsAt_below hkb hb))
         · have h4' : (nm.data.toList == nm'.data.toList) = false := by simpa using h4
           rw [h4']
           simp only [Bool.and_false, Bool.false_and]
           exact rsame_no3 w (eq h1) (eq h2) (eq h3) (by unfold bne; rw [hd, h4']; rfl) (hd.trans h4')
       · rw [show (wd == wd') = false by simpa using h3]
         simp only [Bool.and_false, Bool.false_and]
         exact rsame_no2 w (eq h1) (eq h2) (ne h3)
     · rw [show (o == o') = false by simpa using h2]
       simp only [Bool.and_false, Bool.false_and]
       exact rsame_no1 w (eq h1) (ne h2)
   · rw [show (k == k') = false by simpa using h1]
     simp only [Bool.false_and]
     exact rsame_no0 w (ne h1)
def placeEs : List Ex → List Ex → Bool
 | [], [] => true
 | .mk _ _ _ _ ks p :: r, .mk _ _ _ _ ks' p' :: s => p == p' && placeEs ks ks' && placeEs r s
 | _, _ => false
theorem placeEs_len : ∀ (l m : List Ex), placeEs l m = true → l.length = m.length
 | [], [], _ => rfl
 | [], _ :: _, h => by simp [placeEs] at h
 | .mk _ _ _ _ _ _ :: _, [], h => by simp [placeEs] at h
 | .mk _ _ _ _ _ _ :: r, .mk _ _ _ _ _ _ :: s, h => by
   simp only [placeEs, Bool.and_eq_true] at h
   have := placeEs_len r s h.2
   simp [this]
theorem placeEs_ne {l m : List Ex} (h : l.length ≠ m.length) : placeEs l m = false := by
 cases hs : placeEs l m with
 | false => rfl
 | true => exact absurd (placeEs_len l m hs) h
def placeFrom (l m : List Ex) (i : Nat) : Bool := placeEs (l.drop i) (m.drop i)
theorem placeFrom_step {l m : List Ex} {i : Nat} (hl : i < l.length) (hm : i < m.length) : placeFrom l m i = (l[i].pos == m[i].pos && placeEs l[i].kids m[i].kids && placeFrom l m (i + 1)) := by
 unfold placeFrom
 rw [List.drop_eq_getElem_cons hl, List.drop_eq_getElem_cons hm]
 cases l[i]; cases m[i]; simp only [placeEs]; rfl
theorem placeFrom_end {l m : List Ex} {i : Nat} (hl : l.length ≤ i) (hm : m.length ≤ i) : placeFrom l m i = true := by
 unfold placeFrom
 rw [List.drop_of_length_le hl, List.drop_of_length_le hm]
 simp [placeEs]
theorem placeEs_self : ∀ l : List Ex, placeEs l l = true := by
 intro l
 induction l using Exs.ind with
 | h0 => simp [placeEs]
 | h1 k o w n ks a r ih1 ih2 => simp [placeEs, ih1, ih2]
def PlC (l : List Ex) : Prop := okEs l → ∀ (m : List Ex) (a b : Option Addr) (c1 c2 : Nat) (w : World), l.length ≤ 9223372036854775807 → exsAt (fun _ => True) w l a → exsAt (fun _ => True) w m b →
 Calls Tryz.prog 73 #[.slice a l.length c1, .slice b m.length c2] w fun e w' => e = .returned (.bool (placeEs l m)) ∧ ∃ j, w' = w.drewN j
theorem exsAt_drewN {R : Nat → Prop} {w : World} {l : List Ex} {a : Option Addr} (h : exsAt R w l a) (n : Nat) : exsAt R (w.drewN n) l a := exsAt_stays (w := w) (w' := w.drewN n) (fun b o v hb hv => hv) (fun b hb => hb) h
theorem r_places_one {l : List Ex} (HI : ∀ x ∈ l, PlC x.kids) : PlC l := by
 intro HO m a b c1 c2 w hl h1 h2
 by_cases hne : l.length = m.length
 · obtain ⟨R, hR⟩ : ∃ R, R = placeEs l m := ⟨_, rfl⟩
   rw [← hR]
   have HRR := Lib.hid hR
   have HI := Lib.hid HI
   have HO := Lib.hid HO
   have HL := Lib.hid hl
   have HLM := Lib.hid hne
   have E1 := Lib.hid h1
   have E2 := Lib.hid h2
   rw [← hne]
   obtain ⟨n, hn⟩ : ∃ n, n = l.length := ⟨_, rfl⟩
   rw [← hn]
   have HN := Lib.hid hn
   have hn6 : n ≤ 9223372036854775807 := by omega
   have hnn : ((n : Int) != (n : Int)) = false := by simp
   clear hl hne h1 h2 hR hn
   go_enter Tryz.func73, Tryz.ntmps73
   go_wp2_with fail
   go_loopg [13] (n + 1) (fun m' u W => ∃ i : Nat, u = .int .i64 (i : Int) ∧ i ≤ n ∧ m' = n - i + 1 ∧ placeFrom l m i = R ∧ ∃ j, W = w.drewN j)
   case atStart => exact ⟨0, rfl, Nat.zero_le _, by omega, HRR.out.symm, 0, rfl⟩
   case round =>
    obtain ⟨i, rfl, hi, hm, hR, j0, hW0⟩ := hrel
    have HRI := Lib.hid hR
    have HM := Lib.hid hm
    have HW := Lib.hid hW0
    clear hR hm hW0
    by_cases hin : i < n
    · have HIN := Lib.hid hin
      have il : i < l.length := by have := HN.out; omega
      have im : i < m.length := by have := HLM.out; omega
      have g1 : l[i]? = some l[i] := List.getElem?_eq_getElem il
      have g2 : m[i]? = some m[i] := List.getElem?_eq_getElem im
      have hmem : l[i] ∈ l := List.getElem_mem il
      have hst := placeFrom_step il im
      generalize l[i] = x at g1 hst hmem
      generalize m[i] = y at g2 hst
      have hok := okEs_mem HO.out x hmem
      have HX := Lib.hid (HI.out x hmem)
      rcases E1.out with e | ⟨g, q, rfl, _, e1⟩
      · cases l with
        | nil => simp at il
        | cons => cases e
      rcases E2.out with e | ⟨g', q', rfl, _, e2⟩
      · cases m with
        | nil => simp at im
        | cons => cases e
      have x1 := exsIn_get i x e1 g1
      have y1 := exsIn_get i y e2 g2
      have HST := Lib.hid (HRI.out.symm.trans hst)
      obtain ⟨k, o, wd, nm, ks, ps⟩ := x
      obtain ⟨k', o', wd', nm', ks', ps'⟩ := y
      obtain ⟨_, _, _, _, ⟨ka, kc, a4, hka⟩, a5⟩ := x1
      obtain ⟨_, _, _, _, ⟨kb, kd, b4, hkb⟩, b5⟩ := y1
      have hin' : (i : Int) < (n : Int) := by omega
      have a4 : wr.cell? ⟨g, q + i * 6 + 4, none⟩ = some (.slice ka ks.length kc) := by rw [HW.out]; exact a4
      have a5 : wr.cell? ⟨g, q + i * 6 + 5, none⟩ = some (.int .i64 ps) := by rw [HW.out]; exact a5
      have b4 : wr.cell? ⟨g', q' + i * 6 + 4, none⟩ = some (.slice kb ks'.length kd) := by rw [HW.out]; exact b4
      have b5 : wr.cell? ⟨g', q' + i * 6 + 5, none⟩ = some (.int .i64 ps') := by rw [HW.out]; exact b5
      have HC : Hid (∀ j, Calls Tryz.prog 73 #[.slice ka ks.length kc, .slice kb ks'.length kd] (wr.drewN j) fun e' w' => e' = .returned (.bool (placeEs ks ks')) ∧ ∃ t, w' = wr.drewN t) := fun j =>
       (HX.out hok.2 _ _ _ _ _ (wr.drewN j) hok.1 (exsAt_drewN (by rw [HW.out]; exact exsAt_drewN hka j0) j) (exsAt_drewN (by rw [HW.out]; exact exsAt_drewN hkb j0) j)).mono fun e' w' ⟨he, t, ht⟩ => ⟨he, j + t, by rw [ht, World.drewN_drewN]⟩
      have HST : Hid (R = (ps == ps' && placeEs ks ks' && placeFrom l m (i + 1))) := HST.out
      generalize placeEs ks ks' = B at HST HC
      clear hst hmem g1 g2 e1 e2 hka hkb il im hok
      by_cases hps : (ps == ps') = true
      · have hps2 : (ps != ps') = false := by unfold bne; rw [hps]; rfl
        cases B with
        | false =>
          go_wp2_with fail
          go_quiet (first | (go_at_call 73; exact HC.out _))
          go_wp2_with fail
          go_ret
          exact ⟨by rw [HST.out]; simp, _, by rw [HW.out, World.drewN_drewN]⟩
        | true =>
          go_wp2_with fail
          go_quiet (first | (go_at_call 73; exact HC.out _))
          go_wp2_with fail
          go_roundg (n - (i + 1) + 1)
          case measure => have := HM.out; omega
          case rel => exact ⟨i + 1, rfl, by omega, by omega, by rw [HST.out, hps]; simp, _, by rw [HW.out, World.drewN_drewN]⟩
      · have hps2 : (ps != ps') = true := by unfold bne; simpa using hps
        have hps3 : (ps == ps') = false := by simpa using hps
        clear hps
        go_wp2_with fail
        go_quiet (first | (go_at_call 73; exact HC.out _))
        go_wp2_with fail
        go_ret
        exact ⟨by rw [HST.out, hps3]; rfl, _, by rw [HW.out, World.drewN_drewN]⟩
    · have : i = n := by omega
      subst this
      have hR : R = true := by rw [← HRI.out]; exact placeFrom_end (by have := HN.out; omega) (by have := HLM.out; have := HN.out; omega)
      have HRT := Lib.hid hR
      clear hR
      go_wp2_with fail
      go_ret
      exact ⟨by rw [HRT.out]; rfl, _, HW.out⟩
 · rw [placeEs_ne hne]
   obtain ⟨n, hn⟩ : ∃ n, n = l.length := ⟨_, rfl⟩
   obtain ⟨k, hk⟩ : ∃ k, k = m.length := ⟨_, rfl⟩
   rw [← hn] at hne hl ⊢
   rw [← hk] at hne ⊢
   have hq : ((n : Int) != (k : Int)) = true := by simp; omega
   clear h1 h2 HI HO hn hk
   go_enter Tryz.func73, Tryz.ntmps73
   go_wp2_with fail
   go_ret
   exact ⟨rfl, 0, rfl⟩
theorem r_kids : ∀ e : Ex, PlC e.kids := by
 intro e
 induction e using Ex.ind with
 | h k o w n ks p ih => exact r_places_one ih
theorem r_places (l : List Ex) : PlC l := r_places_one (fun x _ => r_kids x)
open Go.RowKit
set_option linter.unusedVariables false
structure Sr where
 ts : List Tk
 pos : Int
 rule : Int
section
variable (L : Int)
end
open Go.RowKit
set_option linter.unusedVariables false
theorem Own.setJ {W : World} {b : Nat} {T : TypeId} {cs : Array Value} (h : Own W b T cs) (j : Nat) (v : Value) : Own (W.setCell ⟨b, j, none⟩ v) b T (cs.setIfInBounds j v) := heap_setCell_same W b j _ _ v h
open Go.RowKit
set_option linter.unusedVariables false
theorem row3 {w : World} {g : Nat} {T : TypeId} {a b c : Value} (h : Own w g T #[a, b, c]) :
 (w.cell? ⟨g, 0, none⟩ = some a ∧ w.cell? ⟨g, 1, none⟩ = some b ∧ w.cell? ⟨g, 2, none⟩ = some c) ∧ (w.frozen? ⟨g, 0, none⟩ = false ∧ w.frozen? ⟨g, 1, none⟩ = false ∧ w.frozen? ⟨g, 2, none⟩ = false) :=
 ⟨⟨cell_of_row w g 0 _ _ _ h, cell_of_row w g 1 _ _ _ h, cell_of_row w g 2 _ _ _ h⟩, frozen_of_row w g 0 _ _ h, frozen_of_row w g 1 _ _ h, frozen_of_row w g 2 _ _ h⟩
open Go.RowKit
set_option linter.unusedVariables false
theorem r_decls {l : List Dc} {a b : Option Addr} {c1 c2 : Nat} {w : World} (hl : l.length ≤ 9223372036854775807) (h1 : dcsAt (fun _ => True) w l a) (h2 : dcsAt (fun _ => True) w l b) :
 Calls Tryz.prog 42 #[.slice a l.length c1, .slice b l.length c2] w fun e w' => e = .returned (.bool true) ∧ ∃ j, w' = w.drewN j := by
 have E1 := Lib.hid h1
 have E2 := Lib.hid h2
 obtain ⟨n, hn⟩ : ∃ n, n = l.length := ⟨_, rfl⟩
 rw [← hn] at hl ⊢
 have HN := Lib.hid hn
 have hnn : ((n : Int) != (n : Int)) = false := by simp
 clear h1 h2 hn
 go_enter Tryz.func42, Tryz.ntmps42
 go_wp2_with fail
 go_loopg [13] (n + 1) (fun m' u W => ∃ i : Nat, u = .int .i64 (i : Int) ∧ i ≤ n ∧ m' = n - i + 1 ∧ ∃ j, W = w.drewN j)
 case atStart => exact ⟨0, rfl, Nat.zero_le _, by omega, 0, rfl⟩
 case round =>
  obtain ⟨i, rfl, hi, hm, j0, hW0⟩ := hrel
  have HM := Lib.hid hm
  have HW := Lib.hid hW0
  clear hm hW0
  by_cases hin : i < n
  · have il : i < l.length := by have := HN.out; omega
    have g1 : l[i]? = some l[i] := List.getElem?_eq_getElem il
    generalize l[i] = x at g1
    rcases E1.out with e | ⟨g, q, rfl, _, e1⟩
    · cases l with
      | nil => simp at il
      | cons => cases e
    rcases E2.out with e | ⟨g', q', rfl, _, e2⟩
    · cases l with
      | nil => simp at il
      | cons => cases e
    obtain ⟨a0, a1, a2⟩ := dcsIn_get i x e1 g1
    obtain ⟨b0, b1, b2⟩ := dcsIn_get i x e2 g1
    obtain ⟨nm, wd, ps⟩ := x
    have hin' : (i : Int) < (n : Int) := by omega
    have a0 : wr.cell? ⟨g, q + i * 3, none⟩ = some (.string nm) := by rw [HW.out]; exact a0
    have b0 : wr.cell? ⟨g', q' + i * 3, none⟩ = some (.string nm) := by rw [HW.out]; exact b0
    have a1 : wr.cell? ⟨g, q + i * 3 + 1, none⟩ = some (.int .i64 wd) := by rw [HW.out]; exact a1
    have b1 : wr.cell? ⟨g', q' + i * 3 + 1, none⟩ = some (.int .i64 wd) := by rw [HW.out]; exact b1
    have a2 : wr.cell? ⟨g, q + i * 3 + 2, none⟩ = some (.int .i64 ps) := by rw [HW.out]; exact a2
    have b2 : wr.cell? ⟨g', q' + i * 3 + 2, none⟩ = some (.int .i64 ps) := by rw [HW.out]; exact b2
    have q1 : (nm.toList != nm.toList) = false := by simp
    have q1' : (nm.toList == nm.toList) = true := by simp
    have q2 : (wd != wd) = false := by simp
    have q3 : (ps != ps) = false := by simp
    clear g1 e1 e2 il
    go_wp2_with fail
    go_quiet (fail)
    go_wp2_with fail
    go_roundg (n - (i + 1) + 1)
    case measure => have := HM.out; omega
    case rel => exact ⟨i + 1, rfl, by omega, by omega, _, by rw [HW.out, World.drewN_drewN]⟩
  · have : i = n := by omega
    subst this
    go_wp2_with fail
    go_ret
    exact ⟨rfl, _, HW.out⟩
theorem r_declared {l : List Dc} {a b : Option Addr} {c1 c2 : Nat} {w : World} (hl : l.length ≤ 9223372036854775807) (h1 : dcsAt (fun _ => True) w l a) (h2 : dcsAt (fun _ => True) w l b) :
 Calls Tryz.prog 30 #[.slice a l.length c1, .slice b l.length c2] w fun e w' => e = .returned (.bool true) ∧ ∃ j, w' = w.drewN j := by
 have E1 := Lib.hid h1
 have E2 := Lib.hid h2
 obtain ⟨n, hn⟩ : ∃ n, n = l.length := ⟨_, rfl⟩
 rw [← hn] at hl ⊢
 have HN := Lib.hid hn
 have hnn : ((n : Int) != (n : Int)) = false := by simp
 clear h1 h2 hn
 go_enter Tryz.func30, Tryz.ntmps30
 go_wp2_with fail
 go_loopg [13] (n + 1) (fun m' u W => ∃ i : Nat, u = .int .i64 (i : Int) ∧ i ≤ n ∧ m' = n - i + 1 ∧ ∃ j, W = w.drewN j)
 case atStart => exact ⟨0, rfl, Nat.zero_le _, by omega, 0, rfl⟩
 case round =>
  obtain ⟨i, rfl, hi, hm, j0, hW0⟩ := hrel
  have HM := Lib.hid hm
  have HW := Lib.hid hW0
  clear hm hW0
  by_cases hin : i < n
  · have il : i < l.length := by have := HN.out; omega
    have g1 : l[i]? = some l[i] := List.getElem?_eq_getElem il
    generalize l[i] = x at g1
    rcases E1.out with e | ⟨g, q, rfl, _, e1⟩
    · cases l with
      | nil => simp at il
      | cons => cases e
    rcases E2.out with e | ⟨g', q', rfl, _, e2⟩
    · cases l with
      | nil => simp at il
      | cons => cases e
    obtain ⟨a0, a1, a2⟩ := dcsIn_get i x e1 g1
    obtain ⟨b0, b1, b2⟩ := dcsIn_get i x e2 g1
    obtain ⟨nm, wd, ps⟩ := x
    have hin' : (i : Int) < (n : Int) := by omega
    have a0 : wr.cell? ⟨g, q + i * 3, none⟩ = some (.string nm) := by rw [HW.out]; exact a0
    have b0 : wr.cell? ⟨g', q' + i * 3, none⟩ = some (.string nm) := by rw [HW.out]; exact b0
    have a1 : wr.cell? ⟨g, q + i * 3 + 1, none⟩ = some (.int .i64 wd) := by rw [HW.out]; exact a1
    have b1 : wr.cell? ⟨g', q' + i * 3 + 1, none⟩ = some (.int .i64 wd) := by rw [HW.out]; exact b1
    have a2 : wr.cell? ⟨g, q + i * 3 + 2, none⟩ = some (.int .i64 ps) := by rw [HW.out]; exact a2
    have b2 : wr.cell? ⟨g', q' + i * 3 + 2, none⟩ = some (.int .i64 ps) := by rw [HW.out]; exact b2
    have q1 : (nm.toList != nm.toList) = false := by simp
    have q1' : (nm.toList == nm.toList) = true := by simp
    have q2 : (wd != wd) = false := by simp
    have q3 : (ps != ps) = false := by simp
    clear g1 e1 e2 il
    go_wp2_with fail
    go_quiet (fail)
    go_wp2_with fail
    go_roundg (n - (i + 1) + 1)
    case measure => have := HM.out; omega
    case rel => exact ⟨i + 1, rfl, by omega, by omega, _, by rw [HW.out, World.drewN_drewN]⟩
  · have : i = n := by omega
    subst this
    go_wp2_with fail
    go_ret
    exact ⟨rfl, _, HW.out⟩
end Go.Proofs.YtikaflpiephaiaaGreatDoor

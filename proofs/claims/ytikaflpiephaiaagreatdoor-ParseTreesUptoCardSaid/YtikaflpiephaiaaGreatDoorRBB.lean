/- The proof, part 28: texts that belong together, in one. -/
import Derived.Test.YtikaflpiephaiaaGreatDoorRBA
import Derived.Test.YtikaflpiephaiaaGreatDoorRAX
import Derived.Deep.RegionHeld3
import Derived.Deep.DeepCutAuto
import Derived.BigRegion
set_option maxRecDepth 100000
set_option maxHeartbeats 20000000
namespace Go.Proofs.YtikaflpiephaiaaGreatDoor
open Go.RowKit
set_option linter.unusedVariables false
theorem same_d_all {nm1 : ByteArray} {nm2 : ByteArray} {wd1 : Int} {wd2 : Int} {ps1 : Int} {ps2 : Int} {b0 b1 : Bool} (w : World) (q0 : (nm1.toList == nm2.toList) = b0) (q1 : (wd1 == wd2) = b1) :
 Calls Tryz.prog 39 #[.agg #[.string nm1, .int .i64 wd1, .int .i64 ps1], .agg #[.string nm2, .int .i64 wd2, .int .i64 ps2]] w fun e' w' => e' = .returned (.bool (b0 && b1)) ∧ Below w.heap.size w w' := by
 cases b0 with
 | false => exact same_d_0 w q0
 | true =>
   cases b1 with
   | false => exact same_d_1 w q0 q1
   | true =>
     exact same_d_2 w q0 q1
theorem same_s_all {k1 : Int} {k2 : Int} {nm1 : ByteArray} {nm2 : ByteArray} {ot1 : ByteArray} {ot2 : ByteArray} {ea1 : Option Addr} {en1 ec1 : Nat} {ea2 : Option Addr} {en2 ec2 : Nat} {bda1 : Option Addr} {bdn1 bdc1 : Nat} {bda2 : Option Addr} {bdn2 bdc2 : Nat} {ela1 : Option Addr} {eln1 elc1 : Nat} {ela2 : Option Addr} {eln2 elc2 : Nat} {ps1 : Int} {ps2 : Int} {b0 b1 b2 b3 b4 b5 : Bool} (w : World) (q0 : (k1 == k2) = b0) (q1 : (nm1.toList == nm2.toList) = b1) (q2 : (ot1.toList == ot2.toList) = b2) (C3 : ∀ W, Below w.heap.size w W → Calls Tryz.prog 44 #[.slice ea1 en1 ec1, .slice ea2 en2 ec2, .func (.func 16) #[] #[]] W fun e w' => e = .returned (.bool b3) ∧ Below W.heap.size W w') (C4 : ∀ W, Below w.heap.size w W → Calls Tryz.prog 79 #[.slice bda1 bdn1 bdc1, .slice bda2 bdn2 bdc2, .func (.func 80) #[] #[]] W fun e w' => e = .returned (.bool b4) ∧ Below W.heap.size W w') (C5 : ∀ W, Below w.heap.size w W → Calls Tryz.prog 79 #[.slice ela1 eln1 elc1, .slice ela2 eln2 elc2, .func (.func 80) #[] #[]] W fun e w' => e = .returned (.bool b5) ∧ Below W.heap.size W w') :
 Calls Tryz.prog 80 #[.agg #[.int .u8 k1, .string nm1, .string ot1, .slice ea1 en1 ec1, .slice bda1 bdn1 bdc1, .slice ela1 eln1 elc1, .int .i64 ps1], .agg #[.int .u8 k2, .string nm2, .string ot2, .slice ea2 en2 ec2, .slice bda2 bdn2 bdc2, .slice ela2 eln2 elc2, .int .i64 ps2]] w fun e' w' => e' = .returned (.bool (b0 && b1 && b2 && b3 && b4 && b5)) ∧ Below w.heap.size w w' := by
 cases b0 with
 | false => exact same_s_0 w q0
 | true =>
   cases b1 with
   | false => exact same_s_1 w q0 q1
   | true =>
     cases b2 with
     | false => exact same_s_2 w q0 q1 q2
     | true =>
       cases b3 with
       | false => exact same_s_3 w q0 q1 q2 C3
       | true =>
         cases b4 with
         | false => exact same_s_4 w q0 q1 q2 C3 C4
         | true =>
           cases b5 with
           | false => exact same_s_5 w q0 q1 q2 C3 C4 C5
           | true =>
             exact same_s_6 w q0 q1 q2 C3 C4 C5
theorem same_t_all {nm1 : ByteArray} {nm2 : ByteArray} {loa1 : Option Addr} {lon1 loc1 : Nat} {loa2 : Option Addr} {lon2 loc2 : Nat} {bda1 : Option Addr} {bdn1 bdc1 : Nat} {bda2 : Option Addr} {bdn2 bdc2 : Nat} {ps1 : Int} {ps2 : Int} {b0 b1 b2 : Bool} (w : World) (q0 : (nm1.toList == nm2.toList) = b0) (C1 : ∀ W, Below w.heap.size w W → Calls Tryz.prog 38 #[.slice loa1 lon1 loc1, .slice loa2 lon2 loc2, .func (.func 39) #[] #[]] W fun e w' => e = .returned (.bool b1) ∧ Below W.heap.size W w') (C2 : ∀ W, Below w.heap.size w W → Calls Tryz.prog 79 #[.slice bda1 bdn1 bdc1, .slice bda2 bdn2 bdc2, .func (.func 80) #[] #[]] W fun e w' => e = .returned (.bool b2) ∧ Below W.heap.size W w') :
 Calls Tryz.prog 41 #[.agg #[.string nm1, .slice loa1 lon1 loc1, .slice bda1 bdn1 bdc1, .int .i64 ps1], .agg #[.string nm2, .slice loa2 lon2 loc2, .slice bda2 bdn2 bdc2, .int .i64 ps2]] w fun e' w' => e' = .returned (.bool (b0 && b1 && b2)) ∧ Below w.heap.size w w' := by
 cases b0 with
 | false => exact same_t_0 w q0
 | true =>
   cases b1 with
   | false => exact same_t_1 w q0 C1
   | true =>
     cases b2 with
     | false => exact same_t_2 w q0 C1 C2
     | true =>
       exact same_t_3 w q0 C1 C2
theorem same_p_all {sha1 : Option Addr} {shn1 shc1 : Nat} {sha2 : Option Addr} {shn2 shc2 : Nat} {lka1 : Option Addr} {lkn1 lkc1 : Nat} {lka2 : Option Addr} {lkn2 lkc2 : Nat} {tha1 : Option Addr} {thn1 thc1 : Nat} {tha2 : Option Addr} {thn2 thc2 : Nat} {b0 b1 b2 : Bool} (w : World) (C0 : ∀ W, Below w.heap.size w W → Calls Tryz.prog 38 #[.slice sha1 shn1 shc1, .slice sha2 shn2 shc2, .func (.func 39) #[] #[]] W fun e w' => e = .returned (.bool b0) ∧ Below W.heap.size W w') (C1 : ∀ W, Below w.heap.size w W → Calls Tryz.prog 38 #[.slice lka1 lkn1 lkc1, .slice lka2 lkn2 lkc2, .func (.func 39) #[] #[]] W fun e w' => e = .returned (.bool b1) ∧ Below W.heap.size W w') (C2 : ∀ W, Below w.heap.size w W → Calls Tryz.prog 40 #[.slice tha1 thn1 thc1, .slice tha2 thn2 thc2, .func (.func 41) #[] #[]] W fun e w' => e = .returned (.bool b2) ∧ Below W.heap.size W w') :
 Calls Tryz.prog 14 #[.agg #[.slice sha1 shn1 shc1, .slice lka1 lkn1 lkc1, .slice tha1 thn1 thc1], .agg #[.slice sha2 shn2 shc2, .slice lka2 lkn2 lkc2, .slice tha2 thn2 thc2]] w fun e' w' => e' = .returned (.bool (b0 && b1 && b2)) ∧ Below w.heap.size w w' := by
 cases b0 with
 | false => exact same_p_0 w C0
 | true =>
   cases b1 with
   | false => exact same_p_1 w C0 C1
   | true =>
     cases b2 with
     | false => exact same_p_2 w C0 C1 C2
     | true =>
       exact same_p_3 w C0 C1 C2
def sameD (a b : Dc) : Bool := a.name.data.toList == b.name.data.toList && a.wd == b.wd
mutual
def sameS : St → St → Bool
 | .mk k n o e b l _, .mk k' n' o' e' b' l' _ => k == k' && n.data.toList == n'.data.toList && o.data.toList == o'.data.toList && sameEs e e' && sameSs b b' && sameSs l l'
def sameSs : List St → List St → Bool
 | [], [] => true
 | x :: r, y :: s => sameS x y && sameSs r s
 | _, _ => false
end
theorem sameBy_st : ∀ l m : List St, sameBy sameS l m = sameSs l m
 | [], [] => by simp [sameBy, sameSs]
 | [], _ :: _ => by simp [sameBy, sameSs]
 | _ :: _, [] => by simp [sameBy, sameSs]
 | x :: r, y :: s => by simp only [sameBy, sameSs]; rw [sameBy_st r s]
def sameT (a b : Th) : Bool := a.name.data.toList == b.name.data.toList && sameBy sameD a.locals b.locals && sameSs a.body b.body
def samePg (a b : Pg) : Bool := sameBy sameD a.shared b.shared && sameBy sameD a.locks b.locks && sameBy sameT a.threads b.threads
mutual
def okS : St → Prop
 | .mk _ _ _ e b l _ => (e.length ≤ 9223372036854775807 ∧ okEs e) ∧ (b.length ≤ 9223372036854775807 ∧ okSs b) ∧ l.length ≤ 9223372036854775807 ∧ okSs l
def okSs : List St → Prop
 | [] => True
 | x :: r => okS x ∧ okSs r
end
theorem okSs_mem : ∀ {l : List St}, okSs l → ∀ x ∈ l, okS x
 | [], _, x, hx => by simp at hx
 | y :: r, h, x, hx => by
   rcases List.mem_cons.1 hx with rfl | hx
   · exact h.1
   · exact okSs_mem h.2 x hx
def okT (t : Th) : Prop := t.locals.length ≤ 9223372036854775807 ∧ t.body.length ≤ 9223372036854775807 ∧ okSs t.body
def okP (p : Pg) : Prop := p.shared.length ≤ 9223372036854775807 ∧ p.locks.length ≤ 9223372036854775807 ∧ p.threads.length ≤ 9223372036854775807 ∧ ∀ t ∈ p.threads, okT t
theorem toList_eq (a b : ByteArray) : (a.toList == b.toList) = (a.data.toList == b.data.toList) := by rw [Lib.toList_data, Lib.toList_data]
theorem p_sameD (x y : Dc) (v u : Value) (w : World) (hv : dA w x v) (hu : dA w y u) : Calls Tryz.prog 39 #[v, u] w fun e' w' => e' = .returned (.bool (sameD x y)) ∧ Below w.heap.size w w' := by
 subst hv hu
 exact same_d_all w (toList_eq _ _) rfl
theorem p_sameS : ∀ s : St, okS s → ∀ (y : St) (v u : Value) (w : World), sA w s v → sA w y u → Calls Tryz.prog 80 #[v, u] w fun e' w' => e' = .returned (.bool (sameS s y)) ∧ Below w.heap.size w w' := by
 intro s
 induction s using St.ind with
 | h k n o e b l p ihb ihl =>
   intro hok y v u w hv hu
   obtain ⟨k', n', o', e', b', l', p'⟩ := y
   obtain ⟨ea1, ec1, ba1, bc1, la1, lc1, rfl, he1, hb1, hl1⟩ := hv
   obtain ⟨ea2, ec2, ba2, bc2, la2, lc2, rfl, he2, hb2, hl2⟩ := hu
   have e0 : sameS (.mk k n o e b l p) (.mk k' n' o' e' b' l' p') = (k == k' && n.data.toList == n'.data.toList && o.data.toList == o'.data.toList && sameEs e e' && sameSs b b' && sameSs l l') := by simp only [sameS]
   rw [e0]
   obtain ⟨⟨k1, k2⟩, ⟨k3, k4⟩, k5, k6⟩ := hok
   exact same_s_all w rfl (toList_eq _ _) (toList_eq _ _) (fun W hb => equal_ex (fun x _ => p_same x) k2 k1 (exsAt_below he1 hb) (exsAt_below he2 hb))
    (fun W hb => by rw [← sameBy_st]; exact equal_s (fun x hx => ihb x hx (okSs_mem k4 x hx)) k3 (stsAt_below hb1 hb) (stsAt_below hb2 hb))
    (fun W hb => by rw [← sameBy_st]; exact equal_s (fun x hx => ihl x hx (okSs_mem k6 x hx)) k5 (stsAt_below hl1 hb) (stsAt_below hl2 hb))
theorem p_sameT (x : Th) (hok : okT x) (y : Th) (v u : Value) (w : World) (hv : tA w x v) (hu : tA w y u) : Calls Tryz.prog 41 #[v, u] w fun e' w' => e' = .returned (.bool (sameT x y)) ∧ Below w.heap.size w w' := by
 obtain ⟨la1, lc1, ba1, bc1, rfl, hl1, hb1⟩ := hv
 obtain ⟨la2, lc2, ba2, bc2, rfl, hl2, hb2⟩ := hu
 exact same_t_all w (toList_eq _ _) (fun W hb => equal_d (fun x _ => p_sameD x) hok.1 (dcsAt_below hl1 hb) (dcsAt_below hl2 hb))
  (fun W hb => by rw [← sameBy_st]; exact equal_s (fun x hx => p_sameS x (okSs_mem hok.2.2 x hx)) hok.2.1 (stsAt_below hb1 hb) (stsAt_below hb2 hb))
def pA (w : World) (x : Pg) (v : Value) : Prop := ∃ a1 c1 a2 c2 a3 c3, v = .agg #[.slice a1 x.shared.length c1, .slice a2 x.locks.length c2, .slice a3 x.threads.length c3] ∧ dcsAt (fun _ => True) w x.shared a1 ∧ dcsAt (fun _ => True) w x.locks a2 ∧ thsAt (fun _ => True) w x.threads a3
theorem pA_below {w w' : World} {x : Pg} {v : Value} (h : pA w x v) (hb : Below w.heap.size w w') : pA w' x v := by
 obtain ⟨a1, c1, a2, c2, a3, c3, h0, h1, h2, h3⟩ := h
 exact ⟨a1, c1, a2, c2, a3, c3, h0, dcsAt_below h1 hb, dcsAt_below h2 hb, thsAt_below h3 hb⟩
theorem p_Same (x : Pg) (hok : okP x) (y : Pg) (v u : Value) (w : World) (hv : pA w x v) (hu : pA w y u) : Calls Tryz.prog 14 #[v, u] w fun e' w' => e' = .returned (.bool (samePg x y)) ∧ Below w.heap.size w w' := by
 obtain ⟨a1, c1, a2, c2, a3, c3, rfl, h1, h2, h3⟩ := hv
 obtain ⟨b1, d1, b2, d2, b3, d3, rfl, g1, g2, g3⟩ := hu
 exact same_p_all w (fun W hb => equal_d (fun x _ => p_sameD x) hok.1 (dcsAt_below h1 hb) (dcsAt_below g1 hb)) (fun W hb => equal_d (fun x _ => p_sameD x) hok.2.1 (dcsAt_below h2 hb) (dcsAt_below g2 hb))
  (fun W hb => equal_t (fun x hx => p_sameT x (hok.2.2.2 x hx)) hok.2.2.1 (thsAt_below h3 hb) (thsAt_below g3 hb))
open Go.RowKit
set_option linter.unusedVariables false
def PlS (l : List St) : Prop := okSs l → l.length ≤ 9223372036854775807 → ∀ (a b : Option Addr) (c1 c2 : Nat) (w : World), stsAt (fun _ => True) w l a → stsAt (fun _ => True) w l b →
 Calls Tryz.prog 31 #[.slice a l.length c1, .slice b l.length c2] w fun e w' => e = .returned (.bool true) ∧ ∃ j, w' = w.drewN j
theorem stsAt_drewN {R : Nat → Prop} {w : World} {l : List St} {a : Option Addr} (h : stsAt R w l a) (n : Nat) : stsAt R (w.drewN n) l a := stsAt_stays (w := w) (w' := w.drewN n) (fun b o v hb hv => hv) (fun b hb => hb) h
theorem r_stplaces_one {l : List St} (HI : ∀ x ∈ l, PlS x.body ∧ PlS x.els) : PlS l := by
 intro HO hl a b c1 c2 w h1 h2
 have HI := Lib.hid HI
 have HO := Lib.hid HO
 have E1 := Lib.hid h1
 have E2 := Lib.hid h2
 obtain ⟨n, hn⟩ : ∃ n, n = l.length := ⟨_, rfl⟩
 rw [← hn] at hl ⊢
 have HN := Lib.hid hn
 have hnn : ((n : Int) != (n : Int)) = false := by simp
 clear h1 h2 hn
 go_enter Tryz.func31, Tryz.ntmps31
 go_wp2_with fail
 go_loopg [13] (n + 1) (fun m' u W => ∃ i : Nat, u = .int .i64 (i : Int) ∧ i ≤ n ∧ m' = n - i + 1 ∧ ∃ j, W = w.drewN j)
 case atStart => exact ⟨0, rfl, Nat.zero_le _, by omega, 0, rfl⟩
 case round =>
  obtain ⟨i, rfl, hi, hm, j0, hW0⟩ := hrel
  have HM := Lib.hid hm
  have HW := Lib.hid hW0
  clear hm hW0
  by_cases hin : i < n
  · have il : i < l.length := by have := HN.out; omega
    have g1 : l[i]? = some l[i] := List.getElem?_eq_getElem il
    have hmem : l[i] ∈ l := List.getElem_mem il
    generalize l[i] = x at g1 hmem
    have hok := okSs_mem HO.out x hmem
    have HX := Lib.hid (HI.out x hmem)
    rcases E1.out with e | ⟨g, q, rfl, _, e1⟩
    · cases l with
      | nil => simp at il
      | cons => cases e
    rcases E2.out with e | ⟨g', q', rfl, _, e2⟩
    · cases l with
      | nil => simp at il
      | cons => cases e
    have x1 := stsIn_get i x e1 g1
    have y1 := stsIn_get i x e2 g1
    obtain ⟨k, nm, ot, es, bo, el, ps⟩ := x
    obtain ⟨_, _, _, ⟨a3, d3, p3, w3⟩, ⟨a4, d4, p4, w4⟩, ⟨a5, d5, p5, w5⟩, p6⟩ := x1
    obtain ⟨_, _, _, ⟨b3, f3, r3, z3⟩, ⟨b4, f4, r4, z4⟩, ⟨b5, f5, r5, z5⟩, r6⟩ := y1
    obtain ⟨⟨o1, o2⟩, ⟨o3, o4⟩, o5, o6⟩ := hok
    have hin' : (i : Int) < (n : Int) := by omega
    have HC1 : Hid (∀ j, Calls Tryz.prog 73 #[.slice a3 es.length d3, .slice b3 es.length f3] (wr.drewN j) fun e' w' => e' = .returned (.bool true) ∧ ∃ t, w' = wr.drewN t) := fun j => by
     have := r_places es o2 es a3 b3 d3 f3 (wr.drewN j) o1 (exsAt_drewN (by rw [HW.out]; exact exsAt_drewN w3 j0) j) (exsAt_drewN (by rw [HW.out]; exact exsAt_drewN z3 j0) j)
     rw [placeEs_self] at this
     exact this.mono fun e' w' ⟨he, t, ht⟩ => ⟨he, j + t, by rw [ht, World.drewN_drewN]⟩
    have HC2 : Hid (∀ j, Calls Tryz.prog 31 #[.slice a4 bo.length d4, .slice b4 bo.length f4] (wr.drewN j) fun e' w' => e' = .returned (.bool true) ∧ ∃ t, w' = wr.drewN t) := fun j =>
     (HX.out.1 o4 o3 a4 b4 d4 f4 (wr.drewN j) (stsAt_drewN (by rw [HW.out]; exact stsAt_drewN w4 j0) j) (stsAt_drewN (by rw [HW.out]; exact stsAt_drewN z4 j0) j)).mono fun e' w' ⟨he, t, ht⟩ => ⟨he, j + t, by rw [ht, World.drewN_drewN]⟩
    have HC3 : Hid (∀ j, Calls Tryz.prog 31 #[.slice a5 el.length d5, .slice b5 el.length f5] (wr.drewN j) fun e' w' => e' = .returned (.bool true) ∧ ∃ t, w' = wr.drewN t) := fun j =>
     (HX.out.2 o6 o5 a5 b5 d5 f5 (wr.drewN j) (stsAt_drewN (by rw [HW.out]; exact stsAt_drewN w5 j0) j) (stsAt_drewN (by rw [HW.out]; exact stsAt_drewN z5 j0) j)).mono fun e' w' ⟨he, t, ht⟩ => ⟨he, j + t, by rw [ht, World.drewN_drewN]⟩
    have p3 : wr.cell? ⟨g, q + i * 7 + 3, none⟩ = some (.slice a3 es.length d3) := by rw [HW.out]; exact p3
    have p4 : wr.cell? ⟨g, q + i * 7 + 4, none⟩ = some (.slice a4 bo.length d4) := by rw [HW.out]; exact p4
    have p5 : wr.cell? ⟨g, q + i * 7 + 5, none⟩ = some (.slice a5 el.length d5) := by rw [HW.out]; exact p5
    have p6 : wr.cell? ⟨g, q + i * 7 + 6, none⟩ = some (.int .i64 ps) := by rw [HW.out]; exact p6
    have r3 : wr.cell? ⟨g', q' + i * 7 + 3, none⟩ = some (.slice b3 es.length f3) := by rw [HW.out]; exact r3
    have r4 : wr.cell? ⟨g', q' + i * 7 + 4, none⟩ = some (.slice b4 bo.length f4) := by rw [HW.out]; exact r4
    have r5 : wr.cell? ⟨g', q' + i * 7 + 5, none⟩ = some (.slice b5 el.length f5) := by rw [HW.out]; exact r5
    have r6 : wr.cell? ⟨g', q' + i * 7 + 6, none⟩ = some (.int .i64 ps) := by rw [HW.out]; exact r6
    have q3 : (ps != ps) = false := by simp
    clear g1 e1 e2 il w3 w4 w5 z3 z4 z5 o1 o2 o3 o4 o5 o6 HX hmem
    generalize es.length = n3 at *
    generalize bo.length = n4 at *
    generalize el.length = n5 at *
    have HCC : Hid (∀ j (u v : Value), (u = .slice a4 n4 d4 ∧ v = .slice b4 n4 f4) ∨ (u = .slice a5 n5 d5 ∧ v = .slice b5 n5 f5) → Calls Tryz.prog 31 #[u, v] (wr.drewN j) fun e' w' => e' = .returned (.bool true) ∧ ∃ t, w' = wr.drewN t) := fun j u v h => by
     rcases h with ⟨rfl, rfl⟩ | ⟨rfl, rfl⟩
     · exact HC2.out j
     · exact HC3.out j
    clear HC2 HC3
    go_wp2_with fail
    go_quiet (first | (go_at_call 73; exact HC1.out _) | (go_at_call 31; refine HCC.out _ _ _ ?_; first | exact Or.inl ⟨rfl, rfl⟩ | exact Or.inr ⟨rfl, rfl⟩))
    go_wp2_with fail
    go_roundg (n - (i + 1) + 1)
    case measure => have := HM.out; omega
    case rel => exact ⟨i + 1, rfl, by omega, by omega, _, by rw [HW.out, World.drewN_drewN]⟩
  · have : i = n := by omega
    subst this
    go_wp2_with fail
    go_ret
    exact ⟨rfl, _, HW.out⟩
theorem r_stsubs : ∀ l : List St, ∀ x ∈ l, PlS x.body ∧ PlS x.els := by
 intro l
 induction l using Sts.ind with
 | h0 => intro x hx; cases hx
 | h1 k n o e b l a r hb hl hr =>
   intro x hx
   rcases List.mem_cons.1 hx with rfl | hx
   · exact ⟨r_stplaces_one hb, r_stplaces_one hl⟩
   · exact hr x hx
theorem r_stplaces (l : List St) : PlS l := r_stplaces_one (r_stsubs l)
open Go.RowKit
set_option linter.unusedVariables false
def TwoAt (B : Nat) (w : World) (T : TypeId) (r1 r2 : Array Value) (u v : Value) (w' : World) : Prop := ∃ g h, u = .pointer (some ⟨g, 0, none⟩) ∧ v = .pointer (some ⟨h, 0, none⟩) ∧ Own w' g T r1 ∧ Own w' h T r2 ∧ B ≤ g ∧ B ≤ h ∧ Below B w w'
theorem twoAt_1 {w wr : World} {T : TypeId} {r1 r2 : Array Value} (hb : Below w.heap.size w wr) : TwoAt w.heap.size w T r1 r2 (.pointer (some ⟨wr.heap.size, 0, none⟩)) (.pointer (some ⟨wr.heap.size + 1, 0, none⟩)) ((wr.alloc (.cells r1 T)).alloc (.cells r2 T)).drew := by
 have h2 := Own.new (wr.alloc (.cells r1 T)) T r2
 rw [World.size_alloc] at h2
 have hs := hb.size
 exact ⟨_, _, rfl, rfl, ((Own.new wr T r1).alloc (.cells r2 T)).drewN 1, h2.drewN 1, hs, by omega, below_drewN (((hb.alloc hs _)).alloc (by rw [World.size_alloc]; omega) _) 1⟩
theorem twoAt_2 {w wr : World} {T : TypeId} {r1 r2 : Array Value} (hb : Below w.heap.size w wr) : TwoAt w.heap.size w T r1 r2 (.pointer (some ⟨wr.heap.size + 1, 0, none⟩)) (.pointer (some ⟨wr.heap.size, 0, none⟩)) ((wr.alloc (.cells r2 T)).alloc (.cells r1 T)).drew := by
 have h2 := Own.new (wr.alloc (.cells r2 T)) T r1
 rw [World.size_alloc] at h2
 have hs := hb.size
 exact ⟨_, _, rfl, rfl, h2.drewN 1, ((Own.new wr T r2).alloc (.cells r1 T)).drewN 1, by omega, hs, below_drewN (((hb.alloc hs _)).alloc (by rw [World.size_alloc]; omega) _) 1⟩
theorem sameEs_self : ∀ l : List Ex, sameEs l l = true := by
 intro l
 induction l using Exs.ind with
 | h0 => rfl
 | h1 k o w n ks a r hk hr => simp [sameEs, sameE, hk, hr]
def SmS (l : List St) : Prop := okSs l → l.length ≤ 9223372036854775807 → ∀ (a b : Option Addr) (c1 c2 : Nat) (w : World), stsAt (fun _ => True) w l a → stsAt (fun _ => True) w l b →
 Calls Tryz.prog 43 #[.slice a l.length c1, .slice b l.length c2] w fun e w' => e = .returned (.bool true) ∧ Below w.heap.size w w'
theorem r_stmts_one {l : List St} (HI : ∀ x ∈ l, SmS x.body ∧ SmS x.els) : SmS l := by
 intro HO hl a b c1 c2 w h1 h2
 have HI := Lib.hid HI
 have HO := Lib.hid HO
 have E1 := Lib.hid h1
 have E2 := Lib.hid h2
 obtain ⟨n, hn⟩ : ∃ n, n = l.length := ⟨_, rfl⟩
 rw [← hn] at hl ⊢
 have HN := Lib.hid hn
 have hnn : ((n : Int) != (n : Int)) = false := by simp
 clear h1 h2 hn
 go_enter Tryz.func43, Tryz.ntmps43
 go_wp2_with fail
 go_loopg [15] (n + 1) (fun m' u W => ∃ i : Nat, u = .int .i64 (i : Int) ∧ i ≤ n ∧ m' = n - i + 1 ∧ Below w.heap.size w W)
 case atStart => exact ⟨0, rfl, Nat.zero_le _, by omega, Below.refl _ w⟩
 case round =>
  obtain ⟨i, rfl, hi, hm, hb0⟩ := hrel
  have HM := Lib.hid hm
  have HB := Lib.hid hb0
  clear hm hb0
  by_cases hin : i < n
  · have il : i < l.length := by have := HN.out; omega
    have g1 : l[i]? = some l[i] := List.getElem?_eq_getElem il
    have hmem : l[i] ∈ l := List.getElem_mem il
    generalize l[i] = x at g1 hmem
    have hok := okSs_mem HO.out x hmem
    have HX := Lib.hid (HI.out x hmem)
    rcases E1.out with e | ⟨g, q, rfl, _, e1⟩
    · cases l with
      | nil => simp at il
      | cons => cases e
    rcases E2.out with e | ⟨g', q', rfl, _, e2⟩
    · cases l with
      | nil => simp at il
      | cons => cases e
    have x1 := stsIn_get i x e1 g1
    have y1 := stsIn_get i x e2 g1
    obtain ⟨k, nm, ot, es, bo, el, ps⟩ := x
    obtain ⟨a0, a1, a2, ⟨ea, ec, a3, w3⟩, ⟨ba, bc, a4, w4⟩, ⟨la, lc, a5, w5⟩, a6⟩ := x1
    obtain ⟨b0, b1, b2, ⟨fa, fc, b3, z3⟩, ⟨da, dc, b4, z4⟩, ⟨ma, mc, b5, z5⟩, b6⟩ := y1
    obtain ⟨⟨o1, o2⟩, ⟨o3, o4⟩, o5, o6⟩ := hok
    have lg := lt_of_at a0
    have lg' := lt_of_at b0
    simp only at lg lg'
    have hin' : (i : Int) < (n : Int) := by omega
    have HC1 : Hid (∀ W, Below w.heap.size w W → Calls Tryz.prog 45 #[.slice ea es.length ec, .slice fa es.length fc] W fun e' w' => e' = .returned (.bool true) ∧ Below W.heap.size W w') := fun W hW => by
     have := r_exprs (l := es) (m := es) (w := W) (c1 := ec) (c2 := fc) (fun x _ => r_same x) o2 o1 (exsAt_below w3 hW) (exsAt_below z3 hW)
     rw [sameEs_self] at this
     exact this
    have HC2 : Hid (∀ W, Below w.heap.size w W → Calls Tryz.prog 43 #[.slice ba bo.length bc, .slice da bo.length dc] W fun e' w' => e' = .returned (.bool true) ∧ Below W.heap.size W w') := fun W hW =>
     HX.out.1 o4 o3 ba da bc dc W (stsAt_below w4 hW) (stsAt_below z4 hW)
    have HC3 : Hid (∀ W, Below w.heap.size w W → Calls Tryz.prog 43 #[.slice la el.length lc, .slice ma el.length mc] W fun e' w' => e' = .returned (.bool true) ∧ Below W.heap.size W w') := fun W hW =>
     HX.out.2 o6 o5 la ma lc mc W (stsAt_below w5 hW) (stsAt_below z5 hW)
    have BX := HB.out
    have a0 : wr.cell? ⟨g, q + i * 7, none⟩ = some (.int .u8 k) := (BX.cell (p := ⟨g, q + i * 7, none⟩) lg).trans a0
    have a1 : wr.cell? ⟨g, q + i * 7 + 1, none⟩ = some (.string nm) := (BX.cell (p := ⟨g, q + i * 7 + 1, none⟩) lg).trans a1
    have a2 : wr.cell? ⟨g, q + i * 7 + 2, none⟩ = some (.string ot) := (BX.cell (p := ⟨g, q + i * 7 + 2, none⟩) lg).trans a2
    have a3 : wr.cell? ⟨g, q + i * 7 + 3, none⟩ = some (.slice ea es.length ec) := (BX.cell (p := ⟨g, q + i * 7 + 3, none⟩) lg).trans a3
    have a4 : wr.cell? ⟨g, q + i * 7 + 4, none⟩ = some (.slice ba bo.length bc) := (BX.cell (p := ⟨g, q + i * 7 + 4, none⟩) lg).trans a4
    have a5 : wr.cell? ⟨g, q + i * 7 + 5, none⟩ = some (.slice la el.length lc) := (BX.cell (p := ⟨g, q + i * 7 + 5, none⟩) lg).trans a5
    have a6 : wr.cell? ⟨g, q + i * 7 + 6, none⟩ = some (.int .i64 ps) := (BX.cell (p := ⟨g, q + i * 7 + 6, none⟩) lg).trans a6
    have b0 : wr.cell? ⟨g', q' + i * 7, none⟩ = some (.int .u8 k) := (BX.cell (p := ⟨g', q' + i * 7, none⟩) lg').trans b0
    have b1 : wr.cell? ⟨g', q' + i * 7 + 1, none⟩ = some (.string nm) := (BX.cell (p := ⟨g', q' + i * 7 + 1, none⟩) lg').trans b1
    have b2 : wr.cell? ⟨g', q' + i * 7 + 2, none⟩ = some (.string ot) := (BX.cell (p := ⟨g', q' + i * 7 + 2, none⟩) lg').trans b2
    have b3 : wr.cell? ⟨g', q' + i * 7 + 3, none⟩ = some (.slice fa es.length fc) := (BX.cell (p := ⟨g', q' + i * 7 + 3, none⟩) lg').trans b3
    have b4 : wr.cell? ⟨g', q' + i * 7 + 4, none⟩ = some (.slice da bo.length dc) := (BX.cell (p := ⟨g', q' + i * 7 + 4, none⟩) lg').trans b4
    have b5 : wr.cell? ⟨g', q' + i * 7 + 5, none⟩ = some (.slice ma el.length mc) := (BX.cell (p := ⟨g', q' + i * 7 + 5, none⟩) lg').trans b5
    have b6 : wr.cell? ⟨g', q' + i * 7 + 6, none⟩ = some (.int .i64 ps) := (BX.cell (p := ⟨g', q' + i * 7 + 6, none⟩) lg').trans b6
    have q1 : (k != k) = false := by simp
    have q2 : (nm.toList != nm.toList) = false := by simp
    have q2' : (nm.toList == nm.toList) = true := by simp
    have q3 : (ot.toList != ot.toList) = false := by simp
    have q3' : (ot.toList == ot.toList) = true := by simp
    clear g1 e1 e2 il w3 w4 w5 z3 z4 z5 o1 o2 o3 o4 o5 o6 HX hmem BX
    generalize es.length = n3 at *
    generalize bo.length = n4 at *
    generalize el.length = n5 at *
    obtain ⟨wq, hwq⟩ : ∃ W, W = wr := ⟨_, rfl⟩
    go_upto_region 6 with fail
    go_cut [6, 7] (fun u v wx => TwoAt w.heap.size w 69 #[.int .u8 k, .string nm, .string ot, .slice ea n3 ec, .slice ba n4 bc, .slice la n5 lc, .int .i64 ps] #[.int .u8 k, .string nm, .string ot, .slice fa n3 fc, .slice da n4 dc, .slice ma n5 mc, .int .i64 ps] u v wx)
    case first =>
     go_region_held3 (fun W => W.cell? ⟨g, q + i * 7, none⟩ = some (.int .u8 k) ∧ W.cell? ⟨g, q + i * 7 + 1, none⟩ = some (.string nm) ∧ W.cell? ⟨g, q + i * 7 + 2, none⟩ = some (.string ot) ∧ W.cell? ⟨g, q + i * 7 + 3, none⟩ = some (.slice ea n3 ec) ∧ W.cell? ⟨g, q + i * 7 + 4, none⟩ = some (.slice ba n4 bc) ∧ W.cell? ⟨g, q + i * 7 + 5, none⟩ = some (.slice la n5 lc) ∧ W.cell? ⟨g, q + i * 7 + 6, none⟩ = some (.int .i64 ps) ∧ W.cell? ⟨g', q' + i * 7, none⟩ = some (.int .u8 k) ∧ W.cell? ⟨g', q' + i * 7 + 1, none⟩ = some (.string nm) ∧ W.cell? ⟨g', q' + i * 7 + 2, none⟩ = some (.string ot) ∧ W.cell? ⟨g', q' + i * 7 + 3, none⟩ = some (.slice fa n3 fc) ∧ W.cell? ⟨g', q' + i * 7 + 4, none⟩ = some (.slice da n4 dc) ∧ W.cell? ⟨g', q' + i * 7 + 5, none⟩ = some (.slice ma n5 mc) ∧ W.cell? ⟨g', q' + i * 7 + 6, none⟩ = some (.int .i64 ps)) (go_keep) (fail)
     · go_wp2_with fail
       go_meet
       exact twoAt_1 HB.out
     · go_wp2_with fail
       go_meet
       exact twoAt_2 HB.out
    case rest =>
     obtain ⟨gu, gv, rfl, rfl, hO1, hO2, _, _, hb⟩ := hcut
     have O1 := Lib.hid hO1
     have O2 := Lib.hid hO2
     have HB := Lib.hid hb
     clear hO1 hO2 hb
     have x0 : wc.cell? ⟨gu, 0, none⟩ = some (.int .u8 k) := by rw [cell_of_row _ _ 0 _ _ _ O1.out]; rfl
     have y0 : wc.cell? ⟨gv, 0, none⟩ = some (.int .u8 k) := by rw [cell_of_row _ _ 0 _ _ _ O2.out]; rfl
     have x1 : wc.cell? ⟨gu, 1, none⟩ = some (.string nm) := by rw [cell_of_row _ _ 1 _ _ _ O1.out]; rfl
     have y1 : wc.cell? ⟨gv, 1, none⟩ = some (.string nm) := by rw [cell_of_row _ _ 1 _ _ _ O2.out]; rfl
     have x2 : wc.cell? ⟨gu, 2, none⟩ = some (.string ot) := by rw [cell_of_row _ _ 2 _ _ _ O1.out]; rfl
     have y2 : wc.cell? ⟨gv, 2, none⟩ = some (.string ot) := by rw [cell_of_row _ _ 2 _ _ _ O2.out]; rfl
     have x3 : wc.cell? ⟨gu, 3, none⟩ = some (.slice ea n3 ec) := by rw [cell_of_row _ _ 3 _ _ _ O1.out]; rfl
     have y3 : wc.cell? ⟨gv, 3, none⟩ = some (.slice fa n3 fc) := by rw [cell_of_row _ _ 3 _ _ _ O2.out]; rfl
     go_wp2_with fail
     go_at_call 45
     refine (HC1.out _ HB.out).mono ?_
     rintro e w3 ⟨rfl, hb3⟩
     have O1 := Lib.hid (O1.out.below hb3)
     have O2 := Lib.hid (O2.out.below hb3)
     have HB := Lib.hid (HB.out.trans (hb3.mono HB.out.size))
     clear hb3
     have x4 : w3.cell? ⟨gu, 4, none⟩ = some (.slice ba n4 bc) := by rw [cell_of_row _ _ 4 _ _ _ O1.out]; rfl
     have y4 : w3.cell? ⟨gv, 4, none⟩ = some (.slice da n4 dc) := by rw [cell_of_row _ _ 4 _ _ _ O2.out]; rfl
     go_wp2_with fail
     go_at_call 43
     refine (HC2.out _ HB.out).mono ?_
     rintro e w4 ⟨rfl, hb3⟩
     have O1 := Lib.hid (O1.out.below hb3)
     have O2 := Lib.hid (O2.out.below hb3)
     have HB := Lib.hid (HB.out.trans (hb3.mono HB.out.size))
     clear hb3
     have x5 : w4.cell? ⟨gu, 5, none⟩ = some (.slice la n5 lc) := by rw [cell_of_row _ _ 5 _ _ _ O1.out]; rfl
     have y5 : w4.cell? ⟨gv, 5, none⟩ = some (.slice ma n5 mc) := by rw [cell_of_row _ _ 5 _ _ _ O2.out]; rfl
     go_wp2_with fail
     go_at_call 43
     refine (HC3.out _ HB.out).mono ?_
     rintro e w5 ⟨rfl, hb3⟩
     have HB := Lib.hid (HB.out.trans (hb3.mono HB.out.size))
     clear hb3
     go_wp2_with fail
     go_roundg (n - (i + 1) + 1)
     case measure => have := HM.out; omega
     case rel => exact ⟨i + 1, rfl, by omega, by omega, HB.out⟩
  · have : i = n := by omega
    subst this
    go_wp2_with fail
    go_ret
    exact ⟨rfl, HB.out⟩
theorem r_smsubs : ∀ l : List St, ∀ x ∈ l, SmS x.body ∧ SmS x.els := by
 intro l
 induction l using Sts.ind with
 | h0 => intro x hx; cases hx
 | h1 k n o e b l a r hb hl hr =>
   intro x hx
   rcases List.mem_cons.1 hx with rfl | hx
   · exact ⟨r_stmts_one hb, r_stmts_one hl⟩
   · exact hr x hx
theorem r_smstmts (l : List St) : SmS l := r_stmts_one (r_smsubs l)
end Go.Proofs.YtikaflpiephaiaaGreatDoor

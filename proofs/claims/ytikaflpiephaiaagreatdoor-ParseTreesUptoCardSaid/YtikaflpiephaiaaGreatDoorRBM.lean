/- The proof, part 39: texts that belong together, in one. -/
import Derived.Test.YtikaflpiephaiaaGreatDoorRBL
import Derived.Test.YtikaflpiephaiaaGreatDoorRAX
set_option maxRecDepth 100000
set_option maxHeartbeats 20000000
namespace Go.Proofs.YtikaflpiephaiaaGreatDoor
open Go.RowKit
set_option linter.unusedVariables false
theorem r_SameG (x : Pg) (hok : okP x) (y : Pg) {v u : Value} {w : World} (hv : pA w x v) (hu : pA w y u) : Calls Tryz.prog 15 #[v, u] w fun e w' => e = .returned (.bool (samePg x y)) ∧ Below w.heap.size w w' := by
 obtain ⟨a1, c1, a2, c2, a3, c3, rfl, h1, h2, h3⟩ := hv
 obtain ⟨b1, d1, b2, d2, b3, d3, rfl, k1, k2, k3⟩ := hu
 obtain ⟨l1, l2, l3, hth⟩ := hok
 obtain ⟨sh, lk, th⟩ := x
 obtain ⟨sh', lk', th'⟩ := y
 simp only at *
 have HD1 : Hid (∀ W, Below w.heap.size w W → Calls Tryz.prog 42 #[.slice a1 sh.length c1, .slice b1 sh'.length d1] W fun e' w' => e' = .returned (.bool (sameBy sameD sh sh')) ∧ Below W.heap.size W w') := fun W hW =>
  (r_declsG l1 (dcsAt_below h1 hW) (dcsAt_below k1 hW)).mono fun e w' ⟨he, j, hj⟩ => ⟨he, by rw [hj]; exact drewN_below W j⟩
 have HD2 : Hid (∀ W, Below w.heap.size w W → Calls Tryz.prog 42 #[.slice a2 lk.length c2, .slice b2 lk'.length d2] W fun e' w' => e' = .returned (.bool (sameBy sameD lk lk')) ∧ Below W.heap.size W w') := fun W hW =>
  (r_declsG l2 (dcsAt_below h2 hW) (dcsAt_below k2 hW)).mono fun e w' ⟨he, j, hj⟩ => ⟨he, by rw [hj]; exact drewN_below W j⟩
 have HTH := Lib.hid hth
 have E1 := Lib.hid h3
 have E2 := Lib.hid k3
 have hsp : samePg ⟨sh, lk, th⟩ ⟨sh', lk', th'⟩ = ((sameBy sameD sh sh' && sameBy sameD lk lk') && sameBy sameT th th') := rfl
 rw [hsp]
 obtain ⟨R, hR⟩ : ∃ R, R = sameBy sameT th th' := ⟨_, rfl⟩
 rw [← hR]
 have HRR := Lib.hid hR
 clear hR hth h1 h2 h3 k1 k2 k3 l1 l2 hsp
 generalize sameBy sameD sh sh' = D1 at *
 generalize sameBy sameD lk lk' = D2 at *
 generalize sh.length = n1 at *
 generalize lk.length = n2 at *
 generalize sh'.length = k1 at *
 generalize lk'.length = k2 at *
 obtain ⟨n3, hn⟩ : ∃ n, n = th.length := ⟨_, rfl⟩
 obtain ⟨k3, hk⟩ : ∃ n, n = th'.length := ⟨_, rfl⟩
 rw [← hn] at l3
 rw [← hn, ← hk]
 have HN := Lib.hid hn
 have HK := Lib.hid hk
 clear hn hk
 have HB : Hid (Below w.heap.size w ((w.alloc (.cells #[.slice a1 n1 c1, .slice a2 n2 c2, .slice a3 n3 c3] 25)).alloc (.cells #[.slice b1 k1 d1, .slice b2 k2 d2, .slice b3 k3 d3] 25))) := (((Below.refl _ w).alloc (Nat.le_refl _) _).alloc (by rw [World.size_alloc]; omega) _)
 have O1 := Lib.hid ((Own.new w 25 #[.slice a1 n1 c1, .slice a2 n2 c2, .slice a3 n3 c3]).alloc (.cells #[.slice b1 k1 d1, .slice b2 k2 d2, .slice b3 k3 d3] 25))
 have O2 : Hid (Own ((w.alloc (.cells #[.slice a1 n1 c1, .slice a2 n2 c2, .slice a3 n3 c3] 25)).alloc (.cells #[.slice b1 k1 d1, .slice b2 k2 d2, .slice b3 k3 d3] 25)) (w.heap.size + 1) 25 #[.slice b1 k1 d1, .slice b2 k2 d2, .slice b3 k3 d3]) := by have := Own.new (w.alloc (.cells #[.slice a1 n1 c1, .slice a2 n2 c2, .slice a3 n3 c3] 25)) 25 #[.slice b1 k1 d1, .slice b2 k2 d2, .slice b3 k3 d3]; rw [World.size_alloc] at this; exact this
 go_enter Tryz.func15, Tryz.ntmps15
 cases D1 with
 | false =>
   go_wp2_with fail
   go_at_call 42
   refine (HD1.out _ HB.out).mono ?_
   rintro e w3 ⟨rfl, hb3⟩
   replace O1 := Lib.hid (O1.out.below hb3)
   replace O2 := Lib.hid (O2.out.below hb3)
   replace HB := Lib.hid (HB.out.trans (hb3.mono HB.out.size))
   clear hb3
   go_wp2_with fail
   go_ret
   exact ⟨rfl, HB.out⟩
 | true =>
   go_wp2_with fail
   go_at_call 42
   refine (HD1.out _ HB.out).mono ?_
   rintro e w3 ⟨rfl, hb3⟩
   replace O1 := Lib.hid (O1.out.below hb3)
   replace O2 := Lib.hid (O2.out.below hb3)
   replace HB := Lib.hid (HB.out.trans (hb3.mono HB.out.size))
   clear hb3
   have x1 : w3.cell? ⟨w.heap.size, 1, none⟩ = some (.slice a2 n2 c2) := by rw [cell_of_row _ _ 1 _ _ _ O1.out]; rfl
   have y1 : w3.cell? ⟨w.heap.size + 1, 1, none⟩ = some (.slice b2 k2 d2) := by rw [cell_of_row _ _ 1 _ _ _ O2.out]; rfl
   cases D2 with
   | false =>
     go_wp2_with fail
     go_at_call 42
     refine (HD2.out _ HB.out).mono ?_
     rintro e w4 ⟨rfl, hb3⟩
     replace O1 := Lib.hid (O1.out.below hb3)
     replace O2 := Lib.hid (O2.out.below hb3)
     replace HB := Lib.hid (HB.out.trans (hb3.mono HB.out.size))
     clear hb3
     go_wp2_with fail
     go_ret
     exact ⟨rfl, HB.out⟩
   | true =>
     go_wp2_with fail
     go_at_call 42
     refine (HD2.out _ HB.out).mono ?_
     rintro e w4 ⟨rfl, hb3⟩
     replace O1 := Lib.hid (O1.out.below hb3)
     replace O2 := Lib.hid (O2.out.below hb3)
     replace HB := Lib.hid (HB.out.trans (hb3.mono HB.out.size))
     clear hb3
     have x2 : w4.cell? ⟨w.heap.size, 2, none⟩ = some (.slice a3 n3 c3) := by rw [cell_of_row _ _ 2 _ _ _ O1.out]; rfl
     have y2 : w4.cell? ⟨w.heap.size + 1, 2, none⟩ = some (.slice b3 k3 d3) := by rw [cell_of_row _ _ 2 _ _ _ O2.out]; rfl
     by_cases hne : n3 = k3
     · obtain rfl := hne
       have hnn : ((n3 : Int) != (n3 : Int)) = false := by simp
       go_wp2_with fail
       clear x1 x2 y1 y2
       go_loopg [34] (n3 + 1) (fun m' u W => ∃ i : Nat, u = .int .i64 (i : Int) ∧ i ≤ n3 ∧ m' = n3 - i + 1 ∧ sameBy sameT (th.drop i) (th'.drop i) = R ∧ Below w.heap.size w W ∧ Own W w.heap.size 25 #[.slice a1 n1 c1, .slice a2 n2 c2, .slice a3 n3 c3] ∧ Own W (w.heap.size + 1) 25 #[.slice b1 k1 d1, .slice b2 k2 d2, .slice b3 n3 d3])
       case atStart => exact ⟨0, rfl, Nat.zero_le _, by omega, HRR.out.symm, HB.out, O1.out, O2.out⟩
       case round =>
        clear HB O1 O2
        obtain ⟨i, rfl, hi, hm, hR, hb0, ho1, ho2⟩ := hrel
        have HM := Lib.hid hm
        have HRI := Lib.hid hR
        have HB := Lib.hid hb0
        have O1 := Lib.hid ho1
        have O2 := Lib.hid ho2
        clear hm hb0 ho1 ho2 hR
        by_cases hin : i < n3
        · have il : i < th.length := by have := HN.out; omega
          have im : i < th'.length := by have := HK.out; omega
          have g1 : th[i]? = some th[i] := List.getElem?_eq_getElem il
          have g2 : th'[i]? = some th'[i] := List.getElem?_eq_getElem im
          have hmem : th[i] ∈ th := List.getElem_mem il
          have hst := sameBy_step (f := sameT) il im
          generalize th[i] = x at g1 hmem hst
          generalize th'[i] = y at g2 hst
          have HST := Lib.hid (HRI.out.symm.trans hst)
          clear hst
          obtain ⟨o1, o2, o3⟩ := HTH.out x hmem
          rcases E1.out with e | ⟨g, q, rfl, _, e1⟩
          · cases th with
            | nil => simp at il
            | cons => cases e
          rcases E2.out with e | ⟨g', q', rfl, _, e2⟩
          · cases th' with
            | nil => simp at im
            | cons => cases e
          obtain ⟨a0p, ⟨ta, tc, a1p, w1⟩, ⟨sa, sc, a2p, w2⟩, a3p⟩ := thsIn_get i x e1 g1
          obtain ⟨b0p, ⟨ua, uc, b1p, z1⟩, ⟨va, vc, b2p, z2⟩, b3p⟩ := thsIn_get i y e2 g2
          obtain ⟨nm, lo, bo, ps⟩ := x
          obtain ⟨nm', lo', bo', ps'⟩ := y
          simp only at *
          have lg := lt_of_at a0p
          have lg' := lt_of_at b0p
          simp only at lg lg'
          have hin' : (i : Int) < (n3 : Int) := by omega
          have HC1 : Hid (∀ W, Below w.heap.size w W → Calls Tryz.prog 42 #[.slice ta lo.length tc, .slice ua lo'.length uc] W fun e' w' => e' = .returned (.bool (sameBy sameD lo lo')) ∧ Below W.heap.size W w') := fun W hW =>
           (r_declsG o1 (dcsAt_below w1 hW) (dcsAt_below z1 hW)).mono fun e w' ⟨he, j, hj⟩ => ⟨he, by rw [hj]; exact drewN_below W j⟩
          have HC2 : Hid (∀ W, Below w.heap.size w W → Calls Tryz.prog 43 #[.slice sa bo.length sc, .slice va bo'.length vc] W fun e' w' => e' = .returned (.bool (sameSs bo bo')) ∧ Below W.heap.size W w') := fun W hW =>
           r_stmtsG bo o3 o2 bo' sa va sc vc W (stsAt_below w2 hW) (stsAt_below z2 hW)
          replace HST : Hid (R = ((((nm.toList == nm'.toList) && sameBy sameD lo lo') && sameSs bo bo') && sameBy sameT (th.drop (i + 1)) (th'.drop (i + 1)))) := by rw [Hid, HST.out, toList_eq]; rfl
          have BX := HB.out
          have a0q : wr.cell? ⟨g, q + i * 4, none⟩ = some (.string nm) := (BX.cell (p := ⟨g, q + i * 4, none⟩) lg).trans a0p
          have a1q : wr.cell? ⟨g, q + i * 4 + 1, none⟩ = some (.slice ta lo.length tc) := (BX.cell (p := ⟨g, q + i * 4 + 1, none⟩) lg).trans a1p
          have a2q : wr.cell? ⟨g, q + i * 4 + 2, none⟩ = some (.slice sa bo.length sc) := (BX.cell (p := ⟨g, q + i * 4 + 2, none⟩) lg).trans a2p
          have a3q : wr.cell? ⟨g, q + i * 4 + 3, none⟩ = some (.int .i64 ps) := (BX.cell (p := ⟨g, q + i * 4 + 3, none⟩) lg).trans a3p
          have b0q : wr.cell? ⟨g', q' + i * 4, none⟩ = some (.string nm') := (BX.cell (p := ⟨g', q' + i * 4, none⟩) lg').trans b0p
          have b1q : wr.cell? ⟨g', q' + i * 4 + 1, none⟩ = some (.slice ua lo'.length uc) := (BX.cell (p := ⟨g', q' + i * 4 + 1, none⟩) lg').trans b1p
          have b2q : wr.cell? ⟨g', q' + i * 4 + 2, none⟩ = some (.slice va bo'.length vc) := (BX.cell (p := ⟨g', q' + i * 4 + 2, none⟩) lg').trans b2p
          have b3q : wr.cell? ⟨g', q' + i * 4 + 3, none⟩ = some (.int .i64 ps') := (BX.cell (p := ⟨g', q' + i * 4 + 3, none⟩) lg').trans b3p
          have x2 : wr.cell? ⟨w.heap.size, 2, none⟩ = some (.slice (some ⟨g, q, none⟩) n3 c3) := by rw [cell_of_row _ _ 2 _ _ _ O1.out]; rfl
          have y2 : wr.cell? ⟨w.heap.size + 1, 2, none⟩ = some (.slice (some ⟨g', q', none⟩) n3 d3) := by rw [cell_of_row _ _ 2 _ _ _ O2.out]; rfl
          clear g1 g2 e1 e2 il im w1 w2 z1 z2 o1 o2 o3 hmem BX a0p a1p a2p a3p b0p b1p b2p b3p
          generalize sameBy sameD lo lo' = B2 at HC1 HST
          generalize sameSs bo bo' = B3 at HC2 HST
          generalize lo.length = m1 at *
          generalize bo.length = m2 at *
          generalize lo'.length = l1 at *
          generalize bo'.length = l2 at *
          go_upto_region 6 with fail
          go_cut [6, 7] (fun u v wx => TwoIn w.heap.size wr 64 25 #[.slice a1 n1 c1, .slice a2 n2 c2, .slice (some ⟨g, q, none⟩) n3 c3] #[.slice b1 k1 d1, .slice b2 k2 d2, .slice (some ⟨g', q', none⟩) n3 d3] #[.string nm, .slice ta m1 tc, .slice sa m2 sc, .int .i64 ps] #[.string nm', .slice ua l1 uc, .slice va l2 vc, .int .i64 ps'] u v wx)
          case first =>
           go_region_held3 (fun W => W.cell? ⟨g, q + i * 4, none⟩ = some (.string nm) ∧ W.cell? ⟨g, q + i * 4 + 1, none⟩ = some (.slice ta m1 tc) ∧ W.cell? ⟨g, q + i * 4 + 2, none⟩ = some (.slice sa m2 sc) ∧ W.cell? ⟨g, q + i * 4 + 3, none⟩ = some (.int .i64 ps) ∧ W.cell? ⟨g', q' + i * 4, none⟩ = some (.string nm') ∧ W.cell? ⟨g', q' + i * 4 + 1, none⟩ = some (.slice ua l1 uc) ∧ W.cell? ⟨g', q' + i * 4 + 2, none⟩ = some (.slice va l2 vc) ∧ W.cell? ⟨g', q' + i * 4 + 3, none⟩ = some (.int .i64 ps') ∧ W.cell? ⟨w.heap.size, 2, none⟩ = some (.slice (some ⟨g, q, none⟩) n3 c3) ∧ W.cell? ⟨w.heap.size + 1, 2, none⟩ = some (.slice (some ⟨g', q', none⟩) n3 d3)) (go_keep) (fail)
           · go_wp2_with fail
             go_meet
             exact twoIn_1 O2.out.lt O1.out O2.out
           · go_wp2_with fail
             go_meet
             exact twoIn_2 O2.out.lt O1.out O2.out
          case rest =>
           obtain ⟨gu, gv, rfl, rfl, hO1, hO2, hb, hp1, hp2⟩ := hcut
           have P1 := Lib.hid hO1
           have P2 := Lib.hid hO2
           replace HB := Lib.hid (HB.out.trans hb)
           replace O1 := Lib.hid hp1
           replace O2 := Lib.hid hp2
           clear hO1 hO2 hb hp1 hp2 x2 y2 a0q a1q a2q a3q b0q b1q b2q b3q
           have s0 : wc.cell? ⟨gu, 0, none⟩ = some (.string nm) := by rw [cell_of_row _ _ 0 _ _ _ P1.out]; rfl
           have r0 : wc.cell? ⟨gv, 0, none⟩ = some (.string nm') := by rw [cell_of_row _ _ 0 _ _ _ P2.out]; rfl
           have s1 : wc.cell? ⟨gu, 1, none⟩ = some (.slice ta m1 tc) := by rw [cell_of_row _ _ 1 _ _ _ P1.out]; rfl
           have r1 : wc.cell? ⟨gv, 1, none⟩ = some (.slice ua l1 uc) := by rw [cell_of_row _ _ 1 _ _ _ P2.out]; rfl
           obtain ⟨B1, hBB⟩ : ∃ B, B = (nm.toList == nm'.toList) := ⟨_, rfl⟩
           rw [← hBB] at HST
           have q1' : (nm.toList == nm'.toList) = B1 := hBB.symm
           have q1 := bne_of q1'
           clear hBB
           cases B1 with
           | false =>
             simp only [Bool.not_false] at q1
             go_wp2_with fail
             go_ret
             exact ⟨by rw [show R = false by rw [HST.out]; simp]; rfl, HB.out⟩
           | true =>
             simp only [Bool.not_true] at q1
             cases B2 with
             | false =>
               go_wp2_with fail
               go_at_call 42
               refine (HC1.out _ HB.out).mono ?_
               rintro e w3 ⟨rfl, hb3⟩
               replace O1 := Lib.hid (O1.out.below hb3)
               replace O2 := Lib.hid (O2.out.below hb3)
               replace P1 := Lib.hid (P1.out.below hb3)
               replace P2 := Lib.hid (P2.out.below hb3)
               replace HB := Lib.hid (HB.out.trans (hb3.mono HB.out.size))
               clear hb3
               go_wp2_with fail
               go_ret
               exact ⟨by rw [show R = false by rw [HST.out]; simp]; rfl, HB.out⟩
             | true =>
               go_wp2_with fail
               go_at_call 42
               refine (HC1.out _ HB.out).mono ?_
               rintro e w3 ⟨rfl, hb3⟩
               replace O1 := Lib.hid (O1.out.below hb3)
               replace O2 := Lib.hid (O2.out.below hb3)
               replace P1 := Lib.hid (P1.out.below hb3)
               replace P2 := Lib.hid (P2.out.below hb3)
               replace HB := Lib.hid (HB.out.trans (hb3.mono HB.out.size))
               clear hb3
               have s2 : w3.cell? ⟨gu, 2, none⟩ = some (.slice sa m2 sc) := by rw [cell_of_row _ _ 2 _ _ _ P1.out]; rfl
               have r2 : w3.cell? ⟨gv, 2, none⟩ = some (.slice va l2 vc) := by rw [cell_of_row _ _ 2 _ _ _ P2.out]; rfl
               cases B3 with
               | false =>
                 go_wp2_with fail
                 go_at_call 43
                 refine (HC2.out _ HB.out).mono ?_
                 rintro e w4 ⟨rfl, hb3⟩
                 replace O1 := Lib.hid (O1.out.below hb3)
                 replace O2 := Lib.hid (O2.out.below hb3)
                 replace P1 := Lib.hid (P1.out.below hb3)
                 replace P2 := Lib.hid (P2.out.below hb3)
                 replace HB := Lib.hid (HB.out.trans (hb3.mono HB.out.size))
                 clear hb3
                 go_wp2_with fail
                 go_ret
                 exact ⟨by rw [show R = false by rw [HST.out]; simp]; rfl, HB.out⟩
               | true =>
                 go_wp2_with fail
                 go_at_call 43
                 refine (HC2.out _ HB.out).mono ?_
                 rintro e w4 ⟨rfl, hb3⟩
                 replace O1 := Lib.hid (O1.out.below hb3)
                 replace O2 := Lib.hid (O2.out.below hb3)
                 replace P1 := Lib.hid (P1.out.below hb3)
                 replace P2 := Lib.hid (P2.out.below hb3)
                 replace HB := Lib.hid (HB.out.trans (hb3.mono HB.out.size))
                 clear hb3
                 go_wp2_with fail
                 go_roundg (n3 - (i + 1) + 1)
                 case measure => have := HM.out; omega
                 case rel => exact ⟨i + 1, rfl, by omega, by omega, by rw [HST.out]; simp, HB.out, O1.out, O2.out⟩
        · have : i = n3 := by omega
          subst this
          have HRT : Hid (R = true) := by rw [Hid, ← HRI.out]; exact sameBy_end (by have := HN.out; omega) (by have := HK.out; omega)
          go_wp2_with fail
          go_ret
          exact ⟨by rw [HRT.out]; rfl, HB.out⟩
     · have hnk : ((n3 : Int) != (k3 : Int)) = true := by simp; omega
       replace HRR : Hid (R = false) := by rw [Hid, HRR.out]; exact sameBy_ne (by have := HN.out; have := HK.out; omega)
       go_wp2_with fail
       go_ret
       exact ⟨by rw [HRR.out]; rfl, HB.out⟩
open Go.RowKit
set_option linter.unusedVariables false
def exB : Ex := .mk 4 1 0 ⟨#[]⟩ [.mk 1 0 1 ⟨#[]⟩ [] 30, .mk 4 3 0 ⟨#[]⟩ [.mk 1 0 2 ⟨#[]⟩ [] 34, .mk 2 0 0 ⟨#[120]⟩ [] 38] 36] 32
def pgB : Pg := ⟨[⟨⟨#[120]⟩, -3, 7⟩], [], [⟨⟨#[97]⟩, [], [.mk 1 ⟨#[120]⟩ ⟨#[]⟩ [exB] [] [] 26], 22⟩]⟩
def txt1 : List UInt8 := [115, 104, 97, 114, 101, 100, 32, 120, 32, 61, 32, 45, 51, 59, 32, 116, 104, 114, 101, 97, 100, 32, 97, 32, 123, 32, 120, 32, 61, 32, 49, 32, 43, 32, 50, 32, 42, 32, 120, 59, 32, 125]
def txt2 : List UInt8 := [116, 104, 114, 101, 97, 100, 32, 97, 32, 123, 32, 120, 32, 61, 32, 49, 32, 125]
theorem key1 : endR (endP (progP fnd 42 (fuel ((restL 0 txt1).1.map Res.tk)) ((restL 0 txt1).1.map Res.tk))) = (some pgB, 0, 0, 0) := by kernel_rfl
theorem key2 : endR (endP (progP fnd 18 (fuel ((restL 0 txt2).1.map Res.tk)) ((restL 0 txt2).1.map Res.tk))) = (none, 30, 17, 2) := by kernel_rfl
theorem said_one : said_P ⟨#[115, 104, 97, 114, 101, 100, 32, 120, 32, 61, 32, 45, 51, 59, 32, 116, 104, 114, 101, 97, 100, 32, 97, 32, 123, 32, 120, 32, 61, 32, 49, 32, 43, 32, 50, 32, 42, 32, 120, 59, 32, 125]⟩ = (some pgB, 0, 0, 0) := by
 unfold said_P wholeR
 have h : ¬ 65536 < (⟨#[115, 104, 97, 114, 101, 100, 32, 120, 32, 61, 32, 45, 51, 59, 32, 116, 104, 114, 101, 97, 100, 32, 97, 32, 123, 32, 120, 32, 61, 32, 49, 32, 43, 32, 50, 32, 42, 32, 120, 59, 32, 125]⟩ : ByteArray).size := by decide
 rw [if_neg h, front_list, if_neg (by
  intro h
  exact h (by kernel_rfl))]
 unfold scanX
 rw [if_neg h, front_list, if_pos (by kernel_rfl)]
 exact key1
theorem said_two : said_P ⟨#[116, 104, 114, 101, 97, 100, 32, 97, 32, 123, 32, 120, 32, 61, 32, 49, 32, 125]⟩ = (none, 30, 17, 2) := by
 unfold said_P wholeR
 have h : ¬ 65536 < (⟨#[116, 104, 114, 101, 97, 100, 32, 97, 32, 123, 32, 120, 32, 61, 32, 49, 32, 125]⟩ : ByteArray).size := by decide
 rw [if_neg h, front_list, if_neg (by
  intro h
  exact h (by kernel_rfl))]
 unfold scanX
 rw [if_neg h, front_list, if_pos (by kernel_rfl)]
 exact key2
open Go.RowKit
set_option linter.unusedVariables false
theorem pgB_cells {n : Nat} {v : Value} {w : World} (h : pgR n pgB v w) : ∃ g1 q1 c1 a2 c2 g3 q3 c3 g4 q4 c4 g5 q5 c5 g6 q6 c6, v = .agg #[.slice (some ⟨g1, q1, none⟩) 1 c1, .slice a2 0 c2, .slice (some ⟨g3, q3, none⟩) 1 c3] ∧
 w.cell? ⟨g1, q1 + 1, none⟩ = some (.int .i64 (-3)) ∧ w.cell? ⟨g3, q3 + 2, none⟩ = some (.slice (some ⟨g4, q4, none⟩) 1 c4) ∧ w.cell? ⟨g4, q4 + 3, none⟩ = some (.slice (some ⟨g5, q5, none⟩) 1 c5) ∧
 w.cell? ⟨g5, q5 + 1, none⟩ = some (.int .u8 1) ∧ w.cell? ⟨g5, q5 + 4, none⟩ = some (.slice (some ⟨g6, q6, none⟩) 2 c6) ∧ w.cell? ⟨g6, q6 + 6 + 1, none⟩ = some (.int .u8 3) := by
 obtain ⟨a1, c1, a2, c2, a3, c3, rfl, h1, h2, h3⟩ := h
 rcases h1 with h1 | ⟨g1, q1, rfl, _, h1⟩
 · cases h1
 rcases h3 with h3 | ⟨g3, q3, rfl, _, h3⟩
 · cases h3
 obtain ⟨⟨_, d1, _⟩, _⟩ := h1
 obtain ⟨⟨_, _, ⟨a4, c4, t2, h4⟩, _⟩, _⟩ := h3
 rcases h4 with h4 | ⟨g4, q4, rfl, _, h4⟩
 · cases h4
 obtain ⟨⟨_, _, _, ⟨a5, c5, s3, h5⟩, _⟩, _⟩ := h4
 rcases h5 with h5 | ⟨g5, q5, rfl, _, h5⟩
 · cases h5
 obtain ⟨⟨_, e1, _, _, ⟨a6, c6, e4, h6⟩, _⟩, _⟩ := h5
 rcases h6 with h6 | ⟨g6, q6, rfl, _, h6⟩
 · cases h6
 obtain ⟨_, ⟨_, f1, _⟩, _⟩ := h6
 exact ⟨g1, q1, c1, a2, c2, g3, q3, c3, g4, q4, c4, g5, q5, c5, g6, q6, c6, rfl, d1, t2, s3, e1, e4, f1⟩
theorem p_lives {w : World} (T : LTabs w) (TW : Tabs w) : Calls Tryz.prog 9 #[] w fun e w' => e = .returned (.bool true) ∧ Below w.heap.size w w' := by
 have HP : Hid (∀ s W, LTabs W → Tabs W → Calls Tryz.prog 7 #[.string s] W (WhPost W zPg pgR (said_P s))) := fun s W T TW => p_Parse s T TW
 have HT := Lib.hid (And.intro T TW)
 clear T TW
 go_enter Tryz.func9, Tryz.ntmps9
 go_wp2_with fail
 go_at_call 7
 refine (HP.out ⟨#[115, 104, 97, 114, 101, 100, 32, 120, 32, 61, 32, 45, 51, 59, 32, 116, 104, 114, 101, 97, 100, 32, 97, 32, 123, 32, 120, 32, 61, 32, 49, 32, 43, 32, 50, 32, 42, 32, 120, 59, 32, 125]⟩ _ HT.out.1 HT.out.2).mono ?_
 rintro e w1 ⟨hb1, v, rfl, hv⟩
 rw [said_one] at hv ⊢
 have hv : pgR w.heap.size pgB v w1 := hv
 obtain ⟨g1, q1, c1, a2, c2, g3, q3, c3, g4, q4, c4, g5, q5, c5, g6, q6, c6, rfl, d1, d2, d3, d4, d5, d6⟩ := pgB_cells hv
 have l1 := lt_of_at d1
 have l2 := lt_of_at d2
 have l3 := lt_of_at d3
 have l4 := lt_of_at d4
 have l6 := lt_of_at d6
 simp only at l1 l2 l3 l4 l6
 clear hv
 have O1 := (Own.new w1 25 #[.slice (some ⟨g1, q1, none⟩) 1 c1, .slice a2 0 c2, .slice (some ⟨g3, q3, none⟩) 1 c3]).alloc (.cells #[.int .i64 0, .int .i64 0] 28)
 have Z1 := (Own.new w1 25 #[.slice none 0 0, .slice none 0 0, .slice none 0 0]).alloc (.cells #[.int .i64 0, .int .i64 0] 28)
 have Z2 := Own.new (w1.alloc (.cells #[.slice none 0 0, .slice none 0 0, .slice none 0 0] 25)) 28 #[.int .i64 0, .int .i64 0]
 rw [World.size_alloc] at Z2
 have Z2' := Z2.other (g := w1.heap.size) #[.slice (some ⟨g1, q1, none⟩) 1 c1, .slice a2 0 c2, .slice (some ⟨g3, q3, none⟩) 1 c3] (by omega)
 have P1 := Lib.hid ((Z1.row #[.slice (some ⟨g1, q1, none⟩) 1 c1, .slice a2 0 c2, .slice (some ⟨g3, q3, none⟩) 1 c3]).other (g := w1.heap.size + 1) #[.int .i64 0, .int .i64 0] (by omega))
 have B1 := Lib.hid (Below.of_row (Below.of_row (((Below.refl w1.heap.size w1).alloc (Nat.le_refl _) (.cells #[.slice none 0 0, .slice none 0 0, .slice none 0 0] 25)).alloc (by rw [World.size_alloc]; omega) (.cells #[.int .i64 0, .int .i64 0] 28)) (g := w1.heap.size) (Nat.le_refl _) #[.slice (some ⟨g1, q1, none⟩) 1 c1, .slice a2 0 c2, .slice (some ⟨g3, q3, none⟩) 1 c3]) (g := w1.heap.size + 1) (by omega) #[.int .i64 0, .int .i64 0])
 have zz : Hid (((((w1.alloc (.cells #[.slice none 0 0, .slice none 0 0, .slice none 0 0] 25)).alloc (.cells #[.int .i64 0, .int .i64 0] 28)).setRow w1.heap.size #[.slice (some ⟨g1, q1, none⟩) 1 c1, .slice a2 0 c2, .slice (some ⟨g3, q3, none⟩) 1 c3]).setRow (w1.heap.size + 1) #[.int .i64 0, .int .i64 0]).heap.size = w1.heap.size + 2) := by simp only [Hid, size_setRow, World.size_alloc]
 have HB1 := Lib.hid hb1
 have D := Lib.hid (And.intro d1 (And.intro d2 (And.intro d3 (And.intro d4 (And.intro d5 d6)))))
 have LL := Lib.hid (And.intro l1 (And.intro l2 (And.intro l3 (And.intro l4 l6))))
 clear O1 hb1 d1 d2 d3 d4 d5 d6 l1 l2 l3 l4 l6 Z2
 go_upto_region 2 with (first | (refine st rowPg rfl rfl Z1 rfl rfl (by rfl) (by rfl) (by kernel_rfl) ?_) | (refine st rowFl rfl rfl Z2' rfl rfl (by rfl) (by rfl) (by kernel_rfl) ?_))
 obtain ⟨W2, hW2⟩ : ∃ W, W = ((((w1.alloc (.cells #[.slice none 0 0, .slice none 0 0, .slice none 0 0] 25)).alloc (.cells #[.int .i64 0, .int .i64 0] 28)).setRow w1.heap.size #[.slice (some ⟨g1, q1, none⟩) 1 c1, .slice a2 0 c2, .slice (some ⟨g3, q3, none⟩) 1 c3]).setRow (w1.heap.size + 1) #[.int .i64 0, .int .i64 0]) := ⟨_, rfl⟩
 rw [← hW2] at P1 B1 zz ⊢
 clear hW2 Z1 Z2'
 have T2 : Hid (LTabs W2 ∧ Tabs W2) := ⟨(HT.out.1.below (Nat.le_refl _) HB1.out).below (Nat.le_refl _) B1.out, (HT.out.2.below (Nat.le_refl _) HB1.out).below (Nat.le_refl _) B1.out⟩
 go_wp2_with fail
 go_at_call 7
 refine (HP.out ⟨#[116, 104, 114, 101, 97, 100, 32, 97, 32, 123, 32, 120, 32, 61, 32, 49, 32, 125]⟩ _ T2.out.1 T2.out.2).mono ?_
 rintro e w3 ⟨hb3, v, rfl, hv⟩
 rw [said_two] at hv ⊢
 obtain rfl : v = .agg #[.slice none 0 0, .slice none 0 0, .slice none 0 0] := hv
 have Y1 := (Own.new w3 25 #[.slice none 0 0, .slice none 0 0, .slice none 0 0]).alloc (.cells #[.int .i64 0, .int .i64 0] 28)
 have Y2 := Own.new (w3.alloc (.cells #[.slice none 0 0, .slice none 0 0, .slice none 0 0] 25)) 28 #[.int .i64 0, .int .i64 0]
 rw [World.size_alloc] at Y2
 have Y2' := Y2.other (g := w3.heap.size) #[.slice none 0 0, .slice none 0 0, .slice none 0 0] (by omega)
 have E2 := Y2'.row #[.int .i64 17, .int .i64 2]
 have B3 := Below.of_row (Below.of_row (((Below.refl w3.heap.size w3).alloc (Nat.le_refl _) (.cells #[.slice none 0 0, .slice none 0 0, .slice none 0 0] 25)).alloc (by rw [World.size_alloc]; omega) (.cells #[.int .i64 0, .int .i64 0] 28)) (g := w3.heap.size) (Nat.le_refl _) #[.slice none 0 0, .slice none 0 0, .slice none 0 0]) (g := w3.heap.size + 1) (by omega) #[.int .i64 17, .int .i64 2]
 have s12 : w1.heap.size + 2 ≤ W2.heap.size := by have := zz.out; omega
 have s23 := hb3.size
 have A1 := (P1.out.below hb3).below B3
 have BB := ((B1.out.trans (hb3.mono (by omega))).trans (B3.mono (by omega)))
 have HBB := Lib.hid BB
 have HA1 := Lib.hid A1
 have HE2 := Lib.hid E2
 clear hb3 Y2 A1 B3 BB E2 s12 s23
 go_upto_region 3 with (first | (refine st rowPg rfl rfl Y1 rfl rfl (by rfl) (by rfl) (by kernel_rfl) ?_) | (refine st rowFl rfl rfl Y2' rfl rfl (by rfl) (by rfl) (by kernel_rfl) ?_))
 obtain ⟨W4, hW4⟩ : ∃ W, W = ((((w3.alloc (.cells #[.slice none 0 0, .slice none 0 0, .slice none 0 0] 25)).alloc (.cells #[.int .i64 0, .int .i64 0] 28)).setRow w3.heap.size #[.slice none 0 0, .slice none 0 0, .slice none 0 0]).setRow (w3.heap.size + 1) #[.int .i64 17, .int .i64 2]) := ⟨_, rfl⟩
 rw [← hW4] at HBB HA1 HE2 ⊢
 clear hW4 Y1 Y2'
 obtain ⟨d1, d2, d3, d4, d5, d6⟩ := D.out
 obtain ⟨l1, l2, l3, l4, l6⟩ := LL.out
 have d1 := (HBB.out.cell (p := ⟨g1, q1 + 1, none⟩) l1).trans d1
 have d2 := (HBB.out.cell (p := ⟨g3, q3 + 2, none⟩) l2).trans d2
 have d3 := (HBB.out.cell (p := ⟨g4, q4 + 3, none⟩) l3).trans d3
 have d4 := (HBB.out.cell (p := ⟨g5, q5 + 1, none⟩) l4).trans d4
 have d5 := (HBB.out.cell (p := ⟨g5, q5 + 4, none⟩) l4).trans d5
 have d6 := (HBB.out.cell (p := ⟨g6, q6 + 6 + 1, none⟩) l6).trans d6
 have f0 : W4.cell? ⟨w1.heap.size, 0, none⟩ = some (.slice (some ⟨g1, q1, none⟩) 1 c1) := by rw [cell_of_row _ _ 0 _ _ _ HA1.out]; rfl
 have f2 : W4.cell? ⟨w1.heap.size, 2, none⟩ = some (.slice (some ⟨g3, q3, none⟩) 1 c3) := by rw [cell_of_row _ _ 2 _ _ _ HA1.out]; rfl
 have e0 : W4.cell? ⟨w3.heap.size + 1, 0, none⟩ = some (.int .i64 17) := by rw [cell_of_row _ _ 0 _ _ _ HE2.out]; rfl
 have e1 : W4.cell? ⟨w3.heap.size + 1, 1, none⟩ = some (.int .i64 2) := by rw [cell_of_row _ _ 1 _ _ _ HE2.out]; rfl
 clear l1 l2 l3 l4 l6
 go_wp2
 go_ret
 exact ⟨rfl, HB1.out.trans (HBB.out.mono HB1.out.size)⟩
end Go.Proofs.YtikaflpiephaiaaGreatDoor

/- The proof, part 22: texts that belong together, in one. -/
import Derived.Test.YtkheldgmpgefiaaGreatDoorWAP
import Derived.Test.YtkheldgmpgefiaaGreatDoorWAB
set_option maxRecDepth 100000
set_option maxHeartbeats 20000000
namespace Go.Proofs.YtkheldgmpgefiaaGreatDoor
open Go.RowKit
set_option linter.unusedVariables false
theorem drewN_below (W:World) (j:Nat):Below W.heap.size W (W.drewN j):=below_drewN (Below.refl _ W) j
def TwoIn (B:Nat) (w:World) (T U:TypeId) (p1 p2 r1 r2:Array Value) (u v:Value) (w':World):Prop:=∃ g h,u=.pointer (some ⟨g,0,none⟩)∧v=.pointer (some ⟨h,0,none⟩)∧Own w' g T r1∧Own w' h T r2∧Below B w w'∧Own w' B U p1∧Own w' (B+1) U p2
theorem twoIn_1 {B:Nat} {wr:World} {T U:TypeId} {p1 p2 r1 r2:Array Value} (hB:B+1<wr.heap.size) (h1:Own wr B U p1) (h2:Own wr (B+1) U p2):TwoIn B wr T U p1 p2 r1 r2 (.pointer (some ⟨wr.heap.size,0,none⟩)) (.pointer (some ⟨wr.heap.size+1,0,none⟩)) ((wr.alloc (.cells r1 T)).alloc (.cells r2 T)).drew:=by
 have k2:=Own.new (wr.alloc (.cells r1 T)) T r2
 rw [World.size_alloc] at k2
 exact ⟨_,_,rfl,rfl,((Own.new wr T r1).alloc (.cells r2 T)).drewN 1,k2.drewN 1,below_drewN ((((Below.refl B wr).alloc (by omega) _)).alloc (by rw [World.size_alloc];omega) _) 1,((h1.alloc _).alloc _).drewN 1,((h2.alloc _).alloc _).drewN 1⟩
theorem twoIn_2 {B:Nat} {wr:World} {T U:TypeId} {p1 p2 r1 r2:Array Value} (hB:B+1<wr.heap.size) (h1:Own wr B U p1) (h2:Own wr (B+1) U p2):TwoIn B wr T U p1 p2 r1 r2 (.pointer (some ⟨wr.heap.size+1,0,none⟩)) (.pointer (some ⟨wr.heap.size,0,none⟩)) ((wr.alloc (.cells r2 T)).alloc (.cells r1 T)).drew:=by
 have k2:=Own.new (wr.alloc (.cells r2 T)) T r1
 rw [World.size_alloc] at k2
 exact ⟨_,_,rfl,rfl,k2.drewN 1,((Own.new wr T r2).alloc (.cells r1 T)).drewN 1,below_drewN ((((Below.refl B wr).alloc (by omega) _)).alloc (by rw [World.size_alloc];omega) _) 1,((h1.alloc _).alloc _).drewN 1,((h2.alloc _).alloc _).drewN 1⟩
theorem r_Same (x:Pg) (hok:okP x) {v u:Value} {w:World} (hv:pA w x v) (hu:pA w x u):Calls Tryz.prog 13 #[v,u] w fun e w'=>e=.returned (.bool true)∧Below w.heap.size w w':=by
 obtain ⟨a1,c1,a2,c2,a3,c3,rfl,h1,h2,h3⟩:=hv
 obtain ⟨b1,d1,b2,d2,b3,d3,rfl,k1,k2,k3⟩:=hu
 obtain ⟨l1,l2,l3,hth⟩:=hok
 obtain ⟨sh,lk,th⟩:=x
 simp only at *
 have HD1:Hid (∀ W,Below w.heap.size w W→Calls Tryz.prog 41 #[.slice a1 sh.length c1,.slice b1 sh.length d1] W fun e' w'=>e'=.returned (.bool true)∧Below W.heap.size W w'):=fun W hW =>
  (r_decls l1 (dcsAt_below h1 hW) (dcsAt_below k1 hW)).mono fun e w' ⟨he,j,hj⟩=>⟨he,by rw [hj];exact drewN_below W j⟩
 have HD2:Hid (∀ W,Below w.heap.size w W→Calls Tryz.prog 41 #[.slice a2 lk.length c2,.slice b2 lk.length d2] W fun e' w'=>e'=.returned (.bool true)∧Below W.heap.size W w'):=fun W hW =>
  (r_decls l2 (dcsAt_below h2 hW) (dcsAt_below k2 hW)).mono fun e w' ⟨he,j,hj⟩=>⟨he,by rw [hj];exact drewN_below W j⟩
 have HTH:=Lib.hid hth
 have E1:=Lib.hid h3
 have E2:=Lib.hid k3
 clear hth h1 h2 h3 k1 k2 k3 l1 l2
 generalize sh.length=n1 at *
 generalize lk.length=n2 at *
 obtain ⟨n3,hn⟩:∃ n,n=th.length:=⟨_,rfl⟩
 rw [← hn] at l3 ⊢
 have HN:=Lib.hid hn
 clear hn
 have hnn:((n3:Int) != (n3:Int))=false:=by simp
 have HB:Hid (Below w.heap.size w ((w.alloc (.cells #[.slice a1 n1 c1,.slice a2 n2 c2,.slice a3 n3 c3] 25)).alloc (.cells #[.slice b1 n1 d1,.slice b2 n2 d2,.slice b3 n3 d3] 25))):=(((Below.refl _ w).alloc (Nat.le_refl _) _).alloc (by rw [World.size_alloc];omega) _)
 have O1:=Lib.hid ((Own.new w 25 #[.slice a1 n1 c1,.slice a2 n2 c2,.slice a3 n3 c3]).alloc (.cells #[.slice b1 n1 d1,.slice b2 n2 d2,.slice b3 n3 d3] 25))
 have O2:Hid (Own ((w.alloc (.cells #[.slice a1 n1 c1,.slice a2 n2 c2,.slice a3 n3 c3] 25)).alloc (.cells #[.slice b1 n1 d1,.slice b2 n2 d2,.slice b3 n3 d3] 25)) (w.heap.size+1) 25 #[.slice b1 n1 d1,.slice b2 n2 d2,.slice b3 n3 d3]):=by have:=Own.new (w.alloc (.cells #[.slice a1 n1 c1,.slice a2 n2 c2,.slice a3 n3 c3] 25)) 25 #[.slice b1 n1 d1,.slice b2 n2 d2,.slice b3 n3 d3];rw [World.size_alloc] at this;exact this
 go_enter Tryz.func13,Tryz.ntmps13
 go_wp2_with fail
 go_at_call 41
 refine (HD1.out _ HB.out).mono ?_
 rintro e w3 ⟨rfl,hb3⟩
 replace O1:=Lib.hid (O1.out.below hb3)
 replace O2:=Lib.hid (O2.out.below hb3)
 replace HB:=Lib.hid (HB.out.trans (hb3.mono HB.out.size))
 clear hb3
 have x1:w3.cell? ⟨w.heap.size,1,none⟩=some (.slice a2 n2 c2):=by rw [cell_of_row _ _ 1 _ _ _ O1.out];rfl
 have y1:w3.cell? ⟨w.heap.size+1,1,none⟩=some (.slice b2 n2 d2):=by rw [cell_of_row _ _ 1 _ _ _ O2.out];rfl
 go_wp2_with fail
 go_at_call 41
 refine (HD2.out _ HB.out).mono ?_
 rintro e w4 ⟨rfl,hb3⟩
 replace O1:=Lib.hid (O1.out.below hb3)
 replace O2:=Lib.hid (O2.out.below hb3)
 replace HB:=Lib.hid (HB.out.trans (hb3.mono HB.out.size))
 clear hb3
 have x2:w4.cell? ⟨w.heap.size,2,none⟩=some (.slice a3 n3 c3):=by rw [cell_of_row _ _ 2 _ _ _ O1.out];rfl
 have y2:w4.cell? ⟨w.heap.size+1,2,none⟩=some (.slice b3 n3 d3):=by rw [cell_of_row _ _ 2 _ _ _ O2.out];rfl
 go_wp2_with fail
 clear x1 y1 x2 y2
 go_loopg [34] (n3+1) (fun m' u W=>∃ i:Nat,u=.int .i64 (i:Int)∧i≤n3∧m'=n3-i+1∧Below w.heap.size w W∧Own W w.heap.size 25 #[.slice a1 n1 c1,.slice a2 n2 c2,.slice a3 n3 c3]∧Own W (w.heap.size+1) 25 #[.slice b1 n1 d1,.slice b2 n2 d2,.slice b3 n3 d3])
 case atStart=>exact ⟨0,rfl,Nat.zero_le _,by omega,HB.out,O1.out,O2.out⟩
 case round =>
  clear HB O1 O2
  obtain ⟨i,rfl,hi,hm,hb0,ho1,ho2⟩:=hrel
  have HM:=Lib.hid hm
  have HB:=Lib.hid hb0
  have O1:=Lib.hid ho1
  have O2:=Lib.hid ho2
  clear hm hb0 ho1 ho2
  by_cases hin:i<n3
  · have il : i < th.length := by have := HN.out; omega
    have g1:th[i]? = some th[i]:=List.getElem?_eq_getElem il
    have hmem:th[i]∈th:=List.getElem_mem il
    generalize th[i]=x at g1 hmem
    obtain ⟨o1,o2,o3⟩:=HTH.out x hmem
    rcases E1.out with e | ⟨g,q,rfl,_,e1⟩
    · cases th with
      | nil=>simp at il
      | cons=>cases e
    rcases E2.out with e | ⟨g',q',rfl,_,e2⟩
    · cases th with
      | nil=>simp at il
      | cons=>cases e
    obtain ⟨a0,⟨ta,tc,a1',w1⟩,⟨sa,sc,a2',w2⟩,a3'⟩:=thsIn_get i x e1 g1
    obtain ⟨b0,⟨ua,uc,b1',z1⟩,⟨va,vc,b2',z2⟩,b3'⟩:=thsIn_get i x e2 g1
    obtain ⟨nm,lo,bo,ps⟩:=x
    simp only at *
    have lg:=lt_of_at a0
    have lg':=lt_of_at b0
    simp only at lg lg'
    have hin':(i:Int)<(n3:Int):=by omega
    have HC1:Hid (∀ W,Below w.heap.size w W→Calls Tryz.prog 41 #[.slice ta lo.length tc,.slice ua lo.length uc] W fun e' w'=>e'=.returned (.bool true)∧Below W.heap.size W w'):=fun W hW =>
     (r_decls o1 (dcsAt_below w1 hW) (dcsAt_below z1 hW)).mono fun e w' ⟨he,j,hj⟩=>⟨he,by rw [hj];exact drewN_below W j⟩
    have HC2:Hid (∀ W,Below w.heap.size w W→Calls Tryz.prog 42 #[.slice sa bo.length sc,.slice va bo.length vc] W fun e' w'=>e'=.returned (.bool true)∧Below W.heap.size W w'):=fun W hW =>
     r_smstmts bo o3 o2 sa va sc vc W (stsAt_below w2 hW) (stsAt_below z2 hW)
    have BX:=HB.out
    have a0':wr.cell? ⟨g,q+i*4,none⟩=some (.string nm):=(BX.cell (p:=⟨g,q+i*4,none⟩) lg).trans a0
    have a1':wr.cell? ⟨g,q+i*4+1,none⟩=some (.slice ta lo.length tc):=(BX.cell (p:=⟨g,q+i*4+1,none⟩) lg).trans a1'
    have a2':wr.cell? ⟨g,q+i*4+2,none⟩=some (.slice sa bo.length sc):=(BX.cell (p:=⟨g,q+i*4+2,none⟩) lg).trans a2'
    have a3':wr.cell? ⟨g,q+i*4+3,none⟩=some (.int .i64 ps):=(BX.cell (p:=⟨g,q+i*4+3,none⟩) lg).trans a3'
    have b0':wr.cell? ⟨g',q'+i*4,none⟩=some (.string nm):=(BX.cell (p:=⟨g',q'+i*4,none⟩) lg').trans b0
    have b1':wr.cell? ⟨g',q'+i*4+1,none⟩=some (.slice ua lo.length uc):=(BX.cell (p:=⟨g',q'+i*4+1,none⟩) lg').trans b1'
    have b2':wr.cell? ⟨g',q'+i*4+2,none⟩=some (.slice va bo.length vc):=(BX.cell (p:=⟨g',q'+i*4+2,none⟩) lg').trans b2'
    have b3':wr.cell? ⟨g',q'+i*4+3,none⟩=some (.int .i64 ps):=(BX.cell (p:=⟨g',q'+i*4+3,none⟩) lg').trans b3'
    have x2:wr.cell? ⟨w.heap.size,2,none⟩=some (.slice (some ⟨g,q,none⟩) n3 c3):=by rw [cell_of_row _ _ 2 _ _ _ O1.out];rfl
    have y2:wr.cell? ⟨w.heap.size+1,2,none⟩=some (.slice (some ⟨g',q',none⟩) n3 d3):=by rw [cell_of_row _ _ 2 _ _ _ O2.out];rfl
    have q1:(nm.toList != nm.toList)=false:=by simp
    have q1':(nm.toList==nm.toList)=true:=by simp
    have q3:(ps != ps)=false:=by simp
    clear g1 e1 e2 il w1 w2 z1 z2 o1 o2 o3 hmem BX a0 b0
    generalize lo.length=m1 at *
    generalize bo.length=m2 at *
    go_upto_region 6 with fail
    go_cut [6,7] (fun u v wx=>TwoIn w.heap.size wr 60 25 #[.slice a1 n1 c1,.slice a2 n2 c2,.slice (some ⟨g,q,none⟩) n3 c3] #[.slice b1 n1 d1,.slice b2 n2 d2,.slice (some ⟨g',q',none⟩) n3 d3] #[.string nm,.slice ta m1 tc,.slice sa m2 sc,.int .i64 ps] #[.string nm,.slice ua m1 uc,.slice va m2 vc,.int .i64 ps] u v wx)
    case first =>
     go_region_held3 (fun W=>W.cell? ⟨g,q+i*4,none⟩=some (.string nm)∧W.cell? ⟨g,q+i*4+1,none⟩=some (.slice ta m1 tc)∧W.cell? ⟨g,q+i*4+2,none⟩=some (.slice sa m2 sc)∧W.cell? ⟨g,q+i*4+3,none⟩=some (.int .i64 ps)∧W.cell? ⟨g',q'+i*4,none⟩=some (.string nm)∧W.cell? ⟨g',q'+i*4+1,none⟩=some (.slice ua m1 uc)∧W.cell? ⟨g',q'+i*4+2,none⟩=some (.slice va m2 vc)∧W.cell? ⟨g',q'+i*4+3,none⟩=some (.int .i64 ps)∧W.cell? ⟨w.heap.size,2,none⟩=some (.slice (some ⟨g,q,none⟩) n3 c3)∧W.cell? ⟨w.heap.size+1,2,none⟩=some (.slice (some ⟨g',q',none⟩) n3 d3)) (go_keep) (fail)
     · go_wp2_with fail
       go_meet
       exact twoIn_1 O2.out.lt O1.out O2.out
     · go_wp2_with fail
       go_meet
       exact twoIn_2 O2.out.lt O1.out O2.out
    case rest =>
     obtain ⟨gu,gv,rfl,rfl,hO1,hO2,hb,hp1,hp2⟩:=hcut
     have P1:=Lib.hid hO1
     have P2:=Lib.hid hO2
     replace HB:=Lib.hid (HB.out.trans hb)
     have O1:=Lib.hid hp1
     have O2:=Lib.hid hp2
     clear hO1 hO2 hb hp1 hp2 x2 y2
     have s0:wc.cell? ⟨gu,0,none⟩=some (.string nm):=by rw [cell_of_row _ _ 0 _ _ _ P1.out];rfl
     have r0:wc.cell? ⟨gv,0,none⟩=some (.string nm):=by rw [cell_of_row _ _ 0 _ _ _ P2.out];rfl
     have s1:wc.cell? ⟨gu,1,none⟩=some (.slice ta m1 tc):=by rw [cell_of_row _ _ 1 _ _ _ P1.out];rfl
     have r1:wc.cell? ⟨gv,1,none⟩=some (.slice ua m1 uc):=by rw [cell_of_row _ _ 1 _ _ _ P2.out];rfl
     go_wp2_with fail
     go_at_call 41
     refine (HC1.out _ HB.out).mono ?_
     rintro e w3 ⟨rfl,hb3⟩
     replace P1:=Lib.hid (P1.out.below hb3)
     replace P2:=Lib.hid (P2.out.below hb3)
     replace O1:=Lib.hid (O1.out.below hb3)
     replace O2:=Lib.hid (O2.out.below hb3)
     replace HB:=Lib.hid (HB.out.trans (hb3.mono HB.out.size))
     clear hb3
     have s2:w3.cell? ⟨gu,2,none⟩=some (.slice sa m2 sc):=by rw [cell_of_row _ _ 2 _ _ _ P1.out];rfl
     have r2:w3.cell? ⟨gv,2,none⟩=some (.slice va m2 vc):=by rw [cell_of_row _ _ 2 _ _ _ P2.out];rfl
     go_wp2_with fail
     go_at_call 42
     refine (HC2.out _ HB.out).mono ?_
     rintro e w4 ⟨rfl,hb3⟩
     replace P1:=Lib.hid (P1.out.below hb3)
     replace P2:=Lib.hid (P2.out.below hb3)
     replace O1:=Lib.hid (O1.out.below hb3)
     replace O2:=Lib.hid (O2.out.below hb3)
     replace HB:=Lib.hid (HB.out.trans (hb3.mono HB.out.size))
     clear hb3
     go_wp2_with fail
     go_roundg (n3-(i+1)+1)
     case measure=>have:=HM.out;omega
     case rel=>exact ⟨i+1,rfl,by omega,by omega,HB.out,O1.out,O2.out⟩
  · have : i = n3 := by omega
    subst this
    go_wp2_with fail
    go_ret
    exact ⟨rfl,HB.out⟩
theorem r_Exactly (x:Pg) (hok:okP x) {v u:Value} {w:World} (hv:pA w x v) (hu:pA w x u):Calls Tryz.prog 11 #[v,u] w fun e w'=>e=.returned (.bool true)∧Below w.heap.size w w':=by
 obtain ⟨a1,c1,a2,c2,a3,c3,rfl,h1,h2,h3⟩:=hv
 obtain ⟨b1,d1,b2,d2,b3,d3,rfl,k1,k2,k3⟩:=hu
 obtain ⟨l1,l2,l3,hth⟩:=hok
 have HSM:Hid (∀ W,Below w.heap.size w W→Calls Tryz.prog 13 #[.agg #[.slice a1 x.shared.length c1,.slice a2 x.locks.length c2,.slice a3 x.threads.length c3],.agg #[.slice b1 x.shared.length d1,.slice b2 x.locks.length d2,.slice b3 x.threads.length d3]] W fun e' w'=>e'=.returned (.bool true)∧Below W.heap.size W w'):=fun W hW =>
  r_Same x ⟨l1,l2,l3,hth⟩ ⟨a1,c1,a2,c2,a3,c3,rfl,dcsAt_below h1 hW,dcsAt_below h2 hW,thsAt_below h3 hW⟩ ⟨b1,d1,b2,d2,b3,d3,rfl,dcsAt_below k1 hW,dcsAt_below k2 hW,thsAt_below k3 hW⟩
 obtain ⟨sh,lk,th⟩:=x
 simp only at *
 have HD1:Hid (∀ W,Below w.heap.size w W→Calls Tryz.prog 34 #[.slice a1 sh.length c1,.slice b1 sh.length d1] W fun e' w'=>e'=.returned (.bool true)∧Below W.heap.size W w'):=fun W hW =>
  (r_declared l1 (dcsAt_below h1 hW) (dcsAt_below k1 hW)).mono fun e w' ⟨he,j,hj⟩=>⟨he,by rw [hj];exact drewN_below W j⟩
 have HD2:Hid (∀ W,Below w.heap.size w W→Calls Tryz.prog 34 #[.slice a2 lk.length c2,.slice b2 lk.length d2] W fun e' w'=>e'=.returned (.bool true)∧Below W.heap.size W w'):=fun W hW =>
  (r_declared l2 (dcsAt_below h2 hW) (dcsAt_below k2 hW)).mono fun e w' ⟨he,j,hj⟩=>⟨he,by rw [hj];exact drewN_below W j⟩
 have HTH:=Lib.hid hth
 have E1:=Lib.hid h3
 have E2:=Lib.hid k3
 clear hth h1 h2 h3 k1 k2 k3 l1 l2
 generalize sh.length=n1 at *
 generalize lk.length=n2 at *
 obtain ⟨n3,hn⟩:∃ n,n=th.length:=⟨_,rfl⟩
 rw [← hn] at l3 HSM ⊢
 have HN:=Lib.hid hn
 clear hn
 have hnn:((n3:Int) != (n3:Int))=false:=by simp
 have HB:Hid (Below w.heap.size w ((w.alloc (.cells #[.slice a1 n1 c1,.slice a2 n2 c2,.slice a3 n3 c3] 25)).alloc (.cells #[.slice b1 n1 d1,.slice b2 n2 d2,.slice b3 n3 d3] 25))):=(((Below.refl _ w).alloc (Nat.le_refl _) _).alloc (by rw [World.size_alloc];omega) _)
 have O1:=Lib.hid ((Own.new w 25 #[.slice a1 n1 c1,.slice a2 n2 c2,.slice a3 n3 c3]).alloc (.cells #[.slice b1 n1 d1,.slice b2 n2 d2,.slice b3 n3 d3] 25))
 have O2:Hid (Own ((w.alloc (.cells #[.slice a1 n1 c1,.slice a2 n2 c2,.slice a3 n3 c3] 25)).alloc (.cells #[.slice b1 n1 d1,.slice b2 n2 d2,.slice b3 n3 d3] 25)) (w.heap.size+1) 25 #[.slice b1 n1 d1,.slice b2 n2 d2,.slice b3 n3 d3]):=by have:=Own.new (w.alloc (.cells #[.slice a1 n1 c1,.slice a2 n2 c2,.slice a3 n3 c3] 25)) 25 #[.slice b1 n1 d1,.slice b2 n2 d2,.slice b3 n3 d3];rw [World.size_alloc] at this;exact this
 go_enter Tryz.func11,Tryz.ntmps11
 have LD1:=O1.out
 have LD2:=O2.out
 go_wp2_with (first | (refine ld rowPg rfl rfl rfl LD1 rfl ?_) | (refine ld rowPg rfl rfl rfl LD2 rfl ?_))
 go_at_call 13
 refine (HSM.out _ HB.out).mono ?_
 rintro e w3 ⟨rfl,hb3⟩
 clear LD1 LD2
 replace O1:=Lib.hid (O1.out.below hb3)
 replace O2:=Lib.hid (O2.out.below hb3)
 replace HB:=Lib.hid (HB.out.trans (hb3.mono HB.out.size))
 clear hb3
 have x0:w3.cell? ⟨w.heap.size,0,none⟩=some (.slice a1 n1 c1):=by rw [cell_of_row _ _ 0 _ _ _ O1.out];rfl
 have y0:w3.cell? ⟨w.heap.size+1,0,none⟩=some (.slice b1 n1 d1):=by rw [cell_of_row _ _ 0 _ _ _ O2.out];rfl
 go_wp2_with fail
 go_at_call 34
 refine (HD1.out _ HB.out).mono ?_
 rintro e w4 ⟨rfl,hb3⟩
 replace O1:=Lib.hid (O1.out.below hb3)
 replace O2:=Lib.hid (O2.out.below hb3)
 replace HB:=Lib.hid (HB.out.trans (hb3.mono HB.out.size))
 clear hb3
 have x1:w4.cell? ⟨w.heap.size,1,none⟩=some (.slice a2 n2 c2):=by rw [cell_of_row _ _ 1 _ _ _ O1.out];rfl
 have y1:w4.cell? ⟨w.heap.size+1,1,none⟩=some (.slice b2 n2 d2):=by rw [cell_of_row _ _ 1 _ _ _ O2.out];rfl
 go_wp2_with fail
 go_at_call 34
 refine (HD2.out _ HB.out).mono ?_
 rintro e w5 ⟨rfl,hb3⟩
 replace O1:=Lib.hid (O1.out.below hb3)
 replace O2:=Lib.hid (O2.out.below hb3)
 replace HB:=Lib.hid (HB.out.trans (hb3.mono HB.out.size))
 clear hb3
 have x2:w5.cell? ⟨w.heap.size,2,none⟩=some (.slice a3 n3 c3):=by rw [cell_of_row _ _ 2 _ _ _ O1.out];rfl
 have y2:w5.cell? ⟨w.heap.size+1,2,none⟩=some (.slice b3 n3 d3):=by rw [cell_of_row _ _ 2 _ _ _ O2.out];rfl
 go_wp2_with fail
 clear x0 y0 x1 y1 x2 y2
 go_loopg [31] (n3+1) (fun m' u W=>∃ i:Nat,u=.int .i64 (i:Int)∧i≤n3∧m'=n3-i+1∧Below w.heap.size w W∧Own W w.heap.size 25 #[.slice a1 n1 c1,.slice a2 n2 c2,.slice a3 n3 c3]∧Own W (w.heap.size+1) 25 #[.slice b1 n1 d1,.slice b2 n2 d2,.slice b3 n3 d3])
 case atStart=>exact ⟨0,rfl,Nat.zero_le _,by omega,HB.out,O1.out,O2.out⟩
 case round =>
  clear HB O1 O2
  obtain ⟨i,rfl,hi,hm,hb0,ho1,ho2⟩:=hrel
  have HM:=Lib.hid hm
  have HB:=Lib.hid hb0
  have O1:=Lib.hid ho1
  have O2:=Lib.hid ho2
  clear hm hb0 ho1 ho2
  by_cases hin:i<n3
  · have il : i < th.length := by have := HN.out; omega
    have g1:th[i]? = some th[i]:=List.getElem?_eq_getElem il
    have hmem:th[i]∈th:=List.getElem_mem il
    generalize th[i]=x at g1 hmem
    obtain ⟨o1,o2,o3⟩:=HTH.out x hmem
    rcases E1.out with e | ⟨g,q,rfl,_,e1⟩
    · cases th with
      | nil=>simp at il
      | cons=>cases e
    rcases E2.out with e | ⟨g',q',rfl,_,e2⟩
    · cases th with
      | nil=>simp at il
      | cons=>cases e
    obtain ⟨a0,⟨ta,tc,a1',w1⟩,⟨sa,sc,a2',w2⟩,a3'⟩:=thsIn_get i x e1 g1
    obtain ⟨b0,⟨ua,uc,b1',z1⟩,⟨va,vc,b2',z2⟩,b3'⟩:=thsIn_get i x e2 g1
    obtain ⟨nm,lo,bo,ps⟩:=x
    simp only at *
    have lg:=lt_of_at a0
    have lg':=lt_of_at b0
    simp only at lg lg'
    have hin':(i:Int)<(n3:Int):=by omega
    have HC1:Hid (∀ W,Below w.heap.size w W→Calls Tryz.prog 34 #[.slice ta lo.length tc,.slice ua lo.length uc] W fun e' w'=>e'=.returned (.bool true)∧Below W.heap.size W w'):=fun W hW =>
     (r_declared o1 (dcsAt_below w1 hW) (dcsAt_below z1 hW)).mono fun e w' ⟨he,j,hj⟩=>⟨he,by rw [hj];exact drewN_below W j⟩
    have HC2:Hid (∀ W,Below w.heap.size w W→Calls Tryz.prog 35 #[.slice sa bo.length sc,.slice va bo.length vc] W fun e' w'=>e'=.returned (.bool true)∧Below W.heap.size W w'):=fun W hW =>
     (r_stplaces bo o3 o2 sa va sc vc W (stsAt_below w2 hW) (stsAt_below z2 hW)).mono fun e w' ⟨he,j,hj⟩=>⟨he,by rw [hj];exact drewN_below W j⟩
    have BX:=HB.out
    have a0':wr.cell? ⟨g,q+i*4,none⟩=some (.string nm):=(BX.cell (p:=⟨g,q+i*4,none⟩) lg).trans a0
    have a1':wr.cell? ⟨g,q+i*4+1,none⟩=some (.slice ta lo.length tc):=(BX.cell (p:=⟨g,q+i*4+1,none⟩) lg).trans a1'
    have a2':wr.cell? ⟨g,q+i*4+2,none⟩=some (.slice sa bo.length sc):=(BX.cell (p:=⟨g,q+i*4+2,none⟩) lg).trans a2'
    have a3':wr.cell? ⟨g,q+i*4+3,none⟩=some (.int .i64 ps):=(BX.cell (p:=⟨g,q+i*4+3,none⟩) lg).trans a3'
    have b0':wr.cell? ⟨g',q'+i*4,none⟩=some (.string nm):=(BX.cell (p:=⟨g',q'+i*4,none⟩) lg').trans b0
    have b1':wr.cell? ⟨g',q'+i*4+1,none⟩=some (.slice ua lo.length uc):=(BX.cell (p:=⟨g',q'+i*4+1,none⟩) lg').trans b1'
    have b2':wr.cell? ⟨g',q'+i*4+2,none⟩=some (.slice va bo.length vc):=(BX.cell (p:=⟨g',q'+i*4+2,none⟩) lg').trans b2'
    have b3':wr.cell? ⟨g',q'+i*4+3,none⟩=some (.int .i64 ps):=(BX.cell (p:=⟨g',q'+i*4+3,none⟩) lg').trans b3'
    have x2:wr.cell? ⟨w.heap.size,2,none⟩=some (.slice (some ⟨g,q,none⟩) n3 c3):=by rw [cell_of_row _ _ 2 _ _ _ O1.out];rfl
    have y2:wr.cell? ⟨w.heap.size+1,2,none⟩=some (.slice (some ⟨g',q',none⟩) n3 d3):=by rw [cell_of_row _ _ 2 _ _ _ O2.out];rfl
    have q1:(nm.toList != nm.toList)=false:=by simp
    have q1':(nm.toList==nm.toList)=true:=by simp
    have q3:(ps != ps)=false:=by simp
    clear g1 e1 e2 il w1 w2 z1 z2 o1 o2 o3 hmem BX a0 b0
    generalize lo.length=m1 at *
    generalize bo.length=m2 at *
    go_upto_region 6 with fail
    go_cut [6,7] (fun u v wx=>TwoIn w.heap.size wr 60 25 #[.slice a1 n1 c1,.slice a2 n2 c2,.slice (some ⟨g,q,none⟩) n3 c3] #[.slice b1 n1 d1,.slice b2 n2 d2,.slice (some ⟨g',q',none⟩) n3 d3] #[.string nm,.slice ta m1 tc,.slice sa m2 sc,.int .i64 ps] #[.string nm,.slice ua m1 uc,.slice va m2 vc,.int .i64 ps] u v wx)
    case first =>
     go_region_held3 (fun W=>W.cell? ⟨g,q+i*4,none⟩=some (.string nm)∧W.cell? ⟨g,q+i*4+1,none⟩=some (.slice ta m1 tc)∧W.cell? ⟨g,q+i*4+2,none⟩=some (.slice sa m2 sc)∧W.cell? ⟨g,q+i*4+3,none⟩=some (.int .i64 ps)∧W.cell? ⟨g',q'+i*4,none⟩=some (.string nm)∧W.cell? ⟨g',q'+i*4+1,none⟩=some (.slice ua m1 uc)∧W.cell? ⟨g',q'+i*4+2,none⟩=some (.slice va m2 vc)∧W.cell? ⟨g',q'+i*4+3,none⟩=some (.int .i64 ps)∧W.cell? ⟨w.heap.size,2,none⟩=some (.slice (some ⟨g,q,none⟩) n3 c3)∧W.cell? ⟨w.heap.size+1,2,none⟩=some (.slice (some ⟨g',q',none⟩) n3 d3)) (go_keep) (fail)
     · go_wp2_with fail
       go_meet
       exact twoIn_1 O2.out.lt O1.out O2.out
     · go_wp2_with fail
       go_meet
       exact twoIn_2 O2.out.lt O1.out O2.out
    case rest =>
     obtain ⟨gu,gv,rfl,rfl,hO1,hO2,hb,hp1,hp2⟩:=hcut
     have P1:=Lib.hid hO1
     have P2:=Lib.hid hO2
     replace HB:=Lib.hid (HB.out.trans hb)
     have O1:=Lib.hid hp1
     have O2:=Lib.hid hp2
     clear hO1 hO2 hb hp1 hp2 x2 y2
     have s3:wc.cell? ⟨gu,3,none⟩=some (.int .i64 ps):=by rw [cell_of_row _ _ 3 _ _ _ P1.out];rfl
     have r3:wc.cell? ⟨gv,3,none⟩=some (.int .i64 ps):=by rw [cell_of_row _ _ 3 _ _ _ P2.out];rfl
     have s1:wc.cell? ⟨gu,1,none⟩=some (.slice ta m1 tc):=by rw [cell_of_row _ _ 1 _ _ _ P1.out];rfl
     have r1:wc.cell? ⟨gv,1,none⟩=some (.slice ua m1 uc):=by rw [cell_of_row _ _ 1 _ _ _ P2.out];rfl
     go_wp2_with fail
     go_at_call 34
     refine (HC1.out _ HB.out).mono ?_
     rintro e w3 ⟨rfl,hb3⟩
     replace P1:=Lib.hid (P1.out.below hb3)
     replace P2:=Lib.hid (P2.out.below hb3)
     replace O1:=Lib.hid (O1.out.below hb3)
     replace O2:=Lib.hid (O2.out.below hb3)
     replace HB:=Lib.hid (HB.out.trans (hb3.mono HB.out.size))
     clear hb3
     have s2:w3.cell? ⟨gu,2,none⟩=some (.slice sa m2 sc):=by rw [cell_of_row _ _ 2 _ _ _ P1.out];rfl
     have r2:w3.cell? ⟨gv,2,none⟩=some (.slice va m2 vc):=by rw [cell_of_row _ _ 2 _ _ _ P2.out];rfl
     go_wp2_with fail
     go_at_call 35
     refine (HC2.out _ HB.out).mono ?_
     rintro e w4 ⟨rfl,hb3⟩
     replace P1:=Lib.hid (P1.out.below hb3)
     replace P2:=Lib.hid (P2.out.below hb3)
     replace O1:=Lib.hid (O1.out.below hb3)
     replace O2:=Lib.hid (O2.out.below hb3)
     replace HB:=Lib.hid (HB.out.trans (hb3.mono HB.out.size))
     clear hb3
     go_wp2_with fail
     go_roundg (n3-(i+1)+1)
     case measure=>have:=HM.out;omega
     case rel=>exact ⟨i+1,rfl,by omega,by omega,HB.out,O1.out,O2.out⟩
  · have : i = n3 := by omega
    subst this
    go_wp2_with fail
    go_ret
    exact ⟨rfl,HB.out⟩
open Go.RowKit
set_option linter.unusedVariables false
structure Vz where
 pl:Addr
 nm:List Addr
def kAd (w:World) (g o:Nat):Nat × Nat:=match w.cell? ⟨g,o,none⟩ with
 | some (.slice (some ⟨h,q,_⟩) _ _)=>(h,q)
 | _=>(0,0)
theorem kAd_of {w:World} {g o h q n c:Nat} (hc:w.cell? ⟨g,o,none⟩=some (.slice (some ⟨h,q,none⟩) n c)):kAd w g o=(h,q):=by simp [kAd,hc]
mutual
def vE (w:World):Ex→Nat→Nat→List Vz
 | .mk k _ _ _ ks _,g,o=>⟨⟨g,o+5,none⟩,if k=2 then [⟨g,o+3,none⟩] else []⟩::vEs w ks (kAd w g (o+4)).1 (kAd w g (o+4)).2
def vEs (w:World):List Ex→Nat→Nat→List Vz
 | [],_,_=>[]
 | e::r,g,o=>vE w e g o++vEs w r g (o+6)
end
mutual
def vS (w:World):St→Nat→Nat→List Vz
 | .mk _ _ _ e b l _,g,o=>⟨⟨g,o+6,none⟩,[⟨g,o+1,none⟩,⟨g,o+2,none⟩]⟩::(vEs w e (kAd w g (o+3)).1 (kAd w g (o+3)).2++(vSs w b (kAd w g (o+4)).1 (kAd w g (o+4)).2++vSs w l (kAd w g (o+5)).1 (kAd w g (o+5)).2))
def vSs (w:World):List St→Nat→Nat→List Vz
 | [],_,_=>[]
 | e::r,g,o=>vS w e g o++vSs w r g (o+7)
end
def vD (w:World):Dc→Nat→Nat→List Vz
 | _,g,o=>[⟨⟨g,o+2,none⟩,[⟨g,o,none⟩]⟩]
def vDs (w:World):List Dc→Nat→Nat→List Vz
 | [],_,_=>[]
 | e::r,g,o=>vD w e g o++vDs w r g (o+3)
def vT (w:World):Th→Nat→Nat→List Vz
 | t,g,o=>⟨⟨g,o+3,none⟩,[⟨g,o,none⟩]⟩::(vDs w t.locals (kAd w g (o+1)).1 (kAd w g (o+1)).2++vSs w t.body (kAd w g (o+2)).1 (kAd w g (o+2)).2)
def vTs (w:World):List Th→Nat→Nat→List Vz
 | [],_,_=>[]
 | e::r,g,o=>vT w e g o++vTs w r g (o+4)
def vEsA (w:World) (l:List Ex) (a:Option Addr):List Vz:=match a with
 | some ⟨g,q,_⟩=>vEs w l g q
 | none=>[]
theorem vEsA_nil (w:World) (a:Option Addr):vEsA w [] a=[]:=by cases a <;> rfl
theorem vEs_app (w:World):∀ (a b:List Ex) (g o:Nat),vEs w (a++b) g o=vEs w a g o++vEs w b g (o+a.length*6)
 | [],b,g,o=>by simp [vEs]
 | x :: r, b, g, o => by
   rw [List.cons_append,vEs,vEs,vEs_app w r b g (o+6),List.append_assoc,List.length_cons,show o+6+r.length*6=o+(r.length+1)*6 by omega]
theorem vEs_take (w:World) (l:List Ex) (i g o:Nat) (x:Ex) (h:l[i]? = some x):vEs w (l.take (i+1)) g o=vEs w (l.take i) g o++vE w x g (o+i*6):=by
 have hl:=(List.getElem?_eq_some_iff.1 h).1
 have hx:=(List.getElem?_eq_some_iff.1 h).2
 rw [List.take_succ_eq_append_getElem hl,vEs_app,List.length_take,Nat.min_eq_left (by omega),hx]
 simp [vEs]
theorem kE_of {R:Nat→Prop} {w:World} {l:List Ex} {g o n c:Nat} {a:Option Addr} (hc:w.cell? ⟨g,o,none⟩=some (.slice a n c)) (h:exsAt R w l a):vEs w l (kAd w g o).1 (kAd w g o).2=vEsA w l a:=by
 rcases h with h | ⟨g',q,rfl,_⟩
 · obtain rfl : l = [] := by simpa using h
   rw [vEsA_nil];rfl
 · rw [kAd_of hc];rfl
def vSsA (w:World) (l:List St) (a:Option Addr):List Vz:=match a with
 | some ⟨g,q,_⟩=>vSs w l g q
 | none=>[]
theorem vSsA_nil (w:World) (a:Option Addr):vSsA w [] a=[]:=by cases a <;> rfl
theorem vSs_app (w:World):∀ (a b:List St) (g o:Nat),vSs w (a++b) g o=vSs w a g o++vSs w b g (o+a.length*7)
 | [],b,g,o=>by simp [vSs]
 | x :: r, b, g, o => by
   rw [List.cons_append,vSs,vSs,vSs_app w r b g (o+7),List.append_assoc,List.length_cons,show o+7+r.length*7=o+(r.length+1)*7 by omega]
theorem vSs_take (w:World) (l:List St) (i g o:Nat) (x:St) (h:l[i]? = some x):vSs w (l.take (i+1)) g o=vSs w (l.take i) g o++vS w x g (o+i*7):=by
 have hl:=(List.getElem?_eq_some_iff.1 h).1
 have hx:=(List.getElem?_eq_some_iff.1 h).2
 rw [List.take_succ_eq_append_getElem hl,vSs_app,List.length_take,Nat.min_eq_left (by omega),hx]
 simp [vSs]
theorem kS_of {R:Nat→Prop} {w:World} {l:List St} {g o n c:Nat} {a:Option Addr} (hc:w.cell? ⟨g,o,none⟩=some (.slice a n c)) (h:stsAt R w l a):vSs w l (kAd w g o).1 (kAd w g o).2=vSsA w l a:=by
 rcases h with h | ⟨g',q,rfl,_⟩
 · obtain rfl : l = [] := by simpa using h
   rw [vSsA_nil];rfl
 · rw [kAd_of hc];rfl
def vDsA (w:World) (l:List Dc) (a:Option Addr):List Vz:=match a with
 | some ⟨g,q,_⟩=>vDs w l g q
 | none=>[]
theorem vDsA_nil (w:World) (a:Option Addr):vDsA w [] a=[]:=by cases a <;> rfl
theorem vDs_app (w:World):∀ (a b:List Dc) (g o:Nat),vDs w (a++b) g o=vDs w a g o++vDs w b g (o+a.length*3)
 | [],b,g,o=>by simp [vDs]
 | x :: r, b, g, o => by
   rw [List.cons_append,vDs,vDs,vDs_app w r b g (o+3),List.append_assoc,List.length_cons,show o+3+r.length*3=o+(r.length+1)*3 by omega]
theorem vDs_take (w:World) (l:List Dc) (i g o:Nat) (x:Dc) (h:l[i]? = some x):vDs w (l.take (i+1)) g o=vDs w (l.take i) g o++vD w x g (o+i*3):=by
 have hl:=(List.getElem?_eq_some_iff.1 h).1
 have hx:=(List.getElem?_eq_some_iff.1 h).2
 rw [List.take_succ_eq_append_getElem hl,vDs_app,List.length_take,Nat.min_eq_left (by omega),hx]
 simp [vDs]
theorem kD_of {R:Nat→Prop} {w:World} {l:List Dc} {g o n c:Nat} {a:Option Addr} (hc:w.cell? ⟨g,o,none⟩=some (.slice a n c)) (h:dcsAt R w l a):vDs w l (kAd w g o).1 (kAd w g o).2=vDsA w l a:=by
 rcases h with h | ⟨g',q,rfl,_⟩
 · obtain rfl : l = [] := by simpa using h
   rw [vDsA_nil];rfl
 · rw [kAd_of hc];rfl
def vTsA (w:World) (l:List Th) (a:Option Addr):List Vz:=match a with
 | some ⟨g,q,_⟩=>vTs w l g q
 | none=>[]
theorem vTsA_nil (w:World) (a:Option Addr):vTsA w [] a=[]:=by cases a <;> rfl
theorem vTs_app (w:World):∀ (a b:List Th) (g o:Nat),vTs w (a++b) g o=vTs w a g o++vTs w b g (o+a.length*4)
 | [],b,g,o=>by simp [vTs]
 | x :: r, b, g, o => by
   rw [List.cons_append,vTs,vTs,vTs_app w r b g (o+4),List.append_assoc,List.length_cons,show o+4+r.length*4=o+(r.length+1)*4 by omega]
theorem vTs_take (w:World) (l:List Th) (i g o:Nat) (x:Th) (h:l[i]? = some x):vTs w (l.take (i+1)) g o=vTs w (l.take i) g o++vT w x g (o+i*4):=by
 have hl:=(List.getElem?_eq_some_iff.1 h).1
 have hx:=(List.getElem?_eq_some_iff.1 h).2
 rw [List.take_succ_eq_append_getElem hl,vTs_app,List.length_take,Nat.min_eq_left (by omega),hx]
 simp [vTs]
def preN (u:Value):Prop:=(∃ n,u=.int .u8 n)∨∃ s,u=.string s
def isPl (w:World) (g o:Nat):Prop:=∃ q u,o=q+1∧w.cell? ⟨g,q,none⟩=some u∧¬ preN u
structure Vok (R:Nat→Prop) (w:World) (v:Vz):Prop where
 reg:R v.pl.block
 pl:∃ n,w.cell? v.pl=some (.int .i64 n)
 spot:v.pl.spot=none
 is:isPl w v.pl.block v.pl.off
 nm:∀ a∈v.nm,R a.block∧a.spot=none∧∃ s,w.cell? a=some (.string s)
def NmS (w0 W:World) (l:List Addr) (s:Value):Prop:=(l=[]∧s=.slice none 0 0)∨∃ b,s=.slice (some ⟨b,0,none⟩) l.length l.length∧w0.heap.size≤b∧b<W.heap.size∧∀ i x,l[i]? = some x→W.cell? ⟨b,i,none⟩=some (.pointer (some x))
def Sk (w0 W:World):Prop:=w0.heap.size≤W.heap.size∧∀ g o v,w0.cell? ⟨g,o,none⟩=some v→(∃ k,v=.int .u8 k)∨(∃ a l c,v=.slice a l c)→W.cell? ⟨g,o,none⟩=some v
theorem Sk.u8 {w0 W:World} (h:Sk w0 W) {g o:Nat} {k:Int} (hc:w0.cell? ⟨g,o,none⟩=some (.int .u8 k)):W.cell? ⟨g,o,none⟩=some (.int .u8 k):=h.2 _ _ _ hc (.inl ⟨_,rfl⟩)
theorem Sk.sl {w0 W:World} (h:Sk w0 W) {g o l c:Nat} {a:Option Addr} (hc:w0.cell? ⟨g,o,none⟩=some (.slice a l c)):W.cell? ⟨g,o,none⟩=some (.slice a l c):=h.2 _ _ _ hc (.inr ⟨_,_,_,rfl⟩)
theorem sl_pre {a:Option Addr} {l c:Nat} : ¬ preN (.slice a l c):=fun h=>by rcases h with ⟨_,h⟩ | ⟨_,h⟩ <;> cases h
theorem wd_pre {n:Int} : ¬ preN (.int .i64 n):=fun h=>by rcases h with ⟨_,h⟩ | ⟨_,h⟩ <;> cases h
theorem vok_ex {R:Nat→Prop} {w:World} {k ps:Int} {nm:ByteArray} {g q kl kc:Nat} {ka:Option Addr} (hg:R g) (c3:w.cell? ⟨g,q+3,none⟩=some (.string nm)) (c4:w.cell? ⟨g,q+4,none⟩=some (.slice ka kl kc)) (c5:w.cell? ⟨g,q+5,none⟩=some (.int .i64 ps)):Vok R w ⟨⟨g,q+5,none⟩,if k=2 then [⟨g,q+3,none⟩] else []⟩ :=
 ⟨hg,⟨_,c5⟩,rfl,⟨q+4,_,rfl,c4,sl_pre⟩,fun a ha=>by
  split at ha
  · obtain rfl : a = ⟨g, q + 3, none⟩ := by simpa using ha
    exact ⟨hg,rfl,_,c3⟩
  · cases ha⟩
theorem vok_st {R:Nat→Prop} {w:World} {ps:Int} {n1 n2:ByteArray} {g q kl kc:Nat} {ka:Option Addr} (hg:R g) (c1:w.cell? ⟨g,q+1,none⟩=some (.string n1)) (c2:w.cell? ⟨g,q+2,none⟩=some (.string n2)) (c5:w.cell? ⟨g,q+5,none⟩=some (.slice ka kl kc)) (c6:w.cell? ⟨g,q+6,none⟩=some (.int .i64 ps)):Vok R w ⟨⟨g,q+6,none⟩,[⟨g,q+1,none⟩,⟨g,q+2,none⟩]⟩ :=
 ⟨hg,⟨_,c6⟩,rfl,⟨q+5,_,rfl,c5,sl_pre⟩,fun a ha=>by
  simp only [List.mem_cons,List.not_mem_nil,or_false] at ha
  rcases ha with rfl | rfl
  · exact ⟨hg,rfl,_,c1⟩
  · exact ⟨hg,rfl,_,c2⟩⟩
theorem vok_dc {R:Nat→Prop} {w:World} {wd ps:Int} {nm:ByteArray} {g q:Nat} (hg:R g) (c0:w.cell? ⟨g,q,none⟩=some (.string nm)) (c1:w.cell? ⟨g,q+1,none⟩=some (.int .i64 wd)) (c2:w.cell? ⟨g,q+2,none⟩=some (.int .i64 ps)):Vok R w ⟨⟨g,q+2,none⟩,[⟨g,q,none⟩]⟩ :=
 ⟨hg,⟨_,c2⟩,rfl,⟨q+1,_,rfl,c1,wd_pre⟩,fun a ha=>by
  obtain rfl:a=⟨g,q,none⟩:=by simpa using ha
  exact ⟨hg,rfl,_,c0⟩⟩
theorem vok_th {R:Nat→Prop} {w:World} {ps:Int} {nm:ByteArray} {g q kl kc:Nat} {ka:Option Addr} (hg:R g) (c0:w.cell? ⟨g,q,none⟩=some (.string nm)) (c2:w.cell? ⟨g,q+2,none⟩=some (.slice ka kl kc)) (c3:w.cell? ⟨g,q+3,none⟩=some (.int .i64 ps)):Vok R w ⟨⟨g,q+3,none⟩,[⟨g,q,none⟩]⟩ :=
 ⟨hg,⟨_,c3⟩,rfl,⟨q+2,_,rfl,c2,sl_pre⟩,fun a ha=>by
  obtain rfl:a=⟨g,q,none⟩:=by simpa using ha
  exact ⟨hg,rfl,_,c0⟩⟩
theorem nms_one {w0 W:World} {x:Addr} {T:TypeId} (h:w0.heap.size≤W.heap.size):NmS w0 (W.alloc (.cells #[.pointer (some x)] T)) [x] (.slice (some ⟨W.heap.size,0,none⟩) 1 1) :=
 .inr ⟨W.heap.size,rfl,h,by simp,fun i y hy=>by
  cases i with
  | zero => obtain rfl : x = y := by simpa using hy
            rw [cell_of_row _ _ 0 _ _ _ (Own.new W T #[.pointer (some x)])];rfl
  | succ i=>simp at hy⟩
theorem nms_two {w0 W:World} {x y:Addr} {T:TypeId} (h:w0.heap.size≤W.heap.size):NmS w0 (W.alloc (.cells #[.pointer (some x),.pointer (some y)] T)) [x,y] (.slice (some ⟨W.heap.size,0,none⟩) 2 2) :=
 .inr ⟨W.heap.size,rfl,h,by simp,fun i z hz=>by
  match i,hz with
  | 0, hz => obtain rfl : x = z := by simpa using hz
             rw [cell_of_row _ _ 0 _ _ _ (Own.new W T #[.pointer (some x),.pointer (some y)])];rfl
  | 1, hz => obtain rfl : y = z := by simpa using hz
             rw [cell_of_row _ _ 1 _ _ _ (Own.new W T #[.pointer (some x),.pointer (some y)])];rfl
  | i+2,hz=>simp at hz⟩
theorem nms_none {w0 W:World} : NmS w0 W [] (.slice none 0 0):=.inl ⟨rfl,rfl⟩
open Go.RowKit
set_option linter.unusedVariables false
theorem vEsA_split (w:World) (l:List Ex) (k:Nat) (a:Option Addr):∃ r,vEsA w l a=vEsA w (l.take k) a++r:=by
 cases a with
 | none=>exact ⟨[],rfl⟩
 | some p =>
   obtain ⟨g,q,s⟩:=p
   refine ⟨vEs w (l.drop k) g (q+(l.take k).length*6),?_⟩
   show vEs w l g q=vEs w (l.take k) g q++_
   conv=>lhs;rw [← List.take_append_drop k l,vEs_app]
theorem vSsA_split (w:World) (l:List St) (k:Nat) (a:Option Addr):∃ r,vSsA w l a=vSsA w (l.take k) a++r:=by
 cases a with
 | none=>exact ⟨[],rfl⟩
 | some p =>
   obtain ⟨g,q,s⟩:=p
   refine ⟨vSs w (l.drop k) g (q+(l.take k).length*7),?_⟩
   show vSs w l g q=vSs w (l.take k) g q++_
   conv=>lhs;rw [← List.take_append_drop k l,vSs_app]
theorem vDsA_split (w:World) (l:List Dc) (k:Nat) (a:Option Addr):∃ r,vDsA w l a=vDsA w (l.take k) a++r:=by
 cases a with
 | none=>exact ⟨[],rfl⟩
 | some p =>
   obtain ⟨g,q,s⟩:=p
   refine ⟨vDs w (l.drop k) g (q+(l.take k).length*3),?_⟩
   show vDs w l g q=vDs w (l.take k) g q++_
   conv=>lhs;rw [← List.take_append_drop k l,vDs_app]
theorem vTsA_split (w:World) (l:List Th) (k:Nat) (a:Option Addr):∃ r,vTsA w l a=vTsA w (l.take k) a++r:=by
 cases a with
 | none=>exact ⟨[],rfl⟩
 | some p =>
   obtain ⟨g,q,s⟩:=p
   refine ⟨vTs w (l.drop k) g (q+(l.take k).length*4),?_⟩
   show vTs w l g q=vTs w (l.take k) g q++_
   conv=>lhs;rw [← List.take_append_drop k l,vTs_app]
end Go.Proofs.YtkheldgmpgefiaaGreatDoor

/- The proof, part 20: texts that belong together, in one. -/
import Derived.Test.YtieeaehabjjaoaaGreatDoorHAQ
import Derived.Test.YtieeaehabjjaoaaGreatDoorHAB
import Derived.Test.YtieeaehabjjaoaaGreatDoorHAR
set_option maxRecDepth 100000
set_option maxHeartbeats 20000000
namespace Go.Proofs.YtieeaehabjjaoaaGreatDoor
open Go.RowKit
set_option linter.unusedVariables false
theorem drewN_below (W:World) (j:Nat):Below W.heap.size W (W.drewN j):=below_drewN (Below.refl _ W) j
def TwoIn (B:Nat) (w:World) (T U:TypeId) (p1 p2 r1 r2:Array Value) (u v:Value) (w':World):Prop:=∃ g h,u=.pointer (some ⟨g,0,none⟩)∧v=.pointer (some ⟨h,0,none⟩)∧Own w' g T r1∧Own w' h T r2∧Below B w w'∧Own w' B U p1∧Own w' (B+1) U p2
theorem twoIn_1 {B:Nat} {wr:World} {T U:TypeId} {p1 p2 r1 r2:Array Value} (hB:B+1<wr.heap.size) (h1:Own wr B U p1) (h2:Own wr (B+1) U p2):TwoIn B wr T U p1 p2 r1 r2 (.pointer (some ⟨wr.heap.size,0,none⟩)) (.pointer (some ⟨wr.heap.size+1,0,none⟩)) ((wr.alloc (.cells r1 T)).alloc (.cells r2 T)).drew:=by
 have k2:=Own.new (wr.alloc (.cells r1 T)) T r2
 rw [World.size_alloc] at k2
 exact ⟨_,_,rfl,rfl,((Own.new wr T r1).alloc (.cells r2 T)).drewN 1,k2.drewN 1,below_drewN ((((Below.refl B wr).alloc (by omega) _)).alloc (by rw [World.size_alloc];omega) _) 1,((h1.alloc _).alloc _).drewN 1,((h2.alloc _).alloc _).drewN 1⟩
theorem twoIn_2 {B:Nat} {wr:World} {T U:TypeId} {p1 p2 r1 r2:Array Value} (hB:B+1<wr.heap.size) (h1:Own wr B U p1) (h2:Own wr (B+1) U p2):TwoIn B wr T U p1 p2 r1 r2 (.pointer (some ⟨wr.heap.size+1,0,none⟩)) (.pointer (some ⟨wr.heap.size,0,none⟩)) ((wr.alloc (.cells r2 T)).alloc (.cells r1 T)).drew:=by
 have k2:=Own.new (wr.alloc (.cells r2 T)) T r1
 rw [World.size_alloc] at k2
 exact ⟨_,_,rfl,rfl,k2.drewN 1,((Own.new wr T r2).alloc (.cells r1 T)).drewN 1,below_drewN ((((Below.refl B wr).alloc (by omega) _)).alloc (by rw [World.size_alloc];omega) _) 1,((h1.alloc _).alloc _).drewN 1,((h2.alloc _).alloc _).drewN 1⟩
theorem r_Same (x:Pg) (hok:okP x) {v u:Value} {w:World} (hv:pA w x v) (hu:pA w x u):Calls Tryz.prog 25 #[v,u] w fun e w'=>e=.returned (.bool true)∧Below w.heap.size w w':=by
 obtain ⟨a1,c1,a2,c2,a3,c3,rfl,h1,h2,h3⟩:=hv
 obtain ⟨b1,d1,b2,d2,b3,d3,rfl,k1,k2,k3⟩:=hu
 obtain ⟨l1,l2,l3,hth⟩:=hok
 obtain ⟨sh,lk,th⟩:=x
 simp only at *
 have HD1:Hid (∀ W,Below w.heap.size w W→Calls Tryz.prog 53 #[.slice a1 sh.length c1,.slice b1 sh.length d1] W fun e' w'=>e'=.returned (.bool true)∧Below W.heap.size W w'):=fun W hW =>
  (r_decls l1 (dcsAt_below h1 hW) (dcsAt_below k1 hW)).mono fun e w' ⟨he,j,hj⟩=>⟨he,by rw [hj];exact drewN_below W j⟩
 have HD2:Hid (∀ W,Below w.heap.size w W→Calls Tryz.prog 53 #[.slice a2 lk.length c2,.slice b2 lk.length d2] W fun e' w'=>e'=.returned (.bool true)∧Below W.heap.size W w'):=fun W hW =>
  (r_decls l2 (dcsAt_below h2 hW) (dcsAt_below k2 hW)).mono fun e w' ⟨he,j,hj⟩=>⟨he,by rw [hj];exact drewN_below W j⟩
 have HTH:=Lib.hid hth
 have E1:=Lib.hid h3
 have E2:=Lib.hid k3
 clear hth h1 h2 h3 k1 k2 k3 l1 l2
 generalize sh.length=n1 at *
 generalize lk.length=n2 at *
 obtain ⟨n3,hn⟩:∃ n,n=th.length:=⟨_,rfl⟩
 rw [← hn] at l3 ⊢
 have HN:=Lib.hid hn
 clear hn
 have hnn:((n3:Int) != (n3:Int))=false:=by simp
 have HB:Hid (Below w.heap.size w ((w.alloc (.cells #[.slice a1 n1 c1,.slice a2 n2 c2,.slice a3 n3 c3] 25)).alloc (.cells #[.slice b1 n1 d1,.slice b2 n2 d2,.slice b3 n3 d3] 25))):=(((Below.refl _ w).alloc (Nat.le_refl _) _).alloc (by rw [World.size_alloc];omega) _)
 have O1:=Lib.hid ((Own.new w 25 #[.slice a1 n1 c1,.slice a2 n2 c2,.slice a3 n3 c3]).alloc (.cells #[.slice b1 n1 d1,.slice b2 n2 d2,.slice b3 n3 d3] 25))
 have O2:Hid (Own ((w.alloc (.cells #[.slice a1 n1 c1,.slice a2 n2 c2,.slice a3 n3 c3] 25)).alloc (.cells #[.slice b1 n1 d1,.slice b2 n2 d2,.slice b3 n3 d3] 25)) (w.heap.size+1) 25 #[.slice b1 n1 d1,.slice b2 n2 d2,.slice b3 n3 d3]):=by have:=Own.new (w.alloc (.cells #[.slice a1 n1 c1,.slice a2 n2 c2,.slice a3 n3 c3] 25)) 25 #[.slice b1 n1 d1,.slice b2 n2 d2,.slice b3 n3 d3];rw [World.size_alloc] at this;exact this
 go_enter Tryz.func25,Tryz.ntmps25
 go_wp2_with fail
 go_at_call 53
 refine (HD1.out _ HB.out).mono ?_
 rintro e w3 ⟨rfl,hb3⟩
 replace O1:=Lib.hid (O1.out.below hb3)
 replace O2:=Lib.hid (O2.out.below hb3)
 replace HB:=Lib.hid (HB.out.trans (hb3.mono HB.out.size))
 clear hb3
 have x1:w3.cell? ⟨w.heap.size,1,none⟩=some (.slice a2 n2 c2):=by rw [cell_of_row _ _ 1 _ _ _ O1.out];rfl
 have y1:w3.cell? ⟨w.heap.size+1,1,none⟩=some (.slice b2 n2 d2):=by rw [cell_of_row _ _ 1 _ _ _ O2.out];rfl
 go_wp2_with fail
 go_at_call 53
 refine (HD2.out _ HB.out).mono ?_
 rintro e w4 ⟨rfl,hb3⟩
 replace O1:=Lib.hid (O1.out.below hb3)
 replace O2:=Lib.hid (O2.out.below hb3)
 replace HB:=Lib.hid (HB.out.trans (hb3.mono HB.out.size))
 clear hb3
 have x2:w4.cell? ⟨w.heap.size,2,none⟩=some (.slice a3 n3 c3):=by rw [cell_of_row _ _ 2 _ _ _ O1.out];rfl
 have y2:w4.cell? ⟨w.heap.size+1,2,none⟩=some (.slice b3 n3 d3):=by rw [cell_of_row _ _ 2 _ _ _ O2.out];rfl
 go_wp2_with fail
 clear x1 y1 x2 y2
 go_loopg [34] (n3+1) (fun m' u W=>∃ i:Nat,u=.int .i64 (i:Int)∧i≤n3∧m'=n3-i+1∧Below w.heap.size w W∧Own W w.heap.size 25 #[.slice a1 n1 c1,.slice a2 n2 c2,.slice a3 n3 c3]∧Own W (w.heap.size+1) 25 #[.slice b1 n1 d1,.slice b2 n2 d2,.slice b3 n3 d3])
 case atStart=>exact ⟨0,rfl,Nat.zero_le _,by omega,HB.out,O1.out,O2.out⟩
 case round =>
  clear HB O1 O2
  obtain ⟨i,rfl,hi,hm,hb0,ho1,ho2⟩:=hrel
  have HM:=Lib.hid hm
  have HB:=Lib.hid hb0
  have O1:=Lib.hid ho1
  have O2:=Lib.hid ho2
  clear hm hb0 ho1 ho2
  by_cases hin:i<n3
  · have il : i < th.length := by have := HN.out; omega
    have g1:th[i]? = some th[i]:=List.getElem?_eq_getElem il
    have hmem:th[i]∈th:=List.getElem_mem il
    generalize th[i]=x at g1 hmem
    obtain ⟨o1,o2,o3⟩:=HTH.out x hmem
    rcases E1.out with e | ⟨g,q,rfl,_,e1⟩
    · cases th with
      | nil=>simp at il
      | cons=>cases e
    rcases E2.out with e | ⟨g',q',rfl,_,e2⟩
    · cases th with
      | nil=>simp at il
      | cons=>cases e
    obtain ⟨a0,⟨ta,tc,a1',w1⟩,⟨sa,sc,a2',w2⟩,a3'⟩:=thsIn_get i x e1 g1
    obtain ⟨b0,⟨ua,uc,b1',z1⟩,⟨va,vc,b2',z2⟩,b3'⟩:=thsIn_get i x e2 g1
    obtain ⟨nm,lo,bo,ps⟩:=x
    simp only at *
    have lg:=lt_of_at a0
    have lg':=lt_of_at b0
    simp only at lg lg'
    have hin':(i:Int)<(n3:Int):=by omega
    have HC1:Hid (∀ W,Below w.heap.size w W→Calls Tryz.prog 53 #[.slice ta lo.length tc,.slice ua lo.length uc] W fun e' w'=>e'=.returned (.bool true)∧Below W.heap.size W w'):=fun W hW =>
     (r_decls o1 (dcsAt_below w1 hW) (dcsAt_below z1 hW)).mono fun e w' ⟨he,j,hj⟩=>⟨he,by rw [hj];exact drewN_below W j⟩
    have HC2:Hid (∀ W,Below w.heap.size w W→Calls Tryz.prog 54 #[.slice sa bo.length sc,.slice va bo.length vc] W fun e' w'=>e'=.returned (.bool true)∧Below W.heap.size W w'):=fun W hW =>
     r_smstmts bo o3 o2 sa va sc vc W (stsAt_below w2 hW) (stsAt_below z2 hW)
    have BX:=HB.out
    have a0':wr.cell? ⟨g,q+i*4,none⟩=some (.string nm):=(BX.cell (p:=⟨g,q+i*4,none⟩) lg).trans a0
    have a1':wr.cell? ⟨g,q+i*4+1,none⟩=some (.slice ta lo.length tc):=(BX.cell (p:=⟨g,q+i*4+1,none⟩) lg).trans a1'
    have a2':wr.cell? ⟨g,q+i*4+2,none⟩=some (.slice sa bo.length sc):=(BX.cell (p:=⟨g,q+i*4+2,none⟩) lg).trans a2'
    have a3':wr.cell? ⟨g,q+i*4+3,none⟩=some (.int .i64 ps):=(BX.cell (p:=⟨g,q+i*4+3,none⟩) lg).trans a3'
    have b0':wr.cell? ⟨g',q'+i*4,none⟩=some (.string nm):=(BX.cell (p:=⟨g',q'+i*4,none⟩) lg').trans b0
    have b1':wr.cell? ⟨g',q'+i*4+1,none⟩=some (.slice ua lo.length uc):=(BX.cell (p:=⟨g',q'+i*4+1,none⟩) lg').trans b1'
    have b2':wr.cell? ⟨g',q'+i*4+2,none⟩=some (.slice va bo.length vc):=(BX.cell (p:=⟨g',q'+i*4+2,none⟩) lg').trans b2'
    have b3':wr.cell? ⟨g',q'+i*4+3,none⟩=some (.int .i64 ps):=(BX.cell (p:=⟨g',q'+i*4+3,none⟩) lg').trans b3'
    have x2:wr.cell? ⟨w.heap.size,2,none⟩=some (.slice (some ⟨g,q,none⟩) n3 c3):=by rw [cell_of_row _ _ 2 _ _ _ O1.out];rfl
    have y2:wr.cell? ⟨w.heap.size+1,2,none⟩=some (.slice (some ⟨g',q',none⟩) n3 d3):=by rw [cell_of_row _ _ 2 _ _ _ O2.out];rfl
    have q1:(nm.toList != nm.toList)=false:=by simp
    have q1':(nm.toList==nm.toList)=true:=by simp
    have q3:(ps != ps)=false:=by simp
    clear g1 e1 e2 il w1 w2 z1 z2 o1 o2 o3 hmem BX a0 b0
    generalize lo.length=m1 at *
    generalize bo.length=m2 at *
    go_upto_region 6 with fail
    go_cut [6,7] (fun u v wx=>TwoIn w.heap.size wr 39 25 #[.slice a1 n1 c1,.slice a2 n2 c2,.slice (some ⟨g,q,none⟩) n3 c3] #[.slice b1 n1 d1,.slice b2 n2 d2,.slice (some ⟨g',q',none⟩) n3 d3] #[.string nm,.slice ta m1 tc,.slice sa m2 sc,.int .i64 ps] #[.string nm,.slice ua m1 uc,.slice va m2 vc,.int .i64 ps] u v wx)
    case first =>
     go_region_held3 (fun W=>W.cell? ⟨g,q+i*4,none⟩=some (.string nm)∧W.cell? ⟨g,q+i*4+1,none⟩=some (.slice ta m1 tc)∧W.cell? ⟨g,q+i*4+2,none⟩=some (.slice sa m2 sc)∧W.cell? ⟨g,q+i*4+3,none⟩=some (.int .i64 ps)∧W.cell? ⟨g',q'+i*4,none⟩=some (.string nm)∧W.cell? ⟨g',q'+i*4+1,none⟩=some (.slice ua m1 uc)∧W.cell? ⟨g',q'+i*4+2,none⟩=some (.slice va m2 vc)∧W.cell? ⟨g',q'+i*4+3,none⟩=some (.int .i64 ps)∧W.cell? ⟨w.heap.size,2,none⟩=some (.slice (some ⟨g,q,none⟩) n3 c3)∧W.cell? ⟨w.heap.size+1,2,none⟩=some (.slice (some ⟨g',q',none⟩) n3 d3)) (go_keep) (fail)
     · go_wp2_with fail
       go_meet
       exact twoIn_1 O2.out.lt O1.out O2.out
     · go_wp2_with fail
       go_meet
       exact twoIn_2 O2.out.lt O1.out O2.out
    case rest =>
     obtain ⟨gu,gv,rfl,rfl,hO1,hO2,hb,hp1,hp2⟩:=hcut
     have P1:=Lib.hid hO1
     have P2:=Lib.hid hO2
     replace HB:=Lib.hid (HB.out.trans hb)
     have O1:=Lib.hid hp1
     have O2:=Lib.hid hp2
     clear hO1 hO2 hb hp1 hp2 x2 y2
     have s0:wc.cell? ⟨gu,0,none⟩=some (.string nm):=by rw [cell_of_row _ _ 0 _ _ _ P1.out];rfl
     have r0:wc.cell? ⟨gv,0,none⟩=some (.string nm):=by rw [cell_of_row _ _ 0 _ _ _ P2.out];rfl
     have s1:wc.cell? ⟨gu,1,none⟩=some (.slice ta m1 tc):=by rw [cell_of_row _ _ 1 _ _ _ P1.out];rfl
     have r1:wc.cell? ⟨gv,1,none⟩=some (.slice ua m1 uc):=by rw [cell_of_row _ _ 1 _ _ _ P2.out];rfl
     go_wp2_with fail
     go_at_call 53
     refine (HC1.out _ HB.out).mono ?_
     rintro e w3 ⟨rfl,hb3⟩
     replace P1:=Lib.hid (P1.out.below hb3)
     replace P2:=Lib.hid (P2.out.below hb3)
     replace O1:=Lib.hid (O1.out.below hb3)
     replace O2:=Lib.hid (O2.out.below hb3)
     replace HB:=Lib.hid (HB.out.trans (hb3.mono HB.out.size))
     clear hb3
     have s2:w3.cell? ⟨gu,2,none⟩=some (.slice sa m2 sc):=by rw [cell_of_row _ _ 2 _ _ _ P1.out];rfl
     have r2:w3.cell? ⟨gv,2,none⟩=some (.slice va m2 vc):=by rw [cell_of_row _ _ 2 _ _ _ P2.out];rfl
     go_wp2_with fail
     go_at_call 54
     refine (HC2.out _ HB.out).mono ?_
     rintro e w4 ⟨rfl,hb3⟩
     replace P1:=Lib.hid (P1.out.below hb3)
     replace P2:=Lib.hid (P2.out.below hb3)
     replace O1:=Lib.hid (O1.out.below hb3)
     replace O2:=Lib.hid (O2.out.below hb3)
     replace HB:=Lib.hid (HB.out.trans (hb3.mono HB.out.size))
     clear hb3
     go_wp2_with fail
     go_roundg (n3-(i+1)+1)
     case measure=>have:=HM.out;omega
     case rel=>exact ⟨i+1,rfl,by omega,by omega,HB.out,O1.out,O2.out⟩
  · have : i = n3 := by omega
    subst this
    go_wp2_with fail
    go_ret
    exact ⟨rfl,HB.out⟩
theorem r_Exactly (x:Pg) (hok:okP x) {v u:Value} {w:World} (hv:pA w x v) (hu:pA w x u):Calls Tryz.prog 9 #[v,u] w fun e w'=>e=.returned (.bool true)∧Below w.heap.size w w':=by
 obtain ⟨a1,c1,a2,c2,a3,c3,rfl,h1,h2,h3⟩:=hv
 obtain ⟨b1,d1,b2,d2,b3,d3,rfl,k1,k2,k3⟩:=hu
 obtain ⟨l1,l2,l3,hth⟩:=hok
 have HSM:Hid (∀ W,Below w.heap.size w W→Calls Tryz.prog 25 #[.agg #[.slice a1 x.shared.length c1,.slice a2 x.locks.length c2,.slice a3 x.threads.length c3],.agg #[.slice b1 x.shared.length d1,.slice b2 x.locks.length d2,.slice b3 x.threads.length d3]] W fun e' w'=>e'=.returned (.bool true)∧Below W.heap.size W w'):=fun W hW =>
  r_Same x ⟨l1,l2,l3,hth⟩ ⟨a1,c1,a2,c2,a3,c3,rfl,dcsAt_below h1 hW,dcsAt_below h2 hW,thsAt_below h3 hW⟩ ⟨b1,d1,b2,d2,b3,d3,rfl,dcsAt_below k1 hW,dcsAt_below k2 hW,thsAt_below k3 hW⟩
 obtain ⟨sh,lk,th⟩:=x
 simp only at *
 have HD1:Hid (∀ W,Below w.heap.size w W→Calls Tryz.prog 26 #[.slice a1 sh.length c1,.slice b1 sh.length d1] W fun e' w'=>e'=.returned (.bool true)∧Below W.heap.size W w'):=fun W hW =>
  (r_declared l1 (dcsAt_below h1 hW) (dcsAt_below k1 hW)).mono fun e w' ⟨he,j,hj⟩=>⟨he,by rw [hj];exact drewN_below W j⟩
 have HD2:Hid (∀ W,Below w.heap.size w W→Calls Tryz.prog 26 #[.slice a2 lk.length c2,.slice b2 lk.length d2] W fun e' w'=>e'=.returned (.bool true)∧Below W.heap.size W w'):=fun W hW =>
  (r_declared l2 (dcsAt_below h2 hW) (dcsAt_below k2 hW)).mono fun e w' ⟨he,j,hj⟩=>⟨he,by rw [hj];exact drewN_below W j⟩
 have HTH:=Lib.hid hth
 have E1:=Lib.hid h3
 have E2:=Lib.hid k3
 clear hth h1 h2 h3 k1 k2 k3 l1 l2
 generalize sh.length=n1 at *
 generalize lk.length=n2 at *
 obtain ⟨n3,hn⟩:∃ n,n=th.length:=⟨_,rfl⟩
 rw [← hn] at l3 HSM ⊢
 have HN:=Lib.hid hn
 clear hn
 have hnn:((n3:Int) != (n3:Int))=false:=by simp
 have HB:Hid (Below w.heap.size w ((w.alloc (.cells #[.slice a1 n1 c1,.slice a2 n2 c2,.slice a3 n3 c3] 25)).alloc (.cells #[.slice b1 n1 d1,.slice b2 n2 d2,.slice b3 n3 d3] 25))):=(((Below.refl _ w).alloc (Nat.le_refl _) _).alloc (by rw [World.size_alloc];omega) _)
 have O1:=Lib.hid ((Own.new w 25 #[.slice a1 n1 c1,.slice a2 n2 c2,.slice a3 n3 c3]).alloc (.cells #[.slice b1 n1 d1,.slice b2 n2 d2,.slice b3 n3 d3] 25))
 have O2:Hid (Own ((w.alloc (.cells #[.slice a1 n1 c1,.slice a2 n2 c2,.slice a3 n3 c3] 25)).alloc (.cells #[.slice b1 n1 d1,.slice b2 n2 d2,.slice b3 n3 d3] 25)) (w.heap.size+1) 25 #[.slice b1 n1 d1,.slice b2 n2 d2,.slice b3 n3 d3]):=by have:=Own.new (w.alloc (.cells #[.slice a1 n1 c1,.slice a2 n2 c2,.slice a3 n3 c3] 25)) 25 #[.slice b1 n1 d1,.slice b2 n2 d2,.slice b3 n3 d3];rw [World.size_alloc] at this;exact this
 go_enter Tryz.func9,Tryz.ntmps9
 have LD1:=O1.out
 have LD2:=O2.out
 go_wp2_with (first | (refine ld rowPg rfl rfl rfl LD1 rfl ?_) | (refine ld rowPg rfl rfl rfl LD2 rfl ?_))
 go_at_call 25
 refine (HSM.out _ HB.out).mono ?_
 rintro e w3 ⟨rfl,hb3⟩
 clear LD1 LD2
 replace O1:=Lib.hid (O1.out.below hb3)
 replace O2:=Lib.hid (O2.out.below hb3)
 replace HB:=Lib.hid (HB.out.trans (hb3.mono HB.out.size))
 clear hb3
 have x0:w3.cell? ⟨w.heap.size,0,none⟩=some (.slice a1 n1 c1):=by rw [cell_of_row _ _ 0 _ _ _ O1.out];rfl
 have y0:w3.cell? ⟨w.heap.size+1,0,none⟩=some (.slice b1 n1 d1):=by rw [cell_of_row _ _ 0 _ _ _ O2.out];rfl
 go_wp2_with fail
 go_at_call 26
 refine (HD1.out _ HB.out).mono ?_
 rintro e w4 ⟨rfl,hb3⟩
 replace O1:=Lib.hid (O1.out.below hb3)
 replace O2:=Lib.hid (O2.out.below hb3)
 replace HB:=Lib.hid (HB.out.trans (hb3.mono HB.out.size))
 clear hb3
 have x1:w4.cell? ⟨w.heap.size,1,none⟩=some (.slice a2 n2 c2):=by rw [cell_of_row _ _ 1 _ _ _ O1.out];rfl
 have y1:w4.cell? ⟨w.heap.size+1,1,none⟩=some (.slice b2 n2 d2):=by rw [cell_of_row _ _ 1 _ _ _ O2.out];rfl
 go_wp2_with fail
 go_at_call 26
 refine (HD2.out _ HB.out).mono ?_
 rintro e w5 ⟨rfl,hb3⟩
 replace O1:=Lib.hid (O1.out.below hb3)
 replace O2:=Lib.hid (O2.out.below hb3)
 replace HB:=Lib.hid (HB.out.trans (hb3.mono HB.out.size))
 clear hb3
 have x2:w5.cell? ⟨w.heap.size,2,none⟩=some (.slice a3 n3 c3):=by rw [cell_of_row _ _ 2 _ _ _ O1.out];rfl
 have y2:w5.cell? ⟨w.heap.size+1,2,none⟩=some (.slice b3 n3 d3):=by rw [cell_of_row _ _ 2 _ _ _ O2.out];rfl
 go_wp2_with fail
 clear x0 y0 x1 y1 x2 y2
 go_loopg [31] (n3+1) (fun m' u W=>∃ i:Nat,u=.int .i64 (i:Int)∧i≤n3∧m'=n3-i+1∧Below w.heap.size w W∧Own W w.heap.size 25 #[.slice a1 n1 c1,.slice a2 n2 c2,.slice a3 n3 c3]∧Own W (w.heap.size+1) 25 #[.slice b1 n1 d1,.slice b2 n2 d2,.slice b3 n3 d3])
 case atStart=>exact ⟨0,rfl,Nat.zero_le _,by omega,HB.out,O1.out,O2.out⟩
 case round =>
  clear HB O1 O2
  obtain ⟨i,rfl,hi,hm,hb0,ho1,ho2⟩:=hrel
  have HM:=Lib.hid hm
  have HB:=Lib.hid hb0
  have O1:=Lib.hid ho1
  have O2:=Lib.hid ho2
  clear hm hb0 ho1 ho2
  by_cases hin:i<n3
  · have il : i < th.length := by have := HN.out; omega
    have g1:th[i]? = some th[i]:=List.getElem?_eq_getElem il
    have hmem:th[i]∈th:=List.getElem_mem il
    generalize th[i]=x at g1 hmem
    obtain ⟨o1,o2,o3⟩:=HTH.out x hmem
    rcases E1.out with e | ⟨g,q,rfl,_,e1⟩
    · cases th with
      | nil=>simp at il
      | cons=>cases e
    rcases E2.out with e | ⟨g',q',rfl,_,e2⟩
    · cases th with
      | nil=>simp at il
      | cons=>cases e
    obtain ⟨a0,⟨ta,tc,a1',w1⟩,⟨sa,sc,a2',w2⟩,a3'⟩:=thsIn_get i x e1 g1
    obtain ⟨b0,⟨ua,uc,b1',z1⟩,⟨va,vc,b2',z2⟩,b3'⟩:=thsIn_get i x e2 g1
    obtain ⟨nm,lo,bo,ps⟩:=x
    simp only at *
    have lg:=lt_of_at a0
    have lg':=lt_of_at b0
    simp only at lg lg'
    have hin':(i:Int)<(n3:Int):=by omega
    have HC1:Hid (∀ W,Below w.heap.size w W→Calls Tryz.prog 26 #[.slice ta lo.length tc,.slice ua lo.length uc] W fun e' w'=>e'=.returned (.bool true)∧Below W.heap.size W w'):=fun W hW =>
     (r_declared o1 (dcsAt_below w1 hW) (dcsAt_below z1 hW)).mono fun e w' ⟨he,j,hj⟩=>⟨he,by rw [hj];exact drewN_below W j⟩
    have HC2:Hid (∀ W,Below w.heap.size w W→Calls Tryz.prog 27 #[.slice sa bo.length sc,.slice va bo.length vc] W fun e' w'=>e'=.returned (.bool true)∧Below W.heap.size W w'):=fun W hW =>
     (r_stplaces bo o3 o2 sa va sc vc W (stsAt_below w2 hW) (stsAt_below z2 hW)).mono fun e w' ⟨he,j,hj⟩=>⟨he,by rw [hj];exact drewN_below W j⟩
    have BX:=HB.out
    have a0':wr.cell? ⟨g,q+i*4,none⟩=some (.string nm):=(BX.cell (p:=⟨g,q+i*4,none⟩) lg).trans a0
    have a1':wr.cell? ⟨g,q+i*4+1,none⟩=some (.slice ta lo.length tc):=(BX.cell (p:=⟨g,q+i*4+1,none⟩) lg).trans a1'
    have a2':wr.cell? ⟨g,q+i*4+2,none⟩=some (.slice sa bo.length sc):=(BX.cell (p:=⟨g,q+i*4+2,none⟩) lg).trans a2'
    have a3':wr.cell? ⟨g,q+i*4+3,none⟩=some (.int .i64 ps):=(BX.cell (p:=⟨g,q+i*4+3,none⟩) lg).trans a3'
    have b0':wr.cell? ⟨g',q'+i*4,none⟩=some (.string nm):=(BX.cell (p:=⟨g',q'+i*4,none⟩) lg').trans b0
    have b1':wr.cell? ⟨g',q'+i*4+1,none⟩=some (.slice ua lo.length uc):=(BX.cell (p:=⟨g',q'+i*4+1,none⟩) lg').trans b1'
    have b2':wr.cell? ⟨g',q'+i*4+2,none⟩=some (.slice va bo.length vc):=(BX.cell (p:=⟨g',q'+i*4+2,none⟩) lg').trans b2'
    have b3':wr.cell? ⟨g',q'+i*4+3,none⟩=some (.int .i64 ps):=(BX.cell (p:=⟨g',q'+i*4+3,none⟩) lg').trans b3'
    have x2:wr.cell? ⟨w.heap.size,2,none⟩=some (.slice (some ⟨g,q,none⟩) n3 c3):=by rw [cell_of_row _ _ 2 _ _ _ O1.out];rfl
    have y2:wr.cell? ⟨w.heap.size+1,2,none⟩=some (.slice (some ⟨g',q',none⟩) n3 d3):=by rw [cell_of_row _ _ 2 _ _ _ O2.out];rfl
    have q1:(nm.toList != nm.toList)=false:=by simp
    have q1':(nm.toList==nm.toList)=true:=by simp
    have q3:(ps != ps)=false:=by simp
    clear g1 e1 e2 il w1 w2 z1 z2 o1 o2 o3 hmem BX a0 b0
    generalize lo.length=m1 at *
    generalize bo.length=m2 at *
    go_upto_region 6 with fail
    go_cut [6,7] (fun u v wx=>TwoIn w.heap.size wr 39 25 #[.slice a1 n1 c1,.slice a2 n2 c2,.slice (some ⟨g,q,none⟩) n3 c3] #[.slice b1 n1 d1,.slice b2 n2 d2,.slice (some ⟨g',q',none⟩) n3 d3] #[.string nm,.slice ta m1 tc,.slice sa m2 sc,.int .i64 ps] #[.string nm,.slice ua m1 uc,.slice va m2 vc,.int .i64 ps] u v wx)
    case first =>
     go_region_held3 (fun W=>W.cell? ⟨g,q+i*4,none⟩=some (.string nm)∧W.cell? ⟨g,q+i*4+1,none⟩=some (.slice ta m1 tc)∧W.cell? ⟨g,q+i*4+2,none⟩=some (.slice sa m2 sc)∧W.cell? ⟨g,q+i*4+3,none⟩=some (.int .i64 ps)∧W.cell? ⟨g',q'+i*4,none⟩=some (.string nm)∧W.cell? ⟨g',q'+i*4+1,none⟩=some (.slice ua m1 uc)∧W.cell? ⟨g',q'+i*4+2,none⟩=some (.slice va m2 vc)∧W.cell? ⟨g',q'+i*4+3,none⟩=some (.int .i64 ps)∧W.cell? ⟨w.heap.size,2,none⟩=some (.slice (some ⟨g,q,none⟩) n3 c3)∧W.cell? ⟨w.heap.size+1,2,none⟩=some (.slice (some ⟨g',q',none⟩) n3 d3)) (go_keep) (fail)
     · go_wp2_with fail
       go_meet
       exact twoIn_1 O2.out.lt O1.out O2.out
     · go_wp2_with fail
       go_meet
       exact twoIn_2 O2.out.lt O1.out O2.out
    case rest =>
     obtain ⟨gu,gv,rfl,rfl,hO1,hO2,hb,hp1,hp2⟩:=hcut
     have P1:=Lib.hid hO1
     have P2:=Lib.hid hO2
     replace HB:=Lib.hid (HB.out.trans hb)
     have O1:=Lib.hid hp1
     have O2:=Lib.hid hp2
     clear hO1 hO2 hb hp1 hp2 x2 y2
     have s3:wc.cell? ⟨gu,3,none⟩=some (.int .i64 ps):=by rw [cell_of_row _ _ 3 _ _ _ P1.out];rfl
     have r3:wc.cell? ⟨gv,3,none⟩=some (.int .i64 ps):=by rw [cell_of_row _ _ 3 _ _ _ P2.out];rfl
     have s1:wc.cell? ⟨gu,1,none⟩=some (.slice ta m1 tc):=by rw [cell_of_row _ _ 1 _ _ _ P1.out];rfl
     have r1:wc.cell? ⟨gv,1,none⟩=some (.slice ua m1 uc):=by rw [cell_of_row _ _ 1 _ _ _ P2.out];rfl
     go_wp2_with fail
     go_at_call 26
     refine (HC1.out _ HB.out).mono ?_
     rintro e w3 ⟨rfl,hb3⟩
     replace P1:=Lib.hid (P1.out.below hb3)
     replace P2:=Lib.hid (P2.out.below hb3)
     replace O1:=Lib.hid (O1.out.below hb3)
     replace O2:=Lib.hid (O2.out.below hb3)
     replace HB:=Lib.hid (HB.out.trans (hb3.mono HB.out.size))
     clear hb3
     have s2:w3.cell? ⟨gu,2,none⟩=some (.slice sa m2 sc):=by rw [cell_of_row _ _ 2 _ _ _ P1.out];rfl
     have r2:w3.cell? ⟨gv,2,none⟩=some (.slice va m2 vc):=by rw [cell_of_row _ _ 2 _ _ _ P2.out];rfl
     go_wp2_with fail
     go_at_call 27
     refine (HC2.out _ HB.out).mono ?_
     rintro e w4 ⟨rfl,hb3⟩
     replace P1:=Lib.hid (P1.out.below hb3)
     replace P2:=Lib.hid (P2.out.below hb3)
     replace O1:=Lib.hid (O1.out.below hb3)
     replace O2:=Lib.hid (O2.out.below hb3)
     replace HB:=Lib.hid (HB.out.trans (hb3.mono HB.out.size))
     clear hb3
     go_wp2_with fail
     go_roundg (n3-(i+1)+1)
     case measure=>have:=HM.out;omega
     case rel=>exact ⟨i+1,rfl,by omega,by omega,HB.out,O1.out,O2.out⟩
  · have : i = n3 := by omega
    subst this
    go_wp2_with fail
    go_ret
    exact ⟨rfl,HB.out⟩
open Go.RowKit
set_option linter.unusedVariables false
structure Vz where
 pl:Addr
 nm:List Addr
def kAd (w:World) (g o:Nat):Nat × Nat:=match w.cell? ⟨g,o,none⟩ with
 | some (.slice (some ⟨h,q,_⟩) _ _)=>(h,q)
 | _=>(0,0)
mutual
def vE (w:World):Ex→Nat→Nat→List Vz
 | .mk k _ _ _ ks _,g,o=>⟨⟨g,o+5,none⟩,if k=2 then [⟨g,o+3,none⟩] else []⟩::vEs w ks (kAd w g (o+4)).1 (kAd w g (o+4)).2
def vEs (w:World):List Ex→Nat→Nat→List Vz
 | [],_,_=>[]
 | e::r,g,o=>vE w e g o++vEs w r g (o+6)
end
mutual
def vS (w:World):St→Nat→Nat→List Vz
 | .mk _ _ _ e b l _,g,o=>⟨⟨g,o+6,none⟩,[⟨g,o+1,none⟩,⟨g,o+2,none⟩]⟩::(vEs w e (kAd w g (o+3)).1 (kAd w g (o+3)).2++(vSs w b (kAd w g (o+4)).1 (kAd w g (o+4)).2++vSs w l (kAd w g (o+5)).1 (kAd w g (o+5)).2))
def vSs (w:World):List St→Nat→Nat→List Vz
 | [],_,_=>[]
 | e::r,g,o=>vS w e g o++vSs w r g (o+7)
end
def vD (w:World):Dc→Nat→Nat→List Vz
 | _,g,o=>[⟨⟨g,o+2,none⟩,[⟨g,o,none⟩]⟩]
def vDs (w:World):List Dc→Nat→Nat→List Vz
 | [],_,_=>[]
 | e::r,g,o=>vD w e g o++vDs w r g (o+3)
def vT (w:World):Th→Nat→Nat→List Vz
 | t,g,o=>⟨⟨g,o+3,none⟩,[⟨g,o,none⟩]⟩::(vDs w t.locals (kAd w g (o+1)).1 (kAd w g (o+1)).2++vSs w t.body (kAd w g (o+2)).1 (kAd w g (o+2)).2)
open Go.RowKit
set_option linter.unusedVariables false
mutual
def ctE:Ex→Nat | .mk _ _ _ _ ks _=>ctEs ks+1
def ctEs:List Ex→Nat | []=>0 | x::r=>ctE x+ctEs r
end
mutual
def ctS:St→Nat | .mk _ _ _ e b l _=>ctEs e+ctSs b+ctSs l+1
def ctSs:List St→Nat | []=>0 | x::r=>ctS x+ctSs r
end
def ctTs:List Th→Nat | []=>0 | x::r=>x.locals.length+ctSs x.body+1+ctTs r
def ctP (p:Pg):Nat:=p.shared.length+p.locks.length+ctTs p.threads
theorem ctEs_bk:∀ l:List Ex,ctEs l≤bkEs l:=by
 intro l
 induction l using Exs.ind with
 | h0=>exact Nat.le_refl _
 | h1 k op wd nm ks p r ih1 ih2=>simp only [ctEs,ctE,bkEs,bkE];omega
theorem ctSs_bk:∀ l:List St,ctSs l≤bkSs l:=by
 intro l
 induction l using Sts.ind with
 | h0=>exact Nat.le_refl _
 | h1 k n ot e b l p r ih1 ih2 ih3 =>
   have:=ctEs_bk e
   simp only [ctSs,ctS,bkSs,bkS];omega
theorem ctTs_bk:∀ l:List Th,ctTs l≤bkTs l
 | []=>Nat.le_refl _
 | x :: r => by
   have h1:=ctTs_bk r
   have h2:=bkDs_len x.locals
   have h3:=ctSs_bk x.body
   simp only [ctTs,bkTs,bkT];omega
theorem ctP_bk (x:Pg):ctP x≤bkP x:=by
 have h1:=bkDs_len x.shared
 have h2:=bkDs_len x.locks
 have h3:=ctTs_bk x.threads
 unfold ctP bkP;omega
end Go.Proofs.YtieeaehabjjaoaaGreatDoor

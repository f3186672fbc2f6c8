/- The proof, part 42: texts that belong together, in one. -/
import Derived.Test.YtmpljhfinmfnbaaGreatDoorQAZ
set_option maxRecDepth 100000
set_option maxHeartbeats 20000000
namespace Go.Proofs.YtmpljhfinmfnbaaGreatDoor
open Go.RowKit
set_option linter.unusedVariables false
set_option maxRecDepth 100000
structure Sn (w:World) (ra rb:Array Value) (X:World):Prop where
 a:Own X w.heap.size 25 ra
 b:Own X (w.heap.size+1) 25 rb
 bel:Below w.heap.size w X
theorem Sn.below {w X Y:World} {ra rb:Array Value} (h:Sn w ra rb X) (hb:Below X.heap.size X Y):Sn w ra rb Y:=⟨h.a.below hb,h.b.below hb,h.bel.trans (hb.mono h.bel.size)⟩
theorem take_two {α:Type} {l m:List α} {t:Nat} {x:α} (h:l.take t=m.take t) (g1:l[t]? = some x) (g2:m[t]? = some x):l.take (t+1)=m.take (t+1):=by
 rw [List.take_add_one,List.take_add_one,h,g1,g2]
theorem at_ne {α:Type} {l m:List α} {t:Nat} {x y:α} (g1:l[t]? = some x) (g2:m[t]? = some y) (h:x≠y):l≠m:=fun e=>by
 subst e
 rw [g1] at g2
 exact h (Option.some.inj g2)
theorem rsame2_any (o p:Ob) (hf:fitO o) (hf2:fitO p) {v u:Value} {w:World} (hv:obA w o v) (hu:obA w p u):Calls Tryz.prog 9 #[v,u] w fun e w'=>∃ b,e=.returned (.bool b)∧(b=true↔o=p)∧Below w.heap.size w w':=by
 obtain ⟨P,hP⟩:∃ P:Prop,P↔o=p:=⟨_,Iff.rfl⟩
 simp only [← hP]
 obtain ⟨a1,c1,a5,c5,rfl,h1,h5⟩:=hv
 obtain ⟨b1,d1,b5,d5,rfl,k1,k5⟩:=hu
 obtain ⟨f1,f5,fc⟩:=hf
 obtain ⟨e1,e5,ec⟩:=hf2
 obtain ⟨mem,sh,lk,bf,cores⟩:=o
 obtain ⟨mem2,sh2,lk2,bf2,cores2⟩:=p
 simp only [obV] at *
 obtain ⟨n1,hn1⟩:∃ n,n=mem.length:=⟨_,rfl⟩
 obtain ⟨n5,hn5⟩:∃ n,n=cores.length:=⟨_,rfl⟩
 obtain ⟨m1,hm1⟩:∃ n,n=mem2.length:=⟨_,rfl⟩
 obtain ⟨m5,hm5⟩:∃ n,n=cores2.length:=⟨_,rfl⟩
 rw [← hn1] at f1 ⊢
 rw [← hn5] at f5 ⊢
 rw [← hm1] at e1 ⊢
 rw [← hm5] at e5 ⊢
 have HN:=Lib.hid (And.intro hn1 hn5)
 have HN2:=Lib.hid (And.intro hm1 hm5)
 have HA1:=Lib.hid h1
 have HA5:=Lib.hid h5
 have HB1:=Lib.hid k1
 have HB5:=Lib.hid k5
 have HFC:=Lib.hid fc
 have HEC:=Lib.hid ec
 have HP:Hid (P↔mem=mem2∧sh=sh2∧lk=lk2∧bf=bf2∧cores=cores2):=hP.trans (by simp)
 have B0:Below w.heap.size w ((w.alloc (.cells #[.slice a1 n1 c1,.int .i64 sh,.int .i64 lk,.int .i64 bf,.slice a5 n5 c5] 25)).alloc (.cells #[.slice b1 m1 d1,.int .i64 sh2,.int .i64 lk2,.int .i64 bf2,.slice b5 m5 d5] 25)):=((Below.refl _ w).alloc (Nat.le_refl _) _).alloc (by simp) _
 have OA:Own ((w.alloc (.cells #[.slice a1 n1 c1,.int .i64 sh,.int .i64 lk,.int .i64 bf,.slice a5 n5 c5] 25)).alloc (.cells #[.slice b1 m1 d1,.int .i64 sh2,.int .i64 lk2,.int .i64 bf2,.slice b5 m5 d5] 25)) w.heap.size 25 #[.slice a1 n1 c1,.int .i64 sh,.int .i64 lk,.int .i64 bf,.slice a5 n5 c5]:=(Own.new w 25 #[.slice a1 n1 c1,.int .i64 sh,.int .i64 lk,.int .i64 bf,.slice a5 n5 c5]).alloc _
 have OB:Own ((w.alloc (.cells #[.slice a1 n1 c1,.int .i64 sh,.int .i64 lk,.int .i64 bf,.slice a5 n5 c5] 25)).alloc (.cells #[.slice b1 m1 d1,.int .i64 sh2,.int .i64 lk2,.int .i64 bf2,.slice b5 m5 d5] 25)) (w.heap.size+1) 25 #[.slice b1 m1 d1,.int .i64 sh2,.int .i64 lk2,.int .i64 bf2,.slice b5 m5 d5]:=by
  have h:=Own.new (w.alloc (.cells #[.slice a1 n1 c1,.int .i64 sh,.int .i64 lk,.int .i64 bf,.slice a5 n5 c5] 25)) 25 #[.slice b1 m1 d1,.int .i64 sh2,.int .i64 lk2,.int .i64 bf2,.slice b5 m5 d5]
  rwa [World.size_alloc] at h
 obtain ⟨W0,hW0⟩:∃ W,W=(w.alloc (.cells #[.slice a1 n1 c1,.int .i64 sh,.int .i64 lk,.int .i64 bf,.slice a5 n5 c5] 25)).alloc (.cells #[.slice b1 m1 d1,.int .i64 sh2,.int .i64 lk2,.int .i64 bf2,.slice b5 m5 d5] 25):=⟨_,rfl⟩
 rw [← hW0] at B0 OA OB
 have HW0:=Lib.hid hW0
 have HS0:Hid (Sn w #[.slice a1 n1 c1,.int .i64 sh,.int .i64 lk,.int .i64 bf,.slice a5 n5 c5] #[.slice b1 m1 d1,.int .i64 sh2,.int .i64 lk2,.int .i64 bf2,.slice b5 m5 d5] W0):=⟨OA,OB,B0⟩
 have HCL:Hid (∀ X,Sn w #[.slice a1 n1 c1,.int .i64 sh,.int .i64 lk,.int .i64 bf,.slice a5 n5 c5] #[.slice b1 m1 d1,.int .i64 sh2,.int .i64 lk2,.int .i64 bf2,.slice b5 m5 d5] X→(X.cell? ⟨w.heap.size,0,none⟩=some (.slice a1 n1 c1)∧X.cell? ⟨w.heap.size,1,none⟩=some (.int .i64 sh)∧X.cell? ⟨w.heap.size,2,none⟩=some (.int .i64 lk)∧X.cell? ⟨w.heap.size,3,none⟩=some (.int .i64 bf)∧X.cell? ⟨w.heap.size,4,none⟩=some (.slice a5 n5 c5))∧(X.cell? ⟨w.heap.size+1,0,none⟩=some (.slice b1 m1 d1)∧X.cell? ⟨w.heap.size+1,1,none⟩=some (.int .i64 sh2)∧X.cell? ⟨w.heap.size+1,2,none⟩=some (.int .i64 lk2)∧X.cell? ⟨w.heap.size+1,3,none⟩=some (.int .i64 bf2)∧X.cell? ⟨w.heap.size+1,4,none⟩=some (.slice b5 m5 d5))):=fun X h =>
  ⟨⟨row_cellsO h.a 0 _ rfl,row_cellsO h.a 1 _ rfl,row_cellsO h.a 2 _ rfl,row_cellsO h.a 3 _ rfl,row_cellsO h.a 4 _ rfl⟩,row_cellsO h.b 0 _ rfl,row_cellsO h.b 1 _ rfl,row_cellsO h.b 2 _ rfl,row_cellsO h.b 3 _ rfl,row_cellsO h.b 4 _ rfl⟩
 clear hn1 hn5 hm1 hm5 h1 h5 k1 k5 fc ec hP B0 OA OB hW0
 by_cases g1:sh=sh2
 rotate_left
 · have hnp : ¬ P := fun h => g1 (HP.out.1 h).2.1
   have HNP:=Lib.hid hnp
   clear hnp HP
   have qq:(sh != sh2)=true:=by simpa using g1
   go_enter Tryz.func9,Tryz.ntmps9
   go_upto_region 1 with fail
   rw [← HW0.out]
   clear HW0
   obtain ⟨⟨p0,p1,p2,p3,p4⟩,r0,r1,r2,r3,r4⟩:=HCL.out _ HS0.out
   go_wp2_with fail
   go_ret
   exact ⟨false,rfl,iff_of_false (by simp) HNP.out,HS0.out.bel⟩
 subst g1
 by_cases g2:lk=lk2
 rotate_left
 · have hnp : ¬ P := fun h => g2 (HP.out.1 h).2.2.1
   have HNP:=Lib.hid hnp
   clear hnp HP
   have qq:(lk != lk2)=true:=by simpa using g2
   go_enter Tryz.func9,Tryz.ntmps9
   go_upto_region 1 with fail
   rw [← HW0.out]
   clear HW0
   obtain ⟨⟨p0,p1,p2,p3,p4⟩,r0,r1,r2,r3,r4⟩:=HCL.out _ HS0.out
   go_wp2_with fail
   go_ret
   exact ⟨false,rfl,iff_of_false (by simp) HNP.out,HS0.out.bel⟩
 subst g2
 by_cases g3:bf=bf2
 rotate_left
 · have hnp : ¬ P := fun h => g3 (HP.out.1 h).2.2.2.1
   have HNP:=Lib.hid hnp
   clear hnp HP
   have qq:(bf != bf2)=true:=by simpa using g3
   go_enter Tryz.func9,Tryz.ntmps9
   go_upto_region 1 with fail
   rw [← HW0.out]
   clear HW0
   obtain ⟨⟨p0,p1,p2,p3,p4⟩,r0,r1,r2,r3,r4⟩:=HCL.out _ HS0.out
   go_wp2_with fail
   go_ret
   exact ⟨false,rfl,iff_of_false (by simp) HNP.out,HS0.out.bel⟩
 subst g3
 by_cases g4:n1=m1
 rotate_left
 · have hnp : ¬ P := fun h => g4 (by rw [HN.out.1, HN2.out.1, (HP.out.1 h).1])
   have HNP:=Lib.hid hnp
   clear hnp HP
   have qq:((n1:Int) != (m1:Int))=true:=by simp;omega
   go_enter Tryz.func9,Tryz.ntmps9
   go_upto_region 1 with fail
   rw [← HW0.out]
   clear HW0
   obtain ⟨⟨p0,p1,p2,p3,p4⟩,r0,r1,r2,r3,r4⟩:=HCL.out _ HS0.out
   go_wp2_with fail
   go_ret
   exact ⟨false,rfl,iff_of_false (by simp) HNP.out,HS0.out.bel⟩
 subst g4
 by_cases g5:n5=m5
 rotate_left
 · have hnp : ¬ P := fun h => g5 (by rw [HN.out.2, HN2.out.2, (HP.out.1 h).2.2.2.2])
   have HNP:=Lib.hid hnp
   clear hnp HP
   have qq:((n5:Int) != (m5:Int))=true:=by simp;omega
   go_enter Tryz.func9,Tryz.ntmps9
   go_upto_region 1 with fail
   rw [← HW0.out]
   clear HW0
   obtain ⟨⟨p0,p1,p2,p3,p4⟩,r0,r1,r2,r3,r4⟩:=HCL.out _ HS0.out
   go_wp2_with fail
   go_ret
   exact ⟨false,rfl,iff_of_false (by simp) HNP.out,HS0.out.bel⟩
 subst g5
 go_enter Tryz.func9,Tryz.ntmps9
 go_upto_region 1 with fail
 rw [← HW0.out]
 clear HW0
 obtain ⟨⟨p0,p1,p2,p3,p4⟩,r0,r1,r2,r3,r4⟩:=HCL.out _ HS0.out
 go_wp2_with fail
 clear p0 p1 p2 p3 p4 r0 r1 r2 r3 r4
 go_loopg [5] (n1+1) (fun m' z X=>∃ t:Nat,z=.int .i64 (t:Int)∧t≤n1∧m'=n1-t+1∧mem.take t=mem2.take t∧Sn w #[.slice a1 n1 c1,.int .i64 sh,.int .i64 lk,.int .i64 bf,.slice a5 n5 c5] #[.slice b1 n1 d1,.int .i64 sh,.int .i64 lk,.int .i64 bf,.slice b5 n5 d5] X)
 case atStart=>exact ⟨0,rfl,Nat.zero_le _,by omega,by simp,HS0.out⟩
 case round =>
  clear HS0
  obtain ⟨t,rfl,ht,hm,htk,hx⟩:=hrel
  have HM:=Lib.hid hm
  have HX:=Lib.hid hx
  have HTK:=Lib.hid htk
  obtain ⟨⟨p0,p1,p2,p3,p4⟩,r0,r1,r2,r3,r4⟩:=HCL.out _ hx
  clear hm hx htk
  by_cases htn:t<n1
  · have il : t < mem.length := by have := HN.out.1; omega
    have il2:t<mem2.length:=by have:=HN2.out.1;omega
    have g1:mem[t]? = some mem[t]:=List.getElem?_eq_getElem il
    have g2:mem2[t]? = some mem2[t]:=List.getElem?_eq_getElem il2
    generalize mem[t]=x at g1
    generalize mem2[t]=y at g2
    rcases intsAt_below HA1.out HX.out.bel with e | ⟨g,q,rfl,e1⟩
    · subst e;simp at il
    rcases intsAt_below HB1.out HX.out.bel with e | ⟨g',q',rfl,e2⟩
    · subst e;simp at il2
    have y1:=e1 t x g1
    have y2:=e2 t y g2
    have htn':(t:Int)<(n1:Int):=by omega
    by_cases hxy:x=y
    · subst hxy
      have HTK2:=Lib.hid (take_two HTK.out g1 g2)
      clear e1 e2 g1 g2 il il2
      go_wp2_with fail
      go_quiet (fail)
      have HZ:=Lib.hid (HX.out.below (below_drewN (Below.refl _ wr) nq))
      go_wp2_with fail
      go_roundg (n1-(t+1)+1)
      case measure=>have:=HM.out;omega
      case rel=>exact ⟨t+1,by simp,by omega,by omega,HTK2.out,HZ.out⟩
    · have HNP : Hid (¬ P) := fun h => at_ne g1 g2 hxy (HP.out.1 h).1
      have qq:(x != y)=true:=by simpa using hxy
      clear e1 e2 g1 g2 il il2 HP
      go_wp2_with fail
      go_quiet (fail)
      have HZ:=Lib.hid (HX.out.below (below_drewN (Below.refl _ wr) nq))
      go_wp2_with fail
      go_ret
      exact ⟨false,rfl,iff_of_false (by simp) HNP.out,HZ.out.bel⟩
  obtain rfl:t=n1:=by omega
  have HME:Hid (mem=mem2):=by
   have h:=HTK.out
   rwa [show mem.take t=mem by rw [HN.out.1,List.take_length],show mem2.take t=mem2 by rw [HN2.out.1,List.take_length]] at h
  clear HTK
  go_wp2_with fail
  clear p0 p1 p2 p3 p4 r0 r1 r2 r3 r4
  go_loopg [6] (n5+1) (fun m' z X=>∃ s:Nat,z=.int .i64 (s:Int)∧s≤n5∧m'=n5-s+1∧cores.take s=cores2.take s∧Sn w #[.slice a1 t c1,.int .i64 sh,.int .i64 lk,.int .i64 bf,.slice a5 n5 c5] #[.slice b1 t d1,.int .i64 sh,.int .i64 lk,.int .i64 bf,.slice b5 n5 d5] X)
  case atStart=>exact ⟨0,rfl,Nat.zero_le _,by omega,by simp,HX.out⟩
  case round =>
   clear HX
   obtain ⟨s,rfl,hs,hms,htk,hx⟩:=hrel
   have HMS:=Lib.hid hms
   have HX:=Lib.hid hx
   have HTK:=Lib.hid htk
   obtain ⟨⟨p0,p1,p2,p3,p4⟩,r0,r1,r2,r3,r4⟩:=HCL.out _ hx
   clear hms hx htk
   by_cases hsn:s<n5
   rotate_left
   · obtain rfl : s = n5 := by omega
     have HPT:Hid P:=HP.out.2 ⟨HME.out,by simp,by simp,by simp,by
      have h:=HTK.out
      rwa [show cores.take s=cores by rw [HN.out.2,List.take_length],show cores2.take s=cores2 by rw [HN2.out.2,List.take_length]] at h⟩
     clear HP
     go_wp2_with fail
     go_ret
     exact ⟨true,rfl,iff_of_true rfl HPT.out,HX.out.bel⟩
   have il:s<cores.length:=by have:=HN.out.2;omega
   have il2:s<cores2.length:=by have:=HN2.out.2;omega
   have g1:cores[s]? = some cores[s]:=List.getElem?_eq_getElem il
   have g2:cores2[s]? = some cores2[s]:=List.getElem?_eq_getElem il2
   have hlc:=(HFC.out _ (List.getElem_mem il)).2
   have hlc2:=(HEC.out _ (List.getElem_mem il2)).2
   generalize cores[s]=x at g1 hlc
   generalize cores2[s]=y at g2 hlc2
   rcases HA5.out with e | ⟨g,q,rfl,e1⟩
   · subst e;simp at il
   rcases HB5.out with e | ⟨g',q',rfl,e2⟩
   · subst e;simp at il2
   obtain ⟨y1,ma,l1,y2,y3⟩:=e1 s x g1
   obtain ⟨z1,mb,l2,z2,z3⟩:=e2 s y g2
   have HCB:Hid (∀ X,Below w.heap.size w X→(X.cell? ⟨g,q+s*2,none⟩=some (.string x.name)∧X.cell? ⟨g,q+s*2+1,none⟩=some (.slice ma x.code.length l1))∧X.cell? ⟨g',q'+s*2,none⟩=some (.string y.name)∧X.cell? ⟨g',q'+s*2+1,none⟩=some (.slice mb y.code.length l2)):=fun X h=>⟨⟨(h.cell (p:=⟨g,q+s*2,none⟩) (lt_of_at y1)).trans y1,(h.cell (p:=⟨g,q+s*2+1,none⟩) (lt_of_at y2)).trans y2⟩,(h.cell (p:=⟨g',q'+s*2,none⟩) (lt_of_at z1)).trans z1,(h.cell (p:=⟨g',q'+s*2+1,none⟩) (lt_of_at z2)).trans z2⟩
   have HI1:=Lib.hid y3
   have HI2:=Lib.hid z3
   have HNX:Hid (x≠y→¬ P):=fun h hp=>at_ne g1 g2 h (HP.out.1 hp).2.2.2.2
   have HTX:Hid (x=y→cores.take (s+1)=cores2.take (s+1)):=fun h=>by subst h;exact take_two HTK.out g1 g2
   obtain ⟨nm,cd⟩:=x
   obtain ⟨nm2,cd2⟩:=y
   simp only at HCB HI1 HI2 hlc hlc2
   obtain ⟨nc,hnc⟩:∃ n,n=cd.length:=⟨_,rfl⟩
   obtain ⟨mc,hmc⟩:∃ n,n=cd2.length:=⟨_,rfl⟩
   rw [← hnc] at HCB hlc
   rw [← hmc] at HCB hlc2
   have HNC:=Lib.hid hnc
   have HMC:=Lib.hid hmc
   have hsn':(s:Int)<(n5:Int):=by omega
   obtain ⟨⟨y1',y2'⟩,z1',z2'⟩:=HCB.out _ HX.out.bel
   clear y1 y2 y3 z1 z2 z3 e1 e2 g1 g2 il il2 hnc hmc
   by_cases hnq:nm=nm2
   rotate_left
   · have HNP := Lib.hid (HNX.out (fun e => hnq (by injection e)))
     have hnn:(nm.toList==nm2.toList)=false:=bytes_eqF hnq
     clear HP HNX HTX hnq
     go_wp2_with fail
     go_quiet (fail)
     have HZ:=Lib.hid (HX.out.below (below_drewN (Below.refl _ wr) nq))
     go_wp2_with fail
     go_ret
     exact ⟨false,rfl,iff_of_false (by simp) HNP.out,HZ.out.bel⟩
   subst hnq
   have hnn:(nm.toList==nm.toList)=true:=by simp
   by_cases hcq:nc=mc
   rotate_left
   · have HNP := Lib.hid (HNX.out (fun e => hcq (by injection e with _ e2; rw [HNC.out, HMC.out, e2])))
     have qq:((nc:Int) != (mc:Int))=true:=by simp;omega
     clear HP HNX HTX hcq
     go_wp2_with fail
     go_quiet (fail)
     have HZ:=Lib.hid (HX.out.below (below_drewN (Below.refl _ wr) nq))
     go_wp2_with fail
     go_ret
     exact ⟨false,rfl,iff_of_false (by simp) HNP.out,HZ.out.bel⟩
   subst hcq
   go_wp2_with fail
   go_quiet (fail)
   have HX2:=Lib.hid (HX.out.below (below_drewN (Below.refl _ wr) nq))
   obtain ⟨W2,hW2⟩:∃ W,W=wr.drewN nq:=⟨_,rfl⟩
   rw [← hW2] at HX2 ⊢
   clear hW2 HX p0 p1 p2 p3 p4 r0 r1 r2 r3 r4 y1' y2' z1' z2'
   go_wp2_with fail
   go_loopg [7] (nc+1) (fun m' z X=>∃ j:Nat,z=.int .i64 (j:Int)∧j≤nc∧m'=nc-j+1∧cd.take j=cd2.take j∧Sn w #[.slice a1 t c1,.int .i64 sh,.int .i64 lk,.int .i64 bf,.slice (some ⟨g,q,none⟩) n5 c5] #[.slice b1 t d1,.int .i64 sh,.int .i64 lk,.int .i64 bf,.slice (some ⟨g',q',none⟩) n5 d5] X)
   case atStart=>exact ⟨0,rfl,Nat.zero_le _,by omega,by simp,HX2.out⟩
   case round =>
    clear HX2
    obtain ⟨j,rfl,hj,hmj,htk,hx⟩:=hrel
    have HMJ:=Lib.hid hmj
    have HX:=Lib.hid hx
    have HTJ:=Lib.hid htk
    obtain ⟨⟨p0,p1,p2,p3,p4⟩,r0,r1,r2,r3,r4⟩:=HCL.out _ hx
    obtain ⟨⟨y1',y2'⟩,z1',z2'⟩:=HCB.out _ hx.bel
    clear hmj hx htk
    by_cases hjn:j<nc
    rotate_left
    · obtain rfl : j = nc := by omega
      have HTE:=Lib.hid (HTX.out (by
       have h:=HTJ.out
       rw [show cd.take j=cd by rw [HNC.out,List.take_length],show cd2.take j=cd2 by rw [HMC.out,List.take_length]] at h
       rw [h]))
      go_wp2_with fail
      go_roundg (n5-(s+1)+1)
      case measure=>have:=HMS.out;omega
      case rel=>exact ⟨s+1,by simp,by omega,by omega,HTE.out,HX.out⟩
    have jl:j<cd.length:=by have:=HNC.out;omega
    have jl2:j<cd2.length:=by have:=HMC.out;omega
    have gg:cd[j]? = some cd[j]:=List.getElem?_eq_getElem jl
    have gg2:cd2[j]? = some cd2[j]:=List.getElem?_eq_getElem jl2
    generalize cd[j]=i at gg
    generalize cd2[j]=i2 at gg2
    rcases insAt_below HI1.out HX.out.bel with e | ⟨g3,q3,rfl,e3⟩
    · subst e;simp at jl
    rcases insAt_below HI2.out HX.out.bel with e | ⟨g4,q4,rfl,e4⟩
    · subst e;simp at jl2
    have f0:wr.cell? ⟨g3,q3+j*9,none⟩=some (.int .u8 i.k):=e3 j i gg 0 _ rfl
    have f1:wr.cell? ⟨g3,q3+j*9+1,none⟩=some (.int .u8 i.o):=e3 j i gg 1 _ rfl
    have f2:wr.cell? ⟨g3,q3+j*9+2,none⟩=some (.int .i64 i.d):=e3 j i gg 2 _ rfl
    have f3:wr.cell? ⟨g3,q3+j*9+3,none⟩=some (.int .i64 i.a):=e3 j i gg 3 _ rfl
    have f4:wr.cell? ⟨g3,q3+j*9+4,none⟩=some (.int .i64 i.b):=e3 j i gg 4 _ rfl
    have f5:wr.cell? ⟨g3,q3+j*9+5,none⟩=some (.int .i64 i.ad):=e3 j i gg 5 _ rfl
    have f6:wr.cell? ⟨g3,q3+j*9+6,none⟩=some (.int .i64 i.tt):=e3 j i gg 6 _ rfl
    have f7:wr.cell? ⟨g3,q3+j*9+7,none⟩=some (.int .i64 i.wd):=e3 j i gg 7 _ rfl
    have f8:wr.cell? ⟨g3,q3+j*9+8,none⟩=some (.int .i64 i.fr):=e3 j i gg 8 _ rfl
    have v0:wr.cell? ⟨g4,q4+j*9,none⟩=some (.int .u8 i2.k):=e4 j i2 gg2 0 _ rfl
    have v1:wr.cell? ⟨g4,q4+j*9+1,none⟩=some (.int .u8 i2.o):=e4 j i2 gg2 1 _ rfl
    have v2:wr.cell? ⟨g4,q4+j*9+2,none⟩=some (.int .i64 i2.d):=e4 j i2 gg2 2 _ rfl
    have v3:wr.cell? ⟨g4,q4+j*9+3,none⟩=some (.int .i64 i2.a):=e4 j i2 gg2 3 _ rfl
    have v4:wr.cell? ⟨g4,q4+j*9+4,none⟩=some (.int .i64 i2.b):=e4 j i2 gg2 4 _ rfl
    have v5:wr.cell? ⟨g4,q4+j*9+5,none⟩=some (.int .i64 i2.ad):=e4 j i2 gg2 5 _ rfl
    have v6:wr.cell? ⟨g4,q4+j*9+6,none⟩=some (.int .i64 i2.tt):=e4 j i2 gg2 6 _ rfl
    have v7:wr.cell? ⟨g4,q4+j*9+7,none⟩=some (.int .i64 i2.wd):=e4 j i2 gg2 7 _ rfl
    have v8:wr.cell? ⟨g4,q4+j*9+8,none⟩=some (.int .i64 i2.fr):=e4 j i2 gg2 8 _ rfl
    have hjn':(j:Int)<(nc:Int):=by omega
    by_cases hii:i=i2
    · subst hii
      have HTJ2:=Lib.hid (take_two HTJ.out gg gg2)
      obtain ⟨k,o,d,a,b,ad,tt,wd,fr⟩:=i
      simp only at f0 f1 f2 f3 f4 f5 f6 f7 f8 v0 v1 v2 v3 v4 v5 v6 v7 v8
      clear e3 e4 gg gg2 jl jl2
      go_wp2_with fail
      go_quiet (fail)
      have HZ:=Lib.hid (HX.out.below (below_drewN (Below.refl _ wr) nq))
      go_wp2_with fail
      go_roundg (nc-(j+1)+1)
      case measure=>have:=HMJ.out;omega
      case rel=>exact ⟨j+1,by simp,by omega,by omega,HTJ2.out,HZ.out⟩
    · have HNP := Lib.hid (HNX.out (fun e => at_ne gg gg2 hii (by injection e)))
      obtain ⟨k,o,d,a,b,ad,tt,wd,fr⟩:=i
      obtain ⟨k2,o2,d2,a2,b2,ad2,tt2,wd2,fr2⟩:=i2
      simp only at f0 f1 f2 f3 f4 f5 f6 f7 f8 v0 v1 v2 v3 v4 v5 v6 v7 v8
      clear e3 e4 gg gg2 jl jl2 HNX HTX HP
      by_cases hqk:k=k2
      rotate_left
      · have qq : (k == k2) = false := by simpa using hqk
        clear hii
        go_wp2_with fail
        go_quiet (fail)
        have HZ:=Lib.hid (HX.out.below (below_drewN (Below.refl _ wr) nq))
        go_wp2_with fail
        go_ret
        exact ⟨false,rfl,iff_of_false (by simp) HNP.out,HZ.out.bel⟩
      subst hqk
      by_cases hqo:o=o2
      rotate_left
      · have qq : (o == o2) = false := by simpa using hqo
        clear hii
        go_wp2_with fail
        go_quiet (fail)
        have HZ:=Lib.hid (HX.out.below (below_drewN (Below.refl _ wr) nq))
        go_wp2_with fail
        go_ret
        exact ⟨false,rfl,iff_of_false (by simp) HNP.out,HZ.out.bel⟩
      subst hqo
      by_cases hqd:d=d2
      rotate_left
      · have qq : (d == d2) = false := by simpa using hqd
        clear hii
        go_wp2_with fail
        go_quiet (fail)
        have HZ:=Lib.hid (HX.out.below (below_drewN (Below.refl _ wr) nq))
        go_wp2_with fail
        go_ret
        exact ⟨false,rfl,iff_of_false (by simp) HNP.out,HZ.out.bel⟩
      subst hqd
      by_cases hqa:a=a2
      rotate_left
      · have qq : (a == a2) = false := by simpa using hqa
        clear hii
        go_wp2_with fail
        go_quiet (fail)
        have HZ:=Lib.hid (HX.out.below (below_drewN (Below.refl _ wr) nq))
        go_wp2_with fail
        go_ret
        exact ⟨false,rfl,iff_of_false (by simp) HNP.out,HZ.out.bel⟩
      subst hqa
      by_cases hqb:b=b2
      rotate_left
      · have qq : (b == b2) = false := by simpa using hqb
        clear hii
        go_wp2_with fail
        go_quiet (fail)
        have HZ:=Lib.hid (HX.out.below (below_drewN (Below.refl _ wr) nq))
        go_wp2_with fail
        go_ret
        exact ⟨false,rfl,iff_of_false (by simp) HNP.out,HZ.out.bel⟩
      subst hqb
      by_cases hqad:ad=ad2
      rotate_left
      · have qq : (ad == ad2) = false := by simpa using hqad
        clear hii
        go_wp2_with fail
        go_quiet (fail)
        have HZ:=Lib.hid (HX.out.below (below_drewN (Below.refl _ wr) nq))
        go_wp2_with fail
        go_ret
        exact ⟨false,rfl,iff_of_false (by simp) HNP.out,HZ.out.bel⟩
      subst hqad
      by_cases hqtt:tt=tt2
      rotate_left
      · have qq : (tt == tt2) = false := by simpa using hqtt
        clear hii
        go_wp2_with fail
        go_quiet (fail)
        have HZ:=Lib.hid (HX.out.below (below_drewN (Below.refl _ wr) nq))
        go_wp2_with fail
        go_ret
        exact ⟨false,rfl,iff_of_false (by simp) HNP.out,HZ.out.bel⟩
      subst hqtt
      by_cases hqwd:wd=wd2
      rotate_left
      · have qq : (wd == wd2) = false := by simpa using hqwd
        clear hii
        go_wp2_with fail
        go_quiet (fail)
        have HZ:=Lib.hid (HX.out.below (below_drewN (Below.refl _ wr) nq))
        go_wp2_with fail
        go_ret
        exact ⟨false,rfl,iff_of_false (by simp) HNP.out,HZ.out.bel⟩
      subst hqwd
      by_cases hqfr:fr=fr2
      rotate_left
      · have qq : (fr == fr2) = false := by simpa using hqfr
        clear hii
        go_wp2_with fail
        go_quiet (fail)
        have HZ:=Lib.hid (HX.out.below (below_drewN (Below.refl _ wr) nq))
        go_wp2_with fail
        go_ret
        exact ⟨false,rfl,iff_of_false (by simp) HNP.out,HZ.out.bel⟩
      subst hqfr
      exact absurd rfl hii
end Go.Proofs.YtmpljhfinmfnbaaGreatDoor

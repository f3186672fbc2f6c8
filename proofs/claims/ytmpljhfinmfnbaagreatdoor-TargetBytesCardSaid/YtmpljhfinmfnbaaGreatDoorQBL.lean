/- The proof, part 38: texts that belong together, in one. -/
import Derived.Test.YtmpljhfinmfnbaaGreatDoorQBK
import Derived.Test.YtmpljhfinmfnbaaGreatDoorQBB
import Derived.Test.YtmpljhfinmfnbaaGreatDoorQAZ
import Derived.Test.YtmpljhfinmfnbaaGreatDoorQAD
set_option maxRecDepth 100000
set_option maxHeartbeats 20000000
namespace Go.Proofs.YtmpljhfinmfnbaaGreatDoor
open Go.RowKit
set_option linter.unusedVariables false
set_option maxRecDepth 100000
theorem rcheck_any (o:Ob) (hg:rgO o) (hf:fitO o) {v:Value} {w:World} (hv:obA w o v):Calls Tryz.prog 15 #[v] w fun e w'=>e=chkE (chkO o)∧Below w.heap.size w w':=by
 have HTP:Hid (∀ W,Below w.heap.size w W→Calls Tryz.prog 40 #[v] W fun e w'=>e=.returned (.bool (topB o))∧Below W.heap.size W w'):=fun W hb=>rshaped_any o hf (obA_below hv hb)
 obtain ⟨a1,c1,a5,c5,rfl,_,h5⟩:=hv
 obtain ⟨r,hr⟩:∃ r,r=chkO o:=⟨_,rfl⟩
 rw [← hr]
 obtain ⟨l1,l5,hfc⟩:=hf
 have HRG:Hid (∀ c∈o.cores,∀ i∈c.code,rgI i):=hg.2.2.2.2
 obtain ⟨mem,sh,lk,bf,cores⟩:=o
 simp only [obV] at l1 l5 hfc h5 HTP HRG ⊢
 obtain ⟨n1,hn1⟩:∃ n,n=mem.length:=⟨_,rfl⟩
 obtain ⟨n5,hn5⟩:∃ n,n=cores.length:=⟨_,rfl⟩
 have hr2:r=(bif topB ⟨mem,sh,lk,bf,cores⟩ then (match badCs n1 cores with | some p=>((160:Int),(p.1:Int),(p.2:Int)) | none=>((0:Int),(0:Int),(0:Int))) else ((160:Int),(0:Int),(0:Int))):=by rw [hr,hn1];rfl
 rw [← hn1] at l1 HTP ⊢
 rw [← hn5] at l5 HTP ⊢
 generalize topB ⟨mem,sh,lk,bf,cores⟩=tb at HTP hr2
 have HR:=Lib.hid hr2
 have HN5:=Lib.hid hn5
 have HFC:=Lib.hid hfc
 have E5:=Lib.hid h5
 have O0:=Own.new w 25 #[.slice a1 n1 c1,.int .i64 sh,.int .i64 lk,.int .i64 bf,.slice a5 n5 c5]
 have B0:Below w.heap.size w (w.alloc (.cells #[.slice a1 n1 c1,.int .i64 sh,.int .i64 lk,.int .i64 bf,.slice a5 n5 c5] 25)):=(Below.refl _ w).alloc (Nat.le_refl _) _
 obtain ⟨W0,hW0⟩:∃ W,W=w.alloc (.cells #[.slice a1 n1 c1,.int .i64 sh,.int .i64 lk,.int .i64 bf,.slice a5 n5 c5] 25):=⟨_,rfl⟩
 rw [← hW0] at O0 B0
 have HW0:=Lib.hid hW0
 have HS0:Hid (Sq w #[.slice a1 n1 c1,.int .i64 sh,.int .i64 lk,.int .i64 bf,.slice a5 n5 c5] W0):=⟨O0,B0⟩
 clear hn1 hn5 hr hr2 hfc h5 hW0 B0 hg
 go_enter Tryz.func15,Tryz.ntmps15
 go_upto_region 1 with (fail)
 rw [← HW0.out]
 clear HW0
 go_wp2_with (refine ld rowO rfl rfl rfl O0 rfl ?_)
 go_at_call 40
 refine (HTP.out _ HS0.out.bel).mono ?_
 rintro e w1 ⟨rfl,hb⟩
 have HS1:=Lib.hid (HS0.out.below hb)
 clear hb O0 HS0 HTP
 cases tb with
 | false =>
   have hr:r=(160,0,0):=HR.out
   subst hr
   go_wp2_with fail
   refine bodyPost_ret (results_tmp3 rfl _ _ _) rfl ?_
   exact ⟨rfl,HS1.out.bel⟩
 | true =>
 replace HR:Hid (r=(match badCs n1 cores with | some p=>(160,(p.1:Int),(p.2:Int)) | none=>(0,0,0))):=HR.out
 go_wp2_with fail
 go_loopg [6] (n5+1) (fun m' u W=>∃ t:Nat,u=.int .i64 (t:Int)∧t≤n5∧m'=n5-t+1∧badCs n1 (cores.take t)=none∧Sq w #[.slice a1 n1 c1,.int .i64 sh,.int .i64 lk,.int .i64 bf,.slice a5 n5 c5] W)
 case atStart=>exact ⟨0,rfl,Nat.zero_le _,by omega,by rw [List.take_zero];rfl,HS1.out⟩
 case round =>
  clear HS1
  obtain ⟨t,rfl,ht,hm,hpre,hx⟩:=hrel
  have HM:=Lib.hid hm
  have HX:=Lib.hid hx
  have HPRE:=Lib.hid hpre
  have p4:=row_cellsO hx.bx 4 _ rfl
  clear hm hx hpre
  by_cases htn:t<n5
  rotate_left
  · have htn2 : t = n5 := by omega
    subst htn2
    have hr:r=(0,0,0):=by
     have h:=HPRE.out
     rw [show cores.take t=cores by rw [HN5.out,List.take_length]] at h
     rw [HR.out,h]
    subst hr
    go_wp2_with fail
    refine bodyPost_ret (results_tmp3 rfl _ _ _) rfl ?_
    exact ⟨rfl,HX.out.bel⟩
  have il:t<cores.length:=by have:=HN5.out;omega
  have g1:cores[t]? = some cores[t]:=List.getElem?_eq_getElem il
  have hmem:cores[t]∈cores:=List.getElem_mem il
  have htk:cores.take (t+1)=cores.take t++[cores[t]]:=by rw [List.take_succ_eq_append_getElem il]
  have hdr:cores=cores.take t++(cores[t]::cores.drop (t+1)):=by rw [← List.drop_eq_getElem_cons il,List.take_append_drop]
  generalize cores[t]=x at g1 hmem htk hdr
  have htl:(cores.take t).length=t:=by rw [List.length_take];omega
  have hbad:∀ k,badI x.code.length n1 x.code=some k→r=(160,(t:Int),(k:Int)):=fun k h=>by
   rw [HR.out,hdr,badCs_app,HPRE.out]
   simp only [badCs,h,Option.map_some,htl,Nat.zero_add]
  have hgood:badI x.code.length n1 x.code=none→badCs n1 (cores.take (t+1))=none:=fun h=>by
   rw [htk,badCs_app,HPRE.out]
   simp only [badCs,h,Option.map_none]
  rcases E5.out with e | ⟨g,q,rfl,e1⟩
  · subst e;simp at il
  obtain ⟨_,a2,c2,f1,y2⟩:=e1 t x g1
  obtain ⟨_,hz2⟩:=HFC.out x hmem
  have HRI:Hid (∀ i∈x.code,rgI i):=HRG.out x hmem
  obtain ⟨nm,cd⟩:=x
  simp only at f1 y2 hz2 hbad hgood HRI
  have htn':(t:Int)<(n5:Int):=by omega
  obtain ⟨nc,hnc⟩:∃ n,n=cd.length:=⟨_,rfl⟩
  rw [← hnc] at f1 hz2 hbad hgood
  have HNC:=Lib.hid hnc
  have HBAD:=Lib.hid hbad
  have HGOOD:=Lib.hid hgood
  have E2:=Lib.hid y2
  have HK1:Hid (∀ X,Below w.heap.size w X→X.cell? ⟨g,q+t*2+1,none⟩=some (.slice a2 nc c2)):=fun X h=>(h.cell (p:=⟨g,q+t*2+1,none⟩) (lt_of_at f1)).trans f1
  clear hbad hgood f1 y2 e1 g1 hmem htk hdr hnc il htl
  go_wp2_with fail
  clear p4
  go_loopg [7] (nc+1) (fun m' u W=>∃ j:Nat,u=.int .i64 (j:Int)∧j≤nc∧m'=nc-j+1∧badI nc n1 (cd.take j)=none∧Sq w #[.slice a1 n1 c1,.int .i64 sh,.int .i64 lk,.int .i64 bf,.slice (some ⟨g,q,none⟩) n5 c5] W)
  case atStart=>exact ⟨0,rfl,Nat.zero_le _,by omega,by rw [List.take_zero];rfl,HX.out⟩
  case round =>
   clear HX
   obtain ⟨j,rfl,hj,hmj,hpj,hy⟩:=hrel
   have HMJ:=Lib.hid hmj
   have HPJ:=Lib.hid hpj
   have HY:=Lib.hid hy
   have p4:=row_cellsO hy.bx 4 _ rfl
   have p0:=row_cellsO hy.bx 0 _ rfl
   have p6:=HK1.out _ hy.bel
   clear hmj hpj hy
   by_cases hjn:j<nc
   rotate_left
   · have hjn2 : j = nc := by omega
     subst hjn2
     have HG:=Lib.hid (HGOOD.out (by
      have h:=HPJ.out
      rwa [show cd.take j=cd by rw [HNC.out,List.take_length]] at h))
     go_wp2_with fail
     go_roundg (n5-(t+1)+1)
     case measure=>have:=HM.out;omega
     case rel=>exact ⟨t+1,by simp,by omega,by omega,HG.out,HY.out⟩
   have jl:j<cd.length:=by have:=HNC.out;omega
   have g2:cd[j]? = some cd[j]:=List.getElem?_eq_getElem jl
   have hme2:cd[j]∈cd:=List.getElem_mem jl
   have htk2:cd.take (j+1)=cd.take j++[cd[j]]:=by rw [List.take_succ_eq_append_getElem jl]
   have hdr2:cd=cd.take j++(cd[j]::cd.drop (j+1)):=by rw [← List.drop_eq_getElem_cons jl,List.take_append_drop]
   generalize cd[j]=i at g2 hme2 htk2 hdr2
   have htl2:(cd.take j).length=j:=by rw [List.length_take];omega
   have hbad2:rightB i nc n1=false→r=(160,(t:Int),(j:Int)):=fun h=>HBAD.out j (by
    rw [hdr2,badI_app,HPJ.out]
    simp only [badI,h,cond_false,Option.map_some,htl2,Nat.zero_add])
   have hgood2:rightB i nc n1=true→badI nc n1 (cd.take (j+1))=none:=fun h=>by
    rw [htk2,badI_app,HPJ.out]
    simp only [badI,h,cond_true,Option.map_none]
   rcases E2.out with e | ⟨g',q',rfl,e2⟩
   · subst e;simp at jl
   have e3:=e2 j i g2
   have hri:=HRI.out i hme2
   have HRT:Hid (∀ W,Calls Tryz.prog 41 #[insV i,.int .i64 nc,.int .i64 n1] W fun e w'=>e=.returned (.bool (rightB i nc n1))∧Below W.heap.size W w'):=fun W=>rright_any i hri nc n1 W
   generalize rightB i nc n1=rb at HRT hbad2 hgood2
   have BX:=HY.out.bel
   have f0:wr.cell? ⟨g',q'+j*9,none⟩=some (.int .u8 i.k):=(BX.cell (p:=⟨g',q'+j*9,none⟩) (lt_of_at (e3 0 _ rfl))).trans (e3 0 _ rfl)
   have f1:wr.cell? ⟨g',q'+j*9+1,none⟩=some (.int .u8 i.o):=(BX.cell (p:=⟨g',q'+j*9+1,none⟩) (lt_of_at (e3 1 _ rfl))).trans (e3 1 _ rfl)
   have f2:wr.cell? ⟨g',q'+j*9+2,none⟩=some (.int .i64 i.d):=(BX.cell (p:=⟨g',q'+j*9+2,none⟩) (lt_of_at (e3 2 _ rfl))).trans (e3 2 _ rfl)
   have f3:wr.cell? ⟨g',q'+j*9+3,none⟩=some (.int .i64 i.a):=(BX.cell (p:=⟨g',q'+j*9+3,none⟩) (lt_of_at (e3 3 _ rfl))).trans (e3 3 _ rfl)
   have f4:wr.cell? ⟨g',q'+j*9+4,none⟩=some (.int .i64 i.b):=(BX.cell (p:=⟨g',q'+j*9+4,none⟩) (lt_of_at (e3 4 _ rfl))).trans (e3 4 _ rfl)
   have f5:wr.cell? ⟨g',q'+j*9+5,none⟩=some (.int .i64 i.ad):=(BX.cell (p:=⟨g',q'+j*9+5,none⟩) (lt_of_at (e3 5 _ rfl))).trans (e3 5 _ rfl)
   have f6:wr.cell? ⟨g',q'+j*9+6,none⟩=some (.int .i64 i.tt):=(BX.cell (p:=⟨g',q'+j*9+6,none⟩) (lt_of_at (e3 6 _ rfl))).trans (e3 6 _ rfl)
   have f7:wr.cell? ⟨g',q'+j*9+7,none⟩=some (.int .i64 i.wd):=(BX.cell (p:=⟨g',q'+j*9+7,none⟩) (lt_of_at (e3 7 _ rfl))).trans (e3 7 _ rfl)
   have f8:wr.cell? ⟨g',q'+j*9+8,none⟩=some (.int .i64 i.fr):=(BX.cell (p:=⟨g',q'+j*9+8,none⟩) (lt_of_at (e3 8 _ rfl))).trans (e3 8 _ rfl)
   obtain ⟨k,o,d,a,b,ad,tt,wd,fr⟩:=i
   simp only [insC,insV] at f0 f1 f2 f3 f4 f5 f6 f7 f8 HRT
   have hjn':(j:Int)<(nc:Int):=by omega
   have HBAD2:=Lib.hid hbad2
   have HGOOD2:=Lib.hid hgood2
   clear hbad2 hgood2 BX e2 e3 g2 hme2 htk2 hdr2 jl htl2 hri
   go_wp2_with fail
   go_still_tail 19,(by kernel_rfl)
   change wpList _ _ _ _ _ wr.drew
   have HYD:=Lib.hid (HY.out.below (below_drewN (Below.refl _ wr) 1))
   obtain ⟨W4,hW4⟩:∃ W,W=wr.drew:=⟨_,rfl⟩
   change Hid (Sq _ _ wr.drew) at HYD
   rw [← hW4] at HYD ⊢
   clear hW4 p4 p0 p6 f0 f1 f2 f3 f4 f5 f6 f7 f8 HY
   go_wp2_with fail
   go_at_call 41
   refine (HRT.out _).mono ?_
   rintro e w9 ⟨rfl,hb⟩
   have HY9:=Lib.hid (HYD.out.below hb)
   clear hb HYD HRT
   cases rb with
   | false =>
     have hr:=HBAD2.out rfl
     subst hr
     go_wp2_with fail
     refine bodyPost_ret (results_tmp3 rfl _ _ _) rfl ?_
     exact ⟨rfl,HY9.out.bel⟩
   | true =>
     have HG:=Lib.hid (HGOOD2.out rfl)
     go_wp2_with fail
     go_roundg (nc-(j+1)+1)
     case measure=>have:=HMJ.out;omega
     case rel=>exact ⟨j+1,by simp,by omega,by omega,HG.out,HY9.out⟩
open Go.RowKit
set_option linter.unusedVariables false
set_option maxRecDepth 100000
structure Sm (w:World) (ra rb:Array Value) (X:World):Prop where
 a:Own X w.heap.size 25 ra
 b:Own X (w.heap.size+1) 25 rb
 bel:Below w.heap.size w X
theorem Sm.below {w X Y:World} {ra rb:Array Value} (h:Sm w ra rb X) (hb:Below X.heap.size X Y):Sm w ra rb Y:=⟨h.a.below hb,h.b.below hb,h.bel.trans (hb.mono h.bel.size)⟩
theorem rsame_any (o:Ob) (hf:fitO o) {v u:Value} {w:World} (hv:obA w o v) (hu:obA w o u):Calls Tryz.prog 9 #[v,u] w fun e w'=>e=.returned (.bool true)∧Below w.heap.size w w':=by
 obtain ⟨a1,c1,a5,c5,rfl,h1,h5⟩:=hv
 obtain ⟨b1,d1,b5,d5,rfl,k1,k5⟩:=hu
 obtain ⟨f1,f5,fc⟩:=hf
 obtain ⟨mem,sh,lk,bf,cores⟩:=o
 simp only [obV] at *
 obtain ⟨n1,hn1⟩:∃ n,n=mem.length:=⟨_,rfl⟩
 obtain ⟨n5,hn5⟩:∃ n,n=cores.length:=⟨_,rfl⟩
 rw [← hn1] at f1 ⊢
 rw [← hn5] at f5 ⊢
 have HN:=Lib.hid (And.intro hn1 hn5)
 have HA1:=Lib.hid h1
 have HA5:=Lib.hid h5
 have HB1:=Lib.hid k1
 have HB5:=Lib.hid k5
 have HFC:=Lib.hid fc
 have B0:Below w.heap.size w ((w.alloc (.cells #[.slice a1 n1 c1,.int .i64 sh,.int .i64 lk,.int .i64 bf,.slice a5 n5 c5] 25)).alloc (.cells #[.slice b1 n1 d1,.int .i64 sh,.int .i64 lk,.int .i64 bf,.slice b5 n5 d5] 25)):=((Below.refl _ w).alloc (Nat.le_refl _) _).alloc (by simp) _
 have OA:Own ((w.alloc (.cells #[.slice a1 n1 c1,.int .i64 sh,.int .i64 lk,.int .i64 bf,.slice a5 n5 c5] 25)).alloc (.cells #[.slice b1 n1 d1,.int .i64 sh,.int .i64 lk,.int .i64 bf,.slice b5 n5 d5] 25)) w.heap.size 25 #[.slice a1 n1 c1,.int .i64 sh,.int .i64 lk,.int .i64 bf,.slice a5 n5 c5]:=(Own.new w 25 #[.slice a1 n1 c1,.int .i64 sh,.int .i64 lk,.int .i64 bf,.slice a5 n5 c5]).alloc _
 have OB:Own ((w.alloc (.cells #[.slice a1 n1 c1,.int .i64 sh,.int .i64 lk,.int .i64 bf,.slice a5 n5 c5] 25)).alloc (.cells #[.slice b1 n1 d1,.int .i64 sh,.int .i64 lk,.int .i64 bf,.slice b5 n5 d5] 25)) (w.heap.size+1) 25 #[.slice b1 n1 d1,.int .i64 sh,.int .i64 lk,.int .i64 bf,.slice b5 n5 d5]:=by
  have h:=Own.new (w.alloc (.cells #[.slice a1 n1 c1,.int .i64 sh,.int .i64 lk,.int .i64 bf,.slice a5 n5 c5] 25)) 25 #[.slice b1 n1 d1,.int .i64 sh,.int .i64 lk,.int .i64 bf,.slice b5 n5 d5]
  rwa [World.size_alloc] at h
 obtain ⟨W0,hW0⟩:∃ W,W=(w.alloc (.cells #[.slice a1 n1 c1,.int .i64 sh,.int .i64 lk,.int .i64 bf,.slice a5 n5 c5] 25)).alloc (.cells #[.slice b1 n1 d1,.int .i64 sh,.int .i64 lk,.int .i64 bf,.slice b5 n5 d5] 25):=⟨_,rfl⟩
 rw [← hW0] at B0 OA OB
 have HW0:=Lib.hid hW0
 have HS0:Hid (Sm w #[.slice a1 n1 c1,.int .i64 sh,.int .i64 lk,.int .i64 bf,.slice a5 n5 c5] #[.slice b1 n1 d1,.int .i64 sh,.int .i64 lk,.int .i64 bf,.slice b5 n5 d5] W0):=⟨OA,OB,B0⟩
 have HCL:Hid (∀ X,Sm w #[.slice a1 n1 c1,.int .i64 sh,.int .i64 lk,.int .i64 bf,.slice a5 n5 c5] #[.slice b1 n1 d1,.int .i64 sh,.int .i64 lk,.int .i64 bf,.slice b5 n5 d5] X→(X.cell? ⟨w.heap.size,0,none⟩=some (.slice a1 n1 c1)∧X.cell? ⟨w.heap.size,1,none⟩=some (.int .i64 sh)∧X.cell? ⟨w.heap.size,2,none⟩=some (.int .i64 lk)∧X.cell? ⟨w.heap.size,3,none⟩=some (.int .i64 bf)∧X.cell? ⟨w.heap.size,4,none⟩=some (.slice a5 n5 c5))∧(X.cell? ⟨w.heap.size+1,0,none⟩=some (.slice b1 n1 d1)∧X.cell? ⟨w.heap.size+1,1,none⟩=some (.int .i64 sh)∧X.cell? ⟨w.heap.size+1,2,none⟩=some (.int .i64 lk)∧X.cell? ⟨w.heap.size+1,3,none⟩=some (.int .i64 bf)∧X.cell? ⟨w.heap.size+1,4,none⟩=some (.slice b5 n5 d5))):=fun X h =>
  ⟨⟨row_cellsO h.a 0 _ rfl,row_cellsO h.a 1 _ rfl,row_cellsO h.a 2 _ rfl,row_cellsO h.a 3 _ rfl,row_cellsO h.a 4 _ rfl⟩,row_cellsO h.b 0 _ rfl,row_cellsO h.b 1 _ rfl,row_cellsO h.b 2 _ rfl,row_cellsO h.b 3 _ rfl,row_cellsO h.b 4 _ rfl⟩
 clear hn1 hn5 h1 h5 k1 k5 fc B0 OA OB hW0
 go_enter Tryz.func9,Tryz.ntmps9
 go_upto_region 1 with fail
 rw [← HW0.out]
 clear HW0
 obtain ⟨⟨p0,p1,p2,p3,p4⟩,r0,r1,r2,r3,r4⟩:=HCL.out _ HS0.out
 go_wp2_with fail
 clear p0 p1 p2 p3 p4 r0 r1 r2 r3 r4
 go_loopg [5] (n1+1) (fun m' z X=>∃ t:Nat,z=.int .i64 (t:Int)∧t≤n1∧m'=n1-t+1∧Sm w #[.slice a1 n1 c1,.int .i64 sh,.int .i64 lk,.int .i64 bf,.slice a5 n5 c5] #[.slice b1 n1 d1,.int .i64 sh,.int .i64 lk,.int .i64 bf,.slice b5 n5 d5] X)
 case atStart=>exact ⟨0,rfl,Nat.zero_le _,by omega,HS0.out⟩
 case round =>
  clear HS0
  obtain ⟨t,rfl,ht,hm,hx⟩:=hrel
  have HM:=Lib.hid hm
  have HX:=Lib.hid hx
  obtain ⟨⟨p0,p1,p2,p3,p4⟩,r0,r1,r2,r3,r4⟩:=HCL.out _ hx
  clear hm hx
  by_cases htn:t<n1
  · have il : t < mem.length := by have := HN.out.1; omega
    have g1:mem[t]? = some mem[t]:=List.getElem?_eq_getElem il
    generalize mem[t]=x at g1
    rcases intsAt_below HA1.out HX.out.bel with e | ⟨g,q,rfl,e1⟩
    · subst e;simp at il
    rcases intsAt_below HB1.out HX.out.bel with e | ⟨g',q',rfl,e2⟩
    · subst e;simp at il
    have y1:=e1 t x g1
    have y2:=e2 t x g1
    have htn':(t:Int)<(n1:Int):=by omega
    clear e1 e2 g1 il
    go_wp2_with fail
    go_quiet (fail)
    have HZ:=Lib.hid (HX.out.below (below_drewN (Below.refl _ wr) nq))
    go_wp2_with fail
    go_roundg (n1-(t+1)+1)
    case measure=>have:=HM.out;omega
    case rel=>exact ⟨t+1,by simp,by omega,by omega,HZ.out⟩
  obtain rfl:t=n1:=by omega
  go_wp2_with fail
  clear p0 p1 p2 p3 p4 r0 r1 r2 r3 r4
  go_loopg [6] (n5+1) (fun m' z X=>∃ s:Nat,z=.int .i64 (s:Int)∧s≤n5∧m'=n5-s+1∧Sm w #[.slice a1 t c1,.int .i64 sh,.int .i64 lk,.int .i64 bf,.slice a5 n5 c5] #[.slice b1 t d1,.int .i64 sh,.int .i64 lk,.int .i64 bf,.slice b5 n5 d5] X)
  case atStart=>exact ⟨0,rfl,Nat.zero_le _,by omega,HX.out⟩
  case round =>
   clear HX
   obtain ⟨s,rfl,hs,hms,hx⟩:=hrel
   have HMS:=Lib.hid hms
   have HX:=Lib.hid hx
   obtain ⟨⟨p0,p1,p2,p3,p4⟩,r0,r1,r2,r3,r4⟩:=HCL.out _ hx
   clear hms hx
   by_cases hsn:s<n5
   rotate_left
   · obtain rfl : s = n5 := by omega
     go_wp2_with fail
     go_ret
     exact ⟨rfl,HX.out.bel⟩
   have il:s<cores.length:=by have:=HN.out.2;omega
   have g1:cores[s]? = some cores[s]:=List.getElem?_eq_getElem il
   have hlc:=(HFC.out _ (List.getElem_mem il)).2
   generalize cores[s]=x at g1 hlc
   rcases HA5.out with e | ⟨g,q,rfl,e1⟩
   · subst e;simp at il
   rcases HB5.out with e | ⟨g',q',rfl,e2⟩
   · subst e;simp at il
   obtain ⟨y1,m1,l1,y2,y3⟩:=e1 s x g1
   obtain ⟨z1,m2,l2,z2,z3⟩:=e2 s x g1
   have HCB:Hid (∀ X,Below w.heap.size w X→(X.cell? ⟨g,q+s*2,none⟩=some (.string x.name)∧X.cell? ⟨g,q+s*2+1,none⟩=some (.slice m1 x.code.length l1))∧X.cell? ⟨g',q'+s*2,none⟩=some (.string x.name)∧X.cell? ⟨g',q'+s*2+1,none⟩=some (.slice m2 x.code.length l2)):=fun X h=>⟨⟨(h.cell (p:=⟨g,q+s*2,none⟩) (lt_of_at y1)).trans y1,(h.cell (p:=⟨g,q+s*2+1,none⟩) (lt_of_at y2)).trans y2⟩,(h.cell (p:=⟨g',q'+s*2,none⟩) (lt_of_at z1)).trans z1,(h.cell (p:=⟨g',q'+s*2+1,none⟩) (lt_of_at z2)).trans z2⟩
   have HI1:=Lib.hid y3
   have HI2:=Lib.hid z3
   obtain ⟨nm,cd⟩:=x
   simp only at HCB HI1 HI2 hlc
   obtain ⟨nc,hnc⟩:∃ n,n=cd.length:=⟨_,rfl⟩
   rw [← hnc] at HCB hlc
   have HNC:=Lib.hid hnc
   have hsn':(s:Int)<(n5:Int):=by omega
   have hnn:(nm.toList==nm.toList)=true:=by simp
   obtain ⟨⟨y1',y2'⟩,z1',z2'⟩:=HCB.out _ HX.out.bel
   clear y1 y2 y3 z1 z2 z3 e1 e2 g1 il hnc
   go_wp2_with fail
   go_quiet (fail)
   have HX2:=Lib.hid (HX.out.below (below_drewN (Below.refl _ wr) nq))
   obtain ⟨W2,hW2⟩:∃ W,W=wr.drewN nq:=⟨_,rfl⟩
   rw [← hW2] at HX2 ⊢
   clear hW2 HX p0 p1 p2 p3 p4 r0 r1 r2 r3 r4 y1' y2' z1' z2'
   go_wp2_with fail
   go_loopg [7] (nc+1) (fun m' z X=>∃ j:Nat,z=.int .i64 (j:Int)∧j≤nc∧m'=nc-j+1∧Sm w #[.slice a1 t c1,.int .i64 sh,.int .i64 lk,.int .i64 bf,.slice (some ⟨g,q,none⟩) n5 c5] #[.slice b1 t d1,.int .i64 sh,.int .i64 lk,.int .i64 bf,.slice (some ⟨g',q',none⟩) n5 d5] X)
   case atStart=>exact ⟨0,rfl,Nat.zero_le _,by omega,HX2.out⟩
   case round =>
    clear HX2
    obtain ⟨j,rfl,hj,hmj,hx⟩:=hrel
    have HMJ:=Lib.hid hmj
    have HX:=Lib.hid hx
    obtain ⟨⟨p0,p1,p2,p3,p4⟩,r0,r1,r2,r3,r4⟩:=HCL.out _ hx
    obtain ⟨⟨y1',y2'⟩,z1',z2'⟩:=HCB.out _ hx.bel
    clear hmj hx
    by_cases hjn:j<nc
    rotate_left
    · obtain rfl : j = nc := by omega
      go_wp2_with fail
      go_roundg (n5-(s+1)+1)
      case measure=>have:=HMS.out;omega
      case rel=>exact ⟨s+1,by simp,by omega,by omega,HX.out⟩
    have jl:j<cd.length:=by have:=HNC.out;omega
    have gg:cd[j]? = some cd[j]:=List.getElem?_eq_getElem jl
    generalize cd[j]=i at gg
    rcases insAt_below HI1.out HX.out.bel with e | ⟨g3,q3,rfl,e3⟩
    · subst e;simp at jl
    rcases insAt_below HI2.out HX.out.bel with e | ⟨g4,q4,rfl,e4⟩
    · subst e;simp at jl
    have f0:wr.cell? ⟨g3,q3+j*9,none⟩=some (.int .u8 i.k):=e3 j i gg 0 _ rfl
    have f1:wr.cell? ⟨g3,q3+j*9+1,none⟩=some (.int .u8 i.o):=e3 j i gg 1 _ rfl
    have f2:wr.cell? ⟨g3,q3+j*9+2,none⟩=some (.int .i64 i.d):=e3 j i gg 2 _ rfl
    have f3:wr.cell? ⟨g3,q3+j*9+3,none⟩=some (.int .i64 i.a):=e3 j i gg 3 _ rfl
    have f4:wr.cell? ⟨g3,q3+j*9+4,none⟩=some (.int .i64 i.b):=e3 j i gg 4 _ rfl
    have f5:wr.cell? ⟨g3,q3+j*9+5,none⟩=some (.int .i64 i.ad):=e3 j i gg 5 _ rfl
    have f6:wr.cell? ⟨g3,q3+j*9+6,none⟩=some (.int .i64 i.tt):=e3 j i gg 6 _ rfl
    have f7:wr.cell? ⟨g3,q3+j*9+7,none⟩=some (.int .i64 i.wd):=e3 j i gg 7 _ rfl
    have f8:wr.cell? ⟨g3,q3+j*9+8,none⟩=some (.int .i64 i.fr):=e3 j i gg 8 _ rfl
    have v0:wr.cell? ⟨g4,q4+j*9,none⟩=some (.int .u8 i.k):=e4 j i gg 0 _ rfl
    have v1:wr.cell? ⟨g4,q4+j*9+1,none⟩=some (.int .u8 i.o):=e4 j i gg 1 _ rfl
    have v2:wr.cell? ⟨g4,q4+j*9+2,none⟩=some (.int .i64 i.d):=e4 j i gg 2 _ rfl
    have v3:wr.cell? ⟨g4,q4+j*9+3,none⟩=some (.int .i64 i.a):=e4 j i gg 3 _ rfl
    have v4:wr.cell? ⟨g4,q4+j*9+4,none⟩=some (.int .i64 i.b):=e4 j i gg 4 _ rfl
    have v5:wr.cell? ⟨g4,q4+j*9+5,none⟩=some (.int .i64 i.ad):=e4 j i gg 5 _ rfl
    have v6:wr.cell? ⟨g4,q4+j*9+6,none⟩=some (.int .i64 i.tt):=e4 j i gg 6 _ rfl
    have v7:wr.cell? ⟨g4,q4+j*9+7,none⟩=some (.int .i64 i.wd):=e4 j i gg 7 _ rfl
    have v8:wr.cell? ⟨g4,q4+j*9+8,none⟩=some (.int .i64 i.fr):=e4 j i gg 8 _ rfl
    obtain ⟨k,o,d,a,b,ad,tt,wd,fr⟩:=i
    simp only at f0 f1 f2 f3 f4 f5 f6 f7 f8 v0 v1 v2 v3 v4 v5 v6 v7 v8
    have hjn':(j:Int)<(nc:Int):=by omega
    clear e3 e4 gg jl
    go_wp2_with fail
    go_quiet (fail)
    have HZ:=Lib.hid (HX.out.below (below_drewN (Below.refl _ wr) nq))
    go_wp2_with fail
    go_roundg (nc-(j+1)+1)
    case measure=>have:=HMJ.out;omega
    case rel=>exact ⟨j+1,by simp,by omega,by omega,HZ.out⟩
open Go.RowKit
def fitW (o:Ob):Prop:=o.mem.length*8≤140737488351232∧o.cores.length*40≤140737488351232∧∀ c∈o.cores,c.code.length*64≤140737488351232
end Go.Proofs.YtmpljhfinmfnbaaGreatDoor

/- The proof, part 5: texts that belong together, in one. -/
import Derived.Test.YtmpljhfinmfnbaaGreatDoorQAD
import Derived.Lib.AppendStr
import Derived.Lib.Builder
import Derived.Lib.UnsafeStr
import Derived.Lib.Strings
import Derived.Laws.Externs
import Derived.Shelf.RegionOpenPlain
set_option maxRecDepth 100000
set_option maxHeartbeats 20000000
namespace Go.Proofs.YtmpljhfinmfnbaaGreatDoor
open Go.RowKit Go.Maps
set_option linter.unusedVariables false
set_option maxRecDepth 100000
def badI (n mem:Int):List Ins→Option Nat
 | []=>none
 | i::r=>bif rightB i n mem then (badI n mem r).map (· + 1) else some 0
def badCs (mem:Int):List Cor→Option (Nat × Nat)
 | []=>none
 | c :: r => match badI c.code.length mem c.code with
   | some k=>some (0,k)
   | none=>(badCs mem r).map fun p=>(p.1+1,p.2)
theorem badI_app (n mem:Int):∀ l r:List Ins,badI n mem (l++r)=match badI n mem l with | some k=>some k | none=>(badI n mem r).map (· + l.length)
 | [],r=>by simp [badI]
 | i :: l, r => by
   simp only [List.cons_append,badI]
   rw [badI_app n mem l r]
   cases rightB i n mem with
   | false=>rfl
   | true =>
     simp only [cond_true]
     cases badI n mem l with
     | some k=>rfl
     | none =>
       simp only [Option.map_none,List.length_cons]
       cases badI n mem r with
       | none=>rfl
       | some k=>simp only [Option.map_some,Option.some.injEq];omega
theorem badCs_app (mem:Int):∀ l r:List Cor,badCs mem (l++r)=match badCs mem l with | some k=>some k | none=>(badCs mem r).map fun p=>(p.1+l.length,p.2)
 | [],r=>by simp [badCs]
 | c :: l, r => by
   simp only [List.cons_append,badCs]
   cases badI c.code.length mem c.code with
   | some k=>rfl
   | none =>
     simp only
     rw [badCs_app mem l r]
     cases badCs mem l with
     | some k=>rfl
     | none =>
       simp only [Option.map_none,List.length_cons]
       cases badCs mem r with
       | none=>rfl
       | some k=>simp only [Option.map_some,Option.some.injEq,Prod.mk.injEq,and_true];omega
def chkO (o:Ob):Int × Int × Int:=bif topB o then (match badCs o.mem.length o.cores with | some p=>(160,(p.1:Int),(p.2:Int)) | none=>(0,0,0)) else (160,0,0)
def chkE (p:Int × Int × Int):Ending:=.returned (.tuple #[.int .i64 p.1,.int .i64 p.2.1,.int .i64 p.2.2])
def Kst (w:World) (mem:Int) (ro:Array Value) (l:List Cor) (W:World):Prop:=badCs mem l=none∧Below w.heap.size w W∧Own W w.heap.size 25 ro
def Kin (w:World) (ro:Array Value) (g:Nat) (row:Array Value) (n mem:Int) (l:List Ins) (W:World):Prop:=badI n mem l=none∧Own W g 70 row∧Below w.heap.size w W∧Own W w.heap.size 25 ro
theorem rowO:RowT 25 5:=⟨_,Tryz.underlying25,rfl,by kernel_rfl⟩
theorem check_any (o:Ob) (hg:rgO o) (hf:fitO o) {v:Value} {w:World} (hv:obA w o v) (T:TgT w):Calls Tryz.prog 23 #[v] w fun e w'=>e=chkE (chkO o)∧Below w.heap.size w w':=by
 have HTP:Hid (∀ W,Below w.heap.size w W→Calls Tryz.prog 63 #[v] W fun e w'=>e=.returned (.bool (topB o))∧Below W.heap.size W w'):=fun W hb=>top_any o hf (obA_below hv hb) (T.below hb)
 obtain ⟨a1,c1,a5,c5,rfl,_,h5⟩:=hv
 obtain ⟨r,hr⟩:∃ r,r=chkO o:=⟨_,rfl⟩
 rw [← hr]
 obtain ⟨l1,l5,hfc⟩:=hf
 have HRG:Hid (∀ c∈o.cores,∀ i∈c.code,rgI i):=hg.2.2.2.2
 obtain ⟨mem,sh,lk,bf,cores⟩:=o
 simp only [obV] at l1 l5 hfc h5 HTP HRG ⊢
 obtain ⟨n1,hn1⟩:∃ n,n=mem.length:=⟨_,rfl⟩
 obtain ⟨n5,hn5⟩:∃ n,n=cores.length:=⟨_,rfl⟩
 have hr2:r=(bif topB ⟨mem,sh,lk,bf,cores⟩ then (match badCs n1 cores with | some p=>((160:Int),(p.1:Int),(p.2:Int)) | none=>((0:Int),(0:Int),(0:Int))) else ((160:Int),(0:Int),(0:Int))):=by rw [hr,hn1];rfl
 rw [← hn1] at l1 HTP ⊢
 rw [← hn5] at l5 HTP ⊢
 generalize topB ⟨mem,sh,lk,bf,cores⟩=tb at HTP hr2
 have HR:=Lib.hid hr2
 have HN5:=Lib.hid hn5
 have HFC:=Lib.hid hfc
 have E5:=Lib.hid h5
 have HT:=Lib.hid T
 have O0:=Own.new w 25 #[.slice a1 n1 c1,.int .i64 sh,.int .i64 lk,.int .i64 bf,.slice a5 n5 c5]
 have B0:Below w.heap.size w (w.alloc (.cells #[.slice a1 n1 c1,.int .i64 sh,.int .i64 lk,.int .i64 bf,.slice a5 n5 c5] 25)):=(Below.refl _ w).alloc (Nat.le_refl _) _
 obtain ⟨W0,hW0⟩:∃ W,W=w.alloc (.cells #[.slice a1 n1 c1,.int .i64 sh,.int .i64 lk,.int .i64 bf,.slice a5 n5 c5] 25):=⟨_,rfl⟩
 rw [← hW0] at O0 B0
 have HW0:=Lib.hid hW0
 have HB0:=Lib.hid B0
 have HO0:=Lib.hid O0
 clear hn1 hn5 hr hr2 hfc h5 T hW0 B0 hg
 go_enter Tryz.func23,Tryz.ntmps23
 go_upto_region 1 with (fail)
 rw [← HW0.out]
 clear HW0
 go_wp2_with (refine ld rowO rfl rfl rfl O0 rfl ?_)
 go_at_call 63
 refine (HTP.out _ HB0.out).mono ?_
 rintro e w1 ⟨rfl,hb⟩
 have HO1:=Lib.hid (HO0.out.below hb)
 have HB1:=Lib.hid (HB0.out.trans (hb.mono HB0.out.size))
 clear hb O0 HO0 HB0 HTP
 cases tb with
 | false =>
   have hr:r=(160,0,0):=HR.out
   subst hr
   go_wp2_with fail
   refine bodyPost_ret (results_tmp3 rfl _ _ _) rfl ?_
   exact ⟨rfl,HB1.out⟩
 | true =>
 replace HR:Hid (r=(match badCs n1 cores with | some p=>(160,(p.1:Int),(p.2:Int)) | none=>(0,0,0))):=HR.out
 have c4:w1.cell? ⟨w.heap.size,4,none⟩=some (.slice a5 n5 c5):=by rw [cell_of_row _ _ 4 _ _ _ HO1.out];rfl
 have HX0:Hid (Kst w n1 #[.slice a1 n1 c1,.int .i64 sh,.int .i64 lk,.int .i64 bf,.slice a5 n5 c5] [] w1):=⟨rfl,HB1.out,HO1.out⟩
 go_wp2_with fail
 go_loopg [15] (n5+1) (fun m' u W=>∃ t:Nat,u=.int .i64 (t:Int)∧t≤n5∧m'=n5-t+1∧Kst w n1 #[.slice a1 n1 c1,.int .i64 sh,.int .i64 lk,.int .i64 bf,.slice a5 n5 c5] (cores.take t) W)
 case atStart=>exact ⟨0,rfl,Nat.zero_le _,by omega,by rw [List.take_zero];exact HX0.out⟩
 case round =>
  clear HX0 c4
  obtain ⟨t,rfl,ht,hm,hx⟩:=hrel
  have HM:=Lib.hid hm
  have HX:=Lib.hid hx
  clear hm hx
  by_cases htn:t<n5
  rotate_left
  · have htn2 : t = n5 := by omega
    subst htn2
    have hr:r=(0,0,0):=by
     have h:=HX.out.1
     rw [show cores.take t=cores by rw [HN5.out,List.take_length]] at h
     rw [HR.out,h]
    subst hr
    go_wp2_with fail
    refine bodyPost_ret (results_tmp3 rfl _ _ _) rfl ?_
    exact ⟨rfl,HX.out.2.1⟩
  have il:t<cores.length:=by have:=HN5.out;omega
  have g1:cores[t]? = some cores[t]:=List.getElem?_eq_getElem il
  have hmem:cores[t]∈cores:=List.getElem_mem il
  have htk:cores.take (t+1)=cores.take t++[cores[t]]:=by rw [List.take_succ_eq_append_getElem il]
  have hdr:cores=cores.take t++(cores[t]::cores.drop (t+1)):=by rw [← List.drop_eq_getElem_cons il,List.take_append_drop]
  generalize cores[t]=x at g1 hmem htk hdr
  have htl:(cores.take t).length=t:=by rw [List.length_take];omega
  have hbad:∀ k,badI x.code.length n1 x.code=some k→r=(160,(t:Int),(k:Int)):=fun k h=>by
   rw [HR.out,hdr,badCs_app,HX.out.1]
   simp only [badCs,h,Option.map_some,htl,Nat.zero_add]
  have hgood:badI x.code.length n1 x.code=none→badCs n1 (cores.take (t+1))=none:=fun h=>by
   rw [htk,badCs_app,HX.out.1]
   simp only [badCs,h,Option.map_none]
  rcases E5.out with e | ⟨g,q,e,e1⟩
  · subst e;simp at il
  obtain rfl:a5=some ⟨g,q,none⟩:=e
  obtain ⟨f0,a2,c2,f1,y2⟩:=e1 t x g1
  obtain ⟨_,hz2⟩:=HFC.out x hmem
  have HRI:Hid (∀ i∈x.code,rgI i):=HRG.out x hmem
  obtain ⟨nm,cd⟩:=x
  simp only at f0 f1 y2 hz2 hbad hgood HRI
  have BX:=HX.out.2.1
  have k0':wr.cell? ⟨g,q+t*2,none⟩=some (.string nm):=(BX.cell (p:=⟨g,q+t*2,none⟩) (lt_of_at f0)).trans f0
  have k1':wr.cell? ⟨g,q+t*2+1,none⟩=some (.slice a2 cd.length c2):=(BX.cell (p:=⟨g,q+t*2+1,none⟩) (lt_of_at f1)).trans f1
  have htn':(t:Int)<(n5:Int):=by omega
  obtain ⟨nc,hnc⟩:∃ n,n=cd.length:=⟨_,rfl⟩
  rw [← hnc] at k1' hz2 hbad hgood
  have HNC:=Lib.hid hnc
  have O1:=Own.new wr 70 #[.string nm,.slice a2 nc c2]
  have B1:=BX.alloc BX.size (.cells #[.string nm,.slice a2 nc c2] 70)
  obtain ⟨W2,hW2⟩:∃ W,W=wr.alloc (.cells #[.string nm,.slice a2 nc c2] 70):=⟨_,rfl⟩
  have OO:Own W2 w.heap.size 25 #[.slice a1 n1 c1,.int .i64 sh,.int .i64 lk,.int .i64 bf,.slice (some ⟨g,q,none⟩) n5 c5]:=by rw [hW2];exact HX.out.2.2.alloc _
  rw [← hW2] at O1 B1
  have HW2:=Lib.hid hW2
  have HBAD:=Lib.hid hbad
  have HGOOD:=Lib.hid hgood
  have E2:=Lib.hid y2
  have HI0:Hid (Kin w #[.slice a1 n1 c1,.int .i64 sh,.int .i64 lk,.int .i64 bf,.slice (some ⟨g,q,none⟩) n5 c5] wr.heap.size #[.string nm,.slice a2 nc c2] nc n1 [] W2):=⟨rfl,O1,B1,OO⟩
  have d1:W2.cell? ⟨wr.heap.size,1,none⟩=some (.slice a2 nc c2):=by rw [cell_of_row _ _ 1 _ _ _ O1];rfl
  clear hW2 hbad hgood B1 O1 OO BX f0 f1 y2 e1 g1 hmem htk hdr hnc il htl
  go_upto_region 6 with (fail)
  rw [← HW2.out]
  clear HW2 k0' k1'
  go_wp2_with fail
  generalize wr.heap.size=gc at HI0 d1 ⊢
  go_loopg [23] (nc+1) (fun m' u W=>∃ j:Nat,u=.int .i64 (j:Int)∧j≤nc∧m'=nc-j+1∧Kin w #[.slice a1 n1 c1,.int .i64 sh,.int .i64 lk,.int .i64 bf,.slice (some ⟨g,q,none⟩) n5 c5] gc #[.string nm,.slice a2 nc c2] nc n1 (cd.take j) W)
  case atStart=>exact ⟨0,rfl,Nat.zero_le _,by omega,by rw [List.take_zero];exact HI0.out⟩
  case round =>
   clear HI0 d1
   obtain ⟨j,rfl,hj,hmj,hy⟩:=hrel
   have HMJ:=Lib.hid hmj
   have HY:=Lib.hid hy
   clear hmj hy
   by_cases hjn:j<nc
   rotate_left
   · have hjn2 : j = nc := by omega
     subst hjn2
     have hg:=HGOOD.out (by
      have h:=HY.out.1
      rwa [show cd.take j=cd by rw [HNC.out,List.take_length]] at h)
     have HXZ:Hid (Kst w n1 #[.slice a1 n1 c1,.int .i64 sh,.int .i64 lk,.int .i64 bf,.slice (some ⟨g,q,none⟩) n5 c5] (cores.take (t+1)) wr):=⟨hg,HY.out.2.2⟩
     clear hg
     go_wp2_with fail
     go_roundg (n5-(t+1)+1)
     case measure=>have:=HM.out;omega
     case rel=>exact ⟨t+1,by simp,by omega,by omega,HXZ.out⟩
   have jl:j<cd.length:=by have:=HNC.out;omega
   have g2:cd[j]? = some cd[j]:=List.getElem?_eq_getElem jl
   have hme2:cd[j]∈cd:=List.getElem_mem jl
   have htk2:cd.take (j+1)=cd.take j++[cd[j]]:=by rw [List.take_succ_eq_append_getElem jl]
   have hdr2:cd=cd.take j++(cd[j]::cd.drop (j+1)):=by rw [← List.drop_eq_getElem_cons jl,List.take_append_drop]
   generalize cd[j]=i at g2 hme2 htk2 hdr2
   have htl2:(cd.take j).length=j:=by rw [List.length_take];omega
   have hbad2:rightB i nc n1=false→r=(160,(t:Int),(j:Int)):=fun h=>HBAD.out j (by
    rw [hdr2,badI_app,HY.out.1]
    simp only [badI,h,cond_false,Option.map_some,htl2,Nat.zero_add])
   have hgood2:rightB i nc n1=true→badI nc n1 (cd.take (j+1))=none:=fun h=>by
    rw [htk2,badI_app,HY.out.1]
    simp only [badI,h,cond_true,Option.map_none]
   rcases E2.out with e | ⟨g',q',e,e2⟩
   · subst e;simp at jl
   obtain rfl:a2=some ⟨g',q',none⟩:=e
   have e3:=e2 j i g2
   have hri:=HRI.out i hme2
   have HRT:Hid (∀ W,Below w.heap.size w W→Calls Tryz.prog 64 #[insV i,.int .i64 nc,.int .i64 n1] W fun e w'=>e=.returned (.bool (rightB i nc n1))∧Below W.heap.size W w'):=fun W h=>right_any i hri nc n1 W (HT.out.below h)
   generalize rightB i nc n1=rb at HRT hbad2 hgood2
   have BX:=HY.out.2.2.1
   have f0:wr.cell? ⟨g',q'+j*9,none⟩=some (.int .u8 i.k):=(BX.cell (p:=⟨g',q'+j*9,none⟩) (lt_of_at (e3 0 _ rfl))).trans (e3 0 _ rfl)
   have f1:wr.cell? ⟨g',q'+j*9+1,none⟩=some (.int .u8 i.o):=(BX.cell (p:=⟨g',q'+j*9+1,none⟩) (lt_of_at (e3 1 _ rfl))).trans (e3 1 _ rfl)
   have f2:wr.cell? ⟨g',q'+j*9+2,none⟩=some (.int .i64 i.d):=(BX.cell (p:=⟨g',q'+j*9+2,none⟩) (lt_of_at (e3 2 _ rfl))).trans (e3 2 _ rfl)
   have f3:wr.cell? ⟨g',q'+j*9+3,none⟩=some (.int .i64 i.a):=(BX.cell (p:=⟨g',q'+j*9+3,none⟩) (lt_of_at (e3 3 _ rfl))).trans (e3 3 _ rfl)
   have f4:wr.cell? ⟨g',q'+j*9+4,none⟩=some (.int .i64 i.b):=(BX.cell (p:=⟨g',q'+j*9+4,none⟩) (lt_of_at (e3 4 _ rfl))).trans (e3 4 _ rfl)
   have f5:wr.cell? ⟨g',q'+j*9+5,none⟩=some (.int .i64 i.ad):=(BX.cell (p:=⟨g',q'+j*9+5,none⟩) (lt_of_at (e3 5 _ rfl))).trans (e3 5 _ rfl)
   have f6:wr.cell? ⟨g',q'+j*9+6,none⟩=some (.int .i64 i.tt):=(BX.cell (p:=⟨g',q'+j*9+6,none⟩) (lt_of_at (e3 6 _ rfl))).trans (e3 6 _ rfl)
   have f7:wr.cell? ⟨g',q'+j*9+7,none⟩=some (.int .i64 i.wd):=(BX.cell (p:=⟨g',q'+j*9+7,none⟩) (lt_of_at (e3 7 _ rfl))).trans (e3 7 _ rfl)
   have f8:wr.cell? ⟨g',q'+j*9+8,none⟩=some (.int .i64 i.fr):=(BX.cell (p:=⟨g',q'+j*9+8,none⟩) (lt_of_at (e3 8 _ rfl))).trans (e3 8 _ rfl)
   obtain ⟨k,o,d,a,b,ad,tt,wd,fr⟩:=i
   simp only [insC,insV] at f0 f1 f2 f3 f4 f5 f6 f7 f8 HRT
   have hjn':(j:Int)<(nc:Int):=by omega
   have O3:=Own.new wr 75 #[.int .u8 k,.int .u8 o,.int .i64 d,.int .i64 a,.int .i64 b,.int .i64 ad,.int .i64 tt,.int .i64 wd,.int .i64 fr]
   have KO:Own (wr.alloc (.cells #[.int .u8 k,.int .u8 o,.int .i64 d,.int .i64 a,.int .i64 b,.int .i64 ad,.int .i64 tt,.int .i64 wd,.int .i64 fr] 75)) gc 70 #[.string nm,.slice (some ⟨g',q',none⟩) nc c2]:=HY.out.2.1.alloc _
   have KP:Own (wr.alloc (.cells #[.int .u8 k,.int .u8 o,.int .i64 d,.int .i64 a,.int .i64 b,.int .i64 ad,.int .i64 tt,.int .i64 wd,.int .i64 fr] 75)) w.heap.size 25 #[.slice a1 n1 c1,.int .i64 sh,.int .i64 lk,.int .i64 bf,.slice (some ⟨g,q,none⟩) n5 c5]:=HY.out.2.2.2.alloc _
   have KB:=BX.alloc BX.size (.cells #[.int .u8 k,.int .u8 o,.int .i64 d,.int .i64 a,.int .i64 b,.int .i64 ad,.int .i64 tt,.int .i64 wd,.int .i64 fr] 75)
   obtain ⟨W3,hW3⟩:∃ W,W=wr.alloc (.cells #[.int .u8 k,.int .u8 o,.int .i64 d,.int .i64 a,.int .i64 b,.int .i64 ad,.int .i64 tt,.int .i64 wd,.int .i64 fr] 75):=⟨_,rfl⟩
   rw [← hW3] at O3 KO KP KB
   have HW3:=Lib.hid hW3
   have HBAD2:=Lib.hid hbad2
   have HGOOD2:=Lib.hid hgood2
   have HKO:=Lib.hid KO
   have HKP:=Lib.hid KP
   have HKB:=Lib.hid KB
   have k1:W3.cell? ⟨gc,1,none⟩=some (.slice (some ⟨g',q',none⟩) nc c2):=by rw [cell_of_row _ _ 1 _ _ _ KO];rfl
   have k0:W3.cell? ⟨w.heap.size,0,none⟩=some (.slice a1 n1 c1):=by rw [cell_of_row _ _ 0 _ _ _ KP];rfl
   clear hW3 KO KP KB hbad2 hgood2 BX e2 e3 g2 hme2 htk2 hdr2 jl htl2 hri
   go_upto_region 9 with (fail)
   rw [← HW3.out]
   clear HW3 f0 f1 f2 f3 f4 f5 f6 f7 f8
   go_wp2_with (refine ld rowI rfl rfl rfl O3 rfl ?_)
   go_at_call 64
   refine (HRT.out _ HKB.out).mono ?_
   rintro e w9 ⟨rfl,hb⟩
   have HK9:=Lib.hid (HKO.out.below hb)
   have HP9:=Lib.hid (HKP.out.below hb)
   have HB9:=Lib.hid (HKB.out.trans (hb.mono HKB.out.size))
   clear hb O3 k0 k1 HKO HKP HKB HRT
   cases rb with
   | false =>
     have hr:=HBAD2.out rfl
     subst hr
     go_wp2_with fail
     refine bodyPost_ret (results_tmp3 rfl _ _ _) rfl ?_
     exact ⟨rfl,HB9.out⟩
   | true =>
     have hg:=HGOOD2.out rfl
     have HYZ:Hid (Kin w #[.slice a1 n1 c1,.int .i64 sh,.int .i64 lk,.int .i64 bf,.slice (some ⟨g,q,none⟩) n5 c5] gc #[.string nm,.slice (some ⟨g',q',none⟩) nc c2] nc n1 (cd.take (j+1)) w9):=⟨hg,HK9.out,HB9.out,HP9.out⟩
     clear hg
     go_wp2_with fail
     go_roundg (nc-(j+1)+1)
     case measure=>have:=HMJ.out;omega
     case rel=>exact ⟨j+1,by simp,by omega,by omega,HYZ.out⟩
open Go.RowKit
set_option linter.unusedVariables false
set_option maxRecDepth 100000
def selW (b:Nat) (k:Nat) (o:Obj):Prop:=k≠b∧¬ IsTy 5 o
def WtP (b:Nat) (p v:Value) (txt:List UInt8) (W:World):Prop :=
 Own W b 162 #[p,v]∧(p=.pointer none∨p=.pointer (some ⟨b,0,none⟩))∧(txt=[]→v=.slice none 0 0)∧W.ownsRow (b+1) 5 1 v txt.length (Lib.byteCells txt)
def Wt (b:Nat) (txt:List UInt8) (W:World):Prop:=∃ p v,WtP b p v txt  W
theorem infoBl:(Tryz.prog.info? 160).map (·.size)=some 2:=by kernel_rfl
theorem wt_shape {w:World} {b:Nat} {cs:Array Value} (h:Own w b 162 cs):w.shape? b=some (162,cs.size):=by
 have h':w.heap[b]? = some (.cells cs 162 (0,0)):=h
 simp [World.shape?,h']
theorem wt_check {b:Nat} {txt:List UInt8} {w:World} (h:Wt b txt  w) :
 Calls Tryz.prog 146 #[.pointer (some ⟨b,0,none⟩)] w fun e w'=>e=.returned (.tuple #[])∧(∃ v,WtP b (.pointer (some ⟨b,0,none⟩)) v txt  w')∧Keep (selW b) w w'∧w'.heap.size=w.heap.size∧Below b w w':=by
 obtain ⟨p,v,ho,hp,hv0,hr⟩:=h
 have c0:w.cell? ⟨b,0,none⟩=some p:=by rw [cell_of_row _ _ 0 _ _ _ ho];rfl
 have z0:w.frozen? ⟨b,0,none⟩=false:=own_frozen ho 0
 obtain ⟨j,hj,hjs⟩:=Option.map_eq_some_iff.1 infoBl
 have hsh:=wt_shape ho
 have hsz:#[p,v].size=2:=rfl
 rw [hsz] at hsh
 rcases hp with rfl | rfl
 · have HO := Lib.hid ho
   have HR:=Lib.hid hr
   clear ho hr
   go_enter Tryz.func146,Tryz.ntmps146
   go_wp2
   rw [Lib.run_to_unsafe w ⟨b,0,none⟩ Tryz.underlying158 Tryz.underlying250 hj (by rw [hjs];decide) hsh (Nat.zero_lt_succ 1)]
   simp only [Result.andThen]
   rw [Oper.upon_value]
   go_wp2
   rw [run_callFunc_extern Tryz.func162 (by kernel_rfl) (by kernel_rfl) (by kernel_rfl) (e:=Extern.AbiNoEscape.same) (by kernel_rfl)]
   rw [Lib.run_noEscape]
   simp only [Result.andThen]
   rw [Oper.upon_value]
   go_wp2
   rw [Lib.run_from_unsafe w ⟨b,0,none⟩ Tryz.underlying250 Tryz.underlying158 hj hsh (by kernel_rfl)]
   simp only [Result.andThen]
   rw [Oper.upon_value]
   go_wp2
   refine bodyPost_end (results_none rfl _ _ _) rfl ⟨rfl,⟨v,?_,.inr rfl,hv0,?_⟩,?_,by simp,(Below.refl b w).setCell (p:=⟨b,0,none⟩) (Nat.le_refl b) _⟩
   · exact heap_setCell_same w b 0 _ _ _ HO.out
   · exact ownsRow_setCell_below HR.out (show b<b+1 by omega) _
   · exact (Keep.refl _ w).setCell (p:=⟨b,0,none⟩) _ HO.out (fun hs=>hs.1 rfl)
 · have HO := Lib.hid ho
   have HR:=Lib.hid hr
   clear ho hr
   go_enter Tryz.func146,Tryz.ntmps146
   go_wp2
   rw [Lib.run_neq_ptr_same w _ Tryz.underlying158 hj]
   go_wp2
   exact bodyPost_end (results_none rfl _ _ _) rfl ⟨rfl,⟨v,HO.out,.inr rfl,hv0,HR.out⟩,Keep.refl _ _,rfl,Below.refl _ _⟩
theorem wt_slice {b:Nat} {p v:Value} {txt:List UInt8} {w:World} (h:WtP b p v txt  w):∃ ao cap,v=.slice ao txt.length cap:=by
 rcases h.2.2.2.2 with ⟨hv,h0⟩ | ⟨g,cap,cur,hv,_⟩
 · exact ⟨none,0,by rw [hv,h0]⟩
 · exact ⟨_,_,hv⟩
theorem wt_len {b:Nat} {txt:List UInt8} {w:World} (h:Wt b txt  w) :
 Calls Tryz.prog 79 #[.pointer (some ⟨b,0,none⟩)] w fun e w'=>e=.returned (.int .i64 txt.length)∧w=w':=by
 obtain ⟨p,v,h⟩:=h
 obtain ⟨ao,cap,rfl⟩:=wt_slice h
 have c1:w.cell? ⟨b,1,none⟩=some (.slice ao txt.length cap):=by rw [cell_of_row _ _ 1 _ _ _ h.1];rfl
 clear h
 go_enter Tryz.func79,Tryz.ntmps79
 go_wp2
 go_ret
 exact ⟨rfl,rfl⟩
theorem row_bytesW {w:World} {B:Nat} {v:Value} {n:Nat} {xs:List Value} (h:w.ownsRow B 5 1 v n xs) (b:Nat) {w':World} (hw:∀ k o,k<w.heap.size→w.heap[k]? = some o→w'.heap[k]? = some o):∀ r o,v.ownBlock=some r→w'.heap[r]? = some o→¬ selW b r o:=by
 intro r o hr ho hs
 rcases h.2 with ⟨rfl,_⟩ | ⟨g,cap,cur,rfl,_,hg,_⟩
 · simp [Value.ownBlock] at hr
 · have e : g = r := by simpa [Value.ownBlock] using hr
   subst e
   rw [hw g _ (Array.getElem?_eq_some_iff.1 hg).1 hg] at ho
   cases ho
   exact hs.2 ⟨_,_,rfl⟩
theorem empty_bytes {s:ByteArray} (h:s.data.toList=[]):s=ByteArray.empty:=by
 cases s with
 | mk dd =>
   have h3:dd=#[]:=Array.toList_eq_nil_iff.1 h
   subst h3
   rfl
theorem strCells_bytes (s:ByteArray):Lib.strCells s=Lib.byteCells s.data.toList:=rfl
theorem bytes_append (a b:List UInt8):Lib.byteCells a++Lib.byteCells b=Lib.byteCells (a++b):=by simp [Lib.byteCells]
theorem wt_write {b:Nat} {txt:List UInt8} {w:World} (h:Wt b txt  w) (s:ByteArray) (hlen:txt.length+s.size≤140737488355328) :
 Calls Tryz.prog 119 #[.pointer (some ⟨b,0,none⟩),.string s] w fun e w'=>e=.returned (.tuple #[.int .i64 s.size,.nilIface])∧Wt b (txt++s.data.toList)  w'∧Keep (selW b) w w'∧Below b w w':=by
 obtain ⟨i0,hi,hz0,hz1,hz2⟩:=info_parts infoU8'
 have HC:=Lib.hid (wt_check h)
 clear h
 go_enter Tryz.func119,Tryz.ntmps119
 go_wp2_with (go_at_call 146;refine (HC.out).mono ?_)
 rintro e w1 ⟨rfl,⟨v,hbk,_,hv0,hown⟩,hk1,hz,hb1⟩
 have hzl:w.heap.size≤w1.heap.size:=Nat.le_of_eq hz.symm
 clear hz HC
 have c0:w1.cell? ⟨b,0,none⟩=some (.pointer (some ⟨b,0,none⟩)):=by rw [cell_of_row _ _ 0 _ _ _ hbk];rfl
 have c1:w1.cell? ⟨b,1,none⟩=some v:=by rw [cell_of_row _ _ 1 _ _ _ hbk];rfl
 have hlt:b<w1.heap.size:=hbk.lt
 have HK:=Lib.hid hbk
 clear hbk
 go_wp2_with (at_builtin;refine Lib.wpList_append_own_string _ rfl _ _ 26 9 rfl (b+1) 5 i0 Tryz.underlying26 Tryz.underlying9 hi hz0 hz1 hz2 _ _ _ rfl hown s rfl ?c3 ?c4 ?c5 ?_)
 case c3=>unfold maxLen;omega
 case c4=>omega
 case c5=>omega
 intro v' w2 hown' hgrow hiff
 have hne:v.ownBlock≠some b:=by
  intro e
  obtain ⟨h1,_⟩:=hown.lt _ e
  omega
 have hb2:Own w2 b 162 #[.pointer (some ⟨b,0,none⟩),v]:=by
  have:=hgrow.block b hlt (fun e=>hne e.symm)
  exact this.trans HK.out
 have d0:w2.cell? ⟨b,0,none⟩=some (.pointer (some ⟨b,0,none⟩)):=by rw [cell_of_row _ _ 0 _ _ _ hb2];rfl
 have d1:w2.cell? ⟨b,1,none⟩=some v:=by rw [cell_of_row _ _ 1 _ _ _ hb2];rfl
 have f1:w2.frozen? ⟨b,1,none⟩=false:=own_frozen hb2 1
 obtain ⟨ao,n',cap,rfl⟩:∃ ao n' cap,v'=.slice ao n' cap:=by
  rcases hown'.2 with ⟨hv,_⟩ | ⟨g,cap,cur,hv,_⟩
  · exact ⟨_,_,_,hv⟩
  · exact ⟨_,_,_,hv⟩
 have kG:Keep (selW b) w w2:=hk1.grown hgrow (row_bytesW hown b (fun _ _ _ ho=>ho))
 have HB2:=Lib.hid hb2
 have HI:=Lib.hid hiff
 clear hb2 hiff
 go_wp2
 go_ret2
 refine ⟨rfl,⟨_,_,heap_setCell_same w2 b 1 _ _ _ HB2.out,.inr rfl,?_,?_⟩,kG.setCell (p:=⟨b,1,none⟩) _ HB2.out (fun hs=>hs.1 rfl),?_⟩
 · intro h0
   obtain ⟨h1,h2⟩:=List.append_eq_nil_iff.1 h0
   exact HI.out.2 ⟨hv0 h1,empty_bytes h2⟩
 · have h3 : (txt ++ s.data.toList).length = txt.length + s.size := by rw [List.length_append, Array.length_toList]; rfl
   rw [h3,← bytes_append,← strCells_bytes]
   exact ownsRow_setCell_below hown' (show b<b+1 by omega) _
 · exact (hb1.grown hgrow (by omega) (fun k hk=>by have:=(hown.lt k hk).1;omega)).setCell (p:=⟨b,1,none⟩) (Nat.le_refl b) _
theorem wt_string {b:Nat} {txt:List UInt8} {w:World} (h:Wt b txt  w) :
 Calls Tryz.prog 80 #[.pointer (some ⟨b,0,none⟩)] w fun e w'=>e=.returned (.string ⟨txt.toArray⟩)∧Below b w w':=by
 obtain ⟨p,v,h⟩:=h
 have hbk:=h.1
 have hown:=h.2.2.2
 by_cases h0:txt=[]
 · subst h0
   obtain rfl:=h.2.2.1 rfl
   have hUS:=Lib.run_unsafeString_none (P:=Tryz.prog) w.drew 210 3 9 none
   have c1:w.drew.cell? ⟨b,1,none⟩=some (.slice none 0 0):=by
    have:w.cell? ⟨b,1,none⟩=some (.slice none 0 0):=by rw [cell_of_row _ _ 1 _ _ _ hbk];rfl
    exact this
   have hSD:(Builtin.unsafeSliceData_ #[26] 210 #[.slice none 0 0]).run Tryz.prog w.drew=.ok (.pointer none) w.drew:=rfl
   have mixed:Tryz.prog.follows .mixedOrders=true:=by kernel_rfl
   clear h hown hbk
   go_enter Tryz.func80,Tryz.ntmps80
   go_wp2
   go_region_o
   all_goals (go_wp2;go_ret;exact ⟨rfl,Below.drew (Below.refl b w)⟩)
 · have hl0 : txt.length ≠ 0 := by simpa using h0
   obtain ⟨g,cap,cur,rfl,hbg,hg,hnc,hcm,hcs,htake⟩:∃ g cap cur,v=.slice (some ⟨g,0,none⟩) txt.length cap∧b+1≤g∧w.heap[g]? = some (.cells cur 5 (0,0))∧txt.length≤cap∧cap≤maxLen∧cur.size=cap*1∧cur.toList.take (txt.length*1)=Lib.byteCells txt:=by
    rcases hown.2 with ⟨_,hz⟩ | ⟨g,cap,cur,hv,r⟩
    · exact absurd hz hl0
    · exact ⟨g,cap,cur,hv,r⟩
   have c1:w.drew.cell? ⟨b,1,none⟩=some (.slice (some ⟨g,0,none⟩) txt.length cap):=by
    have:w.cell? ⟨b,1,none⟩=some (.slice (some ⟨g,0,none⟩) txt.length cap):=by rw [cell_of_row _ _ 1 _ _ _ hbk];rfl
    exact this
   have hSD:(Builtin.unsafeSliceData_ #[26] 210 #[.slice (some ⟨g,0,none⟩) txt.length cap]).run Tryz.prog w.drew=.ok (.pointer (some ⟨g,0,none⟩)) w.drew :=
    Lib.run_unsafeSliceData_row _ _ _ _ _ _ (by omega)
   have hUS:(Builtin.unsafeString_ #[210,3] 9 #[.pointer (some ⟨g,0,none⟩),.int .i64 txt.length]).run Tryz.prog w.drew=.ok (.string ⟨txt.toArray⟩) (w.drew.freeze ⟨g,0,none⟩ txt.length):=by
    refine Lib.run_unsafeString_row w.drew 210 3 9 5 Tryz.underlying210 (by kernel_rfl) g cur.size (by have hg':w.drew.heap[g]? = some (.cells cur 5 (0,0)):=hg;simp [World.shape?,hg']) txt h0 (by omega) (by unfold maxLen at hcm;omega) ?_
    intro j x hx
    have:=hown.cells (g:=g) rfl j (.int .u8 x.toNat) (by simp [Lib.byteCells,hx])
    exact this
   have mixed:Tryz.prog.follows .mixedOrders=true:=by kernel_rfl
   clear h hown hbk
   go_enter Tryz.func80,Tryz.ntmps80
   go_wp2
   go_region_o
   all_goals (go_wp2;go_ret;exact ⟨rfl,Lib.below_freeze (Below.drew (Below.refl b w)) (p:=⟨g,0,none⟩) (by show b≤g;omega) _⟩)
theorem wt_byte {b:Nat} {txt:List UInt8} {w:World} (h:Wt b txt w) (c:Int) (h0:0≤c) (h1:c≤255) (hlen:txt.length+1≤140737488355328) :
 Calls Tryz.prog 122 #[.pointer (some ⟨b,0,none⟩),.int .u8 c] w fun e w'=>e=.returned .nilIface∧Wt b (txt++[UInt8.ofNat c.toNat]) w'∧Keep (selW b) w w'∧Below b w w':=by
 obtain ⟨i0,hi,hz0,hz1,hz2⟩:=info_parts infoU8'
 have HC:=Lib.hid (wt_check h)
 clear h
 go_enter Tryz.func122,Tryz.ntmps122
 go_wp2_with (go_at_call 146;refine (HC.out).mono ?_)
 rintro e w1 ⟨rfl,⟨v,hbk,_,hv0,hown⟩,hk1,hz,hb1⟩
 have hzl:w.heap.size≤w1.heap.size:=Nat.le_of_eq hz.symm
 clear hz HC
 have c0:w1.cell? ⟨b,0,none⟩=some (.pointer (some ⟨b,0,none⟩)):=by rw [cell_of_row _ _ 0 _ _ _ hbk];rfl
 have c1:w1.cell? ⟨b,1,none⟩=some v:=by rw [cell_of_row _ _ 1 _ _ _ hbk];rfl
 have hlt:b<w1.heap.size:=hbk.lt
 have HK:=Lib.hid hbk
 have hlb:(Lib.byteCells txt).length=txt.length:=by simp [Lib.byteCells]
 clear hbk
 go_wp2_with (at_builtin;refine wpList_append_own _ rfl _ _ 26 rfl (b+1) 5 i0 (.int .u8 0) 1 1 Tryz.underlying26 hi hz0 hz1 hz2 rfl (by decide) v txt.length (Lib.byteCells txt) rfl (hown.alloc _) ⟨w1.heap.size,0,none⟩ 1 1 [.int .u8 c] rfl rfl ?c1 ?c2 ?c3 ?c4 ?c5 ?_)
 case c1 =>
  intro j u hj
  match j,hj with
  | 0,hj=>simp at hj;subst hj;simp [Addr.add]
 case c2=>intro u hu;simp at hu;subst hu;rfl
 case c3=>unfold maxLen;omega
 case c4=>omega
 case c5=>simp;omega
 intro v' w2 hown' hgrow _
 have hne:v.ownBlock≠some b:=by
  intro e
  obtain ⟨h1,_⟩:=hown.lt _ e
  omega
 have hb2:Own w2 b 162 #[.pointer (some ⟨b,0,none⟩),v]:=by
  have:=hgrow.block b (by simp;omega) (fun e=>hne e.symm)
  exact this.trans (HK.out.alloc _)
 have d0:w2.cell? ⟨b,0,none⟩=some (.pointer (some ⟨b,0,none⟩)):=by rw [cell_of_row _ _ 0 _ _ _ hb2];rfl
 have d1:w2.cell? ⟨b,1,none⟩=some v:=by rw [cell_of_row _ _ 1 _ _ _ hb2];rfl
 have f1:w2.frozen? ⟨b,1,none⟩=false:=own_frozen hb2 1
 obtain ⟨ao,n',cap,rfl⟩:∃ ao n' cap,v'=.slice ao n' cap:=by
  rcases hown'.2 with ⟨hv,_⟩ | ⟨g,cap,cur,hv,_⟩
  · exact ⟨_,_,_,hv⟩
  · exact ⟨_,_,_,hv⟩
 have kG:Keep (selW b) w w2:=(hk1.trans (keep_below ((Below.refl _ w1).alloc (Nat.le_refl _) _))).grown hgrow (row_bytesW hown b (fun k o hk ho=>(Below.heap_alloc _ _ _ hk).trans ho))
 have HB2:=Lib.hid hb2
 have hcc:(UInt8.ofNat c.toNat).toNat=c.toNat:=by rw [UInt8.toNat_ofNat'];omega
 have HO:Hid (w2.ownsRow (b+1) 5 1 (.slice ao n' cap) (txt++[UInt8.ofNat c.toNat]).length (Lib.byteCells (txt++[UInt8.ofNat c.toNat]))):=by
  rw [Hid,← bytes_append,List.length_append]
  have e:Lib.byteCells [UInt8.ofNat c.toNat]=[.int .u8 c]:=by
   simp only [Lib.byteCells,List.map_cons,List.map_nil,hcc]
   rw [show ((c.toNat:Nat):Int)=c by omega]
  rw [e]
  exact hown'
 have HB:Hid (Below b w w2):=(hb1.alloc (by omega) _).grown hgrow (by simp;omega) (fun k hk=>by have:=(hown.lt k hk).1;omega)
 have HKG:=Lib.hid kG
 clear hb2 hown' hgrow hne kG hcc
 go_wp2
 go_ret
 exact ⟨rfl,⟨_,_,heap_setCell_same w2 b 1 _ _ _ HB2.out,.inr rfl,fun h=>absurd h (by simp),ownsRow_setCell_below HO.out (show b<b+1 by omega) _⟩,HKG.out.setCell (p:=⟨b,1,none⟩) _ HB2.out (fun hs=>hs.1 rfl),HB.out.setCell (p:=⟨b,1,none⟩) (Nat.le_refl b) _⟩
end Go.Proofs.YtmpljhfinmfnbaaGreatDoor

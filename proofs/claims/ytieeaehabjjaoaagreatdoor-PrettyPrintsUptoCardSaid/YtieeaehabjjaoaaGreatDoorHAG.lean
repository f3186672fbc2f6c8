/- The proof, part 7: texts that belong together, in one. -/
import Derived.Test.YtieeaehabjjaoaaGreatDoorHAF
import Derived.Shelf.Strings.Builder1
import Derived.Shelf.Strings.Builder2
import Derived.Shelf.Small.Strs
import Derived.Shelf.Strings.BuilderF
import Derived.Shelf.Strconv.Itoa0
import Derived.Shelf.Strconv.Itoa1
import Derived.Shelf.LaysM
import Derived.Shelf.Strconv.Itoa2
import Derived.Shelf.Strconv.Itoa3
import Derived.Shelf.Strconv.Itoa4
import Derived.Shelf.Strconv.Clone
import Derived.Shelf.Strings.Search1
import Derived.Shelf.Strings.Prefix
import Derived.Shelf.Bits.Mul64
import Derived.Shelf.Strings.Repeat
import Derived.Test.YtieeaehabjjaoaaGreatDoorProg
import Derived.Test.YtieeaehabjjaoaaGreatDoorHAC
set_option maxRecDepth 100000
set_option maxHeartbeats 20000000
namespace Go.Proofs.YtieeaehabjjaoaaGreatDoor
open Go.RowKit
set_option linter.unusedVariables false
set_option maxRecDepth 100000
def bareB (l:List Dc):Bool:=l.all fun d=>nameB d.name&&d.wd==0
def sharedB (l:List Dc):Bool:=l.all fun d=>nameB d.name&&decide (-9223372036854775808<d.wd)
def thB (t:Th):Bool:=nameB t.name&&(bareB t.locals&&rB t.body 1)
def rP (p:Pg):Bool:=sharedB p.shared&&(bareB p.locks&&p.threads.all thB)
theorem all_bad {α:Type} {f:α→Bool} {l:List α} (x:α) (hm:x∈l) (h:f x=false):l.all f=false:=by
 rw [← Bool.not_eq_true,List.all_eq_true]
 intro hh
 rw [hh x hm] at h
 cases h
theorem all_ok {α:Type} {f:α→Bool} {l:List α} (h:∀ (j:Nat) (y:α),j<l.length→l[j]? = some y→f y=true):l.all f=true:=List.all_eq_true.2 fun x hx=>by
 obtain ⟨j,hj⟩:=List.getElem?_of_mem hx
 exact h j x (List.getElem?_eq_some_iff.1 hj).1 hj
def rgT (t:Th):Prop:=rgSs t.body
def rgP (p:Pg):Prop:=∀ t∈p.threads,rgT t
theorem p_needBare (l:List Dc) (hlen:l.length≤9223372036854775807) (a:Option Addr) (c:Nat) (w:World) (h1:dcsAt (fun _=>True) w l a) (TT:LNm w):Calls Tryz.prog 41 #[.slice a l.length c] w (NdP w (bareB l)):=by
 have HND:Hid (∀ b W,Calls Tryz.prog 39 #[.bool b] W (NdP W b)):=fun b W=>p_need b W
 have HNM:Hid (∀ n W,Below w.heap.size w W→Calls Tryz.prog 40 #[.string n] W fun e w'=>e=.returned (.bool (nameB n))∧W=w'):=fun n W hb=>isname_any n W (TT.below (Nat.le_refl _) hb)
 have E1:=Lib.hid h1
 obtain ⟨n,hn⟩:∃ n,n=l.length:=⟨_,rfl⟩
 rw [← hn] at hlen ⊢
 have HN:=Lib.hid hn
 clear h1 TT hn
 obtain ⟨R,hR⟩:∃ R,R=bareB l:=⟨_,rfl⟩
 rw [← hR]
 have HR:=Lib.hid hR
 clear hR
 go_enter Tryz.func41,Tryz.ntmps41
 go_wp2_with fail
 go_loopg [6] (n+1) (fun m' u W=>∃ i:Nat,u=.int .i64 (i:Int)∧i≤n∧m'=n-i+1∧(∀ j y,j<i→l[j]? = some y→(nameB y.name&&y.wd==0)=true)∧Below w.heap.size w W)
 case atStart=>exact ⟨0,rfl,Nat.zero_le _,by omega,fun j y h=>by omega,Below.refl _ w⟩
 case round =>
  obtain ⟨i,rfl,hi,hm,hI,hb0⟩:=hrel
  have HM:=Lib.hid hm
  have HIN:=Lib.hid hI
  have HB:=Lib.hid hb0
  clear hm hI hb0
  by_cases hin:i<n
  · have il : i < l.length := by have := HN.out; omega
    have g1:l[i]? = some l[i]:=List.getElem?_eq_getElem il
    have hmem:l[i]∈l:=List.getElem_mem il
    generalize l[i]=x at g1 hmem
    rcases E1.out with e | ⟨g,q,e,_,e1⟩
    · cases l with
      | nil=>simp at il
      | cons=>cases e
    obtain rfl:a=some ⟨g,q,none⟩:=e
    have x1:=dcsIn_get i x e1 g1
    obtain ⟨nm,wd,ps⟩:=x
    obtain ⟨f0,f1,f2⟩:=x1
    have lg:=lt_of_at f0
    simp only at lg
    have hin':(i:Int)<(n:Int):=by omega
    have BX:=HB.out
    have f0:wr.cell? ⟨g,q+i*3,none⟩=some (.string nm):=(BX.cell (p:=⟨g,q+i*3,none⟩) lg).trans f0
    have f1:wr.cell? ⟨g,q+i*3+1,none⟩=some (.int .i64 wd):=(BX.cell (p:=⟨g,q+i*3+1,none⟩) lg).trans f1
    have f2:wr.cell? ⟨g,q+i*3+2,none⟩=some (.int .i64 ps):=(BX.cell (p:=⟨g,q+i*3+2,none⟩) lg).trans f2
    have HGI:=Lib.hid g1
    have HME:=Lib.hid hmem
    clear g1 e1 il BX hmem
    have O1:=Own.new wr 63 #[.string nm,.int .i64 wd,.int .i64 ps]
    have HBW:Hid (Below wr.heap.size wr (wr.alloc (.cells #[.string nm,.int .i64 wd,.int .i64 ps] 63))):=(Below.refl _ wr).alloc (Nat.le_refl _) _
    have HBA:=Lib.hid (HB.out.trans (HBW.out.mono HB.out.size))
    have y0:(wr.alloc (.cells #[.string nm,.int .i64 wd,.int .i64 ps] 63)).cell? ⟨wr.heap.size,0,none⟩=some (.string nm):=by rw [cell_of_row _ _ 0 _ _ _ O1];rfl
    have y1:(wr.alloc (.cells #[.string nm,.int .i64 wd,.int .i64 ps] 63)).cell? ⟨wr.heap.size,1,none⟩=some (.int .i64 wd):=by rw [cell_of_row _ _ 1 _ _ _ O1];rfl
    have HNN:=HNM.out nm
    cases hq:nameB nm with
    | false =>
      rw [hq] at HNN
      replace HNN:=Lib.hid HNN
      have HQ:=Lib.hid hq
      clear hq
      go_wp2_with (first | (go_at_call 40;refine (HNN.out _ HBA.out).mono ?_;rintro e w2 ⟨rfl,rfl⟩))
      go_at_call 39
      refine (HND.out _ _).mono ?_
      rintro e w3 hh
      obtain ⟨rfl,hb⟩:=hh.bad rfl
      go_wp2_with fail
      exact ⟨rfl,by rw [HR.out];unfold bareB;rw [all_bad _ HME.out (by simp only [HQ.out,Bool.false_and])];rfl,HBA.out.trans (hb.mono HBA.out.size)⟩
    | true =>
      rw [hq] at HNN
      replace HNN:=Lib.hid HNN
      have HQ:=Lib.hid hq
      clear hq
      go_wp2_with (first | (go_at_call 40;refine (HNN.out _ HBA.out).mono ?_;rintro e w2 ⟨rfl,rfl⟩))
      go_at_call 39
      refine (HND.out _ _).mono ?_
      rintro e w3 hh
      rcases hh.cases with ⟨h4,rfl,hb⟩ | ⟨h4,rfl,hb⟩
      rotate_left
      · go_wp2_with fail
        exact ⟨rfl,by rw [HR.out];unfold bareB;rw [all_bad _ HME.out (by simp only [HQ.out,h4,Bool.and_false])];rfl,HBA.out.trans (hb.mono HBA.out.size)⟩
      have HB2:=Lib.hid (HBA.out.trans (hb.mono HBA.out.size))
      have HX:Hid ((nameB nm&&wd==0)=true):=by rw [Hid,HQ.out,h4];rfl
      clear hb h4 O1 y0 y1
      go_wp2_with fail
      go_roundg (n-(i+1)+1)
      case measure=>have:=HM.out;omega
      case rel =>
       refine ⟨i+1,rfl,by omega,by omega,fun j y hj hy=>?_,HB2.out⟩
       by_cases hji:j=i
       · subst hji
         rw [HGI.out] at hy
         obtain rfl:=Option.some.inj hy
         exact HX.out
       · exact HIN.out j y (by omega) hy
  · have : i = n := by omega
    subst this
    have hR:R=true:=by
     rw [HR.out]
     exact all_ok fun j y hj hy=>HIN.out j y (by have:=HN.out;omega) hy
    have HRR:=Lib.hid hR
    clear hR
    go_wp2_with fail
    exact bodyPost_end (results_none rfl _ _ _) rfl ⟨by rw [HRR.out];rfl,HB.out⟩
theorem p_needProgram (x:Pg) (hok:okP x) (hrg:rgP x) (v:Value) (w:World) (hv:pA w x v) (TT:PT w):Calls Tryz.prog 19 #[v] w (NdP w (rP x)):=by
 obtain ⟨a1,c1,a2,c2,a3,c3,rfl,h1,h2,h3⟩:=hv
 obtain ⟨l1,l2,l3,hth⟩:=hok
 have HND:Hid (∀ b W,Calls Tryz.prog 39 #[.bool b] W (NdP W b)):=fun b W=>p_need b W
 have HNM:Hid (∀ n W,Below w.heap.size w W→Calls Tryz.prog 40 #[.string n] W fun e w'=>e=.returned (.bool (nameB n))∧W=w'):=fun n W hb=>isname_any n W (TT.below hb).1.1
 have HBR:Hid (∀ W,Below w.heap.size w W→Calls Tryz.prog 41 #[.slice a2 x.locks.length c2] W (NdP W (bareB x.locks))):=fun W hb=>p_needBare x.locks l2 a2 c2 W (dcsAt_below h2 hb) (TT.below hb).1.1
 have HTL:Hid (∀ (t:Th) W a c,t∈x.threads→Below w.heap.size w W→dcsAt (fun _=>True) W t.locals a→Calls Tryz.prog 41 #[.slice a t.locals.length c] W (NdP W (bareB t.locals))):=fun t W a c hm hb ha=>p_needBare t.locals (hth t hm).1 a c W ha (TT.below hb).1.1
 have HTB:Hid (∀ (t:Th) W a c,t∈x.threads→Below w.heap.size w W→stsAt (fun _=>True) W t.body a→Calls Tryz.prog 42 #[.slice a t.body.length c,.int .i64 1] W (NdP W (rB t.body 1))):=fun t W a c hm hb ha=>needBlock_any t.body (hth t hm).2.2 (hth t hm).2.1 (hrg t hm) a c W 1 ha (TT.below hb) (by omega) (by omega)
 obtain ⟨sh,lk,th⟩:=x
 simp only at *
 have E1:=Lib.hid h1
 have E3:=Lib.hid h3
 obtain ⟨n1,hn1⟩:∃ n,n=sh.length:=⟨_,rfl⟩
 obtain ⟨n2,hn2⟩:∃ n,n=lk.length:=⟨_,rfl⟩
 obtain ⟨n3,hn3⟩:∃ n,n=th.length:=⟨_,rfl⟩
 rw [← hn2] at HBR
 rw [← hn1,← hn2,← hn3]
 rw [← hn1] at l1
 rw [← hn3] at l3
 have HN1:=Lib.hid hn1
 have HN3:=Lib.hid hn3
 obtain ⟨R,hR⟩:∃ R,R=rP ⟨sh,lk,th⟩:=⟨_,rfl⟩
 rw [← hR]
 have HR:Hid (R=(sharedB sh&&(bareB lk&&th.all thB))):=hR
 generalize bareB lk=bl at HBR HR
 clear hR h1 h2 h3 TT hn1 hn2 hn3 hth hrg l2
 have HB:=Lib.hid (bw_new w 25 #[.slice a1 n1 c1,.slice a2 n2 c2,.slice a3 n3 c3])
 obtain ⟨W0,hW0⟩:∃ W,W=w.alloc (.cells #[.slice a1 n1 c1,.slice a2 n2 c2,.slice a3 n3 c3] 25):=⟨_,rfl⟩
 rw [← hW0] at HB
 have HW0:=Lib.hid hW0
 clear hW0
 go_enter Tryz.func19,Tryz.ntmps19
 go_upto_region 1 with (fail)
 rw [← HW0.out]
 clear HW0
 have c0:W0.cell? ⟨w.heap.size,0,none⟩=some (.slice a1 n1 c1):=by rw [cell_of_row _ _ 0 _ _ _ HB.out.1];rfl
 go_wp2_with fail
 clear c0
 go_loopg [9] (n1+1) (fun m' u W=>∃ i:Nat,u=.int .i64 (i:Int)∧i≤n1∧m'=n1-i+1∧(∀ j y,j<i→sh[j]? = some y→(nameB y.name&&decide (-9223372036854775808<y.wd))=true)∧Bw w 25 #[.slice a1 n1 c1,.slice a2 n2 c2,.slice a3 n3 c3] W)
 case atStart=>exact ⟨0,rfl,Nat.zero_le _,by omega,fun j y h=>by omega,HB.out⟩
 case round =>
  clear HB
  obtain ⟨i,rfl,hi,hm,hI,hb0⟩:=hrel
  have HM:=Lib.hid hm
  have HIN:=Lib.hid hI
  have HB:=Lib.hid hb0
  clear hm hI hb0
  by_cases hin:i<n1
  · have il : i < sh.length := by have := HN1.out; omega
    have g1:sh[i]? = some sh[i]:=List.getElem?_eq_getElem il
    have hmem:sh[i]∈sh:=List.getElem_mem il
    generalize sh[i]=x at g1 hmem
    rcases E1.out with e | ⟨g,q,e,_,e1⟩
    · cases sh with
      | nil=>simp at il
      | cons=>cases e
    obtain rfl:a1=some ⟨g,q,none⟩:=e
    have x1:=dcsIn_get i x e1 g1
    obtain ⟨nm,wd,ps⟩:=x
    obtain ⟨f0,f1,f2⟩:=x1
    have lg:=lt_of_at f0
    simp only at lg
    have hin':(i:Int)<(n1:Int):=by omega
    have BX:=HB.out.2
    have f0:wr.cell? ⟨g,q+i*3,none⟩=some (.string nm):=(BX.cell (p:=⟨g,q+i*3,none⟩) lg).trans f0
    have f1:wr.cell? ⟨g,q+i*3+1,none⟩=some (.int .i64 wd):=(BX.cell (p:=⟨g,q+i*3+1,none⟩) lg).trans f1
    have f2:wr.cell? ⟨g,q+i*3+2,none⟩=some (.int .i64 ps):=(BX.cell (p:=⟨g,q+i*3+2,none⟩) lg).trans f2
    have HGI:=Lib.hid g1
    have HME:=Lib.hid hmem
    clear g1 e1 il BX hmem
    have O1:=Own.new wr 63 #[.string nm,.int .i64 wd,.int .i64 ps]
    have HBW:Hid (Below wr.heap.size wr (wr.alloc (.cells #[.string nm,.int .i64 wd,.int .i64 ps] 63))):=(Below.refl _ wr).alloc (Nat.le_refl _) _
    have HBA:=Lib.hid (bw_below HB.out HBW.out)
    have y0:(wr.alloc (.cells #[.string nm,.int .i64 wd,.int .i64 ps] 63)).cell? ⟨wr.heap.size,0,none⟩=some (.string nm):=by rw [cell_of_row _ _ 0 _ _ _ O1];rfl
    have y1:(wr.alloc (.cells #[.string nm,.int .i64 wd,.int .i64 ps] 63)).cell? ⟨wr.heap.size,1,none⟩=some (.int .i64 wd):=by rw [cell_of_row _ _ 1 _ _ _ O1];rfl
    have HNN:=HNM.out nm
    cases hq:nameB nm with
    | false =>
      rw [hq] at HNN
      replace HNN:=Lib.hid HNN
      have HQ:=Lib.hid hq
      clear hq
      go_wp2_with (first | (go_at_call 40;refine (HNN.out _ HBA.out.2).mono ?_;rintro e w2 ⟨rfl,rfl⟩))
      go_at_call 39
      refine (HND.out _ _).mono ?_
      rintro e w3 hh
      obtain ⟨rfl,hb⟩:=hh.bad rfl
      go_wp2_with fail
      exact ⟨rfl,by rw [and_f HR.out (by unfold sharedB;exact all_bad _ HME.out (by simp only [HQ.out,Bool.false_and]))];rfl,(bw_below HBA.out hb).2⟩
    | true =>
      rw [hq] at HNN
      replace HNN:=Lib.hid HNN
      have HQ:=Lib.hid hq
      clear hq
      go_wp2_with (first | (go_at_call 40;refine (HNN.out _ HBA.out.2).mono ?_;rintro e w2 ⟨rfl,rfl⟩))
      go_at_call 39
      refine (HND.out _ _).mono ?_
      rintro e w3 hh
      rcases hh.cases with ⟨h4,rfl,hb⟩ | ⟨h4,rfl,hb⟩
      rotate_left
      · have h4 : decide (-9223372036854775808 < wd) = false := h4
        go_wp2_with fail
        exact ⟨rfl,by rw [and_f HR.out (by unfold sharedB;exact all_bad _ HME.out (by simp only [HQ.out,h4,Bool.and_false]))];rfl,(bw_below HBA.out hb).2⟩
      have HB2:=Lib.hid (bw_below HBA.out hb)
      have h4:decide (-9223372036854775808<wd)=true:=h4
      have HX:Hid ((nameB nm&&decide (-9223372036854775808<wd))=true):=by rw [Hid,HQ.out,h4];rfl
      clear hb h4 O1 y0 y1
      go_wp2_with fail
      go_roundg (n1-(i+1)+1)
      case measure=>have:=HM.out;omega
      case rel =>
       refine ⟨i+1,rfl,by omega,by omega,fun j y hj hy=>?_,HB2.out⟩
       by_cases hji:j=i
       · subst hji
         rw [HGI.out] at hy
         obtain rfl:=Option.some.inj hy
         exact HX.out
       · exact HIN.out j y (by omega) hy
  · have : i = n1 := by omega
    subst this
    have hall:sharedB sh=true:=all_ok fun j y hj hy=>HIN.out j y (by have:=HN1.out;omega) hy
    replace HR:=Lib.hid (and_t HR.out hall)
    clear hall HIN HM
    have c1':wr.cell? ⟨w.heap.size,1,none⟩=some (.slice a2 n2 c2):=by rw [cell_of_row _ _ 1 _ _ _ HB.out.1];rfl
    go_wp2_with fail
    go_at_call 41
    refine (HBR.out _ HB.out.2).mono ?_
    rintro e w5 hh
    rcases hh.cases with ⟨hx,rfl,hb⟩ | ⟨hx,rfl,hb⟩
    rotate_left
    · go_wp2_with fail
      exact ⟨rfl,by rw [and_f HR.out hx];rfl,(bw_below HB.out hb).2⟩
    replace HR:=Lib.hid (and_t HR.out hx)
    replace HB:=Lib.hid (bw_below HB.out hb)
    clear hb hx c1'
    have c2':w5.cell? ⟨w.heap.size,2,none⟩=some (.slice a3 n3 c3):=by rw [cell_of_row _ _ 2 _ _ _ HB.out.1];rfl
    go_wp2_with fail
    clear c2'
    go_loopg [29] (n3+1) (fun m' u W=>∃ t:Nat,u=.int .i64 (t:Int)∧t≤n3∧m'=n3-t+1∧(∀ j y,j<t→th[j]? = some y→thB y=true)∧Below w.heap.size w W)
    case atStart=>exact ⟨0,rfl,Nat.zero_le _,by omega,fun j y h=>by omega,HB.out.2⟩
    case round =>
     clear HB
     obtain ⟨t,rfl,ht,hm,hI,hb0⟩:=hrel
     have HM:=Lib.hid hm
     have HIN:=Lib.hid hI
     have HB:=Lib.hid hb0
     clear hm hI hb0
     by_cases htn:t<n3
     · have il : t < th.length := by have := HN3.out; omega
       have g1:th[t]? = some th[t]:=List.getElem?_eq_getElem il
       have hmem:th[t]∈th:=List.getElem_mem il
       generalize th[t]=x at g1 hmem
       rcases E3.out with e | ⟨g,q,e,_,e1⟩
       · cases th with
         | nil=>simp at il
         | cons=>cases e
       obtain rfl:a3=some ⟨g,q,none⟩:=e
       have x1:=thsIn_get t x e1 g1
       obtain ⟨nm,lo,bo,ps⟩:=x
       obtain ⟨f0,⟨a4,c4,f1,w1⟩,⟨a5,c5,f2,w2⟩,f3⟩:=x1
       have lg:=lt_of_at f0
       simp only at lg
       have htn':(t:Int)<(n3:Int):=by omega
       have H1:Hid (∀ W,Below w.heap.size w W→Calls Tryz.prog 41 #[.slice a4 lo.length c4] W (NdP W (bareB lo))):=fun W hb=>HTL.out ⟨nm,lo,bo,ps⟩ W a4 c4 hmem hb (dcsAt_below w1 hb)
       have H2:Hid (∀ W,Below w.heap.size w W→Calls Tryz.prog 42 #[.slice a5 bo.length c5,.int .i64 1] W (NdP W (rB bo 1))):=fun W hb=>HTB.out ⟨nm,lo,bo,ps⟩ W a5 c5 hmem hb (stsAt_below w2 hb)
       have BX:=HB.out
       have f0:wr.cell? ⟨g,q+t*4,none⟩=some (.string nm):=(BX.cell (p:=⟨g,q+t*4,none⟩) lg).trans f0
       have f1:wr.cell? ⟨g,q+t*4+1,none⟩=some (.slice a4 lo.length c4):=(BX.cell (p:=⟨g,q+t*4+1,none⟩) lg).trans f1
       have f2:wr.cell? ⟨g,q+t*4+2,none⟩=some (.slice a5 bo.length c5):=(BX.cell (p:=⟨g,q+t*4+2,none⟩) lg).trans f2
       have f3:wr.cell? ⟨g,q+t*4+3,none⟩=some (.int .i64 ps):=(BX.cell (p:=⟨g,q+t*4+3,none⟩) lg).trans f3
       have HGI:=Lib.hid g1
       have HME:=Lib.hid hmem
       clear g1 e1 il BX hmem w1 w2
       obtain ⟨R1,hR1⟩:∃ R1,R1=thB ⟨nm,lo,bo,ps⟩:=⟨_,rfl⟩
       have HR1:Hid (R1=(nameB nm&&(bareB lo&&rB bo 1))):=hR1
       have HRT:=Lib.hid hR1
       clear hR1
       generalize bareB lo=b1 at H1 HR1
       generalize rB bo 1=b2 at H2 HR1
       generalize lo.length=nl at H1 f1
       generalize bo.length=nb at H2 f2
       have O1:=Own.new wr 39 #[.string nm,.slice a4 nl c4,.slice a5 nb c5,.int .i64 ps]
       have HBW:Hid (Below wr.heap.size wr (wr.alloc (.cells #[.string nm,.slice a4 nl c4,.slice a5 nb c5,.int .i64 ps] 39))):=(Below.refl _ wr).alloc (Nat.le_refl _) _
       have HBA:=Lib.hid (HB.out.trans (HBW.out.mono HB.out.size))
       have OT:=Lib.hid O1
       have y0:(wr.alloc (.cells #[.string nm,.slice a4 nl c4,.slice a5 nb c5,.int .i64 ps] 39)).cell? ⟨wr.heap.size,0,none⟩=some (.string nm):=by rw [cell_of_row _ _ 0 _ _ _ O1];rfl
       clear O1
       have HNN:=HNM.out nm
       cases hq:nameB nm with
       | false =>
         rw [hq] at HNN
         replace HNN:=Lib.hid HNN
         have HQ:=Lib.hid hq
         clear hq
         go_wp2_with (first | (go_at_call 40;refine (HNN.out _ HBA.out).mono ?_;rintro e w2 ⟨rfl,rfl⟩))
         go_at_call 39
         refine (HND.out _ _).mono ?_
         rintro e w3 hh
         obtain ⟨rfl,hb⟩:=hh.bad rfl
         go_wp2_with fail
         exact ⟨rfl,by rw [HR.out,all_bad _ HME.out (by rw [← HRT.out];exact and_f HR1.out HQ.out)];rfl,HBA.out.trans (hb.mono HBA.out.size)⟩
       | true =>
         rw [hq] at HNN
         replace HNN:=Lib.hid HNN
         replace HR1:=Lib.hid (and_t HR1.out hq)
         clear hq
         go_wp2_with (first | (go_at_call 40;refine (HNN.out _ HBA.out).mono ?_;rintro e w2 ⟨rfl,rfl⟩))
         go_at_call 39
         refine (HND.out _ _).mono ?_
         rintro e w3 hh
         obtain ⟨rfl,hb⟩:=hh.ok rfl
         replace HBA:=Lib.hid (HBA.out.trans (hb.mono HBA.out.size))
         replace OT:=Lib.hid (OT.out.below hb)
         clear hb y0 HBW
         have y1:w3.cell? ⟨wr.heap.size,1,none⟩=some (.slice a4 nl c4):=by rw [cell_of_row _ _ 1 _ _ _ OT.out];rfl
         go_wp2_with fail
         go_at_call 41
         refine (H1.out _ HBA.out).mono ?_
         rintro e w4 hh
         rcases hh.cases with ⟨hx,rfl,hb⟩ | ⟨hx,rfl,hb⟩
         rotate_left
         · go_wp2_with fail
           exact ⟨rfl,by rw [HR.out,all_bad _ HME.out (by rw [← HRT.out];exact and_f HR1.out hx)];rfl,HBA.out.trans (hb.mono HBA.out.size)⟩
         replace HR1:=Lib.hid (and_t HR1.out hx)
         replace HBA:=Lib.hid (HBA.out.trans (hb.mono HBA.out.size))
         replace OT:=Lib.hid (OT.out.below hb)
         clear hb y1 hx
         have y2:w4.cell? ⟨wr.heap.size,2,none⟩=some (.slice a5 nb c5):=by rw [cell_of_row _ _ 2 _ _ _ OT.out];rfl
         go_wp2_with fail
         go_at_call 42
         refine (H2.out _ HBA.out).mono ?_
         rintro e w6 hh
         rcases hh.cases with ⟨hx,rfl,hb⟩ | ⟨hx,rfl,hb⟩
         rotate_left
         · go_wp2_with fail
           exact ⟨rfl,by rw [HR.out,all_bad _ HME.out (by rw [← HRT.out,HR1.out,hx])];rfl,HBA.out.trans (hb.mono HBA.out.size)⟩
         have HX:Hid (thB ⟨nm,lo,bo,ps⟩=true):=by rw [Hid,← HRT.out,HR1.out,hx]
         have HB2:=Lib.hid (HBA.out.trans (hb.mono HBA.out.size))
         clear hb y2 hx
         go_wp2_with fail
         go_roundg (n3-(t+1)+1)
         case measure=>have:=HM.out;omega
         case rel =>
          refine ⟨t+1,rfl,by omega,by omega,fun j y hj hy=>?_,HB2.out⟩
          by_cases hji:j=t
          · subst hji
            rw [HGI.out] at hy
            obtain rfl:=Option.some.inj hy
            exact HX.out
          · exact HIN.out j y (by omega) hy
     · have : t = n3 := by omega
       subst this
       have hR:R=true:=by
        rw [HR.out]
        exact all_ok fun j y hj hy=>HIN.out j y (by have:=HN3.out;omega) hy
       have HRR:=Lib.hid hR
       clear hR
       go_wp2_with fail
       exact bodyPost_end (results_none rfl _ _ _) rfl ⟨by rw [HRR.out];rfl,HB.out⟩
end Go.Proofs.YtieeaehabjjaoaaGreatDoor
namespace Go.Proofs
open Go.Shelf
def Tryz.laysM173_ren:Go.Shelf.Ren:=⟨fun | 173=>123 | 246=>163 | 283=>190 | 284=>191 | 285=>192 | 286=>193 | 129=>234 | 317=>233 | 318=>235 | 319=>236 | 320=>237 | 337=>246 | 338=>247 | n=>n,fun | 2=>2 | 3=>3 | 9=>9 | 4=>4 | 171=>228 | 0=>0 | 53=>127 | 37=>46 | 5=>5 | 173=>231 | 212=>244 | 51=>195 | 20=>20 | 213=>245 | 46=>166 | 232=>254 | 233=>255 | n=>n,fun | 17=>4 | 18=>7 | 19=>8 | n=>n⟩
theorem Tryz.laysM173:Go.Proofs.LaysM.n173 Tryz.prog Tryz.laysM173_ren:={
 mixed:=by kernel_rfl
 f129:=Tryz.func234.trans (congrArg some (by kernel_rfl))
 f173:=Tryz.func123.trans (congrArg some (by kernel_rfl))
 f246:=Tryz.func163.trans (congrArg some (by kernel_rfl))
 f283:=Tryz.func190.trans (congrArg some (by kernel_rfl))
 f284:=Tryz.func191.trans (congrArg some (by kernel_rfl))
 f285:=Tryz.func192.trans (congrArg some (by kernel_rfl))
 f286:=Tryz.func193.trans (congrArg some (by kernel_rfl))
 f317:=Tryz.func233.trans (congrArg some (by kernel_rfl))
 f318:=Tryz.func235.trans (congrArg some (by kernel_rfl))
 f319:=Tryz.func236.trans (congrArg some (by kernel_rfl))
 f320:=Tryz.func237.trans (congrArg some (by kernel_rfl))
 f337:=Tryz.func246.trans (congrArg some (by kernel_rfl))
 f338:=Tryz.func247.trans (congrArg some (by kernel_rfl))
 t0:=Tryz.underlying0
 a0:=Tryz.isAgg0
 z0:=Tryz.sizeOf0
 v0:=Tryz.zeroValue0
 t2:=Tryz.underlying2
 a2:=Tryz.isAgg2
 z2:=Tryz.sizeOf2
 v2:=Tryz.zeroValue2
 t3:=Tryz.underlying3
 a3:=Tryz.isAgg3
 z3:=Tryz.sizeOf3
 v3:=Tryz.zeroValue3
 t4:=Tryz.underlying4
 a4:=Tryz.isAgg4
 z4:=Tryz.sizeOf4
 v4:=Tryz.zeroValue4
 t5:=Tryz.underlying5
 a5:=Tryz.isAgg5
 z5:=Tryz.sizeOf5
 v5:=Tryz.zeroValue5
 t9:=Tryz.underlying9
 a9:=Tryz.isAgg9
 z9:=Tryz.sizeOf9
 v9:=Tryz.zeroValue9
 t20:=Tryz.underlying20
 a20:=Tryz.isAgg20
 z20:=Tryz.sizeOf20
 v20:=Tryz.zeroValue20
 t37:=Tryz.underlying46
 a37:=Tryz.isAgg46
 z37:=Tryz.sizeOf46
 v37:=Tryz.zeroValue46
 t46:=Tryz.underlying166
 a46:=Tryz.isAgg166
 z46:=Tryz.sizeOf166
 v46:=Tryz.zeroValue166
 t51:=Tryz.underlying195
 a51:=Tryz.isAgg195
 z51:=Tryz.sizeOf195
 v51:=Tryz.zeroValue195
 t53:=Tryz.underlying127
 a53:=Tryz.isAgg127
 z53:=Tryz.sizeOf127
 v53:=Tryz.zeroValue127
 t171:=Tryz.underlying228
 a171:=Tryz.isAgg228
 z171:=Tryz.sizeOf228
 v171:=Tryz.zeroValue228
 t173:=Tryz.underlying231
 a173:=Tryz.isAgg231
 z173:=Tryz.sizeOf231
 v173:=Tryz.zeroValue231
 t212:=Tryz.underlying244
 a212:=Tryz.isAgg244
 z212:=Tryz.sizeOf244
 v212:=Tryz.zeroValue244
 t213:=Tryz.underlying245
 a213:=Tryz.isAgg245
 z213:=Tryz.sizeOf245
 t232:=Tryz.underlying254
 a232:=Tryz.isAgg254
 z232:=Tryz.sizeOf254
 v232:=Tryz.zeroValue254
 t233:=Tryz.underlying255
 a233:=Tryz.isAgg255
 z233:=Tryz.sizeOf255
 v233:=Tryz.zeroValue255
 g17:=by kernel_rfl
 g18:=by kernel_rfl
 g19:=by kernel_rfl
 i0:=by kernel_rfl
 i2:=by kernel_rfl
 i3:=by kernel_rfl
 i4:=by kernel_rfl
 i5:=by kernel_rfl
 i9:=by kernel_rfl
 i20:=by kernel_rfl
 i37:=by kernel_rfl
 i46:=by kernel_rfl
 i51:=by kernel_rfl
 i53:=by kernel_rfl
 i171:=by kernel_rfl
 i173:=by kernel_rfl
 i212:=by kernel_rfl
 i232:=by kernel_rfl
 i233:=by kernel_rfl
 m17:=by kernel_rfl
 m18:=by kernel_rfl
 m19:=by kernel_rfl }
open Go.RowKit Go.Sort Go.Lib in
theorem Tryz.strconv_FormatInt_10 (n:Int) (h0 : -9223372036854775808≤n) (h1:n≤9223372036854775807) (w:World) (htab:Lib.TabIs Tryz.prog w "internal/strconv.uint64pow10" .u64 Lib.pow10Tab) :
 Calls Tryz.prog 123 #[.int .i64 n,.int .i64 10] w fun e w'=>e=.returned (.string ⟨(Lib.itoa n).toArray⟩)∧∃ k os,w'=grow (w.drewN k) os:=Any.strconv_FormatInt_10 Tryz.laysM173 n h0 h1 w htab
def Tryz.lays105_ren:Go.Shelf.Ren:=⟨fun | 105=>88 | 212=>126 | 99=>127 | 165=>128 | 166=>125 | 170=>124 | 169=>47 | 263=>165 | 264=>166 | 206=>167 | 240=>164 | 241=>168 | 276=>194 | 277=>195 | n=>n,fun | 9=>9 | 3=>3 | 4=>4 | 20=>20 | 0=>0 | 46=>166 | 109=>167 | 5=>5 | 72=>87 | 76=>164 | 51=>195 | 146=>196 | 53=>127 | 148=>198 | 70=>85 | 37=>46 | 75=>163 | 127=>124 | 164=>233 | 80=>44 | n=>n,fun | n=>n⟩
theorem Tryz.lays105:Go.Proofs.Lays.n105 Tryz.prog Tryz.lays105_ren:={
 mixed:=by kernel_rfl
 f99:=Tryz.func127.trans (congrArg some (by kernel_rfl))
 f105:=Tryz.func88.trans (congrArg some (by kernel_rfl))
 f165:=Tryz.func128.trans (congrArg some (by kernel_rfl))
 f166:=Tryz.func125.trans (congrArg some (by kernel_rfl))
 f169:=Tryz.func47.trans (congrArg some (by kernel_rfl))
 f170:=Tryz.func124.trans (congrArg some (by kernel_rfl))
 f206:=Tryz.func167.trans (congrArg some (by kernel_rfl))
 f212:=Tryz.func126.trans (congrArg some (by kernel_rfl))
 f240:=Tryz.func164.trans (congrArg some (by kernel_rfl))
 f241:=Tryz.func168.trans (congrArg some (by kernel_rfl))
 f263:=Tryz.func165.trans (congrArg some (by kernel_rfl))
 f264:=Tryz.func166.trans (congrArg some (by kernel_rfl))
 f276:=Tryz.func194.trans (congrArg some (by kernel_rfl))
 f277:=Tryz.func195.trans (congrArg some (by kernel_rfl))
 t0:=Tryz.underlying0
 a0:=Tryz.isAgg0
 z0:=Tryz.sizeOf0
 v0:=Tryz.zeroValue0
 t3:=Tryz.underlying3
 a3:=Tryz.isAgg3
 z3:=Tryz.sizeOf3
 v3:=Tryz.zeroValue3
 t4:=Tryz.underlying4
 a4:=Tryz.isAgg4
 z4:=Tryz.sizeOf4
 v4:=Tryz.zeroValue4
 t5:=Tryz.underlying5
 a5:=Tryz.isAgg5
 z5:=Tryz.sizeOf5
 v5:=Tryz.zeroValue5
 t9:=Tryz.underlying9
 a9:=Tryz.isAgg9
 z9:=Tryz.sizeOf9
 v9:=Tryz.zeroValue9
 t20:=Tryz.underlying20
 a20:=Tryz.isAgg20
 z20:=Tryz.sizeOf20
 v20:=Tryz.zeroValue20
 t37:=Tryz.underlying46
 a37:=Tryz.isAgg46
 z37:=Tryz.sizeOf46
 v37:=Tryz.zeroValue46
 t46:=Tryz.underlying166
 a46:=Tryz.isAgg166
 z46:=Tryz.sizeOf166
 v46:=Tryz.zeroValue166
 t51:=Tryz.underlying195
 a51:=Tryz.isAgg195
 z51:=Tryz.sizeOf195
 v51:=Tryz.zeroValue195
 t53:=Tryz.underlying127
 a53:=Tryz.isAgg127
 z53:=Tryz.sizeOf127
 v53:=Tryz.zeroValue127
 t70:=Tryz.underlying85
 a70:=Tryz.isAgg85
 z70:=Tryz.sizeOf85
 v70:=Tryz.zeroValue85
 t72:=Tryz.underlying87
 a72:=Tryz.isAgg87
 z72:=Tryz.sizeOf87
 v72:=Tryz.zeroValue87
 t75:=Tryz.underlying163
 a75:=Tryz.isAgg163
 z75:=Tryz.sizeOf163
 v75:=Tryz.zeroValue163
 t76:=Tryz.underlying164
 a76:=Tryz.isAgg164
 z76:=Tryz.sizeOf164
 v76:=Tryz.zeroValue164
 t109:=Tryz.underlying167
 a109:=Tryz.isAgg167
 z109:=Tryz.sizeOf167
 v109:=Tryz.zeroValue167
 t127:=Tryz.underlying124
 a127:=Tryz.isAgg124
 z127:=Tryz.sizeOf124
 v127:=Tryz.zeroValue124
 t146:=Tryz.underlying196
 a146:=Tryz.isAgg196
 z146:=Tryz.sizeOf196
 v146:=Tryz.zeroValue196
 t148:=Tryz.underlying198
 a148:=Tryz.isAgg198
 z148:=Tryz.sizeOf198
 v148:=Tryz.zeroValue198
 t164:=Tryz.underlying233
 a164:=Tryz.isAgg233
 z164:=Tryz.sizeOf233
 v164:=Tryz.zeroValue233 }
theorem Tryz.Builder_Extra_105:Builder.Extra Tryz.prog Tryz.lays105_ren:={
 sizeBuilder:=by kernel_rfl
 liesBuilder:=by kernel_rfl
 t5:=Tryz.underlying5
 a5:=Tryz.isAgg5
 z5:=Tryz.sizeOf5
 v5:=Tryz.zeroValue5
 infoByte:=by kernel_rfl
 cellsByte:=by kernel_rfl
 sizeByte:=by kernel_rfl
 neB5:=by decide }
open Go.RowKit Go.Lib in
theorem Tryz.strings_Repeat (s:ByteArray) (c:Nat) (w:World) (hc:c≤9223372036854775807) (hlen:s.size*c≤140737488355328) :
 Calls Tryz.prog 88 #[.string s,.int .i64 c] w fun e w'=>e=.returned (.string ⟨(Lib.repeatL s.data.toList c).toArray⟩)∧Below w.heap.size w w':=Any.strings_Repeat Tryz.lays105 Tryz.Builder_Extra_105 s c w hc hlen
end Go.Proofs
namespace Go.Proofs.YtieeaehabjjaoaaGreatDoor
open Go.RowKit
set_option linter.unusedVariables false
set_option maxRecDepth 100000
theorem gPow:Tryz.prog.globalNamed "internal/strconv.uint64pow10" = some 4:=by kernel_rfl
structure WTb (W:World):Prop where
 pt:PT W
 pow:Lib.TabIs Tryz.prog W "internal/strconv.uint64pow10" .u64 Lib.pow10Tab
 size:4<W.heap.size
theorem WTb.below {W W':World} (T:WTb W) (h:Below W.heap.size W W'):WTb W':=⟨T.pt.below h,var?_below h gPow T.size T.pow,Nat.lt_of_lt_of_le T.size h.size⟩
theorem below_gro (w:World) (k:Nat) (os:Array Obj):Below w.heap.size w (Sort.grow (w.drewN k) os):=by
 refine ⟨rfl,rfl,rfl,?_,fun i hi=>?_⟩
 · show w.heap.size ≤ (w.heap ++ os).size
   simp
 · show (w.heap ++ os)[i]? = _
   rw [Array.getElem?_append_left hi]
theorem print_any (n:Int) (h0 : -9223372036854775808≤n) (h1:n≤9223372036854775807) (w:World) (T:WTb w) :
 Calls Tryz.prog 86 #[.int .i64 n] w fun e w'=>e=.returned (.string ⟨(Lib.itoa n).toArray⟩)∧Below w.heap.size w w':=by
 have H:=Lib.hid (show Calls Tryz.prog 123 #[.int .i64 n,.int .i64 10] w fun e w'=>e=.returned (.string ⟨(Lib.itoa n).toArray⟩)∧Below w.heap.size w w' from
  (Go.Proofs.Tryz.strconv_FormatInt_10 n h0 h1 w T.pow).mono fun e w' ⟨he,k,os,hw⟩=>⟨he,by rw [hw];exact below_gro w k os⟩)
 obtain ⟨s,hs⟩:∃ s:ByteArray,s=⟨(Lib.itoa n).toArray⟩:=⟨_,rfl⟩
 rw [← hs] at H ⊢
 clear hs T
 go_enter Tryz.func86,Tryz.ntmps86
 go_wp2_with (go_at_call 123;refine (H.out).mono ?_;rintro e w' ⟨rfl,hb⟩)
 go_ret
 exact ⟨rfl,hb⟩
def marg (d:Nat):List UInt8:=Lib.repeatL [32,32] d
def margS (d:Nat):ByteArray:=⟨(marg d).toArray⟩
theorem marg_len:∀ d,(marg d).length=2*d:=by
 intro d
 unfold marg
 rw [Lib.repeatL_length]
 simp
 omega
theorem p_marg (d:Nat) (hd:d≤1000000) (w:World):Calls Tryz.prog 88 #[.string ⟨#[32,32]⟩,.int .i64 (d:Int)] w fun e w'=>e=.returned (.string (margS d))∧Below w.heap.size w w':=by
 have:=Go.Proofs.Tryz.strings_Repeat ⟨#[32,32]⟩ d w (by omega) (by show 2*d≤_;omega)
 exact this
theorem PutP.cases {b:Nat} {txt t:List UInt8} {deep:Int} {fs:List Value} {W:World} {e:Ending} {w':World} (h:PutP b txt t deep fs W e w') :
 ((txt++t).length≤65536∧e=.returned (.tuple #[])∧Wt b (txt++t) deep fs w'∧Keep (selW b) W w'∧Below b W w')∨(65536<(txt++t).length∧e=.panicked (errP 4)∧Below b W w'):=by
 obtain ⟨hb,⟨h1,h2,h3,h4⟩ | ⟨h1,h2⟩⟩:=h
 · exact .inl ⟨h1,h2,h3,h4,hb⟩
 · exact .inr ⟨h1,h2,hb⟩
theorem Wt.lt {b:Nat} {txt:List UInt8} {deep:Int} {fs:List Value} {W:World} (h:Wt b txt deep fs W):b<W.heap.size:=by obtain ⟨p,v,h⟩:=h;exact h.1.lt
theorem Wt.below {b:Nat} {txt:List UInt8} {deep:Int} {fs:List Value} {W W':World} (h:Wt b txt deep fs W) (hb:Below W.heap.size W W'):Wt b txt deep fs W':=by
 obtain ⟨p,v,h1,h2,h3,h4,h5⟩:=h
 exact ⟨p,v,h1.below hb,h2,h3,h4,row_below h5 hb⟩
theorem Wt.deep {b:Nat} {txt:List UInt8} {deep:Int} {fs:List Value} {W:World} (h:Wt b txt deep fs W):W.cell? ⟨b,2,none⟩=some (.int .i64 deep):=by
 obtain ⟨p,v,h1,_⟩:=h
 rw [cell_of_row _ _ 2 _ _ _ h1];rfl
theorem keep_below {sel:Nat→Obj→Prop} {W W':World} (h:Below W.heap.size W W'):Keep sel W W':=⟨h.os,h.tape,h.output,h.size,fun k o ho _=>(h.block _ (Array.getElem?_eq_some_iff.1 ho).1).trans ho⟩
theorem sa_one {b:Nat} {W:World} (hb:b<W.heap.size) (s:ByteArray):SA b (W.alloc (.cells #[.string s] 9)) (some ⟨W.heap.size,0,none⟩) [s] :=
 .inr ⟨W.heap.size,#[.string s],rfl,by omega,Own.new W _ _,fun j x hj=>by
  match j,hj with
  | 0, hj => obtain rfl : s = x := by simpa using hj
             rfl⟩
theorem keep_alloc {b:Nat} {W:World} (o:Obj):Keep (selW b) W (W.alloc o):=keep_below ((Below.refl _ W).alloc (Nat.le_refl _) _)
theorem p_put1 {b:Nat} {txt:List UInt8} {deep:Int} {fs:List Value} {W:World} (hw:Wt b txt deep fs W) (ht:txt.length≤65536) (s:ByteArray) (hz:s.size≤140737488289792) :
 Calls Tryz.prog 87 #[.pointer (some ⟨b,0,none⟩),.slice (some ⟨W.heap.size,0,none⟩) 1 1] (W.alloc (.cells #[.string s] 9)) (PutP b txt s.data.toList deep fs W):=by
 have hc:cat [s]=s.data.toList:=by simp [cat]
 have h:=p_put (l:=[s]) (c:=1) (hw.below ((Below.refl _ W).alloc (Nat.le_refl _) (.cells #[.string s] 9))) ht (by simp) (fun x hx=>(by simpa using hx:x=s) ▸ hz) (sa_one hw.lt s)
 rw [hc] at h
 refine h.mono fun e w' ⟨h1,h2⟩=>⟨((Below.refl b W).alloc (Nat.le_of_lt hw.lt) _).trans h1,?_⟩
 rcases h2 with ⟨h3,h4,h5,h6⟩ | h2
 · exact .inl ⟨h3,h4,h5,(keep_alloc _).trans h6⟩
 · exact .inr h2
theorem p_line {b:Nat} {txt:List UInt8} {deep:Nat} {fs:List Value} {w:World} (h:Wt b txt deep fs w) (hd:deep≤1000) (ht:txt.length≤65536) {l:List ByteArray} (hl:l.length≤9223372036854775807) (hs:∀ s∈l,s.size≤140737488289792) {a:Option Addr} {c:Nat} (ha:SA b w a l) :
 Calls Tryz.prog 45 #[.pointer (some ⟨b,0,none⟩),.slice a l.length c] w (PutP b txt (marg deep++cat l++[10]) deep fs w):=by
 have c2:=h.deep
 have HMG:Hid (∀ W,Calls Tryz.prog 88 #[.string ⟨#[32,32]⟩,.int .i64 (deep:Int)] W fun e w'=>e=.returned (.string (margS deep))∧Below W.heap.size W w'):=fun W=>p_marg deep (by omega) W
 have HP1:Hid (∀ t W s,Wt b t deep fs W→t.length≤65536→s.size≤140737488289792→Calls Tryz.prog 87 #[.pointer (some ⟨b,0,none⟩),.slice (some ⟨W.heap.size,0,none⟩) 1 1] (W.alloc (.cells #[.string s] 9)) (PutP b t s.data.toList deep fs W)):=fun t W s hw ht hz=>p_put1 hw ht s hz
 have HP2:Hid (∀ t W,Wt b t deep fs W→t.length≤65536→SA b W a l→Calls Tryz.prog 87 #[.pointer (some ⟨b,0,none⟩),.slice a l.length c] W (PutP b t (cat l) deep fs W)):=fun t W hw ht ha=>p_put hw ht hl hs ha
 have hms:(margS deep).size≤140737488289792:=by show (marg deep).toArray.size≤_;rw [List.size_toArray,marg_len];omega
 have HW:=Lib.hid h
 have HA:=Lib.hid ha
 have HT:=Lib.hid ht
 have HZ:=Lib.hid hms
 have hmd:(margS deep).data.toList=marg deep:=by simp [margS]
 have HMD:=Lib.hid hmd
 clear h ha hs ht hms hmd
 generalize l.length=n at HP2 ⊢
 obtain ⟨ml,hml⟩:∃ ml,ml=marg deep:=⟨_,rfl⟩
 rw [← hml] at HMD ⊢
 clear hml
 go_enter Tryz.func45,Tryz.ntmps45
 go_wp2_with (first | (go_at_call 88;refine (HMG.out _).mono ?_;rintro e w1 ⟨rfl,hb1⟩))
 go_at_call 87
 refine (HP1.out txt _ _ (HW.out.below hb1) HT.out HZ.out).mono ?_
 rintro e w2 hh
 have hb1':Below b w w1:=hb1.mono (Nat.le_of_lt HW.out.lt)
 rcases hh.cases with ⟨hx,rfl,hw,hk,hb⟩ | ⟨hx,rfl,hb⟩
 rotate_left
 · rw [HMD.out] at hx
   go_wp2_with fail
   exact ⟨rfl,hb1'.trans hb,.inr ⟨by simp only [List.length_append] at hx ⊢;omega,rfl⟩⟩
 rw [HMD.out] at hx hw
 have HW2:=Lib.hid hw
 have HL2:=Lib.hid hx
 have HB2:=Lib.hid (hb1'.trans hb)
 have HK2:=Lib.hid ((keep_below (sel:=selW b) hb1).trans hk)
 clear hx hw hb hk hb1 hb1' c2 HMD
 go_wp2_with fail
 go_at_call 87
 refine (HP2.out _ _ HW2.out HL2.out (HA.out.keep HK2.out)).mono ?_
 rintro e w3 hh
 rcases hh.cases with ⟨hx,rfl,hw,hk,hb⟩ | ⟨hx,rfl,hb⟩
 rotate_left
 · go_wp2_with fail
   exact ⟨rfl,HB2.out.trans hb,.inr ⟨by simp only [List.length_append] at hx ⊢;omega,rfl⟩⟩
 have HW3:=Lib.hid hw
 have HL3:=Lib.hid hx
 have HB3:=Lib.hid (HB2.out.trans hb)
 have HK3:=Lib.hid (HK2.out.trans hk)
 clear hx hw hb hk
 go_wp2_with fail
 go_at_call 87
 refine (HP1.out _ _ _ HW3.out HL3.out (by decide)).mono ?_
 rintro e w4 hh
 rcases hh.cases with ⟨hx,rfl,hw,hk,hb⟩ | ⟨hx,rfl,hb⟩
 rotate_left
 · go_wp2_with fail
   exact ⟨rfl,HB3.out.trans hb,.inr ⟨by simp only [List.length_append] at hx ⊢;omega,rfl⟩⟩
 have he:txt++(ml++cat l++[10])=txt++ml++cat l++[10]:=by simp
 have HX:Hid (PutP b txt (ml++cat l++[10]) deep fs w (.returned (.tuple #[])) w4):=⟨HB3.out.trans hb,.inl ⟨by rw [he];exact hx,rfl,by rw [he];exact hw,HK3.out.trans hk⟩⟩
 clear hx hw hb hk he
 go_wp2_with fail
 exact bodyPost_end (results_none rfl _ _ _) rfl HX.out
end Go.Proofs.YtieeaehabjjaoaaGreatDoor

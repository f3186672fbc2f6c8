/- The proof, part 23: texts that belong together, in one. -/
import Derived.Test.YtkheldgmpgefiaaGreatDoorRAV
set_option maxRecDepth 100000
set_option maxHeartbeats 20000000
namespace Go.Proofs.YtkheldgmpgefiaaGreatDoor
open Go.RowKit
set_option linter.unusedVariables false
theorem bne_of {α:Type} [BEq α] {a b:α} {c:Bool} (h:(a==b)=c):(a != b) = !c:=by rw [← h];rfl
theorem neq_int {a b:Int} (h:¬ a=b):(a != b)=true∧(a==b)=false:=by simp [h]
theorem r_declsG {l m:List Dc} {a b:Option Addr} {c1 c2:Nat} {w:World} (hl:l.length≤9223372036854775807) (h1:dcsAt (fun _=>True) w l a) (h2:dcsAt (fun _=>True) w m b) :
 Calls Tryz.prog 41 #[.slice a l.length c1,.slice b m.length c2] w fun e w'=>e=.returned (.bool (sameBy sameD l m))∧∃ j,w'=w.drewN j:=by
 by_cases hne:l.length=m.length
 · obtain ⟨R, hR⟩ : ∃ R, R = sameBy sameD l m := ⟨_, rfl⟩
   rw [← hR]
   have HRR:=Lib.hid hR
   have HLM:=Lib.hid hne
   have E1:=Lib.hid h1
   have E2:=Lib.hid h2
   rw [← hne]
   obtain ⟨n,hn⟩:∃ n,n=l.length:=⟨_,rfl⟩
   rw [← hn] at hl ⊢
   have HN:=Lib.hid hn
   have hnn:((n:Int) != (n:Int))=false:=by simp
   clear hne h1 h2 hR hn
   go_enter Tryz.func41,Tryz.ntmps41
   go_wp2_with fail
   go_loopg [13] (n+1) (fun m' u W=>∃ i:Nat,u=.int .i64 (i:Int)∧i≤n∧m'=n-i+1∧sameBy sameD (l.drop i) (m.drop i)=R∧∃ j,W=w.drewN j)
   case atStart=>exact ⟨0,rfl,Nat.zero_le _,by omega,HRR.out.symm,0,rfl⟩
   case round =>
    obtain ⟨i,rfl,hi,hm,hR,j0,hW0⟩:=hrel
    have HM:=Lib.hid hm
    have HW:=Lib.hid hW0
    have HRI:=Lib.hid hR
    clear hm hW0 hR
    by_cases hin:i<n
    · have il : i < l.length := by have := HN.out; omega
      have im:i<m.length:=by have:=HLM.out;omega
      have g1:l[i]? = some l[i]:=List.getElem?_eq_getElem il
      have g2:m[i]? = some m[i]:=List.getElem?_eq_getElem im
      have hst:=sameBy_step (f:=sameD) il im
      generalize l[i]=x at g1 hst
      generalize m[i]=y at g2 hst
      have HST:=Lib.hid (HRI.out.symm.trans hst)
      clear hst
      rcases E1.out with e | ⟨g,q,rfl,_,e1⟩
      · cases l with
        | nil=>simp at il
        | cons=>cases e
      rcases E2.out with e | ⟨g',q',rfl,_,e2⟩
      · cases m with
        | nil=>simp at im
        | cons=>cases e
      obtain ⟨a0,a1,a2⟩:=dcsIn_get i x e1 g1
      obtain ⟨b0,b1,b2⟩:=dcsIn_get i y e2 g2
      obtain ⟨nm,wd,ps⟩:=x
      obtain ⟨nm',wd',ps'⟩:=y
      have hin':(i:Int)<(n:Int):=by omega
      have a0:wr.cell? ⟨g,q+i*3,none⟩=some (.string nm):=by rw [HW.out];exact a0
      have b0:wr.cell? ⟨g',q'+i*3,none⟩=some (.string nm'):=by rw [HW.out];exact b0
      have a1:wr.cell? ⟨g,q+i*3+1,none⟩=some (.int .i64 wd):=by rw [HW.out];exact a1
      have b1:wr.cell? ⟨g',q'+i*3+1,none⟩=some (.int .i64 wd'):=by rw [HW.out];exact b1
      clear a2 b2 g1 g2 e1 e2 il im
      obtain ⟨B1,hB1⟩:∃ B,B=(nm.toList==nm'.toList):=⟨_,rfl⟩
      replace HST:Hid (R=((B1&&(wd==wd'))&&sameBy sameD (l.drop (i+1)) (m.drop (i+1)))):=by rw [Hid,HST.out,hB1,toList_eq];rfl
      have q1':(nm.toList==nm'.toList)=B1:=hB1.symm
      have q1:=bne_of q1'
      clear hB1
      cases B1 with
      | false =>
        simp only [Bool.not_false] at q1
        go_wp2_with fail
        go_quiet (fail)
        go_wp2_with fail
        go_ret
        exact ⟨by rw [HST.out];rfl,_,by rw [HW.out,World.drewN_drewN]⟩
      | true =>
        simp only [Bool.not_true] at q1
        by_cases ew:wd=wd'
        · subst ew
          have q2:(wd != wd)=false:=by simp
          go_wp2_with fail
          go_quiet (fail)
          go_wp2_with fail
          go_roundg (n-(i+1)+1)
          case measure=>have:=HM.out;omega
          case rel=>exact ⟨i+1,rfl,by omega,by omega,by rw [HST.out];simp,_,by rw [HW.out,World.drewN_drewN]⟩
        · obtain ⟨q2, q2'⟩ := neq_int ew
          replace HST:Hid (R=false):=by rw [Hid,HST.out,q2'];simp
          clear ew q2'
          go_wp2_with fail
          go_quiet (fail)
          go_wp2_with fail
          go_ret
          exact ⟨by rw [HST.out];rfl,_,by rw [HW.out,World.drewN_drewN]⟩
    · have : i = n := by omega
      subst this
      have HRT:Hid (R=true):=by rw [Hid,← HRI.out];exact sameBy_end (by have:=HN.out;omega) (by have:=HLM.out;have:=HN.out;omega)
      go_wp2_with fail
      go_ret
      exact ⟨by rw [HRT.out];rfl,_,HW.out⟩
 · rw [sameBy_ne hne]
   obtain ⟨n,hn⟩:∃ n,n=l.length:=⟨_,rfl⟩
   obtain ⟨k,hk⟩:∃ k,k=m.length:=⟨_,rfl⟩
   rw [← hn,← hk] at hne ⊢
   have hnk:((n:Int) != (k:Int))=true:=by simp;omega
   clear hn hk h1 h2
   go_enter Tryz.func41,Tryz.ntmps41
   go_wp2_with fail
   go_ret
   exact ⟨rfl,0,rfl⟩
def SmG (l:List St):Prop:=okSs l→l.length≤9223372036854775807→∀ (m:List St) (a b:Option Addr) (c1 c2:Nat) (w:World),stsAt (fun _=>True) w l a→stsAt (fun _=>True) w m b →
 Calls Tryz.prog 42 #[.slice a l.length c1,.slice b m.length c2] w fun e w'=>e=.returned (.bool (sameSs l m))∧Below w.heap.size w w'
theorem r_stmtsG_one {l:List St} (HI:∀ x∈l,SmG x.body∧SmG x.els):SmG l:=by
 intro HO hl m a b c1 c2 w h1 h2
 rw [← sameBy_st]
 by_cases hne:l.length=m.length
 · obtain ⟨R, hR⟩ : ∃ R, R = sameBy sameS l m := ⟨_, rfl⟩
   rw [← hR]
   have HRR:=Lib.hid hR
   have HLM:=Lib.hid hne
   have HI:=Lib.hid HI
   have HO:=Lib.hid HO
   have E1:=Lib.hid h1
   have E2:=Lib.hid h2
   rw [← hne]
   obtain ⟨n,hn⟩:∃ n,n=l.length:=⟨_,rfl⟩
   rw [← hn] at hl ⊢
   have HN:=Lib.hid hn
   have hnn:((n:Int) != (n:Int))=false:=by simp
   clear hne h1 h2 hR hn
   go_enter Tryz.func42,Tryz.ntmps42
   go_wp2_with fail
   go_loopg [15] (n+1) (fun m' u W=>∃ i:Nat,u=.int .i64 (i:Int)∧i≤n∧m'=n-i+1∧sameBy sameS (l.drop i) (m.drop i)=R∧Below w.heap.size w W)
   case atStart=>exact ⟨0,rfl,Nat.zero_le _,by omega,HRR.out.symm,Below.refl _ w⟩
   case round =>
    obtain ⟨i,rfl,hi,hm,hR,hb0⟩:=hrel
    have HM:=Lib.hid hm
    have HB:=Lib.hid hb0
    have HRI:=Lib.hid hR
    clear hm hb0 hR
    by_cases hin:i<n
    · have il : i < l.length := by have := HN.out; omega
      have im:i<m.length:=by have:=HLM.out;omega
      have g1:l[i]? = some l[i]:=List.getElem?_eq_getElem il
      have g2:m[i]? = some m[i]:=List.getElem?_eq_getElem im
      have hmem:l[i]∈l:=List.getElem_mem il
      have hst:=sameBy_step (f:=sameS) il im
      generalize l[i]=x at g1 hmem hst
      generalize m[i]=y at g2 hst
      have HST:=Lib.hid (HRI.out.symm.trans hst)
      clear hst
      have hok:=okSs_mem HO.out x hmem
      have HX:=Lib.hid (HI.out x hmem)
      rcases E1.out with e | ⟨g,q,rfl,_,e1⟩
      · cases l with
        | nil=>simp at il
        | cons=>cases e
      rcases E2.out with e | ⟨g',q',rfl,_,e2⟩
      · cases m with
        | nil=>simp at im
        | cons=>cases e
      have x1:=stsIn_get i x e1 g1
      have y1:=stsIn_get i y e2 g2
      obtain ⟨k,nm,ot,es,bo,el,ps⟩:=x
      obtain ⟨k',nm',ot',es',bo',el',ps'⟩:=y
      obtain ⟨a0,a1,a2,⟨ea,ec,a3,w3⟩,⟨ba,bc,a4,w4⟩,⟨la,lc,a5,w5⟩,a6⟩:=x1
      obtain ⟨b0,b1,b2,⟨fa,fc,b3,z3⟩,⟨da,dc,b4,z4⟩,⟨ma,mc,b5,z5⟩,b6⟩:=y1
      obtain ⟨⟨o1,o2⟩,⟨o3,o4⟩,o5,o6⟩:=hok
      have lg:=lt_of_at a0
      have lg':=lt_of_at b0
      simp only at lg lg'
      have hin':(i:Int)<(n:Int):=by omega
      have HC1:Hid (∀ W,Below w.heap.size w W→Calls Tryz.prog 80 #[.slice ea es.length ec,.slice fa es'.length fc] W fun e' w'=>e'=.returned (.bool (sameEs es es'))∧Below W.heap.size W w'):=fun W hW=>r_exprs (l:=es) (m:=es') (w:=W) (c1:=ec) (c2:=fc) (fun x _=>r_same x) o2 o1 (exsAt_below w3 hW) (exsAt_below z3 hW)
      have HC2:Hid (∀ W,Below w.heap.size w W→Calls Tryz.prog 42 #[.slice ba bo.length bc,.slice da bo'.length dc] W fun e' w'=>e'=.returned (.bool (sameSs bo bo'))∧Below W.heap.size W w'):=fun W hW=>HX.out.1 o4 o3 bo' ba da bc dc W (stsAt_below w4 hW) (stsAt_below z4 hW)
      have HC3:Hid (∀ W,Below w.heap.size w W→Calls Tryz.prog 42 #[.slice la el.length lc,.slice ma el'.length mc] W fun e' w'=>e'=.returned (.bool (sameSs el el'))∧Below W.heap.size W w'):=fun W hW=>HX.out.2 o6 o5 el' la ma lc mc W (stsAt_below w5 hW) (stsAt_below z5 hW)
      replace HST:Hid (R=(((((((k==k')&&(nm.toList==nm'.toList))&&(ot.toList==ot'.toList))&&sameEs es es')&&sameSs bo bo')&&sameSs el el')&&sameBy sameS (l.drop (i+1)) (m.drop (i+1)))):=by rw [Hid,HST.out,toList_eq,toList_eq];rfl
      have BX:=HB.out
      have a0:wr.cell? ⟨g,q+i*7,none⟩=some (.int .u8 k):=(BX.cell (p:=⟨g,q+i*7,none⟩) lg).trans a0
      have a1:wr.cell? ⟨g,q+i*7+1,none⟩=some (.string nm):=(BX.cell (p:=⟨g,q+i*7+1,none⟩) lg).trans a1
      have a2:wr.cell? ⟨g,q+i*7+2,none⟩=some (.string ot):=(BX.cell (p:=⟨g,q+i*7+2,none⟩) lg).trans a2
      have a3:wr.cell? ⟨g,q+i*7+3,none⟩=some (.slice ea es.length ec):=(BX.cell (p:=⟨g,q+i*7+3,none⟩) lg).trans a3
      have a4:wr.cell? ⟨g,q+i*7+4,none⟩=some (.slice ba bo.length bc):=(BX.cell (p:=⟨g,q+i*7+4,none⟩) lg).trans a4
      have a5:wr.cell? ⟨g,q+i*7+5,none⟩=some (.slice la el.length lc):=(BX.cell (p:=⟨g,q+i*7+5,none⟩) lg).trans a5
      have a6:wr.cell? ⟨g,q+i*7+6,none⟩=some (.int .i64 ps):=(BX.cell (p:=⟨g,q+i*7+6,none⟩) lg).trans a6
      have b0:wr.cell? ⟨g',q'+i*7,none⟩=some (.int .u8 k'):=(BX.cell (p:=⟨g',q'+i*7,none⟩) lg').trans b0
      have b1:wr.cell? ⟨g',q'+i*7+1,none⟩=some (.string nm'):=(BX.cell (p:=⟨g',q'+i*7+1,none⟩) lg').trans b1
      have b2:wr.cell? ⟨g',q'+i*7+2,none⟩=some (.string ot'):=(BX.cell (p:=⟨g',q'+i*7+2,none⟩) lg').trans b2
      have b3:wr.cell? ⟨g',q'+i*7+3,none⟩=some (.slice fa es'.length fc):=(BX.cell (p:=⟨g',q'+i*7+3,none⟩) lg').trans b3
      have b4:wr.cell? ⟨g',q'+i*7+4,none⟩=some (.slice da bo'.length dc):=(BX.cell (p:=⟨g',q'+i*7+4,none⟩) lg').trans b4
      have b5:wr.cell? ⟨g',q'+i*7+5,none⟩=some (.slice ma el'.length mc):=(BX.cell (p:=⟨g',q'+i*7+5,none⟩) lg').trans b5
      have b6:wr.cell? ⟨g',q'+i*7+6,none⟩=some (.int .i64 ps'):=(BX.cell (p:=⟨g',q'+i*7+6,none⟩) lg').trans b6
      clear g1 g2 e1 e2 il im w3 w4 w5 z3 z4 z5 o1 o2 o3 o4 o5 o6 HX hmem BX
      generalize sameEs es es'=B3 at HC1 HST
      generalize sameSs bo bo'=B4 at HC2 HST
      generalize sameSs el el'=B5 at HC3 HST
      generalize es.length=n3 at *
      generalize bo.length=n4 at *
      generalize el.length=n5 at *
      generalize es'.length=m3 at *
      generalize bo'.length=m4 at *
      generalize el'.length=m5 at *
      go_upto_region 6 with fail
      go_cut [6,7] (fun u v wx=>TwoAt w.heap.size w 78 #[.int .u8 k,.string nm,.string ot,.slice ea n3 ec,.slice ba n4 bc,.slice la n5 lc,.int .i64 ps] #[.int .u8 k',.string nm',.string ot',.slice fa m3 fc,.slice da m4 dc,.slice ma m5 mc,.int .i64 ps'] u v wx)
      case first =>
       go_region_held3 (fun W=>W.cell? ⟨g,q+i*7,none⟩=some (.int .u8 k)∧W.cell? ⟨g,q+i*7+1,none⟩=some (.string nm)∧W.cell? ⟨g,q+i*7+2,none⟩=some (.string ot)∧W.cell? ⟨g,q+i*7+3,none⟩=some (.slice ea n3 ec)∧W.cell? ⟨g,q+i*7+4,none⟩=some (.slice ba n4 bc)∧W.cell? ⟨g,q+i*7+5,none⟩=some (.slice la n5 lc)∧W.cell? ⟨g,q+i*7+6,none⟩=some (.int .i64 ps)∧W.cell? ⟨g',q'+i*7,none⟩=some (.int .u8 k')∧W.cell? ⟨g',q'+i*7+1,none⟩=some (.string nm')∧W.cell? ⟨g',q'+i*7+2,none⟩=some (.string ot')∧W.cell? ⟨g',q'+i*7+3,none⟩=some (.slice fa m3 fc)∧W.cell? ⟨g',q'+i*7+4,none⟩=some (.slice da m4 dc)∧W.cell? ⟨g',q'+i*7+5,none⟩=some (.slice ma m5 mc)∧W.cell? ⟨g',q'+i*7+6,none⟩=some (.int .i64 ps')) (go_keep) (fail)
       · go_wp2_with fail
         go_meet
         exact twoAt_1 HB.out
       · go_wp2_with fail
         go_meet
         exact twoAt_2 HB.out
      case rest =>
       obtain ⟨gu,gv,rfl,rfl,hO1,hO2,_,_,hb⟩:=hcut
       have O1:=Lib.hid hO1
       have O2:=Lib.hid hO2
       replace HB:=Lib.hid hb
       clear hO1 hO2 hb a0 a1 a2 a3 a4 a5 a6 b0 b1 b2 b3 b4 b5 b6
       have x0:wc.cell? ⟨gu,0,none⟩=some (.int .u8 k):=by rw [cell_of_row _ _ 0 _ _ _ O1.out];rfl
       have y0:wc.cell? ⟨gv,0,none⟩=some (.int .u8 k'):=by rw [cell_of_row _ _ 0 _ _ _ O2.out];rfl
       have x1:wc.cell? ⟨gu,1,none⟩=some (.string nm):=by rw [cell_of_row _ _ 1 _ _ _ O1.out];rfl
       have y1:wc.cell? ⟨gv,1,none⟩=some (.string nm'):=by rw [cell_of_row _ _ 1 _ _ _ O2.out];rfl
       have x2:wc.cell? ⟨gu,2,none⟩=some (.string ot):=by rw [cell_of_row _ _ 2 _ _ _ O1.out];rfl
       have y2:wc.cell? ⟨gv,2,none⟩=some (.string ot'):=by rw [cell_of_row _ _ 2 _ _ _ O2.out];rfl
       have x3:wc.cell? ⟨gu,3,none⟩=some (.slice ea n3 ec):=by rw [cell_of_row _ _ 3 _ _ _ O1.out];rfl
       have y3:wc.cell? ⟨gv,3,none⟩=some (.slice fa m3 fc):=by rw [cell_of_row _ _ 3 _ _ _ O2.out];rfl
       by_cases e0:k=k'
       · subst e0
         have q0:(k != k)=false:=by simp
         obtain ⟨B1,hB1⟩:∃ B,B=(nm.toList==nm'.toList):=⟨_,rfl⟩
         rw [← hB1] at HST
         have q1':(nm.toList==nm'.toList)=B1:=hB1.symm
         have q1:=bne_of q1'
         clear hB1
         cases B1 with
         | false =>
           simp only [Bool.not_false] at q1
           go_wp2_with fail
           go_ret
           exact ⟨by rw [show R=false by rw [HST.out];simp];rfl,HB.out⟩
         | true =>
           simp only [Bool.not_true] at q1
           obtain ⟨B2,hB2⟩:∃ B,B=(ot.toList==ot'.toList):=⟨_,rfl⟩
           rw [← hB2] at HST
           have q2':(ot.toList==ot'.toList)=B2:=hB2.symm
           have q2:=bne_of q2'
           clear hB2
           cases B2 with
           | false =>
             simp only [Bool.not_false] at q2
             go_wp2_with fail
             go_ret
             exact ⟨by rw [show R=false by rw [HST.out];simp];rfl,HB.out⟩
           | true =>
             simp only [Bool.not_true] at q2
             cases B3 with
             | false =>
               go_wp2_with fail
               go_at_call 80
               refine (HC1.out _ HB.out).mono ?_
               rintro e w3 ⟨rfl,hb3⟩
               replace O1:=Lib.hid (O1.out.below hb3)
               replace O2:=Lib.hid (O2.out.below hb3)
               replace HB:=Lib.hid (HB.out.trans (hb3.mono HB.out.size))
               clear hb3
               go_wp2_with fail
               go_ret
               exact ⟨by rw [show R=false by rw [HST.out];simp];rfl,HB.out⟩
             | true =>
               go_wp2_with fail
               go_at_call 80
               refine (HC1.out _ HB.out).mono ?_
               rintro e w3 ⟨rfl,hb3⟩
               replace O1:=Lib.hid (O1.out.below hb3)
               replace O2:=Lib.hid (O2.out.below hb3)
               replace HB:=Lib.hid (HB.out.trans (hb3.mono HB.out.size))
               clear hb3
               have x4:w3.cell? ⟨gu,4,none⟩=some (.slice ba n4 bc):=by rw [cell_of_row _ _ 4 _ _ _ O1.out];rfl
               have y4:w3.cell? ⟨gv,4,none⟩=some (.slice da m4 dc):=by rw [cell_of_row _ _ 4 _ _ _ O2.out];rfl
               cases B4 with
               | false =>
                 go_wp2_with fail
                 go_at_call 42
                 refine (HC2.out _ HB.out).mono ?_
                 rintro e w4 ⟨rfl,hb3⟩
                 replace O1:=Lib.hid (O1.out.below hb3)
                 replace O2:=Lib.hid (O2.out.below hb3)
                 replace HB:=Lib.hid (HB.out.trans (hb3.mono HB.out.size))
                 clear hb3
                 go_wp2_with fail
                 go_ret
                 exact ⟨by rw [show R=false by rw [HST.out];simp];rfl,HB.out⟩
               | true =>
                 go_wp2_with fail
                 go_at_call 42
                 refine (HC2.out _ HB.out).mono ?_
                 rintro e w4 ⟨rfl,hb3⟩
                 replace O1:=Lib.hid (O1.out.below hb3)
                 replace O2:=Lib.hid (O2.out.below hb3)
                 replace HB:=Lib.hid (HB.out.trans (hb3.mono HB.out.size))
                 clear hb3
                 have x5:w4.cell? ⟨gu,5,none⟩=some (.slice la n5 lc):=by rw [cell_of_row _ _ 5 _ _ _ O1.out];rfl
                 have y5:w4.cell? ⟨gv,5,none⟩=some (.slice ma m5 mc):=by rw [cell_of_row _ _ 5 _ _ _ O2.out];rfl
                 cases B5 with
                 | false =>
                   go_wp2_with fail
                   go_at_call 42
                   refine (HC3.out _ HB.out).mono ?_
                   rintro e w5 ⟨rfl,hb3⟩
                   replace O1:=Lib.hid (O1.out.below hb3)
                   replace O2:=Lib.hid (O2.out.below hb3)
                   replace HB:=Lib.hid (HB.out.trans (hb3.mono HB.out.size))
                   clear hb3
                   go_wp2_with fail
                   go_ret
                   exact ⟨by rw [show R=false by rw [HST.out];simp];rfl,HB.out⟩
                 | true =>
                   go_wp2_with fail
                   go_at_call 42
                   refine (HC3.out _ HB.out).mono ?_
                   rintro e w5 ⟨rfl,hb3⟩
                   replace O1:=Lib.hid (O1.out.below hb3)
                   replace O2:=Lib.hid (O2.out.below hb3)
                   replace HB:=Lib.hid (HB.out.trans (hb3.mono HB.out.size))
                   clear hb3
                   go_wp2_with fail
                   go_roundg (n-(i+1)+1)
                   case measure=>have:=HM.out;omega
                   case rel=>exact ⟨i+1,rfl,by omega,by omega,by rw [HST.out];simp,HB.out⟩
       · obtain ⟨q0, q0'⟩ := neq_int e0
         clear e0
         go_wp2_with fail
         go_ret
         exact ⟨by rw [show R=false by rw [HST.out,q0'];simp];rfl,HB.out⟩
    · have : i = n := by omega
      subst this
      have HRT:Hid (R=true):=by rw [Hid,← HRI.out];exact sameBy_end (by have:=HN.out;omega) (by have:=HLM.out;have:=HN.out;omega)
      go_wp2_with fail
      go_ret
      exact ⟨by rw [HRT.out];rfl,HB.out⟩
 · rw [sameBy_ne hne]
   obtain ⟨n,hn⟩:∃ n,n=l.length:=⟨_,rfl⟩
   obtain ⟨k,hk⟩:∃ k,k=m.length:=⟨_,rfl⟩
   rw [← hn,← hk] at hne ⊢
   have hnk:((n:Int) != (k:Int))=true:=by simp;omega
   clear hn hk h1 h2 HI
   go_enter Tryz.func42,Tryz.ntmps42
   go_wp2_with fail
   go_ret
   exact ⟨rfl,Below.refl _ w⟩
theorem r_smGsubs:∀ l:List St,∀ x∈l,SmG x.body∧SmG x.els:=by
 intro l
 induction l using Sts.ind with
 | h0=>intro x hx;cases hx
 | h1 k n o e b l a r hb hl hr =>
   intro x hx
   rcases List.mem_cons.1 hx with rfl | hx
   · exact ⟨r_stmtsG_one hb,r_stmtsG_one hl⟩
   · exact hr x hx
theorem r_stmtsG (l:List St):SmG l:=r_stmtsG_one (r_smGsubs l)
open Go.RowKit
set_option linter.unusedVariables false
theorem r_SameG (x:Pg) (hok:okP x) (y:Pg) {v u:Value} {w:World} (hv:pA w x v) (hu:pA w y u):Calls Tryz.prog 13 #[v,u] w fun e w'=>e=.returned (.bool (samePg x y))∧Below w.heap.size w w':=by
 obtain ⟨a1,c1,a2,c2,a3,c3,rfl,h1,h2,h3⟩:=hv
 obtain ⟨b1,d1,b2,d2,b3,d3,rfl,k1,k2,k3⟩:=hu
 obtain ⟨l1,l2,l3,hth⟩:=hok
 obtain ⟨sh,lk,th⟩:=x
 obtain ⟨sh',lk',th'⟩:=y
 simp only at *
 have HD1:Hid (∀ W,Below w.heap.size w W→Calls Tryz.prog 41 #[.slice a1 sh.length c1,.slice b1 sh'.length d1] W fun e' w'=>e'=.returned (.bool (sameBy sameD sh sh'))∧Below W.heap.size W w'):=fun W hW =>
  (r_declsG l1 (dcsAt_below h1 hW) (dcsAt_below k1 hW)).mono fun e w' ⟨he,j,hj⟩=>⟨he,by rw [hj];exact drewN_below W j⟩
 have HD2:Hid (∀ W,Below w.heap.size w W→Calls Tryz.prog 41 #[.slice a2 lk.length c2,.slice b2 lk'.length d2] W fun e' w'=>e'=.returned (.bool (sameBy sameD lk lk'))∧Below W.heap.size W w'):=fun W hW =>
  (r_declsG l2 (dcsAt_below h2 hW) (dcsAt_below k2 hW)).mono fun e w' ⟨he,j,hj⟩=>⟨he,by rw [hj];exact drewN_below W j⟩
 have HTH:=Lib.hid hth
 have E1:=Lib.hid h3
 have E2:=Lib.hid k3
 have hsp:samePg ⟨sh,lk,th⟩ ⟨sh',lk',th'⟩=((sameBy sameD sh sh'&&sameBy sameD lk lk')&&sameBy sameT th th'):=rfl
 rw [hsp]
 obtain ⟨R,hR⟩:∃ R,R=sameBy sameT th th':=⟨_,rfl⟩
 rw [← hR]
 have HRR:=Lib.hid hR
 clear hR hth h1 h2 h3 k1 k2 k3 l1 l2 hsp
 generalize sameBy sameD sh sh'=D1 at *
 generalize sameBy sameD lk lk'=D2 at *
 generalize sh.length=n1 at *
 generalize lk.length=n2 at *
 generalize sh'.length=k1 at *
 generalize lk'.length=k2 at *
 obtain ⟨n3,hn⟩:∃ n,n=th.length:=⟨_,rfl⟩
 obtain ⟨k3,hk⟩:∃ n,n=th'.length:=⟨_,rfl⟩
 rw [← hn] at l3
 rw [← hn,← hk]
 have HN:=Lib.hid hn
 have HK:=Lib.hid hk
 clear hn hk
 have HB:Hid (Below w.heap.size w ((w.alloc (.cells #[.slice a1 n1 c1,.slice a2 n2 c2,.slice a3 n3 c3] 25)).alloc (.cells #[.slice b1 k1 d1,.slice b2 k2 d2,.slice b3 k3 d3] 25))):=(((Below.refl _ w).alloc (Nat.le_refl _) _).alloc (by rw [World.size_alloc];omega) _)
 have O1:=Lib.hid ((Own.new w 25 #[.slice a1 n1 c1,.slice a2 n2 c2,.slice a3 n3 c3]).alloc (.cells #[.slice b1 k1 d1,.slice b2 k2 d2,.slice b3 k3 d3] 25))
 have O2:Hid (Own ((w.alloc (.cells #[.slice a1 n1 c1,.slice a2 n2 c2,.slice a3 n3 c3] 25)).alloc (.cells #[.slice b1 k1 d1,.slice b2 k2 d2,.slice b3 k3 d3] 25)) (w.heap.size+1) 25 #[.slice b1 k1 d1,.slice b2 k2 d2,.slice b3 k3 d3]):=by have:=Own.new (w.alloc (.cells #[.slice a1 n1 c1,.slice a2 n2 c2,.slice a3 n3 c3] 25)) 25 #[.slice b1 k1 d1,.slice b2 k2 d2,.slice b3 k3 d3];rw [World.size_alloc] at this;exact this
 go_enter Tryz.func13,Tryz.ntmps13
 cases D1 with
 | false =>
   go_wp2_with fail
   go_at_call 41
   refine (HD1.out _ HB.out).mono ?_
   rintro e w3 ⟨rfl,hb3⟩
   replace O1:=Lib.hid (O1.out.below hb3)
   replace O2:=Lib.hid (O2.out.below hb3)
   replace HB:=Lib.hid (HB.out.trans (hb3.mono HB.out.size))
   clear hb3
   go_wp2_with fail
   go_ret
   exact ⟨rfl,HB.out⟩
 | true =>
   go_wp2_with fail
   go_at_call 41
   refine (HD1.out _ HB.out).mono ?_
   rintro e w3 ⟨rfl,hb3⟩
   replace O1:=Lib.hid (O1.out.below hb3)
   replace O2:=Lib.hid (O2.out.below hb3)
   replace HB:=Lib.hid (HB.out.trans (hb3.mono HB.out.size))
   clear hb3
   have x1:w3.cell? ⟨w.heap.size,1,none⟩=some (.slice a2 n2 c2):=by rw [cell_of_row _ _ 1 _ _ _ O1.out];rfl
   have y1:w3.cell? ⟨w.heap.size+1,1,none⟩=some (.slice b2 k2 d2):=by rw [cell_of_row _ _ 1 _ _ _ O2.out];rfl
   cases D2 with
   | false =>
     go_wp2_with fail
     go_at_call 41
     refine (HD2.out _ HB.out).mono ?_
     rintro e w4 ⟨rfl,hb3⟩
     replace O1:=Lib.hid (O1.out.below hb3)
     replace O2:=Lib.hid (O2.out.below hb3)
     replace HB:=Lib.hid (HB.out.trans (hb3.mono HB.out.size))
     clear hb3
     go_wp2_with fail
     go_ret
     exact ⟨rfl,HB.out⟩
   | true =>
     go_wp2_with fail
     go_at_call 41
     refine (HD2.out _ HB.out).mono ?_
     rintro e w4 ⟨rfl,hb3⟩
     replace O1:=Lib.hid (O1.out.below hb3)
     replace O2:=Lib.hid (O2.out.below hb3)
     replace HB:=Lib.hid (HB.out.trans (hb3.mono HB.out.size))
     clear hb3
     have x2:w4.cell? ⟨w.heap.size,2,none⟩=some (.slice a3 n3 c3):=by rw [cell_of_row _ _ 2 _ _ _ O1.out];rfl
     have y2:w4.cell? ⟨w.heap.size+1,2,none⟩=some (.slice b3 k3 d3):=by rw [cell_of_row _ _ 2 _ _ _ O2.out];rfl
     by_cases hne:n3=k3
     · obtain rfl := hne
       have hnn:((n3:Int) != (n3:Int))=false:=by simp
       go_wp2_with fail
       clear x1 x2 y1 y2
       go_loopg [34] (n3+1) (fun m' u W=>∃ i:Nat,u=.int .i64 (i:Int)∧i≤n3∧m'=n3-i+1∧sameBy sameT (th.drop i) (th'.drop i)=R∧Below w.heap.size w W∧Own W w.heap.size 25 #[.slice a1 n1 c1,.slice a2 n2 c2,.slice a3 n3 c3]∧Own W (w.heap.size+1) 25 #[.slice b1 k1 d1,.slice b2 k2 d2,.slice b3 n3 d3])
       case atStart=>exact ⟨0,rfl,Nat.zero_le _,by omega,HRR.out.symm,HB.out,O1.out,O2.out⟩
       case round =>
        clear HB O1 O2
        obtain ⟨i,rfl,hi,hm,hR,hb0,ho1,ho2⟩:=hrel
        have HM:=Lib.hid hm
        have HRI:=Lib.hid hR
        have HB:=Lib.hid hb0
        have O1:=Lib.hid ho1
        have O2:=Lib.hid ho2
        clear hm hb0 ho1 ho2 hR
        by_cases hin:i<n3
        · have il : i < th.length := by have := HN.out; omega
          have im:i<th'.length:=by have:=HK.out;omega
          have g1:th[i]? = some th[i]:=List.getElem?_eq_getElem il
          have g2:th'[i]? = some th'[i]:=List.getElem?_eq_getElem im
          have hmem:th[i]∈th:=List.getElem_mem il
          have hst:=sameBy_step (f:=sameT) il im
          generalize th[i]=x at g1 hmem hst
          generalize th'[i]=y at g2 hst
          have HST:=Lib.hid (HRI.out.symm.trans hst)
          clear hst
          obtain ⟨o1,o2,o3⟩:=HTH.out x hmem
          rcases E1.out with e | ⟨g,q,rfl,_,e1⟩
          · cases th with
            | nil=>simp at il
            | cons=>cases e
          rcases E2.out with e | ⟨g',q',rfl,_,e2⟩
          · cases th' with
            | nil=>simp at im
            | cons=>cases e
          obtain ⟨a0p,⟨ta,tc,a1p,w1⟩,⟨sa,sc,a2p,w2⟩,a3p⟩:=thsIn_get i x e1 g1
          obtain ⟨b0p,⟨ua,uc,b1p,z1⟩,⟨va,vc,b2p,z2⟩,b3p⟩:=thsIn_get i y e2 g2
          obtain ⟨nm,lo,bo,ps⟩:=x
          obtain ⟨nm',lo',bo',ps'⟩:=y
          simp only at *
          have lg:=lt_of_at a0p
          have lg':=lt_of_at b0p
          simp only at lg lg'
          have hin':(i:Int)<(n3:Int):=by omega
          have HC1:Hid (∀ W,Below w.heap.size w W→Calls Tryz.prog 41 #[.slice ta lo.length tc,.slice ua lo'.length uc] W fun e' w'=>e'=.returned (.bool (sameBy sameD lo lo'))∧Below W.heap.size W w'):=fun W hW =>
           (r_declsG o1 (dcsAt_below w1 hW) (dcsAt_below z1 hW)).mono fun e w' ⟨he,j,hj⟩=>⟨he,by rw [hj];exact drewN_below W j⟩
          have HC2:Hid (∀ W,Below w.heap.size w W→Calls Tryz.prog 42 #[.slice sa bo.length sc,.slice va bo'.length vc] W fun e' w'=>e'=.returned (.bool (sameSs bo bo'))∧Below W.heap.size W w'):=fun W hW =>
           r_stmtsG bo o3 o2 bo' sa va sc vc W (stsAt_below w2 hW) (stsAt_below z2 hW)
          replace HST:Hid (R=((((nm.toList==nm'.toList)&&sameBy sameD lo lo')&&sameSs bo bo')&&sameBy sameT (th.drop (i+1)) (th'.drop (i+1)))):=by rw [Hid,HST.out,toList_eq];rfl
          have BX:=HB.out
          have a0q:wr.cell? ⟨g,q+i*4,none⟩=some (.string nm):=(BX.cell (p:=⟨g,q+i*4,none⟩) lg).trans a0p
          have a1q:wr.cell? ⟨g,q+i*4+1,none⟩=some (.slice ta lo.length tc):=(BX.cell (p:=⟨g,q+i*4+1,none⟩) lg).trans a1p
          have a2q:wr.cell? ⟨g,q+i*4+2,none⟩=some (.slice sa bo.length sc):=(BX.cell (p:=⟨g,q+i*4+2,none⟩) lg).trans a2p
          have a3q:wr.cell? ⟨g,q+i*4+3,none⟩=some (.int .i64 ps):=(BX.cell (p:=⟨g,q+i*4+3,none⟩) lg).trans a3p
          have b0q:wr.cell? ⟨g',q'+i*4,none⟩=some (.string nm'):=(BX.cell (p:=⟨g',q'+i*4,none⟩) lg').trans b0p
          have b1q:wr.cell? ⟨g',q'+i*4+1,none⟩=some (.slice ua lo'.length uc):=(BX.cell (p:=⟨g',q'+i*4+1,none⟩) lg').trans b1p
          have b2q:wr.cell? ⟨g',q'+i*4+2,none⟩=some (.slice va bo'.length vc):=(BX.cell (p:=⟨g',q'+i*4+2,none⟩) lg').trans b2p
          have b3q:wr.cell? ⟨g',q'+i*4+3,none⟩=some (.int .i64 ps'):=(BX.cell (p:=⟨g',q'+i*4+3,none⟩) lg').trans b3p
          have x2:wr.cell? ⟨w.heap.size,2,none⟩=some (.slice (some ⟨g,q,none⟩) n3 c3):=by rw [cell_of_row _ _ 2 _ _ _ O1.out];rfl
          have y2:wr.cell? ⟨w.heap.size+1,2,none⟩=some (.slice (some ⟨g',q',none⟩) n3 d3):=by rw [cell_of_row _ _ 2 _ _ _ O2.out];rfl
          clear g1 g2 e1 e2 il im w1 w2 z1 z2 o1 o2 o3 hmem BX a0p a1p a2p a3p b0p b1p b2p b3p
          generalize sameBy sameD lo lo'=B2 at HC1 HST
          generalize sameSs bo bo'=B3 at HC2 HST
          generalize lo.length=m1 at *
          generalize bo.length=m2 at *
          generalize lo'.length=l1 at *
          generalize bo'.length=l2 at *
          go_upto_region 6 with fail
          go_cut [6,7] (fun u v wx=>TwoIn w.heap.size wr 60 25 #[.slice a1 n1 c1,.slice a2 n2 c2,.slice (some ⟨g,q,none⟩) n3 c3] #[.slice b1 k1 d1,.slice b2 k2 d2,.slice (some ⟨g',q',none⟩) n3 d3] #[.string nm,.slice ta m1 tc,.slice sa m2 sc,.int .i64 ps] #[.string nm',.slice ua l1 uc,.slice va l2 vc,.int .i64 ps'] u v wx)
          case first =>
           go_region_held3 (fun W=>W.cell? ⟨g,q+i*4,none⟩=some (.string nm)∧W.cell? ⟨g,q+i*4+1,none⟩=some (.slice ta m1 tc)∧W.cell? ⟨g,q+i*4+2,none⟩=some (.slice sa m2 sc)∧W.cell? ⟨g,q+i*4+3,none⟩=some (.int .i64 ps)∧W.cell? ⟨g',q'+i*4,none⟩=some (.string nm')∧W.cell? ⟨g',q'+i*4+1,none⟩=some (.slice ua l1 uc)∧W.cell? ⟨g',q'+i*4+2,none⟩=some (.slice va l2 vc)∧W.cell? ⟨g',q'+i*4+3,none⟩=some (.int .i64 ps')∧W.cell? ⟨w.heap.size,2,none⟩=some (.slice (some ⟨g,q,none⟩) n3 c3)∧W.cell? ⟨w.heap.size+1,2,none⟩=some (.slice (some ⟨g',q',none⟩) n3 d3)) (go_keep) (fail)
           · go_wp2_with fail
             go_meet
             exact twoIn_1 O2.out.lt O1.out O2.out
           · go_wp2_with fail
             go_meet
             exact twoIn_2 O2.out.lt O1.out O2.out
          case rest =>
           obtain ⟨gu,gv,rfl,rfl,hO1,hO2,hb,hp1,hp2⟩:=hcut
           have P1:=Lib.hid hO1
           have P2:=Lib.hid hO2
           replace HB:=Lib.hid (HB.out.trans hb)
           replace O1:=Lib.hid hp1
           replace O2:=Lib.hid hp2
           clear hO1 hO2 hb hp1 hp2 x2 y2 a0q a1q a2q a3q b0q b1q b2q b3q
           have s0:wc.cell? ⟨gu,0,none⟩=some (.string nm):=by rw [cell_of_row _ _ 0 _ _ _ P1.out];rfl
           have r0:wc.cell? ⟨gv,0,none⟩=some (.string nm'):=by rw [cell_of_row _ _ 0 _ _ _ P2.out];rfl
           have s1:wc.cell? ⟨gu,1,none⟩=some (.slice ta m1 tc):=by rw [cell_of_row _ _ 1 _ _ _ P1.out];rfl
           have r1:wc.cell? ⟨gv,1,none⟩=some (.slice ua l1 uc):=by rw [cell_of_row _ _ 1 _ _ _ P2.out];rfl
           obtain ⟨B1,hBB⟩:∃ B,B=(nm.toList==nm'.toList):=⟨_,rfl⟩
           rw [← hBB] at HST
           have q1':(nm.toList==nm'.toList)=B1:=hBB.symm
           have q1:=bne_of q1'
           clear hBB
           cases B1 with
           | false =>
             simp only [Bool.not_false] at q1
             go_wp2_with fail
             go_ret
             exact ⟨by rw [show R=false by rw [HST.out];simp];rfl,HB.out⟩
           | true =>
             simp only [Bool.not_true] at q1
             cases B2 with
             | false =>
               go_wp2_with fail
               go_at_call 41
               refine (HC1.out _ HB.out).mono ?_
               rintro e w3 ⟨rfl,hb3⟩
               replace O1:=Lib.hid (O1.out.below hb3)
               replace O2:=Lib.hid (O2.out.below hb3)
               replace P1:=Lib.hid (P1.out.below hb3)
               replace P2:=Lib.hid (P2.out.below hb3)
               replace HB:=Lib.hid (HB.out.trans (hb3.mono HB.out.size))
               clear hb3
               go_wp2_with fail
               go_ret
               exact ⟨by rw [show R=false by rw [HST.out];simp];rfl,HB.out⟩
             | true =>
               go_wp2_with fail
               go_at_call 41
               refine (HC1.out _ HB.out).mono ?_
               rintro e w3 ⟨rfl,hb3⟩
               replace O1:=Lib.hid (O1.out.below hb3)
               replace O2:=Lib.hid (O2.out.below hb3)
               replace P1:=Lib.hid (P1.out.below hb3)
               replace P2:=Lib.hid (P2.out.below hb3)
               replace HB:=Lib.hid (HB.out.trans (hb3.mono HB.out.size))
               clear hb3
               have s2:w3.cell? ⟨gu,2,none⟩=some (.slice sa m2 sc):=by rw [cell_of_row _ _ 2 _ _ _ P1.out];rfl
               have r2:w3.cell? ⟨gv,2,none⟩=some (.slice va l2 vc):=by rw [cell_of_row _ _ 2 _ _ _ P2.out];rfl
               cases B3 with
               | false =>
                 go_wp2_with fail
                 go_at_call 42
                 refine (HC2.out _ HB.out).mono ?_
                 rintro e w4 ⟨rfl,hb3⟩
                 replace O1:=Lib.hid (O1.out.below hb3)
                 replace O2:=Lib.hid (O2.out.below hb3)
                 replace P1:=Lib.hid (P1.out.below hb3)
                 replace P2:=Lib.hid (P2.out.below hb3)
                 replace HB:=Lib.hid (HB.out.trans (hb3.mono HB.out.size))
                 clear hb3
                 go_wp2_with fail
                 go_ret
                 exact ⟨by rw [show R=false by rw [HST.out];simp];rfl,HB.out⟩
               | true =>
                 go_wp2_with fail
                 go_at_call 42
                 refine (HC2.out _ HB.out).mono ?_
                 rintro e w4 ⟨rfl,hb3⟩
                 replace O1:=Lib.hid (O1.out.below hb3)
                 replace O2:=Lib.hid (O2.out.below hb3)
                 replace P1:=Lib.hid (P1.out.below hb3)
                 replace P2:=Lib.hid (P2.out.below hb3)
                 replace HB:=Lib.hid (HB.out.trans (hb3.mono HB.out.size))
                 clear hb3
                 go_wp2_with fail
                 go_roundg (n3-(i+1)+1)
                 case measure=>have:=HM.out;omega
                 case rel=>exact ⟨i+1,rfl,by omega,by omega,by rw [HST.out];simp,HB.out,O1.out,O2.out⟩
        · have : i = n3 := by omega
          subst this
          have HRT:Hid (R=true):=by rw [Hid,← HRI.out];exact sameBy_end (by have:=HN.out;omega) (by have:=HK.out;omega)
          go_wp2_with fail
          go_ret
          exact ⟨by rw [HRT.out];rfl,HB.out⟩
     · have hnk : ((n3 : Int) != (k3 : Int)) = true := by simp; omega
       replace HRR:Hid (R=false):=by rw [Hid,HRR.out];exact sameBy_ne (by have:=HN.out;have:=HK.out;omega)
       go_wp2_with fail
       go_ret
       exact ⟨by rw [HRR.out];rfl,HB.out⟩
end Go.Proofs.YtkheldgmpgefiaaGreatDoor

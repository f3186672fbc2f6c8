/- The proof, part 21: texts that belong together, in one. -/
import Derived.Test.YtieeaehabjjaoaaGreatDoorHAT
import Derived.Test.YtieeaehabjjaoaaGreatDoorHAQ
import Derived.Deep.AppendLies
import Derived.OwnWalk
set_option maxRecDepth 100000
set_option maxHeartbeats 20000000
namespace Go.Proofs.YtieeaehabjjaoaaGreatDoor
open Go.RowKit
set_option linter.unusedVariables false
theorem ctEs_len:∀ l:List Ex,l.length≤ctEs l
 | []=>Nat.le_refl _
 | x :: r => by
   have:=ctEs_len r
   obtain ⟨k,o,wd,nm,ks,ps⟩:=x
   simp only [List.length_cons,ctEs,ctE];omega
theorem ctSs_len:∀ l:List St,l.length≤ctSs l
 | []=>Nat.le_refl _
 | x :: r => by
   have:=ctSs_len r
   obtain ⟨k,n,o,e,b,l,ps⟩:=x
   simp only [List.length_cons,ctSs,ctS];omega
theorem ctEs_mem:∀ {l:List Ex} {x:Ex},x∈l→ctE x≤ctEs l
 | y :: r, x, h => by
   rcases List.mem_cons.1 h with rfl | h
   · simp only [ctEs];omega
   · have:=ctEs_mem h;simp only [ctEs];omega
theorem ctSs_mem:∀ {l:List St} {x:St},x∈l→ctS x≤ctSs l
 | y :: r, x, h => by
   rcases List.mem_cons.1 h with rfl | h
   · simp only [ctSs];omega
   · have:=ctSs_mem h;simp only [ctSs];omega
def ctT (t:Th):Nat:=t.locals.length+ctSs t.body+1
theorem ctTs_len:∀ l:List Th,l.length≤ctTs l
 | []=>Nat.le_refl _
 | x::r=>by have:=ctTs_len r;simp only [List.length_cons,ctTs];omega
theorem ctTs_mem:∀ {l:List Th} {x:Th},x∈l→ctT x≤ctTs l
 | y :: r, x, h => by
   rcases List.mem_cons.1 h with rfl | h
   · simp only [ctTs,ctT];omega
   · have:=ctTs_mem h;simp only [ctTs];omega
def RR (B:Nat) (v:Value) (X:World) (b:Nat):Prop:=B≤b∧Uf X b∧v.ownBlock≠some b∧b<X.heap.size
theorem rr_below {B:Nat} {v:Value} {X Y:World} (h:Below X.heap.size X Y) {b:Nat} (hb:RR B v X b):RR B v Y b:=⟨hb.1,uf_below hb.2.1 h hb.2.2.2,hb.2.2.1,Nat.lt_of_lt_of_le hb.2.2.2 h.size⟩
theorem rr_grown {B:Nat} {v u:Value} {X Y:World} {g:Nat} (h:X.grownBy Y v.ownBlock) (hu:u.ownBlock=some g) (hl:v.ownBlock=some g∨g=X.heap.size) {b:Nat} (hb:RR B v X b):RR B u Y b:=by
 refine ⟨hb.1,fun o=>?_,?_,Nat.lt_of_lt_of_le hb.2.2.2 h.size⟩
 · rw [World.frozen?_of_block (w:=X) (a:=⟨b,o,none⟩) (h.block b hb.2.2.2 (fun e=>hb.2.2.1 e.symm))];exact hb.2.1 o
 · rw [hu]
   intro e
   have e:g=b:=Option.some.inj e
   subst e
   rcases hl with hl | hl
   · exact hb.2.2.1 hl
   · have:=hb.2.2.2;omega
def CyE (l:List Ex):Prop:=ctEs l≤1048576→∀ (a:Option Addr) (c:Nat) (w:World),exsAt (fun _=>True) w l a→Calls Tryz.prog 37 #[.slice a l.length c] w fun e w'=>∃ s t,e=.returned (.slice s l.length t)∧exsAt (Rf w.heap.size w') w' l s∧Below w.heap.size w w'
def CyS (l:List St):Prop:=ctSs l≤1048576→∀ (a:Option Addr) (c:Nat) (w:World),stsAt (fun _=>True) w l a→Calls Tryz.prog 16 #[.slice a l.length c] w fun e w'=>∃ s t,e=.returned (.slice s l.length t)∧stsAt (Rf w.heap.size w') w' l s∧Below w.heap.size w w'
theorem cy_exs {l:List Ex} (HI:∀ x∈l,CyE x.kids):CyE l:=by
 intro hbk a c w h1
 have HI:=Lib.hid HI
 have HBK:=Lib.hid hbk
 have E1:=Lib.hid h1
 obtain ⟨n,hn⟩:∃ n,n=l.length:=⟨_,rfl⟩
 rw [← hn]
 have HN:=Lib.hid hn
 have hn20:n≤1048576:=by rw [hn];exact Nat.le_trans (ctEs_len l) hbk
 clear h1 hn hbk
 go_enter Tryz.func37,Tryz.ntmps37
 go_wp2_with fail
 go_loopg [3,8] (n+1) (fun m' v u X=>∃ (i:Nat) (oa:Option Addr) (cap:Nat) (xs:List Value),v=.slice oa i cap∧u=.int .i64 (i:Int)∧i≤n∧m'=n-i+1∧X.ownsRow w.heap.size 59 6 (.slice oa i cap) i xs∧exsV (RR w.heap.size (.slice oa i cap) X) X (l.take i) xs∧Below w.heap.size w X)
 case atStart=>exact ⟨0,none,0,[],rfl,rfl,Nat.zero_le _,by omega,World.ownsRow_nil _ _ _ _,rfl,Below.refl _ _⟩
 case round =>
  obtain ⟨i,oa,cap,xs,rfl,rfl,hi,hm,hrow,hsv,hb0⟩:=hrel
  have HM:=Lib.hid hm
  have ROW:=Lib.hid hrow
  have SV:=Lib.hid hsv
  have HB:=Lib.hid hb0
  clear hm hrow hsv hb0
  by_cases hin:i<n
  · have il : i < l.length := by have := HN.out; omega
    have g1:l[i]? = some l[i]:=List.getElem?_eq_getElem il
    have hmem:l[i]∈l:=List.getElem_mem il
    have HTK:Hid (l.take (i+1)=l.take i++[l[i]]):=List.take_succ_eq_append_getElem il
    generalize l[i]=x at g1 hmem HTK
    rcases E1.out with e | ⟨g,q,e,hg,e1⟩
    · cases l with
      | nil=>simp at il
      | cons=>cases e
    obtain rfl:a=some ⟨g,q,none⟩:=e
    have x1:=exsIn_get i x e1 g1
    have hbx:ctE x≤1048576:=Nat.le_trans (ctEs_mem hmem) HBK.out
    have hix:=HI.out x hmem
    have hin':(i:Int)<(n:Int):=by omega
    obtain ⟨k,op,wd,nm,ks,ps⟩:=x
    obtain ⟨a0,a1,a2,a3,⟨ka,kc,a4,w4⟩,a5⟩:=x1
    simp only [ctE] at hbx
    obtain ⟨nk,hnk⟩:∃ z,z=ks.length:=⟨_,rfl⟩
    have HC4:Hid (∀ X,Below w.heap.size w X→Calls Tryz.prog 37 #[.slice ka nk kc] X fun e w'=>∃ s t,e=.returned (.slice s nk t)∧exsAt (Rf X.heap.size w') w' ks s∧Below X.heap.size X w'):=fun X hX=>by
     rw [hnk];exact hix (show ctEs ks≤1048576 by omega) ka kc X (exsAt_below w4 hX)
    rw [← hnk] at a4
    have HL4:=Lib.hid hnk
    have b0:wr.cell? ⟨g,q+i*6,none⟩=some (.int .u8 k):=by rw [HB.out.cell (p:=⟨g,q+i*6,none⟩) (cell_lt a0)];exact a0
    have b1:wr.cell? ⟨g,q+i*6+1,none⟩=some (.int .u8 op):=by rw [HB.out.cell (p:=⟨g,q+i*6+1,none⟩) (cell_lt a1)];exact a1
    have b2:wr.cell? ⟨g,q+i*6+2,none⟩=some (.int .i64 wd):=by rw [HB.out.cell (p:=⟨g,q+i*6+2,none⟩) (cell_lt a2)];exact a2
    have b3:wr.cell? ⟨g,q+i*6+3,none⟩=some (.string nm):=by rw [HB.out.cell (p:=⟨g,q+i*6+3,none⟩) (cell_lt a3)];exact a3
    have b4:wr.cell? ⟨g,q+i*6+4,none⟩=some (.slice ka nk kc):=by rw [HB.out.cell (p:=⟨g,q+i*6+4,none⟩) (cell_lt a4)];exact a4
    have b5:wr.cell? ⟨g,q+i*6+5,none⟩=some (.int .i64 ps):=by rw [HB.out.cell (p:=⟨g,q+i*6+5,none⟩) (cell_lt a5)];exact a5
    have hlen:i<1048576:=by omega
    clear a0 a1 a2 a3 a4 a5 w4 hnk hbx hix hmem g1 il e1 hg
    have O0:=Own.new wr 59 #[.int .u8 k,.int .u8 op,.int .i64 wd,.string nm,.slice ka nk kc,.int .i64 ps]
    have B0:=(Below.refl wr.heap.size wr).alloc (Nat.le_refl _) (.cells #[.int .u8 k,.int .u8 op,.int .i64 wd,.string nm,.slice ka nk kc,.int .i64 ps] 59)
    have hz0:Hid ((wr.alloc (.cells #[.int .u8 k,.int .u8 op,.int .i64 wd,.string nm,.slice ka nk kc,.int .i64 ps] 59)).heap.size=wr.heap.size+1):=World.size_alloc _ _
    have HB0:Hid (Below w.heap.size w (wr.alloc (.cells #[.int .u8 k,.int .u8 op,.int .i64 wd,.string nm,.slice ka nk kc,.int .i64 ps] 59))):=HB.out.trans (B0.mono HB.out.size)
    go_wp2_with fail
    go_at_call 37
    refine (HC4.out _ HB0.out).mono ?_
    rintro e w0 ⟨s4,t4,rfl,hx4,hb⟩
    have P0:=O0.below hb
    have D0:Below wr.heap.size wr w0:=B0.trans (hb.mono (by have:=B0.size;omega))
    have c0:w0.cell? ⟨wr.heap.size,4,none⟩=some (.slice ka nk kc):=by rw [cell_of_row _ _ 4 _ _ _ P0];rfl
    have f0:=own_frozen P0 4
    have e0:w0.setCell ⟨wr.heap.size,4,none⟩ (.slice s4 nk t4)=w0.setRow wr.heap.size #[.int .u8 k,.int .u8 op,.int .i64 wd,.string nm,.slice s4 nk t4,.int .i64 ps]:=setCell_row P0 4 _
    have O1:=P0.row #[.int .u8 k,.int .u8 op,.int .i64 wd,.string nm,.slice s4 nk t4,.int .i64 ps]
    have B1:=Below.of_row D0 (g:=wr.heap.size) (Nat.le_refl _) #[.int .u8 k,.int .u8 op,.int .i64 wd,.string nm,.slice s4 nk t4,.int .i64 ps]
    have hx4:=exsAt_rf (B':=wr.heap.size+1) hx4 (chg_setRow w0 #[.int .u8 k,.int .u8 op,.int .i64 wd,.string nm,.slice s4 nk t4,.int .i64 ps] (g:=wr.heap.size) (by have:=hz0.out;omega)) (by have:=hz0.out;omega)
    obtain ⟨X1,hX1⟩:∃ X,X=w0.setRow wr.heap.size #[.int .u8 k,.int .u8 op,.int .i64 wd,.string nm,.slice s4 nk t4,.int .i64 ps]:=⟨_,rfl⟩
    rw [← hX1] at e0 O1 B1 hx4
    have hz1:Hid (wr.heap.size+1≤X1.heap.size):=by have:=O1.lt;exact this
    have HB1:Hid (Below w.heap.size w X1):=HB.out.trans (B1.mono HB.out.size)
    clear hX1 hb O0 P0 D0 B0
    have SV3:=exsV_stays (R':=RR w.heap.size (.slice oa i cap) X1) (stays_below B1) (fun b hb=>rr_below B1 hb) SV.out
    have hq:∀ b,Rf (wr.heap.size+1) X1 b∧b<X1.heap.size→RR w.heap.size (.slice oa i cap) X1 b:=fun b hb=>⟨by have:=HB.out.size;have:=hb.1.1;omega,hb.1.2,fun e=>by have:=(ROW.out.lt b e).2;have:=hb.1.1;omega,hb.2⟩
    have NV:exV (RR w.heap.size (.slice oa i cap) X1) X1 (.mk k op wd nm ks ps) [.int .u8 k,.int .u8 op,.int .i64 wd,.string nm,.slice s4 nk t4,.int .i64 ps]:=by
     exact ⟨s4,t4,by rw [HL4.out];rfl,exsAt_mono (exsAt_in hx4) hq⟩
    have SVN:=exsV_snoc SV3 NV
    rw [← HTK.out] at SVN
    have SVN:=Lib.hid (exsV_stays (R':=RR w.heap.size (.slice oa i cap) (X1.alloc (.cells #[.int .u8 k,.int .u8 op,.int .i64 wd,.string nm,.slice s4 nk t4,.int .i64 ps] 59))) (stays_alloc _ X1 (.cells #[.int .u8 k,.int .u8 op,.int .i64 wd,.string nm,.slice s4 nk t4,.int .i64 ps] 59)) (fun b hb=>rr_below ((Below.refl _ X1).alloc (Nat.le_refl _) _) hb) SVN)
    have row4:=(row_below ROW.out B1).alloc (.cells #[.int .u8 k,.int .u8 op,.int .i64 wd,.string nm,.slice s4 nk t4,.int .i64 ps] 59)
    obtain ⟨i0,hi0',hi0,hi1,hi2⟩:=info_parts infoEx
    have N4:=Own.new X1 59 #[.int .u8 k,.int .u8 op,.int .i64 wd,.string nm,.slice s4 nk t4,.int .i64 ps]
    have HNEWS:Hid (∀ jj u,[.int .u8 k,.int .u8 op,.int .i64 wd,.string nm,.slice s4 nk t4,.int .i64 ps][jj]? = some u→(X1.alloc (.cells #[.int .u8 k,.int .u8 op,.int .i64 wd,.string nm,.slice s4 nk t4,.int .i64 ps] 59)).cell? ((⟨X1.heap.size,0,none⟩:Addr).add jj)=some u):=World.news_of_block N4
    have HSZ:=Lib.hid (World.size_alloc X1 (.cells #[.int .u8 k,.int .u8 op,.int .i64 wd,.string nm,.slice s4 nk t4,.int .i64 ps] 59))
    have HBA:Hid (Below w.heap.size w (X1.alloc (.cells #[.int .u8 k,.int .u8 op,.int .i64 wd,.string nm,.slice s4 nk t4,.int .i64 ps] 59))):=HB1.out.alloc HB1.out.size _
    clear SV3 NV hq N4 B1 hx4
    go_wp2_with (first | (refine ld rowEx rfl rfl rfl O1 rfl ?_) | (at_builtin;refine wpList_append_lies _ rfl _ _ 57 rfl w.heap.size 59 i0 _ 6 64 Tryz.underlying57 hi0' hi0 hi1 hi2 rfl (by decide) _ _ _ rfl row4 ⟨X1.heap.size,0,none⟩ 1 1 [.int .u8 k,.int .u8 op,.int .i64 wd,.string nm,.slice s4 nk t4,.int .i64 ps] rfl rfl HNEWS.out (by simp [Value.oneCell']) (by decide) (by simp only [maxLen];omega) (by omega) (by rw [HSZ.out];have:=HB1.out.size;omega) _ rfl ?_;intro g2 cap2 w9 hown' hgrow hlies hglt;have ROW4:=Lib.hid hown';have GR:=Lib.hid hgrow;have LIES:=Lib.hid hlies;clear hown' hgrow hlies))
    go_roundg (n-(i+1)+1)
    case measure=>have:=HM.out;omega
    case rel =>
     refine ⟨i+1,_,_,_,rfl,rfl,by omega,by omega,ROW4.out,?_,HBA.out.grown GR.out HBA.out.size (fun r hr=>(row4.lt r hr).1)⟩
     exact exsV_stays (stays_grown GR.out (fun b hb e=>hb.2.2.1 e)) (fun b hb=>rr_grown GR.out rfl LIES.out hb) SVN.out
  · have : i = n := by omega
    subst this
    obtain ⟨oa',cap',hv,hoa⟩:=row_shape ROW.out
    have HFIN:Hid (exsAt (Rf w.heap.size wr) wr l oa):=by
     have hT:l.take i=l:=List.take_of_length_le (by have:=HN.out;omega)
     have hsv:=SV.out
     rw [hT] at hsv
     cases hl:l with
     | nil=>exact .inl rfl
     | cons y yy =>
       rw [← hl]
       have hne:i≠0:=by have:=HN.out;rw [hl] at this;simp at this;omega
       have hr9:=ROW.out
       rcases hr9.2 with ⟨_,h0⟩ | ⟨g,cap9,cur,he,hbg,hg,_⟩
       · exact absurd h0 hne
       · have e9 : oa = some ⟨g, 0, none⟩ := by injection he
         subst e9
         exact .inr ⟨g,0,rfl,⟨hbg,fun o=>hr9.frozenAt o⟩,exsIn_of (exsV_stays (R':=Rf w.heap.size wr) (Stays.refl _ _) (fun b hb=>⟨hb.1,hb.2.1⟩) hsv) (row_cells hr9 rfl)⟩
    clear hv hoa
    go_wp2_with fail
    go_ret
    exact ⟨oa,cap,rfl,HFIN.out,HB.out⟩
theorem cy_kids:∀ e:Ex,CyE e.kids:=by
 intro e
 induction e using Ex.ind with
 | h k o w n ks a h=>exact cy_exs h
theorem r_copyExprs (l:List Ex):CyE l:=cy_exs fun x _=>cy_kids x
theorem cy_sts {l:List St} (HI:∀ x∈l,CyS x.body∧CyS x.els) (HE:∀ l,CyE l):CyS l:=by
 intro hbk a c w h1
 have HI:=Lib.hid HI
 have HBK:=Lib.hid hbk
 have E1:=Lib.hid h1
 obtain ⟨n,hn⟩:∃ n,n=l.length:=⟨_,rfl⟩
 rw [← hn]
 have HN:=Lib.hid hn
 have hn20:n≤1048576:=by rw [hn];exact Nat.le_trans (ctSs_len l) hbk
 clear h1 hn hbk
 go_enter Tryz.func16,Tryz.ntmps16
 go_wp2_with fail
 go_loopg [3,8] (n+1) (fun m' v u X=>∃ (i:Nat) (oa:Option Addr) (cap:Nat) (xs:List Value),v=.slice oa i cap∧u=.int .i64 (i:Int)∧i≤n∧m'=n-i+1∧X.ownsRow w.heap.size 66 7 (.slice oa i cap) i xs∧stsV (RR w.heap.size (.slice oa i cap) X) X (l.take i) xs∧Below w.heap.size w X)
 case atStart=>exact ⟨0,none,0,[],rfl,rfl,Nat.zero_le _,by omega,World.ownsRow_nil _ _ _ _,rfl,Below.refl _ _⟩
 case round =>
  obtain ⟨i,oa,cap,xs,rfl,rfl,hi,hm,hrow,hsv,hb0⟩:=hrel
  have HM:=Lib.hid hm
  have ROW:=Lib.hid hrow
  have SV:=Lib.hid hsv
  have HB:=Lib.hid hb0
  clear hm hrow hsv hb0
  by_cases hin:i<n
  · have il : i < l.length := by have := HN.out; omega
    have g1:l[i]? = some l[i]:=List.getElem?_eq_getElem il
    have hmem:l[i]∈l:=List.getElem_mem il
    have HTK:Hid (l.take (i+1)=l.take i++[l[i]]):=List.take_succ_eq_append_getElem il
    generalize l[i]=x at g1 hmem HTK
    rcases E1.out with e | ⟨g,q,e,hg,e1⟩
    · cases l with
      | nil=>simp at il
      | cons=>cases e
    obtain rfl:a=some ⟨g,q,none⟩:=e
    have x1:=stsIn_get i x e1 g1
    have hbx:ctS x≤1048576:=Nat.le_trans (ctSs_mem hmem) HBK.out
    have hix:=HI.out x hmem
    have hin':(i:Int)<(n:Int):=by omega
    obtain ⟨k,nm,ot,es,bo,el,ps⟩:=x
    obtain ⟨a0,a1,a2,⟨ka,kc,a3,w3⟩,⟨ma,mc,a4,w4⟩,⟨za,zc,a5,w5⟩,a6⟩:=x1
    simp only [ctS] at hbx
    obtain ⟨nk,hnk⟩:∃ z,z=es.length:=⟨_,rfl⟩
    have HC3:Hid (∀ X,Below w.heap.size w X→Calls Tryz.prog 37 #[.slice ka nk kc] X fun e w'=>∃ s t,e=.returned (.slice s nk t)∧exsAt (Rf X.heap.size w') w' es s∧Below X.heap.size X w'):=fun X hX=>by
     rw [hnk];exact HE es (show ctEs es≤1048576 by omega) ka kc X (exsAt_below w3 hX)
    rw [← hnk] at a3
    have HL3:=Lib.hid hnk
    obtain ⟨mk,hmk⟩:∃ z,z=bo.length:=⟨_,rfl⟩
    have HC4:Hid (∀ X,Below w.heap.size w X→Calls Tryz.prog 16 #[.slice ma mk mc] X fun e w'=>∃ s t,e=.returned (.slice s mk t)∧stsAt (Rf X.heap.size w') w' bo s∧Below X.heap.size X w'):=fun X hX=>by
     rw [hmk];exact hix.1 (show ctSs bo≤1048576 by omega) ma mc X (stsAt_below w4 hX)
    rw [← hmk] at a4
    have HL4:=Lib.hid hmk
    obtain ⟨zk,hzk⟩:∃ z,z=el.length:=⟨_,rfl⟩
    have HC5:Hid (∀ X,Below w.heap.size w X→Calls Tryz.prog 16 #[.slice za zk zc] X fun e w'=>∃ s t,e=.returned (.slice s zk t)∧stsAt (Rf X.heap.size w') w' el s∧Below X.heap.size X w'):=fun X hX=>by
     rw [hzk];exact hix.2 (show ctSs el≤1048576 by omega) za zc X (stsAt_below w5 hX)
    rw [← hzk] at a5
    have HL5:=Lib.hid hzk
    have b0:wr.cell? ⟨g,q+i*7,none⟩=some (.int .u8 k):=by rw [HB.out.cell (p:=⟨g,q+i*7,none⟩) (cell_lt a0)];exact a0
    have b1:wr.cell? ⟨g,q+i*7+1,none⟩=some (.string nm):=by rw [HB.out.cell (p:=⟨g,q+i*7+1,none⟩) (cell_lt a1)];exact a1
    have b2:wr.cell? ⟨g,q+i*7+2,none⟩=some (.string ot):=by rw [HB.out.cell (p:=⟨g,q+i*7+2,none⟩) (cell_lt a2)];exact a2
    have b3:wr.cell? ⟨g,q+i*7+3,none⟩=some (.slice ka nk kc):=by rw [HB.out.cell (p:=⟨g,q+i*7+3,none⟩) (cell_lt a3)];exact a3
    have b4:wr.cell? ⟨g,q+i*7+4,none⟩=some (.slice ma mk mc):=by rw [HB.out.cell (p:=⟨g,q+i*7+4,none⟩) (cell_lt a4)];exact a4
    have b5:wr.cell? ⟨g,q+i*7+5,none⟩=some (.slice za zk zc):=by rw [HB.out.cell (p:=⟨g,q+i*7+5,none⟩) (cell_lt a5)];exact a5
    have b6:wr.cell? ⟨g,q+i*7+6,none⟩=some (.int .i64 ps):=by rw [HB.out.cell (p:=⟨g,q+i*7+6,none⟩) (cell_lt a6)];exact a6
    have hlen:i<1048576:=by omega
    clear a0 a1 a2 a3 a4 a5 a6 w3 w4 w5 hnk hmk hzk hbx hix hmem g1 il e1 hg
    have O0:=Own.new wr 66 #[.int .u8 k,.string nm,.string ot,.slice ka nk kc,.slice ma mk mc,.slice za zk zc,.int .i64 ps]
    have B0:=(Below.refl wr.heap.size wr).alloc (Nat.le_refl _) (.cells #[.int .u8 k,.string nm,.string ot,.slice ka nk kc,.slice ma mk mc,.slice za zk zc,.int .i64 ps] 66)
    have hz0:Hid ((wr.alloc (.cells #[.int .u8 k,.string nm,.string ot,.slice ka nk kc,.slice ma mk mc,.slice za zk zc,.int .i64 ps] 66)).heap.size=wr.heap.size+1):=World.size_alloc _ _
    have HB0:Hid (Below w.heap.size w (wr.alloc (.cells #[.int .u8 k,.string nm,.string ot,.slice ka nk kc,.slice ma mk mc,.slice za zk zc,.int .i64 ps] 66))):=HB.out.trans (B0.mono HB.out.size)
    go_wp2_with fail
    go_at_call 37
    refine (HC3.out _ HB0.out).mono ?_
    rintro e w0 ⟨s3,t3,rfl,hx3,hb⟩
    have P0:=O0.below hb
    have D0:Below wr.heap.size wr w0:=B0.trans (hb.mono (by have:=B0.size;omega))
    have c0:w0.cell? ⟨wr.heap.size,3,none⟩=some (.slice ka nk kc):=by rw [cell_of_row _ _ 3 _ _ _ P0];rfl
    have f0:=own_frozen P0 3
    have e0:w0.setCell ⟨wr.heap.size,3,none⟩ (.slice s3 nk t3)=w0.setRow wr.heap.size #[.int .u8 k,.string nm,.string ot,.slice s3 nk t3,.slice ma mk mc,.slice za zk zc,.int .i64 ps]:=setCell_row P0 3 _
    have O1:=P0.row #[.int .u8 k,.string nm,.string ot,.slice s3 nk t3,.slice ma mk mc,.slice za zk zc,.int .i64 ps]
    have B1:=Below.of_row D0 (g:=wr.heap.size) (Nat.le_refl _) #[.int .u8 k,.string nm,.string ot,.slice s3 nk t3,.slice ma mk mc,.slice za zk zc,.int .i64 ps]
    have hx3:=exsAt_rf (B':=wr.heap.size+1) hx3 (chg_setRow w0 #[.int .u8 k,.string nm,.string ot,.slice s3 nk t3,.slice ma mk mc,.slice za zk zc,.int .i64 ps] (g:=wr.heap.size) (by have:=hz0.out;omega)) (by have:=hz0.out;omega)
    obtain ⟨X1,hX1⟩:∃ X,X=w0.setRow wr.heap.size #[.int .u8 k,.string nm,.string ot,.slice s3 nk t3,.slice ma mk mc,.slice za zk zc,.int .i64 ps]:=⟨_,rfl⟩
    rw [← hX1] at e0 O1 B1 hx3
    have hz1:Hid (wr.heap.size+1≤X1.heap.size):=by have:=O1.lt;exact this
    have HB1:Hid (Below w.heap.size w X1):=HB.out.trans (B1.mono HB.out.size)
    clear hX1 hb O0 P0 D0 B0
    have d0:X1.cell? ⟨wr.heap.size,4,none⟩=some (.slice ma mk mc):=by rw [cell_of_row _ _ 4 _ _ _ O1];rfl
    go_wp2_with fail
    go_at_call 16
    refine (HC4.out _ HB1.out).mono ?_
    rintro e w1 ⟨s4,t4,rfl,hx4,hb⟩
    have P1:=O1.below hb
    have D1:Below wr.heap.size wr w1:=B1.trans (hb.mono (by have:=B1.size;omega))
    have c1:w1.cell? ⟨wr.heap.size,4,none⟩=some (.slice ma mk mc):=by rw [cell_of_row _ _ 4 _ _ _ P1];rfl
    have f1:=own_frozen P1 4
    have e1:w1.setCell ⟨wr.heap.size,4,none⟩ (.slice s4 mk t4)=w1.setRow wr.heap.size #[.int .u8 k,.string nm,.string ot,.slice s3 nk t3,.slice s4 mk t4,.slice za zk zc,.int .i64 ps]:=setCell_row P1 4 _
    have O2:=P1.row #[.int .u8 k,.string nm,.string ot,.slice s3 nk t3,.slice s4 mk t4,.slice za zk zc,.int .i64 ps]
    have B2:=Below.of_row D1 (g:=wr.heap.size) (Nat.le_refl _) #[.int .u8 k,.string nm,.string ot,.slice s3 nk t3,.slice s4 mk t4,.slice za zk zc,.int .i64 ps]
    have hx4:=stsAt_rf (B':=wr.heap.size+1) hx4 (chg_setRow w1 #[.int .u8 k,.string nm,.string ot,.slice s3 nk t3,.slice s4 mk t4,.slice za zk zc,.int .i64 ps] (g:=wr.heap.size) (by have:=hz1.out;omega)) (by have:=hz1.out;omega)
    have hx3:=exsAt_rf (B':=wr.heap.size+1) (exsAt_rf (B':=wr.heap.size+1) hx3 (chg_below hb) (Nat.le_refl _)) (chg_setRow w1 #[.int .u8 k,.string nm,.string ot,.slice s3 nk t3,.slice s4 mk t4,.slice za zk zc,.int .i64 ps] (g:=wr.heap.size) (by omega)) (Nat.le_refl _)
    obtain ⟨X2,hX2⟩:∃ X,X=w1.setRow wr.heap.size #[.int .u8 k,.string nm,.string ot,.slice s3 nk t3,.slice s4 mk t4,.slice za zk zc,.int .i64 ps]:=⟨_,rfl⟩
    rw [← hX2] at e1 O2 B2 hx4 hx3
    have hz2:Hid (wr.heap.size+1≤X2.heap.size):=by have:=O2.lt;exact this
    have HB2:Hid (Below w.heap.size w X2):=HB.out.trans (B2.mono HB.out.size)
    clear hX2 hb O1 P1 D1 B1
    have d1:X2.cell? ⟨wr.heap.size,5,none⟩=some (.slice za zk zc):=by rw [cell_of_row _ _ 5 _ _ _ O2];rfl
    go_wp2_with fail
    go_at_call 16
    refine (HC5.out _ HB2.out).mono ?_
    rintro e w2 ⟨s5,t5,rfl,hx5,hb⟩
    have P2:=O2.below hb
    have D2:Below wr.heap.size wr w2:=B2.trans (hb.mono (by have:=B2.size;omega))
    have c2:w2.cell? ⟨wr.heap.size,5,none⟩=some (.slice za zk zc):=by rw [cell_of_row _ _ 5 _ _ _ P2];rfl
    have f2:=own_frozen P2 5
    have e2:w2.setCell ⟨wr.heap.size,5,none⟩ (.slice s5 zk t5)=w2.setRow wr.heap.size #[.int .u8 k,.string nm,.string ot,.slice s3 nk t3,.slice s4 mk t4,.slice s5 zk t5,.int .i64 ps]:=setCell_row P2 5 _
    have O3:=P2.row #[.int .u8 k,.string nm,.string ot,.slice s3 nk t3,.slice s4 mk t4,.slice s5 zk t5,.int .i64 ps]
    have B3:=Below.of_row D2 (g:=wr.heap.size) (Nat.le_refl _) #[.int .u8 k,.string nm,.string ot,.slice s3 nk t3,.slice s4 mk t4,.slice s5 zk t5,.int .i64 ps]
    have hx5:=stsAt_rf (B':=wr.heap.size+1) hx5 (chg_setRow w2 #[.int .u8 k,.string nm,.string ot,.slice s3 nk t3,.slice s4 mk t4,.slice s5 zk t5,.int .i64 ps] (g:=wr.heap.size) (by have:=hz2.out;omega)) (by have:=hz2.out;omega)
    have hx3:=exsAt_rf (B':=wr.heap.size+1) (exsAt_rf (B':=wr.heap.size+1) hx3 (chg_below hb) (Nat.le_refl _)) (chg_setRow w2 #[.int .u8 k,.string nm,.string ot,.slice s3 nk t3,.slice s4 mk t4,.slice s5 zk t5,.int .i64 ps] (g:=wr.heap.size) (by omega)) (Nat.le_refl _)
    have hx4:=stsAt_rf (B':=wr.heap.size+1) (stsAt_rf (B':=wr.heap.size+1) hx4 (chg_below hb) (Nat.le_refl _)) (chg_setRow w2 #[.int .u8 k,.string nm,.string ot,.slice s3 nk t3,.slice s4 mk t4,.slice s5 zk t5,.int .i64 ps] (g:=wr.heap.size) (by omega)) (Nat.le_refl _)
    obtain ⟨X3,hX3⟩:∃ X,X=w2.setRow wr.heap.size #[.int .u8 k,.string nm,.string ot,.slice s3 nk t3,.slice s4 mk t4,.slice s5 zk t5,.int .i64 ps]:=⟨_,rfl⟩
    rw [← hX3] at e2 O3 B3 hx5 hx3 hx4
    have hz3:Hid (wr.heap.size+1≤X3.heap.size):=by have:=O3.lt;exact this
    have HB3:Hid (Below w.heap.size w X3):=HB.out.trans (B3.mono HB.out.size)
    clear hX3 hb O2 P2 D2 B2
    have SV3:=stsV_stays (R':=RR w.heap.size (.slice oa i cap) X3) (stays_below B3) (fun b hb=>rr_below B3 hb) SV.out
    have hq:∀ b,Rf (wr.heap.size+1) X3 b∧b<X3.heap.size→RR w.heap.size (.slice oa i cap) X3 b:=fun b hb=>⟨by have:=HB.out.size;have:=hb.1.1;omega,hb.1.2,fun e=>by have:=(ROW.out.lt b e).2;have:=hb.1.1;omega,hb.2⟩
    have NV:stV (RR w.heap.size (.slice oa i cap) X3) X3 (.mk k nm ot es bo el ps) [.int .u8 k,.string nm,.string ot,.slice s3 nk t3,.slice s4 mk t4,.slice s5 zk t5,.int .i64 ps]:=by
     exact ⟨s3,t3,s4,t4,s5,t5,by rw [HL3.out,HL4.out,HL5.out];rfl,exsAt_mono (exsAt_in hx3) hq,stsAt_mono (stsAt_in hx4) hq,stsAt_mono (stsAt_in hx5) hq⟩
    have SVN:=stsV_snoc SV3 NV
    rw [← HTK.out] at SVN
    have SVN:=Lib.hid (stsV_stays (R':=RR w.heap.size (.slice oa i cap) (X3.alloc (.cells #[.int .u8 k,.string nm,.string ot,.slice s3 nk t3,.slice s4 mk t4,.slice s5 zk t5,.int .i64 ps] 66))) (stays_alloc _ X3 (.cells #[.int .u8 k,.string nm,.string ot,.slice s3 nk t3,.slice s4 mk t4,.slice s5 zk t5,.int .i64 ps] 66)) (fun b hb=>rr_below ((Below.refl _ X3).alloc (Nat.le_refl _) _) hb) SVN)
    have row4:=(row_below ROW.out B3).alloc (.cells #[.int .u8 k,.string nm,.string ot,.slice s3 nk t3,.slice s4 mk t4,.slice s5 zk t5,.int .i64 ps] 66)
    obtain ⟨i0,hi0',hi0,hi1,hi2⟩:=info_parts infoSt
    have N4:=Own.new X3 66 #[.int .u8 k,.string nm,.string ot,.slice s3 nk t3,.slice s4 mk t4,.slice s5 zk t5,.int .i64 ps]
    have HNEWS:Hid (∀ jj u,[.int .u8 k,.string nm,.string ot,.slice s3 nk t3,.slice s4 mk t4,.slice s5 zk t5,.int .i64 ps][jj]? = some u→(X3.alloc (.cells #[.int .u8 k,.string nm,.string ot,.slice s3 nk t3,.slice s4 mk t4,.slice s5 zk t5,.int .i64 ps] 66)).cell? ((⟨X3.heap.size,0,none⟩:Addr).add jj)=some u):=World.news_of_block N4
    have HSZ:=Lib.hid (World.size_alloc X3 (.cells #[.int .u8 k,.string nm,.string ot,.slice s3 nk t3,.slice s4 mk t4,.slice s5 zk t5,.int .i64 ps] 66))
    have HBA:Hid (Below w.heap.size w (X3.alloc (.cells #[.int .u8 k,.string nm,.string ot,.slice s3 nk t3,.slice s4 mk t4,.slice s5 zk t5,.int .i64 ps] 66))):=HB3.out.alloc HB3.out.size _
    clear SV3 NV hq N4 B3 hx3 hx4 hx5
    go_wp2_with (first | (refine ld rowSt rfl rfl rfl O3 rfl ?_) | (at_builtin;refine wpList_append_lies _ rfl _ _ 37 rfl w.heap.size 66 i0 _ 7 120 Tryz.underlying37 hi0' hi0 hi1 hi2 rfl (by decide) _ _ _ rfl row4 ⟨X3.heap.size,0,none⟩ 1 1 [.int .u8 k,.string nm,.string ot,.slice s3 nk t3,.slice s4 mk t4,.slice s5 zk t5,.int .i64 ps] rfl rfl HNEWS.out (by simp [Value.oneCell']) (by decide) (by simp only [maxLen];omega) (by omega) (by rw [HSZ.out];have:=HB3.out.size;omega) _ rfl ?_;intro g2 cap2 w9 hown' hgrow hlies hglt;have ROW4:=Lib.hid hown';have GR:=Lib.hid hgrow;have LIES:=Lib.hid hlies;clear hown' hgrow hlies))
    go_roundg (n-(i+1)+1)
    case measure=>have:=HM.out;omega
    case rel =>
     refine ⟨i+1,_,_,_,rfl,rfl,by omega,by omega,ROW4.out,?_,HBA.out.grown GR.out HBA.out.size (fun r hr=>(row4.lt r hr).1)⟩
     exact stsV_stays (stays_grown GR.out (fun b hb e=>hb.2.2.1 e)) (fun b hb=>rr_grown GR.out rfl LIES.out hb) SVN.out
  · have : i = n := by omega
    subst this
    obtain ⟨oa',cap',hv,hoa⟩:=row_shape ROW.out
    have HFIN:Hid (stsAt (Rf w.heap.size wr) wr l oa):=by
     have hT:l.take i=l:=List.take_of_length_le (by have:=HN.out;omega)
     have hsv:=SV.out
     rw [hT] at hsv
     cases hl:l with
     | nil=>exact .inl rfl
     | cons y yy =>
       rw [← hl]
       have hne:i≠0:=by have:=HN.out;rw [hl] at this;simp at this;omega
       have hr9:=ROW.out
       rcases hr9.2 with ⟨_,h0⟩ | ⟨g,cap9,cur,he,hbg,hg,_⟩
       · exact absurd h0 hne
       · have e9 : oa = some ⟨g, 0, none⟩ := by injection he
         subst e9
         exact .inr ⟨g,0,rfl,⟨hbg,fun o=>hr9.frozenAt o⟩,stsIn_of (stsV_stays (R':=Rf w.heap.size wr) (Stays.refl _ _) (fun b hb=>⟨hb.1,hb.2.1⟩) hsv) (row_cells hr9 rfl)⟩
    clear hv hoa
    go_wp2_with fail
    go_ret
    exact ⟨oa,cap,rfl,HFIN.out,HB.out⟩
theorem cy_subs:∀ l:List St,∀ x∈l,CyS x.body∧CyS x.els:=by
 intro l
 induction l using Sts.ind with
 | h0=>intro x hx;cases hx
 | h1 k n o e b l a r hb hl hr =>
   intro x hx
   rcases List.mem_cons.1 hx with rfl | hx
   · exact ⟨cy_sts hb r_copyExprs,cy_sts hl r_copyExprs⟩
   · exact hr x hx
theorem r_copyStmts (l:List St):CyS l:=cy_sts (cy_subs l) r_copyExprs
end Go.Proofs.YtieeaehabjjaoaaGreatDoor

/- The proof, part 6: texts that belong together, in one. -/
import Derived.Test.YtieeaehabjjaoaaGreatDoorHAE
set_option maxRecDepth 100000
set_option maxHeartbeats 20000000
namespace Go.Proofs.YtieeaehabjjaoaaGreatDoor
open Go.RowKit
set_option linter.unusedVariables false
set_option maxRecDepth 100000
def shp (k:Int):Bool × Bool × Int × Bool × Bool :=
 if k=1 then (true,false,1,false,false) else if k=2 then (true,true,1,false,false) else if k=3 then (false,false,1,true,true) else if k=4 then (false,false,1,true,false)
 else if k=5 then (true,false,0,true,false) else if k=6 then (false,false,1,false,false) else (false,false,0,false,false)
structure PTab (W:World):Prop where
 size:1<W.heap.size
 cell:∀ k:Int,0≤k→k<8→W.cell? ⟨1,k.toNat*5,none⟩=some (.bool (shp k).1)∧W.cell? ⟨1,k.toNat*5+1,none⟩=some (.bool (shp k).2.1)∧W.cell? ⟨1,k.toNat*5+2,none⟩=some (.int .i64 (shp k).2.2.1)∧W.cell? ⟨1,k.toNat*5+3,none⟩=some (.bool (shp k).2.2.2.1)∧W.cell? ⟨1,k.toNat*5+4,none⟩=some (.bool (shp k).2.2.2.2)
theorem PTab.below {W W':World} {B:Nat} (T:PTab W) (hB:W.heap.size≤B) (h:Below B W W'):PTab W':=by
 have h1:=T.size
 refine ⟨by have:=h.size;omega,fun k h0 h8=>?_⟩
 obtain ⟨c0,c1,c2,c3,c4⟩:=T.cell k h0 h8
 exact ⟨(h.cell (p:=⟨1,k.toNat*5,none⟩) (by show 1<B;omega)).trans c0,(h.cell (p:=⟨1,k.toNat*5+1,none⟩) (by show 1<B;omega)).trans c1,(h.cell (p:=⟨1,k.toNat*5+2,none⟩) (by show 1<B;omega)).trans c2,(h.cell (p:=⟨1,k.toNat*5+3,none⟩) (by show 1<B;omega)).trans c3,(h.cell (p:=⟨1,k.toNat*5+4,none⟩) (by show 1<B;omega)).trans c4⟩
def PT (W:World):Prop:=(LNm W∧Tabs W)∧PTab W
theorem PT.below {W W':World} (T:PT W) (h:Below W.heap.size W W'):PT W':=⟨⟨T.1.1.below (Nat.le_refl _) h,T.1.2.below (Nat.le_refl _) h⟩,T.2.below (Nat.le_refl _) h⟩
def allE (l:List Ex):Bool:=l.all fun x=>rE x 0
mutual
def rS:St→Int→Bool
 | .mk k n o e b l _=>fun d=>decide (0<k)&&(decide (k<8)&&(nmB n (shp k).1&&(nmB o (shp k).2.1&&(((e.length:Int)==(shp k).2.2.1)&&(((shp k).2.2.2.1 || ((b.length:Int)==0))&&(((shp k).2.2.2.2 || ((l.length:Int)==0)) &&
  (allE e&&((!(shp k).2.2.2.1 || (decide (d+1≤64)&&rAll b (d+1)))&&(!decide (0<(l.length:Int)) || (decide (d+1≤64)&&rAll l (d+1)))))))))))
def rAll:List St→Int→Bool
 | []=>fun _=>true
 | x::r=>fun d=>rS x d&&rAll r d
end
def rB (l:List St) (d:Int):Bool:=decide (d≤64)&&rAll l d
theorem rAll_bad:∀ {l:List St} {d:Int} (x:St),x∈l→rS x d=false→rAll l d=false
 | y :: r, d, x, hm, h => by
   rcases List.mem_cons.1 hm with rfl | hm
   · simp only [rAll,h,Bool.false_and]
   · simp only [rAll,rAll_bad x hm h,Bool.and_false]
theorem rAll_ok:∀ {l:List St} {d:Int},(∀ x∈l,rS x d=true)→rAll l d=true
 | [],d,_=>by simp only [rAll]
 | y::r,d,h=>by simp only [rAll,h y (.head _),rAll_ok fun x hx=>h x (.tail _ hx),Bool.and_self]
theorem allE_bad {l:List Ex} (x:Ex) (hm:x∈l) (h:rE x 0=false):allE l=false:=by
 unfold allE
 rw [← Bool.not_eq_true,List.all_eq_true]
 intro hh
 rw [hh x hm] at h
 cases h
theorem allE_ok {l:List Ex} (h:∀ x∈l,rE x 0=true):allE l=true:=List.all_eq_true.2 h
mutual
def rgS:St→Prop
 | .mk k _ _ e b l _=>(0≤k∧k≤255)∧rgEs e∧rgSs b∧rgSs l
def rgSs:List St→Prop
 | []=>True
 | x::r=>rgS x∧rgSs r
end
theorem rgSs_mem:∀ {l:List St},rgSs l→∀ x∈l,rgS x
 | [],_,x,hx=>by simp at hx
 | y :: r, h, x, hx => by
   rcases List.mem_cons.1 hx with rfl | hx
   · exact h.1
   · exact rgSs_mem h.2 x hx
theorem and_t {R a b:Bool} (h:R=(a&&b)) (ha:a=true):R=b:=by subst ha;exact h
theorem and_f {R a b:Bool} (h:R=(a&&b)) (ha:a=false):R=false:=by subst ha;exact h
def NdS (x:St):Prop:=okS x→rgS x→∀ (a3 a4 a5:Option Addr) (c3 c4 c5:Nat) (w:World) (d:Int),exsAt (fun _=>True) w x.e a3→stsAt (fun _=>True) w x.body a4→stsAt (fun _=>True) w x.els a5→PT w→0≤d→d≤4611686018427387904→Calls Tryz.prog 78 #[.agg (stCells x a3 c3 a4 c4 a5 c5).toArray,.int .i64 d] w (NdP w (rS x d))
def NdB (l:List St):Prop:=okSs l→l.length≤9223372036854775807→rgSs l→∀ (a:Option Addr) (c:Nat) (w:World) (d:Int),stsAt (fun _=>True) w l a→PT w→0≤d→d≤4611686018427387904→Calls Tryz.prog 42 #[.slice a l.length c,.int .i64 d] w (NdP w (rB l d))
theorem p_needBlock {l:List St} (HI:∀ x∈l,NdS x):NdB l:=by
 intro hok hlen hrg a c w d h1 TT hd0 hd1
 have HND:Hid (∀ b W,Calls Tryz.prog 39 #[.bool b] W (NdP W b)):=fun b W=>p_need b W
 have HI:=Lib.hid HI
 have HO:=Lib.hid hok
 have HG:=Lib.hid hrg
 have E1:=Lib.hid h1
 have HT:=Lib.hid TT
 have HD:=Lib.hid (And.intro hd0 hd1)
 obtain ⟨n,hn⟩:∃ n,n=l.length:=⟨_,rfl⟩
 rw [← hn] at hlen ⊢
 have HN:=Lib.hid hn
 clear hok hrg h1 TT hn hd0 hd1
 obtain ⟨R,hR⟩:∃ R,R=rB l d:=⟨_,rfl⟩
 rw [← hR]
 have HR:=Lib.hid hR
 clear hR
 go_enter Tryz.func42,Tryz.ntmps42
 go_wp2_with fail
 go_at_call 39
 refine (HND.out _ _).mono ?_
 rintro e w1 hh
 rcases hh.cases with ⟨h3,rfl,hb⟩ | ⟨h3,rfl,hb⟩
 rotate_left
 · go_wp2_with fail
   exact ⟨rfl,by rw [HR.out];unfold rB;rw [h3];rfl,hb⟩
 have HD3:=Lib.hid h3
 have HB1:=Lib.hid hb
 clear hb h3
 go_wp2_with fail
 go_loopg [11] (n+1) (fun m' u W=>∃ i:Nat,u=.int .i64 (i:Int)∧i≤n∧m'=n-i+1∧(∀ j y,j<i→l[j]? = some y→rS y d=true)∧Below w.heap.size w W)
 case atStart=>exact ⟨0,rfl,Nat.zero_le _,by omega,fun j y h=>by omega,HB1.out⟩
 case round =>
  clear HB1
  obtain ⟨i,rfl,hi,hm,hI,hb0⟩:=hrel
  have HM:=Lib.hid hm
  have HIN:=Lib.hid hI
  have HB:=Lib.hid hb0
  clear hm hI hb0
  by_cases hin:i<n
  · have il : i < l.length := by have := HN.out; omega
    have g1:l[i]? = some l[i]:=List.getElem?_eq_getElem il
    have hmem:l[i]∈l:=List.getElem_mem il
    generalize l[i]=x at g1 hmem
    rcases E1.out with e | ⟨g,q,e,_,e1⟩
    · cases l with
      | nil=>simp at il
      | cons=>cases e
    obtain rfl:a=some ⟨g,q,none⟩:=e
    have x1:=stsIn_get i x e1 g1
    obtain ⟨k,nm,ot,es,bo,el,ps⟩:=x
    obtain ⟨f0,f1,f2,⟨a3,c3,f3,w0⟩,⟨a4,c4,f4,w1⟩,⟨a5,c5,f5,w2⟩,f6⟩:=x1
    have lg:=lt_of_at f0
    simp only at lg
    have hin':(i:Int)<(n:Int):=by omega
    have HCX:Hid (∀ W,Below w.heap.size w W→Calls Tryz.prog 78 #[.agg #[.int .u8 k,.string nm,.string ot,.slice a3 es.length c3,.slice a4 bo.length c4,.slice a5 el.length c5,.int .i64 ps],.int .i64 d] W (NdP W (rS (.mk k nm ot es bo el ps) d))):=fun W hW =>
     HI.out _ hmem (okSs_mem HO.out _ hmem) (rgSs_mem HG.out _ hmem) a3 a4 a5 c3 c4 c5 W d (exsAt_below w0 hW) (stsAt_below w1 hW) (stsAt_below w2 hW) (HT.out.below hW) HD.out.1 HD.out.2
    have BX:=HB.out
    have f0:wr.cell? ⟨g,q+i*7,none⟩=some (.int .u8 k):=(BX.cell (p:=⟨g,q+i*7,none⟩) lg).trans f0
    have f1:wr.cell? ⟨g,q+i*7+1,none⟩=some (.string nm):=(BX.cell (p:=⟨g,q+i*7+1,none⟩) lg).trans f1
    have f2:wr.cell? ⟨g,q+i*7+2,none⟩=some (.string ot):=(BX.cell (p:=⟨g,q+i*7+2,none⟩) lg).trans f2
    have f3:wr.cell? ⟨g,q+i*7+3,none⟩=some (.slice a3 es.length c3):=(BX.cell (p:=⟨g,q+i*7+3,none⟩) lg).trans f3
    have f4:wr.cell? ⟨g,q+i*7+4,none⟩=some (.slice a4 bo.length c4):=(BX.cell (p:=⟨g,q+i*7+4,none⟩) lg).trans f4
    have f5:wr.cell? ⟨g,q+i*7+5,none⟩=some (.slice a5 el.length c5):=(BX.cell (p:=⟨g,q+i*7+5,none⟩) lg).trans f5
    have f6:wr.cell? ⟨g,q+i*7+6,none⟩=some (.int .i64 ps):=(BX.cell (p:=⟨g,q+i*7+6,none⟩) lg).trans f6
    have HGI:=Lib.hid g1
    have HME:=Lib.hid hmem
    clear g1 e1 il BX w0 w1 w2 hmem
    obtain ⟨rx,hrx⟩:∃ r,r=rS (.mk k nm ot es bo el ps) d:=⟨_,rfl⟩
    rw [← hrx] at HCX
    have HRX:=Lib.hid hrx
    clear hrx
    generalize es.length=n5 at HCX f3
    generalize bo.length=n6 at HCX f4
    generalize el.length=n7 at HCX f5
    have O1:=Own.new wr 66 #[.int .u8 k,.string nm,.string ot,.slice a3 n5 c3,.slice a4 n6 c4,.slice a5 n7 c5,.int .i64 ps]
    have HBW:Hid (Below wr.heap.size wr (wr.alloc (.cells #[.int .u8 k,.string nm,.string ot,.slice a3 n5 c3,.slice a4 n6 c4,.slice a5 n7 c5,.int .i64 ps] 66))):=(Below.refl _ wr).alloc (Nat.le_refl _) _
    have HBA:=Lib.hid (HB.out.trans (HBW.out.mono HB.out.size))
    go_wp2_with (refine ld rowSt rfl rfl rfl O1 rfl ?_)
    go_at_call 78
    refine (HCX.out _ HBA.out).mono ?_
    rintro e w3 hh
    rcases hh.cases with ⟨h4,rfl,hb⟩ | ⟨h4,rfl,hb⟩
    rotate_left
    · go_wp2_with fail
      exact ⟨rfl,by rw [HR.out];unfold rB;rw [rAll_bad _ HME.out (by rw [← HRX.out];exact h4),Bool.and_false];rfl,HBA.out.trans (hb.mono HBA.out.size)⟩
    have HB2:=Lib.hid (HBA.out.trans (hb.mono HBA.out.size))
    have HX:=Lib.hid h4
    clear hb h4 O1
    go_wp2_with fail
    go_roundg (n-(i+1)+1)
    case measure=>have:=HM.out;omega
    case rel =>
     refine ⟨i+1,rfl,by omega,by omega,fun j y hj hy=>?_,HB2.out⟩
     by_cases hji:j=i
     · subst hji
       rw [HGI.out] at hy
       obtain rfl:=Option.some.inj hy
       rw [← HRX.out];exact HX.out
     · exact HIN.out j y (by omega) hy
  · have : i = n := by omega
    subst this
    have hR:R=true:=by
     rw [HR.out]
     unfold rB
     rw [HD3.out,rAll_ok fun x hx=>?_]
     · rfl
     · obtain ⟨j, hj⟩ := List.getElem?_of_mem hx
       have hjl:j<l.length:=(List.getElem?_eq_some_iff.1 hj).1
       exact HIN.out j x (by have:=HN.out;omega) hj
    have HRR:=Lib.hid hR
    clear hR
    go_wp2_with fail
    exact bodyPost_end (results_none rfl _ _ _) rfl ⟨by rw [HRR.out];rfl,HB.out⟩
theorem nd_deep {l:List St} {a:Option Addr} {n c:Nat} {W:World} {d:Int} (h:¬ d≤64):Calls Tryz.prog 42 #[.slice a n c,.int .i64 d] W (NdP W (rB l d)):=by
 have hR:rB l d=false:=by unfold rB;rw [decide_eq_false h];rfl
 rw [hR]
 have hq:decide (d≤64)=false:=decide_eq_false h
 have HND:Hid (∀ b W,Calls Tryz.prog 39 #[.bool b] W (NdP W b)):=fun b W=>p_need b W
 go_enter Tryz.func42,Tryz.ntmps42
 go_wp2_with fail
 go_at_call 39
 refine (HND.out _ _).mono ?_
 rintro e w1 hh
 obtain ⟨rfl,hb⟩:=hh.bad rfl
 go_wp2_with fail
 exact ⟨rfl,rfl,hb⟩
theorem p_needStmt (x:St) (HNB0:NdB x.body) (HNL0:NdB x.els):NdS x:=by
 intro hok hrg a3 a4 a5 c3 c4 c5 w d h3 h4 h5 TT hd0 hd1
 obtain ⟨k,nm,ot,es,bo,el,ps⟩:=x
 obtain ⟨⟨l3,o3⟩,⟨l4,o4⟩,l5,o5⟩:=hok
 obtain ⟨hk,r3,r4,r5⟩:=hrg
 change Calls _ _ #[.agg #[.int .u8 k,.string nm,.string ot,.slice a3 es.length c3,.slice a4 bo.length c4,.slice a5 el.length c5,.int .i64 ps],_] w _
 have HND:Hid (∀ b W,Calls Tryz.prog 39 #[.bool b] W (NdP W b)):=fun b W=>p_need b W
 have HNM:Hid (∀ n b W,Below w.heap.size w W→Calls Tryz.prog 97 #[.string n,.bool b] W (NdP W (nmB n b))):=fun n b W hb=>p_needName n b W (TT.below hb).1.1
 have HE:Hid (∀ (y:Ex) W v,y∈es→Below w.heap.size w W→exA W y v→Calls Tryz.prog 57 #[v,.int .i64 0] W (NdP W (rE y 0))):=fun y W v hm hb hv=>needExpr_any y (rgEs_mem r3 y hm) v W 0 hv ⟨(TT.below hb).1.1,(TT.below hb).1.2⟩ (by omega) (by omega)
 have HNB:Hid (∀ W,Below w.heap.size w W→Calls Tryz.prog 42 #[.slice a4 bo.length c4,.int .i64 (d+1)] W (NdP W (rB bo (d+1)))):=fun W hb=>by
  by_cases hd:d+1≤4611686018427387904
  · exact HNB0 o4 l4 r4 a4 c4 W (d+1) (stsAt_below h4 hb) (TT.below hb) (by omega) hd
  · exact nd_deep (by omega)
 have HNL:Hid (∀ W,Below w.heap.size w W→Calls Tryz.prog 42 #[.slice a5 el.length c5,.int .i64 (d+1)] W (NdP W (rB el (d+1)))):=fun W hb=>by
  by_cases hd:d+1≤4611686018427387904
  · exact HNL0 o5 l5 r5 a5 c5 W (d+1) (stsAt_below h5 hb) (TT.below hb) (by omega) hd
  · exact nd_deep (by omega)
 obtain ⟨kk,rfl⟩:=Int.eq_ofNat_of_zero_le hk.1
 have HPT:Hid (∀ W,Below w.heap.size w W→(kk:Int)<8→W.cell? ⟨1,kk*5,none⟩=some (.bool (shp kk).1)∧W.cell? ⟨1,kk*5+1,none⟩=some (.bool (shp kk).2.1)∧W.cell? ⟨1,kk*5+2,none⟩=some (.int .i64 (shp kk).2.2.1)∧W.cell? ⟨1,kk*5+3,none⟩=some (.bool (shp kk).2.2.2.1)∧W.cell? ⟨1,kk*5+4,none⟩=some (.bool (shp kk).2.2.2.2)):=fun W hb h8=>(TT.below hb).2.cell kk (by omega) h8
 have E1:=Lib.hid h3
 have HWR:Hid (IntKind.i64.wrap (d+1)=d+1):=IntWalk.i64_in _ (by omega)
 obtain ⟨R,hR⟩:∃ R,R=rS (.mk kk nm ot es bo el ps) d:=⟨_,rfl⟩
 rw [← hR]
 have HR:Hid (R=(decide (0<(kk:Int))&&(decide ((kk:Int)<8)&&(nmB nm (shp kk).1&&(nmB ot (shp kk).2.1&&(((es.length:Int)==(shp kk).2.2.1)&&(((shp kk).2.2.2.1 || ((bo.length:Int)==0))&&(((shp kk).2.2.2.2 || ((el.length:Int)==0)) &&
  (allE es&&((!(shp kk).2.2.2.1 || rB bo (d+1))&&(!decide (0<(el.length:Int)) || rB el (d+1)))))))))))):=by rw [Hid,hR];unfold rS rB;rfl
 obtain ⟨sh,hsh⟩:∃ sh,sh=shp kk:=⟨_,rfl⟩
 rw [← hsh] at HPT HR
 clear hsh
 obtain ⟨s1,s2,s3,s4,s5⟩:=sh
 simp only at HPT HR
 obtain ⟨n3,hn3⟩:∃ n,n=es.length:=⟨_,rfl⟩
 obtain ⟨n4,hn4⟩:∃ n,n=bo.length:=⟨_,rfl⟩
 obtain ⟨n5,hn5⟩:∃ n,n=el.length:=⟨_,rfl⟩
 rw [← hn4] at HNB
 rw [← hn5] at HNL
 rw [← hn3,← hn4,← hn5] at HR ⊢
 rw [← hn3] at l3
 generalize rB bo (d+1)=rb at HNB HR
 generalize rB el (d+1)=rl at HNL HR
 have HN3:=Lib.hid hn3
 clear HNB0 HNL0 l4 l5 o3 o4 o5 r3 r4 r5 h3 h4 h5 TT hd0 hd1 hR hn3 hn4 hn5
 have hlen:=l3
 clear l3
 have HB:=Lib.hid (bw_new w 66 #[.int .u8 (kk:Int),.string nm,.string ot,.slice a3 n3 c3,.slice a4 n4 c4,.slice a5 n5 c5,.int .i64 ps])
 obtain ⟨W0,hW0⟩:∃ W,W=w.alloc (.cells #[.int .u8 (kk:Int),.string nm,.string ot,.slice a3 n3 c3,.slice a4 n4 c4,.slice a5 n5 c5,.int .i64 ps] 66):=⟨_,rfl⟩
 rw [← hW0] at HB
 have HW0:=Lib.hid hW0
 clear hW0
 go_enter Tryz.func78,Tryz.ntmps78
 go_upto_region 1 with (fail)
 rw [← HW0.out]
 clear HW0
 go_cut [] (fun wx=>(decide (0<(kk:Int))=true∧decide ((kk:Int)<8)=true)∧Bw w 66 #[.int .u8 (kk:Int),.string nm,.string ot,.slice a3 n3 c3,.slice a4 n4 c4,.slice a5 n5 c5,.int .i64 ps] wx)
 case first =>
  have c0:W0.cell? ⟨w.heap.size,0,none⟩=some (.int .u8 (kk:Int)):=by rw [cell_of_row _ _ 0 _ _ _ HB.out.1];rfl
  by_cases q1:0<(kk:Int)
  · by_cases q2 : (kk : Int) < 8
    · go_wp2_with fail
      go_at_call 39
      refine (HND.out _ _).mono ?_
      rintro e w1 hh
      obtain ⟨rfl,hb⟩:=hh.ok rfl
      have HB1:=Lib.hid (bw_below HB.out hb)
      clear hb
      go_wp2_with fail
      go_meet
      exact ⟨⟨decide_eq_true q1,decide_eq_true q2⟩,HB1.out⟩
    · go_wp2_with fail
      go_at_call 39
      refine (HND.out _ _).mono ?_
      rintro e w1 hh
      obtain ⟨rfl,hb⟩:=hh.bad rfl
      go_wp2_with fail
      exact ⟨rfl,by rw [and_f (and_t HR.out (decide_eq_true q1)) (decide_eq_false (by omega))];rfl,(bw_below HB.out hb).2⟩
  · go_wp2_with fail
    go_at_call 39
    refine (HND.out _ _).mono ?_
    rintro e w1 hh
    obtain ⟨rfl,hb⟩:=hh.bad rfl
    go_wp2_with fail
    exact ⟨rfl,by rw [and_f HR.out (decide_eq_false (by omega))];rfl,(bw_below HB.out hb).2⟩
 case rest =>
  obtain ⟨⟨q1,q2⟩,hbw⟩:=hcut
  replace HR:=Lib.hid (and_t (and_t HR.out q1) q2)
  replace HB:=Lib.hid hbw
  have q8:(kk:Int)<8:=of_decide_eq_true q2
  have q9:kk<8:=by omega
  obtain ⟨p0,p1,p2,p3,p4⟩:=HPT.out _ HB.out.2 q8
  clear q1 q2 hbw HPT
  have c0:wc.cell? ⟨w.heap.size,0,none⟩=some (.int .u8 (kk:Int)):=by rw [cell_of_row _ _ 0 _ _ _ HB.out.1];rfl
  have HS:=Lib.hid (Own.new wc 158 #[.bool s1,.bool s2,.int .i64 s3,.bool s4,.bool s5])
  have hal:Below wc.heap.size wc (wc.alloc (.cells #[.bool s1,.bool s2,.int .i64 s3,.bool s4,.bool s5] 158)):=(Below.refl _ wc).alloc (Nat.le_refl _) _
  have hB2:=bw_below HB.out hal
  go_upto_region 3 with (fail)
  obtain ⟨g4,hg4⟩:∃ g,g=wc.heap.size:=⟨_,rfl⟩
  obtain ⟨W2,hW2⟩:∃ W,W=wc.alloc (.cells #[.bool s1,.bool s2,.int .i64 s3,.bool s4,.bool s5] 158):=⟨_,rfl⟩
  rw [← hW2] at hB2 HS ⊢
  rw [← hg4] at HS ⊢
  replace HB:=Lib.hid hB2
  clear hW2 hg4 hB2 hal p0 p1 p2 p3 p4 c0
  have c1:W2.cell? ⟨w.heap.size,1,none⟩=some (.string nm):=by rw [cell_of_row _ _ 1 _ _ _ HB.out.1];rfl
  have z0:W2.cell? ⟨g4,0,none⟩=some (.bool s1):=by rw [cell_of_row _ _ 0 _ _ _ HS.out];rfl
  go_wp2_with fail
  go_at_call 97
  refine (HNM.out _ _ _ HB.out.2).mono ?_
  rintro e w3 hh
  rcases hh.cases with ⟨hx,rfl,hb⟩ | ⟨hx,rfl,hb⟩
  rotate_left
  · go_wp2_with fail
    exact ⟨rfl,by rw [and_f HR.out hx];rfl,(bw_below HB.out hb).2⟩
  replace HR:=Lib.hid (and_t HR.out hx)
  replace HB:=Lib.hid (bw_below HB.out hb)
  replace HS:=Lib.hid (HS.out.below hb)
  clear hb hx c1 z0
  have c2:w3.cell? ⟨w.heap.size,2,none⟩=some (.string ot):=by rw [cell_of_row _ _ 2 _ _ _ HB.out.1];rfl
  have z1:w3.cell? ⟨g4,1,none⟩=some (.bool s2):=by rw [cell_of_row _ _ 1 _ _ _ HS.out];rfl
  go_wp2_with fail
  go_at_call 97
  refine (HNM.out _ _ _ HB.out.2).mono ?_
  rintro e w4 hh
  rcases hh.cases with ⟨hx,rfl,hb⟩ | ⟨hx,rfl,hb⟩
  rotate_left
  · go_wp2_with fail
    exact ⟨rfl,by rw [and_f HR.out hx];rfl,(bw_below HB.out hb).2⟩
  replace HR:=Lib.hid (and_t HR.out hx)
  replace HB:=Lib.hid (bw_below HB.out hb)
  replace HS:=Lib.hid (HS.out.below hb)
  clear hb hx c2 z1
  have c3:w4.cell? ⟨w.heap.size,3,none⟩=some (.slice a3 n3 c3):=by rw [cell_of_row _ _ 3 _ _ _ HB.out.1];rfl
  have z2:w4.cell? ⟨g4,2,none⟩=some (.int .i64 s3):=by rw [cell_of_row _ _ 2 _ _ _ HS.out];rfl
  go_wp2_with fail
  go_at_call 39
  refine (HND.out _ _).mono ?_
  rintro e w5 hh
  rcases hh.cases with ⟨hx,rfl,hb⟩ | ⟨hx,rfl,hb⟩
  rotate_left
  · go_wp2_with fail
    exact ⟨rfl,by rw [and_f HR.out hx];rfl,(bw_below HB.out hb).2⟩
  replace HR:=Lib.hid (and_t HR.out hx)
  replace HB:=Lib.hid (bw_below HB.out hb)
  replace HS:=Lib.hid (HS.out.below hb)
  clear hb hx c3 z2
  go_upto_region 6 with (fail)
  go_cut [] (fun wx=>(s4 || ((n4:Int)==0))=true∧Bw w 66 #[.int .u8 (kk:Int),.string nm,.string ot,.slice a3 n3 c3,.slice a4 n4 c4,.slice a5 n5 c5,.int .i64 ps] wx∧Own wx g4 158 #[.bool s1,.bool s2,.int .i64 s3,.bool s4,.bool s5])
  case first =>
   have c4:w5.cell? ⟨w.heap.size,4,none⟩=some (.slice a4 n4 c4):=by rw [cell_of_row _ _ 4 _ _ _ HB.out.1];rfl
   cases s4 with
   | true =>
     have z3:w5.cell? ⟨g4,3,none⟩=some (.bool true):=by rw [cell_of_row _ _ 3 _ _ _ HS.out];rfl
     go_wp2_with fail
     go_at_call 39
     refine (HND.out _ _).mono ?_
     rintro e w1 hh
     obtain ⟨rfl,hb⟩:=hh.ok rfl
     have HB1:=Lib.hid (bw_below HB.out hb)
     have HS1:=Lib.hid (HS.out.below hb)
     clear hb
     go_wp2_with fail
     go_meet
     exact ⟨rfl,HB1.out,HS1.out⟩
   | false =>
     have z3:w5.cell? ⟨g4,3,none⟩=some (.bool false):=by rw [cell_of_row _ _ 3 _ _ _ HS.out];rfl
     go_wp2_with fail
     go_at_call 39
     refine (HND.out _ _).mono ?_
     rintro e w1 hh
     rcases hh.cases with ⟨hx,rfl,hb⟩ | ⟨hx,rfl,hb⟩
     · have HB1 := Lib.hid (bw_below HB.out hb)
       have HS1:=Lib.hid (HS.out.below hb)
       have HX:=Lib.hid hx
       clear hb hx
       go_wp2_with fail
       go_meet
       exact ⟨HX.out,HB1.out,HS1.out⟩
     · go_wp2_with fail
       exact ⟨rfl,by rw [and_f HR.out hx];rfl,(bw_below HB.out hb).2⟩
  case rest =>
   obtain ⟨hx,hbw,hs⟩:=hcut
   replace HR:=Lib.hid (and_t HR.out hx)
   replace HB:=Lib.hid hbw
   replace HS:=Lib.hid hs
   clear hx hbw hs
   go_upto_region 7 with (fail)
   go_cut [] (fun wx=>(s5 || ((n5:Int)==0))=true∧Bw w 66 #[.int .u8 (kk:Int),.string nm,.string ot,.slice a3 n3 c3,.slice a4 n4 c4,.slice a5 n5 c5,.int .i64 ps] wx∧Own wx g4 158 #[.bool s1,.bool s2,.int .i64 s3,.bool s4,.bool s5])
   case first =>
    have c5:wc.cell? ⟨w.heap.size,5,none⟩=some (.slice a5 n5 c5):=by rw [cell_of_row _ _ 5 _ _ _ HB.out.1];rfl
    cases s5 with
    | true =>
      have z4:wc.cell? ⟨g4,4,none⟩=some (.bool true):=by rw [cell_of_row _ _ 4 _ _ _ HS.out];rfl
      go_wp2_with fail
      go_at_call 39
      refine (HND.out _ _).mono ?_
      rintro e w1 hh
      obtain ⟨rfl,hb⟩:=hh.ok rfl
      have HB1:=Lib.hid (bw_below HB.out hb)
      have HS1:=Lib.hid (HS.out.below hb)
      clear hb
      go_wp2_with fail
      go_meet
      exact ⟨rfl,HB1.out,HS1.out⟩
    | false =>
      have z4:wc.cell? ⟨g4,4,none⟩=some (.bool false):=by rw [cell_of_row _ _ 4 _ _ _ HS.out];rfl
      go_wp2_with fail
      go_at_call 39
      refine (HND.out _ _).mono ?_
      rintro e w1 hh
      rcases hh.cases with ⟨hx,rfl,hb⟩ | ⟨hx,rfl,hb⟩
      · have HB1 := Lib.hid (bw_below HB.out hb)
        have HS1:=Lib.hid (HS.out.below hb)
        have HX:=Lib.hid hx
        clear hb hx
        go_wp2_with fail
        go_meet
        exact ⟨HX.out,HB1.out,HS1.out⟩
      · go_wp2_with fail
        exact ⟨rfl,by rw [and_f HR.out hx];rfl,(bw_below HB.out hb).2⟩
   case rest =>
    obtain ⟨hx,hbw,hs⟩:=hcut
    replace HR:=Lib.hid (and_t HR.out hx)
    replace HB:=Lib.hid hbw
    replace HS:=Lib.hid hs
    clear hx hbw hs
    have c3:wc.cell? ⟨w.heap.size,3,none⟩=some (.slice a3 n3 c3):=by rw [cell_of_row _ _ 3 _ _ _ HB.out.1];rfl
    go_wp2_with fail
    clear c3
    go_loopg [58] (n3+1) (fun m' u W=>∃ i:Nat,u=.int .i64 (i:Int)∧i≤n3∧m'=n3-i+1∧(∀ j y,j<i→es[j]? = some y→rE y 0=true)∧Bw w 66 #[.int .u8 (kk:Int),.string nm,.string ot,.slice a3 n3 c3,.slice a4 n4 c4,.slice a5 n5 c5,.int .i64 ps] W∧Own W g4 158 #[.bool s1,.bool s2,.int .i64 s3,.bool s4,.bool s5])
    case atStart=>exact ⟨0,rfl,Nat.zero_le _,by omega,fun j y h=>by omega,HB.out,HS.out⟩
    case round =>
     clear HB HS
     obtain ⟨i,rfl,hi,hm,hI,hb0,hs0⟩:=hrel
     have HM:=Lib.hid hm
     have HIN:=Lib.hid hI
     have HB:=Lib.hid hb0
     have HS:=Lib.hid hs0
     clear hm hI hb0 hs0
     by_cases hin:i<n3
     · have il : i < es.length := by have := HN3.out; omega
       have g1:es[i]? = some es[i]:=List.getElem?_eq_getElem il
       have hmem:es[i]∈es:=List.getElem_mem il
       generalize es[i]=x at g1 hmem
       rcases E1.out with e | ⟨g,q,e,_,e1⟩
       · cases es with
         | nil=>simp at il
         | cons=>cases e
       obtain rfl:a3=some ⟨g,q,none⟩:=e
       have x1:=exsIn_get i x e1 g1
       obtain ⟨k,o,wd,n,ks,p⟩:=x
       obtain ⟨f0,f1,f2,f3,⟨a,cap,f4,w0⟩,f5⟩:=x1
       have lg:=lt_of_at f0
       simp only at lg
       have hin':(i:Int)<(n3:Int):=by omega
       have HCX:Hid (∀ W,Below w.heap.size w W→Calls Tryz.prog 57 #[.agg #[.int .u8 k,.int .u8 o,.int .i64 wd,.string n,.slice a ks.length cap,.int .i64 p],.int .i64 0] W (NdP W (rE (.mk k o wd n ks p) 0))):=fun W hW=>HE.out _ W _ hmem hW ⟨a,cap,rfl,exsAt_below w0 hW⟩
       have BX:=HB.out.2
       have f0:wr.cell? ⟨g,q+i*6,none⟩=some (.int .u8 k):=(BX.cell (p:=⟨g,q+i*6,none⟩) lg).trans f0
       have f1:wr.cell? ⟨g,q+i*6+1,none⟩=some (.int .u8 o):=(BX.cell (p:=⟨g,q+i*6+1,none⟩) lg).trans f1
       have f2:wr.cell? ⟨g,q+i*6+2,none⟩=some (.int .i64 wd):=(BX.cell (p:=⟨g,q+i*6+2,none⟩) lg).trans f2
       have f3:wr.cell? ⟨g,q+i*6+3,none⟩=some (.string n):=(BX.cell (p:=⟨g,q+i*6+3,none⟩) lg).trans f3
       have f4:wr.cell? ⟨g,q+i*6+4,none⟩=some (.slice a ks.length cap):=(BX.cell (p:=⟨g,q+i*6+4,none⟩) lg).trans f4
       have f5:wr.cell? ⟨g,q+i*6+5,none⟩=some (.int .i64 p):=(BX.cell (p:=⟨g,q+i*6+5,none⟩) lg).trans f5
       have HGI:=Lib.hid g1
       have HME:=Lib.hid hmem
       clear g1 e1 il BX w0 hmem
       obtain ⟨rx,hrx⟩:∃ r,r=rE (.mk k o wd n ks p) 0:=⟨_,rfl⟩
       rw [← hrx] at HCX
       have HRX:=Lib.hid hrx
       clear hrx
       generalize ks.length=m at HCX f4
       have O1:=Own.new wr 59 #[.int .u8 k,.int .u8 o,.int .i64 wd,.string n,.slice a m cap,.int .i64 p]
       have HBW:Hid (Below wr.heap.size wr (wr.alloc (.cells #[.int .u8 k,.int .u8 o,.int .i64 wd,.string n,.slice a m cap,.int .i64 p] 59))):=(Below.refl _ wr).alloc (Nat.le_refl _) _
       have HBA:=Lib.hid (bw_below HB.out HBW.out)
       have HSA:=Lib.hid (HS.out.below HBW.out)
       go_wp2_with (refine ld rowEx rfl rfl rfl O1 rfl ?_)
       go_at_call 57
       refine (HCX.out _ HBA.out.2).mono ?_
       rintro e w3 hh
       rcases hh.cases with ⟨h4,rfl,hb⟩ | ⟨h4,rfl,hb⟩
       rotate_left
       · go_wp2_with fail
         exact ⟨rfl,by rw [and_f HR.out (allE_bad _ HME.out (by rw [← HRX.out];exact h4))];rfl,(bw_below HBA.out hb).2⟩
       have HB2:=Lib.hid (bw_below HBA.out hb)
       have HS2:=Lib.hid (HSA.out.below hb)
       have HX:=Lib.hid h4
       clear hb h4 O1
       go_wp2_with fail
       go_roundg (n3-(i+1)+1)
       case measure=>have:=HM.out;omega
       case rel =>
        refine ⟨i+1,rfl,by omega,by omega,fun j y hj hy=>?_,HB2.out,HS2.out⟩
        by_cases hji:j=i
        · subst hji
          rw [HGI.out] at hy
          obtain rfl:=Option.some.inj hy
          rw [← HRX.out];exact HX.out
        · exact HIN.out j y (by omega) hy
     · have : i = n3 := by omega
       subst this
       have hall:allE es=true:=allE_ok fun x hx=>by
        obtain ⟨j,hj⟩:=List.getElem?_of_mem hx
        have hjl:j<es.length:=(List.getElem?_eq_some_iff.1 hj).1
        exact HIN.out j x (by have:=HN3.out;omega) hj
       replace HR:=Lib.hid (and_t HR.out hall)
       clear hall
       have hwr:=HWR.out
       cases s4 with
       | true =>
         have z3:wr.cell? ⟨g4,3,none⟩=some (.bool true):=by rw [cell_of_row _ _ 3 _ _ _ HS.out];rfl
         have c4:wr.cell? ⟨w.heap.size,4,none⟩=some (.slice a4 n4 c4):=by rw [cell_of_row _ _ 4 _ _ _ HB.out.1];rfl
         go_wp2_with fail
         go_at_call 42
         refine (HNB.out _ HB.out.2).mono ?_
         rintro e w5 hh
         rcases hh.cases with ⟨hx,rfl,hb⟩ | ⟨hx,rfl,hb⟩
         rotate_left
         · go_wp2_with fail
           exact ⟨rfl,by rw [and_f HR.out (by rw [hx];rfl)];rfl,(bw_below HB.out hb).2⟩
         replace HR:=Lib.hid (and_t HR.out (by rw [hx];rfl))
         replace HB:=Lib.hid (bw_below HB.out hb)
         clear hb hx z3 c4
         have c5:w5.cell? ⟨w.heap.size,5,none⟩=some (.slice a5 n5 c5):=by rw [cell_of_row _ _ 5 _ _ _ HB.out.1];rfl
         by_cases q5:0<(n5:Int)
         · go_wp2_with fail
           go_at_call 42
           refine (HNL.out _ HB.out.2).mono ?_
           rintro e w9 hh
           rcases hh.cases with ⟨hx,rfl,hb⟩ | ⟨hx,rfl,hb⟩
           · have hR : R = true := by rw [HR.out, hx]; simp
             have HRR:=Lib.hid hR
             have HB1:=Lib.hid (bw_below HB.out hb)
             clear hb hx hR
             go_wp2_with fail
             exact bodyPost_end (results_none rfl _ _ _) rfl ⟨by rw [HRR.out];rfl,HB1.out.2⟩
           · have hR : R = false := by rw [HR.out, hx, decide_eq_true q5]; rfl
             have HRR:=Lib.hid hR
             clear hR
             go_wp2_with fail
             exact ⟨rfl,by rw [HRR.out];rfl,(bw_below HB.out hb).2⟩
         · have hR : R = true := by rw [HR.out, decide_eq_false q5]; rfl
           have HRR:=Lib.hid hR
           clear hR
           go_wp2_with fail
           exact bodyPost_end (results_none rfl _ _ _) rfl ⟨by rw [HRR.out];rfl,HB.out.2⟩
       | false =>
         replace HR:=Lib.hid (and_t HR.out rfl)
         have z3:wr.cell? ⟨g4,3,none⟩=some (.bool false):=by rw [cell_of_row _ _ 3 _ _ _ HS.out];rfl
         have c5:wr.cell? ⟨w.heap.size,5,none⟩=some (.slice a5 n5 c5):=by rw [cell_of_row _ _ 5 _ _ _ HB.out.1];rfl
         by_cases q5:0<(n5:Int)
         · go_wp2_with fail
           go_at_call 42
           refine (HNL.out _ HB.out.2).mono ?_
           rintro e w9 hh
           rcases hh.cases with ⟨hx,rfl,hb⟩ | ⟨hx,rfl,hb⟩
           · have hR : R = true := by rw [HR.out, hx]; simp
             have HRR:=Lib.hid hR
             have HB1:=Lib.hid (bw_below HB.out hb)
             clear hb hx hR
             go_wp2_with fail
             exact bodyPost_end (results_none rfl _ _ _) rfl ⟨by rw [HRR.out];rfl,HB1.out.2⟩
           · have hR : R = false := by rw [HR.out, hx, decide_eq_true q5]; rfl
             have HRR:=Lib.hid hR
             clear hR
             go_wp2_with fail
             exact ⟨rfl,by rw [HRR.out];rfl,(bw_below HB.out hb).2⟩
         · have hR : R = true := by rw [HR.out, decide_eq_false q5]; rfl
           have HRR:=Lib.hid hR
           clear hR
           go_wp2_with fail
           exact bodyPost_end (results_none rfl _ _ _) rfl ⟨by rw [HRR.out];rfl,HB.out.2⟩
theorem needStmt_any:∀ x:St,NdS x:=by
 intro x
 induction x using St.ind with
 | h k n o e b l ps ihb ihl=>exact p_needStmt _ (p_needBlock ihb) (p_needBlock ihl)
theorem needBlock_any (l:List St):NdB l:=p_needBlock fun x _=>needStmt_any x
end Go.Proofs.YtieeaehabjjaoaaGreatDoor

import Derived.Test.YtbgfkdiihnidaaaGreatDoorQAP
import Derived.Shelf.Strings.Builder1
import Derived.Shelf.Strings.Builder2
import Derived.Shelf.Small.Strs
import Derived.Shelf.Strings.BuilderF
import Derived.Shelf.Strconv.Itoa0
import Derived.Shelf.Strconv.Itoa1
import Derived.Shelf.LaysM
import Derived.Shelf.Strconv.Itoa2
import Derived.Shelf.Strconv.Itoa3
import Derived.Shelf.Strconv.Itoa4
import Derived.Shelf.Strconv.Clone
import Derived.Shelf.Strings.Search1
import Derived.Shelf.Strings.Prefix
import Derived.Shelf.Bits.Mul64
import Derived.Shelf.Strings.Repeat
import Derived.Ground.SlgmProg
import Derived.Shelf.SortM.Plain
import Derived.Shelf.SortM.SortNone
import Derived.Test.YtbgfkdiihnidaaaGreatDoorProg
set_option maxRecDepth 100000
set_option maxHeartbeats 20000000
namespace Go.Proofs.YtbgfkdiihnidaaaGreatDoor
open Go.RowKit
set_option linter.unusedVariables false
set_option maxRecDepth 100000
def shp (k:Int):Bool × Bool × Int × Bool × Bool :=
 if k=1 then (true,false,1,false,false) else if k=2 then (true,true,1,false,false) else if k=3 then (false,false,1,true,true) else if k=4 then (false,false,1,true,false)
 else if k=5 then (true,false,0,true,false) else if k=6 then (false,false,1,false,false) else (false,false,0,false,false)
structure PTab (W:World):Prop where
 size:2<W.heap.size
 cell:∀ k:Int,0<=k->k<8->W.cell? ⟨2,k.toNat*5,none⟩=some (.bool (shp k).1)/\W.cell? ⟨2,k.toNat*5+1,none⟩=some (.bool (shp k).2.1)/\W.cell? ⟨2,k.toNat*5+2,none⟩=some (.int .i64 (shp k).2.2.1)/\W.cell? ⟨2,k.toNat*5+3,none⟩=some (.bool (shp k).2.2.2.1)/\W.cell? ⟨2,k.toNat*5+4,none⟩=some (.bool (shp k).2.2.2.2)
theorem PTab.below {W W':World} {B:Nat} (T:PTab W) (hB:W.heap.size<=B) (h:Below B W W'):PTab W':=by
 have g:=T.size;refine ⟨by have:=h.size;omega,fun k h0 h8=>?_⟩
 obtain ⟨f,b,c,a,d⟩:=T.cell k h0 h8;exact ⟨(h.cell (p:=⟨2,k.toNat*5,none⟩) (by show 2<B;omega)).trans f,(h.cell (p:=⟨2,k.toNat*5+1,none⟩) (by show 2<B;omega)).trans b,(h.cell (p:=⟨2,k.toNat*5+2,none⟩) (by show 2<B;omega)).trans c,(h.cell (p:=⟨2,k.toNat*5+3,none⟩) (by show 2<B;omega)).trans a,(h.cell (p:=⟨2,k.toNat*5+4,none⟩) (by show 2<B;omega)).trans d⟩
def PT (W:World):Prop:=(LNm W/\Tabs W)/\PTab W
theorem PT.below {W W':World} (T:PT W) (h:Below W.heap.size W W'):PT W':=⟨⟨T.1.1.below (Nat.le_refl _) h,T.1.2.below (Nat.le_refl _) h⟩,T.2.below (Nat.le_refl _) h⟩
def allE (l:List Ex):Bool:=l.all fun x=>rE x 0
mutual
def rS:St->Int->Bool
 | .mk k n o e b l _=>fun d=>decide (0<k)&&(decide (k<8)&&(nmB n (shp k).1&&(nmB o (shp k).2.1&&(((e.length:Int)==(shp k).2.2.1)&&(((shp k).2.2.2.1 || ((b.length:Int)==0))&&(((shp k).2.2.2.2 || ((l.length:Int)==0)) &&
  (allE e&&((!(shp k).2.2.2.1 || (decide (d+1<=64)&&rAll b (d+1)))&&(!decide (0<(l.length:Int)) || (decide (d+1<=64)&&rAll l (d+1)))))))))))
def rAll:List St->Int->Bool
 | []=>fun _=>true
 | x::r=>fun d=>rS x d&&rAll r d
end
def rB (l:List St) (d:Int):Bool:=decide (d<=64)&&rAll l d
theorem rAll_bad:∀ {l:List St} {d:Int} (x:St),x∈l->rS x d=false->rAll l d=false
 | y :: r, d, x, hm, h => by
   rcases List.mem_cons.1 hm with rfl | hm
   · simp only [rAll,h,Bool.false_and]
   · simp only [rAll,rAll_bad x hm h,Bool.and_false]
theorem rAll_ok:∀ {l:List St} {d:Int},(∀ x∈l,rS x d=true)->rAll l d=true
 | [],d,_=>by simp only [rAll]
 | y::r,d,h=>by simp only [rAll,h y (.head _),rAll_ok fun x hx=>h x (.tail _ hx),Bool.and_self]
theorem allE_bad {l:List Ex} (x:Ex) (hm:x∈l) (h:rE x 0=false):allE l=false:=by
 unfold allE;rw [<- Bool.not_eq_true,List.all_eq_true];intro a;rw [a x hm] at h;cases h
theorem allE_ok {l:List Ex} (h:∀ x∈l,rE x 0=true):allE l=true:=List.all_eq_true.2 h
mutual
def rgS:St->Prop
 | .mk k _ _ e b l _=>(0<=k/\k<=255)/\rgEs e/\rgSs b/\rgSs l
def rgSs:List St->Prop
 | []=>True
 | x::r=>rgS x/\rgSs r
end
theorem rgSs_mem:∀ {l:List St},rgSs l->∀ x∈l,rgS x
 | [],_,x,hx=>by simp at hx
 | y :: r, h, x, hx => by
   rcases List.mem_cons.1 hx with rfl | hx
   · exact h.1
   · exact rgSs_mem h.2 x hx
theorem and_t {R a b:Bool} (h:R=(a&&b)) (ha:a=true):R=b:=by subst ha;exact h
theorem and_f {R a b:Bool} (h:R=(a&&b)) (ha:a=false):R=false:=by subst ha;exact h
def NdS (x:St):Prop:=okS x->rgS x->∀ (a3 a4 a5:Option Addr) (c3 c4 c5:Nat) (w:World) (d:Int),exsAt (fun _=>True) w x.e a3->stsAt (fun _=>True) w x.body a4->stsAt (fun _=>True) w x.els a5->PT w->0<=d->d<=4611686018427387904->Calls Tryz.prog 106 #[.agg (stCells x a3 c3 a4 c4 a5 c5).toArray,.int .i64 d] w (NdP w (rS x d))
def NdB (l:List St):Prop:=okSs l->l.length<=9223372036854775807->rgSs l->∀ (a:Option Addr) (c:Nat) (w:World) (d:Int),stsAt (fun _=>True) w l a->PT w->0<=d->d<=4611686018427387904->Calls Tryz.prog 45 #[.slice a l.length c,.int .i64 d] w (NdP w (rB l d))
theorem p_needBlock {l:List St} (HI:∀ x∈l,NdS x):NdB l:=by
 intro B I G a c w d h1 TT K J;have an:Hid (∀ b W,Calls Tryz.prog 43 #[.bool b] W (NdP W b)):=fun b W=>p_need b W
 have HI:=Hd HI;have HO:=Hd B;have HG:=Hd G;have E1:=Hd h1;have HT:=Hd TT;have HD:=Hd (And.intro K J);obtain ⟨n,hn⟩:=Qx l.length;rw [<- hn] at I ⊢;have HN:=Hd hn;clear B G h1 TT hn K J;obtain ⟨R,v⟩:=Qx (rB l d);rw [<- v];have HR:=Hd v;clear v;go_enter Tryz.func45,Tryz.ntmps45;go_wp2_with fail;go_at_call 43;refine (an.out _ _).mono ?_;rintro e w1 hh;rcases hh.cases with ⟨Q,rfl,p⟩ | ⟨Q,rfl,p⟩
 rotate_left
 · go_wp2_with fail
   exact ⟨rfl,by rw [HR.out];unfold rB;rw [Q];rfl,p⟩
 have af:=Hd Q;have F:=Hd p;clear p Q;go_wp2_with fail;go_loopg [11] (n+1) (fun m' u W=>∃ i:Nat,u=.int .i64 (i:Int)/\i<=n/\m'=n-i+1/\(∀ j y,j<i->l[j]? = some y->rS y d=true)/\Below w.heap.size w W)
 case atStart=>exact ⟨0,rfl,Nat.zero_le _,by omega,fun j y h=>by omega,F.out⟩
 case round =>
  clear F;obtain ⟨i,rfl,hi,hm,hI,H⟩:=hrel;have HM:=Hd hm;have z:=Hd hI;have V:=Hd H;clear hm hI H;by_cases hin:i<n
  · have L : i < l.length := by have := HN.out; omega
    have T:l[i]? = some l[i]:=List.getElem?_eq_getElem L;have f:l[i]∈l:=List.getElem_mem L;generalize l[i]=x at T f;rcases E1.out with e | ⟨g,q,e,_,e1⟩
    · cases l with
      | nil=>simp at L
      | cons=>cases e
    obtain rfl:a=some ⟨g,q,none⟩:=e;have x1:=stsIn_get i x e1 T;obtain ⟨k,A,C,Y,N,S,D⟩:=x;obtain ⟨f0,f1,f2,⟨P,O,f3,w0⟩,⟨X,Z,f4,w1⟩,⟨M,c5,f5,w2⟩,f6⟩:=x1;have r:=lt_of_at f0;simp only at r;have a8:(i:Int)<(n:Int):=by omega
    have m:Hid (∀ W,Below w.heap.size w W->Calls Tryz.prog 106 #[.agg #[.int .u8 k,.string A,.string C,.slice P Y.length O,.slice X N.length Z,.slice M S.length c5,.int .i64 D],.int .i64 d] W (NdP W (rS (.mk k A C Y N S D) d))):=fun W hW =>
     HI.out _ f (okSs_mem HO.out _ f) (rgSs_mem HG.out _ f) P X M O Z c5 W d (exsAt_below w0 hW) (stsAt_below w1 hW) (stsAt_below w2 hW) (HT.out.below hW) HD.out.1 HD.out.2
    have s:=V.out;have f0:=cb s r f0;have f1:=cb s r f1;have f2:=cb s r f2;have f3:=cb s r f3;have f4:=cb s r f4;have f5:=cb s r f5;have f6:=cb s r f6;have aj:=Hd T;have ae:=Hd f;clear T e1 L s w0 w1 w2 f;obtain ⟨rx,t⟩:=Qx (rS (.mk k A C Y N S D) d);rw [<- t] at m;have E:=Hd t;clear t;generalize Y.length=n5 at m f3;generalize N.length=n6 at m f4;generalize S.length=n7 at m f5;have O1:=Own.new wr 120 #[.int .u8 k,.string A,.string C,.slice P n5 O,.slice X n6 Z,.slice M n7 c5,.int .i64 D];have ac:Hid (Below wr.heap.size wr (wr.alloc (.cells #[.int .u8 k,.string A,.string C,.slice P n5 O,.slice X n6 Z,.slice M n7 c5,.int .i64 D] 120))):=(Below.refl _ wr).alloc (Nat.le_refl _) _;have o:=Hd (V.out.trans (ac.out.mono V.out.size));go_wp2_with (refine ld rowSt rfl rfl rfl O1 rfl ?_);go_at_call 106;refine (m.out _ o.out).mono ?_;rintro e w3 hh;rcases hh.cases with ⟨U,rfl,p⟩ | ⟨U,rfl,p⟩
    rotate_left
    · go_wp2_with fail
      exact ⟨rfl,by rw [HR.out];unfold rB;rw [rAll_bad _ ae.out (by rw [<- E.out];exact U),Bool.and_false];rfl,o.out.trans (p.mono o.out.size)⟩
    have ap:=Hd (o.out.trans (p.mono o.out.size));have HX:=Hd U;clear p U O1;go_wp2_with fail;go_roundg (n-(i+1)+1)
    case measure=>have:=HM.out;omega
    case rel =>
     refine ⟨i+1,rfl,by omega,by omega,fun j y hj hy=>?_,ap.out⟩
     by_cases hji:j=i
     · subst hji
       rw [aj.out] at hy;obtain rfl:=Option.some.inj hy;rw [<- E.out];exact HX.out
     · exact z.out j y (by omega) hy
  · have : i = n := by omega
    subst this;have v:R=true:=by
     rw [HR.out];unfold rB;rw [af.out,rAll_ok fun x hx=>?_]
     · rfl
     · obtain ⟨j, hj⟩ := List.getElem?_of_mem hx
       have be:j<l.length:=(List.getElem?_eq_some_iff.1 hj).1;exact z.out j x (by have:=HN.out;omega) hj
    have ao:=Hd v;clear v;go_wp2_with fail;exact bodyPost_end (results_none rfl _ _ _) rfl ⟨by rw [ao.out];rfl,V.out⟩
theorem nd_deep {l:List St} {a:Option Addr} {n c:Nat} {W:World} {d:Int} (h:¬ d<=64):Calls Tryz.prog 45 #[.slice a n c,.int .i64 d] W (NdP W (rB l d)):=by
 have j:rB l d=false:=by unfold rB;rw [decide_eq_false h];rfl
 rw [j];have m:decide (d<=64)=false:=decide_eq_false h;have f:Hid (∀ b W,Calls Tryz.prog 43 #[.bool b] W (NdP W b)):=fun b W=>p_need b W
 go_enter Tryz.func45,Tryz.ntmps45;go_wp2_with fail;go_at_call 43;refine (f.out _ _).mono ?_;rintro e k g;obtain ⟨rfl,i⟩:=g.bad rfl;go_wp2_with fail;exact ⟨rfl,rfl,i⟩
theorem p_needStmt (x:St) (HNB0:NdB x.body) (HNL0:NdB x.els):NdS x:=by
 intro bp bu T P M L K I w d h3 h4 h5 TT b1 bz;obtain ⟨k,Q,S,F,bo,X,ps⟩:=x;obtain ⟨⟨l3,o3⟩,⟨l4,o4⟩,l5,o5⟩:=bp;obtain ⟨hk,r3,r4,r5⟩:=bu;change Calls _ _ #[.agg #[.int .u8 k,.string Q,.string S,.slice T F.length L,.slice P bo.length K,.slice M X.length I,.int .i64 ps],_] w _;have E:Hid (∀ b W,Calls Tryz.prog 43 #[.bool b] W (NdP W b)):=fun b W=>p_need b W
 have a8:Hid (∀ n b W,Below w.heap.size w W->Calls Tryz.prog 152 #[.string n,.bool b] W (NdP W (nmB n b))):=fun n b W c=>p_needName n b W (TT.below c).1.1
 have HE:Hid (∀ (y:Ex) W v,y∈F->Below w.heap.size w W->exA W y v->Calls Tryz.prog 153 #[v,.int .i64 0] W (NdP W (rE y 0))):=fun y W v hm c hv=>needExpr_any y (rgEs_mem r3 y hm) v W 0 hv ⟨(TT.below c).1.1,(TT.below c).1.2⟩ (by omega) (by omega)
 have ah:Hid (∀ W,Below w.heap.size w W->Calls Tryz.prog 45 #[.slice P bo.length K,.int .i64 (d+1)] W (NdP W (rB bo (d+1)))):=fun W c=>by
  by_cases hd:d+1<=4611686018427387904
  · exact HNB0 o4 l4 r4 P K W (d+1) (stsAt_below h4 c) (TT.below c) (by omega) hd
  · exact nd_deep (by omega)
 have Z:Hid (∀ W,Below w.heap.size w W->Calls Tryz.prog 45 #[.slice M X.length I,.int .i64 (d+1)] W (NdP W (rB X (d+1)))):=fun W c=>by
  by_cases hd:d+1<=4611686018427387904
  · exact HNL0 o5 l5 r5 M I W (d+1) (stsAt_below h5 c) (TT.below c) (by omega) hd
  · exact nd_deep (by omega)
 obtain ⟨s,rfl⟩:=Int.eq_ofNat_of_zero_le hk.1;have ab:Hid (∀ W,Below w.heap.size w W->(s:Int)<8->W.cell? ⟨2,s*5,none⟩=some (.bool (shp s).1)/\W.cell? ⟨2,s*5+1,none⟩=some (.bool (shp s).2.1)/\W.cell? ⟨2,s*5+2,none⟩=some (.int .i64 (shp s).2.2.1)/\W.cell? ⟨2,s*5+3,none⟩=some (.bool (shp s).2.2.2.1)/\W.cell? ⟨2,s*5+4,none⟩=some (.bool (shp s).2.2.2.2)):=fun W c h8=>(TT.below c).2.cell s (by omega) h8
 have E1:=Hd h3;have bn:Hid (IntKind.i64.wrap (d+1)=d+1):=IntWalk.i64_in _ (by omega)
 obtain ⟨R,C⟩:=Qx (rS (.mk s Q S F bo X ps) d);rw [<- C]
 have r:Hid (R=(decide (0<(s:Int))&&(decide ((s:Int)<8)&&(nmB Q (shp s).1&&(nmB S (shp s).2.1&&(((F.length:Int)==(shp s).2.2.1)&&(((shp s).2.2.2.1 || ((bo.length:Int)==0))&&(((shp s).2.2.2.2 || ((X.length:Int)==0)) &&
  (allE F&&((!(shp s).2.2.2.1 || rB bo (d+1))&&(!decide (0<(X.length:Int)) || rB X (d+1)))))))))))):=by rw [Hid,C];unfold rS rB;rfl
 obtain ⟨sh,az⟩:=Qx (shp s);rw [<- az] at ab r;clear az;obtain ⟨s1,s2,s3,s4,s5⟩:=sh;simp only at ab r;obtain ⟨G,Y⟩:=Qx F.length;obtain ⟨V,av⟩:=Qx bo.length;obtain ⟨N,an⟩:=Qx X.length;rw [<- av] at ah;rw [<- an] at Z;rw [<- Y,<- av,<- an] at r ⊢;rw [<- Y] at l3;generalize rB bo (d+1)=rb at ah r;generalize rB X (d+1)=rl at Z r;have bh:=Hd Y;clear HNB0 HNL0 l4 l5 o3 o4 o5 r3 r4 r5 h3 h4 h5 TT b1 bz C Y av an;have cm:=l3;clear l3;have f:=Hd (bw_new w 120 #[.int .u8 (s:Int),.string Q,.string S,.slice T G L,.slice P V K,.slice M N I,.int .i64 ps])
 obtain ⟨W0,ao⟩:=Qx (w.alloc (.cells #[.int .u8 (s:Int),.string Q,.string S,.slice T G L,.slice P V K,.slice M N I,.int .i64 ps] 120));rw [<- ao] at f;have a6:=Hd ao;clear ao;go_enter Tryz.func106,Tryz.ntmps106;go_upto_region 1 with (fail)
 rw [<- a6.out];clear a6;go_cut [] (fun wx=>(decide (0<(s:Int))=true/\decide ((s:Int)<8)=true)/\Bw w 120 #[.int .u8 (s:Int),.string Q,.string S,.slice T G L,.slice P V K,.slice M N I,.int .i64 ps] wx)
 case first =>
  have c0:W0.cell? ⟨w.heap.size,0,none⟩=some (.int .u8 (s:Int)):=cr f.out.1;by_cases q1:0<(s:Int)
  · by_cases q2 : (s : Int) < 8
    · go_wp2_with fail
      go_at_call 43;refine (E.out _ _).mono ?_;rintro e w1 t;obtain ⟨rfl,c⟩:=t.ok rfl;have z:=Hd (bw_below f.out c);clear c;go_wp2_with fail;go_meet;exact ⟨⟨decide_eq_true q1,decide_eq_true q2⟩,z.out⟩
    · go_wp2_with fail
      go_at_call 43;refine (E.out _ _).mono ?_;rintro e w1 t;obtain ⟨rfl,c⟩:=t.bad rfl;go_wp2_with fail;exact ⟨rfl,by rw [and_f (and_t r.out (decide_eq_true q1)) (decide_eq_false (by omega))];rfl,(bw_below f.out c).2⟩
  · go_wp2_with fail
    go_at_call 43;refine (E.out _ _).mono ?_;rintro e w1 t;obtain ⟨rfl,c⟩:=t.bad rfl;go_wp2_with fail;exact ⟨rfl,by rw [and_f r.out (decide_eq_false (by omega))];rfl,(bw_below f.out c).2⟩
 case rest =>
  obtain ⟨⟨q1,q2⟩,D⟩:=hcut;replace r:=Hd (and_t (and_t r.out q1) q2);replace f:=Hd D;have q8:(s:Int)<8:=of_decide_eq_true q2;have q9:s<8:=by omega
  obtain ⟨p0,p1,p2,p3,p4⟩:=ab.out _ f.out.2 q8;clear q1 q2 D ab;have c0:wc.cell? ⟨w.heap.size,0,none⟩=some (.int .u8 (s:Int)):=cr f.out.1;have A:=Hd (Own.new wc 197 #[.bool s1,.bool s2,.int .i64 s3,.bool s4,.bool s5]);have bf:Below wc.heap.size wc (wc.alloc (.cells #[.bool s1,.bool s2,.int .i64 s3,.bool s4,.bool s5] 197)):=(Below.refl _ wc).alloc (Nat.le_refl _) _;have au:=bw_below f.out bf;go_upto_region 3 with (fail)
  obtain ⟨O,bc⟩:=Qx wc.heap.size;obtain ⟨W2,bd⟩:=Qx (wc.alloc (.cells #[.bool s1,.bool s2,.int .i64 s3,.bool s4,.bool s5] 197));rw [<- bd] at au A ⊢;rw [<- bc] at A ⊢;replace f:=Hd au;clear bd bc au bf p0 p1 p2 p3 p4 c0;have c1:W2.cell? ⟨w.heap.size,1,none⟩=some (.string Q):=cr f.out.1;have z0:W2.cell? ⟨O,0,none⟩=some (.bool s1):=cr A.out;go_wp2_with fail;go_at_call 152;refine (a8.out _ _ _ f.out.2).mono ?_;rintro e w3 t;rcases t.cases with ⟨l,rfl,c⟩ | ⟨l,rfl,c⟩
  rotate_left
  · go_wp2_with fail
    exact ⟨rfl,by rw [and_f r.out l];rfl,(bw_below f.out c).2⟩
  replace r:=Hd (and_t r.out l);replace f:=Hd (bw_below f.out c);replace A:=Hd (A.out.below c);clear c l c1 z0;have c2:w3.cell? ⟨w.heap.size,2,none⟩=some (.string S):=cr f.out.1;have z1:w3.cell? ⟨O,1,none⟩=some (.bool s2):=cr A.out;go_wp2_with fail;go_at_call 152;refine (a8.out _ _ _ f.out.2).mono ?_;rintro e w4 t;rcases t.cases with ⟨l,rfl,c⟩ | ⟨l,rfl,c⟩
  rotate_left
  · go_wp2_with fail
    exact ⟨rfl,by rw [and_f r.out l];rfl,(bw_below f.out c).2⟩
  replace r:=Hd (and_t r.out l);replace f:=Hd (bw_below f.out c);replace A:=Hd (A.out.below c);clear c l c2 z1;have L:w4.cell? ⟨w.heap.size,3,none⟩=some (.slice T G L):=cr f.out.1;have z2:w4.cell? ⟨O,2,none⟩=some (.int .i64 s3):=cr A.out;go_wp2_with fail;go_at_call 43;refine (E.out _ _).mono ?_;rintro e w5 t;rcases t.cases with ⟨l,rfl,c⟩ | ⟨l,rfl,c⟩
  rotate_left
  · go_wp2_with fail
    exact ⟨rfl,by rw [and_f r.out l];rfl,(bw_below f.out c).2⟩
  replace r:=Hd (and_t r.out l);replace f:=Hd (bw_below f.out c);replace A:=Hd (A.out.below c);clear c l L z2;go_upto_region 6 with (fail)
  go_cut [] (fun wx=>(s4 || ((V:Int)==0))=true/\Bw w 120 #[.int .u8 (s:Int),.string Q,.string S,.slice T G L,.slice P V K,.slice M N I,.int .i64 ps] wx/\Own wx O 197 #[.bool s1,.bool s2,.int .i64 s3,.bool s4,.bool s5])
  case first =>
   have K:w5.cell? ⟨w.heap.size,4,none⟩=some (.slice P V K):=cr f.out.1;cases s4 with
   | true =>
     have z3:w5.cell? ⟨O,3,none⟩=some (.bool true):=cr A.out;go_wp2_with fail;go_at_call 43;refine (E.out _ _).mono ?_;rintro e w1 t;obtain ⟨rfl,c⟩:=t.ok rfl;have z:=Hd (bw_below f.out c);have H:=Hd (A.out.below c);clear c;go_wp2_with fail;go_meet;exact ⟨rfl,z.out,H.out⟩
   | false =>
     have z3:w5.cell? ⟨O,3,none⟩=some (.bool false):=cr A.out;go_wp2_with fail;go_at_call 43;refine (E.out _ _).mono ?_;rintro e w1 t;rcases t.cases with ⟨l,rfl,c⟩ | ⟨l,rfl,c⟩
     · have z := Hd (bw_below f.out c)
       have H:=Hd (A.out.below c);have HX:=Hd l;clear c l;go_wp2_with fail;go_meet;exact ⟨HX.out,z.out,H.out⟩
     · go_wp2_with fail
       exact ⟨rfl,by rw [and_f r.out l];rfl,(bw_below f.out c).2⟩
  case rest =>
   obtain ⟨l,D,hs⟩:=hcut;replace r:=Hd (and_t r.out l);replace f:=Hd D;replace A:=Hd hs;clear l D hs;go_upto_region 7 with (fail)
   go_cut [] (fun wx=>(s5 || ((N:Int)==0))=true/\Bw w 120 #[.int .u8 (s:Int),.string Q,.string S,.slice T G L,.slice P V K,.slice M N I,.int .i64 ps] wx/\Own wx O 197 #[.bool s1,.bool s2,.int .i64 s3,.bool s4,.bool s5])
   case first =>
    have I:wc.cell? ⟨w.heap.size,5,none⟩=some (.slice M N I):=cr f.out.1;cases s5 with
    | true =>
      have z4:wc.cell? ⟨O,4,none⟩=some (.bool true):=cr A.out;go_wp2_with fail;go_at_call 43;refine (E.out _ _).mono ?_;rintro e w1 t;obtain ⟨rfl,c⟩:=t.ok rfl;have z:=Hd (bw_below f.out c);have H:=Hd (A.out.below c);clear c;go_wp2_with fail;go_meet;exact ⟨rfl,z.out,H.out⟩
    | false =>
      have z4:wc.cell? ⟨O,4,none⟩=some (.bool false):=cr A.out;go_wp2_with fail;go_at_call 43;refine (E.out _ _).mono ?_;rintro e w1 t;rcases t.cases with ⟨l,rfl,c⟩ | ⟨l,rfl,c⟩
      · have z := Hd (bw_below f.out c)
        have H:=Hd (A.out.below c);have HX:=Hd l;clear c l;go_wp2_with fail;go_meet;exact ⟨HX.out,z.out,H.out⟩
      · go_wp2_with fail
        exact ⟨rfl,by rw [and_f r.out l];rfl,(bw_below f.out c).2⟩
   case rest =>
    obtain ⟨l,D,hs⟩:=hcut;replace r:=Hd (and_t r.out l);replace f:=Hd D;replace A:=Hd hs;clear l D hs;have L:wc.cell? ⟨w.heap.size,3,none⟩=some (.slice T G L):=cr f.out.1;go_wp2_with fail;clear L;go_loopg [58] (G+1) (fun m' u W=>∃ i:Nat,u=.int .i64 (i:Int)/\i<=G/\m'=G-i+1/\(∀ j y,j<i->F[j]? = some y->rE y 0=true)/\Bw w 120 #[.int .u8 (s:Int),.string Q,.string S,.slice T G L,.slice P V K,.slice M N I,.int .i64 ps] W/\Own W O 197 #[.bool s1,.bool s2,.int .i64 s3,.bool s4,.bool s5])
    case atStart=>exact ⟨0,rfl,Nat.zero_le _,by omega,fun j y h=>by omega,f.out,A.out⟩
    case round =>
     clear f A;obtain ⟨i,rfl,hi,hm,hI,be,bg⟩:=hrel;have HM:=Hd hm;have a0:=Hd hI;have f:=Hd be;have A:=Hd bg;clear hm hI be bg;by_cases hin:i<G
     · have il : i < F.length := by have := bh.out; omega
       have g1:F[i]? = some F[i]:=List.getElem?_eq_getElem il;have J:F[i]∈F:=List.getElem_mem il;generalize F[i]=x at g1 J;rcases E1.out with e | ⟨g,q,e,_,e1⟩
       · cases F with
         | nil=>simp at il
         | cons=>cases e
       obtain rfl:T=some ⟨g,q,none⟩:=e;have x1:=exsIn_get i x e1 g1;obtain ⟨k,o,wd,n,ks,p⟩:=x;obtain ⟨f0,f1,f2,f3,⟨a,U,f4,w0⟩,f5⟩:=x1;have lg:=lt_of_at f0;simp only at lg;have cq:(i:Int)<(G:Int):=by omega
       have am:Hid (∀ W,Below w.heap.size w W->Calls Tryz.prog 153 #[.agg #[.int .u8 k,.int .u8 o,.int .i64 wd,.string n,.slice a ks.length U,.int .i64 p],.int .i64 0] W (NdP W (rE (.mk k o wd n ks p) 0))):=fun W hW=>HE.out _ W _ J hW ⟨a,U,rfl,exsAt_below w0 hW⟩
       have BX:=f.out.2;have f0:=cb BX lg f0;have f1:=cb BX lg f1;have f2:=cb BX lg f2;have f3:=cb BX lg f3;have f4:=cb BX lg f4;have f5:=cb BX lg f5;have bv:=Hd g1;have bs:=Hd J;clear g1 e1 il BX w0 J;obtain ⟨rx,al⟩:=Qx (rE (.mk k o wd n ks p) 0);rw [<- al] at am;have ba:=Hd al;clear al;generalize ks.length=m at am f4;have O1:=Own.new wr 167 #[.int .u8 k,.int .u8 o,.int .i64 wd,.string n,.slice a m U,.int .i64 p];have a2:Hid (Below wr.heap.size wr (wr.alloc (.cells #[.int .u8 k,.int .u8 o,.int .i64 wd,.string n,.slice a m U,.int .i64 p] 167))):=(Below.refl _ wr).alloc (Nat.le_refl _) _;have ar:=Hd (bw_below f.out a2.out);have b0:=Hd (A.out.below a2.out);go_wp2_with (refine ld rowEx rfl rfl rfl O1 rfl ?_);go_at_call 153;refine (am.out _ ar.out.2).mono ?_;rintro e w3 t;rcases t.cases with ⟨h4,rfl,c⟩ | ⟨h4,rfl,c⟩
       rotate_left
       · go_wp2_with fail
         exact ⟨rfl,by rw [and_f r.out (allE_bad _ bs.out (by rw [<- ba.out];exact h4))];rfl,(bw_below ar.out c).2⟩
       have b3:=Hd (bw_below ar.out c);have bq:=Hd (b0.out.below c);have HX:=Hd h4;clear c h4 O1;go_wp2_with fail;go_roundg (G-(i+1)+1)
       case measure=>have:=HM.out;omega
       case rel =>
        refine ⟨i+1,rfl,by omega,by omega,fun j y hj hy=>?_,b3.out,bq.out⟩
        by_cases hji:j=i
        · subst hji
          rw [bv.out] at hy;obtain rfl:=Option.some.inj hy;rw [<- ba.out];exact HX.out
        · exact a0.out j y (by omega) hy
     · have : i = G := by omega
       subst this;have ae:allE F=true:=allE_ok fun x l=>by
        obtain ⟨j,hj⟩:=List.getElem?_of_mem l;have de:j<F.length:=(List.getElem?_eq_some_iff.1 hj).1;exact a0.out j x (by have:=bh.out;omega) hj
       replace r:=Hd (and_t r.out ae);clear ae;have cy:=bn.out;cases s4 with
       | true =>
         have z3:wr.cell? ⟨O,3,none⟩=some (.bool true):=cr A.out;have K:wr.cell? ⟨w.heap.size,4,none⟩=some (.slice P V K):=cr f.out.1;go_wp2_with fail;go_at_call 45;refine (ah.out _ f.out.2).mono ?_;rintro e w5 t;rcases t.cases with ⟨l,rfl,c⟩ | ⟨l,rfl,c⟩
         rotate_left
         · go_wp2_with fail
           exact ⟨rfl,by rw [and_f r.out (by rw [l];rfl)];rfl,(bw_below f.out c).2⟩
         replace r:=Hd (and_t r.out (by rw [l];rfl))
         replace f:=Hd (bw_below f.out c);clear c l z3 K;have I:w5.cell? ⟨w.heap.size,5,none⟩=some (.slice M N I):=cr f.out.1;by_cases q5:0<(N:Int)
         · go_wp2_with fail
           go_at_call 45;refine (Z.out _ f.out.2).mono ?_;rintro e w9 t;rcases t.cases with ⟨l,rfl,c⟩ | ⟨l,rfl,c⟩
           · have C : R = true := by rw [r.out, l]; simp
             have B:=Hd C;have z:=Hd (bw_below f.out c);clear c l C;go_wp2_with fail;exact bodyPost_end (results_none rfl _ _ _) rfl ⟨by rw [B.out];rfl,z.out.2⟩
           · have C : R = false := by rw [r.out, l, decide_eq_true q5]; rfl
             have B:=Hd C;clear C;go_wp2_with fail;exact ⟨rfl,by rw [B.out];rfl,(bw_below f.out c).2⟩
         · have C : R = true := by rw [r.out, decide_eq_false q5]; rfl
           have B:=Hd C;clear C;go_wp2_with fail;exact bodyPost_end (results_none rfl _ _ _) rfl ⟨by rw [B.out];rfl,f.out.2⟩
       | false =>
         replace r:=Hd (and_t r.out rfl);have z3:wr.cell? ⟨O,3,none⟩=some (.bool false):=cr A.out;have I:wr.cell? ⟨w.heap.size,5,none⟩=some (.slice M N I):=cr f.out.1;by_cases q5:0<(N:Int)
         · go_wp2_with fail
           go_at_call 45;refine (Z.out _ f.out.2).mono ?_;rintro e w9 t;rcases t.cases with ⟨l,rfl,c⟩ | ⟨l,rfl,c⟩
           · have C : R = true := by rw [r.out, l]; simp
             have B:=Hd C;have z:=Hd (bw_below f.out c);clear c l C;go_wp2_with fail;exact bodyPost_end (results_none rfl _ _ _) rfl ⟨by rw [B.out];rfl,z.out.2⟩
           · have C : R = false := by rw [r.out, l, decide_eq_true q5]; rfl
             have B:=Hd C;clear C;go_wp2_with fail;exact ⟨rfl,by rw [B.out];rfl,(bw_below f.out c).2⟩
         · have C : R = true := by rw [r.out, decide_eq_false q5]; rfl
           have B:=Hd C;clear C;go_wp2_with fail;exact bodyPost_end (results_none rfl _ _ _) rfl ⟨by rw [B.out];rfl,f.out.2⟩
theorem needStmt_any:∀ x:St,NdS x:=by
 intro x;induction x using St.ind with
 | h k n o e b l ps ihb ihl=>exact p_needStmt _ (p_needBlock ihb) (p_needBlock ihl)
theorem needBlock_any (l:List St):NdB l:=p_needBlock fun x _=>needStmt_any x
open Go.RowKit
set_option linter.unusedVariables false
set_option maxRecDepth 100000
def bareB (l:List Dc):Bool:=l.all fun d=>nameB d.name&&d.wd==0
def sharedB (l:List Dc):Bool:=l.all fun d=>nameB d.name&&decide (-9223372036854775808<d.wd)
def thB (t:Th):Bool:=nameB t.name&&(bareB t.locals&&rB t.body 1)
def rP (p:Pg):Bool:=sharedB p.shared&&(bareB p.locks&&p.threads.all thB)
theorem all_bad {α:Type} {f:α->Bool} {l:List α} (x:α) (hm:x∈l) (h:f x=false):l.all f=false:=by
 rw [<- Bool.not_eq_true,List.all_eq_true];intro a;rw [a x hm] at h;cases h
theorem all_ok {α:Type} {f:α->Bool} {l:List α} (h:∀ (j:Nat) (y:α),j<l.length->l[j]? = some y->f y=true):l.all f=true:=List.all_eq_true.2 fun x hx=>by
 obtain ⟨j,hj⟩:=List.getElem?_of_mem hx
 exact h j x (List.getElem?_eq_some_iff.1 hj).1 hj
def rgT (t:Th):Prop:=rgSs t.body
def rgP (p:Pg):Prop:=∀ t∈p.threads,rgT t
theorem p_needBare (l:List Dc) (hlen:l.length<=9223372036854775807) (a:Option Addr) (c:Nat) (w:World) (h1:dcsAt (fun _=>True) w l a) (TT:LNm w):Calls Tryz.prog 44 #[.slice a l.length c] w (NdP w (bareB l)):=by
 have s:Hid (∀ b W,Calls Tryz.prog 43 #[.bool b] W (NdP W b)):=fun b W=>p_need b W
 have N:Hid (∀ n W,Below w.heap.size w W->Calls Tryz.prog 26 #[.string n] W fun e w'=>e=.returned (.bool (nameB n))/\W=w'):=fun n W m=>isname_any n W (TT.below (Nat.le_refl _) m)
 have E1:=Hd h1;obtain ⟨n,H⟩:=Qx l.length;rw [<- H] at hlen ⊢;have U:=Hd H;clear h1 TT H;obtain ⟨R,p⟩:=Qx (bareB l);rw [<- p];have L:=Hd p;clear p;go_enter Tryz.func44,Tryz.ntmps44;go_wp2_with fail;go_loopg [6] (n+1) (fun m' u W=>∃ i:Nat,u=.int .i64 (i:Int)/\i<=n/\m'=n-i+1/\(∀ j y,j<i->l[j]? = some y->(nameB y.name&&y.wd==0)=true)/\Below w.heap.size w W)
 case atStart=>exact ⟨0,rfl,Nat.zero_le _,by omega,fun j y h=>by omega,Below.refl _ w⟩
 case round =>
  obtain ⟨i,rfl,hi,T,X,t⟩:=hrel;have HM:=Hd T;have r:=Hd X;have D:=Hd t;clear T X t;by_cases hin:i<n
  · have A : i < l.length := by have := U.out; omega
    have B:l[i]? = some l[i]:=List.getElem?_eq_getElem A;have k:l[i]∈l:=List.getElem_mem A;generalize l[i]=x at B k;rcases E1.out with e | ⟨g,q,e,_,S⟩
    · cases l with
      | nil=>simp at A
      | cons=>cases e
    obtain rfl:a=some ⟨g,q,none⟩:=e;have x1:=dcsIn_get i x S B;obtain ⟨o,wd,F⟩:=x;obtain ⟨P,Y,Q⟩:=x1;have E:=lt_of_at P;simp only at E;have V:(i:Int)<(n:Int):=by omega
    have G:=D.out;have P:=cb G E P;have Y:=cb G E Y;have Q:=cb G E Q;have J:=Hd B;have v:=Hd k;clear B S A G k;have O1:=Own.new wr 61 #[.string o,.int .i64 wd,.int .i64 F];have M:Hid (Below wr.heap.size wr (wr.alloc (.cells #[.string o,.int .i64 wd,.int .i64 F] 61))):=(Below.refl _ wr).alloc (Nat.le_refl _) _;have d:=Hd (D.out.trans (M.out.mono D.out.size));have y0:(wr.alloc (.cells #[.string o,.int .i64 wd,.int .i64 F] 61)).cell? ⟨wr.heap.size,0,none⟩=some (.string o):=cr O1;have y1:(wr.alloc (.cells #[.string o,.int .i64 wd,.int .i64 F] 61)).cell? ⟨wr.heap.size,1,none⟩=some (.int .i64 wd):=cr O1;have f:=N.out o;cases hq:nameB o with
    | false =>
      rw [hq] at f;replace f:=Hd f;have z:=Hd hq;clear hq;go_wp2_with (first | (go_at_call 26;refine (f.out _ d.out).mono ?_;rintro e Z ⟨rfl,rfl⟩))
      go_at_call 43;refine (s.out _ _).mono ?_;rintro e w3 I;obtain ⟨rfl,m⟩:=I.bad rfl;go_wp2_with fail;exact ⟨rfl,by rw [L.out];unfold bareB;rw [all_bad _ v.out (by simp only [z.out,Bool.false_and])];rfl,d.out.trans (m.mono d.out.size)⟩
    | true =>
      rw [hq] at f;replace f:=Hd f;have z:=Hd hq;clear hq;go_wp2_with (first | (go_at_call 26;refine (f.out _ d.out).mono ?_;rintro e Z ⟨rfl,rfl⟩))
      go_at_call 43;refine (s.out _ _).mono ?_;rintro e w3 I;rcases I.cases with ⟨C,rfl,m⟩ | ⟨C,rfl,m⟩
      rotate_left
      · go_wp2_with fail
        exact ⟨rfl,by rw [L.out];unfold bareB;rw [all_bad _ v.out (by simp only [z.out,C,Bool.and_false])];rfl,d.out.trans (m.mono d.out.size)⟩
      have O:=Hd (d.out.trans (m.mono d.out.size));have HX:Hid ((nameB o&&wd==0)=true):=by rw [Hid,z.out,C];rfl
      clear m C O1 y0 y1;go_wp2_with fail;go_roundg (n-(i+1)+1)
      case measure=>have:=HM.out;omega
      case rel =>
       refine ⟨i+1,rfl,by omega,by omega,fun j y hj hy=>?_,O.out⟩
       by_cases hji:j=i
       · subst hji
         rw [J.out] at hy;obtain rfl:=Option.some.inj hy;exact HX.out
       · exact r.out j y (by omega) hy
  · have : i = n := by omega
    subst this;have p:R=true:=by
     rw [L.out];exact all_ok fun j y hj hy=>r.out j y (by have:=U.out;omega) hy
    have K:=Hd p;clear p;go_wp2_with fail;exact bodyPost_end (results_none rfl _ _ _) rfl ⟨by rw [K.out];rfl,D.out⟩
theorem p_needProgram (x:Pg) (hok:okP x) (hrg:rgP x) (v:Value) (w:World) (hv:pA w x v) (TT:PT w):Calls Tryz.prog 18 #[v] w (NdP w (rP x)):=by
 obtain ⟨a1,c1,a2,c2,a3,c3,rfl,h1,h2,h3⟩:=hv;obtain ⟨l1,l2,l3,N⟩:=hok;have U:Hid (∀ b W,Calls Tryz.prog 43 #[.bool b] W (NdP W b)):=fun b W=>p_need b W
 have aw:Hid (∀ n W,Below w.heap.size w W->Calls Tryz.prog 26 #[.string n] W fun e w'=>e=.returned (.bool (nameB n))/\W=w'):=fun n W f=>isname_any n W (TT.below f).1.1
 have Z:Hid (∀ W,Below w.heap.size w W->Calls Tryz.prog 44 #[.slice a2 x.locks.length c2] W (NdP W (bareB x.locks))):=fun W f=>p_needBare x.locks l2 a2 c2 W (dcsAt_below h2 f) (TT.below f).1.1
 have bp:Hid (∀ (t:Th) W a c,t∈x.threads->Below w.heap.size w W->dcsAt (fun _=>True) W t.locals a->Calls Tryz.prog 44 #[.slice a t.locals.length c] W (NdP W (bareB t.locals))):=fun t W a c H f ha=>p_needBare t.locals (N t H).1 a c W ha (TT.below f).1.1
 have bf:Hid (∀ (t:Th) W a c,t∈x.threads->Below w.heap.size w W->stsAt (fun _=>True) W t.body a->Calls Tryz.prog 45 #[.slice a t.body.length c,.int .i64 1] W (NdP W (rB t.body 1))):=fun t W a c H f ha=>needBlock_any t.body (N t H).2.2 (N t H).2.1 (hrg t H) a c W 1 ha (TT.below f) (by omega) (by omega)
 obtain ⟨C,lk,I⟩:=x;simp only at *;have E1:=Hd h1;have E3:=Hd h3;obtain ⟨F,S⟩:=Qx C.length;obtain ⟨n2,ab⟩:=Qx lk.length;obtain ⟨E,P⟩:=Qx I.length;rw [<- ab] at Z;rw [<- S,<- ab,<- P];rw [<- S] at l1;rw [<- P] at l3;have ay:=Hd S;have a6:=Hd P;obtain ⟨R,hR⟩:=Qx (rP ⟨C,lk,I⟩);rw [<- hR];have D:Hid (R=(sharedB C&&(bareB lk&&I.all thB))):=hR;generalize bareB lk=bl at Z D;clear hR h1 h2 h3 TT S ab P N hrg l2;have p:=Hd (bw_new w 26 #[.slice a1 F c1,.slice a2 n2 c2,.slice a3 E c3]);obtain ⟨W0,ac⟩:=Qx (w.alloc (.cells #[.slice a1 F c1,.slice a2 n2 c2,.slice a3 E c3] 26));rw [<- ac] at p;have av:=Hd ac;clear ac;go_enter Tryz.func18,Tryz.ntmps18;go_upto_region 1 with (fail)
 rw [<- av.out];clear av;have c0:W0.cell? ⟨w.heap.size,0,none⟩=some (.slice a1 F c1):=cr p.out.1;go_wp2_with fail;clear c0;go_loopg [9] (F+1) (fun m' u W=>∃ i:Nat,u=.int .i64 (i:Int)/\i<=F/\m'=F-i+1/\(∀ j y,j<i->C[j]? = some y->(nameB y.name&&decide (-9223372036854775808<y.wd))=true)/\Bw w 26 #[.slice a1 F c1,.slice a2 n2 c2,.slice a3 E c3] W)
 case atStart=>exact ⟨0,rfl,Nat.zero_le _,by omega,fun j y h=>by omega,p.out⟩
 case round =>
  clear p;obtain ⟨i,rfl,hi,H,hI,G⟩:=hrel;have HM:=Hd H;have s:=Hd hI;have p:=Hd G;clear H hI G;by_cases hin:i<F
  · have L : i < C.length := by have := ay.out; omega
    have Q:C[i]? = some C[i]:=List.getElem?_eq_getElem L;have l:C[i]∈C:=List.getElem_mem L;generalize C[i]=x at Q l;rcases E1.out with e | ⟨g,q,e,_,e1⟩
    · cases C with
      | nil=>simp at L
      | cons=>cases e
    obtain rfl:a1=some ⟨g,q,none⟩:=e;have x1:=dcsIn_get i x e1 Q;obtain ⟨o,wd,B⟩:=x;obtain ⟨f0,f1,f2⟩:=x1;have J:=lt_of_at f0;simp only at J;have bz:(i:Int)<(F:Int):=by omega
    have K:=p.out.2;have f0:=cb K J f0;have f1:=cb K J f1;have f2:=cb K J f2;have ad:=Hd Q;have z:=Hd l;clear Q e1 L K l;have O1:=Own.new wr 61 #[.string o,.int .i64 wd,.int .i64 B];have M:Hid (Below wr.heap.size wr (wr.alloc (.cells #[.string o,.int .i64 wd,.int .i64 B] 61))):=(Below.refl _ wr).alloc (Nat.le_refl _) _;have d:=Hd (bw_below p.out M.out);have y0:(wr.alloc (.cells #[.string o,.int .i64 wd,.int .i64 B] 61)).cell? ⟨wr.heap.size,0,none⟩=some (.string o):=cr O1;have y1:(wr.alloc (.cells #[.string o,.int .i64 wd,.int .i64 B] 61)).cell? ⟨wr.heap.size,1,none⟩=some (.int .i64 wd):=cr O1;have k:=aw.out o;cases hq:nameB o with
    | false =>
      rw [hq] at k;replace k:=Hd k;have HQ:=Hd hq;clear hq;go_wp2_with (first | (go_at_call 26;refine (k.out _ d.out.2).mono ?_;rintro e w2 ⟨rfl,rfl⟩))
      go_at_call 43;refine (U.out _ _).mono ?_;rintro e w3 A;obtain ⟨rfl,f⟩:=A.bad rfl;go_wp2_with fail;exact ⟨rfl,by rw [and_f D.out (by unfold sharedB;exact all_bad _ z.out (by simp only [HQ.out,Bool.false_and]))];rfl,(bw_below d.out f).2⟩
    | true =>
      rw [hq] at k;replace k:=Hd k;have HQ:=Hd hq;clear hq;go_wp2_with (first | (go_at_call 26;refine (k.out _ d.out.2).mono ?_;rintro e w2 ⟨rfl,rfl⟩))
      go_at_call 43;refine (U.out _ _).mono ?_;rintro e w3 A;rcases A.cases with ⟨Y,rfl,f⟩ | ⟨Y,rfl,f⟩
      rotate_left
      · have Y : decide (-9223372036854775808 < wd) = false := Y
        go_wp2_with fail;exact ⟨rfl,by rw [and_f D.out (by unfold sharedB;exact all_bad _ z.out (by simp only [HQ.out,Y,Bool.and_false]))];rfl,(bw_below d.out f).2⟩
      have ae:=Hd (bw_below d.out f);have Y:decide (-9223372036854775808<wd)=true:=Y;have HX:Hid ((nameB o&&decide (-9223372036854775808<wd))=true):=by rw [Hid,HQ.out,Y];rfl
      clear f Y O1 y0 y1;go_wp2_with fail;go_roundg (F-(i+1)+1)
      case measure=>have:=HM.out;omega
      case rel =>
       refine ⟨i+1,rfl,by omega,by omega,fun j y hj hy=>?_,ae.out⟩
       by_cases hji:j=i
       · subst hji
         rw [ad.out] at hy;obtain rfl:=Option.some.inj hy;exact HX.out
       · exact s.out j y (by omega) hy
  · have : i = F := by omega
    subst this;have X:sharedB C=true:=all_ok fun j y hj hy=>s.out j y (by have:=ay.out;omega) hy
    replace D:=Hd (and_t D.out X);clear X s HM;have be:wr.cell? ⟨w.heap.size,1,none⟩=some (.slice a2 n2 c2):=cr p.out.1;go_wp2_with fail;go_at_call 44;refine (Z.out _ p.out.2).mono ?_;rintro e w5 A;rcases A.cases with ⟨r,rfl,f⟩ | ⟨r,rfl,f⟩
    rotate_left
    · go_wp2_with fail
      exact ⟨rfl,by rw [and_f D.out r];rfl,(bw_below p.out f).2⟩
    replace D:=Hd (and_t D.out r);replace p:=Hd (bw_below p.out f);clear f r be;have bh:w5.cell? ⟨w.heap.size,2,none⟩=some (.slice a3 E c3):=cr p.out.1;go_wp2_with fail;clear bh;go_loopg [29] (E+1) (fun m' u W=>∃ t:Nat,u=.int .i64 (t:Int)/\t<=E/\m'=E-t+1/\(∀ j y,j<t->I[j]? = some y->thB y=true)/\Below w.heap.size w W)
    case atStart=>exact ⟨0,rfl,Nat.zero_le _,by omega,fun j y h=>by omega,p.out.2⟩
    case round =>
     clear p;obtain ⟨t,rfl,ht,H,hI,G⟩:=hrel;have HM:=Hd H;have s:=Hd hI;have p:=Hd G;clear H hI G;by_cases htn:t<E
     · have L : t < I.length := by have := a6.out; omega
       have Q:I[t]? = some I[t]:=List.getElem?_eq_getElem L;have l:I[t]∈I:=List.getElem_mem L;generalize I[t]=x at Q l;rcases E3.out with e | ⟨g,q,e,_,e1⟩
       · cases I with
         | nil=>simp at L
         | cons=>cases e
       obtain rfl:a3=some ⟨g,q,none⟩:=e;have x1:=thsIn_get t x e1 Q;obtain ⟨o,V,O,B⟩:=x;obtain ⟨f0,⟨a4,c4,f1,w1⟩,⟨a5,c5,f2,w2⟩,f3⟩:=x1;have J:=lt_of_at f0;simp only at J;have br:(t:Int)<(E:Int):=by omega
       have H1:Hid (∀ W,Below w.heap.size w W->Calls Tryz.prog 44 #[.slice a4 V.length c4] W (NdP W (bareB V))):=fun W f=>bp.out ⟨o,V,O,B⟩ W a4 c4 l f (dcsAt_below w1 f)
       have H2:Hid (∀ W,Below w.heap.size w W->Calls Tryz.prog 45 #[.slice a5 O.length c5,.int .i64 1] W (NdP W (rB O 1))):=fun W f=>bf.out ⟨o,V,O,B⟩ W a5 c5 l f (stsAt_below w2 f)
       have K:=p.out;have f0:=cb K J f0;have f1:=cb K J f1;have f2:=cb K J f2;have f3:=cb K J f3;have ad:=Hd Q;have z:=Hd l;clear Q e1 L K l w1 w2;obtain ⟨R1,aa⟩:=Qx (thB ⟨o,V,O,B⟩);have m:Hid (R1=(nameB o&&(bareB V&&rB O 1))):=aa;have T:=Hd aa;clear aa;generalize bareB V=b1 at H1 m;generalize rB O 1=b2 at H2 m;generalize V.length=nl at H1 f1;generalize O.length=nb at H2 f2;have O1:=Own.new wr 66 #[.string o,.slice a4 nl c4,.slice a5 nb c5,.int .i64 B];have M:Hid (Below wr.heap.size wr (wr.alloc (.cells #[.string o,.slice a4 nl c4,.slice a5 nb c5,.int .i64 B] 66))):=(Below.refl _ wr).alloc (Nat.le_refl _) _;have d:=Hd (p.out.trans (M.out.mono p.out.size));have OT:=Hd O1;have y0:(wr.alloc (.cells #[.string o,.slice a4 nl c4,.slice a5 nb c5,.int .i64 B] 66)).cell? ⟨wr.heap.size,0,none⟩=some (.string o):=cr O1;clear O1;have k:=aw.out o;cases hq:nameB o with
       | false =>
         rw [hq] at k;replace k:=Hd k;have HQ:=Hd hq;clear hq;go_wp2_with (first | (go_at_call 26;refine (k.out _ d.out).mono ?_;rintro e w2 ⟨rfl,rfl⟩))
         go_at_call 43;refine (U.out _ _).mono ?_;rintro e w3 A;obtain ⟨rfl,f⟩:=A.bad rfl;go_wp2_with fail;exact ⟨rfl,by rw [D.out,all_bad _ z.out (by rw [<- T.out];exact and_f m.out HQ.out)];rfl,d.out.trans (f.mono d.out.size)⟩
       | true =>
         rw [hq] at k;replace k:=Hd k;replace m:=Hd (and_t m.out hq);clear hq;go_wp2_with (first | (go_at_call 26;refine (k.out _ d.out).mono ?_;rintro e w2 ⟨rfl,rfl⟩))
         go_at_call 43;refine (U.out _ _).mono ?_;rintro e w3 A;obtain ⟨rfl,f⟩:=A.ok rfl;replace d:=Hd (d.out.trans (f.mono d.out.size));replace OT:=Hd (OT.out.below f);clear f y0 M;have y1:w3.cell? ⟨wr.heap.size,1,none⟩=some (.slice a4 nl c4):=cr OT.out;go_wp2_with fail;go_at_call 44;refine (H1.out _ d.out).mono ?_;rintro e w4 A;rcases A.cases with ⟨r,rfl,f⟩ | ⟨r,rfl,f⟩
         rotate_left
         · go_wp2_with fail
           exact ⟨rfl,by rw [D.out,all_bad _ z.out (by rw [<- T.out];exact and_f m.out r)];rfl,d.out.trans (f.mono d.out.size)⟩
         replace m:=Hd (and_t m.out r);replace d:=Hd (d.out.trans (f.mono d.out.size));replace OT:=Hd (OT.out.below f);clear f y1 r;have y2:w4.cell? ⟨wr.heap.size,2,none⟩=some (.slice a5 nb c5):=cr OT.out;go_wp2_with fail;go_at_call 45;refine (H2.out _ d.out).mono ?_;rintro e w6 A;rcases A.cases with ⟨r,rfl,f⟩ | ⟨r,rfl,f⟩
         rotate_left
         · go_wp2_with fail
           exact ⟨rfl,by rw [D.out,all_bad _ z.out (by rw [<- T.out,m.out,r])];rfl,d.out.trans (f.mono d.out.size)⟩
         have HX:Hid (thB ⟨o,V,O,B⟩=true):=by rw [Hid,<- T.out,m.out,r]
         have ae:=Hd (d.out.trans (f.mono d.out.size));clear f y2 r;go_wp2_with fail;go_roundg (E-(t+1)+1)
         case measure=>have:=HM.out;omega
         case rel =>
          refine ⟨t+1,rfl,by omega,by omega,fun j y hj hy=>?_,ae.out⟩
          by_cases hji:j=t
          · subst hji
            rw [ad.out] at hy;obtain rfl:=Option.some.inj hy;exact HX.out
          · exact s.out j y (by omega) hy
     · have : t = E := by omega
       subst this;have hR:R=true:=by
        rw [D.out];exact all_ok fun j y hj hy=>s.out j y (by have:=a6.out;omega) hy
       have bm:=Hd hR;clear hR;go_wp2_with fail;exact bodyPost_end (results_none rfl _ _ _) rfl ⟨by rw [bm.out];rfl,p.out⟩
end Go.Proofs.YtbgfkdiihnidaaaGreatDoor
namespace Go.Proofs
open Go.Shelf
def Tryz.laysM173_ren:Go.Shelf.Ren:=⟨fun | 173=>35 | 246=>91 | 283=>137 | 284=>138 | 285=>139 | 286=>140 | 129=>171 | 317=>170 | 318=>172 | 319=>173 | 320=>174 | 337=>203 | 338=>204 | n=>n,fun | 2=>2 | 3=>3 | 9=>9 | 4=>4 | 171=>183 | 0=>0 | 53=>184 | 37=>108 | 5=>5 | 173=>187 | 212=>223 | 51=>224 | 20=>20 | 213=>225 | 46=>179 | 232=>262 | 233=>263 | n=>n,fun | 17=>3 | 18=>6 | 19=>7 | n=>n⟩
theorem Tryz.laysM173:Go.Proofs.LaysM.n173 Tryz.prog Tryz.laysM173_ren:={
 mixed:=by kernel_rfl
 f129:=Tryz.func171.trans (congrArg some (by kernel_rfl))
 f173:=Tryz.func35.trans (congrArg some (by kernel_rfl))
 f246:=Tryz.func91.trans (congrArg some (by kernel_rfl))
 f283:=Tryz.func137.trans (congrArg some (by kernel_rfl))
 f284:=Tryz.func138.trans (congrArg some (by kernel_rfl))
 f285:=Tryz.func139.trans (congrArg some (by kernel_rfl))
 f286:=Tryz.func140.trans (congrArg some (by kernel_rfl))
 f317:=Tryz.func170.trans (congrArg some (by kernel_rfl))
 f318:=Tryz.func172.trans (congrArg some (by kernel_rfl))
 f319:=Tryz.func173.trans (congrArg some (by kernel_rfl))
 f320:=Tryz.func174.trans (congrArg some (by kernel_rfl))
 f337:=Tryz.func203.trans (congrArg some (by kernel_rfl))
 f338:=Tryz.func204.trans (congrArg some (by kernel_rfl))
 t0:=Tryz.underlying0
 a0:=Tryz.isAgg0
 z0:=Tryz.sizeOf0
 v0:=Tryz.zeroValue0
 t2:=Tryz.underlying2
 a2:=Tryz.isAgg2
 z2:=Tryz.sizeOf2
 v2:=Tryz.zeroValue2
 t3:=Tryz.underlying3
 a3:=Tryz.isAgg3
 z3:=Tryz.sizeOf3
 v3:=Tryz.zeroValue3
 t4:=Tryz.underlying4
 a4:=Tryz.isAgg4
 z4:=Tryz.sizeOf4
 v4:=Tryz.zeroValue4
 t5:=Tryz.underlying5
 a5:=Tryz.isAgg5
 z5:=Tryz.sizeOf5
 v5:=Tryz.zeroValue5
 t9:=Tryz.underlying9
 a9:=Tryz.isAgg9
 z9:=Tryz.sizeOf9
 v9:=Tryz.zeroValue9
 t20:=Tryz.underlying20
 a20:=Tryz.isAgg20
 z20:=Tryz.sizeOf20
 v20:=Tryz.zeroValue20
 t37:=Tryz.underlying108
 a37:=Tryz.isAgg108
 z37:=Tryz.sizeOf108
 v37:=Tryz.zeroValue108
 t46:=Tryz.underlying179
 a46:=Tryz.isAgg179
 z46:=Tryz.sizeOf179
 v46:=Tryz.zeroValue179
 t51:=Tryz.underlying224
 a51:=Tryz.isAgg224
 z51:=Tryz.sizeOf224
 v51:=Tryz.zeroValue224
 t53:=Tryz.underlying184
 a53:=Tryz.isAgg184
 z53:=Tryz.sizeOf184
 v53:=Tryz.zeroValue184
 t171:=Tryz.underlying183
 a171:=Tryz.isAgg183
 z171:=Tryz.sizeOf183
 v171:=Tryz.zeroValue183
 t173:=Tryz.underlying187
 a173:=Tryz.isAgg187
 z173:=Tryz.sizeOf187
 v173:=Tryz.zeroValue187
 t212:=Tryz.underlying223
 a212:=Tryz.isAgg223
 z212:=Tryz.sizeOf223
 v212:=Tryz.zeroValue223
 t213:=Tryz.underlying225
 a213:=Tryz.isAgg225
 z213:=Tryz.sizeOf225
 t232:=Tryz.underlying262
 a232:=Tryz.isAgg262
 z232:=Tryz.sizeOf262
 v232:=Tryz.zeroValue262
 t233:=Tryz.underlying263
 a233:=Tryz.isAgg263
 z233:=Tryz.sizeOf263
 v233:=Tryz.zeroValue263
 g17:=by kernel_rfl
 g18:=by kernel_rfl
 g19:=by kernel_rfl
 i0:=by kernel_rfl
 i2:=by kernel_rfl
 i3:=by kernel_rfl
 i4:=by kernel_rfl
 i5:=by kernel_rfl
 i9:=by kernel_rfl
 i20:=by kernel_rfl
 i37:=by kernel_rfl
 i46:=by kernel_rfl
 i51:=by kernel_rfl
 i53:=by kernel_rfl
 i171:=by kernel_rfl
 i173:=by kernel_rfl
 i212:=by kernel_rfl
 i232:=by kernel_rfl
 i233:=by kernel_rfl
 m17:=by kernel_rfl
 m18:=by kernel_rfl
 m19:=by kernel_rfl }
open Go.RowKit Go.Sort Go.Lib in
theorem Tryz.strconv_FormatInt_10 (n:Int) (h0 : -9223372036854775808<=n) (h1:n<=9223372036854775807) (w:World) (htab:Lib.TabIs Tryz.prog w "internal/strconv.uint64pow10" .u64 Lib.pow10Tab) :
 Calls Tryz.prog 35 #[.int .i64 n,.int .i64 10] w fun e w'=>e=.returned (.string ⟨(Lib.itoa n).toArray⟩)/\∃ k os,w'=grow (w.drewN k) os:=Any.strconv_FormatInt_10 Tryz.laysM173 n h0 h1 w htab
def Tryz.lays105_ren:Go.Shelf.Ren:=⟨fun | 105=>115 | 212=>157 | 99=>135 | 165=>158 | 166=>156 | 170=>155 | 169=>50 | 263=>187 | 264=>188 | 206=>169 | 240=>186 | 241=>189 | 276=>209 | 277=>210 | n=>n,fun | 9=>9 | 3=>3 | 4=>4 | 20=>20 | 0=>0 | 46=>179 | 109=>207 | 5=>5 | 72=>110 | 76=>205 | 51=>224 | 146=>233 | 53=>184 | 148=>235 | 70=>107 | 37=>108 | 75=>204 | 127=>163 | 164=>254 | 80=>58 | n=>n,fun | n=>n⟩
theorem Tryz.lays105:Go.Proofs.Lays.n105 Tryz.prog Tryz.lays105_ren:={
 mixed:=by kernel_rfl
 f99:=Tryz.func135.trans (congrArg some (by kernel_rfl))
 f105:=Tryz.func115.trans (congrArg some (by kernel_rfl))
 f165:=Tryz.func158.trans (congrArg some (by kernel_rfl))
 f166:=Tryz.func156.trans (congrArg some (by kernel_rfl))
 f169:=Tryz.func50.trans (congrArg some (by kernel_rfl))
 f170:=Tryz.func155.trans (congrArg some (by kernel_rfl))
 f206:=Tryz.func169.trans (congrArg some (by kernel_rfl))
 f212:=Tryz.func157.trans (congrArg some (by kernel_rfl))
 f240:=Tryz.func186.trans (congrArg some (by kernel_rfl))
 f241:=Tryz.func189.trans (congrArg some (by kernel_rfl))
 f263:=Tryz.func187.trans (congrArg some (by kernel_rfl))
 f264:=Tryz.func188.trans (congrArg some (by kernel_rfl))
 f276:=Tryz.func209.trans (congrArg some (by kernel_rfl))
 f277:=Tryz.func210.trans (congrArg some (by kernel_rfl))
 t0:=Tryz.underlying0
 a0:=Tryz.isAgg0
 z0:=Tryz.sizeOf0
 v0:=Tryz.zeroValue0
 t3:=Tryz.underlying3
 a3:=Tryz.isAgg3
 z3:=Tryz.sizeOf3
 v3:=Tryz.zeroValue3
 t4:=Tryz.underlying4
 a4:=Tryz.isAgg4
 z4:=Tryz.sizeOf4
 v4:=Tryz.zeroValue4
 t5:=Tryz.underlying5
 a5:=Tryz.isAgg5
 z5:=Tryz.sizeOf5
 v5:=Tryz.zeroValue5
 t9:=Tryz.underlying9
 a9:=Tryz.isAgg9
 z9:=Tryz.sizeOf9
 v9:=Tryz.zeroValue9
 t20:=Tryz.underlying20
 a20:=Tryz.isAgg20
 z20:=Tryz.sizeOf20
 v20:=Tryz.zeroValue20
 t37:=Tryz.underlying108
 a37:=Tryz.isAgg108
 z37:=Tryz.sizeOf108
 v37:=Tryz.zeroValue108
 t46:=Tryz.underlying179
 a46:=Tryz.isAgg179
 z46:=Tryz.sizeOf179
 v46:=Tryz.zeroValue179
 t51:=Tryz.underlying224
 a51:=Tryz.isAgg224
 z51:=Tryz.sizeOf224
 v51:=Tryz.zeroValue224
 t53:=Tryz.underlying184
 a53:=Tryz.isAgg184
 z53:=Tryz.sizeOf184
 v53:=Tryz.zeroValue184
 t70:=Tryz.underlying107
 a70:=Tryz.isAgg107
 z70:=Tryz.sizeOf107
 v70:=Tryz.zeroValue107
 t72:=Tryz.underlying110
 a72:=Tryz.isAgg110
 z72:=Tryz.sizeOf110
 v72:=Tryz.zeroValue110
 t75:=Tryz.underlying204
 a75:=Tryz.isAgg204
 z75:=Tryz.sizeOf204
 v75:=Tryz.zeroValue204
 t76:=Tryz.underlying205
 a76:=Tryz.isAgg205
 z76:=Tryz.sizeOf205
 v76:=Tryz.zeroValue205
 t109:=Tryz.underlying207
 a109:=Tryz.isAgg207
 z109:=Tryz.sizeOf207
 v109:=Tryz.zeroValue207
 t127:=Tryz.underlying163
 a127:=Tryz.isAgg163
 z127:=Tryz.sizeOf163
 v127:=Tryz.zeroValue163
 t146:=Tryz.underlying233
 a146:=Tryz.isAgg233
 z146:=Tryz.sizeOf233
 v146:=Tryz.zeroValue233
 t148:=Tryz.underlying235
 a148:=Tryz.isAgg235
 z148:=Tryz.sizeOf235
 v148:=Tryz.zeroValue235
 t164:=Tryz.underlying254
 a164:=Tryz.isAgg254
 z164:=Tryz.sizeOf254
 v164:=Tryz.zeroValue254 }
theorem Tryz.Builder_Extra_105:Builder.Extra Tryz.prog Tryz.lays105_ren:={
 sizeBuilder:=by kernel_rfl
 liesBuilder:=by kernel_rfl
 t5:=Tryz.underlying5
 a5:=Tryz.isAgg5
 z5:=Tryz.sizeOf5
 v5:=Tryz.zeroValue5
 infoByte:=by kernel_rfl
 cellsByte:=by kernel_rfl
 sizeByte:=by kernel_rfl
 neB5:=by decide }
open Go.RowKit Go.Lib in
theorem Tryz.strings_Repeat (s:ByteArray) (c:Nat) (w:World) (hc:c<=9223372036854775807) (hlen:s.size*c<=140737488355328) :
 Calls Tryz.prog 115 #[.string s,.int .i64 c] w fun e w'=>e=.returned (.string ⟨(Lib.repeatL s.data.toList c).toArray⟩)/\Below w.heap.size w w':=Any.strings_Repeat Tryz.lays105 Tryz.Builder_Extra_105 s c w hc hlen
end Go.Proofs

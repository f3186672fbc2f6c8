import Derived.Test.YtbgfkdiihnidaaaGreatDoorQAV
import Derived.Deep.CutBlock
import Derived.WalkLawsBesides
import Derived.Deep.MidRow
import Derived.OwnWalk
import Derived.WalkSpells
import Derived.Test.YtbgfkdiihnidaaaGreatDoorQAA
import Derived.Test.YtbgfkdiihnidaaaGreatDoorQAM
set_option maxRecDepth 100000
set_option maxHeartbeats 20000000
namespace Go.Proofs.YtbgfkdiihnidaaaGreatDoor
open Go.RowKit
set_option linter.unusedVariables false
mutual
def cntE:Ex->Int | .mk _ _ _ _ ks _=>1+cntEs ks
def cntEs:List Ex->Int | []=>0 | e::r=>cntE e+cntEs r
end
def cntK:List Ex->Int | []=>0 | e::r=>cntEs e.kids+cntK r
theorem cntE_kids (e:Ex):cntE e=1+cntEs e.kids:=by cases e;rfl
theorem cntEs_len:∀ l:List Ex,cntEs l=l.length+cntK l
 | []=>rfl
 | e::r=>by simp only [cntEs,cntK,List.length_cons,cntE_kids,cntEs_len r];omega
theorem cntEs_snoc:∀ (l:List Ex) (e:Ex),cntEs (l++[e])=cntEs l+cntE e
 | [],e=>by simp [cntEs]
 | x::r,e=>by simp only [List.cons_append,cntEs,cntEs_snoc r e];omega
theorem cntK_snoc:∀ (l:List Ex) (e:Ex),cntK (l++[e])=cntK l+cntEs e.kids
 | [],e=>by simp [cntK]
 | x::r,e=>by simp only [List.cons_append,cntK,cntK_snoc r e];omega
theorem take_one {α:Type} {l:List α} {i:Nat} (h:i<l.length):l.take (i+1)=l.take i++[l[i]]:=by rw [List.take_succ_eq_append_getElem h]
theorem w_add (a b:Int):wrap64 (wrap64 a+wrap64 b)=wrap64 (a+b):=by unfold wrap64;omega
theorem w_prg (a b c:Int):wrap64 (wrap64 (a+b)+wrap64 c)=wrap64 (a+(b+c)):=by unfold wrap64;omega
theorem w_len (n:Nat) (h:n<=9223372036854775807):wrap64 (n:Int)=n:=by unfold wrap64;omega
def P_PARTS (l:List Ex):Prop:=okEs l->l.length<=9223372036854775807->∀ (a:Option Addr) (c:Nat) (w:World),exsAt (fun _=>True) w l a ->
 Calls Tryz.prog 66 #[.slice a l.length c] w fun e w'=>e=.returned (.int .i64 (wrap64 (cntEs l)))/\Below w.heap.size w w'
theorem p_parts_one {l:List Ex} (HI:∀ x∈l,P_PARTS x.kids):P_PARTS l:=by
 intro L S a c w h1;have HI:=Hd HI;have L:=Hd L;have E1:=Hd h1;obtain ⟨n,C⟩:=Qx l.length;rw [<- C] at S ⊢;have H:=Hd C;obtain ⟨Z,K⟩:=Qx (wrap64 (cntEs l));rw [<- K];have HZ:=Hd K;clear h1 C K;go_enter Tryz.func66,Tryz.ntmps66;go_wp2_with fail;go_loopg [3,10] (n+1) (fun m' v u W=>∃ (i:Nat) (A:Int),u=.int .i64 (i:Int)/\v=.int .i64 A/\i<=n/\m'=n-i+1/\A=wrap64 (l.length+cntK (l.take i))/\Below w.heap.size w W)
 case atStart=>exact ⟨0,_,rfl,rfl,Nat.zero_le _,by omega,by rw [List.take_zero,<- H.out,show cntK []=0 from rfl,Int.add_zero,w_len n S],Below.refl _ w⟩
 case round =>
  obtain ⟨i,A,rfl,rfl,hi,hm,T,z⟩:=hrel;have HM:=Hd hm;have P:=Hd T;have m:=Hd z;clear hm z T;by_cases hin:i<n
  · have s : i < l.length := by have := H.out; omega
    have D:l[i]? = some l[i]:=List.getElem?_eq_getElem s;have b:l[i]∈l:=List.getElem_mem s;have t:=Hd (take_one s);generalize l[i]=x at D b t;have G:=okEs_mem L.out x b;have R:=Hd (HI.out x b);rcases E1.out with e | ⟨g,q,rfl,_,V⟩
    · cases l with
      | nil=>simp at s
      | cons=>cases e
    have x1:=exsIn_get i x V D;obtain ⟨k,o,wd,nm,p,ps⟩:=x;obtain ⟨J,a1,Q,N,⟨Y,kc,M,w4⟩,U⟩:=x1;obtain ⟨O,X⟩:=G;have d:=lt_of_at J;simp only at d;have af:(i:Int)<(n:Int):=by omega
    have I:Hid (∀ W,Below w.heap.size w W->Calls Tryz.prog 66 #[.slice Y p.length kc] W fun e' w'=>e'=.returned (.int .i64 (wrap64 (cntEs p)))/\Below W.heap.size W w'):=fun W hW=>R.out X O Y kc W (exsAt_below w4 hW)
    have f:=m.out;have J:=cb f d J;have a1:=cb f d a1;have Q:=cb f d Q;have N:=cb f d N;have M:=cb f d M;have U:=cb f d U;have j:Hid (∀ o,Below w.heap.size w (wr.alloc o)):=fun o=>m.out.alloc m.out.size o
    have t:Hid (cntEs (l.take (i+1))=cntEs (l.take i)+(1+cntEs p)/\cntK (l.take (i+1))=cntK (l.take i)+cntEs p):=by
     rw [Hid,t.out];exact ⟨by rw [cntEs_snoc,cntE_kids];rfl,by rw [cntK_snoc];rfl⟩
    clear D V s w4 O X R b f;generalize cntEs p=CK at I t;obtain ⟨B,E⟩:=Qx (wrap64 CK);rw [<- E] at I;have F:=Hd E;clear E;generalize p.length=nk at *;go_wp2_with fail;go_at_call 66;refine (I.out _ (j.out _)).mono ?_;rintro e w3 ⟨rfl,r⟩;have m:=Hd ((j.out _).trans (r.mono (j.out _).size));clear r;go_wp2_with fail;go_roundg (n-(i+1)+1)
    case measure=>have:=HM.out;omega
    case rel=>exact ⟨i+1,_,rfl,rfl,by omega,by omega,by rw [P.out,F.out,t.out.2];exact w_prg _ _ _,m.out⟩
  · have : i = n := by omega
    subst this;have y:Hid (A=Z):=by
     rw [Hid,P.out,HZ.out,List.take_of_length_le (by have:=H.out;omega)]
     rw [cntEs_len]
    obtain rfl:A=Z:=y.out;clear y;go_wp2_with fail;go_ret;exact ⟨rfl,m.out⟩
theorem p_parts_kids:∀ e:Ex,P_PARTS e.kids:=by
 intro e;induction e using Ex.ind with
 | h k o w n ks a h=>exact p_parts_one h
theorem p_parts (l:List Ex):P_PARTS l:=p_parts_one fun x _=>p_parts_kids x
mutual
def szN:St->Int | .mk _ _ _ _ b l _=>1+szNs b+szNs l
def szNs:List St->Int | []=>0 | s::r=>szN s+szNs r
end
mutual
def szK:St->Int | .mk _ _ _ e b l _=>cntEs e+szKs b+szKs l
def szKs:List St->Int | []=>0 | s::r=>szK s+szKs r
end
def szM:List St->Int | []=>0 | s::r=>szNs s.body+szNs s.els+szM r
theorem szN_eq (s:St):szN s=1+szNs s.body+szNs s.els:=by cases s;rfl
theorem szK_eq (s:St):szK s=cntEs s.e+szKs s.body+szKs s.els:=by cases s;rfl
theorem szNs_len:∀ l:List St,szNs l=l.length+szM l
 | []=>rfl
 | e::r=>by simp only [szNs,szM,List.length_cons,szN_eq,szNs_len r];omega
theorem szNs_snoc:∀ (l:List St) (e:St),szNs (l++[e])=szNs l+szN e
 | [],e=>by simp [szNs]
 | x::r,e=>by simp only [List.cons_append,szNs,szNs_snoc r e];omega
theorem szKs_snoc:∀ (l:List St) (e:St),szKs (l++[e])=szKs l+szK e
 | [],e=>by simp [szKs]
 | x::r,e=>by simp only [List.cons_append,szKs,szKs_snoc r e];omega
theorem szM_snoc:∀ (l:List St) (e:St),szM (l++[e])=szM l+(szNs e.body+szNs e.els)
 | [],e=>by simp [szM]
 | x::r,e=>by simp only [List.cons_append,szM,szM_snoc r e];omega
theorem w_pn (a b c:Int):wrap64 (wrap64 (wrap64 a+wrap64 b)+wrap64 c)=wrap64 (a+(b+c)):=by unfold wrap64;omega
theorem w_pk (a b c d:Int):wrap64 (wrap64 (wrap64 (wrap64 a+wrap64 b)+wrap64 c)+wrap64 d)=wrap64 (a+(b+c+d)):=by unfold wrap64;omega
def P_SIZE (l:List St):Prop:=okSs l->l.length<=9223372036854775807->∀ (a:Option Addr) (c:Nat) (w:World),stsAt (fun _=>True) w l a ->
 Calls Tryz.prog 30 #[.slice a l.length c] w fun e w'=>e=.returned (.tuple #[.int .i64 (wrap64 (szNs l)),.int .i64 (wrap64 (szKs l))])/\Below w.heap.size w w'
theorem p_size_one {l:List St} (HI:∀ x∈l,P_SIZE x.body/\P_SIZE x.els):P_SIZE l:=by
 intro HO hl a c w h1;have HI:=Hd HI;have HO:=Hd HO;have E1:=Hd h1;obtain ⟨n,hn⟩:=Qx l.length;rw [<- hn] at hl ⊢;have HN:=Hd hn;obtain ⟨Z,hZ⟩:=Qx (wrap64 (szNs l));obtain ⟨Y,hY⟩:=Qx (wrap64 (szKs l));rw [<- hZ,<- hY];have HZ:=Hd hZ;have HY:=Hd hY;clear h1 hn hZ hY;go_enter Tryz.func30,Tryz.ntmps30;go_wp2_with fail;go_loopg [4,5,16] (n+1) (fun m' v v2 u W=>∃ (i:Nat) (A K:Int),u=.int .i64 (i:Int)/\v=.int .i64 A/\v2=.int .i64 K/\i<=n/\m'=n-i+1/\A=wrap64 (l.length+szM (l.take i))/\K=wrap64 (szKs (l.take i))/\Below w.heap.size w W)
 case atStart=>exact ⟨0,_,_,rfl,rfl,rfl,Nat.zero_le _,by omega,by rw [List.take_zero,<- HN.out,show szM []=0 from rfl,Int.add_zero,w_len n hl],by simp [szKs,wrap64],Below.refl _ w⟩
 case round =>
  obtain ⟨i,A,K,rfl,rfl,rfl,hi,hm,hA,hK,m⟩:=hrel;have HM:=Hd hm;have HA:=Hd hA;have HK:=Hd hK;have b:=Hd m;clear hm m hA hK;by_cases hin:i<n
  · have L : i < l.length := by have := HN.out; omega
    have g1:l[i]? = some l[i]:=List.getElem?_eq_getElem L;have f:l[i]∈l:=List.getElem_mem L;have O:=Hd (take_one L);generalize l[i]=x at g1 f O;have ac:=okSs_mem HO.out x f;have HX:=Hd (HI.out x f);rcases E1.out with e | ⟨g,q,rfl,_,e1⟩
    · cases l with
      | nil=>simp at L
      | cons=>cases e
    have x1:=stsIn_get i x e1 g1;obtain ⟨k,nm,ot,J,p,r,ps⟩:=x;obtain ⟨a0,a1,a2,⟨ea,V,a3,T⟩,⟨y,B,a4,X⟩,⟨z,C,a5,w5⟩,a6⟩:=x1;obtain ⟨⟨o1,o2⟩,⟨o3,o4⟩,o5,o6⟩:=ac;have s:=lt_of_at a0;simp only at s;have bq:(i:Int)<(n:Int):=by omega
    have S:Hid (∀ W,Below w.heap.size w W->Calls Tryz.prog 66 #[.slice ea J.length V] W fun e' w'=>e'=.returned (.int .i64 (wrap64 (cntEs J)))/\Below W.heap.size W w'):=fun W hW=>p_parts J o2 o1 ea V W (exsAt_below T hW)
    have N:Hid (∀ W,Below w.heap.size w W->Calls Tryz.prog 30 #[.slice y p.length B] W fun e' w'=>e'=.returned (.tuple #[.int .i64 (wrap64 (szNs p)),.int .i64 (wrap64 (szKs p))])/\Below W.heap.size W w'):=fun W hW=>HX.out.1 o4 o3 y B W (stsAt_below X hW)
    have U:Hid (∀ W,Below w.heap.size w W->Calls Tryz.prog 30 #[.slice z r.length C] W fun e' w'=>e'=.returned (.tuple #[.int .i64 (wrap64 (szNs r)),.int .i64 (wrap64 (szKs r))])/\Below W.heap.size W w'):=fun W hW=>HX.out.2 o6 o5 z C W (stsAt_below w5 hW)
    have t:=b.out;have a0:=cb t s a0;have a1:=cb t s a1;have a2:=cb t s a2;have a3:=cb t s a3;have a4:=cb t s a4;have a5:=cb t s a5;have a6:=cb t s a6;have O:Hid (szNs (l.take (i+1))=szNs (l.take i)+(1+szNs p+szNs r)/\szM (l.take (i+1))=szM (l.take i)+(szNs p+szNs r)/\szKs (l.take (i+1))=szKs (l.take i)+(cntEs J+szKs p+szKs r)):=by
     rw [Hid,O.out];exact ⟨by rw [szNs_snoc,szN_eq];rfl,by rw [szM_snoc];rfl,by rw [szKs_snoc,szK_eq];rfl⟩
    clear g1 e1 L T X w5 o1 o2 o3 o4 o5 o6 HX f t;obtain ⟨P,hP⟩:=Qx (wrap64 (cntEs J));obtain ⟨S1,D⟩:=Qx (wrap64 (szNs p));obtain ⟨S2,H⟩:=Qx (wrap64 (szNs r));obtain ⟨K1,I⟩:=Qx (wrap64 (szKs p));obtain ⟨K2,E⟩:=Qx (wrap64 (szKs r));rw [<- hP] at S;rw [<- D,<- I] at N;rw [<- H,<- E] at U;have o:=Hd (And.intro hP (And.intro (And.intro D H) (And.intro I E)));clear hP D H I E;generalize J.length=n3 at *;generalize p.length=n4 at *;generalize r.length=n5 at *;have O1:=Hd (Own.new wr 120 #[.int .u8 k,.string nm,.string ot,.slice ea n3 V,.slice y n4 B,.slice z n5 C,.int .i64 ps]);have b:=Hd (b.out.alloc b.out.size (.cells #[.int .u8 k,.string nm,.string ot,.slice ea n3 V,.slice y n4 B,.slice z n5 C,.int .i64 ps] 120));go_wp2_with fail;go_at_call 66;refine (S.out _ b.out).mono ?_;rintro e T ⟨rfl,d⟩;have O1:=Hd (O1.out.below d);have b:=Hd (b.out.trans (d.mono b.out.size));clear d;have x4:T.cell? ⟨wr.heap.size,4,none⟩=some (.slice y n4 B):=cr O1.out;have x5:T.cell? ⟨wr.heap.size,5,none⟩=some (.slice z n5 C):=cr O1.out;obtain ⟨KP,G⟩:=Qx (wrap64 (K+P));have ak:=Hd G;go_upto_block 2 with (fail)
    rw [<- G];clear G x4 x5 O1;obtain ⟨wo,R⟩:∃ wo:World,wo=wr:=⟨_,rfl⟩;rw [<- R] at *;clear R;go_wp2_with fail;go_loopg [4,5,30] 3 (fun m' v v2 u W=>∃ j:Nat,j<=2/\m'=3-j/\u=.int .i64 (j:Int)/\v=.int .i64 (match j with | 0=>A | 1=>wrap64 (A+S1) | _=>wrap64 (wrap64 (A+S1)+S2))/\v2=.int .i64 (match j with | 0=>KP | 1=>wrap64 (KP+K1) | _=>wrap64 (wrap64 (KP+K1)+K2))/\Below w.heap.size w W)
    case atStart=>exact ⟨0,by omega,by omega,rfl,rfl,rfl,b.out⟩
    case round =>
     clear b;obtain ⟨j,hj,bu,rfl,hv,F,m⟩:=hrel;have b:=Hd m;clear m;have i0:∀ w,(Instr.index 138 (.agg #[.slice y n4 B,.slice z n5 C]) (.int .i64 0)).run Tryz.prog w=.ok (.slice y n4 B) w:=fun _=>by kernel_rfl
     have i1:∀ w,(Instr.index 138 (.agg #[.slice y n4 B,.slice z n5 C]) (.int .i64 1)).run Tryz.prog w=.ok (.slice z n5 C) w:=fun _=>by kernel_rfl
     obtain rfl | rfl | rfl:j=0\/j=1\/j=2:=by omega
     · obtain rfl := hv
       obtain rfl:=F;go_wp2_with fail;go_at_call 30;refine (N.out _ b.out).mono ?_;rintro e X ⟨rfl,d⟩;have b:=Hd (b.out.trans (d.mono b.out.size));clear d;go_wp2_with fail;go_roundg 2
       case measure=>omega
       case rel=>exact ⟨1,by omega,by omega,rfl,rfl,rfl,b.out⟩
     · obtain rfl := hv
       obtain rfl:=F;go_wp2_with fail;go_at_call 30;refine (U.out _ b.out).mono ?_;rintro e X ⟨rfl,d⟩;have b:=Hd (b.out.trans (d.mono b.out.size));clear d;go_wp2_with fail;go_roundg 1
       case measure=>omega
       case rel=>exact ⟨2,by omega,by omega,rfl,rfl,rfl,b.out⟩
     · obtain rfl := hv
       obtain rfl:=F;go_wp2_with fail;go_roundg (n-(i+1)+1)
       case measure=>have:=HM.out;omega
       case rel=>exact ⟨i+1,_,_,rfl,rfl,rfl,by omega,by omega,by rw [HA.out,O.out.2.1,o.out.2.1.1,o.out.2.1.2,<- Int.add_assoc];exact w_pn _ _ _,by rw [ak.out,HK.out,O.out.2.2,o.out.1,o.out.2.2.1,o.out.2.2.2];exact w_pk _ _ _ _,b.out⟩
  · have : i = n := by omega
    subst this;have Q:Hid (A=Z):=by
     rw [Hid,HA.out,HZ.out,List.take_of_length_le (by have:=HN.out;omega)]
     rw [szNs_len]
    have M:Hid (K=Y):=by
     rw [Hid,HK.out,HY.out,List.take_of_length_le (by have:=HN.out;omega)]
    obtain rfl:A=Z:=Q.out;obtain rfl:K=Y:=M.out;clear Q M;go_wp2_with fail;go_ret2;exact ⟨rfl,b.out⟩
theorem p_size_subs:∀ l:List St,∀ x∈l,P_SIZE x.body/\P_SIZE x.els:=by
 intro l;induction l using Sts.ind with
 | h0=>intro x c;cases c
 | h1 k n o e b l a r hb hl hr =>
   intro x c;rcases List.mem_cons.1 c with rfl | c
   · exact ⟨p_size_one hb,p_size_one hl⟩
   · exact hr x c
theorem p_size (l:List St):P_SIZE l:=p_size_one (p_size_subs l)
open Go.RowKit
set_option linter.unusedVariables false
def szTN:List Th->Int | []=>0 | t::r=>szNs t.body+szTN r
def szTK:List Th->Int | []=>0 | t::r=>szKs t.body+szTK r
theorem szTN_snoc:∀ (l:List Th) (e:Th),szTN (l++[e])=szTN l+szNs e.body
 | [],e=>by simp [szTN]
 | x::r,e=>by simp only [List.cons_append,szTN,szTN_snoc r e];omega
theorem szTK_snoc:∀ (l:List Th) (e:Th),szTK (l++[e])=szTK l+szKs e.body
 | [],e=>by simp [szTK]
 | x::r,e=>by simp only [List.cons_append,szTK,szTK_snoc r e];omega
theorem p_Size (x:Pg) (hok:okP x) {v:Value} {w:World} (hv:pA w x v):Calls Tryz.prog 9 #[v] w fun e w'=>e=.returned (.tuple #[.int .i64 (wrap64 (szTN x.threads)),.int .i64 (wrap64 (szTK x.threads))])/\Below w.heap.size w w':=by
 obtain ⟨a1,c1,a2,c2,a3,c3,rfl,_,_,Q⟩:=hv;obtain ⟨_,_,l3,z⟩:=hok;obtain ⟨sh,lk,a⟩:=x;simp only at *;have I:=Hd z;have E1:=Hd Q;clear z Q;generalize sh.length=n1 at *;generalize lk.length=n2 at *;obtain ⟨f,F⟩:=Qx a.length;rw [<- F] at l3 ⊢;have L:=Hd F;clear F;obtain ⟨Z,N⟩:=Qx (wrap64 (szTN a));obtain ⟨Y,J⟩:=Qx (wrap64 (szTK a));rw [<- N,<- J];have HZ:=Hd N;have HY:=Hd J;clear N J;have b:Hid (Below w.heap.size w (w.alloc (.cells #[.slice a1 n1 c1,.slice a2 n2 c2,.slice a3 f c3] 26))):=(Below.refl _ w).alloc (Nat.le_refl _) _;go_enter Tryz.func9,Tryz.ntmps9;go_wp2_with fail;go_loopg [4,5,13] (f+1) (fun m' v v2 u W=>∃ (i:Nat) (A K:Int),u=.int .i64 (i:Int)/\v=.int .i64 A/\v2=.int .i64 K/\i<=f/\m'=f-i+1/\A=wrap64 (szTN (a.take i))/\K=wrap64 (szTK (a.take i))/\Below w.heap.size w W)
 case atStart=>exact ⟨0,_,_,rfl,rfl,rfl,Nat.zero_le _,by omega,by simp [szTN,wrap64],by simp [szTK,wrap64],b.out⟩
 case round =>
  clear b;obtain ⟨i,A,K,rfl,rfl,rfl,hi,V,R,hK,C⟩:=hrel;have HM:=Hd V;have P:=Hd R;have X:=Hd hK;have b:=Hd C;clear V C R hK;by_cases hin:i<f
  · have n : i < a.length := by have := L.out; omega
    have H:a[i]? = some a[i]:=List.getElem?_eq_getElem n;have c:a[i]∈a:=List.getElem_mem n;have o:=Hd (take_one n);generalize a[i]=x at H c o;obtain ⟨_,U,S⟩:=I.out x c;rcases E1.out with e | ⟨g,q,rfl,_,T⟩
    · cases a with
      | nil=>simp at n
      | cons=>cases e
    obtain ⟨M,⟨ta,tc,s,_⟩,⟨G,E,r,O⟩,t⟩:=thsIn_get i x T H;obtain ⟨nm,lo,d,ps⟩:=x;simp only at *;have B:=lt_of_at M;simp only at B;have ac:(i:Int)<(f:Int):=by omega
    have HC:Hid (∀ W,Below w.heap.size w W->Calls Tryz.prog 30 #[.slice G d.length E] W fun e' w'=>e'=.returned (.tuple #[.int .i64 (wrap64 (szNs d)),.int .i64 (wrap64 (szKs d))])/\Below W.heap.size W w'):=fun W hW=>p_size d S U G E W (stsAt_below O hW)
    have D:=b.out;have au:=cb D B M;have s:=cb D B s;have r:=cb D B r;have t:=cb D B t;have o:Hid (szTN (a.take (i+1))=szTN (a.take i)+szNs d/\szTK (a.take (i+1))=szTK (a.take i)+szKs d):=by
     rw [Hid,o.out];exact ⟨by rw [szTN_snoc],by rw [szTK_snoc]⟩
    clear H T n O U S c D M;obtain ⟨S1,k⟩:=Qx (wrap64 (szNs d));obtain ⟨K1,j⟩:=Qx (wrap64 (szKs d));rw [<- k,<- j] at HC;have l:=Hd (And.intro k j);clear k j;generalize lo.length=m1 at *;generalize d.length=m2 at *;have b:=Hd (b.out.alloc b.out.size (.cells #[.string nm,.slice ta m1 tc,.slice G m2 E,.int .i64 ps] 66));go_wp2_with fail;go_at_call 30;refine (HC.out _ b.out).mono ?_;rintro e w3 ⟨rfl,m⟩;have b:=Hd (b.out.trans (m.mono b.out.size));clear m;go_wp2_with fail;go_roundg (f-(i+1)+1)
    case measure=>have:=HM.out;omega
    case rel=>exact ⟨i+1,_,_,rfl,rfl,rfl,by omega,by omega,by rw [P.out,l.out.1,o.out.1];exact w_add _ _,by rw [X.out,l.out.2,o.out.2];exact w_add _ _,b.out⟩
  · have : i = f := by omega
    subst this;have p:Hid (A=Z):=by
     rw [Hid,P.out,HZ.out,List.take_of_length_le (by have:=L.out;omega)]
    have y:Hid (K=Y):=by
     rw [Hid,X.out,HY.out,List.take_of_length_le (by have:=L.out;omega)]
    obtain rfl:A=Z:=p.out;obtain rfl:K=Y:=y.out;clear p y;go_wp2_with fail;go_ret2;exact ⟨rfl,b.out⟩
mutual
def dpS:St->Int | .mk k _ _ _ b l _=>if k=3\/k=4\/k=5 then max (dpSs b) (if l.isEmpty then 0 else dpSs l) else 0
def dpSs:List St->Int | []=>1 | s::r=>max (1+dpS s) (dpSs r)
end
theorem dpSs_pos:∀ l:List St,1<=dpSs l
 | []=>by simp [dpSs]
 | s::r=>by have:=dpSs_pos r;simp only [dpSs];omega
theorem dpS_pos (s:St):0<=dpS s:=by
 obtain ⟨k,n,o,e,b,l,a⟩:=s;have c:=dpSs_pos b;simp only [dpS];split
 · split <;> omega
 · omega
theorem dpSs_snoc:∀ (l:List St) (e:St),dpSs (l++[e])=max (dpSs l) (1+dpS e)
 | [],e=>by have:=dpS_pos e;simp only [List.nil_append,dpSs];omega
 | x::r,e=>by simp only [List.cons_append,dpSs,dpSs_snoc r e];omega
theorem dpSs_take (l:List St) (i:Nat):dpSs (l.take i)<=dpSs l:=by
 induction l generalizing i with
 | nil=>simp
 | cons x r ih =>
   cases i with
   | zero=>have:=dpSs_pos (x::r);simpa [dpSs] using this
   | succ i=>have:=ih i;simp only [List.take_succ_cons,dpSs];omega
theorem dpS_mem:∀ {l:List St} {x:St},x∈l->1+dpS x<=dpSs l
 | y :: r, x, h => by
   rcases List.mem_cons.1 h with rfl | h
   · simp only [dpSs];omega
   · have:=dpS_mem h;simp only [dpSs];omega
theorem dpS_yes {k:Int} {n o:ByteArray} {e:List Ex} {b l:List St} {a:Int} (h:k=3\/k=4\/k=5):dpS (.mk k n o e b l a)=max (dpSs b) (if l.isEmpty then 0 else dpSs l):=by simp only [dpS];rw [if_pos h]
theorem dpS_no {k:Int} {n o:ByteArray} {e:List Ex} {b l:List St} {a:Int} (h:¬ (k=3\/k=4\/k=5)):dpS (.mk k n o e b l a)=0:=by simp only [dpS];rw [if_neg h]
open Go.RowKit
set_option linter.unusedVariables false
theorem ret_i64 {a b:Int} (h:a=b):Ending.returned (.int .i64 a)=.returned (.int .i64 b):=by rw [h]
section
variable {k:Int} {nm ot:ByteArray} {ea ba la:Option Addr} {n3 ec n4 bc n5 lc:Nat} {ps:Int} (w:World)
def BlkTwo (w:World) (v u:Value) (e:Ending) (w':World):Prop:=∃ g,w.heap.size<=g/\e=.returned (.slice (some ⟨g,0,none⟩) 2 2)/\w'.cell? ⟨g,0,none⟩=some v/\w'.cell? ⟨g,1,none⟩=some u/\Below w.heap.size w w'
def BlkOne (w:World) (v:Value) (e:Ending) (w':World):Prop:=∃ g,w.heap.size<=g/\e=.returned (.slice (some ⟨g,0,none⟩) 1 1)/\w'.cell? ⟨g,0,none⟩=some v/\Below w.heap.size w w'
theorem blkTwo_mk (o:Obj) (T:TypeId) (v u:Value):BlkTwo w v u (.returned (.slice (some ⟨w.heap.size+1,0,none⟩) 2 2)) ((w.alloc o).alloc (.cells #[v,u] T)):=by
 have h:=Own.new (w.alloc o) T #[v,u];rw [World.size_alloc] at h;exact ⟨_,by omega,rfl,cr h,cr h,((Below.refl _ w).alloc (Nat.le_refl _) _).alloc (by rw [World.size_alloc];omega) _⟩
theorem blkOne_mk (o:Obj) (T:TypeId) (v:Value):BlkOne w v (.returned (.slice (some ⟨w.heap.size+1,0,none⟩) 1 1)) ((w.alloc o).alloc (.cells #[v] T)):=by
 have h:=Own.new (w.alloc o) T #[v];rw [World.size_alloc] at h;exact ⟨_,by omega,rfl,cr h,((Below.refl _ w).alloc (Nat.le_refl _) _).alloc (by rw [World.size_alloc];omega) _⟩
theorem blocks_two (hk:k=3\/k=4\/k=5) (h5:0<n5):Calls Tryz.prog 67 #[.agg #[.int .u8 k,.string nm,.string ot,.slice ea n3 ec,.slice ba n4 bc,.slice la n5 lc,.int .i64 ps]] w (BlkTwo w (.slice ba n4 bc) (.slice la n5 lc)):=by
 rcases hk with rfl | rfl | rfl
 all_goals
  go_enter Tryz.func67,Tryz.ntmps67;go_wp2_with fail;go_ret;exact blkTwo_mk _ _ _ _ _
theorem blocks_one (hk:k=3\/k=4\/k=5):Calls Tryz.prog 67 #[.agg #[.int .u8 k,.string nm,.string ot,.slice ea n3 ec,.slice ba n4 bc,.slice la 0 lc,.int .i64 ps]] w (BlkOne w (.slice ba n4 bc)):=by
 rcases hk with rfl | rfl | rfl
 all_goals
  go_enter Tryz.func67,Tryz.ntmps67;go_wp2_with fail;go_ret;exact blkOne_mk _ _ _ _
theorem blocks_none (q3:(k==3)=false) (q4:(k==4)=false) (q5:(k==5)=false):Calls Tryz.prog 67 #[.agg #[.int .u8 k,.string nm,.string ot,.slice ea n3 ec,.slice ba n4 bc,.slice la n5 lc,.int .i64 ps]] w fun e w'=>e=.returned (.slice none 0 0)/\Below w.heap.size w w':=by
 go_enter Tryz.func67,Tryz.ntmps67;go_wp2_with fail;go_ret;exact ⟨rfl,(Below.refl _ w).alloc (Nat.le_refl _) _⟩
end
def DPP (l:List St):Prop:=okSs l->l.length<=9223372036854775807->dpSs l<=1073741824->∀ (a:Option Addr) (c:Nat) (w:World),stsAt (fun _=>True) w l a ->
 Calls Tryz.prog 31 #[.slice a l.length c] w fun e w'=>e=.returned (.int .i64 (dpSs l))/\Below w.heap.size w w'
theorem p_deep_one {l:List St} (HI:∀ x∈l,DPP x.body/\DPP x.els):DPP l:=by
 intro HO hl hd a c w K;have HI:=Hd HI;have HO:=Hd HO;have E1:=Hd K;have HD:=Hd hd;obtain ⟨n,hn⟩:=Qx l.length;rw [<- hn] at hl ⊢;have HN:=Hd hn;obtain ⟨Z,hZ⟩:=Qx (dpSs l);rw [<- hZ];have HZ:=Hd hZ;clear K hn hZ hd;go_enter Tryz.func31,Tryz.ntmps31;go_wp2_with fail;go_loopg [3,10] (n+1) (fun m' v u W=>∃ (i:Nat) (A:Int),u=.int .i64 (i:Int)/\v=.int .i64 A/\i<=n/\m'=n-i+1/\A=dpSs (l.take i)-1/\Below w.heap.size w W)
 case atStart=>exact ⟨0,_,rfl,rfl,Nat.zero_le _,by omega,by simp [dpSs],Below.refl _ w⟩
 case round =>
  obtain ⟨i,A,rfl,rfl,hi,hm,hA,r⟩:=hrel;have HM:=Hd hm;have HA:=Hd hA;have d:=Hd r;clear hm r hA;by_cases hin:i<n
  · have Q : i < l.length := by have := HN.out; omega
    have g1:l[i]? = some l[i]:=List.getElem?_eq_getElem Q;have o:l[i]∈l:=List.getElem_mem Q;have HT:=Hd (take_one Q);generalize l[i]=x at g1 o HT;have ar:=okSs_mem HO.out x o;have ae:=dpS_mem o;have HX:=Hd (HI.out x o);rcases E1.out with e | ⟨g,q,rfl,_,e1⟩
    · cases l with
      | nil=>simp at Q
      | cons=>cases e
    have x1:=stsIn_get i x e1 g1;obtain ⟨k,R,T,es,y,t,U⟩:=x;obtain ⟨a0,a1,a2,⟨ea,Y,a3,w3⟩,⟨I,J,a4,X⟩,⟨L,M,a5,w5⟩,a6⟩:=x1;obtain ⟨_,⟨o3,o4⟩,o5,o6⟩:=ar;have N:=lt_of_at a0;simp only at N;have bv:(i:Int)<(n:Int):=by omega
    have H:=d.out;have a0:=cb H N a0;have a1:=cb H N a1;have a2:=cb H N a2;have a3:=cb H N a3;have a4:=cb H N a4;have a5:=cb H N a5;have a6:=cb H N a6;have s:Hid (dpSs (l.take (i+1))=max (A+1) (1+dpS (.mk k R T es y t U))):=by
     rw [Hid,HT.out,dpSs_snoc,HA.out];omega
    have a8:=Hd ae;clear ae;have ah:Hid (0<=A/\A<=1073741823):=by
     have K:=dpSs_pos (l.take i);have h2:=dpSs_take l i;have:=HD.out;rw [Hid,HA.out];omega
    have a7:0<=A:=ah.out.1;have cc:A<=1073741823:=ah.out.2;by_cases hk:k=3\/k=4\/k=5
    · have HK := Hd hk
      have C:1+dpSs y<=1073741824/\(t.isEmpty=false->1+dpSs t<=1073741824):=by
       have K:=a8.out;have h2:=HD.out;rw [dpS_yes hk] at K;exact ⟨by omega,fun h=>by rw [h] at K;simp only [Bool.false_eq_true,if_false] at K;omega⟩
      have b4:=dpSs_pos y;have O:∀ W,Below w.heap.size w W->Calls Tryz.prog 31 #[.slice I y.length J] W fun e' w'=>e'=.returned (.int .i64 (dpSs y))/\Below W.heap.size W w':=fun W hW=>HX.out.1 o4 o3 (show dpSs y<=1073741824 by have:=C.1;omega) I J W (stsAt_below X hW)
      have ag:=Hd O;replace s:Hid (dpSs (l.take (i+1))=max (A+1) (1+max (dpSs y) (if t.isEmpty then 0 else dpSs t))):=by rw [Hid,s.out,dpS_yes hk]
      have b1:1+dpSs y<=1073741824:=C.1;clear O;by_cases hel:t=[]
      · subst hel
        replace s:Hid (max A (dpSs y)=dpSs (l.take (i+1))-1):=by rw [Hid,s.out];simp only [List.isEmpty_nil,if_true];omega
        clear C hk g1 e1 Q w3 X w5 o3 o4 o5 o6 HX o H;generalize dpSs y=D1 at *;generalize es.length=n3 at *;generalize y.length=n4 at *;simp only [List.length_nil] at *;have O1:=Own.new wr 120 #[.int .u8 k,.string R,.string T,.slice ea n3 Y,.slice I n4 J,.slice L 0 M,.int .i64 U];replace d:=Hd (d.out.alloc d.out.size (.cells #[.int .u8 k,.string R,.string T,.slice ea n3 Y,.slice I n4 J,.slice L 0 M,.int .i64 U] 120));go_wp2_with (refine ld rowSt rfl rfl rfl O1 rfl ?_);go_at_call 67;refine (blocks_one _ HK.out).mono ?_;rintro e w3 ⟨F,a9,rfl,m,b⟩;have f:=lt_of_at m;simp only at f;replace d:=Hd (d.out.trans (b.mono d.out.size));clear b O1;go_wp2_with fail;go_loopg [3,17] 2 (fun m' v u W=>∃ j:Nat,j<=1/\m'=2-j/\u=.int .i64 (j:Int)/\v=.int .i64 (match j with | 0=>A | _=>max A D1)/\Below w.heap.size w W/\W.cell? ⟨F,0,none⟩=some (.slice I n4 J)/\F<W.heap.size)
        case atStart=>exact ⟨0,by omega,by omega,rfl,rfl,d.out,m,f⟩
        case round =>
         clear d m f;obtain ⟨j,hj,aq,rfl,hv,r,m,f⟩:=hrel;have d:=Hd r;clear r;obtain rfl | rfl:j=0\/j=1:=by omega
         · obtain rfl := hv
           go_wp2_with fail;go_at_call 31;refine (ag.out _ d.out).mono ?_;rintro e X ⟨rfl,b⟩;have G:=Hd (d.out.trans (b.mono d.out.size));have E:=Hd ((b.cell (p:=⟨F,0,none⟩) f).trans m);have D:=Hd (Nat.lt_of_lt_of_le f b.size);clear b m;go_wp2_with fail;go_roundg 1
           case measure=>omega
           case rel=>exact ⟨1,by omega,by omega,rfl,rfl,G.out,E.out,D.out⟩
         · obtain rfl := hv
           go_wp2_with fail;go_roundg (n-(i+1)+1)
           case measure=>have:=HM.out;omega
           case rel=>exact ⟨i+1,_,rfl,rfl,by omega,by omega,s.out,d.out⟩
      · have B : t.isEmpty = false := by cases t with | nil => exact absurd rfl hel | cons => rfl
        have P:∀ W,Below w.heap.size w W->Calls Tryz.prog 31 #[.slice L t.length M] W fun e' w'=>e'=.returned (.int .i64 (dpSs t))/\Below W.heap.size W w':=fun W hW=>HX.out.2 o6 o5 (show dpSs t<=1073741824 by have:=C.2 B;omega) L M W (stsAt_below w5 hW)
        have aw:=Hd P;have b3:1+dpSs t<=1073741824:=C.2 B;have b0:=dpSs_pos t;replace s:Hid (max A (max (dpSs y) (dpSs t))=dpSs (l.take (i+1))-1):=by rw [Hid,s.out,B];simp only [Bool.false_eq_true,if_false];omega
        have h0:0<t.length:=by cases t with | nil=>exact absurd rfl hel | cons=>simp
        clear C hk hel B P g1 e1 Q w3 X w5 o3 o4 o5 o6 HX o H;generalize dpSs y=D1 at *;generalize dpSs t=D2 at *;generalize es.length=n3 at *;generalize y.length=n4 at *;generalize t.length=n5 at *;have O1:=Own.new wr 120 #[.int .u8 k,.string R,.string T,.slice ea n3 Y,.slice I n4 J,.slice L n5 M,.int .i64 U];replace d:=Hd (d.out.alloc d.out.size (.cells #[.int .u8 k,.string R,.string T,.slice ea n3 Y,.slice I n4 J,.slice L n5 M,.int .i64 U] 120));go_wp2_with (refine ld rowSt rfl rfl rfl O1 rfl ?_);go_at_call 67;refine (blocks_two _ HK.out h0).mono ?_;rintro e w3 ⟨F,a9,rfl,m,z,b⟩;have f:=lt_of_at m;simp only at f;replace d:=Hd (d.out.trans (b.mono d.out.size));clear b O1;go_wp2_with fail;go_loopg [3,17] 3 (fun m' v u W=>∃ j:Nat,j<=2/\m'=3-j/\u=.int .i64 (j:Int)/\v=.int .i64 (match j with | 0=>A | 1=>max A D1 | _=>max A (max D1 D2))/\Below w.heap.size w W/\W.cell? ⟨F,0,none⟩=some (.slice I n4 J)/\W.cell? ⟨F,1,none⟩=some (.slice L n5 M)/\F<W.heap.size)
        case atStart=>exact ⟨0,by omega,by omega,rfl,rfl,d.out,m,z,f⟩
        case round =>
         clear d m z f;obtain ⟨j,hj,aq,rfl,hv,r,m,z,f⟩:=hrel;have d:=Hd r;clear r;obtain rfl | rfl | rfl:j=0\/j=1\/j=2:=by omega
         · obtain rfl := hv
           go_wp2_with fail;go_at_call 31;refine (ag.out _ d.out).mono ?_;rintro e X ⟨rfl,b⟩;have G:=Hd (d.out.trans (b.mono d.out.size));have E:=Hd ((b.cell (p:=⟨F,0,none⟩) f).trans m);have S:=Hd ((b.cell (p:=⟨F,1,none⟩) f).trans z);have D:=Hd (Nat.lt_of_lt_of_le f b.size);clear b m z;go_wp2_with fail;go_roundg 2
           case measure=>omega
           case rel=>exact ⟨1,by omega,by omega,rfl,rfl,G.out,E.out,S.out,D.out⟩
         · obtain rfl := hv
           go_wp2_with fail;go_at_call 31;refine (aw.out _ d.out).mono ?_;rintro e X ⟨rfl,b⟩;have G:=Hd (d.out.trans (b.mono d.out.size));have E:=Hd ((b.cell (p:=⟨F,0,none⟩) f).trans m);have S:=Hd ((b.cell (p:=⟨F,1,none⟩) f).trans z);have D:=Hd (Nat.lt_of_lt_of_le f b.size);clear b m z;go_wp2_with fail;go_roundg 1
           case measure=>omega
           case rel=>exact ⟨2,by omega,by omega,rfl,rfl,G.out,E.out,S.out,D.out⟩
         · obtain rfl := hv
           go_wp2_with fail;go_roundg (n-(i+1)+1)
           case measure=>have:=HM.out;omega
           case rel=>exact ⟨i+1,_,rfl,rfl,by omega,by omega,s.out,d.out⟩
    · replace s : Hid (A = dpSs (l.take (i + 1)) - 1) := by rw [Hid, s.out, dpS_no hk]; omega
      have q3:(k==3)=false:=by simp;omega
      have q4:(k==4)=false:=by simp;omega
      have q5:(k==5)=false:=by simp;omega
      clear hk g1 e1 Q w3 X w5 o3 o4 o5 o6 HX o H;generalize es.length=n3 at *;generalize y.length=n4 at *;generalize t.length=n5 at *;have O1:=Own.new wr 120 #[.int .u8 k,.string R,.string T,.slice ea n3 Y,.slice I n4 J,.slice L n5 M,.int .i64 U];replace d:=Hd (d.out.alloc d.out.size (.cells #[.int .u8 k,.string R,.string T,.slice ea n3 Y,.slice I n4 J,.slice L n5 M,.int .i64 U] 120));go_wp2_with (refine ld rowSt rfl rfl rfl O1 rfl ?_);go_at_call 67;refine (blocks_none _ q3 q4 q5).mono ?_;rintro e w3 ⟨rfl,b⟩;replace d:=Hd (d.out.trans (b.mono d.out.size));clear b O1 q3 q4 q5;go_wp2_with fail;go_loopg [3,17] 1 (fun m' v u W=>m'=1/\u=.int .i64 0/\v=.int .i64 A/\Below w.heap.size w W)
      case atStart=>exact ⟨rfl,rfl,rfl,d.out⟩
      case round =>
       clear d;obtain ⟨_,rfl,rfl,r⟩:=hrel;have d:=Hd r;clear r;go_wp2_with fail;go_roundg (n-(i+1)+1)
       case measure=>have:=HM.out;omega
       case rel=>exact ⟨i+1,_,rfl,rfl,by omega,by omega,s.out,d.out⟩
  · have : i = n := by omega
    subst this;have V:Hid (A+1=Z):=by
     rw [Hid,HA.out,HZ.out,List.take_of_length_le (by have:=HN.out;omega)];omega
    have au:1<=Z/\Z<=1073741824:=by
     have K:=dpSs_pos l;have:=HD.out;rw [HZ.out];exact ⟨K,this⟩
    obtain ⟨cd,b7⟩:=au;have b5:0<=A:=by have:=V.out;omega
    have a7:A<=1073741823:=by have:=V.out;omega
    go_wp2_with fail;go_ret;exact ⟨ret_i64 V.out,d.out⟩
theorem p_deep_subs:∀ l:List St,∀ x∈l,DPP x.body/\DPP x.els:=by
 intro l;induction l using Sts.ind with
 | h0=>intro x c;cases c
 | h1 k n o e b l a r hb hl hr =>
   intro x c;rcases List.mem_cons.1 c with rfl | c
   · exact ⟨p_deep_one hb,p_deep_one hl⟩
   · exact hr x c
theorem p_deep (l:List St):DPP l:=p_deep_one (p_deep_subs l)
open Go.RowKit
set_option linter.unusedVariables false
def dpT:List Th->Int | []=>0 | t::r=>max (dpSs t.body) (dpT r)
theorem dpT_snoc:∀ (l:List Th) (e:Th),dpT (l++[e])=max (dpT l) (dpSs e.body)
 | [],e=>by have:=dpSs_pos e.body;simp only [List.nil_append,dpT];omega
 | x::r,e=>by simp only [List.cons_append,dpT,dpT_snoc r e];omega
theorem dpT_mem:∀ {l:List Th} {x:Th},x∈l->dpSs x.body<=dpT l
 | y :: r, x, h => by
   rcases List.mem_cons.1 h with rfl | h
   · simp only [dpT];omega
   · have:=dpT_mem h;simp only [dpT];omega
theorem p_Deep (x:Pg) (hok:okP x) (hd:dpT x.threads<=1073741824) {v:Value} {w:World} (hv:pA w x v):Calls Tryz.prog 10 #[v] w fun e w'=>e=.returned (.int .i64 (dpT x.threads))/\Below w.heap.size w w':=by
 obtain ⟨a1,c1,a2,c2,V,U,rfl,_,_,L⟩:=hv;obtain ⟨_,_,X,s⟩:=hok;obtain ⟨sh,lk,c⟩:=x;simp only at *;have G:=Hd s;have E1:=Hd L;have HD:=Hd hd;clear s L hd;generalize sh.length=n1 at *;generalize lk.length=n2 at *;obtain ⟨d,D⟩:=Qx c.length;rw [<- D] at X ⊢;have R:=Hd D;clear D;obtain ⟨Z,I⟩:=Qx (dpT c);rw [<- I];have T:=Hd I;clear I;have b:Hid (Below w.heap.size w (w.alloc (.cells #[.slice a1 n1 c1,.slice a2 n2 c2,.slice V d U] 26))):=(Below.refl _ w).alloc (Nat.le_refl _) _;go_enter Tryz.func10,Tryz.ntmps10;go_wp2_with fail;go_loopg [3,9] (d+1) (fun m' v u W=>∃ (i:Nat) (A:Int),u=.int .i64 (i:Int)/\v=.int .i64 A/\i<=d/\m'=d-i+1/\A=dpT (c.take i)/\Below w.heap.size w W)
 case atStart=>exact ⟨0,_,rfl,rfl,Nat.zero_le _,by omega,by simp [dpT],b.out⟩
 case round =>
  clear b;obtain ⟨i,A,rfl,rfl,hi,Q,M,y⟩:=hrel;have Y:=Hd Q;have K:=Hd M;have b:=Hd y;clear Q y M;by_cases hin:i<d
  · have k : i < c.length := by have := R.out; omega
    have F:c[i]? = some c[i]:=List.getElem?_eq_getElem k;have a:c[i]∈c:=List.getElem_mem k;have B:=Hd (take_one k);have r:=dpT_mem a;generalize c[i]=x at F a B r;obtain ⟨_,P,N⟩:=G.out x a;rcases E1.out with e | ⟨g,q,rfl,_,O⟩
    · cases c with
      | nil=>simp at k
      | cons=>cases e
    obtain ⟨H,⟨ta,tc,n,_⟩,⟨E,C,m,J⟩,p⟩:=thsIn_get i x O F;obtain ⟨nm,lo,f,ps⟩:=x;simp only at *;have t:=lt_of_at H;simp only at t;have S:(i:Int)<(d:Int):=by omega
    have o:dpSs f<=1073741824:=by have:=HD.out;omega
    have HC:Hid (∀ W,Below w.heap.size w W->Calls Tryz.prog 31 #[.slice E f.length C] W fun e' w'=>e'=.returned (.int .i64 (dpSs f))/\Below W.heap.size W w'):=fun W hW=>p_deep f N P o E C W (stsAt_below J hW)
    have z:=b.out;have al:=cb z t H;have n:=cb z t n;have m:=cb z t m;have p:=cb z t p;have B:Hid (max A (dpSs f)=dpT (c.take (i+1))):=by
     rw [Hid,B.out,dpT_snoc,K.out]
    clear F O k J P N a z H r o;generalize dpSs f=D1 at *;generalize lo.length=m1 at *;generalize f.length=m2 at *;have b:=Hd (b.out.alloc b.out.size (.cells #[.string nm,.slice ta m1 tc,.slice E m2 C,.int .i64 ps] 66));go_wp2_with fail;go_at_call 31;refine (HC.out _ b.out).mono ?_;rintro e w3 ⟨rfl,j⟩;have b:=Hd (b.out.trans (j.mono b.out.size));clear j;go_wp2_with fail;go_roundg (d-(i+1)+1)
    case measure=>have:=Y.out;omega
    case rel=>exact ⟨i+1,_,rfl,rfl,by omega,by omega,B.out,b.out⟩
  · have : i = d := by omega
    subst this;have l:Hid (A=Z):=by
     rw [Hid,K.out,T.out,List.take_of_length_le (by have:=R.out;omega)]
    obtain rfl:A=Z:=l.out;clear l;go_wp2_with fail;go_ret;exact ⟨rfl,b.out⟩
def nmOk (s:ByteArray):Prop:=s.size<=140737488355328
mutual
def fitE:Ex->Prop
 | .mk _ _ _ n ks _=>nmOk n/\64*ks.length<=140737488355328/\fitEs ks
def fitEs:List Ex->Prop
 | []=>True
 | e::r=>fitE e/\fitEs r
end
theorem fitEs_mem:∀ {l:List Ex},fitEs l->∀ x∈l,fitE x
 | [],_,x,hx=>by simp at hx
 | y :: r, h, x, hx => by
   rcases List.mem_cons.1 hx with rfl | hx
   · exact h.1
   · exact fitEs_mem h.2 x hx
theorem infoEx:(Tryz.prog.info? 167).map (fun i=>(i.zero,i.size,i.bytes))=some (some (.agg zEx),6,64):=by kernel_rfl
theorem below_setCells {B:Nat} {w:World} {g:Nat} (hg:B<=g):∀ (vs:List Value) (o:Nat) (W:World),Below B w W->Below B w (W.setCells g o vs)
 | [],_,_,h=>h
 | v::r,o,W,h=>below_setCells hg r (o+1) _ (h.setCell hg v)
theorem size_setCells (g:Nat):∀ (vs:List Value) (o:Nat) (W:World),(W.setCells g o vs).heap.size=W.heap.size
 | [],_,_=>rfl
 | v::r,o,W=>by rw [World.setCells,size_setCells g r,World.size_setCell]
theorem out_setCells (W:World) {g o o':Nat} (vs:List Value) (h:o'<o) {v:Value} (hv:W.cell? ⟨g,o',none⟩=some v):(W.setCells g o vs).cell? ⟨g,o',none⟩=some v:=by
 rw [World.cell?_setCells_out g vs o W ⟨g,o',none⟩ (fun _ _=>.inl h)];exact hv
theorem there_below {W W':World} {g o n:Nat} (h:W.there g o n) (hg:g<W.heap.size) (hb:Below W.heap.size W W'):W'.there g o n:=fun j hj=>by
 obtain ⟨h1,h2⟩:=h j hj
 rw [hb.cell (p:=⟨g,o+j,none⟩) hg,hb.frozen (p:=⟨g,o+j,none⟩) hg]
 exact ⟨h1,h2⟩
theorem there_part {W:World} {g n:Nat} (h:W.there g 0 n) {o k:Nat} (hk:o+k<=n):W.there g o k:=fun j hj=>by
 have:=h (o+j) (by omega)
 simpa using this
theorem there_made {W:World} {B g:Nat} {T:TypeId} {k n:Nat} {xs:List Value} (h:W.ownsRow B T k (.slice (some ⟨g,0,none⟩) n n) n xs):W.there g 0 (n*k):=by
 obtain ⟨r,h | ⟨o,d,f,l,_,i,_,_,v,s⟩⟩:=h
 · obtain ⟨a,m⟩:=h;cases a
 · have c : g = o /\ n = d := by
    injection l with a m h3;injection a with a;injection a with a;exact ⟨a,h3⟩
   obtain ⟨q,p⟩:=c;subst q;subst p;intro j t;have b:j<f.size:=by omega
   rw [Nat.zero_add];exact ⟨by rw [cell_of_row _ _ j _ _ _ i,Array.getElem?_eq_getElem b];rfl,by simp only [World.frozen?,i];rfl⟩
theorem uf_made {W:World} {B g:Nat} {T:TypeId} {k n:Nat} {xs:List Value} (h:W.ownsRow B T k (.slice (some ⟨g,0,none⟩) n n) n xs):∀ o:Nat,W.frozen? ⟨g,o,none⟩=false:=by
 obtain ⟨m,h | ⟨j,f,l,c,_,d,_,_,q,p⟩⟩:=h
 · obtain ⟨a,i⟩:=h;cases a
 · have b : g = j := by
    injection c with a i h3;injection a with a;injection a with a
   subst b;intro o;simp only [World.frozen?,d];rfl
theorem made_lt {W:World} {B g:Nat} {T:TypeId} {k n:Nat} {xs:List Value} (h:W.ownsRow B T k (.slice (some ⟨g,0,none⟩) n n) n xs):g<W.heap.size:=by
 obtain ⟨m,h | ⟨j,f,l,c,_,d,_⟩⟩:=h
 · obtain ⟨a,i⟩:=h;cases a
 · have b : g = j := by
    injection c with a i h3;injection a with a;injection a with a
   subst b;exact (Array.getElem?_eq_some_iff.1 d).1
theorem there_setCells2 {W:World} {g n:Nat} (h:W.there g 0 n) (o:Nat) (vs:List Value):(W.setCells g o vs).there g 0 n:=World.there_setCells h g o vs
theorem cellsIn_setCells {W:World} {g o:Nat} {vs:List Value} (h:W.there g o vs.length):cellsIn (W.setCells g o vs) g o vs:=fun j v hj=>by
 have hjl:j<vs.length:=(List.getElem?_eq_some_iff.1 hj).1
 have:=World.cell?_setCells_in g vs o W (fun i hi=>(h i hi).1) j hjl
 rw [this]
 rw [List.getElem?_eq_getElem hjl] at hj
 exact hj
def Uf (w:World) (b:Nat):Prop:=∀ o:Nat,w.frozen? ⟨b,o,none⟩=false
def Rf (B:Nat) (w:World) (b:Nat):Prop:=B<=b/\Uf w b
def Chg (B:Nat) (W W':World):Prop:=∀ b,B<=b->b<W.heap.size->(∀ o v,W.cell? ⟨b,o,none⟩=some v->W'.cell? ⟨b,o,none⟩=some v)/\(Uf W b->Uf W' b)
theorem uf_below {W W':World} {b:Nat} (h:Uf W b) (hb:Below W.heap.size W W') (hlt:b<W.heap.size):Uf W' b:=fun o=>by
 rw [hb.frozen (p:=⟨b,o,none⟩) hlt];exact h o
theorem chg_below {B:Nat} {W W':World} (hb:Below W.heap.size W W'):Chg B W W':=fun b _ hlt=>⟨fun o v hv=>by rw [hb.cell (p:=⟨b,o,none⟩) hlt];exact hv,fun h=>uf_below h hb hlt⟩
theorem uf_setCell {W:World} {b:Nat} (h:Uf W b) (p:Addr) (v:Value):Uf (W.setCell p v) b:=fun o=>by rw [World.frozen?_setCell];exact h o
theorem uf_setCells {b g:Nat} : ∀ (vs:List Value) (o:Nat) (W:World),Uf W b->Uf (W.setCells g o vs) b
 | [],_,_,h=>h
 | v::r,o,W,h=>uf_setCells r (o+1) _ (uf_setCell h _ _)
theorem chg_setCells {B g:Nat} (W:World) (o:Nat) (vs:List Value) (hg:g<B):Chg B W (W.setCells g o vs):=fun b hb _=>⟨fun o' v hv=>by
 rw [World.cell?_setCells_out g vs o W ⟨b,o',none⟩ (fun e _=>absurd (show b=g from e) (by omega))];exact hv,fun h=>uf_setCells vs o W h⟩
theorem chg_setCell {B g:Nat} (W:World) (o:Nat) (v:Value) (hg:g<B):Chg B W (W.setCell ⟨g,o,none⟩ v):=chg_setCells W o [v] hg
theorem chg_setRow {B g:Nat} (W:World) (cs:Array Value) (hg:g<B):Chg B W (W.setRow g cs):=fun b hb _=>by
 have k:(W.setRow g cs).heap[b]? = W.heap[b]?:=setRow_other cs (by omega)
 exact ⟨fun o v hv=>by simp only [World.cell?,k];exact hv,fun h o=>by have:=h o;simp only [World.frozen?,k] at this ⊢;exact this⟩
theorem exsAt_rf {B B':Nat} {W W':World} {l:List Ex} {a:Option Addr} (h:exsAt (Rf B W) W l a) (hc:Chg B W W') (hB:B'<=B):exsAt (Rf B' W') W' l a :=
 exsAt_stays (R:=fun b=>Rf B W b/\b<W.heap.size) (fun b o v hb hv=>(hc b hb.1.1 hb.2).1 o v hv) (fun b hb=>⟨Nat.le_trans hB hb.1.1,(hc b hb.1.1 hb.2).2 hb.1.2⟩) (exsAt_in h)
theorem exsAt_rfw {B B':Nat} {W:World} {l:List Ex} {a:Option Addr} (h:exsAt (Rf B W) W l a) (hB:B'<=B):exsAt (Rf B' W) W l a:=exsAt_stays (Stays.refl _ W) (fun b hb=>⟨Nat.le_trans hB hb.1,hb.2⟩) h
theorem stsAt_rf {B B':Nat} {W W':World} {l:List St} {a:Option Addr} (h:stsAt (Rf B W) W l a) (hc:Chg B W W') (hB:B'<=B):stsAt (Rf B' W') W' l a :=
 stsAt_stays (R:=fun b=>Rf B W b/\b<W.heap.size) (fun b o v hb hv=>(hc b hb.1.1 hb.2).1 o v hv) (fun b hb=>⟨Nat.le_trans hB hb.1.1,(hc b hb.1.1 hb.2).2 hb.1.2⟩) (stsAt_in h)
theorem stsAt_rfw {B B':Nat} {W:World} {l:List St} {a:Option Addr} (h:stsAt (Rf B W) W l a) (hB:B'<=B):stsAt (Rf B' W) W l a:=stsAt_stays (Stays.refl _ W) (fun b hb=>⟨Nat.le_trans hB hb.1,hb.2⟩) h
theorem dcsAt_rf {B B':Nat} {W W':World} {l:List Dc} {a:Option Addr} (h:dcsAt (Rf B W) W l a) (hc:Chg B W W') (hB:B'<=B):dcsAt (Rf B' W') W' l a :=
 dcsAt_stays (R:=fun b=>Rf B W b/\b<W.heap.size) (fun b o v hb hv=>(hc b hb.1.1 hb.2).1 o v hv) (fun b hb=>⟨Nat.le_trans hB hb.1.1,(hc b hb.1.1 hb.2).2 hb.1.2⟩) (dcsAt_in h)
theorem dcsAt_rfw {B B':Nat} {W:World} {l:List Dc} {a:Option Addr} (h:dcsAt (Rf B W) W l a) (hB:B'<=B):dcsAt (Rf B' W) W l a:=dcsAt_stays (Stays.refl _ W) (fun b hb=>⟨Nat.le_trans hB hb.1,hb.2⟩) h
theorem thsAt_rf {B B':Nat} {W W':World} {l:List Th} {a:Option Addr} (h:thsAt (Rf B W) W l a) (hc:Chg B W W') (hB:B'<=B):thsAt (Rf B' W') W' l a :=
 thsAt_stays (R:=fun b=>Rf B W b/\b<W.heap.size) (fun b o v hb hv=>(hc b hb.1.1 hb.2).1 o v hv) (fun b hb=>⟨Nat.le_trans hB hb.1.1,(hc b hb.1.1 hb.2).2 hb.1.2⟩) (thsAt_in h)
theorem thsAt_rfw {B B':Nat} {W:World} {l:List Th} {a:Option Addr} (h:thsAt (Rf B W) W l a) (hB:B'<=B):thsAt (Rf B' W) W l a:=thsAt_stays (Stays.refl _ W) (fun b hb=>⟨Nat.le_trans hB hb.1,hb.2⟩) h
theorem p_clone (s:ByteArray) (h:nmOk s) (w:World):Calls Tryz.prog 63 #[.string s] w fun e w'=>e=.returned (.string s)/\Below w.heap.size w w':=by
 unfold nmOk at h;have c:Hid (Calls Tryz.prog 124 #[.string s] w fun e w'=>e=.returned (.string s)/\Below w.heap.size w w'):=Tryz.stringslite_Clone s w (by omega)
 clear h;go_enter Tryz.func63,Tryz.ntmps63;go_wp2_with fail;go_at_call 124;refine c.out.mono ?_;rintro e d ⟨rfl,a⟩;have b:=Hd a;clear a;go_wp2_with fail;go_ret;exact ⟨rfl,b.out⟩
mutual
def fitS:St->Prop
 | .mk _ n o e b l _=>nmOk n/\nmOk o/\(64*e.length<=140737488355328/\fitEs e)/\(120*b.length<=140737488355328/\fitSs b)/\120*l.length<=140737488355328/\fitSs l
def fitSs:List St->Prop
 | []=>True
 | x::r=>fitS x/\fitSs r
end
theorem fitSs_mem:∀ {l:List St},fitSs l->∀ x∈l,fitS x
 | [],_,x,hx=>by simp at hx
 | y :: r, h, x, hx => by
   rcases List.mem_cons.1 hx with rfl | hx
   · exact h.1
   · exact fitSs_mem h.2 x hx
def fitD (d:Dc):Prop:=nmOk d.name
def fitDs (l:List Dc):Prop:=∀ d∈l,fitD d
theorem fitDs_mem {l:List Dc} (h:fitDs l):∀ x∈l,fitD x:=h
def fitT (t:Th):Prop:=nmOk t.name/\(32*t.locals.length<=140737488355328/\fitDs t.locals)/\120*t.body.length<=140737488355328/\fitSs t.body
def fitTs (l:List Th):Prop:=∀ t∈l,fitT t
theorem fitTs_mem {l:List Th} (h:fitTs l):∀ x∈l,fitT x:=h
theorem exsIn_mv {B:Nat} {W W':World} {g lim:Nat} (hc:∀ o v,o<lim->W.cell? ⟨g,o,none⟩=some v->W'.cell? ⟨g,o,none⟩=some v) (hs:Chg B W W'):∀ (l:List Ex) (q:Nat),q+l.length*6<=lim->exsIn (Rf B W) W l g q->exsIn (Rf B W') W' l g q
 | [],q,_,_=>trivial
 | .mk k op wd nm ks ps :: r, q, ho, h => by
   simp only [List.length_cons] at ho
   obtain ⟨⟨c0,c1,c2,c3,⟨a,cap,c4,h4⟩,c5⟩,hr⟩:=h
   exact ⟨⟨hc _ _ (by omega) c0,hc _ _ (by omega) c1,hc _ _ (by omega) c2,hc _ _ (by omega) c3,⟨a,cap,hc _ _ (by omega) c4,exsAt_rf h4 hs (Nat.le_refl _)⟩,hc _ _ (by omega) c5⟩,exsIn_mv hc hs r (q+6) (by omega) hr⟩
theorem exsIn_snoc {R:Nat->Prop} {w:World} {b:Nat} : ∀ (l:List Ex) (q:Nat) (x:Ex),exsIn R w l b q->exIn R w x b (q+l.length*6)->exsIn R w (l++[x]) b q
 | [],q,x,_,h=>⟨by simpa using h,trivial⟩
 | y::r,q,x,h,hx=>⟨h.1,exsIn_snoc (R:=R) r (q+6) x h.2 (by rw [show q+6+r.length*6=q+(y::r).length*6 by simp;omega];exact hx)⟩
theorem dcsIn_mv {B:Nat} {W W':World} {g lim:Nat} (hc:∀ o v,o<lim->W.cell? ⟨g,o,none⟩=some v->W'.cell? ⟨g,o,none⟩=some v) (hs:Chg B W W'):∀ (l:List Dc) (q:Nat),q+l.length*3<=lim->dcsIn W l g q->dcsIn W' l g q
 | [],q,_,_=>trivial
 | d :: r, q, ho, h => by
   simp only [List.length_cons] at ho
   obtain ⟨⟨c0,c1,c2⟩,hr⟩:=h
   exact ⟨⟨hc _ _ (by omega) c0,hc _ _ (by omega) c1,hc _ _ (by omega) c2⟩,dcsIn_mv hc hs r (q+3) (by omega) hr⟩
theorem dcsIn_snoc {R:Nat->Prop} {w:World} {b:Nat} : ∀ (l:List Dc) (q:Nat) (x:Dc),dcsIn w l b q->dcIn w x b (q+l.length*3)->dcsIn w (l++[x]) b q
 | [],q,x,_,h=>⟨by simpa using h,trivial⟩
 | y::r,q,x,h,hx=>⟨h.1,dcsIn_snoc (R:=R) r (q+3) x h.2 (by rw [show q+3+r.length*3=q+(y::r).length*3 by simp;omega];exact hx)⟩
theorem stsIn_mv {B:Nat} {W W':World} {g lim:Nat} (hc:∀ o v,o<lim->W.cell? ⟨g,o,none⟩=some v->W'.cell? ⟨g,o,none⟩=some v) (hs:Chg B W W'):∀ (l:List St) (q:Nat),q+l.length*7<=lim->stsIn (Rf B W) W l g q->stsIn (Rf B W') W' l g q
 | [],q,_,_=>trivial
 | .mk k n o e bd el p :: r, q, ho, h => by
   simp only [List.length_cons] at ho
   obtain ⟨⟨c0,c1,c2,⟨a3,p3,c3,h3⟩,⟨a4,p4,c4,h4⟩,⟨a5,p5,c5,h5⟩,c6⟩,hr⟩:=h
   exact ⟨⟨hc _ _ (by omega) c0,hc _ _ (by omega) c1,hc _ _ (by omega) c2,⟨a3,p3,hc _ _ (by omega) c3,exsAt_rf h3 hs (Nat.le_refl _)⟩,⟨a4,p4,hc _ _ (by omega) c4,stsAt_rf h4 hs (Nat.le_refl _)⟩,⟨a5,p5,hc _ _ (by omega) c5,stsAt_rf h5 hs (Nat.le_refl _)⟩,hc _ _ (by omega) c6⟩,stsIn_mv hc hs r (q+7) (by omega) hr⟩
theorem stsIn_snoc {R:Nat->Prop} {w:World} {b:Nat} : ∀ (l:List St) (q:Nat) (x:St),stsIn R w l b q->stIn R w x b (q+l.length*7)->stsIn R w (l++[x]) b q
 | [],q,x,_,h=>⟨by simpa using h,trivial⟩
 | y::r,q,x,h,hx=>⟨h.1,stsIn_snoc (R:=R) r (q+7) x h.2 (by rw [show q+7+r.length*7=q+(y::r).length*7 by simp;omega];exact hx)⟩
theorem thsIn_mv {B:Nat} {W W':World} {g lim:Nat} (hc:∀ o v,o<lim->W.cell? ⟨g,o,none⟩=some v->W'.cell? ⟨g,o,none⟩=some v) (hs:Chg B W W'):∀ (l:List Th) (q:Nat),q+l.length*4<=lim->thsIn (Rf B W) W l g q->thsIn (Rf B W') W' l g q
 | [],q,_,_=>trivial
 | t :: r, q, ho, h => by
   simp only [List.length_cons] at ho
   obtain ⟨⟨c0,⟨a3,p3,c3,h3⟩,⟨a4,p4,c4,h4⟩,c5⟩,hr⟩:=h
   exact ⟨⟨hc _ _ (by omega) c0,⟨a3,p3,hc _ _ (by omega) c3,dcsAt_rf h3 hs (Nat.le_refl _)⟩,⟨a4,p4,hc _ _ (by omega) c4,stsAt_rf h4 hs (Nat.le_refl _)⟩,hc _ _ (by omega) c5⟩,thsIn_mv hc hs r (q+4) (by omega) hr⟩
theorem thsIn_snoc {R:Nat->Prop} {w:World} {b:Nat} : ∀ (l:List Th) (q:Nat) (x:Th),thsIn R w l b q->thIn R w x b (q+l.length*4)->thsIn R w (l++[x]) b q
 | [],q,x,_,h=>⟨by simpa using h,trivial⟩
 | y::r,q,x,h,hx=>⟨h.1,thsIn_snoc (R:=R) r (q+4) x h.2 (by rw [show q+4+r.length*4=q+(y::r).length*4 by simp;omega];exact hx)⟩
theorem cp_step_E {G B2 n i:Nat} {W:World} {l:List Ex} {x:Ex} (il:i<l.length) (hx:l[i]? = some x) (hn:l.length<=n) (hB:G+1<=B2) (hth:W.there G 0 (n*6)) (hI:exsIn (Rf (G+1) W) W (l.take i) G 0) {a:Option Addr} {c:Nat} (h1:exsAt (Rf B2 W) W x.kids a) :
 exsIn (Rf (G+1) (W.setCells G (i*6) (exCells x a c))) (W.setCells G (i*6) (exCells x a c)) (l.take (i+1)) G 0:=by
 have b:(exCells x a c).length=6:=rfl;have d:(l.take i).length=i:=by rw [List.length_take];omega
 have g:l[i]=x:=by rw [List.getElem?_eq_getElem il] at hx;exact Option.some.inj hx
 rw [take_one il,g];have k:Chg (G+1) W (W.setCells G (i*6) (exCells x a c)):=chg_setCells W _ _ (by omega)
 have f:Chg B2 W (W.setCells G (i*6) (exCells x a c)):=chg_setCells W _ _ (by omega)
 have j:cellsIn (W.setCells G (i*6) (exCells x a c)) G (i*6) (exCells x a c):=cellsIn_setCells (there_part hth (by rw [b];omega))
 refine exsIn_snoc (R:=Rf (G+1) (W.setCells G (i*6) (exCells x a c))) _ 0 x (exsIn_mv (B:=G+1) (lim:=i*6) (fun o v ho hv=>out_setCells W _ ho hv) k _ 0 (by rw [d];omega) hI) ?_
 rw [d,Nat.zero_add];exact exIn_of ⟨a,c,rfl,exsAt_rf h1 f hB⟩ j
theorem cp_step_D {G B2 n i:Nat} {W:World} {l:List Dc} {x:Dc} (il:i<l.length) (hx:l[i]? = some x) (hn:l.length<=n) (hB:G+1<=B2) (hth:W.there G 0 (n*3)) (hI:dcsIn W (l.take i) G 0)  :
 dcsIn (W.setCells G (i*3) (dcCells x)) (l.take (i+1)) G 0:=by
 have a:(dcCells x).length=3:=rfl;have b:(l.take i).length=i:=by rw [List.length_take];omega
 have c:l[i]=x:=by rw [List.getElem?_eq_getElem il] at hx;exact Option.some.inj hx
 rw [take_one il,c];have f:Chg (G+1) W (W.setCells G (i*3) (dcCells x)):=chg_setCells W _ _ (by omega)
 have g:Chg B2 W (W.setCells G (i*3) (dcCells x)):=chg_setCells W _ _ (by omega)
 have d:cellsIn (W.setCells G (i*3) (dcCells x)) G (i*3) (dcCells x):=cellsIn_setCells (there_part hth (by rw [a];omega))
 refine dcsIn_snoc (R:=Rf (G+1) (W.setCells G (i*3) (dcCells x))) _ 0 x (dcsIn_mv (B:=G+1) (lim:=i*3) (fun o v ho hv=>out_setCells W _ ho hv) f _ 0 (by rw [b];omega) hI) ?_
 rw [b,Nat.zero_add];exact dcIn_of d
theorem cp_step_S {G B2 n i:Nat} {W:World} {l:List St} {x:St} (il:i<l.length) (hx:l[i]? = some x) (hn:l.length<=n) (hB:G+1<=B2) (hth:W.there G 0 (n*7)) (hI:stsIn (Rf (G+1) W) W (l.take i) G 0) {a3 a4 a5:Option Addr} {c3 c4 c5:Nat} (h3:exsAt (Rf B2 W) W x.e a3) (h4:stsAt (Rf B2 W) W x.body a4) (h5:stsAt (Rf B2 W) W x.els a5) :
 stsIn (Rf (G+1) (W.setCells G (i*7) (stCells x a3 c3 a4 c4 a5 c5))) (W.setCells G (i*7) (stCells x a3 c3 a4 c4 a5 c5)) (l.take (i+1)) G 0:=by
 have b:(stCells x a3 c3 a4 c4 a5 c5).length=7:=rfl;have c:(l.take i).length=i:=by rw [List.length_take];omega
 have d:l[i]=x:=by rw [List.getElem?_eq_getElem il] at hx;exact Option.some.inj hx
 rw [take_one il,d];have g:Chg (G+1) W (W.setCells G (i*7) (stCells x a3 c3 a4 c4 a5 c5)):=chg_setCells W _ _ (by omega)
 have a:Chg B2 W (W.setCells G (i*7) (stCells x a3 c3 a4 c4 a5 c5)):=chg_setCells W _ _ (by omega)
 have f:cellsIn (W.setCells G (i*7) (stCells x a3 c3 a4 c4 a5 c5)) G (i*7) (stCells x a3 c3 a4 c4 a5 c5):=cellsIn_setCells (there_part hth (by rw [b];omega))
 refine stsIn_snoc (R:=Rf (G+1) (W.setCells G (i*7) (stCells x a3 c3 a4 c4 a5 c5))) _ 0 x (stsIn_mv (B:=G+1) (lim:=i*7) (fun o v ho hv=>out_setCells W _ ho hv) g _ 0 (by rw [c];omega) hI) ?_
 rw [c,Nat.zero_add];exact stIn_of ⟨a3,c3,a4,c4,a5,c5,rfl,exsAt_rf h3 a hB,stsAt_rf h4 a hB,stsAt_rf h5 a hB⟩ f
theorem cp_step_T {G B2 n i:Nat} {W:World} {l:List Th} {x:Th} (il:i<l.length) (hx:l[i]? = some x) (hn:l.length<=n) (hB:G+1<=B2) (hth:W.there G 0 (n*4)) (hI:thsIn (Rf (G+1) W) W (l.take i) G 0) {a1 a2:Option Addr} {c1 c2:Nat} (h1:dcsAt (Rf B2 W) W x.locals a1) (h2:stsAt (Rf B2 W) W x.body a2) :
 thsIn (Rf (G+1) (W.setCells G (i*4) (thCells x a1 c1 a2 c2))) (W.setCells G (i*4) (thCells x a1 c1 a2 c2)) (l.take (i+1)) G 0:=by
 have b:(thCells x a1 c1 a2 c2).length=4:=rfl;have c:(l.take i).length=i:=by rw [List.length_take];omega
 have d:l[i]=x:=by rw [List.getElem?_eq_getElem il] at hx;exact Option.some.inj hx
 rw [take_one il,d];have g:Chg (G+1) W (W.setCells G (i*4) (thCells x a1 c1 a2 c2)):=chg_setCells W _ _ (by omega)
 have a:Chg B2 W (W.setCells G (i*4) (thCells x a1 c1 a2 c2)):=chg_setCells W _ _ (by omega)
 have f:cellsIn (W.setCells G (i*4) (thCells x a1 c1 a2 c2)) G (i*4) (thCells x a1 c1 a2 c2):=cellsIn_setCells (there_part hth (by rw [b];omega))
 refine thsIn_snoc (R:=Rf (G+1) (W.setCells G (i*4) (thCells x a1 c1 a2 c2))) _ 0 x (thsIn_mv (B:=G+1) (lim:=i*4) (fun o v ho hv=>out_setCells W _ ho hv) g _ 0 (by rw [c];omega) hI) ?_
 rw [c,Nat.zero_add];exact thIn_of ⟨a1,c1,a2,c2,rfl,dcsAt_rf h1 a hB,stsAt_rf h2 a hB⟩ f
end Go.Proofs.YtbgfkdiihnidaaaGreatDoor

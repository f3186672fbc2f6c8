import Derived.Test.YtbgfkdiihnidaaaGreatDoorQAG
set_option maxRecDepth 100000
set_option maxHeartbeats 20000000
namespace Go.Proofs.YtbgfkdiihnidaaaGreatDoor
open Go.RowKit
set_option linter.unusedVariables false
theorem at_step {c:Par} {k:Nat} (h:k<c.toks.length):(c.at (k+1)).length<(c.at k).length:=by rw [at_nx h];simp
def blkP (L:Int) (m:Nat) (d:Int) (ts:List Tk):PR (List St):=(openP L d ts).then fun _ r=>restP fnd L m d [] r
theorem blkP_short {L:Int} {m:Nat} {d:Int} {ts:List Tk} {l:List St} {r:List Tk} (h:blkP L m d ts=.ok l r):r.length<ts.length:=by
 obtain ⟨u,q,a,b⟩:=PR.then_eq_ok h;have:=open_short a;have:=restP_short b;omega
theorem blk_then {L:Int} {m:Nat} {d:Int} {β:Type} (ts:List Tk) (f:List St->List Tk->PR β) (_:Unit) (_:Unit):((openP L d ts).then fun _ r=>(restP fnd L m d [] r).then f)=(blkP L m d ts).then f:=by
 unfold blkP;cases openP L d ts <;> rfl
def BlkC (m:Nat):Prop:=∀ (c:Par) (w:World) (k:Nat) (d:Int),Rd c w k->0<=d->d<=65->3*(c.at k).length+2<=m ->
 Calls Tryz.prog 143 #[c.ptr,.int .i64 d] w (RdPost c w (blkP c.L m d (c.at k)) (fun l v w'=>stsVal w.heap.size l v w'))
theorem m_print {m:Nat} {c:Par} {w:World} {k:Nat} (R:Rd c w k) (t:Tk) (d:Int) (hd0:0<=d) (hd1:d<=64) (hm:3*(c.at k).length+3<=m) :
 Calls Tryz.prog 97 #[c.ptr,tkV t,.int .i64 d] w (RdPost c w ((binE fnd c.L m 1 0 (c.at k)).then fun e r=>(need c.L [59] r).then fun _ r=>.ok (St.mk 6 ⟨#[]⟩ ⟨#[]⟩ [e] [] [] t.pos) r) (fun s v w'=>s.pos=t.pos/\stR w.heap.size 0 s v w')):=by
 obtain ⟨tk,tx,tw,A⟩:=t;obtain ⟨Y,S⟩:=Qx ((binE fnd c.L m 1 0 (c.at k)).then fun e r=>(need c.L [59] r).then fun _ r=>.ok (St.mk 6 ⟨#[]⟩ ⟨#[]⟩ [e] [] [] A) r)
 have n:=Hd S;change Calls _ _ _ _ (RdPost c w ((binE fnd c.L m 1 0 (c.at k)).then fun e r=>(need c.L [59] r).then fun _ r=>.ok (St.mk 6 ⟨#[]⟩ ⟨#[]⟩ [e] [] [] A) r) _)
 rw [<- S];have K:=Hd R;have C:=Hd R.lt;have HM:=Hd hm;have G:=Hd (StG.start R ⟨tk,tx,tw,A⟩ #[.int .u8 6,.string ⟨#[]⟩,.string ⟨#[]⟩,.slice none 0 0,.slice none 0 0,.slice none 0 0,.int .i64 0]);clear S R hm;unfold tkV Par.ptr zSt at *;go_enter Tryz.func97,Tryz.ntmps97;go_wp2_with fail;obtain ⟨M,l⟩:=Qx (binE fnd c.L m 1 0 (c.at k));have N:Hid (∀ W,Rd c W k->Calls Tryz.prog 145 #[.pointer (some ⟨c.X,0,none⟩)] W (RdPost c W M (fun e v w'=>exsVal W.heap.size [e] v w'))):=fun W RW=>by rw [l];exact p_value RW (by have:=HM.out;skip;omega)
 have J:Hid (∀ e r,M=.ok e r->r.length<(c.at k).length):=fun e r h=>binE_short (l.symm.trans h)
 have n:Hid (Y=M.then fun e r=>(need c.L [59] r).then fun _ r=>.ok (St.mk 6 ⟨#[]⟩ ⟨#[]⟩ [e] [] [] A) r):=by first | (rw [Hid,n.out,l];done) | (rw [Hid,n.out,l];rfl) | (rw [Hid,n.out,l];unfold parenP;rfl)
 clear l;go_at_call 145;refine (N.out _ (G.out.run.rd K.out)).mono ?_;rintro e O ⟨o,F⟩;rcases M with ⟨P,r1⟩ | ⟨p,q⟩
 rotate_left
 · obtain rfl := F
   have a:=n;have Q:=Hd (G.out.run.fr.trans o);clear o;go_wp2_with fail;refine ⟨rfl,?_⟩;rw [a.out];exact ⟨Q.out,rfl⟩
 obtain ⟨v1,H,rfl,⟨y,f,rfl,D⟩,I,rfl⟩:=F;have n:Hid (Y=(need c.L [59] (c.at H)).then fun _ r=>.ok (St.mk 6 ⟨#[]⟩ ⟨#[]⟩ [P] [] [] A) r):=n.out
 have ag:=Hd (J.out _ _ rfl);have z:Hid (exsAt (fun b=>w.heap.size+1+1+1<=b) O [P] y):=Hd (exsAt_mono D (fun b hb=>by have:=G.out.st.lt;change _<=_ at hb;omega))
 have G:=Hd (G.out.call o I C.out);clear o I D;have c3:=G.out.cell (i:=3) (v:=.slice none 0 0) rfl;have z3:=G.out.frozen 3;go_wp2_with fail;rw [show O.setCell ⟨w.heap.size+1+1,3,none⟩ (.slice y 1 f)=O.setRow (w.heap.size+1+1) #[.int .u8 6,.string ⟨#[]⟩,.string ⟨#[]⟩,.slice y 1 f,.slice none 0 0,.slice none 0 0,.int .i64 0] from setCell_row G.out.st 3 _]
 have z:=Hd (exsAt_row z.out #[.int .u8 6,.string ⟨#[]⟩,.string ⟨#[]⟩,.slice y 1 f,.slice none 0 0,.slice none 0 0,.int .i64 0] (g:=w.heap.size+1+1) (by omega))
 have G:=Hd (G.out.row #[.int .u8 6,.string ⟨#[]⟩,.string ⟨#[]⟩,.slice y 1 f,.slice none 0 0,.slice none 0 0,.int .i64 0] C.out);clear c3 z3;by_cases q2:isT [59] (c.at (H))=true;rotate_left
 · have x : isT [59] (c.at (H)) = false := by simpa using q2
   go_at_call 146;refine (p_take_bad (G.out.run.rd K.out) ⟨#[59]⟩ (by decide) x).mono ?_
   rintro e T ⟨rfl,j⟩;have a:=n.out;rw [need_at,x] at a;have a:=Hd a;clear q2 x;have Q:=Hd (G.out.run.fr.trans j);clear j;go_wp2_with fail;refine ⟨rfl,?_⟩;rw [a.out];exact ⟨Q.out,rfl⟩
 go_at_call 146;refine (p_take_ok (G.out.run.rd K.out) ⟨#[59]⟩ (by decide) q2).mono ?_
 rintro e T ⟨rfl,j,B⟩;have a:=n.out;rw [need_at,if_pos q2] at a;have n:Hid (Y=.ok (St.mk 6 ⟨#[]⟩ ⟨#[]⟩ [P] [] [] A) (c.at (H+1))):=a;have ad:=Hd (at_step (Par.isT_lt q2));have z:=Hd (exsAt_call z.out j (by have:=C.out;omega))
 have G:=Hd (G.out.call j B C.out);clear a q2 j B;obtain ⟨V,E⟩:∃ V,Hid (V=T):=⟨_,rfl⟩;rw [<- E.out];rw [<- E.out] at G z;have OS:=G.out.st;have U:=G.out.res;go_wp2_with (first | (refine ld rowSt rfl rfl rfl OS rfl ?_) | (refine st rowSt rfl rfl U rfl rfl (by rfl) (by rfl) (by kernel_rfl) ?_))
 have hx:=C.out;have Z:=G.out.run.setRow (g:=w.heap.size+1) (by omega) (by omega) #[.int .u8 6,.string ⟨#[]⟩,.string ⟨#[]⟩,.slice y 1 f,.slice none 0 0,.slice none 0 0,.int .i64 0]
 refine p_ret rowSt rfl (U.row #[.int .u8 6,.string ⟨#[]⟩,.string ⟨#[]⟩,.slice y 1 f,.slice none 0 0,.slice none 0 0,.int .i64 0]) rfl rfl rfl ?_;rw [n.out];exact ⟨Z.fr,_,(H+1),rfl,⟨rfl,_,_,_,_,_,_,rfl,exsAt_mono (exsAt_row z.out _ (g:=w.heap.size+1) (by omega)) (fun b hb=>by omega),.inl rfl,.inl rfl⟩,Z.rd K.out,rfl⟩
theorem m_skip {m:Nat} {c:Par} {w:World} {k:Nat} (R:Rd c w k) (t:Tk) (d:Int) :
 Calls Tryz.prog 98 #[c.ptr,tkV t,.int .i64 d] w (RdPost c w ((need c.L [59] (c.at k)).then fun _ r=>.ok (St.mk 7 ⟨#[]⟩ ⟨#[]⟩ [] [] [] t.pos) r) (fun s v w'=>s.pos=t.pos/\stR w.heap.size 0 s v w')):=by
 obtain ⟨tk,tx,y,q⟩:=t;rw [need_at];have o:=Hd R;have p:=Hd R.lt;have j:=Hd (((At.start R).alloc (.cells #[.int .u8 tk,.string tx,.int .i64 y,.int .i64 q] 50)).alloc (.cells zSt 120));have i:=Own.new (w.alloc (.cells #[.int .u8 tk,.string tx,.int .i64 y,.int .i64 q] 50)) 120 zSt;rw [World.size_alloc] at i;have i:=Hd i;by_cases h1:isT [59] (c.at k)=true
 · rw [if_pos h1]
   simp only [PR.then_ok];have l:=Hd h1;clear h1 R;unfold tkV Par.ptr zSt at *;go_enter Tryz.func98,Tryz.ntmps98;go_wp2_with fail;go_at_call 146;refine (p_take_ok (j.out.rd o.out) ⟨#[59]⟩ (by decide) l.out).mono ?_
   rintro e A ⟨rfl,a,f⟩;have x:=p.out;have n:=Hd (j.out.call a f);have O1:=i.out.fr a (by omega)
   clear a f x i;go_wp2_with (first | (refine st rowSt rfl rfl O1 rfl rfl (by rfl) (by rfl) (by kernel_rfl) ?_))
   have x:=p.out;have z:=n.out.setRow (g:=w.heap.size+1) (by omega) (by omega) #[.int .u8 7,.string ⟨#[]⟩,.string ⟨#[]⟩,.slice none 0 0,.slice none 0 0,.slice none 0 0,.int .i64 0]
   exact p_ret rowSt rfl (O1.row #[.int .u8 7,.string ⟨#[]⟩,.string ⟨#[]⟩,.slice none 0 0,.slice none 0 0,.slice none 0 0,.int .i64 0]) rfl rfl rfl ⟨z.fr,_,k+1,rfl,⟨rfl,none,0,none,0,none,0,rfl,.inl rfl,.inl rfl,.inl rfl⟩,z.rd o.out,rfl⟩
 · have b : isT [59] (c.at k) = false := by simpa using h1
   rw [if_neg h1];simp only [PR.then_bad];have l:=Hd b;clear h1 b R;unfold tkV Par.ptr zSt at *;go_enter Tryz.func98,Tryz.ntmps98;go_wp2_with fail;go_at_call 146;refine (p_take_bad (j.out.rd o.out) ⟨#[59]⟩ (by decide) l.out).mono ?_
   rintro e A ⟨rfl,a⟩;have n:=Hd (j.out.fr.trans a);clear a;go_wp2_with fail;exact ⟨rfl,n.out,rfl⟩
theorem p_condition {c:Par} {w:World} {k n:Nat} (R:Rd c w k) (hn:3*(c.at k).length+2<=n) :
 Calls Tryz.prog 142 #[c.ptr] w (RdPost c w (parenP fnd c.L n (c.at k)) (fun e v w'=>exsVal w.heap.size [e] v w')):=by
 obtain ⟨Y,D⟩:=Qx (parenP fnd c.L n (c.at k));have i:=Hd D;change Calls _ _ _ _ (RdPost c w (parenP fnd c.L n (c.at k)) _);rw [<- D];have l:=Hd R;have K:=Hd R.lt;have M:=Hd hn;clear D R hn;unfold Par.ptr at *;have J:=Hd (At.start l.out);go_enter Tryz.func142,Tryz.ntmps142;go_wp2_with fail;by_cases q1:isT [40] (c.at k)=true;rotate_left
 · have m : isT [40] (c.at k) = false := by simpa using q1
   go_at_call 146;refine (p_take_bad l.out ⟨#[40]⟩ (by decide) m).mono ?_
   rintro e O ⟨rfl,f⟩;have a:=i.out;unfold parenP at a;rw [need_at,m] at a;have a:=Hd a;have x:=Hd f;clear f q1 m;go_wp2_with fail;refine ⟨rfl,?_⟩;rw [a.out];exact ⟨x.out,rfl⟩
 go_at_call 146;refine (p_take_ok l.out ⟨#[40]⟩ (by decide) q1).mono ?_
 rintro e O ⟨rfl,f,y⟩;have a:=i.out;unfold parenP at a;rw [need_at,if_pos q1] at a;obtain ⟨Z,E⟩:=Qx (binE fnd c.L n 1 0 (c.at (k+1)));have S:Hid (∀ W,Rd c W (k+1)->Calls Tryz.prog 145 #[.pointer (some ⟨c.X,0,none⟩)] W (RdPost c W Z (fun e v w'=>exsVal W.heap.size [e] v w'))):=fun W RW=>by rw [E];exact p_value RW (by have:=M.out;have:=at_step (Par.isT_lt q1);omega)
 have i:Hid (Y=Z.then fun e r=>(need c.L [41] r).then fun _ r=>.ok e r):=by rw [Hid,a,E];rfl
 have A:=Hd (J.out.call f y);clear a q1 f y E;go_wp2_with fail;go_at_call 145;refine (S.out _ (A.out.rd l.out)).mono ?_;rintro e I ⟨g,s⟩;rcases Z with ⟨G,U⟩ | ⟨p,q⟩;rotate_left
 · obtain rfl := s
   have x:=Hd (A.out.fr.trans g);clear g;go_wp2_with fail;refine ⟨rfl,?_⟩;rw [i.out];exact ⟨x.out,rfl⟩
 obtain ⟨V,C,rfl,⟨N,H,rfl,z⟩,o,rfl⟩:=s;have i:Hid (Y=(need c.L [41] (c.at C)).then fun _ r=>.ok G r):=i.out
 have Q:Hid (exsAt (fun b=>w.heap.size<=b) I [G] N):=Hd (exsAt_mono z (fun b hb=>by have:=A.out.fr.size;change _<=_ at hb;omega))
 have B:=Hd (A.out.call g o);clear g o z;go_wp2_with fail;by_cases q3:isT [41] (c.at C)=true;rotate_left
 · have j : isT [41] (c.at C) = false := by simpa using q3
   go_at_call 146;refine (p_take_bad (B.out.rd l.out) ⟨#[41]⟩ (by decide) j).mono ?_
   rintro e T ⟨rfl,d⟩;have a:=i.out;rw [need_at,j] at a;have a:=Hd a;have x:=Hd (B.out.fr.trans d);clear d q3 j;go_wp2_with fail;refine ⟨rfl,?_⟩;rw [a.out];exact ⟨x.out,rfl⟩
 go_at_call 146;refine (p_take_ok (B.out.rd l.out) ⟨#[41]⟩ (by decide) q3).mono ?_
 rintro e T ⟨rfl,d,t⟩;have a:=i.out;rw [need_at,if_pos q3] at a;have a:=Hd a;have P:=Hd (exsAt_call Q.out d K.out);have F:=Hd (B.out.call d t);clear d t q3;go_wp2_with fail;go_ret;rw [a.out];exact ⟨F.out.fr,_,_,rfl,⟨_,_,rfl,P.out⟩,F.out.rd l.out,rfl⟩
theorem m_loop {m:Nat} (HB:BlkC m) {c:Par} {w:World} {k:Nat} (R:Rd c w k) (t:Tk) (d:Int) (hd0:0<=d) (hd1:d<=64) (hm:3*(c.at k).length+3<=m) :
 Calls Tryz.prog 95 #[c.ptr,tkV t,.int .i64 d] w (RdPost c w ((parenP fnd c.L m (c.at k)).then fun e r=>(blkP c.L m (d+1) r).then fun b r=>.ok (St.mk 4 ⟨#[]⟩ ⟨#[]⟩ [e] b [] t.pos) r) (fun s v w'=>s.pos=t.pos/\stR w.heap.size 0 s v w')):=by
 obtain ⟨tk,tx,tw,D⟩:=t;obtain ⟨Y,hY⟩:=Qx ((parenP fnd c.L m (c.at k)).then fun e r=>(blkP c.L m (d+1) r).then fun b r=>.ok (St.mk 4 ⟨#[]⟩ ⟨#[]⟩ [e] b [] D) r)
 have j:=Hd hY;change Calls _ _ _ _ (RdPost c w ((parenP fnd c.L m (c.at k)).then fun e r=>(blkP c.L m (d+1) r).then fun b r=>.ok (St.mk 4 ⟨#[]⟩ ⟨#[]⟩ [e] b [] D) r) _)
 rw [<- hY];have HR:=Hd R;have F:=Hd R.lt;have HM:=Hd hm;have HB:=Hd HB;have G:=Hd (StG.start R ⟨tk,tx,tw,D⟩ #[.int .u8 4,.string ⟨#[]⟩,.string ⟨#[]⟩,.slice none 0 0,.slice none 0 0,.slice none 0 0,.int .i64 0]);clear hY R hm;unfold tkV Par.ptr zSt at *;go_enter Tryz.func95,Tryz.ntmps95;go_wp2_with fail;obtain ⟨U,n⟩:=Qx (parenP fnd c.L m (c.at k));have aa:Hid (∀ W,Rd c W k->Calls Tryz.prog 142 #[.pointer (some ⟨c.X,0,none⟩)] W (RdPost c W U (fun e v w'=>exsVal W.heap.size [e] v w'))):=fun W RW=>by rw [n];exact p_condition RW (by have:=HM.out;skip;omega)
 have Q:Hid (∀ e r,U=.ok e r->r.length<(c.at k).length):=fun e r h=>paren_short (n.symm.trans h)
 have j:Hid (Y=U.then fun e r=>(blkP c.L m (d+1) r).then fun b r=>.ok (St.mk 4 ⟨#[]⟩ ⟨#[]⟩ [e] b [] D) r):=by first | (rw [Hid,j.out,n];done) | (rw [Hid,j.out,n];rfl) | (rw [Hid,j.out,n];unfold parenP;rfl)
 clear n;go_at_call 142;refine (aa.out _ (G.out.run.rd HR.out)).mono ?_;rintro e w1 ⟨B,K⟩;rcases U with ⟨T,r1⟩ | ⟨p,q⟩
 rotate_left
 · obtain rfl := K
   have E:=j;have AZ:=Hd (G.out.run.fr.trans B);clear B;go_wp2_with fail;refine ⟨rfl,?_⟩;rw [E.out];exact ⟨AZ.out,rfl⟩
 obtain ⟨v1,M,rfl,⟨x,a,rfl,J⟩,N,rfl⟩:=K;have j:Hid (Y=(blkP c.L m (d+1) (c.at M)).then fun b r=>.ok (St.mk 4 ⟨#[]⟩ ⟨#[]⟩ [T] b [] D) r):=j.out
 have aj:=Hd (Q.out _ _ rfl);have C:Hid (exsAt (fun b=>w.heap.size+1+1+1<=b) w1 [T] x):=Hd (exsAt_mono J (fun b hb=>by have:=G.out.st.lt;change _<=_ at hb;omega))
 have G:=Hd (G.out.call B N F.out);clear B N J;have c3:=G.out.cell (i:=3) (v:=.slice none 0 0) rfl;have z3:=G.out.frozen 3;go_wp2_with fail;rw [show w1.setCell ⟨w.heap.size+1+1,3,none⟩ (.slice x 1 a)=w1.setRow (w.heap.size+1+1) #[.int .u8 4,.string ⟨#[]⟩,.string ⟨#[]⟩,.slice x 1 a,.slice none 0 0,.slice none 0 0,.int .i64 0] from setCell_row G.out.st 3 _]
 have C:=Hd (exsAt_row C.out #[.int .u8 4,.string ⟨#[]⟩,.string ⟨#[]⟩,.slice x 1 a,.slice none 0 0,.slice none 0 0,.int .i64 0] (g:=w.heap.size+1+1) (by omega))
 have G:=Hd (G.out.row #[.int .u8 4,.string ⟨#[]⟩,.string ⟨#[]⟩,.slice x 1 a,.slice none 0 0,.slice none 0 0,.int .i64 0] F.out);clear c3 z3;obtain ⟨S,y⟩:=Qx (blkP c.L m (d+1) (c.at M));have ab:Hid (∀ W,Rd c W M->Calls Tryz.prog 143 #[.pointer (some ⟨c.X,0,none⟩),.int .i64 (d+1)] W (RdPost c W S (fun l v w'=>stsVal W.heap.size l v w'))):=fun W RW=>by rw [y];exact HB.out c W M (d+1) RW (by omega) (by omega) (by have:=HM.out;have:=aj.out;omega)
 have P:Hid (∀ e r,S=.ok e r->r.length<(c.at M).length):=fun e r h=>blkP_short (y.symm.trans h)
 have j:Hid (Y=S.then fun b r=>.ok (St.mk 4 ⟨#[]⟩ ⟨#[]⟩ [T] b [] D) r):=by first | (rw [Hid,j.out,y];done) | (rw [Hid,j.out,y];exact blk_then _ _ () ())
 clear y;go_at_call 143;refine (ab.out _ (G.out.run.rd HR.out)).mono ?_;rintro e V ⟨o,I⟩;rcases S with ⟨z,r2⟩ | ⟨p,q⟩
 rotate_left
 · obtain rfl := I
   have E:=j;have AZ:=Hd (G.out.run.fr.trans o);clear o;go_wp2_with fail;refine ⟨rfl,?_⟩;rw [E.out];exact ⟨AZ.out,rfl⟩
 obtain ⟨v2,j2,rfl,⟨A,f,rfl,O⟩,H,rfl⟩:=I;have j:Hid (Y=.ok (St.mk 4 ⟨#[]⟩ ⟨#[]⟩ [T] z [] D) (c.at j2)):=j.out;have ap:=Hd (P.out _ _ rfl);have V2:Hid (stsAt (fun b=>w.heap.size+1+1+1<=b) V z A):=Hd (stsAt_mono O (fun b hb=>by have:=G.out.st.lt;change _<=_ at hb;omega))
 have C:=Hd (exsAt_call C.out o (by have:=F.out;omega))
 have G:=Hd (G.out.call o H F.out);clear o H O;have C4:=Hd (G.out.cell (i:=4) (v:=.slice none 0 0) rfl);have Z4:=Hd (G.out.frozen 4);have E5:V.setCell ⟨w.heap.size+1+1,4,none⟩ (.slice A z.length f)=V.setRow (w.heap.size+1+1) #[.int .u8 4,.string ⟨#[]⟩,.string ⟨#[]⟩,.slice x 1 a,.slice A z.length f,.slice none 0 0,.int .i64 0]:=setCell_row G.out.st 4 (.slice A z.length f);have C:=Hd (exsAt_row C.out #[.int .u8 4,.string ⟨#[]⟩,.string ⟨#[]⟩,.slice x 1 a,.slice A z.length f,.slice none 0 0,.int .i64 0] (g:=w.heap.size+1+1) (by omega))
 have V2:=Hd (stsAt_row V2.out #[.int .u8 4,.string ⟨#[]⟩,.string ⟨#[]⟩,.slice x 1 a,.slice A z.length f,.slice none 0 0,.int .i64 0] (g:=w.heap.size+1+1) (by omega))
 have G:=Hd (G.out.row #[.int .u8 4,.string ⟨#[]⟩,.string ⟨#[]⟩,.slice x 1 a,.slice A z.length f,.slice none 0 0,.int .i64 0] F.out);have OS:=G.out.st;have Z:=G.out.res;have C4:=C4.out;have Z4:=Z4.out;unfold zSt at Z;go_wp2_with (first | (refine ld rowSt rfl rfl rfl OS rfl ?_) | (refine st rowSt rfl rfl Z rfl rfl (by rfl) (by rfl) (by kernel_rfl) ?_))
 clear C4 Z4 E5;have hx:=F.out;have AE:=G.out.run.setRow (g:=w.heap.size+1) (by omega) (by omega) #[.int .u8 4,.string ⟨#[]⟩,.string ⟨#[]⟩,.slice x 1 a,.slice A z.length f,.slice none 0 0,.int .i64 0]
 refine p_ret rowSt rfl (Z.row #[.int .u8 4,.string ⟨#[]⟩,.string ⟨#[]⟩,.slice x 1 a,.slice A z.length f,.slice none 0 0,.int .i64 0]) rfl rfl rfl ?_;rw [j.out];exact ⟨AE.fr,_,j2,rfl,⟨rfl,_,_,_,_,_,_,rfl,exsAt_mono (exsAt_row C.out _ (g:=w.heap.size+1) (by omega)) (fun b hb=>by omega),stsAt_mono (stsAt_row V2.out _ (g:=w.heap.size+1) (by omega)) (fun b hb=>by omega),.inl rfl⟩,AE.rd HR.out,rfl⟩
theorem m_guard {m:Nat} (HB:BlkC m) {c:Par} {w:World} {k:Nat} (R:Rd c w k) (t:Tk) (d:Int) (hd0:0<=d) (hd1:d<=64) (hm:3*(c.at k).length+3<=m) :
 Calls Tryz.prog 96 #[c.ptr,tkV t,.int .i64 d] w (RdPost c w ((nameP c.L (c.at k)).then fun o r=>(blkP c.L m (d+1) r).then fun b r=>.ok (St.mk 5 o.name ⟨#[]⟩ [] b [] t.pos) r) (fun s v w'=>s.pos=t.pos/\stR w.heap.size 0 s v w')):=by
 obtain ⟨tk,tx,tw,E⟩:=t;obtain ⟨Y,hY⟩:=Qx ((nameP c.L (c.at k)).then fun o r=>(blkP c.L m (d+1) r).then fun b r=>.ok (St.mk 5 o.name ⟨#[]⟩ [] b [] E) r)
 have y:=Hd hY;change Calls _ _ _ _ (RdPost c w ((nameP c.L (c.at k)).then fun o r=>(blkP c.L m (d+1) r).then fun b r=>.ok (St.mk 5 o.name ⟨#[]⟩ [] b [] E) r) _)
 rw [<- hY];have O:=Hd R;have F:=Hd R.lt;have HM:=Hd hm;have HB:=Hd HB;have G:=Hd (StG.start R ⟨tk,tx,tw,E⟩ #[.int .u8 5,.string ⟨#[]⟩,.string ⟨#[]⟩,.slice none 0 0,.slice none 0 0,.slice none 0 0,.int .i64 0]);clear hY R hm;unfold tkV Par.ptr zSt at *;go_enter Tryz.func96,Tryz.ntmps96;go_wp2_with fail;by_cases q1:(c.nx k).kind=1;rotate_left
 · go_at_call 144
   refine (p_kind_bad (G.out.run.rd O.out) 1 q1).mono ?_;rintro e T ⟨rfl,n⟩;have f:=y.out;rw [nameP_at,if_neg q1] at f;have f:=Hd f;clear q1;have U:=Hd (G.out.run.fr.trans n);clear n;go_wp2_with fail;refine ⟨rfl,?_⟩;rw [f.out];exact ⟨U.out,rfl⟩
 have D:=Hd (p_kind_ok (G.out.run.rd O.out) 1 q1 (nx_lt (.inl (by rw [q1];decide))))
 obtain ⟨t1,C⟩:=Qx (c.nx k);have f:=y.out;rw [nameP_at,if_pos q1,<- C] at f;have ac:=Hd (at_step (c:=c) (k:=k) (nx_lt (.inl (by rw [q1];decide))))
 rw [<- C] at D;have y:Hid (Y=(blkP c.L m (d+1) (c.at (k+1))).then fun b r=>.ok (St.mk 5 t1.text ⟨#[]⟩ [] b [] E) r):=f
 clear q1 C f;obtain ⟨aq,j,ah,ag⟩:=t1;unfold tkV Par.ptr at D;go_at_call 144;refine (D.out).mono ?_;rintro e T ⟨rfl,n,J⟩;have G:=Hd (G.out.call n J F.out);clear n J;have c1:=G.out.cell (i:=1) (v:=.string ⟨#[]⟩) rfl;have z1:=G.out.frozen 1;have F1:=tok_f1;go_wp2_with fail;rw [show T.setCell ⟨w.heap.size+1+1,1,none⟩ (.string j)=T.setRow (w.heap.size+1+1) #[.int .u8 5,.string j,.string ⟨#[]⟩,.slice none 0 0,.slice none 0 0,.slice none 0 0,.int .i64 0] from setCell_row G.out.st 1 _]
 have G:=Hd (G.out.row #[.int .u8 5,.string j,.string ⟨#[]⟩,.slice none 0 0,.slice none 0 0,.slice none 0 0,.int .i64 0] F.out);clear c1 z1;clear F1;obtain ⟨N,x⟩:=Qx (blkP c.L m (d+1) (c.at (k+1)));have S:Hid (∀ W,Rd c W (k+1)->Calls Tryz.prog 143 #[.pointer (some ⟨c.X,0,none⟩),.int .i64 (d+1)] W (RdPost c W N (fun l v w'=>stsVal W.heap.size l v w'))):=fun W RW=>by rw [x];exact HB.out c W (k+1) (d+1) RW (by omega) (by omega) (by have:=HM.out;have:=ac.out;omega)
 have M:Hid (∀ e r,N=.ok e r->r.length<(c.at (k+1)).length):=fun e r h=>blkP_short (x.symm.trans h)
 have y:Hid (Y=N.then fun b r=>.ok (St.mk 5 j ⟨#[]⟩ [] b [] E) r):=by first | (rw [Hid,y.out,x];done) | (rw [Hid,y.out,x];exact blk_then _ _ () ())
 clear x;go_at_call 143;refine (S.out _ (G.out.run.rd O.out)).mono ?_;rintro e P ⟨z,I⟩;rcases N with ⟨A,r2⟩ | ⟨p,q⟩
 rotate_left
 · obtain rfl := I
   have f:=y;have U:=Hd (G.out.run.fr.trans z);clear z;go_wp2_with fail;refine ⟨rfl,?_⟩;rw [f.out];exact ⟨U.out,rfl⟩
 obtain ⟨v2,j2,rfl,⟨B,a,rfl,K⟩,H,rfl⟩:=I;have y:Hid (Y=.ok (St.mk 5 j ⟨#[]⟩ [] A [] E) (c.at j2)):=y.out;have am:=Hd (M.out _ _ rfl);have Z:Hid (stsAt (fun b=>w.heap.size+1+1+1<=b) P A B):=Hd (stsAt_mono K (fun b hb=>by have:=G.out.st.lt;change _<=_ at hb;omega))
 have G:=Hd (G.out.call z H F.out);clear z H K;have V:=Hd (G.out.cell (i:=4) (v:=.slice none 0 0) rfl);have Z4:=Hd (G.out.frozen 4);have E5:P.setCell ⟨w.heap.size+1+1,4,none⟩ (.slice B A.length a)=P.setRow (w.heap.size+1+1) #[.int .u8 5,.string j,.string ⟨#[]⟩,.slice none 0 0,.slice B A.length a,.slice none 0 0,.int .i64 0]:=setCell_row G.out.st 4 (.slice B A.length a);have Z:=Hd (stsAt_row Z.out #[.int .u8 5,.string j,.string ⟨#[]⟩,.slice none 0 0,.slice B A.length a,.slice none 0 0,.int .i64 0] (g:=w.heap.size+1+1) (by omega))
 have G:=Hd (G.out.row #[.int .u8 5,.string j,.string ⟨#[]⟩,.slice none 0 0,.slice B A.length a,.slice none 0 0,.int .i64 0] F.out);have OS:=G.out.st;have Q:=G.out.res;have V:=V.out;have Z4:=Z4.out;unfold zSt at Q;go_wp2_with (first | (refine ld rowSt rfl rfl rfl OS rfl ?_) | (refine st rowSt rfl rfl Q rfl rfl (by rfl) (by rfl) (by kernel_rfl) ?_))
 clear V Z4 E5;have hx:=F.out;have AE:=G.out.run.setRow (g:=w.heap.size+1) (by omega) (by omega) #[.int .u8 5,.string j,.string ⟨#[]⟩,.slice none 0 0,.slice B A.length a,.slice none 0 0,.int .i64 0]
 refine p_ret rowSt rfl (Q.row #[.int .u8 5,.string j,.string ⟨#[]⟩,.slice none 0 0,.slice B A.length a,.slice none 0 0,.int .i64 0]) rfl rfl rfl ?_;rw [y.out];exact ⟨AE.fr,_,j2,rfl,⟨rfl,_,_,_,_,_,_,rfl,.inl rfl,stsAt_mono (stsAt_row Z.out _ (g:=w.heap.size+1) (by omega)) (fun b hb=>by omega),.inl rfl⟩,AE.rd O.out,rfl⟩
theorem m_choice {m:Nat} (HB:BlkC m) {c:Par} {w:World} {k:Nat} (R:Rd c w k) (t:Tk) (d:Int) (hd0:0<=d) (hd1:d<=64) (hm:3*(c.at k).length+3<=m) :
 Calls Tryz.prog 94 #[c.ptr,tkV t,.int .i64 d] w (RdPost c w ((parenP fnd c.L m (c.at k)).then fun e r=>(blkP c.L m (d+1) r).then fun b r=>if isT [101,108,115,101] r=true then (blkP c.L m (d+1) r.tail).then fun l r=>.ok (St.mk 3 ⟨#[]⟩ ⟨#[]⟩ [e] b l t.pos) r else .ok (St.mk 3 ⟨#[]⟩ ⟨#[]⟩ [e] b [] t.pos) r) (fun s v w'=>s.pos=t.pos/\stR w.heap.size 0 s v w')):=by
 obtain ⟨tk,tx,tw,z⟩:=t;obtain ⟨Y,hY⟩:=Qx ((parenP fnd c.L m (c.at k)).then fun e r=>(blkP c.L m (d+1) r).then fun b r=>if isT [101,108,115,101] r=true then (blkP c.L m (d+1) r.tail).then fun l r=>.ok (St.mk 3 ⟨#[]⟩ ⟨#[]⟩ [e] b l z) r else .ok (St.mk 3 ⟨#[]⟩ ⟨#[]⟩ [e] b [] z) r)
 have n:=Hd hY;change Calls _ _ _ _ (RdPost c w ((parenP fnd c.L m (c.at k)).then fun e r=>(blkP c.L m (d+1) r).then fun b r=>if isT [101,108,115,101] r=true then (blkP c.L m (d+1) r.tail).then fun l r=>.ok (St.mk 3 ⟨#[]⟩ ⟨#[]⟩ [e] b l z) r else .ok (St.mk 3 ⟨#[]⟩ ⟨#[]⟩ [e] b [] z) r) _)
 rw [<- hY];have HR:=Hd R;have D:=Hd R.lt;have HM:=Hd hm;have HB:=Hd HB;have G:=Hd (StG.start R ⟨tk,tx,tw,z⟩ #[.int .u8 3,.string ⟨#[]⟩,.string ⟨#[]⟩,.slice none 0 0,.slice none 0 0,.slice none 0 0,.int .i64 0]);clear hY R hm;unfold tkV Par.ptr zSt at *;go_enter Tryz.func94,Tryz.ntmps94;go_wp2_with fail;obtain ⟨Z1,F⟩:=Qx (parenP fnd c.L m (c.at k));have a7:Hid (∀ W,Rd c W k->Calls Tryz.prog 142 #[.pointer (some ⟨c.X,0,none⟩)] W (RdPost c W Z1 (fun e v w'=>exsVal W.heap.size [e] v w'))):=fun W RW=>by rw [F];exact p_condition RW (by have:=HM.out;skip;omega)
 have ao:Hid (∀ e r,Z1=.ok e r->r.length<(c.at k).length):=fun e r h=>paren_short (F.symm.trans h)
 have n:Hid (Y=Z1.then fun e r=>(blkP c.L m (d+1) r).then fun b r=>if isT [101,108,115,101] r=true then (blkP c.L m (d+1) r.tail).then fun l r=>.ok (St.mk 3 ⟨#[]⟩ ⟨#[]⟩ [e] b l z) r else .ok (St.mk 3 ⟨#[]⟩ ⟨#[]⟩ [e] b [] z) r):=by first | (rw [Hid,n.out,F];done) | (rw [Hid,n.out,F];rfl) | (rw [Hid,n.out,F];unfold parenP;rfl)
 clear F;go_at_call 142;refine (a7.out _ (G.out.run.rd HR.out)).mono ?_;rintro e w1 ⟨T,am⟩;rcases Z1 with ⟨P,r1⟩ | ⟨p,q⟩
 rotate_left
 · obtain rfl := am
   have o:=n;have AZ:=Hd (G.out.run.fr.trans T);clear T;go_wp2_with fail;refine ⟨rfl,?_⟩;rw [o.out];exact ⟨AZ.out,rfl⟩
 obtain ⟨v1,j1,rfl,⟨y,a,rfl,af⟩,ah,rfl⟩:=am;have n:Hid (Y=(blkP c.L m (d+1) (c.at j1)).then fun b r=>if isT [101,108,115,101] r=true then (blkP c.L m (d+1) r.tail).then fun l r=>.ok (St.mk 3 ⟨#[]⟩ ⟨#[]⟩ [P] b l z) r else .ok (St.mk 3 ⟨#[]⟩ ⟨#[]⟩ [P] b [] z) r):=n.out
 have aj:=Hd (ao.out _ _ rfl);have B:Hid (exsAt (fun b=>w.heap.size+1+1+1<=b) w1 [P] y):=Hd (exsAt_mono af (fun b hb=>by have:=G.out.st.lt;change _<=_ at hb;omega))
 have G:=Hd (G.out.call T ah D.out);clear T ah af;have c3:=G.out.cell (i:=3) (v:=.slice none 0 0) rfl;have z3:=G.out.frozen 3;go_wp2_with fail;rw [show w1.setCell ⟨w.heap.size+1+1,3,none⟩ (.slice y 1 a)=w1.setRow (w.heap.size+1+1) #[.int .u8 3,.string ⟨#[]⟩,.string ⟨#[]⟩,.slice y 1 a,.slice none 0 0,.slice none 0 0,.int .i64 0] from setCell_row G.out.st 3 _]
 have B:=Hd (exsAt_row B.out #[.int .u8 3,.string ⟨#[]⟩,.string ⟨#[]⟩,.slice y 1 a,.slice none 0 0,.slice none 0 0,.int .i64 0] (g:=w.heap.size+1+1) (by omega))
 have G:=Hd (G.out.row #[.int .u8 3,.string ⟨#[]⟩,.string ⟨#[]⟩,.slice y 1 a,.slice none 0 0,.slice none 0 0,.int .i64 0] D.out);clear c3 z3;obtain ⟨Z2,I⟩:=Qx (blkP c.L m (d+1) (c.at j1));have az:Hid (∀ W,Rd c W j1->Calls Tryz.prog 143 #[.pointer (some ⟨c.X,0,none⟩),.int .i64 (d+1)] W (RdPost c W Z2 (fun l v w'=>stsVal W.heap.size l v w'))):=fun W RW=>by rw [I];exact HB.out c W j1 (d+1) RW (by omega) (by omega) (by have:=HM.out;have:=aj.out;omega)
 have ai:Hid (∀ e r,Z2=.ok e r->r.length<(c.at j1).length):=fun e r h=>blkP_short (I.symm.trans h)
 have n:Hid (Y=Z2.then fun b r=>if isT [101,108,115,101] r=true then (blkP c.L m (d+1) r.tail).then fun l r=>.ok (St.mk 3 ⟨#[]⟩ ⟨#[]⟩ [P] b l z) r else .ok (St.mk 3 ⟨#[]⟩ ⟨#[]⟩ [P] b [] z) r):=by first | (rw [Hid,n.out,I];done) | (rw [Hid,n.out,I];exact blk_then _ _ () ())
 clear I;go_at_call 143;refine (az.out _ (G.out.run.rd HR.out)).mono ?_;rintro e w2 ⟨O,ac⟩;rcases Z2 with ⟨x,r2⟩ | ⟨p,q⟩
 rotate_left
 · obtain rfl := ac
   have o:=n;have AZ:=Hd (G.out.run.fr.trans O);clear O;go_wp2_with fail;refine ⟨rfl,?_⟩;rw [o.out];exact ⟨AZ.out,rfl⟩
 obtain ⟨v2,A,rfl,⟨C,f,rfl,an⟩,aq,rfl⟩:=ac;have n:Hid (Y=if isT [101,108,115,101] (c.at A)=true then (blkP c.L m (d+1) (c.at A).tail).then fun l r=>.ok (St.mk 3 ⟨#[]⟩ ⟨#[]⟩ [P] x l z) r else .ok (St.mk 3 ⟨#[]⟩ ⟨#[]⟩ [P] x [] z) (c.at A)):=n.out
 have a9:=Hd (ai.out _ _ rfl);have K:Hid (stsAt (fun b=>w.heap.size+1+1+1<=b) w2 x C):=Hd (stsAt_mono an (fun b hb=>by have:=G.out.st.lt;change _<=_ at hb;omega))
 have B:=Hd (exsAt_call B.out O (by have:=D.out;omega))
 have G:=Hd (G.out.call O aq D.out);clear O aq an;have c4:=G.out.cell (i:=4) (v:=.slice none 0 0) rfl;have z4:=G.out.frozen 4;go_wp2_with fail;rw [show w2.setCell ⟨w.heap.size+1+1,4,none⟩ (.slice C x.length f)=w2.setRow (w.heap.size+1+1) #[.int .u8 3,.string ⟨#[]⟩,.string ⟨#[]⟩,.slice y 1 a,.slice C x.length f,.slice none 0 0,.int .i64 0] from setCell_row G.out.st 4 _]
 have B:=Hd (exsAt_row B.out #[.int .u8 3,.string ⟨#[]⟩,.string ⟨#[]⟩,.slice y 1 a,.slice C x.length f,.slice none 0 0,.int .i64 0] (g:=w.heap.size+1+1) (by omega))
 have K:=Hd (stsAt_row K.out #[.int .u8 3,.string ⟨#[]⟩,.string ⟨#[]⟩,.slice y 1 a,.slice C x.length f,.slice none 0 0,.int .i64 0] (g:=w.heap.size+1+1) (by omega))
 have G:=Hd (G.out.row #[.int .u8 3,.string ⟨#[]⟩,.string ⟨#[]⟩,.slice y 1 a,.slice C x.length f,.slice none 0 0,.int .i64 0] D.out);clear c4 z4;obtain ⟨B3,J⟩:=Qx (isT [101,108,115,101] (c.at A));have V:Hid (∀ W,Rd c W A->Calls Tryz.prog 40 #[.pointer (some ⟨c.X,0,none⟩),.string ⟨#[101,108,115,101]⟩] W fun e w'=>e=.returned (.bool B3)/\Fr c W w'/\Rd c w' (if B3=true then A+1 else A)):=fun W RW=>by rw [J];exact p_pass RW ⟨#[101,108,115,101]⟩ (by decide)
 go_at_call 40;refine (V.out _ (G.out.run.rd HR.out)).mono ?_;rintro e w3 ⟨rfl,E,S⟩;have o:=n.out;have B:=Hd (exsAt_call B.out E (by have:=D.out;omega))
 have K:=Hd (stsAt_call K.out E (by have:=D.out;omega))
 rw [<- J] at o;cases B3
 · have n : Hid (Y = .ok (St.mk 3 ⟨#[]⟩ ⟨#[]⟩ [P] x [] z) (c.at A)) := o
   have G:=Hd (G.out.call E (show Rd c w3 A from S) D.out)
   clear o J V E S;obtain ⟨WE,ae⟩:∃ WE,Hid (WE=w3):=⟨_,rfl⟩;rw [<- ae.out];rw [<- ae.out] at G B K;have OS:=G.out.st;have Z:=G.out.res;go_wp2_with (first | (refine ld rowSt rfl rfl rfl OS rfl ?_) | (refine st rowSt rfl rfl Z rfl rfl (by rfl) (by rfl) (by kernel_rfl) ?_))
   have hx:=D.out;have AE:=G.out.run.setRow (g:=w.heap.size+1) (by omega) (by omega) #[.int .u8 3,.string ⟨#[]⟩,.string ⟨#[]⟩,.slice y 1 a,.slice C x.length f,.slice none 0 0,.int .i64 0]
   refine p_ret rowSt rfl (Z.row #[.int .u8 3,.string ⟨#[]⟩,.string ⟨#[]⟩,.slice y 1 a,.slice C x.length f,.slice none 0 0,.int .i64 0]) rfl rfl rfl ?_;rw [n.out];exact ⟨AE.fr,_,A,rfl,⟨rfl,_,_,_,_,_,_,rfl,exsAt_mono (exsAt_row B.out _ (g:=w.heap.size+1) (by omega)) (fun b hb=>by omega),stsAt_mono (stsAt_row K.out _ (g:=w.heap.size+1) (by omega)) (fun b hb=>by omega),.inl rfl⟩,AE.rd HR.out,rfl⟩
 have n:Hid (Y=(blkP c.L m (d+1) (c.at (A+1))).then fun l r=>.ok (St.mk 3 ⟨#[]⟩ ⟨#[]⟩ [P] x l z) r):=o.trans (by rw [if_pos rfl,Par.at_tail])
 have G:=Hd (G.out.call E (show Rd c w3 (A+1) from S) D.out)
 have ay:=Hd (at_step (Par.isT_lt J.symm));clear o J V E S;go_wp2_with fail;obtain ⟨U,N⟩:=Qx (blkP c.L m (d+1) (c.at (A+1)));have a5:Hid (∀ W,Rd c W (A+1)->Calls Tryz.prog 143 #[.pointer (some ⟨c.X,0,none⟩),.int .i64 (d+1)] W (RdPost c W U (fun l v w'=>stsVal W.heap.size l v w'))):=fun W RW=>by rw [N];exact HB.out c W (A+1) (d+1) RW (by omega) (by omega) (by have:=HM.out;have:=aj.out;have:=a9.out;have:=ay.out;omega)
 have ag:Hid (∀ e r,U=.ok e r->r.length<(c.at (A+1)).length):=fun e r h=>blkP_short (N.symm.trans h)
 have n:Hid (Y=U.then fun b r=>.ok (St.mk 3 ⟨#[]⟩ ⟨#[]⟩ [P] x b z) r):=by first | (rw [Hid,n.out,N];done) | (rw [Hid,n.out,N];exact blk_then _ _ () ())
 clear N;go_at_call 143;refine (a5.out _ (G.out.run.rd HR.out)).mono ?_;rintro e w4 ⟨H,al⟩;rcases U with ⟨M,r4⟩ | ⟨p,q⟩
 rotate_left
 · obtain rfl := al
   have o:=n;have AZ:=Hd (G.out.run.fr.trans H);clear H;go_wp2_with fail;refine ⟨rfl,?_⟩;rw [o.out];exact ⟨AZ.out,rfl⟩
 obtain ⟨v4,j4,rfl,⟨Q,j,rfl,ab⟩,ap,rfl⟩:=al;have n:Hid (Y=.ok (St.mk 3 ⟨#[]⟩ ⟨#[]⟩ [P] x M z) (c.at j4)):=n.out;have bk:=Hd (ag.out _ _ rfl);have V4:Hid (stsAt (fun b=>w.heap.size+1+1+1<=b) w4 M Q):=Hd (stsAt_mono ab (fun b hb=>by have:=G.out.st.lt;change _<=_ at hb;omega))
 have B:=Hd (exsAt_call B.out H (by have:=D.out;omega))
 have K:=Hd (stsAt_call K.out H (by have:=D.out;omega))
 have G:=Hd (G.out.call H ap D.out);clear H ap ab;have C4:=Hd (G.out.cell (i:=5) (v:=.slice none 0 0) rfl);have U:=Hd (G.out.frozen 5);have E5:w4.setCell ⟨w.heap.size+1+1,5,none⟩ (.slice Q M.length j)=w4.setRow (w.heap.size+1+1) #[.int .u8 3,.string ⟨#[]⟩,.string ⟨#[]⟩,.slice y 1 a,.slice C x.length f,.slice Q M.length j,.int .i64 0]:=setCell_row G.out.st 5 (.slice Q M.length j);have B:=Hd (exsAt_row B.out #[.int .u8 3,.string ⟨#[]⟩,.string ⟨#[]⟩,.slice y 1 a,.slice C x.length f,.slice Q M.length j,.int .i64 0] (g:=w.heap.size+1+1) (by omega))
 have K:=Hd (stsAt_row K.out #[.int .u8 3,.string ⟨#[]⟩,.string ⟨#[]⟩,.slice y 1 a,.slice C x.length f,.slice Q M.length j,.int .i64 0] (g:=w.heap.size+1+1) (by omega))
 have V4:=Hd (stsAt_row V4.out #[.int .u8 3,.string ⟨#[]⟩,.string ⟨#[]⟩,.slice y 1 a,.slice C x.length f,.slice Q M.length j,.int .i64 0] (g:=w.heap.size+1+1) (by omega))
 have G:=Hd (G.out.row #[.int .u8 3,.string ⟨#[]⟩,.string ⟨#[]⟩,.slice y 1 a,.slice C x.length f,.slice Q M.length j,.int .i64 0] D.out);have OS:=G.out.st;have Z:=G.out.res;have C4:=C4.out;have U:=U.out;unfold zSt at Z;go_wp2_with (first | (refine ld rowSt rfl rfl rfl OS rfl ?_) | (refine st rowSt rfl rfl Z rfl rfl (by rfl) (by rfl) (by kernel_rfl) ?_))
 clear C4 U E5;have hx:=D.out;have AE:=G.out.run.setRow (g:=w.heap.size+1) (by omega) (by omega) #[.int .u8 3,.string ⟨#[]⟩,.string ⟨#[]⟩,.slice y 1 a,.slice C x.length f,.slice Q M.length j,.int .i64 0]
 refine p_ret rowSt rfl (Z.row #[.int .u8 3,.string ⟨#[]⟩,.string ⟨#[]⟩,.slice y 1 a,.slice C x.length f,.slice Q M.length j,.int .i64 0]) rfl rfl rfl ?_;rw [n.out];exact ⟨AE.fr,_,j4,rfl,⟨rfl,_,_,_,_,_,_,rfl,exsAt_mono (exsAt_row B.out _ (g:=w.heap.size+1) (by omega)) (fun b hb=>by omega),stsAt_mono (stsAt_row K.out _ (g:=w.heap.size+1) (by omega)) (fun b hb=>by omega),stsAt_mono (stsAt_row V4.out _ (g:=w.heap.size+1) (by omega)) (fun b hb=>by omega)⟩,AE.rd HR.out,rfl⟩
theorem m_change {m:Nat} {c:Par} {w:World} {k:Nat} (R:Rd c w k) (t:Tk) (d:Int) (hd0:0<=d) (hd1:d<=64) (hm:3*(c.at k).length+3<=m) :
 Calls Tryz.prog 179 #[c.ptr,tkV t,.int .i64 d] w (RdPost c w ((need c.L [61] (c.at k)).then fun _ r=>if isT [115,119,97,112] r=true then (need c.L [40] r.tail).then fun _ r=>(nameP c.L r).then fun o r=>(need c.L [44] r).then fun _ r=>(binE fnd c.L m 1 0 r).then fun e r=>(need c.L [41] r).then fun _ r=>(need c.L [59] r).then fun _ r=>.ok (St.mk 2 t.text o.name [e] [] [] t.pos) r else (binE fnd c.L m 1 0 r).then fun e r=>(need c.L [59] r).then fun _ r=>.ok (St.mk 1 t.text ⟨#[]⟩ [e] [] [] t.pos) r) (fun s v w'=>s.pos=t.pos/\stR w.heap.size 0 s v w')):=by
 obtain ⟨tk,tx,tw,B⟩:=t;obtain ⟨Y,hY⟩:=Qx ((need c.L [61] (c.at k)).then fun _ r=>if isT [115,119,97,112] r=true then (need c.L [40] r.tail).then fun _ r=>(nameP c.L r).then fun o r=>(need c.L [44] r).then fun _ r=>(binE fnd c.L m 1 0 r).then fun e r=>(need c.L [41] r).then fun _ r=>(need c.L [59] r).then fun _ r=>.ok (St.mk 2 tx o.name [e] [] [] B) r else (binE fnd c.L m 1 0 r).then fun e r=>(need c.L [59] r).then fun _ r=>.ok (St.mk 1 tx ⟨#[]⟩ [e] [] [] B) r)
 have f:=Hd hY;change Calls _ _ _ _ (RdPost c w ((need c.L [61] (c.at k)).then fun _ r=>if isT [115,119,97,112] r=true then (need c.L [40] r.tail).then fun _ r=>(nameP c.L r).then fun o r=>(need c.L [44] r).then fun _ r=>(binE fnd c.L m 1 0 r).then fun e r=>(need c.L [41] r).then fun _ r=>(need c.L [59] r).then fun _ r=>.ok (St.mk 2 tx o.name [e] [] [] B) r else (binE fnd c.L m 1 0 r).then fun e r=>(need c.L [59] r).then fun _ r=>.ok (St.mk 1 tx ⟨#[]⟩ [e] [] [] B) r) _)
 rw [<- hY];have A:=Hd R;have x:=Hd R.lt;have HM:=Hd hm;have G:=Hd (StG.start R ⟨tk,tx,tw,B⟩ #[.int .u8 1,.string tx,.string ⟨#[]⟩,.slice none 0 0,.slice none 0 0,.slice none 0 0,.int .i64 0]);clear hY R hm;unfold tkV Par.ptr zSt at *;go_enter Tryz.func179,Tryz.ntmps179;go_wp2_with fail;by_cases q1:isT [61] (c.at (k))=true;rotate_left
 · have af : isT [61] (c.at (k)) = false := by simpa using q1
   go_at_call 146;refine (p_take_bad (G.out.run.rd A.out) ⟨#[61]⟩ (by decide) af).mono ?_
   rintro e w1 ⟨rfl,K⟩;have a:=f.out;rw [need_at,af] at a;have a:=Hd a;clear q1 af;have C:=Hd (G.out.run.fr.trans K);clear K;go_wp2_with fail;refine ⟨rfl,?_⟩;rw [a.out];exact ⟨C.out,rfl⟩
 go_at_call 146;refine (p_take_ok (G.out.run.rd A.out) ⟨#[61]⟩ (by decide) q1).mono ?_
 rintro e w1 ⟨rfl,K,ar⟩;have a:=f.out;rw [need_at,if_pos q1] at a;have f:Hid (Y=if isT [115,119,97,112] (c.at (k+1))=true then (need c.L [40] (c.at (k+1)).tail).then fun _ r=>(nameP c.L r).then fun o r=>(need c.L [44] r).then fun _ r=>(binE fnd c.L m 1 0 r).then fun e r=>(need c.L [41] r).then fun _ r=>(need c.L [59] r).then fun _ r=>.ok (St.mk 2 tx o.name [e] [] [] B) r else (binE fnd c.L m 1 0 (c.at (k+1))).then fun e r=>(need c.L [59] r).then fun _ r=>.ok (St.mk 1 tx ⟨#[]⟩ [e] [] [] B) r):=a
 have av:=Hd (at_step (Par.isT_lt q1));have G:=Hd (G.out.call K ar x.out);clear a q1 K ar;go_wp2_with fail;obtain ⟨B2,O⟩:=Qx (isT [115,119,97,112] (c.at (k+1)));have ae:Hid (∀ W,Rd c W (k+1)->Calls Tryz.prog 40 #[.pointer (some ⟨c.X,0,none⟩),.string ⟨#[115,119,97,112]⟩] W fun e w'=>e=.returned (.bool B2)/\Fr c W w'/\Rd c w' (if B2=true then (k+1)+1 else (k+1))):=fun W RW=>by rw [O];exact p_pass RW ⟨#[115,119,97,112]⟩ (by decide)
 go_at_call 40;refine (ae.out _ (G.out.run.rd A.out)).mono ?_;rintro e w2 ⟨rfl,Q,S⟩;have a:=f.out;rw [<- O] at a;cases B2
 · have f : Hid (Y = (binE fnd c.L m 1 0 (c.at (k + 1))).then fun e r => (need c.L [59] r).then fun _ r => .ok (St.mk 1 tx ⟨#[]⟩ [e] [] [] B) r) := a
   have G:=Hd (G.out.call Q (show Rd c w2 (k+1) from S) x.out)
   clear a O ae Q S;go_wp2_with fail;obtain ⟨Z3,H⟩:=Qx (binE fnd c.L m 1 0 (c.at (k+1)));have bm:Hid (∀ W,Rd c W (k+1)->Calls Tryz.prog 145 #[.pointer (some ⟨c.X,0,none⟩)] W (RdPost c W Z3 (fun e v w'=>exsVal W.heap.size [e] v w'))):=fun W RW=>by rw [H];exact p_value RW (by have:=HM.out;have:=av.out;omega)
   have al:Hid (∀ e r,Z3=.ok e r->r.length<(c.at (k+1)).length):=fun e r h=>binE_short (H.symm.trans h)
   have f:Hid (Y=Z3.then fun e r=>(need c.L [59] r).then fun _ r=>.ok (St.mk 1 tx ⟨#[]⟩ [e] [] [] B) r):=by first | (rw [Hid,f.out,H];done) | (rw [Hid,f.out,H];rfl) | (rw [Hid,f.out,H];unfold parenP;rfl)
   clear H;go_at_call 145;refine (bm.out _ (G.out.run.rd A.out)).mono ?_;rintro e w3 ⟨n,a2⟩;rcases Z3 with ⟨e3,r3⟩ | ⟨p,q⟩
   rotate_left
   · obtain rfl := a2
     have a:=f;have C:=Hd (G.out.run.fr.trans n);clear n;go_wp2_with fail;refine ⟨rfl,?_⟩;rw [a.out];exact ⟨C.out,rfl⟩
   obtain ⟨v3,j3,rfl,⟨a3,y,rfl,an⟩,J,rfl⟩:=a2;have f:Hid (Y=(need c.L [59] (c.at j3)).then fun _ r=>.ok (St.mk 1 tx ⟨#[]⟩ [e3] [] [] B) r):=f.out
   have ap:=Hd (al.out _ _ rfl);have V3:Hid (exsAt (fun b=>w.heap.size+1+1+1<=b) w3 [e3] a3):=Hd (exsAt_mono an (fun b hb=>by have:=G.out.st.lt;change _<=_ at hb;omega))
   have G:=Hd (G.out.call n J x.out);clear n J an;have c3:=G.out.cell (i:=3) (v:=.slice none 0 0) rfl;have z3:=G.out.frozen 3;go_wp2_with fail;rw [show w3.setCell ⟨w.heap.size+1+1,3,none⟩ (.slice a3 1 y)=w3.setRow (w.heap.size+1+1) #[.int .u8 1,.string tx,.string ⟨#[]⟩,.slice a3 1 y,.slice none 0 0,.slice none 0 0,.int .i64 0] from setCell_row G.out.st 3 _]
   have V3:=Hd (exsAt_row V3.out #[.int .u8 1,.string tx,.string ⟨#[]⟩,.slice a3 1 y,.slice none 0 0,.slice none 0 0,.int .i64 0] (g:=w.heap.size+1+1) (by omega))
   have G:=Hd (G.out.row #[.int .u8 1,.string tx,.string ⟨#[]⟩,.slice a3 1 y,.slice none 0 0,.slice none 0 0,.int .i64 0] x.out);clear c3 z3;by_cases q4:isT [59] (c.at (j3))=true;rotate_left
   · have V : isT [59] (c.at (j3)) = false := by simpa using q4
     go_at_call 146;refine (p_take_bad (G.out.run.rd A.out) ⟨#[59]⟩ (by decide) V).mono ?_
     rintro e w4 ⟨rfl,l⟩;have a:=f.out;rw [need_at,V] at a;have a:=Hd a;clear q4 V;have C:=Hd (G.out.run.fr.trans l);clear l;go_wp2_with fail;refine ⟨rfl,?_⟩;rw [a.out];exact ⟨C.out,rfl⟩
   go_at_call 146;refine (p_take_ok (G.out.run.rd A.out) ⟨#[59]⟩ (by decide) q4).mono ?_
   rintro e w4 ⟨rfl,l,N⟩;have a:=f.out;rw [need_at,if_pos q4] at a;have f:Hid (Y=.ok (St.mk 1 tx ⟨#[]⟩ [e3] [] [] B) (c.at (j3+1))):=a;have az:=Hd (at_step (Par.isT_lt q4));have V3:=Hd (exsAt_call V3.out l (by have:=x.out;omega))
   have G:=Hd (G.out.call l N x.out);clear a q4 l N;obtain ⟨WE,I⟩:∃ WE,Hid (WE=w4):=⟨_,rfl⟩;rw [<- I.out];rw [<- I.out] at G V3;have OS:=G.out.st;have OR:=G.out.res;go_wp2_with (first | (refine ld rowSt rfl rfl rfl OS rfl ?_) | (refine st rowSt rfl rfl OR rfl rfl (by rfl) (by rfl) (by kernel_rfl) ?_))
   have hx:=x.out;have AE:=G.out.run.setRow (g:=w.heap.size+1) (by omega) (by omega) #[.int .u8 1,.string tx,.string ⟨#[]⟩,.slice a3 1 y,.slice none 0 0,.slice none 0 0,.int .i64 0]
   refine p_ret rowSt rfl (OR.row #[.int .u8 1,.string tx,.string ⟨#[]⟩,.slice a3 1 y,.slice none 0 0,.slice none 0 0,.int .i64 0]) rfl rfl rfl ?_;rw [f.out];exact ⟨AE.fr,_,(j3+1),rfl,⟨rfl,_,_,_,_,_,_,rfl,exsAt_mono (exsAt_row V3.out _ (g:=w.heap.size+1) (by omega)) (fun b hb=>by omega),.inl rfl,.inl rfl⟩,AE.rd A.out,rfl⟩
 have f:Hid (Y=(need c.L [40] (c.at ((k+1)+1))).then fun _ r=>(nameP c.L r).then fun o r=>(need c.L [44] r).then fun _ r=>(binE fnd c.L m 1 0 r).then fun e r=>(need c.L [41] r).then fun _ r=>(need c.L [59] r).then fun _ r=>.ok (St.mk 2 tx o.name [e] [] [] B) r):=a.trans (by rw [if_pos rfl,Par.at_tail])
 have G:=Hd (G.out.call Q (show Rd c w2 ((k+1)+1) from S) x.out)
 have bj:=Hd (at_step (Par.isT_lt O.symm));clear a O ae Q S;have c0:=G.out.cell (i:=0) (v:=.int .u8 1) rfl;have z0:=G.out.frozen 0;go_wp2_with fail;rw [show w2.setCell ⟨w.heap.size+1+1,0,none⟩ (.int .u8 2)=w2.setRow (w.heap.size+1+1) #[.int .u8 2,.string tx,.string ⟨#[]⟩,.slice none 0 0,.slice none 0 0,.slice none 0 0,.int .i64 0] from setCell_row G.out.st 0 _]
 have G:=Hd (G.out.row #[.int .u8 2,.string tx,.string ⟨#[]⟩,.slice none 0 0,.slice none 0 0,.slice none 0 0,.int .i64 0] x.out);clear c0 z0;by_cases q3:isT [40] (c.at (((k+1)+1)))=true;rotate_left
 · have Z : isT [40] (c.at (((k + 1) + 1))) = false := by simpa using q3
   go_at_call 146;refine (p_take_bad (G.out.run.rd A.out) ⟨#[40]⟩ (by decide) Z).mono ?_
   rintro e w3 ⟨rfl,n⟩;have a:=f.out;rw [need_at,Z] at a;have a:=Hd a;clear q3 Z;have C:=Hd (G.out.run.fr.trans n);clear n;go_wp2_with fail;refine ⟨rfl,?_⟩;rw [a.out];exact ⟨C.out,rfl⟩
 go_at_call 146;refine (p_take_ok (G.out.run.rd A.out) ⟨#[40]⟩ (by decide) q3).mono ?_
 rintro e w3 ⟨rfl,n,J⟩;have a:=f.out;rw [need_at,if_pos q3] at a;have f:Hid (Y=(nameP c.L (c.at (((k+1)+1)+1))).then fun o r=>(need c.L [44] r).then fun _ r=>(binE fnd c.L m 1 0 r).then fun e r=>(need c.L [41] r).then fun _ r=>(need c.L [59] r).then fun _ r=>.ok (St.mk 2 tx o.name [e] [] [] B) r):=a
 have ap:=Hd (at_step (Par.isT_lt q3));have G:=Hd (G.out.call n J x.out);clear a q3 n J;go_wp2_with fail;by_cases q4:(c.nx (((k+1)+1)+1)).kind=1;rotate_left
 · go_at_call 144
   refine (p_kind_bad (G.out.run.rd A.out) 1 q4).mono ?_;rintro e w4 ⟨rfl,l⟩;have a:=f.out;rw [nameP_at,if_neg q4] at a;have a:=Hd a;clear q4;have C:=Hd (G.out.run.fr.trans l);clear l;go_wp2_with fail;refine ⟨rfl,?_⟩;rw [a.out];exact ⟨C.out,rfl⟩
 have ac:=Hd (p_kind_ok (G.out.run.rd A.out) 1 q4 (nx_lt (.inl (by rw [q4];decide))))
 obtain ⟨t4,ag⟩:=Qx (c.nx (((k+1)+1)+1));have a:=f.out;rw [nameP_at,if_pos q4,<- ag] at a;have az:=Hd (at_step (c:=c) (k:=(((k+1)+1)+1)) (nx_lt (.inl (by rw [q4];decide))))
 rw [<- ag] at ac;have f:Hid (Y=(need c.L [44] (c.at ((((k+1)+1)+1)+1))).then fun _ r=>(binE fnd c.L m 1 0 r).then fun e r=>(need c.L [41] r).then fun _ r=>(need c.L [59] r).then fun _ r=>.ok (St.mk 2 tx t4.text [e] [] [] B) r):=a
 clear q4 ag a;obtain ⟨b2,j,bu,b0⟩:=t4;unfold tkV Par.ptr at ac;go_at_call 144;refine (ac.out).mono ?_;rintro e w4 ⟨rfl,l,N⟩;have G:=Hd (G.out.call l N x.out);clear l N;have c2:=G.out.cell (i:=2) (v:=.string ⟨#[]⟩) rfl;have z2:=G.out.frozen 2;have F1:=tok_f1;go_wp2_with fail;rw [show w4.setCell ⟨w.heap.size+1+1,2,none⟩ (.string j)=w4.setRow (w.heap.size+1+1) #[.int .u8 2,.string tx,.string j,.slice none 0 0,.slice none 0 0,.slice none 0 0,.int .i64 0] from setCell_row G.out.st 2 _]
 have G:=Hd (G.out.row #[.int .u8 2,.string tx,.string j,.slice none 0 0,.slice none 0 0,.slice none 0 0,.int .i64 0] x.out);clear c2 z2;clear F1;by_cases q5:isT [44] (c.at (((((k+1)+1)+1)+1)))=true;rotate_left
 · have ab : isT [44] (c.at (((((k + 1) + 1) + 1) + 1))) = false := by simpa using q5
   go_at_call 146;refine (p_take_bad (G.out.run.rd A.out) ⟨#[44]⟩ (by decide) ab).mono ?_
   rintro e w5 ⟨rfl,M⟩;have a:=f.out;rw [need_at,ab] at a;have a:=Hd a;clear q5 ab;have C:=Hd (G.out.run.fr.trans M);clear M;go_wp2_with fail;refine ⟨rfl,?_⟩;rw [a.out];exact ⟨C.out,rfl⟩
 go_at_call 146;refine (p_take_ok (G.out.run.rd A.out) ⟨#[44]⟩ (by decide) q5).mono ?_
 rintro e w5 ⟨rfl,M,au⟩;have a:=f.out;rw [need_at,if_pos q5] at a;have f:Hid (Y=(binE fnd c.L m 1 0 (c.at (((((k+1)+1)+1)+1)+1))).then fun e r=>(need c.L [41] r).then fun _ r=>(need c.L [59] r).then fun _ r=>.ok (St.mk 2 tx j [e] [] [] B) r):=a
 have bh:=Hd (at_step (Par.isT_lt q5));have G:=Hd (G.out.call M au x.out);clear a q5 M au;go_wp2_with fail;obtain ⟨Z6,D⟩:=Qx (binE fnd c.L m 1 0 (c.at (((((k+1)+1)+1)+1)+1)));have bg:Hid (∀ W,Rd c W (((((k+1)+1)+1)+1)+1)->Calls Tryz.prog 145 #[.pointer (some ⟨c.X,0,none⟩)] W (RdPost c W Z6 (fun e v w'=>exsVal W.heap.size [e] v w'))):=fun W RW=>by rw [D];exact p_value RW (by have:=HM.out;have:=av.out;have:=bj.out;have:=ap.out;have:=az.out;have:=bh.out;omega)
 have ay:Hid (∀ e r,Z6=.ok e r->r.length<(c.at (((((k+1)+1)+1)+1)+1)).length):=fun e r h=>binE_short (D.symm.trans h)
 have f:Hid (Y=Z6.then fun e r=>(need c.L [41] r).then fun _ r=>(need c.L [59] r).then fun _ r=>.ok (St.mk 2 tx j [e] [] [] B) r):=by first | (rw [Hid,f.out,D];done) | (rw [Hid,f.out,D];rfl) | (rw [Hid,f.out,D];unfold parenP;rfl)
 clear D;go_at_call 145;refine (bg.out _ (G.out.run.rd A.out)).mono ?_;rintro e w6 ⟨P,a4⟩;rcases Z6 with ⟨e6,r6⟩ | ⟨p,q⟩
 rotate_left
 · obtain rfl := a4
   have a:=f;have C:=Hd (G.out.run.fr.trans P);clear P;go_wp2_with fail;refine ⟨rfl,?_⟩;rw [a.out];exact ⟨C.out,rfl⟩
 obtain ⟨v6,T,rfl,⟨a6,z,rfl,aq⟩,a1,rfl⟩:=a4;have f:Hid (Y=(need c.L [41] (c.at T)).then fun _ r=>(need c.L [59] r).then fun _ r=>.ok (St.mk 2 tx j [e6] [] [] B) r):=f.out
 have bz:=Hd (ay.out _ _ rfl);have U:Hid (exsAt (fun b=>w.heap.size+1+1+1<=b) w6 [e6] a6):=Hd (exsAt_mono aq (fun b hb=>by have:=G.out.st.lt;change _<=_ at hb;omega))
 have G:=Hd (G.out.call P a1 x.out);clear P a1 aq;have c3:=G.out.cell (i:=3) (v:=.slice none 0 0) rfl;have z3:=G.out.frozen 3;go_wp2_with fail;rw [show w6.setCell ⟨w.heap.size+1+1,3,none⟩ (.slice a6 1 z)=w6.setRow (w.heap.size+1+1) #[.int .u8 2,.string tx,.string j,.slice a6 1 z,.slice none 0 0,.slice none 0 0,.int .i64 0] from setCell_row G.out.st 3 _]
 have U:=Hd (exsAt_row U.out #[.int .u8 2,.string tx,.string j,.slice a6 1 z,.slice none 0 0,.slice none 0 0,.int .i64 0] (g:=w.heap.size+1+1) (by omega))
 have G:=Hd (G.out.row #[.int .u8 2,.string tx,.string j,.slice a6 1 z,.slice none 0 0,.slice none 0 0,.int .i64 0] x.out);clear c3 z3;by_cases q7:isT [41] (c.at (T))=true;rotate_left
 · have ah : isT [41] (c.at (T)) = false := by simpa using q7
   go_at_call 146;refine (p_take_bad (G.out.run.rd A.out) ⟨#[41]⟩ (by decide) ah).mono ?_
   rintro e w7 ⟨rfl,E⟩;have a:=f.out;rw [need_at,ah] at a;have a:=Hd a;clear q7 ah;have C:=Hd (G.out.run.fr.trans E);clear E;go_wp2_with fail;refine ⟨rfl,?_⟩;rw [a.out];exact ⟨C.out,rfl⟩
 go_at_call 146;refine (p_take_ok (G.out.run.rd A.out) ⟨#[41]⟩ (by decide) q7).mono ?_
 rintro e w7 ⟨rfl,E,a0⟩;have a:=f.out;rw [need_at,if_pos q7] at a;have f:Hid (Y=(need c.L [59] (c.at (T+1))).then fun _ r=>.ok (St.mk 2 tx j [e6] [] [] B) r):=a
 have b1:=Hd (at_step (Par.isT_lt q7));have U:=Hd (exsAt_call U.out E (by have:=x.out;omega))
 have G:=Hd (G.out.call E a0 x.out);clear a q7 E a0;go_wp2_with fail;by_cases q8:isT [59] (c.at ((T+1)))=true;rotate_left
 · have ai : isT [59] (c.at ((T + 1))) = false := by simpa using q8
   go_at_call 146;refine (p_take_bad (G.out.run.rd A.out) ⟨#[59]⟩ (by decide) ai).mono ?_
   rintro e w8 ⟨rfl,F⟩;have a:=f.out;rw [need_at,ai] at a;have a:=Hd a;clear q8 ai;have C:=Hd (G.out.run.fr.trans F);clear F;go_wp2_with fail;refine ⟨rfl,?_⟩;rw [a.out];exact ⟨C.out,rfl⟩
 go_at_call 146;refine (p_take_ok (G.out.run.rd A.out) ⟨#[59]⟩ (by decide) q8).mono ?_
 rintro e w8 ⟨rfl,F,am⟩;have a:=f.out;rw [need_at,if_pos q8] at a;have f:Hid (Y=.ok (St.mk 2 tx j [e6] [] [] B) (c.at ((T+1)+1))):=a;have b6:=Hd (at_step (Par.isT_lt q8));have U:=Hd (exsAt_call U.out F (by have:=x.out;omega))
 have G:=Hd (G.out.call F am x.out);clear a q8 F am;obtain ⟨WE,I⟩:∃ WE,Hid (WE=w8):=⟨_,rfl⟩;rw [<- I.out];rw [<- I.out] at G U;have OS:=G.out.st;have OR:=G.out.res;go_wp2_with (first | (refine ld rowSt rfl rfl rfl OS rfl ?_) | (refine st rowSt rfl rfl OR rfl rfl (by rfl) (by rfl) (by kernel_rfl) ?_))
 have hx:=x.out;have AE:=G.out.run.setRow (g:=w.heap.size+1) (by omega) (by omega) #[.int .u8 2,.string tx,.string j,.slice a6 1 z,.slice none 0 0,.slice none 0 0,.int .i64 0]
 refine p_ret rowSt rfl (OR.row #[.int .u8 2,.string tx,.string j,.slice a6 1 z,.slice none 0 0,.slice none 0 0,.int .i64 0]) rfl rfl rfl ?_;rw [f.out];exact ⟨AE.fr,_,((T+1)+1),rfl,⟨rfl,_,_,_,_,_,_,rfl,exsAt_mono (exsAt_row U.out _ (g:=w.heap.size+1) (by omega)) (fun b hb=>by omega),.inl rfl,.inl rfl⟩,AE.rd A.out,rfl⟩
end Go.Proofs.YtbgfkdiihnidaaaGreatDoor

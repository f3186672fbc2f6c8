import Derived.Test.YtbgfkdiihnidaaaGreatDoorQAH
import Derived.Deep.AppendLies
set_option maxRecDepth 100000
set_option maxHeartbeats 20000000
namespace Go.Proofs.YtbgfkdiihnidaaaGreatDoor
open Go.RowKit
set_option linter.unusedVariables false
theorem zeroFnS (w:World):(zeroValue 153).run Tryz.prog w=.ok .nilFunc w:=by kernel_rfl
theorem stmts_keys (c:Par):∀ e∈c.stmtE,∃ t,e.key=.string t:=by
 intro e a;simp only [Par.stmtE,List.mem_cons,List.not_mem_nil,or_false] at a;rcases a with rfl | rfl | rfl | rfl | rfl <;> exact ⟨_,rfl⟩
theorem run_stmts {c:Par} {W:World} (S:RdS c W) (s:ByteArray):(Instr.lookup 92 (.map (some c.S)) (.string s) false).run Tryz.prog W=.ok (lookE s.data.toList c.stmtE) W :=
 run_look Tryz.underlying92 Tryz.underlying9 (zeroFnS W) S.sm (stmts_keys c) s
theorem fn_eqlS:∀ (f:Fn) (u v:Array Value) (w:World),(binOp .eql 153 (.func f u v) .nilFunc).run Tryz.prog w=.ok (.bool false) w:=fun f u v w=>by kernel_rfl
theorem nil_eqlS:∀ (w:World),(binOp .eql 153 .nilFunc .nilFunc).run Tryz.prog w=.ok (.bool true) w:=fun w=>by kernel_rfl
def stW (n:Nat) (s:St) (v:Value) (W:World):Prop:=stR n s.pos s v W
theorem stsAt_in {R:Nat->Prop} {w:World} {l:List St} {a:Option Addr} (h:stsAt R w l a):stsAt (fun b=>R b/\b<w.heap.size) w l a:=by
 have v:∀ (l:List St) (b c:Nat),stsIn R w l b c->stsIn (fun b=>R b/\b<w.heap.size) w l b c:=by
  intro l;induction l using Sts.ind with
  | h0=>intro b c _;exact trivial
  | h1 k n o e bd el p r ih1 ih2 ih3 =>
    intro b c h;obtain ⟨⟨O,P,M,⟨H,i,F,J⟩,⟨G,f,I,t⟩,⟨L,m,Q,s⟩,N⟩,K⟩:=h;refine ⟨⟨O,P,M,⟨H,i,F,exsAt_in J⟩,⟨G,f,I,?_⟩,⟨L,m,Q,?_⟩,N⟩,ih3 b _ K⟩
    · rcases t with t | ⟨g, q, rfl, j, d⟩
      · exact .inl t
      · cases bd with
        | nil=>exact .inl rfl
        | cons x xs =>
          refine .inr ⟨g,q,rfl,⟨j,?_⟩,ih1 g q d⟩;obtain ⟨z,B,D,A,y,C,E⟩:=x;exact cell_lt d.1.1
    · rcases s with s | ⟨g, q, rfl, j, d⟩
      · exact .inl s
      · cases el with
        | nil=>exact .inl rfl
        | cons x xs =>
          refine .inr ⟨g,q,rfl,⟨j,?_⟩,ih2 g q d⟩;obtain ⟨z,B,D,A,y,C,E⟩:=x;exact cell_lt d.1.1
 rcases h with h | ⟨g,q,rfl,j,d⟩
 · exact .inl h
 · cases l with
   | nil=>exact .inl rfl
   | cons x xs =>
     refine .inr ⟨g,q,rfl,⟨j,?_⟩,v _ g q d⟩;obtain ⟨z,B,D,A,y,C,E⟩:=x;exact cell_lt d.1.1
theorem s_change {c:Par} {w:World} {k:Nat} (R:Rd c w k) (d:Int) (Y:PR St) (hyp:(c.nx k).kind=1)
 (HC:∀ W,Rd c W (k+1)->Calls Tryz.prog 179 #[c.ptr,tkV (c.nx k),.int .i64 d] W (RdPost c W Y (fun s v w'=>s.pos=(c.nx k).pos/\stR W.heap.size 0 s v w'))) :
 Calls Tryz.prog 151 #[c.ptr,.int .i64 d] w (RdPost c w Y (stW w.heap.size)):=by
 have ak:=Hd (nx_lt (c:=c) (k:=k) (.inl (by rw [hyp];decide)))
 have bk:k<=65536:=by have:=R.s.small.1;have:=R.le;omega
 have HN:Hid (∀ W,Rd c W k->Calls Tryz.prog 39 #[c.ptr] W fun e w'=>e=.returned (tkV (c.nx k))/\Below W.heap.size W w'):=fun W h=>p_next h
 obtain ⟨t,ht⟩:=Qx (c.nx k);have HT:=Hd ht;rw [<- ht] at HN hyp;clear ht;obtain ⟨tk,tx,Q,j⟩:=t;have HR:=Hd R;have hX:=Hd R.lt;have A0:=Hd ((At.start R).alloc (.cells zSt 120));have O0:=Own.new w 120 zSt;have z:Hid (∀ W,RdS c W->(Instr.lookup 92 (.map (some c.S)) (.string tx) false).run Tryz.prog W=.ok (lookE tx.data.toList c.stmtE) W):=fun W S=>run_stmts S _
 obtain ⟨V,hV⟩:=Qx (lookE tx.data.toList c.stmtE);rw [<- hV] at z;clear hV;clear R;have HC:=Hd HC;rw [<- HT.out] at HC;simp only at hyp;subst hyp;clear HT;unfold tkV Par.ptr zSt at *;have F1:=fn_eqlS;go_enter Tryz.func151,Tryz.ntmps151;go_wp2_with fail;go_at_call 39;refine (HN.out _ (A0.out.rd HR.out)).mono ?_;rintro e C ⟨rfl,f⟩;have U:=Hd ((A0.out.below f).alloc (.cells #[.int .u8 1,.string tx,.int .i64 Q,.int .i64 j] 50));have O1:=Hd ((O0.below f).alloc (.cells #[.int .u8 1,.string tx,.int .i64 Q,.int .i64 j] 50));have T1:=Hd (Own.new C 50 #[.int .u8 1,.string tx,.int .i64 Q,.int .i64 j]);have D:=Hd (O0.below f).lt;clear f O0;go_upto_region 2 with (fail)
 have o:Hid ((C.alloc (.cells #[.int .u8 1,.string tx,.int .i64 Q,.int .i64 j] 50)).heap.size=C.heap.size+1):=World.size_alloc _ _;obtain ⟨W,hW⟩:=Qx (C.alloc (.cells #[.int .u8 1,.string tx,.int .i64 Q,.int .i64 j] 50));rw [<- hW] at U O1 T1 o ⊢;clear hW;obtain ⟨⟨_,_,x2,_,x4,_⟩,xf⟩:=U.out.cells;have t1:W.cell? ⟨C.heap.size,1,none⟩=some (.string tx):=cr T1.out;have t0:W.cell? ⟨C.heap.size,0,none⟩=some (.int .u8 1):=cr T1.out;have ay:=fun n=>z.out (W.drewN n) ((U.out.rd HR.out).s.drewN n)
 go_quiet (fail);obtain ⟨W2,K⟩:=Qx (W.drewN nq);have T:=U.out.drewN nq;have O2:=O1.out.drewN nq;have T2:=T1.out.drewN nq;have o:Hid (W2.heap.size=C.heap.size+1):=by rw [K];exact o.out
 rw [<- K] at T O2 T2 ⊢;have T:=Hd T;have O2:=Hd O2;have T2:=Hd T2;clear K x2 x4 xf t1 t0 ay U O1 T1;obtain ⟨⟨_,_,x2,_⟩,xf⟩:=T.out.cells;have t0:W2.cell? ⟨C.heap.size,0,none⟩=some (.int .u8 1):=cr T2.out;have A3:=Hd (T.out.step ak.out);have I:c.X≠C.heap.size:=by have:=hX.out;have:=D.out;omega
 have A:c.X≠w.heap.size:=by have:=hX.out;omega
 have T3:=T2.out.setX 2 (.int .i64 ((k:Int)+1)) I
 have O3:=Hd (O2.out.setX 2 (.int .i64 ((k:Int)+1)) A)
 have I:=Hd I;have A:=Hd A;go_wp2_with (first | (refine ld rowTok rfl rfl rfl T3 rfl ?_))
 go_at_call 179;refine (HC.out _ (A3.out.rd HR.out)).mono ?_;rintro e i ⟨l,hm⟩;rcases Y with ⟨a,r0⟩ | ⟨p,q⟩
 rotate_left
 · obtain rfl := hm
   have A4:=Hd (A3.out.fr.trans l);clear l;go_wp2_with fail;exact ⟨rfl,A4.out,rfl⟩
 obtain ⟨v,k2,rfl,⟨B,y,x,E,F,r,G,rfl,P,O,N⟩,ab,rfl⟩:=hm;change a.pos=j at B;obtain ⟨m,Z⟩:∃ m:Array Value,m=#[.int .u8 a.kind,.string a.name,.string a.other,.slice y a.e.length x,.slice E a.body.length F,.slice r a.els.length G,.int .i64 0]:=⟨_,rfl⟩;have A4:=Hd ((A3.out.call l ab).alloc (.cells m 120));have O4:=(O3.out.fr l A.out).alloc (.cells m 120);have T4:=(T3.fr l I.out).alloc (.cells m 120);have N4:=Own.new i 120 m;have bo:C.heap.size<i.heap.size:=by have h1:=Keep.size l;have:=o.out;rw [World.size_setCell] at h1;omega
 have H:∀ b,(W2.setCell ⟨c.X,2,none⟩ (.int .i64 ((k:Int)+1))).heap.size<=b->w.heap.size+1<=b:=fun b f=>by have:=D.out;have:=o.out;rw [World.size_setCell] at f;omega
 have V3:=Hd (exsAt_stays (stays_alloc _ i (.cells m 120)) (fun b f=>f) (exsAt_in P))
 have V4:=Hd (stsAt_stays (stays_alloc _ i (.cells m 120)) (fun b f=>f) (stsAt_in O))
 have V5:=Hd (stsAt_stays (stays_alloc _ i (.cells m 120)) (fun b f=>f) (stsAt_in N))
 have V3:=Hd (exsAt_mono (R':=fun b=>w.heap.size+1<=b/\b≠i.heap.size) V3.out (fun b f=>⟨H b f.1,by have:=f.2;omega⟩))
 have V4:=Hd (stsAt_mono (R':=fun b=>w.heap.size+1<=b/\b≠i.heap.size) V4.out (fun b f=>⟨H b f.1,by have:=f.2;omega⟩))
 have V5:=Hd (stsAt_mono (R':=fun b=>w.heap.size+1<=b/\b≠i.heap.size) V5.out (fun b f=>⟨H b f.1,by have:=f.2;omega⟩))
 obtain ⟨W5,M⟩:=Qx ((i.alloc (.cells m 120)).setRow i.heap.size #[.int .u8 a.kind,.string a.name,.string a.other,.slice y a.e.length x,.slice E a.body.length F,.slice r a.els.length G,.int .i64 j]);have ar:c.X≠i.heap.size:=by have:=hX.out;have:=D.out;omega
 have ax:w.heap.size<=i.heap.size:=by have:=D.out;omega
 have az:w.heap.size≠i.heap.size:=by have:=D.out;omega
 have A5:=Hd (A4.out.setRow ax ar #[.int .u8 a.kind,.string a.name,.string a.other,.slice y a.e.length x,.slice E a.body.length F,.slice r a.els.length G,.int .i64 j]);have O5:=O4.other (g:=i.heap.size) #[.int .u8 a.kind,.string a.name,.string a.other,.slice y a.e.length x,.slice E a.body.length F,.slice r a.els.length G,.int .i64 j] az;have N5:=N4.row #[.int .u8 a.kind,.string a.name,.string a.other,.slice y a.e.length x,.slice E a.body.length F,.slice r a.els.length G,.int .i64 j];have U3:=Hd (exsAt_stays (stays_row (i.alloc (.cells m 120)) (g:=i.heap.size) #[.int .u8 a.kind,.string a.name,.string a.other,.slice y a.e.length x,.slice E a.body.length F,.slice r a.els.length G,.int .i64 j] (fun b f=>f.2)) (fun b f=>f.1) V3.out)
 have U4:=Hd (stsAt_stays (stays_row (i.alloc (.cells m 120)) (g:=i.heap.size) #[.int .u8 a.kind,.string a.name,.string a.other,.slice y a.e.length x,.slice E a.body.length F,.slice r a.els.length G,.int .i64 j] (fun b f=>f.2)) (fun b f=>f.1) V4.out)
 have U5:=Hd (stsAt_stays (stays_row (i.alloc (.cells m 120)) (g:=i.heap.size) #[.int .u8 a.kind,.string a.name,.string a.other,.slice y a.e.length x,.slice E a.body.length F,.slice r a.els.length G,.int .i64 j] (fun b f=>f.2)) (fun b f=>f.1) V5.out)
 have E5:(i.alloc (.cells m 120)).setCell ⟨i.heap.size,6,none⟩ (.int .i64 j)=W5:=by
  rw [M,setCell_row N4 6 _,Z];rfl
 rw [<- M] at A5 O5 N5 U3 U4 U5;have t3:(i.alloc (.cells m 120)).cell? ⟨C.heap.size,3,none⟩=some (.int .i64 j):=cr T4;subst Z;have HP:=Hd B;clear l ab P O N H A4 O4 T4 N4 M x2 xf t0 T3 B;go_wp2_with (first | (refine ld rowSt rfl rfl rfl N5 rfl ?_) | (refine st rowSt rfl rfl O5 rfl rfl (by rfl) (by rfl) (by kernel_rfl) ?_))
 have A6:=A5.out.setRow (Nat.le_refl _) A.out #[.int .u8 a.kind,.string a.name,.string a.other,.slice y a.e.length x,.slice E a.body.length F,.slice r a.els.length G,.int .i64 j];have L:∀ b,w.heap.size+1<=b->b≠w.heap.size:=fun b h=>by omega
 have J:∀ b,w.heap.size+1<=b->w.heap.size<=b:=fun b h=>by omega
 refine p_ret rowSt rfl (O5.row #[.int .u8 a.kind,.string a.name,.string a.other,.slice y a.e.length x,.slice E a.body.length F,.slice r a.els.length G,.int .i64 j]) rfl rfl rfl ?_;refine ⟨A6.fr,_,k2,rfl,⟨y,x,E,F,r,G,by rw [HP.out],?_,?_,?_⟩,A6.rd HR.out,rfl⟩
 · exact exsAt_stays (stays_row W5 _ L) J U3.out
 · exact stsAt_stays (stays_row W5 _ L) J U4.out
 · exact stsAt_stays (stays_row W5 _ L) J U5.out
theorem s_word {c:Par} {w:World} {k:Nat} (R:Rd c w k) {F:Nat} {word:List UInt8} (hF:(F=97/\word=[112,114,105,110,116])\/(F=95/\word=[119,104,105,108,101])\/(F=98/\word=[115,107,105,112])\/(F=96/\word=[108,111,99,107])\/(F=94/\word=[105,102])) (d:Int) (Y:PR St) (hyp:¬ (c.nx k).kind=1/\(c.nx k).tx=word)
 (HC:∀ W,Rd c W (k+1)->Calls Tryz.prog F #[c.ptr,tkV (c.nx k),.int .i64 d] W (RdPost c W Y (fun s v w'=>s.pos=(c.nx k).pos/\stR W.heap.size 0 s v w'))) :
 Calls Tryz.prog 151 #[c.ptr,.int .i64 d] w (RdPost c w Y (stW w.heap.size)):=by
 have o:∀ (tx:ByteArray) W,tx.data.toList=word->RdS c W->(Instr.lookup 92 (.map (some c.S)) (.string tx) false).run Tryz.prog W=.ok (.func (.func F) #[.pointer (some ⟨c.X,0,none⟩)] #[]) W:=fun tx W e S=>by
  rcases hF with ⟨rfl,rfl⟩ | ⟨rfl,rfl⟩ | ⟨rfl,rfl⟩ | ⟨rfl,rfl⟩ | ⟨rfl,rfl⟩ <;> (rw [run_stmts S];rw [e];rfl)
 rcases hF with ⟨rfl,rfl⟩ | ⟨rfl,rfl⟩ | ⟨rfl,rfl⟩ | ⟨rfl,rfl⟩ | ⟨rfl,rfl⟩
 all_goals
  have al:=Hd (nx_lt (c:=c) (k:=k) (.inr (by rw [hyp.2];decide)))
  have bk:k<=65536:=by have:=R.s.small.1;have:=R.le;omega
  have HN:Hid (∀ W,Rd c W k->Calls Tryz.prog 39 #[c.ptr] W fun e w'=>e=.returned (tkV (c.nx k))/\Below W.heap.size W w'):=fun W h=>p_next h
  obtain ⟨t,ht⟩:=Qx (c.nx k);have HT:=Hd ht;rw [<- ht] at HN hyp;clear ht;obtain ⟨tk,tx,U,j⟩:=t;have HR:=Hd R;have hX:=Hd R.lt;have A0:=Hd ((At.start R).alloc (.cells zSt 120));have O0:=Own.new w 120 zSt;have K:=Hd (fun W (S:RdS c W)=>o tx W hyp.2 S)
  clear o;clear R;have HC:=Hd HC;rw [<- HT.out] at HC;have q1:(tk==1)=false:=by simpa using hyp.1
  clear hyp HT;unfold tkV Par.ptr zSt at *;have F1:=fn_eqlS;go_enter Tryz.func151,Tryz.ntmps151;go_wp2_with fail;go_at_call 39;refine (HN.out _ (A0.out.rd HR.out)).mono ?_;rintro e C ⟨rfl,f⟩;have Z:=Hd ((A0.out.below f).alloc (.cells #[.int .u8 tk,.string tx,.int .i64 U,.int .i64 j] 50));have O1:=Hd ((O0.below f).alloc (.cells #[.int .u8 tk,.string tx,.int .i64 U,.int .i64 j] 50));have T1:=Hd (Own.new C 50 #[.int .u8 tk,.string tx,.int .i64 U,.int .i64 j]);have D:=Hd (O0.below f).lt;clear f O0;go_upto_region 2 with (fail)
  have r:Hid ((C.alloc (.cells #[.int .u8 tk,.string tx,.int .i64 U,.int .i64 j] 50)).heap.size=C.heap.size+1):=World.size_alloc _ _;obtain ⟨W,hW⟩:=Qx (C.alloc (.cells #[.int .u8 tk,.string tx,.int .i64 U,.int .i64 j] 50));rw [<- hW] at Z O1 T1 r ⊢;clear hW;obtain ⟨⟨_,_,x2,_,x4,_⟩,xf⟩:=Z.out.cells;have t1:W.cell? ⟨C.heap.size,1,none⟩=some (.string tx):=cr T1.out;have t0:W.cell? ⟨C.heap.size,0,none⟩=some (.int .u8 tk):=cr T1.out;have az:=fun n=>K.out (W.drewN n) ((Z.out.rd HR.out).s.drewN n)
  go_quiet (fail);obtain ⟨W2,M⟩:=Qx (W.drewN nq);have V:=Z.out.drewN nq;have O2:=O1.out.drewN nq;have T2:=T1.out.drewN nq;have r:Hid (W2.heap.size=C.heap.size+1):=by rw [M];exact r.out
  rw [<- M] at V O2 T2 ⊢;have V:=Hd V;have O2:=Hd O2;have T2:=Hd T2;clear M x2 x4 xf t1 t0 az Z O1 T1;obtain ⟨⟨_,_,x2,_⟩,xf⟩:=V.out.cells;have t0:W2.cell? ⟨C.heap.size,0,none⟩=some (.int .u8 tk):=cr T2.out;have A3:=Hd (V.out.step al.out);have J:c.X≠C.heap.size:=by have:=hX.out;have:=D.out;omega
  have A:c.X≠w.heap.size:=by have:=hX.out;omega
  have T3:=T2.out.setX 2 (.int .i64 ((k:Int)+1)) J
  have O3:=Hd (O2.out.setX 2 (.int .i64 ((k:Int)+1)) A)
  have J:=Hd J;have A:=Hd A;go_wp2_with (first | (refine ld rowTok rfl rfl rfl T3 rfl ?_))
  first | go_at_call 97 | go_at_call 95 | go_at_call 98 | go_at_call 96 | go_at_call 94
  refine (HC.out _ (A3.out.rd HR.out)).mono ?_;rintro e i ⟨l,hm⟩;rcases Y with ⟨a,r0⟩ | ⟨p,q⟩
  rotate_left
  · obtain rfl := hm
    have A4:=Hd (A3.out.fr.trans l);clear l;go_wp2_with fail;exact ⟨rfl,A4.out,rfl⟩
  obtain ⟨v,k2,rfl,⟨B,z,y,E,G,x,H,rfl,T,Q,P⟩,ac,rfl⟩:=hm;change a.pos=j at B;obtain ⟨m,aa⟩:∃ m:Array Value,m=#[.int .u8 a.kind,.string a.name,.string a.other,.slice z a.e.length y,.slice E a.body.length G,.slice x a.els.length H,.int .i64 0]:=⟨_,rfl⟩;have A4:=Hd ((A3.out.call l ac).alloc (.cells m 120));have O4:=(O3.out.fr l A.out).alloc (.cells m 120);have T4:=(T3.fr l J.out).alloc (.cells m 120);have N4:=Own.new i 120 m;have bo:C.heap.size<i.heap.size:=by have h1:=Keep.size l;have:=r.out;rw [World.size_setCell] at h1;omega
  have I:∀ b,(W2.setCell ⟨c.X,2,none⟩ (.int .i64 ((k:Int)+1))).heap.size<=b->w.heap.size+1<=b:=fun b f=>by have:=D.out;have:=r.out;rw [World.size_setCell] at f;omega
  have V3:=Hd (exsAt_stays (stays_alloc _ i (.cells m 120)) (fun b f=>f) (exsAt_in T))
  have V4:=Hd (stsAt_stays (stays_alloc _ i (.cells m 120)) (fun b f=>f) (stsAt_in Q))
  have V5:=Hd (stsAt_stays (stays_alloc _ i (.cells m 120)) (fun b f=>f) (stsAt_in P))
  have V3:=Hd (exsAt_mono (R':=fun b=>w.heap.size+1<=b/\b≠i.heap.size) V3.out (fun b f=>⟨I b f.1,by have:=f.2;omega⟩))
  have V4:=Hd (stsAt_mono (R':=fun b=>w.heap.size+1<=b/\b≠i.heap.size) V4.out (fun b f=>⟨I b f.1,by have:=f.2;omega⟩))
  have V5:=Hd (stsAt_mono (R':=fun b=>w.heap.size+1<=b/\b≠i.heap.size) V5.out (fun b f=>⟨I b f.1,by have:=f.2;omega⟩))
  obtain ⟨W5,O⟩:=Qx ((i.alloc (.cells m 120)).setRow i.heap.size #[.int .u8 a.kind,.string a.name,.string a.other,.slice z a.e.length y,.slice E a.body.length G,.slice x a.els.length H,.int .i64 j]);have au:c.X≠i.heap.size:=by have:=hX.out;have:=D.out;omega
  have ay:w.heap.size<=i.heap.size:=by have:=D.out;omega
  have a0:w.heap.size≠i.heap.size:=by have:=D.out;omega
  have A5:=Hd (A4.out.setRow ay au #[.int .u8 a.kind,.string a.name,.string a.other,.slice z a.e.length y,.slice E a.body.length G,.slice x a.els.length H,.int .i64 j]);have O5:=O4.other (g:=i.heap.size) #[.int .u8 a.kind,.string a.name,.string a.other,.slice z a.e.length y,.slice E a.body.length G,.slice x a.els.length H,.int .i64 j] a0;have N5:=N4.row #[.int .u8 a.kind,.string a.name,.string a.other,.slice z a.e.length y,.slice E a.body.length G,.slice x a.els.length H,.int .i64 j];have U3:=Hd (exsAt_stays (stays_row (i.alloc (.cells m 120)) (g:=i.heap.size) #[.int .u8 a.kind,.string a.name,.string a.other,.slice z a.e.length y,.slice E a.body.length G,.slice x a.els.length H,.int .i64 j] (fun b f=>f.2)) (fun b f=>f.1) V3.out)
  have U4:=Hd (stsAt_stays (stays_row (i.alloc (.cells m 120)) (g:=i.heap.size) #[.int .u8 a.kind,.string a.name,.string a.other,.slice z a.e.length y,.slice E a.body.length G,.slice x a.els.length H,.int .i64 j] (fun b f=>f.2)) (fun b f=>f.1) V4.out)
  have U5:=Hd (stsAt_stays (stays_row (i.alloc (.cells m 120)) (g:=i.heap.size) #[.int .u8 a.kind,.string a.name,.string a.other,.slice z a.e.length y,.slice E a.body.length G,.slice x a.els.length H,.int .i64 j] (fun b f=>f.2)) (fun b f=>f.1) V5.out)
  have E5:(i.alloc (.cells m 120)).setCell ⟨i.heap.size,6,none⟩ (.int .i64 j)=W5:=by
   rw [O,setCell_row N4 6 _,aa];rfl
  rw [<- O] at A5 O5 N5 U3 U4 U5;have t3:(i.alloc (.cells m 120)).cell? ⟨C.heap.size,3,none⟩=some (.int .i64 j):=cr T4;subst aa;have HP:=Hd B;clear l ac T Q P I A4 O4 T4 N4 O x2 xf t0 T3 B;go_wp2_with (first | (refine ld rowSt rfl rfl rfl N5 rfl ?_) | (refine st rowSt rfl rfl O5 rfl rfl (by rfl) (by rfl) (by kernel_rfl) ?_))
  have A6:=A5.out.setRow (Nat.le_refl _) A.out #[.int .u8 a.kind,.string a.name,.string a.other,.slice z a.e.length y,.slice E a.body.length G,.slice x a.els.length H,.int .i64 j];have N:∀ b,w.heap.size+1<=b->b≠w.heap.size:=fun b h=>by omega
  have L:∀ b,w.heap.size+1<=b->w.heap.size<=b:=fun b h=>by omega
  refine p_ret rowSt rfl (O5.row #[.int .u8 a.kind,.string a.name,.string a.other,.slice z a.e.length y,.slice E a.body.length G,.slice x a.els.length H,.int .i64 j]) rfl rfl rfl ?_;refine ⟨A6.fr,_,k2,rfl,⟨z,y,E,G,x,H,by rw [HP.out],?_,?_,?_⟩,A6.rd HR.out,rfl⟩
  · exact exsAt_stays (stays_row W5 _ N) L U3.out
  · exact stsAt_stays (stays_row W5 _ N) L U4.out
  · exact stsAt_stays (stays_row W5 _ N) L U5.out
theorem s_print {c:Par} {w:World} {k:Nat} (R:Rd c w k) (d:Int) (Y:PR St) (hyp:¬ (c.nx k).kind=1/\(c.nx k).tx=[112,114,105,110,116])
 (HC:∀ W,Rd c W (k+1)->Calls Tryz.prog 97 #[c.ptr,tkV (c.nx k),.int .i64 d] W (RdPost c W Y (fun s v w'=>s.pos=(c.nx k).pos/\stR W.heap.size 0 s v w'))) :
 Calls Tryz.prog 151 #[c.ptr,.int .i64 d] w (RdPost c w Y (stW w.heap.size)) :=
 s_word R (.inl ⟨rfl,rfl⟩) d Y hyp HC
theorem s_loop {c:Par} {w:World} {k:Nat} (R:Rd c w k) (d:Int) (Y:PR St) (hyp:¬ (c.nx k).kind=1/\(c.nx k).tx=[119,104,105,108,101])
 (HC:∀ W,Rd c W (k+1)->Calls Tryz.prog 95 #[c.ptr,tkV (c.nx k),.int .i64 d] W (RdPost c W Y (fun s v w'=>s.pos=(c.nx k).pos/\stR W.heap.size 0 s v w'))) :
 Calls Tryz.prog 151 #[c.ptr,.int .i64 d] w (RdPost c w Y (stW w.heap.size)) :=
 s_word R (.inr (.inl ⟨rfl,rfl⟩)) d Y hyp HC
theorem s_skip {c:Par} {w:World} {k:Nat} (R:Rd c w k) (d:Int) (Y:PR St) (hyp:¬ (c.nx k).kind=1/\(c.nx k).tx=[115,107,105,112])
 (HC:∀ W,Rd c W (k+1)->Calls Tryz.prog 98 #[c.ptr,tkV (c.nx k),.int .i64 d] W (RdPost c W Y (fun s v w'=>s.pos=(c.nx k).pos/\stR W.heap.size 0 s v w'))) :
 Calls Tryz.prog 151 #[c.ptr,.int .i64 d] w (RdPost c w Y (stW w.heap.size)) :=
 s_word R (.inr (.inr (.inl ⟨rfl,rfl⟩))) d Y hyp HC
theorem s_guard {c:Par} {w:World} {k:Nat} (R:Rd c w k) (d:Int) (Y:PR St) (hyp:¬ (c.nx k).kind=1/\(c.nx k).tx=[108,111,99,107])
 (HC:∀ W,Rd c W (k+1)->Calls Tryz.prog 96 #[c.ptr,tkV (c.nx k),.int .i64 d] W (RdPost c W Y (fun s v w'=>s.pos=(c.nx k).pos/\stR W.heap.size 0 s v w'))) :
 Calls Tryz.prog 151 #[c.ptr,.int .i64 d] w (RdPost c w Y (stW w.heap.size)) :=
 s_word R (.inr (.inr (.inr (.inl ⟨rfl,rfl⟩)))) d Y hyp HC
theorem s_choice {c:Par} {w:World} {k:Nat} (R:Rd c w k) (d:Int) (Y:PR St) (hyp:¬ (c.nx k).kind=1/\(c.nx k).tx=[105,102])
 (HC:∀ W,Rd c W (k+1)->Calls Tryz.prog 94 #[c.ptr,tkV (c.nx k),.int .i64 d] W (RdPost c W Y (fun s v w'=>s.pos=(c.nx k).pos/\stR W.heap.size 0 s v w'))) :
 Calls Tryz.prog 151 #[c.ptr,.int .i64 d] w (RdPost c w Y (stW w.heap.size)) :=
 s_word R (.inr (.inr (.inr (.inr (⟨rfl,rfl⟩))))) d Y hyp HC
theorem s_none {c:Par} {w:World} {k:Nat} (R:Rd c w k) (d:Int) (hyp:¬ (c.nx k).kind=1/\¬ (c.nx k).tx=[105,102]/\¬ (c.nx k).tx=[119,104,105,108,101]/\¬ (c.nx k).tx=[108,111,99,107]/\¬ (c.nx k).tx=[112,114,105,110,116]/\¬ (c.nx k).tx=[115,107,105,112]) :
 Calls Tryz.prog 151 #[c.ptr,.int .i64 d] w fun e w'=>e=.panicked (flt (hdP c.L (c.at k)) 2)/\Fr c w w':=by
 have F:=c.nx_pos k;rw [<- F];clear F;have U:k<=65536:=by have:=R.s.small.1;have:=R.le;omega
 have J:Hid (∀ W,Rd c W k->Calls Tryz.prog 39 #[c.ptr] W fun e w'=>e=.returned (tkV (c.nx k))/\Below W.heap.size W w'):=fun W h=>p_next h
 obtain ⟨t,y⟩:=Qx (c.nx k);have E:=Hd y;rw [<- y] at J hyp;clear y;obtain ⟨tk,tx,l,f⟩:=t;have I:=Hd R;have hX:=Hd R.lt;have D:=Hd ((At.start R).alloc (.cells zSt 120));have C:=Own.new w 120 zSt;have a:Hid (∀ W,RdS c W->(Instr.lookup 92 (.map (some c.S)) (.string tx) false).run Tryz.prog W=.ok (.nilFunc) W):=fun W S=>by
  rw [run_stmts S];have e:lookE tx.data.toList c.stmtE=.nilFunc:=by
   obtain ⟨_,h1,O,P,V,Q⟩:=hyp;have r:¬ tx.data.toList=[105,102]:=h1;have x:¬ tx.data.toList=[119,104,105,108,101]:=O;have v:¬ tx.data.toList=[108,111,99,107]:=P;have q:¬ tx.data.toList=[112,114,105,110,116]:=V;have B:¬ tx.data.toList=[115,107,105,112]:=Q;simp only [lookE,Par.stmtE];rw [if_neg r,if_neg x,if_neg v,if_neg q,if_neg B]
  rw [e]
 clear R;rw [<- E.out];have q1:(tk==1)=false:=by simpa using hyp.1
 have M:=Hd (fun w=>p_refuse ⟨tk,tx,l,f⟩ 2 w)
 have F2:=nil_eqlS;clear hyp E;unfold tkV Par.ptr zSt at *;have F1:=fn_eqlS;go_enter Tryz.func151,Tryz.ntmps151;go_wp2_with fail;go_at_call 39;refine (J.out _ (D.out.rd I.out)).mono ?_;rintro e g ⟨rfl,b⟩;have j:=Hd ((D.out.below b).alloc (.cells #[.int .u8 tk,.string tx,.int .i64 l,.int .i64 f] 50));have O1:=Hd ((C.below b).alloc (.cells #[.int .u8 tk,.string tx,.int .i64 l,.int .i64 f] 50));have i:=Hd (Own.new g 50 #[.int .u8 tk,.string tx,.int .i64 l,.int .i64 f]);have N:=Hd (C.below b).lt;clear b C;go_upto_region 2 with (fail)
 obtain ⟨W,G⟩:=Qx (g.alloc (.cells #[.int .u8 tk,.string tx,.int .i64 l,.int .i64 f] 50));rw [<- G] at j O1 i ⊢;clear G;obtain ⟨⟨_,_,Y,_,X,_⟩,xf⟩:=j.out.cells;have K:W.cell? ⟨g.heap.size,1,none⟩=some (.string tx):=cr i.out;have H:W.cell? ⟨g.heap.size,0,none⟩=some (.int .u8 tk):=cr i.out;have z:=fun n=>a.out (W.drewN n) ((j.out.rd I.out).s.drewN n)
 go_quiet (fail);obtain ⟨T,m⟩:=Qx (W.drewN nq);have p:=j.out.drewN nq;have A:=O1.out.drewN nq;have o:=i.out.drewN nq;rw [<- m] at p A o ⊢;have p:=Hd p;have A:=Hd A;have o:=Hd o;clear m Y X xf K H z j O1 i;have H:T.cell? ⟨g.heap.size,0,none⟩=some (.int .u8 tk):=cr o.out;have Z:=o.out;go_wp2_with (first | (refine ld rowTok rfl rfl rfl Z rfl ?_) | (go_at_call 101;refine (M.out _).mono ?_;rintro e w3 ⟨rfl,b⟩;have HC:=Hd b;clear b))
 exact ⟨rfl,rfl,p.out.fr.trans (.of_below HC.out)⟩
theorem PR.then_assoc {α β γ:Type} (x:PR α) (f:α->List Tk->PR β) (g:β->List Tk->PR γ):(x.then f).then g=x.then fun a r=>(f a r).then g:=by cases x <;> rfl
theorem stsV_in {R:Nat->Prop} {w:World} : ∀ {l:List St} {xs:List Value},stsV R w l xs->stsV (fun b=>R b/\b<w.heap.size) w l xs
 | [],xs,h=>h
 | x::r,xs,⟨us,ys,h1,⟨a3,c3,a4,c4,a5,c5,h2,h3,h4,h5⟩,h6⟩=>⟨us,ys,h1,⟨a3,c3,a4,c4,a5,c5,h2,exsAt_in h3,stsAt_in h4,stsAt_in h5⟩,stsV_in h6⟩
theorem infoSt:(Tryz.prog.info? 120).map (fun i=>(i.zero,i.size,i.bytes))=some (some (.agg zSt),7,120):=by kernel_rfl
def StmtC (n:Nat):Prop:=∀ (c:Par) (w:World) (k:Nat) (d:Int),Rd c w k->0<=d->d<=64->3*(c.at k).length+1<=n ->
 Calls Tryz.prog 151 #[c.ptr,.int .i64 d] w (RdPost c w (stmtP fnd c.L n d (c.at k)) (stW w.heap.size))
theorem stmtP_step {c:Par} {k m:Nat} {d:Int} (h:k<c.toks.length):stmtP fnd c.L (m+1) d (c.at k) =
 if (c.nx k).kind=1 then changeP fnd c.L m (c.nx k) (c.at (k+1))
 else if (c.nx k).tx=[105,102] then (parenP fnd c.L m (c.at (k+1))).then fun e r=>(blkP c.L m (d+1) r).then fun b r=>if isT [101,108,115,101] r=true then (blkP c.L m (d+1) r.tail).then fun l r=>.ok (St.mk 3 ⟨#[]⟩ ⟨#[]⟩ [e] b l (c.nx k).pos) r else .ok (St.mk 3 ⟨#[]⟩ ⟨#[]⟩ [e] b [] (c.nx k).pos) r
 else if (c.nx k).tx=[119,104,105,108,101] then (parenP fnd c.L m (c.at (k+1))).then fun e r=>(blkP c.L m (d+1) r).then fun b r=>.ok (St.mk 4 ⟨#[]⟩ ⟨#[]⟩ [e] b [] (c.nx k).pos) r
 else if (c.nx k).tx=[108,111,99,107] then (nameP c.L (c.at (k+1))).then fun o r=>(blkP c.L m (d+1) r).then fun b r=>.ok (St.mk 5 o.name ⟨#[]⟩ [] b [] (c.nx k).pos) r
 else if (c.nx k).tx=[112,114,105,110,116] then (binE fnd c.L m 1 0 (c.at (k+1))).then fun e r=>(need c.L [59] r).then fun _ r=>.ok (St.mk 6 ⟨#[]⟩ ⟨#[]⟩ [e] [] [] (c.nx k).pos) r
 else if (c.nx k).tx=[115,107,105,112] then (need c.L [59] (c.at (k+1))).then fun _ r=>.ok (St.mk 7 ⟨#[]⟩ ⟨#[]⟩ [] [] [] (c.nx k).pos) r
 else .bad (c.nx k).pos 2:=by
 rw [at_nx h];simp only [stmtP,blkP,PR.then_assoc]
theorem stmt_step {m:Nat} (HB:BlkC m):StmtC (m+1):=by
 intro c w k d R a f j;by_cases hk:k<c.toks.length
 · have i := at_step hk
   have b:3*(c.at (k+1)).length+3<=m:=by omega
   rw [stmtP_step hk];by_cases h1:(c.nx k).kind=1
   · rw [if_pos h1]
     exact s_change R d _ h1 fun W RW=>m_change RW (c.nx k) d a f b
   rw [if_neg h1];by_cases h2:(c.nx k).tx=[105,102]
   · rw [if_pos h2]
     exact s_choice R d _ ⟨h1,h2⟩ fun W RW=>m_choice HB RW (c.nx k) d a f b
   rw [if_neg h2];by_cases h3:(c.nx k).tx=[119,104,105,108,101]
   · rw [if_pos h3]
     exact s_loop R d _ ⟨h1,h3⟩ fun W RW=>m_loop HB RW (c.nx k) d a f b
   rw [if_neg h3];by_cases h4:(c.nx k).tx=[108,111,99,107]
   · rw [if_pos h4]
     exact s_guard R d _ ⟨h1,h4⟩ fun W RW=>m_guard HB RW (c.nx k) d a f b
   rw [if_neg h4];by_cases h5:(c.nx k).tx=[112,114,105,110,116]
   · rw [if_pos h5]
     exact s_print R d _ ⟨h1,h5⟩ fun W RW=>m_print RW (c.nx k) d a f b
   rw [if_neg h5];by_cases h6:(c.nx k).tx=[115,107,105,112]
   · rw [if_pos h6]
     exact s_skip R d _ ⟨h1,h6⟩ fun W RW=>m_skip (m:=m) RW (c.nx k) d
   rw [if_neg h6];refine (s_none R d ⟨h1,h2,h3,h4,h5,h6⟩).mono fun e w' ⟨he,hf⟩=>⟨hf,?_⟩
   rw [he,<- c.nx_pos k]
 · have e := Par.at_end (c := c) (k := k) (by omega)
   have g:c.nx k=⟨0,⟨#[]⟩,0,c.L⟩:=by unfold Par.nx;rw [e]
   rw [e];refine (s_none R d (by rw [g];exact ⟨(by show ¬ (0:Int)=1;decide),(by show ¬ ([]:Bs)=_;decide),(by show ¬ ([]:Bs)=_;decide),(by show ¬ ([]:Bs)=_;decide),(by show ¬ ([]:Bs)=_;decide),(by show ¬ ([]:Bs)=_;decide)⟩)).mono fun e' w' ⟨he,hf⟩=>⟨hf,?_⟩
   rw [he,e];rfl
def RestI (c:Par) (w:World) (d:Int) (Y:PR (List St)) (m:Nat) (v:Value) (W:World):Prop :=
 ∃ (j:Nat) (l:List St) (xs:List Value),At c w W j/\W.ownsRow w.heap.size 120 7 v l.length xs/\stsV (fun b=>w.heap.size<=b/\v.ownBlock≠some b) W l xs/\restP fnd c.L m d l (c.at j)=Y/\3*(c.at j).length+2<=m/\l.length+(c.at j).length<=65536
theorem p_rest {n:Nat} (HI:∀ m,m<n->StmtC m) {c:Par} {w:World} {k:Nat} {d:Int} (R:Rd c w k) (hd0:0<=d) (hd1:d<=64) (hm:3*(c.at k).length+2<=n) :
 Calls Tryz.prog 105 #[c.ptr,.int .i64 d] w (RdPost c w (restP fnd c.L n d [] (c.at k)) (fun l v w'=>stsVal w.heap.size l v w')):=by
 have HP:Hid (∀ W j (s:ByteArray),Rd c W j->s.data.toList≠[]->Calls Tryz.prog 40 #[c.ptr,.string s] W fun e w'=>e=.returned (.bool (isT s.data.toList (c.at j)))/\Fr c W w'/\Rd c w' (if isT s.data.toList (c.at j)=true then j+1 else j)):=fun W j s RW hs=>p_pass RW s hs
 have HS:Hid (∀ m,m<n->∀ W j,Rd c W j->3*(c.at j).length+1<=m->Calls Tryz.prog 151 #[c.ptr,.int .i64 d] W (RdPost c W (stmtP fnd c.L m d (c.at j)) (stW W.heap.size))):=fun m hmn W j RW hf=>HI m hmn c W j d RW hd0 hd1 hf
 have ar:(c.at k).length<=65536:=by rw [Par.at_len];have:=R.s.small.1;omega
 obtain ⟨Y,hY⟩:=Qx (restP fnd c.L n d [] (c.at k));rw [<- hY];have B0:Hid (RestI c w d Y n (.slice none 0 0) w):=⟨k,[],[],At.start R,World.ownsRow_nil _ _ _ _,rfl,hY.symm,hm,by simpa using ar⟩
 have HR:=Hd R;have hX:=Hd R.lt;have b2:=Hd (rfl:Y=Y);clear HI hY R hm ar;unfold Par.ptr at *;go_enter Tryz.func105,Tryz.ntmps105;go_wp2_with fail;go_loopg [5] n (fun m u W=>RestI c w d Y m u W/\m<=n)
 case atStart=>exact ⟨B0.out,Nat.le_refl _⟩
 case round =>
  obtain ⟨⟨j,l,xs,A1,B,ak,hL,ai,av⟩,aw⟩:=hrel;have M:=Hd A1;have P:=Hd B;have al:=Hd ak;have HL:=Hd hL;have A:=Hd (And.intro ai av);have ao:=Hd aw;obtain ⟨oa,U,rfl,ap⟩:=row_shape B;have a8:=Hd ap;clear A1 B ak hL ai av ap aw;by_cases h1:isT [125] (c.at j)=true
  · have H1 := Hd h1
    have z:Y=.ok l (c.at (j+1)):=by
     obtain ⟨m,rfl⟩:∃ m,gk=m+1:=⟨gk-1,by have:=A.out.1;omega⟩
     rw [<- HL.out];unfold restP;rw [if_pos h1,Par.at_tail]
    have N:=Hd z;clear h1 z;go_wp2_with fail;go_at_call 40;refine (HP.out _ j ⟨#[125]⟩ (M.out.rd HR.out) (by decide)).mono ?_
    rintro e w2 ⟨he,f,i⟩;rw [show (⟨#[125]⟩:ByteArray).data.toList=[125] from rfl,H1.out] at he i
    rw [if_pos rfl] at i;subst he;have T:=Hd (M.out.call f i);have t:=Hd (row_fr P.out f hX.out);have ab:=Hd (stsV_stays (stays_fr f (fun b hb=>by have:=hb.1;have:=hX.out;omega)) (fun b hb=>hb) al.out)
    clear f i;go_wp2_with fail;go_ret;show RdPost c w Y _ _ _;rw [N.out];refine ⟨T.out.fr,_,j+1,rfl,⟨_,_,rfl,?_⟩,T.out.rd HR.out,rfl⟩;cases l with
    | nil=>exact .inl rfl
    | cons x xx =>
      obtain ⟨g,rfl,hg⟩:=a8.out (by simp)
      exact .inr ⟨g,0,rfl,hg,stsIn_of (stsV_stays (R':=fun b=>w.heap.size<=b) (Stays.refl _ _) (fun b hb=>hb.1) ab.out) (row_cells t.out rfl)⟩
  · have V : isT [125] (c.at j) = false := by simpa using h1
    obtain ⟨m,rfl⟩:∃ m,gk=m+1:=⟨gk-1,by have:=A.out.1;omega⟩
    have z:Y=(stmtP fnd c.L m d (c.at j)).then fun s r=>restP fnd c.L m d (l++[s]) r:=by
     rw [<- HL.out];conv=>lhs;unfold restP
     rw [V];rfl
    obtain ⟨Z,hZ⟩:=Qx (stmtP fnd c.L m d (c.at j));rw [<- hZ] at z;have N:=Hd z;have be:Hid (∀ W,Rd c W j->Calls Tryz.prog 151 #[.pointer (some ⟨c.X,0,none⟩),.int .i64 d] W (RdPost c W Z (stW W.heap.size))):=fun W RW=>by rw [hZ];exact HS.out m (by have:=ao.out;omega) W j RW (by have:=A.out.1;omega)
    have a7:Hid (∀ s r,Z=.ok s r->r.length<(c.at j).length):=fun s r h=>stmtP_short (hZ.symm.trans h)
    have H1:=Hd V;clear h1 V z hZ;go_wp2_with fail;go_at_call 40;refine (HP.out _ j ⟨#[125]⟩ (M.out.rd HR.out) (by decide)).mono ?_
    rintro e w2 ⟨he,f,i⟩;rw [show (⟨#[125]⟩:ByteArray).data.toList=[125] from rfl,H1.out] at he i
    rw [if_neg (by simp)] at i
    subst he;have T:=Hd (M.out.call f i);have t:=Hd (row_fr P.out f hX.out);have ab:=Hd (stsV_stays (stays_fr f (fun b hb=>by have:=hb.1;have:=hX.out;omega)) (fun b hb=>hb) al.out)
    clear f i;go_wp2_with fail;go_at_call 151;refine (be.out _ (T.out.rd HR.out)).mono ?_;rintro e y ⟨o,au⟩;rcases Z with ⟨a,r2⟩ | ⟨p,q⟩
    rotate_left
    · obtain rfl := au
      have A3:=Hd (T.out.fr.trans o);clear o;go_wp2_with fail;refine ⟨rfl,?_⟩;show RdPost c w Y _ _ _;rw [N.out];exact ⟨A3.out,rfl⟩
    obtain ⟨v3,k3,rfl,⟨H,G,I,J,F,K,rfl,ah,af,ae⟩,aq,rfl⟩:=au;have bb:w.heap.size<=w2.heap.size:=Keep.size T.out.fr;have Q:w2.heap.size<=y.heap.size:=Keep.size o;have row3:=(row_fr t.out o hX.out).alloc (.cells #[.int .u8 a.kind,.string a.name,.string a.other,.slice H a.e.length G,.slice I a.body.length J,.slice F a.els.length K,.int .i64 a.pos] 120);have O:=t.out.lt;have A3:=Hd ((T.out.call o aq).alloc (.cells #[.int .u8 a.kind,.string a.name,.string a.other,.slice H a.e.length G,.slice I a.body.length J,.slice F a.els.length K,.int .i64 a.pos] 120));have aj:=stsV_stays (stays_fr o (fun b hb=>by have:=hb.1;have:=hX.out;omega)) (fun b hb=>hb) ab.out
    have NV:stV (fun b=>w.heap.size<=b/\(Value.slice oa l.length U).ownBlock≠some b/\b<y.heap.size) y a [.int .u8 a.kind,.string a.name,.string a.other,.slice H a.e.length G,.slice I a.body.length J,.slice F a.els.length K,.int .i64 a.pos]:=by
     have hq:∀ b,w2.heap.size<=b/\b<y.heap.size->w.heap.size<=b/\(Value.slice oa l.length U).ownBlock≠some b/\b<y.heap.size:=fun b hb=>⟨by omega,fun e=>by have:=(O b e).2;omega,hb.2⟩
     exact ⟨H,G,I,J,F,K,rfl,exsAt_mono (exsAt_in ah) hq,stsAt_mono (stsAt_in af) hq,stsAt_mono (stsAt_in ae) hq⟩
    have S:=stsV_snoc (stsV_stays (R':=fun b=>w.heap.size<=b/\(Value.slice oa l.length U).ownBlock≠some b/\b<y.heap.size) (Stays.refl _ y) (fun b hb=>⟨hb.1.1,hb.1.2,hb.2⟩) (stsV_in aj)) NV
    have S:=Hd (stsV_stays (stays_alloc _ y (.cells #[.int .u8 a.kind,.string a.name,.string a.other,.slice H a.e.length G,.slice I a.body.length J,.slice F a.els.length K,.int .i64 a.pos] 120)) (fun b hb=>hb) S)
    have bv:w.heap.size<=y.heap.size:=by omega
    have bu:l.length<=65536:=by have:=A.out.2;omega
    obtain ⟨i0,hi,a1,bc,a6⟩:=info_parts infoSt;have ag:=Hd (a7.out _ _ rfl);have N3:=Own.new y 120 #[.int .u8 a.kind,.string a.name,.string a.other,.slice H a.e.length G,.slice I a.body.length J,.slice F a.els.length K,.int .i64 a.pos];have ac:Hid (∀ jj u,[Value.int .u8 a.kind,.string a.name,.string a.other,.slice H a.e.length G,.slice I a.body.length J,.slice F a.els.length K,.int .i64 a.pos][jj]? = some u->(y.alloc (.cells #[.int .u8 a.kind,.string a.name,.string a.other,.slice H a.e.length G,.slice I a.body.length J,.slice F a.els.length K,.int .i64 a.pos] 120)).cell? ((⟨y.heap.size,0,none⟩:Addr).add jj)=some u):=World.news_of_block N3;have am:=Hd (World.size_alloc y (.cells #[.int .u8 a.kind,.string a.name,.string a.other,.slice H a.e.length G,.slice I a.body.length J,.slice F a.els.length K,.int .i64 a.pos] 120));have bg:=Hd Q;clear o aq ah af ae aj NV bb Q O;go_wp2_with (at_builtin;refine wpList_append_lies _ rfl _ _ 64 rfl w.heap.size 120 i0 _ 7 120 Tryz.underlying64 hi a1 bc a6 rfl (by decide) _ _ _ rfl row3 ⟨y.heap.size,0,none⟩ 1 1 [.int .u8 a.kind,.string a.name,.string a.other,.slice H a.e.length G,.slice I a.body.length J,.slice F a.els.length K,.int .i64 a.pos] rfl rfl ac.out (by simp [Value.oneCell']) (by decide) (by simp only [maxLen];omega) (by omega) (by rw [am.out];omega) _ rfl ?_;intro g2 bl w4 D C E bm;have ax:=Hd D;have GR:=Hd C;have ad:=Hd E;clear D C E)
    go_roundg m
    case measure=>omega
    case rel =>
     have hx:=hX.out;refine ⟨⟨k3,l++[a],_,grown_fr A3.out GR.out (fun r hr=>?_),by rw [List.length_append];exact ax.out,?_,N.out.symm,by have:=A.out.1;have:=ag.out;omega,by have:=A.out.2;have:=ag.out;rw [List.length_append,List.length_singleton];omega⟩,by have:=ao.out;omega⟩
     · have h2 := (row3.lt r hr).1
       exact ⟨h2,by omega⟩
     · refine stsV_stays (stays_grown GR.out (fun b hb => hb.2.1)) (fun b hb => ⟨hb.1, ?_⟩) S.out
       intro e;have e:g2=b:=by simpa [Value.ownBlock] using e
       subst e;rcases ad.out with h | h
       · exact hb.2.1 h
       · rw [am.out] at h;have:=hb.2.2;omega
theorem p_block {m:Nat} (HI:∀ m',m'<m->StmtC m'):BlkC m:=by
 intro c w k d R F S I;obtain ⟨Y,E⟩:=Qx (blkP c.L m d (c.at k));have n:=Hd E;rw [<- E];have ab:=Hd R.le;have D:=Hd R;have hX:=Hd R.lt;have Q:=Hd I;have K:Hid (∀ W,Rd c W k->Calls Tryz.prog 103 #[c.ptr,.int .i64 d] W (RdPost c W (openP c.L d (c.at k)) (fun _ v _=>v=.tuple #[]))):=fun W RW=>p_open RW d
 have C:Hid (∀ W j,Rd c W j->d<=64->3*(c.at j).length+2<=m->Calls Tryz.prog 105 #[c.ptr,.int .i64 d] W (RdPost c W (restP fnd c.L m d [] (c.at j)) (fun l v w'=>stsVal W.heap.size l v w'))):=fun W j RW hd hf=>p_rest HI RW F hd hf
 obtain ⟨O,z⟩:=Qx (openP c.L d (c.at k));rw [<- z] at K;have g:Hid (∀ u r,O=.ok u r->d<=64/\r.length<(c.at k).length):=fun u r h=>by
  have h:=z.symm.trans h;refine ⟨?_,by have:=open_short h;omega⟩
  unfold openP at h;obtain ⟨a,b,h1,H⟩:=PR.then_eq_ok h;split at H
  · cases H
  · omega
 have n:Hid (Y=O.then fun _ r=>restP fnd c.L m d [] r):=by rw [Hid,n.out,z];rfl
 have P:=Hd (At.start R);clear E R I z HI;unfold Par.ptr at *;go_enter Tryz.func143,Tryz.ntmps143;go_wp2_with fail;go_at_call 103;refine (K.out _ D.out).mono ?_;rintro e w1 ⟨i,x⟩;rcases O with ⟨o1,r1⟩ | ⟨p,q⟩
 rotate_left
 · obtain rfl := x
   have o:=Hd i;clear i;go_wp2_with fail;refine ⟨rfl,?_⟩;rw [n.out];exact ⟨o.out,rfl⟩
 obtain ⟨v1,B,rfl,rfl,y,rfl⟩:=x;have g:=Hd (g.out _ _ rfl);have o:=Hd (P.out.call i y);obtain ⟨Z,G⟩:=Qx (restP fnd c.L m d [] (c.at B));have HC:Hid (∀ W,Rd c W B->Calls Tryz.prog 105 #[.pointer (some ⟨c.X,0,none⟩),.int .i64 d] W (RdPost c W Z (fun l v w'=>stsVal W.heap.size l v w'))):=fun W RW=>by rw [G];exact C.out W B RW g.out.1 (by have:=Q.out;have:=g.out.2;omega)
 have n:Hid (Y=Z):=by rw [Hid,n.out,G];rfl
 clear i y G;go_wp2_with fail;go_at_call 105;refine (HC.out _ (o.out.rd D.out)).mono ?_;rintro e M ⟨f,t⟩;rcases Z with ⟨U,r2⟩ | ⟨p,q⟩
 rotate_left
 · obtain rfl := t
   have A:=Hd (o.out.fr.trans f);clear f;go_wp2_with fail;refine ⟨rfl,?_⟩;rw [n.out];exact ⟨A.out,rfl⟩
 obtain ⟨v2,T,rfl,⟨a,N,rfl,J⟩,s,rfl⟩:=t;have V:Hid (stsAt (fun b=>w.heap.size<=b) M U a):=Hd (stsAt_mono J (fun b hb=>by have:=o.out.fr.size;change _<=_ at hb;omega))
 have A:=Hd (o.out.call f s);clear f s J;go_wp2_with fail;go_ret;rw [n.out];exact ⟨A.out.fr,_,T,rfl,⟨_,_,rfl,V.out⟩,A.out.rd D.out,rfl⟩
theorem stmt_all:∀ n,StmtC n:=by
 intro n;induction n using Nat.strongRecOn with
 | ind n ih =>
   cases n with
   | zero=>intro c w k d R _ _ h;omega
   | succ m=>exact stmt_step (p_block fun m' h=>ih m' (by omega))
end Go.Proofs.YtbgfkdiihnidaaaGreatDoor

import Derived.Test.YtbgfkdiihnidaaaGreatDoorQAE
import Derived.Deep.LoopGhost
import Derived.Laws.OwnMore
set_option maxRecDepth 100000
set_option maxHeartbeats 20000000
namespace Go.Proofs.YtbgfkdiihnidaaaGreatDoor
open Go.RowKit
set_option linter.unusedVariables false
theorem nx_lt {c:Par} {k:Nat} (h:(c.nx k).kind≠0\/(c.nx k).tx≠[]):k<c.toks.length:=by
 apply Nat.lt_of_not_le;intro a;have e:c.nx k=⟨0,⟨#[]⟩,0,c.L⟩:=by unfold Par.nx;rw [Par.at_end a]
 rw [e] at h;rcases h with h | h <;> exact h rfl
theorem at_nx {c:Par} {k:Nat} (h:k<c.toks.length):c.at k=c.nx k::c.at (k+1):=by
 have:=Par.at_lt h;unfold Par.nx;rw [this]
theorem zeroFn (w:World):(zeroValue 154).run Tryz.prog w=.ok .nilFunc w:=by kernel_rfl
theorem opers_keys (c:Par):∀ e∈c.operE,∃ t,e.key=.string t:=by
 intro e a;simp only [Par.operE,List.mem_cons,List.not_mem_nil,or_false] at a;rcases a with rfl | rfl | rfl <;> exact ⟨_,rfl⟩
theorem run_opers {c:Par} {W:World} (S:RdS c W) (s:ByteArray):(Instr.lookup 93 (.map (some c.O)) (.string s) false).run Tryz.prog W=.ok (lookE s.data.toList c.operE) W :=
 run_look Tryz.underlying93 Tryz.underlying9 (zeroFn W) S.om (opers_keys c) s
theorem RdS.drewN {c:Par} {W:World} (S:RdS c W) (n:Nat):RdS c (W.drewN n):=S.keep (Keep.drewN (Fr.refl c W) n)
theorem fn_eql:∀ (f:Fn) (u v:Array Value) (w:World),(binOp .eql 154 (.func f u v) .nilFunc).run Tryz.prog w=.ok (.bool false) w:=fun f u v w=>by kernel_rfl
theorem nil_eql:∀ (w:World),(binOp .eql 154 .nilFunc .nilFunc).run Tryz.prog w=.ok (.bool true) w:=fun w=>by kernel_rfl
theorem o_number {c:Par} {w:World} {k:Nat} (R:Rd c w k) (d:Int) (hyp:(c.nx k).kind=3) :
 Calls Tryz.prog 148 #[c.ptr,.int .i64 d] w fun e w'=>e=.returned (.agg #[.int .u8 1,.int .u8 0,.int .i64 (c.nx k).wd,.string ⟨#[]⟩,.slice none 0 0,.int .i64 (c.nx k).pos])/\Fr c w w'/\Rd c w' (k+1):=by
 have B:=Hd (nx_lt (.inl (by rw [hyp];decide)))
 have aa:k<=65536:=by have:=R.s.small.1;have:=R.le;omega
 have M:Hid (∀ W,Rd c W k->Calls Tryz.prog 39 #[c.ptr] W fun e w'=>e=.returned (tkV (c.nx k))/\Below W.heap.size W w'):=fun W h=>p_next h
 obtain ⟨t,y⟩:=Qx (c.nx k);have G:=Hd y;rw [<- y] at M hyp;clear y;obtain ⟨tk,tx,j,i⟩:=t;have A:=Hd R;have F:=Hd R.lt;have E:=Hd ((At.start R).alloc (.cells zEx 167));have D:=Own.new w 167 zEx;have a:Hid (∀ W,RdS c W->(Instr.lookup 93 (.map (some c.O)) (.string tx) false).run Tryz.prog W=.ok (lookE tx.data.toList c.operE) W):=fun W S=>run_opers S _
 clear R;rw [<- G.out];simp only at hyp ⊢;subst hyp;obtain ⟨V,L⟩:=Qx (lookE tx.data.toList c.operE);rw [<- L] at a;clear L G;have m:=Hd (fun w=>p_number ⟨3,tx,j,i⟩ d w)
 unfold tkV Par.ptr zEx at *;have F1:=fn_eql;go_enter Tryz.func148,Tryz.ntmps148;go_wp2_with fail;go_at_call 39;refine (M.out _ (E.out.rd A.out)).mono ?_;rintro e l ⟨rfl,f⟩;have p:=Hd ((E.out.below f).alloc (.cells #[.int .u8 3,.string tx,.int .i64 j,.int .i64 i] 50));have O1:=Hd ((D.below f).alloc (.cells #[.int .u8 3,.string tx,.int .i64 j,.int .i64 i] 50));have o:=Hd (Own.new l 50 #[.int .u8 3,.string tx,.int .i64 j,.int .i64 i]);have C:=Hd (D.below f).lt;clear f D;go_upto_region 2 with (fail)
 obtain ⟨W,I⟩:=Qx (l.alloc (.cells #[.int .u8 3,.string tx,.int .i64 j,.int .i64 i] 50));rw [<- I] at p O1 o ⊢;clear I;obtain ⟨⟨_,_,K,_,_,x5⟩,P⟩:=p.out.cells;have Q:W.cell? ⟨l.heap.size,1,none⟩=some (.string tx):=cr o.out;have J:W.cell? ⟨l.heap.size,0,none⟩=some (.int .u8 3):=cr o.out;have z:=fun n=>a.out (W.drewN n) ((p.out.rd A.out).s.drewN n)
 go_quiet (fail);obtain ⟨Z,q⟩:=Qx (W.drewN nq);have v:=p.out.drewN nq;have x:=O1.out.drewN nq;have r:=o.out.drewN nq;rw [<- q] at v x r ⊢;have v:=Hd v;have x:=Hd x;have r:=Hd r;clear q K x5 P Q J z p O1 o;obtain ⟨⟨_,_,K,_⟩,P⟩:=v.out.cells;have J:Z.cell? ⟨l.heap.size,0,none⟩=some (.int .u8 3):=cr r.out;have T:=Hd (v.out.step B.out);have g:c.X≠l.heap.size:=by have:=F.out;have:=C.out;omega
 have b:c.X≠w.heap.size:=by have:=F.out;omega
 have T3:=r.out.setX 2 (.int .i64 ((k:Int)+1)) g
 have U:=Hd (x.out.setX 2 (.int .i64 ((k:Int)+1)) b)
 have g:=Hd g;have b:=Hd b;go_wp2_with (first | (refine ld rowTok rfl rfl rfl T3 rfl ?_) | (go_at_call 176;refine (m.out _).mono ?_;rintro e w3 ⟨rfl,f⟩;have Y:=Hd (T.out.below f);have H:=U.out.below f;clear f) | (refine st rowEx rfl rfl H rfl rfl (by rfl) (by rfl) (by kernel_rfl) ?_))
 have N:=Y.out.setRow (Nat.le_refl _) b.out #[.int .u8 1,.int .u8 0,.int .i64 j,.string ⟨#[]⟩,.slice none 0 0,.int .i64 i];exact p_ret rowEx rfl (H.row #[.int .u8 1,.int .u8 0,.int .i64 j,.string ⟨#[]⟩,.slice none 0 0,.int .i64 i]) rfl rfl rfl ⟨rfl,N.fr,N.rd A.out⟩
theorem o_name {c:Par} {w:World} {k:Nat} (R:Rd c w k) (d:Int) (hyp:(c.nx k).kind=1) :
 Calls Tryz.prog 148 #[c.ptr,.int .i64 d] w fun e w'=>e=.returned (.agg #[.int .u8 2,.int .u8 0,.int .i64 0,.string (c.nx k).text,.slice none 0 0,.int .i64 (c.nx k).pos])/\Fr c w w'/\Rd c w' (k+1):=by
 have B:=Hd (nx_lt (.inl (by rw [hyp];decide)))
 have aa:k<=65536:=by have:=R.s.small.1;have:=R.le;omega
 have M:Hid (∀ W,Rd c W k->Calls Tryz.prog 39 #[c.ptr] W fun e w'=>e=.returned (tkV (c.nx k))/\Below W.heap.size W w'):=fun W h=>p_next h
 obtain ⟨t,y⟩:=Qx (c.nx k);have G:=Hd y;rw [<- y] at M hyp;clear y;obtain ⟨tk,tx,p,i⟩:=t;have A:=Hd R;have F:=Hd R.lt;have E:=Hd ((At.start R).alloc (.cells zEx 167));have D:=Own.new w 167 zEx;have a:Hid (∀ W,RdS c W->(Instr.lookup 93 (.map (some c.O)) (.string tx) false).run Tryz.prog W=.ok (lookE tx.data.toList c.operE) W):=fun W S=>run_opers S _
 clear R;rw [<- G.out];simp only at hyp ⊢;subst hyp;obtain ⟨V,L⟩:=Qx (lookE tx.data.toList c.operE);rw [<- L] at a;clear L G;have l:=Hd (fun w=>p_variable ⟨1,tx,p,i⟩ d w)
 unfold tkV Par.ptr zEx at *;have F1:=fn_eql;go_enter Tryz.func148,Tryz.ntmps148;go_wp2_with fail;go_at_call 39;refine (M.out _ (E.out.rd A.out)).mono ?_;rintro e j ⟨rfl,f⟩;have o:=Hd ((E.out.below f).alloc (.cells #[.int .u8 1,.string tx,.int .i64 p,.int .i64 i] 50));have O1:=Hd ((D.below f).alloc (.cells #[.int .u8 1,.string tx,.int .i64 p,.int .i64 i] 50));have m:=Hd (Own.new j 50 #[.int .u8 1,.string tx,.int .i64 p,.int .i64 i]);have C:=Hd (D.below f).lt;clear f D;go_upto_region 2 with (fail)
 obtain ⟨W,I⟩:=Qx (j.alloc (.cells #[.int .u8 1,.string tx,.int .i64 p,.int .i64 i] 50));rw [<- I] at o O1 m ⊢;clear I;obtain ⟨⟨_,_,K,_,_,x5⟩,P⟩:=o.out.cells;have Q:W.cell? ⟨j.heap.size,1,none⟩=some (.string tx):=cr m.out;have J:W.cell? ⟨j.heap.size,0,none⟩=some (.int .u8 1):=cr m.out;have z:=fun n=>a.out (W.drewN n) ((o.out.rd A.out).s.drewN n)
 go_quiet (fail);obtain ⟨Z,q⟩:=Qx (W.drewN nq);have v:=o.out.drewN nq;have x:=O1.out.drewN nq;have r:=m.out.drewN nq;rw [<- q] at v x r ⊢;have v:=Hd v;have x:=Hd x;have r:=Hd r;clear q K x5 P Q J z o O1 m;obtain ⟨⟨_,_,K,_⟩,P⟩:=v.out.cells;have J:Z.cell? ⟨j.heap.size,0,none⟩=some (.int .u8 1):=cr r.out;have T:=Hd (v.out.step B.out);have g:c.X≠j.heap.size:=by have:=F.out;have:=C.out;omega
 have b:c.X≠w.heap.size:=by have:=F.out;omega
 have T3:=r.out.setX 2 (.int .i64 ((k:Int)+1)) g
 have U:=Hd (x.out.setX 2 (.int .i64 ((k:Int)+1)) b)
 have g:=Hd g;have b:=Hd b;go_wp2_with (first | (refine ld rowTok rfl rfl rfl T3 rfl ?_) | (go_at_call 177;refine (l.out _).mono ?_;rintro e w3 ⟨rfl,f⟩;have Y:=Hd (T.out.below f);have H:=U.out.below f;clear f) | (refine st rowEx rfl rfl H rfl rfl (by rfl) (by rfl) (by kernel_rfl) ?_))
 have N:=Y.out.setRow (Nat.le_refl _) b.out #[.int .u8 2,.int .u8 0,.int .i64 0,.string tx,.slice none 0 0,.int .i64 i];exact p_ret rowEx rfl (H.row #[.int .u8 2,.int .u8 0,.int .i64 0,.string tx,.slice none 0 0,.int .i64 i]) rfl rfl rfl ⟨rfl,N.fr,N.rd A.out⟩
theorem o_minus {c:Par} {w:World} {k:Nat} (R:Rd c w k) (d:Int) (Y:PR Ex) (hyp:¬ (c.nx k).kind=3/\¬ (c.nx k).kind=1/\(c.nx k).tx=[45])
 (HC:∀ W,Rd c W (k+1)->Calls Tryz.prog 147 #[tkV (c.nx k),.int .i64 d,.pointer (some ⟨c.bm,0,none⟩),.pointer (some ⟨c.bm+1,0,none⟩)] W (RdPost c W Y (exR W.heap.size))) :
 Calls Tryz.prog 148 #[c.ptr,.int .i64 d] w (RdPost c w Y (exR w.heap.size)):=by
 have P:=Hd (nx_lt (c:=c) (k:=k) (.inr (by rw [hyp.2.2];decide)))
 have ao:k<=65536:=by have:=R.s.small.1;have:=R.le;omega
 have HN:Hid (∀ W,Rd c W k->Calls Tryz.prog 39 #[c.ptr] W fun e w'=>e=.returned (tkV (c.nx k))/\Below W.heap.size W w'):=fun W h=>p_next h
 obtain ⟨t,K⟩:=Qx (c.nx k);have HT:=Hd K;rw [<- K] at HN hyp;clear K;obtain ⟨tk,tx,G,E⟩:=t;have F:=Hd R;have hX:=Hd R.lt;have Z:=Hd ((At.start R).alloc (.cells zEx 167));have U:=Own.new w 167 zEx;have o:Hid (∀ W,RdS c W->(Instr.lookup 93 (.map (some c.O)) (.string tx) false).run Tryz.prog W=.ok (.func (.func 147) #[] #[.pointer (some ⟨c.bm,0,none⟩),.pointer (some ⟨c.bm+1,0,none⟩)]) W):=fun W S=>by
  rw [run_opers S];have e:tx.data.toList=[45]:=hyp.2.2;rw [e];rfl
 clear R;have HC:=Hd HC;rw [<- HT.out] at HC;have q3:(tk==3)=false:=by simpa using hyp.1
 have q1:(tk==1)=false:=by simpa using hyp.2.1
 clear hyp HT;unfold tkV Par.ptr zEx at *;have F1:=fn_eql;go_enter Tryz.func148,Tryz.ntmps148;go_wp2_with fail;go_at_call 39;refine (HN.out _ (Z.out.rd F.out)).mono ?_;rintro e r ⟨rfl,l⟩;have z:=Hd ((Z.out.below l).alloc (.cells #[.int .u8 tk,.string tx,.int .i64 G,.int .i64 E] 50));have O1:=Hd ((U.below l).alloc (.cells #[.int .u8 tk,.string tx,.int .i64 G,.int .i64 E] 50));have y:=Hd (Own.new r 50 #[.int .u8 tk,.string tx,.int .i64 G,.int .i64 E]);have T:=Hd (U.below l).lt;clear l U;go_upto_region 2 with (fail)
 obtain ⟨W,hW⟩:=Qx (r.alloc (.cells #[.int .u8 tk,.string tx,.int .i64 G,.int .i64 E] 50));rw [<- hW] at z O1 y ⊢;clear hW;obtain ⟨⟨_,_,N,_,_,x5⟩,Q⟩:=z.out.cells;have t1:W.cell? ⟨r.heap.size,1,none⟩=some (.string tx):=cr y.out;have L:W.cell? ⟨r.heap.size,0,none⟩=some (.int .u8 tk):=cr y.out;have M:=fun n=>o.out (W.drewN n) ((z.out.rd F.out).s.drewN n)
 go_quiet (fail);obtain ⟨W2,A⟩:=Qx (W.drewN nq);have C:=z.out.drewN nq;have H:=O1.out.drewN nq;have B:=y.out.drewN nq;rw [<- A] at C H B ⊢;have C:=Hd C;have H:=Hd H;have B:=Hd B;clear A N x5 Q t1 L M z O1 y;obtain ⟨⟨_,_,N,_⟩,Q⟩:=C.out.cells;have L:W2.cell? ⟨r.heap.size,0,none⟩=some (.int .u8 tk):=cr B.out;have I:=Hd (C.out.step P.out);have m:c.X≠r.heap.size:=by have:=hX.out;have:=T.out;omega
 have j:c.X≠w.heap.size:=by have:=hX.out;omega
 have T3:=B.out.setX 2 (.int .i64 ((k:Int)+1)) m
 have V:=Hd (H.out.setX 2 (.int .i64 ((k:Int)+1)) j)
 have m:=Hd m;have j:=Hd j;go_wp2_with (first | (refine ld rowTok rfl rfl rfl T3 rfl ?_))
 go_at_call 147;refine (HC.out _ (I.out.rd F.out)).mono ?_;rintro e w3 ⟨i,hm⟩;rcases Y with ⟨a,r0⟩ | ⟨p,q⟩
 rotate_left
 · obtain rfl := hm
   have J:=Hd (I.out.fr.trans i);clear i;go_wp2_with fail;exact ⟨rfl,J.out,rfl⟩
 obtain ⟨v,k2,rfl,⟨D,f,rfl,hV⟩,x,rfl⟩:=hm;have J:=Hd (I.out.call i x);have O4:=V.out.fr i j.out;have HV:=Hd hV;have hl:=Hd V.out.lt;clear i x hV T3 Q N L;go_wp2_with (first | (refine st rowEx rfl rfl O4 rfl rfl (by rfl) (by rfl) (by kernel_rfl) ?_))
 have am:=hl.out;have A5:=J.out.setRow (Nat.le_refl _) j.out #[.int .u8 a.kind,.int .u8 a.op,.int .i64 a.wd,.string a.name,.slice D a.kids.length f,.int .i64 a.pos];have V5:=exsAt_stays (stays_row w3 (g:=w.heap.size) #[.int .u8 a.kind,.int .u8 a.op,.int .i64 a.wd,.string a.name,.slice D a.kids.length f,.int .i64 a.pos] (fun b l=>by omega)) (fun b l=>l) HV.out
 refine p_ret rowEx rfl (O4.row #[.int .u8 a.kind,.int .u8 a.op,.int .i64 a.wd,.string a.name,.slice D a.kids.length f,.int .i64 a.pos]) rfl rfl rfl ?_;exact ⟨A5.fr,_,k2,rfl,⟨D,f,rfl,exsAt_mono V5 (fun b l=>by omega)⟩,A5.rd F.out,rfl⟩
theorem o_not {c:Par} {w:World} {k:Nat} (R:Rd c w k) (d:Int) (Y:PR Ex) (hyp:¬ (c.nx k).kind=3/\¬ (c.nx k).kind=1/\(c.nx k).tx=[33])
 (HC:∀ W,Rd c W (k+1)->Calls Tryz.prog 147 #[tkV (c.nx k),.int .i64 d,.pointer (some ⟨c.bn,0,none⟩),.pointer (some ⟨c.bn+1,0,none⟩)] W (RdPost c W Y (exR W.heap.size))) :
 Calls Tryz.prog 148 #[c.ptr,.int .i64 d] w (RdPost c w Y (exR w.heap.size)):=by
 have P:=Hd (nx_lt (c:=c) (k:=k) (.inr (by rw [hyp.2.2];decide)))
 have ao:k<=65536:=by have:=R.s.small.1;have:=R.le;omega
 have HN:Hid (∀ W,Rd c W k->Calls Tryz.prog 39 #[c.ptr] W fun e w'=>e=.returned (tkV (c.nx k))/\Below W.heap.size W w'):=fun W h=>p_next h
 obtain ⟨t,K⟩:=Qx (c.nx k);have HT:=Hd K;rw [<- K] at HN hyp;clear K;obtain ⟨tk,tx,G,E⟩:=t;have F:=Hd R;have hX:=Hd R.lt;have Z:=Hd ((At.start R).alloc (.cells zEx 167));have U:=Own.new w 167 zEx;have o:Hid (∀ W,RdS c W->(Instr.lookup 93 (.map (some c.O)) (.string tx) false).run Tryz.prog W=.ok (.func (.func 147) #[] #[.pointer (some ⟨c.bn,0,none⟩),.pointer (some ⟨c.bn+1,0,none⟩)]) W):=fun W S=>by
  rw [run_opers S];have e:tx.data.toList=[33]:=hyp.2.2;rw [e];rfl
 clear R;have HC:=Hd HC;rw [<- HT.out] at HC;have q3:(tk==3)=false:=by simpa using hyp.1
 have q1:(tk==1)=false:=by simpa using hyp.2.1
 clear hyp HT;unfold tkV Par.ptr zEx at *;have F1:=fn_eql;go_enter Tryz.func148,Tryz.ntmps148;go_wp2_with fail;go_at_call 39;refine (HN.out _ (Z.out.rd F.out)).mono ?_;rintro e r ⟨rfl,l⟩;have z:=Hd ((Z.out.below l).alloc (.cells #[.int .u8 tk,.string tx,.int .i64 G,.int .i64 E] 50));have O1:=Hd ((U.below l).alloc (.cells #[.int .u8 tk,.string tx,.int .i64 G,.int .i64 E] 50));have y:=Hd (Own.new r 50 #[.int .u8 tk,.string tx,.int .i64 G,.int .i64 E]);have T:=Hd (U.below l).lt;clear l U;go_upto_region 2 with (fail)
 obtain ⟨W,hW⟩:=Qx (r.alloc (.cells #[.int .u8 tk,.string tx,.int .i64 G,.int .i64 E] 50));rw [<- hW] at z O1 y ⊢;clear hW;obtain ⟨⟨_,_,N,_,_,x5⟩,Q⟩:=z.out.cells;have t1:W.cell? ⟨r.heap.size,1,none⟩=some (.string tx):=cr y.out;have L:W.cell? ⟨r.heap.size,0,none⟩=some (.int .u8 tk):=cr y.out;have M:=fun n=>o.out (W.drewN n) ((z.out.rd F.out).s.drewN n)
 go_quiet (fail);obtain ⟨W2,A⟩:=Qx (W.drewN nq);have C:=z.out.drewN nq;have H:=O1.out.drewN nq;have B:=y.out.drewN nq;rw [<- A] at C H B ⊢;have C:=Hd C;have H:=Hd H;have B:=Hd B;clear A N x5 Q t1 L M z O1 y;obtain ⟨⟨_,_,N,_⟩,Q⟩:=C.out.cells;have L:W2.cell? ⟨r.heap.size,0,none⟩=some (.int .u8 tk):=cr B.out;have I:=Hd (C.out.step P.out);have m:c.X≠r.heap.size:=by have:=hX.out;have:=T.out;omega
 have j:c.X≠w.heap.size:=by have:=hX.out;omega
 have T3:=B.out.setX 2 (.int .i64 ((k:Int)+1)) m
 have V:=Hd (H.out.setX 2 (.int .i64 ((k:Int)+1)) j)
 have m:=Hd m;have j:=Hd j;go_wp2_with (first | (refine ld rowTok rfl rfl rfl T3 rfl ?_))
 go_at_call 147;refine (HC.out _ (I.out.rd F.out)).mono ?_;rintro e w3 ⟨i,hm⟩;rcases Y with ⟨a,r0⟩ | ⟨p,q⟩
 rotate_left
 · obtain rfl := hm
   have J:=Hd (I.out.fr.trans i);clear i;go_wp2_with fail;exact ⟨rfl,J.out,rfl⟩
 obtain ⟨v,k2,rfl,⟨D,f,rfl,hV⟩,x,rfl⟩:=hm;have J:=Hd (I.out.call i x);have O4:=V.out.fr i j.out;have HV:=Hd hV;have hl:=Hd V.out.lt;clear i x hV T3 Q N L;go_wp2_with (first | (refine st rowEx rfl rfl O4 rfl rfl (by rfl) (by rfl) (by kernel_rfl) ?_))
 have am:=hl.out;have A5:=J.out.setRow (Nat.le_refl _) j.out #[.int .u8 a.kind,.int .u8 a.op,.int .i64 a.wd,.string a.name,.slice D a.kids.length f,.int .i64 a.pos];have V5:=exsAt_stays (stays_row w3 (g:=w.heap.size) #[.int .u8 a.kind,.int .u8 a.op,.int .i64 a.wd,.string a.name,.slice D a.kids.length f,.int .i64 a.pos] (fun b l=>by omega)) (fun b l=>l) HV.out
 refine p_ret rowEx rfl (O4.row #[.int .u8 a.kind,.int .u8 a.op,.int .i64 a.wd,.string a.name,.slice D a.kids.length f,.int .i64 a.pos]) rfl rfl rfl ?_;exact ⟨A5.fr,_,k2,rfl,⟨D,f,rfl,exsAt_mono V5 (fun b l=>by omega)⟩,A5.rd F.out,rfl⟩
theorem o_paren {c:Par} {w:World} {k:Nat} (R:Rd c w k) (d:Int) (Y:PR Ex) (hyp:¬ (c.nx k).kind=3/\¬ (c.nx k).kind=1/\(c.nx k).tx=[40])
 (HC:∀ W,Rd c W (k+1)->Calls Tryz.prog 100 #[c.ptr,tkV (c.nx k),.int .i64 d] W (RdPost c W Y (exR W.heap.size))) :
 Calls Tryz.prog 148 #[c.ptr,.int .i64 d] w (RdPost c w Y (exR w.heap.size)):=by
 have P:=Hd (nx_lt (c:=c) (k:=k) (.inr (by rw [hyp.2.2];decide)))
 have ao:k<=65536:=by have:=R.s.small.1;have:=R.le;omega
 have HN:Hid (∀ W,Rd c W k->Calls Tryz.prog 39 #[c.ptr] W fun e w'=>e=.returned (tkV (c.nx k))/\Below W.heap.size W w'):=fun W h=>p_next h
 obtain ⟨t,K⟩:=Qx (c.nx k);have HT:=Hd K;rw [<- K] at HN hyp;clear K;obtain ⟨tk,tx,G,E⟩:=t;have F:=Hd R;have hX:=Hd R.lt;have Z:=Hd ((At.start R).alloc (.cells zEx 167));have U:=Own.new w 167 zEx;have o:Hid (∀ W,RdS c W->(Instr.lookup 93 (.map (some c.O)) (.string tx) false).run Tryz.prog W=.ok (.func (.func 100) #[.pointer (some ⟨c.X,0,none⟩)] #[]) W):=fun W S=>by
  rw [run_opers S];have e:tx.data.toList=[40]:=hyp.2.2;rw [e];rfl
 clear R;have HC:=Hd HC;rw [<- HT.out] at HC;have q3:(tk==3)=false:=by simpa using hyp.1
 have q1:(tk==1)=false:=by simpa using hyp.2.1
 clear hyp HT;unfold tkV Par.ptr zEx at *;have F1:=fn_eql;go_enter Tryz.func148,Tryz.ntmps148;go_wp2_with fail;go_at_call 39;refine (HN.out _ (Z.out.rd F.out)).mono ?_;rintro e r ⟨rfl,l⟩;have z:=Hd ((Z.out.below l).alloc (.cells #[.int .u8 tk,.string tx,.int .i64 G,.int .i64 E] 50));have O1:=Hd ((U.below l).alloc (.cells #[.int .u8 tk,.string tx,.int .i64 G,.int .i64 E] 50));have y:=Hd (Own.new r 50 #[.int .u8 tk,.string tx,.int .i64 G,.int .i64 E]);have T:=Hd (U.below l).lt;clear l U;go_upto_region 2 with (fail)
 obtain ⟨W,hW⟩:=Qx (r.alloc (.cells #[.int .u8 tk,.string tx,.int .i64 G,.int .i64 E] 50));rw [<- hW] at z O1 y ⊢;clear hW;obtain ⟨⟨_,_,N,_,_,x5⟩,Q⟩:=z.out.cells;have t1:W.cell? ⟨r.heap.size,1,none⟩=some (.string tx):=cr y.out;have L:W.cell? ⟨r.heap.size,0,none⟩=some (.int .u8 tk):=cr y.out;have M:=fun n=>o.out (W.drewN n) ((z.out.rd F.out).s.drewN n)
 go_quiet (fail);obtain ⟨W2,A⟩:=Qx (W.drewN nq);have C:=z.out.drewN nq;have H:=O1.out.drewN nq;have B:=y.out.drewN nq;rw [<- A] at C H B ⊢;have C:=Hd C;have H:=Hd H;have B:=Hd B;clear A N x5 Q t1 L M z O1 y;obtain ⟨⟨_,_,N,_⟩,Q⟩:=C.out.cells;have L:W2.cell? ⟨r.heap.size,0,none⟩=some (.int .u8 tk):=cr B.out;have I:=Hd (C.out.step P.out);have m:c.X≠r.heap.size:=by have:=hX.out;have:=T.out;omega
 have j:c.X≠w.heap.size:=by have:=hX.out;omega
 have T3:=B.out.setX 2 (.int .i64 ((k:Int)+1)) m
 have V:=Hd (H.out.setX 2 (.int .i64 ((k:Int)+1)) j)
 have m:=Hd m;have j:=Hd j;go_wp2_with (first | (refine ld rowTok rfl rfl rfl T3 rfl ?_))
 go_at_call 100;refine (HC.out _ (I.out.rd F.out)).mono ?_;rintro e w3 ⟨i,hm⟩;rcases Y with ⟨a,r0⟩ | ⟨p,q⟩
 rotate_left
 · obtain rfl := hm
   have J:=Hd (I.out.fr.trans i);clear i;go_wp2_with fail;exact ⟨rfl,J.out,rfl⟩
 obtain ⟨v,k2,rfl,⟨D,f,rfl,hV⟩,x,rfl⟩:=hm;have J:=Hd (I.out.call i x);have O4:=V.out.fr i j.out;have HV:=Hd hV;have hl:=Hd V.out.lt;clear i x hV T3 Q N L;go_wp2_with (first | (refine st rowEx rfl rfl O4 rfl rfl (by rfl) (by rfl) (by kernel_rfl) ?_))
 have am:=hl.out;have A5:=J.out.setRow (Nat.le_refl _) j.out #[.int .u8 a.kind,.int .u8 a.op,.int .i64 a.wd,.string a.name,.slice D a.kids.length f,.int .i64 a.pos];have V5:=exsAt_stays (stays_row w3 (g:=w.heap.size) #[.int .u8 a.kind,.int .u8 a.op,.int .i64 a.wd,.string a.name,.slice D a.kids.length f,.int .i64 a.pos] (fun b l=>by omega)) (fun b l=>l) HV.out
 refine p_ret rowEx rfl (O4.row #[.int .u8 a.kind,.int .u8 a.op,.int .i64 a.wd,.string a.name,.slice D a.kids.length f,.int .i64 a.pos]) rfl rfl rfl ?_;exact ⟨A5.fr,_,k2,rfl,⟨D,f,rfl,exsAt_mono V5 (fun b l=>by omega)⟩,A5.rd F.out,rfl⟩
theorem o_none {c:Par} {w:World} {k:Nat} (R:Rd c w k) (d:Int) (hyp:¬ (c.nx k).kind=3/\¬ (c.nx k).kind=1/\¬ (c.nx k).tx=[45]/\¬ (c.nx k).tx=[33]/\¬ (c.nx k).tx=[40]) :
 Calls Tryz.prog 148 #[c.ptr,.int .i64 d] w fun e w'=>e=.panicked (flt (hdP c.L (c.at k)) 2)/\Fr c w w':=by
 have D:=c.nx_pos k;rw [<- D];clear D;have P:k<=65536:=by have:=R.s.small.1;have:=R.le;omega
 have H:Hid (∀ W,Rd c W k->Calls Tryz.prog 39 #[c.ptr] W fun e w'=>e=.returned (tkV (c.nx k))/\Below W.heap.size W w'):=fun W h=>p_next h
 obtain ⟨t,x⟩:=Qx (c.nx k);have C:=Hd x;rw [<- x] at H hyp;clear x;obtain ⟨tk,tx,l,f⟩:=t;have G:=Hd R;have hX:=Hd R.lt;have B:=Hd ((At.start R).alloc (.cells zEx 167));have A:=Own.new w 167 zEx;have a:Hid (∀ W,RdS c W->(Instr.lookup 93 (.map (some c.O)) (.string tx) false).run Tryz.prog W=.ok (.nilFunc) W):=fun W S=>by
  rw [run_opers S];have e:lookE tx.data.toList c.operE=.nilFunc:=by
   obtain ⟨_,_,U,K,M⟩:=hyp;have q:¬ tx.data.toList=[45]:=U;have v:¬ tx.data.toList=[33]:=K;have r:¬ tx.data.toList=[40]:=M;simp only [lookE,Par.operE];rw [if_neg q,if_neg v,if_neg r]
  rw [e]
 clear R;rw [<- C.out];have q3:(tk==3)=false:=by simpa using hyp.1
 have q1:(tk==1)=false:=by simpa using hyp.2.1
 have J:=Hd (fun w=>p_refuse ⟨tk,tx,l,f⟩ 2 w)
 have F2:=nil_eql;clear hyp C;unfold tkV Par.ptr zEx at *;have F1:=fn_eql;go_enter Tryz.func148,Tryz.ntmps148;go_wp2_with fail;go_at_call 39;refine (H.out _ (B.out.rd G.out)).mono ?_;rintro e g ⟨rfl,b⟩;have j:=Hd ((B.out.below b).alloc (.cells #[.int .u8 tk,.string tx,.int .i64 l,.int .i64 f] 50));have O1:=Hd ((A.below b).alloc (.cells #[.int .u8 tk,.string tx,.int .i64 l,.int .i64 f] 50));have i:=Hd (Own.new g 50 #[.int .u8 tk,.string tx,.int .i64 l,.int .i64 f]);have Z:=Hd (A.below b).lt;clear b A;go_upto_region 2 with (fail)
 obtain ⟨W,E⟩:=Qx (g.alloc (.cells #[.int .u8 tk,.string tx,.int .i64 l,.int .i64 f] 50));rw [<- E] at j O1 i ⊢;clear E;obtain ⟨⟨_,_,Q,_,_,V⟩,Y⟩:=j.out.cells;have I:W.cell? ⟨g.heap.size,1,none⟩=some (.string tx):=cr i.out;have F:W.cell? ⟨g.heap.size,0,none⟩=some (.int .u8 tk):=cr i.out;have y:=fun n=>a.out (W.drewN n) ((j.out.rd G.out).s.drewN n)
 go_quiet (fail);obtain ⟨N,m⟩:=Qx (W.drewN nq);have p:=j.out.drewN nq;have z:=O1.out.drewN nq;have o:=i.out.drewN nq;rw [<- m] at p z o ⊢;have p:=Hd p;have z:=Hd z;have o:=Hd o;clear m Q V Y I F y j O1 i;have F:N.cell? ⟨g.heap.size,0,none⟩=some (.int .u8 tk):=cr o.out;have T:=o.out;go_wp2_with (first | (refine ld rowTok rfl rfl rfl T rfl ?_) | (go_at_call 101;refine (J.out _).mono ?_;rintro e w3 ⟨rfl,b⟩;have X:=Hd b;clear b))
 exact ⟨rfl,rfl,p.out.fr.trans (.of_below X.out)⟩
theorem opnd_step {n:Nat} (H1:OpndC n) (H2:BinC n):OpndC (n+1):=by
 intro c w k d R f i j;by_cases hk:k<c.toks.length
 · have a := at_nx hk
   have g:(c.at k).length=(c.at (k+1)).length+1:=by rw [a];rfl
   rw [a];simp only [opnd];by_cases k3:(c.nx k).kind=3
   · rw [if_pos k3]
     exact (o_number R d k3).mono fun e w' ⟨he,hf,hr⟩=>⟨hf,_,k+1,he,⟨none,0,rfl,.inl rfl⟩,hr,rfl⟩
   rw [if_neg k3];by_cases k1:(c.nx k).kind=1
   · rw [if_pos k1]
     exact (o_name R d k1).mono fun e w' ⟨he,hf,hr⟩=>⟨hf,_,k+1,he,⟨none,0,rfl,.inl rfl⟩,hr,rfl⟩
   rw [if_neg k1];by_cases q1:(c.nx k).tx=[45]
   · rw [if_pos q1]
     by_cases hd:d=64
     · subst hd
       rw [if_pos rfl];exact o_minus R 64 _ ⟨k3,k1,q1⟩ fun W RW=>(p_unary_bad RW (c.nx k) c.bm 17 RW.s.b1 RW.s.b2).mono fun e w' ⟨he,hf⟩=>⟨hf,he⟩
     · rw [if_neg hd]
       exact o_minus R d _ ⟨k3,k1,q1⟩ fun W RW=>p_unary H1 RW (c.nx k) d 17 c.bm f (by omega) (by omega) RW.s.b1 RW.s.b2 RW.s.ne.2.2.2.1 RW.s.ne.2.2.2.2.1
   rw [if_neg q1];by_cases q2:(c.nx k).tx=[33]
   · rw [if_pos q2]
     by_cases hd:d=64
     · subst hd
       rw [if_pos rfl];exact o_not R 64 _ ⟨k3,k1,q2⟩ fun W RW=>(p_unary_bad RW (c.nx k) c.bn 18 RW.s.b3 RW.s.b4).mono fun e w' ⟨he,hf⟩=>⟨hf,he⟩
     · rw [if_neg hd]
       exact o_not R d _ ⟨k3,k1,q2⟩ fun W RW=>p_unary H1 RW (c.nx k) d 18 c.bn f (by omega) (by omega) RW.s.b3 RW.s.b4 RW.s.ne.2.2.2.2.2.1 RW.s.ne.2.2.2.2.2.2
   rw [if_neg q2];by_cases q3:(c.nx k).tx=[40]
   · rw [if_pos q3]
     by_cases hd:d=64
     · subst hd
       rw [if_pos rfl];exact o_paren R 64 _ ⟨k3,k1,q3⟩ fun W RW=>(p_inner_bad RW (c.nx k)).mono fun e w' ⟨he,hf⟩=>⟨hf,he⟩
     · rw [if_neg hd]
       exact o_paren R d _ ⟨k3,k1,q3⟩ fun W RW=>p_inner H2 RW (c.nx k) d f (by omega) (by omega)
   rw [if_neg q3];exact (o_none R d ⟨k3,k1,q1,q2,q3⟩).mono fun e w' ⟨he,hf⟩=>⟨hf,by rw [he,a];rfl⟩
 · have a := Par.at_end (c := c) (k := k) (by omega)
   have b:c.nx k=⟨0,⟨#[]⟩,0,c.L⟩:=by unfold Par.nx;rw [a]
   rw [a];simp only [opnd];exact (o_none R d (by rw [b];exact ⟨by show ¬ (0:Int)=3;decide,by show ¬ (0:Int)=1;decide,by show ¬ ([]:Bs)=[45];decide,by show ¬ ([]:Bs)=[33];decide,by show ¬ ([]:Bs)=[40];decide⟩)).mono fun e w' ⟨he,hf⟩=>⟨hf,by rw [he,a];rfl⟩
theorem fnd_bd (l:Bs):0<=(fnd l).1/\(fnd l).1<=16/\((fnd l).2=true->1<=(fnd l).1):=by
 have a:∀ n k,1<=k->k+n<=17->0<=(fndFrom l n k).1/\(fndFrom l n k).1<=16/\((fndFrom l n k).2=true->1<=(fndFrom l n k).1):=by
  intro n;induction n with
  | zero=>intro k _ _;exact ⟨Int.le_refl _,by show (0:Int)<=16;decide,fun h=>by cases h⟩
  | succ n ih =>
    intro k b c;simp only [fndFrom];split
    · exact ⟨by simp only;omega,by simp only;omega,fun _=>by simp only;omega⟩
    · exact ih (k+1) (by omega) (by omega)
 exact a 16 1 (by omega) (by omega)
theorem level_fnd (l:Bs):levelOf (fnd l).1=levelI (fnd l).1:=by
 have:=fnd_bd l;unfold levelOf levelI;rw [if_neg (by omega)]
 rfl
theorem level_bd {o:Int} (h0:1<=o) (h1:o<=16):1<=levelI o/\levelI o<=8:=by
 have:o=1\/o=2\/o=3\/o=4\/o=5\/o=6\/o=7\/o=8\/o=9\/o=10\/o=11\/o=12\/o=13\/o=14\/o=15\/o=16:=by omega
 rcases this with rfl | rfl | rfl | rfl | rfl | rfl | rfl | rfl | rfl | rfl | rfl | rfl | rfl | rfl | rfl | rfl <;> decide
theorem fnd_nil:fnd []=(0,false):=by decide
def Par.op (c:Par) (k:Nat):Int × Bool:=fnd (c.nx k).tx
def goesOn (c:Par) (k:Nat) (v:Int):Bool:=(c.op k).2&&decide (v<=levelI (c.op k).1)
theorem binL_stop {c:Par} {k n:Nat} {v d:Int} {e:Ex} (h:goesOn c k v=false):binL fnd c.L (n+1) v d e (c.at k)=.ok e (c.at k):=by
 by_cases hk:k<c.toks.length
 · rw [at_nx hk]
   simp only [binL];rw [if_neg];intro a;unfold goesOn Par.op at h;rw [a.1] at h;simp at h;omega
 · rw [Par.at_end (by omega)];rfl
theorem binL_go {c:Par} {k n:Nat} {v d:Int} {e:Ex} (h:goesOn c k v=true):k<c.toks.length/\binL fnd c.L (n+1) v d e (c.at k)=(binE fnd c.L n (levelI (c.op k).1+1) d (c.at (k+1))).then fun f r=>binL fnd c.L n v d (biX (c.op k).1 (c.nx k).pos e f) r:=by
 unfold goesOn at h;simp only [Bool.and_eq_true,decide_eq_true_eq] at h
 have a:k<c.toks.length:=nx_lt (.inr (fun e0=>by
  have:=h.1
  unfold Par.op at this
  rw [e0,fnd_nil] at this
  cases this))
 refine ⟨a,?_⟩;rw [at_nx a];simp only [binL];rw [if_pos]
 · rfl
 · exact h
structure BinS (c:Par) (w:World) (b7:Nat) (e1:Ex) (a5:Option Addr) (cap5:Nat) (W:World) (j:Nat):Prop where
 run:At c w W j
 left:Own W b7 167 #[.int .u8 e1.kind,.int .u8 e1.op,.int .i64 e1.wd,.string e1.name,.slice a5 e1.kids.length cap5,.int .i64 e1.pos]
 res:Own W w.heap.size 167 zEx
 tree:exsAt (fun b=>w.heap.size<b/\b≠b7) W e1.kids a5
section
variable {c:Par} {w W W':World} {b7:Nat} {e1:Ex} {a5:Option Addr} {cap5 j k2:Nat}
theorem BinS.below (h:BinS c w b7 e1 a5 cap5 W j) (hb:Below W.heap.size W W'):BinS c w b7 e1 a5 cap5 W' j :=
 ⟨h.run.below hb,h.left.below hb,h.res.below hb,exsAt_stays (stays_below hb) (fun b hb=>hb) h.tree⟩
theorem BinS.alloc (h:BinS c w b7 e1 a5 cap5 W j) (o:Obj):BinS c w b7 e1 a5 cap5 (W.alloc o) j:=h.below ((Below.refl _ W).alloc (Nat.le_refl _) o)
theorem BinS.step (h:BinS c w b7 e1 a5 cap5 W j) (hj:j<c.toks.length) (hX:c.X<w.heap.size) (h7:w.heap.size<b7):BinS c w b7 e1 a5 cap5 (W.setCell ⟨c.X,2,none⟩ (.int .i64 ((j:Int)+1))) (j+1) :=
 ⟨h.run.step hj,h.left.setX 2 _ (by omega),h.res.setX 2 _ (by omega),exsAt_stays (stays_setX W 2 _ (fun b hb=>by omega)) (fun b hb=>hb) h.tree⟩
theorem BinS.call (h:BinS c w b7 e1 a5 cap5 W j) (hf:Fr c W W') (hp:Rd c W' k2) (hX:c.X<w.heap.size) (h7:w.heap.size<b7):BinS c w b7 e1 a5 cap5 W' k2 :=
 ⟨h.run.call hf hp,h.left.fr hf (by omega),h.res.fr hf (by omega),exsAt_stays (stays_fr hf (fun b hb=>by omega)) (fun b hb=>hb) h.tree⟩
end
def BinI (c:Par) (w:World) (b7:Nat) (v d:Int) (Y:PR Ex) (m:Nat) (W:World):Prop :=
 ∃ (j:Nat) (e1:Ex) (a5:Option Addr) (cap5:Nat),BinS c w b7 e1 a5 cap5 W j/\binL fnd c.L m v d e1 (c.at j)=Y/\3*(c.at j).length+1<=m
theorem p_binary {n:Nat} (H:∀ m,m<n+1->OpndC m/\BinC m):BinC (n+1):=by
 intro c w k v d R v0 v1 h0 P hn;obtain ⟨Y0,O⟩:=Qx (opnd fnd c.L n d (c.at k));have HC:Hid (∀ W,Rd c W k->Calls Tryz.prog 148 #[c.ptr,.int .i64 d] W (RdPost c W Y0 (exR W.heap.size))):=fun W RW=>by rw [O];exact (H n (by omega)).1 c W k d RW h0 P (by omega)
 have HY:Hid (∀ e r,Y0=.ok e r->r.length<(c.at k).length):=fun e r h=>opnd_short (O.symm.trans h)
 have HB:Hid (∀ (m:Nat) (W:World) (j:Nat) (x:Int),m<n+1->Rd c W j->1<=x->x<=9->3*(c.at j).length+2<=m->Calls Tryz.prog 150 #[c.ptr,.int .i64 x,.int .i64 d] W (RdPost c W (binE fnd c.L m x d (c.at j)) (exR W.heap.size))):=fun m W j x hm RW h2 h3 h4=>(H m hm).2 c W j x d RW h2 h3 h0 P h4
 simp only [binE];rw [<- O];have A0:=Hd ((At.start R).alloc (.cells zEx 167));have O0:=Own.new w 167 zEx;have T:=Hd R;have hX:=Hd R.lt;have HN:=Hd hn;clear O H R hn;unfold Par.ptr zEx at *;go_enter Tryz.func150,Tryz.ntmps150;go_wp2_with fail;go_at_call 148;refine (HC.out _ (A0.out.rd T.out)).mono ?_;rintro e D ⟨I,hm⟩;rcases Y0 with ⟨M,r0⟩ | ⟨p,q⟩
 rotate_left
 · obtain rfl := hm
   have A1:=Hd (A0.out.fr.trans I);clear I;go_wp2_with fail;exact ⟨rfl,A1.out,rfl⟩
 obtain ⟨v1,k1,rfl,⟨a4,ac,rfl,hV⟩,ap,rfl⟩:=hm;have E:=HY.out _ _ rfl;have b0:=hX.out;have l0:=O0.lt;have B0:Hid (BinI c w D.heap.size v d (binL fnd c.L n v d M (c.at k1)) n (D.alloc (.cells #[.int .u8 M.kind,.int .u8 M.op,.int .i64 M.wd,.string M.name,.slice a4 M.kids.length ac,.int .i64 M.pos] 167))):=by
  refine ⟨k1,M,a4,ac,⟨(A0.out.call I ap).alloc _,Own.new D _ _,(O0.fr I (by omega)).alloc _,?_⟩,rfl,by have:=HN.out;omega⟩
  exact exsAt_mono (exsAt_stays (stays_alloc _ D _) (fun b y=>y) (exsAt_in hV)) (fun b y=>by have P:=y.1;have h2:=y.2;simp at P;omega)
 have S:=Hd (show w.heap.size<D.heap.size by have:=Keep.size I;omega)
 have HM:=Hd (show n<n+1 by omega)
 obtain ⟨Y,hY⟩:=Qx (binL fnd c.L n v d M (c.at k1));rw [<- hY] at B0;have a7:=Hd hY.symm;clear I hV ap E b0 l0 O0 A0 hY HY HC;go_wp2_with fail;go_loopg [] n (fun m W=>m<n+1/\BinI c w D.heap.size v d Y m W)
 case atStart=>exact ⟨HM.out,B0.out⟩
 case round =>
  obtain ⟨hm,j,i,F,o,S1,hL,al⟩:=hrel;obtain ⟨m,rfl⟩:∃ m,gk=m+1:=⟨gk-1,by omega⟩
  have cn:j<=65536:=by have:=T.out.s.small.1;have:=S1.run.le;omega
  have a2:=Hd S1;have an:=Hd al;have ao:=Hd hm;have HL:=Hd hL;have a8:=Hd (p_next (S1.run.rd T.out));obtain ⟨t,ht⟩:=Qx (c.nx j);have HT:=Hd ht;rw [<- ht] at a8;clear S1 al hm hL ht;obtain ⟨tk,tx,tw,N⟩:=t;have bv:Hid (fnd tx.data.toList=c.op j):=by show fnd tx.data.toList=fnd (c.nx j).tx;rw [<- HT.out];rfl
  obtain ⟨op,z⟩:=Qx ((c.op j).1);obtain ⟨is,U⟩:=Qx ((c.op j).2);have bh:Hid (∀ W,Tabs W->Calls Tryz.prog 178 #[.string tx] W fun e w'=>e=.returned (.tuple #[.int .u8 op,.bool is])/\Below W.heap.size W w'):=fun W TW=>by
   have:=find_any tx W TW;rw [bv.out,<- z,<- U] at this;exact this
  have y:=fnd_bd (c.nx j).tx;have ax:levelOf op=levelI op:=by rw [z];exact level_fnd _
  have b2:0<=op:=by rw [z];exact y.1
  have bj:op<=16:=by rw [z];exact y.2.1
  have am:is=true->1<=op:=by rw [z,U];exact y.2.2
  have HG:Hid (goesOn c j v=(is&&decide (v<=levelI op))):=by unfold goesOn;rw [Hid,<- z,<- U]
  obtain ⟨lv,A⟩:=Qx (levelI op);have ad:Hid (∀ W,Tabs W->Calls Tryz.prog 68 #[.int .u8 op] W fun e w'=>e=.returned (.int .i64 lv)/\W=w'):=fun W TW=>by
   have:=level_any op b2 (by omega) W TW
   rw [ax,<- A] at this;exact this
  rw [<- A] at HG;have bk:Hid (is=true->1<=lv/\lv<=8):=fun h=>by rw [A];exact level_bd (am h) bj
  have aa:=Hd (And.intro z A);clear z U y ax am A;unfold tkV at *;go_wp2_with fail;go_at_call 39;refine (a8.out).mono ?_;rintro e w2 ⟨rfl,y⟩;have S2:=Hd ((a2.out.below y).alloc (.cells #[.int .u8 tk,.string tx,.int .i64 tw,.int .i64 N] 50));have T2:=Hd (Own.new w2 50 #[.int .u8 tk,.string tx,.int .i64 tw,.int .i64 N]);have af:=Hd (a2.out.below y).left.lt;clear y;go_wp2_with fail;go_at_call 178;refine (bh.out _ (S2.out.run.rd T.out).s.tabs).mono ?_;rintro e w3 ⟨rfl,y⟩;have V:=Hd (S2.out.below y);have T3:=Hd (T2.out.below y);clear y;by_cases hg:goesOn c j v=true
  · obtain ⟨C, ay⟩ := binL_go (n := m) (d := d) (e := i) hg
    rw [HG.out] at hg;obtain ⟨rfl,ct⟩:is=true/\v<=lv:=by simpa using hg
    obtain ⟨dd,c8⟩:=bk.out rfl;obtain ⟨Z,hZ⟩:=Qx (binE fnd c.L m (lv+1) d (c.at (j+1)));have E:(c.at j).length=(c.at (j+1)).length+1:=by rw [at_nx C];rfl
    have bp:Hid (∀ W,Rd c W (j+1)->Calls Tryz.prog 150 #[.pointer (some ⟨c.X,0,none⟩),.int .i64 (lv+1),.int .i64 d] W (RdPost c W Z (exR W.heap.size))):=fun W RW=>by
     rw [hZ];exact HB.out m W (j+1) (lv+1) (by have:=ao.out;omega) RW (by omega) (by omega) (by have:=an.out;omega)
    have a3:Hid (Y=Z.then fun f r=>binL fnd c.L m v d (biX op N i f) r):=by
     rw [Hid,<- HL.out,ay,hZ,<- aa.out.1,<- aa.out.2,<- HT.out]
    have bm:Hid (∀ e r,Z=.ok e r->r.length<(c.at (j+1)).length):=fun e r h=>binE_short (hZ.symm.trans h)
    have au:=Hd E;have HJ:=Hd C;obtain ⟨⟨_,_,x2,_⟩,xf⟩:=V.out.run.cells;have S4:=Hd (V.out.step C hX.out S.out);have ar:=Hd (show c.X≠w2.heap.size by have:=hX.out;have:=S.out;have:=af.out;omega)
    have T4:=Hd (T3.out.setX 2 (.int .i64 ((j:Int)+1)) ar.out)
    clear hg ay hZ E C;go_wp2_with (first | (go_at_call 68;refine (ad.out _ (V.out.run.rd T.out).s.tabs).mono ?_;rintro e w4 ⟨rfl,rfl⟩) | (go_at_call 68;refine (ad.out _ (S4.out.run.rd T.out).s.tabs).mono ?_;rintro e w4 ⟨rfl,rfl⟩))
    go_at_call 150;refine (bp.out _ (S4.out.run.rd T.out)).mono ?_;rintro e B ⟨J,a1⟩;rcases Z with ⟨a,r2⟩ | ⟨p,q⟩
    rotate_left
    · obtain rfl := a1
      have A5:=Hd (S4.out.run.fr.trans J);clear J x2 xf;go_wp2_with fail;refine ⟨rfl,?_⟩;show RdPost c w (binL fnd c.L n v d M (c.at k1)) _ _ _;rw [a7.out,a3.out];exact ⟨A5.out,rfl⟩
    obtain ⟨v2,k2,rfl,⟨G,l,rfl,hV⟩,aq,rfl⟩:=a1;have S5:=S4.out.call J aq hX.out S.out;have T5:=T4.out.fr J ar.out;have S6:=Hd ((S5.alloc (.cells #[.int .u8 a.kind,.int .u8 a.op,.int .i64 a.wd,.string a.name,.slice G a.kids.length l,.int .i64 a.pos] 167)).alloc (.cells #[.int .u8 i.kind,.int .u8 i.op,.int .i64 i.wd,.string i.name,.slice F i.kids.length o,.int .i64 i.pos,.int .u8 a.kind,.int .u8 a.op,.int .i64 a.wd,.string a.name,.slice G a.kids.length l,.int .i64 a.pos] 167));have O7:=(S5.alloc (.cells #[.int .u8 a.kind,.int .u8 a.op,.int .i64 a.wd,.string a.name,.slice G a.kids.length l,.int .i64 a.pos] 167)).left;have N6:=Own.new B 167 #[.int .u8 a.kind,.int .u8 a.op,.int .i64 a.wd,.string a.name,.slice G a.kids.length l,.int .i64 a.pos];have N7:=Own.new (B.alloc (.cells #[.int .u8 a.kind,.int .u8 a.op,.int .i64 a.wd,.string a.name,.slice G a.kids.length l,.int .i64 a.pos] 167)) 167 #[.int .u8 i.kind,.int .u8 i.op,.int .i64 i.wd,.string i.name,.slice F i.kids.length o,.int .i64 i.pos,.int .u8 a.kind,.int .u8 a.op,.int .i64 a.wd,.string a.name,.slice G a.kids.length l,.int .i64 a.pos];rw [World.size_alloc] at N7;have N7:=Hd N7;have t3:B.cell? ⟨w2.heap.size,3,none⟩=some (.int .i64 N):=cr T5;have c7:=T5.lt;have bw:=S6.out.left;have bl:=Hd (exsAt_in hV);have br:=Hd (And.intro S5.left.lt (show D.heap.size<w2.heap.size from af.out))
    have aj:=Hd (Keep.size J);have bn:=Hd (bm.out _ _ rfl);clear J aq hV S5 T5 x2 xf;go_wp2_with (first | (refine ld rowEx rfl rfl rfl O7 rfl ?_) | (refine ld rowEx rfl rfl rfl N6 rfl ?_) | (refine st rowEx rfl rfl bw rfl rfl (by rfl) (by rfl) (by kernel_rfl) ?_))
    go_roundg m
    case measure=>omega
    case rel =>
     have hx:=hX.out;have c9:=S.out;obtain ⟨db,cq⟩:=br.out;have h5:=aj.out;have c4:=af.out;have c1:=T3.out.lt;have cz:w3.heap.size<=B.heap.size:=by simpa using h5
     have S7:=S6.out.run.setRow (g:=D.heap.size) (by omega) (by omega) #[.int .u8 4,.int .u8 op,.int .i64 0,.string ⟨#[]⟩,.slice (some ⟨B.heap.size+1,0,none⟩) 2 2,.int .i64 N]
     have cv:Stays (fun b=>w.heap.size<b/\b≠D.heap.size) (B.alloc (.cells #[.int .u8 a.kind,.int .u8 a.op,.int .i64 a.wd,.string a.name,.slice G a.kids.length l,.int .i64 a.pos] 167)) (((B.alloc (.cells #[.int .u8 a.kind,.int .u8 a.op,.int .i64 a.wd,.string a.name,.slice G a.kids.length l,.int .i64 a.pos] 167)).alloc (.cells #[.int .u8 i.kind,.int .u8 i.op,.int .i64 i.wd,.string i.name,.slice F i.kids.length o,.int .i64 i.pos,.int .u8 a.kind,.int .u8 a.op,.int .i64 a.wd,.string a.name,.slice G a.kids.length l,.int .i64 a.pos] 167)).setRow D.heap.size #[.int .u8 4,.int .u8 op,.int .i64 0,.string ⟨#[]⟩,.slice (some ⟨B.heap.size+1,0,none⟩) 2 2,.int .i64 N]):=(stays_alloc _ _ _).trans (stays_row _ _ (fun b y=>by omega))
     have N8:=N7.out.other #[.int .u8 4,.int .u8 op,.int .i64 0,.string ⟨#[]⟩,.slice (some ⟨B.heap.size+1,0,none⟩) 2 2,.int .i64 N] (g:=D.heap.size) (by omega)
     refine ⟨by have:=ao.out;omega,k2,biX op N i a,some ⟨B.heap.size+1,0,none⟩,2,⟨S7,S6.out.left.row _,S6.out.res.other _ (by omega),?_⟩,?_,?_⟩
     · refine .inr ⟨B.heap.size + 1, 0, rfl, ⟨by omega, by omega⟩, ?_⟩
       have v1:=exsAt_stays (stays_row _ (g:=D.heap.size) #[.int .u8 4,.int .u8 op,.int .i64 0,.string ⟨#[]⟩,.slice (some ⟨B.heap.size+1,0,none⟩) 2 2,.int .i64 N] (fun b y=>by omega)) (fun b y=>y) S6.out.tree
       have v2:=exsAt_mono (exsAt_stays ((stays_alloc _ B (.cells #[.int .u8 a.kind,.int .u8 a.op,.int .i64 a.wd,.string a.name,.slice G a.kids.length l,.int .i64 a.pos] 167)).trans ((stays_alloc _ _ (.cells #[.int .u8 i.kind,.int .u8 i.op,.int .i64 i.wd,.string i.name,.slice F i.kids.length o,.int .i64 i.pos,.int .u8 a.kind,.int .u8 a.op,.int .i64 a.wd,.string a.name,.slice G a.kids.length l,.int .i64 a.pos] 167)).trans (stays_row _ (g:=D.heap.size) #[.int .u8 4,.int .u8 op,.int .i64 0,.string ⟨#[]⟩,.slice (some ⟨B.heap.size+1,0,none⟩) 2 2,.int .i64 N] (fun b y=>by have P:=y.1;simp at P;omega)))) (fun b y=>y) bl.out) (R':=fun b=>w.heap.size<b/\b≠D.heap.size) (fun b y=>by have P:=y.1;simp at P;omega)
       refine ⟨exIn_of (vs:=exCells i F o) ⟨F,o,rfl,v1⟩ ?_,exIn_of (vs:=exCells a G l) ⟨G,l,rfl,v2⟩ ?_,trivial⟩
       · intro q u hq
         have bs:q<6:=(List.getElem?_eq_some_iff.1 hq).1;rw [Nat.zero_add,cell_of_row _ (B.heap.size+1) q _ _ _ N8,<- hq];have:q=0\/q=1\/q=2\/q=3\/q=4\/q=5:=by omega
         rcases this with rfl | rfl | rfl | rfl | rfl | rfl <;> rfl
       · intro q u hq
         have bs:q<6:=(List.getElem?_eq_some_iff.1 hq).1;rw [cell_of_row _ (B.heap.size+1) (0+6+q) _ _ _ N8,<- hq];have:q=0\/q=1\/q=2\/q=3\/q=4\/q=5:=by omega
         rcases this with rfl | rfl | rfl | rfl | rfl | rfl <;> rfl
     · rw [a3.out];rfl
     · have P := bn.out
       have h2:=an.out;have h3:=au.out;omega
  · have K : goesOn c j v = false := by simpa using hg
    have aw:Hid (Y=.ok i (c.at j)):=by rw [Hid,<- HL.out];exact binL_stop K
    have Q:∀ (W:World),W=w3->RdPost c w (binL fnd c.L n v d M (c.at k1)) (exR w.heap.size) (.returned (.agg #[.int .u8 i.kind,.int .u8 i.op,.int .i64 i.wd,.string i.name,.slice F i.kids.length o,.int .i64 i.pos])) (W.setRow w.heap.size #[.int .u8 i.kind,.int .u8 i.op,.int .i64 i.wd,.string i.name,.slice F i.kids.length o,.int .i64 i.pos]):=by
     rintro W rfl;rw [a7.out,aw.out];have hx:=hX.out;have S4:=V.out.run.setRow (Nat.le_refl _) (by omega) #[.int .u8 i.kind,.int .u8 i.op,.int .i64 i.wd,.string i.name,.slice F i.kids.length o,.int .i64 i.pos]
     exact ⟨S4.fr,_,j,rfl,⟨F,o,rfl,exsAt_mono (exsAt_stays (stays_row W (g:=w.heap.size) #[.int .u8 i.kind,.int .u8 i.op,.int .i64 i.wd,.string i.name,.slice F i.kids.length o,.int .i64 i.pos] (fun b y=>by omega)) (fun b y=>y) V.out.tree) (fun b y=>by omega)⟩,S4.rd T.out,rfl⟩
    have O7:=V.out.left;have O6:=V.out.res;have Q:=Hd Q;rw [HG.out] at K;clear hg;cases is with
    | false =>
      clear K;go_wp2_with (first | (refine ld rowEx rfl rfl rfl O7 rfl ?_) | (refine st rowEx rfl rfl O6 rfl rfl (by rfl) (by rfl) (by kernel_rfl) ?_))
      exact p_ret rowEx rfl (O6.row #[.int .u8 i.kind,.int .u8 i.op,.int .i64 i.wd,.string i.name,.slice F i.kids.length o,.int .i64 i.pos]) rfl rfl rfl (Q.out _ rfl)
    | true =>
      have cu:lv<v:=by simpa using K
      clear K;go_wp2_with (first | (go_at_call 68;refine (ad.out _ (V.out.run.rd T.out).s.tabs).mono ?_;rintro e w4 ⟨rfl,rfl⟩) | (refine ld rowEx rfl rfl rfl O7 rfl ?_) | (refine st rowEx rfl rfl O6 rfl rfl (by rfl) (by rfl) (by kernel_rfl) ?_))
      exact p_ret rowEx rfl (O6.row #[.int .u8 i.kind,.int .u8 i.op,.int .i64 i.wd,.string i.name,.slice F i.kids.length o,.int .i64 i.pos]) rfl rfl rfl (Q.out _ rfl)
theorem exprs_step {n:Nat} (H:∀ m,m<n->OpndC m/\BinC m):OpndC n/\BinC n:=by
 cases n with
 | zero=>exact ⟨fun c w k d _ _ _ h=>by omega,fun c w k v d _ _ _ _ _ h=>by omega⟩
 | succ n=>exact ⟨opnd_step (H n (by omega)).1 (H n (by omega)).2,p_binary H⟩
theorem exprs_all (n:Nat):OpndC n/\BinC n:=by
 induction n using Nat.strongRecOn with
 | ind n ih=>exact exprs_step ih
theorem p_expression {c:Par} {w:World} {k n:Nat} (R:Rd c w k) (hn:3*(c.at k).length+2<=n) :
 Calls Tryz.prog 175 #[c.ptr] w (RdPost c w (binE fnd c.L n 1 0 (c.at k)) (exR w.heap.size)):=by
 obtain ⟨Y,o⟩:=Qx (binE fnd c.L n 1 0 (c.at k));have B:Hid (∀ W,Rd c W k->Calls Tryz.prog 150 #[c.ptr,.int .i64 1,.int .i64 0] W (RdPost c W Y (exR W.heap.size))):=fun W RW=>by
  rw [o];exact (exprs_all n).2 c W k 1 0 RW (by omega) (by omega) (by omega) (by omega) hn
 rw [<- o];have l:=Hd ((At.start R).alloc (.cells zEx 167));have D:=Own.new w 167 zEx;have v:=Hd R;have r:=Hd R.lt;clear o R hn;unfold Par.ptr zEx at *;go_enter Tryz.func175,Tryz.ntmps175;go_wp2_with fail;go_at_call 150;refine (B.out _ (l.out.rd v.out)).mono ?_;rintro e z ⟨f,s⟩;rcases Y with ⟨a,E⟩ | ⟨p,q⟩
 rotate_left
 · obtain rfl := s
   have m:=Hd (l.out.fr.trans f);clear f;go_wp2_with fail;exact ⟨rfl,m.out,rfl⟩
 obtain ⟨F,A,rfl,⟨j,d,rfl,x⟩,i,rfl⟩:=s;have t:=r.out;have O1:=D.fr f (by omega)
 have m:=Hd (l.out.call f i);have C:=Hd x;clear f x i t;go_wp2_with (first | (refine st rowEx rfl rfl O1 rfl rfl (by rfl) (by rfl) (by kernel_rfl) ?_))
 have t:=r.out;have y:=m.out.setRow (Nat.le_refl _) (by omega) #[.int .u8 a.kind,.int .u8 a.op,.int .i64 a.wd,.string a.name,.slice j a.kids.length d,.int .i64 a.pos]
 refine p_ret rowEx rfl (O1.row #[.int .u8 a.kind,.int .u8 a.op,.int .i64 a.wd,.string a.name,.slice j a.kids.length d,.int .i64 a.pos]) rfl rfl rfl ?_;exact ⟨y.fr,_,A,rfl,⟨j,d,rfl,exsAt_mono (exsAt_stays (stays_row z (g:=w.heap.size) _ (fun b hb=>by simp at hb;omega)) (fun b hb=>hb) C.out) (fun b hb=>by simp at hb;omega)⟩,y.rd v.out,rfl⟩
open Go.RowKit
set_option linter.unusedVariables false
theorem row_stays {W W':World} {base:Nat} {T:TypeId} {n:Nat} {v:Value} {k:Nat} {xs:List Value} (h:W.ownsRow base T n v k xs) (hw:∀ g,base<=g->v.ownBlock=some g->g<W.heap.size->W'.heap[g]? = W.heap[g]?):W'.ownsRow base T n v k xs:=by
 obtain ⟨j,d⟩:=h;refine ⟨j,?_⟩;rcases d with d | ⟨g,b,c,rfl,f,i,a⟩
 · exact .inl d
 · exact .inr ⟨g,b,c,rfl,f,(hw g f rfl (Array.getElem?_eq_some_iff.1 i).1).trans i,a⟩
theorem row_below {W W':World} {base:Nat} {T:TypeId} {n:Nat} {v:Value} {k:Nat} {xs:List Value} (h:W.ownsRow base T n v k xs) (hb:Below W.heap.size W W'):W'.ownsRow base T n v k xs:=row_stays h fun g _ _ hg=>hb.block g hg
theorem row_fr {c:Par} {W W':World} {base:Nat} {T:TypeId} {n:Nat} {v:Value} {k:Nat} {xs:List Value} (h:W.ownsRow base T n v k xs) (hf:Fr c W W') (hx:c.X<base):W'.ownsRow base T n v k xs :=
 row_stays h fun g hb _ hg=>by
  rw [hf.block (b:=g) (Array.getElem?_eq_getElem hg) (by omega),Array.getElem?_eq_getElem hg]
theorem row_row {W:World} {base:Nat} {T:TypeId} {n:Nat} {v:Value} {k:Nat} {xs:List Value} (h:W.ownsRow base T n v k xs) {g:Nat} (cs:Array Value) (hg:v.ownBlock≠some g):(W.setRow g cs).ownsRow base T n v k xs :=
 row_stays h fun b _ hb _=>setRow_other cs (fun e=>hg (by rw [<- e];exact hb))
theorem row_shape {W:World} {base:Nat} {T:TypeId} {n:Nat} {v:Value} {k:Nat} {xs:List Value} (h:W.ownsRow base T n v k xs):∃ oa cap,v=.slice oa k cap/\(k≠0->∃ g,oa=some ⟨g,0,none⟩/\base<=g):=by
 rcases h.2 with ⟨rfl,rfl⟩ | ⟨g,cap,b,rfl,a,_⟩
 · exact ⟨none,0,rfl,fun h=>absurd rfl h⟩
 · exact ⟨_,cap,rfl,fun _=>⟨g,rfl,a⟩⟩
theorem row_cells {W:World} {base:Nat} {T:TypeId} {n:Nat} {v:Value} {k:Nat} {xs:List Value} (h:W.ownsRow base T n v k xs) {g:Nat} (hg:v.ownBlock=some g):cellsIn W g 0 xs:=by
 intro j u a;have:=h.cells hg j u a;rw [show (⟨g,0,none⟩:Addr).add j=⟨g,0+j,none⟩ by by_cases h0:j=0 <;> simp [Addr.add,h0]] at this
 exact this
theorem grown_fr {c:Par} {w W W':World} {k:Nat} (A:At c w W k) {row:Option Nat} (hg:W.grownBy W' row) (hr:∀ r,row=some r->w.heap.size<=r/\r≠c.X):At c w W' k:=by
 refine ⟨Keep.grown A.fr hg (fun r o e _ hs=>by have:=hr r e;have:=hs.1;omega),?_,A.le⟩
 rw [hg.block c.X A.lt (fun e=>(hr c.X e.symm).2 rfl)]
 exact A.pos
theorem own_grown {W W':World} {b:Nat} {t:TypeId} {cs:Array Value} (h:Own W b t cs) {row:Option Nat} (hg:W.grownBy W' row) (hr:row≠some b):Own W' b t cs:=(hg.block b h.lt (fun e=>hr e.symm)).trans h
theorem stays_grown {R:Nat->Prop} {W W':World} {row:Option Nat} (hg:W.grownBy W' row) (hr:∀ b,R b->row≠some b):Stays R W W':=fun b o v hb hv=>by
 have e:=hg.block b (by have:=cell_lt hv;simpa using this) (fun e=>hr b hb e.symm)
 rw [<- hv];simp only [World.cell?,e]
def dcVal (d:Dc):Value:=.agg #[.string d.name,.int .i64 d.wd,.int .i64 d.pos]
theorem p_name_ok {c:Par} {w:World} {k:Nat} (R:Rd c w k) (h:(c.nx k).kind=1) :
 Calls Tryz.prog 102 #[c.ptr] w fun e w'=>e=.returned (dcVal ⟨(c.nx k).text,0,(c.nx k).pos⟩)/\Fr c w w'/\Rd c w' (k+1):=by
 have m:Hid (∀ W,Rd c W k->Calls Tryz.prog 144 #[c.ptr,.int .u8 1] W fun e w'=>e=.returned (tkV (c.nx k))/\Fr c W w'/\Rd c w' (k+1)):=fun W RW=>p_kind_ok RW 1 h (nx_lt (.inl (by rw [h];decide)))
 obtain ⟨t,i⟩:=Qx (c.nx k);rw [<- i] at m ⊢;obtain ⟨tk,tx,n,d⟩:=t;have f:=Hd ((At.start R).alloc (.cells zDc 61));have o:=Own.new w 61 zDc;have l:=Hd R;have g:=Hd R.lt;clear i h R;unfold tkV Par.ptr zDc dcVal at *;go_enter Tryz.func102,Tryz.ntmps102;go_wp2_with fail;go_at_call 144;refine (m.out _ (f.out.rd l.out)).mono ?_;rintro e r ⟨rfl,a,b⟩;have j:=g.out;have q:=Hd ((f.out.call a b).alloc (.cells #[.int .u8 tk,.string tx,.int .i64 n,.int .i64 d] 50));have O1:=(o.fr a (by omega)).alloc (.cells #[.int .u8 tk,.string tx,.int .i64 n,.int .i64 d] 50)
 clear a b j o;go_wp2_with (first | (refine st rowDc rfl rfl O1 rfl rfl (by rfl) (by rfl) (by kernel_rfl) ?_))
 have j:=g.out;have p:=q.out.setRow (Nat.le_refl _) (by omega) #[.string tx,.int .i64 0,.int .i64 d]
 exact p_ret rowDc rfl (O1.row #[.string tx,.int .i64 0,.int .i64 d]) rfl rfl rfl ⟨rfl,p.fr,p.rd l.out⟩
theorem p_name_bad {c:Par} {w:World} {k:Nat} (R:Rd c w k) (h:¬ (c.nx k).kind=1) :
 Calls Tryz.prog 102 #[c.ptr] w fun e w'=>e=.panicked (flt (hdP c.L (c.at k)) 2)/\Fr c w w':=by
 have g:Hid (∀ W,Rd c W k->Calls Tryz.prog 144 #[c.ptr,.int .u8 1] W fun e w'=>e=.panicked (flt (hdP c.L (c.at k)) 2)/\Fr c W w'):=fun W RW=>p_kind_bad RW 1 h
 have b:=Hd ((At.start R).alloc (.cells zDc 61));have f:=Hd R;clear h R;unfold Par.ptr zDc at *;go_enter Tryz.func102,Tryz.ntmps102;go_wp2_with (go_at_call 144;refine (g.out _ (b.out.rd f.out)).mono ?_;rintro e i ⟨rfl,a⟩;have d:=Hd (b.out.fr.trans a);clear a);exact ⟨rfl,rfl,d.out⟩
theorem nameP_at {c:Par} {k:Nat} : nameP c.L (c.at k)=if (c.nx k).kind=1 then .ok ⟨(c.nx k).text,0,(c.nx k).pos⟩ (c.at (k+1)) else .bad (hdP c.L (c.at k)) 2:=by
 by_cases hk:k<c.toks.length
 · rw [at_nx hk]
   simp only [nameP,hdP]
 · have e := Par.at_end (c := c) (k := k) (by omega)
   have:c.nx k=⟨0,⟨#[]⟩,0,c.L⟩:=by unfold Par.nx;rw [e]
   rw [e,this];rfl
theorem numP_at {c:Par} {k:Nat} : numP c.L (c.at k)=if (c.nx k).kind=3 then .ok (c.nx k).wd (c.at (k+1)) else .bad (hdP c.L (c.at k)) 2:=by
 by_cases hk:k<c.toks.length
 · rw [at_nx hk]
   simp only [numP,hdP]
 · have e := Par.at_end (c := c) (k := k) (by omega)
   have:c.nx k=⟨0,⟨#[]⟩,0,c.L⟩:=by unfold Par.nx;rw [e]
   rw [e,this];rfl
theorem p_name {c:Par} {w:World} {k:Nat} (R:Rd c w k):Calls Tryz.prog 102 #[c.ptr] w (RdPost c w (nameP c.L (c.at k)) (fun d v _=>v=dcVal d)):=by
 rw [nameP_at];by_cases h:(c.nx k).kind=1
 · rw [if_pos h]
   exact (p_name_ok R h).mono fun e w' ⟨he,hf,hr⟩=>⟨hf,_,k+1,he,rfl,hr,rfl⟩
 · rw [if_neg h]
   exact (p_name_bad R h).mono fun e w' ⟨he,hf⟩=>⟨hf,he⟩
end Go.Proofs.YtbgfkdiihnidaaaGreatDoor

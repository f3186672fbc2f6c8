/- The proof, part 10: texts that belong together, in one. -/
import Derived.Test.YtggbkldniffbfaaGreatDoorTAI
set_option maxRecDepth 100000
set_option maxHeartbeats 20000000
namespace Go.Proofs.YtggbkldniffbfaaGreatDoor
open Go.RowKit
set_option linter.unusedVariables false
theorem nx_lt {c:Par} {k:Nat} (h:(c.nx k).kind≠0∨(c.nx k).tx≠[]):k<c.toks.length:=by
 apply Nat.lt_of_not_le
 intro hn
 have e:c.nx k=⟨0,⟨#[]⟩,0,c.L⟩:=by unfold Par.nx;rw [Par.at_end hn]
 rw [e] at h
 rcases h with h | h <;> exact h rfl
theorem at_nx {c:Par} {k:Nat} (h:k<c.toks.length):c.at k=c.nx k::c.at (k+1):=by
 have:=Par.at_lt h
 unfold Par.nx
 rw [this]
theorem zeroFn (w:World):(zeroValue 141).run Tryz.prog w=.ok .nilFunc w:=by kernel_rfl
theorem opers_keys (c:Par):∀ e∈c.operE,∃ t,e.key=.string t:=by
 intro e he
 simp only [Par.operE,List.mem_cons,List.not_mem_nil,or_false] at he
 rcases he with rfl | rfl | rfl <;> exact ⟨_,rfl⟩
theorem run_opers {c:Par} {W:World} (S:RdS c W) (s:ByteArray):(Instr.lookup 106 (.map (some c.O)) (.string s) false).run Tryz.prog W=.ok (lookE s.data.toList c.operE) W :=
 run_look Tryz.underlying106 Tryz.underlying9 (zeroFn W) S.om (opers_keys c) s
theorem RdS.drewN {c:Par} {W:World} (S:RdS c W) (n:Nat):RdS c (W.drewN n):=S.keep (Keep.drewN (Fr.refl c W) n)
theorem fn_eql:∀ (f:Fn) (u v:Array Value) (w:World),(binOp .eql 141 (.func f u v) .nilFunc).run Tryz.prog w=.ok (.bool false) w:=fun f u v w=>by kernel_rfl
theorem nil_eql:∀ (w:World),(binOp .eql 141 .nilFunc .nilFunc).run Tryz.prog w=.ok (.bool true) w:=fun w=>by kernel_rfl
theorem o_number {c:Par} {w:World} {k:Nat} (R:Rd c w k) (d:Int) (hyp:(c.nx k).kind=3) :
 Calls Tryz.prog 106 #[c.ptr,.int .i64 d] w fun e w'=>e=.returned (.agg #[.int .u8 1,.int .u8 0,.int .i64 (c.nx k).wd,.string ⟨#[]⟩,.slice none 0 0,.int .i64 (c.nx k).pos])∧Fr c w w'∧Rd c w' (k+1):=by
 have hlt:=Lib.hid (nx_lt (.inl (by rw [hyp];decide)))
 have hk6:k≤65536:=by have:=R.s.small.1;have:=R.le;omega
 have HN:Hid (∀ W,Rd c W k→Calls Tryz.prog 52 #[c.ptr] W fun e w'=>e=.returned (tkV (c.nx k))∧Below W.heap.size W w'):=fun W h=>p_next h
 obtain ⟨t,ht⟩:∃ t,t=c.nx k:=⟨_,rfl⟩
 have HT:=Lib.hid ht
 rw [← ht] at HN hyp
 clear ht
 obtain ⟨tk,tx,tw,tp⟩:=t
 have HR:=Lib.hid R
 have hX:=Lib.hid R.lt
 have A0:=Lib.hid ((At.start R).alloc (.cells zEx 30))
 have O0:=Own.new w 30 zEx
 have hlook:Hid (∀ W,RdS c W→(Instr.lookup 106 (.map (some c.O)) (.string tx) false).run Tryz.prog W=.ok (lookE tx.data.toList c.operE) W):=fun W S=>run_opers S _
 clear R
 rw [← HT.out]
 simp only at hyp ⊢
 subst hyp
 obtain ⟨V,hV⟩:∃ V,V=lookE tx.data.toList c.operE:=⟨_,rfl⟩
 rw [← hV] at hlook
 clear hV HT
 have HNUM:=Lib.hid (fun w=>p_number ⟨3,tx,tw,tp⟩ d w)
 unfold tkV Par.ptr zEx at *
 have F1:=fn_eql
 go_enter Tryz.func106,Tryz.ntmps106
 go_wp2_with fail
 go_at_call 52
 refine (HN.out _ (A0.out.rd HR.out)).mono ?_
 rintro e w1 ⟨rfl,hb⟩
 have A1:=Lib.hid ((A0.out.below hb).alloc (.cells #[.int .u8 3,.string tx,.int .i64 tw,.int .i64 tp] 111))
 have O1:=Lib.hid ((O0.below hb).alloc (.cells #[.int .u8 3,.string tx,.int .i64 tw,.int .i64 tp] 111))
 have T1:=Lib.hid (Own.new w1 111 #[.int .u8 3,.string tx,.int .i64 tw,.int .i64 tp])
 have hz1:=Lib.hid (O0.below hb).lt
 clear hb O0
 go_upto_region 2 with (fail)
 obtain ⟨W,hW⟩:∃ W,W=w1.alloc (.cells #[.int .u8 3,.string tx,.int .i64 tw,.int .i64 tp] 111):=⟨_,rfl⟩
 rw [← hW] at A1 O1 T1 ⊢
 clear hW
 obtain ⟨⟨_,_,x2,_,_,x5⟩,xf⟩:=A1.out.cells
 have t1:W.cell? ⟨w1.heap.size,1,none⟩=some (.string tx):=by rw [cell_of_row W w1.heap.size 1 _ _ _ T1.out];rfl
 have t0:W.cell? ⟨w1.heap.size,0,none⟩=some (.int .u8 3):=by rw [cell_of_row W w1.heap.size 0 _ _ _ T1.out];rfl
 have hlk:=fun n=>hlook.out (W.drewN n) ((A1.out.rd HR.out).s.drewN n)
 go_quiet (fail)
 obtain ⟨W2,hW2⟩:∃ W2,W2=W.drewN nq:=⟨_,rfl⟩
 have A2:=A1.out.drewN nq
 have O2:=O1.out.drewN nq
 have T2:=T1.out.drewN nq
 rw [← hW2] at A2 O2 T2 ⊢
 have A2:=Lib.hid A2
 have O2:=Lib.hid O2
 have T2:=Lib.hid T2
 clear hW2 x2 x5 xf t1 t0 hlk A1 O1 T1
 obtain ⟨⟨_,_,x2,_⟩,xf⟩:=A2.out.cells
 have t0:W2.cell? ⟨w1.heap.size,0,none⟩=some (.int .u8 3):=by rw [cell_of_row W2 w1.heap.size 0 _ _ _ T2.out];rfl
 have A3:=Lib.hid (A2.out.step hlt.out)
 have hn1:c.X≠w1.heap.size:=by have:=hX.out;have:=hz1.out;omega
 have hn2:c.X≠w.heap.size:=by have:=hX.out;omega
 have T3:=T2.out.setX 2 (.int .i64 ((k:Int)+1)) hn1
 have O3:=Lib.hid (O2.out.setX 2 (.int .i64 ((k:Int)+1)) hn2)
 have hn1:=Lib.hid hn1
 have hn2:=Lib.hid hn2
 go_wp2_with (first | (refine ld rowTok rfl rfl rfl T3 rfl ?_) | (go_at_call 132;refine (HNUM.out _).mono ?_;rintro e w3 ⟨rfl,hb⟩;have A4:=Lib.hid (A3.out.below hb);have O4:=O3.out.below hb;clear hb) | (refine st rowEx rfl rfl O4 rfl rfl (by rfl) (by rfl) (by kernel_rfl) ?_))
 have A5:=A4.out.setRow (Nat.le_refl _) hn2.out #[.int .u8 1,.int .u8 0,.int .i64 tw,.string ⟨#[]⟩,.slice none 0 0,.int .i64 tp]
 exact p_ret rowEx rfl (O4.row #[.int .u8 1,.int .u8 0,.int .i64 tw,.string ⟨#[]⟩,.slice none 0 0,.int .i64 tp]) rfl rfl rfl ⟨rfl,A5.fr,A5.rd HR.out⟩
theorem o_name {c:Par} {w:World} {k:Nat} (R:Rd c w k) (d:Int) (hyp:(c.nx k).kind=1) :
 Calls Tryz.prog 106 #[c.ptr,.int .i64 d] w fun e w'=>e=.returned (.agg #[.int .u8 2,.int .u8 0,.int .i64 0,.string (c.nx k).text,.slice none 0 0,.int .i64 (c.nx k).pos])∧Fr c w w'∧Rd c w' (k+1):=by
 have hlt:=Lib.hid (nx_lt (.inl (by rw [hyp];decide)))
 have hk6:k≤65536:=by have:=R.s.small.1;have:=R.le;omega
 have HN:Hid (∀ W,Rd c W k→Calls Tryz.prog 52 #[c.ptr] W fun e w'=>e=.returned (tkV (c.nx k))∧Below W.heap.size W w'):=fun W h=>p_next h
 obtain ⟨t,ht⟩:∃ t,t=c.nx k:=⟨_,rfl⟩
 have HT:=Lib.hid ht
 rw [← ht] at HN hyp
 clear ht
 obtain ⟨tk,tx,tw,tp⟩:=t
 have HR:=Lib.hid R
 have hX:=Lib.hid R.lt
 have A0:=Lib.hid ((At.start R).alloc (.cells zEx 30))
 have O0:=Own.new w 30 zEx
 have hlook:Hid (∀ W,RdS c W→(Instr.lookup 106 (.map (some c.O)) (.string tx) false).run Tryz.prog W=.ok (lookE tx.data.toList c.operE) W):=fun W S=>run_opers S _
 clear R
 rw [← HT.out]
 simp only at hyp ⊢
 subst hyp
 obtain ⟨V,hV⟩:∃ V,V=lookE tx.data.toList c.operE:=⟨_,rfl⟩
 rw [← hV] at hlook
 clear hV HT
 have HNUM:=Lib.hid (fun w=>p_variable ⟨1,tx,tw,tp⟩ d w)
 unfold tkV Par.ptr zEx at *
 have F1:=fn_eql
 go_enter Tryz.func106,Tryz.ntmps106
 go_wp2_with fail
 go_at_call 52
 refine (HN.out _ (A0.out.rd HR.out)).mono ?_
 rintro e w1 ⟨rfl,hb⟩
 have A1:=Lib.hid ((A0.out.below hb).alloc (.cells #[.int .u8 1,.string tx,.int .i64 tw,.int .i64 tp] 111))
 have O1:=Lib.hid ((O0.below hb).alloc (.cells #[.int .u8 1,.string tx,.int .i64 tw,.int .i64 tp] 111))
 have T1:=Lib.hid (Own.new w1 111 #[.int .u8 1,.string tx,.int .i64 tw,.int .i64 tp])
 have hz1:=Lib.hid (O0.below hb).lt
 clear hb O0
 go_upto_region 2 with (fail)
 obtain ⟨W,hW⟩:∃ W,W=w1.alloc (.cells #[.int .u8 1,.string tx,.int .i64 tw,.int .i64 tp] 111):=⟨_,rfl⟩
 rw [← hW] at A1 O1 T1 ⊢
 clear hW
 obtain ⟨⟨_,_,x2,_,_,x5⟩,xf⟩:=A1.out.cells
 have t1:W.cell? ⟨w1.heap.size,1,none⟩=some (.string tx):=by rw [cell_of_row W w1.heap.size 1 _ _ _ T1.out];rfl
 have t0:W.cell? ⟨w1.heap.size,0,none⟩=some (.int .u8 1):=by rw [cell_of_row W w1.heap.size 0 _ _ _ T1.out];rfl
 have hlk:=fun n=>hlook.out (W.drewN n) ((A1.out.rd HR.out).s.drewN n)
 go_quiet (fail)
 obtain ⟨W2,hW2⟩:∃ W2,W2=W.drewN nq:=⟨_,rfl⟩
 have A2:=A1.out.drewN nq
 have O2:=O1.out.drewN nq
 have T2:=T1.out.drewN nq
 rw [← hW2] at A2 O2 T2 ⊢
 have A2:=Lib.hid A2
 have O2:=Lib.hid O2
 have T2:=Lib.hid T2
 clear hW2 x2 x5 xf t1 t0 hlk A1 O1 T1
 obtain ⟨⟨_,_,x2,_⟩,xf⟩:=A2.out.cells
 have t0:W2.cell? ⟨w1.heap.size,0,none⟩=some (.int .u8 1):=by rw [cell_of_row W2 w1.heap.size 0 _ _ _ T2.out];rfl
 have A3:=Lib.hid (A2.out.step hlt.out)
 have hn1:c.X≠w1.heap.size:=by have:=hX.out;have:=hz1.out;omega
 have hn2:c.X≠w.heap.size:=by have:=hX.out;omega
 have T3:=T2.out.setX 2 (.int .i64 ((k:Int)+1)) hn1
 have O3:=Lib.hid (O2.out.setX 2 (.int .i64 ((k:Int)+1)) hn2)
 have hn1:=Lib.hid hn1
 have hn2:=Lib.hid hn2
 go_wp2_with (first | (refine ld rowTok rfl rfl rfl T3 rfl ?_) | (go_at_call 133;refine (HNUM.out _).mono ?_;rintro e w3 ⟨rfl,hb⟩;have A4:=Lib.hid (A3.out.below hb);have O4:=O3.out.below hb;clear hb) | (refine st rowEx rfl rfl O4 rfl rfl (by rfl) (by rfl) (by kernel_rfl) ?_))
 have A5:=A4.out.setRow (Nat.le_refl _) hn2.out #[.int .u8 2,.int .u8 0,.int .i64 0,.string tx,.slice none 0 0,.int .i64 tp]
 exact p_ret rowEx rfl (O4.row #[.int .u8 2,.int .u8 0,.int .i64 0,.string tx,.slice none 0 0,.int .i64 tp]) rfl rfl rfl ⟨rfl,A5.fr,A5.rd HR.out⟩
theorem o_minus {c:Par} {w:World} {k:Nat} (R:Rd c w k) (d:Int) (Y:PR Ex) (hyp:¬ (c.nx k).kind=3∧¬ (c.nx k).kind=1∧(c.nx k).tx=[45])
 (HC:∀ W,Rd c W (k+1)→Calls Tryz.prog 128 #[tkV (c.nx k),.int .i64 d,.pointer (some ⟨c.bm,0,none⟩),.pointer (some ⟨c.bm+1,0,none⟩)] W (RdPost c W Y (exR W.heap.size))) :
 Calls Tryz.prog 106 #[c.ptr,.int .i64 d] w (RdPost c w Y (exR w.heap.size)):=by
 have hlt:=Lib.hid (nx_lt (c:=c) (k:=k) (.inr (by rw [hyp.2.2];decide)))
 have hk6:k≤65536:=by have:=R.s.small.1;have:=R.le;omega
 have HN:Hid (∀ W,Rd c W k→Calls Tryz.prog 52 #[c.ptr] W fun e w'=>e=.returned (tkV (c.nx k))∧Below W.heap.size W w'):=fun W h=>p_next h
 obtain ⟨t,ht⟩:∃ t,t=c.nx k:=⟨_,rfl⟩
 have HT:=Lib.hid ht
 rw [← ht] at HN hyp
 clear ht
 obtain ⟨tk,tx,tw,tp⟩:=t
 have HR:=Lib.hid R
 have hX:=Lib.hid R.lt
 have A0:=Lib.hid ((At.start R).alloc (.cells zEx 30))
 have O0:=Own.new w 30 zEx
 have hlook:Hid (∀ W,RdS c W→(Instr.lookup 106 (.map (some c.O)) (.string tx) false).run Tryz.prog W=.ok (.func (.func 128) #[] #[.pointer (some ⟨c.bm,0,none⟩),.pointer (some ⟨c.bm+1,0,none⟩)]) W):=fun W S=>by
  rw [run_opers S];have e:tx.data.toList=[45]:=hyp.2.2;rw [e];rfl
 clear R
 have HC:=Lib.hid HC
 rw [← HT.out] at HC
 have q3:(tk==3)=false:=by simpa using hyp.1
 have q1:(tk==1)=false:=by simpa using hyp.2.1
 clear hyp HT
 unfold tkV Par.ptr zEx at *
 have F1:=fn_eql
 go_enter Tryz.func106,Tryz.ntmps106
 go_wp2_with fail
 go_at_call 52
 refine (HN.out _ (A0.out.rd HR.out)).mono ?_
 rintro e w1 ⟨rfl,hb⟩
 have A1:=Lib.hid ((A0.out.below hb).alloc (.cells #[.int .u8 tk,.string tx,.int .i64 tw,.int .i64 tp] 111))
 have O1:=Lib.hid ((O0.below hb).alloc (.cells #[.int .u8 tk,.string tx,.int .i64 tw,.int .i64 tp] 111))
 have T1:=Lib.hid (Own.new w1 111 #[.int .u8 tk,.string tx,.int .i64 tw,.int .i64 tp])
 have hz1:=Lib.hid (O0.below hb).lt
 clear hb O0
 go_upto_region 2 with (fail)
 obtain ⟨W,hW⟩:∃ W,W=w1.alloc (.cells #[.int .u8 tk,.string tx,.int .i64 tw,.int .i64 tp] 111):=⟨_,rfl⟩
 rw [← hW] at A1 O1 T1 ⊢
 clear hW
 obtain ⟨⟨_,_,x2,_,_,x5⟩,xf⟩:=A1.out.cells
 have t1:W.cell? ⟨w1.heap.size,1,none⟩=some (.string tx):=by rw [cell_of_row W w1.heap.size 1 _ _ _ T1.out];rfl
 have t0:W.cell? ⟨w1.heap.size,0,none⟩=some (.int .u8 tk):=by rw [cell_of_row W w1.heap.size 0 _ _ _ T1.out];rfl
 have hlk:=fun n=>hlook.out (W.drewN n) ((A1.out.rd HR.out).s.drewN n)
 go_quiet (fail)
 obtain ⟨W2,hW2⟩:∃ W2,W2=W.drewN nq:=⟨_,rfl⟩
 have A2:=A1.out.drewN nq
 have O2:=O1.out.drewN nq
 have T2:=T1.out.drewN nq
 rw [← hW2] at A2 O2 T2 ⊢
 have A2:=Lib.hid A2
 have O2:=Lib.hid O2
 have T2:=Lib.hid T2
 clear hW2 x2 x5 xf t1 t0 hlk A1 O1 T1
 obtain ⟨⟨_,_,x2,_⟩,xf⟩:=A2.out.cells
 have t0:W2.cell? ⟨w1.heap.size,0,none⟩=some (.int .u8 tk):=by rw [cell_of_row W2 w1.heap.size 0 _ _ _ T2.out];rfl
 have A3:=Lib.hid (A2.out.step hlt.out)
 have hn1:c.X≠w1.heap.size:=by have:=hX.out;have:=hz1.out;omega
 have hn2:c.X≠w.heap.size:=by have:=hX.out;omega
 have T3:=T2.out.setX 2 (.int .i64 ((k:Int)+1)) hn1
 have O3:=Lib.hid (O2.out.setX 2 (.int .i64 ((k:Int)+1)) hn2)
 have hn1:=Lib.hid hn1
 have hn2:=Lib.hid hn2
 go_wp2_with (first | (refine ld rowTok rfl rfl rfl T3 rfl ?_))
 go_at_call 128
 refine (HC.out _ (A3.out.rd HR.out)).mono ?_
 rintro e w3 ⟨hf3,hm⟩
 rcases Y with ⟨e0,r0⟩ | ⟨p,q⟩
 rotate_left
 · obtain rfl := hm
   have A4:=Lib.hid (A3.out.fr.trans hf3)
   clear hf3
   go_wp2_with fail
   exact ⟨rfl,A4.out,rfl⟩
 obtain ⟨v,k2,rfl,⟨a4,cap4,rfl,hV⟩,hR2,rfl⟩:=hm
 have A4:=Lib.hid (A3.out.call hf3 hR2)
 have O4:=O3.out.fr hf3 hn2.out
 have HV:=Lib.hid hV
 have hl:=Lib.hid O3.out.lt
 clear hf3 hR2 hV T3 xf x2 t0
 go_wp2_with (first | (refine st rowEx rfl rfl O4 rfl rfl (by rfl) (by rfl) (by kernel_rfl) ?_))
 have hll:=hl.out
 have A5:=A4.out.setRow (Nat.le_refl _) hn2.out #[.int .u8 e0.kind,.int .u8 e0.op,.int .i64 e0.wd,.string e0.name,.slice a4 e0.kids.length cap4,.int .i64 e0.pos]
 have V5:=exsAt_stays (stays_row w3 (g:=w.heap.size) #[.int .u8 e0.kind,.int .u8 e0.op,.int .i64 e0.wd,.string e0.name,.slice a4 e0.kids.length cap4,.int .i64 e0.pos] (fun b hb=>by omega)) (fun b hb=>hb) HV.out
 refine p_ret rowEx rfl (O4.row #[.int .u8 e0.kind,.int .u8 e0.op,.int .i64 e0.wd,.string e0.name,.slice a4 e0.kids.length cap4,.int .i64 e0.pos]) rfl rfl rfl ?_
 exact ⟨A5.fr,_,k2,rfl,⟨a4,cap4,rfl,exsAt_mono V5 (fun b hb=>by omega)⟩,A5.rd HR.out,rfl⟩
theorem o_not {c:Par} {w:World} {k:Nat} (R:Rd c w k) (d:Int) (Y:PR Ex) (hyp:¬ (c.nx k).kind=3∧¬ (c.nx k).kind=1∧(c.nx k).tx=[33])
 (HC:∀ W,Rd c W (k+1)→Calls Tryz.prog 128 #[tkV (c.nx k),.int .i64 d,.pointer (some ⟨c.bn,0,none⟩),.pointer (some ⟨c.bn+1,0,none⟩)] W (RdPost c W Y (exR W.heap.size))) :
 Calls Tryz.prog 106 #[c.ptr,.int .i64 d] w (RdPost c w Y (exR w.heap.size)):=by
 have hlt:=Lib.hid (nx_lt (c:=c) (k:=k) (.inr (by rw [hyp.2.2];decide)))
 have hk6:k≤65536:=by have:=R.s.small.1;have:=R.le;omega
 have HN:Hid (∀ W,Rd c W k→Calls Tryz.prog 52 #[c.ptr] W fun e w'=>e=.returned (tkV (c.nx k))∧Below W.heap.size W w'):=fun W h=>p_next h
 obtain ⟨t,ht⟩:∃ t,t=c.nx k:=⟨_,rfl⟩
 have HT:=Lib.hid ht
 rw [← ht] at HN hyp
 clear ht
 obtain ⟨tk,tx,tw,tp⟩:=t
 have HR:=Lib.hid R
 have hX:=Lib.hid R.lt
 have A0:=Lib.hid ((At.start R).alloc (.cells zEx 30))
 have O0:=Own.new w 30 zEx
 have hlook:Hid (∀ W,RdS c W→(Instr.lookup 106 (.map (some c.O)) (.string tx) false).run Tryz.prog W=.ok (.func (.func 128) #[] #[.pointer (some ⟨c.bn,0,none⟩),.pointer (some ⟨c.bn+1,0,none⟩)]) W):=fun W S=>by
  rw [run_opers S];have e:tx.data.toList=[33]:=hyp.2.2;rw [e];rfl
 clear R
 have HC:=Lib.hid HC
 rw [← HT.out] at HC
 have q3:(tk==3)=false:=by simpa using hyp.1
 have q1:(tk==1)=false:=by simpa using hyp.2.1
 clear hyp HT
 unfold tkV Par.ptr zEx at *
 have F1:=fn_eql
 go_enter Tryz.func106,Tryz.ntmps106
 go_wp2_with fail
 go_at_call 52
 refine (HN.out _ (A0.out.rd HR.out)).mono ?_
 rintro e w1 ⟨rfl,hb⟩
 have A1:=Lib.hid ((A0.out.below hb).alloc (.cells #[.int .u8 tk,.string tx,.int .i64 tw,.int .i64 tp] 111))
 have O1:=Lib.hid ((O0.below hb).alloc (.cells #[.int .u8 tk,.string tx,.int .i64 tw,.int .i64 tp] 111))
 have T1:=Lib.hid (Own.new w1 111 #[.int .u8 tk,.string tx,.int .i64 tw,.int .i64 tp])
 have hz1:=Lib.hid (O0.below hb).lt
 clear hb O0
 go_upto_region 2 with (fail)
 obtain ⟨W,hW⟩:∃ W,W=w1.alloc (.cells #[.int .u8 tk,.string tx,.int .i64 tw,.int .i64 tp] 111):=⟨_,rfl⟩
 rw [← hW] at A1 O1 T1 ⊢
 clear hW
 obtain ⟨⟨_,_,x2,_,_,x5⟩,xf⟩:=A1.out.cells
 have t1:W.cell? ⟨w1.heap.size,1,none⟩=some (.string tx):=by rw [cell_of_row W w1.heap.size 1 _ _ _ T1.out];rfl
 have t0:W.cell? ⟨w1.heap.size,0,none⟩=some (.int .u8 tk):=by rw [cell_of_row W w1.heap.size 0 _ _ _ T1.out];rfl
 have hlk:=fun n=>hlook.out (W.drewN n) ((A1.out.rd HR.out).s.drewN n)
 go_quiet (fail)
 obtain ⟨W2,hW2⟩:∃ W2,W2=W.drewN nq:=⟨_,rfl⟩
 have A2:=A1.out.drewN nq
 have O2:=O1.out.drewN nq
 have T2:=T1.out.drewN nq
 rw [← hW2] at A2 O2 T2 ⊢
 have A2:=Lib.hid A2
 have O2:=Lib.hid O2
 have T2:=Lib.hid T2
 clear hW2 x2 x5 xf t1 t0 hlk A1 O1 T1
 obtain ⟨⟨_,_,x2,_⟩,xf⟩:=A2.out.cells
 have t0:W2.cell? ⟨w1.heap.size,0,none⟩=some (.int .u8 tk):=by rw [cell_of_row W2 w1.heap.size 0 _ _ _ T2.out];rfl
 have A3:=Lib.hid (A2.out.step hlt.out)
 have hn1:c.X≠w1.heap.size:=by have:=hX.out;have:=hz1.out;omega
 have hn2:c.X≠w.heap.size:=by have:=hX.out;omega
 have T3:=T2.out.setX 2 (.int .i64 ((k:Int)+1)) hn1
 have O3:=Lib.hid (O2.out.setX 2 (.int .i64 ((k:Int)+1)) hn2)
 have hn1:=Lib.hid hn1
 have hn2:=Lib.hid hn2
 go_wp2_with (first | (refine ld rowTok rfl rfl rfl T3 rfl ?_))
 go_at_call 128
 refine (HC.out _ (A3.out.rd HR.out)).mono ?_
 rintro e w3 ⟨hf3,hm⟩
 rcases Y with ⟨e0,r0⟩ | ⟨p,q⟩
 rotate_left
 · obtain rfl := hm
   have A4:=Lib.hid (A3.out.fr.trans hf3)
   clear hf3
   go_wp2_with fail
   exact ⟨rfl,A4.out,rfl⟩
 obtain ⟨v,k2,rfl,⟨a4,cap4,rfl,hV⟩,hR2,rfl⟩:=hm
 have A4:=Lib.hid (A3.out.call hf3 hR2)
 have O4:=O3.out.fr hf3 hn2.out
 have HV:=Lib.hid hV
 have hl:=Lib.hid O3.out.lt
 clear hf3 hR2 hV T3 xf x2 t0
 go_wp2_with (first | (refine st rowEx rfl rfl O4 rfl rfl (by rfl) (by rfl) (by kernel_rfl) ?_))
 have hll:=hl.out
 have A5:=A4.out.setRow (Nat.le_refl _) hn2.out #[.int .u8 e0.kind,.int .u8 e0.op,.int .i64 e0.wd,.string e0.name,.slice a4 e0.kids.length cap4,.int .i64 e0.pos]
 have V5:=exsAt_stays (stays_row w3 (g:=w.heap.size) #[.int .u8 e0.kind,.int .u8 e0.op,.int .i64 e0.wd,.string e0.name,.slice a4 e0.kids.length cap4,.int .i64 e0.pos] (fun b hb=>by omega)) (fun b hb=>hb) HV.out
 refine p_ret rowEx rfl (O4.row #[.int .u8 e0.kind,.int .u8 e0.op,.int .i64 e0.wd,.string e0.name,.slice a4 e0.kids.length cap4,.int .i64 e0.pos]) rfl rfl rfl ?_
 exact ⟨A5.fr,_,k2,rfl,⟨a4,cap4,rfl,exsAt_mono V5 (fun b hb=>by omega)⟩,A5.rd HR.out,rfl⟩
theorem o_paren {c:Par} {w:World} {k:Nat} (R:Rd c w k) (d:Int) (Y:PR Ex) (hyp:¬ (c.nx k).kind=3∧¬ (c.nx k).kind=1∧(c.nx k).tx=[40])
 (HC:∀ W,Rd c W (k+1)→Calls Tryz.prog 96 #[c.ptr,tkV (c.nx k),.int .i64 d] W (RdPost c W Y (exR W.heap.size))) :
 Calls Tryz.prog 106 #[c.ptr,.int .i64 d] w (RdPost c w Y (exR w.heap.size)):=by
 have hlt:=Lib.hid (nx_lt (c:=c) (k:=k) (.inr (by rw [hyp.2.2];decide)))
 have hk6:k≤65536:=by have:=R.s.small.1;have:=R.le;omega
 have HN:Hid (∀ W,Rd c W k→Calls Tryz.prog 52 #[c.ptr] W fun e w'=>e=.returned (tkV (c.nx k))∧Below W.heap.size W w'):=fun W h=>p_next h
 obtain ⟨t,ht⟩:∃ t,t=c.nx k:=⟨_,rfl⟩
 have HT:=Lib.hid ht
 rw [← ht] at HN hyp
 clear ht
 obtain ⟨tk,tx,tw,tp⟩:=t
 have HR:=Lib.hid R
 have hX:=Lib.hid R.lt
 have A0:=Lib.hid ((At.start R).alloc (.cells zEx 30))
 have O0:=Own.new w 30 zEx
 have hlook:Hid (∀ W,RdS c W→(Instr.lookup 106 (.map (some c.O)) (.string tx) false).run Tryz.prog W=.ok (.func (.func 96) #[.pointer (some ⟨c.X,0,none⟩)] #[]) W):=fun W S=>by
  rw [run_opers S];have e:tx.data.toList=[40]:=hyp.2.2;rw [e];rfl
 clear R
 have HC:=Lib.hid HC
 rw [← HT.out] at HC
 have q3:(tk==3)=false:=by simpa using hyp.1
 have q1:(tk==1)=false:=by simpa using hyp.2.1
 clear hyp HT
 unfold tkV Par.ptr zEx at *
 have F1:=fn_eql
 go_enter Tryz.func106,Tryz.ntmps106
 go_wp2_with fail
 go_at_call 52
 refine (HN.out _ (A0.out.rd HR.out)).mono ?_
 rintro e w1 ⟨rfl,hb⟩
 have A1:=Lib.hid ((A0.out.below hb).alloc (.cells #[.int .u8 tk,.string tx,.int .i64 tw,.int .i64 tp] 111))
 have O1:=Lib.hid ((O0.below hb).alloc (.cells #[.int .u8 tk,.string tx,.int .i64 tw,.int .i64 tp] 111))
 have T1:=Lib.hid (Own.new w1 111 #[.int .u8 tk,.string tx,.int .i64 tw,.int .i64 tp])
 have hz1:=Lib.hid (O0.below hb).lt
 clear hb O0
 go_upto_region 2 with (fail)
 obtain ⟨W,hW⟩:∃ W,W=w1.alloc (.cells #[.int .u8 tk,.string tx,.int .i64 tw,.int .i64 tp] 111):=⟨_,rfl⟩
 rw [← hW] at A1 O1 T1 ⊢
 clear hW
 obtain ⟨⟨_,_,x2,_,_,x5⟩,xf⟩:=A1.out.cells
 have t1:W.cell? ⟨w1.heap.size,1,none⟩=some (.string tx):=by rw [cell_of_row W w1.heap.size 1 _ _ _ T1.out];rfl
 have t0:W.cell? ⟨w1.heap.size,0,none⟩=some (.int .u8 tk):=by rw [cell_of_row W w1.heap.size 0 _ _ _ T1.out];rfl
 have hlk:=fun n=>hlook.out (W.drewN n) ((A1.out.rd HR.out).s.drewN n)
 go_quiet (fail)
 obtain ⟨W2,hW2⟩:∃ W2,W2=W.drewN nq:=⟨_,rfl⟩
 have A2:=A1.out.drewN nq
 have O2:=O1.out.drewN nq
 have T2:=T1.out.drewN nq
 rw [← hW2] at A2 O2 T2 ⊢
 have A2:=Lib.hid A2
 have O2:=Lib.hid O2
 have T2:=Lib.hid T2
 clear hW2 x2 x5 xf t1 t0 hlk A1 O1 T1
 obtain ⟨⟨_,_,x2,_⟩,xf⟩:=A2.out.cells
 have t0:W2.cell? ⟨w1.heap.size,0,none⟩=some (.int .u8 tk):=by rw [cell_of_row W2 w1.heap.size 0 _ _ _ T2.out];rfl
 have A3:=Lib.hid (A2.out.step hlt.out)
 have hn1:c.X≠w1.heap.size:=by have:=hX.out;have:=hz1.out;omega
 have hn2:c.X≠w.heap.size:=by have:=hX.out;omega
 have T3:=T2.out.setX 2 (.int .i64 ((k:Int)+1)) hn1
 have O3:=Lib.hid (O2.out.setX 2 (.int .i64 ((k:Int)+1)) hn2)
 have hn1:=Lib.hid hn1
 have hn2:=Lib.hid hn2
 go_wp2_with (first | (refine ld rowTok rfl rfl rfl T3 rfl ?_))
 go_at_call 96
 refine (HC.out _ (A3.out.rd HR.out)).mono ?_
 rintro e w3 ⟨hf3,hm⟩
 rcases Y with ⟨e0,r0⟩ | ⟨p,q⟩
 rotate_left
 · obtain rfl := hm
   have A4:=Lib.hid (A3.out.fr.trans hf3)
   clear hf3
   go_wp2_with fail
   exact ⟨rfl,A4.out,rfl⟩
 obtain ⟨v,k2,rfl,⟨a4,cap4,rfl,hV⟩,hR2,rfl⟩:=hm
 have A4:=Lib.hid (A3.out.call hf3 hR2)
 have O4:=O3.out.fr hf3 hn2.out
 have HV:=Lib.hid hV
 have hl:=Lib.hid O3.out.lt
 clear hf3 hR2 hV T3 xf x2 t0
 go_wp2_with (first | (refine st rowEx rfl rfl O4 rfl rfl (by rfl) (by rfl) (by kernel_rfl) ?_))
 have hll:=hl.out
 have A5:=A4.out.setRow (Nat.le_refl _) hn2.out #[.int .u8 e0.kind,.int .u8 e0.op,.int .i64 e0.wd,.string e0.name,.slice a4 e0.kids.length cap4,.int .i64 e0.pos]
 have V5:=exsAt_stays (stays_row w3 (g:=w.heap.size) #[.int .u8 e0.kind,.int .u8 e0.op,.int .i64 e0.wd,.string e0.name,.slice a4 e0.kids.length cap4,.int .i64 e0.pos] (fun b hb=>by omega)) (fun b hb=>hb) HV.out
 refine p_ret rowEx rfl (O4.row #[.int .u8 e0.kind,.int .u8 e0.op,.int .i64 e0.wd,.string e0.name,.slice a4 e0.kids.length cap4,.int .i64 e0.pos]) rfl rfl rfl ?_
 exact ⟨A5.fr,_,k2,rfl,⟨a4,cap4,rfl,exsAt_mono V5 (fun b hb=>by omega)⟩,A5.rd HR.out,rfl⟩
theorem o_none {c:Par} {w:World} {k:Nat} (R:Rd c w k) (d:Int) (hyp:¬ (c.nx k).kind=3∧¬ (c.nx k).kind=1∧¬ (c.nx k).tx=[45]∧¬ (c.nx k).tx=[33]∧¬ (c.nx k).tx=[40]) :
 Calls Tryz.prog 106 #[c.ptr,.int .i64 d] w fun e w'=>e=.panicked (flt (hdP c.L (c.at k)) 2)∧Fr c w w':=by
 have hp:=c.nx_pos k
 rw [← hp]
 clear hp
 have hk6:k≤65536:=by have:=R.s.small.1;have:=R.le;omega
 have HN:Hid (∀ W,Rd c W k→Calls Tryz.prog 52 #[c.ptr] W fun e w'=>e=.returned (tkV (c.nx k))∧Below W.heap.size W w'):=fun W h=>p_next h
 obtain ⟨t,ht⟩:∃ t,t=c.nx k:=⟨_,rfl⟩
 have HT:=Lib.hid ht
 rw [← ht] at HN hyp
 clear ht
 obtain ⟨tk,tx,tw,tp⟩:=t
 have HR:=Lib.hid R
 have hX:=Lib.hid R.lt
 have A0:=Lib.hid ((At.start R).alloc (.cells zEx 30))
 have O0:=Own.new w 30 zEx
 have hlook:Hid (∀ W,RdS c W→(Instr.lookup 106 (.map (some c.O)) (.string tx) false).run Tryz.prog W=.ok (.nilFunc) W):=fun W S=>by
  rw [run_opers S]
  have e:lookE tx.data.toList c.operE=.nilFunc:=by
   obtain ⟨_,_,h1,h2,h3⟩:=hyp
   have h1':¬ tx.data.toList=[45]:=h1
   have h2':¬ tx.data.toList=[33]:=h2
   have h3':¬ tx.data.toList=[40]:=h3
   simp only [lookE,Par.operE]
   rw [if_neg h1',if_neg h2',if_neg h3']
  rw [e]
 clear R
 rw [← HT.out]
 have q3:(tk==3)=false:=by simpa using hyp.1
 have q1:(tk==1)=false:=by simpa using hyp.2.1
 have HQ:=Lib.hid (fun w=>p_refuse ⟨tk,tx,tw,tp⟩ 2 w)
 have F2:=nil_eql
 clear hyp HT
 unfold tkV Par.ptr zEx at *
 have F1:=fn_eql
 go_enter Tryz.func106,Tryz.ntmps106
 go_wp2_with fail
 go_at_call 52
 refine (HN.out _ (A0.out.rd HR.out)).mono ?_
 rintro e w1 ⟨rfl,hb⟩
 have A1:=Lib.hid ((A0.out.below hb).alloc (.cells #[.int .u8 tk,.string tx,.int .i64 tw,.int .i64 tp] 111))
 have O1:=Lib.hid ((O0.below hb).alloc (.cells #[.int .u8 tk,.string tx,.int .i64 tw,.int .i64 tp] 111))
 have T1:=Lib.hid (Own.new w1 111 #[.int .u8 tk,.string tx,.int .i64 tw,.int .i64 tp])
 have hz1:=Lib.hid (O0.below hb).lt
 clear hb O0
 go_upto_region 2 with (fail)
 obtain ⟨W,hW⟩:∃ W,W=w1.alloc (.cells #[.int .u8 tk,.string tx,.int .i64 tw,.int .i64 tp] 111):=⟨_,rfl⟩
 rw [← hW] at A1 O1 T1 ⊢
 clear hW
 obtain ⟨⟨_,_,x2,_,_,x5⟩,xf⟩:=A1.out.cells
 have t1:W.cell? ⟨w1.heap.size,1,none⟩=some (.string tx):=by rw [cell_of_row W w1.heap.size 1 _ _ _ T1.out];rfl
 have t0:W.cell? ⟨w1.heap.size,0,none⟩=some (.int .u8 tk):=by rw [cell_of_row W w1.heap.size 0 _ _ _ T1.out];rfl
 have hlk:=fun n=>hlook.out (W.drewN n) ((A1.out.rd HR.out).s.drewN n)
 go_quiet (fail)
 obtain ⟨W2,hW2⟩:∃ W2,W2=W.drewN nq:=⟨_,rfl⟩
 have A2:=A1.out.drewN nq
 have O2:=O1.out.drewN nq
 have T2:=T1.out.drewN nq
 rw [← hW2] at A2 O2 T2 ⊢
 have A2:=Lib.hid A2
 have O2:=Lib.hid O2
 have T2:=Lib.hid T2
 clear hW2 x2 x5 xf t1 t0 hlk A1 O1 T1
 have t0:W2.cell? ⟨w1.heap.size,0,none⟩=some (.int .u8 tk):=by rw [cell_of_row W2 w1.heap.size 0 _ _ _ T2.out];rfl
 have T3:=T2.out
 go_wp2_with (first | (refine ld rowTok rfl rfl rfl T3 rfl ?_) | (go_at_call 97;refine (HQ.out _).mono ?_;rintro e w3 ⟨rfl,hb⟩;have HC:=Lib.hid hb;clear hb))
 exact ⟨rfl,rfl,A2.out.fr.trans (.of_below HC.out)⟩
end Go.Proofs.YtggbkldniffbfaaGreatDoor

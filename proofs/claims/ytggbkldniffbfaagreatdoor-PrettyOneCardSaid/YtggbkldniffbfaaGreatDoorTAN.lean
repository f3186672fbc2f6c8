/- The proof, part 14: texts that belong together, in one. -/
import Derived.Test.YtggbkldniffbfaaGreatDoorTAM
set_option maxRecDepth 100000
set_option maxHeartbeats 20000000
namespace Go.Proofs.YtggbkldniffbfaaGreatDoor
open Go.RowKit
set_option linter.unusedVariables false
theorem zeroFnS (w:World):(zeroValue 140).run Tryz.prog w=.ok .nilFunc w:=by kernel_rfl
theorem stmts_keys (c:Par):∀ e∈c.stmtE,∃ t,e.key=.string t:=by
 intro e he
 simp only [Par.stmtE,List.mem_cons,List.not_mem_nil,or_false] at he
 rcases he with rfl | rfl | rfl | rfl | rfl <;> exact ⟨_,rfl⟩
theorem run_stmts {c:Par} {W:World} (S:RdS c W) (s:ByteArray):(Instr.lookup 105 (.map (some c.S)) (.string s) false).run Tryz.prog W=.ok (lookE s.data.toList c.stmtE) W :=
 run_look Tryz.underlying105 Tryz.underlying9 (zeroFnS W) S.sm (stmts_keys c) s
theorem fn_eqlS:∀ (f:Fn) (u v:Array Value) (w:World),(binOp .eql 140 (.func f u v) .nilFunc).run Tryz.prog w=.ok (.bool false) w:=fun f u v w=>by kernel_rfl
theorem nil_eqlS:∀ (w:World),(binOp .eql 140 .nilFunc .nilFunc).run Tryz.prog w=.ok (.bool true) w:=fun w=>by kernel_rfl
def stW (n:Nat) (s:St) (v:Value) (W:World):Prop:=stR n s.pos s v W
theorem stsAt_in {R:Nat→Prop} {w:World} {l:List St} {a:Option Addr} (h:stsAt R w l a):stsAt (fun b=>R b∧b<w.heap.size) w l a:=by
 have key:∀ (l:List St) (b off:Nat),stsIn R w l b off→stsIn (fun b=>R b∧b<w.heap.size) w l b off:=by
  intro l
  induction l using Sts.ind with
  | h0=>intro b off _;exact trivial
  | h1 k n o e bd el p r ih1 ih2 ih3 =>
    intro b off h
    obtain ⟨⟨c0,c1,c2,⟨a3,cap3,c3,h3⟩,⟨a4,cap4,c4,h4⟩,⟨a5,cap5,c5,h5⟩,c6⟩,hr⟩:=h
    refine ⟨⟨c0,c1,c2,⟨a3,cap3,c3,exsAt_in h3⟩,⟨a4,cap4,c4,?_⟩,⟨a5,cap5,c5,?_⟩,c6⟩,ih3 b _ hr⟩
    · rcases h4 with h4 | ⟨g, q, rfl, hg, hi⟩
      · exact .inl h4
      · cases bd with
        | nil=>exact .inl rfl
        | cons x xs =>
          refine .inr ⟨g,q,rfl,⟨hg,?_⟩,ih1 g q hi⟩
          obtain ⟨k',n',o',e',b',l',p'⟩:=x
          exact cell_lt hi.1.1
    · rcases h5 with h5 | ⟨g, q, rfl, hg, hi⟩
      · exact .inl h5
      · cases el with
        | nil=>exact .inl rfl
        | cons x xs =>
          refine .inr ⟨g,q,rfl,⟨hg,?_⟩,ih2 g q hi⟩
          obtain ⟨k',n',o',e',b',l',p'⟩:=x
          exact cell_lt hi.1.1
 rcases h with h | ⟨g,q,rfl,hg,hi⟩
 · exact .inl h
 · cases l with
   | nil=>exact .inl rfl
   | cons x xs =>
     refine .inr ⟨g,q,rfl,⟨hg,?_⟩,key _ g q hi⟩
     obtain ⟨k',n',o',e',b',l',p'⟩:=x
     exact cell_lt hi.1.1
theorem s_change {c:Par} {w:World} {k:Nat} (R:Rd c w k) (d:Int) (Y:PR St) (hyp:(c.nx k).kind=1)
 (HC:∀ W,Rd c W (k+1)→Calls Tryz.prog 150 #[c.ptr,tkV (c.nx k),.int .i64 d] W (RdPost c W Y (fun s v w'=>s.pos=(c.nx k).pos∧stR W.heap.size 0 s v w'))) :
 Calls Tryz.prog 130 #[c.ptr,.int .i64 d] w (RdPost c w Y (stW w.heap.size)):=by
 have hlt:=Lib.hid (nx_lt (c:=c) (k:=k) (.inl (by rw [hyp];decide)))
 have hk6:k≤65536:=by have:=R.s.small.1;have:=R.le;omega
 have HN:Hid (∀ W,Rd c W k→Calls Tryz.prog 52 #[c.ptr] W fun e w'=>e=.returned (tkV (c.nx k))∧Below W.heap.size W w'):=fun W h=>p_next h
 obtain ⟨t,ht⟩:∃ t,t=c.nx k:=⟨_,rfl⟩
 have HT:=Lib.hid ht
 rw [← ht] at HN hyp
 clear ht
 obtain ⟨tk,tx,tw,tp⟩:=t
 have HR:=Lib.hid R
 have hX:=Lib.hid R.lt
 have A0:=Lib.hid ((At.start R).alloc (.cells zSt 57))
 have O0:=Own.new w 57 zSt
 have hlook:Hid (∀ W,RdS c W→(Instr.lookup 105 (.map (some c.S)) (.string tx) false).run Tryz.prog W=.ok (lookE tx.data.toList c.stmtE) W):=fun W S=>run_stmts S _
 obtain ⟨V,hV⟩:∃ V,V=lookE tx.data.toList c.stmtE:=⟨_,rfl⟩
 rw [← hV] at hlook
 clear hV
 clear R
 have HC:=Lib.hid HC
 rw [← HT.out] at HC
 simp only at hyp
 subst hyp
 clear HT
 unfold tkV Par.ptr zSt at *
 have F1:=fn_eqlS
 go_enter Tryz.func130,Tryz.ntmps130
 go_wp2_with fail
 go_at_call 52
 refine (HN.out _ (A0.out.rd HR.out)).mono ?_
 rintro e w1 ⟨rfl,hb⟩
 have A1:=Lib.hid ((A0.out.below hb).alloc (.cells #[.int .u8 1,.string tx,.int .i64 tw,.int .i64 tp] 111))
 have O1:=Lib.hid ((O0.below hb).alloc (.cells #[.int .u8 1,.string tx,.int .i64 tw,.int .i64 tp] 111))
 have T1:=Lib.hid (Own.new w1 111 #[.int .u8 1,.string tx,.int .i64 tw,.int .i64 tp])
 have hz1:=Lib.hid (O0.below hb).lt
 clear hb O0
 go_upto_region 2 with (fail)
 have hsz:Hid ((w1.alloc (.cells #[.int .u8 1,.string tx,.int .i64 tw,.int .i64 tp] 111)).heap.size=w1.heap.size+1):=World.size_alloc _ _
 obtain ⟨W,hW⟩:∃ W,W=w1.alloc (.cells #[.int .u8 1,.string tx,.int .i64 tw,.int .i64 tp] 111):=⟨_,rfl⟩
 rw [← hW] at A1 O1 T1 hsz ⊢
 clear hW
 obtain ⟨⟨_,_,x2,_,x4,_⟩,xf⟩:=A1.out.cells
 have t1:W.cell? ⟨w1.heap.size,1,none⟩=some (.string tx):=by rw [cell_of_row W w1.heap.size 1 _ _ _ T1.out];rfl
 have t0:W.cell? ⟨w1.heap.size,0,none⟩=some (.int .u8 1):=by rw [cell_of_row W w1.heap.size 0 _ _ _ T1.out];rfl
 have hlk:=fun n=>hlook.out (W.drewN n) ((A1.out.rd HR.out).s.drewN n)
 go_quiet (fail)
 obtain ⟨W2,hW2⟩:∃ W2,W2=W.drewN nq:=⟨_,rfl⟩
 have A2:=A1.out.drewN nq
 have O2:=O1.out.drewN nq
 have T2:=T1.out.drewN nq
 have hsz:Hid (W2.heap.size=w1.heap.size+1):=by rw [hW2];exact hsz.out
 rw [← hW2] at A2 O2 T2 ⊢
 have A2:=Lib.hid A2
 have O2:=Lib.hid O2
 have T2:=Lib.hid T2
 clear hW2 x2 x4 xf t1 t0 hlk A1 O1 T1
 obtain ⟨⟨_,_,x2,_⟩,xf⟩:=A2.out.cells
 have t0:W2.cell? ⟨w1.heap.size,0,none⟩=some (.int .u8 1):=by rw [cell_of_row W2 w1.heap.size 0 _ _ _ T2.out];rfl
 have A3:=Lib.hid (A2.out.step hlt.out)
 have hn1:c.X≠w1.heap.size:=by have:=hX.out;have:=hz1.out;omega
 have hn2:c.X≠w.heap.size:=by have:=hX.out;omega
 have T3:=T2.out.setX 2 (.int .i64 ((k:Int)+1)) hn1
 have O3:=Lib.hid (O2.out.setX 2 (.int .i64 ((k:Int)+1)) hn2)
 have hn1:=Lib.hid hn1
 have hn2:=Lib.hid hn2
 go_wp2_with (first | (refine ld rowTok rfl rfl rfl T3 rfl ?_))
 go_at_call 150
 refine (HC.out _ (A3.out.rd HR.out)).mono ?_
 rintro e w3 ⟨hf3,hm⟩
 rcases Y with ⟨s0,r0⟩ | ⟨p,q⟩
 rotate_left
 · obtain rfl := hm
   have A4:=Lib.hid (A3.out.fr.trans hf3)
   clear hf3
   go_wp2_with fail
   exact ⟨rfl,A4.out,rfl⟩
 obtain ⟨v,k2,rfl,⟨hpos,a3,c3,a4,c4,a5,c5,rfl,hV3,hV4,hV5⟩,hR2,rfl⟩:=hm
 change s0.pos=tp at hpos
 obtain ⟨CS,hCS⟩:∃ CS:Array Value,CS=#[.int .u8 s0.kind,.string s0.name,.string s0.other,.slice a3 s0.e.length c3,.slice a4 s0.body.length c4,.slice a5 s0.els.length c5,.int .i64 0]:=⟨_,rfl⟩
 have A4:=Lib.hid ((A3.out.call hf3 hR2).alloc (.cells CS 57))
 have O4:=(O3.out.fr hf3 hn2.out).alloc (.cells CS 57)
 have T4:=(T3.fr hf3 hn1.out).alloc (.cells CS 57)
 have N4:=Own.new w3 57 CS
 have hz3:w1.heap.size<w3.heap.size:=by have h1:=Keep.size hf3;have:=hsz.out;rw [World.size_setCell] at h1;omega
 have hb3:∀ b,(W2.setCell ⟨c.X,2,none⟩ (.int .i64 ((k:Int)+1))).heap.size≤b→w.heap.size+1≤b:=fun b hb=>by have:=hz1.out;have:=hsz.out;rw [World.size_setCell] at hb;omega
 have V3:=Lib.hid (exsAt_stays (stays_alloc _ w3 (.cells CS 57)) (fun b hb=>hb) (exsAt_in hV3))
 have V4:=Lib.hid (stsAt_stays (stays_alloc _ w3 (.cells CS 57)) (fun b hb=>hb) (stsAt_in hV4))
 have V5:=Lib.hid (stsAt_stays (stays_alloc _ w3 (.cells CS 57)) (fun b hb=>hb) (stsAt_in hV5))
 have V3:=Lib.hid (exsAt_mono (R':=fun b=>w.heap.size+1≤b∧b≠w3.heap.size) V3.out (fun b hb=>⟨hb3 b hb.1,by have:=hb.2;omega⟩))
 have V4:=Lib.hid (stsAt_mono (R':=fun b=>w.heap.size+1≤b∧b≠w3.heap.size) V4.out (fun b hb=>⟨hb3 b hb.1,by have:=hb.2;omega⟩))
 have V5:=Lib.hid (stsAt_mono (R':=fun b=>w.heap.size+1≤b∧b≠w3.heap.size) V5.out (fun b hb=>⟨hb3 b hb.1,by have:=hb.2;omega⟩))
 obtain ⟨W5,hW5⟩:∃ W5,W5=(w3.alloc (.cells CS 57)).setRow w3.heap.size #[.int .u8 s0.kind,.string s0.name,.string s0.other,.slice a3 s0.e.length c3,.slice a4 s0.body.length c4,.slice a5 s0.els.length c5,.int .i64 tp]:=⟨_,rfl⟩
 have hn3:c.X≠w3.heap.size:=by have:=hX.out;have:=hz1.out;omega
 have hwz:w.heap.size≤w3.heap.size:=by have:=hz1.out;omega
 have hw0:w.heap.size≠w3.heap.size:=by have:=hz1.out;omega
 have A5:=Lib.hid (A4.out.setRow hwz hn3 #[.int .u8 s0.kind,.string s0.name,.string s0.other,.slice a3 s0.e.length c3,.slice a4 s0.body.length c4,.slice a5 s0.els.length c5,.int .i64 tp])
 have O5:=O4.other (g:=w3.heap.size) #[.int .u8 s0.kind,.string s0.name,.string s0.other,.slice a3 s0.e.length c3,.slice a4 s0.body.length c4,.slice a5 s0.els.length c5,.int .i64 tp] hw0
 have N5:=N4.row #[.int .u8 s0.kind,.string s0.name,.string s0.other,.slice a3 s0.e.length c3,.slice a4 s0.body.length c4,.slice a5 s0.els.length c5,.int .i64 tp]
 have U3:=Lib.hid (exsAt_stays (stays_row (w3.alloc (.cells CS 57)) (g:=w3.heap.size) #[.int .u8 s0.kind,.string s0.name,.string s0.other,.slice a3 s0.e.length c3,.slice a4 s0.body.length c4,.slice a5 s0.els.length c5,.int .i64 tp] (fun b hb=>hb.2)) (fun b hb=>hb.1) V3.out)
 have U4:=Lib.hid (stsAt_stays (stays_row (w3.alloc (.cells CS 57)) (g:=w3.heap.size) #[.int .u8 s0.kind,.string s0.name,.string s0.other,.slice a3 s0.e.length c3,.slice a4 s0.body.length c4,.slice a5 s0.els.length c5,.int .i64 tp] (fun b hb=>hb.2)) (fun b hb=>hb.1) V4.out)
 have U5:=Lib.hid (stsAt_stays (stays_row (w3.alloc (.cells CS 57)) (g:=w3.heap.size) #[.int .u8 s0.kind,.string s0.name,.string s0.other,.slice a3 s0.e.length c3,.slice a4 s0.body.length c4,.slice a5 s0.els.length c5,.int .i64 tp] (fun b hb=>hb.2)) (fun b hb=>hb.1) V5.out)
 have E5:(w3.alloc (.cells CS 57)).setCell ⟨w3.heap.size,6,none⟩ (.int .i64 tp)=W5:=by
  rw [hW5,setCell_row N4 6 _,hCS];rfl
 rw [← hW5] at A5 O5 N5 U3 U4 U5
 have t3:(w3.alloc (.cells CS 57)).cell? ⟨w1.heap.size,3,none⟩=some (.int .i64 tp):=by rw [cell_of_row _ w1.heap.size 3 _ _ _ T4];rfl
 subst hCS
 have HP:=Lib.hid hpos
 clear hf3 hR2 hV3 hV4 hV5 hb3 A4 O4 T4 N4 hW5 x2 xf t0 T3 hpos
 go_wp2_with (first | (refine ld rowSt rfl rfl rfl N5 rfl ?_) | (refine st rowSt rfl rfl O5 rfl rfl (by rfl) (by rfl) (by kernel_rfl) ?_))
 have A6:=A5.out.setRow (Nat.le_refl _) hn2.out #[.int .u8 s0.kind,.string s0.name,.string s0.other,.slice a3 s0.e.length c3,.slice a4 s0.body.length c4,.slice a5 s0.els.length c5,.int .i64 tp]
 have hb0:∀ b,w.heap.size+1≤b→b≠w.heap.size:=fun b h=>by omega
 have hb1:∀ b,w.heap.size+1≤b→w.heap.size≤b:=fun b h=>by omega
 refine p_ret rowSt rfl (O5.row #[.int .u8 s0.kind,.string s0.name,.string s0.other,.slice a3 s0.e.length c3,.slice a4 s0.body.length c4,.slice a5 s0.els.length c5,.int .i64 tp]) rfl rfl rfl ?_
 refine ⟨A6.fr,_,k2,rfl,⟨a3,c3,a4,c4,a5,c5,by rw [HP.out],?_,?_,?_⟩,A6.rd HR.out,rfl⟩
 · exact exsAt_stays (stays_row W5 _ hb0) hb1 U3.out
 · exact stsAt_stays (stays_row W5 _ hb0) hb1 U4.out
 · exact stsAt_stays (stays_row W5 _ hb0) hb1 U5.out
theorem s_word {c:Par} {w:World} {k:Nat} (R:Rd c w k) {F:Nat} {word:List UInt8} (hF:(F=93∧word=[112,114,105,110,116])∨(F=91∧word=[119,104,105,108,101])∨(F=94∧word=[115,107,105,112])∨(F=92∧word=[108,111,99,107])∨(F=90∧word=[105,102])) (d:Int) (Y:PR St) (hyp:¬ (c.nx k).kind=1∧(c.nx k).tx=word)
 (HC:∀ W,Rd c W (k+1)→Calls Tryz.prog F #[c.ptr,tkV (c.nx k),.int .i64 d] W (RdPost c W Y (fun s v w'=>s.pos=(c.nx k).pos∧stR W.heap.size 0 s v w'))) :
 Calls Tryz.prog 130 #[c.ptr,.int .i64 d] w (RdPost c w Y (stW w.heap.size)):=by
 have hlookF:∀ (tx:ByteArray) W,tx.data.toList=word→RdS c W→(Instr.lookup 105 (.map (some c.S)) (.string tx) false).run Tryz.prog W=.ok (.func (.func F) #[.pointer (some ⟨c.X,0,none⟩)] #[]) W:=fun tx W e S=>by
  rcases hF with ⟨rfl,rfl⟩ | ⟨rfl,rfl⟩ | ⟨rfl,rfl⟩ | ⟨rfl,rfl⟩ | ⟨rfl,rfl⟩ <;> (rw [run_stmts S];rw [e];rfl)
 rcases hF with ⟨rfl,rfl⟩ | ⟨rfl,rfl⟩ | ⟨rfl,rfl⟩ | ⟨rfl,rfl⟩ | ⟨rfl,rfl⟩
 all_goals
  have hlt:=Lib.hid (nx_lt (c:=c) (k:=k) (.inr (by rw [hyp.2];decide)))
  have hk6:k≤65536:=by have:=R.s.small.1;have:=R.le;omega
  have HN:Hid (∀ W,Rd c W k→Calls Tryz.prog 52 #[c.ptr] W fun e w'=>e=.returned (tkV (c.nx k))∧Below W.heap.size W w'):=fun W h=>p_next h
  obtain ⟨t,ht⟩:∃ t,t=c.nx k:=⟨_,rfl⟩
  have HT:=Lib.hid ht
  rw [← ht] at HN hyp
  clear ht
  obtain ⟨tk,tx,tw,tp⟩:=t
  have HR:=Lib.hid R
  have hX:=Lib.hid R.lt
  have A0:=Lib.hid ((At.start R).alloc (.cells zSt 57))
  have O0:=Own.new w 57 zSt
  have hlook:=Lib.hid (fun W (S:RdS c W)=>hlookF tx W hyp.2 S)
  clear hlookF
  clear R
  have HC:=Lib.hid HC
  rw [← HT.out] at HC
  have q1:(tk==1)=false:=by simpa using hyp.1
  clear hyp HT
  unfold tkV Par.ptr zSt at *
  have F1:=fn_eqlS
  go_enter Tryz.func130,Tryz.ntmps130
  go_wp2_with fail
  go_at_call 52
  refine (HN.out _ (A0.out.rd HR.out)).mono ?_
  rintro e w1 ⟨rfl,hb⟩
  have A1:=Lib.hid ((A0.out.below hb).alloc (.cells #[.int .u8 tk,.string tx,.int .i64 tw,.int .i64 tp] 111))
  have O1:=Lib.hid ((O0.below hb).alloc (.cells #[.int .u8 tk,.string tx,.int .i64 tw,.int .i64 tp] 111))
  have T1:=Lib.hid (Own.new w1 111 #[.int .u8 tk,.string tx,.int .i64 tw,.int .i64 tp])
  have hz1:=Lib.hid (O0.below hb).lt
  clear hb O0
  go_upto_region 2 with (fail)
  have hsz:Hid ((w1.alloc (.cells #[.int .u8 tk,.string tx,.int .i64 tw,.int .i64 tp] 111)).heap.size=w1.heap.size+1):=World.size_alloc _ _
  obtain ⟨W,hW⟩:∃ W,W=w1.alloc (.cells #[.int .u8 tk,.string tx,.int .i64 tw,.int .i64 tp] 111):=⟨_,rfl⟩
  rw [← hW] at A1 O1 T1 hsz ⊢
  clear hW
  obtain ⟨⟨_,_,x2,_,x4,_⟩,xf⟩:=A1.out.cells
  have t1:W.cell? ⟨w1.heap.size,1,none⟩=some (.string tx):=by rw [cell_of_row W w1.heap.size 1 _ _ _ T1.out];rfl
  have t0:W.cell? ⟨w1.heap.size,0,none⟩=some (.int .u8 tk):=by rw [cell_of_row W w1.heap.size 0 _ _ _ T1.out];rfl
  have hlk:=fun n=>hlook.out (W.drewN n) ((A1.out.rd HR.out).s.drewN n)
  go_quiet (fail)
  obtain ⟨W2,hW2⟩:∃ W2,W2=W.drewN nq:=⟨_,rfl⟩
  have A2:=A1.out.drewN nq
  have O2:=O1.out.drewN nq
  have T2:=T1.out.drewN nq
  have hsz:Hid (W2.heap.size=w1.heap.size+1):=by rw [hW2];exact hsz.out
  rw [← hW2] at A2 O2 T2 ⊢
  have A2:=Lib.hid A2
  have O2:=Lib.hid O2
  have T2:=Lib.hid T2
  clear hW2 x2 x4 xf t1 t0 hlk A1 O1 T1
  obtain ⟨⟨_,_,x2,_⟩,xf⟩:=A2.out.cells
  have t0:W2.cell? ⟨w1.heap.size,0,none⟩=some (.int .u8 tk):=by rw [cell_of_row W2 w1.heap.size 0 _ _ _ T2.out];rfl
  have A3:=Lib.hid (A2.out.step hlt.out)
  have hn1:c.X≠w1.heap.size:=by have:=hX.out;have:=hz1.out;omega
  have hn2:c.X≠w.heap.size:=by have:=hX.out;omega
  have T3:=T2.out.setX 2 (.int .i64 ((k:Int)+1)) hn1
  have O3:=Lib.hid (O2.out.setX 2 (.int .i64 ((k:Int)+1)) hn2)
  have hn1:=Lib.hid hn1
  have hn2:=Lib.hid hn2
  go_wp2_with (first | (refine ld rowTok rfl rfl rfl T3 rfl ?_))
  first | go_at_call 93 | go_at_call 91 | go_at_call 94 | go_at_call 92 | go_at_call 90
  refine (HC.out _ (A3.out.rd HR.out)).mono ?_
  rintro e w3 ⟨hf3,hm⟩
  rcases Y with ⟨s0,r0⟩ | ⟨p,q⟩
  rotate_left
  · obtain rfl := hm
    have A4:=Lib.hid (A3.out.fr.trans hf3)
    clear hf3
    go_wp2_with fail
    exact ⟨rfl,A4.out,rfl⟩
  obtain ⟨v,k2,rfl,⟨hpos,a3,c3,a4,c4,a5,c5,rfl,hV3,hV4,hV5⟩,hR2,rfl⟩:=hm
  change s0.pos=tp at hpos
  obtain ⟨CS,hCS⟩:∃ CS:Array Value,CS=#[.int .u8 s0.kind,.string s0.name,.string s0.other,.slice a3 s0.e.length c3,.slice a4 s0.body.length c4,.slice a5 s0.els.length c5,.int .i64 0]:=⟨_,rfl⟩
  have A4:=Lib.hid ((A3.out.call hf3 hR2).alloc (.cells CS 57))
  have O4:=(O3.out.fr hf3 hn2.out).alloc (.cells CS 57)
  have T4:=(T3.fr hf3 hn1.out).alloc (.cells CS 57)
  have N4:=Own.new w3 57 CS
  have hz3:w1.heap.size<w3.heap.size:=by have h1:=Keep.size hf3;have:=hsz.out;rw [World.size_setCell] at h1;omega
  have hb3:∀ b,(W2.setCell ⟨c.X,2,none⟩ (.int .i64 ((k:Int)+1))).heap.size≤b→w.heap.size+1≤b:=fun b hb=>by have:=hz1.out;have:=hsz.out;rw [World.size_setCell] at hb;omega
  have V3:=Lib.hid (exsAt_stays (stays_alloc _ w3 (.cells CS 57)) (fun b hb=>hb) (exsAt_in hV3))
  have V4:=Lib.hid (stsAt_stays (stays_alloc _ w3 (.cells CS 57)) (fun b hb=>hb) (stsAt_in hV4))
  have V5:=Lib.hid (stsAt_stays (stays_alloc _ w3 (.cells CS 57)) (fun b hb=>hb) (stsAt_in hV5))
  have V3:=Lib.hid (exsAt_mono (R':=fun b=>w.heap.size+1≤b∧b≠w3.heap.size) V3.out (fun b hb=>⟨hb3 b hb.1,by have:=hb.2;omega⟩))
  have V4:=Lib.hid (stsAt_mono (R':=fun b=>w.heap.size+1≤b∧b≠w3.heap.size) V4.out (fun b hb=>⟨hb3 b hb.1,by have:=hb.2;omega⟩))
  have V5:=Lib.hid (stsAt_mono (R':=fun b=>w.heap.size+1≤b∧b≠w3.heap.size) V5.out (fun b hb=>⟨hb3 b hb.1,by have:=hb.2;omega⟩))
  obtain ⟨W5,hW5⟩:∃ W5,W5=(w3.alloc (.cells CS 57)).setRow w3.heap.size #[.int .u8 s0.kind,.string s0.name,.string s0.other,.slice a3 s0.e.length c3,.slice a4 s0.body.length c4,.slice a5 s0.els.length c5,.int .i64 tp]:=⟨_,rfl⟩
  have hn3:c.X≠w3.heap.size:=by have:=hX.out;have:=hz1.out;omega
  have hwz:w.heap.size≤w3.heap.size:=by have:=hz1.out;omega
  have hw0:w.heap.size≠w3.heap.size:=by have:=hz1.out;omega
  have A5:=Lib.hid (A4.out.setRow hwz hn3 #[.int .u8 s0.kind,.string s0.name,.string s0.other,.slice a3 s0.e.length c3,.slice a4 s0.body.length c4,.slice a5 s0.els.length c5,.int .i64 tp])
  have O5:=O4.other (g:=w3.heap.size) #[.int .u8 s0.kind,.string s0.name,.string s0.other,.slice a3 s0.e.length c3,.slice a4 s0.body.length c4,.slice a5 s0.els.length c5,.int .i64 tp] hw0
  have N5:=N4.row #[.int .u8 s0.kind,.string s0.name,.string s0.other,.slice a3 s0.e.length c3,.slice a4 s0.body.length c4,.slice a5 s0.els.length c5,.int .i64 tp]
  have U3:=Lib.hid (exsAt_stays (stays_row (w3.alloc (.cells CS 57)) (g:=w3.heap.size) #[.int .u8 s0.kind,.string s0.name,.string s0.other,.slice a3 s0.e.length c3,.slice a4 s0.body.length c4,.slice a5 s0.els.length c5,.int .i64 tp] (fun b hb=>hb.2)) (fun b hb=>hb.1) V3.out)
  have U4:=Lib.hid (stsAt_stays (stays_row (w3.alloc (.cells CS 57)) (g:=w3.heap.size) #[.int .u8 s0.kind,.string s0.name,.string s0.other,.slice a3 s0.e.length c3,.slice a4 s0.body.length c4,.slice a5 s0.els.length c5,.int .i64 tp] (fun b hb=>hb.2)) (fun b hb=>hb.1) V4.out)
  have U5:=Lib.hid (stsAt_stays (stays_row (w3.alloc (.cells CS 57)) (g:=w3.heap.size) #[.int .u8 s0.kind,.string s0.name,.string s0.other,.slice a3 s0.e.length c3,.slice a4 s0.body.length c4,.slice a5 s0.els.length c5,.int .i64 tp] (fun b hb=>hb.2)) (fun b hb=>hb.1) V5.out)
  have E5:(w3.alloc (.cells CS 57)).setCell ⟨w3.heap.size,6,none⟩ (.int .i64 tp)=W5:=by
   rw [hW5,setCell_row N4 6 _,hCS];rfl
  rw [← hW5] at A5 O5 N5 U3 U4 U5
  have t3:(w3.alloc (.cells CS 57)).cell? ⟨w1.heap.size,3,none⟩=some (.int .i64 tp):=by rw [cell_of_row _ w1.heap.size 3 _ _ _ T4];rfl
  subst hCS
  have HP:=Lib.hid hpos
  clear hf3 hR2 hV3 hV4 hV5 hb3 A4 O4 T4 N4 hW5 x2 xf t0 T3 hpos
  go_wp2_with (first | (refine ld rowSt rfl rfl rfl N5 rfl ?_) | (refine st rowSt rfl rfl O5 rfl rfl (by rfl) (by rfl) (by kernel_rfl) ?_))
  have A6:=A5.out.setRow (Nat.le_refl _) hn2.out #[.int .u8 s0.kind,.string s0.name,.string s0.other,.slice a3 s0.e.length c3,.slice a4 s0.body.length c4,.slice a5 s0.els.length c5,.int .i64 tp]
  have hb0:∀ b,w.heap.size+1≤b→b≠w.heap.size:=fun b h=>by omega
  have hb1:∀ b,w.heap.size+1≤b→w.heap.size≤b:=fun b h=>by omega
  refine p_ret rowSt rfl (O5.row #[.int .u8 s0.kind,.string s0.name,.string s0.other,.slice a3 s0.e.length c3,.slice a4 s0.body.length c4,.slice a5 s0.els.length c5,.int .i64 tp]) rfl rfl rfl ?_
  refine ⟨A6.fr,_,k2,rfl,⟨a3,c3,a4,c4,a5,c5,by rw [HP.out],?_,?_,?_⟩,A6.rd HR.out,rfl⟩
  · exact exsAt_stays (stays_row W5 _ hb0) hb1 U3.out
  · exact stsAt_stays (stays_row W5 _ hb0) hb1 U4.out
  · exact stsAt_stays (stays_row W5 _ hb0) hb1 U5.out
theorem s_print {c:Par} {w:World} {k:Nat} (R:Rd c w k) (d:Int) (Y:PR St) (hyp:¬ (c.nx k).kind=1∧(c.nx k).tx=[112,114,105,110,116])
 (HC:∀ W,Rd c W (k+1)→Calls Tryz.prog 93 #[c.ptr,tkV (c.nx k),.int .i64 d] W (RdPost c W Y (fun s v w'=>s.pos=(c.nx k).pos∧stR W.heap.size 0 s v w'))) :
 Calls Tryz.prog 130 #[c.ptr,.int .i64 d] w (RdPost c w Y (stW w.heap.size)) :=
 s_word R (.inl ⟨rfl,rfl⟩) d Y hyp HC
theorem s_loop {c:Par} {w:World} {k:Nat} (R:Rd c w k) (d:Int) (Y:PR St) (hyp:¬ (c.nx k).kind=1∧(c.nx k).tx=[119,104,105,108,101])
 (HC:∀ W,Rd c W (k+1)→Calls Tryz.prog 91 #[c.ptr,tkV (c.nx k),.int .i64 d] W (RdPost c W Y (fun s v w'=>s.pos=(c.nx k).pos∧stR W.heap.size 0 s v w'))) :
 Calls Tryz.prog 130 #[c.ptr,.int .i64 d] w (RdPost c w Y (stW w.heap.size)) :=
 s_word R (.inr (.inl ⟨rfl,rfl⟩)) d Y hyp HC
theorem s_skip {c:Par} {w:World} {k:Nat} (R:Rd c w k) (d:Int) (Y:PR St) (hyp:¬ (c.nx k).kind=1∧(c.nx k).tx=[115,107,105,112])
 (HC:∀ W,Rd c W (k+1)→Calls Tryz.prog 94 #[c.ptr,tkV (c.nx k),.int .i64 d] W (RdPost c W Y (fun s v w'=>s.pos=(c.nx k).pos∧stR W.heap.size 0 s v w'))) :
 Calls Tryz.prog 130 #[c.ptr,.int .i64 d] w (RdPost c w Y (stW w.heap.size)) :=
 s_word R (.inr (.inr (.inl ⟨rfl,rfl⟩))) d Y hyp HC
theorem s_guard {c:Par} {w:World} {k:Nat} (R:Rd c w k) (d:Int) (Y:PR St) (hyp:¬ (c.nx k).kind=1∧(c.nx k).tx=[108,111,99,107])
 (HC:∀ W,Rd c W (k+1)→Calls Tryz.prog 92 #[c.ptr,tkV (c.nx k),.int .i64 d] W (RdPost c W Y (fun s v w'=>s.pos=(c.nx k).pos∧stR W.heap.size 0 s v w'))) :
 Calls Tryz.prog 130 #[c.ptr,.int .i64 d] w (RdPost c w Y (stW w.heap.size)) :=
 s_word R (.inr (.inr (.inr (.inl ⟨rfl,rfl⟩)))) d Y hyp HC
theorem s_choice {c:Par} {w:World} {k:Nat} (R:Rd c w k) (d:Int) (Y:PR St) (hyp:¬ (c.nx k).kind=1∧(c.nx k).tx=[105,102])
 (HC:∀ W,Rd c W (k+1)→Calls Tryz.prog 90 #[c.ptr,tkV (c.nx k),.int .i64 d] W (RdPost c W Y (fun s v w'=>s.pos=(c.nx k).pos∧stR W.heap.size 0 s v w'))) :
 Calls Tryz.prog 130 #[c.ptr,.int .i64 d] w (RdPost c w Y (stW w.heap.size)) :=
 s_word R (.inr (.inr (.inr (.inr (⟨rfl,rfl⟩))))) d Y hyp HC
end Go.Proofs.YtggbkldniffbfaaGreatDoor

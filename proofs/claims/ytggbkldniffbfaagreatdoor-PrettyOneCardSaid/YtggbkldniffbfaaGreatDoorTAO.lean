/- The proof, part 15: texts that belong together, in one. -/
import Derived.Test.YtggbkldniffbfaaGreatDoorTAN
import Derived.Deep.AppendLies
set_option maxRecDepth 100000
set_option maxHeartbeats 20000000
namespace Go.Proofs.YtggbkldniffbfaaGreatDoor
open Go.RowKit
set_option linter.unusedVariables false
theorem s_none {c:Par} {w:World} {k:Nat} (R:Rd c w k) (d:Int) (hyp:¬ (c.nx k).kind=1∧¬ (c.nx k).tx=[105,102]∧¬ (c.nx k).tx=[119,104,105,108,101]∧¬ (c.nx k).tx=[108,111,99,107]∧¬ (c.nx k).tx=[112,114,105,110,116]∧¬ (c.nx k).tx=[115,107,105,112]) :
 Calls Tryz.prog 130 #[c.ptr,.int .i64 d] w fun e w'=>e=.panicked (flt (hdP c.L (c.at k)) 2)∧Fr c w w':=by
 have hp:=c.nx_pos k
 rw [← hp]
 clear hp
 have hk6:k≤65536:=by have:=R.s.small.1;have:=R.le;omega
 have HN:Hid (∀ W,Rd c W k→Calls Tryz.prog 52 #[c.ptr] W fun e w'=>e=.returned (tkV (c.nx k))∧Below W.heap.size W w'):=fun W h=>p_next h
 obtain ⟨t,ht⟩:∃ t,t=c.nx k:=⟨_,rfl⟩
 have HT:=Lib.hid ht
 rw [← ht] at HN hyp
 clear ht
 obtain ⟨tk,tx,tw,tp⟩:=t
 have HR:=Lib.hid R
 have hX:=Lib.hid R.lt
 have A0:=Lib.hid ((At.start R).alloc (.cells zSt 57))
 have O0:=Own.new w 57 zSt
 have hlook:Hid (∀ W,RdS c W→(Instr.lookup 105 (.map (some c.S)) (.string tx) false).run Tryz.prog W=.ok (.nilFunc) W):=fun W S=>by
  rw [run_stmts S]
  have e:lookE tx.data.toList c.stmtE=.nilFunc:=by
   obtain ⟨_,h1,h2,h3,h4,h5⟩:=hyp
   have h1':¬ tx.data.toList=[105,102]:=h1
   have h2':¬ tx.data.toList=[119,104,105,108,101]:=h2
   have h3':¬ tx.data.toList=[108,111,99,107]:=h3
   have h4':¬ tx.data.toList=[112,114,105,110,116]:=h4
   have h5':¬ tx.data.toList=[115,107,105,112]:=h5
   simp only [lookE,Par.stmtE]
   rw [if_neg h1',if_neg h2',if_neg h3',if_neg h4',if_neg h5']
  rw [e]
 clear R
 rw [← HT.out]
 have q1:(tk==1)=false:=by simpa using hyp.1
 have HQ:=Lib.hid (fun w=>p_refuse ⟨tk,tx,tw,tp⟩ 2 w)
 have F2:=nil_eqlS
 clear hyp HT
 unfold tkV Par.ptr zSt at *
 have F1:=fn_eqlS
 go_enter Tryz.func130,Tryz.ntmps130
 go_wp2_with fail
 go_at_call 52
 refine (HN.out _ (A0.out.rd HR.out)).mono ?_
 rintro e w1 ⟨rfl,hb⟩
 have A1:=Lib.hid ((A0.out.below hb).alloc (.cells #[.int .u8 tk,.string tx,.int .i64 tw,.int .i64 tp] 111))
 have O1:=Lib.hid ((O0.below hb).alloc (.cells #[.int .u8 tk,.string tx,.int .i64 tw,.int .i64 tp] 111))
 have T1:=Lib.hid (Own.new w1 111 #[.int .u8 tk,.string tx,.int .i64 tw,.int .i64 tp])
 have hz1:=Lib.hid (O0.below hb).lt
 clear hb O0
 go_upto_region 2 with (fail)
 obtain ⟨W,hW⟩:∃ W,W=w1.alloc (.cells #[.int .u8 tk,.string tx,.int .i64 tw,.int .i64 tp] 111):=⟨_,rfl⟩
 rw [← hW] at A1 O1 T1 ⊢
 clear hW
 obtain ⟨⟨_,_,x2,_,x4,_⟩,xf⟩:=A1.out.cells
 have t1:W.cell? ⟨w1.heap.size,1,none⟩=some (.string tx):=by rw [cell_of_row W w1.heap.size 1 _ _ _ T1.out];rfl
 have t0:W.cell? ⟨w1.heap.size,0,none⟩=some (.int .u8 tk):=by rw [cell_of_row W w1.heap.size 0 _ _ _ T1.out];rfl
 have hlk:=fun n=>hlook.out (W.drewN n) ((A1.out.rd HR.out).s.drewN n)
 go_quiet (fail)
 obtain ⟨W2,hW2⟩:∃ W2,W2=W.drewN nq:=⟨_,rfl⟩
 have A2:=A1.out.drewN nq
 have O2:=O1.out.drewN nq
 have T2:=T1.out.drewN nq
 rw [← hW2] at A2 O2 T2 ⊢
 have A2:=Lib.hid A2
 have O2:=Lib.hid O2
 have T2:=Lib.hid T2
 clear hW2 x2 x4 xf t1 t0 hlk A1 O1 T1
 have t0:W2.cell? ⟨w1.heap.size,0,none⟩=some (.int .u8 tk):=by rw [cell_of_row W2 w1.heap.size 0 _ _ _ T2.out];rfl
 have T3:=T2.out
 go_wp2_with (first | (refine ld rowTok rfl rfl rfl T3 rfl ?_) | (go_at_call 97;refine (HQ.out _).mono ?_;rintro e w3 ⟨rfl,hb⟩;have HC:=Lib.hid hb;clear hb))
 exact ⟨rfl,rfl,A2.out.fr.trans (.of_below HC.out)⟩
theorem PR.then_assoc {α β γ:Type} (x:PR α) (f:α→List Tk→PR β) (g:β→List Tk→PR γ):(x.then f).then g=x.then fun a r=>(f a r).then g:=by cases x <;> rfl
theorem stsV_in {R:Nat→Prop} {w:World} : ∀ {l:List St} {xs:List Value},stsV R w l xs→stsV (fun b=>R b∧b<w.heap.size) w l xs
 | [],xs,h=>h
 | x::r,xs,⟨us,ys,h1,⟨a3,c3,a4,c4,a5,c5,h2,h3,h4,h5⟩,h6⟩=>⟨us,ys,h1,⟨a3,c3,a4,c4,a5,c5,h2,exsAt_in h3,stsAt_in h4,stsAt_in h5⟩,stsV_in h6⟩
theorem infoSt:(Tryz.prog.info? 57).map (fun i=>(i.zero,i.size,i.bytes))=some (some (.agg zSt),7,120):=by kernel_rfl
def StmtC (n:Nat):Prop:=∀ (c:Par) (w:World) (k:Nat) (d:Int),Rd c w k→0≤d→d≤64→3*(c.at k).length+1≤n →
 Calls Tryz.prog 130 #[c.ptr,.int .i64 d] w (RdPost c w (stmtP fnd c.L n d (c.at k)) (stW w.heap.size))
theorem stmtP_step {c:Par} {k m:Nat} {d:Int} (h:k<c.toks.length):stmtP fnd c.L (m+1) d (c.at k) =
 if (c.nx k).kind=1 then changeP fnd c.L m (c.nx k) (c.at (k+1))
 else if (c.nx k).tx=[105,102] then (parenP fnd c.L m (c.at (k+1))).then fun e r=>(blkP c.L m (d+1) r).then fun b r=>if isT [101,108,115,101] r=true then (blkP c.L m (d+1) r.tail).then fun l r=>.ok (St.mk 3 ⟨#[]⟩ ⟨#[]⟩ [e] b l (c.nx k).pos) r else .ok (St.mk 3 ⟨#[]⟩ ⟨#[]⟩ [e] b [] (c.nx k).pos) r
 else if (c.nx k).tx=[119,104,105,108,101] then (parenP fnd c.L m (c.at (k+1))).then fun e r=>(blkP c.L m (d+1) r).then fun b r=>.ok (St.mk 4 ⟨#[]⟩ ⟨#[]⟩ [e] b [] (c.nx k).pos) r
 else if (c.nx k).tx=[108,111,99,107] then (nameP c.L (c.at (k+1))).then fun o r=>(blkP c.L m (d+1) r).then fun b r=>.ok (St.mk 5 o.name ⟨#[]⟩ [] b [] (c.nx k).pos) r
 else if (c.nx k).tx=[112,114,105,110,116] then (binE fnd c.L m 1 0 (c.at (k+1))).then fun e r=>(need c.L [59] r).then fun _ r=>.ok (St.mk 6 ⟨#[]⟩ ⟨#[]⟩ [e] [] [] (c.nx k).pos) r
 else if (c.nx k).tx=[115,107,105,112] then (need c.L [59] (c.at (k+1))).then fun _ r=>.ok (St.mk 7 ⟨#[]⟩ ⟨#[]⟩ [] [] [] (c.nx k).pos) r
 else .bad (c.nx k).pos 2:=by
 rw [at_nx h]
 simp only [stmtP,blkP,PR.then_assoc]
theorem stmt_step {m:Nat} (HB:BlkC m):StmtC (m+1):=by
 intro c w k d R hd0 hd1 hm
 by_cases hk:k<c.toks.length
 · have hl := at_step hk
   have hm':3*(c.at (k+1)).length+3≤m:=by omega
   rw [stmtP_step hk]
   by_cases h1:(c.nx k).kind=1
   · rw [if_pos h1]
     exact s_change R d _ h1 fun W RW=>m_change RW (c.nx k) d hd0 hd1 hm'
   rw [if_neg h1]
   by_cases h2:(c.nx k).tx=[105,102]
   · rw [if_pos h2]
     exact s_choice R d _ ⟨h1,h2⟩ fun W RW=>m_choice HB RW (c.nx k) d hd0 hd1 hm'
   rw [if_neg h2]
   by_cases h3:(c.nx k).tx=[119,104,105,108,101]
   · rw [if_pos h3]
     exact s_loop R d _ ⟨h1,h3⟩ fun W RW=>m_loop HB RW (c.nx k) d hd0 hd1 hm'
   rw [if_neg h3]
   by_cases h4:(c.nx k).tx=[108,111,99,107]
   · rw [if_pos h4]
     exact s_guard R d _ ⟨h1,h4⟩ fun W RW=>m_guard HB RW (c.nx k) d hd0 hd1 hm'
   rw [if_neg h4]
   by_cases h5:(c.nx k).tx=[112,114,105,110,116]
   · rw [if_pos h5]
     exact s_print R d _ ⟨h1,h5⟩ fun W RW=>m_print RW (c.nx k) d hd0 hd1 hm'
   rw [if_neg h5]
   by_cases h6:(c.nx k).tx=[115,107,105,112]
   · rw [if_pos h6]
     exact s_skip R d _ ⟨h1,h6⟩ fun W RW=>m_skip (m:=m) RW (c.nx k) d
   rw [if_neg h6]
   refine (s_none R d ⟨h1,h2,h3,h4,h5,h6⟩).mono fun e w' ⟨he,hf⟩=>⟨hf,?_⟩
   rw [he,← c.nx_pos k]
 · have e := Par.at_end (c := c) (k := k) (by omega)
   have hn:c.nx k=⟨0,⟨#[]⟩,0,c.L⟩:=by unfold Par.nx;rw [e]
   rw [e]
   refine (s_none R d (by rw [hn];exact ⟨(by show ¬ (0:Int)=1;decide),(by show ¬ ([]:Bs)=_;decide),(by show ¬ ([]:Bs)=_;decide),(by show ¬ ([]:Bs)=_;decide),(by show ¬ ([]:Bs)=_;decide),(by show ¬ ([]:Bs)=_;decide)⟩)).mono fun e' w' ⟨he,hf⟩=>⟨hf,?_⟩
   rw [he,e]
   rfl
def RestI (c:Par) (w:World) (d:Int) (Y:PR (List St)) (m:Nat) (v:Value) (W:World):Prop :=
 ∃ (j:Nat) (l:List St) (xs:List Value),At c w W j∧W.ownsRow w.heap.size 57 7 v l.length xs∧stsV (fun b=>w.heap.size≤b∧v.ownBlock≠some b) W l xs∧restP fnd c.L m d l (c.at j)=Y∧3*(c.at j).length+2≤m∧l.length+(c.at j).length≤65536
theorem p_rest {n:Nat} (HI:∀ m,m<n→StmtC m) {c:Par} {w:World} {k:Nat} {d:Int} (R:Rd c w k) (hd0:0≤d) (hd1:d≤64) (hm:3*(c.at k).length+2≤n) :
 Calls Tryz.prog 101 #[c.ptr,.int .i64 d] w (RdPost c w (restP fnd c.L n d [] (c.at k)) (fun l v w'=>stsVal w.heap.size l v w')):=by
 have HP:Hid (∀ W j (s:ByteArray),Rd c W j→s.data.toList≠[]→Calls Tryz.prog 53 #[c.ptr,.string s] W fun e w'=>e=.returned (.bool (isT s.data.toList (c.at j)))∧Fr c W w'∧Rd c w' (if isT s.data.toList (c.at j)=true then j+1 else j)):=fun W j s RW hs=>p_pass RW s hs
 have HS:Hid (∀ m,m<n→∀ W j,Rd c W j→3*(c.at j).length+1≤m→Calls Tryz.prog 130 #[c.ptr,.int .i64 d] W (RdPost c W (stmtP fnd c.L m d (c.at j)) (stW W.heap.size))):=fun m hmn W j RW hf=>HI m hmn c W j d RW hd0 hd1 hf
 have hl0:(c.at k).length≤65536:=by rw [Par.at_len];have:=R.s.small.1;omega
 obtain ⟨Y,hY⟩:∃ Y,Y=restP fnd c.L n d [] (c.at k):=⟨_,rfl⟩
 rw [← hY]
 have B0:Hid (RestI c w d Y n (.slice none 0 0) w):=⟨k,[],[],At.start R,World.ownsRow_nil _ _ _ _,rfl,hY.symm,hm,by simpa using hl0⟩
 have HR:=Lib.hid R
 have hX:=Lib.hid R.lt
 have HYY:=Lib.hid (rfl:Y=Y)
 clear HI hY R hm hl0
 unfold Par.ptr at *
 go_enter Tryz.func101,Tryz.ntmps101
 go_wp2_with fail
 go_loopg [5] n (fun m u W=>RestI c w d Y m u W∧m≤n)
 case atStart=>exact ⟨B0.out,Nat.le_refl _⟩
 case round =>
  obtain ⟨⟨j,l,xs,A1,hrow,hsv,hL,hfu,hle⟩,hgn⟩:=hrel
  have HA1:=Lib.hid A1
  have HROW:=Lib.hid hrow
  have HSV:=Lib.hid hsv
  have HL:=Lib.hid hL
  have HFU:=Lib.hid (And.intro hfu hle)
  have HGN:=Lib.hid hgn
  obtain ⟨oa,cap,rfl,hoa⟩:=row_shape hrow
  have HOA:=Lib.hid hoa
  clear A1 hrow hsv hL hfu hle hoa hgn
  by_cases h1:isT [125] (c.at j)=true
  · have H1 := Lib.hid h1
    have hs2:Y=.ok l (c.at (j+1)):=by
     obtain ⟨m,rfl⟩:∃ m,gk=m+1:=⟨gk-1,by have:=HFU.out.1;omega⟩
     rw [← HL.out];unfold restP;rw [if_pos h1,Par.at_tail]
    have HSP:=Lib.hid hs2
    clear h1 hs2
    go_wp2_with fail
    go_at_call 53
    refine (HP.out _ j ⟨#[125]⟩ (HA1.out.rd HR.out) (by decide)).mono ?_
    rintro e w2 ⟨he,hf2,hR2⟩
    rw [show (⟨#[125]⟩:ByteArray).data.toList=[125] from rfl,H1.out] at he hR2
    rw [if_pos rfl] at hR2
    subst he
    have A2:=Lib.hid (HA1.out.call hf2 hR2)
    have ROW2:=Lib.hid (row_fr HROW.out hf2 hX.out)
    have SV2:=Lib.hid (stsV_stays (stays_fr hf2 (fun b hb=>by have:=hb.1;have:=hX.out;omega)) (fun b hb=>hb) HSV.out)
    clear hf2 hR2
    go_wp2_with fail
    go_ret
    show RdPost c w Y _ _ _
    rw [HSP.out]
    refine ⟨A2.out.fr,_,j+1,rfl,⟨_,_,rfl,?_⟩,A2.out.rd HR.out,rfl⟩
    cases l with
    | nil=>exact .inl rfl
    | cons x xx =>
      obtain ⟨g,rfl,hg⟩:=HOA.out (by simp)
      exact .inr ⟨g,0,rfl,hg,stsIn_of (stsV_stays (R':=fun b=>w.heap.size≤b) (Stays.refl _ _) (fun b hb=>hb.1) SV2.out) (row_cells ROW2.out rfl)⟩
  · have h1' : isT [125] (c.at j) = false := by simpa using h1
    obtain ⟨m,rfl⟩:∃ m,gk=m+1:=⟨gk-1,by have:=HFU.out.1;omega⟩
    have hs2:Y=(stmtP fnd c.L m d (c.at j)).then fun s r=>restP fnd c.L m d (l++[s]) r:=by
     rw [← HL.out];conv=>lhs;unfold restP
     rw [h1'];rfl
    obtain ⟨Z,hZ⟩:∃ Z,Z=stmtP fnd c.L m d (c.at j):=⟨_,rfl⟩
    rw [← hZ] at hs2
    have HSP:=Lib.hid hs2
    have HKZ:Hid (∀ W,Rd c W j→Calls Tryz.prog 130 #[.pointer (some ⟨c.X,0,none⟩),.int .i64 d] W (RdPost c W Z (stW W.heap.size))):=fun W RW=>by rw [hZ];exact HS.out m (by have:=HGN.out;omega) W j RW (by have:=HFU.out.1;omega)
    have HZL:Hid (∀ s r,Z=.ok s r→r.length<(c.at j).length):=fun s r h=>stmtP_short (hZ.symm.trans h)
    have H1:=Lib.hid h1'
    clear h1 h1' hs2 hZ
    go_wp2_with fail
    go_at_call 53
    refine (HP.out _ j ⟨#[125]⟩ (HA1.out.rd HR.out) (by decide)).mono ?_
    rintro e w2 ⟨he,hf2,hR2⟩
    rw [show (⟨#[125]⟩:ByteArray).data.toList=[125] from rfl,H1.out] at he hR2
    rw [if_neg (by simp)] at hR2
    subst he
    have A2:=Lib.hid (HA1.out.call hf2 hR2)
    have ROW2:=Lib.hid (row_fr HROW.out hf2 hX.out)
    have SV2:=Lib.hid (stsV_stays (stays_fr hf2 (fun b hb=>by have:=hb.1;have:=hX.out;omega)) (fun b hb=>hb) HSV.out)
    clear hf2 hR2
    go_wp2_with fail
    go_at_call 130
    refine (HKZ.out _ (A2.out.rd HR.out)).mono ?_
    rintro e w3 ⟨hf3,hm3⟩
    rcases Z with ⟨s2,r2⟩ | ⟨p,q⟩
    rotate_left
    · obtain rfl := hm3
      have A3:=Lib.hid (A2.out.fr.trans hf3)
      clear hf3
      go_wp2_with fail
      refine ⟨rfl,?_⟩
      show RdPost c w Y _ _ _
      rw [HSP.out]
      exact ⟨A3.out,rfl⟩
    obtain ⟨v3,k3,rfl,⟨a3,c3,a4,c4,a5,c5,rfl,hV3,hV4,hV5⟩,hR3,rfl⟩:=hm3
    have hz2:w.heap.size≤w2.heap.size:=Keep.size A2.out.fr
    have hz23:w2.heap.size≤w3.heap.size:=Keep.size hf3
    have row3:=(row_fr ROW2.out hf3 hX.out).alloc (.cells #[.int .u8 s2.kind,.string s2.name,.string s2.other,.slice a3 s2.e.length c3,.slice a4 s2.body.length c4,.slice a5 s2.els.length c5,.int .i64 s2.pos] 57)
    have hlt2:=ROW2.out.lt
    have A3:=Lib.hid ((A2.out.call hf3 hR3).alloc (.cells #[.int .u8 s2.kind,.string s2.name,.string s2.other,.slice a3 s2.e.length c3,.slice a4 s2.body.length c4,.slice a5 s2.els.length c5,.int .i64 s2.pos] 57))
    have SV3:=stsV_stays (stays_fr hf3 (fun b hb=>by have:=hb.1;have:=hX.out;omega)) (fun b hb=>hb) SV2.out
    have NV:stV (fun b=>w.heap.size≤b∧(Value.slice oa l.length cap).ownBlock≠some b∧b<w3.heap.size) w3 s2 [.int .u8 s2.kind,.string s2.name,.string s2.other,.slice a3 s2.e.length c3,.slice a4 s2.body.length c4,.slice a5 s2.els.length c5,.int .i64 s2.pos]:=by
     have hq:∀ b,w2.heap.size≤b∧b<w3.heap.size→w.heap.size≤b∧(Value.slice oa l.length cap).ownBlock≠some b∧b<w3.heap.size:=fun b hb=>⟨by omega,fun e=>by have:=(hlt2 b e).2;omega,hb.2⟩
     exact ⟨a3,c3,a4,c4,a5,c5,rfl,exsAt_mono (exsAt_in hV3) hq,stsAt_mono (stsAt_in hV4) hq,stsAt_mono (stsAt_in hV5) hq⟩
    have SVN:=stsV_snoc (stsV_stays (R':=fun b=>w.heap.size≤b∧(Value.slice oa l.length cap).ownBlock≠some b∧b<w3.heap.size) (Stays.refl _ w3) (fun b hb=>⟨hb.1.1,hb.1.2,hb.2⟩) (stsV_in SV3)) NV
    have SVN:=Lib.hid (stsV_stays (stays_alloc _ w3 (.cells #[.int .u8 s2.kind,.string s2.name,.string s2.other,.slice a3 s2.e.length c3,.slice a4 s2.body.length c4,.slice a5 s2.els.length c5,.int .i64 s2.pos] 57)) (fun b hb=>hb) SVN)
    have hz3:w.heap.size≤w3.heap.size:=by omega
    have hl6:l.length≤65536:=by have:=HFU.out.2;omega
    obtain ⟨i0,hi,hi0,hi1,hi2⟩:=info_parts infoSt
    have hk3:=Lib.hid (HZL.out _ _ rfl)
    have N3:=Own.new w3 57 #[.int .u8 s2.kind,.string s2.name,.string s2.other,.slice a3 s2.e.length c3,.slice a4 s2.body.length c4,.slice a5 s2.els.length c5,.int .i64 s2.pos]
    have HNEWS:Hid (∀ jj u,[Value.int .u8 s2.kind,.string s2.name,.string s2.other,.slice a3 s2.e.length c3,.slice a4 s2.body.length c4,.slice a5 s2.els.length c5,.int .i64 s2.pos][jj]? = some u→(w3.alloc (.cells #[.int .u8 s2.kind,.string s2.name,.string s2.other,.slice a3 s2.e.length c3,.slice a4 s2.body.length c4,.slice a5 s2.els.length c5,.int .i64 s2.pos] 57)).cell? ((⟨w3.heap.size,0,none⟩:Addr).add jj)=some u):=World.news_of_block N3
    have HSZ:=Lib.hid (World.size_alloc w3 (.cells #[.int .u8 s2.kind,.string s2.name,.string s2.other,.slice a3 s2.e.length c3,.slice a4 s2.body.length c4,.slice a5 s2.els.length c5,.int .i64 s2.pos] 57))
    have HZ23:=Lib.hid hz23
    clear hf3 hR3 hV3 hV4 hV5 SV3 NV hz2 hz23 hlt2
    go_wp2_with (at_builtin;refine wpList_append_lies _ rfl _ _ 55 rfl w.heap.size 57 i0 _ 7 120 Tryz.underlying55 hi hi0 hi1 hi2 rfl (by decide) _ _ _ rfl row3 ⟨w3.heap.size,0,none⟩ 1 1 [.int .u8 s2.kind,.string s2.name,.string s2.other,.slice a3 s2.e.length c3,.slice a4 s2.body.length c4,.slice a5 s2.els.length c5,.int .i64 s2.pos] rfl rfl HNEWS.out (by simp [Value.oneCell']) (by decide) (by simp only [maxLen];omega) (by omega) (by rw [HSZ.out];omega) _ rfl ?_;intro g2 cap2 w4 hown' hgrow hlies hglt;have ROW4:=Lib.hid hown';have GR:=Lib.hid hgrow;have LIES:=Lib.hid hlies;clear hown' hgrow hlies)
    go_roundg m
    case measure=>omega
    case rel =>
     have hx:=hX.out
     refine ⟨⟨k3,l++[s2],_,grown_fr A3.out GR.out (fun r hr=>?_),by rw [List.length_append];exact ROW4.out,?_,HSP.out.symm,by have:=HFU.out.1;have:=hk3.out;omega,by have:=HFU.out.2;have:=hk3.out;rw [List.length_append,List.length_singleton];omega⟩,by have:=HGN.out;omega⟩
     · have h2 := (row3.lt r hr).1
       exact ⟨h2,by omega⟩
     · refine stsV_stays (stays_grown GR.out (fun b hb => hb.2.1)) (fun b hb => ⟨hb.1, ?_⟩) SVN.out
       intro e
       have e:g2=b:=by simpa [Value.ownBlock] using e
       subst e
       rcases LIES.out with h | h
       · exact hb.2.1 h
       · rw [HSZ.out] at h;have:=hb.2.2;omega
theorem p_block {m:Nat} (HI:∀ m',m'<m→StmtC m'):BlkC m:=by
 intro c w k d R hd0 hd1 hm
 obtain ⟨Y,hY⟩:∃ Y,Y=blkP c.L m d (c.at k):=⟨_,rfl⟩
 have HS:=Lib.hid hY
 rw [← hY]
 have hl0:=Lib.hid R.le
 have HR:=Lib.hid R
 have hX:=Lib.hid R.lt
 have HM:=Lib.hid hm
 have HO:Hid (∀ W,Rd c W k→Calls Tryz.prog 99 #[c.ptr,.int .i64 d] W (RdPost c W (openP c.L d (c.at k)) (fun _ v _=>v=.tuple #[]))):=fun W RW=>p_open RW d
 have HRS:Hid (∀ W j,Rd c W j→d≤64→3*(c.at j).length+2≤m→Calls Tryz.prog 101 #[c.ptr,.int .i64 d] W (RdPost c W (restP fnd c.L m d [] (c.at j)) (fun l v w'=>stsVal W.heap.size l v w'))):=fun W j RW hd hf=>p_rest HI RW hd0 hd hf
 obtain ⟨O,hO⟩:∃ O,O=openP c.L d (c.at k):=⟨_,rfl⟩
 rw [← hO] at HO
 have HOD:Hid (∀ u r,O=.ok u r→d≤64∧r.length<(c.at k).length):=fun u r h=>by
  have h:=hO.symm.trans h
  refine ⟨?_,by have:=open_short h;omega⟩
  unfold openP at h
  obtain ⟨a,b,h1,h2⟩:=PR.then_eq_ok h
  split at h2
  · cases h2
  · omega
 have HS:Hid (Y=O.then fun _ r=>restP fnd c.L m d [] r):=by rw [Hid,HS.out,hO];rfl
 have A0:=Lib.hid (At.start R)
 clear hY R hm hO HI
 unfold Par.ptr at *
 go_enter Tryz.func124,Tryz.ntmps124
 go_wp2_with fail
 go_at_call 99
 refine (HO.out _ HR.out).mono ?_
 rintro e w1 ⟨hf1,hm1⟩
 rcases O with ⟨o1,r1⟩ | ⟨p,q⟩
 rotate_left
 · obtain rfl := hm1
   have A1:=Lib.hid hf1
   clear hf1
   go_wp2_with fail
   refine ⟨rfl,?_⟩
   rw [HS.out]
   exact ⟨A1.out,rfl⟩
 obtain ⟨v1,k1,rfl,rfl,hR1,rfl⟩:=hm1
 have HOD:=Lib.hid (HOD.out _ _ rfl)
 have A1:=Lib.hid (A0.out.call hf1 hR1)
 obtain ⟨Z,hZ⟩:∃ Z,Z=restP fnd c.L m d [] (c.at k1):=⟨_,rfl⟩
 have HC:Hid (∀ W,Rd c W k1→Calls Tryz.prog 101 #[.pointer (some ⟨c.X,0,none⟩),.int .i64 d] W (RdPost c W Z (fun l v w'=>stsVal W.heap.size l v w'))):=fun W RW=>by rw [hZ];exact HRS.out W k1 RW HOD.out.1 (by have:=HM.out;have:=HOD.out.2;omega)
 have HS:Hid (Y=Z):=by rw [Hid,HS.out,hZ];rfl
 clear hf1 hR1 hZ
 go_wp2_with fail
 go_at_call 101
 refine (HC.out _ (A1.out.rd HR.out)).mono ?_
 rintro e w2 ⟨hf2,hm2⟩
 rcases Z with ⟨l2,r2⟩ | ⟨p,q⟩
 rotate_left
 · obtain rfl := hm2
   have A2:=Lib.hid (A1.out.fr.trans hf2)
   clear hf2
   go_wp2_with fail
   refine ⟨rfl,?_⟩
   rw [HS.out]
   exact ⟨A2.out,rfl⟩
 obtain ⟨v2,k2,rfl,⟨a,cap,rfl,hV⟩,hR2,rfl⟩:=hm2
 have V2:Hid (stsAt (fun b=>w.heap.size≤b) w2 l2 a):=Lib.hid (stsAt_mono hV (fun b hb=>by have:=A1.out.fr.size;change _≤_ at hb;omega))
 have A2:=Lib.hid (A1.out.call hf2 hR2)
 clear hf2 hR2 hV
 go_wp2_with fail
 go_ret
 rw [HS.out]
 exact ⟨A2.out.fr,_,k2,rfl,⟨_,_,rfl,V2.out⟩,A2.out.rd HR.out,rfl⟩
theorem stmt_all:∀ n,StmtC n:=by
 intro n
 induction n using Nat.strongRecOn with
 | ind n ih =>
   cases n with
   | zero=>intro c w k d R _ _ h;omega
   | succ m=>exact stmt_step (p_block fun m' h=>ih m' (by omega))
end Go.Proofs.YtggbkldniffbfaaGreatDoor

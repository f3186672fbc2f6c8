/- The proof, part 13: texts that belong together, in one. -/
import Derived.Test.YtggbkldniffbfaaGreatDoorTAL
set_option maxRecDepth 100000
set_option maxHeartbeats 20000000
namespace Go.Proofs.YtggbkldniffbfaaGreatDoor
open Go.RowKit
set_option linter.unusedVariables false
theorem at_step {c:Par} {k:Nat} (h:k<c.toks.length):(c.at (k+1)).length<(c.at k).length:=by rw [at_nx h];simp
def blkP (L:Int) (m:Nat) (d:Int) (ts:List Tk):PR (List St):=(openP L d ts).then fun _ r=>restP fnd L m d [] r
theorem blkP_short {L:Int} {m:Nat} {d:Int} {ts:List Tk} {l:List St} {r:List Tk} (h:blkP L m d ts=.ok l r):r.length<ts.length:=by
 obtain ⟨u,q,h1,h2⟩:=PR.then_eq_ok h
 have:=open_short h1
 have:=restP_short h2
 omega
theorem blk_then {L:Int} {m:Nat} {d:Int} {β:Type} (ts:List Tk) (f:List St→List Tk→PR β) (_:Unit) (_:Unit):((openP L d ts).then fun _ r=>(restP fnd L m d [] r).then f)=(blkP L m d ts).then f:=by
 unfold blkP
 cases openP L d ts <;> rfl
def BlkC (m:Nat):Prop:=∀ (c:Par) (w:World) (k:Nat) (d:Int),Rd c w k→0≤d→d≤65→3*(c.at k).length+2≤m →
 Calls Tryz.prog 124 #[c.ptr,.int .i64 d] w (RdPost c w (blkP c.L m d (c.at k)) (fun l v w'=>stsVal w.heap.size l v w'))
theorem m_print {m:Nat} {c:Par} {w:World} {k:Nat} (R:Rd c w k) (t:Tk) (d:Int) (hd0:0≤d) (hd1:d≤64) (hm:3*(c.at k).length+3≤m) :
 Calls Tryz.prog 93 #[c.ptr,tkV t,.int .i64 d] w (RdPost c w ((binE fnd c.L m 1 0 (c.at k)).then fun e r=>(need c.L [59] r).then fun _ r=>.ok (St.mk 6 ⟨#[]⟩ ⟨#[]⟩ [e] [] [] t.pos) r) (fun s v w'=>s.pos=t.pos∧stR w.heap.size 0 s v w')):=by
 obtain ⟨tk,tx,tw,tp⟩:=t
 obtain ⟨Y,hY⟩:∃ Y,Y=(binE fnd c.L m 1 0 (c.at k)).then fun e r=>(need c.L [59] r).then fun _ r=>.ok (St.mk 6 ⟨#[]⟩ ⟨#[]⟩ [e] [] [] tp) r:=⟨_,rfl⟩
 have HS:=Lib.hid hY
 change Calls _ _ _ _ (RdPost c w ((binE fnd c.L m 1 0 (c.at k)).then fun e r=>(need c.L [59] r).then fun _ r=>.ok (St.mk 6 ⟨#[]⟩ ⟨#[]⟩ [e] [] [] tp) r) _)
 rw [← hY]
 have HR:=Lib.hid R
 have hX:=Lib.hid R.lt
 have HM:=Lib.hid hm
 have G:=Lib.hid (StG.start R ⟨tk,tx,tw,tp⟩ #[.int .u8 6,.string ⟨#[]⟩,.string ⟨#[]⟩,.slice none 0 0,.slice none 0 0,.slice none 0 0,.int .i64 0])
 clear hY R hm
 unfold tkV Par.ptr zSt at *
 go_enter Tryz.func93,Tryz.ntmps93
 go_wp2_with fail
 obtain ⟨Z1,hZ1⟩:∃ Z1,Z1=binE fnd c.L m 1 0 (c.at k):=⟨_,rfl⟩
 have HC1:Hid (∀ W,Rd c W k→Calls Tryz.prog 126 #[.pointer (some ⟨c.X,0,none⟩)] W (RdPost c W Z1 (fun e v w'=>exsVal W.heap.size [e] v w'))):=fun W RW=>by rw [hZ1];exact p_value RW (by have:=HM.out;skip;omega)
 have HSH1:Hid (∀ e r,Z1=.ok e r→r.length<(c.at k).length):=fun e r h=>binE_short (hZ1.symm.trans h)
 have HS:Hid (Y=Z1.then fun e r=>(need c.L [59] r).then fun _ r=>.ok (St.mk 6 ⟨#[]⟩ ⟨#[]⟩ [e] [] [] tp) r):=by first | (rw [Hid,HS.out,hZ1];done) | (rw [Hid,HS.out,hZ1];rfl) | (rw [Hid,HS.out,hZ1];unfold parenP;rfl)
 clear hZ1
 go_at_call 126
 refine (HC1.out _ (G.out.run.rd HR.out)).mono ?_
 rintro e w1 ⟨hf1,hm1⟩
 rcases Z1 with ⟨e1,r1⟩ | ⟨p,q⟩
 rotate_left
 · obtain rfl := hm1
   have HS2:=HS
   have AZ:=Lib.hid (G.out.run.fr.trans hf1)
   clear hf1
   go_wp2_with fail
   refine ⟨rfl,?_⟩
   rw [HS2.out]
   exact ⟨AZ.out,rfl⟩
 obtain ⟨v1,j1,rfl,⟨a1,cap1,rfl,hV1⟩,hR1,rfl⟩:=hm1
 have HS:Hid (Y=(need c.L [59] (c.at j1)).then fun _ r=>.ok (St.mk 6 ⟨#[]⟩ ⟨#[]⟩ [e1] [] [] tp) r):=HS.out
 have HL1:=Lib.hid (HSH1.out _ _ rfl)
 have V1:Hid (exsAt (fun b=>w.heap.size+1+1+1≤b) w1 [e1] a1):=Lib.hid (exsAt_mono hV1 (fun b hb=>by have:=G.out.st.lt;change _≤_ at hb;omega))
 have G:=Lib.hid (G.out.call hf1 hR1 hX.out)
 clear hf1 hR1 hV1
 have c3:=G.out.cell (i:=3) (v:=.slice none 0 0) rfl
 have z3:=G.out.frozen 3
 go_wp2_with fail
 rw [show w1.setCell ⟨w.heap.size+1+1,3,none⟩ (.slice a1 1 cap1)=w1.setRow (w.heap.size+1+1) #[.int .u8 6,.string ⟨#[]⟩,.string ⟨#[]⟩,.slice a1 1 cap1,.slice none 0 0,.slice none 0 0,.int .i64 0] from setCell_row G.out.st 3 _]
 have V1:=Lib.hid (exsAt_row V1.out #[.int .u8 6,.string ⟨#[]⟩,.string ⟨#[]⟩,.slice a1 1 cap1,.slice none 0 0,.slice none 0 0,.int .i64 0] (g:=w.heap.size+1+1) (by omega))
 have G:=Lib.hid (G.out.row #[.int .u8 6,.string ⟨#[]⟩,.string ⟨#[]⟩,.slice a1 1 cap1,.slice none 0 0,.slice none 0 0,.int .i64 0] hX.out)
 clear c3 z3
 by_cases q2:isT [59] (c.at (j1))=true
 rotate_left
 · have q2' : isT [59] (c.at (j1)) = false := by simpa using q2
   go_at_call 127
   refine (p_take_bad (G.out.run.rd HR.out) ⟨#[59]⟩ (by decide) q2').mono ?_
   rintro e w2 ⟨rfl,hf2⟩
   have HS2:=HS.out
   rw [need_at,q2'] at HS2
   have HS2:=Lib.hid HS2
   clear q2 q2'
   have AZ:=Lib.hid (G.out.run.fr.trans hf2)
   clear hf2
   go_wp2_with fail
   refine ⟨rfl,?_⟩
   rw [HS2.out]
   exact ⟨AZ.out,rfl⟩
 go_at_call 127
 refine (p_take_ok (G.out.run.rd HR.out) ⟨#[59]⟩ (by decide) q2).mono ?_
 rintro e w2 ⟨rfl,hf2,hR2⟩
 have HS2:=HS.out
 rw [need_at,if_pos q2] at HS2
 have HS:Hid (Y=.ok (St.mk 6 ⟨#[]⟩ ⟨#[]⟩ [e1] [] [] tp) (c.at (j1+1))):=HS2
 have HL2:=Lib.hid (at_step (Par.isT_lt q2))
 have V1:=Lib.hid (exsAt_call V1.out hf2 (by have:=hX.out;omega))
 have G:=Lib.hid (G.out.call hf2 hR2 hX.out)
 clear HS2 q2 hf2 hR2
 obtain ⟨WE,hWE⟩:∃ WE,Hid (WE=w2):=⟨_,rfl⟩
 rw [← hWE.out]
 rw [← hWE.out] at G V1
 have OS:=G.out.st
 have OR:=G.out.res
 go_wp2_with (first | (refine ld rowSt rfl rfl rfl OS rfl ?_) | (refine st rowSt rfl rfl OR rfl rfl (by rfl) (by rfl) (by kernel_rfl) ?_))
 have hx:=hX.out
 have AE:=G.out.run.setRow (g:=w.heap.size+1) (by omega) (by omega) #[.int .u8 6,.string ⟨#[]⟩,.string ⟨#[]⟩,.slice a1 1 cap1,.slice none 0 0,.slice none 0 0,.int .i64 0]
 refine p_ret rowSt rfl (OR.row #[.int .u8 6,.string ⟨#[]⟩,.string ⟨#[]⟩,.slice a1 1 cap1,.slice none 0 0,.slice none 0 0,.int .i64 0]) rfl rfl rfl ?_
 rw [HS.out]
 exact ⟨AE.fr,_,(j1+1),rfl,⟨rfl,_,_,_,_,_,_,rfl,exsAt_mono (exsAt_row V1.out _ (g:=w.heap.size+1) (by omega)) (fun b hb=>by omega),.inl rfl,.inl rfl⟩,AE.rd HR.out,rfl⟩
theorem m_skip {m:Nat} {c:Par} {w:World} {k:Nat} (R:Rd c w k) (t:Tk) (d:Int) :
 Calls Tryz.prog 94 #[c.ptr,tkV t,.int .i64 d] w (RdPost c w ((need c.L [59] (c.at k)).then fun _ r=>.ok (St.mk 7 ⟨#[]⟩ ⟨#[]⟩ [] [] [] t.pos) r) (fun s v w'=>s.pos=t.pos∧stR w.heap.size 0 s v w')):=by
 obtain ⟨tk,tx,tw,tp⟩:=t
 rw [need_at]
 have HR:=Lib.hid R
 have hX:=Lib.hid R.lt
 have A0:=Lib.hid (((At.start R).alloc (.cells #[.int .u8 tk,.string tx,.int .i64 tw,.int .i64 tp] 111)).alloc (.cells zSt 57))
 have O0:=Own.new (w.alloc (.cells #[.int .u8 tk,.string tx,.int .i64 tw,.int .i64 tp] 111)) 57 zSt
 rw [World.size_alloc] at O0
 have O0:=Lib.hid O0
 by_cases h1:isT [59] (c.at k)=true
 · rw [if_pos h1]
   simp only [PR.then_ok]
   have H1:=Lib.hid h1
   clear h1 R
   unfold tkV Par.ptr zSt at *
   go_enter Tryz.func94,Tryz.ntmps94
   go_wp2_with fail
   go_at_call 127
   refine (p_take_ok (A0.out.rd HR.out) ⟨#[59]⟩ (by decide) H1.out).mono ?_
   rintro e w1 ⟨rfl,hf1,hR1⟩
   have hx:=hX.out
   have A1:=Lib.hid (A0.out.call hf1 hR1)
   have O1:=O0.out.fr hf1 (by omega)
   clear hf1 hR1 hx O0
   go_wp2_with (first | (refine st rowSt rfl rfl O1 rfl rfl (by rfl) (by rfl) (by kernel_rfl) ?_))
   have hx:=hX.out
   have A2:=A1.out.setRow (g:=w.heap.size+1) (by omega) (by omega) #[.int .u8 7,.string ⟨#[]⟩,.string ⟨#[]⟩,.slice none 0 0,.slice none 0 0,.slice none 0 0,.int .i64 0]
   exact p_ret rowSt rfl (O1.row #[.int .u8 7,.string ⟨#[]⟩,.string ⟨#[]⟩,.slice none 0 0,.slice none 0 0,.slice none 0 0,.int .i64 0]) rfl rfl rfl ⟨A2.fr,_,k+1,rfl,⟨rfl,none,0,none,0,none,0,rfl,.inl rfl,.inl rfl,.inl rfl⟩,A2.rd HR.out,rfl⟩
 · have h1' : isT [59] (c.at k) = false := by simpa using h1
   rw [if_neg h1]
   simp only [PR.then_bad]
   have H1:=Lib.hid h1'
   clear h1 h1' R
   unfold tkV Par.ptr zSt at *
   go_enter Tryz.func94,Tryz.ntmps94
   go_wp2_with fail
   go_at_call 127
   refine (p_take_bad (A0.out.rd HR.out) ⟨#[59]⟩ (by decide) H1.out).mono ?_
   rintro e w1 ⟨rfl,hf1⟩
   have A1:=Lib.hid (A0.out.fr.trans hf1)
   clear hf1
   go_wp2_with fail
   exact ⟨rfl,A1.out,rfl⟩
theorem p_condition {c:Par} {w:World} {k n:Nat} (R:Rd c w k) (hn:3*(c.at k).length+2≤n) :
 Calls Tryz.prog 123 #[c.ptr] w (RdPost c w (parenP fnd c.L n (c.at k)) (fun e v w'=>exsVal w.heap.size [e] v w')):=by
 obtain ⟨Y,hY⟩:∃ Y,Y=parenP fnd c.L n (c.at k):=⟨_,rfl⟩
 have HS:=Lib.hid hY
 change Calls _ _ _ _ (RdPost c w (parenP fnd c.L n (c.at k)) _)
 rw [← hY]
 have HR:=Lib.hid R
 have hX:=Lib.hid R.lt
 have HM:=Lib.hid hn
 clear hY R hn
 unfold Par.ptr at *
 have A0:=Lib.hid (At.start HR.out)
 go_enter Tryz.func123,Tryz.ntmps123
 go_wp2_with fail
 by_cases q1:isT [40] (c.at k)=true;rotate_left
 · have q1' : isT [40] (c.at k) = false := by simpa using q1
   go_at_call 127
   refine (p_take_bad HR.out ⟨#[40]⟩ (by decide) q1').mono ?_
   rintro e w1 ⟨rfl,hf1⟩
   have HS2:=HS.out
   unfold parenP at HS2
   rw [need_at,q1'] at HS2
   have HS2:=Lib.hid HS2
   have AZ:=Lib.hid hf1
   clear hf1 q1 q1'
   go_wp2_with fail
   refine ⟨rfl,?_⟩
   rw [HS2.out]
   exact ⟨AZ.out,rfl⟩
 go_at_call 127
 refine (p_take_ok HR.out ⟨#[40]⟩ (by decide) q1).mono ?_
 rintro e w1 ⟨rfl,hf1,hR1⟩
 have HS2:=HS.out
 unfold parenP at HS2
 rw [need_at,if_pos q1] at HS2
 obtain ⟨Z,hZ⟩:∃ Z,Z=binE fnd c.L n 1 0 (c.at (k+1)):=⟨_,rfl⟩
 have HC:Hid (∀ W,Rd c W (k+1)→Calls Tryz.prog 126 #[.pointer (some ⟨c.X,0,none⟩)] W (RdPost c W Z (fun e v w'=>exsVal W.heap.size [e] v w'))):=fun W RW=>by rw [hZ];exact p_value RW (by have:=HM.out;have:=at_step (Par.isT_lt q1);omega)
 have HS:Hid (Y=Z.then fun e r=>(need c.L [41] r).then fun _ r=>.ok e r):=by rw [Hid,HS2,hZ];rfl
 have A1:=Lib.hid (A0.out.call hf1 hR1)
 clear HS2 q1 hf1 hR1 hZ
 go_wp2_with fail
 go_at_call 126
 refine (HC.out _ (A1.out.rd HR.out)).mono ?_
 rintro e w2 ⟨hf2,hm2⟩
 rcases Z with ⟨e2,r2⟩ | ⟨p,q⟩;rotate_left
 · obtain rfl := hm2
   have AZ:=Lib.hid (A1.out.fr.trans hf2)
   clear hf2
   go_wp2_with fail
   refine ⟨rfl,?_⟩
   rw [HS.out]
   exact ⟨AZ.out,rfl⟩
 obtain ⟨v2,j2,rfl,⟨a2,cap2,rfl,hV2⟩,hR2,rfl⟩:=hm2
 have HS:Hid (Y=(need c.L [41] (c.at j2)).then fun _ r=>.ok e2 r):=HS.out
 have V2:Hid (exsAt (fun b=>w.heap.size≤b) w2 [e2] a2):=Lib.hid (exsAt_mono hV2 (fun b hb=>by have:=A1.out.fr.size;change _≤_ at hb;omega))
 have A2:=Lib.hid (A1.out.call hf2 hR2)
 clear hf2 hR2 hV2
 go_wp2_with fail
 by_cases q3:isT [41] (c.at j2)=true;rotate_left
 · have q3' : isT [41] (c.at j2) = false := by simpa using q3
   go_at_call 127
   refine (p_take_bad (A2.out.rd HR.out) ⟨#[41]⟩ (by decide) q3').mono ?_
   rintro e w3 ⟨rfl,hf3⟩
   have HS2:=HS.out
   rw [need_at,q3'] at HS2
   have HS2:=Lib.hid HS2
   have AZ:=Lib.hid (A2.out.fr.trans hf3)
   clear hf3 q3 q3'
   go_wp2_with fail
   refine ⟨rfl,?_⟩
   rw [HS2.out]
   exact ⟨AZ.out,rfl⟩
 go_at_call 127
 refine (p_take_ok (A2.out.rd HR.out) ⟨#[41]⟩ (by decide) q3).mono ?_
 rintro e w3 ⟨rfl,hf3,hR3⟩
 have HS2:=HS.out
 rw [need_at,if_pos q3] at HS2
 have HS2:=Lib.hid HS2
 have V3:=Lib.hid (exsAt_call V2.out hf3 hX.out)
 have A3:=Lib.hid (A2.out.call hf3 hR3)
 clear hf3 hR3 q3
 go_wp2_with fail
 go_ret
 rw [HS2.out]
 exact ⟨A3.out.fr,_,_,rfl,⟨_,_,rfl,V3.out⟩,A3.out.rd HR.out,rfl⟩
theorem m_loop {m:Nat} (HB:BlkC m) {c:Par} {w:World} {k:Nat} (R:Rd c w k) (t:Tk) (d:Int) (hd0:0≤d) (hd1:d≤64) (hm:3*(c.at k).length+3≤m) :
 Calls Tryz.prog 91 #[c.ptr,tkV t,.int .i64 d] w (RdPost c w ((parenP fnd c.L m (c.at k)).then fun e r=>(blkP c.L m (d+1) r).then fun b r=>.ok (St.mk 4 ⟨#[]⟩ ⟨#[]⟩ [e] b [] t.pos) r) (fun s v w'=>s.pos=t.pos∧stR w.heap.size 0 s v w')):=by
 obtain ⟨tk,tx,tw,tp⟩:=t
 obtain ⟨Y,hY⟩:∃ Y,Y=(parenP fnd c.L m (c.at k)).then fun e r=>(blkP c.L m (d+1) r).then fun b r=>.ok (St.mk 4 ⟨#[]⟩ ⟨#[]⟩ [e] b [] tp) r:=⟨_,rfl⟩
 have HS:=Lib.hid hY
 change Calls _ _ _ _ (RdPost c w ((parenP fnd c.L m (c.at k)).then fun e r=>(blkP c.L m (d+1) r).then fun b r=>.ok (St.mk 4 ⟨#[]⟩ ⟨#[]⟩ [e] b [] tp) r) _)
 rw [← hY]
 have HR:=Lib.hid R
 have hX:=Lib.hid R.lt
 have HM:=Lib.hid hm
 have HB:=Lib.hid HB
 have G:=Lib.hid (StG.start R ⟨tk,tx,tw,tp⟩ #[.int .u8 4,.string ⟨#[]⟩,.string ⟨#[]⟩,.slice none 0 0,.slice none 0 0,.slice none 0 0,.int .i64 0])
 clear hY R hm
 unfold tkV Par.ptr zSt at *
 go_enter Tryz.func91,Tryz.ntmps91
 go_wp2_with fail
 obtain ⟨Z1,hZ1⟩:∃ Z1,Z1=parenP fnd c.L m (c.at k):=⟨_,rfl⟩
 have HC1:Hid (∀ W,Rd c W k→Calls Tryz.prog 123 #[.pointer (some ⟨c.X,0,none⟩)] W (RdPost c W Z1 (fun e v w'=>exsVal W.heap.size [e] v w'))):=fun W RW=>by rw [hZ1];exact p_condition RW (by have:=HM.out;skip;omega)
 have HSH1:Hid (∀ e r,Z1=.ok e r→r.length<(c.at k).length):=fun e r h=>paren_short (hZ1.symm.trans h)
 have HS:Hid (Y=Z1.then fun e r=>(blkP c.L m (d+1) r).then fun b r=>.ok (St.mk 4 ⟨#[]⟩ ⟨#[]⟩ [e] b [] tp) r):=by first | (rw [Hid,HS.out,hZ1];done) | (rw [Hid,HS.out,hZ1];rfl) | (rw [Hid,HS.out,hZ1];unfold parenP;rfl)
 clear hZ1
 go_at_call 123
 refine (HC1.out _ (G.out.run.rd HR.out)).mono ?_
 rintro e w1 ⟨hf1,hm1⟩
 rcases Z1 with ⟨e1,r1⟩ | ⟨p,q⟩
 rotate_left
 · obtain rfl := hm1
   have HS2:=HS
   have AZ:=Lib.hid (G.out.run.fr.trans hf1)
   clear hf1
   go_wp2_with fail
   refine ⟨rfl,?_⟩
   rw [HS2.out]
   exact ⟨AZ.out,rfl⟩
 obtain ⟨v1,j1,rfl,⟨a1,cap1,rfl,hV1⟩,hR1,rfl⟩:=hm1
 have HS:Hid (Y=(blkP c.L m (d+1) (c.at j1)).then fun b r=>.ok (St.mk 4 ⟨#[]⟩ ⟨#[]⟩ [e1] b [] tp) r):=HS.out
 have HL1:=Lib.hid (HSH1.out _ _ rfl)
 have V1:Hid (exsAt (fun b=>w.heap.size+1+1+1≤b) w1 [e1] a1):=Lib.hid (exsAt_mono hV1 (fun b hb=>by have:=G.out.st.lt;change _≤_ at hb;omega))
 have G:=Lib.hid (G.out.call hf1 hR1 hX.out)
 clear hf1 hR1 hV1
 have c3:=G.out.cell (i:=3) (v:=.slice none 0 0) rfl
 have z3:=G.out.frozen 3
 go_wp2_with fail
 rw [show w1.setCell ⟨w.heap.size+1+1,3,none⟩ (.slice a1 1 cap1)=w1.setRow (w.heap.size+1+1) #[.int .u8 4,.string ⟨#[]⟩,.string ⟨#[]⟩,.slice a1 1 cap1,.slice none 0 0,.slice none 0 0,.int .i64 0] from setCell_row G.out.st 3 _]
 have V1:=Lib.hid (exsAt_row V1.out #[.int .u8 4,.string ⟨#[]⟩,.string ⟨#[]⟩,.slice a1 1 cap1,.slice none 0 0,.slice none 0 0,.int .i64 0] (g:=w.heap.size+1+1) (by omega))
 have G:=Lib.hid (G.out.row #[.int .u8 4,.string ⟨#[]⟩,.string ⟨#[]⟩,.slice a1 1 cap1,.slice none 0 0,.slice none 0 0,.int .i64 0] hX.out)
 clear c3 z3
 obtain ⟨Z2,hZ2⟩:∃ Z2,Z2=blkP c.L m (d+1) (c.at j1):=⟨_,rfl⟩
 have HC2:Hid (∀ W,Rd c W j1→Calls Tryz.prog 124 #[.pointer (some ⟨c.X,0,none⟩),.int .i64 (d+1)] W (RdPost c W Z2 (fun l v w'=>stsVal W.heap.size l v w'))):=fun W RW=>by rw [hZ2];exact HB.out c W j1 (d+1) RW (by omega) (by omega) (by have:=HM.out;have:=HL1.out;omega)
 have HSH2:Hid (∀ e r,Z2=.ok e r→r.length<(c.at j1).length):=fun e r h=>blkP_short (hZ2.symm.trans h)
 have HS:Hid (Y=Z2.then fun b r=>.ok (St.mk 4 ⟨#[]⟩ ⟨#[]⟩ [e1] b [] tp) r):=by first | (rw [Hid,HS.out,hZ2];done) | (rw [Hid,HS.out,hZ2];exact blk_then _ _ () ())
 clear hZ2
 go_at_call 124
 refine (HC2.out _ (G.out.run.rd HR.out)).mono ?_
 rintro e w2 ⟨hf2,hm2⟩
 rcases Z2 with ⟨e2,r2⟩ | ⟨p,q⟩
 rotate_left
 · obtain rfl := hm2
   have HS2:=HS
   have AZ:=Lib.hid (G.out.run.fr.trans hf2)
   clear hf2
   go_wp2_with fail
   refine ⟨rfl,?_⟩
   rw [HS2.out]
   exact ⟨AZ.out,rfl⟩
 obtain ⟨v2,j2,rfl,⟨a2,cap2,rfl,hV2⟩,hR2,rfl⟩:=hm2
 have HS:Hid (Y=.ok (St.mk 4 ⟨#[]⟩ ⟨#[]⟩ [e1] e2 [] tp) (c.at j2)):=HS.out
 have HL2:=Lib.hid (HSH2.out _ _ rfl)
 have V2:Hid (stsAt (fun b=>w.heap.size+1+1+1≤b) w2 e2 a2):=Lib.hid (stsAt_mono hV2 (fun b hb=>by have:=G.out.st.lt;change _≤_ at hb;omega))
 have V1:=Lib.hid (exsAt_call V1.out hf2 (by have:=hX.out;omega))
 have G:=Lib.hid (G.out.call hf2 hR2 hX.out)
 clear hf2 hR2 hV2
 have C4:=Lib.hid (G.out.cell (i:=4) (v:=.slice none 0 0) rfl)
 have Z4:=Lib.hid (G.out.frozen 4)
 have E5:w2.setCell ⟨w.heap.size+1+1,4,none⟩ (.slice a2 e2.length cap2)=w2.setRow (w.heap.size+1+1) #[.int .u8 4,.string ⟨#[]⟩,.string ⟨#[]⟩,.slice a1 1 cap1,.slice a2 e2.length cap2,.slice none 0 0,.int .i64 0]:=setCell_row G.out.st 4 (.slice a2 e2.length cap2)
 have V1:=Lib.hid (exsAt_row V1.out #[.int .u8 4,.string ⟨#[]⟩,.string ⟨#[]⟩,.slice a1 1 cap1,.slice a2 e2.length cap2,.slice none 0 0,.int .i64 0] (g:=w.heap.size+1+1) (by omega))
 have V2:=Lib.hid (stsAt_row V2.out #[.int .u8 4,.string ⟨#[]⟩,.string ⟨#[]⟩,.slice a1 1 cap1,.slice a2 e2.length cap2,.slice none 0 0,.int .i64 0] (g:=w.heap.size+1+1) (by omega))
 have G:=Lib.hid (G.out.row #[.int .u8 4,.string ⟨#[]⟩,.string ⟨#[]⟩,.slice a1 1 cap1,.slice a2 e2.length cap2,.slice none 0 0,.int .i64 0] hX.out)
 have OS:=G.out.st
 have OR:=G.out.res
 have C4:=C4.out
 have Z4:=Z4.out
 unfold zSt at OR
 go_wp2_with (first | (refine ld rowSt rfl rfl rfl OS rfl ?_) | (refine st rowSt rfl rfl OR rfl rfl (by rfl) (by rfl) (by kernel_rfl) ?_))
 clear C4 Z4 E5
 have hx:=hX.out
 have AE:=G.out.run.setRow (g:=w.heap.size+1) (by omega) (by omega) #[.int .u8 4,.string ⟨#[]⟩,.string ⟨#[]⟩,.slice a1 1 cap1,.slice a2 e2.length cap2,.slice none 0 0,.int .i64 0]
 refine p_ret rowSt rfl (OR.row #[.int .u8 4,.string ⟨#[]⟩,.string ⟨#[]⟩,.slice a1 1 cap1,.slice a2 e2.length cap2,.slice none 0 0,.int .i64 0]) rfl rfl rfl ?_
 rw [HS.out]
 exact ⟨AE.fr,_,j2,rfl,⟨rfl,_,_,_,_,_,_,rfl,exsAt_mono (exsAt_row V1.out _ (g:=w.heap.size+1) (by omega)) (fun b hb=>by omega),stsAt_mono (stsAt_row V2.out _ (g:=w.heap.size+1) (by omega)) (fun b hb=>by omega),.inl rfl⟩,AE.rd HR.out,rfl⟩
theorem m_guard {m:Nat} (HB:BlkC m) {c:Par} {w:World} {k:Nat} (R:Rd c w k) (t:Tk) (d:Int) (hd0:0≤d) (hd1:d≤64) (hm:3*(c.at k).length+3≤m) :
 Calls Tryz.prog 92 #[c.ptr,tkV t,.int .i64 d] w (RdPost c w ((nameP c.L (c.at k)).then fun o r=>(blkP c.L m (d+1) r).then fun b r=>.ok (St.mk 5 o.name ⟨#[]⟩ [] b [] t.pos) r) (fun s v w'=>s.pos=t.pos∧stR w.heap.size 0 s v w')):=by
 obtain ⟨tk,tx,tw,tp⟩:=t
 obtain ⟨Y,hY⟩:∃ Y,Y=(nameP c.L (c.at k)).then fun o r=>(blkP c.L m (d+1) r).then fun b r=>.ok (St.mk 5 o.name ⟨#[]⟩ [] b [] tp) r:=⟨_,rfl⟩
 have HS:=Lib.hid hY
 change Calls _ _ _ _ (RdPost c w ((nameP c.L (c.at k)).then fun o r=>(blkP c.L m (d+1) r).then fun b r=>.ok (St.mk 5 o.name ⟨#[]⟩ [] b [] tp) r) _)
 rw [← hY]
 have HR:=Lib.hid R
 have hX:=Lib.hid R.lt
 have HM:=Lib.hid hm
 have HB:=Lib.hid HB
 have G:=Lib.hid (StG.start R ⟨tk,tx,tw,tp⟩ #[.int .u8 5,.string ⟨#[]⟩,.string ⟨#[]⟩,.slice none 0 0,.slice none 0 0,.slice none 0 0,.int .i64 0])
 clear hY R hm
 unfold tkV Par.ptr zSt at *
 go_enter Tryz.func92,Tryz.ntmps92
 go_wp2_with fail
 by_cases q1:(c.nx k).kind=1
 rotate_left
 · go_at_call 125
   refine (p_kind_bad (G.out.run.rd HR.out) 1 q1).mono ?_
   rintro e w1 ⟨rfl,hf1⟩
   have HS2:=HS.out
   rw [nameP_at,if_neg q1] at HS2
   have HS2:=Lib.hid HS2
   clear q1
   have AZ:=Lib.hid (G.out.run.fr.trans hf1)
   clear hf1
   go_wp2_with fail
   refine ⟨rfl,?_⟩
   rw [HS2.out]
   exact ⟨AZ.out,rfl⟩
 have HK1:=Lib.hid (p_kind_ok (G.out.run.rd HR.out) 1 q1 (nx_lt (.inl (by rw [q1];decide))))
 obtain ⟨t1,ht1⟩:∃ t,t=c.nx k:=⟨_,rfl⟩
 have HS2:=HS.out
 rw [nameP_at,if_pos q1,← ht1] at HS2
 have HL1:=Lib.hid (at_step (c:=c) (k:=k) (nx_lt (.inl (by rw [q1];decide))))
 rw [← ht1] at HK1
 have HS:Hid (Y=(blkP c.L m (d+1) (c.at (k+1))).then fun b r=>.ok (St.mk 5 t1.text ⟨#[]⟩ [] b [] tp) r):=HS2
 clear q1 ht1 HS2
 obtain ⟨nk1,nm1,nw1,np1⟩:=t1
 unfold tkV Par.ptr at HK1
 go_at_call 125
 refine (HK1.out).mono ?_
 rintro e w1 ⟨rfl,hf1,hR1⟩
 have G:=Lib.hid (G.out.call hf1 hR1 hX.out)
 clear hf1 hR1
 have c1:=G.out.cell (i:=1) (v:=.string ⟨#[]⟩) rfl
 have z1:=G.out.frozen 1
 have F1:=tok_f1
 go_wp2_with fail
 rw [show w1.setCell ⟨w.heap.size+1+1,1,none⟩ (.string nm1)=w1.setRow (w.heap.size+1+1) #[.int .u8 5,.string nm1,.string ⟨#[]⟩,.slice none 0 0,.slice none 0 0,.slice none 0 0,.int .i64 0] from setCell_row G.out.st 1 _]
 have G:=Lib.hid (G.out.row #[.int .u8 5,.string nm1,.string ⟨#[]⟩,.slice none 0 0,.slice none 0 0,.slice none 0 0,.int .i64 0] hX.out)
 clear c1 z1
 clear F1
 obtain ⟨Z2,hZ2⟩:∃ Z2,Z2=blkP c.L m (d+1) (c.at (k+1)):=⟨_,rfl⟩
 have HC2:Hid (∀ W,Rd c W (k+1)→Calls Tryz.prog 124 #[.pointer (some ⟨c.X,0,none⟩),.int .i64 (d+1)] W (RdPost c W Z2 (fun l v w'=>stsVal W.heap.size l v w'))):=fun W RW=>by rw [hZ2];exact HB.out c W (k+1) (d+1) RW (by omega) (by omega) (by have:=HM.out;have:=HL1.out;omega)
 have HSH2:Hid (∀ e r,Z2=.ok e r→r.length<(c.at (k+1)).length):=fun e r h=>blkP_short (hZ2.symm.trans h)
 have HS:Hid (Y=Z2.then fun b r=>.ok (St.mk 5 nm1 ⟨#[]⟩ [] b [] tp) r):=by first | (rw [Hid,HS.out,hZ2];done) | (rw [Hid,HS.out,hZ2];exact blk_then _ _ () ())
 clear hZ2
 go_at_call 124
 refine (HC2.out _ (G.out.run.rd HR.out)).mono ?_
 rintro e w2 ⟨hf2,hm2⟩
 rcases Z2 with ⟨e2,r2⟩ | ⟨p,q⟩
 rotate_left
 · obtain rfl := hm2
   have HS2:=HS
   have AZ:=Lib.hid (G.out.run.fr.trans hf2)
   clear hf2
   go_wp2_with fail
   refine ⟨rfl,?_⟩
   rw [HS2.out]
   exact ⟨AZ.out,rfl⟩
 obtain ⟨v2,j2,rfl,⟨a2,cap2,rfl,hV2⟩,hR2,rfl⟩:=hm2
 have HS:Hid (Y=.ok (St.mk 5 nm1 ⟨#[]⟩ [] e2 [] tp) (c.at j2)):=HS.out
 have HL2:=Lib.hid (HSH2.out _ _ rfl)
 have V2:Hid (stsAt (fun b=>w.heap.size+1+1+1≤b) w2 e2 a2):=Lib.hid (stsAt_mono hV2 (fun b hb=>by have:=G.out.st.lt;change _≤_ at hb;omega))
 have G:=Lib.hid (G.out.call hf2 hR2 hX.out)
 clear hf2 hR2 hV2
 have C4:=Lib.hid (G.out.cell (i:=4) (v:=.slice none 0 0) rfl)
 have Z4:=Lib.hid (G.out.frozen 4)
 have E5:w2.setCell ⟨w.heap.size+1+1,4,none⟩ (.slice a2 e2.length cap2)=w2.setRow (w.heap.size+1+1) #[.int .u8 5,.string nm1,.string ⟨#[]⟩,.slice none 0 0,.slice a2 e2.length cap2,.slice none 0 0,.int .i64 0]:=setCell_row G.out.st 4 (.slice a2 e2.length cap2)
 have V2:=Lib.hid (stsAt_row V2.out #[.int .u8 5,.string nm1,.string ⟨#[]⟩,.slice none 0 0,.slice a2 e2.length cap2,.slice none 0 0,.int .i64 0] (g:=w.heap.size+1+1) (by omega))
 have G:=Lib.hid (G.out.row #[.int .u8 5,.string nm1,.string ⟨#[]⟩,.slice none 0 0,.slice a2 e2.length cap2,.slice none 0 0,.int .i64 0] hX.out)
 have OS:=G.out.st
 have OR:=G.out.res
 have C4:=C4.out
 have Z4:=Z4.out
 unfold zSt at OR
 go_wp2_with (first | (refine ld rowSt rfl rfl rfl OS rfl ?_) | (refine st rowSt rfl rfl OR rfl rfl (by rfl) (by rfl) (by kernel_rfl) ?_))
 clear C4 Z4 E5
 have hx:=hX.out
 have AE:=G.out.run.setRow (g:=w.heap.size+1) (by omega) (by omega) #[.int .u8 5,.string nm1,.string ⟨#[]⟩,.slice none 0 0,.slice a2 e2.length cap2,.slice none 0 0,.int .i64 0]
 refine p_ret rowSt rfl (OR.row #[.int .u8 5,.string nm1,.string ⟨#[]⟩,.slice none 0 0,.slice a2 e2.length cap2,.slice none 0 0,.int .i64 0]) rfl rfl rfl ?_
 rw [HS.out]
 exact ⟨AE.fr,_,j2,rfl,⟨rfl,_,_,_,_,_,_,rfl,.inl rfl,stsAt_mono (stsAt_row V2.out _ (g:=w.heap.size+1) (by omega)) (fun b hb=>by omega),.inl rfl⟩,AE.rd HR.out,rfl⟩
theorem m_choice {m:Nat} (HB:BlkC m) {c:Par} {w:World} {k:Nat} (R:Rd c w k) (t:Tk) (d:Int) (hd0:0≤d) (hd1:d≤64) (hm:3*(c.at k).length+3≤m) :
 Calls Tryz.prog 90 #[c.ptr,tkV t,.int .i64 d] w (RdPost c w ((parenP fnd c.L m (c.at k)).then fun e r=>(blkP c.L m (d+1) r).then fun b r=>if isT [101,108,115,101] r=true then (blkP c.L m (d+1) r.tail).then fun l r=>.ok (St.mk 3 ⟨#[]⟩ ⟨#[]⟩ [e] b l t.pos) r else .ok (St.mk 3 ⟨#[]⟩ ⟨#[]⟩ [e] b [] t.pos) r) (fun s v w'=>s.pos=t.pos∧stR w.heap.size 0 s v w')):=by
 obtain ⟨tk,tx,tw,tp⟩:=t
 obtain ⟨Y,hY⟩:∃ Y,Y=(parenP fnd c.L m (c.at k)).then fun e r=>(blkP c.L m (d+1) r).then fun b r=>if isT [101,108,115,101] r=true then (blkP c.L m (d+1) r.tail).then fun l r=>.ok (St.mk 3 ⟨#[]⟩ ⟨#[]⟩ [e] b l tp) r else .ok (St.mk 3 ⟨#[]⟩ ⟨#[]⟩ [e] b [] tp) r:=⟨_,rfl⟩
 have HS:=Lib.hid hY
 change Calls _ _ _ _ (RdPost c w ((parenP fnd c.L m (c.at k)).then fun e r=>(blkP c.L m (d+1) r).then fun b r=>if isT [101,108,115,101] r=true then (blkP c.L m (d+1) r.tail).then fun l r=>.ok (St.mk 3 ⟨#[]⟩ ⟨#[]⟩ [e] b l tp) r else .ok (St.mk 3 ⟨#[]⟩ ⟨#[]⟩ [e] b [] tp) r) _)
 rw [← hY]
 have HR:=Lib.hid R
 have hX:=Lib.hid R.lt
 have HM:=Lib.hid hm
 have HB:=Lib.hid HB
 have G:=Lib.hid (StG.start R ⟨tk,tx,tw,tp⟩ #[.int .u8 3,.string ⟨#[]⟩,.string ⟨#[]⟩,.slice none 0 0,.slice none 0 0,.slice none 0 0,.int .i64 0])
 clear hY R hm
 unfold tkV Par.ptr zSt at *
 go_enter Tryz.func90,Tryz.ntmps90
 go_wp2_with fail
 obtain ⟨Z1,hZ1⟩:∃ Z1,Z1=parenP fnd c.L m (c.at k):=⟨_,rfl⟩
 have HC1:Hid (∀ W,Rd c W k→Calls Tryz.prog 123 #[.pointer (some ⟨c.X,0,none⟩)] W (RdPost c W Z1 (fun e v w'=>exsVal W.heap.size [e] v w'))):=fun W RW=>by rw [hZ1];exact p_condition RW (by have:=HM.out;skip;omega)
 have HSH1:Hid (∀ e r,Z1=.ok e r→r.length<(c.at k).length):=fun e r h=>paren_short (hZ1.symm.trans h)
 have HS:Hid (Y=Z1.then fun e r=>(blkP c.L m (d+1) r).then fun b r=>if isT [101,108,115,101] r=true then (blkP c.L m (d+1) r.tail).then fun l r=>.ok (St.mk 3 ⟨#[]⟩ ⟨#[]⟩ [e] b l tp) r else .ok (St.mk 3 ⟨#[]⟩ ⟨#[]⟩ [e] b [] tp) r):=by first | (rw [Hid,HS.out,hZ1];done) | (rw [Hid,HS.out,hZ1];rfl) | (rw [Hid,HS.out,hZ1];unfold parenP;rfl)
 clear hZ1
 go_at_call 123
 refine (HC1.out _ (G.out.run.rd HR.out)).mono ?_
 rintro e w1 ⟨hf1,hm1⟩
 rcases Z1 with ⟨e1,r1⟩ | ⟨p,q⟩
 rotate_left
 · obtain rfl := hm1
   have HS2:=HS
   have AZ:=Lib.hid (G.out.run.fr.trans hf1)
   clear hf1
   go_wp2_with fail
   refine ⟨rfl,?_⟩
   rw [HS2.out]
   exact ⟨AZ.out,rfl⟩
 obtain ⟨v1,j1,rfl,⟨a1,cap1,rfl,hV1⟩,hR1,rfl⟩:=hm1
 have HS:Hid (Y=(blkP c.L m (d+1) (c.at j1)).then fun b r=>if isT [101,108,115,101] r=true then (blkP c.L m (d+1) r.tail).then fun l r=>.ok (St.mk 3 ⟨#[]⟩ ⟨#[]⟩ [e1] b l tp) r else .ok (St.mk 3 ⟨#[]⟩ ⟨#[]⟩ [e1] b [] tp) r):=HS.out
 have HL1:=Lib.hid (HSH1.out _ _ rfl)
 have V1:Hid (exsAt (fun b=>w.heap.size+1+1+1≤b) w1 [e1] a1):=Lib.hid (exsAt_mono hV1 (fun b hb=>by have:=G.out.st.lt;change _≤_ at hb;omega))
 have G:=Lib.hid (G.out.call hf1 hR1 hX.out)
 clear hf1 hR1 hV1
 have c3:=G.out.cell (i:=3) (v:=.slice none 0 0) rfl
 have z3:=G.out.frozen 3
 go_wp2_with fail
 rw [show w1.setCell ⟨w.heap.size+1+1,3,none⟩ (.slice a1 1 cap1)=w1.setRow (w.heap.size+1+1) #[.int .u8 3,.string ⟨#[]⟩,.string ⟨#[]⟩,.slice a1 1 cap1,.slice none 0 0,.slice none 0 0,.int .i64 0] from setCell_row G.out.st 3 _]
 have V1:=Lib.hid (exsAt_row V1.out #[.int .u8 3,.string ⟨#[]⟩,.string ⟨#[]⟩,.slice a1 1 cap1,.slice none 0 0,.slice none 0 0,.int .i64 0] (g:=w.heap.size+1+1) (by omega))
 have G:=Lib.hid (G.out.row #[.int .u8 3,.string ⟨#[]⟩,.string ⟨#[]⟩,.slice a1 1 cap1,.slice none 0 0,.slice none 0 0,.int .i64 0] hX.out)
 clear c3 z3
 obtain ⟨Z2,hZ2⟩:∃ Z2,Z2=blkP c.L m (d+1) (c.at j1):=⟨_,rfl⟩
 have HC2:Hid (∀ W,Rd c W j1→Calls Tryz.prog 124 #[.pointer (some ⟨c.X,0,none⟩),.int .i64 (d+1)] W (RdPost c W Z2 (fun l v w'=>stsVal W.heap.size l v w'))):=fun W RW=>by rw [hZ2];exact HB.out c W j1 (d+1) RW (by omega) (by omega) (by have:=HM.out;have:=HL1.out;omega)
 have HSH2:Hid (∀ e r,Z2=.ok e r→r.length<(c.at j1).length):=fun e r h=>blkP_short (hZ2.symm.trans h)
 have HS:Hid (Y=Z2.then fun b r=>if isT [101,108,115,101] r=true then (blkP c.L m (d+1) r.tail).then fun l r=>.ok (St.mk 3 ⟨#[]⟩ ⟨#[]⟩ [e1] b l tp) r else .ok (St.mk 3 ⟨#[]⟩ ⟨#[]⟩ [e1] b [] tp) r):=by first | (rw [Hid,HS.out,hZ2];done) | (rw [Hid,HS.out,hZ2];exact blk_then _ _ () ())
 clear hZ2
 go_at_call 124
 refine (HC2.out _ (G.out.run.rd HR.out)).mono ?_
 rintro e w2 ⟨hf2,hm2⟩
 rcases Z2 with ⟨e2,r2⟩ | ⟨p,q⟩
 rotate_left
 · obtain rfl := hm2
   have HS2:=HS
   have AZ:=Lib.hid (G.out.run.fr.trans hf2)
   clear hf2
   go_wp2_with fail
   refine ⟨rfl,?_⟩
   rw [HS2.out]
   exact ⟨AZ.out,rfl⟩
 obtain ⟨v2,j2,rfl,⟨a2,cap2,rfl,hV2⟩,hR2,rfl⟩:=hm2
 have HS:Hid (Y=if isT [101,108,115,101] (c.at j2)=true then (blkP c.L m (d+1) (c.at j2).tail).then fun l r=>.ok (St.mk 3 ⟨#[]⟩ ⟨#[]⟩ [e1] e2 l tp) r else .ok (St.mk 3 ⟨#[]⟩ ⟨#[]⟩ [e1] e2 [] tp) (c.at j2)):=HS.out
 have HL2:=Lib.hid (HSH2.out _ _ rfl)
 have V2:Hid (stsAt (fun b=>w.heap.size+1+1+1≤b) w2 e2 a2):=Lib.hid (stsAt_mono hV2 (fun b hb=>by have:=G.out.st.lt;change _≤_ at hb;omega))
 have V1:=Lib.hid (exsAt_call V1.out hf2 (by have:=hX.out;omega))
 have G:=Lib.hid (G.out.call hf2 hR2 hX.out)
 clear hf2 hR2 hV2
 have c4:=G.out.cell (i:=4) (v:=.slice none 0 0) rfl
 have z4:=G.out.frozen 4
 go_wp2_with fail
 rw [show w2.setCell ⟨w.heap.size+1+1,4,none⟩ (.slice a2 e2.length cap2)=w2.setRow (w.heap.size+1+1) #[.int .u8 3,.string ⟨#[]⟩,.string ⟨#[]⟩,.slice a1 1 cap1,.slice a2 e2.length cap2,.slice none 0 0,.int .i64 0] from setCell_row G.out.st 4 _]
 have V1:=Lib.hid (exsAt_row V1.out #[.int .u8 3,.string ⟨#[]⟩,.string ⟨#[]⟩,.slice a1 1 cap1,.slice a2 e2.length cap2,.slice none 0 0,.int .i64 0] (g:=w.heap.size+1+1) (by omega))
 have V2:=Lib.hid (stsAt_row V2.out #[.int .u8 3,.string ⟨#[]⟩,.string ⟨#[]⟩,.slice a1 1 cap1,.slice a2 e2.length cap2,.slice none 0 0,.int .i64 0] (g:=w.heap.size+1+1) (by omega))
 have G:=Lib.hid (G.out.row #[.int .u8 3,.string ⟨#[]⟩,.string ⟨#[]⟩,.slice a1 1 cap1,.slice a2 e2.length cap2,.slice none 0 0,.int .i64 0] hX.out)
 clear c4 z4
 obtain ⟨B3,hB3⟩:∃ b,b=isT [101,108,115,101] (c.at j2):=⟨_,rfl⟩
 have HC3:Hid (∀ W,Rd c W j2→Calls Tryz.prog 53 #[.pointer (some ⟨c.X,0,none⟩),.string ⟨#[101,108,115,101]⟩] W fun e w'=>e=.returned (.bool B3)∧Fr c W w'∧Rd c w' (if B3=true then j2+1 else j2)):=fun W RW=>by rw [hB3];exact p_pass RW ⟨#[101,108,115,101]⟩ (by decide)
 go_at_call 53
 refine (HC3.out _ (G.out.run.rd HR.out)).mono ?_
 rintro e w3 ⟨rfl,hf3,hR3⟩
 have HS2:=HS.out
 have V1:=Lib.hid (exsAt_call V1.out hf3 (by have:=hX.out;omega))
 have V2:=Lib.hid (stsAt_call V2.out hf3 (by have:=hX.out;omega))
 rw [← hB3] at HS2
 cases B3
 · have HS : Hid (Y = .ok (St.mk 3 ⟨#[]⟩ ⟨#[]⟩ [e1] e2 [] tp) (c.at j2)) := HS2
   have G:=Lib.hid (G.out.call hf3 (show Rd c w3 j2 from hR3) hX.out)
   clear HS2 hB3 HC3 hf3 hR3
   obtain ⟨WE,hWE⟩:∃ WE,Hid (WE=w3):=⟨_,rfl⟩
   rw [← hWE.out]
   rw [← hWE.out] at G V1 V2
   have OS:=G.out.st
   have OR:=G.out.res
   go_wp2_with (first | (refine ld rowSt rfl rfl rfl OS rfl ?_) | (refine st rowSt rfl rfl OR rfl rfl (by rfl) (by rfl) (by kernel_rfl) ?_))
   have hx:=hX.out
   have AE:=G.out.run.setRow (g:=w.heap.size+1) (by omega) (by omega) #[.int .u8 3,.string ⟨#[]⟩,.string ⟨#[]⟩,.slice a1 1 cap1,.slice a2 e2.length cap2,.slice none 0 0,.int .i64 0]
   refine p_ret rowSt rfl (OR.row #[.int .u8 3,.string ⟨#[]⟩,.string ⟨#[]⟩,.slice a1 1 cap1,.slice a2 e2.length cap2,.slice none 0 0,.int .i64 0]) rfl rfl rfl ?_
   rw [HS.out]
   exact ⟨AE.fr,_,j2,rfl,⟨rfl,_,_,_,_,_,_,rfl,exsAt_mono (exsAt_row V1.out _ (g:=w.heap.size+1) (by omega)) (fun b hb=>by omega),stsAt_mono (stsAt_row V2.out _ (g:=w.heap.size+1) (by omega)) (fun b hb=>by omega),.inl rfl⟩,AE.rd HR.out,rfl⟩
 have HS:Hid (Y=(blkP c.L m (d+1) (c.at (j2+1))).then fun l r=>.ok (St.mk 3 ⟨#[]⟩ ⟨#[]⟩ [e1] e2 l tp) r):=HS2.trans (by rw [if_pos rfl,Par.at_tail])
 have G:=Lib.hid (G.out.call hf3 (show Rd c w3 (j2+1) from hR3) hX.out)
 have HL3:=Lib.hid (at_step (Par.isT_lt hB3.symm))
 clear HS2 hB3 HC3 hf3 hR3
 go_wp2_with fail
 obtain ⟨Z4,hZ4⟩:∃ Z4,Z4=blkP c.L m (d+1) (c.at (j2+1)):=⟨_,rfl⟩
 have HC4:Hid (∀ W,Rd c W (j2+1)→Calls Tryz.prog 124 #[.pointer (some ⟨c.X,0,none⟩),.int .i64 (d+1)] W (RdPost c W Z4 (fun l v w'=>stsVal W.heap.size l v w'))):=fun W RW=>by rw [hZ4];exact HB.out c W (j2+1) (d+1) RW (by omega) (by omega) (by have:=HM.out;have:=HL1.out;have:=HL2.out;have:=HL3.out;omega)
 have HSH4:Hid (∀ e r,Z4=.ok e r→r.length<(c.at (j2+1)).length):=fun e r h=>blkP_short (hZ4.symm.trans h)
 have HS:Hid (Y=Z4.then fun b r=>.ok (St.mk 3 ⟨#[]⟩ ⟨#[]⟩ [e1] e2 b tp) r):=by first | (rw [Hid,HS.out,hZ4];done) | (rw [Hid,HS.out,hZ4];exact blk_then _ _ () ())
 clear hZ4
 go_at_call 124
 refine (HC4.out _ (G.out.run.rd HR.out)).mono ?_
 rintro e w4 ⟨hf4,hm4⟩
 rcases Z4 with ⟨e4,r4⟩ | ⟨p,q⟩
 rotate_left
 · obtain rfl := hm4
   have HS2:=HS
   have AZ:=Lib.hid (G.out.run.fr.trans hf4)
   clear hf4
   go_wp2_with fail
   refine ⟨rfl,?_⟩
   rw [HS2.out]
   exact ⟨AZ.out,rfl⟩
 obtain ⟨v4,j4,rfl,⟨a4,cap4,rfl,hV4⟩,hR4,rfl⟩:=hm4
 have HS:Hid (Y=.ok (St.mk 3 ⟨#[]⟩ ⟨#[]⟩ [e1] e2 e4 tp) (c.at j4)):=HS.out
 have HL4:=Lib.hid (HSH4.out _ _ rfl)
 have V4:Hid (stsAt (fun b=>w.heap.size+1+1+1≤b) w4 e4 a4):=Lib.hid (stsAt_mono hV4 (fun b hb=>by have:=G.out.st.lt;change _≤_ at hb;omega))
 have V1:=Lib.hid (exsAt_call V1.out hf4 (by have:=hX.out;omega))
 have V2:=Lib.hid (stsAt_call V2.out hf4 (by have:=hX.out;omega))
 have G:=Lib.hid (G.out.call hf4 hR4 hX.out)
 clear hf4 hR4 hV4
 have C4:=Lib.hid (G.out.cell (i:=5) (v:=.slice none 0 0) rfl)
 have Z4:=Lib.hid (G.out.frozen 5)
 have E5:w4.setCell ⟨w.heap.size+1+1,5,none⟩ (.slice a4 e4.length cap4)=w4.setRow (w.heap.size+1+1) #[.int .u8 3,.string ⟨#[]⟩,.string ⟨#[]⟩,.slice a1 1 cap1,.slice a2 e2.length cap2,.slice a4 e4.length cap4,.int .i64 0]:=setCell_row G.out.st 5 (.slice a4 e4.length cap4)
 have V1:=Lib.hid (exsAt_row V1.out #[.int .u8 3,.string ⟨#[]⟩,.string ⟨#[]⟩,.slice a1 1 cap1,.slice a2 e2.length cap2,.slice a4 e4.length cap4,.int .i64 0] (g:=w.heap.size+1+1) (by omega))
 have V2:=Lib.hid (stsAt_row V2.out #[.int .u8 3,.string ⟨#[]⟩,.string ⟨#[]⟩,.slice a1 1 cap1,.slice a2 e2.length cap2,.slice a4 e4.length cap4,.int .i64 0] (g:=w.heap.size+1+1) (by omega))
 have V4:=Lib.hid (stsAt_row V4.out #[.int .u8 3,.string ⟨#[]⟩,.string ⟨#[]⟩,.slice a1 1 cap1,.slice a2 e2.length cap2,.slice a4 e4.length cap4,.int .i64 0] (g:=w.heap.size+1+1) (by omega))
 have G:=Lib.hid (G.out.row #[.int .u8 3,.string ⟨#[]⟩,.string ⟨#[]⟩,.slice a1 1 cap1,.slice a2 e2.length cap2,.slice a4 e4.length cap4,.int .i64 0] hX.out)
 have OS:=G.out.st
 have OR:=G.out.res
 have C4:=C4.out
 have Z4:=Z4.out
 unfold zSt at OR
 go_wp2_with (first | (refine ld rowSt rfl rfl rfl OS rfl ?_) | (refine st rowSt rfl rfl OR rfl rfl (by rfl) (by rfl) (by kernel_rfl) ?_))
 clear C4 Z4 E5
 have hx:=hX.out
 have AE:=G.out.run.setRow (g:=w.heap.size+1) (by omega) (by omega) #[.int .u8 3,.string ⟨#[]⟩,.string ⟨#[]⟩,.slice a1 1 cap1,.slice a2 e2.length cap2,.slice a4 e4.length cap4,.int .i64 0]
 refine p_ret rowSt rfl (OR.row #[.int .u8 3,.string ⟨#[]⟩,.string ⟨#[]⟩,.slice a1 1 cap1,.slice a2 e2.length cap2,.slice a4 e4.length cap4,.int .i64 0]) rfl rfl rfl ?_
 rw [HS.out]
 exact ⟨AE.fr,_,j4,rfl,⟨rfl,_,_,_,_,_,_,rfl,exsAt_mono (exsAt_row V1.out _ (g:=w.heap.size+1) (by omega)) (fun b hb=>by omega),stsAt_mono (stsAt_row V2.out _ (g:=w.heap.size+1) (by omega)) (fun b hb=>by omega),stsAt_mono (stsAt_row V4.out _ (g:=w.heap.size+1) (by omega)) (fun b hb=>by omega)⟩,AE.rd HR.out,rfl⟩
theorem m_change {m:Nat} {c:Par} {w:World} {k:Nat} (R:Rd c w k) (t:Tk) (d:Int) (hd0:0≤d) (hd1:d≤64) (hm:3*(c.at k).length+3≤m) :
 Calls Tryz.prog 150 #[c.ptr,tkV t,.int .i64 d] w (RdPost c w ((need c.L [61] (c.at k)).then fun _ r=>if isT [115,119,97,112] r=true then (need c.L [40] r.tail).then fun _ r=>(nameP c.L r).then fun o r=>(need c.L [44] r).then fun _ r=>(binE fnd c.L m 1 0 r).then fun e r=>(need c.L [41] r).then fun _ r=>(need c.L [59] r).then fun _ r=>.ok (St.mk 2 t.text o.name [e] [] [] t.pos) r else (binE fnd c.L m 1 0 r).then fun e r=>(need c.L [59] r).then fun _ r=>.ok (St.mk 1 t.text ⟨#[]⟩ [e] [] [] t.pos) r) (fun s v w'=>s.pos=t.pos∧stR w.heap.size 0 s v w')):=by
 obtain ⟨tk,tx,tw,tp⟩:=t
 obtain ⟨Y,hY⟩:∃ Y,Y=(need c.L [61] (c.at k)).then fun _ r=>if isT [115,119,97,112] r=true then (need c.L [40] r.tail).then fun _ r=>(nameP c.L r).then fun o r=>(need c.L [44] r).then fun _ r=>(binE fnd c.L m 1 0 r).then fun e r=>(need c.L [41] r).then fun _ r=>(need c.L [59] r).then fun _ r=>.ok (St.mk 2 tx o.name [e] [] [] tp) r else (binE fnd c.L m 1 0 r).then fun e r=>(need c.L [59] r).then fun _ r=>.ok (St.mk 1 tx ⟨#[]⟩ [e] [] [] tp) r:=⟨_,rfl⟩
 have HS:=Lib.hid hY
 change Calls _ _ _ _ (RdPost c w ((need c.L [61] (c.at k)).then fun _ r=>if isT [115,119,97,112] r=true then (need c.L [40] r.tail).then fun _ r=>(nameP c.L r).then fun o r=>(need c.L [44] r).then fun _ r=>(binE fnd c.L m 1 0 r).then fun e r=>(need c.L [41] r).then fun _ r=>(need c.L [59] r).then fun _ r=>.ok (St.mk 2 tx o.name [e] [] [] tp) r else (binE fnd c.L m 1 0 r).then fun e r=>(need c.L [59] r).then fun _ r=>.ok (St.mk 1 tx ⟨#[]⟩ [e] [] [] tp) r) _)
 rw [← hY]
 have HR:=Lib.hid R
 have hX:=Lib.hid R.lt
 have HM:=Lib.hid hm
 have G:=Lib.hid (StG.start R ⟨tk,tx,tw,tp⟩ #[.int .u8 1,.string tx,.string ⟨#[]⟩,.slice none 0 0,.slice none 0 0,.slice none 0 0,.int .i64 0])
 clear hY R hm
 unfold tkV Par.ptr zSt at *
 go_enter Tryz.func150,Tryz.ntmps150
 go_wp2_with fail
 by_cases q1:isT [61] (c.at (k))=true
 rotate_left
 · have q1' : isT [61] (c.at (k)) = false := by simpa using q1
   go_at_call 127
   refine (p_take_bad (G.out.run.rd HR.out) ⟨#[61]⟩ (by decide) q1').mono ?_
   rintro e w1 ⟨rfl,hf1⟩
   have HS2:=HS.out
   rw [need_at,q1'] at HS2
   have HS2:=Lib.hid HS2
   clear q1 q1'
   have AZ:=Lib.hid (G.out.run.fr.trans hf1)
   clear hf1
   go_wp2_with fail
   refine ⟨rfl,?_⟩
   rw [HS2.out]
   exact ⟨AZ.out,rfl⟩
 go_at_call 127
 refine (p_take_ok (G.out.run.rd HR.out) ⟨#[61]⟩ (by decide) q1).mono ?_
 rintro e w1 ⟨rfl,hf1,hR1⟩
 have HS2:=HS.out
 rw [need_at,if_pos q1] at HS2
 have HS:Hid (Y=if isT [115,119,97,112] (c.at (k+1))=true then (need c.L [40] (c.at (k+1)).tail).then fun _ r=>(nameP c.L r).then fun o r=>(need c.L [44] r).then fun _ r=>(binE fnd c.L m 1 0 r).then fun e r=>(need c.L [41] r).then fun _ r=>(need c.L [59] r).then fun _ r=>.ok (St.mk 2 tx o.name [e] [] [] tp) r else (binE fnd c.L m 1 0 (c.at (k+1))).then fun e r=>(need c.L [59] r).then fun _ r=>.ok (St.mk 1 tx ⟨#[]⟩ [e] [] [] tp) r):=HS2
 have HL1:=Lib.hid (at_step (Par.isT_lt q1))
 have G:=Lib.hid (G.out.call hf1 hR1 hX.out)
 clear HS2 q1 hf1 hR1
 go_wp2_with fail
 obtain ⟨B2,hB2⟩:∃ b,b=isT [115,119,97,112] (c.at (k+1)):=⟨_,rfl⟩
 have HC2:Hid (∀ W,Rd c W (k+1)→Calls Tryz.prog 53 #[.pointer (some ⟨c.X,0,none⟩),.string ⟨#[115,119,97,112]⟩] W fun e w'=>e=.returned (.bool B2)∧Fr c W w'∧Rd c w' (if B2=true then (k+1)+1 else (k+1))):=fun W RW=>by rw [hB2];exact p_pass RW ⟨#[115,119,97,112]⟩ (by decide)
 go_at_call 53
 refine (HC2.out _ (G.out.run.rd HR.out)).mono ?_
 rintro e w2 ⟨rfl,hf2,hR2⟩
 have HS2:=HS.out
 rw [← hB2] at HS2
 cases B2
 · have HS : Hid (Y = (binE fnd c.L m 1 0 (c.at (k + 1))).then fun e r => (need c.L [59] r).then fun _ r => .ok (St.mk 1 tx ⟨#[]⟩ [e] [] [] tp) r) := HS2
   have G:=Lib.hid (G.out.call hf2 (show Rd c w2 (k+1) from hR2) hX.out)
   clear HS2 hB2 HC2 hf2 hR2
   go_wp2_with fail
   obtain ⟨Z3,hZ3⟩:∃ Z3,Z3=binE fnd c.L m 1 0 (c.at (k+1)):=⟨_,rfl⟩
   have HC3:Hid (∀ W,Rd c W (k+1)→Calls Tryz.prog 126 #[.pointer (some ⟨c.X,0,none⟩)] W (RdPost c W Z3 (fun e v w'=>exsVal W.heap.size [e] v w'))):=fun W RW=>by rw [hZ3];exact p_value RW (by have:=HM.out;have:=HL1.out;omega)
   have HSH3:Hid (∀ e r,Z3=.ok e r→r.length<(c.at (k+1)).length):=fun e r h=>binE_short (hZ3.symm.trans h)
   have HS:Hid (Y=Z3.then fun e r=>(need c.L [59] r).then fun _ r=>.ok (St.mk 1 tx ⟨#[]⟩ [e] [] [] tp) r):=by first | (rw [Hid,HS.out,hZ3];done) | (rw [Hid,HS.out,hZ3];rfl) | (rw [Hid,HS.out,hZ3];unfold parenP;rfl)
   clear hZ3
   go_at_call 126
   refine (HC3.out _ (G.out.run.rd HR.out)).mono ?_
   rintro e w3 ⟨hf3,hm3⟩
   rcases Z3 with ⟨e3,r3⟩ | ⟨p,q⟩
   rotate_left
   · obtain rfl := hm3
     have HS2:=HS
     have AZ:=Lib.hid (G.out.run.fr.trans hf3)
     clear hf3
     go_wp2_with fail
     refine ⟨rfl,?_⟩
     rw [HS2.out]
     exact ⟨AZ.out,rfl⟩
   obtain ⟨v3,j3,rfl,⟨a3,cap3,rfl,hV3⟩,hR3,rfl⟩:=hm3
   have HS:Hid (Y=(need c.L [59] (c.at j3)).then fun _ r=>.ok (St.mk 1 tx ⟨#[]⟩ [e3] [] [] tp) r):=HS.out
   have HL3:=Lib.hid (HSH3.out _ _ rfl)
   have V3:Hid (exsAt (fun b=>w.heap.size+1+1+1≤b) w3 [e3] a3):=Lib.hid (exsAt_mono hV3 (fun b hb=>by have:=G.out.st.lt;change _≤_ at hb;omega))
   have G:=Lib.hid (G.out.call hf3 hR3 hX.out)
   clear hf3 hR3 hV3
   have c3:=G.out.cell (i:=3) (v:=.slice none 0 0) rfl
   have z3:=G.out.frozen 3
   go_wp2_with fail
   rw [show w3.setCell ⟨w.heap.size+1+1,3,none⟩ (.slice a3 1 cap3)=w3.setRow (w.heap.size+1+1) #[.int .u8 1,.string tx,.string ⟨#[]⟩,.slice a3 1 cap3,.slice none 0 0,.slice none 0 0,.int .i64 0] from setCell_row G.out.st 3 _]
   have V3:=Lib.hid (exsAt_row V3.out #[.int .u8 1,.string tx,.string ⟨#[]⟩,.slice a3 1 cap3,.slice none 0 0,.slice none 0 0,.int .i64 0] (g:=w.heap.size+1+1) (by omega))
   have G:=Lib.hid (G.out.row #[.int .u8 1,.string tx,.string ⟨#[]⟩,.slice a3 1 cap3,.slice none 0 0,.slice none 0 0,.int .i64 0] hX.out)
   clear c3 z3
   by_cases q4:isT [59] (c.at (j3))=true
   rotate_left
   · have q4' : isT [59] (c.at (j3)) = false := by simpa using q4
     go_at_call 127
     refine (p_take_bad (G.out.run.rd HR.out) ⟨#[59]⟩ (by decide) q4').mono ?_
     rintro e w4 ⟨rfl,hf4⟩
     have HS2:=HS.out
     rw [need_at,q4'] at HS2
     have HS2:=Lib.hid HS2
     clear q4 q4'
     have AZ:=Lib.hid (G.out.run.fr.trans hf4)
     clear hf4
     go_wp2_with fail
     refine ⟨rfl,?_⟩
     rw [HS2.out]
     exact ⟨AZ.out,rfl⟩
   go_at_call 127
   refine (p_take_ok (G.out.run.rd HR.out) ⟨#[59]⟩ (by decide) q4).mono ?_
   rintro e w4 ⟨rfl,hf4,hR4⟩
   have HS2:=HS.out
   rw [need_at,if_pos q4] at HS2
   have HS:Hid (Y=.ok (St.mk 1 tx ⟨#[]⟩ [e3] [] [] tp) (c.at (j3+1))):=HS2
   have HL4:=Lib.hid (at_step (Par.isT_lt q4))
   have V3:=Lib.hid (exsAt_call V3.out hf4 (by have:=hX.out;omega))
   have G:=Lib.hid (G.out.call hf4 hR4 hX.out)
   clear HS2 q4 hf4 hR4
   obtain ⟨WE,hWE⟩:∃ WE,Hid (WE=w4):=⟨_,rfl⟩
   rw [← hWE.out]
   rw [← hWE.out] at G V3
   have OS:=G.out.st
   have OR:=G.out.res
   go_wp2_with (first | (refine ld rowSt rfl rfl rfl OS rfl ?_) | (refine st rowSt rfl rfl OR rfl rfl (by rfl) (by rfl) (by kernel_rfl) ?_))
   have hx:=hX.out
   have AE:=G.out.run.setRow (g:=w.heap.size+1) (by omega) (by omega) #[.int .u8 1,.string tx,.string ⟨#[]⟩,.slice a3 1 cap3,.slice none 0 0,.slice none 0 0,.int .i64 0]
   refine p_ret rowSt rfl (OR.row #[.int .u8 1,.string tx,.string ⟨#[]⟩,.slice a3 1 cap3,.slice none 0 0,.slice none 0 0,.int .i64 0]) rfl rfl rfl ?_
   rw [HS.out]
   exact ⟨AE.fr,_,(j3+1),rfl,⟨rfl,_,_,_,_,_,_,rfl,exsAt_mono (exsAt_row V3.out _ (g:=w.heap.size+1) (by omega)) (fun b hb=>by omega),.inl rfl,.inl rfl⟩,AE.rd HR.out,rfl⟩
 have HS:Hid (Y=(need c.L [40] (c.at ((k+1)+1))).then fun _ r=>(nameP c.L r).then fun o r=>(need c.L [44] r).then fun _ r=>(binE fnd c.L m 1 0 r).then fun e r=>(need c.L [41] r).then fun _ r=>(need c.L [59] r).then fun _ r=>.ok (St.mk 2 tx o.name [e] [] [] tp) r):=HS2.trans (by rw [if_pos rfl,Par.at_tail])
 have G:=Lib.hid (G.out.call hf2 (show Rd c w2 ((k+1)+1) from hR2) hX.out)
 have HL2:=Lib.hid (at_step (Par.isT_lt hB2.symm))
 clear HS2 hB2 HC2 hf2 hR2
 have c0:=G.out.cell (i:=0) (v:=.int .u8 1) rfl
 have z0:=G.out.frozen 0
 go_wp2_with fail
 rw [show w2.setCell ⟨w.heap.size+1+1,0,none⟩ (.int .u8 2)=w2.setRow (w.heap.size+1+1) #[.int .u8 2,.string tx,.string ⟨#[]⟩,.slice none 0 0,.slice none 0 0,.slice none 0 0,.int .i64 0] from setCell_row G.out.st 0 _]
 have G:=Lib.hid (G.out.row #[.int .u8 2,.string tx,.string ⟨#[]⟩,.slice none 0 0,.slice none 0 0,.slice none 0 0,.int .i64 0] hX.out)
 clear c0 z0
 by_cases q3:isT [40] (c.at (((k+1)+1)))=true
 rotate_left
 · have q3' : isT [40] (c.at (((k + 1) + 1))) = false := by simpa using q3
   go_at_call 127
   refine (p_take_bad (G.out.run.rd HR.out) ⟨#[40]⟩ (by decide) q3').mono ?_
   rintro e w3 ⟨rfl,hf3⟩
   have HS2:=HS.out
   rw [need_at,q3'] at HS2
   have HS2:=Lib.hid HS2
   clear q3 q3'
   have AZ:=Lib.hid (G.out.run.fr.trans hf3)
   clear hf3
   go_wp2_with fail
   refine ⟨rfl,?_⟩
   rw [HS2.out]
   exact ⟨AZ.out,rfl⟩
 go_at_call 127
 refine (p_take_ok (G.out.run.rd HR.out) ⟨#[40]⟩ (by decide) q3).mono ?_
 rintro e w3 ⟨rfl,hf3,hR3⟩
 have HS2:=HS.out
 rw [need_at,if_pos q3] at HS2
 have HS:Hid (Y=(nameP c.L (c.at (((k+1)+1)+1))).then fun o r=>(need c.L [44] r).then fun _ r=>(binE fnd c.L m 1 0 r).then fun e r=>(need c.L [41] r).then fun _ r=>(need c.L [59] r).then fun _ r=>.ok (St.mk 2 tx o.name [e] [] [] tp) r):=HS2
 have HL3:=Lib.hid (at_step (Par.isT_lt q3))
 have G:=Lib.hid (G.out.call hf3 hR3 hX.out)
 clear HS2 q3 hf3 hR3
 go_wp2_with fail
 by_cases q4:(c.nx (((k+1)+1)+1)).kind=1
 rotate_left
 · go_at_call 125
   refine (p_kind_bad (G.out.run.rd HR.out) 1 q4).mono ?_
   rintro e w4 ⟨rfl,hf4⟩
   have HS2:=HS.out
   rw [nameP_at,if_neg q4] at HS2
   have HS2:=Lib.hid HS2
   clear q4
   have AZ:=Lib.hid (G.out.run.fr.trans hf4)
   clear hf4
   go_wp2_with fail
   refine ⟨rfl,?_⟩
   rw [HS2.out]
   exact ⟨AZ.out,rfl⟩
 have HK4:=Lib.hid (p_kind_ok (G.out.run.rd HR.out) 1 q4 (nx_lt (.inl (by rw [q4];decide))))
 obtain ⟨t4,ht4⟩:∃ t,t=c.nx (((k+1)+1)+1):=⟨_,rfl⟩
 have HS2:=HS.out
 rw [nameP_at,if_pos q4,← ht4] at HS2
 have HL4:=Lib.hid (at_step (c:=c) (k:=(((k+1)+1)+1)) (nx_lt (.inl (by rw [q4];decide))))
 rw [← ht4] at HK4
 have HS:Hid (Y=(need c.L [44] (c.at ((((k+1)+1)+1)+1))).then fun _ r=>(binE fnd c.L m 1 0 r).then fun e r=>(need c.L [41] r).then fun _ r=>(need c.L [59] r).then fun _ r=>.ok (St.mk 2 tx t4.text [e] [] [] tp) r):=HS2
 clear q4 ht4 HS2
 obtain ⟨nk4,nm4,nw4,np4⟩:=t4
 unfold tkV Par.ptr at HK4
 go_at_call 125
 refine (HK4.out).mono ?_
 rintro e w4 ⟨rfl,hf4,hR4⟩
 have G:=Lib.hid (G.out.call hf4 hR4 hX.out)
 clear hf4 hR4
 have c2:=G.out.cell (i:=2) (v:=.string ⟨#[]⟩) rfl
 have z2:=G.out.frozen 2
 have F1:=tok_f1
 go_wp2_with fail
 rw [show w4.setCell ⟨w.heap.size+1+1,2,none⟩ (.string nm4)=w4.setRow (w.heap.size+1+1) #[.int .u8 2,.string tx,.string nm4,.slice none 0 0,.slice none 0 0,.slice none 0 0,.int .i64 0] from setCell_row G.out.st 2 _]
 have G:=Lib.hid (G.out.row #[.int .u8 2,.string tx,.string nm4,.slice none 0 0,.slice none 0 0,.slice none 0 0,.int .i64 0] hX.out)
 clear c2 z2
 clear F1
 by_cases q5:isT [44] (c.at (((((k+1)+1)+1)+1)))=true
 rotate_left
 · have q5' : isT [44] (c.at (((((k + 1) + 1) + 1) + 1))) = false := by simpa using q5
   go_at_call 127
   refine (p_take_bad (G.out.run.rd HR.out) ⟨#[44]⟩ (by decide) q5').mono ?_
   rintro e w5 ⟨rfl,hf5⟩
   have HS2:=HS.out
   rw [need_at,q5'] at HS2
   have HS2:=Lib.hid HS2
   clear q5 q5'
   have AZ:=Lib.hid (G.out.run.fr.trans hf5)
   clear hf5
   go_wp2_with fail
   refine ⟨rfl,?_⟩
   rw [HS2.out]
   exact ⟨AZ.out,rfl⟩
 go_at_call 127
 refine (p_take_ok (G.out.run.rd HR.out) ⟨#[44]⟩ (by decide) q5).mono ?_
 rintro e w5 ⟨rfl,hf5,hR5⟩
 have HS2:=HS.out
 rw [need_at,if_pos q5] at HS2
 have HS:Hid (Y=(binE fnd c.L m 1 0 (c.at (((((k+1)+1)+1)+1)+1))).then fun e r=>(need c.L [41] r).then fun _ r=>(need c.L [59] r).then fun _ r=>.ok (St.mk 2 tx nm4 [e] [] [] tp) r):=HS2
 have HL5:=Lib.hid (at_step (Par.isT_lt q5))
 have G:=Lib.hid (G.out.call hf5 hR5 hX.out)
 clear HS2 q5 hf5 hR5
 go_wp2_with fail
 obtain ⟨Z6,hZ6⟩:∃ Z6,Z6=binE fnd c.L m 1 0 (c.at (((((k+1)+1)+1)+1)+1)):=⟨_,rfl⟩
 have HC6:Hid (∀ W,Rd c W (((((k+1)+1)+1)+1)+1)→Calls Tryz.prog 126 #[.pointer (some ⟨c.X,0,none⟩)] W (RdPost c W Z6 (fun e v w'=>exsVal W.heap.size [e] v w'))):=fun W RW=>by rw [hZ6];exact p_value RW (by have:=HM.out;have:=HL1.out;have:=HL2.out;have:=HL3.out;have:=HL4.out;have:=HL5.out;omega)
 have HSH6:Hid (∀ e r,Z6=.ok e r→r.length<(c.at (((((k+1)+1)+1)+1)+1)).length):=fun e r h=>binE_short (hZ6.symm.trans h)
 have HS:Hid (Y=Z6.then fun e r=>(need c.L [41] r).then fun _ r=>(need c.L [59] r).then fun _ r=>.ok (St.mk 2 tx nm4 [e] [] [] tp) r):=by first | (rw [Hid,HS.out,hZ6];done) | (rw [Hid,HS.out,hZ6];rfl) | (rw [Hid,HS.out,hZ6];unfold parenP;rfl)
 clear hZ6
 go_at_call 126
 refine (HC6.out _ (G.out.run.rd HR.out)).mono ?_
 rintro e w6 ⟨hf6,hm6⟩
 rcases Z6 with ⟨e6,r6⟩ | ⟨p,q⟩
 rotate_left
 · obtain rfl := hm6
   have HS2:=HS
   have AZ:=Lib.hid (G.out.run.fr.trans hf6)
   clear hf6
   go_wp2_with fail
   refine ⟨rfl,?_⟩
   rw [HS2.out]
   exact ⟨AZ.out,rfl⟩
 obtain ⟨v6,j6,rfl,⟨a6,cap6,rfl,hV6⟩,hR6,rfl⟩:=hm6
 have HS:Hid (Y=(need c.L [41] (c.at j6)).then fun _ r=>(need c.L [59] r).then fun _ r=>.ok (St.mk 2 tx nm4 [e6] [] [] tp) r):=HS.out
 have HL6:=Lib.hid (HSH6.out _ _ rfl)
 have V6:Hid (exsAt (fun b=>w.heap.size+1+1+1≤b) w6 [e6] a6):=Lib.hid (exsAt_mono hV6 (fun b hb=>by have:=G.out.st.lt;change _≤_ at hb;omega))
 have G:=Lib.hid (G.out.call hf6 hR6 hX.out)
 clear hf6 hR6 hV6
 have c3:=G.out.cell (i:=3) (v:=.slice none 0 0) rfl
 have z3:=G.out.frozen 3
 go_wp2_with fail
 rw [show w6.setCell ⟨w.heap.size+1+1,3,none⟩ (.slice a6 1 cap6)=w6.setRow (w.heap.size+1+1) #[.int .u8 2,.string tx,.string nm4,.slice a6 1 cap6,.slice none 0 0,.slice none 0 0,.int .i64 0] from setCell_row G.out.st 3 _]
 have V6:=Lib.hid (exsAt_row V6.out #[.int .u8 2,.string tx,.string nm4,.slice a6 1 cap6,.slice none 0 0,.slice none 0 0,.int .i64 0] (g:=w.heap.size+1+1) (by omega))
 have G:=Lib.hid (G.out.row #[.int .u8 2,.string tx,.string nm4,.slice a6 1 cap6,.slice none 0 0,.slice none 0 0,.int .i64 0] hX.out)
 clear c3 z3
 by_cases q7:isT [41] (c.at (j6))=true
 rotate_left
 · have q7' : isT [41] (c.at (j6)) = false := by simpa using q7
   go_at_call 127
   refine (p_take_bad (G.out.run.rd HR.out) ⟨#[41]⟩ (by decide) q7').mono ?_
   rintro e w7 ⟨rfl,hf7⟩
   have HS2:=HS.out
   rw [need_at,q7'] at HS2
   have HS2:=Lib.hid HS2
   clear q7 q7'
   have AZ:=Lib.hid (G.out.run.fr.trans hf7)
   clear hf7
   go_wp2_with fail
   refine ⟨rfl,?_⟩
   rw [HS2.out]
   exact ⟨AZ.out,rfl⟩
 go_at_call 127
 refine (p_take_ok (G.out.run.rd HR.out) ⟨#[41]⟩ (by decide) q7).mono ?_
 rintro e w7 ⟨rfl,hf7,hR7⟩
 have HS2:=HS.out
 rw [need_at,if_pos q7] at HS2
 have HS:Hid (Y=(need c.L [59] (c.at (j6+1))).then fun _ r=>.ok (St.mk 2 tx nm4 [e6] [] [] tp) r):=HS2
 have HL7:=Lib.hid (at_step (Par.isT_lt q7))
 have V6:=Lib.hid (exsAt_call V6.out hf7 (by have:=hX.out;omega))
 have G:=Lib.hid (G.out.call hf7 hR7 hX.out)
 clear HS2 q7 hf7 hR7
 go_wp2_with fail
 by_cases q8:isT [59] (c.at ((j6+1)))=true
 rotate_left
 · have q8' : isT [59] (c.at ((j6 + 1))) = false := by simpa using q8
   go_at_call 127
   refine (p_take_bad (G.out.run.rd HR.out) ⟨#[59]⟩ (by decide) q8').mono ?_
   rintro e w8 ⟨rfl,hf8⟩
   have HS2:=HS.out
   rw [need_at,q8'] at HS2
   have HS2:=Lib.hid HS2
   clear q8 q8'
   have AZ:=Lib.hid (G.out.run.fr.trans hf8)
   clear hf8
   go_wp2_with fail
   refine ⟨rfl,?_⟩
   rw [HS2.out]
   exact ⟨AZ.out,rfl⟩
 go_at_call 127
 refine (p_take_ok (G.out.run.rd HR.out) ⟨#[59]⟩ (by decide) q8).mono ?_
 rintro e w8 ⟨rfl,hf8,hR8⟩
 have HS2:=HS.out
 rw [need_at,if_pos q8] at HS2
 have HS:Hid (Y=.ok (St.mk 2 tx nm4 [e6] [] [] tp) (c.at ((j6+1)+1))):=HS2
 have HL8:=Lib.hid (at_step (Par.isT_lt q8))
 have V6:=Lib.hid (exsAt_call V6.out hf8 (by have:=hX.out;omega))
 have G:=Lib.hid (G.out.call hf8 hR8 hX.out)
 clear HS2 q8 hf8 hR8
 obtain ⟨WE,hWE⟩:∃ WE,Hid (WE=w8):=⟨_,rfl⟩
 rw [← hWE.out]
 rw [← hWE.out] at G V6
 have OS:=G.out.st
 have OR:=G.out.res
 go_wp2_with (first | (refine ld rowSt rfl rfl rfl OS rfl ?_) | (refine st rowSt rfl rfl OR rfl rfl (by rfl) (by rfl) (by kernel_rfl) ?_))
 have hx:=hX.out
 have AE:=G.out.run.setRow (g:=w.heap.size+1) (by omega) (by omega) #[.int .u8 2,.string tx,.string nm4,.slice a6 1 cap6,.slice none 0 0,.slice none 0 0,.int .i64 0]
 refine p_ret rowSt rfl (OR.row #[.int .u8 2,.string tx,.string nm4,.slice a6 1 cap6,.slice none 0 0,.slice none 0 0,.int .i64 0]) rfl rfl rfl ?_
 rw [HS.out]
 exact ⟨AE.fr,_,((j6+1)+1),rfl,⟨rfl,_,_,_,_,_,_,rfl,exsAt_mono (exsAt_row V6.out _ (g:=w.heap.size+1) (by omega)) (fun b hb=>by omega),.inl rfl,.inl rfl⟩,AE.rd HR.out,rfl⟩
end Go.Proofs.YtggbkldniffbfaaGreatDoor

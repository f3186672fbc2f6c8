import Derived.Test.YtbgfkdiihnidaaaGreatDoorQAT
set_option maxRecDepth 100000
set_option maxHeartbeats 20000000
namespace Go.Proofs.YtbgfkdiihnidaaaGreatDoor
open Go.RowKit
set_option linter.unusedVariables false
set_option maxRecDepth 100000
def mF (k:Int):FuncId:=if k=1 then 107 else if k=2 then 108 else if k=3 then 109 else if k=4 then 110 else if k=5 then 111 else if k=6 then 112 else 113
theorem wt_deep {b:Nat} {txt:List UInt8} {d:Int} {fs:List Value} {W:World} (h:Wt b txt d fs W) (d':Int):Wt b txt d' fs (W.setCell ⟨b,2,none⟩ (.int .i64 d'))/\Keep (selW b) W (W.setCell ⟨b,2,none⟩ (.int .i64 d'))/\Below b W (W.setCell ⟨b,2,none⟩ (.int .i64 d')):=by
 obtain ⟨p,v,a,i,c,g,f⟩:=h;exact ⟨⟨p,v,heap_setCell_same W b 2 _ _ _ a,i,c,g,ownsRow_setCell_below f (show b<b+1 by omega) _⟩,(Keep.refl _ W).setCell (p:=⟨b,2,none⟩) _ a (fun hs=>hs.1 rfl),(Below.refl b W).setCell (p:=⟨b,2,none⟩) (Nat.le_refl b) _⟩
theorem wt_frozen {b:Nat} {txt:List UInt8} {d:Int} {fs:List Value} {W:World} (h:Wt b txt d fs W) (j:Nat):W.frozen? ⟨b,j,none⟩=false:=by
 obtain ⟨p,v,a,_⟩:=h;exact own_frozen a j
theorem wt_meth {b:Nat} {txt:List UInt8} {d:Int} {W:World} (h:Wt b txt d (mFs b) W) {j:Nat} {v:Value} (hj:(mFs b)[j]? = some v):W.cell? ⟨b,3+j,none⟩=some v:=by
 obtain ⟨p,u,a,_⟩:=h;rw [cell_of_row _ _ (3+j) _ _ _ a,List.getElem?_toArray,show 3+j=j+3 by omega]
 exact hj
theorem tSs_append:∀ (l r:List St) (d:Nat),tSs (l++r) d=tSs l d++tSs r d
 | [],r,d=>by simp [tSs]
 | x::l,r,d=>by simp only [List.cons_append,tSs,tSs_append l r d,List.append_assoc]
def WrS (x:St):Prop:=∀ dd:Nat,dd<=64->rS x dd=true->okS x->rgS x->∀ (a3 a4 a5:Option Addr) (c3 c4 c5:Nat) (w0 w:World) (b:Nat) (txt:List UInt8),exsAt (fun _=>True) w0 x.e a3->stsAt (fun _=>True) w0 x.body a4->stsAt (fun _=>True) w0 x.els a5 ->
 WTb w0->b=w0.heap.size->Below b w0 w->Wt b txt dd (mFs b) w->txt.length<=65536->Calls Tryz.prog (mF x.kind) #[.pointer (some ⟨b,0,none⟩),.agg (stCells x a3 c3 a4 c4 a5 c5).toArray] w (PutP b txt (tS x dd) dd (mFs b) w)
def WrB (l:List St):Prop:=∀ dd:Nat,rB l (dd+1)=true->okSs l->l.length<=9223372036854775807->rgSs l->∀ (a:Option Addr) (c:Nat) (w0 w:World) (b:Nat) (txt:List UInt8),stsAt (fun _=>True) w0 l a ->
 WTb w0->b=w0.heap.size->Below b w0 w->Wt b txt dd (mFs b) w->txt.length<=65536->Calls Tryz.prog 49 #[.pointer (some ⟨b,0,none⟩),.slice a l.length c] w (PutP b txt (tSs l (dd+1)) dd (mFs b) w)
theorem kind_cases {k:Int} (h0:0<k) (h8:k<8):k=1\/k=2\/k=3\/k=4\/k=5\/k=6\/k=7:=by omega
theorem rAll_get:∀ {l:List St} {d:Int} {x:St},rAll l d=true->x∈l->rS x d=true
 | y :: r, d, x, h, hm => by
   simp only [rAll,Bool.and_eq_true] at h
   rcases List.mem_cons.1 hm with rfl | hm
   · exact h.1
   · exact rAll_get h.2 hm
theorem p_wblock {l:List St} (HI:∀ x∈l,WrS x):WrB l:=by
 intro A hr a6 bl ba a c Z w b X m TT bd bf N ht;unfold rB at hr;simp only [Bool.and_eq_true,decide_eq_true_eq] at hr;have HI:=Hd HI;have HO:=Hd a6;have b5:=Hd ba;have b6:=Hd hr.2;have br:A+1<=64:=by omega
 have E1:=Hd m;have b7:=Hd TT;have bs:=Hd bd;have bj:=Hd br;obtain ⟨n,hn⟩:=Qx l.length;rw [<- hn] at bl ⊢;have HN:=Hd hn;have c2:=N.deep;have z2:=wt_frozen N 2;have co:IntKind.i64.wrap ((A:Int)+1)=(A:Int)+1:=IntWalk.i64_in _ (by omega)
 obtain ⟨k1,k2,k3⟩:=wt_deep N ((A:Int)+1);obtain ⟨W0,aq⟩:=Qx (w.setCell ⟨b,2,none⟩ (.int .i64 ((A:Int)+1)));rw [<- aq] at k1 k2 k3;have be:Hid (Wt b (X++tSs (l.take 0) (A+1)) ((A:Int)+1) (mFs b) W0):=by rw [Hid,List.take_zero];simpa [tSs] using k1
 have bm:Hid ((X++tSs (l.take 0) (A+1)).length<=65536):=by rw [Hid,List.take_zero];simpa [tSs] using ht
 have a7:Hid (Below b Z W0/\Keep (selW b) w W0/\Below b w W0):=⟨bf.trans k3,k2,k3⟩;have e0:=aq.symm;clear hr a6 ba br m TT bd bf N ht hn k1 k2 k3 aq;go_enter Tryz.func49,Tryz.ntmps49;go_wp2_with fail;clear c2 z2 e0;go_loopg [15] (n+1) (fun m' u W=>∃ i:Nat,u=.int .i64 (i:Int)/\i<=n/\m'=n-i+1/\(X++tSs (l.take i) (A+1)).length<=65536/\Wt b (X++tSs (l.take i) (A+1)) ((A:Int)+1) (mFs b) W/\Below b Z W/\Keep (selW b) w W/\Below b w W)
 case atStart=>exact ⟨0,rfl,Nat.zero_le _,by omega,bm.out,be.out,a7.out⟩
 case round =>
  clear bm be a7;obtain ⟨i,rfl,hi,hm,bn,a8,bi,bk,bq⟩:=hrel;have HM:=Hd hm;have HL:=Hd bn;have HX:=Hd a8;have HC:=Hd (And.intro bi (And.intro bk bq));clear hm bn a8 bi bk bq;by_cases hin:i<n
  · have il : i < l.length := by have := HN.out; omega
    have g1:l[i]? = some l[i]:=List.getElem?_eq_getElem il;have Q:l[i]∈l:=List.getElem_mem il;have ak:l.take (i+1)=l.take i++[l[i]]:=by rw [List.take_succ_eq_append_getElem il]
    have ah:l=l.take i++(l[i]::l.drop (i+1)):=by rw [<- List.drop_eq_getElem_cons il,List.take_append_drop]
    generalize l[i]=x at g1 Q ak ah;have cm:(i:Int)<(n:Int):=by omega
    rcases E1.out with e | ⟨g,q,e,_,e1⟩
    · cases l with
      | nil=>simp at il
      | cons=>cases e
    obtain rfl:a=some ⟨g,q,none⟩:=e;have x1:=stsIn_get i x e1 g1;obtain ⟨k,B,C,es,bo,el,D⟩:=x;obtain ⟨f0,f1,f2,⟨G,p,f3,w3⟩,⟨H,r,f4,w4⟩,⟨F,s,f5,w5⟩,f6⟩:=x1;have lg:=lt_of_at f0;simp only at lg;rw [<- bs.out] at lg;have aa:=rAll_get b6.out Q;have E:Hid (∀ t W,Below b Z W->Wt b t ((A:Int)+1) (mFs b) W->t.length<=65536->Calls Tryz.prog (mF k) #[.pointer (some ⟨b,0,none⟩),.agg #[.int .u8 k,.string B,.string C,.slice G es.length p,.slice H bo.length r,.slice F el.length s,.int .i64 D]] W (PutP b t (tS (.mk k B C es bo el D) (A+1)) ((A:Int)+1) (mFs b) W)):=fun t W m V h3 =>
     HI.out _ Q (A+1) bj.out aa (okSs_mem HO.out _ Q) (rgSs_mem b5.out _ Q) G H F p r s Z W b t w3 w4 w5 b7.out bs.out m V h3
    have bp:0<k/\k<8:=by
     simp only [rS,Bool.and_eq_true,decide_eq_true_eq] at aa;exact ⟨aa.1,aa.2.1⟩
    have BX:=HC.out.1;have f0:=cb BX lg f0;have f1:=cb BX lg f1;have f2:=cb BX lg f2;have f3:=cb BX lg f3;have f4:=cb BX lg f4;have f5:=cb BX lg f5;have f6:=cb BX lg f6;have K:Hid (tSs (l.take (i+1)) (A+1)=tSs (l.take i) (A+1)++tS (.mk k B C es bo el D) (A+1)):=by rw [Hid,ak,tSs_append];simp only [tSs,List.append_nil]
    have T:Hid (tSs l (A+1)=tSs (l.take i) (A+1)++(tS (.mk k B C es bo el D) (A+1)++tSs (l.drop (i+1)) (A+1))):=by rw [Hid];refine (congrArg (fun z=>tSs z (A+1)) ah).trans ?_;show tSs (l.take i++(St.mk k B C es bo el D::l.drop (i+1))) (A+1)=_;rw [tSs_append];simp only [tSs]
    generalize tS (.mk k B C es bo el D) (A+1)=tx at E K T;generalize es.length=n3 at E f3;generalize bo.length=n4 at E f4;generalize el.length=n5 at E f5;obtain ⟨ti,ao⟩:=Qx (X++tSs (l.take i) (A+1));rw [<- ao] at HL HX;have o:=Hd ao;clear ao;clear g1 Q ak ah e1 il BX w3 w4 w5 lg aa;have O1:=Own.new wr 120 #[.int .u8 k,.string B,.string C,.slice G n3 p,.slice H n4 r,.slice F n5 s,.int .i64 D];have al:Below wr.heap.size wr (wr.alloc (.cells #[.int .u8 k,.string B,.string C,.slice G n3 p,.slice H n4 r,.slice F n5 s,.int .i64 D] 120)):=(Below.refl _ wr).alloc (Nat.le_refl _) _;have an:=HX.out.lt;have HS:Hid (Sst Z w b wr.heap.size #[.int .u8 k,.string B,.string C,.slice G n3 p,.slice H n4 r,.slice F n5 s,.int .i64 D] ti ((A:Int)+1) (mFs b) (wr.alloc (.cells #[.int .u8 k,.string B,.string C,.slice G n3 p,.slice H n4 r,.slice F n5 s,.int .i64 D] 120))):=⟨O1,HX.out.below al,HC.out.1.trans (al.mono (Nat.le_of_lt an)),HC.out.2.1.trans (keep_below al),HC.out.2.2.trans (al.mono (Nat.le_of_lt an))⟩;have HG:Hid (wr.heap.size≠b):=by rw [Hid];omega
    obtain ⟨L,av⟩:=Qx (wr.alloc (.cells #[.int .u8 k,.string B,.string C,.slice G n3 p,.slice H n4 r,.slice F n5 s,.int .i64 D] 120));rw [<- av] at HS;have U:=Hd av;clear O1 al an av;have bh:=Hd bp;clear bp;rcases kind_cases bh.out.1 bh.out.2 with rfl | rfl | rfl | rfl | rfl | rfl | rfl
    · rw [show mF 1 = 107 from rfl] at E
      go_upto_region 4 with (fail)
      rw [<- U.out];refine wp_region_held (S:=fun W=>∃ t,Sst Z w b wr.heap.size #[.int .u8 1,.string B,.string C,.slice G n3 p,.slice H n4 r,.slice F n5 s,.int .i64 D] t ((A:Int)+1) (mFs b) W) (by kernel_rfl) ?_
      change wpAnyH _ _ _ _ _ _ _ _ L.drew;have I:=sst_below HS.out (below_drewN (Below.refl _ L) 1);change Sst _ _ _ _ _ _ _ _ L.drew at I;obtain ⟨W2,y⟩:=Qx L.drew;rw [<- y] at I ⊢;have d:=Hd I;clear I y;refine dk 0 (.pointer (some ⟨b,0,none⟩)) rfl rfl (fun _ _=>rfl) ⟨_,d.out⟩ ?_
      change wpAnyH _ _ _ _ _ _ _ F36_ _;delta F36_;refine dk 1 (.pointer (some ⟨wr.heap.size,0,none⟩)) rfl rfl (fun _ _=>by unfold execOp;go_simp) ⟨_,d.out⟩ ?_
      change wpAnyH _ _ _ _ _ _ _ F36_ _;delta F36_;refine dk 2 (.int .u8 1) rfl rfl (fun W h=>by obtain ⟨t,m,_⟩:=h;have P:W.cell? ⟨wr.heap.size,0,none⟩=some (.int .u8 1):=(cr m);unfold execOp;go_simp) ⟨_,d.out⟩ ?_
      change wpAnyH _ _ _ _ _ _ _ F36_ _;delta F36_;refine dk 3 (.pointer (some ⟨b,0,none⟩)) rfl rfl (fun _ _=>by unfold execOp;go_simp) ⟨_,d.out⟩ ?_
      change wpAnyH _ _ _ _ _ _ _ F36_ _;delta F36_;refine dk 4 (.pointer (some ⟨b,3,none⟩)) rfl rfl (fun _ _=>by unfold execOp;go_simp) ⟨_,d.out⟩ ?_
      change wpAnyH _ _ _ _ _ _ _ F36_ _;delta F36_;refine dk 5 (.pointer (some ⟨b,3+1,none⟩)) rfl rfl (fun _ _=>by unfold execOp;go_simp) ⟨_,d.out⟩ ?_
      change wpAnyH _ _ _ _ _ _ _ F36_ _;delta F36_;refine dk 6 (.func (.func 107) #[.pointer (some ⟨b,0,none⟩)] #[]) rfl rfl (fun W h=>by obtain ⟨t,m,V,_⟩:=h;have P:=wt_meth V (j:=1) rfl;unfold execOp;go_simp) ⟨_,d.out⟩ ?_
      change wpAnyH _ _ _ _ _ _ _ F36_ _;delta F36_;refine dk 7 (.agg #[.int .u8 1,.string B,.string C,.slice G n3 p,.slice H n4 r,.slice F n5 s,.int .i64 D]) rfl rfl (fun W h=>by obtain ⟨t,m,_⟩:=h;have P:W.cell? ⟨wr.heap.size,0,none⟩=some (.int .u8 1):=(cr m);have c1:W.cell? ⟨wr.heap.size,1,none⟩=some (.string B):=(cr m);have c2:W.cell? ⟨wr.heap.size,2,none⟩=some (.string C):=(cr m);have p:W.cell? ⟨wr.heap.size,3,none⟩=some (.slice G n3 p):=(cr m);have r:W.cell? ⟨wr.heap.size,4,none⟩=some (.slice H n4 r):=(cr m);have s:W.cell? ⟨wr.heap.size,5,none⟩=some (.slice F n5 s):=(cr m);have c6:W.cell? ⟨wr.heap.size,6,none⟩=some (.int .i64 D):=(cr m);unfold execOp;go_simp) ⟨_,d.out⟩ ?_
      change wpAnyH _ _ _ _ _ _ _ F36_ _;delta F36_;refine do1 8 rfl rfl ?_;refine wp_call (vs:=#[.pointer (some ⟨b,0,none⟩),.agg #[.int .u8 1,.string B,.string C,.slice G n3 p,.slice H n4 r,.slice F n5 s,.int .i64 D]]) rfl rfl (enters_of Tryz.func107 (by kernel_rfl) rfl) (by simp [Act.eval]) (E.out _ _ d.out.2.2.1 d.out.2.1 HL.out) ?_
      rintro e w8 O;rcases O.cases with ⟨v,rfl,N,R,J⟩ | ⟨v,rfl,J⟩
      rotate_left
      · exact ⟨rfl,d.out.2.2.2.2.trans J,.inr ⟨by rw [T.out];rw [o.out] at v;simp at v ⊢;omega,rfl⟩⟩
      have f:=Hd (sst_put d.out HG.out N R J);have M:=Hd v;clear v N R J O d;refine ⟨⟨_,f.out⟩,?_⟩;refine wpAnyH_done (by kernel_rfl) ?_ _
      have Y:IntKind.i64.wrap ((i:Int)+1)=(i:Int)+1:=IntWalk.i64_in _ (by omega)
      go_wp2_with fail;go_roundg (n-(i+1)+1)
      case measure=>have:=HM.out;omega
      case rel =>
       refine ⟨i+1,by simp,by omega,by omega,?_,?_,f.out.2.2.1,f.out.2.2.2.1,f.out.2.2.2.2⟩
       · rw [K.out,<- List.append_assoc,<- o.out];exact M.out
       · rw [K.out,<- List.append_assoc,<- o.out];exact f.out.2.1
    · rw [show mF 2 = 108 from rfl] at E
      go_upto_region 4 with (fail)
      rw [<- U.out];refine wp_region_held (S:=fun W=>∃ t,Sst Z w b wr.heap.size #[.int .u8 2,.string B,.string C,.slice G n3 p,.slice H n4 r,.slice F n5 s,.int .i64 D] t ((A:Int)+1) (mFs b) W) (by kernel_rfl) ?_
      change wpAnyH _ _ _ _ _ _ _ _ L.drew;have I:=sst_below HS.out (below_drewN (Below.refl _ L) 1);change Sst _ _ _ _ _ _ _ _ L.drew at I;obtain ⟨W2,y⟩:=Qx L.drew;rw [<- y] at I ⊢;have d:=Hd I;clear I y;refine dk 0 (.pointer (some ⟨b,0,none⟩)) rfl rfl (fun _ _=>rfl) ⟨_,d.out⟩ ?_
      change wpAnyH _ _ _ _ _ _ _ F36_ _;delta F36_;refine dk 1 (.pointer (some ⟨wr.heap.size,0,none⟩)) rfl rfl (fun _ _=>by unfold execOp;go_simp) ⟨_,d.out⟩ ?_
      change wpAnyH _ _ _ _ _ _ _ F36_ _;delta F36_;refine dk 2 (.int .u8 2) rfl rfl (fun W h=>by obtain ⟨t,m,_⟩:=h;have P:W.cell? ⟨wr.heap.size,0,none⟩=some (.int .u8 2):=(cr m);unfold execOp;go_simp) ⟨_,d.out⟩ ?_
      change wpAnyH _ _ _ _ _ _ _ F36_ _;delta F36_;refine dk 3 (.pointer (some ⟨b,0,none⟩)) rfl rfl (fun _ _=>by unfold execOp;go_simp) ⟨_,d.out⟩ ?_
      change wpAnyH _ _ _ _ _ _ _ F36_ _;delta F36_;refine dk 4 (.pointer (some ⟨b,3,none⟩)) rfl rfl (fun _ _=>by unfold execOp;go_simp) ⟨_,d.out⟩ ?_
      change wpAnyH _ _ _ _ _ _ _ F36_ _;delta F36_;refine dk 5 (.pointer (some ⟨b,3+2,none⟩)) rfl rfl (fun _ _=>by unfold execOp;go_simp) ⟨_,d.out⟩ ?_
      change wpAnyH _ _ _ _ _ _ _ F36_ _;delta F36_;refine dk 6 (.func (.func 108) #[.pointer (some ⟨b,0,none⟩)] #[]) rfl rfl (fun W h=>by obtain ⟨t,m,V,_⟩:=h;have P:=wt_meth V (j:=2) rfl;unfold execOp;go_simp) ⟨_,d.out⟩ ?_
      change wpAnyH _ _ _ _ _ _ _ F36_ _;delta F36_;refine dk 7 (.agg #[.int .u8 2,.string B,.string C,.slice G n3 p,.slice H n4 r,.slice F n5 s,.int .i64 D]) rfl rfl (fun W h=>by obtain ⟨t,m,_⟩:=h;have P:W.cell? ⟨wr.heap.size,0,none⟩=some (.int .u8 2):=(cr m);have c1:W.cell? ⟨wr.heap.size,1,none⟩=some (.string B):=(cr m);have c2:W.cell? ⟨wr.heap.size,2,none⟩=some (.string C):=(cr m);have p:W.cell? ⟨wr.heap.size,3,none⟩=some (.slice G n3 p):=(cr m);have r:W.cell? ⟨wr.heap.size,4,none⟩=some (.slice H n4 r):=(cr m);have s:W.cell? ⟨wr.heap.size,5,none⟩=some (.slice F n5 s):=(cr m);have c6:W.cell? ⟨wr.heap.size,6,none⟩=some (.int .i64 D):=(cr m);unfold execOp;go_simp) ⟨_,d.out⟩ ?_
      change wpAnyH _ _ _ _ _ _ _ F36_ _;delta F36_;refine do1 8 rfl rfl ?_;refine wp_call (vs:=#[.pointer (some ⟨b,0,none⟩),.agg #[.int .u8 2,.string B,.string C,.slice G n3 p,.slice H n4 r,.slice F n5 s,.int .i64 D]]) rfl rfl (enters_of Tryz.func108 (by kernel_rfl) rfl) (by simp [Act.eval]) (E.out _ _ d.out.2.2.1 d.out.2.1 HL.out) ?_
      rintro e w8 O;rcases O.cases with ⟨v,rfl,N,R,J⟩ | ⟨v,rfl,J⟩
      rotate_left
      · exact ⟨rfl,d.out.2.2.2.2.trans J,.inr ⟨by rw [T.out];rw [o.out] at v;simp at v ⊢;omega,rfl⟩⟩
      have f:=Hd (sst_put d.out HG.out N R J);have M:=Hd v;clear v N R J O d;refine ⟨⟨_,f.out⟩,?_⟩;refine wpAnyH_done (by kernel_rfl) ?_ _
      have Y:IntKind.i64.wrap ((i:Int)+1)=(i:Int)+1:=IntWalk.i64_in _ (by omega)
      go_wp2_with fail;go_roundg (n-(i+1)+1)
      case measure=>have:=HM.out;omega
      case rel =>
       refine ⟨i+1,by simp,by omega,by omega,?_,?_,f.out.2.2.1,f.out.2.2.2.1,f.out.2.2.2.2⟩
       · rw [K.out,<- List.append_assoc,<- o.out];exact M.out
       · rw [K.out,<- List.append_assoc,<- o.out];exact f.out.2.1
    · rw [show mF 3 = 109 from rfl] at E
      go_upto_region 4 with (fail)
      rw [<- U.out];refine wp_region_held (S:=fun W=>∃ t,Sst Z w b wr.heap.size #[.int .u8 3,.string B,.string C,.slice G n3 p,.slice H n4 r,.slice F n5 s,.int .i64 D] t ((A:Int)+1) (mFs b) W) (by kernel_rfl) ?_
      change wpAnyH _ _ _ _ _ _ _ _ L.drew;have I:=sst_below HS.out (below_drewN (Below.refl _ L) 1);change Sst _ _ _ _ _ _ _ _ L.drew at I;obtain ⟨W2,y⟩:=Qx L.drew;rw [<- y] at I ⊢;have d:=Hd I;clear I y;refine dk 0 (.pointer (some ⟨b,0,none⟩)) rfl rfl (fun _ _=>rfl) ⟨_,d.out⟩ ?_
      change wpAnyH _ _ _ _ _ _ _ F36_ _;delta F36_;refine dk 1 (.pointer (some ⟨wr.heap.size,0,none⟩)) rfl rfl (fun _ _=>by unfold execOp;go_simp) ⟨_,d.out⟩ ?_
      change wpAnyH _ _ _ _ _ _ _ F36_ _;delta F36_;refine dk 2 (.int .u8 3) rfl rfl (fun W h=>by obtain ⟨t,m,_⟩:=h;have P:W.cell? ⟨wr.heap.size,0,none⟩=some (.int .u8 3):=(cr m);unfold execOp;go_simp) ⟨_,d.out⟩ ?_
      change wpAnyH _ _ _ _ _ _ _ F36_ _;delta F36_;refine dk 3 (.pointer (some ⟨b,0,none⟩)) rfl rfl (fun _ _=>by unfold execOp;go_simp) ⟨_,d.out⟩ ?_
      change wpAnyH _ _ _ _ _ _ _ F36_ _;delta F36_;refine dk 4 (.pointer (some ⟨b,3,none⟩)) rfl rfl (fun _ _=>by unfold execOp;go_simp) ⟨_,d.out⟩ ?_
      change wpAnyH _ _ _ _ _ _ _ F36_ _;delta F36_;refine dk 5 (.pointer (some ⟨b,3+3,none⟩)) rfl rfl (fun _ _=>by unfold execOp;go_simp) ⟨_,d.out⟩ ?_
      change wpAnyH _ _ _ _ _ _ _ F36_ _;delta F36_;refine dk 6 (.func (.func 109) #[.pointer (some ⟨b,0,none⟩)] #[]) rfl rfl (fun W h=>by obtain ⟨t,m,V,_⟩:=h;have P:=wt_meth V (j:=3) rfl;unfold execOp;go_simp) ⟨_,d.out⟩ ?_
      change wpAnyH _ _ _ _ _ _ _ F36_ _;delta F36_;refine dk 7 (.agg #[.int .u8 3,.string B,.string C,.slice G n3 p,.slice H n4 r,.slice F n5 s,.int .i64 D]) rfl rfl (fun W h=>by obtain ⟨t,m,_⟩:=h;have P:W.cell? ⟨wr.heap.size,0,none⟩=some (.int .u8 3):=(cr m);have c1:W.cell? ⟨wr.heap.size,1,none⟩=some (.string B):=(cr m);have c2:W.cell? ⟨wr.heap.size,2,none⟩=some (.string C):=(cr m);have p:W.cell? ⟨wr.heap.size,3,none⟩=some (.slice G n3 p):=(cr m);have r:W.cell? ⟨wr.heap.size,4,none⟩=some (.slice H n4 r):=(cr m);have s:W.cell? ⟨wr.heap.size,5,none⟩=some (.slice F n5 s):=(cr m);have c6:W.cell? ⟨wr.heap.size,6,none⟩=some (.int .i64 D):=(cr m);unfold execOp;go_simp) ⟨_,d.out⟩ ?_
      change wpAnyH _ _ _ _ _ _ _ F36_ _;delta F36_;refine do1 8 rfl rfl ?_;refine wp_call (vs:=#[.pointer (some ⟨b,0,none⟩),.agg #[.int .u8 3,.string B,.string C,.slice G n3 p,.slice H n4 r,.slice F n5 s,.int .i64 D]]) rfl rfl (enters_of Tryz.func109 (by kernel_rfl) rfl) (by simp [Act.eval]) (E.out _ _ d.out.2.2.1 d.out.2.1 HL.out) ?_
      rintro e w8 O;rcases O.cases with ⟨v,rfl,N,R,J⟩ | ⟨v,rfl,J⟩
      rotate_left
      · exact ⟨rfl,d.out.2.2.2.2.trans J,.inr ⟨by rw [T.out];rw [o.out] at v;simp at v ⊢;omega,rfl⟩⟩
      have f:=Hd (sst_put d.out HG.out N R J);have M:=Hd v;clear v N R J O d;refine ⟨⟨_,f.out⟩,?_⟩;refine wpAnyH_done (by kernel_rfl) ?_ _
      have Y:IntKind.i64.wrap ((i:Int)+1)=(i:Int)+1:=IntWalk.i64_in _ (by omega)
      go_wp2_with fail;go_roundg (n-(i+1)+1)
      case measure=>have:=HM.out;omega
      case rel =>
       refine ⟨i+1,by simp,by omega,by omega,?_,?_,f.out.2.2.1,f.out.2.2.2.1,f.out.2.2.2.2⟩
       · rw [K.out,<- List.append_assoc,<- o.out];exact M.out
       · rw [K.out,<- List.append_assoc,<- o.out];exact f.out.2.1
    · rw [show mF 4 = 110 from rfl] at E
      go_upto_region 4 with (fail)
      rw [<- U.out];refine wp_region_held (S:=fun W=>∃ t,Sst Z w b wr.heap.size #[.int .u8 4,.string B,.string C,.slice G n3 p,.slice H n4 r,.slice F n5 s,.int .i64 D] t ((A:Int)+1) (mFs b) W) (by kernel_rfl) ?_
      change wpAnyH _ _ _ _ _ _ _ _ L.drew;have I:=sst_below HS.out (below_drewN (Below.refl _ L) 1);change Sst _ _ _ _ _ _ _ _ L.drew at I;obtain ⟨W2,y⟩:=Qx L.drew;rw [<- y] at I ⊢;have d:=Hd I;clear I y;refine dk 0 (.pointer (some ⟨b,0,none⟩)) rfl rfl (fun _ _=>rfl) ⟨_,d.out⟩ ?_
      change wpAnyH _ _ _ _ _ _ _ F36_ _;delta F36_;refine dk 1 (.pointer (some ⟨wr.heap.size,0,none⟩)) rfl rfl (fun _ _=>by unfold execOp;go_simp) ⟨_,d.out⟩ ?_
      change wpAnyH _ _ _ _ _ _ _ F36_ _;delta F36_;refine dk 2 (.int .u8 4) rfl rfl (fun W h=>by obtain ⟨t,m,_⟩:=h;have P:W.cell? ⟨wr.heap.size,0,none⟩=some (.int .u8 4):=(cr m);unfold execOp;go_simp) ⟨_,d.out⟩ ?_
      change wpAnyH _ _ _ _ _ _ _ F36_ _;delta F36_;refine dk 3 (.pointer (some ⟨b,0,none⟩)) rfl rfl (fun _ _=>by unfold execOp;go_simp) ⟨_,d.out⟩ ?_
      change wpAnyH _ _ _ _ _ _ _ F36_ _;delta F36_;refine dk 4 (.pointer (some ⟨b,3,none⟩)) rfl rfl (fun _ _=>by unfold execOp;go_simp) ⟨_,d.out⟩ ?_
      change wpAnyH _ _ _ _ _ _ _ F36_ _;delta F36_;refine dk 5 (.pointer (some ⟨b,3+4,none⟩)) rfl rfl (fun _ _=>by unfold execOp;go_simp) ⟨_,d.out⟩ ?_
      change wpAnyH _ _ _ _ _ _ _ F36_ _;delta F36_;refine dk 6 (.func (.func 110) #[.pointer (some ⟨b,0,none⟩)] #[]) rfl rfl (fun W h=>by obtain ⟨t,m,V,_⟩:=h;have P:=wt_meth V (j:=4) rfl;unfold execOp;go_simp) ⟨_,d.out⟩ ?_
      change wpAnyH _ _ _ _ _ _ _ F36_ _;delta F36_;refine dk 7 (.agg #[.int .u8 4,.string B,.string C,.slice G n3 p,.slice H n4 r,.slice F n5 s,.int .i64 D]) rfl rfl (fun W h=>by obtain ⟨t,m,_⟩:=h;have P:W.cell? ⟨wr.heap.size,0,none⟩=some (.int .u8 4):=(cr m);have c1:W.cell? ⟨wr.heap.size,1,none⟩=some (.string B):=(cr m);have c2:W.cell? ⟨wr.heap.size,2,none⟩=some (.string C):=(cr m);have p:W.cell? ⟨wr.heap.size,3,none⟩=some (.slice G n3 p):=(cr m);have r:W.cell? ⟨wr.heap.size,4,none⟩=some (.slice H n4 r):=(cr m);have s:W.cell? ⟨wr.heap.size,5,none⟩=some (.slice F n5 s):=(cr m);have c6:W.cell? ⟨wr.heap.size,6,none⟩=some (.int .i64 D):=(cr m);unfold execOp;go_simp) ⟨_,d.out⟩ ?_
      change wpAnyH _ _ _ _ _ _ _ F36_ _;delta F36_;refine do1 8 rfl rfl ?_;refine wp_call (vs:=#[.pointer (some ⟨b,0,none⟩),.agg #[.int .u8 4,.string B,.string C,.slice G n3 p,.slice H n4 r,.slice F n5 s,.int .i64 D]]) rfl rfl (enters_of Tryz.func110 (by kernel_rfl) rfl) (by simp [Act.eval]) (E.out _ _ d.out.2.2.1 d.out.2.1 HL.out) ?_
      rintro e w8 O;rcases O.cases with ⟨v,rfl,N,R,J⟩ | ⟨v,rfl,J⟩
      rotate_left
      · exact ⟨rfl,d.out.2.2.2.2.trans J,.inr ⟨by rw [T.out];rw [o.out] at v;simp at v ⊢;omega,rfl⟩⟩
      have f:=Hd (sst_put d.out HG.out N R J);have M:=Hd v;clear v N R J O d;refine ⟨⟨_,f.out⟩,?_⟩;refine wpAnyH_done (by kernel_rfl) ?_ _
      have Y:IntKind.i64.wrap ((i:Int)+1)=(i:Int)+1:=IntWalk.i64_in _ (by omega)
      go_wp2_with fail;go_roundg (n-(i+1)+1)
      case measure=>have:=HM.out;omega
      case rel =>
       refine ⟨i+1,by simp,by omega,by omega,?_,?_,f.out.2.2.1,f.out.2.2.2.1,f.out.2.2.2.2⟩
       · rw [K.out,<- List.append_assoc,<- o.out];exact M.out
       · rw [K.out,<- List.append_assoc,<- o.out];exact f.out.2.1
    · rw [show mF 5 = 111 from rfl] at E
      go_upto_region 4 with (fail)
      rw [<- U.out];refine wp_region_held (S:=fun W=>∃ t,Sst Z w b wr.heap.size #[.int .u8 5,.string B,.string C,.slice G n3 p,.slice H n4 r,.slice F n5 s,.int .i64 D] t ((A:Int)+1) (mFs b) W) (by kernel_rfl) ?_
      change wpAnyH _ _ _ _ _ _ _ _ L.drew;have I:=sst_below HS.out (below_drewN (Below.refl _ L) 1);change Sst _ _ _ _ _ _ _ _ L.drew at I;obtain ⟨W2,y⟩:=Qx L.drew;rw [<- y] at I ⊢;have d:=Hd I;clear I y;refine dk 0 (.pointer (some ⟨b,0,none⟩)) rfl rfl (fun _ _=>rfl) ⟨_,d.out⟩ ?_
      change wpAnyH _ _ _ _ _ _ _ F36_ _;delta F36_;refine dk 1 (.pointer (some ⟨wr.heap.size,0,none⟩)) rfl rfl (fun _ _=>by unfold execOp;go_simp) ⟨_,d.out⟩ ?_
      change wpAnyH _ _ _ _ _ _ _ F36_ _;delta F36_;refine dk 2 (.int .u8 5) rfl rfl (fun W h=>by obtain ⟨t,m,_⟩:=h;have P:W.cell? ⟨wr.heap.size,0,none⟩=some (.int .u8 5):=(cr m);unfold execOp;go_simp) ⟨_,d.out⟩ ?_
      change wpAnyH _ _ _ _ _ _ _ F36_ _;delta F36_;refine dk 3 (.pointer (some ⟨b,0,none⟩)) rfl rfl (fun _ _=>by unfold execOp;go_simp) ⟨_,d.out⟩ ?_
      change wpAnyH _ _ _ _ _ _ _ F36_ _;delta F36_;refine dk 4 (.pointer (some ⟨b,3,none⟩)) rfl rfl (fun _ _=>by unfold execOp;go_simp) ⟨_,d.out⟩ ?_
      change wpAnyH _ _ _ _ _ _ _ F36_ _;delta F36_;refine dk 5 (.pointer (some ⟨b,3+5,none⟩)) rfl rfl (fun _ _=>by unfold execOp;go_simp) ⟨_,d.out⟩ ?_
      change wpAnyH _ _ _ _ _ _ _ F36_ _;delta F36_;refine dk 6 (.func (.func 111) #[.pointer (some ⟨b,0,none⟩)] #[]) rfl rfl (fun W h=>by obtain ⟨t,m,V,_⟩:=h;have P:=wt_meth V (j:=5) rfl;unfold execOp;go_simp) ⟨_,d.out⟩ ?_
      change wpAnyH _ _ _ _ _ _ _ F36_ _;delta F36_;refine dk 7 (.agg #[.int .u8 5,.string B,.string C,.slice G n3 p,.slice H n4 r,.slice F n5 s,.int .i64 D]) rfl rfl (fun W h=>by obtain ⟨t,m,_⟩:=h;have P:W.cell? ⟨wr.heap.size,0,none⟩=some (.int .u8 5):=(cr m);have c1:W.cell? ⟨wr.heap.size,1,none⟩=some (.string B):=(cr m);have c2:W.cell? ⟨wr.heap.size,2,none⟩=some (.string C):=(cr m);have p:W.cell? ⟨wr.heap.size,3,none⟩=some (.slice G n3 p):=(cr m);have r:W.cell? ⟨wr.heap.size,4,none⟩=some (.slice H n4 r):=(cr m);have s:W.cell? ⟨wr.heap.size,5,none⟩=some (.slice F n5 s):=(cr m);have c6:W.cell? ⟨wr.heap.size,6,none⟩=some (.int .i64 D):=(cr m);unfold execOp;go_simp) ⟨_,d.out⟩ ?_
      change wpAnyH _ _ _ _ _ _ _ F36_ _;delta F36_;refine do1 8 rfl rfl ?_;refine wp_call (vs:=#[.pointer (some ⟨b,0,none⟩),.agg #[.int .u8 5,.string B,.string C,.slice G n3 p,.slice H n4 r,.slice F n5 s,.int .i64 D]]) rfl rfl (enters_of Tryz.func111 (by kernel_rfl) rfl) (by simp [Act.eval]) (E.out _ _ d.out.2.2.1 d.out.2.1 HL.out) ?_
      rintro e w8 O;rcases O.cases with ⟨v,rfl,N,R,J⟩ | ⟨v,rfl,J⟩
      rotate_left
      · exact ⟨rfl,d.out.2.2.2.2.trans J,.inr ⟨by rw [T.out];rw [o.out] at v;simp at v ⊢;omega,rfl⟩⟩
      have f:=Hd (sst_put d.out HG.out N R J);have M:=Hd v;clear v N R J O d;refine ⟨⟨_,f.out⟩,?_⟩;refine wpAnyH_done (by kernel_rfl) ?_ _
      have Y:IntKind.i64.wrap ((i:Int)+1)=(i:Int)+1:=IntWalk.i64_in _ (by omega)
      go_wp2_with fail;go_roundg (n-(i+1)+1)
      case measure=>have:=HM.out;omega
      case rel =>
       refine ⟨i+1,by simp,by omega,by omega,?_,?_,f.out.2.2.1,f.out.2.2.2.1,f.out.2.2.2.2⟩
       · rw [K.out,<- List.append_assoc,<- o.out];exact M.out
       · rw [K.out,<- List.append_assoc,<- o.out];exact f.out.2.1
    · rw [show mF 6 = 112 from rfl] at E
      go_upto_region 4 with (fail)
      rw [<- U.out];refine wp_region_held (S:=fun W=>∃ t,Sst Z w b wr.heap.size #[.int .u8 6,.string B,.string C,.slice G n3 p,.slice H n4 r,.slice F n5 s,.int .i64 D] t ((A:Int)+1) (mFs b) W) (by kernel_rfl) ?_
      change wpAnyH _ _ _ _ _ _ _ _ L.drew;have I:=sst_below HS.out (below_drewN (Below.refl _ L) 1);change Sst _ _ _ _ _ _ _ _ L.drew at I;obtain ⟨W2,y⟩:=Qx L.drew;rw [<- y] at I ⊢;have d:=Hd I;clear I y;refine dk 0 (.pointer (some ⟨b,0,none⟩)) rfl rfl (fun _ _=>rfl) ⟨_,d.out⟩ ?_
      change wpAnyH _ _ _ _ _ _ _ F36_ _;delta F36_;refine dk 1 (.pointer (some ⟨wr.heap.size,0,none⟩)) rfl rfl (fun _ _=>by unfold execOp;go_simp) ⟨_,d.out⟩ ?_
      change wpAnyH _ _ _ _ _ _ _ F36_ _;delta F36_;refine dk 2 (.int .u8 6) rfl rfl (fun W h=>by obtain ⟨t,m,_⟩:=h;have P:W.cell? ⟨wr.heap.size,0,none⟩=some (.int .u8 6):=(cr m);unfold execOp;go_simp) ⟨_,d.out⟩ ?_
      change wpAnyH _ _ _ _ _ _ _ F36_ _;delta F36_;refine dk 3 (.pointer (some ⟨b,0,none⟩)) rfl rfl (fun _ _=>by unfold execOp;go_simp) ⟨_,d.out⟩ ?_
      change wpAnyH _ _ _ _ _ _ _ F36_ _;delta F36_;refine dk 4 (.pointer (some ⟨b,3,none⟩)) rfl rfl (fun _ _=>by unfold execOp;go_simp) ⟨_,d.out⟩ ?_
      change wpAnyH _ _ _ _ _ _ _ F36_ _;delta F36_;refine dk 5 (.pointer (some ⟨b,3+6,none⟩)) rfl rfl (fun _ _=>by unfold execOp;go_simp) ⟨_,d.out⟩ ?_
      change wpAnyH _ _ _ _ _ _ _ F36_ _;delta F36_;refine dk 6 (.func (.func 112) #[.pointer (some ⟨b,0,none⟩)] #[]) rfl rfl (fun W h=>by obtain ⟨t,m,V,_⟩:=h;have P:=wt_meth V (j:=6) rfl;unfold execOp;go_simp) ⟨_,d.out⟩ ?_
      change wpAnyH _ _ _ _ _ _ _ F36_ _;delta F36_;refine dk 7 (.agg #[.int .u8 6,.string B,.string C,.slice G n3 p,.slice H n4 r,.slice F n5 s,.int .i64 D]) rfl rfl (fun W h=>by obtain ⟨t,m,_⟩:=h;have P:W.cell? ⟨wr.heap.size,0,none⟩=some (.int .u8 6):=(cr m);have c1:W.cell? ⟨wr.heap.size,1,none⟩=some (.string B):=(cr m);have c2:W.cell? ⟨wr.heap.size,2,none⟩=some (.string C):=(cr m);have p:W.cell? ⟨wr.heap.size,3,none⟩=some (.slice G n3 p):=(cr m);have r:W.cell? ⟨wr.heap.size,4,none⟩=some (.slice H n4 r):=(cr m);have s:W.cell? ⟨wr.heap.size,5,none⟩=some (.slice F n5 s):=(cr m);have c6:W.cell? ⟨wr.heap.size,6,none⟩=some (.int .i64 D):=(cr m);unfold execOp;go_simp) ⟨_,d.out⟩ ?_
      change wpAnyH _ _ _ _ _ _ _ F36_ _;delta F36_;refine do1 8 rfl rfl ?_;refine wp_call (vs:=#[.pointer (some ⟨b,0,none⟩),.agg #[.int .u8 6,.string B,.string C,.slice G n3 p,.slice H n4 r,.slice F n5 s,.int .i64 D]]) rfl rfl (enters_of Tryz.func112 (by kernel_rfl) rfl) (by simp [Act.eval]) (E.out _ _ d.out.2.2.1 d.out.2.1 HL.out) ?_
      rintro e w8 O;rcases O.cases with ⟨v,rfl,N,R,J⟩ | ⟨v,rfl,J⟩
      rotate_left
      · exact ⟨rfl,d.out.2.2.2.2.trans J,.inr ⟨by rw [T.out];rw [o.out] at v;simp at v ⊢;omega,rfl⟩⟩
      have f:=Hd (sst_put d.out HG.out N R J);have M:=Hd v;clear v N R J O d;refine ⟨⟨_,f.out⟩,?_⟩;refine wpAnyH_done (by kernel_rfl) ?_ _
      have Y:IntKind.i64.wrap ((i:Int)+1)=(i:Int)+1:=IntWalk.i64_in _ (by omega)
      go_wp2_with fail;go_roundg (n-(i+1)+1)
      case measure=>have:=HM.out;omega
      case rel =>
       refine ⟨i+1,by simp,by omega,by omega,?_,?_,f.out.2.2.1,f.out.2.2.2.1,f.out.2.2.2.2⟩
       · rw [K.out,<- List.append_assoc,<- o.out];exact M.out
       · rw [K.out,<- List.append_assoc,<- o.out];exact f.out.2.1
    · rw [show mF 7 = 113 from rfl] at E
      go_upto_region 4 with (fail)
      rw [<- U.out];refine wp_region_held (S:=fun W=>∃ t,Sst Z w b wr.heap.size #[.int .u8 7,.string B,.string C,.slice G n3 p,.slice H n4 r,.slice F n5 s,.int .i64 D] t ((A:Int)+1) (mFs b) W) (by kernel_rfl) ?_
      change wpAnyH _ _ _ _ _ _ _ _ L.drew;have I:=sst_below HS.out (below_drewN (Below.refl _ L) 1);change Sst _ _ _ _ _ _ _ _ L.drew at I;obtain ⟨W2,y⟩:=Qx L.drew;rw [<- y] at I ⊢;have d:=Hd I;clear I y;refine dk 0 (.pointer (some ⟨b,0,none⟩)) rfl rfl (fun _ _=>rfl) ⟨_,d.out⟩ ?_
      change wpAnyH _ _ _ _ _ _ _ F36_ _;delta F36_;refine dk 1 (.pointer (some ⟨wr.heap.size,0,none⟩)) rfl rfl (fun _ _=>by unfold execOp;go_simp) ⟨_,d.out⟩ ?_
      change wpAnyH _ _ _ _ _ _ _ F36_ _;delta F36_;refine dk 2 (.int .u8 7) rfl rfl (fun W h=>by obtain ⟨t,m,_⟩:=h;have P:W.cell? ⟨wr.heap.size,0,none⟩=some (.int .u8 7):=(cr m);unfold execOp;go_simp) ⟨_,d.out⟩ ?_
      change wpAnyH _ _ _ _ _ _ _ F36_ _;delta F36_;refine dk 3 (.pointer (some ⟨b,0,none⟩)) rfl rfl (fun _ _=>by unfold execOp;go_simp) ⟨_,d.out⟩ ?_
      change wpAnyH _ _ _ _ _ _ _ F36_ _;delta F36_;refine dk 4 (.pointer (some ⟨b,3,none⟩)) rfl rfl (fun _ _=>by unfold execOp;go_simp) ⟨_,d.out⟩ ?_
      change wpAnyH _ _ _ _ _ _ _ F36_ _;delta F36_;refine dk 5 (.pointer (some ⟨b,3+7,none⟩)) rfl rfl (fun _ _=>by unfold execOp;go_simp) ⟨_,d.out⟩ ?_
      change wpAnyH _ _ _ _ _ _ _ F36_ _;delta F36_;refine dk 6 (.func (.func 113) #[.pointer (some ⟨b,0,none⟩)] #[]) rfl rfl (fun W h=>by obtain ⟨t,m,V,_⟩:=h;have P:=wt_meth V (j:=7) rfl;unfold execOp;go_simp) ⟨_,d.out⟩ ?_
      change wpAnyH _ _ _ _ _ _ _ F36_ _;delta F36_;refine dk 7 (.agg #[.int .u8 7,.string B,.string C,.slice G n3 p,.slice H n4 r,.slice F n5 s,.int .i64 D]) rfl rfl (fun W h=>by obtain ⟨t,m,_⟩:=h;have P:W.cell? ⟨wr.heap.size,0,none⟩=some (.int .u8 7):=(cr m);have c1:W.cell? ⟨wr.heap.size,1,none⟩=some (.string B):=(cr m);have c2:W.cell? ⟨wr.heap.size,2,none⟩=some (.string C):=(cr m);have p:W.cell? ⟨wr.heap.size,3,none⟩=some (.slice G n3 p):=(cr m);have r:W.cell? ⟨wr.heap.size,4,none⟩=some (.slice H n4 r):=(cr m);have s:W.cell? ⟨wr.heap.size,5,none⟩=some (.slice F n5 s):=(cr m);have c6:W.cell? ⟨wr.heap.size,6,none⟩=some (.int .i64 D):=(cr m);unfold execOp;go_simp) ⟨_,d.out⟩ ?_
      change wpAnyH _ _ _ _ _ _ _ F36_ _;delta F36_;refine do1 8 rfl rfl ?_;refine wp_call (vs:=#[.pointer (some ⟨b,0,none⟩),.agg #[.int .u8 7,.string B,.string C,.slice G n3 p,.slice H n4 r,.slice F n5 s,.int .i64 D]]) rfl rfl (enters_of Tryz.func113 (by kernel_rfl) rfl) (by simp [Act.eval]) (E.out _ _ d.out.2.2.1 d.out.2.1 HL.out) ?_
      rintro e w8 O;rcases O.cases with ⟨v,rfl,N,R,J⟩ | ⟨v,rfl,J⟩
      rotate_left
      · exact ⟨rfl,d.out.2.2.2.2.trans J,.inr ⟨by rw [T.out];rw [o.out] at v;simp at v ⊢;omega,rfl⟩⟩
      have f:=Hd (sst_put d.out HG.out N R J);have M:=Hd v;clear v N R J O d;refine ⟨⟨_,f.out⟩,?_⟩;refine wpAnyH_done (by kernel_rfl) ?_ _
      have Y:IntKind.i64.wrap ((i:Int)+1)=(i:Int)+1:=IntWalk.i64_in _ (by omega)
      go_wp2_with fail;go_roundg (n-(i+1)+1)
      case measure=>have:=HM.out;omega
      case rel =>
       refine ⟨i+1,by simp,by omega,by omega,?_,?_,f.out.2.2.1,f.out.2.2.2.1,f.out.2.2.2.2⟩
       · rw [K.out,<- List.append_assoc,<- o.out];exact M.out
       · rw [K.out,<- List.append_assoc,<- o.out];exact f.out.2.1
  · have bc : i = n := by omega
    subst bc;have hX:=HX.out;have hC:=HC.out;have hL:=HL.out;rw [show l.take i=l by rw [HN.out,List.take_length]] at hX hL
    have c2:=hX.deep;have z2:=wt_frozen hX 2;have ct:wrap64 (A:Int)=(A:Int):=by have:=bj.out;unfold wrap64;omega
    obtain ⟨k1,k2,k3⟩:=wt_deep hX (A:Int);obtain ⟨W9,ax⟩:=Qx (wr.setCell ⟨b,2,none⟩ (.int .i64 (A:Int)));rw [<- ax] at k1 k2 k3;have e9:=ax.symm;have HF:Hid (PutP b X (tSs l (A+1)) A (mFs b) w (.returned (.tuple #[])) W9):=⟨hC.2.2.trans k3,.inl ⟨hL,rfl,k1,hC.2.1.trans k2⟩⟩;clear hX hC hL k1 k2 k3 ax;go_wp2_with fail;exact bodyPost_end (results_none rfl _ _ _) rfl HF.out
set_option maxRecDepth 100000
theorem rgEs_mem':∀ {l:List Ex},rgEs l->∀ x∈l,rgE x
 | y :: r, h, x, hx => by
   rcases List.mem_cons.1 hx with rfl | hx
   · exact h.1
   · exact rgEs_mem' h.2 x hx
theorem nm_size {n:ByteArray} (h:nmB n true=true):n.size<=140737488289792:=by
 have:=name_size (n:=n) h;omega
theorem one_ex {es:List Ex} {m:Int} (h:(((es.length:Int)==m))=true) (hm:m=1) (ha:allE es=true) (hr:rgEs es):∃ y,es=[y]/\rE y 0=true/\rgE y:=by
 have a:es.length=1:=by have:=eq_of_beq h;omega
 obtain ⟨y,rfl⟩:=List.length_eq_one_iff.1 a;exact ⟨y,rfl,by simpa [allE] using ha,rgEs_mem' hr y (.head _)⟩
theorem w_stmt:∀ x:St,WrS x:=by
 intro x;induction x using St.ind with
 | h k nm ot es bo el ps ihb ihl =>
   have L:=p_wblock ihb;have O:=p_wblock ihl;intro d i T J M a3 R a5 c3 S c5 G w b Y l h4 h5 n c f r q;obtain ⟨⟨V,U⟩,⟨A,E⟩,z,C⟩:=J;obtain ⟨_,g,s,v⟩:=M;simp only [rS,Bool.and_eq_true,decide_eq_true_eq] at T;obtain ⟨H,I,N,Z,B,r4,r5,F,Q,X⟩:=T;have p:rB bo ((d:Int)+1)=true->∀ t W,Below b G W->Wt b t d (mFs b) W->t.length<=65536->Calls Tryz.prog 49 #[.pointer (some ⟨b,0,none⟩),.slice R bo.length S] W (PutP b t (tSs bo (d+1)) d (mFs b) W):=fun hB t W h1 h2 l=>L d hB E A s R S G W b t h4 n c h1 h2 l
   have P:rB el ((d:Int)+1)=true->∀ t W,Below b G W->Wt b t d (mFs b) W->t.length<=65536->Calls Tryz.prog 49 #[.pointer (some ⟨b,0,none⟩),.slice a5 el.length c5] W (PutP b t (tSs el (d+1)) d (mFs b) W):=fun hB t W h1 h2 l=>O d hB C z v a5 c5 G W b t h5 n c h1 h2 l
   rcases kind_cases H I with rfl | rfl | rfl | rfl | rfl | rfl | rfl
   · obtain ⟨y, a, m, o⟩ := one_ex B rfl F g
     exact p_wassign i n c f r q l a m o (nm_size N)
   · obtain ⟨y, a, m, o⟩ := one_ex B rfl F g
     exact p_wswap i n c f r q l a m o (nm_size N) (nm_size Z)
   · obtain ⟨y, a, m, o⟩ := one_ex B rfl F g
     have j:rB bo ((d:Int)+1)=true:=by
      unfold rB;rw [Bool.and_eq_true,decide_eq_true_eq];simpa [shp] using Q
     have D:tS (.mk 3 nm ot es bo el ps) d=ln d [[105,102,32,40],e0T es,[41,32,123]]++tSs bo (d+1)++(if 0<el.length then ln d [[125,32,101,108,115,101,32,123]]++tSs el (d+1) else [])++ln d [[125]]:=by simp only [tS];rfl
     by_cases hel:0<(el.length:Int)
     · have K : rB el ((d : Int) + 1) = true := by
        unfold rB;rw [Bool.and_eq_true,decide_eq_true_eq];rw [decide_eq_true hel] at X;simpa using X
       have:=p_wchoice2 i n c f r q l a m o (p j) (P K) hel (c3:=c3) (k:=3) (nm:=nm) (ot:=ot) (ps:=ps);rw [D,if_pos (by omega)]
       simp only [List.append_assoc] at this ⊢;exact this
     · have := p_wchoice1 i n c f r q l a m o (p j) hel (c3 := c3) (k := 3) (nm := nm) (ot := ot) (ps := ps) (a5 := a5) (c5 := c5)
       rw [D,if_neg (by omega),List.append_nil]
       exact this
   · obtain ⟨y, a, m, o⟩ := one_ex B rfl F g
     have j:rB bo ((d:Int)+1)=true:=by
      unfold rB;rw [Bool.and_eq_true,decide_eq_true_eq];simpa [shp] using Q
     exact p_wloop i n c f r q l a m o (p j)
   · have j : rB bo ((d : Int) + 1) = true := by
      unfold rB;rw [Bool.and_eq_true,decide_eq_true_eq];simpa [shp] using Q
     exact p_wguard i n c f r q (p j) (nm_size N)
   · obtain ⟨y, a, m, o⟩ := one_ex B rfl F g
     exact p_wprint i n c f r q l a m o
   · exact p_wskip i n c f r q
theorem w_block (l:List St):WrB l:=p_wblock fun x _=>w_stmt x
end Go.Proofs.YtbgfkdiihnidaaaGreatDoor

import Derived.Test.YtbgfkdiihnidaaaGreatDoorQAS
set_option maxRecDepth 100000
set_option maxHeartbeats 20000000
namespace Go.Proofs.YtbgfkdiihnidaaaGreatDoor
open Go.RowKit
set_option linter.unusedVariables false
set_option maxRecDepth 100000
theorem wp_run {o:Oper} {a:Act} {w w':World} {K:Act->World->Prop} {Q:Exit->Act->World->Prop} {v:Value} (h:(execOp a.eval o).run Tryz.prog w=.ok (.value v) w') (hk:K (a.put o.dst v) w'):o.wp Tryz.prog a w K Q:=by
 unfold Oper.wp;rw [h];exact hk
theorem p_wassign {k:Int} {nm ot:ByteArray} {es:List Ex} {bo el:List St} {ps:Int} {a3 a4 a5:Option Addr} {c3 c4 c5:Nat} {w0 w:World} {b:Nat} {txt:List UInt8} {d:Nat} {fs:List Value} (hd:d<=64) (TT:WTb w0) (hb0:b=w0.heap.size) (hbw:Below b w0 w) (hw:Wt b txt d fs w) (ht:txt.length<=65536) (h3:exsAt (fun _=>True) w0 es a3) {y:Ex} (hes:es=[y]) (hry:rE y 0=true) (hrgy:rgE y) (hnm:nm.size<=140737488289792) :
 Calls Tryz.prog 107 #[.pointer (some ⟨b,0,none⟩),.agg #[.int .u8 k,.string nm,.string ot,.slice a3 es.length c3,.slice a4 bo.length c4,.slice a5 el.length c5,.int .i64 ps]] w (PutP b txt (ln d [nm.data.toList,[32,61,32],e0T es,[59]]) d fs w):=by
 subst hes;obtain ⟨z,B,A,r,j,x⟩:=y;rcases h3 with e | ⟨g,q,e,_,e1⟩
 · cases e
 subst e;obtain ⟨⟨Q,f1,U,X,⟨O,P,f4,y4⟩,T⟩,_⟩:=e1;have lg:=lt_of_at Q;simp only at lg;have i:Hid (g<b):=by rw [Hid,hb0];exact lg
 have f:=Hd (And.intro Q (And.intro f1 (And.intro U (And.intro X (And.intro f4 T)))));have n:Hid (∀ W,Below b w0 W->Calls Tryz.prog 154 #[.agg #[.int .u8 z,.int .u8 B,.int .i64 A,.string r,.slice O j.length P,.int .i64 x]] W (TxP W (tE (.mk z B A r j x)))):=fun W D=>p_wexpression (.mk z B A r j x) 0 hry hrgy ⟨O,P,rfl,exsAt_below y4 (by rw [<- hb0];exact D)⟩ (TT.below (by rw [<- hb0];exact D))
 simp only [e0T];change Calls _ _ #[_,.agg #[.int .u8 k,.string nm,.string ot,.slice (some ⟨g,q,none⟩) 1 c3,.slice a4 bo.length c4,.slice a5 el.length c5,.int .i64 ps]] w _;generalize tE (.mk z B A r j x)=te at n ⊢;generalize j.length=mY at n f;clear Q f1 U X f4 T y4 lg hry hrgy
 have J:Hid (∀ t W,Wt b t d fs W->t.length<=65536->te.length<=65536->Calls Tryz.prog 48 #[.pointer (some ⟨b,0,none⟩),.slice (some ⟨W.heap.size,0,none⟩) 4 4] (W.alloc (.cells #[.string nm,.string ⟨#[32,61,32]⟩,.string ⟨te.toArray⟩,.string ⟨#[59]⟩] 9)) (PutP b t (ln d [nm.data.toList,[32,61,32],te,[59]]) d fs W)):=fun t W hw ht m=>p_line4 hw (by omega) ht nm ⟨#[32,61,32]⟩ ⟨te.toArray⟩ ⟨#[59]⟩ (fun s hs=>by
  simp only [List.mem_cons,List.not_mem_nil,or_false] at hs
  rcases hs with rfl | rfl | rfl | rfl
  · exact hnm
  · decide
  · show te.toArray.size<=_;rw [List.size_toArray];omega
  · decide)
 have G:Hid (te.length<=(ln d [nm.data.toList,[32,61,32],te,[59]]).length):=ln_mem (by simp)
 generalize ln d [nm.data.toList,[32,61,32],te,[59]]=q1 at J G ⊢;generalize bo.length=n4;generalize el.length=n5;have HT:=Hd ht;have p:=hw.lt;have E:Below w.heap.size w (w.alloc (.cells #[.int .u8 k,.string nm,.string ot,.slice (some ⟨g,q,none⟩) 1 c3,.slice a4 n4 c4,.slice a5 n5 c5,.int .i64 ps] 120)):=(Below.refl _ w).alloc (Nat.le_refl _) _;have I:Hid (Sst w0 w b w.heap.size #[.int .u8 k,.string nm,.string ot,.slice (some ⟨g,q,none⟩) 1 c3,.slice a4 n4 c4,.slice a5 n5 c5,.int .i64 ps] txt d fs (w.alloc (.cells #[.int .u8 k,.string nm,.string ot,.slice (some ⟨g,q,none⟩) 1 c3,.slice a4 n4 c4,.slice a5 n5 c5,.int .i64 ps] 120))):=⟨Own.new w _ _,hw.below E,hbw.trans (E.mono (Nat.le_of_lt p)),keep_below E,E.mono (Nat.le_of_lt p)⟩;have HG:Hid (w.heap.size≠b):=by rw [Hid];omega
 clear TT hbw hw ht p E hd hb0 hnm;obtain ⟨N,o⟩:=Qx (w.alloc (.cells #[.int .u8 k,.string nm,.string ot,.slice (some ⟨g,q,none⟩) 1 c3,.slice a4 n4 c4,.slice a5 n5 c5,.int .i64 ps] 120));rw [<- o] at I;have H:=Hd o;clear o;go_enter Tryz.func107,Tryz.ntmps107;go_upto_region 1 with (fail)
 rw [<- H.out];clear H;refine wp_region_held (S:=fun W=>∃ t,Sst w0 w b w.heap.size #[.int .u8 k,.string nm,.string ot,.slice (some ⟨g,q,none⟩) 1 c3,.slice a4 n4 c4,.slice a5 n5 c5,.int .i64 ps] t d fs W) (by kernel_rfl) ?_
 change wpAnyH _ _ _ _ _ _ _ _ N.drew;have R:Sst w0 w b w.heap.size #[.int .u8 k,.string nm,.string ot,.slice (some ⟨g,q,none⟩) 1 c3,.slice a4 n4 c4,.slice a5 n5 c5,.int .i64 ps] _ d fs N.drew:=sst_below I.out (below_drewN (Below.refl _ N) 1);obtain ⟨wd,D⟩:=Qx N.drew;rw [<- D] at R ⊢;clear D;have a:=Hd R;clear R;refine dk 0 (.pointer (some ⟨b,0,none⟩)) rfl rfl (fun _ _=>rfl) ⟨_,a.out⟩ ?_
 change wpAnyH _ _ _ _ _ _ _ F14_ _;delta F14_;refine dk 1 (.pointer (some ⟨w.heap.size,1,none⟩)) rfl rfl (fun _ _=>by unfold execOp;go_simp) ⟨_,a.out⟩ ?_
 change wpAnyH _ _ _ _ _ _ _ F14_ _;delta F14_;refine dk 2 (.string nm) rfl rfl (fun W h=>by obtain ⟨_,h⟩:=h;have c1:W.cell? ⟨w.heap.size,1,none⟩=some (.string nm):=(cr h.1);unfold execOp;go_simp) ⟨_,a.out⟩ ?_
 change wpAnyH _ _ _ _ _ _ _ F14_ _;delta F14_;refine dk 3 (.pointer (some ⟨w.heap.size,3,none⟩)) rfl rfl (fun _ _=>by unfold execOp;go_simp) ⟨_,a.out⟩ ?_
 change wpAnyH _ _ _ _ _ _ _ F14_ _;delta F14_;refine dk 4 (.slice (some ⟨g,q,none⟩) 1 c3) rfl rfl (fun W h=>by obtain ⟨_,h⟩:=h;have c3:W.cell? ⟨w.heap.size,3,none⟩=some (.slice (some ⟨g,q,none⟩) 1 c3):=(cr h.1);unfold execOp;go_simp) ⟨_,a.out⟩ ?_
 change wpAnyH _ _ _ _ _ _ _ F14_ _;delta F14_;refine dk 5 (.pointer (some ⟨g,q,none⟩)) rfl rfl (fun _ _=>by unfold execOp;go_simp) ⟨_,a.out⟩ ?_
 change wpAnyH _ _ _ _ _ _ _ F14_ _;delta F14_;refine dk 6 (.agg #[.int .u8 z,.int .u8 B,.int .i64 A,.string r,.slice O mY P,.int .i64 x]) rfl rfl (fun W h=>by obtain ⟨_,h⟩:=h;have Q:=cb h.2.2.1 i.out f.out.1;have f1:=cb h.2.2.1 i.out f.out.2.1;have U:=cb h.2.2.1 i.out f.out.2.2.1;have X:=cb h.2.2.1 i.out f.out.2.2.2.1;have f4:=cb h.2.2.1 i.out f.out.2.2.2.2.1;have T:=cb h.2.2.1 i.out f.out.2.2.2.2.2;unfold execOp;go_simp) ⟨_,a.out⟩ ?_
 change wpAnyH _ _ _ _ _ _ _ F14_ _;delta F14_;refine do1 7 rfl rfl ?_;refine wp_call (vs:=#[.agg #[.int .u8 z,.int .u8 B,.int .i64 A,.string r,.slice O mY P,.int .i64 x]]) rfl rfl (enters_of Tryz.func154 (by kernel_rfl) rfl) (by simp [Act.eval]) (n.out _ a.out.2.2.1) ?_
 rintro e K ⟨F,V⟩;have c:=Hd (sst_below a.out F);clear F a;rcases V with ⟨m,rfl⟩ | ⟨m,rfl⟩
 rotate_left
 · have hm := G.out
   exact ⟨rfl,c.out.2.2.2.2,.inr ⟨by simp;omega,rfl⟩⟩
 have Y:=Hd m;clear m;refine ⟨⟨_,c.out⟩,?_⟩;change wpAnyH _ _ _ _ _ _ _ F14_ _;delta F14_;refine do1 8 rfl rfl ?_;refine wp_run (v:=.slice (some ⟨K.heap.size,0,none⟩) 4 4) (w':=K.alloc (.cells #[.string nm,.string ⟨#[32,61,32]⟩,.string ⟨te.toArray⟩,.string ⟨#[59]⟩] 9)) (by unfold execOp;go_simp) ?_
 have C:=Hd (sst_below c.out ((Below.refl _ K).alloc (Nat.le_refl _) (.cells #[.string nm,.string ⟨#[32,61,32]⟩,.string ⟨te.toArray⟩,.string ⟨#[59]⟩] 9)));refine ⟨⟨_,C.out⟩,?_⟩;change wpAnyH _ _ _ _ _ _ _ F14_ _;delta F14_;refine do1 9 rfl rfl ?_;refine wp_call (vs:=#[.pointer (some ⟨b,0,none⟩),.slice (some ⟨K.heap.size,0,none⟩) 4 4]) rfl rfl (enters_of Tryz.func48 (by kernel_rfl) rfl) (by simp [Act.eval]) (J.out _ _ c.out.2.1 HT.out Y.out) ?_
 rintro e w8 hh;rcases hh.cases with ⟨M,rfl,hw,hk,L⟩ | ⟨M,rfl,L⟩
 rotate_left
 · exact ⟨rfl,c.out.2.2.2.2.trans L,.inr ⟨M,rfl⟩⟩
 have l:=Hd (sst_put c.out HG.out hw hk L);have Z:=Hd M;clear M hw hk L hh c C;refine ⟨⟨_,l.out⟩,?_⟩;refine wpAnyH_done (by kernel_rfl) ?_ _
 have HF:Hid (PutP b txt q1 d fs w (.returned (.tuple #[])) w8):=⟨l.out.2.2.2.2,.inl ⟨Z.out,rfl,l.out.2.1,l.out.2.2.2.1⟩⟩;go_wp2_with fail;exact bodyPost_end (results_none rfl _ _ _) rfl HF.out
theorem p_wswap {k:Int} {nm ot:ByteArray} {es:List Ex} {bo el:List St} {ps:Int} {a3 a4 a5:Option Addr} {c3 c4 c5:Nat} {w0 w:World} {b:Nat} {txt:List UInt8} {d:Nat} {fs:List Value} (hd:d<=64) (TT:WTb w0) (hb0:b=w0.heap.size) (hbw:Below b w0 w) (hw:Wt b txt d fs w) (ht:txt.length<=65536) (h3:exsAt (fun _=>True) w0 es a3) {y:Ex} (hes:es=[y]) (hry:rE y 0=true) (hrgy:rgE y) (hnm:nm.size<=140737488289792) (hot:ot.size<=140737488289792) :
 Calls Tryz.prog 108 #[.pointer (some ⟨b,0,none⟩),.agg #[.int .u8 k,.string nm,.string ot,.slice a3 es.length c3,.slice a4 bo.length c4,.slice a5 el.length c5,.int .i64 ps]] w (PutP b txt (ln d [nm.data.toList,[32,61,32,115,119,97,112,40],ot.data.toList,[44,32],e0T es,[41,59]]) d fs w):=by
 subst hes;obtain ⟨z,B,A,r,j,x⟩:=y;rcases h3 with e | ⟨g,q,e,_,e1⟩
 · cases e
 subst e;obtain ⟨⟨Q,f1,U,X,⟨O,P,f4,y4⟩,T⟩,_⟩:=e1;have lg:=lt_of_at Q;simp only at lg;have i:Hid (g<b):=by rw [Hid,hb0];exact lg
 have f:=Hd (And.intro Q (And.intro f1 (And.intro U (And.intro X (And.intro f4 T)))));have n:Hid (∀ W,Below b w0 W->Calls Tryz.prog 154 #[.agg #[.int .u8 z,.int .u8 B,.int .i64 A,.string r,.slice O j.length P,.int .i64 x]] W (TxP W (tE (.mk z B A r j x)))):=fun W D=>p_wexpression (.mk z B A r j x) 0 hry hrgy ⟨O,P,rfl,exsAt_below y4 (by rw [<- hb0];exact D)⟩ (TT.below (by rw [<- hb0];exact D))
 simp only [e0T];change Calls _ _ #[_,.agg #[.int .u8 k,.string nm,.string ot,.slice (some ⟨g,q,none⟩) 1 c3,.slice a4 bo.length c4,.slice a5 el.length c5,.int .i64 ps]] w _;generalize tE (.mk z B A r j x)=te at n ⊢;generalize j.length=mY at n f;clear Q f1 U X f4 T y4 lg hry hrgy
 have J:Hid (∀ t W,Wt b t d fs W->t.length<=65536->te.length<=65536->Calls Tryz.prog 48 #[.pointer (some ⟨b,0,none⟩),.slice (some ⟨W.heap.size,0,none⟩) 6 6] (W.alloc (.cells #[.string nm,.string ⟨#[32,61,32,115,119,97,112,40]⟩,.string ot,.string ⟨#[44,32]⟩,.string ⟨te.toArray⟩,.string ⟨#[41,59]⟩] 9)) (PutP b t (ln d [nm.data.toList,[32,61,32,115,119,97,112,40],ot.data.toList,[44,32],te,[41,59]]) d fs W)):=fun t W hw ht m=>p_line6 hw (by omega) ht nm ⟨#[32,61,32,115,119,97,112,40]⟩ ot ⟨#[44,32]⟩ ⟨te.toArray⟩ ⟨#[41,59]⟩ (fun s hs=>by
  simp only [List.mem_cons,List.not_mem_nil,or_false] at hs
  rcases hs with rfl | rfl | rfl | rfl | rfl | rfl
  · exact hnm
  · decide
  · exact hot
  · decide
  · show te.toArray.size<=_;rw [List.size_toArray];omega
  · decide)
 have G:Hid (te.length<=(ln d [nm.data.toList,[32,61,32,115,119,97,112,40],ot.data.toList,[44,32],te,[41,59]]).length):=ln_mem (by simp)
 generalize ln d [nm.data.toList,[32,61,32,115,119,97,112,40],ot.data.toList,[44,32],te,[41,59]]=q1 at J G ⊢;generalize bo.length=n4;generalize el.length=n5 at *;have HT:=Hd ht;have p:=hw.lt;have E:Below w.heap.size w (w.alloc (.cells #[.int .u8 k,.string nm,.string ot,.slice (some ⟨g,q,none⟩) 1 c3,.slice a4 n4 c4,.slice a5 n5 c5,.int .i64 ps] 120)):=(Below.refl _ w).alloc (Nat.le_refl _) _;have I:Hid (Sst w0 w b w.heap.size #[.int .u8 k,.string nm,.string ot,.slice (some ⟨g,q,none⟩) 1 c3,.slice a4 n4 c4,.slice a5 n5 c5,.int .i64 ps] txt d fs (w.alloc (.cells #[.int .u8 k,.string nm,.string ot,.slice (some ⟨g,q,none⟩) 1 c3,.slice a4 n4 c4,.slice a5 n5 c5,.int .i64 ps] 120))):=⟨Own.new w _ _,hw.below E,hbw.trans (E.mono (Nat.le_of_lt p)),keep_below E,E.mono (Nat.le_of_lt p)⟩;have HG:Hid (w.heap.size≠b):=by rw [Hid];omega
 clear TT hbw hw ht p E hd hb0 hnm hot;obtain ⟨N,o⟩:=Qx (w.alloc (.cells #[.int .u8 k,.string nm,.string ot,.slice (some ⟨g,q,none⟩) 1 c3,.slice a4 n4 c4,.slice a5 n5 c5,.int .i64 ps] 120));rw [<- o] at I;have H:=Hd o;clear o;go_enter Tryz.func108,Tryz.ntmps108;go_upto_region 1 with (fail)
 rw [<- H.out];clear H;refine wp_region_held (S:=fun W=>∃ t,Sst w0 w b w.heap.size #[.int .u8 k,.string nm,.string ot,.slice (some ⟨g,q,none⟩) 1 c3,.slice a4 n4 c4,.slice a5 n5 c5,.int .i64 ps] t d fs W) (by kernel_rfl) ?_
 change wpAnyH _ _ _ _ _ _ _ _ N.drew;have R:Sst w0 w b w.heap.size #[.int .u8 k,.string nm,.string ot,.slice (some ⟨g,q,none⟩) 1 c3,.slice a4 n4 c4,.slice a5 n5 c5,.int .i64 ps] _ d fs N.drew:=sst_below I.out (below_drewN (Below.refl _ N) 1);obtain ⟨wd,D⟩:=Qx N.drew;rw [<- D] at R ⊢;clear D;have a:=Hd R;clear R;refine dk 0 (.pointer (some ⟨b,0,none⟩)) rfl rfl (fun _ _=>rfl) ⟨_,a.out⟩ ?_
 change wpAnyH _ _ _ _ _ _ _ F16_ _;delta F16_;refine dk 1 (.pointer (some ⟨w.heap.size,1,none⟩)) rfl rfl (fun _ _=>by unfold execOp;go_simp) ⟨_,a.out⟩ ?_
 change wpAnyH _ _ _ _ _ _ _ F16_ _;delta F16_;refine dk 2 (.string nm) rfl rfl (fun W h=>by obtain ⟨_,h⟩:=h;have c1:W.cell? ⟨w.heap.size,1,none⟩=some (.string nm):=(cr h.1);unfold execOp;go_simp) ⟨_,a.out⟩ ?_
 change wpAnyH _ _ _ _ _ _ _ F16_ _;delta F16_;refine dk 3 (.pointer (some ⟨w.heap.size,2,none⟩)) rfl rfl (fun _ _=>by unfold execOp;go_simp) ⟨_,a.out⟩ ?_
 change wpAnyH _ _ _ _ _ _ _ F16_ _;delta F16_;refine dk 4 (.string ot) rfl rfl (fun W h=>by obtain ⟨_,h⟩:=h;have c2:W.cell? ⟨w.heap.size,2,none⟩=some (.string ot):=(cr h.1);unfold execOp;go_simp) ⟨_,a.out⟩ ?_
 change wpAnyH _ _ _ _ _ _ _ F16_ _;delta F16_;refine dk 5 (.pointer (some ⟨w.heap.size,3,none⟩)) rfl rfl (fun _ _=>by unfold execOp;go_simp) ⟨_,a.out⟩ ?_
 change wpAnyH _ _ _ _ _ _ _ F16_ _;delta F16_;refine dk 6 (.slice (some ⟨g,q,none⟩) 1 c3) rfl rfl (fun W h=>by obtain ⟨_,h⟩:=h;have c3:W.cell? ⟨w.heap.size,3,none⟩=some (.slice (some ⟨g,q,none⟩) 1 c3):=(cr h.1);unfold execOp;go_simp) ⟨_,a.out⟩ ?_
 change wpAnyH _ _ _ _ _ _ _ F16_ _;delta F16_;refine dk 7 (.pointer (some ⟨g,q,none⟩)) rfl rfl (fun _ _=>by unfold execOp;go_simp) ⟨_,a.out⟩ ?_
 change wpAnyH _ _ _ _ _ _ _ F16_ _;delta F16_;refine dk 8 (.agg #[.int .u8 z,.int .u8 B,.int .i64 A,.string r,.slice O mY P,.int .i64 x]) rfl rfl (fun W h=>by obtain ⟨_,h⟩:=h;have Q:=cb h.2.2.1 i.out f.out.1;have f1:=cb h.2.2.1 i.out f.out.2.1;have U:=cb h.2.2.1 i.out f.out.2.2.1;have X:=cb h.2.2.1 i.out f.out.2.2.2.1;have f4:=cb h.2.2.1 i.out f.out.2.2.2.2.1;have T:=cb h.2.2.1 i.out f.out.2.2.2.2.2;unfold execOp;go_simp) ⟨_,a.out⟩ ?_
 change wpAnyH _ _ _ _ _ _ _ F16_ _;delta F16_;refine do1 9 rfl rfl ?_;refine wp_call (vs:=#[.agg #[.int .u8 z,.int .u8 B,.int .i64 A,.string r,.slice O mY P,.int .i64 x]]) rfl rfl (enters_of Tryz.func154 (by kernel_rfl) rfl) (by simp [Act.eval]) (n.out _ a.out.2.2.1) ?_
 rintro e K ⟨F,V⟩;have c:=Hd (sst_below a.out F);clear F a;rcases V with ⟨m,rfl⟩ | ⟨m,rfl⟩
 rotate_left
 · have hm := G.out
   exact ⟨rfl,c.out.2.2.2.2,.inr ⟨by simp;omega,rfl⟩⟩
 have Y:=Hd m;clear m;refine ⟨⟨_,c.out⟩,?_⟩;change wpAnyH _ _ _ _ _ _ _ F16_ _;delta F16_;refine do1 10 rfl rfl ?_;refine wp_run (v:=.slice (some ⟨K.heap.size,0,none⟩) 6 6) (w':=K.alloc (.cells #[.string nm,.string ⟨#[32,61,32,115,119,97,112,40]⟩,.string ot,.string ⟨#[44,32]⟩,.string ⟨te.toArray⟩,.string ⟨#[41,59]⟩] 9)) (by unfold execOp;go_simp) ?_
 have C:=Hd (sst_below c.out ((Below.refl _ K).alloc (Nat.le_refl _) (.cells #[.string nm,.string ⟨#[32,61,32,115,119,97,112,40]⟩,.string ot,.string ⟨#[44,32]⟩,.string ⟨te.toArray⟩,.string ⟨#[41,59]⟩] 9)));refine ⟨⟨_,C.out⟩,?_⟩;change wpAnyH _ _ _ _ _ _ _ F16_ _;delta F16_;refine do1 11 rfl rfl ?_;refine wp_call (vs:=#[.pointer (some ⟨b,0,none⟩),.slice (some ⟨K.heap.size,0,none⟩) 6 6]) rfl rfl (enters_of Tryz.func48 (by kernel_rfl) rfl) (by simp [Act.eval]) (J.out _ _ c.out.2.1 HT.out Y.out) ?_
 rintro e w8 hh;rcases hh.cases with ⟨M,rfl,hw,hk,L⟩ | ⟨M,rfl,L⟩
 rotate_left
 · exact ⟨rfl,c.out.2.2.2.2.trans L,.inr ⟨M,rfl⟩⟩
 have l:=Hd (sst_put c.out HG.out hw hk L);have Z:=Hd M;clear M hw hk L hh c C;refine ⟨⟨_,l.out⟩,?_⟩;refine wpAnyH_done (by kernel_rfl) ?_ _
 have HF:Hid (PutP b txt q1 d fs w (.returned (.tuple #[])) w8):=⟨l.out.2.2.2.2,.inl ⟨Z.out,rfl,l.out.2.1,l.out.2.2.2.1⟩⟩;go_wp2_with fail;exact bodyPost_end (results_none rfl _ _ _) rfl HF.out
end Go.Proofs.YtbgfkdiihnidaaaGreatDoor

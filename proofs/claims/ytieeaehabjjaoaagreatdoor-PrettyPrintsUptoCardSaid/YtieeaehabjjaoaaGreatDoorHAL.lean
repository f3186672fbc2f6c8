/- The proof, part 12: texts that belong together, in one. -/
import Derived.Test.YtieeaehabjjaoaaGreatDoorHAK
set_option maxRecDepth 100000
set_option maxHeartbeats 20000000
namespace Go.Proofs.YtieeaehabjjaoaaGreatDoor
open Go.RowKit
set_option linter.unusedVariables false
set_option maxRecDepth 100000
theorem wp_run {o:Oper} {a:Act} {w w':World} {K:Act→World→Prop} {Q:Exit→Act→World→Prop} {v:Value} (h:(execOp a.eval o).run Tryz.prog w=.ok (.value v) w') (hk:K (a.put o.dst v) w'):o.wp Tryz.prog a w K Q:=by
 unfold Oper.wp
 rw [h]
 exact hk
theorem p_wassign {k:Int} {nm ot:ByteArray} {es:List Ex} {bo el:List St} {ps:Int} {a3 a4 a5:Option Addr} {c3 c4 c5:Nat} {w0 w:World} {b:Nat} {txt:List UInt8} {d:Nat} {fs:List Value} (hd:d≤64) (TT:WTb w0) (hb0:b=w0.heap.size) (hbw:Below b w0 w) (hw:Wt b txt d fs w) (ht:txt.length≤65536) (h3:exsAt (fun _=>True) w0 es a3) {y:Ex} (hes:es=[y]) (hry:rE y 0=true) (hrgy:rgE y) (hnm:nm.size≤140737488289792) :
 Calls Tryz.prog 79 #[.pointer (some ⟨b,0,none⟩),.agg #[.int .u8 k,.string nm,.string ot,.slice a3 es.length c3,.slice a4 bo.length c4,.slice a5 el.length c5,.int .i64 ps]] w (PutP b txt (ln d [nm.data.toList,[32,61,32],e0T es,[59]]) d fs w):=by
 subst hes
 obtain ⟨kY,oY,wY,nY,ksY,pY⟩:=y
 rcases h3 with e | ⟨g,q,e,_,e1⟩
 · cases e
 subst e
 obtain ⟨⟨f0,f1,f2,f3,⟨aY,cY,f4,y4⟩,f5⟩,_⟩:=e1
 have lg:=lt_of_at f0
 simp only at lg
 have HLG:Hid (g<b):=by rw [Hid,hb0];exact lg
 have HFY:=Lib.hid (And.intro f0 (And.intro f1 (And.intro f2 (And.intro f3 (And.intro f4 f5)))))
 have HEX:Hid (∀ W,Below b w0 W→Calls Tryz.prog 58 #[.agg #[.int .u8 kY,.int .u8 oY,.int .i64 wY,.string nY,.slice aY ksY.length cY,.int .i64 pY]] W (TxP W (tE (.mk kY oY wY nY ksY pY)))):=fun W hW=>p_wexpression (.mk kY oY wY nY ksY pY) 0 hry hrgy ⟨aY,cY,rfl,exsAt_below y4 (by rw [← hb0];exact hW)⟩ (TT.below (by rw [← hb0];exact hW))
 simp only [e0T]
 change Calls _ _ #[_,.agg #[.int .u8 k,.string nm,.string ot,.slice (some ⟨g,q,none⟩) 1 c3,.slice a4 bo.length c4,.slice a5 el.length c5,.int .i64 ps]] w _
 generalize tE (.mk kY oY wY nY ksY pY)=te at HEX ⊢
 generalize ksY.length=mY at HEX HFY
 clear f0 f1 f2 f3 f4 f5 y4 lg hry hrgy
 have HL1:Hid (∀ t W,Wt b t d fs W→t.length≤65536→te.length≤65536→Calls Tryz.prog 45 #[.pointer (some ⟨b,0,none⟩),.slice (some ⟨W.heap.size,0,none⟩) 4 4] (W.alloc (.cells #[.string nm,.string ⟨#[32,61,32]⟩,.string ⟨te.toArray⟩,.string ⟨#[59]⟩] 9)) (PutP b t (ln d [nm.data.toList,[32,61,32],te,[59]]) d fs W)):=fun t W hw ht hte=>p_line4 hw (by omega) ht nm ⟨#[32,61,32]⟩ ⟨te.toArray⟩ ⟨#[59]⟩ (fun s hs=>by
  simp only [List.mem_cons,List.not_mem_nil,or_false] at hs
  rcases hs with rfl | rfl | rfl | rfl
  · exact hnm
  · decide
  · show te.toArray.size≤_;rw [List.size_toArray];omega
  · decide)
 have HM1:Hid (te.length≤(ln d [nm.data.toList,[32,61,32],te,[59]]).length):=ln_mem (by simp)
 generalize ln d [nm.data.toList,[32,61,32],te,[59]]=q1 at HL1 HM1 ⊢
 generalize bo.length=n4
 generalize el.length=n5
 have HT:=Lib.hid ht
 have hlt:=hw.lt
 have al:Below w.heap.size w (w.alloc (.cells #[.int .u8 k,.string nm,.string ot,.slice (some ⟨g,q,none⟩) 1 c3,.slice a4 n4 c4,.slice a5 n5 c5,.int .i64 ps] 66)):=(Below.refl _ w).alloc (Nat.le_refl _) _
 have HX0:Hid (Sst w0 w b w.heap.size #[.int .u8 k,.string nm,.string ot,.slice (some ⟨g,q,none⟩) 1 c3,.slice a4 n4 c4,.slice a5 n5 c5,.int .i64 ps] txt d fs (w.alloc (.cells #[.int .u8 k,.string nm,.string ot,.slice (some ⟨g,q,none⟩) 1 c3,.slice a4 n4 c4,.slice a5 n5 c5,.int .i64 ps] 66))):=⟨Own.new w _ _,hw.below al,hbw.trans (al.mono (Nat.le_of_lt hlt)),keep_below al,al.mono (Nat.le_of_lt hlt)⟩
 have HG:Hid (w.heap.size≠b):=by rw [Hid];omega
 clear TT hbw hw ht hlt al hd hb0 hnm
 obtain ⟨W0,hW0⟩:∃ W,W=w.alloc (.cells #[.int .u8 k,.string nm,.string ot,.slice (some ⟨g,q,none⟩) 1 c3,.slice a4 n4 c4,.slice a5 n5 c5,.int .i64 ps] 66):=⟨_,rfl⟩
 rw [← hW0] at HX0
 have HW0:=Lib.hid hW0
 clear hW0
 go_enter Tryz.func79,Tryz.ntmps79
 go_upto_region 1 with (fail)
 rw [← HW0.out]
 clear HW0
 refine wp_region_held (S:=fun W=>∃ t,Sst w0 w b w.heap.size #[.int .u8 k,.string nm,.string ot,.slice (some ⟨g,q,none⟩) 1 c3,.slice a4 n4 c4,.slice a5 n5 c5,.int .i64 ps] t d fs W) (by kernel_rfl) ?_
 change wpAnyH _ _ _ _ _ _ _ _ W0.drew
 have D0:Sst w0 w b w.heap.size #[.int .u8 k,.string nm,.string ot,.slice (some ⟨g,q,none⟩) 1 c3,.slice a4 n4 c4,.slice a5 n5 c5,.int .i64 ps] _ d fs W0.drew:=sst_below HX0.out (below_drewN (Below.refl _ W0) 1)
 obtain ⟨wd,hW⟩:∃ W,W=W0.drew:=⟨_,rfl⟩
 rw [← hW] at D0 ⊢
 clear hW
 have HD0:=Lib.hid D0
 clear D0
 refine dr_take 0 (.pointer (some ⟨b,0,none⟩)) rfl rfl (by kernel_rfl) (by kernel_rfl) (by kernel_rfl) (fun _ _ _ h=>h) (fun _ _=>rfl) ⟨_,HD0.out⟩ ?_
 change wpAnyH _ _ _ _ _ _ _ { tmps:=List.toArray (_::_::_::_::_::_::_::_::_::_::_::_::_::_::[]),defers:=[] } _
 refine dr_take 1 (.pointer (some ⟨w.heap.size,1,none⟩)) rfl rfl (by kernel_rfl) (by kernel_rfl) (by kernel_rfl) (fun _ _ _ h=>h) (fun _ _=>by unfold execOp;go_simp) ⟨_,HD0.out⟩ ?_
 change wpAnyH _ _ _ _ _ _ _ { tmps:=List.toArray (_::_::_::_::_::_::_::_::_::_::_::_::_::_::[]),defers:=[] } _
 refine dr_take 2 (.string nm) rfl rfl (by kernel_rfl) (by kernel_rfl) (by kernel_rfl) (fun _ _ _ h=>h) (fun W h=>by obtain ⟨_,h⟩:=h;have c1:W.cell? ⟨w.heap.size,1,none⟩=some (.string nm):=(by rw [cell_of_row _ _ 1 _ _ _ h.1];rfl);unfold execOp;go_simp) ⟨_,HD0.out⟩ ?_
 change wpAnyH _ _ _ _ _ _ _ { tmps:=List.toArray (_::_::_::_::_::_::_::_::_::_::_::_::_::_::[]),defers:=[] } _
 refine dr_take 3 (.pointer (some ⟨w.heap.size,3,none⟩)) rfl rfl (by kernel_rfl) (by kernel_rfl) (by kernel_rfl) (fun _ _ _ h=>h) (fun _ _=>by unfold execOp;go_simp) ⟨_,HD0.out⟩ ?_
 change wpAnyH _ _ _ _ _ _ _ { tmps:=List.toArray (_::_::_::_::_::_::_::_::_::_::_::_::_::_::[]),defers:=[] } _
 refine dr_take 4 (.slice (some ⟨g,q,none⟩) 1 c3) rfl rfl (by kernel_rfl) (by kernel_rfl) (by kernel_rfl) (fun _ _ _ h=>h) (fun W h=>by obtain ⟨_,h⟩:=h;have c3:W.cell? ⟨w.heap.size,3,none⟩=some (.slice (some ⟨g,q,none⟩) 1 c3):=(by rw [cell_of_row _ _ 3 _ _ _ h.1];rfl);unfold execOp;go_simp) ⟨_,HD0.out⟩ ?_
 change wpAnyH _ _ _ _ _ _ _ { tmps:=List.toArray (_::_::_::_::_::_::_::_::_::_::_::_::_::_::[]),defers:=[] } _
 refine dr_take 5 (.pointer (some ⟨g,q,none⟩)) rfl rfl (by kernel_rfl) (by kernel_rfl) (by kernel_rfl) (fun _ _ _ h=>h) (fun _ _=>by unfold execOp;go_simp) ⟨_,HD0.out⟩ ?_
 change wpAnyH _ _ _ _ _ _ _ { tmps:=List.toArray (_::_::_::_::_::_::_::_::_::_::_::_::_::_::[]),defers:=[] } _
 refine dr_take 6 (.agg #[.int .u8 kY,.int .u8 oY,.int .i64 wY,.string nY,.slice aY mY cY,.int .i64 pY]) rfl rfl (by kernel_rfl) (by kernel_rfl) (by kernel_rfl) (fun _ _ _ h=>h) (fun W h=>by obtain ⟨_,h⟩:=h;have f0:W.cell? ⟨g,q,none⟩=some (.int .u8 kY):=(h.2.2.1.cell (p:=⟨g,q,none⟩) HLG.out).trans HFY.out.1;have f1:W.cell? ⟨g,q+1,none⟩=some (.int .u8 oY):=(h.2.2.1.cell (p:=⟨g,q+1,none⟩) HLG.out).trans HFY.out.2.1;have f2:W.cell? ⟨g,q+2,none⟩=some (.int .i64 wY):=(h.2.2.1.cell (p:=⟨g,q+2,none⟩) HLG.out).trans HFY.out.2.2.1;have f3:W.cell? ⟨g,q+3,none⟩=some (.string nY):=(h.2.2.1.cell (p:=⟨g,q+3,none⟩) HLG.out).trans HFY.out.2.2.2.1;have f4:W.cell? ⟨g,q+4,none⟩=some (.slice aY mY cY):=(h.2.2.1.cell (p:=⟨g,q+4,none⟩) HLG.out).trans HFY.out.2.2.2.2.1;have f5:W.cell? ⟨g,q+5,none⟩=some (.int .i64 pY):=(h.2.2.1.cell (p:=⟨g,q+5,none⟩) HLG.out).trans HFY.out.2.2.2.2.2;unfold execOp;go_simp) ⟨_,HD0.out⟩ ?_
 change wpAnyH _ _ _ _ _ _ _ { tmps:=List.toArray (_::_::_::_::_::_::_::_::_::_::_::_::_::_::[]),defers:=[] } _
 refine dr_one 7 rfl rfl (by kernel_rfl) ?_
 refine wp_call (vs:=#[.agg #[.int .u8 kY,.int .u8 oY,.int .i64 wY,.string nY,.slice aY mY cY,.int .i64 pY]]) rfl rfl (enters_of Tryz.func58 (by kernel_rfl) rfl) (by simp [Act.eval]) (HEX.out _ HD0.out.2.2.1) ?_
 rintro e w6 ⟨hbe,hee⟩
 have HD6:=Lib.hid (sst_below HD0.out hbe)
 clear hbe HD0
 rcases hee with ⟨hte,rfl⟩ | ⟨hte,rfl⟩
 rotate_left
 · have hm := HM1.out
   exact ⟨rfl,HD6.out.2.2.2.2,.inr ⟨by simp;omega,rfl⟩⟩
 have HTE:=Lib.hid hte
 clear hte
 refine ⟨⟨_,HD6.out⟩,?_⟩
 change wpAnyH _ _ _ _ _ _ _ { tmps:=List.toArray (_::_::_::_::_::_::_::_::_::_::_::_::_::_::[]),defers:=[] } _
 refine dr_one 8 rfl rfl (by kernel_rfl) ?_
 refine wp_run (v:=.slice (some ⟨w6.heap.size,0,none⟩) 4 4) (w':=w6.alloc (.cells #[.string nm,.string ⟨#[32,61,32]⟩,.string ⟨te.toArray⟩,.string ⟨#[59]⟩] 9)) (by unfold execOp;go_simp) ?_
 have HD7:=Lib.hid (sst_below HD6.out ((Below.refl _ w6).alloc (Nat.le_refl _) (.cells #[.string nm,.string ⟨#[32,61,32]⟩,.string ⟨te.toArray⟩,.string ⟨#[59]⟩] 9)))
 refine ⟨⟨_,HD7.out⟩,?_⟩
 change wpAnyH _ _ _ _ _ _ _ { tmps:=List.toArray (_::_::_::_::_::_::_::_::_::_::_::_::_::_::[]),defers:=[] } _
 refine dr_one 9 rfl rfl (by kernel_rfl) ?_
 refine wp_call (vs:=#[.pointer (some ⟨b,0,none⟩),.slice (some ⟨w6.heap.size,0,none⟩) 4 4]) rfl rfl (enters_of Tryz.func45 (by kernel_rfl) rfl) (by simp [Act.eval]) (HL1.out _ _ HD6.out.2.1 HT.out HTE.out) ?_
 rintro e w8 hh
 rcases hh.cases with ⟨hx,rfl,hw,hk,hb⟩ | ⟨hx,rfl,hb⟩
 rotate_left
 · exact ⟨rfl,HD6.out.2.2.2.2.trans hb,.inr ⟨hx,rfl⟩⟩
 have HX1:=Lib.hid (sst_put HD6.out HG.out hw hk hb)
 have HK1:=Lib.hid hx
 clear hx hw hk hb hh HD6 HD7
 refine ⟨⟨_,HX1.out⟩,?_⟩
 refine wpAnyH_done (by kernel_rfl) ?_ _
 have HF:Hid (PutP b txt q1 d fs w (.returned (.tuple #[])) w8):=⟨HX1.out.2.2.2.2,.inl ⟨HK1.out,rfl,HX1.out.2.1,HX1.out.2.2.2.1⟩⟩
 go_wp2_with fail
 exact bodyPost_end (results_none rfl _ _ _) rfl HF.out
theorem p_wswap {k:Int} {nm ot:ByteArray} {es:List Ex} {bo el:List St} {ps:Int} {a3 a4 a5:Option Addr} {c3 c4 c5:Nat} {w0 w:World} {b:Nat} {txt:List UInt8} {d:Nat} {fs:List Value} (hd:d≤64) (TT:WTb w0) (hb0:b=w0.heap.size) (hbw:Below b w0 w) (hw:Wt b txt d fs w) (ht:txt.length≤65536) (h3:exsAt (fun _=>True) w0 es a3) {y:Ex} (hes:es=[y]) (hry:rE y 0=true) (hrgy:rgE y) (hnm:nm.size≤140737488289792) (hot:ot.size≤140737488289792) :
 Calls Tryz.prog 80 #[.pointer (some ⟨b,0,none⟩),.agg #[.int .u8 k,.string nm,.string ot,.slice a3 es.length c3,.slice a4 bo.length c4,.slice a5 el.length c5,.int .i64 ps]] w (PutP b txt (ln d [nm.data.toList,[32,61,32,115,119,97,112,40],ot.data.toList,[44,32],e0T es,[41,59]]) d fs w):=by
 subst hes
 obtain ⟨kY,oY,wY,nY,ksY,pY⟩:=y
 rcases h3 with e | ⟨g,q,e,_,e1⟩
 · cases e
 subst e
 obtain ⟨⟨f0,f1,f2,f3,⟨aY,cY,f4,y4⟩,f5⟩,_⟩:=e1
 have lg:=lt_of_at f0
 simp only at lg
 have HLG:Hid (g<b):=by rw [Hid,hb0];exact lg
 have HFY:=Lib.hid (And.intro f0 (And.intro f1 (And.intro f2 (And.intro f3 (And.intro f4 f5)))))
 have HEX:Hid (∀ W,Below b w0 W→Calls Tryz.prog 58 #[.agg #[.int .u8 kY,.int .u8 oY,.int .i64 wY,.string nY,.slice aY ksY.length cY,.int .i64 pY]] W (TxP W (tE (.mk kY oY wY nY ksY pY)))):=fun W hW=>p_wexpression (.mk kY oY wY nY ksY pY) 0 hry hrgy ⟨aY,cY,rfl,exsAt_below y4 (by rw [← hb0];exact hW)⟩ (TT.below (by rw [← hb0];exact hW))
 simp only [e0T]
 change Calls _ _ #[_,.agg #[.int .u8 k,.string nm,.string ot,.slice (some ⟨g,q,none⟩) 1 c3,.slice a4 bo.length c4,.slice a5 el.length c5,.int .i64 ps]] w _
 generalize tE (.mk kY oY wY nY ksY pY)=te at HEX ⊢
 generalize ksY.length=mY at HEX HFY
 clear f0 f1 f2 f3 f4 f5 y4 lg hry hrgy
 have HL1:Hid (∀ t W,Wt b t d fs W→t.length≤65536→te.length≤65536→Calls Tryz.prog 45 #[.pointer (some ⟨b,0,none⟩),.slice (some ⟨W.heap.size,0,none⟩) 6 6] (W.alloc (.cells #[.string nm,.string ⟨#[32,61,32,115,119,97,112,40]⟩,.string ot,.string ⟨#[44,32]⟩,.string ⟨te.toArray⟩,.string ⟨#[41,59]⟩] 9)) (PutP b t (ln d [nm.data.toList,[32,61,32,115,119,97,112,40],ot.data.toList,[44,32],te,[41,59]]) d fs W)):=fun t W hw ht hte=>p_line6 hw (by omega) ht nm ⟨#[32,61,32,115,119,97,112,40]⟩ ot ⟨#[44,32]⟩ ⟨te.toArray⟩ ⟨#[41,59]⟩ (fun s hs=>by
  simp only [List.mem_cons,List.not_mem_nil,or_false] at hs
  rcases hs with rfl | rfl | rfl | rfl | rfl | rfl
  · exact hnm
  · decide
  · exact hot
  · decide
  · show te.toArray.size≤_;rw [List.size_toArray];omega
  · decide)
 have HM1:Hid (te.length≤(ln d [nm.data.toList,[32,61,32,115,119,97,112,40],ot.data.toList,[44,32],te,[41,59]]).length):=ln_mem (by simp)
 generalize ln d [nm.data.toList,[32,61,32,115,119,97,112,40],ot.data.toList,[44,32],te,[41,59]]=q1 at HL1 HM1 ⊢
 generalize bo.length=n4
 generalize el.length=n5 at *
 have HT:=Lib.hid ht
 have hlt:=hw.lt
 have al:Below w.heap.size w (w.alloc (.cells #[.int .u8 k,.string nm,.string ot,.slice (some ⟨g,q,none⟩) 1 c3,.slice a4 n4 c4,.slice a5 n5 c5,.int .i64 ps] 66)):=(Below.refl _ w).alloc (Nat.le_refl _) _
 have HX0:Hid (Sst w0 w b w.heap.size #[.int .u8 k,.string nm,.string ot,.slice (some ⟨g,q,none⟩) 1 c3,.slice a4 n4 c4,.slice a5 n5 c5,.int .i64 ps] txt d fs (w.alloc (.cells #[.int .u8 k,.string nm,.string ot,.slice (some ⟨g,q,none⟩) 1 c3,.slice a4 n4 c4,.slice a5 n5 c5,.int .i64 ps] 66))):=⟨Own.new w _ _,hw.below al,hbw.trans (al.mono (Nat.le_of_lt hlt)),keep_below al,al.mono (Nat.le_of_lt hlt)⟩
 have HG:Hid (w.heap.size≠b):=by rw [Hid];omega
 clear TT hbw hw ht hlt al hd hb0 hnm hot
 obtain ⟨W0,hW0⟩:∃ W,W=w.alloc (.cells #[.int .u8 k,.string nm,.string ot,.slice (some ⟨g,q,none⟩) 1 c3,.slice a4 n4 c4,.slice a5 n5 c5,.int .i64 ps] 66):=⟨_,rfl⟩
 rw [← hW0] at HX0
 have HW0:=Lib.hid hW0
 clear hW0
 go_enter Tryz.func80,Tryz.ntmps80
 go_upto_region 1 with (fail)
 rw [← HW0.out]
 clear HW0
 refine wp_region_held (S:=fun W=>∃ t,Sst w0 w b w.heap.size #[.int .u8 k,.string nm,.string ot,.slice (some ⟨g,q,none⟩) 1 c3,.slice a4 n4 c4,.slice a5 n5 c5,.int .i64 ps] t d fs W) (by kernel_rfl) ?_
 change wpAnyH _ _ _ _ _ _ _ _ W0.drew
 have D0:Sst w0 w b w.heap.size #[.int .u8 k,.string nm,.string ot,.slice (some ⟨g,q,none⟩) 1 c3,.slice a4 n4 c4,.slice a5 n5 c5,.int .i64 ps] _ d fs W0.drew:=sst_below HX0.out (below_drewN (Below.refl _ W0) 1)
 obtain ⟨wd,hW⟩:∃ W,W=W0.drew:=⟨_,rfl⟩
 rw [← hW] at D0 ⊢
 clear hW
 have HD0:=Lib.hid D0
 clear D0
 refine dr_take 0 (.pointer (some ⟨b,0,none⟩)) rfl rfl (by kernel_rfl) (by kernel_rfl) (by kernel_rfl) (fun _ _ _ h=>h) (fun _ _=>rfl) ⟨_,HD0.out⟩ ?_
 change wpAnyH _ _ _ _ _ _ _ { tmps:=List.toArray (_::_::_::_::_::_::_::_::_::_::_::_::_::_::_::_::[]),defers:=[] } _
 refine dr_take 1 (.pointer (some ⟨w.heap.size,1,none⟩)) rfl rfl (by kernel_rfl) (by kernel_rfl) (by kernel_rfl) (fun _ _ _ h=>h) (fun _ _=>by unfold execOp;go_simp) ⟨_,HD0.out⟩ ?_
 change wpAnyH _ _ _ _ _ _ _ { tmps:=List.toArray (_::_::_::_::_::_::_::_::_::_::_::_::_::_::_::_::[]),defers:=[] } _
 refine dr_take 2 (.string nm) rfl rfl (by kernel_rfl) (by kernel_rfl) (by kernel_rfl) (fun _ _ _ h=>h) (fun W h=>by obtain ⟨_,h⟩:=h;have c1:W.cell? ⟨w.heap.size,1,none⟩=some (.string nm):=(by rw [cell_of_row _ _ 1 _ _ _ h.1];rfl);unfold execOp;go_simp) ⟨_,HD0.out⟩ ?_
 change wpAnyH _ _ _ _ _ _ _ { tmps:=List.toArray (_::_::_::_::_::_::_::_::_::_::_::_::_::_::_::_::[]),defers:=[] } _
 refine dr_take 3 (.pointer (some ⟨w.heap.size,2,none⟩)) rfl rfl (by kernel_rfl) (by kernel_rfl) (by kernel_rfl) (fun _ _ _ h=>h) (fun _ _=>by unfold execOp;go_simp) ⟨_,HD0.out⟩ ?_
 change wpAnyH _ _ _ _ _ _ _ { tmps:=List.toArray (_::_::_::_::_::_::_::_::_::_::_::_::_::_::_::_::[]),defers:=[] } _
 refine dr_take 4 (.string ot) rfl rfl (by kernel_rfl) (by kernel_rfl) (by kernel_rfl) (fun _ _ _ h=>h) (fun W h=>by obtain ⟨_,h⟩:=h;have c2:W.cell? ⟨w.heap.size,2,none⟩=some (.string ot):=(by rw [cell_of_row _ _ 2 _ _ _ h.1];rfl);unfold execOp;go_simp) ⟨_,HD0.out⟩ ?_
 change wpAnyH _ _ _ _ _ _ _ { tmps:=List.toArray (_::_::_::_::_::_::_::_::_::_::_::_::_::_::_::_::[]),defers:=[] } _
 refine dr_take 5 (.pointer (some ⟨w.heap.size,3,none⟩)) rfl rfl (by kernel_rfl) (by kernel_rfl) (by kernel_rfl) (fun _ _ _ h=>h) (fun _ _=>by unfold execOp;go_simp) ⟨_,HD0.out⟩ ?_
 change wpAnyH _ _ _ _ _ _ _ { tmps:=List.toArray (_::_::_::_::_::_::_::_::_::_::_::_::_::_::_::_::[]),defers:=[] } _
 refine dr_take 6 (.slice (some ⟨g,q,none⟩) 1 c3) rfl rfl (by kernel_rfl) (by kernel_rfl) (by kernel_rfl) (fun _ _ _ h=>h) (fun W h=>by obtain ⟨_,h⟩:=h;have c3:W.cell? ⟨w.heap.size,3,none⟩=some (.slice (some ⟨g,q,none⟩) 1 c3):=(by rw [cell_of_row _ _ 3 _ _ _ h.1];rfl);unfold execOp;go_simp) ⟨_,HD0.out⟩ ?_
 change wpAnyH _ _ _ _ _ _ _ { tmps:=List.toArray (_::_::_::_::_::_::_::_::_::_::_::_::_::_::_::_::[]),defers:=[] } _
 refine dr_take 7 (.pointer (some ⟨g,q,none⟩)) rfl rfl (by kernel_rfl) (by kernel_rfl) (by kernel_rfl) (fun _ _ _ h=>h) (fun _ _=>by unfold execOp;go_simp) ⟨_,HD0.out⟩ ?_
 change wpAnyH _ _ _ _ _ _ _ { tmps:=List.toArray (_::_::_::_::_::_::_::_::_::_::_::_::_::_::_::_::[]),defers:=[] } _
 refine dr_take 8 (.agg #[.int .u8 kY,.int .u8 oY,.int .i64 wY,.string nY,.slice aY mY cY,.int .i64 pY]) rfl rfl (by kernel_rfl) (by kernel_rfl) (by kernel_rfl) (fun _ _ _ h=>h) (fun W h=>by obtain ⟨_,h⟩:=h;have f0:W.cell? ⟨g,q,none⟩=some (.int .u8 kY):=(h.2.2.1.cell (p:=⟨g,q,none⟩) HLG.out).trans HFY.out.1;have f1:W.cell? ⟨g,q+1,none⟩=some (.int .u8 oY):=(h.2.2.1.cell (p:=⟨g,q+1,none⟩) HLG.out).trans HFY.out.2.1;have f2:W.cell? ⟨g,q+2,none⟩=some (.int .i64 wY):=(h.2.2.1.cell (p:=⟨g,q+2,none⟩) HLG.out).trans HFY.out.2.2.1;have f3:W.cell? ⟨g,q+3,none⟩=some (.string nY):=(h.2.2.1.cell (p:=⟨g,q+3,none⟩) HLG.out).trans HFY.out.2.2.2.1;have f4:W.cell? ⟨g,q+4,none⟩=some (.slice aY mY cY):=(h.2.2.1.cell (p:=⟨g,q+4,none⟩) HLG.out).trans HFY.out.2.2.2.2.1;have f5:W.cell? ⟨g,q+5,none⟩=some (.int .i64 pY):=(h.2.2.1.cell (p:=⟨g,q+5,none⟩) HLG.out).trans HFY.out.2.2.2.2.2;unfold execOp;go_simp) ⟨_,HD0.out⟩ ?_
 change wpAnyH _ _ _ _ _ _ _ { tmps:=List.toArray (_::_::_::_::_::_::_::_::_::_::_::_::_::_::_::_::[]),defers:=[] } _
 refine dr_one 9 rfl rfl (by kernel_rfl) ?_
 refine wp_call (vs:=#[.agg #[.int .u8 kY,.int .u8 oY,.int .i64 wY,.string nY,.slice aY mY cY,.int .i64 pY]]) rfl rfl (enters_of Tryz.func58 (by kernel_rfl) rfl) (by simp [Act.eval]) (HEX.out _ HD0.out.2.2.1) ?_
 rintro e w6 ⟨hbe,hee⟩
 have HD6:=Lib.hid (sst_below HD0.out hbe)
 clear hbe HD0
 rcases hee with ⟨hte,rfl⟩ | ⟨hte,rfl⟩
 rotate_left
 · have hm := HM1.out
   exact ⟨rfl,HD6.out.2.2.2.2,.inr ⟨by simp;omega,rfl⟩⟩
 have HTE:=Lib.hid hte
 clear hte
 refine ⟨⟨_,HD6.out⟩,?_⟩
 change wpAnyH _ _ _ _ _ _ _ { tmps:=List.toArray (_::_::_::_::_::_::_::_::_::_::_::_::_::_::_::_::[]),defers:=[] } _
 refine dr_one 10 rfl rfl (by kernel_rfl) ?_
 refine wp_run (v:=.slice (some ⟨w6.heap.size,0,none⟩) 6 6) (w':=w6.alloc (.cells #[.string nm,.string ⟨#[32,61,32,115,119,97,112,40]⟩,.string ot,.string ⟨#[44,32]⟩,.string ⟨te.toArray⟩,.string ⟨#[41,59]⟩] 9)) (by unfold execOp;go_simp) ?_
 have HD7:=Lib.hid (sst_below HD6.out ((Below.refl _ w6).alloc (Nat.le_refl _) (.cells #[.string nm,.string ⟨#[32,61,32,115,119,97,112,40]⟩,.string ot,.string ⟨#[44,32]⟩,.string ⟨te.toArray⟩,.string ⟨#[41,59]⟩] 9)))
 refine ⟨⟨_,HD7.out⟩,?_⟩
 change wpAnyH _ _ _ _ _ _ _ { tmps:=List.toArray (_::_::_::_::_::_::_::_::_::_::_::_::_::_::_::_::[]),defers:=[] } _
 refine dr_one 11 rfl rfl (by kernel_rfl) ?_
 refine wp_call (vs:=#[.pointer (some ⟨b,0,none⟩),.slice (some ⟨w6.heap.size,0,none⟩) 6 6]) rfl rfl (enters_of Tryz.func45 (by kernel_rfl) rfl) (by simp [Act.eval]) (HL1.out _ _ HD6.out.2.1 HT.out HTE.out) ?_
 rintro e w8 hh
 rcases hh.cases with ⟨hx,rfl,hw,hk,hb⟩ | ⟨hx,rfl,hb⟩
 rotate_left
 · exact ⟨rfl,HD6.out.2.2.2.2.trans hb,.inr ⟨hx,rfl⟩⟩
 have HX1:=Lib.hid (sst_put HD6.out HG.out hw hk hb)
 have HK1:=Lib.hid hx
 clear hx hw hk hb hh HD6 HD7
 refine ⟨⟨_,HX1.out⟩,?_⟩
 refine wpAnyH_done (by kernel_rfl) ?_ _
 have HF:Hid (PutP b txt q1 d fs w (.returned (.tuple #[])) w8):=⟨HX1.out.2.2.2.2,.inl ⟨HK1.out,rfl,HX1.out.2.1,HX1.out.2.2.2.1⟩⟩
 go_wp2_with fail
 exact bodyPost_end (results_none rfl _ _ _) rfl HF.out
end Go.Proofs.YtieeaehabjjaoaaGreatDoor

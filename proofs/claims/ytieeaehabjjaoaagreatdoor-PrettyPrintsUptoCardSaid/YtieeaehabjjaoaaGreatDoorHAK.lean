/- The proof, part 11: texts that belong together, in one. -/
import Derived.Test.YtieeaehabjjaoaaGreatDoorHAJ
set_option maxRecDepth 100000
set_option maxHeartbeats 20000000
namespace Go.Proofs.YtieeaehabjjaoaaGreatDoor
open Go.RowKit
set_option linter.unusedVariables false
set_option maxRecDepth 100000
theorem p_wchoice2 {k:Int} {nm ot:ByteArray} {es:List Ex} {bo el:List St} {ps:Int} {a3 a4 a5:Option Addr} {c3 c4 c5:Nat} {w0 w:World} {b:Nat} {txt:List UInt8} {d:Nat} {fs:List Value} (hd:d≤64) (TT:WTb w0) (hb0:b=w0.heap.size) (hbw:Below b w0 w) (hw:Wt b txt d fs w) (ht:txt.length≤65536) (h3:exsAt (fun _=>True) w0 es a3) {y:Ex} (hes:es=[y]) (hry:rE y 0=true) (hrgy:rgE y) (HB40:∀ t W,Below b w0 W→Wt b t d fs W→t.length≤65536→Calls Tryz.prog 46 #[.pointer (some ⟨b,0,none⟩),.slice a4 bo.length c4] W (PutP b t (tSs bo (d+1)) d fs W)) (HB50:∀ t W,Below b w0 W→Wt b t d fs W→t.length≤65536→Calls Tryz.prog 46 #[.pointer (some ⟨b,0,none⟩),.slice a5 el.length c5] W (PutP b t (tSs el (d+1)) d fs W)) (hel:0<(el.length:Int)) :
 Calls Tryz.prog 81 #[.pointer (some ⟨b,0,none⟩),.agg #[.int .u8 k,.string nm,.string ot,.slice a3 es.length c3,.slice a4 bo.length c4,.slice a5 el.length c5,.int .i64 ps]] w (PutP b txt (ln d [[105,102,32,40],e0T es,[41,32,123]]++tSs bo (d+1)++ln d [[125,32,101,108,115,101,32,123]]++tSs el (d+1)++ln d [[125]]) d fs w):=by
 subst hes
 obtain ⟨kY,oY,wY,nY,ksY,pY⟩:=y
 rcases h3 with e | ⟨g,q,e,_,e1⟩
 · cases e
 subst e
 obtain ⟨⟨f0,f1,f2,f3,⟨aY,cY,f4,y4⟩,f5⟩,_⟩:=e1
 have lg:=lt_of_at f0
 simp only at lg
 have HLG:Hid (g<b):=by rw [Hid,hb0];exact lg
 have HFY:=Lib.hid (And.intro f0 (And.intro f1 (And.intro f2 (And.intro f3 (And.intro f4 f5)))))
 have HEX:Hid (∀ W,Below b w0 W→Calls Tryz.prog 58 #[.agg #[.int .u8 kY,.int .u8 oY,.int .i64 wY,.string nY,.slice aY ksY.length cY,.int .i64 pY]] W (TxP W (tE (.mk kY oY wY nY ksY pY)))):=fun W hW=>p_wexpression (.mk kY oY wY nY ksY pY) 0 hry hrgy ⟨aY,cY,rfl,exsAt_below y4 (by rw [← hb0];exact hW)⟩ (TT.below (by rw [← hb0];exact hW))
 simp only [e0T]
 change Calls _ _ #[_,.agg #[.int .u8 k,.string nm,.string ot,.slice (some ⟨g,q,none⟩) 1 c3,.slice a4 bo.length c4,.slice a5 el.length c5,.int .i64 ps]] w _
 generalize tE (.mk kY oY wY nY ksY pY)=te at HEX ⊢
 generalize ksY.length=mY at HEX HFY
 clear f0 f1 f2 f3 f4 f5 y4 lg hry hrgy
 have HL1:Hid (∀ t W,Wt b t d fs W→t.length≤65536→te.length≤65536→Calls Tryz.prog 45 #[.pointer (some ⟨b,0,none⟩),.slice (some ⟨W.heap.size,0,none⟩) 3 3] (W.alloc (.cells #[.string ⟨#[105,102,32,40]⟩,.string ⟨te.toArray⟩,.string ⟨#[41,32,123]⟩] 9)) (PutP b t (ln d [[105,102,32,40],te,[41,32,123]]) d fs W)):=fun t W hw ht hte=>p_line3 hw (by omega) ht ⟨#[105,102,32,40]⟩ ⟨te.toArray⟩ ⟨#[41,32,123]⟩ (fun s hs=>by
  simp only [List.mem_cons,List.not_mem_nil,or_false] at hs
  rcases hs with rfl | rfl | rfl
  · decide
  · show te.toArray.size≤_;rw [List.size_toArray];omega
  · decide)
 have HM1:Hid (te.length≤(ln d [[105,102,32,40],te,[41,32,123]]).length):=ln_mem (by simp)
 generalize ln d [[105,102,32,40],te,[41,32,123]]=q1 at HL1 HM1 ⊢
 have HL2:Hid (∀ t W,Wt b t d fs W→t.length≤65536→Calls Tryz.prog 45 #[.pointer (some ⟨b,0,none⟩),.slice (some ⟨W.heap.size,0,none⟩) 1 1] (W.alloc (.cells #[.string ⟨#[125,32,101,108,115,101,32,123]⟩] 9)) (PutP b t (ln d [[125,32,101,108,115,101,32,123]]) d fs W)):=fun t W hw ht=>p_line1 hw (by omega) ht ⟨#[125,32,101,108,115,101,32,123]⟩ (fun s hs=>by
  simp only [List.mem_cons,List.not_mem_nil,or_false] at hs
  subst hs;decide)
 generalize ln d [[125,32,101,108,115,101,32,123]]=q2 at HL2 ⊢
 have HL3:Hid (∀ t W,Wt b t d fs W→t.length≤65536→Calls Tryz.prog 45 #[.pointer (some ⟨b,0,none⟩),.slice (some ⟨W.heap.size,0,none⟩) 1 1] (W.alloc (.cells #[.string ⟨#[125]⟩] 9)) (PutP b t (ln d [[125]]) d fs W)):=fun t W hw ht=>p_line1 hw (by omega) ht ⟨#[125]⟩ (fun s hs=>by
  simp only [List.mem_cons,List.not_mem_nil,or_false] at hs
  subst hs;decide)
 generalize ln d [[125]]=q3 at HL3 ⊢
 have HB4:=Lib.hid HB40
 clear HB40
 generalize tSs bo (d+1)=r4 at HB4 ⊢
 have HB5:=Lib.hid HB50
 clear HB50
 generalize tSs el (d+1)=r5 at HB5 ⊢
 generalize bo.length=n4 at HB4 ⊢
 generalize el.length=n5 at *
 have HT:=Lib.hid ht
 have hlt:=hw.lt
 have al:Below w.heap.size w (w.alloc (.cells #[.int .u8 k,.string nm,.string ot,.slice (some ⟨g,q,none⟩) 1 c3,.slice a4 n4 c4,.slice a5 n5 c5,.int .i64 ps] 66)):=(Below.refl _ w).alloc (Nat.le_refl _) _
 have HX0:Hid (Sst w0 w b w.heap.size #[.int .u8 k,.string nm,.string ot,.slice (some ⟨g,q,none⟩) 1 c3,.slice a4 n4 c4,.slice a5 n5 c5,.int .i64 ps] txt d fs (w.alloc (.cells #[.int .u8 k,.string nm,.string ot,.slice (some ⟨g,q,none⟩) 1 c3,.slice a4 n4 c4,.slice a5 n5 c5,.int .i64 ps] 66))):=⟨Own.new w _ _,hw.below al,hbw.trans (al.mono (Nat.le_of_lt hlt)),keep_below al,al.mono (Nat.le_of_lt hlt)⟩
 have HG:Hid (w.heap.size≠b):=by rw [Hid];omega
 clear TT hbw hw ht hlt al hd hb0
 obtain ⟨W0,hW0⟩:∃ W,W=w.alloc (.cells #[.int .u8 k,.string nm,.string ot,.slice (some ⟨g,q,none⟩) 1 c3,.slice a4 n4 c4,.slice a5 n5 c5,.int .i64 ps] 66):=⟨_,rfl⟩
 rw [← hW0] at HX0
 have HW0:=Lib.hid hW0
 clear hW0
 go_enter Tryz.func81,Tryz.ntmps81
 go_upto_region 1 with (fail)
 rw [← HW0.out]
 clear HW0
 have c3:W0.cell? ⟨w.heap.size,3,none⟩=some (.slice (some ⟨g,q,none⟩) 1 c3):=by rw [cell_of_row _ _ 3 _ _ _ HX0.out.1];rfl
 have f0:W0.cell? ⟨g,q,none⟩=some (.int .u8 kY):=(HX0.out.2.2.1.cell (p:=⟨g,q,none⟩) HLG.out).trans HFY.out.1
 have f1:W0.cell? ⟨g,q+1,none⟩=some (.int .u8 oY):=(HX0.out.2.2.1.cell (p:=⟨g,q+1,none⟩) HLG.out).trans HFY.out.2.1
 have f2:W0.cell? ⟨g,q+2,none⟩=some (.int .i64 wY):=(HX0.out.2.2.1.cell (p:=⟨g,q+2,none⟩) HLG.out).trans HFY.out.2.2.1
 have f3:W0.cell? ⟨g,q+3,none⟩=some (.string nY):=(HX0.out.2.2.1.cell (p:=⟨g,q+3,none⟩) HLG.out).trans HFY.out.2.2.2.1
 have f4:W0.cell? ⟨g,q+4,none⟩=some (.slice aY mY cY):=(HX0.out.2.2.1.cell (p:=⟨g,q+4,none⟩) HLG.out).trans HFY.out.2.2.2.2.1
 have f5:W0.cell? ⟨g,q+5,none⟩=some (.int .i64 pY):=(HX0.out.2.2.1.cell (p:=⟨g,q+5,none⟩) HLG.out).trans HFY.out.2.2.2.2.2
 go_wp2_with fail
 go_at_call 58
 refine (HEX.out _ HX0.out.2.2.1).mono ?_
 rintro e we1 ⟨hbe,hee⟩
 have HXe1:=Lib.hid (sst_below HX0.out hbe)
 clear hbe
 rcases hee with ⟨hte,rfl⟩ | ⟨hte,rfl⟩
 rotate_left
 · have hm := HM1.out
   go_wp2_with fail
   exact ⟨rfl,HXe1.out.2.2.2.2,.inr ⟨by simp;omega,rfl⟩⟩
 have HTE:=Lib.hid hte
 clear hte c3 f0 f1 f2 f3 f4 f5
 go_wp2_with fail
 go_at_call 45
 refine (HL1.out _ _ HXe1.out.2.1 HT.out HTE.out).mono ?_
 rintro e wl1 hh
 rcases hh.cases with ⟨hx,rfl,hw,hk,hb⟩ | ⟨hx,rfl,hb⟩
 rotate_left
 · go_wp2_with fail
   exact ⟨rfl,HXe1.out.2.2.2.2.trans hb,.inr ⟨by simp at hx ⊢;omega,rfl⟩⟩
 have HX1:=Lib.hid (sst_put HXe1.out HG.out hw hk hb)
 have HK1:=Lib.hid hx
 clear hx hw hk hb hh
 have c4:wl1.cell? ⟨w.heap.size,4,none⟩=some (.slice a4 n4 c4):=by rw [cell_of_row _ _ 4 _ _ _ HX1.out.1];rfl
 go_wp2_with fail
 go_at_call 46
 refine (HB4.out _ _ HX1.out.2.2.1 HX1.out.2.1 HK1.out).mono ?_
 rintro e wb2 hh
 rcases hh.cases with ⟨hx,rfl,hw,hk,hb⟩ | ⟨hx,rfl,hb⟩
 rotate_left
 · go_wp2_with fail
   exact ⟨rfl,HX1.out.2.2.2.2.trans hb,.inr ⟨by simp at hx ⊢;omega,rfl⟩⟩
 have HX2:=Lib.hid (sst_put HX1.out HG.out hw hk hb)
 have HK2:=Lib.hid hx
 clear hx hw hk hb hh c4
 have c5:wb2.cell? ⟨w.heap.size,5,none⟩=some (.slice a5 n5 c5):=by rw [cell_of_row _ _ 5 _ _ _ HX2.out.1];rfl
 go_wp2_with fail
 go_at_call 45
 refine (HL2.out _ _ HX2.out.2.1 HK2.out).mono ?_
 rintro e wl3 hh
 rcases hh.cases with ⟨hx,rfl,hw,hk,hb⟩ | ⟨hx,rfl,hb⟩
 rotate_left
 · go_wp2_with fail
   exact ⟨rfl,HX2.out.2.2.2.2.trans hb,.inr ⟨by simp at hx ⊢;omega,rfl⟩⟩
 have HX3:=Lib.hid (sst_put HX2.out HG.out hw hk hb)
 have HK3:=Lib.hid hx
 clear hx hw hk hb hh c5
 have c5:wl3.cell? ⟨w.heap.size,5,none⟩=some (.slice a5 n5 c5):=by rw [cell_of_row _ _ 5 _ _ _ HX3.out.1];rfl
 go_wp2_with fail
 go_at_call 46
 refine (HB5.out _ _ HX3.out.2.2.1 HX3.out.2.1 HK3.out).mono ?_
 rintro e wb4 hh
 rcases hh.cases with ⟨hx,rfl,hw,hk,hb⟩ | ⟨hx,rfl,hb⟩
 rotate_left
 · go_wp2_with fail
   exact ⟨rfl,HX3.out.2.2.2.2.trans hb,.inr ⟨by simp at hx ⊢;omega,rfl⟩⟩
 have HX4:=Lib.hid (sst_put HX3.out HG.out hw hk hb)
 have HK4:=Lib.hid hx
 clear hx hw hk hb hh c5
 go_wp2_with fail
 go_at_call 45
 refine (HL3.out _ _ HX4.out.2.1 HK4.out).mono ?_
 rintro e wl5 hh
 rcases hh.cases with ⟨hx,rfl,hw,hk,hb⟩ | ⟨hx,rfl,hb⟩
 rotate_left
 · go_wp2_with fail
   exact ⟨rfl,HX4.out.2.2.2.2.trans hb,.inr ⟨by simp at hx ⊢;omega,rfl⟩⟩
 have HX5:=Lib.hid (sst_put HX4.out HG.out hw hk hb)
 have HK5:=Lib.hid hx
 clear hx hw hk hb hh
 have he:txt++(q1++r4++q2++r5++q3)=txt++q1++r4++q2++r5++q3:=by simp
 have HF:Hid (PutP b txt (q1++r4++q2++r5++q3) d fs w (.returned (.tuple #[])) wl5):=⟨HX5.out.2.2.2.2,.inl ⟨by rw [he];exact HK5.out,rfl,by rw [he];exact HX5.out.2.1,HX5.out.2.2.2.1⟩⟩
 clear he
 go_wp2_with fail
 exact bodyPost_end (results_none rfl _ _ _) rfl HF.out
theorem p_wchoice1 {k:Int} {nm ot:ByteArray} {es:List Ex} {bo el:List St} {ps:Int} {a3 a4 a5:Option Addr} {c3 c4 c5:Nat} {w0 w:World} {b:Nat} {txt:List UInt8} {d:Nat} {fs:List Value} (hd:d≤64) (TT:WTb w0) (hb0:b=w0.heap.size) (hbw:Below b w0 w) (hw:Wt b txt d fs w) (ht:txt.length≤65536) (h3:exsAt (fun _=>True) w0 es a3) {y:Ex} (hes:es=[y]) (hry:rE y 0=true) (hrgy:rgE y) (HB40:∀ t W,Below b w0 W→Wt b t d fs W→t.length≤65536→Calls Tryz.prog 46 #[.pointer (some ⟨b,0,none⟩),.slice a4 bo.length c4] W (PutP b t (tSs bo (d+1)) d fs W)) (hel:¬ 0<(el.length:Int)) :
 Calls Tryz.prog 81 #[.pointer (some ⟨b,0,none⟩),.agg #[.int .u8 k,.string nm,.string ot,.slice a3 es.length c3,.slice a4 bo.length c4,.slice a5 el.length c5,.int .i64 ps]] w (PutP b txt (ln d [[105,102,32,40],e0T es,[41,32,123]]++tSs bo (d+1)++ln d [[125]]) d fs w):=by
 subst hes
 obtain ⟨kY,oY,wY,nY,ksY,pY⟩:=y
 rcases h3 with e | ⟨g,q,e,_,e1⟩
 · cases e
 subst e
 obtain ⟨⟨f0,f1,f2,f3,⟨aY,cY,f4,y4⟩,f5⟩,_⟩:=e1
 have lg:=lt_of_at f0
 simp only at lg
 have HLG:Hid (g<b):=by rw [Hid,hb0];exact lg
 have HFY:=Lib.hid (And.intro f0 (And.intro f1 (And.intro f2 (And.intro f3 (And.intro f4 f5)))))
 have HEX:Hid (∀ W,Below b w0 W→Calls Tryz.prog 58 #[.agg #[.int .u8 kY,.int .u8 oY,.int .i64 wY,.string nY,.slice aY ksY.length cY,.int .i64 pY]] W (TxP W (tE (.mk kY oY wY nY ksY pY)))):=fun W hW=>p_wexpression (.mk kY oY wY nY ksY pY) 0 hry hrgy ⟨aY,cY,rfl,exsAt_below y4 (by rw [← hb0];exact hW)⟩ (TT.below (by rw [← hb0];exact hW))
 simp only [e0T]
 change Calls _ _ #[_,.agg #[.int .u8 k,.string nm,.string ot,.slice (some ⟨g,q,none⟩) 1 c3,.slice a4 bo.length c4,.slice a5 el.length c5,.int .i64 ps]] w _
 generalize tE (.mk kY oY wY nY ksY pY)=te at HEX ⊢
 generalize ksY.length=mY at HEX HFY
 clear f0 f1 f2 f3 f4 f5 y4 lg hry hrgy
 have HL1:Hid (∀ t W,Wt b t d fs W→t.length≤65536→te.length≤65536→Calls Tryz.prog 45 #[.pointer (some ⟨b,0,none⟩),.slice (some ⟨W.heap.size,0,none⟩) 3 3] (W.alloc (.cells #[.string ⟨#[105,102,32,40]⟩,.string ⟨te.toArray⟩,.string ⟨#[41,32,123]⟩] 9)) (PutP b t (ln d [[105,102,32,40],te,[41,32,123]]) d fs W)):=fun t W hw ht hte=>p_line3 hw (by omega) ht ⟨#[105,102,32,40]⟩ ⟨te.toArray⟩ ⟨#[41,32,123]⟩ (fun s hs=>by
  simp only [List.mem_cons,List.not_mem_nil,or_false] at hs
  rcases hs with rfl | rfl | rfl
  · decide
  · show te.toArray.size≤_;rw [List.size_toArray];omega
  · decide)
 have HM1:Hid (te.length≤(ln d [[105,102,32,40],te,[41,32,123]]).length):=ln_mem (by simp)
 generalize ln d [[105,102,32,40],te,[41,32,123]]=q1 at HL1 HM1 ⊢
 have HL2:Hid (∀ t W,Wt b t d fs W→t.length≤65536→Calls Tryz.prog 45 #[.pointer (some ⟨b,0,none⟩),.slice (some ⟨W.heap.size,0,none⟩) 1 1] (W.alloc (.cells #[.string ⟨#[125]⟩] 9)) (PutP b t (ln d [[125]]) d fs W)):=fun t W hw ht=>p_line1 hw (by omega) ht ⟨#[125]⟩ (fun s hs=>by
  simp only [List.mem_cons,List.not_mem_nil,or_false] at hs
  subst hs;decide)
 generalize ln d [[125]]=q2 at HL2 ⊢
 have HB4:=Lib.hid HB40
 clear HB40
 generalize tSs bo (d+1)=r4 at HB4 ⊢
 generalize bo.length=n4 at HB4 ⊢
 generalize el.length=n5 at *
 have HT:=Lib.hid ht
 have hlt:=hw.lt
 have al:Below w.heap.size w (w.alloc (.cells #[.int .u8 k,.string nm,.string ot,.slice (some ⟨g,q,none⟩) 1 c3,.slice a4 n4 c4,.slice a5 n5 c5,.int .i64 ps] 66)):=(Below.refl _ w).alloc (Nat.le_refl _) _
 have HX0:Hid (Sst w0 w b w.heap.size #[.int .u8 k,.string nm,.string ot,.slice (some ⟨g,q,none⟩) 1 c3,.slice a4 n4 c4,.slice a5 n5 c5,.int .i64 ps] txt d fs (w.alloc (.cells #[.int .u8 k,.string nm,.string ot,.slice (some ⟨g,q,none⟩) 1 c3,.slice a4 n4 c4,.slice a5 n5 c5,.int .i64 ps] 66))):=⟨Own.new w _ _,hw.below al,hbw.trans (al.mono (Nat.le_of_lt hlt)),keep_below al,al.mono (Nat.le_of_lt hlt)⟩
 have HG:Hid (w.heap.size≠b):=by rw [Hid];omega
 clear TT hbw hw ht hlt al hd hb0
 obtain ⟨W0,hW0⟩:∃ W,W=w.alloc (.cells #[.int .u8 k,.string nm,.string ot,.slice (some ⟨g,q,none⟩) 1 c3,.slice a4 n4 c4,.slice a5 n5 c5,.int .i64 ps] 66):=⟨_,rfl⟩
 rw [← hW0] at HX0
 have HW0:=Lib.hid hW0
 clear hW0
 go_enter Tryz.func81,Tryz.ntmps81
 go_upto_region 1 with (fail)
 rw [← HW0.out]
 clear HW0
 have c3:W0.cell? ⟨w.heap.size,3,none⟩=some (.slice (some ⟨g,q,none⟩) 1 c3):=by rw [cell_of_row _ _ 3 _ _ _ HX0.out.1];rfl
 have f0:W0.cell? ⟨g,q,none⟩=some (.int .u8 kY):=(HX0.out.2.2.1.cell (p:=⟨g,q,none⟩) HLG.out).trans HFY.out.1
 have f1:W0.cell? ⟨g,q+1,none⟩=some (.int .u8 oY):=(HX0.out.2.2.1.cell (p:=⟨g,q+1,none⟩) HLG.out).trans HFY.out.2.1
 have f2:W0.cell? ⟨g,q+2,none⟩=some (.int .i64 wY):=(HX0.out.2.2.1.cell (p:=⟨g,q+2,none⟩) HLG.out).trans HFY.out.2.2.1
 have f3:W0.cell? ⟨g,q+3,none⟩=some (.string nY):=(HX0.out.2.2.1.cell (p:=⟨g,q+3,none⟩) HLG.out).trans HFY.out.2.2.2.1
 have f4:W0.cell? ⟨g,q+4,none⟩=some (.slice aY mY cY):=(HX0.out.2.2.1.cell (p:=⟨g,q+4,none⟩) HLG.out).trans HFY.out.2.2.2.2.1
 have f5:W0.cell? ⟨g,q+5,none⟩=some (.int .i64 pY):=(HX0.out.2.2.1.cell (p:=⟨g,q+5,none⟩) HLG.out).trans HFY.out.2.2.2.2.2
 go_wp2_with fail
 go_at_call 58
 refine (HEX.out _ HX0.out.2.2.1).mono ?_
 rintro e we1 ⟨hbe,hee⟩
 have HXe1:=Lib.hid (sst_below HX0.out hbe)
 clear hbe
 rcases hee with ⟨hte,rfl⟩ | ⟨hte,rfl⟩
 rotate_left
 · have hm := HM1.out
   go_wp2_with fail
   exact ⟨rfl,HXe1.out.2.2.2.2,.inr ⟨by simp;omega,rfl⟩⟩
 have HTE:=Lib.hid hte
 clear hte c3 f0 f1 f2 f3 f4 f5
 go_wp2_with fail
 go_at_call 45
 refine (HL1.out _ _ HXe1.out.2.1 HT.out HTE.out).mono ?_
 rintro e wl1 hh
 rcases hh.cases with ⟨hx,rfl,hw,hk,hb⟩ | ⟨hx,rfl,hb⟩
 rotate_left
 · go_wp2_with fail
   exact ⟨rfl,HXe1.out.2.2.2.2.trans hb,.inr ⟨by simp at hx ⊢;omega,rfl⟩⟩
 have HX1:=Lib.hid (sst_put HXe1.out HG.out hw hk hb)
 have HK1:=Lib.hid hx
 clear hx hw hk hb hh
 have c4:wl1.cell? ⟨w.heap.size,4,none⟩=some (.slice a4 n4 c4):=by rw [cell_of_row _ _ 4 _ _ _ HX1.out.1];rfl
 go_wp2_with fail
 go_at_call 46
 refine (HB4.out _ _ HX1.out.2.2.1 HX1.out.2.1 HK1.out).mono ?_
 rintro e wb2 hh
 rcases hh.cases with ⟨hx,rfl,hw,hk,hb⟩ | ⟨hx,rfl,hb⟩
 rotate_left
 · go_wp2_with fail
   exact ⟨rfl,HX1.out.2.2.2.2.trans hb,.inr ⟨by simp at hx ⊢;omega,rfl⟩⟩
 have HX2:=Lib.hid (sst_put HX1.out HG.out hw hk hb)
 have HK2:=Lib.hid hx
 clear hx hw hk hb hh c4
 have c5:wb2.cell? ⟨w.heap.size,5,none⟩=some (.slice a5 n5 c5):=by rw [cell_of_row _ _ 5 _ _ _ HX2.out.1];rfl
 go_wp2_with fail
 go_at_call 45
 refine (HL2.out _ _ HX2.out.2.1 HK2.out).mono ?_
 rintro e wl3 hh
 rcases hh.cases with ⟨hx,rfl,hw,hk,hb⟩ | ⟨hx,rfl,hb⟩
 rotate_left
 · go_wp2_with fail
   exact ⟨rfl,HX2.out.2.2.2.2.trans hb,.inr ⟨by simp at hx ⊢;omega,rfl⟩⟩
 have HX3:=Lib.hid (sst_put HX2.out HG.out hw hk hb)
 have HK3:=Lib.hid hx
 clear hx hw hk hb hh c5
 have he:txt++(q1++r4++q2)=txt++q1++r4++q2:=by simp
 have HF:Hid (PutP b txt (q1++r4++q2) d fs w (.returned (.tuple #[])) wl3):=⟨HX3.out.2.2.2.2,.inl ⟨by rw [he];exact HK3.out,rfl,by rw [he];exact HX3.out.2.1,HX3.out.2.2.2.1⟩⟩
 clear he
 go_wp2_with fail
 exact bodyPost_end (results_none rfl _ _ _) rfl HF.out
end Go.Proofs.YtieeaehabjjaoaaGreatDoor

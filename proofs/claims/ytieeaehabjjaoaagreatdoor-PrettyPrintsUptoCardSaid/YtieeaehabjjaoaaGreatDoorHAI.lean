/- The proof, part 9: texts that belong together, in one. -/
import Derived.Test.YtieeaehabjjaoaaGreatDoorHAH
import Derived.Lib.ItoaLen
set_option maxRecDepth 100000
set_option maxHeartbeats 20000000
namespace Go.Proofs.YtieeaehabjjaoaaGreatDoor
open Go.RowKit
set_option linter.unusedVariables false
set_option maxRecDepth 100000
theorem sa_three {b:Nat} {W:World} (hb:b<W.heap.size) (x y z:ByteArray):SA b (W.alloc (.cells #[.string x,.string y,.string z] 9)) (some ⟨W.heap.size,0,none⟩) [x,y,z] :=
 .inr ⟨W.heap.size,#[.string x,.string y,.string z],rfl,by omega,Own.new W _ _,fun j s hj=>by
  match j,hj with
  | 0, hj => obtain rfl : x = s := by simpa using hj
             rfl
  | 1, hj => obtain rfl : y = s := by simpa using hj
             rfl
  | 2, hj => obtain rfl : z = s := by simpa using hj
             rfl⟩
theorem p_put3 {b:Nat} {txt:List UInt8} {deep:Int} {fs:List Value} {W:World} (hw:Wt b txt deep fs W) (ht:txt.length≤65536) (x y z:ByteArray) (hz:x.size≤140737488289792∧y.size≤140737488289792∧z.size≤140737488289792) :
 Calls Tryz.prog 87 #[.pointer (some ⟨b,0,none⟩),.slice (some ⟨W.heap.size,0,none⟩) 3 3] (W.alloc (.cells #[.string x,.string y,.string z] 9)) (PutP b txt (x.data.toList++y.data.toList++z.data.toList) deep fs W):=by
 have hc:cat [x,y,z]=x.data.toList++y.data.toList++z.data.toList:=by simp [cat]
 have h:=p_put (l:=[x,y,z]) (c:=3) (hw.below ((Below.refl _ W).alloc (Nat.le_refl _) (.cells #[.string x,.string y,.string z] 9))) ht (by simp) (fun s hs=>by
  rcases (by simpa using hs:s=x∨s=y∨s=z) with rfl | rfl | rfl
  · exact hz.1
  · exact hz.2.1
  · exact hz.2.2) (sa_three hw.lt x y z)
 rw [hc] at h
 refine h.mono fun e w' ⟨h1,h2⟩=>⟨((Below.refl b W).alloc (Nat.le_of_lt hw.lt) _).trans h1,?_⟩
 rcases h2 with ⟨h3,h4,h5,h6⟩ | h2
 · exact .inl ⟨h3,h4,h5,(keep_alloc _).trans h6⟩
 · exact .inr h2
theorem put_from {w0 w W:World} {b gx:Nat} {row:Array Value} {txt t:List UInt8} {deep:Int} {fs:List Value} {e:Ending} {w':World} (h:Xst w0 w b gx row txt deep fs W) (hp:PutP b txt t deep fs W e w'):PutP b txt t deep fs w e w':=by
 refine ⟨h.2.2.2.2.trans hp.1,?_⟩
 rcases hp.2 with ⟨h3,h4,h5,h6⟩ | h2
 · exact .inl ⟨h3,h4,h5,h.2.2.2.1.trans h6⟩
 · exact .inr h2
theorem sign_small (o:Int):(⟨(signOf o).toArray⟩:ByteArray).size≤140737488289792:=by
 show (signOf o).toArray.size≤_
 rw [List.size_toArray]
 have:=sign_len o
 omega
theorem itoa_small (n:Int) (h : -9223372036854775808≤n∧n≤9223372036854775807):(⟨(Lib.itoa n).toArray⟩:ByteArray).size≤140737488289792:=by
 show (Lib.itoa n).toArray.size≤_
 rw [List.size_toArray]
 have:=Lib.itoa_length_le n h.1 h.2
 omega
theorem p_wexpr (x:Ex) (HI:∀ y∈x.kids,WrE y):WrE x:=by
 intro d hr hrg v w0 w b txt deep fs hv TT hb0 hbw hw ht
 obtain ⟨a,cap,rfl,h1⟩:=hv
 obtain ⟨k,o,wd,n,ks,ps⟩:=x
 obtain ⟨hk,ho,hwd,hks⟩:=hrg
 change Calls _ _ #[_,.agg #[.int .u8 k,.int .u8 o,.int .i64 wd,.string n,.slice a ks.length cap,.int .i64 ps]] w _
 change ∀ y∈ks,WrE y at HI
 change exsAt _ w0 ks a at h1
 simp only [rE,Bool.and_eq_true] at hr
 obtain ⟨_,_,hnm,hkb⟩:=hr
 have TTB:∀ W,Below b w0 W→WTb W:=fun W h=>TT.below (by rw [← hb0];exact h)
 have HPR:Hid (∀ W,Below b w0 W→Calls Tryz.prog 86 #[.int .i64 wd] W fun e w'=>e=.returned (.string ⟨(Lib.itoa wd).toArray⟩)∧Below W.heap.size W w'):=fun W h=>print_any wd hwd.1 hwd.2 W (TTB W h)
 have HSH:Hid (∀ W,Below b w0 W→Calls Tryz.prog 136 #[.int .u8 o] W fun e w'=>e=.returned (.string ⟨(signOf o).toArray⟩)∧W=w'):=fun W h=>show_any o ho.1 ho.2 W (TTB W h).pt.1.2
 have HP1:Hid (∀ t W s,Wt b t deep fs W→t.length≤65536→s.size≤140737488289792→Calls Tryz.prog 87 #[.pointer (some ⟨b,0,none⟩),.slice (some ⟨W.heap.size,0,none⟩) 1 1] (W.alloc (.cells #[.string s] 9)) (PutP b t s.data.toList deep fs W)):=fun t W s hw ht hz=>p_put1 hw ht s hz
 obtain ⟨m,hm⟩:∃ m,m=ks.length:=⟨_,rfl⟩
 rw [← hm]
 have HM:=Lib.hid hm
 have HI:=Lib.hid HI
 have E1:=Lib.hid h1
 have HT:=Lib.hid ht
 have HKS:=Lib.hid hks
 have HO:=Lib.hid ho
 have HWD:=Lib.hid hwd
 have HTT:=Lib.hid TTB
 have HT0:=Lib.hid TT
 have HB0:=Lib.hid hb0
 have HKB:=Lib.hid hkb
 have HNM:=Lib.hid hnm
 have hlt:=hw.lt
 have al:Below w.heap.size w (w.alloc (.cells #[.int .u8 k,.int .u8 o,.int .i64 wd,.string n,.slice a m cap,.int .i64 ps] 59)):=(Below.refl _ w).alloc (Nat.le_refl _) _
 have HX0:Hid (Xst w0 w b w.heap.size #[.int .u8 k,.int .u8 o,.int .i64 wd,.string n,.slice a m cap,.int .i64 ps] txt deep fs (w.alloc (.cells #[.int .u8 k,.int .u8 o,.int .i64 wd,.string n,.slice a m cap,.int .i64 ps] 59))):=⟨Own.new w _ _,hw.below al,hbw.trans (al.mono (Nat.le_of_lt hlt)),keep_below al,al.mono (Nat.le_of_lt hlt)⟩
 have HG:Hid (w.heap.size≠b):=by rw [Hid];omega
 clear hk ho hwd hks h1 hm hnm hkb TTB TT hb0 hbw hw ht hlt al
 obtain ⟨W0,hW0⟩:∃ W,W=w.alloc (.cells #[.int .u8 k,.int .u8 o,.int .i64 wd,.string n,.slice a m cap,.int .i64 ps] 59):=⟨_,rfl⟩
 rw [← hW0] at HX0
 have HW0:=Lib.hid hW0
 clear hW0
 have c0:W0.cell? ⟨w.heap.size,0,none⟩=some (.int .u8 k):=by rw [cell_of_row _ _ 0 _ _ _ HX0.out.1];rfl
 have c1:W0.cell? ⟨w.heap.size,1,none⟩=some (.int .u8 o):=by rw [cell_of_row _ _ 1 _ _ _ HX0.out.1];rfl
 have c2:W0.cell? ⟨w.heap.size,2,none⟩=some (.int .i64 wd):=by rw [cell_of_row _ _ 2 _ _ _ HX0.out.1];rfl
 have c3:W0.cell? ⟨w.heap.size,3,none⟩=some (.string n):=by rw [cell_of_row _ _ 3 _ _ _ HX0.out.1];rfl
 have hht:tE (.mk k o wd n ks ps)=tK k o wd n ks (tEs ks):=by simp only [tE]
 rw [hht]
 obtain ⟨tx,htx⟩:∃ tx,tx=tK k o wd n ks (tEs ks):=⟨_,rfl⟩
 rw [← htx]
 have HTX:=Lib.hid htx
 clear htx hht
 by_cases hk1:k=1
 · have ht1 : tx = (⟨(Lib.itoa wd).toArray⟩ : ByteArray).data.toList := by rw [HTX.out]; unfold tK; rw [if_pos hk1]
   have k1:(k==1)=true:=by simp [hk1]
   clear hk1
   go_enter Tryz.func104,Tryz.ntmps104
   go_upto_region 1 with (fail)
   rw [← HW0.out]
   go_wp2_with (first | (go_at_call 86;refine (HPR.out _ HX0.out.2.2.1).mono ?_;rintro e w2 ⟨rfl,hb2⟩))
   have HX2:=Lib.hid (xst_below HX0.out hb2)
   clear hb2
   go_at_call 87
   refine (HP1.out _ _ _ HX2.out.2.1 HT.out (itoa_small wd HWD.out)).mono ?_
   rw [← ht1]
   clear ht1
   rintro e w3 hh
   have HF:Hid (PutP b txt tx deep fs w e w3):=put_from HX2.out hh
   rcases hh.cases with ⟨hx,rfl,hw,hk,hb⟩ | ⟨hx,rfl,hb⟩
   · clear hx hw hk hb hh
     go_wp2_with fail
     exact bodyPost_end (results_none rfl _ _ _) rfl HF.out
   · clear hx hb hh
     go_wp2_with fail
     exact ⟨rfl,HF.out⟩
 have k1:(k==1)=false:=by simp [hk1]
 by_cases hk2:k=2
 · have ht1 : tx = n.data.toList := by rw [HTX.out]; unfold tK; rw [if_neg hk1, if_pos hk2]
   have k2:(k==2)=true:=by simp [hk2]
   clear hk2
   have hsz:n.size≤140737488289792:=by
    have h2:=HNM.out
    rw [k2] at h2
    have:=name_size (show nameB n=true from h2)
    omega
   go_enter Tryz.func104,Tryz.ntmps104
   go_upto_region 1 with (fail)
   rw [← HW0.out]
   go_wp2_with fail
   go_at_call 87
   refine (HP1.out _ _ _ HX0.out.2.1 HT.out hsz).mono ?_
   rw [← ht1]
   clear ht1
   rintro e w3 hh
   have HF:Hid (PutP b txt tx deep fs w e w3):=put_from HX0.out hh
   rcases hh.cases with ⟨hx,rfl,hw,hk,hb⟩ | ⟨hx,rfl,hb⟩
   · clear hx hw hk hb hh
     go_wp2_with fail
     exact bodyPost_end (results_none rfl _ _ _) rfl HF.out
   · clear hx hb hh
     go_wp2_with fail
     exact ⟨rfl,HF.out⟩
 have k2:(k==2)=false:=by simp [hk2]
 by_cases hk3:k=3
 · have k3 : (k == 3) = true := by simp [hk3]
   have hkb:(oneB o&&kid1 ks (rEs ks) d)=true:=by
    have:=HKB.out
    unfold kB at this
    rw [if_neg (by omega),if_pos hk3] at this
    exact this
   simp only [Bool.and_eq_true] at hkb
   have ht1:tx=signOf o++kid1T ks (tEs ks):=by rw [HTX.out];unfold tK;rw [if_neg hk1,if_neg hk2,if_pos hk3]
   obtain ⟨y,rfl⟩:∃ y,ks=[y]:=by
    have:=hkb.2
    match ks,this with
    | [y],_=>exact ⟨y,rfl⟩
   have hry:rE y (d+1+b2i (y.kind==4))=true:=hkb.2
   have ht2:tx=signOf o++kidT (y.kind==4) (tE y):=by
    rw [ht1]
    simp only [tEs,kid1T]
   obtain rfl:m=1:=HM.out
   obtain ⟨kY,oY,wY,nY,ksY,pY⟩:=y
   rcases E1.out with e | ⟨g,q,e,_,e1⟩
   · cases e
   subst e
   obtain ⟨⟨f0,f1,f2,f3,⟨aY,cY,f4,y4⟩,f5⟩,_⟩:=e1
   have lg:=lt_of_at f0
   simp only at lg
   have HLG:Hid (g<b):=by rw [Hid,HB0.out];exact lg
   have HFY:=Lib.hid (And.intro f0 (And.intro f1 (And.intro f2 (And.intro f3 (And.intro f4 f5)))))
   have HWRY:Hid (∀ W,Below b w0 W→Calls Tryz.prog 100 #[.agg #[.int .u8 kY,.int .u8 oY,.int .i64 wY,.string nY,.slice aY ksY.length cY,.int .i64 pY]] W fun e w'=>e=.returned (.bool (kY==4))∧Below W.heap.size W w'):=fun W hW=>p_wrapsOne (x:=.mk kY oY wY nY ksY pY) ⟨aY,cY,rfl,exsAt_below y4 (by rw [← HB0.out];exact hW)⟩
   have HINY:Hid (∀ t W,Below b w0 W→Wt b t deep fs W→t.length≤65536→Calls Tryz.prog 137 #[.pointer (some ⟨b,0,none⟩),.agg #[.int .u8 kY,.int .u8 oY,.int .i64 wY,.string nY,.slice aY ksY.length cY,.int .i64 pY],.bool (kY==4)] W (PutP b t (kidT (kY==4) (tE (.mk kY oY wY nY ksY pY))) deep fs W)):=fun t W hW hw ht =>
    p_kid (.mk kY oY wY nY ksY pY) (HI.out _ (.head _)) (kY==4) _ hry HKS.out.1 ⟨aY,cY,rfl,y4⟩ HT0.out HB0.out hW hw ht
   change tx=signOf o++kidT (kY==4) (tE (.mk kY oY wY nY ksY pY)) at ht2
   generalize kidT (kY==4) (tE (.mk kY oY wY nY ksY pY))=tY at HINY ht2
   generalize (kY==4)=wrY at HWRY HINY
   generalize ksY.length=mY at HWRY HINY HFY
   have HT2:=Lib.hid ht2
   clear f0 f1 f2 f3 f4 f5 y4 lg ht1 ht2 hry hkb HI HTX HM hk3
   go_enter Tryz.func104,Tryz.ntmps104
   go_upto_region 1 with (fail)
   rw [← HW0.out]
   go_wp2_with (first | (go_at_call 136;refine (HSH.out _ HX0.out.2.2.1).mono ?_;rintro e w2 ⟨rfl,rfl⟩))
   go_at_call 87
   refine (HP1.out _ _ _ HX0.out.2.1 HT.out (sign_small o)).mono ?_
   rintro e w3 hh
   rcases hh.cases with ⟨hx,rfl,hw,hk,hb⟩ | ⟨hx,rfl,hb⟩
   rotate_left
   · go_wp2_with fail
     exact ⟨rfl,HX0.out.2.2.2.2.trans hb,.inr ⟨by rw [HT2.out];simp at hx ⊢;omega,rfl⟩⟩
   have HX3:=Lib.hid (xst_put HX0.out HG.out hw hk hb)
   have HL3:=Lib.hid hx
   clear hx hw hk hb HX0 HW0 c0
   go_upto_region 8 with (fail)
   refine wp_region_held (S:=fun W=>∃ t,Xst w0 w b w.heap.size #[.int .u8 k,.int .u8 o,.int .i64 wd,.string n,.slice (some ⟨g,q,none⟩) 1 cap,.int .i64 ps] t deep fs W) (by kernel_rfl) ?_
   change wpAnyH _ _ _ _ _ _ _ _ w3.drew
   have D0:Xst w0 w b w.heap.size #[.int .u8 k,.int .u8 o,.int .i64 wd,.string n,.slice (some ⟨g,q,none⟩) 1 cap,.int .i64 ps] _ deep fs w3.drew:=xst_below HX3.out (below_drewN (Below.refl _ w3) 1)
   obtain ⟨wd3,hW⟩:∃ W,W=w3.drew:=⟨_,rfl⟩
   rw [← hW] at D0 ⊢
   clear hW
   have HD0:=Lib.hid D0
   clear D0
   refine dr_take 0 (.pointer (some ⟨b,0,none⟩)) rfl rfl (by kernel_rfl) (by kernel_rfl) (by kernel_rfl) (fun _ _ _ h=>h) (fun _ _=>rfl) ⟨_,HD0.out⟩ ?_
   change wpAnyH _ _ _ _ _ _ _ { tmps:=List.toArray (_::_::_::_::_::_::_::_::_::_::_::_::_::_::_::_::_::_::_::_::_::_::_::_::_::_::_::_::_::_::_::_::_::_::_::_::_::_::_::_::_::_::_::_::_::_::_::_::_::_::_::_::_::_::_::_::_::_::_::_::_::_::_::_::_::_::_::_::_::_::_::_::_::_::[]),defers:=[] } _
   refine dr_take 1 (.pointer (some ⟨w.heap.size,4,none⟩)) rfl rfl (by kernel_rfl) (by kernel_rfl) (by kernel_rfl) (fun _ _ _ h=>h) (fun _ _=>by unfold execOp;go_simp) ⟨_,HD0.out⟩ ?_
   change wpAnyH _ _ _ _ _ _ _ { tmps:=List.toArray (_::_::_::_::_::_::_::_::_::_::_::_::_::_::_::_::_::_::_::_::_::_::_::_::_::_::_::_::_::_::_::_::_::_::_::_::_::_::_::_::_::_::_::_::_::_::_::_::_::_::_::_::_::_::_::_::_::_::_::_::_::_::_::_::_::_::_::_::_::_::_::_::_::_::[]),defers:=[] } _
   refine dr_take 2 (.slice (some ⟨g,q,none⟩) 1 cap) rfl rfl (by kernel_rfl) (by kernel_rfl) (by kernel_rfl) (fun _ _ _ h=>h) (fun W h=>by obtain ⟨_,h⟩:=h;have c4:W.cell? ⟨w.heap.size,4,none⟩=some (.slice (some ⟨g,q,none⟩) 1 cap):=(by rw [cell_of_row _ _ 4 _ _ _ h.1];rfl);unfold execOp;go_simp) ⟨_,HD0.out⟩ ?_
   change wpAnyH _ _ _ _ _ _ _ { tmps:=List.toArray (_::_::_::_::_::_::_::_::_::_::_::_::_::_::_::_::_::_::_::_::_::_::_::_::_::_::_::_::_::_::_::_::_::_::_::_::_::_::_::_::_::_::_::_::_::_::_::_::_::_::_::_::_::_::_::_::_::_::_::_::_::_::_::_::_::_::_::_::_::_::_::_::_::_::[]),defers:=[] } _
   refine dr_take 3 (.pointer (some ⟨g,q,none⟩)) rfl rfl (by kernel_rfl) (by kernel_rfl) (by kernel_rfl) (fun _ _ _ h=>h) (fun _ _=>by unfold execOp;go_simp) ⟨_,HD0.out⟩ ?_
   change wpAnyH _ _ _ _ _ _ _ { tmps:=List.toArray (_::_::_::_::_::_::_::_::_::_::_::_::_::_::_::_::_::_::_::_::_::_::_::_::_::_::_::_::_::_::_::_::_::_::_::_::_::_::_::_::_::_::_::_::_::_::_::_::_::_::_::_::_::_::_::_::_::_::_::_::_::_::_::_::_::_::_::_::_::_::_::_::_::_::[]),defers:=[] } _
   refine dr_take 4 (.agg #[.int .u8 kY,.int .u8 oY,.int .i64 wY,.string nY,.slice aY mY cY,.int .i64 pY]) rfl rfl (by kernel_rfl) (by kernel_rfl) (by kernel_rfl) (fun _ _ _ h=>h) (fun W h=>by obtain ⟨_,h⟩:=h;have f0:W.cell? ⟨g,q,none⟩=some (.int .u8 kY):=(h.2.2.1.cell (p:=⟨g,q,none⟩) HLG.out).trans HFY.out.1;have f1:W.cell? ⟨g,q+1,none⟩=some (.int .u8 oY):=(h.2.2.1.cell (p:=⟨g,q+1,none⟩) HLG.out).trans HFY.out.2.1;have f2:W.cell? ⟨g,q+2,none⟩=some (.int .i64 wY):=(h.2.2.1.cell (p:=⟨g,q+2,none⟩) HLG.out).trans HFY.out.2.2.1;have f3:W.cell? ⟨g,q+3,none⟩=some (.string nY):=(h.2.2.1.cell (p:=⟨g,q+3,none⟩) HLG.out).trans HFY.out.2.2.2.1;have f4:W.cell? ⟨g,q+4,none⟩=some (.slice aY mY cY):=(h.2.2.1.cell (p:=⟨g,q+4,none⟩) HLG.out).trans HFY.out.2.2.2.2.1;have f5:W.cell? ⟨g,q+5,none⟩=some (.int .i64 pY):=(h.2.2.1.cell (p:=⟨g,q+5,none⟩) HLG.out).trans HFY.out.2.2.2.2.2;unfold execOp;go_simp) ⟨_,HD0.out⟩ ?_
   change wpAnyH _ _ _ _ _ _ _ { tmps:=List.toArray (_::_::_::_::_::_::_::_::_::_::_::_::_::_::_::_::_::_::_::_::_::_::_::_::_::_::_::_::_::_::_::_::_::_::_::_::_::_::_::_::_::_::_::_::_::_::_::_::_::_::_::_::_::_::_::_::_::_::_::_::_::_::_::_::_::_::_::_::_::_::_::_::_::_::[]),defers:=[] } _
   refine dr_take 5 (.pointer (some ⟨w.heap.size,4,none⟩)) rfl rfl (by kernel_rfl) (by kernel_rfl) (by kernel_rfl) (fun _ _ _ h=>h) (fun _ _=>by unfold execOp;go_simp) ⟨_,HD0.out⟩ ?_
   change wpAnyH _ _ _ _ _ _ _ { tmps:=List.toArray (_::_::_::_::_::_::_::_::_::_::_::_::_::_::_::_::_::_::_::_::_::_::_::_::_::_::_::_::_::_::_::_::_::_::_::_::_::_::_::_::_::_::_::_::_::_::_::_::_::_::_::_::_::_::_::_::_::_::_::_::_::_::_::_::_::_::_::_::_::_::_::_::_::_::[]),defers:=[] } _
   refine dr_take 6 (.slice (some ⟨g,q,none⟩) 1 cap) rfl rfl (by kernel_rfl) (by kernel_rfl) (by kernel_rfl) (fun _ _ _ h=>h) (fun W h=>by obtain ⟨_,h⟩:=h;have c4:W.cell? ⟨w.heap.size,4,none⟩=some (.slice (some ⟨g,q,none⟩) 1 cap):=(by rw [cell_of_row _ _ 4 _ _ _ h.1];rfl);unfold execOp;go_simp) ⟨_,HD0.out⟩ ?_
   change wpAnyH _ _ _ _ _ _ _ { tmps:=List.toArray (_::_::_::_::_::_::_::_::_::_::_::_::_::_::_::_::_::_::_::_::_::_::_::_::_::_::_::_::_::_::_::_::_::_::_::_::_::_::_::_::_::_::_::_::_::_::_::_::_::_::_::_::_::_::_::_::_::_::_::_::_::_::_::_::_::_::_::_::_::_::_::_::_::_::[]),defers:=[] } _
   refine dr_take 7 (.pointer (some ⟨g,q,none⟩)) rfl rfl (by kernel_rfl) (by kernel_rfl) (by kernel_rfl) (fun _ _ _ h=>h) (fun _ _=>by unfold execOp;go_simp) ⟨_,HD0.out⟩ ?_
   change wpAnyH _ _ _ _ _ _ _ { tmps:=List.toArray (_::_::_::_::_::_::_::_::_::_::_::_::_::_::_::_::_::_::_::_::_::_::_::_::_::_::_::_::_::_::_::_::_::_::_::_::_::_::_::_::_::_::_::_::_::_::_::_::_::_::_::_::_::_::_::_::_::_::_::_::_::_::_::_::_::_::_::_::_::_::_::_::_::_::[]),defers:=[] } _
   refine dr_take 8 (.agg #[.int .u8 kY,.int .u8 oY,.int .i64 wY,.string nY,.slice aY mY cY,.int .i64 pY]) rfl rfl (by kernel_rfl) (by kernel_rfl) (by kernel_rfl) (fun _ _ _ h=>h) (fun W h=>by obtain ⟨_,h⟩:=h;have f0:W.cell? ⟨g,q,none⟩=some (.int .u8 kY):=(h.2.2.1.cell (p:=⟨g,q,none⟩) HLG.out).trans HFY.out.1;have f1:W.cell? ⟨g,q+1,none⟩=some (.int .u8 oY):=(h.2.2.1.cell (p:=⟨g,q+1,none⟩) HLG.out).trans HFY.out.2.1;have f2:W.cell? ⟨g,q+2,none⟩=some (.int .i64 wY):=(h.2.2.1.cell (p:=⟨g,q+2,none⟩) HLG.out).trans HFY.out.2.2.1;have f3:W.cell? ⟨g,q+3,none⟩=some (.string nY):=(h.2.2.1.cell (p:=⟨g,q+3,none⟩) HLG.out).trans HFY.out.2.2.2.1;have f4:W.cell? ⟨g,q+4,none⟩=some (.slice aY mY cY):=(h.2.2.1.cell (p:=⟨g,q+4,none⟩) HLG.out).trans HFY.out.2.2.2.2.1;have f5:W.cell? ⟨g,q+5,none⟩=some (.int .i64 pY):=(h.2.2.1.cell (p:=⟨g,q+5,none⟩) HLG.out).trans HFY.out.2.2.2.2.2;unfold execOp;go_simp) ⟨_,HD0.out⟩ ?_
   change wpAnyH _ _ _ _ _ _ _ { tmps:=List.toArray (_::_::_::_::_::_::_::_::_::_::_::_::_::_::_::_::_::_::_::_::_::_::_::_::_::_::_::_::_::_::_::_::_::_::_::_::_::_::_::_::_::_::_::_::_::_::_::_::_::_::_::_::_::_::_::_::_::_::_::_::_::_::_::_::_::_::_::_::_::_::_::_::_::_::[]),defers:=[] } _
   refine dr_one 9 rfl rfl (by kernel_rfl) ?_
   refine wp_call (vs:=#[.agg #[.int .u8 kY,.int .u8 oY,.int .i64 wY,.string nY,.slice aY mY cY,.int .i64 pY]]) rfl rfl (enters_of Tryz.func100 (by kernel_rfl) rfl) (by simp [Act.eval]) (HWRY.out _ HD0.out.2.2.1) ?_
   rintro e w6 ⟨rfl,hb6⟩
   have HD6:=Lib.hid (xst_below HD0.out hb6)
   clear hb6 HD0
   refine ⟨⟨_,HD6.out⟩,?_⟩
   change wpAnyH _ _ _ _ _ _ _ { tmps:=List.toArray (_::_::_::_::_::_::_::_::_::_::_::_::_::_::_::_::_::_::_::_::_::_::_::_::_::_::_::_::_::_::_::_::_::_::_::_::_::_::_::_::_::_::_::_::_::_::_::_::_::_::_::_::_::_::_::_::_::_::_::_::_::_::_::_::_::_::_::_::_::_::_::_::_::_::[]),defers:=[] } _
   refine dr_one 10 rfl rfl (by kernel_rfl) ?_
   refine wp_call (vs:=#[.pointer (some ⟨b,0,none⟩),.agg #[.int .u8 kY,.int .u8 oY,.int .i64 wY,.string nY,.slice aY mY cY,.int .i64 pY],.bool wrY]) rfl rfl (enters_of Tryz.func137 (by kernel_rfl) rfl) (by simp [Act.eval]) (HINY.out _ _ HD6.out.2.2.1 HD6.out.2.1 HL3.out) ?_
   rintro e w8 hh
   rcases hh.cases with ⟨hx,rfl,hw,hk,hb⟩ | ⟨hx,rfl,hb⟩
   rotate_left
   · exact ⟨rfl,HD6.out.2.2.2.2.trans hb,.inr ⟨by rw [HT2.out];simp at hx ⊢;omega,rfl⟩⟩
   have HXK:=Lib.hid (xst_put HD6.out HG.out hw hk hb)
   have HLK:=Lib.hid hx
   clear hx hw hk hb hh HD6
   refine ⟨⟨_,HXK.out⟩,?_⟩
   refine wpAnyH_done (by kernel_rfl) ?_ _
   have he:txt++(signOf o++tY)=txt++signOf o++tY:=by simp
   have HF:Hid (PutP b txt tx deep fs w (.returned (.tuple #[])) w8):=by
    rw [Hid,HT2.out]
    exact ⟨HXK.out.2.2.2.2,.inl ⟨by rw [he];exact HLK.out,rfl,by rw [he];exact HXK.out.2.1,HXK.out.2.2.2.1⟩⟩
   clear he
   go_wp2_with fail
   exact bodyPost_end (results_none rfl _ _ _) rfl HF.out
 have k3:(k==3)=false:=by simp [hk3]
 by_cases hk4:k=4
 · have k4 : (k == 4) = true := by simp [hk4]
   have hkb:(twoB o&&kid2 o ks (rEs ks) d)=true:=by
    have:=HKB.out
    unfold kB at this
    rw [if_neg (by omega),if_neg hk3,if_pos hk4] at this
    exact this
   simp only [Bool.and_eq_true] at hkb
   have ht1:tx=kid2T o ks (tEs ks):=by rw [HTX.out];unfold tK;rw [if_neg hk1,if_neg hk2,if_neg hk3,if_pos hk4]
   obtain ⟨y,z,rfl⟩:∃ y z,ks=[y,z]:=by
    have:=hkb.2
    match ks,this with
    | [y,z],_=>exact ⟨y,z,rfl⟩
   have hrr:(rE y (d+b2i (wrL o y))&&rE z (d+b2i (wrR o z)))=true:=hkb.2
   simp only [Bool.and_eq_true] at hrr
   have ht2:tx=kidT (wrL o y) (tE y)++([32]++signOf o++[32])++kidT (wrR o z) (tE z):=by
    rw [ht1]
    simp only [tEs,kid2T]
   obtain rfl:m=2:=HM.out
   obtain ⟨kY,oY,wY,nY,ksY,pY⟩:=y
   obtain ⟨kZ,oZ,wZ,nZ,ksZ,pZ⟩:=z
   rcases E1.out with e | ⟨g,q,e,_,e1⟩
   · cases e
   subst e
   obtain ⟨⟨f0,f1,f2,f3,⟨aY,cY,f4,y4⟩,f5⟩,⟨g0,g1,g2,g3,⟨aZ,cZ,g4,z4⟩,g5⟩,_⟩:=e1
   have lg:=lt_of_at f0
   simp only at lg
   have HLG:Hid (g<b):=by rw [Hid,HB0.out];exact lg
   have HFY:=Lib.hid (And.intro f0 (And.intro f1 (And.intro f2 (And.intro f3 (And.intro f4 f5)))))
   have HFZ:=Lib.hid (And.intro g0 (And.intro g1 (And.intro g2 (And.intro g3 (And.intro g4 g5)))))
   have HWRY:Hid (∀ W,Below b w0 W→Calls Tryz.prog 102 #[.int .u8 o,.agg #[.int .u8 kY,.int .u8 oY,.int .i64 wY,.string nY,.slice aY ksY.length cY,.int .i64 pY]] W fun e w'=>e=.returned (.bool (wrL o (.mk kY oY wY nY ksY pY)))∧Below W.heap.size W w'):=fun W hW=>p_wrapsL (x:=.mk kY oY wY nY ksY pY) o HO.out HKS.out.1.2.1 ⟨aY,cY,rfl,exsAt_below y4 (by rw [← HB0.out];exact hW)⟩ (HTT.out W hW).pt.1.2
   have HWRZ:Hid (∀ W,Below b w0 W→Calls Tryz.prog 103 #[.int .u8 o,.agg #[.int .u8 kZ,.int .u8 oZ,.int .i64 wZ,.string nZ,.slice aZ ksZ.length cZ,.int .i64 pZ]] W fun e w'=>e=.returned (.bool (wrR o (.mk kZ oZ wZ nZ ksZ pZ)))∧Below W.heap.size W w'):=fun W hW=>p_wrapsR (x:=.mk kZ oZ wZ nZ ksZ pZ) o HO.out HKS.out.2.1.2.1 ⟨aZ,cZ,rfl,exsAt_below z4 (by rw [← HB0.out];exact hW)⟩ (HTT.out W hW).pt.1.2
   have HINY:Hid (∀ t W,Below b w0 W→Wt b t deep fs W→t.length≤65536→Calls Tryz.prog 137 #[.pointer (some ⟨b,0,none⟩),.agg #[.int .u8 kY,.int .u8 oY,.int .i64 wY,.string nY,.slice aY ksY.length cY,.int .i64 pY],.bool (wrL o (.mk kY oY wY nY ksY pY))] W (PutP b t (kidT (wrL o (.mk kY oY wY nY ksY pY)) (tE (.mk kY oY wY nY ksY pY))) deep fs W)):=fun t W hW hw ht =>
    p_kid (.mk kY oY wY nY ksY pY) (HI.out _ (.head _)) (wrL o (.mk kY oY wY nY ksY pY)) _ hrr.1 HKS.out.1 ⟨aY,cY,rfl,y4⟩ HT0.out HB0.out hW hw ht
   have HINZ:Hid (∀ t W,Below b w0 W→Wt b t deep fs W→t.length≤65536→Calls Tryz.prog 137 #[.pointer (some ⟨b,0,none⟩),.agg #[.int .u8 kZ,.int .u8 oZ,.int .i64 wZ,.string nZ,.slice aZ ksZ.length cZ,.int .i64 pZ],.bool (wrR o (.mk kZ oZ wZ nZ ksZ pZ))] W (PutP b t (kidT (wrR o (.mk kZ oZ wZ nZ ksZ pZ)) (tE (.mk kZ oZ wZ nZ ksZ pZ))) deep fs W)):=fun t W hW hw ht =>
    p_kid (.mk kZ oZ wZ nZ ksZ pZ) (HI.out _ (.tail _ (.head _))) (wrR o (.mk kZ oZ wZ nZ ksZ pZ)) _ hrr.2 HKS.out.2.1 ⟨aZ,cZ,rfl,z4⟩ HT0.out HB0.out hW hw ht
   have HP3:Hid (∀ t W s,Wt b t deep fs W→t.length≤65536→s.size≤140737488289792→Calls Tryz.prog 87 #[.pointer (some ⟨b,0,none⟩),.slice (some ⟨W.heap.size,0,none⟩) 3 3] (W.alloc (.cells #[.string ⟨#[32]⟩,.string s,.string ⟨#[32]⟩] 9)) (PutP b t ([32]++s.data.toList++[32]) deep fs W)):=fun t W s hw ht hz=>p_put3 hw ht ⟨#[32]⟩ s ⟨#[32]⟩ ⟨by decide,hz,by decide⟩
   generalize kidT (wrL o (.mk kY oY wY nY ksY pY)) (tE (.mk kY oY wY nY ksY pY))=tY at HINY ht2
   generalize kidT (wrR o (.mk kZ oZ wZ nZ ksZ pZ)) (tE (.mk kZ oZ wZ nZ ksZ pZ))=tZ at HINZ ht2
   generalize wrL o (.mk kY oY wY nY ksY pY)=wrY at HWRY HINY
   generalize wrR o (.mk kZ oZ wZ nZ ksZ pZ)=wrZ at HWRZ HINZ
   generalize ksY.length=mY at HWRY HINY HFY
   generalize ksZ.length=mZ at HWRZ HINZ HFZ
   have HT2:=Lib.hid ht2
   have HLA:=HT
   clear f0 f1 f2 f3 f4 f5 y4 g0 g1 g2 g3 g4 g5 z4 lg ht1 ht2 hrr hkb HI HTX HM hk4
   go_enter Tryz.func104,Tryz.ntmps104
   go_upto_region 1 with (fail)
   rw [← HW0.out]
   go_upto_region 10 with (fail)
   clear HW0 c0
   refine wp_region_held (S:=fun W=>∃ t,Xst w0 w b w.heap.size #[.int .u8 k,.int .u8 o,.int .i64 wd,.string n,.slice (some ⟨g,q,none⟩) 2 cap,.int .i64 ps] t deep fs W) (by kernel_rfl) ?_
   change wpAnyH _ _ _ _ _ _ _ _ W0.drew
   have D0:Xst w0 w b w.heap.size #[.int .u8 k,.int .u8 o,.int .i64 wd,.string n,.slice (some ⟨g,q,none⟩) 2 cap,.int .i64 ps] _ deep fs W0.drew:=xst_below HX0.out (below_drewN (Below.refl _ W0) 1)
   obtain ⟨wd0,hW⟩:∃ W,W=W0.drew:=⟨_,rfl⟩
   rw [← hW] at D0 ⊢
   clear hW
   have HD0:=Lib.hid D0
   clear D0
   refine dr_take 0 (.pointer (some ⟨b,0,none⟩)) rfl rfl (by kernel_rfl) (by kernel_rfl) (by kernel_rfl) (fun _ _ _ h=>h) (fun _ _=>rfl) ⟨_,HD0.out⟩ ?_
   change wpAnyH _ _ _ _ _ _ _ { tmps:=List.toArray (_::_::_::_::_::_::_::_::_::_::_::_::_::_::_::_::_::_::_::_::_::_::_::_::_::_::_::_::_::_::_::_::_::_::_::_::_::_::_::_::_::_::_::_::_::_::_::_::_::_::_::_::_::_::_::_::_::_::_::_::_::_::_::_::_::_::_::_::_::_::_::_::_::_::[]),defers:=[] } _
   refine dr_take 1 (.pointer (some ⟨w.heap.size,4,none⟩)) rfl rfl (by kernel_rfl) (by kernel_rfl) (by kernel_rfl) (fun _ _ _ h=>h) (fun _ _=>by unfold execOp;go_simp) ⟨_,HD0.out⟩ ?_
   change wpAnyH _ _ _ _ _ _ _ { tmps:=List.toArray (_::_::_::_::_::_::_::_::_::_::_::_::_::_::_::_::_::_::_::_::_::_::_::_::_::_::_::_::_::_::_::_::_::_::_::_::_::_::_::_::_::_::_::_::_::_::_::_::_::_::_::_::_::_::_::_::_::_::_::_::_::_::_::_::_::_::_::_::_::_::_::_::_::_::[]),defers:=[] } _
   refine dr_take 2 (.slice (some ⟨g,q,none⟩) 2 cap) rfl rfl (by kernel_rfl) (by kernel_rfl) (by kernel_rfl) (fun _ _ _ h=>h) (fun W h=>by obtain ⟨_,h⟩:=h;have c4:W.cell? ⟨w.heap.size,4,none⟩=some (.slice (some ⟨g,q,none⟩) 2 cap):=(by rw [cell_of_row _ _ 4 _ _ _ h.1];rfl);unfold execOp;go_simp) ⟨_,HD0.out⟩ ?_
   change wpAnyH _ _ _ _ _ _ _ { tmps:=List.toArray (_::_::_::_::_::_::_::_::_::_::_::_::_::_::_::_::_::_::_::_::_::_::_::_::_::_::_::_::_::_::_::_::_::_::_::_::_::_::_::_::_::_::_::_::_::_::_::_::_::_::_::_::_::_::_::_::_::_::_::_::_::_::_::_::_::_::_::_::_::_::_::_::_::_::[]),defers:=[] } _
   refine dr_take 3 (.pointer (some ⟨g,q,none⟩)) rfl rfl (by kernel_rfl) (by kernel_rfl) (by kernel_rfl) (fun _ _ _ h=>h) (fun _ _=>by unfold execOp;go_simp) ⟨_,HD0.out⟩ ?_
   change wpAnyH _ _ _ _ _ _ _ { tmps:=List.toArray (_::_::_::_::_::_::_::_::_::_::_::_::_::_::_::_::_::_::_::_::_::_::_::_::_::_::_::_::_::_::_::_::_::_::_::_::_::_::_::_::_::_::_::_::_::_::_::_::_::_::_::_::_::_::_::_::_::_::_::_::_::_::_::_::_::_::_::_::_::_::_::_::_::_::[]),defers:=[] } _
   refine dr_take 4 (.agg #[.int .u8 kY,.int .u8 oY,.int .i64 wY,.string nY,.slice aY mY cY,.int .i64 pY]) rfl rfl (by kernel_rfl) (by kernel_rfl) (by kernel_rfl) (fun _ _ _ h=>h) (fun W h=>by obtain ⟨_,h⟩:=h;have f0:W.cell? ⟨g,q,none⟩=some (.int .u8 kY):=(h.2.2.1.cell (p:=⟨g,q,none⟩) HLG.out).trans HFY.out.1;have f1:W.cell? ⟨g,q+1,none⟩=some (.int .u8 oY):=(h.2.2.1.cell (p:=⟨g,q+1,none⟩) HLG.out).trans HFY.out.2.1;have f2:W.cell? ⟨g,q+2,none⟩=some (.int .i64 wY):=(h.2.2.1.cell (p:=⟨g,q+2,none⟩) HLG.out).trans HFY.out.2.2.1;have f3:W.cell? ⟨g,q+3,none⟩=some (.string nY):=(h.2.2.1.cell (p:=⟨g,q+3,none⟩) HLG.out).trans HFY.out.2.2.2.1;have f4:W.cell? ⟨g,q+4,none⟩=some (.slice aY mY cY):=(h.2.2.1.cell (p:=⟨g,q+4,none⟩) HLG.out).trans HFY.out.2.2.2.2.1;have f5:W.cell? ⟨g,q+5,none⟩=some (.int .i64 pY):=(h.2.2.1.cell (p:=⟨g,q+5,none⟩) HLG.out).trans HFY.out.2.2.2.2.2;unfold execOp;go_simp) ⟨_,HD0.out⟩ ?_
   change wpAnyH _ _ _ _ _ _ _ { tmps:=List.toArray (_::_::_::_::_::_::_::_::_::_::_::_::_::_::_::_::_::_::_::_::_::_::_::_::_::_::_::_::_::_::_::_::_::_::_::_::_::_::_::_::_::_::_::_::_::_::_::_::_::_::_::_::_::_::_::_::_::_::_::_::_::_::_::_::_::_::_::_::_::_::_::_::_::_::[]),defers:=[] } _
   refine dr_take 5 (.pointer (some ⟨w.heap.size,1,none⟩)) rfl rfl (by kernel_rfl) (by kernel_rfl) (by kernel_rfl) (fun _ _ _ h=>h) (fun _ _=>by unfold execOp;go_simp) ⟨_,HD0.out⟩ ?_
   change wpAnyH _ _ _ _ _ _ _ { tmps:=List.toArray (_::_::_::_::_::_::_::_::_::_::_::_::_::_::_::_::_::_::_::_::_::_::_::_::_::_::_::_::_::_::_::_::_::_::_::_::_::_::_::_::_::_::_::_::_::_::_::_::_::_::_::_::_::_::_::_::_::_::_::_::_::_::_::_::_::_::_::_::_::_::_::_::_::_::[]),defers:=[] } _
   refine dr_take 6 (.int .u8 o) rfl rfl (by kernel_rfl) (by kernel_rfl) (by kernel_rfl) (fun _ _ _ h=>h) (fun W h=>by obtain ⟨_,h⟩:=h;have c1:W.cell? ⟨w.heap.size,1,none⟩=some (.int .u8 o):=(by rw [cell_of_row _ _ 1 _ _ _ h.1];rfl);unfold execOp;go_simp) ⟨_,HD0.out⟩ ?_
   change wpAnyH _ _ _ _ _ _ _ { tmps:=List.toArray (_::_::_::_::_::_::_::_::_::_::_::_::_::_::_::_::_::_::_::_::_::_::_::_::_::_::_::_::_::_::_::_::_::_::_::_::_::_::_::_::_::_::_::_::_::_::_::_::_::_::_::_::_::_::_::_::_::_::_::_::_::_::_::_::_::_::_::_::_::_::_::_::_::_::[]),defers:=[] } _
   refine dr_take 7 (.pointer (some ⟨w.heap.size,4,none⟩)) rfl rfl (by kernel_rfl) (by kernel_rfl) (by kernel_rfl) (fun _ _ _ h=>h) (fun _ _=>by unfold execOp;go_simp) ⟨_,HD0.out⟩ ?_
   change wpAnyH _ _ _ _ _ _ _ { tmps:=List.toArray (_::_::_::_::_::_::_::_::_::_::_::_::_::_::_::_::_::_::_::_::_::_::_::_::_::_::_::_::_::_::_::_::_::_::_::_::_::_::_::_::_::_::_::_::_::_::_::_::_::_::_::_::_::_::_::_::_::_::_::_::_::_::_::_::_::_::_::_::_::_::_::_::_::_::[]),defers:=[] } _
   refine dr_take 8 (.slice (some ⟨g,q,none⟩) 2 cap) rfl rfl (by kernel_rfl) (by kernel_rfl) (by kernel_rfl) (fun _ _ _ h=>h) (fun W h=>by obtain ⟨_,h⟩:=h;have c4:W.cell? ⟨w.heap.size,4,none⟩=some (.slice (some ⟨g,q,none⟩) 2 cap):=(by rw [cell_of_row _ _ 4 _ _ _ h.1];rfl);unfold execOp;go_simp) ⟨_,HD0.out⟩ ?_
   change wpAnyH _ _ _ _ _ _ _ { tmps:=List.toArray (_::_::_::_::_::_::_::_::_::_::_::_::_::_::_::_::_::_::_::_::_::_::_::_::_::_::_::_::_::_::_::_::_::_::_::_::_::_::_::_::_::_::_::_::_::_::_::_::_::_::_::_::_::_::_::_::_::_::_::_::_::_::_::_::_::_::_::_::_::_::_::_::_::_::[]),defers:=[] } _
   refine dr_take 9 (.pointer (some ⟨g,q,none⟩)) rfl rfl (by kernel_rfl) (by kernel_rfl) (by kernel_rfl) (fun _ _ _ h=>h) (fun _ _=>by unfold execOp;go_simp) ⟨_,HD0.out⟩ ?_
   change wpAnyH _ _ _ _ _ _ _ { tmps:=List.toArray (_::_::_::_::_::_::_::_::_::_::_::_::_::_::_::_::_::_::_::_::_::_::_::_::_::_::_::_::_::_::_::_::_::_::_::_::_::_::_::_::_::_::_::_::_::_::_::_::_::_::_::_::_::_::_::_::_::_::_::_::_::_::_::_::_::_::_::_::_::_::_::_::_::_::[]),defers:=[] } _
   refine dr_take 10 (.agg #[.int .u8 kY,.int .u8 oY,.int .i64 wY,.string nY,.slice aY mY cY,.int .i64 pY]) rfl rfl (by kernel_rfl) (by kernel_rfl) (by kernel_rfl) (fun _ _ _ h=>h) (fun W h=>by obtain ⟨_,h⟩:=h;have f0:W.cell? ⟨g,q,none⟩=some (.int .u8 kY):=(h.2.2.1.cell (p:=⟨g,q,none⟩) HLG.out).trans HFY.out.1;have f1:W.cell? ⟨g,q+1,none⟩=some (.int .u8 oY):=(h.2.2.1.cell (p:=⟨g,q+1,none⟩) HLG.out).trans HFY.out.2.1;have f2:W.cell? ⟨g,q+2,none⟩=some (.int .i64 wY):=(h.2.2.1.cell (p:=⟨g,q+2,none⟩) HLG.out).trans HFY.out.2.2.1;have f3:W.cell? ⟨g,q+3,none⟩=some (.string nY):=(h.2.2.1.cell (p:=⟨g,q+3,none⟩) HLG.out).trans HFY.out.2.2.2.1;have f4:W.cell? ⟨g,q+4,none⟩=some (.slice aY mY cY):=(h.2.2.1.cell (p:=⟨g,q+4,none⟩) HLG.out).trans HFY.out.2.2.2.2.1;have f5:W.cell? ⟨g,q+5,none⟩=some (.int .i64 pY):=(h.2.2.1.cell (p:=⟨g,q+5,none⟩) HLG.out).trans HFY.out.2.2.2.2.2;unfold execOp;go_simp) ⟨_,HD0.out⟩ ?_
   change wpAnyH _ _ _ _ _ _ _ { tmps:=List.toArray (_::_::_::_::_::_::_::_::_::_::_::_::_::_::_::_::_::_::_::_::_::_::_::_::_::_::_::_::_::_::_::_::_::_::_::_::_::_::_::_::_::_::_::_::_::_::_::_::_::_::_::_::_::_::_::_::_::_::_::_::_::_::_::_::_::_::_::_::_::_::_::_::_::_::[]),defers:=[] } _
   refine dr_one 11 rfl rfl (by kernel_rfl) ?_
   refine wp_call (vs:=#[.int .u8 o,.agg #[.int .u8 kY,.int .u8 oY,.int .i64 wY,.string nY,.slice aY mY cY,.int .i64 pY]]) rfl rfl (enters_of Tryz.func102 (by kernel_rfl) rfl) (by simp [Act.eval]) (HWRY.out _ HD0.out.2.2.1) ?_
   rintro e w6 ⟨rfl,hb6⟩
   have HD6:=Lib.hid (xst_below HD0.out hb6)
   clear hb6 HD0
   refine ⟨⟨_,HD6.out⟩,?_⟩
   change wpAnyH _ _ _ _ _ _ _ { tmps:=List.toArray (_::_::_::_::_::_::_::_::_::_::_::_::_::_::_::_::_::_::_::_::_::_::_::_::_::_::_::_::_::_::_::_::_::_::_::_::_::_::_::_::_::_::_::_::_::_::_::_::_::_::_::_::_::_::_::_::_::_::_::_::_::_::_::_::_::_::_::_::_::_::_::_::_::_::[]),defers:=[] } _
   refine dr_one 12 rfl rfl (by kernel_rfl) ?_
   refine wp_call (vs:=#[.pointer (some ⟨b,0,none⟩),.agg #[.int .u8 kY,.int .u8 oY,.int .i64 wY,.string nY,.slice aY mY cY,.int .i64 pY],.bool wrY]) rfl rfl (enters_of Tryz.func137 (by kernel_rfl) rfl) (by simp [Act.eval]) (HINY.out _ _ HD6.out.2.2.1 HD6.out.2.1 HLA.out) ?_
   rintro e w8 hh
   rcases hh.cases with ⟨hx,rfl,hw,hk,hb⟩ | ⟨hx,rfl,hb⟩
   rotate_left
   · exact ⟨rfl,HD6.out.2.2.2.2.trans hb,.inr ⟨by rw [HT2.out];simp at hx ⊢;omega,rfl⟩⟩
   have HXK:=Lib.hid (xst_put HD6.out HG.out hw hk hb)
   have HLK:=Lib.hid hx
   clear hx hw hk hb hh HD6
   refine ⟨⟨_,HXK.out⟩,?_⟩
   refine wpAnyH_done (by kernel_rfl) ?_ _
   have HX3:=HXK
   have HL3:=HLK
   clear HXK HLK
   have c1':w8.cell? ⟨w.heap.size,1,none⟩=some (.int .u8 o):=by rw [cell_of_row _ _ 1 _ _ _ HX3.out.1];rfl
   go_wp2_with (first | (go_at_call 136;refine (HSH.out _ HX3.out.2.2.1).mono ?_;rintro e w2 ⟨rfl,rfl⟩))
   go_at_call 87
   refine (HP3.out _ _ _ HX3.out.2.1 HL3.out (sign_small o)).mono ?_
   rintro e w3 hh
   rcases hh.cases with ⟨hx,rfl,hw,hk,hb⟩ | ⟨hx,rfl,hb⟩
   rotate_left
   · go_wp2_with fail
     exact ⟨rfl,HX3.out.2.2.2.2.trans hb,.inr ⟨by rw [HT2.out];simp at hx ⊢;omega,rfl⟩⟩
   have HX4:=Lib.hid (xst_put HX3.out HG.out hw hk hb)
   have HLB:=Lib.hid hx
   clear hx hw hk hb hh c1' HX3
   go_upto_region 12 with (fail)
   refine wp_region_held (S:=fun W=>∃ t,Xst w0 w b w.heap.size #[.int .u8 k,.int .u8 o,.int .i64 wd,.string n,.slice (some ⟨g,q,none⟩) 2 cap,.int .i64 ps] t deep fs W) (by kernel_rfl) ?_
   change wpAnyH _ _ _ _ _ _ _ _ w3.drew
   have D0:Xst w0 w b w.heap.size #[.int .u8 k,.int .u8 o,.int .i64 wd,.string n,.slice (some ⟨g,q,none⟩) 2 cap,.int .i64 ps] _ deep fs w3.drew:=xst_below HX4.out (below_drewN (Below.refl _ w3) 1)
   obtain ⟨wd3,hW⟩:∃ W,W=w3.drew:=⟨_,rfl⟩
   rw [← hW] at D0 ⊢
   clear hW
   have HD0:=Lib.hid D0
   clear D0
   refine dr_take 0 (.pointer (some ⟨b,0,none⟩)) rfl rfl (by kernel_rfl) (by kernel_rfl) (by kernel_rfl) (fun _ _ _ h=>h) (fun _ _=>rfl) ⟨_,HD0.out⟩ ?_
   change wpAnyH _ _ _ _ _ _ _ { tmps:=List.toArray (_::_::_::_::_::_::_::_::_::_::_::_::_::_::_::_::_::_::_::_::_::_::_::_::_::_::_::_::_::_::_::_::_::_::_::_::_::_::_::_::_::_::_::_::_::_::_::_::_::_::_::_::_::_::_::_::_::_::_::_::_::_::_::_::_::_::_::_::_::_::_::_::_::_::[]),defers:=[] } _
   refine dr_take 1 (.pointer (some ⟨w.heap.size,4,none⟩)) rfl rfl (by kernel_rfl) (by kernel_rfl) (by kernel_rfl) (fun _ _ _ h=>h) (fun _ _=>by unfold execOp;go_simp) ⟨_,HD0.out⟩ ?_
   change wpAnyH _ _ _ _ _ _ _ { tmps:=List.toArray (_::_::_::_::_::_::_::_::_::_::_::_::_::_::_::_::_::_::_::_::_::_::_::_::_::_::_::_::_::_::_::_::_::_::_::_::_::_::_::_::_::_::_::_::_::_::_::_::_::_::_::_::_::_::_::_::_::_::_::_::_::_::_::_::_::_::_::_::_::_::_::_::_::_::[]),defers:=[] } _
   refine dr_take 2 (.slice (some ⟨g,q,none⟩) 2 cap) rfl rfl (by kernel_rfl) (by kernel_rfl) (by kernel_rfl) (fun _ _ _ h=>h) (fun W h=>by obtain ⟨_,h⟩:=h;have c4:W.cell? ⟨w.heap.size,4,none⟩=some (.slice (some ⟨g,q,none⟩) 2 cap):=(by rw [cell_of_row _ _ 4 _ _ _ h.1];rfl);unfold execOp;go_simp) ⟨_,HD0.out⟩ ?_
   change wpAnyH _ _ _ _ _ _ _ { tmps:=List.toArray (_::_::_::_::_::_::_::_::_::_::_::_::_::_::_::_::_::_::_::_::_::_::_::_::_::_::_::_::_::_::_::_::_::_::_::_::_::_::_::_::_::_::_::_::_::_::_::_::_::_::_::_::_::_::_::_::_::_::_::_::_::_::_::_::_::_::_::_::_::_::_::_::_::_::[]),defers:=[] } _
   refine dr_take 3 (.pointer (some ⟨g,q+6,none⟩)) rfl rfl (by kernel_rfl) (by kernel_rfl) (by kernel_rfl) (fun _ _ _ h=>h) (fun _ _=>by unfold execOp;go_simp) ⟨_,HD0.out⟩ ?_
   change wpAnyH _ _ _ _ _ _ _ { tmps:=List.toArray (_::_::_::_::_::_::_::_::_::_::_::_::_::_::_::_::_::_::_::_::_::_::_::_::_::_::_::_::_::_::_::_::_::_::_::_::_::_::_::_::_::_::_::_::_::_::_::_::_::_::_::_::_::_::_::_::_::_::_::_::_::_::_::_::_::_::_::_::_::_::_::_::_::_::[]),defers:=[] } _
   refine dr_take 4 (.agg #[.int .u8 kZ,.int .u8 oZ,.int .i64 wZ,.string nZ,.slice aZ mZ cZ,.int .i64 pZ]) rfl rfl (by kernel_rfl) (by kernel_rfl) (by kernel_rfl) (fun _ _ _ h=>h) (fun W h=>by obtain ⟨_,h⟩:=h;have f0:W.cell? ⟨g,q+6,none⟩=some (.int .u8 kZ):=(h.2.2.1.cell (p:=⟨g,q+6,none⟩) HLG.out).trans HFZ.out.1;have f1:W.cell? ⟨g,q+7,none⟩=some (.int .u8 oZ):=(h.2.2.1.cell (p:=⟨g,q+7,none⟩) HLG.out).trans HFZ.out.2.1;have f2:W.cell? ⟨g,q+8,none⟩=some (.int .i64 wZ):=(h.2.2.1.cell (p:=⟨g,q+8,none⟩) HLG.out).trans HFZ.out.2.2.1;have f3:W.cell? ⟨g,q+9,none⟩=some (.string nZ):=(h.2.2.1.cell (p:=⟨g,q+9,none⟩) HLG.out).trans HFZ.out.2.2.2.1;have f4:W.cell? ⟨g,q+10,none⟩=some (.slice aZ mZ cZ):=(h.2.2.1.cell (p:=⟨g,q+10,none⟩) HLG.out).trans HFZ.out.2.2.2.2.1;have f5:W.cell? ⟨g,q+11,none⟩=some (.int .i64 pZ):=(h.2.2.1.cell (p:=⟨g,q+11,none⟩) HLG.out).trans HFZ.out.2.2.2.2.2;unfold execOp;go_simp) ⟨_,HD0.out⟩ ?_
   change wpAnyH _ _ _ _ _ _ _ { tmps:=List.toArray (_::_::_::_::_::_::_::_::_::_::_::_::_::_::_::_::_::_::_::_::_::_::_::_::_::_::_::_::_::_::_::_::_::_::_::_::_::_::_::_::_::_::_::_::_::_::_::_::_::_::_::_::_::_::_::_::_::_::_::_::_::_::_::_::_::_::_::_::_::_::_::_::_::_::[]),defers:=[] } _
   refine dr_take 5 (.pointer (some ⟨w.heap.size,1,none⟩)) rfl rfl (by kernel_rfl) (by kernel_rfl) (by kernel_rfl) (fun _ _ _ h=>h) (fun _ _=>by unfold execOp;go_simp) ⟨_,HD0.out⟩ ?_
   change wpAnyH _ _ _ _ _ _ _ { tmps:=List.toArray (_::_::_::_::_::_::_::_::_::_::_::_::_::_::_::_::_::_::_::_::_::_::_::_::_::_::_::_::_::_::_::_::_::_::_::_::_::_::_::_::_::_::_::_::_::_::_::_::_::_::_::_::_::_::_::_::_::_::_::_::_::_::_::_::_::_::_::_::_::_::_::_::_::_::[]),defers:=[] } _
   refine dr_take 6 (.int .u8 o) rfl rfl (by kernel_rfl) (by kernel_rfl) (by kernel_rfl) (fun _ _ _ h=>h) (fun W h=>by obtain ⟨_,h⟩:=h;have c1:W.cell? ⟨w.heap.size,1,none⟩=some (.int .u8 o):=(by rw [cell_of_row _ _ 1 _ _ _ h.1];rfl);unfold execOp;go_simp) ⟨_,HD0.out⟩ ?_
   change wpAnyH _ _ _ _ _ _ _ { tmps:=List.toArray (_::_::_::_::_::_::_::_::_::_::_::_::_::_::_::_::_::_::_::_::_::_::_::_::_::_::_::_::_::_::_::_::_::_::_::_::_::_::_::_::_::_::_::_::_::_::_::_::_::_::_::_::_::_::_::_::_::_::_::_::_::_::_::_::_::_::_::_::_::_::_::_::_::_::[]),defers:=[] } _
   refine dr_take 7 (.pointer (some ⟨w.heap.size,4,none⟩)) rfl rfl (by kernel_rfl) (by kernel_rfl) (by kernel_rfl) (fun _ _ _ h=>h) (fun _ _=>by unfold execOp;go_simp) ⟨_,HD0.out⟩ ?_
   change wpAnyH _ _ _ _ _ _ _ { tmps:=List.toArray (_::_::_::_::_::_::_::_::_::_::_::_::_::_::_::_::_::_::_::_::_::_::_::_::_::_::_::_::_::_::_::_::_::_::_::_::_::_::_::_::_::_::_::_::_::_::_::_::_::_::_::_::_::_::_::_::_::_::_::_::_::_::_::_::_::_::_::_::_::_::_::_::_::_::[]),defers:=[] } _
   refine dr_take 8 (.slice (some ⟨g,q,none⟩) 2 cap) rfl rfl (by kernel_rfl) (by kernel_rfl) (by kernel_rfl) (fun _ _ _ h=>h) (fun W h=>by obtain ⟨_,h⟩:=h;have c4:W.cell? ⟨w.heap.size,4,none⟩=some (.slice (some ⟨g,q,none⟩) 2 cap):=(by rw [cell_of_row _ _ 4 _ _ _ h.1];rfl);unfold execOp;go_simp) ⟨_,HD0.out⟩ ?_
   change wpAnyH _ _ _ _ _ _ _ { tmps:=List.toArray (_::_::_::_::_::_::_::_::_::_::_::_::_::_::_::_::_::_::_::_::_::_::_::_::_::_::_::_::_::_::_::_::_::_::_::_::_::_::_::_::_::_::_::_::_::_::_::_::_::_::_::_::_::_::_::_::_::_::_::_::_::_::_::_::_::_::_::_::_::_::_::_::_::_::[]),defers:=[] } _
   refine dr_take 9 (.pointer (some ⟨g,q+6,none⟩)) rfl rfl (by kernel_rfl) (by kernel_rfl) (by kernel_rfl) (fun _ _ _ h=>h) (fun _ _=>by unfold execOp;go_simp) ⟨_,HD0.out⟩ ?_
   change wpAnyH _ _ _ _ _ _ _ { tmps:=List.toArray (_::_::_::_::_::_::_::_::_::_::_::_::_::_::_::_::_::_::_::_::_::_::_::_::_::_::_::_::_::_::_::_::_::_::_::_::_::_::_::_::_::_::_::_::_::_::_::_::_::_::_::_::_::_::_::_::_::_::_::_::_::_::_::_::_::_::_::_::_::_::_::_::_::_::[]),defers:=[] } _
   refine dr_take 10 (.agg #[.int .u8 kZ,.int .u8 oZ,.int .i64 wZ,.string nZ,.slice aZ mZ cZ,.int .i64 pZ]) rfl rfl (by kernel_rfl) (by kernel_rfl) (by kernel_rfl) (fun _ _ _ h=>h) (fun W h=>by obtain ⟨_,h⟩:=h;have f0:W.cell? ⟨g,q+6,none⟩=some (.int .u8 kZ):=(h.2.2.1.cell (p:=⟨g,q+6,none⟩) HLG.out).trans HFZ.out.1;have f1:W.cell? ⟨g,q+7,none⟩=some (.int .u8 oZ):=(h.2.2.1.cell (p:=⟨g,q+7,none⟩) HLG.out).trans HFZ.out.2.1;have f2:W.cell? ⟨g,q+8,none⟩=some (.int .i64 wZ):=(h.2.2.1.cell (p:=⟨g,q+8,none⟩) HLG.out).trans HFZ.out.2.2.1;have f3:W.cell? ⟨g,q+9,none⟩=some (.string nZ):=(h.2.2.1.cell (p:=⟨g,q+9,none⟩) HLG.out).trans HFZ.out.2.2.2.1;have f4:W.cell? ⟨g,q+10,none⟩=some (.slice aZ mZ cZ):=(h.2.2.1.cell (p:=⟨g,q+10,none⟩) HLG.out).trans HFZ.out.2.2.2.2.1;have f5:W.cell? ⟨g,q+11,none⟩=some (.int .i64 pZ):=(h.2.2.1.cell (p:=⟨g,q+11,none⟩) HLG.out).trans HFZ.out.2.2.2.2.2;unfold execOp;go_simp) ⟨_,HD0.out⟩ ?_
   change wpAnyH _ _ _ _ _ _ _ { tmps:=List.toArray (_::_::_::_::_::_::_::_::_::_::_::_::_::_::_::_::_::_::_::_::_::_::_::_::_::_::_::_::_::_::_::_::_::_::_::_::_::_::_::_::_::_::_::_::_::_::_::_::_::_::_::_::_::_::_::_::_::_::_::_::_::_::_::_::_::_::_::_::_::_::_::_::_::_::[]),defers:=[] } _
   refine dr_one 11 rfl rfl (by kernel_rfl) ?_
   refine wp_call (vs:=#[.int .u8 o,.agg #[.int .u8 kZ,.int .u8 oZ,.int .i64 wZ,.string nZ,.slice aZ mZ cZ,.int .i64 pZ]]) rfl rfl (enters_of Tryz.func103 (by kernel_rfl) rfl) (by simp [Act.eval]) (HWRZ.out _ HD0.out.2.2.1) ?_
   rintro e w6 ⟨rfl,hb6⟩
   have HD6:=Lib.hid (xst_below HD0.out hb6)
   clear hb6 HD0
   refine ⟨⟨_,HD6.out⟩,?_⟩
   change wpAnyH _ _ _ _ _ _ _ { tmps:=List.toArray (_::_::_::_::_::_::_::_::_::_::_::_::_::_::_::_::_::_::_::_::_::_::_::_::_::_::_::_::_::_::_::_::_::_::_::_::_::_::_::_::_::_::_::_::_::_::_::_::_::_::_::_::_::_::_::_::_::_::_::_::_::_::_::_::_::_::_::_::_::_::_::_::_::_::[]),defers:=[] } _
   refine dr_one 12 rfl rfl (by kernel_rfl) ?_
   refine wp_call (vs:=#[.pointer (some ⟨b,0,none⟩),.agg #[.int .u8 kZ,.int .u8 oZ,.int .i64 wZ,.string nZ,.slice aZ mZ cZ,.int .i64 pZ],.bool wrZ]) rfl rfl (enters_of Tryz.func137 (by kernel_rfl) rfl) (by simp [Act.eval]) (HINZ.out _ _ HD6.out.2.2.1 HD6.out.2.1 HLB.out) ?_
   rintro e w8 hh
   rcases hh.cases with ⟨hx,rfl,hw,hk,hb⟩ | ⟨hx,rfl,hb⟩
   rotate_left
   · exact ⟨rfl,HD6.out.2.2.2.2.trans hb,.inr ⟨by rw [HT2.out];simp at hx ⊢;omega,rfl⟩⟩
   have HXK:=Lib.hid (xst_put HD6.out HG.out hw hk hb)
   have HLK:=Lib.hid hx
   clear hx hw hk hb hh HD6
   refine ⟨⟨_,HXK.out⟩,?_⟩
   refine wpAnyH_done (by kernel_rfl) ?_ _
   have he:txt++(tY++([32]++signOf o++[32])++tZ)=txt++tY++([32]++signOf o++[32])++tZ:=by simp
   have HF:Hid (PutP b txt tx deep fs w (.returned (.tuple #[])) w8):=by
    rw [Hid,HT2.out]
    exact ⟨HXK.out.2.2.2.2,.inl ⟨by rw [he];exact HLK.out,rfl,by rw [he];exact HXK.out.2.1,HXK.out.2.2.2.1⟩⟩
   clear he
   go_wp2_with fail
   exact bodyPost_end (results_none rfl _ _ _) rfl HF.out
 · exfalso
   have:=HKB.out
   unfold kB at this
   rw [if_neg (by omega),if_neg hk3,if_neg hk4] at this
   cases this
end Go.Proofs.YtieeaehabjjaoaaGreatDoor

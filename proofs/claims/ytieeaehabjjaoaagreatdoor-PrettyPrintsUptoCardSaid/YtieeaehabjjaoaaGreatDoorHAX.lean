/- The proof, part 24: texts that belong together, in one. -/
import Derived.Test.YtieeaehabjjaoaaGreatDoorHAW
import Derived.Test.YtieeaehabjjaoaaGreatDoorHAI
import Derived.StillTailTactics
set_option maxRecDepth 100000
set_option maxHeartbeats 20000000
namespace Go.Proofs.YtieeaehabjjaoaaGreatDoor
open Go.RowKit
set_option linter.unusedVariables false
set_option maxRecDepth 100000
theorem nu_E:Nu8 59:=fun cs=>by
 rintro ⟨c,f,h⟩
 cases h
def UrE (x:Ex):Prop:=∀ d,rE x d=true→rgE x→∀ (v:Value) (w0 w:World) (b:Nat) (txt:List UInt8),exA w0 x v→b=w0.heap.size→Below b w0 w→Ux b txt w →
 Calls Tryz.prog 95 #[.pointer (some ⟨b,0,none⟩),v] w (UPut b txt (tE x) w)
theorem u_kid (x:Ex) (HX:UrE x) (wr:Bool) (d:Int) (hr:rE x d=true) (hrg:rgE x) {v:Value} {w0 w:World} {b:Nat} {txt:List UInt8} (hv:exA w0 x v) (hb0:b=w0.heap.size) (hbw:Below b w0 w) (hw:Ux b txt w) :
 Calls Tryz.prog 131 #[.pointer (some ⟨b,0,none⟩),v,.bool wr] w (UPut b txt (kidT wr (tE x)) w):=by
 have hE:∀ (gx:Nat) (row:Array Value),gx≠b→∀ t W,Ust w0 w b gx 59 row t W→Calls Tryz.prog 95 #[.pointer (some ⟨b,0,none⟩),v] W fun e W'=>e=.returned (.tuple #[])∧Ust w0 w b gx 59 row (t++tE x) W':=fun gx row hg t W h=>(HX d hr hrg v w0 W b t hv hb0 h.2.2.1 h.2.1).mono fun _ _ hp=>ust_put h hg nu_E hp
 obtain ⟨a,cap,rfl,_⟩:=hv
 generalize x.kind=k,x.op=o,x.wd=wd,x.name=n,x.kids.length=m,x.pos=ps at hE ⊢
 generalize tE x=tx at hE ⊢
 have hlt:=hw.lt
 have HX0:Hid (Ust w0 w b w.heap.size 59 #[.int .u8 k,.int .u8 o,.int .i64 wd,.string n,.slice a m cap,.int .i64 ps] txt (w.alloc (.cells #[.int .u8 k,.int .u8 o,.int .i64 wd,.string n,.slice a m cap,.int .i64 ps] 59))):=ust_new hw hbw 59 #[.int .u8 k,.int .u8 o,.int .i64 wd,.string n,.slice a m cap,.int .i64 ps]
 have HG:Hid (w.heap.size≠b):=by rw [Hid];omega
 have HE:=Lib.hid (hE w.heap.size #[.int .u8 k,.int .u8 o,.int .i64 wd,.string n,.slice a m cap,.int .i64 ps] HG.out)
 have HP:Hid (∀ t W s,Ust w0 w b w.heap.size 59 #[.int .u8 k,.int .u8 o,.int .i64 wd,.string n,.slice a m cap,.int .i64 ps] t W→s.size≤140737488289792→Calls Tryz.prog 23 #[.pointer (some ⟨b,0,none⟩),.string s] W fun e W'=>e=.returned (.tuple #[])∧Ust w0 w b w.heap.size 59 #[.int .u8 k,.int .u8 o,.int .i64 wd,.string n,.slice a m cap,.int .i64 ps] (t++s.data.toList) W'):=fun t W s h hs=>u_put h HG.out nu_E s hs
 clear hr hrg hb0 hbw hw HX hlt hE HG
 obtain ⟨W0,hW0⟩:∃ W,W=w.alloc (.cells #[.int .u8 k,.int .u8 o,.int .i64 wd,.string n,.slice a m cap,.int .i64 ps] 59):=⟨_,rfl⟩
 rw [← hW0] at HX0
 have HW0:=Lib.hid hW0
 clear hW0
 have O1:=HX0.out.1
 cases wr with
 | false =>
   show Calls _ _ _ _ (UPut b txt tx w)
   go_enter Tryz.func131,Tryz.ntmps131
   go_upto_region 1 with (fail)
   rw [← HW0.out]
   go_wp2_with (refine ld rowEx rfl rfl rfl O1 rfl ?_)
   go_at_call 95
   refine (HE.out _ _ HX0.out).mono ?_
   rintro e w2 ⟨rfl,hx⟩
   have HF:=Lib.hid (ust_done hx)
   clear hx O1
   go_wp2_with fail
   exact bodyPost_end (results_none rfl _ _ _) rfl HF.out
 | true =>
   show Calls _ _ _ _ (UPut b txt ([40]++tx++[41]) w)
   go_enter Tryz.func131,Tryz.ntmps131
   go_upto_region 1 with (fail)
   rw [← HW0.out]
   clear O1
   go_wp2_with fail
   go_at_call 23
   refine (HP.out _ _ _ HX0.out (by decide)).mono ?_
   rintro e w2 ⟨rfl,hx2⟩
   have HX2:=Lib.hid hx2
   have O1:=hx2.1
   clear hx2
   go_wp2_with (refine ld rowEx rfl rfl rfl O1 rfl ?_)
   go_at_call 95
   refine (HE.out _ _ HX2.out).mono ?_
   rintro e w3 ⟨rfl,hx3⟩
   have HX3:=Lib.hid hx3
   clear hx3 O1
   go_wp2_with fail
   go_at_call 23
   refine (HP.out _ _ _ HX3.out (by decide)).mono ?_
   rintro e w4 ⟨rfl,hx4⟩
   have HF:Hid (UPut b txt ([40]++tx++[41]) w (.returned (.tuple #[])) w4):=ust_done (by
    rw [show txt++([40]++tx++[41])=txt++[40]++tx++[41] by simp]
    exact hx4)
   clear hx4
   go_wp2_with fail
   exact bodyPost_end (results_none rfl _ _ _) rfl HF.out
theorem u_expr1 (x:Ex) (HI:∀ y∈x.kids,UrE y):UrE x:=by
 intro d hr hrg v w0 w b txt hv hb0 hbw hw
 obtain ⟨a,cap,rfl,h1⟩:=hv
 obtain ⟨k,o,wd,n,ks,ps⟩:=x
 obtain ⟨hk,ho,hwd,hks⟩:=hrg
 change Calls _ _ #[_,.agg #[.int .u8 k,.int .u8 o,.int .i64 wd,.string n,.slice a ks.length cap,.int .i64 ps]] w _
 change ∀ y∈ks,UrE y at HI
 change exsAt _ w0 ks a at h1
 simp only [rE,Bool.and_eq_true] at hr
 obtain ⟨_,_,hnm,hkb⟩:=hr
 have HPR:Hid (∀ W,Calls Tryz.prog 51 #[.int .i64 wd] W fun e w'=>e=.returned (.string ⟨(Lib.itoa wd).toArray⟩)∧Below W.heap.size W w'):=fun W=>rprint_any wd hwd.1 hwd.2 W
 have HSH:Hid (∀ W,Calls Tryz.prog 130 #[.int .u8 o] W fun e w'=>e=.returned (.string ⟨(signOf o).toArray⟩)∧Below W.heap.size W w'):=fun W=>rshow_any o ho.1 W
 obtain ⟨m,hm⟩:∃ m,m=ks.length:=⟨_,rfl⟩
 rw [← hm]
 have HM:=Lib.hid hm
 have HI:=Lib.hid HI
 have E1:=Lib.hid h1
 have HKS:=Lib.hid hks
 have HO:=Lib.hid ho
 have HWD:=Lib.hid hwd
 have HB0:=Lib.hid hb0
 have HKB:=Lib.hid hkb
 have HNM:=Lib.hid hnm
 have hlt:=hw.lt
 have HX0:Hid (Ust w0 w b w.heap.size 59 #[.int .u8 k,.int .u8 o,.int .i64 wd,.string n,.slice a m cap,.int .i64 ps] txt (w.alloc (.cells #[.int .u8 k,.int .u8 o,.int .i64 wd,.string n,.slice a m cap,.int .i64 ps] 59))):=ust_new hw hbw 59 #[.int .u8 k,.int .u8 o,.int .i64 wd,.string n,.slice a m cap,.int .i64 ps]
 have HG:Hid (w.heap.size≠b):=by rw [Hid];omega
 clear hk ho hwd hks h1 hm hnm hkb hb0 hbw hw hlt
 obtain ⟨W0,hW0⟩:∃ W,W=w.alloc (.cells #[.int .u8 k,.int .u8 o,.int .i64 wd,.string n,.slice a m cap,.int .i64 ps] 59):=⟨_,rfl⟩
 rw [← hW0] at HX0
 have HW0:=Lib.hid hW0
 clear hW0
 have c0:W0.cell? ⟨w.heap.size,0,none⟩=some (.int .u8 k):=by rw [cell_of_row _ _ 0 _ _ _ HX0.out.1];rfl
 have c1:W0.cell? ⟨w.heap.size,1,none⟩=some (.int .u8 o):=by rw [cell_of_row _ _ 1 _ _ _ HX0.out.1];rfl
 have c2:W0.cell? ⟨w.heap.size,2,none⟩=some (.int .i64 wd):=by rw [cell_of_row _ _ 2 _ _ _ HX0.out.1];rfl
 have c3:W0.cell? ⟨w.heap.size,3,none⟩=some (.string n):=by rw [cell_of_row _ _ 3 _ _ _ HX0.out.1];rfl
 have hht:tE (.mk k o wd n ks ps)=tK k o wd n ks (tEs ks):=by simp only [tE]
 rw [hht]
 obtain ⟨tx,htx⟩:∃ tx,tx=tK k o wd n ks (tEs ks):=⟨_,rfl⟩
 rw [← htx]
 have HTX:=Lib.hid htx
 clear htx hht
 obtain ⟨vb,hA | hB⟩:=HX0.out.2.1
 rotate_left
 · have b1 : W0.cell? ⟨b, 1, none⟩ = some (.bool true) := by rw [cell_of_row _ _ 1 _ _ _ hB.1]; rfl
   have HF:Hid (UPut b txt tx w (.returned (.tuple #[])) W0):=⟨rfl,⟨vb,.inr ⟨hB.1,by rw [List.length_append];have:=hB.2;omega⟩⟩,HX0.out.2.2.2.1,HX0.out.2.2.2.2⟩
   clear hB
   go_enter Tryz.func95,Tryz.ntmps95
   go_upto_region 1 with (fail)
   rw [← HW0.out]
   go_wp2_with fail
   exact bodyPost_ret (results_none rfl _ _ _) rfl HF.out
 have b1:W0.cell? ⟨b,1,none⟩=some (.bool false):=by rw [cell_of_row _ _ 1 _ _ _ hA.1];rfl
 clear hA
 by_cases hk1:k=1
 · have ht1 : tx = (⟨(Lib.itoa wd).toArray⟩ : ByteArray).data.toList := by rw [HTX.out]; unfold tK; rw [if_pos hk1]
   have k1:(k==1)=true:=by simp [hk1]
   clear hk1
   go_enter Tryz.func95,Tryz.ntmps95
   go_upto_region 1 with (fail)
   rw [← HW0.out]
   go_wp2_with (first | (go_at_call 51;refine (HPR.out _).mono ?_;rintro e w2 ⟨rfl,hb2⟩))
   have HX2:=Lib.hid (ust_below HX0.out hb2)
   clear hb2
   go_at_call 23
   refine (u_put HX2.out HG.out nu_E _ (itoa_small wd HWD.out)).mono ?_
   rw [← ht1]
   clear ht1
   rintro e w3 ⟨rfl,hx⟩
   have HF:=Lib.hid (ust_done hx)
   clear hx
   go_wp2_with fail
   exact bodyPost_end (results_none rfl _ _ _) rfl HF.out
 have k1:(k==1)=false:=by simp [hk1]
 by_cases hk2:k=2
 · have ht1 : tx = n.data.toList := by rw [HTX.out]; unfold tK; rw [if_neg hk1, if_pos hk2]
   have k2:(k==2)=true:=by simp [hk2]
   clear hk2
   have hsz:n.size≤140737488289792:=by
    have h2:=HNM.out
    rw [k2] at h2
    have:=name_size (show nameB n=true from h2)
    omega
   go_enter Tryz.func95,Tryz.ntmps95
   go_upto_region 1 with (fail)
   rw [← HW0.out]
   go_wp2_with fail
   go_at_call 23
   refine (u_put HX0.out HG.out nu_E _ hsz).mono ?_
   rw [← ht1]
   clear ht1
   rintro e w3 ⟨rfl,hx⟩
   have HF:=Lib.hid (ust_done hx)
   clear hx
   go_wp2_with fail
   exact bodyPost_end (results_none rfl _ _ _) rfl HF.out
 have k2:(k==2)=false:=by simp [hk2]
 by_cases hk3:k=3
 · have k3 : (k == 3) = true := by simp [hk3]
   have hkb:(oneB o&&kid1 ks (rEs ks) d)=true:=by
    have:=HKB.out
    unfold kB at this
    rw [if_neg (by omega),if_pos hk3] at this
    exact this
   simp only [Bool.and_eq_true] at hkb
   have ht1:tx=signOf o++kid1T ks (tEs ks):=by rw [HTX.out];unfold tK;rw [if_neg hk1,if_neg hk2,if_pos hk3]
   obtain ⟨y,rfl⟩:∃ y,ks=[y]:=by
    have:=hkb.2
    match ks,this with
    | [y],_=>exact ⟨y,rfl⟩
   have hry:rE y (d+1+b2i (y.kind==4))=true:=hkb.2
   have ht2:tx=signOf o++kidT (y.kind==4) (tE y):=by
    rw [ht1]
    simp only [tEs,kid1T]
   obtain rfl:m=1:=HM.out
   obtain ⟨kY,oY,wY,nY,ksY,pY⟩:=y
   rcases E1.out with e | ⟨g,q,e,_,e1⟩
   · cases e
   subst e
   obtain ⟨⟨f0,f1,f2,f3,⟨aY,cY,f4,y4⟩,f5⟩,_⟩:=e1
   have lg:=lt_of_at f0
   simp only at lg
   have HLG:Hid (g<b):=by rw [Hid,HB0.out];exact lg
   have HFY:=Lib.hid (And.intro f0 (And.intro f1 (And.intro f2 (And.intro f3 (And.intro f4 f5)))))
   have HINY:Hid (∀ t W,Below b w0 W→Ux b t W→Calls Tryz.prog 131 #[.pointer (some ⟨b,0,none⟩),.agg #[.int .u8 kY,.int .u8 oY,.int .i64 wY,.string nY,.slice aY ksY.length cY,.int .i64 pY],.bool (kY==4)] W (UPut b t (kidT (kY==4) (tE (.mk kY oY wY nY ksY pY))) W)):=fun t W hW hw =>
    u_kid (.mk kY oY wY nY ksY pY) (HI.out _ (.head _)) (kY==4) _ hry HKS.out.1 ⟨aY,cY,rfl,y4⟩ HB0.out hW hw
   change tx=signOf o++kidT (kY==4) (tE (.mk kY oY wY nY ksY pY)) at ht2
   generalize kidT (kY==4) (tE (.mk kY oY wY nY ksY pY))=tY at HINY ht2
   generalize ksY.length=mY at HINY HFY
   have HT2:=Lib.hid ht2
   clear f0 f1 f2 f3 f4 f5 y4 lg ht1 ht2 hry hkb HI HTX HM hk3
   go_enter Tryz.func95,Tryz.ntmps95
   go_upto_region 1 with (fail)
   rw [← HW0.out]
   go_wp2_with (first | (go_at_call 130;refine (HSH.out _).mono ?_;rintro e w2 ⟨rfl,hb2⟩))
   have HX2:=Lib.hid (ust_below HX0.out hb2)
   clear hb2 HX0 HW0 c0 c1 c2 c3 b1
   go_at_call 23
   refine (u_put HX2.out HG.out nu_E _ (sign_small o)).mono ?_
   rintro e w3 ⟨rfl,hx3⟩
   have HX3:=Lib.hid hx3
   clear hx3 HX2
   go_upto_region 12 with (fail)
   have c4:w3.cell? ⟨w.heap.size,4,none⟩=some (.slice (some ⟨g,q,none⟩) 1 cap):=by rw [cell_of_row _ _ 4 _ _ _ HX3.out.1];rfl
   have f0:w3.cell? ⟨g,q,none⟩=some (.int .u8 kY):=(HX3.out.2.2.1.cell (p:=⟨g,q,none⟩) HLG.out).trans HFY.out.1
   have f1:w3.cell? ⟨g,q+1,none⟩=some (.int .u8 oY):=(HX3.out.2.2.1.cell (p:=⟨g,q+1,none⟩) HLG.out).trans HFY.out.2.1
   have f2:w3.cell? ⟨g,q+2,none⟩=some (.int .i64 wY):=(HX3.out.2.2.1.cell (p:=⟨g,q+2,none⟩) HLG.out).trans HFY.out.2.2.1
   have f3:w3.cell? ⟨g,q+3,none⟩=some (.string nY):=(HX3.out.2.2.1.cell (p:=⟨g,q+3,none⟩) HLG.out).trans HFY.out.2.2.2.1
   have f4:w3.cell? ⟨g,q+4,none⟩=some (.slice aY mY cY):=(HX3.out.2.2.1.cell (p:=⟨g,q+4,none⟩) HLG.out).trans HFY.out.2.2.2.2.1
   have f5:w3.cell? ⟨g,q+5,none⟩=some (.int .i64 pY):=(HX3.out.2.2.1.cell (p:=⟨g,q+5,none⟩) HLG.out).trans HFY.out.2.2.2.2.2
   go_wp2_with fail
   go_still_tail 11,(by kernel_rfl)
   change wpList _ _ _ _ _ w3.drew
   clear c4 f0 f1 f2 f3 f4 f5
   have HXD:=Lib.hid (ust_below HX3.out (below_drewN (Below.refl _ w3) 1))
   obtain ⟨W4,hW4⟩:∃ W,W=w3.drew:=⟨_,rfl⟩
   change Hid (Ust _ _ _ _ _ _ _ w3.drew) at HXD
   rw [← hW4] at HXD ⊢
   clear hW4
   go_wp2_with fail
   go_at_call 131
   refine (HINY.out _ _ HXD.out.2.2.1 HXD.out.2.1).mono ?_
   rintro e w8 hp
   obtain ⟨rfl,hx⟩:=ust_put HXD.out HG.out nu_E hp
   have HF:Hid (UPut b txt tx w (.returned (.tuple #[])) w8):=ust_done (by
    rw [HT2.out,← List.append_assoc]
    exact hx)
   clear hx hp
   go_wp2_with fail
   exact bodyPost_end (results_none rfl _ _ _) rfl HF.out
 have k3:(k==3)=false:=by simp [hk3]
 by_cases hk4:k=4
 rotate_left
 · exfalso
   have:=HKB.out
   unfold kB at this
   rw [if_neg (by omega),if_neg hk3,if_neg hk4] at this
   cases this
 have k4:(k==4)=true:=by simp [hk4]
 have hkb:(twoB o&&kid2 o ks (rEs ks) d)=true:=by
  have:=HKB.out
  unfold kB at this
  rw [if_neg (by omega),if_neg hk3,if_pos hk4] at this
  exact this
 simp only [Bool.and_eq_true] at hkb
 have ht1:tx=kid2T o ks (tEs ks):=by rw [HTX.out];unfold tK;rw [if_neg hk1,if_neg hk2,if_neg hk3,if_pos hk4]
 obtain ⟨y,z,rfl⟩:∃ y z,ks=[y,z]:=by
  have:=hkb.2
  match ks,this with
  | [y,z],_=>exact ⟨y,z,rfl⟩
 have hrr:(rE y (d+b2i (wrL o y))&&rE z (d+b2i (wrR o z)))=true:=hkb.2
 simp only [Bool.and_eq_true] at hrr
 have ht2:tx=kidT (wrL o y) (tE y)++([32]++signOf o++[32])++kidT (wrR o z) (tE z):=by
  rw [ht1]
  simp only [tEs,kid2T]
 obtain rfl:m=2:=HM.out
 obtain ⟨kY,oY,wY,nY,ksY,pY⟩:=y
 obtain ⟨kZ,oZ,wZ,nZ,ksZ,pZ⟩:=z
 rcases E1.out with e | ⟨g,q,e,_,e1⟩
 · cases e
 subst e
 obtain ⟨⟨f0,f1,f2,f3,⟨aY,cY,f4,y4⟩,f5⟩,⟨g0,g1,g2,g3,⟨aZ,cZ,g4,z4⟩,g5⟩,_⟩:=e1
 have lg:=lt_of_at f0
 simp only at lg
 have HLG:Hid (g<b):=by rw [Hid,HB0.out];exact lg
 have HFY:=Lib.hid (And.intro f0 (And.intro f1 (And.intro f2 (And.intro f3 (And.intro f4 f5)))))
 have HFZ:=Lib.hid (And.intro g0 (And.intro g1 (And.intro g2 (And.intro g3 (And.intro g4 g5)))))
 have HWRY:Hid (∀ W,Calls Tryz.prog 132 #[.int .u8 o,.agg #[.int .u8 kY,.int .u8 oY,.int .i64 wY,.string nY,.slice aY ksY.length cY,.int .i64 pY],.bool false] W fun e w'=>e=.returned (.bool (wrL o (.mk kY oY wY nY ksY pY)))∧Below W.heap.size W w'):=fun W=>r_inner o (.mk kY oY wY nY ksY pY) false HO.out.1 HKS.out.1.2.1.1 aY cY ksY.length W
 have HWRZ:Hid (∀ W,Calls Tryz.prog 132 #[.int .u8 o,.agg #[.int .u8 kZ,.int .u8 oZ,.int .i64 wZ,.string nZ,.slice aZ ksZ.length cZ,.int .i64 pZ],.bool true] W fun e w'=>e=.returned (.bool (wrR o (.mk kZ oZ wZ nZ ksZ pZ)))∧Below W.heap.size W w'):=fun W=>r_inner o (.mk kZ oZ wZ nZ ksZ pZ) true HO.out.1 HKS.out.2.1.2.1.1 aZ cZ ksZ.length W
 have HINY:Hid (∀ t W,Below b w0 W→Ux b t W→Calls Tryz.prog 131 #[.pointer (some ⟨b,0,none⟩),.agg #[.int .u8 kY,.int .u8 oY,.int .i64 wY,.string nY,.slice aY ksY.length cY,.int .i64 pY],.bool (wrL o (.mk kY oY wY nY ksY pY))] W (UPut b t (kidT (wrL o (.mk kY oY wY nY ksY pY)) (tE (.mk kY oY wY nY ksY pY))) W)):=fun t W hW hw =>
  u_kid (.mk kY oY wY nY ksY pY) (HI.out _ (.head _)) (wrL o (.mk kY oY wY nY ksY pY)) _ hrr.1 HKS.out.1 ⟨aY,cY,rfl,y4⟩ HB0.out hW hw
 have HINZ:Hid (∀ t W,Below b w0 W→Ux b t W→Calls Tryz.prog 131 #[.pointer (some ⟨b,0,none⟩),.agg #[.int .u8 kZ,.int .u8 oZ,.int .i64 wZ,.string nZ,.slice aZ ksZ.length cZ,.int .i64 pZ],.bool (wrR o (.mk kZ oZ wZ nZ ksZ pZ))] W (UPut b t (kidT (wrR o (.mk kZ oZ wZ nZ ksZ pZ)) (tE (.mk kZ oZ wZ nZ ksZ pZ))) W)):=fun t W hW hw =>
  u_kid (.mk kZ oZ wZ nZ ksZ pZ) (HI.out _ (.tail _ (.head _))) (wrR o (.mk kZ oZ wZ nZ ksZ pZ)) _ hrr.2 HKS.out.2.1 ⟨aZ,cZ,rfl,z4⟩ HB0.out hW hw
 generalize kidT (wrL o (.mk kY oY wY nY ksY pY)) (tE (.mk kY oY wY nY ksY pY))=tY at HINY ht2
 generalize kidT (wrR o (.mk kZ oZ wZ nZ ksZ pZ)) (tE (.mk kZ oZ wZ nZ ksZ pZ))=tZ at HINZ ht2
 generalize wrL o (.mk kY oY wY nY ksY pY)=wrY at HWRY HINY
 generalize wrR o (.mk kZ oZ wZ nZ ksZ pZ)=wrZ at HWRZ HINZ
 generalize ksY.length=mY at HWRY HINY HFY
 generalize ksZ.length=mZ at HWRZ HINZ HFZ
 have hss:=sign_len o
 obtain ⟨so,hso⟩:∃ so,so=signOf o:=⟨_,rfl⟩
 rw [← hso] at HSH ht2 hss
 have hsz:(⟨so.toArray⟩:ByteArray).size≤2:=by show so.toArray.size≤2;rw [List.size_toArray];exact hss
 obtain ⟨ss,hs2⟩:∃ ss:ByteArray,ss=⟨so.toArray⟩:=⟨_,rfl⟩
 rw [← hs2] at HSH hsz
 have hs3:ss.data.toList=so:=by rw [hs2]
 rw [← hs3] at ht2
 have HT2:=Lib.hid ht2
 clear f0 f1 f2 f3 f4 f5 y4 g0 g1 g2 g3 g4 g5 z4 lg ht1 ht2 hrr hkb HI HTX HM hk4 hso hs2 hs3 hss
 go_enter Tryz.func95,Tryz.ntmps95
 go_upto_region 1 with (fail)
 rw [← HW0.out]
 go_upto_region 3 with (fail)
 clear HW0 c0 b1 c1 c2 c3
 refine wp_region_held (S:=fun W=>∃ t,Ust w0 w b w.heap.size 59 #[.int .u8 k,.int .u8 o,.int .i64 wd,.string n,.slice (some ⟨g,q,none⟩) 2 cap,.int .i64 ps] t W) (by kernel_rfl) ?_
 change wpAnyH _ _ _ _ _ _ _ _ W0.drew
 have D0:Ust w0 w b w.heap.size 59 #[.int .u8 k,.int .u8 o,.int .i64 wd,.string n,.slice (some ⟨g,q,none⟩) 2 cap,.int .i64 ps] _ W0.drew:=ust_below HX0.out (below_drewN (Below.refl _ W0) 1)
 obtain ⟨wd0,hW⟩:∃ W,W=W0.drew:=⟨_,rfl⟩
 rw [← hW] at D0 ⊢
 clear hW HX0
 have HD0:=Lib.hid D0
 clear D0
 refine dr_take 0 (.pointer (some ⟨b,0,none⟩)) rfl rfl (by kernel_rfl) (by kernel_rfl) (by kernel_rfl) (fun _ _ _ h=>h) (fun _ _=>rfl) ⟨_,HD0.out⟩ ?_
 change wpAnyH _ _ _ _ _ _ _ { tmps:=List.toArray ((.pointer (some ⟨b,0,none⟩))::(.agg #[.int .u8 k,.int .u8 o,.int .i64 wd,.string n,.slice (some ⟨g,q,none⟩) 2 cap,.int .i64 ps])::undef::(.pointer (some ⟨w.heap.size,0,none⟩))::(.pointer (some ⟨b,0,none⟩))::(.pointer (some ⟨b,0,none⟩))::(.pointer (some ⟨b,1,none⟩))::(.bool false)::(.pointer (some ⟨w.heap.size,0,none⟩))::(.int .u8 k)::(.pointer (some ⟨b,0,none⟩))::undef::undef::undef::undef::undef::undef::undef::undef::undef::undef::undef::undef::undef::undef::undef::undef::undef::undef::undef::undef::undef::undef::undef::undef::undef::undef::undef::undef::undef::undef::undef::undef::(.bool false)::(.bool false)::undef::undef::undef::undef::undef::(.bool false)::(.bool false)::undef::undef::undef::undef::(.bool false)::(.bool false)::undef::undef::undef::undef::undef::undef::undef::undef::undef::undef::undef::undef::undef::undef::undef::undef::undef::[]),defers:=[] } _
 refine dr_take 1 (.pointer (some ⟨w.heap.size,4,none⟩)) rfl rfl (by kernel_rfl) (by kernel_rfl) (by kernel_rfl) (fun _ _ _ h=>h) (fun _ _=>by unfold execOp;go_simp) ⟨_,HD0.out⟩ ?_
 change wpAnyH _ _ _ _ _ _ _ { tmps:=List.toArray ((.pointer (some ⟨b,0,none⟩))::(.agg #[.int .u8 k,.int .u8 o,.int .i64 wd,.string n,.slice (some ⟨g,q,none⟩) 2 cap,.int .i64 ps])::undef::(.pointer (some ⟨w.heap.size,0,none⟩))::(.pointer (some ⟨b,0,none⟩))::(.pointer (some ⟨b,0,none⟩))::(.pointer (some ⟨b,1,none⟩))::(.bool false)::(.pointer (some ⟨w.heap.size,0,none⟩))::(.int .u8 k)::(.pointer (some ⟨b,0,none⟩))::(.pointer (some ⟨w.heap.size,4,none⟩))::undef::undef::undef::undef::undef::undef::undef::undef::undef::undef::undef::undef::undef::undef::undef::undef::undef::undef::undef::undef::undef::undef::undef::undef::undef::undef::undef::undef::undef::undef::undef::(.bool false)::(.bool false)::undef::undef::undef::undef::undef::(.bool false)::(.bool false)::undef::undef::undef::undef::(.bool false)::(.bool false)::undef::undef::undef::undef::undef::undef::undef::undef::undef::undef::undef::undef::undef::undef::undef::undef::undef::[]),defers:=[] } _
 refine dr_take 2 (.slice (some ⟨g,q,none⟩) 2 cap) rfl rfl (by kernel_rfl) (by kernel_rfl) (by kernel_rfl) (fun _ _ _ h=>h) (fun W h=>by obtain ⟨_,h⟩:=h;have c4:W.cell? ⟨w.heap.size,4,none⟩=some (.slice (some ⟨g,q,none⟩) 2 cap):=(by rw [cell_of_row _ _ 4 _ _ _ h.1];rfl);unfold execOp;go_simp) ⟨_,HD0.out⟩ ?_
 change wpAnyH _ _ _ _ _ _ _ { tmps:=List.toArray ((.pointer (some ⟨b,0,none⟩))::(.agg #[.int .u8 k,.int .u8 o,.int .i64 wd,.string n,.slice (some ⟨g,q,none⟩) 2 cap,.int .i64 ps])::undef::(.pointer (some ⟨w.heap.size,0,none⟩))::(.pointer (some ⟨b,0,none⟩))::(.pointer (some ⟨b,0,none⟩))::(.pointer (some ⟨b,1,none⟩))::(.bool false)::(.pointer (some ⟨w.heap.size,0,none⟩))::(.int .u8 k)::(.pointer (some ⟨b,0,none⟩))::(.pointer (some ⟨w.heap.size,4,none⟩))::(.slice (some ⟨g,q,none⟩) 2 cap)::undef::undef::undef::undef::undef::undef::undef::undef::undef::undef::undef::undef::undef::undef::undef::undef::undef::undef::undef::undef::undef::undef::undef::undef::undef::undef::undef::undef::undef::undef::(.bool false)::(.bool false)::undef::undef::undef::undef::undef::(.bool false)::(.bool false)::undef::undef::undef::undef::(.bool false)::(.bool false)::undef::undef::undef::undef::undef::undef::undef::undef::undef::undef::undef::undef::undef::undef::undef::undef::undef::[]),defers:=[] } _
 refine dr_take 3 (.pointer (some ⟨g,q,none⟩)) rfl rfl (by kernel_rfl) (by kernel_rfl) (by kernel_rfl) (fun _ _ _ h=>h) (fun _ _=>by unfold execOp;go_simp) ⟨_,HD0.out⟩ ?_
 change wpAnyH _ _ _ _ _ _ _ { tmps:=List.toArray ((.pointer (some ⟨b,0,none⟩))::(.agg #[.int .u8 k,.int .u8 o,.int .i64 wd,.string n,.slice (some ⟨g,q,none⟩) 2 cap,.int .i64 ps])::undef::(.pointer (some ⟨w.heap.size,0,none⟩))::(.pointer (some ⟨b,0,none⟩))::(.pointer (some ⟨b,0,none⟩))::(.pointer (some ⟨b,1,none⟩))::(.bool false)::(.pointer (some ⟨w.heap.size,0,none⟩))::(.int .u8 k)::(.pointer (some ⟨b,0,none⟩))::(.pointer (some ⟨w.heap.size,4,none⟩))::(.slice (some ⟨g,q,none⟩) 2 cap)::(.pointer (some ⟨g,q,none⟩))::undef::undef::undef::undef::undef::undef::undef::undef::undef::undef::undef::undef::undef::undef::undef::undef::undef::undef::undef::undef::undef::undef::undef::undef::undef::undef::undef::undef::undef::(.bool false)::(.bool false)::undef::undef::undef::undef::undef::(.bool false)::(.bool false)::undef::undef::undef::undef::(.bool false)::(.bool false)::undef::undef::undef::undef::undef::undef::undef::undef::undef::undef::undef::undef::undef::undef::undef::undef::undef::[]),defers:=[] } _
 refine dr_take 4 (.agg #[.int .u8 kY,.int .u8 oY,.int .i64 wY,.string nY,.slice aY mY cY,.int .i64 pY]) rfl rfl (by kernel_rfl) (by kernel_rfl) (by kernel_rfl) (fun _ _ _ h=>h) (fun W h=>by obtain ⟨_,h⟩:=h;have f0:W.cell? ⟨g,q,none⟩=some (.int .u8 kY):=(h.2.2.1.cell (p:=⟨g,q,none⟩) HLG.out).trans HFY.out.1;have f1:W.cell? ⟨g,q+1,none⟩=some (.int .u8 oY):=(h.2.2.1.cell (p:=⟨g,q+1,none⟩) HLG.out).trans HFY.out.2.1;have f2:W.cell? ⟨g,q+2,none⟩=some (.int .i64 wY):=(h.2.2.1.cell (p:=⟨g,q+2,none⟩) HLG.out).trans HFY.out.2.2.1;have f3:W.cell? ⟨g,q+3,none⟩=some (.string nY):=(h.2.2.1.cell (p:=⟨g,q+3,none⟩) HLG.out).trans HFY.out.2.2.2.1;have f4:W.cell? ⟨g,q+4,none⟩=some (.slice aY mY cY):=(h.2.2.1.cell (p:=⟨g,q+4,none⟩) HLG.out).trans HFY.out.2.2.2.2.1;have f5:W.cell? ⟨g,q+5,none⟩=some (.int .i64 pY):=(h.2.2.1.cell (p:=⟨g,q+5,none⟩) HLG.out).trans HFY.out.2.2.2.2.2;unfold execOp;go_simp) ⟨_,HD0.out⟩ ?_
 change wpAnyH _ _ _ _ _ _ _ { tmps:=List.toArray ((.pointer (some ⟨b,0,none⟩))::(.agg #[.int .u8 k,.int .u8 o,.int .i64 wd,.string n,.slice (some ⟨g,q,none⟩) 2 cap,.int .i64 ps])::undef::(.pointer (some ⟨w.heap.size,0,none⟩))::(.pointer (some ⟨b,0,none⟩))::(.pointer (some ⟨b,0,none⟩))::(.pointer (some ⟨b,1,none⟩))::(.bool false)::(.pointer (some ⟨w.heap.size,0,none⟩))::(.int .u8 k)::(.pointer (some ⟨b,0,none⟩))::(.pointer (some ⟨w.heap.size,4,none⟩))::(.slice (some ⟨g,q,none⟩) 2 cap)::(.pointer (some ⟨g,q,none⟩))::(.agg #[.int .u8 kY,.int .u8 oY,.int .i64 wY,.string nY,.slice aY mY cY,.int .i64 pY])::undef::undef::undef::undef::undef::undef::undef::undef::undef::undef::undef::undef::undef::undef::undef::undef::undef::undef::undef::undef::undef::undef::undef::undef::undef::undef::undef::undef::(.bool false)::(.bool false)::undef::undef::undef::undef::undef::(.bool false)::(.bool false)::undef::undef::undef::undef::(.bool false)::(.bool false)::undef::undef::undef::undef::undef::undef::undef::undef::undef::undef::undef::undef::undef::undef::undef::undef::undef::[]),defers:=[] } _
 refine dr_take 5 (.pointer (some ⟨w.heap.size,1,none⟩)) rfl rfl (by kernel_rfl) (by kernel_rfl) (by kernel_rfl) (fun _ _ _ h=>h) (fun _ _=>by unfold execOp;go_simp) ⟨_,HD0.out⟩ ?_
 change wpAnyH _ _ _ _ _ _ _ { tmps:=List.toArray ((.pointer (some ⟨b,0,none⟩))::(.agg #[.int .u8 k,.int .u8 o,.int .i64 wd,.string n,.slice (some ⟨g,q,none⟩) 2 cap,.int .i64 ps])::undef::(.pointer (some ⟨w.heap.size,0,none⟩))::(.pointer (some ⟨b,0,none⟩))::(.pointer (some ⟨b,0,none⟩))::(.pointer (some ⟨b,1,none⟩))::(.bool false)::(.pointer (some ⟨w.heap.size,0,none⟩))::(.int .u8 k)::(.pointer (some ⟨b,0,none⟩))::(.pointer (some ⟨w.heap.size,4,none⟩))::(.slice (some ⟨g,q,none⟩) 2 cap)::(.pointer (some ⟨g,q,none⟩))::(.agg #[.int .u8 kY,.int .u8 oY,.int .i64 wY,.string nY,.slice aY mY cY,.int .i64 pY])::(.pointer (some ⟨w.heap.size,1,none⟩))::undef::undef::undef::undef::undef::undef::undef::undef::undef::undef::undef::undef::undef::undef::undef::undef::undef::undef::undef::undef::undef::undef::undef::undef::undef::undef::undef::(.bool false)::(.bool false)::undef::undef::undef::undef::undef::(.bool false)::(.bool false)::undef::undef::undef::undef::(.bool false)::(.bool false)::undef::undef::undef::undef::undef::undef::undef::undef::undef::undef::undef::undef::undef::undef::undef::undef::undef::[]),defers:=[] } _
 refine dr_take 6 (.int .u8 o) rfl rfl (by kernel_rfl) (by kernel_rfl) (by kernel_rfl) (fun _ _ _ h=>h) (fun W h=>by obtain ⟨_,h⟩:=h;have c1:W.cell? ⟨w.heap.size,1,none⟩=some (.int .u8 o):=(by rw [cell_of_row _ _ 1 _ _ _ h.1];rfl);unfold execOp;go_simp) ⟨_,HD0.out⟩ ?_
 change wpAnyH _ _ _ _ _ _ _ { tmps:=List.toArray ((.pointer (some ⟨b,0,none⟩))::(.agg #[.int .u8 k,.int .u8 o,.int .i64 wd,.string n,.slice (some ⟨g,q,none⟩) 2 cap,.int .i64 ps])::undef::(.pointer (some ⟨w.heap.size,0,none⟩))::(.pointer (some ⟨b,0,none⟩))::(.pointer (some ⟨b,0,none⟩))::(.pointer (some ⟨b,1,none⟩))::(.bool false)::(.pointer (some ⟨w.heap.size,0,none⟩))::(.int .u8 k)::(.pointer (some ⟨b,0,none⟩))::(.pointer (some ⟨w.heap.size,4,none⟩))::(.slice (some ⟨g,q,none⟩) 2 cap)::(.pointer (some ⟨g,q,none⟩))::(.agg #[.int .u8 kY,.int .u8 oY,.int .i64 wY,.string nY,.slice aY mY cY,.int .i64 pY])::(.pointer (some ⟨w.heap.size,1,none⟩))::(.int .u8 o)::undef::undef::undef::undef::undef::undef::undef::undef::undef::undef::undef::undef::undef::undef::undef::undef::undef::undef::undef::undef::undef::undef::undef::undef::undef::undef::(.bool false)::(.bool false)::undef::undef::undef::undef::undef::(.bool false)::(.bool false)::undef::undef::undef::undef::(.bool false)::(.bool false)::undef::undef::undef::undef::undef::undef::undef::undef::undef::undef::undef::undef::undef::undef::undef::undef::undef::[]),defers:=[] } _
 refine dr_take 7 (.pointer (some ⟨w.heap.size,4,none⟩)) rfl rfl (by kernel_rfl) (by kernel_rfl) (by kernel_rfl) (fun _ _ _ h=>h) (fun _ _=>by unfold execOp;go_simp) ⟨_,HD0.out⟩ ?_
 change wpAnyH _ _ _ _ _ _ _ { tmps:=List.toArray ((.pointer (some ⟨b,0,none⟩))::(.agg #[.int .u8 k,.int .u8 o,.int .i64 wd,.string n,.slice (some ⟨g,q,none⟩) 2 cap,.int .i64 ps])::undef::(.pointer (some ⟨w.heap.size,0,none⟩))::(.pointer (some ⟨b,0,none⟩))::(.pointer (some ⟨b,0,none⟩))::(.pointer (some ⟨b,1,none⟩))::(.bool false)::(.pointer (some ⟨w.heap.size,0,none⟩))::(.int .u8 k)::(.pointer (some ⟨b,0,none⟩))::(.pointer (some ⟨w.heap.size,4,none⟩))::(.slice (some ⟨g,q,none⟩) 2 cap)::(.pointer (some ⟨g,q,none⟩))::(.agg #[.int .u8 kY,.int .u8 oY,.int .i64 wY,.string nY,.slice aY mY cY,.int .i64 pY])::(.pointer (some ⟨w.heap.size,1,none⟩))::(.int .u8 o)::(.pointer (some ⟨w.heap.size,4,none⟩))::undef::undef::undef::undef::undef::undef::undef::undef::undef::undef::undef::undef::undef::undef::undef::undef::undef::undef::undef::undef::undef::undef::undef::undef::undef::(.bool false)::(.bool false)::undef::undef::undef::undef::undef::(.bool false)::(.bool false)::undef::undef::undef::undef::(.bool false)::(.bool false)::undef::undef::undef::undef::undef::undef::undef::undef::undef::undef::undef::undef::undef::undef::undef::undef::undef::[]),defers:=[] } _
 refine dr_take 8 (.slice (some ⟨g,q,none⟩) 2 cap) rfl rfl (by kernel_rfl) (by kernel_rfl) (by kernel_rfl) (fun _ _ _ h=>h) (fun W h=>by obtain ⟨_,h⟩:=h;have c4:W.cell? ⟨w.heap.size,4,none⟩=some (.slice (some ⟨g,q,none⟩) 2 cap):=(by rw [cell_of_row _ _ 4 _ _ _ h.1];rfl);unfold execOp;go_simp) ⟨_,HD0.out⟩ ?_
 change wpAnyH _ _ _ _ _ _ _ { tmps:=List.toArray ((.pointer (some ⟨b,0,none⟩))::(.agg #[.int .u8 k,.int .u8 o,.int .i64 wd,.string n,.slice (some ⟨g,q,none⟩) 2 cap,.int .i64 ps])::undef::(.pointer (some ⟨w.heap.size,0,none⟩))::(.pointer (some ⟨b,0,none⟩))::(.pointer (some ⟨b,0,none⟩))::(.pointer (some ⟨b,1,none⟩))::(.bool false)::(.pointer (some ⟨w.heap.size,0,none⟩))::(.int .u8 k)::(.pointer (some ⟨b,0,none⟩))::(.pointer (some ⟨w.heap.size,4,none⟩))::(.slice (some ⟨g,q,none⟩) 2 cap)::(.pointer (some ⟨g,q,none⟩))::(.agg #[.int .u8 kY,.int .u8 oY,.int .i64 wY,.string nY,.slice aY mY cY,.int .i64 pY])::(.pointer (some ⟨w.heap.size,1,none⟩))::(.int .u8 o)::(.pointer (some ⟨w.heap.size,4,none⟩))::(.slice (some ⟨g,q,none⟩) 2 cap)::undef::undef::undef::undef::undef::undef::undef::undef::undef::undef::undef::undef::undef::undef::undef::undef::undef::undef::undef::undef::undef::undef::undef::undef::(.bool false)::(.bool false)::undef::undef::undef::undef::undef::(.bool false)::(.bool false)::undef::undef::undef::undef::(.bool false)::(.bool false)::undef::undef::undef::undef::undef::undef::undef::undef::undef::undef::undef::undef::undef::undef::undef::undef::undef::[]),defers:=[] } _
 refine dr_take 9 (.pointer (some ⟨g,q,none⟩)) rfl rfl (by kernel_rfl) (by kernel_rfl) (by kernel_rfl) (fun _ _ _ h=>h) (fun _ _=>by unfold execOp;go_simp) ⟨_,HD0.out⟩ ?_
 change wpAnyH _ _ _ _ _ _ _ { tmps:=List.toArray ((.pointer (some ⟨b,0,none⟩))::(.agg #[.int .u8 k,.int .u8 o,.int .i64 wd,.string n,.slice (some ⟨g,q,none⟩) 2 cap,.int .i64 ps])::undef::(.pointer (some ⟨w.heap.size,0,none⟩))::(.pointer (some ⟨b,0,none⟩))::(.pointer (some ⟨b,0,none⟩))::(.pointer (some ⟨b,1,none⟩))::(.bool false)::(.pointer (some ⟨w.heap.size,0,none⟩))::(.int .u8 k)::(.pointer (some ⟨b,0,none⟩))::(.pointer (some ⟨w.heap.size,4,none⟩))::(.slice (some ⟨g,q,none⟩) 2 cap)::(.pointer (some ⟨g,q,none⟩))::(.agg #[.int .u8 kY,.int .u8 oY,.int .i64 wY,.string nY,.slice aY mY cY,.int .i64 pY])::(.pointer (some ⟨w.heap.size,1,none⟩))::(.int .u8 o)::(.pointer (some ⟨w.heap.size,4,none⟩))::(.slice (some ⟨g,q,none⟩) 2 cap)::(.pointer (some ⟨g,q,none⟩))::undef::undef::undef::undef::undef::undef::undef::undef::undef::undef::undef::undef::undef::undef::undef::undef::undef::undef::undef::undef::undef::undef::undef::(.bool false)::(.bool false)::undef::undef::undef::undef::undef::(.bool false)::(.bool false)::undef::undef::undef::undef::(.bool false)::(.bool false)::undef::undef::undef::undef::undef::undef::undef::undef::undef::undef::undef::undef::undef::undef::undef::undef::undef::[]),defers:=[] } _
 refine dr_take 10 (.agg #[.int .u8 kY,.int .u8 oY,.int .i64 wY,.string nY,.slice aY mY cY,.int .i64 pY]) rfl rfl (by kernel_rfl) (by kernel_rfl) (by kernel_rfl) (fun _ _ _ h=>h) (fun W h=>by obtain ⟨_,h⟩:=h;have f0:W.cell? ⟨g,q,none⟩=some (.int .u8 kY):=(h.2.2.1.cell (p:=⟨g,q,none⟩) HLG.out).trans HFY.out.1;have f1:W.cell? ⟨g,q+1,none⟩=some (.int .u8 oY):=(h.2.2.1.cell (p:=⟨g,q+1,none⟩) HLG.out).trans HFY.out.2.1;have f2:W.cell? ⟨g,q+2,none⟩=some (.int .i64 wY):=(h.2.2.1.cell (p:=⟨g,q+2,none⟩) HLG.out).trans HFY.out.2.2.1;have f3:W.cell? ⟨g,q+3,none⟩=some (.string nY):=(h.2.2.1.cell (p:=⟨g,q+3,none⟩) HLG.out).trans HFY.out.2.2.2.1;have f4:W.cell? ⟨g,q+4,none⟩=some (.slice aY mY cY):=(h.2.2.1.cell (p:=⟨g,q+4,none⟩) HLG.out).trans HFY.out.2.2.2.2.1;have f5:W.cell? ⟨g,q+5,none⟩=some (.int .i64 pY):=(h.2.2.1.cell (p:=⟨g,q+5,none⟩) HLG.out).trans HFY.out.2.2.2.2.2;unfold execOp;go_simp) ⟨_,HD0.out⟩ ?_
 change wpAnyH _ _ _ _ _ _ _ { tmps:=List.toArray ((.pointer (some ⟨b,0,none⟩))::(.agg #[.int .u8 k,.int .u8 o,.int .i64 wd,.string n,.slice (some ⟨g,q,none⟩) 2 cap,.int .i64 ps])::undef::(.pointer (some ⟨w.heap.size,0,none⟩))::(.pointer (some ⟨b,0,none⟩))::(.pointer (some ⟨b,0,none⟩))::(.pointer (some ⟨b,1,none⟩))::(.bool false)::(.pointer (some ⟨w.heap.size,0,none⟩))::(.int .u8 k)::(.pointer (some ⟨b,0,none⟩))::(.pointer (some ⟨w.heap.size,4,none⟩))::(.slice (some ⟨g,q,none⟩) 2 cap)::(.pointer (some ⟨g,q,none⟩))::(.agg #[.int .u8 kY,.int .u8 oY,.int .i64 wY,.string nY,.slice aY mY cY,.int .i64 pY])::(.pointer (some ⟨w.heap.size,1,none⟩))::(.int .u8 o)::(.pointer (some ⟨w.heap.size,4,none⟩))::(.slice (some ⟨g,q,none⟩) 2 cap)::(.pointer (some ⟨g,q,none⟩))::(.agg #[.int .u8 kY,.int .u8 oY,.int .i64 wY,.string nY,.slice aY mY cY,.int .i64 pY])::undef::undef::undef::undef::undef::undef::undef::undef::undef::undef::undef::undef::undef::undef::undef::undef::undef::undef::undef::undef::undef::undef::(.bool false)::(.bool false)::undef::undef::undef::undef::undef::(.bool false)::(.bool false)::undef::undef::undef::undef::(.bool false)::(.bool false)::undef::undef::undef::undef::undef::undef::undef::undef::undef::undef::undef::undef::undef::undef::undef::undef::undef::[]),defers:=[] } _
 refine dr_one 11 rfl rfl (by kernel_rfl) ?_
 refine wp_call (vs:=#[.int .u8 o,.agg #[.int .u8 kY,.int .u8 oY,.int .i64 wY,.string nY,.slice aY mY cY,.int .i64 pY],.bool false]) rfl rfl (enters_of Tryz.func132 (by kernel_rfl) rfl) (by simp [Act.eval]) (HWRY.out _) ?_
 rintro e w6 ⟨rfl,hb6⟩
 have HD6:=Lib.hid (ust_below HD0.out hb6)
 clear hb6 HD0
 refine ⟨⟨_,HD6.out⟩,?_⟩
 change wpAnyH _ _ _ _ _ _ _ { tmps:=List.toArray ((.pointer (some ⟨b,0,none⟩))::(.agg #[.int .u8 k,.int .u8 o,.int .i64 wd,.string n,.slice (some ⟨g,q,none⟩) 2 cap,.int .i64 ps])::undef::(.pointer (some ⟨w.heap.size,0,none⟩))::(.pointer (some ⟨b,0,none⟩))::(.pointer (some ⟨b,0,none⟩))::(.pointer (some ⟨b,1,none⟩))::(.bool false)::(.pointer (some ⟨w.heap.size,0,none⟩))::(.int .u8 k)::(.pointer (some ⟨b,0,none⟩))::(.pointer (some ⟨w.heap.size,4,none⟩))::(.slice (some ⟨g,q,none⟩) 2 cap)::(.pointer (some ⟨g,q,none⟩))::(.agg #[.int .u8 kY,.int .u8 oY,.int .i64 wY,.string nY,.slice aY mY cY,.int .i64 pY])::(.pointer (some ⟨w.heap.size,1,none⟩))::(.int .u8 o)::(.pointer (some ⟨w.heap.size,4,none⟩))::(.slice (some ⟨g,q,none⟩) 2 cap)::(.pointer (some ⟨g,q,none⟩))::(.agg #[.int .u8 kY,.int .u8 oY,.int .i64 wY,.string nY,.slice aY mY cY,.int .i64 pY])::(.bool wrY)::undef::undef::undef::undef::undef::undef::undef::undef::undef::undef::undef::undef::undef::undef::undef::undef::undef::undef::undef::undef::undef::(.bool false)::(.bool false)::undef::undef::undef::undef::undef::(.bool false)::(.bool false)::undef::undef::undef::undef::(.bool false)::(.bool false)::undef::undef::undef::undef::undef::undef::undef::undef::undef::undef::undef::undef::undef::undef::undef::undef::undef::[]),defers:=[] } _
 refine dr_one 12 rfl rfl (by kernel_rfl) ?_
 refine wp_call (vs:=#[.pointer (some ⟨b,0,none⟩),.agg #[.int .u8 kY,.int .u8 oY,.int .i64 wY,.string nY,.slice aY mY cY,.int .i64 pY],.bool wrY]) rfl rfl (enters_of Tryz.func131 (by kernel_rfl) rfl) (by simp [Act.eval]) (HINY.out _ _ HD6.out.2.2.1 HD6.out.2.1) ?_
 rintro e w8 hp
 obtain ⟨rfl,hx⟩:=ust_put HD6.out HG.out nu_E hp
 have HXK:=Lib.hid hx
 clear hx hp HD6
 refine ⟨⟨_,HXK.out⟩,?_⟩
 refine wpAnyH_done (by kernel_rfl) ?_ _
 have c1:w8.cell? ⟨w.heap.size,1,none⟩=some (.int .u8 o):=by rw [cell_of_row _ _ 1 _ _ _ HXK.out.1];rfl
 go_wp2_with (first | (go_at_call 130;refine (HSH.out _).mono ?_;rintro e w2 ⟨rfl,hb2⟩))
 have HX4:=Lib.hid (ust_below HXK.out hb2)
 clear hb2 HXK c1
 go_at_call 23
 refine (u_put HX4.out HG.out nu_E _ (by simp only [ByteArray.size_append];show 1+ss.size+1≤_;omega)).mono ?_
 rintro e w5 ⟨rfl,hx5⟩
 have HX5:Hid (Ust w0 w b w.heap.size 59 #[.int .u8 k,.int .u8 o,.int .i64 wd,.string n,.slice (some ⟨g,q,none⟩) 2 cap,.int .i64 ps] (txt++tY++([32]++ss.data.toList++[32])) w5):=by
  have h:=hx5
  simp only [ByteArray.data_append,Array.toList_append] at h
  exact h
 clear hx5 HX4
 go_upto_region 5 with (fail)
 refine wp_region_held (S:=fun W=>∃ t,Ust w0 w b w.heap.size 59 #[.int .u8 k,.int .u8 o,.int .i64 wd,.string n,.slice (some ⟨g,q,none⟩) 2 cap,.int .i64 ps] t W) (by kernel_rfl) ?_
 change wpAnyH _ _ _ _ _ _ _ _ w5.drew
 have D0:Ust w0 w b w.heap.size 59 #[.int .u8 k,.int .u8 o,.int .i64 wd,.string n,.slice (some ⟨g,q,none⟩) 2 cap,.int .i64 ps] _ w5.drew:=ust_below HX5.out (below_drewN (Below.refl _ w5) 1)
 obtain ⟨wd5,hW⟩:∃ W,W=w5.drew:=⟨_,rfl⟩
 rw [← hW] at D0 ⊢
 clear hW HX5
 have HD0:=Lib.hid D0
 clear D0
 refine dr_take 0 (.pointer (some ⟨b,0,none⟩)) rfl rfl (by kernel_rfl) (by kernel_rfl) (by kernel_rfl) (fun _ _ _ h=>h) (fun _ _=>rfl) ⟨_,HD0.out⟩ ?_
 change wpAnyH _ _ _ _ _ _ _ { tmps:=List.toArray ((.pointer (some ⟨b,0,none⟩))::(.agg #[.int .u8 k,.int .u8 o,.int .i64 wd,.string n,.slice (some ⟨g,q,none⟩) 2 cap,.int .i64 ps])::undef::(.pointer (some ⟨w.heap.size,0,none⟩))::(.pointer (some ⟨b,0,none⟩))::(.pointer (some ⟨b,0,none⟩))::(.pointer (some ⟨b,1,none⟩))::(.bool false)::(.pointer (some ⟨w.heap.size,0,none⟩))::(.int .u8 k)::(.pointer (some ⟨b,0,none⟩))::(.pointer (some ⟨w.heap.size,4,none⟩))::(.slice (some ⟨g,q,none⟩) 2 cap)::(.pointer (some ⟨g,q,none⟩))::(.agg #[.int .u8 kY,.int .u8 oY,.int .i64 wY,.string nY,.slice aY mY cY,.int .i64 pY])::(.pointer (some ⟨w.heap.size,1,none⟩))::(.int .u8 o)::(.pointer (some ⟨w.heap.size,4,none⟩))::(.slice (some ⟨g,q,none⟩) 2 cap)::(.pointer (some ⟨g,q,none⟩))::(.agg #[.int .u8 kY,.int .u8 oY,.int .i64 wY,.string nY,.slice aY mY cY,.int .i64 pY])::(.bool wrY)::(.tuple #[])::(.pointer (some ⟨b,0,none⟩))::(.pointer (some ⟨w.heap.size,1,none⟩))::(.int .u8 o)::(.string ss)::(.string (⟨#[32]⟩++ss))::(.string (⟨#[32]⟩++ss++⟨#[32]⟩))::(.tuple #[])::(.pointer (some ⟨b,0,none⟩))::undef::undef::undef::undef::undef::undef::undef::undef::undef::undef::undef::undef::(.bool false)::(.bool false)::undef::undef::undef::undef::undef::(.bool false)::(.bool false)::undef::undef::undef::undef::(.bool false)::(.bool false)::undef::undef::undef::undef::undef::undef::undef::undef::undef::undef::undef::undef::undef::undef::undef::undef::undef::[]),defers:=[] } _
 refine dr_take 1 (.pointer (some ⟨w.heap.size,4,none⟩)) rfl rfl (by kernel_rfl) (by kernel_rfl) (by kernel_rfl) (fun _ _ _ h=>h) (fun _ _=>by unfold execOp;go_simp) ⟨_,HD0.out⟩ ?_
 change wpAnyH _ _ _ _ _ _ _ { tmps:=List.toArray ((.pointer (some ⟨b,0,none⟩))::(.agg #[.int .u8 k,.int .u8 o,.int .i64 wd,.string n,.slice (some ⟨g,q,none⟩) 2 cap,.int .i64 ps])::undef::(.pointer (some ⟨w.heap.size,0,none⟩))::(.pointer (some ⟨b,0,none⟩))::(.pointer (some ⟨b,0,none⟩))::(.pointer (some ⟨b,1,none⟩))::(.bool false)::(.pointer (some ⟨w.heap.size,0,none⟩))::(.int .u8 k)::(.pointer (some ⟨b,0,none⟩))::(.pointer (some ⟨w.heap.size,4,none⟩))::(.slice (some ⟨g,q,none⟩) 2 cap)::(.pointer (some ⟨g,q,none⟩))::(.agg #[.int .u8 kY,.int .u8 oY,.int .i64 wY,.string nY,.slice aY mY cY,.int .i64 pY])::(.pointer (some ⟨w.heap.size,1,none⟩))::(.int .u8 o)::(.pointer (some ⟨w.heap.size,4,none⟩))::(.slice (some ⟨g,q,none⟩) 2 cap)::(.pointer (some ⟨g,q,none⟩))::(.agg #[.int .u8 kY,.int .u8 oY,.int .i64 wY,.string nY,.slice aY mY cY,.int .i64 pY])::(.bool wrY)::(.tuple #[])::(.pointer (some ⟨b,0,none⟩))::(.pointer (some ⟨w.heap.size,1,none⟩))::(.int .u8 o)::(.string ss)::(.string (⟨#[32]⟩++ss))::(.string (⟨#[32]⟩++ss++⟨#[32]⟩))::(.tuple #[])::(.pointer (some ⟨b,0,none⟩))::(.pointer (some ⟨w.heap.size,4,none⟩))::undef::undef::undef::undef::undef::undef::undef::undef::undef::undef::undef::(.bool false)::(.bool false)::undef::undef::undef::undef::undef::(.bool false)::(.bool false)::undef::undef::undef::undef::(.bool false)::(.bool false)::undef::undef::undef::undef::undef::undef::undef::undef::undef::undef::undef::undef::undef::undef::undef::undef::undef::[]),defers:=[] } _
 refine dr_take 2 (.slice (some ⟨g,q,none⟩) 2 cap) rfl rfl (by kernel_rfl) (by kernel_rfl) (by kernel_rfl) (fun _ _ _ h=>h) (fun W h=>by obtain ⟨_,h⟩:=h;have c4:W.cell? ⟨w.heap.size,4,none⟩=some (.slice (some ⟨g,q,none⟩) 2 cap):=(by rw [cell_of_row _ _ 4 _ _ _ h.1];rfl);unfold execOp;go_simp) ⟨_,HD0.out⟩ ?_
 change wpAnyH _ _ _ _ _ _ _ { tmps:=List.toArray ((.pointer (some ⟨b,0,none⟩))::(.agg #[.int .u8 k,.int .u8 o,.int .i64 wd,.string n,.slice (some ⟨g,q,none⟩) 2 cap,.int .i64 ps])::undef::(.pointer (some ⟨w.heap.size,0,none⟩))::(.pointer (some ⟨b,0,none⟩))::(.pointer (some ⟨b,0,none⟩))::(.pointer (some ⟨b,1,none⟩))::(.bool false)::(.pointer (some ⟨w.heap.size,0,none⟩))::(.int .u8 k)::(.pointer (some ⟨b,0,none⟩))::(.pointer (some ⟨w.heap.size,4,none⟩))::(.slice (some ⟨g,q,none⟩) 2 cap)::(.pointer (some ⟨g,q,none⟩))::(.agg #[.int .u8 kY,.int .u8 oY,.int .i64 wY,.string nY,.slice aY mY cY,.int .i64 pY])::(.pointer (some ⟨w.heap.size,1,none⟩))::(.int .u8 o)::(.pointer (some ⟨w.heap.size,4,none⟩))::(.slice (some ⟨g,q,none⟩) 2 cap)::(.pointer (some ⟨g,q,none⟩))::(.agg #[.int .u8 kY,.int .u8 oY,.int .i64 wY,.string nY,.slice aY mY cY,.int .i64 pY])::(.bool wrY)::(.tuple #[])::(.pointer (some ⟨b,0,none⟩))::(.pointer (some ⟨w.heap.size,1,none⟩))::(.int .u8 o)::(.string ss)::(.string (⟨#[32]⟩++ss))::(.string (⟨#[32]⟩++ss++⟨#[32]⟩))::(.tuple #[])::(.pointer (some ⟨b,0,none⟩))::(.pointer (some ⟨w.heap.size,4,none⟩))::(.slice (some ⟨g,q,none⟩) 2 cap)::undef::undef::undef::undef::undef::undef::undef::undef::undef::undef::(.bool false)::(.bool false)::undef::undef::undef::undef::undef::(.bool false)::(.bool false)::undef::undef::undef::undef::(.bool false)::(.bool false)::undef::undef::undef::undef::undef::undef::undef::undef::undef::undef::undef::undef::undef::undef::undef::undef::undef::[]),defers:=[] } _
 refine dr_take 3 (.pointer (some ⟨g,q+6,none⟩)) rfl rfl (by kernel_rfl) (by kernel_rfl) (by kernel_rfl) (fun _ _ _ h=>h) (fun _ _=>by unfold execOp;go_simp) ⟨_,HD0.out⟩ ?_
 change wpAnyH _ _ _ _ _ _ _ { tmps:=List.toArray ((.pointer (some ⟨b,0,none⟩))::(.agg #[.int .u8 k,.int .u8 o,.int .i64 wd,.string n,.slice (some ⟨g,q,none⟩) 2 cap,.int .i64 ps])::undef::(.pointer (some ⟨w.heap.size,0,none⟩))::(.pointer (some ⟨b,0,none⟩))::(.pointer (some ⟨b,0,none⟩))::(.pointer (some ⟨b,1,none⟩))::(.bool false)::(.pointer (some ⟨w.heap.size,0,none⟩))::(.int .u8 k)::(.pointer (some ⟨b,0,none⟩))::(.pointer (some ⟨w.heap.size,4,none⟩))::(.slice (some ⟨g,q,none⟩) 2 cap)::(.pointer (some ⟨g,q,none⟩))::(.agg #[.int .u8 kY,.int .u8 oY,.int .i64 wY,.string nY,.slice aY mY cY,.int .i64 pY])::(.pointer (some ⟨w.heap.size,1,none⟩))::(.int .u8 o)::(.pointer (some ⟨w.heap.size,4,none⟩))::(.slice (some ⟨g,q,none⟩) 2 cap)::(.pointer (some ⟨g,q,none⟩))::(.agg #[.int .u8 kY,.int .u8 oY,.int .i64 wY,.string nY,.slice aY mY cY,.int .i64 pY])::(.bool wrY)::(.tuple #[])::(.pointer (some ⟨b,0,none⟩))::(.pointer (some ⟨w.heap.size,1,none⟩))::(.int .u8 o)::(.string ss)::(.string (⟨#[32]⟩++ss))::(.string (⟨#[32]⟩++ss++⟨#[32]⟩))::(.tuple #[])::(.pointer (some ⟨b,0,none⟩))::(.pointer (some ⟨w.heap.size,4,none⟩))::(.slice (some ⟨g,q,none⟩) 2 cap)::(.pointer (some ⟨g,q+6,none⟩))::undef::undef::undef::undef::undef::undef::undef::undef::undef::(.bool false)::(.bool false)::undef::undef::undef::undef::undef::(.bool false)::(.bool false)::undef::undef::undef::undef::(.bool false)::(.bool false)::undef::undef::undef::undef::undef::undef::undef::undef::undef::undef::undef::undef::undef::undef::undef::undef::undef::[]),defers:=[] } _
 refine dr_take 4 (.agg #[.int .u8 kZ,.int .u8 oZ,.int .i64 wZ,.string nZ,.slice aZ mZ cZ,.int .i64 pZ]) rfl rfl (by kernel_rfl) (by kernel_rfl) (by kernel_rfl) (fun _ _ _ h=>h) (fun W h=>by obtain ⟨_,h⟩:=h;have f0:W.cell? ⟨g,q+6,none⟩=some (.int .u8 kZ):=(h.2.2.1.cell (p:=⟨g,q+6,none⟩) HLG.out).trans HFZ.out.1;have f1:W.cell? ⟨g,q+7,none⟩=some (.int .u8 oZ):=(h.2.2.1.cell (p:=⟨g,q+7,none⟩) HLG.out).trans HFZ.out.2.1;have f2:W.cell? ⟨g,q+8,none⟩=some (.int .i64 wZ):=(h.2.2.1.cell (p:=⟨g,q+8,none⟩) HLG.out).trans HFZ.out.2.2.1;have f3:W.cell? ⟨g,q+9,none⟩=some (.string nZ):=(h.2.2.1.cell (p:=⟨g,q+9,none⟩) HLG.out).trans HFZ.out.2.2.2.1;have f4:W.cell? ⟨g,q+10,none⟩=some (.slice aZ mZ cZ):=(h.2.2.1.cell (p:=⟨g,q+10,none⟩) HLG.out).trans HFZ.out.2.2.2.2.1;have f5:W.cell? ⟨g,q+11,none⟩=some (.int .i64 pZ):=(h.2.2.1.cell (p:=⟨g,q+11,none⟩) HLG.out).trans HFZ.out.2.2.2.2.2;unfold execOp;go_simp) ⟨_,HD0.out⟩ ?_
 change wpAnyH _ _ _ _ _ _ _ { tmps:=List.toArray ((.pointer (some ⟨b,0,none⟩))::(.agg #[.int .u8 k,.int .u8 o,.int .i64 wd,.string n,.slice (some ⟨g,q,none⟩) 2 cap,.int .i64 ps])::undef::(.pointer (some ⟨w.heap.size,0,none⟩))::(.pointer (some ⟨b,0,none⟩))::(.pointer (some ⟨b,0,none⟩))::(.pointer (some ⟨b,1,none⟩))::(.bool false)::(.pointer (some ⟨w.heap.size,0,none⟩))::(.int .u8 k)::(.pointer (some ⟨b,0,none⟩))::(.pointer (some ⟨w.heap.size,4,none⟩))::(.slice (some ⟨g,q,none⟩) 2 cap)::(.pointer (some ⟨g,q,none⟩))::(.agg #[.int .u8 kY,.int .u8 oY,.int .i64 wY,.string nY,.slice aY mY cY,.int .i64 pY])::(.pointer (some ⟨w.heap.size,1,none⟩))::(.int .u8 o)::(.pointer (some ⟨w.heap.size,4,none⟩))::(.slice (some ⟨g,q,none⟩) 2 cap)::(.pointer (some ⟨g,q,none⟩))::(.agg #[.int .u8 kY,.int .u8 oY,.int .i64 wY,.string nY,.slice aY mY cY,.int .i64 pY])::(.bool wrY)::(.tuple #[])::(.pointer (some ⟨b,0,none⟩))::(.pointer (some ⟨w.heap.size,1,none⟩))::(.int .u8 o)::(.string ss)::(.string (⟨#[32]⟩++ss))::(.string (⟨#[32]⟩++ss++⟨#[32]⟩))::(.tuple #[])::(.pointer (some ⟨b,0,none⟩))::(.pointer (some ⟨w.heap.size,4,none⟩))::(.slice (some ⟨g,q,none⟩) 2 cap)::(.pointer (some ⟨g,q+6,none⟩))::(.agg #[.int .u8 kZ,.int .u8 oZ,.int .i64 wZ,.string nZ,.slice aZ mZ cZ,.int .i64 pZ])::undef::undef::undef::undef::undef::undef::undef::undef::(.bool false)::(.bool false)::undef::undef::undef::undef::undef::(.bool false)::(.bool false)::undef::undef::undef::undef::(.bool false)::(.bool false)::undef::undef::undef::undef::undef::undef::undef::undef::undef::undef::undef::undef::undef::undef::undef::undef::undef::[]),defers:=[] } _
 refine dr_take 5 (.pointer (some ⟨w.heap.size,1,none⟩)) rfl rfl (by kernel_rfl) (by kernel_rfl) (by kernel_rfl) (fun _ _ _ h=>h) (fun _ _=>by unfold execOp;go_simp) ⟨_,HD0.out⟩ ?_
 change wpAnyH _ _ _ _ _ _ _ { tmps:=List.toArray ((.pointer (some ⟨b,0,none⟩))::(.agg #[.int .u8 k,.int .u8 o,.int .i64 wd,.string n,.slice (some ⟨g,q,none⟩) 2 cap,.int .i64 ps])::undef::(.pointer (some ⟨w.heap.size,0,none⟩))::(.pointer (some ⟨b,0,none⟩))::(.pointer (some ⟨b,0,none⟩))::(.pointer (some ⟨b,1,none⟩))::(.bool false)::(.pointer (some ⟨w.heap.size,0,none⟩))::(.int .u8 k)::(.pointer (some ⟨b,0,none⟩))::(.pointer (some ⟨w.heap.size,4,none⟩))::(.slice (some ⟨g,q,none⟩) 2 cap)::(.pointer (some ⟨g,q,none⟩))::(.agg #[.int .u8 kY,.int .u8 oY,.int .i64 wY,.string nY,.slice aY mY cY,.int .i64 pY])::(.pointer (some ⟨w.heap.size,1,none⟩))::(.int .u8 o)::(.pointer (some ⟨w.heap.size,4,none⟩))::(.slice (some ⟨g,q,none⟩) 2 cap)::(.pointer (some ⟨g,q,none⟩))::(.agg #[.int .u8 kY,.int .u8 oY,.int .i64 wY,.string nY,.slice aY mY cY,.int .i64 pY])::(.bool wrY)::(.tuple #[])::(.pointer (some ⟨b,0,none⟩))::(.pointer (some ⟨w.heap.size,1,none⟩))::(.int .u8 o)::(.string ss)::(.string (⟨#[32]⟩++ss))::(.string (⟨#[32]⟩++ss++⟨#[32]⟩))::(.tuple #[])::(.pointer (some ⟨b,0,none⟩))::(.pointer (some ⟨w.heap.size,4,none⟩))::(.slice (some ⟨g,q,none⟩) 2 cap)::(.pointer (some ⟨g,q+6,none⟩))::(.agg #[.int .u8 kZ,.int .u8 oZ,.int .i64 wZ,.string nZ,.slice aZ mZ cZ,.int .i64 pZ])::(.pointer (some ⟨w.heap.size,1,none⟩))::undef::undef::undef::undef::undef::undef::undef::(.bool false)::(.bool false)::undef::undef::undef::undef::undef::(.bool false)::(.bool false)::undef::undef::undef::undef::(.bool false)::(.bool false)::undef::undef::undef::undef::undef::undef::undef::undef::undef::undef::undef::undef::undef::undef::undef::undef::undef::[]),defers:=[] } _
 refine dr_take 6 (.int .u8 o) rfl rfl (by kernel_rfl) (by kernel_rfl) (by kernel_rfl) (fun _ _ _ h=>h) (fun W h=>by obtain ⟨_,h⟩:=h;have c1:W.cell? ⟨w.heap.size,1,none⟩=some (.int .u8 o):=(by rw [cell_of_row _ _ 1 _ _ _ h.1];rfl);unfold execOp;go_simp) ⟨_,HD0.out⟩ ?_
 change wpAnyH _ _ _ _ _ _ _ { tmps:=List.toArray ((.pointer (some ⟨b,0,none⟩))::(.agg #[.int .u8 k,.int .u8 o,.int .i64 wd,.string n,.slice (some ⟨g,q,none⟩) 2 cap,.int .i64 ps])::undef::(.pointer (some ⟨w.heap.size,0,none⟩))::(.pointer (some ⟨b,0,none⟩))::(.pointer (some ⟨b,0,none⟩))::(.pointer (some ⟨b,1,none⟩))::(.bool false)::(.pointer (some ⟨w.heap.size,0,none⟩))::(.int .u8 k)::(.pointer (some ⟨b,0,none⟩))::(.pointer (some ⟨w.heap.size,4,none⟩))::(.slice (some ⟨g,q,none⟩) 2 cap)::(.pointer (some ⟨g,q,none⟩))::(.agg #[.int .u8 kY,.int .u8 oY,.int .i64 wY,.string nY,.slice aY mY cY,.int .i64 pY])::(.pointer (some ⟨w.heap.size,1,none⟩))::(.int .u8 o)::(.pointer (some ⟨w.heap.size,4,none⟩))::(.slice (some ⟨g,q,none⟩) 2 cap)::(.pointer (some ⟨g,q,none⟩))::(.agg #[.int .u8 kY,.int .u8 oY,.int .i64 wY,.string nY,.slice aY mY cY,.int .i64 pY])::(.bool wrY)::(.tuple #[])::(.pointer (some ⟨b,0,none⟩))::(.pointer (some ⟨w.heap.size,1,none⟩))::(.int .u8 o)::(.string ss)::(.string (⟨#[32]⟩++ss))::(.string (⟨#[32]⟩++ss++⟨#[32]⟩))::(.tuple #[])::(.pointer (some ⟨b,0,none⟩))::(.pointer (some ⟨w.heap.size,4,none⟩))::(.slice (some ⟨g,q,none⟩) 2 cap)::(.pointer (some ⟨g,q+6,none⟩))::(.agg #[.int .u8 kZ,.int .u8 oZ,.int .i64 wZ,.string nZ,.slice aZ mZ cZ,.int .i64 pZ])::(.pointer (some ⟨w.heap.size,1,none⟩))::(.int .u8 o)::undef::undef::undef::undef::undef::undef::(.bool false)::(.bool false)::undef::undef::undef::undef::undef::(.bool false)::(.bool false)::undef::undef::undef::undef::(.bool false)::(.bool false)::undef::undef::undef::undef::undef::undef::undef::undef::undef::undef::undef::undef::undef::undef::undef::undef::undef::[]),defers:=[] } _
 refine dr_take 7 (.pointer (some ⟨w.heap.size,4,none⟩)) rfl rfl (by kernel_rfl) (by kernel_rfl) (by kernel_rfl) (fun _ _ _ h=>h) (fun _ _=>by unfold execOp;go_simp) ⟨_,HD0.out⟩ ?_
 change wpAnyH _ _ _ _ _ _ _ { tmps:=List.toArray ((.pointer (some ⟨b,0,none⟩))::(.agg #[.int .u8 k,.int .u8 o,.int .i64 wd,.string n,.slice (some ⟨g,q,none⟩) 2 cap,.int .i64 ps])::undef::(.pointer (some ⟨w.heap.size,0,none⟩))::(.pointer (some ⟨b,0,none⟩))::(.pointer (some ⟨b,0,none⟩))::(.pointer (some ⟨b,1,none⟩))::(.bool false)::(.pointer (some ⟨w.heap.size,0,none⟩))::(.int .u8 k)::(.pointer (some ⟨b,0,none⟩))::(.pointer (some ⟨w.heap.size,4,none⟩))::(.slice (some ⟨g,q,none⟩) 2 cap)::(.pointer (some ⟨g,q,none⟩))::(.agg #[.int .u8 kY,.int .u8 oY,.int .i64 wY,.string nY,.slice aY mY cY,.int .i64 pY])::(.pointer (some ⟨w.heap.size,1,none⟩))::(.int .u8 o)::(.pointer (some ⟨w.heap.size,4,none⟩))::(.slice (some ⟨g,q,none⟩) 2 cap)::(.pointer (some ⟨g,q,none⟩))::(.agg #[.int .u8 kY,.int .u8 oY,.int .i64 wY,.string nY,.slice aY mY cY,.int .i64 pY])::(.bool wrY)::(.tuple #[])::(.pointer (some ⟨b,0,none⟩))::(.pointer (some ⟨w.heap.size,1,none⟩))::(.int .u8 o)::(.string ss)::(.string (⟨#[32]⟩++ss))::(.string (⟨#[32]⟩++ss++⟨#[32]⟩))::(.tuple #[])::(.pointer (some ⟨b,0,none⟩))::(.pointer (some ⟨w.heap.size,4,none⟩))::(.slice (some ⟨g,q,none⟩) 2 cap)::(.pointer (some ⟨g,q+6,none⟩))::(.agg #[.int .u8 kZ,.int .u8 oZ,.int .i64 wZ,.string nZ,.slice aZ mZ cZ,.int .i64 pZ])::(.pointer (some ⟨w.heap.size,1,none⟩))::(.int .u8 o)::(.pointer (some ⟨w.heap.size,4,none⟩))::undef::undef::undef::undef::undef::(.bool false)::(.bool false)::undef::undef::undef::undef::undef::(.bool false)::(.bool false)::undef::undef::undef::undef::(.bool false)::(.bool false)::undef::undef::undef::undef::undef::undef::undef::undef::undef::undef::undef::undef::undef::undef::undef::undef::undef::[]),defers:=[] } _
 refine dr_take 8 (.slice (some ⟨g,q,none⟩) 2 cap) rfl rfl (by kernel_rfl) (by kernel_rfl) (by kernel_rfl) (fun _ _ _ h=>h) (fun W h=>by obtain ⟨_,h⟩:=h;have c4:W.cell? ⟨w.heap.size,4,none⟩=some (.slice (some ⟨g,q,none⟩) 2 cap):=(by rw [cell_of_row _ _ 4 _ _ _ h.1];rfl);unfold execOp;go_simp) ⟨_,HD0.out⟩ ?_
 change wpAnyH _ _ _ _ _ _ _ { tmps:=List.toArray ((.pointer (some ⟨b,0,none⟩))::(.agg #[.int .u8 k,.int .u8 o,.int .i64 wd,.string n,.slice (some ⟨g,q,none⟩) 2 cap,.int .i64 ps])::undef::(.pointer (some ⟨w.heap.size,0,none⟩))::(.pointer (some ⟨b,0,none⟩))::(.pointer (some ⟨b,0,none⟩))::(.pointer (some ⟨b,1,none⟩))::(.bool false)::(.pointer (some ⟨w.heap.size,0,none⟩))::(.int .u8 k)::(.pointer (some ⟨b,0,none⟩))::(.pointer (some ⟨w.heap.size,4,none⟩))::(.slice (some ⟨g,q,none⟩) 2 cap)::(.pointer (some ⟨g,q,none⟩))::(.agg #[.int .u8 kY,.int .u8 oY,.int .i64 wY,.string nY,.slice aY mY cY,.int .i64 pY])::(.pointer (some ⟨w.heap.size,1,none⟩))::(.int .u8 o)::(.pointer (some ⟨w.heap.size,4,none⟩))::(.slice (some ⟨g,q,none⟩) 2 cap)::(.pointer (some ⟨g,q,none⟩))::(.agg #[.int .u8 kY,.int .u8 oY,.int .i64 wY,.string nY,.slice aY mY cY,.int .i64 pY])::(.bool wrY)::(.tuple #[])::(.pointer (some ⟨b,0,none⟩))::(.pointer (some ⟨w.heap.size,1,none⟩))::(.int .u8 o)::(.string ss)::(.string (⟨#[32]⟩++ss))::(.string (⟨#[32]⟩++ss++⟨#[32]⟩))::(.tuple #[])::(.pointer (some ⟨b,0,none⟩))::(.pointer (some ⟨w.heap.size,4,none⟩))::(.slice (some ⟨g,q,none⟩) 2 cap)::(.pointer (some ⟨g,q+6,none⟩))::(.agg #[.int .u8 kZ,.int .u8 oZ,.int .i64 wZ,.string nZ,.slice aZ mZ cZ,.int .i64 pZ])::(.pointer (some ⟨w.heap.size,1,none⟩))::(.int .u8 o)::(.pointer (some ⟨w.heap.size,4,none⟩))::(.slice (some ⟨g,q,none⟩) 2 cap)::undef::undef::undef::undef::(.bool false)::(.bool false)::undef::undef::undef::undef::undef::(.bool false)::(.bool false)::undef::undef::undef::undef::(.bool false)::(.bool false)::undef::undef::undef::undef::undef::undef::undef::undef::undef::undef::undef::undef::undef::undef::undef::undef::undef::[]),defers:=[] } _
 refine dr_take 9 (.pointer (some ⟨g,q+6,none⟩)) rfl rfl (by kernel_rfl) (by kernel_rfl) (by kernel_rfl) (fun _ _ _ h=>h) (fun _ _=>by unfold execOp;go_simp) ⟨_,HD0.out⟩ ?_
 change wpAnyH _ _ _ _ _ _ _ { tmps:=List.toArray ((.pointer (some ⟨b,0,none⟩))::(.agg #[.int .u8 k,.int .u8 o,.int .i64 wd,.string n,.slice (some ⟨g,q,none⟩) 2 cap,.int .i64 ps])::undef::(.pointer (some ⟨w.heap.size,0,none⟩))::(.pointer (some ⟨b,0,none⟩))::(.pointer (some ⟨b,0,none⟩))::(.pointer (some ⟨b,1,none⟩))::(.bool false)::(.pointer (some ⟨w.heap.size,0,none⟩))::(.int .u8 k)::(.pointer (some ⟨b,0,none⟩))::(.pointer (some ⟨w.heap.size,4,none⟩))::(.slice (some ⟨g,q,none⟩) 2 cap)::(.pointer (some ⟨g,q,none⟩))::(.agg #[.int .u8 kY,.int .u8 oY,.int .i64 wY,.string nY,.slice aY mY cY,.int .i64 pY])::(.pointer (some ⟨w.heap.size,1,none⟩))::(.int .u8 o)::(.pointer (some ⟨w.heap.size,4,none⟩))::(.slice (some ⟨g,q,none⟩) 2 cap)::(.pointer (some ⟨g,q,none⟩))::(.agg #[.int .u8 kY,.int .u8 oY,.int .i64 wY,.string nY,.slice aY mY cY,.int .i64 pY])::(.bool wrY)::(.tuple #[])::(.pointer (some ⟨b,0,none⟩))::(.pointer (some ⟨w.heap.size,1,none⟩))::(.int .u8 o)::(.string ss)::(.string (⟨#[32]⟩++ss))::(.string (⟨#[32]⟩++ss++⟨#[32]⟩))::(.tuple #[])::(.pointer (some ⟨b,0,none⟩))::(.pointer (some ⟨w.heap.size,4,none⟩))::(.slice (some ⟨g,q,none⟩) 2 cap)::(.pointer (some ⟨g,q+6,none⟩))::(.agg #[.int .u8 kZ,.int .u8 oZ,.int .i64 wZ,.string nZ,.slice aZ mZ cZ,.int .i64 pZ])::(.pointer (some ⟨w.heap.size,1,none⟩))::(.int .u8 o)::(.pointer (some ⟨w.heap.size,4,none⟩))::(.slice (some ⟨g,q,none⟩) 2 cap)::(.pointer (some ⟨g,q+6,none⟩))::undef::undef::undef::(.bool false)::(.bool false)::undef::undef::undef::undef::undef::(.bool false)::(.bool false)::undef::undef::undef::undef::(.bool false)::(.bool false)::undef::undef::undef::undef::undef::undef::undef::undef::undef::undef::undef::undef::undef::undef::undef::undef::undef::[]),defers:=[] } _
 refine dr_take 10 (.agg #[.int .u8 kZ,.int .u8 oZ,.int .i64 wZ,.string nZ,.slice aZ mZ cZ,.int .i64 pZ]) rfl rfl (by kernel_rfl) (by kernel_rfl) (by kernel_rfl) (fun _ _ _ h=>h) (fun W h=>by obtain ⟨_,h⟩:=h;have f0:W.cell? ⟨g,q+6,none⟩=some (.int .u8 kZ):=(h.2.2.1.cell (p:=⟨g,q+6,none⟩) HLG.out).trans HFZ.out.1;have f1:W.cell? ⟨g,q+7,none⟩=some (.int .u8 oZ):=(h.2.2.1.cell (p:=⟨g,q+7,none⟩) HLG.out).trans HFZ.out.2.1;have f2:W.cell? ⟨g,q+8,none⟩=some (.int .i64 wZ):=(h.2.2.1.cell (p:=⟨g,q+8,none⟩) HLG.out).trans HFZ.out.2.2.1;have f3:W.cell? ⟨g,q+9,none⟩=some (.string nZ):=(h.2.2.1.cell (p:=⟨g,q+9,none⟩) HLG.out).trans HFZ.out.2.2.2.1;have f4:W.cell? ⟨g,q+10,none⟩=some (.slice aZ mZ cZ):=(h.2.2.1.cell (p:=⟨g,q+10,none⟩) HLG.out).trans HFZ.out.2.2.2.2.1;have f5:W.cell? ⟨g,q+11,none⟩=some (.int .i64 pZ):=(h.2.2.1.cell (p:=⟨g,q+11,none⟩) HLG.out).trans HFZ.out.2.2.2.2.2;unfold execOp;go_simp) ⟨_,HD0.out⟩ ?_
 change wpAnyH _ _ _ _ _ _ _ { tmps:=List.toArray ((.pointer (some ⟨b,0,none⟩))::(.agg #[.int .u8 k,.int .u8 o,.int .i64 wd,.string n,.slice (some ⟨g,q,none⟩) 2 cap,.int .i64 ps])::undef::(.pointer (some ⟨w.heap.size,0,none⟩))::(.pointer (some ⟨b,0,none⟩))::(.pointer (some ⟨b,0,none⟩))::(.pointer (some ⟨b,1,none⟩))::(.bool false)::(.pointer (some ⟨w.heap.size,0,none⟩))::(.int .u8 k)::(.pointer (some ⟨b,0,none⟩))::(.pointer (some ⟨w.heap.size,4,none⟩))::(.slice (some ⟨g,q,none⟩) 2 cap)::(.pointer (some ⟨g,q,none⟩))::(.agg #[.int .u8 kY,.int .u8 oY,.int .i64 wY,.string nY,.slice aY mY cY,.int .i64 pY])::(.pointer (some ⟨w.heap.size,1,none⟩))::(.int .u8 o)::(.pointer (some ⟨w.heap.size,4,none⟩))::(.slice (some ⟨g,q,none⟩) 2 cap)::(.pointer (some ⟨g,q,none⟩))::(.agg #[.int .u8 kY,.int .u8 oY,.int .i64 wY,.string nY,.slice aY mY cY,.int .i64 pY])::(.bool wrY)::(.tuple #[])::(.pointer (some ⟨b,0,none⟩))::(.pointer (some ⟨w.heap.size,1,none⟩))::(.int .u8 o)::(.string ss)::(.string (⟨#[32]⟩++ss))::(.string (⟨#[32]⟩++ss++⟨#[32]⟩))::(.tuple #[])::(.pointer (some ⟨b,0,none⟩))::(.pointer (some ⟨w.heap.size,4,none⟩))::(.slice (some ⟨g,q,none⟩) 2 cap)::(.pointer (some ⟨g,q+6,none⟩))::(.agg #[.int .u8 kZ,.int .u8 oZ,.int .i64 wZ,.string nZ,.slice aZ mZ cZ,.int .i64 pZ])::(.pointer (some ⟨w.heap.size,1,none⟩))::(.int .u8 o)::(.pointer (some ⟨w.heap.size,4,none⟩))::(.slice (some ⟨g,q,none⟩) 2 cap)::(.pointer (some ⟨g,q+6,none⟩))::(.agg #[.int .u8 kZ,.int .u8 oZ,.int .i64 wZ,.string nZ,.slice aZ mZ cZ,.int .i64 pZ])::undef::undef::(.bool false)::(.bool false)::undef::undef::undef::undef::undef::(.bool false)::(.bool false)::undef::undef::undef::undef::(.bool false)::(.bool false)::undef::undef::undef::undef::undef::undef::undef::undef::undef::undef::undef::undef::undef::undef::undef::undef::undef::[]),defers:=[] } _
 refine dr_one 11 rfl rfl (by kernel_rfl) ?_
 refine wp_call (vs:=#[.int .u8 o,.agg #[.int .u8 kZ,.int .u8 oZ,.int .i64 wZ,.string nZ,.slice aZ mZ cZ,.int .i64 pZ],.bool true]) rfl rfl (enters_of Tryz.func132 (by kernel_rfl) rfl) (by simp [Act.eval]) (HWRZ.out _) ?_
 rintro e w6 ⟨rfl,hb6⟩
 have HD6:=Lib.hid (ust_below HD0.out hb6)
 clear hb6 HD0
 refine ⟨⟨_,HD6.out⟩,?_⟩
 change wpAnyH _ _ _ _ _ _ _ { tmps:=List.toArray ((.pointer (some ⟨b,0,none⟩))::(.agg #[.int .u8 k,.int .u8 o,.int .i64 wd,.string n,.slice (some ⟨g,q,none⟩) 2 cap,.int .i64 ps])::undef::(.pointer (some ⟨w.heap.size,0,none⟩))::(.pointer (some ⟨b,0,none⟩))::(.pointer (some ⟨b,0,none⟩))::(.pointer (some ⟨b,1,none⟩))::(.bool false)::(.pointer (some ⟨w.heap.size,0,none⟩))::(.int .u8 k)::(.pointer (some ⟨b,0,none⟩))::(.pointer (some ⟨w.heap.size,4,none⟩))::(.slice (some ⟨g,q,none⟩) 2 cap)::(.pointer (some ⟨g,q,none⟩))::(.agg #[.int .u8 kY,.int .u8 oY,.int .i64 wY,.string nY,.slice aY mY cY,.int .i64 pY])::(.pointer (some ⟨w.heap.size,1,none⟩))::(.int .u8 o)::(.pointer (some ⟨w.heap.size,4,none⟩))::(.slice (some ⟨g,q,none⟩) 2 cap)::(.pointer (some ⟨g,q,none⟩))::(.agg #[.int .u8 kY,.int .u8 oY,.int .i64 wY,.string nY,.slice aY mY cY,.int .i64 pY])::(.bool wrY)::(.tuple #[])::(.pointer (some ⟨b,0,none⟩))::(.pointer (some ⟨w.heap.size,1,none⟩))::(.int .u8 o)::(.string ss)::(.string (⟨#[32]⟩++ss))::(.string (⟨#[32]⟩++ss++⟨#[32]⟩))::(.tuple #[])::(.pointer (some ⟨b,0,none⟩))::(.pointer (some ⟨w.heap.size,4,none⟩))::(.slice (some ⟨g,q,none⟩) 2 cap)::(.pointer (some ⟨g,q+6,none⟩))::(.agg #[.int .u8 kZ,.int .u8 oZ,.int .i64 wZ,.string nZ,.slice aZ mZ cZ,.int .i64 pZ])::(.pointer (some ⟨w.heap.size,1,none⟩))::(.int .u8 o)::(.pointer (some ⟨w.heap.size,4,none⟩))::(.slice (some ⟨g,q,none⟩) 2 cap)::(.pointer (some ⟨g,q+6,none⟩))::(.agg #[.int .u8 kZ,.int .u8 oZ,.int .i64 wZ,.string nZ,.slice aZ mZ cZ,.int .i64 pZ])::(.bool wrZ)::undef::(.bool false)::(.bool false)::undef::undef::undef::undef::undef::(.bool false)::(.bool false)::undef::undef::undef::undef::(.bool false)::(.bool false)::undef::undef::undef::undef::undef::undef::undef::undef::undef::undef::undef::undef::undef::undef::undef::undef::undef::[]),defers:=[] } _
 refine dr_one 12 rfl rfl (by kernel_rfl) ?_
 refine wp_call (vs:=#[.pointer (some ⟨b,0,none⟩),.agg #[.int .u8 kZ,.int .u8 oZ,.int .i64 wZ,.string nZ,.slice aZ mZ cZ,.int .i64 pZ],.bool wrZ]) rfl rfl (enters_of Tryz.func131 (by kernel_rfl) rfl) (by simp [Act.eval]) (HINZ.out _ _ HD6.out.2.2.1 HD6.out.2.1) ?_
 rintro e w8 hp
 obtain ⟨rfl,hx⟩:=ust_put HD6.out HG.out nu_E hp
 have HXK:=Lib.hid hx
 clear hx hp HD6
 refine ⟨⟨_,HXK.out⟩,?_⟩
 refine wpAnyH_done (by kernel_rfl) ?_ _
 have HF:Hid (UPut b txt tx w (.returned (.tuple #[])) w8):=ust_done (by
  rw [HT2.out,show txt++(tY++([32]++ss.data.toList++[32])++tZ)=txt++tY++([32]++ss.data.toList++[32])++tZ by simp]
  exact HXK.out)
 go_wp2_with fail
 exact bodyPost_end (results_none rfl _ _ _) rfl HF.out
theorem u_expr:∀ x:Ex,UrE x:=by
 intro x
 have all:∀ l:List Ex,∀ y∈l,UrE y:=by
  intro l
  induction l using Exs.ind with
  | h0=>intro y hy;cases hy
  | h1 k o wd nm ks p r ih1 ih2 =>
    intro y hy
    rcases List.mem_cons.1 hy with rfl | hy
    · exact u_expr1 _ ih1
    · exact ih2 y hy
 exact u_expr1 x (all x.kids)
end Go.Proofs.YtieeaehabjjaoaaGreatDoor

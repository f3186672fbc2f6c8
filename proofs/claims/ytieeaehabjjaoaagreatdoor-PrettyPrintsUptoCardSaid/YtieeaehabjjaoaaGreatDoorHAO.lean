/- The proof, part 15: texts that belong together, in one. -/
import Derived.Test.YtieeaehabjjaoaaGreatDoorHAN
import Derived.Test.YtieeaehabjjaoaaGreatDoorHAC
set_option maxRecDepth 100000
set_option maxHeartbeats 20000000
namespace Go.Proofs.YtieeaehabjjaoaaGreatDoor
open Go.RowKit
set_option linter.unusedVariables false
set_option maxRecDepth 100000
def tT (t:Th):List UInt8:=ln 0 [[116,104,114,101,97,100,32],t.name.data.toList,[32,123]]++(tDs ⟨#[108,111,99,97,108]⟩ t.locals 1++(tSs t.body 1++ln 0 [[125]]))
def tP (p:Pg):List UInt8:=tDs ⟨#[115,104,97,114,101,100]⟩ p.shared 0++(tDs ⟨#[108,111,99,107]⟩ p.locks 0++p.threads.flatMap tT)
theorem flat_snoc {α β:Type} (f:α→List β) (l:List α) (x:α):(l++[x]).flatMap f=l.flatMap f++f x:=by simp
theorem bare_mem {l:List Dc} (h:bareB l=true):∀ d∈l,d.name.size≤140737488289792 ∧ -9223372036854775808≤d.wd∧d.wd≤9223372036854775807:=fun d hd=>by
 have:=List.all_eq_true.1 h d hd
 simp only [Bool.and_eq_true,beq_iff_eq] at this
 have h1:=name_size this.1
 rw [this.2]
 exact ⟨by omega,by omega,by omega⟩
theorem shared_mem {l:List Dc} (h:sharedB l=true) (hr:∀ d∈l,-9223372036854775808≤d.wd∧d.wd≤9223372036854775807):∀ d∈l,d.name.size≤140737488289792 ∧ -9223372036854775808≤d.wd∧d.wd≤9223372036854775807:=fun d hd=>by
 have:=List.all_eq_true.1 h d hd
 simp only [Bool.and_eq_true] at this
 have h1:=name_size this.1
 exact ⟨by omega,hr d hd⟩
def lenP (x:Pg):Prop:=x.shared.length≤1073741824∧x.locks.length≤1073741824∧∀ t∈x.threads,t.locals.length≤1073741824
def rgD (l:List Dc):Prop:=∀ d∈l,-9223372036854775808≤d.wd∧d.wd≤9223372036854775807
theorem not_u8T {cs:Array Value} : ¬ IsTy 5 (.cells cs 39):=by
 rintro ⟨c,f,h⟩
 cases h
theorem p_program' (x:Pg) (hok:okP x) (hrg:rgP x) (hr:rP x=true) (hD:rgD x.shared) (hL:lenP x) {v:Value} {w:World} (hv:pA w x v) (TT:WTb w):Calls Tryz.prog 20 #[v] w (TxP w (tP x)):=by
 obtain ⟨a1,c1,a2,c2,a3,c3,rfl,h1,h2,h3⟩:=hv
 obtain ⟨_,_,l3,hth⟩:=hok
 obtain ⟨l1,l2,ll⟩:=hL
 obtain ⟨sh,lk,th⟩:=x
 simp only at *
 unfold rP at hr
 simp only [Bool.and_eq_true] at hr
 obtain ⟨r1,r2,r3⟩:=hr
 have BA:Below w.heap.size w (w.alloc (.cells #[.slice a1 sh.length c1,.slice a2 lk.length c2,.slice a3 th.length c3] 25)):=(Below.refl _ w).alloc (Nat.le_refl _) _
 have OX:=Own.new w 25 #[.slice a1 sh.length c1,.slice a2 lk.length c2,.slice a3 th.length c3]
 obtain ⟨W0,hW0⟩:∃ W,W=w.alloc (.cells #[.slice a1 sh.length c1,.slice a2 lk.length c2,.slice a3 th.length c3] 25):=⟨_,rfl⟩
 rw [← hW0] at BA OX
 have TT0:=TT.below BA
 have h1:=dcsAt_below h1 BA
 have h2:=dcsAt_below h2 BA
 have h3:=thsAt_below h3 BA
 obtain ⟨b,hb⟩:∃ b,b=W0.heap.size:=⟨_,rfl⟩
 have HNW:Hid (Calls Tryz.prog 43 #[] W0 fun e w'=>e=.returned (.pointer (some ⟨b,0,none⟩))∧Wt b [] 0 (mFs b) w'∧Below b W0 w'):=by rw [Hid,hb];exact p_newWriter W0
 have HL1:Hid (∀ W,Below b W0 W→Wt b [] 0 (mFs b) W→Calls Tryz.prog 44 #[.pointer (some ⟨b,0,none⟩),.string ⟨#[115,104,97,114,101,100]⟩,.slice a1 sh.length c1] W (PutP b [] (tDs ⟨#[115,104,97,114,101,100]⟩ sh 0) 0 (mFs b) W)):=fun W h hw=>p_wlist l1 (shared_mem r1 hD) (by decide) (by omega) h1 TT0 hb h hw (by simp)
 have HL2:Hid (∀ t W,Below b W0 W→Wt b t 0 (mFs b) W→t.length≤65536→Calls Tryz.prog 44 #[.pointer (some ⟨b,0,none⟩),.string ⟨#[108,111,99,107]⟩,.slice a2 lk.length c2] W (PutP b t (tDs ⟨#[108,111,99,107]⟩ lk 0) 0 (mFs b) W)):=fun t W h hw ht=>p_wlist l2 (bare_mem r2) (by decide) (by omega) h2 TT0 hb h hw ht
 have HT3:=Lib.hid (List.all_eq_true.1 r3)
 have HLL:=Lib.hid ll
 have HTH:=Lib.hid hth
 have HRG:=Lib.hid hrg
 have HTT:=Lib.hid TT0
 have HB:=Lib.hid hb
 have E3:=Lib.hid h3
 have HBA:=Lib.hid BA
 have HOX:=Lib.hid OX
 have HW0:=Lib.hid hW0
 have HLB:Hid (w.heap.size<b):=by rw [Hid,hb];exact OX.lt
 have HCX:Hid (∀ W,Below b W0 W→Own W w.heap.size 25 #[.slice a1 sh.length c1,.slice a2 lk.length c2,.slice a3 th.length c3]):=fun W h=>(h.block _ HLB.out).trans OX
 obtain ⟨tx,htx⟩:∃ t,t=tP ⟨sh,lk,th⟩:=⟨_,rfl⟩
 rw [← htx]
 have HTX:Hid (tx=tDs ⟨#[115,104,97,114,101,100]⟩ sh 0++(tDs ⟨#[108,111,99,107]⟩ lk 0++th.flatMap tT)):=htx
 generalize tDs ⟨#[115,104,97,114,101,100]⟩ sh 0=t1 at HL1 HTX
 generalize tDs ⟨#[108,111,99,107]⟩ lk 0=t2 at HL2 HTX
 obtain ⟨n3,hn3⟩:∃ n,n=th.length:=⟨_,rfl⟩
 rw [← hn3] at HCX l3
 rw [show (Value.slice a3 th.length c3)=.slice a3 n3 c3 by rw [hn3]]
 rw [← hn3] at HW0
 have HN3:=Lib.hid hn3
 generalize sh.length=n1 at HL1 HCX HW0
 generalize lk.length=n2 at HL2 HCX HW0
 clear htx hn3 h1 h2 h3 TT TT0 hth hrg hD l1 l2 ll r1 r2 r3 BA OX hW0 hb HOX
 go_enter Tryz.func20,Tryz.ntmps20
 go_upto_region 1 with (fail)
 rw [← HW0.out]
 clear HW0
 go_wp2_with fail
 go_at_call 43
 refine HNW.out.mono ?_
 rintro e w1 ⟨rfl,hw1,hb1⟩
 have HX1:=Lib.hid hw1
 have HB1:=Lib.hid hb1
 have d0:w1.cell? ⟨w.heap.size,0,none⟩=some (.slice a1 n1 c1):=by rw [cell_of_row _ _ 0 _ _ _ (HCX.out _ hb1)];rfl
 clear hw1 hb1
 go_wp2_with fail
 go_at_call 44
 refine (HL1.out _ HB1.out HX1.out).mono ?_
 rintro e w2 hh
 rcases hh.cases with ⟨hx,rfl,hw2,hk,hb2⟩ | ⟨hx,rfl,hb2⟩
 rotate_left
 · go_wp2_with fail
   exact ⟨rfl,HBA.out.trans ((HB1.out.trans hb2).mono (Nat.le_of_lt HLB.out)),.inr ⟨by rw [HTX.out];simp at hx ⊢;omega,rfl⟩⟩
 rw [List.nil_append] at hx hw2
 have HX2:=Lib.hid hw2
 have HK2:=Lib.hid hx
 have HB2:=Lib.hid (HB1.out.trans hb2)
 have d1:w2.cell? ⟨w.heap.size,1,none⟩=some (.slice a2 n2 c2):=by rw [cell_of_row _ _ 1 _ _ _ (HCX.out _ HB2.out)];rfl
 clear hh hx hw2 hk hb2 d0
 go_wp2_with fail
 go_at_call 44
 refine (HL2.out _ _ HB2.out HX2.out HK2.out).mono ?_
 rintro e w3 hh
 rcases hh.cases with ⟨hx,rfl,hw3,hk,hb3⟩ | ⟨hx,rfl,hb3⟩
 rotate_left
 · go_wp2_with fail
   exact ⟨rfl,HBA.out.trans ((HB2.out.trans hb3).mono (Nat.le_of_lt HLB.out)),.inr ⟨by rw [HTX.out];simp at hx ⊢;omega,rfl⟩⟩
 have HX3:=Lib.hid hw3
 have HK3:=Lib.hid hx
 have HB3:=Lib.hid (HB2.out.trans hb3)
 have d2:w3.cell? ⟨w.heap.size,2,none⟩=some (.slice a3 n3 c3):=by rw [cell_of_row _ _ 2 _ _ _ (HCX.out _ HB3.out)];rfl
 clear hh hx hw3 hk hb3 d1
 go_wp2_with fail
 clear d2
 go_loopg [18] (n3+1) (fun m' u W=>∃ t:Nat,u=.int .i64 (t:Int)∧t≤n3∧m'=n3-t+1∧((t1++t2)++(th.take t).flatMap tT).length≤65536∧Wt b ((t1++t2)++(th.take t).flatMap tT) 0 (mFs b) W∧Below b W0 W)
 case atStart=>exact ⟨0,rfl,Nat.zero_le _,by omega,by simpa using HK3.out,by simpa using HX3.out,HB3.out⟩
 case round =>
  obtain ⟨t,rfl,ht,hm,hle,hwt,hb0⟩:=hrel
  have HM:=Lib.hid hm
  have HK:=Lib.hid hle
  have HX:=Lib.hid hwt
  have HB0:=Lib.hid hb0
  clear hm hle hwt hb0 HK2 HX2 HB2 HK3 HX3 HB3 HX1 HB1 HL1 HL2 HNW
  by_cases htn:t<n3
  · have il : t < th.length := by have := HN3.out; omega
    have g1:th[t]? = some th[t]:=List.getElem?_eq_getElem il
    have hmem:th[t]∈th:=List.getElem_mem il
    have htk:th.take (t+1)=th.take t++[th[t]]:=by rw [List.take_succ_eq_append_getElem il]
    have hdr:th=th.take t++(th[t]::th.drop (t+1)):=by rw [← List.drop_eq_getElem_cons il,List.take_append_drop]
    generalize th[t]=x at g1 hmem htk hdr
    have hf1:(th.take (t+1)).flatMap tT=(th.take t).flatMap tT++tT x:=by rw [htk,flat_snoc]
    have hf2:th.flatMap tT=(th.take t).flatMap tT++(tT x++(th.drop (t+1)).flatMap tT):=by
     refine (congrArg (fun z=>z.flatMap tT) hdr).trans ?_
     simp
    rcases E3.out with e | ⟨g,q,e,_,e1⟩
    · cases th with
      | nil=>simp at il
      | cons=>cases e
    obtain rfl:a3=some ⟨g,q,none⟩:=e
    have x1:=thsIn_get t x e1 g1
    obtain ⟨nm,lo,bo,ps⟩:=x
    obtain ⟨f0,⟨a4,c4,f1,w1⟩,⟨a5,c5,f2,w2⟩,f3⟩:=x1
    have lg:=lt_of_at f0
    simp only at lg
    rw [← HB.out] at lg
    have htn':(t:Int)<(n3:Int):=by omega
    have r3:=HT3.out _ hmem
    simp only [thB,Bool.and_eq_true] at r3
    obtain ⟨q1,q2,q3⟩:=r3
    obtain ⟨_,o2,o3⟩:=HTH.out _ hmem
    have ol:=HLL.out _ hmem
    have org:rgSs bo:=HRG.out _ hmem
    simp only at o2 o3 ol
    have hnz:nm.size≤140737488289792:=by have:=name_size q1;omega
    have H0:Hid (∀ tx W,Wt b tx 0 (mFs b) W→tx.length≤65536→Calls Tryz.prog 45 #[.pointer (some ⟨b,0,none⟩),.slice (some ⟨W.heap.size,0,none⟩) 3 3] (W.alloc (.cells #[.string ⟨#[116,104,114,101,97,100,32]⟩,.string nm,.string ⟨#[32,123]⟩] 9)) (PutP b tx (ln 0 [[116,104,114,101,97,100,32],nm.data.toList,[32,123]]) 0 (mFs b) W)):=fun tx W hw ht=>p_line3 (deep:=0) hw (by omega) ht ⟨#[116,104,114,101,97,100,32]⟩ nm ⟨#[32,123]⟩ (fun s hs=>by
     simp only [List.mem_cons,List.not_mem_nil,or_false] at hs
     rcases hs with rfl | rfl | rfl
     · decide
     · exact hnz
     · decide)
    have H1:Hid (∀ tx W,Below b W0 W→Wt b tx 1 (mFs b) W→tx.length≤65536→Calls Tryz.prog 44 #[.pointer (some ⟨b,0,none⟩),.string ⟨#[108,111,99,97,108]⟩,.slice a4 lo.length c4] W (PutP b tx (tDs ⟨#[108,111,99,97,108]⟩ lo 1) 1 (mFs b) W)):=fun tx W h hw ht=>p_wlist ol (bare_mem q2) (by decide) (by omega) w1 HTT.out HB.out h hw ht
    have H2:Hid (∀ tx W,Below b W0 W→Wt b tx 0 (mFs b) W→tx.length≤65536→Calls Tryz.prog 46 #[.pointer (some ⟨b,0,none⟩),.slice a5 bo.length c5] W (PutP b tx (tSs bo 1) 0 (mFs b) W)):=fun tx W h hw ht=>w_block bo 0 q3 o3 o2 org a5 c5 W0 W b tx w2 HTT.out HB.out h hw ht
    have H3:Hid (∀ tx W,Wt b tx 0 (mFs b) W→tx.length≤65536→Calls Tryz.prog 45 #[.pointer (some ⟨b,0,none⟩),.slice (some ⟨W.heap.size,0,none⟩) 1 1] (W.alloc (.cells #[.string ⟨#[125]⟩] 9)) (PutP b tx (ln 0 [[125]]) 0 (mFs b) W)):=fun tx W hw ht=>p_line1 (deep:=0) hw (by omega) ht ⟨#[125]⟩ (fun s hs=>by
     simp only [List.mem_cons,List.not_mem_nil,or_false] at hs
     subst hs
     decide)
    have BX:=HB0.out
    have f0:wr.cell? ⟨g,q+t*4,none⟩=some (.string nm):=(BX.cell (p:=⟨g,q+t*4,none⟩) lg).trans f0
    have f1:wr.cell? ⟨g,q+t*4+1,none⟩=some (.slice a4 lo.length c4):=(BX.cell (p:=⟨g,q+t*4+1,none⟩) lg).trans f1
    have f2:wr.cell? ⟨g,q+t*4+2,none⟩=some (.slice a5 bo.length c5):=(BX.cell (p:=⟨g,q+t*4+2,none⟩) lg).trans f2
    have f3:wr.cell? ⟨g,q+t*4+3,none⟩=some (.int .i64 ps):=(BX.cell (p:=⟨g,q+t*4+3,none⟩) lg).trans f3
    have hTT:tT ⟨nm,lo,bo,ps⟩=ln 0 [[116,104,114,101,97,100,32],nm.data.toList,[32,123]]++(tDs ⟨#[108,111,99,97,108]⟩ lo 1++(tSs bo 1++ln 0 [[125]])):=rfl
    rw [hTT] at hf1 hf2
    obtain ⟨tp,htp⟩:∃ z,z=(t1++t2)++(th.take t).flatMap tT:=⟨_,rfl⟩
    rw [← htp] at HK HX
    generalize ln 0 [[116,104,114,101,97,100,32],nm.data.toList,[32,123]]=s0 at H0 hf1 hf2
    generalize tDs ⟨#[108,111,99,97,108]⟩ lo 1=s1 at H1 hf1 hf2
    generalize tSs bo 1=s2 at H2 hf1 hf2
    generalize ln 0 [[125]]=s3 at H3 hf1 hf2
    have HF1:Hid ((t1++t2)++(th.take (t+1)).flatMap tT=tp++(s0++(s1++(s2++s3)))):=by rw [Hid,hf1,htp];simp only [List.append_assoc]
    have HF2:Hid (∃ rest,tx=tp++(s0++(s1++(s2++(s3++rest))))):=⟨(th.drop (t+1)).flatMap tT,by rw [HTX.out,hf2,htp];simp only [List.append_assoc]⟩
    generalize lo.length=nl at H1 f1
    generalize bo.length=nb at H2 f2
    clear g1 e1 il BX hmem w1 w2 htk hdr hf1 hf2 lg q1 q2 q3 o2 o3 ol org hnz hTT htp
    have OT:=Lib.hid (Own.new wr 39 #[.string nm,.slice a4 nl c4,.slice a5 nb c5,.int .i64 ps])
    have BT:=Lib.hid ((Below.refl wr.heap.size wr).alloc (Nat.le_refl _) (.cells #[.string nm,.slice a4 nl c4,.slice a5 nb c5,.int .i64 ps] 39))
    have HNE:Hid (wr.heap.size≠b):=by have:=HX.out.lt;rw [Hid];omega
    obtain ⟨W1,hW1⟩:∃ W,W=wr.alloc (.cells #[.string nm,.slice a4 nl c4,.slice a5 nb c5,.int .i64 ps] 39):=⟨_,rfl⟩
    rw [← hW1] at OT BT
    have HW1:=Lib.hid hW1
    have HX1:=Lib.hid (HX.out.below BT.out)
    have HB1:=Lib.hid (HB0.out.trans (BT.out.mono (Nat.le_of_lt HX.out.lt)))
    clear hW1 BT
    go_upto_region 7 with (fail)
    rw [← HW1.out]
    clear HW1
    have y0:W1.cell? ⟨wr.heap.size,0,none⟩=some (.string nm):=by rw [cell_of_row _ _ 0 _ _ _ OT.out];rfl
    go_wp2_with fail
    go_at_call 45
    refine (H0.out _ _ HX1.out HK.out).mono ?_
    rintro e w2 hh
    rcases hh.cases with ⟨hx,rfl,hw2,hk,hb2⟩ | ⟨hx,rfl,hb2⟩
    rotate_left
    · go_wp2_with fail
      obtain ⟨rest,hR⟩:=HF2.out
      exact ⟨rfl,HBA.out.trans ((HB1.out.trans hb2).mono (Nat.le_of_lt HLB.out)),.inr ⟨by rw [hR];simp at hx ⊢;omega,rfl⟩⟩
    have OT2:=Lib.hid (hk.block _ _ OT.out ⟨HNE.out,not_u8T⟩)
    have c2:=hw2.deep
    have z2:=wt_frozen hw2 2
    obtain ⟨k1,k2,k3⟩:=wt_deep hw2 1
    obtain ⟨W3,hW3⟩:∃ W,W=w2.setCell ⟨b,2,none⟩ (.int .i64 1):=⟨_,rfl⟩
    rw [← hW3] at k1 k2 k3
    have e3:=hW3.symm
    have HX3:=Lib.hid k1
    have HK3:=Lib.hid hx
    have HB3:=Lib.hid ((HB1.out.trans hb2).trans k3)
    have OT3:=Lib.hid (k2.block _ _ OT2.out ⟨HNE.out,not_u8T⟩)
    have y1:W3.cell? ⟨wr.heap.size,1,none⟩=some (.slice a4 nl c4):=by rw [cell_of_row _ _ 1 _ _ _ OT3.out];rfl
    clear hh hx hw2 hk hb2 k1 k2 k3 hW3 y0 OT OT2 HX1 HB1 H0
    go_wp2_with fail
    go_at_call 44
    clear e3 c2 z2
    refine (H1.out _ _ HB3.out HX3.out HK3.out).mono ?_
    rintro e w4 hh
    rcases hh.cases with ⟨hx,rfl,hw4,hk,hb4⟩ | ⟨hx,rfl,hb4⟩
    rotate_left
    · go_wp2_with fail
      obtain ⟨rest,hR⟩:=HF2.out
      exact ⟨rfl,HBA.out.trans ((HB3.out.trans hb4).mono (Nat.le_of_lt HLB.out)),.inr ⟨by rw [hR];simp at hx ⊢;omega,rfl⟩⟩
    have OT4:=Lib.hid (hk.block _ _ OT3.out ⟨HNE.out,not_u8T⟩)
    have c2:=hw4.deep
    have z2:=wt_frozen hw4 2
    obtain ⟨k1,k2,k3⟩:=wt_deep hw4 0
    obtain ⟨W5,hW5⟩:∃ W,W=w4.setCell ⟨b,2,none⟩ (.int .i64 0):=⟨_,rfl⟩
    rw [← hW5] at k1 k2 k3
    have e5:=hW5.symm
    have HX5:=Lib.hid k1
    have HK5:=Lib.hid hx
    have HB5:=Lib.hid ((HB3.out.trans hb4).trans k3)
    have OT5:=Lib.hid (k2.block _ _ OT4.out ⟨HNE.out,not_u8T⟩)
    have y2:W5.cell? ⟨wr.heap.size,2,none⟩=some (.slice a5 nb c5):=by rw [cell_of_row _ _ 2 _ _ _ OT5.out];rfl
    clear hh hx hw4 hk hb4 k1 k2 k3 hW5 y1 OT3 OT4 HX3 HK3 HB3 H1
    go_wp2_with fail
    go_at_call 46
    clear e5 c2 z2
    refine (H2.out _ _ HB5.out HX5.out HK5.out).mono ?_
    rintro e w6 hh
    rcases hh.cases with ⟨hx,rfl,hw6,hk,hb6⟩ | ⟨hx,rfl,hb6⟩
    rotate_left
    · go_wp2_with fail
      obtain ⟨rest,hR⟩:=HF2.out
      exact ⟨rfl,HBA.out.trans ((HB5.out.trans hb6).mono (Nat.le_of_lt HLB.out)),.inr ⟨by rw [hR];simp at hx ⊢;omega,rfl⟩⟩
    have HX6:=Lib.hid hw6
    have HK6:=Lib.hid hx
    have HB6:=Lib.hid (HB5.out.trans hb6)
    clear hh hx hw6 hk hb6 y2 HX5 HK5 HB5 H2 OT5
    go_wp2_with fail
    go_at_call 45
    refine (H3.out _ _ HX6.out HK6.out).mono ?_
    rintro e w7 hh
    rcases hh.cases with ⟨hx,rfl,hw7,hk,hb7⟩ | ⟨hx,rfl,hb7⟩
    rotate_left
    · go_wp2_with fail
      obtain ⟨rest,hR⟩:=HF2.out
      exact ⟨rfl,HBA.out.trans ((HB6.out.trans hb7).mono (Nat.le_of_lt HLB.out)),.inr ⟨by rw [hR];simp at hx ⊢;omega,rfl⟩⟩
    have HX7:=Lib.hid hw7
    have HK7:=Lib.hid hx
    have HB7:=Lib.hid (HB6.out.trans hb7)
    clear hh hx hw7 hk hb7 HX6 HK6 HB6 H3
    go_wp2_with fail
    go_roundg (n3-(t+1)+1)
    case measure=>have:=HM.out;omega
    case rel =>
     refine ⟨t+1,by simp,by omega,by omega,?_,?_,HB7.out⟩
     · rw [HF1.out];simpa only [List.append_assoc] using HK7.out
     · rw [HF1.out];simpa only [List.append_assoc] using HX7.out
  · have htn2 : t = n3 := by omega
    subst htn2
    have hX:=HX.out
    have hK:=HK.out
    rw [show th.take t=th by rw [HN3.out,List.take_length]] at hX hK
    have HX9:=Lib.hid hX
    have HK9:Hid (tx.length≤65536):=by rw [Hid,HTX.out];simp at hK ⊢;omega
    have htx:tx=(t1++t2)++th.flatMap tT:=by rw [HTX.out,List.append_assoc]
    rw [← htx] at HX9
    clear hX hK htx
    go_wp2_with fail
    go_at_call 47
    refine (wt_string HX9.out).mono ?_
    rintro e w9 ⟨rfl,hb9⟩
    have HF:Hid (TxP w tx (.returned (.string ⟨tx.toArray⟩)) w9):=⟨HBA.out.trans ((HB0.out.trans hb9).mono (Nat.le_of_lt HLB.out)),.inl ⟨HK9.out,rfl⟩⟩
    clear hb9
    go_wp2_with fail
    go_ret
    exact HF.out
open Go.RowKit
set_option linter.unusedVariables false
theorem any_err (v:Value) (w:World):(Instr.typeAssert (.iface 27 v) 20 27 true).run Tryz.prog w=.ok (.tuple #[v,.bool true]) w:=by kernel_rfl
theorem lv_str {w:World} {g:Nat} {z:ByteArray} (h:Own w g 9 #[.string z]):(loadVar 9 ⟨g,0,none⟩).run Tryz.prog w=.ok (.string z) w:=by
 have hc:w.cell? ⟨g,0,none⟩=some (.string z):=by rw [cell_of_row w g 0 _ _ _ h];rfl
 go_simp
theorem res2s {fn:Func} {T U:TypeId} {i j:Tmp} (h:fn.results=#[.cell i T,.cell j U]) {tmps:Array Value} {P:Program} {w:World} {a b:Addr} {x y:Value} (ha:tmps.getD i undef=.pointer (some a)) (hb:tmps.getD j undef=.pointer (some b))
 (h1:(loadVar T a).run P w=.ok x w) (h2:(loadVar U b).run P w=.ok y w):(results fn tmps).run P w=.ok (.tuple #[x,y]) w:=by
 have ha':tmps[i]?.getD undef=.pointer (some a):=by simpa using ha
 have hb':tmps[j]?.getD undef=.pointer (some b):=by simpa using hb
 simp [results,h,ha',hb',asAddr,h1,h2,Result.andThen]
theorem catch_str {w:World} {n t y:Nat} {s0:ByteArray} {cy z:Int} {older:List PanicEntry} (h1:Own w t 9 #[.string s0]) (h2:Own w y 27 #[.int .i64 cy]) (hn:n≤t∧n≤y) (hd:t≠y) :
 CallsD Tryz.prog 38 #[.pointer (some ⟨t,0,none⟩),.pointer (some ⟨y,0,none⟩)] (.panicking ({ v:=.iface 27 (.int .i64 z),recovered:=false } :: older)) w fun e u' w' =>
  e=.returned (.tuple #[])∧u'=.panicking ({ v:=.iface 27 (.int .i64 z),recovered:=true } :: older)∧Own w' t 9 #[.string ⟨#[]⟩]∧Own w' y 27 #[.int .i64 z]∧Below n w w':=by
 refine callsD_of_wpS Tryz.func38 rfl fun c₀ cs hu=>?_
 apply wpS_seq
 apply wpS_region
 simp [wpOpsS,go_sem,recoverD,hu,Tryz.ntmps38,Exit.thenS]
 rw [show (#[.pointer (some ⟨t,0,none⟩),.pointer (some ⟨y,0,none⟩)]++(((Array.replicate 17 undef).setIfInBounds 4 (.iface 27 (.int .i64 z))).setIfInBounds 0 (.iface 27 (.int .i64 z))):Array Value)=#[.pointer (some ⟨t,0,none⟩),.pointer (some ⟨y,0,none⟩),.iface 27 (.int .i64 z),undef,undef,undef,.iface 27 (.int .i64 z),undef,undef,undef,undef,undef,undef,undef,undef,undef,undef,undef,undef] from by kernel_rfl]
 refine wpS_of_wp ?_
 generalize hQ:(fun e a' w'=>bodyPostS _ _ _ _ _ e a' _ w')=Q
 have F1:=any_eql
 have F2:=any_err
 have c1:w.cell? ⟨t,0,none⟩=some (.string s0):=by rw [cell_of_row _ _ 0 _ _ _ h1];rfl
 have f1:=own_frozen h1 0
 have e1:w.setCell ⟨t,0,none⟩ (.string ⟨#[]⟩)=w.setRow t #[.string ⟨#[]⟩]:=setCell_row h1 0 _
 have o1:=h1.row #[.string ⟨#[]⟩]
 have o2:=h2.other (g:=t) #[.string ⟨#[]⟩] (by omega)
 have c2:(w.setRow t #[.string ⟨#[]⟩]).cell? ⟨y,0,none⟩=some (.int .i64 cy):=by rw [cell_of_row _ _ 0 _ _ _ o2];rfl
 have f2:=own_frozen o2 0
 have e2:(w.setRow t #[.string ⟨#[]⟩]).setCell ⟨y,0,none⟩ (.int .i64 z)=(w.setRow t #[.string ⟨#[]⟩]).setRow y #[.int .i64 z]:=setCell_row o2 0 _
 have q1:=Lib.hid (o1.other (g:=y) #[.int .i64 z] (by omega))
 have q2:=Lib.hid (o2.row #[.int .i64 z])
 have B:=Lib.hid (Below.of_row (Below.of_row (Below.refl n w) (g:=t) (by omega) #[.string ⟨#[]⟩]) (g:=y) (by omega) #[.int .i64 z])
 clear o1 o2
 go_wp2_with fail
 subst hQ
 simp [bodyPostS,results,Tryz.results38]
 exact ⟨q1.out,q2.out,B.out⟩
theorem idle_str (x y:Value) (w:World):CallsD Tryz.prog 38 #[x,y] .returning w fun e u' w'=>e=.returned (.tuple #[])∧u'=.returning∧w'=w:=by
 have hnil:=any_nil
 refine callsD_of_wpS Tryz.func38 rfl fun c₀ cs hu=>?_
 apply wpS_seq
 apply wpS_region
 simp [wpOpsS,go_sem,recoverD,hu,Tryz.ntmps38,Exit.thenS]
 rw [show (#[x,y]++(((Array.replicate 17 undef).setIfInBounds 4 .nilIface).setIfInBounds 0 .nilIface):Array Value)=#[x,y,.nilIface,undef,undef,undef,.nilIface,undef,undef,undef,undef,undef,undef,undef,undef,undef,undef,undef,undef] from by kernel_rfl]
 refine wpS_of_wp ?_
 generalize hQ:(fun e a' w'=>bodyPostS _ _ _ _ _ e a' _ w')=Q
 go_wp2
 subst hQ
 cases c₀
 simp_all [bodyPostS,results,Tryz.results38]
def MkP (w:World) (Y:Sum (List UInt8) Int) (e:Ending) (w':World):Prop:=Below w.heap.size w w'∧match Y with | .inl t=>e=.returned (.string ⟨t.toArray⟩) | .inr n=>e=.panicked (errP n)
def AttP (w:World) (Y:Sum (List UInt8) Int) (e:Ending) (w':World):Prop:=Below w.heap.size w w'∧e=.returned (match Y with | .inl t=>.tuple #[.string ⟨t.toArray⟩,.int .i64 0] | .inr n=>.tuple #[.string ⟨#[]⟩,.int .i64 n])
theorem p_att_print {pb:Nat} {w:World} {Y:Sum (List UInt8) Int} (hmk:∀ W,Below w.heap.size w W→Calls Tryz.prog 18 #[.pointer (some ⟨pb,0,none⟩)] W (MkP W Y)) :
 Calls Tryz.prog 17 #[.func (.func 18) #[] #[.pointer (some ⟨pb,0,none⟩)]] w (AttP w Y):=by
 have HMK:=Lib.hid hmk
 have O1:=(Own.new w 9 #[.string ⟨#[]⟩]).alloc (.cells #[.int .i64 0] 27)
 have O2:=Own.new (w.alloc (.cells #[.string ⟨#[]⟩] 9)) 27 #[.int .i64 0]
 have B0:Below w.heap.size w ((w.alloc (.cells #[.string ⟨#[]⟩] 9)).alloc (.cells #[.int .i64 0] 27)):=((Below.refl _ w).alloc (Nat.le_refl _) _).alloc (by simp only [World.size_alloc];omega) _
 have z0:Hid (((w.alloc (.cells #[.string ⟨#[]⟩] 9)).alloc (.cells #[.int .i64 0] 27)).heap.size=w.heap.size+2):=by simp only [Hid,World.size_alloc]
 rw [World.size_alloc] at O2
 have hmf:∀ (fn:Fn) (first cap:Array Value) (w:World),(Instr.makeFunc fn first cap).run Tryz.prog w=.ok (.func fn first cap) w:=fun _ _ _ _=>rfl
 clear hmk
 go_enter_defers Tryz.func17,Tryz.ntmps17
 go_wp2_with fail
 go_at_call 18
 refine (HMK.out _ B0).mono ?_
 rintro e w1 ⟨hb1,hh⟩
 have z1:w.heap.size+2≤w1.heap.size:=by have:=hb1.size;have:=z0.out;omega
 have P1:=O1.below hb1
 have P2:=O2.below hb1
 have B1:=Lib.hid (B0.trans (hb1.mono (by have:=z0.out;omega)))
 cases Y with
 | inr m =>
   obtain rfl:=hh
   clear hb1
   go_wp2_with fail
   refine leaves_cons (f:=38) (args:=#[.pointer (some ⟨w.heap.size,0,none⟩),.pointer (some ⟨w.heap.size+1,0,none⟩)]) (by simp) (by simp [go_sem]) ?_
   refine (catch_str (n:=w.heap.size) P1 P2 (by omega) (by omega)).mono ?_
   rintro e u' w5 ⟨rfl,rfl,q1,q2,hb⟩
   exact ⟨_,res2s rfl rfl rfl (lv_str q1) (lv_err q2),B1.out.trans hb,rfl⟩
 | inl t =>
   obtain rfl:=hh
   have c1:w1.cell? ⟨w.heap.size,0,none⟩=some (.string ⟨#[]⟩):=by rw [cell_of_row _ _ 0 _ _ _ P1];rfl
   have f1:=own_frozen P1 0
   have e1:w1.setCell ⟨w.heap.size,0,none⟩ (.string ⟨t.toArray⟩)=w1.setRow w.heap.size #[.string ⟨t.toArray⟩]:=setCell_row P1 0 _
   have o1:=P1.row #[.string ⟨t.toArray⟩]
   have o2:=P2.other (g:=w.heap.size) #[.string ⟨t.toArray⟩] (by omega)
   have c2:(w1.setRow w.heap.size #[.string ⟨t.toArray⟩]).cell? ⟨w.heap.size+1,0,none⟩=some (.int .i64 0):=by rw [cell_of_row _ _ 0 _ _ _ o2];rfl
   have f2:=own_frozen o2 0
   have e2:(w1.setRow w.heap.size #[.string ⟨t.toArray⟩]).setCell ⟨w.heap.size+1,0,none⟩ (.int .i64 0)=(w1.setRow w.heap.size #[.string ⟨t.toArray⟩]).setRow (w.heap.size+1) #[.int .i64 0]:=setCell_row o2 0 _
   have q1:=Lib.hid (o1.other (g:=w.heap.size+1) #[.int .i64 0] (by omega))
   have q2:=Lib.hid (o2.row #[.int .i64 0])
   have B:=Lib.hid (B1.out.trans (Below.of_row (Below.of_row (Below.refl w.heap.size w1) (g:=w.heap.size) (by omega) #[.string ⟨t.toArray⟩]) (g:=w.heap.size+1) (by omega) #[.int .i64 0]))
   clear o1 o2 hb1
   go_wp2_with fail
   refine leaves_cons (f:=38) (args:=#[.pointer (some ⟨w.heap.size,0,none⟩),.pointer (some ⟨w.heap.size+1,0,none⟩)]) (by simp) (by simp [go_sem]) ?_
   refine (idle_str _ _ _).mono ?_
   rintro e u' w8 ⟨rfl,rfl,rfl⟩
   exact ⟨_,res2s rfl rfl rfl (lv_str q1.out) (lv_err q2.out),B.out,rfl⟩
theorem p_att_expr {pb:Nat} {w:World} {Y:Sum (List UInt8) Int} (hmk:∀ W,Below w.heap.size w W→Calls Tryz.prog 56 #[.pointer (some ⟨pb,0,none⟩)] W (MkP W Y)) :
 Calls Tryz.prog 17 #[.func (.func 56) #[] #[.pointer (some ⟨pb,0,none⟩)]] w (AttP w Y):=by
 have HMK:=Lib.hid hmk
 have O1:=(Own.new w 9 #[.string ⟨#[]⟩]).alloc (.cells #[.int .i64 0] 27)
 have O2:=Own.new (w.alloc (.cells #[.string ⟨#[]⟩] 9)) 27 #[.int .i64 0]
 have B0:Below w.heap.size w ((w.alloc (.cells #[.string ⟨#[]⟩] 9)).alloc (.cells #[.int .i64 0] 27)):=((Below.refl _ w).alloc (Nat.le_refl _) _).alloc (by simp only [World.size_alloc];omega) _
 have z0:Hid (((w.alloc (.cells #[.string ⟨#[]⟩] 9)).alloc (.cells #[.int .i64 0] 27)).heap.size=w.heap.size+2):=by simp only [Hid,World.size_alloc]
 rw [World.size_alloc] at O2
 have hmf:∀ (fn:Fn) (first cap:Array Value) (w:World),(Instr.makeFunc fn first cap).run Tryz.prog w=.ok (.func fn first cap) w:=fun _ _ _ _=>rfl
 clear hmk
 go_enter_defers Tryz.func17,Tryz.ntmps17
 go_wp2_with fail
 go_at_call 56
 refine (HMK.out _ B0).mono ?_
 rintro e w1 ⟨hb1,hh⟩
 have z1:w.heap.size+2≤w1.heap.size:=by have:=hb1.size;have:=z0.out;omega
 have P1:=O1.below hb1
 have P2:=O2.below hb1
 have B1:=Lib.hid (B0.trans (hb1.mono (by have:=z0.out;omega)))
 cases Y with
 | inr m =>
   obtain rfl:=hh
   clear hb1
   go_wp2_with fail
   refine leaves_cons (f:=38) (args:=#[.pointer (some ⟨w.heap.size,0,none⟩),.pointer (some ⟨w.heap.size+1,0,none⟩)]) (by simp) (by simp [go_sem]) ?_
   refine (catch_str (n:=w.heap.size) P1 P2 (by omega) (by omega)).mono ?_
   rintro e u' w5 ⟨rfl,rfl,q1,q2,hb⟩
   exact ⟨_,res2s rfl rfl rfl (lv_str q1) (lv_err q2),B1.out.trans hb,rfl⟩
 | inl t =>
   obtain rfl:=hh
   have c1:w1.cell? ⟨w.heap.size,0,none⟩=some (.string ⟨#[]⟩):=by rw [cell_of_row _ _ 0 _ _ _ P1];rfl
   have f1:=own_frozen P1 0
   have e1:w1.setCell ⟨w.heap.size,0,none⟩ (.string ⟨t.toArray⟩)=w1.setRow w.heap.size #[.string ⟨t.toArray⟩]:=setCell_row P1 0 _
   have o1:=P1.row #[.string ⟨t.toArray⟩]
   have o2:=P2.other (g:=w.heap.size) #[.string ⟨t.toArray⟩] (by omega)
   have c2:(w1.setRow w.heap.size #[.string ⟨t.toArray⟩]).cell? ⟨w.heap.size+1,0,none⟩=some (.int .i64 0):=by rw [cell_of_row _ _ 0 _ _ _ o2];rfl
   have f2:=own_frozen o2 0
   have e2:(w1.setRow w.heap.size #[.string ⟨t.toArray⟩]).setCell ⟨w.heap.size+1,0,none⟩ (.int .i64 0)=(w1.setRow w.heap.size #[.string ⟨t.toArray⟩]).setRow (w.heap.size+1) #[.int .i64 0]:=setCell_row o2 0 _
   have q1:=Lib.hid (o1.other (g:=w.heap.size+1) #[.int .i64 0] (by omega))
   have q2:=Lib.hid (o2.row #[.int .i64 0])
   have B:=Lib.hid (B1.out.trans (Below.of_row (Below.of_row (Below.refl w.heap.size w1) (g:=w.heap.size) (by omega) #[.string ⟨t.toArray⟩]) (g:=w.heap.size+1) (by omega) #[.int .i64 0]))
   clear o1 o2 hb1
   go_wp2_with fail
   refine leaves_cons (f:=38) (args:=#[.pointer (some ⟨w.heap.size,0,none⟩),.pointer (some ⟨w.heap.size+1,0,none⟩)]) (by simp) (by simp [go_sem]) ?_
   refine (idle_str _ _ _).mono ?_
   rintro e u' w8 ⟨rfl,rfl,rfl⟩
   exact ⟨_,res2s rfl rfl rfl (lv_str q1.out) (lv_err q2.out),B.out,rfl⟩
end Go.Proofs.YtieeaehabjjaoaaGreatDoor

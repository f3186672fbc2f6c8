/- The proof, part 13: texts that belong together, in one. -/
import Derived.Test.YtieeaehabjjaoaaGreatDoorHAL
set_option maxRecDepth 100000
set_option maxHeartbeats 20000000
namespace Go.Proofs.YtieeaehabjjaoaaGreatDoor
open Go.RowKit
set_option linter.unusedVariables false
set_option maxRecDepth 100000
def mF (k:Int):FuncId:=if k=1 then 79 else if k=2 then 80 else if k=3 then 81 else if k=4 then 82 else if k=5 then 83 else if k=6 then 84 else 85
theorem wt_deep {b:Nat} {txt:List UInt8} {d:Int} {fs:List Value} {W:World} (h:Wt b txt d fs W) (d':Int):Wt b txt d' fs (W.setCell ⟨b,2,none⟩ (.int .i64 d'))∧Keep (selW b) W (W.setCell ⟨b,2,none⟩ (.int .i64 d'))∧Below b W (W.setCell ⟨b,2,none⟩ (.int .i64 d')):=by
 obtain ⟨p,v,h1,h2,h3,h4,h5⟩:=h
 exact ⟨⟨p,v,heap_setCell_same W b 2 _ _ _ h1,h2,h3,h4,ownsRow_setCell_below h5 (show b<b+1 by omega) _⟩,(Keep.refl _ W).setCell (p:=⟨b,2,none⟩) _ h1 (fun hs=>hs.1 rfl),(Below.refl b W).setCell (p:=⟨b,2,none⟩) (Nat.le_refl b) _⟩
theorem wt_frozen {b:Nat} {txt:List UInt8} {d:Int} {fs:List Value} {W:World} (h:Wt b txt d fs W) (j:Nat):W.frozen? ⟨b,j,none⟩=false:=by
 obtain ⟨p,v,h1,_⟩:=h
 exact own_frozen h1 j
theorem wt_meth {b:Nat} {txt:List UInt8} {d:Int} {W:World} (h:Wt b txt d (mFs b) W) {j:Nat} {v:Value} (hj:(mFs b)[j]? = some v):W.cell? ⟨b,3+j,none⟩=some v:=by
 obtain ⟨p,u,h1,_⟩:=h
 rw [cell_of_row _ _ (3+j) _ _ _ h1,List.getElem?_toArray,show 3+j=j+3 by omega]
 exact hj
theorem tSs_append:∀ (l r:List St) (d:Nat),tSs (l++r) d=tSs l d++tSs r d
 | [],r,d=>by simp [tSs]
 | x::l,r,d=>by simp only [List.cons_append,tSs,tSs_append l r d,List.append_assoc]
def WrS (x:St):Prop:=∀ dd:Nat,dd≤64→rS x dd=true→okS x→rgS x→∀ (a3 a4 a5:Option Addr) (c3 c4 c5:Nat) (w0 w:World) (b:Nat) (txt:List UInt8),exsAt (fun _=>True) w0 x.e a3→stsAt (fun _=>True) w0 x.body a4→stsAt (fun _=>True) w0 x.els a5 →
 WTb w0→b=w0.heap.size→Below b w0 w→Wt b txt dd (mFs b) w→txt.length≤65536→Calls Tryz.prog (mF x.kind) #[.pointer (some ⟨b,0,none⟩),.agg (stCells x a3 c3 a4 c4 a5 c5).toArray] w (PutP b txt (tS x dd) dd (mFs b) w)
def WrB (l:List St):Prop:=∀ dd:Nat,rB l (dd+1)=true→okSs l→l.length≤9223372036854775807→rgSs l→∀ (a:Option Addr) (c:Nat) (w0 w:World) (b:Nat) (txt:List UInt8),stsAt (fun _=>True) w0 l a →
 WTb w0→b=w0.heap.size→Below b w0 w→Wt b txt dd (mFs b) w→txt.length≤65536→Calls Tryz.prog 46 #[.pointer (some ⟨b,0,none⟩),.slice a l.length c] w (PutP b txt (tSs l (dd+1)) dd (mFs b) w)
theorem kind_cases {k:Int} (h0:0<k) (h8:k<8):k=1∨k=2∨k=3∨k=4∨k=5∨k=6∨k=7:=by omega
theorem rAll_get:∀ {l:List St} {d:Int} {x:St},rAll l d=true→x∈l→rS x d=true
 | y :: r, d, x, h, hm => by
   simp only [rAll,Bool.and_eq_true] at h
   rcases List.mem_cons.1 hm with rfl | hm
   · exact h.1
   · exact rAll_get h.2 hm
theorem p_wblock {l:List St} (HI:∀ x∈l,WrS x):WrB l:=by
 intro dd hr hok hlen hrg a c w0 w b txt h1 TT hb0 hbw hw ht
 unfold rB at hr
 simp only [Bool.and_eq_true,decide_eq_true_eq] at hr
 have HI:=Lib.hid HI
 have HO:=Lib.hid hok
 have HRG:=Lib.hid hrg
 have HRA:=Lib.hid hr.2
 have hdd:dd+1≤64:=by omega
 have E1:=Lib.hid h1
 have HTT:=Lib.hid TT
 have HB0:=Lib.hid hb0
 have HDD:=Lib.hid hdd
 obtain ⟨n,hn⟩:∃ n,n=l.length:=⟨_,rfl⟩
 rw [← hn] at hlen ⊢
 have HN:=Lib.hid hn
 have c2:=hw.deep
 have z2:=wt_frozen hw 2
 have hwr:IntKind.i64.wrap ((dd:Int)+1)=(dd:Int)+1:=IntWalk.i64_in _ (by omega)
 obtain ⟨k1,k2,k3⟩:=wt_deep hw ((dd:Int)+1)
 obtain ⟨W0,hW0⟩:∃ W,W=w.setCell ⟨b,2,none⟩ (.int .i64 ((dd:Int)+1)):=⟨_,rfl⟩
 rw [← hW0] at k1 k2 k3
 have HS0:Hid (Wt b (txt++tSs (l.take 0) (dd+1)) ((dd:Int)+1) (mFs b) W0):=by rw [Hid,List.take_zero];simpa [tSs] using k1
 have HL0:Hid ((txt++tSs (l.take 0) (dd+1)).length≤65536):=by rw [Hid,List.take_zero];simpa [tSs] using ht
 have HC0:Hid (Below b w0 W0∧Keep (selW b) w W0∧Below b w W0):=⟨hbw.trans k3,k2,k3⟩
 have e0:=hW0.symm
 clear hr hok hrg hdd h1 TT hb0 hbw hw ht hn k1 k2 k3 hW0
 go_enter Tryz.func46,Tryz.ntmps46
 go_wp2_with fail
 clear c2 z2 e0
 go_loopg [15] (n+1) (fun m' u W=>∃ i:Nat,u=.int .i64 (i:Int)∧i≤n∧m'=n-i+1∧(txt++tSs (l.take i) (dd+1)).length≤65536∧Wt b (txt++tSs (l.take i) (dd+1)) ((dd:Int)+1) (mFs b) W∧Below b w0 W∧Keep (selW b) w W∧Below b w W)
 case atStart=>exact ⟨0,rfl,Nat.zero_le _,by omega,HL0.out,HS0.out,HC0.out⟩
 case round =>
  clear HL0 HS0 HC0
  obtain ⟨i,rfl,hi,hm,hle,hwt,hc1,hc2,hc3⟩:=hrel
  have HM:=Lib.hid hm
  have HL:=Lib.hid hle
  have HX:=Lib.hid hwt
  have HC:=Lib.hid (And.intro hc1 (And.intro hc2 hc3))
  clear hm hle hwt hc1 hc2 hc3
  by_cases hin:i<n
  · have il : i < l.length := by have := HN.out; omega
    have g1:l[i]? = some l[i]:=List.getElem?_eq_getElem il
    have hmem:l[i]∈l:=List.getElem_mem il
    have htk:l.take (i+1)=l.take i++[l[i]]:=by rw [List.take_succ_eq_append_getElem il]
    have hdr:l=l.take i++(l[i]::l.drop (i+1)):=by rw [← List.drop_eq_getElem_cons il,List.take_append_drop]
    generalize l[i]=x at g1 hmem htk hdr
    have hin':(i:Int)<(n:Int):=by omega
    rcases E1.out with e | ⟨g,q,e,_,e1⟩
    · cases l with
      | nil=>simp at il
      | cons=>cases e
    obtain rfl:a=some ⟨g,q,none⟩:=e
    have x1:=stsIn_get i x e1 g1
    obtain ⟨k,nm,ot,es,bo,el,ps⟩:=x
    obtain ⟨f0,f1,f2,⟨a3,c3,f3,w3⟩,⟨a4,c4,f4,w4⟩,⟨a5,c5,f5,w5⟩,f6⟩:=x1
    have lg:=lt_of_at f0
    simp only at lg
    rw [← HB0.out] at lg
    have hrs:=rAll_get HRA.out hmem
    have HCX:Hid (∀ t W,Below b w0 W→Wt b t ((dd:Int)+1) (mFs b) W→t.length≤65536→Calls Tryz.prog (mF k) #[.pointer (some ⟨b,0,none⟩),.agg #[.int .u8 k,.string nm,.string ot,.slice a3 es.length c3,.slice a4 bo.length c4,.slice a5 el.length c5,.int .i64 ps]] W (PutP b t (tS (.mk k nm ot es bo el ps) (dd+1)) ((dd:Int)+1) (mFs b) W)):=fun t W h1 h2 h3 =>
     HI.out _ hmem (dd+1) HDD.out hrs (okSs_mem HO.out _ hmem) (rgSs_mem HRG.out _ hmem) a3 a4 a5 c3 c4 c5 w0 W b t w3 w4 w5 HTT.out HB0.out h1 h2 h3
    have hkk:0<k∧k<8:=by
     simp only [rS,Bool.and_eq_true,decide_eq_true_eq] at hrs
     exact ⟨hrs.1,hrs.2.1⟩
    have BX:=HC.out.1
    have f0:wr.cell? ⟨g,q+i*7,none⟩=some (.int .u8 k):=(BX.cell (p:=⟨g,q+i*7,none⟩) lg).trans f0
    have f1:wr.cell? ⟨g,q+i*7+1,none⟩=some (.string nm):=(BX.cell (p:=⟨g,q+i*7+1,none⟩) lg).trans f1
    have f2:wr.cell? ⟨g,q+i*7+2,none⟩=some (.string ot):=(BX.cell (p:=⟨g,q+i*7+2,none⟩) lg).trans f2
    have f3:wr.cell? ⟨g,q+i*7+3,none⟩=some (.slice a3 es.length c3):=(BX.cell (p:=⟨g,q+i*7+3,none⟩) lg).trans f3
    have f4:wr.cell? ⟨g,q+i*7+4,none⟩=some (.slice a4 bo.length c4):=(BX.cell (p:=⟨g,q+i*7+4,none⟩) lg).trans f4
    have f5:wr.cell? ⟨g,q+i*7+5,none⟩=some (.slice a5 el.length c5):=(BX.cell (p:=⟨g,q+i*7+5,none⟩) lg).trans f5
    have f6:wr.cell? ⟨g,q+i*7+6,none⟩=some (.int .i64 ps):=(BX.cell (p:=⟨g,q+i*7+6,none⟩) lg).trans f6
    have HTK:Hid (tSs (l.take (i+1)) (dd+1)=tSs (l.take i) (dd+1)++tS (.mk k nm ot es bo el ps) (dd+1)):=by rw [Hid,htk,tSs_append];simp only [tSs,List.append_nil]
    have HDR:Hid (tSs l (dd+1)=tSs (l.take i) (dd+1)++(tS (.mk k nm ot es bo el ps) (dd+1)++tSs (l.drop (i+1)) (dd+1))):=by rw [Hid];refine (congrArg (fun z=>tSs z (dd+1)) hdr).trans ?_;show tSs (l.take i++(St.mk k nm ot es bo el ps::l.drop (i+1))) (dd+1)=_;rw [tSs_append];simp only [tSs]
    generalize tS (.mk k nm ot es bo el ps) (dd+1)=tx at HCX HTK HDR
    generalize es.length=n3 at HCX f3
    generalize bo.length=n4 at HCX f4
    generalize el.length=n5 at HCX f5
    obtain ⟨ti,hti⟩:∃ ti,ti=txt++tSs (l.take i) (dd+1):=⟨_,rfl⟩
    rw [← hti] at HL HX
    have HTI:=Lib.hid hti
    clear hti
    clear g1 hmem htk hdr e1 il BX w3 w4 w5 lg hrs
    have O1:=Own.new wr 66 #[.int .u8 k,.string nm,.string ot,.slice a3 n3 c3,.slice a4 n4 c4,.slice a5 n5 c5,.int .i64 ps]
    have al:Below wr.heap.size wr (wr.alloc (.cells #[.int .u8 k,.string nm,.string ot,.slice a3 n3 c3,.slice a4 n4 c4,.slice a5 n5 c5,.int .i64 ps] 66)):=(Below.refl _ wr).alloc (Nat.le_refl _) _
    have hlt:=HX.out.lt
    have HS:Hid (Sst w0 w b wr.heap.size #[.int .u8 k,.string nm,.string ot,.slice a3 n3 c3,.slice a4 n4 c4,.slice a5 n5 c5,.int .i64 ps] ti ((dd:Int)+1) (mFs b) (wr.alloc (.cells #[.int .u8 k,.string nm,.string ot,.slice a3 n3 c3,.slice a4 n4 c4,.slice a5 n5 c5,.int .i64 ps] 66))):=⟨O1,HX.out.below al,HC.out.1.trans (al.mono (Nat.le_of_lt hlt)),HC.out.2.1.trans (keep_below al),HC.out.2.2.trans (al.mono (Nat.le_of_lt hlt))⟩
    have HG:Hid (wr.heap.size≠b):=by rw [Hid];omega
    obtain ⟨W1,hW1⟩:∃ W,W=wr.alloc (.cells #[.int .u8 k,.string nm,.string ot,.slice a3 n3 c3,.slice a4 n4 c4,.slice a5 n5 c5,.int .i64 ps] 66):=⟨_,rfl⟩
    rw [← hW1] at HS
    have HW1:=Lib.hid hW1
    clear O1 al hlt hW1
    have HKK:=Lib.hid hkk
    clear hkk
    rcases kind_cases HKK.out.1 HKK.out.2 with rfl | rfl | rfl | rfl | rfl | rfl | rfl
    · rw [show mF 1 = 79 from rfl] at HCX
      go_upto_region 4 with (fail)
      rw [← HW1.out]
      refine wp_region_held (S:=fun W=>∃ t,Sst w0 w b wr.heap.size #[.int .u8 1,.string nm,.string ot,.slice a3 n3 c3,.slice a4 n4 c4,.slice a5 n5 c5,.int .i64 ps] t ((dd:Int)+1) (mFs b) W) (by kernel_rfl) ?_
      change wpAnyH _ _ _ _ _ _ _ _ W1.drew
      have D0:=sst_below HS.out (below_drewN (Below.refl _ W1) 1)
      change Sst _ _ _ _ _ _ _ _ W1.drew at D0
      obtain ⟨W2,hW2⟩:∃ W,W=W1.drew:=⟨_,rfl⟩
      rw [← hW2] at D0 ⊢
      have HD0:=Lib.hid D0
      clear D0 hW2
      refine dr_take 0 (.pointer (some ⟨b,0,none⟩)) rfl rfl (by kernel_rfl) (by kernel_rfl) (by kernel_rfl) (fun _ _ _ h=>h) (fun _ _=>rfl) ⟨_,HD0.out⟩ ?_
      change wpAnyH _ _ _ _ _ _ _ { tmps:=List.toArray (_::_::_::_::_::_::_::_::_::_::_::_::_::_::_::_::_::_::_::_::_::_::_::_::_::_::_::_::_::_::_::_::_::_::_::_::[]),defers:=[] } _
      refine dr_take 1 (.pointer (some ⟨wr.heap.size,0,none⟩)) rfl rfl (by kernel_rfl) (by kernel_rfl) (by kernel_rfl) (fun _ _ _ h=>h) (fun _ _=>by unfold execOp;go_simp) ⟨_,HD0.out⟩ ?_
      change wpAnyH _ _ _ _ _ _ _ { tmps:=List.toArray (_::_::_::_::_::_::_::_::_::_::_::_::_::_::_::_::_::_::_::_::_::_::_::_::_::_::_::_::_::_::_::_::_::_::_::_::[]),defers:=[] } _
      refine dr_take 2 (.int .u8 1) rfl rfl (by kernel_rfl) (by kernel_rfl) (by kernel_rfl) (fun _ _ _ h=>h) (fun W h=>by obtain ⟨t,h1,_⟩:=h;have c0:W.cell? ⟨wr.heap.size,0,none⟩=some (.int .u8 1):=(by rw [cell_of_row _ _ 0 _ _ _ h1];rfl);unfold execOp;go_simp) ⟨_,HD0.out⟩ ?_
      change wpAnyH _ _ _ _ _ _ _ { tmps:=List.toArray (_::_::_::_::_::_::_::_::_::_::_::_::_::_::_::_::_::_::_::_::_::_::_::_::_::_::_::_::_::_::_::_::_::_::_::_::[]),defers:=[] } _
      refine dr_take 3 (.pointer (some ⟨b,0,none⟩)) rfl rfl (by kernel_rfl) (by kernel_rfl) (by kernel_rfl) (fun _ _ _ h=>h) (fun _ _=>by unfold execOp;go_simp) ⟨_,HD0.out⟩ ?_
      change wpAnyH _ _ _ _ _ _ _ { tmps:=List.toArray (_::_::_::_::_::_::_::_::_::_::_::_::_::_::_::_::_::_::_::_::_::_::_::_::_::_::_::_::_::_::_::_::_::_::_::_::[]),defers:=[] } _
      refine dr_take 4 (.pointer (some ⟨b,3,none⟩)) rfl rfl (by kernel_rfl) (by kernel_rfl) (by kernel_rfl) (fun _ _ _ h=>h) (fun _ _=>by unfold execOp;go_simp) ⟨_,HD0.out⟩ ?_
      change wpAnyH _ _ _ _ _ _ _ { tmps:=List.toArray (_::_::_::_::_::_::_::_::_::_::_::_::_::_::_::_::_::_::_::_::_::_::_::_::_::_::_::_::_::_::_::_::_::_::_::_::[]),defers:=[] } _
      refine dr_take 5 (.pointer (some ⟨b,3+1,none⟩)) rfl rfl (by kernel_rfl) (by kernel_rfl) (by kernel_rfl) (fun _ _ _ h=>h) (fun _ _=>by unfold execOp;go_simp) ⟨_,HD0.out⟩ ?_
      change wpAnyH _ _ _ _ _ _ _ { tmps:=List.toArray (_::_::_::_::_::_::_::_::_::_::_::_::_::_::_::_::_::_::_::_::_::_::_::_::_::_::_::_::_::_::_::_::_::_::_::_::[]),defers:=[] } _
      refine dr_take 6 (.func (.func 79) #[.pointer (some ⟨b,0,none⟩)] #[]) rfl rfl (by kernel_rfl) (by kernel_rfl) (by kernel_rfl) (fun _ _ _ h=>h) (fun W h=>by obtain ⟨t,h1,h2,_⟩:=h;have c0:=wt_meth h2 (j:=1) rfl;unfold execOp;go_simp) ⟨_,HD0.out⟩ ?_
      change wpAnyH _ _ _ _ _ _ _ { tmps:=List.toArray (_::_::_::_::_::_::_::_::_::_::_::_::_::_::_::_::_::_::_::_::_::_::_::_::_::_::_::_::_::_::_::_::_::_::_::_::[]),defers:=[] } _
      refine dr_take 7 (.agg #[.int .u8 1,.string nm,.string ot,.slice a3 n3 c3,.slice a4 n4 c4,.slice a5 n5 c5,.int .i64 ps]) rfl rfl (by kernel_rfl) (by kernel_rfl) (by kernel_rfl) (fun _ _ _ h=>h) (fun W h=>by obtain ⟨t,h1,_⟩:=h;have c0:W.cell? ⟨wr.heap.size,0,none⟩=some (.int .u8 1):=(by rw [cell_of_row _ _ 0 _ _ _ h1];rfl);have c1:W.cell? ⟨wr.heap.size,1,none⟩=some (.string nm):=(by rw [cell_of_row _ _ 1 _ _ _ h1];rfl);have c2:W.cell? ⟨wr.heap.size,2,none⟩=some (.string ot):=(by rw [cell_of_row _ _ 2 _ _ _ h1];rfl);have c3:W.cell? ⟨wr.heap.size,3,none⟩=some (.slice a3 n3 c3):=(by rw [cell_of_row _ _ 3 _ _ _ h1];rfl);have c4:W.cell? ⟨wr.heap.size,4,none⟩=some (.slice a4 n4 c4):=(by rw [cell_of_row _ _ 4 _ _ _ h1];rfl);have c5:W.cell? ⟨wr.heap.size,5,none⟩=some (.slice a5 n5 c5):=(by rw [cell_of_row _ _ 5 _ _ _ h1];rfl);have c6:W.cell? ⟨wr.heap.size,6,none⟩=some (.int .i64 ps):=(by rw [cell_of_row _ _ 6 _ _ _ h1];rfl);unfold execOp;go_simp) ⟨_,HD0.out⟩ ?_
      change wpAnyH _ _ _ _ _ _ _ { tmps:=List.toArray (_::_::_::_::_::_::_::_::_::_::_::_::_::_::_::_::_::_::_::_::_::_::_::_::_::_::_::_::_::_::_::_::_::_::_::_::[]),defers:=[] } _
      refine dr_one 8 rfl rfl (by kernel_rfl) ?_
      refine wp_call (vs:=#[.pointer (some ⟨b,0,none⟩),.agg #[.int .u8 1,.string nm,.string ot,.slice a3 n3 c3,.slice a4 n4 c4,.slice a5 n5 c5,.int .i64 ps]]) rfl rfl (enters_of Tryz.func79 (by kernel_rfl) rfl) (by simp [Act.eval]) (HCX.out _ _ HD0.out.2.2.1 HD0.out.2.1 HL.out) ?_
      rintro e w8 hh
      rcases hh.cases with ⟨hx,rfl,hw,hk,hb⟩ | ⟨hx,rfl,hb⟩
      rotate_left
      · exact ⟨rfl,HD0.out.2.2.2.2.trans hb,.inr ⟨by rw [HDR.out];rw [HTI.out] at hx;simp at hx ⊢;omega,rfl⟩⟩
      have HX1:=Lib.hid (sst_put HD0.out HG.out hw hk hb)
      have HK1:=Lib.hid hx
      clear hx hw hk hb hh HD0
      refine ⟨⟨_,HX1.out⟩,?_⟩
      refine wpAnyH_done (by kernel_rfl) ?_ _
      have hwi:IntKind.i64.wrap ((i:Int)+1)=(i:Int)+1:=IntWalk.i64_in _ (by omega)
      go_wp2_with fail
      go_roundg (n-(i+1)+1)
      case measure=>have:=HM.out;omega
      case rel =>
       refine ⟨i+1,by simp,by omega,by omega,?_,?_,HX1.out.2.2.1,HX1.out.2.2.2.1,HX1.out.2.2.2.2⟩
       · rw [HTK.out,← List.append_assoc,← HTI.out];exact HK1.out
       · rw [HTK.out,← List.append_assoc,← HTI.out];exact HX1.out.2.1
    · rw [show mF 2 = 80 from rfl] at HCX
      go_upto_region 4 with (fail)
      rw [← HW1.out]
      refine wp_region_held (S:=fun W=>∃ t,Sst w0 w b wr.heap.size #[.int .u8 2,.string nm,.string ot,.slice a3 n3 c3,.slice a4 n4 c4,.slice a5 n5 c5,.int .i64 ps] t ((dd:Int)+1) (mFs b) W) (by kernel_rfl) ?_
      change wpAnyH _ _ _ _ _ _ _ _ W1.drew
      have D0:=sst_below HS.out (below_drewN (Below.refl _ W1) 1)
      change Sst _ _ _ _ _ _ _ _ W1.drew at D0
      obtain ⟨W2,hW2⟩:∃ W,W=W1.drew:=⟨_,rfl⟩
      rw [← hW2] at D0 ⊢
      have HD0:=Lib.hid D0
      clear D0 hW2
      refine dr_take 0 (.pointer (some ⟨b,0,none⟩)) rfl rfl (by kernel_rfl) (by kernel_rfl) (by kernel_rfl) (fun _ _ _ h=>h) (fun _ _=>rfl) ⟨_,HD0.out⟩ ?_
      change wpAnyH _ _ _ _ _ _ _ { tmps:=List.toArray (_::_::_::_::_::_::_::_::_::_::_::_::_::_::_::_::_::_::_::_::_::_::_::_::_::_::_::_::_::_::_::_::_::_::_::_::[]),defers:=[] } _
      refine dr_take 1 (.pointer (some ⟨wr.heap.size,0,none⟩)) rfl rfl (by kernel_rfl) (by kernel_rfl) (by kernel_rfl) (fun _ _ _ h=>h) (fun _ _=>by unfold execOp;go_simp) ⟨_,HD0.out⟩ ?_
      change wpAnyH _ _ _ _ _ _ _ { tmps:=List.toArray (_::_::_::_::_::_::_::_::_::_::_::_::_::_::_::_::_::_::_::_::_::_::_::_::_::_::_::_::_::_::_::_::_::_::_::_::[]),defers:=[] } _
      refine dr_take 2 (.int .u8 2) rfl rfl (by kernel_rfl) (by kernel_rfl) (by kernel_rfl) (fun _ _ _ h=>h) (fun W h=>by obtain ⟨t,h1,_⟩:=h;have c0:W.cell? ⟨wr.heap.size,0,none⟩=some (.int .u8 2):=(by rw [cell_of_row _ _ 0 _ _ _ h1];rfl);unfold execOp;go_simp) ⟨_,HD0.out⟩ ?_
      change wpAnyH _ _ _ _ _ _ _ { tmps:=List.toArray (_::_::_::_::_::_::_::_::_::_::_::_::_::_::_::_::_::_::_::_::_::_::_::_::_::_::_::_::_::_::_::_::_::_::_::_::[]),defers:=[] } _
      refine dr_take 3 (.pointer (some ⟨b,0,none⟩)) rfl rfl (by kernel_rfl) (by kernel_rfl) (by kernel_rfl) (fun _ _ _ h=>h) (fun _ _=>by unfold execOp;go_simp) ⟨_,HD0.out⟩ ?_
      change wpAnyH _ _ _ _ _ _ _ { tmps:=List.toArray (_::_::_::_::_::_::_::_::_::_::_::_::_::_::_::_::_::_::_::_::_::_::_::_::_::_::_::_::_::_::_::_::_::_::_::_::[]),defers:=[] } _
      refine dr_take 4 (.pointer (some ⟨b,3,none⟩)) rfl rfl (by kernel_rfl) (by kernel_rfl) (by kernel_rfl) (fun _ _ _ h=>h) (fun _ _=>by unfold execOp;go_simp) ⟨_,HD0.out⟩ ?_
      change wpAnyH _ _ _ _ _ _ _ { tmps:=List.toArray (_::_::_::_::_::_::_::_::_::_::_::_::_::_::_::_::_::_::_::_::_::_::_::_::_::_::_::_::_::_::_::_::_::_::_::_::[]),defers:=[] } _
      refine dr_take 5 (.pointer (some ⟨b,3+2,none⟩)) rfl rfl (by kernel_rfl) (by kernel_rfl) (by kernel_rfl) (fun _ _ _ h=>h) (fun _ _=>by unfold execOp;go_simp) ⟨_,HD0.out⟩ ?_
      change wpAnyH _ _ _ _ _ _ _ { tmps:=List.toArray (_::_::_::_::_::_::_::_::_::_::_::_::_::_::_::_::_::_::_::_::_::_::_::_::_::_::_::_::_::_::_::_::_::_::_::_::[]),defers:=[] } _
      refine dr_take 6 (.func (.func 80) #[.pointer (some ⟨b,0,none⟩)] #[]) rfl rfl (by kernel_rfl) (by kernel_rfl) (by kernel_rfl) (fun _ _ _ h=>h) (fun W h=>by obtain ⟨t,h1,h2,_⟩:=h;have c0:=wt_meth h2 (j:=2) rfl;unfold execOp;go_simp) ⟨_,HD0.out⟩ ?_
      change wpAnyH _ _ _ _ _ _ _ { tmps:=List.toArray (_::_::_::_::_::_::_::_::_::_::_::_::_::_::_::_::_::_::_::_::_::_::_::_::_::_::_::_::_::_::_::_::_::_::_::_::[]),defers:=[] } _
      refine dr_take 7 (.agg #[.int .u8 2,.string nm,.string ot,.slice a3 n3 c3,.slice a4 n4 c4,.slice a5 n5 c5,.int .i64 ps]) rfl rfl (by kernel_rfl) (by kernel_rfl) (by kernel_rfl) (fun _ _ _ h=>h) (fun W h=>by obtain ⟨t,h1,_⟩:=h;have c0:W.cell? ⟨wr.heap.size,0,none⟩=some (.int .u8 2):=(by rw [cell_of_row _ _ 0 _ _ _ h1];rfl);have c1:W.cell? ⟨wr.heap.size,1,none⟩=some (.string nm):=(by rw [cell_of_row _ _ 1 _ _ _ h1];rfl);have c2:W.cell? ⟨wr.heap.size,2,none⟩=some (.string ot):=(by rw [cell_of_row _ _ 2 _ _ _ h1];rfl);have c3:W.cell? ⟨wr.heap.size,3,none⟩=some (.slice a3 n3 c3):=(by rw [cell_of_row _ _ 3 _ _ _ h1];rfl);have c4:W.cell? ⟨wr.heap.size,4,none⟩=some (.slice a4 n4 c4):=(by rw [cell_of_row _ _ 4 _ _ _ h1];rfl);have c5:W.cell? ⟨wr.heap.size,5,none⟩=some (.slice a5 n5 c5):=(by rw [cell_of_row _ _ 5 _ _ _ h1];rfl);have c6:W.cell? ⟨wr.heap.size,6,none⟩=some (.int .i64 ps):=(by rw [cell_of_row _ _ 6 _ _ _ h1];rfl);unfold execOp;go_simp) ⟨_,HD0.out⟩ ?_
      change wpAnyH _ _ _ _ _ _ _ { tmps:=List.toArray (_::_::_::_::_::_::_::_::_::_::_::_::_::_::_::_::_::_::_::_::_::_::_::_::_::_::_::_::_::_::_::_::_::_::_::_::[]),defers:=[] } _
      refine dr_one 8 rfl rfl (by kernel_rfl) ?_
      refine wp_call (vs:=#[.pointer (some ⟨b,0,none⟩),.agg #[.int .u8 2,.string nm,.string ot,.slice a3 n3 c3,.slice a4 n4 c4,.slice a5 n5 c5,.int .i64 ps]]) rfl rfl (enters_of Tryz.func80 (by kernel_rfl) rfl) (by simp [Act.eval]) (HCX.out _ _ HD0.out.2.2.1 HD0.out.2.1 HL.out) ?_
      rintro e w8 hh
      rcases hh.cases with ⟨hx,rfl,hw,hk,hb⟩ | ⟨hx,rfl,hb⟩
      rotate_left
      · exact ⟨rfl,HD0.out.2.2.2.2.trans hb,.inr ⟨by rw [HDR.out];rw [HTI.out] at hx;simp at hx ⊢;omega,rfl⟩⟩
      have HX1:=Lib.hid (sst_put HD0.out HG.out hw hk hb)
      have HK1:=Lib.hid hx
      clear hx hw hk hb hh HD0
      refine ⟨⟨_,HX1.out⟩,?_⟩
      refine wpAnyH_done (by kernel_rfl) ?_ _
      have hwi:IntKind.i64.wrap ((i:Int)+1)=(i:Int)+1:=IntWalk.i64_in _ (by omega)
      go_wp2_with fail
      go_roundg (n-(i+1)+1)
      case measure=>have:=HM.out;omega
      case rel =>
       refine ⟨i+1,by simp,by omega,by omega,?_,?_,HX1.out.2.2.1,HX1.out.2.2.2.1,HX1.out.2.2.2.2⟩
       · rw [HTK.out,← List.append_assoc,← HTI.out];exact HK1.out
       · rw [HTK.out,← List.append_assoc,← HTI.out];exact HX1.out.2.1
    · rw [show mF 3 = 81 from rfl] at HCX
      go_upto_region 4 with (fail)
      rw [← HW1.out]
      refine wp_region_held (S:=fun W=>∃ t,Sst w0 w b wr.heap.size #[.int .u8 3,.string nm,.string ot,.slice a3 n3 c3,.slice a4 n4 c4,.slice a5 n5 c5,.int .i64 ps] t ((dd:Int)+1) (mFs b) W) (by kernel_rfl) ?_
      change wpAnyH _ _ _ _ _ _ _ _ W1.drew
      have D0:=sst_below HS.out (below_drewN (Below.refl _ W1) 1)
      change Sst _ _ _ _ _ _ _ _ W1.drew at D0
      obtain ⟨W2,hW2⟩:∃ W,W=W1.drew:=⟨_,rfl⟩
      rw [← hW2] at D0 ⊢
      have HD0:=Lib.hid D0
      clear D0 hW2
      refine dr_take 0 (.pointer (some ⟨b,0,none⟩)) rfl rfl (by kernel_rfl) (by kernel_rfl) (by kernel_rfl) (fun _ _ _ h=>h) (fun _ _=>rfl) ⟨_,HD0.out⟩ ?_
      change wpAnyH _ _ _ _ _ _ _ { tmps:=List.toArray (_::_::_::_::_::_::_::_::_::_::_::_::_::_::_::_::_::_::_::_::_::_::_::_::_::_::_::_::_::_::_::_::_::_::_::_::[]),defers:=[] } _
      refine dr_take 1 (.pointer (some ⟨wr.heap.size,0,none⟩)) rfl rfl (by kernel_rfl) (by kernel_rfl) (by kernel_rfl) (fun _ _ _ h=>h) (fun _ _=>by unfold execOp;go_simp) ⟨_,HD0.out⟩ ?_
      change wpAnyH _ _ _ _ _ _ _ { tmps:=List.toArray (_::_::_::_::_::_::_::_::_::_::_::_::_::_::_::_::_::_::_::_::_::_::_::_::_::_::_::_::_::_::_::_::_::_::_::_::[]),defers:=[] } _
      refine dr_take 2 (.int .u8 3) rfl rfl (by kernel_rfl) (by kernel_rfl) (by kernel_rfl) (fun _ _ _ h=>h) (fun W h=>by obtain ⟨t,h1,_⟩:=h;have c0:W.cell? ⟨wr.heap.size,0,none⟩=some (.int .u8 3):=(by rw [cell_of_row _ _ 0 _ _ _ h1];rfl);unfold execOp;go_simp) ⟨_,HD0.out⟩ ?_
      change wpAnyH _ _ _ _ _ _ _ { tmps:=List.toArray (_::_::_::_::_::_::_::_::_::_::_::_::_::_::_::_::_::_::_::_::_::_::_::_::_::_::_::_::_::_::_::_::_::_::_::_::[]),defers:=[] } _
      refine dr_take 3 (.pointer (some ⟨b,0,none⟩)) rfl rfl (by kernel_rfl) (by kernel_rfl) (by kernel_rfl) (fun _ _ _ h=>h) (fun _ _=>by unfold execOp;go_simp) ⟨_,HD0.out⟩ ?_
      change wpAnyH _ _ _ _ _ _ _ { tmps:=List.toArray (_::_::_::_::_::_::_::_::_::_::_::_::_::_::_::_::_::_::_::_::_::_::_::_::_::_::_::_::_::_::_::_::_::_::_::_::[]),defers:=[] } _
      refine dr_take 4 (.pointer (some ⟨b,3,none⟩)) rfl rfl (by kernel_rfl) (by kernel_rfl) (by kernel_rfl) (fun _ _ _ h=>h) (fun _ _=>by unfold execOp;go_simp) ⟨_,HD0.out⟩ ?_
      change wpAnyH _ _ _ _ _ _ _ { tmps:=List.toArray (_::_::_::_::_::_::_::_::_::_::_::_::_::_::_::_::_::_::_::_::_::_::_::_::_::_::_::_::_::_::_::_::_::_::_::_::[]),defers:=[] } _
      refine dr_take 5 (.pointer (some ⟨b,3+3,none⟩)) rfl rfl (by kernel_rfl) (by kernel_rfl) (by kernel_rfl) (fun _ _ _ h=>h) (fun _ _=>by unfold execOp;go_simp) ⟨_,HD0.out⟩ ?_
      change wpAnyH _ _ _ _ _ _ _ { tmps:=List.toArray (_::_::_::_::_::_::_::_::_::_::_::_::_::_::_::_::_::_::_::_::_::_::_::_::_::_::_::_::_::_::_::_::_::_::_::_::[]),defers:=[] } _
      refine dr_take 6 (.func (.func 81) #[.pointer (some ⟨b,0,none⟩)] #[]) rfl rfl (by kernel_rfl) (by kernel_rfl) (by kernel_rfl) (fun _ _ _ h=>h) (fun W h=>by obtain ⟨t,h1,h2,_⟩:=h;have c0:=wt_meth h2 (j:=3) rfl;unfold execOp;go_simp) ⟨_,HD0.out⟩ ?_
      change wpAnyH _ _ _ _ _ _ _ { tmps:=List.toArray (_::_::_::_::_::_::_::_::_::_::_::_::_::_::_::_::_::_::_::_::_::_::_::_::_::_::_::_::_::_::_::_::_::_::_::_::[]),defers:=[] } _
      refine dr_take 7 (.agg #[.int .u8 3,.string nm,.string ot,.slice a3 n3 c3,.slice a4 n4 c4,.slice a5 n5 c5,.int .i64 ps]) rfl rfl (by kernel_rfl) (by kernel_rfl) (by kernel_rfl) (fun _ _ _ h=>h) (fun W h=>by obtain ⟨t,h1,_⟩:=h;have c0:W.cell? ⟨wr.heap.size,0,none⟩=some (.int .u8 3):=(by rw [cell_of_row _ _ 0 _ _ _ h1];rfl);have c1:W.cell? ⟨wr.heap.size,1,none⟩=some (.string nm):=(by rw [cell_of_row _ _ 1 _ _ _ h1];rfl);have c2:W.cell? ⟨wr.heap.size,2,none⟩=some (.string ot):=(by rw [cell_of_row _ _ 2 _ _ _ h1];rfl);have c3:W.cell? ⟨wr.heap.size,3,none⟩=some (.slice a3 n3 c3):=(by rw [cell_of_row _ _ 3 _ _ _ h1];rfl);have c4:W.cell? ⟨wr.heap.size,4,none⟩=some (.slice a4 n4 c4):=(by rw [cell_of_row _ _ 4 _ _ _ h1];rfl);have c5:W.cell? ⟨wr.heap.size,5,none⟩=some (.slice a5 n5 c5):=(by rw [cell_of_row _ _ 5 _ _ _ h1];rfl);have c6:W.cell? ⟨wr.heap.size,6,none⟩=some (.int .i64 ps):=(by rw [cell_of_row _ _ 6 _ _ _ h1];rfl);unfold execOp;go_simp) ⟨_,HD0.out⟩ ?_
      change wpAnyH _ _ _ _ _ _ _ { tmps:=List.toArray (_::_::_::_::_::_::_::_::_::_::_::_::_::_::_::_::_::_::_::_::_::_::_::_::_::_::_::_::_::_::_::_::_::_::_::_::[]),defers:=[] } _
      refine dr_one 8 rfl rfl (by kernel_rfl) ?_
      refine wp_call (vs:=#[.pointer (some ⟨b,0,none⟩),.agg #[.int .u8 3,.string nm,.string ot,.slice a3 n3 c3,.slice a4 n4 c4,.slice a5 n5 c5,.int .i64 ps]]) rfl rfl (enters_of Tryz.func81 (by kernel_rfl) rfl) (by simp [Act.eval]) (HCX.out _ _ HD0.out.2.2.1 HD0.out.2.1 HL.out) ?_
      rintro e w8 hh
      rcases hh.cases with ⟨hx,rfl,hw,hk,hb⟩ | ⟨hx,rfl,hb⟩
      rotate_left
      · exact ⟨rfl,HD0.out.2.2.2.2.trans hb,.inr ⟨by rw [HDR.out];rw [HTI.out] at hx;simp at hx ⊢;omega,rfl⟩⟩
      have HX1:=Lib.hid (sst_put HD0.out HG.out hw hk hb)
      have HK1:=Lib.hid hx
      clear hx hw hk hb hh HD0
      refine ⟨⟨_,HX1.out⟩,?_⟩
      refine wpAnyH_done (by kernel_rfl) ?_ _
      have hwi:IntKind.i64.wrap ((i:Int)+1)=(i:Int)+1:=IntWalk.i64_in _ (by omega)
      go_wp2_with fail
      go_roundg (n-(i+1)+1)
      case measure=>have:=HM.out;omega
      case rel =>
       refine ⟨i+1,by simp,by omega,by omega,?_,?_,HX1.out.2.2.1,HX1.out.2.2.2.1,HX1.out.2.2.2.2⟩
       · rw [HTK.out,← List.append_assoc,← HTI.out];exact HK1.out
       · rw [HTK.out,← List.append_assoc,← HTI.out];exact HX1.out.2.1
    · rw [show mF 4 = 82 from rfl] at HCX
      go_upto_region 4 with (fail)
      rw [← HW1.out]
      refine wp_region_held (S:=fun W=>∃ t,Sst w0 w b wr.heap.size #[.int .u8 4,.string nm,.string ot,.slice a3 n3 c3,.slice a4 n4 c4,.slice a5 n5 c5,.int .i64 ps] t ((dd:Int)+1) (mFs b) W) (by kernel_rfl) ?_
      change wpAnyH _ _ _ _ _ _ _ _ W1.drew
      have D0:=sst_below HS.out (below_drewN (Below.refl _ W1) 1)
      change Sst _ _ _ _ _ _ _ _ W1.drew at D0
      obtain ⟨W2,hW2⟩:∃ W,W=W1.drew:=⟨_,rfl⟩
      rw [← hW2] at D0 ⊢
      have HD0:=Lib.hid D0
      clear D0 hW2
      refine dr_take 0 (.pointer (some ⟨b,0,none⟩)) rfl rfl (by kernel_rfl) (by kernel_rfl) (by kernel_rfl) (fun _ _ _ h=>h) (fun _ _=>rfl) ⟨_,HD0.out⟩ ?_
      change wpAnyH _ _ _ _ _ _ _ { tmps:=List.toArray (_::_::_::_::_::_::_::_::_::_::_::_::_::_::_::_::_::_::_::_::_::_::_::_::_::_::_::_::_::_::_::_::_::_::_::_::[]),defers:=[] } _
      refine dr_take 1 (.pointer (some ⟨wr.heap.size,0,none⟩)) rfl rfl (by kernel_rfl) (by kernel_rfl) (by kernel_rfl) (fun _ _ _ h=>h) (fun _ _=>by unfold execOp;go_simp) ⟨_,HD0.out⟩ ?_
      change wpAnyH _ _ _ _ _ _ _ { tmps:=List.toArray (_::_::_::_::_::_::_::_::_::_::_::_::_::_::_::_::_::_::_::_::_::_::_::_::_::_::_::_::_::_::_::_::_::_::_::_::[]),defers:=[] } _
      refine dr_take 2 (.int .u8 4) rfl rfl (by kernel_rfl) (by kernel_rfl) (by kernel_rfl) (fun _ _ _ h=>h) (fun W h=>by obtain ⟨t,h1,_⟩:=h;have c0:W.cell? ⟨wr.heap.size,0,none⟩=some (.int .u8 4):=(by rw [cell_of_row _ _ 0 _ _ _ h1];rfl);unfold execOp;go_simp) ⟨_,HD0.out⟩ ?_
      change wpAnyH _ _ _ _ _ _ _ { tmps:=List.toArray (_::_::_::_::_::_::_::_::_::_::_::_::_::_::_::_::_::_::_::_::_::_::_::_::_::_::_::_::_::_::_::_::_::_::_::_::[]),defers:=[] } _
      refine dr_take 3 (.pointer (some ⟨b,0,none⟩)) rfl rfl (by kernel_rfl) (by kernel_rfl) (by kernel_rfl) (fun _ _ _ h=>h) (fun _ _=>by unfold execOp;go_simp) ⟨_,HD0.out⟩ ?_
      change wpAnyH _ _ _ _ _ _ _ { tmps:=List.toArray (_::_::_::_::_::_::_::_::_::_::_::_::_::_::_::_::_::_::_::_::_::_::_::_::_::_::_::_::_::_::_::_::_::_::_::_::[]),defers:=[] } _
      refine dr_take 4 (.pointer (some ⟨b,3,none⟩)) rfl rfl (by kernel_rfl) (by kernel_rfl) (by kernel_rfl) (fun _ _ _ h=>h) (fun _ _=>by unfold execOp;go_simp) ⟨_,HD0.out⟩ ?_
      change wpAnyH _ _ _ _ _ _ _ { tmps:=List.toArray (_::_::_::_::_::_::_::_::_::_::_::_::_::_::_::_::_::_::_::_::_::_::_::_::_::_::_::_::_::_::_::_::_::_::_::_::[]),defers:=[] } _
      refine dr_take 5 (.pointer (some ⟨b,3+4,none⟩)) rfl rfl (by kernel_rfl) (by kernel_rfl) (by kernel_rfl) (fun _ _ _ h=>h) (fun _ _=>by unfold execOp;go_simp) ⟨_,HD0.out⟩ ?_
      change wpAnyH _ _ _ _ _ _ _ { tmps:=List.toArray (_::_::_::_::_::_::_::_::_::_::_::_::_::_::_::_::_::_::_::_::_::_::_::_::_::_::_::_::_::_::_::_::_::_::_::_::[]),defers:=[] } _
      refine dr_take 6 (.func (.func 82) #[.pointer (some ⟨b,0,none⟩)] #[]) rfl rfl (by kernel_rfl) (by kernel_rfl) (by kernel_rfl) (fun _ _ _ h=>h) (fun W h=>by obtain ⟨t,h1,h2,_⟩:=h;have c0:=wt_meth h2 (j:=4) rfl;unfold execOp;go_simp) ⟨_,HD0.out⟩ ?_
      change wpAnyH _ _ _ _ _ _ _ { tmps:=List.toArray (_::_::_::_::_::_::_::_::_::_::_::_::_::_::_::_::_::_::_::_::_::_::_::_::_::_::_::_::_::_::_::_::_::_::_::_::[]),defers:=[] } _
      refine dr_take 7 (.agg #[.int .u8 4,.string nm,.string ot,.slice a3 n3 c3,.slice a4 n4 c4,.slice a5 n5 c5,.int .i64 ps]) rfl rfl (by kernel_rfl) (by kernel_rfl) (by kernel_rfl) (fun _ _ _ h=>h) (fun W h=>by obtain ⟨t,h1,_⟩:=h;have c0:W.cell? ⟨wr.heap.size,0,none⟩=some (.int .u8 4):=(by rw [cell_of_row _ _ 0 _ _ _ h1];rfl);have c1:W.cell? ⟨wr.heap.size,1,none⟩=some (.string nm):=(by rw [cell_of_row _ _ 1 _ _ _ h1];rfl);have c2:W.cell? ⟨wr.heap.size,2,none⟩=some (.string ot):=(by rw [cell_of_row _ _ 2 _ _ _ h1];rfl);have c3:W.cell? ⟨wr.heap.size,3,none⟩=some (.slice a3 n3 c3):=(by rw [cell_of_row _ _ 3 _ _ _ h1];rfl);have c4:W.cell? ⟨wr.heap.size,4,none⟩=some (.slice a4 n4 c4):=(by rw [cell_of_row _ _ 4 _ _ _ h1];rfl);have c5:W.cell? ⟨wr.heap.size,5,none⟩=some (.slice a5 n5 c5):=(by rw [cell_of_row _ _ 5 _ _ _ h1];rfl);have c6:W.cell? ⟨wr.heap.size,6,none⟩=some (.int .i64 ps):=(by rw [cell_of_row _ _ 6 _ _ _ h1];rfl);unfold execOp;go_simp) ⟨_,HD0.out⟩ ?_
      change wpAnyH _ _ _ _ _ _ _ { tmps:=List.toArray (_::_::_::_::_::_::_::_::_::_::_::_::_::_::_::_::_::_::_::_::_::_::_::_::_::_::_::_::_::_::_::_::_::_::_::_::[]),defers:=[] } _
      refine dr_one 8 rfl rfl (by kernel_rfl) ?_
      refine wp_call (vs:=#[.pointer (some ⟨b,0,none⟩),.agg #[.int .u8 4,.string nm,.string ot,.slice a3 n3 c3,.slice a4 n4 c4,.slice a5 n5 c5,.int .i64 ps]]) rfl rfl (enters_of Tryz.func82 (by kernel_rfl) rfl) (by simp [Act.eval]) (HCX.out _ _ HD0.out.2.2.1 HD0.out.2.1 HL.out) ?_
      rintro e w8 hh
      rcases hh.cases with ⟨hx,rfl,hw,hk,hb⟩ | ⟨hx,rfl,hb⟩
      rotate_left
      · exact ⟨rfl,HD0.out.2.2.2.2.trans hb,.inr ⟨by rw [HDR.out];rw [HTI.out] at hx;simp at hx ⊢;omega,rfl⟩⟩
      have HX1:=Lib.hid (sst_put HD0.out HG.out hw hk hb)
      have HK1:=Lib.hid hx
      clear hx hw hk hb hh HD0
      refine ⟨⟨_,HX1.out⟩,?_⟩
      refine wpAnyH_done (by kernel_rfl) ?_ _
      have hwi:IntKind.i64.wrap ((i:Int)+1)=(i:Int)+1:=IntWalk.i64_in _ (by omega)
      go_wp2_with fail
      go_roundg (n-(i+1)+1)
      case measure=>have:=HM.out;omega
      case rel =>
       refine ⟨i+1,by simp,by omega,by omega,?_,?_,HX1.out.2.2.1,HX1.out.2.2.2.1,HX1.out.2.2.2.2⟩
       · rw [HTK.out,← List.append_assoc,← HTI.out];exact HK1.out
       · rw [HTK.out,← List.append_assoc,← HTI.out];exact HX1.out.2.1
    · rw [show mF 5 = 83 from rfl] at HCX
      go_upto_region 4 with (fail)
      rw [← HW1.out]
      refine wp_region_held (S:=fun W=>∃ t,Sst w0 w b wr.heap.size #[.int .u8 5,.string nm,.string ot,.slice a3 n3 c3,.slice a4 n4 c4,.slice a5 n5 c5,.int .i64 ps] t ((dd:Int)+1) (mFs b) W) (by kernel_rfl) ?_
      change wpAnyH _ _ _ _ _ _ _ _ W1.drew
      have D0:=sst_below HS.out (below_drewN (Below.refl _ W1) 1)
      change Sst _ _ _ _ _ _ _ _ W1.drew at D0
      obtain ⟨W2,hW2⟩:∃ W,W=W1.drew:=⟨_,rfl⟩
      rw [← hW2] at D0 ⊢
      have HD0:=Lib.hid D0
      clear D0 hW2
      refine dr_take 0 (.pointer (some ⟨b,0,none⟩)) rfl rfl (by kernel_rfl) (by kernel_rfl) (by kernel_rfl) (fun _ _ _ h=>h) (fun _ _=>rfl) ⟨_,HD0.out⟩ ?_
      change wpAnyH _ _ _ _ _ _ _ { tmps:=List.toArray (_::_::_::_::_::_::_::_::_::_::_::_::_::_::_::_::_::_::_::_::_::_::_::_::_::_::_::_::_::_::_::_::_::_::_::_::[]),defers:=[] } _
      refine dr_take 1 (.pointer (some ⟨wr.heap.size,0,none⟩)) rfl rfl (by kernel_rfl) (by kernel_rfl) (by kernel_rfl) (fun _ _ _ h=>h) (fun _ _=>by unfold execOp;go_simp) ⟨_,HD0.out⟩ ?_
      change wpAnyH _ _ _ _ _ _ _ { tmps:=List.toArray (_::_::_::_::_::_::_::_::_::_::_::_::_::_::_::_::_::_::_::_::_::_::_::_::_::_::_::_::_::_::_::_::_::_::_::_::[]),defers:=[] } _
      refine dr_take 2 (.int .u8 5) rfl rfl (by kernel_rfl) (by kernel_rfl) (by kernel_rfl) (fun _ _ _ h=>h) (fun W h=>by obtain ⟨t,h1,_⟩:=h;have c0:W.cell? ⟨wr.heap.size,0,none⟩=some (.int .u8 5):=(by rw [cell_of_row _ _ 0 _ _ _ h1];rfl);unfold execOp;go_simp) ⟨_,HD0.out⟩ ?_
      change wpAnyH _ _ _ _ _ _ _ { tmps:=List.toArray (_::_::_::_::_::_::_::_::_::_::_::_::_::_::_::_::_::_::_::_::_::_::_::_::_::_::_::_::_::_::_::_::_::_::_::_::[]),defers:=[] } _
      refine dr_take 3 (.pointer (some ⟨b,0,none⟩)) rfl rfl (by kernel_rfl) (by kernel_rfl) (by kernel_rfl) (fun _ _ _ h=>h) (fun _ _=>by unfold execOp;go_simp) ⟨_,HD0.out⟩ ?_
      change wpAnyH _ _ _ _ _ _ _ { tmps:=List.toArray (_::_::_::_::_::_::_::_::_::_::_::_::_::_::_::_::_::_::_::_::_::_::_::_::_::_::_::_::_::_::_::_::_::_::_::_::[]),defers:=[] } _
      refine dr_take 4 (.pointer (some ⟨b,3,none⟩)) rfl rfl (by kernel_rfl) (by kernel_rfl) (by kernel_rfl) (fun _ _ _ h=>h) (fun _ _=>by unfold execOp;go_simp) ⟨_,HD0.out⟩ ?_
      change wpAnyH _ _ _ _ _ _ _ { tmps:=List.toArray (_::_::_::_::_::_::_::_::_::_::_::_::_::_::_::_::_::_::_::_::_::_::_::_::_::_::_::_::_::_::_::_::_::_::_::_::[]),defers:=[] } _
      refine dr_take 5 (.pointer (some ⟨b,3+5,none⟩)) rfl rfl (by kernel_rfl) (by kernel_rfl) (by kernel_rfl) (fun _ _ _ h=>h) (fun _ _=>by unfold execOp;go_simp) ⟨_,HD0.out⟩ ?_
      change wpAnyH _ _ _ _ _ _ _ { tmps:=List.toArray (_::_::_::_::_::_::_::_::_::_::_::_::_::_::_::_::_::_::_::_::_::_::_::_::_::_::_::_::_::_::_::_::_::_::_::_::[]),defers:=[] } _
      refine dr_take 6 (.func (.func 83) #[.pointer (some ⟨b,0,none⟩)] #[]) rfl rfl (by kernel_rfl) (by kernel_rfl) (by kernel_rfl) (fun _ _ _ h=>h) (fun W h=>by obtain ⟨t,h1,h2,_⟩:=h;have c0:=wt_meth h2 (j:=5) rfl;unfold execOp;go_simp) ⟨_,HD0.out⟩ ?_
      change wpAnyH _ _ _ _ _ _ _ { tmps:=List.toArray (_::_::_::_::_::_::_::_::_::_::_::_::_::_::_::_::_::_::_::_::_::_::_::_::_::_::_::_::_::_::_::_::_::_::_::_::[]),defers:=[] } _
      refine dr_take 7 (.agg #[.int .u8 5,.string nm,.string ot,.slice a3 n3 c3,.slice a4 n4 c4,.slice a5 n5 c5,.int .i64 ps]) rfl rfl (by kernel_rfl) (by kernel_rfl) (by kernel_rfl) (fun _ _ _ h=>h) (fun W h=>by obtain ⟨t,h1,_⟩:=h;have c0:W.cell? ⟨wr.heap.size,0,none⟩=some (.int .u8 5):=(by rw [cell_of_row _ _ 0 _ _ _ h1];rfl);have c1:W.cell? ⟨wr.heap.size,1,none⟩=some (.string nm):=(by rw [cell_of_row _ _ 1 _ _ _ h1];rfl);have c2:W.cell? ⟨wr.heap.size,2,none⟩=some (.string ot):=(by rw [cell_of_row _ _ 2 _ _ _ h1];rfl);have c3:W.cell? ⟨wr.heap.size,3,none⟩=some (.slice a3 n3 c3):=(by rw [cell_of_row _ _ 3 _ _ _ h1];rfl);have c4:W.cell? ⟨wr.heap.size,4,none⟩=some (.slice a4 n4 c4):=(by rw [cell_of_row _ _ 4 _ _ _ h1];rfl);have c5:W.cell? ⟨wr.heap.size,5,none⟩=some (.slice a5 n5 c5):=(by rw [cell_of_row _ _ 5 _ _ _ h1];rfl);have c6:W.cell? ⟨wr.heap.size,6,none⟩=some (.int .i64 ps):=(by rw [cell_of_row _ _ 6 _ _ _ h1];rfl);unfold execOp;go_simp) ⟨_,HD0.out⟩ ?_
      change wpAnyH _ _ _ _ _ _ _ { tmps:=List.toArray (_::_::_::_::_::_::_::_::_::_::_::_::_::_::_::_::_::_::_::_::_::_::_::_::_::_::_::_::_::_::_::_::_::_::_::_::[]),defers:=[] } _
      refine dr_one 8 rfl rfl (by kernel_rfl) ?_
      refine wp_call (vs:=#[.pointer (some ⟨b,0,none⟩),.agg #[.int .u8 5,.string nm,.string ot,.slice a3 n3 c3,.slice a4 n4 c4,.slice a5 n5 c5,.int .i64 ps]]) rfl rfl (enters_of Tryz.func83 (by kernel_rfl) rfl) (by simp [Act.eval]) (HCX.out _ _ HD0.out.2.2.1 HD0.out.2.1 HL.out) ?_
      rintro e w8 hh
      rcases hh.cases with ⟨hx,rfl,hw,hk,hb⟩ | ⟨hx,rfl,hb⟩
      rotate_left
      · exact ⟨rfl,HD0.out.2.2.2.2.trans hb,.inr ⟨by rw [HDR.out];rw [HTI.out] at hx;simp at hx ⊢;omega,rfl⟩⟩
      have HX1:=Lib.hid (sst_put HD0.out HG.out hw hk hb)
      have HK1:=Lib.hid hx
      clear hx hw hk hb hh HD0
      refine ⟨⟨_,HX1.out⟩,?_⟩
      refine wpAnyH_done (by kernel_rfl) ?_ _
      have hwi:IntKind.i64.wrap ((i:Int)+1)=(i:Int)+1:=IntWalk.i64_in _ (by omega)
      go_wp2_with fail
      go_roundg (n-(i+1)+1)
      case measure=>have:=HM.out;omega
      case rel =>
       refine ⟨i+1,by simp,by omega,by omega,?_,?_,HX1.out.2.2.1,HX1.out.2.2.2.1,HX1.out.2.2.2.2⟩
       · rw [HTK.out,← List.append_assoc,← HTI.out];exact HK1.out
       · rw [HTK.out,← List.append_assoc,← HTI.out];exact HX1.out.2.1
    · rw [show mF 6 = 84 from rfl] at HCX
      go_upto_region 4 with (fail)
      rw [← HW1.out]
      refine wp_region_held (S:=fun W=>∃ t,Sst w0 w b wr.heap.size #[.int .u8 6,.string nm,.string ot,.slice a3 n3 c3,.slice a4 n4 c4,.slice a5 n5 c5,.int .i64 ps] t ((dd:Int)+1) (mFs b) W) (by kernel_rfl) ?_
      change wpAnyH _ _ _ _ _ _ _ _ W1.drew
      have D0:=sst_below HS.out (below_drewN (Below.refl _ W1) 1)
      change Sst _ _ _ _ _ _ _ _ W1.drew at D0
      obtain ⟨W2,hW2⟩:∃ W,W=W1.drew:=⟨_,rfl⟩
      rw [← hW2] at D0 ⊢
      have HD0:=Lib.hid D0
      clear D0 hW2
      refine dr_take 0 (.pointer (some ⟨b,0,none⟩)) rfl rfl (by kernel_rfl) (by kernel_rfl) (by kernel_rfl) (fun _ _ _ h=>h) (fun _ _=>rfl) ⟨_,HD0.out⟩ ?_
      change wpAnyH _ _ _ _ _ _ _ { tmps:=List.toArray (_::_::_::_::_::_::_::_::_::_::_::_::_::_::_::_::_::_::_::_::_::_::_::_::_::_::_::_::_::_::_::_::_::_::_::_::[]),defers:=[] } _
      refine dr_take 1 (.pointer (some ⟨wr.heap.size,0,none⟩)) rfl rfl (by kernel_rfl) (by kernel_rfl) (by kernel_rfl) (fun _ _ _ h=>h) (fun _ _=>by unfold execOp;go_simp) ⟨_,HD0.out⟩ ?_
      change wpAnyH _ _ _ _ _ _ _ { tmps:=List.toArray (_::_::_::_::_::_::_::_::_::_::_::_::_::_::_::_::_::_::_::_::_::_::_::_::_::_::_::_::_::_::_::_::_::_::_::_::[]),defers:=[] } _
      refine dr_take 2 (.int .u8 6) rfl rfl (by kernel_rfl) (by kernel_rfl) (by kernel_rfl) (fun _ _ _ h=>h) (fun W h=>by obtain ⟨t,h1,_⟩:=h;have c0:W.cell? ⟨wr.heap.size,0,none⟩=some (.int .u8 6):=(by rw [cell_of_row _ _ 0 _ _ _ h1];rfl);unfold execOp;go_simp) ⟨_,HD0.out⟩ ?_
      change wpAnyH _ _ _ _ _ _ _ { tmps:=List.toArray (_::_::_::_::_::_::_::_::_::_::_::_::_::_::_::_::_::_::_::_::_::_::_::_::_::_::_::_::_::_::_::_::_::_::_::_::[]),defers:=[] } _
      refine dr_take 3 (.pointer (some ⟨b,0,none⟩)) rfl rfl (by kernel_rfl) (by kernel_rfl) (by kernel_rfl) (fun _ _ _ h=>h) (fun _ _=>by unfold execOp;go_simp) ⟨_,HD0.out⟩ ?_
      change wpAnyH _ _ _ _ _ _ _ { tmps:=List.toArray (_::_::_::_::_::_::_::_::_::_::_::_::_::_::_::_::_::_::_::_::_::_::_::_::_::_::_::_::_::_::_::_::_::_::_::_::[]),defers:=[] } _
      refine dr_take 4 (.pointer (some ⟨b,3,none⟩)) rfl rfl (by kernel_rfl) (by kernel_rfl) (by kernel_rfl) (fun _ _ _ h=>h) (fun _ _=>by unfold execOp;go_simp) ⟨_,HD0.out⟩ ?_
      change wpAnyH _ _ _ _ _ _ _ { tmps:=List.toArray (_::_::_::_::_::_::_::_::_::_::_::_::_::_::_::_::_::_::_::_::_::_::_::_::_::_::_::_::_::_::_::_::_::_::_::_::[]),defers:=[] } _
      refine dr_take 5 (.pointer (some ⟨b,3+6,none⟩)) rfl rfl (by kernel_rfl) (by kernel_rfl) (by kernel_rfl) (fun _ _ _ h=>h) (fun _ _=>by unfold execOp;go_simp) ⟨_,HD0.out⟩ ?_
      change wpAnyH _ _ _ _ _ _ _ { tmps:=List.toArray (_::_::_::_::_::_::_::_::_::_::_::_::_::_::_::_::_::_::_::_::_::_::_::_::_::_::_::_::_::_::_::_::_::_::_::_::[]),defers:=[] } _
      refine dr_take 6 (.func (.func 84) #[.pointer (some ⟨b,0,none⟩)] #[]) rfl rfl (by kernel_rfl) (by kernel_rfl) (by kernel_rfl) (fun _ _ _ h=>h) (fun W h=>by obtain ⟨t,h1,h2,_⟩:=h;have c0:=wt_meth h2 (j:=6) rfl;unfold execOp;go_simp) ⟨_,HD0.out⟩ ?_
      change wpAnyH _ _ _ _ _ _ _ { tmps:=List.toArray (_::_::_::_::_::_::_::_::_::_::_::_::_::_::_::_::_::_::_::_::_::_::_::_::_::_::_::_::_::_::_::_::_::_::_::_::[]),defers:=[] } _
      refine dr_take 7 (.agg #[.int .u8 6,.string nm,.string ot,.slice a3 n3 c3,.slice a4 n4 c4,.slice a5 n5 c5,.int .i64 ps]) rfl rfl (by kernel_rfl) (by kernel_rfl) (by kernel_rfl) (fun _ _ _ h=>h) (fun W h=>by obtain ⟨t,h1,_⟩:=h;have c0:W.cell? ⟨wr.heap.size,0,none⟩=some (.int .u8 6):=(by rw [cell_of_row _ _ 0 _ _ _ h1];rfl);have c1:W.cell? ⟨wr.heap.size,1,none⟩=some (.string nm):=(by rw [cell_of_row _ _ 1 _ _ _ h1];rfl);have c2:W.cell? ⟨wr.heap.size,2,none⟩=some (.string ot):=(by rw [cell_of_row _ _ 2 _ _ _ h1];rfl);have c3:W.cell? ⟨wr.heap.size,3,none⟩=some (.slice a3 n3 c3):=(by rw [cell_of_row _ _ 3 _ _ _ h1];rfl);have c4:W.cell? ⟨wr.heap.size,4,none⟩=some (.slice a4 n4 c4):=(by rw [cell_of_row _ _ 4 _ _ _ h1];rfl);have c5:W.cell? ⟨wr.heap.size,5,none⟩=some (.slice a5 n5 c5):=(by rw [cell_of_row _ _ 5 _ _ _ h1];rfl);have c6:W.cell? ⟨wr.heap.size,6,none⟩=some (.int .i64 ps):=(by rw [cell_of_row _ _ 6 _ _ _ h1];rfl);unfold execOp;go_simp) ⟨_,HD0.out⟩ ?_
      change wpAnyH _ _ _ _ _ _ _ { tmps:=List.toArray (_::_::_::_::_::_::_::_::_::_::_::_::_::_::_::_::_::_::_::_::_::_::_::_::_::_::_::_::_::_::_::_::_::_::_::_::[]),defers:=[] } _
      refine dr_one 8 rfl rfl (by kernel_rfl) ?_
      refine wp_call (vs:=#[.pointer (some ⟨b,0,none⟩),.agg #[.int .u8 6,.string nm,.string ot,.slice a3 n3 c3,.slice a4 n4 c4,.slice a5 n5 c5,.int .i64 ps]]) rfl rfl (enters_of Tryz.func84 (by kernel_rfl) rfl) (by simp [Act.eval]) (HCX.out _ _ HD0.out.2.2.1 HD0.out.2.1 HL.out) ?_
      rintro e w8 hh
      rcases hh.cases with ⟨hx,rfl,hw,hk,hb⟩ | ⟨hx,rfl,hb⟩
      rotate_left
      · exact ⟨rfl,HD0.out.2.2.2.2.trans hb,.inr ⟨by rw [HDR.out];rw [HTI.out] at hx;simp at hx ⊢;omega,rfl⟩⟩
      have HX1:=Lib.hid (sst_put HD0.out HG.out hw hk hb)
      have HK1:=Lib.hid hx
      clear hx hw hk hb hh HD0
      refine ⟨⟨_,HX1.out⟩,?_⟩
      refine wpAnyH_done (by kernel_rfl) ?_ _
      have hwi:IntKind.i64.wrap ((i:Int)+1)=(i:Int)+1:=IntWalk.i64_in _ (by omega)
      go_wp2_with fail
      go_roundg (n-(i+1)+1)
      case measure=>have:=HM.out;omega
      case rel =>
       refine ⟨i+1,by simp,by omega,by omega,?_,?_,HX1.out.2.2.1,HX1.out.2.2.2.1,HX1.out.2.2.2.2⟩
       · rw [HTK.out,← List.append_assoc,← HTI.out];exact HK1.out
       · rw [HTK.out,← List.append_assoc,← HTI.out];exact HX1.out.2.1
    · rw [show mF 7 = 85 from rfl] at HCX
      go_upto_region 4 with (fail)
      rw [← HW1.out]
      refine wp_region_held (S:=fun W=>∃ t,Sst w0 w b wr.heap.size #[.int .u8 7,.string nm,.string ot,.slice a3 n3 c3,.slice a4 n4 c4,.slice a5 n5 c5,.int .i64 ps] t ((dd:Int)+1) (mFs b) W) (by kernel_rfl) ?_
      change wpAnyH _ _ _ _ _ _ _ _ W1.drew
      have D0:=sst_below HS.out (below_drewN (Below.refl _ W1) 1)
      change Sst _ _ _ _ _ _ _ _ W1.drew at D0
      obtain ⟨W2,hW2⟩:∃ W,W=W1.drew:=⟨_,rfl⟩
      rw [← hW2] at D0 ⊢
      have HD0:=Lib.hid D0
      clear D0 hW2
      refine dr_take 0 (.pointer (some ⟨b,0,none⟩)) rfl rfl (by kernel_rfl) (by kernel_rfl) (by kernel_rfl) (fun _ _ _ h=>h) (fun _ _=>rfl) ⟨_,HD0.out⟩ ?_
      change wpAnyH _ _ _ _ _ _ _ { tmps:=List.toArray (_::_::_::_::_::_::_::_::_::_::_::_::_::_::_::_::_::_::_::_::_::_::_::_::_::_::_::_::_::_::_::_::_::_::_::_::[]),defers:=[] } _
      refine dr_take 1 (.pointer (some ⟨wr.heap.size,0,none⟩)) rfl rfl (by kernel_rfl) (by kernel_rfl) (by kernel_rfl) (fun _ _ _ h=>h) (fun _ _=>by unfold execOp;go_simp) ⟨_,HD0.out⟩ ?_
      change wpAnyH _ _ _ _ _ _ _ { tmps:=List.toArray (_::_::_::_::_::_::_::_::_::_::_::_::_::_::_::_::_::_::_::_::_::_::_::_::_::_::_::_::_::_::_::_::_::_::_::_::[]),defers:=[] } _
      refine dr_take 2 (.int .u8 7) rfl rfl (by kernel_rfl) (by kernel_rfl) (by kernel_rfl) (fun _ _ _ h=>h) (fun W h=>by obtain ⟨t,h1,_⟩:=h;have c0:W.cell? ⟨wr.heap.size,0,none⟩=some (.int .u8 7):=(by rw [cell_of_row _ _ 0 _ _ _ h1];rfl);unfold execOp;go_simp) ⟨_,HD0.out⟩ ?_
      change wpAnyH _ _ _ _ _ _ _ { tmps:=List.toArray (_::_::_::_::_::_::_::_::_::_::_::_::_::_::_::_::_::_::_::_::_::_::_::_::_::_::_::_::_::_::_::_::_::_::_::_::[]),defers:=[] } _
      refine dr_take 3 (.pointer (some ⟨b,0,none⟩)) rfl rfl (by kernel_rfl) (by kernel_rfl) (by kernel_rfl) (fun _ _ _ h=>h) (fun _ _=>by unfold execOp;go_simp) ⟨_,HD0.out⟩ ?_
      change wpAnyH _ _ _ _ _ _ _ { tmps:=List.toArray (_::_::_::_::_::_::_::_::_::_::_::_::_::_::_::_::_::_::_::_::_::_::_::_::_::_::_::_::_::_::_::_::_::_::_::_::[]),defers:=[] } _
      refine dr_take 4 (.pointer (some ⟨b,3,none⟩)) rfl rfl (by kernel_rfl) (by kernel_rfl) (by kernel_rfl) (fun _ _ _ h=>h) (fun _ _=>by unfold execOp;go_simp) ⟨_,HD0.out⟩ ?_
      change wpAnyH _ _ _ _ _ _ _ { tmps:=List.toArray (_::_::_::_::_::_::_::_::_::_::_::_::_::_::_::_::_::_::_::_::_::_::_::_::_::_::_::_::_::_::_::_::_::_::_::_::[]),defers:=[] } _
      refine dr_take 5 (.pointer (some ⟨b,3+7,none⟩)) rfl rfl (by kernel_rfl) (by kernel_rfl) (by kernel_rfl) (fun _ _ _ h=>h) (fun _ _=>by unfold execOp;go_simp) ⟨_,HD0.out⟩ ?_
      change wpAnyH _ _ _ _ _ _ _ { tmps:=List.toArray (_::_::_::_::_::_::_::_::_::_::_::_::_::_::_::_::_::_::_::_::_::_::_::_::_::_::_::_::_::_::_::_::_::_::_::_::[]),defers:=[] } _
      refine dr_take 6 (.func (.func 85) #[.pointer (some ⟨b,0,none⟩)] #[]) rfl rfl (by kernel_rfl) (by kernel_rfl) (by kernel_rfl) (fun _ _ _ h=>h) (fun W h=>by obtain ⟨t,h1,h2,_⟩:=h;have c0:=wt_meth h2 (j:=7) rfl;unfold execOp;go_simp) ⟨_,HD0.out⟩ ?_
      change wpAnyH _ _ _ _ _ _ _ { tmps:=List.toArray (_::_::_::_::_::_::_::_::_::_::_::_::_::_::_::_::_::_::_::_::_::_::_::_::_::_::_::_::_::_::_::_::_::_::_::_::[]),defers:=[] } _
      refine dr_take 7 (.agg #[.int .u8 7,.string nm,.string ot,.slice a3 n3 c3,.slice a4 n4 c4,.slice a5 n5 c5,.int .i64 ps]) rfl rfl (by kernel_rfl) (by kernel_rfl) (by kernel_rfl) (fun _ _ _ h=>h) (fun W h=>by obtain ⟨t,h1,_⟩:=h;have c0:W.cell? ⟨wr.heap.size,0,none⟩=some (.int .u8 7):=(by rw [cell_of_row _ _ 0 _ _ _ h1];rfl);have c1:W.cell? ⟨wr.heap.size,1,none⟩=some (.string nm):=(by rw [cell_of_row _ _ 1 _ _ _ h1];rfl);have c2:W.cell? ⟨wr.heap.size,2,none⟩=some (.string ot):=(by rw [cell_of_row _ _ 2 _ _ _ h1];rfl);have c3:W.cell? ⟨wr.heap.size,3,none⟩=some (.slice a3 n3 c3):=(by rw [cell_of_row _ _ 3 _ _ _ h1];rfl);have c4:W.cell? ⟨wr.heap.size,4,none⟩=some (.slice a4 n4 c4):=(by rw [cell_of_row _ _ 4 _ _ _ h1];rfl);have c5:W.cell? ⟨wr.heap.size,5,none⟩=some (.slice a5 n5 c5):=(by rw [cell_of_row _ _ 5 _ _ _ h1];rfl);have c6:W.cell? ⟨wr.heap.size,6,none⟩=some (.int .i64 ps):=(by rw [cell_of_row _ _ 6 _ _ _ h1];rfl);unfold execOp;go_simp) ⟨_,HD0.out⟩ ?_
      change wpAnyH _ _ _ _ _ _ _ { tmps:=List.toArray (_::_::_::_::_::_::_::_::_::_::_::_::_::_::_::_::_::_::_::_::_::_::_::_::_::_::_::_::_::_::_::_::_::_::_::_::[]),defers:=[] } _
      refine dr_one 8 rfl rfl (by kernel_rfl) ?_
      refine wp_call (vs:=#[.pointer (some ⟨b,0,none⟩),.agg #[.int .u8 7,.string nm,.string ot,.slice a3 n3 c3,.slice a4 n4 c4,.slice a5 n5 c5,.int .i64 ps]]) rfl rfl (enters_of Tryz.func85 (by kernel_rfl) rfl) (by simp [Act.eval]) (HCX.out _ _ HD0.out.2.2.1 HD0.out.2.1 HL.out) ?_
      rintro e w8 hh
      rcases hh.cases with ⟨hx,rfl,hw,hk,hb⟩ | ⟨hx,rfl,hb⟩
      rotate_left
      · exact ⟨rfl,HD0.out.2.2.2.2.trans hb,.inr ⟨by rw [HDR.out];rw [HTI.out] at hx;simp at hx ⊢;omega,rfl⟩⟩
      have HX1:=Lib.hid (sst_put HD0.out HG.out hw hk hb)
      have HK1:=Lib.hid hx
      clear hx hw hk hb hh HD0
      refine ⟨⟨_,HX1.out⟩,?_⟩
      refine wpAnyH_done (by kernel_rfl) ?_ _
      have hwi:IntKind.i64.wrap ((i:Int)+1)=(i:Int)+1:=IntWalk.i64_in _ (by omega)
      go_wp2_with fail
      go_roundg (n-(i+1)+1)
      case measure=>have:=HM.out;omega
      case rel =>
       refine ⟨i+1,by simp,by omega,by omega,?_,?_,HX1.out.2.2.1,HX1.out.2.2.2.1,HX1.out.2.2.2.2⟩
       · rw [HTK.out,← List.append_assoc,← HTI.out];exact HK1.out
       · rw [HTK.out,← List.append_assoc,← HTI.out];exact HX1.out.2.1
  · have hin2 : i = n := by omega
    subst hin2
    have hX:=HX.out
    have hC:=HC.out
    have hL:=HL.out
    rw [show l.take i=l by rw [HN.out,List.take_length]] at hX hL
    have c2:=hX.deep
    have z2:=wt_frozen hX 2
    have hws:wrap64 (dd:Int)=(dd:Int):=by have:=HDD.out;unfold wrap64;omega
    obtain ⟨k1,k2,k3⟩:=wt_deep hX (dd:Int)
    obtain ⟨W9,hW9⟩:∃ W,W=wr.setCell ⟨b,2,none⟩ (.int .i64 (dd:Int)):=⟨_,rfl⟩
    rw [← hW9] at k1 k2 k3
    have e9:=hW9.symm
    have HF:Hid (PutP b txt (tSs l (dd+1)) dd (mFs b) w (.returned (.tuple #[])) W9):=⟨hC.2.2.trans k3,.inl ⟨hL,rfl,k1,hC.2.1.trans k2⟩⟩
    clear hX hC hL k1 k2 k3 hW9
    go_wp2_with fail
    exact bodyPost_end (results_none rfl _ _ _) rfl HF.out
end Go.Proofs.YtieeaehabjjaoaaGreatDoor

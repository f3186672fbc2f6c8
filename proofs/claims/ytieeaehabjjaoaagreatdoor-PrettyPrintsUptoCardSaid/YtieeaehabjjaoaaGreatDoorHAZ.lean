/- The proof, part 26: texts that belong together, in one. -/
import Derived.Test.YtieeaehabjjaoaaGreatDoorHAY
set_option maxRecDepth 100000
set_option maxHeartbeats 20000000
namespace Go.Proofs.YtieeaehabjjaoaaGreatDoor
open Go.RowKit
set_option linter.unusedVariables false
set_option maxRecDepth 100000
theorem app_data (a b:ByteArray):(a++b).data.toList=a.data.toList++b.data.toList:=by rw [ByteArray.data_append,Array.toList_append]
theorem u_assign {nm ot:ByteArray} {es:List Ex} {bo el:List St} {ps:Int} {a3 a4 a5:Option Addr} {c3 c4 c5:Nat} {w0 w:World} {b:Nat} {txt:List UInt8} {d:Nat} (hd:d≤64) (hb0:b=w0.heap.size) (hbw:Below b w0 w) (hw:Ux b txt w) (hnm:nm.size≤100) (h3:exsAt (fun _=>True) w0 es a3) {y:Ex} (hes:es=[y]) (hry:rE y 0=true) (hrgy:rgE y) :
 Calls Tryz.prog 52 #[.pointer (some ⟨b,0,none⟩),.agg #[.int .u8 1,.string nm,.string ot,.slice a3 es.length c3,.slice a4 bo.length c4,.slice a5 el.length c5,.int .i64 ps],.int .i64 (d:Int)] w (UPut b txt (ln d [nm.data.toList,[32,61,32],e0T es,[59]]) w):=by
 subst hes
 obtain ⟨kY,oY,wY,nY,ksY,pY⟩:=y
 rcases h3 with e | ⟨g,q,e,_,e1⟩
 · cases e
 subst e
 obtain ⟨⟨f0,f1,f2,f3,⟨aY,cY,f4,y4⟩,f5⟩,_⟩:=e1
 have lg:=lt_of_at f0
 simp only at lg
 have HLG:Hid (g<b):=by rw [Hid,hb0];exact lg
 have HFY:=Lib.hid (And.intro f0 (And.intro f1 (And.intro f2 (And.intro f3 (And.intro f4 f5)))))
 have HEX0:∀ t W,Below b w0 W→Ux b t W→Calls Tryz.prog 95 #[.pointer (some ⟨b,0,none⟩),.agg #[.int .u8 kY,.int .u8 oY,.int .i64 wY,.string nY,.slice aY ksY.length cY,.int .i64 pY]] W (UPut b t (tE (.mk kY oY wY nY ksY pY)) W):=fun t W h1 h2=>u_expr (.mk kY oY wY nY ksY pY) 0 hry hrgy _ w0 W b t ⟨aY,cY,rfl,y4⟩ hb0 h1 h2
 simp only [e0T]
 change Calls _ _ #[_,.agg #[.int .u8 1,.string nm,.string ot,.slice (some ⟨g,q,none⟩) 1 c3,.slice a4 bo.length c4,.slice a5 el.length c5,.int .i64 ps],_] w _
 generalize tE (.mk kY oY wY nY ksY pY)=te at HEX0 ⊢
 generalize ksY.length=mY at HEX0 HFY
 clear f0 f1 f2 f3 f4 f5 y4 lg hry hrgy
 generalize bo.length=n4
 generalize el.length=n5
 have hlt:=hw.lt
 have HX0:Hid (Ust w0 w b w.heap.size 66 #[.int .u8 1,.string nm,.string ot,.slice (some ⟨g,q,none⟩) 1 c3,.slice a4 n4 c4,.slice a5 n5 c5,.int .i64 ps] txt (w.alloc (.cells #[.int .u8 1,.string nm,.string ot,.slice (some ⟨g,q,none⟩) 1 c3,.slice a4 n4 c4,.slice a5 n5 c5,.int .i64 ps] 66))):=ust_new hw hbw 66 #[.int .u8 1,.string nm,.string ot,.slice (some ⟨g,q,none⟩) 1 c3,.slice a4 n4 c4,.slice a5 n5 c5,.int .i64 ps]
 have HG:Hid (w.heap.size≠b):=by rw [Hid];omega
 have HP:Hid (∀ t W s,Ust w0 w b w.heap.size 66 #[.int .u8 1,.string nm,.string ot,.slice (some ⟨g,q,none⟩) 1 c3,.slice a4 n4 c4,.slice a5 n5 c5,.int .i64 ps] t W→s.size≤140737488289792→Calls Tryz.prog 23 #[.pointer (some ⟨b,0,none⟩),.string s] W fun e W'=>e=.returned (.tuple #[])∧Ust w0 w b w.heap.size 66 #[.int .u8 1,.string nm,.string ot,.slice (some ⟨g,q,none⟩) 1 c3,.slice a4 n4 c4,.slice a5 n5 c5,.int .i64 ps] (t++s.data.toList) W'):=fun t W s h hs=>u_put h HG.out nu_S s hs
 have HMG:Hid (∀ t W,Ust w0 w b w.heap.size 66 #[.int .u8 1,.string nm,.string ot,.slice (some ⟨g,q,none⟩) 1 c3,.slice a4 n4 c4,.slice a5 n5 c5,.int .i64 ps] t W→Calls Tryz.prog 94 #[.pointer (some ⟨b,0,none⟩),.int .i64 (d:Int)] W fun e W'=>e=.returned (.tuple #[])∧Ust w0 w b w.heap.size 66 #[.int .u8 1,.string nm,.string ot,.slice (some ⟨g,q,none⟩) 1 c3,.slice a4 n4 c4,.slice a5 n5 c5,.int .i64 ps] (t++marg d) W'):=fun t W h=>u_marg h HG.out nu_S d (by omega)
 have HEX:Hid (∀ t W,Ust w0 w b w.heap.size 66 #[.int .u8 1,.string nm,.string ot,.slice (some ⟨g,q,none⟩) 1 c3,.slice a4 n4 c4,.slice a5 n5 c5,.int .i64 ps] t W→Calls Tryz.prog 95 #[.pointer (some ⟨b,0,none⟩),.agg #[.int .u8 kY,.int .u8 oY,.int .i64 wY,.string nY,.slice aY mY cY,.int .i64 pY]] W fun e W'=>e=.returned (.tuple #[])∧Ust w0 w b w.heap.size 66 #[.int .u8 1,.string nm,.string ot,.slice (some ⟨g,q,none⟩) 1 c3,.slice a4 n4 c4,.slice a5 n5 c5,.int .i64 ps] (t++te) W'):=fun t W h=>(HEX0 t W h.2.2.1 h.2.1).mono fun _ _ hp=>ust_put h HG.out nu_S hp
 clear HEX0
 obtain ⟨W0,hW0⟩:∃ W,W=w.alloc (.cells #[.int .u8 1,.string nm,.string ot,.slice (some ⟨g,q,none⟩) 1 c3,.slice a4 n4 c4,.slice a5 n5 c5,.int .i64 ps] 66):=⟨_,rfl⟩
 rw [← hW0] at HX0
 have HW0:=Lib.hid hW0
 have hwr:IntKind.i64.wrap ((d:Int)+1)=(d:Int)+1:=IntWalk.i64_in _ (by omega)
 obtain ⟨mg,hmg⟩:∃ mg,mg=marg d:=⟨_,rfl⟩
 rw [← hmg] at HMG
 have HMGd:=Lib.hid hmg
 clear hW0 hbw hw hlt hb0 hd hmg
 go_enter Tryz.func52,Tryz.ntmps52
 go_upto_region 1 with (fail)
 rw [← HW0.out]
 clear HW0
 go_wp2_with fail
 go_at_call 94
 refine (HMG.out _ _ HX0.out).mono ?_
 rintro e w2 ⟨rfl,hx1⟩
 have HX1:=Lib.hid hx1
 clear hx1 HX0
 have c0:w2.cell? ⟨w.heap.size,0,none⟩=some (.int .u8 1):=by rw [cell_of_row _ _ 0 _ _ _ HX1.out.1];rfl
 have c1:w2.cell? ⟨w.heap.size,1,none⟩=some (.string nm):=by rw [cell_of_row _ _ 1 _ _ _ HX1.out.1];rfl
 go_wp2_with fail
 go_at_call 23
 refine (HP.out _ _ _ HX1.out (by simp only [ByteArray.size_append];show nm.size+3≤_;omega)).mono ?_
 rintro e w3 ⟨rfl,hx2⟩
 have HX2:=Lib.hid hx2
 clear hx2 HX1 c0 c1
 have c3:w3.cell? ⟨w.heap.size,3,none⟩=some (.slice (some ⟨g,q,none⟩) 1 c3):=by rw [cell_of_row _ _ 3 _ _ _ HX2.out.1];rfl
 have f0:w3.cell? ⟨g,q,none⟩=some (.int .u8 kY):=(HX2.out.2.2.1.cell (p:=⟨g,q,none⟩) HLG.out).trans HFY.out.1
 have f1:w3.cell? ⟨g,q+1,none⟩=some (.int .u8 oY):=(HX2.out.2.2.1.cell (p:=⟨g,q+1,none⟩) HLG.out).trans HFY.out.2.1
 have f2:w3.cell? ⟨g,q+2,none⟩=some (.int .i64 wY):=(HX2.out.2.2.1.cell (p:=⟨g,q+2,none⟩) HLG.out).trans HFY.out.2.2.1
 have f3:w3.cell? ⟨g,q+3,none⟩=some (.string nY):=(HX2.out.2.2.1.cell (p:=⟨g,q+3,none⟩) HLG.out).trans HFY.out.2.2.2.1
 have f4:w3.cell? ⟨g,q+4,none⟩=some (.slice aY mY cY):=(HX2.out.2.2.1.cell (p:=⟨g,q+4,none⟩) HLG.out).trans HFY.out.2.2.2.2.1
 have f5:w3.cell? ⟨g,q+5,none⟩=some (.int .i64 pY):=(HX2.out.2.2.1.cell (p:=⟨g,q+5,none⟩) HLG.out).trans HFY.out.2.2.2.2.2
 go_wp2_with fail
 go_at_call 95
 refine (HEX.out _ _ HX2.out).mono ?_
 rintro e w4 ⟨rfl,hx3⟩
 have HX3:=Lib.hid hx3
 clear hx3 HX2 c3 f0 f1 f2 f3 f4 f5
 go_wp2_with fail
 go_at_call 23
 refine (HP.out _ _ _ HX3.out (by decide)).mono ?_
 rintro e w5 ⟨rfl,hx4⟩
 have HX4:=Lib.hid hx4
 clear hx4 HX3
 have c0:w5.cell? ⟨w.heap.size,0,none⟩=some (.int .u8 1):=by rw [cell_of_row _ _ 0 _ _ _ HX4.out.1];rfl
 have HFT:=HX4.out
 rw [HMGd.out] at HFT
 simp only [app_data] at HFT
 have HF:Hid (UPut b txt (ln d [nm.data.toList,[32,61,32],te,[59]]) w (.returned (.tuple #[])) w5):=ust_done (by
  have h:=HFT
  simp only [ln,List.flatten_cons,List.flatten_nil,List.append_assoc,List.cons_append,List.nil_append,List.append_nil] at h ⊢
  exact h)
 clear HFT
 go_wp2_with fail
 first
  | exact bodyPost_end (results_none rfl _ _ _) rfl HF.out
  | exact bodyPost_ret (results_none rfl _ _ _) rfl HF.out
theorem u_swap {nm ot:ByteArray} {es:List Ex} {bo el:List St} {ps:Int} {a3 a4 a5:Option Addr} {c3 c4 c5:Nat} {w0 w:World} {b:Nat} {txt:List UInt8} {d:Nat} (hd:d≤64) (hb0:b=w0.heap.size) (hbw:Below b w0 w) (hw:Ux b txt w) (hnm:nm.size≤100) (hot:ot.size≤100) (h3:exsAt (fun _=>True) w0 es a3) {y:Ex} (hes:es=[y]) (hry:rE y 0=true) (hrgy:rgE y) :
 Calls Tryz.prog 52 #[.pointer (some ⟨b,0,none⟩),.agg #[.int .u8 2,.string nm,.string ot,.slice a3 es.length c3,.slice a4 bo.length c4,.slice a5 el.length c5,.int .i64 ps],.int .i64 (d:Int)] w (UPut b txt (ln d [nm.data.toList,[32,61,32,115,119,97,112,40],ot.data.toList,[44,32],e0T es,[41,59]]) w):=by
 subst hes
 obtain ⟨kY,oY,wY,nY,ksY,pY⟩:=y
 rcases h3 with e | ⟨g,q,e,_,e1⟩
 · cases e
 subst e
 obtain ⟨⟨f0,f1,f2,f3,⟨aY,cY,f4,y4⟩,f5⟩,_⟩:=e1
 have lg:=lt_of_at f0
 simp only at lg
 have HLG:Hid (g<b):=by rw [Hid,hb0];exact lg
 have HFY:=Lib.hid (And.intro f0 (And.intro f1 (And.intro f2 (And.intro f3 (And.intro f4 f5)))))
 have HEX0:∀ t W,Below b w0 W→Ux b t W→Calls Tryz.prog 95 #[.pointer (some ⟨b,0,none⟩),.agg #[.int .u8 kY,.int .u8 oY,.int .i64 wY,.string nY,.slice aY ksY.length cY,.int .i64 pY]] W (UPut b t (tE (.mk kY oY wY nY ksY pY)) W):=fun t W h1 h2=>u_expr (.mk kY oY wY nY ksY pY) 0 hry hrgy _ w0 W b t ⟨aY,cY,rfl,y4⟩ hb0 h1 h2
 simp only [e0T]
 change Calls _ _ #[_,.agg #[.int .u8 2,.string nm,.string ot,.slice (some ⟨g,q,none⟩) 1 c3,.slice a4 bo.length c4,.slice a5 el.length c5,.int .i64 ps],_] w _
 generalize tE (.mk kY oY wY nY ksY pY)=te at HEX0 ⊢
 generalize ksY.length=mY at HEX0 HFY
 clear f0 f1 f2 f3 f4 f5 y4 lg hry hrgy
 generalize bo.length=n4
 generalize el.length=n5
 have hlt:=hw.lt
 have HX0:Hid (Ust w0 w b w.heap.size 66 #[.int .u8 2,.string nm,.string ot,.slice (some ⟨g,q,none⟩) 1 c3,.slice a4 n4 c4,.slice a5 n5 c5,.int .i64 ps] txt (w.alloc (.cells #[.int .u8 2,.string nm,.string ot,.slice (some ⟨g,q,none⟩) 1 c3,.slice a4 n4 c4,.slice a5 n5 c5,.int .i64 ps] 66))):=ust_new hw hbw 66 #[.int .u8 2,.string nm,.string ot,.slice (some ⟨g,q,none⟩) 1 c3,.slice a4 n4 c4,.slice a5 n5 c5,.int .i64 ps]
 have HG:Hid (w.heap.size≠b):=by rw [Hid];omega
 have HP:Hid (∀ t W s,Ust w0 w b w.heap.size 66 #[.int .u8 2,.string nm,.string ot,.slice (some ⟨g,q,none⟩) 1 c3,.slice a4 n4 c4,.slice a5 n5 c5,.int .i64 ps] t W→s.size≤140737488289792→Calls Tryz.prog 23 #[.pointer (some ⟨b,0,none⟩),.string s] W fun e W'=>e=.returned (.tuple #[])∧Ust w0 w b w.heap.size 66 #[.int .u8 2,.string nm,.string ot,.slice (some ⟨g,q,none⟩) 1 c3,.slice a4 n4 c4,.slice a5 n5 c5,.int .i64 ps] (t++s.data.toList) W'):=fun t W s h hs=>u_put h HG.out nu_S s hs
 have HMG:Hid (∀ t W,Ust w0 w b w.heap.size 66 #[.int .u8 2,.string nm,.string ot,.slice (some ⟨g,q,none⟩) 1 c3,.slice a4 n4 c4,.slice a5 n5 c5,.int .i64 ps] t W→Calls Tryz.prog 94 #[.pointer (some ⟨b,0,none⟩),.int .i64 (d:Int)] W fun e W'=>e=.returned (.tuple #[])∧Ust w0 w b w.heap.size 66 #[.int .u8 2,.string nm,.string ot,.slice (some ⟨g,q,none⟩) 1 c3,.slice a4 n4 c4,.slice a5 n5 c5,.int .i64 ps] (t++marg d) W'):=fun t W h=>u_marg h HG.out nu_S d (by omega)
 have HEX:Hid (∀ t W,Ust w0 w b w.heap.size 66 #[.int .u8 2,.string nm,.string ot,.slice (some ⟨g,q,none⟩) 1 c3,.slice a4 n4 c4,.slice a5 n5 c5,.int .i64 ps] t W→Calls Tryz.prog 95 #[.pointer (some ⟨b,0,none⟩),.agg #[.int .u8 kY,.int .u8 oY,.int .i64 wY,.string nY,.slice aY mY cY,.int .i64 pY]] W fun e W'=>e=.returned (.tuple #[])∧Ust w0 w b w.heap.size 66 #[.int .u8 2,.string nm,.string ot,.slice (some ⟨g,q,none⟩) 1 c3,.slice a4 n4 c4,.slice a5 n5 c5,.int .i64 ps] (t++te) W'):=fun t W h=>(HEX0 t W h.2.2.1 h.2.1).mono fun _ _ hp=>ust_put h HG.out nu_S hp
 clear HEX0
 obtain ⟨W0,hW0⟩:∃ W,W=w.alloc (.cells #[.int .u8 2,.string nm,.string ot,.slice (some ⟨g,q,none⟩) 1 c3,.slice a4 n4 c4,.slice a5 n5 c5,.int .i64 ps] 66):=⟨_,rfl⟩
 rw [← hW0] at HX0
 have HW0:=Lib.hid hW0
 have hwr:IntKind.i64.wrap ((d:Int)+1)=(d:Int)+1:=IntWalk.i64_in _ (by omega)
 obtain ⟨mg,hmg⟩:∃ mg,mg=marg d:=⟨_,rfl⟩
 rw [← hmg] at HMG
 have HMGd:=Lib.hid hmg
 clear hW0 hbw hw hlt hb0 hd hmg
 go_enter Tryz.func52,Tryz.ntmps52
 go_upto_region 1 with (fail)
 rw [← HW0.out]
 clear HW0
 go_wp2_with fail
 go_at_call 94
 refine (HMG.out _ _ HX0.out).mono ?_
 rintro e w2 ⟨rfl,hx1⟩
 have HX1:=Lib.hid hx1
 clear hx1 HX0
 have c0:w2.cell? ⟨w.heap.size,0,none⟩=some (.int .u8 2):=by rw [cell_of_row _ _ 0 _ _ _ HX1.out.1];rfl
 have c1:w2.cell? ⟨w.heap.size,1,none⟩=some (.string nm):=by rw [cell_of_row _ _ 1 _ _ _ HX1.out.1];rfl
 have c2:w2.cell? ⟨w.heap.size,2,none⟩=some (.string ot):=by rw [cell_of_row _ _ 2 _ _ _ HX1.out.1];rfl
 go_wp2_with fail
 go_at_call 23
 refine (HP.out _ _ _ HX1.out (by simp only [ByteArray.size_append];show nm.size+8+ot.size+2≤_;omega)).mono ?_
 rintro e w3 ⟨rfl,hx2⟩
 have HX2:=Lib.hid hx2
 clear hx2 HX1 c0 c1 c2
 have c3:w3.cell? ⟨w.heap.size,3,none⟩=some (.slice (some ⟨g,q,none⟩) 1 c3):=by rw [cell_of_row _ _ 3 _ _ _ HX2.out.1];rfl
 have f0:w3.cell? ⟨g,q,none⟩=some (.int .u8 kY):=(HX2.out.2.2.1.cell (p:=⟨g,q,none⟩) HLG.out).trans HFY.out.1
 have f1:w3.cell? ⟨g,q+1,none⟩=some (.int .u8 oY):=(HX2.out.2.2.1.cell (p:=⟨g,q+1,none⟩) HLG.out).trans HFY.out.2.1
 have f2:w3.cell? ⟨g,q+2,none⟩=some (.int .i64 wY):=(HX2.out.2.2.1.cell (p:=⟨g,q+2,none⟩) HLG.out).trans HFY.out.2.2.1
 have f3:w3.cell? ⟨g,q+3,none⟩=some (.string nY):=(HX2.out.2.2.1.cell (p:=⟨g,q+3,none⟩) HLG.out).trans HFY.out.2.2.2.1
 have f4:w3.cell? ⟨g,q+4,none⟩=some (.slice aY mY cY):=(HX2.out.2.2.1.cell (p:=⟨g,q+4,none⟩) HLG.out).trans HFY.out.2.2.2.2.1
 have f5:w3.cell? ⟨g,q+5,none⟩=some (.int .i64 pY):=(HX2.out.2.2.1.cell (p:=⟨g,q+5,none⟩) HLG.out).trans HFY.out.2.2.2.2.2
 go_wp2_with fail
 go_at_call 95
 refine (HEX.out _ _ HX2.out).mono ?_
 rintro e w4 ⟨rfl,hx3⟩
 have HX3:=Lib.hid hx3
 clear hx3 HX2 c3 f0 f1 f2 f3 f4 f5
 go_wp2_with fail
 go_at_call 23
 refine (HP.out _ _ _ HX3.out (by decide)).mono ?_
 rintro e w5 ⟨rfl,hx4⟩
 have HX4:=Lib.hid hx4
 clear hx4 HX3
 have c0:w5.cell? ⟨w.heap.size,0,none⟩=some (.int .u8 2):=by rw [cell_of_row _ _ 0 _ _ _ HX4.out.1];rfl
 have HFT:=HX4.out
 rw [HMGd.out] at HFT
 simp only [app_data] at HFT
 have HF:Hid (UPut b txt (ln d [nm.data.toList,[32,61,32,115,119,97,112,40],ot.data.toList,[44,32],te,[41,59]]) w (.returned (.tuple #[])) w5):=ust_done (by
  have h:=HFT
  simp only [ln,List.flatten_cons,List.flatten_nil,List.append_assoc,List.cons_append,List.nil_append,List.append_nil] at h ⊢
  exact h)
 clear HFT
 go_wp2_with fail
 first
  | exact bodyPost_end (results_none rfl _ _ _) rfl HF.out
  | exact bodyPost_ret (results_none rfl _ _ _) rfl HF.out
theorem u_print {nm ot:ByteArray} {es:List Ex} {bo el:List St} {ps:Int} {a3 a4 a5:Option Addr} {c3 c4 c5:Nat} {w0 w:World} {b:Nat} {txt:List UInt8} {d:Nat} (hd:d≤64) (hb0:b=w0.heap.size) (hbw:Below b w0 w) (hw:Ux b txt w) (h3:exsAt (fun _=>True) w0 es a3) {y:Ex} (hes:es=[y]) (hry:rE y 0=true) (hrgy:rgE y) :
 Calls Tryz.prog 52 #[.pointer (some ⟨b,0,none⟩),.agg #[.int .u8 6,.string nm,.string ot,.slice a3 es.length c3,.slice a4 bo.length c4,.slice a5 el.length c5,.int .i64 ps],.int .i64 (d:Int)] w (UPut b txt (ln d [[112,114,105,110,116,32],e0T es,[59]]) w):=by
 subst hes
 obtain ⟨kY,oY,wY,nY,ksY,pY⟩:=y
 rcases h3 with e | ⟨g,q,e,_,e1⟩
 · cases e
 subst e
 obtain ⟨⟨f0,f1,f2,f3,⟨aY,cY,f4,y4⟩,f5⟩,_⟩:=e1
 have lg:=lt_of_at f0
 simp only at lg
 have HLG:Hid (g<b):=by rw [Hid,hb0];exact lg
 have HFY:=Lib.hid (And.intro f0 (And.intro f1 (And.intro f2 (And.intro f3 (And.intro f4 f5)))))
 have HEX0:∀ t W,Below b w0 W→Ux b t W→Calls Tryz.prog 95 #[.pointer (some ⟨b,0,none⟩),.agg #[.int .u8 kY,.int .u8 oY,.int .i64 wY,.string nY,.slice aY ksY.length cY,.int .i64 pY]] W (UPut b t (tE (.mk kY oY wY nY ksY pY)) W):=fun t W h1 h2=>u_expr (.mk kY oY wY nY ksY pY) 0 hry hrgy _ w0 W b t ⟨aY,cY,rfl,y4⟩ hb0 h1 h2
 simp only [e0T]
 change Calls _ _ #[_,.agg #[.int .u8 6,.string nm,.string ot,.slice (some ⟨g,q,none⟩) 1 c3,.slice a4 bo.length c4,.slice a5 el.length c5,.int .i64 ps],_] w _
 generalize tE (.mk kY oY wY nY ksY pY)=te at HEX0 ⊢
 generalize ksY.length=mY at HEX0 HFY
 clear f0 f1 f2 f3 f4 f5 y4 lg hry hrgy
 generalize bo.length=n4
 generalize el.length=n5
 have hlt:=hw.lt
 have HX0:Hid (Ust w0 w b w.heap.size 66 #[.int .u8 6,.string nm,.string ot,.slice (some ⟨g,q,none⟩) 1 c3,.slice a4 n4 c4,.slice a5 n5 c5,.int .i64 ps] txt (w.alloc (.cells #[.int .u8 6,.string nm,.string ot,.slice (some ⟨g,q,none⟩) 1 c3,.slice a4 n4 c4,.slice a5 n5 c5,.int .i64 ps] 66))):=ust_new hw hbw 66 #[.int .u8 6,.string nm,.string ot,.slice (some ⟨g,q,none⟩) 1 c3,.slice a4 n4 c4,.slice a5 n5 c5,.int .i64 ps]
 have HG:Hid (w.heap.size≠b):=by rw [Hid];omega
 have HP:Hid (∀ t W s,Ust w0 w b w.heap.size 66 #[.int .u8 6,.string nm,.string ot,.slice (some ⟨g,q,none⟩) 1 c3,.slice a4 n4 c4,.slice a5 n5 c5,.int .i64 ps] t W→s.size≤140737488289792→Calls Tryz.prog 23 #[.pointer (some ⟨b,0,none⟩),.string s] W fun e W'=>e=.returned (.tuple #[])∧Ust w0 w b w.heap.size 66 #[.int .u8 6,.string nm,.string ot,.slice (some ⟨g,q,none⟩) 1 c3,.slice a4 n4 c4,.slice a5 n5 c5,.int .i64 ps] (t++s.data.toList) W'):=fun t W s h hs=>u_put h HG.out nu_S s hs
 have HMG:Hid (∀ t W,Ust w0 w b w.heap.size 66 #[.int .u8 6,.string nm,.string ot,.slice (some ⟨g,q,none⟩) 1 c3,.slice a4 n4 c4,.slice a5 n5 c5,.int .i64 ps] t W→Calls Tryz.prog 94 #[.pointer (some ⟨b,0,none⟩),.int .i64 (d:Int)] W fun e W'=>e=.returned (.tuple #[])∧Ust w0 w b w.heap.size 66 #[.int .u8 6,.string nm,.string ot,.slice (some ⟨g,q,none⟩) 1 c3,.slice a4 n4 c4,.slice a5 n5 c5,.int .i64 ps] (t++marg d) W'):=fun t W h=>u_marg h HG.out nu_S d (by omega)
 have HEX:Hid (∀ t W,Ust w0 w b w.heap.size 66 #[.int .u8 6,.string nm,.string ot,.slice (some ⟨g,q,none⟩) 1 c3,.slice a4 n4 c4,.slice a5 n5 c5,.int .i64 ps] t W→Calls Tryz.prog 95 #[.pointer (some ⟨b,0,none⟩),.agg #[.int .u8 kY,.int .u8 oY,.int .i64 wY,.string nY,.slice aY mY cY,.int .i64 pY]] W fun e W'=>e=.returned (.tuple #[])∧Ust w0 w b w.heap.size 66 #[.int .u8 6,.string nm,.string ot,.slice (some ⟨g,q,none⟩) 1 c3,.slice a4 n4 c4,.slice a5 n5 c5,.int .i64 ps] (t++te) W'):=fun t W h=>(HEX0 t W h.2.2.1 h.2.1).mono fun _ _ hp=>ust_put h HG.out nu_S hp
 clear HEX0
 obtain ⟨W0,hW0⟩:∃ W,W=w.alloc (.cells #[.int .u8 6,.string nm,.string ot,.slice (some ⟨g,q,none⟩) 1 c3,.slice a4 n4 c4,.slice a5 n5 c5,.int .i64 ps] 66):=⟨_,rfl⟩
 rw [← hW0] at HX0
 have HW0:=Lib.hid hW0
 have hwr:IntKind.i64.wrap ((d:Int)+1)=(d:Int)+1:=IntWalk.i64_in _ (by omega)
 obtain ⟨mg,hmg⟩:∃ mg,mg=marg d:=⟨_,rfl⟩
 rw [← hmg] at HMG
 have HMGd:=Lib.hid hmg
 clear hW0 hbw hw hlt hb0 hd hmg
 go_enter Tryz.func52,Tryz.ntmps52
 go_upto_region 1 with (fail)
 rw [← HW0.out]
 clear HW0
 go_wp2_with fail
 go_at_call 94
 refine (HMG.out _ _ HX0.out).mono ?_
 rintro e w2 ⟨rfl,hx1⟩
 have HX1:=Lib.hid hx1
 clear hx1 HX0
 have c0:w2.cell? ⟨w.heap.size,0,none⟩=some (.int .u8 6):=by rw [cell_of_row _ _ 0 _ _ _ HX1.out.1];rfl
 go_wp2_with fail
 go_at_call 23
 refine (HP.out _ _ _ HX1.out (by decide)).mono ?_
 rintro e w3 ⟨rfl,hx2⟩
 have HX2:=Lib.hid hx2
 clear hx2 HX1 c0
 have c3:w3.cell? ⟨w.heap.size,3,none⟩=some (.slice (some ⟨g,q,none⟩) 1 c3):=by rw [cell_of_row _ _ 3 _ _ _ HX2.out.1];rfl
 have f0:w3.cell? ⟨g,q,none⟩=some (.int .u8 kY):=(HX2.out.2.2.1.cell (p:=⟨g,q,none⟩) HLG.out).trans HFY.out.1
 have f1:w3.cell? ⟨g,q+1,none⟩=some (.int .u8 oY):=(HX2.out.2.2.1.cell (p:=⟨g,q+1,none⟩) HLG.out).trans HFY.out.2.1
 have f2:w3.cell? ⟨g,q+2,none⟩=some (.int .i64 wY):=(HX2.out.2.2.1.cell (p:=⟨g,q+2,none⟩) HLG.out).trans HFY.out.2.2.1
 have f3:w3.cell? ⟨g,q+3,none⟩=some (.string nY):=(HX2.out.2.2.1.cell (p:=⟨g,q+3,none⟩) HLG.out).trans HFY.out.2.2.2.1
 have f4:w3.cell? ⟨g,q+4,none⟩=some (.slice aY mY cY):=(HX2.out.2.2.1.cell (p:=⟨g,q+4,none⟩) HLG.out).trans HFY.out.2.2.2.2.1
 have f5:w3.cell? ⟨g,q+5,none⟩=some (.int .i64 pY):=(HX2.out.2.2.1.cell (p:=⟨g,q+5,none⟩) HLG.out).trans HFY.out.2.2.2.2.2
 go_wp2_with fail
 go_at_call 95
 refine (HEX.out _ _ HX2.out).mono ?_
 rintro e w4 ⟨rfl,hx3⟩
 have HX3:=Lib.hid hx3
 clear hx3 HX2 c3 f0 f1 f2 f3 f4 f5
 go_wp2_with fail
 go_at_call 23
 refine (HP.out _ _ _ HX3.out (by decide)).mono ?_
 rintro e w5 ⟨rfl,hx4⟩
 have HX4:=Lib.hid hx4
 clear hx4 HX3
 have c0:w5.cell? ⟨w.heap.size,0,none⟩=some (.int .u8 6):=by rw [cell_of_row _ _ 0 _ _ _ HX4.out.1];rfl
 have HFT:=HX4.out
 rw [HMGd.out] at HFT
 have HF:Hid (UPut b txt (ln d [[112,114,105,110,116,32],te,[59]]) w (.returned (.tuple #[])) w5):=ust_done (by
  have h:=HFT
  simp only [ln,List.flatten_cons,List.flatten_nil,List.append_assoc,List.cons_append,List.nil_append,List.append_nil] at h ⊢
  exact h)
 clear HFT
 go_wp2_with fail
 first
  | exact bodyPost_end (results_none rfl _ _ _) rfl HF.out
  | exact bodyPost_ret (results_none rfl _ _ _) rfl HF.out
theorem u_skip {nm ot:ByteArray} {es:List Ex} {bo el:List St} {ps:Int} {a3 a4 a5:Option Addr} {c3 c4 c5:Nat} {w0 w:World} {b:Nat} {txt:List UInt8} {d:Nat} (hd:d≤64) (hb0:b=w0.heap.size) (hbw:Below b w0 w) (hw:Ux b txt w) :
 Calls Tryz.prog 52 #[.pointer (some ⟨b,0,none⟩),.agg #[.int .u8 7,.string nm,.string ot,.slice a3 es.length c3,.slice a4 bo.length c4,.slice a5 el.length c5,.int .i64 ps],.int .i64 (d:Int)] w (UPut b txt (ln d [[115,107,105,112,59]]) w):=by
 generalize es.length=n3
 generalize bo.length=n4
 generalize el.length=n5
 have hlt:=hw.lt
 have HX0:Hid (Ust w0 w b w.heap.size 66 #[.int .u8 7,.string nm,.string ot,.slice a3 n3 c3,.slice a4 n4 c4,.slice a5 n5 c5,.int .i64 ps] txt (w.alloc (.cells #[.int .u8 7,.string nm,.string ot,.slice a3 n3 c3,.slice a4 n4 c4,.slice a5 n5 c5,.int .i64 ps] 66))):=ust_new hw hbw 66 #[.int .u8 7,.string nm,.string ot,.slice a3 n3 c3,.slice a4 n4 c4,.slice a5 n5 c5,.int .i64 ps]
 have HG:Hid (w.heap.size≠b):=by rw [Hid];omega
 have HP:Hid (∀ t W s,Ust w0 w b w.heap.size 66 #[.int .u8 7,.string nm,.string ot,.slice a3 n3 c3,.slice a4 n4 c4,.slice a5 n5 c5,.int .i64 ps] t W→s.size≤140737488289792→Calls Tryz.prog 23 #[.pointer (some ⟨b,0,none⟩),.string s] W fun e W'=>e=.returned (.tuple #[])∧Ust w0 w b w.heap.size 66 #[.int .u8 7,.string nm,.string ot,.slice a3 n3 c3,.slice a4 n4 c4,.slice a5 n5 c5,.int .i64 ps] (t++s.data.toList) W'):=fun t W s h hs=>u_put h HG.out nu_S s hs
 have HMG:Hid (∀ t W,Ust w0 w b w.heap.size 66 #[.int .u8 7,.string nm,.string ot,.slice a3 n3 c3,.slice a4 n4 c4,.slice a5 n5 c5,.int .i64 ps] t W→Calls Tryz.prog 94 #[.pointer (some ⟨b,0,none⟩),.int .i64 (d:Int)] W fun e W'=>e=.returned (.tuple #[])∧Ust w0 w b w.heap.size 66 #[.int .u8 7,.string nm,.string ot,.slice a3 n3 c3,.slice a4 n4 c4,.slice a5 n5 c5,.int .i64 ps] (t++marg d) W'):=fun t W h=>u_marg h HG.out nu_S d (by omega)
 obtain ⟨W0,hW0⟩:∃ W,W=w.alloc (.cells #[.int .u8 7,.string nm,.string ot,.slice a3 n3 c3,.slice a4 n4 c4,.slice a5 n5 c5,.int .i64 ps] 66):=⟨_,rfl⟩
 rw [← hW0] at HX0
 have HW0:=Lib.hid hW0
 have hwr:IntKind.i64.wrap ((d:Int)+1)=(d:Int)+1:=IntWalk.i64_in _ (by omega)
 obtain ⟨mg,hmg⟩:∃ mg,mg=marg d:=⟨_,rfl⟩
 rw [← hmg] at HMG
 have HMGd:=Lib.hid hmg
 clear hW0 hbw hw hlt hb0 hd hmg
 go_enter Tryz.func52,Tryz.ntmps52
 go_upto_region 1 with (fail)
 rw [← HW0.out]
 clear HW0
 go_wp2_with fail
 go_at_call 94
 refine (HMG.out _ _ HX0.out).mono ?_
 rintro e w2 ⟨rfl,hx1⟩
 have HX1:=Lib.hid hx1
 clear hx1 HX0
 have c0:w2.cell? ⟨w.heap.size,0,none⟩=some (.int .u8 7):=by rw [cell_of_row _ _ 0 _ _ _ HX1.out.1];rfl
 go_wp2_with fail
 go_at_call 23
 refine (HP.out _ _ _ HX1.out (by decide)).mono ?_
 rintro e w3 ⟨rfl,hx2⟩
 have HX2:=Lib.hid hx2
 clear hx2 HX1 c0
 have c0:w3.cell? ⟨w.heap.size,0,none⟩=some (.int .u8 7):=by rw [cell_of_row _ _ 0 _ _ _ HX2.out.1];rfl
 have HFT:=HX2.out
 rw [HMGd.out] at HFT
 have HF:Hid (UPut b txt (ln d [[115,107,105,112,59]]) w (.returned (.tuple #[])) w3):=ust_done (by
  have h:=HFT
  simp only [ln,List.flatten_cons,List.flatten_nil,List.append_assoc,List.cons_append,List.nil_append,List.append_nil] at h ⊢
  exact h)
 clear HFT
 go_wp2_with fail
 first
  | exact bodyPost_end (results_none rfl _ _ _) rfl HF.out
  | exact bodyPost_ret (results_none rfl _ _ _) rfl HF.out
theorem u_guard {nm ot:ByteArray} {es:List Ex} {bo el:List St} {ps:Int} {a3 a4 a5:Option Addr} {c3 c4 c5:Nat} {w0 w:World} {b:Nat} {txt:List UInt8} {d:Nat} (hd:d≤64) (hb0:b=w0.heap.size) (hbw:Below b w0 w) (hw:Ux b txt w) (hnm:nm.size≤100) (HBL4:rB bo ((d:Int)+1)=true→∀ t W,Below b w0 W→Ux b t W→Calls Tryz.prog 24 #[.pointer (some ⟨b,0,none⟩),.slice a4 bo.length c4,.int .i64 ((d+1:Nat):Int)] W (UPut b t (tSs bo (d+1)) W)) (hr4:rB bo ((d:Int)+1)=true) (hel:((el.length:Int))=0) :
 Calls Tryz.prog 52 #[.pointer (some ⟨b,0,none⟩),.agg #[.int .u8 5,.string nm,.string ot,.slice a3 es.length c3,.slice a4 bo.length c4,.slice a5 el.length c5,.int .i64 ps],.int .i64 (d:Int)] w (UPut b txt (ln d [[108,111,99,107,32],nm.data.toList,[32,123]]++tSs bo (d+1)++ln d [[125]]) w):=by
 replace HBL4:=HBL4 hr4
 generalize tSs bo (d+1)=r4 at HBL4 ⊢
 generalize es.length=n3
 generalize bo.length=n4 at HBL4 ⊢
 generalize el.length=n5 at hel ⊢
 have hlt:=hw.lt
 have HX0:Hid (Ust w0 w b w.heap.size 66 #[.int .u8 5,.string nm,.string ot,.slice a3 n3 c3,.slice a4 n4 c4,.slice a5 n5 c5,.int .i64 ps] txt (w.alloc (.cells #[.int .u8 5,.string nm,.string ot,.slice a3 n3 c3,.slice a4 n4 c4,.slice a5 n5 c5,.int .i64 ps] 66))):=ust_new hw hbw 66 #[.int .u8 5,.string nm,.string ot,.slice a3 n3 c3,.slice a4 n4 c4,.slice a5 n5 c5,.int .i64 ps]
 have HG:Hid (w.heap.size≠b):=by rw [Hid];omega
 have HP:Hid (∀ t W s,Ust w0 w b w.heap.size 66 #[.int .u8 5,.string nm,.string ot,.slice a3 n3 c3,.slice a4 n4 c4,.slice a5 n5 c5,.int .i64 ps] t W→s.size≤140737488289792→Calls Tryz.prog 23 #[.pointer (some ⟨b,0,none⟩),.string s] W fun e W'=>e=.returned (.tuple #[])∧Ust w0 w b w.heap.size 66 #[.int .u8 5,.string nm,.string ot,.slice a3 n3 c3,.slice a4 n4 c4,.slice a5 n5 c5,.int .i64 ps] (t++s.data.toList) W'):=fun t W s h hs=>u_put h HG.out nu_S s hs
 have HMG:Hid (∀ t W,Ust w0 w b w.heap.size 66 #[.int .u8 5,.string nm,.string ot,.slice a3 n3 c3,.slice a4 n4 c4,.slice a5 n5 c5,.int .i64 ps] t W→Calls Tryz.prog 94 #[.pointer (some ⟨b,0,none⟩),.int .i64 (d:Int)] W fun e W'=>e=.returned (.tuple #[])∧Ust w0 w b w.heap.size 66 #[.int .u8 5,.string nm,.string ot,.slice a3 n3 c3,.slice a4 n4 c4,.slice a5 n5 c5,.int .i64 ps] (t++marg d) W'):=fun t W h=>u_marg h HG.out nu_S d (by omega)
 have HB4:Hid (∀ t W,Ust w0 w b w.heap.size 66 #[.int .u8 5,.string nm,.string ot,.slice a3 n3 c3,.slice a4 n4 c4,.slice a5 n5 c5,.int .i64 ps] t W→Calls Tryz.prog 24 #[.pointer (some ⟨b,0,none⟩),.slice a4 n4 c4,.int .i64 ((d:Int)+1)] W fun e W'=>e=.returned (.tuple #[])∧Ust w0 w b w.heap.size 66 #[.int .u8 5,.string nm,.string ot,.slice a3 n3 c3,.slice a4 n4 c4,.slice a5 n5 c5,.int .i64 ps] (t++r4) W'):=fun t W h=>(HBL4 t W h.2.2.1 h.2.1).mono fun _ _ hp=>ust_put h HG.out nu_S hp
 clear HBL4 hr4
 obtain ⟨W0,hW0⟩:∃ W,W=w.alloc (.cells #[.int .u8 5,.string nm,.string ot,.slice a3 n3 c3,.slice a4 n4 c4,.slice a5 n5 c5,.int .i64 ps] 66):=⟨_,rfl⟩
 rw [← hW0] at HX0
 have HW0:=Lib.hid hW0
 have hwr:IntKind.i64.wrap ((d:Int)+1)=(d:Int)+1:=IntWalk.i64_in _ (by omega)
 obtain ⟨mg,hmg⟩:∃ mg,mg=marg d:=⟨_,rfl⟩
 rw [← hmg] at HMG
 have HMGd:=Lib.hid hmg
 clear hW0 hbw hw hlt hb0 hd hmg
 go_enter Tryz.func52,Tryz.ntmps52
 go_upto_region 1 with (fail)
 rw [← HW0.out]
 clear HW0
 go_wp2_with fail
 go_at_call 94
 refine (HMG.out _ _ HX0.out).mono ?_
 rintro e w2 ⟨rfl,hx1⟩
 have HX1:=Lib.hid hx1
 clear hx1 HX0
 have c0:w2.cell? ⟨w.heap.size,0,none⟩=some (.int .u8 5):=by rw [cell_of_row _ _ 0 _ _ _ HX1.out.1];rfl
 have c1:w2.cell? ⟨w.heap.size,1,none⟩=some (.string nm):=by rw [cell_of_row _ _ 1 _ _ _ HX1.out.1];rfl
 go_wp2_with fail
 go_at_call 23
 refine (HP.out _ _ _ HX1.out (by simp only [ByteArray.size_append];show 5+nm.size+3≤_;omega)).mono ?_
 rintro e w3 ⟨rfl,hx2⟩
 have HX2:=Lib.hid hx2
 clear hx2 HX1 c0 c1
 have c0:w3.cell? ⟨w.heap.size,0,none⟩=some (.int .u8 5):=by rw [cell_of_row _ _ 0 _ _ _ HX2.out.1];rfl
 have c4:w3.cell? ⟨w.heap.size,4,none⟩=some (.slice a4 n4 c4):=by rw [cell_of_row _ _ 4 _ _ _ HX2.out.1];rfl
 go_wp2_with fail
 go_at_call 24
 refine (HB4.out _ _ HX2.out).mono ?_
 rintro e w4 ⟨rfl,hx3⟩
 have HX3:=Lib.hid hx3
 clear hx3 HX2 c0 c4
 go_wp2_with fail
 go_at_call 94
 refine (HMG.out _ _ HX3.out).mono ?_
 rintro e w5 ⟨rfl,hx4⟩
 have HX4:=Lib.hid hx4
 clear hx4 HX3
 have c5:w5.cell? ⟨w.heap.size,5,none⟩=some (.slice a5 n5 c5):=by rw [cell_of_row _ _ 5 _ _ _ HX4.out.1];rfl
 go_wp2_with fail
 go_at_call 23
 refine (HP.out _ _ _ HX4.out (by decide)).mono ?_
 rintro e w7 ⟨rfl,hx6⟩
 have HX6:=Lib.hid hx6
 clear hx6 HX4 c5
 have HFT:=HX6.out
 rw [HMGd.out] at HFT
 simp only [app_data] at HFT
 have HF:Hid (UPut b txt (ln d [[108,111,99,107,32],nm.data.toList,[32,123]]++r4++ln d [[125]]) w (.returned (.tuple #[])) w7):=ust_done (by
  have h:=HFT
  simp only [ln,List.flatten_cons,List.flatten_nil,List.append_assoc,List.cons_append,List.nil_append,List.append_nil] at h ⊢
  exact h)
 clear HFT
 go_wp2_with fail
 first
  | exact bodyPost_end (results_none rfl _ _ _) rfl HF.out
  | exact bodyPost_ret (results_none rfl _ _ _) rfl HF.out
theorem u_loop {nm ot:ByteArray} {es:List Ex} {bo el:List St} {ps:Int} {a3 a4 a5:Option Addr} {c3 c4 c5:Nat} {w0 w:World} {b:Nat} {txt:List UInt8} {d:Nat} (hd:d≤64) (hb0:b=w0.heap.size) (hbw:Below b w0 w) (hw:Ux b txt w) (h3:exsAt (fun _=>True) w0 es a3) {y:Ex} (hes:es=[y]) (hry:rE y 0=true) (hrgy:rgE y) (HBL4:rB bo ((d:Int)+1)=true→∀ t W,Below b w0 W→Ux b t W→Calls Tryz.prog 24 #[.pointer (some ⟨b,0,none⟩),.slice a4 bo.length c4,.int .i64 ((d+1:Nat):Int)] W (UPut b t (tSs bo (d+1)) W)) (hr4:rB bo ((d:Int)+1)=true) (hel:((el.length:Int))=0) :
 Calls Tryz.prog 52 #[.pointer (some ⟨b,0,none⟩),.agg #[.int .u8 4,.string nm,.string ot,.slice a3 es.length c3,.slice a4 bo.length c4,.slice a5 el.length c5,.int .i64 ps],.int .i64 (d:Int)] w (UPut b txt (ln d [[119,104,105,108,101,32,40],e0T es,[41,32,123]]++tSs bo (d+1)++ln d [[125]]) w):=by
 subst hes
 obtain ⟨kY,oY,wY,nY,ksY,pY⟩:=y
 rcases h3 with e | ⟨g,q,e,_,e1⟩
 · cases e
 subst e
 obtain ⟨⟨f0,f1,f2,f3,⟨aY,cY,f4,y4⟩,f5⟩,_⟩:=e1
 have lg:=lt_of_at f0
 simp only at lg
 have HLG:Hid (g<b):=by rw [Hid,hb0];exact lg
 have HFY:=Lib.hid (And.intro f0 (And.intro f1 (And.intro f2 (And.intro f3 (And.intro f4 f5)))))
 have HEX0:∀ t W,Below b w0 W→Ux b t W→Calls Tryz.prog 95 #[.pointer (some ⟨b,0,none⟩),.agg #[.int .u8 kY,.int .u8 oY,.int .i64 wY,.string nY,.slice aY ksY.length cY,.int .i64 pY]] W (UPut b t (tE (.mk kY oY wY nY ksY pY)) W):=fun t W h1 h2=>u_expr (.mk kY oY wY nY ksY pY) 0 hry hrgy _ w0 W b t ⟨aY,cY,rfl,y4⟩ hb0 h1 h2
 simp only [e0T]
 change Calls _ _ #[_,.agg #[.int .u8 4,.string nm,.string ot,.slice (some ⟨g,q,none⟩) 1 c3,.slice a4 bo.length c4,.slice a5 el.length c5,.int .i64 ps],_] w _
 generalize tE (.mk kY oY wY nY ksY pY)=te at HEX0 ⊢
 generalize ksY.length=mY at HEX0 HFY
 clear f0 f1 f2 f3 f4 f5 y4 lg hry hrgy
 replace HBL4:=HBL4 hr4
 generalize tSs bo (d+1)=r4 at HBL4 ⊢
 generalize bo.length=n4 at HBL4 ⊢
 generalize el.length=n5 at hel ⊢
 have hlt:=hw.lt
 have HX0:Hid (Ust w0 w b w.heap.size 66 #[.int .u8 4,.string nm,.string ot,.slice (some ⟨g,q,none⟩) 1 c3,.slice a4 n4 c4,.slice a5 n5 c5,.int .i64 ps] txt (w.alloc (.cells #[.int .u8 4,.string nm,.string ot,.slice (some ⟨g,q,none⟩) 1 c3,.slice a4 n4 c4,.slice a5 n5 c5,.int .i64 ps] 66))):=ust_new hw hbw 66 #[.int .u8 4,.string nm,.string ot,.slice (some ⟨g,q,none⟩) 1 c3,.slice a4 n4 c4,.slice a5 n5 c5,.int .i64 ps]
 have HG:Hid (w.heap.size≠b):=by rw [Hid];omega
 have HP:Hid (∀ t W s,Ust w0 w b w.heap.size 66 #[.int .u8 4,.string nm,.string ot,.slice (some ⟨g,q,none⟩) 1 c3,.slice a4 n4 c4,.slice a5 n5 c5,.int .i64 ps] t W→s.size≤140737488289792→Calls Tryz.prog 23 #[.pointer (some ⟨b,0,none⟩),.string s] W fun e W'=>e=.returned (.tuple #[])∧Ust w0 w b w.heap.size 66 #[.int .u8 4,.string nm,.string ot,.slice (some ⟨g,q,none⟩) 1 c3,.slice a4 n4 c4,.slice a5 n5 c5,.int .i64 ps] (t++s.data.toList) W'):=fun t W s h hs=>u_put h HG.out nu_S s hs
 have HMG:Hid (∀ t W,Ust w0 w b w.heap.size 66 #[.int .u8 4,.string nm,.string ot,.slice (some ⟨g,q,none⟩) 1 c3,.slice a4 n4 c4,.slice a5 n5 c5,.int .i64 ps] t W→Calls Tryz.prog 94 #[.pointer (some ⟨b,0,none⟩),.int .i64 (d:Int)] W fun e W'=>e=.returned (.tuple #[])∧Ust w0 w b w.heap.size 66 #[.int .u8 4,.string nm,.string ot,.slice (some ⟨g,q,none⟩) 1 c3,.slice a4 n4 c4,.slice a5 n5 c5,.int .i64 ps] (t++marg d) W'):=fun t W h=>u_marg h HG.out nu_S d (by omega)
 have HEX:Hid (∀ t W,Ust w0 w b w.heap.size 66 #[.int .u8 4,.string nm,.string ot,.slice (some ⟨g,q,none⟩) 1 c3,.slice a4 n4 c4,.slice a5 n5 c5,.int .i64 ps] t W→Calls Tryz.prog 95 #[.pointer (some ⟨b,0,none⟩),.agg #[.int .u8 kY,.int .u8 oY,.int .i64 wY,.string nY,.slice aY mY cY,.int .i64 pY]] W fun e W'=>e=.returned (.tuple #[])∧Ust w0 w b w.heap.size 66 #[.int .u8 4,.string nm,.string ot,.slice (some ⟨g,q,none⟩) 1 c3,.slice a4 n4 c4,.slice a5 n5 c5,.int .i64 ps] (t++te) W'):=fun t W h=>(HEX0 t W h.2.2.1 h.2.1).mono fun _ _ hp=>ust_put h HG.out nu_S hp
 clear HEX0
 have HB4:Hid (∀ t W,Ust w0 w b w.heap.size 66 #[.int .u8 4,.string nm,.string ot,.slice (some ⟨g,q,none⟩) 1 c3,.slice a4 n4 c4,.slice a5 n5 c5,.int .i64 ps] t W→Calls Tryz.prog 24 #[.pointer (some ⟨b,0,none⟩),.slice a4 n4 c4,.int .i64 ((d:Int)+1)] W fun e W'=>e=.returned (.tuple #[])∧Ust w0 w b w.heap.size 66 #[.int .u8 4,.string nm,.string ot,.slice (some ⟨g,q,none⟩) 1 c3,.slice a4 n4 c4,.slice a5 n5 c5,.int .i64 ps] (t++r4) W'):=fun t W h=>(HBL4 t W h.2.2.1 h.2.1).mono fun _ _ hp=>ust_put h HG.out nu_S hp
 clear HBL4 hr4
 obtain ⟨W0,hW0⟩:∃ W,W=w.alloc (.cells #[.int .u8 4,.string nm,.string ot,.slice (some ⟨g,q,none⟩) 1 c3,.slice a4 n4 c4,.slice a5 n5 c5,.int .i64 ps] 66):=⟨_,rfl⟩
 rw [← hW0] at HX0
 have HW0:=Lib.hid hW0
 have hwr:IntKind.i64.wrap ((d:Int)+1)=(d:Int)+1:=IntWalk.i64_in _ (by omega)
 obtain ⟨mg,hmg⟩:∃ mg,mg=marg d:=⟨_,rfl⟩
 rw [← hmg] at HMG
 have HMGd:=Lib.hid hmg
 clear hW0 hbw hw hlt hb0 hd hmg
 go_enter Tryz.func52,Tryz.ntmps52
 go_upto_region 1 with (fail)
 rw [← HW0.out]
 clear HW0
 go_wp2_with fail
 go_at_call 94
 refine (HMG.out _ _ HX0.out).mono ?_
 rintro e w2 ⟨rfl,hx1⟩
 have HX1:=Lib.hid hx1
 clear hx1 HX0
 have c0:w2.cell? ⟨w.heap.size,0,none⟩=some (.int .u8 4):=by rw [cell_of_row _ _ 0 _ _ _ HX1.out.1];rfl
 go_wp2_with fail
 go_at_call 23
 refine (HP.out _ _ _ HX1.out (by decide)).mono ?_
 rintro e w3 ⟨rfl,hx2⟩
 have HX2:=Lib.hid hx2
 clear hx2 HX1 c0
 have c3:w3.cell? ⟨w.heap.size,3,none⟩=some (.slice (some ⟨g,q,none⟩) 1 c3):=by rw [cell_of_row _ _ 3 _ _ _ HX2.out.1];rfl
 have f0:w3.cell? ⟨g,q,none⟩=some (.int .u8 kY):=(HX2.out.2.2.1.cell (p:=⟨g,q,none⟩) HLG.out).trans HFY.out.1
 have f1:w3.cell? ⟨g,q+1,none⟩=some (.int .u8 oY):=(HX2.out.2.2.1.cell (p:=⟨g,q+1,none⟩) HLG.out).trans HFY.out.2.1
 have f2:w3.cell? ⟨g,q+2,none⟩=some (.int .i64 wY):=(HX2.out.2.2.1.cell (p:=⟨g,q+2,none⟩) HLG.out).trans HFY.out.2.2.1
 have f3:w3.cell? ⟨g,q+3,none⟩=some (.string nY):=(HX2.out.2.2.1.cell (p:=⟨g,q+3,none⟩) HLG.out).trans HFY.out.2.2.2.1
 have f4:w3.cell? ⟨g,q+4,none⟩=some (.slice aY mY cY):=(HX2.out.2.2.1.cell (p:=⟨g,q+4,none⟩) HLG.out).trans HFY.out.2.2.2.2.1
 have f5:w3.cell? ⟨g,q+5,none⟩=some (.int .i64 pY):=(HX2.out.2.2.1.cell (p:=⟨g,q+5,none⟩) HLG.out).trans HFY.out.2.2.2.2.2
 go_wp2_with fail
 go_at_call 95
 refine (HEX.out _ _ HX2.out).mono ?_
 rintro e w4 ⟨rfl,hx3⟩
 have HX3:=Lib.hid hx3
 clear hx3 HX2 c3 f0 f1 f2 f3 f4 f5
 go_wp2_with fail
 go_at_call 23
 refine (HP.out _ _ _ HX3.out (by decide)).mono ?_
 rintro e w5 ⟨rfl,hx4⟩
 have HX4:=Lib.hid hx4
 clear hx4 HX3
 have c0:w5.cell? ⟨w.heap.size,0,none⟩=some (.int .u8 4):=by rw [cell_of_row _ _ 0 _ _ _ HX4.out.1];rfl
 have c4:w5.cell? ⟨w.heap.size,4,none⟩=some (.slice a4 n4 c4):=by rw [cell_of_row _ _ 4 _ _ _ HX4.out.1];rfl
 go_wp2_with fail
 go_at_call 24
 refine (HB4.out _ _ HX4.out).mono ?_
 rintro e w6 ⟨rfl,hx5⟩
 have HX5:=Lib.hid hx5
 clear hx5 HX4 c0 c4
 go_wp2_with fail
 go_at_call 94
 refine (HMG.out _ _ HX5.out).mono ?_
 rintro e w7 ⟨rfl,hx6⟩
 have HX6:=Lib.hid hx6
 clear hx6 HX5
 have c5:w7.cell? ⟨w.heap.size,5,none⟩=some (.slice a5 n5 c5):=by rw [cell_of_row _ _ 5 _ _ _ HX6.out.1];rfl
 go_wp2_with fail
 go_at_call 23
 refine (HP.out _ _ _ HX6.out (by decide)).mono ?_
 rintro e w9 ⟨rfl,hx8⟩
 have HX8:=Lib.hid hx8
 clear hx8 HX6 c5
 have HFT:=HX8.out
 rw [HMGd.out] at HFT
 have HF:Hid (UPut b txt (ln d [[119,104,105,108,101,32,40],te,[41,32,123]]++r4++ln d [[125]]) w (.returned (.tuple #[])) w9):=ust_done (by
  have h:=HFT
  simp only [ln,List.flatten_cons,List.flatten_nil,List.append_assoc,List.cons_append,List.nil_append,List.append_nil] at h ⊢
  exact h)
 clear HFT
 go_wp2_with fail
 first
  | exact bodyPost_end (results_none rfl _ _ _) rfl HF.out
  | exact bodyPost_ret (results_none rfl _ _ _) rfl HF.out
theorem u_choice1 {nm ot:ByteArray} {es:List Ex} {bo el:List St} {ps:Int} {a3 a4 a5:Option Addr} {c3 c4 c5:Nat} {w0 w:World} {b:Nat} {txt:List UInt8} {d:Nat} (hd:d≤64) (hb0:b=w0.heap.size) (hbw:Below b w0 w) (hw:Ux b txt w) (h3:exsAt (fun _=>True) w0 es a3) {y:Ex} (hes:es=[y]) (hry:rE y 0=true) (hrgy:rgE y) (HBL4:rB bo ((d:Int)+1)=true→∀ t W,Below b w0 W→Ux b t W→Calls Tryz.prog 24 #[.pointer (some ⟨b,0,none⟩),.slice a4 bo.length c4,.int .i64 ((d+1:Nat):Int)] W (UPut b t (tSs bo (d+1)) W)) (hr4:rB bo ((d:Int)+1)=true) (hel:((el.length:Int))=0) :
 Calls Tryz.prog 52 #[.pointer (some ⟨b,0,none⟩),.agg #[.int .u8 3,.string nm,.string ot,.slice a3 es.length c3,.slice a4 bo.length c4,.slice a5 el.length c5,.int .i64 ps],.int .i64 (d:Int)] w (UPut b txt (ln d [[105,102,32,40],e0T es,[41,32,123]]++tSs bo (d+1)++ln d [[125]]) w):=by
 subst hes
 obtain ⟨kY,oY,wY,nY,ksY,pY⟩:=y
 rcases h3 with e | ⟨g,q,e,_,e1⟩
 · cases e
 subst e
 obtain ⟨⟨f0,f1,f2,f3,⟨aY,cY,f4,y4⟩,f5⟩,_⟩:=e1
 have lg:=lt_of_at f0
 simp only at lg
 have HLG:Hid (g<b):=by rw [Hid,hb0];exact lg
 have HFY:=Lib.hid (And.intro f0 (And.intro f1 (And.intro f2 (And.intro f3 (And.intro f4 f5)))))
 have HEX0:∀ t W,Below b w0 W→Ux b t W→Calls Tryz.prog 95 #[.pointer (some ⟨b,0,none⟩),.agg #[.int .u8 kY,.int .u8 oY,.int .i64 wY,.string nY,.slice aY ksY.length cY,.int .i64 pY]] W (UPut b t (tE (.mk kY oY wY nY ksY pY)) W):=fun t W h1 h2=>u_expr (.mk kY oY wY nY ksY pY) 0 hry hrgy _ w0 W b t ⟨aY,cY,rfl,y4⟩ hb0 h1 h2
 simp only [e0T]
 change Calls _ _ #[_,.agg #[.int .u8 3,.string nm,.string ot,.slice (some ⟨g,q,none⟩) 1 c3,.slice a4 bo.length c4,.slice a5 el.length c5,.int .i64 ps],_] w _
 generalize tE (.mk kY oY wY nY ksY pY)=te at HEX0 ⊢
 generalize ksY.length=mY at HEX0 HFY
 clear f0 f1 f2 f3 f4 f5 y4 lg hry hrgy
 replace HBL4:=HBL4 hr4
 generalize tSs bo (d+1)=r4 at HBL4 ⊢
 generalize bo.length=n4 at HBL4 ⊢
 generalize el.length=n5 at hel ⊢
 have hlt:=hw.lt
 have HX0:Hid (Ust w0 w b w.heap.size 66 #[.int .u8 3,.string nm,.string ot,.slice (some ⟨g,q,none⟩) 1 c3,.slice a4 n4 c4,.slice a5 n5 c5,.int .i64 ps] txt (w.alloc (.cells #[.int .u8 3,.string nm,.string ot,.slice (some ⟨g,q,none⟩) 1 c3,.slice a4 n4 c4,.slice a5 n5 c5,.int .i64 ps] 66))):=ust_new hw hbw 66 #[.int .u8 3,.string nm,.string ot,.slice (some ⟨g,q,none⟩) 1 c3,.slice a4 n4 c4,.slice a5 n5 c5,.int .i64 ps]
 have HG:Hid (w.heap.size≠b):=by rw [Hid];omega
 have HP:Hid (∀ t W s,Ust w0 w b w.heap.size 66 #[.int .u8 3,.string nm,.string ot,.slice (some ⟨g,q,none⟩) 1 c3,.slice a4 n4 c4,.slice a5 n5 c5,.int .i64 ps] t W→s.size≤140737488289792→Calls Tryz.prog 23 #[.pointer (some ⟨b,0,none⟩),.string s] W fun e W'=>e=.returned (.tuple #[])∧Ust w0 w b w.heap.size 66 #[.int .u8 3,.string nm,.string ot,.slice (some ⟨g,q,none⟩) 1 c3,.slice a4 n4 c4,.slice a5 n5 c5,.int .i64 ps] (t++s.data.toList) W'):=fun t W s h hs=>u_put h HG.out nu_S s hs
 have HMG:Hid (∀ t W,Ust w0 w b w.heap.size 66 #[.int .u8 3,.string nm,.string ot,.slice (some ⟨g,q,none⟩) 1 c3,.slice a4 n4 c4,.slice a5 n5 c5,.int .i64 ps] t W→Calls Tryz.prog 94 #[.pointer (some ⟨b,0,none⟩),.int .i64 (d:Int)] W fun e W'=>e=.returned (.tuple #[])∧Ust w0 w b w.heap.size 66 #[.int .u8 3,.string nm,.string ot,.slice (some ⟨g,q,none⟩) 1 c3,.slice a4 n4 c4,.slice a5 n5 c5,.int .i64 ps] (t++marg d) W'):=fun t W h=>u_marg h HG.out nu_S d (by omega)
 have HEX:Hid (∀ t W,Ust w0 w b w.heap.size 66 #[.int .u8 3,.string nm,.string ot,.slice (some ⟨g,q,none⟩) 1 c3,.slice a4 n4 c4,.slice a5 n5 c5,.int .i64 ps] t W→Calls Tryz.prog 95 #[.pointer (some ⟨b,0,none⟩),.agg #[.int .u8 kY,.int .u8 oY,.int .i64 wY,.string nY,.slice aY mY cY,.int .i64 pY]] W fun e W'=>e=.returned (.tuple #[])∧Ust w0 w b w.heap.size 66 #[.int .u8 3,.string nm,.string ot,.slice (some ⟨g,q,none⟩) 1 c3,.slice a4 n4 c4,.slice a5 n5 c5,.int .i64 ps] (t++te) W'):=fun t W h=>(HEX0 t W h.2.2.1 h.2.1).mono fun _ _ hp=>ust_put h HG.out nu_S hp
 clear HEX0
 have HB4:Hid (∀ t W,Ust w0 w b w.heap.size 66 #[.int .u8 3,.string nm,.string ot,.slice (some ⟨g,q,none⟩) 1 c3,.slice a4 n4 c4,.slice a5 n5 c5,.int .i64 ps] t W→Calls Tryz.prog 24 #[.pointer (some ⟨b,0,none⟩),.slice a4 n4 c4,.int .i64 ((d:Int)+1)] W fun e W'=>e=.returned (.tuple #[])∧Ust w0 w b w.heap.size 66 #[.int .u8 3,.string nm,.string ot,.slice (some ⟨g,q,none⟩) 1 c3,.slice a4 n4 c4,.slice a5 n5 c5,.int .i64 ps] (t++r4) W'):=fun t W h=>(HBL4 t W h.2.2.1 h.2.1).mono fun _ _ hp=>ust_put h HG.out nu_S hp
 clear HBL4 hr4
 obtain ⟨W0,hW0⟩:∃ W,W=w.alloc (.cells #[.int .u8 3,.string nm,.string ot,.slice (some ⟨g,q,none⟩) 1 c3,.slice a4 n4 c4,.slice a5 n5 c5,.int .i64 ps] 66):=⟨_,rfl⟩
 rw [← hW0] at HX0
 have HW0:=Lib.hid hW0
 have hwr:IntKind.i64.wrap ((d:Int)+1)=(d:Int)+1:=IntWalk.i64_in _ (by omega)
 obtain ⟨mg,hmg⟩:∃ mg,mg=marg d:=⟨_,rfl⟩
 rw [← hmg] at HMG
 have HMGd:=Lib.hid hmg
 clear hW0 hbw hw hlt hb0 hd hmg
 go_enter Tryz.func52,Tryz.ntmps52
 go_upto_region 1 with (fail)
 rw [← HW0.out]
 clear HW0
 go_wp2_with fail
 go_at_call 94
 refine (HMG.out _ _ HX0.out).mono ?_
 rintro e w2 ⟨rfl,hx1⟩
 have HX1:=Lib.hid hx1
 clear hx1 HX0
 have c0:w2.cell? ⟨w.heap.size,0,none⟩=some (.int .u8 3):=by rw [cell_of_row _ _ 0 _ _ _ HX1.out.1];rfl
 go_wp2_with fail
 go_at_call 23
 refine (HP.out _ _ _ HX1.out (by decide)).mono ?_
 rintro e w3 ⟨rfl,hx2⟩
 have HX2:=Lib.hid hx2
 clear hx2 HX1 c0
 have c3:w3.cell? ⟨w.heap.size,3,none⟩=some (.slice (some ⟨g,q,none⟩) 1 c3):=by rw [cell_of_row _ _ 3 _ _ _ HX2.out.1];rfl
 have f0:w3.cell? ⟨g,q,none⟩=some (.int .u8 kY):=(HX2.out.2.2.1.cell (p:=⟨g,q,none⟩) HLG.out).trans HFY.out.1
 have f1:w3.cell? ⟨g,q+1,none⟩=some (.int .u8 oY):=(HX2.out.2.2.1.cell (p:=⟨g,q+1,none⟩) HLG.out).trans HFY.out.2.1
 have f2:w3.cell? ⟨g,q+2,none⟩=some (.int .i64 wY):=(HX2.out.2.2.1.cell (p:=⟨g,q+2,none⟩) HLG.out).trans HFY.out.2.2.1
 have f3:w3.cell? ⟨g,q+3,none⟩=some (.string nY):=(HX2.out.2.2.1.cell (p:=⟨g,q+3,none⟩) HLG.out).trans HFY.out.2.2.2.1
 have f4:w3.cell? ⟨g,q+4,none⟩=some (.slice aY mY cY):=(HX2.out.2.2.1.cell (p:=⟨g,q+4,none⟩) HLG.out).trans HFY.out.2.2.2.2.1
 have f5:w3.cell? ⟨g,q+5,none⟩=some (.int .i64 pY):=(HX2.out.2.2.1.cell (p:=⟨g,q+5,none⟩) HLG.out).trans HFY.out.2.2.2.2.2
 go_wp2_with fail
 go_at_call 95
 refine (HEX.out _ _ HX2.out).mono ?_
 rintro e w4 ⟨rfl,hx3⟩
 have HX3:=Lib.hid hx3
 clear hx3 HX2 c3 f0 f1 f2 f3 f4 f5
 go_wp2_with fail
 go_at_call 23
 refine (HP.out _ _ _ HX3.out (by decide)).mono ?_
 rintro e w5 ⟨rfl,hx4⟩
 have HX4:=Lib.hid hx4
 clear hx4 HX3
 have c0:w5.cell? ⟨w.heap.size,0,none⟩=some (.int .u8 3):=by rw [cell_of_row _ _ 0 _ _ _ HX4.out.1];rfl
 have c4:w5.cell? ⟨w.heap.size,4,none⟩=some (.slice a4 n4 c4):=by rw [cell_of_row _ _ 4 _ _ _ HX4.out.1];rfl
 go_wp2_with fail
 go_at_call 24
 refine (HB4.out _ _ HX4.out).mono ?_
 rintro e w6 ⟨rfl,hx5⟩
 have HX5:=Lib.hid hx5
 clear hx5 HX4 c0 c4
 go_wp2_with fail
 go_at_call 94
 refine (HMG.out _ _ HX5.out).mono ?_
 rintro e w7 ⟨rfl,hx6⟩
 have HX6:=Lib.hid hx6
 clear hx6 HX5
 have c5:w7.cell? ⟨w.heap.size,5,none⟩=some (.slice a5 n5 c5):=by rw [cell_of_row _ _ 5 _ _ _ HX6.out.1];rfl
 go_wp2_with fail
 go_at_call 23
 refine (HP.out _ _ _ HX6.out (by decide)).mono ?_
 rintro e w9 ⟨rfl,hx8⟩
 have HX8:=Lib.hid hx8
 clear hx8 HX6 c5
 have HFT:=HX8.out
 rw [HMGd.out] at HFT
 have HF:Hid (UPut b txt (ln d [[105,102,32,40],te,[41,32,123]]++r4++ln d [[125]]) w (.returned (.tuple #[])) w9):=ust_done (by
  have h:=HFT
  simp only [ln,List.flatten_cons,List.flatten_nil,List.append_assoc,List.cons_append,List.nil_append,List.append_nil] at h ⊢
  exact h)
 clear HFT
 go_wp2_with fail
 first
  | exact bodyPost_end (results_none rfl _ _ _) rfl HF.out
  | exact bodyPost_ret (results_none rfl _ _ _) rfl HF.out
theorem u_choice2 {nm ot:ByteArray} {es:List Ex} {bo el:List St} {ps:Int} {a3 a4 a5:Option Addr} {c3 c4 c5:Nat} {w0 w:World} {b:Nat} {txt:List UInt8} {d:Nat} (hd:d≤64) (hb0:b=w0.heap.size) (hbw:Below b w0 w) (hw:Ux b txt w) (h3:exsAt (fun _=>True) w0 es a3) {y:Ex} (hes:es=[y]) (hry:rE y 0=true) (hrgy:rgE y) (HBL4:rB bo ((d:Int)+1)=true→∀ t W,Below b w0 W→Ux b t W→Calls Tryz.prog 24 #[.pointer (some ⟨b,0,none⟩),.slice a4 bo.length c4,.int .i64 ((d+1:Nat):Int)] W (UPut b t (tSs bo (d+1)) W)) (hr4:rB bo ((d:Int)+1)=true) (HBL5:rB el ((d:Int)+1)=true→∀ t W,Below b w0 W→Ux b t W→Calls Tryz.prog 24 #[.pointer (some ⟨b,0,none⟩),.slice a5 el.length c5,.int .i64 ((d+1:Nat):Int)] W (UPut b t (tSs el (d+1)) W)) (hr5:rB el ((d:Int)+1)=true) (hel:0<(el.length:Int)) :
 Calls Tryz.prog 52 #[.pointer (some ⟨b,0,none⟩),.agg #[.int .u8 3,.string nm,.string ot,.slice a3 es.length c3,.slice a4 bo.length c4,.slice a5 el.length c5,.int .i64 ps],.int .i64 (d:Int)] w (UPut b txt (ln d [[105,102,32,40],e0T es,[41,32,123]]++tSs bo (d+1)++(ln d [[125,32,101,108,115,101,32,123]]++tSs el (d+1))++ln d [[125]]) w):=by
 subst hes
 obtain ⟨kY,oY,wY,nY,ksY,pY⟩:=y
 rcases h3 with e | ⟨g,q,e,_,e1⟩
 · cases e
 subst e
 obtain ⟨⟨f0,f1,f2,f3,⟨aY,cY,f4,y4⟩,f5⟩,_⟩:=e1
 have lg:=lt_of_at f0
 simp only at lg
 have HLG:Hid (g<b):=by rw [Hid,hb0];exact lg
 have HFY:=Lib.hid (And.intro f0 (And.intro f1 (And.intro f2 (And.intro f3 (And.intro f4 f5)))))
 have HEX0:∀ t W,Below b w0 W→Ux b t W→Calls Tryz.prog 95 #[.pointer (some ⟨b,0,none⟩),.agg #[.int .u8 kY,.int .u8 oY,.int .i64 wY,.string nY,.slice aY ksY.length cY,.int .i64 pY]] W (UPut b t (tE (.mk kY oY wY nY ksY pY)) W):=fun t W h1 h2=>u_expr (.mk kY oY wY nY ksY pY) 0 hry hrgy _ w0 W b t ⟨aY,cY,rfl,y4⟩ hb0 h1 h2
 simp only [e0T]
 change Calls _ _ #[_,.agg #[.int .u8 3,.string nm,.string ot,.slice (some ⟨g,q,none⟩) 1 c3,.slice a4 bo.length c4,.slice a5 el.length c5,.int .i64 ps],_] w _
 generalize tE (.mk kY oY wY nY ksY pY)=te at HEX0 ⊢
 generalize ksY.length=mY at HEX0 HFY
 clear f0 f1 f2 f3 f4 f5 y4 lg hry hrgy
 replace HBL4:=HBL4 hr4
 generalize tSs bo (d+1)=r4 at HBL4 ⊢
 replace HBL5:=HBL5 hr5
 generalize tSs el (d+1)=r5 at HBL5 ⊢
 generalize bo.length=n4 at HBL4 ⊢
 generalize el.length=n5 at HBL5 hel ⊢
 have hlt:=hw.lt
 have HX0:Hid (Ust w0 w b w.heap.size 66 #[.int .u8 3,.string nm,.string ot,.slice (some ⟨g,q,none⟩) 1 c3,.slice a4 n4 c4,.slice a5 n5 c5,.int .i64 ps] txt (w.alloc (.cells #[.int .u8 3,.string nm,.string ot,.slice (some ⟨g,q,none⟩) 1 c3,.slice a4 n4 c4,.slice a5 n5 c5,.int .i64 ps] 66))):=ust_new hw hbw 66 #[.int .u8 3,.string nm,.string ot,.slice (some ⟨g,q,none⟩) 1 c3,.slice a4 n4 c4,.slice a5 n5 c5,.int .i64 ps]
 have HG:Hid (w.heap.size≠b):=by rw [Hid];omega
 have HP:Hid (∀ t W s,Ust w0 w b w.heap.size 66 #[.int .u8 3,.string nm,.string ot,.slice (some ⟨g,q,none⟩) 1 c3,.slice a4 n4 c4,.slice a5 n5 c5,.int .i64 ps] t W→s.size≤140737488289792→Calls Tryz.prog 23 #[.pointer (some ⟨b,0,none⟩),.string s] W fun e W'=>e=.returned (.tuple #[])∧Ust w0 w b w.heap.size 66 #[.int .u8 3,.string nm,.string ot,.slice (some ⟨g,q,none⟩) 1 c3,.slice a4 n4 c4,.slice a5 n5 c5,.int .i64 ps] (t++s.data.toList) W'):=fun t W s h hs=>u_put h HG.out nu_S s hs
 have HMG:Hid (∀ t W,Ust w0 w b w.heap.size 66 #[.int .u8 3,.string nm,.string ot,.slice (some ⟨g,q,none⟩) 1 c3,.slice a4 n4 c4,.slice a5 n5 c5,.int .i64 ps] t W→Calls Tryz.prog 94 #[.pointer (some ⟨b,0,none⟩),.int .i64 (d:Int)] W fun e W'=>e=.returned (.tuple #[])∧Ust w0 w b w.heap.size 66 #[.int .u8 3,.string nm,.string ot,.slice (some ⟨g,q,none⟩) 1 c3,.slice a4 n4 c4,.slice a5 n5 c5,.int .i64 ps] (t++marg d) W'):=fun t W h=>u_marg h HG.out nu_S d (by omega)
 have HEX:Hid (∀ t W,Ust w0 w b w.heap.size 66 #[.int .u8 3,.string nm,.string ot,.slice (some ⟨g,q,none⟩) 1 c3,.slice a4 n4 c4,.slice a5 n5 c5,.int .i64 ps] t W→Calls Tryz.prog 95 #[.pointer (some ⟨b,0,none⟩),.agg #[.int .u8 kY,.int .u8 oY,.int .i64 wY,.string nY,.slice aY mY cY,.int .i64 pY]] W fun e W'=>e=.returned (.tuple #[])∧Ust w0 w b w.heap.size 66 #[.int .u8 3,.string nm,.string ot,.slice (some ⟨g,q,none⟩) 1 c3,.slice a4 n4 c4,.slice a5 n5 c5,.int .i64 ps] (t++te) W'):=fun t W h=>(HEX0 t W h.2.2.1 h.2.1).mono fun _ _ hp=>ust_put h HG.out nu_S hp
 clear HEX0
 have HB4:Hid (∀ t W,Ust w0 w b w.heap.size 66 #[.int .u8 3,.string nm,.string ot,.slice (some ⟨g,q,none⟩) 1 c3,.slice a4 n4 c4,.slice a5 n5 c5,.int .i64 ps] t W→Calls Tryz.prog 24 #[.pointer (some ⟨b,0,none⟩),.slice a4 n4 c4,.int .i64 ((d:Int)+1)] W fun e W'=>e=.returned (.tuple #[])∧Ust w0 w b w.heap.size 66 #[.int .u8 3,.string nm,.string ot,.slice (some ⟨g,q,none⟩) 1 c3,.slice a4 n4 c4,.slice a5 n5 c5,.int .i64 ps] (t++r4) W'):=fun t W h=>(HBL4 t W h.2.2.1 h.2.1).mono fun _ _ hp=>ust_put h HG.out nu_S hp
 clear HBL4 hr4
 have HB5:Hid (∀ t W,Ust w0 w b w.heap.size 66 #[.int .u8 3,.string nm,.string ot,.slice (some ⟨g,q,none⟩) 1 c3,.slice a4 n4 c4,.slice a5 n5 c5,.int .i64 ps] t W→Calls Tryz.prog 24 #[.pointer (some ⟨b,0,none⟩),.slice a5 n5 c5,.int .i64 ((d:Int)+1)] W fun e W'=>e=.returned (.tuple #[])∧Ust w0 w b w.heap.size 66 #[.int .u8 3,.string nm,.string ot,.slice (some ⟨g,q,none⟩) 1 c3,.slice a4 n4 c4,.slice a5 n5 c5,.int .i64 ps] (t++r5) W'):=fun t W h=>(HBL5 t W h.2.2.1 h.2.1).mono fun _ _ hp=>ust_put h HG.out nu_S hp
 clear HBL5 hr5
 obtain ⟨W0,hW0⟩:∃ W,W=w.alloc (.cells #[.int .u8 3,.string nm,.string ot,.slice (some ⟨g,q,none⟩) 1 c3,.slice a4 n4 c4,.slice a5 n5 c5,.int .i64 ps] 66):=⟨_,rfl⟩
 rw [← hW0] at HX0
 have HW0:=Lib.hid hW0
 have hwr:IntKind.i64.wrap ((d:Int)+1)=(d:Int)+1:=IntWalk.i64_in _ (by omega)
 obtain ⟨mg,hmg⟩:∃ mg,mg=marg d:=⟨_,rfl⟩
 rw [← hmg] at HMG
 have HMGd:=Lib.hid hmg
 clear hW0 hbw hw hlt hb0 hd hmg
 go_enter Tryz.func52,Tryz.ntmps52
 go_upto_region 1 with (fail)
 rw [← HW0.out]
 clear HW0
 go_wp2_with fail
 go_at_call 94
 refine (HMG.out _ _ HX0.out).mono ?_
 rintro e w2 ⟨rfl,hx1⟩
 have HX1:=Lib.hid hx1
 clear hx1 HX0
 have c0:w2.cell? ⟨w.heap.size,0,none⟩=some (.int .u8 3):=by rw [cell_of_row _ _ 0 _ _ _ HX1.out.1];rfl
 go_wp2_with fail
 go_at_call 23
 refine (HP.out _ _ _ HX1.out (by decide)).mono ?_
 rintro e w3 ⟨rfl,hx2⟩
 have HX2:=Lib.hid hx2
 clear hx2 HX1 c0
 have c3:w3.cell? ⟨w.heap.size,3,none⟩=some (.slice (some ⟨g,q,none⟩) 1 c3):=by rw [cell_of_row _ _ 3 _ _ _ HX2.out.1];rfl
 have f0:w3.cell? ⟨g,q,none⟩=some (.int .u8 kY):=(HX2.out.2.2.1.cell (p:=⟨g,q,none⟩) HLG.out).trans HFY.out.1
 have f1:w3.cell? ⟨g,q+1,none⟩=some (.int .u8 oY):=(HX2.out.2.2.1.cell (p:=⟨g,q+1,none⟩) HLG.out).trans HFY.out.2.1
 have f2:w3.cell? ⟨g,q+2,none⟩=some (.int .i64 wY):=(HX2.out.2.2.1.cell (p:=⟨g,q+2,none⟩) HLG.out).trans HFY.out.2.2.1
 have f3:w3.cell? ⟨g,q+3,none⟩=some (.string nY):=(HX2.out.2.2.1.cell (p:=⟨g,q+3,none⟩) HLG.out).trans HFY.out.2.2.2.1
 have f4:w3.cell? ⟨g,q+4,none⟩=some (.slice aY mY cY):=(HX2.out.2.2.1.cell (p:=⟨g,q+4,none⟩) HLG.out).trans HFY.out.2.2.2.2.1
 have f5:w3.cell? ⟨g,q+5,none⟩=some (.int .i64 pY):=(HX2.out.2.2.1.cell (p:=⟨g,q+5,none⟩) HLG.out).trans HFY.out.2.2.2.2.2
 go_wp2_with fail
 go_at_call 95
 refine (HEX.out _ _ HX2.out).mono ?_
 rintro e w4 ⟨rfl,hx3⟩
 have HX3:=Lib.hid hx3
 clear hx3 HX2 c3 f0 f1 f2 f3 f4 f5
 go_wp2_with fail
 go_at_call 23
 refine (HP.out _ _ _ HX3.out (by decide)).mono ?_
 rintro e w5 ⟨rfl,hx4⟩
 have HX4:=Lib.hid hx4
 clear hx4 HX3
 have c0:w5.cell? ⟨w.heap.size,0,none⟩=some (.int .u8 3):=by rw [cell_of_row _ _ 0 _ _ _ HX4.out.1];rfl
 have c4:w5.cell? ⟨w.heap.size,4,none⟩=some (.slice a4 n4 c4):=by rw [cell_of_row _ _ 4 _ _ _ HX4.out.1];rfl
 go_wp2_with fail
 go_at_call 24
 refine (HB4.out _ _ HX4.out).mono ?_
 rintro e w6 ⟨rfl,hx5⟩
 have HX5:=Lib.hid hx5
 clear hx5 HX4 c0 c4
 go_wp2_with fail
 go_at_call 94
 refine (HMG.out _ _ HX5.out).mono ?_
 rintro e w7 ⟨rfl,hx6⟩
 have HX6:=Lib.hid hx6
 clear hx6 HX5
 have c5:w7.cell? ⟨w.heap.size,5,none⟩=some (.slice a5 n5 c5):=by rw [cell_of_row _ _ 5 _ _ _ HX6.out.1];rfl
 go_wp2_with fail
 go_at_call 23
 refine (HP.out _ _ _ HX6.out (by decide)).mono ?_
 rintro e w9 ⟨rfl,hx8⟩
 have HX8:=Lib.hid hx8
 clear hx8 HX6 c5
 have c5:w9.cell? ⟨w.heap.size,5,none⟩=some (.slice a5 n5 c5):=by rw [cell_of_row _ _ 5 _ _ _ HX8.out.1];rfl
 go_wp2_with fail
 go_at_call 24
 refine (HB5.out _ _ HX8.out).mono ?_
 rintro e w10 ⟨rfl,hx9⟩
 have HX9:=Lib.hid hx9
 clear hx9 HX8 c5
 go_wp2_with fail
 go_at_call 94
 refine (HMG.out _ _ HX9.out).mono ?_
 rintro e w11 ⟨rfl,hx10⟩
 have HX10:=Lib.hid hx10
 clear hx10 HX9
 go_wp2_with fail
 go_at_call 23
 refine (HP.out _ _ _ HX10.out (by decide)).mono ?_
 rintro e w12 ⟨rfl,hx11⟩
 have HX11:=Lib.hid hx11
 clear hx11 HX10
 have HFT:=HX11.out
 rw [HMGd.out] at HFT
 have HF:Hid (UPut b txt (ln d [[105,102,32,40],te,[41,32,123]]++r4++(ln d [[125,32,101,108,115,101,32,123]]++r5)++ln d [[125]]) w (.returned (.tuple #[])) w12):=ust_done (by
  have h:=HFT
  simp only [ln,List.flatten_cons,List.flatten_nil,List.append_assoc,List.cons_append,List.nil_append,List.append_nil] at h ⊢
  exact h)
 clear HFT
 go_wp2_with fail
 first
  | exact bodyPost_end (results_none rfl _ _ _) rfl HF.out
  | exact bodyPost_ret (results_none rfl _ _ _) rfl HF.out
end Go.Proofs.YtieeaehabjjaoaaGreatDoor

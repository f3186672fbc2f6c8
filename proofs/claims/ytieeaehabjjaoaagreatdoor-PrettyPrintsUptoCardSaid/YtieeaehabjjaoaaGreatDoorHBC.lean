/- The proof, part 29: texts that belong together, in one. -/
import Derived.Test.YtieeaehabjjaoaaGreatDoorHBB
import Derived.Test.YtieeaehabjjaoaaGreatDoorHAF
import Derived.Test.YtieeaehabjjaoaaGreatDoorHAU
set_option maxRecDepth 100000
set_option maxHeartbeats 20000000
namespace Go.Proofs.YtieeaehabjjaoaaGreatDoor
open Go.RowKit
set_option linter.unusedVariables false
set_option linter.unusedSimpArgs false
set_option maxRecDepth 100000
theorem rS_eq {k:Int} {n ot:ByteArray} {e:List Ex} {b l:List St} {ps d:Int} (h0:0<k) (h8:k<8):rS (.mk k n ot e b l ps) d=(nmB n (shp k).1&&(nmB ot (shp k).2.1&&(((e.length:Int)==(shp k).2.2.1)&&(allE e&&(((shp k).2.2.2.1 || decide (b.length=0))&&(((shp k).2.2.2.2 || decide (l.length=0))&&((!(shp k).2.2.2.1 || rB b (d+1))&&(decide (l.length=0) || rB l (d+1))))))))):=by
 have h1:∀ m:Nat,((m:Int)==0)=decide (m=0):=fun m=>by
  by_cases h:m=0
  · subst h;rfl
  · rw [decide_eq_false h];exact int_f (by omega)
 have h2:∀ m:Nat,(!decide (0<(m:Int)))=decide (m=0):=fun m=>by
  by_cases h:m=0
  · subst h;rfl
  · rw [decide_eq_false h,decide_eq_true (p:=0<(m:Int)) (by omega)];rfl
 simp only [rS,decide_eq_true h0,decide_eq_true h8,Bool.true_and,h1,h2,rB]
 cases nmB n (shp k).1 <;> cases nmB ot (shp k).2.1 <;> cases ((e.length:Int)==(shp k).2.2.1) <;> cases (shp k).2.2.2.1 <;> cases decide (b.length=0) <;> cases (shp k).2.2.2.2 <;> cases decide (l.length=0) <;> cases allE e <;> rfl
theorem rS_no {k:Int} {n ot:ByteArray} {e:List Ex} {b l:List St} {ps d:Int} (h:¬ (0<k∧k<8)):rS (.mk k n ot e b l ps) d=false:=by
 by_cases h0:0<k
 · simp only [rS,decide_eq_false (p:=k<8) (by omega),Bool.false_and,Bool.and_false]
 · simp only [rS,decide_eq_false h0,Bool.false_and]
theorem rs_1 {n ot:ByteArray} {e:List Ex} {b l:List St} {ps:Int} {a3 a4 a5:Option Addr} {c3 c4 c5:Nat} {w:World} {d:Int} (hd0:0≤d) (hd:d≤64) (hn:nmOk n) (ho:nmOk ot) (h1:exsAt (fun _=>True) w e a3) (hrE:rgEs e) (hfE:fitEs e)
 (H4:∀ W,Below w.heap.size w W→Calls Tryz.prog 50 #[.slice a4 b.length c4,.int .i64 (d+1)] W fun e' w'=>e'=.returned (.bool (rB b (d+1)))∧Below W.heap.size W w') (H5:∀ W,Below w.heap.size w W→Calls Tryz.prog 50 #[.slice a5 l.length c5,.int .i64 (d+1)] W fun e' w'=>e'=.returned (.bool (rB l (d+1)))∧Below W.heap.size W w') :
 Calls Tryz.prog 92 #[.agg #[.int .u8 1,.string n,.string ot,.slice a3 e.length c3,.slice a4 b.length c4,.slice a5 l.length c5,.int .i64 ps],.int .i64 d] w fun e' w'=>e'=.returned (.bool (rS (.mk 1 n ot e b l ps) d))∧Below w.heap.size w w':=by
 rw [rS_eq (by decide) (by decide)]
 change Calls _ _ _ _ fun e' w'=>e'=.returned (.bool (nmB n true&&(nmB ot false&&(((e.length:Int)==1)&&(allE e&&((false || decide (b.length=0))&&((false || decide (l.length=0))&&((!false || rB b (d+1))&&(decide (l.length=0) || rB l (d+1))))))))))∧_
 obtain ⟨m4,hm4⟩:∃ m,m=b.length:=⟨_,rfl⟩
 obtain ⟨m5,hm5⟩:∃ m,m=l.length:=⟨_,rfl⟩
 obtain ⟨bb,hbb⟩:∃ t,t=rB b (d+1):=⟨_,rfl⟩
 obtain ⟨bl,hbl⟩:∃ t,t=rB l (d+1):=⟨_,rfl⟩
 rw [← hm4,← hbb] at H4 ⊢
 rw [← hm5,← hbl] at H5 ⊢
 have HH4:=Lib.hid H4
 have HH5:=Lib.hid H5
 clear hm4 hm5 hbb hbl H4 H5
 simp only [Bool.true_or,Bool.false_or,Bool.true_and,Bool.not_true,Bool.not_false]
 rw [show nmB n true=nameB n from rfl]
 have HN:Hid (∀ W,Calls Tryz.prog 48 #[.string n] W fun e w'=>e=.returned (.bool (nameB n))∧W=w'):=fun W=>rname_any n (by unfold nmOk at hn;omega) W
 obtain ⟨q,hq⟩:∃ q,q=nameB n:=⟨_,rfl⟩
 rw [← hq] at HN ⊢
 clear hq
 rw [show nmB ot false=(ot.data.toList==[]) from rfl]
 cases q with
 | false =>
   rw [Bool.false_and]
   obtain ⟨em,hem⟩:∃ m,m=e.length:=⟨_,rfl⟩
   rw [← hem]
   clear hem h1 hrE hfE
   have HB:=Lib.hid (bw_new w 66 #[.int .u8 1,.string n,.string ot,.slice a3 em c3,.slice a4 m4 c4,.slice a5 m5 c5,.int .i64 ps])
   go_enter Tryz.func92,Tryz.ntmps92
   go_wp2_with (first | (go_at_call_of 48 (Value.string n);refine (HN.out _).mono ?_;rintro e' w' ⟨rfl,rfl⟩))
   go_ret
   exact ⟨rfl,HB.out.2⟩
 | true =>
 rw [Bool.true_and]
 by_cases qo:ot=⟨#[]⟩
 rotate_left
 · have g1 := bt_f qo
   rw [nm_full qo,Bool.false_and]
   clear qo
   obtain ⟨em,hem⟩:∃ m,m=e.length:=⟨_,rfl⟩
   rw [← hem]
   clear hem h1 hrE hfE
   have HB:=Lib.hid (bw_new w 66 #[.int .u8 1,.string n,.string ot,.slice a3 em c3,.slice a4 m4 c4,.slice a5 m5 c5,.int .i64 ps])
   go_enter Tryz.func92,Tryz.ntmps92
   go_wp2_with (first | (go_at_call_of 48 (Value.string n);refine (HN.out _).mono ?_;rintro e' w' ⟨rfl,rfl⟩))
   go_ret
   exact ⟨rfl,HB.out.2⟩
 subst qo
 rw [show ((⟨#[]⟩:ByteArray).data.toList==[])=true from rfl,Bool.true_and]
 by_cases qe:e.length=1
 rotate_left
 · have g1 : (((e.length : Nat) : Int) != 1) = true := by simp only [bne, int_f (show ((e.length : Nat) : Int) ≠ 1 by omega), Bool.not_false]
   rw [int_f (show ((e.length:Nat):Int)≠1 by omega),Bool.false_and]
   obtain ⟨em,hem⟩:∃ m,m=e.length:=⟨_,rfl⟩
   rw [← hem] at g1 ⊢
   clear hem h1 hrE hfE qe
   have HB:=Lib.hid (bw_new w 66 #[.int .u8 1,.string n,.string ⟨#[]⟩,.slice a3 em c3,.slice a4 m4 c4,.slice a5 m5 c5,.int .i64 ps])
   go_enter Tryz.func92,Tryz.ntmps92
   go_wp2_with (first | (go_at_call_of 48 (Value.string n);refine (HN.out _).mono ?_;rintro e' w' ⟨rfl,rfl⟩))
   go_ret
   exact ⟨rfl,HB.out.2⟩
 obtain ⟨y,rfl⟩:∃ y,e=[y]:=by
  match e,qe with
  | [y],_=>exact ⟨y,rfl⟩
 rcases h1 with e | ⟨g,qq,rfl,_,e1⟩
 · cases e
 rw [show ((([y]:List Ex).length:Nat):Int)=1 from rfl,show allE [y]=rE y 0 by simp [allE],show ((1:Int)==1)=true from rfl,Bool.true_and]
 have hIy:=r_rightExpr y hrE.1 hfE.1
 have e2:=e1.1
 obtain ⟨yk,yo,yw,yn,yks,yp⟩:=y
 obtain ⟨y0,y1,y2,y3,⟨ya,yc,y4,y5k⟩,y5⟩:=e2
 have hIy':∀ W,Below w.heap.size w W→Calls Tryz.prog 129 #[.agg #[.int .u8 yk,.int .u8 yo,.int .i64 yw,.string yn,.slice ya yks.length yc,.int .i64 yp],.int .i64 0] W fun e w'=>e=.returned (.bool (rE (.mk yk yo yw yn yks yp) 0))∧Below W.heap.size W w':=fun W hW=>hIy _ W 0 ⟨ya,yc,rfl,exsAt_below y5k hW⟩ (by decide) (by decide)
 change Calls _ _ #[.agg #[.int .u8 1,.string n,.string ⟨#[]⟩,.slice (some ⟨g,qq,none⟩) 1 c3,.slice a4 m4 c4,.slice a5 m5 c5,.int .i64 ps],.int .i64 d] w _
 obtain ⟨ym,hym⟩:∃ z,z=yks.length:=⟨_,rfl⟩
 rw [← hym] at hIy' y4
 obtain ⟨bx,hbx⟩:∃ t,t=rE (.mk yk yo yw yn yks yp) 0:=⟨_,rfl⟩
 rw [← hbx] at hIy' ⊢
 have HIY:=Lib.hid hIy'
 clear hym hIy hIy' qe e1 hrE hfE y5k hbx
 have HB:=Lib.hid (bw_new w 66 #[.int .u8 1,.string n,.string ⟨#[]⟩,.slice (some ⟨g,qq,none⟩) 1 c3,.slice a4 m4 c4,.slice a5 m5 c5,.int .i64 ps])
 have yf0:(w.alloc (.cells #[.int .u8 1,.string n,.string ⟨#[]⟩,.slice (some ⟨g,qq,none⟩) 1 c3,.slice a4 m4 c4,.slice a5 m5 c5,.int .i64 ps] 66)).cell? ⟨g,qq,none⟩=some (.int .u8 yk):=by rw [HB.out.2.cell (p:=⟨g,qq,none⟩) (cell_lt y0)];exact y0
 have yf1:(w.alloc (.cells #[.int .u8 1,.string n,.string ⟨#[]⟩,.slice (some ⟨g,qq,none⟩) 1 c3,.slice a4 m4 c4,.slice a5 m5 c5,.int .i64 ps] 66)).cell? ⟨g,qq+1,none⟩=some (.int .u8 yo):=by rw [HB.out.2.cell (p:=⟨g,qq+1,none⟩) (cell_lt y1)];exact y1
 have yf2:(w.alloc (.cells #[.int .u8 1,.string n,.string ⟨#[]⟩,.slice (some ⟨g,qq,none⟩) 1 c3,.slice a4 m4 c4,.slice a5 m5 c5,.int .i64 ps] 66)).cell? ⟨g,qq+2,none⟩=some (.int .i64 yw):=by rw [HB.out.2.cell (p:=⟨g,qq+2,none⟩) (cell_lt y2)];exact y2
 have yf3:(w.alloc (.cells #[.int .u8 1,.string n,.string ⟨#[]⟩,.slice (some ⟨g,qq,none⟩) 1 c3,.slice a4 m4 c4,.slice a5 m5 c5,.int .i64 ps] 66)).cell? ⟨g,qq+3,none⟩=some (.string yn):=by rw [HB.out.2.cell (p:=⟨g,qq+3,none⟩) (cell_lt y3)];exact y3
 have yf4:(w.alloc (.cells #[.int .u8 1,.string n,.string ⟨#[]⟩,.slice (some ⟨g,qq,none⟩) 1 c3,.slice a4 m4 c4,.slice a5 m5 c5,.int .i64 ps] 66)).cell? ⟨g,qq+4,none⟩=some (.slice ya ym yc):=by rw [HB.out.2.cell (p:=⟨g,qq+4,none⟩) (cell_lt y4)];exact y4
 have yf5:(w.alloc (.cells #[.int .u8 1,.string n,.string ⟨#[]⟩,.slice (some ⟨g,qq,none⟩) 1 c3,.slice a4 m4 c4,.slice a5 m5 c5,.int .i64 ps] 66)).cell? ⟨g,qq+5,none⟩=some (.int .i64 yp):=by rw [HB.out.2.cell (p:=⟨g,qq+5,none⟩) (cell_lt y5)];exact y5
 clear y0 y1 y2 y3 y4 y5
 cases bx with
 | false =>
   rw [Bool.false_and]
   go_enter Tryz.func92,Tryz.ntmps92
   go_wp2_with (first | (go_at_call_of 48 (Value.string n);refine (HN.out _).mono ?_;rintro e' w' ⟨rfl,rfl⟩) | (go_at_call 129;refine (HIY.out _ HB.out.2).mono ?_;rintro e' w1 ⟨rfl,hb⟩;have HB1:=Lib.hid (bw_below HB.out hb);clear hb;have k0:w1.cell? ⟨w.heap.size,0,none⟩=some (.int .u8 1):=(by rw [cell_of_row _ _ 0 _ _ _ HB1.out.1];rfl);have k4:w1.cell? ⟨w.heap.size,4,none⟩=some (.slice a4 m4 c4):=(by rw [cell_of_row _ _ 4 _ _ _ HB1.out.1];rfl);have k5:w1.cell? ⟨w.heap.size,5,none⟩=some (.slice a5 m5 c5):=(by rw [cell_of_row _ _ 5 _ _ _ HB1.out.1];rfl)))
   go_ret
   exact ⟨rfl,HB1.out.2⟩
 | true =>
 rw [Bool.true_and]
 by_cases q4:m4=0
 rotate_left
 · have g1 : 0 < (m4 : Int) := by omega
   have g2:decide (0<(m4:Int))=true:=decide_eq_true g1
   rw [decide_eq_false q4,Bool.false_and]
   go_enter Tryz.func92,Tryz.ntmps92
   go_wp2_with (first | (go_at_call_of 48 (Value.string n);refine (HN.out _).mono ?_;rintro e' w' ⟨rfl,rfl⟩) | (go_at_call 129;refine (HIY.out _ HB.out.2).mono ?_;rintro e' w1 ⟨rfl,hb⟩;have HB1:=Lib.hid (bw_below HB.out hb);clear hb;have k0:w1.cell? ⟨w.heap.size,0,none⟩=some (.int .u8 1):=(by rw [cell_of_row _ _ 0 _ _ _ HB1.out.1];rfl);have k4:w1.cell? ⟨w.heap.size,4,none⟩=some (.slice a4 m4 c4):=(by rw [cell_of_row _ _ 4 _ _ _ HB1.out.1];rfl);have k5:w1.cell? ⟨w.heap.size,5,none⟩=some (.slice a5 m5 c5):=(by rw [cell_of_row _ _ 5 _ _ _ HB1.out.1];rfl)))
   go_ret
   exact ⟨rfl,HB1.out.2⟩
 subst q4
 rw [decide_eq_true rfl,Bool.true_and]
 by_cases q5:m5=0
 rotate_left
 · have g1 : 0 < (m5 : Int) := by omega
   have g2:decide (0<(m5:Int))=true:=decide_eq_true g1
   rw [decide_eq_false q5,Bool.false_and]
   go_enter Tryz.func92,Tryz.ntmps92
   go_wp2_with (first | (go_at_call_of 48 (Value.string n);refine (HN.out _).mono ?_;rintro e' w' ⟨rfl,rfl⟩) | (go_at_call 129;refine (HIY.out _ HB.out.2).mono ?_;rintro e' w1 ⟨rfl,hb⟩;have HB1:=Lib.hid (bw_below HB.out hb);clear hb;have k0:w1.cell? ⟨w.heap.size,0,none⟩=some (.int .u8 1):=(by rw [cell_of_row _ _ 0 _ _ _ HB1.out.1];rfl);have k4:w1.cell? ⟨w.heap.size,4,none⟩=some (.slice a4 0 c4):=(by rw [cell_of_row _ _ 4 _ _ _ HB1.out.1];rfl);have k5:w1.cell? ⟨w.heap.size,5,none⟩=some (.slice a5 m5 c5):=(by rw [cell_of_row _ _ 5 _ _ _ HB1.out.1];rfl)))
   go_ret
   exact ⟨rfl,HB1.out.2⟩
 subst q5
 rw [decide_eq_true rfl,Bool.true_and]
 go_enter Tryz.func92,Tryz.ntmps92
 go_wp2_with (first | (go_at_call_of 48 (Value.string n);refine (HN.out _).mono ?_;rintro e' w' ⟨rfl,rfl⟩) | (go_at_call 129;refine (HIY.out _ HB.out.2).mono ?_;rintro e' w1 ⟨rfl,hb⟩;have HB1:=Lib.hid (bw_below HB.out hb);clear hb;have k0:w1.cell? ⟨w.heap.size,0,none⟩=some (.int .u8 1):=(by rw [cell_of_row _ _ 0 _ _ _ HB1.out.1];rfl);have k4:w1.cell? ⟨w.heap.size,4,none⟩=some (.slice a4 0 c4):=(by rw [cell_of_row _ _ 4 _ _ _ HB1.out.1];rfl);have k5:w1.cell? ⟨w.heap.size,5,none⟩=some (.slice a5 0 c5):=(by rw [cell_of_row _ _ 5 _ _ _ HB1.out.1];rfl)))
 go_ret
 exact ⟨rfl,HB1.out.2⟩
theorem rs_2 {n ot:ByteArray} {e:List Ex} {b l:List St} {ps:Int} {a3 a4 a5:Option Addr} {c3 c4 c5:Nat} {w:World} {d:Int} (hd0:0≤d) (hd:d≤64) (hn:nmOk n) (ho:nmOk ot) (h1:exsAt (fun _=>True) w e a3) (hrE:rgEs e) (hfE:fitEs e)
 (H4:∀ W,Below w.heap.size w W→Calls Tryz.prog 50 #[.slice a4 b.length c4,.int .i64 (d+1)] W fun e' w'=>e'=.returned (.bool (rB b (d+1)))∧Below W.heap.size W w') (H5:∀ W,Below w.heap.size w W→Calls Tryz.prog 50 #[.slice a5 l.length c5,.int .i64 (d+1)] W fun e' w'=>e'=.returned (.bool (rB l (d+1)))∧Below W.heap.size W w') :
 Calls Tryz.prog 92 #[.agg #[.int .u8 2,.string n,.string ot,.slice a3 e.length c3,.slice a4 b.length c4,.slice a5 l.length c5,.int .i64 ps],.int .i64 d] w fun e' w'=>e'=.returned (.bool (rS (.mk 2 n ot e b l ps) d))∧Below w.heap.size w w':=by
 rw [rS_eq (by decide) (by decide)]
 change Calls _ _ _ _ fun e' w'=>e'=.returned (.bool (nmB n true&&(nmB ot true&&(((e.length:Int)==1)&&(allE e&&((false || decide (b.length=0))&&((false || decide (l.length=0))&&((!false || rB b (d+1))&&(decide (l.length=0) || rB l (d+1))))))))))∧_
 obtain ⟨m4,hm4⟩:∃ m,m=b.length:=⟨_,rfl⟩
 obtain ⟨m5,hm5⟩:∃ m,m=l.length:=⟨_,rfl⟩
 obtain ⟨bb,hbb⟩:∃ t,t=rB b (d+1):=⟨_,rfl⟩
 obtain ⟨bl,hbl⟩:∃ t,t=rB l (d+1):=⟨_,rfl⟩
 rw [← hm4,← hbb] at H4 ⊢
 rw [← hm5,← hbl] at H5 ⊢
 have HH4:=Lib.hid H4
 have HH5:=Lib.hid H5
 clear hm4 hm5 hbb hbl H4 H5
 simp only [Bool.true_or,Bool.false_or,Bool.true_and,Bool.not_true,Bool.not_false]
 rw [show nmB n true=nameB n from rfl]
 have HN:Hid (∀ W,Calls Tryz.prog 48 #[.string n] W fun e w'=>e=.returned (.bool (nameB n))∧W=w'):=fun W=>rname_any n (by unfold nmOk at hn;omega) W
 obtain ⟨q,hq⟩:∃ q,q=nameB n:=⟨_,rfl⟩
 rw [← hq] at HN ⊢
 clear hq
 rw [show nmB ot true=nameB ot from rfl]
 have HO:Hid (∀ W,Calls Tryz.prog 48 #[.string ot] W fun e w'=>e=.returned (.bool (nameB ot))∧W=w'):=fun W=>rname_any ot (by unfold nmOk at ho;omega) W
 obtain ⟨q',hq'⟩:∃ q,q=nameB ot:=⟨_,rfl⟩
 rw [← hq'] at HO ⊢
 clear hq'
 cases q with
 | false =>
   rw [Bool.false_and]
   obtain ⟨em,hem⟩:∃ m,m=e.length:=⟨_,rfl⟩
   rw [← hem]
   clear hem h1 hrE hfE
   have HB:=Lib.hid (bw_new w 66 #[.int .u8 2,.string n,.string ot,.slice a3 em c3,.slice a4 m4 c4,.slice a5 m5 c5,.int .i64 ps])
   go_enter Tryz.func92,Tryz.ntmps92
   go_wp2_with (first | (go_at_call_of 48 (Value.string n);refine (HN.out _).mono ?_;rintro e' w' ⟨rfl,rfl⟩) | (go_at_call_of 48 (Value.string ot);refine (HO.out _).mono ?_;rintro e' w' ⟨rfl,rfl⟩))
   go_ret
   exact ⟨rfl,HB.out.2⟩
 | true =>
 rw [Bool.true_and]
 cases q' with
 | false =>
   rw [Bool.false_and]
   obtain ⟨em,hem⟩:∃ m,m=e.length:=⟨_,rfl⟩
   rw [← hem]
   clear hem h1 hrE hfE
   have HB:=Lib.hid (bw_new w 66 #[.int .u8 2,.string n,.string ot,.slice a3 em c3,.slice a4 m4 c4,.slice a5 m5 c5,.int .i64 ps])
   go_enter Tryz.func92,Tryz.ntmps92
   go_wp2_with (first | (go_at_call_of 48 (Value.string n);refine (HN.out _).mono ?_;rintro e' w' ⟨rfl,rfl⟩) | (go_at_call_of 48 (Value.string ot);refine (HO.out _).mono ?_;rintro e' w' ⟨rfl,rfl⟩))
   go_ret
   exact ⟨rfl,HB.out.2⟩
 | true =>
 rw [Bool.true_and]
 by_cases qe:e.length=1
 rotate_left
 · have g1 : (((e.length : Nat) : Int) != 1) = true := by simp only [bne, int_f (show ((e.length : Nat) : Int) ≠ 1 by omega), Bool.not_false]
   rw [int_f (show ((e.length:Nat):Int)≠1 by omega),Bool.false_and]
   obtain ⟨em,hem⟩:∃ m,m=e.length:=⟨_,rfl⟩
   rw [← hem] at g1 ⊢
   clear hem h1 hrE hfE qe
   have HB:=Lib.hid (bw_new w 66 #[.int .u8 2,.string n,.string ot,.slice a3 em c3,.slice a4 m4 c4,.slice a5 m5 c5,.int .i64 ps])
   go_enter Tryz.func92,Tryz.ntmps92
   go_wp2_with (first | (go_at_call_of 48 (Value.string n);refine (HN.out _).mono ?_;rintro e' w' ⟨rfl,rfl⟩) | (go_at_call_of 48 (Value.string ot);refine (HO.out _).mono ?_;rintro e' w' ⟨rfl,rfl⟩))
   go_ret
   exact ⟨rfl,HB.out.2⟩
 obtain ⟨y,rfl⟩:∃ y,e=[y]:=by
  match e,qe with
  | [y],_=>exact ⟨y,rfl⟩
 rcases h1 with e | ⟨g,qq,rfl,_,e1⟩
 · cases e
 rw [show ((([y]:List Ex).length:Nat):Int)=1 from rfl,show allE [y]=rE y 0 by simp [allE],show ((1:Int)==1)=true from rfl,Bool.true_and]
 have hIy:=r_rightExpr y hrE.1 hfE.1
 have e2:=e1.1
 obtain ⟨yk,yo,yw,yn,yks,yp⟩:=y
 obtain ⟨y0,y1,y2,y3,⟨ya,yc,y4,y5k⟩,y5⟩:=e2
 have hIy':∀ W,Below w.heap.size w W→Calls Tryz.prog 129 #[.agg #[.int .u8 yk,.int .u8 yo,.int .i64 yw,.string yn,.slice ya yks.length yc,.int .i64 yp],.int .i64 0] W fun e w'=>e=.returned (.bool (rE (.mk yk yo yw yn yks yp) 0))∧Below W.heap.size W w':=fun W hW=>hIy _ W 0 ⟨ya,yc,rfl,exsAt_below y5k hW⟩ (by decide) (by decide)
 change Calls _ _ #[.agg #[.int .u8 2,.string n,.string ot,.slice (some ⟨g,qq,none⟩) 1 c3,.slice a4 m4 c4,.slice a5 m5 c5,.int .i64 ps],.int .i64 d] w _
 obtain ⟨ym,hym⟩:∃ z,z=yks.length:=⟨_,rfl⟩
 rw [← hym] at hIy' y4
 obtain ⟨bx,hbx⟩:∃ t,t=rE (.mk yk yo yw yn yks yp) 0:=⟨_,rfl⟩
 rw [← hbx] at hIy' ⊢
 have HIY:=Lib.hid hIy'
 clear hym hIy hIy' qe e1 hrE hfE y5k hbx
 have HB:=Lib.hid (bw_new w 66 #[.int .u8 2,.string n,.string ot,.slice (some ⟨g,qq,none⟩) 1 c3,.slice a4 m4 c4,.slice a5 m5 c5,.int .i64 ps])
 have yf0:(w.alloc (.cells #[.int .u8 2,.string n,.string ot,.slice (some ⟨g,qq,none⟩) 1 c3,.slice a4 m4 c4,.slice a5 m5 c5,.int .i64 ps] 66)).cell? ⟨g,qq,none⟩=some (.int .u8 yk):=by rw [HB.out.2.cell (p:=⟨g,qq,none⟩) (cell_lt y0)];exact y0
 have yf1:(w.alloc (.cells #[.int .u8 2,.string n,.string ot,.slice (some ⟨g,qq,none⟩) 1 c3,.slice a4 m4 c4,.slice a5 m5 c5,.int .i64 ps] 66)).cell? ⟨g,qq+1,none⟩=some (.int .u8 yo):=by rw [HB.out.2.cell (p:=⟨g,qq+1,none⟩) (cell_lt y1)];exact y1
 have yf2:(w.alloc (.cells #[.int .u8 2,.string n,.string ot,.slice (some ⟨g,qq,none⟩) 1 c3,.slice a4 m4 c4,.slice a5 m5 c5,.int .i64 ps] 66)).cell? ⟨g,qq+2,none⟩=some (.int .i64 yw):=by rw [HB.out.2.cell (p:=⟨g,qq+2,none⟩) (cell_lt y2)];exact y2
 have yf3:(w.alloc (.cells #[.int .u8 2,.string n,.string ot,.slice (some ⟨g,qq,none⟩) 1 c3,.slice a4 m4 c4,.slice a5 m5 c5,.int .i64 ps] 66)).cell? ⟨g,qq+3,none⟩=some (.string yn):=by rw [HB.out.2.cell (p:=⟨g,qq+3,none⟩) (cell_lt y3)];exact y3
 have yf4:(w.alloc (.cells #[.int .u8 2,.string n,.string ot,.slice (some ⟨g,qq,none⟩) 1 c3,.slice a4 m4 c4,.slice a5 m5 c5,.int .i64 ps] 66)).cell? ⟨g,qq+4,none⟩=some (.slice ya ym yc):=by rw [HB.out.2.cell (p:=⟨g,qq+4,none⟩) (cell_lt y4)];exact y4
 have yf5:(w.alloc (.cells #[.int .u8 2,.string n,.string ot,.slice (some ⟨g,qq,none⟩) 1 c3,.slice a4 m4 c4,.slice a5 m5 c5,.int .i64 ps] 66)).cell? ⟨g,qq+5,none⟩=some (.int .i64 yp):=by rw [HB.out.2.cell (p:=⟨g,qq+5,none⟩) (cell_lt y5)];exact y5
 clear y0 y1 y2 y3 y4 y5
 cases bx with
 | false =>
   rw [Bool.false_and]
   go_enter Tryz.func92,Tryz.ntmps92
   go_wp2_with (first | (go_at_call_of 48 (Value.string n);refine (HN.out _).mono ?_;rintro e' w' ⟨rfl,rfl⟩) | (go_at_call_of 48 (Value.string ot);refine (HO.out _).mono ?_;rintro e' w' ⟨rfl,rfl⟩) | (go_at_call 129;refine (HIY.out _ HB.out.2).mono ?_;rintro e' w1 ⟨rfl,hb⟩;have HB1:=Lib.hid (bw_below HB.out hb);clear hb;have k0:w1.cell? ⟨w.heap.size,0,none⟩=some (.int .u8 2):=(by rw [cell_of_row _ _ 0 _ _ _ HB1.out.1];rfl);have k4:w1.cell? ⟨w.heap.size,4,none⟩=some (.slice a4 m4 c4):=(by rw [cell_of_row _ _ 4 _ _ _ HB1.out.1];rfl);have k5:w1.cell? ⟨w.heap.size,5,none⟩=some (.slice a5 m5 c5):=(by rw [cell_of_row _ _ 5 _ _ _ HB1.out.1];rfl)))
   go_ret
   exact ⟨rfl,HB1.out.2⟩
 | true =>
 rw [Bool.true_and]
 by_cases q4:m4=0
 rotate_left
 · have g1 : 0 < (m4 : Int) := by omega
   have g2:decide (0<(m4:Int))=true:=decide_eq_true g1
   rw [decide_eq_false q4,Bool.false_and]
   go_enter Tryz.func92,Tryz.ntmps92
   go_wp2_with (first | (go_at_call_of 48 (Value.string n);refine (HN.out _).mono ?_;rintro e' w' ⟨rfl,rfl⟩) | (go_at_call_of 48 (Value.string ot);refine (HO.out _).mono ?_;rintro e' w' ⟨rfl,rfl⟩) | (go_at_call 129;refine (HIY.out _ HB.out.2).mono ?_;rintro e' w1 ⟨rfl,hb⟩;have HB1:=Lib.hid (bw_below HB.out hb);clear hb;have k0:w1.cell? ⟨w.heap.size,0,none⟩=some (.int .u8 2):=(by rw [cell_of_row _ _ 0 _ _ _ HB1.out.1];rfl);have k4:w1.cell? ⟨w.heap.size,4,none⟩=some (.slice a4 m4 c4):=(by rw [cell_of_row _ _ 4 _ _ _ HB1.out.1];rfl);have k5:w1.cell? ⟨w.heap.size,5,none⟩=some (.slice a5 m5 c5):=(by rw [cell_of_row _ _ 5 _ _ _ HB1.out.1];rfl)))
   go_ret
   exact ⟨rfl,HB1.out.2⟩
 subst q4
 rw [decide_eq_true rfl,Bool.true_and]
 by_cases q5:m5=0
 rotate_left
 · have g1 : 0 < (m5 : Int) := by omega
   have g2:decide (0<(m5:Int))=true:=decide_eq_true g1
   rw [decide_eq_false q5,Bool.false_and]
   go_enter Tryz.func92,Tryz.ntmps92
   go_wp2_with (first | (go_at_call_of 48 (Value.string n);refine (HN.out _).mono ?_;rintro e' w' ⟨rfl,rfl⟩) | (go_at_call_of 48 (Value.string ot);refine (HO.out _).mono ?_;rintro e' w' ⟨rfl,rfl⟩) | (go_at_call 129;refine (HIY.out _ HB.out.2).mono ?_;rintro e' w1 ⟨rfl,hb⟩;have HB1:=Lib.hid (bw_below HB.out hb);clear hb;have k0:w1.cell? ⟨w.heap.size,0,none⟩=some (.int .u8 2):=(by rw [cell_of_row _ _ 0 _ _ _ HB1.out.1];rfl);have k4:w1.cell? ⟨w.heap.size,4,none⟩=some (.slice a4 0 c4):=(by rw [cell_of_row _ _ 4 _ _ _ HB1.out.1];rfl);have k5:w1.cell? ⟨w.heap.size,5,none⟩=some (.slice a5 m5 c5):=(by rw [cell_of_row _ _ 5 _ _ _ HB1.out.1];rfl)))
   go_ret
   exact ⟨rfl,HB1.out.2⟩
 subst q5
 rw [decide_eq_true rfl,Bool.true_and]
 go_enter Tryz.func92,Tryz.ntmps92
 go_wp2_with (first | (go_at_call_of 48 (Value.string n);refine (HN.out _).mono ?_;rintro e' w' ⟨rfl,rfl⟩) | (go_at_call_of 48 (Value.string ot);refine (HO.out _).mono ?_;rintro e' w' ⟨rfl,rfl⟩) | (go_at_call 129;refine (HIY.out _ HB.out.2).mono ?_;rintro e' w1 ⟨rfl,hb⟩;have HB1:=Lib.hid (bw_below HB.out hb);clear hb;have k0:w1.cell? ⟨w.heap.size,0,none⟩=some (.int .u8 2):=(by rw [cell_of_row _ _ 0 _ _ _ HB1.out.1];rfl);have k4:w1.cell? ⟨w.heap.size,4,none⟩=some (.slice a4 0 c4):=(by rw [cell_of_row _ _ 4 _ _ _ HB1.out.1];rfl);have k5:w1.cell? ⟨w.heap.size,5,none⟩=some (.slice a5 0 c5):=(by rw [cell_of_row _ _ 5 _ _ _ HB1.out.1];rfl)))
 go_ret
 exact ⟨rfl,HB1.out.2⟩
theorem rs_3 {n ot:ByteArray} {e:List Ex} {b l:List St} {ps:Int} {a3 a4 a5:Option Addr} {c3 c4 c5:Nat} {w:World} {d:Int} (hd0:0≤d) (hd:d≤64) (hn:nmOk n) (ho:nmOk ot) (h1:exsAt (fun _=>True) w e a3) (hrE:rgEs e) (hfE:fitEs e)
 (H4:∀ W,Below w.heap.size w W→Calls Tryz.prog 50 #[.slice a4 b.length c4,.int .i64 (d+1)] W fun e' w'=>e'=.returned (.bool (rB b (d+1)))∧Below W.heap.size W w') (H5:∀ W,Below w.heap.size w W→Calls Tryz.prog 50 #[.slice a5 l.length c5,.int .i64 (d+1)] W fun e' w'=>e'=.returned (.bool (rB l (d+1)))∧Below W.heap.size W w') :
 Calls Tryz.prog 92 #[.agg #[.int .u8 3,.string n,.string ot,.slice a3 e.length c3,.slice a4 b.length c4,.slice a5 l.length c5,.int .i64 ps],.int .i64 d] w fun e' w'=>e'=.returned (.bool (rS (.mk 3 n ot e b l ps) d))∧Below w.heap.size w w':=by
 rw [rS_eq (by decide) (by decide)]
 change Calls _ _ _ _ fun e' w'=>e'=.returned (.bool (nmB n false&&(nmB ot false&&(((e.length:Int)==1)&&(allE e&&((true || decide (b.length=0))&&((true || decide (l.length=0))&&((!true || rB b (d+1))&&(decide (l.length=0) || rB l (d+1))))))))))∧_
 obtain ⟨m4,hm4⟩:∃ m,m=b.length:=⟨_,rfl⟩
 obtain ⟨m5,hm5⟩:∃ m,m=l.length:=⟨_,rfl⟩
 obtain ⟨bb,hbb⟩:∃ t,t=rB b (d+1):=⟨_,rfl⟩
 obtain ⟨bl,hbl⟩:∃ t,t=rB l (d+1):=⟨_,rfl⟩
 rw [← hm4,← hbb] at H4 ⊢
 rw [← hm5,← hbl] at H5 ⊢
 have HH4:=Lib.hid H4
 have HH5:=Lib.hid H5
 clear hm4 hm5 hbb hbl H4 H5
 simp only [Bool.true_or,Bool.false_or,Bool.true_and,Bool.not_true,Bool.not_false]
 rw [show nmB n false=(n.data.toList==[]) from rfl]
 rw [show nmB ot false=(ot.data.toList==[]) from rfl]
 by_cases qn:n=⟨#[]⟩
 rotate_left
 · have g1 := bt_f qn
   rw [nm_full qn,Bool.false_and]
   clear qn
   obtain ⟨em,hem⟩:∃ m,m=e.length:=⟨_,rfl⟩
   rw [← hem]
   clear hem h1 hrE hfE
   have HB:=Lib.hid (bw_new w 66 #[.int .u8 3,.string n,.string ot,.slice a3 em c3,.slice a4 m4 c4,.slice a5 m5 c5,.int .i64 ps])
   go_enter Tryz.func92,Tryz.ntmps92
   go_wp2_with fail
   go_ret
   exact ⟨rfl,HB.out.2⟩
 subst qn
 rw [show ((⟨#[]⟩:ByteArray).data.toList==[])=true from rfl,Bool.true_and]
 by_cases qo:ot=⟨#[]⟩
 rotate_left
 · have g1 := bt_f qo
   rw [nm_full qo,Bool.false_and]
   clear qo
   obtain ⟨em,hem⟩:∃ m,m=e.length:=⟨_,rfl⟩
   rw [← hem]
   clear hem h1 hrE hfE
   have HB:=Lib.hid (bw_new w 66 #[.int .u8 3,.string ⟨#[]⟩,.string ot,.slice a3 em c3,.slice a4 m4 c4,.slice a5 m5 c5,.int .i64 ps])
   go_enter Tryz.func92,Tryz.ntmps92
   go_wp2_with fail
   go_ret
   exact ⟨rfl,HB.out.2⟩
 subst qo
 rw [show ((⟨#[]⟩:ByteArray).data.toList==[])=true from rfl,Bool.true_and]
 by_cases qe:e.length=1
 rotate_left
 · have g1 : (((e.length : Nat) : Int) != 1) = true := by simp only [bne, int_f (show ((e.length : Nat) : Int) ≠ 1 by omega), Bool.not_false]
   rw [int_f (show ((e.length:Nat):Int)≠1 by omega),Bool.false_and]
   obtain ⟨em,hem⟩:∃ m,m=e.length:=⟨_,rfl⟩
   rw [← hem] at g1 ⊢
   clear hem h1 hrE hfE qe
   have HB:=Lib.hid (bw_new w 66 #[.int .u8 3,.string ⟨#[]⟩,.string ⟨#[]⟩,.slice a3 em c3,.slice a4 m4 c4,.slice a5 m5 c5,.int .i64 ps])
   go_enter Tryz.func92,Tryz.ntmps92
   go_wp2_with fail
   go_ret
   exact ⟨rfl,HB.out.2⟩
 obtain ⟨y,rfl⟩:∃ y,e=[y]:=by
  match e,qe with
  | [y],_=>exact ⟨y,rfl⟩
 rcases h1 with e | ⟨g,qq,rfl,_,e1⟩
 · cases e
 rw [show ((([y]:List Ex).length:Nat):Int)=1 from rfl,show allE [y]=rE y 0 by simp [allE],show ((1:Int)==1)=true from rfl,Bool.true_and]
 have hIy:=r_rightExpr y hrE.1 hfE.1
 have e2:=e1.1
 obtain ⟨yk,yo,yw,yn,yks,yp⟩:=y
 obtain ⟨y0,y1,y2,y3,⟨ya,yc,y4,y5k⟩,y5⟩:=e2
 have hIy':∀ W,Below w.heap.size w W→Calls Tryz.prog 129 #[.agg #[.int .u8 yk,.int .u8 yo,.int .i64 yw,.string yn,.slice ya yks.length yc,.int .i64 yp],.int .i64 0] W fun e w'=>e=.returned (.bool (rE (.mk yk yo yw yn yks yp) 0))∧Below W.heap.size W w':=fun W hW=>hIy _ W 0 ⟨ya,yc,rfl,exsAt_below y5k hW⟩ (by decide) (by decide)
 change Calls _ _ #[.agg #[.int .u8 3,.string ⟨#[]⟩,.string ⟨#[]⟩,.slice (some ⟨g,qq,none⟩) 1 c3,.slice a4 m4 c4,.slice a5 m5 c5,.int .i64 ps],.int .i64 d] w _
 obtain ⟨ym,hym⟩:∃ z,z=yks.length:=⟨_,rfl⟩
 rw [← hym] at hIy' y4
 obtain ⟨bx,hbx⟩:∃ t,t=rE (.mk yk yo yw yn yks yp) 0:=⟨_,rfl⟩
 rw [← hbx] at hIy' ⊢
 have HIY:=Lib.hid hIy'
 clear hym hIy hIy' qe e1 hrE hfE y5k hbx
 have HB:=Lib.hid (bw_new w 66 #[.int .u8 3,.string ⟨#[]⟩,.string ⟨#[]⟩,.slice (some ⟨g,qq,none⟩) 1 c3,.slice a4 m4 c4,.slice a5 m5 c5,.int .i64 ps])
 have yf0:(w.alloc (.cells #[.int .u8 3,.string ⟨#[]⟩,.string ⟨#[]⟩,.slice (some ⟨g,qq,none⟩) 1 c3,.slice a4 m4 c4,.slice a5 m5 c5,.int .i64 ps] 66)).cell? ⟨g,qq,none⟩=some (.int .u8 yk):=by rw [HB.out.2.cell (p:=⟨g,qq,none⟩) (cell_lt y0)];exact y0
 have yf1:(w.alloc (.cells #[.int .u8 3,.string ⟨#[]⟩,.string ⟨#[]⟩,.slice (some ⟨g,qq,none⟩) 1 c3,.slice a4 m4 c4,.slice a5 m5 c5,.int .i64 ps] 66)).cell? ⟨g,qq+1,none⟩=some (.int .u8 yo):=by rw [HB.out.2.cell (p:=⟨g,qq+1,none⟩) (cell_lt y1)];exact y1
 have yf2:(w.alloc (.cells #[.int .u8 3,.string ⟨#[]⟩,.string ⟨#[]⟩,.slice (some ⟨g,qq,none⟩) 1 c3,.slice a4 m4 c4,.slice a5 m5 c5,.int .i64 ps] 66)).cell? ⟨g,qq+2,none⟩=some (.int .i64 yw):=by rw [HB.out.2.cell (p:=⟨g,qq+2,none⟩) (cell_lt y2)];exact y2
 have yf3:(w.alloc (.cells #[.int .u8 3,.string ⟨#[]⟩,.string ⟨#[]⟩,.slice (some ⟨g,qq,none⟩) 1 c3,.slice a4 m4 c4,.slice a5 m5 c5,.int .i64 ps] 66)).cell? ⟨g,qq+3,none⟩=some (.string yn):=by rw [HB.out.2.cell (p:=⟨g,qq+3,none⟩) (cell_lt y3)];exact y3
 have yf4:(w.alloc (.cells #[.int .u8 3,.string ⟨#[]⟩,.string ⟨#[]⟩,.slice (some ⟨g,qq,none⟩) 1 c3,.slice a4 m4 c4,.slice a5 m5 c5,.int .i64 ps] 66)).cell? ⟨g,qq+4,none⟩=some (.slice ya ym yc):=by rw [HB.out.2.cell (p:=⟨g,qq+4,none⟩) (cell_lt y4)];exact y4
 have yf5:(w.alloc (.cells #[.int .u8 3,.string ⟨#[]⟩,.string ⟨#[]⟩,.slice (some ⟨g,qq,none⟩) 1 c3,.slice a4 m4 c4,.slice a5 m5 c5,.int .i64 ps] 66)).cell? ⟨g,qq+5,none⟩=some (.int .i64 yp):=by rw [HB.out.2.cell (p:=⟨g,qq+5,none⟩) (cell_lt y5)];exact y5
 clear y0 y1 y2 y3 y4 y5
 cases bx with
 | false =>
   rw [Bool.false_and]
   go_enter Tryz.func92,Tryz.ntmps92
   go_wp2_with (first | (go_at_call 129;refine (HIY.out _ HB.out.2).mono ?_;rintro e' w1 ⟨rfl,hb⟩;have HB1:=Lib.hid (bw_below HB.out hb);clear hb;have k0:w1.cell? ⟨w.heap.size,0,none⟩=some (.int .u8 3):=(by rw [cell_of_row _ _ 0 _ _ _ HB1.out.1];rfl);have k4:w1.cell? ⟨w.heap.size,4,none⟩=some (.slice a4 m4 c4):=(by rw [cell_of_row _ _ 4 _ _ _ HB1.out.1];rfl);have k5:w1.cell? ⟨w.heap.size,5,none⟩=some (.slice a5 m5 c5):=(by rw [cell_of_row _ _ 5 _ _ _ HB1.out.1];rfl)))
   go_ret
   exact ⟨rfl,HB1.out.2⟩
 | true =>
 rw [Bool.true_and]
 cases bb with
 | false =>
   rw [Bool.false_and]
   go_enter Tryz.func92,Tryz.ntmps92
   go_wp2_with (first | (go_at_call 129;refine (HIY.out _ HB.out.2).mono ?_;rintro e' w1 ⟨rfl,hb⟩;have HB1:=Lib.hid (bw_below HB.out hb);clear hb;have k0:w1.cell? ⟨w.heap.size,0,none⟩=some (.int .u8 3):=(by rw [cell_of_row _ _ 0 _ _ _ HB1.out.1];rfl);have k4:w1.cell? ⟨w.heap.size,4,none⟩=some (.slice a4 m4 c4):=(by rw [cell_of_row _ _ 4 _ _ _ HB1.out.1];rfl);have k5:w1.cell? ⟨w.heap.size,5,none⟩=some (.slice a5 m5 c5):=(by rw [cell_of_row _ _ 5 _ _ _ HB1.out.1];rfl)) | (go_at_call_of 50 (Value.slice a4 m4 c4);refine (HH4.out _ HB1.out.2).mono ?_;rintro e' w2 ⟨rfl,hb⟩;have HB2:=Lib.hid (bw_below HB1.out hb);clear hb;have k0w2:w2.cell? ⟨w.heap.size,0,none⟩=some (.int .u8 3):=(by rw [cell_of_row _ _ 0 _ _ _ HB2.out.1];rfl);have k5w2:w2.cell? ⟨w.heap.size,5,none⟩=some (.slice a5 m5 c5):=(by rw [cell_of_row _ _ 5 _ _ _ HB2.out.1];rfl)))
   go_ret
   exact ⟨rfl,HB2.out.2⟩
 | true =>
 rw [Bool.true_and]
 by_cases q5:m5=0
 · subst q5
   rw [decide_eq_true rfl,Bool.true_or]
   go_enter Tryz.func92,Tryz.ntmps92
   go_wp2_with (first | (go_at_call 129;refine (HIY.out _ HB.out.2).mono ?_;rintro e' w1 ⟨rfl,hb⟩;have HB1:=Lib.hid (bw_below HB.out hb);clear hb;have k0:w1.cell? ⟨w.heap.size,0,none⟩=some (.int .u8 3):=(by rw [cell_of_row _ _ 0 _ _ _ HB1.out.1];rfl);have k4:w1.cell? ⟨w.heap.size,4,none⟩=some (.slice a4 m4 c4):=(by rw [cell_of_row _ _ 4 _ _ _ HB1.out.1];rfl);have k5:w1.cell? ⟨w.heap.size,5,none⟩=some (.slice a5 0 c5):=(by rw [cell_of_row _ _ 5 _ _ _ HB1.out.1];rfl)) | (go_at_call_of 50 (Value.slice a4 m4 c4);refine (HH4.out _ HB1.out.2).mono ?_;rintro e' w2 ⟨rfl,hb⟩;have HB2:=Lib.hid (bw_below HB1.out hb);clear hb;have k0w2:w2.cell? ⟨w.heap.size,0,none⟩=some (.int .u8 3):=(by rw [cell_of_row _ _ 0 _ _ _ HB2.out.1];rfl);have k5w2:w2.cell? ⟨w.heap.size,5,none⟩=some (.slice a5 0 c5):=(by rw [cell_of_row _ _ 5 _ _ _ HB2.out.1];rfl)))
   go_ret
   exact ⟨rfl,HB2.out.2⟩
 · have g1 : ((m5 : Int) == 0) = false := int_f (by omega)
   rw [decide_eq_false q5,Bool.false_or]
   go_enter Tryz.func92,Tryz.ntmps92
   go_wp2_with (first | (go_at_call 129;refine (HIY.out _ HB.out.2).mono ?_;rintro e' w1 ⟨rfl,hb⟩;have HB1:=Lib.hid (bw_below HB.out hb);clear hb;have k0:w1.cell? ⟨w.heap.size,0,none⟩=some (.int .u8 3):=(by rw [cell_of_row _ _ 0 _ _ _ HB1.out.1];rfl);have k4:w1.cell? ⟨w.heap.size,4,none⟩=some (.slice a4 m4 c4):=(by rw [cell_of_row _ _ 4 _ _ _ HB1.out.1];rfl);have k5:w1.cell? ⟨w.heap.size,5,none⟩=some (.slice a5 m5 c5):=(by rw [cell_of_row _ _ 5 _ _ _ HB1.out.1];rfl)) | (go_at_call_of 50 (Value.slice a4 m4 c4);refine (HH4.out _ HB1.out.2).mono ?_;rintro e' w2 ⟨rfl,hb⟩;have HB2:=Lib.hid (bw_below HB1.out hb);clear hb;have k0w2:w2.cell? ⟨w.heap.size,0,none⟩=some (.int .u8 3):=(by rw [cell_of_row _ _ 0 _ _ _ HB2.out.1];rfl);have k5w2:w2.cell? ⟨w.heap.size,5,none⟩=some (.slice a5 m5 c5):=(by rw [cell_of_row _ _ 5 _ _ _ HB2.out.1];rfl)) | (go_at_call_of 50 (Value.slice a5 m5 c5);refine (HH5.out _ HB2.out.2).mono ?_;rintro e' w3 ⟨rfl,hb⟩;have HB3:=Lib.hid (bw_below HB2.out hb);clear hb))
   go_ret
   exact ⟨rfl,HB3.out.2⟩
theorem rs_4 {n ot:ByteArray} {e:List Ex} {b l:List St} {ps:Int} {a3 a4 a5:Option Addr} {c3 c4 c5:Nat} {w:World} {d:Int} (hd0:0≤d) (hd:d≤64) (hn:nmOk n) (ho:nmOk ot) (h1:exsAt (fun _=>True) w e a3) (hrE:rgEs e) (hfE:fitEs e)
 (H4:∀ W,Below w.heap.size w W→Calls Tryz.prog 50 #[.slice a4 b.length c4,.int .i64 (d+1)] W fun e' w'=>e'=.returned (.bool (rB b (d+1)))∧Below W.heap.size W w') (H5:∀ W,Below w.heap.size w W→Calls Tryz.prog 50 #[.slice a5 l.length c5,.int .i64 (d+1)] W fun e' w'=>e'=.returned (.bool (rB l (d+1)))∧Below W.heap.size W w') :
 Calls Tryz.prog 92 #[.agg #[.int .u8 4,.string n,.string ot,.slice a3 e.length c3,.slice a4 b.length c4,.slice a5 l.length c5,.int .i64 ps],.int .i64 d] w fun e' w'=>e'=.returned (.bool (rS (.mk 4 n ot e b l ps) d))∧Below w.heap.size w w':=by
 rw [rS_eq (by decide) (by decide)]
 change Calls _ _ _ _ fun e' w'=>e'=.returned (.bool (nmB n false&&(nmB ot false&&(((e.length:Int)==1)&&(allE e&&((true || decide (b.length=0))&&((false || decide (l.length=0))&&((!true || rB b (d+1))&&(decide (l.length=0) || rB l (d+1))))))))))∧_
 obtain ⟨m4,hm4⟩:∃ m,m=b.length:=⟨_,rfl⟩
 obtain ⟨m5,hm5⟩:∃ m,m=l.length:=⟨_,rfl⟩
 obtain ⟨bb,hbb⟩:∃ t,t=rB b (d+1):=⟨_,rfl⟩
 obtain ⟨bl,hbl⟩:∃ t,t=rB l (d+1):=⟨_,rfl⟩
 rw [← hm4,← hbb] at H4 ⊢
 rw [← hm5,← hbl] at H5 ⊢
 have HH4:=Lib.hid H4
 have HH5:=Lib.hid H5
 clear hm4 hm5 hbb hbl H4 H5
 simp only [Bool.true_or,Bool.false_or,Bool.true_and,Bool.not_true,Bool.not_false]
 rw [show nmB n false=(n.data.toList==[]) from rfl]
 rw [show nmB ot false=(ot.data.toList==[]) from rfl]
 by_cases qn:n=⟨#[]⟩
 rotate_left
 · have g1 := bt_f qn
   rw [nm_full qn,Bool.false_and]
   clear qn
   obtain ⟨em,hem⟩:∃ m,m=e.length:=⟨_,rfl⟩
   rw [← hem]
   clear hem h1 hrE hfE
   have HB:=Lib.hid (bw_new w 66 #[.int .u8 4,.string n,.string ot,.slice a3 em c3,.slice a4 m4 c4,.slice a5 m5 c5,.int .i64 ps])
   go_enter Tryz.func92,Tryz.ntmps92
   go_wp2_with fail
   go_ret
   exact ⟨rfl,HB.out.2⟩
 subst qn
 rw [show ((⟨#[]⟩:ByteArray).data.toList==[])=true from rfl,Bool.true_and]
 by_cases qo:ot=⟨#[]⟩
 rotate_left
 · have g1 := bt_f qo
   rw [nm_full qo,Bool.false_and]
   clear qo
   obtain ⟨em,hem⟩:∃ m,m=e.length:=⟨_,rfl⟩
   rw [← hem]
   clear hem h1 hrE hfE
   have HB:=Lib.hid (bw_new w 66 #[.int .u8 4,.string ⟨#[]⟩,.string ot,.slice a3 em c3,.slice a4 m4 c4,.slice a5 m5 c5,.int .i64 ps])
   go_enter Tryz.func92,Tryz.ntmps92
   go_wp2_with fail
   go_ret
   exact ⟨rfl,HB.out.2⟩
 subst qo
 rw [show ((⟨#[]⟩:ByteArray).data.toList==[])=true from rfl,Bool.true_and]
 by_cases qe:e.length=1
 rotate_left
 · have g1 : (((e.length : Nat) : Int) != 1) = true := by simp only [bne, int_f (show ((e.length : Nat) : Int) ≠ 1 by omega), Bool.not_false]
   rw [int_f (show ((e.length:Nat):Int)≠1 by omega),Bool.false_and]
   obtain ⟨em,hem⟩:∃ m,m=e.length:=⟨_,rfl⟩
   rw [← hem] at g1 ⊢
   clear hem h1 hrE hfE qe
   have HB:=Lib.hid (bw_new w 66 #[.int .u8 4,.string ⟨#[]⟩,.string ⟨#[]⟩,.slice a3 em c3,.slice a4 m4 c4,.slice a5 m5 c5,.int .i64 ps])
   go_enter Tryz.func92,Tryz.ntmps92
   go_wp2_with fail
   go_ret
   exact ⟨rfl,HB.out.2⟩
 obtain ⟨y,rfl⟩:∃ y,e=[y]:=by
  match e,qe with
  | [y],_=>exact ⟨y,rfl⟩
 rcases h1 with e | ⟨g,qq,rfl,_,e1⟩
 · cases e
 rw [show ((([y]:List Ex).length:Nat):Int)=1 from rfl,show allE [y]=rE y 0 by simp [allE],show ((1:Int)==1)=true from rfl,Bool.true_and]
 have hIy:=r_rightExpr y hrE.1 hfE.1
 have e2:=e1.1
 obtain ⟨yk,yo,yw,yn,yks,yp⟩:=y
 obtain ⟨y0,y1,y2,y3,⟨ya,yc,y4,y5k⟩,y5⟩:=e2
 have hIy':∀ W,Below w.heap.size w W→Calls Tryz.prog 129 #[.agg #[.int .u8 yk,.int .u8 yo,.int .i64 yw,.string yn,.slice ya yks.length yc,.int .i64 yp],.int .i64 0] W fun e w'=>e=.returned (.bool (rE (.mk yk yo yw yn yks yp) 0))∧Below W.heap.size W w':=fun W hW=>hIy _ W 0 ⟨ya,yc,rfl,exsAt_below y5k hW⟩ (by decide) (by decide)
 change Calls _ _ #[.agg #[.int .u8 4,.string ⟨#[]⟩,.string ⟨#[]⟩,.slice (some ⟨g,qq,none⟩) 1 c3,.slice a4 m4 c4,.slice a5 m5 c5,.int .i64 ps],.int .i64 d] w _
 obtain ⟨ym,hym⟩:∃ z,z=yks.length:=⟨_,rfl⟩
 rw [← hym] at hIy' y4
 obtain ⟨bx,hbx⟩:∃ t,t=rE (.mk yk yo yw yn yks yp) 0:=⟨_,rfl⟩
 rw [← hbx] at hIy' ⊢
 have HIY:=Lib.hid hIy'
 clear hym hIy hIy' qe e1 hrE hfE y5k hbx
 have HB:=Lib.hid (bw_new w 66 #[.int .u8 4,.string ⟨#[]⟩,.string ⟨#[]⟩,.slice (some ⟨g,qq,none⟩) 1 c3,.slice a4 m4 c4,.slice a5 m5 c5,.int .i64 ps])
 have yf0:(w.alloc (.cells #[.int .u8 4,.string ⟨#[]⟩,.string ⟨#[]⟩,.slice (some ⟨g,qq,none⟩) 1 c3,.slice a4 m4 c4,.slice a5 m5 c5,.int .i64 ps] 66)).cell? ⟨g,qq,none⟩=some (.int .u8 yk):=by rw [HB.out.2.cell (p:=⟨g,qq,none⟩) (cell_lt y0)];exact y0
 have yf1:(w.alloc (.cells #[.int .u8 4,.string ⟨#[]⟩,.string ⟨#[]⟩,.slice (some ⟨g,qq,none⟩) 1 c3,.slice a4 m4 c4,.slice a5 m5 c5,.int .i64 ps] 66)).cell? ⟨g,qq+1,none⟩=some (.int .u8 yo):=by rw [HB.out.2.cell (p:=⟨g,qq+1,none⟩) (cell_lt y1)];exact y1
 have yf2:(w.alloc (.cells #[.int .u8 4,.string ⟨#[]⟩,.string ⟨#[]⟩,.slice (some ⟨g,qq,none⟩) 1 c3,.slice a4 m4 c4,.slice a5 m5 c5,.int .i64 ps] 66)).cell? ⟨g,qq+2,none⟩=some (.int .i64 yw):=by rw [HB.out.2.cell (p:=⟨g,qq+2,none⟩) (cell_lt y2)];exact y2
 have yf3:(w.alloc (.cells #[.int .u8 4,.string ⟨#[]⟩,.string ⟨#[]⟩,.slice (some ⟨g,qq,none⟩) 1 c3,.slice a4 m4 c4,.slice a5 m5 c5,.int .i64 ps] 66)).cell? ⟨g,qq+3,none⟩=some (.string yn):=by rw [HB.out.2.cell (p:=⟨g,qq+3,none⟩) (cell_lt y3)];exact y3
 have yf4:(w.alloc (.cells #[.int .u8 4,.string ⟨#[]⟩,.string ⟨#[]⟩,.slice (some ⟨g,qq,none⟩) 1 c3,.slice a4 m4 c4,.slice a5 m5 c5,.int .i64 ps] 66)).cell? ⟨g,qq+4,none⟩=some (.slice ya ym yc):=by rw [HB.out.2.cell (p:=⟨g,qq+4,none⟩) (cell_lt y4)];exact y4
 have yf5:(w.alloc (.cells #[.int .u8 4,.string ⟨#[]⟩,.string ⟨#[]⟩,.slice (some ⟨g,qq,none⟩) 1 c3,.slice a4 m4 c4,.slice a5 m5 c5,.int .i64 ps] 66)).cell? ⟨g,qq+5,none⟩=some (.int .i64 yp):=by rw [HB.out.2.cell (p:=⟨g,qq+5,none⟩) (cell_lt y5)];exact y5
 clear y0 y1 y2 y3 y4 y5
 cases bx with
 | false =>
   rw [Bool.false_and]
   go_enter Tryz.func92,Tryz.ntmps92
   go_wp2_with (first | (go_at_call 129;refine (HIY.out _ HB.out.2).mono ?_;rintro e' w1 ⟨rfl,hb⟩;have HB1:=Lib.hid (bw_below HB.out hb);clear hb;have k0:w1.cell? ⟨w.heap.size,0,none⟩=some (.int .u8 4):=(by rw [cell_of_row _ _ 0 _ _ _ HB1.out.1];rfl);have k4:w1.cell? ⟨w.heap.size,4,none⟩=some (.slice a4 m4 c4):=(by rw [cell_of_row _ _ 4 _ _ _ HB1.out.1];rfl);have k5:w1.cell? ⟨w.heap.size,5,none⟩=some (.slice a5 m5 c5):=(by rw [cell_of_row _ _ 5 _ _ _ HB1.out.1];rfl)))
   go_ret
   exact ⟨rfl,HB1.out.2⟩
 | true =>
 rw [Bool.true_and]
 by_cases q5:m5=0
 rotate_left
 · have g1 : 0 < (m5 : Int) := by omega
   have g2:decide (0<(m5:Int))=true:=decide_eq_true g1
   rw [decide_eq_false q5,Bool.false_and]
   go_enter Tryz.func92,Tryz.ntmps92
   go_wp2_with (first | (go_at_call 129;refine (HIY.out _ HB.out.2).mono ?_;rintro e' w1 ⟨rfl,hb⟩;have HB1:=Lib.hid (bw_below HB.out hb);clear hb;have k0:w1.cell? ⟨w.heap.size,0,none⟩=some (.int .u8 4):=(by rw [cell_of_row _ _ 0 _ _ _ HB1.out.1];rfl);have k4:w1.cell? ⟨w.heap.size,4,none⟩=some (.slice a4 m4 c4):=(by rw [cell_of_row _ _ 4 _ _ _ HB1.out.1];rfl);have k5:w1.cell? ⟨w.heap.size,5,none⟩=some (.slice a5 m5 c5):=(by rw [cell_of_row _ _ 5 _ _ _ HB1.out.1];rfl)))
   go_ret
   exact ⟨rfl,HB1.out.2⟩
 subst q5
 rw [decide_eq_true rfl,Bool.true_and]
 cases bb with
 | false =>
   rw [Bool.false_and]
   go_enter Tryz.func92,Tryz.ntmps92
   go_wp2_with (first | (go_at_call 129;refine (HIY.out _ HB.out.2).mono ?_;rintro e' w1 ⟨rfl,hb⟩;have HB1:=Lib.hid (bw_below HB.out hb);clear hb;have k0:w1.cell? ⟨w.heap.size,0,none⟩=some (.int .u8 4):=(by rw [cell_of_row _ _ 0 _ _ _ HB1.out.1];rfl);have k4:w1.cell? ⟨w.heap.size,4,none⟩=some (.slice a4 m4 c4):=(by rw [cell_of_row _ _ 4 _ _ _ HB1.out.1];rfl);have k5:w1.cell? ⟨w.heap.size,5,none⟩=some (.slice a5 0 c5):=(by rw [cell_of_row _ _ 5 _ _ _ HB1.out.1];rfl)) | (go_at_call_of 50 (Value.slice a4 m4 c4);refine (HH4.out _ HB1.out.2).mono ?_;rintro e' w2 ⟨rfl,hb⟩;have HB2:=Lib.hid (bw_below HB1.out hb);clear hb;have k0w2:w2.cell? ⟨w.heap.size,0,none⟩=some (.int .u8 4):=(by rw [cell_of_row _ _ 0 _ _ _ HB2.out.1];rfl);have k5w2:w2.cell? ⟨w.heap.size,5,none⟩=some (.slice a5 0 c5):=(by rw [cell_of_row _ _ 5 _ _ _ HB2.out.1];rfl)))
   go_ret
   exact ⟨rfl,HB2.out.2⟩
 | true =>
 rw [Bool.true_and]
 go_enter Tryz.func92,Tryz.ntmps92
 go_wp2_with (first | (go_at_call 129;refine (HIY.out _ HB.out.2).mono ?_;rintro e' w1 ⟨rfl,hb⟩;have HB1:=Lib.hid (bw_below HB.out hb);clear hb;have k0:w1.cell? ⟨w.heap.size,0,none⟩=some (.int .u8 4):=(by rw [cell_of_row _ _ 0 _ _ _ HB1.out.1];rfl);have k4:w1.cell? ⟨w.heap.size,4,none⟩=some (.slice a4 m4 c4):=(by rw [cell_of_row _ _ 4 _ _ _ HB1.out.1];rfl);have k5:w1.cell? ⟨w.heap.size,5,none⟩=some (.slice a5 0 c5):=(by rw [cell_of_row _ _ 5 _ _ _ HB1.out.1];rfl)) | (go_at_call_of 50 (Value.slice a4 m4 c4);refine (HH4.out _ HB1.out.2).mono ?_;rintro e' w2 ⟨rfl,hb⟩;have HB2:=Lib.hid (bw_below HB1.out hb);clear hb;have k0w2:w2.cell? ⟨w.heap.size,0,none⟩=some (.int .u8 4):=(by rw [cell_of_row _ _ 0 _ _ _ HB2.out.1];rfl);have k5w2:w2.cell? ⟨w.heap.size,5,none⟩=some (.slice a5 0 c5):=(by rw [cell_of_row _ _ 5 _ _ _ HB2.out.1];rfl)))
 go_ret
 exact ⟨rfl,HB2.out.2⟩
theorem rs_5 {n ot:ByteArray} {e:List Ex} {b l:List St} {ps:Int} {a3 a4 a5:Option Addr} {c3 c4 c5:Nat} {w:World} {d:Int} (hd0:0≤d) (hd:d≤64) (hn:nmOk n) (ho:nmOk ot) (h1:exsAt (fun _=>True) w e a3) (hrE:rgEs e) (hfE:fitEs e)
 (H4:∀ W,Below w.heap.size w W→Calls Tryz.prog 50 #[.slice a4 b.length c4,.int .i64 (d+1)] W fun e' w'=>e'=.returned (.bool (rB b (d+1)))∧Below W.heap.size W w') (H5:∀ W,Below w.heap.size w W→Calls Tryz.prog 50 #[.slice a5 l.length c5,.int .i64 (d+1)] W fun e' w'=>e'=.returned (.bool (rB l (d+1)))∧Below W.heap.size W w') :
 Calls Tryz.prog 92 #[.agg #[.int .u8 5,.string n,.string ot,.slice a3 e.length c3,.slice a4 b.length c4,.slice a5 l.length c5,.int .i64 ps],.int .i64 d] w fun e' w'=>e'=.returned (.bool (rS (.mk 5 n ot e b l ps) d))∧Below w.heap.size w w':=by
 rw [rS_eq (by decide) (by decide)]
 change Calls _ _ _ _ fun e' w'=>e'=.returned (.bool (nmB n true&&(nmB ot false&&(((e.length:Int)==0)&&(allE e&&((true || decide (b.length=0))&&((false || decide (l.length=0))&&((!true || rB b (d+1))&&(decide (l.length=0) || rB l (d+1))))))))))∧_
 obtain ⟨m4,hm4⟩:∃ m,m=b.length:=⟨_,rfl⟩
 obtain ⟨m5,hm5⟩:∃ m,m=l.length:=⟨_,rfl⟩
 obtain ⟨bb,hbb⟩:∃ t,t=rB b (d+1):=⟨_,rfl⟩
 obtain ⟨bl,hbl⟩:∃ t,t=rB l (d+1):=⟨_,rfl⟩
 rw [← hm4,← hbb] at H4 ⊢
 rw [← hm5,← hbl] at H5 ⊢
 have HH4:=Lib.hid H4
 have HH5:=Lib.hid H5
 clear hm4 hm5 hbb hbl H4 H5
 simp only [Bool.true_or,Bool.false_or,Bool.true_and,Bool.not_true,Bool.not_false]
 rw [show nmB n true=nameB n from rfl]
 have HN:Hid (∀ W,Calls Tryz.prog 48 #[.string n] W fun e w'=>e=.returned (.bool (nameB n))∧W=w'):=fun W=>rname_any n (by unfold nmOk at hn;omega) W
 obtain ⟨q,hq⟩:∃ q,q=nameB n:=⟨_,rfl⟩
 rw [← hq] at HN ⊢
 clear hq
 rw [show nmB ot false=(ot.data.toList==[]) from rfl]
 cases q with
 | false =>
   rw [Bool.false_and]
   obtain ⟨em,hem⟩:∃ m,m=e.length:=⟨_,rfl⟩
   rw [← hem]
   clear hem h1 hrE hfE
   have HB:=Lib.hid (bw_new w 66 #[.int .u8 5,.string n,.string ot,.slice a3 em c3,.slice a4 m4 c4,.slice a5 m5 c5,.int .i64 ps])
   go_enter Tryz.func92,Tryz.ntmps92
   go_wp2_with (first | (go_at_call_of 48 (Value.string n);refine (HN.out _).mono ?_;rintro e' w' ⟨rfl,rfl⟩))
   go_ret
   exact ⟨rfl,HB.out.2⟩
 | true =>
 rw [Bool.true_and]
 by_cases qo:ot=⟨#[]⟩
 rotate_left
 · have g1 := bt_f qo
   rw [nm_full qo,Bool.false_and]
   clear qo
   obtain ⟨em,hem⟩:∃ m,m=e.length:=⟨_,rfl⟩
   rw [← hem]
   clear hem h1 hrE hfE
   have HB:=Lib.hid (bw_new w 66 #[.int .u8 5,.string n,.string ot,.slice a3 em c3,.slice a4 m4 c4,.slice a5 m5 c5,.int .i64 ps])
   go_enter Tryz.func92,Tryz.ntmps92
   go_wp2_with (first | (go_at_call_of 48 (Value.string n);refine (HN.out _).mono ?_;rintro e' w' ⟨rfl,rfl⟩))
   go_ret
   exact ⟨rfl,HB.out.2⟩
 subst qo
 rw [show ((⟨#[]⟩:ByteArray).data.toList==[])=true from rfl,Bool.true_and]
 by_cases qe:e.length=0
 rotate_left
 · have g1 : (((e.length : Nat) : Int) != 0) = true := by simp only [bne, int_f (show ((e.length : Nat) : Int) ≠ 0 by omega), Bool.not_false]
   rw [int_f (show ((e.length:Nat):Int)≠0 by omega),Bool.false_and]
   obtain ⟨em,hem⟩:∃ m,m=e.length:=⟨_,rfl⟩
   rw [← hem] at g1 ⊢
   clear hem h1 hrE hfE qe
   have HB:=Lib.hid (bw_new w 66 #[.int .u8 5,.string n,.string ⟨#[]⟩,.slice a3 em c3,.slice a4 m4 c4,.slice a5 m5 c5,.int .i64 ps])
   go_enter Tryz.func92,Tryz.ntmps92
   go_wp2_with (first | (go_at_call_of 48 (Value.string n);refine (HN.out _).mono ?_;rintro e' w' ⟨rfl,rfl⟩))
   go_ret
   exact ⟨rfl,HB.out.2⟩
 obtain rfl:e=[]:=List.eq_nil_of_length_eq_zero qe
 rw [show ((([]:List Ex).length:Nat):Int)=0 from rfl,show allE []=true from rfl,show ((0:Int)==0)=true from rfl,Bool.true_and,Bool.true_and]
 change Calls _ _ #[.agg #[.int .u8 5,.string n,.string ⟨#[]⟩,.slice a3 0 c3,.slice a4 m4 c4,.slice a5 m5 c5,.int .i64 ps],_] _ _
 clear qe h1 hrE hfE
 have HB:=Lib.hid (bw_new w 66 #[.int .u8 5,.string n,.string ⟨#[]⟩,.slice a3 0 c3,.slice a4 m4 c4,.slice a5 m5 c5,.int .i64 ps])
 by_cases q5:m5=0
 rotate_left
 · have g1 : 0 < (m5 : Int) := by omega
   have g2:decide (0<(m5:Int))=true:=decide_eq_true g1
   rw [decide_eq_false q5,Bool.false_and]
   go_enter Tryz.func92,Tryz.ntmps92
   go_wp2_with (first | (go_at_call_of 48 (Value.string n);refine (HN.out _).mono ?_;rintro e' w' ⟨rfl,rfl⟩))
   go_ret
   exact ⟨rfl,HB.out.2⟩
 subst q5
 rw [decide_eq_true rfl,Bool.true_and]
 cases bb with
 | false =>
   rw [Bool.false_and]
   go_enter Tryz.func92,Tryz.ntmps92
   go_wp2_with (first | (go_at_call_of 48 (Value.string n);refine (HN.out _).mono ?_;rintro e' w' ⟨rfl,rfl⟩) | (go_at_call_of 50 (Value.slice a4 m4 c4);refine (HH4.out _ HB.out.2).mono ?_;rintro e' w2 ⟨rfl,hb⟩;have HB2:=Lib.hid (bw_below HB.out hb);clear hb;have k0w2:w2.cell? ⟨w.heap.size,0,none⟩=some (.int .u8 5):=(by rw [cell_of_row _ _ 0 _ _ _ HB2.out.1];rfl);have k5w2:w2.cell? ⟨w.heap.size,5,none⟩=some (.slice a5 0 c5):=(by rw [cell_of_row _ _ 5 _ _ _ HB2.out.1];rfl)))
   go_ret
   exact ⟨rfl,HB2.out.2⟩
 | true =>
 rw [Bool.true_and]
 go_enter Tryz.func92,Tryz.ntmps92
 go_wp2_with (first | (go_at_call_of 48 (Value.string n);refine (HN.out _).mono ?_;rintro e' w' ⟨rfl,rfl⟩) | (go_at_call_of 50 (Value.slice a4 m4 c4);refine (HH4.out _ HB.out.2).mono ?_;rintro e' w2 ⟨rfl,hb⟩;have HB2:=Lib.hid (bw_below HB.out hb);clear hb;have k0w2:w2.cell? ⟨w.heap.size,0,none⟩=some (.int .u8 5):=(by rw [cell_of_row _ _ 0 _ _ _ HB2.out.1];rfl);have k5w2:w2.cell? ⟨w.heap.size,5,none⟩=some (.slice a5 0 c5):=(by rw [cell_of_row _ _ 5 _ _ _ HB2.out.1];rfl)))
 go_ret
 exact ⟨rfl,HB2.out.2⟩
theorem rs_6 {n ot:ByteArray} {e:List Ex} {b l:List St} {ps:Int} {a3 a4 a5:Option Addr} {c3 c4 c5:Nat} {w:World} {d:Int} (hd0:0≤d) (hd:d≤64) (hn:nmOk n) (ho:nmOk ot) (h1:exsAt (fun _=>True) w e a3) (hrE:rgEs e) (hfE:fitEs e)
 (H4:∀ W,Below w.heap.size w W→Calls Tryz.prog 50 #[.slice a4 b.length c4,.int .i64 (d+1)] W fun e' w'=>e'=.returned (.bool (rB b (d+1)))∧Below W.heap.size W w') (H5:∀ W,Below w.heap.size w W→Calls Tryz.prog 50 #[.slice a5 l.length c5,.int .i64 (d+1)] W fun e' w'=>e'=.returned (.bool (rB l (d+1)))∧Below W.heap.size W w') :
 Calls Tryz.prog 92 #[.agg #[.int .u8 6,.string n,.string ot,.slice a3 e.length c3,.slice a4 b.length c4,.slice a5 l.length c5,.int .i64 ps],.int .i64 d] w fun e' w'=>e'=.returned (.bool (rS (.mk 6 n ot e b l ps) d))∧Below w.heap.size w w':=by
 rw [rS_eq (by decide) (by decide)]
 change Calls _ _ _ _ fun e' w'=>e'=.returned (.bool (nmB n false&&(nmB ot false&&(((e.length:Int)==1)&&(allE e&&((false || decide (b.length=0))&&((false || decide (l.length=0))&&((!false || rB b (d+1))&&(decide (l.length=0) || rB l (d+1))))))))))∧_
 obtain ⟨m4,hm4⟩:∃ m,m=b.length:=⟨_,rfl⟩
 obtain ⟨m5,hm5⟩:∃ m,m=l.length:=⟨_,rfl⟩
 obtain ⟨bb,hbb⟩:∃ t,t=rB b (d+1):=⟨_,rfl⟩
 obtain ⟨bl,hbl⟩:∃ t,t=rB l (d+1):=⟨_,rfl⟩
 rw [← hm4,← hbb] at H4 ⊢
 rw [← hm5,← hbl] at H5 ⊢
 have HH4:=Lib.hid H4
 have HH5:=Lib.hid H5
 clear hm4 hm5 hbb hbl H4 H5
 simp only [Bool.true_or,Bool.false_or,Bool.true_and,Bool.not_true,Bool.not_false]
 rw [show nmB n false=(n.data.toList==[]) from rfl]
 rw [show nmB ot false=(ot.data.toList==[]) from rfl]
 by_cases qn:n=⟨#[]⟩
 rotate_left
 · have g1 := bt_f qn
   rw [nm_full qn,Bool.false_and]
   clear qn
   obtain ⟨em,hem⟩:∃ m,m=e.length:=⟨_,rfl⟩
   rw [← hem]
   clear hem h1 hrE hfE
   have HB:=Lib.hid (bw_new w 66 #[.int .u8 6,.string n,.string ot,.slice a3 em c3,.slice a4 m4 c4,.slice a5 m5 c5,.int .i64 ps])
   go_enter Tryz.func92,Tryz.ntmps92
   go_wp2_with fail
   go_ret
   exact ⟨rfl,HB.out.2⟩
 subst qn
 rw [show ((⟨#[]⟩:ByteArray).data.toList==[])=true from rfl,Bool.true_and]
 by_cases qo:ot=⟨#[]⟩
 rotate_left
 · have g1 := bt_f qo
   rw [nm_full qo,Bool.false_and]
   clear qo
   obtain ⟨em,hem⟩:∃ m,m=e.length:=⟨_,rfl⟩
   rw [← hem]
   clear hem h1 hrE hfE
   have HB:=Lib.hid (bw_new w 66 #[.int .u8 6,.string ⟨#[]⟩,.string ot,.slice a3 em c3,.slice a4 m4 c4,.slice a5 m5 c5,.int .i64 ps])
   go_enter Tryz.func92,Tryz.ntmps92
   go_wp2_with fail
   go_ret
   exact ⟨rfl,HB.out.2⟩
 subst qo
 rw [show ((⟨#[]⟩:ByteArray).data.toList==[])=true from rfl,Bool.true_and]
 by_cases qe:e.length=1
 rotate_left
 · have g1 : (((e.length : Nat) : Int) != 1) = true := by simp only [bne, int_f (show ((e.length : Nat) : Int) ≠ 1 by omega), Bool.not_false]
   rw [int_f (show ((e.length:Nat):Int)≠1 by omega),Bool.false_and]
   obtain ⟨em,hem⟩:∃ m,m=e.length:=⟨_,rfl⟩
   rw [← hem] at g1 ⊢
   clear hem h1 hrE hfE qe
   have HB:=Lib.hid (bw_new w 66 #[.int .u8 6,.string ⟨#[]⟩,.string ⟨#[]⟩,.slice a3 em c3,.slice a4 m4 c4,.slice a5 m5 c5,.int .i64 ps])
   go_enter Tryz.func92,Tryz.ntmps92
   go_wp2_with fail
   go_ret
   exact ⟨rfl,HB.out.2⟩
 obtain ⟨y,rfl⟩:∃ y,e=[y]:=by
  match e,qe with
  | [y],_=>exact ⟨y,rfl⟩
 rcases h1 with e | ⟨g,qq,rfl,_,e1⟩
 · cases e
 rw [show ((([y]:List Ex).length:Nat):Int)=1 from rfl,show allE [y]=rE y 0 by simp [allE],show ((1:Int)==1)=true from rfl,Bool.true_and]
 have hIy:=r_rightExpr y hrE.1 hfE.1
 have e2:=e1.1
 obtain ⟨yk,yo,yw,yn,yks,yp⟩:=y
 obtain ⟨y0,y1,y2,y3,⟨ya,yc,y4,y5k⟩,y5⟩:=e2
 have hIy':∀ W,Below w.heap.size w W→Calls Tryz.prog 129 #[.agg #[.int .u8 yk,.int .u8 yo,.int .i64 yw,.string yn,.slice ya yks.length yc,.int .i64 yp],.int .i64 0] W fun e w'=>e=.returned (.bool (rE (.mk yk yo yw yn yks yp) 0))∧Below W.heap.size W w':=fun W hW=>hIy _ W 0 ⟨ya,yc,rfl,exsAt_below y5k hW⟩ (by decide) (by decide)
 change Calls _ _ #[.agg #[.int .u8 6,.string ⟨#[]⟩,.string ⟨#[]⟩,.slice (some ⟨g,qq,none⟩) 1 c3,.slice a4 m4 c4,.slice a5 m5 c5,.int .i64 ps],.int .i64 d] w _
 obtain ⟨ym,hym⟩:∃ z,z=yks.length:=⟨_,rfl⟩
 rw [← hym] at hIy' y4
 obtain ⟨bx,hbx⟩:∃ t,t=rE (.mk yk yo yw yn yks yp) 0:=⟨_,rfl⟩
 rw [← hbx] at hIy' ⊢
 have HIY:=Lib.hid hIy'
 clear hym hIy hIy' qe e1 hrE hfE y5k hbx
 have HB:=Lib.hid (bw_new w 66 #[.int .u8 6,.string ⟨#[]⟩,.string ⟨#[]⟩,.slice (some ⟨g,qq,none⟩) 1 c3,.slice a4 m4 c4,.slice a5 m5 c5,.int .i64 ps])
 have yf0:(w.alloc (.cells #[.int .u8 6,.string ⟨#[]⟩,.string ⟨#[]⟩,.slice (some ⟨g,qq,none⟩) 1 c3,.slice a4 m4 c4,.slice a5 m5 c5,.int .i64 ps] 66)).cell? ⟨g,qq,none⟩=some (.int .u8 yk):=by rw [HB.out.2.cell (p:=⟨g,qq,none⟩) (cell_lt y0)];exact y0
 have yf1:(w.alloc (.cells #[.int .u8 6,.string ⟨#[]⟩,.string ⟨#[]⟩,.slice (some ⟨g,qq,none⟩) 1 c3,.slice a4 m4 c4,.slice a5 m5 c5,.int .i64 ps] 66)).cell? ⟨g,qq+1,none⟩=some (.int .u8 yo):=by rw [HB.out.2.cell (p:=⟨g,qq+1,none⟩) (cell_lt y1)];exact y1
 have yf2:(w.alloc (.cells #[.int .u8 6,.string ⟨#[]⟩,.string ⟨#[]⟩,.slice (some ⟨g,qq,none⟩) 1 c3,.slice a4 m4 c4,.slice a5 m5 c5,.int .i64 ps] 66)).cell? ⟨g,qq+2,none⟩=some (.int .i64 yw):=by rw [HB.out.2.cell (p:=⟨g,qq+2,none⟩) (cell_lt y2)];exact y2
 have yf3:(w.alloc (.cells #[.int .u8 6,.string ⟨#[]⟩,.string ⟨#[]⟩,.slice (some ⟨g,qq,none⟩) 1 c3,.slice a4 m4 c4,.slice a5 m5 c5,.int .i64 ps] 66)).cell? ⟨g,qq+3,none⟩=some (.string yn):=by rw [HB.out.2.cell (p:=⟨g,qq+3,none⟩) (cell_lt y3)];exact y3
 have yf4:(w.alloc (.cells #[.int .u8 6,.string ⟨#[]⟩,.string ⟨#[]⟩,.slice (some ⟨g,qq,none⟩) 1 c3,.slice a4 m4 c4,.slice a5 m5 c5,.int .i64 ps] 66)).cell? ⟨g,qq+4,none⟩=some (.slice ya ym yc):=by rw [HB.out.2.cell (p:=⟨g,qq+4,none⟩) (cell_lt y4)];exact y4
 have yf5:(w.alloc (.cells #[.int .u8 6,.string ⟨#[]⟩,.string ⟨#[]⟩,.slice (some ⟨g,qq,none⟩) 1 c3,.slice a4 m4 c4,.slice a5 m5 c5,.int .i64 ps] 66)).cell? ⟨g,qq+5,none⟩=some (.int .i64 yp):=by rw [HB.out.2.cell (p:=⟨g,qq+5,none⟩) (cell_lt y5)];exact y5
 clear y0 y1 y2 y3 y4 y5
 cases bx with
 | false =>
   rw [Bool.false_and]
   go_enter Tryz.func92,Tryz.ntmps92
   go_wp2_with (first | (go_at_call 129;refine (HIY.out _ HB.out.2).mono ?_;rintro e' w1 ⟨rfl,hb⟩;have HB1:=Lib.hid (bw_below HB.out hb);clear hb;have k0:w1.cell? ⟨w.heap.size,0,none⟩=some (.int .u8 6):=(by rw [cell_of_row _ _ 0 _ _ _ HB1.out.1];rfl);have k4:w1.cell? ⟨w.heap.size,4,none⟩=some (.slice a4 m4 c4):=(by rw [cell_of_row _ _ 4 _ _ _ HB1.out.1];rfl);have k5:w1.cell? ⟨w.heap.size,5,none⟩=some (.slice a5 m5 c5):=(by rw [cell_of_row _ _ 5 _ _ _ HB1.out.1];rfl)))
   go_ret
   exact ⟨rfl,HB1.out.2⟩
 | true =>
 rw [Bool.true_and]
 by_cases q4:m4=0
 rotate_left
 · have g1 : 0 < (m4 : Int) := by omega
   have g2:decide (0<(m4:Int))=true:=decide_eq_true g1
   rw [decide_eq_false q4,Bool.false_and]
   go_enter Tryz.func92,Tryz.ntmps92
   go_wp2_with (first | (go_at_call 129;refine (HIY.out _ HB.out.2).mono ?_;rintro e' w1 ⟨rfl,hb⟩;have HB1:=Lib.hid (bw_below HB.out hb);clear hb;have k0:w1.cell? ⟨w.heap.size,0,none⟩=some (.int .u8 6):=(by rw [cell_of_row _ _ 0 _ _ _ HB1.out.1];rfl);have k4:w1.cell? ⟨w.heap.size,4,none⟩=some (.slice a4 m4 c4):=(by rw [cell_of_row _ _ 4 _ _ _ HB1.out.1];rfl);have k5:w1.cell? ⟨w.heap.size,5,none⟩=some (.slice a5 m5 c5):=(by rw [cell_of_row _ _ 5 _ _ _ HB1.out.1];rfl)))
   go_ret
   exact ⟨rfl,HB1.out.2⟩
 subst q4
 rw [decide_eq_true rfl,Bool.true_and]
 by_cases q5:m5=0
 rotate_left
 · have g1 : 0 < (m5 : Int) := by omega
   have g2:decide (0<(m5:Int))=true:=decide_eq_true g1
   rw [decide_eq_false q5,Bool.false_and]
   go_enter Tryz.func92,Tryz.ntmps92
   go_wp2_with (first | (go_at_call 129;refine (HIY.out _ HB.out.2).mono ?_;rintro e' w1 ⟨rfl,hb⟩;have HB1:=Lib.hid (bw_below HB.out hb);clear hb;have k0:w1.cell? ⟨w.heap.size,0,none⟩=some (.int .u8 6):=(by rw [cell_of_row _ _ 0 _ _ _ HB1.out.1];rfl);have k4:w1.cell? ⟨w.heap.size,4,none⟩=some (.slice a4 0 c4):=(by rw [cell_of_row _ _ 4 _ _ _ HB1.out.1];rfl);have k5:w1.cell? ⟨w.heap.size,5,none⟩=some (.slice a5 m5 c5):=(by rw [cell_of_row _ _ 5 _ _ _ HB1.out.1];rfl)))
   go_ret
   exact ⟨rfl,HB1.out.2⟩
 subst q5
 rw [decide_eq_true rfl,Bool.true_and]
 go_enter Tryz.func92,Tryz.ntmps92
 go_wp2_with (first | (go_at_call 129;refine (HIY.out _ HB.out.2).mono ?_;rintro e' w1 ⟨rfl,hb⟩;have HB1:=Lib.hid (bw_below HB.out hb);clear hb;have k0:w1.cell? ⟨w.heap.size,0,none⟩=some (.int .u8 6):=(by rw [cell_of_row _ _ 0 _ _ _ HB1.out.1];rfl);have k4:w1.cell? ⟨w.heap.size,4,none⟩=some (.slice a4 0 c4):=(by rw [cell_of_row _ _ 4 _ _ _ HB1.out.1];rfl);have k5:w1.cell? ⟨w.heap.size,5,none⟩=some (.slice a5 0 c5):=(by rw [cell_of_row _ _ 5 _ _ _ HB1.out.1];rfl)))
 go_ret
 exact ⟨rfl,HB1.out.2⟩
theorem rs_7 {n ot:ByteArray} {e:List Ex} {b l:List St} {ps:Int} {a3 a4 a5:Option Addr} {c3 c4 c5:Nat} {w:World} {d:Int} (hd0:0≤d) (hd:d≤64) (hn:nmOk n) (ho:nmOk ot) (h1:exsAt (fun _=>True) w e a3) (hrE:rgEs e) (hfE:fitEs e)
 (H4:∀ W,Below w.heap.size w W→Calls Tryz.prog 50 #[.slice a4 b.length c4,.int .i64 (d+1)] W fun e' w'=>e'=.returned (.bool (rB b (d+1)))∧Below W.heap.size W w') (H5:∀ W,Below w.heap.size w W→Calls Tryz.prog 50 #[.slice a5 l.length c5,.int .i64 (d+1)] W fun e' w'=>e'=.returned (.bool (rB l (d+1)))∧Below W.heap.size W w') :
 Calls Tryz.prog 92 #[.agg #[.int .u8 7,.string n,.string ot,.slice a3 e.length c3,.slice a4 b.length c4,.slice a5 l.length c5,.int .i64 ps],.int .i64 d] w fun e' w'=>e'=.returned (.bool (rS (.mk 7 n ot e b l ps) d))∧Below w.heap.size w w':=by
 rw [rS_eq (by decide) (by decide)]
 change Calls _ _ _ _ fun e' w'=>e'=.returned (.bool (nmB n false&&(nmB ot false&&(((e.length:Int)==0)&&(allE e&&((false || decide (b.length=0))&&((false || decide (l.length=0))&&((!false || rB b (d+1))&&(decide (l.length=0) || rB l (d+1))))))))))∧_
 obtain ⟨m4,hm4⟩:∃ m,m=b.length:=⟨_,rfl⟩
 obtain ⟨m5,hm5⟩:∃ m,m=l.length:=⟨_,rfl⟩
 obtain ⟨bb,hbb⟩:∃ t,t=rB b (d+1):=⟨_,rfl⟩
 obtain ⟨bl,hbl⟩:∃ t,t=rB l (d+1):=⟨_,rfl⟩
 rw [← hm4,← hbb] at H4 ⊢
 rw [← hm5,← hbl] at H5 ⊢
 have HH4:=Lib.hid H4
 have HH5:=Lib.hid H5
 clear hm4 hm5 hbb hbl H4 H5
 simp only [Bool.true_or,Bool.false_or,Bool.true_and,Bool.not_true,Bool.not_false]
 rw [show nmB n false=(n.data.toList==[]) from rfl]
 rw [show nmB ot false=(ot.data.toList==[]) from rfl]
 by_cases qn:n=⟨#[]⟩
 rotate_left
 · have g1 := bt_f qn
   rw [nm_full qn,Bool.false_and]
   clear qn
   obtain ⟨em,hem⟩:∃ m,m=e.length:=⟨_,rfl⟩
   rw [← hem]
   clear hem h1 hrE hfE
   have HB:=Lib.hid (bw_new w 66 #[.int .u8 7,.string n,.string ot,.slice a3 em c3,.slice a4 m4 c4,.slice a5 m5 c5,.int .i64 ps])
   go_enter Tryz.func92,Tryz.ntmps92
   go_wp2_with fail
   go_ret
   exact ⟨rfl,HB.out.2⟩
 subst qn
 rw [show ((⟨#[]⟩:ByteArray).data.toList==[])=true from rfl,Bool.true_and]
 by_cases qo:ot=⟨#[]⟩
 rotate_left
 · have g1 := bt_f qo
   rw [nm_full qo,Bool.false_and]
   clear qo
   obtain ⟨em,hem⟩:∃ m,m=e.length:=⟨_,rfl⟩
   rw [← hem]
   clear hem h1 hrE hfE
   have HB:=Lib.hid (bw_new w 66 #[.int .u8 7,.string ⟨#[]⟩,.string ot,.slice a3 em c3,.slice a4 m4 c4,.slice a5 m5 c5,.int .i64 ps])
   go_enter Tryz.func92,Tryz.ntmps92
   go_wp2_with fail
   go_ret
   exact ⟨rfl,HB.out.2⟩
 subst qo
 rw [show ((⟨#[]⟩:ByteArray).data.toList==[])=true from rfl,Bool.true_and]
 by_cases qe:e.length=0
 rotate_left
 · have g1 : (((e.length : Nat) : Int) != 0) = true := by simp only [bne, int_f (show ((e.length : Nat) : Int) ≠ 0 by omega), Bool.not_false]
   rw [int_f (show ((e.length:Nat):Int)≠0 by omega),Bool.false_and]
   obtain ⟨em,hem⟩:∃ m,m=e.length:=⟨_,rfl⟩
   rw [← hem] at g1 ⊢
   clear hem h1 hrE hfE qe
   have HB:=Lib.hid (bw_new w 66 #[.int .u8 7,.string ⟨#[]⟩,.string ⟨#[]⟩,.slice a3 em c3,.slice a4 m4 c4,.slice a5 m5 c5,.int .i64 ps])
   go_enter Tryz.func92,Tryz.ntmps92
   go_wp2_with fail
   go_ret
   exact ⟨rfl,HB.out.2⟩
 obtain rfl:e=[]:=List.eq_nil_of_length_eq_zero qe
 rw [show ((([]:List Ex).length:Nat):Int)=0 from rfl,show allE []=true from rfl,show ((0:Int)==0)=true from rfl,Bool.true_and,Bool.true_and]
 change Calls _ _ #[.agg #[.int .u8 7,.string ⟨#[]⟩,.string ⟨#[]⟩,.slice a3 0 c3,.slice a4 m4 c4,.slice a5 m5 c5,.int .i64 ps],_] _ _
 clear qe h1 hrE hfE
 have HB:=Lib.hid (bw_new w 66 #[.int .u8 7,.string ⟨#[]⟩,.string ⟨#[]⟩,.slice a3 0 c3,.slice a4 m4 c4,.slice a5 m5 c5,.int .i64 ps])
 by_cases q4:m4=0
 rotate_left
 · have g1 : 0 < (m4 : Int) := by omega
   have g2:decide (0<(m4:Int))=true:=decide_eq_true g1
   rw [decide_eq_false q4,Bool.false_and]
   go_enter Tryz.func92,Tryz.ntmps92
   go_wp2_with fail
   go_ret
   exact ⟨rfl,HB.out.2⟩
 subst q4
 rw [decide_eq_true rfl,Bool.true_and]
 by_cases q5:m5=0
 rotate_left
 · have g1 : 0 < (m5 : Int) := by omega
   have g2:decide (0<(m5:Int))=true:=decide_eq_true g1
   rw [decide_eq_false q5,Bool.false_and]
   go_enter Tryz.func92,Tryz.ntmps92
   go_wp2_with fail
   go_ret
   exact ⟨rfl,HB.out.2⟩
 subst q5
 rw [decide_eq_true rfl,Bool.true_and]
 go_enter Tryz.func92,Tryz.ntmps92
 go_wp2_with fail
 go_ret
 exact ⟨rfl,HB.out.2⟩
end Go.Proofs.YtieeaehabjjaoaaGreatDoor

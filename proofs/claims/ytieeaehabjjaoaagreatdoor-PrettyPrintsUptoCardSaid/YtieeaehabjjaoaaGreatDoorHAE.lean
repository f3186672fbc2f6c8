/- The proof, part 5: texts that belong together, in one. -/
import Derived.Test.YtieeaehabjjaoaaGreatDoorHAD
import Derived.Deep.DeepCutAuto
set_option maxRecDepth 100000
set_option maxHeartbeats 20000000
namespace Go.Proofs.YtieeaehabjjaoaaGreatDoor
open Go.RowKit
set_option linter.unusedVariables false
set_option maxRecDepth 100000
theorem level_bds (o:Int):0≤levelOf o∧levelOf o≤9:=by
 unfold levelOf
 split
 · omega
 · have : ∀ i, i < 19 → 0 ≤ lev.getD i 0 ∧ lev.getD i 0 ≤ 9 := by decide
   exact this _ (by omega)
theorem level_le (o:Int):levelOf o≤9:=(level_bds o).2
theorem level_ge (o:Int):0≤levelOf o:=(level_bds o).1
def Bw (w:World) (T:TypeId) (r:Array Value) (W:World):Prop:=Own W w.heap.size T r∧Below w.heap.size w W
theorem bw_new (w:World) (T:TypeId) (r:Array Value):Bw w T r (w.alloc (.cells r T)):=⟨Own.new w T r,(Below.refl _ w).alloc (Nat.le_refl _) _⟩
theorem bw_below {w W W':World} {T:TypeId} {r:Array Value} (h:Bw w T r W) (hb:Below W.heap.size W W'):Bw w T r W':=⟨h.1.below hb,h.2.trans (hb.mono h.2.size)⟩
theorem b2i_01 (b:Bool):0≤b2i b∧b2i b≤1:=by cases b <;> simp [b2i]
theorem p_two (o:Int) (h0:0≤o) (h1:o≤255) (w:World) (T:Tabs w):Calls Tryz.prog 101 #[.int .u8 o] w fun e w'=>e=.returned (.bool (twoB o))∧w=w':=by
 by_cases hl:0<levelOf o
 · by_cases hh : levelOf o < 9
   · have : twoB o = true := by simp [twoB, hl, hh]
     rw [this];exact two_yes o h0 h1 hl hh w T
   · have : twoB o = false := by simp [twoB, hh]
     rw [this];exact two_no o h0 h1 (.inr (by have:=level_le o;omega)) w T
 · have : twoB o = false := by simp [twoB, hl]
   rw [this];exact two_no o h0 h1 (.inl (by have:=level_ge o;omega)) w T
def NdE (x:Ex):Prop:=rgE x→∀ (v:Value) (w:World) (d:Int),exA w x v→LNm w∧Tabs w→0≤d→d≤4611686018427387904→Calls Tryz.prog 57 #[v,.int .i64 d] w (NdP w (rE x d))
theorem p_needExpr (x:Ex) (HI:∀ y∈x.kids,NdE y):NdE x:=by
 intro hrg v w d hv TT hd0 hd1
 obtain ⟨a,cap,rfl,h1⟩:=hv
 obtain ⟨k,o,wd,n,ks,ps⟩:=x
 obtain ⟨hk,ho,hwd,hks⟩:=hrg
 change Calls _ _ #[.agg #[.int .u8 k,.int .u8 o,.int .i64 wd,.string n,.slice a ks.length cap,.int .i64 ps],_] w _
 change ∀ y∈ks,NdE y at HI
 change exsAt _ w ks a at h1
 have HND:Hid (∀ b W,Calls Tryz.prog 39 #[.bool b] W (NdP W b)):=fun b W=>p_need b W
 have HNM:Hid (∀ b W,Below w.heap.size w W→Calls Tryz.prog 97 #[.string n,.bool b] W (NdP W (nmB n b))):=fun b W hb=>p_needName n b W (TT.1.below (Nat.le_refl _) hb)
 have HON:Hid (∀ W,Below w.heap.size w W→Calls Tryz.prog 98 #[.int .u8 o] W fun e w'=>e=.returned (.bool (oneB o))∧Below W.heap.size W w'):=fun W hb=>p_isOfOne o ho.1 ho.2 W (TT.2.below (Nat.le_refl _) hb)
 have HI:=Lib.hid HI
 have E1:=Lib.hid h1
 have HT:=Lib.hid TT
 have HO:=Lib.hid ho
 have HKS:=Lib.hid hks
 have HD:=Lib.hid (And.intro hd0 hd1)
 obtain ⟨m,hm⟩:∃ m,m=ks.length:=⟨_,rfl⟩
 rw [← hm]
 have HM:=Lib.hid hm
 clear hm h1 TT hk ho hwd hks
 have HB:=Lib.hid (bw_new w 59 #[.int .u8 k,.int .u8 o,.int .i64 wd,.string n,.slice a m cap,.int .i64 ps])
 obtain ⟨W0,hW0⟩:∃ W,W=w.alloc (.cells #[.int .u8 k,.int .u8 o,.int .i64 wd,.string n,.slice a m cap,.int .i64 ps] 59):=⟨_,rfl⟩
 rw [← hW0] at HB
 have HW0:=Lib.hid hW0
 clear hW0
 by_cases hd:d≤64
 rotate_left
 ·
  have hr:rE (.mk k o wd n ks ps) d=false:=by simp only [rE,decide_eq_false hd,Bool.false_and]
  rw [hr]
  have hq:decide (d≤64)=false:=decide_eq_false hd
  go_enter Tryz.func57,Tryz.ntmps57
  go_wp2_with fail
  rw [← HW0.out]
  go_at_call 39
  refine (HND.out _ _).mono ?_
  rintro e w1 hh
  obtain ⟨rfl,hb⟩:=hh.bad rfl
  go_wp2_with fail
  exact ⟨rfl,rfl,(bw_below HB.out hb).2⟩
 have hq:decide (d≤64)=true:=decide_eq_true hd
 have hr:rE (.mk k o wd n ks ps) d=(wdB k wd&&(nmB n (k==2)&&kB k o ks (rEs ks) d)):=by simp only [rE,hq,Bool.true_and]
 rw [hr]
 clear hr
 obtain ⟨R,hR⟩:∃ R,R=(wdB k wd&&(nmB n (k==2)&&kB k o ks (rEs ks) d)):=⟨_,rfl⟩
 rw [← hR]
 have HR:=Lib.hid hR
 clear hR
 go_enter Tryz.func57,Tryz.ntmps57
 go_wp2_with fail
 rw [← HW0.out]
 go_at_call 39
 refine (HND.out _ _).mono ?_
 rintro e w1 hh
 obtain ⟨rfl,hb⟩:=hh.ok rfl
 have HB1:=Lib.hid (bw_below HB.out hb)
 clear hb hq HW0 HB
 go_upto_region 2 with (fail)
 go_cut [] (fun wx=>wdB k wd=true∧Bw w 59 #[.int .u8 k,.int .u8 o,.int .i64 wd,.string n,.slice a m cap,.int .i64 ps] wx)
 case first =>
  have c0:w1.cell? ⟨w.heap.size,0,none⟩=some (.int .u8 k):=by rw [cell_of_row _ _ 0 _ _ _ HB1.out.1];rfl
  have c2:w1.cell? ⟨w.heap.size,2,none⟩=some (.int .i64 wd):=by rw [cell_of_row _ _ 2 _ _ _ HB1.out.1];rfl
  have hcase:(k==1)=true∧decide (0≤wd)=true∨(k==1)=true∧decide (0≤wd)=false∧(wd==0)=false∨(k==1)=false∧(wd==0)=true∨(k==1)=false∧(wd==0)=false:=by
   by_cases h1:k=1 <;> by_cases h2:0≤wd <;> by_cases h3:wd=0 <;> simp [h1,h2,h3] <;> omega
  obtain ⟨hwd1,hwd2⟩:wdB k wd=(((k==1)&&decide (0≤wd)) || (wd==0))∧True:=⟨rfl,trivial⟩
  rcases hcase with ⟨q1,q2⟩ | ⟨q1,q2,q3⟩ | ⟨q1,q3⟩ | ⟨q1,q3⟩
  · go_wp2_with fail
    go_at_call 39
    refine (HND.out _ _).mono ?_
    rintro e w2 hh
    obtain ⟨rfl,hb⟩:=hh.ok rfl
    have hw:wdB k wd=true:=by simp [wdB,q1,q2]
    have HB2:=Lib.hid (bw_below HB1.out hb)
    clear hb
    go_wp2_with fail
    go_meet
    exact ⟨hw,HB2.out⟩
  · have hw : wdB k wd = false := by simp [wdB, q1, q2, q3]
    go_wp2_with fail
    go_at_call 39
    refine (HND.out _ _).mono ?_
    rintro e w2 hh
    obtain ⟨rfl,hb⟩:=hh.bad rfl
    go_wp2_with fail
    exact ⟨rfl,by rw [HR.out,hw];rfl,(bw_below HB1.out hb).2⟩
  · go_wp2_with fail
    go_at_call 39
    refine (HND.out _ _).mono ?_
    rintro e w2 hh
    obtain ⟨rfl,hb⟩:=hh.ok rfl
    have hw:wdB k wd=true:=by simp [wdB,q1,q3]
    have HB2:=Lib.hid (bw_below HB1.out hb)
    clear hb
    go_wp2_with fail
    go_meet
    exact ⟨hw,HB2.out⟩
  · have hw : wdB k wd = false := by simp [wdB, q1, q3]
    go_wp2_with fail
    go_at_call 39
    refine (HND.out _ _).mono ?_
    rintro e w2 hh
    obtain ⟨rfl,hb⟩:=hh.bad rfl
    go_wp2_with fail
    exact ⟨rfl,by rw [HR.out,hw];rfl,(bw_below HB1.out hb).2⟩
 case rest =>
  obtain ⟨hw,hbw⟩:=hcut
  have HB2:=Lib.hid hbw
  clear hbw HB1
  have HW:=Lib.hid hw
  clear hw
  have c0:wc.cell? ⟨w.heap.size,0,none⟩=some (.int .u8 k):=by rw [cell_of_row _ _ 0 _ _ _ HB2.out.1];rfl
  have c3:wc.cell? ⟨w.heap.size,3,none⟩=some (.string n):=by rw [cell_of_row _ _ 3 _ _ _ HB2.out.1];rfl
  go_wp2_with fail
  go_at_call 97
  refine (HNM.out _ _ HB2.out.2).mono ?_
  rintro e w3 hh
  rcases hh.cases with ⟨h3,rfl,hb⟩ | ⟨h3,rfl,hb⟩
  rotate_left
  · go_wp2_with fail
    exact ⟨rfl,by rw [HR.out,HW.out,h3];rfl,(bw_below HB2.out hb).2⟩
  have HB3:=Lib.hid (bw_below HB2.out hb)
  have HN:=Lib.hid h3
  clear hb h3 HB2 c0 c3
  have c0:w3.cell? ⟨w.heap.size,0,none⟩=some (.int .u8 k):=by rw [cell_of_row _ _ 0 _ _ _ HB3.out.1];rfl
  have c1:w3.cell? ⟨w.heap.size,1,none⟩=some (.int .u8 o):=by rw [cell_of_row _ _ 1 _ _ _ HB3.out.1];rfl
  have c4:w3.cell? ⟨w.heap.size,4,none⟩=some (.slice a m cap):=by rw [cell_of_row _ _ 4 _ _ _ HB3.out.1];rfl
  have HEM:Hid (ks.isEmpty=((m:Int)==0)):=by
   have:=HM.out
   cases ks with
   | nil=>subst this;rfl
   | cons y r=>subst this;show false=_;symm;simp;omega
  by_cases hk12:k=1∨k=2
  · have hr : R = (o == 0 && ((m : Int) == 0)) := by rw [HR.out, HW.out, HN.out]; unfold kB; rw [if_pos hk12, HEM.out]; simp
    replace HR:=Lib.hid hr
    clear hr
    have hk:(k==1)=true∨(k==1)=false∧(k==2)=true:=by rcases hk12 with rfl | rfl <;> simp
    clear hk12
    by_cases h0:o=0
    · have ho0 : (o == 0) = true := by simp [h0]
      rcases hk with k1 | ⟨k1,k2⟩
      all_goals
       go_wp2_with fail
       go_at_call 39
       refine (HND.out _ _).mono ?_
       rintro e w4 hh
       rcases hh.cases with ⟨h4,rfl,hb⟩ | ⟨h4,rfl,hb⟩
       · have hB4 := (bw_below HB3.out hb).2
         go_wp2_with fail
         exact bodyPost_end (results_none rfl _ _ _) rfl ⟨by rw [HR.out,ho0,h4];rfl,hB4⟩
       · go_wp2_with fail
         exact ⟨rfl,by rw [HR.out,ho0,h4];rfl,(bw_below HB3.out hb).2⟩
    · have ho0 : (o == 0) = false := by simp [h0]
      rcases hk with k1 | ⟨k1,k2⟩
      all_goals
       go_wp2_with fail
       go_at_call 39
       refine (HND.out _ _).mono ?_
       rintro e w4 hh
       obtain ⟨rfl,hb⟩:=hh.bad rfl
       go_wp2_with fail
       exact ⟨rfl,by rw [HR.out,ho0];rfl,(bw_below HB3.out hb).2⟩
  have k1:(k==1)=false:=by simp;omega
  have k2:(k==2)=false:=by simp;omega
  by_cases hk3:k=3
  · have hr : R = (oneB o && kid1 ks (rEs ks) d) := by rw [HR.out, HW.out, HN.out]; unfold kB; rw [if_neg hk12, if_pos hk3]; simp
    replace HR:=Lib.hid hr
    have k3:(k==3)=true:=by simp [hk3]
    clear hr hk12 hk3
    cases ho1:oneB o with
    | false =>
      rw [ho1] at HON
      have HO1:=Lib.hid ho1
      clear ho1
      go_wp2_with (first | (go_at_call 98;refine (HON.out _ HB3.out.2).mono ?_;rintro e w4 ⟨rfl,hb4⟩))
      go_at_call 39
      refine (HND.out _ _).mono ?_
      rintro e w5 hh
      obtain ⟨rfl,hb⟩:=hh.bad rfl
      go_wp2_with fail
      exact ⟨rfl,by rw [HR.out,HO1.out];rfl,(bw_below (bw_below HB3.out hb4) hb).2⟩
    | true =>
      rw [ho1] at HON
      have HO1:=Lib.hid ho1
      clear ho1
      go_wp2_with fail
      go_at_call 98
      refine (HON.out _ HB3.out.2).mono ?_
      rintro e w4 ⟨rfl,hb4⟩
      have HB4:=Lib.hid (bw_below HB3.out hb4)
      clear hb4 HB3 c0 c1 c4
      have c4:w4.cell? ⟨w.heap.size,4,none⟩=some (.slice a m cap):=by rw [cell_of_row _ _ 4 _ _ _ HB4.out.1];rfl
      go_wp2_with fail
      go_at_call 39
      refine (HND.out _ _).mono ?_
      rintro e w5 hh
      rcases hh.cases with ⟨h5,rfl,hb⟩ | ⟨h5,rfl,hb⟩
      rotate_left
      · have hk1 : kid1 ks (rEs ks) d = false := by
         have:=HM.out
         match ks with
         | []=>rfl
         | [y]=>subst this;simp at h5
         | y::z::r=>rfl
        go_wp2_with fail
        exact ⟨rfl,by rw [HR.out,hk1];simp,(bw_below HB4.out hb).2⟩
      have HB5:=Lib.hid (bw_below HB4.out hb)
      clear hb HB4 c4
      have hm1 : m = 1 := by have h : (m : Int) = 1 := by simpa using h5
                             omega
      obtain ⟨y,rfl⟩:∃ y,ks=[y]:=by
       have:=HM.out
       match ks with
       | []=>subst this;cases hm1
       | [y]=>exact ⟨y,rfl⟩
       | y::z::r=>subst this;simp at hm1
      clear HM h5
      subst hm1
      obtain ⟨kY,oY,wY,nY,ksY,pY⟩:=y
      rcases E1.out with e | ⟨g,q,e,_,e1⟩
      · cases e
      subst e
      obtain ⟨⟨f0,f1,f2,f3,⟨aY,cY,f4,y4⟩,f5⟩,_⟩:=e1
      have lg:=lt_of_at f0
      simp only at lg
      have HLG:=Lib.hid lg
      have HFY:=Lib.hid (And.intro f0 (And.intro f1 (And.intro f2 (And.intro f3 (And.intro f4 f5)))))
      have hk1:kid1 [.mk kY oY wY nY ksY pY] (rEs [.mk kY oY wY nY ksY pY]) d=rE (.mk kY oY wY nY ksY pY) (d+1+b2i (kY==4)):=rfl
      rw [hk1,HO1.out,Bool.true_and] at HR
      have HWRY:Hid (∀ W,Below w.heap.size w W→Calls Tryz.prog 100 #[.agg #[.int .u8 kY,.int .u8 oY,.int .i64 wY,.string nY,.slice aY ksY.length cY,.int .i64 pY]] W fun e w'=>e=.returned (.bool (kY==4))∧Below W.heap.size W w'):=fun W hW=>p_wrapsOne (x:=.mk kY oY wY nY ksY pY) ⟨aY,cY,rfl,exsAt_below y4 hW⟩
      have HINY:Hid (∀ W,Below w.heap.size w W→Calls Tryz.prog 57 #[.agg #[.int .u8 kY,.int .u8 oY,.int .i64 wY,.string nY,.slice aY ksY.length cY,.int .i64 pY],.int .i64 (d+1+b2i (kY==4))] W (NdP W (rE (.mk kY oY wY nY ksY pY) (d+1+b2i (kY==4))))):=fun W hW =>
       HI.out _ (.head _) HKS.out.1 _ W _ ⟨aY,cY,rfl,exsAt_below y4 hW⟩ ⟨HT.out.1.below (Nat.le_refl _) hW,HT.out.2.below (Nat.le_refl _) hW⟩ (by have:=HD.out;unfold b2i;cases kY==4 <;> simp only [cond_true,cond_false] <;> omega) (by unfold b2i;cases kY==4 <;> simp only [cond_true,cond_false] <;> omega)
      have HWR:Hid (IntKind.i64.wrap (d+1)=d+1):=by have:=HD.out;rw [Hid];exact IntWalk.i64_in _ (by omega)
      have HWSY:Hid (IntKind.i64.wrap (d+1+b2i (kY==4))=d+1+b2i (kY==4)):=by have:=HD.out;rw [Hid];exact IntWalk.i64_in _ (by unfold b2i;cases kY==4 <;> simp only [cond_true,cond_false] <;> omega)
      generalize rE (.mk kY oY wY nY ksY pY) (d+1+b2i (kY==4))=rY at HINY HR
      generalize (kY==4)=wrY at HWRY HINY HWSY
      generalize ksY.length=mY at HWRY HINY HFY
      clear f0 f1 f2 f3 f4 f5 y4 lg hk1
      go_upto_region 11 with (fail)
      refine wp_region_held (S:=fun W=>Bw w 59 #[.int .u8 k,.int .u8 o,.int .i64 wd,.string n,.slice (some ⟨g,q,none⟩) 1 cap,.int .i64 ps] W) (by kernel_rfl) ?_
      change wpAnyH _ _ _ _ _ _ _ _ w5.drew
      have D0:Bw w 59 #[.int .u8 k,.int .u8 o,.int .i64 wd,.string n,.slice (some ⟨g,q,none⟩) 1 cap,.int .i64 ps] w5.drew:=⟨HB5.out.1.drewN 1,below_drewN HB5.out.2 1⟩
      obtain ⟨wd5,hW⟩:∃ W,W=w5.drew:=⟨_,rfl⟩
      rw [← hW] at D0 ⊢
      clear hW
      have HD0:=Lib.hid D0
      clear D0
      refine dr_take 0 (.pointer (some ⟨w.heap.size,4,none⟩)) rfl rfl (by kernel_rfl) (by kernel_rfl) (by kernel_rfl) (fun _ _ _ h=>h) (fun _ _=>by unfold execOp;go_simp) HD0.out ?_
      change wpAnyH _ _ _ _ _ _ _ { tmps:=List.toArray (_::_::_::_::_::_::_::_::_::_::_::_::_::_::_::_::_::_::_::_::_::_::_::_::_::_::_::_::_::_::_::_::_::_::_::_::_::_::_::_::_::_::_::_::_::_::_::_::_::_::_::_::_::_::_::_::_::_::_::_::_::_::_::_::_::_::_::_::_::_::_::_::_::_::_::_::_::_::_::_::_::_::_::_::_::_::_::_::_::_::_::_::_::_::_::_::_::_::_::_::_::_::_::_::_::_::_::_::_::_::_::[]),defers:=[] } _
      refine dr_take 1 (.slice (some ⟨g,q,none⟩) 1 cap) rfl rfl (by kernel_rfl) (by kernel_rfl) (by kernel_rfl) (fun _ _ _ h=>h) (fun W h=>by have c4:W.cell? ⟨w.heap.size,4,none⟩=some (.slice (some ⟨g,q,none⟩) 1 cap):=(by rw [cell_of_row _ _ 4 _ _ _ h.1];rfl);unfold execOp;go_simp) HD0.out ?_
      change wpAnyH _ _ _ _ _ _ _ { tmps:=List.toArray (_::_::_::_::_::_::_::_::_::_::_::_::_::_::_::_::_::_::_::_::_::_::_::_::_::_::_::_::_::_::_::_::_::_::_::_::_::_::_::_::_::_::_::_::_::_::_::_::_::_::_::_::_::_::_::_::_::_::_::_::_::_::_::_::_::_::_::_::_::_::_::_::_::_::_::_::_::_::_::_::_::_::_::_::_::_::_::_::_::_::_::_::_::_::_::_::_::_::_::_::_::_::_::_::_::_::_::_::_::_::_::[]),defers:=[] } _
      refine dr_take 2 (.pointer (some ⟨g,q,none⟩)) rfl rfl (by kernel_rfl) (by kernel_rfl) (by kernel_rfl) (fun _ _ _ h=>h) (fun _ _=>by unfold execOp;go_simp) HD0.out ?_
      change wpAnyH _ _ _ _ _ _ _ { tmps:=List.toArray (_::_::_::_::_::_::_::_::_::_::_::_::_::_::_::_::_::_::_::_::_::_::_::_::_::_::_::_::_::_::_::_::_::_::_::_::_::_::_::_::_::_::_::_::_::_::_::_::_::_::_::_::_::_::_::_::_::_::_::_::_::_::_::_::_::_::_::_::_::_::_::_::_::_::_::_::_::_::_::_::_::_::_::_::_::_::_::_::_::_::_::_::_::_::_::_::_::_::_::_::_::_::_::_::_::_::_::_::_::_::_::[]),defers:=[] } _
      refine dr_take 3 (.agg #[.int .u8 kY,.int .u8 oY,.int .i64 wY,.string nY,.slice aY mY cY,.int .i64 pY]) rfl rfl (by kernel_rfl) (by kernel_rfl) (by kernel_rfl) (fun _ _ _ h=>h) (fun W h=>by have f0:W.cell? ⟨g,q,none⟩=some (.int .u8 kY):=(h.2.cell (p:=⟨g,q,none⟩) HLG.out).trans HFY.out.1;have f1:W.cell? ⟨g,q+1,none⟩=some (.int .u8 oY):=(h.2.cell (p:=⟨g,q+1,none⟩) HLG.out).trans HFY.out.2.1;have f2:W.cell? ⟨g,q+2,none⟩=some (.int .i64 wY):=(h.2.cell (p:=⟨g,q+2,none⟩) HLG.out).trans HFY.out.2.2.1;have f3:W.cell? ⟨g,q+3,none⟩=some (.string nY):=(h.2.cell (p:=⟨g,q+3,none⟩) HLG.out).trans HFY.out.2.2.2.1;have f4:W.cell? ⟨g,q+4,none⟩=some (.slice aY mY cY):=(h.2.cell (p:=⟨g,q+4,none⟩) HLG.out).trans HFY.out.2.2.2.2.1;have f5:W.cell? ⟨g,q+5,none⟩=some (.int .i64 pY):=(h.2.cell (p:=⟨g,q+5,none⟩) HLG.out).trans HFY.out.2.2.2.2.2;unfold execOp;go_simp) HD0.out ?_
      change wpAnyH _ _ _ _ _ _ _ { tmps:=List.toArray (_::_::_::_::_::_::_::_::_::_::_::_::_::_::_::_::_::_::_::_::_::_::_::_::_::_::_::_::_::_::_::_::_::_::_::_::_::_::_::_::_::_::_::_::_::_::_::_::_::_::_::_::_::_::_::_::_::_::_::_::_::_::_::_::_::_::_::_::_::_::_::_::_::_::_::_::_::_::_::_::_::_::_::_::_::_::_::_::_::_::_::_::_::_::_::_::_::_::_::_::_::_::_::_::_::_::_::_::_::_::_::[]),defers:=[] } _
      refine dr_take 4 (.int .i64 d) rfl rfl (by kernel_rfl) (by kernel_rfl) (by kernel_rfl) (fun _ _ _ h=>h) (fun _ _=>rfl) HD0.out ?_
      change wpAnyH _ _ _ _ _ _ _ { tmps:=List.toArray (_::_::_::_::_::_::_::_::_::_::_::_::_::_::_::_::_::_::_::_::_::_::_::_::_::_::_::_::_::_::_::_::_::_::_::_::_::_::_::_::_::_::_::_::_::_::_::_::_::_::_::_::_::_::_::_::_::_::_::_::_::_::_::_::_::_::_::_::_::_::_::_::_::_::_::_::_::_::_::_::_::_::_::_::_::_::_::_::_::_::_::_::_::_::_::_::_::_::_::_::_::_::_::_::_::_::_::_::_::_::_::[]),defers:=[] } _
      refine dr_take 5 (.int .i64 (d+1)) rfl rfl (by kernel_rfl) (by kernel_rfl) (by kernel_rfl) (fun _ _ _ h=>h) (fun _ _=>by have hwr:=HWR.out;unfold execOp;go_simp) HD0.out ?_
      change wpAnyH _ _ _ _ _ _ _ { tmps:=List.toArray (_::_::_::_::_::_::_::_::_::_::_::_::_::_::_::_::_::_::_::_::_::_::_::_::_::_::_::_::_::_::_::_::_::_::_::_::_::_::_::_::_::_::_::_::_::_::_::_::_::_::_::_::_::_::_::_::_::_::_::_::_::_::_::_::_::_::_::_::_::_::_::_::_::_::_::_::_::_::_::_::_::_::_::_::_::_::_::_::_::_::_::_::_::_::_::_::_::_::_::_::_::_::_::_::_::_::_::_::_::_::_::[]),defers:=[] } _
      refine dr_take 6 (.pointer (some ⟨w.heap.size,4,none⟩)) rfl rfl (by kernel_rfl) (by kernel_rfl) (by kernel_rfl) (fun _ _ _ h=>h) (fun _ _=>by unfold execOp;go_simp) HD0.out ?_
      change wpAnyH _ _ _ _ _ _ _ { tmps:=List.toArray (_::_::_::_::_::_::_::_::_::_::_::_::_::_::_::_::_::_::_::_::_::_::_::_::_::_::_::_::_::_::_::_::_::_::_::_::_::_::_::_::_::_::_::_::_::_::_::_::_::_::_::_::_::_::_::_::_::_::_::_::_::_::_::_::_::_::_::_::_::_::_::_::_::_::_::_::_::_::_::_::_::_::_::_::_::_::_::_::_::_::_::_::_::_::_::_::_::_::_::_::_::_::_::_::_::_::_::_::_::_::_::[]),defers:=[] } _
      refine dr_take 7 (.slice (some ⟨g,q,none⟩) 1 cap) rfl rfl (by kernel_rfl) (by kernel_rfl) (by kernel_rfl) (fun _ _ _ h=>h) (fun W h=>by have c4:W.cell? ⟨w.heap.size,4,none⟩=some (.slice (some ⟨g,q,none⟩) 1 cap):=(by rw [cell_of_row _ _ 4 _ _ _ h.1];rfl);unfold execOp;go_simp) HD0.out ?_
      change wpAnyH _ _ _ _ _ _ _ { tmps:=List.toArray (_::_::_::_::_::_::_::_::_::_::_::_::_::_::_::_::_::_::_::_::_::_::_::_::_::_::_::_::_::_::_::_::_::_::_::_::_::_::_::_::_::_::_::_::_::_::_::_::_::_::_::_::_::_::_::_::_::_::_::_::_::_::_::_::_::_::_::_::_::_::_::_::_::_::_::_::_::_::_::_::_::_::_::_::_::_::_::_::_::_::_::_::_::_::_::_::_::_::_::_::_::_::_::_::_::_::_::_::_::_::_::[]),defers:=[] } _
      refine dr_take 8 (.pointer (some ⟨g,q,none⟩)) rfl rfl (by kernel_rfl) (by kernel_rfl) (by kernel_rfl) (fun _ _ _ h=>h) (fun _ _=>by unfold execOp;go_simp) HD0.out ?_
      change wpAnyH _ _ _ _ _ _ _ { tmps:=List.toArray (_::_::_::_::_::_::_::_::_::_::_::_::_::_::_::_::_::_::_::_::_::_::_::_::_::_::_::_::_::_::_::_::_::_::_::_::_::_::_::_::_::_::_::_::_::_::_::_::_::_::_::_::_::_::_::_::_::_::_::_::_::_::_::_::_::_::_::_::_::_::_::_::_::_::_::_::_::_::_::_::_::_::_::_::_::_::_::_::_::_::_::_::_::_::_::_::_::_::_::_::_::_::_::_::_::_::_::_::_::_::_::[]),defers:=[] } _
      refine dr_take 9 (.agg #[.int .u8 kY,.int .u8 oY,.int .i64 wY,.string nY,.slice aY mY cY,.int .i64 pY]) rfl rfl (by kernel_rfl) (by kernel_rfl) (by kernel_rfl) (fun _ _ _ h=>h) (fun W h=>by have f0:W.cell? ⟨g,q,none⟩=some (.int .u8 kY):=(h.2.cell (p:=⟨g,q,none⟩) HLG.out).trans HFY.out.1;have f1:W.cell? ⟨g,q+1,none⟩=some (.int .u8 oY):=(h.2.cell (p:=⟨g,q+1,none⟩) HLG.out).trans HFY.out.2.1;have f2:W.cell? ⟨g,q+2,none⟩=some (.int .i64 wY):=(h.2.cell (p:=⟨g,q+2,none⟩) HLG.out).trans HFY.out.2.2.1;have f3:W.cell? ⟨g,q+3,none⟩=some (.string nY):=(h.2.cell (p:=⟨g,q+3,none⟩) HLG.out).trans HFY.out.2.2.2.1;have f4:W.cell? ⟨g,q+4,none⟩=some (.slice aY mY cY):=(h.2.cell (p:=⟨g,q+4,none⟩) HLG.out).trans HFY.out.2.2.2.2.1;have f5:W.cell? ⟨g,q+5,none⟩=some (.int .i64 pY):=(h.2.cell (p:=⟨g,q+5,none⟩) HLG.out).trans HFY.out.2.2.2.2.2;unfold execOp;go_simp) HD0.out ?_
      change wpAnyH _ _ _ _ _ _ _ { tmps:=List.toArray (_::_::_::_::_::_::_::_::_::_::_::_::_::_::_::_::_::_::_::_::_::_::_::_::_::_::_::_::_::_::_::_::_::_::_::_::_::_::_::_::_::_::_::_::_::_::_::_::_::_::_::_::_::_::_::_::_::_::_::_::_::_::_::_::_::_::_::_::_::_::_::_::_::_::_::_::_::_::_::_::_::_::_::_::_::_::_::_::_::_::_::_::_::_::_::_::_::_::_::_::_::_::_::_::_::_::_::_::_::_::_::[]),defers:=[] } _
      refine dr_one 10 rfl rfl (by kernel_rfl) ?_
      refine wp_call (vs:=#[.agg #[.int .u8 kY,.int .u8 oY,.int .i64 wY,.string nY,.slice aY mY cY,.int .i64 pY]]) rfl rfl (enters_of Tryz.func100 (by kernel_rfl) rfl) (by simp [Act.eval]) (HWRY.out _ HD0.out.2) ?_
      rintro e w6 ⟨rfl,hb6⟩
      have HD6:=Lib.hid (bw_below HD0.out hb6)
      clear hb6 HD0
      refine ⟨HD6.out,?_⟩
      change wpAnyH _ _ _ _ _ _ _ { tmps:=List.toArray (_::_::_::_::_::_::_::_::_::_::_::_::_::_::_::_::_::_::_::_::_::_::_::_::_::_::_::_::_::_::_::_::_::_::_::_::_::_::_::_::_::_::_::_::_::_::_::_::_::_::_::_::_::_::_::_::_::_::_::_::_::_::_::_::_::_::_::_::_::_::_::_::_::_::_::_::_::_::_::_::_::_::_::_::_::_::_::_::_::_::_::_::_::_::_::_::_::_::_::_::_::_::_::_::_::_::_::_::_::_::_::[]),defers:=[] } _
      refine dr_one 11 rfl rfl (by kernel_rfl) ?_
      refine wp_call (vs:=#[.bool wrY]) rfl rfl (enters_of Tryz.func99 (by kernel_rfl) rfl) (by simp [Act.eval]) (p_round wrY _) ?_
      rintro e w7 ⟨rfl,rfl⟩
      refine ⟨HD6.out,?_⟩
      change wpAnyH _ _ _ _ _ _ _ { tmps:=List.toArray (_::_::_::_::_::_::_::_::_::_::_::_::_::_::_::_::_::_::_::_::_::_::_::_::_::_::_::_::_::_::_::_::_::_::_::_::_::_::_::_::_::_::_::_::_::_::_::_::_::_::_::_::_::_::_::_::_::_::_::_::_::_::_::_::_::_::_::_::_::_::_::_::_::_::_::_::_::_::_::_::_::_::_::_::_::_::_::_::_::_::_::_::_::_::_::_::_::_::_::_::_::_::_::_::_::_::_::_::_::_::_::[]),defers:=[] } _
      refine dr_take 12 (.int .i64 (d+1+b2i wrY)) rfl rfl (by kernel_rfl) (by kernel_rfl) (by kernel_rfl) (fun _ _ _ h=>h) (fun _ _=>by have hwr:=HWSY.out;unfold b2i at hwr ⊢;unfold execOp;go_simp) HD6.out ?_
      change wpAnyH _ _ _ _ _ _ _ { tmps:=List.toArray (_::_::_::_::_::_::_::_::_::_::_::_::_::_::_::_::_::_::_::_::_::_::_::_::_::_::_::_::_::_::_::_::_::_::_::_::_::_::_::_::_::_::_::_::_::_::_::_::_::_::_::_::_::_::_::_::_::_::_::_::_::_::_::_::_::_::_::_::_::_::_::_::_::_::_::_::_::_::_::_::_::_::_::_::_::_::_::_::_::_::_::_::_::_::_::_::_::_::_::_::_::_::_::_::_::_::_::_::_::_::_::[]),defers:=[] } _
      refine dr_one 13 rfl rfl (by kernel_rfl) ?_
      refine wp_call (vs:=#[.agg #[.int .u8 kY,.int .u8 oY,.int .i64 wY,.string nY,.slice aY mY cY,.int .i64 pY],.int .i64 (d+1+b2i wrY)]) rfl rfl (enters_of Tryz.func57 (by kernel_rfl) rfl) (by simp [Act.eval]) (HINY.out _ HD6.out.2) ?_
      rintro e w8 hh
      rcases hh.cases with ⟨h8,rfl,hb8⟩ | ⟨h8,rfl,hb8⟩
      rotate_left
      · exact ⟨rfl,by rw [HR.out,h8];rfl,(bw_below HD6.out hb8).2⟩
      have HD8:=Lib.hid (bw_below HD6.out hb8)
      clear hb8 HD6
      refine ⟨HD8.out,?_⟩
      refine wpAnyH_done (by kernel_rfl) ?_ _
      go_wp2_with fail
      exact bodyPost_end (results_none rfl _ _ _) rfl ⟨by rw [HR.out,h8];rfl,HD8.out.2⟩
  have k3:(k==3)=false:=by simp [hk3]
  by_cases hk4:k=4
  · have hr : R = (twoB o && kid2 o ks (rEs ks) d) := by rw [HR.out, HW.out, HN.out]; unfold kB; rw [if_neg hk12, if_neg hk3, if_pos hk4]; simp
    replace HR:=Lib.hid hr
    have k4:(k==4)=true:=by simp [hk4]
    clear hr hk12 hk3 hk4
    have HTW:Hid (∀ W,Below w.heap.size w W→Calls Tryz.prog 101 #[.int .u8 o] W fun e w'=>e=.returned (.bool (twoB o))∧W=w'):=fun W hW=>p_two o HO.out.1 HO.out.2 W (HT.out.2.below (Nat.le_refl _) hW)
    cases ho1:twoB o with
    | false =>
      rw [ho1] at HTW
      have HO1:=Lib.hid ho1
      clear ho1
      go_wp2_with (first | (go_at_call 101;refine (HTW.out _ HB3.out.2).mono ?_;rintro e w4 ⟨rfl,rfl⟩))
      go_at_call 39
      refine (HND.out _ _).mono ?_
      rintro e w5 hh
      obtain ⟨rfl,hb⟩:=hh.bad rfl
      go_wp2_with fail
      exact ⟨rfl,by rw [HR.out,HO1.out];rfl,(bw_below HB3.out hb).2⟩
    | true =>
      rw [ho1] at HTW
      have HO1:=Lib.hid ho1
      clear ho1
      go_wp2_with (first | (go_at_call 101;refine (HTW.out _ HB3.out.2).mono ?_;rintro e w4 ⟨rfl,rfl⟩))
      go_at_call 39
      refine (HND.out _ _).mono ?_
      rintro e w5 hh
      rcases hh.cases with ⟨h5,rfl,hb⟩ | ⟨h5,rfl,hb⟩
      rotate_left
      · have hk1 : kid2 o ks (rEs ks) d = false := by
         have:=HM.out
         match ks with
         | []=>rfl
         | [y]=>rfl
         | [y,z]=>subst this;simp at h5
         | y::z::t::r=>rfl
        go_wp2_with fail
        exact ⟨rfl,by rw [HR.out,hk1];simp,(bw_below HB3.out hb).2⟩
      have HB5:=Lib.hid (bw_below HB3.out hb)
      clear hb HB3 c0 c1 c4
      have hm1 : m = 2 := by have h : (m : Int) = 2 := by simpa using h5
                             omega
      obtain ⟨y,z,rfl⟩:∃ y z,ks=[y,z]:=by
       have:=HM.out
       match ks with
       | []=>subst this;cases hm1
       | [y]=>subst this;cases hm1
       | [y,z]=>exact ⟨y,z,rfl⟩
       | y::z::t::r=>subst this;simp at hm1
      clear HM h5
      subst hm1
      obtain ⟨kY,oY,wY,nY,ksY,pY⟩:=y
      obtain ⟨kZ,oZ,wZ,nZ,ksZ,pZ⟩:=z
      rcases E1.out with e | ⟨g,q,e,_,e1⟩
      · cases e
      subst e
      obtain ⟨⟨f0,f1,f2,f3,⟨aY,cY,f4,y4⟩,f5⟩,⟨g0,g1,g2,g3,⟨aZ,cZ,g4,z4⟩,g5⟩,_⟩:=e1
      have lg:=lt_of_at f0
      simp only at lg
      have HLG:=Lib.hid lg
      have HFY:=Lib.hid (And.intro f0 (And.intro f1 (And.intro f2 (And.intro f3 (And.intro f4 f5)))))
      have HFZ:=Lib.hid (And.intro g0 (And.intro g1 (And.intro g2 (And.intro g3 (And.intro g4 g5)))))
      have hk1:kid2 o [.mk kY oY wY nY ksY pY,.mk kZ oZ wZ nZ ksZ pZ] (rEs [.mk kY oY wY nY ksY pY,.mk kZ oZ wZ nZ ksZ pZ]) d=(rE (.mk kY oY wY nY ksY pY) (d+b2i (wrL o (.mk kY oY wY nY ksY pY)))&&rE (.mk kZ oZ wZ nZ ksZ pZ) (d+b2i (wrR o (.mk kZ oZ wZ nZ ksZ pZ)))):=rfl
      rw [hk1,HO1.out,Bool.true_and] at HR
      have HWRY:Hid (∀ W,Below w.heap.size w W→Calls Tryz.prog 102 #[.int .u8 o,.agg #[.int .u8 kY,.int .u8 oY,.int .i64 wY,.string nY,.slice aY ksY.length cY,.int .i64 pY]] W fun e w'=>e=.returned (.bool (wrL o (.mk kY oY wY nY ksY pY)))∧Below W.heap.size W w'):=fun W hW=>p_wrapsL (x:=.mk kY oY wY nY ksY pY) o HO.out HKS.out.1.2.1 ⟨aY,cY,rfl,exsAt_below y4 hW⟩ (HT.out.2.below (Nat.le_refl _) hW)
      have HWRZ:Hid (∀ W,Below w.heap.size w W→Calls Tryz.prog 103 #[.int .u8 o,.agg #[.int .u8 kZ,.int .u8 oZ,.int .i64 wZ,.string nZ,.slice aZ ksZ.length cZ,.int .i64 pZ]] W fun e w'=>e=.returned (.bool (wrR o (.mk kZ oZ wZ nZ ksZ pZ)))∧Below W.heap.size W w'):=fun W hW=>p_wrapsR (x:=.mk kZ oZ wZ nZ ksZ pZ) o HO.out HKS.out.2.1.2.1 ⟨aZ,cZ,rfl,exsAt_below z4 hW⟩ (HT.out.2.below (Nat.le_refl _) hW)
      have HINY:Hid (∀ W,Below w.heap.size w W→Calls Tryz.prog 57 #[.agg #[.int .u8 kY,.int .u8 oY,.int .i64 wY,.string nY,.slice aY ksY.length cY,.int .i64 pY],.int .i64 (d+b2i (wrL o (.mk kY oY wY nY ksY pY)))] W (NdP W (rE (.mk kY oY wY nY ksY pY) (d+b2i (wrL o (.mk kY oY wY nY ksY pY)))))):=fun W hW =>
       HI.out _ (.head _) HKS.out.1 _ W _ ⟨aY,cY,rfl,exsAt_below y4 hW⟩ ⟨HT.out.1.below (Nat.le_refl _) hW,HT.out.2.below (Nat.le_refl _) hW⟩ (by have:=HD.out;have:=b2i_01 (wrL o (.mk kY oY wY nY ksY pY));omega) (by have:=b2i_01 (wrL o (.mk kY oY wY nY ksY pY));omega)
      have HINZ:Hid (∀ W,Below w.heap.size w W→Calls Tryz.prog 57 #[.agg #[.int .u8 kZ,.int .u8 oZ,.int .i64 wZ,.string nZ,.slice aZ ksZ.length cZ,.int .i64 pZ],.int .i64 (d+b2i (wrR o (.mk kZ oZ wZ nZ ksZ pZ)))] W (NdP W (rE (.mk kZ oZ wZ nZ ksZ pZ) (d+b2i (wrR o (.mk kZ oZ wZ nZ ksZ pZ)))))):=fun W hW =>
       HI.out _ (.tail _ (.head _)) HKS.out.2.1 _ W _ ⟨aZ,cZ,rfl,exsAt_below z4 hW⟩ ⟨HT.out.1.below (Nat.le_refl _) hW,HT.out.2.below (Nat.le_refl _) hW⟩ (by have:=HD.out;have:=b2i_01 (wrR o (.mk kZ oZ wZ nZ ksZ pZ));omega) (by have:=b2i_01 (wrR o (.mk kZ oZ wZ nZ ksZ pZ));omega)
      generalize rE (.mk kY oY wY nY ksY pY) (d+b2i (wrL o (.mk kY oY wY nY ksY pY)))=rY at HINY HR
      generalize rE (.mk kZ oZ wZ nZ ksZ pZ) (d+b2i (wrR o (.mk kZ oZ wZ nZ ksZ pZ)))=rZ at HINZ HR
      generalize wrL o (.mk kY oY wY nY ksY pY)=wrY at HWRY HINY
      generalize wrR o (.mk kZ oZ wZ nZ ksZ pZ)=wrZ at HWRZ HINZ
      have HWSY:Hid (IntKind.i64.wrap (d+b2i wrY)=d+b2i wrY):=by have:=HD.out;have:=b2i_01 wrY;rw [Hid];exact IntWalk.i64_in _ (by omega)
      have HWSZ:Hid (IntKind.i64.wrap (d+b2i wrZ)=d+b2i wrZ):=by have:=HD.out;have:=b2i_01 wrZ;rw [Hid];exact IntWalk.i64_in _ (by omega)
      generalize ksY.length=mY at HWRY HINY HFY
      generalize ksZ.length=mZ at HWRZ HINZ HFZ
      clear f0 f1 f2 f3 f4 f5 y4 g0 g1 g2 g3 g4 g5 z4 lg hk1
      go_upto_region 14 with (fail)
      refine wp_region_held (S:=fun W=>Bw w 59 #[.int .u8 k,.int .u8 o,.int .i64 wd,.string n,.slice (some ⟨g,q,none⟩) 2 cap,.int .i64 ps] W) (by kernel_rfl) ?_
      change wpAnyH _ _ _ _ _ _ _ _ w5.drew
      have D0:Bw w 59 #[.int .u8 k,.int .u8 o,.int .i64 wd,.string n,.slice (some ⟨g,q,none⟩) 2 cap,.int .i64 ps] w5.drew:=⟨HB5.out.1.drewN 1,below_drewN HB5.out.2 1⟩
      obtain ⟨wd5,hW⟩:∃ W,W=w5.drew:=⟨_,rfl⟩
      rw [← hW] at D0 ⊢
      clear hW
      have HD0:=Lib.hid D0
      clear D0
      refine dr_take 0 (.pointer (some ⟨w.heap.size,4,none⟩)) rfl rfl (by kernel_rfl) (by kernel_rfl) (by kernel_rfl) (fun _ _ _ h=>h) (fun _ _=>by unfold execOp;go_simp) HD0.out ?_
      change wpAnyH _ _ _ _ _ _ _ { tmps:=List.toArray (_::_::_::_::_::_::_::_::_::_::_::_::_::_::_::_::_::_::_::_::_::_::_::_::_::_::_::_::_::_::_::_::_::_::_::_::_::_::_::_::_::_::_::_::_::_::_::_::_::_::_::_::_::_::_::_::_::_::_::_::_::_::_::_::_::_::_::_::_::_::_::_::_::_::_::_::_::_::_::_::_::_::_::_::_::_::_::_::_::_::_::_::_::_::_::_::_::_::_::_::_::_::_::_::_::_::_::_::_::_::_::[]),defers:=[] } _
      refine dr_take 1 (.slice (some ⟨g,q,none⟩) 2 cap) rfl rfl (by kernel_rfl) (by kernel_rfl) (by kernel_rfl) (fun _ _ _ h=>h) (fun W h=>by have c4:W.cell? ⟨w.heap.size,4,none⟩=some (.slice (some ⟨g,q,none⟩) 2 cap):=(by rw [cell_of_row _ _ 4 _ _ _ h.1];rfl);unfold execOp;go_simp) HD0.out ?_
      change wpAnyH _ _ _ _ _ _ _ { tmps:=List.toArray (_::_::_::_::_::_::_::_::_::_::_::_::_::_::_::_::_::_::_::_::_::_::_::_::_::_::_::_::_::_::_::_::_::_::_::_::_::_::_::_::_::_::_::_::_::_::_::_::_::_::_::_::_::_::_::_::_::_::_::_::_::_::_::_::_::_::_::_::_::_::_::_::_::_::_::_::_::_::_::_::_::_::_::_::_::_::_::_::_::_::_::_::_::_::_::_::_::_::_::_::_::_::_::_::_::_::_::_::_::_::_::[]),defers:=[] } _
      refine dr_take 2 (.pointer (some ⟨g,q,none⟩)) rfl rfl (by kernel_rfl) (by kernel_rfl) (by kernel_rfl) (fun _ _ _ h=>h) (fun _ _=>by unfold execOp;go_simp) HD0.out ?_
      change wpAnyH _ _ _ _ _ _ _ { tmps:=List.toArray (_::_::_::_::_::_::_::_::_::_::_::_::_::_::_::_::_::_::_::_::_::_::_::_::_::_::_::_::_::_::_::_::_::_::_::_::_::_::_::_::_::_::_::_::_::_::_::_::_::_::_::_::_::_::_::_::_::_::_::_::_::_::_::_::_::_::_::_::_::_::_::_::_::_::_::_::_::_::_::_::_::_::_::_::_::_::_::_::_::_::_::_::_::_::_::_::_::_::_::_::_::_::_::_::_::_::_::_::_::_::_::[]),defers:=[] } _
      refine dr_take 3 (.agg #[.int .u8 kY,.int .u8 oY,.int .i64 wY,.string nY,.slice aY mY cY,.int .i64 pY]) rfl rfl (by kernel_rfl) (by kernel_rfl) (by kernel_rfl) (fun _ _ _ h=>h) (fun W h=>by have f0:W.cell? ⟨g,q,none⟩=some (.int .u8 kY):=(h.2.cell (p:=⟨g,q,none⟩) HLG.out).trans HFY.out.1;have f1:W.cell? ⟨g,q+1,none⟩=some (.int .u8 oY):=(h.2.cell (p:=⟨g,q+1,none⟩) HLG.out).trans HFY.out.2.1;have f2:W.cell? ⟨g,q+2,none⟩=some (.int .i64 wY):=(h.2.cell (p:=⟨g,q+2,none⟩) HLG.out).trans HFY.out.2.2.1;have f3:W.cell? ⟨g,q+3,none⟩=some (.string nY):=(h.2.cell (p:=⟨g,q+3,none⟩) HLG.out).trans HFY.out.2.2.2.1;have f4:W.cell? ⟨g,q+4,none⟩=some (.slice aY mY cY):=(h.2.cell (p:=⟨g,q+4,none⟩) HLG.out).trans HFY.out.2.2.2.2.1;have f5:W.cell? ⟨g,q+5,none⟩=some (.int .i64 pY):=(h.2.cell (p:=⟨g,q+5,none⟩) HLG.out).trans HFY.out.2.2.2.2.2;unfold execOp;go_simp) HD0.out ?_
      change wpAnyH _ _ _ _ _ _ _ { tmps:=List.toArray (_::_::_::_::_::_::_::_::_::_::_::_::_::_::_::_::_::_::_::_::_::_::_::_::_::_::_::_::_::_::_::_::_::_::_::_::_::_::_::_::_::_::_::_::_::_::_::_::_::_::_::_::_::_::_::_::_::_::_::_::_::_::_::_::_::_::_::_::_::_::_::_::_::_::_::_::_::_::_::_::_::_::_::_::_::_::_::_::_::_::_::_::_::_::_::_::_::_::_::_::_::_::_::_::_::_::_::_::_::_::_::[]),defers:=[] } _
      refine dr_take 4 (.int .i64 d) rfl rfl (by kernel_rfl) (by kernel_rfl) (by kernel_rfl) (fun _ _ _ h=>h) (fun _ _=>rfl) HD0.out ?_
      change wpAnyH _ _ _ _ _ _ _ { tmps:=List.toArray (_::_::_::_::_::_::_::_::_::_::_::_::_::_::_::_::_::_::_::_::_::_::_::_::_::_::_::_::_::_::_::_::_::_::_::_::_::_::_::_::_::_::_::_::_::_::_::_::_::_::_::_::_::_::_::_::_::_::_::_::_::_::_::_::_::_::_::_::_::_::_::_::_::_::_::_::_::_::_::_::_::_::_::_::_::_::_::_::_::_::_::_::_::_::_::_::_::_::_::_::_::_::_::_::_::_::_::_::_::_::_::[]),defers:=[] } _
      refine dr_take 5 (.pointer (some ⟨w.heap.size,1,none⟩)) rfl rfl (by kernel_rfl) (by kernel_rfl) (by kernel_rfl) (fun _ _ _ h=>h) (fun _ _=>by unfold execOp;go_simp) HD0.out ?_
      change wpAnyH _ _ _ _ _ _ _ { tmps:=List.toArray (_::_::_::_::_::_::_::_::_::_::_::_::_::_::_::_::_::_::_::_::_::_::_::_::_::_::_::_::_::_::_::_::_::_::_::_::_::_::_::_::_::_::_::_::_::_::_::_::_::_::_::_::_::_::_::_::_::_::_::_::_::_::_::_::_::_::_::_::_::_::_::_::_::_::_::_::_::_::_::_::_::_::_::_::_::_::_::_::_::_::_::_::_::_::_::_::_::_::_::_::_::_::_::_::_::_::_::_::_::_::_::[]),defers:=[] } _
      refine dr_take 6 (.int .u8 o) rfl rfl (by kernel_rfl) (by kernel_rfl) (by kernel_rfl) (fun _ _ _ h=>h) (fun W h=>by have c1:W.cell? ⟨w.heap.size,1,none⟩=some (.int .u8 o):=(by rw [cell_of_row _ _ 1 _ _ _ h.1];rfl);unfold execOp;go_simp) HD0.out ?_
      change wpAnyH _ _ _ _ _ _ _ { tmps:=List.toArray (_::_::_::_::_::_::_::_::_::_::_::_::_::_::_::_::_::_::_::_::_::_::_::_::_::_::_::_::_::_::_::_::_::_::_::_::_::_::_::_::_::_::_::_::_::_::_::_::_::_::_::_::_::_::_::_::_::_::_::_::_::_::_::_::_::_::_::_::_::_::_::_::_::_::_::_::_::_::_::_::_::_::_::_::_::_::_::_::_::_::_::_::_::_::_::_::_::_::_::_::_::_::_::_::_::_::_::_::_::_::_::[]),defers:=[] } _
      refine dr_take 7 (.pointer (some ⟨w.heap.size,4,none⟩)) rfl rfl (by kernel_rfl) (by kernel_rfl) (by kernel_rfl) (fun _ _ _ h=>h) (fun _ _=>by unfold execOp;go_simp) HD0.out ?_
      change wpAnyH _ _ _ _ _ _ _ { tmps:=List.toArray (_::_::_::_::_::_::_::_::_::_::_::_::_::_::_::_::_::_::_::_::_::_::_::_::_::_::_::_::_::_::_::_::_::_::_::_::_::_::_::_::_::_::_::_::_::_::_::_::_::_::_::_::_::_::_::_::_::_::_::_::_::_::_::_::_::_::_::_::_::_::_::_::_::_::_::_::_::_::_::_::_::_::_::_::_::_::_::_::_::_::_::_::_::_::_::_::_::_::_::_::_::_::_::_::_::_::_::_::_::_::_::[]),defers:=[] } _
      refine dr_take 8 (.slice (some ⟨g,q,none⟩) 2 cap) rfl rfl (by kernel_rfl) (by kernel_rfl) (by kernel_rfl) (fun _ _ _ h=>h) (fun W h=>by have c4:W.cell? ⟨w.heap.size,4,none⟩=some (.slice (some ⟨g,q,none⟩) 2 cap):=(by rw [cell_of_row _ _ 4 _ _ _ h.1];rfl);unfold execOp;go_simp) HD0.out ?_
      change wpAnyH _ _ _ _ _ _ _ { tmps:=List.toArray (_::_::_::_::_::_::_::_::_::_::_::_::_::_::_::_::_::_::_::_::_::_::_::_::_::_::_::_::_::_::_::_::_::_::_::_::_::_::_::_::_::_::_::_::_::_::_::_::_::_::_::_::_::_::_::_::_::_::_::_::_::_::_::_::_::_::_::_::_::_::_::_::_::_::_::_::_::_::_::_::_::_::_::_::_::_::_::_::_::_::_::_::_::_::_::_::_::_::_::_::_::_::_::_::_::_::_::_::_::_::_::[]),defers:=[] } _
      refine dr_take 9 (.pointer (some ⟨g,q,none⟩)) rfl rfl (by kernel_rfl) (by kernel_rfl) (by kernel_rfl) (fun _ _ _ h=>h) (fun _ _=>by unfold execOp;go_simp) HD0.out ?_
      change wpAnyH _ _ _ _ _ _ _ { tmps:=List.toArray (_::_::_::_::_::_::_::_::_::_::_::_::_::_::_::_::_::_::_::_::_::_::_::_::_::_::_::_::_::_::_::_::_::_::_::_::_::_::_::_::_::_::_::_::_::_::_::_::_::_::_::_::_::_::_::_::_::_::_::_::_::_::_::_::_::_::_::_::_::_::_::_::_::_::_::_::_::_::_::_::_::_::_::_::_::_::_::_::_::_::_::_::_::_::_::_::_::_::_::_::_::_::_::_::_::_::_::_::_::_::_::[]),defers:=[] } _
      refine dr_take 10 (.agg #[.int .u8 kY,.int .u8 oY,.int .i64 wY,.string nY,.slice aY mY cY,.int .i64 pY]) rfl rfl (by kernel_rfl) (by kernel_rfl) (by kernel_rfl) (fun _ _ _ h=>h) (fun W h=>by have f0:W.cell? ⟨g,q,none⟩=some (.int .u8 kY):=(h.2.cell (p:=⟨g,q,none⟩) HLG.out).trans HFY.out.1;have f1:W.cell? ⟨g,q+1,none⟩=some (.int .u8 oY):=(h.2.cell (p:=⟨g,q+1,none⟩) HLG.out).trans HFY.out.2.1;have f2:W.cell? ⟨g,q+2,none⟩=some (.int .i64 wY):=(h.2.cell (p:=⟨g,q+2,none⟩) HLG.out).trans HFY.out.2.2.1;have f3:W.cell? ⟨g,q+3,none⟩=some (.string nY):=(h.2.cell (p:=⟨g,q+3,none⟩) HLG.out).trans HFY.out.2.2.2.1;have f4:W.cell? ⟨g,q+4,none⟩=some (.slice aY mY cY):=(h.2.cell (p:=⟨g,q+4,none⟩) HLG.out).trans HFY.out.2.2.2.2.1;have f5:W.cell? ⟨g,q+5,none⟩=some (.int .i64 pY):=(h.2.cell (p:=⟨g,q+5,none⟩) HLG.out).trans HFY.out.2.2.2.2.2;unfold execOp;go_simp) HD0.out ?_
      change wpAnyH _ _ _ _ _ _ _ { tmps:=List.toArray (_::_::_::_::_::_::_::_::_::_::_::_::_::_::_::_::_::_::_::_::_::_::_::_::_::_::_::_::_::_::_::_::_::_::_::_::_::_::_::_::_::_::_::_::_::_::_::_::_::_::_::_::_::_::_::_::_::_::_::_::_::_::_::_::_::_::_::_::_::_::_::_::_::_::_::_::_::_::_::_::_::_::_::_::_::_::_::_::_::_::_::_::_::_::_::_::_::_::_::_::_::_::_::_::_::_::_::_::_::_::_::[]),defers:=[] } _
      refine dr_one 11 rfl rfl (by kernel_rfl) ?_
      refine wp_call (vs:=#[.int .u8 o,.agg #[.int .u8 kY,.int .u8 oY,.int .i64 wY,.string nY,.slice aY mY cY,.int .i64 pY]]) rfl rfl (enters_of Tryz.func102 (by kernel_rfl) rfl) (by simp [Act.eval]) (HWRY.out _ HD0.out.2) ?_
      rintro e w6 ⟨rfl,hb6⟩
      have HD6:=Lib.hid (bw_below HD0.out hb6)
      clear hb6 HD0
      refine ⟨HD6.out,?_⟩
      change wpAnyH _ _ _ _ _ _ _ { tmps:=List.toArray (_::_::_::_::_::_::_::_::_::_::_::_::_::_::_::_::_::_::_::_::_::_::_::_::_::_::_::_::_::_::_::_::_::_::_::_::_::_::_::_::_::_::_::_::_::_::_::_::_::_::_::_::_::_::_::_::_::_::_::_::_::_::_::_::_::_::_::_::_::_::_::_::_::_::_::_::_::_::_::_::_::_::_::_::_::_::_::_::_::_::_::_::_::_::_::_::_::_::_::_::_::_::_::_::_::_::_::_::_::_::_::[]),defers:=[] } _
      refine dr_one 12 rfl rfl (by kernel_rfl) ?_
      refine wp_call (vs:=#[.bool wrY]) rfl rfl (enters_of Tryz.func99 (by kernel_rfl) rfl) (by simp [Act.eval]) (p_round wrY _) ?_
      rintro e w7 ⟨rfl,rfl⟩
      refine ⟨HD6.out,?_⟩
      change wpAnyH _ _ _ _ _ _ _ { tmps:=List.toArray (_::_::_::_::_::_::_::_::_::_::_::_::_::_::_::_::_::_::_::_::_::_::_::_::_::_::_::_::_::_::_::_::_::_::_::_::_::_::_::_::_::_::_::_::_::_::_::_::_::_::_::_::_::_::_::_::_::_::_::_::_::_::_::_::_::_::_::_::_::_::_::_::_::_::_::_::_::_::_::_::_::_::_::_::_::_::_::_::_::_::_::_::_::_::_::_::_::_::_::_::_::_::_::_::_::_::_::_::_::_::_::[]),defers:=[] } _
      refine dr_take 13 (.int .i64 (d+b2i wrY)) rfl rfl (by kernel_rfl) (by kernel_rfl) (by kernel_rfl) (fun _ _ _ h=>h) (fun _ _=>by have hwr:=HWSY.out;unfold b2i at hwr ⊢;unfold execOp;go_simp) HD6.out ?_
      change wpAnyH _ _ _ _ _ _ _ { tmps:=List.toArray (_::_::_::_::_::_::_::_::_::_::_::_::_::_::_::_::_::_::_::_::_::_::_::_::_::_::_::_::_::_::_::_::_::_::_::_::_::_::_::_::_::_::_::_::_::_::_::_::_::_::_::_::_::_::_::_::_::_::_::_::_::_::_::_::_::_::_::_::_::_::_::_::_::_::_::_::_::_::_::_::_::_::_::_::_::_::_::_::_::_::_::_::_::_::_::_::_::_::_::_::_::_::_::_::_::_::_::_::_::_::_::[]),defers:=[] } _
      refine dr_one 14 rfl rfl (by kernel_rfl) ?_
      refine wp_call (vs:=#[.agg #[.int .u8 kY,.int .u8 oY,.int .i64 wY,.string nY,.slice aY mY cY,.int .i64 pY],.int .i64 (d+b2i wrY)]) rfl rfl (enters_of Tryz.func57 (by kernel_rfl) rfl) (by simp [Act.eval]) (HINY.out _ HD6.out.2) ?_
      rintro e w8 hh
      rcases hh.cases with ⟨h8,rfl,hb8⟩ | ⟨h8,rfl,hb8⟩
      rotate_left
      · exact ⟨rfl,by rw [HR.out,h8];rfl,(bw_below HD6.out hb8).2⟩
      have HD8:=Lib.hid (bw_below HD6.out hb8)
      clear hb8 HD6
      refine ⟨HD8.out,?_⟩
      refine wpAnyH_done (by kernel_rfl) ?_ _
      have HY:=Lib.hid h8
      clear h8
      go_upto_region 15 with (fail)
      refine wp_region_held (S:=fun W=>Bw w 59 #[.int .u8 k,.int .u8 o,.int .i64 wd,.string n,.slice (some ⟨g,q,none⟩) 2 cap,.int .i64 ps] W) (by kernel_rfl) ?_
      change wpAnyH _ _ _ _ _ _ _ _ w8.drew
      have D0:Bw w 59 #[.int .u8 k,.int .u8 o,.int .i64 wd,.string n,.slice (some ⟨g,q,none⟩) 2 cap,.int .i64 ps] w8.drew:=⟨HD8.out.1.drewN 1,below_drewN HD8.out.2 1⟩
      obtain ⟨wd8,hW⟩:∃ W,W=w8.drew:=⟨_,rfl⟩
      rw [← hW] at D0 ⊢
      clear hW
      have HD0:=Lib.hid D0
      clear D0
      refine dr_take 0 (.pointer (some ⟨w.heap.size,4,none⟩)) rfl rfl (by kernel_rfl) (by kernel_rfl) (by kernel_rfl) (fun _ _ _ h=>h) (fun _ _=>by unfold execOp;go_simp) HD0.out ?_
      change wpAnyH _ _ _ _ _ _ _ { tmps:=List.toArray (_::_::_::_::_::_::_::_::_::_::_::_::_::_::_::_::_::_::_::_::_::_::_::_::_::_::_::_::_::_::_::_::_::_::_::_::_::_::_::_::_::_::_::_::_::_::_::_::_::_::_::_::_::_::_::_::_::_::_::_::_::_::_::_::_::_::_::_::_::_::_::_::_::_::_::_::_::_::_::_::_::_::_::_::_::_::_::_::_::_::_::_::_::_::_::_::_::_::_::_::_::_::_::_::_::_::_::_::_::_::_::[]),defers:=[] } _
      refine dr_take 1 (.slice (some ⟨g,q,none⟩) 2 cap) rfl rfl (by kernel_rfl) (by kernel_rfl) (by kernel_rfl) (fun _ _ _ h=>h) (fun W h=>by have c4:W.cell? ⟨w.heap.size,4,none⟩=some (.slice (some ⟨g,q,none⟩) 2 cap):=(by rw [cell_of_row _ _ 4 _ _ _ h.1];rfl);unfold execOp;go_simp) HD0.out ?_
      change wpAnyH _ _ _ _ _ _ _ { tmps:=List.toArray (_::_::_::_::_::_::_::_::_::_::_::_::_::_::_::_::_::_::_::_::_::_::_::_::_::_::_::_::_::_::_::_::_::_::_::_::_::_::_::_::_::_::_::_::_::_::_::_::_::_::_::_::_::_::_::_::_::_::_::_::_::_::_::_::_::_::_::_::_::_::_::_::_::_::_::_::_::_::_::_::_::_::_::_::_::_::_::_::_::_::_::_::_::_::_::_::_::_::_::_::_::_::_::_::_::_::_::_::_::_::_::[]),defers:=[] } _
      refine dr_take 2 (.pointer (some ⟨g,q+6,none⟩)) rfl rfl (by kernel_rfl) (by kernel_rfl) (by kernel_rfl) (fun _ _ _ h=>h) (fun _ _=>by unfold execOp;go_simp) HD0.out ?_
      change wpAnyH _ _ _ _ _ _ _ { tmps:=List.toArray (_::_::_::_::_::_::_::_::_::_::_::_::_::_::_::_::_::_::_::_::_::_::_::_::_::_::_::_::_::_::_::_::_::_::_::_::_::_::_::_::_::_::_::_::_::_::_::_::_::_::_::_::_::_::_::_::_::_::_::_::_::_::_::_::_::_::_::_::_::_::_::_::_::_::_::_::_::_::_::_::_::_::_::_::_::_::_::_::_::_::_::_::_::_::_::_::_::_::_::_::_::_::_::_::_::_::_::_::_::_::_::[]),defers:=[] } _
      refine dr_take 3 (.agg #[.int .u8 kZ,.int .u8 oZ,.int .i64 wZ,.string nZ,.slice aZ mZ cZ,.int .i64 pZ]) rfl rfl (by kernel_rfl) (by kernel_rfl) (by kernel_rfl) (fun _ _ _ h=>h) (fun W h=>by have f0:W.cell? ⟨g,q+6,none⟩=some (.int .u8 kZ):=(h.2.cell (p:=⟨g,q+6,none⟩) HLG.out).trans HFZ.out.1;have f1:W.cell? ⟨g,q+7,none⟩=some (.int .u8 oZ):=(h.2.cell (p:=⟨g,q+7,none⟩) HLG.out).trans HFZ.out.2.1;have f2:W.cell? ⟨g,q+8,none⟩=some (.int .i64 wZ):=(h.2.cell (p:=⟨g,q+8,none⟩) HLG.out).trans HFZ.out.2.2.1;have f3:W.cell? ⟨g,q+9,none⟩=some (.string nZ):=(h.2.cell (p:=⟨g,q+9,none⟩) HLG.out).trans HFZ.out.2.2.2.1;have f4:W.cell? ⟨g,q+10,none⟩=some (.slice aZ mZ cZ):=(h.2.cell (p:=⟨g,q+10,none⟩) HLG.out).trans HFZ.out.2.2.2.2.1;have f5:W.cell? ⟨g,q+11,none⟩=some (.int .i64 pZ):=(h.2.cell (p:=⟨g,q+11,none⟩) HLG.out).trans HFZ.out.2.2.2.2.2;unfold execOp;go_simp) HD0.out ?_
      change wpAnyH _ _ _ _ _ _ _ { tmps:=List.toArray (_::_::_::_::_::_::_::_::_::_::_::_::_::_::_::_::_::_::_::_::_::_::_::_::_::_::_::_::_::_::_::_::_::_::_::_::_::_::_::_::_::_::_::_::_::_::_::_::_::_::_::_::_::_::_::_::_::_::_::_::_::_::_::_::_::_::_::_::_::_::_::_::_::_::_::_::_::_::_::_::_::_::_::_::_::_::_::_::_::_::_::_::_::_::_::_::_::_::_::_::_::_::_::_::_::_::_::_::_::_::_::[]),defers:=[] } _
      refine dr_take 4 (.int .i64 d) rfl rfl (by kernel_rfl) (by kernel_rfl) (by kernel_rfl) (fun _ _ _ h=>h) (fun _ _=>rfl) HD0.out ?_
      change wpAnyH _ _ _ _ _ _ _ { tmps:=List.toArray (_::_::_::_::_::_::_::_::_::_::_::_::_::_::_::_::_::_::_::_::_::_::_::_::_::_::_::_::_::_::_::_::_::_::_::_::_::_::_::_::_::_::_::_::_::_::_::_::_::_::_::_::_::_::_::_::_::_::_::_::_::_::_::_::_::_::_::_::_::_::_::_::_::_::_::_::_::_::_::_::_::_::_::_::_::_::_::_::_::_::_::_::_::_::_::_::_::_::_::_::_::_::_::_::_::_::_::_::_::_::_::[]),defers:=[] } _
      refine dr_take 5 (.pointer (some ⟨w.heap.size,1,none⟩)) rfl rfl (by kernel_rfl) (by kernel_rfl) (by kernel_rfl) (fun _ _ _ h=>h) (fun _ _=>by unfold execOp;go_simp) HD0.out ?_
      change wpAnyH _ _ _ _ _ _ _ { tmps:=List.toArray (_::_::_::_::_::_::_::_::_::_::_::_::_::_::_::_::_::_::_::_::_::_::_::_::_::_::_::_::_::_::_::_::_::_::_::_::_::_::_::_::_::_::_::_::_::_::_::_::_::_::_::_::_::_::_::_::_::_::_::_::_::_::_::_::_::_::_::_::_::_::_::_::_::_::_::_::_::_::_::_::_::_::_::_::_::_::_::_::_::_::_::_::_::_::_::_::_::_::_::_::_::_::_::_::_::_::_::_::_::_::_::[]),defers:=[] } _
      refine dr_take 6 (.int .u8 o) rfl rfl (by kernel_rfl) (by kernel_rfl) (by kernel_rfl) (fun _ _ _ h=>h) (fun W h=>by have c1:W.cell? ⟨w.heap.size,1,none⟩=some (.int .u8 o):=(by rw [cell_of_row _ _ 1 _ _ _ h.1];rfl);unfold execOp;go_simp) HD0.out ?_
      change wpAnyH _ _ _ _ _ _ _ { tmps:=List.toArray (_::_::_::_::_::_::_::_::_::_::_::_::_::_::_::_::_::_::_::_::_::_::_::_::_::_::_::_::_::_::_::_::_::_::_::_::_::_::_::_::_::_::_::_::_::_::_::_::_::_::_::_::_::_::_::_::_::_::_::_::_::_::_::_::_::_::_::_::_::_::_::_::_::_::_::_::_::_::_::_::_::_::_::_::_::_::_::_::_::_::_::_::_::_::_::_::_::_::_::_::_::_::_::_::_::_::_::_::_::_::_::[]),defers:=[] } _
      refine dr_take 7 (.pointer (some ⟨w.heap.size,4,none⟩)) rfl rfl (by kernel_rfl) (by kernel_rfl) (by kernel_rfl) (fun _ _ _ h=>h) (fun _ _=>by unfold execOp;go_simp) HD0.out ?_
      change wpAnyH _ _ _ _ _ _ _ { tmps:=List.toArray (_::_::_::_::_::_::_::_::_::_::_::_::_::_::_::_::_::_::_::_::_::_::_::_::_::_::_::_::_::_::_::_::_::_::_::_::_::_::_::_::_::_::_::_::_::_::_::_::_::_::_::_::_::_::_::_::_::_::_::_::_::_::_::_::_::_::_::_::_::_::_::_::_::_::_::_::_::_::_::_::_::_::_::_::_::_::_::_::_::_::_::_::_::_::_::_::_::_::_::_::_::_::_::_::_::_::_::_::_::_::_::[]),defers:=[] } _
      refine dr_take 8 (.slice (some ⟨g,q,none⟩) 2 cap) rfl rfl (by kernel_rfl) (by kernel_rfl) (by kernel_rfl) (fun _ _ _ h=>h) (fun W h=>by have c4:W.cell? ⟨w.heap.size,4,none⟩=some (.slice (some ⟨g,q,none⟩) 2 cap):=(by rw [cell_of_row _ _ 4 _ _ _ h.1];rfl);unfold execOp;go_simp) HD0.out ?_
      change wpAnyH _ _ _ _ _ _ _ { tmps:=List.toArray (_::_::_::_::_::_::_::_::_::_::_::_::_::_::_::_::_::_::_::_::_::_::_::_::_::_::_::_::_::_::_::_::_::_::_::_::_::_::_::_::_::_::_::_::_::_::_::_::_::_::_::_::_::_::_::_::_::_::_::_::_::_::_::_::_::_::_::_::_::_::_::_::_::_::_::_::_::_::_::_::_::_::_::_::_::_::_::_::_::_::_::_::_::_::_::_::_::_::_::_::_::_::_::_::_::_::_::_::_::_::_::[]),defers:=[] } _
      refine dr_take 9 (.pointer (some ⟨g,q+6,none⟩)) rfl rfl (by kernel_rfl) (by kernel_rfl) (by kernel_rfl) (fun _ _ _ h=>h) (fun _ _=>by unfold execOp;go_simp) HD0.out ?_
      change wpAnyH _ _ _ _ _ _ _ { tmps:=List.toArray (_::_::_::_::_::_::_::_::_::_::_::_::_::_::_::_::_::_::_::_::_::_::_::_::_::_::_::_::_::_::_::_::_::_::_::_::_::_::_::_::_::_::_::_::_::_::_::_::_::_::_::_::_::_::_::_::_::_::_::_::_::_::_::_::_::_::_::_::_::_::_::_::_::_::_::_::_::_::_::_::_::_::_::_::_::_::_::_::_::_::_::_::_::_::_::_::_::_::_::_::_::_::_::_::_::_::_::_::_::_::_::[]),defers:=[] } _
      refine dr_take 10 (.agg #[.int .u8 kZ,.int .u8 oZ,.int .i64 wZ,.string nZ,.slice aZ mZ cZ,.int .i64 pZ]) rfl rfl (by kernel_rfl) (by kernel_rfl) (by kernel_rfl) (fun _ _ _ h=>h) (fun W h=>by have f0:W.cell? ⟨g,q+6,none⟩=some (.int .u8 kZ):=(h.2.cell (p:=⟨g,q+6,none⟩) HLG.out).trans HFZ.out.1;have f1:W.cell? ⟨g,q+7,none⟩=some (.int .u8 oZ):=(h.2.cell (p:=⟨g,q+7,none⟩) HLG.out).trans HFZ.out.2.1;have f2:W.cell? ⟨g,q+8,none⟩=some (.int .i64 wZ):=(h.2.cell (p:=⟨g,q+8,none⟩) HLG.out).trans HFZ.out.2.2.1;have f3:W.cell? ⟨g,q+9,none⟩=some (.string nZ):=(h.2.cell (p:=⟨g,q+9,none⟩) HLG.out).trans HFZ.out.2.2.2.1;have f4:W.cell? ⟨g,q+10,none⟩=some (.slice aZ mZ cZ):=(h.2.cell (p:=⟨g,q+10,none⟩) HLG.out).trans HFZ.out.2.2.2.2.1;have f5:W.cell? ⟨g,q+11,none⟩=some (.int .i64 pZ):=(h.2.cell (p:=⟨g,q+11,none⟩) HLG.out).trans HFZ.out.2.2.2.2.2;unfold execOp;go_simp) HD0.out ?_
      change wpAnyH _ _ _ _ _ _ _ { tmps:=List.toArray (_::_::_::_::_::_::_::_::_::_::_::_::_::_::_::_::_::_::_::_::_::_::_::_::_::_::_::_::_::_::_::_::_::_::_::_::_::_::_::_::_::_::_::_::_::_::_::_::_::_::_::_::_::_::_::_::_::_::_::_::_::_::_::_::_::_::_::_::_::_::_::_::_::_::_::_::_::_::_::_::_::_::_::_::_::_::_::_::_::_::_::_::_::_::_::_::_::_::_::_::_::_::_::_::_::_::_::_::_::_::_::[]),defers:=[] } _
      refine dr_one 11 rfl rfl (by kernel_rfl) ?_
      refine wp_call (vs:=#[.int .u8 o,.agg #[.int .u8 kZ,.int .u8 oZ,.int .i64 wZ,.string nZ,.slice aZ mZ cZ,.int .i64 pZ]]) rfl rfl (enters_of Tryz.func103 (by kernel_rfl) rfl) (by simp [Act.eval]) (HWRZ.out _ HD0.out.2) ?_
      rintro e w6 ⟨rfl,hb6⟩
      have HD6:=Lib.hid (bw_below HD0.out hb6)
      clear hb6 HD0
      refine ⟨HD6.out,?_⟩
      change wpAnyH _ _ _ _ _ _ _ { tmps:=List.toArray (_::_::_::_::_::_::_::_::_::_::_::_::_::_::_::_::_::_::_::_::_::_::_::_::_::_::_::_::_::_::_::_::_::_::_::_::_::_::_::_::_::_::_::_::_::_::_::_::_::_::_::_::_::_::_::_::_::_::_::_::_::_::_::_::_::_::_::_::_::_::_::_::_::_::_::_::_::_::_::_::_::_::_::_::_::_::_::_::_::_::_::_::_::_::_::_::_::_::_::_::_::_::_::_::_::_::_::_::_::_::_::[]),defers:=[] } _
      refine dr_one 12 rfl rfl (by kernel_rfl) ?_
      refine wp_call (vs:=#[.bool wrZ]) rfl rfl (enters_of Tryz.func99 (by kernel_rfl) rfl) (by simp [Act.eval]) (p_round wrZ _) ?_
      rintro e w7 ⟨rfl,rfl⟩
      refine ⟨HD6.out,?_⟩
      change wpAnyH _ _ _ _ _ _ _ { tmps:=List.toArray (_::_::_::_::_::_::_::_::_::_::_::_::_::_::_::_::_::_::_::_::_::_::_::_::_::_::_::_::_::_::_::_::_::_::_::_::_::_::_::_::_::_::_::_::_::_::_::_::_::_::_::_::_::_::_::_::_::_::_::_::_::_::_::_::_::_::_::_::_::_::_::_::_::_::_::_::_::_::_::_::_::_::_::_::_::_::_::_::_::_::_::_::_::_::_::_::_::_::_::_::_::_::_::_::_::_::_::_::_::_::_::[]),defers:=[] } _
      refine dr_take 13 (.int .i64 (d+b2i wrZ)) rfl rfl (by kernel_rfl) (by kernel_rfl) (by kernel_rfl) (fun _ _ _ h=>h) (fun _ _=>by have hwr:=HWSZ.out;unfold b2i at hwr ⊢;unfold execOp;go_simp) HD6.out ?_
      change wpAnyH _ _ _ _ _ _ _ { tmps:=List.toArray (_::_::_::_::_::_::_::_::_::_::_::_::_::_::_::_::_::_::_::_::_::_::_::_::_::_::_::_::_::_::_::_::_::_::_::_::_::_::_::_::_::_::_::_::_::_::_::_::_::_::_::_::_::_::_::_::_::_::_::_::_::_::_::_::_::_::_::_::_::_::_::_::_::_::_::_::_::_::_::_::_::_::_::_::_::_::_::_::_::_::_::_::_::_::_::_::_::_::_::_::_::_::_::_::_::_::_::_::_::_::_::[]),defers:=[] } _
      refine dr_one 14 rfl rfl (by kernel_rfl) ?_
      refine wp_call (vs:=#[.agg #[.int .u8 kZ,.int .u8 oZ,.int .i64 wZ,.string nZ,.slice aZ mZ cZ,.int .i64 pZ],.int .i64 (d+b2i wrZ)]) rfl rfl (enters_of Tryz.func57 (by kernel_rfl) rfl) (by simp [Act.eval]) (HINZ.out _ HD6.out.2) ?_
      rintro e w8 hh
      rcases hh.cases with ⟨h8,rfl,hb8⟩ | ⟨h8,rfl,hb8⟩
      rotate_left
      · exact ⟨rfl,by rw [HR.out,HY.out,h8];rfl,(bw_below HD6.out hb8).2⟩
      have HD8:=Lib.hid (bw_below HD6.out hb8)
      clear hb8 HD6
      refine ⟨HD8.out,?_⟩
      refine wpAnyH_done (by kernel_rfl) ?_ _
      go_wp2_with fail
      exact bodyPost_end (results_none rfl _ _ _) rfl ⟨by rw [HR.out,HY.out,h8];rfl,HD8.out.2⟩
  · have hr : R = false := by rw [HR.out, HW.out, HN.out]; unfold kB; rw [if_neg hk12, if_neg hk3, if_neg hk4]; simp
    have k4:(k==4)=false:=by simp [hk4]
    go_wp2_with fail
    go_at_call 39
    refine (HND.out _ _).mono ?_
    rintro e w5 hh
    obtain ⟨rfl,hb⟩:=hh.bad rfl
    go_wp2_with fail
    exact ⟨rfl,rfl,(bw_below HB3.out hb).2⟩
theorem needExpr_any:∀ x:Ex,NdE x:=by
 intro x
 induction x using Ex.ind with
 | h k o wd nm ks ps ih=>exact p_needExpr _ ih
end Go.Proofs.YtieeaehabjjaoaaGreatDoor

/- The proof, part 28: texts that belong together, in one. -/
import Derived.Test.YtieeaehabjjaoaaGreatDoorHBA
set_option maxRecDepth 100000
set_option maxHeartbeats 20000000
namespace Go.Proofs.YtieeaehabjjaoaaGreatDoor
open Go.RowKit
set_option linter.unusedVariables false
set_option maxRecDepth 100000
theorem rt_4 {o wd ps:Int} {n:ByteArray} {ks:List Ex} {a:Option Addr} {cap:Nat} {w:World} {d:Int} (hd0:0≤d) (hd:d≤64) (hk:rgE (.mk 4 o wd n ks ps)) (hf:fitE (.mk 4 o wd n ks ps)) (HI:∀ y∈ks,RtE y) (h1:exsAt (fun _=>True) w ks a) :
 Calls Tryz.prog 129 #[.agg #[.int .u8 4,.int .u8 o,.int .i64 wd,.string n,.slice a ks.length cap,.int .i64 ps],.int .i64 d] w fun e w'=>e=.returned (.bool (rE (.mk 4 o wd n ks ps) d))∧Below w.heap.size w w':=by
 obtain ⟨hk0,ho,hwd,hks⟩:=hk
 obtain ⟨hn,hlen,hfs⟩:=hf
 rw [rE_4 hd]
 have HTW:Hid (∀ W,Calls Tryz.prog 170 #[.int .u8 o] W fun e w'=>e=.returned (.bool (twoB o))∧W=w'):=fun W=>r_two o ho.1 W
 obtain ⟨b,hb⟩:∃ b,b=twoB o:=⟨_,rfl⟩
 rw [← hb] at HTW ⊢
 clear hb
 by_cases hl:ks.length=2
 rotate_left
 · have g5 : (((ks.length : Nat) : Int) != 2) = true := by simp; omega
   have hr:kid2 o ks (rEs ks) d=false:=by
    match ks,hl with
    | [],_=>rfl
    | [x],_=>rfl
    | [x,y],hl=>exact absurd rfl hl
    | x::y::z::r,_=>rfl
   rw [hr]
   obtain ⟨m,hm⟩:∃ m,m=ks.length:=⟨_,rfl⟩
   rw [← hm] at g5 ⊢
   clear hr hl hm h1 HI
   have HB:=Lib.hid (bw_new w 59 #[.int .u8 4,.int .u8 o,.int .i64 wd,.string n,.slice a m cap,.int .i64 ps])
   by_cases q1:b=true
   · subst q1
     rw [Bool.true_and]
     by_cases q3:wd=0
     · subst q3
       rw [show ((0:Int)==0)=true from rfl,Bool.true_and]
       by_cases q2:n=⟨#[]⟩
       · subst q2
         rw [show ((⟨#[]⟩:ByteArray).data.toList==[])=true from rfl,Bool.true_and]
         go_enter Tryz.func129,Tryz.ntmps129
         go_wp2_with (go_at_call 170;refine (HTW.out _).mono ?_;rintro e w' ⟨rfl,rfl⟩)
         go_ret
         exact ⟨rfl,HB.out.2⟩
       · have g2 := nm_full q2
         have g4:=bt_f q2
         rw [g2,Bool.false_and]
         go_enter Tryz.func129,Tryz.ntmps129
         go_wp2_with (go_at_call 170;refine (HTW.out _).mono ?_;rintro e w' ⟨rfl,rfl⟩)
         go_ret
         exact ⟨rfl,HB.out.2⟩
     · have g3 := int_f q3
       have g3':(wd != 0)=true:=by simpa using q3
       rw [g3,Bool.false_and]
       go_enter Tryz.func129,Tryz.ntmps129
       go_wp2_with (go_at_call 170;refine (HTW.out _).mono ?_;rintro e w' ⟨rfl,rfl⟩)
       go_ret
       exact ⟨rfl,HB.out.2⟩
   · obtain rfl : b = false := by simpa using q1
     rw [Bool.false_and]
     go_enter Tryz.func129,Tryz.ntmps129
     go_wp2_with (go_at_call 170;refine (HTW.out _).mono ?_;rintro e w' ⟨rfl,rfl⟩)
     go_ret
     exact ⟨rfl,HB.out.2⟩
 obtain ⟨y,z,rfl⟩:∃ y z,ks=[y,z]:=by
  match ks,hl with
  | [y,z],_=>exact ⟨y,z,rfl⟩
 rcases h1 with e | ⟨g,q,rfl,_,e1⟩
 · cases e
 have hIy:=HI y (List.mem_cons_self) hks.1 hfs.1
 have hIz:=HI z (List.mem_cons_of_mem _ (List.mem_singleton.2 rfl)) hks.2.1 hfs.2.1
 have e2:=e1.1
 have e3:=e1.2.1
 have HYO:Hid (0≤y.op∧0≤z.op):=⟨by obtain ⟨_,_,_,_,_,_⟩:=y;exact hks.1.2.1.1,by obtain ⟨_,_,_,_,_,_⟩:=z;exact hks.2.1.2.1.1⟩
 have HK:Hid (kid2 o [y,z] (rEs [y,z]) d=(rE y (d+b2i (wrB o y false))&&rE z (d+b2i (wrB o z true)))):=rfl
 rw [HK.out]
 obtain ⟨yk,yo,yw,yn,yks,yp⟩:=y
 obtain ⟨zk,zo,zw,zn,zks,zp⟩:=z
 obtain ⟨y0,y1,y2,y3,⟨ya,yc,y4,y5k⟩,y5⟩:=e2
 obtain ⟨z0,z1,z2,z3,⟨za,zc,z4,z5k⟩,z5⟩:=e3
 have hIy':∀ W,Below w.heap.size w W→∀ d':Int,0≤d'→d'≤1000→Calls Tryz.prog 129 #[.agg #[.int .u8 yk,.int .u8 yo,.int .i64 yw,.string yn,.slice ya yks.length yc,.int .i64 yp],.int .i64 d'] W fun e w'=>e=.returned (.bool (rE (.mk yk yo yw yn yks yp) d'))∧Below W.heap.size W w':=fun W hW d' h0 h1=>hIy _ W d' ⟨ya,yc,rfl,exsAt_below y5k hW⟩ h0 h1
 have hIz':∀ W,Below w.heap.size w W→∀ d':Int,0≤d'→d'≤1000→Calls Tryz.prog 129 #[.agg #[.int .u8 zk,.int .u8 zo,.int .i64 zw,.string zn,.slice za zks.length zc,.int .i64 zp],.int .i64 d'] W fun e w'=>e=.returned (.bool (rE (.mk zk zo zw zn zks zp) d'))∧Below W.heap.size W w':=fun W hW d' h0 h1=>hIz _ W d' ⟨za,zc,rfl,exsAt_below z5k hW⟩ h0 h1
 have hNy:∀ W,Calls Tryz.prog 132 #[.int .u8 o,.agg #[.int .u8 yk,.int .u8 yo,.int .i64 yw,.string yn,.slice ya yks.length yc,.int .i64 yp],.bool false] W fun e w'=>e=.returned (.bool (wrB o (.mk yk yo yw yn yks yp) false))∧Below W.heap.size W w':=fun W=>r_inner o (.mk yk yo yw yn yks yp) false ho.1 HYO.out.1 ya yc yks.length W
 have hNz:∀ W,Calls Tryz.prog 132 #[.int .u8 o,.agg #[.int .u8 zk,.int .u8 zo,.int .i64 zw,.string zn,.slice za zks.length zc,.int .i64 zp],.bool true] W fun e w'=>e=.returned (.bool (wrB o (.mk zk zo zw zn zks zp) true))∧Below W.heap.size W w':=fun W=>r_inner o (.mk zk zo zw zn zks zp) true ho.1 HYO.out.2 za zc zks.length W
 change Calls _ _ #[.agg #[.int .u8 4,.int .u8 o,.int .i64 wd,.string n,.slice (some ⟨g,q,none⟩) 2 cap,.int .i64 ps],.int .i64 d] w _
 obtain ⟨wy,hwy⟩:∃ t,t=wrB o (.mk yk yo yw yn yks yp) false:=⟨_,rfl⟩
 obtain ⟨wz,hwz⟩:∃ t,t=wrB o (.mk zk zo zw zn zks zp) true:=⟨_,rfl⟩
 rw [← hwy] at hNy ⊢
 rw [← hwz] at hNz ⊢
 have dy:0≤d+b2i wy∧d+b2i wy≤1000:=by have:=b2i_01 wy;omega
 have dz:0≤d+b2i wz∧d+b2i wz≤1000:=by have:=b2i_01 wz;omega
 have hIy2:=fun W hW=>hIy' W hW (d+b2i wy) dy.1 dy.2
 have hIz2:=fun W hW=>hIz' W hW (d+b2i wz) dz.1 dz.2
 obtain ⟨r1,hr1⟩:∃ t,t=rE (.mk yk yo yw yn yks yp) (d+b2i wy):=⟨_,rfl⟩
 obtain ⟨r2,hr2⟩:∃ t,t=rE (.mk zk zo zw zn zks zp) (d+b2i wz):=⟨_,rfl⟩
 rw [← hr1] at hIy2 ⊢
 rw [← hr2] at hIz2 ⊢
 obtain ⟨ym,hym⟩:∃ z,z=yks.length:=⟨_,rfl⟩
 obtain ⟨zm,hzm⟩:∃ z,z=zks.length:=⟨_,rfl⟩
 rw [← hym] at hIy2 hNy y4
 rw [← hzm] at hIz2 hNz z4
 have HIY:=Lib.hid hIy2
 have HIZ:=Lib.hid hIz2
 have HNY:=Lib.hid hNy
 have HNZ:=Lib.hid hNz
 have HYF:=Lib.hid (And.intro y0 (And.intro y1 (And.intro y2 (And.intro y3 (And.intro y4 y5)))))
 have HZF:=Lib.hid (And.intro z0 (And.intro z1 (And.intro z2 (And.intro z3 (And.intro z4 z5)))))
 clear HYO HK hym hzm hIy hIy' hIy2 hIz hIz' hIz2 hNy hNz hl e1 HI hks hfs y5k z5k hwy hwz hr1 hr2 y0 y1 y2 y3 y4 y5 z0 z1 z2 z3 z4 z5
 have HB:=Lib.hid (bw_new w 59 #[.int .u8 4,.int .u8 o,.int .i64 wd,.string n,.slice (some ⟨g,q,none⟩) 2 cap,.int .i64 ps])
 by_cases q1:b=true
 rotate_left
 · obtain rfl : b = false := by simpa using q1
   rw [Bool.false_and]
   go_enter Tryz.func129,Tryz.ntmps129
   go_wp2_with (go_at_call 170;refine (HTW.out _).mono ?_;rintro e w' ⟨rfl,rfl⟩)
   go_ret
   exact ⟨rfl,HB.out.2⟩
 subst q1
 rw [Bool.true_and]
 by_cases q3:wd=0
 rotate_left
 · have g3 := int_f q3
   have g3':(wd != 0)=true:=by simpa using q3
   rw [g3,Bool.false_and]
   go_enter Tryz.func129,Tryz.ntmps129
   go_wp2_with (go_at_call 170;refine (HTW.out _).mono ?_;rintro e w' ⟨rfl,rfl⟩)
   go_ret
   exact ⟨rfl,HB.out.2⟩
 subst q3
 rw [show ((0:Int)==0)=true from rfl,Bool.true_and]
 by_cases q2:n=⟨#[]⟩
 rotate_left
 · have g2 := nm_full q2
   have g4:=bt_f q2
   rw [g2,Bool.false_and]
   go_enter Tryz.func129,Tryz.ntmps129
   go_wp2_with (go_at_call 170;refine (HTW.out _).mono ?_;rintro e w' ⟨rfl,rfl⟩)
   go_ret
   exact ⟨rfl,HB.out.2⟩
 subst q2
 rw [show ((⟨#[]⟩:ByteArray).data.toList==[])=true from rfl,Bool.true_and]
 go_enter Tryz.func129,Tryz.ntmps129
 go_wp2_with (go_at_call 170;refine (HTW.out _).mono ?_;rintro e w' ⟨rfl,rfl⟩)
 go_loopg [5] 3 (fun m' u X=>∃ i:Nat,u=.int .i64 (i:Int)∧i≤2∧m'=2-i+1∧Bw w 59 #[.int .u8 4,.int .u8 o,.int .i64 0,.string ⟨#[]⟩,.slice (some ⟨g,q,none⟩) 2 cap,.int .i64 ps] X∧(1≤i→r1=true)∧(2≤i→r2=true))
 case atStart=>exact ⟨0,rfl,by omega,by omega,HB.out,fun h=>by omega,fun h=>by omega⟩
 case round =>
  clear HB
  obtain ⟨i,rfl,hi,hm,hbr,hq1,hq2⟩:=hrel
  have HM:=Lib.hid hm
  have HBR:=Lib.hid hbr
  clear hm hbr
  rcases (show i=0∨i=1∨i=2 by omega) with rfl | rfl | rfl
  · clear hq1 hq2 hi
    obtain ⟨y0,y1,y2,y3,y4,y5⟩:=HYF.out
    have yf0:wr.cell? ⟨g,q,none⟩=some (.int .u8 yk):=by rw [HBR.out.2.cell (p:=⟨g,q,none⟩) (cell_lt y0)];exact y0
    have yf1:wr.cell? ⟨g,q+1,none⟩=some (.int .u8 yo):=by rw [HBR.out.2.cell (p:=⟨g,q+1,none⟩) (cell_lt y1)];exact y1
    have yf2:wr.cell? ⟨g,q+2,none⟩=some (.int .i64 yw):=by rw [HBR.out.2.cell (p:=⟨g,q+2,none⟩) (cell_lt y2)];exact y2
    have yf3:wr.cell? ⟨g,q+3,none⟩=some (.string yn):=by rw [HBR.out.2.cell (p:=⟨g,q+3,none⟩) (cell_lt y3)];exact y3
    have yf4:wr.cell? ⟨g,q+4,none⟩=some (.slice ya ym yc):=by rw [HBR.out.2.cell (p:=⟨g,q+4,none⟩) (cell_lt y4)];exact y4
    have yf5:wr.cell? ⟨g,q+5,none⟩=some (.int .i64 yp):=by rw [HBR.out.2.cell (p:=⟨g,q+5,none⟩) (cell_lt y5)];exact y5
    clear y0 y1 y2 y3 y4 y5
    have k1:wr.cell? ⟨w.heap.size,1,none⟩=some (.int .u8 o):=by rw [cell_of_row _ _ 1 _ _ _ HBR.out.1];rfl
    have k4:wr.cell? ⟨w.heap.size,4,none⟩=some (.slice (some ⟨g,q,none⟩) 2 cap):=by rw [cell_of_row _ _ 4 _ _ _ HBR.out.1];rfl
    go_wp2_with fail
    go_still_tail 9,(by kernel_rfl)
    change wpList _ _ _ _ _ wr.drew
    clear yf0 yf1 yf2 yf3 yf4 yf5 k1 k4
    have HBD:Hid (Bw w 59 #[.int .u8 4,.int .u8 o,.int .i64 0,.string ⟨#[]⟩,.slice (some ⟨g,q,none⟩) 2 cap,.int .i64 ps] wr.drew):=⟨HBR.out.1.drewN 1,below_drewN HBR.out.2 1⟩
    obtain ⟨W1,hW1⟩:∃ W,W=wr.drew:=⟨_,rfl⟩
    rw [← hW1] at HBD ⊢
    clear hW1
    cases wy
    · rw [show d + b2i false = d by unfold b2i; simp] at HIY
      go_wp2_with (go_at_call 132;refine (HNY.out _).mono ?_;rintro e w3 ⟨rfl,hb3⟩;have HB3:=Lib.hid (bw_below HBD.out hb3);clear hb3;have k4:w3.cell? ⟨w.heap.size,4,none⟩=some (.slice (some ⟨g,q,none⟩) 2 cap):=(by rw [cell_of_row _ _ 4 _ _ _ HB3.out.1];rfl);have yg0:w3.cell? ⟨g,q,none⟩=some (.int .u8 yk):=(by rw [HB3.out.2.cell (p:=⟨g,q,none⟩) (cell_lt HYF.out.1)];exact HYF.out.1);have yg1:w3.cell? ⟨g,q+1,none⟩=some (.int .u8 yo):=(by rw [HB3.out.2.cell (p:=⟨g,q+1,none⟩) (cell_lt HYF.out.2.1)];exact HYF.out.2.1);have yg2:w3.cell? ⟨g,q+2,none⟩=some (.int .i64 yw):=(by rw [HB3.out.2.cell (p:=⟨g,q+2,none⟩) (cell_lt HYF.out.2.2.1)];exact HYF.out.2.2.1);have yg3:w3.cell? ⟨g,q+3,none⟩=some (.string yn):=(by rw [HB3.out.2.cell (p:=⟨g,q+3,none⟩) (cell_lt HYF.out.2.2.2.1)];exact HYF.out.2.2.2.1);have yg4:w3.cell? ⟨g,q+4,none⟩=some (.slice ya ym yc):=(by rw [HB3.out.2.cell (p:=⟨g,q+4,none⟩) (cell_lt HYF.out.2.2.2.2.1)];exact HYF.out.2.2.2.2.1);have yg5:w3.cell? ⟨g,q+5,none⟩=some (.int .i64 yp):=(by rw [HB3.out.2.cell (p:=⟨g,q+5,none⟩) (cell_lt HYF.out.2.2.2.2.2)];exact HYF.out.2.2.2.2.2);skip)
      cases r1
      · go_at_call 129
        refine (HIY.out _ HB3.out.2).mono ?_
        rintro e w4 ⟨rfl,hb4⟩
        have HB4:=Lib.hid (bw_below HB3.out hb4)
        clear hb4
        go_wp2_with fail
        go_ret
        exact ⟨rfl,HB4.out.2⟩
      · go_at_call 129
        refine (HIY.out _ HB3.out.2).mono ?_
        rintro e w4 ⟨rfl,hb4⟩
        have HB4:=Lib.hid (bw_below HB3.out hb4)
        clear hb4
        go_wp2_with fail
        go_roundg 2
        case measure=>have:=HM.out;omega
        case rel=>exact ⟨1,rfl,by omega,by omega,HB4.out,fun _=>by first | rfl | trivial,fun h=>by omega⟩
    · rw [show d + b2i true = d + 1 by unfold b2i; simp] at HIY
      go_wp2_with (go_at_call 132;refine (HNY.out _).mono ?_;rintro e w3 ⟨rfl,hb3⟩;have HB3:=Lib.hid (bw_below HBD.out hb3);clear hb3;have k4:w3.cell? ⟨w.heap.size,4,none⟩=some (.slice (some ⟨g,q,none⟩) 2 cap):=(by rw [cell_of_row _ _ 4 _ _ _ HB3.out.1];rfl);have yg0:w3.cell? ⟨g,q,none⟩=some (.int .u8 yk):=(by rw [HB3.out.2.cell (p:=⟨g,q,none⟩) (cell_lt HYF.out.1)];exact HYF.out.1);have yg1:w3.cell? ⟨g,q+1,none⟩=some (.int .u8 yo):=(by rw [HB3.out.2.cell (p:=⟨g,q+1,none⟩) (cell_lt HYF.out.2.1)];exact HYF.out.2.1);have yg2:w3.cell? ⟨g,q+2,none⟩=some (.int .i64 yw):=(by rw [HB3.out.2.cell (p:=⟨g,q+2,none⟩) (cell_lt HYF.out.2.2.1)];exact HYF.out.2.2.1);have yg3:w3.cell? ⟨g,q+3,none⟩=some (.string yn):=(by rw [HB3.out.2.cell (p:=⟨g,q+3,none⟩) (cell_lt HYF.out.2.2.2.1)];exact HYF.out.2.2.2.1);have yg4:w3.cell? ⟨g,q+4,none⟩=some (.slice ya ym yc):=(by rw [HB3.out.2.cell (p:=⟨g,q+4,none⟩) (cell_lt HYF.out.2.2.2.2.1)];exact HYF.out.2.2.2.2.1);have yg5:w3.cell? ⟨g,q+5,none⟩=some (.int .i64 yp):=(by rw [HB3.out.2.cell (p:=⟨g,q+5,none⟩) (cell_lt HYF.out.2.2.2.2.2)];exact HYF.out.2.2.2.2.2);skip)
      cases r1
      · go_at_call 129
        refine (HIY.out _ HB3.out.2).mono ?_
        rintro e w4 ⟨rfl,hb4⟩
        have HB4:=Lib.hid (bw_below HB3.out hb4)
        clear hb4
        go_wp2_with fail
        go_ret
        exact ⟨rfl,HB4.out.2⟩
      · go_at_call 129
        refine (HIY.out _ HB3.out.2).mono ?_
        rintro e w4 ⟨rfl,hb4⟩
        have HB4:=Lib.hid (bw_below HB3.out hb4)
        clear hb4
        go_wp2_with fail
        go_roundg 2
        case measure=>have:=HM.out;omega
        case rel=>exact ⟨1,rfl,by omega,by omega,HB4.out,fun _=>by first | rfl | trivial,fun h=>by omega⟩
  · have HR1 := Lib.hid (hq1 (by omega))
    clear hq1 hq2 hi
    obtain ⟨z0,z1,z2,z3,z4,z5⟩:=HZF.out
    have zf0:wr.cell? ⟨g,q+6,none⟩=some (.int .u8 zk):=by rw [HBR.out.2.cell (p:=⟨g,q+6,none⟩) (cell_lt z0)];exact z0
    have zf1:wr.cell? ⟨g,q+7,none⟩=some (.int .u8 zo):=by rw [HBR.out.2.cell (p:=⟨g,q+7,none⟩) (cell_lt z1)];exact z1
    have zf2:wr.cell? ⟨g,q+8,none⟩=some (.int .i64 zw):=by rw [HBR.out.2.cell (p:=⟨g,q+8,none⟩) (cell_lt z2)];exact z2
    have zf3:wr.cell? ⟨g,q+9,none⟩=some (.string zn):=by rw [HBR.out.2.cell (p:=⟨g,q+9,none⟩) (cell_lt z3)];exact z3
    have zf4:wr.cell? ⟨g,q+10,none⟩=some (.slice za zm zc):=by rw [HBR.out.2.cell (p:=⟨g,q+10,none⟩) (cell_lt z4)];exact z4
    have zf5:wr.cell? ⟨g,q+11,none⟩=some (.int .i64 zp):=by rw [HBR.out.2.cell (p:=⟨g,q+11,none⟩) (cell_lt z5)];exact z5
    clear z0 z1 z2 z3 z4 z5
    have k1:wr.cell? ⟨w.heap.size,1,none⟩=some (.int .u8 o):=by rw [cell_of_row _ _ 1 _ _ _ HBR.out.1];rfl
    have k4:wr.cell? ⟨w.heap.size,4,none⟩=some (.slice (some ⟨g,q,none⟩) 2 cap):=by rw [cell_of_row _ _ 4 _ _ _ HBR.out.1];rfl
    go_wp2_with fail
    go_still_tail 9,(by kernel_rfl)
    change wpList _ _ _ _ _ wr.drew
    clear zf0 zf1 zf2 zf3 zf4 zf5 k1 k4
    have HBD:Hid (Bw w 59 #[.int .u8 4,.int .u8 o,.int .i64 0,.string ⟨#[]⟩,.slice (some ⟨g,q,none⟩) 2 cap,.int .i64 ps] wr.drew):=⟨HBR.out.1.drewN 1,below_drewN HBR.out.2 1⟩
    obtain ⟨W1,hW1⟩:∃ W,W=wr.drew:=⟨_,rfl⟩
    rw [← hW1] at HBD ⊢
    clear hW1
    cases wz
    · rw [show d + b2i false = d by unfold b2i; simp] at HIZ
      go_wp2_with (go_at_call 132;refine (HNZ.out _).mono ?_;rintro e w3 ⟨rfl,hb3⟩;have HB3:=Lib.hid (bw_below HBD.out hb3);clear hb3;have k4:w3.cell? ⟨w.heap.size,4,none⟩=some (.slice (some ⟨g,q,none⟩) 2 cap):=(by rw [cell_of_row _ _ 4 _ _ _ HB3.out.1];rfl);have zg0:w3.cell? ⟨g,q+6,none⟩=some (.int .u8 zk):=(by rw [HB3.out.2.cell (p:=⟨g,q+6,none⟩) (cell_lt HZF.out.1)];exact HZF.out.1);have zg1:w3.cell? ⟨g,q+7,none⟩=some (.int .u8 zo):=(by rw [HB3.out.2.cell (p:=⟨g,q+7,none⟩) (cell_lt HZF.out.2.1)];exact HZF.out.2.1);have zg2:w3.cell? ⟨g,q+8,none⟩=some (.int .i64 zw):=(by rw [HB3.out.2.cell (p:=⟨g,q+8,none⟩) (cell_lt HZF.out.2.2.1)];exact HZF.out.2.2.1);have zg3:w3.cell? ⟨g,q+9,none⟩=some (.string zn):=(by rw [HB3.out.2.cell (p:=⟨g,q+9,none⟩) (cell_lt HZF.out.2.2.2.1)];exact HZF.out.2.2.2.1);have zg4:w3.cell? ⟨g,q+10,none⟩=some (.slice za zm zc):=(by rw [HB3.out.2.cell (p:=⟨g,q+10,none⟩) (cell_lt HZF.out.2.2.2.2.1)];exact HZF.out.2.2.2.2.1);have zg5:w3.cell? ⟨g,q+11,none⟩=some (.int .i64 zp):=(by rw [HB3.out.2.cell (p:=⟨g,q+11,none⟩) (cell_lt HZF.out.2.2.2.2.2)];exact HZF.out.2.2.2.2.2);skip)
      cases r2
      · go_at_call 129
        refine (HIZ.out _ HB3.out.2).mono ?_
        rintro e w4 ⟨rfl,hb4⟩
        have HB4:=Lib.hid (bw_below HB3.out hb4)
        clear hb4
        go_wp2_with fail
        go_ret
        exact ⟨by rw [HR1.out];rfl,HB4.out.2⟩
      · go_at_call 129
        refine (HIZ.out _ HB3.out.2).mono ?_
        rintro e w4 ⟨rfl,hb4⟩
        have HB4:=Lib.hid (bw_below HB3.out hb4)
        clear hb4
        go_wp2_with fail
        go_roundg 1
        case measure=>have:=HM.out;omega
        case rel=>exact ⟨2,rfl,by omega,by omega,HB4.out,fun _=>HR1.out,fun _=>by first | rfl | trivial⟩
    · rw [show d + b2i true = d + 1 by unfold b2i; simp] at HIZ
      go_wp2_with (go_at_call 132;refine (HNZ.out _).mono ?_;rintro e w3 ⟨rfl,hb3⟩;have HB3:=Lib.hid (bw_below HBD.out hb3);clear hb3;have k4:w3.cell? ⟨w.heap.size,4,none⟩=some (.slice (some ⟨g,q,none⟩) 2 cap):=(by rw [cell_of_row _ _ 4 _ _ _ HB3.out.1];rfl);have zg0:w3.cell? ⟨g,q+6,none⟩=some (.int .u8 zk):=(by rw [HB3.out.2.cell (p:=⟨g,q+6,none⟩) (cell_lt HZF.out.1)];exact HZF.out.1);have zg1:w3.cell? ⟨g,q+7,none⟩=some (.int .u8 zo):=(by rw [HB3.out.2.cell (p:=⟨g,q+7,none⟩) (cell_lt HZF.out.2.1)];exact HZF.out.2.1);have zg2:w3.cell? ⟨g,q+8,none⟩=some (.int .i64 zw):=(by rw [HB3.out.2.cell (p:=⟨g,q+8,none⟩) (cell_lt HZF.out.2.2.1)];exact HZF.out.2.2.1);have zg3:w3.cell? ⟨g,q+9,none⟩=some (.string zn):=(by rw [HB3.out.2.cell (p:=⟨g,q+9,none⟩) (cell_lt HZF.out.2.2.2.1)];exact HZF.out.2.2.2.1);have zg4:w3.cell? ⟨g,q+10,none⟩=some (.slice za zm zc):=(by rw [HB3.out.2.cell (p:=⟨g,q+10,none⟩) (cell_lt HZF.out.2.2.2.2.1)];exact HZF.out.2.2.2.2.1);have zg5:w3.cell? ⟨g,q+11,none⟩=some (.int .i64 zp):=(by rw [HB3.out.2.cell (p:=⟨g,q+11,none⟩) (cell_lt HZF.out.2.2.2.2.2)];exact HZF.out.2.2.2.2.2);skip)
      cases r2
      · go_at_call 129
        refine (HIZ.out _ HB3.out.2).mono ?_
        rintro e w4 ⟨rfl,hb4⟩
        have HB4:=Lib.hid (bw_below HB3.out hb4)
        clear hb4
        go_wp2_with fail
        go_ret
        exact ⟨by rw [HR1.out];rfl,HB4.out.2⟩
      · go_at_call 129
        refine (HIZ.out _ HB3.out.2).mono ?_
        rintro e w4 ⟨rfl,hb4⟩
        have HB4:=Lib.hid (bw_below HB3.out hb4)
        clear hb4
        go_wp2_with fail
        go_roundg 1
        case measure=>have:=HM.out;omega
        case rel=>exact ⟨2,rfl,by omega,by omega,HB4.out,fun _=>HR1.out,fun _=>by first | rfl | trivial⟩
  · have HR1 := Lib.hid (hq1 (by omega))
    have HR2:=Lib.hid (hq2 (by omega))
    clear hq1 hq2 hi
    go_wp2_with fail
    go_ret
    exact ⟨by rw [HR1.out,HR2.out];rfl,HBR.out.2⟩
theorem r_rightExpr:∀ x:Ex,RtE x:=by
 intro x
 have key:∀ x:Ex,(∀ y∈x.kids,RtE y)→RtE x:=by
  intro x HI hrg hft v w d hv hd0 hd1
  obtain ⟨a,cap,rfl,h1⟩:=hv
  obtain ⟨k,o,wd,n,ks,ps⟩:=x
  change ∀ y∈ks,RtE y at HI
  change exsAt _ w ks a at h1
  by_cases hd:d≤64
  · by_cases k1 : k = 1
    · subst k1;exact rt_1 hd0 hd hrg hft
    · by_cases k2 : k = 2
      · subst k2;exact rt_2 hd0 hd hrg hft
      · by_cases k3 : k = 3
        · subst k3;exact rt_3 hd0 hd hrg hft HI h1
        · by_cases k4 : k = 4
          · subst k4;exact rt_4 hd0 hd hrg hft HI h1
          · exact rt_0 hd0 hd hrg hft k1 k2 k3 k4
  · exact rt_deep hd
 have all:∀ l:List Ex,∀ y∈l,RtE y:=by
  intro l
  induction l using Exs.ind with
  | h0=>intro y hy;cases hy
  | h1 k o wd nm ks p r ih1 ih2 =>
    intro y hy
    rcases List.mem_cons.1 hy with rfl | hy
    · exact key _ ih1
    · exact ih2 y hy
 exact key x (all x.kids)
end Go.Proofs.YtieeaehabjjaoaaGreatDoor

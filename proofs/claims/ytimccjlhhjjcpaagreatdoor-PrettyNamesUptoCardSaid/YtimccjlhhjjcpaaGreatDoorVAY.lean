/- The proof, part 25: texts that belong together, in one. -/
import Derived.Test.YtimccjlhhjjcpaaGreatDoorVAX
import Derived.Test.YtimccjlhhjjcpaaGreatDoorVAB
import Derived.Test.YtimccjlhhjjcpaaGreatDoorVAU
set_option maxRecDepth 100000
set_option maxHeartbeats 20000000
namespace Go.Proofs.YtimccjlhhjjcpaaGreatDoor
open Go.RowKit
set_option linter.unusedVariables false
set_option maxRecDepth 100000
theorem rt_4 {o wd ps:Int} {n:ByteArray} {ks:List Ex} {a:Option Addr} {cap:Nat} {w:World} {d:Int} (hd0:0≤d) (hd:d≤64) (hk:rgE (.mk 4 o wd n ks ps)) (hf:fitE (.mk 4 o wd n ks ps)) (HI:∀ y∈ks,RtE y) (h1:exsAt (fun _=>True) w ks a) :
 Calls Tryz.prog 111 #[.agg #[.int .u8 4,.int .u8 o,.int .i64 wd,.string n,.slice a ks.length cap,.int .i64 ps],.int .i64 d] w fun e w'=>e=.returned (.bool (rE (.mk 4 o wd n ks ps) d))∧Below w.heap.size w w':=by
 obtain ⟨hk0,ho,hwd,hks⟩:=hk
 obtain ⟨hn,hlen,hfs⟩:=hf
 rw [rE_4 hd]
 have HTW:Hid (∀ W,Calls Tryz.prog 140 #[.int .u8 o] W fun e w'=>e=.returned (.bool (twoB o))∧W=w'):=fun W=>r_two o ho.1 W
 obtain ⟨b,hb⟩:∃ b,b=twoB o:=⟨_,rfl⟩
 rw [← hb] at HTW ⊢
 clear hb
 by_cases hl:ks.length=2
 rotate_left
 · have g5 : (((ks.length : Nat) : Int) != 2) = true := by simp; omega
   have hr:kid2 o ks (rEs ks) d=false:=by
    match ks,hl with
    | [],_=>rfl
    | [x],_=>rfl
    | [x,y],hl=>exact absurd rfl hl
    | x::y::z::r,_=>rfl
   rw [hr]
   obtain ⟨m,hm⟩:∃ m,m=ks.length:=⟨_,rfl⟩
   rw [← hm] at g5 ⊢
   clear hr hl hm h1 HI
   have HB:=Lib.hid (bw_new w 70 #[.int .u8 4,.int .u8 o,.int .i64 wd,.string n,.slice a m cap,.int .i64 ps])
   by_cases q1:b=true
   · subst q1
     rw [Bool.true_and]
     by_cases q3:wd=0
     · subst q3
       rw [show ((0:Int)==0)=true from rfl,Bool.true_and]
       by_cases q2:n=⟨#[]⟩
       · subst q2
         rw [show ((⟨#[]⟩:ByteArray).data.toList==[])=true from rfl,Bool.true_and]
         go_enter Tryz.func111,Tryz.ntmps111
         go_wp2_with (go_at_call 140;refine (HTW.out _).mono ?_;rintro e w' ⟨rfl,rfl⟩)
         go_ret
         exact ⟨rfl,HB.out.2⟩
       · have g2 := nm_full q2
         have g4:=bt_f q2
         rw [g2,Bool.false_and]
         go_enter Tryz.func111,Tryz.ntmps111
         go_wp2_with (go_at_call 140;refine (HTW.out _).mono ?_;rintro e w' ⟨rfl,rfl⟩)
         go_ret
         exact ⟨rfl,HB.out.2⟩
     · have g3 := int_f q3
       have g3':(wd != 0)=true:=by simpa using q3
       rw [g3,Bool.false_and]
       go_enter Tryz.func111,Tryz.ntmps111
       go_wp2_with (go_at_call 140;refine (HTW.out _).mono ?_;rintro e w' ⟨rfl,rfl⟩)
       go_ret
       exact ⟨rfl,HB.out.2⟩
   · obtain rfl : b = false := by simpa using q1
     rw [Bool.false_and]
     go_enter Tryz.func111,Tryz.ntmps111
     go_wp2_with (go_at_call 140;refine (HTW.out _).mono ?_;rintro e w' ⟨rfl,rfl⟩)
     go_ret
     exact ⟨rfl,HB.out.2⟩
 obtain ⟨y,z,rfl⟩:∃ y z,ks=[y,z]:=by
  match ks,hl with
  | [y,z],_=>exact ⟨y,z,rfl⟩
 rcases h1 with e | ⟨g,q,rfl,_,e1⟩
 · cases e
 have hIy:=HI y (List.mem_cons_self) hks.1 hfs.1
 have hIz:=HI z (List.mem_cons_of_mem _ (List.mem_singleton.2 rfl)) hks.2.1 hfs.2.1
 have e2:=e1.1
 have e3:=e1.2.1
 have HYO:Hid (0≤y.op∧0≤z.op):=⟨by obtain ⟨_,_,_,_,_,_⟩:=y;exact hks.1.2.1.1,by obtain ⟨_,_,_,_,_,_⟩:=z;exact hks.2.1.2.1.1⟩
 have HK:Hid (kid2 o [y,z] (rEs [y,z]) d=(rE y (d+b2i (wrB o y false))&&rE z (d+b2i (wrB o z true)))):=rfl
 rw [HK.out]
 obtain ⟨yk,yo,yw,yn,yks,yp⟩:=y
 obtain ⟨zk,zo,zw,zn,zks,zp⟩:=z
 obtain ⟨y0,y1,y2,y3,⟨ya,yc,y4,y5k⟩,y5⟩:=e2
 obtain ⟨z0,z1,z2,z3,⟨za,zc,z4,z5k⟩,z5⟩:=e3
 have hIy':∀ W,Below w.heap.size w W→∀ d':Int,0≤d'→d'≤1000→Calls Tryz.prog 111 #[.agg #[.int .u8 yk,.int .u8 yo,.int .i64 yw,.string yn,.slice ya yks.length yc,.int .i64 yp],.int .i64 d'] W fun e w'=>e=.returned (.bool (rE (.mk yk yo yw yn yks yp) d'))∧Below W.heap.size W w':=fun W hW d' h0 h1=>hIy _ W d' ⟨ya,yc,rfl,exsAt_below y5k hW⟩ h0 h1
 have hIz':∀ W,Below w.heap.size w W→∀ d':Int,0≤d'→d'≤1000→Calls Tryz.prog 111 #[.agg #[.int .u8 zk,.int .u8 zo,.int .i64 zw,.string zn,.slice za zks.length zc,.int .i64 zp],.int .i64 d'] W fun e w'=>e=.returned (.bool (rE (.mk zk zo zw zn zks zp) d'))∧Below W.heap.size W w':=fun W hW d' h0 h1=>hIz _ W d' ⟨za,zc,rfl,exsAt_below z5k hW⟩ h0 h1
 have hNy:∀ W,Calls Tryz.prog 141 #[.int .u8 o,.agg #[.int .u8 yk,.int .u8 yo,.int .i64 yw,.string yn,.slice ya yks.length yc,.int .i64 yp],.bool false] W fun e w'=>e=.returned (.bool (wrB o (.mk yk yo yw yn yks yp) false))∧Below W.heap.size W w':=fun W=>r_inner o (.mk yk yo yw yn yks yp) false ho.1 HYO.out.1 ya yc yks.length W
 have hNz:∀ W,Calls Tryz.prog 141 #[.int .u8 o,.agg #[.int .u8 zk,.int .u8 zo,.int .i64 zw,.string zn,.slice za zks.length zc,.int .i64 zp],.bool true] W fun e w'=>e=.returned (.bool (wrB o (.mk zk zo zw zn zks zp) true))∧Below W.heap.size W w':=fun W=>r_inner o (.mk zk zo zw zn zks zp) true ho.1 HYO.out.2 za zc zks.length W
 change Calls _ _ #[.agg #[.int .u8 4,.int .u8 o,.int .i64 wd,.string n,.slice (some ⟨g,q,none⟩) 2 cap,.int .i64 ps],.int .i64 d] w _
 obtain ⟨wy,hwy⟩:∃ t,t=wrB o (.mk yk yo yw yn yks yp) false:=⟨_,rfl⟩
 obtain ⟨wz,hwz⟩:∃ t,t=wrB o (.mk zk zo zw zn zks zp) true:=⟨_,rfl⟩
 rw [← hwy] at hNy ⊢
 rw [← hwz] at hNz ⊢
 have dy:0≤d+b2i wy∧d+b2i wy≤1000:=by have:=b2i_01 wy;omega
 have dz:0≤d+b2i wz∧d+b2i wz≤1000:=by have:=b2i_01 wz;omega
 have hIy2:=fun W hW=>hIy' W hW (d+b2i wy) dy.1 dy.2
 have hIz2:=fun W hW=>hIz' W hW (d+b2i wz) dz.1 dz.2
 obtain ⟨r1,hr1⟩:∃ t,t=rE (.mk yk yo yw yn yks yp) (d+b2i wy):=⟨_,rfl⟩
 obtain ⟨r2,hr2⟩:∃ t,t=rE (.mk zk zo zw zn zks zp) (d+b2i wz):=⟨_,rfl⟩
 rw [← hr1] at hIy2 ⊢
 rw [← hr2] at hIz2 ⊢
 obtain ⟨ym,hym⟩:∃ z,z=yks.length:=⟨_,rfl⟩
 obtain ⟨zm,hzm⟩:∃ z,z=zks.length:=⟨_,rfl⟩
 rw [← hym] at hIy2 hNy y4
 rw [← hzm] at hIz2 hNz z4
 have HIY:=Lib.hid hIy2
 have HIZ:=Lib.hid hIz2
 have HNY:=Lib.hid hNy
 have HNZ:=Lib.hid hNz
 have HYF:=Lib.hid (And.intro y0 (And.intro y1 (And.intro y2 (And.intro y3 (And.intro y4 y5)))))
 have HZF:=Lib.hid (And.intro z0 (And.intro z1 (And.intro z2 (And.intro z3 (And.intro z4 z5)))))
 clear HYO HK hym hzm hIy hIy' hIy2 hIz hIz' hIz2 hNy hNz hl e1 HI hks hfs y5k z5k hwy hwz hr1 hr2 y0 y1 y2 y3 y4 y5 z0 z1 z2 z3 z4 z5
 have HB:=Lib.hid (bw_new w 70 #[.int .u8 4,.int .u8 o,.int .i64 wd,.string n,.slice (some ⟨g,q,none⟩) 2 cap,.int .i64 ps])
 by_cases q1:b=true
 rotate_left
 · obtain rfl : b = false := by simpa using q1
   rw [Bool.false_and]
   go_enter Tryz.func111,Tryz.ntmps111
   go_wp2_with (go_at_call 140;refine (HTW.out _).mono ?_;rintro e w' ⟨rfl,rfl⟩)
   go_ret
   exact ⟨rfl,HB.out.2⟩
 subst q1
 rw [Bool.true_and]
 by_cases q3:wd=0
 rotate_left
 · have g3 := int_f q3
   have g3':(wd != 0)=true:=by simpa using q3
   rw [g3,Bool.false_and]
   go_enter Tryz.func111,Tryz.ntmps111
   go_wp2_with (go_at_call 140;refine (HTW.out _).mono ?_;rintro e w' ⟨rfl,rfl⟩)
   go_ret
   exact ⟨rfl,HB.out.2⟩
 subst q3
 rw [show ((0:Int)==0)=true from rfl,Bool.true_and]
 by_cases q2:n=⟨#[]⟩
 rotate_left
 · have g2 := nm_full q2
   have g4:=bt_f q2
   rw [g2,Bool.false_and]
   go_enter Tryz.func111,Tryz.ntmps111
   go_wp2_with (go_at_call 140;refine (HTW.out _).mono ?_;rintro e w' ⟨rfl,rfl⟩)
   go_ret
   exact ⟨rfl,HB.out.2⟩
 subst q2
 rw [show ((⟨#[]⟩:ByteArray).data.toList==[])=true from rfl,Bool.true_and]
 go_enter Tryz.func111,Tryz.ntmps111
 go_wp2_with (go_at_call 140;refine (HTW.out _).mono ?_;rintro e w' ⟨rfl,rfl⟩)
 go_loopg [5] 3 (fun m' u X=>∃ i:Nat,u=.int .i64 (i:Int)∧i≤2∧m'=2-i+1∧Bw w 70 #[.int .u8 4,.int .u8 o,.int .i64 0,.string ⟨#[]⟩,.slice (some ⟨g,q,none⟩) 2 cap,.int .i64 ps] X∧(1≤i→r1=true)∧(2≤i→r2=true))
 case atStart=>exact ⟨0,rfl,by omega,by omega,HB.out,fun h=>by omega,fun h=>by omega⟩
 case round =>
  clear HB
  obtain ⟨i,rfl,hi,hm,hbr,hq1,hq2⟩:=hrel
  have HM:=Lib.hid hm
  have HBR:=Lib.hid hbr
  clear hm hbr
  rcases (show i=0∨i=1∨i=2 by omega) with rfl | rfl | rfl
  · clear hq1 hq2 hi
    obtain ⟨y0,y1,y2,y3,y4,y5⟩:=HYF.out
    have yf0:wr.cell? ⟨g,q,none⟩=some (.int .u8 yk):=by rw [HBR.out.2.cell (p:=⟨g,q,none⟩) (cell_lt y0)];exact y0
    have yf1:wr.cell? ⟨g,q+1,none⟩=some (.int .u8 yo):=by rw [HBR.out.2.cell (p:=⟨g,q+1,none⟩) (cell_lt y1)];exact y1
    have yf2:wr.cell? ⟨g,q+2,none⟩=some (.int .i64 yw):=by rw [HBR.out.2.cell (p:=⟨g,q+2,none⟩) (cell_lt y2)];exact y2
    have yf3:wr.cell? ⟨g,q+3,none⟩=some (.string yn):=by rw [HBR.out.2.cell (p:=⟨g,q+3,none⟩) (cell_lt y3)];exact y3
    have yf4:wr.cell? ⟨g,q+4,none⟩=some (.slice ya ym yc):=by rw [HBR.out.2.cell (p:=⟨g,q+4,none⟩) (cell_lt y4)];exact y4
    have yf5:wr.cell? ⟨g,q+5,none⟩=some (.int .i64 yp):=by rw [HBR.out.2.cell (p:=⟨g,q+5,none⟩) (cell_lt y5)];exact y5
    clear y0 y1 y2 y3 y4 y5
    have k1:wr.cell? ⟨w.heap.size,1,none⟩=some (.int .u8 o):=by rw [cell_of_row _ _ 1 _ _ _ HBR.out.1];rfl
    have k4:wr.cell? ⟨w.heap.size,4,none⟩=some (.slice (some ⟨g,q,none⟩) 2 cap):=by rw [cell_of_row _ _ 4 _ _ _ HBR.out.1];rfl
    go_wp2_with fail
    go_still_tail 9,(by kernel_rfl)
    change wpList _ _ _ _ _ wr.drew
    clear yf0 yf1 yf2 yf3 yf4 yf5 k1 k4
    have HBD:Hid (Bw w 70 #[.int .u8 4,.int .u8 o,.int .i64 0,.string ⟨#[]⟩,.slice (some ⟨g,q,none⟩) 2 cap,.int .i64 ps] wr.drew):=⟨HBR.out.1.drewN 1,below_drewN HBR.out.2 1⟩
    obtain ⟨W1,hW1⟩:∃ W,W=wr.drew:=⟨_,rfl⟩
    rw [← hW1] at HBD ⊢
    clear hW1
    cases wy
    · rw [show d + b2i false = d by unfold b2i; simp] at HIY
      go_wp2_with (go_at_call 141;refine (HNY.out _).mono ?_;rintro e w3 ⟨rfl,hb3⟩;have HB3:=Lib.hid (bw_below HBD.out hb3);clear hb3;have k4:w3.cell? ⟨w.heap.size,4,none⟩=some (.slice (some ⟨g,q,none⟩) 2 cap):=(by rw [cell_of_row _ _ 4 _ _ _ HB3.out.1];rfl);have yg0:w3.cell? ⟨g,q,none⟩=some (.int .u8 yk):=(by rw [HB3.out.2.cell (p:=⟨g,q,none⟩) (cell_lt HYF.out.1)];exact HYF.out.1);have yg1:w3.cell? ⟨g,q+1,none⟩=some (.int .u8 yo):=(by rw [HB3.out.2.cell (p:=⟨g,q+1,none⟩) (cell_lt HYF.out.2.1)];exact HYF.out.2.1);have yg2:w3.cell? ⟨g,q+2,none⟩=some (.int .i64 yw):=(by rw [HB3.out.2.cell (p:=⟨g,q+2,none⟩) (cell_lt HYF.out.2.2.1)];exact HYF.out.2.2.1);have yg3:w3.cell? ⟨g,q+3,none⟩=some (.string yn):=(by rw [HB3.out.2.cell (p:=⟨g,q+3,none⟩) (cell_lt HYF.out.2.2.2.1)];exact HYF.out.2.2.2.1);have yg4:w3.cell? ⟨g,q+4,none⟩=some (.slice ya ym yc):=(by rw [HB3.out.2.cell (p:=⟨g,q+4,none⟩) (cell_lt HYF.out.2.2.2.2.1)];exact HYF.out.2.2.2.2.1);have yg5:w3.cell? ⟨g,q+5,none⟩=some (.int .i64 yp):=(by rw [HB3.out.2.cell (p:=⟨g,q+5,none⟩) (cell_lt HYF.out.2.2.2.2.2)];exact HYF.out.2.2.2.2.2);skip)
      cases r1
      · go_at_call 111
        refine (HIY.out _ HB3.out.2).mono ?_
        rintro e w4 ⟨rfl,hb4⟩
        have HB4:=Lib.hid (bw_below HB3.out hb4)
        clear hb4
        go_wp2_with fail
        go_ret
        exact ⟨rfl,HB4.out.2⟩
      · go_at_call 111
        refine (HIY.out _ HB3.out.2).mono ?_
        rintro e w4 ⟨rfl,hb4⟩
        have HB4:=Lib.hid (bw_below HB3.out hb4)
        clear hb4
        go_wp2_with fail
        go_roundg 2
        case measure=>have:=HM.out;omega
        case rel=>exact ⟨1,rfl,by omega,by omega,HB4.out,fun _=>by first | rfl | trivial,fun h=>by omega⟩
    · rw [show d + b2i true = d + 1 by unfold b2i; simp] at HIY
      go_wp2_with (go_at_call 141;refine (HNY.out _).mono ?_;rintro e w3 ⟨rfl,hb3⟩;have HB3:=Lib.hid (bw_below HBD.out hb3);clear hb3;have k4:w3.cell? ⟨w.heap.size,4,none⟩=some (.slice (some ⟨g,q,none⟩) 2 cap):=(by rw [cell_of_row _ _ 4 _ _ _ HB3.out.1];rfl);have yg0:w3.cell? ⟨g,q,none⟩=some (.int .u8 yk):=(by rw [HB3.out.2.cell (p:=⟨g,q,none⟩) (cell_lt HYF.out.1)];exact HYF.out.1);have yg1:w3.cell? ⟨g,q+1,none⟩=some (.int .u8 yo):=(by rw [HB3.out.2.cell (p:=⟨g,q+1,none⟩) (cell_lt HYF.out.2.1)];exact HYF.out.2.1);have yg2:w3.cell? ⟨g,q+2,none⟩=some (.int .i64 yw):=(by rw [HB3.out.2.cell (p:=⟨g,q+2,none⟩) (cell_lt HYF.out.2.2.1)];exact HYF.out.2.2.1);have yg3:w3.cell? ⟨g,q+3,none⟩=some (.string yn):=(by rw [HB3.out.2.cell (p:=⟨g,q+3,none⟩) (cell_lt HYF.out.2.2.2.1)];exact HYF.out.2.2.2.1);have yg4:w3.cell? ⟨g,q+4,none⟩=some (.slice ya ym yc):=(by rw [HB3.out.2.cell (p:=⟨g,q+4,none⟩) (cell_lt HYF.out.2.2.2.2.1)];exact HYF.out.2.2.2.2.1);have yg5:w3.cell? ⟨g,q+5,none⟩=some (.int .i64 yp):=(by rw [HB3.out.2.cell (p:=⟨g,q+5,none⟩) (cell_lt HYF.out.2.2.2.2.2)];exact HYF.out.2.2.2.2.2);skip)
      cases r1
      · go_at_call 111
        refine (HIY.out _ HB3.out.2).mono ?_
        rintro e w4 ⟨rfl,hb4⟩
        have HB4:=Lib.hid (bw_below HB3.out hb4)
        clear hb4
        go_wp2_with fail
        go_ret
        exact ⟨rfl,HB4.out.2⟩
      · go_at_call 111
        refine (HIY.out _ HB3.out.2).mono ?_
        rintro e w4 ⟨rfl,hb4⟩
        have HB4:=Lib.hid (bw_below HB3.out hb4)
        clear hb4
        go_wp2_with fail
        go_roundg 2
        case measure=>have:=HM.out;omega
        case rel=>exact ⟨1,rfl,by omega,by omega,HB4.out,fun _=>by first | rfl | trivial,fun h=>by omega⟩
  · have HR1 := Lib.hid (hq1 (by omega))
    clear hq1 hq2 hi
    obtain ⟨z0,z1,z2,z3,z4,z5⟩:=HZF.out
    have zf0:wr.cell? ⟨g,q+6,none⟩=some (.int .u8 zk):=by rw [HBR.out.2.cell (p:=⟨g,q+6,none⟩) (cell_lt z0)];exact z0
    have zf1:wr.cell? ⟨g,q+7,none⟩=some (.int .u8 zo):=by rw [HBR.out.2.cell (p:=⟨g,q+7,none⟩) (cell_lt z1)];exact z1
    have zf2:wr.cell? ⟨g,q+8,none⟩=some (.int .i64 zw):=by rw [HBR.out.2.cell (p:=⟨g,q+8,none⟩) (cell_lt z2)];exact z2
    have zf3:wr.cell? ⟨g,q+9,none⟩=some (.string zn):=by rw [HBR.out.2.cell (p:=⟨g,q+9,none⟩) (cell_lt z3)];exact z3
    have zf4:wr.cell? ⟨g,q+10,none⟩=some (.slice za zm zc):=by rw [HBR.out.2.cell (p:=⟨g,q+10,none⟩) (cell_lt z4)];exact z4
    have zf5:wr.cell? ⟨g,q+11,none⟩=some (.int .i64 zp):=by rw [HBR.out.2.cell (p:=⟨g,q+11,none⟩) (cell_lt z5)];exact z5
    clear z0 z1 z2 z3 z4 z5
    have k1:wr.cell? ⟨w.heap.size,1,none⟩=some (.int .u8 o):=by rw [cell_of_row _ _ 1 _ _ _ HBR.out.1];rfl
    have k4:wr.cell? ⟨w.heap.size,4,none⟩=some (.slice (some ⟨g,q,none⟩) 2 cap):=by rw [cell_of_row _ _ 4 _ _ _ HBR.out.1];rfl
    go_wp2_with fail
    go_still_tail 9,(by kernel_rfl)
    change wpList _ _ _ _ _ wr.drew
    clear zf0 zf1 zf2 zf3 zf4 zf5 k1 k4
    have HBD:Hid (Bw w 70 #[.int .u8 4,.int .u8 o,.int .i64 0,.string ⟨#[]⟩,.slice (some ⟨g,q,none⟩) 2 cap,.int .i64 ps] wr.drew):=⟨HBR.out.1.drewN 1,below_drewN HBR.out.2 1⟩
    obtain ⟨W1,hW1⟩:∃ W,W=wr.drew:=⟨_,rfl⟩
    rw [← hW1] at HBD ⊢
    clear hW1
    cases wz
    · rw [show d + b2i false = d by unfold b2i; simp] at HIZ
      go_wp2_with (go_at_call 141;refine (HNZ.out _).mono ?_;rintro e w3 ⟨rfl,hb3⟩;have HB3:=Lib.hid (bw_below HBD.out hb3);clear hb3;have k4:w3.cell? ⟨w.heap.size,4,none⟩=some (.slice (some ⟨g,q,none⟩) 2 cap):=(by rw [cell_of_row _ _ 4 _ _ _ HB3.out.1];rfl);have zg0:w3.cell? ⟨g,q+6,none⟩=some (.int .u8 zk):=(by rw [HB3.out.2.cell (p:=⟨g,q+6,none⟩) (cell_lt HZF.out.1)];exact HZF.out.1);have zg1:w3.cell? ⟨g,q+7,none⟩=some (.int .u8 zo):=(by rw [HB3.out.2.cell (p:=⟨g,q+7,none⟩) (cell_lt HZF.out.2.1)];exact HZF.out.2.1);have zg2:w3.cell? ⟨g,q+8,none⟩=some (.int .i64 zw):=(by rw [HB3.out.2.cell (p:=⟨g,q+8,none⟩) (cell_lt HZF.out.2.2.1)];exact HZF.out.2.2.1);have zg3:w3.cell? ⟨g,q+9,none⟩=some (.string zn):=(by rw [HB3.out.2.cell (p:=⟨g,q+9,none⟩) (cell_lt HZF.out.2.2.2.1)];exact HZF.out.2.2.2.1);have zg4:w3.cell? ⟨g,q+10,none⟩=some (.slice za zm zc):=(by rw [HB3.out.2.cell (p:=⟨g,q+10,none⟩) (cell_lt HZF.out.2.2.2.2.1)];exact HZF.out.2.2.2.2.1);have zg5:w3.cell? ⟨g,q+11,none⟩=some (.int .i64 zp):=(by rw [HB3.out.2.cell (p:=⟨g,q+11,none⟩) (cell_lt HZF.out.2.2.2.2.2)];exact HZF.out.2.2.2.2.2);skip)
      cases r2
      · go_at_call 111
        refine (HIZ.out _ HB3.out.2).mono ?_
        rintro e w4 ⟨rfl,hb4⟩
        have HB4:=Lib.hid (bw_below HB3.out hb4)
        clear hb4
        go_wp2_with fail
        go_ret
        exact ⟨by rw [HR1.out];rfl,HB4.out.2⟩
      · go_at_call 111
        refine (HIZ.out _ HB3.out.2).mono ?_
        rintro e w4 ⟨rfl,hb4⟩
        have HB4:=Lib.hid (bw_below HB3.out hb4)
        clear hb4
        go_wp2_with fail
        go_roundg 1
        case measure=>have:=HM.out;omega
        case rel=>exact ⟨2,rfl,by omega,by omega,HB4.out,fun _=>HR1.out,fun _=>by first | rfl | trivial⟩
    · rw [show d + b2i true = d + 1 by unfold b2i; simp] at HIZ
      go_wp2_with (go_at_call 141;refine (HNZ.out _).mono ?_;rintro e w3 ⟨rfl,hb3⟩;have HB3:=Lib.hid (bw_below HBD.out hb3);clear hb3;have k4:w3.cell? ⟨w.heap.size,4,none⟩=some (.slice (some ⟨g,q,none⟩) 2 cap):=(by rw [cell_of_row _ _ 4 _ _ _ HB3.out.1];rfl);have zg0:w3.cell? ⟨g,q+6,none⟩=some (.int .u8 zk):=(by rw [HB3.out.2.cell (p:=⟨g,q+6,none⟩) (cell_lt HZF.out.1)];exact HZF.out.1);have zg1:w3.cell? ⟨g,q+7,none⟩=some (.int .u8 zo):=(by rw [HB3.out.2.cell (p:=⟨g,q+7,none⟩) (cell_lt HZF.out.2.1)];exact HZF.out.2.1);have zg2:w3.cell? ⟨g,q+8,none⟩=some (.int .i64 zw):=(by rw [HB3.out.2.cell (p:=⟨g,q+8,none⟩) (cell_lt HZF.out.2.2.1)];exact HZF.out.2.2.1);have zg3:w3.cell? ⟨g,q+9,none⟩=some (.string zn):=(by rw [HB3.out.2.cell (p:=⟨g,q+9,none⟩) (cell_lt HZF.out.2.2.2.1)];exact HZF.out.2.2.2.1);have zg4:w3.cell? ⟨g,q+10,none⟩=some (.slice za zm zc):=(by rw [HB3.out.2.cell (p:=⟨g,q+10,none⟩) (cell_lt HZF.out.2.2.2.2.1)];exact HZF.out.2.2.2.2.1);have zg5:w3.cell? ⟨g,q+11,none⟩=some (.int .i64 zp):=(by rw [HB3.out.2.cell (p:=⟨g,q+11,none⟩) (cell_lt HZF.out.2.2.2.2.2)];exact HZF.out.2.2.2.2.2);skip)
      cases r2
      · go_at_call 111
        refine (HIZ.out _ HB3.out.2).mono ?_
        rintro e w4 ⟨rfl,hb4⟩
        have HB4:=Lib.hid (bw_below HB3.out hb4)
        clear hb4
        go_wp2_with fail
        go_ret
        exact ⟨by rw [HR1.out];rfl,HB4.out.2⟩
      · go_at_call 111
        refine (HIZ.out _ HB3.out.2).mono ?_
        rintro e w4 ⟨rfl,hb4⟩
        have HB4:=Lib.hid (bw_below HB3.out hb4)
        clear hb4
        go_wp2_with fail
        go_roundg 1
        case measure=>have:=HM.out;omega
        case rel=>exact ⟨2,rfl,by omega,by omega,HB4.out,fun _=>HR1.out,fun _=>by first | rfl | trivial⟩
  · have HR1 := Lib.hid (hq1 (by omega))
    have HR2:=Lib.hid (hq2 (by omega))
    clear hq1 hq2 hi
    go_wp2_with fail
    go_ret
    exact ⟨by rw [HR1.out,HR2.out];rfl,HBR.out.2⟩
theorem r_rightExpr:∀ x:Ex,RtE x:=by
 intro x
 have key:∀ x:Ex,(∀ y∈x.kids,RtE y)→RtE x:=by
  intro x HI hrg hft v w d hv hd0 hd1
  obtain ⟨a,cap,rfl,h1⟩:=hv
  obtain ⟨k,o,wd,n,ks,ps⟩:=x
  change ∀ y∈ks,RtE y at HI
  change exsAt _ w ks a at h1
  by_cases hd:d≤64
  · by_cases k1 : k = 1
    · subst k1;exact rt_1 hd0 hd hrg hft
    · by_cases k2 : k = 2
      · subst k2;exact rt_2 hd0 hd hrg hft
      · by_cases k3 : k = 3
        · subst k3;exact rt_3 hd0 hd hrg hft HI h1
        · by_cases k4 : k = 4
          · subst k4;exact rt_4 hd0 hd hrg hft HI h1
          · exact rt_0 hd0 hd hrg hft k1 k2 k3 k4
  · exact rt_deep hd
 have all:∀ l:List Ex,∀ y∈l,RtE y:=by
  intro l
  induction l using Exs.ind with
  | h0=>intro y hy;cases hy
  | h1 k o wd nm ks p r ih1 ih2 =>
    intro y hy
    rcases List.mem_cons.1 hy with rfl | hy
    · exact key _ ih1
    · exact ih2 y hy
 exact key x (all x.kids)
open Go.RowKit
set_option linter.unusedVariables false
structure Vz where
 pl:Addr
 nm:List Addr
def kAd (w:World) (g o:Nat):Nat × Nat:=match w.cell? ⟨g,o,none⟩ with
 | some (.slice (some ⟨h,q,_⟩) _ _)=>(h,q)
 | _=>(0,0)
theorem kAd_of {w:World} {g o h q n c:Nat} (hc:w.cell? ⟨g,o,none⟩=some (.slice (some ⟨h,q,none⟩) n c)):kAd w g o=(h,q):=by simp [kAd,hc]
mutual
def vE (w:World):Ex→Nat→Nat→List Vz
 | .mk k _ _ _ ks _,g,o=>⟨⟨g,o+5,none⟩,if k=2 then [⟨g,o+3,none⟩] else []⟩::vEs w ks (kAd w g (o+4)).1 (kAd w g (o+4)).2
def vEs (w:World):List Ex→Nat→Nat→List Vz
 | [],_,_=>[]
 | e::r,g,o=>vE w e g o++vEs w r g (o+6)
end
mutual
def vS (w:World):St→Nat→Nat→List Vz
 | .mk _ _ _ e b l _,g,o=>⟨⟨g,o+6,none⟩,[⟨g,o+1,none⟩,⟨g,o+2,none⟩]⟩::(vEs w e (kAd w g (o+3)).1 (kAd w g (o+3)).2++(vSs w b (kAd w g (o+4)).1 (kAd w g (o+4)).2++vSs w l (kAd w g (o+5)).1 (kAd w g (o+5)).2))
def vSs (w:World):List St→Nat→Nat→List Vz
 | [],_,_=>[]
 | e::r,g,o=>vS w e g o++vSs w r g (o+7)
end
def vD (w:World):Dc→Nat→Nat→List Vz
 | _,g,o=>[⟨⟨g,o+2,none⟩,[⟨g,o,none⟩]⟩]
def vDs (w:World):List Dc→Nat→Nat→List Vz
 | [],_,_=>[]
 | e::r,g,o=>vD w e g o++vDs w r g (o+3)
def vT (w:World):Th→Nat→Nat→List Vz
 | t,g,o=>⟨⟨g,o+3,none⟩,[⟨g,o,none⟩]⟩::(vDs w t.locals (kAd w g (o+1)).1 (kAd w g (o+1)).2++vSs w t.body (kAd w g (o+2)).1 (kAd w g (o+2)).2)
def vTs (w:World):List Th→Nat→Nat→List Vz
 | [],_,_=>[]
 | e::r,g,o=>vT w e g o++vTs w r g (o+4)
def vEsA (w:World) (l:List Ex) (a:Option Addr):List Vz:=match a with
 | some ⟨g,q,_⟩=>vEs w l g q
 | none=>[]
theorem vEsA_nil (w:World) (a:Option Addr):vEsA w [] a=[]:=by cases a <;> rfl
theorem vEs_app (w:World):∀ (a b:List Ex) (g o:Nat),vEs w (a++b) g o=vEs w a g o++vEs w b g (o+a.length*6)
 | [],b,g,o=>by simp [vEs]
 | x :: r, b, g, o => by
   rw [List.cons_append,vEs,vEs,vEs_app w r b g (o+6),List.append_assoc,List.length_cons,show o+6+r.length*6=o+(r.length+1)*6 by omega]
theorem vEs_take (w:World) (l:List Ex) (i g o:Nat) (x:Ex) (h:l[i]? = some x):vEs w (l.take (i+1)) g o=vEs w (l.take i) g o++vE w x g (o+i*6):=by
 have hl:=(List.getElem?_eq_some_iff.1 h).1
 have hx:=(List.getElem?_eq_some_iff.1 h).2
 rw [List.take_succ_eq_append_getElem hl,vEs_app,List.length_take,Nat.min_eq_left (by omega),hx]
 simp [vEs]
theorem kE_of {R:Nat→Prop} {w:World} {l:List Ex} {g o n c:Nat} {a:Option Addr} (hc:w.cell? ⟨g,o,none⟩=some (.slice a n c)) (h:exsAt R w l a):vEs w l (kAd w g o).1 (kAd w g o).2=vEsA w l a:=by
 rcases h with h | ⟨g',q,rfl,_⟩
 · obtain rfl : l = [] := by simpa using h
   rw [vEsA_nil];rfl
 · rw [kAd_of hc];rfl
def vSsA (w:World) (l:List St) (a:Option Addr):List Vz:=match a with
 | some ⟨g,q,_⟩=>vSs w l g q
 | none=>[]
theorem vSsA_nil (w:World) (a:Option Addr):vSsA w [] a=[]:=by cases a <;> rfl
theorem vSs_app (w:World):∀ (a b:List St) (g o:Nat),vSs w (a++b) g o=vSs w a g o++vSs w b g (o+a.length*7)
 | [],b,g,o=>by simp [vSs]
 | x :: r, b, g, o => by
   rw [List.cons_append,vSs,vSs,vSs_app w r b g (o+7),List.append_assoc,List.length_cons,show o+7+r.length*7=o+(r.length+1)*7 by omega]
theorem vSs_take (w:World) (l:List St) (i g o:Nat) (x:St) (h:l[i]? = some x):vSs w (l.take (i+1)) g o=vSs w (l.take i) g o++vS w x g (o+i*7):=by
 have hl:=(List.getElem?_eq_some_iff.1 h).1
 have hx:=(List.getElem?_eq_some_iff.1 h).2
 rw [List.take_succ_eq_append_getElem hl,vSs_app,List.length_take,Nat.min_eq_left (by omega),hx]
 simp [vSs]
theorem kS_of {R:Nat→Prop} {w:World} {l:List St} {g o n c:Nat} {a:Option Addr} (hc:w.cell? ⟨g,o,none⟩=some (.slice a n c)) (h:stsAt R w l a):vSs w l (kAd w g o).1 (kAd w g o).2=vSsA w l a:=by
 rcases h with h | ⟨g',q,rfl,_⟩
 · obtain rfl : l = [] := by simpa using h
   rw [vSsA_nil];rfl
 · rw [kAd_of hc];rfl
def vDsA (w:World) (l:List Dc) (a:Option Addr):List Vz:=match a with
 | some ⟨g,q,_⟩=>vDs w l g q
 | none=>[]
theorem vDsA_nil (w:World) (a:Option Addr):vDsA w [] a=[]:=by cases a <;> rfl
theorem vDs_app (w:World):∀ (a b:List Dc) (g o:Nat),vDs w (a++b) g o=vDs w a g o++vDs w b g (o+a.length*3)
 | [],b,g,o=>by simp [vDs]
 | x :: r, b, g, o => by
   rw [List.cons_append,vDs,vDs,vDs_app w r b g (o+3),List.append_assoc,List.length_cons,show o+3+r.length*3=o+(r.length+1)*3 by omega]
theorem vDs_take (w:World) (l:List Dc) (i g o:Nat) (x:Dc) (h:l[i]? = some x):vDs w (l.take (i+1)) g o=vDs w (l.take i) g o++vD w x g (o+i*3):=by
 have hl:=(List.getElem?_eq_some_iff.1 h).1
 have hx:=(List.getElem?_eq_some_iff.1 h).2
 rw [List.take_succ_eq_append_getElem hl,vDs_app,List.length_take,Nat.min_eq_left (by omega),hx]
 simp [vDs]
theorem kD_of {R:Nat→Prop} {w:World} {l:List Dc} {g o n c:Nat} {a:Option Addr} (hc:w.cell? ⟨g,o,none⟩=some (.slice a n c)) (h:dcsAt R w l a):vDs w l (kAd w g o).1 (kAd w g o).2=vDsA w l a:=by
 rcases h with h | ⟨g',q,rfl,_⟩
 · obtain rfl : l = [] := by simpa using h
   rw [vDsA_nil];rfl
 · rw [kAd_of hc];rfl
def vTsA (w:World) (l:List Th) (a:Option Addr):List Vz:=match a with
 | some ⟨g,q,_⟩=>vTs w l g q
 | none=>[]
theorem vTsA_nil (w:World) (a:Option Addr):vTsA w [] a=[]:=by cases a <;> rfl
theorem vTs_app (w:World):∀ (a b:List Th) (g o:Nat),vTs w (a++b) g o=vTs w a g o++vTs w b g (o+a.length*4)
 | [],b,g,o=>by simp [vTs]
 | x :: r, b, g, o => by
   rw [List.cons_append,vTs,vTs,vTs_app w r b g (o+4),List.append_assoc,List.length_cons,show o+4+r.length*4=o+(r.length+1)*4 by omega]
theorem vTs_take (w:World) (l:List Th) (i g o:Nat) (x:Th) (h:l[i]? = some x):vTs w (l.take (i+1)) g o=vTs w (l.take i) g o++vT w x g (o+i*4):=by
 have hl:=(List.getElem?_eq_some_iff.1 h).1
 have hx:=(List.getElem?_eq_some_iff.1 h).2
 rw [List.take_succ_eq_append_getElem hl,vTs_app,List.length_take,Nat.min_eq_left (by omega),hx]
 simp [vTs]
def preN (u:Value):Prop:=(∃ n,u=.int .u8 n)∨∃ s,u=.string s
def isPl (w:World) (g o:Nat):Prop:=∃ q u,o=q+1∧w.cell? ⟨g,q,none⟩=some u∧¬ preN u
structure Vok (R:Nat→Prop) (w:World) (v:Vz):Prop where
 reg:R v.pl.block
 pl:∃ n,w.cell? v.pl=some (.int .i64 n)
 spot:v.pl.spot=none
 is:isPl w v.pl.block v.pl.off
 nm:∀ a∈v.nm,R a.block∧a.spot=none∧∃ s,w.cell? a=some (.string s)
def NmS (w0 W:World) (l:List Addr) (s:Value):Prop:=(l=[]∧s=.slice none 0 0)∨∃ b,s=.slice (some ⟨b,0,none⟩) l.length l.length∧w0.heap.size≤b∧b<W.heap.size∧∀ i x,l[i]? = some x→W.cell? ⟨b,i,none⟩=some (.pointer (some x))
def Sk (w0 W:World):Prop:=w0.heap.size≤W.heap.size∧∀ g o v,w0.cell? ⟨g,o,none⟩=some v→(∃ k,v=.int .u8 k)∨(∃ a l c,v=.slice a l c)→W.cell? ⟨g,o,none⟩=some v
theorem Sk.u8 {w0 W:World} (h:Sk w0 W) {g o:Nat} {k:Int} (hc:w0.cell? ⟨g,o,none⟩=some (.int .u8 k)):W.cell? ⟨g,o,none⟩=some (.int .u8 k):=h.2 _ _ _ hc (.inl ⟨_,rfl⟩)
theorem Sk.sl {w0 W:World} (h:Sk w0 W) {g o l c:Nat} {a:Option Addr} (hc:w0.cell? ⟨g,o,none⟩=some (.slice a l c)):W.cell? ⟨g,o,none⟩=some (.slice a l c):=h.2 _ _ _ hc (.inr ⟨_,_,_,rfl⟩)
theorem sl_pre {a:Option Addr} {l c:Nat} : ¬ preN (.slice a l c):=fun h=>by rcases h with ⟨_,h⟩ | ⟨_,h⟩ <;> cases h
theorem wd_pre {n:Int} : ¬ preN (.int .i64 n):=fun h=>by rcases h with ⟨_,h⟩ | ⟨_,h⟩ <;> cases h
theorem vok_ex {R:Nat→Prop} {w:World} {k ps:Int} {nm:ByteArray} {g q kl kc:Nat} {ka:Option Addr} (hg:R g) (c3:w.cell? ⟨g,q+3,none⟩=some (.string nm)) (c4:w.cell? ⟨g,q+4,none⟩=some (.slice ka kl kc)) (c5:w.cell? ⟨g,q+5,none⟩=some (.int .i64 ps)):Vok R w ⟨⟨g,q+5,none⟩,if k=2 then [⟨g,q+3,none⟩] else []⟩ :=
 ⟨hg,⟨_,c5⟩,rfl,⟨q+4,_,rfl,c4,sl_pre⟩,fun a ha=>by
  split at ha
  · obtain rfl : a = ⟨g, q + 3, none⟩ := by simpa using ha
    exact ⟨hg,rfl,_,c3⟩
  · cases ha⟩
theorem vok_st {R:Nat→Prop} {w:World} {ps:Int} {n1 n2:ByteArray} {g q kl kc:Nat} {ka:Option Addr} (hg:R g) (c1:w.cell? ⟨g,q+1,none⟩=some (.string n1)) (c2:w.cell? ⟨g,q+2,none⟩=some (.string n2)) (c5:w.cell? ⟨g,q+5,none⟩=some (.slice ka kl kc)) (c6:w.cell? ⟨g,q+6,none⟩=some (.int .i64 ps)):Vok R w ⟨⟨g,q+6,none⟩,[⟨g,q+1,none⟩,⟨g,q+2,none⟩]⟩ :=
 ⟨hg,⟨_,c6⟩,rfl,⟨q+5,_,rfl,c5,sl_pre⟩,fun a ha=>by
  simp only [List.mem_cons,List.not_mem_nil,or_false] at ha
  rcases ha with rfl | rfl
  · exact ⟨hg,rfl,_,c1⟩
  · exact ⟨hg,rfl,_,c2⟩⟩
theorem vok_dc {R:Nat→Prop} {w:World} {wd ps:Int} {nm:ByteArray} {g q:Nat} (hg:R g) (c0:w.cell? ⟨g,q,none⟩=some (.string nm)) (c1:w.cell? ⟨g,q+1,none⟩=some (.int .i64 wd)) (c2:w.cell? ⟨g,q+2,none⟩=some (.int .i64 ps)):Vok R w ⟨⟨g,q+2,none⟩,[⟨g,q,none⟩]⟩ :=
 ⟨hg,⟨_,c2⟩,rfl,⟨q+1,_,rfl,c1,wd_pre⟩,fun a ha=>by
  obtain rfl:a=⟨g,q,none⟩:=by simpa using ha
  exact ⟨hg,rfl,_,c0⟩⟩
theorem vok_th {R:Nat→Prop} {w:World} {ps:Int} {nm:ByteArray} {g q kl kc:Nat} {ka:Option Addr} (hg:R g) (c0:w.cell? ⟨g,q,none⟩=some (.string nm)) (c2:w.cell? ⟨g,q+2,none⟩=some (.slice ka kl kc)) (c3:w.cell? ⟨g,q+3,none⟩=some (.int .i64 ps)):Vok R w ⟨⟨g,q+3,none⟩,[⟨g,q,none⟩]⟩ :=
 ⟨hg,⟨_,c3⟩,rfl,⟨q+2,_,rfl,c2,sl_pre⟩,fun a ha=>by
  obtain rfl:a=⟨g,q,none⟩:=by simpa using ha
  exact ⟨hg,rfl,_,c0⟩⟩
theorem nms_one {w0 W:World} {x:Addr} {T:TypeId} (h:w0.heap.size≤W.heap.size):NmS w0 (W.alloc (.cells #[.pointer (some x)] T)) [x] (.slice (some ⟨W.heap.size,0,none⟩) 1 1) :=
 .inr ⟨W.heap.size,rfl,h,by simp,fun i y hy=>by
  cases i with
  | zero => obtain rfl : x = y := by simpa using hy
            rw [cell_of_row _ _ 0 _ _ _ (Own.new W T #[.pointer (some x)])];rfl
  | succ i=>simp at hy⟩
theorem nms_two {w0 W:World} {x y:Addr} {T:TypeId} (h:w0.heap.size≤W.heap.size):NmS w0 (W.alloc (.cells #[.pointer (some x),.pointer (some y)] T)) [x,y] (.slice (some ⟨W.heap.size,0,none⟩) 2 2) :=
 .inr ⟨W.heap.size,rfl,h,by simp,fun i z hz=>by
  match i,hz with
  | 0, hz => obtain rfl : x = z := by simpa using hz
             rw [cell_of_row _ _ 0 _ _ _ (Own.new W T #[.pointer (some x),.pointer (some y)])];rfl
  | 1, hz => obtain rfl : y = z := by simpa using hz
             rw [cell_of_row _ _ 1 _ _ _ (Own.new W T #[.pointer (some x),.pointer (some y)])];rfl
  | i+2,hz=>simp at hz⟩
theorem nms_none {w0 W:World} : NmS w0 W [] (.slice none 0 0):=.inl ⟨rfl,rfl⟩
open Go.RowKit
set_option linter.unusedVariables false
theorem vEsA_split (w:World) (l:List Ex) (k:Nat) (a:Option Addr):∃ r,vEsA w l a=vEsA w (l.take k) a++r:=by
 cases a with
 | none=>exact ⟨[],rfl⟩
 | some p =>
   obtain ⟨g,q,s⟩:=p
   refine ⟨vEs w (l.drop k) g (q+(l.take k).length*6),?_⟩
   show vEs w l g q=vEs w (l.take k) g q++_
   conv=>lhs;rw [← List.take_append_drop k l,vEs_app]
theorem vSsA_split (w:World) (l:List St) (k:Nat) (a:Option Addr):∃ r,vSsA w l a=vSsA w (l.take k) a++r:=by
 cases a with
 | none=>exact ⟨[],rfl⟩
 | some p =>
   obtain ⟨g,q,s⟩:=p
   refine ⟨vSs w (l.drop k) g (q+(l.take k).length*7),?_⟩
   show vSs w l g q=vSs w (l.take k) g q++_
   conv=>lhs;rw [← List.take_append_drop k l,vSs_app]
theorem vDsA_split (w:World) (l:List Dc) (k:Nat) (a:Option Addr):∃ r,vDsA w l a=vDsA w (l.take k) a++r:=by
 cases a with
 | none=>exact ⟨[],rfl⟩
 | some p =>
   obtain ⟨g,q,s⟩:=p
   refine ⟨vDs w (l.drop k) g (q+(l.take k).length*3),?_⟩
   show vDs w l g q=vDs w (l.take k) g q++_
   conv=>lhs;rw [← List.take_append_drop k l,vDs_app]
theorem vTsA_split (w:World) (l:List Th) (k:Nat) (a:Option Addr):∃ r,vTsA w l a=vTsA w (l.take k) a++r:=by
 cases a with
 | none=>exact ⟨[],rfl⟩
 | some p =>
   obtain ⟨g,q,s⟩:=p
   refine ⟨vTs w (l.drop k) g (q+(l.take k).length*4),?_⟩
   show vTs w l g q=vTs w (l.take k) g q++_
   conv=>lhs;rw [← List.take_append_drop k l,vTs_app]
open Go.RowKit
set_option linter.unusedVariables false
mutual
def ctE:Ex→Nat | .mk _ _ _ _ ks _=>ctEs ks+1
def ctEs:List Ex→Nat | []=>0 | x::r=>ctE x+ctEs r
end
mutual
def ctS:St→Nat | .mk _ _ _ e b l _=>ctEs e+ctSs b+ctSs l+1
def ctSs:List St→Nat | []=>0 | x::r=>ctS x+ctSs r
end
def ctTs:List Th→Nat | []=>0 | x::r=>x.locals.length+ctSs x.body+1+ctTs r
def ctP (p:Pg):Nat:=p.shared.length+p.locks.length+ctTs p.threads
theorem vEs_ct (w:World):∀ (l:List Ex) (g o:Nat),(vEs w l g o).length=ctEs l:=by
 intro l
 induction l using Exs.ind with
 | h0=>intro g o;rfl
 | h1 k op wd nm ks p r ih1 ih2 =>
   intro g o
   simp only [vEs,vE,ctEs,ctE,List.length_append,List.length_cons,ih1,ih2]
theorem vSs_ct (w:World):∀ (l:List St) (g o:Nat),(vSs w l g o).length=ctSs l:=by
 intro l
 induction l using Sts.ind with
 | h0=>intro g o;rfl
 | h1 k n ot e b l p r ih1 ih2 ih3 =>
   intro g o
   simp only [vSs,vS,ctSs,ctS,List.length_append,List.length_cons,vEs_ct,ih1,ih2,ih3]
   omega
theorem vDs_ct (w:World):∀ (l:List Dc) (g o:Nat),(vDs w l g o).length=l.length
 | [],_,_=>rfl
 | x :: r, g, o => by
   simp only [vDs,vD,List.length_append,List.length_cons,List.length_nil,vDs_ct w r];omega
theorem vTs_ct (w:World):∀ (l:List Th) (g o:Nat),(vTs w l g o).length=ctTs l
 | [],_,_=>rfl
 | x :: r, g, o => by
   simp only [vTs,vT,ctTs,List.length_append,List.length_cons,vTs_ct w r,vDs_ct,vSs_ct]
theorem vDsA_ct (w:World) (l:List Dc) (a:Option Addr):(vDsA w l a).length≤l.length:=by
 cases a with
 | none=>exact Nat.zero_le _
 | some p=>exact Nat.le_of_eq (vDs_ct w l _ _)
theorem vTsA_ct (w:World) (l:List Th) (a:Option Addr):(vTsA w l a).length≤ctTs l:=by
 cases a with
 | none=>exact Nat.zero_le _
 | some p=>exact Nat.le_of_eq (vTs_ct w l _ _)
theorem vP_ct (w:World) {x:Pg} (h:ctP x≤1048576) (a1 a2 a3:Option Addr):(vDsA w x.shared a1++vDsA w x.locks a2++vTsA w x.threads a3).length≤1048576:=by
 have h1:=vDsA_ct w x.shared a1
 have h2:=vDsA_ct w x.locks a2
 have h3:=vTsA_ct w x.threads a3
 unfold ctP at h
 simp only [List.length_append];omega
theorem ctEs_bk:∀ l:List Ex,ctEs l≤bkEs l:=by
 intro l
 induction l using Exs.ind with
 | h0=>exact Nat.le_refl _
 | h1 k op wd nm ks p r ih1 ih2=>simp only [ctEs,ctE,bkEs,bkE];omega
theorem ctSs_bk:∀ l:List St,ctSs l≤bkSs l:=by
 intro l
 induction l using Sts.ind with
 | h0=>exact Nat.le_refl _
 | h1 k n ot e b l p r ih1 ih2 ih3 =>
   have:=ctEs_bk e
   simp only [ctSs,ctS,bkSs,bkS];omega
theorem ctTs_bk:∀ l:List Th,ctTs l≤bkTs l
 | []=>Nat.le_refl _
 | x :: r => by
   have h1:=ctTs_bk r
   have h2:=bkDs_len x.locals
   have h3:=ctSs_bk x.body
   simp only [ctTs,bkTs,bkT];omega
theorem ctP_bk (x:Pg):ctP x≤bkP x:=by
 have h1:=bkDs_len x.shared
 have h2:=bkDs_len x.locks
 have h3:=ctTs_bk x.threads
 unfold ctP bkP;omega
end Go.Proofs.YtimccjlhhjjcpaaGreatDoor

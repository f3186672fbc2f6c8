/- The proof, part 42: texts that belong together, in one. -/
import Derived.Test.YtggbkldniffbfaaGreatDoorSBN
import Derived.Test.YtggbkldniffbfaaGreatDoorSBO
import Derived.Test.YtggbkldniffbfaaGreatDoorSBM
import Derived.Test.YtggbkldniffbfaaGreatDoorSAA
import Derived.ChangeArms
import Derived.SizedLaws
import Derived.Carry
import Derived.ChangeSame
import Derived.WideShapes
import Derived.ChangeSlices
set_option maxRecDepth 100000
set_option maxHeartbeats 20000000
namespace Go.Proofs.YtggbkldniffbfaaGreatDoor
open Go.RowKit
set_option linter.unusedVariables false
set_option maxRecDepth 100000
def TB (x:Pg) (ea:Ex) (w:World) (rp re:Array Value) (W:World):Prop:=Own W w.heap.size 25 rp∧Own W (w.heap.size+1) 30 re∧pA W x (.agg rp)∧exV (fun _=>True) W ea re.toList∧WTb W∧Below w.heap.size w W
theorem tb_below {x:Pg} {ea:Ex} {w W W':World} {rp re:Array Value} (h:TB x ea w rp re W) (hb:Below W.heap.size W W'):TB x ea w rp re W':=by
 obtain ⟨h1,h2,h3,⟨a,c,h4,h4'⟩,h5,h6⟩:=h
 exact ⟨h1.below hb,h2.below hb,pA_below h3 hb,⟨a,c,h4,exsAt_below h4' hb⟩,h5.below hb,h6.trans (hb.mono h6.size)⟩
theorem exA_below4 {w w':World} {e:Ex} {v:Value} (h:exA w e v) (hb:Below w.heap.size w w'):exA w' e v:=by
 obtain ⟨a,cap,h1,h2⟩:=h
 exact ⟨a,cap,h1,exsAt_below h2 hb⟩
theorem mk_cases (ok:Bool) (t:List UInt8):(ok=true∧t.length≤65536∧mkY ok t=.inl t)∨(∃ m,(m=4∨m=40)∧mkY ok t=.inr m):=by
 cases ok with
 | false=>exact .inr ⟨40,.inr rfl,rfl⟩
 | true =>
   by_cases h:t.length≤65536
   · exact .inl ⟨rfl,h,by simp [mkY,h]⟩
   · exact .inr ⟨4,.inl rfl,by simp [mkY,h]⟩
theorem back_walk (x:Pg) (ea:Ex) (okx:PrOk x) (oka:okgE ea) {v1 v2:Value} {w:World} (hx:pA w x v1) (ha:exA w ea v2) (TT:WTb w) :
 Calls Tryz.prog 3 #[v1,v2] w fun e w'=>e=.returned (.bool true)∧Below w.heap.size w w':=by
 have HBG:Hid (∀ W,WTb W→Calls Tryz.prog 6 #[] W fun e w'=>e=.returned (.bool true)∧Below W.heap.size W w'):=fun W T=>p_begins4 T
 have HPR:Hid (∀ W v,pA W x v→WTb W→Calls Tryz.prog 7 #[v] W (AttP W (mkY (rP x) (tP x)))):=fun W v h T=>p_Print okx h T
 have HEX:Hid (∀ W v,exA W ea v→WTb W→Calls Tryz.prog 10 #[v] W (AttP W (mkY (rE ea 0) (tE ea)))):=fun W v h T=>p_Expr4 oka.2 h T
 have HRM:Hid (∀ W y v u,pA W x v→pA W y u→Calls Tryz.prog 9 #[v,u] W fun e w'=>e=.returned (.bool (samePg x y))∧Below W.heap.size W w'):=fun W y v u h1 h2=>r_SameG x okx.1 y h1 h2
 have HRE:Hid (∀ W eb v u,exA W ea v→exA W eb u→Calls Tryz.prog 12 #[v,u] W fun e w'=>e=.returned (.bool (sameE ea eb))∧Below W.heap.size W w'):=fun W eb v u h1 h2=>r_same ea oka.1 eb v u W h1 h2
 have hPY:(∃ t y,mkY (rP x) (tP x)=.inl t∧samePg x y=true∧∀ W,WTb W→Calls Tryz.prog 8 #[.string ⟨t.toArray⟩] W fun e w'=>∃ b1 d1 b2 d2 b3 d3,e=.returned (.tuple #[.agg #[.slice b1 y.shared.length d1,.slice b2 y.locks.length d2,.slice b3 y.threads.length d3],.int .i64 0,.agg #[.int .i64 0,.int .i64 0]])∧pA w' y (.agg #[.slice b1 y.shared.length d1,.slice b2 y.locks.length d2,.slice b3 y.threads.length d3])∧Below W.heap.size W w')∨(∃ m,(m=4∨m=40)∧mkY (rP x) (tP x)=.inr m):=by
  rcases mk_cases (rP x) (tP x) with ⟨h1,h2,h3⟩ | h
  · obtain ⟨y, s1, s2⟩ := said_P_back h1 okx.2.1 okx.2.2.1 h2
    refine .inl ⟨_,y,h3,s2,fun W TW=>(p_Parse _ TW.pt.1.1 TW.pt.1.2).mono fun e w' hh=>?_⟩
    rw [s1] at hh
    obtain ⟨hb,v,rfl,hv⟩:=hh
    have hpa:=pA_of hv
    obtain ⟨b1,d1,b2,d2,b3,d3,rfl,_⟩:=hv
    exact ⟨b1,d1,b2,d2,b3,d3,rfl,hpa,hb⟩
  · exact .inr h
 have hEY:(∃ t f,mkY (rE ea 0) (tE ea)=.inl t∧sameE ea f=true∧∀ W,WTb W→Calls Tryz.prog 11 #[.string ⟨t.toArray⟩] W fun e w'=>∃ a c,e=.returned (.tuple #[.agg #[.int .u8 f.kind,.int .u8 f.op,.int .i64 f.wd,.string f.name,.slice a f.kids.length c,.int .i64 f.pos],.int .i64 0,.agg #[.int .i64 0,.int .i64 0]])∧exA w' f (.agg #[.int .u8 f.kind,.int .u8 f.op,.int .i64 f.wd,.string f.name,.slice a f.kids.length c,.int .i64 f.pos])∧Below W.heap.size W w')∨(∃ m,(m=4∨m=40)∧mkY (rE ea 0) (tE ea)=.inr m):=by
  rcases mk_cases (rE ea 0) (tE ea) with ⟨h1,h2,h3⟩ | h
  · obtain ⟨f, s1, s2⟩ := said_E_back h1 oka.2 h2
    refine .inl ⟨_,f,h3,s2,fun W TW=>(p_Expr _ TW.pt.1.1 TW.pt.1.2).mono fun e w' hh=>?_⟩
    rw [s1] at hh
    obtain ⟨hb,v,rfl,hv⟩:=hh
    have hxa:=exA_of hv
    obtain ⟨a,c,rfl,_⟩:=hv
    exact ⟨a,c,rfl,hxa,hb⟩
  · exact .inr h
 have HPY:=Lib.hid hPY
 have HEY:=Lib.hid hEY
 clear hPY hEY okx oka
 obtain ⟨a1,c1,a2,c2,a3,c3,rfl,p1,p2,p3⟩:=hx
 obtain ⟨ka,kc,rfl,p4⟩:=ha
 have HB0:TB x ea w #[.slice a1 x.shared.length c1,.slice a2 x.locks.length c2,.slice a3 x.threads.length c3] #[.int .u8 ea.kind,.int .u8 ea.op,.int .i64 ea.wd,.string ea.name,.slice ka ea.kids.length kc,.int .i64 ea.pos] ((w.alloc (.cells #[.slice a1 x.shared.length c1,.slice a2 x.locks.length c2,.slice a3 x.threads.length c3] 25)).alloc (.cells #[.int .u8 ea.kind,.int .u8 ea.op,.int .i64 ea.wd,.string ea.name,.slice ka ea.kids.length kc,.int .i64 ea.pos] 30)):=by
  have B:=((Below.refl w.heap.size w).alloc (Nat.le_refl _) (.cells #[.slice a1 x.shared.length c1,.slice a2 x.locks.length c2,.slice a3 x.threads.length c3] 25)).alloc (by simp only [World.size_alloc];omega) (.cells #[.int .u8 ea.kind,.int .u8 ea.op,.int .i64 ea.wd,.string ea.name,.slice ka ea.kids.length kc,.int .i64 ea.pos] 30)
  have O2:=Own.new (w.alloc (.cells #[.slice a1 x.shared.length c1,.slice a2 x.locks.length c2,.slice a3 x.threads.length c3] 25)) 30 #[.int .u8 ea.kind,.int .u8 ea.op,.int .i64 ea.wd,.string ea.name,.slice ka ea.kids.length kc,.int .i64 ea.pos]
  rw [World.size_alloc] at O2
  exact ⟨(Own.new w _ _).alloc _,O2,⟨a1,c1,a2,c2,a3,c3,rfl,dcsAt_below p1 B,dcsAt_below p2 B,thsAt_below p3 B⟩,⟨ka,kc,rfl,exsAt_below p4 B⟩,TT.below B,B⟩
 have hEA:∀ (W:World) (r:Array Value),exV (fun _=>True) W ea r.toList→exA W ea (.agg r):=fun W r h=>by
  obtain ⟨a,c,h1,h2⟩:=h
  refine ⟨a,c,?_,h2⟩
  rw [show r=(exCells ea a c).toArray by rw [← h1]]
  rfl
 have HEA:=Lib.hid hEA
 clear p1 p2 p3 p4 TT hEA
 generalize x.shared.length=n1 at HB0
 generalize x.locks.length=n2 at HB0
 generalize x.threads.length=n3 at HB0
 generalize ea.kids.length=kn at HB0
 generalize ea.kind=k at HB0
 generalize ea.op=o at HB0
 generalize ea.wd=wd at HB0
 generalize ea.name=nm at HB0
 generalize ea.pos=ps at HB0
 obtain ⟨W0,hW0⟩:∃ W,W=(w.alloc (.cells #[.slice a1 n1 c1,.slice a2 n2 c2,.slice a3 n3 c3] 25)).alloc (.cells #[.int .u8 k,.int .u8 o,.int .i64 wd,.string nm,.slice ka kn kc,.int .i64 ps] 30):=⟨_,rfl⟩
 rw [← hW0] at HB0
 have HB0:=Lib.hid HB0
 have HW0:=Lib.hid hW0
 clear hW0
 go_enter Tryz.func3,Tryz.ntmps3
 go_upto_region 1 with (fail)
 rw [← HW0.out]
 go_wp2_with fail
 go_at_call 6
 refine (HBG.out _ HB0.out.2.2.2.2.1).mono ?_
 rintro e w1 ⟨rfl,hb⟩
 have HB1:=Lib.hid (tb_below HB0.out hb)
 have OP:=HB1.out.1
 clear hb HB0 HW0
 go_wp2_with (refine ld rowPg rfl rfl rfl OP rfl ?_)
 go_at_call 7
 refine (HPR.out _ _ HB1.out.2.2.1 HB1.out.2.2.2.2.1).mono ?_
 rintro e w2 ⟨hb,rfl⟩
 have HB2:=Lib.hid (tb_below HB1.out hb)
 clear hb OP HB1
 rcases HPY.out with ⟨t,y,hY,hs,hP⟩ | ⟨m,hm,hY⟩
 · rw [hY]
   have HP:=Lib.hid hP
   have HS:=Lib.hid hs
   clear hP hs hY HPY
   go_wp2_with fail
   go_at_call 8
   refine (HP.out _ HB2.out.2.2.2.2.1).mono ?_
   rintro e w3 ⟨b1,d1,b2,d2,b3,d3,rfl,hpy,hb⟩
   have HB3:=Lib.hid (tb_below HB2.out hb)
   have HPYA:=Lib.hid hpy
   clear hb hpy HB2
   generalize y.shared.length=m1 at HPYA
   generalize y.locks.length=m2 at HPYA
   generalize y.threads.length=m3 at HPYA
   have B1:Below w3.heap.size w3 ((w3.alloc (.cells #[.slice none 0 0,.slice none 0 0,.slice none 0 0] 25)).alloc (.cells #[.int .i64 0,.int .i64 0] 36)):=((Below.refl _ w3).alloc (Nat.le_refl _) _).alloc (by simp only [World.size_alloc];omega) _
   have O1:=(Own.new w3 25 #[.slice none 0 0,.slice none 0 0,.slice none 0 0]).alloc (.cells #[.int .i64 0,.int .i64 0] 36)
   have O2:=(Own.new (w3.alloc (.cells #[.slice none 0 0,.slice none 0 0,.slice none 0 0] 25)) 36 #[.int .i64 0,.int .i64 0]).other (g:=w3.heap.size) #[.slice b1 m1 d1,.slice b2 m2 d2,.slice b3 m3 d3] (by simp only [World.size_alloc];omega)
   rw [World.size_alloc] at O2
   have B2:=Below.of_row (Below.of_row B1 (g:=w3.heap.size) (Nat.le_refl _) #[.slice b1 m1 d1,.slice b2 m2 d2,.slice b3 m3 d3]) (g:=w3.heap.size+1) (by omega) #[.int .i64 0,.int .i64 0]
   have K1:=(O1.row #[.slice b1 m1 d1,.slice b2 m2 d2,.slice b3 m3 d3]).other (g:=w3.heap.size+1) #[.int .i64 0,.int .i64 0] (by omega)
   have HB4:=Lib.hid (tb_below HB3.out B2)
   have HPB:=Lib.hid (pA_below HPYA.out B2)
   obtain ⟨W6,hW6⟩:∃ W,W=(((w3.alloc (.cells #[.slice none 0 0,.slice none 0 0,.slice none 0 0] 25)).alloc (.cells #[.int .i64 0,.int .i64 0] 36)).setRow w3.heap.size #[.slice b1 m1 d1,.slice b2 m2 d2,.slice b3 m3 d3]).setRow (w3.heap.size+1) #[.int .i64 0,.int .i64 0]:=⟨_,rfl⟩
   rw [← hW6] at HB4 HPB K1
   have HW6:=Lib.hid hW6
   have HK1:=Lib.hid K1
   clear hW6 B1 B2 K1 HB3 HPYA
   go_upto_region 6 with (first | (refine st rowPg rfl rfl O1 rfl rfl (by rfl) (by rfl) (by kernel_rfl) ?_) | (refine st rowFl rfl rfl O2 rfl rfl (by rfl) (by rfl) (by kernel_rfl) ?_))
   rw [← HW6.out]
   clear HW6 O1 O2
   have c0:W6.cell? ⟨w.heap.size,0,none⟩=some (.slice a1 n1 c1):=by rw [cell_of_row _ _ 0 _ _ _ HB4.out.1];rfl
   have c1':W6.cell? ⟨w.heap.size,1,none⟩=some (.slice a2 n2 c2):=by rw [cell_of_row _ _ 1 _ _ _ HB4.out.1];rfl
   have c2':W6.cell? ⟨w.heap.size,2,none⟩=some (.slice a3 n3 c3):=by rw [cell_of_row _ _ 2 _ _ _ HB4.out.1];rfl
   have e0:W6.cell? ⟨w3.heap.size,0,none⟩=some (.slice b1 m1 d1):=by rw [cell_of_row _ _ 0 _ _ _ HK1.out];rfl
   have e1:W6.cell? ⟨w3.heap.size,1,none⟩=some (.slice b2 m2 d2):=by rw [cell_of_row _ _ 1 _ _ _ HK1.out];rfl
   have e2:W6.cell? ⟨w3.heap.size,2,none⟩=some (.slice b3 m3 d3):=by rw [cell_of_row _ _ 2 _ _ _ HK1.out];rfl
   go_wp2_with fail
   go_at_call 9
   refine (HRM.out _ _ _ _ HB4.out.2.2.1 HPB.out).mono ?_
   rw [HS.out]
   rintro e w7 ⟨rfl,hb⟩
   have HB7:=Lib.hid (tb_below HB4.out hb)
   clear hb c0 c1' c2' e0 e1 e2 HB4 HPB HK1
   go_upto_region 10 with (fail)
   have q0:w7.cell? ⟨w.heap.size+1,0,none⟩=some (.int .u8 k):=by rw [cell_of_row _ _ 0 _ _ _ HB7.out.2.1];rfl
   have q1:w7.cell? ⟨w.heap.size+1,1,none⟩=some (.int .u8 o):=by rw [cell_of_row _ _ 1 _ _ _ HB7.out.2.1];rfl
   have q2:w7.cell? ⟨w.heap.size+1,2,none⟩=some (.int .i64 wd):=by rw [cell_of_row _ _ 2 _ _ _ HB7.out.2.1];rfl
   have q3:w7.cell? ⟨w.heap.size+1,3,none⟩=some (.string nm):=by rw [cell_of_row _ _ 3 _ _ _ HB7.out.2.1];rfl
   have q4:w7.cell? ⟨w.heap.size+1,4,none⟩=some (.slice ka kn kc):=by rw [cell_of_row _ _ 4 _ _ _ HB7.out.2.1];rfl
   have q5:w7.cell? ⟨w.heap.size+1,5,none⟩=some (.int .i64 ps):=by rw [cell_of_row _ _ 5 _ _ _ HB7.out.2.1];rfl
   go_wp2_with fail
   go_at_call 10
   refine (HEX.out _ _ (HEA.out _ _ HB7.out.2.2.2.1) HB7.out.2.2.2.2.1).mono ?_
   rintro e w9 ⟨hb,rfl⟩
   have HB9:=Lib.hid (tb_below HB7.out hb)
   clear hb q0 q1 q2 q3 q4 q5 HB7
   rcases HEY.out with ⟨u,f,hU,hs2,hQ⟩ | ⟨m,hm,hU⟩
   rotate_left
   · rw [hU]
     clear HEY hU
     rcases hm with rfl | rfl
     all_goals
      go_wp2_with fail
      go_ret
      exact ⟨rfl,HB9.out.2.2.2.2.2⟩
   · rw [hU]
     have HQ:=Lib.hid hQ
     have HS2:=Lib.hid hs2
     clear hQ hs2 hU HEY
     go_wp2_with fail
     go_at_call 11
     refine (HQ.out _ HB9.out.2.2.2.2.1).mono ?_
     rintro e w10 ⟨fa,fc,rfl,hfa,hb⟩
     have HB10:=Lib.hid (tb_below HB9.out hb)
     have HFA:=Lib.hid hfa
     clear hb hfa HB9
     generalize f.kids.length=kn' at HFA
     generalize f.kind=k' at HFA
     generalize f.op=o' at HFA
     generalize f.wd=wd' at HFA
     generalize f.name=nm' at HFA
     generalize f.pos=ps' at HFA
     have B1:Below w10.heap.size w10 ((w10.alloc (.cells #[.int .u8 0,.int .u8 0,.int .i64 0,.string ⟨#[]⟩,.slice none 0 0,.int .i64 0] 30)).alloc (.cells #[.int .i64 0,.int .i64 0] 36)):=((Below.refl _ w10).alloc (Nat.le_refl _) _).alloc (by simp only [World.size_alloc];omega) _
     have O1:=(Own.new w10 30 #[.int .u8 0,.int .u8 0,.int .i64 0,.string ⟨#[]⟩,.slice none 0 0,.int .i64 0]).alloc (.cells #[.int .i64 0,.int .i64 0] 36)
     have O2:=(Own.new (w10.alloc (.cells #[.int .u8 0,.int .u8 0,.int .i64 0,.string ⟨#[]⟩,.slice none 0 0,.int .i64 0] 30)) 36 #[.int .i64 0,.int .i64 0]).other (g:=w10.heap.size) #[.int .u8 k',.int .u8 o',.int .i64 wd',.string nm',.slice fa kn' fc,.int .i64 ps'] (by simp only [World.size_alloc];omega)
     rw [World.size_alloc] at O2
     have B2:=Below.of_row (Below.of_row B1 (g:=w10.heap.size) (Nat.le_refl _) #[.int .u8 k',.int .u8 o',.int .i64 wd',.string nm',.slice fa kn' fc,.int .i64 ps']) (g:=w10.heap.size+1) (by omega) #[.int .i64 0,.int .i64 0]
     have K1:=(O1.row #[.int .u8 k',.int .u8 o',.int .i64 wd',.string nm',.slice fa kn' fc,.int .i64 ps']).other (g:=w10.heap.size+1) #[.int .i64 0,.int .i64 0] (by omega)
     have HB12:=tb_below HB10.out B2
     have HFB:exA _ f _:=exA_below4 HFA.out B2
     obtain ⟨W13,hW13⟩:∃ W,W=(((w10.alloc (.cells #[.int .u8 0,.int .u8 0,.int .i64 0,.string ⟨#[]⟩,.slice none 0 0,.int .i64 0] 30)).alloc (.cells #[.int .i64 0,.int .i64 0] 36)).setRow w10.heap.size #[.int .u8 k',.int .u8 o',.int .i64 wd',.string nm',.slice fa kn' fc,.int .i64 ps']).setRow (w10.heap.size+1) #[.int .i64 0,.int .i64 0]:=⟨_,rfl⟩
     rw [← hW13] at HB12 HFB K1
     have HW13:=Lib.hid hW13
     have HK13:=Lib.hid K1
     have HB13:=Lib.hid HB12
     have HFB:=Lib.hid HFB
     clear hW13 B1 B2 K1 HB10 HB12 HFA
     go_upto_region 14 with (first | (refine st rowEx rfl rfl O1 rfl rfl (by rfl) (by rfl) (by kernel_rfl) ?_) | (refine st rowFl rfl rfl O2 rfl rfl (by rfl) (by rfl) (by kernel_rfl) ?_))
     rw [← HW13.out]
     clear HW13 O1 O2
     have q0:W13.cell? ⟨w.heap.size+1,0,none⟩=some (.int .u8 k):=by rw [cell_of_row _ _ 0 _ _ _ HB13.out.2.1];rfl
     have q1:W13.cell? ⟨w.heap.size+1,1,none⟩=some (.int .u8 o):=by rw [cell_of_row _ _ 1 _ _ _ HB13.out.2.1];rfl
     have q2:W13.cell? ⟨w.heap.size+1,2,none⟩=some (.int .i64 wd):=by rw [cell_of_row _ _ 2 _ _ _ HB13.out.2.1];rfl
     have q3:W13.cell? ⟨w.heap.size+1,3,none⟩=some (.string nm):=by rw [cell_of_row _ _ 3 _ _ _ HB13.out.2.1];rfl
     have q4:W13.cell? ⟨w.heap.size+1,4,none⟩=some (.slice ka kn kc):=by rw [cell_of_row _ _ 4 _ _ _ HB13.out.2.1];rfl
     have q5:W13.cell? ⟨w.heap.size+1,5,none⟩=some (.int .i64 ps):=by rw [cell_of_row _ _ 5 _ _ _ HB13.out.2.1];rfl
     have r0:W13.cell? ⟨w10.heap.size,0,none⟩=some (.int .u8 k'):=by rw [cell_of_row _ _ 0 _ _ _ HK13.out];rfl
     have r1:W13.cell? ⟨w10.heap.size,1,none⟩=some (.int .u8 o'):=by rw [cell_of_row _ _ 1 _ _ _ HK13.out];rfl
     have r2:W13.cell? ⟨w10.heap.size,2,none⟩=some (.int .i64 wd'):=by rw [cell_of_row _ _ 2 _ _ _ HK13.out];rfl
     have r3:W13.cell? ⟨w10.heap.size,3,none⟩=some (.string nm'):=by rw [cell_of_row _ _ 3 _ _ _ HK13.out];rfl
     have r4:W13.cell? ⟨w10.heap.size,4,none⟩=some (.slice fa kn' fc):=by rw [cell_of_row _ _ 4 _ _ _ HK13.out];rfl
     have r5:W13.cell? ⟨w10.heap.size,5,none⟩=some (.int .i64 ps'):=by rw [cell_of_row _ _ 5 _ _ _ HK13.out];rfl
     go_wp2_with fail
     go_at_call 12
     refine (HRE.out _ _ _ _ (HEA.out _ _ HB13.out.2.2.2.1) HFB.out).mono ?_
     rw [HS2.out]
     rintro e w14 ⟨rfl,hb⟩
     have HB14:=Lib.hid (tb_below HB13.out hb)
     clear hb q0 q1 q2 q3 q4 q5 r0 r1 r2 r3 r4 r5 HB13 HFB HK13
     go_wp2_with fail
     go_ret
     exact ⟨rfl,HB14.out.2.2.2.2.2⟩
 · rw [hY]
   clear HPY hY
   rcases hm with rfl | rfl
   all_goals
    go_upto_region 10 with (fail)
    have q0:w2.cell? ⟨w.heap.size+1,0,none⟩=some (.int .u8 k):=by rw [cell_of_row _ _ 0 _ _ _ HB2.out.2.1];rfl
    have q1:w2.cell? ⟨w.heap.size+1,1,none⟩=some (.int .u8 o):=by rw [cell_of_row _ _ 1 _ _ _ HB2.out.2.1];rfl
    have q2:w2.cell? ⟨w.heap.size+1,2,none⟩=some (.int .i64 wd):=by rw [cell_of_row _ _ 2 _ _ _ HB2.out.2.1];rfl
    have q3:w2.cell? ⟨w.heap.size+1,3,none⟩=some (.string nm):=by rw [cell_of_row _ _ 3 _ _ _ HB2.out.2.1];rfl
    have q4:w2.cell? ⟨w.heap.size+1,4,none⟩=some (.slice ka kn kc):=by rw [cell_of_row _ _ 4 _ _ _ HB2.out.2.1];rfl
    have q5:w2.cell? ⟨w.heap.size+1,5,none⟩=some (.int .i64 ps):=by rw [cell_of_row _ _ 5 _ _ _ HB2.out.2.1];rfl
    go_wp2_with fail
    go_at_call 10
    refine (HEX.out _ _ (HEA.out _ _ HB2.out.2.2.2.1) HB2.out.2.2.2.2.1).mono ?_
    rintro e w9 ⟨hb,rfl⟩
    have HB9:=Lib.hid (tb_below HB2.out hb)
    clear hb q0 q1 q2 q3 q4 q5 HB2
    rcases HEY.out with ⟨u,f,hU,hs2,hQ⟩ | ⟨m,hm,hU⟩
    rotate_left
    · rw [hU]
      clear HEY hU
      rcases hm with rfl | rfl
      all_goals
       go_wp2_with fail
       go_ret
       exact ⟨rfl,HB9.out.2.2.2.2.2⟩
    · rw [hU]
      have HQ:=Lib.hid hQ
      have HS2:=Lib.hid hs2
      clear hQ hs2 hU HEY
      go_wp2_with fail
      go_at_call 11
      refine (HQ.out _ HB9.out.2.2.2.2.1).mono ?_
      rintro e w10 ⟨fa,fc,rfl,hfa,hb⟩
      have HB10:=Lib.hid (tb_below HB9.out hb)
      have HFA:=Lib.hid hfa
      clear hb hfa HB9
      generalize f.kids.length=kn' at HFA
      generalize f.kind=k' at HFA
      generalize f.op=o' at HFA
      generalize f.wd=wd' at HFA
      generalize f.name=nm' at HFA
      generalize f.pos=ps' at HFA
      have B1:Below w10.heap.size w10 ((w10.alloc (.cells #[.int .u8 0,.int .u8 0,.int .i64 0,.string ⟨#[]⟩,.slice none 0 0,.int .i64 0] 30)).alloc (.cells #[.int .i64 0,.int .i64 0] 36)):=((Below.refl _ w10).alloc (Nat.le_refl _) _).alloc (by simp only [World.size_alloc];omega) _
      have O1:=(Own.new w10 30 #[.int .u8 0,.int .u8 0,.int .i64 0,.string ⟨#[]⟩,.slice none 0 0,.int .i64 0]).alloc (.cells #[.int .i64 0,.int .i64 0] 36)
      have O2:=(Own.new (w10.alloc (.cells #[.int .u8 0,.int .u8 0,.int .i64 0,.string ⟨#[]⟩,.slice none 0 0,.int .i64 0] 30)) 36 #[.int .i64 0,.int .i64 0]).other (g:=w10.heap.size) #[.int .u8 k',.int .u8 o',.int .i64 wd',.string nm',.slice fa kn' fc,.int .i64 ps'] (by simp only [World.size_alloc];omega)
      rw [World.size_alloc] at O2
      have B2:=Below.of_row (Below.of_row B1 (g:=w10.heap.size) (Nat.le_refl _) #[.int .u8 k',.int .u8 o',.int .i64 wd',.string nm',.slice fa kn' fc,.int .i64 ps']) (g:=w10.heap.size+1) (by omega) #[.int .i64 0,.int .i64 0]
      have K1:=(O1.row #[.int .u8 k',.int .u8 o',.int .i64 wd',.string nm',.slice fa kn' fc,.int .i64 ps']).other (g:=w10.heap.size+1) #[.int .i64 0,.int .i64 0] (by omega)
      have HB12:=tb_below HB10.out B2
      have HFB:exA _ f _:=exA_below4 HFA.out B2
      obtain ⟨W13,hW13⟩:∃ W,W=(((w10.alloc (.cells #[.int .u8 0,.int .u8 0,.int .i64 0,.string ⟨#[]⟩,.slice none 0 0,.int .i64 0] 30)).alloc (.cells #[.int .i64 0,.int .i64 0] 36)).setRow w10.heap.size #[.int .u8 k',.int .u8 o',.int .i64 wd',.string nm',.slice fa kn' fc,.int .i64 ps']).setRow (w10.heap.size+1) #[.int .i64 0,.int .i64 0]:=⟨_,rfl⟩
      rw [← hW13] at HB12 HFB K1
      have HW13:=Lib.hid hW13
      have HK13:=Lib.hid K1
      have HB13:=Lib.hid HB12
      have HFB:=Lib.hid HFB
      clear hW13 B1 B2 K1 HB10 HB12 HFA
      go_upto_region 14 with (first | (refine st rowEx rfl rfl O1 rfl rfl (by rfl) (by rfl) (by kernel_rfl) ?_) | (refine st rowFl rfl rfl O2 rfl rfl (by rfl) (by rfl) (by kernel_rfl) ?_))
      rw [← HW13.out]
      clear HW13 O1 O2
      have q0:W13.cell? ⟨w.heap.size+1,0,none⟩=some (.int .u8 k):=by rw [cell_of_row _ _ 0 _ _ _ HB13.out.2.1];rfl
      have q1:W13.cell? ⟨w.heap.size+1,1,none⟩=some (.int .u8 o):=by rw [cell_of_row _ _ 1 _ _ _ HB13.out.2.1];rfl
      have q2:W13.cell? ⟨w.heap.size+1,2,none⟩=some (.int .i64 wd):=by rw [cell_of_row _ _ 2 _ _ _ HB13.out.2.1];rfl
      have q3:W13.cell? ⟨w.heap.size+1,3,none⟩=some (.string nm):=by rw [cell_of_row _ _ 3 _ _ _ HB13.out.2.1];rfl
      have q4:W13.cell? ⟨w.heap.size+1,4,none⟩=some (.slice ka kn kc):=by rw [cell_of_row _ _ 4 _ _ _ HB13.out.2.1];rfl
      have q5:W13.cell? ⟨w.heap.size+1,5,none⟩=some (.int .i64 ps):=by rw [cell_of_row _ _ 5 _ _ _ HB13.out.2.1];rfl
      have r0:W13.cell? ⟨w10.heap.size,0,none⟩=some (.int .u8 k'):=by rw [cell_of_row _ _ 0 _ _ _ HK13.out];rfl
      have r1:W13.cell? ⟨w10.heap.size,1,none⟩=some (.int .u8 o'):=by rw [cell_of_row _ _ 1 _ _ _ HK13.out];rfl
      have r2:W13.cell? ⟨w10.heap.size,2,none⟩=some (.int .i64 wd'):=by rw [cell_of_row _ _ 2 _ _ _ HK13.out];rfl
      have r3:W13.cell? ⟨w10.heap.size,3,none⟩=some (.string nm'):=by rw [cell_of_row _ _ 3 _ _ _ HK13.out];rfl
      have r4:W13.cell? ⟨w10.heap.size,4,none⟩=some (.slice fa kn' fc):=by rw [cell_of_row _ _ 4 _ _ _ HK13.out];rfl
      have r5:W13.cell? ⟨w10.heap.size,5,none⟩=some (.int .i64 ps'):=by rw [cell_of_row _ _ 5 _ _ _ HK13.out];rfl
      go_wp2_with fail
      go_at_call 12
      refine (HRE.out _ _ _ _ (HEA.out _ _ HB13.out.2.2.2.1) HFB.out).mono ?_
      rw [HS2.out]
      rintro e w14 ⟨rfl,hb⟩
      have HB14:=Lib.hid (tb_below HB13.out hb)
      clear hb q0 q1 q2 q3 q4 q5 r0 r1 r2 r3 r4 r5 HB13 HFB HK13
      go_wp2_with fail
      go_ret
      exact ⟨rfl,HB14.out.2.2.2.2.2⟩
open Go.ChangeShapes Go.WideShapes Go.ChangeAt Go.WideMaps Go.WideElems Go.RowKit Go.ChangeShapes
set_option linter.unusedVariables false
theorem laidOut:laidOutB Tryz.prog=true:=by kernel_rfl
theorem law_post_at {H:Type} {enc:TypeId × Value→H} {P:Program} {f:Func} {s:ChangeSpec} {W W':World} {args:Array Value} {tb:TypeId} {ds:List (DataW H)} {ps:List MemPlace}
 (hW:DataW.Whole enc P f.params.toList s.vars false W args.toList ds [] ps) (hres:f.resultTypes=#[tb]) (hb:P.underlying tb=some .bool)
 (hvars:s.vars=[]) (hfn:(s.fn H (ds++[])).results=[.lit (.bool true)]) (hfa:(s.fn H (ds++[])).args=ds) (hfv:(s.fn H (ds++[])).vars=[])
 (hargs:∀ sp:Nat→Bool,(∀ p∈ps,sp p.block=true)→DataW.TrodAll enc P W' 0 sp true f.params.toList args.toList ds ps)
 (hk:Below W.heap.size W W'):s.post enc P f false true false false W args (.bool true) W':=by
 have hr:∀ (b:Nat) (sp:Nat→Bool) (hd:Bool),DataW.TrodAll enc P W' b sp hd f.resultTypes.toList ((Value.bool true).resultList f.resultTypes.size) (s.fn H (ds++[])).results []:=fun b sp hd=>by
  rw [hfn,hres]
  exact trodAll_mk1 (shut_bool hb _)
 have ha:∀ sp:Nat→Bool,(∀ p∈ps,sp p.block=true)→DataW.TrodAll enc P W' 0 sp true f.params.toList args.toList (s.fn H (ds++[])).args ps:=fun sp hsp=>by
  rw [hfa];exact hargs sp hsp
 have hv:∀ sp:Nat→Bool,DataW.TrodVars enc P W' sp s.vars (s.fn H (ds++[])).vars []:=fun sp=>by
  rw [hvars,hfv];rfl
 have hold:∀ p∈ps,(fun b=>decide (b<W.heap.size)) p.block=true:=fun p hp=>by simpa using hW.lt p hp
 have hW2:=hW
 obtain ⟨_,_,_,_,_,hz,hn⟩:=hW2
 refine ⟨ds,[],ps,[],ps,[],hW,hr _ _ _,ha _ hold,hv _,World.keptBut_mono (fun p hp=>⟨hp,Or.inr (Or.inl hp)⟩) (hk.frame (· ∈ ps)),fun _=>?_⟩
 refine ⟨ok_one hres rfl (okWide_bool_mk hb _),_,_,([]++ps)++[],⟨[]++ps,[],trodAll_append (ha _ (fun _ _=>rfl)) (hr _ _ _),hv _,rfl,?_,?_⟩,?_⟩
 · intro b off hp
   have hp':MemPlace.cell b off∈ps:=by simpa using hp
   rw [hk.frozen (p:=⟨b,off,none⟩) (hW.lt _ hp')]
   exact hz b off hp'
 · intro hx;cases hx
 · intro p hp _
   simpa using hp
open Go.ChangeShapes Go.WideShapes Go.ChangeAt Go.WideMaps Go.WideElems Go.RowKit
set_option linter.unusedVariables false
abbrev PLB:List (String × DataW Unit):=[("math/bits.deBruijn32tab",Rows.laid_math_bits_deBruijn32tab),("math/bits.deBruijn64tab",Rows.laid_math_bits_deBruijn64tab),("internal/strconv.uint64pow10",Rows.laid_internal_strconv_uint64pow10),("stile/words.levels",Rows.laid_stile_words_levels),("stile/words.signs",Rows.laid_stile_words_signs),("stile/lexer.languageWords",Rows.laid_stile_lexer_languageWords),("stile/lexer.longSigns",Rows.laid_stile_lexer_longSigns),("stile/pretty.shapes",Rows.laid_stile_pretty_shapes)]
theorem wtb_of_laid {W:World} (h:laidMetH Tryz.prog PLB W):WTb W:=by
 rw [MakeChecks.laidMetH_plain _ _ _ (by kernel_rfl)] at h
 obtain ⟨ps,h,_⟩:=h
 exact wtb_of_vars h (by simp) (by simp) ⟨ltabs_of_vars h (by simp) (by simp),tabs_of_vars h (by simp) (by simp)⟩
theorem bdoor_met (os:Os) (args:Array Value):laidMetH Tryz.prog PLB ((World.doorLaid Tryz.prog 400 os).forCall (fun _ _=>0) ⟨#[],args,[]⟩).memory :=
 laidMetH_of_parts3 (fuel:=8) (laidMet_of_run' 8 (by kernel_rfl) (by kernel_rfl)) (by kernel_rfl) (by kernel_rfl)
theorem lenDs (l:List Dc):l.length≤bkDs l:=by rw [← sumD];exact sum_len (fun x=>by unfold bkD;omega) l
theorem memT {l:List Th} {t:Th} (h:t∈l):bkT t≤bkTs l:=by
 induction l with
 | nil=>cases h
 | cons x r ih =>
   simp only [bkTs]
   rcases List.mem_cons.1 h with rfl | h
   · omega
   · have:=ih h;omega
theorem lenP_of {x:Pg} (h:bkP x≤1048576):lenP x:=by
 unfold bkP at h
 have h1:=lenDs x.shared
 have h2:=lenDs x.locks
 refine ⟨by omega,by omega,fun t ht=>?_⟩
 have h3:=memT ht
 have h4:=lenDs t.locals
 unfold bkT at h3
 omega
end Go.Proofs.YtggbkldniffbfaaGreatDoor

/- The proof, part 20: texts that belong together, in one. -/
import Derived.Test.YtimccjlhhjjcpaaGreatDoorVAS
import Derived.Test.YtimccjlhhjjcpaaGreatDoorVAC
import Derived.Deep.RegionHeld3
import Derived.Deep.RegionWith
import Derived.Deep.DeepCutAuto
set_option maxRecDepth 100000
set_option maxHeartbeats 20000000
namespace Go.Proofs.YtimccjlhhjjcpaaGreatDoor
open Go.RowKit
set_option linter.unusedVariables false
theorem cp_D (x:Dc):CpD x:=by
 intro hf w
 obtain ⟨nm,wd,ps⟩:=x
 have f1:nmOk nm:=hf
 have HCL:Hid (∀ W,Calls Tryz.prog 30 #[.string nm] W fun e w'=>e=.returned (.string nm)∧Below W.heap.size W w'):=fun W=>p_clone nm f1 W
 change Calls _ _ #[.agg #[.string nm,.int .i64 wd,.int .i64 ps]] w _
 clear f1
 have O1:=Lib.hid ((Own.new w 75 #[.string nm,.int .i64 wd,.int .i64 ps]).alloc (.cells zDc 75))
 have O2:Hid (Own ((w.alloc (.cells #[.string nm,.int .i64 wd,.int .i64 ps] 75)).alloc (.cells zDc 75)) (w.heap.size+1) 75 zDc):=by have:=Own.new (w.alloc (.cells #[.string nm,.int .i64 wd,.int .i64 ps] 75)) 75 zDc;rw [World.size_alloc] at this;exact this
 have HB:Hid (Below w.heap.size w ((w.alloc (.cells #[.string nm,.int .i64 wd,.int .i64 ps] 75)).alloc (.cells zDc 75))):=((Below.refl _ w).alloc (Nat.le_refl _) _).alloc (by rw [World.size_alloc];omega) _
 unfold zDc at O2 HB O1
 go_enter Tryz.func83,Tryz.ntmps83
 go_wp2_with fail
 go_at_call 30
 refine (HCL.out _).mono ?_
 rintro e w3 ⟨rfl,hb3⟩
 replace O1:=Lib.hid (O1.out.below hb3)
 replace O2:=Lib.hid (O2.out.below hb3)
 replace HB:=Lib.hid (HB.out.trans (hb3.mono HB.out.size))
 clear hb3
 have x0:w3.cell? ⟨w.heap.size,0,none⟩=some (.string nm):=by rw [cell_of_row _ _ 0 _ _ _ O1.out];rfl
 have u0:w3.cell? ⟨w.heap.size,0,none⟩=some (.string nm):=by rw [cell_of_row _ _ 0 _ _ _ O1.out];rfl
 have z0:w3.frozen? ⟨w.heap.size,0,none⟩=false:=own_frozen O1.out 0
 obtain ⟨w4,hw4⟩:∃ W',W'=w3.setRow w.heap.size #[.string nm,.int .i64 wd,.int .i64 ps]:=⟨_,rfl⟩
 have ew4:w3.setCell ⟨w.heap.size,0,none⟩ (.string nm)=w4:=by rw [hw4,setCell_row O1.out 0 _];rfl
 have lw4:=O1.out.lt
 have P1:=Lib.hid (O1.out.row #[.string nm,.int .i64 wd,.int .i64 ps])
 have P2:=Lib.hid (O2.out.other (g:=w.heap.size) #[.string nm,.int .i64 wd,.int .i64 ps] (by omega))
 have HB2:=Lib.hid (Below.of_row HB.out (Nat.le_refl _) #[.string nm,.int .i64 wd,.int .i64 ps])
 have HSZ:Hid (w4.heap.size=w3.heap.size):=by rw [Hid,hw4,size_setRow]
 rw [← hw4] at P1 P2 HB2
 clear O1 O2 HB hw4 lw4
 have P2q:=P2.out
 have P1q:=P1.out
 go_wp2_with (first | (refine ld rowDc rfl rfl rfl P1q rfl ?_) | (refine st rowDc rfl rfl P2q rfl rfl (by rfl) (by rfl) (by kernel_rfl) ?_))
 refine p_ret rowDc rfl (P2q.row #[.string nm,.int .i64 wd,.int .i64 ps]) rfl rfl rfl ?_
 have hlt:=HB2.out.size
 refine ⟨rfl,Below.of_row HB2.out (Nat.le_succ _) #[.string nm,.int .i64 wd,.int .i64 ps]⟩
theorem cp_E (x:Ex) (HK:CpEs x.kids):CpE x:=by
 intro hf a c w h1
 obtain ⟨k,o,wd,nm,ks,ps⟩:=x
 obtain ⟨f1,f2,f3⟩:=hf
 have HCL:Hid (∀ W,Calls Tryz.prog 30 #[.string nm] W fun e w'=>e=.returned (.string nm)∧Below W.heap.size W w'):=fun W=>p_clone nm f1 W
 have HE0:Hid (∀ W,Below w.heap.size w W→Calls Tryz.prog 137 #[.slice a ks.length c,.func (.func 138) #[] #[]] W fun e w'=>∃ a' c',e=.returned (.slice a' ks.length c')∧exsAt (Rf W.heap.size w') w' ks a'∧Below W.heap.size W w'):=fun W hW=>HK f3 f2 a c W (exsAt_below h1 hW)
 change Calls _ _ #[.agg #[.int .u8 k,.int .u8 o,.int .i64 wd,.string nm,.slice a ks.length c,.int .i64 ps]] w _
 clear h1 f1 f2 f3 HK
 obtain ⟨n5,hn5⟩:∃ n,n=ks.length:=⟨_,rfl⟩
 rw [← hn5] at HE0 ⊢
 have HNn5:=Lib.hid hn5
 clear hn5
 have O1:=Lib.hid ((Own.new w 70 #[.int .u8 k,.int .u8 o,.int .i64 wd,.string nm,.slice a n5 c,.int .i64 ps]).alloc (.cells zEx 70))
 have O2:Hid (Own ((w.alloc (.cells #[.int .u8 k,.int .u8 o,.int .i64 wd,.string nm,.slice a n5 c,.int .i64 ps] 70)).alloc (.cells zEx 70)) (w.heap.size+1) 70 zEx):=by have:=Own.new (w.alloc (.cells #[.int .u8 k,.int .u8 o,.int .i64 wd,.string nm,.slice a n5 c,.int .i64 ps] 70)) 70 zEx;rw [World.size_alloc] at this;exact this
 have HB:Hid (Below w.heap.size w ((w.alloc (.cells #[.int .u8 k,.int .u8 o,.int .i64 wd,.string nm,.slice a n5 c,.int .i64 ps] 70)).alloc (.cells zEx 70))):=((Below.refl _ w).alloc (Nat.le_refl _) _).alloc (by rw [World.size_alloc];omega) _
 unfold zEx at O2 HB O1
 go_enter Tryz.func138,Tryz.ntmps138
 go_wp2_with fail
 go_at_call 30
 refine (HCL.out _).mono ?_
 rintro e w3 ⟨rfl,hb3⟩
 replace O1:=Lib.hid (O1.out.below hb3)
 replace O2:=Lib.hid (O2.out.below hb3)
 replace HB:=Lib.hid (HB.out.trans (hb3.mono HB.out.size))
 clear hb3
 have x3:w3.cell? ⟨w.heap.size,3,none⟩=some (.string nm):=by rw [cell_of_row _ _ 3 _ _ _ O1.out];rfl
 have u3:w3.cell? ⟨w.heap.size,3,none⟩=some (.string nm):=by rw [cell_of_row _ _ 3 _ _ _ O1.out];rfl
 have z3:w3.frozen? ⟨w.heap.size,3,none⟩=false:=own_frozen O1.out 3
 obtain ⟨w4,hw4⟩:∃ W',W'=w3.setRow w.heap.size #[.int .u8 k,.int .u8 o,.int .i64 wd,.string nm,.slice a n5 c,.int .i64 ps]:=⟨_,rfl⟩
 have ew4:w3.setCell ⟨w.heap.size,3,none⟩ (.string nm)=w4:=by rw [hw4,setCell_row O1.out 3 _];rfl
 have lw4:=O1.out.lt
 have P1:=Lib.hid (O1.out.row #[.int .u8 k,.int .u8 o,.int .i64 wd,.string nm,.slice a n5 c,.int .i64 ps])
 have P2:=Lib.hid (O2.out.other (g:=w.heap.size) #[.int .u8 k,.int .u8 o,.int .i64 wd,.string nm,.slice a n5 c,.int .i64 ps] (by omega))
 have HB2:=Lib.hid (Below.of_row HB.out (Nat.le_refl _) #[.int .u8 k,.int .u8 o,.int .i64 wd,.string nm,.slice a n5 c,.int .i64 ps])
 have HSZ:Hid (w4.heap.size=w3.heap.size):=by rw [Hid,hw4,size_setRow]
 rw [← hw4] at P1 P2 HB2
 clear O1 O2 HB hw4 lw4
 have y4:w4.cell? ⟨w.heap.size,4,none⟩=some (.slice a n5 c):=by rw [cell_of_row _ _ 4 _ _ _ P1.out];rfl
 go_wp2_with fail
 go_at_call 137
 refine (HE0.out _ HB2.out).mono ?_
 rintro e w5 ⟨a',c',rfl,hx0,hb3⟩
 have HGT:Hid (w.heap.size+1<w4.heap.size):=P2.out.lt
 have O1:=Lib.hid (P1.out.below hb3)
 have O2:=Lib.hid (P2.out.below hb3)
 have HB:=Lib.hid (HB2.out.trans (hb3.mono HB2.out.size))
 have HX0:=Lib.hid (exsAt_rfw (B':=w.heap.size+2) hx0 (by have:=HGT.out;omega))
 clear hb3 hx0 P1 P2 HB2 HSZ
 have u4:w5.cell? ⟨w.heap.size,4,none⟩=some (.slice a n5 c):=by rw [cell_of_row _ _ 4 _ _ _ O1.out];rfl
 have z4:w5.frozen? ⟨w.heap.size,4,none⟩=false:=own_frozen O1.out 4
 obtain ⟨w6,hw6⟩:∃ W',W'=w5.setRow w.heap.size #[.int .u8 k,.int .u8 o,.int .i64 wd,.string nm,.slice a' n5 c',.int .i64 ps]:=⟨_,rfl⟩
 have ew6:w5.setCell ⟨w.heap.size,4,none⟩ (.slice a' n5 c')=w6:=by rw [hw6,setCell_row O1.out 4 _];rfl
 have lw6:=O1.out.lt
 have P1:=Lib.hid (O1.out.row #[.int .u8 k,.int .u8 o,.int .i64 wd,.string nm,.slice a' n5 c',.int .i64 ps])
 have P2:=Lib.hid (O2.out.other (g:=w.heap.size) #[.int .u8 k,.int .u8 o,.int .i64 wd,.string nm,.slice a' n5 c',.int .i64 ps] (by omega))
 have HB2:=Lib.hid (Below.of_row HB.out (Nat.le_refl _) #[.int .u8 k,.int .u8 o,.int .i64 wd,.string nm,.slice a' n5 c',.int .i64 ps])
 have HSZ:Hid (w6.heap.size=w5.heap.size):=by rw [Hid,hw6,size_setRow]
 replace HX0:=Lib.hid (exsAt_rf HX0.out (chg_setRow (g:=w.heap.size) w5 #[.int .u8 k,.int .u8 o,.int .i64 wd,.string nm,.slice a' n5 c',.int .i64 ps] (by omega)) (Nat.le_refl _))
 rw [← hw6] at P1 P2 HB2 HX0
 clear O1 O2 HB hw6 lw6
 have P2q:=P2.out
 have P1q:=P1.out
 go_wp2_with (first | (refine ld rowEx rfl rfl rfl P1q rfl ?_) | (refine st rowEx rfl rfl P2q rfl rfl (by rfl) (by rfl) (by kernel_rfl) ?_))
 refine p_ret rowEx rfl (P2q.row #[.int .u8 k,.int .u8 o,.int .i64 wd,.string nm,.slice a' n5 c',.int .i64 ps]) rfl rfl rfl ?_
 have hlt:=HB2.out.size
 refine ⟨a',c',by rw [HNn5.out];rfl,?_,Below.of_row HB2.out (Nat.le_succ _) #[.int .u8 k,.int .u8 o,.int .i64 wd,.string nm,.slice a' n5 c',.int .i64 ps]⟩
 · exact exsAt_rf HX0.out (chg_setRow (g:=w.heap.size+1) w6 #[.int .u8 k,.int .u8 o,.int .i64 wd,.string nm,.slice a' n5 c',.int .i64 ps] (by omega)) (by omega)
theorem cp_T (x:Th) (HL:CpDs x.locals) (HS:CpSs x.body):CpT x:=by
 intro hf a1 c1 a2 c2 w h1 h2
 obtain ⟨nm,lo,bo,ps⟩:=x
 obtain ⟨f1,⟨f2,f3⟩,f4,f5⟩:=hf
 have HCL:Hid (∀ W,Calls Tryz.prog 30 #[.string nm] W fun e w'=>e=.returned (.string nm)∧Below W.heap.size W w'):=fun W=>p_clone nm f1 W
 have HE0:Hid (∀ W,Below w.heap.size w W→Calls Tryz.prog 82 #[.slice a1 lo.length c1,.func (.func 83) #[] #[]] W fun e w'=>∃ a' c',e=.returned (.slice a' lo.length c')∧dcsAt (Rf W.heap.size w') w' lo a'∧Below W.heap.size W w'):=fun W hW=>HL f3 f2 a1 c1 W (dcsAt_below h1 hW)
 have HE1:Hid (∀ W,Below w.heap.size w W→Calls Tryz.prog 109 #[.slice a2 bo.length c2,.func (.func 110) #[] #[]] W fun e w'=>∃ a' c',e=.returned (.slice a' bo.length c')∧stsAt (Rf W.heap.size w') w' bo a'∧Below W.heap.size W w'):=fun W hW=>HS f5 f4 a2 c2 W (stsAt_below h2 hW)
 change Calls _ _ #[.agg #[.string nm,.slice a1 lo.length c1,.slice a2 bo.length c2,.int .i64 ps]] w _
 clear h1 h2 f1 f2 f3 f4 f5 HL HS
 obtain ⟨n5,hn5⟩:∃ n,n=lo.length:=⟨_,rfl⟩
 rw [← hn5] at HE0 ⊢
 have HNn5:=Lib.hid hn5
 clear hn5
 obtain ⟨n6,hn6⟩:∃ n,n=bo.length:=⟨_,rfl⟩
 rw [← hn6] at HE1 ⊢
 have HNn6:=Lib.hid hn6
 clear hn6
 have O1:=Lib.hid ((Own.new w 60 #[.string nm,.slice a1 n5 c1,.slice a2 n6 c2,.int .i64 ps]).alloc (.cells zTh 60))
 have O2:Hid (Own ((w.alloc (.cells #[.string nm,.slice a1 n5 c1,.slice a2 n6 c2,.int .i64 ps] 60)).alloc (.cells zTh 60)) (w.heap.size+1) 60 zTh):=by have:=Own.new (w.alloc (.cells #[.string nm,.slice a1 n5 c1,.slice a2 n6 c2,.int .i64 ps] 60)) 60 zTh;rw [World.size_alloc] at this;exact this
 have HB:Hid (Below w.heap.size w ((w.alloc (.cells #[.string nm,.slice a1 n5 c1,.slice a2 n6 c2,.int .i64 ps] 60)).alloc (.cells zTh 60))):=((Below.refl _ w).alloc (Nat.le_refl _) _).alloc (by rw [World.size_alloc];omega) _
 unfold zTh at O2 HB O1
 go_enter Tryz.func85,Tryz.ntmps85
 go_wp2_with fail
 go_at_call 30
 refine (HCL.out _).mono ?_
 rintro e w3 ⟨rfl,hb3⟩
 replace O1:=Lib.hid (O1.out.below hb3)
 replace O2:=Lib.hid (O2.out.below hb3)
 replace HB:=Lib.hid (HB.out.trans (hb3.mono HB.out.size))
 clear hb3
 have x0:w3.cell? ⟨w.heap.size,0,none⟩=some (.string nm):=by rw [cell_of_row _ _ 0 _ _ _ O1.out];rfl
 have u0:w3.cell? ⟨w.heap.size,0,none⟩=some (.string nm):=by rw [cell_of_row _ _ 0 _ _ _ O1.out];rfl
 have z0:w3.frozen? ⟨w.heap.size,0,none⟩=false:=own_frozen O1.out 0
 obtain ⟨w4,hw4⟩:∃ W',W'=w3.setRow w.heap.size #[.string nm,.slice a1 n5 c1,.slice a2 n6 c2,.int .i64 ps]:=⟨_,rfl⟩
 have ew4:w3.setCell ⟨w.heap.size,0,none⟩ (.string nm)=w4:=by rw [hw4,setCell_row O1.out 0 _];rfl
 have lw4:=O1.out.lt
 have P1:=Lib.hid (O1.out.row #[.string nm,.slice a1 n5 c1,.slice a2 n6 c2,.int .i64 ps])
 have P2:=Lib.hid (O2.out.other (g:=w.heap.size) #[.string nm,.slice a1 n5 c1,.slice a2 n6 c2,.int .i64 ps] (by omega))
 have HB2:=Lib.hid (Below.of_row HB.out (Nat.le_refl _) #[.string nm,.slice a1 n5 c1,.slice a2 n6 c2,.int .i64 ps])
 have HSZ:Hid (w4.heap.size=w3.heap.size):=by rw [Hid,hw4,size_setRow]
 rw [← hw4] at P1 P2 HB2
 clear O1 O2 HB hw4 lw4
 have y1:w4.cell? ⟨w.heap.size,1,none⟩=some (.slice a1 n5 c1):=by rw [cell_of_row _ _ 1 _ _ _ P1.out];rfl
 go_wp2_with fail
 go_at_call 82
 refine (HE0.out _ HB2.out).mono ?_
 rintro e w5 ⟨a1',c1',rfl,hx0,hb3⟩
 have HGT:Hid (w.heap.size+1<w4.heap.size):=P2.out.lt
 have O1:=Lib.hid (P1.out.below hb3)
 have O2:=Lib.hid (P2.out.below hb3)
 have HB:=Lib.hid (HB2.out.trans (hb3.mono HB2.out.size))
 have HX0:=Lib.hid (dcsAt_rfw (B':=w.heap.size+2) hx0 (by have:=HGT.out;omega))
 clear hb3 hx0 P1 P2 HB2 HSZ
 have u1:w5.cell? ⟨w.heap.size,1,none⟩=some (.slice a1 n5 c1):=by rw [cell_of_row _ _ 1 _ _ _ O1.out];rfl
 have z1:w5.frozen? ⟨w.heap.size,1,none⟩=false:=own_frozen O1.out 1
 obtain ⟨w6,hw6⟩:∃ W',W'=w5.setRow w.heap.size #[.string nm,.slice a1' n5 c1',.slice a2 n6 c2,.int .i64 ps]:=⟨_,rfl⟩
 have ew6:w5.setCell ⟨w.heap.size,1,none⟩ (.slice a1' n5 c1')=w6:=by rw [hw6,setCell_row O1.out 1 _];rfl
 have lw6:=O1.out.lt
 have P1:=Lib.hid (O1.out.row #[.string nm,.slice a1' n5 c1',.slice a2 n6 c2,.int .i64 ps])
 have P2:=Lib.hid (O2.out.other (g:=w.heap.size) #[.string nm,.slice a1' n5 c1',.slice a2 n6 c2,.int .i64 ps] (by omega))
 have HB2:=Lib.hid (Below.of_row HB.out (Nat.le_refl _) #[.string nm,.slice a1' n5 c1',.slice a2 n6 c2,.int .i64 ps])
 have HSZ:Hid (w6.heap.size=w5.heap.size):=by rw [Hid,hw6,size_setRow]
 replace HX0:=Lib.hid (dcsAt_rf HX0.out (chg_setRow (g:=w.heap.size) w5 #[.string nm,.slice a1' n5 c1',.slice a2 n6 c2,.int .i64 ps] (by omega)) (Nat.le_refl _))
 rw [← hw6] at P1 P2 HB2 HX0
 clear O1 O2 HB hw6 lw6
 have y2:w6.cell? ⟨w.heap.size,2,none⟩=some (.slice a2 n6 c2):=by rw [cell_of_row _ _ 2 _ _ _ P1.out];rfl
 go_wp2_with fail
 go_at_call 109
 refine (HE1.out _ HB2.out).mono ?_
 rintro e w7 ⟨a2',c2',rfl,hx1,hb3⟩
 replace HGT:Hid (w.heap.size+1<w6.heap.size):=P2.out.lt
 have O1:=Lib.hid (P1.out.below hb3)
 have O2:=Lib.hid (P2.out.below hb3)
 have HB:=Lib.hid (HB2.out.trans (hb3.mono HB2.out.size))
 replace HX0:=Lib.hid (dcsAt_rf HX0.out (chg_below hb3) (Nat.le_refl _))
 have HX1:=Lib.hid (stsAt_rfw (B':=w.heap.size+2) hx1 (by have:=HGT.out;omega))
 clear hb3 hx1 P1 P2 HB2 HSZ
 have u2:w7.cell? ⟨w.heap.size,2,none⟩=some (.slice a2 n6 c2):=by rw [cell_of_row _ _ 2 _ _ _ O1.out];rfl
 have z2:w7.frozen? ⟨w.heap.size,2,none⟩=false:=own_frozen O1.out 2
 obtain ⟨w8,hw8⟩:∃ W',W'=w7.setRow w.heap.size #[.string nm,.slice a1' n5 c1',.slice a2' n6 c2',.int .i64 ps]:=⟨_,rfl⟩
 have ew8:w7.setCell ⟨w.heap.size,2,none⟩ (.slice a2' n6 c2')=w8:=by rw [hw8,setCell_row O1.out 2 _];rfl
 have lw8:=O1.out.lt
 have P1:=Lib.hid (O1.out.row #[.string nm,.slice a1' n5 c1',.slice a2' n6 c2',.int .i64 ps])
 have P2:=Lib.hid (O2.out.other (g:=w.heap.size) #[.string nm,.slice a1' n5 c1',.slice a2' n6 c2',.int .i64 ps] (by omega))
 have HB2:=Lib.hid (Below.of_row HB.out (Nat.le_refl _) #[.string nm,.slice a1' n5 c1',.slice a2' n6 c2',.int .i64 ps])
 have HSZ:Hid (w8.heap.size=w7.heap.size):=by rw [Hid,hw8,size_setRow]
 replace HX0:=Lib.hid (dcsAt_rf HX0.out (chg_setRow (g:=w.heap.size) w7 #[.string nm,.slice a1' n5 c1',.slice a2' n6 c2',.int .i64 ps] (by omega)) (Nat.le_refl _))
 replace HX1:=Lib.hid (stsAt_rf HX1.out (chg_setRow (g:=w.heap.size) w7 #[.string nm,.slice a1' n5 c1',.slice a2' n6 c2',.int .i64 ps] (by omega)) (Nat.le_refl _))
 rw [← hw8] at P1 P2 HB2 HX0 HX1
 clear O1 O2 HB hw8 lw8
 have P2q:=P2.out
 have P1q:=P1.out
 go_wp2_with (first | (refine ld rowTh rfl rfl rfl P1q rfl ?_) | (refine st rowTh rfl rfl P2q rfl rfl (by rfl) (by rfl) (by kernel_rfl) ?_))
 refine p_ret rowTh rfl (P2q.row #[.string nm,.slice a1' n5 c1',.slice a2' n6 c2',.int .i64 ps]) rfl rfl rfl ?_
 have hlt:=HB2.out.size
 refine ⟨a1',c1',a2',c2',by rw [HNn5.out,HNn6.out];rfl,?_,?_,Below.of_row HB2.out (Nat.le_succ _) #[.string nm,.slice a1' n5 c1',.slice a2' n6 c2',.int .i64 ps]⟩
 · exact dcsAt_rf HX0.out (chg_setRow (g:=w.heap.size+1) w8 #[.string nm,.slice a1' n5 c1',.slice a2' n6 c2',.int .i64 ps] (by omega)) (by omega)
 · exact stsAt_rf HX1.out (chg_setRow (g:=w.heap.size+1) w8 #[.string nm,.slice a1' n5 c1',.slice a2' n6 c2',.int .i64 ps] (by omega)) (by omega)
open Go.RowKit
set_option linter.unusedVariables false
def Bx (w:World) (T:TypeId) (r z:Array Value) (W:World):Prop:=Own W w.heap.size T r∧Own W (w.heap.size+1) T z∧Below w.heap.size w W
section
variable {w W W':World} {T:TypeId} {r z:Array Value}
theorem bx_new (w:World) (T:TypeId) (r z:Array Value):Bx w T r z ((w.alloc (.cells r T)).alloc (.cells z T)) :=
 ⟨(Own.new w T r).alloc _,by have:=Own.new (w.alloc (.cells r T)) T z;rw [World.size_alloc] at this;exact this,((Below.refl _ w).alloc (Nat.le_refl _) _).alloc (by rw [World.size_alloc];omega) _⟩
theorem bx_drewN (h:Bx w T r z W) (n:Nat):Bx w T r z (W.drewN n):=⟨h.1.drewN n,h.2.1.drewN n,below_drewN h.2.2 n⟩
theorem bx_below (h:Bx w T r z W) (hb:Below W.heap.size W W'):Bx w T r z W':=⟨h.1.below hb,h.2.1.below hb,h.2.2.trans (hb.mono h.2.2.size)⟩
theorem bx_set (h:Bx w T r z W) (j:Nat) (v:Value):Bx w T (r.setIfInBounds j v) z (W.setCell ⟨w.heap.size,j,none⟩ v):=⟨h.1.setJ j v,h.2.1.setX j v (by omega),h.2.2.setCell (Nat.le_refl _) v⟩
theorem bx_cell (h:Bx w T r z W) {j:Nat} {v:Value} (hv:r[j]? = some v):W.cell? ⟨w.heap.size,j,none⟩=some v:=by rw [cell_of_row _ _ j _ _ _ h.1];exact hv
theorem bx_frozen (h:Bx w T r z W) (j:Nat):W.frozen? ⟨w.heap.size,j,none⟩=false:=own_frozen h.1 j
theorem bx_gt (h:Bx w T r z W):w.heap.size+1<W.heap.size:=h.2.1.lt
end
def K1 (w:World) (a b:ByteArray) (r z:Array Value) (W:World):Prop:=W.cell? ⟨w.heap.size,1,none⟩=some (.string a)∧W.cell? ⟨w.heap.size,2,none⟩=some (.string b)∧W.frozen? ⟨w.heap.size,1,none⟩=false∧W.frozen? ⟨w.heap.size,2,none⟩=false∧Bx w 78 r z W
section
variable {w W W':World} {k:Int} {nm ot:ByteArray} {v3 v4 v5 v6:Value} {z:Array Value}
theorem k1_of (h:Bx w 78 #[.int .u8 k,.string nm,.string ot,v3,v4,v5,v6] z W):K1 w nm ot #[.int .u8 k,.string nm,.string ot,v3,v4,v5,v6] z W:=⟨bx_cell h rfl,bx_cell h rfl,bx_frozen h 1,bx_frozen h 2,h⟩
theorem k1_drew (h:Bx w 78 #[.int .u8 k,.string nm,.string ot,v3,v4,v5,v6] z W):K1 w nm ot #[.int .u8 k,.string nm,.string ot,v3,v4,v5,v6] z W.drew:=k1_of (bx_drewN h 1)
theorem k1_below (h:K1 w nm ot #[.int .u8 k,.string nm,.string ot,v3,v4,v5,v6] z W) (hb:Below W.heap.size W W'):K1 w nm ot #[.int .u8 k,.string nm,.string ot,v3,v4,v5,v6] z W':=k1_of (bx_below h.2.2.2.2 hb)
theorem k1_set1 (h:K1 w nm ot #[.int .u8 k,.string nm,.string ot,v3,v4,v5,v6] z W):K1 w nm ot #[.int .u8 k,.string nm,.string ot,v3,v4,v5,v6] z (W.setCell ⟨w.heap.size,1,none⟩ (.string nm)):=k1_of (bx_set h.2.2.2.2 1 _)
theorem k1_set2 (h:K1 w nm ot #[.int .u8 k,.string nm,.string ot,v3,v4,v5,v6] z W):K1 w nm ot #[.int .u8 k,.string nm,.string ot,v3,v4,v5,v6] z (W.setCell ⟨w.heap.size,2,none⟩ (.string ot)):=k1_of (bx_set h.2.2.2.2 2 _)
end
def Dx (w:World) (r z:Array Value) (es:List Ex) (bo:List St) (a3 a4:Option Addr) (W:World):Prop:=Bx w 78 r z W∧exsAt (Rf (w.heap.size+2) W) W es a3∧stsAt (Rf (w.heap.size+2) W) W bo a4
def Fx (w:World) (r z:Array Value) (es:List Ex) (bo el:List St) (a3 a4 a5:Option Addr) (W:World):Prop:=Dx w r z es bo a3 a4 W∧stsAt (Rf (w.heap.size+2) W) W el a5
section
variable {w W W':World} {r z:Array Value} {es:List Ex} {bo el:List St} {a3 a4 a5:Option Addr}
theorem chg_far {g j:Nat} {v:Value} (W:World) (hg:g=w.heap.size):Chg (w.heap.size+2) W (W.setCell ⟨g,j,none⟩ v):=chg_setCell W j v (by omega)
theorem dx_of (h:Bx w 78 r z W) (h3:exsAt (Rf (w.heap.size+2) W) W es a3) (h4:stsAt (Rf W.heap.size W') W' bo a4) (hb:Below W.heap.size W W'):Dx w r z es bo a3 a4 W' :=
 ⟨bx_below h hb,exsAt_rf h3 (chg_below hb) (Nat.le_refl _),stsAt_rfw h4 (by have:=bx_gt h;omega)⟩
theorem dx_set (h:Dx w r z es bo a3 a4 W) (j:Nat) (v:Value):Dx w (r.setIfInBounds j v) z es bo a3 a4 (W.setCell ⟨w.heap.size,j,none⟩ v) :=
 ⟨bx_set h.1 j v,exsAt_rf h.2.1 (chg_far W rfl) (Nat.le_refl _),stsAt_rf h.2.2 (chg_far W rfl) (Nat.le_refl _)⟩
theorem fx_of (h:Dx w r z es bo a3 a4 W) (h5:stsAt (Rf W.heap.size W') W' el a5) (hb:Below W.heap.size W W'):Fx w r z es bo el a3 a4 a5 W' :=
 ⟨⟨bx_below h.1 hb,exsAt_rf h.2.1 (chg_below hb) (Nat.le_refl _),stsAt_rf h.2.2 (chg_below hb) (Nat.le_refl _)⟩,stsAt_rfw h5 (by have:=bx_gt h.1;omega)⟩
theorem fx_set (h:Fx w r z es bo el a3 a4 a5 W) (j:Nat) (v:Value):Fx w (r.setIfInBounds j v) z es bo el a3 a4 a5 (W.setCell ⟨w.heap.size,j,none⟩ v) :=
 ⟨dx_set h.1 j v,stsAt_rf h.2 (chg_far W rfl) (Nat.le_refl _)⟩
end
theorem cp_S (x:St) (HE:CpEs x.e) (HB:CpSs x.body) (HL:CpSs x.els):CpS x:=by
 intro hf a3 c3 a4 c4 a5 c5 w h3 h4 h5
 obtain ⟨k,nm,ot,es,bo,el,ps⟩:=x
 obtain ⟨f1,f2,⟨f3,f4⟩,⟨f5,f6⟩,f7,f8⟩:=hf
 have HCL:Hid (∀ s W,(s=nm∨s=ot)→Calls Tryz.prog 30 #[.string s] W fun e w'=>e=.returned (.string s)∧Below W.heap.size W w'):=fun s W hs=>by
  rcases hs with rfl | rfl
  · exact p_clone _ f1 W
  · exact p_clone _ f2 W
 have HE0:Hid (∀ W,Below w.heap.size w W→Calls Tryz.prog 137 #[.slice a3 es.length c3,.func (.func 138) #[] #[]] W fun e w'=>∃ a' c',e=.returned (.slice a' es.length c')∧exsAt (Rf W.heap.size w') w' es a'∧Below W.heap.size W w'):=fun W hW=>HE f4 f3 a3 c3 W (exsAt_below h3 hW)
 have HE1:Hid (∀ W,Below w.heap.size w W→Calls Tryz.prog 109 #[.slice a4 bo.length c4,.func (.func 110) #[] #[]] W fun e w'=>∃ a' c',e=.returned (.slice a' bo.length c')∧stsAt (Rf W.heap.size w') w' bo a'∧Below W.heap.size W w'):=fun W hW=>HB f6 f5 a4 c4 W (stsAt_below h4 hW)
 have HE2:Hid (∀ W,Below w.heap.size w W→Calls Tryz.prog 109 #[.slice a5 el.length c5,.func (.func 110) #[] #[]] W fun e w'=>∃ a' c',e=.returned (.slice a' el.length c')∧stsAt (Rf W.heap.size w') w' el a'∧Below W.heap.size W w'):=fun W hW=>HL f8 f7 a5 c5 W (stsAt_below h5 hW)
 change Calls _ _ #[.agg #[.int .u8 k,.string nm,.string ot,.slice a3 es.length c3,.slice a4 bo.length c4,.slice a5 el.length c5,.int .i64 ps]] w _
 clear h3 h4 h5 f1 f2 f3 f4 f5 f6 f7 f8 HE HB HL
 obtain ⟨n3,hn3⟩:∃ n,n=es.length:=⟨_,rfl⟩
 rw [← hn3] at HE0 ⊢
 obtain ⟨n4,hn4⟩:∃ n,n=bo.length:=⟨_,rfl⟩
 rw [← hn4] at HE1 ⊢
 obtain ⟨n5,hn5⟩:∃ n,n=el.length:=⟨_,rfl⟩
 rw [← hn5] at HE2 ⊢
 have HN3:=Lib.hid hn3
 have HN4:=Lib.hid hn4
 have HN5:=Lib.hid hn5
 clear hn3 hn4 hn5
 have HX:=Lib.hid (bx_new w 78 #[.int .u8 k,.string nm,.string ot,.slice a3 n3 c3,.slice a4 n4 c4,.slice a5 n5 c5,.int .i64 ps] zSt)
 go_enter Tryz.func110,Tryz.ntmps110
 go_upto_region 1 with (fail)
 rw [show (#[.int .u8 0,.string ⟨#[]⟩,.string ⟨#[]⟩,.slice none 0 0,.slice none 0 0,.slice none 0 0,.int .i64 0]:Array Value)=zSt from rfl]
 obtain ⟨W0,hW0⟩:∃ W,W=(w.alloc (.cells #[.int .u8 k,.string nm,.string ot,.slice a3 n3 c3,.slice a4 n4 c4,.slice a5 n5 c5,.int .i64 ps] 78)).alloc (.cells zSt 78):=⟨_,rfl⟩
 rw [← hW0] at HX ⊢
 clear hW0
 go_cut [] (fun wx=>K1 w nm ot #[.int .u8 k,.string nm,.string ot,.slice a3 n3 c3,.slice a4 n4 c4,.slice a5 n5 c5,.int .i64 ps] zSt wx)
 case first =>
  go_region_held3 (fun W=>W.cell? ⟨w.heap.size,1,none⟩=some (.string nm)∧W.cell? ⟨w.heap.size,2,none⟩=some (.string ot)∧W.frozen? ⟨w.heap.size,1,none⟩=false∧W.frozen? ⟨w.heap.size,2,none⟩=false∧Bx w 78 #[.int .u8 k,.string nm,.string ot,.slice a3 n3 c3,.slice a4 n4 c4,.slice a5 n5 c5,.int .i64 ps] zSt W) (first | exact k1_drew HX.out | exact k1_set1 (by assumption) | exact k1_set2 (by assumption) | exact k1_below (by assumption) (by assumption)) (first | (go_at_call 30;refine (HCL.out _ _ (by first | exact .inl rfl | exact .inr rfl)).mono ?_;rintro e w3 ⟨rfl,hb3⟩))
  all_goals (go_wp2_with fail;go_meet;(first | assumption | (case rel=>assumption)))
 case rest =>
  have HX:=Lib.hid hcut.2.2.2.2
  clear hcut
  have y3:wc.cell? ⟨w.heap.size,3,none⟩=some (.slice a3 n3 c3):=bx_cell HX.out rfl
  go_wp2_with fail
  go_at_call 137
  refine (HE0.out _ HX.out.2.2).mono ?_
  rintro e w3 ⟨a3',c3',rfl,hx3,hb3⟩
  have H3:=bx_below HX.out hb3
  have X3:=exsAt_rfw (B':=w.heap.size+2) hx3 (by have:=bx_gt HX.out;omega)
  have u3:w3.cell? ⟨w.heap.size,3,none⟩=some (.slice a3 n3 c3):=bx_cell H3 rfl
  have z3:w3.frozen? ⟨w.heap.size,3,none⟩=false:=bx_frozen H3 3
  have H4:Hid (Bx w 78 #[.int .u8 k,.string nm,.string ot,.slice a3' n3 c3',.slice a4 n4 c4,.slice a5 n5 c5,.int .i64 ps] zSt (w3.setCell ⟨w.heap.size,3,none⟩ (.slice a3' n3 c3'))):=bx_set H3 3 _
  have X4:=Lib.hid (exsAt_rf X3 (chg_far (w:=w) (j:=3) (v:=.slice a3' n3 c3') w3 rfl) (Nat.le_refl _))
  obtain ⟨w4,hw4⟩:∃ W,W=w3.setCell ⟨w.heap.size,3,none⟩ (.slice a3' n3 c3'):=⟨_,rfl⟩
  rw [← hw4] at H4 X4
  have e4:=hw4.symm
  clear hw4 H3 X3 hb3 hx3 HX y3
  go_upto_region 3 with (fail)
  clear u3 z3 e4
  have hbd:Below w.heap.size w w4.drew:=below_drewN H4.out.2.2 1
  have HZ:=Lib.hid (bx_drewN H4.out 1)
  have XZ:Hid (exsAt (Rf (w.heap.size+2) w4.drew) w4.drew es a3'):=exsAt_rf X4.out (chg_below (below_drewN (Below.refl _ w4) 1)) (Nat.le_refl _)
  have y4:w4.cell? ⟨w.heap.size,4,none⟩=some (.slice a4 n4 c4):=bx_cell H4.out rfl
  have y5:w4.cell? ⟨w.heap.size,5,none⟩=some (.slice a5 n5 c5):=bx_cell H4.out rfl
  go_cut [] (fun wx=>∃ a4' c4' a5' c5',Fx w #[.int .u8 k,.string nm,.string ot,.slice a3' n3 c3',.slice a4' n4 c4',.slice a5' n5 c5',.int .i64 ps] zSt es bo el a3' a4' a5' wx)
  case first =>
   go_region_with (first
    | (go_at_call_of 109 (Value.slice a4 n4 c4)
       refine (HE1.out _ (by assumption)).mono ?_
       rintro e w5 ⟨a4',c4',rfl,hx4,hb4⟩
       have D5:=dx_of HZ.out XZ.out hx4 hb4
       have D5':=dx_set D5 4 (.slice a4' n4 c4')
       have hbd5:=D5.1.2.2
       have hbd5':=D5'.1.2.2
       have p4:w5.cell? ⟨w.heap.size,4,none⟩=some (.slice a4 n4 c4):=bx_cell D5.1 rfl
       have p5:w5.cell? ⟨w.heap.size,5,none⟩=some (.slice a5 n5 c5):=bx_cell D5.1 rfl
       have pz4:w5.frozen? ⟨w.heap.size,4,none⟩=false:=bx_frozen D5.1 4
       have p5':(w5.setCell ⟨w.heap.size,4,none⟩ (.slice a4' n4 c4')).cell? ⟨w.heap.size,5,none⟩=some (.slice a5 n5 c5):=bx_cell D5'.1 rfl
       clear hx4 hb4)
    | (go_at_call_of 109 (Value.slice a5 n5 c5)
       refine (HE2.out _ (by assumption)).mono ?_
       rintro e w6 ⟨a5',c5',rfl,hx5,hb5⟩
       have F6:=fx_of (by assumption) hx5 hb5
       have q5:w6.cell? ⟨w.heap.size,5,none⟩=some (.slice a5 n5 c5):=bx_cell F6.1.1 rfl
       have qz5:w6.frozen? ⟨w.heap.size,5,none⟩=false:=bx_frozen F6.1.1 5
       have qz4:w6.frozen? ⟨w.heap.size,4,none⟩=false:=bx_frozen F6.1.1 4
       obtain ⟨v4,q4⟩:∃ v,w6.cell? ⟨w.heap.size,4,none⟩=some v:=⟨_,bx_cell F6.1.1 rfl⟩
       clear hx5 hb5))
   all_goals (go_wp2_with fail;go_meet;exact ⟨a4',c4',a5',c5',fx_set (fx_set F6 4 _) 5 _⟩)
  case rest =>
   obtain ⟨a4',c4',a5',c5',hF⟩:=hcut
   have HF:=Lib.hid hF
   have P1q:=HF.out.1.1.1
   have P2q:=HF.out.1.1.2.1
   clear hF
   unfold zSt at P2q
   go_wp2_with (first | (refine ld rowSt rfl rfl rfl P1q rfl ?_) | (refine st rowSt rfl rfl P2q rfl rfl (by rfl) (by rfl) (by kernel_rfl) ?_))
   refine p_ret rowSt rfl (P2q.row #[.int .u8 k,.string nm,.string ot,.slice a3' n3 c3',.slice a4' n4 c4',.slice a5' n5 c5',.int .i64 ps]) rfl rfl rfl ?_
   have hst:Chg (w.heap.size+2) wc (wc.setRow (w.heap.size+1) #[.int .u8 k,.string nm,.string ot,.slice a3' n3 c3',.slice a4' n4 c4',.slice a5' n5 c5',.int .i64 ps]):=chg_setRow wc _ (by omega)
   refine ⟨a3',c3',a4',c4',a5',c5',by rw [HN3.out,HN4.out,HN5.out];rfl,?_,?_,?_,Below.of_row HF.out.1.1.2.2 (Nat.le_succ _) #[.int .u8 k,.string nm,.string ot,.slice a3' n3 c3',.slice a4' n4 c4',.slice a5' n5 c5',.int .i64 ps]⟩
   · exact exsAt_rf HF.out.1.2.1 hst (by omega)
   · exact stsAt_rf HF.out.1.2.2 hst (by omega)
   · exact stsAt_rf HF.out.2 hst (by omega)
theorem cpE:∀ x:Ex,CpE x:=by
 intro x
 induction x using Ex.ind with
 | h k o wd nm ks ps ih=>exact cp_E _ (cp_each_E ih)
theorem cpS:∀ x:St,CpS x:=by
 intro x
 induction x using St.ind with
 | h k n o e b l ps ihb ihl=>exact cp_S _ (cp_each_E fun y _=>cpE y) (cp_each_S ihb) (cp_each_S ihl)
theorem cpT (x:Th):CpT x:=cp_T x (cp_each_D fun y _=>cp_D y) (cp_each_S fun y _=>cpS y)
def fitP (p:Pg):Prop:=(32*p.shared.length≤140737488355328∧fitDs p.shared)∧(32*p.locks.length≤140737488355328∧fitDs p.locks)∧72*p.threads.length≤140737488355328∧fitTs p.threads
def K2 (w:World) (v0 v1 v2:Value) (W:World):Prop:=W.cell? ⟨w.heap.size,0,none⟩=some v0∧W.cell? ⟨w.heap.size,1,none⟩=some v1∧W.cell? ⟨w.heap.size,2,none⟩=some v2∧Own W w.heap.size 25 #[v0,v1,v2]∧Below w.heap.size w W
section
variable {w W W':World} {v0 v1 v2:Value}
theorem k2_of (h:Own W w.heap.size 25 #[v0,v1,v2]) (hb:Below w.heap.size w W):K2 w v0 v1 v2 W:=⟨by rw [cell_of_row _ _ 0 _ _ _ h];rfl,by rw [cell_of_row _ _ 1 _ _ _ h];rfl,by rw [cell_of_row _ _ 2 _ _ _ h];rfl,h,hb⟩
theorem k2_below (h:K2 w v0 v1 v2 W) (hb:Below W.heap.size W W'):K2 w v0 v1 v2 W':=k2_of (h.2.2.2.1.below hb) (h.2.2.2.2.trans (hb.mono h.2.2.2.2.size))
theorem k2_set (h:K2 w v0 v1 v2 W) (j:Nat) (v:Value):K2 w v0 v1 v2 (W.setCell ⟨w.heap.size+1,j,none⟩ v):=k2_of (h.2.2.2.1.setX j v (by omega)) (h.2.2.2.2.setCell (by show w.heap.size≤w.heap.size+1;omega) v)
end
def CpyP (x:Pg) (w:World) (e:Ending) (w':World):Prop:=∃ s1 s1' s2 s2' s3 s3',e=.returned (.agg #[.slice s1 x.shared.length s1',.slice s2 x.locks.length s2',.slice s3 x.threads.length s3'])∧dcsAt (Rf (w.heap.size+2) w') w' x.shared s1∧dcsAt (Rf (w.heap.size+2) w') w' x.locks s2∧thsAt (Rf (w.heap.size+2) w') w' x.threads s3∧Below w.heap.size w w'
theorem p_CopyF (x:Pg) (hf:fitP x) {v:Value} {w:World} (hv:pA w x v):Calls Tryz.prog 45 #[v] w (CpyP x w):=by
 obtain ⟨a1,c1,a2,c2,a3,c3,rfl,h1,h2,h3⟩:=hv
 obtain ⟨⟨f1,f2⟩,⟨f3,f4⟩,f5,f6⟩:=hf
 have HE0:Hid (∀ W,Below w.heap.size w W→Calls Tryz.prog 82 #[.slice a1 x.shared.length c1,.func (.func 83) #[] #[]] W fun e w'=>∃ a' c',e=.returned (.slice a' x.shared.length c')∧dcsAt (Rf W.heap.size w') w' x.shared a'∧Below W.heap.size W w'):=fun W hW=>cp_each_D (fun y _=>cp_D y) f2 f1 a1 c1 W (dcsAt_below h1 hW)
 have HE1:Hid (∀ W,Below w.heap.size w W→Calls Tryz.prog 82 #[.slice a2 x.locks.length c2,.func (.func 83) #[] #[]] W fun e w'=>∃ a' c',e=.returned (.slice a' x.locks.length c')∧dcsAt (Rf W.heap.size w') w' x.locks a'∧Below W.heap.size W w'):=fun W hW=>cp_each_D (fun y _=>cp_D y) f4 f3 a2 c2 W (dcsAt_below h2 hW)
 have HE2:Hid (∀ W,Below w.heap.size w W→Calls Tryz.prog 84 #[.slice a3 x.threads.length c3,.func (.func 85) #[] #[]] W fun e w'=>∃ a' c',e=.returned (.slice a' x.threads.length c')∧thsAt (Rf W.heap.size w') w' x.threads a'∧Below W.heap.size W w'):=fun W hW=>cp_each_T (fun y _=>cpT y) f6 f5 a3 c3 W (thsAt_below h3 hW)
 clear h1 h2 h3 f1 f2 f3 f4 f5 f6
 obtain ⟨n1,hn1⟩:∃ n,n=x.shared.length:=⟨_,rfl⟩
 obtain ⟨n2,hn2⟩:∃ n,n=x.locks.length:=⟨_,rfl⟩
 obtain ⟨n3,hn3⟩:∃ n,n=x.threads.length:=⟨_,rfl⟩
 rw [← hn1] at HE0 ⊢
 rw [← hn2] at HE1 ⊢
 rw [← hn3] at HE2 ⊢
 have HN:=Lib.hid (And.intro hn1 (And.intro hn2 hn3))
 clear hn1 hn2 hn3
 have HX:=Lib.hid (bx_new w 25 #[.slice a1 n1 c1,.slice a2 n2 c2,.slice a3 n3 c3] zPg)
 go_enter Tryz.func45,Tryz.ntmps45
 go_upto_region 1 with (fail)
 rw [show (#[.slice none 0 0,.slice none 0 0,.slice none 0 0]:Array Value)=zPg from rfl]
 obtain ⟨W0,hW0⟩:∃ W,W=(w.alloc (.cells #[.slice a1 n1 c1,.slice a2 n2 c2,.slice a3 n3 c3] 25)).alloc (.cells zPg 25):=⟨_,rfl⟩
 rw [← hW0] at HX ⊢
 clear hW0
 have hbd:Below w.heap.size w W0.drew:=below_drewN HX.out.2.2 1
 have H1:Hid (Own W0.drew w.heap.size 25 #[.slice a1 n1 c1,.slice a2 n2 c2,.slice a3 n3 c3]):=HX.out.1.drewN 1
 have H2:Hid (Own W0.drew (w.heap.size+1) 25 zPg):=HX.out.2.1.drewN 1
 go_region_held3 (fun W=>W.cell? ⟨w.heap.size,0,none⟩=some (.slice a1 n1 c1)∧W.cell? ⟨w.heap.size,1,none⟩=some (.slice a2 n2 c2)∧W.cell? ⟨w.heap.size,2,none⟩=some (.slice a3 n3 c3)∧Own W w.heap.size 25 #[.slice a1 n1 c1,.slice a2 n2 c2,.slice a3 n3 c3]∧Below w.heap.size w W) (first | exact k2_of H1.out hbd | exact k2_below (by assumption) (by assumption) | exact k2_set (k2_set (k2_set (by assumption) _ _) _ _) _ _) (first
  | (go_at_call_of 82 (Value.slice a1 n1 c1)
     refine (HE0.out _ (by assumption)).mono ?_
     rintro e w5 ⟨a1',c1',rfl,hx1,hb1⟩
     have Q5:=Lib.hid (H2.out.below hb1)
     have hbd5:=hbd.trans (hb1.mono hbd.size)
     have Y1:Hid (dcsAt (Rf (w.heap.size+2) w5) w5 x.shared a1'):=dcsAt_rfw hx1 (by have:=H2.out.lt;omega))
  | (go_at_call_of 82 (Value.slice a2 n2 c2)
     refine (HE1.out _ (by assumption)).mono ?_
     rintro e w6 ⟨a2',c2',rfl,hx2,hb2⟩
     have Q6:=Lib.hid (Q5.out.below hb2)
     have hbd6:=hbd5.trans (hb2.mono hbd5.size)
     have Z1:Hid (dcsAt (Rf (w.heap.size+2) w6) w6 x.shared a1'):=dcsAt_rf Y1.out (chg_below hb2) (Nat.le_refl _)
     have Z2:Hid (dcsAt (Rf (w.heap.size+2) w6) w6 x.locks a2'):=dcsAt_rfw hx2 (by have:=Q5.out.lt;omega))
  | (go_at_call_of 84 (Value.slice a3 n3 c3)
     refine (HE2.out _ (by assumption)).mono ?_
     rintro e w7 ⟨a3',c3',rfl,hx3,hb3⟩
     have Q7:=Lib.hid (Q6.out.below hb3)
     have U1:Hid (dcsAt (Rf (w.heap.size+2) w7) w7 x.shared a1'):=dcsAt_rf Z1.out (chg_below hb3) (Nat.le_refl _)
     have U2:Hid (dcsAt (Rf (w.heap.size+2) w7) w7 x.locks a2'):=dcsAt_rf Z2.out (chg_below hb3) (Nat.le_refl _)
     have U3:Hid (thsAt (Rf (w.heap.size+2) w7) w7 x.threads a3'):=thsAt_rfw hx3 (by have:=Q6.out.lt;omega)
     have q0:w7.cell? ⟨w.heap.size+1,0,none⟩=some (.slice none 0 0):=by rw [cell_of_row _ _ 0 _ _ _ Q7.out];rfl
     have q1:w7.cell? ⟨w.heap.size+1,1,none⟩=some (.slice none 0 0):=by rw [cell_of_row _ _ 1 _ _ _ Q7.out];rfl
     have q2:w7.cell? ⟨w.heap.size+1,2,none⟩=some (.slice none 0 0):=by rw [cell_of_row _ _ 2 _ _ _ Q7.out];rfl
     have qz0:w7.frozen? ⟨w.heap.size+1,0,none⟩=false:=own_frozen Q7.out 0
     have qz1:w7.frozen? ⟨w.heap.size+1,1,none⟩=false:=own_frozen Q7.out 1
     have qz2:w7.frozen? ⟨w.heap.size+1,2,none⟩=false:=own_frozen Q7.out 2))
 have R3:=((Q7.out.setJ 0 (.slice a1' n1 c1')).setJ 1 (.slice a2' n2 c2')).setJ 2 (.slice a3' n3 c3')
 obtain ⟨W8,hW8⟩:∃ W,W=((w7.setCell ⟨w.heap.size+1,0,none⟩ (.slice a1' n1 c1')).setCell ⟨w.heap.size+1,1,none⟩ (.slice a2' n2 c2')).setCell ⟨w.heap.size+1,2,none⟩ (.slice a3' n3 c3'):=⟨_,rfl⟩
 have hst:Chg (w.heap.size+2) w7 W8:=by
  rw [hW8]
  exact fun b hb hlt=>⟨fun o v hv=>by
   have k:∀ (W:World) (j:Nat) (u:Value),W.cell? ⟨b,o,none⟩=some v→(W.setCell ⟨w.heap.size+1,j,none⟩ u).cell? ⟨b,o,none⟩=some v:=fun W j u h=>by
    exact stays_setX (R:=fun c=>c=b) W j u (fun c hc=>by omega) b o v rfl h
   exact k _ _ _ (k _ _ _ (k _ _ _ hv)),fun h=>uf_setCell (uf_setCell (uf_setCell h _ _) _ _) _ _⟩
 have hBf:Below w.heap.size w W8:=by rw [hW8];exact ((by assumption:K2 w _ _ _ _).2.2.2.2)
 rw [← hW8] at R3 ⊢
 clear hW8
 go_wp2_with fail
 refine p_ret rowPg rfl R3 rfl rfl rfl ?_
 exact ⟨a1',c1',a2',c2',a3',c3',by rw [HN.out.1,HN.out.2.1,HN.out.2.2];rfl,dcsAt_rf U1.out hst (Nat.le_refl _),dcsAt_rf U2.out hst (Nat.le_refl _),thsAt_rf U3.out hst (Nat.le_refl _),hBf⟩
end Go.Proofs.YtimccjlhhjjcpaaGreatDoor

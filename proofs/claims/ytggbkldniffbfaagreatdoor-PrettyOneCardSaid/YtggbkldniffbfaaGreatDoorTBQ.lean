/- The proof, part 43: texts that belong together, in one. -/
import Derived.Test.YtggbkldniffbfaaGreatDoorTBN
import Derived.Test.YtggbkldniffbfaaGreatDoorTBP
import Derived.Test.YtggbkldniffbfaaGreatDoorTBL
set_option maxRecDepth 100000
set_option maxHeartbeats 20000000
namespace Go.Proofs.YtggbkldniffbfaaGreatDoor
open Go.RowKit
set_option linter.unusedVariables false
set_option maxRecDepth 100000
theorem res_ct {fn:Func} {T:TypeId} {i j:Tmp} (h:fn.results=#[.cell i T,.tmp j]) {tmps:Array Value} {P:Program} {w:World} {a:Addr} {x y:Value} (ha:tmps.getD i undef=.pointer (some a)) (hb:tmps.getD j undef=y)
 (h1:(loadVar T a).run P w=.ok x w):(results fn tmps).run P w=.ok (.tuple #[x,y]) w:=by
 have ha':tmps[i]?.getD undef=.pointer (some a):=by simpa using ha
 have hb':tmps[j]?.getD undef=y:=by simpa using hb
 simp [results,h,ha',hb',asAddr,h1,Result.andThen]
theorem p_ret_ct {T:TypeId} {n:Nat} (hT:RowT T n) {fn:Func} {p q:Tmp} {R:Ending→World→Prop} {a:Act} {w:World} (hr:fn.results=#[.cell p T,.tmp q]) {g:Nat} {cs:Array Value} {y:Value} (hg:Own w g T cs) (hp:a.tmps.getD p undef=.pointer (some ⟨g,0,none⟩)) (hq:a.tmps.getD q undef=y) (hd:a.defers=[]) (hn:cs.size=n)
 (h:R (.returned (.tuple #[.agg cs,y])) w):bodyPost Tryz.prog fn R .ret a w :=
 bodyPost_ret (res_ct hr hp hq (lv_row hT hg hn)) hd h
def RdP (y:Pg) (W:World) (e:Ending) (w':World):Prop:=∃ b1 d1 b2 d2 b3 d3,e=.returned (.tuple #[.agg #[.slice b1 y.shared.length d1,.slice b2 y.locks.length d2,.slice b3 y.threads.length d3],.int .i64 0,.agg #[.int .i64 0,.int .i64 0]])∧pgR W.heap.size y (.agg #[.slice b1 y.shared.length d1,.slice b2 y.locks.length d2,.slice b3 y.threads.length d3]) w'∧Below W.heap.size W w'
theorem pgR_below {n:Nat} {x:Pg} {v:Value} {w w':World} (h:pgR n x v w) (hb:Below w.heap.size w w'):pgR n x v w':=by
 obtain ⟨a1,c1,a2,c2,a3,c3,h0,h1,h2,h3⟩:=h
 have st:Stays (fun b=>n≤b∧b<w.heap.size) w w':=fun b o v hb2 hv=>by rw [← hv];exact hb.cell (p:=⟨b,o,none⟩) hb2.2
 exact ⟨a1,c1,a2,c2,a3,c3,h0,dcsAt_stays st (fun b hb=>hb.1) (dcsAt_in h1),dcsAt_stays st (fun b hb=>hb.1) (dcsAt_in h2),thsAt_stays st (fun b hb=>hb.1) (thsAt_in h3)⟩
theorem parse_of {s:ByteArray} {y:Pg} (h:said_P s=(some y,0,0,0)) {W:World} (TW:WTb W):Calls Tryz.prog 8 #[.string s] W (RdP y W):=by
 refine (p_Parse _ TW.pt.1.1 TW.pt.1.2).mono fun e w' hh=>?_
 rw [h] at hh
 obtain ⟨hb,v,rfl,hv⟩:=hh
 have hv2:pgR W.heap.size y v w':=hv
 have hpa:=hv2
 obtain ⟨b1,d1,b2,d2,b3,d3,rfl,_⟩:=hv2
 exact ⟨b1,d1,b2,d2,b3,d3,rfl,hpa,hb⟩
theorem said_cases (s:ByteArray):(∃ y,said_P s=(some y,0,0,0))∨∃ a b c,a≠0∧said_P s=(none,a,b,c):=by
 unfold said_P wholeR
 split
 · exact .inr ⟨_,_,_,by omega,rfl⟩
 · split
   · exact .inr ⟨_,_,_,by omega,rfl⟩
   · generalize endP (progP fnd (s.size : Int) (fuel ((scanX s).1.map Res.tk)) ((scanX s).1.map Res.tk)) = X
     cases X with
     | ok a r=>exact .inl ⟨a,rfl⟩
     | bad p q=>exact .inr ⟨30,p,q,by omega,rfl⟩
structure Bxp (g:Nat) (x:Pg) (r:Array Value) (W:World):Prop where
 own:Own W g 25 r
 tree:pA W x (.agg r)
theorem Bxp.below {W W':World} {g:Nat} {x:Pg} {r:Array Value} (h:Bxp g x r W) (hb:Below W.heap.size W W'):Bxp g x r W':=⟨h.own.below hb,pA_below h.tree hb⟩
structure Gd (w W:World):Prop where
 tab:WTb W
 bel:Below w.heap.size w W
theorem Gd.below {w W W':World} (h:Gd w W) (hb:Below W.heap.size W W'):Gd w W':=⟨h.tab.below hb,h.bel.trans (hb.mono h.bel.size)⟩
theorem p_Laid {x y:Pg} {t:List UInt8} (H:PrOk x) (hY:mkY (rP x) (tP x)=.inl t) (hS:said_P ⟨t.toArray⟩=(some y,0,0,0)) {v:Value} {w:World} (hv:pA w x v) (TT:WTb w):Calls Tryz.prog 13 #[v] w fun e w'=>∃ b1 d1 b2 d2 b3 d3,e=.returned (.tuple #[.agg #[.slice b1 y.shared.length d1,.slice b2 y.locks.length d2,.slice b3 y.threads.length d3],.int .i64 0])∧pA w' y (.agg #[.slice b1 y.shared.length d1,.slice b2 y.locks.length d2,.slice b3 y.threads.length d3])∧Below w.heap.size w w':=by
 have HPR:Hid (∀ W v,pA W x v→WTb W→Calls Tryz.prog 7 #[v] W (AttP W (.inl t))):=fun W v h T=>by
  have:=p_Print H h T
  rw [hY] at this
  exact this
 have HPA:Hid (∀ W,WTb W→Calls Tryz.prog 8 #[.string ⟨t.toArray⟩] W (RdP y W)):=fun W T=>parse_of hS T
 clear hY hS
 obtain ⟨a1,c1,a2,c2,a3,c3,rfl,p1,p2,p3⟩:=hv
 have B0:Below w.heap.size w ((w.alloc (.cells #[.slice a1 x.shared.length c1,.slice a2 x.locks.length c2,.slice a3 x.threads.length c3] 25)).alloc (.cells #[.slice none 0 0,.slice none 0 0,.slice none 0 0] 25)):=((Below.refl _ w).alloc (Nat.le_refl _) _).alloc (by simp only [World.size_alloc];omega) _
 have K0:=(Own.new w 25 #[.slice a1 x.shared.length c1,.slice a2 x.locks.length c2,.slice a3 x.threads.length c3]).alloc (.cells #[.slice none 0 0,.slice none 0 0,.slice none 0 0] 25)
 have R0:=Own.new (w.alloc (.cells #[.slice a1 x.shared.length c1,.slice a2 x.locks.length c2,.slice a3 x.threads.length c3] 25)) 25 #[.slice none 0 0,.slice none 0 0,.slice none 0 0]
 rw [World.size_alloc] at R0
 have P0:pA ((w.alloc (.cells #[.slice a1 x.shared.length c1,.slice a2 x.locks.length c2,.slice a3 x.threads.length c3] 25)).alloc (.cells #[.slice none 0 0,.slice none 0 0,.slice none 0 0] 25)) x (.agg #[.slice a1 x.shared.length c1,.slice a2 x.locks.length c2,.slice a3 x.threads.length c3]):=⟨a1,c1,a2,c2,a3,c3,rfl,dcsAt_below p1 B0,dcsAt_below p2 B0,thsAt_below p3 B0⟩
 have T0:=TT.below B0
 clear p1 p2 p3 TT
 generalize x.shared.length=n1 at B0 K0 R0 P0 T0
 generalize x.locks.length=n2 at B0 K0 R0 P0 T0
 generalize x.threads.length=n3 at B0 K0 R0 P0 T0
 obtain ⟨W0,hW0⟩:∃ W,W=(w.alloc (.cells #[.slice a1 n1 c1,.slice a2 n2 c2,.slice a3 n3 c3] 25)).alloc (.cells #[.slice none 0 0,.slice none 0 0,.slice none 0 0] 25):=⟨_,rfl⟩
 rw [← hW0] at B0 K0 R0 P0 T0
 have HW0:=Lib.hid hW0
 have HR:=Lib.hid R0
 have HP:=Lib.hid P0
 have HG:=Lib.hid (Gd.mk (w:=w) T0 B0)
 clear hW0 B0 R0 P0 T0
 go_enter Tryz.func13,Tryz.ntmps13
 go_upto_region 1 with (fail)
 rw [← HW0.out]
 clear HW0
 go_wp2_with (refine ld rowPg rfl rfl rfl K0 rfl ?_)
 go_at_call 7
 refine (HPR.out _ _ HP.out HG.out.tab).mono ?_
 rintro e w2 ⟨hb,rfl⟩
 have HG2:=Lib.hid (HG.out.below hb)
 have HR2:=Lib.hid (HR.out.below hb)
 clear hb K0 HG HR HP
 go_wp2_with fail
 go_at_call 8
 refine (HPA.out _ HG2.out.tab).mono ?_
 rintro e w3 ⟨b1,d1,b2,d2,b3,d3,rfl,hpy,hb⟩
 have HG3:=Lib.hid (HG2.out.below hb)
 have HR3:=Lib.hid (HR2.out.below hb)
 have HY:=Lib.hid hpy
 have hlt:=HR3.out.lt
 have hl2:=Lib.hid HR2.out.lt
 clear hb hpy HG2 HR2
 obtain ⟨m1,hm1⟩:∃ m,m=y.shared.length:=⟨_,rfl⟩
 obtain ⟨m2,hm2⟩:∃ m,m=y.locks.length:=⟨_,rfl⟩
 obtain ⟨m3,hm3⟩:∃ m,m=y.threads.length:=⟨_,rfl⟩
 rw [← hm1,← hm2,← hm3] at HY ⊢
 have HM:=Lib.hid (And.intro hm1 (And.intro hm2 hm3))
 clear hm1 hm2 hm3
 have B1:Below w3.heap.size w3 ((w3.alloc (.cells #[.slice none 0 0,.slice none 0 0,.slice none 0 0] 25)).alloc (.cells #[.int .i64 0,.int .i64 0] 36)):=((Below.refl _ w3).alloc (Nat.le_refl _) _).alloc (by simp only [World.size_alloc];omega) _
 have O1:=(Own.new w3 25 #[.slice none 0 0,.slice none 0 0,.slice none 0 0]).alloc (.cells #[.int .i64 0,.int .i64 0] 36)
 have O2:=(Own.new (w3.alloc (.cells #[.slice none 0 0,.slice none 0 0,.slice none 0 0] 25)) 36 #[.int .i64 0,.int .i64 0]).other (g:=w3.heap.size) #[.slice b1 m1 d1,.slice b2 m2 d2,.slice b3 m3 d3] (by simp only [World.size_alloc];omega)
 rw [World.size_alloc] at O2
 have B2:=Below.of_row (Below.of_row B1 (g:=w3.heap.size) (Nat.le_refl _) #[.slice b1 m1 d1,.slice b2 m2 d2,.slice b3 m3 d3]) (g:=w3.heap.size+1) (by omega) #[.int .i64 0,.int .i64 0]
 have K1:=(O1.row #[.slice b1 m1 d1,.slice b2 m2 d2,.slice b3 m3 d3]).other (g:=w3.heap.size+1) #[.int .i64 0,.int .i64 0] (by omega)
 have HG4:=Lib.hid (HG3.out.below B2)
 have HR4:=Lib.hid (HR3.out.below B2)
 have HY4:=Lib.hid (pgR_below HY.out B2)
 clear HG3 HR3 HY
 obtain ⟨W4,hW4⟩:∃ W,W=(((w3.alloc (.cells #[.slice none 0 0,.slice none 0 0,.slice none 0 0] 25)).alloc (.cells #[.int .i64 0,.int .i64 0] 36)).setRow w3.heap.size #[.slice b1 m1 d1,.slice b2 m2 d2,.slice b3 m3 d3]).setRow (w3.heap.size+1) #[.int .i64 0,.int .i64 0]:=⟨_,rfl⟩
 rw [← hW4] at K1 HG4 HR4 HY4
 have HW4:=Lib.hid hW4
 have HK1:=Lib.hid K1
 clear hW4 B1 B2 K1
 go_upto_region 5 with (first | (refine st rowPg rfl rfl O1 rfl rfl (by rfl) (by rfl) (by kernel_rfl) ?_) | (refine st rowFl rfl rfl O2 rfl rfl (by rfl) (by rfl) (by kernel_rfl) ?_))
 rw [← HW4.out]
 clear HW4 O1 O2
 have R4:=HR4.out
 go_wp2_with (first | (refine ld rowPg rfl rfl rfl HK1.out rfl ?_) | (refine st rowPg rfl rfl R4 rfl rfl (by rfl) (by rfl) (by kernel_rfl) ?_))
 refine p_ret_ct rowPg rfl (R4.row #[.slice b1 m1 d1,.slice b2 m2 d2,.slice b3 m3 d3]) rfl rfl rfl rfl ?_
 obtain ⟨hm1,hm2,hm3⟩:=HM.out
 subst hm1 hm2 hm3
 exact ⟨b1,d1,b2,d2,b3,d3,rfl,pA_of (pgR_stays HY4.out (stays_row W4 _ (fun b hb=>by have:=hl2.out;have h:w2.heap.size≤b:=hb;omega)) (Nat.le_refl _)),Below.of_row HG4.out.bel (Nat.le_succ _) _⟩
theorem one_walk (s:ByteArray) {w:World} (TT:WTb w):Calls Tryz.prog 4 #[.string s] w fun e w'=>e=.returned (.bool true)∧Below w.heap.size w w':=by
 have HBG:Hid (∀ W,WTb W→Calls Tryz.prog 6 #[] W fun e w'=>e=.returned (.bool true)∧Below W.heap.size W w'):=fun W T=>p_begins4 T
 have hSP:(∃ x,(PrOk x∧rP x=true)∧∀ W,WTb W→Calls Tryz.prog 8 #[.string s] W (RdP x W))∨∃ a b c,a≠0∧∀ W,WTb W→Calls Tryz.prog 8 #[.string s] W fun e w'=>e=.returned (.tuple #[.agg #[.slice none 0 0,.slice none 0 0,.slice none 0 0],.int .i64 a,.agg #[.int .i64 b,.int .i64 c]])∧Below W.heap.size W w':=by
  rcases said_cases s with ⟨x,hx⟩ | ⟨a,b,c,h0,hx⟩
  · exact .inl ⟨x,said_right hx,fun W T=>parse_of hx T⟩
  · refine .inr ⟨a, b, c, h0, fun W T => (p_Parse _ T.pt.1.1 T.pt.1.2).mono fun e w' hh => ?_⟩
    rw [hx] at hh
    obtain ⟨hb,v,rfl,hv⟩:=hh
    obtain rfl:v=.agg zPg:=hv
    exact ⟨rfl,hb⟩
 have HT:=Lib.hid TT
 have HSP:=Lib.hid hSP
 clear TT hSP
 go_enter Tryz.func4,Tryz.ntmps4
 go_wp2_with fail
 go_at_call 6
 refine (HBG.out _ HT.out).mono ?_
 rintro e w1 ⟨rfl,hb⟩
 have HG1:=Lib.hid (Gd.mk (w:=w) (HT.out.below hb) hb)
 clear hb HT
 go_wp2_with fail
 go_at_call 8
 rcases HSP.out with ⟨x,hx,hP⟩ | ⟨a,b,c,ha,hP⟩
 rotate_left
 ·
  refine (hP _ HG1.out.tab).mono ?_
  rintro e w2 ⟨rfl,hb⟩
  have HG2:=Lib.hid (HG1.out.below hb)
  have q1:(a==0)=false:=by simpa using ha
  have q2:(a != 0)=true:=by simpa using ha
  clear hb HG1 ha hP HSP
  have B1:Below w2.heap.size w2 ((w2.alloc (.cells #[.slice none 0 0,.slice none 0 0,.slice none 0 0] 25)).alloc (.cells #[.int .i64 0,.int .i64 0] 36)):=((Below.refl _ w2).alloc (Nat.le_refl _) _).alloc (by simp only [World.size_alloc];omega) _
  have O1:=(Own.new w2 25 #[.slice none 0 0,.slice none 0 0,.slice none 0 0]).alloc (.cells #[.int .i64 0,.int .i64 0] 36)
  have O2:=(Own.new (w2.alloc (.cells #[.slice none 0 0,.slice none 0 0,.slice none 0 0] 25)) 36 #[.int .i64 0,.int .i64 0]).other (g:=w2.heap.size) #[.slice none 0 0,.slice none 0 0,.slice none 0 0] (by simp only [World.size_alloc];omega)
  rw [World.size_alloc] at O2
  have B2:=Below.of_row (Below.of_row B1 (g:=w2.heap.size) (Nat.le_refl _) #[.slice none 0 0,.slice none 0 0,.slice none 0 0]) (g:=w2.heap.size+1) (by omega) #[.int .i64 b,.int .i64 c]
  have K1:=(O1.row #[.slice none 0 0,.slice none 0 0,.slice none 0 0]).other (g:=w2.heap.size+1) #[.int .i64 b,.int .i64 c] (by omega)
  have HG3:=Lib.hid (HG2.out.below B2)
  clear HG2
  obtain ⟨W3,hW3⟩:∃ W,W=(((w2.alloc (.cells #[.slice none 0 0,.slice none 0 0,.slice none 0 0] 25)).alloc (.cells #[.int .i64 0,.int .i64 0] 36)).setRow w2.heap.size #[.slice none 0 0,.slice none 0 0,.slice none 0 0]).setRow (w2.heap.size+1) #[.int .i64 b,.int .i64 c]:=⟨_,rfl⟩
  rw [← hW3] at K1 HG3
  have HW3:=Lib.hid hW3
  have HK1:=Lib.hid K1
  clear hW3 B1 B2 K1
  go_upto_region 4 with (first | (refine st rowPg rfl rfl O1 rfl rfl (by rfl) (by rfl) (by kernel_rfl) ?_) | (refine st rowFl rfl rfl O2 rfl rfl (by rfl) (by rfl) (by kernel_rfl) ?_))
  rw [← HW3.out]
  clear HW3 O1 O2
  have c2:W3.cell? ⟨w2.heap.size,2,none⟩=some (.slice none 0 0):=by rw [cell_of_row _ _ 2 _ _ _ HK1.out];rfl
  go_wp2_with fail
  go_ret
  exact ⟨rfl,HG3.out.bel⟩
 refine (hP _ HG1.out.tab).mono ?_
 rintro e w2 ⟨a1,c1,a2,c2,a3,c3,rfl,hpx,hb⟩
 have HG2:=Lib.hid (HG1.out.below hb)
 have HX2:=Lib.hid (pA_of hpx)
 have HXX:=Lib.hid hx
 clear hb hpx HG1 hx hP HSP
 obtain ⟨n1,hn1⟩:∃ m,m=x.shared.length:=⟨_,rfl⟩
 obtain ⟨n2,hn2⟩:∃ m,m=x.locks.length:=⟨_,rfl⟩
 obtain ⟨n3,hn3⟩:∃ m,m=x.threads.length:=⟨_,rfl⟩
 rw [← hn1,← hn2,← hn3] at HX2 ⊢
 clear hn1 hn2 hn3
 have B1:Below w2.heap.size w2 ((w2.alloc (.cells #[.slice none 0 0,.slice none 0 0,.slice none 0 0] 25)).alloc (.cells #[.int .i64 0,.int .i64 0] 36)):=((Below.refl _ w2).alloc (Nat.le_refl _) _).alloc (by simp only [World.size_alloc];omega) _
 have O1:=(Own.new w2 25 #[.slice none 0 0,.slice none 0 0,.slice none 0 0]).alloc (.cells #[.int .i64 0,.int .i64 0] 36)
 have O2:=(Own.new (w2.alloc (.cells #[.slice none 0 0,.slice none 0 0,.slice none 0 0] 25)) 36 #[.int .i64 0,.int .i64 0]).other (g:=w2.heap.size) #[.slice a1 n1 c1,.slice a2 n2 c2,.slice a3 n3 c3] (by simp only [World.size_alloc];omega)
 rw [World.size_alloc] at O2
 have B2:=Below.of_row (Below.of_row B1 (g:=w2.heap.size) (Nat.le_refl _) #[.slice a1 n1 c1,.slice a2 n2 c2,.slice a3 n3 c3]) (g:=w2.heap.size+1) (by omega) #[.int .i64 0,.int .i64 0]
 have K1:=(O1.row #[.slice a1 n1 c1,.slice a2 n2 c2,.slice a3 n3 c3]).other (g:=w2.heap.size+1) #[.int .i64 0,.int .i64 0] (by omega)
 have HG3:=Lib.hid (HG2.out.below B2)
 have HX3:=Lib.hid (pA_below HX2.out B2)
 clear HG2 HX2
 obtain ⟨W3,hW3⟩:∃ W,W=(((w2.alloc (.cells #[.slice none 0 0,.slice none 0 0,.slice none 0 0] 25)).alloc (.cells #[.int .i64 0,.int .i64 0] 36)).setRow w2.heap.size #[.slice a1 n1 c1,.slice a2 n2 c2,.slice a3 n3 c3]).setRow (w2.heap.size+1) #[.int .i64 0,.int .i64 0]:=⟨_,rfl⟩
 rw [← hW3] at K1 HG3 HX3
 have HW3:=Lib.hid hW3
 have HK1:=Lib.hid K1
 clear hW3 B1 B2 K1
 go_upto_region 4 with (first | (refine st rowPg rfl rfl O1 rfl rfl (by rfl) (by rfl) (by kernel_rfl) ?_) | (refine st rowFl rfl rfl O2 rfl rfl (by rfl) (by rfl) (by kernel_rfl) ?_))
 rw [← HW3.out]
 clear HW3 O1 O2
 have HB3:=Lib.hid (Bxp.mk HK1.out HX3.out)
 have k3:=HB3.out.own
 clear HX3 HK1
 go_wp2_with (refine ld rowPg rfl rfl rfl k3 rfl ?_)
 clear k3
 go_at_call 7
 by_cases hl:(tP x).length≤65536
 rotate_left
 · have hY : mkY (rP x) (tP x) = .inr 4 := by simp [mkY, HXX.out.2, hl]
   refine (p_Print HXX.out.1 HB3.out.tree HG3.out.tab).mono ?_
   rw [hY]
   rintro e w4 ⟨hb,rfl⟩
   have HG4:=Lib.hid (HG3.out.below hb)
   clear hb hY hl HG3 HB3 HXX
   go_wp2_with fail
   go_ret
   exact ⟨rfl,HG4.out.bel⟩
 obtain ⟨t,ht⟩:∃ t,t=tP x:=⟨_,rfl⟩
 have hY:mkY (rP x) (tP x)=.inl t:=by rw [ht];simp [mkY,HXX.out.2,hl]
 obtain ⟨y,s1,s2⟩:=said_P_back HXX.out.2 HXX.out.1.2.1 HXX.out.1.2.2.1 hl
 rw [← ht] at s1
 have hy:=said_right s1
 have hYy:mkY (rP y) (tP y)=.inl t:=by rw [← same_tP s2,hy.2,← HXX.out.2];exact hY
 obtain ⟨ts,hts⟩:∃ ts,ts=(⟨t.toArray⟩:ByteArray):=⟨_,rfl⟩
 have HPA:Hid (∀ W,WTb W→Calls Tryz.prog 8 #[.string ts] W (RdP y W)):=fun W T=>by rw [hts];exact parse_of s1 T
 have HPR:Hid (∀ W v,pA W y v→WTb W→Calls Tryz.prog 7 #[v] W fun e w'=>e=.returned (.tuple #[.string ts,.int .i64 0])∧Below W.heap.size W w'):=fun W v h T=>by
  have:=p_Print hy.1 h T
  rw [hYy] at this
  rw [hts]
  exact this.mono fun e w' h=>⟨h.2,h.1⟩
 have HLD:Hid (∀ W v,pA W x v→WTb W→Calls Tryz.prog 13 #[v] W fun e w'=>∃ b1 d1 b2 d2 b3 d3,e=.returned (.tuple #[.agg #[.slice b1 y.shared.length d1,.slice b2 y.locks.length d2,.slice b3 y.threads.length d3],.int .i64 0])∧pA w' y (.agg #[.slice b1 y.shared.length d1,.slice b2 y.locks.length d2,.slice b3 y.threads.length d3])∧Below W.heap.size W w'):=fun W v h T=>p_Laid HXX.out.1 hY s1 h T
 have HXA:Hid (∀ W v u,pA W y v→pA W y u→Calls Tryz.prog 14 #[v,u] W fun e w'=>e=.returned (.bool true)∧Below W.heap.size W w'):=fun W v u h1 h2=>r_Exactly y hy.1.1 h1 h2
 have HPX:Hid (∀ W v,pA W x v→WTb W→Calls Tryz.prog 7 #[v] W fun e w'=>e=.returned (.tuple #[.string ts,.int .i64 0])∧Below W.heap.size W w'):=fun W v h T=>by
  have:=p_Print HXX.out.1 h T
  rw [hY] at this
  rw [hts]
  exact this.mono fun e w' h=>⟨h.2,h.1⟩
 refine (HPX.out _ _ HB3.out.tree HG3.out.tab).mono ?_
 rintro e w4 ⟨rfl,hb⟩
 have HG4:=Lib.hid (HG3.out.below hb)
 have HB4:=Lib.hid (HB3.out.below hb)
 clear hb hY hYy hy s1 s2 hts ht hl HG3 HB3 HXX HPX
 go_wp2_with fail
 go_at_call 8
 refine (HPA.out _ HG4.out.tab).mono ?_
 rintro e w5 ⟨b1,d1,b2,d2,b3,d3,rfl,hpy,hb⟩
 have HG5:=Lib.hid (HG4.out.below hb)
 have HB5:=Lib.hid (HB4.out.below hb)
 have HY5:=Lib.hid (pA_of hpy)
 clear hb hpy HG4 HB4 HPA
 obtain ⟨m1,hm1⟩:∃ m,m=y.shared.length:=⟨_,rfl⟩
 obtain ⟨m2,hm2⟩:∃ m,m=y.locks.length:=⟨_,rfl⟩
 obtain ⟨m3,hm3⟩:∃ m,m=y.threads.length:=⟨_,rfl⟩
 rw [← hm1,← hm2,← hm3] at HY5 ⊢
 rw [← hm1,← hm2,← hm3] at HLD
 clear hm1 hm2 hm3
 have B1:Below w5.heap.size w5 ((w5.alloc (.cells #[.slice none 0 0,.slice none 0 0,.slice none 0 0] 25)).alloc (.cells #[.int .i64 0,.int .i64 0] 36)):=((Below.refl _ w5).alloc (Nat.le_refl _) _).alloc (by simp only [World.size_alloc];omega) _
 have O1:=(Own.new w5 25 #[.slice none 0 0,.slice none 0 0,.slice none 0 0]).alloc (.cells #[.int .i64 0,.int .i64 0] 36)
 have O2:=(Own.new (w5.alloc (.cells #[.slice none 0 0,.slice none 0 0,.slice none 0 0] 25)) 36 #[.int .i64 0,.int .i64 0]).other (g:=w5.heap.size) #[.slice b1 m1 d1,.slice b2 m2 d2,.slice b3 m3 d3] (by simp only [World.size_alloc];omega)
 rw [World.size_alloc] at O2
 have B2:=Below.of_row (Below.of_row B1 (g:=w5.heap.size) (Nat.le_refl _) #[.slice b1 m1 d1,.slice b2 m2 d2,.slice b3 m3 d3]) (g:=w5.heap.size+1) (by omega) #[.int .i64 0,.int .i64 0]
 have K1:=(O1.row #[.slice b1 m1 d1,.slice b2 m2 d2,.slice b3 m3 d3]).other (g:=w5.heap.size+1) #[.int .i64 0,.int .i64 0] (by omega)
 have HG6:=Lib.hid (HG5.out.below B2)
 have HB6:=Lib.hid (HB5.out.below B2)
 have HY6:=Lib.hid (pA_below HY5.out B2)
 clear HG5 HB5 HY5
 obtain ⟨W6,hW6⟩:∃ W,W=(((w5.alloc (.cells #[.slice none 0 0,.slice none 0 0,.slice none 0 0] 25)).alloc (.cells #[.int .i64 0,.int .i64 0] 36)).setRow w5.heap.size #[.slice b1 m1 d1,.slice b2 m2 d2,.slice b3 m3 d3]).setRow (w5.heap.size+1) #[.int .i64 0,.int .i64 0]:=⟨_,rfl⟩
 rw [← hW6] at K1 HG6 HB6 HY6
 have HW6:=Lib.hid hW6
 have HK1:=Lib.hid K1
 clear hW6 B1 B2 K1
 go_upto_region 10 with (first | (refine st rowPg rfl rfl O1 rfl rfl (by rfl) (by rfl) (by kernel_rfl) ?_) | (refine st rowFl rfl rfl O2 rfl rfl (by rfl) (by rfl) (by kernel_rfl) ?_))
 rw [← HW6.out]
 clear HW6 O1 O2
 have HC6:=Lib.hid (Bxp.mk HK1.out HY6.out)
 have k6:=HC6.out.own
 clear HY6 HK1
 go_wp2_with (refine ld rowPg rfl rfl rfl k6 rfl ?_)
 clear k6
 go_at_call 7
 refine (HPR.out _ _ HC6.out.tree HG6.out.tab).mono ?_
 rintro e w7 ⟨rfl,hb⟩
 have HG7:=Lib.hid (HG6.out.below hb)
 have HB7:=Lib.hid (HB6.out.below hb)
 have HC7:=Lib.hid (HC6.out.below hb)
 have k7:=HB7.out.own
 clear hb HG6 HB6 HC6 HPR
 go_wp2_with (refine ld rowPg rfl rfl rfl k7 rfl ?_)
 clear k7
 go_at_call 13
 refine (HLD.out _ _ HB7.out.tree HG7.out.tab).mono ?_
 rintro e w8 ⟨e1,f1,e2,f2,e3,f3,rfl,hpz,hb⟩
 have HG8:=Lib.hid (HG7.out.below hb)
 have HC8:=Lib.hid (HC7.out.below hb)
 have O3:=Own.new w8 25 #[.slice none 0 0,.slice none 0 0,.slice none 0 0]
 have B3:=Below.of_row ((Below.refl w8.heap.size w8).alloc (Nat.le_refl _) (.cells #[.slice none 0 0,.slice none 0 0,.slice none 0 0] 25)) (g:=w8.heap.size) (Nat.le_refl _) #[.slice e1 m1 f1,.slice e2 m2 f2,.slice e3 m3 f3]
 have HG9:=Lib.hid (HG8.out.below B3)
 have HC9:=Lib.hid (HC8.out.below B3)
 have HD9:=Lib.hid (Bxp.mk (O3.row #[.slice e1 m1 f1,.slice e2 m2 f2,.slice e3 m3 f3]) (pA_below hpz B3))
 obtain ⟨W9,hW9⟩:∃ W,W=(w8.alloc (.cells #[.slice none 0 0,.slice none 0 0,.slice none 0 0] 25)).setRow w8.heap.size #[.slice e1 m1 f1,.slice e2 m2 f2,.slice e3 m3 f3]:=⟨_,rfl⟩
 rw [← hW9] at HG9 HC9 HD9
 have HW9:=Lib.hid hW9
 clear hb hpz HG7 HB7 HC7 HG8 HC8 HLD B3 hW9
 go_upto_region 12 with (refine st rowPg rfl rfl O3 rfl rfl (by rfl) (by rfl) (by kernel_rfl) ?_)
 rw [← HW9.out]
 clear HW9 O3
 have g0:W9.cell? ⟨w8.heap.size,0,none⟩=some (.slice e1 m1 f1):=by rw [cell_of_row _ _ 0 _ _ _ HD9.out.own];rfl
 have g1:W9.cell? ⟨w8.heap.size,1,none⟩=some (.slice e2 m2 f2):=by rw [cell_of_row _ _ 1 _ _ _ HD9.out.own];rfl
 have g2:W9.cell? ⟨w8.heap.size,2,none⟩=some (.slice e3 m3 f3):=by rw [cell_of_row _ _ 2 _ _ _ HD9.out.own];rfl
 have h0:W9.cell? ⟨w5.heap.size,0,none⟩=some (.slice b1 m1 d1):=by rw [cell_of_row _ _ 0 _ _ _ HC9.out.own];rfl
 have h1:W9.cell? ⟨w5.heap.size,1,none⟩=some (.slice b2 m2 d2):=by rw [cell_of_row _ _ 1 _ _ _ HC9.out.own];rfl
 have h2:W9.cell? ⟨w5.heap.size,2,none⟩=some (.slice b3 m3 d3):=by rw [cell_of_row _ _ 2 _ _ _ HC9.out.own];rfl
 go_wp2_with fail
 go_at_call 14
 refine (HXA.out _ _ _ HD9.out.tree HC9.out.tree).mono ?_
 rintro e w10 ⟨rfl,hb⟩
 have HG10:=Lib.hid (HG9.out.below hb)
 clear hb g0 g1 g2 h0 h1 h2 HG9 HC9 HD9
 go_wp2_with fail
 go_ret
 exact ⟨rfl,HG10.out.bel⟩
open Go.RowKit
set_option linter.unusedVariables false
set_option maxRecDepth 100000
def TB (x:Pg) (ea:Ex) (w:World) (rp re:Array Value) (W:World):Prop:=Own W w.heap.size 25 rp∧Own W (w.heap.size+1) 30 re∧pA W x (.agg rp)∧exV (fun _=>True) W ea re.toList∧WTb W∧Below w.heap.size w W
open Go.ChangeShapes Go.WideShapes Go.ChangeAt Go.WideMaps Go.WideElems Go.RowKit
set_option linter.unusedVariables false
abbrev PLB:List (String × DataW Unit):=[("math/bits.deBruijn32tab",Rows.laid_math_bits_deBruijn32tab),("math/bits.deBruijn64tab",Rows.laid_math_bits_deBruijn64tab),("internal/strconv.uint64pow10",Rows.laid_internal_strconv_uint64pow10),("stile/words.levels",Rows.laid_stile_words_levels),("stile/words.signs",Rows.laid_stile_words_signs),("stile/lexer.languageWords",Rows.laid_stile_lexer_languageWords),("stile/lexer.longSigns",Rows.laid_stile_lexer_longSigns),("stile/pretty.shapes",Rows.laid_stile_pretty_shapes)]
theorem wtb_of_laid {W:World} (h:laidMetH Tryz.prog PLB W):WTb W:=by
 rw [MakeChecks.laidMetH_plain _ _ _ (by kernel_rfl)] at h
 obtain ⟨ps,h,_⟩:=h
 exact wtb_of_vars h (by simp) (by simp) ⟨ltabs_of_vars h (by simp) (by simp),tabs_of_vars h (by simp) (by simp)⟩
theorem bdoor_met (os:Os) (args:Array Value):laidMetH Tryz.prog PLB ((World.doorLaid Tryz.prog 400 os).forCall (fun _ _=>0) ⟨#[],args,[]⟩).memory :=
 laidMetH_of_parts3 (fuel:=8) (laidMet_of_run' 8 (by kernel_rfl) (by kernel_rfl)) (by kernel_rfl) (by kernel_rfl)
end Go.Proofs.YtggbkldniffbfaaGreatDoor

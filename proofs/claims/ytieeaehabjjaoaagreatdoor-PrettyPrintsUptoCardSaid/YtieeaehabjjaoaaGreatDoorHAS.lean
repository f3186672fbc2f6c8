/- The proof, part 19: texts that belong together, in one. -/
import Derived.Test.YtieeaehabjjaoaaGreatDoorHAR
set_option maxRecDepth 100000
set_option maxHeartbeats 20000000
namespace Go.Proofs.YtieeaehabjjaoaaGreatDoor
open Go.RowKit
set_option linter.unusedVariables false
set_option maxRecDepth 100000
theorem res1c {fn:Func} {T:TypeId} {i:Tmp} (h:fn.results=#[.cell i T]) {tmps:Array Value} {P:Program} {w:World} {a:Addr} {x:Value} (ha:tmps.getD i undef=.pointer (some a)) (h1:(loadVar T a).run P w=.ok x w):(results fn tmps).run P w=.ok x w:=by
 have ha':tmps[i]?.getD undef=.pointer (some a):=by simpa using ha
 simp [results,h,ha',asAddr,h1]
def nmX (s:ByteArray):Ex:=.mk 2 0 0 s [] 0
theorem p_name4 (s:ByteArray) (w:World):Calls Tryz.prog 30 #[.string s] w fun e w'=>e=.returned (.agg #[.int .u8 2,.int .u8 0,.int .i64 0,.string s,.slice none 0 0,.int .i64 0])∧Below w.heap.size w w':=by
 have O1:=Own.new w 59 #[.int .u8 0,.int .u8 0,.int .i64 0,.string ⟨#[]⟩,.slice none 0 0,.int .i64 0]
 have B1:Below w.heap.size w (w.alloc (.cells #[.int .u8 0,.int .u8 0,.int .i64 0,.string ⟨#[]⟩,.slice none 0 0,.int .i64 0] 59)):=(Below.refl _ w).alloc (Nat.le_refl _) _
 have p1:=Lib.hid (O1.row #[.int .u8 2,.int .u8 0,.int .i64 0,.string s,.slice none 0 0,.int .i64 0])
 have B2:=Lib.hid (Below.of_row B1 (g:=w.heap.size) (Nat.le_refl _) #[.int .u8 2,.int .u8 0,.int .i64 0,.string s,.slice none 0 0,.int .i64 0])
 go_enter Tryz.func30,Tryz.ntmps30
 go_wp2_with (refine st rowEx rfl rfl O1 rfl rfl (by rfl) (by rfl) (by kernel_rfl) ?_)
 refine bodyPost_ret (res1c rfl rfl (lv_row rowEx p1.out rfl)) rfl ⟨rfl,B2.out⟩
theorem p_binary4 {op kx ox wx px ky oy wy py:Int} {nx ny:ByteArray} {ax ay:Option Addr} {mx cx my cy:Nat} {x y:Ex} {w:World} (hx:exV (fun _=>True) w x [.int .u8 kx,.int .u8 ox,.int .i64 wx,.string nx,.slice ax mx cx,.int .i64 px]) (hy:exV (fun _=>True) w y [.int .u8 ky,.int .u8 oy,.int .i64 wy,.string ny,.slice ay my cy,.int .i64 py]) :
 Calls Tryz.prog 29 #[.int .u8 op,.agg #[.int .u8 kx,.int .u8 ox,.int .i64 wx,.string nx,.slice ax mx cx,.int .i64 px],.agg #[.int .u8 ky,.int .u8 oy,.int .i64 wy,.string ny,.slice ay my cy,.int .i64 py]] w fun e w'=>∃ a,e=.returned (.agg #[.int .u8 4,.int .u8 op,.int .i64 0,.string ⟨#[]⟩,.slice a 2 2,.int .i64 0])∧exsAt (fun _=>True) w' [x,y] a∧Below w.heap.size w w':=by
 have O1:=((Own.new w 59 #[.int .u8 kx,.int .u8 ox,.int .i64 wx,.string nx,.slice ax mx cx,.int .i64 px]).alloc (.cells #[.int .u8 ky,.int .u8 oy,.int .i64 wy,.string ny,.slice ay my cy,.int .i64 py] 59)).alloc (.cells #[.int .u8 0,.int .u8 0,.int .i64 0,.string ⟨#[]⟩,.slice none 0 0,.int .i64 0] 59)
 have O2:=(Own.new (w.alloc (.cells #[.int .u8 kx,.int .u8 ox,.int .i64 wx,.string nx,.slice ax mx cx,.int .i64 px] 59)) 59 #[.int .u8 ky,.int .u8 oy,.int .i64 wy,.string ny,.slice ay my cy,.int .i64 py]).alloc (.cells #[.int .u8 0,.int .u8 0,.int .i64 0,.string ⟨#[]⟩,.slice none 0 0,.int .i64 0] 59)
 have O3:=Own.new ((w.alloc (.cells #[.int .u8 kx,.int .u8 ox,.int .i64 wx,.string nx,.slice ax mx cx,.int .i64 px] 59)).alloc (.cells #[.int .u8 ky,.int .u8 oy,.int .i64 wy,.string ny,.slice ay my cy,.int .i64 py] 59)) 59 #[.int .u8 0,.int .u8 0,.int .i64 0,.string ⟨#[]⟩,.slice none 0 0,.int .i64 0]
 rw [World.size_alloc] at O2
 rw [World.size_alloc,World.size_alloc] at O3
 obtain ⟨W1,hW1⟩:∃ W,W=((w.alloc (.cells #[.int .u8 kx,.int .u8 ox,.int .i64 wx,.string nx,.slice ax mx cx,.int .i64 px] 59)).alloc (.cells #[.int .u8 ky,.int .u8 oy,.int .i64 wy,.string ny,.slice ay my cy,.int .i64 py] 59)).alloc (.cells #[.int .u8 0,.int .u8 0,.int .i64 0,.string ⟨#[]⟩,.slice none 0 0,.int .i64 0] 59):=⟨_,rfl⟩
 have hs1:W1.heap.size=w.heap.size+3:=by rw [hW1];simp only [World.size_alloc]
 have B1:Below w.heap.size w W1:=by rw [hW1];exact (((Below.refl _ w).alloc (Nat.le_refl _) _).alloc (by simp only [World.size_alloc];omega) _).alloc (by simp only [World.size_alloc];omega) _
 rw [← hW1] at O1 O2 O3
 have HW1:=Lib.hid hW1
 have HX:=Lib.hid hx
 have HY:=Lib.hid hy
 have HS:=Lib.hid hs1
 have HB:=Lib.hid B1
 clear hW1 hx hy hs1 B1
 have K4:=O3.alloc (.cells #[.int .u8 kx,.int .u8 ox,.int .i64 wx,.string nx,.slice ax mx cx,.int .i64 px,.int .u8 ky,.int .u8 oy,.int .i64 wy,.string ny,.slice ay my cy,.int .i64 py] 59)
 go_enter Tryz.func29,Tryz.ntmps29
 go_upto_region 1 with (fail)
 rw [← HW1.out]
 go_wp2_with (first | (refine ld rowEx rfl rfl rfl O1 rfl ?_) | (refine ld rowEx rfl rfl rfl O2 rfl ?_) | (refine st rowEx rfl rfl K4 rfl rfl (by rfl) (by rfl) (by kernel_rfl) ?_))
 have KB:=(Own.new W1 59 #[.int .u8 kx,.int .u8 ox,.int .i64 wx,.string nx,.slice ax mx cx,.int .i64 px,.int .u8 ky,.int .u8 oy,.int .i64 wy,.string ny,.slice ay my cy,.int .i64 py]).other (g:=w.heap.size+1+1) #[.int .u8 4,.int .u8 op,.int .i64 0,.string ⟨#[]⟩,.slice (some ⟨W1.heap.size,0,none⟩) 2 2,.int .i64 0] (by have:=HS.out;omega)
 have K6:=K4.row #[.int .u8 4,.int .u8 op,.int .i64 0,.string ⟨#[]⟩,.slice (some ⟨W1.heap.size,0,none⟩) 2 2,.int .i64 0]
 have B2:=Below.of_row (HB.out.alloc HB.out.size (.cells #[.int .u8 kx,.int .u8 ox,.int .i64 wx,.string nx,.slice ax mx cx,.int .i64 px,.int .u8 ky,.int .u8 oy,.int .i64 wy,.string ny,.slice ay my cy,.int .i64 py] 59)) (g:=w.heap.size+1+1) (by omega) #[.int .u8 4,.int .u8 op,.int .i64 0,.string ⟨#[]⟩,.slice (some ⟨W1.heap.size,0,none⟩) 2 2,.int .i64 0]
 generalize (W1.alloc (.cells #[.int .u8 kx,.int .u8 ox,.int .i64 wx,.string nx,.slice ax mx cx,.int .i64 px,.int .u8 ky,.int .u8 oy,.int .i64 wy,.string ny,.slice ay my cy,.int .i64 py] 59)).setRow (w.heap.size+1+1) #[.int .u8 4,.int .u8 op,.int .i64 0,.string ⟨#[]⟩,.slice (some ⟨W1.heap.size,0,none⟩) 2 2,.int .i64 0]=W2 at KB K6 B2 ⊢
 have ex:exV (fun _=>True) W2 x [.int .u8 kx,.int .u8 ox,.int .i64 wx,.string nx,.slice ax mx cx,.int .i64 px]:=by
  obtain ⟨a,c,h1,h2⟩:=HX.out
  exact ⟨a,c,h1,exsAt_below h2 B2⟩
 have ey:exV (fun _=>True) W2 y [.int .u8 ky,.int .u8 oy,.int .i64 wy,.string ny,.slice ay my cy,.int .i64 py]:=by
  obtain ⟨a,c,h1,h2⟩:=HY.out
  exact ⟨a,c,h1,exsAt_below h2 B2⟩
 refine bodyPost_ret (res1c rfl rfl (lv_row rowEx K6 rfl)) rfl ⟨some ⟨W1.heap.size,0,none⟩,rfl,.inr ⟨W1.heap.size,0,rfl,trivial,exIn_of ex fun j u hj=>?_,exIn_of ey fun j u hj=>?_,trivial⟩,B2⟩
 · rw [cell_of_row _ _ (0 + j) _ _ _ KB, Nat.zero_add]
   match j,hj with
   | 0,hj=>exact hj
   | 1,hj=>exact hj
   | 2,hj=>exact hj
   | 3,hj=>exact hj
   | 4,hj=>exact hj
   | 5,hj=>exact hj
   | n+6,hj=>simp at hj
 · rw [cell_of_row _ _ (0 + 6 + j) _ _ _ KB]
   match j,hj with
   | 0,hj=>exact hj
   | 1,hj=>exact hj
   | 2,hj=>exact hj
   | 3,hj=>exact hj
   | 4,hj=>exact hj
   | 5,hj=>exact hj
   | n+6,hj=>simp at hj
open Go.RowKit
set_option linter.unusedVariables false
set_option maxRecDepth 100000
def E1:Ex:=biX 2 0 (nmX ⟨#[97]⟩) (biX 2 0 (nmX ⟨#[98]⟩) (nmX ⟨#[99]⟩))
def E2:Ex:=biX 1 0 (nmX ⟨#[97]⟩) (biX 3 0 (nmX ⟨#[98]⟩) (nmX ⟨#[99]⟩))
def P3:Pg:=⟨[⟨⟨#[120]⟩,-3,0⟩],[],[⟨⟨#[116]⟩,[],[.mk 7 ⟨#[]⟩ ⟨#[]⟩ [] [] [] 0],0⟩]⟩
def P4:Pg:=⟨[],[⟨⟨#[105,102]⟩,0,0⟩],[]⟩
theorem e1_y:mkY (rE E1 0) (tE E1)=.inl [97,32,45,32,40,98,32,45,32,99,41]:=by kernel_rfl
theorem e2_y:mkY (rE E2 0) (tE E2)=.inl [97,32,43,32,98,32,42,32,99]:=by kernel_rfl
theorem p3_y:mkY (rP P3) (tP P3)=.inl [115,104,97,114,101,100,32,120,32,61,32,45,51,59,10,116,104,114,101,97,100,32,116,32,123,10,32,32,115,107,105,112,59,10,125,10]:=by kernel_rfl
theorem p4_y:mkY (rP P4) (tP P4)=.inr 40:=by kernel_rfl
theorem e1_g:rgE E1:=by simp [E1,biX,nmX,rgE,rgEs]
theorem e2_g:rgE E2:=by simp [E2,biX,nmX,rgE,rgEs]
theorem p3_g:PrOk P3:=by simp [PrOk,P3,okP,okT,okSs,okS,okEs,rgP,rgT,rgSs,rgS,rgEs,rgD,lenP]
theorem p4_g:PrOk P4:=by simp [PrOk,P4,okP,rgP,rgD,lenP]
open Go.RowKit
set_option linter.unusedVariables false
set_option maxRecDepth 100000
theorem nmX_at (W:World) (s:ByteArray):exV (fun _=>True) W (nmX s) [.int .u8 2,.int .u8 0,.int .i64 0,.string s,.slice none 0 0,.int .i64 0]:=⟨none,0,rfl,.inl rfl⟩
theorem biX_at {W:World} {op:Int} {x y:Ex} {a:Option Addr} (h:exsAt (fun _=>True) W [x,y] a):exV (fun _=>True) W (biX op 0 x y) [.int .u8 4,.int .u8 op,.int .i64 0,.string ⟨#[]⟩,.slice a 2 2,.int .i64 0]:=⟨a,2,rfl,h⟩
theorem cellsIn_own {W:World} {g:Nat} {T:TypeId} {cs:List Value} (h:Own W g T cs.toArray):cellsIn W g 0 cs:=fun j u hj=>by
 rw [cell_of_row _ _ (0+j) _ _ _ h,Nat.zero_add,List.getElem?_toArray]
 exact hj
theorem p3_at {W:World} {g1 g2 g3:Nat} (O1:Own W g1 63 #[.string ⟨#[120]⟩,.int .i64 (-3),.int .i64 0]) (O2:Own W g2 66 #[.int .u8 7,.string ⟨#[]⟩,.string ⟨#[]⟩,.slice none 0 0,.slice none 0 0,.slice none 0 0,.int .i64 0])
 (O3:Own W g3 39 #[.string ⟨#[116]⟩,.slice none 0 0,.slice (some ⟨g2,0,none⟩) 1 1,.int .i64 0]):pA W P3 (.agg #[.slice (some ⟨g1,0,none⟩) 1 1,.slice none 0 0,.slice (some ⟨g3,0,none⟩) 1 1]) :=
 ⟨some ⟨g1,0,none⟩,1,none,0,some ⟨g3,0,none⟩,1,rfl,.inr ⟨g1,0,rfl,trivial,dcIn_of (cellsIn_own O1),trivial⟩,.inl rfl,
  .inr ⟨g3,0,rfl,trivial,thIn_of (vs:=[.string ⟨#[116]⟩,.slice none 0 0,.slice (some ⟨g2,0,none⟩) 1 1,.int .i64 0]) ⟨none,0,some ⟨g2,0,none⟩,1,rfl,.inl rfl,.inr ⟨g2,0,rfl,trivial,stIn_of (vs:=[.int .u8 7,.string ⟨#[]⟩,.string ⟨#[]⟩,.slice none 0 0,.slice none 0 0,.slice none 0 0,.int .i64 0]) ⟨none,0,none,0,none,0,rfl,.inl rfl,.inl rfl,.inl rfl⟩ (cellsIn_own O2),trivial⟩⟩ (cellsIn_own O3),trivial⟩⟩
theorem p4_at {W:World} {g1:Nat} (O1:Own W g1 63 #[.string ⟨#[105,102]⟩,.int .i64 0,.int .i64 0]):pA W P4 (.agg #[.slice none 0 0,.slice (some ⟨g1,0,none⟩) 1 1,.slice none 0 0]) :=
 ⟨none,0,some ⟨g1,0,none⟩,1,none,0,rfl,.inl rfl,.inr ⟨g1,0,rfl,trivial,dcIn_of (cellsIn_own O1),trivial⟩,.inl rfl⟩
theorem p_begins4 {w:World} (TT:WTb w):Calls Tryz.prog 10 #[] w fun e w'=>e=.returned (.bool true)∧Below w.heap.size w w':=by
 have HNM:Hid (∀ s W,Calls Tryz.prog 30 #[.string s] W fun e w'=>e=.returned (.agg #[.int .u8 2,.int .u8 0,.int .i64 0,.string s,.slice none 0 0,.int .i64 0])∧Below W.heap.size W w'):=fun s W=>p_name4 s W
 have HBN:Hid (∀ (op:Int) (s u:ByteArray) W,Calls Tryz.prog 29 #[.int .u8 op,.agg #[.int .u8 2,.int .u8 0,.int .i64 0,.string s,.slice none 0 0,.int .i64 0],.agg #[.int .u8 2,.int .u8 0,.int .i64 0,.string u,.slice none 0 0,.int .i64 0]] W fun e w'=>∃ a,e=.returned (.agg #[.int .u8 4,.int .u8 op,.int .i64 0,.string ⟨#[]⟩,.slice a 2 2,.int .i64 0])∧exsAt (fun _=>True) w' [nmX s,nmX u] a∧Below W.heap.size W w'):=fun op s u W=>p_binary4 (nmX_at W s) (nmX_at W u)
 have HBB:Hid (∀ (op oq:Int) (s:ByteArray) (x y:Ex) (a:Option Addr) W,exsAt (fun _=>True) W [x,y] a→Calls Tryz.prog 29 #[.int .u8 op,.agg #[.int .u8 2,.int .u8 0,.int .i64 0,.string s,.slice none 0 0,.int .i64 0],.agg #[.int .u8 4,.int .u8 oq,.int .i64 0,.string ⟨#[]⟩,.slice a 2 2,.int .i64 0]] W fun e w'=>∃ a,e=.returned (.agg #[.int .u8 4,.int .u8 op,.int .i64 0,.string ⟨#[]⟩,.slice a 2 2,.int .i64 0])∧exsAt (fun _=>True) w' [nmX s,biX oq 0 x y] a∧Below W.heap.size W w'):=fun op oq s x y a W h=>p_binary4 (nmX_at W s) (biX_at h)
 have HE1:Hid (∀ a W,WTb W→exsAt (fun _=>True) W [nmX ⟨#[97]⟩,biX 2 0 (nmX ⟨#[98]⟩) (nmX ⟨#[99]⟩)] a→Calls Tryz.prog 28 #[.agg #[.int .u8 4,.int .u8 2,.int .i64 0,.string ⟨#[]⟩,.slice a 2 2,.int .i64 0]] W fun e w'=>e=.returned (.tuple #[.string ⟨#[97,32,45,32,40,98,32,45,32,99,41]⟩,.int .i64 0])∧Below W.heap.size W w'):=fun a W T h =>
  (p_Expr4 (x:=E1) e1_g ⟨a,2,rfl,h⟩ T).mono fun e w' hh=>by
   obtain ⟨h1,h2⟩:=hh
   rw [e1_y] at h2
   exact ⟨h2,h1⟩
 have HE2:Hid (∀ a W,WTb W→exsAt (fun _=>True) W [nmX ⟨#[97]⟩,biX 3 0 (nmX ⟨#[98]⟩) (nmX ⟨#[99]⟩)] a→Calls Tryz.prog 28 #[.agg #[.int .u8 4,.int .u8 1,.int .i64 0,.string ⟨#[]⟩,.slice a 2 2,.int .i64 0]] W fun e w'=>e=.returned (.tuple #[.string ⟨#[97,32,43,32,98,32,42,32,99]⟩,.int .i64 0])∧Below W.heap.size W w'):=fun a W T h =>
  (p_Expr4 (x:=E2) e2_g ⟨a,2,rfl,h⟩ T).mono fun e w' hh=>by
   obtain ⟨h1,h2⟩:=hh
   rw [e2_y] at h2
   exact ⟨h2,h1⟩
 have HP3:Hid (∀ v W,WTb W→pA W P3 v→Calls Tryz.prog 6 #[v] W fun e w'=>e=.returned (.tuple #[.string ⟨#[115,104,97,114,101,100,32,120,32,61,32,45,51,59,10,116,104,114,101,97,100,32,116,32,123,10,32,32,115,107,105,112,59,10,125,10]⟩,.int .i64 0])∧Below W.heap.size W w'):=fun v W T h =>
  (p_Print p3_g h T).mono fun e w' hh=>by
   obtain ⟨h1,h2⟩:=hh
   rw [p3_y] at h2
   exact ⟨h2,h1⟩
 have HP4:Hid (∀ v W,WTb W→pA W P4 v→Calls Tryz.prog 8 #[v] W fun e w'=>e=.returned (.int .i64 40)∧Below W.heap.size W w'):=fun v W T h =>
  (p_Check p4_g h T).mono fun e w' hh=>by
   rw [p4_y] at hh
   exact hh
 have HT:=Lib.hid TT
 clear TT
 go_enter Tryz.func10,Tryz.ntmps10
 go_wp2_with fail
 go_at_call 30
 refine (HNM.out _ _).mono ?_
 rintro e w1 ⟨rfl,hb⟩
 have HB1:=Lib.hid hb
 clear hb
 go_wp2_with fail
 go_at_call 30
 refine (HNM.out _ _).mono ?_
 rintro e w2 ⟨rfl,hb⟩
 have HB2:=Lib.hid (HB1.out.trans (hb.mono HB1.out.size))
 clear hb
 go_wp2_with fail
 go_at_call 30
 refine (HNM.out _ _).mono ?_
 rintro e w3 ⟨rfl,hb⟩
 have HB3:=Lib.hid (HB2.out.trans (hb.mono HB2.out.size))
 clear hb
 go_wp2_with fail
 go_at_call 29
 refine (HBN.out _ _ _ _).mono ?_
 rintro e w4 ⟨a4,rfl,h4,hb⟩
 have HB4:=Lib.hid (HB3.out.trans (hb.mono HB3.out.size))
 have H4:=Lib.hid h4
 clear hb h4
 go_wp2_with fail
 go_at_call 29
 refine (HBB.out _ _ _ _ _ _ _ H4.out).mono ?_
 rintro e w5 ⟨a5,rfl,h5,hb⟩
 have HB5:=Lib.hid (HB4.out.trans (hb.mono HB4.out.size))
 have H5:=Lib.hid h5
 clear hb h5
 go_wp2_with fail
 go_at_call 28
 refine (HE1.out _ _ (HT.out.below HB5.out) H5.out).mono ?_
 rintro e w6 ⟨rfl,hb⟩
 have HB6:=Lib.hid (HB5.out.trans (hb.mono HB5.out.size))
 clear hb HB1 HB2 HB3 HB4 HB5 H4 H5
 go_wp2_with fail
 go_at_call 30
 refine (HNM.out _ _).mono ?_
 rintro e w1 ⟨rfl,hb⟩
 have HB1:=Lib.hid (HB6.out.trans (hb.mono HB6.out.size))
 clear hb
 go_wp2_with fail
 go_at_call 30
 refine (HNM.out _ _).mono ?_
 rintro e w2 ⟨rfl,hb⟩
 have HB2:=Lib.hid (HB1.out.trans (hb.mono HB1.out.size))
 clear hb
 go_wp2_with fail
 go_at_call 30
 refine (HNM.out _ _).mono ?_
 rintro e w3 ⟨rfl,hb⟩
 have HB3:=Lib.hid (HB2.out.trans (hb.mono HB2.out.size))
 clear hb
 go_wp2_with fail
 go_at_call 29
 refine (HBN.out _ _ _ _).mono ?_
 rintro e w4 ⟨a4',rfl,h4,hb⟩
 have HB4:=Lib.hid (HB3.out.trans (hb.mono HB3.out.size))
 have H4:=Lib.hid h4
 clear hb h4
 go_wp2_with fail
 go_at_call 29
 refine (HBB.out _ _ _ _ _ _ _ H4.out).mono ?_
 rintro e w5 ⟨a5',rfl,h5,hb⟩
 have HB5:=Lib.hid (HB4.out.trans (hb.mono HB4.out.size))
 have H5:=Lib.hid h5
 clear hb h5
 go_wp2_with fail
 go_at_call 28
 refine (HE2.out _ _ (HT.out.below HB5.out) H5.out).mono ?_
 rintro e w7 ⟨rfl,hb⟩
 have HB7:=Lib.hid (HB5.out.trans (hb.mono HB5.out.size))
 clear hb HB1 HB2 HB3 HB4 HB5 HB6 H4 H5
 have O1:=((Own.new w7 63 #[.string ⟨#[120]⟩,.int .i64 (-3),.int .i64 0]).alloc (.cells #[.int .u8 7,.string ⟨#[]⟩,.string ⟨#[]⟩,.slice none 0 0,.slice none 0 0,.slice none 0 0,.int .i64 0] 66)).alloc (.cells #[.string ⟨#[116]⟩,.slice none 0 0,.slice (some ⟨w7.heap.size+1,0,none⟩) 1 1,.int .i64 0] 39)
 have O2:=(Own.new (w7.alloc (.cells #[.string ⟨#[120]⟩,.int .i64 (-3),.int .i64 0] 63)) 66 #[.int .u8 7,.string ⟨#[]⟩,.string ⟨#[]⟩,.slice none 0 0,.slice none 0 0,.slice none 0 0,.int .i64 0]).alloc (.cells #[.string ⟨#[116]⟩,.slice none 0 0,.slice (some ⟨w7.heap.size+1,0,none⟩) 1 1,.int .i64 0] 39)
 have O3:=Own.new ((w7.alloc (.cells #[.string ⟨#[120]⟩,.int .i64 (-3),.int .i64 0] 63)).alloc (.cells #[.int .u8 7,.string ⟨#[]⟩,.string ⟨#[]⟩,.slice none 0 0,.slice none 0 0,.slice none 0 0,.int .i64 0] 66)) 39 #[.string ⟨#[116]⟩,.slice none 0 0,.slice (some ⟨w7.heap.size+1,0,none⟩) 1 1,.int .i64 0]
 rw [World.size_alloc] at O2
 rw [World.size_alloc,World.size_alloc] at O3
 have BA:Below w7.heap.size w7 (((w7.alloc (.cells #[.string ⟨#[120]⟩,.int .i64 (-3),.int .i64 0] 63)).alloc (.cells #[.int .u8 7,.string ⟨#[]⟩,.string ⟨#[]⟩,.slice none 0 0,.slice none 0 0,.slice none 0 0,.int .i64 0] 66)).alloc (.cells #[.string ⟨#[116]⟩,.slice none 0 0,.slice (some ⟨w7.heap.size+1,0,none⟩) 1 1,.int .i64 0] 39)):=(((Below.refl _ w7).alloc (Nat.le_refl _) _).alloc (by simp only [World.size_alloc];omega) _).alloc (by simp only [World.size_alloc];omega) _
 have HP:=Lib.hid (p3_at O1 O2 O3)
 have HB8:=Lib.hid (HB7.out.trans (BA.mono HB7.out.size))
 clear O1 O2 O3 BA HB7
 go_wp2_with fail
 go_at_call 6
 refine (HP3.out _ _ (HT.out.below HB8.out) HP.out).mono ?_
 rintro e w9 ⟨rfl,hb⟩
 have HB9:=Lib.hid (HB8.out.trans (hb.mono HB8.out.size))
 have HQ:=Lib.hid (p4_at (Own.new w9 63 #[.string ⟨#[105,102]⟩,.int .i64 0,.int .i64 0]))
 have HB10:=Lib.hid (HB9.out.alloc HB9.out.size (.cells #[.string ⟨#[105,102]⟩,.int .i64 0,.int .i64 0] 63))
 clear hb HB8 HB9 HP
 go_wp2_with fail
 go_at_call 8
 refine (HP4.out _ _ (HT.out.below HB10.out) HQ.out).mono ?_
 rintro e w11 ⟨rfl,hb⟩
 have HB11:=Lib.hid (HB10.out.trans (hb.mono HB10.out.size))
 clear hb
 go_wp2_with fail
 go_ret
 exact ⟨rfl,HB11.out⟩
end Go.Proofs.YtieeaehabjjaoaaGreatDoor

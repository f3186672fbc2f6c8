/- The proof, part 32: texts that belong together, in one. -/
import Derived.Test.YtmpljhfinmfnbaaGreatDoorQAZ
set_option maxRecDepth 100000
set_option maxHeartbeats 20000000
namespace Go.Proofs.YtmpljhfinmfnbaaGreatDoor
open Go.RowKit
set_option linter.unusedVariables false
set_option maxRecDepth 100000
def stepB:Nat→Bst × Ins→Bst × Ins
 | 0,x=>((numR x.2.d x.1).2,{ x.2 with d:=(numR x.2.d x.1).1 })
 | 1,x=>((numR x.2.a x.1).2,{ x.2 with a:=(numR x.2.a x.1).1 })
 | 2,x=>((numR x.2.b x.1).2,{ x.2 with b:=(numR x.2.b x.1).1 })
 | 3,x=>((numR x.2.ad x.1).2,{ x.2 with ad:=(numR x.2.ad x.1).1 })
 | 4,x=>((numR x.2.tt x.1).2,{ x.2 with tt:=(numR x.2.tt x.1).1 })
 | _,x=>((wrdR x.1).2,{ x.2 with wd:=(wrdR x.1).1 })
def vB (u:Int):Nat→Bst × Ins→Bst × Ins
 | 0,x=>x
 | j+1,x=>bif hasB u (fldB j) then stepB j (vB u j x) else vB u j x
theorem b_visit (i:Ins) (hg:rgI i) {w:World} {B p g:Nat} {s:Bst} (h:Dr p s w) (hi:Own w g 75 (insC i).toArray) (hgp:p<g) (hB:B≤p) (HT:∀ X,Below B w X→TgT X) :
 Calls Tryz.prog 113 #[.agg #[.func (.func 72) #[.pointer (some ⟨p,0,none⟩)] #[],.func (.func 72) #[.pointer (some ⟨p,0,none⟩)] #[],.func (.func 74) #[.pointer (some ⟨p,0,none⟩)] #[]],.pointer (some ⟨g,0,none⟩)] w fun e w'=>e=.returned (.tuple #[])∧D2 w B p (vB (uB i.k i.o) 6 (s,i)).1 g 75 (insC (vB (uB i.k i.o) 6 (s,i)).2).toArray w':=by
 have al:Below w.heap.size w (w.alloc (.cells #[.func (.func 72) #[.pointer (some ⟨p,0,none⟩)] #[],.func (.func 72) #[.pointer (some ⟨p,0,none⟩)] #[],.func (.func 74) #[.pointer (some ⟨p,0,none⟩)] #[]] 199)):=(Below.refl _ w).alloc (Nat.le_refl _) _
 have hq0:D2 w B p s g 75 (insC i).toArray (w.alloc (.cells #[.func (.func 72) #[.pointer (some ⟨p,0,none⟩)] #[],.func (.func 72) #[.pointer (some ⟨p,0,none⟩)] #[],.func (.func 74) #[.pointer (some ⟨p,0,none⟩)] #[]] 199)):=(d2_new h hi).below al hB
 have ho0:=Own.new w 199 #[.func (.func 72) #[.pointer (some ⟨p,0,none⟩)] #[],.func (.func 72) #[.pointer (some ⟨p,0,none⟩)] #[],.func (.func 74) #[.pointer (some ⟨p,0,none⟩)] #[]]
 have hn1:w.heap.size≠p:=by have:=h.lt;omega
 have hn2:w.heap.size≠g:=by have:=hi.lt;omega
 obtain ⟨W0,hW0⟩:∃ W,W=w.alloc (.cells #[.func (.func 72) #[.pointer (some ⟨p,0,none⟩)] #[],.func (.func 72) #[.pointer (some ⟨p,0,none⟩)] #[],.func (.func 74) #[.pointer (some ⟨p,0,none⟩)] #[]] 199):=⟨_,rfl⟩
 rw [← hW0] at hq0 ho0
 have HW0:=Lib.hid hW0
 have HQW:=Lib.hid hq0
 have B0:=hq0.bel
 have HUS:Hid (∀ X,Below B W0 X→Calls Tryz.prog 106 #[insV i] X fun e w'=>e=.returned (.int .u64 (uB i.k i.o))∧Below X.heap.size X w'):=fun X h=>usedBy_any i hg X (HT X (B0.trans h))
 obtain ⟨u,hu⟩:∃ u,u=uB i.k i.o:=⟨_,rfl⟩
 rw [← hu] at HUS ⊢
 obtain ⟨x,hx⟩:∃ x,x=(s,i):=⟨_,rfl⟩
 rw [← hx]
 have HP0:Hid (D2 W0 B p (vB u 0 x).1 g 75 (insC (vB u 0 x).2).toArray W0):=by rw [Hid,hx];exact d2_new hq0.st hq0.dst
 have HH:Hid (∀ X f,Calls Tryz.prog 108 #[.int .u64 u,.int .u64 f] X fun e w'=>e=.returned (.bool (hasB u f))∧X=w'):=fun X f=>has_any u f X
 have HOX:Hid (∀ X y r,D2 W0 B p y g 75 r X→Own X w.heap.size 199 #[.func (.func 72) #[.pointer (some ⟨p,0,none⟩)] #[],.func (.func 72) #[.pointer (some ⟨p,0,none⟩)] #[],.func (.func 74) #[.pointer (some ⟨p,0,none⟩)] #[]]):=fun X y r h=>h.other ho0 hn1 hn2
 have HBP:=Lib.hid hB
 have HS0:Hid (∀ X (y:Bst × Ins),D2 W0 B p y.1 g 75 (insC y.2).toArray X→Calls Tryz.prog 72 #[.pointer (some ⟨p,0,none⟩),.pointer (some ⟨g,2,none⟩)] X fun e w'=>e=.returned (.tuple #[])∧D2 W0 B p (stepB 0 y).1 g 75 (insC (stepB 0 y).2).toArray w'):=fun X y h1=>(b_number h1.st h1.dst hgp rfl hB).mono fun _ _ ⟨e1,e2⟩=>⟨e1,h1.trans e2⟩
 have HS1:Hid (∀ X (y:Bst × Ins),D2 W0 B p y.1 g 75 (insC y.2).toArray X→Calls Tryz.prog 72 #[.pointer (some ⟨p,0,none⟩),.pointer (some ⟨g,3,none⟩)] X fun e w'=>e=.returned (.tuple #[])∧D2 W0 B p (stepB 1 y).1 g 75 (insC (stepB 1 y).2).toArray w'):=fun X y h1=>(b_number h1.st h1.dst hgp rfl hB).mono fun _ _ ⟨e1,e2⟩=>⟨e1,h1.trans e2⟩
 have HS2:Hid (∀ X (y:Bst × Ins),D2 W0 B p y.1 g 75 (insC y.2).toArray X→Calls Tryz.prog 72 #[.pointer (some ⟨p,0,none⟩),.pointer (some ⟨g,4,none⟩)] X fun e w'=>e=.returned (.tuple #[])∧D2 W0 B p (stepB 2 y).1 g 75 (insC (stepB 2 y).2).toArray w'):=fun X y h1=>(b_number h1.st h1.dst hgp rfl hB).mono fun _ _ ⟨e1,e2⟩=>⟨e1,h1.trans e2⟩
 have HS3:Hid (∀ X (y:Bst × Ins),D2 W0 B p y.1 g 75 (insC y.2).toArray X→Calls Tryz.prog 72 #[.pointer (some ⟨p,0,none⟩),.pointer (some ⟨g,5,none⟩)] X fun e w'=>e=.returned (.tuple #[])∧D2 W0 B p (stepB 3 y).1 g 75 (insC (stepB 3 y).2).toArray w'):=fun X y h1=>(b_number h1.st h1.dst hgp rfl hB).mono fun _ _ ⟨e1,e2⟩=>⟨e1,h1.trans e2⟩
 have HS4:Hid (∀ X (y:Bst × Ins),D2 W0 B p y.1 g 75 (insC y.2).toArray X→Calls Tryz.prog 72 #[.pointer (some ⟨p,0,none⟩),.pointer (some ⟨g,6,none⟩)] X fun e w'=>e=.returned (.tuple #[])∧D2 W0 B p (stepB 4 y).1 g 75 (insC (stepB 4 y).2).toArray w'):=fun X y h1=>(b_number h1.st h1.dst hgp rfl hB).mono fun _ _ ⟨e1,e2⟩=>⟨e1,h1.trans e2⟩
 have HS5:Hid (∀ X (y:Bst × Ins),D2 W0 B p y.1 g 75 (insC y.2).toArray X→Calls Tryz.prog 74 #[.pointer (some ⟨p,0,none⟩),.pointer (some ⟨g,7,none⟩)] X fun e w'=>e=.returned (.tuple #[])∧D2 W0 B p (stepB 5 y).1 g 75 (insC (stepB 5 y).2).toArray w'):=fun X y h1=>(b_word h1.st h1.dst hgp rfl hB).mono fun _ _ ⟨e1,e2⟩=>⟨e1,h1.trans e2⟩
 have HO0:=Lib.hid ho0
 have HI0:=Lib.hid hq0.dst
 clear hg h hi hgp hB HT al hq0 ho0 hn1 hn2 hW0 B0 hu hx
 have OI:=HI0.out
 go_enter Tryz.func113,Tryz.ntmps113
 go_upto_region 1 with (fail)
 rw [← HW0.out]
 clear HW0
 go_wp2_with (refine ld rowI rfl rfl rfl OI rfl ?_)
 go_at_call 106
 refine (HUS.out _ HP0.out.bel).mono ?_
 rintro e w1 ⟨rfl,hb⟩
 have HP1:=Lib.hid (HP0.out.below hb HBP.out)
 have HO1:=HOX.out _ _ _ HP1.out
 clear hb OI HI0 HP0 HO0 HUS
 have c0:w1.cell? ⟨w.heap.size,0,none⟩=some (.func (.func 72) #[.pointer (some ⟨p,0,none⟩)] #[]):=by rw [cell_of_row _ _ 0 _ _ _ HO1];rfl
 have c1:w1.cell? ⟨w.heap.size,1,none⟩=some (.func (.func 72) #[.pointer (some ⟨p,0,none⟩)] #[]):=by rw [cell_of_row _ _ 1 _ _ _ HO1];rfl
 go_wp2_with fail
 go_quiet (fail)
 have HP2:=Lib.hid (HP1.out.below (below_drewN (Below.refl _ w1) nq) HBP.out)
 obtain ⟨W2,hW2⟩:∃ W,W=w1.drewN nq:=⟨_,rfl⟩
 rw [← hW2] at HP2 ⊢
 clear hW2 HP1 HO1 c0 c1
 have hx0:∀ X:World,(Instr.index 229 (.agg #[.int .u64 2,.pointer (some ⟨g,2,none⟩),.func (.func 72) #[.pointer (some ⟨p,0,none⟩)] #[],.int .u64 4,.pointer (some ⟨g,3,none⟩),.func (.func 72) #[.pointer (some ⟨p,0,none⟩)] #[],.int .u64 8,.pointer (some ⟨g,4,none⟩),.func (.func 72) #[.pointer (some ⟨p,0,none⟩)] #[],.int .u64 16,.pointer (some ⟨g,5,none⟩),.func (.func 72) #[.pointer (some ⟨p,0,none⟩)] #[],.int .u64 32,.pointer (some ⟨g,6,none⟩),.func (.func 72) #[.pointer (some ⟨p,0,none⟩)] #[]]) (.int .i64 0)).run Tryz.prog X=.ok (.agg #[.int .u64 2,.pointer (some ⟨g,2,none⟩),.func (.func 72) #[.pointer (some ⟨p,0,none⟩)] #[]]) X:=fun _=>rfl
 have hx1:∀ X:World,(Instr.index 229 (.agg #[.int .u64 2,.pointer (some ⟨g,2,none⟩),.func (.func 72) #[.pointer (some ⟨p,0,none⟩)] #[],.int .u64 4,.pointer (some ⟨g,3,none⟩),.func (.func 72) #[.pointer (some ⟨p,0,none⟩)] #[],.int .u64 8,.pointer (some ⟨g,4,none⟩),.func (.func 72) #[.pointer (some ⟨p,0,none⟩)] #[],.int .u64 16,.pointer (some ⟨g,5,none⟩),.func (.func 72) #[.pointer (some ⟨p,0,none⟩)] #[],.int .u64 32,.pointer (some ⟨g,6,none⟩),.func (.func 72) #[.pointer (some ⟨p,0,none⟩)] #[]]) (.int .i64 1)).run Tryz.prog X=.ok (.agg #[.int .u64 4,.pointer (some ⟨g,3,none⟩),.func (.func 72) #[.pointer (some ⟨p,0,none⟩)] #[]]) X:=fun _=>rfl
 have hx2:∀ X:World,(Instr.index 229 (.agg #[.int .u64 2,.pointer (some ⟨g,2,none⟩),.func (.func 72) #[.pointer (some ⟨p,0,none⟩)] #[],.int .u64 4,.pointer (some ⟨g,3,none⟩),.func (.func 72) #[.pointer (some ⟨p,0,none⟩)] #[],.int .u64 8,.pointer (some ⟨g,4,none⟩),.func (.func 72) #[.pointer (some ⟨p,0,none⟩)] #[],.int .u64 16,.pointer (some ⟨g,5,none⟩),.func (.func 72) #[.pointer (some ⟨p,0,none⟩)] #[],.int .u64 32,.pointer (some ⟨g,6,none⟩),.func (.func 72) #[.pointer (some ⟨p,0,none⟩)] #[]]) (.int .i64 2)).run Tryz.prog X=.ok (.agg #[.int .u64 8,.pointer (some ⟨g,4,none⟩),.func (.func 72) #[.pointer (some ⟨p,0,none⟩)] #[]]) X:=fun _=>rfl
 have hx3:∀ X:World,(Instr.index 229 (.agg #[.int .u64 2,.pointer (some ⟨g,2,none⟩),.func (.func 72) #[.pointer (some ⟨p,0,none⟩)] #[],.int .u64 4,.pointer (some ⟨g,3,none⟩),.func (.func 72) #[.pointer (some ⟨p,0,none⟩)] #[],.int .u64 8,.pointer (some ⟨g,4,none⟩),.func (.func 72) #[.pointer (some ⟨p,0,none⟩)] #[],.int .u64 16,.pointer (some ⟨g,5,none⟩),.func (.func 72) #[.pointer (some ⟨p,0,none⟩)] #[],.int .u64 32,.pointer (some ⟨g,6,none⟩),.func (.func 72) #[.pointer (some ⟨p,0,none⟩)] #[]]) (.int .i64 3)).run Tryz.prog X=.ok (.agg #[.int .u64 16,.pointer (some ⟨g,5,none⟩),.func (.func 72) #[.pointer (some ⟨p,0,none⟩)] #[]]) X:=fun _=>rfl
 have hx4:∀ X:World,(Instr.index 229 (.agg #[.int .u64 2,.pointer (some ⟨g,2,none⟩),.func (.func 72) #[.pointer (some ⟨p,0,none⟩)] #[],.int .u64 4,.pointer (some ⟨g,3,none⟩),.func (.func 72) #[.pointer (some ⟨p,0,none⟩)] #[],.int .u64 8,.pointer (some ⟨g,4,none⟩),.func (.func 72) #[.pointer (some ⟨p,0,none⟩)] #[],.int .u64 16,.pointer (some ⟨g,5,none⟩),.func (.func 72) #[.pointer (some ⟨p,0,none⟩)] #[],.int .u64 32,.pointer (some ⟨g,6,none⟩),.func (.func 72) #[.pointer (some ⟨p,0,none⟩)] #[]]) (.int .i64 4)).run Tryz.prog X=.ok (.agg #[.int .u64 32,.pointer (some ⟨g,6,none⟩),.func (.func 72) #[.pointer (some ⟨p,0,none⟩)] #[]]) X:=fun _=>rfl
 go_wp2_with fail
 go_loopg [42] 6 (fun m' z X=>∃ j:Nat,z=.int .i64 (j:Int)∧j≤5∧m'=5-j+1∧D2 W0 B p (vB u j x).1 g 75 (insC (vB u j x).2).toArray X)
 case atStart=>exact ⟨0,rfl,by omega,by omega,HP2.out⟩
 case round =>
  clear HP2
  obtain ⟨j,rfl,hj,hm,hq⟩:=hrel
  have HM:=Lib.hid hm
  have HP:=Lib.hid hq
  clear hm hq
  rcases (show j=0∨j=1∨j=2∨j=3∨j=4∨j=5 by omega) with rfl | rfl | rfl | rfl | rfl | rfl
  · have HBX := Lib.hid ((Below.refl wr.heap.size wr).alloc (Nat.le_refl _) (.cells #[.int .u64 2, .pointer (some ⟨g, 2, none⟩), .func (.func 72) #[.pointer (some ⟨p, 0, none⟩)] #[]] 228))
    have O6:=Own.new wr 228 #[.int .u64 2,.pointer (some ⟨g,2,none⟩),.func (.func 72) #[.pointer (some ⟨p,0,none⟩)] #[]]
    obtain ⟨W3,hW3⟩:∃ W,W=wr.alloc (.cells #[.int .u64 2,.pointer (some ⟨g,2,none⟩),.func (.func 72) #[.pointer (some ⟨p,0,none⟩)] #[]] 228):=⟨_,rfl⟩
    rw [← hW3] at HBX O6
    have HW3:=Lib.hid hW3
    have e0:W3.cell? ⟨wr.heap.size,0,none⟩=some (.int .u64 2):=by rw [cell_of_row _ _ 0 _ _ _ O6];rfl
    have e1:W3.cell? ⟨wr.heap.size,1,none⟩=some (.pointer (some ⟨g,2,none⟩)):=by rw [cell_of_row _ _ 1 _ _ _ O6];rfl
    have e2:W3.cell? ⟨wr.heap.size,2,none⟩=some (.func (.func 72) #[.pointer (some ⟨p,0,none⟩)] #[]):=by rw [cell_of_row _ _ 2 _ _ _ O6];rfl
    have HP3:=Lib.hid (HP.out.below HBX.out HBP.out)
    clear hW3 O6 HBX HP
    go_upto_region 5 with (fail)
    rw [← HW3.out]
    clear HW3
    cases hh:hasB u 2 with
    | false =>
      have HR:Hid (vB u 1 x=vB u 0 x):=by show (bif hasB u 2 then _ else _)=_;rw [hh];rfl
      go_wp2_with (go_at_call 108;refine (HH.out _ _).mono ?_;rintro e w' ⟨rfl,rfl⟩)
      go_roundg (5-1+1)
      case measure=>have:=HM.out;omega
      case rel=>exact ⟨1,by simp,by omega,by omega,by rw [HR.out];exact HP3.out⟩
    | true =>
      have HR:Hid (vB u 1 x=stepB 0 (vB u 0 x)):=by show (bif hasB u 2 then _ else _)=_;rw [hh];rfl
      go_wp2_with (go_at_call 108;refine (HH.out _ _).mono ?_;rintro e w' ⟨rfl,rfl⟩)
      go_at_call 72
      refine (HS0.out _ _ HP3.out).mono ?_
      rintro e w4 ⟨rfl,hz⟩
      have HZ:=Lib.hid hz
      clear hz
      go_wp2_with fail
      go_roundg (5-1+1)
      case measure=>have:=HM.out;omega
      case rel=>exact ⟨1,by simp,by omega,by omega,by rw [HR.out];exact HZ.out⟩
  · have HBX := Lib.hid ((Below.refl wr.heap.size wr).alloc (Nat.le_refl _) (.cells #[.int .u64 4, .pointer (some ⟨g, 3, none⟩), .func (.func 72) #[.pointer (some ⟨p, 0, none⟩)] #[]] 228))
    have O6:=Own.new wr 228 #[.int .u64 4,.pointer (some ⟨g,3,none⟩),.func (.func 72) #[.pointer (some ⟨p,0,none⟩)] #[]]
    obtain ⟨W3,hW3⟩:∃ W,W=wr.alloc (.cells #[.int .u64 4,.pointer (some ⟨g,3,none⟩),.func (.func 72) #[.pointer (some ⟨p,0,none⟩)] #[]] 228):=⟨_,rfl⟩
    rw [← hW3] at HBX O6
    have HW3:=Lib.hid hW3
    have e0:W3.cell? ⟨wr.heap.size,0,none⟩=some (.int .u64 4):=by rw [cell_of_row _ _ 0 _ _ _ O6];rfl
    have e1:W3.cell? ⟨wr.heap.size,1,none⟩=some (.pointer (some ⟨g,3,none⟩)):=by rw [cell_of_row _ _ 1 _ _ _ O6];rfl
    have e2:W3.cell? ⟨wr.heap.size,2,none⟩=some (.func (.func 72) #[.pointer (some ⟨p,0,none⟩)] #[]):=by rw [cell_of_row _ _ 2 _ _ _ O6];rfl
    have HP3:=Lib.hid (HP.out.below HBX.out HBP.out)
    clear hW3 O6 HBX HP
    go_upto_region 5 with (fail)
    rw [← HW3.out]
    clear HW3
    cases hh:hasB u 4 with
    | false =>
      have HR:Hid (vB u 2 x=vB u 1 x):=by show (bif hasB u 4 then _ else _)=_;rw [hh];rfl
      go_wp2_with (go_at_call 108;refine (HH.out _ _).mono ?_;rintro e w' ⟨rfl,rfl⟩)
      go_roundg (5-2+1)
      case measure=>have:=HM.out;omega
      case rel=>exact ⟨2,by simp,by omega,by omega,by rw [HR.out];exact HP3.out⟩
    | true =>
      have HR:Hid (vB u 2 x=stepB 1 (vB u 1 x)):=by show (bif hasB u 4 then _ else _)=_;rw [hh];rfl
      go_wp2_with (go_at_call 108;refine (HH.out _ _).mono ?_;rintro e w' ⟨rfl,rfl⟩)
      go_at_call 72
      refine (HS1.out _ _ HP3.out).mono ?_
      rintro e w4 ⟨rfl,hz⟩
      have HZ:=Lib.hid hz
      clear hz
      go_wp2_with fail
      go_roundg (5-2+1)
      case measure=>have:=HM.out;omega
      case rel=>exact ⟨2,by simp,by omega,by omega,by rw [HR.out];exact HZ.out⟩
  · have HBX := Lib.hid ((Below.refl wr.heap.size wr).alloc (Nat.le_refl _) (.cells #[.int .u64 8, .pointer (some ⟨g, 4, none⟩), .func (.func 72) #[.pointer (some ⟨p, 0, none⟩)] #[]] 228))
    have O6:=Own.new wr 228 #[.int .u64 8,.pointer (some ⟨g,4,none⟩),.func (.func 72) #[.pointer (some ⟨p,0,none⟩)] #[]]
    obtain ⟨W3,hW3⟩:∃ W,W=wr.alloc (.cells #[.int .u64 8,.pointer (some ⟨g,4,none⟩),.func (.func 72) #[.pointer (some ⟨p,0,none⟩)] #[]] 228):=⟨_,rfl⟩
    rw [← hW3] at HBX O6
    have HW3:=Lib.hid hW3
    have e0:W3.cell? ⟨wr.heap.size,0,none⟩=some (.int .u64 8):=by rw [cell_of_row _ _ 0 _ _ _ O6];rfl
    have e1:W3.cell? ⟨wr.heap.size,1,none⟩=some (.pointer (some ⟨g,4,none⟩)):=by rw [cell_of_row _ _ 1 _ _ _ O6];rfl
    have e2:W3.cell? ⟨wr.heap.size,2,none⟩=some (.func (.func 72) #[.pointer (some ⟨p,0,none⟩)] #[]):=by rw [cell_of_row _ _ 2 _ _ _ O6];rfl
    have HP3:=Lib.hid (HP.out.below HBX.out HBP.out)
    clear hW3 O6 HBX HP
    go_upto_region 5 with (fail)
    rw [← HW3.out]
    clear HW3
    cases hh:hasB u 8 with
    | false =>
      have HR:Hid (vB u 3 x=vB u 2 x):=by show (bif hasB u 8 then _ else _)=_;rw [hh];rfl
      go_wp2_with (go_at_call 108;refine (HH.out _ _).mono ?_;rintro e w' ⟨rfl,rfl⟩)
      go_roundg (5-3+1)
      case measure=>have:=HM.out;omega
      case rel=>exact ⟨3,by simp,by omega,by omega,by rw [HR.out];exact HP3.out⟩
    | true =>
      have HR:Hid (vB u 3 x=stepB 2 (vB u 2 x)):=by show (bif hasB u 8 then _ else _)=_;rw [hh];rfl
      go_wp2_with (go_at_call 108;refine (HH.out _ _).mono ?_;rintro e w' ⟨rfl,rfl⟩)
      go_at_call 72
      refine (HS2.out _ _ HP3.out).mono ?_
      rintro e w4 ⟨rfl,hz⟩
      have HZ:=Lib.hid hz
      clear hz
      go_wp2_with fail
      go_roundg (5-3+1)
      case measure=>have:=HM.out;omega
      case rel=>exact ⟨3,by simp,by omega,by omega,by rw [HR.out];exact HZ.out⟩
  · have HBX := Lib.hid ((Below.refl wr.heap.size wr).alloc (Nat.le_refl _) (.cells #[.int .u64 16, .pointer (some ⟨g, 5, none⟩), .func (.func 72) #[.pointer (some ⟨p, 0, none⟩)] #[]] 228))
    have O6:=Own.new wr 228 #[.int .u64 16,.pointer (some ⟨g,5,none⟩),.func (.func 72) #[.pointer (some ⟨p,0,none⟩)] #[]]
    obtain ⟨W3,hW3⟩:∃ W,W=wr.alloc (.cells #[.int .u64 16,.pointer (some ⟨g,5,none⟩),.func (.func 72) #[.pointer (some ⟨p,0,none⟩)] #[]] 228):=⟨_,rfl⟩
    rw [← hW3] at HBX O6
    have HW3:=Lib.hid hW3
    have e0:W3.cell? ⟨wr.heap.size,0,none⟩=some (.int .u64 16):=by rw [cell_of_row _ _ 0 _ _ _ O6];rfl
    have e1:W3.cell? ⟨wr.heap.size,1,none⟩=some (.pointer (some ⟨g,5,none⟩)):=by rw [cell_of_row _ _ 1 _ _ _ O6];rfl
    have e2:W3.cell? ⟨wr.heap.size,2,none⟩=some (.func (.func 72) #[.pointer (some ⟨p,0,none⟩)] #[]):=by rw [cell_of_row _ _ 2 _ _ _ O6];rfl
    have HP3:=Lib.hid (HP.out.below HBX.out HBP.out)
    clear hW3 O6 HBX HP
    go_upto_region 5 with (fail)
    rw [← HW3.out]
    clear HW3
    cases hh:hasB u 16 with
    | false =>
      have HR:Hid (vB u 4 x=vB u 3 x):=by show (bif hasB u 16 then _ else _)=_;rw [hh];rfl
      go_wp2_with (go_at_call 108;refine (HH.out _ _).mono ?_;rintro e w' ⟨rfl,rfl⟩)
      go_roundg (5-4+1)
      case measure=>have:=HM.out;omega
      case rel=>exact ⟨4,by simp,by omega,by omega,by rw [HR.out];exact HP3.out⟩
    | true =>
      have HR:Hid (vB u 4 x=stepB 3 (vB u 3 x)):=by show (bif hasB u 16 then _ else _)=_;rw [hh];rfl
      go_wp2_with (go_at_call 108;refine (HH.out _ _).mono ?_;rintro e w' ⟨rfl,rfl⟩)
      go_at_call 72
      refine (HS3.out _ _ HP3.out).mono ?_
      rintro e w4 ⟨rfl,hz⟩
      have HZ:=Lib.hid hz
      clear hz
      go_wp2_with fail
      go_roundg (5-4+1)
      case measure=>have:=HM.out;omega
      case rel=>exact ⟨4,by simp,by omega,by omega,by rw [HR.out];exact HZ.out⟩
  · have HBX := Lib.hid ((Below.refl wr.heap.size wr).alloc (Nat.le_refl _) (.cells #[.int .u64 32, .pointer (some ⟨g, 6, none⟩), .func (.func 72) #[.pointer (some ⟨p, 0, none⟩)] #[]] 228))
    have O6:=Own.new wr 228 #[.int .u64 32,.pointer (some ⟨g,6,none⟩),.func (.func 72) #[.pointer (some ⟨p,0,none⟩)] #[]]
    obtain ⟨W3,hW3⟩:∃ W,W=wr.alloc (.cells #[.int .u64 32,.pointer (some ⟨g,6,none⟩),.func (.func 72) #[.pointer (some ⟨p,0,none⟩)] #[]] 228):=⟨_,rfl⟩
    rw [← hW3] at HBX O6
    have HW3:=Lib.hid hW3
    have e0:W3.cell? ⟨wr.heap.size,0,none⟩=some (.int .u64 32):=by rw [cell_of_row _ _ 0 _ _ _ O6];rfl
    have e1:W3.cell? ⟨wr.heap.size,1,none⟩=some (.pointer (some ⟨g,6,none⟩)):=by rw [cell_of_row _ _ 1 _ _ _ O6];rfl
    have e2:W3.cell? ⟨wr.heap.size,2,none⟩=some (.func (.func 72) #[.pointer (some ⟨p,0,none⟩)] #[]):=by rw [cell_of_row _ _ 2 _ _ _ O6];rfl
    have HP3:=Lib.hid (HP.out.below HBX.out HBP.out)
    clear hW3 O6 HBX HP
    go_upto_region 5 with (fail)
    rw [← HW3.out]
    clear HW3
    cases hh:hasB u 32 with
    | false =>
      have HR:Hid (vB u 5 x=vB u 4 x):=by show (bif hasB u 32 then _ else _)=_;rw [hh];rfl
      go_wp2_with (go_at_call 108;refine (HH.out _ _).mono ?_;rintro e w' ⟨rfl,rfl⟩)
      go_roundg (5-5+1)
      case measure=>have:=HM.out;omega
      case rel=>exact ⟨5,by simp,by omega,by omega,by rw [HR.out];exact HP3.out⟩
    | true =>
      have HR:Hid (vB u 5 x=stepB 4 (vB u 4 x)):=by show (bif hasB u 32 then _ else _)=_;rw [hh];rfl
      go_wp2_with (go_at_call 108;refine (HH.out _ _).mono ?_;rintro e w' ⟨rfl,rfl⟩)
      go_at_call 72
      refine (HS4.out _ _ HP3.out).mono ?_
      rintro e w4 ⟨rfl,hz⟩
      have HZ:=Lib.hid hz
      clear hz
      go_wp2_with fail
      go_roundg (5-5+1)
      case measure=>have:=HM.out;omega
      case rel=>exact ⟨5,by simp,by omega,by omega,by rw [HR.out];exact HZ.out⟩
  · have c2 : wr.cell? ⟨w.heap.size, 2, none⟩ = some (.func (.func 74) #[.pointer (some ⟨p, 0, none⟩)] #[]) := by rw [cell_of_row _ _ 2 _ _ _ (HOX.out _ _ _ HP.out)]; rfl
    cases hh:hasB u 64 with
    | false =>
      have HR:Hid (vB u 6 x=vB u 5 x):=by show (bif hasB u 64 then _ else _)=_;rw [hh];rfl
      go_wp2_with (go_at_call 108;refine (HH.out _ _).mono ?_;rintro e w' ⟨rfl,rfl⟩)
      exact bodyPost_end (results_none rfl _ _ _) rfl ⟨rfl,by rw [HR.out];exact HQW.out.trans HP.out⟩
    | true =>
      have HR:Hid (vB u 6 x=stepB 5 (vB u 5 x)):=by show (bif hasB u 64 then _ else _)=_;rw [hh];rfl
      go_wp2_with (go_at_call 108;refine (HH.out _ _).mono ?_;rintro e w' ⟨rfl,rfl⟩)
      go_still_tail 5,(by kernel_rfl)
      change wpList _ _ _ _ _ wr.drew
      have HPD:=Lib.hid (HP.out.below (below_drewN (Below.refl _ wr) 1) HBP.out)
      obtain ⟨W4,hW4⟩:∃ W,W=wr.drew:=⟨_,rfl⟩
      change Hid (D2 _ _ _ _ _ _ _ wr.drew) at HPD
      rw [← hW4] at HPD ⊢
      clear hW4 c2
      go_wp2_with fail
      go_at_call 74
      refine (HS5.out _ _ HPD.out).mono ?_
      rintro e w4 ⟨rfl,hz⟩
      have HZ:=Lib.hid hz
      clear hz
      go_wp2_with fail
      exact bodyPost_end (results_none rfl _ _ _) rfl ⟨rfl,by rw [HR.out];exact HQW.out.trans HZ.out⟩
end Go.Proofs.YtmpljhfinmfnbaaGreatDoor

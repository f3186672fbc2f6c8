/- The proof, part 7: texts that belong together, in one. -/
import Derived.Test.YtmpljhfinmfnbaaGreatDoorQAF
import Derived.Deep.QuietTactic
import Derived.BigQuiet
import Derived.StillTailTactics
import Derived.Laws.EntriesVeiled
set_option maxRecDepth 100000
set_option maxHeartbeats 20000000
namespace Go.Proofs.YtmpljhfinmfnbaaGreatDoor
open Go.RowKit
set_option linter.unusedVariables false
set_option maxRecDepth 100000
def fldT (u:Int) (i:Ins):Nat→List UInt8
 | 0=>bif hasB u 2 then regT i.d else []
 | 1=>bif hasB u 4 then regT i.a else []
 | 2=>bif hasB u 8 then regT i.b else []
 | 3=>bif hasB u 16 then numT i.ad else []
 | 4=>bif hasB u 32 then numT i.tt else []
 | _=>bif hasB u 64 then wrdT i.wd else []
def fldsT (u:Int) (i:Ins):Nat→List UInt8
 | 0=>[]
 | j+1=>fldsT u i j++fldT u i j
theorem nu_I:Nu8 75:=fun cs=>by
 rintro ⟨c,f,h⟩
 cases h
theorem num_len (x:Int) (h : -9223372036854775808≤x∧x≤9223372036854775807):(regT x).length≤100∧(numT x).length≤100∧(wrdT x).length≤100:=by
 have:=Lib.itoa_length_le x h.1 h.2
 simp only [regT,numT,wrdT,List.length_append,List.length_cons,List.length_nil]
 omega
theorem fldT_len (u:Int) (i:Ins) (hg:rgI i) (j:Nat):(fldT u i j).length≤100:=by
 obtain ⟨_,_,h1,h2,h3,h4,h5,h6,_⟩:=hg
 match j with
 | 0=>unfold fldT;cases hasB u 2 <;> simp [(num_len _ h1).1]
 | 1=>unfold fldT;cases hasB u 4 <;> simp [(num_len _ h2).1]
 | 2=>unfold fldT;cases hasB u 8 <;> simp [(num_len _ h3).1]
 | 3=>unfold fldT;cases hasB u 16 <;> simp [(num_len _ h4).2.1]
 | 4=>unfold fldT;cases hasB u 32 <;> simp [(num_len _ h5).2.1]
 | j+5=>unfold fldT;cases hasB u 64 <;> simp [(num_len _ h6).2.2]
theorem fldsT_len (u:Int) (i:Ins) (hg:rgI i):∀ j:Nat,(fldsT u i j).length≤100*j
 | 0=>by simp [fldsT]
 | j + 1 => by
   have:=fldsT_len u i hg j
   have:=fldT_len u i hg j
   simp only [fldsT,List.length_append]
   omega
theorem w_visit (i:Ins) (hg:rgI i) {w:World} {b g:Nat} {txt:List UInt8} (hw:Wt b txt w) (hlen:txt.length≤60000000000000) (hi:Own w g 75 (insC i).toArray) (hgb:g≠b) (HT:∀ X,Below b w X→TgT X∧PwT X) :
 Calls Tryz.prog 113 #[.agg #[.func (.func 150) #[.pointer (some ⟨b,0,none⟩)] #[],.func (.func 120) #[.pointer (some ⟨b,0,none⟩)] #[],.func (.func 121) #[.pointer (some ⟨b,0,none⟩)] #[]],.pointer (some ⟨g,0,none⟩)] w fun e w'=>e=.returned (.tuple #[])∧Wq w b (txt++fldsT (uB i.k i.o) i 6) w':=by
 have al:Below w.heap.size w (w.alloc (.cells #[.func (.func 150) #[.pointer (some ⟨b,0,none⟩)] #[],.func (.func 120) #[.pointer (some ⟨b,0,none⟩)] #[],.func (.func 121) #[.pointer (some ⟨b,0,none⟩)] #[]] 199)):=(Below.refl _ w).alloc (Nat.le_refl _) _
 have hq0:=(wq_new hw).below al
 have hi0:Own (w.alloc (.cells #[.func (.func 150) #[.pointer (some ⟨b,0,none⟩)] #[],.func (.func 120) #[.pointer (some ⟨b,0,none⟩)] #[],.func (.func 121) #[.pointer (some ⟨b,0,none⟩)] #[]] 199)) g 75 (insC i).toArray:=hi.alloc _
 have ho0:=Own.new w 199 #[.func (.func 150) #[.pointer (some ⟨b,0,none⟩)] #[],.func (.func 120) #[.pointer (some ⟨b,0,none⟩)] #[],.func (.func 121) #[.pointer (some ⟨b,0,none⟩)] #[]]
 have HNB:Hid (w.heap.size≠b):=by have:=hw.lt;rw [Hid];omega
 obtain ⟨W0,hW0⟩:∃ W,W=w.alloc (.cells #[.func (.func 150) #[.pointer (some ⟨b,0,none⟩)] #[],.func (.func 120) #[.pointer (some ⟨b,0,none⟩)] #[],.func (.func 121) #[.pointer (some ⟨b,0,none⟩)] #[]] 199):=⟨_,rfl⟩
 rw [← hW0] at hq0 hi0 ho0
 have HW0:=Lib.hid hW0
 have HQW:=Lib.hid hq0
 have B0:=hq0.bel
 have HQ0:=Lib.hid (wq_new hq0.wt)
 have HI0:=Lib.hid hi0
 have HO0:=Lib.hid ho0
 have HFL:Hid (∀ j,(fldsT (uB i.k i.o) i j).length≤100*j):=fldsT_len _ i hg
 have HUS:Hid (∀ X,Below b W0 X→Calls Tryz.prog 106 #[insV i] X fun e w'=>e=.returned (.int .u64 (uB i.k i.o))∧Below X.heap.size X w'):=fun X h=>usedBy_any i hg X (HT X (B0.trans h)).1
 obtain ⟨u,hu⟩:∃ u,u=uB i.k i.o:=⟨_,rfl⟩
 rw [← hu] at HUS HFL ⊢
 have HH:Hid (∀ X f,Calls Tryz.prog 108 #[.int .u64 u,.int .u64 f] X fun e w'=>e=.returned (.bool (hasB u f))∧X=w'):=fun X f=>has_any u f X
 have HNM:Hid (∀ o x,(insC i).toArray[o]? = some (.int .i64 x)→Nm b W0 ⟨g,o,none⟩ x):=fun o x h=>⟨g,o,_,_,rfl,hi0,hgb,nu_I,h⟩
 have HRG:=Lib.hid hg
 have HPW:Hid (∀ X,Below b W0 X→PwT X):=fun X h=>(HT X (B0.trans h)).2
 have HREG:Hid (∀ X t o x,Wq W0 b t X→(insC i).toArray[o]? = some (.int .i64 x)→(-9223372036854775808≤x∧x≤9223372036854775807)→t.length≤70000000000000→Calls Tryz.prog 150 #[.pointer (some ⟨b,0,none⟩),.pointer (some ⟨g,o,none⟩)] X fun e w'=>e=.returned (.tuple #[])∧Wq W0 b (t++regT x) w'):=fun X t o x h hx hr hl=>w_reg h (HNM.out o x hx) hr hl HPW.out
 have HNUM:Hid (∀ X t o x,Wq W0 b t X→(insC i).toArray[o]? = some (.int .i64 x)→(-9223372036854775808≤x∧x≤9223372036854775807)→t.length≤70000000000000→Calls Tryz.prog 120 #[.pointer (some ⟨b,0,none⟩),.pointer (some ⟨g,o,none⟩)] X fun e w'=>e=.returned (.tuple #[])∧Wq W0 b (t++numT x) w'):=fun X t o x h hx hr hl=>w_num h (HNM.out o x hx) hr hl HPW.out
 have HWRD:Hid (∀ X t o x,Wq W0 b t X→(insC i).toArray[o]? = some (.int .i64 x)→(-9223372036854775808≤x∧x≤9223372036854775807)→t.length≤70000000000000→Calls Tryz.prog 121 #[.pointer (some ⟨b,0,none⟩),.pointer (some ⟨g,o,none⟩)] X fun e w'=>e=.returned (.tuple #[])∧Wq W0 b (t++wrdT x) w'):=fun X t o x h hx hr hl=>w_wrd h (HNM.out o x hx) hr hl HPW.out
 have HLEN:=Lib.hid hlen
 have HO0b:=HO0
 clear hw hlen hi HT hg hu al HNM HPW hW0 hq0 hi0 ho0 B0 hgb
 have OI:=HI0.out
 go_enter Tryz.func113,Tryz.ntmps113
 go_upto_region 1 with (fail)
 rw [← HW0.out]
 clear HW0
 go_wp2_with (refine ld rowI rfl rfl rfl OI rfl ?_)
 go_at_call 106
 refine (HUS.out _ HQ0.out.bel).mono ?_
 rintro e w1 ⟨rfl,hb⟩
 have HQ1:=Lib.hid (HQ0.out.below hb)
 have HO1:=Lib.hid (HO0.out.below hb)
 clear hb OI HI0 HQ0 HO0 HUS
 have c0:w1.cell? ⟨w.heap.size,0,none⟩=some (.func (.func 150) #[.pointer (some ⟨b,0,none⟩)] #[]):=by rw [cell_of_row _ _ 0 _ _ _ HO1.out];rfl
 have c1:w1.cell? ⟨w.heap.size,1,none⟩=some (.func (.func 120) #[.pointer (some ⟨b,0,none⟩)] #[]):=by rw [cell_of_row _ _ 1 _ _ _ HO1.out];rfl
 go_wp2_with fail
 go_quiet (fail)
 have HQ2:=Lib.hid (HQ1.out.below (below_drewN (Below.refl _ w1) nq))
 have HO2:=Lib.hid (HO1.out.below (below_drewN (Below.refl w1.heap.size w1) nq))
 obtain ⟨W2,hW2⟩:∃ W,W=w1.drewN nq:=⟨_,rfl⟩
 rw [← hW2] at HQ2 HO2 ⊢
 clear hW2 HQ1 HO1 c0 c1
 have HK2:Hid (w.heap.size≠b∧Nu8 199):=⟨HNB.out,fun cs=>by rintro ⟨c,f,h⟩;cases h⟩
 have hx0:∀ X:World,(Instr.index 229 (.agg #[.int .u64 2,.pointer (some ⟨g,2,none⟩),.func (.func 150) #[.pointer (some ⟨b,0,none⟩)] #[],.int .u64 4,.pointer (some ⟨g,3,none⟩),.func (.func 150) #[.pointer (some ⟨b,0,none⟩)] #[],.int .u64 8,.pointer (some ⟨g,4,none⟩),.func (.func 150) #[.pointer (some ⟨b,0,none⟩)] #[],.int .u64 16,.pointer (some ⟨g,5,none⟩),.func (.func 120) #[.pointer (some ⟨b,0,none⟩)] #[],.int .u64 32,.pointer (some ⟨g,6,none⟩),.func (.func 120) #[.pointer (some ⟨b,0,none⟩)] #[]]) (.int .i64 0)).run Tryz.prog X=.ok (.agg #[.int .u64 2,.pointer (some ⟨g,2,none⟩),.func (.func 150) #[.pointer (some ⟨b,0,none⟩)] #[]]) X:=fun _=>rfl
 have hx1:∀ X:World,(Instr.index 229 (.agg #[.int .u64 2,.pointer (some ⟨g,2,none⟩),.func (.func 150) #[.pointer (some ⟨b,0,none⟩)] #[],.int .u64 4,.pointer (some ⟨g,3,none⟩),.func (.func 150) #[.pointer (some ⟨b,0,none⟩)] #[],.int .u64 8,.pointer (some ⟨g,4,none⟩),.func (.func 150) #[.pointer (some ⟨b,0,none⟩)] #[],.int .u64 16,.pointer (some ⟨g,5,none⟩),.func (.func 120) #[.pointer (some ⟨b,0,none⟩)] #[],.int .u64 32,.pointer (some ⟨g,6,none⟩),.func (.func 120) #[.pointer (some ⟨b,0,none⟩)] #[]]) (.int .i64 1)).run Tryz.prog X=.ok (.agg #[.int .u64 4,.pointer (some ⟨g,3,none⟩),.func (.func 150) #[.pointer (some ⟨b,0,none⟩)] #[]]) X:=fun _=>rfl
 have hx2:∀ X:World,(Instr.index 229 (.agg #[.int .u64 2,.pointer (some ⟨g,2,none⟩),.func (.func 150) #[.pointer (some ⟨b,0,none⟩)] #[],.int .u64 4,.pointer (some ⟨g,3,none⟩),.func (.func 150) #[.pointer (some ⟨b,0,none⟩)] #[],.int .u64 8,.pointer (some ⟨g,4,none⟩),.func (.func 150) #[.pointer (some ⟨b,0,none⟩)] #[],.int .u64 16,.pointer (some ⟨g,5,none⟩),.func (.func 120) #[.pointer (some ⟨b,0,none⟩)] #[],.int .u64 32,.pointer (some ⟨g,6,none⟩),.func (.func 120) #[.pointer (some ⟨b,0,none⟩)] #[]]) (.int .i64 2)).run Tryz.prog X=.ok (.agg #[.int .u64 8,.pointer (some ⟨g,4,none⟩),.func (.func 150) #[.pointer (some ⟨b,0,none⟩)] #[]]) X:=fun _=>rfl
 have hx3:∀ X:World,(Instr.index 229 (.agg #[.int .u64 2,.pointer (some ⟨g,2,none⟩),.func (.func 150) #[.pointer (some ⟨b,0,none⟩)] #[],.int .u64 4,.pointer (some ⟨g,3,none⟩),.func (.func 150) #[.pointer (some ⟨b,0,none⟩)] #[],.int .u64 8,.pointer (some ⟨g,4,none⟩),.func (.func 150) #[.pointer (some ⟨b,0,none⟩)] #[],.int .u64 16,.pointer (some ⟨g,5,none⟩),.func (.func 120) #[.pointer (some ⟨b,0,none⟩)] #[],.int .u64 32,.pointer (some ⟨g,6,none⟩),.func (.func 120) #[.pointer (some ⟨b,0,none⟩)] #[]]) (.int .i64 3)).run Tryz.prog X=.ok (.agg #[.int .u64 16,.pointer (some ⟨g,5,none⟩),.func (.func 120) #[.pointer (some ⟨b,0,none⟩)] #[]]) X:=fun _=>rfl
 have hx4:∀ X:World,(Instr.index 229 (.agg #[.int .u64 2,.pointer (some ⟨g,2,none⟩),.func (.func 150) #[.pointer (some ⟨b,0,none⟩)] #[],.int .u64 4,.pointer (some ⟨g,3,none⟩),.func (.func 150) #[.pointer (some ⟨b,0,none⟩)] #[],.int .u64 8,.pointer (some ⟨g,4,none⟩),.func (.func 150) #[.pointer (some ⟨b,0,none⟩)] #[],.int .u64 16,.pointer (some ⟨g,5,none⟩),.func (.func 120) #[.pointer (some ⟨b,0,none⟩)] #[],.int .u64 32,.pointer (some ⟨g,6,none⟩),.func (.func 120) #[.pointer (some ⟨b,0,none⟩)] #[]]) (.int .i64 4)).run Tryz.prog X=.ok (.agg #[.int .u64 32,.pointer (some ⟨g,6,none⟩),.func (.func 120) #[.pointer (some ⟨b,0,none⟩)] #[]]) X:=fun _=>rfl
 go_wp2_with fail
 go_loopg [42] 6 (fun m' z X=>∃ j:Nat,z=.int .i64 (j:Int)∧j≤5∧m'=5-j+1∧Wq W0 b (txt++fldsT u i j) X∧Own X w.heap.size 199 #[.func (.func 150) #[.pointer (some ⟨b,0,none⟩)] #[],.func (.func 120) #[.pointer (some ⟨b,0,none⟩)] #[],.func (.func 121) #[.pointer (some ⟨b,0,none⟩)] #[]])
 case atStart=>exact ⟨0,rfl,by omega,by omega,by rw [show fldsT u i 0=[] from rfl,List.append_nil];exact HQ2.out,HO2.out⟩
 case round =>
  clear HQ2 HO2
  obtain ⟨j,rfl,hj,hm,hq,ho⟩:=hrel
  have HM:=Lib.hid hm
  have HQ:=Lib.hid hq
  have HO:=Lib.hid ho
  clear hm hq ho
  rcases (show j=0∨j=1∨j=2∨j=3∨j=4∨j=5 by omega) with rfl | rfl | rfl | rfl | rfl | rfl
  · have HB := Lib.hid ((Below.refl wr.heap.size wr).alloc (Nat.le_refl _) (.cells #[.int .u64 2, .pointer (some ⟨g, 2, none⟩), .func (.func 150) #[.pointer (some ⟨b, 0, none⟩)] #[]] 228))
    have O6:=Own.new wr 228 #[.int .u64 2,.pointer (some ⟨g,2,none⟩),.func (.func 150) #[.pointer (some ⟨b,0,none⟩)] #[]]
    obtain ⟨W3,hW3⟩:∃ W,W=wr.alloc (.cells #[.int .u64 2,.pointer (some ⟨g,2,none⟩),.func (.func 150) #[.pointer (some ⟨b,0,none⟩)] #[]] 228):=⟨_,rfl⟩
    rw [← hW3] at HB O6
    have HW3:=Lib.hid hW3
    have e0:W3.cell? ⟨wr.heap.size,0,none⟩=some (.int .u64 2):=by rw [cell_of_row _ _ 0 _ _ _ O6];rfl
    have e1:W3.cell? ⟨wr.heap.size,1,none⟩=some (.pointer (some ⟨g,2,none⟩)):=by rw [cell_of_row _ _ 1 _ _ _ O6];rfl
    have e2:W3.cell? ⟨wr.heap.size,2,none⟩=some (.func (.func 150) #[.pointer (some ⟨b,0,none⟩)] #[]):=by rw [cell_of_row _ _ 2 _ _ _ O6];rfl
    have HQ3:=Lib.hid (HQ.out.below HB.out)
    have HO3:=Lib.hid (HO.out.below HB.out)
    clear hW3 O6 HB HQ HO
    go_upto_region 5 with (fail)
    rw [← HW3.out]
    clear HW3
    cases hh:hasB u 2 with
    | false =>
      have HR:Hid (fldsT u i 1=fldsT u i 0):=by show fldsT u i 0++fldT u i 0=_;simp only [fldT,hh,cond_false,List.append_nil]
      go_wp2_with (go_at_call 108;refine (HH.out _ _).mono ?_;rintro e w' ⟨rfl,rfl⟩)
      go_roundg (5-1+1)
      case measure=>have:=HM.out;omega
      case rel=>exact ⟨1,by simp,by omega,by omega,by rw [HR.out];exact HQ3.out,HO3.out⟩
    | true =>
      have HR:Hid (fldsT u i 1=fldsT u i 0++regT i.d):=by show fldsT u i 0++fldT u i 0=_;simp only [fldT,hh,cond_true]
      go_wp2_with (go_at_call 108;refine (HH.out _ _).mono ?_;rintro e w' ⟨rfl,rfl⟩)
      go_at_call 150
      refine (HREG.out _ _ 2 _ HQ3.out rfl HRG.out.2.2.1 (by rw [List.length_append];have:=HFL.out 0;have:=HLEN.out;omega)).mono ?_
      rintro e w4 ⟨rfl,hz⟩
      have HZ:=Lib.hid hz
      have HO4:Hid (Own w4 w.heap.size 199 #[.func (.func 150) #[.pointer (some ⟨b,0,none⟩)] #[],.func (.func 120) #[.pointer (some ⟨b,0,none⟩)] #[],.func (.func 121) #[.pointer (some ⟨b,0,none⟩)] #[]]):=hz.own (HO0b.out) HK2.out.1 HK2.out.2
      clear hz
      go_wp2_with fail
      go_roundg (5-1+1)
      case measure=>have:=HM.out;omega
      case rel=>exact ⟨1,by simp,by omega,by omega,by rw [HR.out,← List.append_assoc];exact HZ.out,HO4.out⟩
  · have HB := Lib.hid ((Below.refl wr.heap.size wr).alloc (Nat.le_refl _) (.cells #[.int .u64 4, .pointer (some ⟨g, 3, none⟩), .func (.func 150) #[.pointer (some ⟨b, 0, none⟩)] #[]] 228))
    have O6:=Own.new wr 228 #[.int .u64 4,.pointer (some ⟨g,3,none⟩),.func (.func 150) #[.pointer (some ⟨b,0,none⟩)] #[]]
    obtain ⟨W3,hW3⟩:∃ W,W=wr.alloc (.cells #[.int .u64 4,.pointer (some ⟨g,3,none⟩),.func (.func 150) #[.pointer (some ⟨b,0,none⟩)] #[]] 228):=⟨_,rfl⟩
    rw [← hW3] at HB O6
    have HW3:=Lib.hid hW3
    have e0:W3.cell? ⟨wr.heap.size,0,none⟩=some (.int .u64 4):=by rw [cell_of_row _ _ 0 _ _ _ O6];rfl
    have e1:W3.cell? ⟨wr.heap.size,1,none⟩=some (.pointer (some ⟨g,3,none⟩)):=by rw [cell_of_row _ _ 1 _ _ _ O6];rfl
    have e2:W3.cell? ⟨wr.heap.size,2,none⟩=some (.func (.func 150) #[.pointer (some ⟨b,0,none⟩)] #[]):=by rw [cell_of_row _ _ 2 _ _ _ O6];rfl
    have HQ3:=Lib.hid (HQ.out.below HB.out)
    have HO3:=Lib.hid (HO.out.below HB.out)
    clear hW3 O6 HB HQ HO
    go_upto_region 5 with (fail)
    rw [← HW3.out]
    clear HW3
    cases hh:hasB u 4 with
    | false =>
      have HR:Hid (fldsT u i 2=fldsT u i 1):=by show fldsT u i 1++fldT u i 1=_;simp only [fldT,hh,cond_false,List.append_nil]
      go_wp2_with (go_at_call 108;refine (HH.out _ _).mono ?_;rintro e w' ⟨rfl,rfl⟩)
      go_roundg (5-2+1)
      case measure=>have:=HM.out;omega
      case rel=>exact ⟨2,by simp,by omega,by omega,by rw [HR.out];exact HQ3.out,HO3.out⟩
    | true =>
      have HR:Hid (fldsT u i 2=fldsT u i 1++regT i.a):=by show fldsT u i 1++fldT u i 1=_;simp only [fldT,hh,cond_true]
      go_wp2_with (go_at_call 108;refine (HH.out _ _).mono ?_;rintro e w' ⟨rfl,rfl⟩)
      go_at_call 150
      refine (HREG.out _ _ 3 _ HQ3.out rfl HRG.out.2.2.2.1 (by rw [List.length_append];have:=HFL.out 1;have:=HLEN.out;omega)).mono ?_
      rintro e w4 ⟨rfl,hz⟩
      have HZ:=Lib.hid hz
      have HO4:Hid (Own w4 w.heap.size 199 #[.func (.func 150) #[.pointer (some ⟨b,0,none⟩)] #[],.func (.func 120) #[.pointer (some ⟨b,0,none⟩)] #[],.func (.func 121) #[.pointer (some ⟨b,0,none⟩)] #[]]):=hz.own (HO0b.out) HK2.out.1 HK2.out.2
      clear hz
      go_wp2_with fail
      go_roundg (5-2+1)
      case measure=>have:=HM.out;omega
      case rel=>exact ⟨2,by simp,by omega,by omega,by rw [HR.out,← List.append_assoc];exact HZ.out,HO4.out⟩
  · have HB := Lib.hid ((Below.refl wr.heap.size wr).alloc (Nat.le_refl _) (.cells #[.int .u64 8, .pointer (some ⟨g, 4, none⟩), .func (.func 150) #[.pointer (some ⟨b, 0, none⟩)] #[]] 228))
    have O6:=Own.new wr 228 #[.int .u64 8,.pointer (some ⟨g,4,none⟩),.func (.func 150) #[.pointer (some ⟨b,0,none⟩)] #[]]
    obtain ⟨W3,hW3⟩:∃ W,W=wr.alloc (.cells #[.int .u64 8,.pointer (some ⟨g,4,none⟩),.func (.func 150) #[.pointer (some ⟨b,0,none⟩)] #[]] 228):=⟨_,rfl⟩
    rw [← hW3] at HB O6
    have HW3:=Lib.hid hW3
    have e0:W3.cell? ⟨wr.heap.size,0,none⟩=some (.int .u64 8):=by rw [cell_of_row _ _ 0 _ _ _ O6];rfl
    have e1:W3.cell? ⟨wr.heap.size,1,none⟩=some (.pointer (some ⟨g,4,none⟩)):=by rw [cell_of_row _ _ 1 _ _ _ O6];rfl
    have e2:W3.cell? ⟨wr.heap.size,2,none⟩=some (.func (.func 150) #[.pointer (some ⟨b,0,none⟩)] #[]):=by rw [cell_of_row _ _ 2 _ _ _ O6];rfl
    have HQ3:=Lib.hid (HQ.out.below HB.out)
    have HO3:=Lib.hid (HO.out.below HB.out)
    clear hW3 O6 HB HQ HO
    go_upto_region 5 with (fail)
    rw [← HW3.out]
    clear HW3
    cases hh:hasB u 8 with
    | false =>
      have HR:Hid (fldsT u i 3=fldsT u i 2):=by show fldsT u i 2++fldT u i 2=_;simp only [fldT,hh,cond_false,List.append_nil]
      go_wp2_with (go_at_call 108;refine (HH.out _ _).mono ?_;rintro e w' ⟨rfl,rfl⟩)
      go_roundg (5-3+1)
      case measure=>have:=HM.out;omega
      case rel=>exact ⟨3,by simp,by omega,by omega,by rw [HR.out];exact HQ3.out,HO3.out⟩
    | true =>
      have HR:Hid (fldsT u i 3=fldsT u i 2++regT i.b):=by show fldsT u i 2++fldT u i 2=_;simp only [fldT,hh,cond_true]
      go_wp2_with (go_at_call 108;refine (HH.out _ _).mono ?_;rintro e w' ⟨rfl,rfl⟩)
      go_at_call 150
      refine (HREG.out _ _ 4 _ HQ3.out rfl HRG.out.2.2.2.2.1 (by rw [List.length_append];have:=HFL.out 2;have:=HLEN.out;omega)).mono ?_
      rintro e w4 ⟨rfl,hz⟩
      have HZ:=Lib.hid hz
      have HO4:Hid (Own w4 w.heap.size 199 #[.func (.func 150) #[.pointer (some ⟨b,0,none⟩)] #[],.func (.func 120) #[.pointer (some ⟨b,0,none⟩)] #[],.func (.func 121) #[.pointer (some ⟨b,0,none⟩)] #[]]):=hz.own (HO0b.out) HK2.out.1 HK2.out.2
      clear hz
      go_wp2_with fail
      go_roundg (5-3+1)
      case measure=>have:=HM.out;omega
      case rel=>exact ⟨3,by simp,by omega,by omega,by rw [HR.out,← List.append_assoc];exact HZ.out,HO4.out⟩
  · have HB := Lib.hid ((Below.refl wr.heap.size wr).alloc (Nat.le_refl _) (.cells #[.int .u64 16, .pointer (some ⟨g, 5, none⟩), .func (.func 120) #[.pointer (some ⟨b, 0, none⟩)] #[]] 228))
    have O6:=Own.new wr 228 #[.int .u64 16,.pointer (some ⟨g,5,none⟩),.func (.func 120) #[.pointer (some ⟨b,0,none⟩)] #[]]
    obtain ⟨W3,hW3⟩:∃ W,W=wr.alloc (.cells #[.int .u64 16,.pointer (some ⟨g,5,none⟩),.func (.func 120) #[.pointer (some ⟨b,0,none⟩)] #[]] 228):=⟨_,rfl⟩
    rw [← hW3] at HB O6
    have HW3:=Lib.hid hW3
    have e0:W3.cell? ⟨wr.heap.size,0,none⟩=some (.int .u64 16):=by rw [cell_of_row _ _ 0 _ _ _ O6];rfl
    have e1:W3.cell? ⟨wr.heap.size,1,none⟩=some (.pointer (some ⟨g,5,none⟩)):=by rw [cell_of_row _ _ 1 _ _ _ O6];rfl
    have e2:W3.cell? ⟨wr.heap.size,2,none⟩=some (.func (.func 120) #[.pointer (some ⟨b,0,none⟩)] #[]):=by rw [cell_of_row _ _ 2 _ _ _ O6];rfl
    have HQ3:=Lib.hid (HQ.out.below HB.out)
    have HO3:=Lib.hid (HO.out.below HB.out)
    clear hW3 O6 HB HQ HO
    go_upto_region 5 with (fail)
    rw [← HW3.out]
    clear HW3
    cases hh:hasB u 16 with
    | false =>
      have HR:Hid (fldsT u i 4=fldsT u i 3):=by show fldsT u i 3++fldT u i 3=_;simp only [fldT,hh,cond_false,List.append_nil]
      go_wp2_with (go_at_call 108;refine (HH.out _ _).mono ?_;rintro e w' ⟨rfl,rfl⟩)
      go_roundg (5-4+1)
      case measure=>have:=HM.out;omega
      case rel=>exact ⟨4,by simp,by omega,by omega,by rw [HR.out];exact HQ3.out,HO3.out⟩
    | true =>
      have HR:Hid (fldsT u i 4=fldsT u i 3++numT i.ad):=by show fldsT u i 3++fldT u i 3=_;simp only [fldT,hh,cond_true]
      go_wp2_with (go_at_call 108;refine (HH.out _ _).mono ?_;rintro e w' ⟨rfl,rfl⟩)
      go_at_call 120
      refine (HNUM.out _ _ 5 _ HQ3.out rfl HRG.out.2.2.2.2.2.1 (by rw [List.length_append];have:=HFL.out 3;have:=HLEN.out;omega)).mono ?_
      rintro e w4 ⟨rfl,hz⟩
      have HZ:=Lib.hid hz
      have HO4:Hid (Own w4 w.heap.size 199 #[.func (.func 150) #[.pointer (some ⟨b,0,none⟩)] #[],.func (.func 120) #[.pointer (some ⟨b,0,none⟩)] #[],.func (.func 121) #[.pointer (some ⟨b,0,none⟩)] #[]]):=hz.own (HO0b.out) HK2.out.1 HK2.out.2
      clear hz
      go_wp2_with fail
      go_roundg (5-4+1)
      case measure=>have:=HM.out;omega
      case rel=>exact ⟨4,by simp,by omega,by omega,by rw [HR.out,← List.append_assoc];exact HZ.out,HO4.out⟩
  · have HB := Lib.hid ((Below.refl wr.heap.size wr).alloc (Nat.le_refl _) (.cells #[.int .u64 32, .pointer (some ⟨g, 6, none⟩), .func (.func 120) #[.pointer (some ⟨b, 0, none⟩)] #[]] 228))
    have O6:=Own.new wr 228 #[.int .u64 32,.pointer (some ⟨g,6,none⟩),.func (.func 120) #[.pointer (some ⟨b,0,none⟩)] #[]]
    obtain ⟨W3,hW3⟩:∃ W,W=wr.alloc (.cells #[.int .u64 32,.pointer (some ⟨g,6,none⟩),.func (.func 120) #[.pointer (some ⟨b,0,none⟩)] #[]] 228):=⟨_,rfl⟩
    rw [← hW3] at HB O6
    have HW3:=Lib.hid hW3
    have e0:W3.cell? ⟨wr.heap.size,0,none⟩=some (.int .u64 32):=by rw [cell_of_row _ _ 0 _ _ _ O6];rfl
    have e1:W3.cell? ⟨wr.heap.size,1,none⟩=some (.pointer (some ⟨g,6,none⟩)):=by rw [cell_of_row _ _ 1 _ _ _ O6];rfl
    have e2:W3.cell? ⟨wr.heap.size,2,none⟩=some (.func (.func 120) #[.pointer (some ⟨b,0,none⟩)] #[]):=by rw [cell_of_row _ _ 2 _ _ _ O6];rfl
    have HQ3:=Lib.hid (HQ.out.below HB.out)
    have HO3:=Lib.hid (HO.out.below HB.out)
    clear hW3 O6 HB HQ HO
    go_upto_region 5 with (fail)
    rw [← HW3.out]
    clear HW3
    cases hh:hasB u 32 with
    | false =>
      have HR:Hid (fldsT u i 5=fldsT u i 4):=by show fldsT u i 4++fldT u i 4=_;simp only [fldT,hh,cond_false,List.append_nil]
      go_wp2_with (go_at_call 108;refine (HH.out _ _).mono ?_;rintro e w' ⟨rfl,rfl⟩)
      go_roundg (5-5+1)
      case measure=>have:=HM.out;omega
      case rel=>exact ⟨5,by simp,by omega,by omega,by rw [HR.out];exact HQ3.out,HO3.out⟩
    | true =>
      have HR:Hid (fldsT u i 5=fldsT u i 4++numT i.tt):=by show fldsT u i 4++fldT u i 4=_;simp only [fldT,hh,cond_true]
      go_wp2_with (go_at_call 108;refine (HH.out _ _).mono ?_;rintro e w' ⟨rfl,rfl⟩)
      go_at_call 120
      refine (HNUM.out _ _ 6 _ HQ3.out rfl HRG.out.2.2.2.2.2.2.1 (by rw [List.length_append];have:=HFL.out 4;have:=HLEN.out;omega)).mono ?_
      rintro e w4 ⟨rfl,hz⟩
      have HZ:=Lib.hid hz
      have HO4:Hid (Own w4 w.heap.size 199 #[.func (.func 150) #[.pointer (some ⟨b,0,none⟩)] #[],.func (.func 120) #[.pointer (some ⟨b,0,none⟩)] #[],.func (.func 121) #[.pointer (some ⟨b,0,none⟩)] #[]]):=hz.own (HO0b.out) HK2.out.1 HK2.out.2
      clear hz
      go_wp2_with fail
      go_roundg (5-5+1)
      case measure=>have:=HM.out;omega
      case rel=>exact ⟨5,by simp,by omega,by omega,by rw [HR.out,← List.append_assoc];exact HZ.out,HO4.out⟩
  · have c2 : wr.cell? ⟨w.heap.size, 2, none⟩ = some (.func (.func 121) #[.pointer (some ⟨b, 0, none⟩)] #[]) := by rw [cell_of_row _ _ 2 _ _ _ HO.out]; rfl
    cases hh:hasB u 64 with
    | false =>
      have HR:Hid (fldsT u i 6=fldsT u i 5):=by show fldsT u i 5++fldT u i 5=_;simp only [fldT,hh,cond_false,List.append_nil]
      go_wp2_with (go_at_call 108;refine (HH.out _ _).mono ?_;rintro e w' ⟨rfl,rfl⟩)
      exact bodyPost_end (results_none rfl _ _ _) rfl ⟨rfl,by rw [HR.out];exact HQW.out.trans HQ.out⟩
    | true =>
      have HR:Hid (fldsT u i 6=fldsT u i 5++wrdT i.wd):=by show fldsT u i 5++fldT u i 5=_;simp only [fldT,hh,cond_true]
      go_wp2_with (go_at_call 108;refine (HH.out _ _).mono ?_;rintro e w' ⟨rfl,rfl⟩)
      go_still_tail 5,(by kernel_rfl)
      change wpList _ _ _ _ _ wr.drew
      have HQD:=Lib.hid (HQ.out.below (below_drewN (Below.refl _ wr) 1))
      obtain ⟨W4,hW4⟩:∃ W,W=wr.drew:=⟨_,rfl⟩
      change Hid (Wq _ _ _ wr.drew) at HQD
      rw [← hW4] at HQD ⊢
      clear hW4 c2
      go_wp2_with fail
      go_at_call 121
      refine (HWRD.out _ _ 7 _ HQD.out rfl HRG.out.2.2.2.2.2.2.2.1 (by rw [List.length_append];have:=HFL.out 5;have:=HLEN.out;omega)).mono ?_
      rintro e w4 ⟨rfl,hz⟩
      have HZ:=Lib.hid hz
      clear hz
      go_wp2_with fail
      exact bodyPost_end (results_none rfl _ _ _) rfl ⟨rfl,by rw [HR.out,← List.append_assoc];exact HQW.out.trans HZ.out⟩
end Go.Proofs.YtmpljhfinmfnbaaGreatDoor

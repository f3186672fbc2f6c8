/- The proof, part 28: texts that belong together, in one. -/
import Derived.Test.YtmpljhfinmfnbaaGreatDoorQAC
set_option maxRecDepth 100000
set_option maxHeartbeats 20000000
namespace Go.Proofs.YtmpljhfinmfnbaaGreatDoor
open Go.RowKit
set_option linter.unusedVariables false
set_option maxRecDepth 100000
theorem results_tmp4 {fn:Func} {t u v x:Tmp} (h:fn.results=#[.tmp t,.tmp u,.tmp v,.tmp x]) (tmps:Array Value) (P:Program) (w:World) :
 (results fn tmps).run P w=.ok (.tuple #[tmps.getD t undef,tmps.getD u undef,tmps.getD v undef,tmps.getD x undef]) w:=by
 simp [results,h]
theorem r_reg (n:Int) (w:World):Calls Tryz.prog 84 #[.int .i64 n] w fun e w'=>e=.returned (.bool (inB n 16))∧w=w':=by
 unfold inB
 by_cases h:n<0
 · have hb : (decide (0 ≤ n) && decide (n < 16)) = false := by rw [b_f (by omega)]; rfl
   rw [hb]
   have h0:¬ 0≤n:=by omega
   go_enter Tryz.func84,Tryz.ntmps84
   go_wp2
   go_ret
   exact ⟨rfl,rfl⟩
 · by_cases h2 : n < 16
   · have hb : (decide (0 ≤ n) && decide (n < 16)) = true := by rw [b_t (by omega), b_t h2]; rfl
     rw [hb]
     have h0:0≤n:=by omega
     go_enter Tryz.func84,Tryz.ntmps84
     go_wp2
     go_ret
     exact ⟨rfl,rfl⟩
   · have hb : (decide (0 ≤ n) && decide (n < 16)) = false := by rw [b_f h2, Bool.and_false]
     rw [hb]
     have h0:0≤n:=by omega
     go_enter Tryz.func84,Tryz.ntmps84
     go_wp2
     go_ret
     exact ⟨rfl,rfl⟩
theorem r_uses0 (w:World):Calls Tryz.prog 68 #[.int .u8 0] w fun e w'=>e=.returned (.tuple #[.bool false,.bool false,.bool false,.bool false])∧w=w':=by
 go_enter Tryz.func68,Tryz.ntmps68
 go_wp2
 refine bodyPost_ret (results_tmp4 rfl _ _ _) rfl ?_
 exact ⟨rfl,rfl⟩
theorem r_uses1 (w:World):Calls Tryz.prog 68 #[.int .u8 1] w fun e w'=>e=.returned (.tuple #[.bool true,.bool false,.bool false,.bool false])∧w=w':=by
 go_enter Tryz.func68,Tryz.ntmps68
 go_wp2
 refine bodyPost_ret (results_tmp4 rfl _ _ _) rfl ?_
 exact ⟨rfl,rfl⟩
theorem r_uses2 (w:World):Calls Tryz.prog 68 #[.int .u8 2] w fun e w'=>e=.returned (.tuple #[.bool true,.bool true,.bool false,.bool false])∧w=w':=by
 go_enter Tryz.func68,Tryz.ntmps68
 go_wp2
 refine bodyPost_ret (results_tmp4 rfl _ _ _) rfl ?_
 exact ⟨rfl,rfl⟩
theorem r_uses3 (w:World):Calls Tryz.prog 68 #[.int .u8 3] w fun e w'=>e=.returned (.tuple #[.bool true,.bool false,.bool true,.bool false])∧w=w':=by
 go_enter Tryz.func68,Tryz.ntmps68
 go_wp2
 refine bodyPost_ret (results_tmp4 rfl _ _ _) rfl ?_
 exact ⟨rfl,rfl⟩
theorem r_uses4 (w:World):Calls Tryz.prog 68 #[.int .u8 4] w fun e w'=>e=.returned (.tuple #[.bool false,.bool true,.bool true,.bool false])∧w=w':=by
 go_enter Tryz.func68,Tryz.ntmps68
 go_wp2
 refine bodyPost_ret (results_tmp4 rfl _ _ _) rfl ?_
 exact ⟨rfl,rfl⟩
theorem r_uses5 (w:World):Calls Tryz.prog 68 #[.int .u8 5] w fun e w'=>e=.returned (.tuple #[.bool true,.bool false,.bool true,.bool false])∧w=w':=by
 go_enter Tryz.func68,Tryz.ntmps68
 go_wp2
 refine bodyPost_ret (results_tmp4 rfl _ _ _) rfl ?_
 exact ⟨rfl,rfl⟩
theorem r_uses6 (w:World):Calls Tryz.prog 68 #[.int .u8 6] w fun e w'=>e=.returned (.tuple #[.bool false,.bool false,.bool false,.bool false])∧w=w':=by
 go_enter Tryz.func68,Tryz.ntmps68
 go_wp2
 refine bodyPost_ret (results_tmp4 rfl _ _ _) rfl ?_
 exact ⟨rfl,rfl⟩
theorem r_uses7 (w:World):Calls Tryz.prog 68 #[.int .u8 7] w fun e w'=>e=.returned (.tuple #[.bool false,.bool true,.bool false,.bool false])∧w=w':=by
 go_enter Tryz.func68,Tryz.ntmps68
 go_wp2
 refine bodyPost_ret (results_tmp4 rfl _ _ _) rfl ?_
 exact ⟨rfl,rfl⟩
theorem r_uses8 (w:World):Calls Tryz.prog 68 #[.int .u8 8] w fun e w'=>e=.returned (.tuple #[.bool false,.bool false,.bool false,.bool true])∧w=w':=by
 go_enter Tryz.func68,Tryz.ntmps68
 go_wp2
 refine bodyPost_ret (results_tmp4 rfl _ _ _) rfl ?_
 exact ⟨rfl,rfl⟩
theorem r_uses9 (w:World):Calls Tryz.prog 68 #[.int .u8 9] w fun e w'=>e=.returned (.tuple #[.bool false,.bool true,.bool false,.bool true])∧w=w':=by
 go_enter Tryz.func68,Tryz.ntmps68
 go_wp2
 refine bodyPost_ret (results_tmp4 rfl _ _ _) rfl ?_
 exact ⟨rfl,rfl⟩
theorem r_uses10 (w:World):Calls Tryz.prog 68 #[.int .u8 10] w fun e w'=>e=.returned (.tuple #[.bool false,.bool false,.bool false,.bool false])∧w=w':=by
 go_enter Tryz.func68,Tryz.ntmps68
 go_wp2
 refine bodyPost_ret (results_tmp4 rfl _ _ _) rfl ?_
 exact ⟨rfl,rfl⟩
open Go.RowKit
set_option linter.unusedVariables false
set_option maxRecDepth 100000
theorem lev_pos {o:Int} (h1:1≤o) (h2:o≤18):0<levelOf o:=by
 unfold levelOf
 rw [if_neg (by omega)]
 obtain ⟨k,rfl⟩:∃ k:Nat,o=(k:Int):=⟨o.toNat,by omega⟩
 have hk:k=1∨k=2∨k=3∨k=4∨k=5∨k=6∨k=7∨k=8∨k=9∨k=10∨k=11∨k=12∨k=13∨k=14∨k=15∨k=16∨k=17∨k=18:=by omega
 rcases hk with rfl | rfl | rfl | rfl | rfl | rfl | rfl | rfl | rfl | rfl | rfl | rfl | rfl | rfl | rfl | rfl | rfl | rfl <;> decide
theorem r_right1 (o d a b ad tt wd fr n m:Int) (ho:0≤o∧o≤255) (w:World):Calls Tryz.prog 41 #[.agg #[.int .u8 1,.int .u8 o,.int .i64 d,.int .i64 a,.int .i64 b,.int .i64 ad,.int .i64 tt,.int .i64 wd,.int .i64 fr],.int .i64 n,.int .i64 m] w fun e w'=>e=.returned (.bool (rightB ⟨1,o,d,a,b,ad,tt,wd,fr⟩ n m))∧Below w.heap.size w w':=by
 have hR:rightB ⟨1,o,d,a,b,ad,tt,wd,fr⟩ n m=(inB fr 4097&&((o==0)&&(inB d 16&&((a==0)&&((b==0)&&((ad==0)&&((tt==0)&&true))))))):=by
  show (kB 1&&(inB fr 4097&&(_&&(_&&(_&&(_&&(_&&(_&&(wd==0 || (1:Int)==1)))))))) )=_
  rw [show kB 1=true by decide,show ((1:Int)==1)=true by decide]
  first | rfl | (simp only [Bool.true_and,Bool.or_true];rfl)
 obtain ⟨R,hRR⟩:∃ R,R=rightB ⟨1,o,d,a,b,ad,tt,wd,fr⟩ n m:=⟨_,rfl⟩
 rw [← hRR]
 have HR:=Lib.hid (hRR.trans hR)
 clear hR hRR
 have al:Below w.heap.size w (w.alloc (.cells #[.int .u8 1,.int .u8 o,.int .i64 d,.int .i64 a,.int .i64 b,.int .i64 ad,.int .i64 tt,.int .i64 wd,.int .i64 fr] 75)):=(Below.refl _ w).alloc (Nat.le_refl _) _
 have O0:=Own.new w 75 #[.int .u8 1,.int .u8 o,.int .i64 d,.int .i64 a,.int .i64 b,.int .i64 ad,.int .i64 tt,.int .i64 wd,.int .i64 fr]
 obtain ⟨W0,hW0⟩:∃ W,W=w.alloc (.cells #[.int .u8 1,.int .u8 o,.int .i64 d,.int .i64 a,.int .i64 b,.int .i64 ad,.int .i64 tt,.int .i64 wd,.int .i64 fr] 75):=⟨_,rfl⟩
 rw [← hW0] at al O0
 have HW0:=Lib.hid hW0
 have HB:=Lib.hid al
 have z0:W0.cell? ⟨w.heap.size,0,none⟩=some (.int .u8 1):=by rw [cell_of_row _ _ 0 _ _ _ O0];rfl
 have z1:W0.cell? ⟨w.heap.size,1,none⟩=some (.int .u8 o):=by rw [cell_of_row _ _ 1 _ _ _ O0];rfl
 have z2:W0.cell? ⟨w.heap.size,2,none⟩=some (.int .i64 d):=by rw [cell_of_row _ _ 2 _ _ _ O0];rfl
 have z3:W0.cell? ⟨w.heap.size,3,none⟩=some (.int .i64 a):=by rw [cell_of_row _ _ 3 _ _ _ O0];rfl
 have z4:W0.cell? ⟨w.heap.size,4,none⟩=some (.int .i64 b):=by rw [cell_of_row _ _ 4 _ _ _ O0];rfl
 have z5:W0.cell? ⟨w.heap.size,5,none⟩=some (.int .i64 ad):=by rw [cell_of_row _ _ 5 _ _ _ O0];rfl
 have z6:W0.cell? ⟨w.heap.size,6,none⟩=some (.int .i64 tt):=by rw [cell_of_row _ _ 6 _ _ _ O0];rfl
 have z7:W0.cell? ⟨w.heap.size,7,none⟩=some (.int .i64 wd):=by rw [cell_of_row _ _ 7 _ _ _ O0];rfl
 have z8:W0.cell? ⟨w.heap.size,8,none⟩=some (.int .i64 fr):=by rw [cell_of_row _ _ 8 _ _ _ O0];rfl
 clear al O0 hW0
 go_enter Tryz.func41,Tryz.ntmps41
 go_upto_region 1 with fail
 rw [← HW0.out]
 clear HW0
 by_cases f0:fr<0
 · have x : inB fr 4097 = false := by unfold inB; rw [b_f (by omega)]; rfl
   obtain rfl:R=false:=by
    have h:=HR.out
    rw [x,Bool.false_and] at h
    exact h
   clear HR
   go_wp2_with fail
   go_ret
   exact ⟨rfl,HB.out⟩
 by_cases f1:4096<fr
 · have x : inB fr 4097 = false := by unfold inB; rw [b_f (p := fr < 4097) (by omega), Bool.and_false]
   obtain rfl:R=false:=by
    have h:=HR.out
    rw [x,Bool.false_and] at h
    exact h
   clear HR
   go_wp2_with fail
   go_ret
   exact ⟨rfl,HB.out⟩
 have h:=HR.out
 rw [show inB fr 4097=true by unfold inB;rw [b_t (by omega),b_t (by omega)];rfl,Bool.true_and] at h
 replace HR:=Lib.hid h
 clear h
 go_upto_region 5 with (go_at_call 68;refine (r_uses1 _).mono ?_;rintro e w' ⟨rfl,rfl⟩)
 by_cases o1:o=0
 rotate_left
 · have q : (o != 0) = true := by simpa using o1
   obtain rfl:R=false:=by
    have h:=HR.out
    rw [int_f o1,Bool.false_and] at h
    exact h
   clear HR
   go_wp2_with fail
   go_ret
   exact ⟨rfl,HB.out⟩
 subst o1
 have h:=HR.out
 rw [show ((0:Int)==0)=true from rfl,Bool.true_and] at h
 replace HR:=Lib.hid h
 clear h
 go_upto_region 8 with fail
 cases hrd:inB d 16 with
 | false =>
   obtain rfl:R=false:=by
    have h:=HR.out
    rw [hrd,Bool.false_and] at h
    exact h
   clear HR
   go_wp2_with (go_at_call 84;refine (r_reg d _).mono ?_;rintro e w' ⟨rfl,rfl⟩;rw [hrd])
   go_ret
   exact ⟨rfl,HB.out⟩
 | true =>
 have h:=HR.out
 rw [hrd,Bool.true_and] at h
 replace HR:=Lib.hid h
 clear h
 go_upto_region 10 with (go_at_call 84;refine (r_reg d _).mono ?_;rintro e w' ⟨rfl,rfl⟩;rw [hrd])
 by_cases ha:a=0
 rotate_left
 · have qa : (a != 0) = true := by simpa using ha
   obtain rfl:R=false:=by
    have h:=HR.out
    rw [int_f ha,Bool.false_and] at h
    exact h
   clear HR
   go_wp2_with fail
   go_ret
   exact ⟨rfl,HB.out⟩
 subst ha
 have h:=HR.out
 rw [show ((0:Int)==0)=true from rfl,Bool.true_and] at h
 replace HR:=Lib.hid h
 clear h
 go_upto_region 12 with fail
 by_cases hb:b=0
 rotate_left
 · have qb : (b != 0) = true := by simpa using hb
   obtain rfl:R=false:=by
    have h:=HR.out
    rw [int_f hb,Bool.false_and] at h
    exact h
   clear HR
   go_wp2_with fail
   go_ret
   exact ⟨rfl,HB.out⟩
 subst hb
 have h:=HR.out
 rw [show ((0:Int)==0)=true from rfl,Bool.true_and] at h
 replace HR:=Lib.hid h
 clear h
 go_upto_region 15 with fail
 by_cases had:ad=0
 rotate_left
 · have qad : (ad != 0) = true := by simpa using had
   obtain rfl:R=false:=by
    have h:=HR.out
    rw [int_f had,Bool.false_and] at h
    exact h
   clear HR
   go_wp2_with fail
   go_ret
   exact ⟨rfl,HB.out⟩
 subst had
 have h:=HR.out
 rw [show ((0:Int)==0)=true from rfl,Bool.true_and] at h
 replace HR:=Lib.hid h
 clear h
 go_upto_region 18 with fail
 by_cases htt:tt=0
 rotate_left
 · have qtt : (tt != 0) = true := by simpa using htt
   obtain rfl:R=false:=by
    have h:=HR.out
    rw [int_f htt,Bool.false_and] at h
    exact h
   clear HR
   go_wp2_with fail
   go_ret
   exact ⟨rfl,HB.out⟩
 subst htt
 have h:=HR.out
 rw [show ((0:Int)==0)=true from rfl,Bool.true_and] at h
 replace HR:=Lib.hid h
 clear h
 go_upto_region 21 with fail
 obtain rfl:R=true:=HR.out
 clear HR
 go_wp2_with fail
 go_ret
 exact ⟨rfl,HB.out⟩
theorem r_right2 (o d a b ad tt wd fr n m:Int) (ho:0≤o∧o≤255) (w:World):Calls Tryz.prog 41 #[.agg #[.int .u8 2,.int .u8 o,.int .i64 d,.int .i64 a,.int .i64 b,.int .i64 ad,.int .i64 tt,.int .i64 wd,.int .i64 fr],.int .i64 n,.int .i64 m] w fun e w'=>e=.returned (.bool (rightB ⟨2,o,d,a,b,ad,tt,wd,fr⟩ n m))∧Below w.heap.size w w':=by
 have hR:rightB ⟨2,o,d,a,b,ad,tt,wd,fr⟩ n m=(inB fr 4097&&(decide (0<levelOf o)&&(inB d 16&&(inB a 16&&((bif twoB o then inB b 16 else b==0)&&((ad==0)&&((tt==0)&&(wd==0)))))))):=by
  show (kB 2&&(inB fr 4097&&(_&&(_&&(_&&(_&&(_&&(_&&(wd==0 || (2:Int)==1)))))))) )=_
  rw [show kB 2=true by decide,show ((2:Int)==1)=false by decide]
  first | rfl | (simp only [Bool.true_and,Bool.or_false];rfl)
 obtain ⟨R,hRR⟩:∃ R,R=rightB ⟨2,o,d,a,b,ad,tt,wd,fr⟩ n m:=⟨_,rfl⟩
 rw [← hRR]
 have HR:=Lib.hid (hRR.trans hR)
 clear hR hRR
 have HT2:Hid (∀ X,Calls Tryz.prog 69 #[.int .u8 o] X fun e w'=>e=.returned (.bool (twoB o))∧X=w'):=fun X=>r_two o ho.1 X
 have al:Below w.heap.size w (w.alloc (.cells #[.int .u8 2,.int .u8 o,.int .i64 d,.int .i64 a,.int .i64 b,.int .i64 ad,.int .i64 tt,.int .i64 wd,.int .i64 fr] 75)):=(Below.refl _ w).alloc (Nat.le_refl _) _
 have O0:=Own.new w 75 #[.int .u8 2,.int .u8 o,.int .i64 d,.int .i64 a,.int .i64 b,.int .i64 ad,.int .i64 tt,.int .i64 wd,.int .i64 fr]
 obtain ⟨W0,hW0⟩:∃ W,W=w.alloc (.cells #[.int .u8 2,.int .u8 o,.int .i64 d,.int .i64 a,.int .i64 b,.int .i64 ad,.int .i64 tt,.int .i64 wd,.int .i64 fr] 75):=⟨_,rfl⟩
 rw [← hW0] at al O0
 have HW0:=Lib.hid hW0
 have HB:=Lib.hid al
 have z0:W0.cell? ⟨w.heap.size,0,none⟩=some (.int .u8 2):=by rw [cell_of_row _ _ 0 _ _ _ O0];rfl
 have z1:W0.cell? ⟨w.heap.size,1,none⟩=some (.int .u8 o):=by rw [cell_of_row _ _ 1 _ _ _ O0];rfl
 have z2:W0.cell? ⟨w.heap.size,2,none⟩=some (.int .i64 d):=by rw [cell_of_row _ _ 2 _ _ _ O0];rfl
 have z3:W0.cell? ⟨w.heap.size,3,none⟩=some (.int .i64 a):=by rw [cell_of_row _ _ 3 _ _ _ O0];rfl
 have z4:W0.cell? ⟨w.heap.size,4,none⟩=some (.int .i64 b):=by rw [cell_of_row _ _ 4 _ _ _ O0];rfl
 have z5:W0.cell? ⟨w.heap.size,5,none⟩=some (.int .i64 ad):=by rw [cell_of_row _ _ 5 _ _ _ O0];rfl
 have z6:W0.cell? ⟨w.heap.size,6,none⟩=some (.int .i64 tt):=by rw [cell_of_row _ _ 6 _ _ _ O0];rfl
 have z7:W0.cell? ⟨w.heap.size,7,none⟩=some (.int .i64 wd):=by rw [cell_of_row _ _ 7 _ _ _ O0];rfl
 have z8:W0.cell? ⟨w.heap.size,8,none⟩=some (.int .i64 fr):=by rw [cell_of_row _ _ 8 _ _ _ O0];rfl
 clear al O0 hW0
 go_enter Tryz.func41,Tryz.ntmps41
 go_upto_region 1 with fail
 rw [← HW0.out]
 clear HW0
 by_cases f0:fr<0
 · have x : inB fr 4097 = false := by unfold inB; rw [b_f (by omega)]; rfl
   obtain rfl:R=false:=by
    have h:=HR.out
    rw [x,Bool.false_and] at h
    exact h
   clear HR
   go_wp2_with fail
   go_ret
   exact ⟨rfl,HB.out⟩
 by_cases f1:4096<fr
 · have x : inB fr 4097 = false := by unfold inB; rw [b_f (p := fr < 4097) (by omega), Bool.and_false]
   obtain rfl:R=false:=by
    have h:=HR.out
    rw [x,Bool.false_and] at h
    exact h
   clear HR
   go_wp2_with fail
   go_ret
   exact ⟨rfl,HB.out⟩
 have h:=HR.out
 rw [show inB fr 4097=true by unfold inB;rw [b_t (by omega),b_t (by omega)];rfl,Bool.true_and] at h
 replace HR:=Lib.hid h
 clear h
 generalize twoB o=t2 at HT2 HR
 go_upto_region 5 with (first | (go_at_call 68;refine (r_uses2 _).mono ?_;rintro e w' ⟨rfl,rfl⟩) | (go_at_call 69;refine (HT2.out _).mono ?_;rintro e w' ⟨rfl,rfl⟩))
 clear HT2
 by_cases o1:o≤0
 · have x : decide (0 < levelOf o) = false := by
    obtain rfl:o=0:=by omega
    rfl
   obtain rfl:R=false:=by
    have h:=HR.out
    rw [x,Bool.false_and] at h
    exact h
   clear HR
   go_wp2_with fail
   go_ret
   exact ⟨rfl,HB.out⟩
 by_cases o2:19≤o
 · have x : decide (0 < levelOf o) = false := by unfold levelOf; rw [if_pos o2]; rfl
   obtain rfl:R=false:=by
    have h:=HR.out
    rw [x,Bool.false_and] at h
    exact h
   clear HR
   go_wp2_with fail
   go_ret
   exact ⟨rfl,HB.out⟩
 have h:=HR.out
 rw [show decide (0<levelOf o)=true from b_t (lev_pos (by omega) (by omega)),Bool.true_and] at h
 replace HR:=Lib.hid h
 clear h
 go_upto_region 8 with fail
 cases hrd:inB d 16 with
 | false =>
   obtain rfl:R=false:=by
    have h:=HR.out
    rw [hrd,Bool.false_and] at h
    exact h
   clear HR
   go_wp2_with (go_at_call 84;refine (r_reg d _).mono ?_;rintro e w' ⟨rfl,rfl⟩;rw [hrd])
   go_ret
   exact ⟨rfl,HB.out⟩
 | true =>
 have h:=HR.out
 rw [hrd,Bool.true_and] at h
 replace HR:=Lib.hid h
 clear h
 go_upto_region 10 with (go_at_call 84;refine (r_reg d _).mono ?_;rintro e w' ⟨rfl,rfl⟩;rw [hrd])
 cases hra:inB a 16 with
 | false =>
   obtain rfl:R=false:=by
    have h:=HR.out
    rw [hra,Bool.false_and] at h
    exact h
   clear HR
   go_wp2_with (go_at_call 84;refine (r_reg a _).mono ?_;rintro e w' ⟨rfl,rfl⟩;rw [hra])
   go_ret
   exact ⟨rfl,HB.out⟩
 | true =>
 have h:=HR.out
 rw [hra,Bool.true_and] at h
 replace HR:=Lib.hid h
 clear h
 go_upto_region 12 with (go_at_call 84;refine (r_reg a _).mono ?_;rintro e w' ⟨rfl,rfl⟩;rw [hra])
 cases t2 with
 | true =>
   have h:=HR.out
   simp only [cond_true] at h
   replace HR:=Lib.hid h
   clear h
   cases hrb:inB b 16 with
   | false =>
     obtain rfl:R=false:=by
      have h:=HR.out
      rw [hrb,Bool.false_and] at h
      exact h
     clear HR
     go_wp2_with (go_at_call 84;refine (r_reg b _).mono ?_;rintro e w' ⟨rfl,rfl⟩;rw [hrb])
     go_ret
     exact ⟨rfl,HB.out⟩
   | true =>
   have h:=HR.out
   rw [hrb,Bool.true_and] at h
   replace HR:=Lib.hid h
   clear h
   go_upto_region 15 with (go_at_call 84;refine (r_reg b _).mono ?_;rintro e w' ⟨rfl,rfl⟩;rw [hrb])
   by_cases had:ad=0
   rotate_left
   · have qad : (ad != 0) = true := by simpa using had
     obtain rfl:R=false:=by
      have h:=HR.out
      rw [int_f had,Bool.false_and] at h
      exact h
     clear HR
     go_wp2_with fail
     go_ret
     exact ⟨rfl,HB.out⟩
   subst had
   have h:=HR.out
   rw [show ((0:Int)==0)=true from rfl,Bool.true_and] at h
   replace HR:=Lib.hid h
   clear h
   go_upto_region 18 with fail
   by_cases htt:tt=0
   rotate_left
   · have qtt : (tt != 0) = true := by simpa using htt
     obtain rfl:R=false:=by
      have h:=HR.out
      rw [int_f htt,Bool.false_and] at h
      exact h
     clear HR
     go_wp2_with fail
     go_ret
     exact ⟨rfl,HB.out⟩
   subst htt
   have h:=HR.out
   rw [show ((0:Int)==0)=true from rfl,Bool.true_and] at h
   replace HR:=Lib.hid h
   clear h
   go_upto_region 21 with fail
   by_cases hw:wd=0
   · subst hw
     obtain rfl:R=true:=HR.out
     clear HR
     go_wp2_with fail
     go_ret
     exact ⟨rfl,HB.out⟩
   · have qw := int_f hw
     obtain rfl:R=false:=by have h:=HR.out;rw [qw] at h;exact h
     clear HR
     go_wp2_with fail
     go_ret
     exact ⟨rfl,HB.out⟩
 | false =>
   have h:=HR.out
   simp only [cond_false] at h
   replace HR:=Lib.hid h
   clear h
   by_cases hb:b=0
   rotate_left
   · have qb : (b != 0) = true := by simpa using hb
     obtain rfl:R=false:=by
      have h:=HR.out
      rw [int_f hb,Bool.false_and] at h
      exact h
     clear HR
     go_wp2_with fail
     go_ret
     exact ⟨rfl,HB.out⟩
   subst hb
   have h:=HR.out
   rw [show ((0:Int)==0)=true from rfl,Bool.true_and] at h
   replace HR:=Lib.hid h
   clear h
   go_upto_region 15 with fail
   by_cases had:ad=0
   rotate_left
   · have qad : (ad != 0) = true := by simpa using had
     obtain rfl:R=false:=by
      have h:=HR.out
      rw [int_f had,Bool.false_and] at h
      exact h
     clear HR
     go_wp2_with fail
     go_ret
     exact ⟨rfl,HB.out⟩
   subst had
   have h:=HR.out
   rw [show ((0:Int)==0)=true from rfl,Bool.true_and] at h
   replace HR:=Lib.hid h
   clear h
   go_upto_region 18 with fail
   by_cases htt:tt=0
   rotate_left
   · have qtt : (tt != 0) = true := by simpa using htt
     obtain rfl:R=false:=by
      have h:=HR.out
      rw [int_f htt,Bool.false_and] at h
      exact h
     clear HR
     go_wp2_with fail
     go_ret
     exact ⟨rfl,HB.out⟩
   subst htt
   have h:=HR.out
   rw [show ((0:Int)==0)=true from rfl,Bool.true_and] at h
   replace HR:=Lib.hid h
   clear h
   go_upto_region 21 with fail
   by_cases hw:wd=0
   · subst hw
     obtain rfl:R=true:=HR.out
     clear HR
     go_wp2_with fail
     go_ret
     exact ⟨rfl,HB.out⟩
   · have qw := int_f hw
     obtain rfl:R=false:=by have h:=HR.out;rw [qw] at h;exact h
     clear HR
     go_wp2_with fail
     go_ret
     exact ⟨rfl,HB.out⟩
open Go.RowKit
set_option linter.unusedVariables false
set_option maxRecDepth 100000
theorem r_right3 (o d a b ad tt wd fr n m:Int) (ho:0≤o∧o≤255) (w:World):Calls Tryz.prog 41 #[.agg #[.int .u8 3,.int .u8 o,.int .i64 d,.int .i64 a,.int .i64 b,.int .i64 ad,.int .i64 tt,.int .i64 wd,.int .i64 fr],.int .i64 n,.int .i64 m] w fun e w'=>e=.returned (.bool (rightB ⟨3,o,d,a,b,ad,tt,wd,fr⟩ n m))∧Below w.heap.size w w':=by
 have hR:rightB ⟨3,o,d,a,b,ad,tt,wd,fr⟩ n m=(inB fr 4097&&((o==0)&&(inB d 16&&((a==0)&&((b==0)&&(inB ad m&&((tt==0)&&(wd==0)))))))):=by
  show (kB 3&&(inB fr 4097&&(_&&(_&&(_&&(_&&(_&&(_&&(wd==0 || (3:Int)==1)))))))) )=_
  rw [show kB 3=true by decide,show ((3:Int)==1)=false by decide]
  first | rfl | (simp only [Bool.true_and,Bool.or_false];rfl)
 obtain ⟨R,hRR⟩:∃ R,R=rightB ⟨3,o,d,a,b,ad,tt,wd,fr⟩ n m:=⟨_,rfl⟩
 rw [← hRR]
 have HR:=Lib.hid (hRR.trans hR)
 clear hR hRR
 have al:Below w.heap.size w (w.alloc (.cells #[.int .u8 3,.int .u8 o,.int .i64 d,.int .i64 a,.int .i64 b,.int .i64 ad,.int .i64 tt,.int .i64 wd,.int .i64 fr] 75)):=(Below.refl _ w).alloc (Nat.le_refl _) _
 have O0:=Own.new w 75 #[.int .u8 3,.int .u8 o,.int .i64 d,.int .i64 a,.int .i64 b,.int .i64 ad,.int .i64 tt,.int .i64 wd,.int .i64 fr]
 obtain ⟨W0,hW0⟩:∃ W,W=w.alloc (.cells #[.int .u8 3,.int .u8 o,.int .i64 d,.int .i64 a,.int .i64 b,.int .i64 ad,.int .i64 tt,.int .i64 wd,.int .i64 fr] 75):=⟨_,rfl⟩
 rw [← hW0] at al O0
 have HW0:=Lib.hid hW0
 have HB:=Lib.hid al
 have z0:W0.cell? ⟨w.heap.size,0,none⟩=some (.int .u8 3):=by rw [cell_of_row _ _ 0 _ _ _ O0];rfl
 have z1:W0.cell? ⟨w.heap.size,1,none⟩=some (.int .u8 o):=by rw [cell_of_row _ _ 1 _ _ _ O0];rfl
 have z2:W0.cell? ⟨w.heap.size,2,none⟩=some (.int .i64 d):=by rw [cell_of_row _ _ 2 _ _ _ O0];rfl
 have z3:W0.cell? ⟨w.heap.size,3,none⟩=some (.int .i64 a):=by rw [cell_of_row _ _ 3 _ _ _ O0];rfl
 have z4:W0.cell? ⟨w.heap.size,4,none⟩=some (.int .i64 b):=by rw [cell_of_row _ _ 4 _ _ _ O0];rfl
 have z5:W0.cell? ⟨w.heap.size,5,none⟩=some (.int .i64 ad):=by rw [cell_of_row _ _ 5 _ _ _ O0];rfl
 have z6:W0.cell? ⟨w.heap.size,6,none⟩=some (.int .i64 tt):=by rw [cell_of_row _ _ 6 _ _ _ O0];rfl
 have z7:W0.cell? ⟨w.heap.size,7,none⟩=some (.int .i64 wd):=by rw [cell_of_row _ _ 7 _ _ _ O0];rfl
 have z8:W0.cell? ⟨w.heap.size,8,none⟩=some (.int .i64 fr):=by rw [cell_of_row _ _ 8 _ _ _ O0];rfl
 clear al O0 hW0
 go_enter Tryz.func41,Tryz.ntmps41
 go_upto_region 1 with fail
 rw [← HW0.out]
 clear HW0
 by_cases f0:fr<0
 · have x : inB fr 4097 = false := by unfold inB; rw [b_f (by omega)]; rfl
   obtain rfl:R=false:=by
    have h:=HR.out
    rw [x,Bool.false_and] at h
    exact h
   clear HR
   go_wp2_with fail
   go_ret
   exact ⟨rfl,HB.out⟩
 by_cases f1:4096<fr
 · have x : inB fr 4097 = false := by unfold inB; rw [b_f (p := fr < 4097) (by omega), Bool.and_false]
   obtain rfl:R=false:=by
    have h:=HR.out
    rw [x,Bool.false_and] at h
    exact h
   clear HR
   go_wp2_with fail
   go_ret
   exact ⟨rfl,HB.out⟩
 have h:=HR.out
 rw [show inB fr 4097=true by unfold inB;rw [b_t (by omega),b_t (by omega)];rfl,Bool.true_and] at h
 replace HR:=Lib.hid h
 clear h
 go_upto_region 5 with (go_at_call 68;refine (r_uses3 _).mono ?_;rintro e w' ⟨rfl,rfl⟩)
 by_cases o1:o=0
 rotate_left
 · have q : (o != 0) = true := by simpa using o1
   obtain rfl:R=false:=by
    have h:=HR.out
    rw [int_f o1,Bool.false_and] at h
    exact h
   clear HR
   go_wp2_with fail
   go_ret
   exact ⟨rfl,HB.out⟩
 subst o1
 have h:=HR.out
 rw [show ((0:Int)==0)=true from rfl,Bool.true_and] at h
 replace HR:=Lib.hid h
 clear h
 go_upto_region 8 with fail
 cases hrd:inB d 16 with
 | false =>
   obtain rfl:R=false:=by
    have h:=HR.out
    rw [hrd,Bool.false_and] at h
    exact h
   clear HR
   go_wp2_with (go_at_call 84;refine (r_reg d _).mono ?_;rintro e w' ⟨rfl,rfl⟩;rw [hrd])
   go_ret
   exact ⟨rfl,HB.out⟩
 | true =>
 have h:=HR.out
 rw [hrd,Bool.true_and] at h
 replace HR:=Lib.hid h
 clear h
 go_upto_region 10 with (go_at_call 84;refine (r_reg d _).mono ?_;rintro e w' ⟨rfl,rfl⟩;rw [hrd])
 by_cases ha:a=0
 rotate_left
 · have qa : (a != 0) = true := by simpa using ha
   obtain rfl:R=false:=by
    have h:=HR.out
    rw [int_f ha,Bool.false_and] at h
    exact h
   clear HR
   go_wp2_with fail
   go_ret
   exact ⟨rfl,HB.out⟩
 subst ha
 have h:=HR.out
 rw [show ((0:Int)==0)=true from rfl,Bool.true_and] at h
 replace HR:=Lib.hid h
 clear h
 go_upto_region 12 with fail
 by_cases hb:b=0
 rotate_left
 · have qb : (b != 0) = true := by simpa using hb
   obtain rfl:R=false:=by
    have h:=HR.out
    rw [int_f hb,Bool.false_and] at h
    exact h
   clear HR
   go_wp2_with fail
   go_ret
   exact ⟨rfl,HB.out⟩
 subst hb
 have h:=HR.out
 rw [show ((0:Int)==0)=true from rfl,Bool.true_and] at h
 replace HR:=Lib.hid h
 clear h
 go_upto_region 15 with fail
 by_cases had0:ad<0
 · have x : inB ad m = false := by unfold inB; rw [b_f (p := 0 ≤ ad) (by omega)]; rfl
   obtain rfl:R=false:=by
    have h:=HR.out
    rw [x,Bool.false_and] at h
    exact h
   clear HR
   go_wp2_with fail
   go_ret
   exact ⟨rfl,HB.out⟩
 by_cases had1:m≤ad
 · have x : inB ad m = false := by unfold inB; rw [b_f (p := ad < m) (by omega), Bool.and_false]
   obtain rfl:R=false:=by
    have h:=HR.out
    rw [x,Bool.false_and] at h
    exact h
   clear HR
   go_wp2_with fail
   go_ret
   exact ⟨rfl,HB.out⟩
 have h:=HR.out
 rw [show inB ad m=true by unfold inB;rw [b_t (by omega),b_t (by omega)];rfl,Bool.true_and] at h
 replace HR:=Lib.hid h
 clear h
 go_upto_region 18 with fail
 by_cases htt:tt=0
 rotate_left
 · have qtt : (tt != 0) = true := by simpa using htt
   obtain rfl:R=false:=by
    have h:=HR.out
    rw [int_f htt,Bool.false_and] at h
    exact h
   clear HR
   go_wp2_with fail
   go_ret
   exact ⟨rfl,HB.out⟩
 subst htt
 have h:=HR.out
 rw [show ((0:Int)==0)=true from rfl,Bool.true_and] at h
 replace HR:=Lib.hid h
 clear h
 go_upto_region 21 with fail
 by_cases hw:wd=0
 · subst hw
   obtain rfl:R=true:=HR.out
   clear HR
   go_wp2_with fail
   go_ret
   exact ⟨rfl,HB.out⟩
 · have qw := int_f hw
   obtain rfl:R=false:=by have h:=HR.out;rw [qw] at h;exact h
   clear HR
   go_wp2_with fail
   go_ret
   exact ⟨rfl,HB.out⟩
theorem r_right4 (o d a b ad tt wd fr n m:Int) (ho:0≤o∧o≤255) (w:World):Calls Tryz.prog 41 #[.agg #[.int .u8 4,.int .u8 o,.int .i64 d,.int .i64 a,.int .i64 b,.int .i64 ad,.int .i64 tt,.int .i64 wd,.int .i64 fr],.int .i64 n,.int .i64 m] w fun e w'=>e=.returned (.bool (rightB ⟨4,o,d,a,b,ad,tt,wd,fr⟩ n m))∧Below w.heap.size w w':=by
 have hR:rightB ⟨4,o,d,a,b,ad,tt,wd,fr⟩ n m=(inB fr 4097&&((o==0)&&((d==0)&&(inB a 16&&((b==0)&&(inB ad m&&((tt==0)&&(wd==0)))))))):=by
  show (kB 4&&(inB fr 4097&&(_&&(_&&(_&&(_&&(_&&(_&&(wd==0 || (4:Int)==1)))))))) )=_
  rw [show kB 4=true by decide,show ((4:Int)==1)=false by decide]
  first | rfl | (simp only [Bool.true_and,Bool.or_false];rfl)
 obtain ⟨R,hRR⟩:∃ R,R=rightB ⟨4,o,d,a,b,ad,tt,wd,fr⟩ n m:=⟨_,rfl⟩
 rw [← hRR]
 have HR:=Lib.hid (hRR.trans hR)
 clear hR hRR
 have al:Below w.heap.size w (w.alloc (.cells #[.int .u8 4,.int .u8 o,.int .i64 d,.int .i64 a,.int .i64 b,.int .i64 ad,.int .i64 tt,.int .i64 wd,.int .i64 fr] 75)):=(Below.refl _ w).alloc (Nat.le_refl _) _
 have O0:=Own.new w 75 #[.int .u8 4,.int .u8 o,.int .i64 d,.int .i64 a,.int .i64 b,.int .i64 ad,.int .i64 tt,.int .i64 wd,.int .i64 fr]
 obtain ⟨W0,hW0⟩:∃ W,W=w.alloc (.cells #[.int .u8 4,.int .u8 o,.int .i64 d,.int .i64 a,.int .i64 b,.int .i64 ad,.int .i64 tt,.int .i64 wd,.int .i64 fr] 75):=⟨_,rfl⟩
 rw [← hW0] at al O0
 have HW0:=Lib.hid hW0
 have HB:=Lib.hid al
 have z0:W0.cell? ⟨w.heap.size,0,none⟩=some (.int .u8 4):=by rw [cell_of_row _ _ 0 _ _ _ O0];rfl
 have z1:W0.cell? ⟨w.heap.size,1,none⟩=some (.int .u8 o):=by rw [cell_of_row _ _ 1 _ _ _ O0];rfl
 have z2:W0.cell? ⟨w.heap.size,2,none⟩=some (.int .i64 d):=by rw [cell_of_row _ _ 2 _ _ _ O0];rfl
 have z3:W0.cell? ⟨w.heap.size,3,none⟩=some (.int .i64 a):=by rw [cell_of_row _ _ 3 _ _ _ O0];rfl
 have z4:W0.cell? ⟨w.heap.size,4,none⟩=some (.int .i64 b):=by rw [cell_of_row _ _ 4 _ _ _ O0];rfl
 have z5:W0.cell? ⟨w.heap.size,5,none⟩=some (.int .i64 ad):=by rw [cell_of_row _ _ 5 _ _ _ O0];rfl
 have z6:W0.cell? ⟨w.heap.size,6,none⟩=some (.int .i64 tt):=by rw [cell_of_row _ _ 6 _ _ _ O0];rfl
 have z7:W0.cell? ⟨w.heap.size,7,none⟩=some (.int .i64 wd):=by rw [cell_of_row _ _ 7 _ _ _ O0];rfl
 have z8:W0.cell? ⟨w.heap.size,8,none⟩=some (.int .i64 fr):=by rw [cell_of_row _ _ 8 _ _ _ O0];rfl
 clear al O0 hW0
 go_enter Tryz.func41,Tryz.ntmps41
 go_upto_region 1 with fail
 rw [← HW0.out]
 clear HW0
 by_cases f0:fr<0
 · have x : inB fr 4097 = false := by unfold inB; rw [b_f (by omega)]; rfl
   obtain rfl:R=false:=by
    have h:=HR.out
    rw [x,Bool.false_and] at h
    exact h
   clear HR
   go_wp2_with fail
   go_ret
   exact ⟨rfl,HB.out⟩
 by_cases f1:4096<fr
 · have x : inB fr 4097 = false := by unfold inB; rw [b_f (p := fr < 4097) (by omega), Bool.and_false]
   obtain rfl:R=false:=by
    have h:=HR.out
    rw [x,Bool.false_and] at h
    exact h
   clear HR
   go_wp2_with fail
   go_ret
   exact ⟨rfl,HB.out⟩
 have h:=HR.out
 rw [show inB fr 4097=true by unfold inB;rw [b_t (by omega),b_t (by omega)];rfl,Bool.true_and] at h
 replace HR:=Lib.hid h
 clear h
 go_upto_region 5 with (go_at_call 68;refine (r_uses4 _).mono ?_;rintro e w' ⟨rfl,rfl⟩)
 by_cases o1:o=0
 rotate_left
 · have q : (o != 0) = true := by simpa using o1
   obtain rfl:R=false:=by
    have h:=HR.out
    rw [int_f o1,Bool.false_and] at h
    exact h
   clear HR
   go_wp2_with fail
   go_ret
   exact ⟨rfl,HB.out⟩
 subst o1
 have h:=HR.out
 rw [show ((0:Int)==0)=true from rfl,Bool.true_and] at h
 replace HR:=Lib.hid h
 clear h
 go_upto_region 8 with fail
 by_cases hd:d=0
 rotate_left
 · have qd : (d != 0) = true := by simpa using hd
   obtain rfl:R=false:=by
    have h:=HR.out
    rw [int_f hd,Bool.false_and] at h
    exact h
   clear HR
   go_wp2_with fail
   go_ret
   exact ⟨rfl,HB.out⟩
 subst hd
 have h:=HR.out
 rw [show ((0:Int)==0)=true from rfl,Bool.true_and] at h
 replace HR:=Lib.hid h
 clear h
 go_upto_region 10 with fail
 cases hra:inB a 16 with
 | false =>
   obtain rfl:R=false:=by
    have h:=HR.out
    rw [hra,Bool.false_and] at h
    exact h
   clear HR
   go_wp2_with (go_at_call 84;refine (r_reg a _).mono ?_;rintro e w' ⟨rfl,rfl⟩;rw [hra])
   go_ret
   exact ⟨rfl,HB.out⟩
 | true =>
 have h:=HR.out
 rw [hra,Bool.true_and] at h
 replace HR:=Lib.hid h
 clear h
 go_upto_region 12 with (go_at_call 84;refine (r_reg a _).mono ?_;rintro e w' ⟨rfl,rfl⟩;rw [hra])
 by_cases hb:b=0
 rotate_left
 · have qb : (b != 0) = true := by simpa using hb
   obtain rfl:R=false:=by
    have h:=HR.out
    rw [int_f hb,Bool.false_and] at h
    exact h
   clear HR
   go_wp2_with fail
   go_ret
   exact ⟨rfl,HB.out⟩
 subst hb
 have h:=HR.out
 rw [show ((0:Int)==0)=true from rfl,Bool.true_and] at h
 replace HR:=Lib.hid h
 clear h
 go_upto_region 15 with fail
 by_cases had0:ad<0
 · have x : inB ad m = false := by unfold inB; rw [b_f (p := 0 ≤ ad) (by omega)]; rfl
   obtain rfl:R=false:=by
    have h:=HR.out
    rw [x,Bool.false_and] at h
    exact h
   clear HR
   go_wp2_with fail
   go_ret
   exact ⟨rfl,HB.out⟩
 by_cases had1:m≤ad
 · have x : inB ad m = false := by unfold inB; rw [b_f (p := ad < m) (by omega), Bool.and_false]
   obtain rfl:R=false:=by
    have h:=HR.out
    rw [x,Bool.false_and] at h
    exact h
   clear HR
   go_wp2_with fail
   go_ret
   exact ⟨rfl,HB.out⟩
 have h:=HR.out
 rw [show inB ad m=true by unfold inB;rw [b_t (by omega),b_t (by omega)];rfl,Bool.true_and] at h
 replace HR:=Lib.hid h
 clear h
 go_upto_region 18 with fail
 by_cases htt:tt=0
 rotate_left
 · have qtt : (tt != 0) = true := by simpa using htt
   obtain rfl:R=false:=by
    have h:=HR.out
    rw [int_f htt,Bool.false_and] at h
    exact h
   clear HR
   go_wp2_with fail
   go_ret
   exact ⟨rfl,HB.out⟩
 subst htt
 have h:=HR.out
 rw [show ((0:Int)==0)=true from rfl,Bool.true_and] at h
 replace HR:=Lib.hid h
 clear h
 go_upto_region 21 with fail
 by_cases hw:wd=0
 · subst hw
   obtain rfl:R=true:=HR.out
   clear HR
   go_wp2_with fail
   go_ret
   exact ⟨rfl,HB.out⟩
 · have qw := int_f hw
   obtain rfl:R=false:=by have h:=HR.out;rw [qw] at h;exact h
   clear HR
   go_wp2_with fail
   go_ret
   exact ⟨rfl,HB.out⟩
theorem r_right5 (o d a b ad tt wd fr n m:Int) (ho:0≤o∧o≤255) (w:World):Calls Tryz.prog 41 #[.agg #[.int .u8 5,.int .u8 o,.int .i64 d,.int .i64 a,.int .i64 b,.int .i64 ad,.int .i64 tt,.int .i64 wd,.int .i64 fr],.int .i64 n,.int .i64 m] w fun e w'=>e=.returned (.bool (rightB ⟨5,o,d,a,b,ad,tt,wd,fr⟩ n m))∧Below w.heap.size w w':=by
 have hR:rightB ⟨5,o,d,a,b,ad,tt,wd,fr⟩ n m=(inB fr 4097&&((o==0)&&(inB d 16&&((a==0)&&((b==0)&&(inB ad m&&((tt==0)&&(wd==0)))))))):=by
  show (kB 5&&(inB fr 4097&&(_&&(_&&(_&&(_&&(_&&(_&&(wd==0 || (5:Int)==1)))))))) )=_
  rw [show kB 5=true by decide,show ((5:Int)==1)=false by decide]
  first | rfl | (simp only [Bool.true_and,Bool.or_false];rfl)
 obtain ⟨R,hRR⟩:∃ R,R=rightB ⟨5,o,d,a,b,ad,tt,wd,fr⟩ n m:=⟨_,rfl⟩
 rw [← hRR]
 have HR:=Lib.hid (hRR.trans hR)
 clear hR hRR
 have al:Below w.heap.size w (w.alloc (.cells #[.int .u8 5,.int .u8 o,.int .i64 d,.int .i64 a,.int .i64 b,.int .i64 ad,.int .i64 tt,.int .i64 wd,.int .i64 fr] 75)):=(Below.refl _ w).alloc (Nat.le_refl _) _
 have O0:=Own.new w 75 #[.int .u8 5,.int .u8 o,.int .i64 d,.int .i64 a,.int .i64 b,.int .i64 ad,.int .i64 tt,.int .i64 wd,.int .i64 fr]
 obtain ⟨W0,hW0⟩:∃ W,W=w.alloc (.cells #[.int .u8 5,.int .u8 o,.int .i64 d,.int .i64 a,.int .i64 b,.int .i64 ad,.int .i64 tt,.int .i64 wd,.int .i64 fr] 75):=⟨_,rfl⟩
 rw [← hW0] at al O0
 have HW0:=Lib.hid hW0
 have HB:=Lib.hid al
 have z0:W0.cell? ⟨w.heap.size,0,none⟩=some (.int .u8 5):=by rw [cell_of_row _ _ 0 _ _ _ O0];rfl
 have z1:W0.cell? ⟨w.heap.size,1,none⟩=some (.int .u8 o):=by rw [cell_of_row _ _ 1 _ _ _ O0];rfl
 have z2:W0.cell? ⟨w.heap.size,2,none⟩=some (.int .i64 d):=by rw [cell_of_row _ _ 2 _ _ _ O0];rfl
 have z3:W0.cell? ⟨w.heap.size,3,none⟩=some (.int .i64 a):=by rw [cell_of_row _ _ 3 _ _ _ O0];rfl
 have z4:W0.cell? ⟨w.heap.size,4,none⟩=some (.int .i64 b):=by rw [cell_of_row _ _ 4 _ _ _ O0];rfl
 have z5:W0.cell? ⟨w.heap.size,5,none⟩=some (.int .i64 ad):=by rw [cell_of_row _ _ 5 _ _ _ O0];rfl
 have z6:W0.cell? ⟨w.heap.size,6,none⟩=some (.int .i64 tt):=by rw [cell_of_row _ _ 6 _ _ _ O0];rfl
 have z7:W0.cell? ⟨w.heap.size,7,none⟩=some (.int .i64 wd):=by rw [cell_of_row _ _ 7 _ _ _ O0];rfl
 have z8:W0.cell? ⟨w.heap.size,8,none⟩=some (.int .i64 fr):=by rw [cell_of_row _ _ 8 _ _ _ O0];rfl
 clear al O0 hW0
 go_enter Tryz.func41,Tryz.ntmps41
 go_upto_region 1 with fail
 rw [← HW0.out]
 clear HW0
 by_cases f0:fr<0
 · have x : inB fr 4097 = false := by unfold inB; rw [b_f (by omega)]; rfl
   obtain rfl:R=false:=by
    have h:=HR.out
    rw [x,Bool.false_and] at h
    exact h
   clear HR
   go_wp2_with fail
   go_ret
   exact ⟨rfl,HB.out⟩
 by_cases f1:4096<fr
 · have x : inB fr 4097 = false := by unfold inB; rw [b_f (p := fr < 4097) (by omega), Bool.and_false]
   obtain rfl:R=false:=by
    have h:=HR.out
    rw [x,Bool.false_and] at h
    exact h
   clear HR
   go_wp2_with fail
   go_ret
   exact ⟨rfl,HB.out⟩
 have h:=HR.out
 rw [show inB fr 4097=true by unfold inB;rw [b_t (by omega),b_t (by omega)];rfl,Bool.true_and] at h
 replace HR:=Lib.hid h
 clear h
 go_upto_region 5 with (go_at_call 68;refine (r_uses5 _).mono ?_;rintro e w' ⟨rfl,rfl⟩)
 by_cases o1:o=0
 rotate_left
 · have q : (o != 0) = true := by simpa using o1
   obtain rfl:R=false:=by
    have h:=HR.out
    rw [int_f o1,Bool.false_and] at h
    exact h
   clear HR
   go_wp2_with fail
   go_ret
   exact ⟨rfl,HB.out⟩
 subst o1
 have h:=HR.out
 rw [show ((0:Int)==0)=true from rfl,Bool.true_and] at h
 replace HR:=Lib.hid h
 clear h
 go_upto_region 8 with fail
 cases hrd:inB d 16 with
 | false =>
   obtain rfl:R=false:=by
    have h:=HR.out
    rw [hrd,Bool.false_and] at h
    exact h
   clear HR
   go_wp2_with (go_at_call 84;refine (r_reg d _).mono ?_;rintro e w' ⟨rfl,rfl⟩;rw [hrd])
   go_ret
   exact ⟨rfl,HB.out⟩
 | true =>
 have h:=HR.out
 rw [hrd,Bool.true_and] at h
 replace HR:=Lib.hid h
 clear h
 go_upto_region 10 with (go_at_call 84;refine (r_reg d _).mono ?_;rintro e w' ⟨rfl,rfl⟩;rw [hrd])
 by_cases ha:a=0
 rotate_left
 · have qa : (a != 0) = true := by simpa using ha
   obtain rfl:R=false:=by
    have h:=HR.out
    rw [int_f ha,Bool.false_and] at h
    exact h
   clear HR
   go_wp2_with fail
   go_ret
   exact ⟨rfl,HB.out⟩
 subst ha
 have h:=HR.out
 rw [show ((0:Int)==0)=true from rfl,Bool.true_and] at h
 replace HR:=Lib.hid h
 clear h
 go_upto_region 12 with fail
 by_cases hb:b=0
 rotate_left
 · have qb : (b != 0) = true := by simpa using hb
   obtain rfl:R=false:=by
    have h:=HR.out
    rw [int_f hb,Bool.false_and] at h
    exact h
   clear HR
   go_wp2_with fail
   go_ret
   exact ⟨rfl,HB.out⟩
 subst hb
 have h:=HR.out
 rw [show ((0:Int)==0)=true from rfl,Bool.true_and] at h
 replace HR:=Lib.hid h
 clear h
 go_upto_region 15 with fail
 by_cases had0:ad<0
 · have x : inB ad m = false := by unfold inB; rw [b_f (p := 0 ≤ ad) (by omega)]; rfl
   obtain rfl:R=false:=by
    have h:=HR.out
    rw [x,Bool.false_and] at h
    exact h
   clear HR
   go_wp2_with fail
   go_ret
   exact ⟨rfl,HB.out⟩
 by_cases had1:m≤ad
 · have x : inB ad m = false := by unfold inB; rw [b_f (p := ad < m) (by omega), Bool.and_false]
   obtain rfl:R=false:=by
    have h:=HR.out
    rw [x,Bool.false_and] at h
    exact h
   clear HR
   go_wp2_with fail
   go_ret
   exact ⟨rfl,HB.out⟩
 have h:=HR.out
 rw [show inB ad m=true by unfold inB;rw [b_t (by omega),b_t (by omega)];rfl,Bool.true_and] at h
 replace HR:=Lib.hid h
 clear h
 go_upto_region 18 with fail
 by_cases htt:tt=0
 rotate_left
 · have qtt : (tt != 0) = true := by simpa using htt
   obtain rfl:R=false:=by
    have h:=HR.out
    rw [int_f htt,Bool.false_and] at h
    exact h
   clear HR
   go_wp2_with fail
   go_ret
   exact ⟨rfl,HB.out⟩
 subst htt
 have h:=HR.out
 rw [show ((0:Int)==0)=true from rfl,Bool.true_and] at h
 replace HR:=Lib.hid h
 clear h
 go_upto_region 21 with fail
 by_cases hw:wd=0
 · subst hw
   obtain rfl:R=true:=HR.out
   clear HR
   go_wp2_with fail
   go_ret
   exact ⟨rfl,HB.out⟩
 · have qw := int_f hw
   obtain rfl:R=false:=by have h:=HR.out;rw [qw] at h;exact h
   clear HR
   go_wp2_with fail
   go_ret
   exact ⟨rfl,HB.out⟩
theorem r_right6 (o d a b ad tt wd fr n m:Int) (ho:0≤o∧o≤255) (w:World):Calls Tryz.prog 41 #[.agg #[.int .u8 6,.int .u8 o,.int .i64 d,.int .i64 a,.int .i64 b,.int .i64 ad,.int .i64 tt,.int .i64 wd,.int .i64 fr],.int .i64 n,.int .i64 m] w fun e w'=>e=.returned (.bool (rightB ⟨6,o,d,a,b,ad,tt,wd,fr⟩ n m))∧Below w.heap.size w w':=by
 have hR:rightB ⟨6,o,d,a,b,ad,tt,wd,fr⟩ n m=(inB fr 4097&&((o==0)&&((d==0)&&((a==0)&&((b==0)&&((ad==0)&&((tt==0)&&(wd==0)))))))):=by
  show (kB 6&&(inB fr 4097&&(_&&(_&&(_&&(_&&(_&&(_&&(wd==0 || (6:Int)==1)))))))) )=_
  rw [show kB 6=true by decide,show ((6:Int)==1)=false by decide]
  first | rfl | (simp only [Bool.true_and,Bool.or_false];rfl)
 obtain ⟨R,hRR⟩:∃ R,R=rightB ⟨6,o,d,a,b,ad,tt,wd,fr⟩ n m:=⟨_,rfl⟩
 rw [← hRR]
 have HR:=Lib.hid (hRR.trans hR)
 clear hR hRR
 have al:Below w.heap.size w (w.alloc (.cells #[.int .u8 6,.int .u8 o,.int .i64 d,.int .i64 a,.int .i64 b,.int .i64 ad,.int .i64 tt,.int .i64 wd,.int .i64 fr] 75)):=(Below.refl _ w).alloc (Nat.le_refl _) _
 have O0:=Own.new w 75 #[.int .u8 6,.int .u8 o,.int .i64 d,.int .i64 a,.int .i64 b,.int .i64 ad,.int .i64 tt,.int .i64 wd,.int .i64 fr]
 obtain ⟨W0,hW0⟩:∃ W,W=w.alloc (.cells #[.int .u8 6,.int .u8 o,.int .i64 d,.int .i64 a,.int .i64 b,.int .i64 ad,.int .i64 tt,.int .i64 wd,.int .i64 fr] 75):=⟨_,rfl⟩
 rw [← hW0] at al O0
 have HW0:=Lib.hid hW0
 have HB:=Lib.hid al
 have z0:W0.cell? ⟨w.heap.size,0,none⟩=some (.int .u8 6):=by rw [cell_of_row _ _ 0 _ _ _ O0];rfl
 have z1:W0.cell? ⟨w.heap.size,1,none⟩=some (.int .u8 o):=by rw [cell_of_row _ _ 1 _ _ _ O0];rfl
 have z2:W0.cell? ⟨w.heap.size,2,none⟩=some (.int .i64 d):=by rw [cell_of_row _ _ 2 _ _ _ O0];rfl
 have z3:W0.cell? ⟨w.heap.size,3,none⟩=some (.int .i64 a):=by rw [cell_of_row _ _ 3 _ _ _ O0];rfl
 have z4:W0.cell? ⟨w.heap.size,4,none⟩=some (.int .i64 b):=by rw [cell_of_row _ _ 4 _ _ _ O0];rfl
 have z5:W0.cell? ⟨w.heap.size,5,none⟩=some (.int .i64 ad):=by rw [cell_of_row _ _ 5 _ _ _ O0];rfl
 have z6:W0.cell? ⟨w.heap.size,6,none⟩=some (.int .i64 tt):=by rw [cell_of_row _ _ 6 _ _ _ O0];rfl
 have z7:W0.cell? ⟨w.heap.size,7,none⟩=some (.int .i64 wd):=by rw [cell_of_row _ _ 7 _ _ _ O0];rfl
 have z8:W0.cell? ⟨w.heap.size,8,none⟩=some (.int .i64 fr):=by rw [cell_of_row _ _ 8 _ _ _ O0];rfl
 clear al O0 hW0
 go_enter Tryz.func41,Tryz.ntmps41
 go_upto_region 1 with fail
 rw [← HW0.out]
 clear HW0
 by_cases f0:fr<0
 · have x : inB fr 4097 = false := by unfold inB; rw [b_f (by omega)]; rfl
   obtain rfl:R=false:=by
    have h:=HR.out
    rw [x,Bool.false_and] at h
    exact h
   clear HR
   go_wp2_with fail
   go_ret
   exact ⟨rfl,HB.out⟩
 by_cases f1:4096<fr
 · have x : inB fr 4097 = false := by unfold inB; rw [b_f (p := fr < 4097) (by omega), Bool.and_false]
   obtain rfl:R=false:=by
    have h:=HR.out
    rw [x,Bool.false_and] at h
    exact h
   clear HR
   go_wp2_with fail
   go_ret
   exact ⟨rfl,HB.out⟩
 have h:=HR.out
 rw [show inB fr 4097=true by unfold inB;rw [b_t (by omega),b_t (by omega)];rfl,Bool.true_and] at h
 replace HR:=Lib.hid h
 clear h
 go_upto_region 5 with (go_at_call 68;refine (r_uses6 _).mono ?_;rintro e w' ⟨rfl,rfl⟩)
 by_cases o1:o=0
 rotate_left
 · have q : (o != 0) = true := by simpa using o1
   obtain rfl:R=false:=by
    have h:=HR.out
    rw [int_f o1,Bool.false_and] at h
    exact h
   clear HR
   go_wp2_with fail
   go_ret
   exact ⟨rfl,HB.out⟩
 subst o1
 have h:=HR.out
 rw [show ((0:Int)==0)=true from rfl,Bool.true_and] at h
 replace HR:=Lib.hid h
 clear h
 go_upto_region 8 with fail
 by_cases hd:d=0
 rotate_left
 · have qd : (d != 0) = true := by simpa using hd
   obtain rfl:R=false:=by
    have h:=HR.out
    rw [int_f hd,Bool.false_and] at h
    exact h
   clear HR
   go_wp2_with fail
   go_ret
   exact ⟨rfl,HB.out⟩
 subst hd
 have h:=HR.out
 rw [show ((0:Int)==0)=true from rfl,Bool.true_and] at h
 replace HR:=Lib.hid h
 clear h
 go_upto_region 10 with fail
 by_cases ha:a=0
 rotate_left
 · have qa : (a != 0) = true := by simpa using ha
   obtain rfl:R=false:=by
    have h:=HR.out
    rw [int_f ha,Bool.false_and] at h
    exact h
   clear HR
   go_wp2_with fail
   go_ret
   exact ⟨rfl,HB.out⟩
 subst ha
 have h:=HR.out
 rw [show ((0:Int)==0)=true from rfl,Bool.true_and] at h
 replace HR:=Lib.hid h
 clear h
 go_upto_region 12 with fail
 by_cases hb:b=0
 rotate_left
 · have qb : (b != 0) = true := by simpa using hb
   obtain rfl:R=false:=by
    have h:=HR.out
    rw [int_f hb,Bool.false_and] at h
    exact h
   clear HR
   go_wp2_with fail
   go_ret
   exact ⟨rfl,HB.out⟩
 subst hb
 have h:=HR.out
 rw [show ((0:Int)==0)=true from rfl,Bool.true_and] at h
 replace HR:=Lib.hid h
 clear h
 go_upto_region 15 with fail
 by_cases had:ad=0
 rotate_left
 · have qad : (ad != 0) = true := by simpa using had
   obtain rfl:R=false:=by
    have h:=HR.out
    rw [int_f had,Bool.false_and] at h
    exact h
   clear HR
   go_wp2_with fail
   go_ret
   exact ⟨rfl,HB.out⟩
 subst had
 have h:=HR.out
 rw [show ((0:Int)==0)=true from rfl,Bool.true_and] at h
 replace HR:=Lib.hid h
 clear h
 go_upto_region 18 with fail
 by_cases htt:tt=0
 rotate_left
 · have qtt : (tt != 0) = true := by simpa using htt
   obtain rfl:R=false:=by
    have h:=HR.out
    rw [int_f htt,Bool.false_and] at h
    exact h
   clear HR
   go_wp2_with fail
   go_ret
   exact ⟨rfl,HB.out⟩
 subst htt
 have h:=HR.out
 rw [show ((0:Int)==0)=true from rfl,Bool.true_and] at h
 replace HR:=Lib.hid h
 clear h
 go_upto_region 21 with fail
 by_cases hw:wd=0
 · subst hw
   obtain rfl:R=true:=HR.out
   clear HR
   go_wp2_with fail
   go_ret
   exact ⟨rfl,HB.out⟩
 · have qw := int_f hw
   obtain rfl:R=false:=by have h:=HR.out;rw [qw] at h;exact h
   clear HR
   go_wp2_with fail
   go_ret
   exact ⟨rfl,HB.out⟩
open Go.RowKit
set_option linter.unusedVariables false
set_option maxRecDepth 100000
theorem r_right7 (o d a b ad tt wd fr n m:Int) (ho:0≤o∧o≤255) (w:World):Calls Tryz.prog 41 #[.agg #[.int .u8 7,.int .u8 o,.int .i64 d,.int .i64 a,.int .i64 b,.int .i64 ad,.int .i64 tt,.int .i64 wd,.int .i64 fr],.int .i64 n,.int .i64 m] w fun e w'=>e=.returned (.bool (rightB ⟨7,o,d,a,b,ad,tt,wd,fr⟩ n m))∧Below w.heap.size w w':=by
 have hR:rightB ⟨7,o,d,a,b,ad,tt,wd,fr⟩ n m=(inB fr 4097&&((o==0)&&((d==0)&&(inB a 16&&((b==0)&&((ad==0)&&((tt==0)&&(wd==0)))))))):=by
  show (kB 7&&(inB fr 4097&&(_&&(_&&(_&&(_&&(_&&(_&&(wd==0 || (7:Int)==1)))))))) )=_
  rw [show kB 7=true by decide,show ((7:Int)==1)=false by decide]
  first | rfl | (simp only [Bool.true_and,Bool.or_false];rfl)
 obtain ⟨R,hRR⟩:∃ R,R=rightB ⟨7,o,d,a,b,ad,tt,wd,fr⟩ n m:=⟨_,rfl⟩
 rw [← hRR]
 have HR:=Lib.hid (hRR.trans hR)
 clear hR hRR
 have al:Below w.heap.size w (w.alloc (.cells #[.int .u8 7,.int .u8 o,.int .i64 d,.int .i64 a,.int .i64 b,.int .i64 ad,.int .i64 tt,.int .i64 wd,.int .i64 fr] 75)):=(Below.refl _ w).alloc (Nat.le_refl _) _
 have O0:=Own.new w 75 #[.int .u8 7,.int .u8 o,.int .i64 d,.int .i64 a,.int .i64 b,.int .i64 ad,.int .i64 tt,.int .i64 wd,.int .i64 fr]
 obtain ⟨W0,hW0⟩:∃ W,W=w.alloc (.cells #[.int .u8 7,.int .u8 o,.int .i64 d,.int .i64 a,.int .i64 b,.int .i64 ad,.int .i64 tt,.int .i64 wd,.int .i64 fr] 75):=⟨_,rfl⟩
 rw [← hW0] at al O0
 have HW0:=Lib.hid hW0
 have HB:=Lib.hid al
 have z0:W0.cell? ⟨w.heap.size,0,none⟩=some (.int .u8 7):=by rw [cell_of_row _ _ 0 _ _ _ O0];rfl
 have z1:W0.cell? ⟨w.heap.size,1,none⟩=some (.int .u8 o):=by rw [cell_of_row _ _ 1 _ _ _ O0];rfl
 have z2:W0.cell? ⟨w.heap.size,2,none⟩=some (.int .i64 d):=by rw [cell_of_row _ _ 2 _ _ _ O0];rfl
 have z3:W0.cell? ⟨w.heap.size,3,none⟩=some (.int .i64 a):=by rw [cell_of_row _ _ 3 _ _ _ O0];rfl
 have z4:W0.cell? ⟨w.heap.size,4,none⟩=some (.int .i64 b):=by rw [cell_of_row _ _ 4 _ _ _ O0];rfl
 have z5:W0.cell? ⟨w.heap.size,5,none⟩=some (.int .i64 ad):=by rw [cell_of_row _ _ 5 _ _ _ O0];rfl
 have z6:W0.cell? ⟨w.heap.size,6,none⟩=some (.int .i64 tt):=by rw [cell_of_row _ _ 6 _ _ _ O0];rfl
 have z7:W0.cell? ⟨w.heap.size,7,none⟩=some (.int .i64 wd):=by rw [cell_of_row _ _ 7 _ _ _ O0];rfl
 have z8:W0.cell? ⟨w.heap.size,8,none⟩=some (.int .i64 fr):=by rw [cell_of_row _ _ 8 _ _ _ O0];rfl
 clear al O0 hW0
 go_enter Tryz.func41,Tryz.ntmps41
 go_upto_region 1 with fail
 rw [← HW0.out]
 clear HW0
 by_cases f0:fr<0
 · have x : inB fr 4097 = false := by unfold inB; rw [b_f (by omega)]; rfl
   obtain rfl:R=false:=by
    have h:=HR.out
    rw [x,Bool.false_and] at h
    exact h
   clear HR
   go_wp2_with fail
   go_ret
   exact ⟨rfl,HB.out⟩
 by_cases f1:4096<fr
 · have x : inB fr 4097 = false := by unfold inB; rw [b_f (p := fr < 4097) (by omega), Bool.and_false]
   obtain rfl:R=false:=by
    have h:=HR.out
    rw [x,Bool.false_and] at h
    exact h
   clear HR
   go_wp2_with fail
   go_ret
   exact ⟨rfl,HB.out⟩
 have h:=HR.out
 rw [show inB fr 4097=true by unfold inB;rw [b_t (by omega),b_t (by omega)];rfl,Bool.true_and] at h
 replace HR:=Lib.hid h
 clear h
 go_upto_region 5 with (go_at_call 68;refine (r_uses7 _).mono ?_;rintro e w' ⟨rfl,rfl⟩)
 by_cases o1:o=0
 rotate_left
 · have q : (o != 0) = true := by simpa using o1
   obtain rfl:R=false:=by
    have h:=HR.out
    rw [int_f o1,Bool.false_and] at h
    exact h
   clear HR
   go_wp2_with fail
   go_ret
   exact ⟨rfl,HB.out⟩
 subst o1
 have h:=HR.out
 rw [show ((0:Int)==0)=true from rfl,Bool.true_and] at h
 replace HR:=Lib.hid h
 clear h
 go_upto_region 8 with fail
 by_cases hd:d=0
 rotate_left
 · have qd : (d != 0) = true := by simpa using hd
   obtain rfl:R=false:=by
    have h:=HR.out
    rw [int_f hd,Bool.false_and] at h
    exact h
   clear HR
   go_wp2_with fail
   go_ret
   exact ⟨rfl,HB.out⟩
 subst hd
 have h:=HR.out
 rw [show ((0:Int)==0)=true from rfl,Bool.true_and] at h
 replace HR:=Lib.hid h
 clear h
 go_upto_region 10 with fail
 cases hra:inB a 16 with
 | false =>
   obtain rfl:R=false:=by
    have h:=HR.out
    rw [hra,Bool.false_and] at h
    exact h
   clear HR
   go_wp2_with (go_at_call 84;refine (r_reg a _).mono ?_;rintro e w' ⟨rfl,rfl⟩;rw [hra])
   go_ret
   exact ⟨rfl,HB.out⟩
 | true =>
 have h:=HR.out
 rw [hra,Bool.true_and] at h
 replace HR:=Lib.hid h
 clear h
 go_upto_region 12 with (go_at_call 84;refine (r_reg a _).mono ?_;rintro e w' ⟨rfl,rfl⟩;rw [hra])
 by_cases hb:b=0
 rotate_left
 · have qb : (b != 0) = true := by simpa using hb
   obtain rfl:R=false:=by
    have h:=HR.out
    rw [int_f hb,Bool.false_and] at h
    exact h
   clear HR
   go_wp2_with fail
   go_ret
   exact ⟨rfl,HB.out⟩
 subst hb
 have h:=HR.out
 rw [show ((0:Int)==0)=true from rfl,Bool.true_and] at h
 replace HR:=Lib.hid h
 clear h
 go_upto_region 15 with fail
 by_cases had:ad=0
 rotate_left
 · have qad : (ad != 0) = true := by simpa using had
   obtain rfl:R=false:=by
    have h:=HR.out
    rw [int_f had,Bool.false_and] at h
    exact h
   clear HR
   go_wp2_with fail
   go_ret
   exact ⟨rfl,HB.out⟩
 subst had
 have h:=HR.out
 rw [show ((0:Int)==0)=true from rfl,Bool.true_and] at h
 replace HR:=Lib.hid h
 clear h
 go_upto_region 18 with fail
 by_cases htt:tt=0
 rotate_left
 · have qtt : (tt != 0) = true := by simpa using htt
   obtain rfl:R=false:=by
    have h:=HR.out
    rw [int_f htt,Bool.false_and] at h
    exact h
   clear HR
   go_wp2_with fail
   go_ret
   exact ⟨rfl,HB.out⟩
 subst htt
 have h:=HR.out
 rw [show ((0:Int)==0)=true from rfl,Bool.true_and] at h
 replace HR:=Lib.hid h
 clear h
 go_upto_region 21 with fail
 by_cases hw:wd=0
 · subst hw
   obtain rfl:R=true:=HR.out
   clear HR
   go_wp2_with fail
   go_ret
   exact ⟨rfl,HB.out⟩
 · have qw := int_f hw
   obtain rfl:R=false:=by have h:=HR.out;rw [qw] at h;exact h
   clear HR
   go_wp2_with fail
   go_ret
   exact ⟨rfl,HB.out⟩
theorem r_right8 (o d a b ad tt wd fr n m:Int) (ho:0≤o∧o≤255) (w:World):Calls Tryz.prog 41 #[.agg #[.int .u8 8,.int .u8 o,.int .i64 d,.int .i64 a,.int .i64 b,.int .i64 ad,.int .i64 tt,.int .i64 wd,.int .i64 fr],.int .i64 n,.int .i64 m] w fun e w'=>e=.returned (.bool (rightB ⟨8,o,d,a,b,ad,tt,wd,fr⟩ n m))∧Below w.heap.size w w':=by
 have hR:rightB ⟨8,o,d,a,b,ad,tt,wd,fr⟩ n m=(inB fr 4097&&((o==0)&&((d==0)&&((a==0)&&((b==0)&&((ad==0)&&(inB tt n&&(wd==0)))))))):=by
  show (kB 8&&(inB fr 4097&&(_&&(_&&(_&&(_&&(_&&(_&&(wd==0 || (8:Int)==1)))))))) )=_
  rw [show kB 8=true by decide,show ((8:Int)==1)=false by decide]
  first | rfl | (simp only [Bool.true_and,Bool.or_false];rfl)
 obtain ⟨R,hRR⟩:∃ R,R=rightB ⟨8,o,d,a,b,ad,tt,wd,fr⟩ n m:=⟨_,rfl⟩
 rw [← hRR]
 have HR:=Lib.hid (hRR.trans hR)
 clear hR hRR
 have al:Below w.heap.size w (w.alloc (.cells #[.int .u8 8,.int .u8 o,.int .i64 d,.int .i64 a,.int .i64 b,.int .i64 ad,.int .i64 tt,.int .i64 wd,.int .i64 fr] 75)):=(Below.refl _ w).alloc (Nat.le_refl _) _
 have O0:=Own.new w 75 #[.int .u8 8,.int .u8 o,.int .i64 d,.int .i64 a,.int .i64 b,.int .i64 ad,.int .i64 tt,.int .i64 wd,.int .i64 fr]
 obtain ⟨W0,hW0⟩:∃ W,W=w.alloc (.cells #[.int .u8 8,.int .u8 o,.int .i64 d,.int .i64 a,.int .i64 b,.int .i64 ad,.int .i64 tt,.int .i64 wd,.int .i64 fr] 75):=⟨_,rfl⟩
 rw [← hW0] at al O0
 have HW0:=Lib.hid hW0
 have HB:=Lib.hid al
 have z0:W0.cell? ⟨w.heap.size,0,none⟩=some (.int .u8 8):=by rw [cell_of_row _ _ 0 _ _ _ O0];rfl
 have z1:W0.cell? ⟨w.heap.size,1,none⟩=some (.int .u8 o):=by rw [cell_of_row _ _ 1 _ _ _ O0];rfl
 have z2:W0.cell? ⟨w.heap.size,2,none⟩=some (.int .i64 d):=by rw [cell_of_row _ _ 2 _ _ _ O0];rfl
 have z3:W0.cell? ⟨w.heap.size,3,none⟩=some (.int .i64 a):=by rw [cell_of_row _ _ 3 _ _ _ O0];rfl
 have z4:W0.cell? ⟨w.heap.size,4,none⟩=some (.int .i64 b):=by rw [cell_of_row _ _ 4 _ _ _ O0];rfl
 have z5:W0.cell? ⟨w.heap.size,5,none⟩=some (.int .i64 ad):=by rw [cell_of_row _ _ 5 _ _ _ O0];rfl
 have z6:W0.cell? ⟨w.heap.size,6,none⟩=some (.int .i64 tt):=by rw [cell_of_row _ _ 6 _ _ _ O0];rfl
 have z7:W0.cell? ⟨w.heap.size,7,none⟩=some (.int .i64 wd):=by rw [cell_of_row _ _ 7 _ _ _ O0];rfl
 have z8:W0.cell? ⟨w.heap.size,8,none⟩=some (.int .i64 fr):=by rw [cell_of_row _ _ 8 _ _ _ O0];rfl
 clear al O0 hW0
 go_enter Tryz.func41,Tryz.ntmps41
 go_upto_region 1 with fail
 rw [← HW0.out]
 clear HW0
 by_cases f0:fr<0
 · have x : inB fr 4097 = false := by unfold inB; rw [b_f (by omega)]; rfl
   obtain rfl:R=false:=by
    have h:=HR.out
    rw [x,Bool.false_and] at h
    exact h
   clear HR
   go_wp2_with fail
   go_ret
   exact ⟨rfl,HB.out⟩
 by_cases f1:4096<fr
 · have x : inB fr 4097 = false := by unfold inB; rw [b_f (p := fr < 4097) (by omega), Bool.and_false]
   obtain rfl:R=false:=by
    have h:=HR.out
    rw [x,Bool.false_and] at h
    exact h
   clear HR
   go_wp2_with fail
   go_ret
   exact ⟨rfl,HB.out⟩
 have h:=HR.out
 rw [show inB fr 4097=true by unfold inB;rw [b_t (by omega),b_t (by omega)];rfl,Bool.true_and] at h
 replace HR:=Lib.hid h
 clear h
 go_upto_region 5 with (go_at_call 68;refine (r_uses8 _).mono ?_;rintro e w' ⟨rfl,rfl⟩)
 by_cases o1:o=0
 rotate_left
 · have q : (o != 0) = true := by simpa using o1
   obtain rfl:R=false:=by
    have h:=HR.out
    rw [int_f o1,Bool.false_and] at h
    exact h
   clear HR
   go_wp2_with fail
   go_ret
   exact ⟨rfl,HB.out⟩
 subst o1
 have h:=HR.out
 rw [show ((0:Int)==0)=true from rfl,Bool.true_and] at h
 replace HR:=Lib.hid h
 clear h
 go_upto_region 8 with fail
 by_cases hd:d=0
 rotate_left
 · have qd : (d != 0) = true := by simpa using hd
   obtain rfl:R=false:=by
    have h:=HR.out
    rw [int_f hd,Bool.false_and] at h
    exact h
   clear HR
   go_wp2_with fail
   go_ret
   exact ⟨rfl,HB.out⟩
 subst hd
 have h:=HR.out
 rw [show ((0:Int)==0)=true from rfl,Bool.true_and] at h
 replace HR:=Lib.hid h
 clear h
 go_upto_region 10 with fail
 by_cases ha:a=0
 rotate_left
 · have qa : (a != 0) = true := by simpa using ha
   obtain rfl:R=false:=by
    have h:=HR.out
    rw [int_f ha,Bool.false_and] at h
    exact h
   clear HR
   go_wp2_with fail
   go_ret
   exact ⟨rfl,HB.out⟩
 subst ha
 have h:=HR.out
 rw [show ((0:Int)==0)=true from rfl,Bool.true_and] at h
 replace HR:=Lib.hid h
 clear h
 go_upto_region 12 with fail
 by_cases hb:b=0
 rotate_left
 · have qb : (b != 0) = true := by simpa using hb
   obtain rfl:R=false:=by
    have h:=HR.out
    rw [int_f hb,Bool.false_and] at h
    exact h
   clear HR
   go_wp2_with fail
   go_ret
   exact ⟨rfl,HB.out⟩
 subst hb
 have h:=HR.out
 rw [show ((0:Int)==0)=true from rfl,Bool.true_and] at h
 replace HR:=Lib.hid h
 clear h
 go_upto_region 15 with fail
 by_cases had:ad=0
 rotate_left
 · have qad : (ad != 0) = true := by simpa using had
   obtain rfl:R=false:=by
    have h:=HR.out
    rw [int_f had,Bool.false_and] at h
    exact h
   clear HR
   go_wp2_with fail
   go_ret
   exact ⟨rfl,HB.out⟩
 subst had
 have h:=HR.out
 rw [show ((0:Int)==0)=true from rfl,Bool.true_and] at h
 replace HR:=Lib.hid h
 clear h
 go_upto_region 18 with fail
 by_cases htt0:tt<0
 · have x : inB tt n = false := by unfold inB; rw [b_f (p := 0 ≤ tt) (by omega)]; rfl
   obtain rfl:R=false:=by
    have h:=HR.out
    rw [x,Bool.false_and] at h
    exact h
   clear HR
   go_wp2_with fail
   go_ret
   exact ⟨rfl,HB.out⟩
 by_cases htt1:n≤tt
 · have x : inB tt n = false := by unfold inB; rw [b_f (p := tt < n) (by omega), Bool.and_false]
   obtain rfl:R=false:=by
    have h:=HR.out
    rw [x,Bool.false_and] at h
    exact h
   clear HR
   go_wp2_with fail
   go_ret
   exact ⟨rfl,HB.out⟩
 have h:=HR.out
 rw [show inB tt n=true by unfold inB;rw [b_t (by omega),b_t (by omega)];rfl,Bool.true_and] at h
 replace HR:=Lib.hid h
 clear h
 go_upto_region 21 with fail
 by_cases hw:wd=0
 · subst hw
   obtain rfl:R=true:=HR.out
   clear HR
   go_wp2_with fail
   go_ret
   exact ⟨rfl,HB.out⟩
 · have qw := int_f hw
   obtain rfl:R=false:=by have h:=HR.out;rw [qw] at h;exact h
   clear HR
   go_wp2_with fail
   go_ret
   exact ⟨rfl,HB.out⟩
theorem r_right9 (o d a b ad tt wd fr n m:Int) (ho:0≤o∧o≤255) (w:World):Calls Tryz.prog 41 #[.agg #[.int .u8 9,.int .u8 o,.int .i64 d,.int .i64 a,.int .i64 b,.int .i64 ad,.int .i64 tt,.int .i64 wd,.int .i64 fr],.int .i64 n,.int .i64 m] w fun e w'=>e=.returned (.bool (rightB ⟨9,o,d,a,b,ad,tt,wd,fr⟩ n m))∧Below w.heap.size w w':=by
 have hR:rightB ⟨9,o,d,a,b,ad,tt,wd,fr⟩ n m=(inB fr 4097&&((o==0)&&((d==0)&&(inB a 16&&((b==0)&&((ad==0)&&(inB tt n&&(wd==0)))))))):=by
  show (kB 9&&(inB fr 4097&&(_&&(_&&(_&&(_&&(_&&(_&&(wd==0 || (9:Int)==1)))))))) )=_
  rw [show kB 9=true by decide,show ((9:Int)==1)=false by decide]
  first | rfl | (simp only [Bool.true_and,Bool.or_false];rfl)
 obtain ⟨R,hRR⟩:∃ R,R=rightB ⟨9,o,d,a,b,ad,tt,wd,fr⟩ n m:=⟨_,rfl⟩
 rw [← hRR]
 have HR:=Lib.hid (hRR.trans hR)
 clear hR hRR
 have al:Below w.heap.size w (w.alloc (.cells #[.int .u8 9,.int .u8 o,.int .i64 d,.int .i64 a,.int .i64 b,.int .i64 ad,.int .i64 tt,.int .i64 wd,.int .i64 fr] 75)):=(Below.refl _ w).alloc (Nat.le_refl _) _
 have O0:=Own.new w 75 #[.int .u8 9,.int .u8 o,.int .i64 d,.int .i64 a,.int .i64 b,.int .i64 ad,.int .i64 tt,.int .i64 wd,.int .i64 fr]
 obtain ⟨W0,hW0⟩:∃ W,W=w.alloc (.cells #[.int .u8 9,.int .u8 o,.int .i64 d,.int .i64 a,.int .i64 b,.int .i64 ad,.int .i64 tt,.int .i64 wd,.int .i64 fr] 75):=⟨_,rfl⟩
 rw [← hW0] at al O0
 have HW0:=Lib.hid hW0
 have HB:=Lib.hid al
 have z0:W0.cell? ⟨w.heap.size,0,none⟩=some (.int .u8 9):=by rw [cell_of_row _ _ 0 _ _ _ O0];rfl
 have z1:W0.cell? ⟨w.heap.size,1,none⟩=some (.int .u8 o):=by rw [cell_of_row _ _ 1 _ _ _ O0];rfl
 have z2:W0.cell? ⟨w.heap.size,2,none⟩=some (.int .i64 d):=by rw [cell_of_row _ _ 2 _ _ _ O0];rfl
 have z3:W0.cell? ⟨w.heap.size,3,none⟩=some (.int .i64 a):=by rw [cell_of_row _ _ 3 _ _ _ O0];rfl
 have z4:W0.cell? ⟨w.heap.size,4,none⟩=some (.int .i64 b):=by rw [cell_of_row _ _ 4 _ _ _ O0];rfl
 have z5:W0.cell? ⟨w.heap.size,5,none⟩=some (.int .i64 ad):=by rw [cell_of_row _ _ 5 _ _ _ O0];rfl
 have z6:W0.cell? ⟨w.heap.size,6,none⟩=some (.int .i64 tt):=by rw [cell_of_row _ _ 6 _ _ _ O0];rfl
 have z7:W0.cell? ⟨w.heap.size,7,none⟩=some (.int .i64 wd):=by rw [cell_of_row _ _ 7 _ _ _ O0];rfl
 have z8:W0.cell? ⟨w.heap.size,8,none⟩=some (.int .i64 fr):=by rw [cell_of_row _ _ 8 _ _ _ O0];rfl
 clear al O0 hW0
 go_enter Tryz.func41,Tryz.ntmps41
 go_upto_region 1 with fail
 rw [← HW0.out]
 clear HW0
 by_cases f0:fr<0
 · have x : inB fr 4097 = false := by unfold inB; rw [b_f (by omega)]; rfl
   obtain rfl:R=false:=by
    have h:=HR.out
    rw [x,Bool.false_and] at h
    exact h
   clear HR
   go_wp2_with fail
   go_ret
   exact ⟨rfl,HB.out⟩
 by_cases f1:4096<fr
 · have x : inB fr 4097 = false := by unfold inB; rw [b_f (p := fr < 4097) (by omega), Bool.and_false]
   obtain rfl:R=false:=by
    have h:=HR.out
    rw [x,Bool.false_and] at h
    exact h
   clear HR
   go_wp2_with fail
   go_ret
   exact ⟨rfl,HB.out⟩
 have h:=HR.out
 rw [show inB fr 4097=true by unfold inB;rw [b_t (by omega),b_t (by omega)];rfl,Bool.true_and] at h
 replace HR:=Lib.hid h
 clear h
 go_upto_region 5 with (go_at_call 68;refine (r_uses9 _).mono ?_;rintro e w' ⟨rfl,rfl⟩)
 by_cases o1:o=0
 rotate_left
 · have q : (o != 0) = true := by simpa using o1
   obtain rfl:R=false:=by
    have h:=HR.out
    rw [int_f o1,Bool.false_and] at h
    exact h
   clear HR
   go_wp2_with fail
   go_ret
   exact ⟨rfl,HB.out⟩
 subst o1
 have h:=HR.out
 rw [show ((0:Int)==0)=true from rfl,Bool.true_and] at h
 replace HR:=Lib.hid h
 clear h
 go_upto_region 8 with fail
 by_cases hd:d=0
 rotate_left
 · have qd : (d != 0) = true := by simpa using hd
   obtain rfl:R=false:=by
    have h:=HR.out
    rw [int_f hd,Bool.false_and] at h
    exact h
   clear HR
   go_wp2_with fail
   go_ret
   exact ⟨rfl,HB.out⟩
 subst hd
 have h:=HR.out
 rw [show ((0:Int)==0)=true from rfl,Bool.true_and] at h
 replace HR:=Lib.hid h
 clear h
 go_upto_region 10 with fail
 cases hra:inB a 16 with
 | false =>
   obtain rfl:R=false:=by
    have h:=HR.out
    rw [hra,Bool.false_and] at h
    exact h
   clear HR
   go_wp2_with (go_at_call 84;refine (r_reg a _).mono ?_;rintro e w' ⟨rfl,rfl⟩;rw [hra])
   go_ret
   exact ⟨rfl,HB.out⟩
 | true =>
 have h:=HR.out
 rw [hra,Bool.true_and] at h
 replace HR:=Lib.hid h
 clear h
 go_upto_region 12 with (go_at_call 84;refine (r_reg a _).mono ?_;rintro e w' ⟨rfl,rfl⟩;rw [hra])
 by_cases hb:b=0
 rotate_left
 · have qb : (b != 0) = true := by simpa using hb
   obtain rfl:R=false:=by
    have h:=HR.out
    rw [int_f hb,Bool.false_and] at h
    exact h
   clear HR
   go_wp2_with fail
   go_ret
   exact ⟨rfl,HB.out⟩
 subst hb
 have h:=HR.out
 rw [show ((0:Int)==0)=true from rfl,Bool.true_and] at h
 replace HR:=Lib.hid h
 clear h
 go_upto_region 15 with fail
 by_cases had:ad=0
 rotate_left
 · have qad : (ad != 0) = true := by simpa using had
   obtain rfl:R=false:=by
    have h:=HR.out
    rw [int_f had,Bool.false_and] at h
    exact h
   clear HR
   go_wp2_with fail
   go_ret
   exact ⟨rfl,HB.out⟩
 subst had
 have h:=HR.out
 rw [show ((0:Int)==0)=true from rfl,Bool.true_and] at h
 replace HR:=Lib.hid h
 clear h
 go_upto_region 18 with fail
 by_cases htt0:tt<0
 · have x : inB tt n = false := by unfold inB; rw [b_f (p := 0 ≤ tt) (by omega)]; rfl
   obtain rfl:R=false:=by
    have h:=HR.out
    rw [x,Bool.false_and] at h
    exact h
   clear HR
   go_wp2_with fail
   go_ret
   exact ⟨rfl,HB.out⟩
 by_cases htt1:n≤tt
 · have x : inB tt n = false := by unfold inB; rw [b_f (p := tt < n) (by omega), Bool.and_false]
   obtain rfl:R=false:=by
    have h:=HR.out
    rw [x,Bool.false_and] at h
    exact h
   clear HR
   go_wp2_with fail
   go_ret
   exact ⟨rfl,HB.out⟩
 have h:=HR.out
 rw [show inB tt n=true by unfold inB;rw [b_t (by omega),b_t (by omega)];rfl,Bool.true_and] at h
 replace HR:=Lib.hid h
 clear h
 go_upto_region 21 with fail
 by_cases hw:wd=0
 · subst hw
   obtain rfl:R=true:=HR.out
   clear HR
   go_wp2_with fail
   go_ret
   exact ⟨rfl,HB.out⟩
 · have qw := int_f hw
   obtain rfl:R=false:=by have h:=HR.out;rw [qw] at h;exact h
   clear HR
   go_wp2_with fail
   go_ret
   exact ⟨rfl,HB.out⟩
theorem r_right10 (o d a b ad tt wd fr n m:Int) (ho:0≤o∧o≤255) (w:World):Calls Tryz.prog 41 #[.agg #[.int .u8 10,.int .u8 o,.int .i64 d,.int .i64 a,.int .i64 b,.int .i64 ad,.int .i64 tt,.int .i64 wd,.int .i64 fr],.int .i64 n,.int .i64 m] w fun e w'=>e=.returned (.bool (rightB ⟨10,o,d,a,b,ad,tt,wd,fr⟩ n m))∧Below w.heap.size w w':=by
 have hR:rightB ⟨10,o,d,a,b,ad,tt,wd,fr⟩ n m=(inB fr 4097&&((o==0)&&((d==0)&&((a==0)&&((b==0)&&((ad==0)&&((tt==0)&&(wd==0)))))))):=by
  show (kB 10&&(inB fr 4097&&(_&&(_&&(_&&(_&&(_&&(_&&(wd==0 || (10:Int)==1)))))))) )=_
  rw [show kB 10=true by decide,show ((10:Int)==1)=false by decide]
  first | rfl | (simp only [Bool.true_and,Bool.or_false];rfl)
 obtain ⟨R,hRR⟩:∃ R,R=rightB ⟨10,o,d,a,b,ad,tt,wd,fr⟩ n m:=⟨_,rfl⟩
 rw [← hRR]
 have HR:=Lib.hid (hRR.trans hR)
 clear hR hRR
 have al:Below w.heap.size w (w.alloc (.cells #[.int .u8 10,.int .u8 o,.int .i64 d,.int .i64 a,.int .i64 b,.int .i64 ad,.int .i64 tt,.int .i64 wd,.int .i64 fr] 75)):=(Below.refl _ w).alloc (Nat.le_refl _) _
 have O0:=Own.new w 75 #[.int .u8 10,.int .u8 o,.int .i64 d,.int .i64 a,.int .i64 b,.int .i64 ad,.int .i64 tt,.int .i64 wd,.int .i64 fr]
 obtain ⟨W0,hW0⟩:∃ W,W=w.alloc (.cells #[.int .u8 10,.int .u8 o,.int .i64 d,.int .i64 a,.int .i64 b,.int .i64 ad,.int .i64 tt,.int .i64 wd,.int .i64 fr] 75):=⟨_,rfl⟩
 rw [← hW0] at al O0
 have HW0:=Lib.hid hW0
 have HB:=Lib.hid al
 have z0:W0.cell? ⟨w.heap.size,0,none⟩=some (.int .u8 10):=by rw [cell_of_row _ _ 0 _ _ _ O0];rfl
 have z1:W0.cell? ⟨w.heap.size,1,none⟩=some (.int .u8 o):=by rw [cell_of_row _ _ 1 _ _ _ O0];rfl
 have z2:W0.cell? ⟨w.heap.size,2,none⟩=some (.int .i64 d):=by rw [cell_of_row _ _ 2 _ _ _ O0];rfl
 have z3:W0.cell? ⟨w.heap.size,3,none⟩=some (.int .i64 a):=by rw [cell_of_row _ _ 3 _ _ _ O0];rfl
 have z4:W0.cell? ⟨w.heap.size,4,none⟩=some (.int .i64 b):=by rw [cell_of_row _ _ 4 _ _ _ O0];rfl
 have z5:W0.cell? ⟨w.heap.size,5,none⟩=some (.int .i64 ad):=by rw [cell_of_row _ _ 5 _ _ _ O0];rfl
 have z6:W0.cell? ⟨w.heap.size,6,none⟩=some (.int .i64 tt):=by rw [cell_of_row _ _ 6 _ _ _ O0];rfl
 have z7:W0.cell? ⟨w.heap.size,7,none⟩=some (.int .i64 wd):=by rw [cell_of_row _ _ 7 _ _ _ O0];rfl
 have z8:W0.cell? ⟨w.heap.size,8,none⟩=some (.int .i64 fr):=by rw [cell_of_row _ _ 8 _ _ _ O0];rfl
 clear al O0 hW0
 go_enter Tryz.func41,Tryz.ntmps41
 go_upto_region 1 with fail
 rw [← HW0.out]
 clear HW0
 by_cases f0:fr<0
 · have x : inB fr 4097 = false := by unfold inB; rw [b_f (by omega)]; rfl
   obtain rfl:R=false:=by
    have h:=HR.out
    rw [x,Bool.false_and] at h
    exact h
   clear HR
   go_wp2_with fail
   go_ret
   exact ⟨rfl,HB.out⟩
 by_cases f1:4096<fr
 · have x : inB fr 4097 = false := by unfold inB; rw [b_f (p := fr < 4097) (by omega), Bool.and_false]
   obtain rfl:R=false:=by
    have h:=HR.out
    rw [x,Bool.false_and] at h
    exact h
   clear HR
   go_wp2_with fail
   go_ret
   exact ⟨rfl,HB.out⟩
 have h:=HR.out
 rw [show inB fr 4097=true by unfold inB;rw [b_t (by omega),b_t (by omega)];rfl,Bool.true_and] at h
 replace HR:=Lib.hid h
 clear h
 go_upto_region 5 with (go_at_call 68;refine (r_uses10 _).mono ?_;rintro e w' ⟨rfl,rfl⟩)
 by_cases o1:o=0
 rotate_left
 · have q : (o != 0) = true := by simpa using o1
   obtain rfl:R=false:=by
    have h:=HR.out
    rw [int_f o1,Bool.false_and] at h
    exact h
   clear HR
   go_wp2_with fail
   go_ret
   exact ⟨rfl,HB.out⟩
 subst o1
 have h:=HR.out
 rw [show ((0:Int)==0)=true from rfl,Bool.true_and] at h
 replace HR:=Lib.hid h
 clear h
 go_upto_region 8 with fail
 by_cases hd:d=0
 rotate_left
 · have qd : (d != 0) = true := by simpa using hd
   obtain rfl:R=false:=by
    have h:=HR.out
    rw [int_f hd,Bool.false_and] at h
    exact h
   clear HR
   go_wp2_with fail
   go_ret
   exact ⟨rfl,HB.out⟩
 subst hd
 have h:=HR.out
 rw [show ((0:Int)==0)=true from rfl,Bool.true_and] at h
 replace HR:=Lib.hid h
 clear h
 go_upto_region 10 with fail
 by_cases ha:a=0
 rotate_left
 · have qa : (a != 0) = true := by simpa using ha
   obtain rfl:R=false:=by
    have h:=HR.out
    rw [int_f ha,Bool.false_and] at h
    exact h
   clear HR
   go_wp2_with fail
   go_ret
   exact ⟨rfl,HB.out⟩
 subst ha
 have h:=HR.out
 rw [show ((0:Int)==0)=true from rfl,Bool.true_and] at h
 replace HR:=Lib.hid h
 clear h
 go_upto_region 12 with fail
 by_cases hb:b=0
 rotate_left
 · have qb : (b != 0) = true := by simpa using hb
   obtain rfl:R=false:=by
    have h:=HR.out
    rw [int_f hb,Bool.false_and] at h
    exact h
   clear HR
   go_wp2_with fail
   go_ret
   exact ⟨rfl,HB.out⟩
 subst hb
 have h:=HR.out
 rw [show ((0:Int)==0)=true from rfl,Bool.true_and] at h
 replace HR:=Lib.hid h
 clear h
 go_upto_region 15 with fail
 by_cases had:ad=0
 rotate_left
 · have qad : (ad != 0) = true := by simpa using had
   obtain rfl:R=false:=by
    have h:=HR.out
    rw [int_f had,Bool.false_and] at h
    exact h
   clear HR
   go_wp2_with fail
   go_ret
   exact ⟨rfl,HB.out⟩
 subst had
 have h:=HR.out
 rw [show ((0:Int)==0)=true from rfl,Bool.true_and] at h
 replace HR:=Lib.hid h
 clear h
 go_upto_region 18 with fail
 by_cases htt:tt=0
 rotate_left
 · have qtt : (tt != 0) = true := by simpa using htt
   obtain rfl:R=false:=by
    have h:=HR.out
    rw [int_f htt,Bool.false_and] at h
    exact h
   clear HR
   go_wp2_with fail
   go_ret
   exact ⟨rfl,HB.out⟩
 subst htt
 have h:=HR.out
 rw [show ((0:Int)==0)=true from rfl,Bool.true_and] at h
 replace HR:=Lib.hid h
 clear h
 go_upto_region 21 with fail
 by_cases hw:wd=0
 · subst hw
   obtain rfl:R=true:=HR.out
   clear HR
   go_wp2_with fail
   go_ret
   exact ⟨rfl,HB.out⟩
 · have qw := int_f hw
   obtain rfl:R=false:=by have h:=HR.out;rw [qw] at h;exact h
   clear HR
   go_wp2_with fail
   go_ret
   exact ⟨rfl,HB.out⟩
open Go.RowKit
set_option linter.unusedVariables false
set_option maxRecDepth 100000
theorem r_rightN (k o d a b ad tt wd fr n m:Int) (hk:kB k=false) (h0:0≤k) (w:World):Calls Tryz.prog 41 #[.agg #[.int .u8 k,.int .u8 o,.int .i64 d,.int .i64 a,.int .i64 b,.int .i64 ad,.int .i64 tt,.int .i64 wd,.int .i64 fr],.int .i64 n,.int .i64 m] w fun e w'=>e=.returned (.bool (rightB ⟨k,o,d,a,b,ad,tt,wd,fr⟩ n m))∧Below w.heap.size w w':=by
 have hR:rightB ⟨k,o,d,a,b,ad,tt,wd,fr⟩ n m=false:=by unfold rightB;rw [hk];rfl
 rw [hR]
 have hor:k≤0∨(¬ k≤0∧11≤k):=by
  unfold kB at hk
  by_cases h1:k≤0
  · exact .inl h1
  · refine .inr ⟨h1, ?_⟩
    rw [b_t (p:=0<k) (by omega),Bool.true_and] at hk
    have:=of_decide_eq_false hk
    omega
 clear hR hk
 have al:Below w.heap.size w (w.alloc (.cells #[.int .u8 k,.int .u8 o,.int .i64 d,.int .i64 a,.int .i64 b,.int .i64 ad,.int .i64 tt,.int .i64 wd,.int .i64 fr] 75)):=(Below.refl _ w).alloc (Nat.le_refl _) _
 have O0:=Own.new w 75 #[.int .u8 k,.int .u8 o,.int .i64 d,.int .i64 a,.int .i64 b,.int .i64 ad,.int .i64 tt,.int .i64 wd,.int .i64 fr]
 obtain ⟨W0,hW0⟩:∃ W,W=w.alloc (.cells #[.int .u8 k,.int .u8 o,.int .i64 d,.int .i64 a,.int .i64 b,.int .i64 ad,.int .i64 tt,.int .i64 wd,.int .i64 fr] 75):=⟨_,rfl⟩
 rw [← hW0] at al O0
 have HW0:=Lib.hid hW0
 have HB:=Lib.hid al
 have z0:W0.cell? ⟨w.heap.size,0,none⟩=some (.int .u8 k):=by rw [cell_of_row _ _ 0 _ _ _ O0];rfl
 have z1:W0.cell? ⟨w.heap.size,1,none⟩=some (.int .u8 o):=by rw [cell_of_row _ _ 1 _ _ _ O0];rfl
 have z2:W0.cell? ⟨w.heap.size,2,none⟩=some (.int .i64 d):=by rw [cell_of_row _ _ 2 _ _ _ O0];rfl
 have z3:W0.cell? ⟨w.heap.size,3,none⟩=some (.int .i64 a):=by rw [cell_of_row _ _ 3 _ _ _ O0];rfl
 have z4:W0.cell? ⟨w.heap.size,4,none⟩=some (.int .i64 b):=by rw [cell_of_row _ _ 4 _ _ _ O0];rfl
 have z5:W0.cell? ⟨w.heap.size,5,none⟩=some (.int .i64 ad):=by rw [cell_of_row _ _ 5 _ _ _ O0];rfl
 have z6:W0.cell? ⟨w.heap.size,6,none⟩=some (.int .i64 tt):=by rw [cell_of_row _ _ 6 _ _ _ O0];rfl
 have z7:W0.cell? ⟨w.heap.size,7,none⟩=some (.int .i64 wd):=by rw [cell_of_row _ _ 7 _ _ _ O0];rfl
 have z8:W0.cell? ⟨w.heap.size,8,none⟩=some (.int .i64 fr):=by rw [cell_of_row _ _ 8 _ _ _ O0];rfl
 clear al O0 hW0
 go_enter Tryz.func41,Tryz.ntmps41
 go_upto_region 1 with fail
 rw [← HW0.out]
 clear HW0
 rcases hor with h1 | ⟨h1,h2⟩
 · go_wp2_with fail
   go_ret
   exact ⟨rfl,HB.out⟩
 · go_wp2_with fail
   go_ret
   exact ⟨rfl,HB.out⟩
theorem rright_any (i:Ins) (hg:rgI i) (n m:Int) (w:World):Calls Tryz.prog 41 #[insV i,.int .i64 n,.int .i64 m] w fun e w'=>e=.returned (.bool (rightB i n m))∧Below w.heap.size w w':=by
 obtain ⟨k,o,d,a,b,ad,tt,wd,fr⟩:=i
 obtain ⟨hk,ho,_⟩:=hg
 simp only at hk ho
 cases h:kB k with
 | false=>exact r_rightN k o d a b ad tt wd fr n m h hk.1 w
 | true =>
   rcases kB_iff.1 h with rfl | rfl | rfl | rfl | rfl | rfl | rfl | rfl | rfl | rfl
   · exact r_right1 o d a b ad tt wd fr n m ho w
   · exact r_right2 o d a b ad tt wd fr n m ho w
   · exact r_right3 o d a b ad tt wd fr n m ho w
   · exact r_right4 o d a b ad tt wd fr n m ho w
   · exact r_right5 o d a b ad tt wd fr n m ho w
   · exact r_right6 o d a b ad tt wd fr n m ho w
   · exact r_right7 o d a b ad tt wd fr n m ho w
   · exact r_right8 o d a b ad tt wd fr n m ho w
   · exact r_right9 o d a b ad tt wd fr n m ho w
   · exact r_right10 o d a b ad tt wd fr n m ho w
end Go.Proofs.YtmpljhfinmfnbaaGreatDoor

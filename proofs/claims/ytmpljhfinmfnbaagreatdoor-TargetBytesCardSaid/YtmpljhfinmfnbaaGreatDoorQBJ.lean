/- The proof, part 36: texts that belong together, in one. -/
import Derived.Test.YtmpljhfinmfnbaaGreatDoorQAZ
import Derived.Test.YtmpljhfinmfnbaaGreatDoorQAN
import Derived.Test.YtmpljhfinmfnbaaGreatDoorQAR
import Derived.Test.YtmpljhfinmfnbaaGreatDoorQBI
import Derived.Test.YtmpljhfinmfnbaaGreatDoorQAQ
set_option maxRecDepth 100000
set_option maxHeartbeats 20000000
namespace Go.Proofs.YtmpljhfinmfnbaaGreatDoor
open Go.RowKit
set_option linter.unusedVariables false
set_option maxRecDepth 100000
def bgT:ByteArray:=⟨#[111,98,106,101,99,116,32,48,32,48,32,49,10,109,101,109,111,114,121,32,55,10,99,111,114,101,32,65,10,97,100,100,32,114,50,32,114,49,32,114,48,32,64,51,10,104,97,108,116,10]⟩
def bgO:Ob:=⟨[7],0,0,1,[⟨⟨#[65]⟩,[⟨2,1,2,1,0,0,0,0,3⟩,⟨10,0,0,0,0,0,0,0,0⟩]⟩]⟩
theorem bg_txS:txS bgT (bgT.size+2) 0 0 zOb=((0,true),bgO):=by kernel_rfl
theorem bg_chk:chkO bgO=(0,0,0):=by kernel_rfl
theorem bg_par:parO bgT=(bgO,0,0):=by
 have hs:¬ 16777216<bgT.size:=by show ¬ 16777216<(50:Nat);omega
 unfold parO
 rw [if_neg hs,bg_txS]
 simp only [if_true]
 rw [bg_chk]
 rfl
def bg0:Ob:=⟨[],0,0,1,[⟨⟨#[65]⟩,[⟨10,0,0,0,0,0,0,0,0⟩]⟩]⟩
theorem bg_prt:prtO bg0=([111,98,106,101,99,116,32,48,32,48,32,49,10,109,101,109,111,114,121,10,99,111,114,101,32,65,10,104,97,108,116,10],0):=by kernel_rfl
theorem bg_enc:encR bg0=[115,116,105,108,0,0,1,0,1,1,65,1,10,0]:=by kernel_rfl
theorem bg_chk0:chkO bg0=(0,0,0):=by kernel_rfl
def bysAt (W:World) (l:List UInt8) (a:Option Addr):Prop:=l=[]∨∃ g q,a=some ⟨g,q,none⟩∧∀ (j:Nat) (x:UInt8),l[j]? = some x→W.cell? ⟨g,q+j,none⟩=some (.int .u8 (x.toNat:Int))
theorem bysAt_below {W W':World} {l:List UInt8} {a:Option Addr} (h:bysAt W l a) (hb:Below W.heap.size W W'):bysAt W' l a:=by
 rcases h with h | ⟨g,q,e,h⟩
 · exact .inl h
 · exact .inr ⟨g,q,e,fun j x hj=>(hb.cell (p:=⟨g,q+j,none⟩) (lt_of_at (h j x hj))).trans (h j x hj)⟩
theorem row_bys {W:World} {base:Nat} {v:Value} {l:List UInt8} (h:W.ownsRow base 5 1 v l.length (Lib.byteCells l)):∃ a c,v=.slice a l.length c∧bysAt W l a:=by
 by_cases h0:l=[]
 · obtain ⟨a, c, e⟩ := row_slice h
   exact ⟨a,c,e,.inl h0⟩
 · obtain ⟨g, cap, e, _, h2⟩ := row_at h (List.length_pos_iff.2 h0)
   refine ⟨_,_,e,.inr ⟨g,0,rfl,fun j x hj=>?_⟩⟩
   rw [Nat.zero_add]
   exact h2 j _ (by unfold Lib.byteCells;rw [List.getElem?_map,hj];rfl)
theorem bys_same (l:List UInt8) (hl:l.length≤140737488351232) {a b:Option Addr} {c d:Nat} {w:World} (ha:bysAt w l a) (hb:bysAt w l b):Calls Tryz.prog 7 #[.slice a l.length c,.slice b l.length d] w fun e w'=>e=.returned (.bool true)∧Below w.heap.size w w':=by
 obtain ⟨n,hn⟩:∃ n,n=l.length:=⟨_,rfl⟩
 have HA:=Lib.hid ha
 have HB:=Lib.hid hb
 rw [← hn] at hl ⊢
 have HN:=Lib.hid hn
 clear ha hb hn
 go_enter Tryz.func7,Tryz.ntmps7
 go_wp2_with fail
 go_loopg [5] (n+1) (fun m' z X=>∃ j:Nat,z=.int .i64 (j:Int)∧j≤n∧m'=n-j+1∧Below w.heap.size w X)
 case atStart=>exact ⟨0,rfl,Nat.zero_le _,by omega,Below.refl _ _⟩
 case round =>
  obtain ⟨j,rfl,hj,hm,hb⟩:=hrel
  have HM:=Lib.hid hm
  have HW:=Lib.hid hb
  clear hm hb
  by_cases hjn:j<n
  · have il : j < l.length := by have := HN.out; omega
    have g1:l[j]? = some l[j]:=List.getElem?_eq_getElem il
    generalize l[j]=x at g1
    rcases bysAt_below HA.out HW.out with e | ⟨g,q,rfl,h1⟩
    · subst e;simp at il
    rcases bysAt_below HB.out HW.out with e | ⟨g',q',rfl,h2⟩
    · subst e;simp at il
    have k1:=h1 j x g1
    have k2:=h2 j x g1
    have hjn':(j:Int)<(n:Int):=by omega
    clear h1 h2 g1 il
    go_wp2_with fail
    go_quiet (fail)
    have HZ:=Lib.hid (below_drewN HW.out nq)
    go_wp2_with fail
    go_roundg (n-(j+1)+1)
    case measure=>have:=HM.out;omega
    case rel=>exact ⟨j+1,by simp,by omega,by omega,HZ.out⟩
  obtain rfl:n=j:=by omega
  go_wp2_with fail
  go_ret
  exact ⟨rfl,HW.out⟩
theorem bg0_rg:rgO bg0:=by simp [bg0,rgO,rgI]
theorem bg0_fit:fitO bg0:=⟨by simp [bg0],by simp [bg0],fun c hc=>by
 obtain rfl:c=⟨⟨#[65]⟩,[⟨10,0,0,0,0,0,0,0,0⟩]⟩:=by simpa [bg0] using hc
 exact ⟨by show (1:Nat)≤_;omega,by show (1:Nat)≤_;omega⟩⟩
theorem bg0_at {W:World} {g5 g2:Nat} (h5:Own W g5 70 #[.string ⟨#[65]⟩,.slice (some ⟨g2,0,none⟩) 1 1]) (h2:Own W g2 75 #[.int .u8 10,.int .u8 0,.int .i64 0,.int .i64 0,.int .i64 0,.int .i64 0,.int .i64 0,.int .i64 0,.int .i64 0]):obA W bg0 (.agg #[.slice none 0 0,.int .i64 0,.int .i64 0,.int .i64 1,.slice (some ⟨g5,0,none⟩) 1 1]):=by
 refine ⟨none,0,some ⟨g5,0,none⟩,1,rfl,.inl rfl,.inr ⟨g5,0,rfl,fun j c hj=>?_⟩⟩
 match j,hj with
 | 0, hj =>
   obtain rfl:(⟨⟨#[65]⟩,[⟨10,0,0,0,0,0,0,0,0⟩]⟩:Cor)=c:=by simpa [bg0] using hj
   refine ⟨row_cellsO h5 0 _ rfl,some ⟨g2,0,none⟩,1,row_cellsO h5 1 _ rfl,.inr ⟨g2,0,rfl,fun j i hj m v hv=>?_⟩⟩
   match j,hj with
   | 0, hj =>
     obtain rfl:(⟨10,0,0,0,0,0,0,0,0⟩:Ins)=i:=by simpa using hj
     have e:0+0*9+m=m:=by omega
     rw [e]
     exact row_cellsO h2 m v (by simpa [insC] using hv)
   | j+1,hj=>simp at hj
 | j+1,hj=>simp [bg0] at hj
theorem bg_Parse (w:World) (T:TgT w):Calls Tryz.prog 36 #[.string ⟨#[111,98,106,101,99,116,32,48,32,48,32,49,10,109,101,109,111,114,121,32,55,10,99,111,114,101,32,65,10,97,100,100,32,114,50,32,114,49,32,114,48,32,64,51,10,104,97,108,116,10]⟩] w fun e w'=>∃ a1 c1 g5 q5 c5 g2 q2 c2,e=.returned (.tuple #[.agg #[.slice a1 1 c1,.int .i64 0,.int .i64 0,.int .i64 1,.slice (some ⟨g5,q5,none⟩) 1 c5],.int .i64 0,.int .i64 0])∧w'.cell? ⟨g5,q5+1,none⟩=some (.slice (some ⟨g2,q2,none⟩) 2 c2)∧w'.cell? ⟨g2,q2+8,none⟩=some (.int .i64 3)∧Below w.heap.size w w':=by
 have h:=t_Parse bgT w T
 rw [bg_par] at h
 refine h.mono fun e w' ⟨v,e1,ho,_,hb⟩=>?_
 obtain ⟨a1,c1,a5,c5,rfl,_,h5⟩:=ho.obA
 rcases h5 with h5 | ⟨g5,q5,rfl,h5⟩
 · cases h5
 obtain ⟨_,a2,c2,k1,k2⟩:=h5 0 _ rfl
 rcases k2 with k2 | ⟨g2,q2,rfl,k2⟩
 · cases k2
 exact ⟨a1,c1,g5,q5,c5,g2,q2,c2,e1,by simpa using k1,by simpa using k2 0 _ rfl 8 _ rfl,hb⟩
theorem begins_any (w:World) (T:TgT w) (P:PwT w):Calls Tryz.prog 13 #[] w fun e w'=>e=.returned (.bool true)∧Below w.heap.size w w':=by
 have al:Below w.heap.size w (((w.alloc (.cells #[.int .u8 10,.int .u8 0,.int .i64 0,.int .i64 0,.int .i64 0,.int .i64 0,.int .i64 0,.int .i64 0,.int .i64 0] 75)).alloc (.cells #[.string ⟨#[65]⟩,.slice (some ⟨w.heap.size,0,none⟩) 1 1] 70)).alloc (.cells #[.slice none 0 0,.int .i64 0,.int .i64 0,.int .i64 1,.slice (some ⟨w.heap.size+1,0,none⟩) 1 1] 25)):=(((Below.refl _ w).alloc (Nat.le_refl _) _).alloc (by simp) _).alloc (by simp;omega) _
 have OA:Own (((w.alloc (.cells #[.int .u8 10,.int .u8 0,.int .i64 0,.int .i64 0,.int .i64 0,.int .i64 0,.int .i64 0,.int .i64 0,.int .i64 0] 75)).alloc (.cells #[.string ⟨#[65]⟩,.slice (some ⟨w.heap.size,0,none⟩) 1 1] 70)).alloc (.cells #[.slice none 0 0,.int .i64 0,.int .i64 0,.int .i64 1,.slice (some ⟨w.heap.size+1,0,none⟩) 1 1] 25)) w.heap.size 75 #[.int .u8 10,.int .u8 0,.int .i64 0,.int .i64 0,.int .i64 0,.int .i64 0,.int .i64 0,.int .i64 0,.int .i64 0]:=((Own.new w 75 #[.int .u8 10,.int .u8 0,.int .i64 0,.int .i64 0,.int .i64 0,.int .i64 0,.int .i64 0,.int .i64 0,.int .i64 0]).alloc _).alloc _
 have OB:Own (((w.alloc (.cells #[.int .u8 10,.int .u8 0,.int .i64 0,.int .i64 0,.int .i64 0,.int .i64 0,.int .i64 0,.int .i64 0,.int .i64 0] 75)).alloc (.cells #[.string ⟨#[65]⟩,.slice (some ⟨w.heap.size,0,none⟩) 1 1] 70)).alloc (.cells #[.slice none 0 0,.int .i64 0,.int .i64 0,.int .i64 1,.slice (some ⟨w.heap.size+1,0,none⟩) 1 1] 25)) (w.heap.size+1) 70 #[.string ⟨#[65]⟩,.slice (some ⟨w.heap.size,0,none⟩) 1 1]:=by
  have h:=(Own.new (w.alloc (.cells #[.int .u8 10,.int .u8 0,.int .i64 0,.int .i64 0,.int .i64 0,.int .i64 0,.int .i64 0,.int .i64 0,.int .i64 0] 75)) 70 #[.string ⟨#[65]⟩,.slice (some ⟨w.heap.size,0,none⟩) 1 1]).alloc (.cells #[.slice none 0 0,.int .i64 0,.int .i64 0,.int .i64 1,.slice (some ⟨w.heap.size+1,0,none⟩) 1 1] 25)
  rwa [World.size_alloc] at h
 have OC:Own (((w.alloc (.cells #[.int .u8 10,.int .u8 0,.int .i64 0,.int .i64 0,.int .i64 0,.int .i64 0,.int .i64 0,.int .i64 0,.int .i64 0] 75)).alloc (.cells #[.string ⟨#[65]⟩,.slice (some ⟨w.heap.size,0,none⟩) 1 1] 70)).alloc (.cells #[.slice none 0 0,.int .i64 0,.int .i64 0,.int .i64 1,.slice (some ⟨w.heap.size+1,0,none⟩) 1 1] 25)) (w.heap.size+1+1) 25 #[.slice none 0 0,.int .i64 0,.int .i64 0,.int .i64 1,.slice (some ⟨w.heap.size+1,0,none⟩) 1 1]:=by
  have h:=Own.new ((w.alloc (.cells #[.int .u8 10,.int .u8 0,.int .i64 0,.int .i64 0,.int .i64 0,.int .i64 0,.int .i64 0,.int .i64 0,.int .i64 0] 75)).alloc (.cells #[.string ⟨#[65]⟩,.slice (some ⟨w.heap.size,0,none⟩) 1 1] 70)) 25 #[.slice none 0 0,.int .i64 0,.int .i64 0,.int .i64 1,.slice (some ⟨w.heap.size+1,0,none⟩) 1 1]
  rwa [World.size_alloc,World.size_alloc] at h
 have hob:=bg0_at OB OA
 obtain ⟨W1,hW1⟩:∃ W,W=((w.alloc (.cells #[.int .u8 10,.int .u8 0,.int .i64 0,.int .i64 0,.int .i64 0,.int .i64 0,.int .i64 0,.int .i64 0,.int .i64 0] 75)).alloc (.cells #[.string ⟨#[65]⟩,.slice (some ⟨w.heap.size,0,none⟩) 1 1] 70)).alloc (.cells #[.slice none 0 0,.int .i64 0,.int .i64 0,.int .i64 1,.slice (some ⟨w.heap.size+1,0,none⟩) 1 1] 25):=⟨_,rfl⟩
 rw [← hW1] at al OA OB OC hob
 have HW1:=Lib.hid hW1
 have HB1:=Lib.hid al
 have HOB:=Lib.hid hob
 have HOC:=Lib.hid OC
 have HTT:Hid (∀ X,Below w.heap.size w X→TgT X∧PwT X):=fun X h=>⟨T.below h,P.below h⟩
 have HPR:Hid (∀ X,Below W1.heap.size W1 X→Calls Tryz.prog 35 #[.agg #[.slice none 0 0,.int .i64 0,.int .i64 0,.int .i64 1,.slice (some ⟨w.heap.size+1,0,none⟩) 1 1]] X fun e w'=>e=.returned (.tuple #[.string ⟨#[111,98,106,101,99,116,32,48,32,48,32,49,10,109,101,109,111,114,121,10,99,111,114,101,32,65,10,104,97,108,116,10]⟩,.int .i64 0])∧Below X.heap.size X w'):=fun X hX=>by
  have hT:=HTT.out X (HB1.out.trans (hX.mono HB1.out.size))
  have h:=print_any bg0 bg0_rg bg0_fit (obA_below hob hX) hT.1 hT.2
  rw [bg_prt] at h
  exact h
 have HEN:Hid (∀ X,Below W1.heap.size W1 X→Calls Tryz.prog 5 #[.agg #[.slice none 0 0,.int .i64 0,.int .i64 0,.int .i64 1,.slice (some ⟨w.heap.size+1,0,none⟩) 1 1]] X fun e w'=>∃ a c,e=.returned (.tuple #[.slice a 14 c,.int .i64 0])∧bysAt w' [115,116,105,108,0,0,1,0,1,1,65,1,10,0] a∧Below X.heap.size X w'):=fun X hX=>by
  have hT:=HTT.out X (HB1.out.trans (hX.mono HB1.out.size))
  refine (encode_any bg0 bg0_rg bg0_fit (obA_below hob hX) hT.1).mono fun e w' h=>?_
  unfold EncP at h
  rw [bg_enc,bg_chk0] at h
  obtain ⟨a,c,e1,hb,hr⟩:=h
  obtain ⟨a',c',e2,h2⟩:=row_bys hr
  injection e2 with e3 _ e4
  subst e3
  exact ⟨a,c,e1,h2,hb⟩
 have HPA:Hid (∀ X,Below W1.heap.size W1 X→Calls Tryz.prog 36 #[.string ⟨#[111,98,106,101,99,116,32,48,32,48,32,49,10,109,101,109,111,114,121,32,55,10,99,111,114,101,32,65,10,97,100,100,32,114,50,32,114,49,32,114,48,32,64,51,10,104,97,108,116,10]⟩] X fun e w'=>∃ a1 c1 g5 q5 c5 g2 q2 c2,e=.returned (.tuple #[.agg #[.slice a1 1 c1,.int .i64 0,.int .i64 0,.int .i64 1,.slice (some ⟨g5,q5,none⟩) 1 c5],.int .i64 0,.int .i64 0])∧w'.cell? ⟨g5,q5+1,none⟩=some (.slice (some ⟨g2,q2,none⟩) 2 c2)∧w'.cell? ⟨g2,q2+8,none⟩=some (.int .i64 3)∧Below X.heap.size X w'):=fun X hX=>bg_Parse X (HTT.out X (HB1.out.trans (hX.mono HB1.out.size))).1
 have HBY:Hid (∀ (X:World) a c,bysAt X [115,116,105,108,0,0,1,0,1,1,65,1,10,0] a→Calls Tryz.prog 7 #[.slice a 14 c,.slice (some ⟨X.heap.size,0,none⟩) 14 14] (X.alloc (.cells #[.int .u8 115,.int .u8 116,.int .u8 105,.int .u8 108,.int .u8 0,.int .u8 0,.int .u8 1,.int .u8 0,.int .u8 1,.int .u8 1,.int .u8 65,.int .u8 1,.int .u8 10,.int .u8 0] 5)) fun e w'=>e=.returned (.bool true)∧Below X.heap.size X w'):=fun X a c h=>by
  have hb:Below X.heap.size X (X.alloc (.cells #[.int .u8 115,.int .u8 116,.int .u8 105,.int .u8 108,.int .u8 0,.int .u8 0,.int .u8 1,.int .u8 0,.int .u8 1,.int .u8 1,.int .u8 65,.int .u8 1,.int .u8 10,.int .u8 0] 5)):=(Below.refl _ X).alloc (Nat.le_refl _) _
  have hn:=Own.new X 5 #[.int .u8 115,.int .u8 116,.int .u8 105,.int .u8 108,.int .u8 0,.int .u8 0,.int .u8 1,.int .u8 0,.int .u8 1,.int .u8 1,.int .u8 65,.int .u8 1,.int .u8 10,.int .u8 0]
  refine (bys_same [115,116,105,108,0,0,1,0,1,1,65,1,10,0] (by decide) (bysAt_below h hb) (.inr ⟨X.heap.size,0,rfl,fun j x hj=>?_⟩) (c:=c) (d:=14)).mono fun _ _ ⟨e1,e2⟩=>⟨e1,hb.trans (e2.mono hb.size)⟩
  rw [Nat.zero_add]
  refine row_cellsO hn j _ ?_
  have hj2:(List.map (fun b:UInt8=>Value.int .u8 (b.toNat:Int)) [115,116,105,108,0,0,1,0,1,1,65,1,10,0])[j]? = some (.int .u8 (x.toNat:Int)):=by rw [List.getElem?_map,hj];rfl
  rw [← hj2]
  rw [← Array.getElem?_toList]
  rfl
 have HDR:Hid (∀ X,Calls Tryz.prog 37 #[.int .u8 7] X fun e w'=>e=.returned (.bool true)∧X=w'):=fun X=>by
  have h:=drains_any 7 X
  exact h
 clear T P al OA OB hW1 hob
 go_enter Tryz.func13,Tryz.ntmps13
 go_upto_region 2 with fail
 rw [← HW1.out]
 clear HW1
 go_upto_region 3 with (first | (refine ld rowO rfl rfl rfl OC rfl ?_) | (go_at_call 35;refine (HPR.out _ (Below.refl _ _)).mono ?_;rintro e w2 ⟨rfl,hb⟩;have HB2:=Lib.hid hb;have OC2:=HOC.out.below hb;clear hb))
 clear OC
 go_upto_region 4 with (first | (refine ld rowO rfl rfl rfl OC2 rfl ?_) | (go_at_call 5;refine (HEN.out _ HB2.out).mono ?_;rintro e w3 ⟨a,c,rfl,hbs,hb⟩;have HBS:=Lib.hid hbs;have HB3:=Lib.hid (HB2.out.trans (hb.mono HB2.out.size));clear hb hbs))
 clear OC2
 go_upto_region 5 with (go_at_call 36;refine (HPA.out _ HB3.out).mono ?_;rintro e w4 ⟨a1,c1,g5,q5,c5,g2,q2,c2,rfl,k5,k2,hb⟩;have HB4:=Lib.hid (HB3.out.trans (hb.mono HB3.out.size));have HBS4:=Lib.hid (bysAt_below HBS.out hb);clear hb)
 have al5:Below w4.heap.size w4 (w4.alloc (.cells #[.slice a1 1 c1,.int .i64 0,.int .i64 0,.int .i64 1,.slice (some ⟨g5,q5,none⟩) 1 c5] 25)):=(Below.refl _ w4).alloc (Nat.le_refl _) _
 have OX:=Own.new w4 25 #[.slice a1 1 c1,.int .i64 0,.int .i64 0,.int .i64 1,.slice (some ⟨g5,q5,none⟩) 1 c5]
 obtain ⟨b,hb⟩:∃ b,b=w4.heap.size:=⟨_,rfl⟩
 obtain ⟨W5,hW5⟩:∃ W,W=w4.alloc (.cells #[.slice a1 1 c1,.int .i64 0,.int .i64 0,.int .i64 1,.slice (some ⟨g5,q5,none⟩) 1 c5] 25):=⟨_,rfl⟩
 rw [← hW5,← hb] at OX
 rw [← hW5] at al5
 have HW5:=Lib.hid hW5
 have HBE:=Lib.hid hb
 have HCL:Hid (∀ X,Below W5.heap.size W5 X→X.cell? ⟨b,4,none⟩=some (.slice (some ⟨g5,q5,none⟩) 1 c5)∧X.cell? ⟨b,0,none⟩=some (.slice a1 1 c1)∧X.cell? ⟨g5,q5+1,none⟩=some (.slice (some ⟨g2,q2,none⟩) 2 c2)∧X.cell? ⟨g2,q2+8,none⟩=some (.int .i64 3)):=fun X hX=>by
  have hB4:=al5.trans (hX.mono al5.size)
  exact ⟨row_cellsO (OX.below hX) 4 _ rfl,row_cellsO (OX.below hX) 0 _ rfl,(hB4.cell (p:=⟨g5,q5+1,none⟩) (lt_of_at k5)).trans k5,(hB4.cell (p:=⟨g2,q2+8,none⟩) (lt_of_at k2)).trans k2⟩
 have HB5:=Lib.hid (HB1.out.trans ((HB4.out.trans (al5.mono HB4.out.size)).mono HB1.out.size))
 have HBY5:=Lib.hid (HBY.out W5 a c (bysAt_below HBS4.out al5))
 clear al5 OX k5 k2 hW5 HBS4 HBS HB4 HB3 HB2 HBY HPA HEN HPR HOC HOB HTT hb
 rw [← HW5.out,← HBE.out]
 clear HW5
 go_wp2_with (first | (go_at_call 7;refine HBY5.out.mono ?_;rintro e w6 ⟨rfl,hz⟩;obtain ⟨d4,d0,d5,d2⟩:=HCL.out _ hz;have HZ:=Lib.hid (HB5.out.trans (hz.mono HB5.out.size));clear hz) | (go_at_call 37;refine (HDR.out _).mono ?_;rintro e w7 ⟨rfl,rfl⟩))
 go_ret
 exact ⟨rfl,HZ.out⟩
open Go.RowKit
set_option linter.unusedVariables false
set_option maxRecDepth 100000
theorem okS_iff (t:Bst):okS t=true↔t.2=false∧t.1=[]:=by
 obtain ⟨l,b⟩:=t
 unfold okS
 cases b <;> cases l <;> simp <;> omega
theorem optP_rg {u:Bool} {x:Int} (h:optP u I63 x):I64 x:=by
 cases u with
 | true=>have h:I63 x:=h;exact ⟨by have:=h.1;omega,h.2⟩
 | false=>have h:x=0:=h;rw [h];exact ⟨by decide,by decide⟩
theorem rgI_of {i:Ins} (g:GI i):rgI i:=by
 have hk:=g.k
 have ho:0≤i.o∧i.o≤255:=by
  have h:=g.o
  cases hu:hasB (uB i.k 0) 1 with
  | true =>
    rw [hu] at h
    have h:0≤i.o∧i.o≤18:=h
    omega
  | false =>
    rw [hu] at h
    have h:i.o=0:=h
    omega
 have hw:I64 i.wd:=by
  have h:=g.wd
  cases hu:hasB (uB i.k i.o) 64 with
  | true=>rw [hu] at h;exact h
  | false=>rw [hu] at h;have h:i.wd=0:=h;rw [h];exact ⟨by decide,by decide⟩
 have hf:=g.fr
 exact ⟨by omega,ho,optP_rg g.d,optP_rg g.a,optP_rg g.b,optP_rg g.ad,optP_rg g.tt,hw,⟨by have:=hf.1;omega,hf.2⟩⟩
theorem rgO_of {o:Ob} (g:GO o):rgO o :=
 ⟨g.mem.2,⟨by have:=g.sh.1;omega,g.sh.2⟩,⟨by have:=g.lk.1;omega,g.lk.2⟩,⟨by have:=g.bf.1;omega,g.bf.2⟩,fun c hc i hi=>rgI_of ((g.cores.2 c hc).code.2 i hi)⟩
theorem fitO_of {o:Ob} (g:GO o):fitO o:=by
 have h1:=g.mem.1
 have h2:=g.cores.1
 exact ⟨by omega,by omega,fun c hc=>⟨by have:=(g.cores.2 c hc).name;omega,by have:=(g.cores.2 c hc).code.1;omega⟩⟩
theorem dr_start {w:World} {l:List UInt8} {a:Option Addr} {c:Nat} (ha:bysAt w l a) (hc:l.length≤c) (hm:l.length≤1152921504606846976) (hcm:c≤9223372036854775807) {z:Obj} : Dr (w.heap.size+1) (l,false) ((w.alloc z).alloc (.cells #[.slice a l.length c,.bool false] 81)):=by
 have h2:=Own.new (w.alloc z) 81 #[.slice a l.length c,.bool false]
 rw [World.size_alloc] at h2
 have al:=((Below.refl w.heap.size w).alloc (Nat.le_refl _) z).alloc (by simp) (.cells #[.slice a l.length c,.bool false] 81)
 refine ⟨a,c,h2,?_,hc,hm,hcm⟩
 rcases ha with h | ⟨g,q,e,h⟩
 · exact .inl h
 · by_cases h0 : l = []
   · exact .inl h0
   · obtain ⟨x, r, hl⟩ := List.exists_cons_of_ne_nil h0
     have hg:g<w.heap.size:=lt_of_at (h 0 x (by rw [hl];rfl))
     exact .inr ⟨g,q,e,by omega,fun j x hj=>(al.cell (p:=⟨g,q+j,none⟩) hg).trans (h j x hj)⟩
theorem t_Decode (l:List UInt8) {a:Option Addr} {c:Nat} {w:World} (ha:bysAt w l a) (hc:l.length≤c) (hm:l.length≤1152921504606846976) (hcm:c≤9223372036854775807) (HT:TgT w) :
 Calls Tryz.prog 11 #[.slice a l.length c] w fun e w'=>∃ v,e=.returned (.tuple #[v,.int .i64 (decO l).2])∧DcO w.heap.size (decO l).1 v w'∧Below w.heap.size w w':=by
 have hst:=dr_start (z:=.cells #[.slice none 0 0,.int .i64 0,.int .i64 0,.int .i64 0,.slice none 0 0] 25) ha hc hm hcm
 have B0:=((Below.refl w.heap.size w).alloc (Nat.le_refl _) (.cells #[.slice none 0 0,.int .i64 0,.int .i64 0,.int .i64 0,.slice none 0 0] 25)).alloc (by simp) (.cells #[.slice a l.length c,.bool false] 81)
 have OR:=(Own.new w 25 #[.slice none 0 0,.int .i64 0,.int .i64 0,.int .i64 0,.slice none 0 0]).alloc (.cells #[.slice a l.length c,.bool false] 81)
 obtain ⟨W0,hW0⟩:∃ W,W=(w.alloc (.cells #[.slice none 0 0,.int .i64 0,.int .i64 0,.int .i64 0,.slice none 0 0] 25)).alloc (.cells #[.slice a l.length c,.bool false] 81):=⟨_,rfl⟩
 have hs0:W0.heap.size=w.heap.size+2:=by rw [hW0];simp
 rw [← hW0] at hst B0 OR
 have HW0:=Lib.hid hW0
 have HOBJ:Hid (Calls Tryz.prog 31 #[.pointer (some ⟨w.heap.size+1,0,none⟩)] W0 fun e w'=>∃ v,e=.returned (.tuple #[v,.bool (okS (obS (l,false)).2)])∧DcO W0.heap.size (obS (l,false)).1 v w'∧∃ t,Dq W0 (w.heap.size+1) t w'):=b_object hst (fun X hX=>HT.below (B0.trans (hX.mono (by omega))))
 have HDQ:Hid (∀ X t,Dq W0 (w.heap.size+1) t X→Own X w.heap.size 25 #[.slice none 0 0,.int .i64 0,.int .i64 0,.int .i64 0,.slice none 0 0]∧Below w.heap.size w X∧W0.heap.size≤X.heap.size):=fun X t hX=>⟨hX.other OR (by omega),B0.trans ((hX.bel (by omega)).mono (by omega)),hX.keep.size⟩
 have HCK:Hid (∀ X o v,GO o→obA X o v→Below w.heap.size w X→Calls Tryz.prog 23 #[v] X fun e w'=>e=chkE (chkO o)∧Below X.heap.size X w'):=fun X o v h1 h2 h3=>check_any o (rgO_of h1) (fitO_of h1) h2 (HT.below h3)
 have HOK:=Lib.hid (okS_iff (obS (l,false)).2)
 have HGO:Hid ((obS (l,false)).2.2=false→GO (obS (l,false)).1):=fun h=>(rd_ob.get (l,false) _ _ rfl h).2.1
 have HDE:Hid (decO l=if (obS (l,false)).2.2=false∧(obS (l,false)).2.1=[] then (if (chkO (obS (l,false)).1).1=0 then ((obS (l,false)).1,0) else (zOb,162)) else (zOb,162)):=rfl
 have HS0:=Lib.hid hs0
 generalize decO l=R at HDE ⊢
 generalize obS (l,false)=ob at HOBJ HOK HGO HDE
 obtain ⟨o,t⟩:=ob
 simp only at HOBJ HOK HGO HDE
 clear hst B0 OR ha hc hm hcm HT hW0 hs0
 generalize hok:okS t=ok at HOBJ HOK
 cases ok with
 | false =>
   have HE:Hid (R=(zOb,162)):=by
    rw [Hid,HDE.out,if_neg (fun h=>by have:=HOK.out.2 h;cases this)]
   clear hok HGO HCK HDE HOK
   go_enter Tryz.func11,Tryz.ntmps11
   go_upto_region 2 with fail
   rw [← HW0.out]
   clear HW0
   go_wp2_with (first | (go_at_call 31
                         refine HOBJ.out.mono ?_
                         rintro e w1 ⟨v,rfl,⟨v1,v5,L,rfl,hd⟩,t2,hq⟩
                         have hz:=hd
                         obtain ⟨b1,d1,rfl⟩:=row_slice hz.mem
                         obtain ⟨b5,d5,rfl⟩:=row_slice hz.cors
                         clear hz hd
                         obtain ⟨h1,h2,h3⟩:=HDQ.out _ _ hq
                         have al1:=(Below.refl _ w1).alloc (Nat.le_refl _) (.cells #[.slice none 0 0,.int .i64 0,.int .i64 0,.int .i64 0,.slice none 0 0] 25)
                         have HB1:=Lib.hid h2
                         have O2:=Own.new w1 25 #[.slice none 0 0,.int .i64 0,.int .i64 0,.int .i64 0,.slice none 0 0]
                         have OR1:Own ((w1.alloc (.cells #[.slice none 0 0,.int .i64 0,.int .i64 0,.int .i64 0,.slice none 0 0] 25)).setRow w1.heap.size #[.slice b1 o.mem.length d1,.int .i64 o.sh,.int .i64 o.lk,.int .i64 o.bf,.slice b5 L.length d5]) w.heap.size 25 #[.slice none 0 0,.int .i64 0,.int .i64 0,.int .i64 0,.slice none 0 0]:=h1.below (Below.of_row al1 (Nat.le_refl _) _)
                         have HB2:Hid (Below w.heap.size w ((w1.alloc (.cells #[.slice none 0 0,.int .i64 0,.int .i64 0,.int .i64 0,.slice none 0 0] 25)).setRow w1.heap.size #[.slice b1 o.mem.length d1,.int .i64 o.sh,.int .i64 o.lk,.int .i64 o.bf,.slice b5 L.length d5])):=h2.trans ((Below.of_row al1 (Nat.le_refl _) _).mono h2.size)
                         clear h1 h2 h3 hq al1) | (refine st rowO rfl rfl O2 rfl rfl (by rfl) (by rfl) (by kernel_rfl) ?_) | (refine st rowO rfl rfl OR1 rfl rfl (by rfl) (by rfl) (by kernel_rfl) ?_))
   refine p_ret2 rowO rfl (OR1.row #[.slice none 0 0,.int .i64 0,.int .i64 0,.int .i64 0,.slice none 0 0]) rfl rfl rfl rfl ?_
   rw [HE.out]
   exact ⟨_,rfl,⟨_,_,[],rfl,dcv_zero _ _⟩,Below.of_row HB2.out (Nat.le_refl _) _⟩
 | true =>
   have hio:=HOK.out.1 rfl
   have hgo:=HGO.out hio.1
   have HE0:Hid (R=if (chkO o).1=0 then (o,0) else (zOb,162)):=by
    rw [Hid,HDE.out,if_pos hio]
   have HG:=Lib.hid hgo
   clear hok HGO HDE HOK hio hgo
   have HCO:Hid (∀ X v,obA X o v→Below w.heap.size w X→Calls Tryz.prog 23 #[v] X fun e w'=>e=.returned (.tuple #[.int .i64 (chkO o).1,.int .i64 (chkO o).2.1,.int .i64 (chkO o).2.2])∧Below X.heap.size X w'):=fun X v h1 h2=>HCK.out X o v HG.out h1 h2
   clear HCK
   generalize chkO o=ck at HCO HE0
   obtain ⟨why,k1,k2⟩:=ck
   simp only at HCO HE0
   go_enter Tryz.func11,Tryz.ntmps11
   go_upto_region 2 with fail
   rw [← HW0.out]
   clear HW0
   go_upto_region 5 with (first | (go_at_call 31
                                   refine HOBJ.out.mono ?_
                                   rintro e w1 ⟨v,rfl,⟨v1,v5,L,rfl,hd⟩,t2,hq⟩
                                   have hz:=hd
                                   obtain ⟨b1,d1,rfl⟩:=row_slice hz.mem
                                   obtain ⟨b5,d5,rfl⟩:=row_slice hz.cors
                                   clear hz
                                   obtain ⟨h1,h2,h3⟩:=HDQ.out _ _ hq
                                   have al1:=(Below.refl _ w1).alloc (Nat.le_refl _) (.cells #[.slice none 0 0,.int .i64 0,.int .i64 0,.int .i64 0,.slice none 0 0] 25)
                                   have O2:=Own.new w1 25 #[.slice none 0 0,.int .i64 0,.int .i64 0,.int .i64 0,.slice none 0 0]
                                   have OR1:Hid (Own ((w1.alloc (.cells #[.slice none 0 0,.int .i64 0,.int .i64 0,.int .i64 0,.slice none 0 0] 25)).setRow w1.heap.size #[.slice b1 o.mem.length d1,.int .i64 o.sh,.int .i64 o.lk,.int .i64 o.bf,.slice b5 L.length d5]) w.heap.size 25 #[.slice none 0 0,.int .i64 0,.int .i64 0,.int .i64 0,.slice none 0 0]):=h1.below (Below.of_row al1 (Nat.le_refl _) _)
                                   have HB2:Hid (Below w.heap.size w ((w1.alloc (.cells #[.slice none 0 0,.int .i64 0,.int .i64 0,.int .i64 0,.slice none 0 0] 25)).setRow w1.heap.size #[.slice b1 o.mem.length d1,.int .i64 o.sh,.int .i64 o.lk,.int .i64 o.bf,.slice b5 L.length d5])):=h2.trans ((Below.of_row al1 (Nat.le_refl _) _).mono h2.size)
                                   have HD2:Hid (DcV W0.heap.size o (.slice b1 o.mem.length d1) (.slice b5 L.length d5) L ((w1.alloc (.cells #[.slice none 0 0,.int .i64 0,.int .i64 0,.int .i64 0,.slice none 0 0] 25)).setRow w1.heap.size #[.slice b1 o.mem.length d1,.int .i64 o.sh,.int .i64 o.lk,.int .i64 o.bf,.slice b5 L.length d5])):=hd.stays fun b _ hb=>(Below.of_row al1 (Nat.le_refl _) _).block b hb
                                   have O3:Hid (Own ((w1.alloc (.cells #[.slice none 0 0,.int .i64 0,.int .i64 0,.int .i64 0,.slice none 0 0] 25)).setRow w1.heap.size #[.slice b1 o.mem.length d1,.int .i64 o.sh,.int .i64 o.lk,.int .i64 o.bf,.slice b5 L.length d5]) w1.heap.size 25 #[.slice b1 o.mem.length d1,.int .i64 o.sh,.int .i64 o.lk,.int .i64 o.bf,.slice b5 L.length d5]):=O2.row _
                                   have HNE:Hid (w.heap.size<w1.heap.size):=h1.lt
                                   clear h1 h2 h3 hq al1 hd) | (refine st rowO rfl rfl O2 rfl rfl (by rfl) (by rfl) (by kernel_rfl) ?_))
   clear O2 HOBJ HDQ
   obtain ⟨W2,hW2⟩:∃ W,W=(w1.alloc (.cells #[.slice none 0 0,.int .i64 0,.int .i64 0,.int .i64 0,.slice none 0 0] 25)).setRow w1.heap.size #[.slice b1 o.mem.length d1,.int .i64 o.sh,.int .i64 o.lk,.int .i64 o.bf,.slice b5 L.length d5]:=⟨_,rfl⟩
   rw [← hW2] at OR1 HB2 HD2 O3 ⊢
   clear hW2
   have O3':=O3.out
   have HC2:=Lib.hid (HCO.out W2 _ HD2.out.obA HB2.out)
   have hlen:o.cores.length=L.length:=by rw [← HD2.out.fst,List.length_map]
   clear HCO
   by_cases hy:why=0
   · obtain rfl : R = (o, 0) := by rw [HE0.out, if_pos hy]
     clear HE0
     subst hy
     go_upto_region 8 with (first | (refine ld rowO rfl rfl rfl O3' rfl ?_) | (go_at_call 23;refine HC2.out.mono ?_;rintro e w3 ⟨rfl,hb⟩;have OR3:=OR1.out.below hb;have O4:=O3.out.below hb;have HB3:=Lib.hid (HB2.out.trans (hb.mono HB2.out.size));have HD3:=Lib.hid (HD2.out.stays fun b _ hl=>hb.block b hl);clear hb O3'))
     go_wp2_with (first | (refine ld rowO rfl rfl rfl O4 rfl ?_) | (refine st rowO rfl rfl OR3 rfl rfl (by rfl) (by rfl) (by kernel_rfl) ?_))
     refine p_ret2 rowO rfl (OR3.row _) rfl rfl rfl rfl ?_
     refine ⟨_,rfl,⟨_,_,L,rfl,?_⟩,Below.of_row HB3.out (Nat.le_refl _) _⟩
     refine (HD3.out.stays fun b hb _=>setRow_other _ ?_).mono (by have:=HS0.out;omega)
     have:=HS0.out
     omega
   · obtain rfl : R = (zOb, 162) := by rw [HE0.out, if_neg hy]
     have q:(why != 0)=true:=by simpa using hy
     clear HE0 hy
     go_wp2_with (first | (refine ld rowO rfl rfl rfl O3' rfl ?_) | (go_at_call 23;refine HC2.out.mono ?_;rintro e w3 ⟨rfl,hb⟩;have OR3:=OR1.out.below hb;have HB3:=Lib.hid (HB2.out.trans (hb.mono HB2.out.size));clear hb O3') | (refine st rowO rfl rfl OR3 rfl rfl (by rfl) (by rfl) (by kernel_rfl) ?_))
     refine p_ret2 rowO rfl (OR3.row _) rfl rfl rfl rfl ?_
     exact ⟨_,rfl,⟨_,_,[],rfl,dcv_zero _ _⟩,Below.of_row HB3.out (Nat.le_refl _) _⟩
end Go.Proofs.YtmpljhfinmfnbaaGreatDoor

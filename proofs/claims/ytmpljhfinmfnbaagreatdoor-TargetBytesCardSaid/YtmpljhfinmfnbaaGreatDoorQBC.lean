/- The proof, part 29: texts that belong together, in one. -/
import Derived.Test.YtmpljhfinmfnbaaGreatDoorQBA
import Derived.Test.YtmpljhfinmfnbaaGreatDoorQBB
set_option maxRecDepth 100000
set_option maxHeartbeats 20000000
namespace Go.Proofs.YtmpljhfinmfnbaaGreatDoor
open Go.RowKit
set_option linter.unusedVariables false
set_option maxRecDepth 100000
theorem row_e9 {W:World} {g:Nat} {T:TypeId} {cs:Array Value} (h:Own W g T cs) (j:Nat) (v:Value) (hj:cs[j]? = some v):W.cell? ⟨g,j,none⟩=some v:=by
 rw [cell_of_row _ _ j _ _ _ h]
 exact hj
theorem ins_byt (i:Ins) (hk:kB i.k=true):insY i=numY i.k++(bif i.k==2 then numY i.o else [])++((((((bif dB i.k then numY i.d else [])++(bif aB i.k then numY i.a else []))++(bif bB i.k i.o then numY i.b else []))++(bif adB i.k then numY i.ad else []))++(bif toB i.k then numY i.tt else []))++(bif i.k==1 then wrdY i.wd else []))++numY i.fr:=by
 obtain ⟨h1,h2,h3,h4,h5,h6,h7⟩:=has_all i.k i.o hk
 unfold insY
 simp only [fldsY,fldY,h1,h2,h3,h4,h5,h6,h7,List.nil_append]
theorem r_puti1 {w:World} {bx:Nat} {v:Value} {txt:List UInt8} (h:ByQ w bx v txt w) (o d a b ad tt wd fr:Int) (hg:rgI (⟨1,o,d,a,b,ad,tt,wd,fr⟩:Ins)) (hlen:txt.length≤140737488000000):Calls Tryz.prog 27 #[v,.agg #[.int .u8 1,.int .u8 o,.int .i64 d,.int .i64 a,.int .i64 b,.int .i64 ad,.int .i64 tt,.int .i64 wd,.int .i64 fr]] w fun e w'=>∃ x c,e=.returned (.slice x (txt++insY (⟨1,o,d,a,b,ad,tt,wd,fr⟩:Ins)).length c)∧ByQ w bx (.slice x (txt++insY (⟨1,o,d,a,b,ad,tt,wd,fr⟩:Ins)).length c) (txt++insY (⟨1,o,d,a,b,ad,tt,wd,fr⟩:Ins)) w':=by
 obtain ⟨F,hF⟩:∃ t,t=txt++insY (⟨1,o,d,a,b,ad,tt,wd,fr⟩:Ins):=⟨_,rfl⟩
 rw [← hF]
 have hF2:F=txt++(numY 1++([])++((((((numY d)++([]))++([]))++([]))++([]))++(wrdY wd))++numY fr):=by
  rw [hF,ins_byt _ (show kB 1=true by decide)]
  rfl
 obtain ⟨a0,c0,rfl⟩:=row_slice h.own
 obtain ⟨_,ho,hd,ha,hb0,had,htt,hwd,hfr2⟩:=hg
 simp only at ho hd ha hb0 had htt hwd hfr2
 have HWD:=Lib.hid hwd
 have HPN:Hid (∀ (X:World) (v:Value) (T T':List UInt8) (x n:Int),ByQ w bx v T X→T'=T++numY x→T.length≤140737488300000→n=((u64 x:Nat):Int)→Calls Tryz.prog 25 #[v,.int .u64 n] X fun e w'=>∃ a c,e=.returned (.slice a T'.length c)∧ByQ w bx (.slice a T'.length c) T' w'):=fun X v T T' x n h e hl hn=>by
  subst e hn
  exact (rputn_any h.new (u64 x) (by unfold u64;omega) (by omega)).mono fun _ _ ⟨a,c,h1,h2⟩=>⟨a,c,h1,h.trans h2⟩
 have HPW:Hid (∀ (X:World) (v:Value) (T T':List UInt8),ByQ w bx v T X→T'=T++wrdY wd→T.length≤140737488300000→Calls Tryz.prog 26 #[v,.int .i64 wd] X fun e w'=>∃ a c,e=.returned (.slice a T'.length c)∧ByQ w bx (.slice a T'.length c) T' w'):=fun X v T T' h e hl=>by
  subst e
  exact (rputw_any h.new wd HWD.out (by omega)).mono fun _ _ ⟨a,c,h1,h2⟩=>⟨a,c,h1,h.trans h2⟩
 have O0:=Own.new w 75 #[.int .u8 1,.int .u8 o,.int .i64 d,.int .i64 a,.int .i64 b,.int .i64 ad,.int .i64 tt,.int .i64 wd,.int .i64 fr]
 have HQ:=Lib.hid (h.below ((Below.refl w.heap.size w).alloc (Nat.le_refl _) (.cells #[.int .u8 1,.int .u8 o,.int .i64 d,.int .i64 a,.int .i64 b,.int .i64 ad,.int .i64 tt,.int .i64 wd,.int .i64 fr] 75)))
 obtain ⟨W0,hW0⟩:∃ W,W=w.alloc (.cells #[.int .u8 1,.int .u8 o,.int .i64 d,.int .i64 a,.int .i64 b,.int .i64 ad,.int .i64 tt,.int .i64 wd,.int .i64 fr] 75):=⟨_,rfl⟩
 rw [← hW0] at O0 HQ
 have HW0:=Lib.hid hW0
 have HBX:Hid (∀ X v T,ByQ W0 bx v T X→Own X w.heap.size 75 #[.int .u8 1,.int .u8 o,.int .i64 d,.int .i64 a,.int .i64 b,.int .i64 ad,.int .i64 tt,.int .i64 wd,.int .i64 fr]):=fun X v T h=>h.box O0 nu_I
 have HS:Hid (ByQ W0 bx (.slice a0 txt.length c0) txt W0):=HQ.out.new
 have HTR:Hid (∀ X v T,ByQ W0 bx v T X→ByQ w bx v T X):=fun X v T h=>HQ.out.trans h
 replace HPN:Hid (∀ (X:World) (v:Value) (T T':List UInt8) (x n:Int),ByQ W0 bx v T X→T'=T++numY x→T.length≤140737488300000→n=((u64 x:Nat):Int)→Calls Tryz.prog 25 #[v,.int .u64 n] X fun e w'=>∃ a c,e=.returned (.slice a T'.length c)∧ByQ W0 bx (.slice a T'.length c) T' w'):=fun X v T T' x n h e hl hn=>by
  subst e hn
  exact (rputn_any h.new (u64 x) (by unfold u64;omega) (by omega)).mono fun _ _ ⟨a,c,h1,h2⟩=>⟨a,c,h1,h.trans h2⟩
 replace HPW:Hid (∀ (X:World) (v:Value) (T T':List UInt8),ByQ W0 bx v T X→T'=T++wrdY wd→T.length≤140737488300000→Calls Tryz.prog 26 #[v,.int .i64 wd] X fun e w'=>∃ a c,e=.returned (.slice a T'.length c)∧ByQ W0 bx (.slice a T'.length c) T' w'):=fun X v T T' h e hl=>by
  subst e
  exact (rputw_any h.new wd HWD.out (by omega)).mono fun _ _ ⟨a,c,h1,h2⟩=>⟨a,c,h1,h.trans h2⟩
 have HF:=Lib.hid hF2
 have HO:=Lib.hid ho
 clear hF hF2 hW0 h HQ O0 ho hd ha hb0 had htt hwd hfr2
 go_enter Tryz.func27,Tryz.ntmps27
 go_upto_region 1 with fail
 rw [← HW0.out]
 clear HW0
 have z0:=row_e9 (HBX.out _ _ _ HS.out) 0 _ rfl
 have z1:=row_e9 (HBX.out _ _ _ HS.out) 1 _ rfl
 have z2:=row_e9 (HBX.out _ _ _ HS.out) 2 _ rfl
 have z3:=row_e9 (HBX.out _ _ _ HS.out) 3 _ rfl
 have z4:=row_e9 (HBX.out _ _ _ HS.out) 4 _ rfl
 have z5:=row_e9 (HBX.out _ _ _ HS.out) 5 _ rfl
 have z6:=row_e9 (HBX.out _ _ _ HS.out) 6 _ rfl
 have z7:=row_e9 (HBX.out _ _ _ HS.out) 7 _ rfl
 have z8:=row_e9 (HBX.out _ _ _ HS.out) 8 _ rfl
 have hl0:=hlen
 go_wp2_with (go_at_call 68;refine (r_uses1 _).mono ?_;rintro e w' ⟨rfl,rfl⟩)
 obtain ⟨T1,hT1⟩:∃ t:List UInt8,t=txt++numY 1:=⟨_,rfl⟩
 have hl1:T1.length≤140737488000100:=by have:=(numY_len 1).1;rw [hT1,List.length_append];omega
 go_at_call 25
 refine (HPN.out _ _ _ _ 1 _ HS.out hT1 (by omega) ?_).mono ?_
 · first | rfl | (rw [IntKind.wrap_u64];unfold u64;omega) | (have:=HO.out;unfold u64;omega) | (unfold u64;omega)
 rintro e w2 ⟨a1,c1,rfl,hz⟩
 replace HS:=Lib.hid hz
 have HT1:=Lib.hid hT1
 clear hz hT1 hl0 z0 z1 z2 z3 z4 z5 z6 z7 z8
 have z0:=row_e9 (HBX.out _ _ _ HS.out) 0 _ rfl
 have z1:=row_e9 (HBX.out _ _ _ HS.out) 1 _ rfl
 have z2:=row_e9 (HBX.out _ _ _ HS.out) 2 _ rfl
 have z3:=row_e9 (HBX.out _ _ _ HS.out) 3 _ rfl
 have z4:=row_e9 (HBX.out _ _ _ HS.out) 4 _ rfl
 have z5:=row_e9 (HBX.out _ _ _ HS.out) 5 _ rfl
 have z6:=row_e9 (HBX.out _ _ _ HS.out) 6 _ rfl
 have z7:=row_e9 (HBX.out _ _ _ HS.out) 7 _ rfl
 have z8:=row_e9 (HBX.out _ _ _ HS.out) 8 _ rfl
 go_wp2_with (go_at_call 68;refine (r_uses1 _).mono ?_;rintro e w' ⟨rfl,rfl⟩)
 obtain ⟨T2,hT2⟩:∃ t:List UInt8,t=T1++numY d:=⟨_,rfl⟩
 have hl2:T2.length≤140737488000200:=by have:=(numY_len d).1;rw [hT2,List.length_append];omega
 go_at_call 25
 refine (HPN.out _ _ _ _ d _ HS.out hT2 (by omega) ?_).mono ?_
 · first | rfl | (rw [IntKind.wrap_u64];unfold u64;omega) | (have:=HO.out;unfold u64;omega) | (unfold u64;omega)
 rintro e w3 ⟨a2,c2,rfl,hz⟩
 replace HS:=Lib.hid hz
 have HT2:=Lib.hid hT2
 clear hz hT2 hl1 z0 z1 z2 z3 z4 z5 z6 z7 z8
 have z0:=row_e9 (HBX.out _ _ _ HS.out) 0 _ rfl
 have z1:=row_e9 (HBX.out _ _ _ HS.out) 1 _ rfl
 have z2:=row_e9 (HBX.out _ _ _ HS.out) 2 _ rfl
 have z3:=row_e9 (HBX.out _ _ _ HS.out) 3 _ rfl
 have z4:=row_e9 (HBX.out _ _ _ HS.out) 4 _ rfl
 have z5:=row_e9 (HBX.out _ _ _ HS.out) 5 _ rfl
 have z6:=row_e9 (HBX.out _ _ _ HS.out) 6 _ rfl
 have z7:=row_e9 (HBX.out _ _ _ HS.out) 7 _ rfl
 have z8:=row_e9 (HBX.out _ _ _ HS.out) 8 _ rfl
 go_wp2_with (go_at_call 68;refine (r_uses1 _).mono ?_;rintro e w' ⟨rfl,rfl⟩)
 obtain ⟨T3,hT3⟩:∃ t:List UInt8,t=T2++wrdY wd:=⟨_,rfl⟩
 have hl3:T3.length≤140737488000300:=by have:=(numY_len wd).2;rw [hT3,List.length_append];omega
 go_at_call 26
 refine (HPW.out _ _ _ _ HS.out hT3 (by omega)).mono ?_
 rintro e w4 ⟨a3,c3,rfl,hz⟩
 replace HS:=Lib.hid hz
 have HT3:=Lib.hid hT3
 clear hz hT3 hl2 z0 z1 z2 z3 z4 z5 z6 z7 z8
 have z0:=row_e9 (HBX.out _ _ _ HS.out) 0 _ rfl
 have z1:=row_e9 (HBX.out _ _ _ HS.out) 1 _ rfl
 have z2:=row_e9 (HBX.out _ _ _ HS.out) 2 _ rfl
 have z3:=row_e9 (HBX.out _ _ _ HS.out) 3 _ rfl
 have z4:=row_e9 (HBX.out _ _ _ HS.out) 4 _ rfl
 have z5:=row_e9 (HBX.out _ _ _ HS.out) 5 _ rfl
 have z6:=row_e9 (HBX.out _ _ _ HS.out) 6 _ rfl
 have z7:=row_e9 (HBX.out _ _ _ HS.out) 7 _ rfl
 have z8:=row_e9 (HBX.out _ _ _ HS.out) 8 _ rfl
 go_wp2_with (go_at_call 68;refine (r_uses1 _).mono ?_;rintro e w' ⟨rfl,rfl⟩)
 obtain ⟨T4,hT4⟩:∃ t:List UInt8,t=T3++numY fr:=⟨_,rfl⟩
 have hl4:T4.length≤140737488000400:=by have:=(numY_len fr).1;rw [hT4,List.length_append];omega
 go_at_call 25
 refine (HPN.out _ _ _ _ fr _ HS.out hT4 (by omega) ?_).mono ?_
 · first | rfl | (rw [IntKind.wrap_u64];unfold u64;omega) | (have:=HO.out;unfold u64;omega) | (unfold u64;omega)
 rintro e w5 ⟨a4,c4,rfl,hz⟩
 replace HS:=Lib.hid hz
 have HT4:=Lib.hid hT4
 clear hz hT4 hl3 z0 z1 z2 z3 z4 z5 z6 z7 z8
 obtain rfl:F=T4:=by
  rw [HF.out,HT4.out,HT3.out,HT2.out,HT1.out]
  simp
 have HZ:=Lib.hid (HTR.out _ _ _ HS.out)
 go_wp2_with fail
 go_ret
 exact ⟨_,_,rfl,HZ.out⟩
theorem r_puti2 {w:World} {bx:Nat} {v:Value} {txt:List UInt8} (h:ByQ w bx v txt w) (o d a b ad tt wd fr:Int) (hg:rgI (⟨2,o,d,a,b,ad,tt,wd,fr⟩:Ins)) (hlen:txt.length≤140737488000000):Calls Tryz.prog 27 #[v,.agg #[.int .u8 2,.int .u8 o,.int .i64 d,.int .i64 a,.int .i64 b,.int .i64 ad,.int .i64 tt,.int .i64 wd,.int .i64 fr]] w fun e w'=>∃ x c,e=.returned (.slice x (txt++insY (⟨2,o,d,a,b,ad,tt,wd,fr⟩:Ins)).length c)∧ByQ w bx (.slice x (txt++insY (⟨2,o,d,a,b,ad,tt,wd,fr⟩:Ins)).length c) (txt++insY (⟨2,o,d,a,b,ad,tt,wd,fr⟩:Ins)) w':=by
 obtain ⟨F,hF⟩:∃ t,t=txt++insY (⟨2,o,d,a,b,ad,tt,wd,fr⟩:Ins):=⟨_,rfl⟩
 rw [← hF]
 have hF2:F=txt++(numY 2++(numY o)++((((((numY d)++(numY a))++(bif twoB o then numY b else []))++([]))++([]))++([]))++numY fr):=by
  rw [hF,ins_byt _ (show kB 2=true by decide)]
  rfl
 obtain ⟨a0,c0,rfl⟩:=row_slice h.own
 obtain ⟨_,ho,hd,ha,hb0,had,htt,hwd,hfr2⟩:=hg
 simp only at ho hd ha hb0 had htt hwd hfr2
 have HWD:=Lib.hid hwd
 have HPN:Hid (∀ (X:World) (v:Value) (T T':List UInt8) (x n:Int),ByQ w bx v T X→T'=T++numY x→T.length≤140737488300000→n=((u64 x:Nat):Int)→Calls Tryz.prog 25 #[v,.int .u64 n] X fun e w'=>∃ a c,e=.returned (.slice a T'.length c)∧ByQ w bx (.slice a T'.length c) T' w'):=fun X v T T' x n h e hl hn=>by
  subst e hn
  exact (rputn_any h.new (u64 x) (by unfold u64;omega) (by omega)).mono fun _ _ ⟨a,c,h1,h2⟩=>⟨a,c,h1,h.trans h2⟩
 have HTWO:Hid (∀ X,Calls Tryz.prog 69 #[.int .u8 o] X fun e w'=>e=.returned (.bool (twoB o))∧X=w'):=fun X=>r_two o ho.1 X
 have O0:=Own.new w 75 #[.int .u8 2,.int .u8 o,.int .i64 d,.int .i64 a,.int .i64 b,.int .i64 ad,.int .i64 tt,.int .i64 wd,.int .i64 fr]
 have HQ:=Lib.hid (h.below ((Below.refl w.heap.size w).alloc (Nat.le_refl _) (.cells #[.int .u8 2,.int .u8 o,.int .i64 d,.int .i64 a,.int .i64 b,.int .i64 ad,.int .i64 tt,.int .i64 wd,.int .i64 fr] 75)))
 obtain ⟨W0,hW0⟩:∃ W,W=w.alloc (.cells #[.int .u8 2,.int .u8 o,.int .i64 d,.int .i64 a,.int .i64 b,.int .i64 ad,.int .i64 tt,.int .i64 wd,.int .i64 fr] 75):=⟨_,rfl⟩
 rw [← hW0] at O0 HQ
 have HW0:=Lib.hid hW0
 have HBX:Hid (∀ X v T,ByQ W0 bx v T X→Own X w.heap.size 75 #[.int .u8 2,.int .u8 o,.int .i64 d,.int .i64 a,.int .i64 b,.int .i64 ad,.int .i64 tt,.int .i64 wd,.int .i64 fr]):=fun X v T h=>h.box O0 nu_I
 have HS:Hid (ByQ W0 bx (.slice a0 txt.length c0) txt W0):=HQ.out.new
 have HTR:Hid (∀ X v T,ByQ W0 bx v T X→ByQ w bx v T X):=fun X v T h=>HQ.out.trans h
 replace HPN:Hid (∀ (X:World) (v:Value) (T T':List UInt8) (x n:Int),ByQ W0 bx v T X→T'=T++numY x→T.length≤140737488300000→n=((u64 x:Nat):Int)→Calls Tryz.prog 25 #[v,.int .u64 n] X fun e w'=>∃ a c,e=.returned (.slice a T'.length c)∧ByQ W0 bx (.slice a T'.length c) T' w'):=fun X v T T' x n h e hl hn=>by
  subst e hn
  exact (rputn_any h.new (u64 x) (by unfold u64;omega) (by omega)).mono fun _ _ ⟨a,c,h1,h2⟩=>⟨a,c,h1,h.trans h2⟩
 have HF:=Lib.hid hF2
 generalize twoB o=t2 at HTWO HF
 have HO:=Lib.hid ho
 clear hF hF2 hW0 h HQ O0 ho hd ha hb0 had htt hwd hfr2
 go_enter Tryz.func27,Tryz.ntmps27
 go_upto_region 1 with fail
 rw [← HW0.out]
 clear HW0
 cases t2 with
 | true =>
   have z0:=row_e9 (HBX.out _ _ _ HS.out) 0 _ rfl
   have z1:=row_e9 (HBX.out _ _ _ HS.out) 1 _ rfl
   have z2:=row_e9 (HBX.out _ _ _ HS.out) 2 _ rfl
   have z3:=row_e9 (HBX.out _ _ _ HS.out) 3 _ rfl
   have z4:=row_e9 (HBX.out _ _ _ HS.out) 4 _ rfl
   have z5:=row_e9 (HBX.out _ _ _ HS.out) 5 _ rfl
   have z6:=row_e9 (HBX.out _ _ _ HS.out) 6 _ rfl
   have z7:=row_e9 (HBX.out _ _ _ HS.out) 7 _ rfl
   have z8:=row_e9 (HBX.out _ _ _ HS.out) 8 _ rfl
   have hl0:=hlen
   go_wp2_with (first | (go_at_call 68;refine (r_uses2 _).mono ?_;rintro e w' ⟨rfl,rfl⟩) | (go_at_call 69;refine (HTWO.out _).mono ?_;rintro e w' ⟨rfl,rfl⟩))
   obtain ⟨T1,hT1⟩:∃ t:List UInt8,t=txt++numY 2:=⟨_,rfl⟩
   have hl1:T1.length≤140737488000100:=by have:=(numY_len 2).1;rw [hT1,List.length_append];omega
   go_at_call 25
   refine (HPN.out _ _ _ _ 2 _ HS.out hT1 (by omega) ?_).mono ?_
   · first | rfl | (rw [IntKind.wrap_u64];unfold u64;omega) | (have:=HO.out;unfold u64;omega) | (unfold u64;omega)
   rintro e w2 ⟨a1,c1,rfl,hz⟩
   replace HS:=Lib.hid hz
   have HT1:=Lib.hid hT1
   clear hz hT1 hl0 z0 z1 z2 z3 z4 z5 z6 z7 z8
   have z0:=row_e9 (HBX.out _ _ _ HS.out) 0 _ rfl
   have z1:=row_e9 (HBX.out _ _ _ HS.out) 1 _ rfl
   have z2:=row_e9 (HBX.out _ _ _ HS.out) 2 _ rfl
   have z3:=row_e9 (HBX.out _ _ _ HS.out) 3 _ rfl
   have z4:=row_e9 (HBX.out _ _ _ HS.out) 4 _ rfl
   have z5:=row_e9 (HBX.out _ _ _ HS.out) 5 _ rfl
   have z6:=row_e9 (HBX.out _ _ _ HS.out) 6 _ rfl
   have z7:=row_e9 (HBX.out _ _ _ HS.out) 7 _ rfl
   have z8:=row_e9 (HBX.out _ _ _ HS.out) 8 _ rfl
   go_wp2_with (first | (go_at_call 68;refine (r_uses2 _).mono ?_;rintro e w' ⟨rfl,rfl⟩) | (go_at_call 69;refine (HTWO.out _).mono ?_;rintro e w' ⟨rfl,rfl⟩))
   obtain ⟨T2,hT2⟩:∃ t:List UInt8,t=T1++numY o:=⟨_,rfl⟩
   have hl2:T2.length≤140737488000200:=by have:=(numY_len o).1;rw [hT2,List.length_append];omega
   go_at_call 25
   refine (HPN.out _ _ _ _ o _ HS.out hT2 (by omega) ?_).mono ?_
   · first | rfl | (rw [IntKind.wrap_u64];unfold u64;omega) | (have:=HO.out;unfold u64;omega) | (unfold u64;omega)
   rintro e w3 ⟨a2,c2,rfl,hz⟩
   replace HS:=Lib.hid hz
   have HT2:=Lib.hid hT2
   clear hz hT2 hl1 z0 z1 z2 z3 z4 z5 z6 z7 z8
   have z0:=row_e9 (HBX.out _ _ _ HS.out) 0 _ rfl
   have z1:=row_e9 (HBX.out _ _ _ HS.out) 1 _ rfl
   have z2:=row_e9 (HBX.out _ _ _ HS.out) 2 _ rfl
   have z3:=row_e9 (HBX.out _ _ _ HS.out) 3 _ rfl
   have z4:=row_e9 (HBX.out _ _ _ HS.out) 4 _ rfl
   have z5:=row_e9 (HBX.out _ _ _ HS.out) 5 _ rfl
   have z6:=row_e9 (HBX.out _ _ _ HS.out) 6 _ rfl
   have z7:=row_e9 (HBX.out _ _ _ HS.out) 7 _ rfl
   have z8:=row_e9 (HBX.out _ _ _ HS.out) 8 _ rfl
   go_wp2_with (first | (go_at_call 68;refine (r_uses2 _).mono ?_;rintro e w' ⟨rfl,rfl⟩) | (go_at_call 69;refine (HTWO.out _).mono ?_;rintro e w' ⟨rfl,rfl⟩))
   obtain ⟨T3,hT3⟩:∃ t:List UInt8,t=T2++numY d:=⟨_,rfl⟩
   have hl3:T3.length≤140737488000300:=by have:=(numY_len d).1;rw [hT3,List.length_append];omega
   go_at_call 25
   refine (HPN.out _ _ _ _ d _ HS.out hT3 (by omega) ?_).mono ?_
   · first | rfl | (rw [IntKind.wrap_u64];unfold u64;omega) | (have:=HO.out;unfold u64;omega) | (unfold u64;omega)
   rintro e w4 ⟨a3,c3,rfl,hz⟩
   replace HS:=Lib.hid hz
   have HT3:=Lib.hid hT3
   clear hz hT3 hl2 z0 z1 z2 z3 z4 z5 z6 z7 z8
   have z0:=row_e9 (HBX.out _ _ _ HS.out) 0 _ rfl
   have z1:=row_e9 (HBX.out _ _ _ HS.out) 1 _ rfl
   have z2:=row_e9 (HBX.out _ _ _ HS.out) 2 _ rfl
   have z3:=row_e9 (HBX.out _ _ _ HS.out) 3 _ rfl
   have z4:=row_e9 (HBX.out _ _ _ HS.out) 4 _ rfl
   have z5:=row_e9 (HBX.out _ _ _ HS.out) 5 _ rfl
   have z6:=row_e9 (HBX.out _ _ _ HS.out) 6 _ rfl
   have z7:=row_e9 (HBX.out _ _ _ HS.out) 7 _ rfl
   have z8:=row_e9 (HBX.out _ _ _ HS.out) 8 _ rfl
   go_wp2_with (first | (go_at_call 68;refine (r_uses2 _).mono ?_;rintro e w' ⟨rfl,rfl⟩) | (go_at_call 69;refine (HTWO.out _).mono ?_;rintro e w' ⟨rfl,rfl⟩))
   obtain ⟨T4,hT4⟩:∃ t:List UInt8,t=T3++numY a:=⟨_,rfl⟩
   have hl4:T4.length≤140737488000400:=by have:=(numY_len a).1;rw [hT4,List.length_append];omega
   go_at_call 25
   refine (HPN.out _ _ _ _ a _ HS.out hT4 (by omega) ?_).mono ?_
   · first | rfl | (rw [IntKind.wrap_u64];unfold u64;omega) | (have:=HO.out;unfold u64;omega) | (unfold u64;omega)
   rintro e w5 ⟨a4,c4,rfl,hz⟩
   replace HS:=Lib.hid hz
   have HT4:=Lib.hid hT4
   clear hz hT4 hl3 z0 z1 z2 z3 z4 z5 z6 z7 z8
   have z0:=row_e9 (HBX.out _ _ _ HS.out) 0 _ rfl
   have z1:=row_e9 (HBX.out _ _ _ HS.out) 1 _ rfl
   have z2:=row_e9 (HBX.out _ _ _ HS.out) 2 _ rfl
   have z3:=row_e9 (HBX.out _ _ _ HS.out) 3 _ rfl
   have z4:=row_e9 (HBX.out _ _ _ HS.out) 4 _ rfl
   have z5:=row_e9 (HBX.out _ _ _ HS.out) 5 _ rfl
   have z6:=row_e9 (HBX.out _ _ _ HS.out) 6 _ rfl
   have z7:=row_e9 (HBX.out _ _ _ HS.out) 7 _ rfl
   have z8:=row_e9 (HBX.out _ _ _ HS.out) 8 _ rfl
   obtain ⟨T5,hT5⟩:∃ t:List UInt8,t=T4++numY b:=⟨_,rfl⟩
   have hl5:T5.length≤140737488000500:=by have:=(numY_len b).1;rw [hT5,List.length_append];omega
   have HT5:=Lib.hid hT5
   clear hT5
   obtain ⟨T6,hT6⟩:∃ t:List UInt8,t=T5++numY fr:=⟨_,rfl⟩
   have hl6:T6.length≤140737488000600:=by have:=(numY_len fr).1;rw [hT6,List.length_append];omega
   have HT6:=Lib.hid hT6
   clear hT6
   go_wp2_with (first | (go_at_call 68;refine (r_uses2 _).mono ?_;rintro e w' ⟨rfl,rfl⟩) | (go_at_call 69;refine (HTWO.out _).mono ?_;rintro e w' ⟨rfl,rfl⟩) | (go_at_call 25;refine (HPN.out _ _ _ _ b _ HS.out HT5.out (by omega) (by first | rfl | (rw [IntKind.wrap_u64];unfold u64;omega) | (unfold u64;omega))).mono ?_;rintro e w6 ⟨a5,c5,rfl,hz⟩;replace HS:=Lib.hid hz;clear hz;have z0:=row_e9 (HBX.out _ _ _ HS.out) 0 _ rfl;have z1:=row_e9 (HBX.out _ _ _ HS.out) 1 _ rfl;have z2:=row_e9 (HBX.out _ _ _ HS.out) 2 _ rfl;have z3:=row_e9 (HBX.out _ _ _ HS.out) 3 _ rfl;have z4:=row_e9 (HBX.out _ _ _ HS.out) 4 _ rfl;have z5:=row_e9 (HBX.out _ _ _ HS.out) 5 _ rfl;have z6:=row_e9 (HBX.out _ _ _ HS.out) 6 _ rfl;have z7:=row_e9 (HBX.out _ _ _ HS.out) 7 _ rfl;have z8:=row_e9 (HBX.out _ _ _ HS.out) 8 _ rfl) | (go_at_call 25;refine (HPN.out _ _ _ _ fr _ HS.out HT6.out (by omega) (by first | rfl | (rw [IntKind.wrap_u64];unfold u64;omega) | (unfold u64;omega))).mono ?_;rintro e w7 ⟨a6,c6,rfl,hz⟩;replace HS:=Lib.hid hz;clear hz;have z0:=row_e9 (HBX.out _ _ _ HS.out) 0 _ rfl;have z1:=row_e9 (HBX.out _ _ _ HS.out) 1 _ rfl;have z2:=row_e9 (HBX.out _ _ _ HS.out) 2 _ rfl;have z3:=row_e9 (HBX.out _ _ _ HS.out) 3 _ rfl;have z4:=row_e9 (HBX.out _ _ _ HS.out) 4 _ rfl;have z5:=row_e9 (HBX.out _ _ _ HS.out) 5 _ rfl;have z6:=row_e9 (HBX.out _ _ _ HS.out) 6 _ rfl;have z7:=row_e9 (HBX.out _ _ _ HS.out) 7 _ rfl;have z8:=row_e9 (HBX.out _ _ _ HS.out) 8 _ rfl))
   obtain rfl:F=T6:=by
    rw [HF.out,HT6.out,HT5.out,HT4.out,HT3.out,HT2.out,HT1.out]
    simp
   have HZ:=Lib.hid (HTR.out _ _ _ HS.out)
   go_ret
   exact ⟨_,_,rfl,HZ.out⟩
 | false =>
   have z0:=row_e9 (HBX.out _ _ _ HS.out) 0 _ rfl
   have z1:=row_e9 (HBX.out _ _ _ HS.out) 1 _ rfl
   have z2:=row_e9 (HBX.out _ _ _ HS.out) 2 _ rfl
   have z3:=row_e9 (HBX.out _ _ _ HS.out) 3 _ rfl
   have z4:=row_e9 (HBX.out _ _ _ HS.out) 4 _ rfl
   have z5:=row_e9 (HBX.out _ _ _ HS.out) 5 _ rfl
   have z6:=row_e9 (HBX.out _ _ _ HS.out) 6 _ rfl
   have z7:=row_e9 (HBX.out _ _ _ HS.out) 7 _ rfl
   have z8:=row_e9 (HBX.out _ _ _ HS.out) 8 _ rfl
   have hl0:=hlen
   go_wp2_with (first | (go_at_call 68;refine (r_uses2 _).mono ?_;rintro e w' ⟨rfl,rfl⟩) | (go_at_call 69;refine (HTWO.out _).mono ?_;rintro e w' ⟨rfl,rfl⟩))
   obtain ⟨T1,hT1⟩:∃ t:List UInt8,t=txt++numY 2:=⟨_,rfl⟩
   have hl1:T1.length≤140737488000100:=by have:=(numY_len 2).1;rw [hT1,List.length_append];omega
   go_at_call 25
   refine (HPN.out _ _ _ _ 2 _ HS.out hT1 (by omega) ?_).mono ?_
   · first | rfl | (rw [IntKind.wrap_u64];unfold u64;omega) | (have:=HO.out;unfold u64;omega) | (unfold u64;omega)
   rintro e w2 ⟨a1,c1,rfl,hz⟩
   replace HS:=Lib.hid hz
   have HT1:=Lib.hid hT1
   clear hz hT1 hl0 z0 z1 z2 z3 z4 z5 z6 z7 z8
   have z0:=row_e9 (HBX.out _ _ _ HS.out) 0 _ rfl
   have z1:=row_e9 (HBX.out _ _ _ HS.out) 1 _ rfl
   have z2:=row_e9 (HBX.out _ _ _ HS.out) 2 _ rfl
   have z3:=row_e9 (HBX.out _ _ _ HS.out) 3 _ rfl
   have z4:=row_e9 (HBX.out _ _ _ HS.out) 4 _ rfl
   have z5:=row_e9 (HBX.out _ _ _ HS.out) 5 _ rfl
   have z6:=row_e9 (HBX.out _ _ _ HS.out) 6 _ rfl
   have z7:=row_e9 (HBX.out _ _ _ HS.out) 7 _ rfl
   have z8:=row_e9 (HBX.out _ _ _ HS.out) 8 _ rfl
   go_wp2_with (first | (go_at_call 68;refine (r_uses2 _).mono ?_;rintro e w' ⟨rfl,rfl⟩) | (go_at_call 69;refine (HTWO.out _).mono ?_;rintro e w' ⟨rfl,rfl⟩))
   obtain ⟨T2,hT2⟩:∃ t:List UInt8,t=T1++numY o:=⟨_,rfl⟩
   have hl2:T2.length≤140737488000200:=by have:=(numY_len o).1;rw [hT2,List.length_append];omega
   go_at_call 25
   refine (HPN.out _ _ _ _ o _ HS.out hT2 (by omega) ?_).mono ?_
   · first | rfl | (rw [IntKind.wrap_u64];unfold u64;omega) | (have:=HO.out;unfold u64;omega) | (unfold u64;omega)
   rintro e w3 ⟨a2,c2,rfl,hz⟩
   replace HS:=Lib.hid hz
   have HT2:=Lib.hid hT2
   clear hz hT2 hl1 z0 z1 z2 z3 z4 z5 z6 z7 z8
   have z0:=row_e9 (HBX.out _ _ _ HS.out) 0 _ rfl
   have z1:=row_e9 (HBX.out _ _ _ HS.out) 1 _ rfl
   have z2:=row_e9 (HBX.out _ _ _ HS.out) 2 _ rfl
   have z3:=row_e9 (HBX.out _ _ _ HS.out) 3 _ rfl
   have z4:=row_e9 (HBX.out _ _ _ HS.out) 4 _ rfl
   have z5:=row_e9 (HBX.out _ _ _ HS.out) 5 _ rfl
   have z6:=row_e9 (HBX.out _ _ _ HS.out) 6 _ rfl
   have z7:=row_e9 (HBX.out _ _ _ HS.out) 7 _ rfl
   have z8:=row_e9 (HBX.out _ _ _ HS.out) 8 _ rfl
   go_wp2_with (first | (go_at_call 68;refine (r_uses2 _).mono ?_;rintro e w' ⟨rfl,rfl⟩) | (go_at_call 69;refine (HTWO.out _).mono ?_;rintro e w' ⟨rfl,rfl⟩))
   obtain ⟨T3,hT3⟩:∃ t:List UInt8,t=T2++numY d:=⟨_,rfl⟩
   have hl3:T3.length≤140737488000300:=by have:=(numY_len d).1;rw [hT3,List.length_append];omega
   go_at_call 25
   refine (HPN.out _ _ _ _ d _ HS.out hT3 (by omega) ?_).mono ?_
   · first | rfl | (rw [IntKind.wrap_u64];unfold u64;omega) | (have:=HO.out;unfold u64;omega) | (unfold u64;omega)
   rintro e w4 ⟨a3,c3,rfl,hz⟩
   replace HS:=Lib.hid hz
   have HT3:=Lib.hid hT3
   clear hz hT3 hl2 z0 z1 z2 z3 z4 z5 z6 z7 z8
   have z0:=row_e9 (HBX.out _ _ _ HS.out) 0 _ rfl
   have z1:=row_e9 (HBX.out _ _ _ HS.out) 1 _ rfl
   have z2:=row_e9 (HBX.out _ _ _ HS.out) 2 _ rfl
   have z3:=row_e9 (HBX.out _ _ _ HS.out) 3 _ rfl
   have z4:=row_e9 (HBX.out _ _ _ HS.out) 4 _ rfl
   have z5:=row_e9 (HBX.out _ _ _ HS.out) 5 _ rfl
   have z6:=row_e9 (HBX.out _ _ _ HS.out) 6 _ rfl
   have z7:=row_e9 (HBX.out _ _ _ HS.out) 7 _ rfl
   have z8:=row_e9 (HBX.out _ _ _ HS.out) 8 _ rfl
   go_wp2_with (first | (go_at_call 68;refine (r_uses2 _).mono ?_;rintro e w' ⟨rfl,rfl⟩) | (go_at_call 69;refine (HTWO.out _).mono ?_;rintro e w' ⟨rfl,rfl⟩))
   obtain ⟨T4,hT4⟩:∃ t:List UInt8,t=T3++numY a:=⟨_,rfl⟩
   have hl4:T4.length≤140737488000400:=by have:=(numY_len a).1;rw [hT4,List.length_append];omega
   go_at_call 25
   refine (HPN.out _ _ _ _ a _ HS.out hT4 (by omega) ?_).mono ?_
   · first | rfl | (rw [IntKind.wrap_u64];unfold u64;omega) | (have:=HO.out;unfold u64;omega) | (unfold u64;omega)
   rintro e w5 ⟨a4,c4,rfl,hz⟩
   replace HS:=Lib.hid hz
   have HT4:=Lib.hid hT4
   clear hz hT4 hl3 z0 z1 z2 z3 z4 z5 z6 z7 z8
   have z0:=row_e9 (HBX.out _ _ _ HS.out) 0 _ rfl
   have z1:=row_e9 (HBX.out _ _ _ HS.out) 1 _ rfl
   have z2:=row_e9 (HBX.out _ _ _ HS.out) 2 _ rfl
   have z3:=row_e9 (HBX.out _ _ _ HS.out) 3 _ rfl
   have z4:=row_e9 (HBX.out _ _ _ HS.out) 4 _ rfl
   have z5:=row_e9 (HBX.out _ _ _ HS.out) 5 _ rfl
   have z6:=row_e9 (HBX.out _ _ _ HS.out) 6 _ rfl
   have z7:=row_e9 (HBX.out _ _ _ HS.out) 7 _ rfl
   have z8:=row_e9 (HBX.out _ _ _ HS.out) 8 _ rfl
   obtain ⟨T5,hT5⟩:∃ t:List UInt8,t=T4++numY fr:=⟨_,rfl⟩
   have hl5:T5.length≤140737488000500:=by have:=(numY_len fr).1;rw [hT5,List.length_append];omega
   have HT5:=Lib.hid hT5
   clear hT5
   go_wp2_with (first | (go_at_call 68;refine (r_uses2 _).mono ?_;rintro e w' ⟨rfl,rfl⟩) | (go_at_call 69;refine (HTWO.out _).mono ?_;rintro e w' ⟨rfl,rfl⟩) | (go_at_call 25;refine (HPN.out _ _ _ _ fr _ HS.out HT5.out (by omega) (by first | rfl | (rw [IntKind.wrap_u64];unfold u64;omega) | (unfold u64;omega))).mono ?_;rintro e w6 ⟨a5,c5,rfl,hz⟩;replace HS:=Lib.hid hz;clear hz;have z0:=row_e9 (HBX.out _ _ _ HS.out) 0 _ rfl;have z1:=row_e9 (HBX.out _ _ _ HS.out) 1 _ rfl;have z2:=row_e9 (HBX.out _ _ _ HS.out) 2 _ rfl;have z3:=row_e9 (HBX.out _ _ _ HS.out) 3 _ rfl;have z4:=row_e9 (HBX.out _ _ _ HS.out) 4 _ rfl;have z5:=row_e9 (HBX.out _ _ _ HS.out) 5 _ rfl;have z6:=row_e9 (HBX.out _ _ _ HS.out) 6 _ rfl;have z7:=row_e9 (HBX.out _ _ _ HS.out) 7 _ rfl;have z8:=row_e9 (HBX.out _ _ _ HS.out) 8 _ rfl))
   obtain rfl:F=T5:=by
    rw [HF.out,HT5.out,HT4.out,HT3.out,HT2.out,HT1.out]
    simp
   have HZ:=Lib.hid (HTR.out _ _ _ HS.out)
   go_ret
   exact ⟨_,_,rfl,HZ.out⟩
theorem r_puti3 {w:World} {bx:Nat} {v:Value} {txt:List UInt8} (h:ByQ w bx v txt w) (o d a b ad tt wd fr:Int) (hg:rgI (⟨3,o,d,a,b,ad,tt,wd,fr⟩:Ins)) (hlen:txt.length≤140737488000000):Calls Tryz.prog 27 #[v,.agg #[.int .u8 3,.int .u8 o,.int .i64 d,.int .i64 a,.int .i64 b,.int .i64 ad,.int .i64 tt,.int .i64 wd,.int .i64 fr]] w fun e w'=>∃ x c,e=.returned (.slice x (txt++insY (⟨3,o,d,a,b,ad,tt,wd,fr⟩:Ins)).length c)∧ByQ w bx (.slice x (txt++insY (⟨3,o,d,a,b,ad,tt,wd,fr⟩:Ins)).length c) (txt++insY (⟨3,o,d,a,b,ad,tt,wd,fr⟩:Ins)) w':=by
 obtain ⟨F,hF⟩:∃ t,t=txt++insY (⟨3,o,d,a,b,ad,tt,wd,fr⟩:Ins):=⟨_,rfl⟩
 rw [← hF]
 have hF2:F=txt++(numY 3++([])++((((((numY d)++([]))++([]))++(numY ad))++([]))++([]))++numY fr):=by
  rw [hF,ins_byt _ (show kB 3=true by decide)]
  rfl
 obtain ⟨a0,c0,rfl⟩:=row_slice h.own
 obtain ⟨_,ho,hd,ha,hb0,had,htt,hwd,hfr2⟩:=hg
 simp only at ho hd ha hb0 had htt hwd hfr2
 have HWD:=Lib.hid hwd
 have HPN:Hid (∀ (X:World) (v:Value) (T T':List UInt8) (x n:Int),ByQ w bx v T X→T'=T++numY x→T.length≤140737488300000→n=((u64 x:Nat):Int)→Calls Tryz.prog 25 #[v,.int .u64 n] X fun e w'=>∃ a c,e=.returned (.slice a T'.length c)∧ByQ w bx (.slice a T'.length c) T' w'):=fun X v T T' x n h e hl hn=>by
  subst e hn
  exact (rputn_any h.new (u64 x) (by unfold u64;omega) (by omega)).mono fun _ _ ⟨a,c,h1,h2⟩=>⟨a,c,h1,h.trans h2⟩
 have O0:=Own.new w 75 #[.int .u8 3,.int .u8 o,.int .i64 d,.int .i64 a,.int .i64 b,.int .i64 ad,.int .i64 tt,.int .i64 wd,.int .i64 fr]
 have HQ:=Lib.hid (h.below ((Below.refl w.heap.size w).alloc (Nat.le_refl _) (.cells #[.int .u8 3,.int .u8 o,.int .i64 d,.int .i64 a,.int .i64 b,.int .i64 ad,.int .i64 tt,.int .i64 wd,.int .i64 fr] 75)))
 obtain ⟨W0,hW0⟩:∃ W,W=w.alloc (.cells #[.int .u8 3,.int .u8 o,.int .i64 d,.int .i64 a,.int .i64 b,.int .i64 ad,.int .i64 tt,.int .i64 wd,.int .i64 fr] 75):=⟨_,rfl⟩
 rw [← hW0] at O0 HQ
 have HW0:=Lib.hid hW0
 have HBX:Hid (∀ X v T,ByQ W0 bx v T X→Own X w.heap.size 75 #[.int .u8 3,.int .u8 o,.int .i64 d,.int .i64 a,.int .i64 b,.int .i64 ad,.int .i64 tt,.int .i64 wd,.int .i64 fr]):=fun X v T h=>h.box O0 nu_I
 have HS:Hid (ByQ W0 bx (.slice a0 txt.length c0) txt W0):=HQ.out.new
 have HTR:Hid (∀ X v T,ByQ W0 bx v T X→ByQ w bx v T X):=fun X v T h=>HQ.out.trans h
 replace HPN:Hid (∀ (X:World) (v:Value) (T T':List UInt8) (x n:Int),ByQ W0 bx v T X→T'=T++numY x→T.length≤140737488300000→n=((u64 x:Nat):Int)→Calls Tryz.prog 25 #[v,.int .u64 n] X fun e w'=>∃ a c,e=.returned (.slice a T'.length c)∧ByQ W0 bx (.slice a T'.length c) T' w'):=fun X v T T' x n h e hl hn=>by
  subst e hn
  exact (rputn_any h.new (u64 x) (by unfold u64;omega) (by omega)).mono fun _ _ ⟨a,c,h1,h2⟩=>⟨a,c,h1,h.trans h2⟩
 have HF:=Lib.hid hF2
 have HO:=Lib.hid ho
 clear hF hF2 hW0 h HQ O0 ho hd ha hb0 had htt hwd hfr2
 go_enter Tryz.func27,Tryz.ntmps27
 go_upto_region 1 with fail
 rw [← HW0.out]
 clear HW0
 have z0:=row_e9 (HBX.out _ _ _ HS.out) 0 _ rfl
 have z1:=row_e9 (HBX.out _ _ _ HS.out) 1 _ rfl
 have z2:=row_e9 (HBX.out _ _ _ HS.out) 2 _ rfl
 have z3:=row_e9 (HBX.out _ _ _ HS.out) 3 _ rfl
 have z4:=row_e9 (HBX.out _ _ _ HS.out) 4 _ rfl
 have z5:=row_e9 (HBX.out _ _ _ HS.out) 5 _ rfl
 have z6:=row_e9 (HBX.out _ _ _ HS.out) 6 _ rfl
 have z7:=row_e9 (HBX.out _ _ _ HS.out) 7 _ rfl
 have z8:=row_e9 (HBX.out _ _ _ HS.out) 8 _ rfl
 have hl0:=hlen
 go_wp2_with (go_at_call 68;refine (r_uses3 _).mono ?_;rintro e w' ⟨rfl,rfl⟩)
 obtain ⟨T1,hT1⟩:∃ t:List UInt8,t=txt++numY 3:=⟨_,rfl⟩
 have hl1:T1.length≤140737488000100:=by have:=(numY_len 3).1;rw [hT1,List.length_append];omega
 go_at_call 25
 refine (HPN.out _ _ _ _ 3 _ HS.out hT1 (by omega) ?_).mono ?_
 · first | rfl | (rw [IntKind.wrap_u64];unfold u64;omega) | (have:=HO.out;unfold u64;omega) | (unfold u64;omega)
 rintro e w2 ⟨a1,c1,rfl,hz⟩
 replace HS:=Lib.hid hz
 have HT1:=Lib.hid hT1
 clear hz hT1 hl0 z0 z1 z2 z3 z4 z5 z6 z7 z8
 have z0:=row_e9 (HBX.out _ _ _ HS.out) 0 _ rfl
 have z1:=row_e9 (HBX.out _ _ _ HS.out) 1 _ rfl
 have z2:=row_e9 (HBX.out _ _ _ HS.out) 2 _ rfl
 have z3:=row_e9 (HBX.out _ _ _ HS.out) 3 _ rfl
 have z4:=row_e9 (HBX.out _ _ _ HS.out) 4 _ rfl
 have z5:=row_e9 (HBX.out _ _ _ HS.out) 5 _ rfl
 have z6:=row_e9 (HBX.out _ _ _ HS.out) 6 _ rfl
 have z7:=row_e9 (HBX.out _ _ _ HS.out) 7 _ rfl
 have z8:=row_e9 (HBX.out _ _ _ HS.out) 8 _ rfl
 go_wp2_with (go_at_call 68;refine (r_uses3 _).mono ?_;rintro e w' ⟨rfl,rfl⟩)
 obtain ⟨T2,hT2⟩:∃ t:List UInt8,t=T1++numY d:=⟨_,rfl⟩
 have hl2:T2.length≤140737488000200:=by have:=(numY_len d).1;rw [hT2,List.length_append];omega
 go_at_call 25
 refine (HPN.out _ _ _ _ d _ HS.out hT2 (by omega) ?_).mono ?_
 · first | rfl | (rw [IntKind.wrap_u64];unfold u64;omega) | (have:=HO.out;unfold u64;omega) | (unfold u64;omega)
 rintro e w3 ⟨a2,c2,rfl,hz⟩
 replace HS:=Lib.hid hz
 have HT2:=Lib.hid hT2
 clear hz hT2 hl1 z0 z1 z2 z3 z4 z5 z6 z7 z8
 have z0:=row_e9 (HBX.out _ _ _ HS.out) 0 _ rfl
 have z1:=row_e9 (HBX.out _ _ _ HS.out) 1 _ rfl
 have z2:=row_e9 (HBX.out _ _ _ HS.out) 2 _ rfl
 have z3:=row_e9 (HBX.out _ _ _ HS.out) 3 _ rfl
 have z4:=row_e9 (HBX.out _ _ _ HS.out) 4 _ rfl
 have z5:=row_e9 (HBX.out _ _ _ HS.out) 5 _ rfl
 have z6:=row_e9 (HBX.out _ _ _ HS.out) 6 _ rfl
 have z7:=row_e9 (HBX.out _ _ _ HS.out) 7 _ rfl
 have z8:=row_e9 (HBX.out _ _ _ HS.out) 8 _ rfl
 go_wp2_with (go_at_call 68;refine (r_uses3 _).mono ?_;rintro e w' ⟨rfl,rfl⟩)
 obtain ⟨T3,hT3⟩:∃ t:List UInt8,t=T2++numY ad:=⟨_,rfl⟩
 have hl3:T3.length≤140737488000300:=by have:=(numY_len ad).1;rw [hT3,List.length_append];omega
 go_at_call 25
 refine (HPN.out _ _ _ _ ad _ HS.out hT3 (by omega) ?_).mono ?_
 · first | rfl | (rw [IntKind.wrap_u64];unfold u64;omega) | (have:=HO.out;unfold u64;omega) | (unfold u64;omega)
 rintro e w4 ⟨a3,c3,rfl,hz⟩
 replace HS:=Lib.hid hz
 have HT3:=Lib.hid hT3
 clear hz hT3 hl2 z0 z1 z2 z3 z4 z5 z6 z7 z8
 have z0:=row_e9 (HBX.out _ _ _ HS.out) 0 _ rfl
 have z1:=row_e9 (HBX.out _ _ _ HS.out) 1 _ rfl
 have z2:=row_e9 (HBX.out _ _ _ HS.out) 2 _ rfl
 have z3:=row_e9 (HBX.out _ _ _ HS.out) 3 _ rfl
 have z4:=row_e9 (HBX.out _ _ _ HS.out) 4 _ rfl
 have z5:=row_e9 (HBX.out _ _ _ HS.out) 5 _ rfl
 have z6:=row_e9 (HBX.out _ _ _ HS.out) 6 _ rfl
 have z7:=row_e9 (HBX.out _ _ _ HS.out) 7 _ rfl
 have z8:=row_e9 (HBX.out _ _ _ HS.out) 8 _ rfl
 go_wp2_with (go_at_call 68;refine (r_uses3 _).mono ?_;rintro e w' ⟨rfl,rfl⟩)
 obtain ⟨T4,hT4⟩:∃ t:List UInt8,t=T3++numY fr:=⟨_,rfl⟩
 have hl4:T4.length≤140737488000400:=by have:=(numY_len fr).1;rw [hT4,List.length_append];omega
 go_at_call 25
 refine (HPN.out _ _ _ _ fr _ HS.out hT4 (by omega) ?_).mono ?_
 · first | rfl | (rw [IntKind.wrap_u64];unfold u64;omega) | (have:=HO.out;unfold u64;omega) | (unfold u64;omega)
 rintro e w5 ⟨a4,c4,rfl,hz⟩
 replace HS:=Lib.hid hz
 have HT4:=Lib.hid hT4
 clear hz hT4 hl3 z0 z1 z2 z3 z4 z5 z6 z7 z8
 obtain rfl:F=T4:=by
  rw [HF.out,HT4.out,HT3.out,HT2.out,HT1.out]
  simp
 have HZ:=Lib.hid (HTR.out _ _ _ HS.out)
 go_wp2_with fail
 go_ret
 exact ⟨_,_,rfl,HZ.out⟩
theorem r_puti4 {w:World} {bx:Nat} {v:Value} {txt:List UInt8} (h:ByQ w bx v txt w) (o d a b ad tt wd fr:Int) (hg:rgI (⟨4,o,d,a,b,ad,tt,wd,fr⟩:Ins)) (hlen:txt.length≤140737488000000):Calls Tryz.prog 27 #[v,.agg #[.int .u8 4,.int .u8 o,.int .i64 d,.int .i64 a,.int .i64 b,.int .i64 ad,.int .i64 tt,.int .i64 wd,.int .i64 fr]] w fun e w'=>∃ x c,e=.returned (.slice x (txt++insY (⟨4,o,d,a,b,ad,tt,wd,fr⟩:Ins)).length c)∧ByQ w bx (.slice x (txt++insY (⟨4,o,d,a,b,ad,tt,wd,fr⟩:Ins)).length c) (txt++insY (⟨4,o,d,a,b,ad,tt,wd,fr⟩:Ins)) w':=by
 obtain ⟨F,hF⟩:∃ t,t=txt++insY (⟨4,o,d,a,b,ad,tt,wd,fr⟩:Ins):=⟨_,rfl⟩
 rw [← hF]
 have hF2:F=txt++(numY 4++([])++(((((([])++(numY a))++([]))++(numY ad))++([]))++([]))++numY fr):=by
  rw [hF,ins_byt _ (show kB 4=true by decide)]
  rfl
 obtain ⟨a0,c0,rfl⟩:=row_slice h.own
 obtain ⟨_,ho,hd,ha,hb0,had,htt,hwd,hfr2⟩:=hg
 simp only at ho hd ha hb0 had htt hwd hfr2
 have HWD:=Lib.hid hwd
 have HPN:Hid (∀ (X:World) (v:Value) (T T':List UInt8) (x n:Int),ByQ w bx v T X→T'=T++numY x→T.length≤140737488300000→n=((u64 x:Nat):Int)→Calls Tryz.prog 25 #[v,.int .u64 n] X fun e w'=>∃ a c,e=.returned (.slice a T'.length c)∧ByQ w bx (.slice a T'.length c) T' w'):=fun X v T T' x n h e hl hn=>by
  subst e hn
  exact (rputn_any h.new (u64 x) (by unfold u64;omega) (by omega)).mono fun _ _ ⟨a,c,h1,h2⟩=>⟨a,c,h1,h.trans h2⟩
 have O0:=Own.new w 75 #[.int .u8 4,.int .u8 o,.int .i64 d,.int .i64 a,.int .i64 b,.int .i64 ad,.int .i64 tt,.int .i64 wd,.int .i64 fr]
 have HQ:=Lib.hid (h.below ((Below.refl w.heap.size w).alloc (Nat.le_refl _) (.cells #[.int .u8 4,.int .u8 o,.int .i64 d,.int .i64 a,.int .i64 b,.int .i64 ad,.int .i64 tt,.int .i64 wd,.int .i64 fr] 75)))
 obtain ⟨W0,hW0⟩:∃ W,W=w.alloc (.cells #[.int .u8 4,.int .u8 o,.int .i64 d,.int .i64 a,.int .i64 b,.int .i64 ad,.int .i64 tt,.int .i64 wd,.int .i64 fr] 75):=⟨_,rfl⟩
 rw [← hW0] at O0 HQ
 have HW0:=Lib.hid hW0
 have HBX:Hid (∀ X v T,ByQ W0 bx v T X→Own X w.heap.size 75 #[.int .u8 4,.int .u8 o,.int .i64 d,.int .i64 a,.int .i64 b,.int .i64 ad,.int .i64 tt,.int .i64 wd,.int .i64 fr]):=fun X v T h=>h.box O0 nu_I
 have HS:Hid (ByQ W0 bx (.slice a0 txt.length c0) txt W0):=HQ.out.new
 have HTR:Hid (∀ X v T,ByQ W0 bx v T X→ByQ w bx v T X):=fun X v T h=>HQ.out.trans h
 replace HPN:Hid (∀ (X:World) (v:Value) (T T':List UInt8) (x n:Int),ByQ W0 bx v T X→T'=T++numY x→T.length≤140737488300000→n=((u64 x:Nat):Int)→Calls Tryz.prog 25 #[v,.int .u64 n] X fun e w'=>∃ a c,e=.returned (.slice a T'.length c)∧ByQ W0 bx (.slice a T'.length c) T' w'):=fun X v T T' x n h e hl hn=>by
  subst e hn
  exact (rputn_any h.new (u64 x) (by unfold u64;omega) (by omega)).mono fun _ _ ⟨a,c,h1,h2⟩=>⟨a,c,h1,h.trans h2⟩
 have HF:=Lib.hid hF2
 have HO:=Lib.hid ho
 clear hF hF2 hW0 h HQ O0 ho hd ha hb0 had htt hwd hfr2
 go_enter Tryz.func27,Tryz.ntmps27
 go_upto_region 1 with fail
 rw [← HW0.out]
 clear HW0
 have z0:=row_e9 (HBX.out _ _ _ HS.out) 0 _ rfl
 have z1:=row_e9 (HBX.out _ _ _ HS.out) 1 _ rfl
 have z2:=row_e9 (HBX.out _ _ _ HS.out) 2 _ rfl
 have z3:=row_e9 (HBX.out _ _ _ HS.out) 3 _ rfl
 have z4:=row_e9 (HBX.out _ _ _ HS.out) 4 _ rfl
 have z5:=row_e9 (HBX.out _ _ _ HS.out) 5 _ rfl
 have z6:=row_e9 (HBX.out _ _ _ HS.out) 6 _ rfl
 have z7:=row_e9 (HBX.out _ _ _ HS.out) 7 _ rfl
 have z8:=row_e9 (HBX.out _ _ _ HS.out) 8 _ rfl
 have hl0:=hlen
 go_wp2_with (go_at_call 68;refine (r_uses4 _).mono ?_;rintro e w' ⟨rfl,rfl⟩)
 obtain ⟨T1,hT1⟩:∃ t:List UInt8,t=txt++numY 4:=⟨_,rfl⟩
 have hl1:T1.length≤140737488000100:=by have:=(numY_len 4).1;rw [hT1,List.length_append];omega
 go_at_call 25
 refine (HPN.out _ _ _ _ 4 _ HS.out hT1 (by omega) ?_).mono ?_
 · first | rfl | (rw [IntKind.wrap_u64];unfold u64;omega) | (have:=HO.out;unfold u64;omega) | (unfold u64;omega)
 rintro e w2 ⟨a1,c1,rfl,hz⟩
 replace HS:=Lib.hid hz
 have HT1:=Lib.hid hT1
 clear hz hT1 hl0 z0 z1 z2 z3 z4 z5 z6 z7 z8
 have z0:=row_e9 (HBX.out _ _ _ HS.out) 0 _ rfl
 have z1:=row_e9 (HBX.out _ _ _ HS.out) 1 _ rfl
 have z2:=row_e9 (HBX.out _ _ _ HS.out) 2 _ rfl
 have z3:=row_e9 (HBX.out _ _ _ HS.out) 3 _ rfl
 have z4:=row_e9 (HBX.out _ _ _ HS.out) 4 _ rfl
 have z5:=row_e9 (HBX.out _ _ _ HS.out) 5 _ rfl
 have z6:=row_e9 (HBX.out _ _ _ HS.out) 6 _ rfl
 have z7:=row_e9 (HBX.out _ _ _ HS.out) 7 _ rfl
 have z8:=row_e9 (HBX.out _ _ _ HS.out) 8 _ rfl
 go_wp2_with (go_at_call 68;refine (r_uses4 _).mono ?_;rintro e w' ⟨rfl,rfl⟩)
 obtain ⟨T2,hT2⟩:∃ t:List UInt8,t=T1++numY a:=⟨_,rfl⟩
 have hl2:T2.length≤140737488000200:=by have:=(numY_len a).1;rw [hT2,List.length_append];omega
 go_at_call 25
 refine (HPN.out _ _ _ _ a _ HS.out hT2 (by omega) ?_).mono ?_
 · first | rfl | (rw [IntKind.wrap_u64];unfold u64;omega) | (have:=HO.out;unfold u64;omega) | (unfold u64;omega)
 rintro e w3 ⟨a2,c2,rfl,hz⟩
 replace HS:=Lib.hid hz
 have HT2:=Lib.hid hT2
 clear hz hT2 hl1 z0 z1 z2 z3 z4 z5 z6 z7 z8
 have z0:=row_e9 (HBX.out _ _ _ HS.out) 0 _ rfl
 have z1:=row_e9 (HBX.out _ _ _ HS.out) 1 _ rfl
 have z2:=row_e9 (HBX.out _ _ _ HS.out) 2 _ rfl
 have z3:=row_e9 (HBX.out _ _ _ HS.out) 3 _ rfl
 have z4:=row_e9 (HBX.out _ _ _ HS.out) 4 _ rfl
 have z5:=row_e9 (HBX.out _ _ _ HS.out) 5 _ rfl
 have z6:=row_e9 (HBX.out _ _ _ HS.out) 6 _ rfl
 have z7:=row_e9 (HBX.out _ _ _ HS.out) 7 _ rfl
 have z8:=row_e9 (HBX.out _ _ _ HS.out) 8 _ rfl
 go_wp2_with (go_at_call 68;refine (r_uses4 _).mono ?_;rintro e w' ⟨rfl,rfl⟩)
 obtain ⟨T3,hT3⟩:∃ t:List UInt8,t=T2++numY ad:=⟨_,rfl⟩
 have hl3:T3.length≤140737488000300:=by have:=(numY_len ad).1;rw [hT3,List.length_append];omega
 go_at_call 25
 refine (HPN.out _ _ _ _ ad _ HS.out hT3 (by omega) ?_).mono ?_
 · first | rfl | (rw [IntKind.wrap_u64];unfold u64;omega) | (have:=HO.out;unfold u64;omega) | (unfold u64;omega)
 rintro e w4 ⟨a3,c3,rfl,hz⟩
 replace HS:=Lib.hid hz
 have HT3:=Lib.hid hT3
 clear hz hT3 hl2 z0 z1 z2 z3 z4 z5 z6 z7 z8
 have z0:=row_e9 (HBX.out _ _ _ HS.out) 0 _ rfl
 have z1:=row_e9 (HBX.out _ _ _ HS.out) 1 _ rfl
 have z2:=row_e9 (HBX.out _ _ _ HS.out) 2 _ rfl
 have z3:=row_e9 (HBX.out _ _ _ HS.out) 3 _ rfl
 have z4:=row_e9 (HBX.out _ _ _ HS.out) 4 _ rfl
 have z5:=row_e9 (HBX.out _ _ _ HS.out) 5 _ rfl
 have z6:=row_e9 (HBX.out _ _ _ HS.out) 6 _ rfl
 have z7:=row_e9 (HBX.out _ _ _ HS.out) 7 _ rfl
 have z8:=row_e9 (HBX.out _ _ _ HS.out) 8 _ rfl
 go_wp2_with (go_at_call 68;refine (r_uses4 _).mono ?_;rintro e w' ⟨rfl,rfl⟩)
 obtain ⟨T4,hT4⟩:∃ t:List UInt8,t=T3++numY fr:=⟨_,rfl⟩
 have hl4:T4.length≤140737488000400:=by have:=(numY_len fr).1;rw [hT4,List.length_append];omega
 go_at_call 25
 refine (HPN.out _ _ _ _ fr _ HS.out hT4 (by omega) ?_).mono ?_
 · first | rfl | (rw [IntKind.wrap_u64];unfold u64;omega) | (have:=HO.out;unfold u64;omega) | (unfold u64;omega)
 rintro e w5 ⟨a4,c4,rfl,hz⟩
 replace HS:=Lib.hid hz
 have HT4:=Lib.hid hT4
 clear hz hT4 hl3 z0 z1 z2 z3 z4 z5 z6 z7 z8
 obtain rfl:F=T4:=by
  rw [HF.out,HT4.out,HT3.out,HT2.out,HT1.out]
  simp
 have HZ:=Lib.hid (HTR.out _ _ _ HS.out)
 go_wp2_with fail
 go_ret
 exact ⟨_,_,rfl,HZ.out⟩
theorem r_puti5 {w:World} {bx:Nat} {v:Value} {txt:List UInt8} (h:ByQ w bx v txt w) (o d a b ad tt wd fr:Int) (hg:rgI (⟨5,o,d,a,b,ad,tt,wd,fr⟩:Ins)) (hlen:txt.length≤140737488000000):Calls Tryz.prog 27 #[v,.agg #[.int .u8 5,.int .u8 o,.int .i64 d,.int .i64 a,.int .i64 b,.int .i64 ad,.int .i64 tt,.int .i64 wd,.int .i64 fr]] w fun e w'=>∃ x c,e=.returned (.slice x (txt++insY (⟨5,o,d,a,b,ad,tt,wd,fr⟩:Ins)).length c)∧ByQ w bx (.slice x (txt++insY (⟨5,o,d,a,b,ad,tt,wd,fr⟩:Ins)).length c) (txt++insY (⟨5,o,d,a,b,ad,tt,wd,fr⟩:Ins)) w':=by
 obtain ⟨F,hF⟩:∃ t,t=txt++insY (⟨5,o,d,a,b,ad,tt,wd,fr⟩:Ins):=⟨_,rfl⟩
 rw [← hF]
 have hF2:F=txt++(numY 5++([])++((((((numY d)++([]))++([]))++(numY ad))++([]))++([]))++numY fr):=by
  rw [hF,ins_byt _ (show kB 5=true by decide)]
  rfl
 obtain ⟨a0,c0,rfl⟩:=row_slice h.own
 obtain ⟨_,ho,hd,ha,hb0,had,htt,hwd,hfr2⟩:=hg
 simp only at ho hd ha hb0 had htt hwd hfr2
 have HWD:=Lib.hid hwd
 have HPN:Hid (∀ (X:World) (v:Value) (T T':List UInt8) (x n:Int),ByQ w bx v T X→T'=T++numY x→T.length≤140737488300000→n=((u64 x:Nat):Int)→Calls Tryz.prog 25 #[v,.int .u64 n] X fun e w'=>∃ a c,e=.returned (.slice a T'.length c)∧ByQ w bx (.slice a T'.length c) T' w'):=fun X v T T' x n h e hl hn=>by
  subst e hn
  exact (rputn_any h.new (u64 x) (by unfold u64;omega) (by omega)).mono fun _ _ ⟨a,c,h1,h2⟩=>⟨a,c,h1,h.trans h2⟩
 have O0:=Own.new w 75 #[.int .u8 5,.int .u8 o,.int .i64 d,.int .i64 a,.int .i64 b,.int .i64 ad,.int .i64 tt,.int .i64 wd,.int .i64 fr]
 have HQ:=Lib.hid (h.below ((Below.refl w.heap.size w).alloc (Nat.le_refl _) (.cells #[.int .u8 5,.int .u8 o,.int .i64 d,.int .i64 a,.int .i64 b,.int .i64 ad,.int .i64 tt,.int .i64 wd,.int .i64 fr] 75)))
 obtain ⟨W0,hW0⟩:∃ W,W=w.alloc (.cells #[.int .u8 5,.int .u8 o,.int .i64 d,.int .i64 a,.int .i64 b,.int .i64 ad,.int .i64 tt,.int .i64 wd,.int .i64 fr] 75):=⟨_,rfl⟩
 rw [← hW0] at O0 HQ
 have HW0:=Lib.hid hW0
 have HBX:Hid (∀ X v T,ByQ W0 bx v T X→Own X w.heap.size 75 #[.int .u8 5,.int .u8 o,.int .i64 d,.int .i64 a,.int .i64 b,.int .i64 ad,.int .i64 tt,.int .i64 wd,.int .i64 fr]):=fun X v T h=>h.box O0 nu_I
 have HS:Hid (ByQ W0 bx (.slice a0 txt.length c0) txt W0):=HQ.out.new
 have HTR:Hid (∀ X v T,ByQ W0 bx v T X→ByQ w bx v T X):=fun X v T h=>HQ.out.trans h
 replace HPN:Hid (∀ (X:World) (v:Value) (T T':List UInt8) (x n:Int),ByQ W0 bx v T X→T'=T++numY x→T.length≤140737488300000→n=((u64 x:Nat):Int)→Calls Tryz.prog 25 #[v,.int .u64 n] X fun e w'=>∃ a c,e=.returned (.slice a T'.length c)∧ByQ W0 bx (.slice a T'.length c) T' w'):=fun X v T T' x n h e hl hn=>by
  subst e hn
  exact (rputn_any h.new (u64 x) (by unfold u64;omega) (by omega)).mono fun _ _ ⟨a,c,h1,h2⟩=>⟨a,c,h1,h.trans h2⟩
 have HF:=Lib.hid hF2
 have HO:=Lib.hid ho
 clear hF hF2 hW0 h HQ O0 ho hd ha hb0 had htt hwd hfr2
 go_enter Tryz.func27,Tryz.ntmps27
 go_upto_region 1 with fail
 rw [← HW0.out]
 clear HW0
 have z0:=row_e9 (HBX.out _ _ _ HS.out) 0 _ rfl
 have z1:=row_e9 (HBX.out _ _ _ HS.out) 1 _ rfl
 have z2:=row_e9 (HBX.out _ _ _ HS.out) 2 _ rfl
 have z3:=row_e9 (HBX.out _ _ _ HS.out) 3 _ rfl
 have z4:=row_e9 (HBX.out _ _ _ HS.out) 4 _ rfl
 have z5:=row_e9 (HBX.out _ _ _ HS.out) 5 _ rfl
 have z6:=row_e9 (HBX.out _ _ _ HS.out) 6 _ rfl
 have z7:=row_e9 (HBX.out _ _ _ HS.out) 7 _ rfl
 have z8:=row_e9 (HBX.out _ _ _ HS.out) 8 _ rfl
 have hl0:=hlen
 go_wp2_with (go_at_call 68;refine (r_uses5 _).mono ?_;rintro e w' ⟨rfl,rfl⟩)
 obtain ⟨T1,hT1⟩:∃ t:List UInt8,t=txt++numY 5:=⟨_,rfl⟩
 have hl1:T1.length≤140737488000100:=by have:=(numY_len 5).1;rw [hT1,List.length_append];omega
 go_at_call 25
 refine (HPN.out _ _ _ _ 5 _ HS.out hT1 (by omega) ?_).mono ?_
 · first | rfl | (rw [IntKind.wrap_u64];unfold u64;omega) | (have:=HO.out;unfold u64;omega) | (unfold u64;omega)
 rintro e w2 ⟨a1,c1,rfl,hz⟩
 replace HS:=Lib.hid hz
 have HT1:=Lib.hid hT1
 clear hz hT1 hl0 z0 z1 z2 z3 z4 z5 z6 z7 z8
 have z0:=row_e9 (HBX.out _ _ _ HS.out) 0 _ rfl
 have z1:=row_e9 (HBX.out _ _ _ HS.out) 1 _ rfl
 have z2:=row_e9 (HBX.out _ _ _ HS.out) 2 _ rfl
 have z3:=row_e9 (HBX.out _ _ _ HS.out) 3 _ rfl
 have z4:=row_e9 (HBX.out _ _ _ HS.out) 4 _ rfl
 have z5:=row_e9 (HBX.out _ _ _ HS.out) 5 _ rfl
 have z6:=row_e9 (HBX.out _ _ _ HS.out) 6 _ rfl
 have z7:=row_e9 (HBX.out _ _ _ HS.out) 7 _ rfl
 have z8:=row_e9 (HBX.out _ _ _ HS.out) 8 _ rfl
 go_wp2_with (go_at_call 68;refine (r_uses5 _).mono ?_;rintro e w' ⟨rfl,rfl⟩)
 obtain ⟨T2,hT2⟩:∃ t:List UInt8,t=T1++numY d:=⟨_,rfl⟩
 have hl2:T2.length≤140737488000200:=by have:=(numY_len d).1;rw [hT2,List.length_append];omega
 go_at_call 25
 refine (HPN.out _ _ _ _ d _ HS.out hT2 (by omega) ?_).mono ?_
 · first | rfl | (rw [IntKind.wrap_u64];unfold u64;omega) | (have:=HO.out;unfold u64;omega) | (unfold u64;omega)
 rintro e w3 ⟨a2,c2,rfl,hz⟩
 replace HS:=Lib.hid hz
 have HT2:=Lib.hid hT2
 clear hz hT2 hl1 z0 z1 z2 z3 z4 z5 z6 z7 z8
 have z0:=row_e9 (HBX.out _ _ _ HS.out) 0 _ rfl
 have z1:=row_e9 (HBX.out _ _ _ HS.out) 1 _ rfl
 have z2:=row_e9 (HBX.out _ _ _ HS.out) 2 _ rfl
 have z3:=row_e9 (HBX.out _ _ _ HS.out) 3 _ rfl
 have z4:=row_e9 (HBX.out _ _ _ HS.out) 4 _ rfl
 have z5:=row_e9 (HBX.out _ _ _ HS.out) 5 _ rfl
 have z6:=row_e9 (HBX.out _ _ _ HS.out) 6 _ rfl
 have z7:=row_e9 (HBX.out _ _ _ HS.out) 7 _ rfl
 have z8:=row_e9 (HBX.out _ _ _ HS.out) 8 _ rfl
 go_wp2_with (go_at_call 68;refine (r_uses5 _).mono ?_;rintro e w' ⟨rfl,rfl⟩)
 obtain ⟨T3,hT3⟩:∃ t:List UInt8,t=T2++numY ad:=⟨_,rfl⟩
 have hl3:T3.length≤140737488000300:=by have:=(numY_len ad).1;rw [hT3,List.length_append];omega
 go_at_call 25
 refine (HPN.out _ _ _ _ ad _ HS.out hT3 (by omega) ?_).mono ?_
 · first | rfl | (rw [IntKind.wrap_u64];unfold u64;omega) | (have:=HO.out;unfold u64;omega) | (unfold u64;omega)
 rintro e w4 ⟨a3,c3,rfl,hz⟩
 replace HS:=Lib.hid hz
 have HT3:=Lib.hid hT3
 clear hz hT3 hl2 z0 z1 z2 z3 z4 z5 z6 z7 z8
 have z0:=row_e9 (HBX.out _ _ _ HS.out) 0 _ rfl
 have z1:=row_e9 (HBX.out _ _ _ HS.out) 1 _ rfl
 have z2:=row_e9 (HBX.out _ _ _ HS.out) 2 _ rfl
 have z3:=row_e9 (HBX.out _ _ _ HS.out) 3 _ rfl
 have z4:=row_e9 (HBX.out _ _ _ HS.out) 4 _ rfl
 have z5:=row_e9 (HBX.out _ _ _ HS.out) 5 _ rfl
 have z6:=row_e9 (HBX.out _ _ _ HS.out) 6 _ rfl
 have z7:=row_e9 (HBX.out _ _ _ HS.out) 7 _ rfl
 have z8:=row_e9 (HBX.out _ _ _ HS.out) 8 _ rfl
 go_wp2_with (go_at_call 68;refine (r_uses5 _).mono ?_;rintro e w' ⟨rfl,rfl⟩)
 obtain ⟨T4,hT4⟩:∃ t:List UInt8,t=T3++numY fr:=⟨_,rfl⟩
 have hl4:T4.length≤140737488000400:=by have:=(numY_len fr).1;rw [hT4,List.length_append];omega
 go_at_call 25
 refine (HPN.out _ _ _ _ fr _ HS.out hT4 (by omega) ?_).mono ?_
 · first | rfl | (rw [IntKind.wrap_u64];unfold u64;omega) | (have:=HO.out;unfold u64;omega) | (unfold u64;omega)
 rintro e w5 ⟨a4,c4,rfl,hz⟩
 replace HS:=Lib.hid hz
 have HT4:=Lib.hid hT4
 clear hz hT4 hl3 z0 z1 z2 z3 z4 z5 z6 z7 z8
 obtain rfl:F=T4:=by
  rw [HF.out,HT4.out,HT3.out,HT2.out,HT1.out]
  simp
 have HZ:=Lib.hid (HTR.out _ _ _ HS.out)
 go_wp2_with fail
 go_ret
 exact ⟨_,_,rfl,HZ.out⟩
theorem r_puti6 {w:World} {bx:Nat} {v:Value} {txt:List UInt8} (h:ByQ w bx v txt w) (o d a b ad tt wd fr:Int) (hg:rgI (⟨6,o,d,a,b,ad,tt,wd,fr⟩:Ins)) (hlen:txt.length≤140737488000000):Calls Tryz.prog 27 #[v,.agg #[.int .u8 6,.int .u8 o,.int .i64 d,.int .i64 a,.int .i64 b,.int .i64 ad,.int .i64 tt,.int .i64 wd,.int .i64 fr]] w fun e w'=>∃ x c,e=.returned (.slice x (txt++insY (⟨6,o,d,a,b,ad,tt,wd,fr⟩:Ins)).length c)∧ByQ w bx (.slice x (txt++insY (⟨6,o,d,a,b,ad,tt,wd,fr⟩:Ins)).length c) (txt++insY (⟨6,o,d,a,b,ad,tt,wd,fr⟩:Ins)) w':=by
 obtain ⟨F,hF⟩:∃ t,t=txt++insY (⟨6,o,d,a,b,ad,tt,wd,fr⟩:Ins):=⟨_,rfl⟩
 rw [← hF]
 have hF2:F=txt++(numY 6++([])++(((((([])++([]))++([]))++([]))++([]))++([]))++numY fr):=by
  rw [hF,ins_byt _ (show kB 6=true by decide)]
  rfl
 obtain ⟨a0,c0,rfl⟩:=row_slice h.own
 obtain ⟨_,ho,hd,ha,hb0,had,htt,hwd,hfr2⟩:=hg
 simp only at ho hd ha hb0 had htt hwd hfr2
 have HWD:=Lib.hid hwd
 have HPN:Hid (∀ (X:World) (v:Value) (T T':List UInt8) (x n:Int),ByQ w bx v T X→T'=T++numY x→T.length≤140737488300000→n=((u64 x:Nat):Int)→Calls Tryz.prog 25 #[v,.int .u64 n] X fun e w'=>∃ a c,e=.returned (.slice a T'.length c)∧ByQ w bx (.slice a T'.length c) T' w'):=fun X v T T' x n h e hl hn=>by
  subst e hn
  exact (rputn_any h.new (u64 x) (by unfold u64;omega) (by omega)).mono fun _ _ ⟨a,c,h1,h2⟩=>⟨a,c,h1,h.trans h2⟩
 have O0:=Own.new w 75 #[.int .u8 6,.int .u8 o,.int .i64 d,.int .i64 a,.int .i64 b,.int .i64 ad,.int .i64 tt,.int .i64 wd,.int .i64 fr]
 have HQ:=Lib.hid (h.below ((Below.refl w.heap.size w).alloc (Nat.le_refl _) (.cells #[.int .u8 6,.int .u8 o,.int .i64 d,.int .i64 a,.int .i64 b,.int .i64 ad,.int .i64 tt,.int .i64 wd,.int .i64 fr] 75)))
 obtain ⟨W0,hW0⟩:∃ W,W=w.alloc (.cells #[.int .u8 6,.int .u8 o,.int .i64 d,.int .i64 a,.int .i64 b,.int .i64 ad,.int .i64 tt,.int .i64 wd,.int .i64 fr] 75):=⟨_,rfl⟩
 rw [← hW0] at O0 HQ
 have HW0:=Lib.hid hW0
 have HBX:Hid (∀ X v T,ByQ W0 bx v T X→Own X w.heap.size 75 #[.int .u8 6,.int .u8 o,.int .i64 d,.int .i64 a,.int .i64 b,.int .i64 ad,.int .i64 tt,.int .i64 wd,.int .i64 fr]):=fun X v T h=>h.box O0 nu_I
 have HS:Hid (ByQ W0 bx (.slice a0 txt.length c0) txt W0):=HQ.out.new
 have HTR:Hid (∀ X v T,ByQ W0 bx v T X→ByQ w bx v T X):=fun X v T h=>HQ.out.trans h
 replace HPN:Hid (∀ (X:World) (v:Value) (T T':List UInt8) (x n:Int),ByQ W0 bx v T X→T'=T++numY x→T.length≤140737488300000→n=((u64 x:Nat):Int)→Calls Tryz.prog 25 #[v,.int .u64 n] X fun e w'=>∃ a c,e=.returned (.slice a T'.length c)∧ByQ W0 bx (.slice a T'.length c) T' w'):=fun X v T T' x n h e hl hn=>by
  subst e hn
  exact (rputn_any h.new (u64 x) (by unfold u64;omega) (by omega)).mono fun _ _ ⟨a,c,h1,h2⟩=>⟨a,c,h1,h.trans h2⟩
 have HF:=Lib.hid hF2
 have HO:=Lib.hid ho
 clear hF hF2 hW0 h HQ O0 ho hd ha hb0 had htt hwd hfr2
 go_enter Tryz.func27,Tryz.ntmps27
 go_upto_region 1 with fail
 rw [← HW0.out]
 clear HW0
 have z0:=row_e9 (HBX.out _ _ _ HS.out) 0 _ rfl
 have z1:=row_e9 (HBX.out _ _ _ HS.out) 1 _ rfl
 have z2:=row_e9 (HBX.out _ _ _ HS.out) 2 _ rfl
 have z3:=row_e9 (HBX.out _ _ _ HS.out) 3 _ rfl
 have z4:=row_e9 (HBX.out _ _ _ HS.out) 4 _ rfl
 have z5:=row_e9 (HBX.out _ _ _ HS.out) 5 _ rfl
 have z6:=row_e9 (HBX.out _ _ _ HS.out) 6 _ rfl
 have z7:=row_e9 (HBX.out _ _ _ HS.out) 7 _ rfl
 have z8:=row_e9 (HBX.out _ _ _ HS.out) 8 _ rfl
 have hl0:=hlen
 go_wp2_with (go_at_call 68;refine (r_uses6 _).mono ?_;rintro e w' ⟨rfl,rfl⟩)
 obtain ⟨T1,hT1⟩:∃ t:List UInt8,t=txt++numY 6:=⟨_,rfl⟩
 have hl1:T1.length≤140737488000100:=by have:=(numY_len 6).1;rw [hT1,List.length_append];omega
 go_at_call 25
 refine (HPN.out _ _ _ _ 6 _ HS.out hT1 (by omega) ?_).mono ?_
 · first | rfl | (rw [IntKind.wrap_u64];unfold u64;omega) | (have:=HO.out;unfold u64;omega) | (unfold u64;omega)
 rintro e w2 ⟨a1,c1,rfl,hz⟩
 replace HS:=Lib.hid hz
 have HT1:=Lib.hid hT1
 clear hz hT1 hl0 z0 z1 z2 z3 z4 z5 z6 z7 z8
 have z0:=row_e9 (HBX.out _ _ _ HS.out) 0 _ rfl
 have z1:=row_e9 (HBX.out _ _ _ HS.out) 1 _ rfl
 have z2:=row_e9 (HBX.out _ _ _ HS.out) 2 _ rfl
 have z3:=row_e9 (HBX.out _ _ _ HS.out) 3 _ rfl
 have z4:=row_e9 (HBX.out _ _ _ HS.out) 4 _ rfl
 have z5:=row_e9 (HBX.out _ _ _ HS.out) 5 _ rfl
 have z6:=row_e9 (HBX.out _ _ _ HS.out) 6 _ rfl
 have z7:=row_e9 (HBX.out _ _ _ HS.out) 7 _ rfl
 have z8:=row_e9 (HBX.out _ _ _ HS.out) 8 _ rfl
 go_wp2_with (go_at_call 68;refine (r_uses6 _).mono ?_;rintro e w' ⟨rfl,rfl⟩)
 obtain ⟨T2,hT2⟩:∃ t:List UInt8,t=T1++numY fr:=⟨_,rfl⟩
 have hl2:T2.length≤140737488000200:=by have:=(numY_len fr).1;rw [hT2,List.length_append];omega
 go_at_call 25
 refine (HPN.out _ _ _ _ fr _ HS.out hT2 (by omega) ?_).mono ?_
 · first | rfl | (rw [IntKind.wrap_u64];unfold u64;omega) | (have:=HO.out;unfold u64;omega) | (unfold u64;omega)
 rintro e w3 ⟨a2,c2,rfl,hz⟩
 replace HS:=Lib.hid hz
 have HT2:=Lib.hid hT2
 clear hz hT2 hl1 z0 z1 z2 z3 z4 z5 z6 z7 z8
 obtain rfl:F=T2:=by
  rw [HF.out,HT2.out,HT1.out]
  simp
 have HZ:=Lib.hid (HTR.out _ _ _ HS.out)
 go_wp2_with fail
 go_ret
 exact ⟨_,_,rfl,HZ.out⟩
theorem r_puti7 {w:World} {bx:Nat} {v:Value} {txt:List UInt8} (h:ByQ w bx v txt w) (o d a b ad tt wd fr:Int) (hg:rgI (⟨7,o,d,a,b,ad,tt,wd,fr⟩:Ins)) (hlen:txt.length≤140737488000000):Calls Tryz.prog 27 #[v,.agg #[.int .u8 7,.int .u8 o,.int .i64 d,.int .i64 a,.int .i64 b,.int .i64 ad,.int .i64 tt,.int .i64 wd,.int .i64 fr]] w fun e w'=>∃ x c,e=.returned (.slice x (txt++insY (⟨7,o,d,a,b,ad,tt,wd,fr⟩:Ins)).length c)∧ByQ w bx (.slice x (txt++insY (⟨7,o,d,a,b,ad,tt,wd,fr⟩:Ins)).length c) (txt++insY (⟨7,o,d,a,b,ad,tt,wd,fr⟩:Ins)) w':=by
 obtain ⟨F,hF⟩:∃ t,t=txt++insY (⟨7,o,d,a,b,ad,tt,wd,fr⟩:Ins):=⟨_,rfl⟩
 rw [← hF]
 have hF2:F=txt++(numY 7++([])++(((((([])++(numY a))++([]))++([]))++([]))++([]))++numY fr):=by
  rw [hF,ins_byt _ (show kB 7=true by decide)]
  rfl
 obtain ⟨a0,c0,rfl⟩:=row_slice h.own
 obtain ⟨_,ho,hd,ha,hb0,had,htt,hwd,hfr2⟩:=hg
 simp only at ho hd ha hb0 had htt hwd hfr2
 have HWD:=Lib.hid hwd
 have HPN:Hid (∀ (X:World) (v:Value) (T T':List UInt8) (x n:Int),ByQ w bx v T X→T'=T++numY x→T.length≤140737488300000→n=((u64 x:Nat):Int)→Calls Tryz.prog 25 #[v,.int .u64 n] X fun e w'=>∃ a c,e=.returned (.slice a T'.length c)∧ByQ w bx (.slice a T'.length c) T' w'):=fun X v T T' x n h e hl hn=>by
  subst e hn
  exact (rputn_any h.new (u64 x) (by unfold u64;omega) (by omega)).mono fun _ _ ⟨a,c,h1,h2⟩=>⟨a,c,h1,h.trans h2⟩
 have O0:=Own.new w 75 #[.int .u8 7,.int .u8 o,.int .i64 d,.int .i64 a,.int .i64 b,.int .i64 ad,.int .i64 tt,.int .i64 wd,.int .i64 fr]
 have HQ:=Lib.hid (h.below ((Below.refl w.heap.size w).alloc (Nat.le_refl _) (.cells #[.int .u8 7,.int .u8 o,.int .i64 d,.int .i64 a,.int .i64 b,.int .i64 ad,.int .i64 tt,.int .i64 wd,.int .i64 fr] 75)))
 obtain ⟨W0,hW0⟩:∃ W,W=w.alloc (.cells #[.int .u8 7,.int .u8 o,.int .i64 d,.int .i64 a,.int .i64 b,.int .i64 ad,.int .i64 tt,.int .i64 wd,.int .i64 fr] 75):=⟨_,rfl⟩
 rw [← hW0] at O0 HQ
 have HW0:=Lib.hid hW0
 have HBX:Hid (∀ X v T,ByQ W0 bx v T X→Own X w.heap.size 75 #[.int .u8 7,.int .u8 o,.int .i64 d,.int .i64 a,.int .i64 b,.int .i64 ad,.int .i64 tt,.int .i64 wd,.int .i64 fr]):=fun X v T h=>h.box O0 nu_I
 have HS:Hid (ByQ W0 bx (.slice a0 txt.length c0) txt W0):=HQ.out.new
 have HTR:Hid (∀ X v T,ByQ W0 bx v T X→ByQ w bx v T X):=fun X v T h=>HQ.out.trans h
 replace HPN:Hid (∀ (X:World) (v:Value) (T T':List UInt8) (x n:Int),ByQ W0 bx v T X→T'=T++numY x→T.length≤140737488300000→n=((u64 x:Nat):Int)→Calls Tryz.prog 25 #[v,.int .u64 n] X fun e w'=>∃ a c,e=.returned (.slice a T'.length c)∧ByQ W0 bx (.slice a T'.length c) T' w'):=fun X v T T' x n h e hl hn=>by
  subst e hn
  exact (rputn_any h.new (u64 x) (by unfold u64;omega) (by omega)).mono fun _ _ ⟨a,c,h1,h2⟩=>⟨a,c,h1,h.trans h2⟩
 have HF:=Lib.hid hF2
 have HO:=Lib.hid ho
 clear hF hF2 hW0 h HQ O0 ho hd ha hb0 had htt hwd hfr2
 go_enter Tryz.func27,Tryz.ntmps27
 go_upto_region 1 with fail
 rw [← HW0.out]
 clear HW0
 have z0:=row_e9 (HBX.out _ _ _ HS.out) 0 _ rfl
 have z1:=row_e9 (HBX.out _ _ _ HS.out) 1 _ rfl
 have z2:=row_e9 (HBX.out _ _ _ HS.out) 2 _ rfl
 have z3:=row_e9 (HBX.out _ _ _ HS.out) 3 _ rfl
 have z4:=row_e9 (HBX.out _ _ _ HS.out) 4 _ rfl
 have z5:=row_e9 (HBX.out _ _ _ HS.out) 5 _ rfl
 have z6:=row_e9 (HBX.out _ _ _ HS.out) 6 _ rfl
 have z7:=row_e9 (HBX.out _ _ _ HS.out) 7 _ rfl
 have z8:=row_e9 (HBX.out _ _ _ HS.out) 8 _ rfl
 have hl0:=hlen
 go_wp2_with (go_at_call 68;refine (r_uses7 _).mono ?_;rintro e w' ⟨rfl,rfl⟩)
 obtain ⟨T1,hT1⟩:∃ t:List UInt8,t=txt++numY 7:=⟨_,rfl⟩
 have hl1:T1.length≤140737488000100:=by have:=(numY_len 7).1;rw [hT1,List.length_append];omega
 go_at_call 25
 refine (HPN.out _ _ _ _ 7 _ HS.out hT1 (by omega) ?_).mono ?_
 · first | rfl | (rw [IntKind.wrap_u64];unfold u64;omega) | (have:=HO.out;unfold u64;omega) | (unfold u64;omega)
 rintro e w2 ⟨a1,c1,rfl,hz⟩
 replace HS:=Lib.hid hz
 have HT1:=Lib.hid hT1
 clear hz hT1 hl0 z0 z1 z2 z3 z4 z5 z6 z7 z8
 have z0:=row_e9 (HBX.out _ _ _ HS.out) 0 _ rfl
 have z1:=row_e9 (HBX.out _ _ _ HS.out) 1 _ rfl
 have z2:=row_e9 (HBX.out _ _ _ HS.out) 2 _ rfl
 have z3:=row_e9 (HBX.out _ _ _ HS.out) 3 _ rfl
 have z4:=row_e9 (HBX.out _ _ _ HS.out) 4 _ rfl
 have z5:=row_e9 (HBX.out _ _ _ HS.out) 5 _ rfl
 have z6:=row_e9 (HBX.out _ _ _ HS.out) 6 _ rfl
 have z7:=row_e9 (HBX.out _ _ _ HS.out) 7 _ rfl
 have z8:=row_e9 (HBX.out _ _ _ HS.out) 8 _ rfl
 go_wp2_with (go_at_call 68;refine (r_uses7 _).mono ?_;rintro e w' ⟨rfl,rfl⟩)
 obtain ⟨T2,hT2⟩:∃ t:List UInt8,t=T1++numY a:=⟨_,rfl⟩
 have hl2:T2.length≤140737488000200:=by have:=(numY_len a).1;rw [hT2,List.length_append];omega
 go_at_call 25
 refine (HPN.out _ _ _ _ a _ HS.out hT2 (by omega) ?_).mono ?_
 · first | rfl | (rw [IntKind.wrap_u64];unfold u64;omega) | (have:=HO.out;unfold u64;omega) | (unfold u64;omega)
 rintro e w3 ⟨a2,c2,rfl,hz⟩
 replace HS:=Lib.hid hz
 have HT2:=Lib.hid hT2
 clear hz hT2 hl1 z0 z1 z2 z3 z4 z5 z6 z7 z8
 have z0:=row_e9 (HBX.out _ _ _ HS.out) 0 _ rfl
 have z1:=row_e9 (HBX.out _ _ _ HS.out) 1 _ rfl
 have z2:=row_e9 (HBX.out _ _ _ HS.out) 2 _ rfl
 have z3:=row_e9 (HBX.out _ _ _ HS.out) 3 _ rfl
 have z4:=row_e9 (HBX.out _ _ _ HS.out) 4 _ rfl
 have z5:=row_e9 (HBX.out _ _ _ HS.out) 5 _ rfl
 have z6:=row_e9 (HBX.out _ _ _ HS.out) 6 _ rfl
 have z7:=row_e9 (HBX.out _ _ _ HS.out) 7 _ rfl
 have z8:=row_e9 (HBX.out _ _ _ HS.out) 8 _ rfl
 go_wp2_with (go_at_call 68;refine (r_uses7 _).mono ?_;rintro e w' ⟨rfl,rfl⟩)
 obtain ⟨T3,hT3⟩:∃ t:List UInt8,t=T2++numY fr:=⟨_,rfl⟩
 have hl3:T3.length≤140737488000300:=by have:=(numY_len fr).1;rw [hT3,List.length_append];omega
 go_at_call 25
 refine (HPN.out _ _ _ _ fr _ HS.out hT3 (by omega) ?_).mono ?_
 · first | rfl | (rw [IntKind.wrap_u64];unfold u64;omega) | (have:=HO.out;unfold u64;omega) | (unfold u64;omega)
 rintro e w4 ⟨a3,c3,rfl,hz⟩
 replace HS:=Lib.hid hz
 have HT3:=Lib.hid hT3
 clear hz hT3 hl2 z0 z1 z2 z3 z4 z5 z6 z7 z8
 obtain rfl:F=T3:=by
  rw [HF.out,HT3.out,HT2.out,HT1.out]
  simp
 have HZ:=Lib.hid (HTR.out _ _ _ HS.out)
 go_wp2_with fail
 go_ret
 exact ⟨_,_,rfl,HZ.out⟩
theorem r_puti8 {w:World} {bx:Nat} {v:Value} {txt:List UInt8} (h:ByQ w bx v txt w) (o d a b ad tt wd fr:Int) (hg:rgI (⟨8,o,d,a,b,ad,tt,wd,fr⟩:Ins)) (hlen:txt.length≤140737488000000):Calls Tryz.prog 27 #[v,.agg #[.int .u8 8,.int .u8 o,.int .i64 d,.int .i64 a,.int .i64 b,.int .i64 ad,.int .i64 tt,.int .i64 wd,.int .i64 fr]] w fun e w'=>∃ x c,e=.returned (.slice x (txt++insY (⟨8,o,d,a,b,ad,tt,wd,fr⟩:Ins)).length c)∧ByQ w bx (.slice x (txt++insY (⟨8,o,d,a,b,ad,tt,wd,fr⟩:Ins)).length c) (txt++insY (⟨8,o,d,a,b,ad,tt,wd,fr⟩:Ins)) w':=by
 obtain ⟨F,hF⟩:∃ t,t=txt++insY (⟨8,o,d,a,b,ad,tt,wd,fr⟩:Ins):=⟨_,rfl⟩
 rw [← hF]
 have hF2:F=txt++(numY 8++([])++(((((([])++([]))++([]))++([]))++(numY tt))++([]))++numY fr):=by
  rw [hF,ins_byt _ (show kB 8=true by decide)]
  rfl
 obtain ⟨a0,c0,rfl⟩:=row_slice h.own
 obtain ⟨_,ho,hd,ha,hb0,had,htt,hwd,hfr2⟩:=hg
 simp only at ho hd ha hb0 had htt hwd hfr2
 have HWD:=Lib.hid hwd
 have HPN:Hid (∀ (X:World) (v:Value) (T T':List UInt8) (x n:Int),ByQ w bx v T X→T'=T++numY x→T.length≤140737488300000→n=((u64 x:Nat):Int)→Calls Tryz.prog 25 #[v,.int .u64 n] X fun e w'=>∃ a c,e=.returned (.slice a T'.length c)∧ByQ w bx (.slice a T'.length c) T' w'):=fun X v T T' x n h e hl hn=>by
  subst e hn
  exact (rputn_any h.new (u64 x) (by unfold u64;omega) (by omega)).mono fun _ _ ⟨a,c,h1,h2⟩=>⟨a,c,h1,h.trans h2⟩
 have O0:=Own.new w 75 #[.int .u8 8,.int .u8 o,.int .i64 d,.int .i64 a,.int .i64 b,.int .i64 ad,.int .i64 tt,.int .i64 wd,.int .i64 fr]
 have HQ:=Lib.hid (h.below ((Below.refl w.heap.size w).alloc (Nat.le_refl _) (.cells #[.int .u8 8,.int .u8 o,.int .i64 d,.int .i64 a,.int .i64 b,.int .i64 ad,.int .i64 tt,.int .i64 wd,.int .i64 fr] 75)))
 obtain ⟨W0,hW0⟩:∃ W,W=w.alloc (.cells #[.int .u8 8,.int .u8 o,.int .i64 d,.int .i64 a,.int .i64 b,.int .i64 ad,.int .i64 tt,.int .i64 wd,.int .i64 fr] 75):=⟨_,rfl⟩
 rw [← hW0] at O0 HQ
 have HW0:=Lib.hid hW0
 have HBX:Hid (∀ X v T,ByQ W0 bx v T X→Own X w.heap.size 75 #[.int .u8 8,.int .u8 o,.int .i64 d,.int .i64 a,.int .i64 b,.int .i64 ad,.int .i64 tt,.int .i64 wd,.int .i64 fr]):=fun X v T h=>h.box O0 nu_I
 have HS:Hid (ByQ W0 bx (.slice a0 txt.length c0) txt W0):=HQ.out.new
 have HTR:Hid (∀ X v T,ByQ W0 bx v T X→ByQ w bx v T X):=fun X v T h=>HQ.out.trans h
 replace HPN:Hid (∀ (X:World) (v:Value) (T T':List UInt8) (x n:Int),ByQ W0 bx v T X→T'=T++numY x→T.length≤140737488300000→n=((u64 x:Nat):Int)→Calls Tryz.prog 25 #[v,.int .u64 n] X fun e w'=>∃ a c,e=.returned (.slice a T'.length c)∧ByQ W0 bx (.slice a T'.length c) T' w'):=fun X v T T' x n h e hl hn=>by
  subst e hn
  exact (rputn_any h.new (u64 x) (by unfold u64;omega) (by omega)).mono fun _ _ ⟨a,c,h1,h2⟩=>⟨a,c,h1,h.trans h2⟩
 have HF:=Lib.hid hF2
 have HO:=Lib.hid ho
 clear hF hF2 hW0 h HQ O0 ho hd ha hb0 had htt hwd hfr2
 go_enter Tryz.func27,Tryz.ntmps27
 go_upto_region 1 with fail
 rw [← HW0.out]
 clear HW0
 have z0:=row_e9 (HBX.out _ _ _ HS.out) 0 _ rfl
 have z1:=row_e9 (HBX.out _ _ _ HS.out) 1 _ rfl
 have z2:=row_e9 (HBX.out _ _ _ HS.out) 2 _ rfl
 have z3:=row_e9 (HBX.out _ _ _ HS.out) 3 _ rfl
 have z4:=row_e9 (HBX.out _ _ _ HS.out) 4 _ rfl
 have z5:=row_e9 (HBX.out _ _ _ HS.out) 5 _ rfl
 have z6:=row_e9 (HBX.out _ _ _ HS.out) 6 _ rfl
 have z7:=row_e9 (HBX.out _ _ _ HS.out) 7 _ rfl
 have z8:=row_e9 (HBX.out _ _ _ HS.out) 8 _ rfl
 have hl0:=hlen
 go_wp2_with (go_at_call 68;refine (r_uses8 _).mono ?_;rintro e w' ⟨rfl,rfl⟩)
 obtain ⟨T1,hT1⟩:∃ t:List UInt8,t=txt++numY 8:=⟨_,rfl⟩
 have hl1:T1.length≤140737488000100:=by have:=(numY_len 8).1;rw [hT1,List.length_append];omega
 go_at_call 25
 refine (HPN.out _ _ _ _ 8 _ HS.out hT1 (by omega) ?_).mono ?_
 · first | rfl | (rw [IntKind.wrap_u64];unfold u64;omega) | (have:=HO.out;unfold u64;omega) | (unfold u64;omega)
 rintro e w2 ⟨a1,c1,rfl,hz⟩
 replace HS:=Lib.hid hz
 have HT1:=Lib.hid hT1
 clear hz hT1 hl0 z0 z1 z2 z3 z4 z5 z6 z7 z8
 have z0:=row_e9 (HBX.out _ _ _ HS.out) 0 _ rfl
 have z1:=row_e9 (HBX.out _ _ _ HS.out) 1 _ rfl
 have z2:=row_e9 (HBX.out _ _ _ HS.out) 2 _ rfl
 have z3:=row_e9 (HBX.out _ _ _ HS.out) 3 _ rfl
 have z4:=row_e9 (HBX.out _ _ _ HS.out) 4 _ rfl
 have z5:=row_e9 (HBX.out _ _ _ HS.out) 5 _ rfl
 have z6:=row_e9 (HBX.out _ _ _ HS.out) 6 _ rfl
 have z7:=row_e9 (HBX.out _ _ _ HS.out) 7 _ rfl
 have z8:=row_e9 (HBX.out _ _ _ HS.out) 8 _ rfl
 go_wp2_with (go_at_call 68;refine (r_uses8 _).mono ?_;rintro e w' ⟨rfl,rfl⟩)
 obtain ⟨T2,hT2⟩:∃ t:List UInt8,t=T1++numY tt:=⟨_,rfl⟩
 have hl2:T2.length≤140737488000200:=by have:=(numY_len tt).1;rw [hT2,List.length_append];omega
 go_at_call 25
 refine (HPN.out _ _ _ _ tt _ HS.out hT2 (by omega) ?_).mono ?_
 · first | rfl | (rw [IntKind.wrap_u64];unfold u64;omega) | (have:=HO.out;unfold u64;omega) | (unfold u64;omega)
 rintro e w3 ⟨a2,c2,rfl,hz⟩
 replace HS:=Lib.hid hz
 have HT2:=Lib.hid hT2
 clear hz hT2 hl1 z0 z1 z2 z3 z4 z5 z6 z7 z8
 have z0:=row_e9 (HBX.out _ _ _ HS.out) 0 _ rfl
 have z1:=row_e9 (HBX.out _ _ _ HS.out) 1 _ rfl
 have z2:=row_e9 (HBX.out _ _ _ HS.out) 2 _ rfl
 have z3:=row_e9 (HBX.out _ _ _ HS.out) 3 _ rfl
 have z4:=row_e9 (HBX.out _ _ _ HS.out) 4 _ rfl
 have z5:=row_e9 (HBX.out _ _ _ HS.out) 5 _ rfl
 have z6:=row_e9 (HBX.out _ _ _ HS.out) 6 _ rfl
 have z7:=row_e9 (HBX.out _ _ _ HS.out) 7 _ rfl
 have z8:=row_e9 (HBX.out _ _ _ HS.out) 8 _ rfl
 go_wp2_with (go_at_call 68;refine (r_uses8 _).mono ?_;rintro e w' ⟨rfl,rfl⟩)
 obtain ⟨T3,hT3⟩:∃ t:List UInt8,t=T2++numY fr:=⟨_,rfl⟩
 have hl3:T3.length≤140737488000300:=by have:=(numY_len fr).1;rw [hT3,List.length_append];omega
 go_at_call 25
 refine (HPN.out _ _ _ _ fr _ HS.out hT3 (by omega) ?_).mono ?_
 · first | rfl | (rw [IntKind.wrap_u64];unfold u64;omega) | (have:=HO.out;unfold u64;omega) | (unfold u64;omega)
 rintro e w4 ⟨a3,c3,rfl,hz⟩
 replace HS:=Lib.hid hz
 have HT3:=Lib.hid hT3
 clear hz hT3 hl2 z0 z1 z2 z3 z4 z5 z6 z7 z8
 obtain rfl:F=T3:=by
  rw [HF.out,HT3.out,HT2.out,HT1.out]
  simp
 have HZ:=Lib.hid (HTR.out _ _ _ HS.out)
 go_wp2_with fail
 go_ret
 exact ⟨_,_,rfl,HZ.out⟩
theorem r_puti9 {w:World} {bx:Nat} {v:Value} {txt:List UInt8} (h:ByQ w bx v txt w) (o d a b ad tt wd fr:Int) (hg:rgI (⟨9,o,d,a,b,ad,tt,wd,fr⟩:Ins)) (hlen:txt.length≤140737488000000):Calls Tryz.prog 27 #[v,.agg #[.int .u8 9,.int .u8 o,.int .i64 d,.int .i64 a,.int .i64 b,.int .i64 ad,.int .i64 tt,.int .i64 wd,.int .i64 fr]] w fun e w'=>∃ x c,e=.returned (.slice x (txt++insY (⟨9,o,d,a,b,ad,tt,wd,fr⟩:Ins)).length c)∧ByQ w bx (.slice x (txt++insY (⟨9,o,d,a,b,ad,tt,wd,fr⟩:Ins)).length c) (txt++insY (⟨9,o,d,a,b,ad,tt,wd,fr⟩:Ins)) w':=by
 obtain ⟨F,hF⟩:∃ t,t=txt++insY (⟨9,o,d,a,b,ad,tt,wd,fr⟩:Ins):=⟨_,rfl⟩
 rw [← hF]
 have hF2:F=txt++(numY 9++([])++(((((([])++(numY a))++([]))++([]))++(numY tt))++([]))++numY fr):=by
  rw [hF,ins_byt _ (show kB 9=true by decide)]
  rfl
 obtain ⟨a0,c0,rfl⟩:=row_slice h.own
 obtain ⟨_,ho,hd,ha,hb0,had,htt,hwd,hfr2⟩:=hg
 simp only at ho hd ha hb0 had htt hwd hfr2
 have HWD:=Lib.hid hwd
 have HPN:Hid (∀ (X:World) (v:Value) (T T':List UInt8) (x n:Int),ByQ w bx v T X→T'=T++numY x→T.length≤140737488300000→n=((u64 x:Nat):Int)→Calls Tryz.prog 25 #[v,.int .u64 n] X fun e w'=>∃ a c,e=.returned (.slice a T'.length c)∧ByQ w bx (.slice a T'.length c) T' w'):=fun X v T T' x n h e hl hn=>by
  subst e hn
  exact (rputn_any h.new (u64 x) (by unfold u64;omega) (by omega)).mono fun _ _ ⟨a,c,h1,h2⟩=>⟨a,c,h1,h.trans h2⟩
 have O0:=Own.new w 75 #[.int .u8 9,.int .u8 o,.int .i64 d,.int .i64 a,.int .i64 b,.int .i64 ad,.int .i64 tt,.int .i64 wd,.int .i64 fr]
 have HQ:=Lib.hid (h.below ((Below.refl w.heap.size w).alloc (Nat.le_refl _) (.cells #[.int .u8 9,.int .u8 o,.int .i64 d,.int .i64 a,.int .i64 b,.int .i64 ad,.int .i64 tt,.int .i64 wd,.int .i64 fr] 75)))
 obtain ⟨W0,hW0⟩:∃ W,W=w.alloc (.cells #[.int .u8 9,.int .u8 o,.int .i64 d,.int .i64 a,.int .i64 b,.int .i64 ad,.int .i64 tt,.int .i64 wd,.int .i64 fr] 75):=⟨_,rfl⟩
 rw [← hW0] at O0 HQ
 have HW0:=Lib.hid hW0
 have HBX:Hid (∀ X v T,ByQ W0 bx v T X→Own X w.heap.size 75 #[.int .u8 9,.int .u8 o,.int .i64 d,.int .i64 a,.int .i64 b,.int .i64 ad,.int .i64 tt,.int .i64 wd,.int .i64 fr]):=fun X v T h=>h.box O0 nu_I
 have HS:Hid (ByQ W0 bx (.slice a0 txt.length c0) txt W0):=HQ.out.new
 have HTR:Hid (∀ X v T,ByQ W0 bx v T X→ByQ w bx v T X):=fun X v T h=>HQ.out.trans h
 replace HPN:Hid (∀ (X:World) (v:Value) (T T':List UInt8) (x n:Int),ByQ W0 bx v T X→T'=T++numY x→T.length≤140737488300000→n=((u64 x:Nat):Int)→Calls Tryz.prog 25 #[v,.int .u64 n] X fun e w'=>∃ a c,e=.returned (.slice a T'.length c)∧ByQ W0 bx (.slice a T'.length c) T' w'):=fun X v T T' x n h e hl hn=>by
  subst e hn
  exact (rputn_any h.new (u64 x) (by unfold u64;omega) (by omega)).mono fun _ _ ⟨a,c,h1,h2⟩=>⟨a,c,h1,h.trans h2⟩
 have HF:=Lib.hid hF2
 have HO:=Lib.hid ho
 clear hF hF2 hW0 h HQ O0 ho hd ha hb0 had htt hwd hfr2
 go_enter Tryz.func27,Tryz.ntmps27
 go_upto_region 1 with fail
 rw [← HW0.out]
 clear HW0
 have z0:=row_e9 (HBX.out _ _ _ HS.out) 0 _ rfl
 have z1:=row_e9 (HBX.out _ _ _ HS.out) 1 _ rfl
 have z2:=row_e9 (HBX.out _ _ _ HS.out) 2 _ rfl
 have z3:=row_e9 (HBX.out _ _ _ HS.out) 3 _ rfl
 have z4:=row_e9 (HBX.out _ _ _ HS.out) 4 _ rfl
 have z5:=row_e9 (HBX.out _ _ _ HS.out) 5 _ rfl
 have z6:=row_e9 (HBX.out _ _ _ HS.out) 6 _ rfl
 have z7:=row_e9 (HBX.out _ _ _ HS.out) 7 _ rfl
 have z8:=row_e9 (HBX.out _ _ _ HS.out) 8 _ rfl
 have hl0:=hlen
 go_wp2_with (go_at_call 68;refine (r_uses9 _).mono ?_;rintro e w' ⟨rfl,rfl⟩)
 obtain ⟨T1,hT1⟩:∃ t:List UInt8,t=txt++numY 9:=⟨_,rfl⟩
 have hl1:T1.length≤140737488000100:=by have:=(numY_len 9).1;rw [hT1,List.length_append];omega
 go_at_call 25
 refine (HPN.out _ _ _ _ 9 _ HS.out hT1 (by omega) ?_).mono ?_
 · first | rfl | (rw [IntKind.wrap_u64];unfold u64;omega) | (have:=HO.out;unfold u64;omega) | (unfold u64;omega)
 rintro e w2 ⟨a1,c1,rfl,hz⟩
 replace HS:=Lib.hid hz
 have HT1:=Lib.hid hT1
 clear hz hT1 hl0 z0 z1 z2 z3 z4 z5 z6 z7 z8
 have z0:=row_e9 (HBX.out _ _ _ HS.out) 0 _ rfl
 have z1:=row_e9 (HBX.out _ _ _ HS.out) 1 _ rfl
 have z2:=row_e9 (HBX.out _ _ _ HS.out) 2 _ rfl
 have z3:=row_e9 (HBX.out _ _ _ HS.out) 3 _ rfl
 have z4:=row_e9 (HBX.out _ _ _ HS.out) 4 _ rfl
 have z5:=row_e9 (HBX.out _ _ _ HS.out) 5 _ rfl
 have z6:=row_e9 (HBX.out _ _ _ HS.out) 6 _ rfl
 have z7:=row_e9 (HBX.out _ _ _ HS.out) 7 _ rfl
 have z8:=row_e9 (HBX.out _ _ _ HS.out) 8 _ rfl
 go_wp2_with (go_at_call 68;refine (r_uses9 _).mono ?_;rintro e w' ⟨rfl,rfl⟩)
 obtain ⟨T2,hT2⟩:∃ t:List UInt8,t=T1++numY a:=⟨_,rfl⟩
 have hl2:T2.length≤140737488000200:=by have:=(numY_len a).1;rw [hT2,List.length_append];omega
 go_at_call 25
 refine (HPN.out _ _ _ _ a _ HS.out hT2 (by omega) ?_).mono ?_
 · first | rfl | (rw [IntKind.wrap_u64];unfold u64;omega) | (have:=HO.out;unfold u64;omega) | (unfold u64;omega)
 rintro e w3 ⟨a2,c2,rfl,hz⟩
 replace HS:=Lib.hid hz
 have HT2:=Lib.hid hT2
 clear hz hT2 hl1 z0 z1 z2 z3 z4 z5 z6 z7 z8
 have z0:=row_e9 (HBX.out _ _ _ HS.out) 0 _ rfl
 have z1:=row_e9 (HBX.out _ _ _ HS.out) 1 _ rfl
 have z2:=row_e9 (HBX.out _ _ _ HS.out) 2 _ rfl
 have z3:=row_e9 (HBX.out _ _ _ HS.out) 3 _ rfl
 have z4:=row_e9 (HBX.out _ _ _ HS.out) 4 _ rfl
 have z5:=row_e9 (HBX.out _ _ _ HS.out) 5 _ rfl
 have z6:=row_e9 (HBX.out _ _ _ HS.out) 6 _ rfl
 have z7:=row_e9 (HBX.out _ _ _ HS.out) 7 _ rfl
 have z8:=row_e9 (HBX.out _ _ _ HS.out) 8 _ rfl
 go_wp2_with (go_at_call 68;refine (r_uses9 _).mono ?_;rintro e w' ⟨rfl,rfl⟩)
 obtain ⟨T3,hT3⟩:∃ t:List UInt8,t=T2++numY tt:=⟨_,rfl⟩
 have hl3:T3.length≤140737488000300:=by have:=(numY_len tt).1;rw [hT3,List.length_append];omega
 go_at_call 25
 refine (HPN.out _ _ _ _ tt _ HS.out hT3 (by omega) ?_).mono ?_
 · first | rfl | (rw [IntKind.wrap_u64];unfold u64;omega) | (have:=HO.out;unfold u64;omega) | (unfold u64;omega)
 rintro e w4 ⟨a3,c3,rfl,hz⟩
 replace HS:=Lib.hid hz
 have HT3:=Lib.hid hT3
 clear hz hT3 hl2 z0 z1 z2 z3 z4 z5 z6 z7 z8
 have z0:=row_e9 (HBX.out _ _ _ HS.out) 0 _ rfl
 have z1:=row_e9 (HBX.out _ _ _ HS.out) 1 _ rfl
 have z2:=row_e9 (HBX.out _ _ _ HS.out) 2 _ rfl
 have z3:=row_e9 (HBX.out _ _ _ HS.out) 3 _ rfl
 have z4:=row_e9 (HBX.out _ _ _ HS.out) 4 _ rfl
 have z5:=row_e9 (HBX.out _ _ _ HS.out) 5 _ rfl
 have z6:=row_e9 (HBX.out _ _ _ HS.out) 6 _ rfl
 have z7:=row_e9 (HBX.out _ _ _ HS.out) 7 _ rfl
 have z8:=row_e9 (HBX.out _ _ _ HS.out) 8 _ rfl
 go_wp2_with (go_at_call 68;refine (r_uses9 _).mono ?_;rintro e w' ⟨rfl,rfl⟩)
 obtain ⟨T4,hT4⟩:∃ t:List UInt8,t=T3++numY fr:=⟨_,rfl⟩
 have hl4:T4.length≤140737488000400:=by have:=(numY_len fr).1;rw [hT4,List.length_append];omega
 go_at_call 25
 refine (HPN.out _ _ _ _ fr _ HS.out hT4 (by omega) ?_).mono ?_
 · first | rfl | (rw [IntKind.wrap_u64];unfold u64;omega) | (have:=HO.out;unfold u64;omega) | (unfold u64;omega)
 rintro e w5 ⟨a4,c4,rfl,hz⟩
 replace HS:=Lib.hid hz
 have HT4:=Lib.hid hT4
 clear hz hT4 hl3 z0 z1 z2 z3 z4 z5 z6 z7 z8
 obtain rfl:F=T4:=by
  rw [HF.out,HT4.out,HT3.out,HT2.out,HT1.out]
  simp
 have HZ:=Lib.hid (HTR.out _ _ _ HS.out)
 go_wp2_with fail
 go_ret
 exact ⟨_,_,rfl,HZ.out⟩
theorem r_puti10 {w:World} {bx:Nat} {v:Value} {txt:List UInt8} (h:ByQ w bx v txt w) (o d a b ad tt wd fr:Int) (hg:rgI (⟨10,o,d,a,b,ad,tt,wd,fr⟩:Ins)) (hlen:txt.length≤140737488000000):Calls Tryz.prog 27 #[v,.agg #[.int .u8 10,.int .u8 o,.int .i64 d,.int .i64 a,.int .i64 b,.int .i64 ad,.int .i64 tt,.int .i64 wd,.int .i64 fr]] w fun e w'=>∃ x c,e=.returned (.slice x (txt++insY (⟨10,o,d,a,b,ad,tt,wd,fr⟩:Ins)).length c)∧ByQ w bx (.slice x (txt++insY (⟨10,o,d,a,b,ad,tt,wd,fr⟩:Ins)).length c) (txt++insY (⟨10,o,d,a,b,ad,tt,wd,fr⟩:Ins)) w':=by
 obtain ⟨F,hF⟩:∃ t,t=txt++insY (⟨10,o,d,a,b,ad,tt,wd,fr⟩:Ins):=⟨_,rfl⟩
 rw [← hF]
 have hF2:F=txt++(numY 10++([])++(((((([])++([]))++([]))++([]))++([]))++([]))++numY fr):=by
  rw [hF,ins_byt _ (show kB 10=true by decide)]
  rfl
 obtain ⟨a0,c0,rfl⟩:=row_slice h.own
 obtain ⟨_,ho,hd,ha,hb0,had,htt,hwd,hfr2⟩:=hg
 simp only at ho hd ha hb0 had htt hwd hfr2
 have HWD:=Lib.hid hwd
 have HPN:Hid (∀ (X:World) (v:Value) (T T':List UInt8) (x n:Int),ByQ w bx v T X→T'=T++numY x→T.length≤140737488300000→n=((u64 x:Nat):Int)→Calls Tryz.prog 25 #[v,.int .u64 n] X fun e w'=>∃ a c,e=.returned (.slice a T'.length c)∧ByQ w bx (.slice a T'.length c) T' w'):=fun X v T T' x n h e hl hn=>by
  subst e hn
  exact (rputn_any h.new (u64 x) (by unfold u64;omega) (by omega)).mono fun _ _ ⟨a,c,h1,h2⟩=>⟨a,c,h1,h.trans h2⟩
 have O0:=Own.new w 75 #[.int .u8 10,.int .u8 o,.int .i64 d,.int .i64 a,.int .i64 b,.int .i64 ad,.int .i64 tt,.int .i64 wd,.int .i64 fr]
 have HQ:=Lib.hid (h.below ((Below.refl w.heap.size w).alloc (Nat.le_refl _) (.cells #[.int .u8 10,.int .u8 o,.int .i64 d,.int .i64 a,.int .i64 b,.int .i64 ad,.int .i64 tt,.int .i64 wd,.int .i64 fr] 75)))
 obtain ⟨W0,hW0⟩:∃ W,W=w.alloc (.cells #[.int .u8 10,.int .u8 o,.int .i64 d,.int .i64 a,.int .i64 b,.int .i64 ad,.int .i64 tt,.int .i64 wd,.int .i64 fr] 75):=⟨_,rfl⟩
 rw [← hW0] at O0 HQ
 have HW0:=Lib.hid hW0
 have HBX:Hid (∀ X v T,ByQ W0 bx v T X→Own X w.heap.size 75 #[.int .u8 10,.int .u8 o,.int .i64 d,.int .i64 a,.int .i64 b,.int .i64 ad,.int .i64 tt,.int .i64 wd,.int .i64 fr]):=fun X v T h=>h.box O0 nu_I
 have HS:Hid (ByQ W0 bx (.slice a0 txt.length c0) txt W0):=HQ.out.new
 have HTR:Hid (∀ X v T,ByQ W0 bx v T X→ByQ w bx v T X):=fun X v T h=>HQ.out.trans h
 replace HPN:Hid (∀ (X:World) (v:Value) (T T':List UInt8) (x n:Int),ByQ W0 bx v T X→T'=T++numY x→T.length≤140737488300000→n=((u64 x:Nat):Int)→Calls Tryz.prog 25 #[v,.int .u64 n] X fun e w'=>∃ a c,e=.returned (.slice a T'.length c)∧ByQ W0 bx (.slice a T'.length c) T' w'):=fun X v T T' x n h e hl hn=>by
  subst e hn
  exact (rputn_any h.new (u64 x) (by unfold u64;omega) (by omega)).mono fun _ _ ⟨a,c,h1,h2⟩=>⟨a,c,h1,h.trans h2⟩
 have HF:=Lib.hid hF2
 have HO:=Lib.hid ho
 clear hF hF2 hW0 h HQ O0 ho hd ha hb0 had htt hwd hfr2
 go_enter Tryz.func27,Tryz.ntmps27
 go_upto_region 1 with fail
 rw [← HW0.out]
 clear HW0
 have z0:=row_e9 (HBX.out _ _ _ HS.out) 0 _ rfl
 have z1:=row_e9 (HBX.out _ _ _ HS.out) 1 _ rfl
 have z2:=row_e9 (HBX.out _ _ _ HS.out) 2 _ rfl
 have z3:=row_e9 (HBX.out _ _ _ HS.out) 3 _ rfl
 have z4:=row_e9 (HBX.out _ _ _ HS.out) 4 _ rfl
 have z5:=row_e9 (HBX.out _ _ _ HS.out) 5 _ rfl
 have z6:=row_e9 (HBX.out _ _ _ HS.out) 6 _ rfl
 have z7:=row_e9 (HBX.out _ _ _ HS.out) 7 _ rfl
 have z8:=row_e9 (HBX.out _ _ _ HS.out) 8 _ rfl
 have hl0:=hlen
 go_wp2_with (go_at_call 68;refine (r_uses10 _).mono ?_;rintro e w' ⟨rfl,rfl⟩)
 obtain ⟨T1,hT1⟩:∃ t:List UInt8,t=txt++numY 10:=⟨_,rfl⟩
 have hl1:T1.length≤140737488000100:=by have:=(numY_len 10).1;rw [hT1,List.length_append];omega
 go_at_call 25
 refine (HPN.out _ _ _ _ 10 _ HS.out hT1 (by omega) ?_).mono ?_
 · first | rfl | (rw [IntKind.wrap_u64];unfold u64;omega) | (have:=HO.out;unfold u64;omega) | (unfold u64;omega)
 rintro e w2 ⟨a1,c1,rfl,hz⟩
 replace HS:=Lib.hid hz
 have HT1:=Lib.hid hT1
 clear hz hT1 hl0 z0 z1 z2 z3 z4 z5 z6 z7 z8
 have z0:=row_e9 (HBX.out _ _ _ HS.out) 0 _ rfl
 have z1:=row_e9 (HBX.out _ _ _ HS.out) 1 _ rfl
 have z2:=row_e9 (HBX.out _ _ _ HS.out) 2 _ rfl
 have z3:=row_e9 (HBX.out _ _ _ HS.out) 3 _ rfl
 have z4:=row_e9 (HBX.out _ _ _ HS.out) 4 _ rfl
 have z5:=row_e9 (HBX.out _ _ _ HS.out) 5 _ rfl
 have z6:=row_e9 (HBX.out _ _ _ HS.out) 6 _ rfl
 have z7:=row_e9 (HBX.out _ _ _ HS.out) 7 _ rfl
 have z8:=row_e9 (HBX.out _ _ _ HS.out) 8 _ rfl
 go_wp2_with (go_at_call 68;refine (r_uses10 _).mono ?_;rintro e w' ⟨rfl,rfl⟩)
 obtain ⟨T2,hT2⟩:∃ t:List UInt8,t=T1++numY fr:=⟨_,rfl⟩
 have hl2:T2.length≤140737488000200:=by have:=(numY_len fr).1;rw [hT2,List.length_append];omega
 go_at_call 25
 refine (HPN.out _ _ _ _ fr _ HS.out hT2 (by omega) ?_).mono ?_
 · first | rfl | (rw [IntKind.wrap_u64];unfold u64;omega) | (have:=HO.out;unfold u64;omega) | (unfold u64;omega)
 rintro e w3 ⟨a2,c2,rfl,hz⟩
 replace HS:=Lib.hid hz
 have HT2:=Lib.hid hT2
 clear hz hT2 hl1 z0 z1 z2 z3 z4 z5 z6 z7 z8
 obtain rfl:F=T2:=by
  rw [HF.out,HT2.out,HT1.out]
  simp
 have HZ:=Lib.hid (HTR.out _ _ _ HS.out)
 go_wp2_with fail
 go_ret
 exact ⟨_,_,rfl,HZ.out⟩
theorem rputi_any {w:World} {bx:Nat} {v:Value} {txt:List UInt8} (h:ByQ w bx v txt w) (i:Ins) (hg:rgI i) (hk:kB i.k=true) (hlen:txt.length≤140737488000000):Calls Tryz.prog 27 #[v,insV i] w fun e w'=>∃ x c,e=.returned (.slice x (txt++insY i).length c)∧ByQ w bx (.slice x (txt++insY i).length c) (txt++insY i) w':=by
 obtain ⟨k,o,d,a,b,ad,tt,wd,fr⟩:=i
 rcases kB_iff.1 hk with e | e | e | e | e | e | e | e | e | e
 · obtain rfl : k = 1 := e
   exact r_puti1 h o d a b ad tt wd fr hg hlen
 · obtain rfl : k = 2 := e
   exact r_puti2 h o d a b ad tt wd fr hg hlen
 · obtain rfl : k = 3 := e
   exact r_puti3 h o d a b ad tt wd fr hg hlen
 · obtain rfl : k = 4 := e
   exact r_puti4 h o d a b ad tt wd fr hg hlen
 · obtain rfl : k = 5 := e
   exact r_puti5 h o d a b ad tt wd fr hg hlen
 · obtain rfl : k = 6 := e
   exact r_puti6 h o d a b ad tt wd fr hg hlen
 · obtain rfl : k = 7 := e
   exact r_puti7 h o d a b ad tt wd fr hg hlen
 · obtain rfl : k = 8 := e
   exact r_puti8 h o d a b ad tt wd fr hg hlen
 · obtain rfl : k = 9 := e
   exact r_puti9 h o d a b ad tt wd fr hg hlen
 · obtain rfl : k = 10 := e
   exact r_puti10 h o d a b ad tt wd fr hg hlen
end Go.Proofs.YtmpljhfinmfnbaaGreatDoor

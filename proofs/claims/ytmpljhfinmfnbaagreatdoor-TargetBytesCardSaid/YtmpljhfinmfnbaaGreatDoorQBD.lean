/- The proof, part 30: texts that belong together, in one. -/
import Derived.Test.YtmpljhfinmfnbaaGreatDoorQBA
import Derived.Test.YtmpljhfinmfnbaaGreatDoorQBC
set_option maxRecDepth 100000
set_option maxHeartbeats 20000000
namespace Go.Proofs.YtmpljhfinmfnbaaGreatDoor
open Go.RowKit
set_option linter.unusedVariables false
set_option linter.unusedSimpArgs false
set_option maxRecDepth 100000
def insD (code mem:Int) (s:Bst):Ins × Bst :=
 let k:=smR 11 s
 let o:=optR (k.1==2) (smR 19) k.2
 let d:=optR (dB k.1) (smR 16) o.2
 let a:=optR (aB k.1) (smR 16) d.2
 let b:=optR (bB k.1 o.1) (smR 16) a.2
 let wd:=optR (k.1==1) wdR b.2
 let ad:=optR (adB k.1) (smR mem) wd.2
 let tt:=optR (toB k.1) (smR code) ad.2
 let fr:=smR 4096 tt.2
 (⟨k.1,o.1,d.1,a.1,b.1,ad.1,tt.1,wd.1,fr.1⟩,fr.2)
structure I2 (w:World) (p:Nat) (L:List UInt8) (a:Option Addr) (c g q:Nat) (s:Bst) (row zrow:Array Value) (W:World):Prop where
 st:Rds w p L a c s W
 own:Own W q 75 row
 res:Own W g 75 zrow
 hg:p<g
 hw:w.heap.size≤g
 hgq:g<q
section
variable {w W W':World} {p:Nat} {L:List UInt8} {a:Option Addr} {c g q:Nat} {s t:Bst} {row zrow:Array Value}
theorem I2.call (h:I2 w p L a c g q s row zrow W) (k:Rds W p L a c t W'):I2 w p L a c g q t row zrow W':=⟨h.st.trans k,k.other h.own (by have:=h.hg;have:=h.hgq;omega),k.other h.res (by have:=h.hg;omega),h.hg,h.hw,h.hgq⟩
theorem I2.store (h:I2 w p L a c g q s row zrow W) (o:Nat) (v:Value):I2 w p L a c g q s (row.setIfInBounds o v) zrow (W.setCell ⟨q,o,none⟩ v):=by
 have hO:=heap_setCell_same W q o _ _ v h.own
 have hK:Keep (fun k _=>k≠q) W (W.setCell ⟨q,o,none⟩ v):=(Keep.refl _ _).setCell (p:=⟨q,o,none⟩) _ h.own (fun z=>z rfl)
 obtain ⟨m,d,e,hs⟩:=h.st
 have hg:=h.hg
 have hw:=h.hw
 have hgq:=h.hgq
 have hb:∀ k,k≠q→(W.setCell ⟨q,o,none⟩ v).heap[k]? = W.heap[k]?:=fun k hk=>Below.heap_setCell W ⟨q,o,none⟩ v k hk
 refine ⟨⟨m,d,e,hs.st.keep fun k hk=>hb k (by omega),?_⟩,hO,hK.block _ _ h.res (by omega),h.hg,h.hw,h.hgq⟩
 refine ⟨hK.os.trans hs.keep.os,hK.tape.trans hs.keep.tape,hK.output.trans hs.keep.output,Nat.le_trans hs.keep.size hK.size,fun k o hk hsel=>(hb k ?_).trans (hs.keep.block k o hk hsel)⟩
 have:=(Array.getElem?_eq_some_iff.1 hk).1
 omega
theorem I2.put (h:I2 w p L a c g q s row zrow W) (o:Nat) (v:Value):I2 w p L a c g q s row (zrow.setIfInBounds o v) (W.setCell ⟨g,o,none⟩ v):=by
 have hO:=heap_setCell_same W g o _ _ v h.res
 have hK:Keep (fun k _=>k≠g) W (W.setCell ⟨g,o,none⟩ v):=(Keep.refl _ _).setCell (p:=⟨g,o,none⟩) _ h.res (fun z=>z rfl)
 obtain ⟨m,d,e,hs⟩:=h.st
 have hg:=h.hg
 have hw:=h.hw
 have hgq:=h.hgq
 have hb:∀ k,k≠g→(W.setCell ⟨g,o,none⟩ v).heap[k]? = W.heap[k]?:=fun k hk=>Below.heap_setCell W ⟨g,o,none⟩ v k hk
 refine ⟨⟨m,d,e,hs.st.keep fun k hk=>hb k (by omega),?_⟩,hK.block _ _ h.own (by omega),hO,h.hg,h.hw,h.hgq⟩
 refine ⟨hK.os.trans hs.keep.os,hK.tape.trans hs.keep.tape,hK.output.trans hs.keep.output,Nat.le_trans hs.keep.size hK.size,fun k o hk hsel=>(hb k ?_).trans (hs.keep.block k o hk hsel)⟩
 have:=(Array.getElem?_eq_some_iff.1 hk).1
 omega
theorem I2.cell (h:I2 w p L a c g q s row zrow W) (j:Nat) (v:Value) (hj:row[j]? = some v):W.cell? ⟨q,j,none⟩=some v:=by
 rw [cell_of_row _ _ j _ _ _ h.own]
 exact hj
end
theorem r_uses11 (w:World):Calls Tryz.prog 68 #[.int .u8 11] w fun e w'=>e=.returned (.tuple #[.bool false,.bool false,.bool false,.bool false])∧w=w':=by
 go_enter Tryz.func68,Tryz.ntmps68
 go_wp2
 refine bodyPost_ret (results_tmp4 rfl _ _ _) rfl ?_
 exact ⟨rfl,rfl⟩
theorem rdi_0 {w:World} {p:Nat} {L:List UInt8} {a:Option Addr} {c:Nat} {s:Bst} (h:Rst p L a c s w) (code mem:Int) (hc:0≤code∧code≤1000000) (hm:0≤mem∧mem≤1000000) (hk:(smR 11 s).1=0):Calls Tryz.prog 34 #[.pointer (some ⟨p,0,none⟩),.int .i64 code,.int .i64 mem] w fun e w'=>e=.returned (insV (insD code mem s).1)∧Rds w p L a c (insD code mem s).2 w':=by
 have HC:Hid (∀ (X:World) (s:Bst) (m:Int),Rst p L a c s X→0≤m→m≤1000000→Calls Tryz.prog 32 #[.pointer (some ⟨p,0,none⟩),.int .i64 m] X fun e w'=>∃ x t,smR m s=(x,t)∧e=.returned (.int .i64 x)∧(0≤x∧x≤m)∧Rds X p L a c t w'):=fun X s m h h0 h1=>(rds_small h m h0 (by omega)).mono fun e w' q=>⟨_,_,rfl,q.1,smR_bd m h0 s,q.2⟩
 have HW:Hid (∀ (X:World) (s:Bst),Rst p L a c s X→Calls Tryz.prog 33 #[.pointer (some ⟨p,0,none⟩)] X fun e w'=>∃ x t,wdR s=(x,t)∧e=.returned (.int .i64 x)∧Rds X p L a c t w'):=fun X s h=>(rds_word h).mono fun e w' q=>⟨_,_,rfl,q.1,q.2⟩
 have HK:=Lib.hid hk
 clear hk
 have hlt:=h.lt
 have HS:Hid (Rds w p L a c s (w.alloc (.cells #[.int .u8 0,.int .u8 0,.int .i64 0,.int .i64 0,.int .i64 0,.int .i64 0,.int .i64 0,.int .i64 0,.int .i64 0] 75))∧Own (w.alloc (.cells #[.int .u8 0,.int .u8 0,.int .i64 0,.int .i64 0,.int .i64 0,.int .i64 0,.int .i64 0,.int .i64 0,.int .i64 0] 75)) w.heap.size 75 #[.int .u8 0,.int .u8 0,.int .i64 0,.int .i64 0,.int .i64 0,.int .i64 0,.int .i64 0,.int .i64 0,.int .i64 0]):=⟨(rds_new h).below (((Below.refl w.heap.size w).alloc (Nat.le_refl _) _)),Own.new w 75 #[.int .u8 0,.int .u8 0,.int .i64 0,.int .i64 0,.int .i64 0,.int .i64 0,.int .i64 0,.int .i64 0,.int .i64 0]⟩
 obtain ⟨W0,hW0⟩:∃ W,W=w.alloc (.cells #[.int .u8 0,.int .u8 0,.int .i64 0,.int .i64 0,.int .i64 0,.int .i64 0,.int .i64 0,.int .i64 0,.int .i64 0] 75):=⟨_,rfl⟩
 rw [← hW0] at HS
 have HW0:=Lib.hid hW0
 clear hW0 h
 go_enter Tryz.func34,Tryz.ntmps34
 go_upto_region 1 with fail
 rw [← HW0.out]
 clear HW0
 have e8:IntKind.u8.wrap (0:Int)=0:=by decide
 go_upto_region 2 with (go_at_call 32;refine (HC.out _ _ 11 HS.out.1.st (by decide) (by decide)).mono ?_;rintro e w2 ⟨x,t1,h1,rfl,_,hq⟩;obtain rfl:x=0:=by { have:=HK.out;rw [h1] at this;exact this };replace HS:=Lib.hid (And.intro (HS.out.1.trans hq) (hq.other HS.out.2 (by omega)));have H1:=Lib.hid h1;clear h1 hq)
 have HS:Hid (I2 w p L a c w.heap.size w2.heap.size t1 #[.int .u8 0,.int .u8 0,.int .i64 0,.int .i64 0,.int .i64 0,.int .i64 0,.int .i64 0,.int .i64 0,.int .i64 0] #[.int .u8 0,.int .u8 0,.int .i64 0,.int .i64 0,.int .i64 0,.int .i64 0,.int .i64 0,.int .i64 0,.int .i64 0] (w2.alloc (.cells #[.int .u8 0,.int .u8 0,.int .i64 0,.int .i64 0,.int .i64 0,.int .i64 0,.int .i64 0,.int .i64 0,.int .i64 0] 75))):=by
  have hb:Below w2.heap.size w2 (w2.alloc (.cells #[.int .u8 0,.int .u8 0,.int .i64 0,.int .i64 0,.int .i64 0,.int .i64 0,.int .i64 0,.int .i64 0,.int .i64 0] 75)):=(Below.refl _ _).alloc (Nat.le_refl _) _
  exact ⟨HS.out.1.below hb,Own.new w2 75 #[.int .u8 0,.int .u8 0,.int .i64 0,.int .i64 0,.int .i64 0,.int .i64 0,.int .i64 0,.int .i64 0,.int .i64 0],HS.out.2.below hb,hlt,Nat.le_refl _,HS.out.2.lt⟩
 generalize w2.alloc (.cells #[.int .u8 0,.int .u8 0,.int .i64 0,.int .i64 0,.int .i64 0,.int .i64 0,.int .i64 0,.int .i64 0,.int .i64 0] 75)=W1 at HS ⊢
 generalize w2.heap.size=q at HS ⊢
 have z0:W1.cell? ⟨q,0,none⟩=some (.int .u8 0):=HS.out.cell 0 _ rfl
 have z1:W1.cell? ⟨q,1,none⟩=some (.int .u8 0):=HS.out.cell 1 _ rfl
 have z2:W1.cell? ⟨q,2,none⟩=some (.int .i64 0):=HS.out.cell 2 _ rfl
 have z3:W1.cell? ⟨q,3,none⟩=some (.int .i64 0):=HS.out.cell 3 _ rfl
 have z4:W1.cell? ⟨q,4,none⟩=some (.int .i64 0):=HS.out.cell 4 _ rfl
 have z5:W1.cell? ⟨q,5,none⟩=some (.int .i64 0):=HS.out.cell 5 _ rfl
 have z6:W1.cell? ⟨q,6,none⟩=some (.int .i64 0):=HS.out.cell 6 _ rfl
 have z7:W1.cell? ⟨q,7,none⟩=some (.int .i64 0):=HS.out.cell 7 _ rfl
 have z8:W1.cell? ⟨q,8,none⟩=some (.int .i64 0):=HS.out.cell 8 _ rfl
 go_upto_region 17 with (first | (go_at_call 68;refine (r_uses0 _).mono ?_;rintro e w' ⟨rfl,rfl⟩))
 clear z0 z1 z2 z3 z4 z5 z6 z7 z8
 go_upto_region 18 with (go_at_call 32;refine (HC.out _ _ 4096 HS.out.st.st (by decide) (by decide)).mono ?_;rintro e w3 ⟨x8,t2,h2,rfl,hb,hq⟩;replace HS:=Lib.hid (HS.out.call hq);have H2:=Lib.hid h2;have HB8:=Lib.hid hb;clear h2 hq hb;have f8:w3.frozen? ⟨q,8,none⟩=false:=own_frozen HS.out.own 8;have y8:w3.cell? ⟨q,8,none⟩=some (.int .i64 0):=HS.out.cell 8 _ rfl)
 replace HS:Hid (I2 w p L a c w.heap.size q t2 #[.int .u8 0,.int .u8 0,.int .i64 0,.int .i64 0,.int .i64 0,.int .i64 0,.int .i64 0,.int .i64 0,.int .i64 x8] #[.int .u8 0,.int .u8 0,.int .i64 0,.int .i64 0,.int .i64 0,.int .i64 0,.int .i64 0,.int .i64 0,.int .i64 0] (w3.setCell ⟨q,8,none⟩ (.int .i64 x8))):=HS.out.store 8 (.int .i64 x8)
 clear f8 y8
 generalize w3.setCell ⟨q,8,none⟩ (.int .i64 x8)=W2 at HS ⊢
 have z0:W2.cell? ⟨q,0,none⟩=some (.int .u8 0):=HS.out.cell 0 _ rfl
 have z1:W2.cell? ⟨q,1,none⟩=some (.int .u8 0):=HS.out.cell 1 _ rfl
 have z2:W2.cell? ⟨q,2,none⟩=some (.int .i64 0):=HS.out.cell 2 _ rfl
 have z3:W2.cell? ⟨q,3,none⟩=some (.int .i64 0):=HS.out.cell 3 _ rfl
 have z4:W2.cell? ⟨q,4,none⟩=some (.int .i64 0):=HS.out.cell 4 _ rfl
 have z5:W2.cell? ⟨q,5,none⟩=some (.int .i64 0):=HS.out.cell 5 _ rfl
 have z6:W2.cell? ⟨q,6,none⟩=some (.int .i64 0):=HS.out.cell 6 _ rfl
 have z7:W2.cell? ⟨q,7,none⟩=some (.int .i64 0):=HS.out.cell 7 _ rfl
 have z8:W2.cell? ⟨q,8,none⟩=some (.int .i64 x8):=HS.out.cell 8 _ rfl
 have g0:W2.frozen? ⟨w.heap.size,0,none⟩=false:=own_frozen HS.out.res 0
 have c0:W2.cell? ⟨w.heap.size,0,none⟩=some (.int .u8 0):=row_e9 HS.out.res 0 _ rfl
 have g1:W2.frozen? ⟨w.heap.size,1,none⟩=false:=own_frozen HS.out.res 1
 have c1:W2.cell? ⟨w.heap.size,1,none⟩=some (.int .u8 0):=row_e9 HS.out.res 1 _ rfl
 have g2:W2.frozen? ⟨w.heap.size,2,none⟩=false:=own_frozen HS.out.res 2
 have c2:W2.cell? ⟨w.heap.size,2,none⟩=some (.int .i64 0):=row_e9 HS.out.res 2 _ rfl
 have g3:W2.frozen? ⟨w.heap.size,3,none⟩=false:=own_frozen HS.out.res 3
 have c3:W2.cell? ⟨w.heap.size,3,none⟩=some (.int .i64 0):=row_e9 HS.out.res 3 _ rfl
 have g4:W2.frozen? ⟨w.heap.size,4,none⟩=false:=own_frozen HS.out.res 4
 have c4:W2.cell? ⟨w.heap.size,4,none⟩=some (.int .i64 0):=row_e9 HS.out.res 4 _ rfl
 have g5:W2.frozen? ⟨w.heap.size,5,none⟩=false:=own_frozen HS.out.res 5
 have c5:W2.cell? ⟨w.heap.size,5,none⟩=some (.int .i64 0):=row_e9 HS.out.res 5 _ rfl
 have g6:W2.frozen? ⟨w.heap.size,6,none⟩=false:=own_frozen HS.out.res 6
 have c6:W2.cell? ⟨w.heap.size,6,none⟩=some (.int .i64 0):=row_e9 HS.out.res 6 _ rfl
 have g7:W2.frozen? ⟨w.heap.size,7,none⟩=false:=own_frozen HS.out.res 7
 have c7:W2.cell? ⟨w.heap.size,7,none⟩=some (.int .i64 0):=row_e9 HS.out.res 7 _ rfl
 have g8:W2.frozen? ⟨w.heap.size,8,none⟩=false:=own_frozen HS.out.res 8
 have c8:W2.cell? ⟨w.heap.size,8,none⟩=some (.int .i64 0):=row_e9 HS.out.res 8 _ rfl
 go_wp2_with (fail)
 have hz:=(((((((((HS.out.put 0 (.int .u8 0)).put 1 (.int .u8 0)).put 2 (.int .i64 0)).put 3 (.int .i64 0)).put 4 (.int .i64 0)).put 5 (.int .i64 0)).put 6 (.int .i64 0)).put 7 (.int .i64 0)).put 8 (.int .i64 x8))
 have hI:insD code mem s=((⟨0,0,0,0,0,0,0,0,x8⟩:Ins),t2):=by
  unfold insD
  simp only [H1.out,show ((0:Int)==2)=false by decide,show ((0:Int)==1)=false by decide,show dB 0=false by decide,show aB 0=false by decide,show adB 0=false by decide,show toB 0=false by decide,bB,optR,cond_true,cond_false,Bool.true_and,Bool.false_and,H2.out]
 rw [hI]
 exact p_ret rowI rfl hz.res rfl rfl rfl ⟨rfl,hz.st⟩
theorem rdi_1 {w:World} {p:Nat} {L:List UInt8} {a:Option Addr} {c:Nat} {s:Bst} (h:Rst p L a c s w) (code mem:Int) (hc:0≤code∧code≤1000000) (hm:0≤mem∧mem≤1000000) (hk:(smR 11 s).1=1):Calls Tryz.prog 34 #[.pointer (some ⟨p,0,none⟩),.int .i64 code,.int .i64 mem] w fun e w'=>e=.returned (insV (insD code mem s).1)∧Rds w p L a c (insD code mem s).2 w':=by
 have HC:Hid (∀ (X:World) (s:Bst) (m:Int),Rst p L a c s X→0≤m→m≤1000000→Calls Tryz.prog 32 #[.pointer (some ⟨p,0,none⟩),.int .i64 m] X fun e w'=>∃ x t,smR m s=(x,t)∧e=.returned (.int .i64 x)∧(0≤x∧x≤m)∧Rds X p L a c t w'):=fun X s m h h0 h1=>(rds_small h m h0 (by omega)).mono fun e w' q=>⟨_,_,rfl,q.1,smR_bd m h0 s,q.2⟩
 have HW:Hid (∀ (X:World) (s:Bst),Rst p L a c s X→Calls Tryz.prog 33 #[.pointer (some ⟨p,0,none⟩)] X fun e w'=>∃ x t,wdR s=(x,t)∧e=.returned (.int .i64 x)∧Rds X p L a c t w'):=fun X s h=>(rds_word h).mono fun e w' q=>⟨_,_,rfl,q.1,q.2⟩
 have HK:=Lib.hid hk
 clear hk
 have hlt:=h.lt
 have HS:Hid (Rds w p L a c s (w.alloc (.cells #[.int .u8 0,.int .u8 0,.int .i64 0,.int .i64 0,.int .i64 0,.int .i64 0,.int .i64 0,.int .i64 0,.int .i64 0] 75))∧Own (w.alloc (.cells #[.int .u8 0,.int .u8 0,.int .i64 0,.int .i64 0,.int .i64 0,.int .i64 0,.int .i64 0,.int .i64 0,.int .i64 0] 75)) w.heap.size 75 #[.int .u8 0,.int .u8 0,.int .i64 0,.int .i64 0,.int .i64 0,.int .i64 0,.int .i64 0,.int .i64 0,.int .i64 0]):=⟨(rds_new h).below (((Below.refl w.heap.size w).alloc (Nat.le_refl _) _)),Own.new w 75 #[.int .u8 0,.int .u8 0,.int .i64 0,.int .i64 0,.int .i64 0,.int .i64 0,.int .i64 0,.int .i64 0,.int .i64 0]⟩
 obtain ⟨W0,hW0⟩:∃ W,W=w.alloc (.cells #[.int .u8 0,.int .u8 0,.int .i64 0,.int .i64 0,.int .i64 0,.int .i64 0,.int .i64 0,.int .i64 0,.int .i64 0] 75):=⟨_,rfl⟩
 rw [← hW0] at HS
 have HW0:=Lib.hid hW0
 clear hW0 h
 go_enter Tryz.func34,Tryz.ntmps34
 go_upto_region 1 with fail
 rw [← HW0.out]
 clear HW0
 have e8:IntKind.u8.wrap (1:Int)=1:=by decide
 go_upto_region 2 with (go_at_call 32;refine (HC.out _ _ 11 HS.out.1.st (by decide) (by decide)).mono ?_;rintro e w2 ⟨x,t1,h1,rfl,_,hq⟩;obtain rfl:x=1:=by { have:=HK.out;rw [h1] at this;exact this };replace HS:=Lib.hid (And.intro (HS.out.1.trans hq) (hq.other HS.out.2 (by omega)));have H1:=Lib.hid h1;clear h1 hq)
 have HS:Hid (I2 w p L a c w.heap.size w2.heap.size t1 #[.int .u8 1,.int .u8 0,.int .i64 0,.int .i64 0,.int .i64 0,.int .i64 0,.int .i64 0,.int .i64 0,.int .i64 0] #[.int .u8 0,.int .u8 0,.int .i64 0,.int .i64 0,.int .i64 0,.int .i64 0,.int .i64 0,.int .i64 0,.int .i64 0] (w2.alloc (.cells #[.int .u8 1,.int .u8 0,.int .i64 0,.int .i64 0,.int .i64 0,.int .i64 0,.int .i64 0,.int .i64 0,.int .i64 0] 75))):=by
  have hb:Below w2.heap.size w2 (w2.alloc (.cells #[.int .u8 1,.int .u8 0,.int .i64 0,.int .i64 0,.int .i64 0,.int .i64 0,.int .i64 0,.int .i64 0,.int .i64 0] 75)):=(Below.refl _ _).alloc (Nat.le_refl _) _
  exact ⟨HS.out.1.below hb,Own.new w2 75 #[.int .u8 1,.int .u8 0,.int .i64 0,.int .i64 0,.int .i64 0,.int .i64 0,.int .i64 0,.int .i64 0,.int .i64 0],HS.out.2.below hb,hlt,Nat.le_refl _,HS.out.2.lt⟩
 generalize w2.alloc (.cells #[.int .u8 1,.int .u8 0,.int .i64 0,.int .i64 0,.int .i64 0,.int .i64 0,.int .i64 0,.int .i64 0,.int .i64 0] 75)=W1 at HS ⊢
 generalize w2.heap.size=q at HS ⊢
 have z0:W1.cell? ⟨q,0,none⟩=some (.int .u8 1):=HS.out.cell 0 _ rfl
 have z1:W1.cell? ⟨q,1,none⟩=some (.int .u8 0):=HS.out.cell 1 _ rfl
 have z2:W1.cell? ⟨q,2,none⟩=some (.int .i64 0):=HS.out.cell 2 _ rfl
 have z3:W1.cell? ⟨q,3,none⟩=some (.int .i64 0):=HS.out.cell 3 _ rfl
 have z4:W1.cell? ⟨q,4,none⟩=some (.int .i64 0):=HS.out.cell 4 _ rfl
 have z5:W1.cell? ⟨q,5,none⟩=some (.int .i64 0):=HS.out.cell 5 _ rfl
 have z6:W1.cell? ⟨q,6,none⟩=some (.int .i64 0):=HS.out.cell 6 _ rfl
 have z7:W1.cell? ⟨q,7,none⟩=some (.int .i64 0):=HS.out.cell 7 _ rfl
 have z8:W1.cell? ⟨q,8,none⟩=some (.int .i64 0):=HS.out.cell 8 _ rfl
 go_upto_region 6 with (first | (go_at_call 68;refine (r_uses1 _).mono ?_;rintro e w' ⟨rfl,rfl⟩))
 clear z0 z1 z2 z3 z4 z5 z6 z7 z8
 go_upto_region 7 with (go_at_call 32;refine (HC.out _ _ 16 HS.out.st.st (by decide) (by decide)).mono ?_;rintro e w3 ⟨x2,t2,h2,rfl,hb,hq⟩;replace HS:=Lib.hid (HS.out.call hq);have H2:=Lib.hid h2;have HB2:=Lib.hid hb;clear h2 hq hb;have f2:w3.frozen? ⟨q,2,none⟩=false:=own_frozen HS.out.own 2;have y2:w3.cell? ⟨q,2,none⟩=some (.int .i64 0):=HS.out.cell 2 _ rfl)
 replace HS:Hid (I2 w p L a c w.heap.size q t2 #[.int .u8 1,.int .u8 0,.int .i64 x2,.int .i64 0,.int .i64 0,.int .i64 0,.int .i64 0,.int .i64 0,.int .i64 0] #[.int .u8 0,.int .u8 0,.int .i64 0,.int .i64 0,.int .i64 0,.int .i64 0,.int .i64 0,.int .i64 0,.int .i64 0] (w3.setCell ⟨q,2,none⟩ (.int .i64 x2))):=HS.out.store 2 (.int .i64 x2)
 clear f2 y2
 generalize w3.setCell ⟨q,2,none⟩ (.int .i64 x2)=W2 at HS ⊢
 have z0:W2.cell? ⟨q,0,none⟩=some (.int .u8 1):=HS.out.cell 0 _ rfl
 have z1:W2.cell? ⟨q,1,none⟩=some (.int .u8 0):=HS.out.cell 1 _ rfl
 have z2:W2.cell? ⟨q,2,none⟩=some (.int .i64 x2):=HS.out.cell 2 _ rfl
 have z3:W2.cell? ⟨q,3,none⟩=some (.int .i64 0):=HS.out.cell 3 _ rfl
 have z4:W2.cell? ⟨q,4,none⟩=some (.int .i64 0):=HS.out.cell 4 _ rfl
 have z5:W2.cell? ⟨q,5,none⟩=some (.int .i64 0):=HS.out.cell 5 _ rfl
 have z6:W2.cell? ⟨q,6,none⟩=some (.int .i64 0):=HS.out.cell 6 _ rfl
 have z7:W2.cell? ⟨q,7,none⟩=some (.int .i64 0):=HS.out.cell 7 _ rfl
 have z8:W2.cell? ⟨q,8,none⟩=some (.int .i64 0):=HS.out.cell 8 _ rfl
 go_upto_region 12 with (first | (go_at_call 68;refine (r_uses1 _).mono ?_;rintro e w' ⟨rfl,rfl⟩))
 clear z0 z1 z2 z3 z4 z5 z6 z7 z8
 go_upto_region 13 with (go_at_call 33;refine (HW.out _ _ HS.out.st.st).mono ?_;rintro e w4 ⟨x7,t3,h3,rfl,hq⟩;replace HS:=Lib.hid (HS.out.call hq);have H3:=Lib.hid h3;clear h3 hq;have f7:w4.frozen? ⟨q,7,none⟩=false:=own_frozen HS.out.own 7;have y7:w4.cell? ⟨q,7,none⟩=some (.int .i64 0):=HS.out.cell 7 _ rfl)
 replace HS:Hid (I2 w p L a c w.heap.size q t3 #[.int .u8 1,.int .u8 0,.int .i64 x2,.int .i64 0,.int .i64 0,.int .i64 0,.int .i64 0,.int .i64 x7,.int .i64 0] #[.int .u8 0,.int .u8 0,.int .i64 0,.int .i64 0,.int .i64 0,.int .i64 0,.int .i64 0,.int .i64 0,.int .i64 0] (w4.setCell ⟨q,7,none⟩ (.int .i64 x7))):=HS.out.store 7 (.int .i64 x7)
 clear f7 y7
 generalize w4.setCell ⟨q,7,none⟩ (.int .i64 x7)=W3 at HS ⊢
 have z0:W3.cell? ⟨q,0,none⟩=some (.int .u8 1):=HS.out.cell 0 _ rfl
 have z1:W3.cell? ⟨q,1,none⟩=some (.int .u8 0):=HS.out.cell 1 _ rfl
 have z2:W3.cell? ⟨q,2,none⟩=some (.int .i64 x2):=HS.out.cell 2 _ rfl
 have z3:W3.cell? ⟨q,3,none⟩=some (.int .i64 0):=HS.out.cell 3 _ rfl
 have z4:W3.cell? ⟨q,4,none⟩=some (.int .i64 0):=HS.out.cell 4 _ rfl
 have z5:W3.cell? ⟨q,5,none⟩=some (.int .i64 0):=HS.out.cell 5 _ rfl
 have z6:W3.cell? ⟨q,6,none⟩=some (.int .i64 0):=HS.out.cell 6 _ rfl
 have z7:W3.cell? ⟨q,7,none⟩=some (.int .i64 x7):=HS.out.cell 7 _ rfl
 have z8:W3.cell? ⟨q,8,none⟩=some (.int .i64 0):=HS.out.cell 8 _ rfl
 go_upto_region 17 with (first | (go_at_call 68;refine (r_uses1 _).mono ?_;rintro e w' ⟨rfl,rfl⟩))
 clear z0 z1 z2 z3 z4 z5 z6 z7 z8
 go_upto_region 18 with (go_at_call 32;refine (HC.out _ _ 4096 HS.out.st.st (by decide) (by decide)).mono ?_;rintro e w5 ⟨x8,t4,h4,rfl,hb,hq⟩;replace HS:=Lib.hid (HS.out.call hq);have H4:=Lib.hid h4;have HB8:=Lib.hid hb;clear h4 hq hb;have f8:w5.frozen? ⟨q,8,none⟩=false:=own_frozen HS.out.own 8;have y8:w5.cell? ⟨q,8,none⟩=some (.int .i64 0):=HS.out.cell 8 _ rfl)
 replace HS:Hid (I2 w p L a c w.heap.size q t4 #[.int .u8 1,.int .u8 0,.int .i64 x2,.int .i64 0,.int .i64 0,.int .i64 0,.int .i64 0,.int .i64 x7,.int .i64 x8] #[.int .u8 0,.int .u8 0,.int .i64 0,.int .i64 0,.int .i64 0,.int .i64 0,.int .i64 0,.int .i64 0,.int .i64 0] (w5.setCell ⟨q,8,none⟩ (.int .i64 x8))):=HS.out.store 8 (.int .i64 x8)
 clear f8 y8
 generalize w5.setCell ⟨q,8,none⟩ (.int .i64 x8)=W4 at HS ⊢
 have z0:W4.cell? ⟨q,0,none⟩=some (.int .u8 1):=HS.out.cell 0 _ rfl
 have z1:W4.cell? ⟨q,1,none⟩=some (.int .u8 0):=HS.out.cell 1 _ rfl
 have z2:W4.cell? ⟨q,2,none⟩=some (.int .i64 x2):=HS.out.cell 2 _ rfl
 have z3:W4.cell? ⟨q,3,none⟩=some (.int .i64 0):=HS.out.cell 3 _ rfl
 have z4:W4.cell? ⟨q,4,none⟩=some (.int .i64 0):=HS.out.cell 4 _ rfl
 have z5:W4.cell? ⟨q,5,none⟩=some (.int .i64 0):=HS.out.cell 5 _ rfl
 have z6:W4.cell? ⟨q,6,none⟩=some (.int .i64 0):=HS.out.cell 6 _ rfl
 have z7:W4.cell? ⟨q,7,none⟩=some (.int .i64 x7):=HS.out.cell 7 _ rfl
 have z8:W4.cell? ⟨q,8,none⟩=some (.int .i64 x8):=HS.out.cell 8 _ rfl
 have g0:W4.frozen? ⟨w.heap.size,0,none⟩=false:=own_frozen HS.out.res 0
 have c0:W4.cell? ⟨w.heap.size,0,none⟩=some (.int .u8 0):=row_e9 HS.out.res 0 _ rfl
 have g1:W4.frozen? ⟨w.heap.size,1,none⟩=false:=own_frozen HS.out.res 1
 have c1:W4.cell? ⟨w.heap.size,1,none⟩=some (.int .u8 0):=row_e9 HS.out.res 1 _ rfl
 have g2:W4.frozen? ⟨w.heap.size,2,none⟩=false:=own_frozen HS.out.res 2
 have c2:W4.cell? ⟨w.heap.size,2,none⟩=some (.int .i64 0):=row_e9 HS.out.res 2 _ rfl
 have g3:W4.frozen? ⟨w.heap.size,3,none⟩=false:=own_frozen HS.out.res 3
 have c3:W4.cell? ⟨w.heap.size,3,none⟩=some (.int .i64 0):=row_e9 HS.out.res 3 _ rfl
 have g4:W4.frozen? ⟨w.heap.size,4,none⟩=false:=own_frozen HS.out.res 4
 have c4:W4.cell? ⟨w.heap.size,4,none⟩=some (.int .i64 0):=row_e9 HS.out.res 4 _ rfl
 have g5:W4.frozen? ⟨w.heap.size,5,none⟩=false:=own_frozen HS.out.res 5
 have c5:W4.cell? ⟨w.heap.size,5,none⟩=some (.int .i64 0):=row_e9 HS.out.res 5 _ rfl
 have g6:W4.frozen? ⟨w.heap.size,6,none⟩=false:=own_frozen HS.out.res 6
 have c6:W4.cell? ⟨w.heap.size,6,none⟩=some (.int .i64 0):=row_e9 HS.out.res 6 _ rfl
 have g7:W4.frozen? ⟨w.heap.size,7,none⟩=false:=own_frozen HS.out.res 7
 have c7:W4.cell? ⟨w.heap.size,7,none⟩=some (.int .i64 0):=row_e9 HS.out.res 7 _ rfl
 have g8:W4.frozen? ⟨w.heap.size,8,none⟩=false:=own_frozen HS.out.res 8
 have c8:W4.cell? ⟨w.heap.size,8,none⟩=some (.int .i64 0):=row_e9 HS.out.res 8 _ rfl
 go_wp2_with (fail)
 have hz:=(((((((((HS.out.put 0 (.int .u8 1)).put 1 (.int .u8 0)).put 2 (.int .i64 x2)).put 3 (.int .i64 0)).put 4 (.int .i64 0)).put 5 (.int .i64 0)).put 6 (.int .i64 0)).put 7 (.int .i64 x7)).put 8 (.int .i64 x8))
 have hI:insD code mem s=((⟨1,0,x2,0,0,0,0,x7,x8⟩:Ins),t4):=by
  unfold insD
  simp only [H1.out,show ((1:Int)==2)=false by decide,show ((1:Int)==1)=true by decide,show dB 1=true by decide,show aB 1=false by decide,show adB 1=false by decide,show toB 1=false by decide,bB,optR,cond_true,cond_false,Bool.true_and,Bool.false_and,H2.out,H3.out,H4.out]
 rw [hI]
 exact p_ret rowI rfl hz.res rfl rfl rfl ⟨rfl,hz.st⟩
theorem rdi_2 {w:World} {p:Nat} {L:List UInt8} {a:Option Addr} {c:Nat} {s:Bst} (h:Rst p L a c s w) (code mem:Int) (hc:0≤code∧code≤1000000) (hm:0≤mem∧mem≤1000000) (hk:(smR 11 s).1=2):Calls Tryz.prog 34 #[.pointer (some ⟨p,0,none⟩),.int .i64 code,.int .i64 mem] w fun e w'=>e=.returned (insV (insD code mem s).1)∧Rds w p L a c (insD code mem s).2 w':=by
 have HC:Hid (∀ (X:World) (s:Bst) (m:Int),Rst p L a c s X→0≤m→m≤1000000→Calls Tryz.prog 32 #[.pointer (some ⟨p,0,none⟩),.int .i64 m] X fun e w'=>∃ x t,smR m s=(x,t)∧e=.returned (.int .i64 x)∧(0≤x∧x≤m)∧Rds X p L a c t w'):=fun X s m h h0 h1=>(rds_small h m h0 (by omega)).mono fun e w' q=>⟨_,_,rfl,q.1,smR_bd m h0 s,q.2⟩
 have HW:Hid (∀ (X:World) (s:Bst),Rst p L a c s X→Calls Tryz.prog 33 #[.pointer (some ⟨p,0,none⟩)] X fun e w'=>∃ x t,wdR s=(x,t)∧e=.returned (.int .i64 x)∧Rds X p L a c t w'):=fun X s h=>(rds_word h).mono fun e w' q=>⟨_,_,rfl,q.1,q.2⟩
 have HK:=Lib.hid hk
 clear hk
 have hlt:=h.lt
 have HS:Hid (Rds w p L a c s (w.alloc (.cells #[.int .u8 0,.int .u8 0,.int .i64 0,.int .i64 0,.int .i64 0,.int .i64 0,.int .i64 0,.int .i64 0,.int .i64 0] 75))∧Own (w.alloc (.cells #[.int .u8 0,.int .u8 0,.int .i64 0,.int .i64 0,.int .i64 0,.int .i64 0,.int .i64 0,.int .i64 0,.int .i64 0] 75)) w.heap.size 75 #[.int .u8 0,.int .u8 0,.int .i64 0,.int .i64 0,.int .i64 0,.int .i64 0,.int .i64 0,.int .i64 0,.int .i64 0]):=⟨(rds_new h).below (((Below.refl w.heap.size w).alloc (Nat.le_refl _) _)),Own.new w 75 #[.int .u8 0,.int .u8 0,.int .i64 0,.int .i64 0,.int .i64 0,.int .i64 0,.int .i64 0,.int .i64 0,.int .i64 0]⟩
 obtain ⟨W0,hW0⟩:∃ W,W=w.alloc (.cells #[.int .u8 0,.int .u8 0,.int .i64 0,.int .i64 0,.int .i64 0,.int .i64 0,.int .i64 0,.int .i64 0,.int .i64 0] 75):=⟨_,rfl⟩
 rw [← hW0] at HS
 have HW0:=Lib.hid hW0
 clear hW0 h
 go_enter Tryz.func34,Tryz.ntmps34
 go_upto_region 1 with fail
 rw [← HW0.out]
 clear HW0
 have e8:IntKind.u8.wrap (2:Int)=2:=by decide
 go_upto_region 2 with (go_at_call 32;refine (HC.out _ _ 11 HS.out.1.st (by decide) (by decide)).mono ?_;rintro e w2 ⟨x,t1,h1,rfl,_,hq⟩;obtain rfl:x=2:=by { have:=HK.out;rw [h1] at this;exact this };replace HS:=Lib.hid (And.intro (HS.out.1.trans hq) (hq.other HS.out.2 (by omega)));have H1:=Lib.hid h1;clear h1 hq)
 have HS:Hid (I2 w p L a c w.heap.size w2.heap.size t1 #[.int .u8 2,.int .u8 0,.int .i64 0,.int .i64 0,.int .i64 0,.int .i64 0,.int .i64 0,.int .i64 0,.int .i64 0] #[.int .u8 0,.int .u8 0,.int .i64 0,.int .i64 0,.int .i64 0,.int .i64 0,.int .i64 0,.int .i64 0,.int .i64 0] (w2.alloc (.cells #[.int .u8 2,.int .u8 0,.int .i64 0,.int .i64 0,.int .i64 0,.int .i64 0,.int .i64 0,.int .i64 0,.int .i64 0] 75))):=by
  have hb:Below w2.heap.size w2 (w2.alloc (.cells #[.int .u8 2,.int .u8 0,.int .i64 0,.int .i64 0,.int .i64 0,.int .i64 0,.int .i64 0,.int .i64 0,.int .i64 0] 75)):=(Below.refl _ _).alloc (Nat.le_refl _) _
  exact ⟨HS.out.1.below hb,Own.new w2 75 #[.int .u8 2,.int .u8 0,.int .i64 0,.int .i64 0,.int .i64 0,.int .i64 0,.int .i64 0,.int .i64 0,.int .i64 0],HS.out.2.below hb,hlt,Nat.le_refl _,HS.out.2.lt⟩
 generalize w2.alloc (.cells #[.int .u8 2,.int .u8 0,.int .i64 0,.int .i64 0,.int .i64 0,.int .i64 0,.int .i64 0,.int .i64 0,.int .i64 0] 75)=W1 at HS ⊢
 generalize w2.heap.size=q at HS ⊢
 have z0:W1.cell? ⟨q,0,none⟩=some (.int .u8 2):=HS.out.cell 0 _ rfl
 have z1:W1.cell? ⟨q,1,none⟩=some (.int .u8 0):=HS.out.cell 1 _ rfl
 have z2:W1.cell? ⟨q,2,none⟩=some (.int .i64 0):=HS.out.cell 2 _ rfl
 have z3:W1.cell? ⟨q,3,none⟩=some (.int .i64 0):=HS.out.cell 3 _ rfl
 have z4:W1.cell? ⟨q,4,none⟩=some (.int .i64 0):=HS.out.cell 4 _ rfl
 have z5:W1.cell? ⟨q,5,none⟩=some (.int .i64 0):=HS.out.cell 5 _ rfl
 have z6:W1.cell? ⟨q,6,none⟩=some (.int .i64 0):=HS.out.cell 6 _ rfl
 have z7:W1.cell? ⟨q,7,none⟩=some (.int .i64 0):=HS.out.cell 7 _ rfl
 have z8:W1.cell? ⟨q,8,none⟩=some (.int .i64 0):=HS.out.cell 8 _ rfl
 go_upto_region 3 with (first | (go_at_call 68;refine (r_uses2 _).mono ?_;rintro e w' ⟨rfl,rfl⟩))
 clear z0 z1 z2 z3 z4 z5 z6 z7 z8
 go_upto_region 4 with (go_at_call 32;refine (HC.out _ _ 19 HS.out.st.st (by decide) (by decide)).mono ?_;rintro e w3 ⟨x1,t2,h2,rfl,hb,hq⟩;have ew:IntKind.u8.wrap x1=x1:=by { rw [IntKind.wrap_u8];omega };replace HS:=Lib.hid (HS.out.call hq);have H2:=Lib.hid h2;have HB1:=Lib.hid hb;clear h2 hq hb;have f1:w3.frozen? ⟨q,1,none⟩=false:=own_frozen HS.out.own 1;have y1:w3.cell? ⟨q,1,none⟩=some (.int .u8 0):=HS.out.cell 1 _ rfl)
 replace HS:Hid (I2 w p L a c w.heap.size q t2 #[.int .u8 2,.int .u8 x1,.int .i64 0,.int .i64 0,.int .i64 0,.int .i64 0,.int .i64 0,.int .i64 0,.int .i64 0] #[.int .u8 0,.int .u8 0,.int .i64 0,.int .i64 0,.int .i64 0,.int .i64 0,.int .i64 0,.int .i64 0,.int .i64 0] (w3.setCell ⟨q,1,none⟩ (.int .u8 x1))):=HS.out.store 1 (.int .u8 x1)
 clear f1 y1
 generalize w3.setCell ⟨q,1,none⟩ (.int .u8 x1)=W2 at HS ⊢
 have z0:W2.cell? ⟨q,0,none⟩=some (.int .u8 2):=HS.out.cell 0 _ rfl
 have z1:W2.cell? ⟨q,1,none⟩=some (.int .u8 x1):=HS.out.cell 1 _ rfl
 have z2:W2.cell? ⟨q,2,none⟩=some (.int .i64 0):=HS.out.cell 2 _ rfl
 have z3:W2.cell? ⟨q,3,none⟩=some (.int .i64 0):=HS.out.cell 3 _ rfl
 have z4:W2.cell? ⟨q,4,none⟩=some (.int .i64 0):=HS.out.cell 4 _ rfl
 have z5:W2.cell? ⟨q,5,none⟩=some (.int .i64 0):=HS.out.cell 5 _ rfl
 have z6:W2.cell? ⟨q,6,none⟩=some (.int .i64 0):=HS.out.cell 6 _ rfl
 have z7:W2.cell? ⟨q,7,none⟩=some (.int .i64 0):=HS.out.cell 7 _ rfl
 have z8:W2.cell? ⟨q,8,none⟩=some (.int .i64 0):=HS.out.cell 8 _ rfl
 go_upto_region 6 with (first | (go_at_call 68;refine (r_uses2 _).mono ?_;rintro e w' ⟨rfl,rfl⟩) | (go_at_call 69;refine (HTWO.out _).mono ?_;rintro e w' ⟨rfl,rfl⟩))
 clear z0 z1 z2 z3 z4 z5 z6 z7 z8
 go_upto_region 7 with (go_at_call 32;refine (HC.out _ _ 16 HS.out.st.st (by decide) (by decide)).mono ?_;rintro e w4 ⟨x2,t3,h3,rfl,hb,hq⟩;replace HS:=Lib.hid (HS.out.call hq);have H3:=Lib.hid h3;have HB2:=Lib.hid hb;clear h3 hq hb;have f2:w4.frozen? ⟨q,2,none⟩=false:=own_frozen HS.out.own 2;have y2:w4.cell? ⟨q,2,none⟩=some (.int .i64 0):=HS.out.cell 2 _ rfl)
 replace HS:Hid (I2 w p L a c w.heap.size q t3 #[.int .u8 2,.int .u8 x1,.int .i64 x2,.int .i64 0,.int .i64 0,.int .i64 0,.int .i64 0,.int .i64 0,.int .i64 0] #[.int .u8 0,.int .u8 0,.int .i64 0,.int .i64 0,.int .i64 0,.int .i64 0,.int .i64 0,.int .i64 0,.int .i64 0] (w4.setCell ⟨q,2,none⟩ (.int .i64 x2))):=HS.out.store 2 (.int .i64 x2)
 clear f2 y2
 generalize w4.setCell ⟨q,2,none⟩ (.int .i64 x2)=W3 at HS ⊢
 have z0:W3.cell? ⟨q,0,none⟩=some (.int .u8 2):=HS.out.cell 0 _ rfl
 have z1:W3.cell? ⟨q,1,none⟩=some (.int .u8 x1):=HS.out.cell 1 _ rfl
 have z2:W3.cell? ⟨q,2,none⟩=some (.int .i64 x2):=HS.out.cell 2 _ rfl
 have z3:W3.cell? ⟨q,3,none⟩=some (.int .i64 0):=HS.out.cell 3 _ rfl
 have z4:W3.cell? ⟨q,4,none⟩=some (.int .i64 0):=HS.out.cell 4 _ rfl
 have z5:W3.cell? ⟨q,5,none⟩=some (.int .i64 0):=HS.out.cell 5 _ rfl
 have z6:W3.cell? ⟨q,6,none⟩=some (.int .i64 0):=HS.out.cell 6 _ rfl
 have z7:W3.cell? ⟨q,7,none⟩=some (.int .i64 0):=HS.out.cell 7 _ rfl
 have z8:W3.cell? ⟨q,8,none⟩=some (.int .i64 0):=HS.out.cell 8 _ rfl
 go_upto_region 8 with (first | (go_at_call 68;refine (r_uses2 _).mono ?_;rintro e w' ⟨rfl,rfl⟩) | (go_at_call 69;refine (HTWO.out _).mono ?_;rintro e w' ⟨rfl,rfl⟩))
 clear z0 z1 z2 z3 z4 z5 z6 z7 z8
 go_upto_region 9 with (go_at_call 32;refine (HC.out _ _ 16 HS.out.st.st (by decide) (by decide)).mono ?_;rintro e w5 ⟨x3,t4,h4,rfl,hb,hq⟩;replace HS:=Lib.hid (HS.out.call hq);have H4:=Lib.hid h4;have HB3:=Lib.hid hb;clear h4 hq hb;have f3:w5.frozen? ⟨q,3,none⟩=false:=own_frozen HS.out.own 3;have y3:w5.cell? ⟨q,3,none⟩=some (.int .i64 0):=HS.out.cell 3 _ rfl)
 replace HS:Hid (I2 w p L a c w.heap.size q t4 #[.int .u8 2,.int .u8 x1,.int .i64 x2,.int .i64 x3,.int .i64 0,.int .i64 0,.int .i64 0,.int .i64 0,.int .i64 0] #[.int .u8 0,.int .u8 0,.int .i64 0,.int .i64 0,.int .i64 0,.int .i64 0,.int .i64 0,.int .i64 0,.int .i64 0] (w5.setCell ⟨q,3,none⟩ (.int .i64 x3))):=HS.out.store 3 (.int .i64 x3)
 clear f3 y3
 generalize w5.setCell ⟨q,3,none⟩ (.int .i64 x3)=W4 at HS ⊢
 have HTWO:Hid (∀ X,Calls Tryz.prog 69 #[.int .u8 x1] X fun e w'=>e=.returned (.bool (twoB x1))∧X=w'):=fun X=>r_two x1 HB1.out.1 X
 cases ht:twoB x1 with
 | true =>
   rw [ht] at HTWO
   have z0:W4.cell? ⟨q,0,none⟩=some (.int .u8 2):=HS.out.cell 0 _ rfl
   have z1:W4.cell? ⟨q,1,none⟩=some (.int .u8 x1):=HS.out.cell 1 _ rfl
   have z2:W4.cell? ⟨q,2,none⟩=some (.int .i64 x2):=HS.out.cell 2 _ rfl
   have z3:W4.cell? ⟨q,3,none⟩=some (.int .i64 x3):=HS.out.cell 3 _ rfl
   have z4:W4.cell? ⟨q,4,none⟩=some (.int .i64 0):=HS.out.cell 4 _ rfl
   have z5:W4.cell? ⟨q,5,none⟩=some (.int .i64 0):=HS.out.cell 5 _ rfl
   have z6:W4.cell? ⟨q,6,none⟩=some (.int .i64 0):=HS.out.cell 6 _ rfl
   have z7:W4.cell? ⟨q,7,none⟩=some (.int .i64 0):=HS.out.cell 7 _ rfl
   have z8:W4.cell? ⟨q,8,none⟩=some (.int .i64 0):=HS.out.cell 8 _ rfl
   go_upto_region 10 with (first | (go_at_call 68;refine (r_uses2 _).mono ?_;rintro e w' ⟨rfl,rfl⟩) | (go_at_call 69;refine (HTWO.out _).mono ?_;rintro e w' ⟨rfl,rfl⟩))
   clear z0 z1 z2 z3 z4 z5 z6 z7 z8
   go_upto_region 11 with (go_at_call 32;refine (HC.out _ _ 16 HS.out.st.st (by decide) (by decide)).mono ?_;rintro e w6 ⟨x4,t5,h5,rfl,hb,hq⟩;replace HS:=Lib.hid (HS.out.call hq);have H5:=Lib.hid h5;have HB4:=Lib.hid hb;clear h5 hq hb;have f4:w6.frozen? ⟨q,4,none⟩=false:=own_frozen HS.out.own 4;have y4:w6.cell? ⟨q,4,none⟩=some (.int .i64 0):=HS.out.cell 4 _ rfl)
   replace HS:Hid (I2 w p L a c w.heap.size q t5 #[.int .u8 2,.int .u8 x1,.int .i64 x2,.int .i64 x3,.int .i64 x4,.int .i64 0,.int .i64 0,.int .i64 0,.int .i64 0] #[.int .u8 0,.int .u8 0,.int .i64 0,.int .i64 0,.int .i64 0,.int .i64 0,.int .i64 0,.int .i64 0,.int .i64 0] (w6.setCell ⟨q,4,none⟩ (.int .i64 x4))):=HS.out.store 4 (.int .i64 x4)
   clear f4 y4
   generalize w6.setCell ⟨q,4,none⟩ (.int .i64 x4)=W5 at HS ⊢
   have z0:W5.cell? ⟨q,0,none⟩=some (.int .u8 2):=HS.out.cell 0 _ rfl
   have z1:W5.cell? ⟨q,1,none⟩=some (.int .u8 x1):=HS.out.cell 1 _ rfl
   have z2:W5.cell? ⟨q,2,none⟩=some (.int .i64 x2):=HS.out.cell 2 _ rfl
   have z3:W5.cell? ⟨q,3,none⟩=some (.int .i64 x3):=HS.out.cell 3 _ rfl
   have z4:W5.cell? ⟨q,4,none⟩=some (.int .i64 x4):=HS.out.cell 4 _ rfl
   have z5:W5.cell? ⟨q,5,none⟩=some (.int .i64 0):=HS.out.cell 5 _ rfl
   have z6:W5.cell? ⟨q,6,none⟩=some (.int .i64 0):=HS.out.cell 6 _ rfl
   have z7:W5.cell? ⟨q,7,none⟩=some (.int .i64 0):=HS.out.cell 7 _ rfl
   have z8:W5.cell? ⟨q,8,none⟩=some (.int .i64 0):=HS.out.cell 8 _ rfl
   go_upto_region 17 with (first | (go_at_call 68;refine (r_uses2 _).mono ?_;rintro e w' ⟨rfl,rfl⟩) | (go_at_call 69;refine (HTWO.out _).mono ?_;rintro e w' ⟨rfl,rfl⟩))
   clear z0 z1 z2 z3 z4 z5 z6 z7 z8
   go_upto_region 18 with (go_at_call 32;refine (HC.out _ _ 4096 HS.out.st.st (by decide) (by decide)).mono ?_;rintro e w7 ⟨x8,t6,h6,rfl,hb,hq⟩;replace HS:=Lib.hid (HS.out.call hq);have H6:=Lib.hid h6;have HB8:=Lib.hid hb;clear h6 hq hb;have f8:w7.frozen? ⟨q,8,none⟩=false:=own_frozen HS.out.own 8;have y8:w7.cell? ⟨q,8,none⟩=some (.int .i64 0):=HS.out.cell 8 _ rfl)
   replace HS:Hid (I2 w p L a c w.heap.size q t6 #[.int .u8 2,.int .u8 x1,.int .i64 x2,.int .i64 x3,.int .i64 x4,.int .i64 0,.int .i64 0,.int .i64 0,.int .i64 x8] #[.int .u8 0,.int .u8 0,.int .i64 0,.int .i64 0,.int .i64 0,.int .i64 0,.int .i64 0,.int .i64 0,.int .i64 0] (w7.setCell ⟨q,8,none⟩ (.int .i64 x8))):=HS.out.store 8 (.int .i64 x8)
   clear f8 y8
   generalize w7.setCell ⟨q,8,none⟩ (.int .i64 x8)=W6 at HS ⊢
   have z0:W6.cell? ⟨q,0,none⟩=some (.int .u8 2):=HS.out.cell 0 _ rfl
   have z1:W6.cell? ⟨q,1,none⟩=some (.int .u8 x1):=HS.out.cell 1 _ rfl
   have z2:W6.cell? ⟨q,2,none⟩=some (.int .i64 x2):=HS.out.cell 2 _ rfl
   have z3:W6.cell? ⟨q,3,none⟩=some (.int .i64 x3):=HS.out.cell 3 _ rfl
   have z4:W6.cell? ⟨q,4,none⟩=some (.int .i64 x4):=HS.out.cell 4 _ rfl
   have z5:W6.cell? ⟨q,5,none⟩=some (.int .i64 0):=HS.out.cell 5 _ rfl
   have z6:W6.cell? ⟨q,6,none⟩=some (.int .i64 0):=HS.out.cell 6 _ rfl
   have z7:W6.cell? ⟨q,7,none⟩=some (.int .i64 0):=HS.out.cell 7 _ rfl
   have z8:W6.cell? ⟨q,8,none⟩=some (.int .i64 x8):=HS.out.cell 8 _ rfl
   have g0:W6.frozen? ⟨w.heap.size,0,none⟩=false:=own_frozen HS.out.res 0
   have c0:W6.cell? ⟨w.heap.size,0,none⟩=some (.int .u8 0):=row_e9 HS.out.res 0 _ rfl
   have g1:W6.frozen? ⟨w.heap.size,1,none⟩=false:=own_frozen HS.out.res 1
   have c1:W6.cell? ⟨w.heap.size,1,none⟩=some (.int .u8 0):=row_e9 HS.out.res 1 _ rfl
   have g2:W6.frozen? ⟨w.heap.size,2,none⟩=false:=own_frozen HS.out.res 2
   have c2:W6.cell? ⟨w.heap.size,2,none⟩=some (.int .i64 0):=row_e9 HS.out.res 2 _ rfl
   have g3:W6.frozen? ⟨w.heap.size,3,none⟩=false:=own_frozen HS.out.res 3
   have c3:W6.cell? ⟨w.heap.size,3,none⟩=some (.int .i64 0):=row_e9 HS.out.res 3 _ rfl
   have g4:W6.frozen? ⟨w.heap.size,4,none⟩=false:=own_frozen HS.out.res 4
   have c4:W6.cell? ⟨w.heap.size,4,none⟩=some (.int .i64 0):=row_e9 HS.out.res 4 _ rfl
   have g5:W6.frozen? ⟨w.heap.size,5,none⟩=false:=own_frozen HS.out.res 5
   have c5:W6.cell? ⟨w.heap.size,5,none⟩=some (.int .i64 0):=row_e9 HS.out.res 5 _ rfl
   have g6:W6.frozen? ⟨w.heap.size,6,none⟩=false:=own_frozen HS.out.res 6
   have c6:W6.cell? ⟨w.heap.size,6,none⟩=some (.int .i64 0):=row_e9 HS.out.res 6 _ rfl
   have g7:W6.frozen? ⟨w.heap.size,7,none⟩=false:=own_frozen HS.out.res 7
   have c7:W6.cell? ⟨w.heap.size,7,none⟩=some (.int .i64 0):=row_e9 HS.out.res 7 _ rfl
   have g8:W6.frozen? ⟨w.heap.size,8,none⟩=false:=own_frozen HS.out.res 8
   have c8:W6.cell? ⟨w.heap.size,8,none⟩=some (.int .i64 0):=row_e9 HS.out.res 8 _ rfl
   go_wp2_with (fail)
   have hz:=(((((((((HS.out.put 0 (.int .u8 2)).put 1 (.int .u8 x1)).put 2 (.int .i64 x2)).put 3 (.int .i64 x3)).put 4 (.int .i64 x4)).put 5 (.int .i64 0)).put 6 (.int .i64 0)).put 7 (.int .i64 0)).put 8 (.int .i64 x8))
   have hI:insD code mem s=((⟨2,x1,x2,x3,x4,0,0,0,x8⟩:Ins),t6):=by
    unfold insD
    simp only [H1.out,show ((2:Int)==2)=true by decide,show ((2:Int)==1)=false by decide,show dB 2=true by decide,show aB 2=true by decide,show adB 2=false by decide,show toB 2=false by decide,bB,ht,optR,cond_true,cond_false,Bool.true_and,Bool.false_and,H2.out,H3.out,H4.out,H5.out,H6.out]
   rw [hI]
   exact p_ret rowI rfl hz.res rfl rfl rfl ⟨rfl,hz.st⟩
 | false =>
   rw [ht] at HTWO
   have z0:W4.cell? ⟨q,0,none⟩=some (.int .u8 2):=HS.out.cell 0 _ rfl
   have z1:W4.cell? ⟨q,1,none⟩=some (.int .u8 x1):=HS.out.cell 1 _ rfl
   have z2:W4.cell? ⟨q,2,none⟩=some (.int .i64 x2):=HS.out.cell 2 _ rfl
   have z3:W4.cell? ⟨q,3,none⟩=some (.int .i64 x3):=HS.out.cell 3 _ rfl
   have z4:W4.cell? ⟨q,4,none⟩=some (.int .i64 0):=HS.out.cell 4 _ rfl
   have z5:W4.cell? ⟨q,5,none⟩=some (.int .i64 0):=HS.out.cell 5 _ rfl
   have z6:W4.cell? ⟨q,6,none⟩=some (.int .i64 0):=HS.out.cell 6 _ rfl
   have z7:W4.cell? ⟨q,7,none⟩=some (.int .i64 0):=HS.out.cell 7 _ rfl
   have z8:W4.cell? ⟨q,8,none⟩=some (.int .i64 0):=HS.out.cell 8 _ rfl
   go_upto_region 17 with (first | (go_at_call 68;refine (r_uses2 _).mono ?_;rintro e w' ⟨rfl,rfl⟩) | (go_at_call 69;refine (HTWO.out _).mono ?_;rintro e w' ⟨rfl,rfl⟩))
   clear z0 z1 z2 z3 z4 z5 z6 z7 z8
   go_upto_region 18 with (go_at_call 32;refine (HC.out _ _ 4096 HS.out.st.st (by decide) (by decide)).mono ?_;rintro e w6 ⟨x8,t5,h5,rfl,hb,hq⟩;replace HS:=Lib.hid (HS.out.call hq);have H5:=Lib.hid h5;have HB8:=Lib.hid hb;clear h5 hq hb;have f8:w6.frozen? ⟨q,8,none⟩=false:=own_frozen HS.out.own 8;have y8:w6.cell? ⟨q,8,none⟩=some (.int .i64 0):=HS.out.cell 8 _ rfl)
   replace HS:Hid (I2 w p L a c w.heap.size q t5 #[.int .u8 2,.int .u8 x1,.int .i64 x2,.int .i64 x3,.int .i64 0,.int .i64 0,.int .i64 0,.int .i64 0,.int .i64 x8] #[.int .u8 0,.int .u8 0,.int .i64 0,.int .i64 0,.int .i64 0,.int .i64 0,.int .i64 0,.int .i64 0,.int .i64 0] (w6.setCell ⟨q,8,none⟩ (.int .i64 x8))):=HS.out.store 8 (.int .i64 x8)
   clear f8 y8
   generalize w6.setCell ⟨q,8,none⟩ (.int .i64 x8)=W5 at HS ⊢
   have z0:W5.cell? ⟨q,0,none⟩=some (.int .u8 2):=HS.out.cell 0 _ rfl
   have z1:W5.cell? ⟨q,1,none⟩=some (.int .u8 x1):=HS.out.cell 1 _ rfl
   have z2:W5.cell? ⟨q,2,none⟩=some (.int .i64 x2):=HS.out.cell 2 _ rfl
   have z3:W5.cell? ⟨q,3,none⟩=some (.int .i64 x3):=HS.out.cell 3 _ rfl
   have z4:W5.cell? ⟨q,4,none⟩=some (.int .i64 0):=HS.out.cell 4 _ rfl
   have z5:W5.cell? ⟨q,5,none⟩=some (.int .i64 0):=HS.out.cell 5 _ rfl
   have z6:W5.cell? ⟨q,6,none⟩=some (.int .i64 0):=HS.out.cell 6 _ rfl
   have z7:W5.cell? ⟨q,7,none⟩=some (.int .i64 0):=HS.out.cell 7 _ rfl
   have z8:W5.cell? ⟨q,8,none⟩=some (.int .i64 x8):=HS.out.cell 8 _ rfl
   have g0:W5.frozen? ⟨w.heap.size,0,none⟩=false:=own_frozen HS.out.res 0
   have c0:W5.cell? ⟨w.heap.size,0,none⟩=some (.int .u8 0):=row_e9 HS.out.res 0 _ rfl
   have g1:W5.frozen? ⟨w.heap.size,1,none⟩=false:=own_frozen HS.out.res 1
   have c1:W5.cell? ⟨w.heap.size,1,none⟩=some (.int .u8 0):=row_e9 HS.out.res 1 _ rfl
   have g2:W5.frozen? ⟨w.heap.size,2,none⟩=false:=own_frozen HS.out.res 2
   have c2:W5.cell? ⟨w.heap.size,2,none⟩=some (.int .i64 0):=row_e9 HS.out.res 2 _ rfl
   have g3:W5.frozen? ⟨w.heap.size,3,none⟩=false:=own_frozen HS.out.res 3
   have c3:W5.cell? ⟨w.heap.size,3,none⟩=some (.int .i64 0):=row_e9 HS.out.res 3 _ rfl
   have g4:W5.frozen? ⟨w.heap.size,4,none⟩=false:=own_frozen HS.out.res 4
   have c4:W5.cell? ⟨w.heap.size,4,none⟩=some (.int .i64 0):=row_e9 HS.out.res 4 _ rfl
   have g5:W5.frozen? ⟨w.heap.size,5,none⟩=false:=own_frozen HS.out.res 5
   have c5:W5.cell? ⟨w.heap.size,5,none⟩=some (.int .i64 0):=row_e9 HS.out.res 5 _ rfl
   have g6:W5.frozen? ⟨w.heap.size,6,none⟩=false:=own_frozen HS.out.res 6
   have c6:W5.cell? ⟨w.heap.size,6,none⟩=some (.int .i64 0):=row_e9 HS.out.res 6 _ rfl
   have g7:W5.frozen? ⟨w.heap.size,7,none⟩=false:=own_frozen HS.out.res 7
   have c7:W5.cell? ⟨w.heap.size,7,none⟩=some (.int .i64 0):=row_e9 HS.out.res 7 _ rfl
   have g8:W5.frozen? ⟨w.heap.size,8,none⟩=false:=own_frozen HS.out.res 8
   have c8:W5.cell? ⟨w.heap.size,8,none⟩=some (.int .i64 0):=row_e9 HS.out.res 8 _ rfl
   go_wp2_with (fail)
   have hz:=(((((((((HS.out.put 0 (.int .u8 2)).put 1 (.int .u8 x1)).put 2 (.int .i64 x2)).put 3 (.int .i64 x3)).put 4 (.int .i64 0)).put 5 (.int .i64 0)).put 6 (.int .i64 0)).put 7 (.int .i64 0)).put 8 (.int .i64 x8))
   have hI:insD code mem s=((⟨2,x1,x2,x3,0,0,0,0,x8⟩:Ins),t5):=by
    unfold insD
    simp only [H1.out,show ((2:Int)==2)=true by decide,show ((2:Int)==1)=false by decide,show dB 2=true by decide,show aB 2=true by decide,show adB 2=false by decide,show toB 2=false by decide,bB,ht,optR,cond_true,cond_false,Bool.true_and,Bool.false_and,H2.out,H3.out,H4.out,H5.out]
   rw [hI]
   exact p_ret rowI rfl hz.res rfl rfl rfl ⟨rfl,hz.st⟩
theorem rdi_3 {w:World} {p:Nat} {L:List UInt8} {a:Option Addr} {c:Nat} {s:Bst} (h:Rst p L a c s w) (code mem:Int) (hc:0≤code∧code≤1000000) (hm:0≤mem∧mem≤1000000) (hk:(smR 11 s).1=3):Calls Tryz.prog 34 #[.pointer (some ⟨p,0,none⟩),.int .i64 code,.int .i64 mem] w fun e w'=>e=.returned (insV (insD code mem s).1)∧Rds w p L a c (insD code mem s).2 w':=by
 have HC:Hid (∀ (X:World) (s:Bst) (m:Int),Rst p L a c s X→0≤m→m≤1000000→Calls Tryz.prog 32 #[.pointer (some ⟨p,0,none⟩),.int .i64 m] X fun e w'=>∃ x t,smR m s=(x,t)∧e=.returned (.int .i64 x)∧(0≤x∧x≤m)∧Rds X p L a c t w'):=fun X s m h h0 h1=>(rds_small h m h0 (by omega)).mono fun e w' q=>⟨_,_,rfl,q.1,smR_bd m h0 s,q.2⟩
 have HW:Hid (∀ (X:World) (s:Bst),Rst p L a c s X→Calls Tryz.prog 33 #[.pointer (some ⟨p,0,none⟩)] X fun e w'=>∃ x t,wdR s=(x,t)∧e=.returned (.int .i64 x)∧Rds X p L a c t w'):=fun X s h=>(rds_word h).mono fun e w' q=>⟨_,_,rfl,q.1,q.2⟩
 have HK:=Lib.hid hk
 clear hk
 have hlt:=h.lt
 have HS:Hid (Rds w p L a c s (w.alloc (.cells #[.int .u8 0,.int .u8 0,.int .i64 0,.int .i64 0,.int .i64 0,.int .i64 0,.int .i64 0,.int .i64 0,.int .i64 0] 75))∧Own (w.alloc (.cells #[.int .u8 0,.int .u8 0,.int .i64 0,.int .i64 0,.int .i64 0,.int .i64 0,.int .i64 0,.int .i64 0,.int .i64 0] 75)) w.heap.size 75 #[.int .u8 0,.int .u8 0,.int .i64 0,.int .i64 0,.int .i64 0,.int .i64 0,.int .i64 0,.int .i64 0,.int .i64 0]):=⟨(rds_new h).below (((Below.refl w.heap.size w).alloc (Nat.le_refl _) _)),Own.new w 75 #[.int .u8 0,.int .u8 0,.int .i64 0,.int .i64 0,.int .i64 0,.int .i64 0,.int .i64 0,.int .i64 0,.int .i64 0]⟩
 obtain ⟨W0,hW0⟩:∃ W,W=w.alloc (.cells #[.int .u8 0,.int .u8 0,.int .i64 0,.int .i64 0,.int .i64 0,.int .i64 0,.int .i64 0,.int .i64 0,.int .i64 0] 75):=⟨_,rfl⟩
 rw [← hW0] at HS
 have HW0:=Lib.hid hW0
 clear hW0 h
 go_enter Tryz.func34,Tryz.ntmps34
 go_upto_region 1 with fail
 rw [← HW0.out]
 clear HW0
 have e8:IntKind.u8.wrap (3:Int)=3:=by decide
 go_upto_region 2 with (go_at_call 32;refine (HC.out _ _ 11 HS.out.1.st (by decide) (by decide)).mono ?_;rintro e w2 ⟨x,t1,h1,rfl,_,hq⟩;obtain rfl:x=3:=by { have:=HK.out;rw [h1] at this;exact this };replace HS:=Lib.hid (And.intro (HS.out.1.trans hq) (hq.other HS.out.2 (by omega)));have H1:=Lib.hid h1;clear h1 hq)
 have HS:Hid (I2 w p L a c w.heap.size w2.heap.size t1 #[.int .u8 3,.int .u8 0,.int .i64 0,.int .i64 0,.int .i64 0,.int .i64 0,.int .i64 0,.int .i64 0,.int .i64 0] #[.int .u8 0,.int .u8 0,.int .i64 0,.int .i64 0,.int .i64 0,.int .i64 0,.int .i64 0,.int .i64 0,.int .i64 0] (w2.alloc (.cells #[.int .u8 3,.int .u8 0,.int .i64 0,.int .i64 0,.int .i64 0,.int .i64 0,.int .i64 0,.int .i64 0,.int .i64 0] 75))):=by
  have hb:Below w2.heap.size w2 (w2.alloc (.cells #[.int .u8 3,.int .u8 0,.int .i64 0,.int .i64 0,.int .i64 0,.int .i64 0,.int .i64 0,.int .i64 0,.int .i64 0] 75)):=(Below.refl _ _).alloc (Nat.le_refl _) _
  exact ⟨HS.out.1.below hb,Own.new w2 75 #[.int .u8 3,.int .u8 0,.int .i64 0,.int .i64 0,.int .i64 0,.int .i64 0,.int .i64 0,.int .i64 0,.int .i64 0],HS.out.2.below hb,hlt,Nat.le_refl _,HS.out.2.lt⟩
 generalize w2.alloc (.cells #[.int .u8 3,.int .u8 0,.int .i64 0,.int .i64 0,.int .i64 0,.int .i64 0,.int .i64 0,.int .i64 0,.int .i64 0] 75)=W1 at HS ⊢
 generalize w2.heap.size=q at HS ⊢
 have z0:W1.cell? ⟨q,0,none⟩=some (.int .u8 3):=HS.out.cell 0 _ rfl
 have z1:W1.cell? ⟨q,1,none⟩=some (.int .u8 0):=HS.out.cell 1 _ rfl
 have z2:W1.cell? ⟨q,2,none⟩=some (.int .i64 0):=HS.out.cell 2 _ rfl
 have z3:W1.cell? ⟨q,3,none⟩=some (.int .i64 0):=HS.out.cell 3 _ rfl
 have z4:W1.cell? ⟨q,4,none⟩=some (.int .i64 0):=HS.out.cell 4 _ rfl
 have z5:W1.cell? ⟨q,5,none⟩=some (.int .i64 0):=HS.out.cell 5 _ rfl
 have z6:W1.cell? ⟨q,6,none⟩=some (.int .i64 0):=HS.out.cell 6 _ rfl
 have z7:W1.cell? ⟨q,7,none⟩=some (.int .i64 0):=HS.out.cell 7 _ rfl
 have z8:W1.cell? ⟨q,8,none⟩=some (.int .i64 0):=HS.out.cell 8 _ rfl
 go_upto_region 6 with (first | (go_at_call 68;refine (r_uses3 _).mono ?_;rintro e w' ⟨rfl,rfl⟩))
 clear z0 z1 z2 z3 z4 z5 z6 z7 z8
 go_upto_region 7 with (go_at_call 32;refine (HC.out _ _ 16 HS.out.st.st (by decide) (by decide)).mono ?_;rintro e w3 ⟨x2,t2,h2,rfl,hb,hq⟩;replace HS:=Lib.hid (HS.out.call hq);have H2:=Lib.hid h2;have HB2:=Lib.hid hb;clear h2 hq hb;have f2:w3.frozen? ⟨q,2,none⟩=false:=own_frozen HS.out.own 2;have y2:w3.cell? ⟨q,2,none⟩=some (.int .i64 0):=HS.out.cell 2 _ rfl)
 replace HS:Hid (I2 w p L a c w.heap.size q t2 #[.int .u8 3,.int .u8 0,.int .i64 x2,.int .i64 0,.int .i64 0,.int .i64 0,.int .i64 0,.int .i64 0,.int .i64 0] #[.int .u8 0,.int .u8 0,.int .i64 0,.int .i64 0,.int .i64 0,.int .i64 0,.int .i64 0,.int .i64 0,.int .i64 0] (w3.setCell ⟨q,2,none⟩ (.int .i64 x2))):=HS.out.store 2 (.int .i64 x2)
 clear f2 y2
 generalize w3.setCell ⟨q,2,none⟩ (.int .i64 x2)=W2 at HS ⊢
 have z0:W2.cell? ⟨q,0,none⟩=some (.int .u8 3):=HS.out.cell 0 _ rfl
 have z1:W2.cell? ⟨q,1,none⟩=some (.int .u8 0):=HS.out.cell 1 _ rfl
 have z2:W2.cell? ⟨q,2,none⟩=some (.int .i64 x2):=HS.out.cell 2 _ rfl
 have z3:W2.cell? ⟨q,3,none⟩=some (.int .i64 0):=HS.out.cell 3 _ rfl
 have z4:W2.cell? ⟨q,4,none⟩=some (.int .i64 0):=HS.out.cell 4 _ rfl
 have z5:W2.cell? ⟨q,5,none⟩=some (.int .i64 0):=HS.out.cell 5 _ rfl
 have z6:W2.cell? ⟨q,6,none⟩=some (.int .i64 0):=HS.out.cell 6 _ rfl
 have z7:W2.cell? ⟨q,7,none⟩=some (.int .i64 0):=HS.out.cell 7 _ rfl
 have z8:W2.cell? ⟨q,8,none⟩=some (.int .i64 0):=HS.out.cell 8 _ rfl
 go_upto_region 14 with (first | (go_at_call 68;refine (r_uses3 _).mono ?_;rintro e w' ⟨rfl,rfl⟩))
 clear z0 z1 z2 z3 z4 z5 z6 z7 z8
 go_upto_region 15 with (go_at_call 32;refine (HC.out _ _ mem HS.out.st.st hm.1 hm.2).mono ?_;rintro e w4 ⟨x5,t3,h3,rfl,hb,hq⟩;replace HS:=Lib.hid (HS.out.call hq);have H3:=Lib.hid h3;have HB5:=Lib.hid hb;clear h3 hq hb;have f5:w4.frozen? ⟨q,5,none⟩=false:=own_frozen HS.out.own 5;have y5:w4.cell? ⟨q,5,none⟩=some (.int .i64 0):=HS.out.cell 5 _ rfl)
 replace HS:Hid (I2 w p L a c w.heap.size q t3 #[.int .u8 3,.int .u8 0,.int .i64 x2,.int .i64 0,.int .i64 0,.int .i64 x5,.int .i64 0,.int .i64 0,.int .i64 0] #[.int .u8 0,.int .u8 0,.int .i64 0,.int .i64 0,.int .i64 0,.int .i64 0,.int .i64 0,.int .i64 0,.int .i64 0] (w4.setCell ⟨q,5,none⟩ (.int .i64 x5))):=HS.out.store 5 (.int .i64 x5)
 clear f5 y5
 generalize w4.setCell ⟨q,5,none⟩ (.int .i64 x5)=W3 at HS ⊢
 have z0:W3.cell? ⟨q,0,none⟩=some (.int .u8 3):=HS.out.cell 0 _ rfl
 have z1:W3.cell? ⟨q,1,none⟩=some (.int .u8 0):=HS.out.cell 1 _ rfl
 have z2:W3.cell? ⟨q,2,none⟩=some (.int .i64 x2):=HS.out.cell 2 _ rfl
 have z3:W3.cell? ⟨q,3,none⟩=some (.int .i64 0):=HS.out.cell 3 _ rfl
 have z4:W3.cell? ⟨q,4,none⟩=some (.int .i64 0):=HS.out.cell 4 _ rfl
 have z5:W3.cell? ⟨q,5,none⟩=some (.int .i64 x5):=HS.out.cell 5 _ rfl
 have z6:W3.cell? ⟨q,6,none⟩=some (.int .i64 0):=HS.out.cell 6 _ rfl
 have z7:W3.cell? ⟨q,7,none⟩=some (.int .i64 0):=HS.out.cell 7 _ rfl
 have z8:W3.cell? ⟨q,8,none⟩=some (.int .i64 0):=HS.out.cell 8 _ rfl
 go_upto_region 17 with (first | (go_at_call 68;refine (r_uses3 _).mono ?_;rintro e w' ⟨rfl,rfl⟩))
 clear z0 z1 z2 z3 z4 z5 z6 z7 z8
 go_upto_region 18 with (go_at_call 32;refine (HC.out _ _ 4096 HS.out.st.st (by decide) (by decide)).mono ?_;rintro e w5 ⟨x8,t4,h4,rfl,hb,hq⟩;replace HS:=Lib.hid (HS.out.call hq);have H4:=Lib.hid h4;have HB8:=Lib.hid hb;clear h4 hq hb;have f8:w5.frozen? ⟨q,8,none⟩=false:=own_frozen HS.out.own 8;have y8:w5.cell? ⟨q,8,none⟩=some (.int .i64 0):=HS.out.cell 8 _ rfl)
 replace HS:Hid (I2 w p L a c w.heap.size q t4 #[.int .u8 3,.int .u8 0,.int .i64 x2,.int .i64 0,.int .i64 0,.int .i64 x5,.int .i64 0,.int .i64 0,.int .i64 x8] #[.int .u8 0,.int .u8 0,.int .i64 0,.int .i64 0,.int .i64 0,.int .i64 0,.int .i64 0,.int .i64 0,.int .i64 0] (w5.setCell ⟨q,8,none⟩ (.int .i64 x8))):=HS.out.store 8 (.int .i64 x8)
 clear f8 y8
 generalize w5.setCell ⟨q,8,none⟩ (.int .i64 x8)=W4 at HS ⊢
 have z0:W4.cell? ⟨q,0,none⟩=some (.int .u8 3):=HS.out.cell 0 _ rfl
 have z1:W4.cell? ⟨q,1,none⟩=some (.int .u8 0):=HS.out.cell 1 _ rfl
 have z2:W4.cell? ⟨q,2,none⟩=some (.int .i64 x2):=HS.out.cell 2 _ rfl
 have z3:W4.cell? ⟨q,3,none⟩=some (.int .i64 0):=HS.out.cell 3 _ rfl
 have z4:W4.cell? ⟨q,4,none⟩=some (.int .i64 0):=HS.out.cell 4 _ rfl
 have z5:W4.cell? ⟨q,5,none⟩=some (.int .i64 x5):=HS.out.cell 5 _ rfl
 have z6:W4.cell? ⟨q,6,none⟩=some (.int .i64 0):=HS.out.cell 6 _ rfl
 have z7:W4.cell? ⟨q,7,none⟩=some (.int .i64 0):=HS.out.cell 7 _ rfl
 have z8:W4.cell? ⟨q,8,none⟩=some (.int .i64 x8):=HS.out.cell 8 _ rfl
 have g0:W4.frozen? ⟨w.heap.size,0,none⟩=false:=own_frozen HS.out.res 0
 have c0:W4.cell? ⟨w.heap.size,0,none⟩=some (.int .u8 0):=row_e9 HS.out.res 0 _ rfl
 have g1:W4.frozen? ⟨w.heap.size,1,none⟩=false:=own_frozen HS.out.res 1
 have c1:W4.cell? ⟨w.heap.size,1,none⟩=some (.int .u8 0):=row_e9 HS.out.res 1 _ rfl
 have g2:W4.frozen? ⟨w.heap.size,2,none⟩=false:=own_frozen HS.out.res 2
 have c2:W4.cell? ⟨w.heap.size,2,none⟩=some (.int .i64 0):=row_e9 HS.out.res 2 _ rfl
 have g3:W4.frozen? ⟨w.heap.size,3,none⟩=false:=own_frozen HS.out.res 3
 have c3:W4.cell? ⟨w.heap.size,3,none⟩=some (.int .i64 0):=row_e9 HS.out.res 3 _ rfl
 have g4:W4.frozen? ⟨w.heap.size,4,none⟩=false:=own_frozen HS.out.res 4
 have c4:W4.cell? ⟨w.heap.size,4,none⟩=some (.int .i64 0):=row_e9 HS.out.res 4 _ rfl
 have g5:W4.frozen? ⟨w.heap.size,5,none⟩=false:=own_frozen HS.out.res 5
 have c5:W4.cell? ⟨w.heap.size,5,none⟩=some (.int .i64 0):=row_e9 HS.out.res 5 _ rfl
 have g6:W4.frozen? ⟨w.heap.size,6,none⟩=false:=own_frozen HS.out.res 6
 have c6:W4.cell? ⟨w.heap.size,6,none⟩=some (.int .i64 0):=row_e9 HS.out.res 6 _ rfl
 have g7:W4.frozen? ⟨w.heap.size,7,none⟩=false:=own_frozen HS.out.res 7
 have c7:W4.cell? ⟨w.heap.size,7,none⟩=some (.int .i64 0):=row_e9 HS.out.res 7 _ rfl
 have g8:W4.frozen? ⟨w.heap.size,8,none⟩=false:=own_frozen HS.out.res 8
 have c8:W4.cell? ⟨w.heap.size,8,none⟩=some (.int .i64 0):=row_e9 HS.out.res 8 _ rfl
 go_wp2_with (fail)
 have hz:=(((((((((HS.out.put 0 (.int .u8 3)).put 1 (.int .u8 0)).put 2 (.int .i64 x2)).put 3 (.int .i64 0)).put 4 (.int .i64 0)).put 5 (.int .i64 x5)).put 6 (.int .i64 0)).put 7 (.int .i64 0)).put 8 (.int .i64 x8))
 have hI:insD code mem s=((⟨3,0,x2,0,0,x5,0,0,x8⟩:Ins),t4):=by
  unfold insD
  simp only [H1.out,show ((3:Int)==2)=false by decide,show ((3:Int)==1)=false by decide,show dB 3=true by decide,show aB 3=false by decide,show adB 3=true by decide,show toB 3=false by decide,bB,optR,cond_true,cond_false,Bool.true_and,Bool.false_and,H2.out,H3.out,H4.out]
 rw [hI]
 exact p_ret rowI rfl hz.res rfl rfl rfl ⟨rfl,hz.st⟩
theorem rdi_4 {w:World} {p:Nat} {L:List UInt8} {a:Option Addr} {c:Nat} {s:Bst} (h:Rst p L a c s w) (code mem:Int) (hc:0≤code∧code≤1000000) (hm:0≤mem∧mem≤1000000) (hk:(smR 11 s).1=4):Calls Tryz.prog 34 #[.pointer (some ⟨p,0,none⟩),.int .i64 code,.int .i64 mem] w fun e w'=>e=.returned (insV (insD code mem s).1)∧Rds w p L a c (insD code mem s).2 w':=by
 have HC:Hid (∀ (X:World) (s:Bst) (m:Int),Rst p L a c s X→0≤m→m≤1000000→Calls Tryz.prog 32 #[.pointer (some ⟨p,0,none⟩),.int .i64 m] X fun e w'=>∃ x t,smR m s=(x,t)∧e=.returned (.int .i64 x)∧(0≤x∧x≤m)∧Rds X p L a c t w'):=fun X s m h h0 h1=>(rds_small h m h0 (by omega)).mono fun e w' q=>⟨_,_,rfl,q.1,smR_bd m h0 s,q.2⟩
 have HW:Hid (∀ (X:World) (s:Bst),Rst p L a c s X→Calls Tryz.prog 33 #[.pointer (some ⟨p,0,none⟩)] X fun e w'=>∃ x t,wdR s=(x,t)∧e=.returned (.int .i64 x)∧Rds X p L a c t w'):=fun X s h=>(rds_word h).mono fun e w' q=>⟨_,_,rfl,q.1,q.2⟩
 have HK:=Lib.hid hk
 clear hk
 have hlt:=h.lt
 have HS:Hid (Rds w p L a c s (w.alloc (.cells #[.int .u8 0,.int .u8 0,.int .i64 0,.int .i64 0,.int .i64 0,.int .i64 0,.int .i64 0,.int .i64 0,.int .i64 0] 75))∧Own (w.alloc (.cells #[.int .u8 0,.int .u8 0,.int .i64 0,.int .i64 0,.int .i64 0,.int .i64 0,.int .i64 0,.int .i64 0,.int .i64 0] 75)) w.heap.size 75 #[.int .u8 0,.int .u8 0,.int .i64 0,.int .i64 0,.int .i64 0,.int .i64 0,.int .i64 0,.int .i64 0,.int .i64 0]):=⟨(rds_new h).below (((Below.refl w.heap.size w).alloc (Nat.le_refl _) _)),Own.new w 75 #[.int .u8 0,.int .u8 0,.int .i64 0,.int .i64 0,.int .i64 0,.int .i64 0,.int .i64 0,.int .i64 0,.int .i64 0]⟩
 obtain ⟨W0,hW0⟩:∃ W,W=w.alloc (.cells #[.int .u8 0,.int .u8 0,.int .i64 0,.int .i64 0,.int .i64 0,.int .i64 0,.int .i64 0,.int .i64 0,.int .i64 0] 75):=⟨_,rfl⟩
 rw [← hW0] at HS
 have HW0:=Lib.hid hW0
 clear hW0 h
 go_enter Tryz.func34,Tryz.ntmps34
 go_upto_region 1 with fail
 rw [← HW0.out]
 clear HW0
 have e8:IntKind.u8.wrap (4:Int)=4:=by decide
 go_upto_region 2 with (go_at_call 32;refine (HC.out _ _ 11 HS.out.1.st (by decide) (by decide)).mono ?_;rintro e w2 ⟨x,t1,h1,rfl,_,hq⟩;obtain rfl:x=4:=by { have:=HK.out;rw [h1] at this;exact this };replace HS:=Lib.hid (And.intro (HS.out.1.trans hq) (hq.other HS.out.2 (by omega)));have H1:=Lib.hid h1;clear h1 hq)
 have HS:Hid (I2 w p L a c w.heap.size w2.heap.size t1 #[.int .u8 4,.int .u8 0,.int .i64 0,.int .i64 0,.int .i64 0,.int .i64 0,.int .i64 0,.int .i64 0,.int .i64 0] #[.int .u8 0,.int .u8 0,.int .i64 0,.int .i64 0,.int .i64 0,.int .i64 0,.int .i64 0,.int .i64 0,.int .i64 0] (w2.alloc (.cells #[.int .u8 4,.int .u8 0,.int .i64 0,.int .i64 0,.int .i64 0,.int .i64 0,.int .i64 0,.int .i64 0,.int .i64 0] 75))):=by
  have hb:Below w2.heap.size w2 (w2.alloc (.cells #[.int .u8 4,.int .u8 0,.int .i64 0,.int .i64 0,.int .i64 0,.int .i64 0,.int .i64 0,.int .i64 0,.int .i64 0] 75)):=(Below.refl _ _).alloc (Nat.le_refl _) _
  exact ⟨HS.out.1.below hb,Own.new w2 75 #[.int .u8 4,.int .u8 0,.int .i64 0,.int .i64 0,.int .i64 0,.int .i64 0,.int .i64 0,.int .i64 0,.int .i64 0],HS.out.2.below hb,hlt,Nat.le_refl _,HS.out.2.lt⟩
 generalize w2.alloc (.cells #[.int .u8 4,.int .u8 0,.int .i64 0,.int .i64 0,.int .i64 0,.int .i64 0,.int .i64 0,.int .i64 0,.int .i64 0] 75)=W1 at HS ⊢
 generalize w2.heap.size=q at HS ⊢
 have z0:W1.cell? ⟨q,0,none⟩=some (.int .u8 4):=HS.out.cell 0 _ rfl
 have z1:W1.cell? ⟨q,1,none⟩=some (.int .u8 0):=HS.out.cell 1 _ rfl
 have z2:W1.cell? ⟨q,2,none⟩=some (.int .i64 0):=HS.out.cell 2 _ rfl
 have z3:W1.cell? ⟨q,3,none⟩=some (.int .i64 0):=HS.out.cell 3 _ rfl
 have z4:W1.cell? ⟨q,4,none⟩=some (.int .i64 0):=HS.out.cell 4 _ rfl
 have z5:W1.cell? ⟨q,5,none⟩=some (.int .i64 0):=HS.out.cell 5 _ rfl
 have z6:W1.cell? ⟨q,6,none⟩=some (.int .i64 0):=HS.out.cell 6 _ rfl
 have z7:W1.cell? ⟨q,7,none⟩=some (.int .i64 0):=HS.out.cell 7 _ rfl
 have z8:W1.cell? ⟨q,8,none⟩=some (.int .i64 0):=HS.out.cell 8 _ rfl
 go_upto_region 8 with (first | (go_at_call 68;refine (r_uses4 _).mono ?_;rintro e w' ⟨rfl,rfl⟩))
 clear z0 z1 z2 z3 z4 z5 z6 z7 z8
 go_upto_region 9 with (go_at_call 32;refine (HC.out _ _ 16 HS.out.st.st (by decide) (by decide)).mono ?_;rintro e w3 ⟨x3,t2,h2,rfl,hb,hq⟩;replace HS:=Lib.hid (HS.out.call hq);have H2:=Lib.hid h2;have HB3:=Lib.hid hb;clear h2 hq hb;have f3:w3.frozen? ⟨q,3,none⟩=false:=own_frozen HS.out.own 3;have y3:w3.cell? ⟨q,3,none⟩=some (.int .i64 0):=HS.out.cell 3 _ rfl)
 replace HS:Hid (I2 w p L a c w.heap.size q t2 #[.int .u8 4,.int .u8 0,.int .i64 0,.int .i64 x3,.int .i64 0,.int .i64 0,.int .i64 0,.int .i64 0,.int .i64 0] #[.int .u8 0,.int .u8 0,.int .i64 0,.int .i64 0,.int .i64 0,.int .i64 0,.int .i64 0,.int .i64 0,.int .i64 0] (w3.setCell ⟨q,3,none⟩ (.int .i64 x3))):=HS.out.store 3 (.int .i64 x3)
 clear f3 y3
 generalize w3.setCell ⟨q,3,none⟩ (.int .i64 x3)=W2 at HS ⊢
 have z0:W2.cell? ⟨q,0,none⟩=some (.int .u8 4):=HS.out.cell 0 _ rfl
 have z1:W2.cell? ⟨q,1,none⟩=some (.int .u8 0):=HS.out.cell 1 _ rfl
 have z2:W2.cell? ⟨q,2,none⟩=some (.int .i64 0):=HS.out.cell 2 _ rfl
 have z3:W2.cell? ⟨q,3,none⟩=some (.int .i64 x3):=HS.out.cell 3 _ rfl
 have z4:W2.cell? ⟨q,4,none⟩=some (.int .i64 0):=HS.out.cell 4 _ rfl
 have z5:W2.cell? ⟨q,5,none⟩=some (.int .i64 0):=HS.out.cell 5 _ rfl
 have z6:W2.cell? ⟨q,6,none⟩=some (.int .i64 0):=HS.out.cell 6 _ rfl
 have z7:W2.cell? ⟨q,7,none⟩=some (.int .i64 0):=HS.out.cell 7 _ rfl
 have z8:W2.cell? ⟨q,8,none⟩=some (.int .i64 0):=HS.out.cell 8 _ rfl
 go_upto_region 14 with (first | (go_at_call 68;refine (r_uses4 _).mono ?_;rintro e w' ⟨rfl,rfl⟩))
 clear z0 z1 z2 z3 z4 z5 z6 z7 z8
 go_upto_region 15 with (go_at_call 32;refine (HC.out _ _ mem HS.out.st.st hm.1 hm.2).mono ?_;rintro e w4 ⟨x5,t3,h3,rfl,hb,hq⟩;replace HS:=Lib.hid (HS.out.call hq);have H3:=Lib.hid h3;have HB5:=Lib.hid hb;clear h3 hq hb;have f5:w4.frozen? ⟨q,5,none⟩=false:=own_frozen HS.out.own 5;have y5:w4.cell? ⟨q,5,none⟩=some (.int .i64 0):=HS.out.cell 5 _ rfl)
 replace HS:Hid (I2 w p L a c w.heap.size q t3 #[.int .u8 4,.int .u8 0,.int .i64 0,.int .i64 x3,.int .i64 0,.int .i64 x5,.int .i64 0,.int .i64 0,.int .i64 0] #[.int .u8 0,.int .u8 0,.int .i64 0,.int .i64 0,.int .i64 0,.int .i64 0,.int .i64 0,.int .i64 0,.int .i64 0] (w4.setCell ⟨q,5,none⟩ (.int .i64 x5))):=HS.out.store 5 (.int .i64 x5)
 clear f5 y5
 generalize w4.setCell ⟨q,5,none⟩ (.int .i64 x5)=W3 at HS ⊢
 have z0:W3.cell? ⟨q,0,none⟩=some (.int .u8 4):=HS.out.cell 0 _ rfl
 have z1:W3.cell? ⟨q,1,none⟩=some (.int .u8 0):=HS.out.cell 1 _ rfl
 have z2:W3.cell? ⟨q,2,none⟩=some (.int .i64 0):=HS.out.cell 2 _ rfl
 have z3:W3.cell? ⟨q,3,none⟩=some (.int .i64 x3):=HS.out.cell 3 _ rfl
 have z4:W3.cell? ⟨q,4,none⟩=some (.int .i64 0):=HS.out.cell 4 _ rfl
 have z5:W3.cell? ⟨q,5,none⟩=some (.int .i64 x5):=HS.out.cell 5 _ rfl
 have z6:W3.cell? ⟨q,6,none⟩=some (.int .i64 0):=HS.out.cell 6 _ rfl
 have z7:W3.cell? ⟨q,7,none⟩=some (.int .i64 0):=HS.out.cell 7 _ rfl
 have z8:W3.cell? ⟨q,8,none⟩=some (.int .i64 0):=HS.out.cell 8 _ rfl
 go_upto_region 17 with (first | (go_at_call 68;refine (r_uses4 _).mono ?_;rintro e w' ⟨rfl,rfl⟩))
 clear z0 z1 z2 z3 z4 z5 z6 z7 z8
 go_upto_region 18 with (go_at_call 32;refine (HC.out _ _ 4096 HS.out.st.st (by decide) (by decide)).mono ?_;rintro e w5 ⟨x8,t4,h4,rfl,hb,hq⟩;replace HS:=Lib.hid (HS.out.call hq);have H4:=Lib.hid h4;have HB8:=Lib.hid hb;clear h4 hq hb;have f8:w5.frozen? ⟨q,8,none⟩=false:=own_frozen HS.out.own 8;have y8:w5.cell? ⟨q,8,none⟩=some (.int .i64 0):=HS.out.cell 8 _ rfl)
 replace HS:Hid (I2 w p L a c w.heap.size q t4 #[.int .u8 4,.int .u8 0,.int .i64 0,.int .i64 x3,.int .i64 0,.int .i64 x5,.int .i64 0,.int .i64 0,.int .i64 x8] #[.int .u8 0,.int .u8 0,.int .i64 0,.int .i64 0,.int .i64 0,.int .i64 0,.int .i64 0,.int .i64 0,.int .i64 0] (w5.setCell ⟨q,8,none⟩ (.int .i64 x8))):=HS.out.store 8 (.int .i64 x8)
 clear f8 y8
 generalize w5.setCell ⟨q,8,none⟩ (.int .i64 x8)=W4 at HS ⊢
 have z0:W4.cell? ⟨q,0,none⟩=some (.int .u8 4):=HS.out.cell 0 _ rfl
 have z1:W4.cell? ⟨q,1,none⟩=some (.int .u8 0):=HS.out.cell 1 _ rfl
 have z2:W4.cell? ⟨q,2,none⟩=some (.int .i64 0):=HS.out.cell 2 _ rfl
 have z3:W4.cell? ⟨q,3,none⟩=some (.int .i64 x3):=HS.out.cell 3 _ rfl
 have z4:W4.cell? ⟨q,4,none⟩=some (.int .i64 0):=HS.out.cell 4 _ rfl
 have z5:W4.cell? ⟨q,5,none⟩=some (.int .i64 x5):=HS.out.cell 5 _ rfl
 have z6:W4.cell? ⟨q,6,none⟩=some (.int .i64 0):=HS.out.cell 6 _ rfl
 have z7:W4.cell? ⟨q,7,none⟩=some (.int .i64 0):=HS.out.cell 7 _ rfl
 have z8:W4.cell? ⟨q,8,none⟩=some (.int .i64 x8):=HS.out.cell 8 _ rfl
 have g0:W4.frozen? ⟨w.heap.size,0,none⟩=false:=own_frozen HS.out.res 0
 have c0:W4.cell? ⟨w.heap.size,0,none⟩=some (.int .u8 0):=row_e9 HS.out.res 0 _ rfl
 have g1:W4.frozen? ⟨w.heap.size,1,none⟩=false:=own_frozen HS.out.res 1
 have c1:W4.cell? ⟨w.heap.size,1,none⟩=some (.int .u8 0):=row_e9 HS.out.res 1 _ rfl
 have g2:W4.frozen? ⟨w.heap.size,2,none⟩=false:=own_frozen HS.out.res 2
 have c2:W4.cell? ⟨w.heap.size,2,none⟩=some (.int .i64 0):=row_e9 HS.out.res 2 _ rfl
 have g3:W4.frozen? ⟨w.heap.size,3,none⟩=false:=own_frozen HS.out.res 3
 have c3:W4.cell? ⟨w.heap.size,3,none⟩=some (.int .i64 0):=row_e9 HS.out.res 3 _ rfl
 have g4:W4.frozen? ⟨w.heap.size,4,none⟩=false:=own_frozen HS.out.res 4
 have c4:W4.cell? ⟨w.heap.size,4,none⟩=some (.int .i64 0):=row_e9 HS.out.res 4 _ rfl
 have g5:W4.frozen? ⟨w.heap.size,5,none⟩=false:=own_frozen HS.out.res 5
 have c5:W4.cell? ⟨w.heap.size,5,none⟩=some (.int .i64 0):=row_e9 HS.out.res 5 _ rfl
 have g6:W4.frozen? ⟨w.heap.size,6,none⟩=false:=own_frozen HS.out.res 6
 have c6:W4.cell? ⟨w.heap.size,6,none⟩=some (.int .i64 0):=row_e9 HS.out.res 6 _ rfl
 have g7:W4.frozen? ⟨w.heap.size,7,none⟩=false:=own_frozen HS.out.res 7
 have c7:W4.cell? ⟨w.heap.size,7,none⟩=some (.int .i64 0):=row_e9 HS.out.res 7 _ rfl
 have g8:W4.frozen? ⟨w.heap.size,8,none⟩=false:=own_frozen HS.out.res 8
 have c8:W4.cell? ⟨w.heap.size,8,none⟩=some (.int .i64 0):=row_e9 HS.out.res 8 _ rfl
 go_wp2_with (fail)
 have hz:=(((((((((HS.out.put 0 (.int .u8 4)).put 1 (.int .u8 0)).put 2 (.int .i64 0)).put 3 (.int .i64 x3)).put 4 (.int .i64 0)).put 5 (.int .i64 x5)).put 6 (.int .i64 0)).put 7 (.int .i64 0)).put 8 (.int .i64 x8))
 have hI:insD code mem s=((⟨4,0,0,x3,0,x5,0,0,x8⟩:Ins),t4):=by
  unfold insD
  simp only [H1.out,show ((4:Int)==2)=false by decide,show ((4:Int)==1)=false by decide,show dB 4=false by decide,show aB 4=true by decide,show adB 4=true by decide,show toB 4=false by decide,bB,optR,cond_true,cond_false,Bool.true_and,Bool.false_and,H2.out,H3.out,H4.out]
 rw [hI]
 exact p_ret rowI rfl hz.res rfl rfl rfl ⟨rfl,hz.st⟩
theorem rdi_5 {w:World} {p:Nat} {L:List UInt8} {a:Option Addr} {c:Nat} {s:Bst} (h:Rst p L a c s w) (code mem:Int) (hc:0≤code∧code≤1000000) (hm:0≤mem∧mem≤1000000) (hk:(smR 11 s).1=5):Calls Tryz.prog 34 #[.pointer (some ⟨p,0,none⟩),.int .i64 code,.int .i64 mem] w fun e w'=>e=.returned (insV (insD code mem s).1)∧Rds w p L a c (insD code mem s).2 w':=by
 have HC:Hid (∀ (X:World) (s:Bst) (m:Int),Rst p L a c s X→0≤m→m≤1000000→Calls Tryz.prog 32 #[.pointer (some ⟨p,0,none⟩),.int .i64 m] X fun e w'=>∃ x t,smR m s=(x,t)∧e=.returned (.int .i64 x)∧(0≤x∧x≤m)∧Rds X p L a c t w'):=fun X s m h h0 h1=>(rds_small h m h0 (by omega)).mono fun e w' q=>⟨_,_,rfl,q.1,smR_bd m h0 s,q.2⟩
 have HW:Hid (∀ (X:World) (s:Bst),Rst p L a c s X→Calls Tryz.prog 33 #[.pointer (some ⟨p,0,none⟩)] X fun e w'=>∃ x t,wdR s=(x,t)∧e=.returned (.int .i64 x)∧Rds X p L a c t w'):=fun X s h=>(rds_word h).mono fun e w' q=>⟨_,_,rfl,q.1,q.2⟩
 have HK:=Lib.hid hk
 clear hk
 have hlt:=h.lt
 have HS:Hid (Rds w p L a c s (w.alloc (.cells #[.int .u8 0,.int .u8 0,.int .i64 0,.int .i64 0,.int .i64 0,.int .i64 0,.int .i64 0,.int .i64 0,.int .i64 0] 75))∧Own (w.alloc (.cells #[.int .u8 0,.int .u8 0,.int .i64 0,.int .i64 0,.int .i64 0,.int .i64 0,.int .i64 0,.int .i64 0,.int .i64 0] 75)) w.heap.size 75 #[.int .u8 0,.int .u8 0,.int .i64 0,.int .i64 0,.int .i64 0,.int .i64 0,.int .i64 0,.int .i64 0,.int .i64 0]):=⟨(rds_new h).below (((Below.refl w.heap.size w).alloc (Nat.le_refl _) _)),Own.new w 75 #[.int .u8 0,.int .u8 0,.int .i64 0,.int .i64 0,.int .i64 0,.int .i64 0,.int .i64 0,.int .i64 0,.int .i64 0]⟩
 obtain ⟨W0,hW0⟩:∃ W,W=w.alloc (.cells #[.int .u8 0,.int .u8 0,.int .i64 0,.int .i64 0,.int .i64 0,.int .i64 0,.int .i64 0,.int .i64 0,.int .i64 0] 75):=⟨_,rfl⟩
 rw [← hW0] at HS
 have HW0:=Lib.hid hW0
 clear hW0 h
 go_enter Tryz.func34,Tryz.ntmps34
 go_upto_region 1 with fail
 rw [← HW0.out]
 clear HW0
 have e8:IntKind.u8.wrap (5:Int)=5:=by decide
 go_upto_region 2 with (go_at_call 32;refine (HC.out _ _ 11 HS.out.1.st (by decide) (by decide)).mono ?_;rintro e w2 ⟨x,t1,h1,rfl,_,hq⟩;obtain rfl:x=5:=by { have:=HK.out;rw [h1] at this;exact this };replace HS:=Lib.hid (And.intro (HS.out.1.trans hq) (hq.other HS.out.2 (by omega)));have H1:=Lib.hid h1;clear h1 hq)
 have HS:Hid (I2 w p L a c w.heap.size w2.heap.size t1 #[.int .u8 5,.int .u8 0,.int .i64 0,.int .i64 0,.int .i64 0,.int .i64 0,.int .i64 0,.int .i64 0,.int .i64 0] #[.int .u8 0,.int .u8 0,.int .i64 0,.int .i64 0,.int .i64 0,.int .i64 0,.int .i64 0,.int .i64 0,.int .i64 0] (w2.alloc (.cells #[.int .u8 5,.int .u8 0,.int .i64 0,.int .i64 0,.int .i64 0,.int .i64 0,.int .i64 0,.int .i64 0,.int .i64 0] 75))):=by
  have hb:Below w2.heap.size w2 (w2.alloc (.cells #[.int .u8 5,.int .u8 0,.int .i64 0,.int .i64 0,.int .i64 0,.int .i64 0,.int .i64 0,.int .i64 0,.int .i64 0] 75)):=(Below.refl _ _).alloc (Nat.le_refl _) _
  exact ⟨HS.out.1.below hb,Own.new w2 75 #[.int .u8 5,.int .u8 0,.int .i64 0,.int .i64 0,.int .i64 0,.int .i64 0,.int .i64 0,.int .i64 0,.int .i64 0],HS.out.2.below hb,hlt,Nat.le_refl _,HS.out.2.lt⟩
 generalize w2.alloc (.cells #[.int .u8 5,.int .u8 0,.int .i64 0,.int .i64 0,.int .i64 0,.int .i64 0,.int .i64 0,.int .i64 0,.int .i64 0] 75)=W1 at HS ⊢
 generalize w2.heap.size=q at HS ⊢
 have z0:W1.cell? ⟨q,0,none⟩=some (.int .u8 5):=HS.out.cell 0 _ rfl
 have z1:W1.cell? ⟨q,1,none⟩=some (.int .u8 0):=HS.out.cell 1 _ rfl
 have z2:W1.cell? ⟨q,2,none⟩=some (.int .i64 0):=HS.out.cell 2 _ rfl
 have z3:W1.cell? ⟨q,3,none⟩=some (.int .i64 0):=HS.out.cell 3 _ rfl
 have z4:W1.cell? ⟨q,4,none⟩=some (.int .i64 0):=HS.out.cell 4 _ rfl
 have z5:W1.cell? ⟨q,5,none⟩=some (.int .i64 0):=HS.out.cell 5 _ rfl
 have z6:W1.cell? ⟨q,6,none⟩=some (.int .i64 0):=HS.out.cell 6 _ rfl
 have z7:W1.cell? ⟨q,7,none⟩=some (.int .i64 0):=HS.out.cell 7 _ rfl
 have z8:W1.cell? ⟨q,8,none⟩=some (.int .i64 0):=HS.out.cell 8 _ rfl
 go_upto_region 6 with (first | (go_at_call 68;refine (r_uses5 _).mono ?_;rintro e w' ⟨rfl,rfl⟩))
 clear z0 z1 z2 z3 z4 z5 z6 z7 z8
 go_upto_region 7 with (go_at_call 32;refine (HC.out _ _ 16 HS.out.st.st (by decide) (by decide)).mono ?_;rintro e w3 ⟨x2,t2,h2,rfl,hb,hq⟩;replace HS:=Lib.hid (HS.out.call hq);have H2:=Lib.hid h2;have HB2:=Lib.hid hb;clear h2 hq hb;have f2:w3.frozen? ⟨q,2,none⟩=false:=own_frozen HS.out.own 2;have y2:w3.cell? ⟨q,2,none⟩=some (.int .i64 0):=HS.out.cell 2 _ rfl)
 replace HS:Hid (I2 w p L a c w.heap.size q t2 #[.int .u8 5,.int .u8 0,.int .i64 x2,.int .i64 0,.int .i64 0,.int .i64 0,.int .i64 0,.int .i64 0,.int .i64 0] #[.int .u8 0,.int .u8 0,.int .i64 0,.int .i64 0,.int .i64 0,.int .i64 0,.int .i64 0,.int .i64 0,.int .i64 0] (w3.setCell ⟨q,2,none⟩ (.int .i64 x2))):=HS.out.store 2 (.int .i64 x2)
 clear f2 y2
 generalize w3.setCell ⟨q,2,none⟩ (.int .i64 x2)=W2 at HS ⊢
 have z0:W2.cell? ⟨q,0,none⟩=some (.int .u8 5):=HS.out.cell 0 _ rfl
 have z1:W2.cell? ⟨q,1,none⟩=some (.int .u8 0):=HS.out.cell 1 _ rfl
 have z2:W2.cell? ⟨q,2,none⟩=some (.int .i64 x2):=HS.out.cell 2 _ rfl
 have z3:W2.cell? ⟨q,3,none⟩=some (.int .i64 0):=HS.out.cell 3 _ rfl
 have z4:W2.cell? ⟨q,4,none⟩=some (.int .i64 0):=HS.out.cell 4 _ rfl
 have z5:W2.cell? ⟨q,5,none⟩=some (.int .i64 0):=HS.out.cell 5 _ rfl
 have z6:W2.cell? ⟨q,6,none⟩=some (.int .i64 0):=HS.out.cell 6 _ rfl
 have z7:W2.cell? ⟨q,7,none⟩=some (.int .i64 0):=HS.out.cell 7 _ rfl
 have z8:W2.cell? ⟨q,8,none⟩=some (.int .i64 0):=HS.out.cell 8 _ rfl
 go_upto_region 14 with (first | (go_at_call 68;refine (r_uses5 _).mono ?_;rintro e w' ⟨rfl,rfl⟩))
 clear z0 z1 z2 z3 z4 z5 z6 z7 z8
 go_upto_region 15 with (go_at_call 32;refine (HC.out _ _ mem HS.out.st.st hm.1 hm.2).mono ?_;rintro e w4 ⟨x5,t3,h3,rfl,hb,hq⟩;replace HS:=Lib.hid (HS.out.call hq);have H3:=Lib.hid h3;have HB5:=Lib.hid hb;clear h3 hq hb;have f5:w4.frozen? ⟨q,5,none⟩=false:=own_frozen HS.out.own 5;have y5:w4.cell? ⟨q,5,none⟩=some (.int .i64 0):=HS.out.cell 5 _ rfl)
 replace HS:Hid (I2 w p L a c w.heap.size q t3 #[.int .u8 5,.int .u8 0,.int .i64 x2,.int .i64 0,.int .i64 0,.int .i64 x5,.int .i64 0,.int .i64 0,.int .i64 0] #[.int .u8 0,.int .u8 0,.int .i64 0,.int .i64 0,.int .i64 0,.int .i64 0,.int .i64 0,.int .i64 0,.int .i64 0] (w4.setCell ⟨q,5,none⟩ (.int .i64 x5))):=HS.out.store 5 (.int .i64 x5)
 clear f5 y5
 generalize w4.setCell ⟨q,5,none⟩ (.int .i64 x5)=W3 at HS ⊢
 have z0:W3.cell? ⟨q,0,none⟩=some (.int .u8 5):=HS.out.cell 0 _ rfl
 have z1:W3.cell? ⟨q,1,none⟩=some (.int .u8 0):=HS.out.cell 1 _ rfl
 have z2:W3.cell? ⟨q,2,none⟩=some (.int .i64 x2):=HS.out.cell 2 _ rfl
 have z3:W3.cell? ⟨q,3,none⟩=some (.int .i64 0):=HS.out.cell 3 _ rfl
 have z4:W3.cell? ⟨q,4,none⟩=some (.int .i64 0):=HS.out.cell 4 _ rfl
 have z5:W3.cell? ⟨q,5,none⟩=some (.int .i64 x5):=HS.out.cell 5 _ rfl
 have z6:W3.cell? ⟨q,6,none⟩=some (.int .i64 0):=HS.out.cell 6 _ rfl
 have z7:W3.cell? ⟨q,7,none⟩=some (.int .i64 0):=HS.out.cell 7 _ rfl
 have z8:W3.cell? ⟨q,8,none⟩=some (.int .i64 0):=HS.out.cell 8 _ rfl
 go_upto_region 17 with (first | (go_at_call 68;refine (r_uses5 _).mono ?_;rintro e w' ⟨rfl,rfl⟩))
 clear z0 z1 z2 z3 z4 z5 z6 z7 z8
 go_upto_region 18 with (go_at_call 32;refine (HC.out _ _ 4096 HS.out.st.st (by decide) (by decide)).mono ?_;rintro e w5 ⟨x8,t4,h4,rfl,hb,hq⟩;replace HS:=Lib.hid (HS.out.call hq);have H4:=Lib.hid h4;have HB8:=Lib.hid hb;clear h4 hq hb;have f8:w5.frozen? ⟨q,8,none⟩=false:=own_frozen HS.out.own 8;have y8:w5.cell? ⟨q,8,none⟩=some (.int .i64 0):=HS.out.cell 8 _ rfl)
 replace HS:Hid (I2 w p L a c w.heap.size q t4 #[.int .u8 5,.int .u8 0,.int .i64 x2,.int .i64 0,.int .i64 0,.int .i64 x5,.int .i64 0,.int .i64 0,.int .i64 x8] #[.int .u8 0,.int .u8 0,.int .i64 0,.int .i64 0,.int .i64 0,.int .i64 0,.int .i64 0,.int .i64 0,.int .i64 0] (w5.setCell ⟨q,8,none⟩ (.int .i64 x8))):=HS.out.store 8 (.int .i64 x8)
 clear f8 y8
 generalize w5.setCell ⟨q,8,none⟩ (.int .i64 x8)=W4 at HS ⊢
 have z0:W4.cell? ⟨q,0,none⟩=some (.int .u8 5):=HS.out.cell 0 _ rfl
 have z1:W4.cell? ⟨q,1,none⟩=some (.int .u8 0):=HS.out.cell 1 _ rfl
 have z2:W4.cell? ⟨q,2,none⟩=some (.int .i64 x2):=HS.out.cell 2 _ rfl
 have z3:W4.cell? ⟨q,3,none⟩=some (.int .i64 0):=HS.out.cell 3 _ rfl
 have z4:W4.cell? ⟨q,4,none⟩=some (.int .i64 0):=HS.out.cell 4 _ rfl
 have z5:W4.cell? ⟨q,5,none⟩=some (.int .i64 x5):=HS.out.cell 5 _ rfl
 have z6:W4.cell? ⟨q,6,none⟩=some (.int .i64 0):=HS.out.cell 6 _ rfl
 have z7:W4.cell? ⟨q,7,none⟩=some (.int .i64 0):=HS.out.cell 7 _ rfl
 have z8:W4.cell? ⟨q,8,none⟩=some (.int .i64 x8):=HS.out.cell 8 _ rfl
 have g0:W4.frozen? ⟨w.heap.size,0,none⟩=false:=own_frozen HS.out.res 0
 have c0:W4.cell? ⟨w.heap.size,0,none⟩=some (.int .u8 0):=row_e9 HS.out.res 0 _ rfl
 have g1:W4.frozen? ⟨w.heap.size,1,none⟩=false:=own_frozen HS.out.res 1
 have c1:W4.cell? ⟨w.heap.size,1,none⟩=some (.int .u8 0):=row_e9 HS.out.res 1 _ rfl
 have g2:W4.frozen? ⟨w.heap.size,2,none⟩=false:=own_frozen HS.out.res 2
 have c2:W4.cell? ⟨w.heap.size,2,none⟩=some (.int .i64 0):=row_e9 HS.out.res 2 _ rfl
 have g3:W4.frozen? ⟨w.heap.size,3,none⟩=false:=own_frozen HS.out.res 3
 have c3:W4.cell? ⟨w.heap.size,3,none⟩=some (.int .i64 0):=row_e9 HS.out.res 3 _ rfl
 have g4:W4.frozen? ⟨w.heap.size,4,none⟩=false:=own_frozen HS.out.res 4
 have c4:W4.cell? ⟨w.heap.size,4,none⟩=some (.int .i64 0):=row_e9 HS.out.res 4 _ rfl
 have g5:W4.frozen? ⟨w.heap.size,5,none⟩=false:=own_frozen HS.out.res 5
 have c5:W4.cell? ⟨w.heap.size,5,none⟩=some (.int .i64 0):=row_e9 HS.out.res 5 _ rfl
 have g6:W4.frozen? ⟨w.heap.size,6,none⟩=false:=own_frozen HS.out.res 6
 have c6:W4.cell? ⟨w.heap.size,6,none⟩=some (.int .i64 0):=row_e9 HS.out.res 6 _ rfl
 have g7:W4.frozen? ⟨w.heap.size,7,none⟩=false:=own_frozen HS.out.res 7
 have c7:W4.cell? ⟨w.heap.size,7,none⟩=some (.int .i64 0):=row_e9 HS.out.res 7 _ rfl
 have g8:W4.frozen? ⟨w.heap.size,8,none⟩=false:=own_frozen HS.out.res 8
 have c8:W4.cell? ⟨w.heap.size,8,none⟩=some (.int .i64 0):=row_e9 HS.out.res 8 _ rfl
 go_wp2_with (fail)
 have hz:=(((((((((HS.out.put 0 (.int .u8 5)).put 1 (.int .u8 0)).put 2 (.int .i64 x2)).put 3 (.int .i64 0)).put 4 (.int .i64 0)).put 5 (.int .i64 x5)).put 6 (.int .i64 0)).put 7 (.int .i64 0)).put 8 (.int .i64 x8))
 have hI:insD code mem s=((⟨5,0,x2,0,0,x5,0,0,x8⟩:Ins),t4):=by
  unfold insD
  simp only [H1.out,show ((5:Int)==2)=false by decide,show ((5:Int)==1)=false by decide,show dB 5=true by decide,show aB 5=false by decide,show adB 5=true by decide,show toB 5=false by decide,bB,optR,cond_true,cond_false,Bool.true_and,Bool.false_and,H2.out,H3.out,H4.out]
 rw [hI]
 exact p_ret rowI rfl hz.res rfl rfl rfl ⟨rfl,hz.st⟩
theorem rdi_6 {w:World} {p:Nat} {L:List UInt8} {a:Option Addr} {c:Nat} {s:Bst} (h:Rst p L a c s w) (code mem:Int) (hc:0≤code∧code≤1000000) (hm:0≤mem∧mem≤1000000) (hk:(smR 11 s).1=6):Calls Tryz.prog 34 #[.pointer (some ⟨p,0,none⟩),.int .i64 code,.int .i64 mem] w fun e w'=>e=.returned (insV (insD code mem s).1)∧Rds w p L a c (insD code mem s).2 w':=by
 have HC:Hid (∀ (X:World) (s:Bst) (m:Int),Rst p L a c s X→0≤m→m≤1000000→Calls Tryz.prog 32 #[.pointer (some ⟨p,0,none⟩),.int .i64 m] X fun e w'=>∃ x t,smR m s=(x,t)∧e=.returned (.int .i64 x)∧(0≤x∧x≤m)∧Rds X p L a c t w'):=fun X s m h h0 h1=>(rds_small h m h0 (by omega)).mono fun e w' q=>⟨_,_,rfl,q.1,smR_bd m h0 s,q.2⟩
 have HW:Hid (∀ (X:World) (s:Bst),Rst p L a c s X→Calls Tryz.prog 33 #[.pointer (some ⟨p,0,none⟩)] X fun e w'=>∃ x t,wdR s=(x,t)∧e=.returned (.int .i64 x)∧Rds X p L a c t w'):=fun X s h=>(rds_word h).mono fun e w' q=>⟨_,_,rfl,q.1,q.2⟩
 have HK:=Lib.hid hk
 clear hk
 have hlt:=h.lt
 have HS:Hid (Rds w p L a c s (w.alloc (.cells #[.int .u8 0,.int .u8 0,.int .i64 0,.int .i64 0,.int .i64 0,.int .i64 0,.int .i64 0,.int .i64 0,.int .i64 0] 75))∧Own (w.alloc (.cells #[.int .u8 0,.int .u8 0,.int .i64 0,.int .i64 0,.int .i64 0,.int .i64 0,.int .i64 0,.int .i64 0,.int .i64 0] 75)) w.heap.size 75 #[.int .u8 0,.int .u8 0,.int .i64 0,.int .i64 0,.int .i64 0,.int .i64 0,.int .i64 0,.int .i64 0,.int .i64 0]):=⟨(rds_new h).below (((Below.refl w.heap.size w).alloc (Nat.le_refl _) _)),Own.new w 75 #[.int .u8 0,.int .u8 0,.int .i64 0,.int .i64 0,.int .i64 0,.int .i64 0,.int .i64 0,.int .i64 0,.int .i64 0]⟩
 obtain ⟨W0,hW0⟩:∃ W,W=w.alloc (.cells #[.int .u8 0,.int .u8 0,.int .i64 0,.int .i64 0,.int .i64 0,.int .i64 0,.int .i64 0,.int .i64 0,.int .i64 0] 75):=⟨_,rfl⟩
 rw [← hW0] at HS
 have HW0:=Lib.hid hW0
 clear hW0 h
 go_enter Tryz.func34,Tryz.ntmps34
 go_upto_region 1 with fail
 rw [← HW0.out]
 clear HW0
 have e8:IntKind.u8.wrap (6:Int)=6:=by decide
 go_upto_region 2 with (go_at_call 32;refine (HC.out _ _ 11 HS.out.1.st (by decide) (by decide)).mono ?_;rintro e w2 ⟨x,t1,h1,rfl,_,hq⟩;obtain rfl:x=6:=by { have:=HK.out;rw [h1] at this;exact this };replace HS:=Lib.hid (And.intro (HS.out.1.trans hq) (hq.other HS.out.2 (by omega)));have H1:=Lib.hid h1;clear h1 hq)
 have HS:Hid (I2 w p L a c w.heap.size w2.heap.size t1 #[.int .u8 6,.int .u8 0,.int .i64 0,.int .i64 0,.int .i64 0,.int .i64 0,.int .i64 0,.int .i64 0,.int .i64 0] #[.int .u8 0,.int .u8 0,.int .i64 0,.int .i64 0,.int .i64 0,.int .i64 0,.int .i64 0,.int .i64 0,.int .i64 0] (w2.alloc (.cells #[.int .u8 6,.int .u8 0,.int .i64 0,.int .i64 0,.int .i64 0,.int .i64 0,.int .i64 0,.int .i64 0,.int .i64 0] 75))):=by
  have hb:Below w2.heap.size w2 (w2.alloc (.cells #[.int .u8 6,.int .u8 0,.int .i64 0,.int .i64 0,.int .i64 0,.int .i64 0,.int .i64 0,.int .i64 0,.int .i64 0] 75)):=(Below.refl _ _).alloc (Nat.le_refl _) _
  exact ⟨HS.out.1.below hb,Own.new w2 75 #[.int .u8 6,.int .u8 0,.int .i64 0,.int .i64 0,.int .i64 0,.int .i64 0,.int .i64 0,.int .i64 0,.int .i64 0],HS.out.2.below hb,hlt,Nat.le_refl _,HS.out.2.lt⟩
 generalize w2.alloc (.cells #[.int .u8 6,.int .u8 0,.int .i64 0,.int .i64 0,.int .i64 0,.int .i64 0,.int .i64 0,.int .i64 0,.int .i64 0] 75)=W1 at HS ⊢
 generalize w2.heap.size=q at HS ⊢
 have z0:W1.cell? ⟨q,0,none⟩=some (.int .u8 6):=HS.out.cell 0 _ rfl
 have z1:W1.cell? ⟨q,1,none⟩=some (.int .u8 0):=HS.out.cell 1 _ rfl
 have z2:W1.cell? ⟨q,2,none⟩=some (.int .i64 0):=HS.out.cell 2 _ rfl
 have z3:W1.cell? ⟨q,3,none⟩=some (.int .i64 0):=HS.out.cell 3 _ rfl
 have z4:W1.cell? ⟨q,4,none⟩=some (.int .i64 0):=HS.out.cell 4 _ rfl
 have z5:W1.cell? ⟨q,5,none⟩=some (.int .i64 0):=HS.out.cell 5 _ rfl
 have z6:W1.cell? ⟨q,6,none⟩=some (.int .i64 0):=HS.out.cell 6 _ rfl
 have z7:W1.cell? ⟨q,7,none⟩=some (.int .i64 0):=HS.out.cell 7 _ rfl
 have z8:W1.cell? ⟨q,8,none⟩=some (.int .i64 0):=HS.out.cell 8 _ rfl
 go_upto_region 17 with (first | (go_at_call 68;refine (r_uses6 _).mono ?_;rintro e w' ⟨rfl,rfl⟩))
 clear z0 z1 z2 z3 z4 z5 z6 z7 z8
 go_upto_region 18 with (go_at_call 32;refine (HC.out _ _ 4096 HS.out.st.st (by decide) (by decide)).mono ?_;rintro e w3 ⟨x8,t2,h2,rfl,hb,hq⟩;replace HS:=Lib.hid (HS.out.call hq);have H2:=Lib.hid h2;have HB8:=Lib.hid hb;clear h2 hq hb;have f8:w3.frozen? ⟨q,8,none⟩=false:=own_frozen HS.out.own 8;have y8:w3.cell? ⟨q,8,none⟩=some (.int .i64 0):=HS.out.cell 8 _ rfl)
 replace HS:Hid (I2 w p L a c w.heap.size q t2 #[.int .u8 6,.int .u8 0,.int .i64 0,.int .i64 0,.int .i64 0,.int .i64 0,.int .i64 0,.int .i64 0,.int .i64 x8] #[.int .u8 0,.int .u8 0,.int .i64 0,.int .i64 0,.int .i64 0,.int .i64 0,.int .i64 0,.int .i64 0,.int .i64 0] (w3.setCell ⟨q,8,none⟩ (.int .i64 x8))):=HS.out.store 8 (.int .i64 x8)
 clear f8 y8
 generalize w3.setCell ⟨q,8,none⟩ (.int .i64 x8)=W2 at HS ⊢
 have z0:W2.cell? ⟨q,0,none⟩=some (.int .u8 6):=HS.out.cell 0 _ rfl
 have z1:W2.cell? ⟨q,1,none⟩=some (.int .u8 0):=HS.out.cell 1 _ rfl
 have z2:W2.cell? ⟨q,2,none⟩=some (.int .i64 0):=HS.out.cell 2 _ rfl
 have z3:W2.cell? ⟨q,3,none⟩=some (.int .i64 0):=HS.out.cell 3 _ rfl
 have z4:W2.cell? ⟨q,4,none⟩=some (.int .i64 0):=HS.out.cell 4 _ rfl
 have z5:W2.cell? ⟨q,5,none⟩=some (.int .i64 0):=HS.out.cell 5 _ rfl
 have z6:W2.cell? ⟨q,6,none⟩=some (.int .i64 0):=HS.out.cell 6 _ rfl
 have z7:W2.cell? ⟨q,7,none⟩=some (.int .i64 0):=HS.out.cell 7 _ rfl
 have z8:W2.cell? ⟨q,8,none⟩=some (.int .i64 x8):=HS.out.cell 8 _ rfl
 have g0:W2.frozen? ⟨w.heap.size,0,none⟩=false:=own_frozen HS.out.res 0
 have c0:W2.cell? ⟨w.heap.size,0,none⟩=some (.int .u8 0):=row_e9 HS.out.res 0 _ rfl
 have g1:W2.frozen? ⟨w.heap.size,1,none⟩=false:=own_frozen HS.out.res 1
 have c1:W2.cell? ⟨w.heap.size,1,none⟩=some (.int .u8 0):=row_e9 HS.out.res 1 _ rfl
 have g2:W2.frozen? ⟨w.heap.size,2,none⟩=false:=own_frozen HS.out.res 2
 have c2:W2.cell? ⟨w.heap.size,2,none⟩=some (.int .i64 0):=row_e9 HS.out.res 2 _ rfl
 have g3:W2.frozen? ⟨w.heap.size,3,none⟩=false:=own_frozen HS.out.res 3
 have c3:W2.cell? ⟨w.heap.size,3,none⟩=some (.int .i64 0):=row_e9 HS.out.res 3 _ rfl
 have g4:W2.frozen? ⟨w.heap.size,4,none⟩=false:=own_frozen HS.out.res 4
 have c4:W2.cell? ⟨w.heap.size,4,none⟩=some (.int .i64 0):=row_e9 HS.out.res 4 _ rfl
 have g5:W2.frozen? ⟨w.heap.size,5,none⟩=false:=own_frozen HS.out.res 5
 have c5:W2.cell? ⟨w.heap.size,5,none⟩=some (.int .i64 0):=row_e9 HS.out.res 5 _ rfl
 have g6:W2.frozen? ⟨w.heap.size,6,none⟩=false:=own_frozen HS.out.res 6
 have c6:W2.cell? ⟨w.heap.size,6,none⟩=some (.int .i64 0):=row_e9 HS.out.res 6 _ rfl
 have g7:W2.frozen? ⟨w.heap.size,7,none⟩=false:=own_frozen HS.out.res 7
 have c7:W2.cell? ⟨w.heap.size,7,none⟩=some (.int .i64 0):=row_e9 HS.out.res 7 _ rfl
 have g8:W2.frozen? ⟨w.heap.size,8,none⟩=false:=own_frozen HS.out.res 8
 have c8:W2.cell? ⟨w.heap.size,8,none⟩=some (.int .i64 0):=row_e9 HS.out.res 8 _ rfl
 go_wp2_with (fail)
 have hz:=(((((((((HS.out.put 0 (.int .u8 6)).put 1 (.int .u8 0)).put 2 (.int .i64 0)).put 3 (.int .i64 0)).put 4 (.int .i64 0)).put 5 (.int .i64 0)).put 6 (.int .i64 0)).put 7 (.int .i64 0)).put 8 (.int .i64 x8))
 have hI:insD code mem s=((⟨6,0,0,0,0,0,0,0,x8⟩:Ins),t2):=by
  unfold insD
  simp only [H1.out,show ((6:Int)==2)=false by decide,show ((6:Int)==1)=false by decide,show dB 6=false by decide,show aB 6=false by decide,show adB 6=false by decide,show toB 6=false by decide,bB,optR,cond_true,cond_false,Bool.true_and,Bool.false_and,H2.out]
 rw [hI]
 exact p_ret rowI rfl hz.res rfl rfl rfl ⟨rfl,hz.st⟩
theorem rdi_7 {w:World} {p:Nat} {L:List UInt8} {a:Option Addr} {c:Nat} {s:Bst} (h:Rst p L a c s w) (code mem:Int) (hc:0≤code∧code≤1000000) (hm:0≤mem∧mem≤1000000) (hk:(smR 11 s).1=7):Calls Tryz.prog 34 #[.pointer (some ⟨p,0,none⟩),.int .i64 code,.int .i64 mem] w fun e w'=>e=.returned (insV (insD code mem s).1)∧Rds w p L a c (insD code mem s).2 w':=by
 have HC:Hid (∀ (X:World) (s:Bst) (m:Int),Rst p L a c s X→0≤m→m≤1000000→Calls Tryz.prog 32 #[.pointer (some ⟨p,0,none⟩),.int .i64 m] X fun e w'=>∃ x t,smR m s=(x,t)∧e=.returned (.int .i64 x)∧(0≤x∧x≤m)∧Rds X p L a c t w'):=fun X s m h h0 h1=>(rds_small h m h0 (by omega)).mono fun e w' q=>⟨_,_,rfl,q.1,smR_bd m h0 s,q.2⟩
 have HW:Hid (∀ (X:World) (s:Bst),Rst p L a c s X→Calls Tryz.prog 33 #[.pointer (some ⟨p,0,none⟩)] X fun e w'=>∃ x t,wdR s=(x,t)∧e=.returned (.int .i64 x)∧Rds X p L a c t w'):=fun X s h=>(rds_word h).mono fun e w' q=>⟨_,_,rfl,q.1,q.2⟩
 have HK:=Lib.hid hk
 clear hk
 have hlt:=h.lt
 have HS:Hid (Rds w p L a c s (w.alloc (.cells #[.int .u8 0,.int .u8 0,.int .i64 0,.int .i64 0,.int .i64 0,.int .i64 0,.int .i64 0,.int .i64 0,.int .i64 0] 75))∧Own (w.alloc (.cells #[.int .u8 0,.int .u8 0,.int .i64 0,.int .i64 0,.int .i64 0,.int .i64 0,.int .i64 0,.int .i64 0,.int .i64 0] 75)) w.heap.size 75 #[.int .u8 0,.int .u8 0,.int .i64 0,.int .i64 0,.int .i64 0,.int .i64 0,.int .i64 0,.int .i64 0,.int .i64 0]):=⟨(rds_new h).below (((Below.refl w.heap.size w).alloc (Nat.le_refl _) _)),Own.new w 75 #[.int .u8 0,.int .u8 0,.int .i64 0,.int .i64 0,.int .i64 0,.int .i64 0,.int .i64 0,.int .i64 0,.int .i64 0]⟩
 obtain ⟨W0,hW0⟩:∃ W,W=w.alloc (.cells #[.int .u8 0,.int .u8 0,.int .i64 0,.int .i64 0,.int .i64 0,.int .i64 0,.int .i64 0,.int .i64 0,.int .i64 0] 75):=⟨_,rfl⟩
 rw [← hW0] at HS
 have HW0:=Lib.hid hW0
 clear hW0 h
 go_enter Tryz.func34,Tryz.ntmps34
 go_upto_region 1 with fail
 rw [← HW0.out]
 clear HW0
 have e8:IntKind.u8.wrap (7:Int)=7:=by decide
 go_upto_region 2 with (go_at_call 32;refine (HC.out _ _ 11 HS.out.1.st (by decide) (by decide)).mono ?_;rintro e w2 ⟨x,t1,h1,rfl,_,hq⟩;obtain rfl:x=7:=by { have:=HK.out;rw [h1] at this;exact this };replace HS:=Lib.hid (And.intro (HS.out.1.trans hq) (hq.other HS.out.2 (by omega)));have H1:=Lib.hid h1;clear h1 hq)
 have HS:Hid (I2 w p L a c w.heap.size w2.heap.size t1 #[.int .u8 7,.int .u8 0,.int .i64 0,.int .i64 0,.int .i64 0,.int .i64 0,.int .i64 0,.int .i64 0,.int .i64 0] #[.int .u8 0,.int .u8 0,.int .i64 0,.int .i64 0,.int .i64 0,.int .i64 0,.int .i64 0,.int .i64 0,.int .i64 0] (w2.alloc (.cells #[.int .u8 7,.int .u8 0,.int .i64 0,.int .i64 0,.int .i64 0,.int .i64 0,.int .i64 0,.int .i64 0,.int .i64 0] 75))):=by
  have hb:Below w2.heap.size w2 (w2.alloc (.cells #[.int .u8 7,.int .u8 0,.int .i64 0,.int .i64 0,.int .i64 0,.int .i64 0,.int .i64 0,.int .i64 0,.int .i64 0] 75)):=(Below.refl _ _).alloc (Nat.le_refl _) _
  exact ⟨HS.out.1.below hb,Own.new w2 75 #[.int .u8 7,.int .u8 0,.int .i64 0,.int .i64 0,.int .i64 0,.int .i64 0,.int .i64 0,.int .i64 0,.int .i64 0],HS.out.2.below hb,hlt,Nat.le_refl _,HS.out.2.lt⟩
 generalize w2.alloc (.cells #[.int .u8 7,.int .u8 0,.int .i64 0,.int .i64 0,.int .i64 0,.int .i64 0,.int .i64 0,.int .i64 0,.int .i64 0] 75)=W1 at HS ⊢
 generalize w2.heap.size=q at HS ⊢
 have z0:W1.cell? ⟨q,0,none⟩=some (.int .u8 7):=HS.out.cell 0 _ rfl
 have z1:W1.cell? ⟨q,1,none⟩=some (.int .u8 0):=HS.out.cell 1 _ rfl
 have z2:W1.cell? ⟨q,2,none⟩=some (.int .i64 0):=HS.out.cell 2 _ rfl
 have z3:W1.cell? ⟨q,3,none⟩=some (.int .i64 0):=HS.out.cell 3 _ rfl
 have z4:W1.cell? ⟨q,4,none⟩=some (.int .i64 0):=HS.out.cell 4 _ rfl
 have z5:W1.cell? ⟨q,5,none⟩=some (.int .i64 0):=HS.out.cell 5 _ rfl
 have z6:W1.cell? ⟨q,6,none⟩=some (.int .i64 0):=HS.out.cell 6 _ rfl
 have z7:W1.cell? ⟨q,7,none⟩=some (.int .i64 0):=HS.out.cell 7 _ rfl
 have z8:W1.cell? ⟨q,8,none⟩=some (.int .i64 0):=HS.out.cell 8 _ rfl
 go_upto_region 8 with (first | (go_at_call 68;refine (r_uses7 _).mono ?_;rintro e w' ⟨rfl,rfl⟩))
 clear z0 z1 z2 z3 z4 z5 z6 z7 z8
 go_upto_region 9 with (go_at_call 32;refine (HC.out _ _ 16 HS.out.st.st (by decide) (by decide)).mono ?_;rintro e w3 ⟨x3,t2,h2,rfl,hb,hq⟩;replace HS:=Lib.hid (HS.out.call hq);have H2:=Lib.hid h2;have HB3:=Lib.hid hb;clear h2 hq hb;have f3:w3.frozen? ⟨q,3,none⟩=false:=own_frozen HS.out.own 3;have y3:w3.cell? ⟨q,3,none⟩=some (.int .i64 0):=HS.out.cell 3 _ rfl)
 replace HS:Hid (I2 w p L a c w.heap.size q t2 #[.int .u8 7,.int .u8 0,.int .i64 0,.int .i64 x3,.int .i64 0,.int .i64 0,.int .i64 0,.int .i64 0,.int .i64 0] #[.int .u8 0,.int .u8 0,.int .i64 0,.int .i64 0,.int .i64 0,.int .i64 0,.int .i64 0,.int .i64 0,.int .i64 0] (w3.setCell ⟨q,3,none⟩ (.int .i64 x3))):=HS.out.store 3 (.int .i64 x3)
 clear f3 y3
 generalize w3.setCell ⟨q,3,none⟩ (.int .i64 x3)=W2 at HS ⊢
 have z0:W2.cell? ⟨q,0,none⟩=some (.int .u8 7):=HS.out.cell 0 _ rfl
 have z1:W2.cell? ⟨q,1,none⟩=some (.int .u8 0):=HS.out.cell 1 _ rfl
 have z2:W2.cell? ⟨q,2,none⟩=some (.int .i64 0):=HS.out.cell 2 _ rfl
 have z3:W2.cell? ⟨q,3,none⟩=some (.int .i64 x3):=HS.out.cell 3 _ rfl
 have z4:W2.cell? ⟨q,4,none⟩=some (.int .i64 0):=HS.out.cell 4 _ rfl
 have z5:W2.cell? ⟨q,5,none⟩=some (.int .i64 0):=HS.out.cell 5 _ rfl
 have z6:W2.cell? ⟨q,6,none⟩=some (.int .i64 0):=HS.out.cell 6 _ rfl
 have z7:W2.cell? ⟨q,7,none⟩=some (.int .i64 0):=HS.out.cell 7 _ rfl
 have z8:W2.cell? ⟨q,8,none⟩=some (.int .i64 0):=HS.out.cell 8 _ rfl
 go_upto_region 17 with (first | (go_at_call 68;refine (r_uses7 _).mono ?_;rintro e w' ⟨rfl,rfl⟩))
 clear z0 z1 z2 z3 z4 z5 z6 z7 z8
 go_upto_region 18 with (go_at_call 32;refine (HC.out _ _ 4096 HS.out.st.st (by decide) (by decide)).mono ?_;rintro e w4 ⟨x8,t3,h3,rfl,hb,hq⟩;replace HS:=Lib.hid (HS.out.call hq);have H3:=Lib.hid h3;have HB8:=Lib.hid hb;clear h3 hq hb;have f8:w4.frozen? ⟨q,8,none⟩=false:=own_frozen HS.out.own 8;have y8:w4.cell? ⟨q,8,none⟩=some (.int .i64 0):=HS.out.cell 8 _ rfl)
 replace HS:Hid (I2 w p L a c w.heap.size q t3 #[.int .u8 7,.int .u8 0,.int .i64 0,.int .i64 x3,.int .i64 0,.int .i64 0,.int .i64 0,.int .i64 0,.int .i64 x8] #[.int .u8 0,.int .u8 0,.int .i64 0,.int .i64 0,.int .i64 0,.int .i64 0,.int .i64 0,.int .i64 0,.int .i64 0] (w4.setCell ⟨q,8,none⟩ (.int .i64 x8))):=HS.out.store 8 (.int .i64 x8)
 clear f8 y8
 generalize w4.setCell ⟨q,8,none⟩ (.int .i64 x8)=W3 at HS ⊢
 have z0:W3.cell? ⟨q,0,none⟩=some (.int .u8 7):=HS.out.cell 0 _ rfl
 have z1:W3.cell? ⟨q,1,none⟩=some (.int .u8 0):=HS.out.cell 1 _ rfl
 have z2:W3.cell? ⟨q,2,none⟩=some (.int .i64 0):=HS.out.cell 2 _ rfl
 have z3:W3.cell? ⟨q,3,none⟩=some (.int .i64 x3):=HS.out.cell 3 _ rfl
 have z4:W3.cell? ⟨q,4,none⟩=some (.int .i64 0):=HS.out.cell 4 _ rfl
 have z5:W3.cell? ⟨q,5,none⟩=some (.int .i64 0):=HS.out.cell 5 _ rfl
 have z6:W3.cell? ⟨q,6,none⟩=some (.int .i64 0):=HS.out.cell 6 _ rfl
 have z7:W3.cell? ⟨q,7,none⟩=some (.int .i64 0):=HS.out.cell 7 _ rfl
 have z8:W3.cell? ⟨q,8,none⟩=some (.int .i64 x8):=HS.out.cell 8 _ rfl
 have g0:W3.frozen? ⟨w.heap.size,0,none⟩=false:=own_frozen HS.out.res 0
 have c0:W3.cell? ⟨w.heap.size,0,none⟩=some (.int .u8 0):=row_e9 HS.out.res 0 _ rfl
 have g1:W3.frozen? ⟨w.heap.size,1,none⟩=false:=own_frozen HS.out.res 1
 have c1:W3.cell? ⟨w.heap.size,1,none⟩=some (.int .u8 0):=row_e9 HS.out.res 1 _ rfl
 have g2:W3.frozen? ⟨w.heap.size,2,none⟩=false:=own_frozen HS.out.res 2
 have c2:W3.cell? ⟨w.heap.size,2,none⟩=some (.int .i64 0):=row_e9 HS.out.res 2 _ rfl
 have g3:W3.frozen? ⟨w.heap.size,3,none⟩=false:=own_frozen HS.out.res 3
 have c3:W3.cell? ⟨w.heap.size,3,none⟩=some (.int .i64 0):=row_e9 HS.out.res 3 _ rfl
 have g4:W3.frozen? ⟨w.heap.size,4,none⟩=false:=own_frozen HS.out.res 4
 have c4:W3.cell? ⟨w.heap.size,4,none⟩=some (.int .i64 0):=row_e9 HS.out.res 4 _ rfl
 have g5:W3.frozen? ⟨w.heap.size,5,none⟩=false:=own_frozen HS.out.res 5
 have c5:W3.cell? ⟨w.heap.size,5,none⟩=some (.int .i64 0):=row_e9 HS.out.res 5 _ rfl
 have g6:W3.frozen? ⟨w.heap.size,6,none⟩=false:=own_frozen HS.out.res 6
 have c6:W3.cell? ⟨w.heap.size,6,none⟩=some (.int .i64 0):=row_e9 HS.out.res 6 _ rfl
 have g7:W3.frozen? ⟨w.heap.size,7,none⟩=false:=own_frozen HS.out.res 7
 have c7:W3.cell? ⟨w.heap.size,7,none⟩=some (.int .i64 0):=row_e9 HS.out.res 7 _ rfl
 have g8:W3.frozen? ⟨w.heap.size,8,none⟩=false:=own_frozen HS.out.res 8
 have c8:W3.cell? ⟨w.heap.size,8,none⟩=some (.int .i64 0):=row_e9 HS.out.res 8 _ rfl
 go_wp2_with (fail)
 have hz:=(((((((((HS.out.put 0 (.int .u8 7)).put 1 (.int .u8 0)).put 2 (.int .i64 0)).put 3 (.int .i64 x3)).put 4 (.int .i64 0)).put 5 (.int .i64 0)).put 6 (.int .i64 0)).put 7 (.int .i64 0)).put 8 (.int .i64 x8))
 have hI:insD code mem s=((⟨7,0,0,x3,0,0,0,0,x8⟩:Ins),t3):=by
  unfold insD
  simp only [H1.out,show ((7:Int)==2)=false by decide,show ((7:Int)==1)=false by decide,show dB 7=false by decide,show aB 7=true by decide,show adB 7=false by decide,show toB 7=false by decide,bB,optR,cond_true,cond_false,Bool.true_and,Bool.false_and,H2.out,H3.out]
 rw [hI]
 exact p_ret rowI rfl hz.res rfl rfl rfl ⟨rfl,hz.st⟩
theorem rdi_8 {w:World} {p:Nat} {L:List UInt8} {a:Option Addr} {c:Nat} {s:Bst} (h:Rst p L a c s w) (code mem:Int) (hc:0≤code∧code≤1000000) (hm:0≤mem∧mem≤1000000) (hk:(smR 11 s).1=8):Calls Tryz.prog 34 #[.pointer (some ⟨p,0,none⟩),.int .i64 code,.int .i64 mem] w fun e w'=>e=.returned (insV (insD code mem s).1)∧Rds w p L a c (insD code mem s).2 w':=by
 have HC:Hid (∀ (X:World) (s:Bst) (m:Int),Rst p L a c s X→0≤m→m≤1000000→Calls Tryz.prog 32 #[.pointer (some ⟨p,0,none⟩),.int .i64 m] X fun e w'=>∃ x t,smR m s=(x,t)∧e=.returned (.int .i64 x)∧(0≤x∧x≤m)∧Rds X p L a c t w'):=fun X s m h h0 h1=>(rds_small h m h0 (by omega)).mono fun e w' q=>⟨_,_,rfl,q.1,smR_bd m h0 s,q.2⟩
 have HW:Hid (∀ (X:World) (s:Bst),Rst p L a c s X→Calls Tryz.prog 33 #[.pointer (some ⟨p,0,none⟩)] X fun e w'=>∃ x t,wdR s=(x,t)∧e=.returned (.int .i64 x)∧Rds X p L a c t w'):=fun X s h=>(rds_word h).mono fun e w' q=>⟨_,_,rfl,q.1,q.2⟩
 have HK:=Lib.hid hk
 clear hk
 have hlt:=h.lt
 have HS:Hid (Rds w p L a c s (w.alloc (.cells #[.int .u8 0,.int .u8 0,.int .i64 0,.int .i64 0,.int .i64 0,.int .i64 0,.int .i64 0,.int .i64 0,.int .i64 0] 75))∧Own (w.alloc (.cells #[.int .u8 0,.int .u8 0,.int .i64 0,.int .i64 0,.int .i64 0,.int .i64 0,.int .i64 0,.int .i64 0,.int .i64 0] 75)) w.heap.size 75 #[.int .u8 0,.int .u8 0,.int .i64 0,.int .i64 0,.int .i64 0,.int .i64 0,.int .i64 0,.int .i64 0,.int .i64 0]):=⟨(rds_new h).below (((Below.refl w.heap.size w).alloc (Nat.le_refl _) _)),Own.new w 75 #[.int .u8 0,.int .u8 0,.int .i64 0,.int .i64 0,.int .i64 0,.int .i64 0,.int .i64 0,.int .i64 0,.int .i64 0]⟩
 obtain ⟨W0,hW0⟩:∃ W,W=w.alloc (.cells #[.int .u8 0,.int .u8 0,.int .i64 0,.int .i64 0,.int .i64 0,.int .i64 0,.int .i64 0,.int .i64 0,.int .i64 0] 75):=⟨_,rfl⟩
 rw [← hW0] at HS
 have HW0:=Lib.hid hW0
 clear hW0 h
 go_enter Tryz.func34,Tryz.ntmps34
 go_upto_region 1 with fail
 rw [← HW0.out]
 clear HW0
 have e8:IntKind.u8.wrap (8:Int)=8:=by decide
 go_upto_region 2 with (go_at_call 32;refine (HC.out _ _ 11 HS.out.1.st (by decide) (by decide)).mono ?_;rintro e w2 ⟨x,t1,h1,rfl,_,hq⟩;obtain rfl:x=8:=by { have:=HK.out;rw [h1] at this;exact this };replace HS:=Lib.hid (And.intro (HS.out.1.trans hq) (hq.other HS.out.2 (by omega)));have H1:=Lib.hid h1;clear h1 hq)
 have HS:Hid (I2 w p L a c w.heap.size w2.heap.size t1 #[.int .u8 8,.int .u8 0,.int .i64 0,.int .i64 0,.int .i64 0,.int .i64 0,.int .i64 0,.int .i64 0,.int .i64 0] #[.int .u8 0,.int .u8 0,.int .i64 0,.int .i64 0,.int .i64 0,.int .i64 0,.int .i64 0,.int .i64 0,.int .i64 0] (w2.alloc (.cells #[.int .u8 8,.int .u8 0,.int .i64 0,.int .i64 0,.int .i64 0,.int .i64 0,.int .i64 0,.int .i64 0,.int .i64 0] 75))):=by
  have hb:Below w2.heap.size w2 (w2.alloc (.cells #[.int .u8 8,.int .u8 0,.int .i64 0,.int .i64 0,.int .i64 0,.int .i64 0,.int .i64 0,.int .i64 0,.int .i64 0] 75)):=(Below.refl _ _).alloc (Nat.le_refl _) _
  exact ⟨HS.out.1.below hb,Own.new w2 75 #[.int .u8 8,.int .u8 0,.int .i64 0,.int .i64 0,.int .i64 0,.int .i64 0,.int .i64 0,.int .i64 0,.int .i64 0],HS.out.2.below hb,hlt,Nat.le_refl _,HS.out.2.lt⟩
 generalize w2.alloc (.cells #[.int .u8 8,.int .u8 0,.int .i64 0,.int .i64 0,.int .i64 0,.int .i64 0,.int .i64 0,.int .i64 0,.int .i64 0] 75)=W1 at HS ⊢
 generalize w2.heap.size=q at HS ⊢
 have z0:W1.cell? ⟨q,0,none⟩=some (.int .u8 8):=HS.out.cell 0 _ rfl
 have z1:W1.cell? ⟨q,1,none⟩=some (.int .u8 0):=HS.out.cell 1 _ rfl
 have z2:W1.cell? ⟨q,2,none⟩=some (.int .i64 0):=HS.out.cell 2 _ rfl
 have z3:W1.cell? ⟨q,3,none⟩=some (.int .i64 0):=HS.out.cell 3 _ rfl
 have z4:W1.cell? ⟨q,4,none⟩=some (.int .i64 0):=HS.out.cell 4 _ rfl
 have z5:W1.cell? ⟨q,5,none⟩=some (.int .i64 0):=HS.out.cell 5 _ rfl
 have z6:W1.cell? ⟨q,6,none⟩=some (.int .i64 0):=HS.out.cell 6 _ rfl
 have z7:W1.cell? ⟨q,7,none⟩=some (.int .i64 0):=HS.out.cell 7 _ rfl
 have z8:W1.cell? ⟨q,8,none⟩=some (.int .i64 0):=HS.out.cell 8 _ rfl
 go_upto_region 16 with (first | (go_at_call 68;refine (r_uses8 _).mono ?_;rintro e w' ⟨rfl,rfl⟩))
 clear z0 z1 z2 z3 z4 z5 z6 z7 z8
 go_upto_region 17 with (go_at_call 32;refine (HC.out _ _ code HS.out.st.st hc.1 hc.2).mono ?_;rintro e w3 ⟨x6,t2,h2,rfl,hb,hq⟩;replace HS:=Lib.hid (HS.out.call hq);have H2:=Lib.hid h2;have HB6:=Lib.hid hb;clear h2 hq hb;have f6:w3.frozen? ⟨q,6,none⟩=false:=own_frozen HS.out.own 6;have y6:w3.cell? ⟨q,6,none⟩=some (.int .i64 0):=HS.out.cell 6 _ rfl)
 replace HS:Hid (I2 w p L a c w.heap.size q t2 #[.int .u8 8,.int .u8 0,.int .i64 0,.int .i64 0,.int .i64 0,.int .i64 0,.int .i64 x6,.int .i64 0,.int .i64 0] #[.int .u8 0,.int .u8 0,.int .i64 0,.int .i64 0,.int .i64 0,.int .i64 0,.int .i64 0,.int .i64 0,.int .i64 0] (w3.setCell ⟨q,6,none⟩ (.int .i64 x6))):=HS.out.store 6 (.int .i64 x6)
 clear f6 y6
 generalize w3.setCell ⟨q,6,none⟩ (.int .i64 x6)=W2 at HS ⊢
 have z0:W2.cell? ⟨q,0,none⟩=some (.int .u8 8):=HS.out.cell 0 _ rfl
 have z1:W2.cell? ⟨q,1,none⟩=some (.int .u8 0):=HS.out.cell 1 _ rfl
 have z2:W2.cell? ⟨q,2,none⟩=some (.int .i64 0):=HS.out.cell 2 _ rfl
 have z3:W2.cell? ⟨q,3,none⟩=some (.int .i64 0):=HS.out.cell 3 _ rfl
 have z4:W2.cell? ⟨q,4,none⟩=some (.int .i64 0):=HS.out.cell 4 _ rfl
 have z5:W2.cell? ⟨q,5,none⟩=some (.int .i64 0):=HS.out.cell 5 _ rfl
 have z6:W2.cell? ⟨q,6,none⟩=some (.int .i64 x6):=HS.out.cell 6 _ rfl
 have z7:W2.cell? ⟨q,7,none⟩=some (.int .i64 0):=HS.out.cell 7 _ rfl
 have z8:W2.cell? ⟨q,8,none⟩=some (.int .i64 0):=HS.out.cell 8 _ rfl
 go_upto_region 17 with (first | (go_at_call 68;refine (r_uses8 _).mono ?_;rintro e w' ⟨rfl,rfl⟩))
 clear z0 z1 z2 z3 z4 z5 z6 z7 z8
 go_upto_region 18 with (go_at_call 32;refine (HC.out _ _ 4096 HS.out.st.st (by decide) (by decide)).mono ?_;rintro e w4 ⟨x8,t3,h3,rfl,hb,hq⟩;replace HS:=Lib.hid (HS.out.call hq);have H3:=Lib.hid h3;have HB8:=Lib.hid hb;clear h3 hq hb;have f8:w4.frozen? ⟨q,8,none⟩=false:=own_frozen HS.out.own 8;have y8:w4.cell? ⟨q,8,none⟩=some (.int .i64 0):=HS.out.cell 8 _ rfl)
 replace HS:Hid (I2 w p L a c w.heap.size q t3 #[.int .u8 8,.int .u8 0,.int .i64 0,.int .i64 0,.int .i64 0,.int .i64 0,.int .i64 x6,.int .i64 0,.int .i64 x8] #[.int .u8 0,.int .u8 0,.int .i64 0,.int .i64 0,.int .i64 0,.int .i64 0,.int .i64 0,.int .i64 0,.int .i64 0] (w4.setCell ⟨q,8,none⟩ (.int .i64 x8))):=HS.out.store 8 (.int .i64 x8)
 clear f8 y8
 generalize w4.setCell ⟨q,8,none⟩ (.int .i64 x8)=W3 at HS ⊢
 have z0:W3.cell? ⟨q,0,none⟩=some (.int .u8 8):=HS.out.cell 0 _ rfl
 have z1:W3.cell? ⟨q,1,none⟩=some (.int .u8 0):=HS.out.cell 1 _ rfl
 have z2:W3.cell? ⟨q,2,none⟩=some (.int .i64 0):=HS.out.cell 2 _ rfl
 have z3:W3.cell? ⟨q,3,none⟩=some (.int .i64 0):=HS.out.cell 3 _ rfl
 have z4:W3.cell? ⟨q,4,none⟩=some (.int .i64 0):=HS.out.cell 4 _ rfl
 have z5:W3.cell? ⟨q,5,none⟩=some (.int .i64 0):=HS.out.cell 5 _ rfl
 have z6:W3.cell? ⟨q,6,none⟩=some (.int .i64 x6):=HS.out.cell 6 _ rfl
 have z7:W3.cell? ⟨q,7,none⟩=some (.int .i64 0):=HS.out.cell 7 _ rfl
 have z8:W3.cell? ⟨q,8,none⟩=some (.int .i64 x8):=HS.out.cell 8 _ rfl
 have g0:W3.frozen? ⟨w.heap.size,0,none⟩=false:=own_frozen HS.out.res 0
 have c0:W3.cell? ⟨w.heap.size,0,none⟩=some (.int .u8 0):=row_e9 HS.out.res 0 _ rfl
 have g1:W3.frozen? ⟨w.heap.size,1,none⟩=false:=own_frozen HS.out.res 1
 have c1:W3.cell? ⟨w.heap.size,1,none⟩=some (.int .u8 0):=row_e9 HS.out.res 1 _ rfl
 have g2:W3.frozen? ⟨w.heap.size,2,none⟩=false:=own_frozen HS.out.res 2
 have c2:W3.cell? ⟨w.heap.size,2,none⟩=some (.int .i64 0):=row_e9 HS.out.res 2 _ rfl
 have g3:W3.frozen? ⟨w.heap.size,3,none⟩=false:=own_frozen HS.out.res 3
 have c3:W3.cell? ⟨w.heap.size,3,none⟩=some (.int .i64 0):=row_e9 HS.out.res 3 _ rfl
 have g4:W3.frozen? ⟨w.heap.size,4,none⟩=false:=own_frozen HS.out.res 4
 have c4:W3.cell? ⟨w.heap.size,4,none⟩=some (.int .i64 0):=row_e9 HS.out.res 4 _ rfl
 have g5:W3.frozen? ⟨w.heap.size,5,none⟩=false:=own_frozen HS.out.res 5
 have c5:W3.cell? ⟨w.heap.size,5,none⟩=some (.int .i64 0):=row_e9 HS.out.res 5 _ rfl
 have g6:W3.frozen? ⟨w.heap.size,6,none⟩=false:=own_frozen HS.out.res 6
 have c6:W3.cell? ⟨w.heap.size,6,none⟩=some (.int .i64 0):=row_e9 HS.out.res 6 _ rfl
 have g7:W3.frozen? ⟨w.heap.size,7,none⟩=false:=own_frozen HS.out.res 7
 have c7:W3.cell? ⟨w.heap.size,7,none⟩=some (.int .i64 0):=row_e9 HS.out.res 7 _ rfl
 have g8:W3.frozen? ⟨w.heap.size,8,none⟩=false:=own_frozen HS.out.res 8
 have c8:W3.cell? ⟨w.heap.size,8,none⟩=some (.int .i64 0):=row_e9 HS.out.res 8 _ rfl
 go_wp2_with (fail)
 have hz:=(((((((((HS.out.put 0 (.int .u8 8)).put 1 (.int .u8 0)).put 2 (.int .i64 0)).put 3 (.int .i64 0)).put 4 (.int .i64 0)).put 5 (.int .i64 0)).put 6 (.int .i64 x6)).put 7 (.int .i64 0)).put 8 (.int .i64 x8))
 have hI:insD code mem s=((⟨8,0,0,0,0,0,x6,0,x8⟩:Ins),t3):=by
  unfold insD
  simp only [H1.out,show ((8:Int)==2)=false by decide,show ((8:Int)==1)=false by decide,show dB 8=false by decide,show aB 8=false by decide,show adB 8=false by decide,show toB 8=true by decide,bB,optR,cond_true,cond_false,Bool.true_and,Bool.false_and,H2.out,H3.out]
 rw [hI]
 exact p_ret rowI rfl hz.res rfl rfl rfl ⟨rfl,hz.st⟩
theorem rdi_9 {w:World} {p:Nat} {L:List UInt8} {a:Option Addr} {c:Nat} {s:Bst} (h:Rst p L a c s w) (code mem:Int) (hc:0≤code∧code≤1000000) (hm:0≤mem∧mem≤1000000) (hk:(smR 11 s).1=9):Calls Tryz.prog 34 #[.pointer (some ⟨p,0,none⟩),.int .i64 code,.int .i64 mem] w fun e w'=>e=.returned (insV (insD code mem s).1)∧Rds w p L a c (insD code mem s).2 w':=by
 have HC:Hid (∀ (X:World) (s:Bst) (m:Int),Rst p L a c s X→0≤m→m≤1000000→Calls Tryz.prog 32 #[.pointer (some ⟨p,0,none⟩),.int .i64 m] X fun e w'=>∃ x t,smR m s=(x,t)∧e=.returned (.int .i64 x)∧(0≤x∧x≤m)∧Rds X p L a c t w'):=fun X s m h h0 h1=>(rds_small h m h0 (by omega)).mono fun e w' q=>⟨_,_,rfl,q.1,smR_bd m h0 s,q.2⟩
 have HW:Hid (∀ (X:World) (s:Bst),Rst p L a c s X→Calls Tryz.prog 33 #[.pointer (some ⟨p,0,none⟩)] X fun e w'=>∃ x t,wdR s=(x,t)∧e=.returned (.int .i64 x)∧Rds X p L a c t w'):=fun X s h=>(rds_word h).mono fun e w' q=>⟨_,_,rfl,q.1,q.2⟩
 have HK:=Lib.hid hk
 clear hk
 have hlt:=h.lt
 have HS:Hid (Rds w p L a c s (w.alloc (.cells #[.int .u8 0,.int .u8 0,.int .i64 0,.int .i64 0,.int .i64 0,.int .i64 0,.int .i64 0,.int .i64 0,.int .i64 0] 75))∧Own (w.alloc (.cells #[.int .u8 0,.int .u8 0,.int .i64 0,.int .i64 0,.int .i64 0,.int .i64 0,.int .i64 0,.int .i64 0,.int .i64 0] 75)) w.heap.size 75 #[.int .u8 0,.int .u8 0,.int .i64 0,.int .i64 0,.int .i64 0,.int .i64 0,.int .i64 0,.int .i64 0,.int .i64 0]):=⟨(rds_new h).below (((Below.refl w.heap.size w).alloc (Nat.le_refl _) _)),Own.new w 75 #[.int .u8 0,.int .u8 0,.int .i64 0,.int .i64 0,.int .i64 0,.int .i64 0,.int .i64 0,.int .i64 0,.int .i64 0]⟩
 obtain ⟨W0,hW0⟩:∃ W,W=w.alloc (.cells #[.int .u8 0,.int .u8 0,.int .i64 0,.int .i64 0,.int .i64 0,.int .i64 0,.int .i64 0,.int .i64 0,.int .i64 0] 75):=⟨_,rfl⟩
 rw [← hW0] at HS
 have HW0:=Lib.hid hW0
 clear hW0 h
 go_enter Tryz.func34,Tryz.ntmps34
 go_upto_region 1 with fail
 rw [← HW0.out]
 clear HW0
 have e8:IntKind.u8.wrap (9:Int)=9:=by decide
 go_upto_region 2 with (go_at_call 32;refine (HC.out _ _ 11 HS.out.1.st (by decide) (by decide)).mono ?_;rintro e w2 ⟨x,t1,h1,rfl,_,hq⟩;obtain rfl:x=9:=by { have:=HK.out;rw [h1] at this;exact this };replace HS:=Lib.hid (And.intro (HS.out.1.trans hq) (hq.other HS.out.2 (by omega)));have H1:=Lib.hid h1;clear h1 hq)
 have HS:Hid (I2 w p L a c w.heap.size w2.heap.size t1 #[.int .u8 9,.int .u8 0,.int .i64 0,.int .i64 0,.int .i64 0,.int .i64 0,.int .i64 0,.int .i64 0,.int .i64 0] #[.int .u8 0,.int .u8 0,.int .i64 0,.int .i64 0,.int .i64 0,.int .i64 0,.int .i64 0,.int .i64 0,.int .i64 0] (w2.alloc (.cells #[.int .u8 9,.int .u8 0,.int .i64 0,.int .i64 0,.int .i64 0,.int .i64 0,.int .i64 0,.int .i64 0,.int .i64 0] 75))):=by
  have hb:Below w2.heap.size w2 (w2.alloc (.cells #[.int .u8 9,.int .u8 0,.int .i64 0,.int .i64 0,.int .i64 0,.int .i64 0,.int .i64 0,.int .i64 0,.int .i64 0] 75)):=(Below.refl _ _).alloc (Nat.le_refl _) _
  exact ⟨HS.out.1.below hb,Own.new w2 75 #[.int .u8 9,.int .u8 0,.int .i64 0,.int .i64 0,.int .i64 0,.int .i64 0,.int .i64 0,.int .i64 0,.int .i64 0],HS.out.2.below hb,hlt,Nat.le_refl _,HS.out.2.lt⟩
 generalize w2.alloc (.cells #[.int .u8 9,.int .u8 0,.int .i64 0,.int .i64 0,.int .i64 0,.int .i64 0,.int .i64 0,.int .i64 0,.int .i64 0] 75)=W1 at HS ⊢
 generalize w2.heap.size=q at HS ⊢
 have z0:W1.cell? ⟨q,0,none⟩=some (.int .u8 9):=HS.out.cell 0 _ rfl
 have z1:W1.cell? ⟨q,1,none⟩=some (.int .u8 0):=HS.out.cell 1 _ rfl
 have z2:W1.cell? ⟨q,2,none⟩=some (.int .i64 0):=HS.out.cell 2 _ rfl
 have z3:W1.cell? ⟨q,3,none⟩=some (.int .i64 0):=HS.out.cell 3 _ rfl
 have z4:W1.cell? ⟨q,4,none⟩=some (.int .i64 0):=HS.out.cell 4 _ rfl
 have z5:W1.cell? ⟨q,5,none⟩=some (.int .i64 0):=HS.out.cell 5 _ rfl
 have z6:W1.cell? ⟨q,6,none⟩=some (.int .i64 0):=HS.out.cell 6 _ rfl
 have z7:W1.cell? ⟨q,7,none⟩=some (.int .i64 0):=HS.out.cell 7 _ rfl
 have z8:W1.cell? ⟨q,8,none⟩=some (.int .i64 0):=HS.out.cell 8 _ rfl
 go_upto_region 8 with (first | (go_at_call 68;refine (r_uses9 _).mono ?_;rintro e w' ⟨rfl,rfl⟩))
 clear z0 z1 z2 z3 z4 z5 z6 z7 z8
 go_upto_region 9 with (go_at_call 32;refine (HC.out _ _ 16 HS.out.st.st (by decide) (by decide)).mono ?_;rintro e w3 ⟨x3,t2,h2,rfl,hb,hq⟩;replace HS:=Lib.hid (HS.out.call hq);have H2:=Lib.hid h2;have HB3:=Lib.hid hb;clear h2 hq hb;have f3:w3.frozen? ⟨q,3,none⟩=false:=own_frozen HS.out.own 3;have y3:w3.cell? ⟨q,3,none⟩=some (.int .i64 0):=HS.out.cell 3 _ rfl)
 replace HS:Hid (I2 w p L a c w.heap.size q t2 #[.int .u8 9,.int .u8 0,.int .i64 0,.int .i64 x3,.int .i64 0,.int .i64 0,.int .i64 0,.int .i64 0,.int .i64 0] #[.int .u8 0,.int .u8 0,.int .i64 0,.int .i64 0,.int .i64 0,.int .i64 0,.int .i64 0,.int .i64 0,.int .i64 0] (w3.setCell ⟨q,3,none⟩ (.int .i64 x3))):=HS.out.store 3 (.int .i64 x3)
 clear f3 y3
 generalize w3.setCell ⟨q,3,none⟩ (.int .i64 x3)=W2 at HS ⊢
 have z0:W2.cell? ⟨q,0,none⟩=some (.int .u8 9):=HS.out.cell 0 _ rfl
 have z1:W2.cell? ⟨q,1,none⟩=some (.int .u8 0):=HS.out.cell 1 _ rfl
 have z2:W2.cell? ⟨q,2,none⟩=some (.int .i64 0):=HS.out.cell 2 _ rfl
 have z3:W2.cell? ⟨q,3,none⟩=some (.int .i64 x3):=HS.out.cell 3 _ rfl
 have z4:W2.cell? ⟨q,4,none⟩=some (.int .i64 0):=HS.out.cell 4 _ rfl
 have z5:W2.cell? ⟨q,5,none⟩=some (.int .i64 0):=HS.out.cell 5 _ rfl
 have z6:W2.cell? ⟨q,6,none⟩=some (.int .i64 0):=HS.out.cell 6 _ rfl
 have z7:W2.cell? ⟨q,7,none⟩=some (.int .i64 0):=HS.out.cell 7 _ rfl
 have z8:W2.cell? ⟨q,8,none⟩=some (.int .i64 0):=HS.out.cell 8 _ rfl
 go_upto_region 16 with (first | (go_at_call 68;refine (r_uses9 _).mono ?_;rintro e w' ⟨rfl,rfl⟩))
 clear z0 z1 z2 z3 z4 z5 z6 z7 z8
 go_upto_region 17 with (go_at_call 32;refine (HC.out _ _ code HS.out.st.st hc.1 hc.2).mono ?_;rintro e w4 ⟨x6,t3,h3,rfl,hb,hq⟩;replace HS:=Lib.hid (HS.out.call hq);have H3:=Lib.hid h3;have HB6:=Lib.hid hb;clear h3 hq hb;have f6:w4.frozen? ⟨q,6,none⟩=false:=own_frozen HS.out.own 6;have y6:w4.cell? ⟨q,6,none⟩=some (.int .i64 0):=HS.out.cell 6 _ rfl)
 replace HS:Hid (I2 w p L a c w.heap.size q t3 #[.int .u8 9,.int .u8 0,.int .i64 0,.int .i64 x3,.int .i64 0,.int .i64 0,.int .i64 x6,.int .i64 0,.int .i64 0] #[.int .u8 0,.int .u8 0,.int .i64 0,.int .i64 0,.int .i64 0,.int .i64 0,.int .i64 0,.int .i64 0,.int .i64 0] (w4.setCell ⟨q,6,none⟩ (.int .i64 x6))):=HS.out.store 6 (.int .i64 x6)
 clear f6 y6
 generalize w4.setCell ⟨q,6,none⟩ (.int .i64 x6)=W3 at HS ⊢
 have z0:W3.cell? ⟨q,0,none⟩=some (.int .u8 9):=HS.out.cell 0 _ rfl
 have z1:W3.cell? ⟨q,1,none⟩=some (.int .u8 0):=HS.out.cell 1 _ rfl
 have z2:W3.cell? ⟨q,2,none⟩=some (.int .i64 0):=HS.out.cell 2 _ rfl
 have z3:W3.cell? ⟨q,3,none⟩=some (.int .i64 x3):=HS.out.cell 3 _ rfl
 have z4:W3.cell? ⟨q,4,none⟩=some (.int .i64 0):=HS.out.cell 4 _ rfl
 have z5:W3.cell? ⟨q,5,none⟩=some (.int .i64 0):=HS.out.cell 5 _ rfl
 have z6:W3.cell? ⟨q,6,none⟩=some (.int .i64 x6):=HS.out.cell 6 _ rfl
 have z7:W3.cell? ⟨q,7,none⟩=some (.int .i64 0):=HS.out.cell 7 _ rfl
 have z8:W3.cell? ⟨q,8,none⟩=some (.int .i64 0):=HS.out.cell 8 _ rfl
 go_upto_region 17 with (first | (go_at_call 68;refine (r_uses9 _).mono ?_;rintro e w' ⟨rfl,rfl⟩))
 clear z0 z1 z2 z3 z4 z5 z6 z7 z8
 go_upto_region 18 with (go_at_call 32;refine (HC.out _ _ 4096 HS.out.st.st (by decide) (by decide)).mono ?_;rintro e w5 ⟨x8,t4,h4,rfl,hb,hq⟩;replace HS:=Lib.hid (HS.out.call hq);have H4:=Lib.hid h4;have HB8:=Lib.hid hb;clear h4 hq hb;have f8:w5.frozen? ⟨q,8,none⟩=false:=own_frozen HS.out.own 8;have y8:w5.cell? ⟨q,8,none⟩=some (.int .i64 0):=HS.out.cell 8 _ rfl)
 replace HS:Hid (I2 w p L a c w.heap.size q t4 #[.int .u8 9,.int .u8 0,.int .i64 0,.int .i64 x3,.int .i64 0,.int .i64 0,.int .i64 x6,.int .i64 0,.int .i64 x8] #[.int .u8 0,.int .u8 0,.int .i64 0,.int .i64 0,.int .i64 0,.int .i64 0,.int .i64 0,.int .i64 0,.int .i64 0] (w5.setCell ⟨q,8,none⟩ (.int .i64 x8))):=HS.out.store 8 (.int .i64 x8)
 clear f8 y8
 generalize w5.setCell ⟨q,8,none⟩ (.int .i64 x8)=W4 at HS ⊢
 have z0:W4.cell? ⟨q,0,none⟩=some (.int .u8 9):=HS.out.cell 0 _ rfl
 have z1:W4.cell? ⟨q,1,none⟩=some (.int .u8 0):=HS.out.cell 1 _ rfl
 have z2:W4.cell? ⟨q,2,none⟩=some (.int .i64 0):=HS.out.cell 2 _ rfl
 have z3:W4.cell? ⟨q,3,none⟩=some (.int .i64 x3):=HS.out.cell 3 _ rfl
 have z4:W4.cell? ⟨q,4,none⟩=some (.int .i64 0):=HS.out.cell 4 _ rfl
 have z5:W4.cell? ⟨q,5,none⟩=some (.int .i64 0):=HS.out.cell 5 _ rfl
 have z6:W4.cell? ⟨q,6,none⟩=some (.int .i64 x6):=HS.out.cell 6 _ rfl
 have z7:W4.cell? ⟨q,7,none⟩=some (.int .i64 0):=HS.out.cell 7 _ rfl
 have z8:W4.cell? ⟨q,8,none⟩=some (.int .i64 x8):=HS.out.cell 8 _ rfl
 have g0:W4.frozen? ⟨w.heap.size,0,none⟩=false:=own_frozen HS.out.res 0
 have c0:W4.cell? ⟨w.heap.size,0,none⟩=some (.int .u8 0):=row_e9 HS.out.res 0 _ rfl
 have g1:W4.frozen? ⟨w.heap.size,1,none⟩=false:=own_frozen HS.out.res 1
 have c1:W4.cell? ⟨w.heap.size,1,none⟩=some (.int .u8 0):=row_e9 HS.out.res 1 _ rfl
 have g2:W4.frozen? ⟨w.heap.size,2,none⟩=false:=own_frozen HS.out.res 2
 have c2:W4.cell? ⟨w.heap.size,2,none⟩=some (.int .i64 0):=row_e9 HS.out.res 2 _ rfl
 have g3:W4.frozen? ⟨w.heap.size,3,none⟩=false:=own_frozen HS.out.res 3
 have c3:W4.cell? ⟨w.heap.size,3,none⟩=some (.int .i64 0):=row_e9 HS.out.res 3 _ rfl
 have g4:W4.frozen? ⟨w.heap.size,4,none⟩=false:=own_frozen HS.out.res 4
 have c4:W4.cell? ⟨w.heap.size,4,none⟩=some (.int .i64 0):=row_e9 HS.out.res 4 _ rfl
 have g5:W4.frozen? ⟨w.heap.size,5,none⟩=false:=own_frozen HS.out.res 5
 have c5:W4.cell? ⟨w.heap.size,5,none⟩=some (.int .i64 0):=row_e9 HS.out.res 5 _ rfl
 have g6:W4.frozen? ⟨w.heap.size,6,none⟩=false:=own_frozen HS.out.res 6
 have c6:W4.cell? ⟨w.heap.size,6,none⟩=some (.int .i64 0):=row_e9 HS.out.res 6 _ rfl
 have g7:W4.frozen? ⟨w.heap.size,7,none⟩=false:=own_frozen HS.out.res 7
 have c7:W4.cell? ⟨w.heap.size,7,none⟩=some (.int .i64 0):=row_e9 HS.out.res 7 _ rfl
 have g8:W4.frozen? ⟨w.heap.size,8,none⟩=false:=own_frozen HS.out.res 8
 have c8:W4.cell? ⟨w.heap.size,8,none⟩=some (.int .i64 0):=row_e9 HS.out.res 8 _ rfl
 go_wp2_with (fail)
 have hz:=(((((((((HS.out.put 0 (.int .u8 9)).put 1 (.int .u8 0)).put 2 (.int .i64 0)).put 3 (.int .i64 x3)).put 4 (.int .i64 0)).put 5 (.int .i64 0)).put 6 (.int .i64 x6)).put 7 (.int .i64 0)).put 8 (.int .i64 x8))
 have hI:insD code mem s=((⟨9,0,0,x3,0,0,x6,0,x8⟩:Ins),t4):=by
  unfold insD
  simp only [H1.out,show ((9:Int)==2)=false by decide,show ((9:Int)==1)=false by decide,show dB 9=false by decide,show aB 9=true by decide,show adB 9=false by decide,show toB 9=true by decide,bB,optR,cond_true,cond_false,Bool.true_and,Bool.false_and,H2.out,H3.out,H4.out]
 rw [hI]
 exact p_ret rowI rfl hz.res rfl rfl rfl ⟨rfl,hz.st⟩
theorem rdi_10 {w:World} {p:Nat} {L:List UInt8} {a:Option Addr} {c:Nat} {s:Bst} (h:Rst p L a c s w) (code mem:Int) (hc:0≤code∧code≤1000000) (hm:0≤mem∧mem≤1000000) (hk:(smR 11 s).1=10):Calls Tryz.prog 34 #[.pointer (some ⟨p,0,none⟩),.int .i64 code,.int .i64 mem] w fun e w'=>e=.returned (insV (insD code mem s).1)∧Rds w p L a c (insD code mem s).2 w':=by
 have HC:Hid (∀ (X:World) (s:Bst) (m:Int),Rst p L a c s X→0≤m→m≤1000000→Calls Tryz.prog 32 #[.pointer (some ⟨p,0,none⟩),.int .i64 m] X fun e w'=>∃ x t,smR m s=(x,t)∧e=.returned (.int .i64 x)∧(0≤x∧x≤m)∧Rds X p L a c t w'):=fun X s m h h0 h1=>(rds_small h m h0 (by omega)).mono fun e w' q=>⟨_,_,rfl,q.1,smR_bd m h0 s,q.2⟩
 have HW:Hid (∀ (X:World) (s:Bst),Rst p L a c s X→Calls Tryz.prog 33 #[.pointer (some ⟨p,0,none⟩)] X fun e w'=>∃ x t,wdR s=(x,t)∧e=.returned (.int .i64 x)∧Rds X p L a c t w'):=fun X s h=>(rds_word h).mono fun e w' q=>⟨_,_,rfl,q.1,q.2⟩
 have HK:=Lib.hid hk
 clear hk
 have hlt:=h.lt
 have HS:Hid (Rds w p L a c s (w.alloc (.cells #[.int .u8 0,.int .u8 0,.int .i64 0,.int .i64 0,.int .i64 0,.int .i64 0,.int .i64 0,.int .i64 0,.int .i64 0] 75))∧Own (w.alloc (.cells #[.int .u8 0,.int .u8 0,.int .i64 0,.int .i64 0,.int .i64 0,.int .i64 0,.int .i64 0,.int .i64 0,.int .i64 0] 75)) w.heap.size 75 #[.int .u8 0,.int .u8 0,.int .i64 0,.int .i64 0,.int .i64 0,.int .i64 0,.int .i64 0,.int .i64 0,.int .i64 0]):=⟨(rds_new h).below (((Below.refl w.heap.size w).alloc (Nat.le_refl _) _)),Own.new w 75 #[.int .u8 0,.int .u8 0,.int .i64 0,.int .i64 0,.int .i64 0,.int .i64 0,.int .i64 0,.int .i64 0,.int .i64 0]⟩
 obtain ⟨W0,hW0⟩:∃ W,W=w.alloc (.cells #[.int .u8 0,.int .u8 0,.int .i64 0,.int .i64 0,.int .i64 0,.int .i64 0,.int .i64 0,.int .i64 0,.int .i64 0] 75):=⟨_,rfl⟩
 rw [← hW0] at HS
 have HW0:=Lib.hid hW0
 clear hW0 h
 go_enter Tryz.func34,Tryz.ntmps34
 go_upto_region 1 with fail
 rw [← HW0.out]
 clear HW0
 have e8:IntKind.u8.wrap (10:Int)=10:=by decide
 go_upto_region 2 with (go_at_call 32;refine (HC.out _ _ 11 HS.out.1.st (by decide) (by decide)).mono ?_;rintro e w2 ⟨x,t1,h1,rfl,_,hq⟩;obtain rfl:x=10:=by { have:=HK.out;rw [h1] at this;exact this };replace HS:=Lib.hid (And.intro (HS.out.1.trans hq) (hq.other HS.out.2 (by omega)));have H1:=Lib.hid h1;clear h1 hq)
 have HS:Hid (I2 w p L a c w.heap.size w2.heap.size t1 #[.int .u8 10,.int .u8 0,.int .i64 0,.int .i64 0,.int .i64 0,.int .i64 0,.int .i64 0,.int .i64 0,.int .i64 0] #[.int .u8 0,.int .u8 0,.int .i64 0,.int .i64 0,.int .i64 0,.int .i64 0,.int .i64 0,.int .i64 0,.int .i64 0] (w2.alloc (.cells #[.int .u8 10,.int .u8 0,.int .i64 0,.int .i64 0,.int .i64 0,.int .i64 0,.int .i64 0,.int .i64 0,.int .i64 0] 75))):=by
  have hb:Below w2.heap.size w2 (w2.alloc (.cells #[.int .u8 10,.int .u8 0,.int .i64 0,.int .i64 0,.int .i64 0,.int .i64 0,.int .i64 0,.int .i64 0,.int .i64 0] 75)):=(Below.refl _ _).alloc (Nat.le_refl _) _
  exact ⟨HS.out.1.below hb,Own.new w2 75 #[.int .u8 10,.int .u8 0,.int .i64 0,.int .i64 0,.int .i64 0,.int .i64 0,.int .i64 0,.int .i64 0,.int .i64 0],HS.out.2.below hb,hlt,Nat.le_refl _,HS.out.2.lt⟩
 generalize w2.alloc (.cells #[.int .u8 10,.int .u8 0,.int .i64 0,.int .i64 0,.int .i64 0,.int .i64 0,.int .i64 0,.int .i64 0,.int .i64 0] 75)=W1 at HS ⊢
 generalize w2.heap.size=q at HS ⊢
 have z0:W1.cell? ⟨q,0,none⟩=some (.int .u8 10):=HS.out.cell 0 _ rfl
 have z1:W1.cell? ⟨q,1,none⟩=some (.int .u8 0):=HS.out.cell 1 _ rfl
 have z2:W1.cell? ⟨q,2,none⟩=some (.int .i64 0):=HS.out.cell 2 _ rfl
 have z3:W1.cell? ⟨q,3,none⟩=some (.int .i64 0):=HS.out.cell 3 _ rfl
 have z4:W1.cell? ⟨q,4,none⟩=some (.int .i64 0):=HS.out.cell 4 _ rfl
 have z5:W1.cell? ⟨q,5,none⟩=some (.int .i64 0):=HS.out.cell 5 _ rfl
 have z6:W1.cell? ⟨q,6,none⟩=some (.int .i64 0):=HS.out.cell 6 _ rfl
 have z7:W1.cell? ⟨q,7,none⟩=some (.int .i64 0):=HS.out.cell 7 _ rfl
 have z8:W1.cell? ⟨q,8,none⟩=some (.int .i64 0):=HS.out.cell 8 _ rfl
 go_upto_region 17 with (first | (go_at_call 68;refine (r_uses10 _).mono ?_;rintro e w' ⟨rfl,rfl⟩))
 clear z0 z1 z2 z3 z4 z5 z6 z7 z8
 go_upto_region 18 with (go_at_call 32;refine (HC.out _ _ 4096 HS.out.st.st (by decide) (by decide)).mono ?_;rintro e w3 ⟨x8,t2,h2,rfl,hb,hq⟩;replace HS:=Lib.hid (HS.out.call hq);have H2:=Lib.hid h2;have HB8:=Lib.hid hb;clear h2 hq hb;have f8:w3.frozen? ⟨q,8,none⟩=false:=own_frozen HS.out.own 8;have y8:w3.cell? ⟨q,8,none⟩=some (.int .i64 0):=HS.out.cell 8 _ rfl)
 replace HS:Hid (I2 w p L a c w.heap.size q t2 #[.int .u8 10,.int .u8 0,.int .i64 0,.int .i64 0,.int .i64 0,.int .i64 0,.int .i64 0,.int .i64 0,.int .i64 x8] #[.int .u8 0,.int .u8 0,.int .i64 0,.int .i64 0,.int .i64 0,.int .i64 0,.int .i64 0,.int .i64 0,.int .i64 0] (w3.setCell ⟨q,8,none⟩ (.int .i64 x8))):=HS.out.store 8 (.int .i64 x8)
 clear f8 y8
 generalize w3.setCell ⟨q,8,none⟩ (.int .i64 x8)=W2 at HS ⊢
 have z0:W2.cell? ⟨q,0,none⟩=some (.int .u8 10):=HS.out.cell 0 _ rfl
 have z1:W2.cell? ⟨q,1,none⟩=some (.int .u8 0):=HS.out.cell 1 _ rfl
 have z2:W2.cell? ⟨q,2,none⟩=some (.int .i64 0):=HS.out.cell 2 _ rfl
 have z3:W2.cell? ⟨q,3,none⟩=some (.int .i64 0):=HS.out.cell 3 _ rfl
 have z4:W2.cell? ⟨q,4,none⟩=some (.int .i64 0):=HS.out.cell 4 _ rfl
 have z5:W2.cell? ⟨q,5,none⟩=some (.int .i64 0):=HS.out.cell 5 _ rfl
 have z6:W2.cell? ⟨q,6,none⟩=some (.int .i64 0):=HS.out.cell 6 _ rfl
 have z7:W2.cell? ⟨q,7,none⟩=some (.int .i64 0):=HS.out.cell 7 _ rfl
 have z8:W2.cell? ⟨q,8,none⟩=some (.int .i64 x8):=HS.out.cell 8 _ rfl
 have g0:W2.frozen? ⟨w.heap.size,0,none⟩=false:=own_frozen HS.out.res 0
 have c0:W2.cell? ⟨w.heap.size,0,none⟩=some (.int .u8 0):=row_e9 HS.out.res 0 _ rfl
 have g1:W2.frozen? ⟨w.heap.size,1,none⟩=false:=own_frozen HS.out.res 1
 have c1:W2.cell? ⟨w.heap.size,1,none⟩=some (.int .u8 0):=row_e9 HS.out.res 1 _ rfl
 have g2:W2.frozen? ⟨w.heap.size,2,none⟩=false:=own_frozen HS.out.res 2
 have c2:W2.cell? ⟨w.heap.size,2,none⟩=some (.int .i64 0):=row_e9 HS.out.res 2 _ rfl
 have g3:W2.frozen? ⟨w.heap.size,3,none⟩=false:=own_frozen HS.out.res 3
 have c3:W2.cell? ⟨w.heap.size,3,none⟩=some (.int .i64 0):=row_e9 HS.out.res 3 _ rfl
 have g4:W2.frozen? ⟨w.heap.size,4,none⟩=false:=own_frozen HS.out.res 4
 have c4:W2.cell? ⟨w.heap.size,4,none⟩=some (.int .i64 0):=row_e9 HS.out.res 4 _ rfl
 have g5:W2.frozen? ⟨w.heap.size,5,none⟩=false:=own_frozen HS.out.res 5
 have c5:W2.cell? ⟨w.heap.size,5,none⟩=some (.int .i64 0):=row_e9 HS.out.res 5 _ rfl
 have g6:W2.frozen? ⟨w.heap.size,6,none⟩=false:=own_frozen HS.out.res 6
 have c6:W2.cell? ⟨w.heap.size,6,none⟩=some (.int .i64 0):=row_e9 HS.out.res 6 _ rfl
 have g7:W2.frozen? ⟨w.heap.size,7,none⟩=false:=own_frozen HS.out.res 7
 have c7:W2.cell? ⟨w.heap.size,7,none⟩=some (.int .i64 0):=row_e9 HS.out.res 7 _ rfl
 have g8:W2.frozen? ⟨w.heap.size,8,none⟩=false:=own_frozen HS.out.res 8
 have c8:W2.cell? ⟨w.heap.size,8,none⟩=some (.int .i64 0):=row_e9 HS.out.res 8 _ rfl
 go_wp2_with (fail)
 have hz:=(((((((((HS.out.put 0 (.int .u8 10)).put 1 (.int .u8 0)).put 2 (.int .i64 0)).put 3 (.int .i64 0)).put 4 (.int .i64 0)).put 5 (.int .i64 0)).put 6 (.int .i64 0)).put 7 (.int .i64 0)).put 8 (.int .i64 x8))
 have hI:insD code mem s=((⟨10,0,0,0,0,0,0,0,x8⟩:Ins),t2):=by
  unfold insD
  simp only [H1.out,show ((10:Int)==2)=false by decide,show ((10:Int)==1)=false by decide,show dB 10=false by decide,show aB 10=false by decide,show adB 10=false by decide,show toB 10=false by decide,bB,optR,cond_true,cond_false,Bool.true_and,Bool.false_and,H2.out]
 rw [hI]
 exact p_ret rowI rfl hz.res rfl rfl rfl ⟨rfl,hz.st⟩
theorem rdi_11 {w:World} {p:Nat} {L:List UInt8} {a:Option Addr} {c:Nat} {s:Bst} (h:Rst p L a c s w) (code mem:Int) (hc:0≤code∧code≤1000000) (hm:0≤mem∧mem≤1000000) (hk:(smR 11 s).1=11):Calls Tryz.prog 34 #[.pointer (some ⟨p,0,none⟩),.int .i64 code,.int .i64 mem] w fun e w'=>e=.returned (insV (insD code mem s).1)∧Rds w p L a c (insD code mem s).2 w':=by
 have HC:Hid (∀ (X:World) (s:Bst) (m:Int),Rst p L a c s X→0≤m→m≤1000000→Calls Tryz.prog 32 #[.pointer (some ⟨p,0,none⟩),.int .i64 m] X fun e w'=>∃ x t,smR m s=(x,t)∧e=.returned (.int .i64 x)∧(0≤x∧x≤m)∧Rds X p L a c t w'):=fun X s m h h0 h1=>(rds_small h m h0 (by omega)).mono fun e w' q=>⟨_,_,rfl,q.1,smR_bd m h0 s,q.2⟩
 have HW:Hid (∀ (X:World) (s:Bst),Rst p L a c s X→Calls Tryz.prog 33 #[.pointer (some ⟨p,0,none⟩)] X fun e w'=>∃ x t,wdR s=(x,t)∧e=.returned (.int .i64 x)∧Rds X p L a c t w'):=fun X s h=>(rds_word h).mono fun e w' q=>⟨_,_,rfl,q.1,q.2⟩
 have HK:=Lib.hid hk
 clear hk
 have hlt:=h.lt
 have HS:Hid (Rds w p L a c s (w.alloc (.cells #[.int .u8 0,.int .u8 0,.int .i64 0,.int .i64 0,.int .i64 0,.int .i64 0,.int .i64 0,.int .i64 0,.int .i64 0] 75))∧Own (w.alloc (.cells #[.int .u8 0,.int .u8 0,.int .i64 0,.int .i64 0,.int .i64 0,.int .i64 0,.int .i64 0,.int .i64 0,.int .i64 0] 75)) w.heap.size 75 #[.int .u8 0,.int .u8 0,.int .i64 0,.int .i64 0,.int .i64 0,.int .i64 0,.int .i64 0,.int .i64 0,.int .i64 0]):=⟨(rds_new h).below (((Below.refl w.heap.size w).alloc (Nat.le_refl _) _)),Own.new w 75 #[.int .u8 0,.int .u8 0,.int .i64 0,.int .i64 0,.int .i64 0,.int .i64 0,.int .i64 0,.int .i64 0,.int .i64 0]⟩
 obtain ⟨W0,hW0⟩:∃ W,W=w.alloc (.cells #[.int .u8 0,.int .u8 0,.int .i64 0,.int .i64 0,.int .i64 0,.int .i64 0,.int .i64 0,.int .i64 0,.int .i64 0] 75):=⟨_,rfl⟩
 rw [← hW0] at HS
 have HW0:=Lib.hid hW0
 clear hW0 h
 go_enter Tryz.func34,Tryz.ntmps34
 go_upto_region 1 with fail
 rw [← HW0.out]
 clear HW0
 have e8:IntKind.u8.wrap (11:Int)=11:=by decide
 go_upto_region 2 with (go_at_call 32;refine (HC.out _ _ 11 HS.out.1.st (by decide) (by decide)).mono ?_;rintro e w2 ⟨x,t1,h1,rfl,_,hq⟩;obtain rfl:x=11:=by { have:=HK.out;rw [h1] at this;exact this };replace HS:=Lib.hid (And.intro (HS.out.1.trans hq) (hq.other HS.out.2 (by omega)));have H1:=Lib.hid h1;clear h1 hq)
 have HS:Hid (I2 w p L a c w.heap.size w2.heap.size t1 #[.int .u8 11,.int .u8 0,.int .i64 0,.int .i64 0,.int .i64 0,.int .i64 0,.int .i64 0,.int .i64 0,.int .i64 0] #[.int .u8 0,.int .u8 0,.int .i64 0,.int .i64 0,.int .i64 0,.int .i64 0,.int .i64 0,.int .i64 0,.int .i64 0] (w2.alloc (.cells #[.int .u8 11,.int .u8 0,.int .i64 0,.int .i64 0,.int .i64 0,.int .i64 0,.int .i64 0,.int .i64 0,.int .i64 0] 75))):=by
  have hb:Below w2.heap.size w2 (w2.alloc (.cells #[.int .u8 11,.int .u8 0,.int .i64 0,.int .i64 0,.int .i64 0,.int .i64 0,.int .i64 0,.int .i64 0,.int .i64 0] 75)):=(Below.refl _ _).alloc (Nat.le_refl _) _
  exact ⟨HS.out.1.below hb,Own.new w2 75 #[.int .u8 11,.int .u8 0,.int .i64 0,.int .i64 0,.int .i64 0,.int .i64 0,.int .i64 0,.int .i64 0,.int .i64 0],HS.out.2.below hb,hlt,Nat.le_refl _,HS.out.2.lt⟩
 generalize w2.alloc (.cells #[.int .u8 11,.int .u8 0,.int .i64 0,.int .i64 0,.int .i64 0,.int .i64 0,.int .i64 0,.int .i64 0,.int .i64 0] 75)=W1 at HS ⊢
 generalize w2.heap.size=q at HS ⊢
 have z0:W1.cell? ⟨q,0,none⟩=some (.int .u8 11):=HS.out.cell 0 _ rfl
 have z1:W1.cell? ⟨q,1,none⟩=some (.int .u8 0):=HS.out.cell 1 _ rfl
 have z2:W1.cell? ⟨q,2,none⟩=some (.int .i64 0):=HS.out.cell 2 _ rfl
 have z3:W1.cell? ⟨q,3,none⟩=some (.int .i64 0):=HS.out.cell 3 _ rfl
 have z4:W1.cell? ⟨q,4,none⟩=some (.int .i64 0):=HS.out.cell 4 _ rfl
 have z5:W1.cell? ⟨q,5,none⟩=some (.int .i64 0):=HS.out.cell 5 _ rfl
 have z6:W1.cell? ⟨q,6,none⟩=some (.int .i64 0):=HS.out.cell 6 _ rfl
 have z7:W1.cell? ⟨q,7,none⟩=some (.int .i64 0):=HS.out.cell 7 _ rfl
 have z8:W1.cell? ⟨q,8,none⟩=some (.int .i64 0):=HS.out.cell 8 _ rfl
 go_upto_region 17 with (first | (go_at_call 68;refine (r_uses11 _).mono ?_;rintro e w' ⟨rfl,rfl⟩))
 clear z0 z1 z2 z3 z4 z5 z6 z7 z8
 go_upto_region 18 with (go_at_call 32;refine (HC.out _ _ 4096 HS.out.st.st (by decide) (by decide)).mono ?_;rintro e w3 ⟨x8,t2,h2,rfl,hb,hq⟩;replace HS:=Lib.hid (HS.out.call hq);have H2:=Lib.hid h2;have HB8:=Lib.hid hb;clear h2 hq hb;have f8:w3.frozen? ⟨q,8,none⟩=false:=own_frozen HS.out.own 8;have y8:w3.cell? ⟨q,8,none⟩=some (.int .i64 0):=HS.out.cell 8 _ rfl)
 replace HS:Hid (I2 w p L a c w.heap.size q t2 #[.int .u8 11,.int .u8 0,.int .i64 0,.int .i64 0,.int .i64 0,.int .i64 0,.int .i64 0,.int .i64 0,.int .i64 x8] #[.int .u8 0,.int .u8 0,.int .i64 0,.int .i64 0,.int .i64 0,.int .i64 0,.int .i64 0,.int .i64 0,.int .i64 0] (w3.setCell ⟨q,8,none⟩ (.int .i64 x8))):=HS.out.store 8 (.int .i64 x8)
 clear f8 y8
 generalize w3.setCell ⟨q,8,none⟩ (.int .i64 x8)=W2 at HS ⊢
 have z0:W2.cell? ⟨q,0,none⟩=some (.int .u8 11):=HS.out.cell 0 _ rfl
 have z1:W2.cell? ⟨q,1,none⟩=some (.int .u8 0):=HS.out.cell 1 _ rfl
 have z2:W2.cell? ⟨q,2,none⟩=some (.int .i64 0):=HS.out.cell 2 _ rfl
 have z3:W2.cell? ⟨q,3,none⟩=some (.int .i64 0):=HS.out.cell 3 _ rfl
 have z4:W2.cell? ⟨q,4,none⟩=some (.int .i64 0):=HS.out.cell 4 _ rfl
 have z5:W2.cell? ⟨q,5,none⟩=some (.int .i64 0):=HS.out.cell 5 _ rfl
 have z6:W2.cell? ⟨q,6,none⟩=some (.int .i64 0):=HS.out.cell 6 _ rfl
 have z7:W2.cell? ⟨q,7,none⟩=some (.int .i64 0):=HS.out.cell 7 _ rfl
 have z8:W2.cell? ⟨q,8,none⟩=some (.int .i64 x8):=HS.out.cell 8 _ rfl
 have g0:W2.frozen? ⟨w.heap.size,0,none⟩=false:=own_frozen HS.out.res 0
 have c0:W2.cell? ⟨w.heap.size,0,none⟩=some (.int .u8 0):=row_e9 HS.out.res 0 _ rfl
 have g1:W2.frozen? ⟨w.heap.size,1,none⟩=false:=own_frozen HS.out.res 1
 have c1:W2.cell? ⟨w.heap.size,1,none⟩=some (.int .u8 0):=row_e9 HS.out.res 1 _ rfl
 have g2:W2.frozen? ⟨w.heap.size,2,none⟩=false:=own_frozen HS.out.res 2
 have c2:W2.cell? ⟨w.heap.size,2,none⟩=some (.int .i64 0):=row_e9 HS.out.res 2 _ rfl
 have g3:W2.frozen? ⟨w.heap.size,3,none⟩=false:=own_frozen HS.out.res 3
 have c3:W2.cell? ⟨w.heap.size,3,none⟩=some (.int .i64 0):=row_e9 HS.out.res 3 _ rfl
 have g4:W2.frozen? ⟨w.heap.size,4,none⟩=false:=own_frozen HS.out.res 4
 have c4:W2.cell? ⟨w.heap.size,4,none⟩=some (.int .i64 0):=row_e9 HS.out.res 4 _ rfl
 have g5:W2.frozen? ⟨w.heap.size,5,none⟩=false:=own_frozen HS.out.res 5
 have c5:W2.cell? ⟨w.heap.size,5,none⟩=some (.int .i64 0):=row_e9 HS.out.res 5 _ rfl
 have g6:W2.frozen? ⟨w.heap.size,6,none⟩=false:=own_frozen HS.out.res 6
 have c6:W2.cell? ⟨w.heap.size,6,none⟩=some (.int .i64 0):=row_e9 HS.out.res 6 _ rfl
 have g7:W2.frozen? ⟨w.heap.size,7,none⟩=false:=own_frozen HS.out.res 7
 have c7:W2.cell? ⟨w.heap.size,7,none⟩=some (.int .i64 0):=row_e9 HS.out.res 7 _ rfl
 have g8:W2.frozen? ⟨w.heap.size,8,none⟩=false:=own_frozen HS.out.res 8
 have c8:W2.cell? ⟨w.heap.size,8,none⟩=some (.int .i64 0):=row_e9 HS.out.res 8 _ rfl
 go_wp2_with (fail)
 have hz:=(((((((((HS.out.put 0 (.int .u8 11)).put 1 (.int .u8 0)).put 2 (.int .i64 0)).put 3 (.int .i64 0)).put 4 (.int .i64 0)).put 5 (.int .i64 0)).put 6 (.int .i64 0)).put 7 (.int .i64 0)).put 8 (.int .i64 x8))
 have hI:insD code mem s=((⟨11,0,0,0,0,0,0,0,x8⟩:Ins),t2):=by
  unfold insD
  simp only [H1.out,show ((11:Int)==2)=false by decide,show ((11:Int)==1)=false by decide,show dB 11=false by decide,show aB 11=false by decide,show adB 11=false by decide,show toB 11=false by decide,bB,optR,cond_true,cond_false,Bool.true_and,Bool.false_and,H2.out]
 rw [hI]
 exact p_ret rowI rfl hz.res rfl rfl rfl ⟨rfl,hz.st⟩
theorem rds_instr {w:World} {p:Nat} {L:List UInt8} {a:Option Addr} {c:Nat} {s:Bst} (h:Rst p L a c s w) (code mem:Int) (hc:0≤code∧code≤1000000) (hm:0≤mem∧mem≤1000000):Calls Tryz.prog 34 #[.pointer (some ⟨p,0,none⟩),.int .i64 code,.int .i64 mem] w fun e w'=>e=.returned (insV (insD code mem s).1)∧Rds w p L a c (insD code mem s).2 w':=by
 have hb:=smR_bd 11 (by decide) s
 rcases (show (smR 11 s).1=0∨(smR 11 s).1=1∨(smR 11 s).1=2∨(smR 11 s).1=3∨(smR 11 s).1=4∨(smR 11 s).1=5∨(smR 11 s).1=6∨(smR 11 s).1=7∨(smR 11 s).1=8∨(smR 11 s).1=9∨(smR 11 s).1=10∨(smR 11 s).1=11 by omega) with e | e | e | e | e | e | e | e | e | e | e | e
 · exact rdi_0 h code mem hc hm e
 · exact rdi_1 h code mem hc hm e
 · exact rdi_2 h code mem hc hm e
 · exact rdi_3 h code mem hc hm e
 · exact rdi_4 h code mem hc hm e
 · exact rdi_5 h code mem hc hm e
 · exact rdi_6 h code mem hc hm e
 · exact rdi_7 h code mem hc hm e
 · exact rdi_8 h code mem hc hm e
 · exact rdi_9 h code mem hc hm e
 · exact rdi_10 h code mem hc hm e
 · exact rdi_11 h code mem hc hm e
end Go.Proofs.YtmpljhfinmfnbaaGreatDoor

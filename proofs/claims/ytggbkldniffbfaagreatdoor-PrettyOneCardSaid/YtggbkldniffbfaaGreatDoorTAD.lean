/- The proof, part 4: texts that belong together, in one. -/
import Derived.Test.YtggbkldniffbfaaGreatDoorTAC
import Derived.Laws.EntriesVeiled
import Derived.Outline
import Derived.RangeFuncNested
import Derived.RangeFuncBound
import Derived.RangeFuncCalls
import Derived.RangeFuncLeaves
import Derived.Shelf.Abstract
import Derived.Shelf.RegionOpen
import Derived.WalkKit
import Derived.OwnWalkIn
import Derived.TacticsInMore
import Derived.LoopNIn
import Derived.LoopIn
import Derived.Maps.AppendAt
set_option maxRecDepth 100000
set_option maxHeartbeats 20000000
namespace Go.Proofs.YtggbkldniffbfaaGreatDoor
open Go.RowKit
set_option linter.unusedVariables false
def famCells (b:Nat):Array Value:=#[.func (.func 112) #[] #[],.func (.func 144) #[.pointer (some ⟨b,0,none⟩)] #[],.func (.func 72) #[] #[],.func (.func 145) #[.pointer (some ⟨b,0,none⟩)] #[],.func (.func 146) #[] #[],.func (.func 147) #[.pointer (some ⟨b,0,none⟩)] #[]]
theorem families_any (b:Nat) (w:World):Calls Tryz.prog 119 #[.pointer (some ⟨b,0,none⟩)] w fun e w'=>e=.returned (.agg (famCells b))∧Below w.heap.size w w':=by
 go_enter Tryz.func119,Tryz.ntmps119
 go_wp2
 refine bodyPost_ret (v:=.agg (famCells b)) (results_cell_row rfl _ _ w.heap.size 180 (famCells b) (0,0) _ rfl (heap_alloc_new w _) Tryz.underlying180 rfl (by kernel_rfl)) rfl ?_
 exact ⟨rfl,(Below.refl _ _).alloc (Nat.le_refl _) _⟩
def nextR (s:ByteArray) (p:Nat):Res :=
 if letterB (PlainAid.bt s p)=true then nameR s p
 else if digitB (PlainAid.bt s p)=true then numR s p
 else if signB (PlainAid.bt s p)=true then signR s p
 else ⟨0,⟨#[]⟩,0,0,p,1⟩
def pushes (h:Array Obj):List Obj→Array Obj
 | []=>h
 | o::r=>pushes (h.push o) r
theorem pushes_size:∀ (l:List Obj) (h:Array Obj),(pushes h l).size=h.size+l.length
 | [],h=>rfl
 | o::r,h=>by simp only [pushes,pushes_size r,Array.size_push,List.length_cons];omega
theorem pushes_old:∀ (l:List Obj) (h:Array Obj) (k:Nat),k<h.size→(pushes h l)[k]? = h[k]?
 | [],h,k,_=>rfl
 | o :: r, h, k, hk => by
   simp only [pushes]
   rw [pushes_old r (h.push o) k (by simp;omega),Array.getElem?_push,if_neg (by omega)]
theorem pushes_new:∀ (l:List Obj) (h:Array Obj) (i:Nat),i<l.length→(pushes h l)[h.size+i]? = l[i]?
 | [],h,i,hi=>by simp at hi
 | o :: r, h, 0, _ => by
   simp only [pushes]
   rw [pushes_old r (h.push o) _ (by simp)]
   simp
 | o :: r, h, i + 1, hi => by
   simp only [pushes]
   have:=pushes_new r (h.push o) i (by simpa using hi)
   rw [Array.size_push] at this
   rw [show h.size+(i+1)=h.size+1+i by omega,this]
   simp
theorem keptN {W w1:World} (hb:Below W.heap.size W w1) (w:World) (l:List Obj) (hW:W.heap=pushes w.heap l) (hos:W.os=w.os) (htape:W.tape=w.tape) (hout:W.output=w.output) :
 (∀ i,i<l.length→w1.heap[w.heap.size+i]? = l[i]?)∧w.heap.size+l.length≤w1.heap.size∧Below w.heap.size w w1:=by
 have hz:W.heap.size=w.heap.size+l.length:=by rw [hW];exact pushes_size _ _
 have hz1:=hb.size
 refine ⟨fun i hi=>?_,by omega,hb.os.trans hos,hb.tape.trans htape,hb.output.trans hout,by omega,fun k hk=>?_⟩
 · rw [hb.block _ (by omega),hW,pushes_new l _ i hi]
 · rw [hb.block k (by omega),hW,pushes_old l _ k hk]
theorem belowN {w W:World} (l:List Obj) (hW:W.heap=pushes w.heap l) (hos:W.os=w.os) (htape:W.tape=w.tape) (hout:W.output=w.output):Below w.heap.size w W :=
 ⟨hos,htape,hout,by rw [hW,pushes_size];omega,fun k hk=>by rw [hW,pushes_old l _ k hk]⟩
theorem quiet_more {P:Program} {f:FuncId} {args:Array Value} {w:World} {a n:Nat} {v:Value} (h:Calls P f args (w.drewN (a+n)) fun e w'=>e=.returned v∧w.drewN (a+n)=w') :
 Calls P f args (w.drewN (a+n)) fun e w''=>e=.returned v∧∃ m,w''=w.drewN (a+m) :=
 h.mono fun _ _ ⟨he,hm⟩=>⟨he,n,hm.symm⟩
theorem quiet_one {P:Program} {f:FuncId} {args:Array Value} {w:World} {n:Nat} {v:Value} (h:Calls P f args (w.drewN n) fun e w'=>e=.returned v∧w.drewN n=w') :
 Calls P f args (w.drewN n) fun e w''=>e=.returned v∧∃ m,w''=w.drewN m :=
 h.mono fun _ _ ⟨he,hm⟩=>⟨he,n,hm.symm⟩
theorem stored6' {w w1:World} {n:Nat} (hn:w.heap.size≤n) (hw:Below w.heap.size w w1) (u0 u1 u2 u3 v0 v1:Value):Below w.heap.size w ((((((w1.setCell ⟨n,0,none⟩ u0).setCell ⟨n,1,none⟩ u1).setCell ⟨n,2,none⟩ u2).setCell ⟨n,3,none⟩ u3).setCell ⟨n+1,0,none⟩ v0).setCell ⟨n+1,1,none⟩ v1) :=
 (((((hw.setCell (p:=⟨n,0,none⟩) hn _).setCell (p:=⟨n,1,none⟩) hn _).setCell (p:=⟨n,2,none⟩) hn _).setCell (p:=⟨n,3,none⟩) hn _).setCell (p:=⟨n+1,0,none⟩) (Nat.le_succ_of_le hn) _).setCell (p:=⟨n+1,1,none⟩) (Nat.le_succ_of_le hn) _
theorem next_0 (b:Nat) (s:ByteArray) (p:Nat) (fa fr:Int) (w:World) (T:LTabs w) (hs62:s.size≤281474976710656) (hp:p<s.size) (hs:Sc w b s p fa fr) (hN0:letterB (PlainAid.bt s p)=true) :
 Calls Tryz.prog 121 #[.pointer (some ⟨b,0,none⟩),.agg #[.func (.func 112) #[] #[],.func (.func 144) #[.pointer (some ⟨b,0,none⟩)] #[],.func (.func 72) #[] #[],.func (.func 145) #[.pointer (some ⟨b,0,none⟩)] #[],.func (.func 146) #[] #[],.func (.func 147) #[.pointer (some ⟨b,0,none⟩)] #[]]] w fun e w'=>e=.returned (Res.val (nameR s p))∧Below w.heap.size w w':=by
 have hlt:=hs.lt
 obtain ⟨⟨c0,c1,c2,c3⟩,f1,f2,f3⟩:=hs.cells
 have HS:=Lib.hid hs
 have HT:=Lib.hid T
 obtain ⟨c,hc⟩:∃ c,Hid (c=PlainAid.bt s p):=⟨_,rfl⟩
 have hbt:∀ h:p<s.size,((s[p]'h).toNat:Int)=c:=fun h=>by rw [hc.out];exact PlainAid.get_bt s p h
 have hx0:0≤c:=by rw [hc.out];exact PlainAid.bt_nonneg s p
 have hx1:c≤255:=by rw [hc.out];exact PlainAid.bt_le s p
 have H0:Hid (∀ W:World,Calls Tryz.prog 112 #[.int .u8 c] W fun e w'=>e=.returned (.bool true)∧W=w'):=fun W=>by
  have k:=letter_any c hx0 hx1 W
  rw [hc.out,hN0] at k
  rw [hc.out]
  exact k
 have i0:∀ w,(Instr.index 180 (.agg #[.func (.func 112) #[] #[],.func (.func 144) #[.pointer (some ⟨b,0,none⟩)] #[],.func (.func 72) #[] #[],.func (.func 145) #[.pointer (some ⟨b,0,none⟩)] #[],.func (.func 146) #[] #[],.func (.func 147) #[.pointer (some ⟨b,0,none⟩)] #[]]) (.int .i64 0)).run Tryz.prog w=.ok (.agg #[.func (.func 112) #[] #[],.func (.func 144) #[.pointer (some ⟨b,0,none⟩)] #[]]) w:=fun _=>by kernel_rfl
 have hany:∀ W:World,Below w.heap.size w W→Calls Tryz.prog 144 #[.pointer (some ⟨b,0,none⟩)] W fun e w1=>e=.returned (Res.val (nameR s p))∧Below W.heap.size W w1:=fun W hb=>name_any b s p fa fr W (HT.out.below (Nat.le_refl _) hb) hs62 hp (HS.out.below hb hlt)
 obtain ⟨r,hr⟩:∃ r,Hid (r=nameR s p):=⟨_,rfl⟩
 rw [← hr.out] at hany ⊢
 obtain ⟨rk,rx,rw0,rp,ra,rr⟩:=r
 have HC:Hid (∀ W:World,Below w.heap.size w W→Calls Tryz.prog 144 #[.pointer (some ⟨b,0,none⟩)] W fun e w1=>e=.returned (.tuple #[.agg #[.int .u8 rk,.string rx,.int .i64 rw0,.int .i64 rp],.agg #[.int .i64 ra,.int .i64 rr]])∧Below W.heap.size W w1):=hany
 clear hany
 clear hs T hN0
 have l1:b<w.heap.size+1:=by omega
 have l2:b<w.heap.size+1+1:=by omega
 have l3:b<w.heap.size+1+1+1:=by omega
 have l4:b<w.heap.size+1+1+1+1:=by omega
 have l5:b<w.heap.size+1+1+1+1+1:=by omega
 go_enter Tryz.func121,Tryz.ntmps121
 go_wp2_with fail
 refine wp_loop_rounds 1 ?_
 rw [rounds_succ]
 go_wp2_with fail
 go_quiet ((go_at_call 112;first | (with_reducible exact quiet_one (H0.out _)) | (with_reducible exact quiet_more (H0.out _))))
 go_wp2_with fail
 refine (HC.out _ ?hbel).mono ?_
 case hbel=>exact belowN (w:=w) [_,tokZ,faultZ,_] (by rfl) (by rfl) (by rfl) (by rfl)
 rintro e w1 ⟨rfl,hb⟩
 obtain ⟨hk,hz,hw⟩:=keptN hb w [_,tokZ,faultZ,_] (by rfl) (by rfl) (by rfl) (by rfl)
 obtain ⟨⟨a0,a1,a2,a3⟩,a4,a5,a6,a7⟩:=row4 (show w1.heap[w.heap.size+1]? = some tokZ from hk 1 (by simp))
 obtain ⟨⟨b0,b1⟩,b2,b3⟩:=row2 (show w1.heap[w.heap.size+1+1]? = some faultZ from hk 2 (by simp))
 clear hk hb
 go_wp2
 refine bodyPost_ret (v:=.tuple #[.agg #[.int .u8 rk,.string rx,.int .i64 rw0,.int .i64 rp],.agg #[.int .i64 ra,.int .i64 rr]]) (by simp [results,Tryz.results121,go_sem,a0,a1,a2,a3,b0,b1]) rfl ⟨rfl,stored6' (Nat.le_succ _) hw _ _ _ _ _ _⟩
theorem next_1 (b:Nat) (s:ByteArray) (p:Nat) (fa fr:Int) (w:World) (T:LTabs w) (hs62:s.size≤281474976710656) (hp:p<s.size) (hs:Sc w b s p fa fr) (hN0:letterB (PlainAid.bt s p)=false) (hN1:digitB (PlainAid.bt s p)=true) :
 Calls Tryz.prog 121 #[.pointer (some ⟨b,0,none⟩),.agg #[.func (.func 112) #[] #[],.func (.func 144) #[.pointer (some ⟨b,0,none⟩)] #[],.func (.func 72) #[] #[],.func (.func 145) #[.pointer (some ⟨b,0,none⟩)] #[],.func (.func 146) #[] #[],.func (.func 147) #[.pointer (some ⟨b,0,none⟩)] #[]]] w fun e w'=>e=.returned (Res.val (numR s p))∧Below w.heap.size w w':=by
 have hlt:=hs.lt
 obtain ⟨⟨c0,c1,c2,c3⟩,f1,f2,f3⟩:=hs.cells
 have HS:=Lib.hid hs
 have HT:=Lib.hid T
 obtain ⟨c,hc⟩:∃ c,Hid (c=PlainAid.bt s p):=⟨_,rfl⟩
 have hbt:∀ h:p<s.size,((s[p]'h).toNat:Int)=c:=fun h=>by rw [hc.out];exact PlainAid.get_bt s p h
 have hx0:0≤c:=by rw [hc.out];exact PlainAid.bt_nonneg s p
 have hx1:c≤255:=by rw [hc.out];exact PlainAid.bt_le s p
 have H0:Hid (∀ W:World,Calls Tryz.prog 112 #[.int .u8 c] W fun e w'=>e=.returned (.bool false)∧W=w'):=fun W=>by
  have k:=letter_any c hx0 hx1 W
  rw [hc.out,hN0] at k
  rw [hc.out]
  exact k
 have i0:∀ w,(Instr.index 180 (.agg #[.func (.func 112) #[] #[],.func (.func 144) #[.pointer (some ⟨b,0,none⟩)] #[],.func (.func 72) #[] #[],.func (.func 145) #[.pointer (some ⟨b,0,none⟩)] #[],.func (.func 146) #[] #[],.func (.func 147) #[.pointer (some ⟨b,0,none⟩)] #[]]) (.int .i64 0)).run Tryz.prog w=.ok (.agg #[.func (.func 112) #[] #[],.func (.func 144) #[.pointer (some ⟨b,0,none⟩)] #[]]) w:=fun _=>by kernel_rfl
 have H1:Hid (∀ W:World,Calls Tryz.prog 72 #[.int .u8 c] W fun e w'=>e=.returned (.bool true)∧W=w'):=fun W=>by
  have k:=digit_any c hx0 hx1 W
  rw [hc.out,hN1] at k
  rw [hc.out]
  exact k
 have i1:∀ w,(Instr.index 180 (.agg #[.func (.func 112) #[] #[],.func (.func 144) #[.pointer (some ⟨b,0,none⟩)] #[],.func (.func 72) #[] #[],.func (.func 145) #[.pointer (some ⟨b,0,none⟩)] #[],.func (.func 146) #[] #[],.func (.func 147) #[.pointer (some ⟨b,0,none⟩)] #[]]) (.int .i64 1)).run Tryz.prog w=.ok (.agg #[.func (.func 72) #[] #[],.func (.func 145) #[.pointer (some ⟨b,0,none⟩)] #[]]) w:=fun _=>by kernel_rfl
 have hany:∀ W:World,Below w.heap.size w W→Calls Tryz.prog 145 #[.pointer (some ⟨b,0,none⟩)] W fun e w1=>e=.returned (Res.val (numR s p))∧Below W.heap.size W w1:=fun W hb=>number_any b s p fa fr W hs62 hp (HS.out.below hb hlt)
 obtain ⟨r,hr⟩:∃ r,Hid (r=numR s p):=⟨_,rfl⟩
 rw [← hr.out] at hany ⊢
 obtain ⟨rk,rx,rw0,rp,ra,rr⟩:=r
 have HC:Hid (∀ W:World,Below w.heap.size w W→Calls Tryz.prog 145 #[.pointer (some ⟨b,0,none⟩)] W fun e w1=>e=.returned (.tuple #[.agg #[.int .u8 rk,.string rx,.int .i64 rw0,.int .i64 rp],.agg #[.int .i64 ra,.int .i64 rr]])∧Below W.heap.size W w1):=hany
 clear hany
 clear hs T hN0 hN1
 have l1:b<w.heap.size+1:=by omega
 have l2:b<w.heap.size+1+1:=by omega
 have l3:b<w.heap.size+1+1+1:=by omega
 have l4:b<w.heap.size+1+1+1+1:=by omega
 have l5:b<w.heap.size+1+1+1+1+1:=by omega
 go_enter Tryz.func121,Tryz.ntmps121
 go_wp2_with fail
 refine wp_loop_rounds 2 ?_
 rw [rounds_succ]
 go_wp2_with fail
 go_quiet ((go_at_call 112;first | (with_reducible exact quiet_one (H0.out _)) | (with_reducible exact quiet_more (H0.out _))))
 go_wp2_with fail
 rw [rounds_succ]
 go_wp2_with fail
 go_quiet ((go_at_call 72;first | (with_reducible exact quiet_one (H1.out _)) | (with_reducible exact quiet_more (H1.out _))))
 go_wp2_with fail
 refine (HC.out _ ?hbel).mono ?_
 case hbel=>exact belowN (w:=w) [_,tokZ,faultZ,_,_] (by rfl) (by rfl) (by rfl) (by rfl)
 rintro e w1 ⟨rfl,hb⟩
 obtain ⟨hk,hz,hw⟩:=keptN hb w [_,tokZ,faultZ,_,_] (by rfl) (by rfl) (by rfl) (by rfl)
 obtain ⟨⟨a0,a1,a2,a3⟩,a4,a5,a6,a7⟩:=row4 (show w1.heap[w.heap.size+1]? = some tokZ from hk 1 (by simp))
 obtain ⟨⟨b0,b1⟩,b2,b3⟩:=row2 (show w1.heap[w.heap.size+1+1]? = some faultZ from hk 2 (by simp))
 clear hk hb
 go_wp2
 refine bodyPost_ret (v:=.tuple #[.agg #[.int .u8 rk,.string rx,.int .i64 rw0,.int .i64 rp],.agg #[.int .i64 ra,.int .i64 rr]]) (by simp [results,Tryz.results121,go_sem,a0,a1,a2,a3,b0,b1]) rfl ⟨rfl,stored6' (Nat.le_succ _) hw _ _ _ _ _ _⟩
theorem next_2 (b:Nat) (s:ByteArray) (p:Nat) (fa fr:Int) (w:World) (T:LTabs w) (hs62:s.size≤281474976710656) (hp:p<s.size) (hs:Sc w b s p fa fr) (hN0:letterB (PlainAid.bt s p)=false) (hN1:digitB (PlainAid.bt s p)=false) (hN2:signB (PlainAid.bt s p)=true) :
 Calls Tryz.prog 121 #[.pointer (some ⟨b,0,none⟩),.agg #[.func (.func 112) #[] #[],.func (.func 144) #[.pointer (some ⟨b,0,none⟩)] #[],.func (.func 72) #[] #[],.func (.func 145) #[.pointer (some ⟨b,0,none⟩)] #[],.func (.func 146) #[] #[],.func (.func 147) #[.pointer (some ⟨b,0,none⟩)] #[]]] w fun e w'=>e=.returned (Res.val (signR s p))∧Below w.heap.size w w':=by
 have hlt:=hs.lt
 obtain ⟨⟨c0,c1,c2,c3⟩,f1,f2,f3⟩:=hs.cells
 have HS:=Lib.hid hs
 have HT:=Lib.hid T
 obtain ⟨c,hc⟩:∃ c,Hid (c=PlainAid.bt s p):=⟨_,rfl⟩
 have hbt:∀ h:p<s.size,((s[p]'h).toNat:Int)=c:=fun h=>by rw [hc.out];exact PlainAid.get_bt s p h
 have hx0:0≤c:=by rw [hc.out];exact PlainAid.bt_nonneg s p
 have hx1:c≤255:=by rw [hc.out];exact PlainAid.bt_le s p
 have H0:Hid (∀ W:World,Calls Tryz.prog 112 #[.int .u8 c] W fun e w'=>e=.returned (.bool false)∧W=w'):=fun W=>by
  have k:=letter_any c hx0 hx1 W
  rw [hc.out,hN0] at k
  rw [hc.out]
  exact k
 have i0:∀ w,(Instr.index 180 (.agg #[.func (.func 112) #[] #[],.func (.func 144) #[.pointer (some ⟨b,0,none⟩)] #[],.func (.func 72) #[] #[],.func (.func 145) #[.pointer (some ⟨b,0,none⟩)] #[],.func (.func 146) #[] #[],.func (.func 147) #[.pointer (some ⟨b,0,none⟩)] #[]]) (.int .i64 0)).run Tryz.prog w=.ok (.agg #[.func (.func 112) #[] #[],.func (.func 144) #[.pointer (some ⟨b,0,none⟩)] #[]]) w:=fun _=>by kernel_rfl
 have H1:Hid (∀ W:World,Calls Tryz.prog 72 #[.int .u8 c] W fun e w'=>e=.returned (.bool false)∧W=w'):=fun W=>by
  have k:=digit_any c hx0 hx1 W
  rw [hc.out,hN1] at k
  rw [hc.out]
  exact k
 have i1:∀ w,(Instr.index 180 (.agg #[.func (.func 112) #[] #[],.func (.func 144) #[.pointer (some ⟨b,0,none⟩)] #[],.func (.func 72) #[] #[],.func (.func 145) #[.pointer (some ⟨b,0,none⟩)] #[],.func (.func 146) #[] #[],.func (.func 147) #[.pointer (some ⟨b,0,none⟩)] #[]]) (.int .i64 1)).run Tryz.prog w=.ok (.agg #[.func (.func 72) #[] #[],.func (.func 145) #[.pointer (some ⟨b,0,none⟩)] #[]]) w:=fun _=>by kernel_rfl
 have H2:Hid (∀ W:World,Calls Tryz.prog 146 #[.int .u8 c] W fun e w'=>e=.returned (.bool true)∧W=w'):=fun W=>by
  have k:=sign_any c hx0 hx1 W
  rw [hc.out,hN2] at k
  rw [hc.out]
  exact k
 have i2:∀ w,(Instr.index 180 (.agg #[.func (.func 112) #[] #[],.func (.func 144) #[.pointer (some ⟨b,0,none⟩)] #[],.func (.func 72) #[] #[],.func (.func 145) #[.pointer (some ⟨b,0,none⟩)] #[],.func (.func 146) #[] #[],.func (.func 147) #[.pointer (some ⟨b,0,none⟩)] #[]]) (.int .i64 2)).run Tryz.prog w=.ok (.agg #[.func (.func 146) #[] #[],.func (.func 147) #[.pointer (some ⟨b,0,none⟩)] #[]]) w:=fun _=>by kernel_rfl
 have hany:∀ W:World,Below w.heap.size w W→Calls Tryz.prog 147 #[.pointer (some ⟨b,0,none⟩)] W fun e w1=>e=.returned (Res.val (signR s p))∧Below W.heap.size W w1:=fun W hb=>sign_at b s p fa fr W (HT.out.below (Nat.le_refl _) hb) hs62 hp (HS.out.below hb hlt)
 obtain ⟨r,hr⟩:∃ r,Hid (r=signR s p):=⟨_,rfl⟩
 rw [← hr.out] at hany ⊢
 obtain ⟨rk,rx,rw0,rp,ra,rr⟩:=r
 have HC:Hid (∀ W:World,Below w.heap.size w W→Calls Tryz.prog 147 #[.pointer (some ⟨b,0,none⟩)] W fun e w1=>e=.returned (.tuple #[.agg #[.int .u8 rk,.string rx,.int .i64 rw0,.int .i64 rp],.agg #[.int .i64 ra,.int .i64 rr]])∧Below W.heap.size W w1):=hany
 clear hany
 clear hs T hN0 hN1 hN2
 have l1:b<w.heap.size+1:=by omega
 have l2:b<w.heap.size+1+1:=by omega
 have l3:b<w.heap.size+1+1+1:=by omega
 have l4:b<w.heap.size+1+1+1+1:=by omega
 have l5:b<w.heap.size+1+1+1+1+1:=by omega
 go_enter Tryz.func121,Tryz.ntmps121
 go_wp2_with fail
 refine wp_loop_rounds 3 ?_
 rw [rounds_succ]
 go_wp2_with fail
 go_quiet ((go_at_call 112;first | (with_reducible exact quiet_one (H0.out _)) | (with_reducible exact quiet_more (H0.out _))))
 go_wp2_with fail
 rw [rounds_succ]
 go_wp2_with fail
 go_quiet ((go_at_call 72;first | (with_reducible exact quiet_one (H1.out _)) | (with_reducible exact quiet_more (H1.out _))))
 go_wp2_with fail
 rw [rounds_succ]
 go_wp2_with fail
 go_quiet ((go_at_call 146;first | (with_reducible exact quiet_one (H2.out _)) | (with_reducible exact quiet_more (H2.out _))))
 go_wp2_with fail
 refine (HC.out _ ?hbel).mono ?_
 case hbel=>exact belowN (w:=w) [_,tokZ,faultZ,_,_,_] (by rfl) (by rfl) (by rfl) (by rfl)
 rintro e w1 ⟨rfl,hb⟩
 obtain ⟨hk,hz,hw⟩:=keptN hb w [_,tokZ,faultZ,_,_,_] (by rfl) (by rfl) (by rfl) (by rfl)
 obtain ⟨⟨a0,a1,a2,a3⟩,a4,a5,a6,a7⟩:=row4 (show w1.heap[w.heap.size+1]? = some tokZ from hk 1 (by simp))
 obtain ⟨⟨b0,b1⟩,b2,b3⟩:=row2 (show w1.heap[w.heap.size+1+1]? = some faultZ from hk 2 (by simp))
 clear hk hb
 go_wp2
 refine bodyPost_ret (v:=.tuple #[.agg #[.int .u8 rk,.string rx,.int .i64 rw0,.int .i64 rp],.agg #[.int .i64 ra,.int .i64 rr]]) (by simp [results,Tryz.results121,go_sem,a0,a1,a2,a3,b0,b1]) rfl ⟨rfl,stored6' (Nat.le_succ _) hw _ _ _ _ _ _⟩
theorem next_3 (b:Nat) (s:ByteArray) (p:Nat) (fa fr:Int) (w:World) (T:LTabs w) (hs62:s.size≤281474976710656) (hp:p<s.size) (hs:Sc w b s p fa fr) (hN0:letterB (PlainAid.bt s p)=false) (hN1:digitB (PlainAid.bt s p)=false) (hN2:signB (PlainAid.bt s p)=false) :
 Calls Tryz.prog 121 #[.pointer (some ⟨b,0,none⟩),.agg #[.func (.func 112) #[] #[],.func (.func 144) #[.pointer (some ⟨b,0,none⟩)] #[],.func (.func 72) #[] #[],.func (.func 145) #[.pointer (some ⟨b,0,none⟩)] #[],.func (.func 146) #[] #[],.func (.func 147) #[.pointer (some ⟨b,0,none⟩)] #[]]] w fun e w'=>e=.returned (Res.val (⟨0,⟨#[]⟩,0,0,p,1⟩:Res))∧Below w.heap.size w w':=by
 have hlt:=hs.lt
 obtain ⟨⟨c0,c1,c2,c3⟩,f1,f2,f3⟩:=hs.cells
 have HS:=Lib.hid hs
 have HT:=Lib.hid T
 obtain ⟨c,hc⟩:∃ c,Hid (c=PlainAid.bt s p):=⟨_,rfl⟩
 have hbt:∀ h:p<s.size,((s[p]'h).toNat:Int)=c:=fun h=>by rw [hc.out];exact PlainAid.get_bt s p h
 have hx0:0≤c:=by rw [hc.out];exact PlainAid.bt_nonneg s p
 have hx1:c≤255:=by rw [hc.out];exact PlainAid.bt_le s p
 have H0:Hid (∀ W:World,Calls Tryz.prog 112 #[.int .u8 c] W fun e w'=>e=.returned (.bool false)∧W=w'):=fun W=>by
  have k:=letter_any c hx0 hx1 W
  rw [hc.out,hN0] at k
  rw [hc.out]
  exact k
 have i0:∀ w,(Instr.index 180 (.agg #[.func (.func 112) #[] #[],.func (.func 144) #[.pointer (some ⟨b,0,none⟩)] #[],.func (.func 72) #[] #[],.func (.func 145) #[.pointer (some ⟨b,0,none⟩)] #[],.func (.func 146) #[] #[],.func (.func 147) #[.pointer (some ⟨b,0,none⟩)] #[]]) (.int .i64 0)).run Tryz.prog w=.ok (.agg #[.func (.func 112) #[] #[],.func (.func 144) #[.pointer (some ⟨b,0,none⟩)] #[]]) w:=fun _=>by kernel_rfl
 have H1:Hid (∀ W:World,Calls Tryz.prog 72 #[.int .u8 c] W fun e w'=>e=.returned (.bool false)∧W=w'):=fun W=>by
  have k:=digit_any c hx0 hx1 W
  rw [hc.out,hN1] at k
  rw [hc.out]
  exact k
 have i1:∀ w,(Instr.index 180 (.agg #[.func (.func 112) #[] #[],.func (.func 144) #[.pointer (some ⟨b,0,none⟩)] #[],.func (.func 72) #[] #[],.func (.func 145) #[.pointer (some ⟨b,0,none⟩)] #[],.func (.func 146) #[] #[],.func (.func 147) #[.pointer (some ⟨b,0,none⟩)] #[]]) (.int .i64 1)).run Tryz.prog w=.ok (.agg #[.func (.func 72) #[] #[],.func (.func 145) #[.pointer (some ⟨b,0,none⟩)] #[]]) w:=fun _=>by kernel_rfl
 have H2:Hid (∀ W:World,Calls Tryz.prog 146 #[.int .u8 c] W fun e w'=>e=.returned (.bool false)∧W=w'):=fun W=>by
  have k:=sign_any c hx0 hx1 W
  rw [hc.out,hN2] at k
  rw [hc.out]
  exact k
 have i2:∀ w,(Instr.index 180 (.agg #[.func (.func 112) #[] #[],.func (.func 144) #[.pointer (some ⟨b,0,none⟩)] #[],.func (.func 72) #[] #[],.func (.func 145) #[.pointer (some ⟨b,0,none⟩)] #[],.func (.func 146) #[] #[],.func (.func 147) #[.pointer (some ⟨b,0,none⟩)] #[]]) (.int .i64 2)).run Tryz.prog w=.ok (.agg #[.func (.func 146) #[] #[],.func (.func 147) #[.pointer (some ⟨b,0,none⟩)] #[]]) w:=fun _=>by kernel_rfl
 clear hs T hN0 hN1 hN2
 have l1:b<w.heap.size+1:=by omega
 have l2:b<w.heap.size+1+1:=by omega
 have l3:b<w.heap.size+1+1+1:=by omega
 have l4:b<w.heap.size+1+1+1+1:=by omega
 have l5:b<w.heap.size+1+1+1+1+1:=by omega
 go_enter Tryz.func121,Tryz.ntmps121
 go_wp2_with fail
 refine wp_loop_rounds 4 ?_
 rw [rounds_succ]
 go_wp2_with fail
 go_quiet ((go_at_call 112;first | (with_reducible exact quiet_one (H0.out _)) | (with_reducible exact quiet_more (H0.out _))))
 go_wp2_with fail
 rw [rounds_succ]
 go_wp2_with fail
 go_quiet ((go_at_call 72;first | (with_reducible exact quiet_one (H1.out _)) | (with_reducible exact quiet_more (H1.out _))))
 go_wp2_with fail
 rw [rounds_succ]
 go_wp2_with fail
 go_quiet ((go_at_call 146;first | (with_reducible exact quiet_one (H2.out _)) | (with_reducible exact quiet_more (H2.out _))))
 go_wp2_with fail
 rw [rounds_succ]
 go_wp2_with fail
 go_region
 all_goals
  go_wp2
  refine bodyPost_ret (v:=.tuple #[.agg #[.int .u8 0,.string ⟨#[]⟩,.int .i64 0,.int .i64 0],.agg #[.int .i64 p,.int .i64 1]]) (by simp [results,Tryz.results121,go_sem]) rfl ⟨rfl,stored6' (Nat.le_succ _) (by first | exact belowN [_,_,_,_,_,_] (by rfl) (by rfl) (by rfl) (by rfl)) _ _ _ _ _ _⟩
theorem next_any (b:Nat) (s:ByteArray) (p:Nat) (fa fr:Int) (w:World) (T:LTabs w) (hs62:s.size≤281474976710656) (hp:p<s.size) (hs:Sc w b s p fa fr) :
 Calls Tryz.prog 121 #[.pointer (some ⟨b,0,none⟩),.agg (famCells b)] w fun e w'=>e=.returned (nextR s p).val∧Below w.heap.size w w':=by
 unfold nextR
 by_cases h0:letterB (PlainAid.bt s p)=true
 · rw [if_pos h0];exact next_0 b s p fa fr w T hs62 hp hs h0
 · rw [if_neg h0]
   have g0:letterB (PlainAid.bt s p)=false:=by simpa using h0
   by_cases h1:digitB (PlainAid.bt s p)=true
   · rw [if_pos h1];exact next_1 b s p fa fr w T hs62 hp hs g0 h1
   · rw [if_neg h1]
     have g1:digitB (PlainAid.bt s p)=false:=by simpa using h1
     by_cases h2:signB (PlainAid.bt s p)=true
     · rw [if_pos h2];exact next_2 b s p fa fr w T hs62 hp hs g0 g1 h2
     · rw [if_neg h2]
       have g2:signB (PlainAid.bt s p)=false:=by simpa using h2
       exact next_3 b s p fa fr w T hs62 hp hs g0 g1 g2
open Go.RowKit
structure Keep (sel:Nat→Obj→Prop) (A B:World):Prop where
 os:B.os=A.os
 tape:B.tape=A.tape
 output:B.output=A.output
 size:A.heap.size≤B.heap.size
 block:∀ k o,A.heap[k]? = some o→sel k o→B.heap[k]? = some o
theorem Keep.refl (sel:Nat→Obj→Prop) (A:World):Keep sel A A:=⟨rfl,rfl,rfl,Nat.le_refl _,fun _ _ h _=>h⟩
theorem Keep.trans {sel:Nat→Obj→Prop} {A B C:World} (h:Keep sel A B) (k:Keep sel B C):Keep sel A C :=
 ⟨k.os.trans h.os,k.tape.trans h.tape,k.output.trans h.output,Nat.le_trans h.size k.size,fun i o hi hs=>k.block i o (h.block i o hi hs) hs⟩
theorem Keep.mono {sel sel':Nat→Obj→Prop} {A B:World} (h:Keep sel A B) (hm:∀ k o,sel' k o→sel k o):Keep sel' A B :=
 ⟨h.os,h.tape,h.output,h.size,fun k o hk hs=>h.block k o hk (hm k o hs)⟩
theorem Keep.grown {sel:Nat→Obj→Prop} {A B C:World} {row:Option Nat} (h:Keep sel A B) (hg:B.grownBy C row) (hr:∀ r o,row=some r→B.heap[r]? = some o→¬ sel r o):Keep sel A C :=
 h.trans ⟨hg.os,hg.tape,hg.output,hg.size,fun k o hk hs=>(hg.block k (Array.getElem?_eq_some_iff.1 hk).1 (fun e=>hr k o e.symm hk hs)).trans hk⟩
theorem Keep.alloc {sel:Nat→Obj→Prop} {A B:World} (h:Keep sel A B) (o:Obj):Keep sel A (B.alloc o) :=
 h.grown (World.grownBy_alloc B o none) (fun _ _ e=>by cases e)
theorem Keep.putObj {sel:Nat→Obj→Prop} {A B:World} (h:Keep sel A B) {l:Nat} {o:Obj} (o':Obj) (hl:B.heap[l]? = some o) (hs:¬ sel l o):Keep sel A (B.putObj l o') :=
 h.grown (grownBy_putObj' B l o') (fun r u e hu=>by cases e;rw [hl] at hu;cases hu;exact hs)
theorem grownBy_setCellAt (W:World) (p:Addr) (v:Value):W.grownBy (W.setCell p v) (some p.block) :=
 ⟨rfl,rfl,rfl,by simp [World.setCell],fun k _ hk=>Below.heap_setCell _ _ _ k (fun e=>hk (by rw [e]))⟩
theorem Keep.setCell {sel:Nat→Obj→Prop} {A B:World} (h:Keep sel A B) {p:Addr} {o:Obj} (u:Value) (hl:B.heap[p.block]? = some o) (hs:¬ sel p.block o):Keep sel A (B.setCell p u) :=
 h.grown (grownBy_setCellAt B p u) (fun r x e hx=>by cases e;rw [hl] at hx;cases hx;exact hs)
theorem Keep.below {sel:Nat→Obj→Prop} {A B:World} {n:Nat} (h:Keep sel A B) (hn:n≤A.heap.size) (hs:∀ k o,k<n→sel k o):Below n A B :=
 ⟨h.os,h.tape,h.output,h.size,fun k hk=>by
  have hlt:k<A.heap.size:=by omega
  rw [h.block k _ (Array.getElem?_eq_getElem hlt) (hs k _ hk),Array.getElem?_eq_getElem hlt]⟩
theorem Keep.of_below {sel:Nat→Obj→Prop} {A B:World} (h:Below A.heap.size A B):Keep sel A B :=
 ⟨h.os,h.tape,h.output,h.size,fun k _ hk _=>(h.block k (Array.getElem?_eq_some_iff.1 hk).1).trans hk⟩
def keepPost {α:Type} (sB:Nat→Obj→Prop) (I:List α→World→Prop) (Ix:Code→List α→World→Prop) (xs:List α) (W:World):Exit→Act→World→Prop
 | .normal,_,W'=>Keep sB W W'∧I xs W'
 | .ret,_,W'=>Keep sB W W'∧Ix .ret xs W'
 | .exit id,_,W'=>Keep sB W W'∧Ix (.exit id) xs W'
 | .goto t,_,W'=>Keep sB W W'∧Ix (.goto t) xs W'
 | .panic _,_,_=>False
 | .outgrown,_,_=>False
theorem wpIn_range_keep {F:Fence} {n:Nat} {P:Program} {α:Type} {g:Operand} {ps:Array Tmp} {assign body:Code} {Q:Exit→Act→World→Prop} {a:Act} {w:World}
 (hro:F.round=none) (h1:1≤n) {gf:Nat} {fst lb:Array Value} (hg:a.eval g=.func (.func gf) fst lb) (hFg:F.fn gf) (eg:∀ args w,(callFunc gf args).run P w=.ok (.enter gf args) w)
 {encs:α→Array Value} (hps:∀ x,(encs x).size=ps.size)
 (sO sY sC:Nat→Obj→Prop) (hO:∀ k o,o.isCells=false→sO k o) (hY:∀ k o,w.heap.size≤k→sY k o→o.isCells=true) (hC:∀ k o,w.heap.size≤k→sC k o→o.isCells=true) (hCO:∀ k o,sC k o→sO k o)
 {S Sp:List α→World→Prop} {ok:List α→α→Prop}
 (hseq:∀ (l:Nat) (J Jx:List α→World→Prop) (W:World),Below w.heap.size w W →
  (∀ s A B,J s A→Keep sO A B→J s B)→(∀ s A B,Jx s A→Keep sO A B→Jx s B) →
  (∀ pre x W1,J pre W1→ok pre x→YieldAt F (n-1-1) P l (encs x) W1 fun e W' =>
   (e=.returned (.bool true)∧J (pre++[x]) W'∧Keep sY W1 W')∨(e=.returned (.bool false)∧Jx (pre++[x]) W'∧Keep sY W1 W')) →
  J [] W →
  CallsIn F (n-1) P gf (fst++#[.func (.yield l) #[] #[]]++lb) W fun e W'=>(∃ v,e=.returned v)∧((∃ xs,S xs W'∧J xs W')∨(∃ pre,Sp pre W'∧Jx pre W')))
 (I:List α→World→Prop) (Ix:Code→List α→World→Prop) (hI:∀ s A B,I s A→Keep sC A B→I s B) (hIx:∀ c s A B,Ix c s A→Keep sC A B→Ix c s B) (h0:I [] w)
 (Ax:α→Act→World→Prop) (hAx:∀ x a' A B,Ax x a' A→Keep sC A B→Ax x a' B)
 (hassign:∀ (l:Nat) (pre:List α) (x:α) (W:World) (K:Act→World→Prop),I pre W→(∀ a' W',Keep (fun k o=>sY k o∨o.isCells=false) W W'→I pre W'→Ax x a' W'→K a' W') →
  assign.wpIn (F.inRound l) (n-1-1) P (Exit.then K (fun _ _ _=>False)) { tmps:=(ps.zip (encs x)).foldl (fun t (p,v)=>t.setIfInBounds p v) a.tmps,defers:=[] } W)
 (hbody:∀ (l:Nat) (pre:List α) (x:α) (a':Act) (W:World),I pre W→Ax x a' W→ok pre x→body.wpIn (F.inRound l) (n-1-1) P (keepPost (fun k o=>sY k o∨o.isCells=false) I Ix (pre++[x]) W) a' W)
 (hdone:∀ (D:Nat) (xs:List α) (W0 W:World),w.heap.size≤D→S xs W0→I xs W→Keep (fun k o=>k<w.heap.size∨o.isCells=true) W0 W→W.heap[D]? = some (.deferred (some []))→Q .normal { a with defers:={ target:=.collected D,args:=#[] } :: a.defers } W)
 (hstop:∀ (D:Nat) (c:Code) (pre:List α) (W0 W:World),w.heap.size≤D→Sp pre W0→Ix c pre W→Keep (fun k o=>k<w.heap.size∨o.isCells=true) W0 W→W.heap[D]? = some (.deferred (some []))→c.wpIn F n P Q { a with defers:={ target:=.collected D,args:=#[] } :: a.defers } W) :
 (Code.rangeFunc g ps assign body).wpIn F n P Q a w:=by
 refine wpIn_rangeFunc ?_
 intro fn hfn
 rw [hro]
 obtain ⟨rec,hrec⟩:∃ rec:LoopState→Option Code→Loop,rec=fun st pe=>{ state:=st,pending:=pe,fn,tmps:=a.tmps,params:=ps,assign,body,defers:=w.heap.size }:=⟨_,rfl⟩
 obtain ⟨W1,hW1⟩:∃ W1,(w.alloc (.deferred (some []))).alloc (.loop (rec .ready none))=W1:=⟨_,rfl⟩
 have hL1:W1.heap[w.heap.size+1]? = some (.loop (rec .ready none)):=by
  rw [← hW1];have:=World.alloc_heap_new (w.alloc (.deferred (some []))) (.loop (rec .ready none));rwa [World.size_alloc] at this
 have hK1:W1.heap[w.heap.size]? = some (.deferred (some [])):=by
  rw [← hW1];exact (Below.heap_alloc _ _ _ (by simp)).trans (World.alloc_heap_new w _)
 have hI1:I [] W1:=by rw [← hW1];exact hI _ _ _ h0 (((Keep.refl _ w).alloc _).alloc _)
 have hb1:Below w.heap.size w W1:=by
  rw [← hW1];exact ((Below.refl _ w).alloc (Nat.le_refl _) _).alloc (by simp) _
 have put:∀ {W:World} {l:Nat} {o:Obj} (o':Obj),w.heap.size≤l→W.heap[l]? = some o→o.isCells=false→Keep sC W (W.putObj l o'):=fun o' hle hl hc =>
  (Keep.refl _ _).putObj o' hl (fun hs=>by have:=hC _ _ hle hs;rw [hc] at this;cases this)
 have putY:∀ {W:World} {l:Nat} {o:Obj} (o':Obj),w.heap.size≤l→W.heap[l]? = some o→o.isCells=false→Keep sY W (W.putObj l o'):=fun o' hle hl hc =>
  (Keep.refl _ _).putObj o' hl (fun hs=>by have:=hY _ _ hle hs;rw [hc] at this;cases this)
 have putR:∀ {W:World} {l:Nat} {o:Obj} (o':Obj),w.heap.size≤l→W.heap[l]? = some o→o.isCells=false→Keep (fun k o=>k<w.heap.size∨o.isCells=true) W (W.putObj l o'):=fun o' hle hl hc =>
  (Keep.refl _ _).putObj o' hl (fun hs => by rcases hs with hs | hs; · omega
                                             · rw [hc] at hs;cases hs)
 refine ⟨w.heap.size+1,[{ target:=.collected w.heap.size,args:=#[] }],W1,{ target:=.fn (.func gf) lb,args:=fst++#[.func (.yield (w.heap.size+1)) #[] #[]] },W1,gf,
  fst++#[.func (.yield (w.heap.size+1)) #[] #[]]++lb,W1,?_,?_,?_,?_,fun _=>h1,?_⟩
 · rw [← hW1,hrec];exact run_enterLoop_outer _ _ _ _ _
 · simp only [resolve, hg]
   simp [go_sem]
 · intro f' hf';simp [Target.leads] at hf';subst hf';exact hFg
 · simp [invoke,go_sem,eg]
 · refine (hseq (w.heap.size + 1)
    (fun pre W=>I pre W∧W.heap[w.heap.size+1]? = some (.loop (rec .ready none))∧W.heap[w.heap.size]? = some (.deferred (some [])))
    (fun pre W=>∃ c,Ix c pre W∧W.heap[w.heap.size+1]? = some (.loop (rec .done (some c)))∧W.heap[w.heap.size]? = some (.deferred (some [])))
    W1 hb1
    (fun s A B hs hk=>⟨hI s A B hs.1 (hk.mono hCO),hk.block _ _ hs.2.1 (hO _ _ rfl),hk.block _ _ hs.2.2 (hO _ _ rfl)⟩)
    (fun s A B hs hk=>by
     obtain ⟨c,hc,hl,hd⟩:=hs
     exact ⟨c,hIx c s A B hc (hk.mono hCO),hk.block _ _ hl (hO _ _ rfl),hk.block _ _ hd (hO _ _ rfl)⟩)
    ?_ ⟨hI1,hL1,hK1⟩).mono ?_
   ·
    rintro pre x W ⟨hi,hl,hk⟩ hok
    have hlt:w.heap.size+1<W.heap.size:=(Array.getElem?_eq_some_iff.1 hl).1
    have hy:=run_yield (P:=P) (args:=encs x) hl (by rw [hrec];exact hps x)
    rw [hrec] at hy
    refine ⟨fn,_,assign,body,hy,roundIn_of_wpIn hfn (hassign _ pre x W _ hi ?_)⟩
    clear hy
    intro a' Wa hka hia hax
    have hkY:Keep sY W Wa:=hka.mono (fun _ _ h=>.inl h)
    replace hl:=hka.block _ _ hl (.inr rfl)
    replace hk:=hka.block _ _ hk (.inr rfl)
    replace hlt:w.heap.size+1<Wa.heap.size:=(Array.getElem?_eq_some_iff.1 hl).1
    refine ⟨_,run_beginRound hl (by rw [hrec]),?_⟩
    have hl2:(Wa.putObj (w.heap.size+1) (.loop { rec .ready none with state:=.busy })).heap[w.heap.size+1]? = some (.loop { rec .ready none with state:=.busy }):=World.putObj_heap_same hlt
    have hk2:(Wa.putObj (w.heap.size+1) (.loop { rec .ready none with state:=.busy })).heap[w.heap.size]? = some (.deferred (some [])):=(World.putObj_heap_other (by omega)).trans hk
    have hw2:Keep sY Wa (Wa.putObj (w.heap.size+1) (.loop { rec .ready none with state:=.busy })):=putY _ (by omega) hl rfl
    have hw2C:Keep sC Wa (Wa.putObj (w.heap.size+1) (.loop { rec .ready none with state:=.busy })):=put _ (by omega) hl rfl
    refine wpIn_mono (hbody _ pre x a' _ (hI _ _ _ hia hw2C) (hAx _ _ _ _ hax hw2C) hok) ?_
    have fin:∀ (jump:Option Code) (W3:World),Keep (fun k o=>sY k o∨o.isCells=false) (Wa.putObj (w.heap.size+1) (.loop { rec .ready none with state:=.busy })) W3 →
     (Instr.endRound (w.heap.size+1) jump).run P W3=.ok (.bool jump.isNone) (W3.putObj (w.heap.size+1) (.loop (rec (if jump.isNone then .ready else .done) jump))) ∧
     W3.heap[w.heap.size+1]? = some (.loop { rec .ready none with state:=.busy }) ∧
     (W3.putObj (w.heap.size+1) (.loop (rec (if jump.isNone then .ready else .done) jump))).heap[w.heap.size+1]? = some (.loop (rec (if jump.isNone then .ready else .done) jump)) ∧
     (W3.putObj (w.heap.size+1) (.loop (rec (if jump.isNone then .ready else .done) jump))).heap[w.heap.size]? = some (.deferred (some [])) ∧
     Keep sY W (W3.putObj (w.heap.size+1) (.loop (rec (if jump.isNone then .ready else .done) jump))) ∧
     Keep sC W3 (W3.putObj (w.heap.size+1) (.loop (rec (if jump.isNone then .ready else .done) jump))):=fun jump W3 hk3=>by
     have hl3:=hk3.block _ _ hl2 (.inr rfl)
     have:=run_endRound (P:=P) jump hl3
     rw [hrec] at this ⊢
     exact ⟨this,by rw [hrec] at hl3;exact hl3,World.putObj_heap_same (Array.getElem?_eq_some_iff.1 hl3).1,(World.putObj_heap_other (by omega)).trans (hk3.block _ _ hk2 (.inr rfl)),
      hkY.trans (Keep.trans (by rw [hrec] at hw2;exact hw2) (Keep.trans (by rw [hrec] at hk3;exact hk3.mono (fun _ _ h=>.inl h)) (putY _ (by omega) hl3 rfl))),put _ (by omega) hl3 rfl⟩
    rintro e a3 W3 hp
    cases e with
    | normal =>
      obtain ⟨hk3,hi3⟩:=hp
      obtain ⟨hr,hl3,hl4,hk4,hy4,hc4⟩:=fin none W3 hk3
      exact ⟨_,_,hr,.inl ⟨rfl,⟨hI _ _ _ hi3 hc4,hl4,hk4⟩,hy4⟩⟩
    | ret =>
      obtain ⟨hk3,hi3⟩:=hp
      obtain ⟨hr,hl3,hl4,hk4,hy4,hc4⟩:=fin (some .ret) W3 hk3
      exact ⟨_,_,hr,.inr ⟨rfl,⟨.ret,hIx _ _ _ _ hi3 hc4,hl4,hk4⟩,hy4⟩⟩
    | exit id =>
      obtain ⟨hk3,hi3⟩:=hp
      obtain ⟨hr,hl3,hl4,hk4,hy4,hc4⟩:=fin (some (.exit id)) W3 hk3
      exact ⟨_,_,hr,.inr ⟨rfl,⟨.exit id,hIx _ _ _ _ hi3 hc4,hl4,hk4⟩,hy4⟩⟩
    | goto t =>
      obtain ⟨hk3,hi3⟩:=hp
      obtain ⟨hr,hl3,hl4,hk4,hy4,hc4⟩:=fin (some (.goto t)) W3 hk3
      exact ⟨_,_,hr,.inr ⟨rfl,⟨.goto t,hIx _ _ _ _ hi3 hc4,hl4,hk4⟩,hy4⟩⟩
    | panic ch=>exact hp.elim
    | outgrown=>exact hp.elim
   ·
    rintro e W2 ⟨⟨v,rfl⟩,(⟨xs,hS,hi,hl,hk⟩ | ⟨pre,hSp,c,hi,hl,hk⟩)⟩
    · exact ⟨none,_,by have:=run_endLoop (P:=P) hl (by rw [hrec];simp);rw [hrec] at this;exact this,hdone _ xs W2 _ (Nat.le_refl _) hS (hI _ _ _ hi (put _ (by omega) hl rfl)) (putR _ (by omega) hl rfl) ((World.putObj_heap_other (by omega)).trans hk)⟩
    · exact ⟨some c,_,by have:=run_endLoop (P:=P) hl (by rw [hrec];simp);rw [hrec] at this;exact this,hstop _ c pre W2 _ (Nat.le_refl _) hSp (hIx _ _ _ _ hi (put _ (by omega) hl rfl)) (putR _ (by omega) hl rfl) ((World.putObj_heap_other (by omega)).trans hk)⟩
end Go.Proofs.YtggbkldniffbfaaGreatDoor

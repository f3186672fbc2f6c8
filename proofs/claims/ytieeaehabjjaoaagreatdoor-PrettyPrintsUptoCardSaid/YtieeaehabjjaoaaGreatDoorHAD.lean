/- The proof, part 4: texts that belong together, in one. -/
import Derived.Test.YtieeaehabjjaoaaGreatDoorHAC
set_option maxRecDepth 100000
set_option maxHeartbeats 20000000
namespace Go.Proofs.YtieeaehabjjaoaaGreatDoor
open Go.RowKit
set_option linter.unusedVariables false
set_option maxRecDepth 100000
def twoB (o:Int):Bool:=decide (0<levelOf o)&&decide (levelOf o<9)
def wrL (o:Int) (x:Ex):Bool:=x.kind==4&&decide (levelOf x.op<levelOf o)
def wrR (o:Int) (x:Ex):Bool:=x.kind==4&&decide (levelOf x.op≤levelOf o)
def b2i (b:Bool):Int:=bif b then 1 else 0
def wdB (k wd:Int):Bool:=(k==1&&decide (0≤wd)) || wd==0
def kid1 (ks:List Ex) (fs:List (Int→Bool)) (d:Int):Bool:=match ks,fs with | [x],[f]=>f (d+1+b2i (x.kind==4)) | _,_=>false
def kid2 (o:Int) (ks:List Ex) (fs:List (Int→Bool)) (d:Int):Bool:=match ks,fs with | [x,y],[f,g]=>f (d+b2i (wrL o x))&&g (d+b2i (wrR o y)) | _,_=>false
def kB (k o:Int) (ks:List Ex) (fs:List (Int→Bool)) (d:Int):Bool :=
 if k=1∨k=2 then o==0&&ks.isEmpty
 else if k=3 then oneB o&&kid1 ks fs d
 else if k=4 then twoB o&&kid2 o ks fs d
 else false
mutual
def rE:Ex→Int→Bool
 | .mk k o wd n ks _=>fun d=>decide (d≤64)&&(wdB k wd&&(nmB n (k==2) &&
  kB k o ks (rEs ks) d))
def rEs:List Ex→List (Int→Bool)
 | []=>[]
 | x::r=>rE x::rEs r
end
mutual
def rgE:Ex→Prop
 | .mk k o wd _ ks ps=>(0≤k∧k≤255)∧(0≤o∧o≤255)∧(-9223372036854775808≤wd∧wd≤9223372036854775807)∧rgEs ks
def rgEs:List Ex→Prop
 | []=>True
 | x::r=>rgE x∧rgEs r
end
theorem rgEs_mem:∀ {l:List Ex},rgEs l→∀ x∈l,rgE x
 | [],_,x,hx=>by simp at hx
 | y :: r, h, x, hx => by
   rcases List.mem_cons.1 hx with rfl | hx
   · exact h.1
   · exact rgEs_mem h.2 x hx
theorem NdP.cases {w w':World} {b:Bool} {e:Ending} (h:NdP w b e w'):(b=true∧e=.returned (.tuple #[])∧Below w.heap.size w w')∨(b=false∧e=.panicked (errP 40)∧Below w.heap.size w w'):=by
 cases b
 · exact .inr ⟨rfl,h⟩
 · exact .inl ⟨rfl,h⟩
section
variable {x:Ex} {v:Value} {w:World}
theorem p_wrapsOne (hv:exA w x v):Calls Tryz.prog 100 #[v] w fun e w'=>e=.returned (.bool (x.kind==4))∧Below w.heap.size w w':=by
 obtain ⟨a,cap,rfl,_⟩:=hv
 generalize x.kind=k,x.op=o,x.wd=wd,x.name=n,x.kids.length=m,x.pos=ps
 go_enter Tryz.func100,Tryz.ntmps100
 go_wp2
 go_ret
 exact ⟨rfl,(Below.refl _ w).alloc (Nat.le_refl _) _⟩
theorem p_wrapsL (o:Int) (h0:0≤o∧o≤255) (hx:0≤x.op∧x.op≤255) (hv:exA w x v) (TT:Tabs w):Calls Tryz.prog 102 #[.int .u8 o,v] w fun e w'=>e=.returned (.bool (wrL o x))∧Below w.heap.size w w':=by
 obtain ⟨a,cap,rfl,_⟩:=hv
 have H1:Hid (∀ W,Below w.heap.size w W→Calls Tryz.prog 135 #[.int .u8 x.op] W fun e w'=>e=.returned (.int .i64 (levelOf x.op))∧W=w'):=fun W hb=>level_any x.op hx.1 hx.2 W (TT.below (Nat.le_refl _) hb)
 have H2:Hid (∀ W,Below w.heap.size w W→Calls Tryz.prog 135 #[.int .u8 o] W fun e w'=>e=.returned (.int .i64 (levelOf o))∧W=w'):=fun W hb=>level_any o h0.1 h0.2 W (TT.below (Nat.le_refl _) hb)
 clear TT h0 hx
 unfold wrL
 generalize levelOf o=lo at H2 ⊢
 generalize levelOf x.op=lx at H1 ⊢
 generalize x.kind=k,x.op=ox,x.wd=wd,x.name=n,x.kids.length=m,x.pos=ps at *
 have HB:Hid (Below w.heap.size w (w.alloc (.cells #[.int .u8 k,.int .u8 ox,.int .i64 wd,.string n,.slice a m cap,.int .i64 ps] 59))):=(Below.refl _ w).alloc (Nat.le_refl _) _
 obtain ⟨q,hq⟩:∃ q,q=(k==4):=⟨_,rfl⟩
 rw [← hq]
 have hq2:(k==4)=q:=hq.symm
 clear hq
 cases q
 all_goals
  go_enter Tryz.func102,Tryz.ntmps102
  go_wp2_with (first
   | (go_at_call 135;refine (H1.out _ HB.out).mono ?_;rintro e w1 ⟨rfl,rfl⟩)
   | (go_at_call 135;refine (H2.out _ HB.out).mono ?_;rintro e w1 ⟨rfl,rfl⟩))
  go_ret
  exact ⟨rfl,HB.out⟩
theorem p_wrapsR (o:Int) (h0:0≤o∧o≤255) (hx:0≤x.op∧x.op≤255) (hv:exA w x v) (TT:Tabs w):Calls Tryz.prog 103 #[.int .u8 o,v] w fun e w'=>e=.returned (.bool (wrR o x))∧Below w.heap.size w w':=by
 obtain ⟨a,cap,rfl,_⟩:=hv
 have H1:Hid (∀ W,Below w.heap.size w W→Calls Tryz.prog 135 #[.int .u8 x.op] W fun e w'=>e=.returned (.int .i64 (levelOf x.op))∧W=w'):=fun W hb=>level_any x.op hx.1 hx.2 W (TT.below (Nat.le_refl _) hb)
 have H2:Hid (∀ W,Below w.heap.size w W→Calls Tryz.prog 135 #[.int .u8 o] W fun e w'=>e=.returned (.int .i64 (levelOf o))∧W=w'):=fun W hb=>level_any o h0.1 h0.2 W (TT.below (Nat.le_refl _) hb)
 clear TT h0 hx
 unfold wrR
 generalize levelOf o=lo at H2 ⊢
 generalize levelOf x.op=lx at H1 ⊢
 generalize x.kind=k,x.op=ox,x.wd=wd,x.name=n,x.kids.length=m,x.pos=ps at *
 have HB:Hid (Below w.heap.size w (w.alloc (.cells #[.int .u8 k,.int .u8 ox,.int .i64 wd,.string n,.slice a m cap,.int .i64 ps] 59))):=(Below.refl _ w).alloc (Nat.le_refl _) _
 obtain ⟨q,hq⟩:∃ q,q=(k==4):=⟨_,rfl⟩
 rw [← hq]
 have hq2:(k==4)=q:=hq.symm
 clear hq
 cases q
 all_goals
  go_enter Tryz.func103,Tryz.ntmps103
  go_wp2_with (first
   | (go_at_call 135;refine (H1.out _ HB.out).mono ?_;rintro e w1 ⟨rfl,rfl⟩)
   | (go_at_call 135;refine (H2.out _ HB.out).mono ?_;rintro e w1 ⟨rfl,rfl⟩))
  go_ret
  exact ⟨rfl,HB.out⟩
end
end Go.Proofs.YtieeaehabjjaoaaGreatDoor

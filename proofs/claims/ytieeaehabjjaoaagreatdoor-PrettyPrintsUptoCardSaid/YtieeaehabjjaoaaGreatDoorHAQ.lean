/- The proof, part 17: texts that belong together, in one. -/
import Derived.Deep.QuietTactic
import Derived.BigQuiet
import Derived.Deep.Draws
import Derived.StillTailTactics
import Derived.Deep.LoopGhost
import Derived.Test.YtieeaehabjjaoaaGreatDoorHAP
import Derived.Test.YtieeaehabjjaoaaGreatDoorHAC
import Derived.Deep.RegionHeld3
import Derived.Deep.DeepCutAuto
import Derived.BigRegion
import Derived.Deep.CutBlock
import Derived.WalkLawsBesides
import Derived.Deep.MidRow
import Derived.OwnWalk
import Derived.WalkSpells
import Derived.Test.YtieeaehabjjaoaaGreatDoorHAA
import Derived.Deep.RegionWith
set_option maxRecDepth 100000
set_option maxHeartbeats 20000000
namespace Go.Proofs.YtieeaehabjjaoaaGreatDoor
open Go.RowKit
set_option linter.unusedVariables false
theorem r_decls {l:List Dc} {a b:Option Addr} {c1 c2:Nat} {w:World} (hl:l.length≤9223372036854775807) (h1:dcsAt (fun _=>True) w l a) (h2:dcsAt (fun _=>True) w l b) :
 Calls Tryz.prog 53 #[.slice a l.length c1,.slice b l.length c2] w fun e w'=>e=.returned (.bool true)∧∃ j,w'=w.drewN j:=by
 have E1:=Lib.hid h1
 have E2:=Lib.hid h2
 obtain ⟨n,hn⟩:∃ n,n=l.length:=⟨_,rfl⟩
 rw [← hn] at hl ⊢
 have HN:=Lib.hid hn
 have hnn:((n:Int) != (n:Int))=false:=by simp
 clear h1 h2 hn
 go_enter Tryz.func53,Tryz.ntmps53
 go_wp2_with fail
 go_loopg [13] (n+1) (fun m' u W=>∃ i:Nat,u=.int .i64 (i:Int)∧i≤n∧m'=n-i+1∧∃ j,W=w.drewN j)
 case atStart=>exact ⟨0,rfl,Nat.zero_le _,by omega,0,rfl⟩
 case round =>
  obtain ⟨i,rfl,hi,hm,j0,hW0⟩:=hrel
  have HM:=Lib.hid hm
  have HW:=Lib.hid hW0
  clear hm hW0
  by_cases hin:i<n
  · have il : i < l.length := by have := HN.out; omega
    have g1:l[i]? = some l[i]:=List.getElem?_eq_getElem il
    generalize l[i]=x at g1
    rcases E1.out with e | ⟨g,q,rfl,_,e1⟩
    · cases l with
      | nil=>simp at il
      | cons=>cases e
    rcases E2.out with e | ⟨g',q',rfl,_,e2⟩
    · cases l with
      | nil=>simp at il
      | cons=>cases e
    obtain ⟨a0,a1,a2⟩:=dcsIn_get i x e1 g1
    obtain ⟨b0,b1,b2⟩:=dcsIn_get i x e2 g1
    obtain ⟨nm,wd,ps⟩:=x
    have hin':(i:Int)<(n:Int):=by omega
    have a0:wr.cell? ⟨g,q+i*3,none⟩=some (.string nm):=by rw [HW.out];exact a0
    have b0:wr.cell? ⟨g',q'+i*3,none⟩=some (.string nm):=by rw [HW.out];exact b0
    have a1:wr.cell? ⟨g,q+i*3+1,none⟩=some (.int .i64 wd):=by rw [HW.out];exact a1
    have b1:wr.cell? ⟨g',q'+i*3+1,none⟩=some (.int .i64 wd):=by rw [HW.out];exact b1
    have a2:wr.cell? ⟨g,q+i*3+2,none⟩=some (.int .i64 ps):=by rw [HW.out];exact a2
    have b2:wr.cell? ⟨g',q'+i*3+2,none⟩=some (.int .i64 ps):=by rw [HW.out];exact b2
    have q1:(nm.toList != nm.toList)=false:=by simp
    have q1':(nm.toList==nm.toList)=true:=by simp
    have q2:(wd != wd)=false:=by simp
    have q3:(ps != ps)=false:=by simp
    clear g1 e1 e2 il
    go_wp2_with fail
    go_quiet (fail)
    go_wp2_with fail
    go_roundg (n-(i+1)+1)
    case measure=>have:=HM.out;omega
    case rel=>exact ⟨i+1,rfl,by omega,by omega,_,by rw [HW.out,World.drewN_drewN]⟩
  · have : i = n := by omega
    subst this
    go_wp2_with fail
    go_ret
    exact ⟨rfl,_,HW.out⟩
theorem r_declared {l:List Dc} {a b:Option Addr} {c1 c2:Nat} {w:World} (hl:l.length≤9223372036854775807) (h1:dcsAt (fun _=>True) w l a) (h2:dcsAt (fun _=>True) w l b) :
 Calls Tryz.prog 26 #[.slice a l.length c1,.slice b l.length c2] w fun e w'=>e=.returned (.bool true)∧∃ j,w'=w.drewN j:=by
 have E1:=Lib.hid h1
 have E2:=Lib.hid h2
 obtain ⟨n,hn⟩:∃ n,n=l.length:=⟨_,rfl⟩
 rw [← hn] at hl ⊢
 have HN:=Lib.hid hn
 have hnn:((n:Int) != (n:Int))=false:=by simp
 clear h1 h2 hn
 go_enter Tryz.func26,Tryz.ntmps26
 go_wp2_with fail
 go_loopg [13] (n+1) (fun m' u W=>∃ i:Nat,u=.int .i64 (i:Int)∧i≤n∧m'=n-i+1∧∃ j,W=w.drewN j)
 case atStart=>exact ⟨0,rfl,Nat.zero_le _,by omega,0,rfl⟩
 case round =>
  obtain ⟨i,rfl,hi,hm,j0,hW0⟩:=hrel
  have HM:=Lib.hid hm
  have HW:=Lib.hid hW0
  clear hm hW0
  by_cases hin:i<n
  · have il : i < l.length := by have := HN.out; omega
    have g1:l[i]? = some l[i]:=List.getElem?_eq_getElem il
    generalize l[i]=x at g1
    rcases E1.out with e | ⟨g,q,rfl,_,e1⟩
    · cases l with
      | nil=>simp at il
      | cons=>cases e
    rcases E2.out with e | ⟨g',q',rfl,_,e2⟩
    · cases l with
      | nil=>simp at il
      | cons=>cases e
    obtain ⟨a0,a1,a2⟩:=dcsIn_get i x e1 g1
    obtain ⟨b0,b1,b2⟩:=dcsIn_get i x e2 g1
    obtain ⟨nm,wd,ps⟩:=x
    have hin':(i:Int)<(n:Int):=by omega
    have a0:wr.cell? ⟨g,q+i*3,none⟩=some (.string nm):=by rw [HW.out];exact a0
    have b0:wr.cell? ⟨g',q'+i*3,none⟩=some (.string nm):=by rw [HW.out];exact b0
    have a1:wr.cell? ⟨g,q+i*3+1,none⟩=some (.int .i64 wd):=by rw [HW.out];exact a1
    have b1:wr.cell? ⟨g',q'+i*3+1,none⟩=some (.int .i64 wd):=by rw [HW.out];exact b1
    have a2:wr.cell? ⟨g,q+i*3+2,none⟩=some (.int .i64 ps):=by rw [HW.out];exact a2
    have b2:wr.cell? ⟨g',q'+i*3+2,none⟩=some (.int .i64 ps):=by rw [HW.out];exact b2
    have q1:(nm.toList != nm.toList)=false:=by simp
    have q1':(nm.toList==nm.toList)=true:=by simp
    have q2:(wd != wd)=false:=by simp
    have q3:(ps != ps)=false:=by simp
    clear g1 e1 e2 il
    go_wp2_with fail
    go_quiet (fail)
    go_wp2_with fail
    go_roundg (n-(i+1)+1)
    case measure=>have:=HM.out;omega
    case rel=>exact ⟨i+1,rfl,by omega,by omega,_,by rw [HW.out,World.drewN_drewN]⟩
  · have : i = n := by omega
    subst this
    go_wp2_with fail
    go_ret
    exact ⟨rfl,_,HW.out⟩
open Go.RowKit
set_option linter.unusedVariables false
def PlS (l:List St):Prop:=okSs l→l.length≤9223372036854775807→∀ (a b:Option Addr) (c1 c2:Nat) (w:World),stsAt (fun _=>True) w l a→stsAt (fun _=>True) w l b →
 Calls Tryz.prog 27 #[.slice a l.length c1,.slice b l.length c2] w fun e w'=>e=.returned (.bool true)∧∃ j,w'=w.drewN j
theorem stsAt_drewN {R:Nat→Prop} {w:World} {l:List St} {a:Option Addr} (h:stsAt R w l a) (n:Nat):stsAt R (w.drewN n) l a:=stsAt_stays (w:=w) (w':=w.drewN n) (fun b o v hb hv=>hv) (fun b hb=>hb) h
theorem r_stplaces_one {l:List St} (HI:∀ x∈l,PlS x.body∧PlS x.els):PlS l:=by
 intro HO hl a b c1 c2 w h1 h2
 have HI:=Lib.hid HI
 have HO:=Lib.hid HO
 have E1:=Lib.hid h1
 have E2:=Lib.hid h2
 obtain ⟨n,hn⟩:∃ n,n=l.length:=⟨_,rfl⟩
 rw [← hn] at hl ⊢
 have HN:=Lib.hid hn
 have hnn:((n:Int) != (n:Int))=false:=by simp
 clear h1 h2 hn
 go_enter Tryz.func27,Tryz.ntmps27
 go_wp2_with fail
 go_loopg [13] (n+1) (fun m' u W=>∃ i:Nat,u=.int .i64 (i:Int)∧i≤n∧m'=n-i+1∧∃ j,W=w.drewN j)
 case atStart=>exact ⟨0,rfl,Nat.zero_le _,by omega,0,rfl⟩
 case round =>
  obtain ⟨i,rfl,hi,hm,j0,hW0⟩:=hrel
  have HM:=Lib.hid hm
  have HW:=Lib.hid hW0
  clear hm hW0
  by_cases hin:i<n
  · have il : i < l.length := by have := HN.out; omega
    have g1:l[i]? = some l[i]:=List.getElem?_eq_getElem il
    have hmem:l[i]∈l:=List.getElem_mem il
    generalize l[i]=x at g1 hmem
    have hok:=okSs_mem HO.out x hmem
    have HX:=Lib.hid (HI.out x hmem)
    rcases E1.out with e | ⟨g,q,rfl,_,e1⟩
    · cases l with
      | nil=>simp at il
      | cons=>cases e
    rcases E2.out with e | ⟨g',q',rfl,_,e2⟩
    · cases l with
      | nil=>simp at il
      | cons=>cases e
    have x1:=stsIn_get i x e1 g1
    have y1:=stsIn_get i x e2 g1
    obtain ⟨k,nm,ot,es,bo,el,ps⟩:=x
    obtain ⟨_,_,_,⟨a3,d3,p3,w3⟩,⟨a4,d4,p4,w4⟩,⟨a5,d5,p5,w5⟩,p6⟩:=x1
    obtain ⟨_,_,_,⟨b3,f3,r3,z3⟩,⟨b4,f4,r4,z4⟩,⟨b5,f5,r5,z5⟩,r6⟩:=y1
    obtain ⟨⟨o1,o2⟩,⟨o3,o4⟩,o5,o6⟩:=hok
    have hin':(i:Int)<(n:Int):=by omega
    have HC1:Hid (∀ j,Calls Tryz.prog 55 #[.slice a3 es.length d3,.slice b3 es.length f3] (wr.drewN j) fun e' w'=>e'=.returned (.bool true)∧∃ t,w'=wr.drewN t):=fun j=>by
     have:=r_places es o2 es a3 b3 d3 f3 (wr.drewN j) o1 (exsAt_drewN (by rw [HW.out];exact exsAt_drewN w3 j0) j) (exsAt_drewN (by rw [HW.out];exact exsAt_drewN z3 j0) j)
     rw [placeEs_self] at this
     exact this.mono fun e' w' ⟨he,t,ht⟩=>⟨he,j+t,by rw [ht,World.drewN_drewN]⟩
    have HC2:Hid (∀ j,Calls Tryz.prog 27 #[.slice a4 bo.length d4,.slice b4 bo.length f4] (wr.drewN j) fun e' w'=>e'=.returned (.bool true)∧∃ t,w'=wr.drewN t):=fun j =>
     (HX.out.1 o4 o3 a4 b4 d4 f4 (wr.drewN j) (stsAt_drewN (by rw [HW.out];exact stsAt_drewN w4 j0) j) (stsAt_drewN (by rw [HW.out];exact stsAt_drewN z4 j0) j)).mono fun e' w' ⟨he,t,ht⟩=>⟨he,j+t,by rw [ht,World.drewN_drewN]⟩
    have HC3:Hid (∀ j,Calls Tryz.prog 27 #[.slice a5 el.length d5,.slice b5 el.length f5] (wr.drewN j) fun e' w'=>e'=.returned (.bool true)∧∃ t,w'=wr.drewN t):=fun j =>
     (HX.out.2 o6 o5 a5 b5 d5 f5 (wr.drewN j) (stsAt_drewN (by rw [HW.out];exact stsAt_drewN w5 j0) j) (stsAt_drewN (by rw [HW.out];exact stsAt_drewN z5 j0) j)).mono fun e' w' ⟨he,t,ht⟩=>⟨he,j+t,by rw [ht,World.drewN_drewN]⟩
    have p3:wr.cell? ⟨g,q+i*7+3,none⟩=some (.slice a3 es.length d3):=by rw [HW.out];exact p3
    have p4:wr.cell? ⟨g,q+i*7+4,none⟩=some (.slice a4 bo.length d4):=by rw [HW.out];exact p4
    have p5:wr.cell? ⟨g,q+i*7+5,none⟩=some (.slice a5 el.length d5):=by rw [HW.out];exact p5
    have p6:wr.cell? ⟨g,q+i*7+6,none⟩=some (.int .i64 ps):=by rw [HW.out];exact p6
    have r3:wr.cell? ⟨g',q'+i*7+3,none⟩=some (.slice b3 es.length f3):=by rw [HW.out];exact r3
    have r4:wr.cell? ⟨g',q'+i*7+4,none⟩=some (.slice b4 bo.length f4):=by rw [HW.out];exact r4
    have r5:wr.cell? ⟨g',q'+i*7+5,none⟩=some (.slice b5 el.length f5):=by rw [HW.out];exact r5
    have r6:wr.cell? ⟨g',q'+i*7+6,none⟩=some (.int .i64 ps):=by rw [HW.out];exact r6
    have q3:(ps != ps)=false:=by simp
    clear g1 e1 e2 il w3 w4 w5 z3 z4 z5 o1 o2 o3 o4 o5 o6 HX hmem
    generalize es.length=n3 at *
    generalize bo.length=n4 at *
    generalize el.length=n5 at *
    have HCC:Hid (∀ j (u v:Value),(u=.slice a4 n4 d4∧v=.slice b4 n4 f4)∨(u=.slice a5 n5 d5∧v=.slice b5 n5 f5)→Calls Tryz.prog 27 #[u,v] (wr.drewN j) fun e' w'=>e'=.returned (.bool true)∧∃ t,w'=wr.drewN t):=fun j u v h=>by
     rcases h with ⟨rfl,rfl⟩ | ⟨rfl,rfl⟩
     · exact HC2.out j
     · exact HC3.out j
    clear HC2 HC3
    go_wp2_with fail
    go_quiet (first | (go_at_call 55;exact HC1.out _) | (go_at_call 27;refine HCC.out _ _ _ ?_;first | exact Or.inl ⟨rfl,rfl⟩ | exact Or.inr ⟨rfl,rfl⟩))
    go_wp2_with fail
    go_roundg (n-(i+1)+1)
    case measure=>have:=HM.out;omega
    case rel=>exact ⟨i+1,rfl,by omega,by omega,_,by rw [HW.out,World.drewN_drewN]⟩
  · have : i = n := by omega
    subst this
    go_wp2_with fail
    go_ret
    exact ⟨rfl,_,HW.out⟩
theorem r_stsubs:∀ l:List St,∀ x∈l,PlS x.body∧PlS x.els:=by
 intro l
 induction l using Sts.ind with
 | h0=>intro x hx;cases hx
 | h1 k n o e b l a r hb hl hr =>
   intro x hx
   rcases List.mem_cons.1 hx with rfl | hx
   · exact ⟨r_stplaces_one hb,r_stplaces_one hl⟩
   · exact hr x hx
theorem r_stplaces (l:List St):PlS l:=r_stplaces_one (r_stsubs l)
open Go.RowKit
set_option linter.unusedVariables false
def TwoAt (B:Nat) (w:World) (T:TypeId) (r1 r2:Array Value) (u v:Value) (w':World):Prop:=∃ g h,u=.pointer (some ⟨g,0,none⟩)∧v=.pointer (some ⟨h,0,none⟩)∧Own w' g T r1∧Own w' h T r2∧B≤g∧B≤h∧Below B w w'
theorem twoAt_1 {w wr:World} {T:TypeId} {r1 r2:Array Value} (hb:Below w.heap.size w wr):TwoAt w.heap.size w T r1 r2 (.pointer (some ⟨wr.heap.size,0,none⟩)) (.pointer (some ⟨wr.heap.size+1,0,none⟩)) ((wr.alloc (.cells r1 T)).alloc (.cells r2 T)).drew:=by
 have h2:=Own.new (wr.alloc (.cells r1 T)) T r2
 rw [World.size_alloc] at h2
 have hs:=hb.size
 exact ⟨_,_,rfl,rfl,((Own.new wr T r1).alloc (.cells r2 T)).drewN 1,h2.drewN 1,hs,by omega,below_drewN (((hb.alloc hs _)).alloc (by rw [World.size_alloc];omega) _) 1⟩
theorem twoAt_2 {w wr:World} {T:TypeId} {r1 r2:Array Value} (hb:Below w.heap.size w wr):TwoAt w.heap.size w T r1 r2 (.pointer (some ⟨wr.heap.size+1,0,none⟩)) (.pointer (some ⟨wr.heap.size,0,none⟩)) ((wr.alloc (.cells r2 T)).alloc (.cells r1 T)).drew:=by
 have h2:=Own.new (wr.alloc (.cells r2 T)) T r1
 rw [World.size_alloc] at h2
 have hs:=hb.size
 exact ⟨_,_,rfl,rfl,h2.drewN 1,((Own.new wr T r2).alloc (.cells r1 T)).drewN 1,by omega,hs,below_drewN (((hb.alloc hs _)).alloc (by rw [World.size_alloc];omega) _) 1⟩
theorem sameEs_self:∀ l:List Ex,sameEs l l=true:=by
 intro l
 induction l using Exs.ind with
 | h0=>rfl
 | h1 k o w n ks a r hk hr=>simp [sameEs,sameE,hk,hr]
def SmS (l:List St):Prop:=okSs l→l.length≤9223372036854775807→∀ (a b:Option Addr) (c1 c2:Nat) (w:World),stsAt (fun _=>True) w l a→stsAt (fun _=>True) w l b →
 Calls Tryz.prog 54 #[.slice a l.length c1,.slice b l.length c2] w fun e w'=>e=.returned (.bool true)∧Below w.heap.size w w'
theorem r_stmts_one {l:List St} (HI:∀ x∈l,SmS x.body∧SmS x.els):SmS l:=by
 intro HO hl a b c1 c2 w h1 h2
 have HI:=Lib.hid HI
 have HO:=Lib.hid HO
 have E1:=Lib.hid h1
 have E2:=Lib.hid h2
 obtain ⟨n,hn⟩:∃ n,n=l.length:=⟨_,rfl⟩
 rw [← hn] at hl ⊢
 have HN:=Lib.hid hn
 have hnn:((n:Int) != (n:Int))=false:=by simp
 clear h1 h2 hn
 go_enter Tryz.func54,Tryz.ntmps54
 go_wp2_with fail
 go_loopg [15] (n+1) (fun m' u W=>∃ i:Nat,u=.int .i64 (i:Int)∧i≤n∧m'=n-i+1∧Below w.heap.size w W)
 case atStart=>exact ⟨0,rfl,Nat.zero_le _,by omega,Below.refl _ w⟩
 case round =>
  obtain ⟨i,rfl,hi,hm,hb0⟩:=hrel
  have HM:=Lib.hid hm
  have HB:=Lib.hid hb0
  clear hm hb0
  by_cases hin:i<n
  · have il : i < l.length := by have := HN.out; omega
    have g1:l[i]? = some l[i]:=List.getElem?_eq_getElem il
    have hmem:l[i]∈l:=List.getElem_mem il
    generalize l[i]=x at g1 hmem
    have hok:=okSs_mem HO.out x hmem
    have HX:=Lib.hid (HI.out x hmem)
    rcases E1.out with e | ⟨g,q,rfl,_,e1⟩
    · cases l with
      | nil=>simp at il
      | cons=>cases e
    rcases E2.out with e | ⟨g',q',rfl,_,e2⟩
    · cases l with
      | nil=>simp at il
      | cons=>cases e
    have x1:=stsIn_get i x e1 g1
    have y1:=stsIn_get i x e2 g1
    obtain ⟨k,nm,ot,es,bo,el,ps⟩:=x
    obtain ⟨a0,a1,a2,⟨ea,ec,a3,w3⟩,⟨ba,bc,a4,w4⟩,⟨la,lc,a5,w5⟩,a6⟩:=x1
    obtain ⟨b0,b1,b2,⟨fa,fc,b3,z3⟩,⟨da,dc,b4,z4⟩,⟨ma,mc,b5,z5⟩,b6⟩:=y1
    obtain ⟨⟨o1,o2⟩,⟨o3,o4⟩,o5,o6⟩:=hok
    have lg:=lt_of_at a0
    have lg':=lt_of_at b0
    simp only at lg lg'
    have hin':(i:Int)<(n:Int):=by omega
    have HC1:Hid (∀ W,Below w.heap.size w W→Calls Tryz.prog 96 #[.slice ea es.length ec,.slice fa es.length fc] W fun e' w'=>e'=.returned (.bool true)∧Below W.heap.size W w'):=fun W hW=>by
     have:=r_exprs (l:=es) (m:=es) (w:=W) (c1:=ec) (c2:=fc) (fun x _=>r_same x) o2 o1 (exsAt_below w3 hW) (exsAt_below z3 hW)
     rw [sameEs_self] at this
     exact this
    have HC2:Hid (∀ W,Below w.heap.size w W→Calls Tryz.prog 54 #[.slice ba bo.length bc,.slice da bo.length dc] W fun e' w'=>e'=.returned (.bool true)∧Below W.heap.size W w'):=fun W hW =>
     HX.out.1 o4 o3 ba da bc dc W (stsAt_below w4 hW) (stsAt_below z4 hW)
    have HC3:Hid (∀ W,Below w.heap.size w W→Calls Tryz.prog 54 #[.slice la el.length lc,.slice ma el.length mc] W fun e' w'=>e'=.returned (.bool true)∧Below W.heap.size W w'):=fun W hW =>
     HX.out.2 o6 o5 la ma lc mc W (stsAt_below w5 hW) (stsAt_below z5 hW)
    have BX:=HB.out
    have a0:wr.cell? ⟨g,q+i*7,none⟩=some (.int .u8 k):=(BX.cell (p:=⟨g,q+i*7,none⟩) lg).trans a0
    have a1:wr.cell? ⟨g,q+i*7+1,none⟩=some (.string nm):=(BX.cell (p:=⟨g,q+i*7+1,none⟩) lg).trans a1
    have a2:wr.cell? ⟨g,q+i*7+2,none⟩=some (.string ot):=(BX.cell (p:=⟨g,q+i*7+2,none⟩) lg).trans a2
    have a3:wr.cell? ⟨g,q+i*7+3,none⟩=some (.slice ea es.length ec):=(BX.cell (p:=⟨g,q+i*7+3,none⟩) lg).trans a3
    have a4:wr.cell? ⟨g,q+i*7+4,none⟩=some (.slice ba bo.length bc):=(BX.cell (p:=⟨g,q+i*7+4,none⟩) lg).trans a4
    have a5:wr.cell? ⟨g,q+i*7+5,none⟩=some (.slice la el.length lc):=(BX.cell (p:=⟨g,q+i*7+5,none⟩) lg).trans a5
    have a6:wr.cell? ⟨g,q+i*7+6,none⟩=some (.int .i64 ps):=(BX.cell (p:=⟨g,q+i*7+6,none⟩) lg).trans a6
    have b0:wr.cell? ⟨g',q'+i*7,none⟩=some (.int .u8 k):=(BX.cell (p:=⟨g',q'+i*7,none⟩) lg').trans b0
    have b1:wr.cell? ⟨g',q'+i*7+1,none⟩=some (.string nm):=(BX.cell (p:=⟨g',q'+i*7+1,none⟩) lg').trans b1
    have b2:wr.cell? ⟨g',q'+i*7+2,none⟩=some (.string ot):=(BX.cell (p:=⟨g',q'+i*7+2,none⟩) lg').trans b2
    have b3:wr.cell? ⟨g',q'+i*7+3,none⟩=some (.slice fa es.length fc):=(BX.cell (p:=⟨g',q'+i*7+3,none⟩) lg').trans b3
    have b4:wr.cell? ⟨g',q'+i*7+4,none⟩=some (.slice da bo.length dc):=(BX.cell (p:=⟨g',q'+i*7+4,none⟩) lg').trans b4
    have b5:wr.cell? ⟨g',q'+i*7+5,none⟩=some (.slice ma el.length mc):=(BX.cell (p:=⟨g',q'+i*7+5,none⟩) lg').trans b5
    have b6:wr.cell? ⟨g',q'+i*7+6,none⟩=some (.int .i64 ps):=(BX.cell (p:=⟨g',q'+i*7+6,none⟩) lg').trans b6
    have q1:(k != k)=false:=by simp
    have q2:(nm.toList != nm.toList)=false:=by simp
    have q2':(nm.toList==nm.toList)=true:=by simp
    have q3:(ot.toList != ot.toList)=false:=by simp
    have q3':(ot.toList==ot.toList)=true:=by simp
    clear g1 e1 e2 il w3 w4 w5 z3 z4 z5 o1 o2 o3 o4 o5 o6 HX hmem BX
    generalize es.length=n3 at *
    generalize bo.length=n4 at *
    generalize el.length=n5 at *
    obtain ⟨wq,hwq⟩:∃ W,W=wr:=⟨_,rfl⟩
    go_upto_region 6 with fail
    go_cut [6,7] (fun u v wx=>TwoAt w.heap.size w 66 #[.int .u8 k,.string nm,.string ot,.slice ea n3 ec,.slice ba n4 bc,.slice la n5 lc,.int .i64 ps] #[.int .u8 k,.string nm,.string ot,.slice fa n3 fc,.slice da n4 dc,.slice ma n5 mc,.int .i64 ps] u v wx)
    case first =>
     go_region_held3 (fun W=>W.cell? ⟨g,q+i*7,none⟩=some (.int .u8 k)∧W.cell? ⟨g,q+i*7+1,none⟩=some (.string nm)∧W.cell? ⟨g,q+i*7+2,none⟩=some (.string ot)∧W.cell? ⟨g,q+i*7+3,none⟩=some (.slice ea n3 ec)∧W.cell? ⟨g,q+i*7+4,none⟩=some (.slice ba n4 bc)∧W.cell? ⟨g,q+i*7+5,none⟩=some (.slice la n5 lc)∧W.cell? ⟨g,q+i*7+6,none⟩=some (.int .i64 ps)∧W.cell? ⟨g',q'+i*7,none⟩=some (.int .u8 k)∧W.cell? ⟨g',q'+i*7+1,none⟩=some (.string nm)∧W.cell? ⟨g',q'+i*7+2,none⟩=some (.string ot)∧W.cell? ⟨g',q'+i*7+3,none⟩=some (.slice fa n3 fc)∧W.cell? ⟨g',q'+i*7+4,none⟩=some (.slice da n4 dc)∧W.cell? ⟨g',q'+i*7+5,none⟩=some (.slice ma n5 mc)∧W.cell? ⟨g',q'+i*7+6,none⟩=some (.int .i64 ps)) (go_keep) (fail)
     · go_wp2_with fail
       go_meet
       exact twoAt_1 HB.out
     · go_wp2_with fail
       go_meet
       exact twoAt_2 HB.out
    case rest =>
     obtain ⟨gu,gv,rfl,rfl,hO1,hO2,_,_,hb⟩:=hcut
     have O1:=Lib.hid hO1
     have O2:=Lib.hid hO2
     have HB:=Lib.hid hb
     clear hO1 hO2 hb
     have x0:wc.cell? ⟨gu,0,none⟩=some (.int .u8 k):=by rw [cell_of_row _ _ 0 _ _ _ O1.out];rfl
     have y0:wc.cell? ⟨gv,0,none⟩=some (.int .u8 k):=by rw [cell_of_row _ _ 0 _ _ _ O2.out];rfl
     have x1:wc.cell? ⟨gu,1,none⟩=some (.string nm):=by rw [cell_of_row _ _ 1 _ _ _ O1.out];rfl
     have y1:wc.cell? ⟨gv,1,none⟩=some (.string nm):=by rw [cell_of_row _ _ 1 _ _ _ O2.out];rfl
     have x2:wc.cell? ⟨gu,2,none⟩=some (.string ot):=by rw [cell_of_row _ _ 2 _ _ _ O1.out];rfl
     have y2:wc.cell? ⟨gv,2,none⟩=some (.string ot):=by rw [cell_of_row _ _ 2 _ _ _ O2.out];rfl
     have x3:wc.cell? ⟨gu,3,none⟩=some (.slice ea n3 ec):=by rw [cell_of_row _ _ 3 _ _ _ O1.out];rfl
     have y3:wc.cell? ⟨gv,3,none⟩=some (.slice fa n3 fc):=by rw [cell_of_row _ _ 3 _ _ _ O2.out];rfl
     go_wp2_with fail
     go_at_call 96
     refine (HC1.out _ HB.out).mono ?_
     rintro e w3 ⟨rfl,hb3⟩
     have O1:=Lib.hid (O1.out.below hb3)
     have O2:=Lib.hid (O2.out.below hb3)
     have HB:=Lib.hid (HB.out.trans (hb3.mono HB.out.size))
     clear hb3
     have x4:w3.cell? ⟨gu,4,none⟩=some (.slice ba n4 bc):=by rw [cell_of_row _ _ 4 _ _ _ O1.out];rfl
     have y4:w3.cell? ⟨gv,4,none⟩=some (.slice da n4 dc):=by rw [cell_of_row _ _ 4 _ _ _ O2.out];rfl
     go_wp2_with fail
     go_at_call 54
     refine (HC2.out _ HB.out).mono ?_
     rintro e w4 ⟨rfl,hb3⟩
     have O1:=Lib.hid (O1.out.below hb3)
     have O2:=Lib.hid (O2.out.below hb3)
     have HB:=Lib.hid (HB.out.trans (hb3.mono HB.out.size))
     clear hb3
     have x5:w4.cell? ⟨gu,5,none⟩=some (.slice la n5 lc):=by rw [cell_of_row _ _ 5 _ _ _ O1.out];rfl
     have y5:w4.cell? ⟨gv,5,none⟩=some (.slice ma n5 mc):=by rw [cell_of_row _ _ 5 _ _ _ O2.out];rfl
     go_wp2_with fail
     go_at_call 54
     refine (HC3.out _ HB.out).mono ?_
     rintro e w5 ⟨rfl,hb3⟩
     have HB:=Lib.hid (HB.out.trans (hb3.mono HB.out.size))
     clear hb3
     go_wp2_with fail
     go_roundg (n-(i+1)+1)
     case measure=>have:=HM.out;omega
     case rel=>exact ⟨i+1,rfl,by omega,by omega,HB.out⟩
  · have : i = n := by omega
    subst this
    go_wp2_with fail
    go_ret
    exact ⟨rfl,HB.out⟩
theorem r_smsubs:∀ l:List St,∀ x∈l,SmS x.body∧SmS x.els:=by
 intro l
 induction l using Sts.ind with
 | h0=>intro x hx;cases hx
 | h1 k n o e b l a r hb hl hr =>
   intro x hx
   rcases List.mem_cons.1 hx with rfl | hx
   · exact ⟨r_stmts_one hb,r_stmts_one hl⟩
   · exact hr x hx
theorem r_smstmts (l:List St):SmS l:=r_stmts_one (r_smsubs l)
open Go.RowKit
set_option linter.unusedVariables false
def nmOk (s:ByteArray):Prop:=s.size≤140737488355328
mutual
def fitE:Ex→Prop
 | .mk _ _ _ n ks _=>nmOk n∧64*ks.length≤140737488355328∧fitEs ks
def fitEs:List Ex→Prop
 | []=>True
 | e::r=>fitE e∧fitEs r
end
theorem infoEx:(Tryz.prog.info? 59).map (fun i=>(i.zero,i.size,i.bytes))=some (some (.agg zEx),6,64):=by kernel_rfl
def Uf (w:World) (b:Nat):Prop:=∀ o:Nat,w.frozen? ⟨b,o,none⟩=false
def Rf (B:Nat) (w:World) (b:Nat):Prop:=B≤b∧Uf w b
def Chg (B:Nat) (W W':World):Prop:=∀ b,B≤b→b<W.heap.size→(∀ o v,W.cell? ⟨b,o,none⟩=some v→W'.cell? ⟨b,o,none⟩=some v)∧(Uf W b→Uf W' b)
theorem uf_below {W W':World} {b:Nat} (h:Uf W b) (hb:Below W.heap.size W W') (hlt:b<W.heap.size):Uf W' b:=fun o=>by
 rw [hb.frozen (p:=⟨b,o,none⟩) hlt];exact h o
theorem chg_below {B:Nat} {W W':World} (hb:Below W.heap.size W W'):Chg B W W':=fun b _ hlt=>⟨fun o v hv=>by rw [hb.cell (p:=⟨b,o,none⟩) hlt];exact hv,fun h=>uf_below h hb hlt⟩
theorem uf_setCell {W:World} {b:Nat} (h:Uf W b) (p:Addr) (v:Value):Uf (W.setCell p v) b:=fun o=>by rw [World.frozen?_setCell];exact h o
theorem chg_setRow {B g:Nat} (W:World) (cs:Array Value) (hg:g<B):Chg B W (W.setRow g cs):=fun b hb _=>by
 have k:(W.setRow g cs).heap[b]? = W.heap[b]?:=setRow_other cs (by omega)
 exact ⟨fun o v hv=>by simp only [World.cell?,k];exact hv,fun h o=>by have:=h o;simp only [World.frozen?,k] at this ⊢;exact this⟩
theorem exsAt_rf {B B':Nat} {W W':World} {l:List Ex} {a:Option Addr} (h:exsAt (Rf B W) W l a) (hc:Chg B W W') (hB:B'≤B):exsAt (Rf B' W') W' l a :=
 exsAt_stays (R:=fun b=>Rf B W b∧b<W.heap.size) (fun b o v hb hv=>(hc b hb.1.1 hb.2).1 o v hv) (fun b hb=>⟨Nat.le_trans hB hb.1.1,(hc b hb.1.1 hb.2).2 hb.1.2⟩) (exsAt_in h)
theorem stsAt_rf {B B':Nat} {W W':World} {l:List St} {a:Option Addr} (h:stsAt (Rf B W) W l a) (hc:Chg B W W') (hB:B'≤B):stsAt (Rf B' W') W' l a :=
 stsAt_stays (R:=fun b=>Rf B W b∧b<W.heap.size) (fun b o v hb hv=>(hc b hb.1.1 hb.2).1 o v hv) (fun b hb=>⟨Nat.le_trans hB hb.1.1,(hc b hb.1.1 hb.2).2 hb.1.2⟩) (stsAt_in h)
theorem dcsAt_rf {B B':Nat} {W W':World} {l:List Dc} {a:Option Addr} (h:dcsAt (Rf B W) W l a) (hc:Chg B W W') (hB:B'≤B):dcsAt (Rf B' W') W' l a :=
 dcsAt_stays (R:=fun b=>Rf B W b∧b<W.heap.size) (fun b o v hb hv=>(hc b hb.1.1 hb.2).1 o v hv) (fun b hb=>⟨Nat.le_trans hB hb.1.1,(hc b hb.1.1 hb.2).2 hb.1.2⟩) (dcsAt_in h)
theorem thsAt_rf {B B':Nat} {W W':World} {l:List Th} {a:Option Addr} (h:thsAt (Rf B W) W l a) (hc:Chg B W W') (hB:B'≤B):thsAt (Rf B' W') W' l a :=
 thsAt_stays (R:=fun b=>Rf B W b∧b<W.heap.size) (fun b o v hb hv=>(hc b hb.1.1 hb.2).1 o v hv) (fun b hb=>⟨Nat.le_trans hB hb.1.1,(hc b hb.1.1 hb.2).2 hb.1.2⟩) (thsAt_in h)
mutual
def fitS:St→Prop
 | .mk _ n o e b l _=>nmOk n∧nmOk o∧(64*e.length≤140737488355328∧fitEs e)∧(120*b.length≤140737488355328∧fitSs b)∧120*l.length≤140737488355328∧fitSs l
def fitSs:List St→Prop
 | []=>True
 | x::r=>fitS x∧fitSs r
end
theorem fitSs_mem:∀ {l:List St},fitSs l→∀ x∈l,fitS x
 | [],_,x,hx=>by simp at hx
 | y :: r, h, x, hx => by
   rcases List.mem_cons.1 hx with rfl | hx
   · exact h.1
   · exact fitSs_mem h.2 x hx
def fitD (d:Dc):Prop:=nmOk d.name
def fitDs (l:List Dc):Prop:=∀ d∈l,fitD d
def fitT (t:Th):Prop:=nmOk t.name∧(32*t.locals.length≤140737488355328∧fitDs t.locals)∧120*t.body.length≤140737488355328∧fitSs t.body
def fitTs (l:List Th):Prop:=∀ t∈l,fitT t
open Go.RowKit
set_option linter.unusedVariables false
def Bx (w:World) (T:TypeId) (r z:Array Value) (W:World):Prop:=Own W w.heap.size T r∧Own W (w.heap.size+1) T z∧Below w.heap.size w W
section
variable {w W W':World} {T:TypeId} {r z:Array Value}
theorem bx_new (w:World) (T:TypeId) (r z:Array Value):Bx w T r z ((w.alloc (.cells r T)).alloc (.cells z T)) :=
 ⟨(Own.new w T r).alloc _,by have:=Own.new (w.alloc (.cells r T)) T z;rw [World.size_alloc] at this;exact this,((Below.refl _ w).alloc (Nat.le_refl _) _).alloc (by rw [World.size_alloc];omega) _⟩
end
def K1 (w:World) (a b:ByteArray) (r z:Array Value) (W:World):Prop:=W.cell? ⟨w.heap.size,1,none⟩=some (.string a)∧W.cell? ⟨w.heap.size,2,none⟩=some (.string b)∧W.frozen? ⟨w.heap.size,1,none⟩=false∧W.frozen? ⟨w.heap.size,2,none⟩=false∧Bx w 66 r z W
section
variable {w W W':World} {k:Int} {nm ot:ByteArray} {v3 v4 v5 v6:Value} {z:Array Value}
end
section
variable {w W W':World} {r z:Array Value} {es:List Ex} {bo el:List St} {a3 a4 a5:Option Addr}
end
def fitP (p:Pg):Prop:=(32*p.shared.length≤140737488355328∧fitDs p.shared)∧(32*p.locks.length≤140737488355328∧fitDs p.locks)∧72*p.threads.length≤140737488355328∧fitTs p.threads
def K2 (w:World) (v0 v1 v2:Value) (W:World):Prop:=W.cell? ⟨w.heap.size,0,none⟩=some v0∧W.cell? ⟨w.heap.size,1,none⟩=some v1∧W.cell? ⟨w.heap.size,2,none⟩=some v2∧Own W w.heap.size 25 #[v0,v1,v2]∧Below w.heap.size w W
section
variable {w W W':World} {v0 v1 v2:Value}
end
end Go.Proofs.YtieeaehabjjaoaaGreatDoor

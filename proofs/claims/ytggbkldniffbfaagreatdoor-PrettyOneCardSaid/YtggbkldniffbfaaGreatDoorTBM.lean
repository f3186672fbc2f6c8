/- The proof, part 39: texts that belong together, in one. -/
import Derived.Deep.QuietTactic
import Derived.BigQuiet
import Derived.Deep.Draws
import Derived.StillTailTactics
import Derived.Deep.LoopGhost
import Derived.Test.YtggbkldniffbfaaGreatDoorTBL
import Derived.Test.YtggbkldniffbfaaGreatDoorTAW
import Derived.Deep.RegionHeld3
import Derived.Deep.DeepCutAuto
import Derived.BigRegion
import Derived.Deep.CutBlock
import Derived.WalkLawsBesides
import Derived.Deep.MidRow
import Derived.OwnWalk
import Derived.WalkSpells
import Derived.Test.YtggbkldniffbfaaGreatDoorTAA
import Derived.Test.YtggbkldniffbfaaGreatDoorTAP
import Derived.Deep.RegionWith
import Derived.Test.YtggbkldniffbfaaGreatDoorRows
import Derived.Test.YtggbkldniffbfaaGreatDoorTBJ
import Derived.OpenShut
set_option maxRecDepth 100000
set_option maxHeartbeats 20000000
namespace Go.Proofs.YtggbkldniffbfaaGreatDoor
open Go.RowKit
set_option linter.unusedVariables false
theorem r_decls {l:List Dc} {a b:Option Addr} {c1 c2:Nat} {w:World} (hl:l.length≤9223372036854775807) (h1:dcsAt (fun _=>True) w l a) (h2:dcsAt (fun _=>True) w l b) :
 Calls Tryz.prog 25 #[.slice a l.length c1,.slice b l.length c2] w fun e w'=>e=.returned (.bool true)∧∃ j,w'=w.drewN j:=by
 have E1:=Lib.hid h1
 have E2:=Lib.hid h2
 obtain ⟨n,hn⟩:∃ n,n=l.length:=⟨_,rfl⟩
 rw [← hn] at hl ⊢
 have HN:=Lib.hid hn
 have hnn:((n:Int) != (n:Int))=false:=by simp
 clear h1 h2 hn
 go_enter Tryz.func25,Tryz.ntmps25
 go_wp2_with fail
 go_loopg [13] (n+1) (fun m' u W=>∃ i:Nat,u=.int .i64 (i:Int)∧i≤n∧m'=n-i+1∧∃ j,W=w.drewN j)
 case atStart=>exact ⟨0,rfl,Nat.zero_le _,by omega,0,rfl⟩
 case round =>
  obtain ⟨i,rfl,hi,hm,j0,hW0⟩:=hrel
  have HM:=Lib.hid hm
  have HW:=Lib.hid hW0
  clear hm hW0
  by_cases hin:i<n
  · have il : i < l.length := by have := HN.out; omega
    have g1:l[i]? = some l[i]:=List.getElem?_eq_getElem il
    generalize l[i]=x at g1
    rcases E1.out with e | ⟨g,q,rfl,_,e1⟩
    · cases l with
      | nil=>simp at il
      | cons=>cases e
    rcases E2.out with e | ⟨g',q',rfl,_,e2⟩
    · cases l with
      | nil=>simp at il
      | cons=>cases e
    obtain ⟨a0,a1,a2⟩:=dcsIn_get i x e1 g1
    obtain ⟨b0,b1,b2⟩:=dcsIn_get i x e2 g1
    obtain ⟨nm,wd,ps⟩:=x
    have hin':(i:Int)<(n:Int):=by omega
    have a0:wr.cell? ⟨g,q+i*3,none⟩=some (.string nm):=by rw [HW.out];exact a0
    have b0:wr.cell? ⟨g',q'+i*3,none⟩=some (.string nm):=by rw [HW.out];exact b0
    have a1:wr.cell? ⟨g,q+i*3+1,none⟩=some (.int .i64 wd):=by rw [HW.out];exact a1
    have b1:wr.cell? ⟨g',q'+i*3+1,none⟩=some (.int .i64 wd):=by rw [HW.out];exact b1
    have a2:wr.cell? ⟨g,q+i*3+2,none⟩=some (.int .i64 ps):=by rw [HW.out];exact a2
    have b2:wr.cell? ⟨g',q'+i*3+2,none⟩=some (.int .i64 ps):=by rw [HW.out];exact b2
    have q1:(nm.toList != nm.toList)=false:=by simp
    have q1':(nm.toList==nm.toList)=true:=by simp
    have q2:(wd != wd)=false:=by simp
    have q3:(ps != ps)=false:=by simp
    clear g1 e1 e2 il
    go_wp2_with fail
    go_quiet (fail)
    go_wp2_with fail
    go_roundg (n-(i+1)+1)
    case measure=>have:=HM.out;omega
    case rel=>exact ⟨i+1,rfl,by omega,by omega,_,by rw [HW.out,World.drewN_drewN]⟩
  · have : i = n := by omega
    subst this
    go_wp2_with fail
    go_ret
    exact ⟨rfl,_,HW.out⟩
theorem r_declared {l:List Dc} {a b:Option Addr} {c1 c2:Nat} {w:World} (hl:l.length≤9223372036854775807) (h1:dcsAt (fun _=>True) w l a) (h2:dcsAt (fun _=>True) w l b) :
 Calls Tryz.prog 33 #[.slice a l.length c1,.slice b l.length c2] w fun e w'=>e=.returned (.bool true)∧∃ j,w'=w.drewN j:=by
 have E1:=Lib.hid h1
 have E2:=Lib.hid h2
 obtain ⟨n,hn⟩:∃ n,n=l.length:=⟨_,rfl⟩
 rw [← hn] at hl ⊢
 have HN:=Lib.hid hn
 have hnn:((n:Int) != (n:Int))=false:=by simp
 clear h1 h2 hn
 go_enter Tryz.func33,Tryz.ntmps33
 go_wp2_with fail
 go_loopg [13] (n+1) (fun m' u W=>∃ i:Nat,u=.int .i64 (i:Int)∧i≤n∧m'=n-i+1∧∃ j,W=w.drewN j)
 case atStart=>exact ⟨0,rfl,Nat.zero_le _,by omega,0,rfl⟩
 case round =>
  obtain ⟨i,rfl,hi,hm,j0,hW0⟩:=hrel
  have HM:=Lib.hid hm
  have HW:=Lib.hid hW0
  clear hm hW0
  by_cases hin:i<n
  · have il : i < l.length := by have := HN.out; omega
    have g1:l[i]? = some l[i]:=List.getElem?_eq_getElem il
    generalize l[i]=x at g1
    rcases E1.out with e | ⟨g,q,rfl,_,e1⟩
    · cases l with
      | nil=>simp at il
      | cons=>cases e
    rcases E2.out with e | ⟨g',q',rfl,_,e2⟩
    · cases l with
      | nil=>simp at il
      | cons=>cases e
    obtain ⟨a0,a1,a2⟩:=dcsIn_get i x e1 g1
    obtain ⟨b0,b1,b2⟩:=dcsIn_get i x e2 g1
    obtain ⟨nm,wd,ps⟩:=x
    have hin':(i:Int)<(n:Int):=by omega
    have a0:wr.cell? ⟨g,q+i*3,none⟩=some (.string nm):=by rw [HW.out];exact a0
    have b0:wr.cell? ⟨g',q'+i*3,none⟩=some (.string nm):=by rw [HW.out];exact b0
    have a1:wr.cell? ⟨g,q+i*3+1,none⟩=some (.int .i64 wd):=by rw [HW.out];exact a1
    have b1:wr.cell? ⟨g',q'+i*3+1,none⟩=some (.int .i64 wd):=by rw [HW.out];exact b1
    have a2:wr.cell? ⟨g,q+i*3+2,none⟩=some (.int .i64 ps):=by rw [HW.out];exact a2
    have b2:wr.cell? ⟨g',q'+i*3+2,none⟩=some (.int .i64 ps):=by rw [HW.out];exact b2
    have q1:(nm.toList != nm.toList)=false:=by simp
    have q1':(nm.toList==nm.toList)=true:=by simp
    have q2:(wd != wd)=false:=by simp
    have q3:(ps != ps)=false:=by simp
    clear g1 e1 e2 il
    go_wp2_with fail
    go_quiet (fail)
    go_wp2_with fail
    go_roundg (n-(i+1)+1)
    case measure=>have:=HM.out;omega
    case rel=>exact ⟨i+1,rfl,by omega,by omega,_,by rw [HW.out,World.drewN_drewN]⟩
  · have : i = n := by omega
    subst this
    go_wp2_with fail
    go_ret
    exact ⟨rfl,_,HW.out⟩
open Go.RowKit
set_option linter.unusedVariables false
def PlS (l:List St):Prop:=okSs l→l.length≤9223372036854775807→∀ (a b:Option Addr) (c1 c2:Nat) (w:World),stsAt (fun _=>True) w l a→stsAt (fun _=>True) w l b →
 Calls Tryz.prog 34 #[.slice a l.length c1,.slice b l.length c2] w fun e w'=>e=.returned (.bool true)∧∃ j,w'=w.drewN j
theorem stsAt_drewN {R:Nat→Prop} {w:World} {l:List St} {a:Option Addr} (h:stsAt R w l a) (n:Nat):stsAt R (w.drewN n) l a:=stsAt_stays (w:=w) (w':=w.drewN n) (fun b o v hb hv=>hv) (fun b hb=>hb) h
theorem r_stplaces_one {l:List St} (HI:∀ x∈l,PlS x.body∧PlS x.els):PlS l:=by
 intro HO hl a b c1 c2 w h1 h2
 have HI:=Lib.hid HI
 have HO:=Lib.hid HO
 have E1:=Lib.hid h1
 have E2:=Lib.hid h2
 obtain ⟨n,hn⟩:∃ n,n=l.length:=⟨_,rfl⟩
 rw [← hn] at hl ⊢
 have HN:=Lib.hid hn
 have hnn:((n:Int) != (n:Int))=false:=by simp
 clear h1 h2 hn
 go_enter Tryz.func34,Tryz.ntmps34
 go_wp2_with fail
 go_loopg [13] (n+1) (fun m' u W=>∃ i:Nat,u=.int .i64 (i:Int)∧i≤n∧m'=n-i+1∧∃ j,W=w.drewN j)
 case atStart=>exact ⟨0,rfl,Nat.zero_le _,by omega,0,rfl⟩
 case round =>
  obtain ⟨i,rfl,hi,hm,j0,hW0⟩:=hrel
  have HM:=Lib.hid hm
  have HW:=Lib.hid hW0
  clear hm hW0
  by_cases hin:i<n
  · have il : i < l.length := by have := HN.out; omega
    have g1:l[i]? = some l[i]:=List.getElem?_eq_getElem il
    have hmem:l[i]∈l:=List.getElem_mem il
    generalize l[i]=x at g1 hmem
    have hok:=okSs_mem HO.out x hmem
    have HX:=Lib.hid (HI.out x hmem)
    rcases E1.out with e | ⟨g,q,rfl,_,e1⟩
    · cases l with
      | nil=>simp at il
      | cons=>cases e
    rcases E2.out with e | ⟨g',q',rfl,_,e2⟩
    · cases l with
      | nil=>simp at il
      | cons=>cases e
    have x1:=stsIn_get i x e1 g1
    have y1:=stsIn_get i x e2 g1
    obtain ⟨k,nm,ot,es,bo,el,ps⟩:=x
    obtain ⟨_,_,_,⟨a3,d3,p3,w3⟩,⟨a4,d4,p4,w4⟩,⟨a5,d5,p5,w5⟩,p6⟩:=x1
    obtain ⟨_,_,_,⟨b3,f3,r3,z3⟩,⟨b4,f4,r4,z4⟩,⟨b5,f5,r5,z5⟩,r6⟩:=y1
    obtain ⟨⟨o1,o2⟩,⟨o3,o4⟩,o5,o6⟩:=hok
    have hin':(i:Int)<(n:Int):=by omega
    have HC1:Hid (∀ j,Calls Tryz.prog 65 #[.slice a3 es.length d3,.slice b3 es.length f3] (wr.drewN j) fun e' w'=>e'=.returned (.bool true)∧∃ t,w'=wr.drewN t):=fun j=>by
     have:=r_places es o2 es a3 b3 d3 f3 (wr.drewN j) o1 (exsAt_drewN (by rw [HW.out];exact exsAt_drewN w3 j0) j) (exsAt_drewN (by rw [HW.out];exact exsAt_drewN z3 j0) j)
     rw [placeEs_self] at this
     exact this.mono fun e' w' ⟨he,t,ht⟩=>⟨he,j+t,by rw [ht,World.drewN_drewN]⟩
    have HC2:Hid (∀ j,Calls Tryz.prog 34 #[.slice a4 bo.length d4,.slice b4 bo.length f4] (wr.drewN j) fun e' w'=>e'=.returned (.bool true)∧∃ t,w'=wr.drewN t):=fun j =>
     (HX.out.1 o4 o3 a4 b4 d4 f4 (wr.drewN j) (stsAt_drewN (by rw [HW.out];exact stsAt_drewN w4 j0) j) (stsAt_drewN (by rw [HW.out];exact stsAt_drewN z4 j0) j)).mono fun e' w' ⟨he,t,ht⟩=>⟨he,j+t,by rw [ht,World.drewN_drewN]⟩
    have HC3:Hid (∀ j,Calls Tryz.prog 34 #[.slice a5 el.length d5,.slice b5 el.length f5] (wr.drewN j) fun e' w'=>e'=.returned (.bool true)∧∃ t,w'=wr.drewN t):=fun j =>
     (HX.out.2 o6 o5 a5 b5 d5 f5 (wr.drewN j) (stsAt_drewN (by rw [HW.out];exact stsAt_drewN w5 j0) j) (stsAt_drewN (by rw [HW.out];exact stsAt_drewN z5 j0) j)).mono fun e' w' ⟨he,t,ht⟩=>⟨he,j+t,by rw [ht,World.drewN_drewN]⟩
    have p3:wr.cell? ⟨g,q+i*7+3,none⟩=some (.slice a3 es.length d3):=by rw [HW.out];exact p3
    have p4:wr.cell? ⟨g,q+i*7+4,none⟩=some (.slice a4 bo.length d4):=by rw [HW.out];exact p4
    have p5:wr.cell? ⟨g,q+i*7+5,none⟩=some (.slice a5 el.length d5):=by rw [HW.out];exact p5
    have p6:wr.cell? ⟨g,q+i*7+6,none⟩=some (.int .i64 ps):=by rw [HW.out];exact p6
    have r3:wr.cell? ⟨g',q'+i*7+3,none⟩=some (.slice b3 es.length f3):=by rw [HW.out];exact r3
    have r4:wr.cell? ⟨g',q'+i*7+4,none⟩=some (.slice b4 bo.length f4):=by rw [HW.out];exact r4
    have r5:wr.cell? ⟨g',q'+i*7+5,none⟩=some (.slice b5 el.length f5):=by rw [HW.out];exact r5
    have r6:wr.cell? ⟨g',q'+i*7+6,none⟩=some (.int .i64 ps):=by rw [HW.out];exact r6
    have q3:(ps != ps)=false:=by simp
    clear g1 e1 e2 il w3 w4 w5 z3 z4 z5 o1 o2 o3 o4 o5 o6 HX hmem
    generalize es.length=n3 at *
    generalize bo.length=n4 at *
    generalize el.length=n5 at *
    have HCC:Hid (∀ j (u v:Value),(u=.slice a4 n4 d4∧v=.slice b4 n4 f4)∨(u=.slice a5 n5 d5∧v=.slice b5 n5 f5)→Calls Tryz.prog 34 #[u,v] (wr.drewN j) fun e' w'=>e'=.returned (.bool true)∧∃ t,w'=wr.drewN t):=fun j u v h=>by
     rcases h with ⟨rfl,rfl⟩ | ⟨rfl,rfl⟩
     · exact HC2.out j
     · exact HC3.out j
    clear HC2 HC3
    go_wp2_with fail
    go_quiet (first | (go_at_call 65;exact HC1.out _) | (go_at_call 34;refine HCC.out _ _ _ ?_;first | exact Or.inl ⟨rfl,rfl⟩ | exact Or.inr ⟨rfl,rfl⟩))
    go_wp2_with fail
    go_roundg (n-(i+1)+1)
    case measure=>have:=HM.out;omega
    case rel=>exact ⟨i+1,rfl,by omega,by omega,_,by rw [HW.out,World.drewN_drewN]⟩
  · have : i = n := by omega
    subst this
    go_wp2_with fail
    go_ret
    exact ⟨rfl,_,HW.out⟩
theorem r_stsubs:∀ l:List St,∀ x∈l,PlS x.body∧PlS x.els:=by
 intro l
 induction l using Sts.ind with
 | h0=>intro x hx;cases hx
 | h1 k n o e b l a r hb hl hr =>
   intro x hx
   rcases List.mem_cons.1 hx with rfl | hx
   · exact ⟨r_stplaces_one hb,r_stplaces_one hl⟩
   · exact hr x hx
theorem r_stplaces (l:List St):PlS l:=r_stplaces_one (r_stsubs l)
open Go.RowKit
set_option linter.unusedVariables false
def TwoAt (B:Nat) (w:World) (T:TypeId) (r1 r2:Array Value) (u v:Value) (w':World):Prop:=∃ g h,u=.pointer (some ⟨g,0,none⟩)∧v=.pointer (some ⟨h,0,none⟩)∧Own w' g T r1∧Own w' h T r2∧B≤g∧B≤h∧Below B w w'
theorem twoAt_1 {w wr:World} {T:TypeId} {r1 r2:Array Value} (hb:Below w.heap.size w wr):TwoAt w.heap.size w T r1 r2 (.pointer (some ⟨wr.heap.size,0,none⟩)) (.pointer (some ⟨wr.heap.size+1,0,none⟩)) ((wr.alloc (.cells r1 T)).alloc (.cells r2 T)).drew:=by
 have h2:=Own.new (wr.alloc (.cells r1 T)) T r2
 rw [World.size_alloc] at h2
 have hs:=hb.size
 exact ⟨_,_,rfl,rfl,((Own.new wr T r1).alloc (.cells r2 T)).drewN 1,h2.drewN 1,hs,by omega,below_drewN (((hb.alloc hs _)).alloc (by rw [World.size_alloc];omega) _) 1⟩
theorem twoAt_2 {w wr:World} {T:TypeId} {r1 r2:Array Value} (hb:Below w.heap.size w wr):TwoAt w.heap.size w T r1 r2 (.pointer (some ⟨wr.heap.size+1,0,none⟩)) (.pointer (some ⟨wr.heap.size,0,none⟩)) ((wr.alloc (.cells r2 T)).alloc (.cells r1 T)).drew:=by
 have h2:=Own.new (wr.alloc (.cells r2 T)) T r1
 rw [World.size_alloc] at h2
 have hs:=hb.size
 exact ⟨_,_,rfl,rfl,h2.drewN 1,((Own.new wr T r2).alloc (.cells r1 T)).drewN 1,by omega,hs,below_drewN (((hb.alloc hs _)).alloc (by rw [World.size_alloc];omega) _) 1⟩
theorem sameEs_self:∀ l:List Ex,sameEs l l=true:=by
 intro l
 induction l using Exs.ind with
 | h0=>rfl
 | h1 k o w n ks a r hk hr=>simp [sameEs,sameE,hk,hr]
def SmS (l:List St):Prop:=okSs l→l.length≤9223372036854775807→∀ (a b:Option Addr) (c1 c2:Nat) (w:World),stsAt (fun _=>True) w l a→stsAt (fun _=>True) w l b →
 Calls Tryz.prog 26 #[.slice a l.length c1,.slice b l.length c2] w fun e w'=>e=.returned (.bool true)∧Below w.heap.size w w'
theorem r_stmts_one {l:List St} (HI:∀ x∈l,SmS x.body∧SmS x.els):SmS l:=by
 intro HO hl a b c1 c2 w h1 h2
 have HI:=Lib.hid HI
 have HO:=Lib.hid HO
 have E1:=Lib.hid h1
 have E2:=Lib.hid h2
 obtain ⟨n,hn⟩:∃ n,n=l.length:=⟨_,rfl⟩
 rw [← hn] at hl ⊢
 have HN:=Lib.hid hn
 have hnn:((n:Int) != (n:Int))=false:=by simp
 clear h1 h2 hn
 go_enter Tryz.func26,Tryz.ntmps26
 go_wp2_with fail
 go_loopg [15] (n+1) (fun m' u W=>∃ i:Nat,u=.int .i64 (i:Int)∧i≤n∧m'=n-i+1∧Below w.heap.size w W)
 case atStart=>exact ⟨0,rfl,Nat.zero_le _,by omega,Below.refl _ w⟩
 case round =>
  obtain ⟨i,rfl,hi,hm,hb0⟩:=hrel
  have HM:=Lib.hid hm
  have HB:=Lib.hid hb0
  clear hm hb0
  by_cases hin:i<n
  · have il : i < l.length := by have := HN.out; omega
    have g1:l[i]? = some l[i]:=List.getElem?_eq_getElem il
    have hmem:l[i]∈l:=List.getElem_mem il
    generalize l[i]=x at g1 hmem
    have hok:=okSs_mem HO.out x hmem
    have HX:=Lib.hid (HI.out x hmem)
    rcases E1.out with e | ⟨g,q,rfl,_,e1⟩
    · cases l with
      | nil=>simp at il
      | cons=>cases e
    rcases E2.out with e | ⟨g',q',rfl,_,e2⟩
    · cases l with
      | nil=>simp at il
      | cons=>cases e
    have x1:=stsIn_get i x e1 g1
    have y1:=stsIn_get i x e2 g1
    obtain ⟨k,nm,ot,es,bo,el,ps⟩:=x
    obtain ⟨a0,a1,a2,⟨ea,ec,a3,w3⟩,⟨ba,bc,a4,w4⟩,⟨la,lc,a5,w5⟩,a6⟩:=x1
    obtain ⟨b0,b1,b2,⟨fa,fc,b3,z3⟩,⟨da,dc,b4,z4⟩,⟨ma,mc,b5,z5⟩,b6⟩:=y1
    obtain ⟨⟨o1,o2⟩,⟨o3,o4⟩,o5,o6⟩:=hok
    have lg:=lt_of_at a0
    have lg':=lt_of_at b0
    simp only at lg lg'
    have hin':(i:Int)<(n:Int):=by omega
    have HC1:Hid (∀ W,Below w.heap.size w W→Calls Tryz.prog 32 #[.slice ea es.length ec,.slice fa es.length fc] W fun e' w'=>e'=.returned (.bool true)∧Below W.heap.size W w'):=fun W hW=>by
     have:=r_exprs (l:=es) (m:=es) (w:=W) (c1:=ec) (c2:=fc) (fun x _=>r_same x) o2 o1 (exsAt_below w3 hW) (exsAt_below z3 hW)
     rw [sameEs_self] at this
     exact this
    have HC2:Hid (∀ W,Below w.heap.size w W→Calls Tryz.prog 26 #[.slice ba bo.length bc,.slice da bo.length dc] W fun e' w'=>e'=.returned (.bool true)∧Below W.heap.size W w'):=fun W hW =>
     HX.out.1 o4 o3 ba da bc dc W (stsAt_below w4 hW) (stsAt_below z4 hW)
    have HC3:Hid (∀ W,Below w.heap.size w W→Calls Tryz.prog 26 #[.slice la el.length lc,.slice ma el.length mc] W fun e' w'=>e'=.returned (.bool true)∧Below W.heap.size W w'):=fun W hW =>
     HX.out.2 o6 o5 la ma lc mc W (stsAt_below w5 hW) (stsAt_below z5 hW)
    have BX:=HB.out
    have a0:wr.cell? ⟨g,q+i*7,none⟩=some (.int .u8 k):=(BX.cell (p:=⟨g,q+i*7,none⟩) lg).trans a0
    have a1:wr.cell? ⟨g,q+i*7+1,none⟩=some (.string nm):=(BX.cell (p:=⟨g,q+i*7+1,none⟩) lg).trans a1
    have a2:wr.cell? ⟨g,q+i*7+2,none⟩=some (.string ot):=(BX.cell (p:=⟨g,q+i*7+2,none⟩) lg).trans a2
    have a3:wr.cell? ⟨g,q+i*7+3,none⟩=some (.slice ea es.length ec):=(BX.cell (p:=⟨g,q+i*7+3,none⟩) lg).trans a3
    have a4:wr.cell? ⟨g,q+i*7+4,none⟩=some (.slice ba bo.length bc):=(BX.cell (p:=⟨g,q+i*7+4,none⟩) lg).trans a4
    have a5:wr.cell? ⟨g,q+i*7+5,none⟩=some (.slice la el.length lc):=(BX.cell (p:=⟨g,q+i*7+5,none⟩) lg).trans a5
    have a6:wr.cell? ⟨g,q+i*7+6,none⟩=some (.int .i64 ps):=(BX.cell (p:=⟨g,q+i*7+6,none⟩) lg).trans a6
    have b0:wr.cell? ⟨g',q'+i*7,none⟩=some (.int .u8 k):=(BX.cell (p:=⟨g',q'+i*7,none⟩) lg').trans b0
    have b1:wr.cell? ⟨g',q'+i*7+1,none⟩=some (.string nm):=(BX.cell (p:=⟨g',q'+i*7+1,none⟩) lg').trans b1
    have b2:wr.cell? ⟨g',q'+i*7+2,none⟩=some (.string ot):=(BX.cell (p:=⟨g',q'+i*7+2,none⟩) lg').trans b2
    have b3:wr.cell? ⟨g',q'+i*7+3,none⟩=some (.slice fa es.length fc):=(BX.cell (p:=⟨g',q'+i*7+3,none⟩) lg').trans b3
    have b4:wr.cell? ⟨g',q'+i*7+4,none⟩=some (.slice da bo.length dc):=(BX.cell (p:=⟨g',q'+i*7+4,none⟩) lg').trans b4
    have b5:wr.cell? ⟨g',q'+i*7+5,none⟩=some (.slice ma el.length mc):=(BX.cell (p:=⟨g',q'+i*7+5,none⟩) lg').trans b5
    have b6:wr.cell? ⟨g',q'+i*7+6,none⟩=some (.int .i64 ps):=(BX.cell (p:=⟨g',q'+i*7+6,none⟩) lg').trans b6
    have q1:(k != k)=false:=by simp
    have q2:(nm.toList != nm.toList)=false:=by simp
    have q2':(nm.toList==nm.toList)=true:=by simp
    have q3:(ot.toList != ot.toList)=false:=by simp
    have q3':(ot.toList==ot.toList)=true:=by simp
    clear g1 e1 e2 il w3 w4 w5 z3 z4 z5 o1 o2 o3 o4 o5 o6 HX hmem BX
    generalize es.length=n3 at *
    generalize bo.length=n4 at *
    generalize el.length=n5 at *
    obtain ⟨wq,hwq⟩:∃ W,W=wr:=⟨_,rfl⟩
    go_upto_region 6 with fail
    go_cut [6,7] (fun u v wx=>TwoAt w.heap.size w 57 #[.int .u8 k,.string nm,.string ot,.slice ea n3 ec,.slice ba n4 bc,.slice la n5 lc,.int .i64 ps] #[.int .u8 k,.string nm,.string ot,.slice fa n3 fc,.slice da n4 dc,.slice ma n5 mc,.int .i64 ps] u v wx)
    case first =>
     go_region_held3 (fun W=>W.cell? ⟨g,q+i*7,none⟩=some (.int .u8 k)∧W.cell? ⟨g,q+i*7+1,none⟩=some (.string nm)∧W.cell? ⟨g,q+i*7+2,none⟩=some (.string ot)∧W.cell? ⟨g,q+i*7+3,none⟩=some (.slice ea n3 ec)∧W.cell? ⟨g,q+i*7+4,none⟩=some (.slice ba n4 bc)∧W.cell? ⟨g,q+i*7+5,none⟩=some (.slice la n5 lc)∧W.cell? ⟨g,q+i*7+6,none⟩=some (.int .i64 ps)∧W.cell? ⟨g',q'+i*7,none⟩=some (.int .u8 k)∧W.cell? ⟨g',q'+i*7+1,none⟩=some (.string nm)∧W.cell? ⟨g',q'+i*7+2,none⟩=some (.string ot)∧W.cell? ⟨g',q'+i*7+3,none⟩=some (.slice fa n3 fc)∧W.cell? ⟨g',q'+i*7+4,none⟩=some (.slice da n4 dc)∧W.cell? ⟨g',q'+i*7+5,none⟩=some (.slice ma n5 mc)∧W.cell? ⟨g',q'+i*7+6,none⟩=some (.int .i64 ps)) (go_keep) (fail)
     · go_wp2_with fail
       go_meet
       exact twoAt_1 HB.out
     · go_wp2_with fail
       go_meet
       exact twoAt_2 HB.out
    case rest =>
     obtain ⟨gu,gv,rfl,rfl,hO1,hO2,_,_,hb⟩:=hcut
     have O1:=Lib.hid hO1
     have O2:=Lib.hid hO2
     have HB:=Lib.hid hb
     clear hO1 hO2 hb
     have x0:wc.cell? ⟨gu,0,none⟩=some (.int .u8 k):=by rw [cell_of_row _ _ 0 _ _ _ O1.out];rfl
     have y0:wc.cell? ⟨gv,0,none⟩=some (.int .u8 k):=by rw [cell_of_row _ _ 0 _ _ _ O2.out];rfl
     have x1:wc.cell? ⟨gu,1,none⟩=some (.string nm):=by rw [cell_of_row _ _ 1 _ _ _ O1.out];rfl
     have y1:wc.cell? ⟨gv,1,none⟩=some (.string nm):=by rw [cell_of_row _ _ 1 _ _ _ O2.out];rfl
     have x2:wc.cell? ⟨gu,2,none⟩=some (.string ot):=by rw [cell_of_row _ _ 2 _ _ _ O1.out];rfl
     have y2:wc.cell? ⟨gv,2,none⟩=some (.string ot):=by rw [cell_of_row _ _ 2 _ _ _ O2.out];rfl
     have x3:wc.cell? ⟨gu,3,none⟩=some (.slice ea n3 ec):=by rw [cell_of_row _ _ 3 _ _ _ O1.out];rfl
     have y3:wc.cell? ⟨gv,3,none⟩=some (.slice fa n3 fc):=by rw [cell_of_row _ _ 3 _ _ _ O2.out];rfl
     go_wp2_with fail
     go_at_call 32
     refine (HC1.out _ HB.out).mono ?_
     rintro e w3 ⟨rfl,hb3⟩
     have O1:=Lib.hid (O1.out.below hb3)
     have O2:=Lib.hid (O2.out.below hb3)
     have HB:=Lib.hid (HB.out.trans (hb3.mono HB.out.size))
     clear hb3
     have x4:w3.cell? ⟨gu,4,none⟩=some (.slice ba n4 bc):=by rw [cell_of_row _ _ 4 _ _ _ O1.out];rfl
     have y4:w3.cell? ⟨gv,4,none⟩=some (.slice da n4 dc):=by rw [cell_of_row _ _ 4 _ _ _ O2.out];rfl
     go_wp2_with fail
     go_at_call 26
     refine (HC2.out _ HB.out).mono ?_
     rintro e w4 ⟨rfl,hb3⟩
     have O1:=Lib.hid (O1.out.below hb3)
     have O2:=Lib.hid (O2.out.below hb3)
     have HB:=Lib.hid (HB.out.trans (hb3.mono HB.out.size))
     clear hb3
     have x5:w4.cell? ⟨gu,5,none⟩=some (.slice la n5 lc):=by rw [cell_of_row _ _ 5 _ _ _ O1.out];rfl
     have y5:w4.cell? ⟨gv,5,none⟩=some (.slice ma n5 mc):=by rw [cell_of_row _ _ 5 _ _ _ O2.out];rfl
     go_wp2_with fail
     go_at_call 26
     refine (HC3.out _ HB.out).mono ?_
     rintro e w5 ⟨rfl,hb3⟩
     have HB:=Lib.hid (HB.out.trans (hb3.mono HB.out.size))
     clear hb3
     go_wp2_with fail
     go_roundg (n-(i+1)+1)
     case measure=>have:=HM.out;omega
     case rel=>exact ⟨i+1,rfl,by omega,by omega,HB.out⟩
  · have : i = n := by omega
    subst this
    go_wp2_with fail
    go_ret
    exact ⟨rfl,HB.out⟩
theorem r_smsubs:∀ l:List St,∀ x∈l,SmS x.body∧SmS x.els:=by
 intro l
 induction l using Sts.ind with
 | h0=>intro x hx;cases hx
 | h1 k n o e b l a r hb hl hr =>
   intro x hx
   rcases List.mem_cons.1 hx with rfl | hx
   · exact ⟨r_stmts_one hb,r_stmts_one hl⟩
   · exact hr x hx
theorem r_smstmts (l:List St):SmS l:=r_stmts_one (r_smsubs l)
open Go.RowKit
set_option linter.unusedVariables false
def Bx (w:World) (T:TypeId) (r z:Array Value) (W:World):Prop:=Own W w.heap.size T r∧Own W (w.heap.size+1) T z∧Below w.heap.size w W
section
variable {w W W':World} {T:TypeId} {r z:Array Value}
end
def K1 (w:World) (a b:ByteArray) (r z:Array Value) (W:World):Prop:=W.cell? ⟨w.heap.size,1,none⟩=some (.string a)∧W.cell? ⟨w.heap.size,2,none⟩=some (.string b)∧W.frozen? ⟨w.heap.size,1,none⟩=false∧W.frozen? ⟨w.heap.size,2,none⟩=false∧Bx w 57 r z W
section
variable {w W W':World} {k:Int} {nm ot:ByteArray} {v3 v4 v5 v6:Value} {z:Array Value}
end
section
variable {w W W':World} {r z:Array Value} {es:List Ex} {bo el:List St} {a3 a4 a5:Option Addr}
end
section
variable {w W W':World} {v0 v1 v2:Value}
end
open Go.RowKit Go.ChangeShapes Go.WideShapes
set_option linter.unusedVariables false
set_option maxRecDepth 100000
section
variable {H:Type}
end
section
variable {H:Type} {enc:TypeId × Value→H} {W:World} {sp:Nat→Bool} {held:Bool}
theorem open_fieldsM {T:TypeId} {fs:Array Go.Field} (ht:Tryz.prog.underlying T=some (.struct fs)) {ks:List (Nat × Nat × Option TypeDesc)} (hk:fs.toList.map (fun f:Go.Field=>(f.offset,Tryz.prog.cellsOf f.type,Tryz.prog.underlying f.type))=ks)
 (h1:ks.map (fun u=>(u.1,u.2.1))=(List.range ks.length).map (fun i=>(i,1))) (hc:Tryz.prog.cellsOf T=ks.length) {n:Nat} {cs:List Value} {y:DataW H × List MemPlace} (h:DataW.trod enc Tryz.prog W 0 sp held n T cs=some y) :
 ∃ (m:Nat) (ys:List (DataW H × List MemPlace)),n=m+1∧cs.length=ks.length∧ys.length=ks.length∧y.1=.agg (ys.map (·.1))∧∀ (i:Nat) (k:Nat × Nat × Option TypeDesc),ks[i]? = some k→∃ v t z,cs[i]? = some v∧ys[i]? = some z∧Tryz.prog.underlying t=k.2.2∧DataW.trod enc Tryz.prog W 0 sp held m t [v]=some z:=by
 obtain ⟨ys,m,hn,hy0,hl,hyl,hf⟩:=DataW.trod_struct ht h
 rw [hc] at hl
 refine ⟨m,ys,hn,hl,by rw [hyl,← hk,List.length_map];simp,by rw [hy0],fun i k hi=>?_⟩
 have hks:ks[i]? = (fs[i]?).map (fun f:Go.Field=>(f.offset,Tryz.prog.cellsOf f.type,Tryz.prog.underlying f.type)):=by
  rw [← hk,List.getElem?_map,Array.getElem?_toList]
 rw [hi] at hks
 cases hfi:fs[i]? with
 | none=>rw [hfi] at hks;cases hks
 | some f =>
   rw [hfi] at hks
   obtain rfl:k=(f.offset,Tryz.prog.cellsOf f.type,Tryz.prog.underlying f.type):=by simpa using hks
   have hlt:i<ks.length:=(List.getElem?_eq_some_iff.1 hi).1
   have e1:(ks.map (fun u=>(u.1,u.2.1)))[i]? = some (f.offset,Tryz.prog.cellsOf f.type):=by rw [List.getElem?_map,hi];rfl
   rw [h1,List.getElem?_map,List.getElem?_range hlt] at e1
   obtain ⟨eo,ec⟩:i=f.offset∧1=Tryz.prog.cellsOf f.type:=by simpa using e1
   have hg:=hf i f hfi
   rw [← eo,← ec] at hg
   have hci:i<cs.length:=by omega
   rw [List.drop_eq_getElem_cons hci,List.take_succ_cons,List.take_zero] at hg
   have hyi:i<ys.length:=by rw [hyl];exact (Array.getElem?_eq_some_iff.1 hfi).1
   rw [List.getElem?_eq_getElem hyi] at hg
   exact ⟨cs[i],f.type,ys[i],List.getElem?_eq_getElem hci,List.getElem?_eq_getElem hyi,rfl,hg⟩
end
open Go.ChangeShapes Go.WideShapes Go.ChangeAt Go.WideMaps Go.WideElems Go.RowKit
set_option linter.unusedVariables false
section
variable {H:Type} {enc:TypeId × Value→H} {W:World} {sp:Nat→Bool} {held:Bool}
theorem open_shape {n:Nat} {cs:List Value} {y:DataW H × List MemPlace} (h:DataW.trod enc Tryz.prog W 0 sp held n 163 cs=some y) :
 ∃ a b c d e,cs=[.bool a,.bool b,.int .i64 c,.bool d,.bool e]∧y.1=.agg [.lit (.bool a),.lit (.bool b),.lit (.int .i64 c),.lit (.bool d),.lit (.bool e)]:=by
 obtain ⟨m,ys,_,hl,hyl,hy,hf⟩:=open_fieldsM (ks:=[(0,1,some .bool),(1,1,some .bool),(2,1,some (.int .i64)),(3,1,some .bool),(4,1,some .bool)]) Tryz.underlying163 (by kernel_rfl) (by decide) (by kernel_rfl) h
 obtain ⟨v0,t0,z0,a0,b0,u0,w0⟩:=hf 0 _ rfl
 obtain ⟨v1,t1,z1,a1,b1,u1,w1⟩:=hf 1 _ rfl
 obtain ⟨v2,t2,z2,a2,b2,u2,w2⟩:=hf 2 _ rfl
 obtain ⟨v3,t3,z3,a3,b3,u3,w3⟩:=hf 3 _ rfl
 obtain ⟨v4,t4,z4,a4,b4,u4,w4⟩:=hf 4 _ rfl
 obtain ⟨x0,e0,f0⟩:=DataW.trod_bool u0 w0
 obtain ⟨x1,e1,f1⟩:=DataW.trod_bool u1 w1
 obtain ⟨x2,e2,f2,_⟩:=DataW.trod_int u2 w2
 obtain ⟨x3,e3,f3⟩:=DataW.trod_bool u3 w3
 obtain ⟨x4,e4,f4⟩:=DataW.trod_bool u4 w4
 obtain rfl:=(List.cons.inj e0).1
 obtain rfl:=(List.cons.inj e1).1
 obtain rfl:=(List.cons.inj e2).1
 obtain rfl:=(List.cons.inj e3).1
 obtain rfl:=(List.cons.inj e4).1
 refine ⟨x0,x1,x2,x3,x4,?_,?_⟩
 · match cs, hl, a0, a1, a2, a3, a4 with
   | [p, q, r, s, t], _, a0, a1, a2, a3, a4 =>
     simp at a0 a1 a2 a3 a4
     simp [a0,a1,a2,a3,a4]
 · rw [hy]
   match ys,hyl,b0,b1,b2,b3,b4 with
   | [p, q, r, s, t], _, b0, b1, b2, b3, b4 =>
     simp at b0 b1 b2 b3 b4
     simp [b0,b1,b2,b3,b4,f0,f1,f2,f3,f4]
end
theorem gSh:Tryz.prog.globalNamed "stile/pretty.shapes" = some 1:=by kernel_rfl
theorem tSh:(Tryz.prog.globals[1]?).map (·.type)=some 164:=by kernel_rfl
theorem tPow4:(Tryz.prog.globals[4]?).map (·.type)=some 225:=by kernel_rfl
theorem cellsSh:Tryz.prog.cellsOf 163=5:=by kernel_rfl
theorem ptab_of_vars {W:World} {L:List (String × DataW Unit)} {ps:List MemPlace} (h:DataW.LaidVars Tryz.prog W L ps) (h1:("stile/pretty.shapes",Rows.laid_stile_pretty_shapes)∈L):PTab W:=by
 obtain ⟨c1,f1,p1,v1,d1⟩:=laid_var gSh tSh h h1
 obtain ⟨xs,m,_,hx,hl,hxl,hf⟩:=DataW.trod_array Tryz.underlying164 d1
 have hfst:=(congrArg Prod.fst hx).symm
 simp only at hfst
 unfold Rows.laid_stile_pretty_shapes at hfst
 have hfst:=DataW.agg.inj hfst
 rw [cellsSh] at hf
 have each:∀ (i:Nat) (a b d e:Bool) (c:Int),i<8→(xs.map (·.1))[i]? = some (DataW.agg [.lit (.bool a),.lit (.bool b),.lit (.int .i64 c),.lit (.bool d),.lit (.bool e)]) →
  W.cell? ⟨1,i*5,none⟩=some (.bool a)∧W.cell? ⟨1,i*5+1,none⟩=some (.bool b)∧W.cell? ⟨1,i*5+2,none⟩=some (.int .i64 c)∧W.cell? ⟨1,i*5+3,none⟩=some (.bool d)∧W.cell? ⟨1,i*5+4,none⟩=some (.bool e):=by
  intro i a b d e c hi hs
  have hxi:i<xs.length:=by omega
  have h3:=hf i hi
  rw [List.getElem?_eq_getElem hxi] at h3
  obtain ⟨a',b',c',d',e',hc,hy⟩:=open_shape h3
  rw [List.getElem?_map,List.getElem?_eq_getElem hxi,Option.map_some,hy] at hs
  simp at hs
  obtain ⟨rfl,rfl,rfl,rfl,rfl⟩:=hs
  have at5:∀ (j:Nat) (v:Value),[Value.bool a',.bool b',.int .i64 c',.bool d',.bool e'][j]? = some v→W.cell? ⟨1,i*5+j,none⟩=some v:=by
   intro j v hv
   have hj:j<5:=(List.getElem?_eq_some_iff.1 hv).1
   rw [World.var?_cell gSh v1 (i*5+j),← Array.getElem?_toList]
   rw [← hc,List.getElem?_take,if_pos hj,List.getElem?_drop] at hv
   exact hv
  exact ⟨at5 0 _ rfl,at5 1 _ rfl,at5 2 _ rfl,at5 3 _ rfl,at5 4 _ rfl⟩
 rw [hfst] at each
 have hz:=(each 0 false false false false 0 (by omega) rfl).1
 refine ⟨by have:=lt_of_at hz;exact this,fun k h0 h8=>?_⟩
 have hk:k=0∨k=1∨k=2∨k=3∨k=4∨k=5∨k=6∨k=7:=by omega
 rcases hk with rfl | rfl | rfl | rfl | rfl | rfl | rfl | rfl
 · exact each 0 _ _ _ _ _ (by omega) rfl
 · exact each 1 _ _ _ _ _ (by omega) rfl
 · exact each 2 _ _ _ _ _ (by omega) rfl
 · exact each 3 _ _ _ _ _ (by omega) rfl
 · exact each 4 _ _ _ _ _ (by omega) rfl
 · exact each 5 _ _ _ _ _ (by omega) rfl
 · exact each 6 _ _ _ _ _ (by omega) rfl
 · exact each 7 _ _ _ _ _ (by omega) rfl
theorem wtb_of_vars {W:World} {L:List (String × DataW Unit)} {ps:List MemPlace} (h:DataW.LaidVars Tryz.prog W L ps) (h1:("stile/pretty.shapes",Rows.laid_stile_pretty_shapes)∈L) (h2:("internal/strconv.uint64pow10",Rows.laid_internal_strconv_uint64pow10)∈L) (h3:LTabs W∧Tabs W):WTb W:=by
 obtain ⟨c2,f2,p2,v2,d2⟩:=laid_var gPow tPow4 h h2
 have e2:=Lib.cells_of_tab (k:=.u64) (zs:=Lib.pow10Tab) Tryz.underlying225 Tryz.underlying204 (by kernel_rfl) (by kernel_rfl) d2
 have i2:=lt_of_at (v:=.int .u64 1) (by rw [World.var?_cell gPow v2 0,← Array.getElem?_toList,e2];rfl)
 refine ⟨⟨h3,ptab_of_vars h h1⟩,?_,i2⟩
 unfold Lib.TabIs
 rw [v2,← e2]
open Go.RowKit
set_option linter.unusedVariables false
set_option maxRecDepth 100000
theorem res1c {fn:Func} {T:TypeId} {i:Tmp} (h:fn.results=#[.cell i T]) {tmps:Array Value} {P:Program} {w:World} {a:Addr} {x:Value} (ha:tmps.getD i undef=.pointer (some a)) (h1:(loadVar T a).run P w=.ok x w):(results fn tmps).run P w=.ok x w:=by
 have ha':tmps[i]?.getD undef=.pointer (some a):=by simpa using ha
 simp [results,h,ha',asAddr,h1]
def nmX (s:ByteArray):Ex:=.mk 2 0 0 s [] 0
theorem p_name4 (s:ByteArray) (w:World):Calls Tryz.prog 17 #[.string s] w fun e w'=>e=.returned (.agg #[.int .u8 2,.int .u8 0,.int .i64 0,.string s,.slice none 0 0,.int .i64 0])∧Below w.heap.size w w':=by
 have O1:=Own.new w 30 #[.int .u8 0,.int .u8 0,.int .i64 0,.string ⟨#[]⟩,.slice none 0 0,.int .i64 0]
 have B1:Below w.heap.size w (w.alloc (.cells #[.int .u8 0,.int .u8 0,.int .i64 0,.string ⟨#[]⟩,.slice none 0 0,.int .i64 0] 30)):=(Below.refl _ w).alloc (Nat.le_refl _) _
 have p1:=Lib.hid (O1.row #[.int .u8 2,.int .u8 0,.int .i64 0,.string s,.slice none 0 0,.int .i64 0])
 have B2:=Lib.hid (Below.of_row B1 (g:=w.heap.size) (Nat.le_refl _) #[.int .u8 2,.int .u8 0,.int .i64 0,.string s,.slice none 0 0,.int .i64 0])
 go_enter Tryz.func17,Tryz.ntmps17
 go_wp2_with (refine st rowEx rfl rfl O1 rfl rfl (by rfl) (by rfl) (by kernel_rfl) ?_)
 refine bodyPost_ret (res1c rfl rfl (lv_row rowEx p1.out rfl)) rfl ⟨rfl,B2.out⟩
theorem p_binary4 {op kx ox wx px ky oy wy py:Int} {nx ny:ByteArray} {ax ay:Option Addr} {mx cx my cy:Nat} {x y:Ex} {w:World} (hx:exV (fun _=>True) w x [.int .u8 kx,.int .u8 ox,.int .i64 wx,.string nx,.slice ax mx cx,.int .i64 px]) (hy:exV (fun _=>True) w y [.int .u8 ky,.int .u8 oy,.int .i64 wy,.string ny,.slice ay my cy,.int .i64 py]) :
 Calls Tryz.prog 16 #[.int .u8 op,.agg #[.int .u8 kx,.int .u8 ox,.int .i64 wx,.string nx,.slice ax mx cx,.int .i64 px],.agg #[.int .u8 ky,.int .u8 oy,.int .i64 wy,.string ny,.slice ay my cy,.int .i64 py]] w fun e w'=>∃ a,e=.returned (.agg #[.int .u8 4,.int .u8 op,.int .i64 0,.string ⟨#[]⟩,.slice a 2 2,.int .i64 0])∧exsAt (fun _=>True) w' [x,y] a∧Below w.heap.size w w':=by
 have O1:=((Own.new w 30 #[.int .u8 kx,.int .u8 ox,.int .i64 wx,.string nx,.slice ax mx cx,.int .i64 px]).alloc (.cells #[.int .u8 ky,.int .u8 oy,.int .i64 wy,.string ny,.slice ay my cy,.int .i64 py] 30)).alloc (.cells #[.int .u8 0,.int .u8 0,.int .i64 0,.string ⟨#[]⟩,.slice none 0 0,.int .i64 0] 30)
 have O2:=(Own.new (w.alloc (.cells #[.int .u8 kx,.int .u8 ox,.int .i64 wx,.string nx,.slice ax mx cx,.int .i64 px] 30)) 30 #[.int .u8 ky,.int .u8 oy,.int .i64 wy,.string ny,.slice ay my cy,.int .i64 py]).alloc (.cells #[.int .u8 0,.int .u8 0,.int .i64 0,.string ⟨#[]⟩,.slice none 0 0,.int .i64 0] 30)
 have O3:=Own.new ((w.alloc (.cells #[.int .u8 kx,.int .u8 ox,.int .i64 wx,.string nx,.slice ax mx cx,.int .i64 px] 30)).alloc (.cells #[.int .u8 ky,.int .u8 oy,.int .i64 wy,.string ny,.slice ay my cy,.int .i64 py] 30)) 30 #[.int .u8 0,.int .u8 0,.int .i64 0,.string ⟨#[]⟩,.slice none 0 0,.int .i64 0]
 rw [World.size_alloc] at O2
 rw [World.size_alloc,World.size_alloc] at O3
 obtain ⟨W1,hW1⟩:∃ W,W=((w.alloc (.cells #[.int .u8 kx,.int .u8 ox,.int .i64 wx,.string nx,.slice ax mx cx,.int .i64 px] 30)).alloc (.cells #[.int .u8 ky,.int .u8 oy,.int .i64 wy,.string ny,.slice ay my cy,.int .i64 py] 30)).alloc (.cells #[.int .u8 0,.int .u8 0,.int .i64 0,.string ⟨#[]⟩,.slice none 0 0,.int .i64 0] 30):=⟨_,rfl⟩
 have hs1:W1.heap.size=w.heap.size+3:=by rw [hW1];simp only [World.size_alloc]
 have B1:Below w.heap.size w W1:=by rw [hW1];exact (((Below.refl _ w).alloc (Nat.le_refl _) _).alloc (by simp only [World.size_alloc];omega) _).alloc (by simp only [World.size_alloc];omega) _
 rw [← hW1] at O1 O2 O3
 have HW1:=Lib.hid hW1
 have HX:=Lib.hid hx
 have HY:=Lib.hid hy
 have HS:=Lib.hid hs1
 have HB:=Lib.hid B1
 clear hW1 hx hy hs1 B1
 have K4:=O3.alloc (.cells #[.int .u8 kx,.int .u8 ox,.int .i64 wx,.string nx,.slice ax mx cx,.int .i64 px,.int .u8 ky,.int .u8 oy,.int .i64 wy,.string ny,.slice ay my cy,.int .i64 py] 30)
 go_enter Tryz.func16,Tryz.ntmps16
 go_upto_region 1 with (fail)
 rw [← HW1.out]
 go_wp2_with (first | (refine ld rowEx rfl rfl rfl O1 rfl ?_) | (refine ld rowEx rfl rfl rfl O2 rfl ?_) | (refine st rowEx rfl rfl K4 rfl rfl (by rfl) (by rfl) (by kernel_rfl) ?_))
 have KB:=(Own.new W1 30 #[.int .u8 kx,.int .u8 ox,.int .i64 wx,.string nx,.slice ax mx cx,.int .i64 px,.int .u8 ky,.int .u8 oy,.int .i64 wy,.string ny,.slice ay my cy,.int .i64 py]).other (g:=w.heap.size+1+1) #[.int .u8 4,.int .u8 op,.int .i64 0,.string ⟨#[]⟩,.slice (some ⟨W1.heap.size,0,none⟩) 2 2,.int .i64 0] (by have:=HS.out;omega)
 have K6:=K4.row #[.int .u8 4,.int .u8 op,.int .i64 0,.string ⟨#[]⟩,.slice (some ⟨W1.heap.size,0,none⟩) 2 2,.int .i64 0]
 have B2:=Below.of_row (HB.out.alloc HB.out.size (.cells #[.int .u8 kx,.int .u8 ox,.int .i64 wx,.string nx,.slice ax mx cx,.int .i64 px,.int .u8 ky,.int .u8 oy,.int .i64 wy,.string ny,.slice ay my cy,.int .i64 py] 30)) (g:=w.heap.size+1+1) (by omega) #[.int .u8 4,.int .u8 op,.int .i64 0,.string ⟨#[]⟩,.slice (some ⟨W1.heap.size,0,none⟩) 2 2,.int .i64 0]
 generalize (W1.alloc (.cells #[.int .u8 kx,.int .u8 ox,.int .i64 wx,.string nx,.slice ax mx cx,.int .i64 px,.int .u8 ky,.int .u8 oy,.int .i64 wy,.string ny,.slice ay my cy,.int .i64 py] 30)).setRow (w.heap.size+1+1) #[.int .u8 4,.int .u8 op,.int .i64 0,.string ⟨#[]⟩,.slice (some ⟨W1.heap.size,0,none⟩) 2 2,.int .i64 0]=W2 at KB K6 B2 ⊢
 have ex:exV (fun _=>True) W2 x [.int .u8 kx,.int .u8 ox,.int .i64 wx,.string nx,.slice ax mx cx,.int .i64 px]:=by
  obtain ⟨a,c,h1,h2⟩:=HX.out
  exact ⟨a,c,h1,exsAt_below h2 B2⟩
 have ey:exV (fun _=>True) W2 y [.int .u8 ky,.int .u8 oy,.int .i64 wy,.string ny,.slice ay my cy,.int .i64 py]:=by
  obtain ⟨a,c,h1,h2⟩:=HY.out
  exact ⟨a,c,h1,exsAt_below h2 B2⟩
 refine bodyPost_ret (res1c rfl rfl (lv_row rowEx K6 rfl)) rfl ⟨some ⟨W1.heap.size,0,none⟩,rfl,.inr ⟨W1.heap.size,0,rfl,trivial,exIn_of ex fun j u hj=>?_,exIn_of ey fun j u hj=>?_,trivial⟩,B2⟩
 · rw [cell_of_row _ _ (0 + j) _ _ _ KB, Nat.zero_add]
   match j,hj with
   | 0,hj=>exact hj
   | 1,hj=>exact hj
   | 2,hj=>exact hj
   | 3,hj=>exact hj
   | 4,hj=>exact hj
   | 5,hj=>exact hj
   | n+6,hj=>simp at hj
 · rw [cell_of_row _ _ (0 + 6 + j) _ _ _ KB]
   match j,hj with
   | 0,hj=>exact hj
   | 1,hj=>exact hj
   | 2,hj=>exact hj
   | 3,hj=>exact hj
   | 4,hj=>exact hj
   | 5,hj=>exact hj
   | n+6,hj=>simp at hj
end Go.Proofs.YtggbkldniffbfaaGreatDoor

/- The proof, part 39: texts that belong together, in one. -/
import Derived.Test.YtggbkldniffbfaaGreatDoorSBL
import Derived.Test.YtggbkldniffbfaaGreatDoorSAW
import Derived.ChangeArms
import Derived.SizedLaws
import Derived.Carry
import Derived.ChangeSame
import Derived.WideShapes
import Derived.Deep.QuietTactic
import Derived.BigQuiet
import Derived.Deep.Draws
import Derived.StillTailTactics
import Derived.Deep.LoopGhost
import Derived.Test.YtggbkldniffbfaaGreatDoorSAR
import Derived.Test.YtggbkldniffbfaaGreatDoorSAG
import Derived.Test.YtggbkldniffbfaaGreatDoorSAH
import Derived.Test.YtggbkldniffbfaaGreatDoorSAK
import Derived.Deep.RegionWith
import Derived.Test.YtggbkldniffbfaaGreatDoorSAL
import Derived.Test.YtggbkldniffbfaaGreatDoorSAO
import Derived.Test.YtggbkldniffbfaaGreatDoorSAQ
import Derived.Deep.RegionHeld3
import Derived.Deep.DeepCutAuto
import Derived.BigRegion
import Derived.Deep.CutBlock
import Derived.WalkLawsBesides
import Derived.Deep.MidRow
import Derived.OwnWalk
import Derived.WalkSpells
import Derived.Test.YtggbkldniffbfaaGreatDoorSAA
import Derived.Test.YtggbkldniffbfaaGreatDoorSAP
import Derived.Test.YtggbkldniffbfaaGreatDoorRows
import Derived.Test.YtggbkldniffbfaaGreatDoorSBK
import Derived.OpenShut
set_option maxRecDepth 100000
set_option maxHeartbeats 20000000
namespace Go.Proofs.YtggbkldniffbfaaGreatDoor
set_option linter.unusedVariables false
theorem front_cut {t:Bs} {ks:List Bk} {ok:Bs→Prop} (h:Cut t ks ok) (h0:ok []):∃ xs,frontR ⟨t.toArray⟩=(xs,0,0)∧(xs.map Res.tk).map Tk.bt=ks:=by
 obtain ⟨xs,q,a1,a2⟩:=h 0 [] h0
 have hr:restL q []=([],0,0):=rfl
 rw [hr,List.append_nil,List.append_nil] at a1
 refine ⟨xs,?_,?_⟩
 · rw [front_list];exact a1
 · rw [List.map_map];exact a2
theorem size_of_list (t:Bs):(⟨t.toArray⟩:ByteArray).size=t.length:=by
 show t.toArray.size=_
 simp
theorem said_P_back {x:Pg} (hx:rP x=true) (hg:rgP x) (hD:rgD x.shared) (hl:(tP x).length≤65536):∃ y,said_P ⟨(tP x).toArray⟩=(some y,0,0,0)∧samePg x y=true:=by
 obtain ⟨xs,h1,h2⟩:=front_cut (cut_prog hx hg hD) trivial
 obtain ⟨y,a1,a2⟩:=prog_back (L:=(tP x).length) (n:=fuel (xs.map Res.tk)) hx h2 (by unfold fuel;omega)
 refine ⟨y,?_,a2⟩
 unfold said_P wholeR scanX
 rw [size_of_list,if_neg (by omega),h1]
 simp only [not_true_eq_false,if_false,if_true]
 rw [if_neg (by omega),a1]
 rfl
theorem said_E_back {x:Ex} (hx:rE x 0=true) (hg:rgE x) (hl:(tE x).length≤65536):∃ y,said_E ⟨(tE x).toArray⟩=(some y,0,0,0)∧sameE x y=true:=by
 obtain ⟨xs,h1,h2⟩:=front_cut (cut_ex x 0 hx hg).1 trivial
 obtain ⟨n',y,a0,a1,a2⟩:=(back_ex x).2 (tE x).length 1 0 (fuel (xs.map Res.tk)) (xs.map Res.tk) [] hx (by omega) (fun hk=>by have:=two_pos (rE_two hx hk);simp only [nxt];omega) h2 (by unfold fuel;simp)
 rw [List.append_nil] at a1
 refine ⟨y,?_,a2⟩
 unfold said_E wholeR scanX
 rw [size_of_list,if_neg (by omega),h1]
 simp only [not_true_eq_false,if_false,if_true]
 rw [if_neg (by omega),a1,binL_halt (by omega) (by omega) (by simp only [nxt];omega)]
 rfl
open Go.RowKit Go.ChangeShapes Go.WideShapes
set_option linter.unusedVariables false
set_option maxRecDepth 100000
section
variable {H:Type} {enc:TypeId × Value→H} {W:World} {sp:Nat→Bool} {held:Bool}
theorem add_off (g off n:Nat):(⟨g,off,none⟩:Addr).add n=⟨g,off+n,none⟩:=by
 by_cases h0:n=0
 · subst h0;rfl
 · simp [Addr.add,h0]
end
theorem dcsIn_all {w:World} {b:Nat} : ∀ (l:List Dc) (q:Nat),(∀ i x,l[i]? = some x→dcIn w x b (q+i*3))→dcsIn w l b q
 | [],q,h=>trivial
 | x::r,q,h=>⟨by have:=h 0 x rfl;simpa using this,dcsIn_all r (q+3) fun i y hy=>by have:=h (i+1) y (by simpa using hy);rw [show q+3+i*3=q+(i+1)*3 by omega];exact this⟩
theorem exsIn_all {R:Nat→Prop} {w:World} {b:Nat} : ∀ (l:List Ex) (q:Nat),(∀ i x,l[i]? = some x→exIn R w x b (q+i*6))→exsIn R w l b q
 | [],q,h=>trivial
 | x::r,q,h=>⟨by have:=h 0 x rfl;simpa using this,exsIn_all r (q+6) fun i y hy=>by have:=h (i+1) y (by simpa using hy);rw [show q+6+i*6=q+(i+1)*6 by omega];exact this⟩
theorem stsIn_all {R:Nat→Prop} {w:World} {b:Nat} : ∀ (l:List St) (q:Nat),(∀ i x,l[i]? = some x→stIn R w x b (q+i*7))→stsIn R w l b q
 | [],q,h=>trivial
 | x::r,q,h=>⟨by have:=h 0 x rfl;simpa using this,stsIn_all r (q+7) fun i y hy=>by have:=h (i+1) y (by simpa using hy);rw [show q+7+i*7=q+(i+1)*7 by omega];exact this⟩
theorem thsIn_all {R:Nat→Prop} {w:World} {b:Nat} : ∀ (l:List Th) (q:Nat),(∀ i x,l[i]? = some x→thIn R w x b (q+i*4))→thsIn R w l b q
 | [],q,h=>trivial
 | x::r,q,h=>⟨by have:=h 0 x rfl;simpa using this,thsIn_all r (q+4) fun i y hy=>by have:=h (i+1) y (by simpa using hy);rw [show q+4+i*4=q+(i+1)*4 by omega];exact this⟩
theorem okEs_all:∀ {l:List Ex},(∀ x∈l,okE x)→okEs l
 | [],_=>trivial
 | x::r,h=>⟨h x (.head _),okEs_all fun y hy=>h y (.tail _ hy)⟩
theorem okSs_all:∀ {l:List St},(∀ x∈l,okS x)→okSs l
 | [],_=>trivial
 | x::r,h=>⟨h x (.head _),okSs_all fun y hy=>h y (.tail _ hy)⟩
theorem fieldsD:∃ fs:Array Go.Field,Tryz.prog.underlying 53=some (.struct fs)∧fs.toList.map (fun f:Go.Field=>(f.offset,Tryz.prog.cellsOf f.type,Tryz.prog.underlying f.type))=[(0,1,some (.string)),(1,1,some (.int .i64)),(2,1,some (.int .i64))]:=⟨_,Tryz.underlying53,by kernel_rfl⟩
theorem cellsD:Tryz.prog.cellsOf 53=3:=by kernel_rfl
theorem fieldsE:∃ fs:Array Go.Field,Tryz.prog.underlying 30=some (.struct fs)∧fs.toList.map (fun f:Go.Field=>(f.offset,Tryz.prog.cellsOf f.type,Tryz.prog.underlying f.type))=[(0,1,some (.int .u8)),(1,1,some (.int .u8)),(2,1,some (.int .i64)),(3,1,some (.string)),(4,1,some (.slice 30)),(5,1,some (.int .i64))]:=⟨_,Tryz.underlying30,by kernel_rfl⟩
theorem cellsE:Tryz.prog.cellsOf 30=6:=by kernel_rfl
theorem fieldsS:∃ fs:Array Go.Field,Tryz.prog.underlying 57=some (.struct fs)∧fs.toList.map (fun f:Go.Field=>(f.offset,Tryz.prog.cellsOf f.type,Tryz.prog.underlying f.type))=[(0,1,some (.int .u8)),(1,1,some (.string)),(2,1,some (.string)),(3,1,some (.slice 30)),(4,1,some (.slice 57)),(5,1,some (.slice 57)),(6,1,some (.int .i64))]:=⟨_,Tryz.underlying57,by kernel_rfl⟩
theorem cellsS:Tryz.prog.cellsOf 57=7:=by kernel_rfl
theorem fieldsT:∃ fs:Array Go.Field,Tryz.prog.underlying 59=some (.struct fs)∧fs.toList.map (fun f:Go.Field=>(f.offset,Tryz.prog.cellsOf f.type,Tryz.prog.underlying f.type))=[(0,1,some (.string)),(1,1,some (.slice 53)),(2,1,some (.slice 57)),(3,1,some (.int .i64))]:=⟨_,Tryz.underlying59,by kernel_rfl⟩
theorem cellsT:Tryz.prog.cellsOf 59=4:=by kernel_rfl
theorem fieldsP:∃ fs:Array Go.Field,Tryz.prog.underlying 25=some (.struct fs)∧fs.toList.map (fun f:Go.Field=>(f.offset,Tryz.prog.cellsOf f.type,Tryz.prog.underlying f.type))=[(0,1,some (.slice 53)),(1,1,some (.slice 53)),(2,1,some (.slice 59))]:=⟨_,Tryz.underlying25,by kernel_rfl⟩
theorem cellsP:Tryz.prog.cellsOf 25=3:=by kernel_rfl
section
variable {H:Type} {enc:TypeId × Value→H} {W:World} {sp:Nat→Bool} {held:Bool}
end
open Go.RowKit
set_option linter.unusedVariables false
def RSameC (e:Ex):Prop:=okE e→∀ (f:Ex) (v u:Value) (w:World),exA w e v→exA w f u→Calls Tryz.prog 12 #[v,u] w fun e' w'=>e'=.returned (.bool (sameE e f))∧Below w.heap.size w w'
theorem r_exprs {l:List Ex} (HI:∀ x∈l,RSameC x) (HO:okEs l) {m:List Ex} {a b:Option Addr} {c1 c2:Nat} {w:World} (hl:l.length≤9223372036854775807) (h1:exsAt (fun _=>True) w l a) (h2:exsAt (fun _=>True) w m b) :
 Calls Tryz.prog 32 #[.slice a l.length c1,.slice b m.length c2] w fun e w'=>e=.returned (.bool (sameEs l m))∧Below w.heap.size w w':=by
 by_cases hne:l.length=m.length
 · obtain ⟨R, hR⟩ : ∃ R, R = sameEs l m := ⟨_, rfl⟩
   rw [← hR]
   have HRR:=Lib.hid hR
   have HI:=Lib.hid HI
   have HO:=Lib.hid HO
   have HL:=Lib.hid hl
   have HLM:=Lib.hid hne
   have E1:=Lib.hid h1
   have E2:=Lib.hid h2
   rw [← hne]
   obtain ⟨n,hn⟩:∃ n,n=l.length:=⟨_,rfl⟩
   rw [← hn]
   have HN:=Lib.hid hn
   have hn6:n≤9223372036854775807:=by omega
   have hnn:((n:Int) != (n:Int))=false:=by simp
   clear hl hne h1 h2 hR hn
   go_enter Tryz.func32,Tryz.ntmps32
   go_wp2_with fail
   go_loopg [13] (n+1) (fun m' u W=>∃ i:Nat,u=.int .i64 (i:Int)∧i≤n∧m'=n-i+1∧sameFrom l m i=R∧Below w.heap.size w W)
   case atStart=>exact ⟨0,rfl,Nat.zero_le _,by omega,HRR.out.symm,Below.refl _ w⟩
   case round =>
    obtain ⟨i,rfl,hi,hm,hR,hb⟩:=hrel
    have HB:=Lib.hid hb
    have HRI:=Lib.hid hR
    have HM:=Lib.hid hm
    clear hb hR hm
    by_cases hin:i<n
    · have HIN := Lib.hid hin
      have il:i<l.length:=by have:=HN.out;omega
      have im:i<m.length:=by have:=HLM.out;omega
      have g1:l[i]? = some l[i]:=List.getElem?_eq_getElem il
      have g2:m[i]? = some m[i]:=List.getElem?_eq_getElem im
      have hmem:l[i]∈l:=List.getElem_mem il
      have hst:=sameFrom_step il im
      generalize l[i]=x at g1 hst hmem
      generalize m[i]=y at g2 hst
      have HX:=Lib.hid (HI.out x hmem (okEs_mem HO.out x hmem))
      rcases E1.out with e | ⟨g,q,rfl,_,e1⟩
      · cases l with
        | nil=>simp at il
        | cons=>cases e
      rcases E2.out with e | ⟨g',q',rfl,_,e2⟩
      · cases m with
        | nil=>simp at im
        | cons=>cases e
      have x1:=exsIn_get i x e1 g1
      have y1:=exsIn_get i y e2 g2
      have HST:=Lib.hid (HRI.out.symm.trans hst)
      obtain ⟨k,o,wd,nm,ks,ps⟩:=x
      obtain ⟨k',o',wd',nm',ks',ps'⟩:=y
      obtain ⟨a0,a1,a2,a3,⟨ka,kc,a4,hka⟩,a5⟩:=x1
      obtain ⟨b0,b1,b2,b3,⟨kb,kd,b4,hkb⟩,b5⟩:=y1
      have HKA:=Lib.hid hka
      have HKB:=Lib.hid hkb
      have lg:=lt_of_at a0
      have lg':=lt_of_at b0
      simp only at lg lg'
      have BX:=HB.out
      have a0:=(BX.cell (p:=⟨g,q+i*6,none⟩) lg).trans a0
      have a1:=(BX.cell (p:=⟨g,q+i*6+1,none⟩) lg).trans a1
      have a2:=(BX.cell (p:=⟨g,q+i*6+2,none⟩) lg).trans a2
      have a3:=(BX.cell (p:=⟨g,q+i*6+3,none⟩) lg).trans a3
      have a4:=(BX.cell (p:=⟨g,q+i*6+4,none⟩) lg).trans a4
      have a5:=(BX.cell (p:=⟨g,q+i*6+5,none⟩) lg).trans a5
      have b0:=(BX.cell (p:=⟨g',q'+i*6,none⟩) lg').trans b0
      have b1:=(BX.cell (p:=⟨g',q'+i*6+1,none⟩) lg').trans b1
      have b2:=(BX.cell (p:=⟨g',q'+i*6+2,none⟩) lg').trans b2
      have b3:=(BX.cell (p:=⟨g',q'+i*6+3,none⟩) lg').trans b3
      have b4:=(BX.cell (p:=⟨g',q'+i*6+4,none⟩) lg').trans b4
      have b5:=(BX.cell (p:=⟨g',q'+i*6+5,none⟩) lg').trans b5
      have hin':(i:Int)<(n:Int):=by omega
      have BW:Hid (Below w.heap.size w wr.drew):=below_drewN HB.out 1
      have HC:Hid (Calls Tryz.prog 12 #[.agg #[.int .u8 k,.int .u8 o,.int .i64 wd,.string nm,.slice ka ks.length kc,.int .i64 ps],.agg #[.int .u8 k',.int .u8 o',.int .i64 wd',.string nm',.slice kb ks'.length kd,.int .i64 ps']] wr.drew fun e' w'=>e'=.returned (.bool (sameE (.mk k o wd nm ks ps) (.mk k' o' wd' nm' ks' ps')))∧Below wr.drew.heap.size wr.drew w') :=
       HX.out _ _ _ _ ⟨ka,kc,rfl,exsAt_below HKA.out BW.out⟩ ⟨kb,kd,rfl,exsAt_below HKB.out BW.out⟩
      generalize sameE (.mk k o wd nm ks ps) (.mk k' o' wd' nm' ks' ps')=B at HST HC
      clear hst hmem g1 g2 e1 e2 hka hkb il im BX
      go_wp2_with fail
      go_still_tail 8,(by kernel_rfl)
      change wpList _ _ _ _ _ wr.drew
      clear a0 a1 a2 a3 a4 a5 b0 b1 b2 b3 b4 b5
      obtain ⟨W1,hW1⟩:∃ W,W=wr.drew:=⟨_,rfl⟩
      rw [← hW1] at HC BW ⊢
      clear hW1
      cases B with
      | false =>
        go_wp2_with (go_at_call 12;refine (HC.out).mono ?_;rintro e w3 ⟨rfl,hb3⟩;have HB3:=Lib.hid hb3;clear hb3)
        go_ret
        exact ⟨by rw [HST.out];rfl,BW.out.trans (HB3.out.mono (BW.out.size))⟩
      | true =>
        go_wp2_with (go_at_call 12;refine (HC.out).mono ?_;rintro e w3 ⟨rfl,hb3⟩;have HB3:=Lib.hid hb3;clear hb3)
        go_roundg (n-(i+1)+1)
        case measure=>have:=HM.out;omega
        case rel=>exact ⟨i+1,rfl,by omega,by omega,by rw [HST.out];simp,BW.out.trans (HB3.out.mono (BW.out.size))⟩
    · have : i = n := by omega
      subst this
      have hR:R=true:=by rw [← HRI.out];exact sameFrom_end (by have:=HN.out;omega) (by have:=HLM.out;have:=HN.out;omega)
      have HRT:=Lib.hid hR
      clear hR
      go_wp2_with fail
      go_ret
      exact ⟨by rw [HRT.out];rfl,HB.out⟩
 · rw [sameEs_ne hne]
   obtain ⟨n,hn⟩:∃ n,n=l.length:=⟨_,rfl⟩
   obtain ⟨k,hk⟩:∃ k,k=m.length:=⟨_,rfl⟩
   rw [← hn] at hne hl ⊢
   rw [← hk] at hne ⊢
   have hq:((n:Int) != (k:Int))=true:=by simp;omega
   clear h1 h2 HI HO hn hk
   go_enter Tryz.func32,Tryz.ntmps32
   go_wp2_with fail
   go_ret
   exact ⟨rfl,Below.refl _ w⟩
theorem rsame_no0 {k o wd ps k' o' wd' ps':Int} {nm nm':ByteArray} {n n' kc kd:Nat} {ka kb:Option Addr} (w:World) (q0:(k != k')=true) :
 Calls Tryz.prog 12 #[.agg #[.int .u8 k,.int .u8 o,.int .i64 wd,.string nm,.slice ka n kc,.int .i64 ps],.agg #[.int .u8 k',.int .u8 o',.int .i64 wd',.string nm',.slice kb n' kd,.int .i64 ps']] w fun e' w'=>e'=.returned (.bool false)∧Below w.heap.size w w':=by
 go_enter Tryz.func12,Tryz.ntmps12
 go_wp2_with fail
 go_ret
 exact ⟨rfl,(((Below.refl _ w).alloc (Nat.le_refl _) _).alloc (by rw [World.size_alloc];omega) _)⟩
theorem rsame_no1 {k o wd ps k' o' wd' ps':Int} {nm nm':ByteArray} {n n' kc kd:Nat} {ka kb:Option Addr} (w:World) (q0:(k != k')=false) (q1:(o != o')=true) :
 Calls Tryz.prog 12 #[.agg #[.int .u8 k,.int .u8 o,.int .i64 wd,.string nm,.slice ka n kc,.int .i64 ps],.agg #[.int .u8 k',.int .u8 o',.int .i64 wd',.string nm',.slice kb n' kd,.int .i64 ps']] w fun e' w'=>e'=.returned (.bool false)∧Below w.heap.size w w':=by
 go_enter Tryz.func12,Tryz.ntmps12
 go_wp2_with fail
 go_ret
 exact ⟨rfl,(((Below.refl _ w).alloc (Nat.le_refl _) _).alloc (by rw [World.size_alloc];omega) _)⟩
theorem rsame_no2 {k o wd ps k' o' wd' ps':Int} {nm nm':ByteArray} {n n' kc kd:Nat} {ka kb:Option Addr} (w:World) (q0:(k != k')=false) (q1:(o != o')=false) (q2:(wd != wd')=true) :
 Calls Tryz.prog 12 #[.agg #[.int .u8 k,.int .u8 o,.int .i64 wd,.string nm,.slice ka n kc,.int .i64 ps],.agg #[.int .u8 k',.int .u8 o',.int .i64 wd',.string nm',.slice kb n' kd,.int .i64 ps']] w fun e' w'=>e'=.returned (.bool false)∧Below w.heap.size w w':=by
 go_enter Tryz.func12,Tryz.ntmps12
 go_wp2_with fail
 go_ret
 exact ⟨rfl,(((Below.refl _ w).alloc (Nat.le_refl _) _).alloc (by rw [World.size_alloc];omega) _)⟩
theorem rsame_no3 {k o wd ps k' o' wd' ps':Int} {nm nm':ByteArray} {n n' kc kd:Nat} {ka kb:Option Addr} (w:World) (q0:(k != k')=false) (q1:(o != o')=false) (q2:(wd != wd')=false) (q3:(nm.toList != nm'.toList)=true) (q3':(nm.toList==nm'.toList)=false) :
 Calls Tryz.prog 12 #[.agg #[.int .u8 k,.int .u8 o,.int .i64 wd,.string nm,.slice ka n kc,.int .i64 ps],.agg #[.int .u8 k',.int .u8 o',.int .i64 wd',.string nm',.slice kb n' kd,.int .i64 ps']] w fun e' w'=>e'=.returned (.bool false)∧Below w.heap.size w w':=by
 go_enter Tryz.func12,Tryz.ntmps12
 go_wp2_with fail
 go_ret
 exact ⟨rfl,(((Below.refl _ w).alloc (Nat.le_refl _) _).alloc (by rw [World.size_alloc];omega) _)⟩
theorem rsame_yes {k o wd ps k' o' wd' ps':Int} {nm nm':ByteArray} {n n' kc kd:Nat} {ka kb:Option Addr} (w:World) {B:Bool} (q0:(k != k')=false) (q1:(o != o')=false) (q2:(wd != wd')=false) (q3:(nm.toList != nm'.toList)=false) (q3':(nm.toList==nm'.toList)=true) (HC:∀ W,Below w.heap.size w W→Calls Tryz.prog 32 #[.slice ka n kc,.slice kb n' kd] W fun e w'=>e=.returned (.bool B)∧Below W.heap.size W w') :
 Calls Tryz.prog 12 #[.agg #[.int .u8 k,.int .u8 o,.int .i64 wd,.string nm,.slice ka n kc,.int .i64 ps],.agg #[.int .u8 k',.int .u8 o',.int .i64 wd',.string nm',.slice kb n' kd,.int .i64 ps']] w fun e' w'=>e'=.returned (.bool B)∧Below w.heap.size w w':=by
 have HC:=Lib.hid HC
 have HB:Hid (Below w.heap.size w ((w.alloc (.cells #[.int .u8 k,.int .u8 o,.int .i64 wd,.string nm,.slice ka n kc,.int .i64 ps] 30)).alloc (.cells #[.int .u8 k',.int .u8 o',.int .i64 wd',.string nm',.slice kb n' kd,.int .i64 ps'] 30))):=(((Below.refl _ w).alloc (Nat.le_refl _) _).alloc (by rw [World.size_alloc];omega) _)
 go_enter Tryz.func12,Tryz.ntmps12
 go_wp2_with (go_at_call 32;refine (HC.out _ HB.out).mono ?_;rintro e w3 ⟨rfl,hb3⟩;have HB3:=Lib.hid hb3;clear hb3)
 go_ret
 exact ⟨rfl,HB.out.trans (HB3.out.mono HB.out.size)⟩
theorem r_same:∀ e:Ex,RSameC e:=by
 intro e
 induction e using Ex.ind with
 | h k o wd nm ks ps ih =>
   intro hok f v u w hv hu
   obtain ⟨k',o',wd',nm',ks',ps'⟩:=f
   obtain ⟨ka,kc,rfl,hka⟩:=hv
   obtain ⟨kb,kd,rfl,hkb⟩:=hu
   show Calls _ _ #[.agg #[.int .u8 k,.int .u8 o,.int .i64 wd,.string nm,.slice ka ks.length kc,.int .i64 ps],.agg #[.int .u8 k',.int .u8 o',.int .i64 wd',.string nm',.slice kb ks'.length kd,.int .i64 ps']] _ _
   simp only [sameE]
   have ne:∀ {a b:Int},¬ (a==b)=true→(a != b)=true:=fun h=>by unfold bne;simpa using h
   have eq:∀ {a b:Int},(a==b)=true→(a != b)=false:=fun h=>by unfold bne;rw [h];rfl
   by_cases h1:(k==k')=true
   · by_cases h2 : (o == o') = true
     · by_cases h3 : (wd == wd') = true
       · have hd : (nm.toList == nm'.toList) = (nm.data.toList == nm'.data.toList) := by rw [Lib.toList_data, Lib.toList_data]
         by_cases h4:(nm.data.toList==nm'.data.toList)=true
         · rw [h1, h2, h3, h4]
           simp only [Bool.true_and]
           exact rsame_yes w (eq h1) (eq h2) (eq h3) (by unfold bne;rw [hd,h4];rfl) (hd.trans h4) (fun W hb=>r_exprs (fun x hx=>ih x hx) hok.2 hok.1 (exsAt_below hka hb) (exsAt_below hkb hb))
         · have h4' : (nm.data.toList == nm'.data.toList) = false := by simpa using h4
           rw [h4']
           simp only [Bool.and_false,Bool.false_and]
           exact rsame_no3 w (eq h1) (eq h2) (eq h3) (by unfold bne;rw [hd,h4'];rfl) (hd.trans h4')
       · rw [show (wd == wd') = false by simpa using h3]
         simp only [Bool.and_false,Bool.false_and]
         exact rsame_no2 w (eq h1) (eq h2) (ne h3)
     · rw [show (o == o') = false by simpa using h2]
       simp only [Bool.and_false,Bool.false_and]
       exact rsame_no1 w (eq h1) (ne h2)
   · rw [show (k == k') = false by simpa using h1]
     simp only [Bool.false_and]
     exact rsame_no0 w (ne h1)
open Go.RowKit
set_option linter.unusedVariables false
structure Sr where
 ts:List Tk
 pos:Int
 rule:Int
section
variable (L:Int)
end
open Go.RowKit
set_option linter.unusedVariables false
theorem row3 {w:World} {g:Nat} {T:TypeId} {a b c:Value} (h:Own w g T #[a,b,c]) :
 (w.cell? ⟨g,0,none⟩=some a∧w.cell? ⟨g,1,none⟩=some b∧w.cell? ⟨g,2,none⟩=some c)∧(w.frozen? ⟨g,0,none⟩=false∧w.frozen? ⟨g,1,none⟩=false∧w.frozen? ⟨g,2,none⟩=false) :=
 ⟨⟨cell_of_row w g 0 _ _ _ h,cell_of_row w g 1 _ _ _ h,cell_of_row w g 2 _ _ _ h⟩,frozen_of_row w g 0 _ _ h,frozen_of_row w g 1 _ _ h,frozen_of_row w g 2 _ _ h⟩
open Go.RowKit
set_option linter.unusedVariables false
def TwoAt (B:Nat) (w:World) (T:TypeId) (r1 r2:Array Value) (u v:Value) (w':World):Prop:=∃ g h,u=.pointer (some ⟨g,0,none⟩)∧v=.pointer (some ⟨h,0,none⟩)∧Own w' g T r1∧Own w' h T r2∧B≤g∧B≤h∧Below B w w'
theorem twoAt_1 {w wr:World} {T:TypeId} {r1 r2:Array Value} (hb:Below w.heap.size w wr):TwoAt w.heap.size w T r1 r2 (.pointer (some ⟨wr.heap.size,0,none⟩)) (.pointer (some ⟨wr.heap.size+1,0,none⟩)) ((wr.alloc (.cells r1 T)).alloc (.cells r2 T)).drew:=by
 have h2:=Own.new (wr.alloc (.cells r1 T)) T r2
 rw [World.size_alloc] at h2
 have hs:=hb.size
 exact ⟨_,_,rfl,rfl,((Own.new wr T r1).alloc (.cells r2 T)).drewN 1,h2.drewN 1,hs,by omega,below_drewN (((hb.alloc hs _)).alloc (by rw [World.size_alloc];omega) _) 1⟩
theorem twoAt_2 {w wr:World} {T:TypeId} {r1 r2:Array Value} (hb:Below w.heap.size w wr):TwoAt w.heap.size w T r1 r2 (.pointer (some ⟨wr.heap.size+1,0,none⟩)) (.pointer (some ⟨wr.heap.size,0,none⟩)) ((wr.alloc (.cells r2 T)).alloc (.cells r1 T)).drew:=by
 have h2:=Own.new (wr.alloc (.cells r2 T)) T r1
 rw [World.size_alloc] at h2
 have hs:=hb.size
 exact ⟨_,_,rfl,rfl,h2.drewN 1,((Own.new wr T r2).alloc (.cells r1 T)).drewN 1,by omega,hs,below_drewN (((hb.alloc hs _)).alloc (by rw [World.size_alloc];omega) _) 1⟩
open Go.RowKit
set_option linter.unusedVariables false
def Bx (w:World) (T:TypeId) (r z:Array Value) (W:World):Prop:=Own W w.heap.size T r∧Own W (w.heap.size+1) T z∧Below w.heap.size w W
section
variable {w W W':World} {T:TypeId} {r z:Array Value}
end
def K1 (w:World) (a b:ByteArray) (r z:Array Value) (W:World):Prop:=W.cell? ⟨w.heap.size,1,none⟩=some (.string a)∧W.cell? ⟨w.heap.size,2,none⟩=some (.string b)∧W.frozen? ⟨w.heap.size,1,none⟩=false∧W.frozen? ⟨w.heap.size,2,none⟩=false∧Bx w 57 r z W
section
variable {w W W':World} {k:Int} {nm ot:ByteArray} {v3 v4 v5 v6:Value} {z:Array Value}
end
section
variable {w W W':World} {r z:Array Value} {es:List Ex} {bo el:List St} {a3 a4 a5:Option Addr}
end
section
variable {w W W':World} {v0 v1 v2:Value}
end
open Go.RowKit Go.ChangeShapes Go.WideShapes
set_option linter.unusedVariables false
set_option maxRecDepth 100000
mutual
def bkE:Ex→Nat | .mk _ _ _ n ks _=>n.size+bkEs ks+1
def bkEs:List Ex→Nat | []=>0 | x::r=>bkE x+bkEs r
end
mutual
def bkS:St→Nat | .mk _ n o e b l _=>n.size+o.size+bkEs e+bkSs b+bkSs l+1
def bkSs:List St→Nat | []=>0 | x::r=>bkS x+bkSs r
end
def bkD (d:Dc):Nat:=d.name.size+1
def bkDs:List Dc→Nat | []=>0 | x::r=>bkD x+bkDs r
def bkT (t:Th):Nat:=t.name.size+bkDs t.locals+bkSs t.body+1
def bkTs:List Th→Nat | []=>0 | x::r=>bkT x+bkTs r
def bkP (p:Pg):Nat:=bkDs p.shared+bkDs p.locks+bkTs p.threads
def sumL {α:Type} (mu:α→Nat):List α→Nat | []=>0 | x::r=>mu x+sumL mu r
theorem sumE:∀ l,sumL bkE l=bkEs l | []=>rfl | x::r=>by simp [sumL,bkEs,sumE r]
theorem sumS:∀ l,sumL bkS l=bkSs l | []=>rfl | x::r=>by simp [sumL,bkSs,sumS r]
theorem sumD:∀ l,sumL bkD l=bkDs l | []=>rfl | x::r=>by simp [sumL,bkDs,sumD r]
theorem sumT:∀ l,sumL bkT l=bkTs l | []=>rfl | x::r=>by simp [sumL,bkTs,sumT r]
theorem sum_len {α:Type} {mu:α→Nat} (h:∀ x,1≤mu x):∀ l,l.length≤sumL mu l
 | []=>Nat.zero_le _
 | x::r=>by have:=h x;have:=sum_len h r;simp only [sumL,List.length_cons];omega
section
variable {H:Type}
theorem sum_le {α:Type} {mu:α→Nat} : ∀ (l:List α) (es:List (DataW H × List MemPlace)),l.length=es.length→(∀ (i:Nat) (x:α) (e:DataW H × List MemPlace),l[i]? = some x→es[i]? = some e→mu x≤Rows.uptoBulk e.1)→sumL mu l≤Rows.uptoBulkAll (es.map (·.1))
 | [],_,_,_=>Nat.zero_le _
 | x::r,[],h,_=>by simp at h
 | x :: r, e :: q, h, hm => by
   have h1:=hm 0 x e rfl rfl
   have h2:=sum_le r q (by simpa using h) fun i y f hy hf=>hm (i+1) y f (by simpa using hy) (by simpa using hf)
   simp only [sumL,List.map_cons,Rows.uptoBulkAll]
   omega
end
section
variable {H:Type} {enc:TypeId × Value→H} {W:World} {sp:Nat→Bool} {held:Bool}
theorem open_fieldsM {T:TypeId} {fs:Array Go.Field} (ht:Tryz.prog.underlying T=some (.struct fs)) {ks:List (Nat × Nat × Option TypeDesc)} (hk:fs.toList.map (fun f:Go.Field=>(f.offset,Tryz.prog.cellsOf f.type,Tryz.prog.underlying f.type))=ks)
 (h1:ks.map (fun u=>(u.1,u.2.1))=(List.range ks.length).map (fun i=>(i,1))) (hc:Tryz.prog.cellsOf T=ks.length) {n:Nat} {cs:List Value} {y:DataW H × List MemPlace} (h:DataW.trod enc Tryz.prog W 0 sp held n T cs=some y) :
 ∃ (m:Nat) (ys:List (DataW H × List MemPlace)),n=m+1∧cs.length=ks.length∧ys.length=ks.length∧y.1=.agg (ys.map (·.1))∧∀ (i:Nat) (k:Nat × Nat × Option TypeDesc),ks[i]? = some k→∃ v t z,cs[i]? = some v∧ys[i]? = some z∧Tryz.prog.underlying t=k.2.2∧DataW.trod enc Tryz.prog W 0 sp held m t [v]=some z:=by
 obtain ⟨ys,m,hn,hy0,hl,hyl,hf⟩:=DataW.trod_struct ht h
 rw [hc] at hl
 refine ⟨m,ys,hn,hl,by rw [hyl,← hk,List.length_map];simp,by rw [hy0],fun i k hi=>?_⟩
 have hks:ks[i]? = (fs[i]?).map (fun f:Go.Field=>(f.offset,Tryz.prog.cellsOf f.type,Tryz.prog.underlying f.type)):=by
  rw [← hk,List.getElem?_map,Array.getElem?_toList]
 rw [hi] at hks
 cases hfi:fs[i]? with
 | none=>rw [hfi] at hks;cases hks
 | some f =>
   rw [hfi] at hks
   obtain rfl:k=(f.offset,Tryz.prog.cellsOf f.type,Tryz.prog.underlying f.type):=by simpa using hks
   have hlt:i<ks.length:=(List.getElem?_eq_some_iff.1 hi).1
   have e1:(ks.map (fun u=>(u.1,u.2.1)))[i]? = some (f.offset,Tryz.prog.cellsOf f.type):=by rw [List.getElem?_map,hi];rfl
   rw [h1,List.getElem?_map,List.getElem?_range hlt] at e1
   obtain ⟨eo,ec⟩:i=f.offset∧1=Tryz.prog.cellsOf f.type:=by simpa using e1
   have hg:=hf i f hfi
   rw [← eo,← ec] at hg
   have hci:i<cs.length:=by omega
   rw [List.drop_eq_getElem_cons hci,List.take_succ_cons,List.take_zero] at hg
   have hyi:i<ys.length:=by rw [hyl];exact (Array.getElem?_eq_some_iff.1 hfi).1
   rw [List.getElem?_eq_getElem hyi] at hg
   exact ⟨cs[i],f.type,ys[i],List.getElem?_eq_getElem hci,List.getElem?_eq_getElem hyi,rfl,hg⟩
theorem one_stringM {t:TypeId} {n:Nat} {v:Value} {z:DataW H × List MemPlace} (ht:Tryz.prog.underlying t=some .string) (h:DataW.trod enc Tryz.prog W 0 sp held n t [v]=some z):∃ x,v=.string x∧x.size+1≤Rows.uptoBulk z.1:=by
 obtain ⟨x,hx,hz,_⟩:=DataW.trod_string ht h
 exact ⟨x,by simpa using hx,by subst hz;simp [Rows.uptoBulk]⟩
theorem open_listM {T e:TypeId} (ht:Tryz.prog.underlying T=some (.slice e)) {m:Nat} (hm:Tryz.prog.cellsOf e=m) (h0:0<m) {α:Type} (El:α→List Value→Prop) (mu:α→Nat) {n:Nat} {v:Value} {z:DataW H × List MemPlace} (h:DataW.trod enc Tryz.prog W 0 sp held n T [v]=some z)
 (hel:∀ k cs y,k<n→DataW.trod enc Tryz.prog W 0 sp held k e cs=some y→∃ x:α,El x cs∧mu x≤Rows.uptoBulk y.1) :
 ∃ (l:List α) (a:Option Addr) (cap:Nat),v=.slice a l.length cap∧l.length≤9223372036854775807∧sumL mu l≤Rows.uptoBulk z.1∧(l=[]∨∃ g q,a=some ⟨g,q,none⟩∧∀ i x,l[i]? = some x→∃ cs,El x cs∧cellsIn W g (q+i*m) cs):=by
 rcases DataW.trod_slice ht h with ⟨hcs,_⟩ | ⟨a,len,cap,elems,rest,k,hk,hcs,hz0,_,hle,hcap,hlen,hes,_⟩
 · exact ⟨[],none,0,by simpa using hcs,by simp,by simp [sumL],.inl rfl⟩
 · obtain rfl : v = .slice (some a) len cap := by simpa using hcs
   have hml:maxLen≤9223372036854775807:=by unfold maxLen;decide
   have each:∀ i,i<len→∃ x:α,∃ cs,(El x cs∧∀ e,elems[i]? = some e→mu x≤Rows.uptoBulk e.1)∧a.spot=none∧cellsIn W a.block (a.off+i*m) cs:=by
    intro i hi
    have h1:=hes i hi
    rw [List.getElem?_eq_getElem (by omega),hm,Option.bind_eq_some_iff] at h1
    obtain ⟨cs,h2,h3⟩:=h1
    obtain ⟨x,hx⟩:=hel k cs _ (by omega) h3
    obtain ⟨_,hl,hc⟩:=World.cells?_some h2
    have hsp:a.spot=none:=by
     have h1:=hes 0 (by omega)
     rw [List.getElem?_eq_getElem (by omega),hm,Option.bind_eq_some_iff] at h1
     obtain ⟨cs0,h20,h30⟩:=h1
     obtain ⟨_,_,hc⟩:=World.cells?_some h20
     have h00:=hc 0 (by omega)
     have hl0:cs0.length=m:=(World.cells?_some h20).2.1
     rw [List.getElem?_eq_getElem (by omega)] at h00
     have:=World.cell?_spot h00
     simpa [Addr.add] using this
    obtain ⟨g,off,spot⟩:=a
    simp only at hsp
    subst hsp
    refine ⟨x,cs,⟨hx.1,fun e he=>?_⟩,rfl,fun j u hj=>?_⟩
    · rw [List.getElem?_eq_getElem (by omega)] at he;obtain rfl:=Option.some.inj he;exact hx.2
    have hjm:j<cs.length:=(List.getElem?_eq_some_iff.1 hj).1
    have:=hc j (by omega)
    rw [add_off,add_off] at this
    show W.cell? ⟨g,off+i*m+j,none⟩=some u
    rw [this];exact hj
   refine ⟨(List.range len).attach.map fun i=>(each i.1 (List.mem_range.1 i.2)).choose,some a,cap,by simp,by simp;omega,?_,?_⟩
   · rw [hz0]
     refine Nat.le_trans (sum_le _ elems (by simp [hlen]) fun i x e hx he=>?_) (by simp only [Rows.uptoBulk];omega)
     rw [List.getElem?_map] at hx
     obtain ⟨⟨i',hi'⟩,h1,rfl⟩:=Option.map_eq_some_iff.1 hx
     have e2:i'=i:=by
      obtain ⟨hb,hb2⟩:=List.getElem?_eq_some_iff.1 h1
      simp at hb2
      exact hb2.symm
     subst e2
     obtain ⟨cs,k1,_,k2⟩:=(each i' (List.mem_range.1 hi')).choose_spec
     exact k1.2 e he
   · by_cases hz : len = 0
     · left;subst hz;rfl
     · right
       obtain ⟨_,_,_,hsp,_⟩:=each 0 (by omega)
       refine ⟨a.block,a.off,by obtain ⟨g,off,spot⟩:=a;simp only at hsp;subst hsp;rfl,fun i x hx=>?_⟩
       rw [List.getElem?_map] at hx
       obtain ⟨⟨i',hi'⟩,h1,rfl⟩:=Option.map_eq_some_iff.1 hx
       have hil:i<len:=by
        have:=(List.getElem?_eq_some_iff.1 h1).1
        simpa using this
       have e:i'=i:=by
        have:=(List.getElem?_eq_some_iff.1 h1)
        obtain ⟨hb,hb2⟩:=this
        simp at hb2
        exact hb2.symm
       subst e
       obtain ⟨cs,k1,_,k2⟩:=(each i' (List.mem_range.1 hi')).choose_spec
       exact ⟨cs,k1.1,k2⟩
end
open Go.ChangeShapes Go.WideShapes Go.ChangeAt Go.WideMaps Go.WideElems Go.RowKit
set_option linter.unusedVariables false
theorem i64_bd {x:Int} (h:(Lit.int .i64 x).wf=true) : -9223372036854775808≤x∧x≤9223372036854775807:=by
 simp [Lit.wf,IntKind.min,IntKind.max,IntKind.signed,IntKind.bits] at h;omega
theorem u8_bd {x:Int} (h:(Lit.int .u8 x).wf=true):0≤x∧x≤255:=by
 simp [Lit.wf,IntKind.min,IntKind.max,IntKind.signed,IntKind.bits] at h;omega
open Go.ChangeShapes Go.WideShapes Go.ChangeAt Go.WideMaps Go.WideElems Go.RowKit
set_option linter.unusedVariables false
section
variable {H:Type} {enc:TypeId × Value→H} {W:World} {sp:Nat→Bool} {held:Bool}
theorem open_shape {n:Nat} {cs:List Value} {y:DataW H × List MemPlace} (h:DataW.trod enc Tryz.prog W 0 sp held n 163 cs=some y) :
 ∃ a b c d e,cs=[.bool a,.bool b,.int .i64 c,.bool d,.bool e]∧y.1=.agg [.lit (.bool a),.lit (.bool b),.lit (.int .i64 c),.lit (.bool d),.lit (.bool e)]:=by
 obtain ⟨m,ys,_,hl,hyl,hy,hf⟩:=open_fieldsM (ks:=[(0,1,some .bool),(1,1,some .bool),(2,1,some (.int .i64)),(3,1,some .bool),(4,1,some .bool)]) Tryz.underlying163 (by kernel_rfl) (by decide) (by kernel_rfl) h
 obtain ⟨v0,t0,z0,a0,b0,u0,w0⟩:=hf 0 _ rfl
 obtain ⟨v1,t1,z1,a1,b1,u1,w1⟩:=hf 1 _ rfl
 obtain ⟨v2,t2,z2,a2,b2,u2,w2⟩:=hf 2 _ rfl
 obtain ⟨v3,t3,z3,a3,b3,u3,w3⟩:=hf 3 _ rfl
 obtain ⟨v4,t4,z4,a4,b4,u4,w4⟩:=hf 4 _ rfl
 obtain ⟨x0,e0,f0⟩:=DataW.trod_bool u0 w0
 obtain ⟨x1,e1,f1⟩:=DataW.trod_bool u1 w1
 obtain ⟨x2,e2,f2,_⟩:=DataW.trod_int u2 w2
 obtain ⟨x3,e3,f3⟩:=DataW.trod_bool u3 w3
 obtain ⟨x4,e4,f4⟩:=DataW.trod_bool u4 w4
 obtain rfl:=(List.cons.inj e0).1
 obtain rfl:=(List.cons.inj e1).1
 obtain rfl:=(List.cons.inj e2).1
 obtain rfl:=(List.cons.inj e3).1
 obtain rfl:=(List.cons.inj e4).1
 refine ⟨x0,x1,x2,x3,x4,?_,?_⟩
 · match cs, hl, a0, a1, a2, a3, a4 with
   | [p, q, r, s, t], _, a0, a1, a2, a3, a4 =>
     simp at a0 a1 a2 a3 a4
     simp [a0,a1,a2,a3,a4]
 · rw [hy]
   match ys,hyl,b0,b1,b2,b3,b4 with
   | [p, q, r, s, t], _, b0, b1, b2, b3, b4 =>
     simp at b0 b1 b2 b3 b4
     simp [b0,b1,b2,b3,b4,f0,f1,f2,f3,f4]
end
theorem gSh:Tryz.prog.globalNamed "stile/pretty.shapes" = some 1:=by kernel_rfl
theorem tSh:(Tryz.prog.globals[1]?).map (·.type)=some 164:=by kernel_rfl
theorem tPow4:(Tryz.prog.globals[4]?).map (·.type)=some 225:=by kernel_rfl
theorem cellsSh:Tryz.prog.cellsOf 163=5:=by kernel_rfl
theorem ptab_of_vars {W:World} {L:List (String × DataW Unit)} {ps:List MemPlace} (h:DataW.LaidVars Tryz.prog W L ps) (h1:("stile/pretty.shapes",Rows.laid_stile_pretty_shapes)∈L):PTab W:=by
 obtain ⟨c1,f1,p1,v1,d1⟩:=laid_var gSh tSh h h1
 obtain ⟨xs,m,_,hx,hl,hxl,hf⟩:=DataW.trod_array Tryz.underlying164 d1
 have hfst:=(congrArg Prod.fst hx).symm
 simp only at hfst
 unfold Rows.laid_stile_pretty_shapes at hfst
 have hfst:=DataW.agg.inj hfst
 rw [cellsSh] at hf
 have each:∀ (i:Nat) (a b d e:Bool) (c:Int),i<8→(xs.map (·.1))[i]? = some (DataW.agg [.lit (.bool a),.lit (.bool b),.lit (.int .i64 c),.lit (.bool d),.lit (.bool e)]) →
  W.cell? ⟨1,i*5,none⟩=some (.bool a)∧W.cell? ⟨1,i*5+1,none⟩=some (.bool b)∧W.cell? ⟨1,i*5+2,none⟩=some (.int .i64 c)∧W.cell? ⟨1,i*5+3,none⟩=some (.bool d)∧W.cell? ⟨1,i*5+4,none⟩=some (.bool e):=by
  intro i a b d e c hi hs
  have hxi:i<xs.length:=by omega
  have h3:=hf i hi
  rw [List.getElem?_eq_getElem hxi] at h3
  obtain ⟨a',b',c',d',e',hc,hy⟩:=open_shape h3
  rw [List.getElem?_map,List.getElem?_eq_getElem hxi,Option.map_some,hy] at hs
  simp at hs
  obtain ⟨rfl,rfl,rfl,rfl,rfl⟩:=hs
  have at5:∀ (j:Nat) (v:Value),[Value.bool a',.bool b',.int .i64 c',.bool d',.bool e'][j]? = some v→W.cell? ⟨1,i*5+j,none⟩=some v:=by
   intro j v hv
   have hj:j<5:=(List.getElem?_eq_some_iff.1 hv).1
   rw [World.var?_cell gSh v1 (i*5+j),← Array.getElem?_toList]
   rw [← hc,List.getElem?_take,if_pos hj,List.getElem?_drop] at hv
   exact hv
  exact ⟨at5 0 _ rfl,at5 1 _ rfl,at5 2 _ rfl,at5 3 _ rfl,at5 4 _ rfl⟩
 rw [hfst] at each
 have hz:=(each 0 false false false false 0 (by omega) rfl).1
 refine ⟨by have:=lt_of_at hz;exact this,fun k h0 h8=>?_⟩
 have hk:k=0∨k=1∨k=2∨k=3∨k=4∨k=5∨k=6∨k=7:=by omega
 rcases hk with rfl | rfl | rfl | rfl | rfl | rfl | rfl | rfl
 · exact each 0 _ _ _ _ _ (by omega) rfl
 · exact each 1 _ _ _ _ _ (by omega) rfl
 · exact each 2 _ _ _ _ _ (by omega) rfl
 · exact each 3 _ _ _ _ _ (by omega) rfl
 · exact each 4 _ _ _ _ _ (by omega) rfl
 · exact each 5 _ _ _ _ _ (by omega) rfl
 · exact each 6 _ _ _ _ _ (by omega) rfl
 · exact each 7 _ _ _ _ _ (by omega) rfl
theorem wtb_of_vars {W:World} {L:List (String × DataW Unit)} {ps:List MemPlace} (h:DataW.LaidVars Tryz.prog W L ps) (h1:("stile/pretty.shapes",Rows.laid_stile_pretty_shapes)∈L) (h2:("internal/strconv.uint64pow10",Rows.laid_internal_strconv_uint64pow10)∈L) (h3:LTabs W∧Tabs W):WTb W:=by
 obtain ⟨c2,f2,p2,v2,d2⟩:=laid_var gPow tPow4 h h2
 have e2:=Lib.cells_of_tab (k:=.u64) (zs:=Lib.pow10Tab) Tryz.underlying225 Tryz.underlying204 (by kernel_rfl) (by kernel_rfl) d2
 have i2:=lt_of_at (v:=.int .u64 1) (by rw [World.var?_cell gPow v2 0,← Array.getElem?_toList,e2];rfl)
 refine ⟨⟨h3,ptab_of_vars h h1⟩,?_,i2⟩
 unfold Lib.TabIs
 rw [v2,← e2]
end Go.Proofs.YtggbkldniffbfaaGreatDoor

/- The proof, part 16: texts that belong together, in one. -/
import Derived.Test.YtieeaehabjjaoaaGreatDoorHAO
import Derived.Test.YtieeaehabjjaoaaGreatDoorHAC
import Derived.ChangeArms
import Derived.SizedLaws
import Derived.Carry
import Derived.ChangeSame
import Derived.WideShapes
import Derived.Deep.QuietTactic
import Derived.BigQuiet
import Derived.Deep.Draws
import Derived.StillTailTactics
import Derived.Deep.LoopGhost
import Derived.Test.YtieeaehabjjaoaaGreatDoorHAB
import Derived.Deep.RegionWith
set_option maxRecDepth 100000
set_option maxHeartbeats 20000000
namespace Go.Proofs.YtieeaehabjjaoaaGreatDoor
open Go.RowKit
set_option linter.unusedVariables false
set_option maxRecDepth 100000
def mkY (ok:Bool) (t:List UInt8):Sum (List UInt8) Int:=bif ok then (if t.length≤65536 then .inl t else .inr 4) else .inr 40
def PrOk (x:Pg):Prop:=okP x∧rgP x∧rgD x.shared∧lenP x
theorem mk_Print {pb:Nat} {w:World} {bx:Array Value} {rr:Bool} {tt:List UInt8} (O:Own w pb 25 bx) (hsz:bx.size=3) (hnd:∀ W,Below w.heap.size w W→Calls Tryz.prog 19 #[.agg bx] W (NdP W rr)) (hmk:rr=true→∀ W,Below w.heap.size w W→Calls Tryz.prog 20 #[.agg bx] W (TxP W tt)) :
 Calls Tryz.prog 18 #[.pointer (some ⟨pb,0,none⟩)] w (MkP w (mkY rr tt)):=by
 have HN:=Lib.hid hnd
 have HM:=Lib.hid hmk
 have HO:=Lib.hid O
 have H3:=Lib.hid hsz
 clear hnd hmk
 go_enter Tryz.func18,Tryz.ntmps18
 go_wp2_with (refine ld rowPg rfl rfl rfl O hsz ?_)
 go_at_call 19
 refine (HN.out _ (Below.refl _ w)).mono ?_
 rintro e w2 hh
 rcases hh.cases with ⟨hx,rfl,hb⟩ | ⟨hx,rfl,hb⟩
 rotate_left
 · go_wp2_with fail
   exact ⟨rfl,hb,by subst hx;rfl⟩
 replace HM:=Lib.hid (HM.out hx _ hb)
 subst hx
 have HB:=Lib.hid hb
 have O2:=HO.out.below hb
 clear hb hh O
 go_wp2_with (refine ld rowPg rfl rfl rfl O2 hsz ?_)
 go_at_call 20
 refine HM.out.mono ?_
 rintro e w3 ⟨hb,⟨ht,rfl⟩ | ⟨ht,rfl⟩⟩
 · have hY : MkP w (mkY true tt) (.returned (.string ⟨tt.toArray⟩)) w3 := ⟨HB.out.trans (hb.mono HB.out.size), by unfold mkY; rw [cond_true, if_pos ht]⟩
   have HY:=Lib.hid hY
   clear hY hb
   go_wp2_with fail
   go_ret
   exact HY.out
 · have hY : MkP w (mkY true tt) (.panicked (errP 4)) w3 := ⟨HB.out.trans (hb.mono HB.out.size), by unfold mkY; rw [cond_true, if_neg (by omega)]⟩
   go_wp2_with fail
   exact ⟨rfl,hY⟩
theorem mk_Expr {pb:Nat} {w:World} {bx:Array Value} {rr:Bool} {tt:List UInt8} (O:Own w pb 59 bx) (hsz:bx.size=6) (hnd:∀ W,Below w.heap.size w W→Calls Tryz.prog 57 #[.agg bx,.int .i64 0] W (NdP W rr)) (hmk:rr=true→∀ W,Below w.heap.size w W→Calls Tryz.prog 58 #[.agg bx] W (TxP W tt)) :
 Calls Tryz.prog 56 #[.pointer (some ⟨pb,0,none⟩)] w (MkP w (mkY rr tt)):=by
 have HN:=Lib.hid hnd
 have HM:=Lib.hid hmk
 have HO:=Lib.hid O
 have H6:=Lib.hid hsz
 clear hnd hmk
 go_enter Tryz.func56,Tryz.ntmps56
 go_wp2_with (refine ld rowEx rfl rfl rfl O hsz ?_)
 go_at_call 57
 refine (HN.out _ (Below.refl _ w)).mono ?_
 rintro e w2 hh
 rcases hh.cases with ⟨hx,rfl,hb⟩ | ⟨hx,rfl,hb⟩
 rotate_left
 · go_wp2_with fail
   exact ⟨rfl,hb,by subst hx;rfl⟩
 replace HM:=Lib.hid (HM.out hx _ hb)
 subst hx
 have HB:=Lib.hid hb
 have O2:=HO.out.below hb
 clear hb hh O
 go_wp2_with (refine ld rowEx rfl rfl rfl O2 hsz ?_)
 go_at_call 58
 refine HM.out.mono ?_
 rintro e w3 ⟨hb,⟨ht,rfl⟩ | ⟨ht,rfl⟩⟩
 · have hY : MkP w (mkY true tt) (.returned (.string ⟨tt.toArray⟩)) w3 := ⟨HB.out.trans (hb.mono HB.out.size), by unfold mkY; rw [cond_true, if_pos ht]⟩
   have HY:=Lib.hid hY
   clear hY hb
   go_wp2_with fail
   go_ret
   exact HY.out
 · have hY : MkP w (mkY true tt) (.panicked (errP 4)) w3 := ⟨HB.out.trans (hb.mono HB.out.size), by unfold mkY; rw [cond_true, if_neg (by omega)]⟩
   go_wp2_with fail
   exact ⟨rfl,hY⟩
theorem p_Print {x:Pg} {v:Value} {w:World} (H:PrOk x) (hv:pA w x v) (TT:WTb w):Calls Tryz.prog 6 #[v] w (AttP w (mkY (rP x) (tP x))):=by
 obtain ⟨a1,c1,a2,c2,a3,c3,rfl,h1,h2,h3⟩:=hv
 obtain ⟨H1,H2,H3,H4⟩:=H
 have hpa:∀ W,Below w.heap.size w W→pA W x (.agg #[.slice a1 x.shared.length c1,.slice a2 x.locks.length c2,.slice a3 x.threads.length c3]):=fun W hb=>pA_below ⟨a1,c1,a2,c2,a3,c3,rfl,h1,h2,h3⟩ hb
 obtain ⟨n1,hn1⟩:∃ n,n=x.shared.length:=⟨_,rfl⟩
 obtain ⟨n2,hn2⟩:∃ n,n=x.locks.length:=⟨_,rfl⟩
 obtain ⟨n3,hn3⟩:∃ n,n=x.threads.length:=⟨_,rfl⟩
 rw [← hn1,← hn2,← hn3] at hpa ⊢
 have hat:∀ pb W,Below w.heap.size w W→Own W pb 25 #[.slice a1 n1 c1,.slice a2 n2 c2,.slice a3 n3 c3]→Calls Tryz.prog 17 #[.func (.func 18) #[] #[.pointer (some ⟨pb,0,none⟩)]] W (AttP W (mkY (rP x) (tP x))):=fun pb W hb O=>p_att_print fun W' hb'=>by
  have hb2:=hb.trans (hb'.mono hb.size)
  exact mk_Print (O.below hb') rfl (fun W2 hb3=>p_needProgram x H1 H2 _ W2 (hpa _ (hb2.trans (hb3.mono hb2.size))) (TT.below (hb2.trans (hb3.mono hb2.size))).pt) (fun hr W2 hb3=>p_program' x H1 H2 hr H3 H4 (hpa _ (hb2.trans (hb3.mono hb2.size))) (TT.below (hb2.trans (hb3.mono hb2.size))))
 generalize mkY (rP x) (tP x)=Y at hat
 have HA:=Lib.hid hat
 clear hat hpa hn1 hn2 hn3 h1 h2 h3 H1 H2 H3 H4 TT
 have B0:Below w.heap.size w (w.alloc (.cells #[.slice a1 n1 c1,.slice a2 n2 c2,.slice a3 n3 c3] 25)):=(Below.refl _ w).alloc (Nat.le_refl _) _
 have O0:=Own.new w 25 #[.slice a1 n1 c1,.slice a2 n2 c2,.slice a3 n3 c3]
 have hmf:∀ (fn:Fn) (first cap:Array Value) (w:World),(Instr.makeFunc fn first cap).run Tryz.prog w=.ok (.func fn first cap) w:=fun _ _ _ _=>rfl
 go_enter Tryz.func6,Tryz.ntmps6
 go_wp2_with fail
 go_at_call 17
 refine (HA.out _ _ B0 O0).mono ?_
 rintro e w2 ⟨hb,rfl⟩
 have HB:=Lib.hid (B0.trans (hb.mono B0.size))
 clear hb
 cases Y with
 | inl t =>
   go_wp2_with fail
   exact bodyPost_ret (results_tmp2 rfl _ _ _) rfl ⟨HB.out,rfl⟩
 | inr n =>
   go_wp2_with fail
   exact bodyPost_ret (results_tmp2 rfl _ _ _) rfl ⟨HB.out,rfl⟩
theorem p_Expr4 {x:Ex} {v:Value} {w:World} (H:rgE x) (hv:exA w x v) (TT:WTb w):Calls Tryz.prog 28 #[v] w (AttP w (mkY (rE x 0) (tE x))):=by
 obtain ⟨a,c,rfl,h1⟩:=hv
 obtain ⟨k,o,wd,nm,ks,ps⟩:=x
 have hpa:∀ W,Below w.heap.size w W→exA W (.mk k o wd nm ks ps) (.agg #[.int .u8 k,.int .u8 o,.int .i64 wd,.string nm,.slice a ks.length c,.int .i64 ps]):=fun W hb=>⟨a,c,rfl,exsAt_below h1 hb⟩
 change Calls _ _ #[.agg #[.int .u8 k,.int .u8 o,.int .i64 wd,.string nm,.slice a ks.length c,.int .i64 ps]] w _
 obtain ⟨n,hn⟩:∃ n,n=ks.length:=⟨_,rfl⟩
 rw [← hn] at hpa ⊢
 have hat:∀ pb W,Below w.heap.size w W→Own W pb 59 #[.int .u8 k,.int .u8 o,.int .i64 wd,.string nm,.slice a n c,.int .i64 ps]→Calls Tryz.prog 17 #[.func (.func 56) #[] #[.pointer (some ⟨pb,0,none⟩)]] W (AttP W (mkY (rE (.mk k o wd nm ks ps) 0) (tE (.mk k o wd nm ks ps)))):=fun pb W hb O=>p_att_expr fun W' hb'=>by
  have hb2:=hb.trans (hb'.mono hb.size)
  exact mk_Expr (O.below hb') rfl (fun W2 hb3=>needExpr_any _ H _ W2 0 (hpa _ (hb2.trans (hb3.mono hb2.size))) (TT.below (hb2.trans (hb3.mono hb2.size))).pt.1 (by omega) (by omega)) (fun hr W2 hb3=>p_wexpression _ 0 hr H (hpa _ (hb2.trans (hb3.mono hb2.size))) (TT.below (hb2.trans (hb3.mono hb2.size))))
 generalize mkY (rE (.mk k o wd nm ks ps) 0) (tE (.mk k o wd nm ks ps))=Y at hat
 have HA:=Lib.hid hat
 clear hat hpa hn h1 H TT
 have B0:Below w.heap.size w (w.alloc (.cells #[.int .u8 k,.int .u8 o,.int .i64 wd,.string nm,.slice a n c,.int .i64 ps] 59)):=(Below.refl _ w).alloc (Nat.le_refl _) _
 have O0:=Own.new w 59 #[.int .u8 k,.int .u8 o,.int .i64 wd,.string nm,.slice a n c,.int .i64 ps]
 have hmf:∀ (fn:Fn) (first cap:Array Value) (w:World),(Instr.makeFunc fn first cap).run Tryz.prog w=.ok (.func fn first cap) w:=fun _ _ _ _=>rfl
 go_enter Tryz.func28,Tryz.ntmps28
 go_wp2_with fail
 go_at_call 17
 refine (HA.out _ _ B0 O0).mono ?_
 rintro e w2 ⟨hb,rfl⟩
 have HB:=Lib.hid (B0.trans (hb.mono B0.size))
 clear hb
 cases Y with
 | inl t =>
   go_wp2_with fail
   exact bodyPost_ret (results_tmp2 rfl _ _ _) rfl ⟨HB.out,rfl⟩
 | inr n =>
   go_wp2_with fail
   exact bodyPost_ret (results_tmp2 rfl _ _ _) rfl ⟨HB.out,rfl⟩
theorem p_Check {x:Pg} {v:Value} {w:World} (H:PrOk x) (hv:pA w x v) (TT:WTb w):Calls Tryz.prog 8 #[v] w fun e w'=>e=.returned (.int .i64 (match mkY (rP x) (tP x) with | .inl _=>0 | .inr n=>n))∧Below w.heap.size w w':=by
 obtain ⟨a1,c1,a2,c2,a3,c3,rfl,h1,h2,h3⟩:=hv
 have hp:∀ W,Below w.heap.size w W→Calls Tryz.prog 6 #[.agg #[.slice a1 x.shared.length c1,.slice a2 x.locks.length c2,.slice a3 x.threads.length c3]] W (AttP W (mkY (rP x) (tP x))):=fun W hb=>p_Print H (pA_below ⟨a1,c1,a2,c2,a3,c3,rfl,h1,h2,h3⟩ hb) (TT.below hb)
 generalize x.shared.length=n1 at hp
 generalize x.locks.length=n2 at hp
 generalize x.threads.length=n3 at hp
 generalize mkY (rP x) (tP x)=Y at hp
 have HP:=Lib.hid hp
 clear hp h1 h2 h3 TT H
 have B0:Below w.heap.size w (w.alloc (.cells #[.slice a1 n1 c1,.slice a2 n2 c2,.slice a3 n3 c3] 25)):=(Below.refl _ w).alloc (Nat.le_refl _) _
 have O0:=Own.new w 25 #[.slice a1 n1 c1,.slice a2 n2 c2,.slice a3 n3 c3]
 obtain ⟨W0,hW0⟩:∃ W,W=w.alloc (.cells #[.slice a1 n1 c1,.slice a2 n2 c2,.slice a3 n3 c3] 25):=⟨_,rfl⟩
 rw [← hW0] at B0 O0
 have HW0:=Lib.hid hW0
 clear hW0
 go_enter Tryz.func8,Tryz.ntmps8
 go_upto_region 1 with (fail)
 rw [← HW0.out]
 go_wp2_with (refine ld rowPg rfl rfl rfl O0 rfl ?_)
 go_at_call 6
 refine (HP.out _ B0).mono ?_
 rintro e w2 ⟨hb,rfl⟩
 have HB:=Lib.hid (B0.trans (hb.mono B0.size))
 clear hb
 cases Y with
 | inl t =>
   go_wp2_with fail
   go_ret
   exact ⟨rfl,HB.out⟩
 | inr n =>
   go_wp2_with fail
   go_ret
   exact ⟨rfl,HB.out⟩
open Go.RowKit Go.ChangeShapes Go.WideShapes
set_option linter.unusedVariables false
set_option maxRecDepth 100000
section
variable {H:Type} {enc:TypeId × Value→H} {W:World} {sp:Nat→Bool} {held:Bool}
theorem add_off (g off n:Nat):(⟨g,off,none⟩:Addr).add n=⟨g,off+n,none⟩:=by
 by_cases h0:n=0
 · subst h0;rfl
 · simp [Addr.add,h0]
end
theorem dcsIn_all {w:World} {b:Nat} : ∀ (l:List Dc) (q:Nat),(∀ i x,l[i]? = some x→dcIn w x b (q+i*3))→dcsIn w l b q
 | [],q,h=>trivial
 | x::r,q,h=>⟨by have:=h 0 x rfl;simpa using this,dcsIn_all r (q+3) fun i y hy=>by have:=h (i+1) y (by simpa using hy);rw [show q+3+i*3=q+(i+1)*3 by omega];exact this⟩
theorem exsIn_all {R:Nat→Prop} {w:World} {b:Nat} : ∀ (l:List Ex) (q:Nat),(∀ i x,l[i]? = some x→exIn R w x b (q+i*6))→exsIn R w l b q
 | [],q,h=>trivial
 | x::r,q,h=>⟨by have:=h 0 x rfl;simpa using this,exsIn_all r (q+6) fun i y hy=>by have:=h (i+1) y (by simpa using hy);rw [show q+6+i*6=q+(i+1)*6 by omega];exact this⟩
theorem stsIn_all {R:Nat→Prop} {w:World} {b:Nat} : ∀ (l:List St) (q:Nat),(∀ i x,l[i]? = some x→stIn R w x b (q+i*7))→stsIn R w l b q
 | [],q,h=>trivial
 | x::r,q,h=>⟨by have:=h 0 x rfl;simpa using this,stsIn_all r (q+7) fun i y hy=>by have:=h (i+1) y (by simpa using hy);rw [show q+7+i*7=q+(i+1)*7 by omega];exact this⟩
theorem thsIn_all {R:Nat→Prop} {w:World} {b:Nat} : ∀ (l:List Th) (q:Nat),(∀ i x,l[i]? = some x→thIn R w x b (q+i*4))→thsIn R w l b q
 | [],q,h=>trivial
 | x::r,q,h=>⟨by have:=h 0 x rfl;simpa using this,thsIn_all r (q+4) fun i y hy=>by have:=h (i+1) y (by simpa using hy);rw [show q+4+i*4=q+(i+1)*4 by omega];exact this⟩
theorem okEs_all:∀ {l:List Ex},(∀ x∈l,okE x)→okEs l
 | [],_=>trivial
 | x::r,h=>⟨h x (.head _),okEs_all fun y hy=>h y (.tail _ hy)⟩
theorem okSs_all:∀ {l:List St},(∀ x∈l,okS x)→okSs l
 | [],_=>trivial
 | x::r,h=>⟨h x (.head _),okSs_all fun y hy=>h y (.tail _ hy)⟩
theorem fieldsD:∃ fs:Array Go.Field,Tryz.prog.underlying 63=some (.struct fs)∧fs.toList.map (fun f:Go.Field=>(f.offset,Tryz.prog.cellsOf f.type,Tryz.prog.underlying f.type))=[(0,1,some (.string)),(1,1,some (.int .i64)),(2,1,some (.int .i64))]:=⟨_,Tryz.underlying63,by kernel_rfl⟩
theorem cellsD:Tryz.prog.cellsOf 63=3:=by kernel_rfl
theorem fieldsE:∃ fs:Array Go.Field,Tryz.prog.underlying 59=some (.struct fs)∧fs.toList.map (fun f:Go.Field=>(f.offset,Tryz.prog.cellsOf f.type,Tryz.prog.underlying f.type))=[(0,1,some (.int .u8)),(1,1,some (.int .u8)),(2,1,some (.int .i64)),(3,1,some (.string)),(4,1,some (.slice 59)),(5,1,some (.int .i64))]:=⟨_,Tryz.underlying59,by kernel_rfl⟩
theorem cellsE:Tryz.prog.cellsOf 59=6:=by kernel_rfl
theorem fieldsS:∃ fs:Array Go.Field,Tryz.prog.underlying 66=some (.struct fs)∧fs.toList.map (fun f:Go.Field=>(f.offset,Tryz.prog.cellsOf f.type,Tryz.prog.underlying f.type))=[(0,1,some (.int .u8)),(1,1,some (.string)),(2,1,some (.string)),(3,1,some (.slice 59)),(4,1,some (.slice 66)),(5,1,some (.slice 66)),(6,1,some (.int .i64))]:=⟨_,Tryz.underlying66,by kernel_rfl⟩
theorem cellsS:Tryz.prog.cellsOf 66=7:=by kernel_rfl
theorem fieldsT:∃ fs:Array Go.Field,Tryz.prog.underlying 39=some (.struct fs)∧fs.toList.map (fun f:Go.Field=>(f.offset,Tryz.prog.cellsOf f.type,Tryz.prog.underlying f.type))=[(0,1,some (.string)),(1,1,some (.slice 63)),(2,1,some (.slice 66)),(3,1,some (.int .i64))]:=⟨_,Tryz.underlying39,by kernel_rfl⟩
theorem cellsT:Tryz.prog.cellsOf 39=4:=by kernel_rfl
theorem fieldsP:∃ fs:Array Go.Field,Tryz.prog.underlying 25=some (.struct fs)∧fs.toList.map (fun f:Go.Field=>(f.offset,Tryz.prog.cellsOf f.type,Tryz.prog.underlying f.type))=[(0,1,some (.slice 63)),(1,1,some (.slice 63)),(2,1,some (.slice 39))]:=⟨_,Tryz.underlying25,by kernel_rfl⟩
theorem cellsP:Tryz.prog.cellsOf 25=3:=by kernel_rfl
section
variable {H:Type} {enc:TypeId × Value→H} {W:World} {sp:Nat→Bool} {held:Bool}
end
open Go.RowKit
set_option linter.unusedVariables false
def RSameC (e:Ex):Prop:=okE e→∀ (f:Ex) (v u:Value) (w:World),exA w e v→exA w f u→Calls Tryz.prog 133 #[v,u] w fun e' w'=>e'=.returned (.bool (sameE e f))∧Below w.heap.size w w'
theorem r_exprs {l:List Ex} (HI:∀ x∈l,RSameC x) (HO:okEs l) {m:List Ex} {a b:Option Addr} {c1 c2:Nat} {w:World} (hl:l.length≤9223372036854775807) (h1:exsAt (fun _=>True) w l a) (h2:exsAt (fun _=>True) w m b) :
 Calls Tryz.prog 96 #[.slice a l.length c1,.slice b m.length c2] w fun e w'=>e=.returned (.bool (sameEs l m))∧Below w.heap.size w w':=by
 by_cases hne:l.length=m.length
 · obtain ⟨R, hR⟩ : ∃ R, R = sameEs l m := ⟨_, rfl⟩
   rw [← hR]
   have HRR:=Lib.hid hR
   have HI:=Lib.hid HI
   have HO:=Lib.hid HO
   have HL:=Lib.hid hl
   have HLM:=Lib.hid hne
   have E1:=Lib.hid h1
   have E2:=Lib.hid h2
   rw [← hne]
   obtain ⟨n,hn⟩:∃ n,n=l.length:=⟨_,rfl⟩
   rw [← hn]
   have HN:=Lib.hid hn
   have hn6:n≤9223372036854775807:=by omega
   have hnn:((n:Int) != (n:Int))=false:=by simp
   clear hl hne h1 h2 hR hn
   go_enter Tryz.func96,Tryz.ntmps96
   go_wp2_with fail
   go_loopg [13] (n+1) (fun m' u W=>∃ i:Nat,u=.int .i64 (i:Int)∧i≤n∧m'=n-i+1∧sameFrom l m i=R∧Below w.heap.size w W)
   case atStart=>exact ⟨0,rfl,Nat.zero_le _,by omega,HRR.out.symm,Below.refl _ w⟩
   case round =>
    obtain ⟨i,rfl,hi,hm,hR,hb⟩:=hrel
    have HB:=Lib.hid hb
    have HRI:=Lib.hid hR
    have HM:=Lib.hid hm
    clear hb hR hm
    by_cases hin:i<n
    · have HIN := Lib.hid hin
      have il:i<l.length:=by have:=HN.out;omega
      have im:i<m.length:=by have:=HLM.out;omega
      have g1:l[i]? = some l[i]:=List.getElem?_eq_getElem il
      have g2:m[i]? = some m[i]:=List.getElem?_eq_getElem im
      have hmem:l[i]∈l:=List.getElem_mem il
      have hst:=sameFrom_step il im
      generalize l[i]=x at g1 hst hmem
      generalize m[i]=y at g2 hst
      have HX:=Lib.hid (HI.out x hmem (okEs_mem HO.out x hmem))
      rcases E1.out with e | ⟨g,q,rfl,_,e1⟩
      · cases l with
        | nil=>simp at il
        | cons=>cases e
      rcases E2.out with e | ⟨g',q',rfl,_,e2⟩
      · cases m with
        | nil=>simp at im
        | cons=>cases e
      have x1:=exsIn_get i x e1 g1
      have y1:=exsIn_get i y e2 g2
      have HST:=Lib.hid (HRI.out.symm.trans hst)
      obtain ⟨k,o,wd,nm,ks,ps⟩:=x
      obtain ⟨k',o',wd',nm',ks',ps'⟩:=y
      obtain ⟨a0,a1,a2,a3,⟨ka,kc,a4,hka⟩,a5⟩:=x1
      obtain ⟨b0,b1,b2,b3,⟨kb,kd,b4,hkb⟩,b5⟩:=y1
      have HKA:=Lib.hid hka
      have HKB:=Lib.hid hkb
      have lg:=lt_of_at a0
      have lg':=lt_of_at b0
      simp only at lg lg'
      have BX:=HB.out
      have a0:=(BX.cell (p:=⟨g,q+i*6,none⟩) lg).trans a0
      have a1:=(BX.cell (p:=⟨g,q+i*6+1,none⟩) lg).trans a1
      have a2:=(BX.cell (p:=⟨g,q+i*6+2,none⟩) lg).trans a2
      have a3:=(BX.cell (p:=⟨g,q+i*6+3,none⟩) lg).trans a3
      have a4:=(BX.cell (p:=⟨g,q+i*6+4,none⟩) lg).trans a4
      have a5:=(BX.cell (p:=⟨g,q+i*6+5,none⟩) lg).trans a5
      have b0:=(BX.cell (p:=⟨g',q'+i*6,none⟩) lg').trans b0
      have b1:=(BX.cell (p:=⟨g',q'+i*6+1,none⟩) lg').trans b1
      have b2:=(BX.cell (p:=⟨g',q'+i*6+2,none⟩) lg').trans b2
      have b3:=(BX.cell (p:=⟨g',q'+i*6+3,none⟩) lg').trans b3
      have b4:=(BX.cell (p:=⟨g',q'+i*6+4,none⟩) lg').trans b4
      have b5:=(BX.cell (p:=⟨g',q'+i*6+5,none⟩) lg').trans b5
      have hin':(i:Int)<(n:Int):=by omega
      have BW:Hid (Below w.heap.size w wr.drew):=below_drewN HB.out 1
      have HC:Hid (Calls Tryz.prog 133 #[.agg #[.int .u8 k,.int .u8 o,.int .i64 wd,.string nm,.slice ka ks.length kc,.int .i64 ps],.agg #[.int .u8 k',.int .u8 o',.int .i64 wd',.string nm',.slice kb ks'.length kd,.int .i64 ps']] wr.drew fun e' w'=>e'=.returned (.bool (sameE (.mk k o wd nm ks ps) (.mk k' o' wd' nm' ks' ps')))∧Below wr.drew.heap.size wr.drew w') :=
       HX.out _ _ _ _ ⟨ka,kc,rfl,exsAt_below HKA.out BW.out⟩ ⟨kb,kd,rfl,exsAt_below HKB.out BW.out⟩
      generalize sameE (.mk k o wd nm ks ps) (.mk k' o' wd' nm' ks' ps')=B at HST HC
      clear hst hmem g1 g2 e1 e2 hka hkb il im BX
      go_wp2_with fail
      go_still_tail 8,(by kernel_rfl)
      change wpList _ _ _ _ _ wr.drew
      clear a0 a1 a2 a3 a4 a5 b0 b1 b2 b3 b4 b5
      obtain ⟨W1,hW1⟩:∃ W,W=wr.drew:=⟨_,rfl⟩
      rw [← hW1] at HC BW ⊢
      clear hW1
      cases B with
      | false =>
        go_wp2_with (go_at_call 133;refine (HC.out).mono ?_;rintro e w3 ⟨rfl,hb3⟩;have HB3:=Lib.hid hb3;clear hb3)
        go_ret
        exact ⟨by rw [HST.out];rfl,BW.out.trans (HB3.out.mono (BW.out.size))⟩
      | true =>
        go_wp2_with (go_at_call 133;refine (HC.out).mono ?_;rintro e w3 ⟨rfl,hb3⟩;have HB3:=Lib.hid hb3;clear hb3)
        go_roundg (n-(i+1)+1)
        case measure=>have:=HM.out;omega
        case rel=>exact ⟨i+1,rfl,by omega,by omega,by rw [HST.out];simp,BW.out.trans (HB3.out.mono (BW.out.size))⟩
    · have : i = n := by omega
      subst this
      have hR:R=true:=by rw [← HRI.out];exact sameFrom_end (by have:=HN.out;omega) (by have:=HLM.out;have:=HN.out;omega)
      have HRT:=Lib.hid hR
      clear hR
      go_wp2_with fail
      go_ret
      exact ⟨by rw [HRT.out];rfl,HB.out⟩
 · rw [sameEs_ne hne]
   obtain ⟨n,hn⟩:∃ n,n=l.length:=⟨_,rfl⟩
   obtain ⟨k,hk⟩:∃ k,k=m.length:=⟨_,rfl⟩
   rw [← hn] at hne hl ⊢
   rw [← hk] at hne ⊢
   have hq:((n:Int) != (k:Int))=true:=by simp;omega
   clear h1 h2 HI HO hn hk
   go_enter Tryz.func96,Tryz.ntmps96
   go_wp2_with fail
   go_ret
   exact ⟨rfl,Below.refl _ w⟩
theorem rsame_no0 {k o wd ps k' o' wd' ps':Int} {nm nm':ByteArray} {n n' kc kd:Nat} {ka kb:Option Addr} (w:World) (q0:(k != k')=true) :
 Calls Tryz.prog 133 #[.agg #[.int .u8 k,.int .u8 o,.int .i64 wd,.string nm,.slice ka n kc,.int .i64 ps],.agg #[.int .u8 k',.int .u8 o',.int .i64 wd',.string nm',.slice kb n' kd,.int .i64 ps']] w fun e' w'=>e'=.returned (.bool false)∧Below w.heap.size w w':=by
 go_enter Tryz.func133,Tryz.ntmps133
 go_wp2_with fail
 go_ret
 exact ⟨rfl,(((Below.refl _ w).alloc (Nat.le_refl _) _).alloc (by rw [World.size_alloc];omega) _)⟩
theorem rsame_no1 {k o wd ps k' o' wd' ps':Int} {nm nm':ByteArray} {n n' kc kd:Nat} {ka kb:Option Addr} (w:World) (q0:(k != k')=false) (q1:(o != o')=true) :
 Calls Tryz.prog 133 #[.agg #[.int .u8 k,.int .u8 o,.int .i64 wd,.string nm,.slice ka n kc,.int .i64 ps],.agg #[.int .u8 k',.int .u8 o',.int .i64 wd',.string nm',.slice kb n' kd,.int .i64 ps']] w fun e' w'=>e'=.returned (.bool false)∧Below w.heap.size w w':=by
 go_enter Tryz.func133,Tryz.ntmps133
 go_wp2_with fail
 go_ret
 exact ⟨rfl,(((Below.refl _ w).alloc (Nat.le_refl _) _).alloc (by rw [World.size_alloc];omega) _)⟩
theorem rsame_no2 {k o wd ps k' o' wd' ps':Int} {nm nm':ByteArray} {n n' kc kd:Nat} {ka kb:Option Addr} (w:World) (q0:(k != k')=false) (q1:(o != o')=false) (q2:(wd != wd')=true) :
 Calls Tryz.prog 133 #[.agg #[.int .u8 k,.int .u8 o,.int .i64 wd,.string nm,.slice ka n kc,.int .i64 ps],.agg #[.int .u8 k',.int .u8 o',.int .i64 wd',.string nm',.slice kb n' kd,.int .i64 ps']] w fun e' w'=>e'=.returned (.bool false)∧Below w.heap.size w w':=by
 go_enter Tryz.func133,Tryz.ntmps133
 go_wp2_with fail
 go_ret
 exact ⟨rfl,(((Below.refl _ w).alloc (Nat.le_refl _) _).alloc (by rw [World.size_alloc];omega) _)⟩
theorem rsame_no3 {k o wd ps k' o' wd' ps':Int} {nm nm':ByteArray} {n n' kc kd:Nat} {ka kb:Option Addr} (w:World) (q0:(k != k')=false) (q1:(o != o')=false) (q2:(wd != wd')=false) (q3:(nm.toList != nm'.toList)=true) (q3':(nm.toList==nm'.toList)=false) :
 Calls Tryz.prog 133 #[.agg #[.int .u8 k,.int .u8 o,.int .i64 wd,.string nm,.slice ka n kc,.int .i64 ps],.agg #[.int .u8 k',.int .u8 o',.int .i64 wd',.string nm',.slice kb n' kd,.int .i64 ps']] w fun e' w'=>e'=.returned (.bool false)∧Below w.heap.size w w':=by
 go_enter Tryz.func133,Tryz.ntmps133
 go_wp2_with fail
 go_ret
 exact ⟨rfl,(((Below.refl _ w).alloc (Nat.le_refl _) _).alloc (by rw [World.size_alloc];omega) _)⟩
theorem rsame_yes {k o wd ps k' o' wd' ps':Int} {nm nm':ByteArray} {n n' kc kd:Nat} {ka kb:Option Addr} (w:World) {B:Bool} (q0:(k != k')=false) (q1:(o != o')=false) (q2:(wd != wd')=false) (q3:(nm.toList != nm'.toList)=false) (q3':(nm.toList==nm'.toList)=true) (HC:∀ W,Below w.heap.size w W→Calls Tryz.prog 96 #[.slice ka n kc,.slice kb n' kd] W fun e w'=>e=.returned (.bool B)∧Below W.heap.size W w') :
 Calls Tryz.prog 133 #[.agg #[.int .u8 k,.int .u8 o,.int .i64 wd,.string nm,.slice ka n kc,.int .i64 ps],.agg #[.int .u8 k',.int .u8 o',.int .i64 wd',.string nm',.slice kb n' kd,.int .i64 ps']] w fun e' w'=>e'=.returned (.bool B)∧Below w.heap.size w w':=by
 have HC:=Lib.hid HC
 have HB:Hid (Below w.heap.size w ((w.alloc (.cells #[.int .u8 k,.int .u8 o,.int .i64 wd,.string nm,.slice ka n kc,.int .i64 ps] 59)).alloc (.cells #[.int .u8 k',.int .u8 o',.int .i64 wd',.string nm',.slice kb n' kd,.int .i64 ps'] 59))):=(((Below.refl _ w).alloc (Nat.le_refl _) _).alloc (by rw [World.size_alloc];omega) _)
 go_enter Tryz.func133,Tryz.ntmps133
 go_wp2_with (go_at_call 96;refine (HC.out _ HB.out).mono ?_;rintro e w3 ⟨rfl,hb3⟩;have HB3:=Lib.hid hb3;clear hb3)
 go_ret
 exact ⟨rfl,HB.out.trans (HB3.out.mono HB.out.size)⟩
theorem r_same:∀ e:Ex,RSameC e:=by
 intro e
 induction e using Ex.ind with
 | h k o wd nm ks ps ih =>
   intro hok f v u w hv hu
   obtain ⟨k',o',wd',nm',ks',ps'⟩:=f
   obtain ⟨ka,kc,rfl,hka⟩:=hv
   obtain ⟨kb,kd,rfl,hkb⟩:=hu
   show Calls _ _ #[.agg #[.int .u8 k,.int .u8 o,.int .i64 wd,.string nm,.slice ka ks.length kc,.int .i64 ps],.agg #[.int .u8 k',.int .u8 o',.int .i64 wd',.string nm',.slice kb ks'.length kd,.int .i64 ps']] _ _
   simp only [sameE]
   have ne:∀ {a b:Int},¬ (a==b)=true→(a != b)=true:=fun h=>by unfold bne;simpa using h
   have eq:∀ {a b:Int},(a==b)=true→(a != b)=false:=fun h=>by unfold bne;rw [h];rfl
   by_cases h1:(k==k')=true
   · by_cases h2 : (o == o') = true
     · by_cases h3 : (wd == wd') = true
       · have hd : (nm.toList == nm'.toList) = (nm.data.toList == nm'.data.toList) := by rw [Lib.toList_data, Lib.toList_data]
         by_cases h4:(nm.data.toList==nm'.data.toList)=true
         · rw [h1, h2, h3, h4]
           simp only [Bool.true_and]
           exact rsame_yes w (eq h1) (eq h2) (eq h3) (by unfold bne;rw [hd,h4];rfl) (hd.trans h4) (fun W hb=>r_exprs (fun x hx=>ih x hx) hok.2 hok.1 (exsAt_below hka hb) (exsAt_below hkb hb))
         · have h4' : (nm.data.toList == nm'.data.toList) = false := by simpa using h4
           rw [h4']
           simp only [Bool.and_false,Bool.false_and]
           exact rsame_no3 w (eq h1) (eq h2) (eq h3) (by unfold bne;rw [hd,h4'];rfl) (hd.trans h4')
       · rw [show (wd == wd') = false by simpa using h3]
         simp only [Bool.and_false,Bool.false_and]
         exact rsame_no2 w (eq h1) (eq h2) (ne h3)
     · rw [show (o == o') = false by simpa using h2]
       simp only [Bool.and_false,Bool.false_and]
       exact rsame_no1 w (eq h1) (ne h2)
   · rw [show (k == k') = false by simpa using h1]
     simp only [Bool.false_and]
     exact rsame_no0 w (ne h1)
def placeEs:List Ex→List Ex→Bool
 | [],[]=>true
 | .mk _ _ _ _ ks p::r,.mk _ _ _ _ ks' p'::s=>p==p'&&placeEs ks ks'&&placeEs r s
 | _,_=>false
theorem placeEs_len:∀ (l m:List Ex),placeEs l m=true→l.length=m.length
 | [],[],_=>rfl
 | [],_::_,h=>by simp [placeEs] at h
 | .mk _ _ _ _ _ _::_,[],h=>by simp [placeEs] at h
 | .mk _ _ _ _ _ _ :: r, .mk _ _ _ _ _ _ :: s, h => by
   simp only [placeEs,Bool.and_eq_true] at h
   have:=placeEs_len r s h.2
   simp [this]
theorem placeEs_ne {l m:List Ex} (h:l.length≠m.length):placeEs l m=false:=by
 cases hs:placeEs l m with
 | false=>rfl
 | true=>exact absurd (placeEs_len l m hs) h
def placeFrom (l m:List Ex) (i:Nat):Bool:=placeEs (l.drop i) (m.drop i)
theorem placeFrom_step {l m:List Ex} {i:Nat} (hl:i<l.length) (hm:i<m.length):placeFrom l m i=(l[i].pos==m[i].pos&&placeEs l[i].kids m[i].kids&&placeFrom l m (i+1)):=by
 unfold placeFrom
 rw [List.drop_eq_getElem_cons hl,List.drop_eq_getElem_cons hm]
 cases l[i];cases m[i];simp only [placeEs];rfl
theorem placeFrom_end {l m:List Ex} {i:Nat} (hl:l.length≤i) (hm:m.length≤i):placeFrom l m i=true:=by
 unfold placeFrom
 rw [List.drop_of_length_le hl,List.drop_of_length_le hm]
 simp [placeEs]
theorem placeEs_self:∀ l:List Ex,placeEs l l=true:=by
 intro l
 induction l using Exs.ind with
 | h0=>simp [placeEs]
 | h1 k o w n ks a r ih1 ih2=>simp [placeEs,ih1,ih2]
def PlC (l:List Ex):Prop:=okEs l→∀ (m:List Ex) (a b:Option Addr) (c1 c2:Nat) (w:World),l.length≤9223372036854775807→exsAt (fun _=>True) w l a→exsAt (fun _=>True) w m b →
 Calls Tryz.prog 55 #[.slice a l.length c1,.slice b m.length c2] w fun e w'=>e=.returned (.bool (placeEs l m))∧∃ j,w'=w.drewN j
theorem exsAt_drewN {R:Nat→Prop} {w:World} {l:List Ex} {a:Option Addr} (h:exsAt R w l a) (n:Nat):exsAt R (w.drewN n) l a:=exsAt_stays (w:=w) (w':=w.drewN n) (fun b o v hb hv=>hv) (fun b hb=>hb) h
theorem r_places_one {l:List Ex} (HI:∀ x∈l,PlC x.kids):PlC l:=by
 intro HO m a b c1 c2 w hl h1 h2
 by_cases hne:l.length=m.length
 · obtain ⟨R, hR⟩ : ∃ R, R = placeEs l m := ⟨_, rfl⟩
   rw [← hR]
   have HRR:=Lib.hid hR
   have HI:=Lib.hid HI
   have HO:=Lib.hid HO
   have HL:=Lib.hid hl
   have HLM:=Lib.hid hne
   have E1:=Lib.hid h1
   have E2:=Lib.hid h2
   rw [← hne]
   obtain ⟨n,hn⟩:∃ n,n=l.length:=⟨_,rfl⟩
   rw [← hn]
   have HN:=Lib.hid hn
   have hn6:n≤9223372036854775807:=by omega
   have hnn:((n:Int) != (n:Int))=false:=by simp
   clear hl hne h1 h2 hR hn
   go_enter Tryz.func55,Tryz.ntmps55
   go_wp2_with fail
   go_loopg [13] (n+1) (fun m' u W=>∃ i:Nat,u=.int .i64 (i:Int)∧i≤n∧m'=n-i+1∧placeFrom l m i=R∧∃ j,W=w.drewN j)
   case atStart=>exact ⟨0,rfl,Nat.zero_le _,by omega,HRR.out.symm,0,rfl⟩
   case round =>
    obtain ⟨i,rfl,hi,hm,hR,j0,hW0⟩:=hrel
    have HRI:=Lib.hid hR
    have HM:=Lib.hid hm
    have HW:=Lib.hid hW0
    clear hR hm hW0
    by_cases hin:i<n
    · have HIN := Lib.hid hin
      have il:i<l.length:=by have:=HN.out;omega
      have im:i<m.length:=by have:=HLM.out;omega
      have g1:l[i]? = some l[i]:=List.getElem?_eq_getElem il
      have g2:m[i]? = some m[i]:=List.getElem?_eq_getElem im
      have hmem:l[i]∈l:=List.getElem_mem il
      have hst:=placeFrom_step il im
      generalize l[i]=x at g1 hst hmem
      generalize m[i]=y at g2 hst
      have hok:=okEs_mem HO.out x hmem
      have HX:=Lib.hid (HI.out x hmem)
      rcases E1.out with e | ⟨g,q,rfl,_,e1⟩
      · cases l with
        | nil=>simp at il
        | cons=>cases e
      rcases E2.out with e | ⟨g',q',rfl,_,e2⟩
      · cases m with
        | nil=>simp at im
        | cons=>cases e
      have x1:=exsIn_get i x e1 g1
      have y1:=exsIn_get i y e2 g2
      have HST:=Lib.hid (HRI.out.symm.trans hst)
      obtain ⟨k,o,wd,nm,ks,ps⟩:=x
      obtain ⟨k',o',wd',nm',ks',ps'⟩:=y
      obtain ⟨_,_,_,_,⟨ka,kc,a4,hka⟩,a5⟩:=x1
      obtain ⟨_,_,_,_,⟨kb,kd,b4,hkb⟩,b5⟩:=y1
      have hin':(i:Int)<(n:Int):=by omega
      have a4:wr.cell? ⟨g,q+i*6+4,none⟩=some (.slice ka ks.length kc):=by rw [HW.out];exact a4
      have a5:wr.cell? ⟨g,q+i*6+5,none⟩=some (.int .i64 ps):=by rw [HW.out];exact a5
      have b4:wr.cell? ⟨g',q'+i*6+4,none⟩=some (.slice kb ks'.length kd):=by rw [HW.out];exact b4
      have b5:wr.cell? ⟨g',q'+i*6+5,none⟩=some (.int .i64 ps'):=by rw [HW.out];exact b5
      have HC:Hid (∀ j,Calls Tryz.prog 55 #[.slice ka ks.length kc,.slice kb ks'.length kd] (wr.drewN j) fun e' w'=>e'=.returned (.bool (placeEs ks ks'))∧∃ t,w'=wr.drewN t):=fun j =>
       (HX.out hok.2 _ _ _ _ _ (wr.drewN j) hok.1 (exsAt_drewN (by rw [HW.out];exact exsAt_drewN hka j0) j) (exsAt_drewN (by rw [HW.out];exact exsAt_drewN hkb j0) j)).mono fun e' w' ⟨he,t,ht⟩=>⟨he,j+t,by rw [ht,World.drewN_drewN]⟩
      have HST:Hid (R=(ps==ps'&&placeEs ks ks'&&placeFrom l m (i+1))):=HST.out
      generalize placeEs ks ks'=B at HST HC
      clear hst hmem g1 g2 e1 e2 hka hkb il im hok
      by_cases hps:(ps==ps')=true
      · have hps2 : (ps != ps') = false := by unfold bne; rw [hps]; rfl
        cases B with
        | false =>
          go_wp2_with fail
          go_quiet (first | (go_at_call 55;exact HC.out _))
          go_wp2_with fail
          go_ret
          exact ⟨by rw [HST.out];simp,_,by rw [HW.out,World.drewN_drewN]⟩
        | true =>
          go_wp2_with fail
          go_quiet (first | (go_at_call 55;exact HC.out _))
          go_wp2_with fail
          go_roundg (n-(i+1)+1)
          case measure=>have:=HM.out;omega
          case rel=>exact ⟨i+1,rfl,by omega,by omega,by rw [HST.out,hps];simp,_,by rw [HW.out,World.drewN_drewN]⟩
      · have hps2 : (ps != ps') = true := by unfold bne; simpa using hps
        have hps3:(ps==ps')=false:=by simpa using hps
        clear hps
        go_wp2_with fail
        go_quiet (first | (go_at_call 55;exact HC.out _))
        go_wp2_with fail
        go_ret
        exact ⟨by rw [HST.out,hps3];rfl,_,by rw [HW.out,World.drewN_drewN]⟩
    · have : i = n := by omega
      subst this
      have hR:R=true:=by rw [← HRI.out];exact placeFrom_end (by have:=HN.out;omega) (by have:=HLM.out;have:=HN.out;omega)
      have HRT:=Lib.hid hR
      clear hR
      go_wp2_with fail
      go_ret
      exact ⟨by rw [HRT.out];rfl,_,HW.out⟩
 · rw [placeEs_ne hne]
   obtain ⟨n,hn⟩:∃ n,n=l.length:=⟨_,rfl⟩
   obtain ⟨k,hk⟩:∃ k,k=m.length:=⟨_,rfl⟩
   rw [← hn] at hne hl ⊢
   rw [← hk] at hne ⊢
   have hq:((n:Int) != (k:Int))=true:=by simp;omega
   clear h1 h2 HI HO hn hk
   go_enter Tryz.func55,Tryz.ntmps55
   go_wp2_with fail
   go_ret
   exact ⟨rfl,0,rfl⟩
theorem r_kids:∀ e:Ex,PlC e.kids:=by
 intro e
 induction e using Ex.ind with
 | h k o w n ks p ih=>exact r_places_one ih
theorem r_places (l:List Ex):PlC l:=r_places_one (fun x _=>r_kids x)
open Go.RowKit
set_option linter.unusedVariables false
structure Sr where
 ts:List Tk
 pos:Int
 rule:Int
section
variable (L:Int)
end
open Go.RowKit
set_option linter.unusedVariables false
theorem Own.setJ {W:World} {b:Nat} {T:TypeId} {cs:Array Value} (h:Own W b T cs) (j:Nat) (v:Value):Own (W.setCell ⟨b,j,none⟩ v) b T (cs.setIfInBounds j v):=heap_setCell_same W b j _ _ v h
end Go.Proofs.YtieeaehabjjaoaaGreatDoor

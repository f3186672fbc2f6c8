/- The proof, part 26: texts that belong together, in one. -/
import Derived.Test.YtggbkldniffbfaaGreatDoorUAU
import Derived.Test.YtggbkldniffbfaaGreatDoorUAV
import Derived.Test.YtggbkldniffbfaaGreatDoorUAW
import Derived.Test.YtggbkldniffbfaaGreatDoorUAY
import Derived.Deep.RegionHeld3
import Derived.Test.YtggbkldniffbfaaGreatDoorUAA
import Derived.ChangeArms
import Derived.SizedLaws
import Derived.Carry
import Derived.ChangeSame
import Derived.WideShapes
import Derived.ChangeSlices
import Derived.Test.YtggbkldniffbfaaGreatDoorUAT
import Derived.Test.YtggbkldniffbfaaGreatDoorUAN
set_option maxRecDepth 100000
set_option maxHeartbeats 20000000
namespace Go.Proofs.YtggbkldniffbfaaGreatDoor
open Go.RowKit
set_option linter.unusedVariables false
structure Bsx (x:Pg) (w:World) (g:Nat) (r s:Array Value) (W:World):Prop where
 own1:Own W w.heap.size 25 r
 own2:Own W g 25 s
 t1:pA W x (.agg r)
 t2:pA W x.bare (.agg s)
 tab:WTb W
 bel:Below w.heap.size w W
theorem Bsx.below {x:Pg} {w W W':World} {g:Nat} {r s:Array Value} (h:Bsx x w g r s W) (hb:Below W.heap.size W W'):Bsx x w g r s W' :=
 ⟨h.own1.below hb,h.own2.below hb,pA_below h.t1 hb,pA_below h.t2 hb,h.tab.below hb,h.bel.trans (hb.mono h.bel.size)⟩
def Cs (x:Pg) (w:World) (g:Nat) (r0 r1 r2 s0 s1 s2:Value) (W:World):Prop:=W.cell? ⟨w.heap.size,0,none⟩=some r0∧W.cell? ⟨w.heap.size,1,none⟩=some r1∧W.cell? ⟨w.heap.size,2,none⟩=some r2∧W.cell? ⟨g,0,none⟩=some s0∧W.cell? ⟨g,1,none⟩=some s1∧W.cell? ⟨g,2,none⟩=some s2∧Bsx x w g #[r0,r1,r2] #[s0,s1,s2] W
section
variable {x:Pg} {w W W':World} {g:Nat} {r0 r1 r2 s0 s1 s2:Value}
theorem cs_of (h:Bsx x w g #[r0,r1,r2] #[s0,s1,s2] W):Cs x w g r0 r1 r2 s0 s1 s2 W :=
 ⟨by rw [cell_of_row _ _ 0 _ _ _ h.own1];rfl,by rw [cell_of_row _ _ 1 _ _ _ h.own1];rfl,by rw [cell_of_row _ _ 2 _ _ _ h.own1];rfl,by rw [cell_of_row _ _ 0 _ _ _ h.own2];rfl,by rw [cell_of_row _ _ 1 _ _ _ h.own2];rfl,by rw [cell_of_row _ _ 2 _ _ _ h.own2];rfl,h⟩
theorem cs_drew (h:Bsx x w g #[r0,r1,r2] #[s0,s1,s2] W):Cs x w g r0 r1 r2 s0 s1 s2 W.drew:=cs_of (h.below (below_drewN (Below.refl _ W) 1))
theorem cs_below (h:Cs x w g r0 r1 r2 s0 s1 s2 W) (hb:Below W.heap.size W W'):Cs x w g r0 r1 r2 s0 s1 s2 W':=cs_of (h.2.2.2.2.2.2.below hb)
theorem cs_out (h:Cs x w g r0 r1 r2 s0 s1 s2 W):Bsx x w g #[r0,r1,r2] #[s0,s1,s2] W:=h.2.2.2.2.2.2
end
theorem bare_lens (x:Pg):x.bare.shared.length=x.shared.length∧x.bare.locks.length=x.locks.length∧x.bare.threads.length=x.threads.length:=⟨by simp [Pg.bare],by simp [Pg.bare],by simp [Pg.bare]⟩
def StrP (x:Pg) (n1 n2 n3:Nat) (w:World) (e:Ending) (w':World):Prop:=∃ s1 t1 s2 t2 s3 t3,e=.returned (.agg #[.slice s1 n1 t1,.slice s2 n2 t2,.slice s3 n3 t3])∧pA w' x.bare (.agg #[.slice s1 n1 t1,.slice s2 n2 t2,.slice s3 n3 t3])∧Below w.heap.size w w'
theorem p_StripA (x:Pg) (hf:fitP x) (hok:okP x) {v:Value} {w:World} (hv:pA w x v):Calls Tryz.prog 15 #[v] w (StrP x x.shared.length x.locks.length x.threads.length w) :=
 (p_Strip x hf hok hv).mono fun e w' ⟨s1,t1,s2,t2,s3,t3,h0,h1,h2,h3,hb⟩=>⟨s1,t1,s2,t2,s3,t3,h0,⟨s1,t1,s2,t2,s3,t3,by rw [(bare_lens x).1,(bare_lens x).2.1,(bare_lens x).2.2],dcsAt_stays (Stays.refl _ _) (fun _ _=>trivial) h1,dcsAt_stays (Stays.refl _ _) (fun _ _=>trivial) h2,thsAt_stays (Stays.refl _ _) (fun _ _=>trivial) h3⟩,hb⟩
theorem stripped_walk (x:Pg) (okx:PrOk x) (fx:fitP x) {v:Value} {w:World} (hx:pA w x v) (TT:WTb w) :
 Calls Tryz.prog 5 #[v] w fun e w'=>e=.returned (.bool true)∧Below w.heap.size w w':=by
 have HBG:Hid (∀ W,WTb W→Calls Tryz.prog 6 #[] W fun e w'=>e=.returned (.bool true)∧Below W.heap.size W w'):=fun W T=>p_begins4 T
 obtain ⟨n1,hn1⟩:∃ n,n=x.shared.length:=⟨_,rfl⟩
 obtain ⟨n2,hn2⟩:∃ n,n=x.locks.length:=⟨_,rfl⟩
 obtain ⟨n3,hn3⟩:∃ n,n=x.threads.length:=⟨_,rfl⟩
 obtain ⟨ts,er,hts⟩:∃ (ts:ByteArray) (er:Int),∀ W v,(pA W x v∨pA W x.bare v)→WTb W→Calls Tryz.prog 7 #[v] W fun e w'=>e=.returned (.tuple #[.string ts,.int .i64 er])∧Below W.heap.size W w':=by
  cases hY:mkY (rP x) (tP x) with
  | inl t=>exact ⟨⟨t.toArray⟩,0,fun W v h T=>by
   rcases h with h | h
   · have:=p_Print okx h T;rw [hY] at this;exact this.mono fun e w' h=>⟨h.2,h.1⟩
   · have:=p_Print (prOk_bare okx) h T;rw [rP_bare,tP_bare,hY] at this;exact this.mono fun e w' h=>⟨h.2,h.1⟩⟩
  | inr n=>exact ⟨⟨#[]⟩,n,fun W v h T=>by
   rcases h with h | h
   · have:=p_Print okx h T;rw [hY] at this;exact this.mono fun e w' h=>⟨h.2,h.1⟩
   · have:=p_Print (prOk_bare okx) h T;rw [rP_bare,tP_bare,hY] at this;exact this.mono fun e w' h=>⟨h.2,h.1⟩⟩
 have HPR:=Lib.hid hts
 have HSP:Hid (∀ W v,(pA W x v∨pA W x.bare v)→Calls Tryz.prog 15 #[v] W (StrP x n1 n2 n3 W)):=fun W v h=>by
  rw [hn1,hn2,hn3]
  rcases h with h | h
  · exact p_StripA x fx okx.1 h
  · have := p_StripA x.bare (fitP_bare fx) (okP_bare okx.1) h
    rw [(bare_lens x).1,(bare_lens x).2.1,(bare_lens x).2.2] at this
    unfold StrP at this ⊢
    rw [bare_pg] at this
    exact this
 have HSM:Hid (∀ W v u,pA W x v→pA W x.bare u→Calls Tryz.prog 9 #[v,u] W fun e w'=>e=.returned (.bool true)∧Below W.heap.size W w'):=fun W v u h1 h2=>by
  have:=r_SameG x okx.1 x.bare h1 h2
  rw [same_bare] at this
  exact this
 have HXA:Hid (∀ W v u,pA W x.bare v→pA W x.bare u→Calls Tryz.prog 14 #[v,u] W fun e w'=>e=.returned (.bool true)∧Below W.heap.size W w'):=fun W v u h1 h2=>r_Exactly x.bare (okP_bare okx.1) h1 h2
 have HX:=Lib.hid hx
 obtain ⟨a1,c1,a2,c2,a3,c3,rfl,_⟩:=hx
 rw [← hn1,← hn2,← hn3] at HX ⊢
 clear hn1 hn2 hn3 hts okx fx
 have hbel:Below w.heap.size w (w.alloc (.cells #[.slice a1 n1 c1,.slice a2 n2 c2,.slice a3 n3 c3] 25)):=(Below.refl _ w).alloc (Nat.le_refl _) _
 have O1:=Own.new w 25 #[.slice a1 n1 c1,.slice a2 n2 c2,.slice a3 n3 c3]
 have HT:=Lib.hid (TT.below hbel)
 replace HX:=Lib.hid (pA_below HX.out hbel)
 obtain ⟨W0,hW0⟩:∃ W,W=w.alloc (.cells #[.slice a1 n1 c1,.slice a2 n2 c2,.slice a3 n3 c3] 25):=⟨_,rfl⟩
 rw [← hW0] at hbel O1 HT HX
 have HB0:=Lib.hid hbel
 have HW0:=Lib.hid hW0
 have HO1:=Lib.hid O1
 clear hW0 hbel TT O1
 go_enter Tryz.func5,Tryz.ntmps5
 go_upto_region 1 with (fail)
 rw [← HW0.out]
 clear HW0
 go_wp2_with fail
 go_at_call 6
 refine (HBG.out _ HT.out).mono ?_
 rintro e w1 ⟨rfl,hb⟩
 replace HT:=Lib.hid (HT.out.below hb)
 replace HX:=Lib.hid (pA_below HX.out hb)
 replace HO1:=Lib.hid (HO1.out.below hb)
 replace HB0:=Lib.hid (HB0.out.trans (hb.mono HB0.out.size))
 have O1:=HO1.out
 clear hb HBG
 go_wp2_with (refine ld rowPg rfl rfl rfl O1 rfl ?_)
 go_at_call 15
 refine (HSP.out _ _ (.inl HX.out)).mono ?_
 rintro e w2 ⟨b1,d1,b2,d2,b3,d3,rfl,hq,hb⟩
 have Z1:=Own.new w2 25 #[.slice none 0 0,.slice none 0 0,.slice none 0 0]
 have B3:=Below.of_row ((Below.refl w2.heap.size w2).alloc (Nat.le_refl _) (.cells #[.slice none 0 0,.slice none 0 0,.slice none 0 0] 25)) (g:=w2.heap.size) (Nat.le_refl _) #[.slice b1 n1 d1,.slice b2 n2 d2,.slice b3 n3 d3]
 have HS:Hid (Bsx x w w2.heap.size #[.slice a1 n1 c1,.slice a2 n2 c2,.slice a3 n3 c3] #[.slice b1 n1 d1,.slice b2 n2 d2,.slice b3 n3 d3] ((w2.alloc (.cells #[.slice none 0 0,.slice none 0 0,.slice none 0 0] 25)).setRow w2.heap.size #[.slice b1 n1 d1,.slice b2 n2 d2,.slice b3 n3 d3])):=⟨(HO1.out.below hb).below B3,Z1.row _,pA_below (pA_below HX.out hb) B3,pA_below hq B3,(HT.out.below hb).below B3,(HB0.out.trans (hb.mono HB0.out.size)).trans (B3.mono (by have:=HB0.out.size;have:=hb.size;omega))⟩
 obtain ⟨W3,hW3⟩:∃ W,W=(w2.alloc (.cells #[.slice none 0 0,.slice none 0 0,.slice none 0 0] 25)).setRow w2.heap.size #[.slice b1 n1 d1,.slice b2 n2 d2,.slice b3 n3 d3]:=⟨_,rfl⟩
 rw [← hW3] at HS
 have HW3:=Lib.hid hW3
 clear hW3 hb hq B3 HO1 O1 HT HX HB0
 go_upto_region 4 with (refine st rowPg rfl rfl Z1 rfl rfl (by rfl) (by rfl) (by kernel_rfl) ?_)
 rw [← HW3.out]
 clear HW3 Z1
 generalize w2.heap.size=g at HS ⊢
 have O1:=HS.out.own1
 go_wp2_with (refine ld rowPg rfl rfl rfl O1 rfl ?_)
 go_at_call 7
 refine (HPR.out _ _ (.inl HS.out.t1) HS.out.tab).mono ?_
 rintro e w4 ⟨rfl,hb⟩
 replace HS:=Lib.hid (HS.out.below hb)
 have O2:=HS.out.own2
 clear hb O1
 go_wp2_with (refine ld rowPg rfl rfl rfl O2 rfl ?_)
 go_at_call 7
 refine (HPR.out _ _ (.inr HS.out.t2) HS.out.tab).mono ?_
 rintro e w5 ⟨rfl,hb⟩
 replace HS:=Lib.hid (HS.out.below hb)
 clear hb O2 HPR
 have q1:(er==er)=true:=by simp
 go_upto_region 6 with (fail)
 have H33:Hid (∀ W,Cs x w g (.slice a1 n1 c1) (.slice a2 n2 c2) (.slice a3 n3 c3) (.slice b1 n1 d1) (.slice b2 n2 d2) (.slice b3 n3 d3) W→Calls Tryz.prog 9 #[.agg #[.slice a1 n1 c1,.slice a2 n2 c2,.slice a3 n3 c3],.agg #[.slice b1 n1 d1,.slice b2 n2 d2,.slice b3 n3 d3]] W fun e w'=>e=.returned (.bool true)∧Below W.heap.size W w'):=fun W h=>HSM.out W _ _ (cs_out h).t1 (cs_out h).t2
 have H37:Hid (∀ W,Cs x w g (.slice a1 n1 c1) (.slice a2 n2 c2) (.slice a3 n3 c3) (.slice b1 n1 d1) (.slice b2 n2 d2) (.slice b3 n3 d3) W→Calls Tryz.prog 15 #[.agg #[.slice b1 n1 d1,.slice b2 n2 d2,.slice b3 n3 d3]] W (StrP x n1 n2 n3 W)):=fun W h=>HSP.out W _ (.inr (cs_out h).t2)
 have H39:Hid (∀ W v,Cs x w g (.slice a1 n1 c1) (.slice a2 n2 c2) (.slice a3 n3 c3) (.slice b1 n1 d1) (.slice b2 n2 d2) (.slice b3 n3 d3) W→pA W x.bare v→Calls Tryz.prog 14 #[v,.agg #[.slice b1 n1 d1,.slice b2 n2 d2,.slice b3 n3 d3]] W fun e w'=>e=.returned (.bool true)∧Below W.heap.size W w'):=fun W v h hv=>HXA.out W _ _ hv (cs_out h).t2
 clear HSM HSP HXA
 go_region_held3 (fun W=>W.cell? ⟨w.heap.size,0,none⟩=some (.slice a1 n1 c1)∧W.cell? ⟨w.heap.size,1,none⟩=some (.slice a2 n2 c2)∧W.cell? ⟨w.heap.size,2,none⟩=some (.slice a3 n3 c3)∧W.cell? ⟨g,0,none⟩=some (.slice b1 n1 d1)∧W.cell? ⟨g,1,none⟩=some (.slice b2 n2 d2)∧W.cell? ⟨g,2,none⟩=some (.slice b3 n3 d3)∧Bsx x w g #[.slice a1 n1 c1,.slice a2 n2 c2,.slice a3 n3 c3] #[.slice b1 n1 d1,.slice b2 n2 d2,.slice b3 n3 d3] W) (first | exact cs_drew HS.out | exact cs_below (by assumption) (by assumption)) (first
  | (go_at_call 9;refine (H33.out _ (by assumption)).mono ?_;rintro e w9 ⟨rfl,hb⟩)
  | (go_at_call 15;refine (H37.out _ (by assumption)).mono ?_;rintro e w9 ⟨z1,y1,z2,y2,z3,y3,rfl,hz,hb⟩)
  | (go_at_call 14;refine (H39.out _ _ (by assumption) (by assumption)).mono ?_;rintro e w9 ⟨rfl,hb⟩))
 have HF:=Lib.hid (cs_out (x:=x) (w:=w) (g:=g) (by assumption:Cs x w g _ _ _ _ _ _ _)).bel
 go_wp2_with fail
 go_ret
 exact ⟨rfl,HF.out⟩
open Go.ChangeShapes Go.WideShapes Go.ChangeAt Go.WideMaps Go.WideElems Go.RowKit Go.ChangeShapes
set_option linter.unusedVariables false
theorem laidOut:laidOutB Tryz.prog=true:=by kernel_rfl
theorem law_post_at {H:Type} {enc:TypeId × Value→H} {P:Program} {f:Func} {s:ChangeSpec} {W W':World} {args:Array Value} {tb:TypeId} {ds:List (DataW H)} {ps:List MemPlace}
 (hW:DataW.Whole enc P f.params.toList s.vars false W args.toList ds [] ps) (hres:f.resultTypes=#[tb]) (hb:P.underlying tb=some .bool)
 (hvars:s.vars=[]) (hfn:(s.fn H (ds++[])).results=[.lit (.bool true)]) (hfa:(s.fn H (ds++[])).args=ds) (hfv:(s.fn H (ds++[])).vars=[])
 (hargs:∀ sp:Nat→Bool,(∀ p∈ps,sp p.block=true)→DataW.TrodAll enc P W' 0 sp true f.params.toList args.toList ds ps)
 (hk:Below W.heap.size W W'):s.post enc P f false true false false W args (.bool true) W':=by
 have hr:∀ (b:Nat) (sp:Nat→Bool) (hd:Bool),DataW.TrodAll enc P W' b sp hd f.resultTypes.toList ((Value.bool true).resultList f.resultTypes.size) (s.fn H (ds++[])).results []:=fun b sp hd=>by
  rw [hfn,hres]
  exact trodAll_mk1 (shut_bool hb _)
 have ha:∀ sp:Nat→Bool,(∀ p∈ps,sp p.block=true)→DataW.TrodAll enc P W' 0 sp true f.params.toList args.toList (s.fn H (ds++[])).args ps:=fun sp hsp=>by
  rw [hfa];exact hargs sp hsp
 have hv:∀ sp:Nat→Bool,DataW.TrodVars enc P W' sp s.vars (s.fn H (ds++[])).vars []:=fun sp=>by
  rw [hvars,hfv];rfl
 have hold:∀ p∈ps,(fun b=>decide (b<W.heap.size)) p.block=true:=fun p hp=>by simpa using hW.lt p hp
 have hW2:=hW
 obtain ⟨_,_,_,_,_,hz,hn⟩:=hW2
 refine ⟨ds,[],ps,[],ps,[],hW,hr _ _ _,ha _ hold,hv _,World.keptBut_mono (fun p hp=>⟨hp,Or.inr (Or.inl hp)⟩) (hk.frame (· ∈ ps)),fun _=>?_⟩
 refine ⟨ok_one hres rfl (okWide_bool_mk hb _),_,_,([]++ps)++[],⟨[]++ps,[],trodAll_append (ha _ (fun _ _=>rfl)) (hr _ _ _),hv _,rfl,?_,?_⟩,?_⟩
 · intro b off hp
   have hp':MemPlace.cell b off∈ps:=by simpa using hp
   rw [hk.frozen (p:=⟨b,off,none⟩) (hW.lt _ hp')]
   exact hz b off hp'
 · intro hx;cases hx
 · intro p hp _
   simpa using hp
open Go.RowKit
set_option linter.unusedVariables false
theorem lenDs (l:List Dc):l.length≤bkDs l:=by rw [← sumD];exact sum_len (fun x=>by unfold bkD;omega) l
theorem memT {l:List Th} {t:Th} (h:t∈l):bkT t≤bkTs l:=by
 induction l with
 | nil=>cases h
 | cons x r ih =>
   simp only [bkTs]
   rcases List.mem_cons.1 h with rfl | h
   · omega
   · have:=ih h;omega
theorem lenP_of {x:Pg} (h:bkP x≤1048576):lenP x:=by
 unfold bkP at h
 have h1:=lenDs x.shared
 have h2:=lenDs x.locks
 refine ⟨by omega,by omega,fun t ht=>?_⟩
 have h3:=memT ht
 have h4:=lenDs t.locals
 unfold bkT at h3
 omega
open Go.ChangeShapes Go.WideShapes Go.ChangeAt Go.WideMaps Go.WideElems Go.RowKit
set_option linter.unusedVariables false
abbrev PLS:List (String × DataW Unit):=[("math/bits.deBruijn32tab",Rows.laid_math_bits_deBruijn32tab),("math/bits.deBruijn64tab",Rows.laid_math_bits_deBruijn64tab),("internal/strconv.uint64pow10",Rows.laid_internal_strconv_uint64pow10),("stile/words.levels",Rows.laid_stile_words_levels),("stile/words.signs",Rows.laid_stile_words_signs),("stile/lexer.languageWords",Rows.laid_stile_lexer_languageWords),("stile/pretty.shapes",Rows.laid_stile_pretty_shapes)]
theorem wts_of_laid {W:World} (h:laidMetH Tryz.prog PLS W):WTb W:=by
 rw [MakeChecks.laidMetH_plain _ _ _ (by kernel_rfl)] at h
 obtain ⟨ps,h,_⟩:=h
 exact wtb_of_vars h (by simp) (by simp) ⟨lnm_of_vars h (by simp),tabs_of_vars h (by simp) (by simp)⟩
theorem sdoor_met (os:Os) (args:Array Value):laidMetH Tryz.prog PLS ((World.doorLaid Tryz.prog 400 os).forCall (fun _ _=>0) ⟨#[],args,[]⟩).memory :=
 laidMetH_of_parts3 (fuel:=8) (laidMet_of_run' 8 (by kernel_rfl) (by kernel_rfl)) (by kernel_rfl) (by kernel_rfl)
end Go.Proofs.YtggbkldniffbfaaGreatDoor

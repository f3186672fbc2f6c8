/- The proof, part 35: texts that belong together, in one. -/
import Derived.Test.YtggbkldniffbfaaGreatDoorTBH
set_option maxRecDepth 100000
set_option maxHeartbeats 20000000
namespace Go.Proofs.YtggbkldniffbfaaGreatDoor
open Go.RowKit
set_option linter.unusedVariables false
set_option maxRecDepth 100000
def mkY (ok:Bool) (t:List UInt8):Sum (List UInt8) Int:=bif ok then (if t.length≤65536 then .inl t else .inr 4) else .inr 40
def PrOk (x:Pg):Prop:=okP x∧rgP x∧rgD x.shared∧lenP x
theorem mk_Print {pb:Nat} {w:World} {bx:Array Value} {rr:Bool} {tt:List UInt8} (O:Own w pb 25 bx) (hsz:bx.size=3) (hnd:∀ W,Below w.heap.size w W→Calls Tryz.prog 21 #[.agg bx] W (NdP W rr)) (hmk:rr=true→∀ W,Below w.heap.size w W→Calls Tryz.prog 22 #[.agg bx] W (TxP W tt)) :
 Calls Tryz.prog 20 #[.pointer (some ⟨pb,0,none⟩)] w (MkP w (mkY rr tt)):=by
 have HN:=Lib.hid hnd
 have HM:=Lib.hid hmk
 have HO:=Lib.hid O
 have H3:=Lib.hid hsz
 clear hnd hmk
 go_enter Tryz.func20,Tryz.ntmps20
 go_wp2_with (refine ld rowPg rfl rfl rfl O hsz ?_)
 go_at_call 21
 refine (HN.out _ (Below.refl _ w)).mono ?_
 rintro e w2 hh
 rcases hh.cases with ⟨hx,rfl,hb⟩ | ⟨hx,rfl,hb⟩
 rotate_left
 · go_wp2_with fail
   exact ⟨rfl,hb,by subst hx;rfl⟩
 replace HM:=Lib.hid (HM.out hx _ hb)
 subst hx
 have HB:=Lib.hid hb
 have O2:=HO.out.below hb
 clear hb hh O
 go_wp2_with (refine ld rowPg rfl rfl rfl O2 hsz ?_)
 go_at_call 22
 refine HM.out.mono ?_
 rintro e w3 ⟨hb,⟨ht,rfl⟩ | ⟨ht,rfl⟩⟩
 · have hY : MkP w (mkY true tt) (.returned (.string ⟨tt.toArray⟩)) w3 := ⟨HB.out.trans (hb.mono HB.out.size), by unfold mkY; rw [cond_true, if_pos ht]⟩
   have HY:=Lib.hid hY
   clear hY hb
   go_wp2_with fail
   go_ret
   exact HY.out
 · have hY : MkP w (mkY true tt) (.panicked (errP 4)) w3 := ⟨HB.out.trans (hb.mono HB.out.size), by unfold mkY; rw [cond_true, if_neg (by omega)]⟩
   go_wp2_with fail
   exact ⟨rfl,hY⟩
theorem mk_Expr {pb:Nat} {w:World} {bx:Array Value} {rr:Bool} {tt:List UInt8} (O:Own w pb 30 bx) (hsz:bx.size=6) (hnd:∀ W,Below w.heap.size w W→Calls Tryz.prog 28 #[.agg bx,.int .i64 0] W (NdP W rr)) (hmk:rr=true→∀ W,Below w.heap.size w W→Calls Tryz.prog 29 #[.agg bx] W (TxP W tt)) :
 Calls Tryz.prog 27 #[.pointer (some ⟨pb,0,none⟩)] w (MkP w (mkY rr tt)):=by
 have HN:=Lib.hid hnd
 have HM:=Lib.hid hmk
 have HO:=Lib.hid O
 have H6:=Lib.hid hsz
 clear hnd hmk
 go_enter Tryz.func27,Tryz.ntmps27
 go_wp2_with (refine ld rowEx rfl rfl rfl O hsz ?_)
 go_at_call 28
 refine (HN.out _ (Below.refl _ w)).mono ?_
 rintro e w2 hh
 rcases hh.cases with ⟨hx,rfl,hb⟩ | ⟨hx,rfl,hb⟩
 rotate_left
 · go_wp2_with fail
   exact ⟨rfl,hb,by subst hx;rfl⟩
 replace HM:=Lib.hid (HM.out hx _ hb)
 subst hx
 have HB:=Lib.hid hb
 have O2:=HO.out.below hb
 clear hb hh O
 go_wp2_with (refine ld rowEx rfl rfl rfl O2 hsz ?_)
 go_at_call 29
 refine HM.out.mono ?_
 rintro e w3 ⟨hb,⟨ht,rfl⟩ | ⟨ht,rfl⟩⟩
 · have hY : MkP w (mkY true tt) (.returned (.string ⟨tt.toArray⟩)) w3 := ⟨HB.out.trans (hb.mono HB.out.size), by unfold mkY; rw [cond_true, if_pos ht]⟩
   have HY:=Lib.hid hY
   clear hY hb
   go_wp2_with fail
   go_ret
   exact HY.out
 · have hY : MkP w (mkY true tt) (.panicked (errP 4)) w3 := ⟨HB.out.trans (hb.mono HB.out.size), by unfold mkY; rw [cond_true, if_neg (by omega)]⟩
   go_wp2_with fail
   exact ⟨rfl,hY⟩
theorem p_Print {x:Pg} {v:Value} {w:World} (H:PrOk x) (hv:pA w x v) (TT:WTb w):Calls Tryz.prog 7 #[v] w (AttP w (mkY (rP x) (tP x))):=by
 obtain ⟨a1,c1,a2,c2,a3,c3,rfl,h1,h2,h3⟩:=hv
 obtain ⟨H1,H2,H3,H4⟩:=H
 have hpa:∀ W,Below w.heap.size w W→pA W x (.agg #[.slice a1 x.shared.length c1,.slice a2 x.locks.length c2,.slice a3 x.threads.length c3]):=fun W hb=>pA_below ⟨a1,c1,a2,c2,a3,c3,rfl,h1,h2,h3⟩ hb
 obtain ⟨n1,hn1⟩:∃ n,n=x.shared.length:=⟨_,rfl⟩
 obtain ⟨n2,hn2⟩:∃ n,n=x.locks.length:=⟨_,rfl⟩
 obtain ⟨n3,hn3⟩:∃ n,n=x.threads.length:=⟨_,rfl⟩
 rw [← hn1,← hn2,← hn3] at hpa ⊢
 have hat:∀ pb W,Below w.heap.size w W→Own W pb 25 #[.slice a1 n1 c1,.slice a2 n2 c2,.slice a3 n3 c3]→Calls Tryz.prog 19 #[.func (.func 20) #[] #[.pointer (some ⟨pb,0,none⟩)]] W (AttP W (mkY (rP x) (tP x))):=fun pb W hb O=>p_att_print fun W' hb'=>by
  have hb2:=hb.trans (hb'.mono hb.size)
  exact mk_Print (O.below hb') rfl (fun W2 hb3=>p_needProgram x H1 H2 _ W2 (hpa _ (hb2.trans (hb3.mono hb2.size))) (TT.below (hb2.trans (hb3.mono hb2.size))).pt) (fun hr W2 hb3=>p_program' x H1 H2 hr H3 H4 (hpa _ (hb2.trans (hb3.mono hb2.size))) (TT.below (hb2.trans (hb3.mono hb2.size))))
 generalize mkY (rP x) (tP x)=Y at hat
 have HA:=Lib.hid hat
 clear hat hpa hn1 hn2 hn3 h1 h2 h3 H1 H2 H3 H4 TT
 have B0:Below w.heap.size w (w.alloc (.cells #[.slice a1 n1 c1,.slice a2 n2 c2,.slice a3 n3 c3] 25)):=(Below.refl _ w).alloc (Nat.le_refl _) _
 have O0:=Own.new w 25 #[.slice a1 n1 c1,.slice a2 n2 c2,.slice a3 n3 c3]
 have hmf:∀ (fn:Fn) (first cap:Array Value) (w:World),(Instr.makeFunc fn first cap).run Tryz.prog w=.ok (.func fn first cap) w:=fun _ _ _ _=>rfl
 go_enter Tryz.func7,Tryz.ntmps7
 go_wp2_with fail
 go_at_call 19
 refine (HA.out _ _ B0 O0).mono ?_
 rintro e w2 ⟨hb,rfl⟩
 have HB:=Lib.hid (B0.trans (hb.mono B0.size))
 clear hb
 cases Y with
 | inl t =>
   go_wp2_with fail
   exact bodyPost_ret (results_tmp2 rfl _ _ _) rfl ⟨HB.out,rfl⟩
 | inr n =>
   go_wp2_with fail
   exact bodyPost_ret (results_tmp2 rfl _ _ _) rfl ⟨HB.out,rfl⟩
theorem p_Expr4 {x:Ex} {v:Value} {w:World} (H:rgE x) (hv:exA w x v) (TT:WTb w):Calls Tryz.prog 10 #[v] w (AttP w (mkY (rE x 0) (tE x))):=by
 obtain ⟨a,c,rfl,h1⟩:=hv
 obtain ⟨k,o,wd,nm,ks,ps⟩:=x
 have hpa:∀ W,Below w.heap.size w W→exA W (.mk k o wd nm ks ps) (.agg #[.int .u8 k,.int .u8 o,.int .i64 wd,.string nm,.slice a ks.length c,.int .i64 ps]):=fun W hb=>⟨a,c,rfl,exsAt_below h1 hb⟩
 change Calls _ _ #[.agg #[.int .u8 k,.int .u8 o,.int .i64 wd,.string nm,.slice a ks.length c,.int .i64 ps]] w _
 obtain ⟨n,hn⟩:∃ n,n=ks.length:=⟨_,rfl⟩
 rw [← hn] at hpa ⊢
 have hat:∀ pb W,Below w.heap.size w W→Own W pb 30 #[.int .u8 k,.int .u8 o,.int .i64 wd,.string nm,.slice a n c,.int .i64 ps]→Calls Tryz.prog 19 #[.func (.func 27) #[] #[.pointer (some ⟨pb,0,none⟩)]] W (AttP W (mkY (rE (.mk k o wd nm ks ps) 0) (tE (.mk k o wd nm ks ps)))):=fun pb W hb O=>p_att_expr fun W' hb'=>by
  have hb2:=hb.trans (hb'.mono hb.size)
  exact mk_Expr (O.below hb') rfl (fun W2 hb3=>needExpr_any _ H _ W2 0 (hpa _ (hb2.trans (hb3.mono hb2.size))) (TT.below (hb2.trans (hb3.mono hb2.size))).pt.1 (by omega) (by omega)) (fun hr W2 hb3=>p_wexpression _ 0 hr H (hpa _ (hb2.trans (hb3.mono hb2.size))) (TT.below (hb2.trans (hb3.mono hb2.size))))
 generalize mkY (rE (.mk k o wd nm ks ps) 0) (tE (.mk k o wd nm ks ps))=Y at hat
 have HA:=Lib.hid hat
 clear hat hpa hn h1 H TT
 have B0:Below w.heap.size w (w.alloc (.cells #[.int .u8 k,.int .u8 o,.int .i64 wd,.string nm,.slice a n c,.int .i64 ps] 30)):=(Below.refl _ w).alloc (Nat.le_refl _) _
 have O0:=Own.new w 30 #[.int .u8 k,.int .u8 o,.int .i64 wd,.string nm,.slice a n c,.int .i64 ps]
 have hmf:∀ (fn:Fn) (first cap:Array Value) (w:World),(Instr.makeFunc fn first cap).run Tryz.prog w=.ok (.func fn first cap) w:=fun _ _ _ _=>rfl
 go_enter Tryz.func10,Tryz.ntmps10
 go_wp2_with fail
 go_at_call 19
 refine (HA.out _ _ B0 O0).mono ?_
 rintro e w2 ⟨hb,rfl⟩
 have HB:=Lib.hid (B0.trans (hb.mono B0.size))
 clear hb
 cases Y with
 | inl t =>
   go_wp2_with fail
   exact bodyPost_ret (results_tmp2 rfl _ _ _) rfl ⟨HB.out,rfl⟩
 | inr n =>
   go_wp2_with fail
   exact bodyPost_ret (results_tmp2 rfl _ _ _) rfl ⟨HB.out,rfl⟩
theorem p_Check {x:Pg} {v:Value} {w:World} (H:PrOk x) (hv:pA w x v) (TT:WTb w):Calls Tryz.prog 18 #[v] w fun e w'=>e=.returned (.int .i64 (match mkY (rP x) (tP x) with | .inl _=>0 | .inr n=>n))∧Below w.heap.size w w':=by
 obtain ⟨a1,c1,a2,c2,a3,c3,rfl,h1,h2,h3⟩:=hv
 have hp:∀ W,Below w.heap.size w W→Calls Tryz.prog 7 #[.agg #[.slice a1 x.shared.length c1,.slice a2 x.locks.length c2,.slice a3 x.threads.length c3]] W (AttP W (mkY (rP x) (tP x))):=fun W hb=>p_Print H (pA_below ⟨a1,c1,a2,c2,a3,c3,rfl,h1,h2,h3⟩ hb) (TT.below hb)
 generalize x.shared.length=n1 at hp
 generalize x.locks.length=n2 at hp
 generalize x.threads.length=n3 at hp
 generalize mkY (rP x) (tP x)=Y at hp
 have HP:=Lib.hid hp
 clear hp h1 h2 h3 TT H
 have B0:Below w.heap.size w (w.alloc (.cells #[.slice a1 n1 c1,.slice a2 n2 c2,.slice a3 n3 c3] 25)):=(Below.refl _ w).alloc (Nat.le_refl _) _
 have O0:=Own.new w 25 #[.slice a1 n1 c1,.slice a2 n2 c2,.slice a3 n3 c3]
 obtain ⟨W0,hW0⟩:∃ W,W=w.alloc (.cells #[.slice a1 n1 c1,.slice a2 n2 c2,.slice a3 n3 c3] 25):=⟨_,rfl⟩
 rw [← hW0] at B0 O0
 have HW0:=Lib.hid hW0
 clear hW0
 go_enter Tryz.func18,Tryz.ntmps18
 go_upto_region 1 with (fail)
 rw [← HW0.out]
 go_wp2_with (refine ld rowPg rfl rfl rfl O0 rfl ?_)
 go_at_call 7
 refine (HP.out _ B0).mono ?_
 rintro e w2 ⟨hb,rfl⟩
 have HB:=Lib.hid (B0.trans (hb.mono B0.size))
 clear hb
 cases Y with
 | inl t =>
   go_wp2_with fail
   go_ret
   exact ⟨rfl,HB.out⟩
 | inr n =>
   go_wp2_with fail
   go_ret
   exact ⟨rfl,HB.out⟩
set_option linter.unusedVariables false
abbrev Bk:=Int × ByteArray × Int
def Tk.bt (t:Tk):Bk:=(t.kind,t.text,t.wd)
def sgK (s:Bs):Bk:=(4,⟨s.toArray⟩,0)
def kidK (b:Bool) (l:List Bk):List Bk:=bif b then sgK [40]::(l++[sgK [41]]) else l
def kid1K (ks:List Ex) (ts:List (List Bk)):List Bk:=match ks,ts with | [x],[t]=>kidK (x.kind==4) t | _,_=>[]
def kid2K (o:Int) (ks:List Ex) (ts:List (List Bk)):List Bk:=match ks,ts with | [x,y],[t,u]=>kidK (wrL o x) t++(sgK (signOf o)::kidK (wrR o y) u) | _,_=>[]
def kK (k o wd:Int) (n:ByteArray) (ks:List Ex) (ts:List (List Bk)):List Bk :=
 if k=1 then [(3,itoaS wd,wd)] else if k=2 then [(1,n,0)] else if k=3 then sgK (signOf o)::kid1K ks ts else if k=4 then kid2K o ks ts else []
mutual
def kE:Ex→List Bk
 | .mk k o wd n ks _=>kK k o wd n ks (kEs ks)
def kEs:List Ex→List (List Bk)
 | []=>[]
 | x::r=>kE x::kEs r
end
def nxt:List Tk→Int
 | []=>0
 | t::_=>if (fnd t.tx).2=true then levelI (fnd t.tx).1 else 0
theorem fnd_two (o:Int) (h:twoB o=true):fnd (signOf o)=(o,true)∧levelI o=levelOf o∧1≤o∧o≤16:=by
 unfold twoB levelOf at h
 have h1:1≤o∧o≤16:=by
  by_cases h19:19≤o
  · rw [if_pos h19] at h;simp at h
  · rw [if_neg h19] at h
    by_cases h0:o≤0
    · have : o.toNat = 0 := by omega
      rw [this] at h
      simp [lev] at h
    · have : ∀ i : Nat, i < 19 → (decide (0 < lev.getD i 0) && decide (lev.getD i 0 < 9)) = true → i ≤ 16 := by decide
      have:=this o.toNat (by omega) h
      omega
 have:∀ i:Nat,i≤16→1≤i→fnd (sgn.getD i [])=((i:Int),true)∧sLevel.getD i 0=lev.getD i 0:=by decide
 have:=this o.toNat (by omega) (by omega)
 refine ⟨?_,?_,h1⟩
 · unfold signOf;rw [if_neg (by omega),this.1,Int.toNat_of_nonneg (by omega)]
 · unfold levelI levelOf;rw [if_neg (by omega)];exact this.2
theorem bt_tx {t:Tk} {s:Bs} (h:t.bt=sgK s):t.kind=4∧t.tx=s:=by
 unfold Tk.bt sgK at h
 simp only [Prod.mk.injEq] at h
 exact ⟨h.1,by unfold Tk.tx;rw [h.2.1]⟩
section
variable {L:Int}
theorem binL_halt {n:Nat} {v d:Int} {e:Ex} {r:List Tk} (hn:1≤n) (hv:1≤v) (h:nxt r<v):binL fnd L n v d e r=.ok e r:=by
 obtain ⟨m,rfl⟩:∃ m,n=m+1:=⟨n-1,by omega⟩
 cases r with
 | nil=>simp only [binL]
 | cons t r =>
   simp only [binL]
   rw [if_neg]
   rintro ⟨h1,h2⟩
   simp only [nxt,if_pos h1] at h
   omega
def OpX (x:Ex):Prop:=∀ (L d:Int) (n:Nat) (ts r:List Tk),rE x d=true→x.kind≠4→ts.map Tk.bt=kE x→3*(ts++r).length+1≤n→∃ e,opnd fnd L n d (ts++r)=.ok e r∧sameE x e=true
def BiX (x:Ex):Prop:=∀ (L v d:Int) (n:Nat) (ts r:List Tk),rE x d=true→1≤v→(x.kind=4→v≤levelOf x.op∧nxt r≤levelOf x.op)→ts.map Tk.bt=kE x→3*(ts++r).length+2≤n →
 ∃ n' e,3*r.length+1≤n'∧binE fnd L n v d (ts++r)=binL fnd L n' v d e r∧sameE x e=true
theorem rE_deep {x:Ex} {d:Int} (h:rE x d=true):d≤64:=by
 obtain ⟨k,o,wd,n,ks,ps⟩:=x
 simp only [rE,Bool.and_eq_true,decide_eq_true_eq] at h
 exact h.1
theorem rE_two {x:Ex} {d:Int} (h:rE x d=true) (hk:x.kind=4):twoB x.op=true:=by
 obtain ⟨k,o,wd,n,ks,ps⟩:=x
 obtain rfl:k=4:=hk
 simp only [rE,kB,Bool.and_eq_true] at h
 have:=h.2.2.2
 simp only [show ¬ ((4:Int)=1∨(4:Int)=2) by omega,if_false,show ¬ ((4:Int)=3) by omega,if_true,Bool.and_eq_true] at this
 exact this.1
theorem two_pos {o:Int} (h:twoB o=true):1≤levelOf o∧levelOf o≤8:=by
 unfold twoB at h
 simp only [Bool.and_eq_true,decide_eq_true_eq] at h
 omega
theorem paren {x:Ex} (H:BiX x) {L d:Int} {n:Nat} {t1 t2:Tk} {ts r:List Tk} (hr:rE x (d+1)=true) (h1:t1.bt=sgK [40]) (h2:t2.bt=sgK [41]) (h:ts.map Tk.bt=kE x) (hn:3*(ts++t2::r).length+4≤n) :
 ∃ e,opnd fnd L n d (t1::(ts++t2::r))=.ok e r∧sameE x e=true:=by
 obtain ⟨m,rfl⟩:∃ m,n=m+1:=⟨n-1,by omega⟩
 obtain ⟨k1,k2⟩:=bt_tx h1
 obtain ⟨k3,k4⟩:=bt_tx h2
 have hd:=rE_deep hr
 have hx:nxt (t2::r)=0:=by simp only [nxt,k4];rw [if_neg (by decide)]
 obtain ⟨n',e,a1,a2,a3⟩:=H L 1 (d+1) m ts (t2::r) hr (by omega) (fun hk=>by have:=two_pos (rE_two hr hk);omega) h (by omega)
 refine ⟨e,?_,a3⟩
 simp only [opnd]
 rw [if_neg (by rw [k1];omega),if_neg (by rw [k1];omega),if_neg (by rw [k2];decide),if_neg (by rw [k2];decide),if_pos k2,if_neg (by omega),a2,binL_halt (by omega) (by omega) (by omega)]
 simp only [PR.then_ok]
 unfold need isT
 simp only [k4]
 rfl
theorem kid_opnd {y:Ex} (H1:OpX y) (H2:BiX y) {L d:Int} {n:Nat} {b:Bool} {ts r:List Tk} (hb:b=false→y.kind≠4) (hr:rE y (d+b2i b)=true) (h:ts.map Tk.bt=kidK b (kE y)) (hn:3*(ts++r).length+1≤n) :
 ∃ e,opnd fnd L n d (ts++r)=.ok e r∧sameE y e=true:=by
 cases b with
 | false =>
   have hr:rE y d=true:=by simpa [b2i] using hr
   exact H1 L d n ts r hr (hb rfl) h hn
 | true =>
   have hr:rE y (d+1)=true:=by simpa [b2i] using hr
   have h:ts.map Tk.bt=sgK [40]::(kE y++[sgK [41]]):=h
   obtain ⟨t1,l,rfl,h1,hl⟩:=List.map_eq_cons_iff.1 h
   obtain ⟨l1,l2,rfl,hl1,hl2⟩:=List.map_eq_append_iff.1 hl
   obtain ⟨t2,l3,rfl,h2,hl3⟩:=List.map_eq_cons_iff.1 hl2
   obtain rfl:l3=[]:=by simpa using hl3
   have:=paren H2 (L:=L) (n:=n) (r:=r) hr h1 h2 hl1 (by simp at hn ⊢;omega)
   simpa using this
theorem nm_none {n:ByteArray} (h:nmB n false=true):n.data.toList=[]:=by
 unfold nmB at h
 simpa using h
theorem back_ex:∀ x:Ex,OpX x∧BiX x:=by
 intro x
 induction x using Ex.ind with
 | h k o wd nm ks ps ih =>
   have ih1:∀ y∈ks,OpX y:=fun y hy=>(ih y hy).1
   have ih2:∀ y∈ks,BiX y:=fun y hy=>(ih y hy).2
   have HO:OpX (.mk k o wd nm ks ps):=by
    intro L d n ts r hr hk h hn
    obtain ⟨m,rfl⟩:∃ m,n=m+1:=⟨n-1,by omega⟩
    have hk:k≠4:=hk
    simp only [rE,Bool.and_eq_true,decide_eq_true_eq] at hr
    obtain ⟨hd,hw,hn1,hkb⟩:=hr
    simp only [kE] at h
    unfold kK at h
    unfold kB at hkb
    by_cases k1:k=1
    · subst k1
      rw [if_pos rfl] at h
      rw [if_pos (.inl rfl)] at hkb
      simp only [Bool.and_eq_true,beq_iff_eq] at hkb
      obtain ⟨t,l,rfl,h1,hl⟩:=List.map_eq_cons_iff.1 h
      obtain rfl:l=[]:=by simpa using hl
      unfold Tk.bt at h1
      simp only [Prod.mk.injEq] at h1
      obtain rfl:ks=[]:=by simpa using hkb.2
      have hn2:=nm_none hn1
      refine ⟨.mk 1 0 t.wd ⟨#[]⟩ [] t.pos,?_,?_⟩
      · show opnd fnd L (m + 1) d (t :: r) = _
        simp only [opnd]
        rw [if_pos h1.1]
      · simp only [sameE,sameEs,hkb.1,hn2,h1.2.2,beq_self_eq_true,Bool.and_self]
    by_cases k2:k=2
    · subst k2
      rw [if_neg (by omega),if_pos rfl] at h
      rw [if_pos (.inr rfl)] at hkb
      simp only [Bool.and_eq_true,beq_iff_eq] at hkb
      obtain ⟨t,l,rfl,h1,hl⟩:=List.map_eq_cons_iff.1 h
      obtain rfl:l=[]:=by simpa using hl
      unfold Tk.bt at h1
      simp only [Prod.mk.injEq] at h1
      obtain rfl:ks=[]:=by simpa using hkb.2
      have hw2:wd=0:=by unfold wdB at hw;simpa using hw
      refine ⟨.mk 2 0 0 t.text [] t.pos,?_,?_⟩
      · show opnd fnd L (m + 1) d (t :: r) = _
        simp only [opnd]
        rw [if_neg (by rw [h1.1];omega),if_pos h1.1]
      · simp only [sameE,sameEs,hkb.1,hw2,h1.2.1,beq_self_eq_true,Bool.and_self]
    by_cases k3:k=3
    · subst k3
      rw [if_neg (by omega),if_neg (by omega),if_pos rfl] at h
      rw [if_neg (by omega),if_pos rfl] at hkb
      simp only [Bool.and_eq_true] at hkb
      obtain ⟨ho,hkk⟩:=hkb
      match ks,hkk,h,ih1,ih2 with
      | [y], hkk, h, ih1, ih2 =>
        have hy:rE y (d+1+b2i (y.kind==4))=true:=by simpa [kid1,rEs] using hkk
        have h:ts.map Tk.bt=sgK (signOf o)::kidK (y.kind==4) (kE y):=h
        obtain ⟨t,l,rfl,h1,hl⟩:=List.map_eq_cons_iff.1 h
        obtain ⟨e,e1,e2⟩:=kid_opnd (ih1 y (.head _)) (ih2 y (.head _)) (L:=L) (n:=m) (r:=r) (fun hb=>by simpa using hb) hy hl (by simp at hn ⊢;omega)
        obtain ⟨q1,q2⟩:=bt_tx h1
        have hd2:=rE_deep hy
        have hd3:0≤b2i (y.kind==4):=(b2i_01 _).1
        have hn2:=nm_none hn1
        have hw2:wd=0:=by unfold wdB at hw;simpa using hw
        have hou:o=17∨o=18:=by unfold oneB at ho;simpa using ho
        refine ⟨unX o t.pos e,?_,?_⟩
        · show opnd fnd L (m + 1) d (t :: (l ++ r)) = _
          simp only [opnd]
          rw [if_neg (by rw [q1];omega),if_neg (by rw [q1];omega)]
          rcases hou with rfl | rfl
          · rw [if_pos (by rw [q2];decide),if_neg (by omega),e1];rfl
          · rw [if_neg (by rw [q2];decide),if_pos (by rw [q2];decide),if_neg (by omega),e1];rfl
        · simp only [unX,sameE,sameEs,hn2,hw2,e2,beq_self_eq_true,Bool.and_self]
      | [],hkk,_,_,_=>simp [kid1] at hkk
      | _::_::_,hkk,_,_,_=>simp [kid1] at hkk
    · rw [if_neg (by omega), if_neg k3, if_neg hk] at hkb
      cases hkb
   refine ⟨HO,?_⟩
   intro L v d n ts r hr hv hlev h hn
   obtain ⟨m,rfl⟩:∃ m,n=m+1:=⟨n-1,by omega⟩
   by_cases hk:k=4
   · subst hk
     obtain ⟨hv1,hv2⟩:=hlev rfl
     simp only [Ex.op] at hv1 hv2
     simp only [rE,Bool.and_eq_true,decide_eq_true_eq] at hr
     obtain ⟨hd,hw,hn1,hkb⟩:=hr
     simp only [kE] at h
     unfold kK at h
     unfold kB at hkb
     rw [if_neg (by omega),if_neg (by omega),if_neg (by omega),if_pos rfl] at h
     rw [if_neg (by omega),if_neg (by omega),if_pos rfl] at hkb
     simp only [Bool.and_eq_true] at hkb
     obtain ⟨ho,hkk⟩:=hkb
     obtain ⟨hf,hl2,_,_⟩:=fnd_two o ho
     have hlp:=two_pos ho
     match ks,hkk,h,ih1,ih2 with
     | [a, b], hkk, h, ih1, ih2 =>
       have hab:rE a (d+b2i (wrL o a))=true∧rE b (d+b2i (wrR o b))=true:=by simpa [kid2,rEs] using hkk
       have h:ts.map Tk.bt=kidK (wrL o a) (kE a)++(sgK (signOf o)::kidK (wrR o b) (kE b)):=h
       obtain ⟨ta,l,rfl,hta,hl⟩:=List.map_eq_append_iff.1 h
       obtain ⟨t,tb,rfl,ht,htb⟩:=List.map_eq_cons_iff.1 hl
       obtain ⟨q1,q2⟩:=bt_tx ht
       have hnx:nxt (t::(tb++r))=levelOf o:=by simp only [nxt,q2,hf];rw [if_pos trivial,hl2]
       have hlen:(ta++t::tb++r).length=ta.length+(tb++r).length+1:=by simp;omega
       rw [hlen] at hn
       have ea:(ta++t::tb)++r=ta++(t::(tb++r)):=by simp
       have hlen2:(ta++(t::(tb++r))).length=ta.length+(tb++r).length+1:=by simp;omega
       have hlen3:r.length≤(tb++r).length:=by simp
       have step1:∃ n1 e1,3*(tb++r).length+4≤n1∧binE fnd L (m+1) v d (ta++(t::(tb++r)))=binL fnd L n1 v d e1 (t::(tb++r))∧sameE a e1=true:=by
        cases hwr:wrL o a with
        | true =>
          rw [hwr] at hta
          have hra:=hab.1
          rw [hwr] at hra
          obtain ⟨e1,x1,x2⟩:=kid_opnd (ih1 a (.head _)) (ih2 a (.head _)) (L:=L) (n:=m) (r:=t::(tb++r)) (fun hb=>by cases hb) hra hta (by rw [hlen2];omega)
          refine ⟨m,e1,by omega,?_,x2⟩
          simp only [binE]
          rw [x1]
          rfl
        | false =>
          rw [hwr] at hta
          have hra:rE a d=true:=by have:=hab.1;rw [hwr] at this;simpa [b2i] using this
          have hta:ta.map Tk.bt=kE a:=hta
          have hla:a.kind=4→levelOf o≤levelOf a.op:=fun hk=>by
           unfold wrL at hwr
           rw [hk] at hwr
           simpa using hwr
          obtain ⟨n1,e1,x0,x1,x2⟩:=ih2 a (.head _) L v d (m+1) ta (t::(tb++r)) hra hv (fun hk=>by have:=hla hk;rw [hnx];omega) hta (by rw [hlen2];omega)
          refine ⟨n1,e1,by simp at x0 ⊢;omega,x1,x2⟩
       obtain ⟨n1,e1,x0,x1,x2⟩:=step1
       obtain ⟨m1,rfl⟩:∃ m,n1=m+1:=⟨n1-1,by omega⟩
       have step2:∃ f,binE fnd L m1 (levelOf o+1) d (tb++r)=.ok f r∧sameE b f=true:=by
        cases hwr:wrR o b with
        | true =>
          rw [hwr] at htb
          have hrb:=hab.2
          rw [hwr] at hrb
          obtain ⟨m2,rfl⟩:∃ m,m1=m+1:=⟨m1-1,by omega⟩
          obtain ⟨f,y1,y2⟩:=kid_opnd (ih1 b (.tail _ (.head _))) (ih2 b (.tail _ (.head _))) (L:=L) (n:=m2) (r:=r) (fun hb=>by cases hb) hrb htb (by omega)
          refine ⟨f,?_,y2⟩
          simp only [binE]
          rw [y1]
          exact binL_halt (by omega) (by omega) (by omega)
        | false =>
          rw [hwr] at htb
          have hrb:rE b d=true:=by have:=hab.2;rw [hwr] at this;simpa [b2i] using this
          have htb:tb.map Tk.bt=kE b:=htb
          have hlb:b.kind=4→levelOf o+1≤levelOf b.op:=fun hk=>by
           unfold wrR at hwr
           rw [hk] at hwr
           have:levelOf o<levelOf b.op:=by simpa using hwr
           omega
          obtain ⟨n2,f,y0,y1,y2⟩:=ih2 b (.tail _ (.head _)) L (levelOf o+1) d m1 tb r hrb (by omega) (fun hk=>by have:=hlb hk;omega) htb (by omega)
          refine ⟨f,?_,y2⟩
          rw [y1]
          exact binL_halt (by omega) (by omega) (by omega)
       obtain ⟨f,y1,y2⟩:=step2
       have hn2:=nm_none hn1
       have hw2:wd=0:=by unfold wdB at hw;simpa using hw
       refine ⟨m1,biX o t.pos e1 f,by omega,?_,?_⟩
       · rw [ea, x1]
         simp only [binL,q2,hf,hl2]
         rw [if_pos ⟨trivial,hv1⟩,y1]
         rfl
       · simp only [biX,sameE,sameEs,hn2,hw2,x2,y2,beq_self_eq_true,Bool.and_self]
     | [],hkk,_,_,_=>simp [kid2] at hkk
     | [_],hkk,_,_,_=>simp [kid2] at hkk
     | _::_::_::_,hkk,_,_,_=>simp [kid2] at hkk
   · obtain ⟨e, e1, e2⟩ := HO L d m ts r hr hk h (by omega)
     refine ⟨m,e,by simp at hn ⊢;omega,?_,e2⟩
     simp only [binE]
     rw [e1]
     rfl
end
set_option linter.unusedVariables false
def kW (s:Bs):Bk:=(2,⟨s.toArray⟩,0)
def kN (n:ByteArray):Bk:=(1,n,0)
def e0K:List Ex→List Bk | x::_=>kE x | []=>[]
mutual
def kS:St→List Bk
 | .mk k n o e b l _ =>
   if k=1 then kN n::sgK [61]::(e0K e++[sgK [59]])
   else if k=2 then kN n::sgK [61]::kW [115,119,97,112]::sgK [40]::kN o::sgK [44]::(e0K e++[sgK [41],sgK [59]])
   else if k=3 then kW [105,102]::sgK [40]::(e0K e++(sgK [41]::sgK [123]::(kSs b++(sgK [125]::(if 0<l.length then kW [101,108,115,101]::sgK [123]::(kSs l++[sgK [125]]) else [])))))
   else if k=4 then kW [119,104,105,108,101]::sgK [40]::(e0K e++(sgK [41]::sgK [123]::(kSs b++[sgK [125]])))
   else if k=5 then kW [108,111,99,107]::kN n::sgK [123]::(kSs b++[sgK [125]])
   else if k=6 then kW [112,114,105,110,116]::(e0K e++[sgK [59]])
   else [kW [115,107,105,112],sgK [59]]
def kSs:List St→List Bk
 | []=>[]
 | x::r=>kS x++kSs r
end
theorem bt_w {t:Tk} {s:Bs} (h:t.bt=kW s):t.kind=2∧t.tx=s:=by
 unfold Tk.bt kW at h
 simp only [Prod.mk.injEq] at h
 exact ⟨h.1,by unfold Tk.tx;rw [h.2.1]⟩
theorem bt_n {t:Tk} {n:ByteArray} (h:t.bt=kN n):t.kind=1∧t.text=n:=by
 unfold Tk.bt kN at h
 simp only [Prod.mk.injEq] at h
 exact ⟨h.1,h.2.1⟩
theorem need_tok {L:Int} {s:Bs} {t:Tk} {r:List Tk} (h:t.tx=s):need L s (t::r)=.ok () r:=by
 unfold need isT
 simp [h]
theorem nxt_sg {t:Tk} {r:List Tk} {s:Bs} (h:t.tx=s) (hs:(fnd s).2=false):nxt (t::r)=0:=by
 simp only [nxt,h,hs]
 rfl
theorem open_tok {L d:Int} {t:Tk} {r:List Tk} (h:t.tx=[123]) (hd:d≤64):openP L d (t::r)=.ok () r:=by
 unfold openP
 rw [need_tok h]
 simp only [PR.then_ok]
 rw [if_neg (by omega)]
theorem ex_back {x:Ex} {L:Int} {n:Nat} {ts r:List Tk} {t:Tk} (hr:rE x 0=true) (h:ts.map Tk.bt=kE x) {s:Bs} (ht:t.tx=s) (hs:(fnd s).2=false) (hn:3*(ts++t::r).length+2≤n) :
 ∃ e,binE fnd L n 1 0 (ts++t::r)=.ok e (t::r)∧sameE x e=true:=by
 obtain ⟨n',e,a1,a2,a3⟩:=(back_ex x).2 L 1 0 n ts (t::r) hr (by omega) (fun hk=>by have:=two_pos (rE_two hr hk);have:=nxt_sg (r:=r) ht hs;omega) h hn
 exact ⟨e,by rw [a2];exact binL_halt (by omega) (by omega) (by rw [nxt_sg ht hs];omega),a3⟩
def noElse (r:List Tk):Prop:=isT [101,108,115,101] r=false
def StB (x:St):Prop:=∀ (L:Int) (d:Int) (n:Nat) (ts r:List Tk),rS x d=true→noElse r→ts.map Tk.bt=kS x→3*(ts++r).length+2≤n→∃ s,stmtP fnd L n d (ts++r)=.ok s r∧sameS x s=true
def RestB (l:List St):Prop:=∀ (L:Int) (d:Int) (n:Nat) (acc:List St) (ts r:List Tk) (t:Tk),rAll l d=true→ts.map Tk.bt=kSs l→t.bt=sgK [125]→3*(ts++t::r).length+3≤n→∃ ss,restP fnd L n d acc (ts++t::r)=.ok (acc++ss) r∧sameSs l ss=true
theorem nm_yes {n:ByteArray} (h:nmB n true=true):nameB n=true:=h
theorem name_noword {n:ByteArray} (h:nameB n=true):wordL n.data.toList=false:=by
 unfold nameB at h
 simp only [Bool.and_eq_true] at h
 have:=h.2.2.2.1
 rw [wordB_list,Lib.toList_data] at this
 simpa using this
theorem kS_head {x:St} {d:Int} (hr:rS x d=true) {ts r:List Tk} (h:ts.map Tk.bt=kS x):noElse (ts++r)∧isT [125] (ts++r)=false:=by
 obtain ⟨k,nm,ot,es,bo,el,ps⟩:=x
 simp only [rS,Bool.and_eq_true,decide_eq_true_eq] at hr
 obtain ⟨hk0,hk8,r1,r2,r3,r4,r5,r6,r7,r8⟩:=hr
 have key:∀ (b:Bk) (l:List Bk),ts.map Tk.bt=b::l→b.2.1.data.toList≠[101,108,115,101]→b.2.1.data.toList≠[125]→noElse (ts++r)∧isT [125] (ts++r)=false:=by
  intro b l hb h1 h2
  obtain ⟨t,ts',rfl,ht,_⟩:=List.map_eq_cons_iff.1 hb
  have:t.tx=b.2.1.data.toList:=by rw [← ht];rfl
  refine ⟨?_,?_⟩
  · unfold noElse isT
    simpa [this] using h1
  · unfold isT
    simpa [this] using h2
 have hnm:(shp k).1=true→nm.data.toList≠[101,108,115,101]∧nm.data.toList≠[125]:=fun hs=>by
  rw [hs] at r1
  have hw:=name_noword r1
  refine ⟨fun e=>by rw [e] at hw;revert hw;decide,fun e=>?_⟩
  have h1:nameB nm=true:=r1
  unfold nameB at h1
  simp only [Bool.and_eq_true,decide_eq_true_eq] at h1
  have h2:=h1.2.2.2.2
  have h3:nm.size=1:=by rw [show nm.size=nm.data.toList.length by simp,e];rfl
  rw [e,h3] at h2
  revert h2;decide
 rcases kind_cases hk0 hk8 with rfl | rfl | rfl | rfl | rfl | rfl | rfl
 · exact key _ _ (by rw [h];simp only [kS];rfl) (hnm rfl).1 (hnm rfl).2
 · exact key _ _ (by rw [h];simp only [kS];rfl) (hnm rfl).1 (hnm rfl).2
 · exact key _ _ (by rw [h];simp only [kS];rfl) (by decide) (by decide)
 · exact key _ _ (by rw [h];simp only [kS];rfl) (by decide) (by decide)
 · exact key _ _ (by rw [h];simp only [kS];rfl) (by decide) (by decide)
 · exact key _ _ (by rw [h];simp only [kS];rfl) (by decide) (by decide)
 · exact key _ _ (by rw [h];simp only [kS];rfl) (by decide) (by decide)
theorem rest_back {l:List St} (H:∀ x∈l,StB x):RestB l:=by
 induction l with
 | nil =>
   intro L d n acc ts r t _ h ht hn
   obtain ⟨m,rfl⟩:∃ m,n=m+1:=⟨n-1,by omega⟩
   obtain rfl:ts=[]:=by simpa [kSs] using h
   refine ⟨[],?_,by simp [sameSs]⟩
   simp only [List.nil_append,restP,List.append_nil]
   rw [if_pos (by unfold isT;simp [(bt_tx ht).2])]
   rfl
 | cons x l ih =>
   intro L d n acc ts r t hr h ht hn
   obtain ⟨m,rfl⟩:∃ m,n=m+1:=⟨n-1,by omega⟩
   simp only [rAll,Bool.and_eq_true] at hr
   simp only [kSs] at h
   obtain ⟨t1,t2,rfl,h1,h2⟩:=List.map_eq_append_iff.1 h
   have hh:=kS_head hr.1 (r:=t2++t::r) h1
   have hne:noElse (t2++t::r):=by
    cases l with
    | nil =>
      obtain rfl:t2=[]:=by simpa [kSs] using h2
      unfold noElse isT
      simp [(bt_tx ht).2]
    | cons y l =>
      simp only [kSs] at h2
      obtain ⟨t3,t4,rfl,h3,h4⟩:=List.map_eq_append_iff.1 h2
      simp only [rAll,Bool.and_eq_true] at hr
      rw [List.append_assoc]
      exact (kS_head hr.2.1 h3).1
   obtain ⟨s,a1,a2⟩:=H x (.head _) L d m t1 (t2++t::r) hr.1 hne h1 (by simp at hn ⊢;omega)
   have hp:1≤t1.length:=by
    cases t1 with
    | nil=>exact absurd a1 (by
     intro e
     have:=stmtP_short e
     simp at this)
    | cons=>simp
   obtain ⟨ss,b1,b2⟩:=ih (fun y hy=>H y (.tail _ hy)) L d m (acc++[s]) t2 r t hr.2 h2 ht (by simp at hn ⊢;omega)
   refine ⟨s::ss,?_,by simp [sameSs,a2,b2]⟩
   rw [List.append_assoc]
   simp only [restP]
   rw [if_neg (by rw [hh.2];decide),a1]
   simp only [PR.then_ok]
   rw [b1]
   simp
end Go.Proofs.YtggbkldniffbfaaGreatDoor

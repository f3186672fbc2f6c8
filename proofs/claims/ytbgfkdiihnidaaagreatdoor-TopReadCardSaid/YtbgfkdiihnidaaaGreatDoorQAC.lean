import Derived.RangeFuncNested
import Derived.RangeFuncBound
import Derived.RangeFuncCalls
import Derived.RangeFuncLeaves
import Derived.Shelf.Abstract
import Derived.Shelf.RegionOpen
import Derived.WalkKit
import Derived.OwnWalkIn
import Derived.TacticsInMore
import Derived.LoopNIn
import Derived.LoopIn
import Derived.Maps.AppendAt
import Derived.Test.YtbgfkdiihnidaaaGreatDoorQAB
import Derived.Sort.QuietIn
import Derived.Test.YtbgfkdiihnidaaaGreatDoorQAA
set_option maxRecDepth 100000
set_option maxHeartbeats 20000000
namespace Go.Proofs.YtbgfkdiihnidaaaGreatDoor
open Go.RowKit
structure Keep (sel:Nat->Obj->Prop) (A B:World):Prop where
 os:B.os=A.os
 tape:B.tape=A.tape
 output:B.output=A.output
 size:A.heap.size<=B.heap.size
 block:∀ k o,A.heap[k]? = some o->sel k o->B.heap[k]? = some o
theorem Keep.refl (sel:Nat->Obj->Prop) (A:World):Keep sel A A:=⟨rfl,rfl,rfl,Nat.le_refl _,fun _ _ h _=>h⟩
theorem Keep.trans {sel:Nat->Obj->Prop} {A B C:World} (h:Keep sel A B) (k:Keep sel B C):Keep sel A C :=
 ⟨k.os.trans h.os,k.tape.trans h.tape,k.output.trans h.output,Nat.le_trans h.size k.size,fun i o hi hs=>k.block i o (h.block i o hi hs) hs⟩
theorem Keep.mono {sel sel':Nat->Obj->Prop} {A B:World} (h:Keep sel A B) (hm:∀ k o,sel' k o->sel k o):Keep sel' A B :=
 ⟨h.os,h.tape,h.output,h.size,fun k o hk hs=>h.block k o hk (hm k o hs)⟩
theorem Keep.grown {sel:Nat->Obj->Prop} {A B C:World} {row:Option Nat} (h:Keep sel A B) (hg:B.grownBy C row) (hr:∀ r o,row=some r->B.heap[r]? = some o->¬ sel r o):Keep sel A C :=
 h.trans ⟨hg.os,hg.tape,hg.output,hg.size,fun k o hk hs=>(hg.block k (Array.getElem?_eq_some_iff.1 hk).1 (fun e=>hr k o e.symm hk hs)).trans hk⟩
theorem Keep.alloc {sel:Nat->Obj->Prop} {A B:World} (h:Keep sel A B) (o:Obj):Keep sel A (B.alloc o) :=
 h.grown (World.grownBy_alloc B o none) (fun _ _ e=>by cases e)
theorem Keep.putObj {sel:Nat->Obj->Prop} {A B:World} (h:Keep sel A B) {l:Nat} {o:Obj} (o':Obj) (hl:B.heap[l]? = some o) (hs:¬ sel l o):Keep sel A (B.putObj l o') :=
 h.grown (grownBy_putObj' B l o') (fun r u e hu=>by cases e;rw [hl] at hu;cases hu;exact hs)
theorem grownBy_setCellAt (W:World) (p:Addr) (v:Value):W.grownBy (W.setCell p v) (some p.block) :=
 ⟨rfl,rfl,rfl,by simp [World.setCell],fun k _ hk=>Below.heap_setCell _ _ _ k (fun e=>hk (by rw [e]))⟩
theorem Keep.setCell {sel:Nat->Obj->Prop} {A B:World} (h:Keep sel A B) {p:Addr} {o:Obj} (u:Value) (hl:B.heap[p.block]? = some o) (hs:¬ sel p.block o):Keep sel A (B.setCell p u) :=
 h.grown (grownBy_setCellAt B p u) (fun r x e hx=>by cases e;rw [hl] at hx;cases hx;exact hs)
theorem Keep.below {sel:Nat->Obj->Prop} {A B:World} {n:Nat} (h:Keep sel A B) (hn:n<=A.heap.size) (hs:∀ k o,k<n->sel k o):Below n A B :=
 ⟨h.os,h.tape,h.output,h.size,fun k hk=>by
  have hlt:k<A.heap.size:=by omega
  rw [h.block k _ (Array.getElem?_eq_getElem hlt) (hs k _ hk),Array.getElem?_eq_getElem hlt]⟩
theorem Keep.of_below {sel:Nat->Obj->Prop} {A B:World} (h:Below A.heap.size A B):Keep sel A B :=
 ⟨h.os,h.tape,h.output,h.size,fun k _ hk _=>(h.block k (Array.getElem?_eq_some_iff.1 hk).1).trans hk⟩
def keepPost {α:Type} (sB:Nat->Obj->Prop) (I:List α->World->Prop) (Ix:Code->List α->World->Prop) (xs:List α) (W:World):Exit->Act->World->Prop
 | .normal,_,W'=>Keep sB W W'/\I xs W'
 | .ret,_,W'=>Keep sB W W'/\Ix .ret xs W'
 | .exit id,_,W'=>Keep sB W W'/\Ix (.exit id) xs W'
 | .goto t,_,W'=>Keep sB W W'/\Ix (.goto t) xs W'
 | .panic _,_,_=>False
 | .outgrown,_,_=>False
theorem wpIn_range_keep {F:Fence} {n:Nat} {P:Program} {α:Type} {g:Operand} {ps:Array Tmp} {assign body:Code} {Q:Exit->Act->World->Prop} {a:Act} {w:World}
 (hro:F.round=none) (h1:1<=n) {gf:Nat} {fst lb:Array Value} (hg:a.eval g=.func (.func gf) fst lb) (hFg:F.fn gf) (eg:∀ args w,(callFunc gf args).run P w=.ok (.enter gf args) w)
 {encs:α->Array Value} (hps:∀ x,(encs x).size=ps.size)
 (sO sY sC:Nat->Obj->Prop) (hO:∀ k o,o.isCells=false->sO k o) (hY:∀ k o,w.heap.size<=k->sY k o->o.isCells=true) (hC:∀ k o,w.heap.size<=k->sC k o->o.isCells=true) (hCO:∀ k o,sC k o->sO k o)
 {S Sp:List α->World->Prop} {ok:List α->α->Prop}
 (hseq:∀ (l:Nat) (J Jx:List α->World->Prop) (W:World),Below w.heap.size w W ->
  (∀ s A B,J s A->Keep sO A B->J s B)->(∀ s A B,Jx s A->Keep sO A B->Jx s B) ->
  (∀ pre x W1,J pre W1->ok pre x->YieldAt F (n-1-1) P l (encs x) W1 fun e W' =>
   (e=.returned (.bool true)/\J (pre++[x]) W'/\Keep sY W1 W')\/(e=.returned (.bool false)/\Jx (pre++[x]) W'/\Keep sY W1 W')) ->
  J [] W ->
  CallsIn F (n-1) P gf (fst++#[.func (.yield l) #[] #[]]++lb) W fun e W'=>(∃ v,e=.returned v)/\((∃ xs,S xs W'/\J xs W')\/(∃ pre,Sp pre W'/\Jx pre W')))
 (I:List α->World->Prop) (Ix:Code->List α->World->Prop) (hI:∀ s A B,I s A->Keep sC A B->I s B) (hIx:∀ c s A B,Ix c s A->Keep sC A B->Ix c s B) (h0:I [] w)
 (Ax:α->Act->World->Prop) (hAx:∀ x a' A B,Ax x a' A->Keep sC A B->Ax x a' B)
 (hassign:∀ (l:Nat) (pre:List α) (x:α) (W:World) (K:Act->World->Prop),I pre W->(∀ a' W',Keep (fun k o=>sY k o\/o.isCells=false) W W'->I pre W'->Ax x a' W'->K a' W') ->
  assign.wpIn (F.inRound l) (n-1-1) P (Exit.then K (fun _ _ _=>False)) { tmps:=(ps.zip (encs x)).foldl (fun t (p,v)=>t.setIfInBounds p v) a.tmps,defers:=[] } W)
 (hbody:∀ (l:Nat) (pre:List α) (x:α) (a':Act) (W:World),I pre W->Ax x a' W->ok pre x->body.wpIn (F.inRound l) (n-1-1) P (keepPost (fun k o=>sY k o\/o.isCells=false) I Ix (pre++[x]) W) a' W)
 (hdone:∀ (D:Nat) (xs:List α) (W0 W:World),w.heap.size<=D->S xs W0->I xs W->Keep (fun k o=>k<w.heap.size\/o.isCells=true) W0 W->W.heap[D]? = some (.deferred (some []))->Q .normal { a with defers:={ target:=.collected D,args:=#[] } :: a.defers } W)
 (hstop:∀ (D:Nat) (c:Code) (pre:List α) (W0 W:World),w.heap.size<=D->Sp pre W0->Ix c pre W->Keep (fun k o=>k<w.heap.size\/o.isCells=true) W0 W->W.heap[D]? = some (.deferred (some []))->c.wpIn F n P Q { a with defers:={ target:=.collected D,args:=#[] } :: a.defers } W) :
 (Code.rangeFunc g ps assign body).wpIn F n P Q a w:=by
 refine wpIn_rangeFunc ?_;intro fn hfn;rw [hro];obtain ⟨rec,hrec⟩:∃ rec:LoopState->Option Code->Loop,rec=fun st pe=>{ state:=st,pending:=pe,fn,tmps:=a.tmps,params:=ps,assign,body,defers:=w.heap.size }:=⟨_,rfl⟩
 obtain ⟨W1,hW1⟩:∃ W1,(w.alloc (.deferred (some []))).alloc (.loop (rec .ready none))=W1:=⟨_,rfl⟩;have hL1:W1.heap[w.heap.size+1]? = some (.loop (rec .ready none)):=by
  rw [<- hW1];have:=World.alloc_heap_new (w.alloc (.deferred (some []))) (.loop (rec .ready none));rwa [World.size_alloc] at this
 have hK1:W1.heap[w.heap.size]? = some (.deferred (some [])):=by
  rw [<- hW1];exact (Below.heap_alloc _ _ _ (by simp)).trans (World.alloc_heap_new w _)
 have hI1:I [] W1:=by rw [<- hW1];exact hI _ _ _ h0 (((Keep.refl _ w).alloc _).alloc _)
 have hb1:Below w.heap.size w W1:=by
  rw [<- hW1];exact ((Below.refl _ w).alloc (Nat.le_refl _) _).alloc (by simp) _
 have put:∀ {W:World} {l:Nat} {o:Obj} (o':Obj),w.heap.size<=l->W.heap[l]? = some o->o.isCells=false->Keep sC W (W.putObj l o'):=fun o' hle hl hc =>
  (Keep.refl _ _).putObj o' hl (fun hs=>by have:=hC _ _ hle hs;rw [hc] at this;cases this)
 have putY:∀ {W:World} {l:Nat} {o:Obj} (o':Obj),w.heap.size<=l->W.heap[l]? = some o->o.isCells=false->Keep sY W (W.putObj l o'):=fun o' hle hl hc =>
  (Keep.refl _ _).putObj o' hl (fun hs=>by have:=hY _ _ hle hs;rw [hc] at this;cases this)
 have putR:∀ {W:World} {l:Nat} {o:Obj} (o':Obj),w.heap.size<=l->W.heap[l]? = some o->o.isCells=false->Keep (fun k o=>k<w.heap.size\/o.isCells=true) W (W.putObj l o'):=fun o' hle hl hc =>
  (Keep.refl _ _).putObj o' hl (fun hs => by rcases hs with hs | hs; · omega
                                             · rw [hc] at hs;cases hs)
 refine ⟨w.heap.size+1,[{ target:=.collected w.heap.size,args:=#[] }],W1,{ target:=.fn (.func gf) lb,args:=fst++#[.func (.yield (w.heap.size+1)) #[] #[]] },W1,gf,
  fst++#[.func (.yield (w.heap.size+1)) #[] #[]]++lb,W1,?_,?_,?_,?_,fun _=>h1,?_⟩
 · rw [<- hW1,hrec];exact run_enterLoop_outer _ _ _ _ _
 · simp only [resolve, hg]
   simp [go_sem]
 · intro f' hf';simp [Target.leads] at hf';subst hf';exact hFg
 · simp [invoke,go_sem,eg]
 · refine (hseq (w.heap.size + 1)
    (fun pre W=>I pre W/\W.heap[w.heap.size+1]? = some (.loop (rec .ready none))/\W.heap[w.heap.size]? = some (.deferred (some [])))
    (fun pre W=>∃ c,Ix c pre W/\W.heap[w.heap.size+1]? = some (.loop (rec .done (some c)))/\W.heap[w.heap.size]? = some (.deferred (some [])))
    W1 hb1
    (fun s A B hs hk=>⟨hI s A B hs.1 (hk.mono hCO),hk.block _ _ hs.2.1 (hO _ _ rfl),hk.block _ _ hs.2.2 (hO _ _ rfl)⟩)
    (fun s A B hs hk=>by
     obtain ⟨c,hc,hl,hd⟩:=hs
     exact ⟨c,hIx c s A B hc (hk.mono hCO),hk.block _ _ hl (hO _ _ rfl),hk.block _ _ hd (hO _ _ rfl)⟩)
    ?_ ⟨hI1,hL1,hK1⟩).mono ?_
   ·
    rintro pre x W ⟨hi,hl,hk⟩ hok;have hlt:w.heap.size+1<W.heap.size:=(Array.getElem?_eq_some_iff.1 hl).1;have hy:=run_yield (P:=P) (args:=encs x) hl (by rw [hrec];exact hps x)
    rw [hrec] at hy;refine ⟨fn,_,assign,body,hy,roundIn_of_wpIn hfn (hassign _ pre x W _ hi ?_)⟩;clear hy;intro a' Wa hka hia hax;have hkY:Keep sY W Wa:=hka.mono (fun _ _ h=>.inl h)
    replace hl:=hka.block _ _ hl (.inr rfl);replace hk:=hka.block _ _ hk (.inr rfl);replace hlt:w.heap.size+1<Wa.heap.size:=(Array.getElem?_eq_some_iff.1 hl).1;refine ⟨_,run_beginRound hl (by rw [hrec]),?_⟩
    have hl2:(Wa.putObj (w.heap.size+1) (.loop { rec .ready none with state:=.busy })).heap[w.heap.size+1]? = some (.loop { rec .ready none with state:=.busy }):=World.putObj_heap_same hlt
    have hk2:(Wa.putObj (w.heap.size+1) (.loop { rec .ready none with state:=.busy })).heap[w.heap.size]? = some (.deferred (some [])):=(World.putObj_heap_other (by omega)).trans hk
    have hw2:Keep sY Wa (Wa.putObj (w.heap.size+1) (.loop { rec .ready none with state:=.busy })):=putY _ (by omega) hl rfl
    have hw2C:Keep sC Wa (Wa.putObj (w.heap.size+1) (.loop { rec .ready none with state:=.busy })):=put _ (by omega) hl rfl
    refine wpIn_mono (hbody _ pre x a' _ (hI _ _ _ hia hw2C) (hAx _ _ _ _ hax hw2C) hok) ?_
    have fin:∀ (jump:Option Code) (W3:World),Keep (fun k o=>sY k o\/o.isCells=false) (Wa.putObj (w.heap.size+1) (.loop { rec .ready none with state:=.busy })) W3 ->
     (Instr.endRound (w.heap.size+1) jump).run P W3=.ok (.bool jump.isNone) (W3.putObj (w.heap.size+1) (.loop (rec (if jump.isNone then .ready else .done) jump))) /\
     W3.heap[w.heap.size+1]? = some (.loop { rec .ready none with state:=.busy }) /\
     (W3.putObj (w.heap.size+1) (.loop (rec (if jump.isNone then .ready else .done) jump))).heap[w.heap.size+1]? = some (.loop (rec (if jump.isNone then .ready else .done) jump)) /\
     (W3.putObj (w.heap.size+1) (.loop (rec (if jump.isNone then .ready else .done) jump))).heap[w.heap.size]? = some (.deferred (some [])) /\
     Keep sY W (W3.putObj (w.heap.size+1) (.loop (rec (if jump.isNone then .ready else .done) jump))) /\
     Keep sC W3 (W3.putObj (w.heap.size+1) (.loop (rec (if jump.isNone then .ready else .done) jump))):=fun jump W3 hk3=>by
     have hl3:=hk3.block _ _ hl2 (.inr rfl);have:=run_endRound (P:=P) jump hl3;rw [hrec] at this ⊢
     exact ⟨this,by rw [hrec] at hl3;exact hl3,World.putObj_heap_same (Array.getElem?_eq_some_iff.1 hl3).1,(World.putObj_heap_other (by omega)).trans (hk3.block _ _ hk2 (.inr rfl)),
      hkY.trans (Keep.trans (by rw [hrec] at hw2;exact hw2) (Keep.trans (by rw [hrec] at hk3;exact hk3.mono (fun _ _ h=>.inl h)) (putY _ (by omega) hl3 rfl))),put _ (by omega) hl3 rfl⟩
    rintro e a3 W3 hp;cases e with
    | normal =>
      obtain ⟨hk3,hi3⟩:=hp;obtain ⟨hr,hl3,hl4,hk4,hy4,hc4⟩:=fin none W3 hk3;exact ⟨_,_,hr,.inl ⟨rfl,⟨hI _ _ _ hi3 hc4,hl4,hk4⟩,hy4⟩⟩
    | ret =>
      obtain ⟨hk3,hi3⟩:=hp;obtain ⟨hr,hl3,hl4,hk4,hy4,hc4⟩:=fin (some .ret) W3 hk3;exact ⟨_,_,hr,.inr ⟨rfl,⟨.ret,hIx _ _ _ _ hi3 hc4,hl4,hk4⟩,hy4⟩⟩
    | exit id =>
      obtain ⟨hk3,hi3⟩:=hp;obtain ⟨hr,hl3,hl4,hk4,hy4,hc4⟩:=fin (some (.exit id)) W3 hk3;exact ⟨_,_,hr,.inr ⟨rfl,⟨.exit id,hIx _ _ _ _ hi3 hc4,hl4,hk4⟩,hy4⟩⟩
    | goto t =>
      obtain ⟨hk3,hi3⟩:=hp;obtain ⟨hr,hl3,hl4,hk4,hy4,hc4⟩:=fin (some (.goto t)) W3 hk3;exact ⟨_,_,hr,.inr ⟨rfl,⟨.goto t,hIx _ _ _ _ hi3 hc4,hl4,hk4⟩,hy4⟩⟩
    | panic ch=>exact hp.elim
    | outgrown=>exact hp.elim
   ·
    rintro e W2 ⟨⟨v,rfl⟩,(⟨xs,hS,hi,hl,hk⟩ | ⟨pre,hSp,c,hi,hl,hk⟩)⟩
    · exact ⟨none,_,by have:=run_endLoop (P:=P) hl (by rw [hrec];simp);rw [hrec] at this;exact this,hdone _ xs W2 _ (Nat.le_refl _) hS (hI _ _ _ hi (put _ (by omega) hl rfl)) (putR _ (by omega) hl rfl) ((World.putObj_heap_other (by omega)).trans hk)⟩
    · exact ⟨some c,_,by have:=run_endLoop (P:=P) hl (by rw [hrec];simp);rw [hrec] at this;exact this,hstop _ c pre W2 _ (Nat.le_refl _) hSp (hIx _ _ _ _ hi (put _ (by omega) hl rfl)) (putR _ (by omega) hl rfl) ((World.putObj_heap_other (by omega)).trans hk)⟩
set_option linter.unusedVariables false
def slashes:List UInt8:=[47,47]
def stepN (l:List UInt8):Nat:=if Lib.hasPrefix l slashes=true then spanN feedB l else spanN blankB l
theorem stepN_le (l:List UInt8):stepN l<=l.length:=by
 unfold stepN;split
 · exact spanN_le _ _
 · exact spanN_le _ _
def passF:Nat->List UInt8->Nat
 | 0,_=>0
 | f+1,l=>if stepN l=0 then 0 else stepN l+passF f (l.drop (stepN l))
theorem passF_more:∀ (f g:Nat) (l:List UInt8),l.length<=f->l.length<=g->passF f l=passF g l
 | 0,0,_,_,_=>rfl
 | 0, g + 1, l, h, _ => by
   have:l=[]:=List.length_eq_zero_iff.1 (by omega)
   subst this
   rfl
 | f + 1, 0, l, _, h => by
   have:l=[]:=List.length_eq_zero_iff.1 (by omega)
   subst this
   rfl
 | f + 1, g + 1, l, hf, hg => by
   simp only [passF]
   by_cases h:stepN l=0
   · rw [if_pos h,if_pos h]
   · rw [if_neg h,if_neg h,passF_more f g (l.drop (stepN l)) (by simp;omega) (by simp;omega)]
def passN (l:List UInt8):Nat:=passF l.length l
theorem passN_stop {l:List UInt8} (h:stepN l=0):passN l=0:=by
 unfold passN;cases hl:l.length with
 | zero=>rfl
 | succ n=>simp only [passF];rw [if_pos h]
theorem passN_step {l:List UInt8} (h:¬ stepN l=0):passN l=stepN l+passN (l.drop (stepN l)):=by
 have c:=stepN_le l;have e:passF l.length l=passF (l.length+1) l:=passF_more _ _ l (Nat.le_refl _) (Nat.le_succ _);have b:passF (l.length+1) l=stepN l+passF l.length (l.drop (stepN l)):=by
  simp only [passF];rw [if_neg h]
 have a:passN (l.drop (stepN l))=passF l.length (l.drop (stepN l)):=passF_more _ _ _ (Nat.le_refl _) (by simp)
 rw [a,<- b,<- e];rfl
theorem passN_le:∀ (n:Nat) (l:List UInt8),l.length<=n->passN l<=l.length
 | 0, l, h => by
   have:l=[]:=List.length_eq_zero_iff.1 (by omega)
   subst this
   exact Nat.le_refl _
 | n + 1, l, h => by
   by_cases h0:stepN l=0
   · rw [passN_stop h0];exact Nat.zero_le _
   · have hle := stepN_le l
     have k:=passN_le n (l.drop (stepN l)) (by simp;omega)
     rw [passN_step h0]
     simp at k
     omega
theorem from_drop (s:ByteArray) (p n:Nat):(bytesFrom s p).drop n=bytesFrom s (p+n):=by
 unfold bytesFrom;rw [List.drop_drop]
theorem from_len (s:ByteArray) (p:Nat):(bytesFrom s p).length=s.size-p:=by
 unfold bytesFrom;simp
theorem Sc.setAt {W:World} {b:Nat} {s:ByteArray} {p fa fr:Int} (h:Sc W b s p fa fr) (p':Int):Sc (W.setCell ⟨b,1,none⟩ (.int .i64 p')) b s p' fa fr :=
 heap_setCell_same W b 1 _ _ (.int .i64 p') h
def atOf (b:Nat) (w:World):Nat:=match w.cell? ⟨b,1,none⟩ with
 | some v=>(intOf v).toNat
 | none=>0
theorem Sc.atOf {W:World} {b:Nat} {s:ByteArray} {p:Nat} {fa fr:Int} (h:Sc W b s p fa fr):atOf b W=p:=by
 unfold Proofs.YtbgfkdiihnidaaaGreatDoor.atOf;rw [h.cells.1.2.1];simp [intOf]
theorem pass_any (b:Nat) (s:ByteArray) (p:Nat) (fa fr:Int) (w:World) (hs62:s.size<=281474976710656) (hp:p<=s.size) (hs:Sc w b s p fa fr) :
 Calls Tryz.prog 89 #[.pointer (some ⟨b,0,none⟩)] w fun e w'=>e=.returned (.tuple #[])/\Sc w' b s ((p+passN (bytesFrom s p):Nat):Int) fa fr/\Keep (fun k _=>k≠b) w w'/\w'.heap.size=w.heap.size:=by
 have Q:=Hd hs;clear hs;obtain ⟨R,N⟩:∃ R,Hid (R=p+passN (bytesFrom s p)):=⟨_,rfl⟩;rw [<- N.out];go_enter Tryz.func89,Tryz.ntmps89;go_wp2_with fail;go_loopw [2,3] (fun _ _ wr=>∃ k:Nat,k<=s.size/\Sc wr b s k fa fr/\Hid (k+passN (bytesFrom s k)=R)/\Keep (fun k _=>k≠b) w wr/\wr.heap.size=w.heap.size) (fun _ _ wr=>s.size-atOf b wr)
 case atStart=>exact ⟨p,hp,Q.out,N.out.symm,Keep.refl _ _,rfl⟩
 case round =>
  obtain ⟨k,Z,B,j,a,D⟩:=hrel;have c:=Hd B;have x:=Hd D;obtain ⟨⟨c0,V,U,Y⟩,T,X,S⟩:=B.cells;clear B D;obtain ⟨t,z⟩:∃ t,Hid (t=s.extract k s.size):=⟨_,rfl⟩;have o:t.data.toList=bytesFrom s k:=by rw [z.out];exact tail_list s k
  have O:t.size<=281474976710656:=by rw [z.out];simp;omega
  obtain ⟨l,G⟩:∃ l,Hid (l=bytesFrom s k):=⟨_,rfl⟩;rw [<- G.out] at o j;obtain ⟨i,y⟩:∃ n,Hid (n=spanN blankB l):=⟨_,rfl⟩;obtain ⟨g,A⟩:∃ n,Hid (n=spanN feedB l):=⟨_,rfl⟩;obtain ⟨q,M⟩:∃ q,Hid (q=Lib.hasPrefix l slashes):=⟨_,rfl⟩;have H:Hid (∀ W:World,Calls Tryz.prog 56 #[.string t,.func (.func 134) #[] #[]] W fun e w'=>e=.returned (.int .i64 i)/\W=w'):=fun W=>by
   have k:=span_blank t (by omega) W
   rw [o,<- y.out] at k;exact k
  have J:Hid (∀ W:World,Calls Tryz.prog 56 #[.string t,.func (.func 136) #[] #[]] W fun e w'=>e=.returned (.int .i64 g)/\W=w'):=fun W=>by
   have k:=span_feed t (by omega) W
   rw [o,<- A.out] at k;exact k
  have I:Hid (∀ W:World,Calls Tryz.prog 135 #[.string t,.string ⟨#[47,47]⟩] W fun e w'=>e=.returned (.bool q)/\w'=W):=fun W=>by
   have k:=Go.Proofs.Tryz.strings_HasPrefix t ⟨#[47,47]⟩ W;rw [o] at k;rw [M.out];exact k
  have m:l.length=s.size-k:=by rw [G.out];exact from_len s k
  have L:i<=s.size-k:=by rw [y.out,<- m];exact spanN_le _ _
  have K:g<=s.size-k:=by rw [A.out,<- m];exact spanN_le _ _
  have v:Hid (stepN l=if q=true then g else i):=by rw [Hid,M.out,y.out,A.out];rfl
  clear o m;go_wp2;go_quiet (fail);rw [<- z.out];cases q
  · by_cases h0 : i = 0
    · subst h0
      have r:Hid (R=k):=by rw [Hid,<- j.out,passN_stop (by rw [v.out];rfl)];omega
      go_wp2_with (first
       | (go_at_call 56;(with_reducible refine (H.out _).mono ?_);rintro e w' ⟨rfl,rfl⟩)
       | (go_at_call 56;(with_reducible refine (J.out _).mono ?_);rintro e w' ⟨rfl,rfl⟩)
       | (go_at_call 135;refine (I.out _).mono ?_;rintro e w' ⟨rfl,rfl⟩))
      refine bodyPost_ret (results_none rfl _ _ _) rfl ?_;rw [r.out];exact ⟨rfl,c.out,⟨a.os,a.tape,a.output,a.size,a.block⟩,x.out⟩
    · have P : ((i : Int) == 0) = false := int_f (by omega)
      have F:0<i:=by omega
      have f:Hid (k+i+passN (bytesFrom s (k+i))=R):=by
       have C:stepN l=i:=by rw [v.out];rfl
       have E:=passN_step (l:=l) (by rw [C];exact h0)
       rw [C] at E;rw [Hid,<- j.out,E,<- from_drop,<- G.out];omega
      clear h0
      go_wp2_with (first
       | (go_at_call 56;(with_reducible refine (H.out _).mono ?_);rintro e w' ⟨rfl,rfl⟩)
       | (go_at_call 56;(with_reducible refine (J.out _).mono ?_);rintro e w' ⟨rfl,rfl⟩)
       | (go_at_call 135;refine (I.out _).mono ?_;rintro e w' ⟨rfl,rfl⟩))
      have d:Sc ((wr.drewN nq).setCell ⟨b,1,none⟩ (.int .i64 ((k:Int)+(i:Int)))) b s ((k+i:Nat):Int) fa fr:=by
       rw [Int.natCast_add];exact (show Sc (wr.drewN nq) b s k fa fr from c.out).setAt _
      go_roundw
      case rel=>exact ⟨k+i,by omega,d,f,(show Keep (fun k _=>k≠b) w (wr.drewN nq) from ⟨a.os,a.tape,a.output,a.size,a.block⟩).setCell (p:=⟨b,1,none⟩) _ c.out (fun h=>h rfl),by simp [World.setCell];exact x.out⟩
      case measure =>
       rw [d.atOf,c.out.atOf];omega
  · by_cases h0 : g = 0
    · subst h0
      have r:Hid (R=k):=by rw [Hid,<- j.out,passN_stop (by rw [v.out];rfl)];omega
      go_wp2_with (first
       | (go_at_call 56;(with_reducible refine (H.out _).mono ?_);rintro e w' ⟨rfl,rfl⟩)
       | (go_at_call 56;(with_reducible refine (J.out _).mono ?_);rintro e w' ⟨rfl,rfl⟩)
       | (go_at_call 135;refine (I.out _).mono ?_;rintro e w' ⟨rfl,rfl⟩))
      refine bodyPost_ret (results_none rfl _ _ _) rfl ?_;rw [r.out];exact ⟨rfl,c.out,⟨a.os,a.tape,a.output,a.size,a.block⟩,x.out⟩
    · have P : ((g : Int) == 0) = false := int_f (by omega)
      have F:0<g:=by omega
      have f:Hid (k+g+passN (bytesFrom s (k+g))=R):=by
       have C:stepN l=g:=by rw [v.out];rfl
       have E:=passN_step (l:=l) (by rw [C];exact h0)
       rw [C] at E;rw [Hid,<- j.out,E,<- from_drop,<- G.out];omega
      clear h0
      go_wp2_with (first
       | (go_at_call 56;(with_reducible refine (H.out _).mono ?_);rintro e w' ⟨rfl,rfl⟩)
       | (go_at_call 56;(with_reducible refine (J.out _).mono ?_);rintro e w' ⟨rfl,rfl⟩)
       | (go_at_call 135;refine (I.out _).mono ?_;rintro e w' ⟨rfl,rfl⟩))
      have d:Sc ((wr.drewN nq).setCell ⟨b,1,none⟩ (.int .i64 ((k:Int)+(g:Int)))) b s ((k+g:Nat):Int) fa fr:=by
       rw [Int.natCast_add];exact (show Sc (wr.drewN nq) b s k fa fr from c.out).setAt _
      go_roundw
      case rel=>exact ⟨k+g,by omega,d,f,(show Keep (fun k _=>k≠b) w (wr.drewN nq) from ⟨a.os,a.tape,a.output,a.size,a.block⟩).setCell (p:=⟨b,1,none⟩) _ c.out (fun h=>h rfl),by simp [World.setCell];exact x.out⟩
      case measure =>
       rw [d.atOf,c.out.atOf];omega
open Go.RowKit Go.Shelf
attribute [local go_sem] Oper.semAt_some
def IsTy (t:TypeId) (o:Obj):Prop:=∃ cs f,o=.cells cs t f
def selO (n:Nat) (k:Nat) (o:Obj):Prop:=k<n\/¬ IsTy 85 o
def selY (n:Nat) (k:Nat) (o:Obj):Prop:=k<n\/IsTy 85 o\/IsTy 149 o
def nx (s:ByteArray) (q:Nat):Nat:=q+(nextR s q).text.size+passN (bytesFrom s (q+(nextR s q).text.size))
def goH (s:ByteArray):Nat->Nat->List Res × Int × Int
 | 0,_=>([],0,0)
 | f+1,q=>if q<s.size then (if (nextR s q).fr=0 then (nextR s q::(goH s f (nx s q)).1,(goH s f (nx s q)).2) else ([],(nextR s q).fa,(nextR s q).fr)) else ([],0,0)
def frontR (s:ByteArray):List Res × Int × Int:=goH s (s.size+1) (passN (bytesFrom s 0))
theorem span_pos {p:Int->Bool} {c:UInt8} {r:List UInt8} (h:p (c.toNat:Int)=true):0<spanN p (c::r):=by
 simp only [spanN];rw [if_pos h];omega
theorem extract_size (s:ByteArray) (p n:Nat) (h:n<=s.size-p) (hp:p<=s.size):((s.extract p s.size).extract 0 n).size=n:=by
 simp;omega
theorem bt_byte (s:ByteArray) (q:Nat) (hq:q<s.size):((s[q]'hq).toNat:Int)=PlainAid.bt s q:=PlainAid.get_bt s q hq
theorem nextR_good (s:ByteArray) (q:Nat) (hq:q<s.size) (h:(nextR s q).fr=0):0<(nextR s q).text.size/\q+(nextR s q).text.size<=s.size/\(nextR s q).place=q:=by
 have g:=from_len s q;have c:=bt_byte s q hq;have d:=from_at s q hq;unfold nextR at h ⊢;by_cases h0:letterB (PlainAid.bt s q)=true
 · rw [if_pos h0] at h ⊢
   have b:=spanN_le namedB (bytesFrom s q);have f:(nameX s q).size=spanN namedB (bytesFrom s q):=extract_size s q _ (by omega) (by omega)
   have a:0<spanN namedB (bytesFrom s q):=by
    rw [d];exact span_pos (by rw [c];unfold namedB;rw [h0];rfl)
   unfold nameR at h ⊢;split
   · refine ⟨show 0<(nameX s q).size by omega,show q+(nameX s q).size<=s.size by omega,rfl⟩
   · rename_i hw
     rw [if_neg hw] at h;split
     · rename_i h32
       rw [if_pos h32] at h;simp at h
     · refine ⟨show 0<(nameX s q).size by omega,show q+(nameX s q).size<=s.size by omega,rfl⟩
 · rw [if_neg h0] at h ⊢
   by_cases h1:digitB (PlainAid.bt s q)=true
   · rw [if_pos h1] at h ⊢
     have b:=spanN_le digitB (bytesFrom s q);have f:(numX s q).size=spanN digitB (bytesFrom s q):=extract_size s q _ (by omega) (by omega)
     have a:0<spanN digitB (bytesFrom s q):=by
      rw [d];exact span_pos (by rw [c];exact h1)
     unfold numR at h ⊢;cases hv:valueO (numX s q).data.toList with
     | none=>rw [hv] at h;simp [numC] at h
     | some v =>
       rw [hv] at h;simp only [numC] at h ⊢;by_cases hb:behindB s q=true
       · rw [if_pos hb] at h;simp at h
       · rw [if_neg hb];refine ⟨show 0<(numX s q).size by omega,show q+(numX s q).size<=s.size by omega,rfl⟩
   · rw [if_neg h1] at h ⊢
     by_cases h2:signB (PlainAid.bt s q)=true
     · rw [if_pos h2] at h ⊢
       have b:=ahead_le (bytesFrom s q);have f:(signX s q).size=aheadN (bytesFrom s q):=extract_size s q _ (by omega) (by omega)
       have a:0<aheadN (bytesFrom s q):=by
        unfold aheadN;split
        · omega
        · rw [d];simp only [firstN];rw [if_pos (by rw [c];exact h2)];omega
       unfold signR;refine ⟨show 0<(signX s q).size by omega,show q+(signX s q).size<=s.size by omega,rfl⟩
     · rw [if_neg h2] at h
       simp at h
theorem goH_end {s:ByteArray} {f q:Nat} (h:¬ q<s.size):goH s f q=([],0,0):=by
 cases f with
 | zero=>rfl
 | succ f=>simp only [goH];rw [if_neg h]
theorem goH_fault {s:ByteArray} {f q:Nat} (h:q<s.size) (hf:¬ (nextR s q).fr=0):goH s (f+1) q=([],(nextR s q).fa,(nextR s q).fr):=by
 simp only [goH];rw [if_pos h,if_neg hf]
theorem goH_tok {s:ByteArray} {f q:Nat} (h:q<s.size) (hf:(nextR s q).fr=0):goH s (f+1) q=(nextR s q::(goH s f (nx s q)).1,(goH s f (nx s q)).2):=by
 simp only [goH];rw [if_pos h,if_pos hf]
def okR (s:ByteArray) (pre:List Res) (x:Res):Prop:=(pre++[x]) <+: (frontR s).1
def encR (x:Res):Array Value:=#[tokV x.kind x.text x.wd x.place]
theorem Sc.keep {W W':World} {b:Nat} {s:ByteArray} {p fa fr:Int} {sel:Nat->Obj->Prop} (h:Sc W b s p fa fr) (hk:Keep sel W W') (hs:sel b (.cells #[.string s,.int .i64 p,.int .i64 fa,.int .i64 fr] 85 (0,0))):Sc W' b s p fa fr:=hk.block _ _ h hs
def Fm (W:World) (g b:Nat):Prop:=W.heap[g]? = some (.cells (famCells b) 149 (0,0))
theorem not_ty {t u:TypeId} {cs:Array Value} {f:Nat × Nat} (h:t≠u):¬ IsTy u (.cells cs t f):=fun ⟨_,_,e⟩=>by
 cases e;exact h rfl
theorem keepO_below {n:Nat} {W W':World} (h:Below W.heap.size W W'):Keep (selO n) W W':=Keep.of_below h
open Go.RowKit Go.Shelf
attribute [local go_sem] Oper.semAt_some
theorem keepO_ne {A B:World} {n b:Nat} {s:ByteArray} {p fa fr:Int} (h:Keep (fun k _=>k≠b) A B) (hs:Sc A b s p fa fr) (hn:n<=b):Keep (selO n) A B :=
 ⟨h.os,h.tape,h.output,h.size,fun k o hk ho=>h.block k o hk (fun e=>by
  subst e
  rw [show A.heap[k]? = _ from hs] at hk
  cases hk
  rcases ho with ho | ho
  · omega
  · exact ho ⟨_,_,rfl⟩)⟩
theorem keep_drew (sel:Nat->Obj->Prop) (W:World) (n:Nat):Keep sel W (W.drewN n):=⟨rfl,rfl,rfl,Nat.le_refl _,fun _ _ h _=>h⟩
theorem not_selO {n b:Nat} {cs:Array Value} {f:Nat × Nat} (hn:n<=b):¬ selO n b (.cells cs 85 f):=fun h=>by
 rcases h with h | h
 · omega
 · exact h ⟨_,_,rfl⟩
theorem Sc.setFault {W:World} {b:Nat} {s:ByteArray} {p fa fr:Int} (h:Sc W b s p fa fr) (fa' fr':Int):Sc ((W.setCell ⟨b,2,none⟩ (.int .i64 fa')).setCell ⟨b,3,none⟩ (.int .i64 fr')) b s p fa' fr' :=
 heap_setCell_same _ b 3 _ _ (.int .i64 fr') (heap_setCell_same W b 2 _ _ (.int .i64 fa') h)
theorem Fm.cells {w:World} {g b:Nat} (h:Fm w g b) :
 w.cell? ⟨g,0,none⟩=some (.func (.func 118) #[] #[])/\w.cell? ⟨g,1,none⟩=some (.func (.func 130) #[.pointer (some ⟨b,0,none⟩)] #[])/\w.cell? ⟨g,2,none⟩=some (.func (.func 54) #[] #[])/\w.cell? ⟨g,3,none⟩=some (.func (.func 131) #[.pointer (some ⟨b,0,none⟩)] #[])/\w.cell? ⟨g,4,none⟩=some (.func (.func 132) #[] #[])/\w.cell? ⟨g,5,none⟩=some (.func (.func 133) #[.pointer (some ⟨b,0,none⟩)] #[]) :=
 ⟨cell_of_row w g 0 _ _ _ h,cell_of_row w g 1 _ _ _ h,cell_of_row w g 2 _ _ _ h,cell_of_row w g 3 _ _ _ h,cell_of_row w g 4 _ _ _ h,cell_of_row w g 5 _ _ _ h⟩
theorem Sc.alloc {W:World} {b:Nat} {s:ByteArray} {p fa fr:Int} (h:Sc W b s p fa fr) (o:Obj):Sc (W.alloc o) b s p fa fr:=(Below.heap_alloc W o b h.lt).trans h
theorem tokens_in (n l b:Nat) (s:ByteArray) (hs:s.size<=65536) (w0:World) (T:LTabs w0) (J Jx:List Res->World->Prop)
 (hJ:∀ p A B,J p A->Keep (selO w0.heap.size) A B->J p B) (hJx:∀ p A B,Jx p A->Keep (selO w0.heap.size) A B->Jx p B)
 (hY:∀ pre x W1,J pre W1->okR s pre x->YieldAt Fence.wide (n-1) Tryz.prog l (encR x) W1 fun e W' =>
  (e=.returned (.bool true)/\J (pre++[x]) W'/\Keep (selY w0.heap.size) W1 W')\/(e=.returned (.bool false)/\Jx (pre++[x]) W'/\Keep (selY w0.heap.size) W1 W'))
 (W:World) (hW:Below w0.heap.size w0 W) (hbn:w0.heap.size<=b) (hsc:Sc W b s 0 0 0) (h0:J [] W) :
 CallsIn Fence.wide n Tryz.prog 34 #[.pointer (some ⟨b,0,none⟩),.func (.yield l) #[] #[]] W fun e W'=>(∃ v,e=.returned v) /\
  ((∃ xs,(xs=(frontR s).1/\∃ p:Nat,Sc W' b s p (frontR s).2.1 (frontR s).2.2)/\J xs W')\/(∃ pre,True/\Jx pre W')):=by
 have HS:=Hd hsc;have HJ:=Hd hJ;have bn:=Hd hJx;have HY:=Hd hY;have HW:=Hd hW;have HT:=Hd T;have H0:=Hd h0;clear hsc hJ hJx hY hW T h0;refine callsIn_of_wp Tryz.func34 rfl trivial ?_ rfl;simp only [Tryz.ntmps34,List.size_toArray,List.length_cons,List.length_nil,Nat.reduceAdd,Nat.reduceSub,Array.replicate_succ,Array.replicate_zero,List.push_toArray,List.append_toArray,List.nil_append,List.cons_append]
 gi_wp2_with ((refine ⟨trivial,(by intro h;cases h),?_⟩);first
  | (gi_at_call 88;refine (callsIn_wide.2 (families_any b _)).mono ?_;rintro e w1 ⟨rfl,X⟩;unfold famCells)
  | (gi_at_call 89;refine (callsIn_wide.2 (pass_any b s 0 0 0 _ (by omega) (Nat.zero_le _) ((HS.out.below X HS.out.lt).alloc _))).mono ?_;rintro e w2 ⟨rfl,O,ap,be⟩;rw [Nat.zero_add] at O;have am:=Hd O;have D:=Hd ap;have E:=Hd X;clear O ap be X))
 gi_loopw [5,6] (fun _ _ wr=>∃ (pre:List Res) (k f:Nat),k<=s.size/\s.size<f+k/\Sc wr b s k 0 0/\Fm wr w1.heap.size b/\Hid (Below w0.heap.size w0 wr)/\Hid ((frontR s).1=pre++(goH s f k).1/\(frontR s).2=(goH s f k).2)/\Hid (J pre wr)) (fun _ _ wr=>s.size-atOf b wr)
 case atStart =>
  have a1:=HS.out.lt;have b7:=E.out.size;refine ⟨[],passN (bytesFrom s 0),s.size+1,?_,by omega,am.out,D.out.block _ _ (World.alloc_heap_new w1 _) (by omega),?_,⟨rfl,rfl⟩,?_⟩
  · have := passN_le _ (bytesFrom s 0) (Nat.le_refl _)
    rw [from_len] at this;omega
  · exact (HW.out.trans ((E.out.mono (by have:=HW.out.size;omega)).alloc (by have:=HW.out.size;omega) _)).trans (D.out.below (by have:=HW.out.size;simp;omega) (fun k _ hk=>by omega))
  · exact HJ.out _ _ _ H0.out (((keepO_below E.out).alloc _).trans (keepO_ne D.out ((HS.out.below E.out a1).alloc _) hbn))
 case round =>
  obtain ⟨pre,k,f,hk,hf,hsc,au,Y,q,hj⟩:=hrel;have g:=Hd hsc;have C:=Hd au;clear hsc au am D;obtain ⟨⟨c0,c1,c2,c3⟩,f1,f2,f3⟩:=g.out.cells;have c:=g.out.lt;by_cases hlt:k<s.size
  · obtain ⟨m0, m1, m2, m3, m4, m5⟩ := C.out.cells
    obtain ⟨R,M⟩:∃ R,Hid (R=nextR s k):=⟨_,rfl⟩;have HN:Hid (∀ m:Nat,Calls Tryz.prog 90 #[.pointer (some ⟨b,0,none⟩),.agg (famCells b)] (wr.drewN m) fun e w'=>e=.returned R.val/\Below (wr.drewN m).heap.size (wr.drewN m) w'):=fun m=>by
     rw [M.out];exact next_any b s k 0 0 _ (HT.out.below (Nat.le_refl _) ⟨Y.out.os,Y.out.tape,Y.out.output,Y.out.size,Y.out.block⟩) (by omega) hlt (show Sc (wr.drewN m) b s k 0 0 from g.out)
    have bg:(k:Int)<(s.size:Int):=by omega
    obtain ⟨rk,i,y,rp,Z,z⟩:=R;have HN:Hid (∀ m:Nat,Calls Tryz.prog 90 #[.pointer (some ⟨b,0,none⟩),.agg #[.func (.func 118) #[] #[],.func (.func 130) #[.pointer (some ⟨b,0,none⟩)] #[],.func (.func 54) #[] #[],.func (.func 131) #[.pointer (some ⟨b,0,none⟩)] #[],.func (.func 132) #[] #[],.func (.func 133) #[.pointer (some ⟨b,0,none⟩)] #[]]] (wr.drewN m) fun e w'=>e=.returned (.tuple #[.agg #[.int .u8 rk,.string i,.int .i64 y,.int .i64 rp],.agg #[.int .i64 Z,.int .i64 z]])/\Below wr.heap.size wr w'):=fun m =>
     (HN.out m).mono fun _ _ h=>⟨h.1,⟨h.2.os,h.2.tape,h.2.output,h.2.size,h.2.block⟩⟩
    gi_wp2
    gi_quiet (fail)
    gi_wp2_with ((refine ⟨trivial,(by intro h;cases h),?_⟩);gi_at_call 90;refine (callsIn_wide.2 (HN.out _)).mono ?_;rintro e H ⟨rfl,d⟩;have j:=Hd d;have d0:=cb d c c0;have d1:=cb d c c1;have d2:=cb d c c2;have d3:=cb d c c3;have e1:=(d.frozen (p:=⟨b,1,none⟩) c).trans f1;have e2:=(d.frozen (p:=⟨b,2,none⟩) c).trans f2;have e3:=(d.frozen (p:=⟨b,3,none⟩) c).trans f3;have ao:b<H.heap.size:=Nat.lt_of_lt_of_le c d.size;have bl:b<H.heap.size+1:=Nat.lt_succ_of_lt ao;clear d)
    ·
     rename_i N
     have a:Sc H b s k 0 0:=g.out.below j.out c;have a9:¬ (nextR s k).fr=0:=by
      rw [<- M.out];intro h0;have:(z != 0)=true:=N;rw [show z=0 from h0] at this
      cases this
     obtain ⟨f,rfl⟩:∃ f',f=f'+1:=⟨f-1,by omega⟩
     have hg:=goH_fault (f:=f) hlt a9;have bj:w0.heap.size<=b:=hbn;have o:=(Keep.setCell (p:=⟨b,3,none⟩) (Keep.setCell (p:=⟨b,2,none⟩) (keepO_below (n:=w0.heap.size) j.out) (.int .i64 Z) a (not_selO hbn)) (.int .i64 z) (heap_setCell_same H b 2 _ _ (.int .i64 Z) a) (not_selO hbn));refine bodyPost_ret (results_none rfl _ _ _) rfl ⟨⟨_,rfl⟩,.inl ⟨pre,⟨?_,k,?_⟩,HJ.out _ _ _ hj.out ((o.alloc _).alloc _)⟩⟩
     · rw [q.out.1,hg,List.append_nil]
     · rw [q.out.2, hg, <- M.out]
       exact ((a.setFault Z z).alloc _).alloc _
    · have N : Hid ((z != 0) = false) := by assumption
      have aj:Hid ((nextR s k).fr=0):=by
       have G:=N.out;rw [Hid,<- M.out];show z=0;simpa using G
      obtain ⟨g1,g2,g3⟩:=nextR_good s k hlt aj.out;rw [<- M.out] at g1 g2 g3;have q1:0<i.size:=g1;have q2:k+i.size<=s.size:=g2;obtain rfl:rp=(k:Int):=g3;clear g1 g2;obtain ⟨f,rfl⟩:∃ f',f=f'+1:=⟨f-1,by omega⟩
      have hg:=Hd (goH_tok (f:=f) hlt aj.out);have S:Hid (nx s k=k+i.size+passN (bytesFrom s (k+i.size))):=by
       unfold nx;rw [Hid,<- M.out]
      have ay:Hid (nx s k<=s.size):=by
       have:=passN_le _ (bytesFrom s (k+i.size)) (Nat.le_refl _);rw [from_len] at this;rw [Hid,S.out];omega
      have ag:Hid (k+i.size<=nx s k):=by rw [Hid,S.out];omega
      gi_region
      gi_wp2
      obtain ⟨U,F⟩:=Qx ((((H.setCell { block:=b,off:=1 } (Value.int IntKind.i64 (↑k + ↑i.size))).alloc (Obj.cells #[Value.int IntKind.u8 rk,Value.string i,Value.int IntKind.i64 y,Value.int IntKind.i64 ↑k] 50)).alloc (Obj.cells #[Value.int IntKind.i64 Z,Value.int IntKind.i64 z] 29)).drew);rw [<- F];have a:Sc H b s k 0 0:=g.out.below j.out c;have o:Keep (fun k _=>k≠b) H U:=by
       rw [F];have h:=(((Keep.refl (fun k _=>k≠b) H).setCell (p:=⟨b,1,none⟩) (.int .i64 (↑k + ↑i.size)) a (fun h=>h rfl)).alloc (Obj.cells #[Value.int IntKind.u8 rk,Value.string i,Value.int IntKind.i64 y,Value.int IntKind.i64 ↑k] 50)).alloc (Obj.cells #[Value.int IntKind.i64 Z,Value.int IntKind.i64 z] 29)
       exact ⟨h.os,h.tape,h.output,h.size,h.block⟩
      have I:Sc U b s ((k+i.size:Nat):Int) 0 0:=by
       rw [F,Int.natCast_add];exact (((a.setAt ((k:Int)+(i.size:Int))).alloc (Obj.cells #[Value.int IntKind.u8 rk,Value.string i,Value.int IntKind.i64 y,Value.int IntKind.i64 ↑k] 50)).alloc (Obj.cells #[Value.int IntKind.i64 Z,Value.int IntKind.i64 z] 29) :)
      have bp:=Y.out.size;have bm:=HW.out.size;have b2:=j.out.size;have bq:=o.size;have ai:w1.heap.size≠b:=fun e=>by
       have G:=C.out;have h2:=g.out;unfold Fm at G;rw [e,show wr.heap[b]? = _ from h2] at G
       simp at G
      have ba:w1.heap.size<wr.heap.size:=(Array.getElem?_eq_some_iff.1 C.out).1;have K:Fm U w1.heap.size b:=o.block _ _ ((j.out.block _ ba).trans C.out) ai;have ax:Below w0.heap.size w0 U:=(Y.out.trans (j.out.mono (by have:=HW.out.size;omega))).trans (o.below (by omega) (fun k _ hk=>by omega))
      have ah:J pre U:=HJ.out _ _ _ (HJ.out _ _ _ hj.out (keepO_below j.out)) (keepO_ne o a hbn);have bd:okR s pre (nextR s k):=⟨(goH s f (nx s k)).1,by rw [q.out.1,hg.out];simp⟩
      obtain ⟨fn,bi,a0,body,hy,P⟩:=HY.out pre _ U ah bd;rw [<- M.out] at hy;rw [show (Instr.yield l #[Value.agg #[Value.int IntKind.u8 rk,Value.string i,Value.int IntKind.i64 y,Value.int IntKind.i64 ↑k]]).run Tryz.prog U=_ from hy]
      have a3:=Hd I;have a6:=Hd K;have a8:=Hd ax;clear hy I K ax o F a ai ah;refine ⟨(by intro h;cases h),P.mono ?_⟩
      rintro e W4 (⟨rfl,t,r⟩ | ⟨rfl,t,r⟩)
      · have ar : Sc W4 b s ((k + i.size : Nat) : Int) 0 0 := a3.out.keep r (.inr (.inl ⟨_, _, rfl⟩))
        have Q:=Hd ar;have an:Hid (Fm W4 w1.heap.size b):=r.block _ _ a6.out (.inr (.inr ⟨_,_,rfl⟩));have aq:Hid (Below w0.heap.size w0 W4):=a8.out.trans (r.below (by omega) (fun k _ hk=>.inl hk))
        have V:=Hd t;have b1:w0.heap.size<=W4.heap.size:=aq.out.size;clear t r P
        gi_wp2_with ((refine ⟨trivial,(by intro h;cases h),?_⟩);gi_at_call 89;refine (callsIn_wide.2 (pass_any b s (k+i.size) 0 0 W4 (by omega) q2 Q.out)).mono ?_;rintro e w5 ⟨rfl,af,aw,a4⟩;have ak:=Hd af;have L:=Hd aw;clear af aw a4)
        go_roundw
        case rel =>
         refine ⟨pre++[nextR s k],nx s k,f,ay.out,by have:=ag.out;omega,?_,?_,?_,⟨?_,?_⟩,?_⟩
         · rw [S.out];exact ak.out
         · exact L.out.block _ _ an.out (by
          intro e
          have G:=an.out
          have h2:=Q.out
          unfold Fm at G
          rw [e,show W4.heap[b]? = _ from h2] at G
          simp at G)
         · exact aq.out.trans (L.out.below (by omega) (fun k _ hk=>by omega))
         · rw [q.out.1,hg.out];simp
         · rw [q.out.2,hg.out]
         · exact HJ.out _ _ _ V.out (keepO_ne L.out Q.out hbn)
        case measure =>
         have h5:=ak.out.atOf;have h6:=g.out.atOf;rw [h5,h6];omega
      · have V := Hd t
        clear t r P
        gi_wp2
        refine bodyPost_ret (results_none rfl _ _ _) rfl ⟨⟨_,rfl⟩,.inr ⟨_,trivial,V.out⟩⟩
  · have hd : Hid (Sc (wr.drewN 0) b s k 0 0) := g.out
    gi_wp2
    gi_quiet (fail)
    gi_wp2
    go_end0;refine ⟨⟨_,rfl⟩,.inl ⟨pre,⟨?_,k,?_⟩,HJ.out _ _ _ hj.out (keep_drew _ _ _)⟩⟩
    · rw [q.out.1,goH_end hlt,List.append_nil]
    · rw [q.out.2, goH_end hlt]
      exact g.out
open Go.RowKit Go.Shelf
attribute [local go_sem] Oper.semAt_some
def tokCells (r:Res):List Value:=[.int .u8 r.kind,.string r.text,.int .i64 r.wd,.int .i64 r.place]
def rowR (xs:List Res):List Value:=xs.flatMap tokCells
theorem rowR_snoc (xs:List Res) (x:Res):rowR (xs++[x])=rowR xs++tokCells x:=by
 simp [rowR]
def selC (n:Nat) (k:Nat) (o:Obj):Prop:=k<n\/(o.isCells=true/\¬ IsTy 85 o)
def selB (n:Nat) (k:Nat) (o:Obj):Prop:=selY n k o\/o.isCells=false
theorem boxC {W W':World} {B n:Nat} {t:TypeId} {v:Value} (h:Boxed W B t v) (hk:Keep (selC n) W W') (ht:t≠85):Boxed W' B t v :=
 hk.block _ _ h (.inr ⟨rfl,not_ty ht⟩)
theorem ownsRow_keep {W W':World} {sel:Nat->Obj->Prop} {base:Nat} {e:TypeId} {size:Nat} {v:Value} {k:Nat} {xs:List Value} (h:W.ownsRow base e size v k xs) (hk:Keep sel W W') (hs:∀ g cs,base<=g->sel g (.cells cs e (0,0))):W'.ownsRow base e size v k xs:=by
 refine ⟨h.1,?_⟩;rcases h.2 with f | ⟨g,b,c,i,d,j,a⟩
 · exact .inl f
 · exact .inr ⟨g,b,c,i,d,hk.block _ _ j (hs _ _ d),a⟩
def TokBox (W:World) (B:Nat) (x:Res):Prop:=W.heap[B]? = some (.cells #[.int .u8 x.kind,.string x.text,.int .i64 x.wd,.int .i64 x.place] 50 (0,0))
def Lst (n₀ B:Nat) (pre:List Res) (W:World):Prop :=
 ∃ v,Boxed W B 44 v/\W.ownsRow n₀ 50 4 v pre.length (rowR pre)/\(v=.slice none 0 0↔pre=[])
theorem Lst.keepC {n₀ B n:Nat} {pre:List Res} {W W':World} (h:Lst n₀ B pre W) (hk:Keep (selC n) W W'):Lst n₀ B pre W':=by
 obtain ⟨v,b,a,c⟩:=h;exact ⟨v,boxC b hk (by decide),ownsRow_keep a hk (fun g cs _=>.inr ⟨rfl,not_ty (by decide)⟩),c⟩
theorem infoTok:(Tryz.prog.info? 50).map (fun i=>(i.zero,i.size,i.bytes))=some (some (.agg #[.int .u8 0,.string ⟨#[]⟩,.int .i64 0,.int .i64 0]),4,40):=by kernel_rfl
theorem goH_len (s:ByteArray):∀ (f q:Nat),q<=s.size->(goH s f q).1.length<=s.size-q
 | 0,q,h=>Nat.zero_le _
 | f + 1, q, h => by
   by_cases hq:q<s.size
   · by_cases hr : (nextR s q).fr = 0
     · rw [goH_tok hq hr]
       obtain ⟨g1,g2,_⟩:=nextR_good s q hq hr
       have g3:nx s q<=s.size:=by
        have:=passN_le _ (bytesFrom s (q+(nextR s q).text.size)) (Nat.le_refl _);rw [from_len] at this;unfold nx;omega
       have a:q+(nextR s q).text.size<=nx s q:=by unfold nx;omega
       have:=goH_len s f (nx s q) g3;simp only [List.length_cons];omega
     · rw [goH_fault hq hr];exact Nat.zero_le _
   · rw [goH_end hq];exact Nat.zero_le _
theorem front_len (s:ByteArray):(frontR s).1.length<=s.size:=by
 have:=passN_le _ (bytesFrom s 0) (Nat.le_refl _);rw [from_len] at this;have:=goH_len s (s.size+1) (passN (bytesFrom s 0)) (by omega)
 unfold frontR;omega
theorem okR_len {s:ByteArray} {pre:List Res} {x:Res} (h:okR s pre x) (hs:s.size<=65536):pre.length+1<=65536:=by
 obtain ⟨t,a⟩:=h;have:=congrArg List.length a;have:=front_len s;simp at *;omega
theorem cell_four {W:World} {g:Nat} {a b c d:Value} {t:TypeId} (h:W.heap[g]? = some (.cells #[a,b,c,d] t (0,0))) (j:Nat) (u:Value) (hj:[a,b,c,d][j]? = some u):W.cell? ((⟨g,0,none⟩:Addr).add j)=some u:=by
 obtain ⟨⟨f,l,k,i⟩,_⟩:=row4 h
 match j,hj with
 | 0,hj=>cases hj;exact f
 | 1,hj=>cases hj;exact l
 | 2,hj=>cases hj;exact k
 | 3,hj=>cases hj;exact i
theorem appended_keep {sel:Nat->Obj->Prop} {W w1:World} {n₀ B:Nat} {v v':Value} {k:Nat} {xs:List Value} {tmp:Obj}
 (hrow:W.ownsRow n₀ 50 4 v k xs) (hgrow:(W.alloc tmp).grownBy w1 v.ownBlock) (hv1:Boxed w1 B 44 v) (hs:∀ g cs,n₀<=g->¬ sel g (.cells cs 50 (0,0))) (hs2:∀ cs,¬ sel B (.cells cs 44 (0,0))) :
 Keep sel W (w1.setCell ⟨B,0,none⟩ v'):=by
 refine (((Keep.refl sel W).alloc tmp).grown hgrow fun r o er ho=>?_).setCell (p:=⟨B,0,none⟩) v' hv1 (hs2 _)
 rcases (hrow.alloc tmp).2 with ⟨rfl,_⟩ | ⟨g,b,d,rfl,c,a,_⟩
 · simp [Value.ownBlock] at er
 · obtain rfl : g = r := by simpa [Value.ownBlock] using er
   rw [a] at ho;cases ho;exact hs _ _ c
theorem notB {n g:Nat} {cs:Array Value} {t:TypeId} (hn:n<=g) (h1:t≠85) (h2:t≠149):¬ selB n g (.cells cs t (0,0)):=fun h=>by
 rcases h with (h | h | h) | h
 · omega
 · exact not_ty h1 h
 · exact not_ty h2 h
 · cases h
open Go.RowKit Go.Shelf
attribute [local go_sem] Oper.semAt_some
def scanPost (s:ByteArray) (n₀:Nat) (W:World) (v:Value):Prop :=
 if 65536<s.size then v=.tuple #[.slice none 0 0,.int .i64 4,faultV 0 0]
 else if (frontR s).2.2=0 then ∃ u,v=.tuple #[u,.int .i64 0,faultV 0 0]/\W.ownsRow n₀ 50 4 u (frontR s).1.length (rowR (frontR s).1)/\(u=.slice none 0 0↔(frontR s).1=[])
 else v=.tuple #[.slice none 0 0,.int .i64 20,faultV (frontR s).2.1 (frontR s).2.2]
def FltBox (W:World) (B:Nat):Prop:=W.heap[B]? = some (.cells #[.int .i64 0,.int .i64 0] 29 (0,0))
theorem scan_end {W:World} {D n₀:Nat} (hfb:FltBox W n₀) (hK:W.heap[D]? = some (.deferred (some []))) (hD:n₀<D) (a r:Int) :
 ((W.setCell ⟨n₀,0,none⟩ (.int .i64 a)).setCell ⟨n₀,1,none⟩ (.int .i64 r)).heap[D]? = some (.deferred (some [])) /\
 (((W.setCell ⟨n₀,0,none⟩ (.int .i64 a)).setCell ⟨n₀,1,none⟩ (.int .i64 r)).putObj D (.deferred none)).heap[n₀]? = some (.cells #[.int .i64 a,.int .i64 r] 29 (0,0)) /\
 Keep (fun k o=>k<n₀\/IsTy 50 o) W (((W.setCell ⟨n₀,0,none⟩ (.int .i64 a)).setCell ⟨n₀,1,none⟩ (.int .i64 r)).putObj D (.deferred none)):=by
 have c:=heap_setCell_same W n₀ 0 _ _ (.int .i64 a) hfb;have d:=heap_setCell_same _ n₀ 1 _ _ (.int .i64 r) c
 have b:((W.setCell ⟨n₀,0,none⟩ (.int .i64 a)).setCell ⟨n₀,1,none⟩ (.int .i64 r)).heap[D]? = some (.deferred (some [])) :=
  (Below.heap_setCell _ _ _ _ (show D≠n₀ by omega)).trans ((Below.heap_setCell _ _ _ _ (show D≠n₀ by omega)).trans hK)
 refine ⟨b,(World.putObj_heap_other (by omega)).trans d,?_⟩
 refine (((Keep.refl _ W).setCell (p:=⟨n₀,0,none⟩) _ hfb ?_).setCell (p:=⟨n₀,1,none⟩) _ c ?_).putObj _ b ?_
 · rintro (h | h)
   · exact Nat.lt_irrefl _ h
   · exact not_ty (by decide) h
 · rintro (h | h)
   · exact Nat.lt_irrefl _ h
   · exact not_ty (by decide) h
 · rintro (h | ⟨_, _, h⟩)
   · omega
   · cases h
theorem scan_any (s:ByteArray) (w:World) (T:LTabs w) :
 Calls Tryz.prog 12 #[.string s] w fun e w'=>(∃ v,e=.returned v/\scanPost s w.heap.size w' v)/\Below w.heap.size w w':=by
 by_cases hl:65536<s.size
 · go_enter Tryz.func12, Tryz.ntmps12
   have ag:(65536:Int)<(s.size:Int):=by omega
   go_wp2;refine bodyPost_ret (v:=.tuple #[.slice none 0 0,.int .i64 4,.agg #[.int .i64 0,.int .i64 0]]) (by simp [results,Tryz.results12,go_sem]) rfl ⟨⟨_,rfl,?_⟩,(Below.refl _ w).alloc (Nat.le_refl _) _⟩
   unfold scanPost;rw [if_pos hl];rfl
 · refine (callsIn_wide (n := 3)).1 ?_
   have ag:¬ (65536:Int)<(s.size:Int):=by omega
   have HT:=Hd T;clear T;obtain ⟨i0,Z,ab,ap,an⟩:=info_parts infoTok;refine callsIn_of_wp_marks Tryz.func12 rfl trivial ?_ rfl;simp only [Tryz.ntmps12,List.size_toArray,List.length_cons,List.length_nil,Nat.reduceAdd,Nat.reduceSub,Array.replicate_succ,Array.replicate_zero,List.push_toArray,List.append_toArray,List.nil_append,List.cons_append]
   gi_wp2
   obtain ⟨V,m⟩:=Qx ((((w.alloc (Obj.cells #[Value.int IntKind.i64 0,Value.int IntKind.i64 0] 29)).alloc (Obj.cells #[Value.string s,Value.int IntKind.i64 0,Value.int IntKind.i64 0,Value.int IntKind.i64 0] 85)).alloc (Obj.cells #[Value.slice none 0 0] 44)));rw [<- m];have hz:V.heap.size=w.heap.size+3:=by rw [m];simp
   have O:Below w.heap.size w V:=by rw [m];exact (((Below.refl _ w).alloc (Nat.le_refl _) _).alloc (by simp) _).alloc (by simp;omega) _
   have M:FltBox V w.heap.size:=by
    rw [m];exact ((Below.heap_alloc _ _ _ (by simp;omega)).trans ((Below.heap_alloc _ _ _ (by simp)).trans (World.alloc_heap_new w _)))
   have ae:Sc V (w.heap.size+1) s 0 0 0:=by
    rw [m];have h:=World.alloc_heap_new (w.alloc (Obj.cells #[Value.int IntKind.i64 0,Value.int IntKind.i64 0] 29)) (Obj.cells #[Value.string s,Value.int IntKind.i64 0,Value.int IntKind.i64 0,Value.int IntKind.i64 0] 85);rw [World.size_alloc] at h;exact (Below.heap_alloc _ _ _ (by simp)).trans h
   have X:Boxed V (w.heap.size+1+1) 44 (.slice none 0 0):=by
    rw [m];have h:=World.alloc_heap_new ((w.alloc (Obj.cells #[Value.int IntKind.i64 0,Value.int IntKind.i64 0] 29)).alloc (Obj.cells #[Value.string s,Value.int IntKind.i64 0,Value.int IntKind.i64 0,Value.int IntKind.i64 0] 85)) (Obj.cells #[Value.slice none 0 0] 44);rw [World.size_alloc,World.size_alloc] at h;exact h
   clear m
   have hI:∀ (b:List Res) (A B:World),(Lst w.heap.size (w.heap.size+1+1) b A/\FltBox A w.heap.size/\Below w.heap.size w A)->Keep (selC w.heap.size) A B->(Lst w.heap.size (w.heap.size+1+1) b B/\FltBox B w.heap.size/\Below w.heap.size w B) :=
    fun b A B h d=>⟨h.1.keepC d,d.block _ _ h.2.1 (.inr ⟨rfl,not_ty (by decide)⟩),h.2.2.trans (d.below h.2.2.size (fun k _ d=>.inl d))⟩
   refine wpIn_range_keep (n:=3) rfl (by omega) (gf:=34) (fst:=#[.pointer (some ⟨w.heap.size+1,0,none⟩)]) (lb:=#[]) rfl trivial (enters_of Tryz.func34 (by kernel_rfl) rfl)
    (encs:=encR) (fun _=>rfl) (selO w.heap.size) (selY w.heap.size) (selC w.heap.size)
    (fun k o f=>.inr (fun ⟨_,_,e⟩=>by rw [e] at f;cases f))
    (fun k o d f=>by
     rcases f with f | ⟨_,_,e⟩ | ⟨_,_,e⟩
     · omega
     · rw [e];rfl
     · rw [e];rfl)
    (fun k o d f=>by
     rcases f with f | f
     · omega
     · exact f.1)
    (fun k o f=>by
     rcases f with f | f
     · exact .inl f
     · exact .inr f.2)
    (S:=fun xs W=>xs=(frontR s).1/\∃ p:Nat,Sc W (w.heap.size+1) s p (frontR s).2.1 (frontR s).2.2) (Sp:=fun _ _=>True) (ok:=okR s)
    (fun l J Jx W hbW hJ hJx hYl hJ0=>tokens_in 2 l (w.heap.size+1) s (by omega) w HT.out J Jx hJ hJx hYl W (O.trans (hbW.mono (by omega))) (by omega) (ae.below hbW (by omega)) hJ0)
    (fun b W=>Lst w.heap.size (w.heap.size+1+1) b W/\FltBox W w.heap.size/\Below w.heap.size w W)
    (fun _ _ _=>False)
    hI
    (fun _ _ _ _ h _=>h)
    ⟨⟨_,X,World.ownsRow_nil _ _ _ _,by simp⟩,M,O⟩
    (fun x a' W=>∃ Bx,TokBox W Bx x/\a'={ tmps:=#[Value.string s,undef,Value.slice none 0 0,Value.int IntKind.i64 0,Value.pointer (some { block:=w.heap.size,off:=0 }),Value.pointer (some { block:=w.heap.size+1,off:=0 }),Value.pointer (some { block:=w.heap.size+1+1,off:=0 }),Value.pointer (some { block:=Bx,off:=0 }),Value.string s,Value.int IntKind.i64 ↑s.size,Value.bool false,undef,Value.string s,Value.agg #[Value.string s,Value.int IntKind.i64 0,Value.int IntKind.i64 0,Value.int IntKind.i64 0],Value.func (Fn.func 34) #[Value.pointer (some { block:=w.heap.size+1,off:=0 })] #[],tokV x.kind x.text x.wd x.place,undef,undef,undef,undef,undef,undef,undef,undef,undef,undef,undef,undef],defers:=[] })
    (fun x a' A B h d=>by
     obtain ⟨Bx,h1,h2⟩:=h
     exact ⟨Bx,d.block _ _ h1 (.inr ⟨rfl,not_ty (by decide)⟩),h2⟩)
    ?assign ?body ?done ?stop
   case assign =>
    rintro l b x W K Z N;have HI:=Hd Z;have Y:=Hd N;obtain ⟨rk,rx,P,rp,C,y⟩:=x;clear Z N;simp only [encR,tokV]
    gi_wp2
    exact Y.out _ _ ((Keep.refl _ W).alloc _) (hI _ _ _ HI.out ((Keep.refl _ W).alloc _)) ⟨W.heap.size,World.alloc_heap_new W _,rfl⟩
   case body =>
    rintro l b x a' W ⟨⟨v,Q,a,q⟩,r,L⟩ ⟨Bx,I,rfl⟩ al;have au:=okR_len al (by omega)
    obtain ⟨rk,rx,P,rp,C,y⟩:=x;obtain ⟨⟨t0,t1,t2,t3⟩,_⟩:=row4 I;have hc:=Q.cell;have HB:=Hd L;have ad:w.heap.size<=W.heap.size:=L.size;have HF:=Hd r;have bi:=Hd I;clear L r I;simp only [tokV]
    gi_wp2_with (gi_at_builtin;refine wpListIn_append_own _ rfl _ _ 44 rfl w.heap.size 50 i0 _ 4 40 Tryz.underlying44 Z ab ap an rfl (by decide) _ _ _ rfl (a.alloc _) ⟨W.heap.size,0,none⟩ 1 1 [.int .u8 rk,.string rx,.int .i64 P,.int .i64 rp] rfl rfl (fun j u hj=>cell_four (World.alloc_heap_new W _) j u hj) (by simp [Value.oneCell']) (by simp only [maxLen];omega) (by omega) (by simp;omega) ?_;intro v' w1 t i _;obtain ⟨g',aw,rfl⟩:=ownsRow_succ t;obtain ⟨E,aa,ak,_,ah⟩:=Q.appended (by decide) a ad (by omega) t i;have bb:=E.cell;have bj:=E.frozen)
    refine ⟨appended_keep (sel:=selB w.heap.size) a i E (fun g cs hg=>notB hg (by decide) (by decide)) (fun cs=>notB (by omega) (by decide) (by decide)),⟨_,aa,?_,?_⟩,?_,HB.out.trans ah⟩
    · rw [rowR_snoc,List.length_append];exact ak
    · simp
    · exact (appended_keep (sel:=fun k o=>IsTy 29 o) a i E (fun _ _ _=>not_ty (by decide)) (fun _=>not_ty (by decide))).block _ _ HF.out ⟨_,_,rfl⟩
   case done =>
    rintro D xs W1 W hD ⟨rfl,p,F⟩ ⟨⟨v,Q,a,q⟩,r,L⟩ d N;have G:Sc W (w.heap.size+1) s p (frontR s).2.1 (frontR s).2.2:=F.keep d (.inr rfl);obtain ⟨⟨c0,c1,c2,c3⟩,f1,f2,f3⟩:=G.cells;obtain ⟨⟨b0,b1⟩,b2,b3⟩:=row2 r;have hc:=Q.cell;have bk:=L.size;obtain ⟨R,hR⟩:∃ R,Hid (R=frontR s):=⟨_,rfl⟩;rw [<- hR.out] at c2 c3 a q;obtain ⟨bd,C,y⟩:=R;have U:=Hd r;have Y:=Hd N;have z:=Hd L;have HR:=Hd a;have HN:=Hd q;clear r N L a q d F G Q;by_cases hrr:y=0
    · subst hrr
      gi_wp2
      obtain ⟨k1,k2,H⟩:=scan_end U.out Y.out (by omega) 0 0
      refine ⟨by simp,.inl ⟨_,_,rfl,run_takeDeferred k1,?_⟩⟩
      obtain ⟨⟨z0,z1⟩,_⟩:=row2 k2;refine ⟨.tuple #[v,.int .i64 0,.agg #[.int .i64 0,.int .i64 0]],by simp [results,Tryz.results12,go_sem,z0,z1],⟨_,rfl,?_⟩,z.out.trans (H.below z.out.size (fun k _ d=>.inl d))⟩
      unfold scanPost;rw [if_neg hl,<- hR.out,if_pos rfl];exact ⟨v,rfl,ownsRow_keep HR.out H (fun g cs _=>.inr ⟨_,_,rfl⟩),HN.out⟩
    · have a8 : (y != 0) = true := by simpa using hrr
      gi_wp2
      gi_region
      gi_wp2
      obtain ⟨k1,k2,H⟩:=scan_end U.out Y.out (by omega) C y
      obtain ⟨⟨z0,z1⟩,_⟩:=row2 k2;have k4:Keep (fun k o=>k<w.heap.size\/IsTy 50 o) W ((((W.setCell ⟨w.heap.size,0,none⟩ (.int .i64 C)).setCell ⟨w.heap.size,1,none⟩ (.int .i64 y)).drew).putObj D (.deferred none)):=⟨H.os,H.tape,H.output,H.size,H.block⟩
      have y0:((((W.setCell ⟨w.heap.size,0,none⟩ (.int .i64 C)).setCell ⟨w.heap.size,1,none⟩ (.int .i64 y)).drew).putObj D (.deferred none)).cell? ⟨w.heap.size,0,none⟩=some (.int .i64 C):=z0;have y1:((((W.setCell ⟨w.heap.size,0,none⟩ (.int .i64 C)).setCell ⟨w.heap.size,1,none⟩ (.int .i64 y)).drew).putObj D (.deferred none)).cell? ⟨w.heap.size,1,none⟩=some (.int .i64 y):=z1;refine ⟨by simp,.inl ⟨_,_,rfl,run_takeDeferred (show ((W.setCell ⟨w.heap.size,0,none⟩ (.int .i64 C)).setCell ⟨w.heap.size,1,none⟩ (.int .i64 y)).drew.heap[D]? = _ from k1),?_⟩⟩
      refine ⟨.tuple #[.slice none 0 0,.int .i64 20,.agg #[.int .i64 C,.int .i64 y]],by simp [results,Tryz.results12,go_sem,y0,y1],⟨_,rfl,?_⟩,z.out.trans (k4.below z.out.size (fun k _ d=>.inl d))⟩
      unfold scanPost;rw [if_neg hl,<- hR.out,if_neg hrr];rfl
   case stop =>
    rintro D c b W1 W _ _ h _ _;exact h.elim
open Go.ChangeShapes Go.WideShapes Go.ChangeAt Go.WideMaps Go.WideElems Go.RowKit
structure LNm (W:World):Prop where
 words:W.var? Tryz.prog "stile/lexer.languageWords" = some wordCells
 size1:0<W.heap.size
theorem LNm.below {W W':World} {B:Nat} (T:LNm W) (hB:W.heap.size<=B) (h:Below B W W'):LNm W':=by
 have a:=T.size1;exact ⟨var?_below h gWords (by omega) T.words,by have:=h.size;omega⟩
theorem lnm_of_vars {W:World} {L:List (String × DataW Unit)} {ps:List MemPlace} (h:DataW.LaidVars Tryz.prog W L ps) (h1:("stile/lexer.languageWords",Rows.laid_stile_lexer_languageWords)∈L):LNm W:=by
 obtain ⟨b,i,j,a,f⟩:=laid_var gWords tWords h h1;have d:=cells_of_strs (ss:=wordsL) Tryz.underlying169 Tryz.underlying9 (by kernel_rfl) (by kernel_rfl) f
 have g:b=wordCells:=by unfold wordCells;rw [<- d]
 subst g;have c:=lt_of_at (v:=.string ⟨#[115,104,97,114,101,100]⟩) (by rw [World.var?_cell gWords a 0];rfl)
 exact ⟨a,by simp only at c;omega⟩
theorem word_nm (s:ByteArray) (w:World) (T:LNm w):Calls Tryz.prog 55 #[.string s] w fun e w'=>e=.returned (.bool (wordB s))/\w=w':=by
 obtain ⟨b,fr,a⟩:=var_heap gWords T.words;have c:∀ w,(Instr.index 169 (.agg wordCells) (.int .i64 0)).run Tryz.prog w=.ok (.string (wordAt 0)) w:=fun _=>by kernel_rfl
 have g:∀ w,(Instr.index 169 (.agg wordCells) (.int .i64 1)).run Tryz.prog w=.ok (.string (wordAt 1)) w:=fun _=>by kernel_rfl
 have d:∀ w,(Instr.index 169 (.agg wordCells) (.int .i64 2)).run Tryz.prog w=.ok (.string (wordAt 2)) w:=fun _=>by kernel_rfl
 have j:∀ w,(Instr.index 169 (.agg wordCells) (.int .i64 3)).run Tryz.prog w=.ok (.string (wordAt 3)) w:=fun _=>by kernel_rfl
 have f:∀ w,(Instr.index 169 (.agg wordCells) (.int .i64 4)).run Tryz.prog w=.ok (.string (wordAt 4)) w:=fun _=>by kernel_rfl
 have m:∀ w,(Instr.index 169 (.agg wordCells) (.int .i64 5)).run Tryz.prog w=.ok (.string (wordAt 5)) w:=fun _=>by kernel_rfl
 have i:∀ w,(Instr.index 169 (.agg wordCells) (.int .i64 6)).run Tryz.prog w=.ok (.string (wordAt 6)) w:=fun _=>by kernel_rfl
 have l:∀ w,(Instr.index 169 (.agg wordCells) (.int .i64 7)).run Tryz.prog w=.ok (.string (wordAt 7)) w:=fun _=>by kernel_rfl
 have k:∀ w,(Instr.index 169 (.agg wordCells) (.int .i64 8)).run Tryz.prog w=.ok (.string (wordAt 8)) w:=fun _=>by kernel_rfl
 have n:∀ w,(Instr.index 169 (.agg wordCells) (.int .i64 9)).run Tryz.prog w=.ok (.string (wordAt 9)) w:=fun _=>by kernel_rfl
 clear T;go_enter Tryz.func55,Tryz.ntmps55;go_wp2_with (refine wpList_load_row rfl 169 _ rfl 0 rfl b _ fr _ a Tryz.underlying169 rfl (by kernel_rfl) ?_)
 go_rounds 11
 all_goals
  go_ret;exact ⟨ret_bool (by simp [wordB, *]),rfl⟩
end Go.Proofs.YtbgfkdiihnidaaaGreatDoor

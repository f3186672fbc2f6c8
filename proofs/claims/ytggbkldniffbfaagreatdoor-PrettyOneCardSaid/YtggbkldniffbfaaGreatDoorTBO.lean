/- The proof, part 41: texts that belong together, in one. -/
import Derived.Test.YtggbkldniffbfaaGreatDoorTBL
import Derived.Test.YtggbkldniffbfaaGreatDoorTBJ
import Derived.Test.YtggbkldniffbfaaGreatDoorTAG
import Derived.Test.YtggbkldniffbfaaGreatDoorTBK
import Derived.Test.YtggbkldniffbfaaGreatDoorTAW
set_option maxRecDepth 100000
set_option maxHeartbeats 20000000
namespace Go.Proofs.YtggbkldniffbfaaGreatDoor
set_option linter.unusedVariables false
structure TkOk (t:Tk):Prop where
 name:t.kind=1→nameB t.text=true
 lo:0≤t.wd
 hi:t.wd≤9223372036854775807
def TksOk (l:List Tk):Prop:=∀ t∈l,TkOk t
theorem toks_tail {l:List Tk} (h:TksOk l):TksOk l.tail:=fun t ht=>h t (List.mem_of_mem_tail ht)
theorem letter_digit {c:Int} (h:letterB c=true):digitB c=false:=by
 unfold letterB at h
 unfold digitB
 simp only [decide_eq_true_eq] at h
 simp only [decide_eq_false_iff_not]
 omega
theorem name_tok {x:Res} (h:TxOk x) (hk:x.kind=1):nameB x.text=true:=by
 obtain ⟨h1,h2,_⟩:=h
 rw [hk] at h1
 obtain ⟨l,hl⟩:∃ l,l=x.text.data.toList:=⟨_,rfl⟩
 rw [← hl] at h1 h2
 obtain ⟨c,r,hcr⟩:∃ c r,l=c::r:=by
  cases l with
  | nil=>exact absurd rfl h2
  | cons c r=>exact ⟨c,r,rfl⟩
 have hlen:x.text.size=x.text.data.toList.length:=by simp
 rw [← hl] at hlen
 have hn:nextL l=if letterB (c.toNat:Int)=true then nameL l else if digitB (c.toNat:Int)=true then numL l else if signB (c.toNat:Int)=true then ⟨4,aheadN l,0,0,0⟩ else ⟨0,0,0,0,1⟩:=by rw [hcr];rfl
 rw [hn] at h1
 split at h1
 · rename_i hc
   unfold nameL at h1
   split at h1
   · have:=congrArg Nx.kind h1;simp at this
   · rename_i hw
     split at h1
     · have:=congrArg Nx.kind h1;simp at this
     · rename_i h32
       have hsp:spanN namedB l=l.length:=congrArg Nx.n h1
       rw [hsp,List.take_length] at hw
       have hd:=letter_digit hc
       unfold nameB
       simp only [Bool.and_eq_true,decide_eq_true_eq]
       have hpos:0<x.text.size:=by rw [hlen,hcr];simp
       refine ⟨hpos,by omega,?_,?_,?_⟩
       · have e : PlainAid.bt x.text 0 = (c.toNat : Int) := by
          rw [← PlainAid.get_bt x.text 0 hpos]
          have:x.text.data.toList[0]? = some c:=by rw [← hl,hcr];rfl
          have:x.text[0]=c:=by
           have h3:x.text.data[0]? = some c:=by simpa using this
           exact (Array.getElem?_eq_some_iff.1 h3).2
          rw [this]
         rw [e,hd];rfl
       · rw [wordB_list]
         have:x.text.toList=l:=by rw [hl,Lib.toList_data]
         rw [this]
         simpa using hw
       · rw [← hl,hsp,hlen]
 · split at h1
   · unfold numL numK at h1
     split at h1
     · have:=congrArg Nx.kind h1;simp at this
     · split at h1
       · have:=congrArg Nx.kind h1;simp at this
       · have:=congrArg Nx.kind h1;simp at this
   · split at h1
     · have:=congrArg Nx.kind h1;simp at this
     · have:=congrArg Nx.kind h1;simp at this
theorem scan_tkok {s:ByteArray} (h:(scanX s).2.1=0):TksOk ((scanX s).1.map Res.tk):=by
 intro t ht
 obtain ⟨x,hx,rfl⟩:=List.mem_map.1 ht
 have hw:=scanX_wd s x hx
 refine ⟨fun hk=>name_tok ?_ hk,hw.1,hw.2⟩
 unfold scanX at hx h
 split at hx
 · cases hx
 · rename_i hl
   rw [if_neg hl] at h
   split at hx
   · rename_i hf
     rw [front_list] at hx hf
     have hc:(restL 0 s.data.toList).2.1=0:=goL_clean _ _ _ hf
     exact toks_tx _ s.data.toList 0 _ (Nat.le_refl _) (Prod.ext rfl (Prod.ext hc hf)) x hx
   · cases hx
theorem fndFrom_in (l:List UInt8):∀ (n k:Nat),(fndFrom l n k).2=true→∃ j:Nat,k≤j∧j<k+n∧(fndFrom l n k).1=(j:Int)
 | 0,k,h=>by simp [fndFrom] at h
 | n + 1, k, h => by
   by_cases hk:sgnAt k=l
   · refine ⟨k, by omega, by omega, ?_⟩
     simp only [fndFrom,if_pos hk]
   · simp only [fndFrom, if_neg hk] at h ⊢
     obtain ⟨j,a,b,c⟩:=fndFrom_in l n (k+1) h
     exact ⟨j,by omega,by omega,c⟩
theorem fnd_in {s:Bs} (h:(fnd s).2=true):twoB (fnd s).1=true∧levelI (fnd s).1=levelOf (fnd s).1∧1≤(fnd s).1∧(fnd s).1≤16:=by
 obtain ⟨j,a,b,c⟩:=fndFrom_in s 16 1 h
 have c:(fnd s).1=(j:Int):=c
 rw [c]
 have:∀ i:Nat,i<17→1≤i→twoB (i:Int)=true∧levelI (i:Int)=levelOf (i:Int):=by decide
 have:=this j (by omega) a
 exact ⟨this.1,this.2,by omega,by omega⟩
theorem rE_mono:∀ x:Ex,∀ d d':Int,d≤d'→rE x d'=true→rE x d=true:=by
 intro x
 induction x using Ex.ind with
 | h k o wd nm ks ps ih =>
   intro d d' hd h
   simp only [rE,Bool.and_eq_true,decide_eq_true_eq] at h ⊢
   obtain ⟨h1,h2,h3,h4⟩:=h
   refine ⟨by omega,h2,h3,?_⟩
   unfold kB at h4 ⊢
   by_cases hk:k=1∨k=2
   · rw [if_pos hk] at h4 ⊢;exact h4
   rw [if_neg hk] at h4 ⊢
   by_cases hk2:k=3
   · rw [if_pos hk2] at h4 ⊢
     simp only [Bool.and_eq_true] at h4 ⊢
     refine ⟨h4.1,?_⟩
     cases ks with
     | nil=>exact absurd h4.2 (by simp [kid1])
     | cons x r => cases r with
       | nil =>
         have h5:rE x (d'+1+b2i (x.kind==4))=true:=h4.2
         exact ih x (.head _) _ _ (by omega) h5
       | cons y r=>exact absurd h4.2 (by simp [kid1])
   rw [if_neg hk2] at h4 ⊢
   by_cases hk3:k=4
   · rw [if_pos hk3] at h4 ⊢
     simp only [Bool.and_eq_true] at h4 ⊢
     refine ⟨h4.1,?_⟩
     cases ks with
     | nil=>exact absurd h4.2 (by simp [kid2])
     | cons x r => cases r with
       | nil=>exact absurd h4.2 (by simp [kid2])
       | cons y r => cases r with
         | nil =>
           have h5:(rE x (d'+b2i (wrL o x))&&rE y (d'+b2i (wrR o y)))=true:=h4.2
           show (rE x (d+b2i (wrL o x))&&rE y (d+b2i (wrR o y)))=true
           simp only [Bool.and_eq_true] at h5 ⊢
           exact ⟨ih x (.head _) _ _ (by omega) h5.1,ih y (.tail _ (.head _)) _ _ (by omega) h5.2⟩
         | cons z r=>exact absurd h4.2 (by simp [kid2])
   rw [if_neg hk3] at h4
   exact absurd h4 (by simp)
def O1 (d:Int) (e:Ex):Prop:=rgE e∧rE e d=true∧(e.kind=4→rE e (d+1)=true)
def B1 (v d:Int) (e:Ex):Prop:=rgE e∧rE e d=true∧(e.kind=4→v≤levelOf e.op∨rE e (d+1)=true)
theorem num_right {t:Tk} (h:TkOk t) {d:Int} (hd:d≤64):O1 d (.mk 1 0 t.wd ⟨#[]⟩ [] t.pos):=by
 have h1:=h.lo
 have h2:=h.hi
 refine ⟨⟨by omega,by omega,by omega,trivial⟩,?_,fun h=>?_⟩
 · simp only [rE, decide_eq_true hd, Bool.true_and]
   simp [wdB,nmB,kB,h1]
 · have h : (1 : Int) = 4 := h
   omega
theorem var_right {t:Tk} (h:TkOk t) (hk:t.kind=1) {d:Int} (hd:d≤64):O1 d (.mk 2 0 0 t.text [] t.pos):=by
 have h1:=h.name hk
 refine ⟨⟨by omega,by omega,by omega,trivial⟩,?_,fun h=>?_⟩
 · simp only [rE, decide_eq_true hd, Bool.true_and]
   simp [wdB,nmB,kB,h1]
 · have h : (2 : Int) = 4 := h
   omega
theorem un_right {d o p:Int} {e:Ex} (ho:oneB o=true) (h8:0≤o∧o≤255) (h:O1 (d+1) e):O1 d (unX o p e):=by
 obtain ⟨h1,h2,h3⟩:=h
 have hd:=rE_deep h2
 refine ⟨⟨by omega,h8,by omega,h1,trivial⟩,?_,fun h=>?_⟩
 · have hk : kid1 [e] (rEs [e]) d = true := by
    show rE e (d+1+b2i (e.kind==4))=true
    by_cases hk:e.kind=4
    · rw [show (e.kind==4)=true from by rw [hk];rfl];exact h3 hk
    · rw [show (e.kind==4)=false from by simpa using hk];simpa [b2i] using h2
   unfold unX
   simp only [rE,decide_eq_true (show d≤64 by omega),Bool.true_and]
   simp [wdB,nmB,kB,ho,hk]
 · have h : (3 : Int) = 4 := h
   omega
theorem bi_right {v d o p:Int} {a b:Ex} (ho:twoB o=true) (h8:1≤o∧o≤16) (hv:v≤levelOf o) (ha:B1 v d a) (hn:a.kind=4→levelOf o≤levelOf a.op∨rE a (d+1)=true) (hb:B1 (levelOf o+1) d b):B1 v d (biX o p a b):=by
 obtain ⟨a1,a2,a3⟩:=ha
 obtain ⟨b1,b2,b3⟩:=hb
 have hd:=rE_deep a2
 refine ⟨⟨by omega,by omega,by omega,a1,b1,trivial⟩,?_,fun _=>.inl hv⟩
 have hk:kid2 o [a,b] (rEs [a,b]) d=true:=by
  show (rE a (d+b2i (wrL o a))&&rE b (d+b2i (wrR o b)))=true
  have k1:rE a (d+b2i (wrL o a))=true:=by
   cases hw:wrL o a with
   | false=>simpa [b2i] using a2
   | true =>
     unfold wrL at hw
     simp only [Bool.and_eq_true,decide_eq_true_eq,beq_iff_eq] at hw
     rcases hn hw.1 with h | h
     · omega
     · exact h
  have k2:rE b (d+b2i (wrR o b))=true:=by
   cases hw:wrR o b with
   | false=>simpa [b2i] using b2
   | true =>
     unfold wrR at hw
     simp only [Bool.and_eq_true,decide_eq_true_eq,beq_iff_eq] at hw
     rcases b3 hw.1 with h | h
     · omega
     · exact h
  rw [k1,k2];rfl
 unfold biX
 simp only [rE,decide_eq_true hd,Bool.true_and]
 simp [wdB,nmB,kB,ho,hk]
section
variable {L:Int}
theorem need_right {s:Bs} {ts:List Tk} {u:Unit} {r:List Tk} (h:need L s ts=.ok u r) (ht:TksOk ts):TksOk r:=by
 rw [(need_ok h).2.1];exact toks_tail ht
theorem ex_right:∀ n:Nat,
 (∀ d ts e r,opnd fnd L n d ts=.ok e r→0≤d→d≤64→TksOk ts→O1 d e∧TksOk r) ∧
 (∀ v d ts e r,binE fnd L n v d ts=.ok e r→1≤v→0≤d→d≤64→TksOk ts→B1 v d e∧nxt r<v∧TksOk r) ∧
 (∀ v d l ts e r,binL fnd L n v d l ts=.ok e r→1≤v→0≤d→d≤64→TksOk ts→B1 v d l→(l.kind=4→nxt ts≤levelOf l.op∨rE l (d+1)=true)→B1 v d e∧nxt r<v∧TksOk r):=by
 intro n
 induction n with
 | zero=>exact ⟨fun d ts e r h=>by simp [opnd] at h,fun v d ts e r h=>by simp [binE] at h,fun v d l ts e r h=>by simp [binL] at h⟩
 | succ n ih =>
   obtain ⟨i1,i2,i3⟩:=ih
   refine ⟨fun d ts e r h h0 h64 ht=>?_,fun v d ts e r h hv h0 h64 ht=>?_,fun v d l ts e r h hv h0 h64 ht hl hn=>?_⟩
   · cases ts with
     | nil=>simp [opnd] at h
     | cons t q =>
       have t1:TkOk t:=ht t (.head _)
       have t2:TksOk q:=fun x hx=>ht x (.tail _ hx)
       simp only [opnd] at h
       split at h
       · cases h;exact ⟨num_right t1 h64,t2⟩
       split at h
       · rename_i hk;cases h;exact ⟨var_right t1 hk h64,t2⟩
       split at h
       · split at h
         · cases h
         · obtain ⟨a, b, h1, h2⟩ := PR.then_eq_ok h
           cases h2
           have:=i1 _ _ _ _ h1 (by omega) (by omega) t2
           exact ⟨un_right (by decide) (by omega) this.1,this.2⟩
       split at h
       · split at h
         · cases h
         · obtain ⟨a, b, h1, h2⟩ := PR.then_eq_ok h
           cases h2
           have:=i1 _ _ _ _ h1 (by omega) (by omega) t2
           exact ⟨un_right (by decide) (by omega) this.1,this.2⟩
       split at h
       · split at h
         · cases h
         · obtain ⟨a, b, h1, h2⟩ := PR.then_eq_ok h
           obtain ⟨u,c,h3,h4⟩:=PR.then_eq_ok h2
           cases h4
           have:=i2 _ _ _ _ _ h1 (by omega) (by omega) (by omega) t2
           exact ⟨⟨this.1.1,rE_mono _ _ _ (by omega) this.1.2.1,fun _=>this.1.2.1⟩,need_right h3 this.2.2⟩
       · cases h
   · simp only [binE] at h
     obtain ⟨a,b,h1,h2⟩:=PR.then_eq_ok h
     have k1:=i1 _ _ _ _ h1 h0 h64 ht
     exact i3 _ _ _ _ _ _ h2 hv h0 h64 k1.2 ⟨k1.1.1,k1.1.2.1,fun hk=>.inr (k1.1.2.2 hk)⟩ (fun hk=>.inr (k1.1.2.2 hk))
   · cases ts with
     | nil =>
       simp only [binL] at h
       cases h
       exact ⟨hl,by show (0:Int)<v;omega,ht⟩
     | cons t q =>
       have t2:TksOk q:=fun x hx=>ht x (.tail _ hx)
       simp only [binL] at h
       split at h
       · rename_i hc
         obtain ⟨a,b,h1,h2⟩:=PR.then_eq_ok h
         obtain ⟨f1,f2,f3⟩:=fnd_in hc.1
         have hnx:nxt (t::q)=levelOf (fnd t.tx).1:=by simp only [nxt];rw [if_pos hc.1,f2]
         rw [f2] at h1
         have hc2:=hc.2
         rw [f2] at hc2
         have hp:=two_pos f1
         have k1:=i2 _ _ _ _ _ h1 (by omega) h0 h64 t2
         rw [hnx] at hn
         exact i3 _ _ _ _ _ _ h2 hv h0 h64 k1.2.2 (bi_right f1 f3 hc2 hl hn k1.1) (fun _=>.inl (by have:=k1.2.1;show nxt b≤levelOf (fnd t.tx).1;omega))
       · rename_i hc
         cases h
         refine ⟨hl,?_,ht⟩
         simp only [nxt]
         split
         · rename_i h2
           apply Classical.byContradiction
           intro h3
           exact hc ⟨h2,by omega⟩
         · omega
theorem binE_right {n:Nat} {ts:List Tk} {e:Ex} {r:List Tk} (h:binE fnd L n 1 0 ts=.ok e r) (ht:TksOk ts):rgE e∧rE e 0=true∧TksOk r:=by
 have:=(ex_right n).2.1 _ _ _ _ _ h (by omega) (by omega) (by omega) ht
 exact ⟨this.1.1,this.1.2.1,this.2.2⟩
end
set_option linter.unusedVariables false
section
variable {fnd:Bs→Int × Bool} {L:Int}
theorem expr_ok:∀ n:Nat,(∀ d ts e r,opnd fnd L n d ts=.ok e r→okE e)∧(∀ v d ts e r,binE fnd L n v d ts=.ok e r→okE e)∧(∀ v d a ts e r,okE a→binL fnd L n v d a ts=.ok e r→okE e):=by
 intro n
 induction n with
 | zero=>exact ⟨fun d ts e r h=>by simp [opnd] at h,fun v d ts e r h=>by simp [binE] at h,fun v d a ts e r _ h=>by simp [binL] at h⟩
 | succ n ih =>
   obtain ⟨i1,i2,i3⟩:=ih
   refine ⟨fun d ts e r h=>?_,fun v d ts e r h=>?_,fun v d a ts e r ha h=>?_⟩
   · cases ts with
     | nil=>simp [opnd] at h
     | cons t q =>
       simp only [opnd] at h
       split at h
       · cases h;exact ⟨by simp,trivial⟩
       split at h
       · cases h;exact ⟨by simp,trivial⟩
       split at h
       · split at h
         · cases h
         · obtain ⟨x, y, k1, k2⟩ := PR.then_eq_ok h
           cases k2
           exact ⟨by simp,i1 _ _ _ _ k1,trivial⟩
       split at h
       · split at h
         · cases h
         · obtain ⟨x, y, k1, k2⟩ := PR.then_eq_ok h
           cases k2
           exact ⟨by simp,i1 _ _ _ _ k1,trivial⟩
       split at h
       · split at h
         · cases h
         · obtain ⟨x, y, k1, k2⟩ := PR.then_eq_ok h
           obtain ⟨x2,y2,k3,k4⟩:=PR.then_eq_ok k2
           cases k4
           exact i2 _ _ _ _ _ k1
       · cases h
   · simp only [binE] at h
     obtain ⟨x,y,k1,k2⟩:=PR.then_eq_ok h
     exact i3 _ _ _ _ _ _ (i1 _ _ _ _ k1) k2
   · cases ts with
     | nil=>simp only [binL] at h;cases h;exact ha
     | cons t q =>
       simp only [binL] at h
       split at h
       · obtain ⟨x, y, k1, k2⟩ := PR.then_eq_ok h
         exact i3 _ _ _ _ _ _ (show okE (.mk 4 _ _ _ [a,x] _) from ⟨by simp,ha,i2 _ _ _ _ _ k1,trivial⟩) k2
       · cases h;exact ha
end
theorem endP_ok {α:Type} {x:PR α} {a:α} {r:List Tk} (h:endP x=.ok a r):x=.ok a []:=by
 unfold endP at h
 obtain ⟨b,s,h1,h2⟩:=PR.then_eq_ok h
 cases s with
 | nil=>simp only at h2;cases h2;exact h1
 | cons t q=>simp only at h2;cases h2
set_option linter.unusedVariables false
section
variable {fnd:Bs→Int × Bool} {L:Int}
theorem binE_ok {n:Nat} {v d:Int} {ts:List Tk} {e:Ex} {r:List Tk} (h:binE fnd L n v d ts=.ok e r):okE e:=(expr_ok n).2.1 _ _ _ _ _ h
theorem okEs_one {e:Ex} (h:okE e):[e].length≤9223372036854775807∧okEs [e]:=⟨by simp,h,trivial⟩
theorem okEs_nil:([]:List Ex).length≤9223372036854775807∧okEs []:=⟨by simp,trivial⟩
theorem okSs_nil:([]:List St).length≤9223372036854775807∧okSs []:=⟨by simp,trivial⟩
theorem okSs_snoc:∀ {l:List St} {s:St},okSs l→okS s→okSs (l++[s])
 | [],s,_,hs=>⟨hs,trivial⟩
 | x::r,s,h,hs=>⟨h.1,okSs_snoc h.2 hs⟩
theorem paren_ok {n:Nat} {ts:List Tk} {e:Ex} {r:List Tk} (h:parenP fnd L n ts=.ok e r):okE e:=by
 unfold parenP at h
 obtain ⟨u1,b1,h1,h2⟩:=PR.then_eq_ok h
 obtain ⟨u2,b2,h3,h4⟩:=PR.then_eq_ok h2
 obtain ⟨u3,b3,h5,h6⟩:=PR.then_eq_ok h4
 cases h6
 exact binE_ok h3
theorem change_ok {n:Nat} {t:Tk} {ts:List Tk} {s:St} {r:List Tk} (h:changeP fnd L n t ts=.ok s r):okS s:=by
 unfold changeP at h
 obtain ⟨u,b,h1,h2⟩:=PR.then_eq_ok h
 split at h2
 · obtain ⟨u1, b1, h3, h4⟩ := PR.then_eq_ok h2
   obtain ⟨u2,b2,h5,h6⟩:=PR.then_eq_ok h4
   obtain ⟨u3,b3,h7,h8⟩:=PR.then_eq_ok h6
   obtain ⟨u4,b4,h9,h10⟩:=PR.then_eq_ok h8
   obtain ⟨u5,b5,h11,h12⟩:=PR.then_eq_ok h10
   obtain ⟨u6,b6,h13,h14⟩:=PR.then_eq_ok h12
   cases h14
   exact ⟨okEs_one (binE_ok h9),okSs_nil,okSs_nil⟩
 · obtain ⟨u4, b4, h9, h10⟩ := PR.then_eq_ok h2
   obtain ⟨u5,b5,h11,h12⟩:=PR.then_eq_ok h10
   cases h12
   exact ⟨okEs_one (binE_ok h9),okSs_nil,okSs_nil⟩
theorem stmt_ok:∀ n:Nat,
 (∀ d ts s r,stmtP fnd L n d ts=.ok s r→ts.length≤65536→okS s) ∧
 (∀ d acc ts l r,restP fnd L n d acc ts=.ok l r→ts.length≤65536→okSs acc→okSs l∧l.length+r.length≤acc.length+ts.length):=by
 intro n
 induction n with
 | zero=>exact ⟨fun d ts s r h=>by simp [stmtP] at h,fun d acc ts l r h=>by simp [restP] at h⟩
 | succ n ih =>
   obtain ⟨i1,i2⟩:=ih
   refine ⟨fun d ts s r h hl=>?_,fun d acc ts l r h hl ha=>?_⟩
   · cases ts with
     | nil=>simp [stmtP] at h
     | cons t q =>
       simp only [stmtP] at h
       rw [List.length_cons] at hl
       have blk:∀ {d:Int} {ts:List Tk} {l:List St} {r:List Tk},restP fnd L n d [] ts=.ok l r→ts.length≤65536→l.length≤9223372036854775807∧okSs l:=fun h hl=>by
        have:=i2 _ _ _ _ _ h hl trivial
        exact ⟨by have:=this.2;simp at this;omega,this.1⟩
       split at h
       · exact change_ok h
       split at h
       · obtain ⟨u1, b1, h1, h2⟩ := PR.then_eq_ok h
         obtain ⟨u2,b2,h3,h4⟩:=PR.then_eq_ok h2
         obtain ⟨u3,b3,h5,h6⟩:=PR.then_eq_ok h4
         have:=paren_short h1
         have:=open_short h3
         have:=restP_short h5
         split at h6
         · rename_i hi
           have:=isT_tail hi
           obtain ⟨u4,b4,h7,h8⟩:=PR.then_eq_ok h6
           obtain ⟨u5,b5,h9,h10⟩:=PR.then_eq_ok h8
           have:=open_short h7
           cases h10
           exact ⟨okEs_one (paren_ok h1),blk h5 (by omega),blk h9 (by omega)⟩
         · cases h6
           exact ⟨okEs_one (paren_ok h1),blk h5 (by omega),okSs_nil⟩
       split at h
       · obtain ⟨u1, b1, h1, h2⟩ := PR.then_eq_ok h
         obtain ⟨u2,b2,h3,h4⟩:=PR.then_eq_ok h2
         obtain ⟨u3,b3,h5,h6⟩:=PR.then_eq_ok h4
         have:=paren_short h1
         have:=open_short h3
         cases h6
         exact ⟨okEs_one (paren_ok h1),blk h5 (by omega),okSs_nil⟩
       split at h
       · obtain ⟨u1, b1, h1, h2⟩ := PR.then_eq_ok h
         obtain ⟨u2,b2,h3,h4⟩:=PR.then_eq_ok h2
         obtain ⟨u3,b3,h5,h6⟩:=PR.then_eq_ok h4
         have:=name_ok h1
         have:=open_short h3
         cases h6
         exact ⟨okEs_nil,blk h5 (by omega),okSs_nil⟩
       split at h
       · obtain ⟨u1, b1, h1, h2⟩ := PR.then_eq_ok h
         obtain ⟨u2,b2,h3,h4⟩:=PR.then_eq_ok h2
         cases h4
         exact ⟨okEs_one (binE_ok h1),okSs_nil,okSs_nil⟩
       split at h
       · obtain ⟨u1, b1, h1, h2⟩ := PR.then_eq_ok h
         cases h2
         exact ⟨okEs_nil,okSs_nil,okSs_nil⟩
       · cases h
   · simp only [restP] at h
     split at h
     · rename_i hi
       cases h
       have:=isT_tail hi
       exact ⟨ha,by omega⟩
     · obtain ⟨a, b, h1, h2⟩ := PR.then_eq_ok h
       have k1:=stmtP_short h1
       have k2:=i1 _ _ _ _ h1 hl
       have k3:=i2 _ _ _ _ _ h2 (by omega) (okSs_snoc ha k2)
       refine ⟨k3.1,?_⟩
       have:=k3.2
       rw [List.length_append,List.length_singleton] at this
       omega
theorem locals_ok:∀ (n:Nat) (acc:List Dc) (ts:List Tk) (l:List Dc) (r:List Tk),localsP L n acc ts=.ok l r→l.length+r.length≤acc.length+ts.length
 | 0,acc,ts,l,r,h=>by simp [localsP] at h
 | n + 1, acc, ts, l, r, h => by
   simp only [localsP] at h
   split at h
   · rename_i hi
     have:=isT_tail hi
     obtain ⟨a,b,h1,h2⟩:=PR.then_eq_ok h
     have k1:=list_both (fun _ _ _=>nameP_short) h1
     have k2:=locals_ok n _ _ _ _ h2
     rw [List.length_append] at k2
     simp at k1
     omega
   · cases h;exact Nat.le_refl _
theorem thread_ok {n:Nat} {ts:List Tk} {t:Th} {r:List Tk} (h:threadP fnd L n ts=.ok t r) (hl:ts.length≤65536):okT t:=by
 unfold threadP at h
 obtain ⟨u1,b1,h1,h2⟩:=PR.then_eq_ok h
 obtain ⟨u2,b2,h3,h4⟩:=PR.then_eq_ok h2
 obtain ⟨u3,b3,h5,h6⟩:=PR.then_eq_ok h4
 obtain ⟨u4,b4,h7,h8⟩:=PR.then_eq_ok h6
 cases h8
 have:=name_ok h1
 have:=open_short h3
 have k1:=locals_ok _ _ _ _ _ h5
 have k2:=(stmt_ok n).2 _ _ _ _ _ h7 (by simp at k1;omega) trivial
 simp at k1
 have k3:=k2.2
 simp at k3
 exact ⟨by show u3.length≤9223372036854775807;omega,by show u4.length≤9223372036854775807;omega,k2.1⟩
theorem threads_ok:∀ (n:Nat) (acc:List Th) (ts:List Tk) (l:List Th) (r:List Tk),threadsP fnd L n acc ts=.ok l r→ts.length≤65536→(∀ t∈acc,okT t)→(∀ t∈l,okT t)∧l.length+r.length≤acc.length+ts.length
 | 0,acc,ts,l,r,h,_,_=>by simp [threadsP] at h
 | n + 1, acc, ts, l, r, h, hl, ha => by
   simp only [threadsP] at h
   split at h
   · rename_i hi
     have:=isT_tail hi
     obtain ⟨a,b,h1,h2⟩:=PR.then_eq_ok h
     have k1:=thread_short h1
     have k2:=thread_ok h1 (by omega)
     have k3:=threads_ok n _ _ _ _ h2 (by omega) (fun t ht=>by
      rcases List.mem_append.1 ht with ht | ht
      · exact ha t ht
      · rw [List.mem_singleton] at ht;rw [ht];exact k2)
     refine ⟨k3.1,?_⟩
     have:=k3.2
     rw [List.length_append,List.length_singleton] at this
     omega
   · cases h;exact ⟨ha,Nat.le_refl _⟩
theorem decls_ok:∀ (n:Nat) (p:Pg) (ts:List Tk) (q:Pg) (r:List Tk),declsP L n p ts=.ok q r→q.shared.length+q.locks.length+r.length≤p.shared.length+p.locks.length+ts.length
 | 0,p,ts,q,r,h=>by simp [declsP] at h
 | n + 1, p, ts, q, r, h => by
   simp only [declsP] at h
   split at h
   · rename_i hi
     have:=isT_tail hi
     obtain ⟨a,b,h1,h2⟩:=PR.then_eq_ok h
     have k1:=list_both (fun _ _ _=>firstP_short) h1
     have k2:=decls_ok n _ _ _ _ h2
     simp only [List.length_append] at k2
     simp at k1
     omega
   · split at h
     · rename_i hi
       have:=isT_tail hi
       obtain ⟨a,b,h1,h2⟩:=PR.then_eq_ok h
       have k1:=list_both (fun _ _ _=>nameP_short) h1
       have k2:=decls_ok n _ _ _ _ h2
       simp only [List.length_append] at k2
       simp at k1
       omega
     · cases h;exact Nat.le_refl _
theorem prog_ok {n:Nat} {ts:List Tk} {p:Pg} {r:List Tk} (h:progP fnd L n ts=.ok p r) (hl:ts.length≤65536):okP p:=by
 unfold progP at h
 obtain ⟨q,b,h1,h2⟩:=PR.then_eq_ok h
 obtain ⟨l,b2,h3,h4⟩:=PR.then_eq_ok h2
 cases h4
 have k1:=decls_ok _ _ _ _ _ h1
 simp at k1
 have k2:=threads_ok _ _ _ _ _ h3 (by omega) (fun t ht=>by cases ht)
 have k3:=k2.2
 simp at k3
 exact ⟨by show q.shared.length≤9223372036854775807;omega,by show q.locks.length≤9223372036854775807;omega,by show l.length≤9223372036854775807;omega,k2.1⟩
end
end Go.Proofs.YtggbkldniffbfaaGreatDoor

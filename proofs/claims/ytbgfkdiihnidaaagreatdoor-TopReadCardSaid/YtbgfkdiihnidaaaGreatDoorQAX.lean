import Derived.Test.YtbgfkdiihnidaaaGreatDoorQAK
import Derived.Test.YtbgfkdiihnidaaaGreatDoorQAW
import Derived.Test.YtbgfkdiihnidaaaGreatDoorQAM
import Derived.Test.YtbgfkdiihnidaaaGreatDoorQAD
import Derived.Test.YtbgfkdiihnidaaaGreatDoorQAO
import Derived.Test.YtbgfkdiihnidaaaGreatDoorQAV
set_option maxRecDepth 100000
set_option maxHeartbeats 20000000
namespace Go.Proofs.YtbgfkdiihnidaaaGreatDoor
open Go.RowKit
set_option linter.unusedVariables false
def stopH:List UInt8->Bool
 | []=>true
 | c::_=>blankB (c.toNat:Int)
theorem blank_vals {c:UInt8} (h:blankB (c.toNat:Int)=true):c=32\/c=9\/c=10\/c=13:=by
 unfold blankB at h;rcases of_decide_eq_true h with h | h | h | h
 · exact .inl (u8_int.1 h)
 · exact .inr (.inl (u8_int.1 h))
 · exact .inr (.inr (.inl (u8_int.1 h)))
 · exact .inr (.inr (.inr (u8_int.1 h)))
theorem span_cut {f:Int->Bool} (X:List UInt8):∀ p:List UInt8,spanN f (p++X)<=p.length->spanN f p=spanN f (p++X)
 | [],h=>by simp only [List.length_nil] at h;simp only [spanN];omega
 | c :: p, h => by
   simp only [List.cons_append,spanN,List.length_cons] at h ⊢
   split
   · rename_i hc
     rw [if_pos hc] at h
     rw [span_cut X p (by omega)]
   · rfl
def longW (l:List UInt8):Bool:=List.isPrefixOf [61,61] l || List.isPrefixOf [33,61] l || List.isPrefixOf [60,61] l || List.isPrefixOf [62,61] l || List.isPrefixOf [60,60] l || List.isPrefixOf [62,62] l
theorem longW_eq (l:List UInt8):longB l=longW l:=rfl
theorem longW_one (c:UInt8):longB [c]=false:=by
 rw [longW_eq];simp [longW,List.isPrefixOf]
theorem longW_cons (c d:UInt8) (r:List UInt8):longB (c::d::r)=longB [c,d]:=by
 rw [longW_eq,longW_eq];simp only [longW,List.isPrefixOf_cons_cons,List.isPrefixOf_nil_left]
theorem ahead_cut (c:UInt8) (p X:List UInt8) (h:aheadN (c::p++X)<=(c::p).length):aheadN (c::p)=aheadN (c::p++X):=by
 unfold aheadN at h ⊢;cases p with
 | cons d p =>
   simp only [List.cons_append] at h ⊢;rw [longW_cons c d (p++X),longW_cons c d p];rfl
 | nil =>
   by_cases hl:longB ([c]++X)=true
   · rw [if_pos hl] at h;simp at h
   · rw [if_neg hl, if_neg (by rw [longW_one]; decide)]
     rfl
theorem nextL_cut {p X:List UInt8} (hp:¬ p=[]) (h:(nextL (p++X)).fr=0) (hn:(nextL (p++X)).n<=p.length):nextL p=nextL (p++X):=by
 cases p with
 | nil=>exact absurd rfl hp
 | cons c p =>
   simp only [List.cons_append,nextL] at h hn ⊢;by_cases h0:letterB (c.toNat:Int)=true
   · rw [if_pos h0] at h hn
     rw [if_pos h0,if_pos h0];have b:spanN namedB (c::(p++X))<=(c::p).length:=by
      unfold nameL at h hn;split at h
      · rename_i hw;rw [if_pos hw] at hn;exact hn
      · rename_i hw
        rw [if_neg hw] at hn;split at h
        · simp at h
        · rename_i h3;rw [if_neg h3] at hn;exact hn
     have k:=span_cut X (c::p) b
     have f:=spanN_le namedB (c::p)
     unfold nameL;have e:=(List.take_append_of_le_length (l₂:=X) f).symm;simp only [List.cons_append] at k e;rw [k] at e;rw [k,e]
   · rw [if_neg h0] at h hn
     rw [if_neg h0,if_neg h0];by_cases h1:digitB (c.toNat:Int)=true
     · rw [if_pos h1] at h hn
       rw [if_pos h1,if_pos h1];unfold numL at h hn ⊢;cases hv:valueO ((c::(p++X)).take (spanN digitB (c::(p++X)))) with
       | none=>rw [hv] at h;simp [numK] at h
       | some v =>
         rw [hv] at h hn;simp only [numK] at h hn;have a:letterH ((c::(p++X)).drop (spanN digitB (c::(p++X))))=false:=by
          cases a:letterH ((c::(p++X)).drop (spanN digitB (c::(p++X)))) with
          | false=>rfl
          | true=>rw [a] at h;simp at h
         rw [a] at hn;have b:spanN digitB (c::(p++X))<=(c::p).length:=hn;have k:=span_cut X (c::p) b
         have f:=spanN_le digitB (c::p)
         have e:=(List.take_append_of_le_length (l₂:=X) f).symm;have g:=(List.drop_append_of_le_length (l₂:=X) f);simp only [List.cons_append] at k e g;rw [k] at e g;rw [k,e,hv,a];have:letterH (List.drop (spanN digitB (c::(p++X))) (c::p))=false:=by
          rw [g] at a;cases hd:List.drop (spanN digitB (c::(p++X))) (c::p) with
          | nil=>rfl
          | cons d r=>rw [hd] at a;exact a
         rw [this]
     · rw [if_neg h1] at h hn
       rw [if_neg h1,if_neg h1];by_cases h2:signB (c.toNat:Int)=true
       · rw [if_pos h2] at hn
         rw [if_pos h2,if_pos h2];have k:=ahead_cut c p X hn;simp only [List.cons_append] at k;rw [k]
       · rw [if_neg h2,if_neg h2]
def bareR (x:Res):Int × ByteArray × Int:=(x.kind,x.text,x.wd)
section
variable {fnd:Bs->Int × Bool} {L:Int}
theorem expr_ok:∀ n:Nat,(∀ d ts e r,opnd fnd L n d ts=.ok e r->okE e)/\(∀ v d ts e r,binE fnd L n v d ts=.ok e r->okE e)/\(∀ v d a ts e r,okE a->binL fnd L n v d a ts=.ok e r->okE e):=by
 intro n;induction n with
 | zero=>exact ⟨fun d ts e r h=>by simp [opnd] at h,fun v d ts e r h=>by simp [binE] at h,fun v d a ts e r _ h=>by simp [binL] at h⟩
 | succ n ih =>
   obtain ⟨f,i,g⟩:=ih;refine ⟨fun d ts e r h=>?_,fun v d ts e r h=>?_,fun v d a ts e r ha h=>?_⟩
   · cases ts with
     | nil=>simp [opnd] at h
     | cons t q =>
       simp only [opnd] at h;split at h
       · cases h;exact ⟨by simp,trivial⟩
       split at h
       · cases h;exact ⟨by simp,trivial⟩
       split at h
       · split at h
         · cases h
         · obtain ⟨x, y, b, c⟩ := PR.then_eq_ok h
           cases c;exact ⟨by simp,f _ _ _ _ b,trivial⟩
       split at h
       · split at h
         · cases h
         · obtain ⟨x, y, b, c⟩ := PR.then_eq_ok h
           cases c;exact ⟨by simp,f _ _ _ _ b,trivial⟩
       split at h
       · split at h
         · cases h
         · obtain ⟨x, y, b, c⟩ := PR.then_eq_ok h
           obtain ⟨k,l,m,j⟩:=PR.then_eq_ok c;cases j;exact i _ _ _ _ _ b
       · cases h
   · simp only [binE] at h
     obtain ⟨x,y,b,c⟩:=PR.then_eq_ok h;exact g _ _ _ _ _ _ (f _ _ _ _ b) c
   · cases ts with
     | nil=>simp only [binL] at h;cases h;exact ha
     | cons t q =>
       simp only [binL] at h;split at h
       · obtain ⟨x, y, b, c⟩ := PR.then_eq_ok h
         exact g _ _ _ _ _ _ (show okE (.mk 4 _ _ _ [a,x] _) from ⟨by simp,ha,i _ _ _ _ _ b,trivial⟩) c
       · cases h;exact ha
end
theorem endP_ok {α:Type} {x:PR α} {a:α} {r:List Tk} (h:endP x=.ok a r):x=.ok a []:=by
 unfold endP at h;obtain ⟨b,s,d,c⟩:=PR.then_eq_ok h;cases s with
 | nil=>simp only at c;cases c;exact d
 | cons t q=>simp only at c;cases c
theorem bare_same:∀ (e f:Ex),e.bare=f.bare->sameE e f=true:=by
 intro e;induction e using Ex.ind with
 | h k o wd nm ks ps ih =>
   intro f d;obtain ⟨l,j,g,i,a,c⟩:=f;simp only [Ex.bare,Ex.mk.injEq] at d;obtain ⟨rfl,rfl,rfl,rfl,b,_⟩:=d;simp only [sameE,beq_self_eq_true,Bool.true_and];clear ps c;induction ks generalizing a with
   | nil =>
     cases a with
     | nil=>rfl
     | cons y s=>simp [exsBare] at b
   | cons x r ihr =>
     cases a with
     | nil=>simp [exsBare] at b
     | cons y s =>
       simp only [exsBare,List.cons.injEq] at b;simp only [sameEs,Bool.and_eq_true];exact ⟨ih x (.head _) y b.1,ihr (fun z hz=>ih z (.tail _ hz)) s b.2⟩
set_option linter.unusedVariables false
section
variable {fnd:Bs->Int × Bool} {L:Int}
theorem binE_ok {n:Nat} {v d:Int} {ts:List Tk} {e:Ex} {r:List Tk} (h:binE fnd L n v d ts=.ok e r):okE e:=(expr_ok n).2.1 _ _ _ _ _ h
theorem okEs_one {e:Ex} (h:okE e):[e].length<=9223372036854775807/\okEs [e]:=⟨by simp,h,trivial⟩
theorem okEs_nil:([]:List Ex).length<=9223372036854775807/\okEs []:=⟨by simp,trivial⟩
theorem okSs_nil:([]:List St).length<=9223372036854775807/\okSs []:=⟨by simp,trivial⟩
theorem okSs_snoc:∀ {l:List St} {s:St},okSs l->okS s->okSs (l++[s])
 | [],s,_,hs=>⟨hs,trivial⟩
 | x::r,s,h,hs=>⟨h.1,okSs_snoc h.2 hs⟩
theorem paren_ok {n:Nat} {ts:List Tk} {e:Ex} {r:List Tk} (h:parenP fnd L n ts=.ok e r):okE e:=by
 unfold parenP at h;obtain ⟨u1,k,f,d⟩:=PR.then_eq_ok h;obtain ⟨u2,g,a,c⟩:=PR.then_eq_ok d;obtain ⟨u3,j,i,b⟩:=PR.then_eq_ok c;cases b;exact binE_ok a
theorem change_ok {n:Nat} {t:Tk} {ts:List Tk} {s:St} {r:List Tk} (h:changeP fnd L n t ts=.ok s r):okS s:=by
 unfold changeP at h;obtain ⟨u,b,x,d⟩:=PR.then_eq_ok h;split at d
 · obtain ⟨u1, B, q, l⟩ := PR.then_eq_ok d
   obtain ⟨u2,y,v,p⟩:=PR.then_eq_ok l;obtain ⟨u3,A,z,j⟩:=PR.then_eq_ok p;obtain ⟨u4,m,f,a⟩:=PR.then_eq_ok j;obtain ⟨u5,o,i,c⟩:=PR.then_eq_ok a;obtain ⟨u6,C,k,g⟩:=PR.then_eq_ok c;cases g;exact ⟨okEs_one (binE_ok f),okSs_nil,okSs_nil⟩
 · obtain ⟨u4, m, f, a⟩ := PR.then_eq_ok d
   obtain ⟨u5,o,i,c⟩:=PR.then_eq_ok a;cases c;exact ⟨okEs_one (binE_ok f),okSs_nil,okSs_nil⟩
theorem stmt_ok:∀ n:Nat,
 (∀ d ts s r,stmtP fnd L n d ts=.ok s r->ts.length<=65536->okS s) /\
 (∀ d acc ts l r,restP fnd L n d acc ts=.ok l r->ts.length<=65536->okSs acc->okSs l/\l.length+r.length<=acc.length+ts.length):=by
 intro n;induction n with
 | zero=>exact ⟨fun d ts s r h=>by simp [stmtP] at h,fun d acc ts l r h=>by simp [restP] at h⟩
 | succ n ih =>
   obtain ⟨E,x⟩:=ih;refine ⟨fun d ts s r h hl=>?_,fun d acc ts l r h hl ha=>?_⟩
   · cases ts with
     | nil=>simp [stmtP] at h
     | cons t q =>
       simp only [stmtP] at h;rw [List.length_cons] at hl;have f:∀ {d:Int} {ts:List Tk} {l:List St} {r:List Tk},restP fnd L n d [] ts=.ok l r->ts.length<=65536->l.length<=9223372036854775807/\okSs l:=fun h hl=>by
        have:=x _ _ _ _ _ h hl trivial;exact ⟨by have:=this.2;simp at this;omega,this.1⟩
       split at h
       · exact change_ok h
       split at h
       · obtain ⟨u1, o, c, g⟩ := PR.then_eq_ok h
         obtain ⟨u2,v,m,j⟩:=PR.then_eq_ok g;obtain ⟨u3,y,i,k⟩:=PR.then_eq_ok j;have:=paren_short c;have:=open_short m;have:=restP_short i;split at k
         · rename_i hi
           have:=isT_tail hi;obtain ⟨u4,G,D,A⟩:=PR.then_eq_ok k;obtain ⟨u5,H,B,p⟩:=PR.then_eq_ok A;have:=open_short D;cases p;exact ⟨okEs_one (paren_ok c),f i (by omega),f B (by omega)⟩
         · cases k
           exact ⟨okEs_one (paren_ok c),f i (by omega),okSs_nil⟩
       split at h
       · obtain ⟨u1, o, c, g⟩ := PR.then_eq_ok h
         obtain ⟨u2,v,m,j⟩:=PR.then_eq_ok g;obtain ⟨u3,y,i,k⟩:=PR.then_eq_ok j;have:=paren_short c;have:=open_short m;cases k;exact ⟨okEs_one (paren_ok c),f i (by omega),okSs_nil⟩
       split at h
       · obtain ⟨u1, o, c, g⟩ := PR.then_eq_ok h
         obtain ⟨u2,v,m,j⟩:=PR.then_eq_ok g;obtain ⟨u3,y,i,k⟩:=PR.then_eq_ok j;have:=name_ok c;have:=open_short m;cases k;exact ⟨okEs_nil,f i (by omega),okSs_nil⟩
       split at h
       · obtain ⟨u1, o, c, g⟩ := PR.then_eq_ok h
         obtain ⟨u2,v,m,j⟩:=PR.then_eq_ok g;cases j;exact ⟨okEs_one (binE_ok c),okSs_nil,okSs_nil⟩
       split at h
       · obtain ⟨u1, o, c, g⟩ := PR.then_eq_ok h
         cases g;exact ⟨okEs_nil,okSs_nil,okSs_nil⟩
       · cases h
   · simp only [restP] at h
     split at h
     · rename_i hi
       cases h;have:=isT_tail hi;exact ⟨ha,by omega⟩
     · obtain ⟨a, b, c, g⟩ := PR.then_eq_ok h
       have F:=stmtP_short c;have C:=E _ _ _ _ c hl;have z:=x _ _ _ _ _ g (by omega) (okSs_snoc ha C)
       refine ⟨z.1,?_⟩;have:=z.2;rw [List.length_append,List.length_singleton] at this;omega
theorem locals_ok:∀ (n:Nat) (acc:List Dc) (ts:List Tk) (l:List Dc) (r:List Tk),localsP L n acc ts=.ok l r->l.length+r.length<=acc.length+ts.length
 | 0,acc,ts,l,r,h=>by simp [localsP] at h
 | n + 1, acc, ts, l, r, h => by
   simp only [localsP] at h
   split at h
   · rename_i hi
     have:=isT_tail hi
     obtain ⟨a,b,h1,h2⟩:=PR.then_eq_ok h
     have k1:=list_both (fun _ _ _=>nameP_short) h1
     have k2:=locals_ok n _ _ _ _ h2
     rw [List.length_append] at k2
     simp at k1
     omega
   · cases h;exact Nat.le_refl _
theorem thread_ok {n:Nat} {ts:List Tk} {t:Th} {r:List Tk} (h:threadP fnd L n ts=.ok t r) (hl:ts.length<=65536):okT t:=by
 unfold threadP at h;obtain ⟨u1,s,j,d⟩:=PR.then_eq_ok h;obtain ⟨u2,o,f,i⟩:=PR.then_eq_ok d;obtain ⟨u3,q,g,l⟩:=PR.then_eq_ok i;obtain ⟨u4,p,k,c⟩:=PR.then_eq_ok l;cases c;have:=name_ok j;have:=open_short f;have a:=locals_ok _ _ _ _ _ g;have b:=(stmt_ok n).2 _ _ _ _ _ k (by simp at a;omega) trivial
 simp at a;have m:=b.2;simp at m;exact ⟨by show u3.length<=9223372036854775807;omega,by show u4.length<=9223372036854775807;omega,b.1⟩
theorem threads_ok:∀ (n:Nat) (acc:List Th) (ts:List Tk) (l:List Th) (r:List Tk),threadsP fnd L n acc ts=.ok l r->ts.length<=65536->(∀ t∈acc,okT t)->(∀ t∈l,okT t)/\l.length+r.length<=acc.length+ts.length
 | 0,acc,ts,l,r,h,_,_=>by simp [threadsP] at h
 | n + 1, acc, ts, l, r, h, hl, ha => by
   simp only [threadsP] at h
   split at h
   · rename_i hi
     have:=isT_tail hi
     obtain ⟨a,b,h1,h2⟩:=PR.then_eq_ok h
     have k1:=thread_short h1
     have k2:=thread_ok h1 (by omega)
     have k3:=threads_ok n _ _ _ _ h2 (by omega) (fun t ht=>by
      rcases List.mem_append.1 ht with ht | ht
      · exact ha t ht
      · rw [List.mem_singleton] at ht;rw [ht];exact k2)
     refine ⟨k3.1,?_⟩
     have:=k3.2
     rw [List.length_append,List.length_singleton] at this
     omega
   · cases h;exact ⟨ha,Nat.le_refl _⟩
theorem decls_ok:∀ (n:Nat) (p:Pg) (ts:List Tk) (q:Pg) (r:List Tk),declsP L n p ts=.ok q r->q.shared.length+q.locks.length+r.length<=p.shared.length+p.locks.length+ts.length
 | 0,p,ts,q,r,h=>by simp [declsP] at h
 | n + 1, p, ts, q, r, h => by
   simp only [declsP] at h
   split at h
   · rename_i hi
     have:=isT_tail hi
     obtain ⟨a,b,h1,h2⟩:=PR.then_eq_ok h
     have k1:=list_both (fun _ _ _=>firstP_short) h1
     have k2:=decls_ok n _ _ _ _ h2
     simp only [List.length_append] at k2
     simp at k1
     omega
   · split at h
     · rename_i hi
       have:=isT_tail hi
       obtain ⟨a,b,h1,h2⟩:=PR.then_eq_ok h
       have k1:=list_both (fun _ _ _=>nameP_short) h1
       have k2:=decls_ok n _ _ _ _ h2
       simp only [List.length_append] at k2
       simp at k1
       omega
     · cases h;exact Nat.le_refl _
theorem prog_ok {n:Nat} {ts:List Tk} {p:Pg} {r:List Tk} (h:progP fnd L n ts=.ok p r) (hl:ts.length<=65536):okP p:=by
 unfold progP at h;obtain ⟨q,b,f,j⟩:=PR.then_eq_ok h;obtain ⟨l,k,c,g⟩:=PR.then_eq_ok j;cases g;have d:=decls_ok _ _ _ _ _ f;simp at d;have a:=threads_ok _ _ _ _ _ c (by omega) (fun t ht=>by cases ht)
 have i:=a.2;simp at i;exact ⟨by show q.shared.length<=9223372036854775807;omega,by show q.locks.length<=9223372036854775807;omega,by show l.length<=9223372036854775807;omega,a.1⟩
end
theorem bare_sameS:∀ (s y:St),s.bare=y.bare->sameS s y=true:=by
 intro s;induction s using St.ind with
 | h k n o e b l p ihb ihl =>
   intro y c;obtain ⟨t,A,C,v,q,B,D⟩:=y;simp only [St.bare,St.mk.injEq] at c;obtain ⟨rfl,rfl,rfl,j,g,f,_⟩:=c;simp only [sameS,beq_self_eq_true,Bool.true_and,Bool.and_eq_true];have i:∀ (l m:List Ex),exsBare l=exsBare m->sameEs l m=true:=by
    intro l;induction l with
    | nil => intro m a; cases m with
      | nil=>rfl
      | cons=>simp [exsBare] at a
    | cons x r ih => intro m a; cases m with
      | nil=>simp [exsBare] at a
      | cons y s =>
        simp only [exsBare,List.cons.injEq] at a;simp only [sameEs,Bool.and_eq_true];exact ⟨bare_same x y a.1,ih s a.2⟩
   have st:∀ (l m:List St),(∀ x∈l,∀ y:St,x.bare=y.bare->sameS x y=true)->stsBare l=stsBare m->sameSs l m=true:=by
    intro l;induction l with
    | nil => intro m _ a; cases m with
      | nil=>rfl
      | cons=>simp [stsBare] at a
    | cons x r ih => intro m d a; cases m with
      | nil=>simp [stsBare] at a
      | cons y s =>
        simp only [stsBare,List.cons.injEq] at a;simp only [sameSs,Bool.and_eq_true];exact ⟨d x (.head _) y a.1,ih s (fun z hz=>d z (.tail _ hz)) a.2⟩
   exact ⟨⟨i _ _ j,st _ _ ihb g⟩,st _ _ ihl f⟩
theorem bare_by {α:Type} {f:α->α->Bool} {g:α->α} (h:∀ x y,g x=g y->f x y=true):∀ (l m:List α),l.map g=m.map g->sameBy f l m=true
 | [],[],_=>rfl
 | [],_::_,h=>by simp at h
 | _::_,[],h=>by simp at h
 | x :: r, y :: s, hm => by
   simp only [List.map_cons,List.cons.injEq] at hm
   simp only [sameBy,Bool.and_eq_true]
   exact ⟨h x y hm.1,bare_by h r s hm.2⟩
theorem bare_sameSs (l m:List St) (h:stsBare l=stsBare m):sameSs l m=true:=by
 induction l generalizing m with
 | nil => cases m with
   | nil=>rfl
   | cons=>simp [stsBare] at h
 | cons x r ih => cases m with
   | nil=>simp [stsBare] at h
   | cons y s =>
     simp only [stsBare,List.cons.injEq] at h;simp only [sameSs,Bool.and_eq_true];exact ⟨bare_sameS x y h.1,ih s h.2⟩
theorem bare_sameD (a b:Dc) (h:a.bare=b.bare):sameD a b=true:=by
 simp only [Dc.bare,Dc.mk.injEq] at h;unfold sameD;rw [h.1,h.2.1];simp
theorem bare_sameT (a b:Th) (h:a.bare=b.bare):sameT a b=true:=by
 simp only [Th.bare,Th.mk.injEq] at h;unfold sameT;rw [h.1,bare_by bare_sameD _ _ h.2.1,bare_sameSs _ _ h.2.2.1];simp
theorem bare_samePg (a b:Pg) (h:a.bare=b.bare):samePg a b=true:=by
 simp only [Pg.bare,Pg.mk.injEq] at h;unfold samePg;rw [bare_by bare_sameD _ _ h.1,bare_by bare_sameD _ _ h.2.1,bare_by bare_sameT _ _ h.2.2];rfl
open Go.RowKit
set_option linter.unusedVariables false
def Rz (B:Nat) (w0:World) (b:Nat):Prop:=B<=b/\b<w0.heap.size/\Uf w0 b
section
variable {B:Nat} {w0 W:World} {V:List Vz}
end
theorem rz_of {B B':Nat} {w:World} (hB:B<=B') {b:Nat} (h:Rf B' w b/\b<w.heap.size):Rz B w b:=⟨Nat.le_trans hB h.1.1,h.2,h.1.2⟩
open Go.RowKit
set_option linter.unusedVariables false
theorem exsIn_mono {B:Nat} {W:World} {g:Nat} : ∀ {l:List Ex} {q:Nat},exsIn (Rf (B+1) W) W l g q->exsIn (Rf B W) W l g q
 | [],q,_=>trivial
 | x :: r, q, h => by
   obtain ⟨k,op,wd,nm,ks,ps⟩:=x
   obtain ⟨⟨c0,c1,c2,c3,⟨a,cap,c4,h4⟩,c5⟩,hr⟩:=h
   exact ⟨⟨c0,c1,c2,c3,⟨a,cap,c4,exsAt_rfw (B:=B+1) (B':=B) h4 (by omega)⟩,c5⟩,exsIn_mono hr⟩
theorem stsIn_mono {B:Nat} {W:World} {g:Nat} : ∀ {l:List St} {q:Nat},stsIn (Rf (B+1) W) W l g q->stsIn (Rf B W) W l g q
 | [],q,_=>trivial
 | x :: r, q, h => by
   obtain ⟨k,nm,ot,es,bo,el,ps⟩:=x
   obtain ⟨⟨c0,c1,c2,⟨a3,p3,c3,h3⟩,⟨a4,p4,c4,h4⟩,⟨a5,p5,c5,h5⟩,c6⟩,hr⟩:=h
   exact ⟨⟨c0,c1,c2,⟨a3,p3,c3,exsAt_rfw h3 (by omega)⟩,⟨a4,p4,c4,stsAt_rfw (B:=B+1) (B':=B) h4 (by omega)⟩,⟨a5,p5,c5,stsAt_rfw (B:=B+1) (B':=B) h5 (by omega)⟩,c6⟩,stsIn_mono hr⟩
theorem thsIn_mono {B:Nat} {W:World} {g:Nat} : ∀ {l:List Th} {q:Nat},thsIn (Rf (B+1) W) W l g q->thsIn (Rf B W) W l g q
 | [],q,_=>trivial
 | x :: r, q, h => by
   obtain ⟨⟨c0,⟨a3,p3,c3,h3⟩,⟨a4,p4,c4,h4⟩,c5⟩,hr⟩:=h
   exact ⟨⟨c0,⟨a3,p3,c3,dcsAt_rfw h3 (by omega)⟩,⟨a4,p4,c4,stsAt_rfw h4 (by omega)⟩,c5⟩,thsIn_mono hr⟩
theorem sizeEx:(Tryz.prog.info? 167).map (·.size)=some 6:=by kernel_rfl
theorem sizeDc:(Tryz.prog.info? 61).map (·.size)=some 3:=by kernel_rfl
theorem sizeSt:(Tryz.prog.info? 120).map (·.size)=some 7:=by kernel_rfl
theorem sizeTh:(Tryz.prog.info? 66).map (·.size)=some 4:=by kernel_rfl
def CpE (x:Ex):Prop:=fitE x->∀ (a:Option Addr) (c:Nat) (w:World),exsAt (fun _=>True) w x.kids a->Calls Tryz.prog 201 #[.agg (exCells x a c).toArray] w fun e w'=>∃ a' c',e=.returned (.agg (exCells x a' c').toArray)/\exsAt (Rf w.heap.size w') w' x.kids a'/\Below w.heap.size w w'
def CpEs (l:List Ex):Prop:=fitEs l->64*l.length<=140737488355328->∀ (a:Option Addr) (c:Nat) (w:World),exsAt (fun _=>True) w l a ->
 Calls Tryz.prog 200 #[.slice a l.length c,.func (.func 201) #[] #[]] w fun e w'=>∃ a' c',e=.returned (.slice a' l.length c')/\exsAt (Rf w.heap.size w') w' l a'/\Below w.heap.size w w'
def CpD (x:Dc):Prop:=fitD x->∀  (w:World),Calls Tryz.prog 126 #[.agg (dcCells x).toArray] w fun e w'=>e=.returned (.agg (dcCells x).toArray)/\Below w.heap.size w w'
def CpDs (l:List Dc):Prop:=fitDs l->32*l.length<=140737488355328->∀ (a:Option Addr) (c:Nat) (w:World),dcsAt (fun _=>True) w l a ->
 Calls Tryz.prog 125 #[.slice a l.length c,.func (.func 126) #[] #[]] w fun e w'=>∃ a' c',e=.returned (.slice a' l.length c')/\dcsAt (Rf w.heap.size w') w' l a'/\Below w.heap.size w w'
def CpS (x:St):Prop:=fitS x->∀ (a3:Option Addr) (c3:Nat) (a4:Option Addr) (c4:Nat) (a5:Option Addr) (c5:Nat) (w:World),exsAt (fun _=>True) w x.e a3->stsAt (fun _=>True) w x.body a4->stsAt (fun _=>True) w x.els a5->Calls Tryz.prog 164 #[.agg (stCells x a3 c3 a4 c4 a5 c5).toArray] w fun e w'=>∃ a3' c3' a4' c4' a5' c5',e=.returned (.agg (stCells x a3' c3' a4' c4' a5' c5').toArray)/\exsAt (Rf w.heap.size w') w' x.e a3'/\stsAt (Rf w.heap.size w') w' x.body a4'/\stsAt (Rf w.heap.size w') w' x.els a5'/\Below w.heap.size w w'
def CpSs (l:List St):Prop:=fitSs l->120*l.length<=140737488355328->∀ (a:Option Addr) (c:Nat) (w:World),stsAt (fun _=>True) w l a ->
 Calls Tryz.prog 163 #[.slice a l.length c,.func (.func 164) #[] #[]] w fun e w'=>∃ a' c',e=.returned (.slice a' l.length c')/\stsAt (Rf w.heap.size w') w' l a'/\Below w.heap.size w w'
def CpT (x:Th):Prop:=fitT x->∀ (a1:Option Addr) (c1:Nat) (a2:Option Addr) (c2:Nat) (w:World),dcsAt (fun _=>True) w x.locals a1->stsAt (fun _=>True) w x.body a2->Calls Tryz.prog 128 #[.agg (thCells x a1 c1 a2 c2).toArray] w fun e w'=>∃ a1' c1' a2' c2',e=.returned (.agg (thCells x a1' c1' a2' c2').toArray)/\dcsAt (Rf w.heap.size w') w' x.locals a1'/\stsAt (Rf w.heap.size w') w' x.body a2'/\Below w.heap.size w w'
def CpTs (l:List Th):Prop:=fitTs l->72*l.length<=140737488355328->∀ (a:Option Addr) (c:Nat) (w:World),thsAt (fun _=>True) w l a ->
 Calls Tryz.prog 127 #[.slice a l.length c,.func (.func 128) #[] #[]] w fun e w'=>∃ a' c',e=.returned (.slice a' l.length c')/\thsAt (Rf w.heap.size w') w' l a'/\Below w.heap.size w w'
theorem cp_each_E {l:List Ex} (HI:∀ x∈l,CpE x):CpEs l:=by
 intro HO hl a c w h1;cases a with
 | none =>
   have T:l=[]:=by
    rcases h1 with h | ⟨g,q,h,_⟩
    · cases l with | nil=>rfl | cons=>cases h
    · cases h
   subst T;have hq:=fun (w:World)=>Lib.run_eql_slice_nil (P:=Tryz.prog) w 118 167 none 0 c 0 0 Tryz.underlying118
   simp only [Option.isNone_none] at hq;clear hl HI HO h1;go_enter Tryz.func200,Tryz.ntmps200;go_wp2_with fail;go_ret;exact ⟨none,0,rfl,.inl rfl,Below.refl _ w⟩
 | some a =>
 have HI:=Hd HI;have HO:=Hd HO;have E1:=Hd h1;obtain ⟨n,hn⟩:=Qx l.length;rw [<- hn] at hl ⊢;have HN:=Hd hn;clear h1 hn;obtain ⟨i0,hi,O,af,X⟩:=info_parts infoEx;have hq:=fun (w:World)=>Lib.run_eql_slice_nil (P:=Tryz.prog) w 118 167 (some a) n c 0 0 Tryz.underlying118
 simp only [Option.isNone_some] at hq;go_enter Tryz.func200,Tryz.ntmps200;go_wp2_with (refine wpList_make_full w rfl _ _ 118 rfl w.heap.size 167 i0 (.agg zEx) 6 Tryz.underlying118 hi O af .i64 .i64 n n n rfl rfl rfl rfl (by rw [X];omega) (by unfold maxLen;omega) (Nat.le_refl _) ?_;intro w1 s A)
 have G:=Hd (made_lt s);have d:=Hd (there_made s);have z:=Hd (uf_made s);have K:=Hd ((Below.refl w.heap.size w).grown A (Nat.le_refl _) (fun k h=>by cases h))
 clear s A hi O af X hq;go_loopg [15] (n+1) (fun m' u W=>∃ i:Nat,u=.int .i64 (i:Int)/\i<=n/\m'=n-i+1/\exsIn (Rf (w.heap.size+1) W) W (l.take i) w.heap.size 0/\Uf W w.heap.size/\W.there w.heap.size 0 (n*6)/\w.heap.size<W.heap.size/\Below w.heap.size w W)
 case atStart=>exact ⟨0,rfl,Nat.zero_le _,by omega,trivial,z.out,d.out,G.out,K.out⟩
 case round =>
  clear G d K z;obtain ⟨i,rfl,hi,hm,hI,ah,V,hg,ad⟩:=hrel;have z:=Hd ah;have HM:=Hd hm;have S:=Hd hI;have d:=Hd V;have G:=Hd hg;have K:=Hd ad;clear hm ad hI V hg ah;by_cases hin:i<n
  · have R : i < l.length := by have := HN.out; omega
    have g1:l[i]? = some l[i]:=List.getElem?_eq_getElem R;have r:l[i]∈l:=List.getElem_mem R;generalize l[i]=x at g1 r;rcases E1.out with e | ⟨g,q,e,_,e1⟩
    · cases l with
      | nil=>simp at R
      | cons=>cases e
    obtain rfl:a=⟨g,q,none⟩:=by injection e
    have x1:=exsIn_get i x e1 g1;obtain ⟨k,o,wd,b,ks,f⟩:=x;obtain ⟨f0,f1,f2,f3,⟨a,c,f4,w0⟩,f5⟩:=x1;have I:=lt_of_at f0;simp only at I;have a7:(i:Int)<(n:Int):=by omega
    have ab:Hid (∀ W,Below w.heap.size w W->Calls Tryz.prog 201 #[.agg #[.int .u8 k,.int .u8 o,.int .i64 wd,.string b,.slice a ks.length c,.int .i64 f]] W fun e' w'=>∃ t y,e'=.returned (.agg #[.int .u8 k,.int .u8 o,.int .i64 wd,.string b,.slice t ks.length y,.int .i64 f])/\exsAt (Rf W.heap.size w') w' ks t/\Below W.heap.size W w'):=fun W hW=>HI.out _ r (fitEs_mem HO.out _ r) a c W (exsAt_below w0 hW)
    have L:=K.out;have f0:=cb L I f0;have f1:=cb L I f1;have f2:=cb L I f2;have f3:=cb L I f3;have f4:=cb L I f4;have f5:=cb L I f5;have au:=Hd g1;have ao:=Hd R;clear g1 e1 R r L w0 e;obtain ⟨m,J⟩:=Qx ks.length;rw [<- J] at ab f4;have ar:=Hd J;clear J;have O1:=Own.new wr 167 #[.int .u8 k,.int .u8 o,.int .i64 wd,.string b,.slice a m c,.int .i64 f];have M:=Hd (K.out.alloc K.out.size (.cells #[.int .u8 k,.int .u8 o,.int .i64 wd,.string b,.slice a m c,.int .i64 f] 167));have Z:Hid (w.heap.size<(wr.alloc (.cells #[.int .u8 k,.int .u8 o,.int .i64 wd,.string b,.slice a m c,.int .i64 f] 167)).heap.size):=by rw [Hid,World.size_alloc];have:=G.out;omega
    have U:Hid (Below wr.heap.size wr (wr.alloc (.cells #[.int .u8 k,.int .u8 o,.int .i64 wd,.string b,.slice a m c,.int .i64 f] 167))):=(Below.refl _ wr).alloc (Nat.le_refl _) _;go_wp2_with (refine ld rowEx rfl rfl rfl O1 rfl ?_);go_at_call 201;refine (ab.out _ M.out).mono ?_;rintro e N ⟨t,y,rfl,Q,C⟩;have j:=U.out.trans (C.mono U.out.size);have d:=Hd (there_below d.out G.out j);have ac:N.there w.heap.size (i*6) 6:=there_part d.out (by omega)
    have F:Hid (exsIn (Rf (w.heap.size+1) (N.setCells w.heap.size (i*6) [.int .u8 k,.int .u8 o,.int .i64 wd,.string b,.slice t m y,.int .i64 f])) (N.setCells w.heap.size (i*6) [.int .u8 k,.int .u8 o,.int .i64 wd,.string b,.slice t m y,.int .i64 f]) (l.take (i+1)) w.heap.size 0):=by
     rw [Hid,ar.out];exact cp_step_E (x:=Ex.mk k o wd b ks f) ao.out au.out (by have:=HN.out;omega) Z.out d.out (exsIn_mv (B:=w.heap.size+1) (lim:=i*6) (fun o v _ hv=>by rw [j.cell (p:=⟨w.heap.size,o,none⟩) G.out];exact hv) (chg_below j) _ 0 (by rw [List.length_take];omega) S.out) Q
    have E:Hid (Uf (N.setCells w.heap.size (i*6) [.int .u8 k,.int .u8 o,.int .i64 wd,.string b,.slice t m y,.int .i64 f]) w.heap.size):=uf_setCells _ _ _ (uf_below z.out j G.out);have D:=Hd (there_setCells2 d.out (i*6) [.int .u8 k,.int .u8 o,.int .i64 wd,.string b,.slice t m y,.int .i64 f]);have ai:=Hd (below_setCells (Nat.le_refl w.heap.size) [.int .u8 k,.int .u8 o,.int .i64 wd,.string b,.slice t m y,.int .i64 f] (i*6) _ (M.out.trans (C.mono M.out.size)));have ag:Hid (w.heap.size<(N.setCells w.heap.size (i*6) [.int .u8 k,.int .u8 o,.int .i64 wd,.string b,.slice t m y,.int .i64 f]).heap.size):=by rw [Hid,size_setCells];exact Nat.lt_of_lt_of_le Z.out C.size
    obtain ⟨W4,H⟩:=Qx (N.setCells w.heap.size (i*6) [.int .u8 k,.int .u8 o,.int .i64 wd,.string b,.slice t m y,.int .i64 f]);rw [<- H] at F E D ai ag;have aw:Hid (N.setCells w.heap.size (i*6) (#[.int .u8 k,.int .u8 o,.int .i64 wd,.string b,.slice t m y,.int .i64 f]:Array Value).toList=W4):=H.symm;clear H;have aa:Hid ((#[.int .u8 k,.int .u8 o,.int .i64 wd,.string b,.slice t m y,.int .i64 f]:Array Value).all (·.oneCell')=true):=by rw [Hid];simp [Value.oneCell']
    clear C j O1 Q;go_wp2_with (refine wpList_store_mid rfl 167 _ _ rfl w.heap.size (i*6) #[.int .u8 k,.int .u8 o,.int .i64 wd,.string b,.slice t m y,.int .i64 f] rfl rfl ac sizeEx aa.out ?_;rw [aw.out]);go_roundg (n-(i+1)+1)
    case measure=>have:=HM.out;omega
    case rel=>exact ⟨i+1,rfl,by omega,by omega,F.out,E.out,D.out,ag.out,ai.out⟩
  · have : i = n := by omega
    subst this;have Y:Hid (exsAt (Rf w.heap.size wr) wr l (some ⟨w.heap.size,0,none⟩)):=by
     have:=S.out;rw [List.take_of_length_le (by have:=HN.out;omega)] at this
     exact .inr ⟨_,0,rfl,⟨Nat.le_refl _,z.out⟩,exsIn_mono this⟩
    go_wp2_with fail;go_ret;exact ⟨_,_,rfl,Y.out,K.out⟩
theorem cp_each_D {l:List Dc} (HI:∀ x∈l,CpD x):CpDs l:=by
 intro HO hl a c w h1;cases a with
 | none =>
   have M:l=[]:=by
    rcases h1 with h | ⟨g,q,h,_⟩
    · cases l with | nil=>rfl | cons=>cases h
    · cases h
   subst M;have Z:=fun (w:World)=>Lib.run_eql_slice_nil (P:=Tryz.prog) w 23 61 none 0 c 0 0 Tryz.underlying23
   simp only [Option.isNone_none] at Z;clear hl HI HO h1;go_enter Tryz.func125,Tryz.ntmps125;go_wp2_with fail;go_ret;exact ⟨none,0,rfl,.inl rfl,Below.refl _ w⟩
 | some a =>
 have HI:=Hd HI;have HO:=Hd HO;have E1:=Hd h1;obtain ⟨n,hn⟩:=Qx l.length;rw [<- hn] at hl ⊢;have HN:=Hd hn;clear h1 hn;obtain ⟨i0,hi,I,O,R⟩:=info_parts infoDc;have Z:=fun (w:World)=>Lib.run_eql_slice_nil (P:=Tryz.prog) w 23 61 (some a) n c 0 0 Tryz.underlying23
 simp only [Option.isNone_some] at Z;go_enter Tryz.func125,Tryz.ntmps125;go_wp2_with (refine wpList_make_full w rfl _ _ 23 rfl w.heap.size 61 i0 (.agg zDc) 3 Tryz.underlying23 hi I O .i64 .i64 n n n rfl rfl rfl rfl (by rw [R];omega) (by unfold maxLen;omega) (Nat.le_refl _) ?_;intro w1 r s)
 have D:=Hd (made_lt r);have d:=Hd (there_made r);have t:=Hd (uf_made r);have F:=Hd ((Below.refl w.heap.size w).grown s (Nat.le_refl _) (fun k h=>by cases h))
 clear r s hi I O R Z;go_loopg [15] (n+1) (fun m' u W=>∃ i:Nat,u=.int .i64 (i:Int)/\i<=n/\m'=n-i+1/\dcsIn W (l.take i) w.heap.size 0/\Uf W w.heap.size/\W.there w.heap.size 0 (n*3)/\w.heap.size<W.heap.size/\Below w.heap.size w W)
 case atStart=>exact ⟨0,rfl,Nat.zero_le _,by omega,trivial,t.out,d.out,D.out,F.out⟩
 case round =>
  clear D d F t;obtain ⟨i,rfl,hi,hm,hI,X,Q,hg,V⟩:=hrel;have t:=Hd X;have HM:=Hd hm;have K:=Hd hI;have d:=Hd Q;have D:=Hd hg;have F:=Hd V;clear hm V hI Q hg X;by_cases hin:i<n
  · have J : i < l.length := by have := HN.out; omega
    have g1:l[i]? = some l[i]:=List.getElem?_eq_getElem J;have m:l[i]∈l:=List.getElem_mem J;generalize l[i]=x at g1 m;rcases E1.out with e | ⟨g,q,e,_,e1⟩
    · cases l with
      | nil=>simp at J
      | cons=>cases e
    obtain rfl:a=⟨g,q,none⟩:=by injection e
    have x1:=dcsIn_get i x e1 g1;obtain ⟨f,wd,j⟩:=x;obtain ⟨f0,f1,f2⟩:=x1;have lg:=lt_of_at f0;simp only at lg;have av:(i:Int)<(n:Int):=by omega
    have ak:Hid (∀ W,Below w.heap.size w W->Calls Tryz.prog 126 #[.agg #[.string f,.int .i64 wd,.int .i64 j]] W fun e' w'=>e'=.returned (.agg #[.string f,.int .i64 wd,.int .i64 j])/\Below W.heap.size W w'):=fun W hW=>HI.out _ m (fitDs_mem HO.out _ m) W
    have BX:=F.out;have f0:=cb BX lg f0;have f1:=cb BX lg f1;have f2:=cb BX lg f2;have ai:=Hd g1;have af:=Hd J;clear g1 e1 J m BX  e;have O1:=Own.new wr 61 #[.string f,.int .i64 wd,.int .i64 j];have G:=Hd (F.out.alloc F.out.size (.cells #[.string f,.int .i64 wd,.int .i64 j] 61));have ag:Hid (w.heap.size<(wr.alloc (.cells #[.string f,.int .i64 wd,.int .i64 j] 61)).heap.size):=by rw [Hid,World.size_alloc];have:=D.out;omega
    have N:Hid (Below wr.heap.size wr (wr.alloc (.cells #[.string f,.int .i64 wd,.int .i64 j] 61))):=(Below.refl _ wr).alloc (Nat.le_refl _) _;go_wp2_with (refine ld rowDc rfl rfl rfl O1 rfl ?_);go_at_call 126;refine (ak.out _ G.out).mono ?_;rintro e H ⟨rfl,y⟩;have b:=N.out.trans (y.mono N.out.size);have d:=Hd (there_below d.out D.out b);have T:H.there w.heap.size (i*3) 3:=there_part d.out (by omega)
    have A:Hid (dcsIn (H.setCells w.heap.size (i*3) [.string f,.int .i64 wd,.int .i64 j]) (l.take (i+1)) w.heap.size 0):=by
     exact cp_step_D (B2:=w.heap.size+1) (x:=Dc.mk f wd j) af.out ai.out (by have:=HN.out;omega) (Nat.le_refl _) d.out (dcsIn_mv (B:=w.heap.size+1) (lim:=i*3) (fun o v _ hv=>by rw [b.cell (p:=⟨w.heap.size,o,none⟩) D.out];exact hv) (chg_below b) _ 0 (by rw [List.length_take];omega) K.out)
    have z:Hid (Uf (H.setCells w.heap.size (i*3) [.string f,.int .i64 wd,.int .i64 j]) w.heap.size):=uf_setCells _ _ _ (uf_below t.out b D.out);have C:=Hd (there_setCells2 d.out (i*3) [.string f,.int .i64 wd,.int .i64 j]);have Y:=Hd (below_setCells (Nat.le_refl w.heap.size) [.string f,.int .i64 wd,.int .i64 j] (i*3) _ (G.out.trans (y.mono G.out.size)));have S:Hid (w.heap.size<(H.setCells w.heap.size (i*3) [.string f,.int .i64 wd,.int .i64 j]).heap.size):=by rw [Hid,size_setCells];exact Nat.lt_of_lt_of_le ag.out y.size
    obtain ⟨W4,E⟩:=Qx (H.setCells w.heap.size (i*3) [.string f,.int .i64 wd,.int .i64 j]);rw [<- E] at A z C Y S;have al:Hid (H.setCells w.heap.size (i*3) (#[.string f,.int .i64 wd,.int .i64 j]:Array Value).toList=W4):=E.symm;clear E;have L:Hid ((#[.string f,.int .i64 wd,.int .i64 j]:Array Value).all (·.oneCell')=true):=by rw [Hid];simp [Value.oneCell']
    clear y b O1;go_wp2_with (refine wpList_store_mid rfl 61 _ _ rfl w.heap.size (i*3) #[.string f,.int .i64 wd,.int .i64 j] rfl rfl T sizeDc L.out ?_;rw [al.out]);go_roundg (n-(i+1)+1)
    case measure=>have:=HM.out;omega
    case rel=>exact ⟨i+1,rfl,by omega,by omega,A.out,z.out,C.out,S.out,Y.out⟩
  · have : i = n := by omega
    subst this;have U:Hid (dcsAt (Rf w.heap.size wr) wr l (some ⟨w.heap.size,0,none⟩)):=by
     have:=K.out;rw [List.take_of_length_le (by have:=HN.out;omega)] at this
     exact .inr ⟨_,0,rfl,⟨Nat.le_refl _,t.out⟩,this⟩
    go_wp2_with fail;go_ret;exact ⟨_,_,rfl,U.out,F.out⟩
theorem cp_each_S {l:List St} (HI:∀ x∈l,CpS x):CpSs l:=by
 intro HO hl a c w h1;cases a with
 | none =>
   have ak:l=[]:=by
    rcases h1 with h | ⟨g,q,h,_⟩
    · cases l with | nil=>rfl | cons=>cases h
    · cases h
   subst ak;have hq:=fun (w:World)=>Lib.run_eql_slice_nil (P:=Tryz.prog) w 64 120 none 0 c 0 0 Tryz.underlying64
   simp only [Option.isNone_none] at hq;clear hl HI HO h1;go_enter Tryz.func163,Tryz.ntmps163;go_wp2_with fail;go_ret;exact ⟨none,0,rfl,.inl rfl,Below.refl _ w⟩
 | some a =>
 have HI:=Hd HI;have HO:=Hd HO;have E1:=Hd h1;obtain ⟨n,hn⟩:=Qx l.length;rw [<- hn] at hl ⊢;have HN:=Hd hn;clear h1 hn;obtain ⟨i0,hi,ag,ay,an⟩:=info_parts infoSt;have hq:=fun (w:World)=>Lib.run_eql_slice_nil (P:=Tryz.prog) w 64 120 (some a) n c 0 0 Tryz.underlying64
 simp only [Option.isNone_some] at hq;go_enter Tryz.func163,Tryz.ntmps163;go_wp2_with (refine wpList_make_full w rfl _ _ 64 rfl w.heap.size 120 i0 (.agg zSt) 7 Tryz.underlying64 hi ag ay .i64 .i64 n n n rfl rfl rfl rfl (by rw [an];omega) (by unfold maxLen;omega) (Nat.le_refl _) ?_;intro w1 G I)
 have R:=Hd (made_lt G);have t:=Hd (there_made G);have H:=Hd (uf_made G);have U:=Hd ((Below.refl w.heap.size w).grown I (Nat.le_refl _) (fun k h=>by cases h))
 clear G I hi ag ay an hq;go_loopg [15] (n+1) (fun m' u W=>∃ i:Nat,u=.int .i64 (i:Int)/\i<=n/\m'=n-i+1/\stsIn (Rf (w.heap.size+1) W) W (l.take i) w.heap.size 0/\Uf W w.heap.size/\W.there w.heap.size 0 (n*7)/\w.heap.size<W.heap.size/\Below w.heap.size w W)
 case atStart=>exact ⟨0,rfl,Nat.zero_le _,by omega,trivial,H.out,t.out,R.out,U.out⟩
 case round =>
  clear R t U H;obtain ⟨i,rfl,hi,hm,hI,a2,am,hg,ax⟩:=hrel;have H:=Hd a2;have HM:=Hd hm;have aj:=Hd hI;have t:=Hd am;have R:=Hd hg;have U:=Hd ax;clear hm ax hI am hg a2;by_cases hin:i<n
  · have il : i < l.length := by have := HN.out; omega
    have g1:l[i]? = some l[i]:=List.getElem?_eq_getElem il;have E:l[i]∈l:=List.getElem_mem il;generalize l[i]=x at g1 E;rcases E1.out with e | ⟨g,q,e,_,e1⟩
    · cases l with
      | nil=>simp at il
      | cons=>cases e
    obtain rfl:a=⟨g,q,none⟩:=by injection e
    have x1:=stsIn_get i x e1 g1;obtain ⟨k,s,y,es,bo,el,z⟩:=x;obtain ⟨f0,f1,f2,⟨a3,c3,f3,w0⟩,⟨a4,c4,f4,w1⟩,⟨a5,c5,f5,w2⟩,f6⟩:=x1;have L:=lt_of_at f0;simp only at L;have b1:(i:Int)<(n:Int):=by omega
    have J:Hid (∀ W,Below w.heap.size w W->Calls Tryz.prog 164 #[.agg #[.int .u8 k,.string s,.string y,.slice a3 es.length c3,.slice a4 bo.length c4,.slice a5 el.length c5,.int .i64 z]] W fun e' w'=>∃ d r f j b m,e'=.returned (.agg #[.int .u8 k,.string s,.string y,.slice d es.length r,.slice f bo.length j,.slice b el.length m,.int .i64 z])/\exsAt (Rf W.heap.size w') w' es d/\stsAt (Rf W.heap.size w') w' bo f/\stsAt (Rf W.heap.size w') w' el b/\Below W.heap.size W w'):=fun W hW=>HI.out _ E (fitSs_mem HO.out _ E) a3 c3 a4 c4 a5 c5 W (exsAt_below w0 hW) (stsAt_below w1 hW) (stsAt_below w2 hW)
    have Q:=U.out;have f0:=cb Q L f0;have f1:=cb Q L f1;have f2:=cb Q L f2;have f3:=cb Q L f3;have f4:=cb Q L f4;have f5:=cb Q L f5;have f6:=cb Q L f6;have bj:=Hd g1;have be:=Hd il;clear g1 e1 il E Q w0 w1 w2 e;obtain ⟨D,T⟩:=Qx es.length;rw [<- T] at J f3;have bi:=Hd T;clear T;obtain ⟨F,X⟩:=Qx bo.length;rw [<- X] at J f4;have bm:=Hd X;clear X;obtain ⟨C,V⟩:=Qx el.length;rw [<- V] at J f5;have bc:=Hd V;clear V;have O1:=Own.new wr 120 #[.int .u8 k,.string s,.string y,.slice a3 D c3,.slice a4 F c4,.slice a5 C c5,.int .i64 z];have Y:=Hd (U.out.alloc U.out.size (.cells #[.int .u8 k,.string s,.string y,.slice a3 D c3,.slice a4 F c4,.slice a5 C c5,.int .i64 z] 120));have aq:Hid (w.heap.size<(wr.alloc (.cells #[.int .u8 k,.string s,.string y,.slice a3 D c3,.slice a4 F c4,.slice a5 C c5,.int .i64 z] 120)).heap.size):=by rw [Hid,World.size_alloc];have:=R.out;omega
    have al:Hid (Below wr.heap.size wr (wr.alloc (.cells #[.int .u8 k,.string s,.string y,.slice a3 D c3,.slice a4 F c4,.slice a5 C c5,.int .i64 z] 120))):=(Below.refl _ wr).alloc (Nat.le_refl _) _;go_wp2_with (refine ld rowSt rfl rfl rfl O1 rfl ?_);go_at_call 164;refine (J.out _ Y.out).mono ?_;rintro e Z ⟨d,r,f,j,b,m,rfl,ah,aw,az,K⟩;have A:=al.out.trans (K.mono al.out.size);have t:=Hd (there_below t.out R.out A);have au:Z.there w.heap.size (i*7) 7:=there_part t.out (by omega)
    have O:Hid (stsIn (Rf (w.heap.size+1) (Z.setCells w.heap.size (i*7) [.int .u8 k,.string s,.string y,.slice d D r,.slice f F j,.slice b C m,.int .i64 z])) (Z.setCells w.heap.size (i*7) [.int .u8 k,.string s,.string y,.slice d D r,.slice f F j,.slice b C m,.int .i64 z]) (l.take (i+1)) w.heap.size 0):=by
     rw [Hid,bi.out,bm.out,bc.out];exact cp_step_S (x:=St.mk k s y es bo el z) be.out bj.out (by have:=HN.out;omega) aq.out t.out (stsIn_mv (B:=w.heap.size+1) (lim:=i*7) (fun o v _ hv=>by rw [A.cell (p:=⟨w.heap.size,o,none⟩) R.out];exact hv) (chg_below A) _ 0 (by rw [List.length_take];omega) aj.out) ah aw az
    have N:Hid (Uf (Z.setCells w.heap.size (i*7) [.int .u8 k,.string s,.string y,.slice d D r,.slice f F j,.slice b C m,.int .i64 z]) w.heap.size):=uf_setCells _ _ _ (uf_below H.out A R.out);have M:=Hd (there_setCells2 t.out (i*7) [.int .u8 k,.string s,.string y,.slice d D r,.slice f F j,.slice b C m,.int .i64 z]);have a6:=Hd (below_setCells (Nat.le_refl w.heap.size) [.int .u8 k,.string s,.string y,.slice d D r,.slice f F j,.slice b C m,.int .i64 z] (i*7) _ (Y.out.trans (K.mono Y.out.size)));have a0:Hid (w.heap.size<(Z.setCells w.heap.size (i*7) [.int .u8 k,.string s,.string y,.slice d D r,.slice f F j,.slice b C m,.int .i64 z]).heap.size):=by rw [Hid,size_setCells];exact Nat.lt_of_lt_of_le aq.out K.size
    obtain ⟨W4,S⟩:=Qx (Z.setCells w.heap.size (i*7) [.int .u8 k,.string s,.string y,.slice d D r,.slice f F j,.slice b C m,.int .i64 z]);rw [<- S] at O N M a6 a0;have bn:Hid (Z.setCells w.heap.size (i*7) (#[.int .u8 k,.string s,.string y,.slice d D r,.slice f F j,.slice b C m,.int .i64 z]:Array Value).toList=W4):=S.symm;clear S;have ar:Hid ((#[.int .u8 k,.string s,.string y,.slice d D r,.slice f F j,.slice b C m,.int .i64 z]:Array Value).all (·.oneCell')=true):=by rw [Hid];simp [Value.oneCell']
    clear K A O1 ah aw az;go_wp2_with (refine wpList_store_mid rfl 120 _ _ rfl w.heap.size (i*7) #[.int .u8 k,.string s,.string y,.slice d D r,.slice f F j,.slice b C m,.int .i64 z] rfl rfl au sizeSt ar.out ?_;rw [bn.out]);go_roundg (n-(i+1)+1)
    case measure=>have:=HM.out;omega
    case rel=>exact ⟨i+1,rfl,by omega,by omega,O.out,N.out,M.out,a0.out,a6.out⟩
  · have : i = n := by omega
    subst this;have ap:Hid (stsAt (Rf w.heap.size wr) wr l (some ⟨w.heap.size,0,none⟩)):=by
     have:=aj.out;rw [List.take_of_length_le (by have:=HN.out;omega)] at this
     exact .inr ⟨_,0,rfl,⟨Nat.le_refl _,H.out⟩,stsIn_mono this⟩
    go_wp2_with fail;go_ret;exact ⟨_,_,rfl,ap.out,U.out⟩
theorem cp_each_T {l:List Th} (HI:∀ x∈l,CpT x):CpTs l:=by
 intro HO hl a c w h1;cases a with
 | none =>
   have ab:l=[]:=by
    rcases h1 with h | ⟨g,q,h,_⟩
    · cases l with | nil=>rfl | cons=>cases h
    · cases h
   subst ab;have hq:=fun (w:World)=>Lib.run_eql_slice_nil (P:=Tryz.prog) w 24 66 none 0 c 0 0 Tryz.underlying24
   simp only [Option.isNone_none] at hq;clear hl HI HO h1;go_enter Tryz.func127,Tryz.ntmps127;go_wp2_with fail;go_ret;exact ⟨none,0,rfl,.inl rfl,Below.refl _ w⟩
 | some a =>
 have HI:=Hd HI;have HO:=Hd HO;have E1:=Hd h1;obtain ⟨n,hn⟩:=Qx l.length;rw [<- hn] at hl ⊢;have HN:=Hd hn;clear h1 hn;obtain ⟨i0,hi,X,an,ae⟩:=info_parts infoTh;have hq:=fun (w:World)=>Lib.run_eql_slice_nil (P:=Tryz.prog) w 24 66 (some a) n c 0 0 Tryz.underlying24
 simp only [Option.isNone_some] at hq;go_enter Tryz.func127,Tryz.ntmps127;go_wp2_with (refine wpList_make_full w rfl _ _ 24 rfl w.heap.size 66 i0 (.agg zTh) 4 Tryz.underlying24 hi X an .i64 .i64 n n n rfl rfl rfl rfl (by rw [ae];omega) (by unfold maxLen;omega) (Nat.le_refl _) ?_;intro w1 C E)
 have J:=Hd (made_lt C);have r:=Hd (there_made C);have D:=Hd (uf_made C);have N:=Hd ((Below.refl w.heap.size w).grown E (Nat.le_refl _) (fun k h=>by cases h))
 clear C E hi X an ae hq;go_loopg [15] (n+1) (fun m' u W=>∃ i:Nat,u=.int .i64 (i:Int)/\i<=n/\m'=n-i+1/\thsIn (Rf (w.heap.size+1) W) W (l.take i) w.heap.size 0/\Uf W w.heap.size/\W.there w.heap.size 0 (n*4)/\w.heap.size<W.heap.size/\Below w.heap.size w W)
 case atStart=>exact ⟨0,rfl,Nat.zero_le _,by omega,trivial,D.out,r.out,J.out,N.out⟩
 case round =>
  clear J r N D;obtain ⟨i,rfl,hi,hm,hI,ar,ad,hg,am⟩:=hrel;have D:=Hd ar;have HM:=Hd hm;have aa:=Hd hI;have r:=Hd ad;have J:=Hd hg;have N:=Hd am;clear hm am hI ad hg ar;by_cases hin:i<n
  · have Z : i < l.length := by have := HN.out; omega
    have g1:l[i]? = some l[i]:=List.getElem?_eq_getElem Z;have z:l[i]∈l:=List.getElem_mem Z;generalize l[i]=x at g1 z;rcases E1.out with e | ⟨g,q,e,_,e1⟩
    · cases l with
      | nil=>simp at Z
      | cons=>cases e
    obtain rfl:a=⟨g,q,none⟩:=by injection e
    have x1:=thsIn_get i x e1 g1;obtain ⟨m,lo,bo,s⟩:=x;obtain ⟨f0,⟨S,U,f1,w0⟩,⟨T,V,f2,w1⟩,f3⟩:=x1;have lg:=lt_of_at f0;simp only at lg;have bj:(i:Int)<(n:Int):=by omega
    have L:Hid (∀ W,Below w.heap.size w W->Calls Tryz.prog 128 #[.agg #[.string m,.slice S lo.length U,.slice T bo.length V,.int .i64 s]] W fun e' w'=>∃ b f d j,e'=.returned (.agg #[.string m,.slice b lo.length f,.slice d bo.length j,.int .i64 s])/\dcsAt (Rf W.heap.size w') w' lo b/\stsAt (Rf W.heap.size w') w' bo d/\Below W.heap.size W w'):=fun W hW=>HI.out _ z (fitTs_mem HO.out _ z) S U T V W (dcsAt_below w0 hW) (stsAt_below w1 hW)
    have BX:=N.out;have f0:=cb BX lg f0;have f1:=cb BX lg f1;have f2:=cb BX lg f2;have f3:=cb BX lg f3;have a7:=Hd g1;have a0:=Hd Z;clear g1 e1 Z z BX w0 w1 e;obtain ⟨y,M⟩:=Qx lo.length;rw [<- M] at L f1;have a6:=Hd M;clear M;obtain ⟨A,O⟩:=Qx bo.length;rw [<- O] at L f2;have ba:=Hd O;clear O;have O1:=Own.new wr 66 #[.string m,.slice S y U,.slice T A V,.int .i64 s];have Q:=Hd (N.out.alloc N.out.size (.cells #[.string m,.slice S y U,.slice T A V,.int .i64 s] 66));have ai:Hid (w.heap.size<(wr.alloc (.cells #[.string m,.slice S y U,.slice T A V,.int .i64 s] 66)).heap.size):=by rw [Hid,World.size_alloc];have:=J.out;omega
    have ac:Hid (Below wr.heap.size wr (wr.alloc (.cells #[.string m,.slice S y U,.slice T A V,.int .i64 s] 66))):=(Below.refl _ wr).alloc (Nat.le_refl _) _;go_wp2_with (refine ld rowTh rfl rfl rfl O1 rfl ?_);go_at_call 128;refine (L.out _ Q.out).mono ?_;rintro e R ⟨b,f,d,j,rfl,Y,al,F⟩;have t:=ac.out.trans (F.mono ac.out.size);have r:=Hd (there_below r.out J.out t);have ak:R.there w.heap.size (i*4) 4:=there_part r.out (by omega)
    have I:Hid (thsIn (Rf (w.heap.size+1) (R.setCells w.heap.size (i*4) [.string m,.slice b y f,.slice d A j,.int .i64 s])) (R.setCells w.heap.size (i*4) [.string m,.slice b y f,.slice d A j,.int .i64 s]) (l.take (i+1)) w.heap.size 0):=by
     rw [Hid,a6.out,ba.out];exact cp_step_T (x:=Th.mk m lo bo s) a0.out a7.out (by have:=HN.out;omega) ai.out r.out (thsIn_mv (B:=w.heap.size+1) (lim:=i*4) (fun o v _ hv=>by rw [t.cell (p:=⟨w.heap.size,o,none⟩) J.out];exact hv) (chg_below t) _ 0 (by rw [List.length_take];omega) aa.out) Y al
    have H:Hid (Uf (R.setCells w.heap.size (i*4) [.string m,.slice b y f,.slice d A j,.int .i64 s]) w.heap.size):=uf_setCells _ _ _ (uf_below D.out t J.out);have G:=Hd (there_setCells2 r.out (i*4) [.string m,.slice b y f,.slice d A j,.int .i64 s]);have au:=Hd (below_setCells (Nat.le_refl w.heap.size) [.string m,.slice b y f,.slice d A j,.int .i64 s] (i*4) _ (Q.out.trans (F.mono Q.out.size)));have ao:Hid (w.heap.size<(R.setCells w.heap.size (i*4) [.string m,.slice b y f,.slice d A j,.int .i64 s]).heap.size):=by rw [Hid,size_setCells];exact Nat.lt_of_lt_of_le ai.out F.size
    obtain ⟨W4,K⟩:=Qx (R.setCells w.heap.size (i*4) [.string m,.slice b y f,.slice d A j,.int .i64 s]);rw [<- K] at I H G au ao;have bb:Hid (R.setCells w.heap.size (i*4) (#[.string m,.slice b y f,.slice d A j,.int .i64 s]:Array Value).toList=W4):=K.symm;clear K;have aj:Hid ((#[.string m,.slice b y f,.slice d A j,.int .i64 s]:Array Value).all (·.oneCell')=true):=by rw [Hid];simp [Value.oneCell']
    clear F t O1 Y al;go_wp2_with (refine wpList_store_mid rfl 66 _ _ rfl w.heap.size (i*4) #[.string m,.slice b y f,.slice d A j,.int .i64 s] rfl rfl ak sizeTh aj.out ?_;rw [bb.out]);go_roundg (n-(i+1)+1)
    case measure=>have:=HM.out;omega
    case rel=>exact ⟨i+1,rfl,by omega,by omega,I.out,H.out,G.out,ao.out,au.out⟩
  · have : i = n := by omega
    subst this;have ag:Hid (thsAt (Rf w.heap.size wr) wr l (some ⟨w.heap.size,0,none⟩)):=by
     have:=aa.out;rw [List.take_of_length_le (by have:=HN.out;omega)] at this
     exact .inr ⟨_,0,rfl,⟨Nat.le_refl _,D.out⟩,thsIn_mono this⟩
    go_wp2_with fail;go_ret;exact ⟨_,_,rfl,ag.out,N.out⟩
end Go.Proofs.YtbgfkdiihnidaaaGreatDoor

/- The proof, part 7: texts that belong together, in one. -/
import Derived.Test.YtggbkldniffbfaaGreatDoorTAF
import Derived.WalkKit
import Derived.Below
import Derived.Test.YtggbkldniffbfaaGreatDoorTAA
import Derived.MapKept
set_option maxRecDepth 100000
set_option maxHeartbeats 20000000
namespace Go.Proofs.YtggbkldniffbfaaGreatDoor
set_option linter.unusedVariables false
theorem PR.then_eq_ok {α β:Type} {x:PR α} {f:α→List Tk→PR β} {b:β} {r:List Tk} (h:x.then f=.ok b r):∃ a q,x=.ok a q∧f a q=.ok b r:=by
 cases x with
 | ok a q=>exact ⟨a,q,rfl,h⟩
 | bad p q=>cases h
theorem need_ok {L:Int} {s:Bs} {ts:List Tk} {u:Unit} {r:List Tk} (h:need L s ts=.ok u r):isT s ts=true∧r=ts.tail∧r.length+1=ts.length:=by
 unfold need at h
 split at h
 · rename_i hi
   cases h
   cases ts with
   | nil=>cases hi
   | cons t r=>exact ⟨hi,rfl,rfl⟩
 · cases h
theorem isT_tail {s:Bs} {ts:List Tk} (h:isT s ts=true):ts.tail.length+1=ts.length:=by
 cases ts with
 | nil=>cases h
 | cons t r=>rfl
theorem name_ok {L:Int} {ts:List Tk} {d:Dc} {r:List Tk} (h:nameP L ts=.ok d r):r.length+1=ts.length:=by
 cases ts with
 | nil=>cases h
 | cons t q =>
   simp only [nameP] at h
   split at h
   · cases h;rfl
   · cases h
theorem num_ok {L:Int} {ts:List Tk} {d:Int} {r:List Tk} (h:numP L ts=.ok d r):r.length+1=ts.length:=by
 cases ts with
 | nil=>cases h
 | cons t q =>
   simp only [numP] at h
   split at h
   · cases h;rfl
   · cases h
section
variable {fnd:Bs→Int × Bool} {L:Int}
theorem expr_short:∀ n:Nat,
 (∀ d ts e r,opnd fnd L n d ts=.ok e r→r.length<ts.length) ∧
 (∀ v d ts e r,binE fnd L n v d ts=.ok e r→r.length<ts.length) ∧
 (∀ v d l ts e r,binL fnd L n v d l ts=.ok e r→r.length≤ts.length):=by
 intro n
 induction n with
 | zero=>exact ⟨fun d ts e r h=>by simp [opnd] at h,fun v d ts e r h=>by simp [binE] at h,fun v d l ts e r h=>by simp [binL] at h⟩
 | succ n ih =>
   obtain ⟨i1,i2,i3⟩:=ih
   refine ⟨fun d ts e r h=>?_,fun v d ts e r h=>?_,fun v d l ts e r h=>?_⟩
   · cases ts with
     | nil=>simp [opnd] at h
     | cons t q =>
       simp only [opnd] at h
       split at h
       · cases h;simp
       split at h
       · cases h;simp
       split at h
       · split at h
         · cases h
         · obtain ⟨a, b, h1, h2⟩ := PR.then_eq_ok h
           cases h2
           have:=i1 _ _ _ _ h1
           simp;omega
       split at h
       · split at h
         · cases h
         · obtain ⟨a, b, h1, h2⟩ := PR.then_eq_ok h
           cases h2
           have:=i1 _ _ _ _ h1
           simp;omega
       split at h
       · split at h
         · cases h
         · obtain ⟨a, b, h1, h2⟩ := PR.then_eq_ok h
           obtain ⟨u,c,h3,h4⟩:=PR.then_eq_ok h2
           cases h4
           have:=i2 _ _ _ _ _ h1
           have:=(need_ok h3).2.2
           simp;omega
       · cases h
   · simp only [binE] at h
     obtain ⟨a,b,h1,h2⟩:=PR.then_eq_ok h
     have:=i1 _ _ _ _ h1
     have:=i3 _ _ _ _ _ _ h2
     omega
   · cases ts with
     | nil=>simp only [binL] at h;cases h;simp
     | cons t q =>
       simp only [binL] at h
       split at h
       · obtain ⟨a, b, h1, h2⟩ := PR.then_eq_ok h
         have:=i2 _ _ _ _ _ h1
         have:=i3 _ _ _ _ _ _ h2
         simp;omega
       · cases h;simp
theorem opnd_short {n:Nat} {d:Int} {ts:List Tk} {e:Ex} {r:List Tk} (h:opnd fnd L n d ts=.ok e r):r.length<ts.length:=(expr_short n).1 _ _ _ _ h
theorem binE_short {n:Nat} {v d:Int} {ts:List Tk} {e:Ex} {r:List Tk} (h:binE fnd L n v d ts=.ok e r):r.length<ts.length:=(expr_short n).2.1 _ _ _ _ _ h
theorem list_short {one:List Tk→PR Dc} (ho:∀ ts d r,one ts=.ok d r→r.length<ts.length):∀ (n:Nat) (acc:List Dc) (ts:List Tk) (l:List Dc) (r:List Tk),listP L one n acc ts=.ok l r→r.length<ts.length
 | 0,acc,ts,l,r,h=>by simp [listP] at h
 | n + 1, acc, ts, l, r, h => by
   simp only [listP] at h
   obtain ⟨a,b,h1,h2⟩:=PR.then_eq_ok h
   have k:=ho _ _ _ h1
   split at h2
   · rename_i hi
     have:=list_short ho n _ _ _ _ h2
     have:=isT_tail hi
     omega
   · obtain ⟨u, c, h3, h4⟩ := PR.then_eq_ok h2
     cases h4
     have:=(need_ok h3).2.2
     omega
theorem nameP_short {ts:List Tk} {d:Dc} {r:List Tk} (h:nameP L ts=.ok d r):r.length<ts.length:=by have:=name_ok h;omega
theorem firstP_short {ts:List Tk} {d:Dc} {r:List Tk} (h:firstP L ts=.ok d r):r.length<ts.length:=by
 unfold firstP at h
 obtain ⟨a,b,h1,h2⟩:=PR.then_eq_ok h
 have k:=nameP_short h1
 split at h2
 · rename_i i1
   have q1:=isT_tail i1
   split at h2
   · rename_i i2
     have q2:=isT_tail i2
     obtain ⟨c,e,h3,h4⟩:=PR.then_eq_ok h2
     have:=num_ok h3
     cases h4
     omega
   · obtain ⟨c, e, h3, h4⟩ := PR.then_eq_ok h2
     have:=num_ok h3
     cases h4
     omega
 · cases h2;exact k
theorem paren_short {n:Nat} {ts:List Tk} {e:Ex} {r:List Tk} (h:parenP fnd L n ts=.ok e r):r.length<ts.length:=by
 unfold parenP at h
 obtain ⟨u,b,h1,h2⟩:=PR.then_eq_ok h
 obtain ⟨a,c,h3,h4⟩:=PR.then_eq_ok h2
 obtain ⟨u',d,h5,h6⟩:=PR.then_eq_ok h4
 cases h6
 have:=(need_ok h1).2.2
 have:=binE_short h3
 have:=(need_ok h5).2.2
 omega
theorem open_short {d:Int} {ts:List Tk} {u:Unit} {r:List Tk} (h:openP L d ts=.ok u r):r.length+1=ts.length:=by
 unfold openP at h
 obtain ⟨a,b,h1,h2⟩:=PR.then_eq_ok h
 split at h2
 · cases h2
 · cases h2
   exact (need_ok h1).2.2
theorem change_short {n:Nat} {t:Tk} {ts:List Tk} {s:St} {r:List Tk} (h:changeP fnd L n t ts=.ok s r):r.length<ts.length:=by
 unfold changeP at h
 obtain ⟨u,b,h1,h2⟩:=PR.then_eq_ok h
 have:=(need_ok h1).2.2
 split at h2
 · rename_i i1
   have:=isT_tail i1
   obtain ⟨u1,b1,h3,h4⟩:=PR.then_eq_ok h2
   obtain ⟨u2,b2,h5,h6⟩:=PR.then_eq_ok h4
   obtain ⟨u3,b3,h7,h8⟩:=PR.then_eq_ok h6
   obtain ⟨u4,b4,h9,h10⟩:=PR.then_eq_ok h8
   obtain ⟨u5,b5,h11,h12⟩:=PR.then_eq_ok h10
   obtain ⟨u6,b6,h13,h14⟩:=PR.then_eq_ok h12
   cases h14
   have:=(need_ok h3).2.2
   have:=name_ok h5
   have:=(need_ok h7).2.2
   have:=binE_short h9
   have:=(need_ok h11).2.2
   have:=(need_ok h13).2.2
   omega
 · obtain ⟨u4, b4, h9, h10⟩ := PR.then_eq_ok h2
   obtain ⟨u5,b5,h11,h12⟩:=PR.then_eq_ok h10
   cases h12
   have:=binE_short h9
   have:=(need_ok h11).2.2
   omega
theorem stmt_short:∀ n:Nat,
 (∀ d ts s r,stmtP fnd L n d ts=.ok s r→r.length<ts.length) ∧
 (∀ d acc ts l r,restP fnd L n d acc ts=.ok l r→r.length<ts.length):=by
 intro n
 induction n with
 | zero=>exact ⟨fun d ts s r h=>by simp [stmtP] at h,fun d acc ts l r h=>by simp [restP] at h⟩
 | succ n ih =>
   obtain ⟨i1,i2⟩:=ih
   refine ⟨fun d ts s r h=>?_,fun d acc ts l r h=>?_⟩
   · cases ts with
     | nil=>simp [stmtP] at h
     | cons t q =>
       simp only [stmtP] at h
       rw [List.length_cons]
       split at h
       · have:=change_short h;omega
       split at h
       · obtain ⟨u1, b1, h1, h2⟩ := PR.then_eq_ok h
         obtain ⟨u2,b2,h3,h4⟩:=PR.then_eq_ok h2
         obtain ⟨u3,b3,h5,h6⟩:=PR.then_eq_ok h4
         have:=paren_short h1
         have:=open_short h3
         have:=i2 _ _ _ _ _ h5
         split at h6
         · rename_i hi
           have:=isT_tail hi
           obtain ⟨u4,b4,h7,h8⟩:=PR.then_eq_ok h6
           obtain ⟨u5,b5,h9,h10⟩:=PR.then_eq_ok h8
           have:=open_short h7
           have:=i2 _ _ _ _ _ h9
           cases h10
           omega
         · cases h6;omega
       split at h
       · obtain ⟨u1, b1, h1, h2⟩ := PR.then_eq_ok h
         obtain ⟨u2,b2,h3,h4⟩:=PR.then_eq_ok h2
         obtain ⟨u3,b3,h5,h6⟩:=PR.then_eq_ok h4
         have:=paren_short h1
         have:=open_short h3
         have:=i2 _ _ _ _ _ h5
         cases h6;omega
       split at h
       · obtain ⟨u1, b1, h1, h2⟩ := PR.then_eq_ok h
         obtain ⟨u2,b2,h3,h4⟩:=PR.then_eq_ok h2
         obtain ⟨u3,b3,h5,h6⟩:=PR.then_eq_ok h4
         have:=name_ok h1
         have:=open_short h3
         have:=i2 _ _ _ _ _ h5
         cases h6;omega
       split at h
       · obtain ⟨u1, b1, h1, h2⟩ := PR.then_eq_ok h
         obtain ⟨u2,b2,h3,h4⟩:=PR.then_eq_ok h2
         have:=binE_short h1
         have:=(need_ok h3).2.2
         cases h4;omega
       split at h
       · obtain ⟨u1, b1, h1, h2⟩ := PR.then_eq_ok h
         have:=(need_ok h1).2.2
         cases h2;omega
       · cases h
   · simp only [restP] at h
     split at h
     · rename_i hi
       cases h
       have:=isT_tail hi
       omega
     · obtain ⟨a, b, h1, h2⟩ := PR.then_eq_ok h
       have:=i1 _ _ _ _ h1
       have:=i2 _ _ _ _ _ h2
       omega
theorem stmtP_short {n:Nat} {d:Int} {ts:List Tk} {s:St} {r:List Tk} (h:stmtP fnd L n d ts=.ok s r):r.length<ts.length:=(stmt_short n).1 _ _ _ _ h
theorem restP_short {n:Nat} {d:Int} {acc:List St} {ts:List Tk} {l:List St} {r:List Tk} (h:restP fnd L n d acc ts=.ok l r):r.length<ts.length:=(stmt_short n).2 _ _ _ _ _ h
theorem locals_short:∀ (n:Nat) (acc:List Dc) (ts:List Tk) (l:List Dc) (r:List Tk),localsP L n acc ts=.ok l r→r.length≤ts.length
 | 0,acc,ts,l,r,h=>by simp [localsP] at h
 | n + 1, acc, ts, l, r, h => by
   simp only [localsP] at h
   split at h
   · rename_i hi
     have:=isT_tail hi
     obtain ⟨a,b,h1,h2⟩:=PR.then_eq_ok h
     have:=list_short (L:=L) (fun _ _ _ h=>nameP_short h) n _ _ _ _ h1
     have:=locals_short n _ _ _ _ h2
     omega
   · cases h;exact Nat.le_refl _
theorem thread_short {n:Nat} {ts:List Tk} {t:Th} {r:List Tk} (h:threadP fnd L n ts=.ok t r):r.length<ts.length:=by
 unfold threadP at h
 obtain ⟨u1,b1,h1,h2⟩:=PR.then_eq_ok h
 obtain ⟨u2,b2,h3,h4⟩:=PR.then_eq_ok h2
 obtain ⟨u3,b3,h5,h6⟩:=PR.then_eq_ok h4
 obtain ⟨u4,b4,h7,h8⟩:=PR.then_eq_ok h6
 cases h8
 have:=name_ok h1
 have:=open_short h3
 have:=locals_short _ _ _ _ _ h5
 have:=restP_short h7
 omega
end
open Go.RowKit
set_option linter.unusedVariables false
mutual
def exIn (R:Nat→Prop) (w:World):Ex→Nat→Nat→Prop
 | .mk k o wd nm ks p, b, off =>
   w.cell? ⟨b,off,none⟩=some (.int .u8 k)∧w.cell? ⟨b,off+1,none⟩=some (.int .u8 o)∧w.cell? ⟨b,off+2,none⟩=some (.int .i64 wd)∧w.cell? ⟨b,off+3,none⟩=some (.string nm) ∧
   (∃ a cap,w.cell? ⟨b,off+4,none⟩=some (.slice a ks.length cap)∧(ks.isEmpty=true∨∃ g q,a=some ⟨g,q,none⟩∧R g∧exsIn R w ks g q))∧w.cell? ⟨b,off+5,none⟩=some (.int .i64 p)
def exsIn (R:Nat→Prop) (w:World):List Ex→Nat→Nat→Prop
 | [],_,_=>True
 | e::r,b,off=>exIn R w e b off∧exsIn R w r b (off+6)
end
def exsAt (R:Nat→Prop) (w:World) (l:List Ex) (a:Option Addr):Prop:=l.isEmpty=true∨∃ g q,a=some ⟨g,q,none⟩∧R g∧exsIn R w l g q
mutual
def stIn (R:Nat→Prop) (w:World):St→Nat→Nat→Prop
 | .mk k n o e b l p, g, off =>
   w.cell? ⟨g,off,none⟩=some (.int .u8 k)∧w.cell? ⟨g,off+1,none⟩=some (.string n)∧w.cell? ⟨g,off+2,none⟩=some (.string o) ∧
   (∃ a cap,w.cell? ⟨g,off+3,none⟩=some (.slice a e.length cap)∧exsAt R w e a) ∧
   (∃ a cap,w.cell? ⟨g,off+4,none⟩=some (.slice a b.length cap)∧(b.isEmpty=true∨∃ g q,a=some ⟨g,q,none⟩∧R g∧stsIn R w b g q)) ∧
   (∃ a cap,w.cell? ⟨g,off+5,none⟩=some (.slice a l.length cap)∧(l.isEmpty=true∨∃ g q,a=some ⟨g,q,none⟩∧R g∧stsIn R w l g q))∧w.cell? ⟨g,off+6,none⟩=some (.int .i64 p)
def stsIn (R:Nat→Prop) (w:World):List St→Nat→Nat→Prop
 | [],_,_=>True
 | s::r,b,off=>stIn R w s b off∧stsIn R w r b (off+7)
end
def stsAt (R:Nat→Prop) (w:World) (l:List St) (a:Option Addr):Prop:=l.isEmpty=true∨∃ g q,a=some ⟨g,q,none⟩∧R g∧stsIn R w l g q
def dcIn (w:World) (d:Dc) (b off:Nat):Prop:=w.cell? ⟨b,off,none⟩=some (.string d.name)∧w.cell? ⟨b,off+1,none⟩=some (.int .i64 d.wd)∧w.cell? ⟨b,off+2,none⟩=some (.int .i64 d.pos)
def dcsIn (w:World):List Dc→Nat→Nat→Prop
 | [],_,_=>True
 | d::r,b,off=>dcIn w d b off∧dcsIn w r b (off+3)
def dcsAt (R:Nat→Prop) (w:World) (l:List Dc) (a:Option Addr):Prop:=l.isEmpty=true∨∃ g q,a=some ⟨g,q,none⟩∧R g∧dcsIn w l g q
def thIn (R:Nat→Prop) (w:World) (t:Th) (b off:Nat):Prop :=
 w.cell? ⟨b,off,none⟩=some (.string t.name)∧(∃ a cap,w.cell? ⟨b,off+1,none⟩=some (.slice a t.locals.length cap)∧dcsAt R w t.locals a) ∧
 (∃ a cap,w.cell? ⟨b,off+2,none⟩=some (.slice a t.body.length cap)∧stsAt R w t.body a)∧w.cell? ⟨b,off+3,none⟩=some (.int .i64 t.pos)
def thsIn (R:Nat→Prop) (w:World):List Th→Nat→Nat→Prop
 | [],_,_=>True
 | t::r,b,off=>thIn R w t b off∧thsIn R w r b (off+4)
def thsAt (R:Nat→Prop) (w:World) (l:List Th) (a:Option Addr):Prop:=l.isEmpty=true∨∃ g q,a=some ⟨g,q,none⟩∧R g∧thsIn R w l g q
def Stays (R:Nat→Prop) (w w':World):Prop:=∀ b o v,R b→w.cell? ⟨b,o,none⟩=some v→w'.cell? ⟨b,o,none⟩=some v
theorem Stays.refl (R:Nat→Prop) (w:World):Stays R w w:=fun _ _ _ _ h=>h
theorem Stays.trans {R:Nat→Prop} {a b c:World} (h:Stays R a b) (k:Stays R b c):Stays R a c:=fun g o v hg hv=>k g o v hg (h g o v hg hv)
section
variable {R R':Nat→Prop} {w w':World}
theorem exsIn_stays (hw:Stays R w w') (hm:∀ b,R b→R' b):∀ (l:List Ex) (b off:Nat),R b→exsIn R w l b off→exsIn R' w' l b off:=by
 intro l
 induction l using Exs.ind with
 | h0=>intro b off _ _;exact trivial
 | h1 k o wd nm ks p r ih1 ih2 =>
   intro b off hb h
   obtain ⟨⟨c0,c1,c2,c3,⟨a,cap,c4,h4⟩,c5⟩,hr⟩:=h
   refine ⟨⟨hw _ _ _ hb c0,hw _ _ _ hb c1,hw _ _ _ hb c2,hw _ _ _ hb c3,⟨a,cap,hw _ _ _ hb c4,?_⟩,hw _ _ _ hb c5⟩,ih2 b _ hb hr⟩
   rcases h4 with h4 | ⟨g,q,rfl,hg,hi⟩
   · exact .inl h4
   · exact .inr ⟨g,q,rfl,hm g hg,ih1 g q hg hi⟩
theorem exsAt_stays (hw:Stays R w w') (hm:∀ b,R b→R' b) {l:List Ex} {a:Option Addr} (h:exsAt R w l a):exsAt R' w' l a:=by
 rcases h with h | ⟨g,q,rfl,hg,hi⟩
 · exact .inl h
 · exact .inr ⟨g,q,rfl,hm g hg,exsIn_stays hw hm l g q hg hi⟩
theorem stsIn_stays (hw:Stays R w w') (hm:∀ b,R b→R' b):∀ (l:List St) (b off:Nat),R b→stsIn R w l b off→stsIn R' w' l b off:=by
 intro l
 induction l using Sts.ind with
 | h0=>intro b off _ _;exact trivial
 | h1 k n o e bd el p r ih1 ih2 ih3 =>
   intro b off hb h
   obtain ⟨⟨c0,c1,c2,⟨a3,cap3,c3,h3⟩,⟨a4,cap4,c4,h4⟩,⟨a5,cap5,c5,h5⟩,c6⟩,hr⟩:=h
   refine ⟨⟨hw _ _ _ hb c0,hw _ _ _ hb c1,hw _ _ _ hb c2,⟨a3,cap3,hw _ _ _ hb c3,exsAt_stays hw hm h3⟩,⟨a4,cap4,hw _ _ _ hb c4,?_⟩,⟨a5,cap5,hw _ _ _ hb c5,?_⟩,hw _ _ _ hb c6⟩,ih3 b _ hb hr⟩
   · rcases h4 with h4 | ⟨g, q, rfl, hg, hi⟩
     · exact .inl h4
     · exact .inr ⟨g,q,rfl,hm g hg,ih1 g q hg hi⟩
   · rcases h5 with h5 | ⟨g, q, rfl, hg, hi⟩
     · exact .inl h5
     · exact .inr ⟨g,q,rfl,hm g hg,ih2 g q hg hi⟩
theorem stsAt_stays (hw:Stays R w w') (hm:∀ b,R b→R' b) {l:List St} {a:Option Addr} (h:stsAt R w l a):stsAt R' w' l a:=by
 rcases h with h | ⟨g,q,rfl,hg,hi⟩
 · exact .inl h
 · exact .inr ⟨g,q,rfl,hm g hg,stsIn_stays hw hm l g q hg hi⟩
theorem dcsIn_stays (hw:Stays R w w'):∀ (l:List Dc) (b off:Nat),R b→dcsIn w l b off→dcsIn w' l b off
 | [],_,_,_,_=>trivial
 | d::r,b,off,hb,⟨⟨c0,c1,c2⟩,hr⟩=>⟨⟨hw _ _ _ hb c0,hw _ _ _ hb c1,hw _ _ _ hb c2⟩,dcsIn_stays hw r b _ hb hr⟩
theorem dcsAt_stays (hw:Stays R w w') (hm:∀ b,R b→R' b) {l:List Dc} {a:Option Addr} (h:dcsAt R w l a):dcsAt R' w' l a:=by
 rcases h with h | ⟨g,q,rfl,hg,hi⟩
 · exact .inl h
 · exact .inr ⟨g,q,rfl,hm g hg,dcsIn_stays hw l g q hg hi⟩
theorem thsIn_stays (hw:Stays R w w') (hm:∀ b,R b→R' b):∀ (l:List Th) (b off:Nat),R b→thsIn R w l b off→thsIn R' w' l b off
 | [],_,_,_,_=>trivial
 | t :: r, b, off, hb, ⟨⟨c0, ⟨a1, cap1, c1, h1⟩, ⟨a2, cap2, c2, h2⟩, c3⟩, hr⟩ =>
   ⟨⟨hw _ _ _ hb c0,⟨a1,cap1,hw _ _ _ hb c1,dcsAt_stays hw hm h1⟩,⟨a2,cap2,hw _ _ _ hb c2,stsAt_stays hw hm h2⟩,hw _ _ _ hb c3⟩,thsIn_stays hw hm r b _ hb hr⟩
theorem thsAt_stays (hw:Stays R w w') (hm:∀ b,R b→R' b) {l:List Th} {a:Option Addr} (h:thsAt R w l a):thsAt R' w' l a:=by
 rcases h with h | ⟨g,q,rfl,hg,hi⟩
 · exact .inl h
 · exact .inr ⟨g,q,rfl,hm g hg,thsIn_stays hw hm l g q hg hi⟩
end
theorem cell_lt {w:World} {a:Addr} {v:Value} (h:w.cell? a=some v):a.block<w.heap.size:=by
 apply Nat.lt_of_not_le
 intro hn
 simp [World.cell?,Array.getElem?_eq_none hn] at h
theorem exsAt_in {R:Nat→Prop} {w:World} {l:List Ex} {a:Option Addr} (h:exsAt R w l a):exsAt (fun b=>R b∧b<w.heap.size) w l a:=by
 have key:∀ (l:List Ex) (b off:Nat),exsIn R w l b off→exsIn (fun b=>R b∧b<w.heap.size) w l b off:=by
  intro l
  induction l using Exs.ind with
  | h0=>intro b off _;exact trivial
  | h1 k o wd nm ks p r ih1 ih2 =>
    intro b off h
    obtain ⟨⟨c0,c1,c2,c3,⟨a,cap,c4,h4⟩,c5⟩,hr⟩:=h
    refine ⟨⟨c0,c1,c2,c3,⟨a,cap,c4,?_⟩,c5⟩,ih2 b _ hr⟩
    rcases h4 with h4 | ⟨g,q,rfl,hg,hi⟩
    · exact .inl h4
    · cases ks with
      | nil=>exact .inl rfl
      | cons x xs =>
        refine .inr ⟨g,q,rfl,⟨hg,?_⟩,ih1 g q hi⟩
        obtain ⟨k',o',wd',nm',ks',p'⟩:=x
        exact cell_lt hi.1.1
 rcases h with h | ⟨g,q,rfl,hg,hi⟩
 · exact .inl h
 · cases l with
   | nil=>exact .inl rfl
   | cons x xs =>
     refine .inr ⟨g,q,rfl,⟨hg,?_⟩,key _ g q hi⟩
     obtain ⟨k',o',wd',nm',ks',p'⟩:=x
     exact cell_lt hi.1.1
theorem exsAt_mono {R R':Nat→Prop} {w:World} {l:List Ex} {a:Option Addr} (h:exsAt R w l a) (hm:∀ b,R b→R' b):exsAt R' w l a:=exsAt_stays (Stays.refl R w) hm h
theorem exsIn_get {R:Nat→Prop} {w:World} : ∀ {l:List Ex} {b off:Nat} (i:Nat) (x:Ex),exsIn R w l b off→l[i]? = some x→exIn R w x b (off+i*6)
 | e::r,b,off,0,x,h,hx=>by cases hx;exact h.1
 | e :: r, b, off, i + 1, x, h, hx => by
   have:=exsIn_get i x h.2 hx
   rw [show off+(i+1)*6=off+6+i*6 by omega];exact this
theorem stsIn_get {R:Nat→Prop} {w:World} : ∀ {l:List St} {b off:Nat} (i:Nat) (x:St),stsIn R w l b off→l[i]? = some x→stIn R w x b (off+i*7)
 | e::r,b,off,0,x,h,hx=>by cases hx;exact h.1
 | e :: r, b, off, i + 1, x, h, hx => by
   have:=stsIn_get i x h.2 hx
   rw [show off+(i+1)*7=off+7+i*7 by omega];exact this
theorem dcsIn_get {w:World} : ∀ {l:List Dc} {b off:Nat} (i:Nat) (x:Dc),dcsIn w l b off→l[i]? = some x→dcIn w x b (off+i*3)
 | e::r,b,off,0,x,h,hx=>by cases hx;exact h.1
 | e :: r, b, off, i + 1, x, h, hx => by
   have:=dcsIn_get i x h.2 hx
   rw [show off+(i+1)*3=off+3+i*3 by omega];exact this
theorem thsIn_get {R:Nat→Prop} {w:World} : ∀ {l:List Th} {b off:Nat} (i:Nat) (x:Th),thsIn R w l b off→l[i]? = some x→thIn R w x b (off+i*4)
 | e::r,b,off,0,x,h,hx=>by cases hx;exact h.1
 | e :: r, b, off, i + 1, x, h, hx => by
   have:=thsIn_get i x h.2 hx
   rw [show off+(i+1)*4=off+4+i*4 by omega];exact this
def exCells (e:Ex) (a:Option Addr) (cap:Nat):List Value:=[.int .u8 e.kind,.int .u8 e.op,.int .i64 e.wd,.string e.name,.slice a e.kids.length cap,.int .i64 e.pos]
def stCells (s:St) (a3:Option Addr) (c3:Nat) (a4:Option Addr) (c4:Nat) (a5:Option Addr) (c5:Nat):List Value:=[.int .u8 s.kind,.string s.name,.string s.other,.slice a3 s.e.length c3,.slice a4 s.body.length c4,.slice a5 s.els.length c5,.int .i64 s.pos]
def dcCells (d:Dc):List Value:=[.string d.name,.int .i64 d.wd,.int .i64 d.pos]
def thCells (t:Th) (a1:Option Addr) (c1:Nat) (a2:Option Addr) (c2:Nat):List Value:=[.string t.name,.slice a1 t.locals.length c1,.slice a2 t.body.length c2,.int .i64 t.pos]
def exV (R:Nat→Prop) (w:World) (e:Ex) (vs:List Value):Prop:=∃ a cap,vs=exCells e a cap∧exsAt R w e.kids a
def stV (R:Nat→Prop) (w:World) (s:St) (vs:List Value):Prop:=∃ a3 c3 a4 c4 a5 c5,vs=stCells s a3 c3 a4 c4 a5 c5∧exsAt R w s.e a3∧stsAt R w s.body a4∧stsAt R w s.els a5
def thV (R:Nat→Prop) (w:World) (t:Th) (vs:List Value):Prop:=∃ a1 c1 a2 c2,vs=thCells t a1 c1 a2 c2∧dcsAt R w t.locals a1∧stsAt R w t.body a2
theorem stV_stays {R R':Nat→Prop} {w w':World} (hw:Stays R w w') (hm:∀ b,R b→R' b) {e:St} {vs:List Value} (h:stV R w e vs):stV R' w' e vs:=by
 obtain ⟨a3,c3,a4,c4,a5,c5,rfl,h3,h4,h5⟩:=h
 exact ⟨a3,c3,a4,c4,a5,c5,rfl,exsAt_stays hw hm h3,stsAt_stays hw hm h4,stsAt_stays hw hm h5⟩
theorem thV_stays {R R':Nat→Prop} {w w':World} (hw:Stays R w w') (hm:∀ b,R b→R' b) {e:Th} {vs:List Value} (h:thV R w e vs):thV R' w' e vs:=by
 obtain ⟨a3,c3,a4,c4,rfl,h3,h4⟩:=h
 exact ⟨a3,c3,a4,c4,rfl,dcsAt_stays hw hm h3,stsAt_stays hw hm h4⟩
def cellsIn (w:World) (b off:Nat) (vs:List Value):Prop:=∀ j v,vs[j]? = some v→w.cell? ⟨b,off+j,none⟩=some v
theorem exIn_of {R:Nat→Prop} {w:World} {e:Ex} {vs:List Value} {b off:Nat} (h:exV R w e vs) (hc:cellsIn w b off vs):exIn R w e b off:=by
 obtain ⟨a,c,rfl,h⟩:=h
 obtain ⟨k,o,wd,nm,ks,p⟩:=e
 exact ⟨hc 0 _ rfl,hc 1 _ rfl,hc 2 _ rfl,hc 3 _ rfl,⟨a,c,hc 4 _ rfl,h⟩,hc 5 _ rfl⟩
theorem stIn_of {R:Nat→Prop} {w:World} {e:St} {vs:List Value} {b off:Nat} (h:stV R w e vs) (hc:cellsIn w b off vs):stIn R w e b off:=by
 obtain ⟨a3,c3,a4,c4,a5,c5,rfl,h3,h4,h5⟩:=h
 obtain ⟨k,n,o,e,bd,el,p⟩:=e
 exact ⟨hc 0 _ rfl,hc 1 _ rfl,hc 2 _ rfl,⟨a3,c3,hc 3 _ rfl,h3⟩,⟨a4,c4,hc 4 _ rfl,h4⟩,⟨a5,c5,hc 5 _ rfl,h5⟩,hc 6 _ rfl⟩
theorem thIn_of {R:Nat→Prop} {w:World} {e:Th} {vs:List Value} {b off:Nat} (h:thV R w e vs) (hc:cellsIn w b off vs):thIn R w e b off:=by
 obtain ⟨a3,c3,a4,c4,rfl,h3,h4⟩:=h
 exact ⟨hc 0 _ rfl,⟨a3,c3,hc 1 _ rfl,h3⟩,⟨a4,c4,hc 2 _ rfl,h4⟩,hc 3 _ rfl⟩
theorem dcIn_of {w:World} {d:Dc} {b off:Nat} (hc:cellsIn w b off (dcCells d)):dcIn w d b off:=⟨hc 0 _ rfl,hc 1 _ rfl,hc 2 _ rfl⟩
theorem cellsIn_app {w:World} {b off:Nat} {xs ys:List Value} (h:cellsIn w b off (xs++ys)):cellsIn w b off xs∧cellsIn w b (off+xs.length) ys:=by
 refine ⟨fun j v hj=>h j v ?_,fun j v hj=>?_⟩
 · rw [List.getElem?_append_left (List.getElem?_eq_some_iff.1 hj).1];exact hj
 · have := h (xs.length + j) v (by rw [List.getElem?_append_right (by omega)]; simpa using hj)
   rw [← Nat.add_assoc] at this;exact this
def stsV (R:Nat→Prop) (w:World):List St→List Value→Prop
 | [],xs=>xs=[]
 | e::r,xs=>∃ vs ys,xs=vs++ys∧stV R w e vs∧stsV R w r ys
def thsV (R:Nat→Prop) (w:World):List Th→List Value→Prop
 | [],xs=>xs=[]
 | e::r,xs=>∃ vs ys,xs=vs++ys∧thV R w e vs∧thsV R w r ys
def dcsL (l:List Dc):List Value:=l.flatMap dcCells
section
variable {R R':Nat→Prop} {w w':World}
theorem stsV_snoc:∀ {l:List St} {xs vs:List Value} {e:St},stsV R w l xs→stV R w e vs→stsV R w (l++[e]) (xs++vs)
 | [],xs,vs,e,h,he=>by cases h;exact ⟨vs,[],by simp,he,rfl⟩
 | x::r,xs,vs,e,⟨us,ys,h1,h2,h3⟩,he=>⟨us,ys++vs,by rw [h1,List.append_assoc],h2,stsV_snoc h3 he⟩
theorem thsV_snoc:∀ {l:List Th} {xs vs:List Value} {e:Th},thsV R w l xs→thV R w e vs→thsV R w (l++[e]) (xs++vs)
 | [],xs,vs,e,h,he=>by cases h;exact ⟨vs,[],by simp,he,rfl⟩
 | x::r,xs,vs,e,⟨us,ys,h1,h2,h3⟩,he=>⟨us,ys++vs,by rw [h1,List.append_assoc],h2,thsV_snoc h3 he⟩
theorem stsV_stays (hw:Stays R w w') (hm:∀ b,R b→R' b):∀ {l:List St} {xs:List Value},stsV R w l xs→stsV R' w' l xs
 | [],xs,h=>h
 | x::r,xs,⟨us,ys,h1,h2,h3⟩=>⟨us,ys,h1,stV_stays hw hm h2,stsV_stays hw hm h3⟩
theorem thsV_stays (hw:Stays R w w') (hm:∀ b,R b→R' b):∀ {l:List Th} {xs:List Value},thsV R w l xs→thsV R' w' l xs
 | [],xs,h=>h
 | x::r,xs,⟨us,ys,h1,h2,h3⟩=>⟨us,ys,h1,thV_stays hw hm h2,thsV_stays hw hm h3⟩
theorem stV_len {e:St} {vs:List Value} (h:stV R w e vs):vs.length=7:=by obtain ⟨a3,c3,a4,c4,a5,c5,rfl,_⟩:=h;rfl
theorem thV_len {e:Th} {vs:List Value} (h:thV R w e vs):vs.length=4:=by obtain ⟨a3,c3,a4,c4,rfl,_⟩:=h;rfl
theorem stsIn_of:∀ {l:List St} {xs:List Value} {b off:Nat},stsV R w l xs→cellsIn w b off xs→stsIn R w l b off
 | [],xs,b,off,_,_=>trivial
 | x :: r, xs, b, off, ⟨us, ys, h1, h2, h3⟩, hc => by
   subst h1
   obtain ⟨k1,k2⟩:=cellsIn_app hc
   rw [stV_len h2] at k2
   exact ⟨stIn_of h2 k1,stsIn_of h3 k2⟩
theorem thsIn_of:∀ {l:List Th} {xs:List Value} {b off:Nat},thsV R w l xs→cellsIn w b off xs→thsIn R w l b off
 | [],xs,b,off,_,_=>trivial
 | x :: r, xs, b, off, ⟨us, ys, h1, h2, h3⟩, hc => by
   subst h1
   obtain ⟨k1,k2⟩:=cellsIn_app hc
   rw [thV_len h2] at k2
   exact ⟨thIn_of h2 k1,thsIn_of h3 k2⟩
theorem dcsIn_of:∀ {l:List Dc} {b off:Nat},cellsIn w b off (dcsL l)→dcsIn w l b off
 | [],b,off,_=>trivial
 | d :: r, b, off, hc => by
   obtain ⟨k1,k2⟩:=cellsIn_app (xs:=dcCells d) (ys:=dcsL r) (by simpa [dcsL] using hc)
   exact ⟨dcIn_of k1,dcsIn_of k2⟩
end
theorem dcsL_snoc (l:List Dc) (d:Dc):dcsL (l++[d])=dcsL l++dcCells d:=by simp [dcsL]
theorem dcsL_len:∀ l:List Dc,(dcsL l).length=l.length*3
 | []=>rfl
 | d :: r => by
   have:=dcsL_len r
   simp only [dcsL,List.flatMap_cons,List.length_append,List.length_cons] at this ⊢
   rw [this];simp [dcCells];omega
open Go.RowKit
set_option linter.unusedVariables false
def Res.tk (x:Res):Tk:=⟨x.kind,x.text,x.wd,x.place⟩
structure Par where
 X:Nat
 ta:Option Addr
 cap:Nat
 toks:List Res
 L:Nat
 D:Nat
 S:Nat
 O:Nat
 bm:Nat
 bn:Nat
def Par.ptr (c:Par):Value:=.pointer (some ⟨c.X,0,none⟩)
def Par.at (c:Par) (k:Nat):List Tk:=(c.toks.drop k).map Res.tk
def Par.declE (c:Par):List MapEntry:=[⟨.string ⟨#[115,104,97,114,101,100]⟩,.func (.func 88) #[c.ptr] #[],0⟩,⟨.string ⟨#[108,111,99,107]⟩,.func (.func 89) #[c.ptr] #[],1⟩]
def Par.stmtE (c:Par):List MapEntry:=[⟨.string ⟨#[105,102]⟩,.func (.func 90) #[c.ptr] #[],0⟩,⟨.string ⟨#[119,104,105,108,101]⟩,.func (.func 91) #[c.ptr] #[],1⟩,⟨.string ⟨#[108,111,99,107]⟩,.func (.func 92) #[c.ptr] #[],2⟩,⟨.string ⟨#[112,114,105,110,116]⟩,.func (.func 93) #[c.ptr] #[],3⟩,⟨.string ⟨#[115,107,105,112]⟩,.func (.func 94) #[c.ptr] #[],4⟩]
def Par.operE (c:Par):List MapEntry:=[⟨.string ⟨#[45]⟩,.func (.func 128) #[] #[.pointer (some ⟨c.bm,0,none⟩),.pointer (some ⟨c.bm+1,0,none⟩)],0⟩,⟨.string ⟨#[33]⟩,.func (.func 128) #[] #[.pointer (some ⟨c.bn,0,none⟩),.pointer (some ⟨c.bn+1,0,none⟩)],1⟩,⟨.string ⟨#[40]⟩,.func (.func 96) #[c.ptr] #[],2⟩]
structure RdS (c:Par) (w:World):Prop where
 tok:TokRow w (.slice c.ta c.toks.length c.cap) c.toks
 tne:∀ g off,c.ta=some ⟨g,off,none⟩→g≠c.X
 dm:w.heap[c.D]? = some (.map c.declE.toArray 2)
 sm:w.heap[c.S]? = some (.map c.stmtE.toArray 5)
 om:w.heap[c.O]? = some (.map c.operE.toArray 3)
 b1:w.heap[c.bm]? = some (.cells #[c.ptr] 68 (0,0))
 b2:w.heap[c.bm+1]? = some (.cells #[.int .u8 17] 27 (0,0))
 b3:w.heap[c.bn]? = some (.cells #[c.ptr] 68 (0,0))
 b4:w.heap[c.bn+1]? = some (.cells #[.int .u8 18] 27 (0,0))
 ne:c.D≠c.X∧c.S≠c.X∧c.O≠c.X∧c.bm≠c.X∧c.bm+1≠c.X∧c.bn≠c.X∧c.bn+1≠c.X
 tabs:Tabs w
 gne:2≠c.X∧3≠c.X
 small:c.toks.length≤65536∧c.L≤65536∧∀ x∈c.toks,0≤x.wd∧x.wd≤9223372036854775807
structure Rd (c:Par) (w:World) (k:Nat):Prop where
 s:RdS c w
 pos:w.heap[c.X]? = some (.cells #[.slice c.ta c.toks.length c.cap,.int .i64 (c.L:Int),.int .i64 (k:Int),.map (some c.D),.map (some c.S),.map (some c.O)] 108 (0,0))
 le:k≤c.toks.length
@[reducible] def Fr (c:Par) (w w':World):Prop:=Keep (fun k _=>k<w.heap.size∧k≠c.X) w w'
theorem Fr.refl (c:Par) (w:World):Fr c w w:=Keep.refl _ w
theorem Fr.trans {c:Par} {u v w:World} (h:Fr c u v) (k:Fr c v w):Fr c u w :=
 Keep.trans h (Keep.mono k fun b o hb=>⟨by have:=h.size;omega,hb.2⟩)
theorem Fr.of_below {c:Par} {w w':World} (h:Below w.heap.size w w'):Fr c w w':=Keep.of_below h
theorem Fr.alloc {c:Par} {w w':World} (h:Fr c w w') (o:Obj):Fr c w (w'.alloc o):=Keep.alloc h o
theorem Fr.cell {c:Par} {w w':World} (h:Fr c w w') {b o:Nat} (hb:b<w.heap.size) (hx:b≠c.X):w'.cell? ⟨b,o,none⟩=w.cell? ⟨b,o,none⟩:=by
 have hb2:w'.heap[b]? = w.heap[b]?:=by
  rw [h.block b _ (Array.getElem?_eq_getElem hb) ⟨hb,hx⟩,Array.getElem?_eq_getElem hb]
 simp only [World.cell?,hb2]
theorem Fr.block {c:Par} {w w':World} (h:Fr c w w') {b:Nat} {o:Obj} (hb:w.heap[b]? = some o) (hx:b≠c.X):w'.heap[b]? = some o :=
 Keep.block h b o hb ⟨(Array.getElem?_eq_some_iff.1 hb).1,hx⟩
theorem Fr.setX {c:Par} {w w':World} (h:Fr c w w') (v:Value) (j:Nat) {o:Obj} (ho:w'.heap[c.X]? = some o):Fr c w (w'.setCell ⟨c.X,j,none⟩ v) :=
 Keep.setCell h (p:=⟨c.X,j,none⟩) v ho (fun hs=>hs.2 rfl)
theorem RdS.keep {c:Par} {w w':World} (h:RdS c w) (k:Fr c w w'):RdS c w':=by
 obtain ⟨tok,tne,dm,sm,om,b1,b2,b3,b4,⟨n1,n2,n3,n4,n5,n6,n7⟩,T,⟨g1,g2⟩,small⟩:=h
 refine ⟨?_,tne,k.block dm n1,k.block sm n2,k.block om n3,k.block b1 n4,k.block b2 n5,k.block b3 n6,k.block b4 n7,⟨n1,n2,n3,n4,n5,n6,n7⟩,?_,⟨g1,g2⟩,small⟩
 · obtain ⟨oa, cap, hu, hc⟩ := tok
   refine ⟨oa,cap,hu,fun i x hx=>?_⟩
   obtain ⟨g,off,ho,a0,a1,a2,a3⟩:=hc i x hx
   have hg:g<w.heap.size:=lt_of_at a0
   obtain ⟨rfl,_,_⟩:c.ta=oa∧c.toks.length=c.toks.length∧c.cap=cap:=by cases hu;exact ⟨rfl,rfl,rfl⟩
   have hx:=tne g off ho
   exact ⟨g,off,ho,(k.cell hg hx).trans a0,(k.cell hg hx).trans a1,(k.cell hg hx).trans a2,(k.cell hg hx).trans a3⟩
 · have s1 := T.size1
   have s2:=T.size2
   have:=Keep.size k
   exact ⟨by omega,by omega,fun i hi=>(k.cell s1 g1).trans (T.lev i hi),fun i hi=>(k.cell s2 g2).trans (T.sgn i hi)⟩
theorem Rd.lt {c:Par} {w:World} {k:Nat} (h:Rd c w k):c.X<w.heap.size:=(Array.getElem?_eq_some_iff.1 h.pos).1
theorem Rd.below {c:Par} {w w':World} {k:Nat} (h:Rd c w k) (hb:Below w.heap.size w w'):Rd c w' k :=
 ⟨h.s.keep (.of_below hb),by rw [hb.block _ h.lt];exact h.pos,h.le⟩
theorem Rd.alloc {c:Par} {w:World} {k:Nat} (h:Rd c w k) (o:Obj):Rd c (w.alloc o) k:=h.below ((Below.refl _ w).alloc (Nat.le_refl _) o)
theorem Rd.step {c:Par} {w:World} {k:Nat} (h:Rd c w k) (hk:k<c.toks.length):Rd c (w.setCell ⟨c.X,2,none⟩ (.int .i64 ((k:Int)+1))) (k+1):=by
 refine ⟨h.s.keep ((Fr.refl c w).setX _ 2 h.pos),?_,hk⟩
 have:=heap_setCell_same w c.X 2 _ _ (.int .i64 ((k:Int)+1)) h.pos
 rw [this]
 rfl
theorem Rd.cells {c:Par} {w:World} {k:Nat} (h:Rd c w k) :
 (w.cell? ⟨c.X,0,none⟩=some (.slice c.ta c.toks.length c.cap)∧w.cell? ⟨c.X,1,none⟩=some (.int .i64 (c.L:Int))∧w.cell? ⟨c.X,2,none⟩=some (.int .i64 (k:Int)) ∧
  w.cell? ⟨c.X,3,none⟩=some (.map (some c.D))∧w.cell? ⟨c.X,4,none⟩=some (.map (some c.S))∧w.cell? ⟨c.X,5,none⟩=some (.map (some c.O)))∧(∀ o,w.frozen? ⟨c.X,o,none⟩=false):=by
 refine ⟨⟨?_,?_,?_,?_,?_,?_⟩,fun o=>?_⟩
 · rw [cell_of_row w c.X 0 _ _ _ h.pos];rfl
 · rw [cell_of_row w c.X 1 _ _ _ h.pos];rfl
 · rw [cell_of_row w c.X 2 _ _ _ h.pos];rfl
 · rw [cell_of_row w c.X 3 _ _ _ h.pos];rfl
 · rw [cell_of_row w c.X 4 _ _ _ h.pos];rfl
 · rw [cell_of_row w c.X 5 _ _ _ h.pos];rfl
 · simp [World.frozen?,h.pos]
def Par.nx (c:Par) (k:Nat):Tk:=match c.at k with | []=>⟨0,⟨#[]⟩,0,c.L⟩ | t::_=>t
def tkV (t:Tk):Value:=.agg #[.int .u8 t.kind,.string t.text,.int .i64 t.wd,.int .i64 t.pos]
theorem Par.at_lt {c:Par} {k:Nat} (h:k<c.toks.length):c.at k=(c.toks[k]).tk::c.at (k+1):=by
 unfold Par.at
 rw [List.drop_eq_getElem_cons h];rfl
theorem Par.at_end {c:Par} {k:Nat} (h:c.toks.length≤k):c.at k=[]:=by
 unfold Par.at
 rw [List.drop_of_length_le h];rfl
theorem Par.at_tail {c:Par} {k:Nat} : (c.at k).tail=c.at (k+1):=by
 by_cases h:k<c.toks.length
 · rw [Par.at_lt h];rfl
 · rw [Par.at_end (by omega),Par.at_end (by omega)];rfl
theorem Par.at_len (c:Par) (k:Nat):(c.at k).length=c.toks.length-k:=by simp [Par.at]
theorem Par.nx_pos (c:Par) (k:Nat):(c.nx k).pos=hdP c.L (c.at k):=by
 unfold Par.nx
 cases c.at k <;> rfl
theorem Par.isT_nx (c:Par) (k:Nat) {s:Bs} (hs:s≠[]):isT s (c.at k)=((c.nx k).tx==s):=by
 unfold Par.nx
 cases c.at k with
 | nil => cases s with
   | nil=>exact absurd rfl hs
   | cons a b=>rfl
 | cons t r=>rfl
theorem Par.isT_lt {c:Par} {k:Nat} {s:Bs} (h:isT s (c.at k)=true):k<c.toks.length:=by
 apply Nat.lt_of_not_le
 intro hn
 rw [Par.at_end hn] at h;cases h
def flt (p r:Int):List PanicEntry:=[{ v:=.iface 36 (.agg #[.int .i64 p,.int .i64 r]),recovered:=false }]
def RdPost {α:Type} (c:Par) (w:World) (x:PR α) (V:α→Value→World→Prop) (e:Ending) (w':World):Prop :=
 Fr c w w'∧match x with
  | .ok a r=>∃ v k,e=.returned v∧V a v w'∧Rd c w' k∧r=c.at k
  | .bad p q=>e=.panicked (flt p q)
def lookE (s:Bs):List MapEntry→Value
 | []=>.nilFunc
 | e :: r => match e.key with
   | .string t=>if s=t.data.toList then e.val else lookE s r
   | _=>lookE s r
theorem findNow_str (s:ByteArray):∀ (es:List MapEntry) (i:Nat),(∀ e∈es,∃ t,e.key=.string t) →
 (∃ j v,Instr.findNow .string (.string s) es i=some (some (j,v))∧v=lookE s.data.toList es)∨(Instr.findNow .string (.string s) es i=some none∧lookE s.data.toList es=.nilFunc)
 | [],i,_=>.inr ⟨rfl,rfl⟩
 | e :: r, i, h => by
   obtain ⟨t,ht⟩:=h e (.head _)
   by_cases hs:s.data.toList=t.data.toList
   · left
     refine ⟨i,e.val,?_,?_⟩
     · have hst : s = t := ByteArray.ext (Array.ext' hs)
       subst hst
       have hb:(s==s)=true:=(MapKept.bytes_beq s s).2 rfl
       simp only [Instr.findNow,ht,Instr.sameNow,hb]
     · simp only [lookE,ht];rw [if_pos hs]
   · have hb : (s == t) = false := by
      cases hq:s==t with
      | false=>rfl
      | true=>exact absurd (by rw [(MapKept.bytes_beq s t).1 hq]) hs
     have hstep:Instr.findNow .string (.string s) (e::r) i=Instr.findNow .string (.string s) r (i+1):=by
      simp only [Instr.findNow,ht,Instr.sameNow,hb]
     have hl:lookE s.data.toList (e::r)=lookE s.data.toList r:=by simp only [lookE,ht];rw [if_neg hs]
     rw [hstep,hl]
     exact findNow_str s r (i+1) (fun x hx=>h x (.tail _ hx))
theorem run_look {P:Program} {w:World} {t k e:TypeId} {b:Nat} {es:List MapEntry} {clock:Nat} (ht:P.underlying t=some (.map k e)) (hk:P.underlying k=some .string) (hz:(zeroValue e).run P w=.ok .nilFunc w)
 (hb:w.heap[b]? = some (.map es.toArray clock)) (he:∀ e∈es,∃ t,e.key=.string t) (s:ByteArray):(Instr.lookup t (.map (some b)) (.string s) false).run P w=.ok (lookE s.data.toList es) w:=by
 have hck:∀ em,(Instr.checkKey em 10000 k (.string s)).run P w=.ok () w:=fun em=>MapKept.run_checkKey (d:=.string) hk (by simp [MapKept.IsKey]) em 9999
 rcases findNow_str s es 0 he with ⟨j,v,h1,h2⟩ | ⟨h1,h2⟩
 · have hf := MapKept.run_findKey (w := w) hk h1
   unfold Instr.lookup
   simp [run_underlying ht,Result.andThen,MapKept.run_getObj_map hb,hck,hf,h2]
 · have hf := MapKept.run_findKey (w := w) hk h1
   unfold Instr.lookup
   simp [run_underlying ht,Result.andThen,MapKept.run_getObj_map hb,hck,hf,h2,hz]
end Go.Proofs.YtggbkldniffbfaaGreatDoor

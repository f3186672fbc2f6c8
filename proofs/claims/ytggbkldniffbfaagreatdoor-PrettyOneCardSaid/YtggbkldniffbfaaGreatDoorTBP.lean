/- The proof, part 42: texts that belong together, in one. -/
import Derived.Test.YtggbkldniffbfaaGreatDoorTBO
set_option maxRecDepth 100000
set_option maxHeartbeats 20000000
namespace Go.Proofs.YtggbkldniffbfaaGreatDoor
set_option linter.unusedVariables false
section
variable {L:Int}
theorem name_right {ts:List Tk} {d:Dc} {r:List Tk} (h:nameP L ts=.ok d r) (ht:TksOk ts):(nameB d.name=true∧d.wd=0)∧TksOk r:=by
 cases ts with
 | nil=>cases h
 | cons t q =>
   simp only [nameP] at h
   split at h
   · rename_i hk
     cases h
     exact ⟨⟨(ht t (.head _)).name hk,rfl⟩,fun x hx=>ht x (.tail _ hx)⟩
   · cases h
theorem numP_right {ts:List Tk} {v:Int} {r:List Tk} (h:numP L ts=.ok v r) (ht:TksOk ts):0≤v∧v≤9223372036854775807∧TksOk r:=by
 cases ts with
 | nil=>cases h
 | cons t q =>
   simp only [numP] at h
   split at h
   · cases h
     exact ⟨(ht t (.head _)).lo,(ht t (.head _)).hi,fun x hx=>ht x (.tail _ hx)⟩
   · cases h
def ShD (d:Dc):Prop:=nameB d.name=true ∧ -9223372036854775808<d.wd∧d.wd≤9223372036854775807
def BaD (d:Dc):Prop:=nameB d.name=true∧d.wd=0
theorem first_right {ts:List Tk} {d:Dc} {r:List Tk} (h:firstP L ts=.ok d r) (ht:TksOk ts):ShD d∧TksOk r:=by
 unfold firstP at h
 obtain ⟨a,b,h1,h2⟩:=PR.then_eq_ok h
 have k:=name_right h1 ht
 split at h2
 · split at h2
   · obtain ⟨c, e, h3, h4⟩ := PR.then_eq_ok h2
     have:=numP_right h3 (toks_tail (toks_tail k.2))
     cases h4
     exact ⟨⟨k.1.1,by show -9223372036854775808 < -c;omega,by show -c≤9223372036854775807;omega⟩,this.2.2⟩
   · obtain ⟨c, e, h3, h4⟩ := PR.then_eq_ok h2
     have:=numP_right h3 (toks_tail k.2)
     cases h4
     exact ⟨⟨k.1.1,by show -9223372036854775808<c;omega,by show c≤9223372036854775807;omega⟩,this.2.2⟩
 · cases h2;exact ⟨⟨k.1.1,by rw [k.1.2];omega,by rw [k.1.2];omega⟩,k.2⟩
theorem list_right {P:Dc→Prop} {one:List Tk→PR Dc} (ho:∀ ts d r,one ts=.ok d r→TksOk ts→P d∧TksOk r):∀ (n:Nat) (acc:List Dc) (ts:List Tk) (l:List Dc) (r:List Tk),listP L one n acc ts=.ok l r→TksOk ts→(∀ d∈acc,P d)→(∀ d∈l,P d)∧TksOk r
 | 0,acc,ts,l,r,h,_,_=>by simp [listP] at h
 | n + 1, acc, ts, l, r, h, ht, ha => by
   simp only [listP] at h
   obtain ⟨a,b,h1,h2⟩:=PR.then_eq_ok h
   have k:=ho _ _ _ h1 ht
   have hs:∀ d∈acc++[a],P d:=fun d hd=>by
    rcases List.mem_append.1 hd with hd | hd
    · exact ha d hd
    · rw [List.mem_singleton] at hd;rw [hd];exact k.1
   split at h2
   · exact list_right ho n _ _ _ _ h2 (toks_tail k.2) hs
   · obtain ⟨u, c, h3, h4⟩ := PR.then_eq_ok h2
     cases h4
     exact ⟨hs,need_right h3 k.2⟩
theorem paren_right {n:Nat} {ts:List Tk} {e:Ex} {r:List Tk} (h:parenP fnd L n ts=.ok e r) (ht:TksOk ts):rgE e∧rE e 0=true∧TksOk r:=by
 unfold parenP at h
 obtain ⟨u1,b1,h1,h2⟩:=PR.then_eq_ok h
 obtain ⟨u2,b2,h3,h4⟩:=PR.then_eq_ok h2
 obtain ⟨u3,b3,h5,h6⟩:=PR.then_eq_ok h4
 cases h6
 have:=binE_right h3 (need_right h1 ht)
 exact ⟨this.1,this.2.1,need_right h5 this.2.2⟩
theorem change_right {n:Nat} {t:Tk} {ts:List Tk} {s:St} {r:List Tk} (h:changeP fnd L n t ts=.ok s r) (hk:nameB t.text=true) (ht:TksOk ts) (d:Int):(rgS s∧rS s d=true)∧TksOk r:=by
 unfold changeP at h
 obtain ⟨u,b,h1,h2⟩:=PR.then_eq_ok h
 have k1:=need_right h1 ht
 split at h2
 · obtain ⟨u1, b1, h3, h4⟩ := PR.then_eq_ok h2
   obtain ⟨u2,b2,h5,h6⟩:=PR.then_eq_ok h4
   obtain ⟨u3,b3,h7,h8⟩:=PR.then_eq_ok h6
   obtain ⟨u4,b4,h9,h10⟩:=PR.then_eq_ok h8
   obtain ⟨u5,b5,h11,h12⟩:=PR.then_eq_ok h10
   obtain ⟨u6,b6,h13,h14⟩:=PR.then_eq_ok h12
   cases h14
   have k2:=name_right h5 (need_right h3 (toks_tail k1))
   have k3:=binE_right h9 (need_right h7 k2.2)
   have e1:=k2.1.1
   have e2:=k3.2.1
   exact ⟨⟨⟨by omega,⟨k3.1,trivial⟩,trivial,trivial⟩,by simp [rS,shp,nmB,allE,hk,e1,e2]⟩,need_right h13 (need_right h11 k3.2.2)⟩
 · obtain ⟨u4, b4, h9, h10⟩ := PR.then_eq_ok h2
   obtain ⟨u5,b5,h11,h12⟩:=PR.then_eq_ok h10
   cases h12
   have k3:=binE_right h9 k1
   have e2:=k3.2.1
   exact ⟨⟨⟨by omega,⟨k3.1,trivial⟩,trivial,trivial⟩,by simp [rS,shp,nmB,allE,hk,e2]⟩,need_right h11 k3.2.2⟩
theorem open_right {d:Int} {ts:List Tk} {u:Unit} {r:List Tk} (h:openP L d ts=.ok u r) (ht:TksOk ts):d≤64∧TksOk r:=by
 unfold openP at h
 obtain ⟨a,b,h1,h2⟩:=PR.then_eq_ok h
 split at h2
 · cases h2
 · cases h2
   exact ⟨by omega,need_right h1 ht⟩
theorem sts_snoc:∀ {l:List St} {s:St} {d:Int},(rgSs l∧rAll l d=true)→(rgS s∧rS s d=true)→rgSs (l++[s])∧rAll (l++[s]) d=true
 | [],s,d,h,hs=>⟨⟨hs.1,trivial⟩,by show (rS s d&&rAll [] d)=true;rw [hs.2];rfl⟩
 | x :: r, s, d, h, hs => by
   have h2:(rS x d&&rAll r d)=true:=h.2
   simp only [Bool.and_eq_true] at h2
   have:=sts_snoc (l:=r) ⟨h.1.2,h2.2⟩ hs
   exact ⟨⟨h.1.1,this.1⟩,by show (rS x d&&rAll (r++[s]) d)=true;rw [h2.1,this.2];rfl⟩
theorem st_right:∀ n:Nat,
 (∀ d ts s r,stmtP fnd L n d ts=.ok s r→d≤64→TksOk ts→(rgS s∧rS s d=true)∧TksOk r) ∧
 (∀ d acc ts l r,restP fnd L n d acc ts=.ok l r→d≤64→TksOk ts→(rgSs acc∧rAll acc d=true)→(rgSs l∧rAll l d=true)∧TksOk r):=by
 intro n
 induction n with
 | zero=>exact ⟨fun d ts s r h=>by simp [stmtP] at h,fun d acc ts l r h=>by simp [restP] at h⟩
 | succ n ih =>
   obtain ⟨i1,i2⟩:=ih
   have nil:∀ d:Int,rgSs ([]:List St)∧rAll [] d=true:=fun d=>⟨trivial,rfl⟩
   refine ⟨fun d ts s r h hd ht=>?_,fun d acc ts l r h hd ht ha=>?_⟩
   · cases ts with
     | nil=>simp [stmtP] at h
     | cons t q =>
       have t1:TkOk t:=ht t (.head _)
       have t2:TksOk q:=fun x hx=>ht x (.tail _ hx)
       simp only [stmtP] at h
       split at h
       · rename_i hk;exact change_right h (t1.name hk) t2 d
       split at h
       · obtain ⟨e, b1, h1, h2⟩ := PR.then_eq_ok h
         obtain ⟨u2,b2,h3,h4⟩:=PR.then_eq_ok h2
         obtain ⟨b,b3,h5,h6⟩:=PR.then_eq_ok h4
         have k1:=paren_right h1 t2
         have k2:=open_right h3 k1.2.2
         have k3:=i2 _ _ _ _ _ h5 k2.1 k2.2 (nil _)
         have e1:=k1.2.1
         have e2:=k3.1.2
         have e3:=decide_eq_true k2.1
         split at h6
         · obtain ⟨u4, b4, h7, h8⟩ := PR.then_eq_ok h6
           obtain ⟨l,b5,h9,h10⟩:=PR.then_eq_ok h8
           cases h10
           have k4:=open_right h7 (toks_tail k3.2)
           have k5:=i2 _ _ _ _ _ h9 k4.1 k4.2 (nil _)
           have e4:=k5.1.2
           exact ⟨⟨⟨by omega,⟨k1.1,trivial⟩,k3.1.1,k5.1.1⟩,by simp [rS,shp,nmB,allE,e1,e2,k2.1,e4]⟩,k5.2⟩
         · cases h6
           exact ⟨⟨⟨by omega,⟨k1.1,trivial⟩,k3.1.1,trivial⟩,by simp [rS,shp,nmB,allE,e1,e2,k2.1]⟩,k3.2⟩
       split at h
       · obtain ⟨e, b1, h1, h2⟩ := PR.then_eq_ok h
         obtain ⟨u2,b2,h3,h4⟩:=PR.then_eq_ok h2
         obtain ⟨b,b3,h5,h6⟩:=PR.then_eq_ok h4
         cases h6
         have k1:=paren_right h1 t2
         have k2:=open_right h3 k1.2.2
         have k3:=i2 _ _ _ _ _ h5 k2.1 k2.2 (nil _)
         have e1:=k1.2.1
         have e2:=k3.1.2
         exact ⟨⟨⟨by omega,⟨k1.1,trivial⟩,k3.1.1,trivial⟩,by simp [rS,shp,nmB,allE,e1,e2,k2.1]⟩,k3.2⟩
       split at h
       · obtain ⟨o, b1, h1, h2⟩ := PR.then_eq_ok h
         obtain ⟨u2,b2,h3,h4⟩:=PR.then_eq_ok h2
         obtain ⟨b,b3,h5,h6⟩:=PR.then_eq_ok h4
         cases h6
         have k1:=name_right h1 t2
         have k2:=open_right h3 k1.2
         have k3:=i2 _ _ _ _ _ h5 k2.1 k2.2 (nil _)
         have e1:=k1.1.1
         have e2:=k3.1.2
         exact ⟨⟨⟨by omega,trivial,k3.1.1,trivial⟩,by simp [rS,shp,nmB,allE,e1,e2,k2.1]⟩,k3.2⟩
       split at h
       · obtain ⟨e, b1, h1, h2⟩ := PR.then_eq_ok h
         obtain ⟨u2,b2,h3,h4⟩:=PR.then_eq_ok h2
         cases h4
         have k1:=binE_right h1 t2
         have e1:=k1.2.1
         exact ⟨⟨⟨by omega,⟨k1.1,trivial⟩,trivial,trivial⟩,by simp [rS,shp,nmB,allE,e1]⟩,need_right h3 k1.2.2⟩
       split at h
       · obtain ⟨u, b1, h1, h2⟩ := PR.then_eq_ok h
         cases h2
         exact ⟨⟨⟨by omega,trivial,trivial,trivial⟩,by simp [rS,shp,nmB,allE]⟩,need_right h1 t2⟩
       · cases h
   · simp only [restP] at h
     split at h
     · cases h
       exact ⟨ha,toks_tail ht⟩
     · obtain ⟨a, b, h1, h2⟩ := PR.then_eq_ok h
       have k2:=i1 _ _ _ _ h1 hd ht
       exact i2 _ _ _ _ _ h2 hd k2.2 (sts_snoc ha k2.1)
theorem locals_right:∀ (n:Nat) (acc:List Dc) (ts:List Tk) (l:List Dc) (r:List Tk),localsP L n acc ts=.ok l r→TksOk ts→(∀ d∈acc,BaD d)→(∀ d∈l,BaD d)∧TksOk r
 | 0,acc,ts,l,r,h,_,_=>by simp [localsP] at h
 | n + 1, acc, ts, l, r, h, ht, ha => by
   simp only [localsP] at h
   split at h
   · obtain ⟨a, b, h1, h2⟩ := PR.then_eq_ok h
     have k1:=list_right (P:=BaD) (fun _ _ _ h ht=>name_right h ht) _ _ _ _ _ h1 (toks_tail ht) (fun d hd=>by cases hd)
     exact locals_right n _ _ _ _ h2 k1.2 (fun d hd=>by
      rcases List.mem_append.1 hd with hd | hd
      · exact ha d hd
      · exact k1.1 d hd)
   · cases h;exact ⟨ha,ht⟩
theorem bare_all {l:List Dc} (h:∀ d∈l,BaD d):bareB l=true:=List.all_eq_true.2 fun d hd=>by
 obtain ⟨h1,h2⟩:=h d hd
 rw [h1,h2];rfl
def ThR (t:Th):Prop:=thB t=true∧rgT t∧t.locals.length≤1073741824
theorem thread_right {n:Nat} {ts:List Tk} {t:Th} {r:List Tk} (h:threadP fnd L n ts=.ok t r) (ht:TksOk ts) (hl:ts.length≤65536):ThR t∧TksOk r:=by
 unfold threadP at h
 obtain ⟨u1,b1,h1,h2⟩:=PR.then_eq_ok h
 obtain ⟨u2,b2,h3,h4⟩:=PR.then_eq_ok h2
 obtain ⟨u3,b3,h5,h6⟩:=PR.then_eq_ok h4
 obtain ⟨u4,b4,h7,h8⟩:=PR.then_eq_ok h6
 cases h8
 have k1:=name_right h1 ht
 have k2:=open_right h3 k1.2
 have k3:=locals_right _ _ _ _ _ h5 k2.2 (fun d hd=>by cases hd)
 have k4:=(st_right n).2 _ _ _ _ _ h7 (by omega) k3.2 ⟨trivial,rfl⟩
 have l1:=name_ok h1
 have l2:=open_short h3
 have l3:=locals_ok _ _ _ _ _ h5
 simp at l3
 refine ⟨⟨?_,k4.1.1,by show u3.length≤1073741824;omega⟩,k4.2⟩
 show (nameB u1.name&&(bareB u3&&(decide ((1:Int)≤64)&&rAll u4 1)))=true
 rw [k1.1.1,bare_all k3.1,k4.1.2];rfl
theorem threads_right:∀ (n:Nat) (acc:List Th) (ts:List Tk) (l:List Th) (r:List Tk),threadsP fnd L n acc ts=.ok l r→TksOk ts→ts.length≤65536→(∀ t∈acc,ThR t)→∀ t∈l,ThR t
 | 0,acc,ts,l,r,h,_,_,_=>by simp [threadsP] at h
 | n + 1, acc, ts, l, r, h, ht, hl, ha => by
   simp only [threadsP] at h
   split at h
   · rename_i hi
     have:=isT_tail hi
     obtain ⟨a,b,h1,h2⟩:=PR.then_eq_ok h
     have k1:=thread_short h1
     have k2:=thread_right h1 (toks_tail ht) (by omega)
     exact threads_right n _ _ _ _ h2 k2.2 (by omega) (fun t ht=>by
      rcases List.mem_append.1 ht with ht | ht
      · exact ha t ht
      · rw [List.mem_singleton] at ht;rw [ht];exact k2.1)
   · cases h;exact ha
theorem decls_right:∀ (n:Nat) (p:Pg) (ts:List Tk) (q:Pg) (r:List Tk),declsP L n p ts=.ok q r→TksOk ts→(∀ d∈p.shared,ShD d)→(∀ d∈p.locks,BaD d)→(∀ d∈q.shared,ShD d)∧(∀ d∈q.locks,BaD d)∧TksOk r
 | 0,p,ts,q,r,h,_,_,_=>by simp [declsP] at h
 | n + 1, p, ts, q, r, h, ht, h1', h2' => by
   simp only [declsP] at h
   split at h
   · obtain ⟨a, b, h1, h2⟩ := PR.then_eq_ok h
     have k1:=list_right (P:=ShD) (fun _ _ _ h ht=>first_right h ht) _ _ _ _ _ h1 (toks_tail ht) (fun d hd=>by cases hd)
     exact decls_right n _ _ _ _ h2 k1.2 (fun d hd=>by
      rcases List.mem_append.1 hd with hd | hd
      · exact h1' d hd
      · exact k1.1 d hd) h2'
   · split at h
     · obtain ⟨a, b, h1, h2⟩ := PR.then_eq_ok h
       have k1:=list_right (P:=BaD) (fun _ _ _ h ht=>name_right h ht) _ _ _ _ _ h1 (toks_tail ht) (fun d hd=>by cases hd)
       exact decls_right n _ _ _ _ h2 k1.2 h1' (fun d hd=>by
        rcases List.mem_append.1 hd with hd | hd
        · exact h2' d hd
        · exact k1.1 d hd)
     · cases h;exact ⟨h1',h2',ht⟩
theorem prog_right {n:Nat} {ts:List Tk} {p:Pg} {r:List Tk} (h:progP fnd L n ts=.ok p r) (ht:TksOk ts) (hl:ts.length≤65536):PrOk p∧rP p=true:=by
 have hok:=prog_ok h hl
 unfold progP at h
 obtain ⟨q,b,h1,h2⟩:=PR.then_eq_ok h
 obtain ⟨l,b2,h3,h4⟩:=PR.then_eq_ok h2
 cases h4
 have k0:=decls_ok _ _ _ _ _ h1
 simp at k0
 have k1:=decls_right _ _ _ _ _ h1 ht (fun d hd=>by cases hd) (fun d hd=>by cases hd)
 have k2:=threads_right _ _ _ _ _ h3 k1.2.2 (by omega) (fun t ht=>by cases ht)
 refine ⟨⟨hok,fun t ht=>(k2 t ht).2.1,fun d hd=>⟨Int.le_of_lt (k1.1 d hd).2.1,(k1.1 d hd).2.2⟩,by show q.shared.length≤1073741824;omega,by show q.locks.length≤1073741824;omega,fun t ht=>(k2 t ht).2.2⟩,?_⟩
 show (sharedB q.shared&&(bareB q.locks&&l.all thB))=true
 rw [bare_all k1.2.1,show l.all thB=true from List.all_eq_true.2 fun t ht=>(k2 t ht).1,show sharedB q.shared=true from List.all_eq_true.2 fun d hd=>by
  obtain ⟨e1,e2,_⟩:=k1.1 d hd
  rw [e1,decide_eq_true e2];rfl]
 rfl
end
theorem said_right {s:ByteArray} {p:Pg} {a b c:Int} (h:said_P s=(some p,a,b,c)):PrOk p∧rP p=true:=by
 unfold said_P wholeR at h
 split at h
 · cases h
 · rename_i hl
   split at h
   · cases h
   · rename_i hf
     generalize hX:endP (progP fnd (s.size:Int) (fuel ((scanX s).1.map Res.tk)) ((scanX s).1.map Res.tk))=X at h
     cases X with
     | bad p q=>cases h
     | ok q r =>
       have hq:q=p:=by simpa [endR] using congrArg Prod.fst h
       subst hq
       have h0:(scanX s).2.1=0:=by
        unfold scanX
        rw [if_neg hl]
        split
        · rfl
        · rename_i h2;exact absurd (Classical.byContradiction hf) h2
       exact prog_right (endP_ok hX) (scan_tkok h0) (by rw [List.length_map];exact scanX_len s)
theorem same_tE:∀ x y:Ex,sameE x y=true→tE x=tE y∧x.kind=y.kind∧x.op=y.op:=by
 intro x
 induction x using Ex.ind with
 | h k o wd nm ks ps ih =>
   intro y h
   obtain ⟨k',o',wd',nm',ks',ps'⟩:=y
   simp only [sameE,Bool.and_eq_true,beq_iff_eq] at h
   obtain ⟨⟨⟨⟨rfl,rfl⟩,rfl⟩,hn⟩,hk⟩:=h
   have hn:nm=nm':=ByteArray.ext (Array.ext' hn)
   subst hn
   refine ⟨?_,rfl,rfl⟩
   have hl:=sameEs_len _ _ hk
   simp only [tE]
   unfold tK
   have e1:kid1T ks (tEs ks)=kid1T ks' (tEs ks'):=by
    match ks,ks',hl,hk with
    | [],[],_,_=>rfl
    | [x], [y], _, hk =>
      simp only [sameEs,Bool.and_true] at hk
      have:=ih x (.head _) y hk
      show kidT (x.kind==4) (tE x)=kidT (y.kind==4) (tE y)
      rw [this.1,this.2.1]
    | x::y::r,x'::y'::r',_,hk=>rfl
   have e2:kid2T o ks (tEs ks)=kid2T o ks' (tEs ks'):=by
    match ks,ks',hl,hk with
    | [],[],_,_=>rfl
    | [x],[y],_,hk=>rfl
    | [x, z], [y, u], _, hk =>
      simp only [sameEs,Bool.and_true,Bool.and_eq_true] at hk
      have a:=ih x (.head _) y hk.1
      have b:=ih z (.tail _ (.head _)) u hk.2
      show kidT (wrL o x) (tE x)++([32]++signOf o++[32])++kidT (wrR o z) (tE z)=kidT (wrL o y) (tE y)++([32]++signOf o++[32])++kidT (wrR o u) (tE u)
      unfold wrL wrR
      rw [a.1,a.2.1,a.2.2,b.1,b.2.1,b.2.2]
    | x::y::z::r,x'::y'::z'::r',_,hk=>rfl
   rw [e1,e2]
theorem same_e0:∀ l m:List Ex,sameEs l m=true→e0T l=e0T m
 | [],[],_=>rfl
 | [],_::_,h=>by simp [sameEs] at h
 | _::_,[],h=>by simp [sameEs] at h
 | x :: r, y :: s, h => by
   simp only [sameEs,Bool.and_eq_true] at h
   exact (same_tE x y h.1).1
theorem same_tSs_of:∀ (l m:List St),(∀ x∈l,∀ y,sameS x y=true→∀ d,tS x d=tS y d)→sameSs l m=true→(∀ d,tSs l d=tSs m d)∧l.length=m.length
 | [],[],_,_=>⟨fun _=>rfl,rfl⟩
 | [],_::_,_,h=>by simp [sameSs] at h
 | _::_,[],_,h=>by simp [sameSs] at h
 | x :: r, y :: s, hi, h => by
   simp only [sameSs,Bool.and_eq_true] at h
   have k:=same_tSs_of r s (fun z hz=>hi z (.tail _ hz)) h.2
   refine ⟨fun d=>?_,by simp [k.2]⟩
   show tS x d++tSs r d=tS y d++tSs s d
   rw [hi x (.head _) y h.1 d,k.1 d]
theorem same_tS:∀ x y:St,sameS x y=true→∀ d,tS x d=tS y d:=by
 intro x
 induction x using St.ind with
 | h k n o e b l ps ihb ihl =>
   intro y h d
   obtain ⟨k',n',o',e',b',l',p'⟩:=y
   simp only [sameS,Bool.and_eq_true,beq_iff_eq] at h
   obtain ⟨⟨⟨⟨⟨rfl,hn⟩,ho⟩,he⟩,hb⟩,hl⟩:=h
   have kb:=same_tSs_of _ _ ihb hb
   have kl:=same_tSs_of _ _ ihl hl
   simp only [tS,hn,ho,same_e0 _ _ he,kb.1 (d+1),kl.1 (d+1),kl.2]
theorem same_tSs (l m:List St) (h:sameSs l m=true) (d:Nat):tSs l d=tSs m d:=(same_tSs_of l m (fun x _=>same_tS x) h).1 d
theorem same_dParts (s:ByteArray):∀ (l m:List Dc),sameBy sameD l m=true→dParts s l=dParts s m∧l.length=m.length:=by
 have aux:∀ (l m:List Dc),sameBy sameD l m=true→∀ s,dParts s l=dParts s m∧l.length=m.length:=by
  intro l
  induction l with
  | nil => intro m h s; cases m with
    | nil=>exact ⟨rfl,rfl⟩
    | cons=>simp [sameBy] at h
  | cons x r ih => intro m h s; cases m with
    | nil=>simp [sameBy] at h
    | cons y t =>
      simp only [sameBy,Bool.and_eq_true] at h
      obtain ⟨n,w,p⟩:=x
      obtain ⟨n',w',p'⟩:=y
      have h1:=h.1
      simp only [sameD,Bool.and_eq_true,beq_iff_eq] at h1
      have hn:n=n':=ByteArray.ext (Array.ext' h1.1)
      have hw:w=w':=h1.2
      subst hn hw
      refine ⟨?_,by simp [(ih t h.2 s).2]⟩
      simp only [dParts,dPart]
      rw [(ih t h.2 _).1]
 exact fun l m h=>aux l m h s
theorem same_tDs (word:ByteArray) (l m:List Dc) (d:Nat) (h:sameBy sameD l m=true):tDs word l d=tDs word m d:=by
 unfold tDs
 rw [(same_dParts spS l m h).1,(same_dParts spS l m h).2]
theorem same_tT (x y:Th) (h:sameT x y=true):tT x=tT y:=by
 unfold sameT at h
 simp only [Bool.and_eq_true,beq_iff_eq] at h
 unfold tT
 rw [h.1.1,same_tDs _ _ _ _ h.1.2,same_tSs _ _ h.2]
theorem same_tTs:∀ (l m:List Th),sameBy sameT l m=true→l.flatMap tT=m.flatMap tT
 | [],[],_=>rfl
 | [],_::_,h=>by simp [sameBy] at h
 | _::_,[],h=>by simp [sameBy] at h
 | x :: r, y :: s, h => by
   simp only [sameBy,Bool.and_eq_true] at h
   rw [List.flatMap_cons,List.flatMap_cons,same_tT x y h.1,same_tTs r s h.2]
theorem same_tP {x y:Pg} (h:samePg x y=true):tP x=tP y:=by
 unfold samePg at h
 simp only [Bool.and_eq_true] at h
 unfold tP
 rw [same_tDs _ _ _ _ h.1.1,same_tDs _ _ _ _ h.1.2,same_tTs _ _ h.2]
end Go.Proofs.YtggbkldniffbfaaGreatDoor

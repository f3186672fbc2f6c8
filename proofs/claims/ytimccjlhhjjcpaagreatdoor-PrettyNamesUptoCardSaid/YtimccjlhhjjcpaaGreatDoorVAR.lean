/- The proof, part 18: texts that belong together, in one. -/
import Derived.Test.YtimccjlhhjjcpaaGreatDoorVAQ
import Derived.Deep.MidRow
import Derived.OwnWalk
import Derived.WalkSpells
import Derived.Test.YtimccjlhhjjcpaaGreatDoorVAA
set_option maxRecDepth 100000
set_option maxHeartbeats 20000000
namespace Go.Proofs.YtimccjlhhjjcpaaGreatDoor
open Go.RowKit
set_option linter.unusedVariables false
def nmOk (s:ByteArray):Prop:=s.size≤140737488355328
mutual
def fitE:Ex→Prop
 | .mk _ _ _ n ks _=>nmOk n∧64*ks.length≤140737488355328∧fitEs ks
def fitEs:List Ex→Prop
 | []=>True
 | e::r=>fitE e∧fitEs r
end
theorem fitEs_mem:∀ {l:List Ex},fitEs l→∀ x∈l,fitE x
 | [],_,x,hx=>by simp at hx
 | y :: r, h, x, hx => by
   rcases List.mem_cons.1 hx with rfl | hx
   · exact h.1
   · exact fitEs_mem h.2 x hx
theorem infoEx:(Tryz.prog.info? 70).map (fun i=>(i.zero,i.size,i.bytes))=some (some (.agg zEx),6,64):=by kernel_rfl
theorem below_setCells {B:Nat} {w:World} {g:Nat} (hg:B≤g):∀ (vs:List Value) (o:Nat) (W:World),Below B w W→Below B w (W.setCells g o vs)
 | [],_,_,h=>h
 | v::r,o,W,h=>below_setCells hg r (o+1) _ (h.setCell hg v)
theorem size_setCells (g:Nat):∀ (vs:List Value) (o:Nat) (W:World),(W.setCells g o vs).heap.size=W.heap.size
 | [],_,_=>rfl
 | v::r,o,W=>by rw [World.setCells,size_setCells g r,World.size_setCell]
theorem out_setCells (W:World) {g o o':Nat} (vs:List Value) (h:o'<o) {v:Value} (hv:W.cell? ⟨g,o',none⟩=some v):(W.setCells g o vs).cell? ⟨g,o',none⟩=some v:=by
 rw [World.cell?_setCells_out g vs o W ⟨g,o',none⟩ (fun _ _=>.inl h)];exact hv
theorem there_below {W W':World} {g o n:Nat} (h:W.there g o n) (hg:g<W.heap.size) (hb:Below W.heap.size W W'):W'.there g o n:=fun j hj=>by
 obtain ⟨h1,h2⟩:=h j hj
 rw [hb.cell (p:=⟨g,o+j,none⟩) hg,hb.frozen (p:=⟨g,o+j,none⟩) hg]
 exact ⟨h1,h2⟩
theorem there_part {W:World} {g n:Nat} (h:W.there g 0 n) {o k:Nat} (hk:o+k≤n):W.there g o k:=fun j hj=>by
 have:=h (o+j) (by omega)
 simpa using this
theorem there_made {W:World} {B g:Nat} {T:TypeId} {k n:Nat} {xs:List Value} (h:W.ownsRow B T k (.slice (some ⟨g,0,none⟩) n n) n xs):W.there g 0 (n*k):=by
 obtain ⟨hl,h | ⟨g',cap,cur,hv,_,hb,_,_,hs,hx⟩⟩:=h
 · obtain ⟨h1,h2⟩:=h;cases h1
 · have hv2 : g = g' ∧ n = cap := by
    injection hv with h1 h2 h3;injection h1 with h1;injection h1 with h1;exact ⟨h1,h3⟩
   obtain ⟨hg,hc⟩:=hv2
   subst hg
   subst hc
   intro j hj
   have hjs:j<cur.size:=by omega
   rw [Nat.zero_add]
   exact ⟨by rw [cell_of_row _ _ j _ _ _ hb,Array.getElem?_eq_getElem hjs];rfl,by simp only [World.frozen?,hb];rfl⟩
theorem uf_made {W:World} {B g:Nat} {T:TypeId} {k n:Nat} {xs:List Value} (h:W.ownsRow B T k (.slice (some ⟨g,0,none⟩) n n) n xs):∀ o:Nat,W.frozen? ⟨g,o,none⟩=false:=by
 obtain ⟨hl,h | ⟨g',cap,cur,hv,_,hb,_,_,hs,hx⟩⟩:=h
 · obtain ⟨h1,h2⟩:=h;cases h1
 · have hv2 : g = g' := by
    injection hv with h1 h2 h3;injection h1 with h1;injection h1 with h1
   subst hv2
   intro o
   simp only [World.frozen?,hb];rfl
theorem made_lt {W:World} {B g:Nat} {T:TypeId} {k n:Nat} {xs:List Value} (h:W.ownsRow B T k (.slice (some ⟨g,0,none⟩) n n) n xs):g<W.heap.size:=by
 obtain ⟨hl,h | ⟨g',cap,cur,hv,_,hb,_⟩⟩:=h
 · obtain ⟨h1,h2⟩:=h;cases h1
 · have hv2 : g = g' := by
    injection hv with h1 h2 h3;injection h1 with h1;injection h1 with h1
   subst hv2
   exact (Array.getElem?_eq_some_iff.1 hb).1
theorem there_setCells2 {W:World} {g n:Nat} (h:W.there g 0 n) (o:Nat) (vs:List Value):(W.setCells g o vs).there g 0 n:=World.there_setCells h g o vs
theorem cellsIn_setCells {W:World} {g o:Nat} {vs:List Value} (h:W.there g o vs.length):cellsIn (W.setCells g o vs) g o vs:=fun j v hj=>by
 have hjl:j<vs.length:=(List.getElem?_eq_some_iff.1 hj).1
 have:=World.cell?_setCells_in g vs o W (fun i hi=>(h i hi).1) j hjl
 rw [this]
 rw [List.getElem?_eq_getElem hjl] at hj
 exact hj
def Uf (w:World) (b:Nat):Prop:=∀ o:Nat,w.frozen? ⟨b,o,none⟩=false
def Rf (B:Nat) (w:World) (b:Nat):Prop:=B≤b∧Uf w b
def Chg (B:Nat) (W W':World):Prop:=∀ b,B≤b→b<W.heap.size→(∀ o v,W.cell? ⟨b,o,none⟩=some v→W'.cell? ⟨b,o,none⟩=some v)∧(Uf W b→Uf W' b)
theorem uf_below {W W':World} {b:Nat} (h:Uf W b) (hb:Below W.heap.size W W') (hlt:b<W.heap.size):Uf W' b:=fun o=>by
 rw [hb.frozen (p:=⟨b,o,none⟩) hlt];exact h o
theorem chg_below {B:Nat} {W W':World} (hb:Below W.heap.size W W'):Chg B W W':=fun b _ hlt=>⟨fun o v hv=>by rw [hb.cell (p:=⟨b,o,none⟩) hlt];exact hv,fun h=>uf_below h hb hlt⟩
theorem uf_setCell {W:World} {b:Nat} (h:Uf W b) (p:Addr) (v:Value):Uf (W.setCell p v) b:=fun o=>by rw [World.frozen?_setCell];exact h o
theorem uf_setCells {b g:Nat} : ∀ (vs:List Value) (o:Nat) (W:World),Uf W b→Uf (W.setCells g o vs) b
 | [],_,_,h=>h
 | v::r,o,W,h=>uf_setCells r (o+1) _ (uf_setCell h _ _)
theorem chg_setCells {B g:Nat} (W:World) (o:Nat) (vs:List Value) (hg:g<B):Chg B W (W.setCells g o vs):=fun b hb _=>⟨fun o' v hv=>by
 rw [World.cell?_setCells_out g vs o W ⟨b,o',none⟩ (fun e _=>absurd (show b=g from e) (by omega))];exact hv,fun h=>uf_setCells vs o W h⟩
theorem chg_setCell {B g:Nat} (W:World) (o:Nat) (v:Value) (hg:g<B):Chg B W (W.setCell ⟨g,o,none⟩ v):=chg_setCells W o [v] hg
theorem chg_setRow {B g:Nat} (W:World) (cs:Array Value) (hg:g<B):Chg B W (W.setRow g cs):=fun b hb _=>by
 have k:(W.setRow g cs).heap[b]? = W.heap[b]?:=setRow_other cs (by omega)
 exact ⟨fun o v hv=>by simp only [World.cell?,k];exact hv,fun h o=>by have:=h o;simp only [World.frozen?,k] at this ⊢;exact this⟩
theorem exsAt_rf {B B':Nat} {W W':World} {l:List Ex} {a:Option Addr} (h:exsAt (Rf B W) W l a) (hc:Chg B W W') (hB:B'≤B):exsAt (Rf B' W') W' l a :=
 exsAt_stays (R:=fun b=>Rf B W b∧b<W.heap.size) (fun b o v hb hv=>(hc b hb.1.1 hb.2).1 o v hv) (fun b hb=>⟨Nat.le_trans hB hb.1.1,(hc b hb.1.1 hb.2).2 hb.1.2⟩) (exsAt_in h)
theorem exsAt_rfw {B B':Nat} {W:World} {l:List Ex} {a:Option Addr} (h:exsAt (Rf B W) W l a) (hB:B'≤B):exsAt (Rf B' W) W l a:=exsAt_stays (Stays.refl _ W) (fun b hb=>⟨Nat.le_trans hB hb.1,hb.2⟩) h
theorem stsAt_rf {B B':Nat} {W W':World} {l:List St} {a:Option Addr} (h:stsAt (Rf B W) W l a) (hc:Chg B W W') (hB:B'≤B):stsAt (Rf B' W') W' l a :=
 stsAt_stays (R:=fun b=>Rf B W b∧b<W.heap.size) (fun b o v hb hv=>(hc b hb.1.1 hb.2).1 o v hv) (fun b hb=>⟨Nat.le_trans hB hb.1.1,(hc b hb.1.1 hb.2).2 hb.1.2⟩) (stsAt_in h)
theorem stsAt_rfw {B B':Nat} {W:World} {l:List St} {a:Option Addr} (h:stsAt (Rf B W) W l a) (hB:B'≤B):stsAt (Rf B' W) W l a:=stsAt_stays (Stays.refl _ W) (fun b hb=>⟨Nat.le_trans hB hb.1,hb.2⟩) h
theorem dcsAt_rf {B B':Nat} {W W':World} {l:List Dc} {a:Option Addr} (h:dcsAt (Rf B W) W l a) (hc:Chg B W W') (hB:B'≤B):dcsAt (Rf B' W') W' l a :=
 dcsAt_stays (R:=fun b=>Rf B W b∧b<W.heap.size) (fun b o v hb hv=>(hc b hb.1.1 hb.2).1 o v hv) (fun b hb=>⟨Nat.le_trans hB hb.1.1,(hc b hb.1.1 hb.2).2 hb.1.2⟩) (dcsAt_in h)
theorem dcsAt_rfw {B B':Nat} {W:World} {l:List Dc} {a:Option Addr} (h:dcsAt (Rf B W) W l a) (hB:B'≤B):dcsAt (Rf B' W) W l a:=dcsAt_stays (Stays.refl _ W) (fun b hb=>⟨Nat.le_trans hB hb.1,hb.2⟩) h
theorem thsAt_rf {B B':Nat} {W W':World} {l:List Th} {a:Option Addr} (h:thsAt (Rf B W) W l a) (hc:Chg B W W') (hB:B'≤B):thsAt (Rf B' W') W' l a :=
 thsAt_stays (R:=fun b=>Rf B W b∧b<W.heap.size) (fun b o v hb hv=>(hc b hb.1.1 hb.2).1 o v hv) (fun b hb=>⟨Nat.le_trans hB hb.1.1,(hc b hb.1.1 hb.2).2 hb.1.2⟩) (thsAt_in h)
theorem thsAt_rfw {B B':Nat} {W:World} {l:List Th} {a:Option Addr} (h:thsAt (Rf B W) W l a) (hB:B'≤B):thsAt (Rf B' W) W l a:=thsAt_stays (Stays.refl _ W) (fun b hb=>⟨Nat.le_trans hB hb.1,hb.2⟩) h
theorem p_clone (s:ByteArray) (h:nmOk s) (w:World):Calls Tryz.prog 30 #[.string s] w fun e w'=>e=.returned (.string s)∧Below w.heap.size w w':=by
 unfold nmOk at h
 have HC:Hid (Calls Tryz.prog 71 #[.string s] w fun e w'=>e=.returned (.string s)∧Below w.heap.size w w'):=Tryz.stringslite_Clone s w (by omega)
 clear h
 go_enter Tryz.func30,Tryz.ntmps30
 go_wp2_with fail
 go_at_call 71
 refine HC.out.mono ?_
 rintro e w1 ⟨rfl,hb⟩
 have HB:=Lib.hid hb
 clear hb
 go_wp2_with fail
 go_ret
 exact ⟨rfl,HB.out⟩
mutual
def fitS:St→Prop
 | .mk _ n o e b l _=>nmOk n∧nmOk o∧(64*e.length≤140737488355328∧fitEs e)∧(120*b.length≤140737488355328∧fitSs b)∧120*l.length≤140737488355328∧fitSs l
def fitSs:List St→Prop
 | []=>True
 | x::r=>fitS x∧fitSs r
end
theorem fitSs_mem:∀ {l:List St},fitSs l→∀ x∈l,fitS x
 | [],_,x,hx=>by simp at hx
 | y :: r, h, x, hx => by
   rcases List.mem_cons.1 hx with rfl | hx
   · exact h.1
   · exact fitSs_mem h.2 x hx
def fitD (d:Dc):Prop:=nmOk d.name
def fitDs (l:List Dc):Prop:=∀ d∈l,fitD d
theorem fitDs_mem {l:List Dc} (h:fitDs l):∀ x∈l,fitD x:=h
def fitT (t:Th):Prop:=nmOk t.name∧(32*t.locals.length≤140737488355328∧fitDs t.locals)∧120*t.body.length≤140737488355328∧fitSs t.body
def fitTs (l:List Th):Prop:=∀ t∈l,fitT t
theorem fitTs_mem {l:List Th} (h:fitTs l):∀ x∈l,fitT x:=h
theorem exsIn_mv {B:Nat} {W W':World} {g lim:Nat} (hc:∀ o v,o<lim→W.cell? ⟨g,o,none⟩=some v→W'.cell? ⟨g,o,none⟩=some v) (hs:Chg B W W'):∀ (l:List Ex) (q:Nat),q+l.length*6≤lim→exsIn (Rf B W) W l g q→exsIn (Rf B W') W' l g q
 | [],q,_,_=>trivial
 | .mk k op wd nm ks ps :: r, q, ho, h => by
   simp only [List.length_cons] at ho
   obtain ⟨⟨c0,c1,c2,c3,⟨a,cap,c4,h4⟩,c5⟩,hr⟩:=h
   exact ⟨⟨hc _ _ (by omega) c0,hc _ _ (by omega) c1,hc _ _ (by omega) c2,hc _ _ (by omega) c3,⟨a,cap,hc _ _ (by omega) c4,exsAt_rf h4 hs (Nat.le_refl _)⟩,hc _ _ (by omega) c5⟩,exsIn_mv hc hs r (q+6) (by omega) hr⟩
theorem exsIn_snoc {R:Nat→Prop} {w:World} {b:Nat} : ∀ (l:List Ex) (q:Nat) (x:Ex),exsIn R w l b q→exIn R w x b (q+l.length*6)→exsIn R w (l++[x]) b q
 | [],q,x,_,h=>⟨by simpa using h,trivial⟩
 | y::r,q,x,h,hx=>⟨h.1,exsIn_snoc (R:=R) r (q+6) x h.2 (by rw [show q+6+r.length*6=q+(y::r).length*6 by simp;omega];exact hx)⟩
theorem dcsIn_mv {B:Nat} {W W':World} {g lim:Nat} (hc:∀ o v,o<lim→W.cell? ⟨g,o,none⟩=some v→W'.cell? ⟨g,o,none⟩=some v) (hs:Chg B W W'):∀ (l:List Dc) (q:Nat),q+l.length*3≤lim→dcsIn W l g q→dcsIn W' l g q
 | [],q,_,_=>trivial
 | d :: r, q, ho, h => by
   simp only [List.length_cons] at ho
   obtain ⟨⟨c0,c1,c2⟩,hr⟩:=h
   exact ⟨⟨hc _ _ (by omega) c0,hc _ _ (by omega) c1,hc _ _ (by omega) c2⟩,dcsIn_mv hc hs r (q+3) (by omega) hr⟩
theorem dcsIn_snoc {R:Nat→Prop} {w:World} {b:Nat} : ∀ (l:List Dc) (q:Nat) (x:Dc),dcsIn w l b q→dcIn w x b (q+l.length*3)→dcsIn w (l++[x]) b q
 | [],q,x,_,h=>⟨by simpa using h,trivial⟩
 | y::r,q,x,h,hx=>⟨h.1,dcsIn_snoc (R:=R) r (q+3) x h.2 (by rw [show q+3+r.length*3=q+(y::r).length*3 by simp;omega];exact hx)⟩
theorem stsIn_mv {B:Nat} {W W':World} {g lim:Nat} (hc:∀ o v,o<lim→W.cell? ⟨g,o,none⟩=some v→W'.cell? ⟨g,o,none⟩=some v) (hs:Chg B W W'):∀ (l:List St) (q:Nat),q+l.length*7≤lim→stsIn (Rf B W) W l g q→stsIn (Rf B W') W' l g q
 | [],q,_,_=>trivial
 | .mk k n o e bd el p :: r, q, ho, h => by
   simp only [List.length_cons] at ho
   obtain ⟨⟨c0,c1,c2,⟨a3,p3,c3,h3⟩,⟨a4,p4,c4,h4⟩,⟨a5,p5,c5,h5⟩,c6⟩,hr⟩:=h
   exact ⟨⟨hc _ _ (by omega) c0,hc _ _ (by omega) c1,hc _ _ (by omega) c2,⟨a3,p3,hc _ _ (by omega) c3,exsAt_rf h3 hs (Nat.le_refl _)⟩,⟨a4,p4,hc _ _ (by omega) c4,stsAt_rf h4 hs (Nat.le_refl _)⟩,⟨a5,p5,hc _ _ (by omega) c5,stsAt_rf h5 hs (Nat.le_refl _)⟩,hc _ _ (by omega) c6⟩,stsIn_mv hc hs r (q+7) (by omega) hr⟩
theorem stsIn_snoc {R:Nat→Prop} {w:World} {b:Nat} : ∀ (l:List St) (q:Nat) (x:St),stsIn R w l b q→stIn R w x b (q+l.length*7)→stsIn R w (l++[x]) b q
 | [],q,x,_,h=>⟨by simpa using h,trivial⟩
 | y::r,q,x,h,hx=>⟨h.1,stsIn_snoc (R:=R) r (q+7) x h.2 (by rw [show q+7+r.length*7=q+(y::r).length*7 by simp;omega];exact hx)⟩
theorem thsIn_mv {B:Nat} {W W':World} {g lim:Nat} (hc:∀ o v,o<lim→W.cell? ⟨g,o,none⟩=some v→W'.cell? ⟨g,o,none⟩=some v) (hs:Chg B W W'):∀ (l:List Th) (q:Nat),q+l.length*4≤lim→thsIn (Rf B W) W l g q→thsIn (Rf B W') W' l g q
 | [],q,_,_=>trivial
 | t :: r, q, ho, h => by
   simp only [List.length_cons] at ho
   obtain ⟨⟨c0,⟨a3,p3,c3,h3⟩,⟨a4,p4,c4,h4⟩,c5⟩,hr⟩:=h
   exact ⟨⟨hc _ _ (by omega) c0,⟨a3,p3,hc _ _ (by omega) c3,dcsAt_rf h3 hs (Nat.le_refl _)⟩,⟨a4,p4,hc _ _ (by omega) c4,stsAt_rf h4 hs (Nat.le_refl _)⟩,hc _ _ (by omega) c5⟩,thsIn_mv hc hs r (q+4) (by omega) hr⟩
theorem thsIn_snoc {R:Nat→Prop} {w:World} {b:Nat} : ∀ (l:List Th) (q:Nat) (x:Th),thsIn R w l b q→thIn R w x b (q+l.length*4)→thsIn R w (l++[x]) b q
 | [],q,x,_,h=>⟨by simpa using h,trivial⟩
 | y::r,q,x,h,hx=>⟨h.1,thsIn_snoc (R:=R) r (q+4) x h.2 (by rw [show q+4+r.length*4=q+(y::r).length*4 by simp;omega];exact hx)⟩
theorem cp_step_E {G B2 n i:Nat} {W:World} {l:List Ex} {x:Ex} (il:i<l.length) (hx:l[i]? = some x) (hn:l.length≤n) (hB:G+1≤B2) (hth:W.there G 0 (n*6)) (hI:exsIn (Rf (G+1) W) W (l.take i) G 0) {a:Option Addr} {c:Nat} (h1:exsAt (Rf B2 W) W x.kids a) :
 exsIn (Rf (G+1) (W.setCells G (i*6) (exCells x a c))) (W.setCells G (i*6) (exCells x a c)) (l.take (i+1)) G 0:=by
 have hlen:(exCells x a c).length=6:=rfl
 have hti:(l.take i).length=i:=by rw [List.length_take];omega
 have hxe:l[i]=x:=by rw [List.getElem?_eq_getElem il] at hx;exact Option.some.inj hx
 rw [take_one il,hxe]
 have hs1:Chg (G+1) W (W.setCells G (i*6) (exCells x a c)):=chg_setCells W _ _ (by omega)
 have hs2:Chg B2 W (W.setCells G (i*6) (exCells x a c)):=chg_setCells W _ _ (by omega)
 have hci:cellsIn (W.setCells G (i*6) (exCells x a c)) G (i*6) (exCells x a c):=cellsIn_setCells (there_part hth (by rw [hlen];omega))
 refine exsIn_snoc (R:=Rf (G+1) (W.setCells G (i*6) (exCells x a c))) _ 0 x (exsIn_mv (B:=G+1) (lim:=i*6) (fun o v ho hv=>out_setCells W _ ho hv) hs1 _ 0 (by rw [hti];omega) hI) ?_
 rw [hti,Nat.zero_add]
 exact exIn_of ⟨a,c,rfl,exsAt_rf h1 hs2 hB⟩ hci
theorem cp_step_D {G B2 n i:Nat} {W:World} {l:List Dc} {x:Dc} (il:i<l.length) (hx:l[i]? = some x) (hn:l.length≤n) (hB:G+1≤B2) (hth:W.there G 0 (n*3)) (hI:dcsIn W (l.take i) G 0)  :
 dcsIn (W.setCells G (i*3) (dcCells x)) (l.take (i+1)) G 0:=by
 have hlen:(dcCells x).length=3:=rfl
 have hti:(l.take i).length=i:=by rw [List.length_take];omega
 have hxe:l[i]=x:=by rw [List.getElem?_eq_getElem il] at hx;exact Option.some.inj hx
 rw [take_one il,hxe]
 have hs1:Chg (G+1) W (W.setCells G (i*3) (dcCells x)):=chg_setCells W _ _ (by omega)
 have hs2:Chg B2 W (W.setCells G (i*3) (dcCells x)):=chg_setCells W _ _ (by omega)
 have hci:cellsIn (W.setCells G (i*3) (dcCells x)) G (i*3) (dcCells x):=cellsIn_setCells (there_part hth (by rw [hlen];omega))
 refine dcsIn_snoc (R:=Rf (G+1) (W.setCells G (i*3) (dcCells x))) _ 0 x (dcsIn_mv (B:=G+1) (lim:=i*3) (fun o v ho hv=>out_setCells W _ ho hv) hs1 _ 0 (by rw [hti];omega) hI) ?_
 rw [hti,Nat.zero_add]
 exact dcIn_of hci
theorem cp_step_S {G B2 n i:Nat} {W:World} {l:List St} {x:St} (il:i<l.length) (hx:l[i]? = some x) (hn:l.length≤n) (hB:G+1≤B2) (hth:W.there G 0 (n*7)) (hI:stsIn (Rf (G+1) W) W (l.take i) G 0) {a3 a4 a5:Option Addr} {c3 c4 c5:Nat} (h3:exsAt (Rf B2 W) W x.e a3) (h4:stsAt (Rf B2 W) W x.body a4) (h5:stsAt (Rf B2 W) W x.els a5) :
 stsIn (Rf (G+1) (W.setCells G (i*7) (stCells x a3 c3 a4 c4 a5 c5))) (W.setCells G (i*7) (stCells x a3 c3 a4 c4 a5 c5)) (l.take (i+1)) G 0:=by
 have hlen:(stCells x a3 c3 a4 c4 a5 c5).length=7:=rfl
 have hti:(l.take i).length=i:=by rw [List.length_take];omega
 have hxe:l[i]=x:=by rw [List.getElem?_eq_getElem il] at hx;exact Option.some.inj hx
 rw [take_one il,hxe]
 have hs1:Chg (G+1) W (W.setCells G (i*7) (stCells x a3 c3 a4 c4 a5 c5)):=chg_setCells W _ _ (by omega)
 have hs2:Chg B2 W (W.setCells G (i*7) (stCells x a3 c3 a4 c4 a5 c5)):=chg_setCells W _ _ (by omega)
 have hci:cellsIn (W.setCells G (i*7) (stCells x a3 c3 a4 c4 a5 c5)) G (i*7) (stCells x a3 c3 a4 c4 a5 c5):=cellsIn_setCells (there_part hth (by rw [hlen];omega))
 refine stsIn_snoc (R:=Rf (G+1) (W.setCells G (i*7) (stCells x a3 c3 a4 c4 a5 c5))) _ 0 x (stsIn_mv (B:=G+1) (lim:=i*7) (fun o v ho hv=>out_setCells W _ ho hv) hs1 _ 0 (by rw [hti];omega) hI) ?_
 rw [hti,Nat.zero_add]
 exact stIn_of ⟨a3,c3,a4,c4,a5,c5,rfl,exsAt_rf h3 hs2 hB,stsAt_rf h4 hs2 hB,stsAt_rf h5 hs2 hB⟩ hci
theorem cp_step_T {G B2 n i:Nat} {W:World} {l:List Th} {x:Th} (il:i<l.length) (hx:l[i]? = some x) (hn:l.length≤n) (hB:G+1≤B2) (hth:W.there G 0 (n*4)) (hI:thsIn (Rf (G+1) W) W (l.take i) G 0) {a1 a2:Option Addr} {c1 c2:Nat} (h1:dcsAt (Rf B2 W) W x.locals a1) (h2:stsAt (Rf B2 W) W x.body a2) :
 thsIn (Rf (G+1) (W.setCells G (i*4) (thCells x a1 c1 a2 c2))) (W.setCells G (i*4) (thCells x a1 c1 a2 c2)) (l.take (i+1)) G 0:=by
 have hlen:(thCells x a1 c1 a2 c2).length=4:=rfl
 have hti:(l.take i).length=i:=by rw [List.length_take];omega
 have hxe:l[i]=x:=by rw [List.getElem?_eq_getElem il] at hx;exact Option.some.inj hx
 rw [take_one il,hxe]
 have hs1:Chg (G+1) W (W.setCells G (i*4) (thCells x a1 c1 a2 c2)):=chg_setCells W _ _ (by omega)
 have hs2:Chg B2 W (W.setCells G (i*4) (thCells x a1 c1 a2 c2)):=chg_setCells W _ _ (by omega)
 have hci:cellsIn (W.setCells G (i*4) (thCells x a1 c1 a2 c2)) G (i*4) (thCells x a1 c1 a2 c2):=cellsIn_setCells (there_part hth (by rw [hlen];omega))
 refine thsIn_snoc (R:=Rf (G+1) (W.setCells G (i*4) (thCells x a1 c1 a2 c2))) _ 0 x (thsIn_mv (B:=G+1) (lim:=i*4) (fun o v ho hv=>out_setCells W _ ho hv) hs1 _ 0 (by rw [hti];omega) hI) ?_
 rw [hti,Nat.zero_add]
 exact thIn_of ⟨a1,c1,a2,c2,rfl,dcsAt_rf h1 hs2 hB,stsAt_rf h2 hs2 hB⟩ hci
end Go.Proofs.YtimccjlhhjjcpaaGreatDoor

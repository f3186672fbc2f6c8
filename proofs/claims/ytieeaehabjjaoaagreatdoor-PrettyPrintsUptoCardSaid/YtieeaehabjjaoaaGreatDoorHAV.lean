/- The proof, part 22: texts that belong together, in one. -/
import Derived.Test.YtieeaehabjjaoaaGreatDoorHAU
set_option maxRecDepth 100000
set_option maxHeartbeats 20000000
namespace Go.Proofs.YtieeaehabjjaoaaGreatDoor
open Go.RowKit
set_option linter.unusedVariables false
theorem add_at (g q j:Nat):(⟨g,q,none⟩:Addr).add j=⟨g,q+j,none⟩:=by
 cases j <;> simp [Addr.add]
theorem dcs_cells {w:World} : ∀ (l:List Dc) (g q:Nat),dcsIn w l g q→cellsIn w g q (dcsL l)
 | [],g,q,_=>fun j v h=>by simp [dcsL] at h
 | x :: r, g, q, h => by
   have ih:=dcs_cells r g (q+3) h.2
   obtain ⟨⟨c0,c1,c2⟩,_⟩:=h
   intro j v hj
   have e:dcsL (x::r)=[.string x.name,.int .i64 x.wd,.int .i64 x.pos]++dcsL r:=by simp [dcsL,dcCells]
   rw [e] at hj
   match j,hj with
   | 0, hj => obtain rfl : _ = v := by simpa using hj
              exact c0
   | 1, hj => obtain rfl : _ = v := by simpa using hj
              exact c1
   | 2, hj => obtain rfl : _ = v := by simpa using hj
              exact c2
   | j + 3, hj =>
     have:=ih j v (by simpa using hj)
     rw [show q+(j+3)=q+3+j by omega];exact this
theorem wpList_append_nothing {P:Program} {w:World} {ops:Array Oper} {rest:List Oper} {o:Oper} {a:Act} {Q:Exit→Act→World→Prop} (hgd:o.guard=none) (s x:Operand) (t:TypeId)
 (ho:o.op=.call { callee:=.builtin .append,args:=#[s,x],argTypes:=#[t,t] }) (e:TypeId) (i:TypeInfo) (ht:P.underlying t=some (.slice e)) (hi:P.info? e=some i)
 (hs:a.eval s=.slice none 0 0) (b:Option Addr) (c:Nat) (hx:a.eval x=.slice b 0 c)
 (h:wpList P ops Q rest (a.put o.dst (.slice none 0 0)) w):wpList P ops Q (o::rest) a w:=by
 refine wpList_plain hgd fun K hK=>?_
 have hrun:(Builtin.append_ #[t,t] o.type #[.slice none 0 0,.slice b 0 c]).run P w=.ok (.slice none 0 0) w:=by
  cases b <;> simp [Builtin.append_,run_underlying ht,sizeOf,typeInfo,hi,Builtin.lenOf,Builtin.firstCells,loadCells,loadCellsFrom]
 unfold Oper.wp
 simp [execOp,ho,resolve,invoke,builtin,hs,hx,hrun,Result.andThen]
 exact hK _ _ h
def CyDP (l:List Dc) (w:World) (e:Ending) (w':World):Prop:=∃ s t,e=.returned (.slice s l.length t)∧dcsAt (Rf w.heap.size w') w' l s∧Below w.heap.size w w'
theorem r_copyDecls (l:List Dc) (hl:l.length≤1048576) (a:Option Addr) (c:Nat) (w:World) (h:dcsAt (fun _=>True) w l a):Calls Tryz.prog 15 #[.slice a l.length c] w (CyDP l w):=by
 by_cases h0:l=[]
 · subst h0
   have hB:Hid (CyDP [] w (.returned (.slice none 0 0)) w):=⟨none,0,rfl,.inl rfl,Below.refl _ _⟩
   show Calls _ _ #[.slice a 0 c] w _
   clear h hl
   obtain ⟨i0,hi0',_⟩:=info_parts infoDc
   go_enter Tryz.func15,Tryz.ntmps15
   go_wp2_with (at_builtin;refine wpList_append_nothing rfl _ _ 22 rfl 63 i0 Tryz.underlying22 hi0' rfl a c rfl ?_)
   go_ret
   exact hB.out
 · have hpos : 0 < l.length := List.length_pos_iff.2 h0
   obtain ⟨g,q,rfl,_,hi⟩:∃ g q,a=some ⟨g,q,none⟩∧True∧dcsIn w l g q:=by
    rcases h with h | ⟨g,q,e,_,hi⟩
    · exact absurd (by simpa using h) h0
    · exact ⟨g,q,e,trivial,hi⟩
   have HNEWS:Hid (∀ j u,(dcsL l)[j]? = some u→w.cell? ((⟨g,q,none⟩:Addr).add j)=some u):=fun j u hu=>by
    rw [add_at];exact dcs_cells l g q hi j u hu
   obtain ⟨i0,hi0',hi0,hi1,hi2⟩:=info_parts infoDc
   have row4:=World.ownsRow_nil w w.heap.size 63 3
   have HP:Hid (∀ e w',CyDP l w e w'→CyDP l w e w'):=fun _ _ h=>h
   have HL:=Lib.hid (dcsL_len l)
   have HC:=Lib.hid (dcsL_cells l)
   have HFIN:Hid (∀ g2 cap2 w9,w9.ownsRow w.heap.size 63 3 (.slice (some ⟨g2,0,none⟩) (0+l.length) cap2) (0+l.length) ([]++dcsL l)→w.grownBy w9 (Value.slice none 0 0).ownBlock→CyDP l w (.returned (.slice (some ⟨g2,0,none⟩) l.length cap2)) w9):=fun g2 cap2 w9 hr hg=>by
    rw [Nat.zero_add,List.nil_append] at hr
    have hb:w.heap.size≤g2:=(hr.lt g2 rfl).1
    refine ⟨_,_,rfl,.inr ⟨g2,0,rfl,⟨hb,fun o=>hr.frozenAt o⟩,dcsIn_of (row_cells hr rfl)⟩,?_⟩
    exact (Below.refl w.heap.size w).grown hg (Nat.le_refl _) (fun k hk=>by cases hk)
   generalize hn:l.length=n at hl hpos HL HFIN ⊢
   have HN:=Lib.hid hn
   clear h h0 hi hn HP
   go_enter Tryz.func15,Tryz.ntmps15
   go_wp2_with (at_builtin;refine wpList_append_lies _ rfl _ _ 22 rfl w.heap.size 63 i0 _ 3 32 Tryz.underlying22 hi0' hi0 hi1 hi2 rfl (by decide) _ _ _ rfl row4 ⟨g,q,none⟩ n c (dcsL l) rfl HL.out HNEWS.out HC.out hpos (by simp only [maxLen];omega) (by omega) (Nat.le_refl _) _ rfl ?_;intro g2 cap2 w9 hown' hgrow hlies hglt;have ROW4:=Lib.hid hown';have GR:=Lib.hid hgrow;clear hown' hgrow hlies)
   go_ret
   have:=HFIN.out g2 cap2 w9 ROW4.out GR.out
   simpa using this
def RQ (B ob lim:Nat) (X:World) (b:Nat):Prop:=B≤b∧b≠ob∧b<lim∧Uf X b
theorem rq_below {B ob lim:Nat} {X Y:World} (h:Below X.heap.size X Y) (ho:lim≤X.heap.size) {b:Nat} (hb:RQ B ob lim X b):RQ B ob lim Y b:=⟨hb.1,hb.2.1,hb.2.2.1,uf_below hb.2.2.2 h (Nat.lt_of_lt_of_le hb.2.2.1 ho)⟩
theorem rq_grown {B ob lim:Nat} {v:Value} {X Y:World} (h:X.grownBy Y v.ownBlock) (ho:lim≤X.heap.size) (hv:∀ g,v.ownBlock=some g→lim≤g) {b:Nat} (hb:RQ B ob lim X b):RQ B ob lim Y b :=
 ⟨hb.1,hb.2.1,hb.2.2.1,fun o=>by rw [World.frozen?_of_block (w:=X) (a:=⟨b,o,none⟩) (h.block b (Nat.lt_of_lt_of_le hb.2.2.1 ho) (fun e=>by have:=hv b e.symm;have:=hb.2.2.1;omega))];exact hb.2.2.2 o⟩
theorem rq_stays {B ob lim:Nat} {v:Value} {X Y:World} (h:X.grownBy Y v.ownBlock) (ho:lim≤X.heap.size) (hv:∀ g,v.ownBlock=some g→lim≤g):Stays (RQ B ob lim X) X Y:=stays_grown h fun b hb e=>by have:=hv b e;have:=hb.2.2.1;omega
structure Cq (x:Pg) (w:World) (ob lim:Nat) (p:Array Value) (s1 s2 oa:Option Addr) (t1 t2 cap n1 n2 i:Nat) (xs:List Value) (X:World):Prop where
 ge:w.heap.size+2≤ob
 lo:ob<lim
 hi:lim≤X.heap.size
 box:Own X w.heap.size 25 p
 res:Own X (w.heap.size+1) 25 #[.slice none 0 0,.slice none 0 0,.slice none 0 0]
 own:Own X ob 25 #[.slice s1 n1 t1,.slice s2 n2 t2,.slice oa i cap]
 sh:dcsAt (RQ (w.heap.size+2) ob lim X) X x.shared s1
 lk:dcsAt (RQ (w.heap.size+2) ob lim X) X x.locks s2
 row:X.ownsRow lim 39 4 (.slice oa i cap) i xs
 th:thsV (RR lim (.slice oa i cap) X) X (x.threads.take i) xs
 bel:Below w.heap.size w X
section
variable {x:Pg} {w X Y:World} {ob lim:Nat} {p:Array Value} {s1 s2 oa:Option Addr} {t1 t2 cap n1 n2 i:Nat} {xs:List Value}
theorem Cq.below (h:Cq x w ob lim p s1 s2 oa t1 t2 cap n1 n2 i xs X) (hb:Below X.heap.size X Y):Cq x w ob lim p s1 s2 oa t1 t2 cap n1 n2 i xs Y :=
 ⟨h.ge,h.lo,Nat.le_trans h.hi hb.size,h.box.below hb,h.res.below hb,h.own.below hb,dcsAt_stays (stays_below hb) (fun b=>rq_below hb h.hi) h.sh,dcsAt_stays (stays_below hb) (fun b=>rq_below hb h.hi) h.lk,row_below h.row hb,thsV_stays (stays_below hb) (fun b=>rr_below hb) h.th,h.bel.trans (hb.mono h.bel.size)⟩
end
def K3 (w:World) (v0 v1 v2:Value) (W:World):Prop:=W.cell? ⟨w.heap.size,0,none⟩=some v0∧W.cell? ⟨w.heap.size,1,none⟩=some v1∧W.cell? ⟨w.heap.size,2,none⟩=some v2∧Own W w.heap.size 25 #[v0,v1,v2]∧Own W (w.heap.size+1) 25 zPg∧Below w.heap.size w W
section
variable {w W W':World} {v0 v1 v2:Value}
theorem k3_of (h:Own W w.heap.size 25 #[v0,v1,v2]) (h2:Own W (w.heap.size+1) 25 zPg) (hb:Below w.heap.size w W):K3 w v0 v1 v2 W:=⟨by rw [cell_of_row _ _ 0 _ _ _ h];rfl,by rw [cell_of_row _ _ 1 _ _ _ h];rfl,by rw [cell_of_row _ _ 2 _ _ _ h];rfl,h,h2,hb⟩
theorem k3_below (h:K3 w v0 v1 v2 W) (hb:Below W.heap.size W W'):K3 w v0 v1 v2 W':=k3_of (h.2.2.2.1.below hb) (h.2.2.2.2.1.below hb) (h.2.2.2.2.2.trans (hb.mono h.2.2.2.2.2.size))
theorem k3_alloc (h:K3 w v0 v1 v2 W) (o:Obj):K3 w v0 v1 v2 (W.alloc o):=k3_below h ((Below.refl _ W).alloc (Nat.le_refl _) o)
theorem k3_set (h:K3 w v0 v1 v2 W) {g:Nat} (hg:w.heap.size+2≤g) (j:Nat) (v:Value):K3 w v0 v1 v2 (W.setCell ⟨g,j,none⟩ v):=k3_of (h.2.2.2.1.setX j v (by omega)) (h.2.2.2.2.1.setX j v (by omega)) (h.2.2.2.2.2.setCell (by show w.heap.size≤g;omega) v)
theorem k3_lt (h:K3 w v0 v1 v2 W):w.heap.size+2≤W.heap.size:=h.2.2.2.2.1.lt
end
theorem cq_next {x:Pg} {w X Y:World} {ob lim:Nat} {p:Array Value} {s1 s2 oa:Option Addr} {t1 t2 cap n1 n2 i:Nat} {xs news:List Value} {g2 cap2:Nat} (h:Cq x w ob lim p s1 s2 oa t1 t2 cap n1 n2 i xs X) (hr:Y.ownsRow lim 39 4 (.slice (some ⟨g2,0,none⟩) (i+1) cap2) (i+1) (xs++news)) (hg:X.grownBy Y (Value.slice oa i cap).ownBlock) (hl:(Value.slice oa i cap).ownBlock=some g2∨g2=X.heap.size) (hv:thsV (RR lim (.slice oa i cap) X) X (x.threads.take (i+1)) (xs++news)) :
 Cq x w ob lim p s1 s2 (some ⟨g2,0,none⟩) t1 t2 cap2 n1 n2 (i+1) (xs++news) (Y.setCell ⟨ob,2,none⟩ (.slice (some ⟨g2,0,none⟩) (i+1) cap2)):=by
 have hlim:∀ g,(Value.slice oa i cap).ownBlock=some g→lim≤g:=fun g hg=>(h.row.lt g hg).1
 have o0:=own_grown h.box hg (row_apart h.row h.box rfl)
 have o1:=own_grown h.res hg (row_apart h.row h.res rfl)
 have o2:=own_grown h.own hg (row_apart h.row h.own rfl)
 have hge:=h.ge
 have hlo:=h.lo
 have hst:∀ R:Nat→Prop,(∀ b,R b→b≠ob)→Stays R Y (Y.setCell ⟨ob,2,none⟩ (.slice (some ⟨g2,0,none⟩) (i+1) cap2)):=fun R hR=>stays_setX (R:=R) _ 2 _ hR
 have e:Y.setCell ⟨ob,2,none⟩ (.slice (some ⟨g2,0,none⟩) (i+1) cap2)=Y.setRow ob #[.slice s1 n1 t1,.slice s2 n2 t2,.slice (some ⟨g2,0,none⟩) (i+1) cap2]:=setCell_row o2 2 _
 have hd:∀ {l:List Dc} {a:Option Addr},dcsAt (RQ (w.heap.size+2) ob lim X) X l a→dcsAt (RQ (w.heap.size+2) ob lim (Y.setCell ⟨ob,2,none⟩ (.slice (some ⟨g2,0,none⟩) (i+1) cap2))) (Y.setCell ⟨ob,2,none⟩ (.slice (some ⟨g2,0,none⟩) (i+1) cap2)) l a:=fun hq =>
  dcsAt_stays (hst _ fun b hb=>hb.2.1) (fun b hb=>⟨hb.1,hb.2.1,hb.2.2.1,uf_setCell hb.2.2.2 _ _⟩) (dcsAt_stays (rq_stays hg h.hi hlim) (fun b hb=>rq_grown hg h.hi hlim hb) hq)
 refine ⟨hge,hlo,by rw [World.size_setCell];exact Nat.le_trans h.hi hg.size,o0.setX 2 _ (by omega),o1.setX 2 _ (by omega),o2.setJ 2 (.slice (some ⟨g2,0,none⟩) (i+1) cap2),hd h.sh,hd h.lk,?_,?_,(h.bel.grown hg h.bel.size (fun k hk=>by have:=hlim k hk;omega)).setCell (by show w.heap.size≤ob;omega) _⟩
 · rw [e];exact row_row hr _ (row_apart hr o2 rfl)
 · exact thsV_stays (hst (RR lim (.slice (some ⟨g2,0,none⟩) (i+1) cap2) Y) fun b hb=>by have:=hb.1;omega) (fun b hb=>⟨hb.1,uf_setCell hb.2.1 _ _,hb.2.2.1,by rw [World.size_setCell];exact hb.2.2.2⟩) (thsV_stays (stays_grown hg (fun b hb e=>hb.2.2.1 e)) (fun b hb=>rr_grown hg rfl hl hb) hv)
def CpyR (x:Pg) (w:World) (e:Ending) (w':World):Prop:=∃ s1 t1 s2 t2 s3 t3,e=.returned (.agg #[.slice s1 x.shared.length t1,.slice s2 x.locks.length t2,.slice s3 x.threads.length t3])∧dcsAt (Rf w.heap.size w') w' x.shared s1∧dcsAt (Rf w.heap.size w') w' x.locks s2∧thsAt (Rf w.heap.size w') w' x.threads s3∧Below w.heap.size w w'
def S6 (x:Pg) (w:World) (s1 s2:Option Addr) (Q:Nat→Prop) (X:World):Prop:=dcsAt (fun b=>Rf (w.heap.size+2) X b∧Q b∧b<X.heap.size) X x.shared s1∧dcsAt (fun b=>Rf (w.heap.size+2) X b∧Q b∧b<X.heap.size) X x.locks s2
section
variable {x:Pg} {w W:World} {ob:Nat} {v0 v1 v2:Value} {s1 s2:Option Addr} {t1 t2 n1 n2:Nat}
theorem cq_alloc (hK:K3 w v0 v1 v2 W) (hS:S6 x w s1 s2 (fun _=>True) W):Cq x w W.heap.size (W.heap.size+1) #[v0,v1,v2] s1 s2 none t1 t2 0 n1 n2 0 [] (W.alloc (.cells #[.slice s1 n1 t1,.slice s2 n2 t2,.slice none 0 0] 25)):=by
 have hB:=(Below.refl W.heap.size W).alloc (Nat.le_refl _) (.cells #[.slice s1 n1 t1,.slice s2 n2 t2,.slice none 0 0] 25)
 have hK9:=k3_below hK hB
 have hm:∀ b,(Rf (w.heap.size+2) W b∧True∧b<W.heap.size)→RQ (w.heap.size+2) W.heap.size (W.heap.size+1) (W.alloc (.cells #[.slice s1 n1 t1,.slice s2 n2 t2,.slice none 0 0] 25)) b:=fun b hb=>⟨hb.1.1,by omega,by omega,uf_below hb.1.2 hB hb.2.2⟩
 exact ⟨k3_lt hK,by omega,by rw [World.size_alloc];exact Nat.le_refl _,hK9.2.2.2.1,hK9.2.2.2.2.1,Own.new W _ _,dcsAt_stays (stays_below hB) hm hS.1,dcsAt_stays (stays_below hB) hm hS.2,World.ownsRow_nil _ _ _ _,rfl,hK9.2.2.2.2.2⟩
theorem cq_sets (hK:K3 w v0 v1 v2 W) (hO:Own W ob 25 #[.slice none 0 0,.slice none 0 0,.slice none 0 0]) (hob:w.heap.size+2≤ob) (hS:S6 x w s1 s2 (fun b=>b≠ob) W):Cq x w ob W.heap.size #[v0,v1,v2] s1 s2 none t1 t2 0 n1 n2 0 [] (((W.setCell ⟨ob,0,none⟩ (.slice s1 n1 t1)).setCell ⟨ob,1,none⟩ (.slice s2 n2 t2)).setCell ⟨ob,2,none⟩ (.slice none 0 0)):=by
 have hK9:=k3_set (k3_set (k3_set hK hob 0 (.slice s1 n1 t1)) hob 1 (.slice s2 n2 t2)) hob 2 (.slice none 0 0)
 have hst:∀ R:Nat→Prop,(∀ b,R b→b≠ob)→Stays R W (((W.setCell ⟨ob,0,none⟩ (.slice s1 n1 t1)).setCell ⟨ob,1,none⟩ (.slice s2 n2 t2)).setCell ⟨ob,2,none⟩ (.slice none 0 0)):=fun R hR b o v hb hv =>
  stays_setX (R:=R) _ 2 _ hR b o v hb (stays_setX (R:=R) _ 1 _ hR b o v hb (stays_setX (R:=R) _ 0 _ hR b o v hb hv))
 have hm:∀ b,(Rf (w.heap.size+2) W b∧b≠ob∧b<W.heap.size)→RQ (w.heap.size+2) ob W.heap.size (((W.setCell ⟨ob,0,none⟩ (.slice s1 n1 t1)).setCell ⟨ob,1,none⟩ (.slice s2 n2 t2)).setCell ⟨ob,2,none⟩ (.slice none 0 0)) b:=fun b hb=>⟨hb.1.1,hb.2.1,hb.2.2,uf_setCell (uf_setCell (uf_setCell hb.1.2 _ _) _ _) _ _⟩
 exact ⟨hob,hO.lt,by simp only [World.size_setCell];exact Nat.le_refl _,hK9.2.2.2.1,hK9.2.2.2.2.1,((hO.setJ 0 (.slice s1 n1 t1)).setJ 1 (.slice s2 n2 t2)).setJ 2 (.slice none 0 0),dcsAt_stays (hst _ (fun b hb=>hb.2.1)) hm hS.1,dcsAt_stays (hst _ (fun b hb=>hb.2.1)) hm hS.2,World.ownsRow_nil _ _ _ _,rfl,hK9.2.2.2.2.2⟩
theorem s6_of {X Y w5:World} {Q:Nat→Prop} (hX:w.heap.size+2≤X.heap.size) (h1:dcsAt (Rf X.heap.size w5) w5 x.shared s1) (hY:Below w5.heap.size w5 Y) (h2:dcsAt (Rf Y.heap.size W) W x.locks s2) (hW:Below Y.heap.size Y W) (hXW:X.heap.size≤w5.heap.size) (hQ1:∀ b,X.heap.size≤b→b<w5.heap.size→Q b) (hQ2:∀ b,Y.heap.size≤b→b<W.heap.size→Q b):S6 x w s1 s2 Q W:=by
 have hz:=hY.size
 have hz2:=hW.size
 have hB:Below w5.heap.size w5 W:=hY.trans (hW.mono hz)
 refine ⟨dcsAt_stays (stays_below hB) (fun b hb=>⟨⟨by have:=hb.1.1;omega,uf_below hb.1.2 hB hb.2⟩,hQ1 b hb.1.1 hb.2,by have:=hb.2;omega⟩) (dcsAt_in h1),dcsAt_mono (dcsAt_in h2) (fun b hb=>⟨⟨by have:=hb.1.1;omega,hb.1.2⟩,hQ2 b hb.1.1 hb.2,hb.2⟩)⟩
end
theorem r_Copy (x:Pg) (hbk:ctP x≤1048576) {v:Value} {w:World} (hv:pA w x v):Calls Tryz.prog 5 #[v] w (CpyR x w):=by
 obtain ⟨a1,c1,a2,c2,a3,c3,rfl,h1,h2,h3⟩:=hv
 have hk:=hbk
 unfold ctP at hk
 have l1:x.shared.length≤1048576:=by omega
 have l2:x.locks.length≤1048576:=by omega
 have l3:x.threads.length≤1048576:=Nat.le_trans (ctTs_len _) (by omega)
 have HE0:Hid (∀ W,Below w.heap.size w W→Calls Tryz.prog 15 #[.slice a1 x.shared.length c1] W (CyDP x.shared W)):=fun W hW=>r_copyDecls _ l1 a1 c1 W (dcsAt_below h1 hW)
 have HE1:Hid (∀ W,Below w.heap.size w W→Calls Tryz.prog 15 #[.slice a2 x.locks.length c2] W (CyDP x.locks W)):=fun W hW=>r_copyDecls _ l2 a2 c2 W (dcsAt_below h2 hW)
 have HBT:Hid (ctTs x.threads≤1048576):=by unfold Hid;omega
 have E3:=Lib.hid h3
 unfold CyDP at HE0 HE1
 clear h1 h2 h3 l1 l2 hbk hk
 obtain ⟨n1,hn1⟩:∃ n,n=x.shared.length:=⟨_,rfl⟩
 obtain ⟨n2,hn2⟩:∃ n,n=x.locks.length:=⟨_,rfl⟩
 obtain ⟨n3,hn3⟩:∃ n,n=x.threads.length:=⟨_,rfl⟩
 rw [← hn1] at HE0 ⊢
 rw [← hn2] at HE1 ⊢
 rw [← hn3] at l3 ⊢
 have HN:=Lib.hid (And.intro hn1 (And.intro hn2 hn3))
 clear hn1 hn2 hn3
 have HX:=Lib.hid (bx_new w 25 #[.slice a1 n1 c1,.slice a2 n2 c2,.slice a3 n3 c3] zPg)
 go_enter Tryz.func5,Tryz.ntmps5
 go_upto_region 1 with (fail)
 rw [show (#[.slice none 0 0,.slice none 0 0,.slice none 0 0]:Array Value)=zPg from rfl]
 obtain ⟨W0,hW0⟩:∃ W,W=(w.alloc (.cells #[.slice a1 n1 c1,.slice a2 n2 c2,.slice a3 n3 c3] 25)).alloc (.cells zPg 25):=⟨_,rfl⟩
 rw [← hW0] at HX ⊢
 clear hW0
 have HK0:Hid (W0.drew.cell? ⟨w.heap.size,0,none⟩=some (.slice a1 n1 c1)∧W0.drew.cell? ⟨w.heap.size,1,none⟩=some (.slice a2 n2 c2)∧W0.drew.cell? ⟨w.heap.size,2,none⟩=some (.slice a3 n3 c3)∧Own W0.drew w.heap.size 25 #[.slice a1 n1 c1,.slice a2 n2 c2,.slice a3 n3 c3]∧Own W0.drew (w.heap.size+1) 25 zPg∧Below w.heap.size w W0.drew):=k3_of (HX.out.1.drewN 1) (HX.out.2.1.drewN 1) (below_drewN HX.out.2.2 1)
 have HKA0:Hid ((W0.drew.alloc (.cells #[.slice none 0 0,.slice none 0 0,.slice none 0 0] 25)).cell? ⟨w.heap.size,0,none⟩=some (.slice a1 n1 c1)∧(W0.drew.alloc (.cells #[.slice none 0 0,.slice none 0 0,.slice none 0 0] 25)).cell? ⟨w.heap.size,1,none⟩=some (.slice a2 n2 c2)∧(W0.drew.alloc (.cells #[.slice none 0 0,.slice none 0 0,.slice none 0 0] 25)).cell? ⟨w.heap.size,2,none⟩=some (.slice a3 n3 c3)∧Own (W0.drew.alloc (.cells #[.slice none 0 0,.slice none 0 0,.slice none 0 0] 25)) w.heap.size 25 #[.slice a1 n1 c1,.slice a2 n2 c2,.slice a3 n3 c3]∧Own (W0.drew.alloc (.cells #[.slice none 0 0,.slice none 0 0,.slice none 0 0] 25)) (w.heap.size+1) 25 zPg∧Below w.heap.size w (W0.drew.alloc (.cells #[.slice none 0 0,.slice none 0 0,.slice none 0 0] 25))):=k3_alloc HK0.out _
 have HB0:Hid (Below w.heap.size w W0.drew):=HK0.out.2.2.2.2.2
 have HBA0:Hid (Below w.heap.size w (W0.drew.alloc (.cells #[.slice none 0 0,.slice none 0 0,.slice none 0 0] 25))):=HKA0.out.2.2.2.2.2
 have HKI:Hid (w.heap.size+2≤W0.heap.size):=k3_lt (W:=W0.drew) HK0.out
 go_region_held3 (fun W=>W.cell? ⟨w.heap.size,0,none⟩=some (.slice a1 n1 c1)∧W.cell? ⟨w.heap.size,1,none⟩=some (.slice a2 n2 c2)∧W.cell? ⟨w.heap.size,2,none⟩=some (.slice a3 n3 c3)∧Own W w.heap.size 25 #[.slice a1 n1 c1,.slice a2 n2 c2,.slice a3 n3 c3]∧Own W (w.heap.size+1) 25 zPg∧Below w.heap.size w W) (first | with_reducible exact HK5.out | with_reducible exact HKA5.out | with_reducible exact HK6.out | with_reducible exact HKA6.out | with_reducible exact HKF.out | with_reducible exact HKS.out | exact HK0.out | exact HKA0.out) (first
  | (go_at_call_of 15 (Value.slice a1 n1 c1)
     first
      | (refine (HE0.out _ HB0.out).mono ?_
         rintro e w5 ⟨s1,t1,rfl,hx1,hb1⟩
         have HK5:Hid (w5.cell? ⟨w.heap.size,0,none⟩=some (.slice a1 n1 c1)∧w5.cell? ⟨w.heap.size,1,none⟩=some (.slice a2 n2 c2)∧w5.cell? ⟨w.heap.size,2,none⟩=some (.slice a3 n3 c3)∧Own w5 w.heap.size 25 #[.slice a1 n1 c1,.slice a2 n2 c2,.slice a3 n3 c3]∧Own w5 (w.heap.size+1) 25 zPg∧Below w.heap.size w w5):=k3_below HK0.out hb1)
      | (refine (HE0.out _ HBA0.out).mono ?_
         rintro e w5 ⟨s1,t1,rfl,hx1,hb1⟩
         have HK5:Hid (w5.cell? ⟨w.heap.size,0,none⟩=some (.slice a1 n1 c1)∧w5.cell? ⟨w.heap.size,1,none⟩=some (.slice a2 n2 c2)∧w5.cell? ⟨w.heap.size,2,none⟩=some (.slice a3 n3 c3)∧Own w5 w.heap.size 25 #[.slice a1 n1 c1,.slice a2 n2 c2,.slice a3 n3 c3]∧Own w5 (w.heap.size+1) 25 zPg∧Below w.heap.size w w5):=k3_below HKA0.out hb1
         have A1:Hid (Own w5 W0.heap.size 25 #[.slice none 0 0,.slice none 0 0,.slice none 0 0]∧w.heap.size+2≤W0.heap.size):=⟨Own.below (W:=W0.drew.alloc (.cells #[.slice none 0 0,.slice none 0 0,.slice none 0 0] 25)) (Own.new W0.drew 25 #[.slice none 0 0,.slice none 0 0,.slice none 0 0]) hb1,HKI.out⟩)
     have HKA5:Hid ((w5.alloc (.cells #[.slice none 0 0,.slice none 0 0,.slice none 0 0] 25)).cell? ⟨w.heap.size,0,none⟩=some (.slice a1 n1 c1)∧(w5.alloc (.cells #[.slice none 0 0,.slice none 0 0,.slice none 0 0] 25)).cell? ⟨w.heap.size,1,none⟩=some (.slice a2 n2 c2)∧(w5.alloc (.cells #[.slice none 0 0,.slice none 0 0,.slice none 0 0] 25)).cell? ⟨w.heap.size,2,none⟩=some (.slice a3 n3 c3)∧Own (w5.alloc (.cells #[.slice none 0 0,.slice none 0 0,.slice none 0 0] 25)) w.heap.size 25 #[.slice a1 n1 c1,.slice a2 n2 c2,.slice a3 n3 c3]∧Own (w5.alloc (.cells #[.slice none 0 0,.slice none 0 0,.slice none 0 0] 25)) (w.heap.size+1) 25 zPg∧Below w.heap.size w (w5.alloc (.cells #[.slice none 0 0,.slice none 0 0,.slice none 0 0] 25))):=k3_alloc HK5.out _
     have HB5:Hid (Below w.heap.size w w5):=HK5.out.2.2.2.2.2
     have HBA5:Hid (Below w.heap.size w (w5.alloc (.cells #[.slice none 0 0,.slice none 0 0,.slice none 0 0] 25))):=HKA5.out.2.2.2.2.2)
  | (go_at_call_of 15 (Value.slice a2 n2 c2)
     first
      | (refine (HE1.out _ HBA5.out).mono ?_
         rintro e w6 ⟨s2,t2,rfl,hx2,hb2⟩
         have HK6:Hid (w6.cell? ⟨w.heap.size,0,none⟩=some (.slice a1 n1 c1)∧w6.cell? ⟨w.heap.size,1,none⟩=some (.slice a2 n2 c2)∧w6.cell? ⟨w.heap.size,2,none⟩=some (.slice a3 n3 c3)∧Own w6 w.heap.size 25 #[.slice a1 n1 c1,.slice a2 n2 c2,.slice a3 n3 c3]∧Own w6 (w.heap.size+1) 25 zPg∧Below w.heap.size w w6):=k3_below HKA5.out hb2
         have HA:Hid (Own w6 w5.heap.size 25 #[.slice none 0 0,.slice none 0 0,.slice none 0 0]∧w.heap.size+2≤w5.heap.size):=⟨(Own.new w5 25 #[.slice none 0 0,.slice none 0 0,.slice none 0 0]).below hb2,k3_lt HK5.out⟩
         have q0:w6.cell? ⟨w5.heap.size,0,none⟩=some (.slice none 0 0):=by rw [cell_of_row _ _ 0 _ _ _ HA.out.1];rfl
         have q1:w6.cell? ⟨w5.heap.size,1,none⟩=some (.slice none 0 0):=by rw [cell_of_row _ _ 1 _ _ _ HA.out.1];rfl
         have q2:w6.cell? ⟨w5.heap.size,2,none⟩=some (.slice none 0 0):=by rw [cell_of_row _ _ 2 _ _ _ HA.out.1];rfl
         have z0:w6.frozen? ⟨w5.heap.size,0,none⟩=false:=own_frozen HA.out.1 0
         have z1:w6.frozen? ⟨w5.heap.size,1,none⟩=false:=own_frozen HA.out.1 1
         have z2:w6.frozen? ⟨w5.heap.size,2,none⟩=false:=own_frozen HA.out.1 2
         have HKS:Hid ((((w6.setCell ⟨w5.heap.size,0,none⟩ (.slice s1 n1 t1)).setCell ⟨w5.heap.size,1,none⟩ (.slice s2 n2 t2)).setCell ⟨w5.heap.size,2,none⟩ (.slice none 0 0)).cell? ⟨w.heap.size,0,none⟩=some (.slice a1 n1 c1)∧(((w6.setCell ⟨w5.heap.size,0,none⟩ (.slice s1 n1 t1)).setCell ⟨w5.heap.size,1,none⟩ (.slice s2 n2 t2)).setCell ⟨w5.heap.size,2,none⟩ (.slice none 0 0)).cell? ⟨w.heap.size,1,none⟩=some (.slice a2 n2 c2)∧(((w6.setCell ⟨w5.heap.size,0,none⟩ (.slice s1 n1 t1)).setCell ⟨w5.heap.size,1,none⟩ (.slice s2 n2 t2)).setCell ⟨w5.heap.size,2,none⟩ (.slice none 0 0)).cell? ⟨w.heap.size,2,none⟩=some (.slice a3 n3 c3)∧Own (((w6.setCell ⟨w5.heap.size,0,none⟩ (.slice s1 n1 t1)).setCell ⟨w5.heap.size,1,none⟩ (.slice s2 n2 t2)).setCell ⟨w5.heap.size,2,none⟩ (.slice none 0 0)) w.heap.size 25 #[.slice a1 n1 c1,.slice a2 n2 c2,.slice a3 n3 c3]∧Own (((w6.setCell ⟨w5.heap.size,0,none⟩ (.slice s1 n1 t1)).setCell ⟨w5.heap.size,1,none⟩ (.slice s2 n2 t2)).setCell ⟨w5.heap.size,2,none⟩ (.slice none 0 0)) (w.heap.size+1) 25 zPg∧Below w.heap.size w (((w6.setCell ⟨w5.heap.size,0,none⟩ (.slice s1 n1 t1)).setCell ⟨w5.heap.size,1,none⟩ (.slice s2 n2 t2)).setCell ⟨w5.heap.size,2,none⟩ (.slice none 0 0))):=k3_set (k3_set (k3_set HK6.out HA.out.2 0 _) HA.out.2 1 _) HA.out.2 2 _
         have HSL:Hid (S6 x w s1 s2 (fun b=>b≠w5.heap.size) w6):=s6_of (X:=W0.drew) (Y:=w5.alloc (.cells #[.slice none 0 0,.slice none 0 0,.slice none 0 0] 25)) HKI.out hx1 ((Below.refl _ w5).alloc (Nat.le_refl _) _) hx2 hb2 hb1.size (fun b _ h=>by omega) (fun b h _=>by rw [World.size_alloc] at h;omega))
      | (refine (HE1.out _ HB5.out).mono ?_
         rintro e w6 ⟨s2,t2,rfl,hx2,hb2⟩
         have HK6:Hid (w6.cell? ⟨w.heap.size,0,none⟩=some (.slice a1 n1 c1)∧w6.cell? ⟨w.heap.size,1,none⟩=some (.slice a2 n2 c2)∧w6.cell? ⟨w.heap.size,2,none⟩=some (.slice a3 n3 c3)∧Own w6 w.heap.size 25 #[.slice a1 n1 c1,.slice a2 n2 c2,.slice a3 n3 c3]∧Own w6 (w.heap.size+1) 25 zPg∧Below w.heap.size w w6):=k3_below HK5.out hb2
         have HA:Hid (Own w6 W0.heap.size 25 #[.slice none 0 0,.slice none 0 0,.slice none 0 0]∧w.heap.size+2≤W0.heap.size):=⟨A1.out.1.below hb2,A1.out.2⟩
         have q0:w6.cell? ⟨W0.heap.size,0,none⟩=some (.slice none 0 0):=by rw [cell_of_row _ _ 0 _ _ _ HA.out.1];rfl
         have q1:w6.cell? ⟨W0.heap.size,1,none⟩=some (.slice none 0 0):=by rw [cell_of_row _ _ 1 _ _ _ HA.out.1];rfl
         have q2:w6.cell? ⟨W0.heap.size,2,none⟩=some (.slice none 0 0):=by rw [cell_of_row _ _ 2 _ _ _ HA.out.1];rfl
         have z0:w6.frozen? ⟨W0.heap.size,0,none⟩=false:=own_frozen HA.out.1 0
         have z1:w6.frozen? ⟨W0.heap.size,1,none⟩=false:=own_frozen HA.out.1 1
         have z2:w6.frozen? ⟨W0.heap.size,2,none⟩=false:=own_frozen HA.out.1 2
         have HKS:Hid ((((w6.setCell ⟨W0.heap.size,0,none⟩ (.slice s1 n1 t1)).setCell ⟨W0.heap.size,1,none⟩ (.slice s2 n2 t2)).setCell ⟨W0.heap.size,2,none⟩ (.slice none 0 0)).cell? ⟨w.heap.size,0,none⟩=some (.slice a1 n1 c1)∧(((w6.setCell ⟨W0.heap.size,0,none⟩ (.slice s1 n1 t1)).setCell ⟨W0.heap.size,1,none⟩ (.slice s2 n2 t2)).setCell ⟨W0.heap.size,2,none⟩ (.slice none 0 0)).cell? ⟨w.heap.size,1,none⟩=some (.slice a2 n2 c2)∧(((w6.setCell ⟨W0.heap.size,0,none⟩ (.slice s1 n1 t1)).setCell ⟨W0.heap.size,1,none⟩ (.slice s2 n2 t2)).setCell ⟨W0.heap.size,2,none⟩ (.slice none 0 0)).cell? ⟨w.heap.size,2,none⟩=some (.slice a3 n3 c3)∧Own (((w6.setCell ⟨W0.heap.size,0,none⟩ (.slice s1 n1 t1)).setCell ⟨W0.heap.size,1,none⟩ (.slice s2 n2 t2)).setCell ⟨W0.heap.size,2,none⟩ (.slice none 0 0)) w.heap.size 25 #[.slice a1 n1 c1,.slice a2 n2 c2,.slice a3 n3 c3]∧Own (((w6.setCell ⟨W0.heap.size,0,none⟩ (.slice s1 n1 t1)).setCell ⟨W0.heap.size,1,none⟩ (.slice s2 n2 t2)).setCell ⟨W0.heap.size,2,none⟩ (.slice none 0 0)) (w.heap.size+1) 25 zPg∧Below w.heap.size w (((w6.setCell ⟨W0.heap.size,0,none⟩ (.slice s1 n1 t1)).setCell ⟨W0.heap.size,1,none⟩ (.slice s2 n2 t2)).setCell ⟨W0.heap.size,2,none⟩ (.slice none 0 0))):=k3_set (k3_set (k3_set HK6.out HA.out.2 0 _) HA.out.2 1 _) HA.out.2 2 _
         have HSL:Hid (S6 x w s1 s2 (fun b=>b≠W0.heap.size) w6):=s6_of (X:=W0.drew.alloc (.cells #[.slice none 0 0,.slice none 0 0,.slice none 0 0] 25)) (Y:=w5) (by rw [World.size_alloc];exact Nat.le_succ_of_le HKI.out) hx1 (Below.refl _ w5) hx2 hb2 hb1.size (fun b h _=>by rw [World.size_alloc] at h;have h:W0.heap.size+1≤b:=h;omega) (fun b h _=>by have h9:=hb1.size;rw [World.size_alloc] at h9;have h9:W0.heap.size+1≤w5.heap.size:=h9;omega))
      | (refine (HE1.out _ HB5.out).mono ?_
         rintro e w6 ⟨s2,t2,rfl,hx2,hb2⟩
         have HK6:Hid (w6.cell? ⟨w.heap.size,0,none⟩=some (.slice a1 n1 c1)∧w6.cell? ⟨w.heap.size,1,none⟩=some (.slice a2 n2 c2)∧w6.cell? ⟨w.heap.size,2,none⟩=some (.slice a3 n3 c3)∧Own w6 w.heap.size 25 #[.slice a1 n1 c1,.slice a2 n2 c2,.slice a3 n3 c3]∧Own w6 (w.heap.size+1) 25 zPg∧Below w.heap.size w w6):=k3_below HK5.out hb2
         have HSL:Hid (S6 x w s1 s2 (fun _=>True) w6):=s6_of (X:=W0.drew) (Y:=w5) HKI.out hx1 (Below.refl _ w5) hx2 hb2 hb1.size (fun _ _ _=>trivial) (fun _ _ _=>trivial))
     have HKA6:Hid ((w6.alloc (.cells #[.slice none 0 0,.slice none 0 0,.slice none 0 0] 25)).cell? ⟨w.heap.size,0,none⟩=some (.slice a1 n1 c1)∧(w6.alloc (.cells #[.slice none 0 0,.slice none 0 0,.slice none 0 0] 25)).cell? ⟨w.heap.size,1,none⟩=some (.slice a2 n2 c2)∧(w6.alloc (.cells #[.slice none 0 0,.slice none 0 0,.slice none 0 0] 25)).cell? ⟨w.heap.size,2,none⟩=some (.slice a3 n3 c3)∧Own (w6.alloc (.cells #[.slice none 0 0,.slice none 0 0,.slice none 0 0] 25)) w.heap.size 25 #[.slice a1 n1 c1,.slice a2 n2 c2,.slice a3 n3 c3]∧Own (w6.alloc (.cells #[.slice none 0 0,.slice none 0 0,.slice none 0 0] 25)) (w.heap.size+1) 25 zPg∧Below w.heap.size w (w6.alloc (.cells #[.slice none 0 0,.slice none 0 0,.slice none 0 0] 25))):=k3_alloc HK6.out _
     have HKF:Hid ((w6.alloc (.cells #[.slice s1 n1 t1,.slice s2 n2 t2,.slice none 0 0] 25)).cell? ⟨w.heap.size,0,none⟩=some (.slice a1 n1 c1)∧(w6.alloc (.cells #[.slice s1 n1 t1,.slice s2 n2 t2,.slice none 0 0] 25)).cell? ⟨w.heap.size,1,none⟩=some (.slice a2 n2 c2)∧(w6.alloc (.cells #[.slice s1 n1 t1,.slice s2 n2 t2,.slice none 0 0] 25)).cell? ⟨w.heap.size,2,none⟩=some (.slice a3 n3 c3)∧Own (w6.alloc (.cells #[.slice s1 n1 t1,.slice s2 n2 t2,.slice none 0 0] 25)) w.heap.size 25 #[.slice a1 n1 c1,.slice a2 n2 c2,.slice a3 n3 c3]∧Own (w6.alloc (.cells #[.slice s1 n1 t1,.slice s2 n2 t2,.slice none 0 0] 25)) (w.heap.size+1) 25 zPg∧Below w.heap.size w (w6.alloc (.cells #[.slice s1 n1 t1,.slice s2 n2 t2,.slice none 0 0] 25))):=k3_alloc HK6.out _))
 all_goals
  first
   | (have HC0 := Lib.hid (cq_sets (ob := w5.heap.size) (t1 := t1) (t2 := t2) (n1 := n1) (n2 := n2) HK6.out HA.out.1 HA.out.2 HSL.out)
      generalize ((w6.setCell ⟨w5.heap.size,0,none⟩ (.slice s1 n1 t1)).setCell ⟨w5.heap.size,1,none⟩ (.slice s2 n2 t2)).setCell ⟨w5.heap.size,2,none⟩ (.slice none 0 0)=W7 at HC0 ⊢
      generalize w5.heap.size=ob at HC0 ⊢)
   | (have HC0 := Lib.hid (cq_sets (ob := W0.heap.size) (t1 := t1) (t2 := t2) (n1 := n1) (n2 := n2) HK6.out HA.out.1 HA.out.2 HSL.out)
      generalize ((w6.setCell ⟨W0.heap.size,0,none⟩ (.slice s1 n1 t1)).setCell ⟨W0.heap.size,1,none⟩ (.slice s2 n2 t2)).setCell ⟨W0.heap.size,2,none⟩ (.slice none 0 0)=W7 at HC0 ⊢
      generalize W0.heap.size=ob at HC0 ⊢)
   | (have HC0 := Lib.hid (cq_alloc (t1 := t1) (t2 := t2) (n1 := n1) (n2 := n2) HK6.out HSL.out)
      generalize w6.alloc (.cells #[.slice s1 n1 t1,.slice s2 n2 t2,.slice none 0 0] 25)=W7 at HC0 ⊢
      generalize w6.heap.size+1=lim at HC0 ⊢
      generalize w6.heap.size=ob at HC0 ⊢)
  have HC0:Hid (∃ lim,Cq x w ob lim #[.slice a1 n1 c1,.slice a2 n2 c2,.slice a3 n3 c3] s1 s2 none t1 t2 0 n1 n2 0 [] W7):=⟨_,HC0.out⟩
  obtain ⟨lim,hlim⟩:=HC0.out
  have HC0:=Lib.hid hlim
  clear hlim hx1 hx2 hb1 hb2 HK0 HKA0 HB0 HBA0 HKI HK5 HKA5 HB5 HBA5 HK6 HKA6 HKF HSL HX HE0 HE1
  have c7:W7.cell? ⟨w.heap.size,2,none⟩=some (.slice a3 n3 c3):=by rw [cell_of_row _ _ 2 _ _ _ HC0.out.box];rfl
  go_wp2_with fail
  clear c7
  go_loopg [16] (n3+1) (fun m' u X=>∃ (i:Nat) (oa:Option Addr) (cap:Nat) (xs:List Value),u=.int .i64 (i:Int)∧i≤n3∧m'=n3-i+1∧Cq x w ob lim #[.slice a1 n1 c1,.slice a2 n2 c2,.slice a3 n3 c3] s1 s2 oa t1 t2 cap n1 n2 i xs X)
  case atStart=>exact ⟨0,none,0,[],rfl,Nat.zero_le _,by omega,HC0.out⟩
  case round =>
   obtain ⟨i,oa,cap,xs,rfl,hi,hm,hC⟩:=hrel
   have HM:=Lib.hid hm
   have HC:=Lib.hid hC
   clear hm hC HC0
   by_cases hin:i<n3
   · have il : i < x.threads.length := by have := HN.out; omega
     have g1:x.threads[i]? = some x.threads[i]:=List.getElem?_eq_getElem il
     have hmem:x.threads[i]∈x.threads:=List.getElem_mem il
     have HTK:Hid (x.threads.take (i+1)=x.threads.take i++[x.threads[i]]):=List.take_succ_eq_append_getElem il
     generalize x.threads[i]=y at g1 hmem HTK
     rcases E3.out with e | ⟨g,q,e,hg,e1⟩
     · rw [show x.threads=[] by simpa using e] at il;simp at il
     obtain rfl:a3=some ⟨g,q,none⟩:=e
     have x1:=thsIn_get i y e1 g1
     have hby:ctT y≤1048576:=Nat.le_trans (ctTs_mem hmem) HBT.out
     have hin':(i:Int)<(n3:Int):=by omega
     obtain ⟨nm,lo,bo,ps⟩:=y
     obtain ⟨b0,⟨ka,kc,b1,w1⟩,⟨ma,mc,b2,w2⟩,b3⟩:=x1
     simp only [ctT] at hby
     simp only at b0 b1 w1 b2 w2 b3
     have hl1:lo.length≤1048576:=by omega
     obtain ⟨nk,hnk⟩:∃ z,z=lo.length:=⟨_,rfl⟩
     obtain ⟨mk,hmk⟩:∃ z,z=bo.length:=⟨_,rfl⟩
     have HD:Hid (∀ X,Below w.heap.size w X→Calls Tryz.prog 15 #[.slice ka nk kc] X fun e w'=>∃ s t,e=.returned (.slice s nk t)∧dcsAt (Rf X.heap.size w') w' lo s∧Below X.heap.size X w'):=fun X hX=>by
      rw [hnk];exact r_copyDecls lo hl1 ka kc X (dcsAt_below w1 hX)
     have HS:Hid (∀ X,Below w.heap.size w X→Calls Tryz.prog 16 #[.slice ma mk mc] X fun e w'=>∃ s t,e=.returned (.slice s mk t)∧stsAt (Rf X.heap.size w') w' bo s∧Below X.heap.size X w'):=fun X hX=>by
      rw [hmk];exact r_copyStmts bo (by omega) ma mc X (stsAt_below w2 hX)
     rw [← hnk] at b1
     rw [← hmk] at b2
     have HL1:=Lib.hid hnk
     have HL2:=Lib.hid hmk
     have hBX:=HC.out.bel
     have d0:wr.cell? ⟨g,q+i*4,none⟩=some (.string nm):=by rw [hBX.cell (p:=⟨g,q+i*4,none⟩) (cell_lt b0)];exact b0
     have d1:wr.cell? ⟨g,q+i*4+1,none⟩=some (.slice ka nk kc):=by rw [hBX.cell (p:=⟨g,q+i*4+1,none⟩) (cell_lt b1)];exact b1
     have d2:wr.cell? ⟨g,q+i*4+2,none⟩=some (.slice ma mk mc):=by rw [hBX.cell (p:=⟨g,q+i*4+2,none⟩) (cell_lt b2)];exact b2
     have d3:wr.cell? ⟨g,q+i*4+3,none⟩=some (.int .i64 ps):=by rw [hBX.cell (p:=⟨g,q+i*4+3,none⟩) (cell_lt b3)];exact b3
     have hlen:i<1048576:=by omega
     clear b0 b1 b2 b3 w1 w2 hnk hmk hby hmem g1 il e1 hg hl1
     have O0:=Own.new wr 39 #[.string nm,.slice ka nk kc,.slice ma mk mc,.int .i64 ps]
     have B0:=(Below.refl wr.heap.size wr).alloc (Nat.le_refl _) (.cells #[.string nm,.slice ka nk kc,.slice ma mk mc,.int .i64 ps] 39)
     have hz0:Hid ((wr.alloc (.cells #[.string nm,.slice ka nk kc,.slice ma mk mc,.int .i64 ps] 39)).heap.size=wr.heap.size+1):=World.size_alloc _ _
     have HB0:Hid (Below w.heap.size w (wr.alloc (.cells #[.string nm,.slice ka nk kc,.slice ma mk mc,.int .i64 ps] 39))):=hBX.trans (B0.mono hBX.size)
     clear hBX
     go_wp2_with fail
     go_at_call 15
     refine (HD.out _ HB0.out).mono ?_
     rintro e w0 ⟨u1,v1,rfl,hx1,hb⟩
     have P0:=O0.below hb
     have D0:Below wr.heap.size wr w0:=B0.trans (hb.mono (by have:=B0.size;omega))
     have e0:w0.setCell ⟨wr.heap.size,1,none⟩ (.slice u1 nk v1)=w0.setRow wr.heap.size #[.string nm,.slice u1 nk v1,.slice ma mk mc,.int .i64 ps]:=setCell_row P0 1 _
     have k0:w0.cell? ⟨wr.heap.size,1,none⟩=some (.slice ka nk kc):=by rw [cell_of_row _ _ 1 _ _ _ P0];rfl
     have f0:=own_frozen P0 1
     have O1:=P0.row #[.string nm,.slice u1 nk v1,.slice ma mk mc,.int .i64 ps]
     have B1:=Below.of_row D0 (g:=wr.heap.size) (Nat.le_refl _) #[.string nm,.slice u1 nk v1,.slice ma mk mc,.int .i64 ps]
     have hx1:=dcsAt_rf (B':=wr.heap.size+1) hx1 (chg_setRow w0 #[.string nm,.slice u1 nk v1,.slice ma mk mc,.int .i64 ps] (g:=wr.heap.size) (by have:=hz0.out;omega)) (by have:=hz0.out;omega)
     obtain ⟨X1,hX1⟩:∃ X,X=w0.setRow wr.heap.size #[.string nm,.slice u1 nk v1,.slice ma mk mc,.int .i64 ps]:=⟨_,rfl⟩
     rw [← hX1] at e0 O1 B1 hx1
     have HB1:Hid (Below w.heap.size w X1):=HC.out.bel.trans (B1.mono HC.out.bel.size)
     have r1:X1.cell? ⟨wr.heap.size,2,none⟩=some (.slice ma mk mc):=by rw [cell_of_row _ _ 2 _ _ _ O1];rfl
     clear hX1 hb O0 P0 D0 B0
     go_wp2_with fail
     go_at_call 16
     refine (HS.out _ HB1.out).mono ?_
     rintro e w1 ⟨u2,v2,rfl,hx2,hb⟩
     have P1:=O1.below hb
     have hz1:=O1.lt
     have D1:Below wr.heap.size wr w1:=B1.trans (hb.mono B1.size)
     have e1:w1.setCell ⟨wr.heap.size,2,none⟩ (.slice u2 mk v2)=w1.setRow wr.heap.size #[.string nm,.slice u1 nk v1,.slice u2 mk v2,.int .i64 ps]:=setCell_row P1 2 _
     have k1:w1.cell? ⟨wr.heap.size,2,none⟩=some (.slice ma mk mc):=by rw [cell_of_row _ _ 2 _ _ _ P1];rfl
     have f1:=own_frozen P1 2
     have O2:=P1.row #[.string nm,.slice u1 nk v1,.slice u2 mk v2,.int .i64 ps]
     have B2:=Below.of_row D1 (g:=wr.heap.size) (Nat.le_refl _) #[.string nm,.slice u1 nk v1,.slice u2 mk v2,.int .i64 ps]
     have hx1:=dcsAt_rf (B':=wr.heap.size+1) (dcsAt_rf (B':=wr.heap.size+1) hx1 (chg_below hb) (Nat.le_refl _)) (chg_setRow w1 #[.string nm,.slice u1 nk v1,.slice u2 mk v2,.int .i64 ps] (g:=wr.heap.size) (by omega)) (Nat.le_refl _)
     have hx2:=stsAt_rf (B':=wr.heap.size+1) hx2 (chg_setRow w1 #[.string nm,.slice u1 nk v1,.slice u2 mk v2,.int .i64 ps] (g:=wr.heap.size) (by omega)) (by omega)
     obtain ⟨X2,hX2⟩:∃ X,X=w1.setRow wr.heap.size #[.string nm,.slice u1 nk v1,.slice u2 mk v2,.int .i64 ps]:=⟨_,rfl⟩
     rw [← hX2] at e1 O2 B2 hx1 hx2
     have HC2:=Lib.hid (HC.out.below B2)
     have hob:ob<wr.heap.size:=HC.out.own.lt
     have hlt:=HC.out.row.lt
     have hq:∀ b,Rf (wr.heap.size+1) X2 b∧b<X2.heap.size→RR lim (.slice oa i cap) X2 b:=fun b hb=>⟨by have:=hb.1.1;have:=HC.out.hi;omega,hb.1.2,fun e=>by have:=(hlt b e).2;have:=hb.1.1;omega,hb.2⟩
     have NV:thV (RR lim (.slice oa i cap) X2) X2 ⟨nm,lo,bo,ps⟩ [.string nm,.slice u1 nk v1,.slice u2 mk v2,.int .i64 ps] :=
      ⟨u1,v1,u2,v2,by rw [HL1.out,HL2.out];rfl,dcsAt_mono (dcsAt_in hx1) hq,stsAt_mono (stsAt_in hx2) hq⟩
     have SVN:=thsV_snoc HC2.out.th NV
     rw [← HTK.out] at SVN
     have BA:=(Below.refl X2.heap.size X2).alloc (Nat.le_refl _) (.cells #[.string nm,.slice u1 nk v1,.slice u2 mk v2,.int .i64 ps] 39)
     have SVN:=Lib.hid (thsV_stays (stays_below BA) (fun b hb=>rr_below BA hb) SVN)
     have HC3:=Lib.hid (HC2.out.below BA)
     have row4:=HC3.out.row
     obtain ⟨i0,hi0',hi0,hi1,hi2⟩:=info_parts infoTh
     have N4:=Own.new X2 39 #[.string nm,.slice u1 nk v1,.slice u2 mk v2,.int .i64 ps]
     have HNEWS:Hid (∀ jj u,[Value.string nm,.slice u1 nk v1,.slice u2 mk v2,.int .i64 ps][jj]? = some u→(X2.alloc (.cells #[.string nm,.slice u1 nk v1,.slice u2 mk v2,.int .i64 ps] 39)).cell? ((⟨X2.heap.size,0,none⟩:Addr).add jj)=some u):=World.news_of_block N4
     have HSZ:=Lib.hid (World.size_alloc X2 (.cells #[.string nm,.slice u1 nk v1,.slice u2 mk v2,.int .i64 ps] 39))
     have hobX:ob<X2.heap.size:=HC2.out.own.lt
     have co:X2.cell? ⟨ob,2,none⟩=some (.slice oa i cap):=by rw [cell_of_row _ _ 2 _ _ _ HC2.out.own];rfl
     clear hX2 hb O1 P1 D1 B1 B2 hx1 hx2 NV hq N4 BA hlt r1 k0 f0 e0
     go_wp2_with (first | (refine ld rowTh rfl rfl rfl O2 rfl ?_) | (at_builtin;refine wpList_append_lies _ rfl _ _ 23 rfl lim 39 i0 _ 4 72 Tryz.underlying23 hi0' hi0 hi1 hi2 rfl (by decide) _ _ _ rfl row4 ⟨X2.heap.size,0,none⟩ 1 1 [.string nm,.slice u1 nk v1,.slice u2 mk v2,.int .i64 ps] rfl rfl HNEWS.out (by simp [Value.oneCell']) (by decide) (by simp only [maxLen];omega) (by omega) HC3.out.hi _ rfl ?_;intro g2 cap2 w9 hown' hgrow hlies hglt;have ROW4:=Lib.hid hown';have GR:=Lib.hid hgrow;have LIES:=Lib.hid hlies;have o9:Own w9 ob 25 #[.slice s1 n1 t1,.slice s2 n2 t2,.slice oa i cap]:=own_grown HC3.out.own hgrow (row_apart row4 HC3.out.own rfl);have co9:w9.cell? ⟨ob,2,none⟩=some (.slice oa i cap):=by { rw [cell_of_row _ _ 2 _ _ _ o9];rfl };have fo9:=own_frozen o9 2;clear hown' hgrow hlies))
     go_wp2_with fail
     go_roundg (n3-(i+1)+1)
     case measure=>have:=HM.out;omega
     case rel=>exact ⟨i+1,_,_,_,rfl,by omega,by omega,cq_next HC3.out ROW4.out GR.out LIES.out SVN.out⟩
   · have : i = n3 := by omega
     subst this
     have hoo:=HC.out.own
     have hrr:=HC.out.res
     have HFT:Hid (thsAt (Rf lim wr) wr x.threads oa):=by
      have hT:x.threads.take i=x.threads:=List.take_of_length_le (by have:=HN.out;omega)
      have hsv:=HC.out.th
      rw [hT] at hsv
      by_cases h0:i=0
      · have : x.threads = [] := List.eq_nil_of_length_eq_zero (by have := HN.out; omega)
        rw [this];exact .inl rfl
      · have hr9 := HC.out.row
        rcases hr9.2 with ⟨_,h9⟩ | ⟨g,cap9,cur,he,hbg,hg,_⟩
        · exact absurd h9 h0
        · have e9 : oa = some ⟨g, 0, none⟩ := by injection he
          subst e9
          exact .inr ⟨g,0,rfl,⟨hbg,fun o=>hr9.frozenAt o⟩,thsIn_of (thsV_stays (R':=Rf lim wr) (Stays.refl _ _) (fun b hb=>⟨hb.1,hb.2.1⟩) hsv) (row_cells hr9 rfl)⟩
     go_wp2_with (first | (refine ld rowPg rfl rfl rfl hoo rfl ?_) | (refine st rowPg rfl rfl hrr rfl rfl (by rfl) (by rfl) (by kernel_rfl) ?_))
     refine p_ret rowPg rfl (hrr.row #[.slice s1 n1 t1,.slice s2 n2 t2,.slice oa i cap]) rfl rfl rfl ?_
     have hge:=HC.out.ge
     have hlo:=HC.out.lo
     refine ⟨s1,t1,s2,t2,oa,cap,by rw [← HN.out.1,← HN.out.2.1,← HN.out.2.2],?_,?_,?_,Below.of_row HC.out.bel (by omega) _⟩
     · exact dcsAt_rf (B:=w.heap.size+2) (dcsAt_stays (Stays.refl _ _) (fun b hb=>⟨hb.1,hb.2.2.2⟩) HC.out.sh) (chg_setRow wr #[.slice s1 n1 t1,.slice s2 n2 t2,.slice oa i cap] (by omega)) (by omega)
     · exact dcsAt_rf (B:=w.heap.size+2) (dcsAt_stays (Stays.refl _ _) (fun b hb=>⟨hb.1,hb.2.2.2⟩) HC.out.lk) (chg_setRow wr #[.slice s1 n1 t1,.slice s2 n2 t2,.slice oa i cap] (by omega)) (by omega)
     · exact thsAt_rf HFT.out (chg_setRow wr #[.slice s1 n1 t1,.slice s2 n2 t2,.slice oa i cap] (by omega)) (by omega)
end Go.Proofs.YtieeaehabjjaoaaGreatDoor

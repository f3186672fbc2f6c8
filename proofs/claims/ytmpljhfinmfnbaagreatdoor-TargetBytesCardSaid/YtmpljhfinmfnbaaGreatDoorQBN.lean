/- The proof, part 40: texts that belong together, in one. -/
import Derived.Test.YtmpljhfinmfnbaaGreatDoorQBK
import Derived.Test.YtmpljhfinmfnbaaGreatDoorQBL
import Derived.Test.YtmpljhfinmfnbaaGreatDoorQBM
import Derived.Deep.CutBlock
import Derived.Deep.DeepCutAuto
set_option maxRecDepth 100000
set_option maxHeartbeats 20000000
namespace Go.Proofs.YtmpljhfinmfnbaaGreatDoor
open Go.RowKit
set_option linter.unusedVariables false
set_option maxRecDepth 100000
structure Ds (w:World) (p q:Nat) (L:List UInt8) (a:Option Addr) (c:Nat) (s:Bst) (ro:Array Value) (X:World):Prop where
 rd:Rst p L a c s X
 zx:Own X w.heap.size 25 #[.slice none 0 0,.int .i64 0,.int .i64 0,.int .i64 0,.slice none 0 0]
 ox:Own X q 25 ro
 bel:Below w.heap.size w X
 wp:w.heap.size<p
 pq:p<q
theorem row_rds {X Y:World} {p:Nat} {L:List UInt8} {a:Option Addr} {c:Nat} {t:Bst} {B:Nat} {T:TypeId} {n:Nat} {v:Value} {m:Nat} {xs:List Value} (h:X.ownsRow B T n v m xs) (hp:p<B) (k:Rds X p L a c t Y):Y.ownsRow B T n v m xs :=
 row_stays h fun g h1 _ h3=>by rw [k.keep.block g _ (Array.getElem?_eq_getElem h3) (by omega),Array.getElem?_eq_getElem h3]
section
variable {w X Y:World} {p q:Nat} {L:List UInt8} {a:Option Addr} {c:Nat} {s t:Bst} {ro:Array Value}
theorem Rst.below (h:Rst p L a c s X) (hb:Below X.heap.size X Y):Rst p L a c s Y:=by
 obtain ⟨m,d,e,h⟩:=h
 exact ⟨m,d,e,h.below hb⟩
theorem Rst.keep (h:Rst p L a c s X) (hb:∀ k,k≤p→Y.heap[k]? = X.heap[k]?):Rst p L a c s Y:=by
 obtain ⟨m,d,e,h⟩:=h
 exact ⟨m,d,e,h.keep hb⟩
theorem Ds.call (h:Ds w p q L a c s ro X) (k:Rds X p L a c t Y):Ds w p q L a c t ro Y :=
 ⟨k.st,k.other h.zx (by have:=h.wp;omega),k.other h.ox (by have:=h.pq;omega),h.bel.trans ((k.bel (Nat.le_of_lt h.rd.lt)).mono (Nat.le_of_lt h.wp)),h.wp,h.pq⟩
theorem Ds.below (h:Ds w p q L a c s ro X) (hb:Below X.heap.size X Y):Ds w p q L a c s ro Y :=
 ⟨h.rd.below hb,h.zx.below hb,h.ox.below hb,h.bel.trans (hb.mono h.bel.size),h.wp,h.pq⟩
theorem Ds.put (h:Ds w p q L a c s ro X) (i:Nat) (v:Value):Ds w p q L a c s (ro.setIfInBounds i v) (X.setCell ⟨q,i,none⟩ v):=by
 have hw:=h.wp
 have hq:=h.pq
 have hb:∀ k,k≠q→(X.setCell ⟨q,i,none⟩ v).heap[k]? = X.heap[k]?:=fun k hk=>Below.heap_setCell X ⟨q,i,none⟩ v k hk
 exact ⟨h.rd.keep fun k hk=>hb k (by omega),(hb _ (by omega)).trans h.zx,heap_setCell_same X q i _ _ v h.ox,h.bel.setCell (p:=⟨q,i,none⟩) (by show w.heap.size≤q;omega) v,hw,hq⟩
theorem Ds.grown (h:Ds w p q L a c s ro X) {row:Option Nat} (hg:X.grownBy Y row) (hr:∀ k,row=some k→q<k):Ds w p q L a c s ro Y:=by
 have hw:=h.wp
 have hq:=h.pq
 have hql:=h.ox.lt
 have hb:∀ k,k≤q→Y.heap[k]? = X.heap[k]?:=fun k hk=>hg.block k (by omega) (fun e=>by have:=hr k e.symm;omega)
 exact ⟨h.rd.keep fun k hk=>hb k (by omega),(hb _ (by omega)).trans h.zx,(hb q (Nat.le_refl _)).trans h.ox,h.bel.grown hg h.bel.size (fun k hk=>by have:=hr k hk;omega),hw,hq⟩
theorem Ds.row (h:Ds w p q L a c s ro X) (r2:Array Value):Ds w p q L a c s r2 (X.setRow q r2):=by
 have hw:=h.wp
 have hq:=h.pq
 have hb:∀ k,k≠q→(X.setRow q r2).heap[k]? = X.heap[k]?:=fun k hk=>setRow_other r2 hk
 exact ⟨h.rd.keep fun k hk=>hb k (by omega),(hb _ (by omega)).trans h.zx,h.ox.row r2,Below.of_row h.bel (by omega) r2,hw,hq⟩
theorem Ds.at (h:Ds w p q L a c s ro X):∃ m d,s=(L.drop m,d)∧m≤L.length∧X.cell? ⟨p,0,none⟩=some (.slice a L.length c)∧X.cell? ⟨p,1,none⟩=some (.int .i64 (m:Int))∧X.cell? ⟨p,2,none⟩=some (.bool d)∧X.frozen? ⟨p,1,none⟩=false∧X.frozen? ⟨p,2,none⟩=false:=by
 obtain ⟨m,d,e,h⟩:=h.rd
 exact ⟨m,d,e,h.le,row_cellsO h.own 0 _ rfl,row_cellsO h.own 1 _ rfl,row_cellsO h.own 2 _ rfl,own_frozen h.own 1,own_frozen h.own 2⟩
end
structure Cn (w:World) (p g:Nat) (L:List UInt8) (a:Option Addr) (c:Nat) (s:Bst) (rc:Array Value) (X:World):Prop where
 rds:Rds w p L a c s X
 cx:Own X g 70 rc
 wg:w.heap.size≤g
 pw:p<w.heap.size
section
variable {w X Y:World} {p g:Nat} {L:List UInt8} {a:Option Addr} {c:Nat} {s t:Bst} {rc:Array Value}
theorem Cn.call (h:Cn w p g L a c s rc X) (k:Rds X p L a c t Y):Cn w p g L a c t rc Y :=
 ⟨h.rds.trans k,k.other h.cx (by have:=h.wg;have:=h.pw;omega),h.wg,h.pw⟩
theorem Cn.below (h:Cn w p g L a c s rc X) (hb:Below X.heap.size X Y):Cn w p g L a c s rc Y:=⟨h.rds.below hb,h.cx.below hb,h.wg,h.pw⟩
theorem Rds.past (h:Rds w p L a c s X) (hp:p<w.heap.size) (hsz:X.heap.size≤Y.heap.size) (ho:Y.os=X.os) (ht:Y.tape=X.tape) (hu:Y.output=X.output) (hb:∀ k,k<w.heap.size→Y.heap[k]? = X.heap[k]?):Rds w p L a c s Y:=by
 obtain ⟨m,d,e,h⟩:=h
 refine ⟨m,d,e,h.st.keep fun k hk=>hb k (by omega),?_⟩
 exact ⟨ho.trans h.keep.os,ht.trans h.keep.tape,hu.trans h.keep.output,Nat.le_trans h.keep.size hsz,fun k o hk hs=>(hb k (Array.getElem?_eq_some_iff.1 hk).1).trans (h.keep.block k o hk hs)⟩
theorem Cn.put (h:Cn w p g L a c s rc X) (i:Nat) (v:Value):Cn w p g L a c s (rc.setIfInBounds i v) (X.setCell ⟨g,i,none⟩ v):=by
 have hw:=h.wg
 have hb:∀ k,k≠g→(X.setCell ⟨g,i,none⟩ v).heap[k]? = X.heap[k]?:=fun k hk=>Below.heap_setCell X ⟨g,i,none⟩ v k hk
 exact ⟨h.rds.past h.pw (by simp) rfl rfl rfl fun k hk=>hb k (by omega),heap_setCell_same X g i _ _ v h.cx,h.wg,h.pw⟩
theorem Cn.grown (h:Cn w p g L a c s rc X) {row:Option Nat} (hg:X.grownBy Y row) (hr:∀ k,row=some k→g<k):Cn w p g L a c s rc Y:=by
 have hw:=h.wg
 have hl:=h.cx.lt
 have hb:∀ k,k≤g→Y.heap[k]? = X.heap[k]?:=fun k hk=>hg.block k (by omega) (fun e=>by have:=hr k e.symm;omega)
 exact ⟨h.rds.past h.pw hg.size hg.os hg.tape hg.output fun k hk=>hb k (by omega),(hb g (Nat.le_refl _)).trans h.cx,h.wg,h.pw⟩
theorem Cn.at (h:Cn w p g L a c s rc X):∃ m d,s=(L.drop m,d)∧m≤L.length∧X.cell? ⟨p,0,none⟩=some (.slice a L.length c)∧X.cell? ⟨p,1,none⟩=some (.int .i64 (m:Int))∧X.cell? ⟨p,2,none⟩=some (.bool d)∧X.frozen? ⟨p,1,none⟩=false∧X.frozen? ⟨p,2,none⟩=false∧BsA p X L a:=by
 obtain ⟨m,d,e,h⟩:=h.rds.st
 exact ⟨m,d,e,h.le,row_cellsO h.own 0 _ rfl,row_cellsO h.own 1 _ rfl,row_cellsO h.own 2 _ rfl,own_frozen h.own 1,own_frozen h.own 2,h.bys⟩
theorem Cn.bad (h:Cn w p g L a c s rc X):Cn w p g L a c (s.1,true) rc (X.setCell ⟨p,2,none⟩ (.bool true)):=by
 have hw:=h.wg
 have hp:=h.pw
 exact ⟨h.rds.bad,(Below.heap_setCell X ⟨p,2,none⟩ _ g (by show g≠p;omega)).trans h.cx,h.wg,h.pw⟩
theorem Cn.go (h:Cn w p g L a c s rc X) {m n:Nat} {d:Bool} (e:s=(L.drop m,d)) (hX:X.cell? ⟨p,1,none⟩=some (.int .i64 (m:Int))) (hm:m≤L.length) (hn:m+n≤L.length):Cn w p g L a c (L.drop (m+n),d) rc (X.setCell ⟨p,1,none⟩ (.int .i64 ((m+n:Nat):Int))):=by
 have hw:=h.wg
 have hp:=h.pw
 obtain ⟨m2,d2,e2,h2⟩:=h.rds
 rw [e] at e2
 have hd:d=d2:=by injection e2
 subst hd
 exact ⟨⟨_,_,rfl,h2.at hn⟩,(Below.heap_setCell X ⟨p,1,none⟩ _ g (by show g≠p;omega)).trans h.cx,h.wg,h.pw⟩
end
theorem run_sliceB {o:Oper} {a:Act} {X:World} {x lo hi:Operand} (ho:o.op=.slice 26 x (some lo) (some hi) none) {g q n c k m:Nat} (hx:a.eval x=.slice (some ⟨g,q,none⟩) n c) (hl:a.eval lo=.int .i64 (k:Int)) (hh:a.eval hi=.int .i64 (m:Int)) (h1:k≤m) (h2:m≤c) :
 (execOp a.eval o).run Tryz.prog X=.ok (.value (.slice (if c=k then some ⟨g,q,none⟩ else some ⟨g,q+k,none⟩) (m-k) (c-k))) X:=by
 have h3:(m:Int)≤(c:Int):=by omega
 have h4:(k:Int)≤(m:Int):=by omega
 unfold execOp
 simp only [ho,hx,hl,hh,Option.map_some]
 by_cases e:c=k
 · subst e
   go_simp
 · go_simp
theorem conv_sub {X:World} {p:Nat} {L:List UInt8} {g q c k n:Nat} (hb:BsA p X L (some ⟨g,q,none⟩)) (hk:k+n≤L.length) (hc:L.length≤c) {m2 c2:Nat} (hm:m2=n):(convert 26 9 (.slice (if c=k then some ⟨g,q,none⟩ else some ⟨g,q+k,none⟩) m2 c2)).run Tryz.prog X=.ok (.string ⟨((L.drop k).take n).toArray⟩) X:=by
 subst hm
 have hl:((L.drop k).take m2).length=m2:=by rw [List.length_take,List.length_drop];omega
 rcases hb with e | ⟨g2,q2,e,hg,hx⟩
 · subst e
   have h0:m2=0:=by simp at hk;omega
   subst h0
   have h5:=fun d=>run_convert_bytes_back (P:=Tryz.prog) X 26 9 _ d c2 [] Tryz.underlying26 Tryz.underlying5 Tryz.underlying9 (fun j hj=>by simp at hj)
   split
   · simpa using h5 ⟨g,q,none⟩
   · simpa using h5 ⟨g,q+k,none⟩
 · injection e with e
   injection e with e1 e2
   subst e1
   subst e2
   by_cases hck:c=k
   · rw [if_pos hck]
     have h0:m2=0:=by omega
     subst h0
     have h5:=run_convert_bytes_back (P:=Tryz.prog) X 26 9 _ ⟨g,q,none⟩ c2 [] Tryz.underlying26 Tryz.underlying5 Tryz.underlying9 (fun j hj=>by simp at hj)
     simpa using h5
   · rw [if_neg hck]
     have h5:=run_convert_bytes_back (P:=Tryz.prog) X 26 9 _ ⟨g,q+k,none⟩ c2 ((L.drop k).take m2) Tryz.underlying26 Tryz.underlying5 Tryz.underlying9 (fun j hj=>by
      rw [addr_add,Nat.add_assoc]
      refine hx (k+j) _ ?_
      rw [List.getElem_take,List.getElem_drop]
      exact List.getElem?_eq_getElem _)
     rw [hl] at h5
     exact h5
end Go.Proofs.YtmpljhfinmfnbaaGreatDoor

/- The proof, part 16: texts that belong together, in one. -/
import Derived.Test.YtggbkldniffbfaaGreatDoorTAO
set_option maxRecDepth 100000
set_option maxHeartbeats 20000000
namespace Go.Proofs.YtggbkldniffbfaaGreatDoor
open Go.RowKit
set_option linter.unusedVariables false
section
variable {o:Oper} {a:Act} {w:World} {K:Act→World→Prop} {Q:Exit→Act→World→Prop}
theorem wp_ld_dcs {x:Operand} (ho:o.op=.load 22 x) {p:Addr} (hx:a.eval x=.pointer (some p)) {v:Value} (hv:w.cell? p=some v) (h:K (a.put o.dst v) w):o.wp Tryz.prog a w K Q:=by
 have hrun:(execOp a.eval o).run Tryz.prog w=.ok (.value v) w:=by
  unfold execOp
  simp only [ho,hx]
  go_simp
 unfold Oper.wp
 rw [hrun]
 exact h
theorem wp_st_dcs {x y:Operand} (ho:o.op=.store 22 x y) {p:Addr} (hx:a.eval x=.pointer (some p)) {s:Option Addr} {n cp:Nat} (hy:a.eval y=.slice s n cp) {u:Value} (hu:w.cell? p=some u) (hf:w.frozen? p=false) (h:K (a.put o.dst undef) (w.setCell p (.slice s n cp))):o.wp Tryz.prog a w K Q:=by
 have hrun:(execOp a.eval o).run Tryz.prog w=.ok .skip (w.setCell p (.slice s n cp)):=by
  unfold execOp
  simp only [ho,hx,hy]
  go_simp
 unfold Oper.wp
 rw [hrun]
 exact h
theorem wp_ld_ths {x:Operand} (ho:o.op=.load 23 x) {p:Addr} (hx:a.eval x=.pointer (some p)) {v:Value} (hv:w.cell? p=some v) (h:K (a.put o.dst v) w):o.wp Tryz.prog a w K Q:=by
 have hrun:(execOp a.eval o).run Tryz.prog w=.ok (.value v) w:=by
  unfold execOp
  simp only [ho,hx]
  go_simp
 unfold Oper.wp
 rw [hrun]
 exact h
theorem wp_st_ths {x y:Operand} (ho:o.op=.store 23 x y) {p:Addr} (hx:a.eval x=.pointer (some p)) {s:Option Addr} {n cp:Nat} (hy:a.eval y=.slice s n cp) {u:Value} (hu:w.cell? p=some u) (hf:w.frozen? p=false) (h:K (a.put o.dst undef) (w.setCell p (.slice s n cp))):o.wp Tryz.prog a w K Q:=by
 have hrun:(execOp a.eval o).run Tryz.prog w=.ok .skip (w.setCell p (.slice s n cp)):=by
  unfold execOp
  simp only [ho,hx,hy]
  go_simp
 unfold Oper.wp
 rw [hrun]
 exact h
end
structure PgI (c:Par) (w0:World) (pb:Nat) (vS vL:Value) (p:Pg) (W:World) (k:Nat):Prop where
 run:At c w0 W k
 ge:w0.heap.size<pb
 res:Own W w0.heap.size 25 zPg
 own:Own W pb 25 #[vS,vL,.slice none 0 0]
 rS:W.ownsRow w0.heap.size 53 3 vS p.shared.length (dcsL p.shared)
 rL:W.ownsRow w0.heap.size 53 3 vL p.locks.length (dcsL p.locks)
 ne:vS.ownBlock=none∨vS.ownBlock≠vL.ownBlock
section
variable {c:Par} {w0 W W':World} {pb:Nat} {vS vL:Value} {p:Pg} {k k2:Nat}
theorem row_apart {W:World} {base:Nat} {T U:TypeId} {n:Nat} {v:Value} {m:Nat} {xs:List Value} (h:W.ownsRow base T n v m xs) {b:Nat} {cs:Array Value} (hb:Own W b U cs) (ht:(T==U)=false):v.ownBlock≠some b:=by
 intro e
 rcases h.2 with ⟨rfl,_⟩ | ⟨g,cap,cur,rfl,_,hg,_⟩
 · cases e
 · have e : g = b := by simpa [Value.ownBlock] using e
   subst e
   unfold Own at hb
   rw [hg] at hb
   cases hb
   simp at ht
theorem PgI.call (h:PgI c w0 pb vS vL p W k) (hf:Fr c W W') (hp:Rd c W' k2) (hX:c.X<w0.heap.size):PgI c w0 pb vS vL p W' k2 :=
 ⟨h.run.call hf hp,h.ge,h.res.fr hf (by omega),h.own.fr hf (by have:=h.ge;omega),row_fr h.rS hf hX,row_fr h.rL hf hX,h.ne⟩
theorem PgI.cell (h:PgI c w0 pb vS vL p W k) {i:Nat} {v:Value} (hv:(#[vS,vL,.slice none 0 0]:Array Value)[i]? = some v):W.cell? ⟨pb,i,none⟩=some v:=by rw [cell_of_row W _ i _ _ _ h.own];exact hv
theorem own_frozen {b:Nat} {T:TypeId} {cs:Array Value} (h:Own W b T cs) (i:Nat):W.frozen? ⟨b,i,none⟩=false:=by
 unfold Own at h
 simp only [World.frozen?,h];rfl
theorem PgI.drew (h:PgI c w0 pb vS vL p W k):PgI c w0 pb vS vL p W.drew k:=⟨h.run.drew,h.ge,h.res,h.own,h.rS,h.rL,h.ne⟩
end
theorem dcsL_cells (d:List Dc):∀ u∈dcsL d,u.oneCell'=true:=by
 intro u hu
 unfold dcsL at hu
 rw [List.mem_flatMap] at hu
 obtain ⟨x,_,hx⟩:=hu
 simp [dcCells] at hx
 rcases hx with rfl | rfl | rfl <;> rfl
theorem row_news {W:World} {base:Nat} {T:TypeId} {n m:Nat} {g cap:Nat} {xs:List Value} (h:W.ownsRow base T n (.slice (some ⟨g,0,none⟩) m cap) m xs):∀ j u,xs[j]? = some u→W.cell? ((⟨g,0,none⟩:Addr).add j)=some u:=h.cells rfl
theorem list_count {L:Int} {one:List Tk→PR Dc} (ho:∀ ts d r,one ts=.ok d r→r.length<ts.length):∀ {n:Nat} {acc:List Dc} {ts:List Tk} {l:List Dc} {r:List Tk},listP L one n acc ts=.ok l r→l.length≤acc.length+ts.length
 | 0,acc,ts,l,r,h=>by simp [listP] at h
 | n + 1, acc, ts, l, r, h => by
   simp only [listP] at h
   obtain ⟨a,b,h1,h2⟩:=PR.then_eq_ok h
   have k:=ho _ _ _ h1
   split at h2
   · have := list_count ho h2
     rw [List.length_append,List.length_tail] at this
     simp at this
     omega
   · obtain ⟨u, c, h3, h4⟩ := PR.then_eq_ok h2
     cases h4
     rw [List.length_append]
     simp
     omega
section
variable {c:Par} {w0 W W':World} {pb:Nat} {vS vL:Value} {p:Pg} {k k2:Nat}
theorem PgI.grownS (h:PgI c w0 pb vS vL p W k) (hg:W.grownBy W' vS.ownBlock) (hX:c.X<w0.heap.size):At c w0 W' k∧Own W' w0.heap.size 25 zPg∧Own W' pb 25 #[vS,vL,.slice none 0 0]∧W'.ownsRow w0.heap.size 53 3 vL p.locks.length (dcsL p.locks) :=
 ⟨grown_fr h.run hg (fun r hr=>by have:=(h.rS.lt r hr).1;exact ⟨this,by omega⟩),own_grown h.res hg (row_apart h.rS h.res rfl),own_grown h.own hg (row_apart h.rS h.own rfl),
  h.rL.kept hg (by
   rcases h.ne with e | e
   · cases hv : vL.ownBlock with
     | none=>exact .inl rfl
     | some b=>exact .inr (by rw [e];simp)
   · exact .inr (fun e'=>e e'.symm))⟩
theorem PgI.grownL (h:PgI c w0 pb vS vL p W k) (hg:W.grownBy W' vL.ownBlock) (hX:c.X<w0.heap.size):At c w0 W' k∧Own W' w0.heap.size 25 zPg∧Own W' pb 25 #[vS,vL,.slice none 0 0]∧W'.ownsRow w0.heap.size 53 3 vS p.shared.length (dcsL p.shared) :=
 ⟨grown_fr h.run hg (fun r hr=>by have:=(h.rL.lt r hr).1;exact ⟨this,by omega⟩),own_grown h.res hg (row_apart h.rL h.res rfl),own_grown h.own hg (row_apart h.rL h.own rfl),h.rS.kept hg h.ne⟩
theorem PgI.endS (h:PgI c w0 pb vS vL p W k) {g cap:Nat} {d:List Dc} (hX:c.X<w0.heap.size) (hg:W.grownBy W' vS.ownBlock) (hown:W'.ownsRow w0.heap.size 53 3 (.slice (some ⟨g,0,none⟩) (p.shared.length+d.length) cap) (p.shared.length+d.length) (dcsL p.shared++dcsL d)) (hl:vS.ownBlock=some g∨g=W.heap.size) :
 PgI c w0 pb (.slice (some ⟨g,0,none⟩) (p.shared.length+d.length) cap) vL { p with shared:=p.shared++d } (W'.setRow pb #[.slice (some ⟨g,0,none⟩) (p.shared.length+d.length) cap,vL,.slice none 0 0]) k:=by
 obtain ⟨h1,h2,h3,h4⟩:=h.grownS hg hX
 have ha:=row_apart hown h3 rfl
 refine ⟨h1.setRow (by have:=h.ge;omega) (by have:=h.ge;omega) _,h.ge,h2.other _ (by have:=h.ge;omega),h3.row _,?_,row_row h4 _ (row_apart h4 h3 rfl),?_⟩
 · have := row_row hown #[.slice (some ⟨g, 0, none⟩) (p.shared.length + d.length) cap, vL, .slice none 0 0] ha
   simp only [List.length_append,dcsL,List.flatMap_append] at this ⊢
   exact this
 · right
   intro e
   rcases hl with hl | hl
   · rcases h.ne with e' | e'
     · rw [e'] at hl;cases hl
     · exact e' (by rw [hl,← e];rfl)
   · have := (h.rL.lt g (by rw [← e]; rfl)).2
     omega
theorem PgI.endL (h:PgI c w0 pb vS vL p W k) {g cap:Nat} {d:List Dc} (hX:c.X<w0.heap.size) (hg:W.grownBy W' vL.ownBlock) (hown:W'.ownsRow w0.heap.size 53 3 (.slice (some ⟨g,0,none⟩) (p.locks.length+d.length) cap) (p.locks.length+d.length) (dcsL p.locks++dcsL d)) (hl:vL.ownBlock=some g∨g=W.heap.size) :
 PgI c w0 pb vS (.slice (some ⟨g,0,none⟩) (p.locks.length+d.length) cap) { p with locks:=p.locks++d } (W'.setRow pb #[vS,.slice (some ⟨g,0,none⟩) (p.locks.length+d.length) cap,.slice none 0 0]) k:=by
 obtain ⟨h1,h2,h3,h4⟩:=h.grownL hg hX
 have ha:=row_apart hown h3 rfl
 refine ⟨h1.setRow (by have:=h.ge;omega) (by have:=h.ge;omega) _,h.ge,h2.other _ (by have:=h.ge;omega),h3.row _,row_row h4 _ (row_apart h4 h3 rfl),?_,?_⟩
 · have := row_row hown #[vS, .slice (some ⟨g, 0, none⟩) (p.locks.length + d.length) cap, .slice none 0 0] ha
   simp only [List.length_append,dcsL,List.flatMap_append] at this ⊢
   exact this
 · cases hv : vS.ownBlock with
   | none=>exact .inl rfl
   | some b =>
     right
     intro e
     have e:b=g:=by simpa [Value.ownBlock] using e
     subst e
     rcases hl with hl | hl
     · rcases h.ne with e' | e'
       · rw [e'] at hv;cases hv
       · exact e' (by rw [hl,hv])
     · have := (h.rS.lt b hv).2
       omega
end
theorem p_shared {c:Par} {w0 W:World} {pb:Nat} {vS vL:Value} {p:Pg} {k0 k n:Nat} (R:Rd c w0 k0) (hn:(c.at k).length<n) (G:PgI c w0 pb vS vL p W k) (hl:p.shared.length+(c.at k).length≤65536) :
 Calls Tryz.prog 88 #[c.ptr,.pointer (some ⟨pb,0,none⟩)] W fun e w'=>match listP c.L (firstP c.L) n [] (c.at k) with
  | .ok d r=>∃ v' k',e=.returned (.tuple #[])∧PgI c w0 pb v' vL { p with shared:=p.shared++d } w' k'∧r=c.at k'
  | .bad q rl=>e=.panicked (flt q rl)∧Fr c w0 w':=by
 have HLEN:Hid (∀ l r,listP c.L (firstP c.L) n [] (c.at k)=.ok l r→l.length≤(c.at k).length):=fun l r h=>by simpa using list_count (fun _ _ _=>firstP_short) h
 have HL:Hid (∀ W,Rd c W k→Calls Tryz.prog 100 #[c.ptr,.func (.func 122) #[c.ptr] #[]] W (RdPost c W (listP c.L (firstP c.L) n [] (c.at k)) (fun l v w'=>w'.ownsRow W.heap.size 53 3 v l.length (dcsL l)∧l≠[]))):=fun W RW=>p_list_first RW hn
 obtain ⟨Y,hY⟩:∃ Y,Y=listP c.L (firstP c.L) n [] (c.at k):=⟨_,rfl⟩
 rw [← hY] at HL HLEN ⊢
 have HR:=Lib.hid R
 have hX:=Lib.hid R.lt
 have HG:=Lib.hid G
 have HN:=Lib.hid hl
 obtain ⟨SH,hSH⟩:∃ f:List Dc→Pg,f=fun d=>{ p with shared:=p.shared++d }:=⟨_,rfl⟩
 obtain ⟨nl,xl,hrl⟩:∃ nl xl,nl=p.shared.length∧xl=dcsL p.shared:=⟨_,_,rfl,rfl⟩
 clear hY R G hn hl
 unfold Par.ptr at *
 go_enter Tryz.func88,Tryz.ntmps88
 refine wp_region_held (S:=fun _=>True) (by kernel_rfl) ?_
 have G:=HG.out.drew
 obtain ⟨W0,hW0⟩:∃ W0,W0=W.drew:=⟨_,rfl⟩
 change wpAnyH _ _ _ _ _ _ _ _ W.drew
 rw [← hW0] at G ⊢
 clear hW0
 refine dr_take 0 (.pointer (some ⟨pb,0,none⟩)) rfl rfl (by kernel_rfl) (by kernel_rfl) (by kernel_rfl) (fun _ _ _ h=>h) (fun _ _=>rfl) trivial ?_
 change wpAnyH _ _ _ _ _ _ _ { tmps:=#[_,_,_,_,_,_,_,_,_,_,_,_,_,_,_,_],defers:=[] } _
 refine dr_take 1 (.pointer (some ⟨pb,0,none⟩)) rfl rfl (by kernel_rfl) (by kernel_rfl) (by kernel_rfl) (fun _ _ _ h=>h) (fun _ _=>rfl) trivial ?_
 change wpAnyH _ _ _ _ _ _ _ { tmps:=#[_,_,_,_,_,_,_,_,_,_,_,_,_,_,_,_],defers:=[] } _
 refine dr_take 2 (.pointer (some ⟨pb,0,none⟩)) rfl rfl (by kernel_rfl) (by kernel_rfl) (by kernel_rfl) (fun _ _ _ h=>h) (fun _ _=>by unfold execOp;go_simp) trivial ?_
 change wpAnyH _ _ _ _ _ _ _ { tmps:=#[_,_,_,_,_,_,_,_,_,_,_,_,_,_,_,_],defers:=[] } _
 refine dr_take 3 (.pointer (some ⟨pb,0,none⟩)) rfl rfl (by kernel_rfl) (by kernel_rfl) (by kernel_rfl) (fun _ _ _ h=>h) (fun _ _=>by unfold execOp;go_simp) trivial ?_
 change wpAnyH _ _ _ _ _ _ _ { tmps:=#[_,_,_,_,_,_,_,_,_,_,_,_,_,_,_,_],defers:=[] } _
 refine dr_take 5 (.pointer (some ⟨c.X,0,none⟩)) rfl rfl (by kernel_rfl) (by kernel_rfl) (by kernel_rfl) (fun _ _ _ h=>h) (fun _ _=>rfl) trivial ?_
 change wpAnyH _ _ _ _ _ _ _ { tmps:=#[_,_,_,_,_,_,_,_,_,_,_,_,_,_,_,_],defers:=[] } _
 refine dr_take 6 (.pointer (some ⟨c.X,0,none⟩)) rfl rfl (by kernel_rfl) (by kernel_rfl) (by kernel_rfl) (fun _ _ _ h=>h) (fun _ _=>rfl) trivial ?_
 change wpAnyH _ _ _ _ _ _ _ { tmps:=#[_,_,_,_,_,_,_,_,_,_,_,_,_,_,_,_],defers:=[] } _
 refine dr_take 7 (.func (.func 122) #[.pointer (some ⟨c.X,0,none⟩)] #[]) rfl rfl (by kernel_rfl) (by kernel_rfl) (by kernel_rfl) (fun _ _ _ h=>h) (fun _ _=>by unfold execOp;go_simp) trivial ?_
 change wpAnyH _ _ _ _ _ _ _ { tmps:=#[_,_,_,_,_,_,_,_,_,_,_,_,_,_,_,_],defers:=[] } _
 refine dr_two 4 8 rfl rfl rfl rfl (by kernel_rfl) ?_ ?_
 · refine wp_ld_dcs rfl rfl (G.cell (i := 0) (v := vS) rfl) ⟨trivial, ?_⟩
   change wpAnyH _ _ _ _ _ _ _ { tmps:=#[_,_,_,_,_,_,_,_,_,_,_,_,_,_,_,_],defers:=[] } _
   refine dr_one 8 rfl rfl (by kernel_rfl) ?_
   refine wp_call (vs:=#[.pointer (some ⟨c.X,0,none⟩),.func (.func 122) #[.pointer (some ⟨c.X,0,none⟩)] #[]]) rfl rfl (enters_of Tryz.func100 (by kernel_rfl) rfl) (by simp [Act.eval]) (HL.out _ (G.run.rd HR.out)) ?_
   rintro e w1 ⟨hf1,hm⟩
   rcases Y with ⟨d,r⟩ | ⟨q,rl⟩
   rotate_left
   · obtain rfl := hm
     exact ⟨rfl,rfl,G.run.fr.trans hf1⟩
   obtain ⟨v1,k1,rfl,⟨hrow1,hd1⟩,hR1,rfl⟩:=hm
   have G1:=G.call hf1 hR1 hX.out
   have hlen:=HLEN.out _ _ rfl
   have hz:=Keep.size hf1
   obtain ⟨g1,cap1,rfl,hg1,hlt1⟩:=hrow1.form (List.length_pos_iff.2 hd1)
   refine ⟨trivial,?_⟩
   change wpAnyH _ _ _ _ _ _ _ { tmps:=#[_,_,_,_,_,_,_,_,_,_,_,_,_,_,_,_],defers:=[] } _
   refine dr_one 9 rfl rfl (by kernel_rfl) ?_
   obtain ⟨i0,hi,hi0,hi1,hi2⟩:=info_parts infoDc
   refine wp_append_lies w1 _ _ 22 rfl w0.heap.size 53 i0 _ 3 32 Tryz.underlying22 hi hi0 hi1 hi2 rfl (by decide) vS p.shared.length (dcsL p.shared) rfl G1.rS ⟨g1,0,none⟩ d.length cap1 (dcsL d) rfl (dcsL_len d) (row_news hrow1) (dcsL_cells d) (List.length_pos_iff.2 hd1) (by simp only [maxLen];have:=HN.out;omega) (by have:=HN.out;omega) (by have:=G1.run.fr.size;omega) _ rfl ?_
   intro g2 cap2 w2 hown2 hgrow2 hlies2 hlt2
   refine ⟨trivial,?_⟩
   change wpAnyH _ _ _ _ _ _ _ { tmps:=#[_,_,_,_,_,_,_,_,_,_,_,_,_,_,_,_],defers:=[] } _
   refine dr_take 10 (.pointer (some ⟨pb,0,none⟩)) rfl rfl (by kernel_rfl) (by kernel_rfl) (by kernel_rfl) (fun _ _ _ h=>h) (fun _ _=>by unfold execOp;go_simp) trivial ?_
   change wpAnyH _ _ _ _ _ _ _ { tmps:=#[_,_,_,_,_,_,_,_,_,_,_,_,_,_,_,_],defers:=[] } _
   refine dr_take 11 (.pointer (some ⟨pb,0,none⟩)) rfl rfl (by kernel_rfl) (by kernel_rfl) (by kernel_rfl) (fun _ _ _ h=>h) (fun _ _=>by unfold execOp;go_simp) trivial ?_
   change wpAnyH _ _ _ _ _ _ _ { tmps:=#[_,_,_,_,_,_,_,_,_,_,_,_,_,_,_,_],defers:=[] } _
   refine dr_one 12 rfl rfl (by kernel_rfl) ?_
   have G2:=G1.grownS hgrow2 hX.out
   refine wp_st_dcs rfl rfl rfl (u:=vS) (by rw [cell_of_row w2 _ 0 _ _ _ G2.2.2.1];rfl) (own_frozen G2.2.2.1 0) ⟨trivial,?_⟩
   refine wpAnyH_done (by kernel_rfl) ?_ _
   go_end0
   rw [setCell_row G2.2.2.1 0 _]
   exact ⟨.slice (some ⟨g2,0,none⟩) (p.shared.length+d.length) cap2,k1,rfl,G1.endS hX.out hgrow2 hown2 hlies2,rfl⟩
 · skip
   refine wp_call (vs:=#[.pointer (some ⟨c.X,0,none⟩),.func (.func 122) #[.pointer (some ⟨c.X,0,none⟩)] #[]]) rfl rfl (enters_of Tryz.func100 (by kernel_rfl) rfl) (by simp [Act.eval]) (HL.out _ (G.run.rd HR.out)) ?_
   rintro e w1 ⟨hf1,hm⟩
   rcases Y with ⟨d,r⟩ | ⟨q,rl⟩
   rotate_left
   · obtain rfl := hm
     exact ⟨rfl,rfl,G.run.fr.trans hf1⟩
   obtain ⟨v1,k1,rfl,⟨hrow1,hd1⟩,hR1,rfl⟩:=hm
   have G1:=G.call hf1 hR1 hX.out
   have hlen:=HLEN.out _ _ rfl
   have hz:=Keep.size hf1
   obtain ⟨g1,cap1,rfl,hg1,hlt1⟩:=hrow1.form (List.length_pos_iff.2 hd1)
   refine ⟨trivial,?_⟩
   change wpAnyH _ _ _ _ _ _ _ { tmps:=#[_,_,_,_,_,_,_,_,_,_,_,_,_,_,_,_],defers:=[] } _
   refine dr_one 4 rfl rfl (by kernel_rfl) ?_
   refine wp_ld_dcs rfl rfl (G1.cell (i:=0) (v:=vS) rfl) ⟨trivial,?_⟩
   change wpAnyH _ _ _ _ _ _ _ { tmps:=#[_,_,_,_,_,_,_,_,_,_,_,_,_,_,_,_],defers:=[] } _
   refine dr_one 9 rfl rfl (by kernel_rfl) ?_
   obtain ⟨i0,hi,hi0,hi1,hi2⟩:=info_parts infoDc
   refine wp_append_lies w1 _ _ 22 rfl w0.heap.size 53 i0 _ 3 32 Tryz.underlying22 hi hi0 hi1 hi2 rfl (by decide) vS p.shared.length (dcsL p.shared) rfl G1.rS ⟨g1,0,none⟩ d.length cap1 (dcsL d) rfl (dcsL_len d) (row_news hrow1) (dcsL_cells d) (List.length_pos_iff.2 hd1) (by simp only [maxLen];have:=HN.out;omega) (by have:=HN.out;omega) (by have:=G1.run.fr.size;omega) _ rfl ?_
   intro g2 cap2 w2 hown2 hgrow2 hlies2 hlt2
   refine ⟨trivial,?_⟩
   change wpAnyH _ _ _ _ _ _ _ { tmps:=#[_,_,_,_,_,_,_,_,_,_,_,_,_,_,_,_],defers:=[] } _
   refine dr_take 10 (.pointer (some ⟨pb,0,none⟩)) rfl rfl (by kernel_rfl) (by kernel_rfl) (by kernel_rfl) (fun _ _ _ h=>h) (fun _ _=>by unfold execOp;go_simp) trivial ?_
   change wpAnyH _ _ _ _ _ _ _ { tmps:=#[_,_,_,_,_,_,_,_,_,_,_,_,_,_,_,_],defers:=[] } _
   refine dr_take 11 (.pointer (some ⟨pb,0,none⟩)) rfl rfl (by kernel_rfl) (by kernel_rfl) (by kernel_rfl) (fun _ _ _ h=>h) (fun _ _=>by unfold execOp;go_simp) trivial ?_
   change wpAnyH _ _ _ _ _ _ _ { tmps:=#[_,_,_,_,_,_,_,_,_,_,_,_,_,_,_,_],defers:=[] } _
   refine dr_one 12 rfl rfl (by kernel_rfl) ?_
   have G2:=G1.grownS hgrow2 hX.out
   refine wp_st_dcs rfl rfl rfl (u:=vS) (by rw [cell_of_row w2 _ 0 _ _ _ G2.2.2.1];rfl) (own_frozen G2.2.2.1 0) ⟨trivial,?_⟩
   refine wpAnyH_done (by kernel_rfl) ?_ _
   go_end0
   rw [setCell_row G2.2.2.1 0 _]
   exact ⟨.slice (some ⟨g2,0,none⟩) (p.shared.length+d.length) cap2,k1,rfl,G1.endS hX.out hgrow2 hown2 hlies2,rfl⟩
theorem p_locks {c:Par} {w0 W:World} {pb:Nat} {vS vL:Value} {p:Pg} {k0 k n:Nat} (R:Rd c w0 k0) (hn:(c.at k).length<n) (G:PgI c w0 pb vS vL p W k) (hl:p.locks.length+(c.at k).length≤65536) :
 Calls Tryz.prog 89 #[c.ptr,.pointer (some ⟨pb,0,none⟩)] W fun e w'=>match listP c.L (nameP c.L) n [] (c.at k) with
  | .ok d r=>∃ v' k',e=.returned (.tuple #[])∧PgI c w0 pb vS v' { p with locks:=p.locks++d } w' k'∧r=c.at k'
  | .bad q rl=>e=.panicked (flt q rl)∧Fr c w0 w':=by
 have HLEN:Hid (∀ l r,listP c.L (nameP c.L) n [] (c.at k)=.ok l r→l.length≤(c.at k).length):=fun l r h=>by simpa using list_count (fun _ _ _=>nameP_short) h
 have HL:Hid (∀ W,Rd c W k→Calls Tryz.prog 100 #[c.ptr,.func (.func 98) #[c.ptr] #[]] W (RdPost c W (listP c.L (nameP c.L) n [] (c.at k)) (fun l v w'=>w'.ownsRow W.heap.size 53 3 v l.length (dcsL l)∧l≠[]))):=fun W RW=>p_list_name RW hn
 obtain ⟨Y,hY⟩:∃ Y,Y=listP c.L (nameP c.L) n [] (c.at k):=⟨_,rfl⟩
 rw [← hY] at HL HLEN ⊢
 have HR:=Lib.hid R
 have hX:=Lib.hid R.lt
 have HG:=Lib.hid G
 have HN:=Lib.hid hl
 obtain ⟨SH,hSH⟩:∃ f:List Dc→Pg,f=fun d=>{ p with locks:=p.locks++d }:=⟨_,rfl⟩
 obtain ⟨nl,xl,hrl⟩:∃ nl xl,nl=p.locks.length∧xl=dcsL p.locks:=⟨_,_,rfl,rfl⟩
 clear hY R G hn hl
 unfold Par.ptr at *
 go_enter Tryz.func89,Tryz.ntmps89
 refine wp_region_held (S:=fun _=>True) (by kernel_rfl) ?_
 have G:=HG.out.drew
 obtain ⟨W0,hW0⟩:∃ W0,W0=W.drew:=⟨_,rfl⟩
 change wpAnyH _ _ _ _ _ _ _ _ W.drew
 rw [← hW0] at G ⊢
 clear hW0
 refine dr_take 0 (.pointer (some ⟨pb,0,none⟩)) rfl rfl (by kernel_rfl) (by kernel_rfl) (by kernel_rfl) (fun _ _ _ h=>h) (fun _ _=>rfl) trivial ?_
 change wpAnyH _ _ _ _ _ _ _ { tmps:=#[_,_,_,_,_,_,_,_,_,_,_,_,_,_,_,_],defers:=[] } _
 refine dr_take 1 (.pointer (some ⟨pb,0,none⟩)) rfl rfl (by kernel_rfl) (by kernel_rfl) (by kernel_rfl) (fun _ _ _ h=>h) (fun _ _=>rfl) trivial ?_
 change wpAnyH _ _ _ _ _ _ _ { tmps:=#[_,_,_,_,_,_,_,_,_,_,_,_,_,_,_,_],defers:=[] } _
 refine dr_take 2 (.pointer (some ⟨pb,0,none⟩)) rfl rfl (by kernel_rfl) (by kernel_rfl) (by kernel_rfl) (fun _ _ _ h=>h) (fun _ _=>by unfold execOp;go_simp) trivial ?_
 change wpAnyH _ _ _ _ _ _ _ { tmps:=#[_,_,_,_,_,_,_,_,_,_,_,_,_,_,_,_],defers:=[] } _
 refine dr_take 3 (.pointer (some ⟨pb,1,none⟩)) rfl rfl (by kernel_rfl) (by kernel_rfl) (by kernel_rfl) (fun _ _ _ h=>h) (fun _ _=>by unfold execOp;go_simp) trivial ?_
 change wpAnyH _ _ _ _ _ _ _ { tmps:=#[_,_,_,_,_,_,_,_,_,_,_,_,_,_,_,_],defers:=[] } _
 refine dr_take 5 (.pointer (some ⟨c.X,0,none⟩)) rfl rfl (by kernel_rfl) (by kernel_rfl) (by kernel_rfl) (fun _ _ _ h=>h) (fun _ _=>rfl) trivial ?_
 change wpAnyH _ _ _ _ _ _ _ { tmps:=#[_,_,_,_,_,_,_,_,_,_,_,_,_,_,_,_],defers:=[] } _
 refine dr_take 6 (.pointer (some ⟨c.X,0,none⟩)) rfl rfl (by kernel_rfl) (by kernel_rfl) (by kernel_rfl) (fun _ _ _ h=>h) (fun _ _=>rfl) trivial ?_
 change wpAnyH _ _ _ _ _ _ _ { tmps:=#[_,_,_,_,_,_,_,_,_,_,_,_,_,_,_,_],defers:=[] } _
 refine dr_take 7 (.func (.func 98) #[.pointer (some ⟨c.X,0,none⟩)] #[]) rfl rfl (by kernel_rfl) (by kernel_rfl) (by kernel_rfl) (fun _ _ _ h=>h) (fun _ _=>by unfold execOp;go_simp) trivial ?_
 change wpAnyH _ _ _ _ _ _ _ { tmps:=#[_,_,_,_,_,_,_,_,_,_,_,_,_,_,_,_],defers:=[] } _
 refine dr_two 4 8 rfl rfl rfl rfl (by kernel_rfl) ?_ ?_
 · refine wp_ld_dcs rfl rfl (G.cell (i := 1) (v := vL) rfl) ⟨trivial, ?_⟩
   change wpAnyH _ _ _ _ _ _ _ { tmps:=#[_,_,_,_,_,_,_,_,_,_,_,_,_,_,_,_],defers:=[] } _
   refine dr_one 8 rfl rfl (by kernel_rfl) ?_
   refine wp_call (vs:=#[.pointer (some ⟨c.X,0,none⟩),.func (.func 98) #[.pointer (some ⟨c.X,0,none⟩)] #[]]) rfl rfl (enters_of Tryz.func100 (by kernel_rfl) rfl) (by simp [Act.eval]) (HL.out _ (G.run.rd HR.out)) ?_
   rintro e w1 ⟨hf1,hm⟩
   rcases Y with ⟨d,r⟩ | ⟨q,rl⟩
   rotate_left
   · obtain rfl := hm
     exact ⟨rfl,rfl,G.run.fr.trans hf1⟩
   obtain ⟨v1,k1,rfl,⟨hrow1,hd1⟩,hR1,rfl⟩:=hm
   have G1:=G.call hf1 hR1 hX.out
   have hlen:=HLEN.out _ _ rfl
   have hz:=Keep.size hf1
   obtain ⟨g1,cap1,rfl,hg1,hlt1⟩:=hrow1.form (List.length_pos_iff.2 hd1)
   refine ⟨trivial,?_⟩
   change wpAnyH _ _ _ _ _ _ _ { tmps:=#[_,_,_,_,_,_,_,_,_,_,_,_,_,_,_,_],defers:=[] } _
   refine dr_one 9 rfl rfl (by kernel_rfl) ?_
   obtain ⟨i0,hi,hi0,hi1,hi2⟩:=info_parts infoDc
   refine wp_append_lies w1 _ _ 22 rfl w0.heap.size 53 i0 _ 3 32 Tryz.underlying22 hi hi0 hi1 hi2 rfl (by decide) vL p.locks.length (dcsL p.locks) rfl G1.rL ⟨g1,0,none⟩ d.length cap1 (dcsL d) rfl (dcsL_len d) (row_news hrow1) (dcsL_cells d) (List.length_pos_iff.2 hd1) (by simp only [maxLen];have:=HN.out;omega) (by have:=HN.out;omega) (by have:=G1.run.fr.size;omega) _ rfl ?_
   intro g2 cap2 w2 hown2 hgrow2 hlies2 hlt2
   refine ⟨trivial,?_⟩
   change wpAnyH _ _ _ _ _ _ _ { tmps:=#[_,_,_,_,_,_,_,_,_,_,_,_,_,_,_,_],defers:=[] } _
   refine dr_take 10 (.pointer (some ⟨pb,0,none⟩)) rfl rfl (by kernel_rfl) (by kernel_rfl) (by kernel_rfl) (fun _ _ _ h=>h) (fun _ _=>by unfold execOp;go_simp) trivial ?_
   change wpAnyH _ _ _ _ _ _ _ { tmps:=#[_,_,_,_,_,_,_,_,_,_,_,_,_,_,_,_],defers:=[] } _
   refine dr_take 11 (.pointer (some ⟨pb,1,none⟩)) rfl rfl (by kernel_rfl) (by kernel_rfl) (by kernel_rfl) (fun _ _ _ h=>h) (fun _ _=>by unfold execOp;go_simp) trivial ?_
   change wpAnyH _ _ _ _ _ _ _ { tmps:=#[_,_,_,_,_,_,_,_,_,_,_,_,_,_,_,_],defers:=[] } _
   refine dr_one 12 rfl rfl (by kernel_rfl) ?_
   have G2:=G1.grownL hgrow2 hX.out
   refine wp_st_dcs rfl rfl rfl (u:=vL) (by rw [cell_of_row w2 _ 1 _ _ _ G2.2.2.1];rfl) (own_frozen G2.2.2.1 1) ⟨trivial,?_⟩
   refine wpAnyH_done (by kernel_rfl) ?_ _
   go_end0
   rw [setCell_row G2.2.2.1 1 _]
   exact ⟨.slice (some ⟨g2,0,none⟩) (p.locks.length+d.length) cap2,k1,rfl,G1.endL hX.out hgrow2 hown2 hlies2,rfl⟩
 · skip
   refine wp_call (vs:=#[.pointer (some ⟨c.X,0,none⟩),.func (.func 98) #[.pointer (some ⟨c.X,0,none⟩)] #[]]) rfl rfl (enters_of Tryz.func100 (by kernel_rfl) rfl) (by simp [Act.eval]) (HL.out _ (G.run.rd HR.out)) ?_
   rintro e w1 ⟨hf1,hm⟩
   rcases Y with ⟨d,r⟩ | ⟨q,rl⟩
   rotate_left
   · obtain rfl := hm
     exact ⟨rfl,rfl,G.run.fr.trans hf1⟩
   obtain ⟨v1,k1,rfl,⟨hrow1,hd1⟩,hR1,rfl⟩:=hm
   have G1:=G.call hf1 hR1 hX.out
   have hlen:=HLEN.out _ _ rfl
   have hz:=Keep.size hf1
   obtain ⟨g1,cap1,rfl,hg1,hlt1⟩:=hrow1.form (List.length_pos_iff.2 hd1)
   refine ⟨trivial,?_⟩
   change wpAnyH _ _ _ _ _ _ _ { tmps:=#[_,_,_,_,_,_,_,_,_,_,_,_,_,_,_,_],defers:=[] } _
   refine dr_one 4 rfl rfl (by kernel_rfl) ?_
   refine wp_ld_dcs rfl rfl (G1.cell (i:=1) (v:=vL) rfl) ⟨trivial,?_⟩
   change wpAnyH _ _ _ _ _ _ _ { tmps:=#[_,_,_,_,_,_,_,_,_,_,_,_,_,_,_,_],defers:=[] } _
   refine dr_one 9 rfl rfl (by kernel_rfl) ?_
   obtain ⟨i0,hi,hi0,hi1,hi2⟩:=info_parts infoDc
   refine wp_append_lies w1 _ _ 22 rfl w0.heap.size 53 i0 _ 3 32 Tryz.underlying22 hi hi0 hi1 hi2 rfl (by decide) vL p.locks.length (dcsL p.locks) rfl G1.rL ⟨g1,0,none⟩ d.length cap1 (dcsL d) rfl (dcsL_len d) (row_news hrow1) (dcsL_cells d) (List.length_pos_iff.2 hd1) (by simp only [maxLen];have:=HN.out;omega) (by have:=HN.out;omega) (by have:=G1.run.fr.size;omega) _ rfl ?_
   intro g2 cap2 w2 hown2 hgrow2 hlies2 hlt2
   refine ⟨trivial,?_⟩
   change wpAnyH _ _ _ _ _ _ _ { tmps:=#[_,_,_,_,_,_,_,_,_,_,_,_,_,_,_,_],defers:=[] } _
   refine dr_take 10 (.pointer (some ⟨pb,0,none⟩)) rfl rfl (by kernel_rfl) (by kernel_rfl) (by kernel_rfl) (fun _ _ _ h=>h) (fun _ _=>by unfold execOp;go_simp) trivial ?_
   change wpAnyH _ _ _ _ _ _ _ { tmps:=#[_,_,_,_,_,_,_,_,_,_,_,_,_,_,_,_],defers:=[] } _
   refine dr_take 11 (.pointer (some ⟨pb,1,none⟩)) rfl rfl (by kernel_rfl) (by kernel_rfl) (by kernel_rfl) (fun _ _ _ h=>h) (fun _ _=>by unfold execOp;go_simp) trivial ?_
   change wpAnyH _ _ _ _ _ _ _ { tmps:=#[_,_,_,_,_,_,_,_,_,_,_,_,_,_,_,_],defers:=[] } _
   refine dr_one 12 rfl rfl (by kernel_rfl) ?_
   have G2:=G1.grownL hgrow2 hX.out
   refine wp_st_dcs rfl rfl rfl (u:=vL) (by rw [cell_of_row w2 _ 1 _ _ _ G2.2.2.1];rfl) (own_frozen G2.2.2.1 1) ⟨trivial,?_⟩
   refine wpAnyH_done (by kernel_rfl) ?_ _
   go_end0
   rw [setCell_row G2.2.2.1 1 _]
   exact ⟨.slice (some ⟨g2,0,none⟩) (p.locks.length+d.length) cap2,k1,rfl,G1.endL hX.out hgrow2 hown2 hlies2,rfl⟩
end Go.Proofs.YtggbkldniffbfaaGreatDoor

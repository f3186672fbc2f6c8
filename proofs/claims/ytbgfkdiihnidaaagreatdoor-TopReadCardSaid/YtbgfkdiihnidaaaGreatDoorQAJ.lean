import Derived.Test.YtbgfkdiihnidaaaGreatDoorQAI
import Derived.Carry
set_option maxRecDepth 100000
set_option maxHeartbeats 20000000
namespace Go.Proofs.YtbgfkdiihnidaaaGreatDoor
open Go.RowKit
set_option linter.unusedVariables false
section
variable {o:Oper} {a:Act} {w:World} {K:Act->World->Prop} {Q:Exit->Act->World->Prop}
theorem wp_ld_dcs {x:Operand} (ho:o.op=.load 23 x) {p:Addr} (hx:a.eval x=.pointer (some p)) {v:Value} (hv:w.cell? p=some v) (h:K (a.put o.dst v) w):o.wp Tryz.prog a w K Q:=by
 have b:(execOp a.eval o).run Tryz.prog w=.ok (.value v) w:=by
  unfold execOp;simp only [ho,hx];go_simp
 unfold Oper.wp;rw [b];exact h
theorem wp_st_dcs {x y:Operand} (ho:o.op=.store 23 x y) {p:Addr} (hx:a.eval x=.pointer (some p)) {s:Option Addr} {n cp:Nat} (hy:a.eval y=.slice s n cp) {u:Value} (hu:w.cell? p=some u) (hf:w.frozen? p=false) (h:K (a.put o.dst undef) (w.setCell p (.slice s n cp))):o.wp Tryz.prog a w K Q:=by
 have b:(execOp a.eval o).run Tryz.prog w=.ok .skip (w.setCell p (.slice s n cp)):=by
  unfold execOp;simp only [ho,hx,hy];go_simp
 unfold Oper.wp;rw [b];exact h
theorem wp_ld_ths {x:Operand} (ho:o.op=.load 24 x) {p:Addr} (hx:a.eval x=.pointer (some p)) {v:Value} (hv:w.cell? p=some v) (h:K (a.put o.dst v) w):o.wp Tryz.prog a w K Q:=by
 have b:(execOp a.eval o).run Tryz.prog w=.ok (.value v) w:=by
  unfold execOp;simp only [ho,hx];go_simp
 unfold Oper.wp;rw [b];exact h
theorem wp_st_ths {x y:Operand} (ho:o.op=.store 24 x y) {p:Addr} (hx:a.eval x=.pointer (some p)) {s:Option Addr} {n cp:Nat} (hy:a.eval y=.slice s n cp) {u:Value} (hu:w.cell? p=some u) (hf:w.frozen? p=false) (h:K (a.put o.dst undef) (w.setCell p (.slice s n cp))):o.wp Tryz.prog a w K Q:=by
 have b:(execOp a.eval o).run Tryz.prog w=.ok .skip (w.setCell p (.slice s n cp)):=by
  unfold execOp;simp only [ho,hx,hy];go_simp
 unfold Oper.wp;rw [b];exact h
end
structure PgI (c:Par) (w0:World) (pb:Nat) (vS vL:Value) (p:Pg) (W:World) (k:Nat):Prop where
 run:At c w0 W k
 ge:w0.heap.size<pb
 res:Own W w0.heap.size 26 zPg
 own:Own W pb 26 #[vS,vL,.slice none 0 0]
 rS:W.ownsRow w0.heap.size 61 3 vS p.shared.length (dcsL p.shared)
 rL:W.ownsRow w0.heap.size 61 3 vL p.locks.length (dcsL p.locks)
 ne:vS.ownBlock=none\/vS.ownBlock≠vL.ownBlock
section
variable {c:Par} {w0 W W':World} {pb:Nat} {vS vL:Value} {p:Pg} {k k2:Nat}
theorem row_apart {W:World} {base:Nat} {T U:TypeId} {n:Nat} {v:Value} {m:Nat} {xs:List Value} (h:W.ownsRow base T n v m xs) {b:Nat} {cs:Array Value} (hb:Own W b U cs) (ht:(T==U)=false):v.ownBlock≠some b:=by
 intro e;rcases h.2 with ⟨rfl,_⟩ | ⟨g,a,d,rfl,_,c,_⟩
 · cases e
 · have e : g = b := by simpa [Value.ownBlock] using e
   subst e;unfold Own at hb;rw [c] at hb;cases hb;simp at ht
theorem PgI.call (h:PgI c w0 pb vS vL p W k) (hf:Fr c W W') (hp:Rd c W' k2) (hX:c.X<w0.heap.size):PgI c w0 pb vS vL p W' k2 :=
 ⟨h.run.call hf hp,h.ge,h.res.fr hf (by omega),h.own.fr hf (by have:=h.ge;omega),row_fr h.rS hf hX,row_fr h.rL hf hX,h.ne⟩
theorem PgI.cell (h:PgI c w0 pb vS vL p W k) {i:Nat} {v:Value} (hv:(#[vS,vL,.slice none 0 0]:Array Value)[i]? = some v):W.cell? ⟨pb,i,none⟩=some v:=by rw [cell_of_row W _ i _ _ _ h.own];exact hv
theorem own_frozen {b:Nat} {T:TypeId} {cs:Array Value} (h:Own W b T cs) (i:Nat):W.frozen? ⟨b,i,none⟩=false:=by
 unfold Own at h;simp only [World.frozen?,h];rfl
theorem PgI.drew (h:PgI c w0 pb vS vL p W k):PgI c w0 pb vS vL p W.drew k:=⟨h.run.drew,h.ge,h.res,h.own,h.rS,h.rL,h.ne⟩
end
theorem dcsL_cells (d:List Dc):∀ u∈dcsL d,u.oneCell'=true:=by
 intro u a;unfold dcsL at a;rw [List.mem_flatMap] at a;obtain ⟨x,_,b⟩:=a;simp [dcCells] at b;rcases b with rfl | rfl | rfl <;> rfl
theorem row_news {W:World} {base:Nat} {T:TypeId} {n m:Nat} {g cap:Nat} {xs:List Value} (h:W.ownsRow base T n (.slice (some ⟨g,0,none⟩) m cap) m xs):∀ j u,xs[j]? = some u->W.cell? ((⟨g,0,none⟩:Addr).add j)=some u:=h.cells rfl
theorem list_count {L:Int} {one:List Tk->PR Dc} (ho:∀ ts d r,one ts=.ok d r->r.length<ts.length):∀ {n:Nat} {acc:List Dc} {ts:List Tk} {l:List Dc} {r:List Tk},listP L one n acc ts=.ok l r->l.length<=acc.length+ts.length
 | 0,acc,ts,l,r,h=>by simp [listP] at h
 | n + 1, acc, ts, l, r, h => by
   simp only [listP] at h
   obtain ⟨a,b,h1,h2⟩:=PR.then_eq_ok h
   have k:=ho _ _ _ h1
   split at h2
   · have := list_count ho h2
     rw [List.length_append,List.length_tail] at this
     simp at this
     omega
   · obtain ⟨u, c, h3, h4⟩ := PR.then_eq_ok h2
     cases h4
     rw [List.length_append]
     simp
     omega
section
variable {c:Par} {w0 W W':World} {pb:Nat} {vS vL:Value} {p:Pg} {k k2:Nat}
theorem PgI.grownS (h:PgI c w0 pb vS vL p W k) (hg:W.grownBy W' vS.ownBlock) (hX:c.X<w0.heap.size):At c w0 W' k/\Own W' w0.heap.size 26 zPg/\Own W' pb 26 #[vS,vL,.slice none 0 0]/\W'.ownsRow w0.heap.size 61 3 vL p.locks.length (dcsL p.locks) :=
 ⟨grown_fr h.run hg (fun r hr=>by have:=(h.rS.lt r hr).1;exact ⟨this,by omega⟩),own_grown h.res hg (row_apart h.rS h.res rfl),own_grown h.own hg (row_apart h.rS h.own rfl),
  h.rL.kept hg (by
   rcases h.ne with e | e
   · cases hv : vL.ownBlock with
     | none=>exact .inl rfl
     | some b=>exact .inr (by rw [e];simp)
   · exact .inr (fun e'=>e e'.symm))⟩
theorem PgI.grownL (h:PgI c w0 pb vS vL p W k) (hg:W.grownBy W' vL.ownBlock) (hX:c.X<w0.heap.size):At c w0 W' k/\Own W' w0.heap.size 26 zPg/\Own W' pb 26 #[vS,vL,.slice none 0 0]/\W'.ownsRow w0.heap.size 61 3 vS p.shared.length (dcsL p.shared) :=
 ⟨grown_fr h.run hg (fun r hr=>by have:=(h.rL.lt r hr).1;exact ⟨this,by omega⟩),own_grown h.res hg (row_apart h.rL h.res rfl),own_grown h.own hg (row_apart h.rL h.own rfl),h.rS.kept hg h.ne⟩
theorem PgI.endS (h:PgI c w0 pb vS vL p W k) {g cap:Nat} {d:List Dc} (hX:c.X<w0.heap.size) (hg:W.grownBy W' vS.ownBlock) (hown:W'.ownsRow w0.heap.size 61 3 (.slice (some ⟨g,0,none⟩) (p.shared.length+d.length) cap) (p.shared.length+d.length) (dcsL p.shared++dcsL d)) (hl:vS.ownBlock=some g\/g=W.heap.size) :
 PgI c w0 pb (.slice (some ⟨g,0,none⟩) (p.shared.length+d.length) cap) vL { p with shared:=p.shared++d } (W'.setRow pb #[.slice (some ⟨g,0,none⟩) (p.shared.length+d.length) cap,vL,.slice none 0 0]) k:=by
 obtain ⟨i,l,a,f⟩:=h.grownS hg hX;have j:=row_apart hown a rfl;refine ⟨i.setRow (by have:=h.ge;omega) (by have:=h.ge;omega) _,h.ge,l.other _ (by have:=h.ge;omega),a.row _,?_,row_row f _ (row_apart f a rfl),?_⟩
 · have := row_row hown #[.slice (some ⟨g, 0, none⟩) (p.shared.length + d.length) cap, vL, .slice none 0 0] j
   simp only [List.length_append,dcsL,List.flatMap_append] at this ⊢;exact this
 · right
   intro e;rcases hl with hl | hl
   · rcases h.ne with b | b
     · rw [b] at hl;cases hl
     · exact b (by rw [hl,<- e];rfl)
   · have := (h.rL.lt g (by rw [<- e]; rfl)).2
     omega
theorem PgI.endL (h:PgI c w0 pb vS vL p W k) {g cap:Nat} {d:List Dc} (hX:c.X<w0.heap.size) (hg:W.grownBy W' vL.ownBlock) (hown:W'.ownsRow w0.heap.size 61 3 (.slice (some ⟨g,0,none⟩) (p.locks.length+d.length) cap) (p.locks.length+d.length) (dcsL p.locks++dcsL d)) (hl:vL.ownBlock=some g\/g=W.heap.size) :
 PgI c w0 pb vS (.slice (some ⟨g,0,none⟩) (p.locks.length+d.length) cap) { p with locks:=p.locks++d } (W'.setRow pb #[vS,.slice (some ⟨g,0,none⟩) (p.locks.length+d.length) cap,.slice none 0 0]) k:=by
 obtain ⟨j,m,a,i⟩:=h.grownL hg hX;have l:=row_apart hown a rfl;refine ⟨j.setRow (by have:=h.ge;omega) (by have:=h.ge;omega) _,h.ge,m.other _ (by have:=h.ge;omega),a.row _,row_row i _ (row_apart i a rfl),?_,?_⟩
 · have := row_row hown #[vS, .slice (some ⟨g, 0, none⟩) (p.locks.length + d.length) cap, .slice none 0 0] l
   simp only [List.length_append,dcsL,List.flatMap_append] at this ⊢;exact this
 · cases hv : vS.ownBlock with
   | none=>exact .inl rfl
   | some b =>
     right;intro e;have e:b=g:=by simpa [Value.ownBlock] using e
     subst e;rcases hl with hl | hl
     · rcases h.ne with f | f
       · rw [f] at hv;cases hv
       · exact f (by rw [hl,hv])
     · have := (h.rS.lt b hv).2
       omega
end
theorem p_shared {c:Par} {w0 W:World} {pb:Nat} {vS vL:Value} {p:Pg} {k0 k n:Nat} (R:Rd c w0 k0) (hn:(c.at k).length<n) (G:PgI c w0 pb vS vL p W k) (hl:p.shared.length+(c.at k).length<=65536) :
 Calls Tryz.prog 92 #[c.ptr,.pointer (some ⟨pb,0,none⟩)] W fun e w'=>match listP c.L (firstP c.L) n [] (c.at k) with
  | .ok d r=>∃ v' k',e=.returned (.tuple #[])/\PgI c w0 pb v' vL { p with shared:=p.shared++d } w' k'/\r=c.at k'
  | .bad q rl=>e=.panicked (flt q rl)/\Fr c w0 w':=by
 have o:Hid (∀ l r,listP c.L (firstP c.L) n [] (c.at k)=.ok l r->l.length<=(c.at k).length):=fun l r h=>by simpa using list_count (fun _ _ _=>firstP_short) h
 have V:Hid (∀ W,Rd c W k->Calls Tryz.prog 104 #[c.ptr,.func (.func 141) #[c.ptr] #[]] W (RdPost c W (listP c.L (firstP c.L) n [] (c.at k)) (fun l v w'=>w'.ownsRow W.heap.size 61 3 v l.length (dcsL l)/\l≠[]))):=fun W RW=>p_list_first RW hn
 obtain ⟨Y,hY⟩:=Qx (listP c.L (firstP c.L) n [] (c.at k));rw [<- hY] at V o ⊢;have HR:=Hd R;have E:=Hd R.lt;have HG:=Hd G;have M:=Hd hl;obtain ⟨SH,ae⟩:∃ f:List Dc->Pg,f=fun d=>{ p with shared:=p.shared++d }:=⟨_,rfl⟩
 obtain ⟨nl,xl,aj⟩:∃ nl xl,nl=p.shared.length/\xl=dcsL p.shared:=⟨_,_,rfl,rfl⟩;clear hY R G hn hl;unfold Par.ptr at *;go_enter Tryz.func92,Tryz.ntmps92;refine wp_region_held (S:=fun _=>True) (by kernel_rfl) ?_
 have G:=HG.out.drew;obtain ⟨W0,I⟩:=Qx W.drew;change wpAnyH _ _ _ _ _ _ _ _ W.drew;rw [<- I] at G ⊢;clear I;refine dk 0 (.pointer (some ⟨pb,0,none⟩)) rfl rfl (fun _ _=>rfl) trivial ?_
 change wpAnyH _ _ _ _ _ _ _ F16_ _;delta F16_;refine dk 1 (.pointer (some ⟨pb,0,none⟩)) rfl rfl (fun _ _=>rfl) trivial ?_
 change wpAnyH _ _ _ _ _ _ _ F16_ _;delta F16_;refine dk 2 (.pointer (some ⟨pb,0,none⟩)) rfl rfl (fun _ _=>by unfold execOp;go_simp) trivial ?_
 change wpAnyH _ _ _ _ _ _ _ F16_ _;delta F16_;refine dk 3 (.pointer (some ⟨pb,0,none⟩)) rfl rfl (fun _ _=>by unfold execOp;go_simp) trivial ?_
 change wpAnyH _ _ _ _ _ _ _ F16_ _;delta F16_;refine dk 5 (.pointer (some ⟨c.X,0,none⟩)) rfl rfl (fun _ _=>rfl) trivial ?_
 change wpAnyH _ _ _ _ _ _ _ F16_ _;delta F16_;refine dk 6 (.pointer (some ⟨c.X,0,none⟩)) rfl rfl (fun _ _=>rfl) trivial ?_
 change wpAnyH _ _ _ _ _ _ _ F16_ _;delta F16_;refine dk 7 (.func (.func 141) #[.pointer (some ⟨c.X,0,none⟩)] #[]) rfl rfl (fun _ _=>by unfold execOp;go_simp) trivial ?_
 change wpAnyH _ _ _ _ _ _ _ F16_ _;delta F16_;refine dr_two 4 8 rfl rfl rfl rfl (by kernel_rfl) ?_ ?_
 · refine wp_ld_dcs rfl rfl (G.cell (i := 0) (v := vS) rfl) ⟨trivial, ?_⟩
   change wpAnyH _ _ _ _ _ _ _ F16_ _;delta F16_;refine do1 8 rfl rfl ?_;refine wp_call (vs:=#[.pointer (some ⟨c.X,0,none⟩),.func (.func 141) #[.pointer (some ⟨c.X,0,none⟩)] #[]]) rfl rfl (enters_of Tryz.func104 (by kernel_rfl) rfl) (by simp [Act.eval]) (V.out _ (G.run.rd HR.out)) ?_
   rintro e P ⟨m,K⟩;rcases Y with ⟨d,r⟩ | ⟨q,rl⟩
   rotate_left
   · obtain rfl := K
     exact ⟨rfl,rfl,G.run.fr.trans m⟩
   obtain ⟨v1,Q,rfl,⟨b,s⟩,D,rfl⟩:=K;have y:=G.call m D E.out;have F:=o.out _ _ rfl;have hz:=Keep.size m;obtain ⟨T,t,rfl,O,J⟩:=b.form (List.length_pos_iff.2 s);refine ⟨trivial,?_⟩;change wpAnyH _ _ _ _ _ _ _ F16_ _;delta F16_;refine do1 9 rfl rfl ?_;obtain ⟨U,Z,z,B,C⟩:=info_parts infoDc;refine wp_append_lies P _ _ 23 rfl w0.heap.size 61 U _ 3 32 Tryz.underlying23 Z z B C rfl (by decide) vS p.shared.length (dcsL p.shared) rfl y.rS ⟨T,0,none⟩ d.length t (dcsL d) rfl (dcsL_len d) (row_news b) (dcsL_cells d) (List.length_pos_iff.2 s) (by simp only [maxLen];have:=M.out;omega) (by have:=M.out;omega) (by have:=y.run.fr.size;omega) _ rfl ?_
   intro N x w2 j a g H;refine ⟨trivial,?_⟩;change wpAnyH _ _ _ _ _ _ _ F16_ _;delta F16_;refine dk 10 (.pointer (some ⟨pb,0,none⟩)) rfl rfl (fun _ _=>by unfold execOp;go_simp) trivial ?_
   change wpAnyH _ _ _ _ _ _ _ F16_ _;delta F16_;refine dk 11 (.pointer (some ⟨pb,0,none⟩)) rfl rfl (fun _ _=>by unfold execOp;go_simp) trivial ?_
   change wpAnyH _ _ _ _ _ _ _ F16_ _;delta F16_;refine do1 12 rfl rfl ?_;have A:=y.grownS a E.out;refine wp_st_dcs rfl rfl rfl (u:=vS) (cr A.2.2.1) (own_frozen A.2.2.1 0) ⟨trivial,?_⟩;refine wpAnyH_done (by kernel_rfl) ?_ _
   go_end0;rw [setCell_row A.2.2.1 0 _];exact ⟨.slice (some ⟨N,0,none⟩) (p.shared.length+d.length) x,Q,rfl,y.endS E.out a j g,rfl⟩
 · skip
   refine wp_call (vs:=#[.pointer (some ⟨c.X,0,none⟩),.func (.func 141) #[.pointer (some ⟨c.X,0,none⟩)] #[]]) rfl rfl (enters_of Tryz.func104 (by kernel_rfl) rfl) (by simp [Act.eval]) (V.out _ (G.run.rd HR.out)) ?_
   rintro e P ⟨m,K⟩;rcases Y with ⟨d,r⟩ | ⟨q,rl⟩
   rotate_left
   · obtain rfl := K
     exact ⟨rfl,rfl,G.run.fr.trans m⟩
   obtain ⟨v1,Q,rfl,⟨b,s⟩,D,rfl⟩:=K;have y:=G.call m D E.out;have F:=o.out _ _ rfl;have hz:=Keep.size m;obtain ⟨T,t,rfl,O,J⟩:=b.form (List.length_pos_iff.2 s);refine ⟨trivial,?_⟩;change wpAnyH _ _ _ _ _ _ _ F16_ _;delta F16_;refine do1 4 rfl rfl ?_;refine wp_ld_dcs rfl rfl (y.cell (i:=0) (v:=vS) rfl) ⟨trivial,?_⟩;change wpAnyH _ _ _ _ _ _ _ F16_ _;delta F16_;refine do1 9 rfl rfl ?_;obtain ⟨U,Z,z,B,C⟩:=info_parts infoDc;refine wp_append_lies P _ _ 23 rfl w0.heap.size 61 U _ 3 32 Tryz.underlying23 Z z B C rfl (by decide) vS p.shared.length (dcsL p.shared) rfl y.rS ⟨T,0,none⟩ d.length t (dcsL d) rfl (dcsL_len d) (row_news b) (dcsL_cells d) (List.length_pos_iff.2 s) (by simp only [maxLen];have:=M.out;omega) (by have:=M.out;omega) (by have:=y.run.fr.size;omega) _ rfl ?_
   intro N x w2 j a g H;refine ⟨trivial,?_⟩;change wpAnyH _ _ _ _ _ _ _ F16_ _;delta F16_;refine dk 10 (.pointer (some ⟨pb,0,none⟩)) rfl rfl (fun _ _=>by unfold execOp;go_simp) trivial ?_
   change wpAnyH _ _ _ _ _ _ _ F16_ _;delta F16_;refine dk 11 (.pointer (some ⟨pb,0,none⟩)) rfl rfl (fun _ _=>by unfold execOp;go_simp) trivial ?_
   change wpAnyH _ _ _ _ _ _ _ F16_ _;delta F16_;refine do1 12 rfl rfl ?_;have A:=y.grownS a E.out;refine wp_st_dcs rfl rfl rfl (u:=vS) (cr A.2.2.1) (own_frozen A.2.2.1 0) ⟨trivial,?_⟩;refine wpAnyH_done (by kernel_rfl) ?_ _
   go_end0;rw [setCell_row A.2.2.1 0 _];exact ⟨.slice (some ⟨N,0,none⟩) (p.shared.length+d.length) x,Q,rfl,y.endS E.out a j g,rfl⟩
theorem p_locks {c:Par} {w0 W:World} {pb:Nat} {vS vL:Value} {p:Pg} {k0 k n:Nat} (R:Rd c w0 k0) (hn:(c.at k).length<n) (G:PgI c w0 pb vS vL p W k) (hl:p.locks.length+(c.at k).length<=65536) :
 Calls Tryz.prog 93 #[c.ptr,.pointer (some ⟨pb,0,none⟩)] W fun e w'=>match listP c.L (nameP c.L) n [] (c.at k) with
  | .ok d r=>∃ v' k',e=.returned (.tuple #[])/\PgI c w0 pb vS v' { p with locks:=p.locks++d } w' k'/\r=c.at k'
  | .bad q rl=>e=.panicked (flt q rl)/\Fr c w0 w':=by
 have o:Hid (∀ l r,listP c.L (nameP c.L) n [] (c.at k)=.ok l r->l.length<=(c.at k).length):=fun l r h=>by simpa using list_count (fun _ _ _=>nameP_short) h
 have V:Hid (∀ W,Rd c W k->Calls Tryz.prog 104 #[c.ptr,.func (.func 102) #[c.ptr] #[]] W (RdPost c W (listP c.L (nameP c.L) n [] (c.at k)) (fun l v w'=>w'.ownsRow W.heap.size 61 3 v l.length (dcsL l)/\l≠[]))):=fun W RW=>p_list_name RW hn
 obtain ⟨Y,hY⟩:=Qx (listP c.L (nameP c.L) n [] (c.at k));rw [<- hY] at V o ⊢;have HR:=Hd R;have E:=Hd R.lt;have HG:=Hd G;have M:=Hd hl;obtain ⟨SH,ae⟩:∃ f:List Dc->Pg,f=fun d=>{ p with locks:=p.locks++d }:=⟨_,rfl⟩
 obtain ⟨nl,xl,aj⟩:∃ nl xl,nl=p.locks.length/\xl=dcsL p.locks:=⟨_,_,rfl,rfl⟩;clear hY R G hn hl;unfold Par.ptr at *;go_enter Tryz.func93,Tryz.ntmps93;refine wp_region_held (S:=fun _=>True) (by kernel_rfl) ?_
 have G:=HG.out.drew;obtain ⟨W0,I⟩:=Qx W.drew;change wpAnyH _ _ _ _ _ _ _ _ W.drew;rw [<- I] at G ⊢;clear I;refine dk 0 (.pointer (some ⟨pb,0,none⟩)) rfl rfl (fun _ _=>rfl) trivial ?_
 change wpAnyH _ _ _ _ _ _ _ F16_ _;delta F16_;refine dk 1 (.pointer (some ⟨pb,0,none⟩)) rfl rfl (fun _ _=>rfl) trivial ?_
 change wpAnyH _ _ _ _ _ _ _ F16_ _;delta F16_;refine dk 2 (.pointer (some ⟨pb,0,none⟩)) rfl rfl (fun _ _=>by unfold execOp;go_simp) trivial ?_
 change wpAnyH _ _ _ _ _ _ _ F16_ _;delta F16_;refine dk 3 (.pointer (some ⟨pb,1,none⟩)) rfl rfl (fun _ _=>by unfold execOp;go_simp) trivial ?_
 change wpAnyH _ _ _ _ _ _ _ F16_ _;delta F16_;refine dk 5 (.pointer (some ⟨c.X,0,none⟩)) rfl rfl (fun _ _=>rfl) trivial ?_
 change wpAnyH _ _ _ _ _ _ _ F16_ _;delta F16_;refine dk 6 (.pointer (some ⟨c.X,0,none⟩)) rfl rfl (fun _ _=>rfl) trivial ?_
 change wpAnyH _ _ _ _ _ _ _ F16_ _;delta F16_;refine dk 7 (.func (.func 102) #[.pointer (some ⟨c.X,0,none⟩)] #[]) rfl rfl (fun _ _=>by unfold execOp;go_simp) trivial ?_
 change wpAnyH _ _ _ _ _ _ _ F16_ _;delta F16_;refine dr_two 4 8 rfl rfl rfl rfl (by kernel_rfl) ?_ ?_
 · refine wp_ld_dcs rfl rfl (G.cell (i := 1) (v := vL) rfl) ⟨trivial, ?_⟩
   change wpAnyH _ _ _ _ _ _ _ F16_ _;delta F16_;refine do1 8 rfl rfl ?_;refine wp_call (vs:=#[.pointer (some ⟨c.X,0,none⟩),.func (.func 102) #[.pointer (some ⟨c.X,0,none⟩)] #[]]) rfl rfl (enters_of Tryz.func104 (by kernel_rfl) rfl) (by simp [Act.eval]) (V.out _ (G.run.rd HR.out)) ?_
   rintro e P ⟨m,K⟩;rcases Y with ⟨d,r⟩ | ⟨q,rl⟩
   rotate_left
   · obtain rfl := K
     exact ⟨rfl,rfl,G.run.fr.trans m⟩
   obtain ⟨v1,Q,rfl,⟨b,s⟩,D,rfl⟩:=K;have y:=G.call m D E.out;have F:=o.out _ _ rfl;have hz:=Keep.size m;obtain ⟨T,t,rfl,O,J⟩:=b.form (List.length_pos_iff.2 s);refine ⟨trivial,?_⟩;change wpAnyH _ _ _ _ _ _ _ F16_ _;delta F16_;refine do1 9 rfl rfl ?_;obtain ⟨U,Z,z,B,C⟩:=info_parts infoDc;refine wp_append_lies P _ _ 23 rfl w0.heap.size 61 U _ 3 32 Tryz.underlying23 Z z B C rfl (by decide) vL p.locks.length (dcsL p.locks) rfl y.rL ⟨T,0,none⟩ d.length t (dcsL d) rfl (dcsL_len d) (row_news b) (dcsL_cells d) (List.length_pos_iff.2 s) (by simp only [maxLen];have:=M.out;omega) (by have:=M.out;omega) (by have:=y.run.fr.size;omega) _ rfl ?_
   intro N x w2 j a g H;refine ⟨trivial,?_⟩;change wpAnyH _ _ _ _ _ _ _ F16_ _;delta F16_;refine dk 10 (.pointer (some ⟨pb,0,none⟩)) rfl rfl (fun _ _=>by unfold execOp;go_simp) trivial ?_
   change wpAnyH _ _ _ _ _ _ _ F16_ _;delta F16_;refine dk 11 (.pointer (some ⟨pb,1,none⟩)) rfl rfl (fun _ _=>by unfold execOp;go_simp) trivial ?_
   change wpAnyH _ _ _ _ _ _ _ F16_ _;delta F16_;refine do1 12 rfl rfl ?_;have A:=y.grownL a E.out;refine wp_st_dcs rfl rfl rfl (u:=vL) (cr A.2.2.1) (own_frozen A.2.2.1 1) ⟨trivial,?_⟩;refine wpAnyH_done (by kernel_rfl) ?_ _
   go_end0;rw [setCell_row A.2.2.1 1 _];exact ⟨.slice (some ⟨N,0,none⟩) (p.locks.length+d.length) x,Q,rfl,y.endL E.out a j g,rfl⟩
 · skip
   refine wp_call (vs:=#[.pointer (some ⟨c.X,0,none⟩),.func (.func 102) #[.pointer (some ⟨c.X,0,none⟩)] #[]]) rfl rfl (enters_of Tryz.func104 (by kernel_rfl) rfl) (by simp [Act.eval]) (V.out _ (G.run.rd HR.out)) ?_
   rintro e P ⟨m,K⟩;rcases Y with ⟨d,r⟩ | ⟨q,rl⟩
   rotate_left
   · obtain rfl := K
     exact ⟨rfl,rfl,G.run.fr.trans m⟩
   obtain ⟨v1,Q,rfl,⟨b,s⟩,D,rfl⟩:=K;have y:=G.call m D E.out;have F:=o.out _ _ rfl;have hz:=Keep.size m;obtain ⟨T,t,rfl,O,J⟩:=b.form (List.length_pos_iff.2 s);refine ⟨trivial,?_⟩;change wpAnyH _ _ _ _ _ _ _ F16_ _;delta F16_;refine do1 4 rfl rfl ?_;refine wp_ld_dcs rfl rfl (y.cell (i:=1) (v:=vL) rfl) ⟨trivial,?_⟩;change wpAnyH _ _ _ _ _ _ _ F16_ _;delta F16_;refine do1 9 rfl rfl ?_;obtain ⟨U,Z,z,B,C⟩:=info_parts infoDc;refine wp_append_lies P _ _ 23 rfl w0.heap.size 61 U _ 3 32 Tryz.underlying23 Z z B C rfl (by decide) vL p.locks.length (dcsL p.locks) rfl y.rL ⟨T,0,none⟩ d.length t (dcsL d) rfl (dcsL_len d) (row_news b) (dcsL_cells d) (List.length_pos_iff.2 s) (by simp only [maxLen];have:=M.out;omega) (by have:=M.out;omega) (by have:=y.run.fr.size;omega) _ rfl ?_
   intro N x w2 j a g H;refine ⟨trivial,?_⟩;change wpAnyH _ _ _ _ _ _ _ F16_ _;delta F16_;refine dk 10 (.pointer (some ⟨pb,0,none⟩)) rfl rfl (fun _ _=>by unfold execOp;go_simp) trivial ?_
   change wpAnyH _ _ _ _ _ _ _ F16_ _;delta F16_;refine dk 11 (.pointer (some ⟨pb,1,none⟩)) rfl rfl (fun _ _=>by unfold execOp;go_simp) trivial ?_
   change wpAnyH _ _ _ _ _ _ _ F16_ _;delta F16_;refine do1 12 rfl rfl ?_;have A:=y.grownL a E.out;refine wp_st_dcs rfl rfl rfl (u:=vL) (cr A.2.2.1) (own_frozen A.2.2.1 1) ⟨trivial,?_⟩;refine wpAnyH_done (by kernel_rfl) ?_ _
   go_end0;rw [setCell_row A.2.2.1 1 _];exact ⟨.slice (some ⟨N,0,none⟩) (p.locks.length+d.length) x,Q,rfl,y.endL E.out a j g,rfl⟩
open Go.RowKit
set_option linter.unusedVariables false
def thR (n:Nat) (t:Th) (v:Value) (W:World):Prop:=∃ a1 c1 a2 c2,v=.agg #[.string t.name,.slice a1 t.locals.length c1,.slice a2 t.body.length c2,.int .i64 t.pos]/\dcsAt (fun b=>n<=b) W t.locals a1/\stsAt (fun b=>n<=b) W t.body a2
structure ThI (c:Par) (w0:World) (tb:Nat) (nm:ByteArray) (p:Int) (vL:Value) (l:List Dc) (W:World) (k:Nat):Prop where
 run:At c w0 W k
 ge:w0.heap.size<tb
 res:Own W w0.heap.size 66 zTh
 own:Own W tb 66 #[.string nm,vL,.slice none 0 0,.int .i64 p]
 row:W.ownsRow w0.heap.size 61 3 vL l.length (dcsL l)
section
variable {c:Par} {w0 W W':World} {tb:Nat} {nm:ByteArray} {p:Int} {vL:Value} {l:List Dc} {k k2:Nat}
theorem ThI.call (h:ThI c w0 tb nm p vL l W k) (hf:Fr c W W') (hp:Rd c W' k2) (hX:c.X<w0.heap.size):ThI c w0 tb nm p vL l W' k2 :=
 ⟨h.run.call hf hp,h.ge,h.res.fr hf (by omega),h.own.fr hf (by have:=h.ge;omega),row_fr h.row hf hX⟩
theorem ThI.cell (h:ThI c w0 tb nm p vL l W k) {i:Nat} {v:Value} (hv:(#[.string nm,vL,.slice none 0 0,.int .i64 p]:Array Value)[i]? = some v):W.cell? ⟨tb,i,none⟩=some v:=by rw [cell_of_row W _ i _ _ _ h.own];exact hv
theorem ThI.drew (h:ThI c w0 tb nm p vL l W k):ThI c w0 tb nm p vL l W.drew k:=⟨h.run.drew,h.ge,h.res,h.own,h.row⟩
theorem ThI.grown (h:ThI c w0 tb nm p vL l W k) (hg:W.grownBy W' vL.ownBlock) (hX:c.X<w0.heap.size):At c w0 W' k/\Own W' w0.heap.size 66 zTh/\Own W' tb 66 #[.string nm,vL,.slice none 0 0,.int .i64 p] :=
 ⟨grown_fr h.run hg (fun r hr=>by have:=(h.row.lt r hr).1;exact ⟨this,by omega⟩),own_grown h.res hg (row_apart h.row h.res rfl),own_grown h.own hg (row_apart h.row h.own rfl)⟩
theorem ThI.end_ (h:ThI c w0 tb nm p vL l W k) {g cap:Nat} {d:List Dc} (hX:c.X<w0.heap.size) (hg:W.grownBy W' vL.ownBlock) (hown:W'.ownsRow w0.heap.size 61 3 (.slice (some ⟨g,0,none⟩) (l.length+d.length) cap) (l.length+d.length) (dcsL l++dcsL d)) :
 ThI c w0 tb nm p (.slice (some ⟨g,0,none⟩) (l.length+d.length) cap) (l++d) (W'.setRow tb #[.string nm,.slice (some ⟨g,0,none⟩) (l.length+d.length) cap,.slice none 0 0,.int .i64 p]) k:=by
 obtain ⟨f,i,a⟩:=h.grown hg hX;have b:=row_apart hown a rfl;refine ⟨f.setRow (by have:=h.ge;omega) (by have:=h.ge;omega) _,h.ge,i.other _ (by have:=h.ge;omega),a.row _,?_⟩
 have:=row_row hown #[.string nm,.slice (some ⟨g,0,none⟩) (l.length+d.length) cap,.slice none 0 0,.int .i64 p] b;simp only [List.length_append,dcsL,List.flatMap_append] at this ⊢;exact this
end
theorem list_both {L:Int} {one:List Tk->PR Dc} (ho:∀ ts d r,one ts=.ok d r->r.length<ts.length):∀ {n:Nat} {acc:List Dc} {ts:List Tk} {l:List Dc} {r:List Tk},listP L one n acc ts=.ok l r->l.length+r.length<=acc.length+ts.length
 | 0,acc,ts,l,r,h=>by simp [listP] at h
 | n + 1, acc, ts, l, r, h => by
   simp only [listP] at h
   obtain ⟨a,b,h1,h2⟩:=PR.then_eq_ok h
   have k:=ho _ _ _ h1
   split at h2
   · have := list_both ho h2
     rw [List.length_append,List.length_tail] at this
     simp at this
     omega
   · obtain ⟨u, c, h3, h4⟩ := PR.then_eq_ok h2
     cases h4
     have:=(need_ok h3).2.2
     rw [List.length_append]
     simp
     omega
def LocI (c:Par) (w:World) (tb:Nat) (nm:ByteArray) (p:Int) (Y:PR (List Dc)) (m:Nat) (W:World):Prop :=
 ∃ (j:Nat) (l:List Dc) (vL:Value),ThI c w tb nm p vL l W j/\localsP c.L m l (c.at j)=Y/\(c.at j).length<m/\l.length+(c.at j).length<=65536
theorem p_thread {c:Par} {w:World} {k n:Nat} (R:Rd c w k) (hn:3*(c.at k).length+2<=n) :
 Calls Tryz.prog 41 #[c.ptr] w (RdPost c w (threadP fnd c.L n (c.at k)) (fun t v w'=>thR w.heap.size t v w')):=by
 obtain ⟨Y,hY⟩:=Qx (threadP fnd c.L n (c.at k));obtain ⟨Y1,M⟩:=Qx (nameP c.L (c.at k));have P:Hid (Y=Y1.then fun d r=>(openP c.L 1 r).then fun _ r=>(localsP c.L n [] r).then fun l r=>(restP fnd c.L n 1 [] r).then fun b r=>.ok ⟨d.name,l,b,d.pos⟩ r):=by rw [Hid,hY,M];rfl
 have cj:Hid (∀ W,Rd c W k->Calls Tryz.prog 102 #[c.ptr] W (RdPost c W Y1 (fun d v _=>v=dcVal d))):=fun W RW=>by rw [M];exact p_name RW
 have ca:Hid (∀ d r,Y1=.ok d r->r.length<(c.at k).length):=fun d r h=>nameP_short (M.symm.trans h)
 have bo:(c.at k).length<=65536:=by rw [Par.at_len];have:=R.s.small.1;omega
 rw [<- hY];have HP:Hid (∀ W j (s:ByteArray),Rd c W j->s.data.toList≠[]->Calls Tryz.prog 40 #[c.ptr,.string s] W fun e w'=>e=.returned (.bool (isT s.data.toList (c.at j)))/\Fr c W w'/\Rd c w' (if isT s.data.toList (c.at j)=true then j+1 else j)):=fun W j s RW hs=>p_pass RW s hs
 have HO:Hid (∀ W j,Rd c W j->Calls Tryz.prog 103 #[c.ptr,.int .i64 1] W (RdPost c W (openP c.L 1 (c.at j)) (fun _ v _=>v=.tuple #[]))):=fun W j RW=>p_open RW 1
 have b4:Hid (∀ W j,Rd c W j->3*(c.at j).length+2<=n->Calls Tryz.prog 105 #[c.ptr,.int .i64 1] W (RdPost c W (restP fnd c.L n 1 [] (c.at j)) (fun l v w'=>stsVal W.heap.size l v w'))):=fun W j RW hf=>p_rest (fun m _=>stmt_all m) RW (by decide) (by decide) hf
 have A0:=Hd ((At.start R).alloc (.cells zTh 66));have O0:=Own.new w 66 zTh;have HR:=Hd R;have O:=Hd R.lt;have HM:=Hd (And.intro hn bo);clear hY M R hn bo;unfold Par.ptr dcVal zTh at *;go_enter Tryz.func41,Tryz.ntmps41;go_wp2_with fail;go_at_call 102;refine (cj.out _ (A0.out.rd HR.out)).mono ?_;rintro e w1 ⟨U,bn⟩;rcases Y1 with ⟨d1,r1⟩ | ⟨p,q⟩
 rotate_left
 · obtain rfl := bn
   have Q:=Hd (A0.out.fr.trans U);clear U;go_wp2_with fail;refine ⟨rfl,?_⟩;rw [P.out];exact ⟨Q.out,rfl⟩
 obtain ⟨v1,k1,rfl,rfl,T,rfl⟩:=bn;obtain ⟨A,dw,C⟩:=d1;have P:Hid (Y=(openP c.L 1 (c.at k1)).then fun _ r=>(localsP c.L n [] r).then fun l r=>(restP fnd c.L n 1 [] r).then fun b r=>.ok ⟨A,l,b,C⟩ r):=P.out
 have aa:=ca.out _ _ rfl;have G:Hid (ThI c w (w1.heap.size+1) A C (.slice none 0 0) [] ((w1.alloc (.cells #[.string A,.int .i64 dw,.int .i64 C] 61)).alloc (.cells #[.string A,.slice none 0 0,.slice none 0 0,.int .i64 C] 66)) k1):=by
  have hz:=(O0.fr U (by have:=O.out;omega)).lt
  have o2:=Own.new (w1.alloc (.cells #[.string A,.int .i64 dw,.int .i64 C] 61)) 66 #[.string A,.slice none 0 0,.slice none 0 0,.int .i64 C];rw [World.size_alloc] at o2;exact ⟨((A0.out.call U T).alloc _).alloc _,by omega,((O0.fr U (by have:=O.out;omega)).alloc _).alloc _,o2,World.ownsRow_nil _ _ _ _⟩
 have ac:=Hd aa;clear U T aa O0 A0;go_wp2_with fail;obtain ⟨W,hW⟩:=Qx (((w1.alloc (.cells #[.string A,.int .i64 dw,.int .i64 C] 61)).alloc (.cells #[.string A,.slice none 0 0,.slice none 0 0,.int .i64 C] 66)));rw [<- hW] at G ⊢;clear hW;obtain ⟨N,aw⟩:=Qx (w1.heap.size+1);rw [<- aw] at G ⊢;have c0:Hid (w1.heap.size+1=N):=aw.symm;obtain ⟨DB,bd⟩:=Qx w1.heap.size;rw [<- bd];clear aw bd;obtain ⟨Z2,am⟩:=Qx (openP c.L 1 (c.at k1));have b7:Hid (∀ W,Rd c W k1->Calls Tryz.prog 103 #[.pointer (some ⟨c.X,0,none⟩),.int .i64 1] W (RdPost c W Z2 (fun _ v _=>v=.tuple #[]))):=fun W RW=>by rw [am];exact HO.out W k1 RW
 have ai:Hid (∀ u r,Z2=.ok u r->r.length<(c.at k1).length):=fun u r h=>by have:=open_short (am.symm.trans h);omega
 have P:Hid (Y=Z2.then fun _ r=>(localsP c.L n [] r).then fun l r=>(restP fnd c.L n 1 [] r).then fun b r=>.ok ⟨A,l,b,C⟩ r):=by rw [Hid,P.out,am]
 clear am;go_at_call 103;refine (b7.out _ (G.out.run.rd HR.out)).mono ?_;rintro e w2 ⟨ap,bb⟩;rcases Z2 with ⟨u2,r2⟩ | ⟨p,q⟩
 rotate_left
 · obtain rfl := bb
   have Q:=Hd (G.out.run.fr.trans ap);clear ap;go_wp2_with fail;refine ⟨rfl,?_⟩;rw [P.out];exact ⟨Q.out,rfl⟩
 obtain ⟨v2,k2,rfl,rfl,bs,rfl⟩:=bb;have ai:=Hd (ai.out _ _ rfl);have G:=Hd (G.out.call ap bs O.out);obtain ⟨Z3,aq⟩:=Qx (localsP c.L n [] (c.at k2));have P:Hid (Y=Z3.then fun l r=>(restP fnd c.L n 1 [] r).then fun b r=>.ok ⟨A,l,b,C⟩ r):=by rw [Hid,P.out,aq];rfl
 have ch:Hid (∀ l r,Z3=.ok l r->r.length<=(c.at k2).length):=fun l r h=>locals_short _ _ _ _ _ (aq.symm.trans h)
 have B0:Hid (LocI c w N A C Z3 n w2):=⟨k2,[],_,G.out,aq.symm,by have:=HM.out;have:=ac.out;have:=ai.out;omega,by have:=HM.out;have:=ac.out;have:=ai.out;simp;omega⟩
 clear ap bs aq G;go_wp2_with fail;go_loopg [] n (fun m W=>LocI c w N A C Z3 m W/\m<=n)
 case atStart=>exact ⟨B0.out,Nat.le_refl _⟩
 case round =>
  obtain ⟨⟨j,l,vL,K,M,bc,bu⟩,bv⟩:=hrel;have G:=Hd K;have E:=Hd (And.intro bc bu);have bh:=Hd bv;have be:=Hd M;clear K M bc bu bv;obtain ⟨m,rfl⟩:∃ m,gk=m+1:=⟨gk-1,by have:=E.out.1;omega⟩
  obtain ⟨B,hB⟩:=Qx (isT [108,111,99,97,108] (c.at j));have bw:Hid (∀ W,Rd c W j->Calls Tryz.prog 40 #[.pointer (some ⟨c.X,0,none⟩),.string ⟨#[108,111,99,97,108]⟩] W fun e w'=>e=.returned (.bool B)/\Fr c W w'/\Rd c w' (if B=true then j+1 else j)):=fun W RW=>by rw [hB];exact HP.out W j ⟨#[108,111,99,97,108]⟩ RW (by decide)
  cases B with
  | false =>
    have ae:Z3=.ok l (c.at j):=by rw [<- be.out];unfold localsP;rw [<- hB];rfl
    have HZ:=Hd ae;clear ae hB;go_wp2_with fail;go_at_call 40;refine (bw.out _ (G.out.run.rd HR.out)).mono ?_;rintro e w3 ⟨rfl,V,ad⟩;have G:=Hd (G.out.call V (show Rd c w3 j from ad) O.out)
    clear V ad;go_wp2_with fail;have HK:=Hd (ch.out _ _ HZ.out);obtain ⟨Z4,I⟩:=Qx (restP fnd c.L n 1 [] (c.at j));have an:Hid (∀ W,Rd c W j->Calls Tryz.prog 105 #[.pointer (some ⟨c.X,0,none⟩),.int .i64 1] W (RdPost c W Z4 (fun l v w'=>stsVal W.heap.size l v w'))):=fun W RW=>by rw [I];exact b4.out W j RW (by have:=HM.out.1;have:=ac.out;have:=ai.out;have:=HK.out;omega)
    have P:Hid (Y=Z4.then fun b r=>.ok ⟨A,l,b,C⟩ r):=by rw [Hid,P.out,HZ.out,I];rfl
    clear I;go_at_call 105;refine (an.out _ (G.out.run.rd HR.out)).mono ?_;rintro e w4 ⟨y,bj⟩;rcases Z4 with ⟨l4,r4⟩ | ⟨p,q⟩
    rotate_left
    · obtain rfl := bj
      have Q:=Hd (G.out.run.fr.trans y);clear y;go_wp2_with fail;refine ⟨rfl,?_⟩;show RdPost c w Y _ _ _;rw [P.out];exact ⟨Q.out,rfl⟩
    obtain ⟨v4,k4,rfl,⟨a4,f,rfl,ba⟩,br,rfl⟩:=bj;have bq:=G.out.own.lt;have al:=Hd G.out.ge;have V4:=Hd (stsAt_mono (R':=fun b=>w.heap.size<=b/\b≠N/\b≠w.heap.size) ba (fun b hb=>by have:=al.out;change _<=_ at hb;omega))
    have G:=Hd (G.out.call y br O.out);clear y br ba bq;obtain ⟨oa,D,rfl,bi⟩:=row_shape G.out.row;have cb:=Hd bi;clear bi;have E5:w4.setCell ⟨N,2,none⟩ (.slice a4 l4.length f)=w4.setRow N #[.string A,.slice oa l.length D,.slice a4 l4.length f,.int .i64 C]:=setCell_row G.out.own 2 _;have c4:=G.out.cell (i:=2) (v:=.slice none 0 0) rfl;have z4:=own_frozen G.out.own 2;have a2:w.heap.size≠N:=by have:=al.out;omega
    have a1:c.X≠N:=by have:=al.out;have:=O.out;omega
    have Z:c.X≠w.heap.size:=by have:=O.out;omega
    have OR:=G.out.res.other (g:=N) #[.string A,.slice oa l.length D,.slice a4 l4.length f,.int .i64 C] a2;have OS:=G.out.own.row #[.string A,.slice oa l.length D,.slice a4 l4.length f,.int .i64 C];have ci:=Hd (row_row G.out.row #[.string A,.slice oa l.length D,.slice a4 l4.length f,.int .i64 C] (row_apart G.out.row G.out.own rfl));have RA:=Hd (row_apart G.out.row G.out.res rfl);have V5:=Hd (stsAt_stays (stays_row w4 (g:=N) #[.string A,.slice oa l.length D,.slice a4 l4.length f,.int .i64 C] (fun b hb=>hb.2.1)) (fun b hb=>hb) V4.out)
    have A5:=Hd (G.out.run.setRow (g:=N) (by have:=al.out;omega) a1 #[.string A,.slice oa l.length D,.slice a4 l4.length f,.int .i64 C])
    have a2:=Hd a2;have a1:=Hd a1;have Z:=Hd Z;unfold zTh at OR;go_wp2_with (first | (refine ld rowTh rfl rfl rfl OS rfl ?_) | (refine st rowTh rfl rfl OR rfl rfl (by rfl) (by rfl) (by kernel_rfl) ?_))
    clear E5 c4 z4;have A6:=A5.out.setRow (Nat.le_refl _) Z.out #[.string A,.slice oa l.length D,.slice a4 l4.length f,.int .i64 C];refine p_ret rowTh rfl (OR.row #[.string A,.slice oa l.length D,.slice a4 l4.length f,.int .i64 C]) rfl rfl rfl ?_;show RdPost c w Y _ _ _;rw [P.out];refine ⟨A6.fr,_,k4,rfl,⟨oa,D,a4,f,rfl,?_,stsAt_stays (stays_row _ (g:=w.heap.size) _ (fun b hb=>hb.2.2)) (fun b hb=>hb.1) V5.out⟩,A6.rd HR.out,rfl⟩
    have bz:=row_row ci.out (g:=w.heap.size) #[.string A,.slice oa l.length D,.slice a4 l4.length f,.int .i64 C] RA.out;cases l with
    | nil=>exact .inl rfl
    | cons x xx =>
      obtain ⟨g,rfl,hg⟩:=cb.out (by simp)
      exact .inr ⟨g,0,rfl,hg,dcsIn_of (row_cells bz rfl)⟩
  | true =>
    obtain ⟨Z4,I⟩:=Qx (listP c.L (nameP c.L) m [] (c.at (j+1)));have bg:=Par.isT_lt hB.symm;have a9:=at_step bg;have an:Hid (∀ W,Rd c W (j+1)->Calls Tryz.prog 104 #[.pointer (some ⟨c.X,0,none⟩),.func (.func 102) #[.pointer (some ⟨c.X,0,none⟩)] #[]] W (RdPost c W Z4 (fun l v w'=>w'.ownsRow W.heap.size 61 3 v l.length (dcsL l)/\l≠[]))):=fun W RW=>by rw [I];exact p_list_name RW (by have:=E.out.1;omega)
    have bf:Hid (∀ d r,Z4=.ok d r->d.length<=(c.at (j+1)).length/\d.length+r.length<=(c.at (j+1)).length):=fun d r h=>by have:=list_both (fun _ _ _=>nameP_short) (I.symm.trans h);simp at this;omega
    have ae:Z3=Z4.then fun d r=>localsP c.L m (l++d) r:=by
     rw [<- be.out];conv=>lhs;unfold localsP
     rw [<- hB,I,Par.at_tail];rfl
    have HZ:=Hd ae;have H:=Hd a9;clear ae hB I bg a9;go_wp2_with fail;go_at_call 40;refine (bw.out _ (G.out.run.rd HR.out)).mono ?_;rintro e w3 ⟨rfl,V,ad⟩;have G:=Hd (G.out.call V (show Rd c w3 (j+1) from ad) O.out)
    clear V ad;go_wp2_with fail;refine wp_region_held (S:=fun _=>True) (by kernel_rfl) ?_
    have G:=G.out.drew;change wpAnyH _ _ _ _ _ _ _ _ w3.drew;obtain ⟨W0,bk⟩:=Qx w3.drew;rw [<- bk] at G ⊢;clear bk;refine dk 0 (.pointer (some ⟨N,1,none⟩)) rfl rfl (fun _ _=>by unfold execOp;go_simp) trivial ?_
    change wpAnyH _ _ _ _ _ _ _ F28_ _;delta F28_;refine dk 2 (.pointer (some ⟨c.X,0,none⟩)) rfl rfl (fun _ _=>rfl) trivial ?_
    change wpAnyH _ _ _ _ _ _ _ F28_ _;delta F28_;refine dk 3 (.pointer (some ⟨c.X,0,none⟩)) rfl rfl (fun _ _=>rfl) trivial ?_
    change wpAnyH _ _ _ _ _ _ _ F28_ _;delta F28_;refine dk 4 (.func (.func 102) #[.pointer (some ⟨c.X,0,none⟩)] #[]) rfl rfl (fun _ _=>by unfold execOp;go_simp) trivial ?_
    change wpAnyH _ _ _ _ _ _ _ F28_ _;delta F28_;refine dr_two 1 5 rfl rfl rfl rfl (by kernel_rfl) ?_ ?_
    · refine wp_ld_dcs rfl rfl (G.cell (i := 1) (v := vL) rfl) ⟨trivial, ?_⟩
      change wpAnyH _ _ _ _ _ _ _ F28_ _;delta F28_;refine do1 5 rfl rfl ?_;refine wp_call (vs:=#[.pointer (some ⟨c.X,0,none⟩),.func (.func 102) #[.pointer (some ⟨c.X,0,none⟩)] #[]]) rfl rfl (enters_of Tryz.func104 (by kernel_rfl) rfl) (by simp [Act.eval]) (an.out _ (G.run.rd HR.out)) ?_
      rintro e w4 ⟨y,hm⟩;rcases Z4 with ⟨d,r⟩ | ⟨q,rl⟩
      rotate_left
      · obtain rfl := hm
        have Q:=G.run.fr.trans y;have Q:=Hd Q;clear y;go_wp2_with fail;refine ⟨rfl,?_⟩;show RdPost c w Y _ _ _;rw [P.out,HZ.out];exact ⟨Q.out,rfl⟩
      obtain ⟨v1,k3,rfl,⟨o,ag⟩,T,rfl⟩:=hm;have K:=G.call y T O.out;have J:=bf.out _ _ rfl;obtain ⟨g1,ah,rfl,ck,bl⟩:=o.form (List.length_pos_iff.2 ag);refine ⟨trivial,?_⟩;change wpAnyH _ _ _ _ _ _ _ F28_ _;delta F28_;refine do1 6 rfl rfl ?_;obtain ⟨i0,hi,av,az,ax⟩:=info_parts infoDc;refine wp_append_lies w4 _ _ 23 rfl w.heap.size 61 i0 _ 3 32 Tryz.underlying23 hi av az ax rfl (by decide) vL l.length (dcsL l) rfl K.row ⟨g1,0,none⟩ d.length ah (dcsL d) rfl (dcsL_len d) (row_news o) (dcsL_cells d) (List.length_pos_iff.2 ag) (by simp only [maxLen];have:=E.out.2;have:=H.out;omega) (by have:=E.out.2;have:=H.out;omega) (by have:=K.run.fr.size;omega) _ rfl ?_
      intro g2 bp w5 z a F a8;refine ⟨trivial,?_⟩;change wpAnyH _ _ _ _ _ _ _ F28_ _;delta F28_;refine dk 7 (.pointer (some ⟨N,1,none⟩)) rfl rfl (fun _ _=>by unfold execOp;go_simp) trivial ?_
      change wpAnyH _ _ _ _ _ _ _ F28_ _;delta F28_;refine do1 8 rfl rfl ?_;obtain ⟨B1,B2,B3⟩:=K.grown a O.out;refine wp_st_dcs rfl rfl rfl (u:=vL) (cr B3) (own_frozen B3 1) ⟨trivial,?_⟩;rw [setCell_row B3 1 _];have G3:=Hd (K.end_ O.out a z);have ab:=Hd J;refine wpAnyH_done (by kernel_rfl) ?_ _
      clear o z a F B1 B2 B3 K J;go_wp2_with fail;go_roundg m
      case measure=>omega
      case rel =>
       refine ⟨⟨k3,l++d,_,G3.out,HZ.out.symm,by have:=E.out.1;have:=ab.out;have:=H.out;omega,by have:=E.out.2;have:=ab.out;have:=H.out;rw [List.length_append];omega⟩,by have:=bh.out;omega⟩
    · skip
      refine wp_call (vs:=#[.pointer (some ⟨c.X,0,none⟩),.func (.func 102) #[.pointer (some ⟨c.X,0,none⟩)] #[]]) rfl rfl (enters_of Tryz.func104 (by kernel_rfl) rfl) (by simp [Act.eval]) (an.out _ (G.run.rd HR.out)) ?_
      rintro e w4 ⟨y,hm⟩;rcases Z4 with ⟨d,r⟩ | ⟨q,rl⟩
      rotate_left
      · obtain rfl := hm
        have Q:=G.run.fr.trans y;have Q:=Hd Q;clear y;go_wp2_with fail;refine ⟨rfl,?_⟩;show RdPost c w Y _ _ _;rw [P.out,HZ.out];exact ⟨Q.out,rfl⟩
      obtain ⟨v1,k3,rfl,⟨o,ag⟩,T,rfl⟩:=hm;have K:=G.call y T O.out;have J:=bf.out _ _ rfl;obtain ⟨g1,ah,rfl,ck,bl⟩:=o.form (List.length_pos_iff.2 ag);refine ⟨trivial,?_⟩;change wpAnyH _ _ _ _ _ _ _ F28_ _;delta F28_;refine do1 1 rfl rfl ?_;refine wp_ld_dcs rfl rfl (K.cell (i:=1) (v:=vL) rfl) ⟨trivial,?_⟩;change wpAnyH _ _ _ _ _ _ _ F28_ _;delta F28_;refine do1 6 rfl rfl ?_;obtain ⟨i0,hi,av,az,ax⟩:=info_parts infoDc;refine wp_append_lies w4 _ _ 23 rfl w.heap.size 61 i0 _ 3 32 Tryz.underlying23 hi av az ax rfl (by decide) vL l.length (dcsL l) rfl K.row ⟨g1,0,none⟩ d.length ah (dcsL d) rfl (dcsL_len d) (row_news o) (dcsL_cells d) (List.length_pos_iff.2 ag) (by simp only [maxLen];have:=E.out.2;have:=H.out;omega) (by have:=E.out.2;have:=H.out;omega) (by have:=K.run.fr.size;omega) _ rfl ?_
      intro g2 bp w5 z a F a8;refine ⟨trivial,?_⟩;change wpAnyH _ _ _ _ _ _ _ F28_ _;delta F28_;refine dk 7 (.pointer (some ⟨N,1,none⟩)) rfl rfl (fun _ _=>by unfold execOp;go_simp) trivial ?_
      change wpAnyH _ _ _ _ _ _ _ F28_ _;delta F28_;refine do1 8 rfl rfl ?_;obtain ⟨B1,B2,B3⟩:=K.grown a O.out;refine wp_st_dcs rfl rfl rfl (u:=vL) (cr B3) (own_frozen B3 1) ⟨trivial,?_⟩;rw [setCell_row B3 1 _];have G3:=Hd (K.end_ O.out a z);have ab:=Hd J;refine wpAnyH_done (by kernel_rfl) ?_ _
      clear o z a F B1 B2 B3 K J;go_wp2_with fail;go_roundg m
      case measure=>omega
      case rel =>
       refine ⟨⟨k3,l++d,_,G3.out,HZ.out.symm,by have:=E.out.1;have:=ab.out;have:=H.out;omega,by have:=E.out.2;have:=ab.out;have:=H.out;rw [List.length_append];omega⟩,by have:=bh.out;omega⟩
open Go.RowKit
set_option linter.unusedVariables false
theorem infoTh:(Tryz.prog.info? 66).map (fun i=>(i.zero,i.size,i.bytes))=some (some (.agg zTh),4,72):=by kernel_rfl
theorem dcsAt_in {R:Nat->Prop} {w:World} {l:List Dc} {a:Option Addr} (h:dcsAt R w l a):dcsAt (fun b=>R b/\b<w.heap.size) w l a:=by
 rcases h with h | ⟨g,q,rfl,f,c⟩
 · exact .inl h
 · cases l with
   | nil=>exact .inl rfl
   | cons d r=>exact .inr ⟨g,q,rfl,⟨f,cell_lt c.1.1⟩,c⟩
theorem dcsAt_mono {R R':Nat->Prop} {w:World} {l:List Dc} {a:Option Addr} (h:dcsAt R w l a) (hm:∀ b,R b->R' b):dcsAt R' w l a:=dcsAt_stays (Stays.refl R w) hm h
theorem thV_in {R:Nat->Prop} {w:World} {t:Th} {vs:List Value} (h:thV R w t vs):thV (fun b=>R b/\b<w.heap.size) w t vs:=by
 obtain ⟨i,f,a,g,d,j,c⟩:=h;exact ⟨i,f,a,g,d,dcsAt_in j,stsAt_in c⟩
theorem thsV_in {R:Nat->Prop} {w:World} : ∀ {l:List Th} {xs:List Value},thsV R w l xs->thsV (fun b=>R b/\b<w.heap.size) w l xs
 | [],xs,h=>h
 | t::r,xs,⟨us,ys,h1,h2,h3⟩=>⟨us,ys,h1,thV_in h2,thsV_in h3⟩
def pgR (n:Nat) (p:Pg) (v:Value) (W:World):Prop:=∃ a1 c1 a2 c2 a3 c3,v=.agg #[.slice a1 p.shared.length c1,.slice a2 p.locks.length c2,.slice a3 p.threads.length c3]/\dcsAt (fun b=>n<=b) W p.shared a1/\dcsAt (fun b=>n<=b) W p.locks a2/\thsAt (fun b=>n<=b) W p.threads a3
def RB (w0:World) (pb:Nat) (v:Value) (b:Nat):Prop:=w0.heap.size<b/\b≠pb/\v.ownBlock≠some b
structure PgT (c:Par) (w0:World) (pb:Nat) (a1:Option Addr) (c1:Nat) (a2:Option Addr) (c2:Nat) (vT:Value) (p:Pg) (l:List Th) (xs:List Value) (W:World) (k:Nat):Prop where
 run:At c w0 W k
 ge:w0.heap.size<pb
 res:Own W w0.heap.size 26 zPg
 own:Own W pb 26 #[.slice a1 p.shared.length c1,.slice a2 p.locks.length c2,vT]
 dS:dcsAt (RB w0 pb vT) W p.shared a1
 dL:dcsAt (RB w0 pb vT) W p.locks a2
 rT:W.ownsRow w0.heap.size 66 4 vT l.length xs
 tv:thsV (RB w0 pb vT) W l xs
theorem dcs_of_row {W:World} {w0:World} {pb:Nat} {v:Value} {l:List Dc} (h:W.ownsRow w0.heap.size 61 3 v l.length (dcsL l)) (h1:v.ownBlock≠some w0.heap.size) (h2:v.ownBlock≠some pb):∃ a cap,v=.slice a l.length cap/\dcsAt (RB w0 pb (.slice none 0 0)) W l a:=by
 obtain ⟨c,cap,rfl,b⟩:=row_shape h;refine ⟨c,cap,rfl,?_⟩;cases l with
 | nil=>exact .inl rfl
 | cons x r =>
   obtain ⟨g,rfl,d⟩:=b (by simp)
   refine .inr ⟨g,0,rfl,⟨?_,?_,by simp [Value.ownBlock]⟩,dcsIn_of (row_cells h rfl)⟩
   · have : g ≠ w0.heap.size := fun e => h1 (by rw [e]; rfl)
     omega
   · exact fun e=>h2 (by rw [e];rfl)
theorem PgI.threads {c:Par} {w0 W:World} {pb k:Nat} {vS vL:Value} {p:Pg} (h:PgI c w0 pb vS vL p W k):∃ a1 c1 a2 c2,vS=.slice a1 p.shared.length c1/\vL=.slice a2 p.locks.length c2/\PgT c w0 pb a1 c1 a2 c2 (.slice none 0 0) p [] [] W k:=by
 obtain ⟨a1,c1,rfl,b⟩:=dcs_of_row (pb:=pb) h.rS (row_apart h.rS h.res rfl) (row_apart h.rS h.own rfl);obtain ⟨a2,c2,rfl,a⟩:=dcs_of_row (pb:=pb) h.rL (row_apart h.rL h.res rfl) (row_apart h.rL h.own rfl);exact ⟨a1,c1,a2,c2,rfl,rfl,h.run,h.ge,h.res,h.own,b,a,World.ownsRow_nil _ _ _ _,rfl⟩
section
variable {c:Par} {w0 W W':World} {pb:Nat} {a1 a2:Option Addr} {c1 c2:Nat} {vT:Value} {p:Pg} {l:List Th} {xs:List Value} {k k2:Nat}
theorem PgT.call (h:PgT c w0 pb a1 c1 a2 c2 vT p l xs W k) (hf:Fr c W W') (hp:Rd c W' k2) (hX:c.X<w0.heap.size):PgT c w0 pb a1 c1 a2 c2 vT p l xs W' k2:=by
 have st:Stays (RB w0 pb vT) W W':=stays_fr hf (fun b hb=>by have:=hb.1;omega)
 exact ⟨h.run.call hf hp,h.ge,h.res.fr hf (by omega),h.own.fr hf (by have:=h.ge;omega),dcsAt_stays st (fun _ h=>h) h.dS,dcsAt_stays st (fun _ h=>h) h.dL,row_fr h.rT hf hX,thsV_stays st (fun _ h=>h) h.tv⟩
theorem PgT.cell (h:PgT c w0 pb a1 c1 a2 c2 vT p l xs W k) {i:Nat} {v:Value} (hv:(#[.slice a1 p.shared.length c1,.slice a2 p.locks.length c2,vT]:Array Value)[i]? = some v):W.cell? ⟨pb,i,none⟩=some v:=by rw [cell_of_row W _ i _ _ _ h.own];exact hv
theorem PgT.drew (h:PgT c w0 pb a1 c1 a2 c2 vT p l xs W k):PgT c w0 pb a1 c1 a2 c2 vT p l xs W.drew k :=
 have st:Stays (RB w0 pb vT) W W.drew:=fun _ _ _ _ h=>h
 ⟨h.run.drew,h.ge,h.res,h.own,dcsAt_stays st (fun _ h=>h) h.dS,dcsAt_stays st (fun _ h=>h) h.dL,h.rT,thsV_stays st (fun _ h=>h) h.tv⟩
theorem PgT.alloc (h:PgT c w0 pb a1 c1 a2 c2 vT p l xs W k) (o:Obj) (hX:c.X<w0.heap.size) (R:Rd c w0 k2):PgT c w0 pb a1 c1 a2 c2 vT p l xs (W.alloc o) k :=
 h.call ((Fr.refl c W).alloc o) ((h.run.rd R).alloc o) hX
theorem PgT.grown (h:PgT c w0 pb a1 c1 a2 c2 vT p l xs W k) (hg:W.grownBy W' vT.ownBlock) (hX:c.X<w0.heap.size):At c w0 W' k/\Own W' w0.heap.size 26 zPg/\Own W' pb 26 #[.slice a1 p.shared.length c1,.slice a2 p.locks.length c2,vT] :=
 ⟨grown_fr h.run hg (fun r hr=>by have:=(h.rT.lt r hr).1;exact ⟨this,by omega⟩),own_grown h.res hg (row_apart h.rT h.res rfl),own_grown h.own hg (row_apart h.rT h.own rfl)⟩
theorem PgT.end_ (h:PgT c w0 pb a1 c1 a2 c2 vT p l xs W k) {t:Th} {vs:List Value} {g cap:Nat} (hX:c.X<w0.heap.size) (hv:thV (fun b=>RB w0 pb vT b/\b<W.heap.size) W t vs) (hg:W.grownBy W' vT.ownBlock)
 (hown:W'.ownsRow w0.heap.size 66 4 (.slice (some ⟨g,0,none⟩) (l.length+1) cap) (l.length+1) (xs++vs)) (hl:vT.ownBlock=some g\/g=W.heap.size) :
 PgT c w0 pb a1 c1 a2 c2 (.slice (some ⟨g,0,none⟩) (l.length+1) cap) p (l++[t]) (xs++vs) (W'.setRow pb #[.slice a1 p.shared.length c1,.slice a2 p.locks.length c2,.slice (some ⟨g,0,none⟩) (l.length+1) cap]) k:=by
 obtain ⟨j,n,i⟩:=h.grown hg hX;have m:=row_apart hown i rfl;have a:Stays (fun b=>RB w0 pb vT b/\b<W.heap.size) W W':=stays_grown hg (fun b hb=>hb.1.2.2)
 have f:Stays (fun b=>RB w0 pb vT b/\b<W.heap.size) W' (W'.setRow pb #[.slice a1 p.shared.length c1,.slice a2 p.locks.length c2,.slice (some ⟨g,0,none⟩) (l.length+1) cap]):=stays_row W' _ (fun b hb=>hb.1.2.1)
 have st:=a.trans f;have d:∀ b,RB w0 pb vT b/\b<W.heap.size->RB w0 pb (.slice (some ⟨g,0,none⟩) (l.length+1) cap) b:=fun b hb=>by
  refine ⟨hb.1.1,hb.1.2.1,fun e=>?_⟩
  have e:g=b:=by simpa [Value.ownBlock] using e
  subst e;rcases hl with hl | hl
  · exact hb.1.2.2 hl
  · have:=hb.2;omega
 refine ⟨j.setRow (by have:=h.ge;omega) (by have:=h.ge;omega) _,h.ge,n.other _ (by have:=h.ge;omega),i.row _,dcsAt_stays st d (dcsAt_in h.dS),dcsAt_stays st d (dcsAt_in h.dL),?_,thsV_stays st d (thsV_snoc (thsV_in h.tv) hv)⟩
 have:=row_row hown #[.slice a1 p.shared.length c1,.slice a2 p.locks.length c2,.slice (some ⟨g,0,none⟩) (l.length+1) cap] m;rw [List.length_append];exact this
end
open Go.RowKit
set_option linter.unusedVariables false
def putB (w:World) (r:Nat) (o:Obj):World:={ w with heap:=w.heap.setIfInBounds r o }
theorem putB_size (w:World) (r:Nat) (o:Obj):(putB w r o).heap.size=w.heap.size:=by simp [putB]
theorem putB_same {w:World} {r:Nat} (o:Obj) (h:r<w.heap.size):(putB w r o).heap[r]? = some o:=by
 simp [putB,h]
theorem putB_other {w:World} {r b:Nat} (o:Obj) (h:b≠r):(putB w r o).heap[b]? = w.heap[b]?:=by
 simp only [putB];rw [Array.getElem?_setIfInBounds_ne (fun e=>h e.symm)]
theorem putB_below {n:Nat} {a w:World} {r:Nat} (o:Obj) (h:Below n a w) (hr:n<=r):Below n a (putB w r o) :=
 ⟨h.os,h.tape,h.output,by rw [putB_size];exact h.size,fun k hk=>(putB_other o (by omega)).trans (h.block k hk)⟩
theorem run_ins {P:Program} {w:World} {t k e:TypeId} {b:Nat} {es:Array MapEntry} {clock:Nat} (ht:P.underlying t=some (.map k e)) (hk:P.underlying k=some .string)
 (hb:w.heap[b]? = some (.map es clock)) (s:ByteArray) (v:Value) (hf:Instr.findNow .string (.string s) es.toList 0=some none) :
 (Instr.mapUpdate t (.map (some b)) (.string s) v).run P w=.ok () (putB w b (.map (es.push ⟨.string s,v,clock⟩) (clock+1))):=by
 have a:(Instr.checkKey false 10000 k (.string s)).run P w=.ok () w:=MapKept.run_checkKey (d:=.string) hk (by simp [MapKept.IsKey]) false 9999
 have hf:=MapKept.run_findKey (w:=w) hk hf;unfold Instr.mapUpdate;simp [run_underlying ht,Result.andThen,MapKept.run_getObj_map hb,a,hf,MapKept.run_setObj_map _ hb,putB]
theorem p_mkunary {w:World} (X:Nat) (o:Int):Calls Tryz.prog 99 #[.pointer (some ⟨X,0,none⟩),.int .u8 o] w fun e w'=>e=.returned (.func (.func 147) #[] #[.pointer (some ⟨w.heap.size,0,none⟩),.pointer (some ⟨w.heap.size+1,0,none⟩)])/\w'=(w.alloc (.cells #[.pointer (some ⟨X,0,none⟩)] 54)).alloc (.cells #[.int .u8 o] 43):=by
 go_enter Tryz.func99,Tryz.ntmps99;go_wp2;go_ret;exact ⟨rfl,rfl⟩
theorem p_end {c:Par} {w:World} {k:Nat} (R:Rd c w k) :
 Calls Tryz.prog 38 #[c.ptr] w fun e w'=>Fr c w w'/\e=match c.at k with | []=>.returned (.tuple #[]) | t::_=>.panicked (flt t.pos 2):=by
 obtain ⟨⟨r,E,C,_⟩,f⟩:=R.cells;have A:=R.lt;have b:=R.le;have g:=R.s.small.1;by_cases hk:k<c.toks.length
 · have j : c.nx k = (c.toks[k]).tk := by unfold Par.nx; rw [Par.at_lt hk]
   have o:Hid (∀ W,Rd c W k->Calls Tryz.prog 39 #[c.ptr] W fun e w'=>e=.returned (tkV (c.nx k))/\Below W.heap.size W w'):=fun W h=>p_next h
   rw [Par.at_lt hk];have m:=Hd (fun w=>p_refuse (c.nx k) 2 w)
   rw [j] at o m;generalize (c.toks[k]).tk=t at o m ⊢;have a:decide ((k:Int)<(c.toks.length:Int))=true:=b_t (by omega)
   obtain ⟨n,d⟩:=Qx c.toks.length;rw [<- d] at r a hk b g;have D:=Hd R;have v:Hid (∀ n,Rd c (w.drewN n) k):=fun n=>⟨R.s.drewN n,R.pos,R.le⟩
   clear j d R;unfold Par.ptr tkV at *;go_enter Tryz.func38,Tryz.ntmps38;go_wp2;go_quiet (fail);have q:=v.out nq;have l:Hid (Fr c w (w.drewN nq)):=Keep.drewN (Fr.refl c w) nq;generalize w.drewN nq=W at q l ⊢
   go_wp2_with (first
    | (go_at_call 39;refine (o.out _ q).mono ?_;rintro e B ⟨rfl,i⟩;have x:=Hd i;clear i)
    | (go_at_call 101;refine (m.out _).mono ?_;rintro e z ⟨rfl,i⟩;have y:=Hd i;clear i))
   exact ⟨rfl,(l.out.trans (.of_below x.out)).trans (.of_below y.out),rfl⟩
 · rw [Par.at_end (by omega)]
   have a:decide ((k:Int)<(c.toks.length:Int))=false:=b_f (by omega)
   have p:decide (k<c.toks.length)=false:=b_f (by omega)
   obtain ⟨n,d⟩:=Qx c.toks.length;rw [<- d] at r a hk b g p;clear d R;unfold Par.ptr;go_enter Tryz.func38,Tryz.ntmps38;go_wp2;go_quiet (fail);have l:Hid (Fr c w (w.drewN nq)):=Keep.drewN (Fr.refl c w) nq;go_wp2;go_end0;exact ⟨l.out,rfl⟩
end Go.Proofs.YtbgfkdiihnidaaaGreatDoor

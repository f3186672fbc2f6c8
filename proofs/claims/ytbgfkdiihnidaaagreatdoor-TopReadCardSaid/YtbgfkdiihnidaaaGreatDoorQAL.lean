import Derived.Test.YtbgfkdiihnidaaaGreatDoorQAJ
set_option maxRecDepth 100000
set_option maxHeartbeats 20000000
namespace Go.Proofs.YtbgfkdiihnidaaaGreatDoor
open Go.RowKit
set_option linter.unusedVariables false
theorem zeroFnD (w:World):(zeroValue 90).run Tryz.prog w=.ok .nilFunc w:=by kernel_rfl
theorem decls_keys (c:Par):∀ e∈c.declE,∃ t,e.key=.string t:=by
 intro e a;simp [Par.declE] at a;rcases a with rfl | rfl <;> exact ⟨_,rfl⟩
theorem run_decls {c:Par} {W:World} (S:RdS c W) (s:ByteArray):(Instr.lookup 91 (.map (some c.D)) (.string s) false).run Tryz.prog W=.ok (lookE s.data.toList c.declE) W :=
 run_look Tryz.underlying91 Tryz.underlying9 (zeroFnD W) S.dm (decls_keys c) s
theorem fn_neqD:∀ (f:Fn) (u v:Array Value) (w:World),(binOp .neq 90 (.func f u v) .nilFunc).run Tryz.prog w=.ok (.bool true) w:=fun f u v w=>by kernel_rfl
theorem nil_neqD:∀ (w:World),(binOp .neq 90 .nilFunc .nilFunc).run Tryz.prog w=.ok (.bool false) w:=fun w=>by kernel_rfl
section
variable {o:Oper} {a:Act} {w:World} {K:Act->World->Prop} {Q:Exit->Act->World->Prop}
end
theorem run_ld_decls {o:Oper} {a:Act} {w:World} {x:Operand} (ho:o.op=.load 91 x) {p:Addr} (hx:a.eval x=.pointer (some p)) {v:Value} (hv:w.cell? p=some v):(execOp a.eval o).run Tryz.prog w=.ok (.value v) w:=by
 unfold execOp;simp only [ho,hx];go_simp
theorem run_lk_decls {o:Oper} {a:Act} {w:World} {x y:Operand} (ho:o.op=.lookup 91 x y false) {p:Nat} (hx:a.eval x=.map (some p)) {s:ByteArray} (hy:a.eval y=.string s) {v:Value} (hv:(Instr.lookup 91 (.map (some p)) (.string s) false).run Tryz.prog w=.ok v w):(execOp a.eval o).run Tryz.prog w=.ok (.value v) w:=by
 unfold execOp;simp only [ho,hx,hy];go_simp
theorem run_bs_th {o:Oper} {a:Act} {w:World} {x:Operand} (ho:o.op=.buildSlice 24 1 #[(0,x)]) {nm:ByteArray} {a1 a2:Option Addr} {n1 c1 n2 c2:Nat} {p:Int} (hx:a.eval x=.agg #[.string nm,.slice a1 n1 c1,.slice a2 n2 c2,.int .i64 p]):(execOp a.eval o).run Tryz.prog w=.ok (.value (.slice (some ⟨w.heap.size,0,none⟩) 1 1)) (w.alloc (.cells #[.string nm,.slice a1 n1 c1,.slice a2 n2 c2,.int .i64 p] 66)):=by
 unfold execOp;simp [ho,hx];go_simp
def PrI (c:Par) (w:World) (PB:Nat) (Y:PR Pg) (m:Nat) (u:Value) (W:World):Prop :=
 ∃ (j:Nat) (p:Pg) (vS vL:Value),PgI c w PB vS vL p W j/\u=lookE (c.nx j).text.data.toList c.declE/\declsP c.L m p (c.at j)=Y/\(c.at j).length<m/\p.shared.length+p.locks.length+(c.at j).length<=65536
def ThrI (c:Par) (w:World) (PB:Nat) (a1:Option Addr) (c1:Nat) (a2:Option Addr) (c2:Nat) (p:Pg) (Y:PR (List Th)) (m:Nat) (W:World):Prop :=
 ∃ (j:Nat) (l:List Th) (vT:Value) (xs:List Value),PgT c w PB a1 c1 a2 c2 vT p l xs W j/\threadsP fnd c.L m l (c.at j)=Y/\3*(c.at j).length+2<=m/\l.length+(c.at j).length<=65536
theorem look_shared {c:Par} {k:Nat} (h:isT [115,104,97,114,101,100] (c.at k)=true):lookE (c.nx k).text.data.toList c.declE=.func (.func 92) #[.pointer (some ⟨c.X,0,none⟩)] #[]:=by
 rw [Par.isT_nx c k (by decide)] at h
 have h:(c.nx k).text.data.toList=[115,104,97,114,101,100]:=by simpa [Tk.tx] using h
 rw [h];rfl
theorem look_locks {c:Par} {k:Nat} (h:isT [108,111,99,107] (c.at k)=true):lookE (c.nx k).text.data.toList c.declE=.func (.func 93) #[.pointer (some ⟨c.X,0,none⟩)] #[]:=by
 rw [Par.isT_nx c k (by decide)] at h
 have h:(c.nx k).text.data.toList=[108,111,99,107]:=by simpa [Tk.tx] using h
 rw [h];rfl
theorem look_none {c:Par} {k:Nat} (h1:isT [115,104,97,114,101,100] (c.at k)=false) (h2:isT [108,111,99,107] (c.at k)=false):lookE (c.nx k).text.data.toList c.declE=.nilFunc:=by
 rw [Par.isT_nx c k (by decide)] at h1 h2
 have h1:¬ (c.nx k).text.data.toList=[115,104,97,114,101,100]:=by simpa [Tk.tx] using h1
 have h2:¬ (c.nx k).text.data.toList=[108,111,99,107]:=by simpa [Tk.tx] using h2
 simp only [lookE,Par.declE];rw [if_neg h1,if_neg h2]
theorem run_fd_tok {o:Oper} {a:Act} {w:World} {x:Operand} (ho:o.op=.field 50 x 1) {u v d e:Value} (hx:a.eval x=.agg #[u,v,d,e]):(execOp a.eval o).run Tryz.prog w=.ok (.value v) w:=by
 unfold execOp;simp only [ho,hx];have F:=tok_f1 u v d e w;go_simp
def shPost (c:Par) (w:World) (PB:Nat) (vL:Value) (p:Pg) (Z:PR (List Dc)) (e:Ending) (w':World):Prop :=
 match Z with
 | .ok d r=>∃ v' k',e=.returned (.tuple #[])/\PgI c w PB v' vL { p with shared:=p.shared++d } w' k'/\r=c.at k'
 | .bad q rl=>e=.panicked (flt q rl)/\Fr c w w'
def lkPost (c:Par) (w:World) (PB:Nat) (vS:Value) (p:Pg) (Z:PR (List Dc)) (e:Ending) (w':World):Prop :=
 match Z with
 | .ok d r=>∃ v' k',e=.returned (.tuple #[])/\PgI c w PB vS v' { p with locks:=p.locks++d } w' k'/\r=c.at k'
 | .bad q rl=>e=.panicked (flt q rl)/\Fr c w w'
theorem wp_val {P:Program} {o:Oper} {a:Act} {w w':World} {K:Act->World->Prop} {Q:Exit->Act->World->Prop} {v:Value} (hrun:(execOp a.eval o).run P w=.ok (.value v) w') (h:K (a.put o.dst v) w'):o.wp P a w K Q:=by
 unfold Oper.wp;rw [hrun];exact h
theorem decls_short {L:Int} : ∀ (n:Nat) (p:Pg) (ts:List Tk) (q:Pg) (r:List Tk),declsP L n p ts=.ok q r->r.length<=ts.length
 | 0,p,ts,q,r,h=>by simp [declsP] at h
 | n + 1, p, ts, q, r, h => by
   simp only [declsP] at h
   split at h
   · rename_i hi
     have:=isT_tail hi
     obtain ⟨a,b,h1,h2⟩:=PR.then_eq_ok h
     have:=list_short (L:=L) (fun _ _ _ h=>firstP_short h) n _ _ _ _ h1
     have:=decls_short n _ _ _ _ h2
     omega
   · split at h
     · rename_i hi
       have:=isT_tail hi
       obtain ⟨a,b,h1,h2⟩:=PR.then_eq_ok h
       have:=list_short (L:=L) (fun _ _ _ h=>nameP_short h) n _ _ _ _ h1
       have:=decls_short n _ _ _ _ h2
       omega
     · cases h;exact Nat.le_refl _
theorem p_program {c:Par} {w:World} {k n:Nat} (R:Rd c w k) (hn:3*(c.at k).length+2<=n) :
 Calls Tryz.prog 15 #[c.ptr] w (RdPost c w (progP fnd c.L n (c.at k)) (fun p v w'=>pgR w.heap.size p v w')):=by
 obtain ⟨Y,hY⟩:=Qx (progP fnd c.L n (c.at k));obtain ⟨Y1,af⟩:=Qx (declsP c.L n ⟨[],[],[]⟩ (c.at k));have HS:Hid (Y=Y1.then fun p r=>(threadsP fnd c.L n [] r).then fun l r=>.ok { p with threads:=l } r):=by rw [Hid,hY,af];rfl
 have ca:(c.at k).length<=65536:=by rw [Par.at_len];have:=R.s.small.1;omega
 rw [<- hY];have cm:Hid (∀ p r,Y1=.ok p r->r.length<=(c.at k).length):=fun p r h=>decls_short _ _ _ _ _ (af.symm.trans h)
 have HN:Hid (∀ W j,Rd c W j->Calls Tryz.prog 39 #[c.ptr] W fun e w'=>e=.returned (tkV (c.nx j))/\Below W.heap.size W w'):=fun W j RW=>p_next RW
 have HP:Hid (∀ W j (s:ByteArray),Rd c W j->s.data.toList≠[]->Calls Tryz.prog 40 #[c.ptr,.string s] W fun e w'=>e=.returned (.bool (isT s.data.toList (c.at j)))/\Fr c W w'/\Rd c w' (if isT s.data.toList (c.at j)=true then j+1 else j)):=fun W j s RW hs=>p_pass RW s hs
 have HT:Hid (∀ W j m,Rd c W j->3*(c.at j).length+2<=m->Calls Tryz.prog 41 #[c.ptr] W (RdPost c W (threadP fnd c.L m (c.at j)) (fun t v w'=>thR W.heap.size t v w'))):=fun W j m RW hm=>p_thread RW hm
 have HJ:Hid (∀ j,j<=c.toks.length->j<=65536):=fun j h=>by have:=R.s.small.1;omega
 have G0:=At.start R;have K:=Hd R;have Q:=Hd R.lt;have HM:=Hd (And.intro hn ca);have F1:=fn_neqD;have F2:=nil_neqD;have G:Hid (PgI c w (w.heap.size+1) (.slice none 0 0) (.slice none 0 0) ⟨[],[],[]⟩ ((w.alloc (.cells zPg 26)).alloc (.cells zPg 26)) k):=by
  have o1:=Own.new w 26 zPg;have o2:=Own.new (w.alloc (.cells zPg 26)) 26 zPg;rw [World.size_alloc] at o2;exact ⟨(G0.alloc _).alloc _,by omega,o1.alloc _,o2,World.ownsRow_nil _ _ _ _,World.ownsRow_nil _ _ _ _,.inl rfl⟩
 clear hY R hn ca G0;unfold Par.ptr zPg tkV at *;go_enter Tryz.func15,Tryz.ntmps15;go_wp2_with fail;obtain ⟨W,hW⟩:=Qx (((w.alloc (.cells #[.slice none 0 0,.slice none 0 0,.slice none 0 0] 26)).alloc (.cells #[.slice none 0 0,.slice none 0 0,.slice none 0 0] 26)));rw [<- hW] at G ⊢;clear hW;obtain ⟨P,cc⟩:=Qx (w.heap.size+1);rw [<- cc] at G ⊢;clear cc;refine wp_region_held (S:=fun W=>RdS c W/\W.cell? ⟨c.X,3,none⟩=some (.map (some c.D))) (by kernel_rfl) ?_
 have G:=Hd G.out.drew;change wpAnyH _ _ _ _ _ _ _ _ (W).drew;obtain ⟨W0,C⟩:=Qx ((W).drew);rw [<- C] at G ⊢;clear C;have O:RdS c W0/\W0.cell? ⟨c.X,3,none⟩=some (.map (some c.D)):=⟨(G.out.run.rd K.out).s,G.out.run.cells.1.2.2.2.1⟩;refine dk 0 (.pointer (some ⟨c.X,0,none⟩)) rfl rfl (fun _ _=>rfl) O ?_
 change wpAnyH _ _ _ _ _ _ _ F42_ _;delta F42_;refine dk 1 (.pointer (some ⟨c.X,0,none⟩)) rfl rfl (fun _ _=>by unfold execOp;go_simp) O ?_
 change wpAnyH _ _ _ _ _ _ _ F42_ _;delta F42_;refine dk 2 (.pointer (some ⟨c.X,3,none⟩)) rfl rfl (fun _ _=>by unfold execOp;go_simp) O ?_
 change wpAnyH _ _ _ _ _ _ _ F42_ _;delta F42_;refine dk 3 (.map (some c.D)) rfl rfl (fun W h=>run_ld_decls rfl rfl h.2) O ?_
 change wpAnyH _ _ _ _ _ _ _ F42_ _;delta F42_;refine dk 4 (.pointer (some ⟨c.X,0,none⟩)) rfl rfl (fun _ _=>rfl) O ?_
 change wpAnyH _ _ _ _ _ _ _ F42_ _;delta F42_;refine do1 5 rfl rfl ?_;refine wp_call (vs:=#[.pointer (some ⟨c.X,0,none⟩)]) rfl rfl (enters_of Tryz.func39 (by kernel_rfl) rfl) (by simp [Act.eval]) (HN.out _ k (G.out.run.rd K.out)) ?_
 rintro e w1 ⟨rfl,N⟩;have G:=Hd (G.out.call (.of_below N) ((G.out.run.rd K.out).below N) Q.out);have S1:RdS c w1/\w1.cell? ⟨c.X,3,none⟩=some (.map (some c.D)):=⟨(G.out.run.rd K.out).s,G.out.run.cells.1.2.2.2.1⟩;refine ⟨S1,?_⟩;change wpAnyH _ _ _ _ _ _ _ F42_ _;delta F42_;refine dk 6 (.string (c.nx k).text) rfl rfl (fun W _=>run_fd_tok rfl rfl) S1 ?_
 change wpAnyH _ _ _ _ _ _ _ F42_ _;delta F42_;refine dk 7 (lookE (c.nx k).text.data.toList c.declE) rfl rfl (fun W h=>run_lk_decls rfl rfl rfl (run_decls h.1 _)) S1 ?_
 change wpAnyH _ _ _ _ _ _ _ F42_ _;delta F42_;refine dk 8 (lookE (c.nx k).text.data.toList c.declE) rfl rfl (fun _ _=>rfl) S1 ?_
 change wpAnyH _ _ _ _ _ _ _ F42_ _;delta F42_;clear O S1 N;refine wpAnyH_done (by kernel_rfl) ?_ _
 have B0:Hid (PrI c w P Y1 n (lookE (c.nx k).text.data.toList c.declE) w1):=⟨k,_,_,_,G.out,rfl,af.symm,by have:=HM.out;omega,by have:=HM.out;simp;omega⟩
 clear af G;generalize lookE (c.nx k).text.data.toList c.declE=U0 at B0 ⊢;go_wp2_with fail;go_loopg [4] n (fun m u W=>PrI c w P Y1 m u W/\m<=n)
 case atStart=>exact ⟨B0.out,Nat.le_refl _⟩
 case round =>
  obtain ⟨⟨j,p,vS,vL,G1,hu,af,ar,a8⟩,a9⟩:=hrel;have G:=Hd G1;have o:=Hd (And.intro ar a8);have al:=Hd a9;have bn:=Hd af;have da:j<=65536:=HJ.out j G1.run.le;clear G1 af ar a8 a9;obtain ⟨m,rfl⟩:∃ m,gk=m+1:=⟨gk-1,by have:=o.out.1;omega⟩
  by_cases h1:isT [115,104,97,114,101,100] (c.at j)=true
  · have av := Par.isT_lt h1
    rw [look_shared h1] at hu;subst hu;obtain ⟨Z,hZ⟩:=Qx (listP c.L (firstP c.L) m [] (c.at (j+1)));have hz:Y1=Z.then fun l r=>declsP c.L m { p with shared:=p.shared++l } r:=by
     rw [<- bn.out];conv=>lhs;unfold declsP
     rw [if_pos h1,Par.at_tail,hZ]
    have HZ:=Hd hz;have z:Hid ((c.at (j+1)).length+1=(c.at j).length):=by rw [Hid,Par.at_len,Par.at_len];omega
    have HC:Hid (∀ W',PgI c w P vS vL p W' (j+1)->Calls Tryz.prog 92 #[.pointer (some ⟨c.X,0,none⟩),.pointer (some ⟨P,0,none⟩)] W' (shPost c w P vL p Z)):=fun W' GW=>by rw [hZ];exact p_shared K.out (by have:=o.out.1;have:=z.out;omega) GW (by have:=o.out.2;have:=z.out;omega)
    have ak:Hid (∀ d r,Z=.ok d r->d.length+r.length<=(c.at (j+1)).length):=fun d r h=>by have:=list_both (fun _ _ _=>firstP_short) (hZ.symm.trans h);simpa using this
    obtain ⟨⟨_,_,c2,_⟩,xf⟩:=G.out.run.cells;have G3:=Hd (G.out.call (Fr.setX (Fr.refl c _) (.int .i64 ((j:Int)+1)) 2 G.out.run.pos) ((G.out.run.rd K.out).step av) Q.out)
    clear hZ hz av h1;go_wp2_with fail;go_at_call 92;refine (HC.out _ G3.out).mono ?_;rintro e w3 hm;rcases Z with ⟨d,r⟩ | ⟨q,rl⟩
    rotate_left
    · obtain ⟨rfl, hf⟩ := hm
      have AZ:=Hd hf;clear hf;go_wp2_with fail;refine ⟨rfl,?_⟩;show RdPost c w Y _ _ _;rw [HS.out,HZ.out];exact ⟨AZ.out,rfl⟩
    obtain ⟨v',k',rfl,G4,rfl⟩:=hm;have G:=Hd G4;have aw:=Hd (ak.out _ _ rfl);clear G4 c2 xf G3;go_wp2_with fail;refine wp_region_held (S:=fun W=>RdS c W/\W.cell? ⟨c.X,3,none⟩=some (.map (some c.D))) (by kernel_rfl) ?_
    have G:=Hd G.out.drew;change wpAnyH _ _ _ _ _ _ _ _ (w3).drew;obtain ⟨W0,C⟩:=Qx ((w3).drew);rw [<- C] at G ⊢;clear C;have O:RdS c W0/\W0.cell? ⟨c.X,3,none⟩=some (.map (some c.D)):=⟨(G.out.run.rd K.out).s,G.out.run.cells.1.2.2.2.1⟩;refine dk 0 (.pointer (some ⟨c.X,0,none⟩)) rfl rfl (fun _ _=>rfl) O ?_
    change wpAnyH _ _ _ _ _ _ _ F42_ _;delta F42_;refine dk 1 (.pointer (some ⟨c.X,0,none⟩)) rfl rfl (fun _ _=>by unfold execOp;go_simp) O ?_
    change wpAnyH _ _ _ _ _ _ _ F42_ _;delta F42_;refine dk 2 (.pointer (some ⟨c.X,3,none⟩)) rfl rfl (fun _ _=>by unfold execOp;go_simp) O ?_
    change wpAnyH _ _ _ _ _ _ _ F42_ _;delta F42_;refine dk 3 (.map (some c.D)) rfl rfl (fun W h=>run_ld_decls rfl rfl h.2) O ?_
    change wpAnyH _ _ _ _ _ _ _ F42_ _;delta F42_;refine dk 4 (.pointer (some ⟨c.X,0,none⟩)) rfl rfl (fun _ _=>rfl) O ?_
    change wpAnyH _ _ _ _ _ _ _ F42_ _;delta F42_;refine do1 5 rfl rfl ?_;refine wp_call (vs:=#[.pointer (some ⟨c.X,0,none⟩)]) rfl rfl (enters_of Tryz.func39 (by kernel_rfl) rfl) (by simp [Act.eval]) (HN.out _ k' (G.out.run.rd K.out)) ?_
    rintro e w1 ⟨rfl,N⟩;have G:=Hd (G.out.call (.of_below N) ((G.out.run.rd K.out).below N) Q.out);have S1:RdS c w1/\w1.cell? ⟨c.X,3,none⟩=some (.map (some c.D)):=⟨(G.out.run.rd K.out).s,G.out.run.cells.1.2.2.2.1⟩;refine ⟨S1,?_⟩;change wpAnyH _ _ _ _ _ _ _ F42_ _;delta F42_;refine dk 6 (.string (c.nx k').text) rfl rfl (fun W _=>run_fd_tok rfl rfl) S1 ?_
    change wpAnyH _ _ _ _ _ _ _ F42_ _;delta F42_;refine dk 7 (lookE (c.nx k').text.data.toList c.declE) rfl rfl (fun W h=>run_lk_decls rfl rfl rfl (run_decls h.1 _)) S1 ?_
    change wpAnyH _ _ _ _ _ _ _ F42_ _;delta F42_;refine dk 8 (lookE (c.nx k').text.data.toList c.declE) rfl rfl (fun _ _=>rfl) S1 ?_
    change wpAnyH _ _ _ _ _ _ _ F42_ _;delta F42_;clear O S1 N;refine wpAnyH_done (by kernel_rfl) ?_ _
    go_wp2_with fail;go_roundg m
    case measure=>omega
    case rel=>exact ⟨⟨k',_,_,_,G.out,rfl,HZ.out.symm,by have:=o.out.1;have:=z.out;have:=aw.out;omega,by have:=o.out.2;have:=z.out;have:=aw.out;simp only [List.length_append];omega⟩,by have:=al.out;omega⟩
  · by_cases h2 : isT [108, 111, 99, 107] (c.at j) = true
    · have av := Par.isT_lt h2
      rw [look_locks h2] at hu;subst hu;obtain ⟨Z,hZ⟩:=Qx (listP c.L (nameP c.L) m [] (c.at (j+1)));have hz:Y1=Z.then fun l r=>declsP c.L m { p with locks:=p.locks++l } r:=by
       rw [<- bn.out];conv=>lhs;unfold declsP
       rw [if_neg h1,if_pos h2,Par.at_tail,hZ]
      have HZ:=Hd hz;have z:Hid ((c.at (j+1)).length+1=(c.at j).length):=by rw [Hid,Par.at_len,Par.at_len];omega
      have HC:Hid (∀ W',PgI c w P vS vL p W' (j+1)->Calls Tryz.prog 93 #[.pointer (some ⟨c.X,0,none⟩),.pointer (some ⟨P,0,none⟩)] W' (lkPost c w P vS p Z)):=fun W' GW=>by rw [hZ];exact p_locks K.out (by have:=o.out.1;have:=z.out;omega) GW (by have:=o.out.2;have:=z.out;omega)
      have ak:Hid (∀ d r,Z=.ok d r->d.length+r.length<=(c.at (j+1)).length):=fun d r h=>by have:=list_both (fun _ _ _=>nameP_short) (hZ.symm.trans h);simpa using this
      obtain ⟨⟨_,_,c2,_⟩,xf⟩:=G.out.run.cells;have G3:=Hd (G.out.call (Fr.setX (Fr.refl c _) (.int .i64 ((j:Int)+1)) 2 G.out.run.pos) ((G.out.run.rd K.out).step av) Q.out)
      clear hZ hz av h1 h2;go_wp2_with fail;go_at_call 93;refine (HC.out _ G3.out).mono ?_;rintro e w3 hm;rcases Z with ⟨d,r⟩ | ⟨q,rl⟩
      rotate_left
      · obtain ⟨rfl, hf⟩ := hm
        have AZ:=Hd hf;clear hf;go_wp2_with fail;refine ⟨rfl,?_⟩;show RdPost c w Y _ _ _;rw [HS.out,HZ.out];exact ⟨AZ.out,rfl⟩
      obtain ⟨v',k',rfl,G4,rfl⟩:=hm;have G:=Hd G4;have aw:=Hd (ak.out _ _ rfl);clear G4 c2 xf G3;go_wp2_with fail;refine wp_region_held (S:=fun W=>RdS c W/\W.cell? ⟨c.X,3,none⟩=some (.map (some c.D))) (by kernel_rfl) ?_
      have G:=Hd G.out.drew;change wpAnyH _ _ _ _ _ _ _ _ (w3).drew;obtain ⟨W0,C⟩:=Qx ((w3).drew);rw [<- C] at G ⊢;clear C;have O:RdS c W0/\W0.cell? ⟨c.X,3,none⟩=some (.map (some c.D)):=⟨(G.out.run.rd K.out).s,G.out.run.cells.1.2.2.2.1⟩;refine dk 0 (.pointer (some ⟨c.X,0,none⟩)) rfl rfl (fun _ _=>rfl) O ?_
      change wpAnyH _ _ _ _ _ _ _ F42_ _;delta F42_;refine dk 1 (.pointer (some ⟨c.X,0,none⟩)) rfl rfl (fun _ _=>by unfold execOp;go_simp) O ?_
      change wpAnyH _ _ _ _ _ _ _ F42_ _;delta F42_;refine dk 2 (.pointer (some ⟨c.X,3,none⟩)) rfl rfl (fun _ _=>by unfold execOp;go_simp) O ?_
      change wpAnyH _ _ _ _ _ _ _ F42_ _;delta F42_;refine dk 3 (.map (some c.D)) rfl rfl (fun W h=>run_ld_decls rfl rfl h.2) O ?_
      change wpAnyH _ _ _ _ _ _ _ F42_ _;delta F42_;refine dk 4 (.pointer (some ⟨c.X,0,none⟩)) rfl rfl (fun _ _=>rfl) O ?_
      change wpAnyH _ _ _ _ _ _ _ F42_ _;delta F42_;refine do1 5 rfl rfl ?_;refine wp_call (vs:=#[.pointer (some ⟨c.X,0,none⟩)]) rfl rfl (enters_of Tryz.func39 (by kernel_rfl) rfl) (by simp [Act.eval]) (HN.out _ k' (G.out.run.rd K.out)) ?_
      rintro e w1 ⟨rfl,N⟩;have G:=Hd (G.out.call (.of_below N) ((G.out.run.rd K.out).below N) Q.out);have S1:RdS c w1/\w1.cell? ⟨c.X,3,none⟩=some (.map (some c.D)):=⟨(G.out.run.rd K.out).s,G.out.run.cells.1.2.2.2.1⟩;refine ⟨S1,?_⟩;change wpAnyH _ _ _ _ _ _ _ F42_ _;delta F42_;refine dk 6 (.string (c.nx k').text) rfl rfl (fun W _=>run_fd_tok rfl rfl) S1 ?_
      change wpAnyH _ _ _ _ _ _ _ F42_ _;delta F42_;refine dk 7 (lookE (c.nx k').text.data.toList c.declE) rfl rfl (fun W h=>run_lk_decls rfl rfl rfl (run_decls h.1 _)) S1 ?_
      change wpAnyH _ _ _ _ _ _ _ F42_ _;delta F42_;refine dk 8 (lookE (c.nx k').text.data.toList c.declE) rfl rfl (fun _ _=>rfl) S1 ?_
      change wpAnyH _ _ _ _ _ _ _ F42_ _;delta F42_;clear O S1 N;refine wpAnyH_done (by kernel_rfl) ?_ _
      go_wp2_with fail;go_roundg m
      case measure=>omega
      case rel=>exact ⟨⟨k',_,_,_,G.out,rfl,HZ.out.symm,by have:=o.out.1;have:=z.out;have:=aw.out;omega,by have:=o.out.2;have:=z.out;have:=aw.out;simp only [List.length_append];omega⟩,by have:=al.out;omega⟩
    · rw [look_none (by simpa using h1) (by simpa using h2)] at hu
      subst hu;have hz:Y1=.ok p (c.at j):=by rw [<- bn.out];unfold declsP;rw [if_neg h1,if_neg h2]
      have b3:=Hd (cm.out _ _ hz);obtain ⟨a1,c1,a2,c2,rfl,rfl,GT⟩:=G.out.threads;obtain ⟨Z3,bu⟩:=Qx (threadsP fnd c.L n [] (c.at j));have HS:Hid (Y=Z3.then fun l r=>.ok { p with threads:=l } r):=by rw [Hid,HS.out,hz,bu];rfl
      have B1:Hid (ThrI c w P a1 c1 a2 c2 p Z3 n _):=⟨j,[],_,[],GT,bu.symm,by have:=HM.out;have:=b3.out;omega,by have:=HM.out;have:=b3.out;simp;omega⟩
      clear hz bu h1 h2 G GT;go_wp2_with fail;go_loopg [] n (fun m W=>ThrI c w P a1 c1 a2 c2 p Z3 m W/\m<=n)
      case atStart=>exact ⟨B1.out,Nat.le_refl _⟩
      case round =>
       obtain ⟨⟨i,l,vT,xs,G1,b2,ar,a8⟩,a9⟩:=hrel;have G:=Hd G1;have o:=Hd (And.intro ar a8);have al:=Hd a9;have b7:=Hd b2;clear G1 b2 ar a8 a9;obtain ⟨m2,rfl⟩:∃ m2,gk=m2+1:=⟨gk-1,by have:=o.out.1;omega⟩
       obtain ⟨B,hB⟩:=Qx (isT [116,104,114,101,97,100] (c.at i));have cd:Hid (∀ W,Rd c W i->Calls Tryz.prog 40 #[.pointer (some ⟨c.X,0,none⟩),.string ⟨#[116,104,114,101,97,100]⟩] W fun e w'=>e=.returned (.bool B)/\Fr c W w'/\Rd c w' (if B=true then i+1 else i)):=fun W RW=>by rw [hB];exact HP.out W i ⟨#[116,104,114,101,97,100]⟩ RW (by decide)
       cases B with
       | false =>
         have a7:Z3=.ok l (c.at i):=by rw [<- b7.out];unfold threadsP;rw [<- hB];rfl
         have HZ:=Hd a7;clear a7 hB;go_wp2_with fail;go_at_call 40;refine (cd.out _ (G.out.run.rd K.out)).mono ?_;rintro e w3 ⟨rfl,ap,ay⟩;have G:=Hd (G.out.call ap (show Rd c w3 i from ay) Q.out)
         clear ap ay;obtain ⟨a3,c3,rfl,cf⟩:=row_shape G.out.rT;have cl:=Hd cf;clear cf;have OP:=G.out.own;have OR:=G.out.res;have bg:c.X≠w.heap.size:=by have:=Q.out;omega
         have A6:=Hd (G.out.run.setRow (Nat.le_refl _) bg #[.slice a1 p.shared.length c1,.slice a2 p.locks.length c2,.slice a3 l.length c3]);have br:Hid (Stays (RB w P (.slice a3 l.length c3)) w3 (w3.setRow w.heap.size #[.slice a1 p.shared.length c1,.slice a2 p.locks.length c2,.slice a3 l.length c3])):=stays_row w3 _ (fun b N=>by have:=N.1;omega)
         have cq:=Hd (row_apart G.out.rT G.out.res rfl);clear bg;unfold zPg at OR;go_wp2_with (first | (refine ld rowPg rfl rfl rfl OP rfl ?_) | (refine st rowPg rfl rfl OR rfl rfl (by rfl) (by rfl) (by kernel_rfl) ?_))
         refine p_ret rowPg rfl (OR.row #[.slice a1 p.shared.length c1,.slice a2 p.locks.length c2,.slice a3 l.length c3]) rfl rfl rfl ?_;show RdPost c w Y _ _ _;rw [HS.out,HZ.out];refine ⟨A6.out.fr,_,i,rfl,⟨a1,c1,a2,c2,a3,c3,rfl,?_,?_,?_⟩,A6.out.rd K.out,rfl⟩
         · exact dcsAt_stays br.out (fun b N=>Nat.le_of_lt N.1) G.out.dS
         · exact dcsAt_stays br.out (fun b N=>Nat.le_of_lt N.1) G.out.dL
         · have ce := row_row G.out.rT (g := w.heap.size) #[.slice a1 p.shared.length c1, .slice a2 p.locks.length c2, .slice a3 l.length c3] cq.out
           have co:=thsV_stays br.out (fun b N=>Nat.le_of_lt N.1) G.out.tv (R':=fun b=>w.heap.size<=b)
           cases l with
           | nil=>exact .inl rfl
           | cons x xx =>
             obtain ⟨g,rfl,hg⟩:=cl.out (by simp)
             exact .inr ⟨g,0,rfl,hg,thsIn_of co (row_cells ce rfl)⟩
       | true =>
         have ct:=Par.isT_lt hB.symm;obtain ⟨Z4,be⟩:=Qx (threadP fnd c.L m2 (c.at (i+1)));have z:Hid ((c.at (i+1)).length+1=(c.at i).length):=by rw [Hid,Par.at_len,Par.at_len];omega
         have b8:Hid (∀ W,Rd c W (i+1)->Calls Tryz.prog 41 #[.pointer (some ⟨c.X,0,none⟩)] W (RdPost c W Z4 (fun t v w'=>thR W.heap.size t v w'))):=fun W RW=>by rw [be];exact HT.out W (i+1) m2 RW (by have:=o.out.1;have:=z.out;omega)
         have ak:Hid (∀ t r,Z4=.ok t r->r.length<(c.at (i+1)).length):=fun t r h=>thread_short (be.symm.trans h)
         have a7:Z3=Z4.then fun t r=>threadsP fnd c.L m2 (l++[t]) r:=by
          rw [<- b7.out];conv=>lhs;unfold threadsP
          rw [<- hB,be,Par.at_tail];rfl
         have HZ:=Hd a7;clear a7 hB be ct;go_wp2_with fail;go_at_call 40;refine (cd.out _ (G.out.run.rd K.out)).mono ?_;rintro e w3 ⟨rfl,ap,ay⟩;have G:=Hd (G.out.call ap (show Rd c w3 (i+1) from ay) Q.out)
         clear ap ay;go_wp2_with fail;refine wp_region_held (S:=fun _=>True) (by kernel_rfl) ?_
         have G:=G.out.drew;change wpAnyH _ _ _ _ _ _ _ _ w3.drew;obtain ⟨W0,C⟩:=Qx w3.drew;rw [<- C] at G ⊢;clear C;refine dk 0 (.pointer (some ⟨P,2,none⟩)) rfl rfl (fun _ _=>by unfold execOp;go_simp) trivial ?_
         change wpAnyH _ _ _ _ _ _ _ F42_ _;delta F42_;refine dk 2 (.pointer (some ⟨c.X,0,none⟩)) rfl rfl (fun _ _=>rfl) trivial ?_
         change wpAnyH _ _ _ _ _ _ _ F42_ _;delta F42_;refine dr_two 1 3 rfl rfl rfl rfl (by kernel_rfl) ?_ ?_
         · refine wp_ld_ths rfl rfl (G.cell (i := 2) (v := vT) rfl) ⟨trivial, ?_⟩
           change wpAnyH _ _ _ _ _ _ _ F42_ _;delta F42_;refine do1 3 rfl rfl ?_;refine wp_call (vs:=#[.pointer (some ⟨c.X,0,none⟩)]) rfl rfl (enters_of Tryz.func41 (by kernel_rfl) rfl) (by simp [Act.eval]) (b8.out _ (G.run.rd K.out)) ?_
           rintro e E ⟨ae,hm⟩;rcases Z4 with ⟨t,r⟩ | ⟨q,rl⟩
           rotate_left
           · obtain rfl := hm
             have AZ:=Hd (G.run.fr.trans ae);clear ae;go_wp2_with fail;refine ⟨rfl,?_⟩;show RdPost c w Y _ _ _;rw [HS.out,HZ.out];exact ⟨AZ.out,rfl⟩
           obtain ⟨v1,k3,rfl,⟨F,J,H,I,rfl,ad,ac⟩,bq,rfl⟩:=hm;have G1:=G.call ae bq Q.out;have M:=ak.out _ _ rfl;have C:=G.run.fr.size;have ag:=G.own.lt;have ah:=G.ge;have hq:∀ b,W0.heap.size<=b/\b<E.heap.size->RB w P vT b/\b<E.heap.size+1:=fun b N=>⟨⟨by omega,by omega,fun e=>by have:=(G.rT.lt b e).2;omega⟩,by omega⟩
           refine ⟨trivial,?_⟩;change wpAnyH _ _ _ _ _ _ _ F42_ _;delta F42_;refine do1 4 rfl rfl ?_;refine wp_val (run_bs_th rfl rfl) ⟨trivial,?_⟩;change wpAnyH _ _ _ _ _ _ _ F42_ _;delta F42_;have T:=G1.alloc (.cells #[.string t.name,.slice F t.locals.length J,.slice H t.body.length I,.int .i64 t.pos] 66) Q.out K.out;have hv:thV (fun b=>RB w P vT b/\b<(E.alloc (.cells #[.string t.name,.slice F t.locals.length J,.slice H t.body.length I,.int .i64 t.pos] 66)).heap.size) (E.alloc (.cells #[.string t.name,.slice F t.locals.length J,.slice H t.body.length I,.int .i64 t.pos] 66)) t #[.string t.name,.slice F t.locals.length J,.slice H t.body.length I,.int .i64 t.pos].toList:=by
            rw [World.size_alloc];exact ⟨F,J,H,I,rfl,dcsAt_stays (stays_alloc _ E _) hq (dcsAt_in ad),stsAt_stays (stays_alloc _ E _) hq (stsAt_in ac)⟩
           have y:=World.news_of_block (Own.new E 66 #[.string t.name,.slice F t.locals.length J,.slice H t.body.length I,.int .i64 t.pos]);have ao:=World.size_alloc E (.cells #[.string t.name,.slice F t.locals.length J,.slice H t.body.length I,.int .i64 t.pos] 66);have U:=o.out.2;refine do1 5 rfl rfl ?_;obtain ⟨i0,hi,an,a0,aq⟩:=info_parts infoTh;refine wp_append_lies (E.alloc (.cells #[.string t.name,.slice F t.locals.length J,.slice H t.body.length I,.int .i64 t.pos] 66)) _ _ 24 rfl w.heap.size 66 i0 _ 4 72 Tryz.underlying24 hi an a0 aq rfl (by decide) vT l.length xs rfl T.rT ⟨E.heap.size,0,none⟩ 1 1 #[.string t.name,.slice F t.locals.length J,.slice H t.body.length I,.int .i64 t.pos].toList rfl rfl y (by simp [Value.oneCell']) (by decide) (by simp only [maxLen];omega) (by omega) (by have:=T.run.fr.size;omega) _ rfl ?_
           intro g2 bi w6 A a f bf;refine ⟨trivial,?_⟩;change wpAnyH _ _ _ _ _ _ _ F42_ _;delta F42_;refine dk 6 (.pointer (some ⟨P,2,none⟩)) rfl rfl (fun _ _=>by unfold execOp;go_simp) trivial ?_
           change wpAnyH _ _ _ _ _ _ _ F42_ _;delta F42_;refine do1 7 rfl rfl ?_;obtain ⟨B1,B2,B3⟩:=T.grown a Q.out;refine wp_st_ths rfl rfl rfl (u:=vT) (cr B3) (own_frozen B3 2) ⟨trivial,?_⟩;rw [setCell_row B3 2 _];have G3:=Hd (T.end_ Q.out hv a A f);have V:=Hd M;refine wpAnyH_done (by kernel_rfl) ?_ _
           clear A a f B1 B2 B3 G1 T M hv y ao ad ac hq C ag ah U;go_wp2_with fail;go_roundg m2
           case measure=>omega
           case rel=>exact ⟨⟨k3,l++[t],_,_,G3.out,HZ.out.symm,by have:=o.out.1;have:=V.out;have:=z.out;omega,by have:=o.out.2;have:=V.out;have:=z.out;rw [List.length_append,List.length_singleton];omega⟩,by have:=al.out;omega⟩
         · skip
           refine wp_call (vs:=#[.pointer (some ⟨c.X,0,none⟩)]) rfl rfl (enters_of Tryz.func41 (by kernel_rfl) rfl) (by simp [Act.eval]) (b8.out _ (G.run.rd K.out)) ?_
           rintro e E ⟨ae,hm⟩;rcases Z4 with ⟨t,r⟩ | ⟨q,rl⟩
           rotate_left
           · obtain rfl := hm
             have AZ:=Hd (G.run.fr.trans ae);clear ae;go_wp2_with fail;refine ⟨rfl,?_⟩;show RdPost c w Y _ _ _;rw [HS.out,HZ.out];exact ⟨AZ.out,rfl⟩
           obtain ⟨v1,k3,rfl,⟨F,J,H,I,rfl,ad,ac⟩,bq,rfl⟩:=hm;have G1:=G.call ae bq Q.out;have M:=ak.out _ _ rfl;have C:=G.run.fr.size;have ag:=G.own.lt;have ah:=G.ge;have hq:∀ b,W0.heap.size<=b/\b<E.heap.size->RB w P vT b/\b<E.heap.size+1:=fun b N=>⟨⟨by omega,by omega,fun e=>by have:=(G.rT.lt b e).2;omega⟩,by omega⟩
           refine ⟨trivial,?_⟩;change wpAnyH _ _ _ _ _ _ _ F42_ _;delta F42_;refine dr_two 1 4 rfl rfl rfl rfl (by kernel_rfl) ?_ ?_
           · refine wp_ld_ths rfl rfl (G1.cell (i := 2) (v := vT) rfl) ⟨trivial, ?_⟩
             change wpAnyH _ _ _ _ _ _ _ F42_ _;delta F42_;refine do1 4 rfl rfl ?_;refine wp_val (run_bs_th rfl rfl) ⟨trivial,?_⟩;change wpAnyH _ _ _ _ _ _ _ F42_ _;delta F42_;have T:=G1.alloc (.cells #[.string t.name,.slice F t.locals.length J,.slice H t.body.length I,.int .i64 t.pos] 66) Q.out K.out;have hv:thV (fun b=>RB w P vT b/\b<(E.alloc (.cells #[.string t.name,.slice F t.locals.length J,.slice H t.body.length I,.int .i64 t.pos] 66)).heap.size) (E.alloc (.cells #[.string t.name,.slice F t.locals.length J,.slice H t.body.length I,.int .i64 t.pos] 66)) t #[.string t.name,.slice F t.locals.length J,.slice H t.body.length I,.int .i64 t.pos].toList:=by
              rw [World.size_alloc];exact ⟨F,J,H,I,rfl,dcsAt_stays (stays_alloc _ E _) hq (dcsAt_in ad),stsAt_stays (stays_alloc _ E _) hq (stsAt_in ac)⟩
             have y:=World.news_of_block (Own.new E 66 #[.string t.name,.slice F t.locals.length J,.slice H t.body.length I,.int .i64 t.pos]);have ao:=World.size_alloc E (.cells #[.string t.name,.slice F t.locals.length J,.slice H t.body.length I,.int .i64 t.pos] 66);have U:=o.out.2;refine do1 5 rfl rfl ?_;obtain ⟨i0,hi,an,a0,aq⟩:=info_parts infoTh;refine wp_append_lies (E.alloc (.cells #[.string t.name,.slice F t.locals.length J,.slice H t.body.length I,.int .i64 t.pos] 66)) _ _ 24 rfl w.heap.size 66 i0 _ 4 72 Tryz.underlying24 hi an a0 aq rfl (by decide) vT l.length xs rfl T.rT ⟨E.heap.size,0,none⟩ 1 1 #[.string t.name,.slice F t.locals.length J,.slice H t.body.length I,.int .i64 t.pos].toList rfl rfl y (by simp [Value.oneCell']) (by decide) (by simp only [maxLen];omega) (by omega) (by have:=T.run.fr.size;omega) _ rfl ?_
             intro g2 bi w6 A a f bf;refine ⟨trivial,?_⟩;change wpAnyH _ _ _ _ _ _ _ F42_ _;delta F42_;refine dk 6 (.pointer (some ⟨P,2,none⟩)) rfl rfl (fun _ _=>by unfold execOp;go_simp) trivial ?_
             change wpAnyH _ _ _ _ _ _ _ F42_ _;delta F42_;refine do1 7 rfl rfl ?_;obtain ⟨B1,B2,B3⟩:=T.grown a Q.out;refine wp_st_ths rfl rfl rfl (u:=vT) (cr B3) (own_frozen B3 2) ⟨trivial,?_⟩;rw [setCell_row B3 2 _];have G3:=Hd (T.end_ Q.out hv a A f);have V:=Hd M;refine wpAnyH_done (by kernel_rfl) ?_ _
             clear A a f B1 B2 B3 G1 T M hv y ao ad ac hq C ag ah U;go_wp2_with fail;go_roundg m2
             case measure=>omega
             case rel=>exact ⟨⟨k3,l++[t],_,_,G3.out,HZ.out.symm,by have:=o.out.1;have:=V.out;have:=z.out;omega,by have:=o.out.2;have:=V.out;have:=z.out;rw [List.length_append,List.length_singleton];omega⟩,by have:=al.out;omega⟩
           · skip
             refine wp_val (run_bs_th rfl rfl) ⟨trivial,?_⟩;change wpAnyH _ _ _ _ _ _ _ F42_ _;delta F42_;have T:=G1.alloc (.cells #[.string t.name,.slice F t.locals.length J,.slice H t.body.length I,.int .i64 t.pos] 66) Q.out K.out;have hv:thV (fun b=>RB w P vT b/\b<(E.alloc (.cells #[.string t.name,.slice F t.locals.length J,.slice H t.body.length I,.int .i64 t.pos] 66)).heap.size) (E.alloc (.cells #[.string t.name,.slice F t.locals.length J,.slice H t.body.length I,.int .i64 t.pos] 66)) t #[.string t.name,.slice F t.locals.length J,.slice H t.body.length I,.int .i64 t.pos].toList:=by
              rw [World.size_alloc];exact ⟨F,J,H,I,rfl,dcsAt_stays (stays_alloc _ E _) hq (dcsAt_in ad),stsAt_stays (stays_alloc _ E _) hq (stsAt_in ac)⟩
             have y:=World.news_of_block (Own.new E 66 #[.string t.name,.slice F t.locals.length J,.slice H t.body.length I,.int .i64 t.pos]);have ao:=World.size_alloc E (.cells #[.string t.name,.slice F t.locals.length J,.slice H t.body.length I,.int .i64 t.pos] 66);have U:=o.out.2;refine do1 1 rfl rfl ?_;refine wp_ld_ths rfl rfl (T.cell (i:=2) (v:=vT) rfl) ⟨trivial,?_⟩;change wpAnyH _ _ _ _ _ _ _ F42_ _;delta F42_;refine do1 5 rfl rfl ?_;obtain ⟨i0,hi,an,a0,aq⟩:=info_parts infoTh;refine wp_append_lies (E.alloc (.cells #[.string t.name,.slice F t.locals.length J,.slice H t.body.length I,.int .i64 t.pos] 66)) _ _ 24 rfl w.heap.size 66 i0 _ 4 72 Tryz.underlying24 hi an a0 aq rfl (by decide) vT l.length xs rfl T.rT ⟨E.heap.size,0,none⟩ 1 1 #[.string t.name,.slice F t.locals.length J,.slice H t.body.length I,.int .i64 t.pos].toList rfl rfl y (by simp [Value.oneCell']) (by decide) (by simp only [maxLen];omega) (by omega) (by have:=T.run.fr.size;omega) _ rfl ?_
             intro g2 bi w6 A a f bf;refine ⟨trivial,?_⟩;change wpAnyH _ _ _ _ _ _ _ F42_ _;delta F42_;refine dk 6 (.pointer (some ⟨P,2,none⟩)) rfl rfl (fun _ _=>by unfold execOp;go_simp) trivial ?_
             change wpAnyH _ _ _ _ _ _ _ F42_ _;delta F42_;refine do1 7 rfl rfl ?_;obtain ⟨B1,B2,B3⟩:=T.grown a Q.out;refine wp_st_ths rfl rfl rfl (u:=vT) (cr B3) (own_frozen B3 2) ⟨trivial,?_⟩;rw [setCell_row B3 2 _];have G3:=Hd (T.end_ Q.out hv a A f);have V:=Hd M;refine wpAnyH_done (by kernel_rfl) ?_ _
             clear A a f B1 B2 B3 G1 T M hv y ao ad ac hq C ag ah U;go_wp2_with fail;go_roundg m2
             case measure=>omega
             case rel=>exact ⟨⟨k3,l++[t],_,_,G3.out,HZ.out.symm,by have:=o.out.1;have:=V.out;have:=z.out;omega,by have:=o.out.2;have:=V.out;have:=z.out;rw [List.length_append,List.length_singleton];omega⟩,by have:=al.out;omega⟩
end Go.Proofs.YtbgfkdiihnidaaaGreatDoor

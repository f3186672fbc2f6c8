/- The proof, part 18: texts that belong together, in one. -/
import Derived.Test.YtieeaehabjjaoaaGreatDoorHAP
import Derived.Test.YtieeaehabjjaoaaGreatDoorHAQ
import Derived.Test.YtieeaehabjjaoaaGreatDoorRows
import Derived.OpenShut
set_option maxRecDepth 100000
set_option maxHeartbeats 20000000
namespace Go.Proofs.YtieeaehabjjaoaaGreatDoor
open Go.RowKit Go.ChangeShapes Go.WideShapes
set_option linter.unusedVariables false
set_option maxRecDepth 100000
mutual
def bkE:Ex→Nat | .mk _ _ _ n ks _=>n.size+bkEs ks+1
def bkEs:List Ex→Nat | []=>0 | x::r=>bkE x+bkEs r
end
mutual
def bkS:St→Nat | .mk _ n o e b l _=>n.size+o.size+bkEs e+bkSs b+bkSs l+1
def bkSs:List St→Nat | []=>0 | x::r=>bkS x+bkSs r
end
def bkD (d:Dc):Nat:=d.name.size+1
def bkDs:List Dc→Nat | []=>0 | x::r=>bkD x+bkDs r
def bkT (t:Th):Nat:=t.name.size+bkDs t.locals+bkSs t.body+1
def bkTs:List Th→Nat | []=>0 | x::r=>bkT x+bkTs r
def bkP (p:Pg):Nat:=bkDs p.shared+bkDs p.locks+bkTs p.threads
def sumL {α:Type} (mu:α→Nat):List α→Nat | []=>0 | x::r=>mu x+sumL mu r
theorem sumE:∀ l,sumL bkE l=bkEs l | []=>rfl | x::r=>by simp [sumL,bkEs,sumE r]
theorem sumS:∀ l,sumL bkS l=bkSs l | []=>rfl | x::r=>by simp [sumL,bkSs,sumS r]
theorem sumD:∀ l,sumL bkD l=bkDs l | []=>rfl | x::r=>by simp [sumL,bkDs,sumD r]
theorem sumT:∀ l,sumL bkT l=bkTs l | []=>rfl | x::r=>by simp [sumL,bkTs,sumT r]
theorem sum_len {α:Type} {mu:α→Nat} (h:∀ x,1≤mu x):∀ l,l.length≤sumL mu l
 | []=>Nat.zero_le _
 | x::r=>by have:=h x;have:=sum_len h r;simp only [sumL,List.length_cons];omega
theorem sum_mem {α:Type} {mu:α→Nat} : ∀ {l:List α} {x:α},x∈l→mu x≤sumL mu l
 | y :: r, x, h => by
   simp only [sumL]
   rcases List.mem_cons.1 h with rfl | h
   · omega
   · have:=sum_mem (mu:=mu) h;omega
theorem bkE_pos (x:Ex):1≤bkE x:=by obtain ⟨k,o,wd,nm,ks,ps⟩:=x;simp only [bkE];omega
theorem bkS_pos (x:St):1≤bkS x:=by obtain ⟨k,nm,ot,es,bo,el,ps⟩:=x;simp only [bkS];omega
theorem bkD_pos (x:Dc):1≤bkD x:=by simp only [bkD];omega
theorem bkT_pos (x:Th):1≤bkT x:=by simp only [bkT];omega
theorem bkEs_len (l:List Ex):l.length≤bkEs l:=by rw [← sumE];exact sum_len bkE_pos l
theorem bkSs_len (l:List St):l.length≤bkSs l:=by rw [← sumS];exact sum_len bkS_pos l
theorem bkDs_len (l:List Dc):l.length≤bkDs l:=by rw [← sumD];exact sum_len bkD_pos l
theorem bkTs_len (l:List Th):l.length≤bkTs l:=by rw [← sumT];exact sum_len bkT_pos l
theorem bkEs_mem {l:List Ex} {x:Ex} (h:x∈l):bkE x≤bkEs l:=by rw [← sumE];exact sum_mem h
theorem bkSs_mem {l:List St} {x:St} (h:x∈l):bkS x≤bkSs l:=by rw [← sumS];exact sum_mem h
theorem bkDs_mem {l:List Dc} {x:Dc} (h:x∈l):bkD x≤bkDs l:=by rw [← sumD];exact sum_mem h
theorem bkTs_mem {l:List Th} {x:Th} (h:x∈l):bkT x≤bkTs l:=by rw [← sumT];exact sum_mem h
theorem fitEs_all:∀ {l:List Ex},(∀ x∈l,fitE x)→fitEs l
 | [],_=>trivial
 | x::r,h=>⟨h x (.head _),fitEs_all fun y hy=>h y (.tail _ hy)⟩
theorem fitSs_all:∀ {l:List St},(∀ x∈l,fitS x)→fitSs l
 | [],_=>trivial
 | x::r,h=>⟨h x (.head _),fitSs_all fun y hy=>h y (.tail _ hy)⟩
theorem fitE_of:∀ x:Ex,bkE x≤1048576→fitE x:=by
 intro x
 induction x using Ex.ind with
 | h k o wd nm ks ps ih =>
   intro h
   simp only [bkE] at h
   have:=bkEs_len ks
   exact ⟨by unfold nmOk;omega,by omega,fitEs_all fun x hx=>ih x hx (by have:=bkEs_mem hx;omega)⟩
theorem fitEs_of {l:List Ex} (h:bkEs l≤1048576):fitEs l:=fitEs_all fun x hx=>fitE_of x (by have:=bkEs_mem hx;omega)
theorem fitS_of:∀ x:St,bkS x≤1048576→fitS x:=by
 intro x
 induction x using St.ind with
 | h k n o e b l ps ihb ihl =>
   intro h
   simp only [bkS] at h
   have h1:=bkEs_len e
   have h2:=bkSs_len b
   have h3:=bkSs_len l
   exact ⟨by unfold nmOk;omega,by unfold nmOk;omega,⟨by omega,fitEs_of (by omega)⟩,⟨by omega,fitSs_all fun x hx=>ihb x hx (by have:=bkSs_mem hx;omega)⟩,by omega,fitSs_all fun x hx=>ihl x hx (by have:=bkSs_mem hx;omega)⟩
theorem fitSs_of {l:List St} (h:bkSs l≤1048576):fitSs l:=fitSs_all fun x hx=>fitS_of x (by have:=bkSs_mem hx;omega)
theorem fitDs_of {l:List Dc} (h:bkDs l≤1048576):fitDs l:=fun x hx=>by have:=bkDs_mem hx;unfold bkD at this;unfold fitD nmOk;omega
theorem fitT_of {x:Th} (h:bkT x≤1048576):fitT x:=by
 unfold bkT at h
 have h1:=bkDs_len x.locals
 have h2:=bkSs_len x.body
 exact ⟨by unfold nmOk;omega,⟨by omega,fitDs_of (by omega)⟩,by omega,fitSs_of (by omega)⟩
theorem fitP_of {p:Pg} (h:bkP p≤1048576):fitP p:=by
 unfold bkP at h
 have h1:=bkDs_len p.shared
 have h2:=bkDs_len p.locks
 have h3:=bkTs_len p.threads
 exact ⟨⟨by omega,fitDs_of (by omega)⟩,⟨by omega,fitDs_of (by omega)⟩,by omega,fun x hx=>fitT_of (by have:=bkTs_mem hx;omega)⟩
section
variable {H:Type}
theorem sum_le {α:Type} {mu:α→Nat} : ∀ (l:List α) (es:List (DataW H × List MemPlace)),l.length=es.length→(∀ (i:Nat) (x:α) (e:DataW H × List MemPlace),l[i]? = some x→es[i]? = some e→mu x≤Rows.uptoBulk e.1)→sumL mu l≤Rows.uptoBulkAll (es.map (·.1))
 | [],_,_,_=>Nat.zero_le _
 | x::r,[],h,_=>by simp at h
 | x :: r, e :: q, h, hm => by
   have h1:=hm 0 x e rfl rfl
   have h2:=sum_le r q (by simpa using h) fun i y f hy hf=>hm (i+1) y f (by simpa using hy) (by simpa using hf)
   simp only [sumL,List.map_cons,Rows.uptoBulkAll]
   omega
end
section
variable {H:Type} {enc:TypeId × Value→H} {W:World} {sp:Nat→Bool} {held:Bool}
theorem open_fieldsM {T:TypeId} {fs:Array Go.Field} (ht:Tryz.prog.underlying T=some (.struct fs)) {ks:List (Nat × Nat × Option TypeDesc)} (hk:fs.toList.map (fun f:Go.Field=>(f.offset,Tryz.prog.cellsOf f.type,Tryz.prog.underlying f.type))=ks)
 (h1:ks.map (fun u=>(u.1,u.2.1))=(List.range ks.length).map (fun i=>(i,1))) (hc:Tryz.prog.cellsOf T=ks.length) {n:Nat} {cs:List Value} {y:DataW H × List MemPlace} (h:DataW.trod enc Tryz.prog W 0 sp held n T cs=some y) :
 ∃ (m:Nat) (ys:List (DataW H × List MemPlace)),n=m+1∧cs.length=ks.length∧ys.length=ks.length∧y.1=.agg (ys.map (·.1))∧∀ (i:Nat) (k:Nat × Nat × Option TypeDesc),ks[i]? = some k→∃ v t z,cs[i]? = some v∧ys[i]? = some z∧Tryz.prog.underlying t=k.2.2∧DataW.trod enc Tryz.prog W 0 sp held m t [v]=some z:=by
 obtain ⟨ys,m,hn,hy0,hl,hyl,hf⟩:=DataW.trod_struct ht h
 rw [hc] at hl
 refine ⟨m,ys,hn,hl,by rw [hyl,← hk,List.length_map];simp,by rw [hy0],fun i k hi=>?_⟩
 have hks:ks[i]? = (fs[i]?).map (fun f:Go.Field=>(f.offset,Tryz.prog.cellsOf f.type,Tryz.prog.underlying f.type)):=by
  rw [← hk,List.getElem?_map,Array.getElem?_toList]
 rw [hi] at hks
 cases hfi:fs[i]? with
 | none=>rw [hfi] at hks;cases hks
 | some f =>
   rw [hfi] at hks
   obtain rfl:k=(f.offset,Tryz.prog.cellsOf f.type,Tryz.prog.underlying f.type):=by simpa using hks
   have hlt:i<ks.length:=(List.getElem?_eq_some_iff.1 hi).1
   have e1:(ks.map (fun u=>(u.1,u.2.1)))[i]? = some (f.offset,Tryz.prog.cellsOf f.type):=by rw [List.getElem?_map,hi];rfl
   rw [h1,List.getElem?_map,List.getElem?_range hlt] at e1
   obtain ⟨eo,ec⟩:i=f.offset∧1=Tryz.prog.cellsOf f.type:=by simpa using e1
   have hg:=hf i f hfi
   rw [← eo,← ec] at hg
   have hci:i<cs.length:=by omega
   rw [List.drop_eq_getElem_cons hci,List.take_succ_cons,List.take_zero] at hg
   have hyi:i<ys.length:=by rw [hyl];exact (Array.getElem?_eq_some_iff.1 hfi).1
   rw [List.getElem?_eq_getElem hyi] at hg
   exact ⟨cs[i],f.type,ys[i],List.getElem?_eq_getElem hci,List.getElem?_eq_getElem hyi,rfl,hg⟩
theorem one_stringM {t:TypeId} {n:Nat} {v:Value} {z:DataW H × List MemPlace} (ht:Tryz.prog.underlying t=some .string) (h:DataW.trod enc Tryz.prog W 0 sp held n t [v]=some z):∃ x,v=.string x∧x.size+1≤Rows.uptoBulk z.1:=by
 obtain ⟨x,hx,hz,_⟩:=DataW.trod_string ht h
 exact ⟨x,by simpa using hx,by subst hz;simp [Rows.uptoBulk]⟩
theorem open_listM {T e:TypeId} (ht:Tryz.prog.underlying T=some (.slice e)) {m:Nat} (hm:Tryz.prog.cellsOf e=m) (h0:0<m) {α:Type} (El:α→List Value→Prop) (mu:α→Nat) {n:Nat} {v:Value} {z:DataW H × List MemPlace} (h:DataW.trod enc Tryz.prog W 0 sp held n T [v]=some z)
 (hel:∀ k cs y,k<n→DataW.trod enc Tryz.prog W 0 sp held k e cs=some y→∃ x:α,El x cs∧mu x≤Rows.uptoBulk y.1) :
 ∃ (l:List α) (a:Option Addr) (cap:Nat),v=.slice a l.length cap∧l.length≤9223372036854775807∧sumL mu l≤Rows.uptoBulk z.1∧(l=[]∨∃ g q,a=some ⟨g,q,none⟩∧∀ i x,l[i]? = some x→∃ cs,El x cs∧cellsIn W g (q+i*m) cs):=by
 rcases DataW.trod_slice ht h with ⟨hcs,_⟩ | ⟨a,len,cap,elems,rest,k,hk,hcs,hz0,_,hle,hcap,hlen,hes,_⟩
 · exact ⟨[],none,0,by simpa using hcs,by simp,by simp [sumL],.inl rfl⟩
 · obtain rfl : v = .slice (some a) len cap := by simpa using hcs
   have hml:maxLen≤9223372036854775807:=by unfold maxLen;decide
   have each:∀ i,i<len→∃ x:α,∃ cs,(El x cs∧∀ e,elems[i]? = some e→mu x≤Rows.uptoBulk e.1)∧a.spot=none∧cellsIn W a.block (a.off+i*m) cs:=by
    intro i hi
    have h1:=hes i hi
    rw [List.getElem?_eq_getElem (by omega),hm,Option.bind_eq_some_iff] at h1
    obtain ⟨cs,h2,h3⟩:=h1
    obtain ⟨x,hx⟩:=hel k cs _ (by omega) h3
    obtain ⟨_,hl,hc⟩:=World.cells?_some h2
    have hsp:a.spot=none:=by
     have h1:=hes 0 (by omega)
     rw [List.getElem?_eq_getElem (by omega),hm,Option.bind_eq_some_iff] at h1
     obtain ⟨cs0,h20,h30⟩:=h1
     obtain ⟨_,_,hc⟩:=World.cells?_some h20
     have h00:=hc 0 (by omega)
     have hl0:cs0.length=m:=(World.cells?_some h20).2.1
     rw [List.getElem?_eq_getElem (by omega)] at h00
     have:=World.cell?_spot h00
     simpa [Addr.add] using this
    obtain ⟨g,off,spot⟩:=a
    simp only at hsp
    subst hsp
    refine ⟨x,cs,⟨hx.1,fun e he=>?_⟩,rfl,fun j u hj=>?_⟩
    · rw [List.getElem?_eq_getElem (by omega)] at he;obtain rfl:=Option.some.inj he;exact hx.2
    have hjm:j<cs.length:=(List.getElem?_eq_some_iff.1 hj).1
    have:=hc j (by omega)
    rw [add_off,add_off] at this
    show W.cell? ⟨g,off+i*m+j,none⟩=some u
    rw [this];exact hj
   refine ⟨(List.range len).attach.map fun i=>(each i.1 (List.mem_range.1 i.2)).choose,some a,cap,by simp,by simp;omega,?_,?_⟩
   · rw [hz0]
     refine Nat.le_trans (sum_le _ elems (by simp [hlen]) fun i x e hx he=>?_) (by simp only [Rows.uptoBulk];omega)
     rw [List.getElem?_map] at hx
     obtain ⟨⟨i',hi'⟩,h1,rfl⟩:=Option.map_eq_some_iff.1 hx
     have e2:i'=i:=by
      obtain ⟨hb,hb2⟩:=List.getElem?_eq_some_iff.1 h1
      simp at hb2
      exact hb2.symm
     subst e2
     obtain ⟨cs,k1,_,k2⟩:=(each i' (List.mem_range.1 hi')).choose_spec
     exact k1.2 e he
   · by_cases hz : len = 0
     · left;subst hz;rfl
     · right
       obtain ⟨_,_,_,hsp,_⟩:=each 0 (by omega)
       refine ⟨a.block,a.off,by obtain ⟨g,off,spot⟩:=a;simp only at hsp;subst hsp;rfl,fun i x hx=>?_⟩
       rw [List.getElem?_map] at hx
       obtain ⟨⟨i',hi'⟩,h1,rfl⟩:=Option.map_eq_some_iff.1 hx
       have hil:i<len:=by
        have:=(List.getElem?_eq_some_iff.1 h1).1
        simpa using this
       have e:i'=i:=by
        have:=(List.getElem?_eq_some_iff.1 h1)
        obtain ⟨hb,hb2⟩:=this
        simp at hb2
        exact hb2.symm
       subst e
       obtain ⟨cs,k1,_,k2⟩:=(each i' (List.mem_range.1 hi')).choose_spec
       exact ⟨cs,k1.1,k2⟩
end
open Go.ChangeShapes Go.WideShapes Go.ChangeAt Go.WideMaps Go.WideElems Go.RowKit
set_option linter.unusedVariables false
theorem i64_bd {x:Int} (h:(Lit.int .i64 x).wf=true) : -9223372036854775808≤x∧x≤9223372036854775807:=by
 simp [Lit.wf,IntKind.min,IntKind.max,IntKind.signed,IntKind.bits] at h;omega
theorem u8_bd {x:Int} (h:(Lit.int .u8 x).wf=true):0≤x∧x≤255:=by
 simp [Lit.wf,IntKind.min,IntKind.max,IntKind.signed,IntKind.bits] at h;omega
open Go.ChangeShapes Go.WideShapes Go.ChangeAt Go.WideMaps Go.WideElems Go.RowKit
set_option linter.unusedVariables false
section
variable {H:Type} {enc:TypeId × Value→H} {W:World} {sp:Nat→Bool} {held:Bool}
theorem open_shape {n:Nat} {cs:List Value} {y:DataW H × List MemPlace} (h:DataW.trod enc Tryz.prog W 0 sp held n 158 cs=some y) :
 ∃ a b c d e,cs=[.bool a,.bool b,.int .i64 c,.bool d,.bool e]∧y.1=.agg [.lit (.bool a),.lit (.bool b),.lit (.int .i64 c),.lit (.bool d),.lit (.bool e)]:=by
 obtain ⟨m,ys,_,hl,hyl,hy,hf⟩:=open_fieldsM (ks:=[(0,1,some .bool),(1,1,some .bool),(2,1,some (.int .i64)),(3,1,some .bool),(4,1,some .bool)]) Tryz.underlying158 (by kernel_rfl) (by decide) (by kernel_rfl) h
 obtain ⟨v0,t0,z0,a0,b0,u0,w0⟩:=hf 0 _ rfl
 obtain ⟨v1,t1,z1,a1,b1,u1,w1⟩:=hf 1 _ rfl
 obtain ⟨v2,t2,z2,a2,b2,u2,w2⟩:=hf 2 _ rfl
 obtain ⟨v3,t3,z3,a3,b3,u3,w3⟩:=hf 3 _ rfl
 obtain ⟨v4,t4,z4,a4,b4,u4,w4⟩:=hf 4 _ rfl
 obtain ⟨x0,e0,f0⟩:=DataW.trod_bool u0 w0
 obtain ⟨x1,e1,f1⟩:=DataW.trod_bool u1 w1
 obtain ⟨x2,e2,f2,_⟩:=DataW.trod_int u2 w2
 obtain ⟨x3,e3,f3⟩:=DataW.trod_bool u3 w3
 obtain ⟨x4,e4,f4⟩:=DataW.trod_bool u4 w4
 obtain rfl:=(List.cons.inj e0).1
 obtain rfl:=(List.cons.inj e1).1
 obtain rfl:=(List.cons.inj e2).1
 obtain rfl:=(List.cons.inj e3).1
 obtain rfl:=(List.cons.inj e4).1
 refine ⟨x0,x1,x2,x3,x4,?_,?_⟩
 · match cs, hl, a0, a1, a2, a3, a4 with
   | [p, q, r, s, t], _, a0, a1, a2, a3, a4 =>
     simp at a0 a1 a2 a3 a4
     simp [a0,a1,a2,a3,a4]
 · rw [hy]
   match ys,hyl,b0,b1,b2,b3,b4 with
   | [p, q, r, s, t], _, b0, b1, b2, b3, b4 =>
     simp at b0 b1 b2 b3 b4
     simp [b0,b1,b2,b3,b4,f0,f1,f2,f3,f4]
end
theorem gSh:Tryz.prog.globalNamed "stile/pretty.shapes" = some 1:=by kernel_rfl
theorem tSh:(Tryz.prog.globals[1]?).map (·.type)=some 159:=by kernel_rfl
theorem tPow4:(Tryz.prog.globals[4]?).map (·.type)=some 244:=by kernel_rfl
theorem cellsSh:Tryz.prog.cellsOf 158=5:=by kernel_rfl
theorem ptab_of_vars {W:World} {L:List (String × DataW Unit)} {ps:List MemPlace} (h:DataW.LaidVars Tryz.prog W L ps) (h1:("stile/pretty.shapes",Rows.laid_stile_pretty_shapes)∈L):PTab W:=by
 obtain ⟨c1,f1,p1,v1,d1⟩:=laid_var gSh tSh h h1
 obtain ⟨xs,m,_,hx,hl,hxl,hf⟩:=DataW.trod_array Tryz.underlying159 d1
 have hfst:=(congrArg Prod.fst hx).symm
 simp only at hfst
 unfold Rows.laid_stile_pretty_shapes at hfst
 have hfst:=DataW.agg.inj hfst
 rw [cellsSh] at hf
 have each:∀ (i:Nat) (a b d e:Bool) (c:Int),i<8→(xs.map (·.1))[i]? = some (DataW.agg [.lit (.bool a),.lit (.bool b),.lit (.int .i64 c),.lit (.bool d),.lit (.bool e)]) →
  W.cell? ⟨1,i*5,none⟩=some (.bool a)∧W.cell? ⟨1,i*5+1,none⟩=some (.bool b)∧W.cell? ⟨1,i*5+2,none⟩=some (.int .i64 c)∧W.cell? ⟨1,i*5+3,none⟩=some (.bool d)∧W.cell? ⟨1,i*5+4,none⟩=some (.bool e):=by
  intro i a b d e c hi hs
  have hxi:i<xs.length:=by omega
  have h3:=hf i hi
  rw [List.getElem?_eq_getElem hxi] at h3
  obtain ⟨a',b',c',d',e',hc,hy⟩:=open_shape h3
  rw [List.getElem?_map,List.getElem?_eq_getElem hxi,Option.map_some,hy] at hs
  simp at hs
  obtain ⟨rfl,rfl,rfl,rfl,rfl⟩:=hs
  have at5:∀ (j:Nat) (v:Value),[Value.bool a',.bool b',.int .i64 c',.bool d',.bool e'][j]? = some v→W.cell? ⟨1,i*5+j,none⟩=some v:=by
   intro j v hv
   have hj:j<5:=(List.getElem?_eq_some_iff.1 hv).1
   rw [World.var?_cell gSh v1 (i*5+j),← Array.getElem?_toList]
   rw [← hc,List.getElem?_take,if_pos hj,List.getElem?_drop] at hv
   exact hv
  exact ⟨at5 0 _ rfl,at5 1 _ rfl,at5 2 _ rfl,at5 3 _ rfl,at5 4 _ rfl⟩
 rw [hfst] at each
 have hz:=(each 0 false false false false 0 (by omega) rfl).1
 refine ⟨by have:=lt_of_at hz;exact this,fun k h0 h8=>?_⟩
 have hk:k=0∨k=1∨k=2∨k=3∨k=4∨k=5∨k=6∨k=7:=by omega
 rcases hk with rfl | rfl | rfl | rfl | rfl | rfl | rfl | rfl
 · exact each 0 _ _ _ _ _ (by omega) rfl
 · exact each 1 _ _ _ _ _ (by omega) rfl
 · exact each 2 _ _ _ _ _ (by omega) rfl
 · exact each 3 _ _ _ _ _ (by omega) rfl
 · exact each 4 _ _ _ _ _ (by omega) rfl
 · exact each 5 _ _ _ _ _ (by omega) rfl
 · exact each 6 _ _ _ _ _ (by omega) rfl
 · exact each 7 _ _ _ _ _ (by omega) rfl
theorem wtb_of_vars {W:World} {L:List (String × DataW Unit)} {ps:List MemPlace} (h:DataW.LaidVars Tryz.prog W L ps) (h1:("stile/pretty.shapes",Rows.laid_stile_pretty_shapes)∈L) (h2:("internal/strconv.uint64pow10",Rows.laid_internal_strconv_uint64pow10)∈L) (h3:LNm W∧Tabs W):WTb W:=by
 obtain ⟨c2,f2,p2,v2,d2⟩:=laid_var gPow tPow4 h h2
 have e2:=Lib.cells_of_tab (k:=.u64) (zs:=Lib.pow10Tab) Tryz.underlying244 Tryz.underlying127 (by kernel_rfl) (by kernel_rfl) d2
 have i2:=lt_of_at (v:=.int .u64 1) (by rw [World.var?_cell gPow v2 0,← Array.getElem?_toList,e2];rfl)
 refine ⟨⟨h3,ptab_of_vars h h1⟩,?_,i2⟩
 unfold Lib.TabIs
 rw [v2,← e2]
open Go.ChangeShapes Go.WideShapes Go.ChangeAt Go.WideMaps Go.WideElems Go.RowKit
set_option linter.unusedVariables false
set_option maxRecDepth 100000
def rgd (d:Dc):Prop:=-9223372036854775808≤d.wd∧d.wd≤9223372036854775807
def okgE (x:Ex):Prop:=okE x∧rgE x
def okgS (x:St):Prop:=okS x∧rgS x
def okgT (x:Th):Prop:=okT x∧rgT x
def okgP (x:Pg):Prop:=okP x∧rgP x∧rgD x.shared
theorem rgEs_all:∀ {l:List Ex},(∀ x∈l,rgE x)→rgEs l
 | [],_=>trivial
 | x::r,h=>⟨h x (.head _),rgEs_all fun y hy=>h y (.tail _ hy)⟩
theorem rgSs_all:∀ {l:List St},(∀ x∈l,rgS x)→rgSs l
 | [],_=>trivial
 | x::r,h=>⟨h x (.head _),rgSs_all fun y hy=>h y (.tail _ hy)⟩
section
variable {H:Type} {enc:TypeId × Value→H} {W:World} {sp:Nat→Bool} {held:Bool}
theorem one_intG {t:TypeId} {k:IntKind} {n:Nat} {v:Value} {z:DataW H × List MemPlace} (ht:Tryz.prog.underlying t=some (.int k)) (h:DataW.trod enc Tryz.prog W 0 sp held n t [v]=some z):∃ x,v=.int k x∧1≤Rows.uptoBulk z.1∧(Lit.int k x).wf=true:=by
 obtain ⟨x,hx,hz,hw⟩:=DataW.trod_int ht h
 exact ⟨x,by simpa using hx,by subst hz;simp [Rows.uptoBulk],hw⟩
theorem openG_dc (n:Nat) (cs:List Value) (y:DataW H × List MemPlace) (h:DataW.trod enc Tryz.prog W 0 sp held n 63 cs=some y):∃ x:Dc,(cs=dcCells x∧rgd x)∧bkD x≤Rows.uptoBulk y.1:=by
 obtain ⟨fs,hu,hk⟩:=fieldsD
 obtain ⟨m,ys,rfl,hl,hyl,hyd,hf⟩:=open_fieldsM hu hk rfl cellsD h
 obtain ⟨v0,t0,z0,c0,d0,u0,g0⟩:=hf 0 _ rfl
 obtain ⟨v1,t1,z1,c1,d1,u1,g1⟩:=hf 1 _ rfl
 obtain ⟨v2,t2,z2,c2,d2,u2,g2⟩:=hf 2 _ rfl
 obtain ⟨x0,rfl,m0⟩:=one_stringM u0 g0
 obtain ⟨x1,rfl,m1,f1⟩:=one_intG u1 g1
 obtain ⟨x2,rfl,m2,f2⟩:=one_intG u2 g2
 have hcs:cs=[.string x0,.int .i64 x1,.int .i64 x2]:=by
  apply List.ext_getElem?
  intro i
  match i with
  | 0=>exact c0
  | 1=>exact c1
  | 2=>exact c2
  | i+3=>rw [List.getElem?_eq_none (by rw [hl];simp),List.getElem?_eq_none (by simp)]
 have hys:ys=[z0,z1,z2]:=by
  apply List.ext_getElem?
  intro i
  match i with
  | 0=>exact d0
  | 1=>exact d1
  | 2=>exact d2
  | i+3=>rw [List.getElem?_eq_none (by rw [hyl];simp),List.getElem?_eq_none (by simp)]
 have hbk:Rows.uptoBulk y.1=Rows.uptoBulk z0.1+Rows.uptoBulk z1.1+Rows.uptoBulk z2.1+1:=by rw [hyd,hys];simp only [List.map_cons,List.map_nil,Rows.uptoBulk,Rows.uptoBulkAll];omega
 exact ⟨⟨x0,x1,x2⟩,⟨hcs,i64_bd f1⟩,by rw [hbk];simp only [bkD];omega⟩
theorem openG_ex:∀ (n:Nat) (cs:List Value) (y:DataW H × List MemPlace),DataW.trod enc Tryz.prog W 0 sp held n 59 cs=some y→∃ x:Ex,okgE x∧exV (fun _=>True) W x cs∧bkE x≤Rows.uptoBulk y.1:=by
 intro n
 induction n using Nat.strongRecOn with
 | ind n ih =>
 intro cs y h
 obtain ⟨fs,hu,hk⟩:=fieldsE
 obtain ⟨m,ys,rfl,hl,hyl,hyd,hf⟩:=open_fieldsM hu hk rfl cellsE h
 obtain ⟨v0,t0,z0,c0,d0,u0,g0⟩:=hf 0 _ rfl
 obtain ⟨v1,t1,z1,c1,d1,u1,g1⟩:=hf 1 _ rfl
 obtain ⟨v2,t2,z2,c2,d2,u2,g2⟩:=hf 2 _ rfl
 obtain ⟨v3,t3,z3,c3,d3,u3,g3⟩:=hf 3 _ rfl
 obtain ⟨v4,t4,z4,c4,d4,u4,g4⟩:=hf 4 _ rfl
 obtain ⟨v5,t5,z5,c5,d5,u5,g5⟩:=hf 5 _ rfl
 obtain ⟨x0,rfl,m0,f0⟩:=one_intG u0 g0
 obtain ⟨x1,rfl,m1,f1⟩:=one_intG u1 g1
 obtain ⟨x2,rfl,m2,f2⟩:=one_intG u2 g2
 obtain ⟨x3,rfl,m3⟩:=one_stringM u3 g3
 obtain ⟨x4,a4,cap4,rfl,b4,m4,e4⟩:=open_listM u4 cellsE (by decide) (fun (x:Ex) cs=>okgE x∧exV (fun _=>True) W x cs) bkE g4 (fun k cs y hk h=>by obtain ⟨x,h1,h2,h3⟩:=ih k (by omega) cs y h;exact ⟨x,⟨h1,h2⟩,h3⟩)
 rw [sumE] at m4
 obtain ⟨x5,rfl,m5,f5⟩:=one_intG u5 g5
 have hcs:cs=[.int .u8 x0,.int .u8 x1,.int .i64 x2,.string x3,.slice a4 x4.length cap4,.int .i64 x5]:=by
  apply List.ext_getElem?
  intro i
  match i with
  | 0=>exact c0
  | 1=>exact c1
  | 2=>exact c2
  | 3=>exact c3
  | 4=>exact c4
  | 5=>exact c5
  | i+6=>rw [List.getElem?_eq_none (by rw [hl];simp),List.getElem?_eq_none (by simp)]
 have hys:ys=[z0,z1,z2,z3,z4,z5]:=by
  apply List.ext_getElem?
  intro i
  match i with
  | 0=>exact d0
  | 1=>exact d1
  | 2=>exact d2
  | 3=>exact d3
  | 4=>exact d4
  | 5=>exact d5
  | i+6=>rw [List.getElem?_eq_none (by rw [hyl];simp),List.getElem?_eq_none (by simp)]
 have hbk:Rows.uptoBulk y.1=Rows.uptoBulk z0.1+Rows.uptoBulk z1.1+Rows.uptoBulk z2.1+Rows.uptoBulk z3.1+Rows.uptoBulk z4.1+Rows.uptoBulk z5.1+1:=by rw [hyd,hys];simp only [List.map_cons,List.map_nil,Rows.uptoBulk,Rows.uptoBulkAll];omega
 have w4:exsAt (fun _=>True) W x4 a4:=by
  rcases e4 with rfl | ⟨g,q,rfl,hq⟩
  · exact .inl rfl
  · exact .inr ⟨g,q,rfl,trivial,exsIn_all _ q fun i x hx=>by obtain ⟨cs,⟨_,h1⟩,h2⟩:=hq i x hx;exact exIn_of h1 h2⟩
 have k4:∀ x∈x4,okgE x:=by
  intro x hx
  obtain ⟨i,hi⟩:=List.getElem?_of_mem hx
  rcases e4 with rfl | ⟨g,q,rfl,hq⟩
  · simp at hx
  · obtain ⟨cs,⟨h1,_⟩,_⟩:=hq i x hi;exact h1
 exact ⟨.mk x0 x1 x2 x3 x4 x5,⟨⟨b4,(okEs_all fun x hx=>(k4 x hx).1)⟩,u8_bd f0,u8_bd f1,i64_bd f2,(rgEs_all fun x hx=>(k4 x hx).2)⟩,⟨a4,cap4,hcs,w4⟩,by rw [hbk];simp only [bkE];omega⟩
theorem openG_st:∀ (n:Nat) (cs:List Value) (y:DataW H × List MemPlace),DataW.trod enc Tryz.prog W 0 sp held n 66 cs=some y→∃ x:St,okgS x∧stV (fun _=>True) W x cs∧bkS x≤Rows.uptoBulk y.1:=by
 intro n
 induction n using Nat.strongRecOn with
 | ind n ih =>
 intro cs y h
 obtain ⟨fs,hu,hk⟩:=fieldsS
 obtain ⟨m,ys,rfl,hl,hyl,hyd,hf⟩:=open_fieldsM hu hk rfl cellsS h
 obtain ⟨v0,t0,z0,c0,d0,u0,g0⟩:=hf 0 _ rfl
 obtain ⟨v1,t1,z1,c1,d1,u1,g1⟩:=hf 1 _ rfl
 obtain ⟨v2,t2,z2,c2,d2,u2,g2⟩:=hf 2 _ rfl
 obtain ⟨v3,t3,z3,c3,d3,u3,g3⟩:=hf 3 _ rfl
 obtain ⟨v4,t4,z4,c4,d4,u4,g4⟩:=hf 4 _ rfl
 obtain ⟨v5,t5,z5,c5,d5,u5,g5⟩:=hf 5 _ rfl
 obtain ⟨v6,t6,z6,c6,d6,u6,g6⟩:=hf 6 _ rfl
 obtain ⟨x0,rfl,m0,f0⟩:=one_intG u0 g0
 obtain ⟨x1,rfl,m1⟩:=one_stringM u1 g1
 obtain ⟨x2,rfl,m2⟩:=one_stringM u2 g2
 obtain ⟨x3,a3,cap3,rfl,b3,m3,e3⟩:=open_listM u3 cellsE (by decide) (fun (x:Ex) cs=>okgE x∧exV (fun _=>True) W x cs) bkE g3 (fun k cs y hk h=>by obtain ⟨x,h1,h2,h3⟩:=openG_ex k cs y h;exact ⟨x,⟨h1,h2⟩,h3⟩)
 rw [sumE] at m3
 obtain ⟨x4,a4,cap4,rfl,b4,m4,e4⟩:=open_listM u4 cellsS (by decide) (fun (x:St) cs=>okgS x∧stV (fun _=>True) W x cs) bkS g4 (fun k cs y hk h=>by obtain ⟨x,h1,h2,h3⟩:=ih k (by omega) cs y h;exact ⟨x,⟨h1,h2⟩,h3⟩)
 rw [sumS] at m4
 obtain ⟨x5,a5,cap5,rfl,b5,m5,e5⟩:=open_listM u5 cellsS (by decide) (fun (x:St) cs=>okgS x∧stV (fun _=>True) W x cs) bkS g5 (fun k cs y hk h=>by obtain ⟨x,h1,h2,h3⟩:=ih k (by omega) cs y h;exact ⟨x,⟨h1,h2⟩,h3⟩)
 rw [sumS] at m5
 obtain ⟨x6,rfl,m6,f6⟩:=one_intG u6 g6
 have hcs:cs=[.int .u8 x0,.string x1,.string x2,.slice a3 x3.length cap3,.slice a4 x4.length cap4,.slice a5 x5.length cap5,.int .i64 x6]:=by
  apply List.ext_getElem?
  intro i
  match i with
  | 0=>exact c0
  | 1=>exact c1
  | 2=>exact c2
  | 3=>exact c3
  | 4=>exact c4
  | 5=>exact c5
  | 6=>exact c6
  | i+7=>rw [List.getElem?_eq_none (by rw [hl];simp),List.getElem?_eq_none (by simp)]
 have hys:ys=[z0,z1,z2,z3,z4,z5,z6]:=by
  apply List.ext_getElem?
  intro i
  match i with
  | 0=>exact d0
  | 1=>exact d1
  | 2=>exact d2
  | 3=>exact d3
  | 4=>exact d4
  | 5=>exact d5
  | 6=>exact d6
  | i+7=>rw [List.getElem?_eq_none (by rw [hyl];simp),List.getElem?_eq_none (by simp)]
 have hbk:Rows.uptoBulk y.1=Rows.uptoBulk z0.1+Rows.uptoBulk z1.1+Rows.uptoBulk z2.1+Rows.uptoBulk z3.1+Rows.uptoBulk z4.1+Rows.uptoBulk z5.1+Rows.uptoBulk z6.1+1:=by rw [hyd,hys];simp only [List.map_cons,List.map_nil,Rows.uptoBulk,Rows.uptoBulkAll];omega
 have w3:exsAt (fun _=>True) W x3 a3:=by
  rcases e3 with rfl | ⟨g,q,rfl,hq⟩
  · exact .inl rfl
  · exact .inr ⟨g,q,rfl,trivial,exsIn_all _ q fun i x hx=>by obtain ⟨cs,⟨_,h1⟩,h2⟩:=hq i x hx;exact exIn_of h1 h2⟩
 have k3:∀ x∈x3,okgE x:=by
  intro x hx
  obtain ⟨i,hi⟩:=List.getElem?_of_mem hx
  rcases e3 with rfl | ⟨g,q,rfl,hq⟩
  · simp at hx
  · obtain ⟨cs,⟨h1,_⟩,_⟩:=hq i x hi;exact h1
 have w4:stsAt (fun _=>True) W x4 a4:=by
  rcases e4 with rfl | ⟨g,q,rfl,hq⟩
  · exact .inl rfl
  · exact .inr ⟨g,q,rfl,trivial,stsIn_all _ q fun i x hx=>by obtain ⟨cs,⟨_,h1⟩,h2⟩:=hq i x hx;exact stIn_of h1 h2⟩
 have k4:∀ x∈x4,okgS x:=by
  intro x hx
  obtain ⟨i,hi⟩:=List.getElem?_of_mem hx
  rcases e4 with rfl | ⟨g,q,rfl,hq⟩
  · simp at hx
  · obtain ⟨cs,⟨h1,_⟩,_⟩:=hq i x hi;exact h1
 have w5:stsAt (fun _=>True) W x5 a5:=by
  rcases e5 with rfl | ⟨g,q,rfl,hq⟩
  · exact .inl rfl
  · exact .inr ⟨g,q,rfl,trivial,stsIn_all _ q fun i x hx=>by obtain ⟨cs,⟨_,h1⟩,h2⟩:=hq i x hx;exact stIn_of h1 h2⟩
 have k5:∀ x∈x5,okgS x:=by
  intro x hx
  obtain ⟨i,hi⟩:=List.getElem?_of_mem hx
  rcases e5 with rfl | ⟨g,q,rfl,hq⟩
  · simp at hx
  · obtain ⟨cs,⟨h1,_⟩,_⟩:=hq i x hi;exact h1
 exact ⟨.mk x0 x1 x2 x3 x4 x5 x6,⟨⟨⟨b3,(okEs_all fun x hx=>(k3 x hx).1)⟩,⟨b4,(okSs_all fun x hx=>(k4 x hx).1)⟩,b5,(okSs_all fun x hx=>(k5 x hx).1)⟩,u8_bd f0,(rgEs_all fun x hx=>(k3 x hx).2),(rgSs_all fun x hx=>(k4 x hx).2),(rgSs_all fun x hx=>(k5 x hx).2)⟩,⟨a3,cap3,a4,cap4,a5,cap5,hcs,w3,w4,w5⟩,by rw [hbk];simp only [bkS];omega⟩
theorem openG_th (n:Nat) (cs:List Value) (y:DataW H × List MemPlace) (h:DataW.trod enc Tryz.prog W 0 sp held n 39 cs=some y):∃ x:Th,okgT x∧thV (fun _=>True) W x cs∧bkT x≤Rows.uptoBulk y.1:=by
 obtain ⟨fs,hu,hk⟩:=fieldsT
 obtain ⟨m,ys,rfl,hl,hyl,hyd,hf⟩:=open_fieldsM hu hk rfl cellsT h
 obtain ⟨v0,t0,z0,c0,d0,u0,g0⟩:=hf 0 _ rfl
 obtain ⟨v1,t1,z1,c1,d1,u1,g1⟩:=hf 1 _ rfl
 obtain ⟨v2,t2,z2,c2,d2,u2,g2⟩:=hf 2 _ rfl
 obtain ⟨v3,t3,z3,c3,d3,u3,g3⟩:=hf 3 _ rfl
 obtain ⟨x0,rfl,m0⟩:=one_stringM u0 g0
 obtain ⟨x1,a1,cap1,rfl,b1,m1,e1⟩:=open_listM u1 cellsD (by decide) (fun (x:Dc) cs=>cs=dcCells x∧rgd x) bkD g1 (fun k cs y hk h=>by obtain ⟨x,h1,h2⟩:=openG_dc k cs y h;exact ⟨x,h1,h2⟩)
 rw [sumD] at m1
 obtain ⟨x2,a2,cap2,rfl,b2,m2,e2⟩:=open_listM u2 cellsS (by decide) (fun (x:St) cs=>okgS x∧stV (fun _=>True) W x cs) bkS g2 (fun k cs y hk h=>by obtain ⟨x,h1,h2,h3⟩:=openG_st k cs y h;exact ⟨x,⟨h1,h2⟩,h3⟩)
 rw [sumS] at m2
 obtain ⟨x3,rfl,m3,f3⟩:=one_intG u3 g3
 have hcs:cs=[.string x0,.slice a1 x1.length cap1,.slice a2 x2.length cap2,.int .i64 x3]:=by
  apply List.ext_getElem?
  intro i
  match i with
  | 0=>exact c0
  | 1=>exact c1
  | 2=>exact c2
  | 3=>exact c3
  | i+4=>rw [List.getElem?_eq_none (by rw [hl];simp),List.getElem?_eq_none (by simp)]
 have hys:ys=[z0,z1,z2,z3]:=by
  apply List.ext_getElem?
  intro i
  match i with
  | 0=>exact d0
  | 1=>exact d1
  | 2=>exact d2
  | 3=>exact d3
  | i+4=>rw [List.getElem?_eq_none (by rw [hyl];simp),List.getElem?_eq_none (by simp)]
 have hbk:Rows.uptoBulk y.1=Rows.uptoBulk z0.1+Rows.uptoBulk z1.1+Rows.uptoBulk z2.1+Rows.uptoBulk z3.1+1:=by rw [hyd,hys];simp only [List.map_cons,List.map_nil,Rows.uptoBulk,Rows.uptoBulkAll];omega
 have w1:dcsAt (fun _=>True) W x1 a1:=by
  rcases e1 with rfl | ⟨g,q,rfl,hq⟩
  · exact .inl rfl
  · exact .inr ⟨g,q,rfl,trivial,dcsIn_all _ q fun i x hx=>by obtain ⟨cs,⟨rfl,_⟩,h2⟩:=hq i x hx;exact dcIn_of h2⟩
 have w2:stsAt (fun _=>True) W x2 a2:=by
  rcases e2 with rfl | ⟨g,q,rfl,hq⟩
  · exact .inl rfl
  · exact .inr ⟨g,q,rfl,trivial,stsIn_all _ q fun i x hx=>by obtain ⟨cs,⟨_,h1⟩,h2⟩:=hq i x hx;exact stIn_of h1 h2⟩
 have k2:∀ x∈x2,okgS x:=by
  intro x hx
  obtain ⟨i,hi⟩:=List.getElem?_of_mem hx
  rcases e2 with rfl | ⟨g,q,rfl,hq⟩
  · simp at hx
  · obtain ⟨cs,⟨h1,_⟩,_⟩:=hq i x hi;exact h1
 exact ⟨⟨x0,x1,x2,x3⟩,⟨⟨b1,b2,(okSs_all fun x hx=>(k2 x hx).1)⟩,(rgSs_all fun x hx=>(k2 x hx).2)⟩,⟨a1,cap1,a2,cap2,hcs,w1,w2⟩,by rw [hbk];simp only [bkT];omega⟩
theorem openG_pg (n:Nat) (cs:List Value) (y:DataW H × List MemPlace) (h:DataW.trod enc Tryz.prog W 0 sp held n 25 cs=some y):∃ x:Pg,okgP x∧pA W x (.agg cs.toArray)∧bkP x≤Rows.uptoBulk y.1:=by
 obtain ⟨fs,hu,hk⟩:=fieldsP
 obtain ⟨m,ys,rfl,hl,hyl,hyd,hf⟩:=open_fieldsM hu hk rfl cellsP h
 obtain ⟨v0,t0,z0,c0,d0,u0,g0⟩:=hf 0 _ rfl
 obtain ⟨v1,t1,z1,c1,d1,u1,g1⟩:=hf 1 _ rfl
 obtain ⟨v2,t2,z2,c2,d2,u2,g2⟩:=hf 2 _ rfl
 obtain ⟨x0,a0,cap0,rfl,b0,m0,e0⟩:=open_listM u0 cellsD (by decide) (fun (x:Dc) cs=>cs=dcCells x∧rgd x) bkD g0 (fun k cs y hk h=>by obtain ⟨x,h1,h2⟩:=openG_dc k cs y h;exact ⟨x,h1,h2⟩)
 rw [sumD] at m0
 obtain ⟨x1,a1,cap1,rfl,b1,m1,e1⟩:=open_listM u1 cellsD (by decide) (fun (x:Dc) cs=>cs=dcCells x∧rgd x) bkD g1 (fun k cs y hk h=>by obtain ⟨x,h1,h2⟩:=openG_dc k cs y h;exact ⟨x,h1,h2⟩)
 rw [sumD] at m1
 obtain ⟨x2,a2,cap2,rfl,b2,m2,e2⟩:=open_listM u2 cellsT (by decide) (fun (x:Th) cs=>okgT x∧thV (fun _=>True) W x cs) bkT g2 (fun k cs y hk h=>by obtain ⟨x,h1,h2,h3⟩:=openG_th k cs y h;exact ⟨x,⟨h1,h2⟩,h3⟩)
 rw [sumT] at m2
 have hcs:cs=[.slice a0 x0.length cap0,.slice a1 x1.length cap1,.slice a2 x2.length cap2]:=by
  apply List.ext_getElem?
  intro i
  match i with
  | 0=>exact c0
  | 1=>exact c1
  | 2=>exact c2
  | i+3=>rw [List.getElem?_eq_none (by rw [hl];simp),List.getElem?_eq_none (by simp)]
 have hys:ys=[z0,z1,z2]:=by
  apply List.ext_getElem?
  intro i
  match i with
  | 0=>exact d0
  | 1=>exact d1
  | 2=>exact d2
  | i+3=>rw [List.getElem?_eq_none (by rw [hyl];simp),List.getElem?_eq_none (by simp)]
 have hbk:Rows.uptoBulk y.1=Rows.uptoBulk z0.1+Rows.uptoBulk z1.1+Rows.uptoBulk z2.1+1:=by rw [hyd,hys];simp only [List.map_cons,List.map_nil,Rows.uptoBulk,Rows.uptoBulkAll];omega
 have w0:dcsAt (fun _=>True) W x0 a0:=by
  rcases e0 with rfl | ⟨g,q,rfl,hq⟩
  · exact .inl rfl
  · exact .inr ⟨g,q,rfl,trivial,dcsIn_all _ q fun i x hx=>by obtain ⟨cs,⟨rfl,_⟩,h2⟩:=hq i x hx;exact dcIn_of h2⟩
 have w1:dcsAt (fun _=>True) W x1 a1:=by
  rcases e1 with rfl | ⟨g,q,rfl,hq⟩
  · exact .inl rfl
  · exact .inr ⟨g,q,rfl,trivial,dcsIn_all _ q fun i x hx=>by obtain ⟨cs,⟨rfl,_⟩,h2⟩:=hq i x hx;exact dcIn_of h2⟩
 have w2:thsAt (fun _=>True) W x2 a2:=by
  rcases e2 with rfl | ⟨g,q,rfl,hq⟩
  · exact .inl rfl
  · exact .inr ⟨g,q,rfl,trivial,thsIn_all _ q fun i x hx=>by obtain ⟨cs,⟨_,h1⟩,h2⟩:=hq i x hx;exact thIn_of h1 h2⟩
 have kd:rgD x0:=by
  intro x hx
  obtain ⟨i,hi⟩:=List.getElem?_of_mem hx
  rcases e0 with rfl | ⟨g,q,rfl,hq⟩
  · simp at hx
  · obtain ⟨cs,⟨_,h1⟩,_⟩:=hq i x hi;exact h1
 have k2:∀ x∈x2,okgT x:=by
  intro x hx
  obtain ⟨i,hi⟩:=List.getElem?_of_mem hx
  rcases e2 with rfl | ⟨g,q,rfl,hq⟩
  · simp at hx
  · obtain ⟨cs,⟨h1,_⟩,_⟩:=hq i x hi;exact h1
 exact ⟨⟨x0,x1,x2⟩,⟨⟨b0,b1,b2,fun t ht=>(k2 t ht).1⟩,fun t ht=>(k2 t ht).2,kd⟩,⟨a0,cap0,a1,cap1,a2,cap2,by rw [hcs],w0,w1,w2⟩,by rw [hbk];simp only [bkP];omega⟩
theorem pgArgG_of {r:Reach} {b0:Nat} {v:Value} {d:DataW H} {ps:List MemPlace} (hval:Value.okWide Tryz.prog W r b0 25 v) (hd:DataW.Trod enc Tryz.prog W 0 sp held 25 v d ps):∃ x:Pg,okgP x∧pA W x v∧bkP x≤Rows.uptoBulk d:=by
 obtain ⟨fs,hu,_⟩:=fieldsP
 obtain ⟨cs,rfl,_⟩:=okWide_struct hu hval
 obtain ⟨fuel,hf⟩:=hd
 obtain ⟨x,h1,h2,h3⟩:=openG_pg fuel _ _ hf
 exact ⟨x,h1,by simpa [Value.cells] using h2,h3⟩
end
end Go.Proofs.YtieeaehabjjaoaaGreatDoor

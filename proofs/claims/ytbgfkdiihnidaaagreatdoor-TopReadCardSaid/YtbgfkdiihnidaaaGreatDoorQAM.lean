import Derived.Test.YtbgfkdiihnidaaaGreatDoorQAK
import Derived.Test.YtbgfkdiihnidaaaGreatDoorQAL
import Derived.Test.YtbgfkdiihnidaaaGreatDoorQAA
import Derived.Test.YtbgfkdiihnidaaaGreatDoorQAD
import Derived.Test.YtbgfkdiihnidaaaGreatDoorQAE
import Derived.Test.YtbgfkdiihnidaaaGreatDoorQAJ
import Derived.Test.YtbgfkdiihnidaaaGreatDoorQAC
import Derived.Lib.AppendStr
import Derived.Lib.Builder
import Derived.Lib.UnsafeStr
import Derived.Lib.Strings
import Derived.Laws.Externs
import Derived.Shelf.RegionOpenPlain
set_option maxRecDepth 100000
set_option maxHeartbeats 20000000
namespace Go.Proofs.YtbgfkdiihnidaaaGreatDoor
open Go.RowKit
set_option linter.unusedVariables false
theorem res3 {fn:Func} {T U V:TypeId} {i j k:Tmp} (h:fn.results=#[.cell i T,.cell j U,.cell k V]) {tmps:Array Value} {P:Program} {w:World} {a b d:Addr} {x y z:Value} (ha:tmps.getD i undef=.pointer (some a)) (hb:tmps.getD j undef=.pointer (some b)) (hd:tmps.getD k undef=.pointer (some d))
 (h1:(loadVar T a).run P w=.ok x w) (h2:(loadVar U b).run P w=.ok y w) (h3:(loadVar V d).run P w=.ok z w):(results fn tmps).run P w=.ok (.tuple #[x,y,z]) w:=by
 have c:tmps[i]?.getD undef=.pointer (some a):=by simpa using ha
 have f:tmps[j]?.getD undef=.pointer (some b):=by simpa using hb
 have g:tmps[k]?.getD undef=.pointer (some d):=by simpa using hd
 simp [results,h,c,f,g,asAddr,h1,h2,h3,Result.andThen]
theorem res2 {fn:Func} {T V:TypeId} {i j k:Tmp} (h:fn.results=#[.cell i T,.tmp j,.cell k V]) {tmps:Array Value} {P:Program} {w:World} {a d:Addr} {x y z:Value} (ha:tmps.getD i undef=.pointer (some a)) (hb:tmps.getD j undef=y) (hd:tmps.getD k undef=.pointer (some d))
 (h1:(loadVar T a).run P w=.ok x w) (h3:(loadVar V d).run P w=.ok z w):(results fn tmps).run P w=.ok (.tuple #[x,y,z]) w:=by
 have b:tmps[i]?.getD undef=.pointer (some a):=by simpa using ha
 have c:tmps[j]?.getD undef=y:=by simpa using hb
 have f:tmps[k]?.getD undef=.pointer (some d):=by simpa using hd
 simp [results,h,b,c,f,asAddr,h1,h3,Result.andThen]
theorem lv_row {w:World} {g:Nat} {T:TypeId} {n:Nat} (hT:RowT T n) {cs:Array Value} (h:Own w g T cs) (hn:cs.size=n):(loadVar T ⟨g,0,none⟩).run Tryz.prog w=.ok (.agg cs) w:=by
 obtain ⟨d,b,c,a⟩:=hT;exact run_loadVar_row w g T T cs (0,0) d h b (by cases d <;> first | rfl | cases c) (by rw [a,hn])
theorem lv_err {w:World} {g:Nat} {z:Int} (h:Own w g 27 #[.int .i64 z]):(loadVar 27 ⟨g,0,none⟩).run Tryz.prog w=.ok (.int .i64 z) w:=by
 have a:w.cell? ⟨g,0,none⟩=some (.int .i64 z):=cr h;go_simp
def endR {α:Type} : PR α->Option α × Int × Int × Int
 | .ok a _=>(some a,0,0,0)
 | .bad p q=>(none,30,p,q)
def wholeR {α:Type} (f:Int->List Tk->PR α) (s:ByteArray):Option α × Int × Int × Int :=
 if 65536<s.size then (none,4,0,0) else if ¬ (frontR s).2.2=0 then (none,30,(frontR s).2.1,1) else
  endR (endP (f s.size ((scanX s).1.map Res.tk)))
def WhPost {α:Type} (w:World) (zero:Array Value) (V:Nat->α->Value->World->Prop) (r:Option α × Int × Int × Int) (e:Ending) (w':World):Prop :=
 Below w.heap.size w w'/\∃ v,e=.returned (.tuple #[v,.int .i64 r.2.1,.agg #[.int .i64 r.2.2.1,.int .i64 r.2.2.2]])/\match r.1 with | none=>v=.agg zero | some a=>V w.heap.size a v w'
theorem pgR_stays {n m:Nat} {e:Pg} {v:Value} {w w':World} (h:pgR n e v w) (hs:Stays (fun b=>n<=b) w w') (hm:m<=n):pgR m e v w':=by
 obtain ⟨l,g,a,j,i,d,k,f,o,c⟩:=h;exact ⟨l,g,a,j,i,d,k,dcsAt_stays hs (fun b hb=>Nat.le_trans hm hb) f,dcsAt_stays hs (fun b hb=>Nat.le_trans hm hb) o,thsAt_stays hs (fun b hb=>Nat.le_trans hm hb) c⟩
theorem fr_below {c:Par} {n:Nat} {w w':World} (h:Fr c w w') (hX:n<=c.X) (hn:n<=w.heap.size):Below n w w':=by
 refine ⟨Keep.os h,Keep.tape h,Keep.output h,Keep.size h,fun k hk=>?_⟩
 rw [Array.getElem?_eq_getElem (by omega:k<w.heap.size)]
 exact h.block (Array.getElem?_eq_getElem (by omega)) (by omega)
theorem Rd.setRow {c:Par} {w:World} {k:Nat} (R:Rd c w k) {g:Nat} (cs:Array Value) (h:g≠c.X/\g≠c.D/\g≠c.S/\g≠c.O/\g≠c.bm/\g≠c.bm+1/\g≠c.bn/\g≠c.bn+1) (ht:∀ b off,c.ta=some ⟨b,off,none⟩->b≠g) (hg:1≠g/\5≠g):Rd c (w.setRow g cs) k:=by
 have a:∀ b,b≠g->(w.setRow g cs).heap[b]? = w.heap[b]?:=fun b d=>setRow_other cs d
 have j:∀ b o,b≠g->(w.setRow g cs).cell? ⟨b,o,none⟩=w.cell? ⟨b,o,none⟩:=fun b o d=>by simp only [World.cell?,a b d]
 obtain ⟨⟨p,m,y,N,Q,U,J,M,K,Y,T,n,f⟩,pos,E⟩:=R;obtain ⟨I,z,A,F,C,V,L,t⟩:=h;refine ⟨⟨?_,m,(a _ z.symm).trans y,(a _ A.symm).trans N,(a _ F.symm).trans Q,(a _ C.symm).trans U,(a _ V.symm).trans J,(a _ L.symm).trans M,(a _ t.symm).trans K,Y,?_,n,f⟩,(a _ I.symm).trans pos,E⟩
 · obtain ⟨q, l, r, P⟩ := p
   refine ⟨q,l,r,fun i x hx=>?_⟩
   obtain ⟨b,off,s,W,G,B,v⟩:=P i x hx;obtain ⟨rfl,_,_⟩:c.ta=q/\c.toks.length=c.toks.length/\c.cap=l:=by cases r;exact ⟨rfl,rfl,rfl⟩
   have d:=ht b off s;exact ⟨b,off,s,(j _ _ d).trans W,(j _ _ d).trans G,(j _ _ d).trans B,(j _ _ d).trans v⟩
 · have Z := T.size1
   have H:=T.size2;exact ⟨by rw [size_setRow];exact Z,by rw [size_setRow];exact H,fun i hi=>(j _ _ hg.1).trans (T.lev i hi),fun i hi=>(j _ _ hg.2).trans (T.sgn i hi)⟩
theorem leaves_tmps {P:Program} {fn:Func} {R:Ending->World->Prop} {t1 t2:Array Value} (h:results fn t1=results fn t2):∀ (ds:List Deferred) (u:FrameMode) (w:World),Leaves P fn t1 R ds u w->Leaves P fn t2 R ds u w
 | [], .returning, w, k => by
   obtain ⟨v,h1,h2⟩:=k
   exact ⟨v,by rw [<- h];exact h1,h2⟩
 | [],.panicking c,w,k=>k
 | [],.run,w,k=>k
 | d :: ds, u, w, k => by
   obtain ⟨h1,fv,cap,f,args,h2,h3,h4⟩:=k
   refine ⟨h1,fv,cap,f,args,h2,h3,h4.mono fun e u' w' he=>?_⟩
   cases e with
   | returned v=>exact leaves_tmps h ds _ _ he
   | panicked c=>exact leaves_tmps h ds _ _ he
   | outgrown=>exact he
theorem post_put {P:Program} {fn:Func} {R:Ending->World->Prop} {i j k d:Nat} {T U V:TypeId} (h:fn.results=#[.cell i T,.cell j U,.cell k V]) (hd:d≠i/\d≠j/\d≠k) (c:List PanicEntry) (a:Act) (w:World) (v:Value) (hq:bodyPostD P fn R (.panic c) (a.put (some d) v) w):bodyPostD P fn R (.panic c) a w:=by
 have e:results fn (a.put (some d) v).tmps=results fn a.tmps:=by
  unfold results;rw [h];simp only [Act.put];simp [Array.getElem?_setIfInBounds,hd.1,hd.2.1,hd.2.2]
 exact leaves_tmps e _ _ _ hq
theorem scan_long {s:ByteArray} (h:65536<s.size):scanX s=([],4,0,0):=by unfold scanX;rw [if_pos h]
theorem scan_lex {s:ByteArray} (h:¬ 65536<s.size) (hf:¬ (frontR s).2.2=0):scanX s=([],20,(frontR s).2.1,(frontR s).2.2):=by unfold scanX;rw [if_neg h,if_neg hf]
theorem scan_toks {s:ByteArray} (h:¬ 65536<s.size) (hf:(frontR s).2.2=0):scanX s=((frontR s).1,0,0,0):=by unfold scanX;rw [if_neg h,if_pos hf]
theorem run_ld_err {o:Oper} {a:Act} {w:World} {x:Operand} (ho:o.op=.load 27 x) {g:Nat} (hx:a.eval x=.pointer (some ⟨g,0,none⟩)) {z:Int} (hg:Own w g 27 #[.int .i64 z]):(execOp a.eval o).run Tryz.prog w=.ok (.value (.int .i64 z)) w:=by
 have b:w.cell? ⟨g,0,none⟩=some (.int .i64 z):=cr hg;unfold execOp;simp only [ho,hx];go_simp
theorem run_ld_int {o:Oper} {a:Act} {w:World} {x:Operand} (ho:o.op=.load 3 x) {p:Addr} (hx:a.eval x=.pointer (some p)) {v:Value} (hc:w.cell? p=some v):(execOp a.eval o).run Tryz.prog w=.ok (.value v) w:=by
 unfold execOp;simp only [ho,hx];go_simp
theorem wp_st_errv {o:Oper} {a:Act} {w:World} {K:Act->World->Prop} {Q:Exit->Act->World->Prop} {x y:Operand} {z u:Int} (ho:o.op=.store 27 x y) {p:Addr} (hx:a.eval x=.pointer (some p)) (hy:a.eval y=.int .i64 z) (hu:w.cell? p=some (.int .i64 u)) (hf:w.frozen? p=false) (h:K (a.put o.dst undef) (w.setCell p (.int .i64 z))):o.wp Tryz.prog a w K Q:=by
 have b:(execOp a.eval o).run Tryz.prog w=.ok .skip (w.setCell p (.int .i64 z)):=by
  unfold execOp;simp only [ho,hx,hy];go_simp
 unfold Oper.wp;rw [b];exact h
theorem idle_P (x y z:Value) (w:World):CallsD Tryz.prog 36 #[x,y,z] .returning w fun e u' w'=>e=.returned (.tuple #[])/\u'=.returning/\w'=w:=by
 have a:=any_nil;refine callsD_of_wpS Tryz.func36 rfl fun c₀ cs hu=>?_
 apply wpS_seq;apply wpS_region;simp [wpOpsS,go_sem,recoverD,hu,Tryz.ntmps36,Exit.thenS];rw [show (#[x,y,z]++(((Array.replicate 17 undef).setIfInBounds 4 .nilIface).setIfInBounds 0 .nilIface):Array Value)=#[x,y,z,.nilIface,undef,undef,undef,.nilIface,undef,undef,undef,undef,undef,undef,undef,undef,undef,undef,undef,undef] from by kernel_rfl]
 refine wpS_of_wp ?_;generalize hQ:(fun e a' w'=>bodyPostS _ _ _ _ _ e a' _ w')=Q
 go_wp2;subst hQ;cases c₀;simp_all [bodyPostS,results,Tryz.results36]
theorem wh_long_P (s:ByteArray) {w:World} (T:LTabs w) (TW:Tabs w) (hl:65536<s.size) :
 Calls Tryz.prog 14 #[.string s,.func (.func 15) #[] #[]] w (WhPost w zPg pgR (wholeR (fun L ts=>progP fnd L (fuel ts) ts) s)):=by
 obtain ⟨R,z⟩:=Qx (wholeR (fun L ts=>progP fnd L (fuel ts) ts) s)
 rw [<- z];have I:Hid (R=(none,4,0,0)):=by rw [Hid,z];unfold wholeR;rw [if_pos hl]
 clear z;have G:=Hd (And.intro T TW);have y:Hid (∀ W,LTabs W->Calls Tryz.prog 12 #[.string s] W fun e w'=>∃ u,e=.returned (.tuple #[u,.int .i64 4,.agg #[.int .i64 0,.int .i64 0]])/\w'.ownsRow W.heap.size 50 4 u (scanX s).1.length (rowR (scanX s).1)/\(u=.slice none 0 0↔(scanX s).1=[])/\Below W.heap.size W w'):=fun W TW=>by have:=scan_row s TW;rw [scan_long hl] at this ⊢;exact this
 have O1:=((Own.new w 26 zPg).alloc (.cells #[.int .i64 0] 27)).alloc (.cells #[.int .i64 0,.int .i64 0] 29);have j:=(Own.new (w.alloc (.cells zPg 26)) 27 #[.int .i64 0]).alloc (.cells #[.int .i64 0,.int .i64 0] 29);have k:=Own.new ((w.alloc (.cells zPg 26)).alloc (.cells #[.int .i64 0] 27)) 29 #[.int .i64 0,.int .i64 0];have x:Below w.heap.size w (((w.alloc (.cells zPg 26)).alloc (.cells #[.int .i64 0] 27)).alloc (.cells #[.int .i64 0,.int .i64 0] 29)):=(((Below.refl _ w).alloc (Nat.le_refl _) _).alloc (by simp only [World.size_alloc];omega) _).alloc (by simp only [World.size_alloc];omega) _
 have p:Hid ((((w.alloc (.cells zPg 26)).alloc (.cells #[.int .i64 0] 27)).alloc (.cells #[.int .i64 0,.int .i64 0] 29)).heap.size=w.heap.size+3):=by simp only [Hid,World.size_alloc]
 rw [World.size_alloc] at j;rw [World.size_alloc,World.size_alloc] at k;have K:∀ (fn:Fn) (first cap:Array Value) (w:World),(Instr.makeFunc fn first cap).run Tryz.prog w=.ok (.func fn first cap) w:=fun _ _ _ _=>rfl
 clear T TW;unfold zPg at *;go_enter_defers Tryz.func14,Tryz.ntmps14;go_wp2_with fail;obtain ⟨N,q⟩:=Qx ((((w.alloc (.cells #[.slice none 0 0,.slice none 0 0,.slice none 0 0] 26)).alloc (.cells #[.int .i64 0] 27)).alloc (.cells #[.int .i64 0,.int .i64 0] 29)));rw [<- q] at O1 j k x p ⊢;clear q;go_at_call 12;refine (y.out _ (G.out.1.below (Nat.le_refl _) x)).mono ?_;rintro e m ⟨u,rfl,b,n,i⟩;have O1:=O1.below i;have j:=j.below i;have k:=k.below i;have B1:=Hd (x.trans (i.mono (by have:=p.out;omega)))
 have M:Hid (w.heap.size+3<=m.heap.size):=by have:=i.size;have:=p.out;simp only [Hid];omega
 have H:m.setCell ⟨w.heap.size+1,0,none⟩ (.int .i64 4)=m.setRow (w.heap.size+1) #[.int .i64 4]:=setCell_row j 0 _;have O1:=O1.other (g:=w.heap.size+1) #[.int .i64 4] (by omega)
 have r:=j.row #[.int .i64 4];have k:=k.other (g:=w.heap.size+1) #[.int .i64 4] (by omega)
 have A:m.cell? ⟨w.heap.size+1,0,none⟩=some (.int .i64 0):=cr j;have F:=own_frozen j 0;have O1:=Hd (O1.other (g:=w.heap.size+1+1) #[.int .i64 0,.int .i64 0] (by omega))
 have j:=Hd (r.other (g:=w.heap.size+1+1) #[.int .i64 0,.int .i64 0] (by omega))
 have D:=Hd (k.row #[.int .i64 0,.int .i64 0]);have C:=Hd (Below.of_row (Below.of_row B1.out (g:=w.heap.size+1) (by omega) #[.int .i64 4]) (g:=w.heap.size+1+1) (by omega) #[.int .i64 0,.int .i64 0])
 have E:Hid (((m.setRow (w.heap.size+1) #[.int .i64 4]).setRow (w.heap.size+1+1) #[.int .i64 0,.int .i64 0]).heap.size=m.heap.size):=by rw [Hid,size_setRow,size_setRow]
 have J:Hid (((m.setRow (w.heap.size+1) #[.int .i64 4]).setRow (w.heap.size+1+1) #[.int .i64 0,.int .i64 0]).ownsRow (w.heap.size+3) 50 4 u (scanX s).1.length (rowR (scanX s).1)):=by
  have b:=ownsRow_base b (base':=w.heap.size+3) (by have:=p.out;omega)
  exact row_row (row_row b _ (fun e=>by have:=(b.lt _ e).1;omega)) _ (fun e=>by have:=(b.lt _ e).1;omega)
 clear b x r p i;have B:=Hd n;clear n;go_upto_region 2 with (first | (refine st rowFl rfl rfl k rfl rfl (by rfl) (by rfl) (by kernel_rfl) ?_))
 obtain ⟨o,t⟩:=Qx (((m.setRow (w.heap.size+1) #[.int .i64 4]).setRow (w.heap.size+1+1) #[.int .i64 0,.int .i64 0]));rw [<- t] at O1 j D C E J ⊢;clear t k H A F;have A:o.cell? ⟨w.heap.size+1,0,none⟩=some (.int .i64 4):=cr j.out;go_upto_region 3 with (fail)
 clear A;refine wp_region_held (S:=fun W=>Own W w.heap.size 26 #[.slice none 0 0,.slice none 0 0,.slice none 0 0]/\Own W (w.heap.size+1) 27 #[.int .i64 4]) (by kernel_rfl) ?_
 change wpAnyH _ _ _ _ _ _ _ _ o.drew;have f:Own o.drew _ _ _:=O1.out;have d:Own o.drew _ _ _:=j.out;have l:Own o.drew _ _ _:=D.out;have B3:=C.out.drew;generalize o.drew=W3 at f d l B3 ⊢;have v:=And.intro f d;refine dr_take 0 (.agg #[.slice none 0 0,.slice none 0 0,.slice none 0 0]) rfl rfl (by kernel_rfl) (by kernel_rfl) (by kernel_rfl) (fun c a w h=>post_put rfl (by decide) c a w _ h) (fun W h=>run_ld rowPg rfl rfl h.1 rfl) v ?_
 change wpAnyH _ _ _ _ _ _ _ F38_ _;delta F38_;refine dr_take 1 (.int .i64 4) rfl rfl (by kernel_rfl) (by kernel_rfl) (by kernel_rfl) (fun c a w h=>post_put rfl (by decide) c a w _ h) (fun W h=>run_ld_err rfl rfl h.2) v ?_
 change wpAnyH _ _ _ _ _ _ _ F38_ _;delta F38_;refine dr_take 2 (.agg #[.int .i64 0,.int .i64 0]) rfl rfl (by kernel_rfl) (by kernel_rfl) (by kernel_rfl) (fun c a w h=>post_put rfl (by decide) c a w _ h) (fun W h=>by unfold execOp;go_simp) v ?_
 change wpAnyH _ _ _ _ _ _ _ F38_ _;delta F38_;refine do1 3 rfl rfl ?_;refine wp_st_row (cs:=#[.slice none 0 0,.slice none 0 0,.slice none 0 0]) rowPg rfl f rfl rfl rfl rfl (by kernel_rfl) ?_
 have f:=f.row #[.slice none 0 0,.slice none 0 0,.slice none 0 0];have d:=d.other (g:=w.heap.size) #[.slice none 0 0,.slice none 0 0,.slice none 0 0] (by omega)
 have l:=l.other (g:=w.heap.size) #[.slice none 0 0,.slice none 0 0,.slice none 0 0] (by omega)
 have B3:=Below.of_row B3 (g:=w.heap.size) (by omega) #[.slice none 0 0,.slice none 0 0,.slice none 0 0]
 refine ⟨⟨f,d⟩,?_⟩;change wpAnyH _ _ _ _ _ _ _ F38_ _;delta F38_;refine do1 4 rfl rfl ?_;refine wp_st_errv (u:=4) rfl rfl rfl (cr d) (own_frozen d 0) ?_;rw [show (W3.setRow w.heap.size #[.slice none 0 0,.slice none 0 0,.slice none 0 0]).setCell ⟨w.heap.size+1,0,none⟩ (.int .i64 4)=(W3.setRow w.heap.size #[.slice none 0 0,.slice none 0 0,.slice none 0 0]).setRow (w.heap.size+1) #[.int .i64 4] from setCell_row d 0 _]
 have f:=f.other (g:=w.heap.size+1) #[.int .i64 4] (by omega)
 have d:=d.row #[.int .i64 4];have l:=l.other (g:=w.heap.size+1) #[.int .i64 4] (by omega)
 have B3:=Below.of_row B3 (g:=w.heap.size+1) (by omega) #[.int .i64 4]
 refine ⟨⟨f,d⟩,?_⟩;change wpAnyH _ _ _ _ _ _ _ F38_ _;delta F38_;refine do1 5 rfl rfl ?_;refine wp_st_row (cs:=#[.int .i64 0,.int .i64 0]) rowFl rfl l rfl rfl rfl rfl (by kernel_rfl) ?_
 have f:=Hd (f.other (g:=w.heap.size+1+1) #[.int .i64 0,.int .i64 0] (by omega))
 have d:=Hd (d.other (g:=w.heap.size+1+1) #[.int .i64 0,.int .i64 0] (by omega))
 have l:=Hd (l.row #[.int .i64 0,.int .i64 0]);have B3:=Hd (Below.of_row B3 (g:=w.heap.size+1+1) (by omega) #[.int .i64 0,.int .i64 0])
 refine ⟨⟨f.out,d.out⟩,?_⟩;clear v;refine wpAnyH_done (by kernel_rfl) ?_ _
 go_wp2_with fail;refine ⟨_,res3 rfl rfl rfl rfl (lv_row rowPg f.out rfl) (lv_err d.out) (lv_row rowFl l.out rfl),B3.out,?_⟩;rw [I.out];exact ⟨_,rfl,rfl⟩
theorem wh_lex_P (s:ByteArray) {w:World} (T:LTabs w) (TW:Tabs w) (hl:¬ 65536<s.size) (hf:¬ (frontR s).2.2=0) :
 Calls Tryz.prog 14 #[.string s,.func (.func 15) #[] #[]] w (WhPost w zPg pgR (wholeR (fun L ts=>progP fnd L (fuel ts) ts) s)):=by
 obtain ⟨R,D⟩:=Qx (wholeR (fun L ts=>progP fnd L (fuel ts) ts) s)
 rw [<- D];obtain ⟨d,q⟩:=Qx ((frontR s).2.1);obtain ⟨p,A⟩:=Qx ((frontR s).2.2);have N:Hid (R=(none,30,d,1)):=by rw [Hid,D,q];unfold wholeR;rw [if_neg hl,if_pos hf]
 clear D;have K:=Hd (And.intro T TW);have C:Hid (∀ W,LTabs W->Calls Tryz.prog 12 #[.string s] W fun e w'=>∃ u,e=.returned (.tuple #[u,.int .i64 20,.agg #[.int .i64 d,.int .i64 p]])/\w'.ownsRow W.heap.size 50 4 u (scanX s).1.length (rowR (scanX s).1)/\(u=.slice none 0 0↔(scanX s).1=[])/\Below W.heap.size W w'):=fun W TW=>by have:=scan_row s TW;rw [scan_lex hl hf] at this ⊢;rw [q,A];exact this
 clear q A hf hl;have O1:=((Own.new w 26 zPg).alloc (.cells #[.int .i64 0] 27)).alloc (.cells #[.int .i64 0,.int .i64 0] 29);have k:=(Own.new (w.alloc (.cells zPg 26)) 27 #[.int .i64 0]).alloc (.cells #[.int .i64 0,.int .i64 0] 29);have m:=Own.new ((w.alloc (.cells zPg 26)).alloc (.cells #[.int .i64 0] 27)) 29 #[.int .i64 0,.int .i64 0];have B:Below w.heap.size w (((w.alloc (.cells zPg 26)).alloc (.cells #[.int .i64 0] 27)).alloc (.cells #[.int .i64 0,.int .i64 0] 29)):=(((Below.refl _ w).alloc (Nat.le_refl _) _).alloc (by simp only [World.size_alloc];omega) _).alloc (by simp only [World.size_alloc];omega) _
 have v:Hid ((((w.alloc (.cells zPg 26)).alloc (.cells #[.int .i64 0] 27)).alloc (.cells #[.int .i64 0,.int .i64 0] 29)).heap.size=w.heap.size+3):=by simp only [Hid,World.size_alloc]
 rw [World.size_alloc] at k;rw [World.size_alloc,World.size_alloc] at m;have P:∀ (fn:Fn) (first cap:Array Value) (w:World),(Instr.makeFunc fn first cap).run Tryz.prog w=.ok (.func fn first cap) w:=fun _ _ _ _=>rfl
 clear T TW;unfold zPg at *;go_enter_defers Tryz.func14,Tryz.ntmps14;go_wp2_with fail;obtain ⟨U,x⟩:=Qx ((((w.alloc (.cells #[.slice none 0 0,.slice none 0 0,.slice none 0 0] 26)).alloc (.cells #[.int .i64 0] 27)).alloc (.cells #[.int .i64 0,.int .i64 0] 29)));rw [<- x] at O1 k m B v ⊢;clear x;go_at_call 12;refine (C.out _ (K.out.1.below (Nat.le_refl _) B)).mono ?_;rintro e n ⟨u,rfl,b,o,i⟩;have O1:=O1.below i;have k:=k.below i;have m:=m.below i;have B1:=Hd (B.trans (i.mono (by have:=v.out;omega)))
 have Q:Hid (w.heap.size+3<=n.heap.size):=by have:=i.size;have:=v.out;simp only [Hid];omega
 have M:n.setCell ⟨w.heap.size+1,0,none⟩ (.int .i64 20)=n.setRow (w.heap.size+1) #[.int .i64 20]:=setCell_row k 0 _;have O1:=O1.other (g:=w.heap.size+1) #[.int .i64 20] (by omega)
 have y:=k.row #[.int .i64 20];have m:=m.other (g:=w.heap.size+1) #[.int .i64 20] (by omega)
 have E:n.cell? ⟨w.heap.size+1,0,none⟩=some (.int .i64 0):=cr k;have J:=own_frozen k 0;have O1:=Hd (O1.other (g:=w.heap.size+1+1) #[.int .i64 d,.int .i64 p] (by omega))
 have k:=Hd (y.other (g:=w.heap.size+1+1) #[.int .i64 d,.int .i64 p] (by omega))
 have H:=Hd (m.row #[.int .i64 d,.int .i64 p]);have G:=Hd (Below.of_row (Below.of_row B1.out (g:=w.heap.size+1) (by omega) #[.int .i64 20]) (g:=w.heap.size+1+1) (by omega) #[.int .i64 d,.int .i64 p])
 have I:Hid (((n.setRow (w.heap.size+1) #[.int .i64 20]).setRow (w.heap.size+1+1) #[.int .i64 d,.int .i64 p]).heap.size=n.heap.size):=by rw [Hid,size_setRow,size_setRow]
 have O:Hid (((n.setRow (w.heap.size+1) #[.int .i64 20]).setRow (w.heap.size+1+1) #[.int .i64 d,.int .i64 p]).ownsRow (w.heap.size+3) 50 4 u (scanX s).1.length (rowR (scanX s).1)):=by
  have b:=ownsRow_base b (base':=w.heap.size+3) (by have:=v.out;omega)
  exact row_row (row_row b _ (fun e=>by have:=(b.lt _ e).1;omega)) _ (fun e=>by have:=(b.lt _ e).1;omega)
 clear b B y v i;have F:=Hd o;clear o;go_upto_region 2 with (first | (refine st rowFl rfl rfl m rfl rfl (by rfl) (by rfl) (by kernel_rfl) ?_))
 obtain ⟨r,z⟩:=Qx (((n.setRow (w.heap.size+1) #[.int .i64 20]).setRow (w.heap.size+1+1) #[.int .i64 d,.int .i64 p]));rw [<- z] at O1 k H G I O ⊢;clear z m M E J;have E:r.cell? ⟨w.heap.size+1,0,none⟩=some (.int .i64 20):=cr k.out;go_upto_region 5 with (fail)
 clear E;refine wp_region_held (S:=fun W=>Own W w.heap.size 26 #[.slice none 0 0,.slice none 0 0,.slice none 0 0]/\W.cell? ⟨w.heap.size+1+1,0,none⟩=some (.int .i64 d)) (by kernel_rfl) ?_
 change wpAnyH _ _ _ _ _ _ _ _ r.drew;have f:Own r.drew _ _ _:=O1.out;have l:Own r.drew _ _ _:=k.out;have j:Own r.drew _ _ _:=H.out;have B3:=G.out.drew;generalize r.drew=W3 at f l j B3 ⊢;have t:Own W3 w.heap.size 26 #[.slice none 0 0,.slice none 0 0,.slice none 0 0]/\W3.cell? ⟨w.heap.size+1+1,0,none⟩=some (.int .i64 d):=⟨f,cr j⟩;refine dr_take 0 (.agg #[.slice none 0 0,.slice none 0 0,.slice none 0 0]) rfl rfl (by kernel_rfl) (by kernel_rfl) (by kernel_rfl) (fun c a w h=>post_put rfl (by decide) c a w _ h) (fun W h=>run_ld rowPg rfl rfl h.1 rfl) t ?_
 change wpAnyH _ _ _ _ _ _ _ F38_ _;delta F38_;refine dr_take 1 (.pointer (some ⟨w.heap.size+1+1,0,none⟩)) rfl rfl (by kernel_rfl) (by kernel_rfl) (by kernel_rfl) (fun c a w h=>post_put rfl (by decide) c a w _ h) (fun W h=>by unfold execOp;go_simp) t ?_
 change wpAnyH _ _ _ _ _ _ _ F38_ _;delta F38_;refine dr_take 2 (.int .i64 d) rfl rfl (by kernel_rfl) (by kernel_rfl) (by kernel_rfl) (fun c a w h=>post_put rfl (by decide) c a w _ h) (fun W h=>run_ld_int rfl rfl h.2) t ?_
 change wpAnyH _ _ _ _ _ _ _ F38_ _;delta F38_;refine dr_take 3 (.agg #[.int .i64 d,.int .i64 1]) rfl rfl (by kernel_rfl) (by kernel_rfl) (by kernel_rfl) (fun c a w h=>post_put rfl (by decide) c a w _ h) (fun W h=>by unfold execOp;go_simp) t ?_
 change wpAnyH _ _ _ _ _ _ _ F38_ _;delta F38_;refine do1 4 rfl rfl ?_;refine wp_st_row (cs:=#[.slice none 0 0,.slice none 0 0,.slice none 0 0]) rowPg rfl f rfl rfl rfl rfl (by kernel_rfl) ?_
 have f:=f.row #[.slice none 0 0,.slice none 0 0,.slice none 0 0];have l:=l.other (g:=w.heap.size) #[.slice none 0 0,.slice none 0 0,.slice none 0 0] (by omega)
 have j:=j.other (g:=w.heap.size) #[.slice none 0 0,.slice none 0 0,.slice none 0 0] (by omega)
 have B3:=Below.of_row B3 (g:=w.heap.size) (by omega) #[.slice none 0 0,.slice none 0 0,.slice none 0 0]
 refine ⟨⟨f,cr j⟩,?_⟩;change wpAnyH _ _ _ _ _ _ _ F38_ _;delta F38_;refine do1 5 rfl rfl ?_;refine wp_st_err (u:=20) rfl rfl (cr l) (own_frozen l 0) ?_;rw [show (W3.setRow w.heap.size #[.slice none 0 0,.slice none 0 0,.slice none 0 0]).setCell ⟨w.heap.size+1,0,none⟩ (.int .i64 30)=(W3.setRow w.heap.size #[.slice none 0 0,.slice none 0 0,.slice none 0 0]).setRow (w.heap.size+1) #[.int .i64 30] from setCell_row l 0 _]
 have f:=f.other (g:=w.heap.size+1) #[.int .i64 30] (by omega)
 have l:=l.row #[.int .i64 30];have j:=j.other (g:=w.heap.size+1) #[.int .i64 30] (by omega)
 have B3:=Below.of_row B3 (g:=w.heap.size+1) (by omega) #[.int .i64 30]
 refine ⟨⟨f,cr j⟩,?_⟩;change wpAnyH _ _ _ _ _ _ _ F38_ _;delta F38_;refine do1 6 rfl rfl ?_;refine wp_st_row (cs:=#[.int .i64 d,.int .i64 1]) rowFl rfl j rfl rfl rfl rfl (by kernel_rfl) ?_
 have f:=Hd (f.other (g:=w.heap.size+1+1) #[.int .i64 d,.int .i64 1] (by omega))
 have l:=Hd (l.other (g:=w.heap.size+1+1) #[.int .i64 d,.int .i64 1] (by omega))
 have j:=Hd (j.row #[.int .i64 d,.int .i64 1]);have B3:=Hd (Below.of_row B3 (g:=w.heap.size+1+1) (by omega) #[.int .i64 d,.int .i64 1])
 refine ⟨⟨f.out,cr j.out⟩,?_⟩;clear t;refine wpAnyH_done (by kernel_rfl) ?_ _
 go_wp2_with fail;refine ⟨_,res3 rfl rfl rfl rfl (lv_row rowPg f.out rfl) (lv_err l.out) (lv_row rowFl j.out rfl),B3.out,?_⟩;rw [N.out];exact ⟨_,rfl,rfl⟩
theorem wh_go_P (s:ByteArray) {w:World} (T:LTabs w) (TW:Tabs w) (hl:¬ 65536<s.size) (hf:(frontR s).2.2=0) :
 Calls Tryz.prog 14 #[.string s,.func (.func 15) #[] #[]] w (WhPost w zPg pgR (wholeR (fun L ts=>progP fnd L (fuel ts) ts) s)):=by
 obtain ⟨R,hR⟩:=Qx (wholeR (fun L ts=>progP fnd L (fuel ts) ts) s)
 rw [<- hR];obtain ⟨a,G⟩:=Qx ((scanX s).1);obtain ⟨Y,hY⟩:=Qx (progP fnd (s.size:Int) (fuel (a.map Res.tk)) (a.map Res.tk));have HR:Hid (R=endR (endP Y)):=by rw [Hid,hR,hY,G];unfold wholeR;rw [if_neg hl,if_neg (by simpa using hf)]
 have a5:Hid (a.length<=65536/\s.size<=65536/\∀ x∈a,0<=x.wd/\x.wd<=9223372036854775807):=⟨by rw [G];exact scanX_len s,by omega,by rw [G];exact scanX_wd s⟩
 clear hR;have HT:=Hd (And.intro T TW);have ad:Hid (∀ W,LTabs W->Calls Tryz.prog 12 #[.string s] W fun e w'=>∃ u,e=.returned (.tuple #[u,.int .i64 0,.agg #[.int .i64 0,.int .i64 0]])/\w'.ownsRow W.heap.size 50 4 u (scanX s).1.length (rowR (scanX s).1)/\(u=.slice none 0 0↔(scanX s).1=[])/\Below W.heap.size W w'):=fun W TW=>by have:=scan_row s TW;rw [scan_toks hl hf] at this ⊢;exact this
 have O1:=((Own.new w 26 zPg).alloc (.cells #[.int .i64 0] 27)).alloc (.cells #[.int .i64 0,.int .i64 0] 29);have i:=(Own.new (w.alloc (.cells zPg 26)) 27 #[.int .i64 0]).alloc (.cells #[.int .i64 0,.int .i64 0] 29);have J:=Own.new ((w.alloc (.cells zPg 26)).alloc (.cells #[.int .i64 0] 27)) 29 #[.int .i64 0,.int .i64 0];have B0:Below w.heap.size w (((w.alloc (.cells zPg 26)).alloc (.cells #[.int .i64 0] 27)).alloc (.cells #[.int .i64 0,.int .i64 0] 29)):=(((Below.refl _ w).alloc (Nat.le_refl _) _).alloc (by simp only [World.size_alloc];omega) _).alloc (by simp only [World.size_alloc];omega) _
 have z0:Hid ((((w.alloc (.cells zPg 26)).alloc (.cells #[.int .i64 0] 27)).alloc (.cells #[.int .i64 0,.int .i64 0] 29)).heap.size=w.heap.size+3):=by simp only [Hid,World.size_alloc]
 rw [World.size_alloc] at i;rw [World.size_alloc,World.size_alloc] at J;have b5:∀ (fn:Fn) (first K:Array Value) (w:World),(Instr.makeFunc fn first K).run Tryz.prog w=.ok (.func fn first K) w:=fun _ _ _ _=>rfl
 clear T TW;unfold zPg at *;rw [<- G] at ad;clear hl hf G;have HY:=Hd hY;clear hY;go_enter_defers Tryz.func14,Tryz.ntmps14;go_wp2_with fail;obtain ⟨W0,ai⟩:=Qx ((((w.alloc (.cells #[.slice none 0 0,.slice none 0 0,.slice none 0 0] 26)).alloc (.cells #[.int .i64 0] 27)).alloc (.cells #[.int .i64 0,.int .i64 0] 29)));rw [<- ai] at O1 i J B0 z0 ⊢;clear ai;go_at_call 12;refine (ad.out _ (HT.out.1.below (Nat.le_refl _) B0)).mono ?_;rintro e P ⟨u,rfl,d,O,C⟩;have O1:=O1.below C;have i:=i.below C;have J:=J.below C;have B1:=Hd (B0.trans (C.mono (by have:=z0.out;omega)))
 have z1:Hid (w.heap.size+3<=P.heap.size):=by have:=C.size;have:=z0.out;simp only [Hid];omega
 have e5:P.setCell ⟨w.heap.size+1,0,none⟩ (.int .i64 0)=P.setRow (w.heap.size+1) #[.int .i64 0]:=setCell_row i 0 _;have O1:=O1.other (g:=w.heap.size+1) #[.int .i64 0] (by omega)
 have ao:=i.row #[.int .i64 0];have J:=J.other (g:=w.heap.size+1) #[.int .i64 0] (by omega)
 have c5:P.cell? ⟨w.heap.size+1,0,none⟩=some (.int .i64 0):=cr i;have f5:=own_frozen i 0;have O1:=Hd (O1.other (g:=w.heap.size+1+1) #[.int .i64 0,.int .i64 0] (by omega))
 have i:=Hd (ao.other (g:=w.heap.size+1+1) #[.int .i64 0,.int .i64 0] (by omega))
 have V:=Hd (J.row #[.int .i64 0,.int .i64 0]);have B2:=Hd (Below.of_row (Below.of_row B1.out (g:=w.heap.size+1) (by omega) #[.int .i64 0]) (g:=w.heap.size+1+1) (by omega) #[.int .i64 0,.int .i64 0])
 have z2:Hid (((P.setRow (w.heap.size+1) #[.int .i64 0]).setRow (w.heap.size+1+1) #[.int .i64 0,.int .i64 0]).heap.size=P.heap.size):=by rw [Hid,size_setRow,size_setRow]
 have I:Hid (((P.setRow (w.heap.size+1) #[.int .i64 0]).setRow (w.heap.size+1+1) #[.int .i64 0,.int .i64 0]).ownsRow (w.heap.size+3) 50 4 u a.length (rowR a)):=by
  have d:=ownsRow_base d (base':=w.heap.size+3) (by have:=z0.out;omega)
  exact row_row (row_row d _ (fun e=>by have:=(d.lt _ e).1;omega)) _ (fun e=>by have:=(d.lt _ e).1;omega)
 clear d B0 ao z0 C;have bi:=Hd O;clear O;go_upto_region 2 with (first | (refine st rowFl rfl rfl J rfl rfl (by rfl) (by rfl) (by kernel_rfl) ?_))
 obtain ⟨W2,ah⟩:=Qx (((P.setRow (w.heap.size+1) #[.int .i64 0]).setRow (w.heap.size+1+1) #[.int .i64 0,.int .i64 0]));rw [<- ah] at O1 i V B2 z2 I ⊢;clear ah J e5 c5 f5;have c5:W2.cell? ⟨w.heap.size+1,0,none⟩=some (.int .i64 0):=cr i.out;obtain ⟨oa,K,rfl,a0⟩:=row_shape I.out;have ap:Hid (∀ g E,oa=some ⟨g,E,none⟩->w.heap.size+3<=g/\g<W2.heap.size):=by
  intro g E e;subst e;rcases I.out.2 with ⟨h,_⟩ | ⟨g',bl,b7,h,h2,h3,_⟩
  · cases h
  · cases h
    exact ⟨h2,(Array.getElem?_eq_some_iff.1 h3).1⟩
 have ba:=Hd (HT.out.2.below (Nat.le_refl _) B2.out);have ae:=Hd (p_new (L:=s.size) (tokRow_owns I.out) (fun g E e=>(ap.out g E e).2) ba.out a5.out)
 obtain ⟨c,hc⟩:=Qx (newC W2 oa K a s.size);rw [<- hc] at ae;have HC:=Hd hc;have z3:Hid (w.heap.size+3<=W2.heap.size):=by have:=z1.out;have:=z2.out;simp only [Hid];omega
 have cX:Hid (c.X=W2.heap.size):=by rw [hc];rfl
 have cL:Hid (c.L=s.size/\c.at 0=a.map Res.tk):=by rw [hc];exact ⟨rfl,rfl⟩
 have ax:Hid (∀ W,Rd c W 0->Calls Tryz.prog 15 #[c.ptr] W (RdPost c W Y (fun p v w'=>pgR W.heap.size p v w'))):=fun W I=>by
  have:=p_program (n:=fuel (a.map Res.tk)) I (by rw [cL.out.2];unfold fuel;omega)
  rw [cL.out.2,cL.out.1] at this;rw [HY.out];exact this
 have az:Hid (∀ W k,Rd c W k->Calls Tryz.prog 38 #[c.ptr] W fun e w'=>Fr c W w'/\e=match c.at k with | []=>.returned (.tuple #[]) | t::_=>.panicked (flt t.pos 2)):=fun W k I=>p_end I
 have bc:Hid (∀ W k cs,Rd c W k->Rd c (W.setRow w.heap.size cs) k):=fun W k cs I=>I.setRow cs (by rw [hc];simp only [newC];have:=z3.out;omega) (fun b E e=>by have:=(ap.out b E (by rw [hc] at e;exact e)).1;omega) (by have h1:=HT.out.2.size1;have h2:=HT.out.2.size2;omega)
 clear hc a0;unfold Par.ptr at *;go_wp2_with fail;go_at_call 37;refine ae.out.mono ?_;rintro e Q ⟨rfl,D,ak⟩;have O1:=Hd (O1.out.below D);have i:=Hd (i.out.below D);have V:=Hd (V.out.below D);have B3:=Hd (B2.out.trans (D.mono (by have:=z3.out;omega)))
 have R3:=Hd ak;have S:Hid (w.heap.size+3<=Q.heap.size):=by have:=D.size;have:=z3.out;simp only [Hid];omega
 clear D ak c5;go_wp2_with fail;go_at_call 15;refine (ax.out _ R3.out).mono ?_;rintro e w4 ⟨l,hm⟩;have M:Hid (c.X≠w.heap.size/\c.X≠w.heap.size+1/\c.X≠w.heap.size+1+1/\w.heap.size<=c.X):=by have:=z3.out;have:=cX.out;simp only [Hid];omega
 have O1:=Hd (O1.out.fr l M.out.1);have i:=Hd (i.out.fr l M.out.2.1);have V:=Hd (V.out.fr l M.out.2.2.1);have B4:Hid (Below w.heap.size w w4):=B3.out.trans (fr_below l M.out.2.2.2 (by have:=S.out;omega))
 rcases Y with ⟨x,r⟩ | ⟨p,q⟩
 rotate_left
 · obtain rfl := hm
   clear l;go_wp2_with fail;refine leaves_cons (f:=36) (args:=#[.pointer (some ⟨w.heap.size,0,none⟩),.pointer (some ⟨w.heap.size+1,0,none⟩),.pointer (some ⟨w.heap.size+1+1,0,none⟩)]) (by simp) (by simp [go_sem]) ?_
   refine (catch_pg (n:=w.heap.size) O1.out rfl i.out V.out rfl (by omega) (by omega)).mono ?_
   rintro e u' w5 ⟨rfl,rfl,q1,q2,q3,F⟩;refine ⟨_,res3 rfl rfl rfl rfl (lv_row rowPg q1 rfl) (lv_err q2) (lv_row rowFl q3 rfl),B4.out.trans F,?_⟩;rw [HR.out];exact ⟨_,rfl,rfl⟩
 obtain ⟨v,k4,rfl,hV,an,rfl⟩:=hm;have z5:Hid (w.heap.size+3<=w4.heap.size/\Q.heap.size<=w4.heap.size):=by have:=Keep.size l;have:=S.out;simp only [Hid];omega
 have HV:=Hd hV;obtain ⟨m,A,z,B,y,o,rfl,_⟩:=hV;obtain ⟨H,U⟩:∃ H:Array Value,H=#[.slice m x.shared.length A,.slice z x.locks.length B,.slice y x.threads.length o]:=⟨_,rfl⟩;have VS:Hid (H.size=zPg.size):=by rw [U];rfl
 have P1:=Hd (O1.out.row H);have Z:=Hd (i.out.other (g:=w.heap.size) H (by omega))
 have P4:=Hd (V.out.other (g:=w.heap.size) H (by omega))
 have B5:=Hd (Below.of_row B4.out (g:=w.heap.size) (Nat.le_refl _) H);have R5:=Hd (bc.out _ _ H an);have V5:Hid (pgR Q.heap.size x (.agg H) (w4.setRow w.heap.size H)):=by rw [U];exact pgR_stays HV.out (stays_row w4 _ (fun b F=>by have:=S.out;omega)) (Nat.le_refl _)
 clear l an;have o1:=O1.out;subst U;go_wp2_with (first | (refine st rowPg rfl rfl o1 rfl rfl (by rfl) (by rfl) (by kernel_rfl) ?_))
 clear o1;go_at_call 38;refine (az.out _ _ R5.out).mono ?_;rintro e N ⟨j,he⟩;have z6:Hid (w.heap.size+3<=N.heap.size):=by have:=Keep.size j;rw [size_setRow] at this;have:=z5.out;simp only [Hid];omega
 have P1:=Hd (P1.out.fr j M.out.1);have Z:=Hd (Z.out.fr j M.out.2.1);have P4:=Hd (P4.out.fr j M.out.2.2.1);have B6:Hid (Below w.heap.size w N):=B5.out.trans (fr_below j M.out.2.2.2 (by rw [size_setRow];have:=z5.out;omega))
 have V6:Hid (pgR Q.heap.size x (.agg #[.slice m x.shared.length A,.slice z x.locks.length B,.slice y x.threads.length o]) N):=pgR_stays V5.out (stays_fr j (fun b F=>by have h1:=F;have h2:=R3.out.lt;change Q.heap.size<=b at h1;omega)) (Nat.le_refl _)
 have HR:Hid (R=match c.at k4 with | []=>(some x,0,0,0) | t::_=>(none,30,t.pos,2)):=by
  rw [Hid,HR.out];show endR (match c.at k4 with | []=>PR.ok x [] | t::_=>PR.bad t.pos 2)=_
  cases c.at k4 <;> rfl
 clear j;generalize c.at k4=ts at he HR;cases ts with
 | cons t r =>
   subst he;go_wp2_with fail;refine leaves_cons (f:=36) (args:=#[.pointer (some ⟨w.heap.size,0,none⟩),.pointer (some ⟨w.heap.size+1,0,none⟩),.pointer (some ⟨w.heap.size+1+1,0,none⟩)]) (by simp) (by simp [go_sem]) ?_
   refine (catch_pg (n:=w.heap.size) P1.out VS.out Z.out P4.out rfl (by omega) (by omega)).mono ?_
   rintro e u' w7 ⟨rfl,rfl,q1,q2,q3,F⟩;refine ⟨_,res3 rfl rfl rfl rfl (lv_row rowPg q1 rfl) (lv_err q2) (lv_row rowFl q3 rfl),B6.out.trans F,?_⟩;rw [HR.out];exact ⟨_,rfl,rfl⟩
 | nil =>
   subst he;have p1:=P1.out;have e7:(N.setRow w.heap.size #[.slice m x.shared.length A,.slice z x.locks.length B,.slice y x.threads.length o]).setCell ⟨w.heap.size+1,0,none⟩ (.int .i64 0)=(N.setRow w.heap.size #[.slice m x.shared.length A,.slice z x.locks.length B,.slice y x.threads.length o]).setRow (w.heap.size+1) #[.int .i64 0]:=setCell_row (Z.out.other (g:=w.heap.size) #[.slice m x.shared.length A,.slice z x.locks.length B,.slice y x.threads.length o] (by omega)) 0 _
   have c7:(N.setRow w.heap.size #[.slice m x.shared.length A,.slice z x.locks.length B,.slice y x.threads.length o]).cell? ⟨w.heap.size+1,0,none⟩=some (.int .i64 0):=by rw [cell_of_row _ _ 0 _ _ _ (Z.out.other (g:=w.heap.size) #[.slice m x.shared.length A,.slice z x.locks.length B,.slice y x.threads.length o] (by omega))];rfl
   have f7:=own_frozen (Z.out.other (g:=w.heap.size) #[.slice m x.shared.length A,.slice z x.locks.length B,.slice y x.threads.length o] (by omega)) 0
   have q1:=Hd (((P1.out.row #[.slice m x.shared.length A,.slice z x.locks.length B,.slice y x.threads.length o]).other (g:=w.heap.size+1) #[.int .i64 0] (by omega)).other (g:=w.heap.size+1+1) #[.int .i64 0,.int .i64 0] (by omega))
   have q2:=Hd (((Z.out.other (g:=w.heap.size) #[.slice m x.shared.length A,.slice z x.locks.length B,.slice y x.threads.length o] (by omega)).row #[.int .i64 0]).other (g:=w.heap.size+1+1) #[.int .i64 0,.int .i64 0] (by omega))
   have p4:=(P4.out.other (g:=w.heap.size) #[.slice m x.shared.length A,.slice z x.locks.length B,.slice y x.threads.length o] (by omega)).other (g:=w.heap.size+1) #[.int .i64 0] (by omega)
   have q4:=Hd (p4.row #[.int .i64 0,.int .i64 0]);have B7:=Hd (Below.of_row (Below.of_row (Below.of_row B6.out (g:=w.heap.size) (Nat.le_refl _) #[.slice m x.shared.length A,.slice z x.locks.length B,.slice y x.threads.length o]) (g:=w.heap.size+1) (by omega) #[.int .i64 0]) (g:=w.heap.size+1+1) (by omega) #[.int .i64 0,.int .i64 0])
   have V7:Hid (pgR w.heap.size x (.agg #[.slice m x.shared.length A,.slice z x.locks.length B,.slice y x.threads.length o]) (((N.setRow w.heap.size #[.slice m x.shared.length A,.slice z x.locks.length B,.slice y x.threads.length o]).setRow (w.heap.size+1) #[.int .i64 0]).setRow (w.heap.size+1+1) #[.int .i64 0,.int .i64 0])):=pgR_stays V6.out (((stays_row N _ (fun b F=>by have:=S.out;change Q.heap.size<=b at F;omega)).trans (stays_row _ _ (fun b F=>by have:=S.out;change Q.heap.size<=b at F;omega))).trans (stays_row _ _ (fun b F=>by have:=S.out;change Q.heap.size<=b at F;omega))) (by have:=S.out;omega)
   go_wp2_with (first | (refine ld rowPg rfl rfl rfl p1 rfl ?_) | (refine st rowPg rfl rfl p1 rfl rfl (by rfl) (by rfl) (by kernel_rfl) ?_) | (refine st rowFl rfl rfl p4 rfl rfl (by rfl) (by rfl) (by kernel_rfl) ?_))
   refine leaves_cons (f:=36) (args:=#[.pointer (some ⟨w.heap.size,0,none⟩),.pointer (some ⟨w.heap.size+1,0,none⟩),.pointer (some ⟨w.heap.size+1+1,0,none⟩)]) (by simp) (by simp [go_sem]) ?_
   refine (idle_P _ _ _ _).mono ?_;rintro e u' w8 ⟨rfl,rfl,rfl⟩;refine ⟨_,res3 rfl rfl rfl rfl (lv_row rowPg q1.out rfl) (lv_err q2.out) (lv_row rowFl q4.out rfl),B7.out,?_⟩;rw [HR.out];exact ⟨_,rfl,V7.out⟩
theorem p_whole_P (s:ByteArray) {w:World} (T:LTabs w) (TW:Tabs w) :
 Calls Tryz.prog 14 #[.string s,.func (.func 15) #[] #[]] w (WhPost w zPg pgR (wholeR (fun L ts=>progP fnd L (fuel ts) ts) s)):=by
 by_cases hl:65536<s.size
 · exact wh_long_P s T TW hl
 · by_cases hf : (frontR s).2.2 = 0
   · exact wh_go_P s T TW hl hf
   · exact wh_lex_P s T TW hl hf
def said_P (s:ByteArray):=wholeR (fun L ts=>progP fnd L (fuel ts) ts) s
theorem p_Parse (s:ByteArray) {w:World} (T:LTabs w) (TW:Tabs w):Calls Tryz.prog 5 #[.string s] w (WhPost w zPg pgR (said_P s)):=by
 have E:Hid (∀ W,LTabs W->Tabs W->Calls Tryz.prog 14 #[.string s,.func (.func 15) #[] #[]] W (WhPost W zPg pgR (said_P s))):=fun W T TW=>p_whole_P s T TW
 generalize said_P s=R at E ⊢;have O1:=(Own.new w 26 zPg).alloc (.cells #[.int .i64 0,.int .i64 0] 29);have i:=Own.new (w.alloc (.cells zPg 26)) 29 #[.int .i64 0,.int .i64 0];have r:Below w.heap.size w ((w.alloc (.cells zPg 26)).alloc (.cells #[.int .i64 0,.int .i64 0] 29)):=((Below.refl _ w).alloc (Nat.le_refl _) _).alloc (by simp only [World.size_alloc];omega) _
 have f:Hid (((w.alloc (.cells zPg 26)).alloc (.cells #[.int .i64 0,.int .i64 0] 29)).heap.size=w.heap.size+2):=by simp only [Hid,World.size_alloc]
 rw [World.size_alloc] at i;have D:=Hd (T.below (Nat.le_refl _) r);have l:=Hd (TW.below (Nat.le_refl _) r);clear T TW;unfold zPg at *;go_enter Tryz.func5,Tryz.ntmps5;go_wp2_with fail;obtain ⟨G,n⟩:=Qx (((w.alloc (.cells #[.slice none 0 0,.slice none 0 0,.slice none 0 0] 26)).alloc (.cells #[.int .i64 0,.int .i64 0] 29)));rw [<- n] at O1 i r f D l ⊢;clear n;go_at_call 14;refine (E.out _ D.out l.out).mono ?_;rintro e z ⟨a,v,rfl,j⟩;obtain ⟨H,K,c,d⟩:=R;have O1:=O1.below a;have i:=i.below a;have B1:=Hd (r.trans (a.mono (by have:=f.out;omega)))
 have J:Hid (w.heap.size+2<=z.heap.size):=by have:=a.size;have:=f.out;simp only [Hid];omega
 clear a r;cases H with
 | none =>
   obtain rfl:v=.agg #[.slice none 0 0,.slice none 0 0,.slice none 0 0]:=j;have p:=i.other (g:=w.heap.size) #[.slice none 0 0,.slice none 0 0,.slice none 0 0] (by omega)
   have C:=Hd ((O1.row #[.slice none 0 0,.slice none 0 0,.slice none 0 0]).other (g:=w.heap.size+1) #[.int .i64 c,.int .i64 d] (by omega))
   have A:=Hd (p.row #[.int .i64 c,.int .i64 d]);have B:=Hd (Below.of_row (Below.of_row B1.out (g:=w.heap.size) (Nat.le_refl _) #[.slice none 0 0,.slice none 0 0,.slice none 0 0]) (g:=w.heap.size+1) (by omega) #[.int .i64 c,.int .i64 d])
   go_wp2_with (first | (refine st rowPg rfl rfl O1 rfl rfl (by rfl) (by rfl) (by kernel_rfl) ?_) | (refine st rowFl rfl rfl p rfl rfl (by rfl) (by rfl) (by kernel_rfl) ?_))
   refine bodyPost_ret (res2 rfl rfl rfl rfl (lv_row rowPg C.out rfl) (lv_row rowFl A.out rfl)) rfl ⟨B.out,_,rfl,rfl⟩
 | some x =>
   have j:pgR G.heap.size x v z:=j;have I:=Hd j;obtain ⟨t,y,o,q,m,k,rfl,_⟩:=j;have p:=i.other (g:=w.heap.size) #[.slice t x.shared.length y,.slice o x.locks.length q,.slice m x.threads.length k] (by omega)
   have C:=Hd ((O1.row #[.slice t x.shared.length y,.slice o x.locks.length q,.slice m x.threads.length k]).other (g:=w.heap.size+1) #[.int .i64 c,.int .i64 d] (by omega))
   have A:=Hd (p.row #[.int .i64 c,.int .i64 d]);have B:=Hd (Below.of_row (Below.of_row B1.out (g:=w.heap.size) (Nat.le_refl _) #[.slice t x.shared.length y,.slice o x.locks.length q,.slice m x.threads.length k]) (g:=w.heap.size+1) (by omega) #[.int .i64 c,.int .i64 d])
   have F:Hid (pgR w.heap.size x (.agg #[.slice t x.shared.length y,.slice o x.locks.length q,.slice m x.threads.length k]) ((z.setRow w.heap.size #[.slice t x.shared.length y,.slice o x.locks.length q,.slice m x.threads.length k]).setRow (w.heap.size+1) #[.int .i64 c,.int .i64 d])):=pgR_stays I.out ((stays_row z _ (fun b a=>by have:=f.out;omega)).trans (stays_row _ _ (fun b a=>by have:=f.out;omega))) (by have:=f.out;omega)
   go_wp2_with (first | (refine st rowPg rfl rfl O1 rfl rfl (by rfl) (by rfl) (by kernel_rfl) ?_) | (refine st rowFl rfl rfl p rfl rfl (by rfl) (by rfl) (by kernel_rfl) ?_))
   refine bodyPost_ret (res2 rfl rfl rfl rfl (lv_row rowPg C.out rfl) (lv_row rowFl A.out rfl)) rfl ⟨B.out,_,rfl,F.out⟩
mutual
def sameE:Ex->Ex->Bool
 | .mk k o w n ks _,.mk k' o' w' n' ks' _=>k==k'&&o==o'&&w==w'&&n.data.toList==n'.data.toList&&sameEs ks ks'
def sameEs:List Ex->List Ex->Bool
 | [],[]=>true
 | x::r,y::s=>sameE x y&&sameEs r s
 | _,_=>false
end
theorem sameEs_len:∀ (l m:List Ex),sameEs l m=true->l.length=m.length
 | [],[],_=>rfl
 | [],_::_,h=>by simp [sameEs] at h
 | _::_,[],h=>by simp [sameEs] at h
 | x :: r, y :: s, h => by
   simp only [sameEs,Bool.and_eq_true] at h
   have:=sameEs_len r s h.2
   simp [this]
def sameFrom (l m:List Ex) (i:Nat):Bool:=sameEs (l.drop i) (m.drop i)
theorem sameFrom_step {l m:List Ex} {i:Nat} (hl:i<l.length) (hm:i<m.length):sameFrom l m i=(sameE l[i] m[i]&&sameFrom l m (i+1)):=by
 unfold sameFrom;rw [List.drop_eq_getElem_cons hl,List.drop_eq_getElem_cons hm];rfl
theorem sameFrom_end {l m:List Ex} {i:Nat} (hl:l.length<=i) (hm:m.length<=i):sameFrom l m i=true:=by
 unfold sameFrom;rw [List.drop_of_length_le hl,List.drop_of_length_le hm];rfl
theorem sameEs_ne {l m:List Ex} (h:l.length≠m.length):sameEs l m=false:=by
 cases hs:sameEs l m with
 | false=>rfl
 | true=>exact absurd (sameEs_len l m hs) h
def exA (w:World) (e:Ex) (v:Value):Prop:=∃ a cap,v=.agg #[.int .u8 e.kind,.int .u8 e.op,.int .i64 e.wd,.string e.name,.slice a e.kids.length cap,.int .i64 e.pos]/\exsAt (fun _=>True) w e.kids a
mutual
def okE:Ex->Prop
 | .mk _ _ _ _ ks _=>ks.length<=9223372036854775807/\okEs ks
def okEs:List Ex->Prop
 | []=>True
 | x::r=>okE x/\okEs r
end
theorem okEs_mem:∀ {l:List Ex},okEs l->∀ x∈l,okE x
 | [],_,x,hx=>by simp at hx
 | y :: r, h, x, hx => by
   rcases List.mem_cons.1 hx with rfl | hx
   · exact h.1
   · exact okEs_mem h.2 x hx
theorem exsAt_below {w w':World} {l:List Ex} {a:Option Addr} (h:exsAt (fun _=>True) w l a) (hb:Below w.heap.size w w'):exsAt (fun _=>True) w' l a:=by
 have h:=exsAt_in h;exact exsAt_stays (R:=fun b=>True/\b<w.heap.size) (fun b o v hb2 hv=>by rw [<- hv];exact hb.cell (p:=⟨b,o,none⟩) hb2.2) (fun _ _=>trivial) h
open Go.RowKit
set_option linter.unusedVariables false
def errP (n:Int):List PanicEntry:=[{ v:=.iface 27 (.int .i64 n),recovered:=false }]
def NdP (w:World) (b:Bool) (e:Ending) (w':World):Prop:=e=(bif b then .returned (.tuple #[]) else .panicked (errP 40))/\Below w.heap.size w w'
theorem NdP.ok {w w':World} {b:Bool} {e:Ending} (h:NdP w b e w') (hb:b=true):e=.returned (.tuple #[])/\Below w.heap.size w w':=by subst hb;exact h
theorem NdP.bad {w w':World} {b:Bool} {e:Ending} (h:NdP w b e w') (hb:b=false):e=.panicked (errP 40)/\Below w.heap.size w w':=by subst hb;exact h
theorem p_need (b:Bool) (w:World):Calls Tryz.prog 43 #[.bool b] w (NdP w b):=by
 cases b with
 | true =>
   go_enter Tryz.func43,Tryz.ntmps43;go_wp2;exact bodyPost_end (results_none rfl _ _ _) rfl ⟨rfl,Below.refl _ w⟩
 | false =>
   go_enter Tryz.func43,Tryz.ntmps43;go_wp2;exact ⟨rfl,rfl,Below.refl _ w⟩
def nmB (n:ByteArray) (has:Bool):Bool:=bif has then nameB n else n.data.toList==[]
theorem p_needName (n:ByteArray) (has:Bool) (w:World) (T:LNm w):Calls Tryz.prog 152 #[.string n,.bool has] w (NdP w (nmB n has)):=by
 have f:=Hd (isname_any n w T);have i:Hid (∀ b W,Calls Tryz.prog 43 #[.bool b] W (NdP W b)):=fun b W=>p_need b W
 clear T;cases has with
 | true =>
   unfold nmB;generalize nameB n=q at f;show Calls _ _ _ _ (NdP w q);cases q
   all_goals
    go_enter Tryz.func152,Tryz.ntmps152
    go_wp2_with (first
     | (go_at_call 26;refine (f.out).mono ?_;rintro e g ⟨rfl,rfl⟩)
     | (go_at_call 43;refine (i.out _ _).mono ?_;rintro e g c;first | (obtain ⟨rfl,a⟩:=c.ok rfl) | (obtain ⟨rfl,a⟩:=c.bad rfl)))
   · exact ⟨rfl,rfl,a⟩
   · exact bodyPost_end (results_none rfl _ _ _) rfl ⟨rfl,a⟩
 | false =>
   unfold nmB;show Calls _ _ _ _ (NdP w (n.data.toList==[]));obtain ⟨q,d⟩:=Qx ((n.data.toList==[]));rw [<- d];have j:(n.toList==([]:List UInt8))=q:=by rw [d,Lib.toList_data]
   clear d;cases q
   all_goals
    go_enter Tryz.func152,Tryz.ntmps152
    go_wp2_with (first
     | (go_at_call 43;refine (i.out _ _).mono ?_;rintro e g c;first | (obtain ⟨rfl,a⟩:=c.ok rfl) | (obtain ⟨rfl,a⟩:=c.bad rfl)))
   · exact ⟨rfl,rfl,a⟩
   · exact bodyPost_end (results_none rfl _ _ _) rfl ⟨rfl,a⟩
theorem p_isOfOne (o:Int) (h0:0<=o) (h1:o<=255) (w:World) (T:Tabs w):Calls Tryz.prog 180 #[.int .u8 o] w fun e w'=>e=.returned (.bool (oneB o))/\Below w.heap.size w w':=by
 have H:=Hd (oneOp_any o h0 h1 w T);clear T h0 h1;cases hq:oneB o
 all_goals
  rw [hq] at H;clear hq;go_enter Tryz.func180,Tryz.ntmps180;go_wp2_with (go_at_call 206;refine (H.out).mono ?_;rintro e b ⟨⟨x,rfl⟩,a⟩);go_ret;exact ⟨rfl,a⟩
theorem p_round (b:Bool) (w:World):Calls Tryz.prog 181 #[.bool b] w fun e w'=>e=.returned (.int .i64 (bif b then 1 else 0))/\w=w':=by
 cases b
 all_goals
  go_enter Tryz.func181,Tryz.ntmps181;go_wp2;go_ret;exact ⟨rfl,rfl⟩
set_option maxRecDepth 100000
def selW (b:Nat) (k:Nat) (o:Obj):Prop:=k≠b/\¬ IsTy 5 o
def WtP (b:Nat) (p v:Value) (txt:List UInt8) (deep:Int) (fs:List Value) (W:World):Prop :=
 Own W b 114 (p::v :: .int .i64 deep::fs).toArray/\fs.length=8/\(p=.pointer none\/p=.pointer (some ⟨b,0,none⟩))/\(txt=[]->v=.slice none 0 0)/\W.ownsRow (b+1) 5 1 v txt.length (Lib.byteCells txt)
def Wt (b:Nat) (txt:List UInt8) (deep:Int) (fs:List Value) (W:World):Prop:=∃ p v,WtP b p v txt deep fs W
theorem infoU8':(Tryz.prog.info? 5).map (fun i=>(i.zero,i.size,i.bytes))=some (some (.int .u8 0),1,1):=by kernel_rfl
theorem infoBl:(Tryz.prog.info? 110).map (·.size)=some 2:=by kernel_rfl
theorem wt_shape {w:World} {b:Nat} {cs:Array Value} (h:Own w b 114 cs):w.shape? b=some (114,cs.size):=by
 have a:w.heap[b]? = some (.cells cs 114 (0,0)):=h;simp [World.shape?,a]
theorem wt_check {b:Nat} {txt:List UInt8} {deep:Int} {fs:List Value} {w:World} (h:Wt b txt deep fs w) :
 Calls Tryz.prog 186 #[.pointer (some ⟨b,0,none⟩)] w fun e w'=>e=.returned (.tuple #[])/\(∃ v,WtP b (.pointer (some ⟨b,0,none⟩)) v txt deep fs w')/\Keep (selW b) w w'/\w'.heap.size=w.heap.size/\Below b w w':=by
 obtain ⟨p,v,c,k,o,d,f⟩:=h;have r:w.cell? ⟨b,0,none⟩=some p:=cr c;have q:w.frozen? ⟨b,0,none⟩=false:=own_frozen c 0;obtain ⟨j,m,i⟩:=Option.map_eq_some_iff.1 infoBl;have a:=wt_shape c;have n:(p::v :: .int .i64 deep::fs).toArray.size=11:=by simp [k]
 rw [n] at a;rcases o with rfl | rfl
 · have g := Hd c
   have l:=Hd f;clear c f;go_enter Tryz.func186,Tryz.ntmps186;go_wp2;rw [Lib.run_to_unsafe w ⟨b,0,none⟩ Tryz.underlying107 Tryz.underlying254 m (by rw [i];decide) a (Nat.zero_lt_succ 10)]
   simp only [Result.andThen];rw [Oper.upon_value];go_wp2;rw [run_callFunc_extern Tryz.func209 (by kernel_rfl) (by kernel_rfl) (by kernel_rfl) (e:=Extern.AbiNoEscape.same) (by kernel_rfl)]
   rw [Lib.run_noEscape];simp only [Result.andThen];rw [Oper.upon_value];go_wp2;rw [Lib.run_from_unsafe w ⟨b,0,none⟩ Tryz.underlying254 Tryz.underlying107 m a (by kernel_rfl)]
   simp only [Result.andThen];rw [Oper.upon_value];go_wp2;refine bodyPost_end (results_none rfl _ _ _) rfl ⟨rfl,⟨v,?_,k,.inr rfl,d,?_⟩,?_,by simp,(Below.refl b w).setCell (p:=⟨b,0,none⟩) (Nat.le_refl b) _⟩
   · exact heap_setCell_same w b 0 _ _ _ g.out
   · exact ownsRow_setCell_below l.out (show b<b+1 by omega) _
   · exact (Keep.refl _ w).setCell (p:=⟨b,0,none⟩) _ g.out (fun hs=>hs.1 rfl)
 · have g := Hd c
   have l:=Hd f;clear c f;go_enter Tryz.func186,Tryz.ntmps186;go_wp2;rw [Lib.run_neq_ptr_same w _ Tryz.underlying107 m];go_wp2;exact bodyPost_end (results_none rfl _ _ _) rfl ⟨rfl,⟨v,g.out,k,.inr rfl,d,l.out⟩,Keep.refl _ _,rfl,Below.refl _ _⟩
theorem wt_slice {b:Nat} {p v:Value} {txt:List UInt8} {deep:Int} {fs:List Value} {w:World} (h:WtP b p v txt deep fs w):∃ ao cap,v=.slice ao txt.length cap:=by
 rcases h.2.2.2.2.2 with ⟨a,d⟩ | ⟨g,cap,c,a,_⟩
 · exact ⟨none,0,by rw [a,d]⟩
 · exact ⟨_,_,a⟩
theorem wt_len {b:Nat} {txt:List UInt8} {deep:Int} {fs:List Value} {w:World} (h:Wt b txt deep fs w) :
 Calls Tryz.prog 155 #[.pointer (some ⟨b,0,none⟩)] w fun e w'=>e=.returned (.int .i64 txt.length)/\w=w':=by
 obtain ⟨p,v,h⟩:=h;obtain ⟨c,a,rfl⟩:=wt_slice h;have d:w.cell? ⟨b,1,none⟩=some (.slice c txt.length a):=cr h.1;clear h;go_enter Tryz.func155,Tryz.ntmps155;go_wp2;go_ret;exact ⟨rfl,rfl⟩
theorem row_bytesW {w:World} {B:Nat} {v:Value} {n:Nat} {xs:List Value} (h:w.ownsRow B 5 1 v n xs) (b:Nat) {w':World} (hw:∀ k o,k<w.heap.size->w.heap[k]? = some o->w'.heap[k]? = some o):∀ r o,v.ownBlock=some r->w'.heap[r]? = some o->¬ selW b r o:=by
 intro r o a d j;rcases h.2 with ⟨rfl,_⟩ | ⟨g,f,i,rfl,_,c,_⟩
 · simp [Value.ownBlock] at a
 · have e : g = r := by simpa [Value.ownBlock] using a
   subst e;rw [hw g _ (Array.getElem?_eq_some_iff.1 c).1 c] at d;cases d;exact j.2 ⟨_,_,rfl⟩
theorem empty_bytes {s:ByteArray} (h:s.data.toList=[]):s=ByteArray.empty:=by
 cases s with
 | mk dd =>
   have a:dd=#[]:=Array.toList_eq_nil_iff.1 h;subst a;rfl
theorem strCells_bytes (s:ByteArray):Lib.strCells s=Lib.byteCells s.data.toList:=rfl
theorem bytes_append (a b:List UInt8):Lib.byteCells a++Lib.byteCells b=Lib.byteCells (a++b):=by simp [Lib.byteCells]
theorem wt_write {b:Nat} {txt:List UInt8} {deep:Int} {fs:List Value} {w:World} (h:Wt b txt deep fs w) (s:ByteArray) (hlen:txt.length+s.size<=140737488355328) :
 Calls Tryz.prog 156 #[.pointer (some ⟨b,0,none⟩),.string s] w fun e w'=>e=.returned (.tuple #[.int .i64 s.size,.nilIface])/\Wt b (txt++s.data.toList) deep fs w'/\Keep (selW b) w w'/\Below b w w':=by
 obtain ⟨N,T,B,C,x⟩:=info_parts infoU8';have H:=Hd (wt_check h);clear h;go_enter Tryz.func156,Tryz.ntmps156;go_wp2_with (go_at_call 186;refine (H.out).mono ?_);rintro e o ⟨rfl,⟨v,f,I,_,r,c⟩,t,D,y⟩;have J:w.heap.size<=o.heap.size:=Nat.le_of_eq D.symm;clear D H;have W:o.cell? ⟨b,0,none⟩=some (.pointer (some ⟨b,0,none⟩)):=cr f;have X:o.cell? ⟨b,1,none⟩=some v:=cr f;have A:b<o.heap.size:=f.lt;have R:=Hd f;clear f;go_wp2_with (at_builtin;refine Lib.wpList_append_own_string _ rfl _ _ 108 9 rfl (b+1) 5 N Tryz.underlying108 Tryz.underlying9 T B C x _ _ _ rfl c s rfl ?c3 ?c4 ?c5 ?_)
 case c3=>unfold maxLen;omega
 case c4=>omega
 case c5=>omega
 intro M m d a j;have z:v.ownBlock≠some b:=by
  intro e;obtain ⟨F,_⟩:=c.lt _ e;omega
 have i:Own m b 114 (.pointer (some ⟨b,0,none⟩)::v :: .int .i64 deep::fs).toArray:=by
  have:=a.block b A (fun e=>z e.symm)
  exact this.trans R.out
 have V:m.cell? ⟨b,0,none⟩=some (.pointer (some ⟨b,0,none⟩)):=cr i;have U:m.cell? ⟨b,1,none⟩=some v:=cr i;have Y:m.frozen? ⟨b,1,none⟩=false:=own_frozen i 1;obtain ⟨E,G,l,rfl⟩:∃ E G l,M=.slice E G l:=by
  rcases d.2 with ⟨q,_⟩ | ⟨g,l,P,q,_⟩
  · exact ⟨_,_,_,q⟩
  · exact ⟨_,_,_,q⟩
 have Q:Keep (selW b) w m:=t.grown a (row_bytesW c b (fun _ _ _ ho=>ho))
 have n:=Hd i;have S:=Hd j;clear i j;go_wp2;go_ret2;refine ⟨rfl,⟨_,_,heap_setCell_same m b 1 _ _ _ n.out,I,.inr rfl,?_,?_⟩,Q.setCell (p:=⟨b,1,none⟩) _ n.out (fun hs=>hs.1 rfl),?_⟩
 · intro O
   obtain ⟨F,K⟩:=List.append_eq_nil_iff.1 O;exact S.out.2 ⟨r F,empty_bytes K⟩
 · have L : (txt ++ s.data.toList).length = txt.length + s.size := by rw [List.length_append, Array.length_toList]; rfl
   rw [L,<- bytes_append,<- strCells_bytes];exact ownsRow_setCell_below d (show b<b+1 by omega) _
 · exact (y.grown a (by omega) (fun k hk=>by have:=(c.lt k hk).1;omega)).setCell (p:=⟨b,1,none⟩) (Nat.le_refl b) _
theorem wt_string {b:Nat} {txt:List UInt8} {deep:Int} {fs:List Value} {w:World} (h:Wt b txt deep fs w) :
 Calls Tryz.prog 50 #[.pointer (some ⟨b,0,none⟩)] w fun e w'=>e=.returned (.string ⟨txt.toArray⟩)/\Below b w w':=by
 obtain ⟨p,v,h⟩:=h;have f:=h.1;have d:=h.2.2.2.2;by_cases h0:txt=[]
 · subst h0
   obtain rfl:=h.2.2.2.1 rfl;have o:=Lib.run_unsafeString_none (P:=Tryz.prog) w.drew 163 3 9 none;have C:w.drew.cell? ⟨b,1,none⟩=some (.slice none 0 0):=by
    have:w.cell? ⟨b,1,none⟩=some (.slice none 0 0):=cr f;exact this
   have m:(Builtin.unsafeSliceData_ #[108] 163 #[.slice none 0 0]).run Tryz.prog w.drew=.ok (.pointer none) w.drew:=rfl;have i:Tryz.prog.follows .mixedOrders=true:=by kernel_rfl
   clear h d f;go_enter Tryz.func50,Tryz.ntmps50;go_wp2;go_region_o
   all_goals (go_wp2;go_ret;exact ⟨rfl,Below.drew (Below.refl b w)⟩)
 · have q : txt.length ≠ 0 := by simpa using h0
   obtain ⟨g,a,c,rfl,z,D,y,n,A,k⟩:∃ g a c,v=.slice (some ⟨g,0,none⟩) txt.length a/\b+1<=g/\w.heap[g]? = some (.cells c 5 (0,0))/\txt.length<=a/\a<=maxLen/\c.size=a*1/\c.toList.take (txt.length*1)=Lib.byteCells txt:=by
    rcases d.2 with ⟨_,t⟩ | ⟨g,a,c,s,r⟩
    · exact absurd t q
    · exact ⟨g,a,c,s,r⟩
   have C:w.drew.cell? ⟨b,1,none⟩=some (.slice (some ⟨g,0,none⟩) txt.length a):=by
    have:w.cell? ⟨b,1,none⟩=some (.slice (some ⟨g,0,none⟩) txt.length a):=cr f;exact this
   have m:(Builtin.unsafeSliceData_ #[108] 163 #[.slice (some ⟨g,0,none⟩) txt.length a]).run Tryz.prog w.drew=.ok (.pointer (some ⟨g,0,none⟩)) w.drew :=
    Lib.run_unsafeSliceData_row _ _ _ _ _ _ (by omega)
   have o:(Builtin.unsafeString_ #[163,3] 9 #[.pointer (some ⟨g,0,none⟩),.int .i64 txt.length]).run Tryz.prog w.drew=.ok (.string ⟨txt.toArray⟩) (w.drew.freeze ⟨g,0,none⟩ txt.length):=by
    refine Lib.run_unsafeString_row w.drew 163 3 9 5 Tryz.underlying163 (by kernel_rfl) g c.size (by have l:w.drew.heap[g]? = some (.cells c 5 (0,0)):=D;simp [World.shape?,l]) txt h0 (by omega) (by unfold maxLen at n;omega) ?_
    intro j x B;have:=d.cells (g:=g) rfl j (.int .u8 x.toNat) (by simp [Lib.byteCells,B])
    exact this
   have i:Tryz.prog.follows .mixedOrders=true:=by kernel_rfl
   clear h d f;go_enter Tryz.func50,Tryz.ntmps50;go_wp2;go_region_o
   all_goals (go_wp2;go_ret;exact ⟨rfl,Lib.below_freeze (Below.drew (Below.refl b w)) (p:=⟨g,0,none⟩) (by show b<=g;omega) _⟩)
end Go.Proofs.YtbgfkdiihnidaaaGreatDoor

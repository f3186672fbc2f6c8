/- The proof, part 22: texts that belong together, in one. -/
import Derived.Test.YtggbkldniffbfaaGreatDoorTAT
import Derived.Test.YtggbkldniffbfaaGreatDoorTAU
set_option maxRecDepth 100000
set_option maxHeartbeats 20000000
namespace Go.Proofs.YtggbkldniffbfaaGreatDoor
open Go.RowKit
set_option linter.unusedVariables false
theorem res3 {fn:Func} {T U V:TypeId} {i j k:Tmp} (h:fn.results=#[.cell i T,.cell j U,.cell k V]) {tmps:Array Value} {P:Program} {w:World} {a b d:Addr} {x y z:Value} (ha:tmps.getD i undef=.pointer (some a)) (hb:tmps.getD j undef=.pointer (some b)) (hd:tmps.getD k undef=.pointer (some d))
 (h1:(loadVar T a).run P w=.ok x w) (h2:(loadVar U b).run P w=.ok y w) (h3:(loadVar V d).run P w=.ok z w):(results fn tmps).run P w=.ok (.tuple #[x,y,z]) w:=by
 have ha':tmps[i]?.getD undef=.pointer (some a):=by simpa using ha
 have hb':tmps[j]?.getD undef=.pointer (some b):=by simpa using hb
 have hd':tmps[k]?.getD undef=.pointer (some d):=by simpa using hd
 simp [results,h,ha',hb',hd',asAddr,h1,h2,h3,Result.andThen]
theorem res2 {fn:Func} {T V:TypeId} {i j k:Tmp} (h:fn.results=#[.cell i T,.tmp j,.cell k V]) {tmps:Array Value} {P:Program} {w:World} {a d:Addr} {x y z:Value} (ha:tmps.getD i undef=.pointer (some a)) (hb:tmps.getD j undef=y) (hd:tmps.getD k undef=.pointer (some d))
 (h1:(loadVar T a).run P w=.ok x w) (h3:(loadVar V d).run P w=.ok z w):(results fn tmps).run P w=.ok (.tuple #[x,y,z]) w:=by
 have ha':tmps[i]?.getD undef=.pointer (some a):=by simpa using ha
 have hb':tmps[j]?.getD undef=y:=by simpa using hb
 have hd':tmps[k]?.getD undef=.pointer (some d):=by simpa using hd
 simp [results,h,ha',hb',hd',asAddr,h1,h3,Result.andThen]
theorem lv_row {w:World} {g:Nat} {T:TypeId} {n:Nat} (hT:RowT T n) {cs:Array Value} (h:Own w g T cs) (hn:cs.size=n):(loadVar T ⟨g,0,none⟩).run Tryz.prog w=.ok (.agg cs) w:=by
 obtain ⟨d,h1,h2,h3⟩:=hT
 exact run_loadVar_row w g T T cs (0,0) d h h1 (by cases d <;> first | rfl | cases h2) (by rw [h3,hn])
theorem lv_err {w:World} {g:Nat} {z:Int} (h:Own w g 32 #[.int .i64 z]):(loadVar 32 ⟨g,0,none⟩).run Tryz.prog w=.ok (.int .i64 z) w:=by
 have hc:w.cell? ⟨g,0,none⟩=some (.int .i64 z):=by rw [cell_of_row w g 0 _ _ _ h];rfl
 go_simp
def endR {α:Type} : PR α→Option α × Int × Int × Int
 | .ok a _=>(some a,0,0,0)
 | .bad p q=>(none,30,p,q)
def wholeR {α:Type} (f:Int→List Tk→PR α) (s:ByteArray):Option α × Int × Int × Int :=
 if 65536<s.size then (none,4,0,0) else if ¬ (frontR s).2.2=0 then (none,30,(frontR s).2.1,1) else
  endR (endP (f s.size ((scanX s).1.map Res.tk)))
def WhPost {α:Type} (w:World) (zero:Array Value) (V:Nat→α→Value→World→Prop) (r:Option α × Int × Int × Int) (e:Ending) (w':World):Prop :=
 Below w.heap.size w w'∧∃ v,e=.returned (.tuple #[v,.int .i64 r.2.1,.agg #[.int .i64 r.2.2.1,.int .i64 r.2.2.2]])∧match r.1 with | none=>v=.agg zero | some a=>V w.heap.size a v w'
theorem pgR_stays {n m:Nat} {e:Pg} {v:Value} {w w':World} (h:pgR n e v w) (hs:Stays (fun b=>n≤b) w w') (hm:m≤n):pgR m e v w':=by
 obtain ⟨a1,c1,a2,c2,a3,c3,h0,h1,h2,h3⟩:=h
 exact ⟨a1,c1,a2,c2,a3,c3,h0,dcsAt_stays hs (fun b hb=>Nat.le_trans hm hb) h1,dcsAt_stays hs (fun b hb=>Nat.le_trans hm hb) h2,thsAt_stays hs (fun b hb=>Nat.le_trans hm hb) h3⟩
theorem fr_below {c:Par} {n:Nat} {w w':World} (h:Fr c w w') (hX:n≤c.X) (hn:n≤w.heap.size):Below n w w':=by
 refine ⟨Keep.os h,Keep.tape h,Keep.output h,Keep.size h,fun k hk=>?_⟩
 rw [Array.getElem?_eq_getElem (by omega:k<w.heap.size)]
 exact h.block (Array.getElem?_eq_getElem (by omega)) (by omega)
theorem Rd.setRow {c:Par} {w:World} {k:Nat} (R:Rd c w k) {g:Nat} (cs:Array Value) (h:g≠c.X∧g≠c.D∧g≠c.S∧g≠c.O∧g≠c.bm∧g≠c.bm+1∧g≠c.bn∧g≠c.bn+1) (ht:∀ b off,c.ta=some ⟨b,off,none⟩→b≠g) (hg:2≠g∧3≠g):Rd c (w.setRow g cs) k:=by
 have k0:∀ b,b≠g→(w.setRow g cs).heap[b]? = w.heap[b]?:=fun b hb=>setRow_other cs hb
 have k1:∀ b o,b≠g→(w.setRow g cs).cell? ⟨b,o,none⟩=w.cell? ⟨b,o,none⟩:=fun b o hb=>by simp only [World.cell?,k0 b hb]
 obtain ⟨⟨tok,tne,dm,sm,om,b1,b2,b3,b4,ne,T,gne,small⟩,pos,le⟩:=R
 obtain ⟨h1,h2,h3,h4,h5,h6,h7,h8⟩:=h
 refine ⟨⟨?_,tne,(k0 _ h2.symm).trans dm,(k0 _ h3.symm).trans sm,(k0 _ h4.symm).trans om,(k0 _ h5.symm).trans b1,(k0 _ h6.symm).trans b2,(k0 _ h7.symm).trans b3,(k0 _ h8.symm).trans b4,ne,?_,gne,small⟩,(k0 _ h1.symm).trans pos,le⟩
 · obtain ⟨oa, cap, hu, hc⟩ := tok
   refine ⟨oa,cap,hu,fun i x hx=>?_⟩
   obtain ⟨b,off,ho,a0,a1,a2,a3⟩:=hc i x hx
   obtain ⟨rfl,_,_⟩:c.ta=oa∧c.toks.length=c.toks.length∧c.cap=cap:=by cases hu;exact ⟨rfl,rfl,rfl⟩
   have hb:=ht b off ho
   exact ⟨b,off,ho,(k1 _ _ hb).trans a0,(k1 _ _ hb).trans a1,(k1 _ _ hb).trans a2,(k1 _ _ hb).trans a3⟩
 · have s1 := T.size1
   have s2:=T.size2
   exact ⟨by rw [size_setRow];exact s1,by rw [size_setRow];exact s2,fun i hi=>(k1 _ _ hg.1).trans (T.lev i hi),fun i hi=>(k1 _ _ hg.2).trans (T.sgn i hi)⟩
theorem leaves_tmps {P:Program} {fn:Func} {R:Ending→World→Prop} {t1 t2:Array Value} (h:results fn t1=results fn t2):∀ (ds:List Deferred) (u:FrameMode) (w:World),Leaves P fn t1 R ds u w→Leaves P fn t2 R ds u w
 | [], .returning, w, k => by
   obtain ⟨v,h1,h2⟩:=k
   exact ⟨v,by rw [← h];exact h1,h2⟩
 | [],.panicking c,w,k=>k
 | [],.run,w,k=>k
 | d :: ds, u, w, k => by
   obtain ⟨h1,fv,cap,f,args,h2,h3,h4⟩:=k
   refine ⟨h1,fv,cap,f,args,h2,h3,h4.mono fun e u' w' he=>?_⟩
   cases e with
   | returned v=>exact leaves_tmps h ds _ _ he
   | panicked c=>exact leaves_tmps h ds _ _ he
   | outgrown=>exact he
theorem post_put {P:Program} {fn:Func} {R:Ending→World→Prop} {i j k d:Nat} {T U V:TypeId} (h:fn.results=#[.cell i T,.cell j U,.cell k V]) (hd:d≠i∧d≠j∧d≠k) (c:List PanicEntry) (a:Act) (w:World) (v:Value) (hq:bodyPostD P fn R (.panic c) (a.put (some d) v) w):bodyPostD P fn R (.panic c) a w:=by
 have e:results fn (a.put (some d) v).tmps=results fn a.tmps:=by
  unfold results
  rw [h]
  simp only [Act.put]
  simp [Array.getElem?_setIfInBounds,hd.1,hd.2.1,hd.2.2]
 exact leaves_tmps e _ _ _ hq
theorem scan_long {s:ByteArray} (h:65536<s.size):scanX s=([],4,0,0):=by unfold scanX;rw [if_pos h]
theorem scan_lex {s:ByteArray} (h:¬ 65536<s.size) (hf:¬ (frontR s).2.2=0):scanX s=([],20,(frontR s).2.1,(frontR s).2.2):=by unfold scanX;rw [if_neg h,if_neg hf]
theorem scan_toks {s:ByteArray} (h:¬ 65536<s.size) (hf:(frontR s).2.2=0):scanX s=((frontR s).1,0,0,0):=by unfold scanX;rw [if_neg h,if_pos hf]
theorem run_ld_err {o:Oper} {a:Act} {w:World} {x:Operand} (ho:o.op=.load 32 x) {g:Nat} (hx:a.eval x=.pointer (some ⟨g,0,none⟩)) {z:Int} (hg:Own w g 32 #[.int .i64 z]):(execOp a.eval o).run Tryz.prog w=.ok (.value (.int .i64 z)) w:=by
 have hc:w.cell? ⟨g,0,none⟩=some (.int .i64 z):=by rw [cell_of_row w g 0 _ _ _ hg];rfl
 unfold execOp
 simp only [ho,hx]
 go_simp
theorem run_ld_int {o:Oper} {a:Act} {w:World} {x:Operand} (ho:o.op=.load 3 x) {p:Addr} (hx:a.eval x=.pointer (some p)) {v:Value} (hc:w.cell? p=some v):(execOp a.eval o).run Tryz.prog w=.ok (.value v) w:=by
 unfold execOp
 simp only [ho,hx]
 go_simp
theorem wp_st_errv {o:Oper} {a:Act} {w:World} {K:Act→World→Prop} {Q:Exit→Act→World→Prop} {x y:Operand} {z u:Int} (ho:o.op=.store 32 x y) {p:Addr} (hx:a.eval x=.pointer (some p)) (hy:a.eval y=.int .i64 z) (hu:w.cell? p=some (.int .i64 u)) (hf:w.frozen? p=false) (h:K (a.put o.dst undef) (w.setCell p (.int .i64 z))):o.wp Tryz.prog a w K Q:=by
 have hrun:(execOp a.eval o).run Tryz.prog w=.ok .skip (w.setCell p (.int .i64 z)):=by
  unfold execOp
  simp only [ho,hx,hy]
  go_simp
 unfold Oper.wp
 rw [hrun]
 exact h
theorem idle_P (x y z:Value) (w:World):CallsD Tryz.prog 49 #[x,y,z] .returning w fun e u' w'=>e=.returned (.tuple #[])∧u'=.returning∧w'=w:=by
 have hnil:=any_nil
 refine callsD_of_wpS Tryz.func49 rfl fun c₀ cs hu=>?_
 apply wpS_seq
 apply wpS_region
 simp [wpOpsS,go_sem,recoverD,hu,Tryz.ntmps49,Exit.thenS]
 rw [show (#[x,y,z]++(((Array.replicate 17 undef).setIfInBounds 4 .nilIface).setIfInBounds 0 .nilIface):Array Value)=#[x,y,z,.nilIface,undef,undef,undef,.nilIface,undef,undef,undef,undef,undef,undef,undef,undef,undef,undef,undef,undef] from by kernel_rfl]
 refine wpS_of_wp ?_
 generalize hQ:(fun e a' w'=>bodyPostS _ _ _ _ _ e a' _ w')=Q
 go_wp2
 subst hQ
 cases c₀
 simp_all [bodyPostS,results,Tryz.results49]
theorem wh_long_P (s:ByteArray) {w:World} (T:LTabs w) (TW:Tabs w) (hl:65536<s.size) :
 Calls Tryz.prog 23 #[.string s,.func (.func 24) #[] #[]] w (WhPost w zPg pgR (wholeR (fun L ts=>progP fnd L (fuel ts) ts) s)):=by
 obtain ⟨R,hR⟩:∃ R,R=wholeR (fun L ts=>progP fnd L (fuel ts) ts) s:=⟨_,rfl⟩
 rw [← hR]
 have HR:Hid (R=(none,4,0,0)):=by rw [Hid,hR];unfold wholeR;rw [if_pos hl]
 clear hR
 have HT:=Lib.hid (And.intro T TW)
 have HSC:Hid (∀ W,LTabs W→Calls Tryz.prog 48 #[.string s] W fun e w'=>∃ u,e=.returned (.tuple #[u,.int .i64 4,.agg #[.int .i64 0,.int .i64 0]])∧w'.ownsRow W.heap.size 111 4 u (scanX s).1.length (rowR (scanX s).1)∧(u=.slice none 0 0↔(scanX s).1=[])∧Below W.heap.size W w'):=fun W TW=>by have:=scan_row s TW;rw [scan_long hl] at this ⊢;exact this
 have O1:=((Own.new w 25 zPg).alloc (.cells #[.int .i64 0] 32)).alloc (.cells #[.int .i64 0,.int .i64 0] 36)
 have O2:=(Own.new (w.alloc (.cells zPg 25)) 32 #[.int .i64 0]).alloc (.cells #[.int .i64 0,.int .i64 0] 36)
 have O3:=Own.new ((w.alloc (.cells zPg 25)).alloc (.cells #[.int .i64 0] 32)) 36 #[.int .i64 0,.int .i64 0]
 have B0:Below w.heap.size w (((w.alloc (.cells zPg 25)).alloc (.cells #[.int .i64 0] 32)).alloc (.cells #[.int .i64 0,.int .i64 0] 36)):=(((Below.refl _ w).alloc (Nat.le_refl _) _).alloc (by simp only [World.size_alloc];omega) _).alloc (by simp only [World.size_alloc];omega) _
 have z0:Hid ((((w.alloc (.cells zPg 25)).alloc (.cells #[.int .i64 0] 32)).alloc (.cells #[.int .i64 0,.int .i64 0] 36)).heap.size=w.heap.size+3):=by simp only [Hid,World.size_alloc]
 rw [World.size_alloc] at O2
 rw [World.size_alloc,World.size_alloc] at O3
 have hmf:∀ (fn:Fn) (first cap:Array Value) (w:World),(Instr.makeFunc fn first cap).run Tryz.prog w=.ok (.func fn first cap) w:=fun _ _ _ _=>rfl
 clear T TW
 unfold zPg at *
 go_enter_defers Tryz.func23,Tryz.ntmps23
 go_wp2_with fail
 obtain ⟨W0,hW0⟩:∃ W,W=(((w.alloc (.cells #[.slice none 0 0,.slice none 0 0,.slice none 0 0] 25)).alloc (.cells #[.int .i64 0] 32)).alloc (.cells #[.int .i64 0,.int .i64 0] 36)):=⟨_,rfl⟩
 rw [← hW0] at O1 O2 O3 B0 z0 ⊢
 clear hW0
 go_at_call 48
 refine (HSC.out _ (HT.out.1.below (Nat.le_refl _) B0)).mono ?_
 rintro e w1 ⟨u,rfl,hrow,hnil,hb1⟩
 have O1:=O1.below hb1
 have O2:=O2.below hb1
 have O3:=O3.below hb1
 have B1:=Lib.hid (B0.trans (hb1.mono (by have:=z0.out;omega)))
 have z1:Hid (w.heap.size+3≤w1.heap.size):=by have:=hb1.size;have:=z0.out;simp only [Hid];omega
 have e5:w1.setCell ⟨w.heap.size+1,0,none⟩ (.int .i64 4)=w1.setRow (w.heap.size+1) #[.int .i64 4]:=setCell_row O2 0 _
 have O1:=O1.other (g:=w.heap.size+1) #[.int .i64 4] (by omega)
 have O2':=O2.row #[.int .i64 4]
 have O3:=O3.other (g:=w.heap.size+1) #[.int .i64 4] (by omega)
 have c5:w1.cell? ⟨w.heap.size+1,0,none⟩=some (.int .i64 0):=by rw [cell_of_row _ _ 0 _ _ _ O2];rfl
 have f5:=own_frozen O2 0
 have O1:=Lib.hid (O1.other (g:=w.heap.size+1+1) #[.int .i64 0,.int .i64 0] (by omega))
 have O2:=Lib.hid (O2'.other (g:=w.heap.size+1+1) #[.int .i64 0,.int .i64 0] (by omega))
 have O4:=Lib.hid (O3.row #[.int .i64 0,.int .i64 0])
 have B2:=Lib.hid (Below.of_row (Below.of_row B1.out (g:=w.heap.size+1) (by omega) #[.int .i64 4]) (g:=w.heap.size+1+1) (by omega) #[.int .i64 0,.int .i64 0])
 have z2:Hid (((w1.setRow (w.heap.size+1) #[.int .i64 4]).setRow (w.heap.size+1+1) #[.int .i64 0,.int .i64 0]).heap.size=w1.heap.size):=by rw [Hid,size_setRow,size_setRow]
 have RW:Hid (((w1.setRow (w.heap.size+1) #[.int .i64 4]).setRow (w.heap.size+1+1) #[.int .i64 0,.int .i64 0]).ownsRow (w.heap.size+3) 111 4 u (scanX s).1.length (rowR (scanX s).1)):=by
  have hrow:=ownsRow_base hrow (base':=w.heap.size+3) (by have:=z0.out;omega)
  exact row_row (row_row hrow _ (fun e=>by have:=(hrow.lt _ e).1;omega)) _ (fun e=>by have:=(hrow.lt _ e).1;omega)
 clear hrow B0 O2' z0 hb1
 have HNIL:=Lib.hid hnil
 clear hnil
 go_upto_region 2 with (first | (refine st rowFl rfl rfl O3 rfl rfl (by rfl) (by rfl) (by kernel_rfl) ?_))
 obtain ⟨W2,hW2⟩:∃ W,W=((w1.setRow (w.heap.size+1) #[.int .i64 4]).setRow (w.heap.size+1+1) #[.int .i64 0,.int .i64 0]):=⟨_,rfl⟩
 rw [← hW2] at O1 O2 O4 B2 z2 RW ⊢
 clear hW2 O3 e5 c5 f5
 have c5:W2.cell? ⟨w.heap.size+1,0,none⟩=some (.int .i64 4):=by rw [cell_of_row _ _ 0 _ _ _ O2.out];rfl
 go_upto_region 3 with (fail)
 clear c5
 refine wp_region_held (S:=fun W=>Own W w.heap.size 25 #[.slice none 0 0,.slice none 0 0,.slice none 0 0]∧Own W (w.heap.size+1) 32 #[.int .i64 4]) (by kernel_rfl) ?_
 change wpAnyH _ _ _ _ _ _ _ _ W2.drew
 have o1:Own W2.drew _ _ _:=O1.out
 have o2:Own W2.drew _ _ _:=O2.out
 have o4:Own W2.drew _ _ _:=O4.out
 have B3:=B2.out.drew
 generalize W2.drew=W3 at o1 o2 o4 B3 ⊢
 have S3:=And.intro o1 o2
 refine dr_take 0 (.agg #[.slice none 0 0,.slice none 0 0,.slice none 0 0]) rfl rfl (by kernel_rfl) (by kernel_rfl) (by kernel_rfl) (fun c a w h=>post_put rfl (by decide) c a w _ h) (fun W h=>run_ld rowPg rfl rfl h.1 rfl) S3 ?_
 change wpAnyH _ _ _ _ _ _ _ { tmps:=#[_,_,_,_,_,_,_,_,_,_,_,_,_,_,_,_,_,_,_,_,_,_,_,_,_,_,_,_,_,_,_,_,_,_,_,_,_,_],defers:=[] } _
 refine dr_take 1 (.int .i64 4) rfl rfl (by kernel_rfl) (by kernel_rfl) (by kernel_rfl) (fun c a w h=>post_put rfl (by decide) c a w _ h) (fun W h=>run_ld_err rfl rfl h.2) S3 ?_
 change wpAnyH _ _ _ _ _ _ _ { tmps:=#[_,_,_,_,_,_,_,_,_,_,_,_,_,_,_,_,_,_,_,_,_,_,_,_,_,_,_,_,_,_,_,_,_,_,_,_,_,_],defers:=[] } _
 refine dr_take 2 (.agg #[.int .i64 0,.int .i64 0]) rfl rfl (by kernel_rfl) (by kernel_rfl) (by kernel_rfl) (fun c a w h=>post_put rfl (by decide) c a w _ h) (fun W h=>by unfold execOp;go_simp) S3 ?_
 change wpAnyH _ _ _ _ _ _ _ { tmps:=#[_,_,_,_,_,_,_,_,_,_,_,_,_,_,_,_,_,_,_,_,_,_,_,_,_,_,_,_,_,_,_,_,_,_,_,_,_,_],defers:=[] } _
 refine dr_one 3 rfl rfl (by kernel_rfl) ?_
 refine wp_st_row (cs:=#[.slice none 0 0,.slice none 0 0,.slice none 0 0]) rowPg rfl o1 rfl rfl rfl rfl (by kernel_rfl) ?_
 have o1:=o1.row #[.slice none 0 0,.slice none 0 0,.slice none 0 0]
 have o2:=o2.other (g:=w.heap.size) #[.slice none 0 0,.slice none 0 0,.slice none 0 0] (by omega)
 have o4:=o4.other (g:=w.heap.size) #[.slice none 0 0,.slice none 0 0,.slice none 0 0] (by omega)
 have B3:=Below.of_row B3 (g:=w.heap.size) (by omega) #[.slice none 0 0,.slice none 0 0,.slice none 0 0]
 refine ⟨⟨o1,o2⟩,?_⟩
 change wpAnyH _ _ _ _ _ _ _ { tmps:=#[_,_,_,_,_,_,_,_,_,_,_,_,_,_,_,_,_,_,_,_,_,_,_,_,_,_,_,_,_,_,_,_,_,_,_,_,_,_],defers:=[] } _
 refine dr_one 4 rfl rfl (by kernel_rfl) ?_
 refine wp_st_errv (u:=4) rfl rfl rfl (by rw [cell_of_row _ _ 0 _ _ _ o2];rfl) (own_frozen o2 0) ?_
 rw [show (W3.setRow w.heap.size #[.slice none 0 0,.slice none 0 0,.slice none 0 0]).setCell ⟨w.heap.size+1,0,none⟩ (.int .i64 4)=(W3.setRow w.heap.size #[.slice none 0 0,.slice none 0 0,.slice none 0 0]).setRow (w.heap.size+1) #[.int .i64 4] from setCell_row o2 0 _]
 have o1:=o1.other (g:=w.heap.size+1) #[.int .i64 4] (by omega)
 have o2:=o2.row #[.int .i64 4]
 have o4:=o4.other (g:=w.heap.size+1) #[.int .i64 4] (by omega)
 have B3:=Below.of_row B3 (g:=w.heap.size+1) (by omega) #[.int .i64 4]
 refine ⟨⟨o1,o2⟩,?_⟩
 change wpAnyH _ _ _ _ _ _ _ { tmps:=#[_,_,_,_,_,_,_,_,_,_,_,_,_,_,_,_,_,_,_,_,_,_,_,_,_,_,_,_,_,_,_,_,_,_,_,_,_,_],defers:=[] } _
 refine dr_one 5 rfl rfl (by kernel_rfl) ?_
 refine wp_st_row (cs:=#[.int .i64 0,.int .i64 0]) rowFl rfl o4 rfl rfl rfl rfl (by kernel_rfl) ?_
 have o1:=Lib.hid (o1.other (g:=w.heap.size+1+1) #[.int .i64 0,.int .i64 0] (by omega))
 have o2:=Lib.hid (o2.other (g:=w.heap.size+1+1) #[.int .i64 0,.int .i64 0] (by omega))
 have o4:=Lib.hid (o4.row #[.int .i64 0,.int .i64 0])
 have B3:=Lib.hid (Below.of_row B3 (g:=w.heap.size+1+1) (by omega) #[.int .i64 0,.int .i64 0])
 refine ⟨⟨o1.out,o2.out⟩,?_⟩
 clear S3
 refine wpAnyH_done (by kernel_rfl) ?_ _
 go_wp2_with fail
 refine ⟨_,res3 rfl rfl rfl rfl (lv_row rowPg o1.out rfl) (lv_err o2.out) (lv_row rowFl o4.out rfl),B3.out,?_⟩
 rw [HR.out]
 exact ⟨_,rfl,rfl⟩
theorem wh_lex_P (s:ByteArray) {w:World} (T:LTabs w) (TW:Tabs w) (hl:¬ 65536<s.size) (hf:¬ (frontR s).2.2=0) :
 Calls Tryz.prog 23 #[.string s,.func (.func 24) #[] #[]] w (WhPost w zPg pgR (wholeR (fun L ts=>progP fnd L (fuel ts) ts) s)):=by
 obtain ⟨R,hR⟩:∃ R,R=wholeR (fun L ts=>progP fnd L (fuel ts) ts) s:=⟨_,rfl⟩
 rw [← hR]
 obtain ⟨pa,hpa⟩:∃ a,a=(frontR s).2.1:=⟨_,rfl⟩
 obtain ⟨ru,hru⟩:∃ a,a=(frontR s).2.2:=⟨_,rfl⟩
 have HR:Hid (R=(none,30,pa,1)):=by rw [Hid,hR,hpa];unfold wholeR;rw [if_neg hl,if_pos hf]
 clear hR
 have HT:=Lib.hid (And.intro T TW)
 have HSC:Hid (∀ W,LTabs W→Calls Tryz.prog 48 #[.string s] W fun e w'=>∃ u,e=.returned (.tuple #[u,.int .i64 20,.agg #[.int .i64 pa,.int .i64 ru]])∧w'.ownsRow W.heap.size 111 4 u (scanX s).1.length (rowR (scanX s).1)∧(u=.slice none 0 0↔(scanX s).1=[])∧Below W.heap.size W w'):=fun W TW=>by have:=scan_row s TW;rw [scan_lex hl hf] at this ⊢;rw [hpa,hru];exact this
 clear hpa hru hf hl
 have O1:=((Own.new w 25 zPg).alloc (.cells #[.int .i64 0] 32)).alloc (.cells #[.int .i64 0,.int .i64 0] 36)
 have O2:=(Own.new (w.alloc (.cells zPg 25)) 32 #[.int .i64 0]).alloc (.cells #[.int .i64 0,.int .i64 0] 36)
 have O3:=Own.new ((w.alloc (.cells zPg 25)).alloc (.cells #[.int .i64 0] 32)) 36 #[.int .i64 0,.int .i64 0]
 have B0:Below w.heap.size w (((w.alloc (.cells zPg 25)).alloc (.cells #[.int .i64 0] 32)).alloc (.cells #[.int .i64 0,.int .i64 0] 36)):=(((Below.refl _ w).alloc (Nat.le_refl _) _).alloc (by simp only [World.size_alloc];omega) _).alloc (by simp only [World.size_alloc];omega) _
 have z0:Hid ((((w.alloc (.cells zPg 25)).alloc (.cells #[.int .i64 0] 32)).alloc (.cells #[.int .i64 0,.int .i64 0] 36)).heap.size=w.heap.size+3):=by simp only [Hid,World.size_alloc]
 rw [World.size_alloc] at O2
 rw [World.size_alloc,World.size_alloc] at O3
 have hmf:∀ (fn:Fn) (first cap:Array Value) (w:World),(Instr.makeFunc fn first cap).run Tryz.prog w=.ok (.func fn first cap) w:=fun _ _ _ _=>rfl
 clear T TW
 unfold zPg at *
 go_enter_defers Tryz.func23,Tryz.ntmps23
 go_wp2_with fail
 obtain ⟨W0,hW0⟩:∃ W,W=(((w.alloc (.cells #[.slice none 0 0,.slice none 0 0,.slice none 0 0] 25)).alloc (.cells #[.int .i64 0] 32)).alloc (.cells #[.int .i64 0,.int .i64 0] 36)):=⟨_,rfl⟩
 rw [← hW0] at O1 O2 O3 B0 z0 ⊢
 clear hW0
 go_at_call 48
 refine (HSC.out _ (HT.out.1.below (Nat.le_refl _) B0)).mono ?_
 rintro e w1 ⟨u,rfl,hrow,hnil,hb1⟩
 have O1:=O1.below hb1
 have O2:=O2.below hb1
 have O3:=O3.below hb1
 have B1:=Lib.hid (B0.trans (hb1.mono (by have:=z0.out;omega)))
 have z1:Hid (w.heap.size+3≤w1.heap.size):=by have:=hb1.size;have:=z0.out;simp only [Hid];omega
 have e5:w1.setCell ⟨w.heap.size+1,0,none⟩ (.int .i64 20)=w1.setRow (w.heap.size+1) #[.int .i64 20]:=setCell_row O2 0 _
 have O1:=O1.other (g:=w.heap.size+1) #[.int .i64 20] (by omega)
 have O2':=O2.row #[.int .i64 20]
 have O3:=O3.other (g:=w.heap.size+1) #[.int .i64 20] (by omega)
 have c5:w1.cell? ⟨w.heap.size+1,0,none⟩=some (.int .i64 0):=by rw [cell_of_row _ _ 0 _ _ _ O2];rfl
 have f5:=own_frozen O2 0
 have O1:=Lib.hid (O1.other (g:=w.heap.size+1+1) #[.int .i64 pa,.int .i64 ru] (by omega))
 have O2:=Lib.hid (O2'.other (g:=w.heap.size+1+1) #[.int .i64 pa,.int .i64 ru] (by omega))
 have O4:=Lib.hid (O3.row #[.int .i64 pa,.int .i64 ru])
 have B2:=Lib.hid (Below.of_row (Below.of_row B1.out (g:=w.heap.size+1) (by omega) #[.int .i64 20]) (g:=w.heap.size+1+1) (by omega) #[.int .i64 pa,.int .i64 ru])
 have z2:Hid (((w1.setRow (w.heap.size+1) #[.int .i64 20]).setRow (w.heap.size+1+1) #[.int .i64 pa,.int .i64 ru]).heap.size=w1.heap.size):=by rw [Hid,size_setRow,size_setRow]
 have RW:Hid (((w1.setRow (w.heap.size+1) #[.int .i64 20]).setRow (w.heap.size+1+1) #[.int .i64 pa,.int .i64 ru]).ownsRow (w.heap.size+3) 111 4 u (scanX s).1.length (rowR (scanX s).1)):=by
  have hrow:=ownsRow_base hrow (base':=w.heap.size+3) (by have:=z0.out;omega)
  exact row_row (row_row hrow _ (fun e=>by have:=(hrow.lt _ e).1;omega)) _ (fun e=>by have:=(hrow.lt _ e).1;omega)
 clear hrow B0 O2' z0 hb1
 have HNIL:=Lib.hid hnil
 clear hnil
 go_upto_region 2 with (first | (refine st rowFl rfl rfl O3 rfl rfl (by rfl) (by rfl) (by kernel_rfl) ?_))
 obtain ⟨W2,hW2⟩:∃ W,W=((w1.setRow (w.heap.size+1) #[.int .i64 20]).setRow (w.heap.size+1+1) #[.int .i64 pa,.int .i64 ru]):=⟨_,rfl⟩
 rw [← hW2] at O1 O2 O4 B2 z2 RW ⊢
 clear hW2 O3 e5 c5 f5
 have c5:W2.cell? ⟨w.heap.size+1,0,none⟩=some (.int .i64 20):=by rw [cell_of_row _ _ 0 _ _ _ O2.out];rfl
 go_upto_region 5 with (fail)
 clear c5
 refine wp_region_held (S:=fun W=>Own W w.heap.size 25 #[.slice none 0 0,.slice none 0 0,.slice none 0 0]∧W.cell? ⟨w.heap.size+1+1,0,none⟩=some (.int .i64 pa)) (by kernel_rfl) ?_
 change wpAnyH _ _ _ _ _ _ _ _ W2.drew
 have o1:Own W2.drew _ _ _:=O1.out
 have o2:Own W2.drew _ _ _:=O2.out
 have o4:Own W2.drew _ _ _:=O4.out
 have B3:=B2.out.drew
 generalize W2.drew=W3 at o1 o2 o4 B3 ⊢
 have S3:Own W3 w.heap.size 25 #[.slice none 0 0,.slice none 0 0,.slice none 0 0]∧W3.cell? ⟨w.heap.size+1+1,0,none⟩=some (.int .i64 pa):=⟨o1,by rw [cell_of_row _ _ 0 _ _ _ o4];rfl⟩
 refine dr_take 0 (.agg #[.slice none 0 0,.slice none 0 0,.slice none 0 0]) rfl rfl (by kernel_rfl) (by kernel_rfl) (by kernel_rfl) (fun c a w h=>post_put rfl (by decide) c a w _ h) (fun W h=>run_ld rowPg rfl rfl h.1 rfl) S3 ?_
 change wpAnyH _ _ _ _ _ _ _ { tmps:=#[_,_,_,_,_,_,_,_,_,_,_,_,_,_,_,_,_,_,_,_,_,_,_,_,_,_,_,_,_,_,_,_,_,_,_,_,_,_],defers:=[] } _
 refine dr_take 1 (.pointer (some ⟨w.heap.size+1+1,0,none⟩)) rfl rfl (by kernel_rfl) (by kernel_rfl) (by kernel_rfl) (fun c a w h=>post_put rfl (by decide) c a w _ h) (fun W h=>by unfold execOp;go_simp) S3 ?_
 change wpAnyH _ _ _ _ _ _ _ { tmps:=#[_,_,_,_,_,_,_,_,_,_,_,_,_,_,_,_,_,_,_,_,_,_,_,_,_,_,_,_,_,_,_,_,_,_,_,_,_,_],defers:=[] } _
 refine dr_take 2 (.int .i64 pa) rfl rfl (by kernel_rfl) (by kernel_rfl) (by kernel_rfl) (fun c a w h=>post_put rfl (by decide) c a w _ h) (fun W h=>run_ld_int rfl rfl h.2) S3 ?_
 change wpAnyH _ _ _ _ _ _ _ { tmps:=#[_,_,_,_,_,_,_,_,_,_,_,_,_,_,_,_,_,_,_,_,_,_,_,_,_,_,_,_,_,_,_,_,_,_,_,_,_,_],defers:=[] } _
 refine dr_take 3 (.agg #[.int .i64 pa,.int .i64 1]) rfl rfl (by kernel_rfl) (by kernel_rfl) (by kernel_rfl) (fun c a w h=>post_put rfl (by decide) c a w _ h) (fun W h=>by unfold execOp;go_simp) S3 ?_
 change wpAnyH _ _ _ _ _ _ _ { tmps:=#[_,_,_,_,_,_,_,_,_,_,_,_,_,_,_,_,_,_,_,_,_,_,_,_,_,_,_,_,_,_,_,_,_,_,_,_,_,_],defers:=[] } _
 refine dr_one 4 rfl rfl (by kernel_rfl) ?_
 refine wp_st_row (cs:=#[.slice none 0 0,.slice none 0 0,.slice none 0 0]) rowPg rfl o1 rfl rfl rfl rfl (by kernel_rfl) ?_
 have o1:=o1.row #[.slice none 0 0,.slice none 0 0,.slice none 0 0]
 have o2:=o2.other (g:=w.heap.size) #[.slice none 0 0,.slice none 0 0,.slice none 0 0] (by omega)
 have o4:=o4.other (g:=w.heap.size) #[.slice none 0 0,.slice none 0 0,.slice none 0 0] (by omega)
 have B3:=Below.of_row B3 (g:=w.heap.size) (by omega) #[.slice none 0 0,.slice none 0 0,.slice none 0 0]
 refine ⟨⟨o1,by rw [cell_of_row _ _ 0 _ _ _ o4];rfl⟩,?_⟩
 change wpAnyH _ _ _ _ _ _ _ { tmps:=#[_,_,_,_,_,_,_,_,_,_,_,_,_,_,_,_,_,_,_,_,_,_,_,_,_,_,_,_,_,_,_,_,_,_,_,_,_,_],defers:=[] } _
 refine dr_one 5 rfl rfl (by kernel_rfl) ?_
 refine wp_st_err (u:=20) rfl rfl (by rw [cell_of_row _ _ 0 _ _ _ o2];rfl) (own_frozen o2 0) ?_
 rw [show (W3.setRow w.heap.size #[.slice none 0 0,.slice none 0 0,.slice none 0 0]).setCell ⟨w.heap.size+1,0,none⟩ (.int .i64 30)=(W3.setRow w.heap.size #[.slice none 0 0,.slice none 0 0,.slice none 0 0]).setRow (w.heap.size+1) #[.int .i64 30] from setCell_row o2 0 _]
 have o1:=o1.other (g:=w.heap.size+1) #[.int .i64 30] (by omega)
 have o2:=o2.row #[.int .i64 30]
 have o4:=o4.other (g:=w.heap.size+1) #[.int .i64 30] (by omega)
 have B3:=Below.of_row B3 (g:=w.heap.size+1) (by omega) #[.int .i64 30]
 refine ⟨⟨o1,by rw [cell_of_row _ _ 0 _ _ _ o4];rfl⟩,?_⟩
 change wpAnyH _ _ _ _ _ _ _ { tmps:=#[_,_,_,_,_,_,_,_,_,_,_,_,_,_,_,_,_,_,_,_,_,_,_,_,_,_,_,_,_,_,_,_,_,_,_,_,_,_],defers:=[] } _
 refine dr_one 6 rfl rfl (by kernel_rfl) ?_
 refine wp_st_row (cs:=#[.int .i64 pa,.int .i64 1]) rowFl rfl o4 rfl rfl rfl rfl (by kernel_rfl) ?_
 have o1:=Lib.hid (o1.other (g:=w.heap.size+1+1) #[.int .i64 pa,.int .i64 1] (by omega))
 have o2:=Lib.hid (o2.other (g:=w.heap.size+1+1) #[.int .i64 pa,.int .i64 1] (by omega))
 have o4:=Lib.hid (o4.row #[.int .i64 pa,.int .i64 1])
 have B3:=Lib.hid (Below.of_row B3 (g:=w.heap.size+1+1) (by omega) #[.int .i64 pa,.int .i64 1])
 refine ⟨⟨o1.out,by rw [cell_of_row _ _ 0 _ _ _ o4.out];rfl⟩,?_⟩
 clear S3
 refine wpAnyH_done (by kernel_rfl) ?_ _
 go_wp2_with fail
 refine ⟨_,res3 rfl rfl rfl rfl (lv_row rowPg o1.out rfl) (lv_err o2.out) (lv_row rowFl o4.out rfl),B3.out,?_⟩
 rw [HR.out]
 exact ⟨_,rfl,rfl⟩
theorem wh_go_P (s:ByteArray) {w:World} (T:LTabs w) (TW:Tabs w) (hl:¬ 65536<s.size) (hf:(frontR s).2.2=0) :
 Calls Tryz.prog 23 #[.string s,.func (.func 24) #[] #[]] w (WhPost w zPg pgR (wholeR (fun L ts=>progP fnd L (fuel ts) ts) s)):=by
 obtain ⟨R,hR⟩:∃ R,R=wholeR (fun L ts=>progP fnd L (fuel ts) ts) s:=⟨_,rfl⟩
 rw [← hR]
 obtain ⟨toks,hto⟩:∃ l,l=(scanX s).1:=⟨_,rfl⟩
 obtain ⟨Y,hY⟩:∃ Y,Y=progP fnd (s.size:Int) (fuel (toks.map Res.tk)) (toks.map Res.tk):=⟨_,rfl⟩
 have HR:Hid (R=endR (endP Y)):=by rw [Hid,hR,hY,hto];unfold wholeR;rw [if_neg hl,if_neg (by simpa using hf)]
 have HTK:Hid (toks.length≤65536∧s.size≤65536∧∀ x∈toks,0≤x.wd∧x.wd≤9223372036854775807):=⟨by rw [hto];exact scanX_len s,by omega,by rw [hto];exact scanX_wd s⟩
 clear hR
 have HT:=Lib.hid (And.intro T TW)
 have HSC:Hid (∀ W,LTabs W→Calls Tryz.prog 48 #[.string s] W fun e w'=>∃ u,e=.returned (.tuple #[u,.int .i64 0,.agg #[.int .i64 0,.int .i64 0]])∧w'.ownsRow W.heap.size 111 4 u (scanX s).1.length (rowR (scanX s).1)∧(u=.slice none 0 0↔(scanX s).1=[])∧Below W.heap.size W w'):=fun W TW=>by have:=scan_row s TW;rw [scan_toks hl hf] at this ⊢;exact this
 have O1:=((Own.new w 25 zPg).alloc (.cells #[.int .i64 0] 32)).alloc (.cells #[.int .i64 0,.int .i64 0] 36)
 have O2:=(Own.new (w.alloc (.cells zPg 25)) 32 #[.int .i64 0]).alloc (.cells #[.int .i64 0,.int .i64 0] 36)
 have O3:=Own.new ((w.alloc (.cells zPg 25)).alloc (.cells #[.int .i64 0] 32)) 36 #[.int .i64 0,.int .i64 0]
 have B0:Below w.heap.size w (((w.alloc (.cells zPg 25)).alloc (.cells #[.int .i64 0] 32)).alloc (.cells #[.int .i64 0,.int .i64 0] 36)):=(((Below.refl _ w).alloc (Nat.le_refl _) _).alloc (by simp only [World.size_alloc];omega) _).alloc (by simp only [World.size_alloc];omega) _
 have z0:Hid ((((w.alloc (.cells zPg 25)).alloc (.cells #[.int .i64 0] 32)).alloc (.cells #[.int .i64 0,.int .i64 0] 36)).heap.size=w.heap.size+3):=by simp only [Hid,World.size_alloc]
 rw [World.size_alloc] at O2
 rw [World.size_alloc,World.size_alloc] at O3
 have hmf:∀ (fn:Fn) (first cap:Array Value) (w:World),(Instr.makeFunc fn first cap).run Tryz.prog w=.ok (.func fn first cap) w:=fun _ _ _ _=>rfl
 clear T TW
 unfold zPg at *
 rw [← hto] at HSC
 clear hl hf hto
 have HY:=Lib.hid hY
 clear hY
 go_enter_defers Tryz.func23,Tryz.ntmps23
 go_wp2_with fail
 obtain ⟨W0,hW0⟩:∃ W,W=(((w.alloc (.cells #[.slice none 0 0,.slice none 0 0,.slice none 0 0] 25)).alloc (.cells #[.int .i64 0] 32)).alloc (.cells #[.int .i64 0,.int .i64 0] 36)):=⟨_,rfl⟩
 rw [← hW0] at O1 O2 O3 B0 z0 ⊢
 clear hW0
 go_at_call 48
 refine (HSC.out _ (HT.out.1.below (Nat.le_refl _) B0)).mono ?_
 rintro e w1 ⟨u,rfl,hrow,hnil,hb1⟩
 have O1:=O1.below hb1
 have O2:=O2.below hb1
 have O3:=O3.below hb1
 have B1:=Lib.hid (B0.trans (hb1.mono (by have:=z0.out;omega)))
 have z1:Hid (w.heap.size+3≤w1.heap.size):=by have:=hb1.size;have:=z0.out;simp only [Hid];omega
 have e5:w1.setCell ⟨w.heap.size+1,0,none⟩ (.int .i64 0)=w1.setRow (w.heap.size+1) #[.int .i64 0]:=setCell_row O2 0 _
 have O1:=O1.other (g:=w.heap.size+1) #[.int .i64 0] (by omega)
 have O2':=O2.row #[.int .i64 0]
 have O3:=O3.other (g:=w.heap.size+1) #[.int .i64 0] (by omega)
 have c5:w1.cell? ⟨w.heap.size+1,0,none⟩=some (.int .i64 0):=by rw [cell_of_row _ _ 0 _ _ _ O2];rfl
 have f5:=own_frozen O2 0
 have O1:=Lib.hid (O1.other (g:=w.heap.size+1+1) #[.int .i64 0,.int .i64 0] (by omega))
 have O2:=Lib.hid (O2'.other (g:=w.heap.size+1+1) #[.int .i64 0,.int .i64 0] (by omega))
 have O4:=Lib.hid (O3.row #[.int .i64 0,.int .i64 0])
 have B2:=Lib.hid (Below.of_row (Below.of_row B1.out (g:=w.heap.size+1) (by omega) #[.int .i64 0]) (g:=w.heap.size+1+1) (by omega) #[.int .i64 0,.int .i64 0])
 have z2:Hid (((w1.setRow (w.heap.size+1) #[.int .i64 0]).setRow (w.heap.size+1+1) #[.int .i64 0,.int .i64 0]).heap.size=w1.heap.size):=by rw [Hid,size_setRow,size_setRow]
 have RW:Hid (((w1.setRow (w.heap.size+1) #[.int .i64 0]).setRow (w.heap.size+1+1) #[.int .i64 0,.int .i64 0]).ownsRow (w.heap.size+3) 111 4 u toks.length (rowR toks)):=by
  have hrow:=ownsRow_base hrow (base':=w.heap.size+3) (by have:=z0.out;omega)
  exact row_row (row_row hrow _ (fun e=>by have:=(hrow.lt _ e).1;omega)) _ (fun e=>by have:=(hrow.lt _ e).1;omega)
 clear hrow B0 O2' z0 hb1
 have HNIL:=Lib.hid hnil
 clear hnil
 go_upto_region 2 with (first | (refine st rowFl rfl rfl O3 rfl rfl (by rfl) (by rfl) (by kernel_rfl) ?_))
 obtain ⟨W2,hW2⟩:∃ W,W=((w1.setRow (w.heap.size+1) #[.int .i64 0]).setRow (w.heap.size+1+1) #[.int .i64 0,.int .i64 0]):=⟨_,rfl⟩
 rw [← hW2] at O1 O2 O4 B2 z2 RW ⊢
 clear hW2 O3 e5 c5 f5
 have c5:W2.cell? ⟨w.heap.size+1,0,none⟩=some (.int .i64 0):=by rw [cell_of_row _ _ 0 _ _ _ O2.out];rfl
 obtain ⟨oa,cap,rfl,hoa⟩:=row_shape RW.out
 have HLT:Hid (∀ g off,oa=some ⟨g,off,none⟩→w.heap.size+3≤g∧g<W2.heap.size):=by
  intro g off e
  subst e
  rcases RW.out.2 with ⟨h,_⟩ | ⟨g',cap',cur,h,h2,h3,_⟩
  · cases h
  · cases h
    exact ⟨h2,(Array.getElem?_eq_some_iff.1 h3).1⟩
 have LT2:=Lib.hid (HT.out.2.below (Nat.le_refl _) B2.out)
 have HNW:=Lib.hid (p_new (L:=s.size) (tokRow_owns RW.out) (fun g off e=>(HLT.out g off e).2) LT2.out HTK.out)
 obtain ⟨c,hc⟩:∃ c,c=newC W2 oa cap toks s.size:=⟨_,rfl⟩
 rw [← hc] at HNW
 have HC:=Lib.hid hc
 have z3:Hid (w.heap.size+3≤W2.heap.size):=by have:=z1.out;have:=z2.out;simp only [Hid];omega
 have cX:Hid (c.X=W2.heap.size):=by rw [hc];rfl
 have cL:Hid (c.L=s.size∧c.at 0=toks.map Res.tk):=by rw [hc];exact ⟨rfl,rfl⟩
 have HEX:Hid (∀ W,Rd c W 0→Calls Tryz.prog 24 #[c.ptr] W (RdPost c W Y (fun p v w'=>pgR W.heap.size p v w'))):=fun W RW=>by
  have:=p_program (n:=fuel (toks.map Res.tk)) RW (by rw [cL.out.2];unfold fuel;omega)
  rw [cL.out.2,cL.out.1] at this
  rw [HY.out]
  exact this
 have HEN:Hid (∀ W k,Rd c W k→Calls Tryz.prog 51 #[c.ptr] W fun e w'=>Fr c W w'∧e=match c.at k with | []=>.returned (.tuple #[]) | t::_=>.panicked (flt t.pos 2)):=fun W k RW=>p_end RW
 have HRW:Hid (∀ W k cs,Rd c W k→Rd c (W.setRow w.heap.size cs) k):=fun W k cs RW=>RW.setRow cs (by rw [hc];simp only [newC];have:=z3.out;omega) (fun b off e=>by have:=(HLT.out b off (by rw [hc] at e;exact e)).1;omega) (by have h1:=HT.out.2.size1;have h2:=HT.out.2.size2;omega)
 clear hc hoa
 unfold Par.ptr at *
 go_wp2_with fail
 go_at_call 50
 refine HNW.out.mono ?_
 rintro e w3 ⟨rfl,hb3,hR3⟩
 have O1:=Lib.hid (O1.out.below hb3)
 have O2:=Lib.hid (O2.out.below hb3)
 have O4:=Lib.hid (O4.out.below hb3)
 have B3:=Lib.hid (B2.out.trans (hb3.mono (by have:=z3.out;omega)))
 have R3:=Lib.hid hR3
 have z4:Hid (w.heap.size+3≤w3.heap.size):=by have:=hb3.size;have:=z3.out;simp only [Hid];omega
 clear hb3 hR3 c5
 go_wp2_with fail
 go_at_call 24
 refine (HEX.out _ R3.out).mono ?_
 rintro e w4 ⟨hf4,hm⟩
 have xX:Hid (c.X≠w.heap.size∧c.X≠w.heap.size+1∧c.X≠w.heap.size+1+1∧w.heap.size≤c.X):=by have:=z3.out;have:=cX.out;simp only [Hid];omega
 have O1:=Lib.hid (O1.out.fr hf4 xX.out.1)
 have O2:=Lib.hid (O2.out.fr hf4 xX.out.2.1)
 have O4:=Lib.hid (O4.out.fr hf4 xX.out.2.2.1)
 have B4:Hid (Below w.heap.size w w4):=B3.out.trans (fr_below hf4 xX.out.2.2.2 (by have:=z4.out;omega))
 rcases Y with ⟨x,r⟩ | ⟨p,q⟩
 rotate_left
 · obtain rfl := hm
   clear hf4
   go_wp2_with fail
   refine leaves_cons (f:=49) (args:=#[.pointer (some ⟨w.heap.size,0,none⟩),.pointer (some ⟨w.heap.size+1,0,none⟩),.pointer (some ⟨w.heap.size+1+1,0,none⟩)]) (by simp) (by simp [go_sem]) ?_
   refine (catch_pg (n:=w.heap.size) O1.out rfl O2.out O4.out rfl (by omega) (by omega)).mono ?_
   rintro e u' w5 ⟨rfl,rfl,q1,q2,q3,hb⟩
   refine ⟨_,res3 rfl rfl rfl rfl (lv_row rowPg q1 rfl) (lv_err q2) (lv_row rowFl q3 rfl),B4.out.trans hb,?_⟩
   rw [HR.out]
   exact ⟨_,rfl,rfl⟩
 obtain ⟨v,k4,rfl,hV,hR4,rfl⟩:=hm
 have z5:Hid (w.heap.size+3≤w4.heap.size∧w3.heap.size≤w4.heap.size):=by have:=Keep.size hf4;have:=z4.out;simp only [Hid];omega
 have HV:=Lib.hid hV
 obtain ⟨a1,c1,a2,c2,a3,c3,rfl,_⟩:=hV
 obtain ⟨VV,hVV⟩:∃ VV:Array Value,VV=#[.slice a1 x.shared.length c1,.slice a2 x.locks.length c2,.slice a3 x.threads.length c3]:=⟨_,rfl⟩
 have VS:Hid (VV.size=zPg.size):=by rw [hVV];rfl
 have P1:=Lib.hid (O1.out.row VV)
 have P2:=Lib.hid (O2.out.other (g:=w.heap.size) VV (by omega))
 have P4:=Lib.hid (O4.out.other (g:=w.heap.size) VV (by omega))
 have B5:=Lib.hid (Below.of_row B4.out (g:=w.heap.size) (Nat.le_refl _) VV)
 have R5:=Lib.hid (HRW.out _ _ VV hR4)
 have V5:Hid (pgR w3.heap.size x (.agg VV) (w4.setRow w.heap.size VV)):=by rw [hVV];exact pgR_stays HV.out (stays_row w4 _ (fun b hb=>by have:=z4.out;omega)) (Nat.le_refl _)
 clear hf4 hR4
 have o1:=O1.out
 subst hVV
 go_wp2_with (first | (refine st rowPg rfl rfl o1 rfl rfl (by rfl) (by rfl) (by kernel_rfl) ?_))
 clear o1
 go_at_call 51
 refine (HEN.out _ _ R5.out).mono ?_
 rintro e w6 ⟨hf6,he⟩
 have z6:Hid (w.heap.size+3≤w6.heap.size):=by have:=Keep.size hf6;rw [size_setRow] at this;have:=z5.out;simp only [Hid];omega
 have P1:=Lib.hid (P1.out.fr hf6 xX.out.1)
 have P2:=Lib.hid (P2.out.fr hf6 xX.out.2.1)
 have P4:=Lib.hid (P4.out.fr hf6 xX.out.2.2.1)
 have B6:Hid (Below w.heap.size w w6):=B5.out.trans (fr_below hf6 xX.out.2.2.2 (by rw [size_setRow];have:=z5.out;omega))
 have V6:Hid (pgR w3.heap.size x (.agg #[.slice a1 x.shared.length c1,.slice a2 x.locks.length c2,.slice a3 x.threads.length c3]) w6):=pgR_stays V5.out (stays_fr hf6 (fun b hb=>by have h1:=hb;have h2:=R3.out.lt;change w3.heap.size≤b at h1;omega)) (Nat.le_refl _)
 have HR:Hid (R=match c.at k4 with | []=>(some x,0,0,0) | t::_=>(none,30,t.pos,2)):=by
  rw [Hid,HR.out]
  show endR (match c.at k4 with | []=>PR.ok x [] | t::_=>PR.bad t.pos 2)=_
  cases c.at k4 <;> rfl
 clear hf6
 generalize c.at k4=ts at he HR
 cases ts with
 | cons t r =>
   subst he
   go_wp2_with fail
   refine leaves_cons (f:=49) (args:=#[.pointer (some ⟨w.heap.size,0,none⟩),.pointer (some ⟨w.heap.size+1,0,none⟩),.pointer (some ⟨w.heap.size+1+1,0,none⟩)]) (by simp) (by simp [go_sem]) ?_
   refine (catch_pg (n:=w.heap.size) P1.out VS.out P2.out P4.out rfl (by omega) (by omega)).mono ?_
   rintro e u' w7 ⟨rfl,rfl,q1,q2,q3,hb⟩
   refine ⟨_,res3 rfl rfl rfl rfl (lv_row rowPg q1 rfl) (lv_err q2) (lv_row rowFl q3 rfl),B6.out.trans hb,?_⟩
   rw [HR.out]
   exact ⟨_,rfl,rfl⟩
 | nil =>
   subst he
   have p1:=P1.out
   have e7:(w6.setRow w.heap.size #[.slice a1 x.shared.length c1,.slice a2 x.locks.length c2,.slice a3 x.threads.length c3]).setCell ⟨w.heap.size+1,0,none⟩ (.int .i64 0)=(w6.setRow w.heap.size #[.slice a1 x.shared.length c1,.slice a2 x.locks.length c2,.slice a3 x.threads.length c3]).setRow (w.heap.size+1) #[.int .i64 0]:=setCell_row (P2.out.other (g:=w.heap.size) #[.slice a1 x.shared.length c1,.slice a2 x.locks.length c2,.slice a3 x.threads.length c3] (by omega)) 0 _
   have c7:(w6.setRow w.heap.size #[.slice a1 x.shared.length c1,.slice a2 x.locks.length c2,.slice a3 x.threads.length c3]).cell? ⟨w.heap.size+1,0,none⟩=some (.int .i64 0):=by rw [cell_of_row _ _ 0 _ _ _ (P2.out.other (g:=w.heap.size) #[.slice a1 x.shared.length c1,.slice a2 x.locks.length c2,.slice a3 x.threads.length c3] (by omega))];rfl
   have f7:=own_frozen (P2.out.other (g:=w.heap.size) #[.slice a1 x.shared.length c1,.slice a2 x.locks.length c2,.slice a3 x.threads.length c3] (by omega)) 0
   have q1:=Lib.hid (((P1.out.row #[.slice a1 x.shared.length c1,.slice a2 x.locks.length c2,.slice a3 x.threads.length c3]).other (g:=w.heap.size+1) #[.int .i64 0] (by omega)).other (g:=w.heap.size+1+1) #[.int .i64 0,.int .i64 0] (by omega))
   have q2:=Lib.hid (((P2.out.other (g:=w.heap.size) #[.slice a1 x.shared.length c1,.slice a2 x.locks.length c2,.slice a3 x.threads.length c3] (by omega)).row #[.int .i64 0]).other (g:=w.heap.size+1+1) #[.int .i64 0,.int .i64 0] (by omega))
   have p4:=(P4.out.other (g:=w.heap.size) #[.slice a1 x.shared.length c1,.slice a2 x.locks.length c2,.slice a3 x.threads.length c3] (by omega)).other (g:=w.heap.size+1) #[.int .i64 0] (by omega)
   have q4:=Lib.hid (p4.row #[.int .i64 0,.int .i64 0])
   have B7:=Lib.hid (Below.of_row (Below.of_row (Below.of_row B6.out (g:=w.heap.size) (Nat.le_refl _) #[.slice a1 x.shared.length c1,.slice a2 x.locks.length c2,.slice a3 x.threads.length c3]) (g:=w.heap.size+1) (by omega) #[.int .i64 0]) (g:=w.heap.size+1+1) (by omega) #[.int .i64 0,.int .i64 0])
   have V7:Hid (pgR w.heap.size x (.agg #[.slice a1 x.shared.length c1,.slice a2 x.locks.length c2,.slice a3 x.threads.length c3]) (((w6.setRow w.heap.size #[.slice a1 x.shared.length c1,.slice a2 x.locks.length c2,.slice a3 x.threads.length c3]).setRow (w.heap.size+1) #[.int .i64 0]).setRow (w.heap.size+1+1) #[.int .i64 0,.int .i64 0])):=pgR_stays V6.out (((stays_row w6 _ (fun b hb=>by have:=z4.out;change w3.heap.size≤b at hb;omega)).trans (stays_row _ _ (fun b hb=>by have:=z4.out;change w3.heap.size≤b at hb;omega))).trans (stays_row _ _ (fun b hb=>by have:=z4.out;change w3.heap.size≤b at hb;omega))) (by have:=z4.out;omega)
   go_wp2_with (first | (refine ld rowPg rfl rfl rfl p1 rfl ?_) | (refine st rowPg rfl rfl p1 rfl rfl (by rfl) (by rfl) (by kernel_rfl) ?_) | (refine st rowFl rfl rfl p4 rfl rfl (by rfl) (by rfl) (by kernel_rfl) ?_))
   refine leaves_cons (f:=49) (args:=#[.pointer (some ⟨w.heap.size,0,none⟩),.pointer (some ⟨w.heap.size+1,0,none⟩),.pointer (some ⟨w.heap.size+1+1,0,none⟩)]) (by simp) (by simp [go_sem]) ?_
   refine (idle_P _ _ _ _).mono ?_
   rintro e u' w8 ⟨rfl,rfl,rfl⟩
   refine ⟨_,res3 rfl rfl rfl rfl (lv_row rowPg q1.out rfl) (lv_err q2.out) (lv_row rowFl q4.out rfl),B7.out,?_⟩
   rw [HR.out]
   exact ⟨_,rfl,V7.out⟩
theorem p_whole_P (s:ByteArray) {w:World} (T:LTabs w) (TW:Tabs w) :
 Calls Tryz.prog 23 #[.string s,.func (.func 24) #[] #[]] w (WhPost w zPg pgR (wholeR (fun L ts=>progP fnd L (fuel ts) ts) s)):=by
 by_cases hl:65536<s.size
 · exact wh_long_P s T TW hl
 · by_cases hf : (frontR s).2.2 = 0
   · exact wh_go_P s T TW hl hf
   · exact wh_lex_P s T TW hl hf
end Go.Proofs.YtggbkldniffbfaaGreatDoor

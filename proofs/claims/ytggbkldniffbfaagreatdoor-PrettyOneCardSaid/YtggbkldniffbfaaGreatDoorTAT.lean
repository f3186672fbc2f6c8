/- The proof, part 20: texts that belong together, in one. -/
import Derived.Test.YtggbkldniffbfaaGreatDoorTAS
import Derived.Recover
import Derived.Tactics2
import Derived.RegionTactic
set_option maxRecDepth 100000
set_option maxHeartbeats 20000000
namespace Go.Proofs.YtggbkldniffbfaaGreatDoor
open Go.RowKit
set_option linter.unusedVariables false
theorem any_eql (T:TypeId) (v:Value) (w:World):(binOp .eql 20 (.iface T v) .nilIface).run Tryz.prog w=.ok (.bool false) w:=by kernel_rfl
theorem any_flt (v:Value) (w:World):(Instr.typeAssert (.iface 36 v) 20 36 true).run Tryz.prog w=.ok (.tuple #[v,.bool true]) w:=by kernel_rfl
theorem any_nil (w:World):(binOp .eql 20 .nilIface .nilIface).run Tryz.prog w=.ok (.bool true) w:=by kernel_rfl
section
variable {o:Oper} {a:Act} {w:World} {K:Act→World→Prop} {Q:Exit→Act→World→Prop}
theorem wp_st_row {T:TypeId} {n:Nat} (hT:RowT T n) {x y:Operand} (ho:o.op=.store T x y) {g:Nat} {cs old:Array Value} (hg:Own w g T old) (hx:a.eval x=.pointer (some ⟨g,0,none⟩)) (hy:a.eval y=.agg cs) (hn:cs.size=n) (hm:old.size=n) (h1:cs.all (·.oneCell')=true)
 (h:K (a.put o.dst undef) (w.setRow g cs)):o.wp Tryz.prog a w K Q:=by
 obtain ⟨d,_,_,h3⟩:=hT
 exact wp_store_row T x y ho g cs hx hy T old hg (by rw [h3,hn]) (by rw [hm,hn]) h1 h
theorem wp_st_err {x:Operand} {z u:Int} (ho:o.op=.store 32 x (.const (.int .i64 z))) {p:Addr} (hx:a.eval x=.pointer (some p)) (hu:w.cell? p=some (.int .i64 u)) (hf:w.frozen? p=false) (h:K (a.put o.dst undef) (w.setCell p (.int .i64 z))):o.wp Tryz.prog a w K Q:=by
 have hrun:(execOp a.eval o).run Tryz.prog w=.ok .skip (w.setCell p (.int .i64 z)):=by
  unfold execOp
  simp only [ho,hx]
  go_simp
 unfold Oper.wp
 rw [hrun]
 exact h
end
theorem catch_pg {w:World} {n t y f:Nat} {ct cf:Array Value} {cy:Int} {p q:Int} {older:List PanicEntry} (h1:Own w t 25 ct) (hs1:ct.size=zPg.size) (h2:Own w y 32 #[.int .i64 cy]) (h3:Own w f 36 cf) (hs3:cf.size=2) (hn:n≤t∧n≤y∧n≤f) (hd:t≠y∧t≠f∧y≠f) :
 CallsD Tryz.prog 49 #[.pointer (some ⟨t,0,none⟩),.pointer (some ⟨y,0,none⟩),.pointer (some ⟨f,0,none⟩)] (.panicking ({ v:=.iface 36 (.agg #[.int .i64 p,.int .i64 q]),recovered:=false } :: older)) w fun e u' w' =>
  e=.returned (.tuple #[])∧u'=.panicking ({ v:=.iface 36 (.agg #[.int .i64 p,.int .i64 q]),recovered:=true } :: older)∧Own w' t 25 zPg∧Own w' y 32 #[.int .i64 30]∧Own w' f 36 #[.int .i64 p,.int .i64 q]∧Below n w w':=by
 refine callsD_of_wpS Tryz.func49 rfl fun c₀ cs hu=>?_
 apply wpS_seq
 apply wpS_region
 simp [wpOpsS,go_sem,recoverD,hu,Tryz.ntmps49,Exit.thenS]
 rw [show (#[.pointer (some ⟨t,0,none⟩),.pointer (some ⟨y,0,none⟩),.pointer (some ⟨f,0,none⟩)]++(((Array.replicate 17 undef).setIfInBounds 4 (.iface 36 (.agg #[.int .i64 p,.int .i64 q]))).setIfInBounds 0 (.iface 36 (.agg #[.int .i64 p,.int .i64 q]))):Array Value)=#[.pointer (some ⟨t,0,none⟩),.pointer (some ⟨y,0,none⟩),.pointer (some ⟨f,0,none⟩),.iface 36 (.agg #[.int .i64 p,.int .i64 q]),undef,undef,undef,.iface 36 (.agg #[.int .i64 p,.int .i64 q]),undef,undef,undef,undef,undef,undef,undef,undef,undef,undef,undef,undef] from by kernel_rfl]
 refine wpS_of_wp ?_
 generalize hQ:(fun e a' w'=>bodyPostS _ _ _ _ _ e a' _ w')=Q
 have F1:=any_eql
 have F2:=any_flt
 go_upto_region 2 with (fail)
 go_upto_region 6 with (fail)
 have l1:=h1.lt
 have l2:=h2.lt
 have l3:=h3.lt
 have OB:=(Own.new w 36 #[.int .i64 p,.int .i64 q]).alloc (.cells #[.slice none 0 0,.slice none 0 0,.slice none 0 0] 25)
 have OE:=Own.new (w.alloc (.cells #[.int .i64 p,.int .i64 q] 36)) 25 #[.slice none 0 0,.slice none 0 0,.slice none 0 0]
 rw [World.size_alloc] at OE
 have o1:=(h1.alloc (.cells #[.int .i64 p,.int .i64 q] 36)).alloc (.cells #[.slice none 0 0,.slice none 0 0,.slice none 0 0] 25)
 have o2:=(h2.alloc (.cells #[.int .i64 p,.int .i64 q] 36)).alloc (.cells #[.slice none 0 0,.slice none 0 0,.slice none 0 0] 25)
 have o3:=(h3.alloc (.cells #[.int .i64 p,.int .i64 q] 36)).alloc (.cells #[.slice none 0 0,.slice none 0 0,.slice none 0 0] 25)
 have B6:Below n w ((w.alloc (.cells #[.int .i64 p,.int .i64 q] 36)).alloc (.cells #[.slice none 0 0,.slice none 0 0,.slice none 0 0] 25)):=((Below.refl n w).alloc (by omega) _).alloc (by rw [World.size_alloc];omega) _
 refine wp_region_held (S:=fun W=>Own W w.heap.size 36 #[.int .i64 p,.int .i64 q]∧Own W (w.heap.size+1) 25 #[.slice none 0 0,.slice none 0 0,.slice none 0 0]) (by kernel_rfl) ?_
 change wpAnyH _ _ _ _ _ _ _ _ (((w.alloc (.cells #[.int .i64 p,.int .i64 q] 36)).alloc (.cells #[.slice none 0 0,.slice none 0 0,.slice none 0 0] 25)).drew)
 have B7:=B6.drew
 have OB:Own (((w.alloc (.cells #[.int .i64 p,.int .i64 q] 36)).alloc (.cells #[.slice none 0 0,.slice none 0 0,.slice none 0 0] 25)).drew) _ _ _:=OB
 have OE:Own (((w.alloc (.cells #[.int .i64 p,.int .i64 q] 36)).alloc (.cells #[.slice none 0 0,.slice none 0 0,.slice none 0 0] 25)).drew) _ _ _:=OE
 have o1:Own (((w.alloc (.cells #[.int .i64 p,.int .i64 q] 36)).alloc (.cells #[.slice none 0 0,.slice none 0 0,.slice none 0 0] 25)).drew) _ _ _:=o1
 have o2:Own (((w.alloc (.cells #[.int .i64 p,.int .i64 q] 36)).alloc (.cells #[.slice none 0 0,.slice none 0 0,.slice none 0 0] 25)).drew) _ _ _:=o2
 have o3:Own (((w.alloc (.cells #[.int .i64 p,.int .i64 q] 36)).alloc (.cells #[.slice none 0 0,.slice none 0 0,.slice none 0 0] 25)).drew) _ _ _:=o3
 clear B6
 generalize (((w.alloc (.cells #[.int .i64 p,.int .i64 q] 36)).alloc (.cells #[.slice none 0 0,.slice none 0 0,.slice none 0 0] 25)).drew)=W7 at OB OE o1 o2 o3 B7 ⊢
 have S7:=And.intro OB OE
 refine dr_take 0 (.agg #[.slice none 0 0,.slice none 0 0,.slice none 0 0]) rfl rfl (by kernel_rfl) (by kernel_rfl) (by kernel_rfl) (fun _ _ _ h=>by rw [← hQ] at h ⊢;exact h) (fun W h=>run_ld rowPg rfl rfl h.2 rfl) S7 ?_
 change wpAnyH _ _ _ _ _ _ _ { tmps:=#[_,_,_,_,_,_,_,_,_,_,_,_,_,_,_,_,_,_,_,_],defers:=[] } _
 refine dr_take 1 (.agg #[.int .i64 p,.int .i64 q]) rfl rfl (by kernel_rfl) (by kernel_rfl) (by kernel_rfl) (fun _ _ _ h=>by rw [← hQ] at h ⊢;exact h) (fun W h=>run_ld rowFl rfl rfl h.1 rfl) S7 ?_
 change wpAnyH _ _ _ _ _ _ _ { tmps:=#[_,_,_,_,_,_,_,_,_,_,_,_,_,_,_,_,_,_,_,_],defers:=[] } _
 refine dr_one 2 rfl rfl (by kernel_rfl) ?_
 refine wp_st_row (cs:=#[.slice none 0 0,.slice none 0 0,.slice none 0 0]) rowPg rfl o1 rfl rfl rfl hs1 (by kernel_rfl) ?_
 have OB:=OB.other (g:=t) #[.slice none 0 0,.slice none 0 0,.slice none 0 0] (by omega)
 have OE:=OE.other (g:=t) #[.slice none 0 0,.slice none 0 0,.slice none 0 0] (by omega)
 have o1:=o1.row #[.slice none 0 0,.slice none 0 0,.slice none 0 0]
 have o2:=o2.other (g:=t) #[.slice none 0 0,.slice none 0 0,.slice none 0 0] (by omega)
 have o3:=o3.other (g:=t) #[.slice none 0 0,.slice none 0 0,.slice none 0 0] (by omega)
 have B8:=Below.of_row B7 (g:=t) (by omega) #[.slice none 0 0,.slice none 0 0,.slice none 0 0]
 refine ⟨⟨OB,OE⟩,?_⟩
 change wpAnyH _ _ _ _ _ _ _ { tmps:=#[_,_,_,_,_,_,_,_,_,_,_,_,_,_,_,_,_,_,_,_],defers:=[] } _
 refine dr_one 3 rfl rfl (by kernel_rfl) ?_
 refine wp_st_err (u:=cy) rfl rfl (by rw [cell_of_row _ y 0 _ _ _ o2];rfl) (own_frozen o2 0) ?_
 have E:(W7.setRow t #[.slice none 0 0,.slice none 0 0,.slice none 0 0]).setCell ⟨y,0,none⟩ (.int .i64 30)=(W7.setRow t #[.slice none 0 0,.slice none 0 0,.slice none 0 0]).setRow y #[.int .i64 30]:=setCell_row o2 0 _
 rw [E]
 have OB:=OB.other (g:=y) #[.int .i64 30] (by omega)
 have OE:=OE.other (g:=y) #[.int .i64 30] (by omega)
 have o1:=o1.other (g:=y) #[.int .i64 30] (by omega)
 have o2:=o2.row #[.int .i64 30]
 have o3:=o3.other (g:=y) #[.int .i64 30] (by omega)
 have B9:=Below.of_row B8 (g:=y) (by omega) #[.int .i64 30]
 refine ⟨⟨OB,OE⟩,?_⟩
 change wpAnyH _ _ _ _ _ _ _ { tmps:=#[_,_,_,_,_,_,_,_,_,_,_,_,_,_,_,_,_,_,_,_],defers:=[] } _
 refine dr_one 4 rfl rfl (by kernel_rfl) ?_
 refine wp_st_row (cs:=#[.int .i64 p,.int .i64 q]) rowFl rfl o3 rfl rfl rfl hs3 (by kernel_rfl) ?_
 have OB:=OB.other (g:=f) #[.int .i64 p,.int .i64 q] (by omega)
 have OE:=OE.other (g:=f) #[.int .i64 p,.int .i64 q] (by omega)
 have o1:=o1.other (g:=f) #[.int .i64 p,.int .i64 q] (by omega)
 have o2:=o2.other (g:=f) #[.int .i64 p,.int .i64 q] (by omega)
 have o3:=o3.row #[.int .i64 p,.int .i64 q]
 have B10:=Below.of_row B9 (g:=f) (by omega) #[.int .i64 p,.int .i64 q]
 refine ⟨⟨OB,OE⟩,?_⟩
 refine wpAnyH_done (by kernel_rfl) ?_ _
 subst hQ
 simp [bodyPostS,results,Tryz.results49]
 exact ⟨rfl,o1,o2,o3,B10⟩
end Go.Proofs.YtggbkldniffbfaaGreatDoor

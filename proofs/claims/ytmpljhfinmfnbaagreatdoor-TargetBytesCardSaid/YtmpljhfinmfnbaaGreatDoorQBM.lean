/- The proof, part 39: texts that belong together, in one. -/
import Derived.Test.YtmpljhfinmfnbaaGreatDoorQBL
import Derived.Laws.OwnMore
set_option maxRecDepth 100000
set_option maxHeartbeats 20000000
namespace Go.Proofs.YtmpljhfinmfnbaaGreatDoor
open Go.RowKit
set_option linter.unusedVariables false
set_option maxRecDepth 100000
theorem run_append_nilc {P:Program} {w:World} (base:Nat) (t ty e:TypeId) (i:TypeInfo) (size:Nat) (c:Nat) (ht:P.underlying t=some (.slice e)) (hi:P.info? e=some i)
 (v:Value) (n:Nat) (xs:List Value) (hown:w.ownsRow base e size v n xs) :
 (Builtin.append_ #[t,t] ty #[v,.slice none 0 c]).run P w=.ok v w:=by
 rcases hown.2 with ⟨rfl,rfl⟩ | ⟨g,cap,cur,rfl,_,_,hnc,_⟩
 · simp [Builtin.append_,run_underlying ht,sizeOf,typeInfo,hi,Builtin.lenOf,Builtin.firstCells]
 · simp [Builtin.append_,run_underlying ht,sizeOf,typeInfo,hi,Builtin.lenOf,Builtin.firstCells,hnc,storeCells]
section
variable {P:Program} {w:World}
theorem wp_append_list {o:Oper} {a:Act} {K:Act→World→Prop} {Q:Exit→Act→World→Prop} (s x:Operand) (t:TypeId)
 (ho:o.op=.call { callee:=.builtin .append,args:=#[s,x],argTypes:=#[t,t] })
 (base:Nat) (e:TypeId) (i:TypeInfo) (z:Value) (size bytes:Nat) (ht:P.underlying t=some (.slice e)) (hi:P.info? e=some i) (hz:i.zero=some z)
 (hsize:i.size=size) (hby:i.bytes=bytes) (hzs:z.cells.size=size) (hsz:0<size)
 (v:Value) (n:Nat) (xs:List Value) (hs:a.eval s=v) (hown:w.ownsRow base e size v n xs)
 (ad:Option Addr) (m c:Nat) (news:List Value) (hx:a.eval x=.slice ad m c) (hl:news.length=m*size) (hnews:(ad=none∧m=0)∨∃ d,ad=some d∧∀ j u,news[j]? = some u→w.cell? (d.add j)=some u) (h1:∀ u∈news,u.oneCell'=true)
 (h63:n+m≤maxLen) (hbytes:(n+m)*bytes≤140737488355328) (hbase:base≤w.heap.size)
 (h:∀ v' w',w'.ownsRow base e size v' (n+m) (xs++news)→w.grownBy w' v.ownBlock→K (a.put o.dst v') w'):o.wp P a w K Q:=by
 rcases hnews with ⟨rfl,rfl⟩ | ⟨d,rfl,hd⟩
 · have hn0 : news = [] := List.eq_nil_of_length_eq_zero (by rw [hl, Nat.zero_mul])
   subst hn0
   have hr:=run_append_nilc (P:=P) (w:=w) base t o.type e i size c ht hi v n xs hown
   unfold Oper.wp execOp
   simp only [ho,resolve,invoke,builtin,Sem.run_bind,Sem.run_pure,Result.andThen_ok,List.map_toArray,List.map_cons,List.map_nil,hs,hx,hr]
   exact h v w (by rw [Nat.add_zero,List.append_nil];exact hown) ⟨rfl,rfl,rfl,Nat.le_refl _,fun _ _ _=>rfl⟩
 · exact wp_append_own w s x t ho base e i z size bytes ht hi hz hsize hby hzs hsz v n xs hs hown d m c news hx hl hd h1 h63 hbytes hbase fun v' w' h2 h3 _=>h v' w' h2 h3
theorem wpList_append_list {ops:Array Oper} {rest:List Oper} {o:Oper} {a:Act} {Q:Exit→Act→World→Prop} (hgd:o.guard=none) (s x:Operand) (t:TypeId)
 (ho:o.op=.call { callee:=.builtin .append,args:=#[s,x],argTypes:=#[t,t] })
 (base:Nat) (e:TypeId) (i:TypeInfo) (z:Value) (size bytes:Nat) (ht:P.underlying t=some (.slice e)) (hi:P.info? e=some i) (hz:i.zero=some z)
 (hsize:i.size=size) (hby:i.bytes=bytes) (hzs:z.cells.size=size) (hsz:0<size)
 (v:Value) (n:Nat) (xs:List Value) (hs:a.eval s=v) (hown:w.ownsRow base e size v n xs)
 (ad:Option Addr) (m c:Nat) (news:List Value) (hx:a.eval x=.slice ad m c) (hl:news.length=m*size) (hnews:(ad=none∧m=0)∨∃ d,ad=some d∧∀ j u,news[j]? = some u→w.cell? (d.add j)=some u) (h1:∀ u∈news,u.oneCell'=true)
 (h63:n+m≤maxLen) (hbytes:(n+m)*bytes≤140737488355328) (hbase:base≤w.heap.size)
 (h:∀ v' w',w'.ownsRow base e size v' (n+m) (xs++news)→w.grownBy w' v.ownBlock→wpList P ops Q rest (a.put o.dst v') w'):wpList P ops Q (o::rest) a w :=
 wpList_plain hgd fun _ hK=>wp_append_list s x t ho base e i z size bytes ht hi hz hsize hby hzs hsz v n xs hs hown ad m c news hx hl hnews h1 h63 hbytes hbase fun v' w' h2 h3=>hK _ _ (h v' w' h2 h3)
end
theorem addr_add (g q j:Nat):(⟨g,q,none⟩:Addr).add j=⟨g,q+j,none⟩:=by unfold Addr.add;split <;> simp_all
theorem ints_news {W:World} {l:List Int} {a:Option Addr} (h:intsAt W l a):(a=none∧l.length=0)∨∃ d,a=some d∧∀ j u,(l.map fun x=>Value.int .i64 x)[j]? = some u→W.cell? (d.add j)=some u:=by
 cases a with
 | none =>
   rcases h with rfl | ⟨g,q,e,_⟩
   · exact .inl ⟨rfl,rfl⟩
   · cases e
 | some d =>
   refine .inr ⟨d,rfl,fun j u hj=>?_⟩
   rcases h with rfl | ⟨g,q,e,h⟩
   · simp at hj
   · injection e with e
     subst e
     rw [List.getElem?_map] at hj
     obtain ⟨x,hx,rfl⟩:=Option.map_eq_some_iff.1 hj
     rw [addr_add]
     exact h j x hx
theorem flatI_inv:∀ (l:List Ins) (j:Nat) (u:Value),(flatI l)[j]? = some u→∃ i m,l[j / 9]? = some i∧(insC i)[m]? = some u∧j=j / 9*9+m
 | [],j,u,h=>by simp [flatI] at h
 | x :: l, j, u, h => by
   have h9:(insC x).length=9:=rfl
   simp only [flatI,List.flatMap_cons] at h
   by_cases hj:j<9
   · rw [List.getElem?_append_left (by omega)] at h
     have e:j / 9=0:=by omega
     rw [e]
     exact ⟨x,j,rfl,h,by omega⟩
   · rw [List.getElem?_append_right (by omega), h9] at h
     obtain ⟨i,m,h1,h2,h3⟩:=flatI_inv l (j-9) u h
     have e:j / 9=(j-9) / 9+1:=by omega
     refine ⟨i,m,?_,h2,by omega⟩
     rw [e]
     simpa using h1
theorem ins_news {W:World} {l:List Ins} {a:Option Addr} (h:insAt W l a):(a=none∧l.length=0)∨∃ d,a=some d∧∀ j u,(flatI l)[j]? = some u→W.cell? (d.add j)=some u:=by
 cases a with
 | none =>
   rcases h with rfl | ⟨g,q,e,_⟩
   · exact .inl ⟨rfl,rfl⟩
   · cases e
 | some d =>
   refine .inr ⟨d,rfl,fun j u hj=>?_⟩
   rcases h with rfl | ⟨g,q,e,h⟩
   · simp [flatI] at hj
   · injection e with e
     subst e
     obtain ⟨i,m,h1,h2,h3⟩:=flatI_inv l j u hj
     rw [addr_add,h3]
     have:=h (j / 9) i h1 m u h2
     rwa [Nat.add_assoc] at this
theorem flatI_one (l:List Ins):∀ u∈flatI l,u.oneCell'=true:=by
 intro u hu
 unfold flatI at hu
 obtain ⟨i,_,hi⟩:=List.mem_flatMap.1 hu
 simp only [insC,List.mem_cons,List.not_mem_nil,or_false] at hi
 rcases hi with rfl | rfl | rfl | rfl | rfl | rfl | rfl | rfl | rfl <;> rfl
theorem ints_one (l:List Int):∀ u∈l.map (fun x=>Value.int .i64 x),u.oneCell'=true:=by
 intro u hu
 obtain ⟨x,_,rfl⟩:=List.mem_map.1 hu
 rfl
structure CpL (B:Nat) (cs:List Cor) (v:Value) (L:List (Cor × Value)) (W:World):Prop where
 fst:L.map Prod.fst=cs
 cors:W.ownsRow B 70 2 v L.length (flatC L)
 rows:∀ x∈L,W.ownsRow B 75 9 x.2 x.1.code.length (flatI x.1.code)
theorem CpL.below {B:Nat} {cs:List Cor} {v:Value} {L:List (Cor × Value)} {W W':World} (h:CpL B cs v L W) (hb:Below W.heap.size W W'):CpL B cs v L W':=⟨h.fst,row_below h.cors hb,fun x hx=>row_below (h.rows x hx) hb⟩
theorem CpL.keep {B p:Nat} {cs:List Cor} {v:Value} {L:List (Cor × Value)} {W W':World} (h:CpL B cs v L W) {ty:TypeId} {row:Array Value} (hp:Own W p ty row) (t1:(70==ty)=false) (t2:(75==ty)=false) (hk:Keep (fun k _=>k≠p) W W'):CpL B cs v L W' :=
 ⟨h.fst,row_keep h.cors (row_apart h.cors hp t1) hk,fun x hx=>row_keep (h.rows x hx) (row_apart (h.rows x hx) hp t2) hk⟩
theorem CpL.more {B:Nat} {cs:List Cor} {v v':Value} {L:List (Cor × Value)} {W W':World} (h:CpL B cs v L W) (c:Cor) (u:Value) (hu:W.ownsRow B 75 9 u c.code.length (flatI c.code)) (hg:W.grownBy W' v.ownBlock) (hr:W'.ownsRow B 70 2 v' (L.length+1) (flatC L++[.string c.name,u])):CpL B (cs++[c]) v' (L++[(c,u)]) W':=by
 have hrow:∀ {x:Cor × Value},W.ownsRow B 75 9 x.2 x.1.code.length (flatI x.1.code)→W'.ownsRow B 75 9 x.2 x.1.code.length (flatI x.1.code):=fun hx=>row_stays hx fun b _ hb hl=>hg.block b hl (fun e=>row_apart2 h.cors hx rfl b hb e.symm)
 refine ⟨by rw [List.map_append,h.fst];rfl,by rw [List.length_append,flatC_app];exact hr,fun x hx=>?_⟩
 rcases List.mem_append.1 hx with hx | hx
 · exact hrow (h.rows x hx)
 · obtain rfl : x = (c, u) := by simpa using hx
   exact hrow hu
theorem CpL.at {B:Nat} {cs:List Cor} {v:Value} {L:List (Cor × Value)} {W:World} (h:CpL B cs v L W):∃ a c,v=.slice a cs.length c∧corsAt W cs a:=by
 have hlen:cs.length=L.length:=by rw [← h.fst,List.length_map]
 obtain ⟨a5,c5,rfl⟩:=row_slice h.cors
 refine ⟨a5,c5,by rw [hlen],?_⟩
 by_cases h0:L=[]
 · left
   rw [← h.fst,h0]
   rfl
 · obtain ⟨gb, cap, e, _, h2⟩ := row_at h.cors (List.length_pos_iff.2 h0)
   right
   injection e with e1 e2 e3
   refine ⟨gb,0,e1,fun j c hj=>?_⟩
   rw [← h.fst,List.getElem?_map] at hj
   obtain ⟨x,hx,rfl⟩:=Option.map_eq_some_iff.1 hj
   obtain ⟨f1,f2⟩:=flatC_get L j x hx
   obtain ⟨a2,c2,e4,h4⟩:=row_insAt (h.rows x (List.mem_of_getElem? hx))
   rw [Nat.zero_add]
   exact ⟨h2 _ _ f1,a2,c2,by rw [h2 _ _ f2,e4],h4⟩
open Go.RowKit
set_option linter.unusedVariables false
set_option maxRecDepth 100000
structure Cst (w:World) (B:Nat) (mem:List Int) (ro:Array Value) (v1:Value) (cs:List Cor) (v:Value) (L:List (Cor × Value)) (X:World):Prop where
 bx:Own X w.heap.size 25 ro
 rs:Own X (w.heap.size+1) 25 #[.slice none 0 0,.int .i64 0,.int .i64 0,.int .i64 0,.slice none 0 0]
 mem:X.ownsRow B 2 1 v1 mem.length (mem.map fun x=>.int .i64 x)
 cp:CpL B cs v L X
 bel:Below w.heap.size w X
section
variable {w X Y:World} {B:Nat} {mem:List Int} {ro:Array Value} {v1 v v':Value} {cs:List Cor} {L:List (Cor × Value)}
theorem Cst.below (h:Cst w B mem ro v1 cs v L X) (hb:Below X.heap.size X Y):Cst w B mem ro v1 cs v L Y:=⟨h.bx.below hb,h.rs.below hb,row_below h.mem hb,h.cp.below hb,h.bel.trans (hb.mono h.bel.size)⟩
theorem Cst.more (h:Cst w B mem ro v1 cs v L X) (hB:w.heap.size≤B) (c:Cor) (u:Value) (hu:X.ownsRow B 75 9 u c.code.length (flatI c.code)) (hg:X.grownBy Y v.ownBlock) (hr:Y.ownsRow B 70 2 v' (L.length+1) (flatC L++[.string c.name,u])):Cst w B mem ro v1 (cs++[c]) v' (L++[(c,u)]) Y:=by
 refine ⟨own_grow h.bx h.cp.cors rfl hg,own_grow h.rs h.cp.cors rfl hg,row_stays h.mem fun b _ hb hl=>hg.block b hl (fun e=>row_apart2 h.cp.cors h.mem rfl b hb e.symm),h.cp.more c u hu hg hr,?_⟩
 exact ⟨hg.os.trans h.bel.os,hg.tape.trans h.bel.tape,hg.output.trans h.bel.output,Nat.le_trans h.bel.size hg.size,fun k hk=>(hg.block k (Nat.lt_of_lt_of_le hk h.bel.size) (fun e=>by have:=(row_lt h.cp.cors e.symm).1;omega)).trans (h.bel.block k hk)⟩
end
theorem run_bs0 {o:Oper} {a:Act} {w:World} (ho:o.op=.buildSlice 68 0 #[]):(execOp a.eval o).run Tryz.prog w=.ok (.value (.slice (some ⟨w.heap.size,0,none⟩) 0 0)) (w.alloc (.cells #[] 75)):=by
 unfold execOp
 simp [ho]
 go_simp
theorem run_bs1 {o:Oper} {a:Act} {w:World} {x:Operand} (ho:o.op=.buildSlice 23 1 #[(0,x)]) {nm:ByteArray} {a2:Option Addr} {n2 c2:Nat} (hx:a.eval x=.agg #[.string nm,.slice a2 n2 c2]):(execOp a.eval o).run Tryz.prog w=.ok (.value (.slice (some ⟨w.heap.size,0,none⟩) 1 1)) (w.alloc (.cells #[.string nm,.slice a2 n2 c2] 70)):=by
 unfold execOp
 simp [ho,hx]
 go_simp
theorem rcopy_any (o:Ob) (hf:fitW o) {v:Value} {w:World} (hv:obA w o v):Calls Tryz.prog 10 #[v] w fun e w'=>∃ v',e=.returned v'∧obA w' o v'∧Below w.heap.size w w':=by
 obtain ⟨i0,hi,hz0,hz1,hz2⟩:=info_parts info_w
 obtain ⟨i1,hi1,hy0,hy1,hy2⟩:=info_parts info_i
 obtain ⟨i2,hi2,hx0,hx1,hx2⟩:=info_parts info_c
 obtain ⟨a1,c1,a5,c5,rfl,h1,h5⟩:=hv
 obtain ⟨f1,f5,fc⟩:=hf
 obtain ⟨mem,sh,lk,bf,cores⟩:=o
 simp only [obV] at *
 have hnews0:=ints_news h1
 obtain ⟨n1,hn1⟩:∃ n,n=mem.length:=⟨_,rfl⟩
 obtain ⟨n5,hn5⟩:∃ n,n=cores.length:=⟨_,rfl⟩
 rw [← hn1] at f1 hnews0 ⊢
 rw [← hn5] at f5 ⊢
 have HN1:=Lib.hid hn1
 have HN5:=Lib.hid hn5
 have HA1:=Lib.hid h1
 have HA5:=Lib.hid h5
 have HFC:=Lib.hid fc
 have B0:Below w.heap.size w ((w.alloc (.cells #[.slice a1 n1 c1,.int .i64 sh,.int .i64 lk,.int .i64 bf,.slice a5 n5 c5] 25)).alloc (.cells #[.slice none 0 0,.int .i64 0,.int .i64 0,.int .i64 0,.slice none 0 0] 25)):=((Below.refl _ w).alloc (Nat.le_refl _) _).alloc (by simp) _
 have OA:Own ((w.alloc (.cells #[.slice a1 n1 c1,.int .i64 sh,.int .i64 lk,.int .i64 bf,.slice a5 n5 c5] 25)).alloc (.cells #[.slice none 0 0,.int .i64 0,.int .i64 0,.int .i64 0,.slice none 0 0] 25)) w.heap.size 25 #[.slice a1 n1 c1,.int .i64 sh,.int .i64 lk,.int .i64 bf,.slice a5 n5 c5]:=(Own.new w 25 #[.slice a1 n1 c1,.int .i64 sh,.int .i64 lk,.int .i64 bf,.slice a5 n5 c5]).alloc _
 have OB:Own ((w.alloc (.cells #[.slice a1 n1 c1,.int .i64 sh,.int .i64 lk,.int .i64 bf,.slice a5 n5 c5] 25)).alloc (.cells #[.slice none 0 0,.int .i64 0,.int .i64 0,.int .i64 0,.slice none 0 0] 25)) (w.heap.size+1) 25 #[.slice none 0 0,.int .i64 0,.int .i64 0,.int .i64 0,.slice none 0 0]:=by
  have h:=Own.new (w.alloc (.cells #[.slice a1 n1 c1,.int .i64 sh,.int .i64 lk,.int .i64 bf,.slice a5 n5 c5] 25)) 25 #[.slice none 0 0,.int .i64 0,.int .i64 0,.int .i64 0,.slice none 0 0]
  rwa [World.size_alloc] at h
 obtain ⟨W0,hW0⟩:∃ W,W=(w.alloc (.cells #[.slice a1 n1 c1,.int .i64 sh,.int .i64 lk,.int .i64 bf,.slice a5 n5 c5] 25)).alloc (.cells #[.slice none 0 0,.int .i64 0,.int .i64 0,.int .i64 0,.slice none 0 0] 25):=⟨_,rfl⟩
 rw [← hW0] at B0 OA OB
 have HW0:=Lib.hid hW0
 have hos:W0.heap.size=w.heap.size+1+1:=by rw [hW0,World.size_alloc,World.size_alloc]
 have al1:=(Below.refl _ W0).alloc (Nat.le_refl _) (.cells #[] 2)
 have OA1:=OA.below al1
 have OB1:=OB.below al1
 have B1:=B0.trans (al1.mono B0.size)
 have hown0:=World.ownsRow_lit (base:=W0.heap.size) (e:=2) (size:=1) W0 #[] 0 (Nat.le_refl _) (Nat.zero_le _) rfl
 have p0:(W0.alloc (.cells #[] 2)).cell? ⟨w.heap.size,0,none⟩=some (.slice a1 n1 c1):=row_cellsO OA1 0 _ rfl
 obtain ⟨W1,hW1⟩:∃ W,W=W0.alloc (.cells #[] 2):=⟨_,rfl⟩
 rw [← hW1] at hown0 OA1 OB1 B1 al1
 have HW1:=Lib.hid hW1
 have hnews:(a1=none∧n1=0)∨∃ d,a1=some d∧∀ j u,(mem.map fun x=>Value.int .i64 x)[j]? = some u→W1.cell? (d.add j)=some u:=by
  have:=ints_news (intsAt_below h1 B1)
  rwa [← hn1] at this
 obtain ⟨b,hb⟩:∃ b,b=W0.heap.size:=⟨_,rfl⟩
 have hwb:w.heap.size≤b:=by rw [hb];exact B0.size
 have hb1:W0.heap.size≤W1.heap.size:=al1.size
 have hml:(mem.map fun x=>Value.int .i64 x).length=n1*1:=by rw [List.length_map,hn1,Nat.mul_one]
 have hm1:∀ u∈mem.map (fun x=>Value.int .i64 x),u.oneCell'=true:=ints_one mem
 generalize hmm:mem.map (fun x=>Value.int .i64 x)=MM at hnews hml hm1
 have HMM:=Lib.hid hmm
 have HOA1:=Lib.hid OA1
 have HOB1:=Lib.hid OB1
 have HB1:=Lib.hid B1
 have HBW:=Lib.hid (And.intro hb hwb)
 have HOS:Hid (W0.heap.size=w.heap.size+1+1):=hos
 clear hn1 hn5 h1 h5 fc B0 OA OB hos hW0 hW1 al1 OA1 OB1 B1 hnews0 hb hwb hmm
 go_enter Tryz.func10,Tryz.ntmps10
 go_upto_region 1 with fail
 rw [← HW0.out]
 clear HW0
 go_wp2_with (first | fail | (at_builtin;rw [← HW1.out];refine wpList_append_list rfl _ _ 22 rfl W0.heap.size 2 i0 _ 1 8 Tryz.underlying22 hi hz0 hz1 hz2 rfl (by decide) (.slice (some ⟨W0.heap.size,0,none⟩) 0 0) 0 [] rfl hown0 a1 n1 c1 MM rfl hml hnews hm1 ?_ ?_ hb1 ?_))
 · first | (simp only [maxLen];omega) | (unfold maxLen;omega)
 · omega
 intro v1 w2 hr2 hg2
 clear p0
 obtain ⟨ma,mc,rfl⟩:=row_slice hr2
 have hne:∀ k,k≤w.heap.size+1→some k≠(Value.slice (some ⟨W0.heap.size,0,none⟩) 0 0).ownBlock:=fun k hk e=>by
  have e2:k=W0.heap.size:=by simpa [Value.ownBlock] using e
  have h3:=HOS.out
  omega
 have OA2:Own w2 w.heap.size 25 #[.slice a1 n1 c1,.int .i64 sh,.int .i64 lk,.int .i64 bf,.slice a5 n5 c5]:=(hg2.block _ HOA1.out.lt (hne _ (by omega))).trans HOA1.out
 have OB2:Own w2 (w.heap.size+1) 25 #[.slice none 0 0,.int .i64 0,.int .i64 0,.int .i64 0,.slice none 0 0]:=(hg2.block _ HOB1.out.lt (hne _ (by omega))).trans HOB1.out
 have BB2:Below w.heap.size w w2:=⟨hg2.os.trans HB1.out.os,hg2.tape.trans HB1.out.tape,hg2.output.trans HB1.out.output,Nat.le_trans HB1.out.size hg2.size,fun k hk=>(hg2.block k (Nat.lt_of_lt_of_le hk HB1.out.size) (hne _ (by omega))).trans (HB1.out.block k hk)⟩
 have p1:w2.cell? ⟨w.heap.size,0,none⟩=some (.slice a1 n1 c1):=row_cellsO OA2 0 _ rfl
 have q1:w2.frozen? ⟨w.heap.size,0,none⟩=false:=own_frozen OA2 0
 have OA3:Own (w2.setCell ⟨w.heap.size,0,none⟩ (.slice ma n1 mc)) w.heap.size 25 #[.slice ma n1 mc,.int .i64 sh,.int .i64 lk,.int .i64 bf,.slice a5 n5 c5]:=heap_setCell_same w2 w.heap.size 0 _ _ _ OA2
 have OB3:=own_set_other (g:=w.heap.size) (o:=0) OB2 (by omega) (.slice ma n1 mc)
 have hk3:Keep (fun k _=>k≠w.heap.size) w2 (w2.setCell ⟨w.heap.size,0,none⟩ (.slice ma n1 mc)):=(Keep.refl _ _).setCell (p:=⟨w.heap.size,0,none⟩) _ OA2 (fun q=>q rfl)
 have hrm:(w2.setCell ⟨w.heap.size,0,none⟩ (.slice ma n1 mc)).ownsRow W0.heap.size 2 1 (.slice ma n1 mc) mem.length (mem.map fun x=>.int .i64 x):=by
  rw [HMM.out,← HN1.out]
  exact row_keep hr2 (row_apart hr2 OA2 rfl) hk3
 have HC0:Hid (Cst w W0.heap.size mem #[.slice ma n1 mc,.int .i64 sh,.int .i64 lk,.int .i64 bf,.slice a5 n5 c5] (.slice ma n1 mc) (cores.take 0) (.slice none 0 0) [] (w2.setCell ⟨w.heap.size,0,none⟩ (.slice ma n1 mc))) :=
  ⟨OA3,OB3,hrm,⟨rfl,World.ownsRow_nil _ _ _ _,fun x hx=>by simp at hx⟩,BB2.setCell (p:=⟨w.heap.size,0,none⟩) (Nat.le_refl _) _⟩
 clear hne hr2 hg2 OA2 OB2 BB2 OA3 OB3 hk3 hrm HB1 HOB1 HOA1
 go_wp2_with fail
 clear p1 q1
 go_loopg [3,4] (n5+1) (fun m' z y X=>∃ (t:Nat) (L:List (Cor × Value)),y=.int .i64 (t:Int)∧t≤n5∧m'=n5-t+1∧Cst w W0.heap.size mem #[.slice ma n1 mc,.int .i64 sh,.int .i64 lk,.int .i64 bf,.slice a5 n5 c5] (.slice ma n1 mc) (cores.take t) z L X)
 case atStart=>exact ⟨0,[],rfl,Nat.zero_le _,by omega,HC0.out⟩
 case round =>
  clear HC0
  obtain ⟨t,L,rfl,ht,hm,hc⟩:=hrel
  have HM:=Lib.hid hm
  have HC:=Lib.hid hc
  obtain ⟨a6,c6,rfl⟩:=row_slice hc.cp.cors
  have p4:wr.cell? ⟨w.heap.size,4,none⟩=some (.slice a5 n5 c5):=row_cellsO hc.bx 4 _ rfl
  have q4:wr.frozen? ⟨w.heap.size,4,none⟩=false:=own_frozen hc.bx 4
  have hLt:L.length=t:=by
   have h1:=congrArg List.length hc.cp.fst
   rw [List.length_map,List.length_take] at h1
   have:=HN5.out
   omega
  have HLT:=Lib.hid hLt
  clear hm hc hLt
  by_cases htn:t<n5
  rotate_left
  · obtain rfl : t = n5 := by omega
    have OA:=heap_setCell_same wr w.heap.size 4 _ _ (.slice a6 L.length c6) HC.out.bx
    have OB:=own_set_other (g:=w.heap.size) (o:=4) HC.out.rs (by omega) (.slice a6 L.length c6)
    have hk:Keep (fun k _=>k≠w.heap.size) wr (wr.setCell ⟨w.heap.size,4,none⟩ (.slice a6 L.length c6)):=(Keep.refl _ _).setCell (p:=⟨w.heap.size,4,none⟩) _ HC.out.bx (fun q=>q rfl)
    have hmem:=row_keep HC.out.mem (row_apart HC.out.mem HC.out.bx rfl) hk
    have hcp:=HC.out.cp.keep HC.out.bx rfl rfl hk
    have hbel:=HC.out.bel.setCell (p:=⟨w.heap.size,4,none⟩) (Nat.le_refl _) (.slice a6 L.length c6)
    rw [show cores.take t=cores by rw [HN5.out,List.take_length]] at hcp
    have HEND:Hid (∀ X,Below (w.heap.size+1) (wr.setCell ⟨w.heap.size,4,none⟩ (.slice a6 L.length c6)) X→Keep (fun k _=>k≠w.heap.size+1) (wr.setCell ⟨w.heap.size,4,none⟩ (.slice a6 L.length c6)) X→obA X ⟨mem,sh,lk,bf,cores⟩ (.agg #[.slice ma n1 mc,.int .i64 sh,.int .i64 lk,.int .i64 bf,.slice a6 L.length c6])∧Below w.heap.size w X):=fun X hb hk2=>by
     have hmem2:=row_keep hmem (row_apart hmem OB rfl) hk2
     have hcp2:=hcp.keep OB rfl rfl hk2
     obtain ⟨am,cm,e1,k1⟩:=row_ints hmem2
     obtain ⟨ac,cc,e2,k2⟩:=hcp2.at
     injection e1 with e1 e1' e1''
     injection e2 with e2 e2' e2''
     subst e1 e1'' e2 e2''
     exact ⟨⟨ma,mc,a6,c6,by rw [obV,e1',e2'],k1,k2⟩,hbel.trans (hb.mono (by omega))⟩
    have hc3:=row_cellsO OA
    clear hk hmem hcp hbel
    go_wp2_with (first | (refine ldc rowO rfl rfl rfl hc3 rfl ?_) | (refine st rowO rfl rfl OB rfl rfl (by rfl) (by rfl) (by kernel_rfl) ?_))
    refine p_ret rowO rfl (OB.row #[.slice ma n1 mc,.int .i64 sh,.int .i64 lk,.int .i64 bf,.slice a6 L.length c6]) rfl rfl rfl ?_
    obtain ⟨hr1,hr2⟩:=HEND.out _ (Below.of_row (Below.refl _ _) (Nat.le_refl _) _) (keep_setRow _ _ _)
    exact ⟨_,rfl,hr1,hr2⟩
  have il:t<cores.length:=by have:=HN5.out;omega
  have g1:cores[t]? = some cores[t]:=List.getElem?_eq_getElem il
  have hlc:=HFC.out _ (List.getElem_mem il)
  have htk:cores.take (t+1)=cores.take t++[cores[t]]:=by rw [List.take_succ_eq_append_getElem il]
  generalize cores[t]=x at g1 hlc htk
  rcases HA5.out with e | ⟨g,q,rfl,e1⟩
  · subst e;simp at il
  obtain ⟨y1,a2,c2,y2,y3⟩:=e1 t x g1
  obtain ⟨nm,cd⟩:=x
  simp only at y1 y2 y3 hlc htk
  obtain ⟨nc,hnc⟩:∃ n,n=cd.length:=⟨_,rfl⟩
  rw [← hnc] at y2 hlc
  have HNC:=Lib.hid hnc
  have HSV:Hid (∀ V,Below w.heap.size w V→Own V w.heap.size 25 #[.slice ma n1 mc,.int .i64 sh,.int .i64 lk,.int .i64 bf,.slice (some ⟨g,q,none⟩) n5 c5]→V.cell? ⟨w.heap.size,4,none⟩=some (.slice (some ⟨g,q,none⟩) n5 c5)∧V.cell? ⟨g,q+t*2,none⟩=some (.string nm)∧V.cell? ⟨g,q+t*2+1,none⟩=some (.slice a2 nc c2)):=fun V hV ho =>
   ⟨row_cellsO ho 4 _ rfl,(hV.cell (p:=⟨g,q+t*2,none⟩) (lt_of_at y1)).trans y1,(hV.cell (p:=⟨g,q+t*2+1,none⟩) (lt_of_at y2)).trans y2⟩
  have HI:=Lib.hid y3
  have HTK:=Lib.hid htk
  have htn':(t:Int)<(n5:Int):=by omega
  have hn5:n5*40≤140737488351232:=f5
  have hBX:W0.heap.size≤wr.heap.size:=by have:=HC.out.rs.lt;have:=HOS.out;omega
  have HBX:=Lib.hid hBX
  clear y1 y2 y3 e1 g1 hnc htk il
  go_upto_region 6 with fail
  clear p4 q4 hBX
  have HC1:=Lib.hid (HC.out.below (below_drewN (Below.refl _ wr) 1))
  refine wp_region_held (S:=fun V=>V.cell? ⟨w.heap.size,4,none⟩=some (.slice (some ⟨g,q,none⟩) n5 c5)∧V.cell? ⟨g,q+t*2,none⟩=some (.string nm)∧V.cell? ⟨g,q+t*2+1,none⟩=some (.slice a2 nc c2)) (by kernel_rfl) ?_
  change wpAnyH _ _ _ _ _ _ _ _ wr.drew
  change Hid (Cst _ _ _ _ _ _ _ _ wr.drew) at HC1
  obtain ⟨W3,hW3⟩:∃ W,W=wr.drew:=⟨_,rfl⟩
  have hWs:W3.heap.size=wr.heap.size:=by rw [hW3];rfl
  rw [← hW3] at HC1 ⊢
  clear hW3
  have HSX:=Lib.hid (HSV.out _ HC1.out.bel HC1.out.bx)
  change wpAnyH _ _ _ _ _ _ _ { tmps:=List.toArray (_::_::_::_::_::_::_::_::_::_::_::_::_::_::_::_::_::_::_::_::_::_::_::_::_::_::_::_::_::_::_::_::_::_::_::_::_::_::[]),defers:=[] } _
  refine dr_take 0 (.slice a6 L.length c6) rfl rfl (by kernel_rfl) (by kernel_rfl) (by kernel_rfl) (fun _ _ _ h=>h) (fun _ _=>by unfold execOp;go_simp) HSX.out ?_
  change wpAnyH _ _ _ _ _ _ _ { tmps:=List.toArray (_::_::_::_::_::_::_::_::_::_::_::_::_::_::_::_::_::_::_::_::_::_::_::_::_::_::_::_::_::_::_::_::_::_::_::_::_::_::[]),defers:=[] } _
  refine dr_take 1 (.pointer (some ⟨w.heap.size,4,none⟩)) rfl rfl (by kernel_rfl) (by kernel_rfl) (by kernel_rfl) (fun _ _ _ h=>h) (fun _ _=>by unfold execOp;go_simp) HSX.out ?_
  change wpAnyH _ _ _ _ _ _ _ { tmps:=List.toArray (_::_::_::_::_::_::_::_::_::_::_::_::_::_::_::_::_::_::_::_::_::_::_::_::_::_::_::_::_::_::_::_::_::_::_::_::_::_::[]),defers:=[] } _
  refine dr_take 2 (.slice (some ⟨g,q,none⟩) n5 c5) rfl rfl (by kernel_rfl) (by kernel_rfl) (by kernel_rfl) (fun _ _ _ h=>h) (fun W h=>by obtain ⟨h0,h1,h2⟩:=h;unfold execOp;go_simp) HSX.out ?_
  change wpAnyH _ _ _ _ _ _ _ { tmps:=List.toArray (_::_::_::_::_::_::_::_::_::_::_::_::_::_::_::_::_::_::_::_::_::_::_::_::_::_::_::_::_::_::_::_::_::_::_::_::_::_::[]),defers:=[] } _
  refine dr_take 3 (.int .i64 (t:Int)) rfl rfl (by kernel_rfl) (by kernel_rfl) (by kernel_rfl) (fun _ _ _ h=>h) (fun _ _=>by unfold execOp;go_simp) HSX.out ?_
  change wpAnyH _ _ _ _ _ _ _ { tmps:=List.toArray (_::_::_::_::_::_::_::_::_::_::_::_::_::_::_::_::_::_::_::_::_::_::_::_::_::_::_::_::_::_::_::_::_::_::_::_::_::_::[]),defers:=[] } _
  refine dr_take 4 (.pointer (some ⟨g,q+t*2,none⟩)) rfl rfl (by kernel_rfl) (by kernel_rfl) (by kernel_rfl) (fun _ _ _ h=>h) (fun _ _=>by unfold execOp;go_simp) HSX.out ?_
  change wpAnyH _ _ _ _ _ _ _ { tmps:=List.toArray (_::_::_::_::_::_::_::_::_::_::_::_::_::_::_::_::_::_::_::_::_::_::_::_::_::_::_::_::_::_::_::_::_::_::_::_::_::_::[]),defers:=[] } _
  refine dr_take 5 (.pointer (some ⟨g,q+t*2,none⟩)) rfl rfl (by kernel_rfl) (by kernel_rfl) (by kernel_rfl) (fun _ _ _ h=>h) (fun _ _=>by unfold execOp;go_simp) HSX.out ?_
  change wpAnyH _ _ _ _ _ _ _ { tmps:=List.toArray (_::_::_::_::_::_::_::_::_::_::_::_::_::_::_::_::_::_::_::_::_::_::_::_::_::_::_::_::_::_::_::_::_::_::_::_::_::_::[]),defers:=[] } _
  refine dr_take 6 (.string nm) rfl rfl (by kernel_rfl) (by kernel_rfl) (by kernel_rfl) (fun _ _ _ h=>h) (fun W h=>by obtain ⟨h0,h1,h2⟩:=h;unfold execOp;go_simp) HSX.out ?_
  change wpAnyH _ _ _ _ _ _ _ { tmps:=List.toArray (_::_::_::_::_::_::_::_::_::_::_::_::_::_::_::_::_::_::_::_::_::_::_::_::_::_::_::_::_::_::_::_::_::_::_::_::_::_::[]),defers:=[] } _
  refine dr_take 8 (.pointer (some ⟨w.heap.size,4,none⟩)) rfl rfl (by kernel_rfl) (by kernel_rfl) (by kernel_rfl) (fun _ _ _ h=>h) (fun _ _=>by unfold execOp;go_simp) HSX.out ?_
  change wpAnyH _ _ _ _ _ _ _ { tmps:=List.toArray (_::_::_::_::_::_::_::_::_::_::_::_::_::_::_::_::_::_::_::_::_::_::_::_::_::_::_::_::_::_::_::_::_::_::_::_::_::_::[]),defers:=[] } _
  refine dr_take 9 (.slice (some ⟨g,q,none⟩) n5 c5) rfl rfl (by kernel_rfl) (by kernel_rfl) (by kernel_rfl) (fun _ _ _ h=>h) (fun W h=>by obtain ⟨h0,h1,h2⟩:=h;unfold execOp;go_simp) HSX.out ?_
  change wpAnyH _ _ _ _ _ _ _ { tmps:=List.toArray (_::_::_::_::_::_::_::_::_::_::_::_::_::_::_::_::_::_::_::_::_::_::_::_::_::_::_::_::_::_::_::_::_::_::_::_::_::_::[]),defers:=[] } _
  refine dr_take 10 (.int .i64 (t:Int)) rfl rfl (by kernel_rfl) (by kernel_rfl) (by kernel_rfl) (fun _ _ _ h=>h) (fun _ _=>by unfold execOp;go_simp) HSX.out ?_
  change wpAnyH _ _ _ _ _ _ _ { tmps:=List.toArray (_::_::_::_::_::_::_::_::_::_::_::_::_::_::_::_::_::_::_::_::_::_::_::_::_::_::_::_::_::_::_::_::_::_::_::_::_::_::[]),defers:=[] } _
  refine dr_take 11 (.pointer (some ⟨g,q+t*2,none⟩)) rfl rfl (by kernel_rfl) (by kernel_rfl) (by kernel_rfl) (fun _ _ _ h=>h) (fun _ _=>by unfold execOp;go_simp) HSX.out ?_
  change wpAnyH _ _ _ _ _ _ _ { tmps:=List.toArray (_::_::_::_::_::_::_::_::_::_::_::_::_::_::_::_::_::_::_::_::_::_::_::_::_::_::_::_::_::_::_::_::_::_::_::_::_::_::[]),defers:=[] } _
  refine dr_take 12 (.pointer (some ⟨g,q+t*2+1,none⟩)) rfl rfl (by kernel_rfl) (by kernel_rfl) (by kernel_rfl) (fun _ _ _ h=>h) (fun _ _=>by unfold execOp;go_simp) HSX.out ?_
  change wpAnyH _ _ _ _ _ _ _ { tmps:=List.toArray (_::_::_::_::_::_::_::_::_::_::_::_::_::_::_::_::_::_::_::_::_::_::_::_::_::_::_::_::_::_::_::_::_::_::_::_::_::_::[]),defers:=[] } _
  refine dr_take 13 (.slice a2 nc c2) rfl rfl (by kernel_rfl) (by kernel_rfl) (by kernel_rfl) (fun _ _ _ h=>h) (fun W h=>by obtain ⟨h0,h1,h2⟩:=h;unfold execOp;go_simp) HSX.out ?_
  change wpAnyH _ _ _ _ _ _ _ { tmps:=List.toArray (_::_::_::_::_::_::_::_::_::_::_::_::_::_::_::_::_::_::_::_::_::_::_::_::_::_::_::_::_::_::_::_::_::_::_::_::_::_::[]),defers:=[] } _
  refine dr_one 7 rfl rfl (by kernel_rfl) ?_
  refine wv_val (run_bs0 rfl) ?_
  have alA:=(Below.refl _ W3).alloc (Nat.le_refl _) (.cells #[] 75)
  have hcA:=HC1.out.below alA
  have hownA:=World.ownsRow_lit (base:=W0.heap.size) (e:=75) (size:=9) W3 #[] 0 (by have:=HBX.out;omega) (Nat.zero_le _) rfl
  have hnewsA:(a2=none∧nc=0)∨∃ d,a2=some d∧∀ j u,(flatI cd)[j]? = some u→(W3.alloc (.cells #[] 75)).cell? (d.add j)=some u:=by
   have:=ins_news (insAt_below HI.out hcA.bel)
   rwa [← HNC.out] at this
  have hlA:W0.heap.size≤(W3.alloc (.cells #[] 75)).heap.size:=by rw [World.size_alloc];have:=HBX.out;omega
  have HS2:=Lib.hid (HSV.out _ hcA.bel hcA.bx)
  refine ⟨HS2.out,?_⟩
  change wpAnyH _ _ _ _ _ _ _ { tmps:=List.toArray (_::_::_::_::_::_::_::_::_::_::_::_::_::_::_::_::_::_::_::_::_::_::_::_::_::_::_::_::_::_::_::_::_::_::_::_::_::_::[]),defers:=[] } _
  refine dr_one 14 rfl rfl (by kernel_rfl) ?_
  refine wp_append_list _ _ 68 rfl W0.heap.size 75 i1 _ 9 64 Tryz.underlying68 hi1 hy0 hy1 hy2 rfl (by decide) (.slice (some ⟨W3.heap.size,0,none⟩) 0 0) 0 [] rfl hownA a2 nc c2 (flatI cd) rfl (by rw [flatI_len,HNC.out]) hnewsA (flatI_one cd) (by simp only [maxLen];omega) (by omega) hlA ?_
  intro u W4 hrB hgB
  rw [Nat.zero_add,List.nil_append] at hrB
  obtain ⟨a7,c7,rfl⟩:=row_slice hrB
  have hneB:∀ k,k<W3.heap.size→some k≠(Value.slice (some ⟨W3.heap.size,0,none⟩) 0 0).ownBlock:=fun k hk e=>by
   have e2:k=W3.heap.size:=by simpa [Value.ownBlock] using e
   omega
  have hgW:W3.grownBy W4 none:=⟨hgB.os,hgB.tape,hgB.output,by have:=hgB.size;rw [World.size_alloc] at this;omega,fun k hk _=>(hgB.block k (by rw [World.size_alloc];omega) (hneB k hk)).trans (alA.block k hk)⟩
  have hbB:Below W3.heap.size W3 W4:=⟨hgW.os,hgW.tape,hgW.output,hgW.size,fun k hk=>hgW.block k hk (by simp)⟩
  have hcB:=HC1.out.below hbB
  have HS3:=Lib.hid (HSV.out _ hcB.bel hcB.bx)
  clear hnewsA hownA hgB hgW hneB
  refine ⟨HS3.out,?_⟩
  change wpAnyH _ _ _ _ _ _ _ { tmps:=List.toArray (_::_::_::_::_::_::_::_::_::_::_::_::_::_::_::_::_::_::_::_::_::_::_::_::_::_::_::_::_::_::_::_::_::_::_::_::_::_::[]),defers:=[] } _
  refine dr_take 15 (.agg #[.string nm,.slice a7 nc c7]) rfl rfl (by kernel_rfl) (by kernel_rfl) (by kernel_rfl) (fun _ _ _ h=>h) (fun _ _=>by unfold execOp;go_simp) HS3.out ?_
  change wpAnyH _ _ _ _ _ _ _ { tmps:=List.toArray (_::_::_::_::_::_::_::_::_::_::_::_::_::_::_::_::_::_::_::_::_::_::_::_::_::_::_::_::_::_::_::_::_::_::_::_::_::_::[]),defers:=[] } _
  refine dr_one 16 rfl rfl (by kernel_rfl) ?_
  refine wv_val (run_bs1 rfl rfl) ?_
  have alC:=(Below.refl _ W4).alloc (Nat.le_refl _) (.cells #[.string nm,.slice a7 nc c7] 70)
  have hcC:=hcB.below alC
  have hrC:=row_below hrB alC
  have HS4:=Lib.hid (HSV.out _ hcC.bel hcC.bx)
  refine ⟨HS4.out,?_⟩
  change wpAnyH _ _ _ _ _ _ _ { tmps:=List.toArray (_::_::_::_::_::_::_::_::_::_::_::_::_::_::_::_::_::_::_::_::_::_::_::_::_::_::_::_::_::_::_::_::_::_::_::_::_::_::[]),defers:=[] } _
  refine dr_one 17 rfl rfl (by kernel_rfl) ?_
  have HNW:Hid (∀ j u,([.string nm,.slice a7 nc c7]:List Value)[j]? = some u→(W4.alloc (.cells #[.string nm,.slice a7 nc c7] 70)).cell? ((⟨W4.heap.size,0,none⟩:Addr).add j)=some u):=fun j u hj=>by
   rw [addr_add,Nat.zero_add]
   exact row_cellsO (Own.new W4 70 #[.string nm,.slice a7 nc c7]) j u (by simpa using hj)
  refine wp_append_own (W4.alloc (.cells #[.string nm,.slice a7 nc c7] 70)) _ _ 23 rfl W0.heap.size 70 i2 _ 2 40 Tryz.underlying23 hi2 hx0 hx1 hx2 rfl (by decide) (.slice a6 L.length c6) L.length (flatC L) rfl hcC.cp.cors ⟨W4.heap.size,0,none⟩ 1 1 [.string nm,.slice a7 nc c7] rfl rfl HNW.out (by simp [Value.oneCell']) (by have:=HLT.out;simp only [maxLen];omega) (by have:=HLT.out;omega) (by rw [World.size_alloc];have:=hbB.size;have:=HBX.out;omega) ?_
  intro v3 W5 hrD hgD _
  have hcE:=hcC.more (by have:=HOS.out;omega) ⟨nm,cd⟩ (.slice a7 nc c7) (by have h:=hrC;rw [HNC.out] at h;rw [HNC.out];exact h) hgD hrD
  have HS5:=Lib.hid (HSV.out _ hcE.bel hcE.bx)
  clear hrC hrD hgD hcC hcB alC hrB hbB HNW hcA alA hWs
  refine ⟨HS5.out,?_⟩
  change wpAnyH _ _ _ _ _ _ _ { tmps:=List.toArray (_::_::_::_::_::_::_::_::_::_::_::_::_::_::_::_::_::_::_::_::_::_::_::_::_::_::_::_::_::_::_::_::_::_::_::_::_::_::[]),defers:=[] } _
  refine dr_one 18 rfl rfl (by kernel_rfl) ?_
  refine wv_val (v:=v3) (by unfold execOp;go_simp) ⟨HS5.out,?_⟩
  refine wpAnyH_done (by kernel_rfl) ?_ _
  have HQE:=Lib.hid hcE
  clear hcE HC HC1 HSV HI HSX HS2 HS3 HS4
  go_wp2_with fail
  go_roundg (n5-(t+1)+1)
  case measure=>have:=HM.out;omega
  case rel=>exact ⟨t+1,_,by simp,by omega,by omega,by rw [HTK.out];exact HQE.out⟩
end Go.Proofs.YtmpljhfinmfnbaaGreatDoor

/- The proof, part 13: texts that belong together, in one. -/
import Derived.Test.YtmpljhfinmfnbaaGreatDoorQAL
set_option maxRecDepth 100000
set_option maxHeartbeats 20000000
namespace Go.Proofs.YtmpljhfinmfnbaaGreatDoor
open Go.RowKit
set_option linter.unusedVariables false
set_option maxRecDepth 100000
theorem yq_app {w W w2:World} {b:Nat} {v v':Value} {cur:List UInt8} {s:ByteArray} (hk:Keep (selW b) w W) (hb:Below b w W) (hbk:Own W b 63 #[v]) (hown:W.ownsRow (b+1) 5 1 v cur.length (Lib.byteCells cur)) (hown':w2.ownsRow (b+1) 5 1 v' (cur.length+s.size) (Lib.byteCells cur++Lib.strCells s)) (hgrow:W.grownBy w2 v.ownBlock) :
 Own w2 b 63 #[v]∧(∃ ao n' cap,v'=.slice ao n' cap)∧Yq w b (cur++s.data.toList) (w2.setCell ⟨b,0,none⟩ v'):=by
 have hlt:b<W.heap.size:=hbk.lt
 have hne:v.ownBlock≠some b:=by
  intro e
  obtain ⟨h1,_⟩:=hown.lt _ e
  omega
 have hb2:Own w2 b 63 #[v]:=(hgrow.block b hlt (fun e=>hne e.symm)).trans hbk
 have kG:Keep (selW b) w w2:=hk.grown hgrow (row_bytesW hown b (fun _ _ _ ho=>ho))
 have HB:Below b w w2:=hb.grown hgrow (by omega) (fun k hk=>by have:=(hown.lt k hk).1;omega)
 refine ⟨hb2,?_,⟨⟨v',heap_setCell_same w2 b 0 _ _ _ hb2,?_⟩,kG.setCell (p:=⟨b,0,none⟩) _ hb2 (fun hs=>hs.1 rfl),HB.setCell (p:=⟨b,0,none⟩) (Nat.le_refl b) _⟩⟩
 · rcases hown'.2 with ⟨hv, _⟩ | ⟨g, cap, cur, hv, _⟩
   · exact ⟨_,_,_,hv⟩
   · exact ⟨_,_,_,hv⟩
 · have h3 : (cur ++ s.data.toList).length = cur.length + s.size := by rw [List.length_append, Array.length_toList]; rfl
   rw [h3,← bytes_append,← strCells_bytes]
   exact ownsRow_setCell_below hown' (show b<b+1 by omega) _
section
variable {o:Oper} {a:Act} {w:World} {K:Act→World→Prop} {Q:Exit→Act→World→Prop}
theorem wv_val {P:Program} {w':World} {v:Value} (hrun:(execOp a.eval o).run P w=.ok (.value v) w') (h:K (a.put o.dst v) w'):o.wp P a w K Q:=by
 unfold Oper.wp
 rw [hrun]
 exact h
theorem wp_ld_bs {x:Operand} (ho:o.op=.load 26 x) {p:Addr} (hx:a.eval x=.pointer (some p)) {v:Value} (hv:w.cell? p=some v) (h:K (a.put o.dst v) w):o.wp Tryz.prog a w K Q:=by
 have hrun:(execOp a.eval o).run Tryz.prog w=.ok (.value v) w:=by
  unfold execOp
  simp only [ho,hx]
  go_simp
 unfold Oper.wp
 rw [hrun]
 exact h
theorem wp_st_bs {x y:Operand} (ho:o.op=.store 26 x y) {p:Addr} (hx:a.eval x=.pointer (some p)) {s:Option Addr} {n cp:Nat} (hy:a.eval y=.slice s n cp) {u:Value} (hu:w.cell? p=some u) (hf:w.frozen? p=false) (h:K (a.put o.dst undef) (w.setCell p (.slice s n cp))):o.wp Tryz.prog a w K Q:=by
 have hrun:(execOp a.eval o).run Tryz.prog w=.ok .skip (w.setCell p (.slice s n cp)):=by
  unfold execOp
  simp only [ho,hx,hy]
  go_simp
 unfold Oper.wp
 rw [hrun]
 exact h
theorem wp_app_str {P:Program} (sl x:Operand) (t u:TypeId)
 (ho:o.op=.call { callee:=.builtin .append,args:=#[sl,x],argTypes:=#[t,u] })
 (base:Nat) (e:TypeId) (i:TypeInfo) (ht:P.underlying t=some (.slice e)) (hu:P.underlying u=some .string) (hi:P.info? e=some i) (hz:i.zero=some (.int .u8 0))
 (hsize:i.size=1) (hby:i.bytes=1)
 (v:Value) (n:Nat) (xs:List Value) (hs:a.eval sl=v) (hown:w.ownsRow base e 1 v n xs) (s:ByteArray) (hx:a.eval x=.string s)
 (h63:n+s.size≤maxLen) (hbytes:n+s.size≤140737488355328) (hbase:base≤w.heap.size)
 (h:∀ v' w',w'.ownsRow base e 1 v' (n+s.size) (xs++Lib.strCells s)→w.grownBy w' v.ownBlock→(v'=.slice none 0 0↔v=.slice none 0 0∧s.size=0)→K (a.put o.dst v') w'):o.wp P a w K Q:=by
 obtain ⟨v',w',hr,h2,h3,h4⟩:=Lib.run_append_own_string (P:=P) (w:=w) base t u o.type e i ht hu hi hz hsize hby v n xs hown s h63 hbytes hbase
 unfold Oper.wp execOp
 simp only [ho,resolve,invoke,builtin,Sem.run_bind,Sem.run_pure,Result.andThen_ok,List.map_toArray,List.map_cons,List.map_nil,hs,hx,hr]
 exact h v' w' h2 h3 h4
end
def corY (c:Cor):List UInt8:=numY c.name.size++c.name.data.toList++numY c.code.length++c.code.flatMap insY
def obY (o:Ob):List UInt8:=([115,116,105,108]:List UInt8)++[o.sh,o.lk,o.bf,(o.mem.length:Int)].flatMap numY++o.mem.flatMap wrdY++numY o.cores.length++o.cores.flatMap corY
theorem y_object (o:Ob) (hg:rgO o) (ht:topB o=true) {wt w:World} {b:Nat} {v:Value} (hb0:b=wt.heap.size) (hbw:Below b wt w) (hv:obA wt o v) (hw:Yt b [] w) (HT:∀ X,Below b w X→TgT X) :
 Calls Tryz.prog 24 #[.pointer (some ⟨b,0,none⟩),v] w fun e w'=>e=.returned (.tuple #[])∧Yq w b (obY o) w':=by
 obtain ⟨i0,hi,hz0,hz1,hz2⟩:=info_parts infoU8'
 obtain ⟨a1,c1,a5,c5,rfl,h1,h5⟩:=hv
 obtain ⟨l1,l5,lc⟩:=chk_fit ht
 obtain ⟨gm,gs,gk,gb,gi⟩:=hg
 obtain ⟨mem,sh,lk,bf,cores⟩:=o
 simp only [obV,obY] at *
 have HL1:Hid (∀ j,((mem.take j).flatMap wrdY).length≤409600):=fun j=>by
  have:=flat_len wrdY 100 (mem.take j) fun x _=>(numY_len x).2
  have h2:(mem.take j).length≤4096:=by rw [List.length_take];omega
  omega
 have HCL:∀ c∈cores,∀ j,((c.code.take j).flatMap insY).length≤16400384:=fun c hc j=>by
  have:=flat_len insY 1000 (c.code.take j) fun i hi=>insY_len i (gi c hc i (List.mem_of_mem_take hi))
  have h2:(c.code.take j).length≤16384:=by rw [List.length_take];have:=(lc c hc).2;omega
  omega
 have HL5:Hid (∀ j,((cores.take j).flatMap corY).length≤200000000):=fun j=>by
  have:=flat_len corY 16500000 (cores.take j) fun c hc=>by
   have hc':=List.mem_of_mem_take hc
   have h1:=HCL c hc' c.code.length
   rw [List.take_length] at h1
   have h2:=(lc c hc').1
   have h3:c.name.data.toList.length=c.name.size:=Array.length_toList
   have h4:=(numY_len c.name.size).1
   have h5:=(numY_len c.code.length).1
   simp only [corY,List.length_append]
   omega
  have h2:(cores.take j).length≤8:=by rw [List.length_take];omega
  omega
 obtain ⟨n1,hn1⟩:∃ n,n=mem.length:=⟨_,rfl⟩
 obtain ⟨n5,hn5⟩:∃ n,n=cores.length:=⟨_,rfl⟩
 rw [← hn1] at l1 ⊢
 rw [← hn5] at l5 ⊢
 have HN:=Lib.hid (And.intro hn1 hn5)
 have hq0:=(yq_new hw).below ((Below.refl _ w).alloc (Nat.le_refl _) (.cells #[.slice a1 n1 c1,.int .i64 sh,.int .i64 lk,.int .i64 bf,.slice a5 n5 c5] 25))
 have ho0:=Own.new w 25 #[.slice a1 n1 c1,.int .i64 sh,.int .i64 lk,.int .i64 bf,.slice a5 n5 c5]
 have hnb:w.heap.size≠b:=by have:=hw.lt;omega
 obtain ⟨W0,hW0⟩:∃ W,W=w.alloc (.cells #[.slice a1 n1 c1,.int .i64 sh,.int .i64 lk,.int .i64 bf,.slice a5 n5 c5] 25):=⟨_,rfl⟩
 rw [← hW0] at hq0 ho0
 have HQW:=Lib.hid hq0
 have B0:=hq0.bel
 have HTT:Hid (∀ X,Below b W0 X→TgT X):=fun X h=>HT X (B0.trans h)
 have HBT:Hid (∀ X,Below b W0 X→Below b wt X):=fun X h=>(hbw.trans B0).trans h
 have HN4:Hid (∀ X t,Yq W0 b t X→t.length≤60000000000000→Calls Tryz.prog 65 #[.pointer (some ⟨b,0,none⟩),.slice (some ⟨X.heap.size,0,none⟩) 4 4] (X.alloc (.cells #[.int .i64 sh,.int .i64 lk,.int .i64 bf,.int .i64 n1] 3)) fun e w'=>e=.returned (.tuple #[])∧Yq W0 b (t++[sh,lk,bf,(n1:Int)].flatMap numY) w'):=fun X t h ht =>
  ynums_new [sh,lk,bf,(n1:Int)] h rfl (fun y hy=>by
   simp only [List.mem_cons,List.not_mem_nil,or_false] at hy
   rcases hy with rfl | rfl | rfl | rfl
   · exact gs
   · exact gk
   · exact gb
   · constructor <;> omega) (by simp) ht 4
 have HNS:Hid (∀ X t x,Yq W0 b t X→(-9223372036854775808≤x∧x≤9223372036854775807)→t.length≤60000000000000→Calls Tryz.prog 65 #[.pointer (some ⟨b,0,none⟩),.slice (some ⟨X.heap.size,0,none⟩) 1 1] (X.alloc (.cells #[.int .i64 x] 3)) fun e w'=>e=.returned (.tuple #[])∧Yq W0 b (t++numY x) w'):=fun X t x h hx ht=>by
  have:=ynums_new [x] h rfl (fun y hy=>by rw [List.mem_singleton.1 hy];exact hx) (by simp) ht 1
  simpa using this
 have HOB:Hid (∀ X t,Yq W0 b t X→Own X w.heap.size 25 #[.slice a1 n1 c1,.int .i64 sh,.int .i64 lk,.int .i64 bf,.slice a5 n5 c5]):=fun X t h=>h.own ho0 hnb nu_O
 have HQ0:=Lib.hid (yq_new hq0.wt)
 have HW0:=Lib.hid hW0
 have HG:=Lib.hid (And.intro gm gi)
 have HLC:=Lib.hid lc
 have HCC:=Lib.hid HCL
 have E1:=Lib.hid h1
 have E5:=Lib.hid h5
 have HB0:=Lib.hid hb0
 obtain ⟨⟨v,hbk,hown⟩,hkp,hbl⟩:=HQ0.out
 have hlt:b<W0.heap.size:=hbk.lt
 have c0:W0.cell? ⟨b,0,none⟩=some v:=by rw [cell_of_row _ _ 0 _ _ _ hbk];rfl
 clear hn1 hn5 hw ht hb0 hbw h1 h5 HT hq0 ho0 hnb hW0 B0 gm gs gk gb gi lc HCL
 have hsl:([]:List UInt8).length+(⟨#[115,116,105,108]⟩:ByteArray).size≤100:=by decide
 go_enter Tryz.func24,Tryz.ntmps24
 go_upto_region 1 with (fail)
 rw [← HW0.out]
 clear HW0
 go_wp2_with (at_builtin;refine Lib.wpList_append_own_string _ rfl _ _ 26 9 rfl (b+1) 5 i0 Tryz.underlying26 Tryz.underlying9 hi hz0 hz1 hz2 _ _ _ rfl hown (⟨#[115,116,105,108]⟩:ByteArray) rfl ?c3 ?c4 ?c5 ?_)
 case c3=>unfold maxLen;omega
 case c4=>omega
 case c5=>omega
 intro v' w2 hown' hgrow hiff
 obtain ⟨hb2,⟨ao,n',cap,rfl⟩,hyq⟩:=yq_app hkp hbl hbk hown hown' hgrow
 have d0:w2.cell? ⟨b,0,none⟩=some v:=by rw [cell_of_row _ _ 0 _ _ _ hb2];rfl
 have f1:w2.frozen? ⟨b,0,none⟩=false:=own_frozen hb2 0
 have HYQ:=Lib.hid hyq
 clear hyq hown' hgrow hiff hb2 hbk hown hkp hbl
 have HQ1:Hid (Yq W0 b ([115,116,105,108]:List UInt8) _):=HYQ
 obtain ⟨w3,hw3⟩:∃ W,W=w2.setCell ⟨b,0,none⟩ (.slice ao n' cap):=⟨_,rfl⟩
 rw [← hw3] at HQ1
 have HW3:=Lib.hid hw3
 clear hw3 HYQ
 have q0:w3.cell? ⟨w.heap.size,0,none⟩=some (.slice a1 n1 c1):=by rw [cell_of_row _ _ 0 _ _ _ (HOB.out _ _ HQ1.out)];rfl
 have q1:w3.cell? ⟨w.heap.size,1,none⟩=some (.int .i64 sh):=by rw [cell_of_row _ _ 1 _ _ _ (HOB.out _ _ HQ1.out)];rfl
 have q2:w3.cell? ⟨w.heap.size,2,none⟩=some (.int .i64 lk):=by rw [cell_of_row _ _ 2 _ _ _ (HOB.out _ _ HQ1.out)];rfl
 have q3:w3.cell? ⟨w.heap.size,3,none⟩=some (.int .i64 bf):=by rw [cell_of_row _ _ 3 _ _ _ (HOB.out _ _ HQ1.out)];rfl
 have q4:w3.cell? ⟨w.heap.size,4,none⟩=some (.slice a5 n5 c5):=by rw [cell_of_row _ _ 4 _ _ _ (HOB.out _ _ HQ1.out)];rfl
 go_upto_region 2 with (fail)
 rw [← HW3.out]
 clear HW3 d0 f1
 go_wp2_with fail
 go_at_call 65
 refine (HN4.out _ _ HQ1.out (by decide)).mono ?_
 rintro e w4 ⟨rfl,hz⟩
 obtain ⟨t5,ht5⟩:∃ t,t=([115,116,105,108]:List UInt8)++[sh,lk,bf,(n1:Int)].flatMap numY:=⟨_,rfl⟩
 have HQ5:Hid (Yq W0 b t5 w4):=by rw [Hid,ht5];exact hz
 have HT5:Hid (t5=([115,116,105,108]:List UInt8)++[sh,lk,bf,(n1:Int)].flatMap numY∧t5.length≤500):=by
  refine ⟨ht5,?_⟩
  have h:=flat_len numY 100 [sh,lk,bf,(n1:Int)] fun x _=>(numY_len x).1
  rw [ht5,List.length_append]
  simp only [List.length_cons,List.length_nil] at h ⊢
  omega
 clear hz ht5 HQ1 q0 q1 q2 q3 q4 HN4
 have q0:w4.cell? ⟨w.heap.size,0,none⟩=some (.slice a1 n1 c1):=by rw [cell_of_row _ _ 0 _ _ _ (HOB.out _ _ HQ5.out)];rfl
 have q1:w4.cell? ⟨w.heap.size,1,none⟩=some (.int .i64 sh):=by rw [cell_of_row _ _ 1 _ _ _ (HOB.out _ _ HQ5.out)];rfl
 have q2:w4.cell? ⟨w.heap.size,2,none⟩=some (.int .i64 lk):=by rw [cell_of_row _ _ 2 _ _ _ (HOB.out _ _ HQ5.out)];rfl
 have q3:w4.cell? ⟨w.heap.size,3,none⟩=some (.int .i64 bf):=by rw [cell_of_row _ _ 3 _ _ _ (HOB.out _ _ HQ5.out)];rfl
 have q4:w4.cell? ⟨w.heap.size,4,none⟩=some (.slice a5 n5 c5):=by rw [cell_of_row _ _ 4 _ _ _ (HOB.out _ _ HQ5.out)];rfl
 go_wp2_with fail
 go_loopg [33] (n1+1) (fun m' z X=>∃ j:Nat,z=.int .i64 (j:Int)∧j≤n1∧m'=n1-j+1∧Yq W0 b (t5++(mem.take j).flatMap wrdY) X)
 case atStart=>exact ⟨0,rfl,Nat.zero_le _,by omega,by simpa using HQ5.out⟩
 case round =>
  clear HQ5 q0 q1 q2 q3 q4
  obtain ⟨j,rfl,hj,hm,hq⟩:=hrel
  have HM:=Lib.hid hm
  have HQ:=Lib.hid hq
  clear hm hq
  by_cases hjn:j<n1
  · have il : j < mem.length := by have := HN.out.1; omega
    have g1:mem[j]? = some mem[j]:=List.getElem?_eq_getElem il
    have hx : -9223372036854775808≤mem[j]∧mem[j]≤9223372036854775807:=HG.out.1 _ (List.getElem_mem il)
    have HTK:Hid (t5++(mem.take (j+1)).flatMap wrdY=t5++(mem.take j).flatMap wrdY++wrdY mem[j]):=by rw [Hid,take_flat wrdY g1,List.append_assoc]
    generalize mem[j]=x at g1 hx HTK
    rcases E1.out with e | ⟨g,q,e,e1⟩
    · subst e;simp at il
    obtain rfl:a1=some ⟨g,q,none⟩:=e
    have k0:=e1 j x g1
    have k0':wr.cell? ⟨g,q+j,none⟩=some (.int .i64 x):=((HBT.out _ HQ.out.bel).cell (p:=⟨g,q+j,none⟩) (by rw [HB0.out];exact lt_of_at k0)).trans k0
    have hjn':(j:Int)<(n1:Int):=by omega
    have HB:=Lib.hid ((Below.refl wr.heap.size wr).alloc (Nat.le_refl _) (.cells #[.int .i64 x] 2))
    have O6:=Own.new wr 2 #[.int .i64 x]
    have hlb:=HQ.out.wt.lt
    obtain ⟨W3,hW3⟩:∃ W,W=wr.alloc (.cells #[.int .i64 x] 2):=⟨_,rfl⟩
    rw [← hW3] at HB O6
    have HW3:=Lib.hid hW3
    have hl5:=HT5.out.2
    have hl1:=HL1.out j
    have HNN:=Lib.hid (ywrd_here (HQ.out.below HB.out) O6 (o:=0) rfl (by omega) nu_w hx (by rw [List.length_append];omega))
    clear hW3 O6 HB HQ hlb k0 g1 e1 il hl5 hl1
    go_upto_region 6 with (fail)
    rw [← HW3.out]
    clear HW3
    go_wp2_with fail
    go_at_call 66
    refine HNN.out.mono ?_
    rintro e w4 ⟨rfl,hz⟩
    rw [← HTK.out] at hz
    have HZ:=Lib.hid hz
    clear hz
    go_wp2_with fail
    go_roundg (n1-(j+1)+1)
    case measure=>have:=HM.out;omega
    case rel=>exact ⟨j+1,by simp,by omega,by omega,HZ.out⟩
  obtain rfl:n1=j:=by omega
  have q0:wr.cell? ⟨w.heap.size,0,none⟩=some (.slice a1 n1 c1):=by rw [cell_of_row _ _ 0 _ _ _ (HOB.out _ _ HQ.out)];rfl
  have q1:wr.cell? ⟨w.heap.size,1,none⟩=some (.int .i64 sh):=by rw [cell_of_row _ _ 1 _ _ _ (HOB.out _ _ HQ.out)];rfl
  have q2:wr.cell? ⟨w.heap.size,2,none⟩=some (.int .i64 lk):=by rw [cell_of_row _ _ 2 _ _ _ (HOB.out _ _ HQ.out)];rfl
  have q3:wr.cell? ⟨w.heap.size,3,none⟩=some (.int .i64 bf):=by rw [cell_of_row _ _ 3 _ _ _ (HOB.out _ _ HQ.out)];rfl
  have q4:wr.cell? ⟨w.heap.size,4,none⟩=some (.slice a5 n5 c5):=by rw [cell_of_row _ _ 4 _ _ _ (HOB.out _ _ HQ.out)];rfl
  go_wp2_with fail
  go_at_call 65
  refine (HNS.out _ _ _ HQ.out (by constructor <;> omega) (by have h5:=HT5.out.2;have h1:=HL1.out n1;rw [List.length_append];omega)).mono ?_
  rintro e w6 ⟨rfl,hz⟩
  obtain ⟨t6,ht6⟩:∃ t,t=t5++(mem.take n1).flatMap wrdY++numY n5:=⟨_,rfl⟩
  have HQ6:Hid (Yq W0 b t6 w6):=by rw [Hid,ht6];exact hz
  have HT6:Hid (t6=([115,116,105,108]:List UInt8)++[sh,lk,bf,(n1:Int)].flatMap numY++mem.flatMap wrdY++numY n5∧t6.length≤500000):=by
   have h5:=HT5.out.2
   have h1:=HL1.out n1
   have h2:=(numY_len n5).1
   have hm:mem.take n1=mem:=by rw [HN.out.1,List.take_length]
   refine ⟨by rw [ht6,HT5.out.1,hm],?_⟩
   rw [ht6]
   simp only [List.length_append]
   omega
  clear hz ht6 HQ HM HT5 hj hjn E1 q0 q1 q2 q3 q4
  have q0:w6.cell? ⟨w.heap.size,0,none⟩=some (.slice a1 n1 c1):=by rw [cell_of_row _ _ 0 _ _ _ (HOB.out _ _ HQ6.out)];rfl
  have q1:w6.cell? ⟨w.heap.size,1,none⟩=some (.int .i64 sh):=by rw [cell_of_row _ _ 1 _ _ _ (HOB.out _ _ HQ6.out)];rfl
  have q2:w6.cell? ⟨w.heap.size,2,none⟩=some (.int .i64 lk):=by rw [cell_of_row _ _ 2 _ _ _ (HOB.out _ _ HQ6.out)];rfl
  have q3:w6.cell? ⟨w.heap.size,3,none⟩=some (.int .i64 bf):=by rw [cell_of_row _ _ 3 _ _ _ (HOB.out _ _ HQ6.out)];rfl
  have q4:w6.cell? ⟨w.heap.size,4,none⟩=some (.slice a5 n5 c5):=by rw [cell_of_row _ _ 4 _ _ _ (HOB.out _ _ HQ6.out)];rfl
  go_wp2_with fail
  go_loopg [49] (n5+1) (fun m' z X=>∃ j:Nat,z=.int .i64 (j:Int)∧j≤n5∧m'=n5-j+1∧Yq W0 b (t6++(cores.take j).flatMap corY) X)
  case atStart=>exact ⟨0,rfl,Nat.zero_le _,by omega,by simpa using HQ6.out⟩
  case round =>
   clear HQ6 q0 q1 q2 q3 q4
   obtain ⟨j,rfl,hj,hm,hq⟩:=hrel
   have HM:=Lib.hid hm
   have HQ:=Lib.hid hq
   clear hm hq
   by_cases hjn:j<n5
   · have il : j < cores.length := by have := HN.out.2; omega
     have g1:cores[j]? = some cores[j]:=List.getElem?_eq_getElem il
     have hmem:cores[j]∈cores:=List.getElem_mem il
     have htk:=take_flat corY g1
     generalize cores[j]=x at g1 hmem htk
     rcases E5.out with e | ⟨g,q,e,e1⟩
     · subst e;simp at il
     obtain rfl:a5=some ⟨g,q,none⟩:=e
     obtain ⟨f0,a2,c2,f1,y2⟩:=e1 j x g1
     have hlc:=HLC.out x hmem
     have hri:=HG.out.2 x hmem
     have hcl:=HCC.out x hmem
     have hl5:=HL5.out j
     obtain ⟨nm,cd⟩:=x
     simp only [corY] at f0 f1 y2 hlc hri hcl htk
     have BT:=HBT.out _ HQ.out.bel
     have k0':wr.cell? ⟨g,q+j*2,none⟩=some (.string nm):=(BT.cell (p:=⟨g,q+j*2,none⟩) (by rw [HB0.out];exact lt_of_at f0)).trans f0
     have k1':wr.cell? ⟨g,q+j*2+1,none⟩=some (.slice a2 cd.length c2):=(BT.cell (p:=⟨g,q+j*2+1,none⟩) (by rw [HB0.out];exact lt_of_at f1)).trans f1
     have hjn':(j:Int)<(n5:Int):=by omega
     obtain ⟨nc,hnc⟩:∃ n,n=cd.length:=⟨_,rfl⟩
     rw [← hnc] at k1' hlc htk
     have HNC:=Lib.hid hnc
     have ln:nc≤16384:=hlc.2
     have lnm:nm.size≤32:=hlc.1
     have hqa:=HQ.out.below ((Below.refl wr.heap.size wr).alloc (Nat.le_refl _) (.cells #[.string nm,.slice a2 nc c2] 70))
     have OC:=Own.new wr 70 #[.string nm,.slice a2 nc c2]
     have hgb:wr.heap.size≠b:=by have:=HQ.out.wt.lt;omega
     obtain ⟨W3,hW3⟩:∃ W,W=wr.alloc (.cells #[.string nm,.slice a2 nc c2] 70):=⟨_,rfl⟩
     rw [← hW3] at hqa OC
     have HW3:=Lib.hid hW3
     have HQA:=Lib.hid hqa
     have hq3:=yq_new hqa.wt
     have B3:=hqa.bel
     have HTT3:Hid (∀ X,Below b W3 X→TgT X):=fun X h=>HTT.out X (B3.trans h)
     have HBT3:Hid (∀ X,Below b W3 X→Below b wt X):=fun X h=>HBT.out X (B3.trans h)
     have HNS3:Hid (∀ X t x,Yq W3 b t X→(-9223372036854775808≤x∧x≤9223372036854775807)→t.length≤60000000000000→Calls Tryz.prog 65 #[.pointer (some ⟨b,0,none⟩),.slice (some ⟨X.heap.size,0,none⟩) 1 1] (X.alloc (.cells #[.int .i64 x] 3)) fun e w'=>e=.returned (.tuple #[])∧Yq W3 b (t++numY x) w'):=fun X t x h hx ht=>by
      have:=ynums_new [x] h rfl (fun y hy=>by rw [List.mem_singleton.1 hy];exact hx) (by simp) ht 1
      simpa using this
     have HC01:Hid (∀ X t,Yq W3 b t X→X.cell? ⟨wr.heap.size,0,none⟩=some (.string nm)∧X.cell? ⟨wr.heap.size,1,none⟩=some (.slice a2 nc c2)):=fun X t h=>by
      have O:=h.own OC hgb nu_C
      exact ⟨by rw [cell_of_row _ _ 0 _ _ _ O];rfl,by rw [cell_of_row _ _ 1 _ _ _ O];rfl⟩
     have HGB:=Lib.hid hgb
     obtain ⟨t7,ht7⟩:∃ t,t=t6++(cores.take j).flatMap corY:=⟨_,rfl⟩
     have HL7:Hid (t7.length≤300000000):=by rw [Hid,ht7,List.length_append];have:=HT6.out.2;omega
     rw [← ht7] at HQA HQ hq3
     have HQ3:=Lib.hid hq3
     have HTK:Hid (t6++(cores.take (j+1)).flatMap corY=t7++numY nm.size++nm.data.toList++numY nc++cd.flatMap insY):=by
      rw [Hid,htk,ht7]
      simp only [List.append_assoc]
     have E2:=Lib.hid y2
     have HRI:=Lib.hid hri
     have HCL:=Lib.hid hcl
     have p0:=(HC01.out _ _ HQ3.out).1
     have hns:(-9223372036854775808:Int)≤nm.size∧(nm.size:Int)≤9223372036854775807:=by constructor <;> omega
     have hnk:(-9223372036854775808:Int)≤nc∧(nc:Int)≤9223372036854775807:=by constructor <;> omega
     clear hW3 hqa OC hgb hq3 B3 ht7 htk y2 hri hcl hlc hl5 BT f0 f1 e1 g1 hmem hnc il HQ
     go_upto_region 12 with (fail)
     rw [← HW3.out]
     clear HW3 k0' k1'
     go_wp2_with fail
     go_at_call 65
     refine (HNS3.out _ _ _ HQ3.out hns (by have:=HL7.out;omega)).mono ?_
     rintro e w7 ⟨rfl,hz⟩
     have HQ7:=Lib.hid hz
     have HL8:Hid ((t7++numY nm.size).length≤300000100):=by have:=HL7.out;have:=(numY_len nm.size).1;rw [Hid,List.length_append];omega
     obtain ⟨t8,ht8⟩:∃ t,t=t7++numY nm.size:=⟨_,rfl⟩
     rw [← ht8] at HQ7 HL8 HTK
     clear hz p0 HQ3 ht8
     have hdr:=HQ7.out.below (below_drewN (Below.refl _ w7) 1)
     change Yq W3 b _ w7.drew at hdr
     have p0:=(HC01.out _ _ HQ7.out).1
     obtain ⟨⟨v,hbk7,hown7⟩,_,_⟩:=HQ7.out
     have c0:w7.cell? ⟨b,0,none⟩=some v:=by rw [cell_of_row _ _ 0 _ _ _ hbk7];rfl
     have hbk:Own w7.drew b 63 #[v]:=hbk7
     have hown:w7.drew.ownsRow (b+1) 5 1 v t8.length (Lib.byteCells t8):=hown7
     have hkp:=hdr.keep
     have hbl:=hdr.bel
     have hlt:b<w7.drew.heap.size:=hbk.lt
     have hsl:t8.length+nm.size≤400000000:=by have:=HL8.out;omega
     clear hbk7 hown7 hdr
     go_upto_region 13 with (fail)
     have c0:w7.drew.cell? ⟨b,0,none⟩=some v:=c0
     have p0:w7.drew.cell? ⟨wr.heap.size,0,none⟩=some (.string nm):=p0
     have HP0:=Lib.hid p0
     have HSY:Hid (∀ X t,Yq W3 b t X→X.cell? ⟨wr.heap.size,0,none⟩=some (.string nm)):=fun X t h=>(HC01.out X t h).1
     refine wp_region_held (S:=fun V=>V.cell? ⟨wr.heap.size,0,none⟩=some (.string nm)) (by kernel_rfl) ?_
     change wpAnyH _ _ _ _ _ _ _ _ w7.drew
     change wpAnyH _ _ _ _ _ _ _ { tmps:=List.toArray (_::_::_::_::_::_::_::_::_::_::_::_::_::_::_::_::_::_::_::_::_::_::_::_::_::_::_::_::_::_::_::_::_::_::_::_::_::_::_::_::_::_::_::_::_::_::_::_::_::_::_::_::_::_::_::_::_::_::_::_::_::_::_::_::_::_::_::_::_::_::_::_::_::_::_::_::_::_::_::_::_::_::_::_::_::_::_::[]),defers:=[] } _
     refine dr_take 0 (.pointer (some ⟨b,0,none⟩)) rfl rfl (by kernel_rfl) (by kernel_rfl) (by kernel_rfl) (fun _ _ _ h=>h) (fun _ _=>by unfold execOp;go_simp) HP0.out ?_
     change wpAnyH _ _ _ _ _ _ _ { tmps:=List.toArray (_::_::_::_::_::_::_::_::_::_::_::_::_::_::_::_::_::_::_::_::_::_::_::_::_::_::_::_::_::_::_::_::_::_::_::_::_::_::_::_::_::_::_::_::_::_::_::_::_::_::_::_::_::_::_::_::_::_::_::_::_::_::_::_::_::_::_::_::_::_::_::_::_::_::_::_::_::_::_::_::_::_::_::_::_::_::_::[]),defers:=[] } _
     refine dr_take 1 (.pointer (some ⟨b,0,none⟩)) rfl rfl (by kernel_rfl) (by kernel_rfl) (by kernel_rfl) (fun _ _ _ h=>h) (fun _ _=>by unfold execOp;go_simp) HP0.out ?_
     change wpAnyH _ _ _ _ _ _ _ { tmps:=List.toArray (_::_::_::_::_::_::_::_::_::_::_::_::_::_::_::_::_::_::_::_::_::_::_::_::_::_::_::_::_::_::_::_::_::_::_::_::_::_::_::_::_::_::_::_::_::_::_::_::_::_::_::_::_::_::_::_::_::_::_::_::_::_::_::_::_::_::_::_::_::_::_::_::_::_::_::_::_::_::_::_::_::_::_::_::_::_::_::[]),defers:=[] } _
     refine dr_take 2 (.pointer (some ⟨b,0,none⟩)) rfl rfl (by kernel_rfl) (by kernel_rfl) (by kernel_rfl) (fun _ _ _ h=>h) (fun _ _=>by unfold execOp;go_simp) HP0.out ?_
     change wpAnyH _ _ _ _ _ _ _ { tmps:=List.toArray (_::_::_::_::_::_::_::_::_::_::_::_::_::_::_::_::_::_::_::_::_::_::_::_::_::_::_::_::_::_::_::_::_::_::_::_::_::_::_::_::_::_::_::_::_::_::_::_::_::_::_::_::_::_::_::_::_::_::_::_::_::_::_::_::_::_::_::_::_::_::_::_::_::_::_::_::_::_::_::_::_::_::_::_::_::_::_::[]),defers:=[] } _
     refine dr_take 3 (.pointer (some ⟨b,0,none⟩)) rfl rfl (by kernel_rfl) (by kernel_rfl) (by kernel_rfl) (fun _ _ _ h=>h) (fun _ _=>by unfold execOp;go_simp) HP0.out ?_
     change wpAnyH _ _ _ _ _ _ _ { tmps:=List.toArray (_::_::_::_::_::_::_::_::_::_::_::_::_::_::_::_::_::_::_::_::_::_::_::_::_::_::_::_::_::_::_::_::_::_::_::_::_::_::_::_::_::_::_::_::_::_::_::_::_::_::_::_::_::_::_::_::_::_::_::_::_::_::_::_::_::_::_::_::_::_::_::_::_::_::_::_::_::_::_::_::_::_::_::_::_::_::_::[]),defers:=[] } _
     refine dr_take 5 (.pointer (some ⟨wr.heap.size,0,none⟩)) rfl rfl (by kernel_rfl) (by kernel_rfl) (by kernel_rfl) (fun _ _ _ h=>h) (fun _ _=>by unfold execOp;go_simp) HP0.out ?_
     change wpAnyH _ _ _ _ _ _ _ { tmps:=List.toArray (_::_::_::_::_::_::_::_::_::_::_::_::_::_::_::_::_::_::_::_::_::_::_::_::_::_::_::_::_::_::_::_::_::_::_::_::_::_::_::_::_::_::_::_::_::_::_::_::_::_::_::_::_::_::_::_::_::_::_::_::_::_::_::_::_::_::_::_::_::_::_::_::_::_::_::_::_::_::_::_::_::_::_::_::_::_::_::[]),defers:=[] } _
     refine dr_take 6 (.string nm) rfl rfl (by kernel_rfl) (by kernel_rfl) (by kernel_rfl) (fun _ _ _ h=>h) (fun _ h=>by unfold execOp;go_simp) HP0.out ?_
     change wpAnyH _ _ _ _ _ _ _ { tmps:=List.toArray (_::_::_::_::_::_::_::_::_::_::_::_::_::_::_::_::_::_::_::_::_::_::_::_::_::_::_::_::_::_::_::_::_::_::_::_::_::_::_::_::_::_::_::_::_::_::_::_::_::_::_::_::_::_::_::_::_::_::_::_::_::_::_::_::_::_::_::_::_::_::_::_::_::_::_::_::_::_::_::_::_::_::_::_::_::_::_::[]),defers:=[] } _
     refine dr_one 4 rfl rfl (by kernel_rfl) ?_
     refine wp_ld_bs rfl rfl c0 ⟨HP0.out,?_⟩
     change wpAnyH _ _ _ _ _ _ _ { tmps:=List.toArray (_::_::_::_::_::_::_::_::_::_::_::_::_::_::_::_::_::_::_::_::_::_::_::_::_::_::_::_::_::_::_::_::_::_::_::_::_::_::_::_::_::_::_::_::_::_::_::_::_::_::_::_::_::_::_::_::_::_::_::_::_::_::_::_::_::_::_::_::_::_::_::_::_::_::_::_::_::_::_::_::_::_::_::_::_::_::_::[]),defers:=[] } _
     refine dr_one 7 rfl rfl (by kernel_rfl) ?_
     refine wp_app_str _ _ 26 9 rfl (b+1) 5 i0 Tryz.underlying26 Tryz.underlying9 hi hz0 hz1 hz2 v _ _ rfl hown nm rfl (by unfold maxLen;omega) (by omega) (by omega) ?_
     intro v' w2 hown' hgrow hiff
     obtain ⟨hb2,⟨ao,n',cap,rfl⟩,hyq⟩:=yq_app hkp hbl hbk hown hown' hgrow
     have d0:w2.cell? ⟨b,0,none⟩=some v:=by rw [cell_of_row _ _ 0 _ _ _ hb2];rfl
     have f1:w2.frozen? ⟨b,0,none⟩=false:=own_frozen hb2 0
     have HYQ:=Lib.hid hyq
     have HP2:Hid (w2.cell? ⟨wr.heap.size,0,none⟩=some (.string nm)):=by
      have h:=HSY.out _ _ hyq
      rw [World.cell?_setCell_other _ _ _ _ (by intro e;have h2:=HGB.out;injection e with e1;omega)] at h
      exact h
     have HP3:Hid ((w2.setCell ⟨b,0,none⟩ (.slice ao n' cap)).cell? ⟨wr.heap.size,0,none⟩=some (.string nm)):=HSY.out _ _ hyq
     clear hyq hown' hgrow hiff hb2 hbk hown hkp hbl
     refine ⟨HP2.out,?_⟩
     change wpAnyH _ _ _ _ _ _ _ { tmps:=List.toArray (_::_::_::_::_::_::_::_::_::_::_::_::_::_::_::_::_::_::_::_::_::_::_::_::_::_::_::_::_::_::_::_::_::_::_::_::_::_::_::_::_::_::_::_::_::_::_::_::_::_::_::_::_::_::_::_::_::_::_::_::_::_::_::_::_::_::_::_::_::_::_::_::_::_::_::_::_::_::_::_::_::_::_::_::_::_::_::[]),defers:=[] } _
     refine dr_one 8 rfl rfl (by kernel_rfl) ?_
     refine wv_val (v:=.pointer (some ⟨b,0,none⟩)) (by unfold execOp;go_simp) ⟨HP2.out,?_⟩
     change wpAnyH _ _ _ _ _ _ _ { tmps:=List.toArray (_::_::_::_::_::_::_::_::_::_::_::_::_::_::_::_::_::_::_::_::_::_::_::_::_::_::_::_::_::_::_::_::_::_::_::_::_::_::_::_::_::_::_::_::_::_::_::_::_::_::_::_::_::_::_::_::_::_::_::_::_::_::_::_::_::_::_::_::_::_::_::_::_::_::_::_::_::_::_::_::_::_::_::_::_::_::_::[]),defers:=[] } _
     refine dr_one 9 rfl rfl (by kernel_rfl) ?_
     refine wv_val (v:=.pointer (some ⟨b,0,none⟩)) (by unfold execOp;go_simp) ⟨HP2.out,?_⟩
     change wpAnyH _ _ _ _ _ _ _ { tmps:=List.toArray (_::_::_::_::_::_::_::_::_::_::_::_::_::_::_::_::_::_::_::_::_::_::_::_::_::_::_::_::_::_::_::_::_::_::_::_::_::_::_::_::_::_::_::_::_::_::_::_::_::_::_::_::_::_::_::_::_::_::_::_::_::_::_::_::_::_::_::_::_::_::_::_::_::_::_::_::_::_::_::_::_::_::_::_::_::_::_::[]),defers:=[] } _
     refine dr_one 10 rfl rfl (by kernel_rfl) ?_
     refine wp_st_bs rfl rfl rfl d0 f1 ⟨HP3.out,?_⟩
     refine wpAnyH_done (by kernel_rfl) ?_ _
     obtain ⟨w9,hw9⟩:∃ W,W=w2.setCell ⟨b,0,none⟩ (.slice ao n' cap):=⟨_,rfl⟩
     have HQ9:Hid (Yq W3 b (t8++nm.data.toList) w9):=by rw [Hid,hw9];exact HYQ.out
     have HW9:=Lib.hid hw9
     have p1:=(HC01.out _ _ HQ9.out).2
     have HLS:Hid ((t8++nm.data.toList).length≤400000000):=by
      rw [Hid,List.length_append,Array.length_toList];exact hsl
     clear hw9 HYQ c0 p0 HQ7
     go_upto_region 14 with (fail)
     rw [← HW9.out]
     clear HW9 d0 f1
     go_wp2_with fail
     go_at_call 65
     refine (HNS3.out _ _ _ HQ9.out hnk (by have:=HLS.out;omega)).mono ?_
     rintro e w10 ⟨rfl,hz⟩
     have HL10:Hid ((t8++nm.data.toList++numY nc).length≤500000000):=by
      have:=HLS.out;have:=(numY_len nc).1
      rw [Hid,List.length_append];omega
     obtain ⟨t10,ht10⟩:∃ t,t=t8++nm.data.toList++numY nc:=⟨_,rfl⟩
     rw [← ht10] at hz HL10 HTK
     have HQ10:=Lib.hid hz
     have p1:=(HC01.out _ _ hz).2
     clear hz ht10 HQ9 HC01 HNS3
     go_wp2_with fail
     go_loopg [78] (nc+1) (fun m' z X=>∃ i:Nat,z=.int .i64 (i:Int)∧i≤nc∧m'=nc-i+1∧Yq W3 b (t10++(cd.take i).flatMap insY) X)
     case atStart=>exact ⟨0,rfl,Nat.zero_le _,by omega,by simpa using HQ10.out⟩
     case round =>
      clear HQ10 p1
      obtain ⟨i,rfl,hi',hmi,hy⟩:=hrel
      have HMI:=Lib.hid hmi
      have HY:=Lib.hid hy
      clear hmi hy
      by_cases hin:i<nc
      rotate_left
      · obtain rfl : nc = i := by omega
        have HXZ:Hid (Yq W0 b (t6++(cores.take (j+1)).flatMap corY) wr):=by
         have h:=HQA.out.trans HY.out
         rw [show cd.take nc=cd by rw [HNC.out,List.take_length],← HTK.out] at h
         exact h
        go_wp2_with fail
        go_roundg (n5-(j+1)+1)
        case measure=>have:=HM.out;omega
        case rel=>exact ⟨j+1,by simp,by omega,by omega,HXZ.out⟩
      have jl:i<cd.length:=by have:=HNC.out;omega
      have g2:cd[i]? = some cd[i]:=List.getElem?_eq_getElem jl
      have hme:cd[i]∈cd:=List.getElem_mem jl
      have htk:=take_flat insY g2
      have hri:=HRI.out _ hme
      have hcl:=HCL.out i
      generalize cd[i]=x at g2 hme htk hri
      rcases E2.out with e | ⟨g',q',e,e2⟩
      · subst e;simp at jl
      obtain rfl:a2=some ⟨g',q',none⟩:=e
      have e3:=e2 i x g2
      have BX:=HBT3.out _ HY.out.bel
      rw [HB0.out] at BX
      have f0:wr.cell? ⟨g',q'+i*9,none⟩=some (.int .u8 x.k):=(BX.cell (p:=⟨g',q'+i*9,none⟩) (lt_of_at (e3 0 _ rfl))).trans (e3 0 _ rfl)
      have f1:wr.cell? ⟨g',q'+i*9+1,none⟩=some (.int .u8 x.o):=(BX.cell (p:=⟨g',q'+i*9+1,none⟩) (lt_of_at (e3 1 _ rfl))).trans (e3 1 _ rfl)
      have f2:wr.cell? ⟨g',q'+i*9+2,none⟩=some (.int .i64 x.d):=(BX.cell (p:=⟨g',q'+i*9+2,none⟩) (lt_of_at (e3 2 _ rfl))).trans (e3 2 _ rfl)
      have f3:wr.cell? ⟨g',q'+i*9+3,none⟩=some (.int .i64 x.a):=(BX.cell (p:=⟨g',q'+i*9+3,none⟩) (lt_of_at (e3 3 _ rfl))).trans (e3 3 _ rfl)
      have f4:wr.cell? ⟨g',q'+i*9+4,none⟩=some (.int .i64 x.b):=(BX.cell (p:=⟨g',q'+i*9+4,none⟩) (lt_of_at (e3 4 _ rfl))).trans (e3 4 _ rfl)
      have f5:wr.cell? ⟨g',q'+i*9+5,none⟩=some (.int .i64 x.ad):=(BX.cell (p:=⟨g',q'+i*9+5,none⟩) (lt_of_at (e3 5 _ rfl))).trans (e3 5 _ rfl)
      have f6:wr.cell? ⟨g',q'+i*9+6,none⟩=some (.int .i64 x.tt):=(BX.cell (p:=⟨g',q'+i*9+6,none⟩) (lt_of_at (e3 6 _ rfl))).trans (e3 6 _ rfl)
      have f7:wr.cell? ⟨g',q'+i*9+7,none⟩=some (.int .i64 x.wd):=(BX.cell (p:=⟨g',q'+i*9+7,none⟩) (lt_of_at (e3 7 _ rfl))).trans (e3 7 _ rfl)
      have f8:wr.cell? ⟨g',q'+i*9+8,none⟩=some (.int .i64 x.fr):=(BX.cell (p:=⟨g',q'+i*9+8,none⟩) (lt_of_at (e3 8 _ rfl))).trans (e3 8 _ rfl)
      have hin':(i:Int)<(nc:Int):=by omega
      obtain ⟨W4,hW4⟩:∃ W,W=wr.alloc (.cells (insC x).toArray 75):=⟨_,rfl⟩
      have hq4:=HY.out.below ((Below.refl wr.heap.size wr).alloc (Nat.le_refl _) (.cells (insC x).toArray 75))
      have O4:=Own.new wr 75 (insC x).toArray
      rw [← hW4] at hq4 O4
      have HIN:=Lib.hid (y_ins x hri hq4.wt (by rw [List.length_append];have:=HL10.out;omega) (fun X h=>HTT3.out X (hq4.bel.trans h)))
      have HTK2:Hid (t10++(cd.take (i+1)).flatMap insY=(t10++(cd.take i).flatMap insY)++insY x):=by
       rw [Hid,htk]
       simp only [List.append_assoc]
      generalize insY x=ix at HIN HTK2
      have HQ4:=Lib.hid hq4
      obtain ⟨k,o,d,a,bb,ad,tt,wd,fr⟩:=x
      simp only [insC,insV] at f0 f1 f2 f3 f4 f5 f6 f7 f8 HIN hW4 O4
      have HW4:=Lib.hid hW4
      clear hW4 hq4 BX e2 e3 g2 hme jl htk hri hcl HY
      go_upto_region 18 with (fail)
      rw [← HW4.out]
      clear HW4 f0 f1 f2 f3 f4 f5 f6 f7 f8
      go_wp2_with (refine ld rowI rfl rfl rfl O4 rfl ?_)
      go_at_call 67
      refine HIN.out.mono ?_
      rintro e w9 ⟨rfl,hz⟩
      have hz':=HQ4.out.trans hz
      rw [← HTK2.out] at hz'
      have HZ:=Lib.hid hz'
      clear hz hz' O4 HQ4 HIN
      go_wp2_with fail
      go_roundg (nc-(i+1)+1)
      case measure=>have:=HMI.out;omega
      case rel=>exact ⟨i+1,by simp,by omega,by omega,HZ.out⟩
   obtain rfl:n5=j:=by omega
   go_wp2_with fail
   refine bodyPost_end (results_none rfl _ _ _) rfl ⟨rfl,?_⟩
   have h:=HQW.out.trans HQ.out
   rw [HT6.out.1,show cores.take n5=cores by rw [HN.out.2,List.take_length]] at h
   exact h
end Go.Proofs.YtmpljhfinmfnbaaGreatDoor

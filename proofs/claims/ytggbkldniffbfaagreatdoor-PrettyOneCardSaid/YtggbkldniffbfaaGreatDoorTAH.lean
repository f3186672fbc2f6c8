/- The proof, part 8: texts that belong together, in one. -/
import Derived.Test.YtggbkldniffbfaaGreatDoorTAG
import Derived.WalkLawsBesides
import Derived.Laws.EntriesVeiled
import Derived.Laws.Rows
import Derived.Deep.QuietTactic
import Derived.BigQuiet
import Derived.BigRegion
import Derived.Outline
import Derived.Deep.DeepCutAuto
import Derived.Deep.RegionHeld3
import Derived.OrdersHeld
import Derived.Shelf.Abstract
set_option maxRecDepth 100000
set_option maxHeartbeats 20000000
namespace Go.Proofs.YtggbkldniffbfaaGreatDoor
open Go.RowKit
set_option linter.unusedVariables false
theorem tok_f1:∀ (a b c d:Value) (w:World),(Instr.field 111 (.agg #[a,b,c,d]) 1).run Tryz.prog w=.ok b w:=fun a b c d w=>by kernel_rfl
theorem tok_f2:∀ (a b c d:Value) (w:World),(Instr.field 111 (.agg #[a,b,c,d]) 2).run Tryz.prog w=.ok c w:=fun a b c d w=>by kernel_rfl
theorem Keep.drewN {sel:Nat→Obj→Prop} {A B:World} (h:Keep sel A B) (n:Nat):Keep sel A (B.drewN n):=⟨h.os,h.tape,h.output,h.size,h.block⟩
theorem p_next {c:Par} {w:World} {k:Nat} (R:Rd c w k) :
 Calls Tryz.prog 52 #[c.ptr] w fun e w'=>e=.returned (tkV (c.nx k))∧Below w.heap.size w w':=by
 obtain ⟨⟨c0,c1,c2,_⟩,f⟩:=R.cells
 have hX:=R.lt
 have hle:=R.le
 have hsm:=R.s.small.1
 by_cases hk:k<c.toks.length
 · have hnx : c.nx k = (c.toks[k]).tk := by unfold Par.nx; rw [Par.at_lt hk]
   obtain ⟨oa,cap,hu,htok⟩:=R.s.tok
   obtain ⟨g,off,ho,a0,a1,a2,a3⟩:=htok k c.toks[k] (List.getElem?_eq_getElem hk)
   obtain ⟨hta,_⟩:c.ta=oa∧True:=by cases hu;exact ⟨rfl,trivial⟩
   obtain ⟨x,hx⟩:∃ x,x=c.toks[k]:=⟨_,rfl⟩
   rw [← hx] at a0 a1 a2 a3 hnx
   obtain ⟨rk,rx,rw0,rp,ra,rr⟩:=x
   simp only at a0 a1 a2 a3
   rw [hnx]
   subst hta
   rw [ho] at c0
   have hkk:(k:Int)<(c.toks.length:Int):=by omega
   obtain ⟨n,hn⟩:∃ n,n=c.toks.length:=⟨_,rfl⟩
   rw [← hn] at c0 hkk hk hle hsm
   have hg:=lt_of_at a0
   clear hnx htok hu ho hx hn R
   unfold Par.ptr
   go_enter Tryz.func52,Tryz.ntmps52
   go_wp2
   go_quiet (fail)
   go_wp2
   go_region
   go_wp2
   refine bodyPost_ret (v:=tkV ⟨rk,rx,rw0,rp⟩) (by simp [results,Tryz.results52,go_sem,tkV]) rfl ⟨rfl,?_⟩
   repeat (first | exact Below.refl _ _ | refine below_drewN ?_ _ | refine Below.setCell ?_ (by simp) _ | refine Below.alloc ?_ (by simp) _)
 · have hnx : c.nx k = ⟨0, ⟨#[]⟩, 0, c.L⟩ := by unfold Par.nx; rw [Par.at_end (by omega)]
   rw [hnx]
   have hkk:decide ((k:Int)<(c.toks.length:Int))=false:=b_f (by omega)
   have hkn:decide (k<c.toks.length)=false:=b_f (by omega)
   obtain ⟨n,hn⟩:∃ n,n=c.toks.length:=⟨_,rfl⟩
   rw [← hn] at c0 hkk hk hle hsm hkn
   obtain ⟨L,hL⟩:∃ L,L=c.L:=⟨_,rfl⟩
   rw [← hL] at c1 ⊢
   clear hnx hn hL R
   unfold Par.ptr
   go_enter Tryz.func52,Tryz.ntmps52
   go_wp2
   go_quiet (fail)
   go_wp2
   refine bodyPost_ret (v:=tkV ⟨0,⟨#[]⟩,0,L⟩) (by simp [results,Tryz.results52,go_sem,tkV]) rfl ⟨rfl,?_⟩
   repeat (first | exact Below.refl _ _ | refine below_drewN ?_ _ | refine Below.setCell ?_ (by simp) _ | refine Below.alloc ?_ (by simp) _)
theorem p_refuse (t:Tk) (r:Int) (w:World):Calls Tryz.prog 97 #[tkV t,.int .i64 r] w fun e w'=>e=.panicked (flt t.pos r)∧Below w.heap.size w w':=by
 obtain ⟨k,x,v,p⟩:=t
 unfold tkV
 go_enter Tryz.func97,Tryz.ntmps97
 go_wp2
 exact ⟨rfl,rfl,(Below.refl _ w).alloc (Nat.le_refl _) _⟩
theorem p_pass {c:Par} {w:World} {k:Nat} (R:Rd c w k) (s:ByteArray) (hs:s.data.toList≠[]) :
 Calls Tryz.prog 53 #[c.ptr,.string s] w fun e w'=>e=.returned (.bool (isT s.data.toList (c.at k)))∧Fr c w w'∧Rd c w' (if isT s.data.toList (c.at k)=true then k+1 else k):=by
 have HN:=Lib.hid (p_next R)
 have HR:=Lib.hid R
 have hT:=Par.isT_nx c k hs
 by_cases h:isT s.data.toList (c.at k)=true
 · have hk := Par.isT_lt h
   have hk6:k≤65536:=by have:=R.s.small.1;omega
   rw [h] at hT ⊢
   rw [if_pos rfl]
   obtain ⟨t,ht⟩:∃ t,t=c.nx k:=⟨_,rfl⟩
   rw [← ht] at HN hT
   obtain ⟨tk,tx,tw,tp⟩:=t
   have hx:(tx.toList==s.toList)=true:=by
    have e:tx.data.toList=s.data.toList:=by simpa [Tk.tx] using hT.symm
    rw [Lib.toList_data,Lib.toList_data,e];simp
   have HX:=Lib.hid hk
   clear hT h ht R hk
   unfold tkV at HN
   unfold Par.ptr at HN ⊢
   have F1:=tok_f1
   go_enter Tryz.func53,Tryz.ntmps53
   go_wp2_with (go_at_call 52;refine (HN.out).mono ?_;rintro e w1 ⟨rfl,hb⟩;have HB:=Lib.hid hb;have R1:=Lib.hid (HR.out.below hb);obtain ⟨⟨_,_,c2,_⟩,f⟩:=R1.out.cells;clear hb)
   go_ret
   exact ⟨rfl,Fr.setX (.of_below HB.out) _ 2 R1.out.pos,R1.out.step HX.out⟩
 · have h' : isT s.data.toList (c.at k) = false := by simpa using h
   rw [h'] at hT ⊢
   rw [if_neg (by simp)]
   obtain ⟨t,ht⟩:∃ t,t=c.nx k:=⟨_,rfl⟩
   rw [← ht] at HN hT
   obtain ⟨tk,tx,tw,tp⟩:=t
   have hx:(tx.toList==s.toList)=false:=by
    have e:¬ tx.data.toList=s.data.toList:=by
     have:=hT.symm
     simpa [Tk.tx] using this
    rw [Lib.toList_data,Lib.toList_data];simpa using e
   clear hT h h' ht R
   unfold tkV at HN
   unfold Par.ptr at HN ⊢
   have F1:=tok_f1
   go_enter Tryz.func53,Tryz.ntmps53
   go_wp2_with (go_at_call 52;refine (HN.out).mono ?_;rintro e w1 ⟨rfl,hb⟩;have HB:=Lib.hid hb;clear hb)
   go_ret
   exact ⟨rfl,.of_below HB.out,HR.out.below HB.out⟩
theorem p_take_ok {c:Par} {w:World} {k:Nat} (R:Rd c w k) (s:ByteArray) (hs:s.data.toList≠[]) (h:isT s.data.toList (c.at k)=true) :
 Calls Tryz.prog 127 #[c.ptr,.string s] w fun e w'=>e=.returned (.tuple #[])∧Fr c w w'∧Rd c w' (k+1):=by
 have HP:=p_pass R s hs
 rw [h,if_pos rfl] at HP
 have HP:=Lib.hid HP
 clear R
 unfold Par.ptr at HP ⊢
 go_enter Tryz.func127,Tryz.ntmps127
 go_wp2_with (go_at_call 53;refine (HP.out).mono ?_;rintro e w1 ⟨rfl,hf,hr⟩;have HF:=Lib.hid hf;have HR:=Lib.hid hr;clear hf hr)
 go_end0
 exact ⟨rfl,HF.out,HR.out⟩
theorem p_take_bad {c:Par} {w:World} {k:Nat} (R:Rd c w k) (s:ByteArray) (hs:s.data.toList≠[]) (h:isT s.data.toList (c.at k)=false) :
 Calls Tryz.prog 127 #[c.ptr,.string s] w fun e w'=>e=.panicked (flt (hdP c.L (c.at k)) 2)∧Fr c w w':=by
 have HP:=p_pass R s hs
 rw [h,if_neg (by simp)] at HP
 have HP:=Lib.hid HP
 have HQ:Hid (∀ W,Rd c W k→Calls Tryz.prog 52 #[c.ptr] W fun e w'=>e=.returned (tkV (c.nx k))∧Below W.heap.size W w'):=fun W h=>p_next h
 have hp:=c.nx_pos k
 obtain ⟨t,ht⟩:∃ t,t=c.nx k:=⟨_,rfl⟩
 rw [← ht] at HQ hp
 rw [← hp]
 clear R ht hp
 unfold Par.ptr at HP HQ ⊢
 go_enter Tryz.func127,Tryz.ntmps127
 go_wp2_with (first
  | (go_at_call 53;refine (HP.out).mono ?_;rintro e w1 ⟨rfl,hf,hr⟩;have HF:=Lib.hid hf;have HR:=Lib.hid hr;clear hf hr)
  | (go_at_call 52;refine (HQ.out _ HR.out).mono ?_;rintro e w2 ⟨rfl,hb⟩;have HB:=Lib.hid hb;clear hb)
  | (go_at_call 97;refine (p_refuse _ _ _).mono ?_;rintro e w3 ⟨rfl,hb⟩;have HC:=Lib.hid hb;clear hb))
 exact ⟨rfl,rfl,(HF.out.trans (.of_below HB.out)).trans (.of_below HC.out)⟩
open Go.RowKit
set_option linter.unusedVariables false
def Par.row (c:Par) (k:Nat):Obj:=.cells #[.slice c.ta c.toks.length c.cap,.int .i64 (c.L:Int),.int .i64 (k:Int),.map (some c.D),.map (some c.S),.map (some c.O)] 108 (0,0)
structure At (c:Par) (w W:World) (k:Nat):Prop where
 fr:Fr c w W
 pos:W.heap[c.X]? = some (c.row k)
 le:k≤c.toks.length
theorem At.start {c:Par} {w:World} {k:Nat} (R:Rd c w k):At c w w k:=⟨Fr.refl c w,R.pos,R.le⟩
theorem At.rd {c:Par} {w W:World} {k k':Nat} (A:At c w W k') (R:Rd c w k):Rd c W k':=⟨R.s.keep A.fr,A.pos,A.le⟩
theorem At.lt {c:Par} {w W:World} {k:Nat} (A:At c w W k):c.X<W.heap.size:=(Array.getElem?_eq_some_iff.1 A.pos).1
theorem At.alloc {c:Par} {w W:World} {k:Nat} (A:At c w W k) (o:Obj):At c w (W.alloc o) k :=
 ⟨A.fr.alloc o,((Below.refl _ W).alloc (Nat.le_refl _) o).block _ A.lt |>.trans A.pos,A.le⟩
theorem At.below {c:Par} {w W W':World} {k:Nat} (A:At c w W k) (h:Below W.heap.size W W'):At c w W' k :=
 ⟨A.fr.trans (.of_below h),(h.block _ A.lt).trans A.pos,A.le⟩
theorem At.call {c:Par} {w W W':World} {k k':Nat} (A:At c w W k) (h:Fr c W W') (R:Rd c W' k'):At c w W' k':=⟨A.fr.trans h,R.pos,R.le⟩
theorem setRow_other {W:World} {b g:Nat} (cs:Array Value) (h:b≠g):(W.setRow g cs).heap[b]? = W.heap[b]?:=by
 simp only [World.setRow,Array.getElem?_modify]
 rw [if_neg (fun e=>h e.symm)]
theorem Fr.setRow {c:Par} {w W:World} (h:Fr c w W) {g:Nat} (hg:w.heap.size≤g) (cs:Array Value):Fr c w (W.setRow g cs) :=
 have h1:=Keep.os h
 have h2:=Keep.tape h
 have h3:=Keep.output h
 ⟨h1,h2,h3,by have:=Keep.size h;simpa [World.setRow] using this,fun b o hb hs=>by rw [setRow_other cs (by have:=hs.1;omega)];exact Keep.block h b o hb hs⟩
theorem At.setRow {c:Par} {w W:World} {k:Nat} (A:At c w W k) {g:Nat} (hg:w.heap.size≤g) (hx:c.X≠g) (cs:Array Value):At c w (W.setRow g cs) k :=
 ⟨A.fr.setRow hg cs,(setRow_other cs hx).trans A.pos,A.le⟩
theorem At.drew {c:Par} {w W:World} {k:Nat} (A:At c w W k):At c w W.drew k:=⟨Keep.drewN A.fr 1,A.pos,A.le⟩
theorem At.drewN {c:Par} {w W:World} {k:Nat} (A:At c w W k) (n:Nat):At c w (W.drewN n) k:=⟨Keep.drewN A.fr n,A.pos,A.le⟩
theorem At.step {c:Par} {w W:World} {k:Nat} (A:At c w W k) (hk:k<c.toks.length):At c w (W.setCell ⟨c.X,2,none⟩ (.int .i64 ((k:Int)+1))) (k+1):=by
 refine ⟨A.fr.setX _ 2 A.pos,?_,hk⟩
 rw [heap_setCell_same W c.X 2 _ _ (.int .i64 ((k:Int)+1)) A.pos]
 rfl
theorem At.cells {c:Par} {w W:World} {k:Nat} (A:At c w W k) :
 (W.cell? ⟨c.X,0,none⟩=some (.slice c.ta c.toks.length c.cap)∧W.cell? ⟨c.X,1,none⟩=some (.int .i64 (c.L:Int))∧W.cell? ⟨c.X,2,none⟩=some (.int .i64 (k:Int)) ∧
  W.cell? ⟨c.X,3,none⟩=some (.map (some c.D))∧W.cell? ⟨c.X,4,none⟩=some (.map (some c.S))∧W.cell? ⟨c.X,5,none⟩=some (.map (some c.O)))∧W.frozen? ⟨c.X,2,none⟩=false:=by
 have hp:=A.pos
 refine ⟨⟨?_,?_,?_,?_,?_,?_⟩,?_⟩
 · rw [cell_of_row W c.X 0 _ _ _ hp];rfl
 · rw [cell_of_row W c.X 1 _ _ _ hp];rfl
 · rw [cell_of_row W c.X 2 _ _ _ hp];rfl
 · rw [cell_of_row W c.X 3 _ _ _ hp];rfl
 · rw [cell_of_row W c.X 4 _ _ _ hp];rfl
 · rw [cell_of_row W c.X 5 _ _ _ hp];rfl
 · simp only [World.frozen?,hp];rfl
def Own (W:World) (b:Nat) (t:TypeId) (cs:Array Value):Prop:=W.heap[b]? = some (.cells cs t (0,0))
theorem Own.new (W:World) (t:TypeId) (cs:Array Value):Own (W.alloc (.cells cs t)) W.heap.size t cs:=World.alloc_heap_new W _
theorem Own.lt {W:World} {b:Nat} {t:TypeId} {cs:Array Value} (h:Own W b t cs):b<W.heap.size:=(Array.getElem?_eq_some_iff.1 h).1
theorem Own.alloc {W:World} {b:Nat} {t:TypeId} {cs:Array Value} (h:Own W b t cs) (o:Obj):Own (W.alloc o) b t cs:=(((Below.refl _ W).alloc (Nat.le_refl _) o).block _ h.lt).trans h
theorem Own.below {W W':World} {b:Nat} {t:TypeId} {cs:Array Value} (h:Own W b t cs) (hb:Below W.heap.size W W'):Own W' b t cs:=(hb.block _ h.lt).trans h
theorem Own.fr {c:Par} {W W':World} {b:Nat} {t:TypeId} {cs:Array Value} (h:Own W b t cs) (hf:Fr c W W') (hx:c.X≠b):Own W' b t cs:=hf.block h (fun e=>hx e.symm)
theorem Own.setX {W:World} {b:Nat} {t:TypeId} {cs:Array Value} (h:Own W b t cs) {x:Nat} (j:Nat) (v:Value) (hx:x≠b):Own (W.setCell ⟨x,j,none⟩ v) b t cs:=(Below.heap_setCell _ _ _ _ (fun e=>hx e.symm)).trans h
theorem Own.drewN {W:World} {b:Nat} {t:TypeId} {cs:Array Value} (h:Own W b t cs) (n:Nat):Own (W.drewN n) b t cs:=h
theorem Own.row {W:World} {b:Nat} {t:TypeId} {cs:Array Value} (h:Own W b t cs) (ds:Array Value):Own (W.setRow b ds) b t ds:=setRow_heap _ _ _ _ _ _ h
theorem Own.other {W:World} {b g:Nat} {t:TypeId} {cs:Array Value} (h:Own W b t cs) (ds:Array Value) (hb:b≠g):Own (W.setRow g ds) b t cs:=(setRow_other ds hb).trans h
theorem stays_fr {c:Par} {R:Nat→Prop} {W W':World} (h:Fr c W W') (hx:∀ b,R b→b≠c.X):Stays R W W':=fun b o v hb hv=>by
 rw [h.cell (by have:=cell_lt hv;simpa using this) (hx b hb)];exact hv
theorem stays_alloc (R:Nat→Prop) (W:World) (o:Obj):Stays R W (W.alloc o):=fun b o' v hb hv=>by
 rw [((Below.refl W.heap.size W).alloc (Nat.le_refl _) o).cell (p:=⟨b,o',none⟩) (by have:=cell_lt hv;simpa using this)];exact hv
theorem stays_below {R:Nat→Prop} {W W':World} (h:Below W.heap.size W W'):Stays R W W':=fun b o' v hb hv=>by
 rw [h.cell (p:=⟨b,o',none⟩) (by have:=cell_lt hv;simpa using this)];exact hv
theorem stays_row {R:Nat→Prop} (W:World) {g:Nat} (cs:Array Value) (hx:∀ b,R b→b≠g):Stays R W (W.setRow g cs):=fun b o v hb hv=>by
 have e:=setRow_other (W:=W) cs (hx b hb)
 rw [← hv];simp only [World.cell?,e]
theorem stays_setX {R:Nat→Prop} (W:World) {x:Nat} (j:Nat) (u:Value) (hx:∀ b,R b→b≠x):Stays R W (W.setCell ⟨x,j,none⟩ u):=fun b o v hb hv=>by
 have e:=Below.heap_setCell W ⟨x,j,none⟩ u b (hx b hb)
 rw [← hv];simp only [World.cell?,e]
def RowT (T:TypeId) (n:Nat):Prop:=∃ d,Tryz.prog.underlying T=some d∧(match d with | .struct _ | .array _ _=>true | _=>false)=true∧(Tryz.prog.info? T).map (·.size)=some n
theorem rowTok:RowT 111 4:=⟨_,Tryz.underlying111,rfl,by kernel_rfl⟩
theorem rowEx:RowT 30 6:=⟨_,Tryz.underlying30,rfl,by kernel_rfl⟩
theorem rowDc:RowT 53 3:=⟨_,Tryz.underlying53,rfl,by kernel_rfl⟩
theorem rowSt:RowT 57 7:=⟨_,Tryz.underlying57,rfl,by kernel_rfl⟩
theorem rowTh:RowT 59 4:=⟨_,Tryz.underlying59,rfl,by kernel_rfl⟩
theorem rowPg:RowT 25 3:=⟨_,Tryz.underlying25,rfl,by kernel_rfl⟩
theorem rowFl:RowT 36 2:=⟨_,Tryz.underlying36,rfl,by kernel_rfl⟩
section
variable {ops:Array Oper} {rest:List Oper} {o:Oper} {a:Act} {w:World} {Q:Exit→Act→World→Prop} {T:TypeId} {n:Nat}
theorem ld (hT:RowT T n) (hgd:o.guard=none) {x:Operand} (ho:o.op=.load T x) {g:Nat} (hx:a.eval x=.pointer (some ⟨g,0,none⟩)) {cs:Array Value} (hg:Own w g T cs) (hn:cs.size=n)
 (h:wpList Tryz.prog ops Q rest (a.put o.dst (.agg cs)) w):wpList Tryz.prog ops Q (o::rest) a w:=by
 obtain ⟨d,h1,h2,h3⟩:=hT
 exact wpList_load_row hgd T x ho g hx T cs (0,0) d hg h1 (by cases d <;> first | rfl | cases h2) (by rw [h3,hn]) h
theorem st (hT:RowT T n) (hgd:o.guard=none) {x y:Operand} (ho:o.op=.store T x y) {g:Nat} {cs old:Array Value} (hg:Own w g T old) (hx:a.eval x=.pointer (some ⟨g,0,none⟩)) (hy:a.eval y=.agg cs) (hn:cs.size=n) (hm:old.size=n) (h1:cs.all (·.oneCell')=true)
 (h:wpList Tryz.prog ops Q rest (a.put o.dst undef) (w.setRow g cs)):wpList Tryz.prog ops Q (o::rest) a w:=by
 obtain ⟨d,_,_,h3⟩:=hT
 exact wpList_store_row hgd T x y ho g cs hx hy T old hg (by rw [h3,hn]) (by rw [hm,hn]) h1 h
theorem p_ret (hT:RowT T n) {fn:Func} {p:Tmp} {R:Ending→World→Prop} (hr:fn.results=#[.cell p T]) {g:Nat} {cs:Array Value} (hg:Own w g T cs) (hp:a.tmps.getD p undef=.pointer (some ⟨g,0,none⟩)) (hd:a.defers=[]) (hn:cs.size=n)
 (h:R (.returned (.agg cs)) w):bodyPost Tryz.prog fn R .ret a w:=by
 obtain ⟨d,h1,h2,h3⟩:=hT
 exact bodyPost_ret (results_cell_row hr _ _ g T cs (0,0) d hp hg h1 (by cases d <;> first | rfl | cases h2) (by rw [h3,hn])) hd h
end
def zTok:Array Value:=#[.int .u8 0,.string ⟨#[]⟩,.int .i64 0,.int .i64 0]
def zEx:Array Value:=#[.int .u8 0,.int .u8 0,.int .i64 0,.string ⟨#[]⟩,.slice none 0 0,.int .i64 0]
def zSt:Array Value:=#[.int .u8 0,.string ⟨#[]⟩,.string ⟨#[]⟩,.slice none 0 0,.slice none 0 0,.slice none 0 0,.int .i64 0]
def zDc:Array Value:=#[.string ⟨#[]⟩,.int .i64 0,.int .i64 0]
def zTh:Array Value:=#[.string ⟨#[]⟩,.slice none 0 0,.slice none 0 0,.int .i64 0]
def zPg:Array Value:=#[.slice none 0 0,.slice none 0 0,.slice none 0 0]
theorem p_kind_ok {c:Par} {w:World} {k:Nat} (R:Rd c w k) (kd:Int) (h:(c.nx k).kind=kd) (hk:k<c.toks.length) :
 Calls Tryz.prog 125 #[c.ptr,.int .u8 kd] w fun e w'=>e=.returned (tkV (c.nx k))∧Fr c w w'∧Rd c w' (k+1):=by
 have hk6:k≤65536:=by have:=R.s.small.1;omega
 have HK:=Lib.hid hk
 have hX:c.X≠w.heap.size:=by have:=R.lt;omega
 have HN:Hid (∀ W,Rd c W k→Calls Tryz.prog 52 #[c.ptr] W fun e w'=>e=.returned (tkV (c.nx k))∧Below W.heap.size W w'):=fun W h=>p_next h
 obtain ⟨t,ht⟩:∃ t,t=c.nx k:=⟨_,rfl⟩
 rw [← ht] at HN h ⊢
 obtain ⟨tk,tx,tw,tp⟩:=t
 simp only at h
 subst h
 have HR:=Lib.hid R
 have HX:=Lib.hid hX
 clear ht hk R hX
 unfold tkV Par.ptr at *
 go_enter Tryz.func125,Tryz.ntmps125
 go_wp2_with fail
 have A0:=(At.start HR.out).alloc (.cells #[.int .u8 0,.string ⟨#[]⟩,.int .i64 0,.int .i64 0] 111)
 have O0:=Own.new w 111 #[.int .u8 0,.string ⟨#[]⟩,.int .i64 0,.int .i64 0]
 go_at_call 52
 refine (HN.out _ (A0.rd HR.out)).mono ?_
 rintro e w1 ⟨rfl,hb⟩
 have A1:=Lib.hid (A0.below hb)
 have O1:=Lib.hid (O0.below hb)
 have hX1:=A1.out.lt
 obtain ⟨⟨_,_,c2,_⟩,f⟩:=A1.out.cells
 clear hb A0 O0
 go_upto_region 5 with (fail)
 have A2:=((A1.out.step HK.out).alloc (.cells #[.int .u8 tk,.string tx,.int .i64 tw,.int .i64 tp] 111))
 have O2:=(O1.out.setX 2 (.int .i64 ((k:Int)+1)) HX.out).alloc (.cells #[.int .u8 tk,.string tx,.int .i64 tw,.int .i64 tp] 111)
 have P2:=Own.new (w1.setCell ⟨c.X,2,none⟩ (.int .i64 ((k:Int)+1))) 111 #[.int .u8 tk,.string tx,.int .i64 tw,.int .i64 tp]
 rw [World.size_setCell] at P2
 obtain ⟨W,hW⟩:∃ W,W=(w1.setCell ⟨c.X,2,none⟩ (.int .i64 ((k:Int)+1))).alloc (.cells #[.int .u8 tk,.string tx,.int .i64 tw,.int .i64 tp] 111):=⟨_,rfl⟩
 rw [← hW] at A2 O2 P2 ⊢
 have AA:=Lib.hid A2
 clear c2 f hX1 hW A2
 go_wp2_with (first | (refine ld rowTok rfl rfl rfl P2 rfl ?_) | (refine st rowTok rfl rfl O2 rfl rfl (by rfl) (by rfl) (by kernel_rfl) ?_))
 have A3:=AA.out.setRow (Nat.le_refl _) HX.out #[.int .u8 tk,.string tx,.int .i64 tw,.int .i64 tp]
 exact p_ret rowTok rfl (O2.row #[.int .u8 tk,.string tx,.int .i64 tw,.int .i64 tp]) rfl rfl rfl ⟨rfl,A3.fr,A3.rd HR.out⟩
theorem p_kind_bad {c:Par} {w:World} {k:Nat} (R:Rd c w k) (kd:Int) (h:¬ (c.nx k).kind=kd) :
 Calls Tryz.prog 125 #[c.ptr,.int .u8 kd] w fun e w'=>e=.panicked (flt (hdP c.L (c.at k)) 2)∧Fr c w w':=by
 have HN:Hid (∀ W,Rd c W k→Calls Tryz.prog 52 #[c.ptr] W fun e w'=>e=.returned (tkV (c.nx k))∧Below W.heap.size W w'):=fun W h=>p_next h
 have hp:=c.nx_pos k
 obtain ⟨t,ht⟩:∃ t,t=c.nx k:=⟨_,rfl⟩
 rw [← ht] at HN h hp
 rw [← hp]
 obtain ⟨tk,tx,tw,tp⟩:=t
 simp only at h
 have hne:(tk==kd)=false:=by simpa using h
 have HR:=Lib.hid R
 clear ht R h hp
 have HQ:=Lib.hid (fun w=>p_refuse ⟨tk,tx,tw,tp⟩ 2 w)
 unfold tkV Par.ptr at *
 go_enter Tryz.func125,Tryz.ntmps125
 go_wp2_with fail
 have A0:=(At.start HR.out).alloc (.cells zTok 111)
 go_at_call 52
 refine (HN.out _ (A0.rd HR.out)).mono ?_
 rintro e w1 ⟨rfl,hb⟩
 have A1:=Lib.hid ((A0.below hb).alloc (.cells #[.int .u8 tk,.string tx,.int .i64 tw,.int .i64 tp] 111))
 clear hb A0
 go_wp2_with (go_at_call 97;refine (HQ.out _).mono ?_;rintro e w3 ⟨rfl,hb⟩;have HC:=Lib.hid hb;clear hb)
 exact ⟨rfl,rfl,A1.out.fr.trans (.of_below HC.out)⟩
open Go.RowKit
set_option linter.unusedVariables false
theorem p_deeper_ok (t:Tk) (d:Int) (h0:0≤d) (h1:d<64) (w:World):Calls Tryz.prog 129 #[tkV t,.int .i64 d] w fun e w'=>e=.returned (.int .i64 (d+1))∧Below w.heap.size w w':=by
 obtain ⟨tk,tx,tw,tp⟩:=t
 have hne:(d==64)=false:=by simp;omega
 unfold tkV
 go_enter Tryz.func129,Tryz.ntmps129
 go_wp2_with fail
 go_ret
 exact ⟨rfl,(Below.refl _ w).alloc (Nat.le_refl _) _⟩
theorem p_deeper_bad (t:Tk) (w:World):Calls Tryz.prog 129 #[tkV t,.int .i64 64] w fun e w'=>e=.panicked (flt t.pos 3)∧Below w.heap.size w w':=by
 obtain ⟨tk,tx,tw,tp⟩:=t
 have HQ:=Lib.hid (fun w=>p_refuse ⟨tk,tx,tw,tp⟩ 3 w)
 unfold tkV at *
 go_enter Tryz.func129,Tryz.ntmps129
 go_wp2_with (go_at_call 97;refine (HQ.out _).mono ?_;rintro e w3 ⟨rfl,hb⟩;have HC:=Lib.hid hb;clear hb)
 exact ⟨rfl,rfl,((Below.refl w.heap.size w).alloc (Nat.le_refl _) _).trans (HC.out.mono (by simp))⟩
def exR (n:Nat) (e:Ex) (v:Value) (w':World):Prop:=∃ a cap,v=.agg #[.int .u8 e.kind,.int .u8 e.op,.int .i64 e.wd,.string e.name,.slice a e.kids.length cap,.int .i64 e.pos]∧exsAt (fun b=>n≤b) w' e.kids a
theorem p_number (t:Tk) (d:Int) (w:World):Calls Tryz.prog 132 #[tkV t,.int .i64 d] w fun e w'=>e=.returned (.agg #[.int .u8 1,.int .u8 0,.int .i64 t.wd,.string ⟨#[]⟩,.slice none 0 0,.int .i64 t.pos])∧Below w.heap.size w w':=by
 obtain ⟨tk,tx,tw,tp⟩:=t
 have O0:=Own.new (w.alloc (.cells #[.int .u8 tk,.string tx,.int .i64 tw,.int .i64 tp] 111)) 30 zEx
 rw [World.size_alloc] at O0
 unfold tkV zEx at *
 go_enter Tryz.func132,Tryz.ntmps132
 go_wp2_with (refine st rowEx rfl rfl O0 rfl rfl (by rfl) (by rfl) (by kernel_rfl) ?_)
 exact p_ret rowEx rfl (O0.row #[.int .u8 1,.int .u8 0,.int .i64 tw,.string ⟨#[]⟩,.slice none 0 0,.int .i64 tp]) rfl rfl rfl ⟨rfl,below_setRow ((((Below.refl _ w).alloc (Nat.le_refl _) _)).alloc (by simp) _) (by simp) _⟩
theorem p_variable (t:Tk) (d:Int) (w:World):Calls Tryz.prog 133 #[tkV t,.int .i64 d] w fun e w'=>e=.returned (.agg #[.int .u8 2,.int .u8 0,.int .i64 0,.string t.text,.slice none 0 0,.int .i64 t.pos])∧Below w.heap.size w w':=by
 obtain ⟨tk,tx,tw,tp⟩:=t
 have O0:=Own.new (w.alloc (.cells #[.int .u8 tk,.string tx,.int .i64 tw,.int .i64 tp] 111)) 30 zEx
 rw [World.size_alloc] at O0
 unfold tkV zEx at *
 go_enter Tryz.func133,Tryz.ntmps133
 go_wp2_with (refine st rowEx rfl rfl O0 rfl rfl (by rfl) (by rfl) (by kernel_rfl) ?_)
 exact p_ret rowEx rfl (O0.row #[.int .u8 2,.int .u8 0,.int .i64 0,.string tx,.slice none 0 0,.int .i64 tp]) rfl rfl rfl ⟨rfl,below_setRow ((((Below.refl _ w).alloc (Nat.le_refl _) _)).alloc (by simp) _) (by simp) _⟩
open Go.RowKit
set_option linter.unusedVariables false
section
variable {P:Program} {md:Region.Mode} {ops:Array Oper} {Q:Exit→Act→World→Prop} {S:World→Prop} {fuel:Nat} {listed:Array Bool} {a:Act} {w:World}
theorem dr_take (i:Nat) {oi:Oper} (v:Value) (hi:ops[i]? = some oi) (hg:oi.guard=none) (hs:Region.noSelect ops=true) (hf:Region.free md ops listed i=true) (hr:(Region.ready md ops listed).contains i=true)
 (hQ:∀ c a w,Q (.panic c) (a.put oi.dst v) w→Q (.panic c) a w) (hrun:∀ w,S w→(execOp a.eval oi).run P w=.ok (.value v) w) (hS:S w)
 (h:wpAnyH P md ops Q S fuel (listed.setIfInBounds i true) (a.put oi.dst v) w):wpAnyH P md ops Q S (fuel+1) listed a w :=
 wpAnyH_take hi hs hf hr hQ (.inl ⟨by simp [Region.wanted,hg],hrun⟩) hS h
theorem dr_one (i:Nat) {oi:Oper} (hi:ops[i]? = some oi) (hg:oi.guard=none) (hr:Region.ready md ops listed=[i])
 (h:oi.wp P a w (fun a' w'=>S w'∧wpAnyH P md ops Q S fuel (listed.setIfInBounds i true) a' w') Q):wpAnyH P md ops Q S (fuel+1) listed a w:=by
 refine wpAnyH_all hr (by simp) fun j hj=>?_
 obtain rfl:j=i:=by simpa using hj
 unfold wpOp
 simp only [hi,Region.wanted,hg]
 exact .inl h
theorem dr_two (i k:Nat) {oi ok:Oper} (hi:ops[i]? = some oi) (hk:ops[k]? = some ok) (hg:oi.guard=none) (hgk:ok.guard=none) (hr:Region.ready md ops listed=[i,k])
 (h:oi.wp P a w (fun a' w'=>S w'∧wpAnyH P md ops Q S fuel (listed.setIfInBounds i true) a' w') Q)
 (h':ok.wp P a w (fun a' w'=>S w'∧wpAnyH P md ops Q S fuel (listed.setIfInBounds k true) a' w') Q):wpAnyH P md ops Q S (fuel+1) listed a w:=by
 refine wpAnyH_all hr (by simp) fun j hj=>?_
 have hj':j=i∨j=k:=by simpa using hj
 unfold wpOp
 rcases hj' with rfl | rfl
 · simp only [hi,Region.wanted,hg];exact .inl h
 · simp only [hk,Region.wanted,hgk];exact .inl h'
theorem wp_call {o:Oper} {K:Act→World→Prop} {x:Operand} {args:Array Operand} {ts:Array TypeId} (ho:o.op=.call { callee:=.value x,args:=args,argTypes:=ts }) {f:FuncId} {fst cap:Array Value} (hx:a.eval x=.func (.func f) fst cap) (hE:∀ (args:Array Value) (w:World),(callFunc f args).run P w=.ok (.enter f args) w)
 {vs:Array Value} (hv:fst++args.map a.eval++cap=vs) {R:Ending→World→Prop} (hc:Calls P f vs w R) (hk:∀ e w',R e w'→(match e with | .returned v=>K (a.put o.dst v) w' | .panicked ch=>Q (.panic ch) a w' | .outgrown=>LetsOut Q)):o.wp P a w K Q:=by
 have h1:∀ ty,resolve a.eval { callee:=.value x,args:=args,argTypes:=ts } ty=pure { target:=.fn (.func f) cap,args:=fst++args.map a.eval }:=fun ty=>by
  unfold resolve
  simp only [hx]
  rfl
 have hrun:(execOp a.eval o).run P w=.ok (.enter f vs) w:=by
  unfold execOp
  simp only [ho,h1]
  obtain ⟨us,hus⟩:∃ us,us=args.map a.eval:=⟨_,rfl⟩
  rw [← hus] at hv ⊢
  simp [invoke,go_sem,hE,hv]
 unfold Oper.wp
 rw [hrun,Oper.upon_enter]
 exact hc.mono fun e w' h=>by have:=hk e w' h;cases e <;> exact this
end
theorem run_ld {o:Oper} {a:Act} {w:World} {T:TypeId} {n:Nat} (hT:RowT T n) {x:Operand} (ho:o.op=.load T x) {g:Nat} (hx:a.eval x=.pointer (some ⟨g,0,none⟩)) {cs:Array Value} (hg:Own w g T cs) (hn:cs.size=n):(execOp a.eval o).run Tryz.prog w=.ok (.value (.agg cs)) w:=by
 obtain ⟨d,h1,h2,h3⟩:=hT
 unfold execOp
 simp only [ho,hx,Instr.loadAt,Instr.sureAddr,Sem.run_bind,Sem.run_pure,Result.andThen_ok,run_loadVar_row w g T T cs (0,0) d hg h1 (by cases d <;> first | rfl | cases h2) (by rw [h3,hn])]
theorem wp_alloc_ex {o:Oper} {a:Act} {w:World} {K:Act→World→Prop} {Q:Exit→Act→World→Prop} (ho:o.op=.alloc 30) (h:K (a.put o.dst (.pointer (some ⟨w.heap.size,0,none⟩))) (w.alloc (.cells zEx 30))):o.wp Tryz.prog a w K Q:=by
 have hrun:(execOp a.eval o).run Tryz.prog w=.ok (.value (.pointer (some ⟨w.heap.size,0,none⟩))) (w.alloc (.cells zEx 30)):=by
  unfold execOp
  simp only [ho]
  go_simp
  rfl
 unfold Oper.wp
 rw [hrun]
 exact h
end Go.Proofs.YtggbkldniffbfaaGreatDoor

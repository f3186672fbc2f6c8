import Derived.Test.YtbgfkdiihnidaaaGreatDoorQAD
import Derived.WalkLawsBesides
import Derived.Laws.EntriesVeiled
import Derived.Laws.Rows
import Derived.Deep.QuietTactic
import Derived.BigQuiet
import Derived.BigRegion
import Derived.Outline
import Derived.Deep.DeepCutAuto
import Derived.Deep.RegionHeld3
import Derived.OrdersHeld
import Derived.Shelf.Abstract
import Derived.Deep.RegionHeldLaw
set_option maxRecDepth 100000
set_option maxHeartbeats 20000000
namespace Go.Proofs.YtbgfkdiihnidaaaGreatDoor
open Go.RowKit
set_option linter.unusedVariables false
theorem tok_f1:∀ (a b c d:Value) (w:World),(Instr.field 50 (.agg #[a,b,c,d]) 1).run Tryz.prog w=.ok b w:=fun a b c d w=>by kernel_rfl
theorem tok_f2:∀ (a b c d:Value) (w:World),(Instr.field 50 (.agg #[a,b,c,d]) 2).run Tryz.prog w=.ok c w:=fun a b c d w=>by kernel_rfl
theorem Keep.drewN {sel:Nat->Obj->Prop} {A B:World} (h:Keep sel A B) (n:Nat):Keep sel A (B.drewN n):=⟨h.os,h.tape,h.output,h.size,h.block⟩
theorem p_next {c:Par} {w:World} {k:Nat} (R:Rd c w k) :
 Calls Tryz.prog 39 #[c.ptr] w fun e w'=>e=.returned (tkV (c.nx k))/\Below w.heap.size w w':=by
 obtain ⟨⟨o,H,O,_⟩,f⟩:=R.cells;have N:=R.lt;have i:=R.le;have l:=R.s.small.1;by_cases hk:k<c.toks.length
 · have a : c.nx k = (c.toks[k]).tk := by unfold Par.nx; rw [Par.at_lt hk]
   obtain ⟨E,F,z,b⟩:=R.s.tok;obtain ⟨g,I,C,r,A,y,t⟩:=b k c.toks[k] (List.getElem?_eq_getElem hk);obtain ⟨p,_⟩:c.ta=E/\True:=by cases z;exact ⟨rfl,trivial⟩
   obtain ⟨x,B⟩:=Qx (c.toks[k]);rw [<- B] at r A y t a;obtain ⟨K,J,m,G,M,P⟩:=x;simp only at r A y t;rw [a];subst p;rw [C] at o;have d:(k:Int)<(c.toks.length:Int):=by omega
   obtain ⟨n,j⟩:=Qx c.toks.length;rw [<- j] at o d hk i l;have Q:=lt_of_at r;clear a b z C B j R;unfold Par.ptr;go_enter Tryz.func39,Tryz.ntmps39;go_wp2;go_quiet (fail);go_wp2;go_region;go_wp2;refine bodyPost_ret (v:=tkV ⟨K,J,m,G⟩) (by simp [results,Tryz.results39,go_sem,tkV]) rfl ⟨rfl,?_⟩
   repeat (first | exact Below.refl _ _ | refine below_drewN ?_ _ | refine Below.setCell ?_ (by simp) _ | refine Below.alloc ?_ (by simp) _)
 · have a : c.nx k = ⟨0, ⟨#[]⟩, 0, c.L⟩ := by unfold Par.nx; rw [Par.at_end (by omega)]
   rw [a];have d:decide ((k:Int)<(c.toks.length:Int))=false:=b_f (by omega)
   have q:decide (k<c.toks.length)=false:=b_f (by omega)
   obtain ⟨n,j⟩:=Qx c.toks.length;rw [<- j] at o d hk i l q;obtain ⟨L,D⟩:=Qx c.L;rw [<- D] at H ⊢;clear a j D R;unfold Par.ptr;go_enter Tryz.func39,Tryz.ntmps39;go_wp2;go_quiet (fail);go_wp2;refine bodyPost_ret (v:=tkV ⟨0,⟨#[]⟩,0,L⟩) (by simp [results,Tryz.results39,go_sem,tkV]) rfl ⟨rfl,?_⟩
   repeat (first | exact Below.refl _ _ | refine below_drewN ?_ _ | refine Below.setCell ?_ (by simp) _ | refine Below.alloc ?_ (by simp) _)
theorem p_refuse (t:Tk) (r:Int) (w:World):Calls Tryz.prog 101 #[tkV t,.int .i64 r] w fun e w'=>e=.panicked (flt t.pos r)/\Below w.heap.size w w':=by
 obtain ⟨k,x,v,p⟩:=t;unfold tkV;go_enter Tryz.func101,Tryz.ntmps101;go_wp2;exact ⟨rfl,rfl,(Below.refl _ w).alloc (Nat.le_refl _) _⟩
theorem p_pass {c:Par} {w:World} {k:Nat} (R:Rd c w k) (s:ByteArray) (hs:s.data.toList≠[]) :
 Calls Tryz.prog 40 #[c.ptr,.string s] w fun e w'=>e=.returned (.bool (isT s.data.toList (c.at k)))/\Fr c w w'/\Rd c w' (if isT s.data.toList (c.at k)=true then k+1 else k):=by
 have b:=Hd (p_next R);have l:=Hd R;have a:=Par.isT_nx c k hs;by_cases h:isT s.data.toList (c.at k)=true
 · have m := Par.isT_lt h
   have r:k<=65536:=by have:=R.s.small.1;omega
   rw [h] at a ⊢;rw [if_pos rfl];obtain ⟨t,g⟩:=Qx (c.nx k);rw [<- g] at b a;obtain ⟨tk,tx,y,o⟩:=t;have v:(tx.toList==s.toList)=true:=by
    have e:tx.data.toList=s.data.toList:=by simpa [Tk.tx] using a.symm
    rw [Lib.toList_data,Lib.toList_data,e];simp
   have p:=Hd m;clear a h g R m;unfold tkV at b;unfold Par.ptr at b ⊢;have x:=tok_f1;go_enter Tryz.func40,Tryz.ntmps40;go_wp2_with (go_at_call 39;refine (b.out).mono ?_;rintro e q ⟨rfl,d⟩;have i:=Hd d;have j:=Hd (l.out.below d);obtain ⟨⟨_,_,z,_⟩,f⟩:=j.out.cells;clear d);go_ret;exact ⟨rfl,Fr.setX (.of_below i.out) _ 2 j.out.pos,j.out.step p.out⟩
 · have n : isT s.data.toList (c.at k) = false := by simpa using h
   rw [n] at a ⊢;rw [if_neg (by simp)]
   obtain ⟨t,g⟩:=Qx (c.nx k);rw [<- g] at b a;obtain ⟨tk,tx,y,o⟩:=t;have v:(tx.toList==s.toList)=false:=by
    have e:¬ tx.data.toList=s.data.toList:=by
     have:=a.symm;simpa [Tk.tx] using this
    rw [Lib.toList_data,Lib.toList_data];simpa using e
   clear a h n g R;unfold tkV at b;unfold Par.ptr at b ⊢;have x:=tok_f1;go_enter Tryz.func40,Tryz.ntmps40;go_wp2_with (go_at_call 39;refine (b.out).mono ?_;rintro e q ⟨rfl,d⟩;have i:=Hd d;clear d);go_ret;exact ⟨rfl,.of_below i.out,l.out.below i.out⟩
theorem p_take_ok {c:Par} {w:World} {k:Nat} (R:Rd c w k) (s:ByteArray) (hs:s.data.toList≠[]) (h:isT s.data.toList (c.at k)=true) :
 Calls Tryz.prog 146 #[c.ptr,.string s] w fun e w'=>e=.returned (.tuple #[])/\Fr c w w'/\Rd c w' (k+1):=by
 have a:=p_pass R s hs;rw [h,if_pos rfl] at a;have a:=Hd a;clear R;unfold Par.ptr at a ⊢;go_enter Tryz.func146,Tryz.ntmps146;go_wp2_with (go_at_call 40;refine (a.out).mono ?_;rintro e i ⟨rfl,b,d⟩;have g:=Hd b;have f:=Hd d;clear b d);go_end0;exact ⟨rfl,g.out,f.out⟩
theorem p_take_bad {c:Par} {w:World} {k:Nat} (R:Rd c w k) (s:ByteArray) (hs:s.data.toList≠[]) (h:isT s.data.toList (c.at k)=false) :
 Calls Tryz.prog 146 #[c.ptr,.string s] w fun e w'=>e=.panicked (flt (hdP c.L (c.at k)) 2)/\Fr c w w':=by
 have a:=p_pass R s hs;rw [h,if_neg (by simp)] at a
 have a:=Hd a;have d:Hid (∀ W,Rd c W k->Calls Tryz.prog 39 #[c.ptr] W fun e w'=>e=.returned (tkV (c.nx k))/\Below W.heap.size W w'):=fun W h=>p_next h
 have f:=c.nx_pos k;obtain ⟨t,j⟩:=Qx (c.nx k);rw [<- j] at d f;rw [<- f];clear R j f;unfold Par.ptr at a d ⊢;go_enter Tryz.func146,Tryz.ntmps146
 go_wp2_with (first
  | (go_at_call 40;refine (a.out).mono ?_;rintro e q ⟨rfl,g,i⟩;have n:=Hd g;have m:=Hd i;clear g i)
  | (go_at_call 39;refine (d.out _ m.out).mono ?_;rintro e p ⟨rfl,b⟩;have l:=Hd b;clear b)
  | (go_at_call 101;refine (p_refuse _ _ _).mono ?_;rintro e r ⟨rfl,b⟩;have o:=Hd b;clear b))
 exact ⟨rfl,rfl,(n.out.trans (.of_below l.out)).trans (.of_below o.out)⟩
def Par.row (c:Par) (k:Nat):Obj:=.cells #[.slice c.ta c.toks.length c.cap,.int .i64 (c.L:Int),.int .i64 (k:Int),.map (some c.D),.map (some c.S),.map (some c.O)] 95 (0,0)
structure At (c:Par) (w W:World) (k:Nat):Prop where
 fr:Fr c w W
 pos:W.heap[c.X]? = some (c.row k)
 le:k<=c.toks.length
theorem At.start {c:Par} {w:World} {k:Nat} (R:Rd c w k):At c w w k:=⟨Fr.refl c w,R.pos,R.le⟩
theorem At.rd {c:Par} {w W:World} {k k':Nat} (A:At c w W k') (R:Rd c w k):Rd c W k':=⟨R.s.keep A.fr,A.pos,A.le⟩
theorem At.lt {c:Par} {w W:World} {k:Nat} (A:At c w W k):c.X<W.heap.size:=(Array.getElem?_eq_some_iff.1 A.pos).1
theorem At.alloc {c:Par} {w W:World} {k:Nat} (A:At c w W k) (o:Obj):At c w (W.alloc o) k :=
 ⟨A.fr.alloc o,((Below.refl _ W).alloc (Nat.le_refl _) o).block _ A.lt |>.trans A.pos,A.le⟩
theorem At.below {c:Par} {w W W':World} {k:Nat} (A:At c w W k) (h:Below W.heap.size W W'):At c w W' k :=
 ⟨A.fr.trans (.of_below h),(h.block _ A.lt).trans A.pos,A.le⟩
theorem At.call {c:Par} {w W W':World} {k k':Nat} (A:At c w W k) (h:Fr c W W') (R:Rd c W' k'):At c w W' k':=⟨A.fr.trans h,R.pos,R.le⟩
theorem setRow_other {W:World} {b g:Nat} (cs:Array Value) (h:b≠g):(W.setRow g cs).heap[b]? = W.heap[b]?:=by
 simp only [World.setRow,Array.getElem?_modify];rw [if_neg (fun e=>h e.symm)]
theorem Fr.setRow {c:Par} {w W:World} (h:Fr c w W) {g:Nat} (hg:w.heap.size<=g) (cs:Array Value):Fr c w (W.setRow g cs) :=
 have h1:=Keep.os h
 have h2:=Keep.tape h
 have h3:=Keep.output h
 ⟨h1,h2,h3,by have:=Keep.size h;simpa [World.setRow] using this,fun b o hb hs=>by rw [setRow_other cs (by have:=hs.1;omega)];exact Keep.block h b o hb hs⟩
theorem At.setRow {c:Par} {w W:World} {k:Nat} (A:At c w W k) {g:Nat} (hg:w.heap.size<=g) (hx:c.X≠g) (cs:Array Value):At c w (W.setRow g cs) k :=
 ⟨A.fr.setRow hg cs,(setRow_other cs hx).trans A.pos,A.le⟩
theorem At.drew {c:Par} {w W:World} {k:Nat} (A:At c w W k):At c w W.drew k:=⟨Keep.drewN A.fr 1,A.pos,A.le⟩
theorem At.drewN {c:Par} {w W:World} {k:Nat} (A:At c w W k) (n:Nat):At c w (W.drewN n) k:=⟨Keep.drewN A.fr n,A.pos,A.le⟩
theorem At.step {c:Par} {w W:World} {k:Nat} (A:At c w W k) (hk:k<c.toks.length):At c w (W.setCell ⟨c.X,2,none⟩ (.int .i64 ((k:Int)+1))) (k+1):=by
 refine ⟨A.fr.setX _ 2 A.pos,?_,hk⟩;rw [heap_setCell_same W c.X 2 _ _ (.int .i64 ((k:Int)+1)) A.pos];rfl
theorem At.cells {c:Par} {w W:World} {k:Nat} (A:At c w W k) :
 (W.cell? ⟨c.X,0,none⟩=some (.slice c.ta c.toks.length c.cap)/\W.cell? ⟨c.X,1,none⟩=some (.int .i64 (c.L:Int))/\W.cell? ⟨c.X,2,none⟩=some (.int .i64 (k:Int)) /\
  W.cell? ⟨c.X,3,none⟩=some (.map (some c.D))/\W.cell? ⟨c.X,4,none⟩=some (.map (some c.S))/\W.cell? ⟨c.X,5,none⟩=some (.map (some c.O)))/\W.frozen? ⟨c.X,2,none⟩=false:=by
 have a:=A.pos;refine ⟨⟨?_,?_,?_,?_,?_,?_⟩,?_⟩
 · rw [cell_of_row W c.X 0 _ _ _ a];rfl
 · rw [cell_of_row W c.X 1 _ _ _ a];rfl
 · rw [cell_of_row W c.X 2 _ _ _ a];rfl
 · rw [cell_of_row W c.X 3 _ _ _ a];rfl
 · rw [cell_of_row W c.X 4 _ _ _ a];rfl
 · rw [cell_of_row W c.X 5 _ _ _ a];rfl
 · simp only [World.frozen?,a];rfl
def Own (W:World) (b:Nat) (t:TypeId) (cs:Array Value):Prop:=W.heap[b]? = some (.cells cs t (0,0))
theorem cr {w:World} {g j:Nat} {T:TypeId} {cs:Array Value} {v:Value} (h:Own w g T cs) (hv:cs[j]?=some v:=by rfl):w.cell? ⟨g,j,none⟩=some v:=by
 rw [cell_of_row _ _ j _ _ _ h];exact hv
theorem Own.new (W:World) (t:TypeId) (cs:Array Value):Own (W.alloc (.cells cs t)) W.heap.size t cs:=World.alloc_heap_new W _
theorem Own.lt {W:World} {b:Nat} {t:TypeId} {cs:Array Value} (h:Own W b t cs):b<W.heap.size:=(Array.getElem?_eq_some_iff.1 h).1
theorem Own.alloc {W:World} {b:Nat} {t:TypeId} {cs:Array Value} (h:Own W b t cs) (o:Obj):Own (W.alloc o) b t cs:=(((Below.refl _ W).alloc (Nat.le_refl _) o).block _ h.lt).trans h
theorem Own.below {W W':World} {b:Nat} {t:TypeId} {cs:Array Value} (h:Own W b t cs) (hb:Below W.heap.size W W'):Own W' b t cs:=(hb.block _ h.lt).trans h
theorem Own.fr {c:Par} {W W':World} {b:Nat} {t:TypeId} {cs:Array Value} (h:Own W b t cs) (hf:Fr c W W') (hx:c.X≠b):Own W' b t cs:=hf.block h (fun e=>hx e.symm)
theorem Own.setX {W:World} {b:Nat} {t:TypeId} {cs:Array Value} (h:Own W b t cs) {x:Nat} (j:Nat) (v:Value) (hx:x≠b):Own (W.setCell ⟨x,j,none⟩ v) b t cs:=(Below.heap_setCell _ _ _ _ (fun e=>hx e.symm)).trans h
theorem Own.drewN {W:World} {b:Nat} {t:TypeId} {cs:Array Value} (h:Own W b t cs) (n:Nat):Own (W.drewN n) b t cs:=h
theorem Own.row {W:World} {b:Nat} {t:TypeId} {cs:Array Value} (h:Own W b t cs) (ds:Array Value):Own (W.setRow b ds) b t ds:=setRow_heap _ _ _ _ _ _ h
theorem Own.other {W:World} {b g:Nat} {t:TypeId} {cs:Array Value} (h:Own W b t cs) (ds:Array Value) (hb:b≠g):Own (W.setRow g ds) b t cs:=(setRow_other ds hb).trans h
theorem stays_fr {c:Par} {R:Nat->Prop} {W W':World} (h:Fr c W W') (hx:∀ b,R b->b≠c.X):Stays R W W':=fun b o v hb hv=>by
 rw [h.cell (by have:=cell_lt hv;simpa using this) (hx b hb)];exact hv
theorem stays_alloc (R:Nat->Prop) (W:World) (o:Obj):Stays R W (W.alloc o):=fun b o' v hb hv=>by
 rw [((Below.refl W.heap.size W).alloc (Nat.le_refl _) o).cell (p:=⟨b,o',none⟩) (by have:=cell_lt hv;simpa using this)];exact hv
theorem stays_below {R:Nat->Prop} {W W':World} (h:Below W.heap.size W W'):Stays R W W':=fun b o' v hb hv=>by
 rw [h.cell (p:=⟨b,o',none⟩) (by have:=cell_lt hv;simpa using this)];exact hv
theorem stays_row {R:Nat->Prop} (W:World) {g:Nat} (cs:Array Value) (hx:∀ b,R b->b≠g):Stays R W (W.setRow g cs):=fun b o v hb hv=>by
 have e:=setRow_other (W:=W) cs (hx b hb)
 rw [<- hv];simp only [World.cell?,e]
theorem stays_setX {R:Nat->Prop} (W:World) {x:Nat} (j:Nat) (u:Value) (hx:∀ b,R b->b≠x):Stays R W (W.setCell ⟨x,j,none⟩ u):=fun b o v hb hv=>by
 have e:=Below.heap_setCell W ⟨x,j,none⟩ u b (hx b hb)
 rw [<- hv];simp only [World.cell?,e]
def RowT (T:TypeId) (n:Nat):Prop:=∃ d,Tryz.prog.underlying T=some d/\(match d with | .struct _ | .array _ _=>true | _=>false)=true/\(Tryz.prog.info? T).map (·.size)=some n
theorem rowTok:RowT 50 4:=⟨_,Tryz.underlying50,rfl,by kernel_rfl⟩
theorem rowEx:RowT 167 6:=⟨_,Tryz.underlying167,rfl,by kernel_rfl⟩
theorem rowDc:RowT 61 3:=⟨_,Tryz.underlying61,rfl,by kernel_rfl⟩
theorem rowSt:RowT 120 7:=⟨_,Tryz.underlying120,rfl,by kernel_rfl⟩
theorem rowTh:RowT 66 4:=⟨_,Tryz.underlying66,rfl,by kernel_rfl⟩
theorem rowPg:RowT 26 3:=⟨_,Tryz.underlying26,rfl,by kernel_rfl⟩
theorem rowFl:RowT 29 2:=⟨_,Tryz.underlying29,rfl,by kernel_rfl⟩
section
variable {ops:Array Oper} {rest:List Oper} {o:Oper} {a:Act} {w:World} {Q:Exit->Act->World->Prop} {T:TypeId} {n:Nat}
theorem ld (hT:RowT T n) (hgd:o.guard=none) {x:Operand} (ho:o.op=.load T x) {g:Nat} (hx:a.eval x=.pointer (some ⟨g,0,none⟩)) {cs:Array Value} (hg:Own w g T cs) (hn:cs.size=n)
 (h:wpList Tryz.prog ops Q rest (a.put o.dst (.agg cs)) w):wpList Tryz.prog ops Q (o::rest) a w:=by
 obtain ⟨d,c,f,b⟩:=hT;exact wpList_load_row hgd T x ho g hx T cs (0,0) d hg c (by cases d <;> first | rfl | cases f) (by rw [b,hn]) h
theorem st (hT:RowT T n) (hgd:o.guard=none) {x y:Operand} (ho:o.op=.store T x y) {g:Nat} {cs old:Array Value} (hg:Own w g T old) (hx:a.eval x=.pointer (some ⟨g,0,none⟩)) (hy:a.eval y=.agg cs) (hn:cs.size=n) (hm:old.size=n) (h1:cs.all (·.oneCell')=true)
 (h:wpList Tryz.prog ops Q rest (a.put o.dst undef) (w.setRow g cs)):wpList Tryz.prog ops Q (o::rest) a w:=by
 obtain ⟨d,_,_,b⟩:=hT;exact wpList_store_row hgd T x y ho g cs hx hy T old hg (by rw [b,hn]) (by rw [hm,hn]) h1 h
theorem p_ret (hT:RowT T n) {fn:Func} {p:Tmp} {R:Ending->World->Prop} (hr:fn.results=#[.cell p T]) {g:Nat} {cs:Array Value} (hg:Own w g T cs) (hp:a.tmps.getD p undef=.pointer (some ⟨g,0,none⟩)) (hd:a.defers=[]) (hn:cs.size=n)
 (h:R (.returned (.agg cs)) w):bodyPost Tryz.prog fn R .ret a w:=by
 obtain ⟨d,c,f,b⟩:=hT;exact bodyPost_ret (results_cell_row hr _ _ g T cs (0,0) d hp hg c (by cases d <;> first | rfl | cases f) (by rw [b,hn])) hd h
end
def zTok:Array Value:=#[.int .u8 0,.string ⟨#[]⟩,.int .i64 0,.int .i64 0]
def zEx:Array Value:=#[.int .u8 0,.int .u8 0,.int .i64 0,.string ⟨#[]⟩,.slice none 0 0,.int .i64 0]
def zSt:Array Value:=#[.int .u8 0,.string ⟨#[]⟩,.string ⟨#[]⟩,.slice none 0 0,.slice none 0 0,.slice none 0 0,.int .i64 0]
def zDc:Array Value:=#[.string ⟨#[]⟩,.int .i64 0,.int .i64 0]
def zTh:Array Value:=#[.string ⟨#[]⟩,.slice none 0 0,.slice none 0 0,.int .i64 0]
def zPg:Array Value:=#[.slice none 0 0,.slice none 0 0,.slice none 0 0]
theorem p_kind_ok {c:Par} {w:World} {k:Nat} (R:Rd c w k) (kd:Int) (h:(c.nx k).kind=kd) (hk:k<c.toks.length) :
 Calls Tryz.prog 144 #[c.ptr,.int .u8 kd] w fun e w'=>e=.returned (tkV (c.nx k))/\Fr c w w'/\Rd c w' (k+1):=by
 have C:k<=65536:=by have:=R.s.small.1;omega
 have E:=Hd hk;have q:c.X≠w.heap.size:=by have:=R.lt;omega
 have z:Hid (∀ W,Rd c W k->Calls Tryz.prog 39 #[c.ptr] W fun e w'=>e=.returned (tkV (c.nx k))/\Below W.heap.size W w'):=fun W h=>p_next h
 obtain ⟨t,y⟩:=Qx (c.nx k);rw [<- y] at z h ⊢;obtain ⟨tk,tx,b,a⟩:=t;simp only at h;subst h;have l:=Hd R;have r:=Hd q;clear y hk R q;unfold tkV Par.ptr at *;go_enter Tryz.func144,Tryz.ntmps144;go_wp2_with fail;have d:=(At.start l.out).alloc (.cells #[.int .u8 0,.string ⟨#[]⟩,.int .i64 0,.int .i64 0] 50);have A:=Own.new w 50 #[.int .u8 0,.string ⟨#[]⟩,.int .i64 0,.int .i64 0];go_at_call 39;refine (z.out _ (d.rd l.out)).mono ?_;rintro e v ⟨rfl,g⟩;have j:=Hd (d.below g);have O1:=Hd (A.below g);have m:=j.out.lt;obtain ⟨⟨_,_,B,_⟩,f⟩:=j.out.cells;clear g d A;go_upto_region 5 with (fail)
 have o:=((j.out.step E.out).alloc (.cells #[.int .u8 tk,.string tx,.int .i64 b,.int .i64 a] 50));have n:=(O1.out.setX 2 (.int .i64 ((k:Int)+1)) r.out).alloc (.cells #[.int .u8 tk,.string tx,.int .i64 b,.int .i64 a] 50)
 have i:=Own.new (v.setCell ⟨c.X,2,none⟩ (.int .i64 ((k:Int)+1))) 50 #[.int .u8 tk,.string tx,.int .i64 b,.int .i64 a]
 rw [World.size_setCell] at i;obtain ⟨W,x⟩:=Qx ((v.setCell ⟨c.X,2,none⟩ (.int .i64 ((k:Int)+1))).alloc (.cells #[.int .u8 tk,.string tx,.int .i64 b,.int .i64 a] 50));rw [<- x] at o n i ⊢;have D:=Hd o;clear B f m x o;go_wp2_with (first | (refine ld rowTok rfl rfl rfl i rfl ?_) | (refine st rowTok rfl rfl n rfl rfl (by rfl) (by rfl) (by kernel_rfl) ?_))
 have p:=D.out.setRow (Nat.le_refl _) r.out #[.int .u8 tk,.string tx,.int .i64 b,.int .i64 a];exact p_ret rowTok rfl (n.row #[.int .u8 tk,.string tx,.int .i64 b,.int .i64 a]) rfl rfl rfl ⟨rfl,p.fr,p.rd l.out⟩
theorem p_kind_bad {c:Par} {w:World} {k:Nat} (R:Rd c w k) (kd:Int) (h:¬ (c.nx k).kind=kd) :
 Calls Tryz.prog 144 #[c.ptr,.int .u8 kd] w fun e w'=>e=.panicked (flt (hdP c.L (c.at k)) 2)/\Fr c w w':=by
 have l:Hid (∀ W,Rd c W k->Calls Tryz.prog 39 #[c.ptr] W fun e w'=>e=.returned (tkV (c.nx k))/\Below W.heap.size W w'):=fun W h=>p_next h
 have d:=c.nx_pos k;obtain ⟨t,g⟩:=Qx (c.nx k);rw [<- g] at l h d;rw [<- d];obtain ⟨tk,tx,j,f⟩:=t;simp only at h;have o:(tk==kd)=false:=by simpa using h
 have i:=Hd R;clear g R h d;have m:=Hd (fun w=>p_refuse ⟨tk,tx,j,f⟩ 2 w)
 unfold tkV Par.ptr at *;go_enter Tryz.func144,Tryz.ntmps144;go_wp2_with fail;have b:=(At.start i.out).alloc (.cells zTok 50);go_at_call 39;refine (l.out _ (b.rd i.out)).mono ?_;rintro e q ⟨rfl,a⟩;have n:=Hd ((b.below a).alloc (.cells #[.int .u8 tk,.string tx,.int .i64 j,.int .i64 f] 50));clear a b;go_wp2_with (go_at_call 101;refine (m.out _).mono ?_;rintro e r ⟨rfl,a⟩;have p:=Hd a;clear a);exact ⟨rfl,rfl,n.out.fr.trans (.of_below p.out)⟩
open Go.RowKit
set_option linter.unusedVariables false
theorem p_deeper_ok (t:Tk) (d:Int) (h0:0<=d) (h1:d<64) (w:World):Calls Tryz.prog 149 #[tkV t,.int .i64 d] w fun e w'=>e=.returned (.int .i64 (d+1))/\Below w.heap.size w w':=by
 obtain ⟨tk,tx,c,b⟩:=t;have a:(d==64)=false:=by simp;omega
 unfold tkV;go_enter Tryz.func149,Tryz.ntmps149;go_wp2_with fail;go_ret;exact ⟨rfl,(Below.refl _ w).alloc (Nat.le_refl _) _⟩
theorem p_deeper_bad (t:Tk) (w:World):Calls Tryz.prog 149 #[tkV t,.int .i64 64] w fun e w'=>e=.panicked (flt t.pos 3)/\Below w.heap.size w w':=by
 obtain ⟨tk,tx,d,b⟩:=t;have c:=Hd (fun w=>p_refuse ⟨tk,tx,d,b⟩ 3 w)
 unfold tkV at *;go_enter Tryz.func149,Tryz.ntmps149;go_wp2_with (go_at_call 101;refine (c.out _).mono ?_;rintro e g ⟨rfl,a⟩;have f:=Hd a;clear a);exact ⟨rfl,rfl,((Below.refl w.heap.size w).alloc (Nat.le_refl _) _).trans (f.out.mono (by simp))⟩
def exR (n:Nat) (e:Ex) (v:Value) (w':World):Prop:=∃ a cap,v=.agg #[.int .u8 e.kind,.int .u8 e.op,.int .i64 e.wd,.string e.name,.slice a e.kids.length cap,.int .i64 e.pos]/\exsAt (fun b=>n<=b) w' e.kids a
theorem p_number (t:Tk) (d:Int) (w:World):Calls Tryz.prog 176 #[tkV t,.int .i64 d] w fun e w'=>e=.returned (.agg #[.int .u8 1,.int .u8 0,.int .i64 t.wd,.string ⟨#[]⟩,.slice none 0 0,.int .i64 t.pos])/\Below w.heap.size w w':=by
 obtain ⟨tk,tx,c,b⟩:=t;have a:=Own.new (w.alloc (.cells #[.int .u8 tk,.string tx,.int .i64 c,.int .i64 b] 50)) 167 zEx;rw [World.size_alloc] at a;unfold tkV zEx at *;go_enter Tryz.func176,Tryz.ntmps176;go_wp2_with (refine st rowEx rfl rfl a rfl rfl (by rfl) (by rfl) (by kernel_rfl) ?_)
 exact p_ret rowEx rfl (a.row #[.int .u8 1,.int .u8 0,.int .i64 c,.string ⟨#[]⟩,.slice none 0 0,.int .i64 b]) rfl rfl rfl ⟨rfl,below_setRow ((((Below.refl _ w).alloc (Nat.le_refl _) _)).alloc (by simp) _) (by simp) _⟩
theorem p_variable (t:Tk) (d:Int) (w:World):Calls Tryz.prog 177 #[tkV t,.int .i64 d] w fun e w'=>e=.returned (.agg #[.int .u8 2,.int .u8 0,.int .i64 0,.string t.text,.slice none 0 0,.int .i64 t.pos])/\Below w.heap.size w w':=by
 obtain ⟨tk,tx,c,b⟩:=t;have a:=Own.new (w.alloc (.cells #[.int .u8 tk,.string tx,.int .i64 c,.int .i64 b] 50)) 167 zEx;rw [World.size_alloc] at a;unfold tkV zEx at *;go_enter Tryz.func177,Tryz.ntmps177;go_wp2_with (refine st rowEx rfl rfl a rfl rfl (by rfl) (by rfl) (by kernel_rfl) ?_)
 exact p_ret rowEx rfl (a.row #[.int .u8 2,.int .u8 0,.int .i64 0,.string tx,.slice none 0 0,.int .i64 b]) rfl rfl rfl ⟨rfl,below_setRow ((((Below.refl _ w).alloc (Nat.le_refl _) _)).alloc (by simp) _) (by simp) _⟩
section
variable {P:Program} {md:Region.Mode} {ops:Array Oper} {Q:Exit->Act->World->Prop} {S:World->Prop} {fuel:Nat} {listed:Array Bool} {a:Act} {w:World}
theorem dr_take (i:Nat) {oi:Oper} (v:Value) (hi:ops[i]? = some oi) (hg:oi.guard=none) (hs:Region.noSelect ops=true) (hf:Region.free md ops listed i=true) (hr:(Region.ready md ops listed).contains i=true)
 (hQ:∀ c a w,Q (.panic c) (a.put oi.dst v) w->Q (.panic c) a w) (hrun:∀ w,S w->(execOp a.eval oi).run P w=.ok (.value v) w) (hS:S w)
 (h:wpAnyH P md ops Q S fuel (listed.setIfInBounds i true) (a.put oi.dst v) w):wpAnyH P md ops Q S (fuel+1) listed a w :=
 wpAnyH_take hi hs hf hr hQ (.inl ⟨by simp [Region.wanted,hg],hrun⟩) hS h
theorem dk (i:Nat) {oi:Oper} (v:Value) (hi:ops[i]? = some oi) (hg:oi.guard=none) (hrun:∀ w,S w->(execOp a.eval oi).run P w=.ok (.value v) w) (hS:S w)
 (h:wpAnyH P md ops Q S fuel (listed.setIfInBounds i true) (a.put oi.dst v) w) (hs:Region.noSelect ops=true:=by kernel_rfl) (hf:Region.free md ops listed i=true:=by kernel_rfl) (hr:(Region.ready md ops listed).contains i=true:=by kernel_rfl)
 (hQ:∀ c a w,Q (.panic c) (a.put oi.dst v) w->Q (.panic c) a w:=by exact fun _ _ _ h=>h):wpAnyH P md ops Q S (fuel+1) listed a w:=dr_take i v hi hg hs hf hr hQ hrun hS h
theorem dr_one (i:Nat) {oi:Oper} (hi:ops[i]? = some oi) (hg:oi.guard=none) (hr:Region.ready md ops listed=[i])
 (h:oi.wp P a w (fun a' w'=>S w'/\wpAnyH P md ops Q S fuel (listed.setIfInBounds i true) a' w') Q):wpAnyH P md ops Q S (fuel+1) listed a w:=by
 refine wpAnyH_all hr (by simp) fun j hj=>?_
 obtain rfl:j=i:=by simpa using hj
 unfold wpOp;simp only [hi,Region.wanted,hg];exact .inl h
theorem do1 (i:Nat) {oi:Oper} (hi:ops[i]? = some oi) (hg:oi.guard=none)
 (h:oi.wp P a w (fun a' w'=>S w'/\wpAnyH P md ops Q S fuel (listed.setIfInBounds i true) a' w') Q) (hr:Region.ready md ops listed=[i]:=by kernel_rfl):wpAnyH P md ops Q S (fuel+1) listed a w:=dr_one i hi hg hr h
theorem dr_two (i k:Nat) {oi ok:Oper} (hi:ops[i]? = some oi) (hk:ops[k]? = some ok) (hg:oi.guard=none) (hgk:ok.guard=none) (hr:Region.ready md ops listed=[i,k])
 (h:oi.wp P a w (fun a' w'=>S w'/\wpAnyH P md ops Q S fuel (listed.setIfInBounds i true) a' w') Q)
 (h':ok.wp P a w (fun a' w'=>S w'/\wpAnyH P md ops Q S fuel (listed.setIfInBounds k true) a' w') Q):wpAnyH P md ops Q S (fuel+1) listed a w:=by
 refine wpAnyH_all hr (by simp) fun j hj=>?_
 have b:j=i\/j=k:=by simpa using hj
 unfold wpOp;rcases b with rfl | rfl
 · simp only [hi,Region.wanted,hg];exact .inl h
 · simp only [hk,Region.wanted,hgk];exact .inl h'
theorem wp_call {o:Oper} {K:Act->World->Prop} {x:Operand} {args:Array Operand} {ts:Array TypeId} (ho:o.op=.call { callee:=.value x,args:=args,argTypes:=ts }) {f:FuncId} {fst cap:Array Value} (hx:a.eval x=.func (.func f) fst cap) (hE:∀ (args:Array Value) (w:World),(callFunc f args).run P w=.ok (.enter f args) w)
 {vs:Array Value} (hv:fst++args.map a.eval++cap=vs) {R:Ending->World->Prop} (hc:Calls P f vs w R) (hk:∀ e w',R e w'->(match e with | .returned v=>K (a.put o.dst v) w' | .panicked ch=>Q (.panic ch) a w' | .outgrown=>LetsOut Q)):o.wp P a w K Q:=by
 have d:∀ ty,resolve a.eval { callee:=.value x,args:=args,argTypes:=ts } ty=pure { target:=.fn (.func f) cap,args:=fst++args.map a.eval }:=fun ty=>by
  unfold resolve;simp only [hx];rfl
 have b:(execOp a.eval o).run P w=.ok (.enter f vs) w:=by
  unfold execOp;simp only [ho,d];obtain ⟨g,c⟩:=Qx (args.map a.eval);rw [<- c] at hv ⊢;simp [invoke,go_sem,hE,hv]
 unfold Oper.wp;rw [b,Oper.upon_enter];exact hc.mono fun e w' h=>by have:=hk e w' h;cases e <;> exact this
end
theorem run_ld {o:Oper} {a:Act} {w:World} {T:TypeId} {n:Nat} (hT:RowT T n) {x:Operand} (ho:o.op=.load T x) {g:Nat} (hx:a.eval x=.pointer (some ⟨g,0,none⟩)) {cs:Array Value} (hg:Own w g T cs) (hn:cs.size=n):(execOp a.eval o).run Tryz.prog w=.ok (.value (.agg cs)) w:=by
 obtain ⟨d,c,f,b⟩:=hT;unfold execOp;simp only [ho,hx,Instr.loadAt,Instr.sureAddr,Sem.run_bind,Sem.run_pure,Result.andThen_ok,run_loadVar_row w g T T cs (0,0) d hg c (by cases d <;> first | rfl | cases f) (by rw [b,hn])]
theorem wp_alloc_ex {o:Oper} {a:Act} {w:World} {K:Act->World->Prop} {Q:Exit->Act->World->Prop} (ho:o.op=.alloc 167) (h:K (a.put o.dst (.pointer (some ⟨w.heap.size,0,none⟩))) (w.alloc (.cells zEx 167))):o.wp Tryz.prog a w K Q:=by
 have b:(execOp a.eval o).run Tryz.prog w=.ok (.value (.pointer (some ⟨w.heap.size,0,none⟩))) (w.alloc (.cells zEx 167)):=by
  unfold execOp;simp only [ho];go_simp;rfl
 unfold Oper.wp;rw [b];exact h
open Go.RowKit
set_option linter.unusedVariables false
def OpndC (n:Nat):Prop:=∀ (c:Par) (w:World) (k:Nat) (d:Int),Rd c w k->0<=d->d<=64->3*(c.at k).length+1<=n ->
 Calls Tryz.prog 148 #[c.ptr,.int .i64 d] w (RdPost c w (opnd fnd c.L n d (c.at k)) (exR w.heap.size))
def BinC (n:Nat):Prop:=∀ (c:Par) (w:World) (k:Nat) (v d:Int),Rd c w k->1<=v->v<=9->0<=d->d<=64->3*(c.at k).length+2<=n ->
 Calls Tryz.prog 150 #[c.ptr,.int .i64 v,.int .i64 d] w (RdPost c w (binE fnd c.L n v d (c.at k)) (exR w.heap.size))
structure UnG (c:Par) (w:World) (b:Nat) (op:Int) (t:Tk) (W:World) (j:Nat):Prop where
 run:At c w W j
 box:W.cell? ⟨b,0,none⟩=some (.pointer (some ⟨c.X,0,none⟩))
 opr:W.cell? ⟨b+1,0,none⟩=some (.int .u8 op)
 tok:Own W w.heap.size 50 #[.int .u8 t.kind,.string t.text,.int .i64 t.wd,.int .i64 t.pos]
 res:Own W (w.heap.size+1) 167 zEx
section
variable {c:Par} {w W W':World} {b:Nat} {op:Int} {t:Tk} {j k2:Nat}
theorem UnG.below (h:UnG c w b op t W j) (hb:Below W.heap.size W W'):UnG c w b op t W' j :=
 ⟨h.run.below hb,(hb.cell (p:=⟨b,0,none⟩) (by have:=cell_lt h.box;simpa using this)).trans h.box,(hb.cell (p:=⟨b+1,0,none⟩) (by have:=cell_lt h.opr;simpa using this)).trans h.opr,h.tok.below hb,h.res.below hb⟩
theorem UnG.alloc (h:UnG c w b op t W j) (o:Obj):UnG c w b op t (W.alloc o) j:=h.below ((Below.refl _ W).alloc (Nat.le_refl _) o)
theorem UnG.drew (h:UnG c w b op t W j):UnG c w b op t W.drew j:=⟨h.run.drew,h.box,h.opr,h.tok,h.res⟩
theorem UnG.call (h:UnG c w b op t W j) (hf:Fr c W W') (hp:At c w W' k2) (hX:c.X<w.heap.size) (h1:b≠c.X) (h2:b+1≠c.X):UnG c w b op t W' k2 :=
 ⟨hp,(hf.cell (by have:=cell_lt h.box;simpa using this) h1).trans h.box,(hf.cell (by have:=cell_lt h.opr;simpa using this) h2).trans h.opr,h.tok.fr hf (by omega),h.res.fr hf (by omega)⟩
theorem UnG.row (h:UnG c w b op t W j) (cs:Array Value) {g:Nat} (hg:w.heap.size+1<g) (hX:c.X<w.heap.size) (h1:b≠c.X) (h2:b+1≠c.X) (hb:b+1<w.heap.size):UnG c w b op t (W.setRow g cs) j:=by
 have e:∀ x,x≠g->(W.setRow g cs).cell? ⟨x,0,none⟩=W.cell? ⟨x,0,none⟩:=fun x hx=>by
  have:=setRow_other (W:=W) cs hx;simp only [World.cell?,this]
 exact ⟨h.run.setRow (by omega) (by omega) cs,(e b (by omega)).trans h.box,(e (b+1) (by omega)).trans h.opr,h.tok.other cs (by omega),h.res.other cs (by omega)⟩
end
theorem p_unary {n:Nat} (H:OpndC n) {c:Par} {w:World} {k:Nat} (R:Rd c w k) (t:Tk) (d op:Int) (b:Nat) (h0:0<=d) (h1:d<64) (hn:3*(c.at k).length+1<=n) (hb1:Own w b 54 #[c.ptr]) (hb2:Own w (b+1) 43 #[.int .u8 op]) (hx0:b≠c.X) (hx1:b+1≠c.X) :
 Calls Tryz.prog 147 #[tkV t,.int .i64 d,.pointer (some ⟨b,0,none⟩),.pointer (some ⟨b+1,0,none⟩)] w
  (RdPost c w ((opnd fnd c.L n (d+1) (c.at k)).then fun e r=>.ok (unX op t.pos e) r) (exR w.heap.size)):=by
 obtain ⟨Y,hY⟩:=Qx (opnd fnd c.L n (d+1) (c.at k));have HC:Hid (∀ W,Rd c W k->Calls Tryz.prog 148 #[c.ptr,.int .i64 (d+1)] W (RdPost c W Y (exR W.heap.size))):=fun W RW=>by rw [hY];exact H c W k (d+1) RW (by omega) (by omega) hn
 have U:=Hd R;rw [<- hY];obtain ⟨tk,tx,y,o⟩:=t;have hd:=Hd (fun W=>p_deeper_ok ⟨tk,tx,y,o⟩ d h0 h1 W)
 have c1:w.cell? ⟨b,0,none⟩=some c.ptr:=cr hb1;have c2:w.cell? ⟨b+1,0,none⟩=some (.int .u8 op):=cr hb2;have G:=Hd R.lt;have A:=Hd (And.intro hx0 hx1);have Z:=Hd (And.intro hb1.lt hb2.lt);clear hY H R hn hb1 hb2 hx0 hx1;unfold tkV Par.ptr at *;go_enter Tryz.func147,Tryz.ntmps147;go_wp2_with fail;have z:UnG c w b op ⟨tk,tx,y,o⟩ ((w.alloc (.cells #[.int .u8 tk,.string tx,.int .i64 y,.int .i64 o] 50)).alloc (.cells zEx 167)).drew k:=by
  have i:=((Below.refl w.heap.size w).alloc (Nat.le_refl _) (.cells #[.int .u8 tk,.string tx,.int .i64 y,.int .i64 o] 50)).alloc (by simp) (.cells zEx 167)
  have o2:=Own.new (w.alloc (.cells #[.int .u8 tk,.string tx,.int .i64 y,.int .i64 o] 50)) 167 zEx;rw [World.size_alloc] at o2;exact UnG.drew ⟨((At.start U.out).alloc _).alloc _,(i.cell (p:=⟨b,0,none⟩) Z.out.1).trans c1,(i.cell (p:=⟨b+1,0,none⟩) Z.out.2).trans c2,(Own.new w _ _).alloc _,o2⟩
 rename_i Q1 K1 hK1
 have C:∀ (g:Nat) (W:World) (a:Ex) (m:Option Addr) (f F:Nat),Y=.ok a (c.at F)->UnG c w b op ⟨tk,tx,y,o⟩ W F->Own W g 167 #[.int .u8 a.kind,.int .u8 a.op,.int .i64 a.wd,.string a.name,.slice m a.kids.length f,.int .i64 a.pos]->w.heap.size+1<g->exsAt (fun b=>w.heap.size+1<b/\b≠g) W a.kids m ->
  K1 { tmps:=#[.agg #[.int .u8 tk,.string tx,.int .i64 y,.int .i64 o],.int .i64 d,.pointer (some ⟨b,0,none⟩),.pointer (some ⟨b+1,0,none⟩),.pointer (some ⟨w.heap.size,0,none⟩),undef,.pointer (some ⟨w.heap.size+1,0,none⟩),.pointer (some ⟨g,0,none⟩),.pointer (some ⟨c.X,0,none⟩),.agg #[.int .u8 tk,.string tx,.int .i64 y,.int .i64 o],.int .i64 d,.int .i64 (d+1),
   .agg #[.int .u8 a.kind,.int .u8 a.op,.int .i64 a.wd,.string a.name,.slice m a.kids.length f,.int .i64 a.pos],undef,undef,undef,undef,undef,undef],defers:=[] } W:=by
  intro g W a m f F hY Q hg ac O;subst hY;have HG:=Hd Q;have HV:=Hd O;have a1:=Hd ac;have co:=Q.opr;have ct:W.cell? ⟨w.heap.size,3,none⟩=some (.int .i64 o):=cr Q.tok;have lt:=Q.tok.lt;have O6:=Q.res.alloc (.cells #[.int .u8 a.kind,.int .u8 a.op,.int .i64 a.wd,.string a.name,.slice m a.kids.length f,.int .i64 a.pos] 167);have N0:=Hd (Own.new W 167 #[.int .u8 a.kind,.int .u8 a.op,.int .i64 a.wd,.string a.name,.slice m a.kids.length f,.int .i64 a.pos]);clear Q O ac;apply hK1;go_wp2_with (first | (refine ld rowEx rfl rfl rfl hg rfl ?_) | (refine st rowEx rfl rfl O6 rfl rfl (by rfl) (by rfl) (by kernel_rfl) ?_))
  have ar:=HG.out.res.lt;refine p_ret rowEx rfl (O6.row #[.int .u8 3,.int .u8 op,.int .i64 0,.string ⟨#[]⟩,.slice (some ⟨W.heap.size,0,none⟩) 1 1,.int .i64 o]) rfl rfl rfl ?_;have V:=G.out;have A4:=(HG.out.run.alloc (.cells #[.int .u8 a.kind,.int .u8 a.op,.int .i64 a.wd,.string a.name,.slice m a.kids.length f,.int .i64 a.pos] 167)).setRow (g:=w.heap.size+1) (by omega) (by omega) #[.int .u8 3,.int .u8 op,.int .i64 0,.string ⟨#[]⟩,.slice (some ⟨W.heap.size,0,none⟩) 1 1,.int .i64 o]
  refine ⟨A4.fr,_,F,rfl,⟨_,_,rfl,?_⟩,A4.rd U.out,rfl⟩;refine .inr ⟨W.heap.size,0,rfl,by omega,?_,trivial⟩
  have ae:Stays (fun b=>w.heap.size+1<b/\b≠g) W ((W.alloc (.cells #[.int .u8 a.kind,.int .u8 a.op,.int .i64 a.wd,.string a.name,.slice m a.kids.length f,.int .i64 a.pos] 167)).setRow (w.heap.size+1) #[.int .u8 3,.int .u8 op,.int .i64 0,.string ⟨#[]⟩,.slice (some ⟨W.heap.size,0,none⟩) 1 1,.int .i64 o]) :=
   (stays_alloc _ W _).trans (stays_row _ _ (fun b i=>by omega))
  refine exIn_of (vs:=exCells a m f) ⟨m,f,rfl,exsAt_stays ae (fun b i=>by omega) HV.out⟩ ?_
  have N1:=N0.out.other #[.int .u8 3,.int .u8 op,.int .i64 0,.string ⟨#[]⟩,.slice (some ⟨W.heap.size,0,none⟩) 1 1,.int .i64 o] (g:=w.heap.size+1) (by omega)
  intro j v hj;rw [Nat.zero_add,cell_of_row _ W.heap.size j _ _ _ N1,<- hj];simp [exCells]
 refine wp_region_held (S:=fun W=>W.cell? ⟨b,0,none⟩=some (.pointer (some ⟨c.X,0,none⟩))/\Own W w.heap.size 50 #[.int .u8 tk,.string tx,.int .i64 y,.int .i64 o]) (by kernel_rfl) ?_
 obtain ⟨W0,T⟩:=Qx (((w.alloc (.cells #[.int .u8 tk,.string tx,.int .i64 y,.int .i64 o] 50)).alloc (.cells zEx 167)).drew);change wpAnyH _ _ _ _ _ _ _ _ ((w.alloc (.cells #[.int .u8 tk,.string tx,.int .i64 y,.int .i64 o] 50)).alloc (.cells zEx 167)).drew;rw [<- T] at z ⊢;clear T;refine dk 0 (.pointer (some ⟨c.X,0,none⟩)) rfl rfl ?_ ⟨z.box,z.tok⟩ ?_
 · rintro w' ⟨s1, s2⟩
   unfold execOp;go_simp
 change wpAnyH _ _ _ _ _ _ _ F19_ _;delta F19_;refine dk 1 (.agg #[.int .u8 tk,.string tx,.int .i64 y,.int .i64 o]) rfl rfl ?_ ⟨z.box,z.tok⟩ ?_
 · rintro w' ⟨s1, s2⟩
   exact run_ld rowTok rfl rfl s2 rfl
 change wpAnyH _ _ _ _ _ _ _ F19_ _;delta F19_;refine dk 2 (.int .i64 d) rfl rfl (fun _ _=>rfl) ⟨z.box,z.tok⟩ ?_
 change wpAnyH _ _ _ _ _ _ _ F19_ _;delta F19_;refine dr_two 3 5 rfl rfl rfl rfl (by kernel_rfl) ?_ ?_
 · refine wp_call (vs := #[.agg #[.int .u8 tk, .string tx, .int .i64 y, .int .i64 o], .int .i64 d]) rfl rfl (enters_of Tryz.func149 (by kernel_rfl) rfl) (by simp [Act.eval]) (hd.out _) ?_
   rintro e P ⟨rfl,i⟩;have s:=z.below i;refine ⟨⟨s.box,s.tok⟩,?_⟩;change wpAnyH _ _ _ _ _ _ _ F19_ _;delta F19_;refine dr_two 4 5 rfl rfl rfl rfl (by kernel_rfl) ?_ ?_
   · refine wp_call (vs := #[.pointer (some ⟨c.X, 0, none⟩), .int .i64 (d + 1)]) rfl rfl (enters_of Tryz.func148 (by kernel_rfl) rfl) (by simp [Act.eval]) (HC.out _ (s.run.rd U.out)) ?_
     rintro e K ⟨l,N⟩;rcases Y with ⟨a,r0⟩ | ⟨p,q⟩
     rotate_left
     · obtain rfl := N
       exact ⟨rfl,s.run.fr.trans l,rfl⟩
     obtain ⟨v,F,rfl,⟨m,f,rfl,O⟩,D,rfl⟩:=N;have x:=s.call l (s.run.call l D) G.out A.out.1 A.out.2;refine ⟨⟨x.box,x.tok⟩,?_⟩;change wpAnyH _ _ _ _ _ _ _ F19_ _;delta F19_;refine do1 5 rfl rfl ?_;refine wp_alloc_ex rfl ⟨⟨(x.alloc _).box,(x.alloc _).tok⟩,?_⟩;change wpAnyH _ _ _ _ _ _ _ F19_ _;delta F19_;refine do1 6 rfl rfl ?_;have M:=Own.new K 167 zEx;have hs:=x.res.lt;refine wp_store_row 167 _ _ rfl K.heap.size #[.int .u8 a.kind,.int .u8 a.op,.int .i64 a.wd,.string a.name,.slice m a.kids.length f,.int .i64 a.pos] rfl rfl 167 zEx M (by kernel_rfl) rfl (by kernel_rfl) ?_
     have B:=(x.alloc (.cells zEx 167)).row #[.int .u8 a.kind,.int .u8 a.op,.int .i64 a.wd,.string a.name,.slice m a.kids.length f,.int .i64 a.pos] (g:=K.heap.size) (by omega) G.out A.out.1 A.out.2 Z.out.2
     refine ⟨⟨B.box,B.tok⟩,wpAnyH_done (by kernel_rfl) ?_ _⟩
     refine C K.heap.size _ a m f F rfl B (M.row _) (by omega) ?_
     have E:=exsAt_stays ((stays_alloc _ K (.cells zEx 167)).trans (stays_row _ (g:=K.heap.size) #[.int .u8 a.kind,.int .u8 a.op,.int .i64 a.wd,.string a.name,.slice m a.kids.length f,.int .i64 a.pos] (fun b i=>by have:=i.2;omega))) (fun b i=>i) (exsAt_in O)
     exact exsAt_mono E (fun b i=>by have h1:=i.1;have h2:=i.2;have h3:=s.res.lt;omega)
   · refine wp_alloc_ex rfl ⟨⟨(s.alloc _).box, (s.alloc _).tok⟩, ?_⟩
     change wpAnyH _ _ _ _ _ _ _ F19_ _;delta F19_;have J:=s.alloc (.cells zEx 167);have I:=Own.new P 167 zEx;have ax:=s.res.lt;refine do1 4 rfl rfl ?_;refine wp_call (vs:=#[.pointer (some ⟨c.X,0,none⟩),.int .i64 (d+1)]) rfl rfl (enters_of Tryz.func148 (by kernel_rfl) rfl) (by simp [Act.eval]) (HC.out _ (J.run.rd U.out)) ?_
     rintro e K ⟨l,N⟩;rcases Y with ⟨a,r0⟩ | ⟨p,q⟩
     rotate_left
     · obtain rfl := N
       exact ⟨rfl,J.run.fr.trans l,rfl⟩
     obtain ⟨v,F,rfl,⟨m,f,rfl,O⟩,D,rfl⟩:=N;have x:=J.call l (J.run.call l D) G.out A.out.1 A.out.2;refine ⟨⟨x.box,x.tok⟩,?_⟩;change wpAnyH _ _ _ _ _ _ _ F19_ _;delta F19_;refine do1 6 rfl rfl ?_;have V:=G.out;have M:=I.fr l (by omega)
     refine wp_store_row 167 _ _ rfl P.heap.size #[.int .u8 a.kind,.int .u8 a.op,.int .i64 a.wd,.string a.name,.slice m a.kids.length f,.int .i64 a.pos] rfl rfl 167 zEx M (by kernel_rfl) rfl (by kernel_rfl) ?_
     have B:=x.row #[.int .u8 a.kind,.int .u8 a.op,.int .i64 a.wd,.string a.name,.slice m a.kids.length f,.int .i64 a.pos] (g:=P.heap.size) (by omega) G.out A.out.1 A.out.2 Z.out.2
     refine ⟨⟨B.box,B.tok⟩,wpAnyH_done (by kernel_rfl) ?_ _⟩
     refine C P.heap.size _ a m f F rfl B (M.row _) (by omega) ?_
     have E:=exsAt_stays (stays_row _ (g:=P.heap.size) #[.int .u8 a.kind,.int .u8 a.op,.int .i64 a.wd,.string a.name,.slice m a.kids.length f,.int .i64 a.pos] (fun b i=>by have:=i;simp at this;omega)) (fun b i=>i) O
     exact exsAt_mono E (fun b i=>by simp at i;omega)
 · refine wp_alloc_ex rfl ⟨⟨(z.alloc _).box, (z.alloc _).tok⟩, ?_⟩
   change wpAnyH _ _ _ _ _ _ _ F19_ _;delta F19_;have af:=z.alloc (.cells zEx 167);have ad:=Own.new W0 167 zEx;have aq:=z.res.lt;refine do1 3 rfl rfl ?_;refine wp_call (vs:=#[.agg #[.int .u8 tk,.string tx,.int .i64 y,.int .i64 o],.int .i64 d]) rfl rfl (enters_of Tryz.func149 (by kernel_rfl) rfl) (by simp [Act.eval]) (hd.out _) ?_
   rintro e P ⟨rfl,i⟩;have s:=af.below i;refine ⟨⟨s.box,s.tok⟩,?_⟩;change wpAnyH _ _ _ _ _ _ _ F19_ _;delta F19_;have a2:=i.size;have I:=ad.below i;refine do1 4 rfl rfl ?_;refine wp_call (vs:=#[.pointer (some ⟨c.X,0,none⟩),.int .i64 (d+1)]) rfl rfl (enters_of Tryz.func148 (by kernel_rfl) rfl) (by simp [Act.eval]) (HC.out _ (s.run.rd U.out)) ?_
   rintro e K ⟨l,N⟩;rcases Y with ⟨a,r0⟩ | ⟨p,q⟩
   rotate_left
   · obtain rfl := N
     exact ⟨rfl,s.run.fr.trans l,rfl⟩
   obtain ⟨v,F,rfl,⟨m,f,rfl,O⟩,D,rfl⟩:=N;have x:=s.call l (s.run.call l D) G.out A.out.1 A.out.2;refine ⟨⟨x.box,x.tok⟩,?_⟩;change wpAnyH _ _ _ _ _ _ _ F19_ _;delta F19_;refine do1 6 rfl rfl ?_;have V:=G.out;have M:=I.fr l (by omega)
   have ao:=I.lt;refine wp_store_row 167 _ _ rfl W0.heap.size #[.int .u8 a.kind,.int .u8 a.op,.int .i64 a.wd,.string a.name,.slice m a.kids.length f,.int .i64 a.pos] rfl rfl 167 zEx M (by kernel_rfl) rfl (by kernel_rfl) ?_
   have B:=x.row #[.int .u8 a.kind,.int .u8 a.op,.int .i64 a.wd,.string a.name,.slice m a.kids.length f,.int .i64 a.pos] (g:=W0.heap.size) (by omega) G.out A.out.1 A.out.2 Z.out.2
   refine ⟨⟨B.box,B.tok⟩,wpAnyH_done (by kernel_rfl) ?_ _⟩
   refine C W0.heap.size _ a m f F rfl B (M.row _) (by omega) ?_
   have E:=exsAt_stays (stays_row _ (g:=W0.heap.size) #[.int .u8 a.kind,.int .u8 a.op,.int .i64 a.wd,.string a.name,.slice m a.kids.length f,.int .i64 a.pos] (fun b i=>by have:=i;omega)) (fun b i=>i) O
   exact exsAt_mono E (fun b i=>by have:=i;omega)
open Go.RowKit
set_option linter.unusedVariables false
theorem p_unary_bad {c:Par} {w:World} {k:Nat} (R:Rd c w k) (t:Tk) (b:Nat) (op:Int) (hb1:Own w b 54 #[c.ptr]) (hb2:Own w (b+1) 43 #[.int .u8 op]) :
 Calls Tryz.prog 147 #[tkV t,.int .i64 64,.pointer (some ⟨b,0,none⟩),.pointer (some ⟨b+1,0,none⟩)] w fun e w'=>e=.panicked (flt t.pos 3)/\Fr c w w':=by
 have r:=Hd R;obtain ⟨tk,tx,f,d⟩:=t;have n:=Hd (fun W=>p_deeper_bad ⟨tk,tx,f,d⟩ W)
 have s:w.cell? ⟨b,0,none⟩=some c.ptr:=cr hb1;have q:w.cell? ⟨b+1,0,none⟩=some (.int .u8 op):=cr hb2;have m:=Hd (And.intro hb1.lt hb2.lt);clear R hb1 hb2;unfold tkV Par.ptr at *;go_enter Tryz.func147,Tryz.ntmps147;go_wp2_with fail;have a:UnG c w b op ⟨tk,tx,f,d⟩ ((w.alloc (.cells #[.int .u8 tk,.string tx,.int .i64 f,.int .i64 d] 50)).alloc (.cells zEx 167)).drew k:=by
  have g:=((Below.refl w.heap.size w).alloc (Nat.le_refl _) (.cells #[.int .u8 tk,.string tx,.int .i64 f,.int .i64 d] 50)).alloc (by simp) (.cells zEx 167)
  have j:=Own.new (w.alloc (.cells #[.int .u8 tk,.string tx,.int .i64 f,.int .i64 d] 50)) 167 zEx;rw [World.size_alloc] at j;exact UnG.drew ⟨((At.start r.out).alloc _).alloc _,(g.cell (p:=⟨b,0,none⟩) m.out.1).trans s,(g.cell (p:=⟨b+1,0,none⟩) m.out.2).trans q,(Own.new w _ _).alloc _,j⟩
 refine wp_region_held (S:=fun W=>W.cell? ⟨b,0,none⟩=some (.pointer (some ⟨c.X,0,none⟩))/\Own W w.heap.size 50 #[.int .u8 tk,.string tx,.int .i64 f,.int .i64 d]) (by kernel_rfl) ?_
 obtain ⟨x,i⟩:=Qx (((w.alloc (.cells #[.int .u8 tk,.string tx,.int .i64 f,.int .i64 d] 50)).alloc (.cells zEx 167)).drew);change wpAnyH _ _ _ _ _ _ _ _ ((w.alloc (.cells #[.int .u8 tk,.string tx,.int .i64 f,.int .i64 d] 50)).alloc (.cells zEx 167)).drew;rw [<- i] at a ⊢;clear i;refine dk 0 (.pointer (some ⟨c.X,0,none⟩)) rfl rfl ?_ ⟨a.box,a.tok⟩ ?_
 · rintro w' ⟨v, l⟩
   unfold execOp;go_simp
 change wpAnyH _ _ _ _ _ _ _ F19_ _;delta F19_;refine dk 1 (.agg #[.int .u8 tk,.string tx,.int .i64 f,.int .i64 d]) rfl rfl ?_ ⟨a.box,a.tok⟩ ?_
 · rintro w' ⟨v, l⟩
   exact run_ld rowTok rfl rfl l rfl
 change wpAnyH _ _ _ _ _ _ _ F19_ _;delta F19_;refine dk 2 (.int .i64 64) rfl rfl (fun _ _=>rfl) ⟨a.box,a.tok⟩ ?_
 change wpAnyH _ _ _ _ _ _ _ F19_ _;delta F19_;refine dr_two 3 5 rfl rfl rfl rfl (by kernel_rfl) ?_ ?_
 · refine wp_call (vs := #[.agg #[.int .u8 tk, .string tx, .int .i64 f, .int .i64 d], .int .i64 64]) rfl rfl (enters_of Tryz.func149 (by kernel_rfl) rfl) (by simp [Act.eval]) (n.out _) ?_
   rintro e o ⟨rfl,g⟩;exact ⟨rfl,rfl,a.run.fr.trans (.of_below g)⟩
 · refine wp_alloc_ex rfl ⟨⟨(a.alloc _).box, (a.alloc _).tok⟩, ?_⟩
   change wpAnyH _ _ _ _ _ _ _ F19_ _;delta F19_;refine do1 3 rfl rfl ?_;refine wp_call (vs:=#[.agg #[.int .u8 tk,.string tx,.int .i64 f,.int .i64 d],.int .i64 64]) rfl rfl (enters_of Tryz.func149 (by kernel_rfl) rfl) (by simp [Act.eval]) (n.out _) ?_
   rintro e o ⟨rfl,g⟩;exact ⟨rfl,rfl,(a.alloc (.cells zEx 167)).run.fr.trans (.of_below g)⟩
theorem p_inner_bad {c:Par} {w:World} {k:Nat} (R:Rd c w k) (t:Tk) :
 Calls Tryz.prog 100 #[c.ptr,tkV t,.int .i64 64] w fun e w'=>e=.panicked (flt t.pos 3)/\Fr c w w':=by
 obtain ⟨tk,tx,b,a⟩:=t;have g:=Hd (fun W=>p_deeper_bad ⟨tk,tx,b,a⟩ W)
 have i:=(Own.new w 50 #[.int .u8 tk,.string tx,.int .i64 b,.int .i64 a]).alloc (.cells zEx 167);have j:=Hd (((At.start R).alloc (.cells #[.int .u8 tk,.string tx,.int .i64 b,.int .i64 a] 50)).alloc (.cells zEx 167));clear R;unfold tkV Par.ptr zEx at *;go_enter Tryz.func100,Tryz.ntmps100;go_wp2_with (first | (refine ld rowTok rfl rfl rfl i rfl ?_) | (go_at_call 149;refine (g.out _).mono ?_;rintro e l ⟨rfl,d⟩;have f:=Hd d;clear d))
 exact ⟨rfl,rfl,j.out.fr.trans (.of_below f.out)⟩
theorem p_inner {n:Nat} (H:BinC n) {c:Par} {w:World} {k:Nat} (R:Rd c w k) (t:Tk) (d:Int) (h0:0<=d) (h1:d<64) (hn:3*(c.at k).length+2<=n) :
 Calls Tryz.prog 100 #[c.ptr,tkV t,.int .i64 d] w (RdPost c w ((binE fnd c.L n 1 (d+1) (c.at k)).then fun e r=>(need c.L [41] r).then fun _ r=>.ok e r) (exR w.heap.size)):=by
 obtain ⟨Y,N⟩:=Qx (binE fnd c.L n 1 (d+1) (c.at k));have HC:Hid (∀ W,Rd c W k->Calls Tryz.prog 150 #[c.ptr,.int .i64 1,.int .i64 (d+1)] W (RdPost c W Y (exR W.heap.size))):=fun W RW=>by rw [N];exact H c W k 1 (d+1) RW (by omega) (by omega) (by omega) (by omega) hn
 rw [<- N];obtain ⟨tk,tx,D,B⟩:=t;have hd:=Hd (fun W=>p_deeper_ok ⟨tk,tx,D,B⟩ d h0 h1 W)
 have V:=(Own.new w 50 #[.int .u8 tk,.string tx,.int .i64 D,.int .i64 B]).alloc (.cells zEx 167);have G:=Own.new (w.alloc (.cells #[.int .u8 tk,.string tx,.int .i64 D,.int .i64 B] 50)) 167 zEx;rw [World.size_alloc] at G;have K:=Hd G;have A0:=Hd (((At.start R).alloc (.cells #[.int .u8 tk,.string tx,.int .i64 D,.int .i64 B] 50)).alloc (.cells zEx 167));have C:=Hd R;have I:=Hd R.lt;clear N H R hn G;unfold tkV Par.ptr zEx at *;go_enter Tryz.func100,Tryz.ntmps100;go_wp2_with (first | (refine ld rowTok rfl rfl rfl V rfl ?_) | (go_at_call 149;refine (hd.out _).mono ?_;rintro e U ⟨rfl,j⟩;have M:=Hd (A0.out.below j);have O1:=Hd (K.out.below j);clear j))
 go_at_call 150;refine (HC.out _ (M.out.rd C.out)).mono ?_;rintro e s ⟨l,X⟩;rcases Y with ⟨a,r0⟩ | ⟨p,q⟩
 rotate_left
 · obtain rfl := X
   go_wp2_with fail;exact ⟨rfl,M.out.fr.trans l,rfl⟩
 obtain ⟨v,o,rfl,⟨m,f,rfl,hV⟩,x,rfl⟩:=X;have Q:=Hd (And.intro O1.out.lt (Keep.size l));have A:=Hd ((M.out.call l x).alloc (.cells #[.int .u8 a.kind,.int .u8 a.op,.int .i64 a.wd,.string a.name,.slice m a.kids.length f,.int .i64 a.pos] 167));have O:=Hd ((O1.out.fr l (by have:=I.out;omega)).alloc (.cells #[.int .u8 a.kind,.int .u8 a.op,.int .i64 a.wd,.string a.name,.slice m a.kids.length f,.int .i64 a.pos] 167))
 have E:=Own.new s 167 #[.int .u8 a.kind,.int .u8 a.op,.int .i64 a.wd,.string a.name,.slice m a.kids.length f,.int .i64 a.pos];have V2:=Hd (exsAt_stays (stays_alloc _ s (.cells #[.int .u8 a.kind,.int .u8 a.op,.int .i64 a.wd,.string a.name,.slice m a.kids.length f,.int .i64 a.pos] 167)) (fun b j=>j) (exsAt_in hV))
 clear l x hV V;go_wp2_with fail;obtain ⟨W,Z⟩:=Qx (s.alloc (.cells #[.int .u8 a.kind,.int .u8 a.op,.int .i64 a.wd,.string a.name,.slice m a.kids.length f,.int .i64 a.pos] 167));rw [<- Z] at A O E V2 ⊢;clear Z;by_cases hq:isT [41] (c.at o)=true
 · go_at_call 146
   refine (p_take_ok (A.out.rd C.out) ⟨#[41]⟩ (by decide) hq).mono ?_
   rintro e w3 ⟨rfl,i,y⟩;have z:=I.out;have hZ:=Q.out;have F:=Hd (A.out.call i y);have N3:=E.fr i (by omega)
   have S:=O.out.fr i (by omega)
   have V3:=Hd (exsAt_stays (R:=fun b=>U.heap.size<=b/\b<s.heap.size) (stays_fr i (fun b j=>by omega)) (fun b j=>j) V2.out)
   clear i y z hZ E O;go_wp2_with (first | (refine ld rowEx rfl rfl rfl N3 rfl ?_) | (refine st rowEx rfl rfl S rfl rfl (by rfl) (by rfl) (by kernel_rfl) ?_))
   have z:=I.out;have hZ:=Q.out;have T:=F.out.setRow (g:=w.heap.size+1) (by omega) (by omega) #[.int .u8 a.kind,.int .u8 a.op,.int .i64 a.wd,.string a.name,.slice m a.kids.length f,.int .i64 a.pos]
   have V4:=exsAt_stays (R:=fun b=>U.heap.size<=b/\b<s.heap.size) (stays_row w3 (g:=w.heap.size+1) #[.int .u8 a.kind,.int .u8 a.op,.int .i64 a.wd,.string a.name,.slice m a.kids.length f,.int .i64 a.pos] (fun b j=>by omega)) (fun b j=>j) V3.out
   have J:need c.L [41] (c.at o)=.ok () (c.at (o+1)):=by unfold need;rw [if_pos hq,Par.at_tail]
   refine p_ret rowEx rfl (S.row #[.int .u8 a.kind,.int .u8 a.op,.int .i64 a.wd,.string a.name,.slice m a.kids.length f,.int .i64 a.pos]) rfl rfl rfl ?_;simp only [PR.then_ok,J];exact ⟨T.fr,_,o+1,rfl,⟨m,f,rfl,exsAt_mono V4 (fun b j=>by omega)⟩,T.rd C.out,rfl⟩
 · have P : isT [41] (c.at o) = false := by simpa using hq
   have J:need c.L [41] (c.at o)=.bad (hdP c.L (c.at o)) 2:=by unfold need;rw [if_neg hq]
   go_at_call 146;refine (p_take_bad (A.out.rd C.out) ⟨#[41]⟩ (by decide) P).mono ?_
   rintro e w3 ⟨rfl,i⟩;have F:=Hd (A.out.fr.trans i);clear i;go_wp2_with fail;refine ⟨rfl,?_⟩;simp only [PR.then_ok,J,PR.then_bad];exact ⟨F.out,rfl⟩
end Go.Proofs.YtbgfkdiihnidaaaGreatDoor

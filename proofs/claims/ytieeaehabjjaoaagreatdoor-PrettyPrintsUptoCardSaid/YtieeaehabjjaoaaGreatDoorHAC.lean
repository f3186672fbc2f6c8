/- The proof, part 3: texts that belong together, in one. -/
import Derived.Test.YtieeaehabjjaoaaGreatDoorHAB
import Derived.Laws.OwnMore
import Derived.Deep.LoopGhost
import Derived.Deep.AppendLies
import Derived.Carry
import Derived.Recover
import Derived.Tactics2
import Derived.RegionTactic
import Derived.Test.YtieeaehabjjaoaaGreatDoorHAA
import Derived.Lib.AppendStr
import Derived.Lib.Builder
import Derived.Lib.UnsafeStr
import Derived.Lib.Strings
import Derived.Laws.Externs
import Derived.Shelf.RegionOpenPlain
set_option maxRecDepth 100000
set_option maxHeartbeats 20000000
namespace Go.Proofs.YtieeaehabjjaoaaGreatDoor
open Go.RowKit
set_option linter.unusedVariables false
theorem row_stays {W W':World} {base:Nat} {T:TypeId} {n:Nat} {v:Value} {k:Nat} {xs:List Value} (h:W.ownsRow base T n v k xs) (hw:∀ g,base≤g→v.ownBlock=some g→g<W.heap.size→W'.heap[g]? = W.heap[g]?):W'.ownsRow base T n v k xs:=by
 obtain ⟨h1,h2⟩:=h
 refine ⟨h1,?_⟩
 rcases h2 with h2 | ⟨g,cap,cur,rfl,hb,hg,rest⟩
 · exact .inl h2
 · exact .inr ⟨g,cap,cur,rfl,hb,(hw g hb rfl (Array.getElem?_eq_some_iff.1 hg).1).trans hg,rest⟩
theorem row_below {W W':World} {base:Nat} {T:TypeId} {n:Nat} {v:Value} {k:Nat} {xs:List Value} (h:W.ownsRow base T n v k xs) (hb:Below W.heap.size W W'):W'.ownsRow base T n v k xs:=row_stays h fun g _ _ hg=>hb.block g hg
theorem row_row {W:World} {base:Nat} {T:TypeId} {n:Nat} {v:Value} {k:Nat} {xs:List Value} (h:W.ownsRow base T n v k xs) {g:Nat} (cs:Array Value) (hg:v.ownBlock≠some g):(W.setRow g cs).ownsRow base T n v k xs :=
 row_stays h fun b _ hb _=>setRow_other cs (fun e=>hg (by rw [← e];exact hb))
theorem row_shape {W:World} {base:Nat} {T:TypeId} {n:Nat} {v:Value} {k:Nat} {xs:List Value} (h:W.ownsRow base T n v k xs):∃ oa cap,v=.slice oa k cap∧(k≠0→∃ g,oa=some ⟨g,0,none⟩∧base≤g):=by
 rcases h.2 with ⟨rfl,rfl⟩ | ⟨g,cap,cur,rfl,hb,_⟩
 · exact ⟨none,0,rfl,fun h=>absurd rfl h⟩
 · exact ⟨_,cap,rfl,fun _=>⟨g,rfl,hb⟩⟩
theorem row_cells {W:World} {base:Nat} {T:TypeId} {n:Nat} {v:Value} {k:Nat} {xs:List Value} (h:W.ownsRow base T n v k xs) {g:Nat} (hg:v.ownBlock=some g):cellsIn W g 0 xs:=by
 intro j u hj
 have:=h.cells hg j u hj
 rw [show (⟨g,0,none⟩:Addr).add j=⟨g,0+j,none⟩ by by_cases h0:j=0 <;> simp [Addr.add,h0]] at this
 exact this
theorem own_grown {W W':World} {b:Nat} {t:TypeId} {cs:Array Value} (h:Own W b t cs) {row:Option Nat} (hg:W.grownBy W' row) (hr:row≠some b):Own W' b t cs:=(hg.block b h.lt (fun e=>hr e.symm)).trans h
theorem stays_grown {R:Nat→Prop} {W W':World} {row:Option Nat} (hg:W.grownBy W' row) (hr:∀ b,R b→row≠some b):Stays R W W':=fun b o v hb hv=>by
 have e:=hg.block b (by have:=cell_lt hv;simpa using this) (fun e=>hr b hb e.symm)
 rw [← hv];simp only [World.cell?,e]
open Go.RowKit
set_option linter.unusedVariables false
theorem infoDc:(Tryz.prog.info? 63).map (fun i=>(i.zero,i.size,i.bytes))=some (some (.agg zDc),3,32):=by kernel_rfl
open Go.RowKit
set_option linter.unusedVariables false
theorem setCell_row {W:World} {g:Nat} {t:TypeId} {cs:Array Value} (h:Own W g t cs) (j:Nat) (v:Value):W.setCell ⟨g,j,none⟩ v=W.setRow g (cs.setIfInBounds j v):=by
 have key:(W.setCell ⟨g,j,none⟩ v).heap=(W.setRow g (cs.setIfInBounds j v)).heap:=by
  apply Array.ext_getElem?
  intro i
  by_cases hi:i=g
  · subst hi
    rw [heap_setCell_same W i j _ _ v h,setRow_heap W i _ _ _ _ h]
  · rw [Below.heap_setCell W ⟨g,j,none⟩ v i hi,setRow_other _ hi]
 exact congrArg (fun h=>({ W with heap:=h } : World)) key
theorem stsAt_mono {R R':Nat→Prop} {w:World} {l:List St} {a:Option Addr} (h:stsAt R w l a) (hm:∀ b,R b→R' b):stsAt R' w l a:=stsAt_stays (Stays.refl R w) hm h
section
variable {c:Par} {w W W':World} {t:Tk} {cs:Array Value} {j k2:Nat}
end
open Go.RowKit
set_option linter.unusedVariables false
theorem stsAt_in {R:Nat→Prop} {w:World} {l:List St} {a:Option Addr} (h:stsAt R w l a):stsAt (fun b=>R b∧b<w.heap.size) w l a:=by
 have key:∀ (l:List St) (b off:Nat),stsIn R w l b off→stsIn (fun b=>R b∧b<w.heap.size) w l b off:=by
  intro l
  induction l using Sts.ind with
  | h0=>intro b off _;exact trivial
  | h1 k n o e bd el p r ih1 ih2 ih3 =>
    intro b off h
    obtain ⟨⟨c0,c1,c2,⟨a3,cap3,c3,h3⟩,⟨a4,cap4,c4,h4⟩,⟨a5,cap5,c5,h5⟩,c6⟩,hr⟩:=h
    refine ⟨⟨c0,c1,c2,⟨a3,cap3,c3,exsAt_in h3⟩,⟨a4,cap4,c4,?_⟩,⟨a5,cap5,c5,?_⟩,c6⟩,ih3 b _ hr⟩
    · rcases h4 with h4 | ⟨g, q, rfl, hg, hi⟩
      · exact .inl h4
      · cases bd with
        | nil=>exact .inl rfl
        | cons x xs =>
          refine .inr ⟨g,q,rfl,⟨hg,?_⟩,ih1 g q hi⟩
          obtain ⟨k',n',o',e',b',l',p'⟩:=x
          exact cell_lt hi.1.1
    · rcases h5 with h5 | ⟨g, q, rfl, hg, hi⟩
      · exact .inl h5
      · cases el with
        | nil=>exact .inl rfl
        | cons x xs =>
          refine .inr ⟨g,q,rfl,⟨hg,?_⟩,ih2 g q hi⟩
          obtain ⟨k',n',o',e',b',l',p'⟩:=x
          exact cell_lt hi.1.1
 rcases h with h | ⟨g,q,rfl,hg,hi⟩
 · exact .inl h
 · cases l with
   | nil=>exact .inl rfl
   | cons x xs =>
     refine .inr ⟨g,q,rfl,⟨hg,?_⟩,key _ g q hi⟩
     obtain ⟨k',n',o',e',b',l',p'⟩:=x
     exact cell_lt hi.1.1
open Go.RowKit
set_option linter.unusedVariables false
theorem infoSt:(Tryz.prog.info? 66).map (fun i=>(i.zero,i.size,i.bytes))=some (some (.agg zSt),7,120):=by kernel_rfl
open Go.RowKit
set_option linter.unusedVariables false
section
variable {o:Oper} {a:Act} {w:World} {K:Act→World→Prop} {Q:Exit→Act→World→Prop}
end
section
variable {c:Par} {w0 W W':World} {pb:Nat} {vS vL:Value} {p:Pg} {k k2:Nat}
theorem row_apart {W:World} {base:Nat} {T U:TypeId} {n:Nat} {v:Value} {m:Nat} {xs:List Value} (h:W.ownsRow base T n v m xs) {b:Nat} {cs:Array Value} (hb:Own W b U cs) (ht:(T==U)=false):v.ownBlock≠some b:=by
 intro e
 rcases h.2 with ⟨rfl,_⟩ | ⟨g,cap,cur,rfl,_,hg,_⟩
 · cases e
 · have e : g = b := by simpa [Value.ownBlock] using e
   subst e
   unfold Own at hb
   rw [hg] at hb
   cases hb
   simp at ht
theorem own_frozen {b:Nat} {T:TypeId} {cs:Array Value} (h:Own W b T cs) (i:Nat):W.frozen? ⟨b,i,none⟩=false:=by
 unfold Own at h
 simp only [World.frozen?,h];rfl
end
theorem dcsL_cells (d:List Dc):∀ u∈dcsL d,u.oneCell'=true:=by
 intro u hu
 unfold dcsL at hu
 rw [List.mem_flatMap] at hu
 obtain ⟨x,_,hx⟩:=hu
 simp [dcCells] at hx
 rcases hx with rfl | rfl | rfl <;> rfl
section
variable {c:Par} {w0 W W':World} {pb:Nat} {vS vL:Value} {p:Pg} {k k2:Nat}
end
open Go.RowKit
set_option linter.unusedVariables false
theorem infoTh:(Tryz.prog.info? 39).map (fun i=>(i.zero,i.size,i.bytes))=some (some (.agg zTh),4,72):=by kernel_rfl
theorem dcsAt_in {R:Nat→Prop} {w:World} {l:List Dc} {a:Option Addr} (h:dcsAt R w l a):dcsAt (fun b=>R b∧b<w.heap.size) w l a:=by
 rcases h with h | ⟨g,q,rfl,hg,hi⟩
 · exact .inl h
 · cases l with
   | nil=>exact .inl rfl
   | cons d r=>exact .inr ⟨g,q,rfl,⟨hg,cell_lt hi.1.1⟩,hi⟩
theorem dcsAt_mono {R R':Nat→Prop} {w:World} {l:List Dc} {a:Option Addr} (h:dcsAt R w l a) (hm:∀ b,R b→R' b):dcsAt R' w l a:=dcsAt_stays (Stays.refl R w) hm h
section
variable {c:Par} {w0 W W':World} {pb:Nat} {a1 a2:Option Addr} {c1 c2:Nat} {vT:Value} {p:Pg} {l:List Th} {xs:List Value} {k k2:Nat}
end
open Go.RowKit
set_option linter.unusedVariables false
theorem size_setRow (W:World) (g:Nat) (cs:Array Value):(W.setRow g cs).heap.size=W.heap.size:=by
 simp [World.setRow]
theorem Below.of_row {B:Nat} {a W:World} (h:Below B a W) {g:Nat} (hg:B≤g) (cs:Array Value):Below B a (W.setRow g cs) :=
 ⟨h.os,h.tape,h.output,by rw [size_setRow];exact h.size,fun k hk=>(setRow_other cs (by omega)).trans (h.block k hk)⟩
open Go.RowKit
set_option linter.unusedVariables false
theorem any_eql (T:TypeId) (v:Value) (w:World):(binOp .eql 20 (.iface T v) .nilIface).run Tryz.prog w=.ok (.bool false) w:=by kernel_rfl
theorem any_nil (w:World):(binOp .eql 20 .nilIface .nilIface).run Tryz.prog w=.ok (.bool true) w:=by kernel_rfl
section
variable {o:Oper} {a:Act} {w:World} {K:Act→World→Prop} {Q:Exit→Act→World→Prop}
end
open Go.RowKit
set_option linter.unusedVariables false
theorem lv_row {w:World} {g:Nat} {T:TypeId} {n:Nat} (hT:RowT T n) {cs:Array Value} (h:Own w g T cs) (hn:cs.size=n):(loadVar T ⟨g,0,none⟩).run Tryz.prog w=.ok (.agg cs) w:=by
 obtain ⟨d,h1,h2,h3⟩:=hT
 exact run_loadVar_row w g T T cs (0,0) d h h1 (by cases d <;> first | rfl | cases h2) (by rw [h3,hn])
theorem lv_err {w:World} {g:Nat} {z:Int} (h:Own w g 27 #[.int .i64 z]):(loadVar 27 ⟨g,0,none⟩).run Tryz.prog w=.ok (.int .i64 z) w:=by
 have hc:w.cell? ⟨g,0,none⟩=some (.int .i64 z):=by rw [cell_of_row w g 0 _ _ _ h];rfl
 go_simp
open Go.RowKit
set_option linter.unusedVariables false
mutual
def sameE:Ex→Ex→Bool
 | .mk k o w n ks _,.mk k' o' w' n' ks' _=>k==k'&&o==o'&&w==w'&&n.data.toList==n'.data.toList&&sameEs ks ks'
def sameEs:List Ex→List Ex→Bool
 | [],[]=>true
 | x::r,y::s=>sameE x y&&sameEs r s
 | _,_=>false
end
theorem sameEs_len:∀ (l m:List Ex),sameEs l m=true→l.length=m.length
 | [],[],_=>rfl
 | [],_::_,h=>by simp [sameEs] at h
 | _::_,[],h=>by simp [sameEs] at h
 | x :: r, y :: s, h => by
   simp only [sameEs,Bool.and_eq_true] at h
   have:=sameEs_len r s h.2
   simp [this]
def sameFrom (l m:List Ex) (i:Nat):Bool:=sameEs (l.drop i) (m.drop i)
theorem sameFrom_step {l m:List Ex} {i:Nat} (hl:i<l.length) (hm:i<m.length):sameFrom l m i=(sameE l[i] m[i]&&sameFrom l m (i+1)):=by
 unfold sameFrom
 rw [List.drop_eq_getElem_cons hl,List.drop_eq_getElem_cons hm]
 rfl
theorem sameFrom_end {l m:List Ex} {i:Nat} (hl:l.length≤i) (hm:m.length≤i):sameFrom l m i=true:=by
 unfold sameFrom
 rw [List.drop_of_length_le hl,List.drop_of_length_le hm]
 rfl
theorem sameEs_ne {l m:List Ex} (h:l.length≠m.length):sameEs l m=false:=by
 cases hs:sameEs l m with
 | false=>rfl
 | true=>exact absurd (sameEs_len l m hs) h
def exA (w:World) (e:Ex) (v:Value):Prop:=∃ a cap,v=.agg #[.int .u8 e.kind,.int .u8 e.op,.int .i64 e.wd,.string e.name,.slice a e.kids.length cap,.int .i64 e.pos]∧exsAt (fun _=>True) w e.kids a
mutual
def okE:Ex→Prop
 | .mk _ _ _ _ ks _=>ks.length≤9223372036854775807∧okEs ks
def okEs:List Ex→Prop
 | []=>True
 | x::r=>okE x∧okEs r
end
theorem okEs_mem:∀ {l:List Ex},okEs l→∀ x∈l,okE x
 | [],_,x,hx=>by simp at hx
 | y :: r, h, x, hx => by
   rcases List.mem_cons.1 hx with rfl | hx
   · exact h.1
   · exact okEs_mem h.2 x hx
theorem exsAt_below {w w':World} {l:List Ex} {a:Option Addr} (h:exsAt (fun _=>True) w l a) (hb:Below w.heap.size w w'):exsAt (fun _=>True) w' l a:=by
 have h:=exsAt_in h
 exact exsAt_stays (R:=fun b=>True∧b<w.heap.size) (fun b o v hb2 hv=>by rw [← hv];exact hb.cell (p:=⟨b,o,none⟩) hb2.2) (fun _ _=>trivial) h
open Go.RowKit
set_option linter.unusedVariables false
def errP (n:Int):List PanicEntry:=[{ v:=.iface 27 (.int .i64 n),recovered:=false }]
def NdP (w:World) (b:Bool) (e:Ending) (w':World):Prop:=e=(bif b then .returned (.tuple #[]) else .panicked (errP 40))∧Below w.heap.size w w'
theorem NdP.ok {w w':World} {b:Bool} {e:Ending} (h:NdP w b e w') (hb:b=true):e=.returned (.tuple #[])∧Below w.heap.size w w':=by subst hb;exact h
theorem NdP.bad {w w':World} {b:Bool} {e:Ending} (h:NdP w b e w') (hb:b=false):e=.panicked (errP 40)∧Below w.heap.size w w':=by subst hb;exact h
theorem p_need (b:Bool) (w:World):Calls Tryz.prog 39 #[.bool b] w (NdP w b):=by
 cases b with
 | true =>
   go_enter Tryz.func39,Tryz.ntmps39
   go_wp2
   exact bodyPost_end (results_none rfl _ _ _) rfl ⟨rfl,Below.refl _ w⟩
 | false =>
   go_enter Tryz.func39,Tryz.ntmps39
   go_wp2
   exact ⟨rfl,rfl,Below.refl _ w⟩
def nmB (n:ByteArray) (has:Bool):Bool:=bif has then nameB n else n.data.toList==[]
theorem p_needName (n:ByteArray) (has:Bool) (w:World) (T:LNm w):Calls Tryz.prog 97 #[.string n,.bool has] w (NdP w (nmB n has)):=by
 have H1:=Lib.hid (isname_any n w T)
 have H2:Hid (∀ b W,Calls Tryz.prog 39 #[.bool b] W (NdP W b)):=fun b W=>p_need b W
 clear T
 cases has with
 | true =>
   unfold nmB
   generalize nameB n=q at H1
   show Calls _ _ _ _ (NdP w q)
   cases q
   all_goals
    go_enter Tryz.func97,Tryz.ntmps97
    go_wp2_with (first
     | (go_at_call 40;refine (H1.out).mono ?_;rintro e w1 ⟨rfl,rfl⟩)
     | (go_at_call 39;refine (H2.out _ _).mono ?_;rintro e w1 hh;first | (obtain ⟨rfl,hb⟩:=hh.ok rfl) | (obtain ⟨rfl,hb⟩:=hh.bad rfl)))
   · exact ⟨rfl,rfl,hb⟩
   · exact bodyPost_end (results_none rfl _ _ _) rfl ⟨rfl,hb⟩
 | false =>
   unfold nmB
   show Calls _ _ _ _ (NdP w (n.data.toList==[]))
   obtain ⟨q,hq⟩:∃ q,q=(n.data.toList==[]):=⟨_,rfl⟩
   rw [← hq]
   have hq2:(n.toList==([]:List UInt8))=q:=by rw [hq,Lib.toList_data]
   clear hq
   cases q
   all_goals
    go_enter Tryz.func97,Tryz.ntmps97
    go_wp2_with (first
     | (go_at_call 39;refine (H2.out _ _).mono ?_;rintro e w1 hh;first | (obtain ⟨rfl,hb⟩:=hh.ok rfl) | (obtain ⟨rfl,hb⟩:=hh.bad rfl)))
   · exact ⟨rfl,rfl,hb⟩
   · exact bodyPost_end (results_none rfl _ _ _) rfl ⟨rfl,hb⟩
theorem p_isOfOne (o:Int) (h0:0≤o) (h1:o≤255) (w:World) (T:Tabs w):Calls Tryz.prog 98 #[.int .u8 o] w fun e w'=>e=.returned (.bool (oneB o))∧Below w.heap.size w w':=by
 have H:=Lib.hid (oneOp_any o h0 h1 w T)
 clear T h0 h1
 cases hq:oneB o
 all_goals
  rw [hq] at H
  clear hq
  go_enter Tryz.func98,Tryz.ntmps98
  go_wp2_with (go_at_call 134;refine (H.out).mono ?_;rintro e w1 ⟨⟨x,rfl⟩,hb⟩)
  go_ret
  exact ⟨rfl,hb⟩
theorem p_round (b:Bool) (w:World):Calls Tryz.prog 99 #[.bool b] w fun e w'=>e=.returned (.int .i64 (bif b then 1 else 0))∧w=w':=by
 cases b
 all_goals
  go_enter Tryz.func99,Tryz.ntmps99
  go_wp2
  go_ret
  exact ⟨rfl,rfl⟩
open Go.RowKit
set_option linter.unusedVariables false
set_option maxRecDepth 100000
def selW (b:Nat) (k:Nat) (o:Obj):Prop:=k≠b∧¬ IsTy 5 o
def WtP (b:Nat) (p v:Value) (txt:List UInt8) (deep:Int) (fs:List Value) (W:World):Prop :=
 Own W b 91 (p::v :: .int .i64 deep::fs).toArray∧fs.length=8∧(p=.pointer none∨p=.pointer (some ⟨b,0,none⟩))∧(txt=[]→v=.slice none 0 0)∧W.ownsRow (b+1) 5 1 v txt.length (Lib.byteCells txt)
def Wt (b:Nat) (txt:List UInt8) (deep:Int) (fs:List Value) (W:World):Prop:=∃ p v,WtP b p v txt deep fs W
theorem infoU8':(Tryz.prog.info? 5).map (fun i=>(i.zero,i.size,i.bytes))=some (some (.int .u8 0),1,1):=by kernel_rfl
theorem infoBl:(Tryz.prog.info? 87).map (·.size)=some 2:=by kernel_rfl
theorem wt_shape {w:World} {b:Nat} {cs:Array Value} (h:Own w b 91 cs):w.shape? b=some (91,cs.size):=by
 have h':w.heap[b]? = some (.cells cs 91 (0,0)):=h
 simp [World.shape?,h']
theorem wt_check {b:Nat} {txt:List UInt8} {deep:Int} {fs:List Value} {w:World} (h:Wt b txt deep fs w) :
 Calls Tryz.prog 164 #[.pointer (some ⟨b,0,none⟩)] w fun e w'=>e=.returned (.tuple #[])∧(∃ v,WtP b (.pointer (some ⟨b,0,none⟩)) v txt deep fs w')∧Keep (selW b) w w'∧w'.heap.size=w.heap.size∧Below b w w':=by
 obtain ⟨p,v,ho,hf,hp,hv0,hr⟩:=h
 have c0:w.cell? ⟨b,0,none⟩=some p:=by rw [cell_of_row _ _ 0 _ _ _ ho];rfl
 have z0:w.frozen? ⟨b,0,none⟩=false:=own_frozen ho 0
 obtain ⟨j,hj,hjs⟩:=Option.map_eq_some_iff.1 infoBl
 have hsh:=wt_shape ho
 have hsz:(p::v :: .int .i64 deep::fs).toArray.size=11:=by simp [hf]
 rw [hsz] at hsh
 rcases hp with rfl | rfl
 · have HO := Lib.hid ho
   have HR:=Lib.hid hr
   clear ho hr
   go_enter Tryz.func164,Tryz.ntmps164
   go_wp2
   rw [Lib.run_to_unsafe w ⟨b,0,none⟩ Tryz.underlying85 Tryz.underlying233 hj (by rw [hjs];decide) hsh (Nat.zero_lt_succ 10)]
   simp only [Result.andThen]
   rw [Oper.upon_value]
   go_wp2
   rw [run_callFunc_extern Tryz.func194 (by kernel_rfl) (by kernel_rfl) (by kernel_rfl) (e:=Extern.AbiNoEscape.same) (by kernel_rfl)]
   rw [Lib.run_noEscape]
   simp only [Result.andThen]
   rw [Oper.upon_value]
   go_wp2
   rw [Lib.run_from_unsafe w ⟨b,0,none⟩ Tryz.underlying233 Tryz.underlying85 hj hsh (by kernel_rfl)]
   simp only [Result.andThen]
   rw [Oper.upon_value]
   go_wp2
   refine bodyPost_end (results_none rfl _ _ _) rfl ⟨rfl,⟨v,?_,hf,.inr rfl,hv0,?_⟩,?_,by simp,(Below.refl b w).setCell (p:=⟨b,0,none⟩) (Nat.le_refl b) _⟩
   · exact heap_setCell_same w b 0 _ _ _ HO.out
   · exact ownsRow_setCell_below HR.out (show b<b+1 by omega) _
   · exact (Keep.refl _ w).setCell (p:=⟨b,0,none⟩) _ HO.out (fun hs=>hs.1 rfl)
 · have HO := Lib.hid ho
   have HR:=Lib.hid hr
   clear ho hr
   go_enter Tryz.func164,Tryz.ntmps164
   go_wp2
   rw [Lib.run_neq_ptr_same w _ Tryz.underlying85 hj]
   go_wp2
   exact bodyPost_end (results_none rfl _ _ _) rfl ⟨rfl,⟨v,HO.out,hf,.inr rfl,hv0,HR.out⟩,Keep.refl _ _,rfl,Below.refl _ _⟩
theorem wt_slice {b:Nat} {p v:Value} {txt:List UInt8} {deep:Int} {fs:List Value} {w:World} (h:WtP b p v txt deep fs w):∃ ao cap,v=.slice ao txt.length cap:=by
 rcases h.2.2.2.2.2 with ⟨hv,h0⟩ | ⟨g,cap,cur,hv,_⟩
 · exact ⟨none,0,by rw [hv,h0]⟩
 · exact ⟨_,_,hv⟩
theorem wt_len {b:Nat} {txt:List UInt8} {deep:Int} {fs:List Value} {w:World} (h:Wt b txt deep fs w) :
 Calls Tryz.prog 124 #[.pointer (some ⟨b,0,none⟩)] w fun e w'=>e=.returned (.int .i64 txt.length)∧w=w':=by
 obtain ⟨p,v,h⟩:=h
 obtain ⟨ao,cap,rfl⟩:=wt_slice h
 have c1:w.cell? ⟨b,1,none⟩=some (.slice ao txt.length cap):=by rw [cell_of_row _ _ 1 _ _ _ h.1];rfl
 clear h
 go_enter Tryz.func124,Tryz.ntmps124
 go_wp2
 go_ret
 exact ⟨rfl,rfl⟩
theorem row_bytesW {w:World} {B:Nat} {v:Value} {n:Nat} {xs:List Value} (h:w.ownsRow B 5 1 v n xs) (b:Nat) {w':World} (hw:∀ k o,k<w.heap.size→w.heap[k]? = some o→w'.heap[k]? = some o):∀ r o,v.ownBlock=some r→w'.heap[r]? = some o→¬ selW b r o:=by
 intro r o hr ho hs
 rcases h.2 with ⟨rfl,_⟩ | ⟨g,cap,cur,rfl,_,hg,_⟩
 · simp [Value.ownBlock] at hr
 · have e : g = r := by simpa [Value.ownBlock] using hr
   subst e
   rw [hw g _ (Array.getElem?_eq_some_iff.1 hg).1 hg] at ho
   cases ho
   exact hs.2 ⟨_,_,rfl⟩
theorem empty_bytes {s:ByteArray} (h:s.data.toList=[]):s=ByteArray.empty:=by
 cases s with
 | mk dd =>
   have h3:dd=#[]:=Array.toList_eq_nil_iff.1 h
   subst h3
   rfl
theorem strCells_bytes (s:ByteArray):Lib.strCells s=Lib.byteCells s.data.toList:=rfl
theorem bytes_append (a b:List UInt8):Lib.byteCells a++Lib.byteCells b=Lib.byteCells (a++b):=by simp [Lib.byteCells]
theorem wt_write {b:Nat} {txt:List UInt8} {deep:Int} {fs:List Value} {w:World} (h:Wt b txt deep fs w) (s:ByteArray) (hlen:txt.length+s.size≤140737488355328) :
 Calls Tryz.prog 125 #[.pointer (some ⟨b,0,none⟩),.string s] w fun e w'=>e=.returned (.tuple #[.int .i64 s.size,.nilIface])∧Wt b (txt++s.data.toList) deep fs w'∧Keep (selW b) w w'∧Below b w w':=by
 obtain ⟨i0,hi,hz0,hz1,hz2⟩:=info_parts infoU8'
 have HC:=Lib.hid (wt_check h)
 clear h
 go_enter Tryz.func125,Tryz.ntmps125
 go_wp2_with (go_at_call 164;refine (HC.out).mono ?_)
 rintro e w1 ⟨rfl,⟨v,hbk,hf,_,hv0,hown⟩,hk1,hz,hb1⟩
 have hzl:w.heap.size≤w1.heap.size:=Nat.le_of_eq hz.symm
 clear hz HC
 have c0:w1.cell? ⟨b,0,none⟩=some (.pointer (some ⟨b,0,none⟩)):=by rw [cell_of_row _ _ 0 _ _ _ hbk];rfl
 have c1:w1.cell? ⟨b,1,none⟩=some v:=by rw [cell_of_row _ _ 1 _ _ _ hbk];rfl
 have hlt:b<w1.heap.size:=hbk.lt
 have HK:=Lib.hid hbk
 clear hbk
 go_wp2_with (at_builtin;refine Lib.wpList_append_own_string _ rfl _ _ 46 9 rfl (b+1) 5 i0 Tryz.underlying46 Tryz.underlying9 hi hz0 hz1 hz2 _ _ _ rfl hown s rfl ?c3 ?c4 ?c5 ?_)
 case c3=>unfold maxLen;omega
 case c4=>omega
 case c5=>omega
 intro v' w2 hown' hgrow hiff
 have hne:v.ownBlock≠some b:=by
  intro e
  obtain ⟨h1,_⟩:=hown.lt _ e
  omega
 have hb2:Own w2 b 91 (.pointer (some ⟨b,0,none⟩)::v :: .int .i64 deep::fs).toArray:=by
  have:=hgrow.block b hlt (fun e=>hne e.symm)
  exact this.trans HK.out
 have d0:w2.cell? ⟨b,0,none⟩=some (.pointer (some ⟨b,0,none⟩)):=by rw [cell_of_row _ _ 0 _ _ _ hb2];rfl
 have d1:w2.cell? ⟨b,1,none⟩=some v:=by rw [cell_of_row _ _ 1 _ _ _ hb2];rfl
 have f1:w2.frozen? ⟨b,1,none⟩=false:=own_frozen hb2 1
 obtain ⟨ao,n',cap,rfl⟩:∃ ao n' cap,v'=.slice ao n' cap:=by
  rcases hown'.2 with ⟨hv,_⟩ | ⟨g,cap,cur,hv,_⟩
  · exact ⟨_,_,_,hv⟩
  · exact ⟨_,_,_,hv⟩
 have kG:Keep (selW b) w w2:=hk1.grown hgrow (row_bytesW hown b (fun _ _ _ ho=>ho))
 have HB2:=Lib.hid hb2
 have HI:=Lib.hid hiff
 clear hb2 hiff
 go_wp2
 go_ret2
 refine ⟨rfl,⟨_,_,heap_setCell_same w2 b 1 _ _ _ HB2.out,hf,.inr rfl,?_,?_⟩,kG.setCell (p:=⟨b,1,none⟩) _ HB2.out (fun hs=>hs.1 rfl),?_⟩
 · intro h0
   obtain ⟨h1,h2⟩:=List.append_eq_nil_iff.1 h0
   exact HI.out.2 ⟨hv0 h1,empty_bytes h2⟩
 · have h3 : (txt ++ s.data.toList).length = txt.length + s.size := by rw [List.length_append, Array.length_toList]; rfl
   rw [h3,← bytes_append,← strCells_bytes]
   exact ownsRow_setCell_below hown' (show b<b+1 by omega) _
 · exact (hb1.grown hgrow (by omega) (fun k hk=>by have:=(hown.lt k hk).1;omega)).setCell (p:=⟨b,1,none⟩) (Nat.le_refl b) _
theorem wt_string {b:Nat} {txt:List UInt8} {deep:Int} {fs:List Value} {w:World} (h:Wt b txt deep fs w) :
 Calls Tryz.prog 47 #[.pointer (some ⟨b,0,none⟩)] w fun e w'=>e=.returned (.string ⟨txt.toArray⟩)∧Below b w w':=by
 obtain ⟨p,v,h⟩:=h
 have hbk:=h.1
 have hown:=h.2.2.2.2
 by_cases h0:txt=[]
 · subst h0
   obtain rfl:=h.2.2.2.1 rfl
   have hUS:=Lib.run_unsafeString_none (P:=Tryz.prog) w.drew 124 3 9 none
   have c1:w.drew.cell? ⟨b,1,none⟩=some (.slice none 0 0):=by
    have:w.cell? ⟨b,1,none⟩=some (.slice none 0 0):=by rw [cell_of_row _ _ 1 _ _ _ hbk];rfl
    exact this
   have hSD:(Builtin.unsafeSliceData_ #[46] 124 #[.slice none 0 0]).run Tryz.prog w.drew=.ok (.pointer none) w.drew:=rfl
   have mixed:Tryz.prog.follows .mixedOrders=true:=by kernel_rfl
   clear h hown hbk
   go_enter Tryz.func47,Tryz.ntmps47
   go_wp2
   go_region_o
   all_goals (go_wp2;go_ret;exact ⟨rfl,Below.drew (Below.refl b w)⟩)
 · have hl0 : txt.length ≠ 0 := by simpa using h0
   obtain ⟨g,cap,cur,rfl,hbg,hg,hnc,hcm,hcs,htake⟩:∃ g cap cur,v=.slice (some ⟨g,0,none⟩) txt.length cap∧b+1≤g∧w.heap[g]? = some (.cells cur 5 (0,0))∧txt.length≤cap∧cap≤maxLen∧cur.size=cap*1∧cur.toList.take (txt.length*1)=Lib.byteCells txt:=by
    rcases hown.2 with ⟨_,hz⟩ | ⟨g,cap,cur,hv,r⟩
    · exact absurd hz hl0
    · exact ⟨g,cap,cur,hv,r⟩
   have c1:w.drew.cell? ⟨b,1,none⟩=some (.slice (some ⟨g,0,none⟩) txt.length cap):=by
    have:w.cell? ⟨b,1,none⟩=some (.slice (some ⟨g,0,none⟩) txt.length cap):=by rw [cell_of_row _ _ 1 _ _ _ hbk];rfl
    exact this
   have hSD:(Builtin.unsafeSliceData_ #[46] 124 #[.slice (some ⟨g,0,none⟩) txt.length cap]).run Tryz.prog w.drew=.ok (.pointer (some ⟨g,0,none⟩)) w.drew :=
    Lib.run_unsafeSliceData_row _ _ _ _ _ _ (by omega)
   have hUS:(Builtin.unsafeString_ #[124,3] 9 #[.pointer (some ⟨g,0,none⟩),.int .i64 txt.length]).run Tryz.prog w.drew=.ok (.string ⟨txt.toArray⟩) (w.drew.freeze ⟨g,0,none⟩ txt.length):=by
    refine Lib.run_unsafeString_row w.drew 124 3 9 5 Tryz.underlying124 (by kernel_rfl) g cur.size (by have hg':w.drew.heap[g]? = some (.cells cur 5 (0,0)):=hg;simp [World.shape?,hg']) txt h0 (by omega) (by unfold maxLen at hcm;omega) ?_
    intro j x hx
    have:=hown.cells (g:=g) rfl j (.int .u8 x.toNat) (by simp [Lib.byteCells,hx])
    exact this
   have mixed:Tryz.prog.follows .mixedOrders=true:=by kernel_rfl
   clear h hown hbk
   go_enter Tryz.func47,Tryz.ntmps47
   go_wp2
   go_region_o
   all_goals (go_wp2;go_ret;exact ⟨rfl,Lib.below_freeze (Below.drew (Below.refl b w)) (p:=⟨g,0,none⟩) (by show b≤g;omega) _⟩)
open Go.RowKit
set_option linter.unusedVariables false
set_option maxRecDepth 100000
def cat (l:List ByteArray):List UInt8:=l.flatMap fun s=>s.data.toList
theorem cat_cons (s:ByteArray) (l:List ByteArray):cat (s::l)=s.data.toList++cat l:=by simp [cat]
theorem cat_append (a b:List ByteArray):cat (a++b)=cat a++cat b:=by simp [cat]
theorem cat_nil:cat []=[]:=rfl
def PutP (b:Nat) (txt t:List UInt8) (deep:Int) (fs:List Value) (W:World) (e:Ending) (w':World):Prop :=
 Below b W w'∧((txt++t).length≤65536∧e=.returned (.tuple #[])∧Wt b (txt++t) deep fs w'∧Keep (selW b) W w'∨65536<(txt++t).length∧e=.panicked (errP 4))
def SA (b:Nat) (W:World) (a:Option Addr) (l:List ByteArray):Prop:=l=[]∨∃ (g:Nat) (cs:Array Value),a=some ⟨g,0,none⟩∧g≠b∧Own W g 9 cs∧∀ (j:Nat) (s:ByteArray),l[j]? = some s→cs[j]? = some (.string s)
theorem not_u8 {cs:Array Value} : ¬ IsTy 5 (.cells cs 9):=by
 rintro ⟨c,f,h⟩
 cases h
theorem SA.keep {b:Nat} {W W':World} {a:Option Addr} {l:List ByteArray} (h:SA b W a l) (k:Keep (selW b) W W'):SA b W' a l:=by
 rcases h with h | ⟨g,cs,ha,hg,ho,hc⟩
 · exact .inl h
 · exact .inr ⟨g,cs,ha,hg,k.block _ _ ho ⟨hg,not_u8⟩,hc⟩
theorem p_put {b:Nat} {txt:List UInt8} {deep:Int} {fs:List Value} {w:World} (h:Wt b txt deep fs w) (ht:txt.length≤65536) {l:List ByteArray} (hl:l.length≤9223372036854775807) (hs:∀ s∈l,s.size≤140737488289792) {a:Option Addr} {c:Nat} (ha:SA b w a l) :
 Calls Tryz.prog 87 #[.pointer (some ⟨b,0,none⟩),.slice a l.length c] w (PutP b txt (cat l) deep fs w):=by
 have HLN:Hid (∀ t W,Wt b t deep fs W→Calls Tryz.prog 124 #[.pointer (some ⟨b,0,none⟩)] W fun e w'=>e=.returned (.int .i64 t.length)∧W=w'):=fun t W h=>wt_len h
 have HWR:Hid (∀ t W s,Wt b t deep fs W→t.length+s.size≤140737488355328→Calls Tryz.prog 125 #[.pointer (some ⟨b,0,none⟩),.string s] W fun e w'=>e=.returned (.tuple #[.int .i64 s.size,.nilIface])∧Wt b (t++s.data.toList) deep fs w'∧Keep (selW b) W w'∧Below b W w'):=fun t W s h hb=>wt_write h s hb
 have HW:=Lib.hid h
 have HS:=Lib.hid hs
 have E1:=Lib.hid ha
 have HT:=Lib.hid ht
 obtain ⟨n,hn⟩:∃ n,n=l.length:=⟨_,rfl⟩
 rw [← hn] at hl ⊢
 have HN:=Lib.hid hn
 clear h hs ha ht hn
 go_enter Tryz.func87,Tryz.ntmps87
 go_wp2_with fail
 go_loopg [8] (n+1) (fun m' u W=>∃ i:Nat,u=.int .i64 (i:Int)∧i≤n∧m'=n-i+1∧(txt++cat (l.take i)).length≤65536∧Wt b (txt++cat (l.take i)) deep fs W∧Keep (selW b) w W∧Below b w W)
 case atStart=>exact ⟨0,rfl,Nat.zero_le _,by omega,by rw [List.take_zero,cat_nil,List.append_nil];exact HT.out,by rw [List.take_zero,cat_nil,List.append_nil];exact HW.out,Keep.refl _ _,Below.refl _ _⟩
 case round =>
  obtain ⟨i,rfl,hi,hm,hle,hwt,hk0,hb0⟩:=hrel
  have HM:=Lib.hid hm
  have HL:=Lib.hid hle
  have HK:=Lib.hid hk0
  have HB:=Lib.hid hb0
  have HX:=Lib.hid hwt
  clear hm hle hk0 hb0 hwt
  by_cases hin:i<n
  · have il : i < l.length := by have := HN.out; omega
    have g1:l[i]? = some l[i]:=List.getElem?_eq_getElem il
    have hmem:l[i]∈l:=List.getElem_mem il
    have htk:l.take (i+1)=l.take i++[l[i]]:=by rw [List.take_succ_eq_append_getElem il]
    have hdr:l=l.take i++(l[i]::l.drop (i+1)):=by rw [← List.drop_eq_getElem_cons il,List.take_append_drop]
    generalize l[i]=s at g1 hmem htk hdr
    have hin':(i:Int)<(n:Int):=by omega
    rcases E1.out.keep HK.out with e | ⟨g,cs,rfl,hg,ho,hc⟩
    · subst e;simp at il
    have f0:wr.cell? ⟨g,i,none⟩=some (.string s):=by rw [cell_of_row _ _ i _ _ _ ho];exact hc i s g1
    have hsz:s.size≤140737488289792:=HS.out s hmem
    have HTK:=Lib.hid htk
    have HDR:=Lib.hid hdr
    clear ho hc hg g1 hmem il htk hdr
    obtain ⟨ti,hti⟩:∃ t,t=txt++cat (l.take i):=⟨_,rfl⟩
    rw [← hti] at HL HX
    have HTI:=Lib.hid hti
    clear hti
    have hlt:=HL.out
    have hwr:IntKind.i64.wrap ((ti.length:Int)+(s.size:Int))=(ti.length:Int)+(s.size:Int):=IntWalk.i64_in _ (by omega)
    by_cases hbig:65536<(ti.length:Int)+(s.size:Int)
    · go_wp2_with (first | (go_at_call 124; refine (HLN.out _ _ HX.out).mono ?_; rintro e w2 ⟨rfl, rfl⟩))
      have hbt:65536<(txt++cat l).length:=by
       have h1:=HTI.out
       have h2:=congrArg cat HDR.out
       rw [cat_append,cat_cons] at h2
       rw [h2,← List.append_assoc,← h1,List.length_append,List.length_append]
       have:s.data.toList.length=s.size:=Array.length_toList
       omega
      exact ⟨rfl,HB.out,.inr ⟨hbt,rfl⟩⟩
    · go_wp2_with (first | (go_at_call 124; refine (HLN.out _ _ HX.out).mono ?_; rintro e w2 ⟨rfl, rfl⟩))
      go_at_call 125
      refine (HWR.out _ _ _ HX.out (by omega)).mono ?_
      rintro e w3 ⟨rfl,hx3,hk3,hb3⟩
      have HX3:=Lib.hid hx3
      have HK3:=Lib.hid (HK.out.trans hk3)
      have HB3:=Lib.hid (HB.out.trans hb3)
      clear hx3 hk3 hb3
      go_wp2_with fail
      go_roundg (n-(i+1)+1)
      case measure=>have:=HM.out;omega
      case rel =>
       have hct:txt++cat (l.take (i+1))=ti++s.data.toList:=by
        rw [HTK.out,cat_append,← List.append_assoc,← HTI.out]
        simp [cat]
       refine ⟨i+1,rfl,by omega,by omega,?_,by rw [hct];exact HX3.out,HK3.out,HB3.out⟩
       rw [hct,List.length_append]
       have:s.data.toList.length=s.size:=Array.length_toList
       omega
  · have : i = n := by omega
    subst this
    have hall:l.take i=l:=List.take_of_length_le (by have:=HN.out;omega)
    rw [hall] at HL HX
    go_wp2_with fail
    exact bodyPost_end (results_none rfl _ _ _) rfl ⟨HB.out,.inl ⟨HL.out,rfl,HX.out,HK.out⟩⟩
open Go.RowKit
set_option linter.unusedVariables false
theorem stsAt_below {w w':World} {l:List St} {a:Option Addr} (h:stsAt (fun _=>True) w l a) (hb:Below w.heap.size w w'):stsAt (fun _=>True) w' l a:=by
 have h:=stsAt_in h
 exact stsAt_stays (R:=fun b=>True∧b<w.heap.size) (fun b o v hb2 hv=>by rw [← hv];exact hb.cell (p:=⟨b,o,none⟩) hb2.2) (fun _ _=>trivial) h
theorem dcsAt_below {w w':World} {l:List Dc} {a:Option Addr} (h:dcsAt (fun _=>True) w l a) (hb:Below w.heap.size w w'):dcsAt (fun _=>True) w' l a:=by
 have h:=dcsAt_in h
 exact dcsAt_stays (R:=fun b=>True∧b<w.heap.size) (fun b o v hb2 hv=>by rw [← hv];exact hb.cell (p:=⟨b,o,none⟩) hb2.2) (fun _ _=>trivial) h
theorem thsAt_in {R:Nat→Prop} {w:World} {l:List Th} {a:Option Addr} (h:thsAt R w l a):thsAt (fun b=>R b∧b<w.heap.size) w l a:=by
 rcases h with h | ⟨g,q,rfl,hg,hi⟩
 · exact .inl h
 · cases l with
   | nil=>exact .inl rfl
   | cons t r =>
     refine .inr ⟨g,q,rfl,⟨hg,cell_lt hi.1.1⟩,?_⟩
     have key:∀ (l:List Th) (q:Nat),thsIn R w l g q→thsIn (fun b=>R b∧b<w.heap.size) w l g q:=by
      intro l
      induction l with
      | nil=>intro q _;exact trivial
      | cons x s ih =>
        intro q h
        obtain ⟨⟨h1,⟨a1,c1,h2,h3⟩,⟨a2,c2,h4,h5⟩,h6⟩,h7⟩:=h
        exact ⟨⟨h1,⟨a1,c1,h2,dcsAt_in h3⟩,⟨a2,c2,h4,stsAt_in h5⟩,h6⟩,ih _ h7⟩
     exact key _ _ hi
theorem thsAt_below {w w':World} {l:List Th} {a:Option Addr} (h:thsAt (fun _=>True) w l a) (hb:Below w.heap.size w w'):thsAt (fun _=>True) w' l a:=by
 have h:=thsAt_in h
 exact thsAt_stays (R:=fun b=>True∧b<w.heap.size) (fun b o v hb2 hv=>by rw [← hv];exact hb.cell (p:=⟨b,o,none⟩) hb2.2) (fun _ _=>trivial) h
open Go.RowKit
set_option linter.unusedVariables false
mutual
def okS:St→Prop
 | .mk _ _ _ e b l _=>(e.length≤9223372036854775807∧okEs e)∧(b.length≤9223372036854775807∧okSs b)∧l.length≤9223372036854775807∧okSs l
def okSs:List St→Prop
 | []=>True
 | x::r=>okS x∧okSs r
end
theorem okSs_mem:∀ {l:List St},okSs l→∀ x∈l,okS x
 | [],_,x,hx=>by simp at hx
 | y :: r, h, x, hx => by
   rcases List.mem_cons.1 hx with rfl | hx
   · exact h.1
   · exact okSs_mem h.2 x hx
def okT (t:Th):Prop:=t.locals.length≤9223372036854775807∧t.body.length≤9223372036854775807∧okSs t.body
def okP (p:Pg):Prop:=p.shared.length≤9223372036854775807∧p.locks.length≤9223372036854775807∧p.threads.length≤9223372036854775807∧∀ t∈p.threads,okT t
def pA (w:World) (x:Pg) (v:Value):Prop:=∃ a1 c1 a2 c2 a3 c3,v=.agg #[.slice a1 x.shared.length c1,.slice a2 x.locks.length c2,.slice a3 x.threads.length c3]∧dcsAt (fun _=>True) w x.shared a1∧dcsAt (fun _=>True) w x.locks a2∧thsAt (fun _=>True) w x.threads a3
theorem pA_below {w w':World} {x:Pg} {v:Value} (h:pA w x v) (hb:Below w.heap.size w w'):pA w' x v:=by
 obtain ⟨a1,c1,a2,c2,a3,c3,h0,h1,h2,h3⟩:=h
 exact ⟨a1,c1,a2,c2,a3,c3,h0,dcsAt_below h1 hb,dcsAt_below h2 hb,thsAt_below h3 hb⟩
end Go.Proofs.YtieeaehabjjaoaaGreatDoor

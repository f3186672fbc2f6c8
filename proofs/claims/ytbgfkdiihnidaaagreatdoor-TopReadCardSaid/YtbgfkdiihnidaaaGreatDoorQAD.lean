import Derived.Test.YtbgfkdiihnidaaaGreatDoorQAC
import Derived.Lib.Hide
import Derived.PlainAid
import Derived.WalkKit
import Derived.Below
import Derived.Test.YtbgfkdiihnidaaaGreatDoorQAA
import Derived.MapKept
set_option maxRecDepth 100000
set_option maxHeartbeats 20000000
namespace Go.Proofs.YtbgfkdiihnidaaaGreatDoor
open Go.RowKit
set_option linter.unusedVariables false
theorem nat_beq (n m:Nat):((n:Int)==(m:Int))=decide (n=m):=by
 by_cases h:n=m
 · subst h;simp
 · rw [decide_eq_false h];exact int_f (by omega)
theorem empty_of {s:ByteArray} (h:¬ 0<s.size):s=⟨#[]⟩:=by
 cases s with
 | mk d =>
   have b:(ByteArray.mk d).size=0:=by omega
   have a:d.size=0:=b;simp at a;rw [a]
theorem nonempty_facts {s:ByteArray} (h0:0<s.size):s.toList.isEmpty=false/\¬ s.toList=[]:=by
 have a:s.data.toList=s[0]::bytesFrom s 1:=from_at s 0 h0;exact ⟨by rw [Lib.toList_data,a];rfl,by rw [Lib.toList_data,a];simp⟩
def nameB (s:ByteArray):Bool:=decide (0<s.size)&&(decide (s.size<=32)&&(!digitB (PlainAid.bt s 0)&&(!wordB s&&decide (spanN namedB s.data.toList=s.size))))
theorem isname_any (s:ByteArray) (w:World) (T:LNm w):Calls Tryz.prog 26 #[.string s] w fun e w'=>e=.returned (.bool (nameB s))/\w=w':=by
 by_cases h0:0<s.size
 · obtain ⟨x, o⟩ := nonempty_facts h0
   by_cases h32:(32:Int)<(s.size:Int)
   · have b : Hid (nameB s = false) := by
      unfold nameB;rw [Hid,decide_eq_true h0,decide_eq_false (p:=s.size<=32) (by omega)];rfl
     rw [b.out];go_enter Tryz.func26,Tryz.ntmps26;go_wp2;go_ret;exact ⟨rfl,rfl⟩
   · have d : s.size <= 32 := by omega
     have a:=PlainAid.bt_nonneg s 0;have g:=PlainAid.bt_le s 0;obtain ⟨c,j⟩:∃ c,Hid (c=PlainAid.bt s 0):=⟨_,rfl⟩;rw [<- j.out] at a g;have m:∀ h:0<s.size,((s[0]'h).toNat:Int)=c:=fun h=>by rw [j.out];exact PlainAid.get_bt s 0 h
     obtain ⟨r,f⟩:∃ q,Hid (q=digitB c):=⟨_,rfl⟩;obtain ⟨k,i⟩:∃ q,Hid (q=wordB s):=⟨_,rfl⟩;obtain ⟨n,l⟩:∃ n,Hid (n=spanN namedB s.data.toList):=⟨_,rfl⟩;have v:Hid (∀ W:World,Calls Tryz.prog 54 #[.int .u8 c] W fun e w'=>e=.returned (.bool r)/\W=w'):=fun W=>by
      rw [f.out];exact digit_any c a g W
     have y:Hid (Calls Tryz.prog 55 #[.string s] w fun e w'=>e=.returned (.bool k)/\w=w'):=by
      rw [i.out];exact word_nm s w T
     have t:Hid (∀ W:World,Calls Tryz.prog 56 #[.string s,.func (.func 57) #[] #[]] W fun e w'=>e=.returned (.int .i64 n)/\W=w'):=fun W=>by
      rw [l.out];exact span_named s (by omega) W
     have b:Hid (nameB s=(!r&&(!k&&decide (n=s.size)))):=by
      rw [Hid,f.out,i.out,l.out,j.out];unfold nameB;rw [decide_eq_true h0,decide_eq_true d];rfl
     rw [b.out];clear T;go_enter Tryz.func26,Tryz.ntmps26
     go_wp2_with (first
      | (go_at_call 54;refine (v.out _).mono ?_;rintro e w' ⟨rfl,rfl⟩)
      | (go_at_call 55;refine (y.out).mono ?_;rintro e w' ⟨rfl,rfl⟩)
      | (go_at_call 56;refine (t.out _).mono ?_;rintro e w' ⟨rfl,rfl⟩))
     · go_ret
       refine ⟨ret_bool ?_,rfl⟩;simp [*]
     · go_ret
       refine ⟨ret_bool ?_,rfl⟩;simp [*]
     · go_ret
       refine ⟨ret_bool ?_,rfl⟩;rw [nat_beq];simp [*]
 · obtain rfl := empty_of h0
   have b:Hid (nameB ⟨#[]⟩=false):=rfl;rw [b.out];clear h0;go_enter Tryz.func26,Tryz.ntmps26;go_wp2;go_ret;exact ⟨rfl,rfl⟩
set_option linter.unusedSimpArgs false
def wordL (l:List UInt8):Bool:=(l==[115,104,97,114,101,100]) || (l==[108,111,99,107]) || (l==[116,104,114,101,97,100]) || (l==[108,111,99,97,108]) || (l==[105,102]) || (l==[101,108,115,101]) || (l==[119,104,105,108,101]) || (l==[112,114,105,110,116]) || (l==[115,107,105,112]) || (l==[115,119,97,112])
theorem wordB_list (s:ByteArray):wordB s=wordL s.toList:=by
 have h:∀ (v:ByteArray) (l:List UInt8),v.toList=l->(v.toList==s.toList)=(s.toList==l):=fun v l e=>by
  rw [e];exact Bool.eq_iff_iff.2 ⟨fun h=>by simpa using (by simpa using h:l=s.toList).symm,fun h=>by simpa using (by simpa using h:s.toList=l).symm⟩
 unfold wordB wordL;rw [h (wordAt 0) [115,104,97,114,101,100] (by rw [Lib.toList_data];rfl),h (wordAt 1) [108,111,99,107] (by rw [Lib.toList_data];rfl),h (wordAt 2) [116,104,114,101,97,100] (by rw [Lib.toList_data];rfl),h (wordAt 3) [108,111,99,97,108] (by rw [Lib.toList_data];rfl),h (wordAt 4) [105,102] (by rw [Lib.toList_data];rfl),h (wordAt 5) [101,108,115,101] (by rw [Lib.toList_data];rfl),h (wordAt 6) [119,104,105,108,101] (by rw [Lib.toList_data];rfl),h (wordAt 7) [112,114,105,110,116] (by rw [Lib.toList_data];rfl),h (wordAt 8) [115,107,105,112] (by rw [Lib.toList_data];rfl),h (wordAt 9) [115,119,97,112] (by rw [Lib.toList_data];rfl)]
theorem u8_int {a b:UInt8} : ((a.toNat:Int)=(b.toNat:Int))↔a=b :=
 ⟨fun h=>UInt8.toNat_inj.1 (by omega),fun h=>by rw [h]⟩
theorem blank_not47 {x:UInt8} (h:blankB (x.toNat:Int)=true):¬ x=47:=by
 intro e;subst e;revert h;decide
theorem prefix_no {x:UInt8} {r:List UInt8} (h:¬ x=47):Lib.hasPrefix (x::r) slashes=false:=by
 cases hp:Lib.hasPrefix (x::r) slashes with
 | false=>rfl
 | true =>
   unfold Lib.hasPrefix slashes at hp;simp only [List.isPrefixOf_cons_cons,Bool.and_eq_true,beq_iff_eq] at hp;exact absurd hp.1.symm h
theorem prefix_one (x:UInt8):Lib.hasPrefix [x] slashes=false:=by
 unfold Lib.hasPrefix slashes;simp [List.isPrefixOf]
theorem prefix_two (x y:UInt8) (r:List UInt8):Lib.hasPrefix (x::y::r) slashes=(decide (x=47)&&decide (y=47)):=by
 unfold Lib.hasPrefix slashes;simp only [List.isPrefixOf_cons_cons,List.isPrefixOf_nil_left,Bool.and_true];congr 1
 · by_cases hx : x = 47
   · subst hx;rfl
   · rw [decide_eq_false hx];simpa using fun h:47=x=>hx h.symm
 · by_cases hx : y = 47
   · subst hx;rfl
   · rw [decide_eq_false hx];simpa using fun h:47=y=>hx h.symm
theorem pass_cons (x:UInt8) (r:List UInt8) (h:blankB (x.toNat:Int)=true):passN (x::r)=1+passN r:=by
 have a:stepN (x::r)=spanN blankB r+1:=by
  unfold stepN;rw [prefix_no (blank_not47 h),if_neg (by decide)]
  simp only [spanN];rw [if_pos h]
 have f:passN (x::r)=spanN blankB r+1+passN (r.drop (spanN blankB r)):=by
  rw [passN_step (by rw [a];omega),a];rfl
 have d:passN r=spanN blankB r+passN (r.drop (spanN blankB r)):=by
  by_cases h0:spanN blankB r=0
  · rw [h0];simp
  · have c : stepN r = spanN blankB r := by
     unfold stepN;cases hp:Lib.hasPrefix r slashes with
     | false=>rw [if_neg (by decide)]
     | true =>
       exfalso;apply h0;cases r with
       | nil=>rfl
       | cons y t =>
         by_cases hy:y=47
         · subst hy;simp only [spanN];rw [if_neg (by decide)]
         · rw [prefix_no hy] at hp;cases hp
    have b:=passN_step (l:=r) (by rw [c];exact h0)
    rw [c] at b;exact b
 omega
theorem pass_remark {l:List UInt8} (h:Lib.hasPrefix l slashes=true):passN l=spanN feedB l+passN (l.drop (spanN feedB l)):=by
 have b:stepN l=spanN feedB l:=by unfold stepN;rw [if_pos h]
 by_cases h0:spanN feedB l=0
 · rw [h0];simp
 · have a := passN_step (l := l) (by rw [b]; exact h0)
   rw [b] at a;exact a
theorem pass_none {l:List UInt8} {x:UInt8} {r:List UInt8} (e:l=x::r) (h:Lib.hasPrefix l slashes=false) (hb:blankB (x.toNat:Int)=false):passN l=0:=by
 apply passN_stop;unfold stepN;rw [h,if_neg (by decide),e]
 simp only [spanN];rw [if_neg (by rw [hb];decide)]
theorem ownsRow_base {W:World} {base base':Nat} {e:TypeId} {size:Nat} {v:Value} {k:Nat} {xs:List Value} (h:W.ownsRow base e size v k xs) (hb:base'<=base):W.ownsRow base' e size v k xs:=by
 refine ⟨h.1,?_⟩;rcases h.2 with i | ⟨g,b,c,d,f,a⟩
 · exact .inl i
 · exact .inr ⟨g,b,c,d,Nat.le_trans hb f,a⟩
def TokRow (W:World) (v:Value) (xs:List Res):Prop :=
 ∃ oa cap, v = .slice oa xs.length cap /\ ∀ (i : Nat) (x : Res), xs[i]? = some x -> ∃ g off, oa = some ⟨g, off, none⟩ /\
   W.cell? ⟨g,off+i*4,none⟩=some (.int .u8 x.kind)/\W.cell? ⟨g,off+i*4+1,none⟩=some (.string x.text)/\W.cell? ⟨g,off+i*4+2,none⟩=some (.int .i64 x.wd)/\W.cell? ⟨g,off+i*4+3,none⟩=some (.int .i64 x.place)
def scanX (s:ByteArray):List Res × Int × Int × Int :=
 if 65536<s.size then ([],4,0,0) else if (frontR s).2.2=0 then ((frontR s).1,0,0,0) else ([],20,(frontR s).2.1,(frontR s).2.2)
theorem scanPost_row {s:ByteArray} {n₀:Nat} {W:World} {v:Value} (h:scanPost s n₀ W v) :
 ∃ u,v=.tuple #[u,.int .i64 (scanX s).2.1,.agg #[.int .i64 (scanX s).2.2.1,.int .i64 (scanX s).2.2.2]]/\W.ownsRow n₀ 50 4 u (scanX s).1.length (rowR (scanX s).1)/\(u=.slice none 0 0↔(scanX s).1=[]):=by
 unfold scanPost at h;unfold scanX;split at h
 · rename_i hl
   rw [if_pos hl];exact ⟨_,h,World.ownsRow_nil _ _ _ _,by simp⟩
 · rename_i hl
   rw [if_neg hl];split at h
   · rename_i hf
     rw [if_pos hf];exact h
   · rename_i hf
     rw [if_neg hf];exact ⟨_,h,World.ownsRow_nil _ _ _ _,by simp⟩
theorem scanX_len (s:ByteArray):(scanX s).1.length<=65536:=by
 unfold scanX;split
 · exact Nat.zero_le _
 · split
   · have:=front_len s;simp only;omega
   · exact Nat.zero_le _
theorem rowR_at:∀ (xs:List Res) (i j:Nat) (x:Res),xs[i]? = some x->j<4->(rowR xs)[i*4+j]? = (tokCells x)[j]?
 | [],i,j,x,h,_=>by simp at h
 | y :: ys, 0, j, x, h, hj => by
   obtain rfl:y=x:=by simpa using h
   have:rowR (y::ys)=tokCells y++rowR ys:=rfl
   rw [this,Nat.zero_mul,Nat.zero_add,List.getElem?_append_left (by show j<4;exact hj)]
 | y :: ys, i + 1, j, x, h, hj => by
   have:rowR (y::ys)=tokCells y++rowR ys:=rfl
   rw [this,List.getElem?_append_right (by show 4<=_;omega)]
   have e:(i+1)*4+j-(tokCells y).length=i*4+j:=by show (i+1)*4+j-4=_;omega
   rw [e]
   exact rowR_at ys i j x (by simpa using h) hj
theorem tokRow_owns {W:World} {base:Nat} {u:Value} {xs:List Res} (h:W.ownsRow base 50 4 u xs.length (rowR xs)):TokRow W u xs:=by
 rcases h.2 with ⟨rfl,b⟩ | ⟨g,d,c,rfl,p,n,m,k,l,f⟩
 · refine ⟨none, 0, by rw [b], fun i x hx => ?_⟩
   have:=(List.getElem?_eq_some_iff.1 hx).1;omega
 · refine ⟨some ⟨g, 0, none⟩, d, rfl, fun i x hx => ⟨g, 0, rfl, ?_⟩⟩
   have a:∀ j u,j<4->(tokCells x)[j]? = some u->W.cell? ⟨g,i*4+j,none⟩=some u:=fun j u hj4 hu=>by
    have b:=rowR_at xs i j x hx hj4;rw [hu,<- f,List.getElem?_take] at b;split at b
    · have o : c[i * 4 + j]? = some u := by rw [<- Array.getElem?_toList]; exact b
      rw [cell_of_row W g (i*4+j) _ _ _ n];exact o
    · cases b
   simp only [Nat.zero_add];exact ⟨a 0 _ (by decide) rfl,a 1 _ (by decide) rfl,a 2 _ (by decide) rfl,a 3 _ (by decide) rfl⟩
theorem TokRow.keep {W W':World} {u:Value} {xs:List Res} (h:TokRow W u xs) (hb:Below W.heap.size W W'):TokRow W' u xs:=by
 obtain ⟨j,c,l,m⟩:=h;refine ⟨j,c,l,fun i x hx=>?_⟩
 obtain ⟨g,a,o,d,n,f,k⟩:=m i x hx;have b:g<W.heap.size:=lt_of_at d;exact ⟨g,a,o,(hb.cell (p:=⟨g,a+i*4,none⟩) b).trans d,(hb.cell (p:=⟨g,a+i*4+1,none⟩) b).trans n,(hb.cell (p:=⟨g,a+i*4+2,none⟩) b).trans f,(hb.cell (p:=⟨g,a+i*4+3,none⟩) b).trans k⟩
theorem scan_row (s:ByteArray) {w:World} (T:LTabs w) :
 Calls Tryz.prog 12 #[.string s] w fun e w'=>∃ u,e=.returned (.tuple #[u,.int .i64 (scanX s).2.1,.agg #[.int .i64 (scanX s).2.2.1,.int .i64 (scanX s).2.2.2]])/\w'.ownsRow w.heap.size 50 4 u (scanX s).1.length (rowR (scanX s).1)/\(u=.slice none 0 0↔(scanX s).1=[])/\Below w.heap.size w w':=by
 refine (scan_any s w T).mono ?_;rintro e w' ⟨⟨v,rfl,h⟩,a⟩;obtain ⟨u,rfl,b,c⟩:=scanPost_row h;exact ⟨u,rfl,b,c,a⟩
structure Tk where
 kind:Int
 text:ByteArray
 wd:Int
 pos:Int
inductive Ex where
 | mk (kind op wd:Int) (name:ByteArray) (kids:List Ex) (pos:Int)
structure Dc where
 name:ByteArray
 wd:Int
 pos:Int
inductive St where
 | mk (kind:Int) (name other:ByteArray) (e:List Ex) (body els:List St) (pos:Int)
structure Th where
 name:ByteArray
 locals:List Dc
 body:List St
 pos:Int
structure Pg where
 shared:List Dc
 locks:List Dc
 threads:List Th
theorem Ex.ind {P:Ex->Prop} (h:∀ k o w n ks a,(∀ x∈ks,P x)->P (.mk k o w n ks a)):∀ e,P e
 | .mk k o w n ks a=>h k o w n ks a fun x hx=>Ex.ind h x
termination_by e=>SizeOf.sizeOf e
decreasing_by
 have:=List.sizeOf_lt_of_mem hx
 simp only [Ex.mk.sizeOf_spec]
 omega
theorem St.ind {P:St->Prop} (h:∀ k n o e b l a,(∀ x∈b,P x)->(∀ x∈l,P x)->P (.mk k n o e b l a)):∀ s,P s
 | .mk k n o e b l a=>h k n o e b l a (fun x hx=>St.ind h x) (fun x hx=>St.ind h x)
termination_by s=>SizeOf.sizeOf s
decreasing_by
 · have := List.sizeOf_lt_of_mem hx
   simp only [St.mk.sizeOf_spec]
   omega
 · have := List.sizeOf_lt_of_mem hx
   simp only [St.mk.sizeOf_spec]
   omega
theorem Exs.ind {P:List Ex->Prop} (h0:P []) (h1:∀ k o w n ks a r,P ks->P r->P (.mk k o w n ks a::r)):∀ l,P l
 | []=>h0
 | .mk k o w n ks a::r=>h1 k o w n ks a r (Exs.ind h0 h1 ks) (Exs.ind h0 h1 r)
termination_by l=>SizeOf.sizeOf l
theorem Sts.ind {P:List St->Prop} (h0:P []) (h1:∀ k n o e b l a r,P b->P l->P r->P (.mk k n o e b l a::r)):∀ l,P l
 | []=>h0
 | .mk k n o e b l a::r=>h1 k n o e b l a r (Sts.ind h0 h1 b) (Sts.ind h0 h1 l) (Sts.ind h0 h1 r)
termination_by l=>SizeOf.sizeOf l
def Ex.kind:Ex->Int | .mk k _ _ _ _ _=>k
def Ex.op:Ex->Int | .mk _ o _ _ _ _=>o
def Ex.wd:Ex->Int | .mk _ _ w _ _ _=>w
def Ex.name:Ex->ByteArray | .mk _ _ _ n _ _=>n
def Ex.kids:Ex->List Ex | .mk _ _ _ _ k _=>k
def Ex.pos:Ex->Int | .mk _ _ _ _ _ p=>p
def St.kind:St->Int | .mk k _ _ _ _ _ _=>k
def St.name:St->ByteArray | .mk _ n _ _ _ _ _=>n
def St.other:St->ByteArray | .mk _ _ o _ _ _ _=>o
def St.e:St->List Ex | .mk _ _ _ e _ _ _=>e
def St.body:St->List St | .mk _ _ _ _ b _ _=>b
def St.els:St->List St | .mk _ _ _ _ _ l _=>l
def St.pos:St->Int | .mk _ _ _ _ _ _ p=>p
inductive PR (α:Type) where
 | ok (a:α) (r:List Tk)
 | bad (pos rule:Int)
def PR.then {α β:Type} (x:PR α) (f:α->List Tk->PR β):PR β :=
 match x with
 | .ok a r=>f a r
 | .bad p r=>.bad p r
@[simp] theorem PR.then_ok {α β:Type} (a:α) (r:List Tk) (f:α->List Tk->PR β):(PR.ok a r).then f=f a r:=rfl
@[simp] theorem PR.then_bad {α β:Type} (p r:Int) (f:α->List Tk->PR β):(PR.bad p r:PR α).then f=.bad p r:=rfl
abbrev Bs:=List UInt8
def Tk.tx (t:Tk):Bs:=t.text.data.toList
def hdP (L:Int):List Tk->Int
 | []=>L
 | t::_=>t.pos
def isT (s:Bs):List Tk->Bool
 | []=>false
 | t::_=>t.tx==s
def need (L:Int) (s:Bs) (ts:List Tk):PR Unit:=if isT s ts then .ok () ts.tail else .bad (hdP L ts) 2
def nameP (L:Int):List Tk->PR Dc
 | []=>.bad L 2
 | t::r=>if t.kind=1 then .ok ⟨t.text,0,t.pos⟩ r else .bad t.pos 2
def numP (L:Int):List Tk->PR Int
 | []=>.bad L 2
 | t::r=>if t.kind=3 then .ok t.wd r else .bad t.pos 2
def sLevel:List Int:=[0,7,7,8,8,8,3,1,2,6,6,4,4,5,5,5,5,9,9]
def levelI (o:Int):Int:=sLevel.getD o.toNat 0
def unX (op:Int) (p:Int) (e:Ex):Ex:=.mk 3 op 0 ⟨#[]⟩ [e] p
def biX (op:Int) (p:Int) (a b:Ex):Ex:=.mk 4 op 0 ⟨#[]⟩ [a,b] p
section
variable (fnd:Bs->Int × Bool) (L:Int)
mutual
def opnd:Nat->Int->List Tk->PR Ex
 | 0,_,_=>.bad 0 0
 | _+1,_,[]=>.bad L 2
 | n + 1, d, t :: r =>
   if t.kind=3 then .ok (.mk 1 0 t.wd ⟨#[]⟩ [] t.pos) r
   else if t.kind=1 then .ok (.mk 2 0 0 t.text [] t.pos) r
   else if t.tx=[45] then if d=64 then .bad t.pos 3 else (opnd n (d+1) r).then fun e r=>.ok (unX 17 t.pos e) r
   else if t.tx=[33] then if d=64 then .bad t.pos 3 else (opnd n (d+1) r).then fun e r=>.ok (unX 18 t.pos e) r
   else if t.tx=[40] then if d=64 then .bad t.pos 3 else (binE n 1 (d+1) r).then fun e r=>(need L [41] r).then fun _ r=>.ok e r
   else .bad t.pos 2
def binE:Nat->Int->Int->List Tk->PR Ex
 | 0,_,_,_=>.bad 0 0
 | n+1,v,d,ts=>(opnd n d ts).then fun e r=>binL n v d e r
def binL:Nat->Int->Int->Ex->List Tk->PR Ex
 | 0,_,_,_,_=>.bad 0 0
 | _+1,_,_,e,[]=>.ok e []
 | n + 1, v, d, e, t :: r =>
   if (fnd t.tx).2=true/\v<=levelI (fnd t.tx).1 then (binE n (levelI (fnd t.tx).1+1) d r).then fun f r=>binL n v d (biX (fnd t.tx).1 t.pos e f) r
   else .ok e (t::r)
end
def listP (one:List Tk->PR Dc):Nat->List Dc->List Tk->PR (List Dc)
 | 0,_,_=>.bad 0 0
 | n+1,acc,ts=>(one ts).then fun d r=>if isT [44] r then listP one n (acc++[d]) r.tail else (need L [59] r).then fun _ r=>.ok (acc++[d]) r
def firstP (ts:List Tk):PR Dc:=(nameP L ts).then fun d r =>
 if isT [61] r then
  if isT [45] r.tail then (numP L r.tail.tail).then fun v r=>.ok ⟨d.name,-v,d.pos⟩ r
  else (numP L r.tail).then fun v r=>.ok ⟨d.name,v,d.pos⟩ r
 else .ok d r
def parenP (n:Nat) (ts:List Tk):PR Ex:=(need L [40] ts).then fun _ r=>(binE fnd L n 1 0 r).then fun e r=>(need L [41] r).then fun _ r=>.ok e r
def changeP (n:Nat) (t:Tk) (r:List Tk):PR St :=
 (need L [61] r).then fun _ r =>
  if isT [115,119,97,112] r then
   (need L [40] r.tail).then fun _ r=>(nameP L r).then fun o r=>(need L [44] r).then fun _ r=>(binE fnd L n 1 0 r).then fun e r=>(need L [41] r).then fun _ r=>(need L [59] r).then fun _ r=>.ok (.mk 2 t.text o.name [e] [] [] t.pos) r
  else (binE fnd L n 1 0 r).then fun e r=>(need L [59] r).then fun _ r=>.ok (.mk 1 t.text ⟨#[]⟩ [e] [] [] t.pos) r
def openP (d:Int) (ts:List Tk):PR Unit:=(need L [123] ts).then fun _ r=>if 64<d then .bad (hdP L ts) 3 else .ok () r
mutual
def stmtP:Nat->Int->List Tk->PR St
 | 0,_,_=>.bad 0 0
 | _+1,_,[]=>.bad L 2
 | n + 1, d, t :: r =>
   if t.kind=1 then changeP fnd L n t r
   else if t.tx=[105,102] then (parenP fnd L n r).then fun e r=>(openP L (d+1) r).then fun _ r=>(restP n (d+1) [] r).then fun b r =>
    if isT [101,108,115,101] r then (openP L (d+1) r.tail).then fun _ r=>(restP n (d+1) [] r).then fun l r=>.ok (.mk 3 ⟨#[]⟩ ⟨#[]⟩ [e] b l t.pos) r
    else .ok (.mk 3 ⟨#[]⟩ ⟨#[]⟩ [e] b [] t.pos) r
   else if t.tx=[119,104,105,108,101] then (parenP fnd L n r).then fun e r=>(openP L (d+1) r).then fun _ r=>(restP n (d+1) [] r).then fun b r=>.ok (.mk 4 ⟨#[]⟩ ⟨#[]⟩ [e] b [] t.pos) r
   else if t.tx=[108,111,99,107] then (nameP L r).then fun o r=>(openP L (d+1) r).then fun _ r=>(restP n (d+1) [] r).then fun b r=>.ok (.mk 5 o.name ⟨#[]⟩ [] b [] t.pos) r
   else if t.tx=[112,114,105,110,116] then (binE fnd L n 1 0 r).then fun e r=>(need L [59] r).then fun _ r=>.ok (.mk 6 ⟨#[]⟩ ⟨#[]⟩ [e] [] [] t.pos) r
   else if t.tx=[115,107,105,112] then (need L [59] r).then fun _ r=>.ok (.mk 7 ⟨#[]⟩ ⟨#[]⟩ [] [] [] t.pos) r
   else .bad t.pos 2
def restP:Nat->Int->List St->List Tk->PR (List St)
 | 0,_,_,_=>.bad 0 0
 | n+1,d,acc,ts=>if isT [125] ts then .ok acc ts.tail else (stmtP n d ts).then fun s r=>restP n d (acc++[s]) r
end
def localsP:Nat->List Dc->List Tk->PR (List Dc)
 | 0,_,_=>.bad 0 0
 | n+1,acc,ts=>if isT [108,111,99,97,108] ts then (listP L (nameP L) n [] ts.tail).then fun l r=>localsP n (acc++l) r else .ok acc ts
def threadP (n:Nat) (ts:List Tk):PR Th :=
 (nameP L ts).then fun d r=>(openP L 1 r).then fun _ r=>(localsP L n [] r).then fun l r=>(restP fnd L n 1 [] r).then fun b r=>.ok ⟨d.name,l,b,d.pos⟩ r
def threadsP:Nat->List Th->List Tk->PR (List Th)
 | 0,_,_=>.bad 0 0
 | n+1,acc,ts=>if isT [116,104,114,101,97,100] ts then (threadP fnd L n ts.tail).then fun t r=>threadsP n (acc++[t]) r else .ok acc ts
def declsP:Nat->Pg->List Tk->PR Pg
 | 0,_,_=>.bad 0 0
 | n + 1, p, ts =>
   if isT [115,104,97,114,101,100] ts then (listP L (firstP L) n [] ts.tail).then fun l r=>declsP n { p with shared:=p.shared++l } r
   else if isT [108,111,99,107] ts then (listP L (nameP L) n [] ts.tail).then fun l r=>declsP n { p with locks:=p.locks++l } r
   else .ok p ts
def endP {α:Type} (x:PR α):PR α:=x.then fun a r=>match r with | []=>.ok a [] | t::_=>.bad t.pos 2
def progP (n:Nat) (ts:List Tk):PR Pg:=(declsP L n ⟨[],[],[]⟩ ts).then fun p r=>(threadsP fnd L n [] r).then fun l r=>.ok { p with threads:=l } r
def fuel (ts:List Tk):Nat:=3*ts.length+5
end
set_option linter.unusedVariables false
theorem PR.then_eq_ok {α β:Type} {x:PR α} {f:α->List Tk->PR β} {b:β} {r:List Tk} (h:x.then f=.ok b r):∃ a q,x=.ok a q/\f a q=.ok b r:=by
 cases x with
 | ok a q=>exact ⟨a,q,rfl,h⟩
 | bad p q=>cases h
theorem need_ok {L:Int} {s:Bs} {ts:List Tk} {u:Unit} {r:List Tk} (h:need L s ts=.ok u r):isT s ts=true/\r=ts.tail/\r.length+1=ts.length:=by
 unfold need at h;split at h
 · rename_i hi
   cases h;cases ts with
   | nil=>cases hi
   | cons t r=>exact ⟨hi,rfl,rfl⟩
 · cases h
theorem isT_tail {s:Bs} {ts:List Tk} (h:isT s ts=true):ts.tail.length+1=ts.length:=by
 cases ts with
 | nil=>cases h
 | cons t r=>rfl
theorem name_ok {L:Int} {ts:List Tk} {d:Dc} {r:List Tk} (h:nameP L ts=.ok d r):r.length+1=ts.length:=by
 cases ts with
 | nil=>cases h
 | cons t q =>
   simp only [nameP] at h;split at h
   · cases h;rfl
   · cases h
theorem num_ok {L:Int} {ts:List Tk} {d:Int} {r:List Tk} (h:numP L ts=.ok d r):r.length+1=ts.length:=by
 cases ts with
 | nil=>cases h
 | cons t q =>
   simp only [numP] at h;split at h
   · cases h;rfl
   · cases h
section
variable {fnd:Bs->Int × Bool} {L:Int}
theorem expr_short:∀ n:Nat,
 (∀ d ts e r,opnd fnd L n d ts=.ok e r->r.length<ts.length) /\
 (∀ v d ts e r,binE fnd L n v d ts=.ok e r->r.length<ts.length) /\
 (∀ v d l ts e r,binL fnd L n v d l ts=.ok e r->r.length<=ts.length):=by
 intro n;induction n with
 | zero=>exact ⟨fun d ts e r h=>by simp [opnd] at h,fun v d ts e r h=>by simp [binE] at h,fun v d l ts e r h=>by simp [binL] at h⟩
 | succ n ih =>
   obtain ⟨i,k,j⟩:=ih;refine ⟨fun d ts e r h=>?_,fun v d ts e r h=>?_,fun v d l ts e r h=>?_⟩
   · cases ts with
     | nil=>simp [opnd] at h
     | cons t q =>
       simp only [opnd] at h;split at h
       · cases h;simp
       split at h
       · cases h;simp
       split at h
       · split at h
         · cases h
         · obtain ⟨a, b, f, g⟩ := PR.then_eq_ok h
           cases g;have:=i _ _ _ _ f;simp;omega
       split at h
       · split at h
         · cases h
         · obtain ⟨a, b, f, g⟩ := PR.then_eq_ok h
           cases g;have:=i _ _ _ _ f;simp;omega
       split at h
       · split at h
         · cases h
         · obtain ⟨a, b, f, g⟩ := PR.then_eq_ok h
           obtain ⟨u,c,m,o⟩:=PR.then_eq_ok g;cases o;have:=k _ _ _ _ _ f;have:=(need_ok m).2.2;simp;omega
       · cases h
   · simp only [binE] at h
     obtain ⟨a,b,f,g⟩:=PR.then_eq_ok h;have:=i _ _ _ _ f;have:=j _ _ _ _ _ _ g;omega
   · cases ts with
     | nil=>simp only [binL] at h;cases h;simp
     | cons t q =>
       simp only [binL] at h;split at h
       · obtain ⟨a, b, f, g⟩ := PR.then_eq_ok h
         have:=k _ _ _ _ _ f;have:=j _ _ _ _ _ _ g;simp;omega
       · cases h;simp
theorem opnd_short {n:Nat} {d:Int} {ts:List Tk} {e:Ex} {r:List Tk} (h:opnd fnd L n d ts=.ok e r):r.length<ts.length:=(expr_short n).1 _ _ _ _ h
theorem binE_short {n:Nat} {v d:Int} {ts:List Tk} {e:Ex} {r:List Tk} (h:binE fnd L n v d ts=.ok e r):r.length<ts.length:=(expr_short n).2.1 _ _ _ _ _ h
theorem list_short {one:List Tk->PR Dc} (ho:∀ ts d r,one ts=.ok d r->r.length<ts.length):∀ (n:Nat) (acc:List Dc) (ts:List Tk) (l:List Dc) (r:List Tk),listP L one n acc ts=.ok l r->r.length<ts.length
 | 0,acc,ts,l,r,h=>by simp [listP] at h
 | n + 1, acc, ts, l, r, h => by
   simp only [listP] at h
   obtain ⟨a,b,h1,h2⟩:=PR.then_eq_ok h
   have k:=ho _ _ _ h1
   split at h2
   · rename_i hi
     have:=list_short ho n _ _ _ _ h2
     have:=isT_tail hi
     omega
   · obtain ⟨u, c, h3, h4⟩ := PR.then_eq_ok h2
     cases h4
     have:=(need_ok h3).2.2
     omega
theorem nameP_short {ts:List Tk} {d:Dc} {r:List Tk} (h:nameP L ts=.ok d r):r.length<ts.length:=by have:=name_ok h;omega
theorem firstP_short {ts:List Tk} {d:Dc} {r:List Tk} (h:firstP L ts=.ok d r):r.length<ts.length:=by
 unfold firstP at h;obtain ⟨a,b,j,f⟩:=PR.then_eq_ok h;have k:=nameP_short j;split at f
 · rename_i i1
   have m:=isT_tail i1;split at f
   · rename_i i2
     have l:=isT_tail i2;obtain ⟨c,e,g,i⟩:=PR.then_eq_ok f;have:=num_ok g;cases i;omega
   · obtain ⟨c, e, g, i⟩ := PR.then_eq_ok f
     have:=num_ok g;cases i;omega
 · cases f;exact k
theorem paren_short {n:Nat} {ts:List Tk} {e:Ex} {r:List Tk} (h:parenP fnd L n ts=.ok e r):r.length<ts.length:=by
 unfold parenP at h;obtain ⟨u,b,i,l⟩:=PR.then_eq_ok h;obtain ⟨a,c,f,k⟩:=PR.then_eq_ok l;obtain ⟨m,d,j,g⟩:=PR.then_eq_ok k;cases g;have:=(need_ok i).2.2;have:=binE_short f;have:=(need_ok j).2.2;omega
theorem open_short {d:Int} {ts:List Tk} {u:Unit} {r:List Tk} (h:openP L d ts=.ok u r):r.length+1=ts.length:=by
 unfold openP at h;obtain ⟨a,b,f,c⟩:=PR.then_eq_ok h;split at c
 · cases c
 · cases c
   exact (need_ok f).2.2
theorem change_short {n:Nat} {t:Tk} {ts:List Tk} {s:St} {r:List Tk} (h:changeP fnd L n t ts=.ok s r):r.length<ts.length:=by
 unfold changeP at h;obtain ⟨u,b,p,f⟩:=PR.then_eq_ok h;have:=(need_ok p).2.2;split at f
 · rename_i i1
   have:=isT_tail i1;obtain ⟨u1,B,l,o⟩:=PR.then_eq_ok f;obtain ⟨u2,z,m,y⟩:=PR.then_eq_ok o;obtain ⟨u3,A,v,k⟩:=PR.then_eq_ok y;obtain ⟨u4,q,g,a⟩:=PR.then_eq_ok k;obtain ⟨u5,x,d,c⟩:=PR.then_eq_ok a;obtain ⟨u6,C,i,j⟩:=PR.then_eq_ok c;cases j;have:=(need_ok l).2.2;have:=name_ok m;have:=(need_ok v).2.2;have:=binE_short g;have:=(need_ok d).2.2;have:=(need_ok i).2.2;omega
 · obtain ⟨u4, q, g, a⟩ := PR.then_eq_ok f
   obtain ⟨u5,x,d,c⟩:=PR.then_eq_ok a;cases c;have:=binE_short g;have:=(need_ok d).2.2;omega
theorem stmt_short:∀ n:Nat,
 (∀ d ts s r,stmtP fnd L n d ts=.ok s r->r.length<ts.length) /\
 (∀ d acc ts l r,restP fnd L n d acc ts=.ok l r->r.length<ts.length):=by
 intro n;induction n with
 | zero=>exact ⟨fun d ts s r h=>by simp [stmtP] at h,fun d acc ts l r h=>by simp [restP] at h⟩
 | succ n ih =>
   obtain ⟨B,k⟩:=ih;refine ⟨fun d ts s r h=>?_,fun d acc ts l r h=>?_⟩
   · cases ts with
     | nil=>simp [stmtP] at h
     | cons t q =>
       simp only [stmtP] at h;rw [List.length_cons];split at h
       · have:=change_short h;omega
       split at h
       · obtain ⟨u1, o, f, c⟩ := PR.then_eq_ok h
         obtain ⟨u2,v,g,i⟩:=PR.then_eq_ok c;obtain ⟨u3,x,m,j⟩:=PR.then_eq_ok i;have:=paren_short f;have:=open_short g;have:=k _ _ _ _ _ m;split at j
         · rename_i hi
           have:=isT_tail hi;obtain ⟨u4,C,A,y⟩:=PR.then_eq_ok j;obtain ⟨u5,D,z,p⟩:=PR.then_eq_ok y;have:=open_short A;have:=k _ _ _ _ _ z;cases p;omega
         · cases j;omega
       split at h
       · obtain ⟨u1, o, f, c⟩ := PR.then_eq_ok h
         obtain ⟨u2,v,g,i⟩:=PR.then_eq_ok c;obtain ⟨u3,x,m,j⟩:=PR.then_eq_ok i;have:=paren_short f;have:=open_short g;have:=k _ _ _ _ _ m;cases j;omega
       split at h
       · obtain ⟨u1, o, f, c⟩ := PR.then_eq_ok h
         obtain ⟨u2,v,g,i⟩:=PR.then_eq_ok c;obtain ⟨u3,x,m,j⟩:=PR.then_eq_ok i;have:=name_ok f;have:=open_short g;have:=k _ _ _ _ _ m;cases j;omega
       split at h
       · obtain ⟨u1, o, f, c⟩ := PR.then_eq_ok h
         obtain ⟨u2,v,g,i⟩:=PR.then_eq_ok c;have:=binE_short f;have:=(need_ok g).2.2;cases i;omega
       split at h
       · obtain ⟨u1, o, f, c⟩ := PR.then_eq_ok h
         have:=(need_ok f).2.2;cases c;omega
       · cases h
   · simp only [restP] at h
     split at h
     · rename_i hi
       cases h;have:=isT_tail hi;omega
     · obtain ⟨a, b, f, c⟩ := PR.then_eq_ok h
       have:=B _ _ _ _ f;have:=k _ _ _ _ _ c;omega
theorem stmtP_short {n:Nat} {d:Int} {ts:List Tk} {s:St} {r:List Tk} (h:stmtP fnd L n d ts=.ok s r):r.length<ts.length:=(stmt_short n).1 _ _ _ _ h
theorem restP_short {n:Nat} {d:Int} {acc:List St} {ts:List Tk} {l:List St} {r:List Tk} (h:restP fnd L n d acc ts=.ok l r):r.length<ts.length:=(stmt_short n).2 _ _ _ _ _ h
theorem locals_short:∀ (n:Nat) (acc:List Dc) (ts:List Tk) (l:List Dc) (r:List Tk),localsP L n acc ts=.ok l r->r.length<=ts.length
 | 0,acc,ts,l,r,h=>by simp [localsP] at h
 | n + 1, acc, ts, l, r, h => by
   simp only [localsP] at h
   split at h
   · rename_i hi
     have:=isT_tail hi
     obtain ⟨a,b,h1,h2⟩:=PR.then_eq_ok h
     have:=list_short (L:=L) (fun _ _ _ h=>nameP_short h) n _ _ _ _ h1
     have:=locals_short n _ _ _ _ h2
     omega
   · cases h;exact Nat.le_refl _
theorem thread_short {n:Nat} {ts:List Tk} {t:Th} {r:List Tk} (h:threadP fnd L n ts=.ok t r):r.length<ts.length:=by
 unfold threadP at h;obtain ⟨u1,o,d,j⟩:=PR.then_eq_ok h;obtain ⟨u2,k,a,i⟩:=PR.then_eq_ok j;obtain ⟨u3,m,f,b⟩:=PR.then_eq_ok i;obtain ⟨u4,l,g,c⟩:=PR.then_eq_ok b;cases c;have:=name_ok d;have:=open_short a;have:=locals_short _ _ _ _ _ f;have:=restP_short g;omega
end
set_option linter.unusedVariables false
mutual
def Ex.bare:Ex->Ex
 | .mk k o w n ks _=>.mk k o w n (exsBare ks) 0
def exsBare:List Ex->List Ex
 | []=>[]
 | e::r=>e.bare::exsBare r
end
mutual
def St.bare:St->St
 | .mk k n o e b l _=>.mk k n o (exsBare e) (stsBare b) (stsBare l) 0
def stsBare:List St->List St
 | []=>[]
 | e::r=>e.bare::stsBare r
end
def Dc.bare (d:Dc):Dc:=⟨d.name,d.wd,0⟩
def Th.bare (t:Th):Th:=⟨t.name,t.locals.map Dc.bare,stsBare t.body,0⟩
def Pg.bare (p:Pg):Pg:=⟨p.shared.map Dc.bare,p.locks.map Dc.bare,p.threads.map Th.bare⟩
section
variable {fnd:Bs->Int × Bool} {L L':Int}
end
open Go.RowKit
set_option linter.unusedVariables false
mutual
def exIn (R:Nat->Prop) (w:World):Ex->Nat->Nat->Prop
 | .mk k o wd nm ks p, b, off =>
   w.cell? ⟨b,off,none⟩=some (.int .u8 k)/\w.cell? ⟨b,off+1,none⟩=some (.int .u8 o)/\w.cell? ⟨b,off+2,none⟩=some (.int .i64 wd)/\w.cell? ⟨b,off+3,none⟩=some (.string nm) /\
   (∃ a cap,w.cell? ⟨b,off+4,none⟩=some (.slice a ks.length cap)/\(ks.isEmpty=true\/∃ g q,a=some ⟨g,q,none⟩/\R g/\exsIn R w ks g q))/\w.cell? ⟨b,off+5,none⟩=some (.int .i64 p)
def exsIn (R:Nat->Prop) (w:World):List Ex->Nat->Nat->Prop
 | [],_,_=>True
 | e::r,b,off=>exIn R w e b off/\exsIn R w r b (off+6)
end
def exsAt (R:Nat->Prop) (w:World) (l:List Ex) (a:Option Addr):Prop:=l.isEmpty=true\/∃ g q,a=some ⟨g,q,none⟩/\R g/\exsIn R w l g q
mutual
def stIn (R:Nat->Prop) (w:World):St->Nat->Nat->Prop
 | .mk k n o e b l p, g, off =>
   w.cell? ⟨g,off,none⟩=some (.int .u8 k)/\w.cell? ⟨g,off+1,none⟩=some (.string n)/\w.cell? ⟨g,off+2,none⟩=some (.string o) /\
   (∃ a cap,w.cell? ⟨g,off+3,none⟩=some (.slice a e.length cap)/\exsAt R w e a) /\
   (∃ a cap,w.cell? ⟨g,off+4,none⟩=some (.slice a b.length cap)/\(b.isEmpty=true\/∃ g q,a=some ⟨g,q,none⟩/\R g/\stsIn R w b g q)) /\
   (∃ a cap,w.cell? ⟨g,off+5,none⟩=some (.slice a l.length cap)/\(l.isEmpty=true\/∃ g q,a=some ⟨g,q,none⟩/\R g/\stsIn R w l g q))/\w.cell? ⟨g,off+6,none⟩=some (.int .i64 p)
def stsIn (R:Nat->Prop) (w:World):List St->Nat->Nat->Prop
 | [],_,_=>True
 | s::r,b,off=>stIn R w s b off/\stsIn R w r b (off+7)
end
def stsAt (R:Nat->Prop) (w:World) (l:List St) (a:Option Addr):Prop:=l.isEmpty=true\/∃ g q,a=some ⟨g,q,none⟩/\R g/\stsIn R w l g q
def dcIn (w:World) (d:Dc) (b off:Nat):Prop:=w.cell? ⟨b,off,none⟩=some (.string d.name)/\w.cell? ⟨b,off+1,none⟩=some (.int .i64 d.wd)/\w.cell? ⟨b,off+2,none⟩=some (.int .i64 d.pos)
def dcsIn (w:World):List Dc->Nat->Nat->Prop
 | [],_,_=>True
 | d::r,b,off=>dcIn w d b off/\dcsIn w r b (off+3)
def dcsAt (R:Nat->Prop) (w:World) (l:List Dc) (a:Option Addr):Prop:=l.isEmpty=true\/∃ g q,a=some ⟨g,q,none⟩/\R g/\dcsIn w l g q
def thIn (R:Nat->Prop) (w:World) (t:Th) (b off:Nat):Prop :=
 w.cell? ⟨b,off,none⟩=some (.string t.name)/\(∃ a cap,w.cell? ⟨b,off+1,none⟩=some (.slice a t.locals.length cap)/\dcsAt R w t.locals a) /\
 (∃ a cap,w.cell? ⟨b,off+2,none⟩=some (.slice a t.body.length cap)/\stsAt R w t.body a)/\w.cell? ⟨b,off+3,none⟩=some (.int .i64 t.pos)
def thsIn (R:Nat->Prop) (w:World):List Th->Nat->Nat->Prop
 | [],_,_=>True
 | t::r,b,off=>thIn R w t b off/\thsIn R w r b (off+4)
def thsAt (R:Nat->Prop) (w:World) (l:List Th) (a:Option Addr):Prop:=l.isEmpty=true\/∃ g q,a=some ⟨g,q,none⟩/\R g/\thsIn R w l g q
def Stays (R:Nat->Prop) (w w':World):Prop:=∀ b o v,R b->w.cell? ⟨b,o,none⟩=some v->w'.cell? ⟨b,o,none⟩=some v
theorem Stays.refl (R:Nat->Prop) (w:World):Stays R w w:=fun _ _ _ _ h=>h
theorem Stays.trans {R:Nat->Prop} {a b c:World} (h:Stays R a b) (k:Stays R b c):Stays R a c:=fun g o v hg hv=>k g o v hg (h g o v hg hv)
section
variable {R R':Nat->Prop} {w w':World}
theorem exsIn_stays (hw:Stays R w w') (hm:∀ b,R b->R' b):∀ (l:List Ex) (b off:Nat),R b->exsIn R w l b off->exsIn R' w' l b off:=by
 intro l;induction l using Exs.ind with
 | h0=>intro b off _ _;exact trivial
 | h1 k o wd nm ks p r ih1 ih2 =>
   intro b off c h;obtain ⟨⟨t,v,s,j,⟨a,d,m,f⟩,x⟩,n⟩:=h;refine ⟨⟨hw _ _ _ c t,hw _ _ _ c v,hw _ _ _ c s,hw _ _ _ c j,⟨a,d,hw _ _ _ c m,?_⟩,hw _ _ _ c x⟩,ih2 b _ c n⟩;rcases f with f | ⟨g,q,rfl,i,y⟩
   · exact .inl f
   · exact .inr ⟨g,q,rfl,hm g i,ih1 g q i y⟩
theorem exsAt_stays (hw:Stays R w w') (hm:∀ b,R b->R' b) {l:List Ex} {a:Option Addr} (h:exsAt R w l a):exsAt R' w' l a:=by
 rcases h with h | ⟨g,q,rfl,c,d⟩
 · exact .inl h
 · exact .inr ⟨g,q,rfl,hm g c,exsIn_stays hw hm l g q c d⟩
theorem stsIn_stays (hw:Stays R w w') (hm:∀ b,R b->R' b):∀ (l:List St) (b off:Nat),R b->stsIn R w l b off->stsIn R' w' l b off:=by
 intro l;induction l using Sts.ind with
 | h0=>intro b off _ _;exact trivial
 | h1 k n o e bd el p r ih1 ih2 ih3 =>
   intro b off a h;obtain ⟨⟨E,F,C,⟨x,d,t,z⟩,⟨v,c,y,m⟩,⟨B,i,G,j⟩,D⟩,A⟩:=h;refine ⟨⟨hw _ _ _ a E,hw _ _ _ a F,hw _ _ _ a C,⟨x,d,hw _ _ _ a t,exsAt_stays hw hm z⟩,⟨v,c,hw _ _ _ a y,?_⟩,⟨B,i,hw _ _ _ a G,?_⟩,hw _ _ _ a D⟩,ih3 b _ a A⟩
   · rcases m with m | ⟨g, q, rfl, f, s⟩
     · exact .inl m
     · exact .inr ⟨g,q,rfl,hm g f,ih1 g q f s⟩
   · rcases j with j | ⟨g, q, rfl, f, s⟩
     · exact .inl j
     · exact .inr ⟨g,q,rfl,hm g f,ih2 g q f s⟩
theorem stsAt_stays (hw:Stays R w w') (hm:∀ b,R b->R' b) {l:List St} {a:Option Addr} (h:stsAt R w l a):stsAt R' w' l a:=by
 rcases h with h | ⟨g,q,rfl,c,d⟩
 · exact .inl h
 · exact .inr ⟨g,q,rfl,hm g c,stsIn_stays hw hm l g q c d⟩
theorem dcsIn_stays (hw:Stays R w w'):∀ (l:List Dc) (b off:Nat),R b->dcsIn w l b off->dcsIn w' l b off
 | [],_,_,_,_=>trivial
 | d::r,b,off,hb,⟨⟨c0,c1,c2⟩,hr⟩=>⟨⟨hw _ _ _ hb c0,hw _ _ _ hb c1,hw _ _ _ hb c2⟩,dcsIn_stays hw r b _ hb hr⟩
theorem dcsAt_stays (hw:Stays R w w') (hm:∀ b,R b->R' b) {l:List Dc} {a:Option Addr} (h:dcsAt R w l a):dcsAt R' w' l a:=by
 rcases h with h | ⟨g,q,rfl,c,d⟩
 · exact .inl h
 · exact .inr ⟨g,q,rfl,hm g c,dcsIn_stays hw l g q c d⟩
theorem thsIn_stays (hw:Stays R w w') (hm:∀ b,R b->R' b):∀ (l:List Th) (b off:Nat),R b->thsIn R w l b off->thsIn R' w' l b off
 | [],_,_,_,_=>trivial
 | t :: r, b, off, hb, ⟨⟨c0, ⟨a1, cap1, c1, h1⟩, ⟨a2, cap2, c2, h2⟩, c3⟩, hr⟩ =>
   ⟨⟨hw _ _ _ hb c0,⟨a1,cap1,hw _ _ _ hb c1,dcsAt_stays hw hm h1⟩,⟨a2,cap2,hw _ _ _ hb c2,stsAt_stays hw hm h2⟩,hw _ _ _ hb c3⟩,thsIn_stays hw hm r b _ hb hr⟩
theorem thsAt_stays (hw:Stays R w w') (hm:∀ b,R b->R' b) {l:List Th} {a:Option Addr} (h:thsAt R w l a):thsAt R' w' l a:=by
 rcases h with h | ⟨g,q,rfl,c,d⟩
 · exact .inl h
 · exact .inr ⟨g,q,rfl,hm g c,thsIn_stays hw hm l g q c d⟩
end
theorem cell_lt {w:World} {a:Addr} {v:Value} (h:w.cell? a=some v):a.block<w.heap.size:=by
 apply Nat.lt_of_not_le;intro b;simp [World.cell?,Array.getElem?_eq_none b] at h
theorem exsAt_in {R:Nat->Prop} {w:World} {l:List Ex} {a:Option Addr} (h:exsAt R w l a):exsAt (fun b=>R b/\b<w.heap.size) w l a:=by
 have m:∀ (l:List Ex) (b c:Nat),exsIn R w l b c->exsIn (fun b=>R b/\b<w.heap.size) w l b c:=by
  intro l;induction l using Exs.ind with
  | h0=>intro b c _;exact trivial
  | h1 k o wd nm ks p r ih1 ih2 =>
    intro b c h;obtain ⟨⟨C,D,B,v,⟨a,f,z,j⟩,E⟩,A⟩:=h;refine ⟨⟨C,D,B,v,⟨a,f,z,?_⟩,E⟩,ih2 b _ A⟩;rcases j with j | ⟨g,q,rfl,t,d⟩
    · exact .inl j
    · cases ks with
      | nil=>exact .inl rfl
      | cons x xs =>
        refine .inr ⟨g,q,rfl,⟨t,?_⟩,ih1 g q d⟩;obtain ⟨y,F,i,s,n,G⟩:=x;exact cell_lt d.1.1
 rcases h with h | ⟨g,q,rfl,t,d⟩
 · exact .inl h
 · cases l with
   | nil=>exact .inl rfl
   | cons x xs =>
     refine .inr ⟨g,q,rfl,⟨t,?_⟩,m _ g q d⟩;obtain ⟨y,F,i,s,n,G⟩:=x;exact cell_lt d.1.1
theorem exsAt_mono {R R':Nat->Prop} {w:World} {l:List Ex} {a:Option Addr} (h:exsAt R w l a) (hm:∀ b,R b->R' b):exsAt R' w l a:=exsAt_stays (Stays.refl R w) hm h
theorem exsIn_get {R:Nat->Prop} {w:World} : ∀ {l:List Ex} {b off:Nat} (i:Nat) (x:Ex),exsIn R w l b off->l[i]? = some x->exIn R w x b (off+i*6)
 | e::r,b,off,0,x,h,hx=>by cases hx;exact h.1
 | e :: r, b, off, i + 1, x, h, hx => by
   have:=exsIn_get i x h.2 hx
   rw [show off+(i+1)*6=off+6+i*6 by omega];exact this
theorem stsIn_get {R:Nat->Prop} {w:World} : ∀ {l:List St} {b off:Nat} (i:Nat) (x:St),stsIn R w l b off->l[i]? = some x->stIn R w x b (off+i*7)
 | e::r,b,off,0,x,h,hx=>by cases hx;exact h.1
 | e :: r, b, off, i + 1, x, h, hx => by
   have:=stsIn_get i x h.2 hx
   rw [show off+(i+1)*7=off+7+i*7 by omega];exact this
theorem dcsIn_get {w:World} : ∀ {l:List Dc} {b off:Nat} (i:Nat) (x:Dc),dcsIn w l b off->l[i]? = some x->dcIn w x b (off+i*3)
 | e::r,b,off,0,x,h,hx=>by cases hx;exact h.1
 | e :: r, b, off, i + 1, x, h, hx => by
   have:=dcsIn_get i x h.2 hx
   rw [show off+(i+1)*3=off+3+i*3 by omega];exact this
theorem thsIn_get {R:Nat->Prop} {w:World} : ∀ {l:List Th} {b off:Nat} (i:Nat) (x:Th),thsIn R w l b off->l[i]? = some x->thIn R w x b (off+i*4)
 | e::r,b,off,0,x,h,hx=>by cases hx;exact h.1
 | e :: r, b, off, i + 1, x, h, hx => by
   have:=thsIn_get i x h.2 hx
   rw [show off+(i+1)*4=off+4+i*4 by omega];exact this
def exCells (e:Ex) (a:Option Addr) (cap:Nat):List Value:=[.int .u8 e.kind,.int .u8 e.op,.int .i64 e.wd,.string e.name,.slice a e.kids.length cap,.int .i64 e.pos]
def stCells (s:St) (a3:Option Addr) (c3:Nat) (a4:Option Addr) (c4:Nat) (a5:Option Addr) (c5:Nat):List Value:=[.int .u8 s.kind,.string s.name,.string s.other,.slice a3 s.e.length c3,.slice a4 s.body.length c4,.slice a5 s.els.length c5,.int .i64 s.pos]
def dcCells (d:Dc):List Value:=[.string d.name,.int .i64 d.wd,.int .i64 d.pos]
def thCells (t:Th) (a1:Option Addr) (c1:Nat) (a2:Option Addr) (c2:Nat):List Value:=[.string t.name,.slice a1 t.locals.length c1,.slice a2 t.body.length c2,.int .i64 t.pos]
def exV (R:Nat->Prop) (w:World) (e:Ex) (vs:List Value):Prop:=∃ a cap,vs=exCells e a cap/\exsAt R w e.kids a
def stV (R:Nat->Prop) (w:World) (s:St) (vs:List Value):Prop:=∃ a3 c3 a4 c4 a5 c5,vs=stCells s a3 c3 a4 c4 a5 c5/\exsAt R w s.e a3/\stsAt R w s.body a4/\stsAt R w s.els a5
def thV (R:Nat->Prop) (w:World) (t:Th) (vs:List Value):Prop:=∃ a1 c1 a2 c2,vs=thCells t a1 c1 a2 c2/\dcsAt R w t.locals a1/\stsAt R w t.body a2
theorem stV_stays {R R':Nat->Prop} {w w':World} (hw:Stays R w w') (hm:∀ b,R b->R' b) {e:St} {vs:List Value} (h:stV R w e vs):stV R' w' e vs:=by
 obtain ⟨i,d,g,k,j,c,rfl,a,l,f⟩:=h;exact ⟨i,d,g,k,j,c,rfl,exsAt_stays hw hm a,stsAt_stays hw hm l,stsAt_stays hw hm f⟩
theorem thV_stays {R R':Nat->Prop} {w w':World} (hw:Stays R w w') (hm:∀ b,R b->R' b) {e:Th} {vs:List Value} (h:thV R w e vs):thV R' w' e vs:=by
 obtain ⟨f,c,d,g,rfl,a,i⟩:=h;exact ⟨f,c,d,g,rfl,dcsAt_stays hw hm a,stsAt_stays hw hm i⟩
def cellsIn (w:World) (b off:Nat) (vs:List Value):Prop:=∀ j v,vs[j]? = some v->w.cell? ⟨b,off+j,none⟩=some v
theorem exIn_of {R:Nat->Prop} {w:World} {e:Ex} {vs:List Value} {b off:Nat} (h:exV R w e vs) (hc:cellsIn w b off vs):exIn R w e b off:=by
 obtain ⟨a,c,rfl,h⟩:=h;obtain ⟨k,o,wd,f,d,p⟩:=e;exact ⟨hc 0 _ rfl,hc 1 _ rfl,hc 2 _ rfl,hc 3 _ rfl,⟨a,c,hc 4 _ rfl,h⟩,hc 5 _ rfl⟩
theorem stIn_of {R:Nat->Prop} {w:World} {e:St} {vs:List Value} {b off:Nat} (h:stV R w e vs) (hc:cellsIn w b off vs):stIn R w e b off:=by
 obtain ⟨i,d,g,l,j,c,rfl,a,m,f⟩:=h;obtain ⟨k,n,o,e,r,q,p⟩:=e;exact ⟨hc 0 _ rfl,hc 1 _ rfl,hc 2 _ rfl,⟨i,d,hc 3 _ rfl,a⟩,⟨g,l,hc 4 _ rfl,m⟩,⟨j,c,hc 5 _ rfl,f⟩,hc 6 _ rfl⟩
theorem thIn_of {R:Nat->Prop} {w:World} {e:Th} {vs:List Value} {b off:Nat} (h:thV R w e vs) (hc:cellsIn w b off vs):thIn R w e b off:=by
 obtain ⟨f,c,d,g,rfl,a,i⟩:=h;exact ⟨hc 0 _ rfl,⟨f,c,hc 1 _ rfl,a⟩,⟨d,g,hc 2 _ rfl,i⟩,hc 3 _ rfl⟩
theorem dcIn_of {w:World} {d:Dc} {b off:Nat} (hc:cellsIn w b off (dcCells d)):dcIn w d b off:=⟨hc 0 _ rfl,hc 1 _ rfl,hc 2 _ rfl⟩
theorem cellsIn_app {w:World} {b off:Nat} {xs ys:List Value} (h:cellsIn w b off (xs++ys)):cellsIn w b off xs/\cellsIn w b (off+xs.length) ys:=by
 refine ⟨fun j v hj=>h j v ?_,fun j v hj=>?_⟩
 · rw [List.getElem?_append_left (List.getElem?_eq_some_iff.1 hj).1];exact hj
 · have := h (xs.length + j) v (by rw [List.getElem?_append_right (by omega)]; simpa using hj)
   rw [<- Nat.add_assoc] at this;exact this
def stsV (R:Nat->Prop) (w:World):List St->List Value->Prop
 | [],xs=>xs=[]
 | e::r,xs=>∃ vs ys,xs=vs++ys/\stV R w e vs/\stsV R w r ys
def thsV (R:Nat->Prop) (w:World):List Th->List Value->Prop
 | [],xs=>xs=[]
 | e::r,xs=>∃ vs ys,xs=vs++ys/\thV R w e vs/\thsV R w r ys
def dcsL (l:List Dc):List Value:=l.flatMap dcCells
section
variable {R R':Nat->Prop} {w w':World}
theorem stsV_snoc:∀ {l:List St} {xs vs:List Value} {e:St},stsV R w l xs->stV R w e vs->stsV R w (l++[e]) (xs++vs)
 | [],xs,vs,e,h,he=>by cases h;exact ⟨vs,[],by simp,he,rfl⟩
 | x::r,xs,vs,e,⟨us,ys,h1,h2,h3⟩,he=>⟨us,ys++vs,by rw [h1,List.append_assoc],h2,stsV_snoc h3 he⟩
theorem thsV_snoc:∀ {l:List Th} {xs vs:List Value} {e:Th},thsV R w l xs->thV R w e vs->thsV R w (l++[e]) (xs++vs)
 | [],xs,vs,e,h,he=>by cases h;exact ⟨vs,[],by simp,he,rfl⟩
 | x::r,xs,vs,e,⟨us,ys,h1,h2,h3⟩,he=>⟨us,ys++vs,by rw [h1,List.append_assoc],h2,thsV_snoc h3 he⟩
theorem stsV_stays (hw:Stays R w w') (hm:∀ b,R b->R' b):∀ {l:List St} {xs:List Value},stsV R w l xs->stsV R' w' l xs
 | [],xs,h=>h
 | x::r,xs,⟨us,ys,h1,h2,h3⟩=>⟨us,ys,h1,stV_stays hw hm h2,stsV_stays hw hm h3⟩
theorem thsV_stays (hw:Stays R w w') (hm:∀ b,R b->R' b):∀ {l:List Th} {xs:List Value},thsV R w l xs->thsV R' w' l xs
 | [],xs,h=>h
 | x::r,xs,⟨us,ys,h1,h2,h3⟩=>⟨us,ys,h1,thV_stays hw hm h2,thsV_stays hw hm h3⟩
theorem stV_len {e:St} {vs:List Value} (h:stV R w e vs):vs.length=7:=by obtain ⟨d,b,c,g,f,a,rfl,_⟩:=h;rfl
theorem thV_len {e:Th} {vs:List Value} (h:thV R w e vs):vs.length=4:=by obtain ⟨c,a,b,d,rfl,_⟩:=h;rfl
theorem stsIn_of:∀ {l:List St} {xs:List Value} {b off:Nat},stsV R w l xs->cellsIn w b off xs->stsIn R w l b off
 | [],xs,b,off,_,_=>trivial
 | x :: r, xs, b, off, ⟨us, ys, h1, h2, h3⟩, hc => by
   subst h1
   obtain ⟨k1,k2⟩:=cellsIn_app hc
   rw [stV_len h2] at k2
   exact ⟨stIn_of h2 k1,stsIn_of h3 k2⟩
theorem thsIn_of:∀ {l:List Th} {xs:List Value} {b off:Nat},thsV R w l xs->cellsIn w b off xs->thsIn R w l b off
 | [],xs,b,off,_,_=>trivial
 | x :: r, xs, b, off, ⟨us, ys, h1, h2, h3⟩, hc => by
   subst h1
   obtain ⟨k1,k2⟩:=cellsIn_app hc
   rw [thV_len h2] at k2
   exact ⟨thIn_of h2 k1,thsIn_of h3 k2⟩
theorem dcsIn_of:∀ {l:List Dc} {b off:Nat},cellsIn w b off (dcsL l)->dcsIn w l b off
 | [],b,off,_=>trivial
 | d :: r, b, off, hc => by
   obtain ⟨k1,k2⟩:=cellsIn_app (xs:=dcCells d) (ys:=dcsL r) (by simpa [dcsL] using hc)
   exact ⟨dcIn_of k1,dcsIn_of k2⟩
end
theorem dcsL_snoc (l:List Dc) (d:Dc):dcsL (l++[d])=dcsL l++dcCells d:=by simp [dcsL]
theorem dcsL_len:∀ l:List Dc,(dcsL l).length=l.length*3
 | []=>rfl
 | d :: r => by
   have:=dcsL_len r
   simp only [dcsL,List.flatMap_cons,List.length_append,List.length_cons] at this ⊢
   rw [this];simp [dcCells];omega
open Go.RowKit
set_option linter.unusedVariables false
def Res.tk (x:Res):Tk:=⟨x.kind,x.text,x.wd,x.place⟩
structure Par where
 X:Nat
 ta:Option Addr
 cap:Nat
 toks:List Res
 L:Nat
 D:Nat
 S:Nat
 O:Nat
 bm:Nat
 bn:Nat
def Par.ptr (c:Par):Value:=.pointer (some ⟨c.X,0,none⟩)
def Par.at (c:Par) (k:Nat):List Tk:=(c.toks.drop k).map Res.tk
def Par.declE (c:Par):List MapEntry:=[⟨.string ⟨#[115,104,97,114,101,100]⟩,.func (.func 92) #[c.ptr] #[],0⟩,⟨.string ⟨#[108,111,99,107]⟩,.func (.func 93) #[c.ptr] #[],1⟩]
def Par.stmtE (c:Par):List MapEntry:=[⟨.string ⟨#[105,102]⟩,.func (.func 94) #[c.ptr] #[],0⟩,⟨.string ⟨#[119,104,105,108,101]⟩,.func (.func 95) #[c.ptr] #[],1⟩,⟨.string ⟨#[108,111,99,107]⟩,.func (.func 96) #[c.ptr] #[],2⟩,⟨.string ⟨#[112,114,105,110,116]⟩,.func (.func 97) #[c.ptr] #[],3⟩,⟨.string ⟨#[115,107,105,112]⟩,.func (.func 98) #[c.ptr] #[],4⟩]
def Par.operE (c:Par):List MapEntry:=[⟨.string ⟨#[45]⟩,.func (.func 147) #[] #[.pointer (some ⟨c.bm,0,none⟩),.pointer (some ⟨c.bm+1,0,none⟩)],0⟩,⟨.string ⟨#[33]⟩,.func (.func 147) #[] #[.pointer (some ⟨c.bn,0,none⟩),.pointer (some ⟨c.bn+1,0,none⟩)],1⟩,⟨.string ⟨#[40]⟩,.func (.func 100) #[c.ptr] #[],2⟩]
structure RdS (c:Par) (w:World):Prop where
 tok:TokRow w (.slice c.ta c.toks.length c.cap) c.toks
 tne:∀ g off,c.ta=some ⟨g,off,none⟩->g≠c.X
 dm:w.heap[c.D]? = some (.map c.declE.toArray 2)
 sm:w.heap[c.S]? = some (.map c.stmtE.toArray 5)
 om:w.heap[c.O]? = some (.map c.operE.toArray 3)
 b1:w.heap[c.bm]? = some (.cells #[c.ptr] 54 (0,0))
 b2:w.heap[c.bm+1]? = some (.cells #[.int .u8 17] 43 (0,0))
 b3:w.heap[c.bn]? = some (.cells #[c.ptr] 54 (0,0))
 b4:w.heap[c.bn+1]? = some (.cells #[.int .u8 18] 43 (0,0))
 ne:c.D≠c.X/\c.S≠c.X/\c.O≠c.X/\c.bm≠c.X/\c.bm+1≠c.X/\c.bn≠c.X/\c.bn+1≠c.X
 tabs:Tabs w
 gne:1≠c.X/\5≠c.X
 small:c.toks.length<=65536/\c.L<=65536/\∀ x∈c.toks,0<=x.wd/\x.wd<=9223372036854775807
structure Rd (c:Par) (w:World) (k:Nat):Prop where
 s:RdS c w
 pos:w.heap[c.X]? = some (.cells #[.slice c.ta c.toks.length c.cap,.int .i64 (c.L:Int),.int .i64 (k:Int),.map (some c.D),.map (some c.S),.map (some c.O)] 95 (0,0))
 le:k<=c.toks.length
@[reducible] def Fr (c:Par) (w w':World):Prop:=Keep (fun k _=>k<w.heap.size/\k≠c.X) w w'
theorem Fr.refl (c:Par) (w:World):Fr c w w:=Keep.refl _ w
theorem Fr.trans {c:Par} {u v w:World} (h:Fr c u v) (k:Fr c v w):Fr c u w :=
 Keep.trans h (Keep.mono k fun b o hb=>⟨by have:=h.size;omega,hb.2⟩)
theorem Fr.of_below {c:Par} {w w':World} (h:Below w.heap.size w w'):Fr c w w':=Keep.of_below h
theorem Fr.alloc {c:Par} {w w':World} (h:Fr c w w') (o:Obj):Fr c w (w'.alloc o):=Keep.alloc h o
theorem Fr.cell {c:Par} {w w':World} (h:Fr c w w') {b o:Nat} (hb:b<w.heap.size) (hx:b≠c.X):w'.cell? ⟨b,o,none⟩=w.cell? ⟨b,o,none⟩:=by
 have a:w'.heap[b]? = w.heap[b]?:=by
  rw [h.block b _ (Array.getElem?_eq_getElem hb) ⟨hb,hx⟩,Array.getElem?_eq_getElem hb]
 simp only [World.cell?,a]
theorem Fr.block {c:Par} {w w':World} (h:Fr c w w') {b:Nat} {o:Obj} (hb:w.heap[b]? = some o) (hx:b≠c.X):w'.heap[b]? = some o :=
 Keep.block h b o hb ⟨(Array.getElem?_eq_some_iff.1 hb).1,hx⟩
theorem Fr.setX {c:Par} {w w':World} (h:Fr c w w') (v:Value) (j:Nat) {o:Obj} (ho:w'.heap[c.X]? = some o):Fr c w (w'.setCell ⟨c.X,j,none⟩ v) :=
 Keep.setCell h (p:=⟨c.X,j,none⟩) v ho (fun hs=>hs.2 rfl)
theorem RdS.keep {c:Par} {w w':World} (h:RdS c w) (k:Fr c w w'):RdS c w':=by
 obtain ⟨m,f,E,L,N,O,I,K,J,⟨z,o,p,q,A,C,v⟩,T,⟨s,r⟩,a⟩:=h;refine ⟨?_,f,k.block E z,k.block L o,k.block N p,k.block O q,k.block I A,k.block K C,k.block J v,⟨z,o,p,q,A,C,v⟩,?_,⟨s,r⟩,a⟩
 · obtain ⟨n, d, t, M⟩ := m
   refine ⟨n,d,t,fun i x b=>?_⟩
   obtain ⟨g,j,y,B,G,F,D⟩:=M i x b;have l:g<w.heap.size:=lt_of_at B;obtain ⟨rfl,_,_⟩:c.ta=n/\c.toks.length=c.toks.length/\c.cap=d:=by cases t;exact ⟨rfl,rfl,rfl⟩
   have b:=f g j y;exact ⟨g,j,y,(k.cell l b).trans B,(k.cell l b).trans G,(k.cell l b).trans F,(k.cell l b).trans D⟩
 · have P := T.size1
   have H:=T.size2;have:=Keep.size k;exact ⟨by omega,by omega,fun i hi=>(k.cell P s).trans (T.lev i hi),fun i hi=>(k.cell H r).trans (T.sgn i hi)⟩
theorem Rd.lt {c:Par} {w:World} {k:Nat} (h:Rd c w k):c.X<w.heap.size:=(Array.getElem?_eq_some_iff.1 h.pos).1
theorem Rd.below {c:Par} {w w':World} {k:Nat} (h:Rd c w k) (hb:Below w.heap.size w w'):Rd c w' k :=
 ⟨h.s.keep (.of_below hb),by rw [hb.block _ h.lt];exact h.pos,h.le⟩
theorem Rd.alloc {c:Par} {w:World} {k:Nat} (h:Rd c w k) (o:Obj):Rd c (w.alloc o) k:=h.below ((Below.refl _ w).alloc (Nat.le_refl _) o)
theorem Rd.step {c:Par} {w:World} {k:Nat} (h:Rd c w k) (hk:k<c.toks.length):Rd c (w.setCell ⟨c.X,2,none⟩ (.int .i64 ((k:Int)+1))) (k+1):=by
 refine ⟨h.s.keep ((Fr.refl c w).setX _ 2 h.pos),?_,hk⟩;have:=heap_setCell_same w c.X 2 _ _ (.int .i64 ((k:Int)+1)) h.pos;rw [this];rfl
theorem Rd.cells {c:Par} {w:World} {k:Nat} (h:Rd c w k) :
 (w.cell? ⟨c.X,0,none⟩=some (.slice c.ta c.toks.length c.cap)/\w.cell? ⟨c.X,1,none⟩=some (.int .i64 (c.L:Int))/\w.cell? ⟨c.X,2,none⟩=some (.int .i64 (k:Int)) /\
  w.cell? ⟨c.X,3,none⟩=some (.map (some c.D))/\w.cell? ⟨c.X,4,none⟩=some (.map (some c.S))/\w.cell? ⟨c.X,5,none⟩=some (.map (some c.O)))/\(∀ o,w.frozen? ⟨c.X,o,none⟩=false):=by
 refine ⟨⟨?_,?_,?_,?_,?_,?_⟩,fun o=>?_⟩
 · rw [cell_of_row w c.X 0 _ _ _ h.pos];rfl
 · rw [cell_of_row w c.X 1 _ _ _ h.pos];rfl
 · rw [cell_of_row w c.X 2 _ _ _ h.pos];rfl
 · rw [cell_of_row w c.X 3 _ _ _ h.pos];rfl
 · rw [cell_of_row w c.X 4 _ _ _ h.pos];rfl
 · rw [cell_of_row w c.X 5 _ _ _ h.pos];rfl
 · simp [World.frozen?,h.pos]
def Par.nx (c:Par) (k:Nat):Tk:=match c.at k with | []=>⟨0,⟨#[]⟩,0,c.L⟩ | t::_=>t
def tkV (t:Tk):Value:=.agg #[.int .u8 t.kind,.string t.text,.int .i64 t.wd,.int .i64 t.pos]
theorem Par.at_lt {c:Par} {k:Nat} (h:k<c.toks.length):c.at k=(c.toks[k]).tk::c.at (k+1):=by
 unfold Par.at;rw [List.drop_eq_getElem_cons h];rfl
theorem Par.at_end {c:Par} {k:Nat} (h:c.toks.length<=k):c.at k=[]:=by
 unfold Par.at;rw [List.drop_of_length_le h];rfl
theorem Par.at_tail {c:Par} {k:Nat} : (c.at k).tail=c.at (k+1):=by
 by_cases h:k<c.toks.length
 · rw [Par.at_lt h];rfl
 · rw [Par.at_end (by omega),Par.at_end (by omega)];rfl
theorem Par.at_len (c:Par) (k:Nat):(c.at k).length=c.toks.length-k:=by simp [Par.at]
theorem Par.nx_pos (c:Par) (k:Nat):(c.nx k).pos=hdP c.L (c.at k):=by
 unfold Par.nx;cases c.at k <;> rfl
theorem Par.isT_nx (c:Par) (k:Nat) {s:Bs} (hs:s≠[]):isT s (c.at k)=((c.nx k).tx==s):=by
 unfold Par.nx;cases c.at k with
 | nil => cases s with
   | nil=>exact absurd rfl hs
   | cons a b=>rfl
 | cons t r=>rfl
theorem Par.isT_lt {c:Par} {k:Nat} {s:Bs} (h:isT s (c.at k)=true):k<c.toks.length:=by
 apply Nat.lt_of_not_le;intro a;rw [Par.at_end a] at h;cases h
def flt (p r:Int):List PanicEntry:=[{ v:=.iface 29 (.agg #[.int .i64 p,.int .i64 r]),recovered:=false }]
def RdPost {α:Type} (c:Par) (w:World) (x:PR α) (V:α->Value->World->Prop) (e:Ending) (w':World):Prop :=
 Fr c w w'/\match x with
  | .ok a r=>∃ v k,e=.returned v/\V a v w'/\Rd c w' k/\r=c.at k
  | .bad p q=>e=.panicked (flt p q)
def lookE (s:Bs):List MapEntry->Value
 | []=>.nilFunc
 | e :: r => match e.key with
   | .string t=>if s=t.data.toList then e.val else lookE s r
   | _=>lookE s r
theorem findNow_str (s:ByteArray):∀ (es:List MapEntry) (i:Nat),(∀ e∈es,∃ t,e.key=.string t) ->
 (∃ j v,Instr.findNow .string (.string s) es i=some (some (j,v))/\v=lookE s.data.toList es)\/(Instr.findNow .string (.string s) es i=some none/\lookE s.data.toList es=.nilFunc)
 | [],i,_=>.inr ⟨rfl,rfl⟩
 | e :: r, i, h => by
   obtain ⟨t,ht⟩:=h e (.head _)
   by_cases hs:s.data.toList=t.data.toList
   · left
     refine ⟨i,e.val,?_,?_⟩
     · have hst : s = t := ByteArray.ext (Array.ext' hs)
       subst hst
       have hb:(s==s)=true:=(MapKept.bytes_beq s s).2 rfl
       simp only [Instr.findNow,ht,Instr.sameNow,hb]
     · simp only [lookE,ht];rw [if_pos hs]
   · have hb : (s == t) = false := by
      cases hq:s==t with
      | false=>rfl
      | true=>exact absurd (by rw [(MapKept.bytes_beq s t).1 hq]) hs
     have a:Instr.findNow .string (.string s) (e::r) i=Instr.findNow .string (.string s) r (i+1):=by
      simp only [Instr.findNow,ht,Instr.sameNow,hb]
     have b:lookE s.data.toList (e::r)=lookE s.data.toList r:=by simp only [lookE,ht];rw [if_neg hs]
     rw [a,b];exact findNow_str s r (i+1) (fun x hx=>h x (.tail _ hx))
theorem run_look {P:Program} {w:World} {t k e:TypeId} {b:Nat} {es:List MapEntry} {clock:Nat} (ht:P.underlying t=some (.map k e)) (hk:P.underlying k=some .string) (hz:(zeroValue e).run P w=.ok .nilFunc w)
 (hb:w.heap[b]? = some (.map es.toArray clock)) (he:∀ e∈es,∃ t,e.key=.string t) (s:ByteArray):(Instr.lookup t (.map (some b)) (.string s) false).run P w=.ok (lookE s.data.toList es) w:=by
 have a:∀ em,(Instr.checkKey em 10000 k (.string s)).run P w=.ok () w:=fun em=>MapKept.run_checkKey (d:=.string) hk (by simp [MapKept.IsKey]) em 9999
 rcases findNow_str s es 0 he with ⟨j,v,f,g⟩ | ⟨f,g⟩
 · have c := MapKept.run_findKey (w := w) hk f
   unfold Instr.lookup;simp [run_underlying ht,Result.andThen,MapKept.run_getObj_map hb,a,c,g]
 · have c := MapKept.run_findKey (w := w) hk f
   unfold Instr.lookup;simp [run_underlying ht,Result.andThen,MapKept.run_getObj_map hb,a,c,g,hz]
end Go.Proofs.YtbgfkdiihnidaaaGreatDoor

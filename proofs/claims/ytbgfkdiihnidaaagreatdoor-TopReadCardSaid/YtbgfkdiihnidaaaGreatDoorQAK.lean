import Derived.Test.YtbgfkdiihnidaaaGreatDoorQAD
import Derived.Test.YtbgfkdiihnidaaaGreatDoorQAJ
import Derived.Recover
import Derived.Tactics2
import Derived.RegionTactic
set_option maxRecDepth 100000
set_option maxHeartbeats 20000000
namespace Go.Proofs.YtbgfkdiihnidaaaGreatDoor
open Go.RowKit
set_option linter.unusedVariables false
def sk:Bool->List UInt8->Nat
 | _,[]=>0
 | true,c::r=>if c=10 then 1+sk false r else 1+sk true r
 | false,c::r=>if blankB (c.toNat:Int)=true then 1+sk false r else if c=47/\r.head? = some 47 then 1+sk true r else 0
theorem feed_not {c:UInt8} (h:¬ c=10):feedB (c.toNat:Int)=true:=by
 unfold feedB;exact b_t (fun e=>h (u8_int.1 (by simpa using e)))
theorem feed_no:feedB ((10:UInt8).toNat:Int)=false:=by decide
theorem sk_true:∀ l:List UInt8,sk true l=spanN feedB l+sk false (l.drop (spanN feedB l))
 | []=>rfl
 | c :: r => by
   have k:=sk_true r
   by_cases hc:c=10
   · subst hc
     have e:spanN feedB (10::r)=0:=by simp only [spanN];rw [if_neg (by rw [feed_no];decide)]
     rw [e,List.drop_zero]
     have a:blankB ((10:UInt8).toNat:Int)=true:=by decide
     simp only [sk]
     rw [if_pos a]
     simp
   · have e : spanN feedB (c :: r) = spanN feedB r + 1 := by simp only [spanN]; rw [if_pos (feed_not hc)]
     rw [e,List.drop_succ_cons]
     simp only [sk]
     rw [if_neg hc]
     omega
theorem pass_sk:∀ (n:Nat) (l:List UInt8),l.length<=n->passN l=sk false l
 | _,[],_=>rfl
 | 0,c::r,h=>by simp at h
 | n + 1, c :: r, h => by
   simp only [List.length_cons] at h
   by_cases hb:blankB (c.toNat:Int)=true
   · rw [pass_cons c r hb, pass_sk n r (by omega)]
     simp only [sk]
     rw [if_pos hb]
   · have hb' : blankB (c.toNat : Int) = false := by simpa using hb
     by_cases hp:Lib.hasPrefix (c::r) slashes=true
     · have f : c = 47 /\ r.head? = some 47 := by
        cases r with
        | nil=>rw [prefix_one] at hp;cases hp
        | cons d r=>rw [prefix_two] at hp;simpa using hp
       have b:¬ c=10:=by rw [f.1];decide
       have j:spanN feedB (c::r)=spanN feedB r+1:=by simp only [spanN];rw [if_pos (feed_not b)]
       rw [pass_remark hp,pass_sk n _ (by rw [j];simp;omega),<- sk_true]
       simp only [sk];rw [if_neg b,if_neg hb,if_pos f]
     · have a : Lib.hasPrefix (c :: r) slashes = false := by simpa using hp
       rw [pass_none rfl a hb'];simp only [sk];rw [if_neg hb,if_neg];rintro ⟨i,g⟩;cases r with
       | nil=>cases g
       | cons d r =>
         have:d=47:=by simpa using g
         rw [i,this,prefix_two] at a;revert a;decide
theorem passN_sk (l:List UInt8):passN l=sk false l:=pass_sk _ l (Nat.le_refl _)
theorem sk_in:∀ (b:Bool) (p X Y:List UInt8),sk b (p++X)<p.length->¬ Y.head? = some 47->sk b (p++Y)=sk b (p++X)
 | _,[],_,_,h,_=>by simp at h
 | true, c :: p, X, Y, h, hy => by
   simp only [List.cons_append,sk,List.length_cons] at h ⊢
   split
   · rename_i hc;rw [if_pos hc] at h;rw [sk_in false p X Y (by omega) hy]
   · rename_i hc;rw [if_neg hc] at h;rw [sk_in true p X Y (by omega) hy]
 | false, c :: p, X, Y, h, hy => by
   simp only [List.cons_append,sk,List.length_cons] at h ⊢
   by_cases hb:blankB (c.toNat:Int)=true
   · rw [if_pos hb] at h;rw [if_pos hb,if_pos hb,sk_in false p X Y (by omega) hy]
   · rw [if_neg hb] at h; rw [if_neg hb, if_neg hb]
     cases p with
     | nil =>
       simp only [List.nil_append,List.length_nil] at h ⊢
       by_cases h1:c=47/\X.head? = some 47
       · rw [if_pos h1] at h;omega
       · rw [if_neg h1,if_neg (fun h2=>hy h2.2)]
     | cons d p =>
       have k:∀ Z,(c=47/\(d::p++Z).head? = some 47)↔(c=47/\d=47):=fun Z=>by simp
       by_cases h1:c=47/\d=47
       · rw [if_pos ((k X).2 h1)] at h
         rw [if_pos ((k X).2 h1),if_pos ((k Y).2 h1)]
         rw [sk_in true (d::p) X Y (by omega) hy]
       · rw [if_neg (fun h2=>h1 ((k X).1 h2)),if_neg (fun h2=>h1 ((k Y).1 h2))]
structure Nx where
 kind:Int
 n:Nat
 wd:Int
 fa:Nat
 fr:Int
def letterH:List UInt8->Bool
 | []=>false
 | c::_=>letterB (c.toNat:Int)
def nameL (l:List UInt8):Nx :=
 if wordL (l.take (spanN namedB l))=true then ⟨2,spanN namedB l,0,0,0⟩ else if 32<spanN namedB l then ⟨0,0,0,32,2⟩ else ⟨1,spanN namedB l,0,0,0⟩
def numK (n:Nat) (b:Bool):Option Int->Nx
 | none=>⟨0,0,0,0,3⟩
 | some v=>if b=true then ⟨0,0,0,n,4⟩ else ⟨3,n,v,0,0⟩
def numL (l:List UInt8):Nx:=numK (spanN digitB l) (letterH (l.drop (spanN digitB l))) (valueO (l.take (spanN digitB l)))
def nextL:List UInt8->Nx
 | []=>⟨0,0,0,0,1⟩
 | c::r=>if letterB (c.toNat:Int)=true then nameL (c::r) else if digitB (c.toNat:Int)=true then numL (c::r) else if signB (c.toNat:Int)=true then ⟨4,aheadN (c::r),0,0,0⟩ else ⟨0,0,0,0,1⟩
def toRes (q:Nat) (l:List UInt8) (x:Nx):Res:=if x.fr=0 then ⟨x.kind,⟨(l.take x.n).toArray⟩,x.wd,q,0,0⟩ else ⟨0,⟨#[]⟩,0,0,((q+x.fa:Nat):Int),x.fr⟩
theorem cut_list (s:ByteArray) (q n:Nat):(s.extract q s.size).extract 0 n=⟨((bytesFrom s q).take n).toArray⟩:=by
 apply ByteArray.ext;apply Array.ext';rw [Lib.extract_data,tail_list];simp
theorem behind_list (s:ByteArray) (q:Nat):behindB s q=letterH ((bytesFrom s q).drop (spanN digitB (bytesFrom s q))):=by
 unfold behindB;rw [from_drop];by_cases h:q+spanN digitB (bytesFrom s q)<s.size
 · rw [from_at s _ h,decide_eq_true h,Bool.true_and,<- bt_byte s _ h];rfl
 · rw [decide_eq_false h,Bool.false_and,from_end s _ (by omega)];rfl
theorem nextR_list (s:ByteArray) (q:Nat) (hq:q<s.size):nextR s q=toRes q (bytesFrom s q) (nextL (bytesFrom s q)):=by
 have d:=from_len s q;have c:=spanN_le namedB (bytesFrom s q);have e:nextL (bytesFrom s q)=if letterB (PlainAid.bt s q)=true then nameL (bytesFrom s q) else if digitB (PlainAid.bt s q)=true then numL (bytesFrom s q) else if signB (PlainAid.bt s q)=true then ⟨4,aheadN (bytesFrom s q),0,0,0⟩ else ⟨0,0,0,0,1⟩:=by
  rw [<- bt_byte s q hq,from_at s q hq];rfl
 rw [e];unfold nextR;split
 · have b : (nameX s q).size = spanN namedB (bytesFrom s q) := extract_size s q _ (by omega) (by omega)
   have a:nameX s q=⟨((bytesFrom s q).take (spanN namedB (bytesFrom s q))).toArray⟩:=cut_list s q _;unfold nameR nameL;rw [wordB_list,Lib.toList_data,b,a];by_cases h1:wordL ((bytesFrom s q).take (spanN namedB (bytesFrom s q)))=true
   · rw [if_pos h1,if_pos h1];rfl
   · rw [if_neg h1, if_neg h1]
     by_cases h2:32<spanN namedB (bytesFrom s q)
     · rw [if_pos h2,if_pos h2];rfl
     · rw [if_neg h2,if_neg h2];rfl
 · split
   · have a : numX s q = ⟨((bytesFrom s q).take (spanN digitB (bytesFrom s q))).toArray⟩ := cut_list s q _
     unfold numR numL;rw [<- behind_list,a];cases hv:valueO ((bytesFrom s q).take (spanN digitB (bytesFrom s q))) with
     | none=>rfl
     | some v =>
       simp only [numC,numK];by_cases hb:behindB s q=true
       · rw [if_pos hb,if_pos hb];rfl
       · rw [if_neg hb,if_neg hb];rfl
   · split
     · have a : signX s q = ⟨((bytesFrom s q).take (aheadN (bytesFrom s q))).toArray⟩ := cut_list s q _
       unfold signR;rw [a];rfl
     · rfl
theorem ahead_pos {c:UInt8} {r:List UInt8} (h:signB (c.toNat:Int)=true):0<aheadN (c::r):=by
 unfold aheadN;split
 · omega
 · simp only [firstN];rw [if_pos h];omega
theorem nextL_good (l:List UInt8) (h:(nextL l).fr=0):0<(nextL l).n/\(nextL l).n<=l.length:=by
 cases l with
 | nil=>simp [nextL] at h
 | cons c r =>
   simp only [nextL] at h ⊢;split at h
   · rename_i h0
     rw [if_pos h0];have b:0<spanN namedB (c::r):=span_pos (by unfold namedB;rw [h0];rfl)
     have a:=spanN_le namedB (c::r)
     unfold nameL at h ⊢;split
     · exact ⟨b,a⟩
     · rename_i hw
       rw [if_neg hw] at h;split
       · rename_i h3;rw [if_pos h3] at h;simp at h
       · exact ⟨b,a⟩
   · rename_i h0
     rw [if_neg h0];split at h
     · rename_i h1
       rw [if_pos h1];have b:0<spanN digitB (c::r):=span_pos h1;have a:=spanN_le digitB (c::r)
       unfold numL at h ⊢;cases hv:valueO ((c::r).take (spanN digitB (c::r))) with
       | none=>rw [hv] at h;simp [numK] at h
       | some v =>
         rw [hv] at h;simp only [numK] at h ⊢;split
         · rename_i hb;rw [if_pos hb] at h;simp at h
         · exact ⟨b,a⟩
     · rename_i h1
       rw [if_neg h1];split at h
       · rename_i h2
         rw [if_pos h2];exact ⟨ahead_pos h2,ahead_le _⟩
       · simp at h
def goL:Nat->Nat->List UInt8->List Res × Int × Int
 | 0,_,_=>([],0,0)
 | f + 1, q, l => if l = [] then ([], 0, 0) else if (nextL l).fr = 0 then
     (toRes q l (nextL l)::(goL f (q+(nextL l).n+sk false (l.drop (nextL l).n)) ((l.drop (nextL l).n).drop (sk false (l.drop (nextL l).n)))).1,(goL f (q+(nextL l).n+sk false (l.drop (nextL l).n)) ((l.drop (nextL l).n).drop (sk false (l.drop (nextL l).n)))).2)
   else ([],((q+(nextL l).fa:Nat):Int),(nextL l).fr)
theorem toRes_fr (q:Nat) (l:List UInt8):(toRes q l (nextL l)).fr=(nextL l).fr:=by
 unfold toRes;split
 · rename_i h;exact h.symm
 · rfl
theorem goH_list (s:ByteArray):∀ (f q:Nat),goH s f q=goL f q (bytesFrom s q)
 | 0,q=>rfl
 | f + 1, q => by
   by_cases hq:q<s.size
   · have hne : ¬ bytesFrom s q = [] := by rw [from_at s q hq]; simp
     have b:=nextR_list s q hq
     simp only [goL]
     rw [if_neg hne]
     by_cases hf:(nextL (bytesFrom s q)).fr=0
     · have a : (nextR s q).fr = 0 := by rw [b, toRes_fr]; exact hf
       obtain ⟨_,d⟩:=nextL_good _ hf
       have c:(nextR s q).text.size=(nextL (bytesFrom s q)).n:=by
        rw [b];unfold toRes;rw [if_pos hf];show (((bytesFrom s q).take _).toArray).size=_;simp;omega
       have e:nx s q=q+(nextL (bytesFrom s q)).n+sk false ((bytesFrom s q).drop (nextL (bytesFrom s q)).n):=by
        unfold nx;rw [c,passN_sk,from_drop]
       rw [goH_tok hq a,if_pos hf,goH_list s f (nx s q),<- b,e,from_drop,from_drop]
     · have a : ¬ (nextR s q).fr = 0 := by rw [b, toRes_fr]; exact hf
       rw [goH_fault hq a,if_neg hf,b];unfold toRes;rw [if_neg hf]
   · rw [goH_end hq, from_end s q (by omega)]
     simp [goL]
theorem goL_more:∀ (f g q:Nat) (l:List UInt8),l.length<f->l.length<g->goL f q l=goL g q l
 | 0,_,_,_,h,_=>absurd h (Nat.not_lt_zero _)
 | _,0,_,_,_,h=>absurd h (Nat.not_lt_zero _)
 | f + 1, g + 1, q, l, hf, hg => by
   simp only [goL]
   by_cases h0:l=[]
   · rw [if_pos h0,if_pos h0]
   · rw [if_neg h0, if_neg h0]
     by_cases h1:(nextL l).fr=0
     · obtain ⟨g1, g2⟩ := nextL_good _ h1
       rw [if_pos h1,if_pos h1,goL_more f g _ _ (by simp;omega) (by simp;omega)]
     · rw [if_neg h1,if_neg h1]
def lexL (q:Nat) (l:List UInt8):List Res × Int × Int:=goL (l.length+1) q l
theorem lexL_fault {q:Nat} {l:List UInt8} (h0:¬ l=[]) (h:¬ (nextL l).fr=0):lexL q l=([],((q+(nextL l).fa:Nat):Int),(nextL l).fr):=by
 unfold lexL;simp only [goL];rw [if_neg h0,if_neg h]
theorem lexL_tok {q:Nat} {l:List UInt8} (h:(nextL l).fr=0):lexL q l=(toRes q l (nextL l)::(lexL (q+(nextL l).n+sk false (l.drop (nextL l).n)) ((l.drop (nextL l).n).drop (sk false (l.drop (nextL l).n)))).1,(lexL (q+(nextL l).n+sk false (l.drop (nextL l).n)) ((l.drop (nextL l).n).drop (sk false (l.drop (nextL l).n)))).2):=by
 obtain ⟨c,b⟩:=nextL_good _ h;have a:¬ l=[]:=by rintro rfl;simp at b;omega
 unfold lexL;conv=>lhs;simp only [goL]
 rw [if_neg a,if_pos h,goL_more l.length _ _ _ (by simp;omega) (Nat.lt_succ_self _)]
theorem goL_clean:∀ (f q:Nat) (l:List UInt8),(goL f q l).2.2=0->(goL f q l).2.1=0
 | 0,_,_,_=>rfl
 | f + 1, q, l, h => by
   simp only [goL] at h ⊢
   split
   · rfl
   · rename_i h0
     rw [if_neg h0] at h
     split
     · rename_i h1
       rw [if_pos h1] at h
       exact goL_clean f _ _ h
     · rename_i h1
       rw [if_neg h1] at h
       exact absurd h h1
def restL (e:Nat) (l:List UInt8):List Res × Int × Int:=lexL (e+sk false l) (l.drop (sk false l))
theorem front_list (s:ByteArray):frontR s=restL 0 s.data.toList:=by
 unfold frontR restL lexL;have a:s.size=s.data.toList.length:=by simp
 rw [passN_sk,from_nought,goH_list,Nat.zero_add];have e:bytesFrom s (sk false s.data.toList)=s.data.toList.drop (sk false s.data.toList):=rfl;rw [e];exact goL_more _ _ _ _ (by rw [List.length_drop];omega) (Nat.lt_succ_self _)
theorem rest_nil {e:Nat} {l:List UInt8} (h:l.drop (sk false l)=[]):restL e l=([],0,0):=by
 unfold restL;rw [h];rfl
theorem rest_fault {e:Nat} {l m:List UInt8} (hm:l.drop (sk false l)=m) (h0:¬ m=[]) (h:¬ (nextL m).fr=0):restL e l=([],((e+sk false l+(nextL m).fa:Nat):Int),(nextL m).fr):=by
 unfold restL;rw [hm,lexL_fault h0 h]
theorem rest_tok {e:Nat} {l m:List UInt8} (hm:l.drop (sk false l)=m) (h:(nextL m).fr=0):restL e l=(toRes (e+sk false l) m (nextL m)::(restL (e+sk false l+(nextL m).n) (m.drop (nextL m).n)).1,(restL (e+sk false l+(nextL m).n) (m.drop (nextL m).n)).2):=by
 unfold restL;rw [hm,lexL_tok h]
theorem digitsV_in:∀ (l:List UInt8) (v z:Int),0<=v->v<=9223372036854775807->digitsV l v=some z->0<=z/\z<=9223372036854775807
 | [], v, z, h0, h1, h => by
   simp only [digitsV,Option.some.injEq] at h
   omega
 | c :: r, v, z, h0, h1, h => by
   simp only [digitsV] at h
   split at h
   · cases h
   · rename_i hd
     split at h
     · cases h
     · rename_i hv
       have hd:48<=(c.toNat:Int)/\(c.toNat:Int)<=57:=by
        have:digitB (c.toNat:Int)=true:=by simpa using hd
        unfold digitB at this;simpa using this
       have a:v<=(9223372036854775807-((c.toNat:Int)-48)) / 10:=by omega
       exact digitsV_in r _ z (by omega) (by omega) h
theorem valueO_in {l:List UInt8} {z:Int} (h:valueO l=some z):0<=z/\z<=9223372036854775807:=by
 cases l with
 | nil=>simp [valueO] at h
 | cons c r =>
   simp only [valueO] at h;split at h
   · cases h
   · exact digitsV_in _ 0 z (by decide) (by decide) h
theorem nextL_wd (l:List UInt8):0<=(nextL l).wd/\(nextL l).wd<=9223372036854775807:=by
 cases l with
 | nil=>exact ⟨Int.le_refl 0,(by decide:(0:Int)<=9223372036854775807)⟩
 | cons c r =>
   rw [show nextL (c::r)=if letterB (c.toNat:Int)=true then nameL (c::r) else if digitB (c.toNat:Int)=true then numL (c::r) else if signB (c.toNat:Int)=true then ⟨4,aheadN (c::r),0,0,0⟩ else ⟨0,0,0,0,1⟩ from rfl]
   by_cases h1:letterB (c.toNat:Int)=true
   · rw [if_pos h1]
     unfold nameL;by_cases h2:wordL ((c::r).take (spanN namedB (c::r)))=true
     · rw [if_pos h2];exact ⟨Int.le_refl 0,(by decide:(0:Int)<=9223372036854775807)⟩
     · rw [if_neg h2]
       by_cases h3:32<spanN namedB (c::r)
       · rw [if_pos h3];exact ⟨Int.le_refl 0,(by decide:(0:Int)<=9223372036854775807)⟩
       · rw [if_neg h3];exact ⟨Int.le_refl 0,(by decide:(0:Int)<=9223372036854775807)⟩
   · rw [if_neg h1]
     by_cases h2:digitB (c.toNat:Int)=true
     · rw [if_pos h2]
       unfold numL;cases hv:valueO ((c::r).take (spanN digitB (c::r))) with
       | none=>exact ⟨Int.le_refl 0,(by decide:(0:Int)<=9223372036854775807)⟩
       | some z =>
         simp only [numK];split
         · exact ⟨Int.le_refl 0,(by decide:(0:Int)<=9223372036854775807)⟩
         · exact valueO_in hv
     · rw [if_neg h2]
       split <;> exact ⟨Int.le_refl 0,(by decide:(0:Int)<=9223372036854775807)⟩
theorem toRes_wd (q:Nat) (l:List UInt8):0<=(toRes q l (nextL l)).wd/\(toRes q l (nextL l)).wd<=9223372036854775807:=by
 unfold toRes;split
 · exact nextL_wd l
 · simp
theorem goL_wd:∀ (f q:Nat) (l:List UInt8),∀ x∈(goL f q l).1,0<=x.wd/\x.wd<=9223372036854775807
 | 0,q,l,x,hx=>by simp [goL] at hx
 | f + 1, q, l, x, hx => by
   simp only [goL] at hx
   split at hx
   · simp at hx
   · split at hx
     · rcases List.mem_cons.1 hx with rfl | hx
       · exact toRes_wd q l
       · exact goL_wd f _ _ x hx
     · simp at hx
theorem scanX_wd (s:ByteArray):∀ x∈(scanX s).1,0<=x.wd/\x.wd<=9223372036854775807:=by
 unfold scanX;split
 · simp
 · split
   · rw [front_list]
     exact goL_wd _ _ _
   · simp
theorem alloc_put (W:World) (o o':Obj):putB (W.alloc o) W.heap.size o'=W.alloc o':=by
 have:(W.heap.push o).setIfInBounds W.heap.size o'=W.heap.push o':=by
  apply Array.ext';simp [Array.toList_setIfInBounds]
 unfold putB World.alloc;rw [this]
theorem size_setRow (W:World) (g:Nat) (cs:Array Value):(W.setRow g cs).heap.size=W.heap.size:=by
 simp [World.setRow]
theorem Below.of_row {B:Nat} {a W:World} (h:Below B a W) {g:Nat} (hg:B<=g) (cs:Array Value):Below B a (W.setRow g cs) :=
 ⟨h.os,h.tape,h.output,by rw [size_setRow];exact h.size,fun k hk=>(setRow_other cs (by omega)).trans (h.block k hk)⟩
theorem ins_new {P:Program} {W:World} {t k e:TypeId} (ht:P.underlying t=some (.map k e)) (hk:P.underlying k=some .string) (es:Array MapEntry) (clock:Nat) (s:ByteArray) (v:Value)
 (hf:Instr.findNow .string (.string s) es.toList 0=some none) :
 (Instr.mapUpdate t (.map (some W.heap.size)) (.string s) v).run P (W.alloc (.map es clock))=.ok () (W.alloc (.map (es.push ⟨.string s,v,clock⟩) (clock+1))):=by
 rw [run_ins ht hk (World.alloc_heap_new W _) s v hf,alloc_put]
def newC (w:World) (ta:Option Addr) (cap:Nat) (toks:List Res) (L:Nat):Par:=⟨w.heap.size,ta,cap,toks,L,w.heap.size+1,w.heap.size+2,w.heap.size+3,w.heap.size+4,w.heap.size+6⟩
theorem p_new {w:World} {ta:Option Addr} {cap:Nat} {toks:List Res} {L:Nat} (ht:TokRow w (.slice ta toks.length cap) toks) (hlt:∀ g off,ta=some ⟨g,off,none⟩->g<w.heap.size) (T:Tabs w) (hs:toks.length<=65536/\L<=65536/\∀ x∈toks,0<=x.wd/\x.wd<=9223372036854775807) :
 Calls Tryz.prog 37 #[.slice ta toks.length cap,.int .i64 (L:Int)] w fun e w'=>e=.returned (newC w ta cap toks L).ptr/\Below w.heap.size w w'/\Rd (newC w ta cap toks L) w' 0:=by
 obtain ⟨n,H⟩:=Qx toks.length;rw [<- H];have HT:=Hd (And.intro ht (And.intro hlt (And.intro T hs)));have HN:=Hd H;clear ht hlt T hs H;have bc:=@run_makeMap Tryz.prog;go_enter Tryz.func37,Tryz.ntmps37;go_upto_region 2 with (fail)
 have O1:=Own.new w 95 #[.slice ta n cap,.int .i64 (L:Int),.int .i64 0,.map none,.map none,.map none]
 have B1:=(Below.refl w.heap.size w).alloc (Nat.le_refl _) (.cells #[.slice ta n cap,.int .i64 (L:Int),.int .i64 0,.map none,.map none,.map none] 95)
 have z1:(w.alloc (.cells #[.slice ta n cap,.int .i64 (L:Int),.int .i64 0,.map none,.map none,.map none] 95)).heap.size<=w.heap.size+1/\w.heap.size+1<=(w.alloc (.cells #[.slice ta n cap,.int .i64 (L:Int),.int .i64 0,.map none,.map none,.map none] 95)).heap.size:=by rw [World.size_alloc w (.cells #[.slice ta n cap,.int .i64 (L:Int),.int .i64 0,.map none,.map none,.map none] 95)];omega
 obtain ⟨d,R⟩:=Qx (w.alloc (.cells #[.slice ta n cap,.int .i64 (L:Int),.int .i64 0,.map none,.map none,.map none] 95));rw [<- R] at O1 B1 z1 ⊢;clear R;have o:(Instr.mapUpdate 91 (.map (some d.heap.size)) (.string ⟨#[115,104,97,114,101,100]⟩) (.func (.func 92) #[.pointer (some ⟨w.heap.size,0,none⟩)] #[])).run Tryz.prog (d.alloc (.map #[] 0))=.ok () (d.alloc (.map #[⟨.string ⟨#[115,104,97,114,101,100]⟩,.func (.func 92) #[.pointer (some ⟨w.heap.size,0,none⟩)] #[],0⟩] 1)):=ins_new Tryz.underlying91 Tryz.underlying9 #[] 0 ⟨#[115,104,97,114,101,100]⟩ (.func (.func 92) #[.pointer (some ⟨w.heap.size,0,none⟩)] #[]) (by kernel_rfl)
 have s:(Instr.mapUpdate 91 (.map (some d.heap.size)) (.string ⟨#[108,111,99,107]⟩) (.func (.func 93) #[.pointer (some ⟨w.heap.size,0,none⟩)] #[])).run Tryz.prog (d.alloc (.map #[⟨.string ⟨#[115,104,97,114,101,100]⟩,.func (.func 92) #[.pointer (some ⟨w.heap.size,0,none⟩)] #[],0⟩] 1))=.ok () (d.alloc (.map #[⟨.string ⟨#[115,104,97,114,101,100]⟩,.func (.func 92) #[.pointer (some ⟨w.heap.size,0,none⟩)] #[],0⟩,⟨.string ⟨#[108,111,99,107]⟩,.func (.func 93) #[.pointer (some ⟨w.heap.size,0,none⟩)] #[],1⟩] 2)):=ins_new Tryz.underlying91 Tryz.underlying9 #[⟨.string ⟨#[115,104,97,114,101,100]⟩,.func (.func 92) #[.pointer (some ⟨w.heap.size,0,none⟩)] #[],0⟩] 1 ⟨#[108,111,99,107]⟩ (.func (.func 93) #[.pointer (some ⟨w.heap.size,0,none⟩)] #[]) (by kernel_rfl)
 have B:=O1.alloc (.map #[⟨.string ⟨#[115,104,97,114,101,100]⟩,.func (.func 92) #[.pointer (some ⟨w.heap.size,0,none⟩)] #[],0⟩,⟨.string ⟨#[108,111,99,107]⟩,.func (.func 93) #[.pointer (some ⟨w.heap.size,0,none⟩)] #[],1⟩] 2);have c1:(d.alloc (.map #[⟨.string ⟨#[115,104,97,114,101,100]⟩,.func (.func 92) #[.pointer (some ⟨w.heap.size,0,none⟩)] #[],0⟩,⟨.string ⟨#[108,111,99,107]⟩,.func (.func 93) #[.pointer (some ⟨w.heap.size,0,none⟩)] #[],1⟩] 2)).cell? ⟨w.heap.size,3,none⟩=some (.map none):=cr B;have f1:=own_frozen B 3;go_upto_region 3 with (fail)
 have E1:(d.alloc (.map #[⟨.string ⟨#[115,104,97,114,101,100]⟩,.func (.func 92) #[.pointer (some ⟨w.heap.size,0,none⟩)] #[],0⟩,⟨.string ⟨#[108,111,99,107]⟩,.func (.func 93) #[.pointer (some ⟨w.heap.size,0,none⟩)] #[],1⟩] 2)).setCell ⟨w.heap.size,3,none⟩ (.map (some d.heap.size))=(d.alloc (.map #[⟨.string ⟨#[115,104,97,114,101,100]⟩,.func (.func 92) #[.pointer (some ⟨w.heap.size,0,none⟩)] #[],0⟩,⟨.string ⟨#[108,111,99,107]⟩,.func (.func 93) #[.pointer (some ⟨w.heap.size,0,none⟩)] #[],1⟩] 2)).setRow w.heap.size #[.slice ta n cap,.int .i64 (L:Int),.int .i64 0,.map (some d.heap.size),.map none,.map none]:=setCell_row B 3 _;rw [E1];clear E1;have O2:=B.row #[.slice ta n cap,.int .i64 (L:Int),.int .i64 0,.map (some d.heap.size),.map none,.map none]
 have V:((d.alloc (.map #[⟨.string ⟨#[115,104,97,114,101,100]⟩,.func (.func 92) #[.pointer (some ⟨w.heap.size,0,none⟩)] #[],0⟩,⟨.string ⟨#[108,111,99,107]⟩,.func (.func 93) #[.pointer (some ⟨w.heap.size,0,none⟩)] #[],1⟩] 2)).setRow w.heap.size #[.slice ta n cap,.int .i64 (L:Int),.int .i64 0,.map (some d.heap.size),.map none,.map none]).heap[d.heap.size]? = some (.map #[⟨.string ⟨#[115,104,97,114,101,100]⟩,.func (.func 92) #[.pointer (some ⟨w.heap.size,0,none⟩)] #[],0⟩,⟨.string ⟨#[108,111,99,107]⟩,.func (.func 93) #[.pointer (some ⟨w.heap.size,0,none⟩)] #[],1⟩] 2):=(setRow_other _ (by omega)).trans (World.alloc_heap_new d _)
 have B2:=Below.of_row (B1.alloc (by omega) (.map #[⟨.string ⟨#[115,104,97,114,101,100]⟩,.func (.func 92) #[.pointer (some ⟨w.heap.size,0,none⟩)] #[],0⟩,⟨.string ⟨#[108,111,99,107]⟩,.func (.func 93) #[.pointer (some ⟨w.heap.size,0,none⟩)] #[],1⟩] 2)) (Nat.le_refl _) #[.slice ta n cap,.int .i64 (L:Int),.int .i64 0,.map (some d.heap.size),.map none,.map none]
 have z2:((d.alloc (.map #[⟨.string ⟨#[115,104,97,114,101,100]⟩,.func (.func 92) #[.pointer (some ⟨w.heap.size,0,none⟩)] #[],0⟩,⟨.string ⟨#[108,111,99,107]⟩,.func (.func 93) #[.pointer (some ⟨w.heap.size,0,none⟩)] #[],1⟩] 2)).setRow w.heap.size #[.slice ta n cap,.int .i64 (L:Int),.int .i64 0,.map (some d.heap.size),.map none,.map none]).heap.size<=d.heap.size+1/\d.heap.size+1<=((d.alloc (.map #[⟨.string ⟨#[115,104,97,114,101,100]⟩,.func (.func 92) #[.pointer (some ⟨w.heap.size,0,none⟩)] #[],0⟩,⟨.string ⟨#[108,111,99,107]⟩,.func (.func 93) #[.pointer (some ⟨w.heap.size,0,none⟩)] #[],1⟩] 2)).setRow w.heap.size #[.slice ta n cap,.int .i64 (L:Int),.int .i64 0,.map (some d.heap.size),.map none,.map none]).heap.size:=by rw [(size_setRow (d.alloc (.map #[⟨.string ⟨#[115,104,97,114,101,100]⟩,.func (.func 92) #[.pointer (some ⟨w.heap.size,0,none⟩)] #[],0⟩,⟨.string ⟨#[108,111,99,107]⟩,.func (.func 93) #[.pointer (some ⟨w.heap.size,0,none⟩)] #[],1⟩] 2)) w.heap.size #[.slice ta n cap,.int .i64 (L:Int),.int .i64 0,.map (some d.heap.size),.map none,.map none]).trans (World.size_alloc _ _)];omega
 obtain ⟨c,K⟩:=Qx ((d.alloc (.map #[⟨.string ⟨#[115,104,97,114,101,100]⟩,.func (.func 92) #[.pointer (some ⟨w.heap.size,0,none⟩)] #[],0⟩,⟨.string ⟨#[108,111,99,107]⟩,.func (.func 93) #[.pointer (some ⟨w.heap.size,0,none⟩)] #[],1⟩] 2)).setRow w.heap.size #[.slice ta n cap,.int .i64 (L:Int),.int .i64 0,.map (some d.heap.size),.map none,.map none]);rw [<- K] at O2 V B2 z2 ⊢;clear K B c1 f1 o s O1 B1;have o:(Instr.mapUpdate 92 (.map (some c.heap.size)) (.string ⟨#[105,102]⟩) (.func (.func 94) #[.pointer (some ⟨w.heap.size,0,none⟩)] #[])).run Tryz.prog (c.alloc (.map #[] 0))=.ok () (c.alloc (.map #[⟨.string ⟨#[105,102]⟩,.func (.func 94) #[.pointer (some ⟨w.heap.size,0,none⟩)] #[],0⟩] 1)):=ins_new Tryz.underlying92 Tryz.underlying9 #[] 0 ⟨#[105,102]⟩ (.func (.func 94) #[.pointer (some ⟨w.heap.size,0,none⟩)] #[]) (by kernel_rfl)
 have s:(Instr.mapUpdate 92 (.map (some c.heap.size)) (.string ⟨#[119,104,105,108,101]⟩) (.func (.func 95) #[.pointer (some ⟨w.heap.size,0,none⟩)] #[])).run Tryz.prog (c.alloc (.map #[⟨.string ⟨#[105,102]⟩,.func (.func 94) #[.pointer (some ⟨w.heap.size,0,none⟩)] #[],0⟩] 1))=.ok () (c.alloc (.map #[⟨.string ⟨#[105,102]⟩,.func (.func 94) #[.pointer (some ⟨w.heap.size,0,none⟩)] #[],0⟩,⟨.string ⟨#[119,104,105,108,101]⟩,.func (.func 95) #[.pointer (some ⟨w.heap.size,0,none⟩)] #[],1⟩] 2)):=ins_new Tryz.underlying92 Tryz.underlying9 #[⟨.string ⟨#[105,102]⟩,.func (.func 94) #[.pointer (some ⟨w.heap.size,0,none⟩)] #[],0⟩] 1 ⟨#[119,104,105,108,101]⟩ (.func (.func 95) #[.pointer (some ⟨w.heap.size,0,none⟩)] #[]) (by kernel_rfl)
 have y:(Instr.mapUpdate 92 (.map (some c.heap.size)) (.string ⟨#[108,111,99,107]⟩) (.func (.func 96) #[.pointer (some ⟨w.heap.size,0,none⟩)] #[])).run Tryz.prog (c.alloc (.map #[⟨.string ⟨#[105,102]⟩,.func (.func 94) #[.pointer (some ⟨w.heap.size,0,none⟩)] #[],0⟩,⟨.string ⟨#[119,104,105,108,101]⟩,.func (.func 95) #[.pointer (some ⟨w.heap.size,0,none⟩)] #[],1⟩] 2))=.ok () (c.alloc (.map #[⟨.string ⟨#[105,102]⟩,.func (.func 94) #[.pointer (some ⟨w.heap.size,0,none⟩)] #[],0⟩,⟨.string ⟨#[119,104,105,108,101]⟩,.func (.func 95) #[.pointer (some ⟨w.heap.size,0,none⟩)] #[],1⟩,⟨.string ⟨#[108,111,99,107]⟩,.func (.func 96) #[.pointer (some ⟨w.heap.size,0,none⟩)] #[],2⟩] 3)):=ins_new Tryz.underlying92 Tryz.underlying9 #[⟨.string ⟨#[105,102]⟩,.func (.func 94) #[.pointer (some ⟨w.heap.size,0,none⟩)] #[],0⟩,⟨.string ⟨#[119,104,105,108,101]⟩,.func (.func 95) #[.pointer (some ⟨w.heap.size,0,none⟩)] #[],1⟩] 2 ⟨#[108,111,99,107]⟩ (.func (.func 96) #[.pointer (some ⟨w.heap.size,0,none⟩)] #[]) (by kernel_rfl)
 have aj:(Instr.mapUpdate 92 (.map (some c.heap.size)) (.string ⟨#[112,114,105,110,116]⟩) (.func (.func 97) #[.pointer (some ⟨w.heap.size,0,none⟩)] #[])).run Tryz.prog (c.alloc (.map #[⟨.string ⟨#[105,102]⟩,.func (.func 94) #[.pointer (some ⟨w.heap.size,0,none⟩)] #[],0⟩,⟨.string ⟨#[119,104,105,108,101]⟩,.func (.func 95) #[.pointer (some ⟨w.heap.size,0,none⟩)] #[],1⟩,⟨.string ⟨#[108,111,99,107]⟩,.func (.func 96) #[.pointer (some ⟨w.heap.size,0,none⟩)] #[],2⟩] 3))=.ok () (c.alloc (.map #[⟨.string ⟨#[105,102]⟩,.func (.func 94) #[.pointer (some ⟨w.heap.size,0,none⟩)] #[],0⟩,⟨.string ⟨#[119,104,105,108,101]⟩,.func (.func 95) #[.pointer (some ⟨w.heap.size,0,none⟩)] #[],1⟩,⟨.string ⟨#[108,111,99,107]⟩,.func (.func 96) #[.pointer (some ⟨w.heap.size,0,none⟩)] #[],2⟩,⟨.string ⟨#[112,114,105,110,116]⟩,.func (.func 97) #[.pointer (some ⟨w.heap.size,0,none⟩)] #[],3⟩] 4)):=ins_new Tryz.underlying92 Tryz.underlying9 #[⟨.string ⟨#[105,102]⟩,.func (.func 94) #[.pointer (some ⟨w.heap.size,0,none⟩)] #[],0⟩,⟨.string ⟨#[119,104,105,108,101]⟩,.func (.func 95) #[.pointer (some ⟨w.heap.size,0,none⟩)] #[],1⟩,⟨.string ⟨#[108,111,99,107]⟩,.func (.func 96) #[.pointer (some ⟨w.heap.size,0,none⟩)] #[],2⟩] 3 ⟨#[112,114,105,110,116]⟩ (.func (.func 97) #[.pointer (some ⟨w.heap.size,0,none⟩)] #[]) (by kernel_rfl)
 have ad:(Instr.mapUpdate 92 (.map (some c.heap.size)) (.string ⟨#[115,107,105,112]⟩) (.func (.func 98) #[.pointer (some ⟨w.heap.size,0,none⟩)] #[])).run Tryz.prog (c.alloc (.map #[⟨.string ⟨#[105,102]⟩,.func (.func 94) #[.pointer (some ⟨w.heap.size,0,none⟩)] #[],0⟩,⟨.string ⟨#[119,104,105,108,101]⟩,.func (.func 95) #[.pointer (some ⟨w.heap.size,0,none⟩)] #[],1⟩,⟨.string ⟨#[108,111,99,107]⟩,.func (.func 96) #[.pointer (some ⟨w.heap.size,0,none⟩)] #[],2⟩,⟨.string ⟨#[112,114,105,110,116]⟩,.func (.func 97) #[.pointer (some ⟨w.heap.size,0,none⟩)] #[],3⟩] 4))=.ok () (c.alloc (.map #[⟨.string ⟨#[105,102]⟩,.func (.func 94) #[.pointer (some ⟨w.heap.size,0,none⟩)] #[],0⟩,⟨.string ⟨#[119,104,105,108,101]⟩,.func (.func 95) #[.pointer (some ⟨w.heap.size,0,none⟩)] #[],1⟩,⟨.string ⟨#[108,111,99,107]⟩,.func (.func 96) #[.pointer (some ⟨w.heap.size,0,none⟩)] #[],2⟩,⟨.string ⟨#[112,114,105,110,116]⟩,.func (.func 97) #[.pointer (some ⟨w.heap.size,0,none⟩)] #[],3⟩,⟨.string ⟨#[115,107,105,112]⟩,.func (.func 98) #[.pointer (some ⟨w.heap.size,0,none⟩)] #[],4⟩] 5)):=ins_new Tryz.underlying92 Tryz.underlying9 #[⟨.string ⟨#[105,102]⟩,.func (.func 94) #[.pointer (some ⟨w.heap.size,0,none⟩)] #[],0⟩,⟨.string ⟨#[119,104,105,108,101]⟩,.func (.func 95) #[.pointer (some ⟨w.heap.size,0,none⟩)] #[],1⟩,⟨.string ⟨#[108,111,99,107]⟩,.func (.func 96) #[.pointer (some ⟨w.heap.size,0,none⟩)] #[],2⟩,⟨.string ⟨#[112,114,105,110,116]⟩,.func (.func 97) #[.pointer (some ⟨w.heap.size,0,none⟩)] #[],3⟩] 4 ⟨#[115,107,105,112]⟩ (.func (.func 98) #[.pointer (some ⟨w.heap.size,0,none⟩)] #[]) (by kernel_rfl)
 have F:=O2.alloc (.map #[⟨.string ⟨#[105,102]⟩,.func (.func 94) #[.pointer (some ⟨w.heap.size,0,none⟩)] #[],0⟩,⟨.string ⟨#[119,104,105,108,101]⟩,.func (.func 95) #[.pointer (some ⟨w.heap.size,0,none⟩)] #[],1⟩,⟨.string ⟨#[108,111,99,107]⟩,.func (.func 96) #[.pointer (some ⟨w.heap.size,0,none⟩)] #[],2⟩,⟨.string ⟨#[112,114,105,110,116]⟩,.func (.func 97) #[.pointer (some ⟨w.heap.size,0,none⟩)] #[],3⟩,⟨.string ⟨#[115,107,105,112]⟩,.func (.func 98) #[.pointer (some ⟨w.heap.size,0,none⟩)] #[],4⟩] 5);have c2:(c.alloc (.map #[⟨.string ⟨#[105,102]⟩,.func (.func 94) #[.pointer (some ⟨w.heap.size,0,none⟩)] #[],0⟩,⟨.string ⟨#[119,104,105,108,101]⟩,.func (.func 95) #[.pointer (some ⟨w.heap.size,0,none⟩)] #[],1⟩,⟨.string ⟨#[108,111,99,107]⟩,.func (.func 96) #[.pointer (some ⟨w.heap.size,0,none⟩)] #[],2⟩,⟨.string ⟨#[112,114,105,110,116]⟩,.func (.func 97) #[.pointer (some ⟨w.heap.size,0,none⟩)] #[],3⟩,⟨.string ⟨#[115,107,105,112]⟩,.func (.func 98) #[.pointer (some ⟨w.heap.size,0,none⟩)] #[],4⟩] 5)).cell? ⟨w.heap.size,4,none⟩=some (.map none):=cr F;have f2:=own_frozen F 4;go_upto_region 4 with (fail)
 have E2:(c.alloc (.map #[⟨.string ⟨#[105,102]⟩,.func (.func 94) #[.pointer (some ⟨w.heap.size,0,none⟩)] #[],0⟩,⟨.string ⟨#[119,104,105,108,101]⟩,.func (.func 95) #[.pointer (some ⟨w.heap.size,0,none⟩)] #[],1⟩,⟨.string ⟨#[108,111,99,107]⟩,.func (.func 96) #[.pointer (some ⟨w.heap.size,0,none⟩)] #[],2⟩,⟨.string ⟨#[112,114,105,110,116]⟩,.func (.func 97) #[.pointer (some ⟨w.heap.size,0,none⟩)] #[],3⟩,⟨.string ⟨#[115,107,105,112]⟩,.func (.func 98) #[.pointer (some ⟨w.heap.size,0,none⟩)] #[],4⟩] 5)).setCell ⟨w.heap.size,4,none⟩ (.map (some c.heap.size))=(c.alloc (.map #[⟨.string ⟨#[105,102]⟩,.func (.func 94) #[.pointer (some ⟨w.heap.size,0,none⟩)] #[],0⟩,⟨.string ⟨#[119,104,105,108,101]⟩,.func (.func 95) #[.pointer (some ⟨w.heap.size,0,none⟩)] #[],1⟩,⟨.string ⟨#[108,111,99,107]⟩,.func (.func 96) #[.pointer (some ⟨w.heap.size,0,none⟩)] #[],2⟩,⟨.string ⟨#[112,114,105,110,116]⟩,.func (.func 97) #[.pointer (some ⟨w.heap.size,0,none⟩)] #[],3⟩,⟨.string ⟨#[115,107,105,112]⟩,.func (.func 98) #[.pointer (some ⟨w.heap.size,0,none⟩)] #[],4⟩] 5)).setRow w.heap.size #[.slice ta n cap,.int .i64 (L:Int),.int .i64 0,.map (some d.heap.size),.map (some c.heap.size),.map none]:=setCell_row F 4 _;rw [E2];clear E2;have O3:=F.row #[.slice ta n cap,.int .i64 (L:Int),.int .i64 0,.map (some d.heap.size),.map (some c.heap.size),.map none]
 have V:((c.alloc (.map #[⟨.string ⟨#[105,102]⟩,.func (.func 94) #[.pointer (some ⟨w.heap.size,0,none⟩)] #[],0⟩,⟨.string ⟨#[119,104,105,108,101]⟩,.func (.func 95) #[.pointer (some ⟨w.heap.size,0,none⟩)] #[],1⟩,⟨.string ⟨#[108,111,99,107]⟩,.func (.func 96) #[.pointer (some ⟨w.heap.size,0,none⟩)] #[],2⟩,⟨.string ⟨#[112,114,105,110,116]⟩,.func (.func 97) #[.pointer (some ⟨w.heap.size,0,none⟩)] #[],3⟩,⟨.string ⟨#[115,107,105,112]⟩,.func (.func 98) #[.pointer (some ⟨w.heap.size,0,none⟩)] #[],4⟩] 5)).setRow w.heap.size #[.slice ta n cap,.int .i64 (L:Int),.int .i64 0,.map (some d.heap.size),.map (some c.heap.size),.map none]).heap[d.heap.size]? = _:=(setRow_other _ (by omega)).trans ((((Below.refl c.heap.size c).alloc (Nat.le_refl _) _).block _ (by omega)).trans V)
 have M2:((c.alloc (.map #[⟨.string ⟨#[105,102]⟩,.func (.func 94) #[.pointer (some ⟨w.heap.size,0,none⟩)] #[],0⟩,⟨.string ⟨#[119,104,105,108,101]⟩,.func (.func 95) #[.pointer (some ⟨w.heap.size,0,none⟩)] #[],1⟩,⟨.string ⟨#[108,111,99,107]⟩,.func (.func 96) #[.pointer (some ⟨w.heap.size,0,none⟩)] #[],2⟩,⟨.string ⟨#[112,114,105,110,116]⟩,.func (.func 97) #[.pointer (some ⟨w.heap.size,0,none⟩)] #[],3⟩,⟨.string ⟨#[115,107,105,112]⟩,.func (.func 98) #[.pointer (some ⟨w.heap.size,0,none⟩)] #[],4⟩] 5)).setRow w.heap.size #[.slice ta n cap,.int .i64 (L:Int),.int .i64 0,.map (some d.heap.size),.map (some c.heap.size),.map none]).heap[c.heap.size]? = some (.map #[⟨.string ⟨#[105,102]⟩,.func (.func 94) #[.pointer (some ⟨w.heap.size,0,none⟩)] #[],0⟩,⟨.string ⟨#[119,104,105,108,101]⟩,.func (.func 95) #[.pointer (some ⟨w.heap.size,0,none⟩)] #[],1⟩,⟨.string ⟨#[108,111,99,107]⟩,.func (.func 96) #[.pointer (some ⟨w.heap.size,0,none⟩)] #[],2⟩,⟨.string ⟨#[112,114,105,110,116]⟩,.func (.func 97) #[.pointer (some ⟨w.heap.size,0,none⟩)] #[],3⟩,⟨.string ⟨#[115,107,105,112]⟩,.func (.func 98) #[.pointer (some ⟨w.heap.size,0,none⟩)] #[],4⟩] 5):=(setRow_other _ (by omega)).trans (World.alloc_heap_new c _)
 have B3:=Below.of_row (B2.alloc (by omega) (.map #[⟨.string ⟨#[105,102]⟩,.func (.func 94) #[.pointer (some ⟨w.heap.size,0,none⟩)] #[],0⟩,⟨.string ⟨#[119,104,105,108,101]⟩,.func (.func 95) #[.pointer (some ⟨w.heap.size,0,none⟩)] #[],1⟩,⟨.string ⟨#[108,111,99,107]⟩,.func (.func 96) #[.pointer (some ⟨w.heap.size,0,none⟩)] #[],2⟩,⟨.string ⟨#[112,114,105,110,116]⟩,.func (.func 97) #[.pointer (some ⟨w.heap.size,0,none⟩)] #[],3⟩,⟨.string ⟨#[115,107,105,112]⟩,.func (.func 98) #[.pointer (some ⟨w.heap.size,0,none⟩)] #[],4⟩] 5)) (Nat.le_refl _) #[.slice ta n cap,.int .i64 (L:Int),.int .i64 0,.map (some d.heap.size),.map (some c.heap.size),.map none]
 have z3:((c.alloc (.map #[⟨.string ⟨#[105,102]⟩,.func (.func 94) #[.pointer (some ⟨w.heap.size,0,none⟩)] #[],0⟩,⟨.string ⟨#[119,104,105,108,101]⟩,.func (.func 95) #[.pointer (some ⟨w.heap.size,0,none⟩)] #[],1⟩,⟨.string ⟨#[108,111,99,107]⟩,.func (.func 96) #[.pointer (some ⟨w.heap.size,0,none⟩)] #[],2⟩,⟨.string ⟨#[112,114,105,110,116]⟩,.func (.func 97) #[.pointer (some ⟨w.heap.size,0,none⟩)] #[],3⟩,⟨.string ⟨#[115,107,105,112]⟩,.func (.func 98) #[.pointer (some ⟨w.heap.size,0,none⟩)] #[],4⟩] 5)).setRow w.heap.size #[.slice ta n cap,.int .i64 (L:Int),.int .i64 0,.map (some d.heap.size),.map (some c.heap.size),.map none]).heap.size<=c.heap.size+1/\c.heap.size+1<=((c.alloc (.map #[⟨.string ⟨#[105,102]⟩,.func (.func 94) #[.pointer (some ⟨w.heap.size,0,none⟩)] #[],0⟩,⟨.string ⟨#[119,104,105,108,101]⟩,.func (.func 95) #[.pointer (some ⟨w.heap.size,0,none⟩)] #[],1⟩,⟨.string ⟨#[108,111,99,107]⟩,.func (.func 96) #[.pointer (some ⟨w.heap.size,0,none⟩)] #[],2⟩,⟨.string ⟨#[112,114,105,110,116]⟩,.func (.func 97) #[.pointer (some ⟨w.heap.size,0,none⟩)] #[],3⟩,⟨.string ⟨#[115,107,105,112]⟩,.func (.func 98) #[.pointer (some ⟨w.heap.size,0,none⟩)] #[],4⟩] 5)).setRow w.heap.size #[.slice ta n cap,.int .i64 (L:Int),.int .i64 0,.map (some d.heap.size),.map (some c.heap.size),.map none]).heap.size:=by rw [(size_setRow (c.alloc (.map #[⟨.string ⟨#[105,102]⟩,.func (.func 94) #[.pointer (some ⟨w.heap.size,0,none⟩)] #[],0⟩,⟨.string ⟨#[119,104,105,108,101]⟩,.func (.func 95) #[.pointer (some ⟨w.heap.size,0,none⟩)] #[],1⟩,⟨.string ⟨#[108,111,99,107]⟩,.func (.func 96) #[.pointer (some ⟨w.heap.size,0,none⟩)] #[],2⟩,⟨.string ⟨#[112,114,105,110,116]⟩,.func (.func 97) #[.pointer (some ⟨w.heap.size,0,none⟩)] #[],3⟩,⟨.string ⟨#[115,107,105,112]⟩,.func (.func 98) #[.pointer (some ⟨w.heap.size,0,none⟩)] #[],4⟩] 5)) w.heap.size #[.slice ta n cap,.int .i64 (L:Int),.int .i64 0,.map (some d.heap.size),.map (some c.heap.size),.map none]).trans (World.size_alloc _ _)];omega
 obtain ⟨a,E⟩:=Qx ((c.alloc (.map #[⟨.string ⟨#[105,102]⟩,.func (.func 94) #[.pointer (some ⟨w.heap.size,0,none⟩)] #[],0⟩,⟨.string ⟨#[119,104,105,108,101]⟩,.func (.func 95) #[.pointer (some ⟨w.heap.size,0,none⟩)] #[],1⟩,⟨.string ⟨#[108,111,99,107]⟩,.func (.func 96) #[.pointer (some ⟨w.heap.size,0,none⟩)] #[],2⟩,⟨.string ⟨#[112,114,105,110,116]⟩,.func (.func 97) #[.pointer (some ⟨w.heap.size,0,none⟩)] #[],3⟩,⟨.string ⟨#[115,107,105,112]⟩,.func (.func 98) #[.pointer (some ⟨w.heap.size,0,none⟩)] #[],4⟩] 5)).setRow w.heap.size #[.slice ta n cap,.int .i64 (L:Int),.int .i64 0,.map (some d.heap.size),.map (some c.heap.size),.map none]);rw [<- E] at O3 V M2 B3 z3 ⊢;clear E F c2 f2 o s y aj ad O2 B2;have K3:Below a.heap.size a (a.alloc (.map #[] 0)):=(Below.refl _ a).alloc (Nat.le_refl _) _;have N3:(a.alloc (.map #[] 0)).heap[a.heap.size]? = some (.map #[] 0):=World.alloc_heap_new a _;have C:=World.size_alloc a (.map #[] 0);go_wp2_with fail;go_at_call 99;refine (p_mkunary _ _).mono ?_;rintro e q ⟨rfl,f⟩;rw [World.size_alloc];generalize a.alloc (.map #[] 0)=V3 at K3 N3 C f;have z4:q.heap.size<=a.heap.size+3/\a.heap.size+3<=q.heap.size:=by rw [f,World.size_alloc,World.size_alloc,C];omega
 have D4:Below V3.heap.size V3 q:=by rw [f];exact ((Below.refl _ V3).alloc (Nat.le_refl _) _).alloc (by rw [World.size_alloc];omega) _
 have N:q.heap[a.heap.size+1+1]? = some (.cells #[.int .u8 17] 43 (0,0)):=by
  rw [f,<- C,<- World.size_alloc V3];exact World.alloc_heap_new _ _
 have G:q.heap[a.heap.size+1]? = some (.cells #[.pointer (some ⟨w.heap.size,0,none⟩)] 54 (0,0)):=by
  rw [f,<- C,Below.heap_alloc _ _ _ (by rw [World.size_alloc];omega)];exact World.alloc_heap_new _ _
 clear f;have N4:=(D4.block a.heap.size (by omega)).trans N3
 have K4:=K3.trans (D4.mono (by omega))
 clear N3 K3 D4 C;have o:(Instr.mapUpdate 93 (.map (some a.heap.size)) (.string ⟨#[45]⟩) (.func (.func 147) #[] #[.pointer (some ⟨a.heap.size+1,0,none⟩),.pointer (some ⟨a.heap.size+1+1,0,none⟩)])).run Tryz.prog q=.ok () (putB q a.heap.size (.map #[⟨.string ⟨#[45]⟩,.func (.func 147) #[] #[.pointer (some ⟨a.heap.size+1,0,none⟩),.pointer (some ⟨a.heap.size+1+1,0,none⟩)],0⟩] 1)):=run_ins Tryz.underlying93 Tryz.underlying9 N4 ⟨#[45]⟩ (.func (.func 147) #[] #[.pointer (some ⟨a.heap.size+1,0,none⟩),.pointer (some ⟨a.heap.size+1+1,0,none⟩)]) (by kernel_rfl)
 go_wp2_with fail;obtain ⟨t,m⟩:=Qx (putB q a.heap.size (.map #[⟨.string ⟨#[45]⟩,.func (.func 147) #[] #[.pointer (some ⟨a.heap.size+1,0,none⟩),.pointer (some ⟨a.heap.size+1+1,0,none⟩)],0⟩] 1));rw [<- m];have z5:t.heap.size<=a.heap.size+3/\a.heap.size+3<=t.heap.size:=by rw [m,putB_size];omega
 have N5:t.heap[a.heap.size]? = some (.map #[⟨.string ⟨#[45]⟩,.func (.func 147) #[] #[.pointer (some ⟨a.heap.size+1,0,none⟩),.pointer (some ⟨a.heap.size+1+1,0,none⟩)],0⟩] 1):=by rw [m];exact putB_same _ (by omega)
 have z:=(putB_other (w:=q) (r:=a.heap.size) (.map #[⟨.string ⟨#[45]⟩,.func (.func 147) #[] #[.pointer (some ⟨a.heap.size+1,0,none⟩),.pointer (some ⟨a.heap.size+1+1,0,none⟩)],0⟩] 1) (by omega)).trans G
 have v:=(putB_other (w:=q) (r:=a.heap.size) (.map #[⟨.string ⟨#[45]⟩,.func (.func 147) #[] #[.pointer (some ⟨a.heap.size+1,0,none⟩),.pointer (some ⟨a.heap.size+1+1,0,none⟩)],0⟩] 1) (by omega)).trans N
 have Z:=putB_below (.map #[⟨.string ⟨#[45]⟩,.func (.func 147) #[] #[.pointer (some ⟨a.heap.size+1,0,none⟩),.pointer (some ⟨a.heap.size+1+1,0,none⟩)],0⟩] 1) K4 (Nat.le_refl _);rw [<- m] at z v Z;clear m G N K4 N4 o;go_at_call 99;refine (p_mkunary _ _).mono ?_;rintro e k ⟨rfl,p⟩;have X:t.heap.size=a.heap.size+3:=by omega
 rw [X];have z6:k.heap.size<=a.heap.size+5/\a.heap.size+5<=k.heap.size:=by rw [p,World.size_alloc,World.size_alloc,X];omega
 have P:Below t.heap.size t k:=by rw [p];exact ((Below.refl _ t).alloc (Nat.le_refl _) _).alloc (by rw [World.size_alloc];omega) _
 have U:k.heap[a.heap.size+3+1]? = some (.cells #[.int .u8 18] 43 (0,0)):=by
  rw [p,<- X,<- World.size_alloc t];exact World.alloc_heap_new _ _
 have A:k.heap[a.heap.size+3]? = some (.cells #[.pointer (some ⟨w.heap.size,0,none⟩)] 54 (0,0)):=by
  rw [p,<- X,Below.heap_alloc _ _ _ (by rw [World.size_alloc];omega)];exact World.alloc_heap_new _ _
 clear p;have N6:=(P.block a.heap.size (by omega)).trans N5
 have W:=(P.block (a.heap.size+1) (by omega)).trans z
 have Q:=(P.block (a.heap.size+1+1) (by omega)).trans v
 have K6:=Z.trans (P.mono (by omega))
 clear X N5 Z P z v;have s:(Instr.mapUpdate 93 (.map (some a.heap.size)) (.string ⟨#[33]⟩) (.func (.func 147) #[] #[.pointer (some ⟨a.heap.size+3,0,none⟩),.pointer (some ⟨a.heap.size+3+1,0,none⟩)])).run Tryz.prog k=.ok () (putB k a.heap.size (.map #[⟨.string ⟨#[45]⟩,.func (.func 147) #[] #[.pointer (some ⟨a.heap.size+1,0,none⟩),.pointer (some ⟨a.heap.size+1+1,0,none⟩)],0⟩,⟨.string ⟨#[33]⟩,.func (.func 147) #[] #[.pointer (some ⟨a.heap.size+3,0,none⟩),.pointer (some ⟨a.heap.size+3+1,0,none⟩)],1⟩] 2)):=run_ins Tryz.underlying93 Tryz.underlying9 N6 ⟨#[33]⟩ (.func (.func 147) #[] #[.pointer (some ⟨a.heap.size+3,0,none⟩),.pointer (some ⟨a.heap.size+3+1,0,none⟩)]) (by kernel_rfl)
 have N7:(putB k a.heap.size (.map #[⟨.string ⟨#[45]⟩,.func (.func 147) #[] #[.pointer (some ⟨a.heap.size+1,0,none⟩),.pointer (some ⟨a.heap.size+1+1,0,none⟩)],0⟩,⟨.string ⟨#[33]⟩,.func (.func 147) #[] #[.pointer (some ⟨a.heap.size+3,0,none⟩),.pointer (some ⟨a.heap.size+3+1,0,none⟩)],1⟩] 2)).heap[a.heap.size]? = some (.map #[⟨.string ⟨#[45]⟩,.func (.func 147) #[] #[.pointer (some ⟨a.heap.size+1,0,none⟩),.pointer (some ⟨a.heap.size+1+1,0,none⟩)],0⟩,⟨.string ⟨#[33]⟩,.func (.func 147) #[] #[.pointer (some ⟨a.heap.size+3,0,none⟩),.pointer (some ⟨a.heap.size+3+1,0,none⟩)],1⟩] 2):=putB_same _ (by omega)
 have y:(Instr.mapUpdate 93 (.map (some a.heap.size)) (.string ⟨#[40]⟩) (.func (.func 100) #[.pointer (some ⟨w.heap.size,0,none⟩)] #[])).run Tryz.prog (putB k a.heap.size (.map #[⟨.string ⟨#[45]⟩,.func (.func 147) #[] #[.pointer (some ⟨a.heap.size+1,0,none⟩),.pointer (some ⟨a.heap.size+1+1,0,none⟩)],0⟩,⟨.string ⟨#[33]⟩,.func (.func 147) #[] #[.pointer (some ⟨a.heap.size+3,0,none⟩),.pointer (some ⟨a.heap.size+3+1,0,none⟩)],1⟩] 2))=.ok () (putB (putB k a.heap.size (.map #[⟨.string ⟨#[45]⟩,.func (.func 147) #[] #[.pointer (some ⟨a.heap.size+1,0,none⟩),.pointer (some ⟨a.heap.size+1+1,0,none⟩)],0⟩,⟨.string ⟨#[33]⟩,.func (.func 147) #[] #[.pointer (some ⟨a.heap.size+3,0,none⟩),.pointer (some ⟨a.heap.size+3+1,0,none⟩)],1⟩] 2)) a.heap.size (.map #[⟨.string ⟨#[45]⟩,.func (.func 147) #[] #[.pointer (some ⟨a.heap.size+1,0,none⟩),.pointer (some ⟨a.heap.size+1+1,0,none⟩)],0⟩,⟨.string ⟨#[33]⟩,.func (.func 147) #[] #[.pointer (some ⟨a.heap.size+3,0,none⟩),.pointer (some ⟨a.heap.size+3+1,0,none⟩)],1⟩,⟨.string ⟨#[40]⟩,.func (.func 100) #[.pointer (some ⟨w.heap.size,0,none⟩)] #[],2⟩] 3)):=run_ins Tryz.underlying93 Tryz.underlying9 N7 ⟨#[40]⟩ (.func (.func 100) #[.pointer (some ⟨w.heap.size,0,none⟩)] #[]) (by kernel_rfl)
 obtain ⟨l,j⟩:=Qx (putB (putB k a.heap.size (.map #[⟨.string ⟨#[45]⟩,.func (.func 147) #[] #[.pointer (some ⟨a.heap.size+1,0,none⟩),.pointer (some ⟨a.heap.size+1+1,0,none⟩)],0⟩,⟨.string ⟨#[33]⟩,.func (.func 147) #[] #[.pointer (some ⟨a.heap.size+3,0,none⟩),.pointer (some ⟨a.heap.size+3+1,0,none⟩)],1⟩] 2)) a.heap.size (.map #[⟨.string ⟨#[45]⟩,.func (.func 147) #[] #[.pointer (some ⟨a.heap.size+1,0,none⟩),.pointer (some ⟨a.heap.size+1+1,0,none⟩)],0⟩,⟨.string ⟨#[33]⟩,.func (.func 147) #[] #[.pointer (some ⟨a.heap.size+3,0,none⟩),.pointer (some ⟨a.heap.size+3+1,0,none⟩)],1⟩,⟨.string ⟨#[40]⟩,.func (.func 100) #[.pointer (some ⟨w.heap.size,0,none⟩)] #[],2⟩] 3));rw [<- j] at y;have z8:l.heap.size<=a.heap.size+5/\a.heap.size+5<=l.heap.size:=by rw [j,putB_size,putB_size];omega
 have N8:l.heap[a.heap.size]? = some (.map #[⟨.string ⟨#[45]⟩,.func (.func 147) #[] #[.pointer (some ⟨a.heap.size+1,0,none⟩),.pointer (some ⟨a.heap.size+1+1,0,none⟩)],0⟩,⟨.string ⟨#[33]⟩,.func (.func 147) #[] #[.pointer (some ⟨a.heap.size+3,0,none⟩),.pointer (some ⟨a.heap.size+3+1,0,none⟩)],1⟩,⟨.string ⟨#[40]⟩,.func (.func 100) #[.pointer (some ⟨w.heap.size,0,none⟩)] #[],2⟩] 3):=by rw [j];exact putB_same _ (by rw [putB_size];omega)
 have I:∀ b,b≠a.heap.size->l.heap[b]? = k.heap[b]?:=fun b hb=>by rw [j,putB_other _ hb,putB_other _ hb]
 have J:=putB_below (.map #[⟨.string ⟨#[45]⟩,.func (.func 147) #[] #[.pointer (some ⟨a.heap.size+1,0,none⟩),.pointer (some ⟨a.heap.size+1+1,0,none⟩)],0⟩,⟨.string ⟨#[33]⟩,.func (.func 147) #[] #[.pointer (some ⟨a.heap.size+3,0,none⟩),.pointer (some ⟨a.heap.size+3+1,0,none⟩)],1⟩,⟨.string ⟨#[40]⟩,.func (.func 100) #[.pointer (some ⟨w.heap.size,0,none⟩)] #[],2⟩] 3) (putB_below (.map #[⟨.string ⟨#[45]⟩,.func (.func 147) #[] #[.pointer (some ⟨a.heap.size+1,0,none⟩),.pointer (some ⟨a.heap.size+1+1,0,none⟩)],0⟩,⟨.string ⟨#[33]⟩,.func (.func 147) #[] #[.pointer (some ⟨a.heap.size+3,0,none⟩),.pointer (some ⟨a.heap.size+3+1,0,none⟩)],1⟩] 2) K6 (Nat.le_refl _)) (Nat.le_refl _);rw [<- j] at J;have ag:=(I _ (by omega)).trans W
 have ai:=(I _ (by omega)).trans Q
 have aa:=(I _ (by omega)).trans A
 have ae:=(I _ (by omega)).trans U
 clear j I N7 N6 K6 W Q A U;have Y:Own l w.heap.size 95 #[.slice ta n cap,.int .i64 (L:Int),.int .i64 0,.map (some d.heap.size),.map (some c.heap.size),.map none]:=(J.block _ (by omega)).trans O3
 have c8:l.cell? ⟨w.heap.size,5,none⟩=some (.map none):=cr Y;have f8:=own_frozen Y 5;go_wp2_with fail;go_ret;have E8:l.setCell ⟨w.heap.size,5,none⟩ (.map (some a.heap.size))=l.setRow w.heap.size #[.slice ta n cap,.int .i64 (L:Int),.int .i64 0,.map (some d.heap.size),.map (some c.heap.size),.map (some a.heap.size)]:=setCell_row Y 5 _;rw [E8];have O9:=Y.row #[.slice ta n cap,.int .i64 (L:Int),.int .i64 0,.map (some d.heap.size),.map (some c.heap.size),.map (some a.heap.size)]
 have T9:∀ b,b≠w.heap.size->(l.setRow w.heap.size #[.slice ta n cap,.int .i64 (L:Int),.int .i64 0,.map (some d.heap.size),.map (some c.heap.size),.map (some a.heap.size)]).heap[b]? = l.heap[b]?:=fun b hb=>setRow_other _ hb
 have M:=Below.of_row (B3.trans (J.mono (by omega))) (Nat.le_refl _) #[.slice ta n cap,.int .i64 (L:Int),.int .i64 0,.map (some d.heap.size),.map (some c.heap.size),.map (some a.heap.size)]
 obtain ⟨ht,hlt,T,hs⟩:=HT.out;have H:=HN.out;refine ⟨rfl,M,⟨⟨?_,?_,?_,?_,?_,?_,?_,?_,?_,?_,?_,?_,hs⟩,?_,Nat.zero_le _⟩⟩
 · exact ht.keep M
 · intro g off h
   have:=hlt g off h;show g≠w.heap.size;omega
 · skip
   rw [show (newC w ta cap toks L).D=d.heap.size by show w.heap.size+1=_;omega]
   exact (T9 _ (by omega)).trans ((J.block _ (by omega)).trans V)
 · skip
   rw [show (newC w ta cap toks L).S=c.heap.size by show w.heap.size+2=_;omega]
   exact (T9 _ (by omega)).trans ((J.block _ (by omega)).trans M2)
 · rw [show (newC w ta cap toks L).O = a.heap.size by show w.heap.size + 3 = _; omega]
   have e1:(newC w ta cap toks L).bm=a.heap.size+1:=by show w.heap.size+4=_;omega
   have e2:(newC w ta cap toks L).bn=a.heap.size+3:=by show w.heap.size+6=_;omega
   unfold Par.operE;rw [e1,e2];exact (T9 _ (by omega)).trans N8
 · rw [show (newC w ta cap toks L).bm = a.heap.size + 1 by show w.heap.size + 4 = _; omega]
   exact (T9 _ (by omega)).trans ag
 · rw [show (newC w ta cap toks L).bm = a.heap.size + 1 by show w.heap.size + 4 = _; omega]
   exact (T9 _ (by omega)).trans ai
 · rw [show (newC w ta cap toks L).bn = a.heap.size + 3 by show w.heap.size + 6 = _; omega]
   exact (T9 _ (by omega)).trans aa
 · rw [show (newC w ta cap toks L).bn = a.heap.size + 3 by show w.heap.size + 6 = _; omega]
   exact (T9 _ (by omega)).trans ae
 · simp only [newC]
   omega
 · have s1 := T.size1
   have s2:=T.size2;have:=M.size;exact ⟨by omega,by omega,fun i hi=>(M.cell (by exact s1)).trans (T.lev i hi),fun i hi=>(M.cell (by exact s2)).trans (T.sgn i hi)⟩
 · have s1 := T.size1
   have s2:=T.size2;simp only [newC];omega
 · rw [show (newC w ta cap toks L).D = d.heap.size by show w.heap.size + 1 = _; omega, show (newC w ta cap toks L).S = c.heap.size by show w.heap.size + 2 = _; omega, show (newC w ta cap toks L).O = a.heap.size by show w.heap.size + 3 = _; omega]
   show (l.setRow w.heap.size #[.slice ta n cap,.int .i64 (L:Int),.int .i64 0,.map (some d.heap.size),.map (some c.heap.size),.map (some a.heap.size)]).heap[w.heap.size]? = some (.cells #[.slice ta toks.length cap,.int .i64 (L:Int),.int .i64 0,.map (some d.heap.size),.map (some c.heap.size),.map (some a.heap.size)] 95 (0,0));rw [<- H];exact O9
theorem any_eql (T:TypeId) (v:Value) (w:World):(binOp .eql 20 (.iface T v) .nilIface).run Tryz.prog w=.ok (.bool false) w:=by kernel_rfl
theorem any_flt (v:Value) (w:World):(Instr.typeAssert (.iface 29 v) 20 29 true).run Tryz.prog w=.ok (.tuple #[v,.bool true]) w:=by kernel_rfl
theorem any_nil (w:World):(binOp .eql 20 .nilIface .nilIface).run Tryz.prog w=.ok (.bool true) w:=by kernel_rfl
section
variable {o:Oper} {a:Act} {w:World} {K:Act->World->Prop} {Q:Exit->Act->World->Prop}
theorem wp_st_row {T:TypeId} {n:Nat} (hT:RowT T n) {x y:Operand} (ho:o.op=.store T x y) {g:Nat} {cs old:Array Value} (hg:Own w g T old) (hx:a.eval x=.pointer (some ⟨g,0,none⟩)) (hy:a.eval y=.agg cs) (hn:cs.size=n) (hm:old.size=n) (h1:cs.all (·.oneCell')=true)
 (h:K (a.put o.dst undef) (w.setRow g cs)):o.wp Tryz.prog a w K Q:=by
 obtain ⟨d,_,_,b⟩:=hT;exact wp_store_row T x y ho g cs hx hy T old hg (by rw [b,hn]) (by rw [hm,hn]) h1 h
theorem wp_st_err {x:Operand} {z u:Int} (ho:o.op=.store 27 x (.const (.int .i64 z))) {p:Addr} (hx:a.eval x=.pointer (some p)) (hu:w.cell? p=some (.int .i64 u)) (hf:w.frozen? p=false) (h:K (a.put o.dst undef) (w.setCell p (.int .i64 z))):o.wp Tryz.prog a w K Q:=by
 have b:(execOp a.eval o).run Tryz.prog w=.ok .skip (w.setCell p (.int .i64 z)):=by
  unfold execOp;simp only [ho,hx];go_simp
 unfold Oper.wp;rw [b];exact h
end
theorem catch_pg {w:World} {n t y f:Nat} {ct cf:Array Value} {cy:Int} {p q:Int} {older:List PanicEntry} (h1:Own w t 26 ct) (hs1:ct.size=zPg.size) (h2:Own w y 27 #[.int .i64 cy]) (h3:Own w f 29 cf) (hs3:cf.size=2) (hn:n<=t/\n<=y/\n<=f) (hd:t≠y/\t≠f/\y≠f) :
 CallsD Tryz.prog 36 #[.pointer (some ⟨t,0,none⟩),.pointer (some ⟨y,0,none⟩),.pointer (some ⟨f,0,none⟩)] (.panicking ({ v:=.iface 29 (.agg #[.int .i64 p,.int .i64 q]),recovered:=false } :: older)) w fun e u' w' =>
  e=.returned (.tuple #[])/\u'=.panicking ({ v:=.iface 29 (.agg #[.int .i64 p,.int .i64 q]),recovered:=true } :: older)/\Own w' t 26 zPg/\Own w' y 27 #[.int .i64 30]/\Own w' f 29 #[.int .i64 p,.int .i64 q]/\Below n w w':=by
 refine callsD_of_wpS Tryz.func36 rfl fun c₀ cs hu=>?_
 apply wpS_seq;apply wpS_region;simp [wpOpsS,go_sem,recoverD,hu,Tryz.ntmps36,Exit.thenS];rw [show (#[.pointer (some ⟨t,0,none⟩),.pointer (some ⟨y,0,none⟩),.pointer (some ⟨f,0,none⟩)]++(((Array.replicate 17 undef).setIfInBounds 4 (.iface 29 (.agg #[.int .i64 p,.int .i64 q]))).setIfInBounds 0 (.iface 29 (.agg #[.int .i64 p,.int .i64 q]))):Array Value)=#[.pointer (some ⟨t,0,none⟩),.pointer (some ⟨y,0,none⟩),.pointer (some ⟨f,0,none⟩),.iface 29 (.agg #[.int .i64 p,.int .i64 q]),undef,undef,undef,.iface 29 (.agg #[.int .i64 p,.int .i64 q]),undef,undef,undef,undef,undef,undef,undef,undef,undef,undef,undef,undef] from by kernel_rfl]
 refine wpS_of_wp ?_;generalize hQ:(fun e a' w'=>bodyPostS _ _ _ _ _ e a' _ w')=Q
 have A:=any_eql;have s:=any_flt;go_upto_region 2 with (fail)
 go_upto_region 6 with (fail)
 have B:=h1.lt;have x:=h2.lt;have z:=h3.lt;have c:=(Own.new w 29 #[.int .i64 p,.int .i64 q]).alloc (.cells #[.slice none 0 0,.slice none 0 0,.slice none 0 0] 26);have a:=Own.new (w.alloc (.cells #[.int .i64 p,.int .i64 q] 29)) 26 #[.slice none 0 0,.slice none 0 0,.slice none 0 0];rw [World.size_alloc] at a;have i:=(h1.alloc (.cells #[.int .i64 p,.int .i64 q] 29)).alloc (.cells #[.slice none 0 0,.slice none 0 0,.slice none 0 0] 26);have b:=(h2.alloc (.cells #[.int .i64 p,.int .i64 q] 29)).alloc (.cells #[.slice none 0 0,.slice none 0 0,.slice none 0 0] 26);have d:=(h3.alloc (.cells #[.int .i64 p,.int .i64 q] 29)).alloc (.cells #[.slice none 0 0,.slice none 0 0,.slice none 0 0] 26);have k:Below n w ((w.alloc (.cells #[.int .i64 p,.int .i64 q] 29)).alloc (.cells #[.slice none 0 0,.slice none 0 0,.slice none 0 0] 26)):=((Below.refl n w).alloc (by omega) _).alloc (by rw [World.size_alloc];omega) _
 refine wp_region_held (S:=fun W=>Own W w.heap.size 29 #[.int .i64 p,.int .i64 q]/\Own W (w.heap.size+1) 26 #[.slice none 0 0,.slice none 0 0,.slice none 0 0]) (by kernel_rfl) ?_
 change wpAnyH _ _ _ _ _ _ _ _ (((w.alloc (.cells #[.int .i64 p,.int .i64 q] 29)).alloc (.cells #[.slice none 0 0,.slice none 0 0,.slice none 0 0] 26)).drew);have m:=k.drew;have c:Own (((w.alloc (.cells #[.int .i64 p,.int .i64 q] 29)).alloc (.cells #[.slice none 0 0,.slice none 0 0,.slice none 0 0] 26)).drew) _ _ _:=c;have a:Own (((w.alloc (.cells #[.int .i64 p,.int .i64 q] 29)).alloc (.cells #[.slice none 0 0,.slice none 0 0,.slice none 0 0] 26)).drew) _ _ _:=a;have i:Own (((w.alloc (.cells #[.int .i64 p,.int .i64 q] 29)).alloc (.cells #[.slice none 0 0,.slice none 0 0,.slice none 0 0] 26)).drew) _ _ _:=i;have b:Own (((w.alloc (.cells #[.int .i64 p,.int .i64 q] 29)).alloc (.cells #[.slice none 0 0,.slice none 0 0,.slice none 0 0] 26)).drew) _ _ _:=b;have d:Own (((w.alloc (.cells #[.int .i64 p,.int .i64 q] 29)).alloc (.cells #[.slice none 0 0,.slice none 0 0,.slice none 0 0] 26)).drew) _ _ _:=d;clear k;generalize (((w.alloc (.cells #[.int .i64 p,.int .i64 q] 29)).alloc (.cells #[.slice none 0 0,.slice none 0 0,.slice none 0 0] 26)).drew)=W7 at c a i b d m ⊢;have l:=And.intro c a;refine dr_take 0 (.agg #[.slice none 0 0,.slice none 0 0,.slice none 0 0]) rfl rfl (by kernel_rfl) (by kernel_rfl) (by kernel_rfl) (fun _ _ _ h=>by rw [<- hQ] at h ⊢;exact h) (fun W h=>run_ld rowPg rfl rfl h.2 rfl) l ?_
 change wpAnyH _ _ _ _ _ _ _ F20_ _;delta F20_;refine dr_take 1 (.agg #[.int .i64 p,.int .i64 q]) rfl rfl (by kernel_rfl) (by kernel_rfl) (by kernel_rfl) (fun _ _ _ h=>by rw [<- hQ] at h ⊢;exact h) (fun W h=>run_ld rowFl rfl rfl h.1 rfl) l ?_
 change wpAnyH _ _ _ _ _ _ _ F20_ _;delta F20_;refine do1 2 rfl rfl ?_;refine wp_st_row (cs:=#[.slice none 0 0,.slice none 0 0,.slice none 0 0]) rowPg rfl i rfl rfl rfl hs1 (by kernel_rfl) ?_
 have c:=c.other (g:=t) #[.slice none 0 0,.slice none 0 0,.slice none 0 0] (by omega)
 have a:=a.other (g:=t) #[.slice none 0 0,.slice none 0 0,.slice none 0 0] (by omega)
 have i:=i.row #[.slice none 0 0,.slice none 0 0,.slice none 0 0];have b:=b.other (g:=t) #[.slice none 0 0,.slice none 0 0,.slice none 0 0] (by omega)
 have d:=d.other (g:=t) #[.slice none 0 0,.slice none 0 0,.slice none 0 0] (by omega)
 have o:=Below.of_row m (g:=t) (by omega) #[.slice none 0 0,.slice none 0 0,.slice none 0 0]
 refine ⟨⟨c,a⟩,?_⟩;change wpAnyH _ _ _ _ _ _ _ F20_ _;delta F20_;refine do1 3 rfl rfl ?_;refine wp_st_err (u:=cy) rfl rfl (cr b) (own_frozen b 0) ?_;have E:(W7.setRow t #[.slice none 0 0,.slice none 0 0,.slice none 0 0]).setCell ⟨y,0,none⟩ (.int .i64 30)=(W7.setRow t #[.slice none 0 0,.slice none 0 0,.slice none 0 0]).setRow y #[.int .i64 30]:=setCell_row b 0 _;rw [E];have c:=c.other (g:=y) #[.int .i64 30] (by omega)
 have a:=a.other (g:=y) #[.int .i64 30] (by omega)
 have i:=i.other (g:=y) #[.int .i64 30] (by omega)
 have b:=b.row #[.int .i64 30];have d:=d.other (g:=y) #[.int .i64 30] (by omega)
 have r:=Below.of_row o (g:=y) (by omega) #[.int .i64 30]
 refine ⟨⟨c,a⟩,?_⟩;change wpAnyH _ _ _ _ _ _ _ F20_ _;delta F20_;refine do1 4 rfl rfl ?_;refine wp_st_row (cs:=#[.int .i64 p,.int .i64 q]) rowFl rfl d rfl rfl rfl hs3 (by kernel_rfl) ?_
 have c:=c.other (g:=f) #[.int .i64 p,.int .i64 q] (by omega)
 have a:=a.other (g:=f) #[.int .i64 p,.int .i64 q] (by omega)
 have i:=i.other (g:=f) #[.int .i64 p,.int .i64 q] (by omega)
 have b:=b.other (g:=f) #[.int .i64 p,.int .i64 q] (by omega)
 have d:=d.row #[.int .i64 p,.int .i64 q];have j:=Below.of_row r (g:=f) (by omega) #[.int .i64 p,.int .i64 q]
 refine ⟨⟨c,a⟩,?_⟩;refine wpAnyH_done (by kernel_rfl) ?_ _
 subst hQ;simp [bodyPostS,results,Tryz.results36];exact ⟨rfl,i,b,d,j⟩
end Go.Proofs.YtbgfkdiihnidaaaGreatDoor

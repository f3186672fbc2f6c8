/- The proof, part 18: texts that belong together, in one. -/
import Derived.Test.YtggbkldniffbfaaGreatDoorTAF
set_option maxRecDepth 100000
set_option maxHeartbeats 20000000
namespace Go.Proofs.YtggbkldniffbfaaGreatDoor
open Go.RowKit
set_option linter.unusedVariables false
def sk:Bool→List UInt8→Nat
 | _,[]=>0
 | true,c::r=>if c=10 then 1+sk false r else 1+sk true r
 | false,c::r=>if blankB (c.toNat:Int)=true then 1+sk false r else if c=47∧r.head? = some 47 then 1+sk true r else 0
theorem feed_not {c:UInt8} (h:¬ c=10):feedB (c.toNat:Int)=true:=by
 unfold feedB
 exact b_t (fun e=>h (u8_int.1 (by simpa using e)))
theorem feed_no:feedB ((10:UInt8).toNat:Int)=false:=by decide
theorem sk_true:∀ l:List UInt8,sk true l=spanN feedB l+sk false (l.drop (spanN feedB l))
 | []=>rfl
 | c :: r => by
   have k:=sk_true r
   by_cases hc:c=10
   · subst hc
     have e:spanN feedB (10::r)=0:=by simp only [spanN];rw [if_neg (by rw [feed_no];decide)]
     rw [e,List.drop_zero]
     have hb:blankB ((10:UInt8).toNat:Int)=true:=by decide
     simp only [sk]
     rw [if_pos hb]
     simp
   · have e : spanN feedB (c :: r) = spanN feedB r + 1 := by simp only [spanN]; rw [if_pos (feed_not hc)]
     rw [e,List.drop_succ_cons]
     simp only [sk]
     rw [if_neg hc]
     omega
theorem pass_sk:∀ (n:Nat) (l:List UInt8),l.length≤n→passN l=sk false l
 | _,[],_=>rfl
 | 0,c::r,h=>by simp at h
 | n + 1, c :: r, h => by
   simp only [List.length_cons] at h
   by_cases hb:blankB (c.toNat:Int)=true
   · rw [pass_cons c r hb, pass_sk n r (by omega)]
     simp only [sk]
     rw [if_pos hb]
   · have hb' : blankB (c.toNat : Int) = false := by simpa using hb
     by_cases hp:Lib.hasPrefix (c::r) slashes=true
     · have hc : c = 47 ∧ r.head? = some 47 := by
        cases r with
        | nil=>rw [prefix_one] at hp;cases hp
        | cons d r=>rw [prefix_two] at hp;simpa using hp
       have h10:¬ c=10:=by rw [hc.1];decide
       have e1:spanN feedB (c::r)=spanN feedB r+1:=by simp only [spanN];rw [if_pos (feed_not h10)]
       rw [pass_remark hp,pass_sk n _ (by rw [e1];simp;omega),← sk_true]
       simp only [sk]
       rw [if_neg h10,if_neg hb,if_pos hc]
     · have hp' : Lib.hasPrefix (c :: r) slashes = false := by simpa using hp
       rw [pass_none rfl hp' hb']
       simp only [sk]
       rw [if_neg hb,if_neg]
       rintro ⟨h1,h2⟩
       cases r with
       | nil=>cases h2
       | cons d r =>
         have:d=47:=by simpa using h2
         rw [h1,this,prefix_two] at hp'
         revert hp';decide
theorem passN_sk (l:List UInt8):passN l=sk false l:=pass_sk _ l (Nat.le_refl _)
theorem sk_in:∀ (b:Bool) (p X Y:List UInt8),sk b (p++X)<p.length→¬ Y.head? = some 47→sk b (p++Y)=sk b (p++X)
 | _,[],_,_,h,_=>by simp at h
 | true, c :: p, X, Y, h, hy => by
   simp only [List.cons_append,sk,List.length_cons] at h ⊢
   split
   · rename_i hc;rw [if_pos hc] at h;rw [sk_in false p X Y (by omega) hy]
   · rename_i hc;rw [if_neg hc] at h;rw [sk_in true p X Y (by omega) hy]
 | false, c :: p, X, Y, h, hy => by
   simp only [List.cons_append,sk,List.length_cons] at h ⊢
   by_cases hb:blankB (c.toNat:Int)=true
   · rw [if_pos hb] at h;rw [if_pos hb,if_pos hb,sk_in false p X Y (by omega) hy]
   · rw [if_neg hb] at h; rw [if_neg hb, if_neg hb]
     cases p with
     | nil =>
       simp only [List.nil_append,List.length_nil] at h ⊢
       by_cases h1:c=47∧X.head? = some 47
       · rw [if_pos h1] at h;omega
       · rw [if_neg h1,if_neg (fun h2=>hy h2.2)]
     | cons d p =>
       have k:∀ Z,(c=47∧(d::p++Z).head? = some 47)↔(c=47∧d=47):=fun Z=>by simp
       by_cases h1:c=47∧d=47
       · rw [if_pos ((k X).2 h1)] at h
         rw [if_pos ((k X).2 h1),if_pos ((k Y).2 h1)]
         rw [sk_in true (d::p) X Y (by omega) hy]
       · rw [if_neg (fun h2=>h1 ((k X).1 h2)),if_neg (fun h2=>h1 ((k Y).1 h2))]
structure Nx where
 kind:Int
 n:Nat
 wd:Int
 fa:Nat
 fr:Int
def letterH:List UInt8→Bool
 | []=>false
 | c::_=>letterB (c.toNat:Int)
def nameL (l:List UInt8):Nx :=
 if wordL (l.take (spanN namedB l))=true then ⟨2,spanN namedB l,0,0,0⟩ else if 32<spanN namedB l then ⟨0,0,0,32,2⟩ else ⟨1,spanN namedB l,0,0,0⟩
def numK (n:Nat) (b:Bool):Option Int→Nx
 | none=>⟨0,0,0,0,3⟩
 | some v=>if b=true then ⟨0,0,0,n,4⟩ else ⟨3,n,v,0,0⟩
def numL (l:List UInt8):Nx:=numK (spanN digitB l) (letterH (l.drop (spanN digitB l))) (valueO (l.take (spanN digitB l)))
def nextL:List UInt8→Nx
 | []=>⟨0,0,0,0,1⟩
 | c::r=>if letterB (c.toNat:Int)=true then nameL (c::r) else if digitB (c.toNat:Int)=true then numL (c::r) else if signB (c.toNat:Int)=true then ⟨4,aheadN (c::r),0,0,0⟩ else ⟨0,0,0,0,1⟩
def toRes (q:Nat) (l:List UInt8) (x:Nx):Res:=if x.fr=0 then ⟨x.kind,⟨(l.take x.n).toArray⟩,x.wd,q,0,0⟩ else ⟨0,⟨#[]⟩,0,0,((q+x.fa:Nat):Int),x.fr⟩
theorem cut_list (s:ByteArray) (q n:Nat):(s.extract q s.size).extract 0 n=⟨((bytesFrom s q).take n).toArray⟩:=by
 apply ByteArray.ext
 apply Array.ext'
 rw [Lib.extract_data,tail_list]
 simp
theorem behind_list (s:ByteArray) (q:Nat):behindB s q=letterH ((bytesFrom s q).drop (spanN digitB (bytesFrom s q))):=by
 unfold behindB
 rw [from_drop]
 by_cases h:q+spanN digitB (bytesFrom s q)<s.size
 · rw [from_at s _ h,decide_eq_true h,Bool.true_and,← bt_byte s _ h];rfl
 · rw [decide_eq_false h,Bool.false_and,from_end s _ (by omega)];rfl
theorem nextR_list (s:ByteArray) (q:Nat) (hq:q<s.size):nextR s q=toRes q (bytesFrom s q) (nextL (bytesFrom s q)):=by
 have hl:=from_len s q
 have hle:=spanN_le namedB (bytesFrom s q)
 have e:nextL (bytesFrom s q)=if letterB (PlainAid.bt s q)=true then nameL (bytesFrom s q) else if digitB (PlainAid.bt s q)=true then numL (bytesFrom s q) else if signB (PlainAid.bt s q)=true then ⟨4,aheadN (bytesFrom s q),0,0,0⟩ else ⟨0,0,0,0,1⟩:=by
  rw [← bt_byte s q hq,from_at s q hq];rfl
 rw [e]
 unfold nextR
 split
 · have hz : (nameX s q).size = spanN namedB (bytesFrom s q) := extract_size s q _ (by omega) (by omega)
   have hx:nameX s q=⟨((bytesFrom s q).take (spanN namedB (bytesFrom s q))).toArray⟩:=cut_list s q _
   unfold nameR nameL
   rw [wordB_list,Lib.toList_data,hz,hx]
   by_cases h1:wordL ((bytesFrom s q).take (spanN namedB (bytesFrom s q)))=true
   · rw [if_pos h1,if_pos h1];rfl
   · rw [if_neg h1, if_neg h1]
     by_cases h2:32<spanN namedB (bytesFrom s q)
     · rw [if_pos h2,if_pos h2];rfl
     · rw [if_neg h2,if_neg h2];rfl
 · split
   · have hx : numX s q = ⟨((bytesFrom s q).take (spanN digitB (bytesFrom s q))).toArray⟩ := cut_list s q _
     unfold numR numL
     rw [← behind_list,hx]
     cases hv:valueO ((bytesFrom s q).take (spanN digitB (bytesFrom s q))) with
     | none=>rfl
     | some v =>
       simp only [numC,numK]
       by_cases hb:behindB s q=true
       · rw [if_pos hb,if_pos hb];rfl
       · rw [if_neg hb,if_neg hb];rfl
   · split
     · have hx : signX s q = ⟨((bytesFrom s q).take (aheadN (bytesFrom s q))).toArray⟩ := cut_list s q _
       unfold signR
       rw [hx];rfl
     · rfl
theorem ahead_pos {c:UInt8} {r:List UInt8} (h:signB (c.toNat:Int)=true):0<aheadN (c::r):=by
 unfold aheadN
 split
 · omega
 · simp only [firstN];rw [if_pos h];omega
theorem nextL_good (l:List UInt8) (h:(nextL l).fr=0):0<(nextL l).n∧(nextL l).n≤l.length:=by
 cases l with
 | nil=>simp [nextL] at h
 | cons c r =>
   simp only [nextL] at h ⊢
   split at h
   · rename_i h0
     rw [if_pos h0]
     have hp:0<spanN namedB (c::r):=span_pos (by unfold namedB;rw [h0];rfl)
     have hl:=spanN_le namedB (c::r)
     unfold nameL at h ⊢
     split
     · exact ⟨hp,hl⟩
     · rename_i hw
       rw [if_neg hw] at h
       split
       · rename_i h3;rw [if_pos h3] at h;simp at h
       · exact ⟨hp,hl⟩
   · rename_i h0
     rw [if_neg h0]
     split at h
     · rename_i h1
       rw [if_pos h1]
       have hp:0<spanN digitB (c::r):=span_pos h1
       have hl:=spanN_le digitB (c::r)
       unfold numL at h ⊢
       cases hv:valueO ((c::r).take (spanN digitB (c::r))) with
       | none=>rw [hv] at h;simp [numK] at h
       | some v =>
         rw [hv] at h
         simp only [numK] at h ⊢
         split
         · rename_i hb;rw [if_pos hb] at h;simp at h
         · exact ⟨hp,hl⟩
     · rename_i h1
       rw [if_neg h1]
       split at h
       · rename_i h2
         rw [if_pos h2]
         exact ⟨ahead_pos h2,ahead_le _⟩
       · simp at h
def goL:Nat→Nat→List UInt8→List Res × Int × Int
 | 0,_,_=>([],0,0)
 | f + 1, q, l => if l = [] then ([], 0, 0) else if (nextL l).fr = 0 then
     (toRes q l (nextL l)::(goL f (q+(nextL l).n+sk false (l.drop (nextL l).n)) ((l.drop (nextL l).n).drop (sk false (l.drop (nextL l).n)))).1,(goL f (q+(nextL l).n+sk false (l.drop (nextL l).n)) ((l.drop (nextL l).n).drop (sk false (l.drop (nextL l).n)))).2)
   else ([],((q+(nextL l).fa:Nat):Int),(nextL l).fr)
theorem toRes_fr (q:Nat) (l:List UInt8):(toRes q l (nextL l)).fr=(nextL l).fr:=by
 unfold toRes;split
 · rename_i h;exact h.symm
 · rfl
theorem goH_list (s:ByteArray):∀ (f q:Nat),goH s f q=goL f q (bytesFrom s q)
 | 0,q=>rfl
 | f + 1, q => by
   by_cases hq:q<s.size
   · have hne : ¬ bytesFrom s q = [] := by rw [from_at s q hq]; simp
     have hR:=nextR_list s q hq
     simp only [goL]
     rw [if_neg hne]
     by_cases hf:(nextL (bytesFrom s q)).fr=0
     · have hf' : (nextR s q).fr = 0 := by rw [hR, toRes_fr]; exact hf
       obtain ⟨_,g2⟩:=nextL_good _ hf
       have hz:(nextR s q).text.size=(nextL (bytesFrom s q)).n:=by
        rw [hR];unfold toRes;rw [if_pos hf]
        show (((bytesFrom s q).take _).toArray).size=_
        simp;omega
       have e:nx s q=q+(nextL (bytesFrom s q)).n+sk false ((bytesFrom s q).drop (nextL (bytesFrom s q)).n):=by
        unfold nx;rw [hz,passN_sk,from_drop]
       rw [goH_tok hq hf',if_pos hf,goH_list s f (nx s q),← hR,e,from_drop,from_drop]
     · have hf' : ¬ (nextR s q).fr = 0 := by rw [hR, toRes_fr]; exact hf
       rw [goH_fault hq hf',if_neg hf,hR]
       unfold toRes
       rw [if_neg hf]
   · rw [goH_end hq, from_end s q (by omega)]
     simp [goL]
theorem goL_more:∀ (f g q:Nat) (l:List UInt8),l.length<f→l.length<g→goL f q l=goL g q l
 | 0,_,_,_,h,_=>absurd h (Nat.not_lt_zero _)
 | _,0,_,_,_,h=>absurd h (Nat.not_lt_zero _)
 | f + 1, g + 1, q, l, hf, hg => by
   simp only [goL]
   by_cases h0:l=[]
   · rw [if_pos h0,if_pos h0]
   · rw [if_neg h0, if_neg h0]
     by_cases h1:(nextL l).fr=0
     · obtain ⟨g1, g2⟩ := nextL_good _ h1
       rw [if_pos h1,if_pos h1,goL_more f g _ _ (by simp;omega) (by simp;omega)]
     · rw [if_neg h1,if_neg h1]
def lexL (q:Nat) (l:List UInt8):List Res × Int × Int:=goL (l.length+1) q l
theorem lexL_fault {q:Nat} {l:List UInt8} (h0:¬ l=[]) (h:¬ (nextL l).fr=0):lexL q l=([],((q+(nextL l).fa:Nat):Int),(nextL l).fr):=by
 unfold lexL;simp only [goL];rw [if_neg h0,if_neg h]
theorem lexL_tok {q:Nat} {l:List UInt8} (h:(nextL l).fr=0):lexL q l=(toRes q l (nextL l)::(lexL (q+(nextL l).n+sk false (l.drop (nextL l).n)) ((l.drop (nextL l).n).drop (sk false (l.drop (nextL l).n)))).1,(lexL (q+(nextL l).n+sk false (l.drop (nextL l).n)) ((l.drop (nextL l).n).drop (sk false (l.drop (nextL l).n)))).2):=by
 obtain ⟨g1,g2⟩:=nextL_good _ h
 have h0:¬ l=[]:=by rintro rfl;simp at g2;omega
 unfold lexL
 conv=>lhs;simp only [goL]
 rw [if_neg h0,if_pos h,goL_more l.length _ _ _ (by simp;omega) (Nat.lt_succ_self _)]
theorem goL_clean:∀ (f q:Nat) (l:List UInt8),(goL f q l).2.2=0→(goL f q l).2.1=0
 | 0,_,_,_=>rfl
 | f + 1, q, l, h => by
   simp only [goL] at h ⊢
   split
   · rfl
   · rename_i h0
     rw [if_neg h0] at h
     split
     · rename_i h1
       rw [if_pos h1] at h
       exact goL_clean f _ _ h
     · rename_i h1
       rw [if_neg h1] at h
       exact absurd h h1
def restL (e:Nat) (l:List UInt8):List Res × Int × Int:=lexL (e+sk false l) (l.drop (sk false l))
theorem front_list (s:ByteArray):frontR s=restL 0 s.data.toList:=by
 unfold frontR restL lexL
 have hz:s.size=s.data.toList.length:=by simp
 rw [passN_sk,from_nought,goH_list,Nat.zero_add]
 have e:bytesFrom s (sk false s.data.toList)=s.data.toList.drop (sk false s.data.toList):=rfl
 rw [e]
 exact goL_more _ _ _ _ (by rw [List.length_drop];omega) (Nat.lt_succ_self _)
theorem rest_nil {e:Nat} {l:List UInt8} (h:l.drop (sk false l)=[]):restL e l=([],0,0):=by
 unfold restL;rw [h];rfl
theorem rest_fault {e:Nat} {l m:List UInt8} (hm:l.drop (sk false l)=m) (h0:¬ m=[]) (h:¬ (nextL m).fr=0):restL e l=([],((e+sk false l+(nextL m).fa:Nat):Int),(nextL m).fr):=by
 unfold restL;rw [hm,lexL_fault h0 h]
theorem rest_tok {e:Nat} {l m:List UInt8} (hm:l.drop (sk false l)=m) (h:(nextL m).fr=0):restL e l=(toRes (e+sk false l) m (nextL m)::(restL (e+sk false l+(nextL m).n) (m.drop (nextL m).n)).1,(restL (e+sk false l+(nextL m).n) (m.drop (nextL m).n)).2):=by
 unfold restL;rw [hm,lexL_tok h]
set_option linter.unusedVariables false
theorem digitsV_in:∀ (l:List UInt8) (v z:Int),0≤v→v≤9223372036854775807→digitsV l v=some z→0≤z∧z≤9223372036854775807
 | [], v, z, h0, h1, h => by
   simp only [digitsV,Option.some.injEq] at h
   omega
 | c :: r, v, z, h0, h1, h => by
   simp only [digitsV] at h
   split at h
   · cases h
   · rename_i hd
     split at h
     · cases h
     · rename_i hv
       have hd:48≤(c.toNat:Int)∧(c.toNat:Int)≤57:=by
        have:digitB (c.toNat:Int)=true:=by simpa using hd
        unfold digitB at this
        simpa using this
       have hv2:v≤(9223372036854775807-((c.toNat:Int)-48)) / 10:=by omega
       exact digitsV_in r _ z (by omega) (by omega) h
theorem valueO_in {l:List UInt8} {z:Int} (h:valueO l=some z):0≤z∧z≤9223372036854775807:=by
 cases l with
 | nil=>simp [valueO] at h
 | cons c r =>
   simp only [valueO] at h
   split at h
   · cases h
   · exact digitsV_in _ 0 z (by decide) (by decide) h
theorem nextL_wd (l:List UInt8):0≤(nextL l).wd∧(nextL l).wd≤9223372036854775807:=by
 cases l with
 | nil=>exact ⟨Int.le_refl 0,(by decide:(0:Int)≤9223372036854775807)⟩
 | cons c r =>
   rw [show nextL (c::r)=if letterB (c.toNat:Int)=true then nameL (c::r) else if digitB (c.toNat:Int)=true then numL (c::r) else if signB (c.toNat:Int)=true then ⟨4,aheadN (c::r),0,0,0⟩ else ⟨0,0,0,0,1⟩ from rfl]
   by_cases h1:letterB (c.toNat:Int)=true
   · rw [if_pos h1]
     unfold nameL
     by_cases h2:wordL ((c::r).take (spanN namedB (c::r)))=true
     · rw [if_pos h2];exact ⟨Int.le_refl 0,(by decide:(0:Int)≤9223372036854775807)⟩
     · rw [if_neg h2]
       by_cases h3:32<spanN namedB (c::r)
       · rw [if_pos h3];exact ⟨Int.le_refl 0,(by decide:(0:Int)≤9223372036854775807)⟩
       · rw [if_neg h3];exact ⟨Int.le_refl 0,(by decide:(0:Int)≤9223372036854775807)⟩
   · rw [if_neg h1]
     by_cases h2:digitB (c.toNat:Int)=true
     · rw [if_pos h2]
       unfold numL
       cases hv:valueO ((c::r).take (spanN digitB (c::r))) with
       | none=>exact ⟨Int.le_refl 0,(by decide:(0:Int)≤9223372036854775807)⟩
       | some z =>
         simp only [numK]
         split
         · exact ⟨Int.le_refl 0,(by decide:(0:Int)≤9223372036854775807)⟩
         · exact valueO_in hv
     · rw [if_neg h2]
       split <;> exact ⟨Int.le_refl 0,(by decide:(0:Int)≤9223372036854775807)⟩
theorem toRes_wd (q:Nat) (l:List UInt8):0≤(toRes q l (nextL l)).wd∧(toRes q l (nextL l)).wd≤9223372036854775807:=by
 unfold toRes
 split
 · exact nextL_wd l
 · simp
theorem goL_wd:∀ (f q:Nat) (l:List UInt8),∀ x∈(goL f q l).1,0≤x.wd∧x.wd≤9223372036854775807
 | 0,q,l,x,hx=>by simp [goL] at hx
 | f + 1, q, l, x, hx => by
   simp only [goL] at hx
   split at hx
   · simp at hx
   · split at hx
     · rcases List.mem_cons.1 hx with rfl | hx
       · exact toRes_wd q l
       · exact goL_wd f _ _ x hx
     · simp at hx
theorem scanX_wd (s:ByteArray):∀ x∈(scanX s).1,0≤x.wd∧x.wd≤9223372036854775807:=by
 unfold scanX
 split
 · simp
 · split
   · rw [front_list]
     exact goL_wd _ _ _
   · simp
end Go.Proofs.YtggbkldniffbfaaGreatDoor

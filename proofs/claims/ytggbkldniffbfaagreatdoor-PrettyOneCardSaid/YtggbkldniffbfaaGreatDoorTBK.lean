/- The proof, part 37: texts that belong together, in one. -/
import Derived.Test.YtggbkldniffbfaaGreatDoorTAR
import Derived.Test.YtggbkldniffbfaaGreatDoorTBJ
import Derived.Test.YtggbkldniffbfaaGreatDoorTAW
set_option maxRecDepth 100000
set_option maxHeartbeats 20000000
namespace Go.Proofs.YtggbkldniffbfaaGreatDoor
open Go.RowKit
set_option linter.unusedVariables false
def stopH:List UInt8→Bool
 | []=>true
 | c::_=>blankB (c.toNat:Int)
theorem blank_vals {c:UInt8} (h:blankB (c.toNat:Int)=true):c=32∨c=9∨c=10∨c=13:=by
 unfold blankB at h
 rcases of_decide_eq_true h with h | h | h | h
 · exact .inl (u8_int.1 h)
 · exact .inr (.inl (u8_int.1 h))
 · exact .inr (.inr (.inl (u8_int.1 h)))
 · exact .inr (.inr (.inr (u8_int.1 h)))
theorem span_cut {f:Int→Bool} (X:List UInt8):∀ p:List UInt8,spanN f (p++X)≤p.length→spanN f p=spanN f (p++X)
 | [],h=>by simp only [List.length_nil] at h;simp only [spanN];omega
 | c :: p, h => by
   simp only [List.cons_append,spanN,List.length_cons] at h ⊢
   split
   · rename_i hc
     rw [if_pos hc] at h
     rw [span_cut X p (by omega)]
   · rfl
def longW (l:List UInt8):Bool:=List.isPrefixOf [61,61] l || List.isPrefixOf [33,61] l || List.isPrefixOf [60,61] l || List.isPrefixOf [62,61] l || List.isPrefixOf [60,60] l || List.isPrefixOf [62,62] l
theorem longW_eq (l:List UInt8):longB l=longW l:=rfl
theorem longW_one (c:UInt8):longB [c]=false:=by
 rw [longW_eq];simp [longW,List.isPrefixOf]
theorem longW_cons (c d:UInt8) (r:List UInt8):longB (c::d::r)=longB [c,d]:=by
 rw [longW_eq,longW_eq];simp only [longW,List.isPrefixOf_cons_cons,List.isPrefixOf_nil_left]
theorem ahead_cut (c:UInt8) (p X:List UInt8) (h:aheadN (c::p++X)≤(c::p).length):aheadN (c::p)=aheadN (c::p++X):=by
 unfold aheadN at h ⊢
 cases p with
 | cons d p =>
   simp only [List.cons_append] at h ⊢
   rw [longW_cons c d (p++X),longW_cons c d p]
   rfl
 | nil =>
   by_cases hl:longB ([c]++X)=true
   · rw [if_pos hl] at h;simp at h
   · rw [if_neg hl, if_neg (by rw [longW_one]; decide)]
     rfl
theorem nextL_cut {p X:List UInt8} (hp:¬ p=[]) (h:(nextL (p++X)).fr=0) (hn:(nextL (p++X)).n≤p.length):nextL p=nextL (p++X):=by
 cases p with
 | nil=>exact absurd rfl hp
 | cons c p =>
   simp only [List.cons_append,nextL] at h hn ⊢
   by_cases h0:letterB (c.toNat:Int)=true
   · rw [if_pos h0] at h hn
     rw [if_pos h0,if_pos h0]
     have hle:spanN namedB (c::(p++X))≤(c::p).length:=by
      unfold nameL at h hn
      split at h
      · rename_i hw;rw [if_pos hw] at hn;exact hn
      · rename_i hw
        rw [if_neg hw] at hn
        split at h
        · simp at h
        · rename_i h3;rw [if_neg h3] at hn;exact hn
     have k:=span_cut X (c::p) hle
     have kl:=spanN_le namedB (c::p)
     unfold nameL
     have e:=(List.take_append_of_le_length (l₂:=X) kl).symm
     simp only [List.cons_append] at k e
     rw [k] at e
     rw [k,e]
   · rw [if_neg h0] at h hn
     rw [if_neg h0,if_neg h0]
     by_cases h1:digitB (c.toNat:Int)=true
     · rw [if_pos h1] at h hn
       rw [if_pos h1,if_pos h1]
       unfold numL at h hn ⊢
       cases hv:valueO ((c::(p++X)).take (spanN digitB (c::(p++X)))) with
       | none=>rw [hv] at h;simp [numK] at h
       | some v =>
         rw [hv] at h hn
         simp only [numK] at h hn
         have hb:letterH ((c::(p++X)).drop (spanN digitB (c::(p++X))))=false:=by
          cases hb:letterH ((c::(p++X)).drop (spanN digitB (c::(p++X)))) with
          | false=>rfl
          | true=>rw [hb] at h;simp at h
         rw [hb] at hn
         have hle:spanN digitB (c::(p++X))≤(c::p).length:=hn
         have k:=span_cut X (c::p) hle
         have kl:=spanN_le digitB (c::p)
         have e:=(List.take_append_of_le_length (l₂:=X) kl).symm
         have e2:=(List.drop_append_of_le_length (l₂:=X) kl)
         simp only [List.cons_append] at k e e2
         rw [k] at e e2
         rw [k,e,hv,hb]
         have:letterH (List.drop (spanN digitB (c::(p++X))) (c::p))=false:=by
          rw [e2] at hb
          cases hd:List.drop (spanN digitB (c::(p++X))) (c::p) with
          | nil=>rfl
          | cons d r=>rw [hd] at hb;exact hb
         rw [this]
     · rw [if_neg h1] at h hn
       rw [if_neg h1,if_neg h1]
       by_cases h2:signB (c.toNat:Int)=true
       · rw [if_pos h2] at hn
         rw [if_pos h2,if_pos h2]
         have k:=ahead_cut c p X hn
         simp only [List.cons_append] at k
         rw [k]
       · rw [if_neg h2,if_neg h2]
set_option linter.unusedVariables false
def bareR (x:Res):Int × ByteArray × Int:=(x.kind,x.text,x.wd)
set_option linter.unusedVariables false
theorem sk_idem:∀ (l:List UInt8) (b:Bool),sk false (l.drop (sk b l))=0
 | [],b=>by cases b <;> rfl
 | c :: r, true => by
   simp only [sk]
   split
   · rw [Nat.add_comm,List.drop_succ_cons];exact sk_idem r false
   · rw [Nat.add_comm,List.drop_succ_cons];exact sk_idem r true
 | c :: r, false => by
   by_cases h1:blankB (c.toNat:Int)=true
   · have e : sk false (c :: r) = sk false r + 1 := by simp only [sk]; rw [if_pos h1, Nat.add_comm]
     rw [e,List.drop_succ_cons];exact sk_idem r false
   · by_cases h2 : c = 47 ∧ r.head? = some 47
     · have e : sk false (c :: r) = sk true r + 1 := by simp only [sk]; rw [if_neg h1, if_pos h2, Nat.add_comm]
       rw [e,List.drop_succ_cons];exact sk_idem r true
     · have e : sk false (c :: r) = 0 := by simp only [sk]; rw [if_neg h1, if_neg h2]
       rw [e,List.drop_zero];exact e
theorem stop_no47 {Z:List UInt8} (h:stopH Z=true):¬ Z.head? = some 47:=by
 cases Z with
 | nil=>simp
 | cons c r =>
   intro e
   have e:c=47:=by simpa using e
   subst e
   exact absurd (show blankB ((47:UInt8).toNat:Int)=true from h) (by decide)
structure TxOk (x:Res):Prop where
 next:nextL x.text.data.toList=⟨x.kind,x.text.data.toList.length,x.wd,0,0⟩
 pos:¬ x.text.data.toList=[]
 quiet:∀ Z,stopH Z=true→sk false (x.text.data.toList++Z)=0
theorem nextL_clean (l:List UInt8) (h:(nextL l).fr=0):(nextL l).fa=0:=by
 cases l with
 | nil=>cases h
 | cons c r =>
   revert h
   rw [show nextL (c::r)=if letterB (c.toNat:Int)=true then nameL (c::r) else if digitB (c.toNat:Int)=true then numL (c::r) else if signB (c.toNat:Int)=true then ⟨4,aheadN (c::r),0,0,0⟩ else ⟨0,0,0,0,1⟩ from rfl]
   by_cases h1:letterB (c.toNat:Int)=true
   · rw [if_pos h1]
     unfold nameL
     by_cases h2:wordL ((c::r).take (spanN namedB (c::r)))=true
     · rw [if_pos h2];exact fun _=>rfl
     · rw [if_neg h2]
       by_cases h3:32<spanN namedB (c::r)
       · rw [if_pos h3];intro h;cases h
       · rw [if_neg h3];exact fun _=>rfl
   · rw [if_neg h1]
     by_cases h2:digitB (c.toNat:Int)=true
     · rw [if_pos h2]
       unfold numL
       cases hv:valueO ((c::r).take (spanN digitB (c::r))) with
       | none=>intro h;cases h
       | some z =>
         simp only [numK]
         split
         · intro h;cases h
         · exact fun _=>rfl
     · rw [if_neg h2]
       split
       · exact fun _=>rfl
       · intro h;cases h
theorem cut_tx (q:Nat) {m:List UInt8} (hs:sk false m=0) (hf:(nextL m).fr=0):TxOk (toRes q m (nextL m)):=by
 have hg:=nextL_good m hf
 have hfa:=nextL_clean m hf
 have ht:(toRes q m (nextL m))=⟨(nextL m).kind,⟨(m.take (nextL m).n).toArray⟩,(nextL m).wd,q,0,0⟩:=by unfold toRes;rw [if_pos hf]
 rw [ht]
 have hlen:(m.take (nextL m).n).length=(nextL m).n:=by rw [List.length_take];omega
 have hp:¬ m.take (nextL m).n=[]:=by
  intro e
  rw [e] at hlen
  simp at hlen
  omega
 have hcut:nextL (m.take (nextL m).n)=nextL m:=by
  have:=nextL_cut (p:=m.take (nextL m).n) (X:=m.drop (nextL m).n) hp (by rw [List.take_append_drop];exact hf) (by rw [List.take_append_drop,hlen];exact Nat.le_refl _)
  rw [List.take_append_drop] at this
  exact this
 refine ⟨?_,hp,fun Z hZ=>?_⟩
 · show nextL (m.take (nextL m).n) = ⟨(nextL m).kind, (m.take (nextL m).n).length, (nextL m).wd, 0, 0⟩
   rw [hcut,hlen,← hfa,← hf]
 · show sk false (m.take (nextL m).n ++ Z) = 0
   have:=sk_in false (m.take (nextL m).n) (m.drop (nextL m).n) Z (by rw [List.take_append_drop,hs,hlen];omega) (stop_no47 hZ)
   rw [this,List.take_append_drop,hs]
theorem toks_tx:∀ (k:Nat) (l:List UInt8) (e:Nat) (xs:List Res),l.length≤k→restL e l=(xs,0,0)→∀ x∈xs,TxOk x:=by
 intro k
 induction k with
 | zero =>
   intro l e xs hl h x hx
   have:l=[]:=List.eq_nil_of_length_eq_zero (by omega)
   subst this
   have h0:restL e []=([],0,0):=rfl
   rw [h0] at h
   cases h
   cases hx
 | succ k ih =>
   intro l e xs hl h x hx
   obtain ⟨m,hmm⟩:∃ m,l.drop (sk false l)=m:=⟨_,rfl⟩
   have hs:sk false m=0:=by rw [← hmm];exact sk_idem l false
   by_cases hm:m=[]
   · rw [rest_nil (by rw [hmm]; exact hm)] at h
     cases h
     cases hx
   · have hf : (nextL m).fr = 0 := by
      apply Classical.byContradiction
      intro hf
      rw [rest_fault hmm hm hf] at h
      exact hf (congrArg (fun x=>x.2.2) h)
     have hg:=nextL_good m hf
     rw [rest_tok hmm hf] at h
     have h1:=congrArg Prod.fst h
     have h2:=congrArg Prod.snd h
     simp only at h1 h2
     rw [← h1] at hx
     rcases List.mem_cons.1 hx with rfl | hx
     · exact cut_tx _ hs hf
     · have hmk : (m.drop (nextL m).n).length ≤ k := by
        have:m.length≤l.length:=by rw [← hmm];simp
        rw [List.length_drop];omega
       exact ih _ _ _ hmk (by rw [← h2]) x hx
set_option linter.unusedVariables false
theorem ndec_last (n:Nat) (h:10≤n):Lib.decDigits n=Lib.decDigits (n / 10)++[UInt8.ofNat (48+n % 10)]:=by
 rw [Lib.decDigits,dif_neg (by omega)]
theorem ndigit_nat (k:Nat) (h:k<10):((UInt8.ofNat (48+k)).toNat:Int)=48+k:=by
 rw [UInt8.toNat_ofNat'];omega
theorem digitsV_snoc (c:UInt8):∀ (l:List UInt8) (v:Int),digitsV (l++[c]) v=(match digitsV l v with | none=>none | some z=>if digitB (c.toNat:Int)=false then none else if (9223372036854775807-((c.toNat:Int)-48)) / 10<z then none else some (z*10+((c.toNat:Int)-48)))
 | [],v=>by simp only [List.nil_append,digitsV]
 | d :: l, v => by
   simp only [List.cons_append,digitsV]
   split
   · rfl
   · split
     · rfl
     · exact digitsV_snoc c l _
theorem dec_small (n:Nat) (h:n<10):Lib.decDigits n=[UInt8.ofNat (48+n)]:=by
 exact Lib.decDigits_one h
theorem dec_value:∀ (m n:Nat),n≤m→n≤9223372036854775807→digitsV (Lib.decDigits n) 0=some (n:Int)
 | 0, n, h, _ => by
   have:n=0:=by omega
   subst this
   rw [dec_small 0 (by decide)]
   decide
 | m + 1, n, h, hn => by
   by_cases h10:n<10
   · rw [dec_small n h10]
     have e:=ndigit_nat n h10
     simp only [digitsV]
     rw [e]
     have hd:digitB (48+(n:Int))=true:=by unfold digitB;exact b_t (by omega)
     rw [hd,if_neg (by decide),if_neg (by omega)]
     congr 1;omega
   · have ih := dec_value m (n / 10) (by omega) (by omega)
     rw [ndec_last n (by omega),digitsV_snoc,ih]
     have e:=ndigit_nat (n % 10) (by omega)
     simp only
     rw [e]
     have hd:digitB (48+((n % 10:Nat):Int))=true:=by unfold digitB;exact b_t (by omega)
     rw [hd,if_neg (by decide),if_neg (by omega)]
     congr 1;omega
theorem dec_head:∀ (m n:Nat),n≤m→0<n→∃ c r,Lib.decDigits n=c::r∧digitB (c.toNat:Int)=true∧¬ (c.toNat:Int)=48
 | 0,n,h,h0=>by omega
 | m + 1, n, h, h0 => by
   by_cases h10:n<10
   · rw [dec_small n h10]
     have e:=ndigit_nat n h10
     exact ⟨_,[],rfl,by rw [e];unfold digitB;exact b_t (by omega),by rw [e];omega⟩
   · obtain ⟨c, r, hc, hd, h48⟩ := dec_head m (n / 10) (by omega) (by omega)
     rw [ndec_last n (by omega),hc]
     exact ⟨c,r++[UInt8.ofNat (48+n % 10)],rfl,hd,h48⟩
theorem dec_valueO (n:Nat) (hn:n≤9223372036854775807):valueO (Lib.decDigits n)=some (n:Int):=by
 have hv:=dec_value n n (Nat.le_refl _) hn
 by_cases h0:n=0
 · subst h0
   rw [dec_small 0 (by decide)]
   decide
 · obtain ⟨c, r, hc, _, h48⟩ := dec_head n n (Nat.le_refl _) (by omega)
   rw [hc] at hv ⊢
   simp only [valueO]
   rw [if_neg (fun h=>h48 h.1)]
   exact hv
def okN:Bs→Prop
 | []=>True
 | c::_=>c=32∨c=41∨c=59∨c=44∨c=10∨c=40
def okG:Bs→Prop
 | []=>True
 | c::_=>c≠61∧c≠60∧c≠62∧c≠47
theorem okS_of {Z:Bs} (h:okN Z):okG Z:=by
 cases Z with
 | nil=>trivial
 | cons c r =>
   rcases h with rfl | rfl | rfl | rfl | rfl | rfl <;> exact ⟨by decide,by decide,by decide,by decide⟩
def Cut (t:Bs) (ks:List Bk) (ok:Bs→Prop):Prop:=∀ (e:Nat) (Z:Bs),ok Z→∃ xs q,restL e (t++Z)=(xs++(restL q Z).1,(restL q Z).2)∧xs.map bareR=ks
theorem cut_mono {t:Bs} {ks:List Bk} {ok ok':Bs→Prop} (h:Cut t ks ok) (hm:∀ Z,ok' Z→ok Z):Cut t ks ok':=fun e Z hZ=>h e Z (hm Z hZ)
theorem cut_nil (ok:Bs→Prop):Cut [] [] ok:=fun e Z _=>⟨[],e,rfl,rfl⟩
theorem cut_app {t u:Bs} {ks ls:List Bk} {ok1 ok2:Bs→Prop} (h1:Cut t ks ok1) (h2:Cut u ls ok2) (h:∀ Z,ok2 Z→ok1 (u++Z)):Cut (t++u) (ks++ls) ok2:=fun e Z hZ=>by
 obtain ⟨xs,q,a1,a2⟩:=h1 e (u++Z) (h Z hZ)
 obtain ⟨ys,p,b1,b2⟩:=h2 q Z hZ
 refine ⟨xs++ys,p,?_,by rw [List.map_append,a2,b2]⟩
 rw [List.append_assoc,a1,b1,List.append_assoc]
theorem cut_blank {c:UInt8} (hc:blankB (c.toNat:Int)=true) (ok:Bs→Prop):Cut [c] [] ok:=fun e Z _=>by
 refine ⟨[],e+1,?_,rfl⟩
 have hs:sk false (c::Z)=1+sk false Z:=by simp only [sk];rw [if_pos hc]
 show lexL (e+sk false (c::Z)) ((c::Z).drop (sk false (c::Z)))=_
 rw [hs,Nat.add_comm 1,List.drop_succ_cons]
 show _=lexL (e+1+sk false Z) (Z.drop (sk false Z))
 rw [show e+(sk false Z+1)=e+1+sk false Z by omega]
theorem cut_tok {p:Bs} {k wd:Int} {ok:Bs→Prop} (h1:∀ Z,ok Z→sk false (p++Z)=0) (h2:∀ Z,ok Z→nextL (p++Z)=⟨k,p.length,wd,0,0⟩):Cut p [(k,⟨p.toArray⟩,wd)] ok:=fun e Z hZ=>by
 have hf:(nextL (p++Z)).fr=0:=by rw [h2 Z hZ]
 refine ⟨[⟨k,⟨p.toArray⟩,wd,(e:Nat),0,0⟩],e+p.length,?_,rfl⟩
 rw [rest_tok (by rw [h1 Z hZ];rfl) hf,h1 Z hZ,h2 Z hZ]
 unfold toRes
 simp
theorem long_no (c d:UInt8) (h:d≠61∧d≠60∧d≠62∧d≠47):longB [c,d]=false:=by
 rw [longW_eq]
 simp only [longW,List.isPrefixOf_cons_cons,List.isPrefixOf_nil_left,Bool.and_true,Bool.or_eq_false_iff,Bool.and_eq_false_iff,beq_eq_false_iff_ne,ne_eq]
 obtain ⟨h1,h2,h3,_⟩:=h
 refine ⟨⟨⟨⟨⟨.inr (Ne.symm h1),.inr (Ne.symm h1)⟩,.inr (Ne.symm h1)⟩,.inr (Ne.symm h1)⟩,.inr (Ne.symm h2)⟩,.inr (Ne.symm h3)⟩
theorem cut_one {c:UInt8} (hs:signB (c.toNat:Int)=true) (hl:letterB (c.toNat:Int)=false) (hd:digitB (c.toNat:Int)=false) (hb:blankB (c.toNat:Int)=false):Cut [c] [sgK [c]] okG:=by
 refine cut_tok (fun Z hZ=>?_) (fun Z hZ=>?_)
 · show sk false (c :: Z) = 0
   simp only [sk]
   rw [if_neg (by rw [hb];decide),if_neg]
   rintro ⟨rfl,h⟩
   cases Z with
   | nil=>simp at h
   | cons d r =>
     have:d=47:=by simpa using h
     exact hZ.2.2.2 this
 · show nextL (c :: Z) = _
   simp only [nextL]
   rw [if_neg (by rw [hl];decide),if_neg (by rw [hd];decide),if_pos hs]
   have:aheadN (c::Z)=1:=by
    unfold aheadN
    have hlong:longB (c::Z)=false:=by
     cases Z with
     | nil=>exact longW_one c
     | cons d r=>rw [longW_cons];exact long_no c d hZ
    rw [hlong,if_neg (by decide)]
    unfold firstN
    simp [hs]
   rw [this]
   rfl
theorem cut_op {o:Int} (h:twoB o=true):Cut (signOf o++[32]) [sgK (signOf o)] (fun _=>True):=by
 obtain ⟨_,_,h1,h16⟩:=fnd_two o h
 have key:∀ i:Nat,1≤i→i≤16→Cut (sgn.getD i []++[32]) [sgK (sgn.getD i [])] (fun _=>True):=by
  intro i h1 h2
  have two:∀ c d:UInt8,longB [c,d]=true→signB (c.toNat:Int)=true→letterB (c.toNat:Int)=false→digitB (c.toNat:Int)=false→blankB (c.toNat:Int)=false→c≠47→Cut ([c,d]++[32]) [sgK [c,d]] (fun _=>True):=fun c d hlong hs hl hd hb h47=>by
   have h:=cut_tok (p:=[c,d]) (k:=4) (wd:=0) (ok:=fun Z=>True) (fun Z _=>by
    show sk false (c::d::Z)=0
    simp only [sk]
    rw [if_neg (by rw [hb];decide),if_neg (fun h=>h47 h.1)]) (fun Z _=>by
    show nextL (c::d::Z)=_
    simp only [nextL]
    rw [if_neg (by rw [hl];decide),if_neg (by rw [hd];decide),if_pos hs]
    unfold aheadN
    rw [longW_cons,hlong,if_pos rfl]
    rfl)
   have:=cut_app h (cut_blank (c:=32) (by decide) (fun _=>True)) (fun _ _=>trivial)
   exact this
  have one:∀ c:UInt8,signB (c.toNat:Int)=true→letterB (c.toNat:Int)=false→digitB (c.toNat:Int)=false→blankB (c.toNat:Int)=false→Cut ([c]++[32]) [sgK [c]] (fun _=>True):=fun c hs hl hd hb =>
   cut_app (cut_one hs hl hd hb) (cut_blank (c:=32) (by decide) (fun _=>True)) (fun Z _=>⟨by decide,by decide,by decide,by decide⟩)
  match i,h1,h2 with
  | 1,_,_=>exact one 43 (by decide) (by decide) (by decide) (by decide)
  | 2,_,_=>exact one 45 (by decide) (by decide) (by decide) (by decide)
  | 3,_,_=>exact one 42 (by decide) (by decide) (by decide) (by decide)
  | 4,_,_=>exact one 47 (by decide) (by decide) (by decide) (by decide)
  | 5,_,_=>exact one 37 (by decide) (by decide) (by decide) (by decide)
  | 6,_,_=>exact one 38 (by decide) (by decide) (by decide) (by decide)
  | 7,_,_=>exact one 124 (by decide) (by decide) (by decide) (by decide)
  | 8,_,_=>exact one 94 (by decide) (by decide) (by decide) (by decide)
  | 9,_,_=>exact two 60 60 (by decide) (by decide) (by decide) (by decide) (by decide) (by decide)
  | 10,_,_=>exact two 62 62 (by decide) (by decide) (by decide) (by decide) (by decide) (by decide)
  | 11,_,_=>exact two 61 61 (by decide) (by decide) (by decide) (by decide) (by decide) (by decide)
  | 12,_,_=>exact two 33 61 (by decide) (by decide) (by decide) (by decide) (by decide) (by decide)
  | 13,_,_=>exact one 60 (by decide) (by decide) (by decide) (by decide)
  | 14,_,_=>exact two 60 61 (by decide) (by decide) (by decide) (by decide) (by decide) (by decide)
  | 15,_,_=>exact one 62 (by decide) (by decide) (by decide) (by decide)
  | 16,_,_=>exact two 62 61 (by decide) (by decide) (by decide) (by decide) (by decide) (by decide)
  | n+17,_,h=>omega
 have:=key o.toNat (by omega) (by omega)
 unfold signOf
 rw [if_neg (by omega)]
 exact this
theorem span_halt {f:Int→Bool} : ∀ (p Z:Bs),(∀ c∈p,f (c.toNat:Int)=true)→(∀ c r,Z=c::r→f (c.toNat:Int)=false)→spanN f (p++Z)=p.length
 | [], Z, _, hz => by
   cases Z with
   | nil=>rfl
   | cons c r=>simp only [List.nil_append,spanN];rw [if_neg (by rw [hz c r rfl];decide)];rfl
 | c :: p, Z, hp, hz => by
   simp only [List.cons_append,spanN,List.length_cons]
   rw [if_pos (hp c (.head _)),span_halt p Z (fun d hd=>hp d (.tail _ hd)) hz]
theorem okN_named {Z:Bs} (h:okN Z):∀ c r,Z=c::r→namedB (c.toNat:Int)=false∧digitB (c.toNat:Int)=false∧letterB (c.toNat:Int)=false:=by
 rintro c r rfl
 rcases h with rfl | rfl | rfl | rfl | rfl | rfl <;> exact ⟨by decide,by decide,by decide⟩
theorem named_all:∀ (l:Bs),spanN namedB l=l.length→∀ c∈l,namedB (c.toNat:Int)=true
 | [],_,c,hc=>by cases hc
 | d :: l, h, c, hc => by
   simp only [spanN,List.length_cons] at h
   by_cases hd:namedB (d.toNat:Int)=true
   · rw [if_pos hd] at h
     rcases List.mem_cons.1 hc with rfl | hc
     · exact hd
     · exact named_all l (by omega) c hc
   · rw [if_neg hd] at h
     omega
theorem letter_sk {c:UInt8} {r:Bs} (h:letterB (c.toNat:Int)=true∨digitB (c.toNat:Int)=true):sk false (c::r)=0:=by
 have hb:blankB (c.toNat:Int)=false∧c≠47:=by
  refine ⟨?_,fun e=>by subst e;revert h;decide⟩
  cases hh:blankB (c.toNat:Int) with
  | false=>rfl
  | true =>
    exfalso
    rcases blank_vals hh with rfl | rfl | rfl | rfl <;> revert h <;> decide
 simp only [sk]
 rw [if_neg (by rw [hb.1];decide),if_neg (fun h=>hb.2 h.1)]
theorem cut_name {n:ByteArray} (h:nameB n=true):Cut n.data.toList [kN n] okN:=by
 have hw:=name_noword h
 unfold nameB at h
 simp only [Bool.and_eq_true,decide_eq_true_eq] at h
 obtain ⟨h0,h32,hdg,_,hsp⟩:=h
 have hlen:n.size=n.data.toList.length:=by simp
 have hpos:=h0
 obtain ⟨l,hl⟩:∃ l,l=n.data.toList:=⟨_,rfl⟩
 have hn:kN n=(1,⟨l.toArray⟩,0):=by rw [hl];rfl
 rw [← hl] at hw hsp hlen ⊢
 rw [hn]
 have hall:=named_all l (by omega)
 obtain ⟨c,r,hcr⟩:∃ c r,l=c::r:=by
  cases l with
  | nil=>rw [List.length_nil] at hlen;omega
  | cons c r=>exact ⟨c,r,rfl⟩
 have hc:letterB (c.toNat:Int)=true:=by
  have h1:=hall c (by rw [hcr];exact .head _)
  have h2:digitB (c.toNat:Int)=false:=by
   have e:PlainAid.bt n 0=(c.toNat:Int):=by
    have hz:0<n.size:=h0
    rw [← PlainAid.get_bt n 0 hz]
    have:n.data.toList[0]? = some c:=by rw [← hl,hcr];rfl
    have:n[0]=c:=by
     have h3:n.data[0]? = some c:=by simpa using this
     have h4:=(Array.getElem?_eq_some_iff.1 h3).2
     exact h4
    rw [this]
   rw [e] at hdg
   simpa using hdg
  unfold namedB at h1
  rw [h2] at h1
  simpa using h1
 refine cut_tok (fun Z hZ=>?_) (fun Z hZ=>?_)
 · rw [hcr];exact letter_sk (.inl hc)
 · have hsz := span_halt (f := namedB) l Z hall (fun c r e => (okN_named hZ c r e).1)
   rw [hcr] at hsz ⊢
   rw [← hcr] at hsz ⊢
   have:nextL (l++Z)=nameL (l++Z):=by
    rw [hcr]
    show (if letterB (c.toNat:Int)=true then _ else _)=_
    rw [if_pos hc]
    rfl
   rw [this]
   unfold nameL
   rw [hsz,List.take_left',if_neg (by rw [hw];decide),if_neg (by omega)]
   rfl
theorem cut_word {s:Bs} (h:wordL s=true) (hp:(match s with | []=>false | c::_=>letterB (c.toNat:Int))=true) (hall:s.all (fun c=>namedB (c.toNat:Int))=true):Cut s [kW s] okN:=by
 cases s with
 | nil=>cases hp
 | cons c r =>
   refine cut_tok (fun Z hZ=>letter_sk (.inl hp)) (fun Z hZ=>?_)
   have hsz:=span_halt (f:=namedB) (c::r) Z (List.all_eq_true.1 hall) (fun c r e=>(okN_named hZ c r e).1)
   have:nextL (c::r++Z)=nameL (c::r++Z):=by
    show (if letterB (c.toNat:Int)=true then _ else _)=_
    rw [if_pos hp]
    rfl
   rw [this]
   unfold nameL
   rw [hsz,List.take_left',if_pos h]
   rfl
theorem cut_num {v:Int} (h0:0≤v) (h1:v≤9223372036854775807):Cut (Lib.itoa v) [nbK v] okN:=by
 have e:Lib.itoa v=Lib.decDigits v.toNat:=by unfold Lib.itoa;rw [if_neg (by omega)]
 have hv:=dec_valueO v.toNat (by omega)
 rw [Int.toNat_of_nonneg h0] at hv
 unfold nbK itoaS
 rw [e]
 have hall:∀ c∈Lib.decDigits v.toNat,digitB (c.toNat:Int)=true:=fun c hc=>by
  have:=dec_mem _ c hc
  unfold digitB
  exact b_t (by omega)
 obtain ⟨l,hl⟩:∃ l,l=Lib.decDigits v.toNat:=⟨_,rfl⟩
 rw [← hl] at hall hv ⊢
 obtain ⟨c,r,hcr⟩:∃ c r,l=c::r:=by
  cases l with
  | nil=>simp [valueO] at hv
  | cons c r=>exact ⟨c,r,rfl⟩
 have hc:digitB (c.toNat:Int)=true:=hall c (by rw [hcr];exact .head _)
 have hnl:letterB (c.toNat:Int)=false:=by
  unfold digitB at hc
  unfold letterB
  have:=of_decide_eq_true hc
  exact b_f (by omega)
 refine cut_tok (fun Z hZ=>?_) (fun Z hZ=>?_)
 · rw [hcr];exact letter_sk (.inr hc)
 · have hsz := span_halt (f := digitB) l Z hall (fun c r e => (okN_named hZ c r e).2.1)
   have:nextL (l++Z)=numL (l++Z):=by
    rw [hcr]
    show (if letterB (c.toNat:Int)=true then _ else if digitB (c.toNat:Int)=true then _ else _)=_
    rw [if_neg (by rw [hnl];decide),if_pos hc]
    rfl
   have hlz:letterH Z=false:=by
    cases Z with
    | nil=>rfl
    | cons d r=>exact (okN_named hZ d r rfl).2.2
   rw [this]
   unfold numL
   rw [hsz,List.take_left',List.drop_left',hv,hlz]
   · rfl
   all_goals rfl
set_option linter.unusedVariables false
def begG (t:Bs):Prop:=∃ c r,t=c::r∧c≠61∧c≠60∧c≠62∧c≠47
theorem begG_app {t Z:Bs} (h:begG t):okG (t++Z):=by
 obtain ⟨c,r,rfl,h⟩:=h
 exact h
theorem letter_g {c:UInt8} (h:letterB (c.toNat:Int)=true∨digitB (c.toNat:Int)=true):c≠61∧c≠60∧c≠62∧c≠47:=by
 refine ⟨?_,?_,?_,?_⟩ <;> (rintro rfl;revert h;decide)
theorem begG_kid {b:Bool} {t:Bs} (h:begG t):begG (kidT b t):=by
 cases b with
 | false=>exact h
 | true=>exact ⟨40,t++[41],rfl,by decide,by decide,by decide,by decide⟩
theorem name_beg {n:ByteArray} (h:nameB n=true):begG n.data.toList:=by
 unfold nameB at h
 simp only [Bool.and_eq_true,decide_eq_true_eq] at h
 obtain ⟨h0,h32,hdg,_,hsp⟩:=h
 have hlen:n.size=n.data.toList.length:=by simp
 generalize n.data.toList=l at hsp hlen
 have hall:=named_all l (by omega)
 cases l with
 | nil=>rw [List.length_nil] at hlen;omega
 | cons c r =>
   refine ⟨c,r,rfl,letter_g ?_⟩
   have:=hall c (.head _)
   unfold namedB at this
   simpa using this
theorem num_beg {v:Int} (h0:0≤v) (h1:v≤9223372036854775807):begG (Lib.itoa v):=by
 have e:Lib.itoa v=Lib.decDigits v.toNat:=by unfold Lib.itoa;rw [if_neg (by omega)]
 have hv:=dec_valueO v.toNat (by omega)
 rw [e]
 have hall:∀ c∈Lib.decDigits v.toNat,digitB (c.toNat:Int)=true:=fun c hc=>by
  have:=dec_mem _ c hc
  unfold digitB
  exact b_t (by omega)
 generalize Lib.decDigits v.toNat=l at hall hv
 cases l with
 | nil=>simp [valueO] at hv
 | cons c r=>exact ⟨c,r,rfl,letter_g (.inr (hall c (.head _)))⟩
theorem cut_kid {b:Bool} {t:Bs} {ks:List Bk} (h:Cut t ks okN) (hb:begG t):Cut (kidT b t) (kidK b ks) okN:=by
 cases b with
 | false=>exact h
 | true =>
   have h1:=cut_app (cut_one (c:=40) (by decide) (by decide) (by decide) (by decide)) h (fun Z _=>begG_app hb)
   have h2:=cut_app h1 (cut_mono (cut_one (c:=41) (by decide) (by decide) (by decide) (by decide)) (fun Z hZ=>okS_of hZ)) (fun Z _=>Or.inr (.inl rfl))
   exact h2
theorem lit_rng {k o wd:Int} {n:ByteArray} {ks:List Ex} {ps:Int} (h:rgE (.mk k o wd n ks ps)):wd≤9223372036854775807:=h.2.2.1.2
theorem cut_ex:∀ (x:Ex) (d:Int),rE x d=true→rgE x→Cut (tE x) (kE x) okN∧begG (tE x):=by
 intro x
 induction x using Ex.ind with
 | h k o wd nm ks ps ih =>
   intro d hr hrg
   have hwd:=lit_rng hrg
   have hks:rgEs ks:=hrg.2.2.2
   simp only [rE,Bool.and_eq_true,decide_eq_true_eq] at hr
   obtain ⟨hd,hw,hn1,hkb⟩:=hr
   simp only [kE,tE]
   unfold kK tK
   unfold kB at hkb
   by_cases k1:k=1
   · subst k1
     rw [if_pos rfl,if_pos rfl]
     have h0:0≤wd:=by
      unfold wdB at hw
      simp at hw
      omega
     exact ⟨cut_num h0 hwd,num_beg h0 hwd⟩
   by_cases k2:k=2
   · subst k2
     rw [if_neg (by omega),if_pos rfl,if_neg (by omega),if_pos rfl]
     exact ⟨cut_name (nm_yes hn1),name_beg (nm_yes hn1)⟩
   by_cases k3:k=3
   · subst k3
     rw [if_neg (by omega),if_neg (by omega),if_pos rfl,if_neg (by omega),if_neg (by omega),if_pos rfl]
     rw [if_neg (by omega),if_pos rfl] at hkb
     simp only [Bool.and_eq_true] at hkb
     obtain ⟨ho,hkk⟩:=hkb
     match ks,hkk,ih,hks with
     | [y], hkk, ih, hks =>
       have hy:rE y (d+1+b2i (y.kind==4))=true:=by simpa [kid1,rEs] using hkk
       obtain ⟨c1,c2⟩:=ih y (.head _) _ hy hks.1
       show Cut (signOf o++kidT (y.kind==4) (tE y)) (sgK (signOf o)::kidK (y.kind==4) (kE y)) okN∧begG (signOf o++kidT (y.kind==4) (tE y))
       have hou:o=17∨o=18:=by unfold oneB at ho;simpa using ho
       rcases hou with rfl | rfl
       · rw [show signOf 17 = [45] by decide]
         exact ⟨cut_app (cut_one (c:=45) (by decide) (by decide) (by decide) (by decide)) (cut_kid c1 c2) (fun Z _=>begG_app (begG_kid c2)),45,_,rfl,by decide,by decide,by decide,by decide⟩
       · rw [show signOf 18 = [33] by decide]
         exact ⟨cut_app (cut_one (c:=33) (by decide) (by decide) (by decide) (by decide)) (cut_kid c1 c2) (fun Z _=>begG_app (begG_kid c2)),33,_,rfl,by decide,by decide,by decide,by decide⟩
     | [],hkk,_,_=>simp [kid1] at hkk
     | _::_::_,hkk,_,_=>simp [kid1] at hkk
   by_cases k4:k=4
   · subst k4
     rw [if_neg (by omega),if_neg (by omega),if_neg (by omega),if_pos rfl,if_neg (by omega),if_neg (by omega),if_neg (by omega),if_pos rfl]
     rw [if_neg (by omega),if_neg (by omega),if_pos rfl] at hkb
     simp only [Bool.and_eq_true] at hkb
     obtain ⟨ho,hkk⟩:=hkb
     match ks,hkk,ih,hks with
     | [a, b], hkk, ih, hks =>
       have hab:rE a (d+b2i (wrL o a))=true∧rE b (d+b2i (wrR o b))=true:=by simpa [kid2,rEs] using hkk
       obtain ⟨a1,a2⟩:=ih a (.head _) _ hab.1 hks.1
       obtain ⟨b1,b2⟩:=ih b (.tail _ (.head _)) _ hab.2 hks.2.1
       show Cut (kidT (wrL o a) (tE a)++([32]++signOf o++[32])++kidT (wrR o b) (tE b)) (kidK (wrL o a) (kE a)++(sgK (signOf o)::kidK (wrR o b) (kE b))) okN∧begG (kidT (wrL o a) (tE a)++([32]++signOf o++[32])++kidT (wrR o b) (tE b))
       have hop:Cut ([32]++signOf o++[32]) [sgK (signOf o)] (fun _=>True):=by
        have:=cut_app (cut_blank (c:=32) (by decide) (fun _=>True)) (cut_op ho) (fun _ _=>trivial)
        rwa [← List.append_assoc] at this
       have h1:=cut_app (cut_kid (b:=wrL o a) a1 a2) hop (fun Z _=>Or.inl rfl)
       have h2:=cut_app h1 (cut_kid (b:=wrR o b) b1 b2) (fun _ _=>trivial)
       refine ⟨?_,?_⟩
       · have e : kidK (wrL o a) (kE a) ++ (sgK (signOf o) :: kidK (wrR o b) (kE b)) = kidK (wrL o a) (kE a) ++ [sgK (signOf o)] ++ kidK (wrR o b) (kE b) := by simp
         rw [e]
         exact h2
       · obtain ⟨c, r, e, hc⟩ := begG_kid (b := wrL o a) a2
         exact ⟨c,r++([32]++signOf o++[32])++kidT (wrR o b) (tE b),by rw [e];simp,hc⟩
     | [],hkk,_,_=>simp [kid2] at hkk
     | [_],hkk,_,_=>simp [kid2] at hkk
     | _::_::_::_,hkk,_,_=>simp [kid2] at hkk
   · rw [if_neg (by omega), if_neg k3, if_neg k4] at hkb
     cases hkb
end Go.Proofs.YtggbkldniffbfaaGreatDoor

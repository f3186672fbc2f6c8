/- The proof, part 38: texts that belong together, in one. -/
import Derived.Test.YtggbkldniffbfaaGreatDoorSBK
set_option maxRecDepth 100000
set_option maxHeartbeats 20000000
namespace Go.Proofs.YtggbkldniffbfaaGreatDoor
set_option linter.unusedVariables false
theorem ndec_last (n:Nat) (h:10≤n):Lib.decDigits n=Lib.decDigits (n / 10)++[UInt8.ofNat (48+n % 10)]:=by
 rw [Lib.decDigits,dif_neg (by omega)]
theorem ndigit_nat (k:Nat) (h:k<10):((UInt8.ofNat (48+k)).toNat:Int)=48+k:=by
 rw [UInt8.toNat_ofNat'];omega
theorem digitsV_snoc (c:UInt8):∀ (l:List UInt8) (v:Int),digitsV (l++[c]) v=(match digitsV l v with | none=>none | some z=>if digitB (c.toNat:Int)=false then none else if (9223372036854775807-((c.toNat:Int)-48)) / 10<z then none else some (z*10+((c.toNat:Int)-48)))
 | [],v=>by simp only [List.nil_append,digitsV]
 | d :: l, v => by
   simp only [List.cons_append,digitsV]
   split
   · rfl
   · split
     · rfl
     · exact digitsV_snoc c l _
theorem dec_small (n:Nat) (h:n<10):Lib.decDigits n=[UInt8.ofNat (48+n)]:=by
 exact Lib.decDigits_one h
theorem dec_value:∀ (m n:Nat),n≤m→n≤9223372036854775807→digitsV (Lib.decDigits n) 0=some (n:Int)
 | 0, n, h, _ => by
   have:n=0:=by omega
   subst this
   rw [dec_small 0 (by decide)]
   decide
 | m + 1, n, h, hn => by
   by_cases h10:n<10
   · rw [dec_small n h10]
     have e:=ndigit_nat n h10
     simp only [digitsV]
     rw [e]
     have hd:digitB (48+(n:Int))=true:=by unfold digitB;exact b_t (by omega)
     rw [hd,if_neg (by decide),if_neg (by omega)]
     congr 1;omega
   · have ih := dec_value m (n / 10) (by omega) (by omega)
     rw [ndec_last n (by omega),digitsV_snoc,ih]
     have e:=ndigit_nat (n % 10) (by omega)
     simp only
     rw [e]
     have hd:digitB (48+((n % 10:Nat):Int))=true:=by unfold digitB;exact b_t (by omega)
     rw [hd,if_neg (by decide),if_neg (by omega)]
     congr 1;omega
theorem dec_head:∀ (m n:Nat),n≤m→0<n→∃ c r,Lib.decDigits n=c::r∧digitB (c.toNat:Int)=true∧¬ (c.toNat:Int)=48
 | 0,n,h,h0=>by omega
 | m + 1, n, h, h0 => by
   by_cases h10:n<10
   · rw [dec_small n h10]
     have e:=ndigit_nat n h10
     exact ⟨_,[],rfl,by rw [e];unfold digitB;exact b_t (by omega),by rw [e];omega⟩
   · obtain ⟨c, r, hc, hd, h48⟩ := dec_head m (n / 10) (by omega) (by omega)
     rw [ndec_last n (by omega),hc]
     exact ⟨c,r++[UInt8.ofNat (48+n % 10)],rfl,hd,h48⟩
theorem dec_valueO (n:Nat) (hn:n≤9223372036854775807):valueO (Lib.decDigits n)=some (n:Int):=by
 have hv:=dec_value n n (Nat.le_refl _) hn
 by_cases h0:n=0
 · subst h0
   rw [dec_small 0 (by decide)]
   decide
 · obtain ⟨c, r, hc, _, h48⟩ := dec_head n n (Nat.le_refl _) (by omega)
   rw [hc] at hv ⊢
   simp only [valueO]
   rw [if_neg (fun h=>h48 h.1)]
   exact hv
def okN:Bs→Prop
 | []=>True
 | c::_=>c=32∨c=41∨c=59∨c=44∨c=10∨c=40
def okG:Bs→Prop
 | []=>True
 | c::_=>c≠61∧c≠60∧c≠62∧c≠47
theorem okS_of {Z:Bs} (h:okN Z):okG Z:=by
 cases Z with
 | nil=>trivial
 | cons c r =>
   rcases h with rfl | rfl | rfl | rfl | rfl | rfl <;> exact ⟨by decide,by decide,by decide,by decide⟩
def Cut (t:Bs) (ks:List Bk) (ok:Bs→Prop):Prop:=∀ (e:Nat) (Z:Bs),ok Z→∃ xs q,restL e (t++Z)=(xs++(restL q Z).1,(restL q Z).2)∧xs.map bareR=ks
theorem cut_mono {t:Bs} {ks:List Bk} {ok ok':Bs→Prop} (h:Cut t ks ok) (hm:∀ Z,ok' Z→ok Z):Cut t ks ok':=fun e Z hZ=>h e Z (hm Z hZ)
theorem cut_nil (ok:Bs→Prop):Cut [] [] ok:=fun e Z _=>⟨[],e,rfl,rfl⟩
theorem cut_app {t u:Bs} {ks ls:List Bk} {ok1 ok2:Bs→Prop} (h1:Cut t ks ok1) (h2:Cut u ls ok2) (h:∀ Z,ok2 Z→ok1 (u++Z)):Cut (t++u) (ks++ls) ok2:=fun e Z hZ=>by
 obtain ⟨xs,q,a1,a2⟩:=h1 e (u++Z) (h Z hZ)
 obtain ⟨ys,p,b1,b2⟩:=h2 q Z hZ
 refine ⟨xs++ys,p,?_,by rw [List.map_append,a2,b2]⟩
 rw [List.append_assoc,a1,b1,List.append_assoc]
theorem cut_blank {c:UInt8} (hc:blankB (c.toNat:Int)=true) (ok:Bs→Prop):Cut [c] [] ok:=fun e Z _=>by
 refine ⟨[],e+1,?_,rfl⟩
 have hs:sk false (c::Z)=1+sk false Z:=by simp only [sk];rw [if_pos hc]
 show lexL (e+sk false (c::Z)) ((c::Z).drop (sk false (c::Z)))=_
 rw [hs,Nat.add_comm 1,List.drop_succ_cons]
 show _=lexL (e+1+sk false Z) (Z.drop (sk false Z))
 rw [show e+(sk false Z+1)=e+1+sk false Z by omega]
theorem cut_tok {p:Bs} {k wd:Int} {ok:Bs→Prop} (h1:∀ Z,ok Z→sk false (p++Z)=0) (h2:∀ Z,ok Z→nextL (p++Z)=⟨k,p.length,wd,0,0⟩):Cut p [(k,⟨p.toArray⟩,wd)] ok:=fun e Z hZ=>by
 have hf:(nextL (p++Z)).fr=0:=by rw [h2 Z hZ]
 refine ⟨[⟨k,⟨p.toArray⟩,wd,(e:Nat),0,0⟩],e+p.length,?_,rfl⟩
 rw [rest_tok (by rw [h1 Z hZ];rfl) hf,h1 Z hZ,h2 Z hZ]
 unfold toRes
 simp
theorem long_no (c d:UInt8) (h:d≠61∧d≠60∧d≠62∧d≠47):longB [c,d]=false:=by
 rw [longW_eq]
 simp only [longW,List.isPrefixOf_cons_cons,List.isPrefixOf_nil_left,Bool.and_true,Bool.or_eq_false_iff,Bool.and_eq_false_iff,beq_eq_false_iff_ne,ne_eq]
 obtain ⟨h1,h2,h3,_⟩:=h
 refine ⟨⟨⟨⟨⟨.inr (Ne.symm h1),.inr (Ne.symm h1)⟩,.inr (Ne.symm h1)⟩,.inr (Ne.symm h1)⟩,.inr (Ne.symm h2)⟩,.inr (Ne.symm h3)⟩
theorem cut_one {c:UInt8} (hs:signB (c.toNat:Int)=true) (hl:letterB (c.toNat:Int)=false) (hd:digitB (c.toNat:Int)=false) (hb:blankB (c.toNat:Int)=false):Cut [c] [sgK [c]] okG:=by
 refine cut_tok (fun Z hZ=>?_) (fun Z hZ=>?_)
 · show sk false (c :: Z) = 0
   simp only [sk]
   rw [if_neg (by rw [hb];decide),if_neg]
   rintro ⟨rfl,h⟩
   cases Z with
   | nil=>simp at h
   | cons d r =>
     have:d=47:=by simpa using h
     exact hZ.2.2.2 this
 · show nextL (c :: Z) = _
   simp only [nextL]
   rw [if_neg (by rw [hl];decide),if_neg (by rw [hd];decide),if_pos hs]
   have:aheadN (c::Z)=1:=by
    unfold aheadN
    have hlong:longB (c::Z)=false:=by
     cases Z with
     | nil=>exact longW_one c
     | cons d r=>rw [longW_cons];exact long_no c d hZ
    rw [hlong,if_neg (by decide)]
    unfold firstN
    simp [hs]
   rw [this]
   rfl
theorem cut_op {o:Int} (h:twoB o=true):Cut (signOf o++[32]) [sgK (signOf o)] (fun _=>True):=by
 obtain ⟨_,_,h1,h16⟩:=fnd_two o h
 have key:∀ i:Nat,1≤i→i≤16→Cut (sgn.getD i []++[32]) [sgK (sgn.getD i [])] (fun _=>True):=by
  intro i h1 h2
  have two:∀ c d:UInt8,longB [c,d]=true→signB (c.toNat:Int)=true→letterB (c.toNat:Int)=false→digitB (c.toNat:Int)=false→blankB (c.toNat:Int)=false→c≠47→Cut ([c,d]++[32]) [sgK [c,d]] (fun _=>True):=fun c d hlong hs hl hd hb h47=>by
   have h:=cut_tok (p:=[c,d]) (k:=4) (wd:=0) (ok:=fun Z=>True) (fun Z _=>by
    show sk false (c::d::Z)=0
    simp only [sk]
    rw [if_neg (by rw [hb];decide),if_neg (fun h=>h47 h.1)]) (fun Z _=>by
    show nextL (c::d::Z)=_
    simp only [nextL]
    rw [if_neg (by rw [hl];decide),if_neg (by rw [hd];decide),if_pos hs]
    unfold aheadN
    rw [longW_cons,hlong,if_pos rfl]
    rfl)
   have:=cut_app h (cut_blank (c:=32) (by decide) (fun _=>True)) (fun _ _=>trivial)
   exact this
  have one:∀ c:UInt8,signB (c.toNat:Int)=true→letterB (c.toNat:Int)=false→digitB (c.toNat:Int)=false→blankB (c.toNat:Int)=false→Cut ([c]++[32]) [sgK [c]] (fun _=>True):=fun c hs hl hd hb =>
   cut_app (cut_one hs hl hd hb) (cut_blank (c:=32) (by decide) (fun _=>True)) (fun Z _=>⟨by decide,by decide,by decide,by decide⟩)
  match i,h1,h2 with
  | 1,_,_=>exact one 43 (by decide) (by decide) (by decide) (by decide)
  | 2,_,_=>exact one 45 (by decide) (by decide) (by decide) (by decide)
  | 3,_,_=>exact one 42 (by decide) (by decide) (by decide) (by decide)
  | 4,_,_=>exact one 47 (by decide) (by decide) (by decide) (by decide)
  | 5,_,_=>exact one 37 (by decide) (by decide) (by decide) (by decide)
  | 6,_,_=>exact one 38 (by decide) (by decide) (by decide) (by decide)
  | 7,_,_=>exact one 124 (by decide) (by decide) (by decide) (by decide)
  | 8,_,_=>exact one 94 (by decide) (by decide) (by decide) (by decide)
  | 9,_,_=>exact two 60 60 (by decide) (by decide) (by decide) (by decide) (by decide) (by decide)
  | 10,_,_=>exact two 62 62 (by decide) (by decide) (by decide) (by decide) (by decide) (by decide)
  | 11,_,_=>exact two 61 61 (by decide) (by decide) (by decide) (by decide) (by decide) (by decide)
  | 12,_,_=>exact two 33 61 (by decide) (by decide) (by decide) (by decide) (by decide) (by decide)
  | 13,_,_=>exact one 60 (by decide) (by decide) (by decide) (by decide)
  | 14,_,_=>exact two 60 61 (by decide) (by decide) (by decide) (by decide) (by decide) (by decide)
  | 15,_,_=>exact one 62 (by decide) (by decide) (by decide) (by decide)
  | 16,_,_=>exact two 62 61 (by decide) (by decide) (by decide) (by decide) (by decide) (by decide)
  | n+17,_,h=>omega
 have:=key o.toNat (by omega) (by omega)
 unfold signOf
 rw [if_neg (by omega)]
 exact this
theorem span_halt {f:Int→Bool} : ∀ (p Z:Bs),(∀ c∈p,f (c.toNat:Int)=true)→(∀ c r,Z=c::r→f (c.toNat:Int)=false)→spanN f (p++Z)=p.length
 | [], Z, _, hz => by
   cases Z with
   | nil=>rfl
   | cons c r=>simp only [List.nil_append,spanN];rw [if_neg (by rw [hz c r rfl];decide)];rfl
 | c :: p, Z, hp, hz => by
   simp only [List.cons_append,spanN,List.length_cons]
   rw [if_pos (hp c (.head _)),span_halt p Z (fun d hd=>hp d (.tail _ hd)) hz]
theorem okN_named {Z:Bs} (h:okN Z):∀ c r,Z=c::r→namedB (c.toNat:Int)=false∧digitB (c.toNat:Int)=false∧letterB (c.toNat:Int)=false:=by
 rintro c r rfl
 rcases h with rfl | rfl | rfl | rfl | rfl | rfl <;> exact ⟨by decide,by decide,by decide⟩
theorem named_all:∀ (l:Bs),spanN namedB l=l.length→∀ c∈l,namedB (c.toNat:Int)=true
 | [],_,c,hc=>by cases hc
 | d :: l, h, c, hc => by
   simp only [spanN,List.length_cons] at h
   by_cases hd:namedB (d.toNat:Int)=true
   · rw [if_pos hd] at h
     rcases List.mem_cons.1 hc with rfl | hc
     · exact hd
     · exact named_all l (by omega) c hc
   · rw [if_neg hd] at h
     omega
theorem letter_sk {c:UInt8} {r:Bs} (h:letterB (c.toNat:Int)=true∨digitB (c.toNat:Int)=true):sk false (c::r)=0:=by
 have hb:blankB (c.toNat:Int)=false∧c≠47:=by
  refine ⟨?_,fun e=>by subst e;revert h;decide⟩
  cases hh:blankB (c.toNat:Int) with
  | false=>rfl
  | true =>
    exfalso
    rcases blank_vals hh with rfl | rfl | rfl | rfl <;> revert h <;> decide
 simp only [sk]
 rw [if_neg (by rw [hb.1];decide),if_neg (fun h=>hb.2 h.1)]
theorem cut_name {n:ByteArray} (h:nameB n=true):Cut n.data.toList [kN n] okN:=by
 have hw:=name_noword h
 unfold nameB at h
 simp only [Bool.and_eq_true,decide_eq_true_eq] at h
 obtain ⟨h0,h32,hdg,_,hsp⟩:=h
 have hlen:n.size=n.data.toList.length:=by simp
 have hpos:=h0
 obtain ⟨l,hl⟩:∃ l,l=n.data.toList:=⟨_,rfl⟩
 have hn:kN n=(1,⟨l.toArray⟩,0):=by rw [hl];rfl
 rw [← hl] at hw hsp hlen ⊢
 rw [hn]
 have hall:=named_all l (by omega)
 obtain ⟨c,r,hcr⟩:∃ c r,l=c::r:=by
  cases l with
  | nil=>rw [List.length_nil] at hlen;omega
  | cons c r=>exact ⟨c,r,rfl⟩
 have hc:letterB (c.toNat:Int)=true:=by
  have h1:=hall c (by rw [hcr];exact .head _)
  have h2:digitB (c.toNat:Int)=false:=by
   have e:PlainAid.bt n 0=(c.toNat:Int):=by
    have hz:0<n.size:=h0
    rw [← PlainAid.get_bt n 0 hz]
    have:n.data.toList[0]? = some c:=by rw [← hl,hcr];rfl
    have:n[0]=c:=by
     have h3:n.data[0]? = some c:=by simpa using this
     have h4:=(Array.getElem?_eq_some_iff.1 h3).2
     exact h4
    rw [this]
   rw [e] at hdg
   simpa using hdg
  unfold namedB at h1
  rw [h2] at h1
  simpa using h1
 refine cut_tok (fun Z hZ=>?_) (fun Z hZ=>?_)
 · rw [hcr];exact letter_sk (.inl hc)
 · have hsz := span_halt (f := namedB) l Z hall (fun c r e => (okN_named hZ c r e).1)
   rw [hcr] at hsz ⊢
   rw [← hcr] at hsz ⊢
   have:nextL (l++Z)=nameL (l++Z):=by
    rw [hcr]
    show (if letterB (c.toNat:Int)=true then _ else _)=_
    rw [if_pos hc]
    rfl
   rw [this]
   unfold nameL
   rw [hsz,List.take_left',if_neg (by rw [hw];decide),if_neg (by omega)]
   rfl
theorem cut_word {s:Bs} (h:wordL s=true) (hp:(match s with | []=>false | c::_=>letterB (c.toNat:Int))=true) (hall:s.all (fun c=>namedB (c.toNat:Int))=true):Cut s [kW s] okN:=by
 cases s with
 | nil=>cases hp
 | cons c r =>
   refine cut_tok (fun Z hZ=>letter_sk (.inl hp)) (fun Z hZ=>?_)
   have hsz:=span_halt (f:=namedB) (c::r) Z (List.all_eq_true.1 hall) (fun c r e=>(okN_named hZ c r e).1)
   have:nextL (c::r++Z)=nameL (c::r++Z):=by
    show (if letterB (c.toNat:Int)=true then _ else _)=_
    rw [if_pos hp]
    rfl
   rw [this]
   unfold nameL
   rw [hsz,List.take_left',if_pos h]
   rfl
theorem cut_num {v:Int} (h0:0≤v) (h1:v≤9223372036854775807):Cut (Lib.itoa v) [nbK v] okN:=by
 have e:Lib.itoa v=Lib.decDigits v.toNat:=by unfold Lib.itoa;rw [if_neg (by omega)]
 have hv:=dec_valueO v.toNat (by omega)
 rw [Int.toNat_of_nonneg h0] at hv
 unfold nbK itoaS
 rw [e]
 have hall:∀ c∈Lib.decDigits v.toNat,digitB (c.toNat:Int)=true:=fun c hc=>by
  have:=dec_mem _ c hc
  unfold digitB
  exact b_t (by omega)
 obtain ⟨l,hl⟩:∃ l,l=Lib.decDigits v.toNat:=⟨_,rfl⟩
 rw [← hl] at hall hv ⊢
 obtain ⟨c,r,hcr⟩:∃ c r,l=c::r:=by
  cases l with
  | nil=>simp [valueO] at hv
  | cons c r=>exact ⟨c,r,rfl⟩
 have hc:digitB (c.toNat:Int)=true:=hall c (by rw [hcr];exact .head _)
 have hnl:letterB (c.toNat:Int)=false:=by
  unfold digitB at hc
  unfold letterB
  have:=of_decide_eq_true hc
  exact b_f (by omega)
 refine cut_tok (fun Z hZ=>?_) (fun Z hZ=>?_)
 · rw [hcr];exact letter_sk (.inr hc)
 · have hsz := span_halt (f := digitB) l Z hall (fun c r e => (okN_named hZ c r e).2.1)
   have:nextL (l++Z)=numL (l++Z):=by
    rw [hcr]
    show (if letterB (c.toNat:Int)=true then _ else if digitB (c.toNat:Int)=true then _ else _)=_
    rw [if_neg (by rw [hnl];decide),if_pos hc]
    rfl
   have hlz:letterH Z=false:=by
    cases Z with
    | nil=>rfl
    | cons d r=>exact (okN_named hZ d r rfl).2.2
   rw [this]
   unfold numL
   rw [hsz,List.take_left',List.drop_left',hv,hlz]
   · rfl
   all_goals rfl
set_option linter.unusedVariables false
def begG (t:Bs):Prop:=∃ c r,t=c::r∧c≠61∧c≠60∧c≠62∧c≠47
theorem begG_app {t Z:Bs} (h:begG t):okG (t++Z):=by
 obtain ⟨c,r,rfl,h⟩:=h
 exact h
theorem letter_g {c:UInt8} (h:letterB (c.toNat:Int)=true∨digitB (c.toNat:Int)=true):c≠61∧c≠60∧c≠62∧c≠47:=by
 refine ⟨?_,?_,?_,?_⟩ <;> (rintro rfl;revert h;decide)
theorem begG_kid {b:Bool} {t:Bs} (h:begG t):begG (kidT b t):=by
 cases b with
 | false=>exact h
 | true=>exact ⟨40,t++[41],rfl,by decide,by decide,by decide,by decide⟩
theorem name_beg {n:ByteArray} (h:nameB n=true):begG n.data.toList:=by
 unfold nameB at h
 simp only [Bool.and_eq_true,decide_eq_true_eq] at h
 obtain ⟨h0,h32,hdg,_,hsp⟩:=h
 have hlen:n.size=n.data.toList.length:=by simp
 generalize n.data.toList=l at hsp hlen
 have hall:=named_all l (by omega)
 cases l with
 | nil=>rw [List.length_nil] at hlen;omega
 | cons c r =>
   refine ⟨c,r,rfl,letter_g ?_⟩
   have:=hall c (.head _)
   unfold namedB at this
   simpa using this
theorem num_beg {v:Int} (h0:0≤v) (h1:v≤9223372036854775807):begG (Lib.itoa v):=by
 have e:Lib.itoa v=Lib.decDigits v.toNat:=by unfold Lib.itoa;rw [if_neg (by omega)]
 have hv:=dec_valueO v.toNat (by omega)
 rw [e]
 have hall:∀ c∈Lib.decDigits v.toNat,digitB (c.toNat:Int)=true:=fun c hc=>by
  have:=dec_mem _ c hc
  unfold digitB
  exact b_t (by omega)
 generalize Lib.decDigits v.toNat=l at hall hv
 cases l with
 | nil=>simp [valueO] at hv
 | cons c r=>exact ⟨c,r,rfl,letter_g (.inr (hall c (.head _)))⟩
theorem cut_kid {b:Bool} {t:Bs} {ks:List Bk} (h:Cut t ks okN) (hb:begG t):Cut (kidT b t) (kidK b ks) okN:=by
 cases b with
 | false=>exact h
 | true =>
   have h1:=cut_app (cut_one (c:=40) (by decide) (by decide) (by decide) (by decide)) h (fun Z _=>begG_app hb)
   have h2:=cut_app h1 (cut_mono (cut_one (c:=41) (by decide) (by decide) (by decide) (by decide)) (fun Z hZ=>okS_of hZ)) (fun Z _=>Or.inr (.inl rfl))
   exact h2
theorem lit_rng {k o wd:Int} {n:ByteArray} {ks:List Ex} {ps:Int} (h:rgE (.mk k o wd n ks ps)):wd≤9223372036854775807:=h.2.2.1.2
theorem cut_ex:∀ (x:Ex) (d:Int),rE x d=true→rgE x→Cut (tE x) (kE x) okN∧begG (tE x):=by
 intro x
 induction x using Ex.ind with
 | h k o wd nm ks ps ih =>
   intro d hr hrg
   have hwd:=lit_rng hrg
   have hks:rgEs ks:=hrg.2.2.2
   simp only [rE,Bool.and_eq_true,decide_eq_true_eq] at hr
   obtain ⟨hd,hw,hn1,hkb⟩:=hr
   simp only [kE,tE]
   unfold kK tK
   unfold kB at hkb
   by_cases k1:k=1
   · subst k1
     rw [if_pos rfl,if_pos rfl]
     have h0:0≤wd:=by
      unfold wdB at hw
      simp at hw
      omega
     exact ⟨cut_num h0 hwd,num_beg h0 hwd⟩
   by_cases k2:k=2
   · subst k2
     rw [if_neg (by omega),if_pos rfl,if_neg (by omega),if_pos rfl]
     exact ⟨cut_name (nm_yes hn1),name_beg (nm_yes hn1)⟩
   by_cases k3:k=3
   · subst k3
     rw [if_neg (by omega),if_neg (by omega),if_pos rfl,if_neg (by omega),if_neg (by omega),if_pos rfl]
     rw [if_neg (by omega),if_pos rfl] at hkb
     simp only [Bool.and_eq_true] at hkb
     obtain ⟨ho,hkk⟩:=hkb
     match ks,hkk,ih,hks with
     | [y], hkk, ih, hks =>
       have hy:rE y (d+1+b2i (y.kind==4))=true:=by simpa [kid1,rEs] using hkk
       obtain ⟨c1,c2⟩:=ih y (.head _) _ hy hks.1
       show Cut (signOf o++kidT (y.kind==4) (tE y)) (sgK (signOf o)::kidK (y.kind==4) (kE y)) okN∧begG (signOf o++kidT (y.kind==4) (tE y))
       have hou:o=17∨o=18:=by unfold oneB at ho;simpa using ho
       rcases hou with rfl | rfl
       · rw [show signOf 17 = [45] by decide]
         exact ⟨cut_app (cut_one (c:=45) (by decide) (by decide) (by decide) (by decide)) (cut_kid c1 c2) (fun Z _=>begG_app (begG_kid c2)),45,_,rfl,by decide,by decide,by decide,by decide⟩
       · rw [show signOf 18 = [33] by decide]
         exact ⟨cut_app (cut_one (c:=33) (by decide) (by decide) (by decide) (by decide)) (cut_kid c1 c2) (fun Z _=>begG_app (begG_kid c2)),33,_,rfl,by decide,by decide,by decide,by decide⟩
     | [],hkk,_,_=>simp [kid1] at hkk
     | _::_::_,hkk,_,_=>simp [kid1] at hkk
   by_cases k4:k=4
   · subst k4
     rw [if_neg (by omega),if_neg (by omega),if_neg (by omega),if_pos rfl,if_neg (by omega),if_neg (by omega),if_neg (by omega),if_pos rfl]
     rw [if_neg (by omega),if_neg (by omega),if_pos rfl] at hkb
     simp only [Bool.and_eq_true] at hkb
     obtain ⟨ho,hkk⟩:=hkb
     match ks,hkk,ih,hks with
     | [a, b], hkk, ih, hks =>
       have hab:rE a (d+b2i (wrL o a))=true∧rE b (d+b2i (wrR o b))=true:=by simpa [kid2,rEs] using hkk
       obtain ⟨a1,a2⟩:=ih a (.head _) _ hab.1 hks.1
       obtain ⟨b1,b2⟩:=ih b (.tail _ (.head _)) _ hab.2 hks.2.1
       show Cut (kidT (wrL o a) (tE a)++([32]++signOf o++[32])++kidT (wrR o b) (tE b)) (kidK (wrL o a) (kE a)++(sgK (signOf o)::kidK (wrR o b) (kE b))) okN∧begG (kidT (wrL o a) (tE a)++([32]++signOf o++[32])++kidT (wrR o b) (tE b))
       have hop:Cut ([32]++signOf o++[32]) [sgK (signOf o)] (fun _=>True):=by
        have:=cut_app (cut_blank (c:=32) (by decide) (fun _=>True)) (cut_op ho) (fun _ _=>trivial)
        rwa [← List.append_assoc] at this
       have h1:=cut_app (cut_kid (b:=wrL o a) a1 a2) hop (fun Z _=>Or.inl rfl)
       have h2:=cut_app h1 (cut_kid (b:=wrR o b) b1 b2) (fun _ _=>trivial)
       refine ⟨?_,?_⟩
       · have e : kidK (wrL o a) (kE a) ++ (sgK (signOf o) :: kidK (wrR o b) (kE b)) = kidK (wrL o a) (kE a) ++ [sgK (signOf o)] ++ kidK (wrR o b) (kE b) := by simp
         rw [e]
         exact h2
       · obtain ⟨c, r, e, hc⟩ := begG_kid (b := wrL o a) a2
         exact ⟨c,r++([32]++signOf o++[32])++kidT (wrR o b) (tE b),by rw [e];simp,hc⟩
     | [],hkk,_,_=>simp [kid2] at hkk
     | [_],hkk,_,_=>simp [kid2] at hkk
     | _::_::_::_,hkk,_,_=>simp [kid2] at hkk
   · rw [if_neg (by omega), if_neg k3, if_neg k4] at hkb
     cases hkb
set_option linter.unusedVariables false
def anyZ:Bs→Prop:=fun _=>True
theorem Cut.cast {t:Bs} {ks ls:List Bk} {ok:Bs→Prop} (h:Cut t ks ok) (e:ks=ls):Cut t ls ok:=e ▸ h
theorem Cut.castT {t u:Bs} {ks:List Bk} {ok:Bs→Prop} (h:Cut t ks ok) (e:t=u):Cut u ks ok:=e ▸ h
theorem c_sp (ok:Bs→Prop):Cut [32] [] ok:=cut_blank (by decide) ok
theorem toN {t:Bs} {ks:List Bk} (h:Cut t ks okG):Cut t ks okN:=cut_mono h fun _ hZ=>okS_of hZ
theorem c_semi:Cut [59] [sgK [59]] okG:=cut_one (by decide) (by decide) (by decide) (by decide)
theorem c_open:Cut [40] [sgK [40]] okG:=cut_one (by decide) (by decide) (by decide) (by decide)
theorem c_shut:Cut [41] [sgK [41]] okG:=cut_one (by decide) (by decide) (by decide) (by decide)
theorem c_brace:Cut [123] [sgK [123]] okG:=cut_one (by decide) (by decide) (by decide) (by decide)
theorem c_close:Cut [125] [sgK [125]] okG:=cut_one (by decide) (by decide) (by decide) (by decide)
theorem c_is:Cut [61] [sgK [61]] okG:=cut_one (by decide) (by decide) (by decide) (by decide)
theorem c_com:Cut [44] [sgK [44]] okG:=cut_one (by decide) (by decide) (by decide) (by decide)
theorem g32 {Z:Bs} : okG (32::Z):=⟨by decide,by decide,by decide,by decide⟩
theorem g59 {Z:Bs} : okG (59::Z):=⟨by decide,by decide,by decide,by decide⟩
theorem n32 {Z:Bs} : okN (32::Z):=.inl rfl
theorem n41 {Z:Bs} : okN (41::Z):=.inr (.inl rfl)
theorem n59 {Z:Bs} : okN (59::Z):=.inr (.inr (.inl rfl))
theorem n44 {Z:Bs} : okN (44::Z):=.inr (.inr (.inr (.inl rfl)))
theorem n10 {Z:Bs} : okN (10::Z):=.inr (.inr (.inr (.inr (.inl rfl))))
theorem n40 {Z:Bs} : okN (40::Z):=.inr (.inr (.inr (.inr (.inr rfl))))
theorem sp_after {t:Bs} {ks:List Bk} (h:Cut t ks okG):Cut (t++[32]) ks anyZ:=(cut_app h (c_sp anyZ) (fun _ _=>g32)).cast (by simp)
theorem spN_after {t:Bs} {ks:List Bk} (h:Cut t ks okN):Cut (t++[32]) ks anyZ:=(cut_app h (c_sp anyZ) (fun _ _=>n32)).cast (by simp)
theorem sp_ahead {t:Bs} {ks:List Bk} {ok:Bs→Prop} (h:Cut t ks ok):Cut (32::t) ks ok:=cut_app (c_sp anyZ) h (fun _ _=>trivial)
theorem c_eq:Cut [32,61,32] [sgK [61]] anyZ:=sp_ahead (sp_after c_is)
theorem c_comma:Cut [44,32] [sgK [44]] anyZ:=sp_after c_com
theorem w_of (s:Bs) (h:wordL s=true) (hp:(match s with | []=>false | c::_=>letterB (c.toNat:Int))=true) (hall:s.all (fun c=>namedB (c.toNat:Int))=true):Cut s [kW s] okN:=cut_word h hp hall
theorem c_swap:Cut [32,61,32,115,119,97,112,40] [sgK [61],kW [115,119,97,112],sgK [40]] okG :=
 cut_app c_eq (cut_app (w_of [115,119,97,112] (by decide) (by decide) (by decide)) c_open (fun _ _=>n40)) (fun _ _=>trivial)
theorem c_end2:Cut [41,59] [sgK [41],sgK [59]] okG:=cut_app c_shut c_semi (fun _ _=>g59)
theorem c_if:Cut [105,102,32,40] [kW [105,102],sgK [40]] okG:=cut_app (spN_after (w_of [105,102] (by decide) (by decide) (by decide))) c_open (fun _ _=>trivial)
theorem c_while:Cut [119,104,105,108,101,32,40] [kW [119,104,105,108,101],sgK [40]] okG:=cut_app (spN_after (w_of [119,104,105,108,101] (by decide) (by decide) (by decide))) c_open (fun _ _=>trivial)
theorem c_head:Cut [41,32,123] [sgK [41],sgK [123]] okG:=cut_app (sp_after c_shut) c_brace (fun _ _=>trivial)
theorem c_lock:Cut [108,111,99,107,32] [kW [108,111,99,107]] anyZ:=spN_after (w_of [108,111,99,107] (by decide) (by decide) (by decide))
theorem c_print:Cut [112,114,105,110,116,32] [kW [112,114,105,110,116]] anyZ:=spN_after (w_of [112,114,105,110,116] (by decide) (by decide) (by decide))
theorem c_thread:Cut [116,104,114,101,97,100,32] [kW [116,104,114,101,97,100]] anyZ:=spN_after (w_of [116,104,114,101,97,100] (by decide) (by decide) (by decide))
theorem c_obr:Cut [32,123] [sgK [123]] okG:=sp_ahead c_brace
theorem c_skip:Cut [115,107,105,112,59] [kW [115,107,105,112],sgK [59]] okG:=cut_app (w_of [115,107,105,112] (by decide) (by decide) (by decide)) c_semi (fun _ _=>n59)
theorem c_else:Cut [125,32,101,108,115,101,32,123] [sgK [125],kW [101,108,115,101],sgK [123]] okG :=
 cut_app (sp_after c_close) (cut_app (spN_after (w_of [101,108,115,101] (by decide) (by decide) (by decide))) c_brace (fun _ _=>trivial)) (fun _ _=>trivial)
theorem cut_marg:∀ d:Nat,Cut (marg d) [] anyZ
 | 0=>cut_nil anyZ
 | d+1=>cut_app (cut_app (c_sp anyZ) (c_sp anyZ) (fun _ _=>trivial)) (cut_marg d) (fun _ _=>trivial)
theorem cut_ln {d:Nat} {l:List Bs} {ks:List Bk} (h:Cut l.flatten ks okN):Cut (ln d l) ks anyZ :=
 (cut_app (cut_app (cut_marg d) h (fun _ _=>trivial)) (cut_blank (c:=10) (by decide) anyZ) (fun _ _=>n10)).cast (by simp)
theorem rs_e {y:Ex} (hy:rE y 0=true) (hg:rgE y):Cut (tE y) (kE y) okN∧begG (tE y):=cut_ex y 0 hy hg
theorem flat3 (a b c:Bs):[a,b,c].flatten=a++(b++c):=by simp
theorem flat4 (a b c d:Bs):[a,b,c,d].flatten=a++(b++(c++d)):=by simp
theorem flat6 (a b c d e f:Bs):[a,b,c,d,e,f].flatten=a++(b++(c++(d++(e++f)))):=by simp
theorem flat1 (a:Bs):[a].flatten=a:=by simp
def CutS (x:St):Prop:=∀ (dd:Nat) (d:Int),rS x d=true→rgS x→Cut (tS x dd) (kS x) anyZ
theorem cut_Ss {l:List St} (H:∀ x∈l,CutS x):∀ (dd:Nat) (d:Int),rAll l d=true→rgSs l→Cut (tSs l dd) (kSs l) anyZ:=by
 induction l with
 | nil=>intro dd d _ _;exact cut_nil anyZ
 | cons x l ih =>
   intro dd d hr hg
   simp only [rAll,Bool.and_eq_true] at hr
   simp only [tSs,kSs]
   exact cut_app (H x (.head _) dd d hr.1 hg.1) (ih (fun y hy=>H y (.tail _ hy)) dd d hr.2 hg.2) (fun _ _=>trivial)
theorem cut_stmt:∀ x:St,CutS x:=by
 intro x
 induction x using St.ind with
 | h k nm ot es bo el ps ihb ihl =>
   have HB:=cut_Ss ihb
   have HE:=cut_Ss ihl
   intro dd d hr hrg
   obtain ⟨_,hg1,hg2,hg3⟩:=hrg
   simp only [rS,Bool.and_eq_true,decide_eq_true_eq] at hr
   obtain ⟨hk0,hk8,r1,r2,r3,r4,r5,r6,r7,r8⟩:=hr
   have rb:(shp k).2.2.2.1=true→rAll bo (d+1)=true:=fun hs=>by
    rw [hs] at r7
    simp at r7
    exact r7.2
   rcases kind_cases hk0 hk8 with rfl | rfl | rfl | rfl | rfl | rfl | rfl
   · obtain ⟨y, rfl, hy⟩ := one_e r3 rfl r6
     obtain ⟨c1,c2⟩:=rs_e hy hg1.1
     have h:=cut_ln (d:=dd) (l:=[nm.data.toList,[32,61,32],tE y,[59]]) (by
      rw [flat4]
      exact cut_app (cut_name r1) (cut_app c_eq (cut_app c1 (toN c_semi) (fun _ _=>n59)) (fun _ _=>trivial)) (fun _ _=>n32))
     exact (h.castT (by simp only [tS];rfl)).cast (by simp only [kS];rfl)
   · obtain ⟨y, rfl, hy⟩ := one_e r3 rfl r6
     obtain ⟨c1,c2⟩:=rs_e hy hg1.1
     have h:=cut_ln (d:=dd) (l:=[nm.data.toList,[32,61,32,115,119,97,112,40],ot.data.toList,[44,32],tE y,[41,59]]) (by
      rw [flat6]
      exact cut_app (cut_name r1) (cut_app c_swap (cut_app (cut_name r2) (cut_app c_comma (cut_app c1 (toN c_end2) (fun _ _=>n41)) (fun _ _=>trivial)) (fun _ _=>n44)) (fun Z _=>by rw [List.append_assoc];exact begG_app (name_beg r2))) (fun _ _=>n32))
     exact (h.castT (by simp only [tS];rfl)).cast (by simp only [kS];rfl)
   · obtain ⟨y, rfl, hy⟩ := one_e r3 rfl r6
     obtain ⟨c1,c2⟩:=rs_e hy hg1.1
     have h1:=cut_ln (d:=dd) (l:=[[105,102,32,40],tE y,[41,32,123]]) (by
      rw [flat3]
      exact cut_app c_if (cut_app c1 (toN c_head) (fun _ _=>n41)) (fun Z _=>by rw [List.append_assoc];exact begG_app c2))
     have h2:=HB (dd+1) (d+1) (rb rfl) hg2
     have h3:=cut_ln (d:=dd) (l:=[[125]]) (by rw [flat1];exact toN c_close)
     by_cases hel:0<el.length
     · have h4 := cut_ln (d := dd) (l := [[125, 32, 101, 108, 115, 101, 32, 123]]) (by rw [flat1]; exact toN c_else)
       have ra:rAll el (d+1)=true:=by
        rw [decide_eq_true (show 0<(el.length:Int) by omega)] at r8
        simp at r8
        exact r8.2
       have h5:=HE (dd+1) (d+1) ra hg3
       have h:=cut_app (cut_app (cut_app h1 h2 (fun _ _=>trivial)) (cut_app h4 h5 (fun _ _=>trivial)) (fun _ _=>trivial)) h3 (fun _ _=>trivial)
       exact (h.castT (by simp only [tS];rw [if_neg (by omega),if_neg (by omega),if_pos trivial,if_pos hel];rfl)).cast (by simp only [kS];rw [if_neg (by omega),if_neg (by omega),if_pos trivial,if_pos hel];simp [e0K])
     · have h := cut_app (cut_app h1 h2 (fun _ _ => trivial)) h3 (fun _ _ => trivial)
       exact (h.castT (by simp only [tS];rw [if_neg (by omega),if_neg (by omega),if_pos trivial,if_neg hel,List.append_nil];rfl)).cast (by simp only [kS];rw [if_neg (by omega),if_neg (by omega),if_pos trivial,if_neg hel];simp [e0K])
   · obtain ⟨y, rfl, hy⟩ := one_e r3 rfl r6
     obtain ⟨c1,c2⟩:=rs_e hy hg1.1
     have h1:=cut_ln (d:=dd) (l:=[[119,104,105,108,101,32,40],tE y,[41,32,123]]) (by
      rw [flat3]
      exact cut_app c_while (cut_app c1 (toN c_head) (fun _ _=>n41)) (fun Z _=>by rw [List.append_assoc];exact begG_app c2))
     have h:=cut_app (cut_app h1 (HB (dd+1) (d+1) (rb rfl) hg2) (fun _ _=>trivial)) (cut_ln (d:=dd) (l:=[[125]]) (by rw [flat1];exact toN c_close)) (fun _ _=>trivial)
     exact (h.castT (by simp only [tS];rfl)).cast (by simp only [kS];rw [if_neg (by omega),if_neg (by omega),if_neg (by omega),if_pos trivial];simp [e0K])
   · have h1 := cut_ln (d := dd) (l := [[108, 111, 99, 107, 32], nm.data.toList, [32, 123]]) (by
      rw [flat3]
      exact cut_app c_lock (cut_app (cut_name r1) (toN c_obr) (fun _ _=>n32)) (fun _ _=>trivial))
     have h:=cut_app (cut_app h1 (HB (dd+1) (d+1) (rb rfl) hg2) (fun _ _=>trivial)) (cut_ln (d:=dd) (l:=[[125]]) (by rw [flat1];exact toN c_close)) (fun _ _=>trivial)
     exact (h.castT (by simp only [tS];rfl)).cast (by simp only [kS];rw [if_neg (by omega),if_neg (by omega),if_neg (by omega),if_neg (by omega),if_pos trivial];simp)
   · obtain ⟨y, rfl, hy⟩ := one_e r3 rfl r6
     obtain ⟨c1,c2⟩:=rs_e hy hg1.1
     have h:=cut_ln (d:=dd) (l:=[[112,114,105,110,116,32],tE y,[59]]) (by
      rw [flat3]
      exact cut_app c_print (cut_app c1 (toN c_semi) (fun _ _=>n59)) (fun _ _=>trivial))
     exact (h.castT (by simp only [tS];rfl)).cast (by simp only [kS];rfl)
   · have h := cut_ln (d := dd) (l := [[115, 107, 105, 112, 59]]) (by rw [flat1]; exact toN c_skip)
     exact (h.castT (by simp only [tS];rfl)).cast (by simp only [kS];rfl)
set_option linter.unusedVariables false
theorem cut_word_num {v:Int} (h0 : -9223372036854775808<v) (h1:v≤9223372036854775807):Cut (Lib.itoa v) (if v<0 then [sgK [45],nbK (-v)] else [nbK v]) okN:=by
 by_cases hv:v<0
 · rw [if_pos hv]
   have e:Lib.itoa v=[45]++Lib.itoa (-v):=by
    unfold Lib.itoa
    rw [if_pos hv,if_neg (by omega),show v.natAbs=(-v).toNat by omega]
    rfl
   rw [e]
   exact cut_app (cut_one (c:=45) (by decide) (by decide) (by decide) (by decide)) (cut_num (by omega) (by omega)) (fun Z _=>begG_app (num_beg (by omega) (by omega)))
 · rw [if_neg hv]
   exact cut_num (by omega) h1
def okD (d:Dc):Prop:=nameB d.name=true ∧ -9223372036854775808<d.wd∧d.wd≤9223372036854775807
theorem cut_decl {s:ByteArray} {ks:List Bk} (hs:Cut s.data.toList ks anyZ) {d:Dc} (h:okD d):Cut (cat (dPart s d)) (ks++dK d) okN:=by
 unfold dPart dK
 rw [cat_cons,cat_cons]
 by_cases hz:d.wd=0
 · rw [if_pos hz, if_pos hz]
   exact cut_app hs ((cut_name h.1).castT (by simp [cat])) (fun _ _=>trivial)
 · rw [if_neg hz, if_neg hz]
   refine cut_app hs ?_ (fun _ _=>trivial)
   refine (cut_app (cut_name h.1) (cut_app c_eq (cut_word_num h.2.1 h.2.2) (fun _ _=>trivial)) (fun _ _=>n32)).castT ?_
   simp [cat,eqS,itoaS]
theorem cut_decls:∀ (l:List Dc) (s:ByteArray) (ks:List Bk),Cut s.data.toList ks anyZ→l≠[]→(∀ d∈l,okD d)→Cut (cat (dParts s l)++[59]) (ks++dsK l) okG
 | [],s,ks,_,h0,_=>absurd rfl h0
 | [d], s, ks, hs, _, hk => by
   have h:=cut_app (cut_decl hs (hk d (.head _))) c_semi (fun _ _=>n59)
   exact (h.castT (by simp [dParts])).cast (by simp [dsK])
 | d :: e :: l, s, ks, hs, _, hk => by
   have h1:=cut_decls (e::l) cmS [sgK [44]] c_comma (by simp) (fun y hy=>hk y (.tail _ hy))
   have h:=cut_app (cut_decl hs (hk d (.head _))) h1 (fun Z _=>by
    simp only [dParts,dPart,List.cons_append,cat_cons,List.append_assoc]
    exact n44)
   refine (h.castT ?_).cast ?_
   · conv => rhs; rw [dParts, cat_append]
     rw [List.append_assoc]
   · simp [dsK]
theorem cut_line {word:ByteArray} {w:Bs} (hw:Cut word.data.toList [kW w] okN) {l:List Dc} (hk:∀ d∈l,okD d) (d:Nat):Cut (tDs word l d) (lineK w l) anyZ:=by
 unfold tDs lineK
 by_cases h0:l.length=0
 · rw [if_pos h0, if_pos h0]
   exact cut_nil anyZ
 · rw [if_neg h0, if_neg h0]
   have hl:l≠[]:=fun e=>h0 (by rw [e];rfl)
   have h1:=cut_decls l spS [] (c_sp anyZ) hl hk
   have h2:=cut_app hw (toN h1) (fun Z _=>by
    cases l with
    | nil=>exact absurd rfl hl
    | cons x r =>
      simp only [dParts,dPart,List.cons_append,cat_cons,List.append_assoc]
      exact n32)
   have h3:=cut_app (cut_app (cut_marg d) h2 (fun _ _=>trivial)) (cut_blank (c:=10) (by decide) anyZ) (fun _ _=>n10)
   refine (h3.castT ?_).cast ?_
   · rw [cat_cons, cat_append]
     simp [cat,smS]
   · simp
theorem cut_thread {x:Th} (hx:thB x=true) (hg:rgT x):Cut (tT x) (kT x) anyZ:=by
 obtain ⟨nm,lo,bo,ps⟩:=x
 simp only [thB,Bool.and_eq_true] at hx
 obtain ⟨hx1,hx2,hx3⟩:=hx
 have hra:rAll bo 1=true:=by
  unfold rB at hx3
  simp only [Bool.and_eq_true] at hx3
  exact hx3.2
 have h1:=cut_ln (d:=0) (l:=[[116,104,114,101,97,100,32],nm.data.toList,[32,123]]) (by
  rw [flat3]
  exact cut_app c_thread (cut_app (cut_name hx1) (toN c_obr) (fun _ _=>n32)) (fun _ _=>trivial))
 have hl:∀ d∈lo,okD d:=fun d hd=>by
  have:=List.all_eq_true.1 hx2 d hd
  simp only [Bool.and_eq_true,beq_iff_eq] at this
  exact ⟨this.1,by omega,by omega⟩
 have h2:=cut_line (word:=⟨#[108,111,99,97,108]⟩) (w:=[108,111,99,97,108]) (w_of _ (by decide) (by decide) (by decide)) hl 1
 have h3:=cut_Ss (fun y (_:y∈bo)=>cut_stmt y) 1 1 hra hg
 have h4:=cut_ln (d:=0) (l:=[[125]]) (by rw [flat1];exact toN c_close)
 have h:=cut_app h1 (cut_app h2 (cut_app h3 h4 (fun _ _=>trivial)) (fun _ _=>trivial)) (fun _ _=>trivial)
 exact (h.castT rfl).cast rfl
theorem cut_threads:∀ (l:List Th),(∀ t∈l,thB t=true)→(∀ t∈l,rgT t)→Cut (l.flatMap tT) (l.flatMap kT) anyZ
 | [],_,_=>cut_nil anyZ
 | x :: l, h, hg => by
   rw [List.flatMap_cons,List.flatMap_cons]
   exact cut_app (cut_thread (h x (.head _)) (hg x (.head _))) (cut_threads l (fun t ht=>h t (.tail _ ht)) (fun t ht=>hg t (.tail _ ht))) (fun _ _=>trivial)
theorem cut_prog {x:Pg} (hx:rP x=true) (hg:rgP x) (hD:rgD x.shared):Cut (tP x) (kP x) anyZ:=by
 obtain ⟨sh,lk,th⟩:=x
 simp only [rP,Bool.and_eq_true] at hx
 obtain ⟨hx1,hx2,hx3⟩:=hx
 have h1:∀ d∈sh,okD d:=fun d hd=>by
  have:=List.all_eq_true.1 hx1 d hd
  simp only [Bool.and_eq_true,decide_eq_true_eq] at this
  exact ⟨this.1,this.2,(hD d hd).2⟩
 have h2:∀ d∈lk,okD d:=fun d hd=>by
  have:=List.all_eq_true.1 hx2 d hd
  simp only [Bool.and_eq_true,beq_iff_eq] at this
  exact ⟨this.1,by omega,by omega⟩
 have c1:=cut_line (word:=⟨#[115,104,97,114,101,100]⟩) (w:=[115,104,97,114,101,100]) (w_of _ (by decide) (by decide) (by decide)) h1 0
 have c2:=cut_line (word:=⟨#[108,111,99,107]⟩) (w:=[108,111,99,107]) (w_of _ (by decide) (by decide) (by decide)) h2 0
 exact cut_app c1 (cut_app c2 (cut_threads th (List.all_eq_true.1 hx3) hg) (fun _ _=>trivial)) (fun _ _=>trivial)
end Go.Proofs.YtggbkldniffbfaaGreatDoor

/- The proof, part 17: texts that belong together, in one. -/
import Derived.Test.YtmpljhfinmfnbaaGreatDoorQAN
import Derived.Test.YtmpljhfinmfnbaaGreatDoorQAP
set_option maxRecDepth 100000
set_option maxHeartbeats 20000000
namespace Go.Proofs.YtmpljhfinmfnbaaGreatDoor
open Go.RowKit
set_option linter.unusedVariables false
set_option maxRecDepth 100000
def dgA:List UInt8→Nat→Nat→Option (Nat × List UInt8)
 | [],_,_=>none
 | c :: r, k, n =>
   if (n ||| ((c.toNat % 128) <<< (7*k)) % 18446744073709551616) >>> (7*k)=c.toNat % 128 then
    (if c.toNat≤127 then (if c.toNat=0∧0<k then none else some (n ||| ((c.toNat % 128) <<< (7*k)) % 18446744073709551616,r))
     else dgA r (k+1) (n ||| ((c.toNat % 128) <<< (7*k)) % 18446744073709551616))
   else none
def dgN:List UInt8→Nat→Option (Nat × List UInt8)
 | [],_=>none
 | c::r,k=>if c.toNat≤127 then (if c.toNat=0∧0<k then none else some (c.toNat,r)) else (dgN r (k+1)).map fun x=>(c.toNat % 128+128*x.1,x.2)
theorem dig_or (n d s:Nat) (hn:n<2 ^ s):n ||| d <<< s=n+d*2 ^ s:=by
 have h:=Nat.shiftLeft_add_eq_or_of_lt hn d
 rw [Nat.or_comm,← h,Nat.shiftLeft_eq]
 omega
theorem dgA_eq:∀ (l:List UInt8) (k n:Nat),n<2 ^ (7*k)→n<18446744073709551616→dgA l k n=(dgN l k).bind fun x=>if n+x.1*2 ^ (7*k)<18446744073709551616 then some (n+x.1*2 ^ (7*k),x.2) else none
 | [],k,n,_,_=>rfl
 | c :: r, k, n, h1, h2 => by
   have hc:c.toNat<256:=c.toNat_lt
   obtain ⟨d,hd⟩:∃ d,d=c.toNat % 128:=⟨_,rfl⟩
   have hd2:d<128:=by omega
   obtain ⟨p,hp⟩:∃ p,p=2 ^ (7*k):=⟨_,rfl⟩
   have hp0:0<p:=by rw [hp];exact Nat.two_pow_pos _
   have hp1:2 ^ (7*(k+1))=p*128:=by rw [show 7*(k+1)=7*k+7 by omega,Nat.pow_add,← hp]
   unfold dgA dgN
   rw [← hd]
   by_cases hf:d*p<18446744073709551616
   · have e1 : (d <<< (7 * k)) % 18446744073709551616 = d <<< (7 * k) := by
      rw [Nat.shiftLeft_eq,← hp]
      exact Nat.mod_eq_of_lt hf
     rw [e1,dig_or n d _ h1,← hp]
     have e2:(n+d*p) >>> (7*k)=d:=by
      rw [Nat.shiftRight_eq_div_pow,← hp,Nat.add_mul_div_right _ _ hp0,Nat.div_eq_of_lt (by rw [hp];exact h1),Nat.zero_add]
     rw [e2,if_pos rfl]
     have hm:n+d*p<18446744073709551616:=by
      by_cases hk:7*k≤64
      · have e3 : 18446744073709551616 = 2 ^ (64 - 7 * k) * p := by rw [hp, ← Nat.pow_add, show 64 - 7 * k + 7 * k = 64 by omega]
        have e4:d<2 ^ (64-7*k):=by
         rw [e3] at hf
         exact Nat.lt_of_mul_lt_mul_right hf
        have e5:(d+1)*p≤2 ^ (64-7*k)*p:=Nat.mul_le_mul_right _ e4
        rw [← e3,Nat.add_mul] at e5
        rw [← hp] at h1
        omega
      · have e3 : 18446744073709551616 ≤ p := by
         rw [hp]
         exact Nat.le_trans (by decide:18446744073709551616≤2 ^ 64) (Nat.pow_le_pow_right (by decide) (by omega))
        have e4:d=0:=by
         rcases Nat.eq_zero_or_pos d with h | h
         · exact h
         · have := Nat.mul_le_mul h e3
           omega
        rw [e4]
        omega
     by_cases hs:c.toNat≤127
     · rw [if_pos hs, if_pos hs]
       have e6:d=c.toNat:=by omega
       by_cases hz:c.toNat=0∧0<k
       · rw [if_pos hz,if_pos hz];rfl
       · rw [if_neg hz, if_neg hz]
         simp only [Option.bind_some,← e6]
         rw [if_pos hm]
     · rw [if_neg hs, if_neg hs]
       rw [dgA_eq r (k + 1) _ (by rw [hp1]; have h3 : d * p ≤ 127 * p := Nat.mul_le_mul_right _ (by omega)
                                  rw [← hp] at h1;omega) hm]
       cases dgN r (k+1) with
       | none=>rfl
       | some x =>
         simp only [Option.bind_some,Option.map_some]
         have e7:n+d*p+x.1*2 ^ (7*(k+1))=n+(d+128*x.1)*p:=by
          rw [hp1,Nat.add_mul,← Nat.mul_assoc,Nat.mul_comm x.1 p,Nat.mul_assoc p,Nat.mul_comm p,Nat.mul_comm x.1 128]
          omega
         rw [e7]
   · have hpos : 0 < d := by
      rcases Nat.eq_zero_or_pos d with h | h
      · rw [h] at hf;omega
      · exact h
     have e2:(n ||| (d <<< (7*k)) % 18446744073709551616) >>> (7*k)≠d:=by
      have hlt:n ||| (d <<< (7*k)) % 18446744073709551616<2 ^ 64:=Nat.or_lt_two_pow (by omega) (Nat.mod_lt _ (by decide))
      rw [Nat.shiftRight_eq_div_pow,← hp]
      have:(n ||| (d <<< (7*k)) % 18446744073709551616) / p<d:=by
       rw [Nat.div_lt_iff_lt_mul hp0]
       omega
      omega
     rw [if_neg e2]
     have hbig:∀ y:Nat,d≤y→¬ (n+y*p<18446744073709551616):=fun y hy=>by
      have:=Nat.mul_le_mul_right p hy
      omega
     by_cases hs:c.toNat≤127
     · rw [if_pos hs]
       by_cases hz:c.toNat=0∧0<k
       · rw [if_pos hz];rfl
       · rw [if_neg hz]
         simp only [Option.bind_some,← hp]
         rw [if_neg (hbig _ (by omega))]
     · rw [if_neg hs]
       cases dgN r (k+1) with
       | none=>rfl
       | some x =>
         simp only [Option.bind_some,Option.map_some,← hp]
         rw [if_neg (hbig _ (by omega))]
theorem dgN_put:∀ (f n k:Nat) (r:List UInt8),n<128 ^ (f+1)→(k=0∨0<n)→dgN (dg (f+1) n++r) k=some (n,r)
 | f, n, k, r, h, hk => by
   unfold dg
   by_cases h1:n≤127
   · rw [if_pos h1]
     have e:(UInt8.ofNat n).toNat=n:=by rw [UInt8.toNat_ofNat'];omega
     show dgN (UInt8.ofNat n::([]++r)) k=_
     unfold dgN
     rw [e,if_pos h1,if_neg (by omega)]
     rfl
   · rw [if_neg h1]
     have e:(UInt8.ofNat (n % 128+128)).toNat=n % 128+128:=by rw [UInt8.toNat_ofNat'];omega
     show dgN (UInt8.ofNat (n % 128+128)::(dg f (n / 128)++r)) k=_
     unfold dgN
     rw [e,if_neg (by omega)]
     cases f with
     | zero=>simp at h;omega
     | succ f =>
       rw [dgN_put f (n / 128) (k+1) r (by rw [Nat.pow_succ] at h;omega) (.inr (by omega))]
       simp only [Option.map_some,Option.some.injEq,Prod.mk.injEq,and_true]
       omega
theorem dgN_get:∀ (l:List UInt8) (k n:Nat) (r:List UInt8),dgN l k=some (n,r)→(0<k→0<n)∧∀ f,n<128 ^ (f+1)→l=dg (f+1) n++r
 | [],k,n,r,h=>by cases h
 | c :: l, k, n, r, h => by
   have hc:c.toNat<256:=c.toNat_lt
   unfold dgN at h
   by_cases h1:c.toNat≤127
   · rw [if_pos h1] at h
     by_cases hz:c.toNat=0∧0<k
     · rw [if_pos hz] at h;cases h
     · rw [if_neg hz] at h
       simp only [Option.some.injEq,Prod.mk.injEq] at h
       obtain ⟨rfl,rfl⟩:=h
       refine ⟨fun hk=>by omega,fun f _=>?_⟩
       unfold dg
       rw [if_pos h1,UInt8.ofNat_toNat]
       rfl
   · rw [if_neg h1] at h
     obtain ⟨x,hx,he⟩:=Option.map_eq_some_iff.1 h
     simp only [Prod.mk.injEq] at he
     obtain ⟨e1,rfl⟩:=he
     obtain ⟨h2,h3⟩:=dgN_get l (k+1) x.1 x.2 hx
     have h4:=h2 (by omega)
     refine ⟨fun _=>by omega,fun f hf=>?_⟩
     cases f with
     | zero=>simp at hf;omega
     | succ f =>
       have h5:=h3 f (by rw [Nat.pow_succ] at hf;omega)
       unfold dg
       rw [if_neg (by omega),show n % 128+128=c.toNat by omega,UInt8.ofNat_toNat,show n / 128=x.1 by omega,h5]
       rfl
theorem dig_put (n:Nat) (hn:n<18446744073709551616) (r:List UInt8):dgA (dgT n++r) 0 0=some (n,r):=by
 rw [dgA_eq _ 0 0 (by decide) (by decide),dgT,dgN_put 9 n 0 r (Nat.lt_of_lt_of_le hn (by decide)) (.inl rfl)]
 simp only [Option.bind_some,Nat.mul_zero,Nat.pow_zero,Nat.mul_one,Nat.zero_add]
 rw [if_pos hn]
theorem dig_get {l r:List UInt8} {n:Nat} (h:dgA l 0 0=some (n,r)):n<18446744073709551616∧l=dgT n++r:=by
 rw [dgA_eq _ 0 0 (by decide) (by decide)] at h
 obtain ⟨x,hx,he⟩:=Option.bind_eq_some_iff.1 h
 simp only [Nat.mul_zero,Nat.pow_zero,Nat.mul_one,Nat.zero_add] at he
 by_cases h1:x.1<18446744073709551616
 · rw [if_pos h1] at he
   simp only [Option.some.injEq,Prod.mk.injEq] at he
   obtain ⟨rfl,rfl⟩:=he
   exact ⟨h1,(dgN_get l 0 x.1 x.2 hx).2 9 (Nat.lt_of_lt_of_le h1 (by decide))⟩
 · rw [if_neg h1] at he;cases he
abbrev Bst:=List UInt8 × Bool
def badS:Bst:=([],true)
def digR (s:Bst):Nat × Bst:=match dgA s.1 0 0 with | some x=>(x.1,(x.2,s.2)) | none=>(0,badS)
def numR (x:Int) (s:Bst):Int × Bst:=if 9223372036854775807<((digR s).1:Int) then (x,badS) else (((digR s).1:Int),(digR s).2)
def unz (n:Nat):Int:=if n % 2=1 then -((n / 2:Nat):Int)-1 else ((n / 2:Nat):Int)
def wrdR (s:Bst):Int × Bst:=(unz (digR s).1,(digR s).2)
def cntR (m:Int) (s:Bst):Int × Bst:=if m<(numR 0 s).1 then (0,badS) else numR 0 s
def takR (k:Int) (s:Bst):List UInt8 × Bst:=if (s.1.length:Int)<k then ([],badS) else (s.1.take k.toNat,(s.1.drop k.toNat,s.2))
def repR {α:Type} (f:Bst→α × Bst):Nat→Bst→List α × Bst
 | 0,s=>([],s)
 | k+1,s=>if s.2=true then ([],s) else ((f s).1::(repR f k (f s).2).1,(repR f k (f s).2).2)
def lstR {α:Type} (f:Bst→α × Bst) (m:Int) (s:Bst):List α × Bst:=repR f (cntR m s).1.toNat (cntR m s).2
def optR (u:Bool) (f:Bst→Int × Bst) (s:Bst):Int × Bst:=bif u then f s else (0,s)
def insR (s:Bst):Ins × Bst :=
 let k:=cntR 10 s
 let o:=optR (hasB (uB k.1 0) 1) (cntR 18) k.2
 let d:=optR (hasB (uB k.1 o.1) 2) (numR 0) o.2
 let a:=optR (hasB (uB k.1 o.1) 4) (numR 0) d.2
 let b:=optR (hasB (uB k.1 o.1) 8) (numR 0) a.2
 let ad:=optR (hasB (uB k.1 o.1) 16) (numR 0) b.2
 let tt:=optR (hasB (uB k.1 o.1) 32) (numR 0) ad.2
 let wd:=optR (hasB (uB k.1 o.1) 64) wrdR tt.2
 let fr:=numR 0 wd.2
 (⟨k.1,o.1,d.1,a.1,b.1,ad.1,tt.1,wd.1,fr.1⟩,fr.2)
def corR (s:Bst):Cor × Bst :=
 let n:=cntR 32 s
 let t:=takR n.1 n.2
 let c:=lstR insR 16384 t.2
 (⟨⟨t.1.toArray⟩,c.1⟩,c.2)
def magic:List UInt8:=[115,116,105,108]
def obS (s:Bst):Ob × Bst :=
 let t:=takR 4 s
 if t.1=magic then
  let sh:=numR 0 t.2
  let lk:=numR 0 sh.2
  let bf:=numR 0 lk.2
  let mem:=lstR wrdR 4096 bf.2
  let cores:=lstR corR 8 mem.2
  (⟨mem.1,sh.1,lk.1,bf.1,cores.1⟩,cores.2)
 else (⟨[],0,0,0,[]⟩,badS)
def decO (l:List UInt8):Ob × Int :=
 if (obS (l,false)).2.2=false∧(obS (l,false)).2.1=[] then
  (if (chkO (obS (l,false)).1).1=0 then ((obS (l,false)).1,0) else (⟨[],0,0,0,[]⟩,162))
 else (⟨[],0,0,0,[]⟩,162)
structure RdY {α:Type} (f:Bst→α × Bst) (wr:α→List UInt8) (P:α→Prop):Prop where
 put:∀ x,P x→∀ r,f (wr x++r,false)=(x,(r,false))
 get:∀ s x t,f s=(x,t)→t.2=false→s.2=false∧P x∧s.1=wr x++t.1
def I63 (x:Int):Prop:=0≤x∧x≤9223372036854775807
def I64 (x:Int):Prop:=-9223372036854775808≤x∧x≤9223372036854775807
theorem digR_get {s t:Bst} {n:Nat} (h:digR s=(n,t)) (ht:t.2=false):s.2=false∧n<18446744073709551616∧s.1=dgT n++t.1:=by
 unfold digR at h
 cases hd:dgA s.1 0 0 with
 | none =>
   rw [hd] at h
   simp only [Prod.mk.injEq] at h
   rw [← h.2] at ht
   cases ht
 | some x =>
   rw [hd] at h
   simp only [Prod.mk.injEq] at h
   obtain ⟨rfl,rfl⟩:=h
   have h2:=dig_get (n:=x.1) (r:=x.2) (by rw [hd])
   exact ⟨ht,h2.1,h2.2⟩
theorem digR_put (n:Nat) (hn:n<18446744073709551616) (r:List UInt8):digR (dgT n++r,false)=(n,(r,false)):=by
 unfold digR
 rw [dig_put n hn r]
theorem digR_lt (s:Bst):(digR s).1<18446744073709551616:=by
 unfold digR
 cases hd:dgA s.1 0 0 with
 | none=>simp
 | some x=>exact (dig_get (n:=x.1) (r:=x.2) (by rw [hd])).1
theorem rd_num (y:Int):RdY (numR y) numY I63:=by
 refine ⟨fun x hx r=>?_,fun s x t h ht=>?_⟩
 · obtain ⟨h0, h1⟩ := hx
   have hu:u64 x=x.toNat:=by unfold u64;omega
   unfold numR numY
   rw [digR_put _ (by omega),hu]
   simp only
   rw [if_neg (by omega)]
   simp only [Prod.mk.injEq,and_true]
   omega
 · unfold numR at h
   by_cases hb:9223372036854775807<((digR s).1:Int)
   · rw [if_pos hb] at h
     simp only [Prod.mk.injEq] at h
     rw [← h.2] at ht
     cases ht
   · rw [if_neg hb] at h
     simp only [Prod.mk.injEq] at h
     obtain ⟨h1,h2⟩:=h
     have h3:=digR_get (s:=s) (n:=(digR s).1) (t:=t) (by rw [← h2]) ht
     refine ⟨h3.1,⟨by omega,by omega⟩,?_⟩
     rw [h3.2.2,numY,← h1]
     have:u64 ((digR s).1:Int)=(digR s).1:=by unfold u64;omega
     rw [this]
theorem unz_zig (x:Int):unz (Lib.zigzag x)=x:=by
 unfold unz Lib.zigzag
 split <;> split <;> omega
theorem zig_unz (n:Nat):Lib.zigzag (unz n)=n:=by
 unfold unz Lib.zigzag
 split <;> split <;> omega
theorem rd_wrd:RdY wrdR wrdY I64:=by
 refine ⟨fun x hx r=>?_,fun s x t h ht=>?_⟩
 · unfold wrdR wrdY
   rw [digR_put _ (Lib.zigzag_lt hx.1 hx.2)]
   simp only [unz_zig]
 · unfold wrdR at h
   simp only [Prod.mk.injEq] at h
   obtain ⟨h1,h2⟩:=h
   have h3:=digR_get (s:=s) (n:=(digR s).1) (t:=t) (by rw [← h2]) ht
   refine ⟨h3.1,?_,?_⟩
   · have := h3.2.1
     rw [← h1]
     unfold I64 unz
     split <;> omega
   · rw [h3.2.2,wrdY,← h1,zig_unz]
theorem rd_cnt (m:Int) (hm:m≤9223372036854775807):RdY (cntR m) numY (fun x=>0≤x∧x≤m):=by
 refine ⟨fun x hx r=>?_,fun s x t h ht=>?_⟩
 · unfold cntR
   rw [(rd_num 0).put x ⟨hx.1,by omega⟩ r]
   simp only
   rw [if_neg (by omega)]
 · unfold cntR at h
   by_cases hb:m<(numR 0 s).1
   · rw [if_pos hb] at h
     simp only [Prod.mk.injEq] at h
     rw [← h.2] at ht
     cases ht
   · rw [if_neg hb] at h
     have h2:=(rd_num 0).get s x t h ht
     rw [h] at hb
     exact ⟨h2.1,⟨h2.2.1.1,by simpa using hb⟩,h2.2.2⟩
theorem tak_put (x r:List UInt8):takR (x.length:Int) (x++r,false)=(x,(r,false)):=by
 unfold takR
 rw [if_neg (by simp only [List.length_append];omega)]
 simp
theorem tak_get {k:Int} (hk:0≤k) {s t:Bst} {x:List UInt8} (h:takR k s=(x,t)) (ht:t.2=false):s.2=false∧(x.length:Int)=k∧s.1=x++t.1:=by
 unfold takR at h
 by_cases hb:(s.1.length:Int)<k
 · rw [if_pos hb] at h
   simp only [Prod.mk.injEq] at h
   rw [← h.2] at ht
   cases ht
 · rw [if_neg hb] at h
   simp only [Prod.mk.injEq] at h
   obtain ⟨rfl,rfl⟩:=h
   refine ⟨ht,?_,(List.take_append_drop _ _).symm⟩
   rw [List.length_take]
   omega
section
variable {α:Type} {f:Bst→α × Bst} {wr:α→List UInt8} {P:α→Prop}
theorem rep_put (h:RdY f wr P):∀ (l:List α),(∀ x∈l,P x)→∀ r,repR f l.length (l.flatMap wr++r,false)=(l,(r,false))
 | [],_,r=>rfl
 | x :: l, hl, r => by
   show repR f (l.length+1) ((wr x++l.flatMap wr)++r,false)=_
   unfold repR
   rw [if_neg (by simp),List.append_assoc,h.put x (hl x (by simp)),rep_put h l (fun y hy=>hl y (by simp [hy]))]
theorem rep_get (h:RdY f wr P):∀ (k:Nat) (s t:Bst) (l:List α),repR f k s=(l,t)→t.2=false→s.2=false∧(∀ x∈l,P x)∧l.length=k∧s.1=l.flatMap wr++t.1
 | 0, s, t, l, e, ht => by
   unfold repR at e
   simp only [Prod.mk.injEq] at e
   obtain ⟨rfl,rfl⟩:=e
   exact ⟨ht,by simp,rfl,rfl⟩
 | k + 1, s, t, l, e, ht => by
   unfold repR at e
   by_cases hs:s.2=true
   · rw [if_pos hs] at e
     simp only [Prod.mk.injEq] at e
     rw [← e.2,hs] at ht
     cases ht
   · rw [if_neg hs] at e
     simp only [Prod.mk.injEq] at e
     obtain ⟨rfl,e2⟩:=e
     obtain ⟨h1,h2,h3,h4⟩:=rep_get h k (f s).2 t (repR f k (f s).2).1 (by rw [← e2]) ht
     obtain ⟨k1,k2,k3⟩:=h.get s (f s).1 (f s).2 rfl h1
     refine ⟨k1,?_,by simp [h3],?_⟩
     · intro x hx
       rcases List.mem_cons.1 hx with rfl | hx
       · exact k2
       · exact h2 x hx
     · rw [k3,h4,List.flatMap_cons,List.append_assoc]
theorem rd_lst (h:RdY f wr P) (m:Int) (hm:m≤9223372036854775807):RdY (lstR f m) (fun l=>numY l.length++l.flatMap wr) (fun l=>(l.length:Int)≤m∧∀ x∈l,P x):=by
 refine ⟨fun l hl r=>?_,fun s l t e ht=>?_⟩
 · unfold lstR
   rw [List.append_assoc,(rd_cnt m hm).put (l.length:Int) ⟨by omega,hl.1⟩]
   simp only [Int.toNat_natCast]
   exact rep_put h l hl.2 r
 · unfold lstR at e
   obtain ⟨h1,h2,h3,h4⟩:=rep_get h _ _ t l e ht
   obtain ⟨k1,k2,k3⟩:=(rd_cnt m hm).get s (cntR m s).1 (cntR m s).2 rfl h1
   have e1:((cntR m s).1)=(l.length:Int):=by omega
   refine ⟨k1,⟨by omega,h2⟩,?_⟩
   rw [k3,h4,e1,List.append_assoc]
end
def optP (u:Bool) (P:Int→Prop) (x:Int):Prop:=match u with | true=>P x | false=>x=0
theorem rd_opt (u:Bool) {f:Bst→Int × Bst} {wr:Int→List UInt8} {P:Int→Prop} (h:RdY f wr P):RdY (optR u f) (fun x=>bif u then wr x else []) (optP u P):=by
 cases u with
 | true=>exact ⟨fun x hx r=>h.put x hx r,fun s x t e ht=>h.get s x t e ht⟩
 | false =>
   refine ⟨fun x hx r=>?_,fun s x t e ht=>?_⟩
   · have : x = 0 := hx
     subst this
     rfl
   · have e : ((0 : Int), s) = (x, t) := e
     simp only [Prod.mk.injEq] at e
     obtain ⟨rfl,rfl⟩:=e
     exact ⟨ht,rfl,rfl⟩
theorem has_one (k o:Int):hasB (uB k o) 1=hasB (uB k 0) 1:=by
 cases hk:kB k with
 | true=>rw [(has_all k o hk).1,(has_all k 0 hk).1]
 | false=>unfold uB;rw [hk];rfl
structure GI (i:Ins):Prop where
 k:0≤i.k∧i.k≤10
 o:optP (hasB (uB i.k 0) 1) (fun x=>0≤x∧x≤18) i.o
 d:optP (hasB (uB i.k i.o) 2) I63 i.d
 a:optP (hasB (uB i.k i.o) 4) I63 i.a
 b:optP (hasB (uB i.k i.o) 8) I63 i.b
 ad:optP (hasB (uB i.k i.o) 16) I63 i.ad
 tt:optP (hasB (uB i.k i.o) 32) I63 i.tt
 wd:optP (hasB (uB i.k i.o) 64) I64 i.wd
 fr:I63 i.fr
theorem insY_eq (i:Ins) (r:List UInt8):insY i++r=numY i.k++((bif hasB (uB i.k 0) 1 then numY i.o else [])++((bif hasB (uB i.k i.o) 2 then numY i.d else [])++((bif hasB (uB i.k i.o) 4 then numY i.a else [])++((bif hasB (uB i.k i.o) 8 then numY i.b else [])++((bif hasB (uB i.k i.o) 16 then numY i.ad else [])++((bif hasB (uB i.k i.o) 32 then numY i.tt else [])++((bif hasB (uB i.k i.o) 64 then wrdY i.wd else [])++(numY i.fr++r)))))))):=by
 unfold insY
 rw [has_one i.k i.o]
 simp only [fldsY,fldY,List.append_assoc,List.nil_append]
theorem rd_ins:RdY insR insY GI:=by
 refine ⟨fun i g r=>?_,fun s i t e ht=>?_⟩
 · rw [insY_eq]
   unfold insR
   rw [(rd_cnt 10 (by decide)).put i.k g.k]
   simp only
   rw [(rd_opt (hasB (uB i.k 0) 1) (rd_cnt 18 (by decide))).put i.o g.o]
   simp only
   rw [(rd_opt (hasB (uB i.k i.o) 2) (rd_num 0)).put i.d g.d]
   simp only
   rw [(rd_opt (hasB (uB i.k i.o) 4) (rd_num 0)).put i.a g.a]
   simp only
   rw [(rd_opt (hasB (uB i.k i.o) 8) (rd_num 0)).put i.b g.b]
   simp only
   rw [(rd_opt (hasB (uB i.k i.o) 16) (rd_num 0)).put i.ad g.ad]
   simp only
   rw [(rd_opt (hasB (uB i.k i.o) 32) (rd_num 0)).put i.tt g.tt]
   simp only
   rw [(rd_opt (hasB (uB i.k i.o) 64) rd_wrd).put i.wd g.wd]
   simp only
   rw [(rd_num 0).put i.fr g.fr]
 · unfold insR at e
   rcases h1:cntR 10 s with ⟨k,s1⟩
   rw [h1] at e
   simp only at e
   rcases h2:optR (hasB (uB k 0) 1) (cntR 18) s1 with ⟨o,s2⟩
   rw [h2] at e
   simp only at e
   rcases h3:optR (hasB (uB k o) 2) (numR 0) s2 with ⟨d,s3⟩
   rw [h3] at e
   simp only at e
   rcases h4:optR (hasB (uB k o) 4) (numR 0) s3 with ⟨a,s4⟩
   rw [h4] at e
   simp only at e
   rcases h5:optR (hasB (uB k o) 8) (numR 0) s4 with ⟨b,s5⟩
   rw [h5] at e
   simp only at e
   rcases h6:optR (hasB (uB k o) 16) (numR 0) s5 with ⟨ad,s6⟩
   rw [h6] at e
   simp only at e
   rcases h7:optR (hasB (uB k o) 32) (numR 0) s6 with ⟨tt,s7⟩
   rw [h7] at e
   simp only at e
   rcases h8:optR (hasB (uB k o) 64) wrdR s7 with ⟨wd,s8⟩
   rw [h8] at e
   simp only at e
   rcases h9:numR 0 s8 with ⟨fr,s9⟩
   rw [h9] at e
   simp only [Prod.mk.injEq] at e
   obtain ⟨rfl,rfl⟩:=e
   obtain ⟨b9,p9,e9⟩:=(rd_num 0).get _ _ _ h9 ht
   obtain ⟨b8,p8,e8⟩:=(rd_opt _ rd_wrd).get _ _ _ h8 b9
   obtain ⟨b7,p7,e7⟩:=(rd_opt _ (rd_num 0)).get _ _ _ h7 b8
   obtain ⟨b6,p6,e6⟩:=(rd_opt _ (rd_num 0)).get _ _ _ h6 b7
   obtain ⟨b5,p5,e5⟩:=(rd_opt _ (rd_num 0)).get _ _ _ h5 b6
   obtain ⟨b4,p4,e4⟩:=(rd_opt _ (rd_num 0)).get _ _ _ h4 b5
   obtain ⟨b3,p3,e3⟩:=(rd_opt _ (rd_num 0)).get _ _ _ h3 b4
   obtain ⟨b2,p2,e2⟩:=(rd_opt _ (rd_cnt 18 (by decide))).get _ _ _ h2 b3
   obtain ⟨b1,p1,e1⟩:=(rd_cnt 10 (by decide)).get _ _ _ h1 b2
   refine ⟨b1,⟨p1,p2,p3,p4,p5,p6,p7,p8,p9⟩,?_⟩
   rw [insY_eq,e1,e2,e3,e4,e5,e6,e7,e8,e9]
structure GC (c:Cor):Prop where
 name:(c.name.size:Int)≤32
 code:(c.code.length:Int)≤16384∧∀ i∈c.code,GI i
theorem corY_eq (c:Cor) (r:List UInt8):corY c++r=numY c.name.size++(c.name.data.toList++((numY c.code.length++c.code.flatMap insY)++r)):=by
 unfold corY
 simp only [List.append_assoc]
theorem rd_cor:RdY corR corY GC:=by
 refine ⟨fun c g r=>?_,fun s c t e ht=>?_⟩
 · rw [corY_eq]
   unfold corR
   rw [(rd_cnt 32 (by decide)).put (c.name.size:Int) ⟨by omega,g.name⟩]
   simp only
   have hl:(c.name.size:Int)=(c.name.data.toList.length:Int):=by rw [Array.length_toList];rfl
   rw [hl,tak_put]
   simp only
   rw [(rd_lst rd_ins 16384 (by decide)).put c.code g.code]
 · unfold corR at e
   rcases h1:cntR 32 s with ⟨n,s1⟩
   rw [h1] at e
   simp only at e
   rcases h2:takR n s1 with ⟨x,s2⟩
   rw [h2] at e
   simp only at e
   rcases h3:lstR insR 16384 s2 with ⟨l,s3⟩
   rw [h3] at e
   simp only [Prod.mk.injEq] at e
   obtain ⟨rfl,rfl⟩:=e
   obtain ⟨b3,p3,e3⟩:=(rd_lst rd_ins 16384 (by decide)).get _ _ _ h3 ht
   have hn:0≤n:=by
    have h5:(cntR 32 s).1=n:=by rw [h1]
    have h6:0≤(cntR 32 s).1:=by
     unfold cntR numR
     split
     · simp
     · split <;> simp
    omega
   obtain ⟨b2,p2,e2⟩:=tak_get hn h2 b3
   obtain ⟨b1,p1,e1⟩:=(rd_cnt 32 (by decide)).get _ _ _ h1 b2
   have hz:((⟨x.toArray⟩:ByteArray).size:Int)=n:=by rw [← p2];simp [ByteArray.size]
   refine ⟨b1,⟨?_,p3⟩,?_⟩
   · simp only;rw [hz];exact p1.2
   · rw [corY_eq]
     simp only
     rw [hz,e1,e2,e3]
structure GO (o:Ob):Prop where
 sh:I63 o.sh
 lk:I63 o.lk
 bf:I63 o.bf
 mem:(o.mem.length:Int)≤4096∧∀ x∈o.mem,I64 x
 cores:(o.cores.length:Int)≤8∧∀ c∈o.cores,GC c
theorem obY_eq (o:Ob) (r:List UInt8):obY o++r=magic++(numY o.sh++(numY o.lk++(numY o.bf++((numY o.mem.length++o.mem.flatMap wrdY)++((numY o.cores.length++o.cores.flatMap corY)++r))))):=by
 unfold obY magic
 simp only [List.append_assoc,List.flatMap_cons,List.flatMap_nil,List.append_nil]
theorem rd_ob:RdY obS obY GO:=by
 refine ⟨fun o g r=>?_,fun s o t e ht=>?_⟩
 · rw [obY_eq]
   unfold obS
   rw [show (4:Int)=(magic.length:Int) by rfl,tak_put]
   simp only [if_true]
   rw [(rd_num 0).put o.sh g.sh]
   simp only
   rw [(rd_num 0).put o.lk g.lk]
   simp only
   rw [(rd_num 0).put o.bf g.bf]
   simp only
   rw [(rd_lst rd_wrd 4096 (by decide)).put o.mem g.mem]
   simp only
   rw [(rd_lst rd_cor 8 (by decide)).put o.cores g.cores]
 · unfold obS at e
   rcases h0:takR 4 s with ⟨m,s0⟩
   rw [h0] at e
   simp only at e
   by_cases hm:m=magic
   · rw [if_pos hm] at e
     subst hm
     rcases h1:numR 0 s0 with ⟨sh,s1⟩
     rw [h1] at e
     simp only at e
     rcases h2:numR 0 s1 with ⟨lk,s2⟩
     rw [h2] at e
     simp only at e
     rcases h3:numR 0 s2 with ⟨bf,s3⟩
     rw [h3] at e
     simp only at e
     rcases h4:lstR wrdR 4096 s3 with ⟨mem,s4⟩
     rw [h4] at e
     simp only at e
     rcases h5:lstR corR 8 s4 with ⟨cs,s5⟩
     rw [h5] at e
     simp only [Prod.mk.injEq] at e
     obtain ⟨rfl,rfl⟩:=e
     obtain ⟨b5,p5,e5⟩:=(rd_lst rd_cor 8 (by decide)).get _ _ _ h5 ht
     obtain ⟨b4,p4,e4⟩:=(rd_lst rd_wrd 4096 (by decide)).get _ _ _ h4 b5
     obtain ⟨b3,p3,e3⟩:=(rd_num 0).get _ _ _ h3 b4
     obtain ⟨b2,p2,e2⟩:=(rd_num 0).get _ _ _ h2 b3
     obtain ⟨b1,p1,e1⟩:=(rd_num 0).get _ _ _ h1 b2
     obtain ⟨b0,p0,e0⟩:=tak_get (by decide) h0 b1
     refine ⟨b0,⟨p1,p2,p3,p4,p5⟩,?_⟩
     rw [obY_eq,e0,e1,e2,e3,e4,e5]
   · rw [if_neg hm] at e
     simp only [Prod.mk.injEq] at e
     rw [← e.2] at ht
     cases ht
open Go.RowKit
set_option linter.unusedVariables false
set_option maxRecDepth 100000
theorem corsB_all:∀ (seen:List (List UInt8)) (l:List Cor),corsB seen l=true→∀ c∈l,nameB c.name=true∧codeB c.code=true
 | _,[],_=>by simp
 | seen, x :: l, h => by
   simp only [corsB,Bool.and_eq_true,corB] at h
   intro c hc
   rcases List.mem_cons.1 hc with rfl | hc
   · exact ⟨h.1.1,h.1.2.2⟩
   · exact corsB_all _ l h.2 c hc
theorem nameB_len {s:ByteArray} (h:nameB s=true):s.size≤32:=by
 simp only [nameB,Bool.and_eq_true,decide_eq_true_eq] at h
 exact h.2.1
theorem codeB_len {l:List Ins} (h:codeB l=true):l.length≤16384:=by
 simp only [codeB,Bool.and_eq_true,decide_eq_true_eq] at h
 exact h.2.1
structure Few (o:Ob):Prop where
 sh:0≤o.sh∧o.sh<65
 lk:0≤o.lk∧o.lk<17
 bf:1≤o.bf∧o.bf≤16
 mem:o.mem.length≤4096
 cores:o.cores.length≤8
 name:∀ c∈o.cores,c.name.size≤32
 code:∀ c∈o.cores,c.code.length≤16384
theorem few_of {o:Ob} (h:topB o=true):Few o:=by
 simp only [topB,inB,Bool.and_eq_true,decide_eq_true_eq] at h
 obtain ⟨h1,h2,h3,h4,h5,h6,h7,h8⟩:=h
 have h9:=corsB_all _ _ h8
 exact ⟨h1,h2,⟨h5,h6⟩,h4,h7,fun c hc=>nameB_len (h9 c hc).1,fun c hc=>codeB_len (h9 c hc).2⟩
theorem flatM_len {α:Type} (f:α→List UInt8) (k:Nat):∀ l:List α,(∀ x∈l,(f x).length≤k)→(l.flatMap f).length≤l.length*k
 | [],_=>by simp
 | x :: l, h => by
   rw [List.flatMap_cons,List.length_append,List.length_cons,Nat.add_mul]
   have h1:=h x (by simp)
   have h2:=flatM_len f k l (fun y hy=>h y (by simp [hy]))
   omega
theorem obY_len (o:Ob) (hg:rgO o) (h:Few o):(obY o).length≤200000000:=by
 have hc:∀ c∈o.cores,(corY c).length≤17000000:=fun c hc=>by
  have h1:=h.name c hc
  have h2:=h.code c hc
  have h3:=flatM_len insY 1000 c.code (fun i hi=>insY_len i (hg.2.2.2.2 c hc i hi))
  have h4:=(numY_len c.name.size).1
  have h5:=(numY_len c.code.length).1
  have h6:c.name.data.toList.length=c.name.size:=Array.length_toList
  unfold corY
  simp only [List.length_append]
  omega
 have h1:=flatM_len corY 17000000 o.cores hc
 have h2:=flatM_len wrdY 100 o.mem (fun x _=>(numY_len x).2)
 have h3:=flatM_len numY 100 [o.sh,o.lk,o.bf,(o.mem.length:Int)] (fun x _=>(numY_len x).1)
 have h4:=(numY_len o.cores.length).1
 have h5:=h.mem
 have h6:=h.cores
 simp only [List.length_cons,List.length_nil] at h3
 unfold obY
 simp only [List.length_append,List.length_cons,List.length_nil]
 omega
theorem enc_len (o:Ob) (hg:rgO o):(encR o).length≤200000000:=by
 unfold encR
 split
 · next h=>exact obY_len o hg (few_of (chk_ok h).1)
 · simp
open Go.RowKit
set_option linter.unusedVariables false
set_option maxRecDepth 100000
theorem optP_fit {u:Bool} {x c:Int} (hc:c≤9223372036854775808) (h:fitB u x c=true):optP u I63 x:=by
 cases u with
 | true =>
   have h:inB x c=true:=h
   simp only [inB,Bool.and_eq_true,decide_eq_true_eq] at h
   exact ⟨h.1,by omega⟩
 | false =>
   have h:(x==0)=true:=h
   exact eq_of_beq h
theorem gi_of {i:Ins} {code mem:Int} (hc:code≤9223372036854775808) (hm:mem≤9223372036854775808) (hg:rgI i) (h:rightB i code mem=true):GI i:=by
 simp only [rightB,Bool.and_eq_true] at h
 obtain ⟨h1,h2,h3,h4,h5,h6,h7,h8,h9⟩:=h
 obtain ⟨e1,e2,e4,e8,e16,e32,e64⟩:=has_all i.k i.o h1
 obtain ⟨⟨hk0,hk1⟩,⟨ho0,ho1⟩,hd,ha,hb,had,htt,hwd,hfr⟩:=hg
 have hk:=kB_iff.1 h1
 simp only [inB,Bool.and_eq_true,decide_eq_true_eq] at h2
 refine ⟨by omega,?_,by rw [e2];exact optP_fit (by decide) h4,by rw [e4];exact optP_fit (by decide) h5,by rw [e8];exact optP_fit (by decide) h6,by rw [e16];exact optP_fit hm h7,by rw [e32];exact optP_fit hc h8,?_,⟨h2.1,by omega⟩⟩
 · rw [(has_all i.k 0 h1).1]
   unfold opB at h3
   cases hq:(i.k==2) with
   | true =>
     rw [hq] at h3
     have h3:decide (0<levelOf i.o)=true:=h3
     simp only [decide_eq_true_eq] at h3
     refine ⟨ho0,?_⟩
     unfold levelOf at h3
     split at h3
     · omega
     · omega
   | false =>
     rw [hq] at h3
     have h3:(i.o==0)=true:=h3
     exact eq_of_beq h3
 · rw [e64]
   cases hq:(i.k==1) with
   | true=>exact hwd
   | false =>
     rw [hq] at h9
     simp only [Bool.or_false] at h9
     exact eq_of_beq h9
theorem go_of {o:Ob} (hg:rgO o) (h:(chkO o).1=0):GO o:=by
 obtain ⟨h1,h2⟩:=chk_ok h
 have hf:=few_of h1
 obtain ⟨gm,gs,gl,gb,gi⟩:=hg
 have hsh:=hf.sh
 have hlk:=hf.lk
 have hbf:=hf.bf
 have hme:=hf.mem
 have hco:=hf.cores
 refine ⟨⟨by omega,by omega⟩,⟨by omega,by omega⟩,⟨by omega,by omega⟩,⟨by omega,gm⟩,⟨by omega,fun c hc=>⟨by have:=hf.name c hc;omega,⟨by have:=hf.code c hc;omega,fun i hi=>?_⟩⟩⟩⟩
 have:=hf.code c hc
 exact gi_of (by omega) (by omega) (gi c hc i hi) (h2 c hc i hi)
theorem enc_ok {o:Ob} (h:(chkO o).1=0):encR o=obY o:=by unfold encR;rw [if_pos h]
theorem dec_put {o:Ob} (hg:GO o) (r:List UInt8):obS (obY o++r,false)=(o,(r,false)):=rd_ob.put o hg r
theorem dec_back {o:Ob} (hg:rgO o) (h:(chkO o).1=0):decO (encR o)=(o,0):=by
 have h1:=dec_put (go_of hg h) []
 rw [List.append_nil] at h1
 unfold encR
 rw [if_pos h]
 unfold decO
 rw [h1]
 simp only
 rw [if_pos ⟨trivial,trivial⟩,if_pos h]
theorem dec_one (l:List UInt8):(decO l).2=0∧(chkO (decO l).1).1=0∧GO (decO l).1∧encR (decO l).1=l∨decO l=(⟨[],0,0,0,[]⟩,162):=by
 unfold decO
 by_cases h1:(obS (l,false)).2.2=false∧(obS (l,false)).2.1=[]
 · rw [if_pos h1]
   by_cases h2:(chkO (obS (l,false)).1).1=0
   · left
     rw [if_pos h2]
     obtain ⟨k1,k2,k3⟩:=rd_ob.get (l,false) _ _ rfl h1.1
     refine ⟨rfl,h2,k2,?_⟩
     unfold encR
     simp only
     rw [if_pos h2]
     have k3:l=obY (obS (l,false)).1++(obS (l,false)).2.1:=k3
     rw [h1.2,List.append_nil] at k3
     exact k3.symm
   · right;rw [if_neg h2]
 · right;rw [if_neg h1]
end Go.Proofs.YtmpljhfinmfnbaaGreatDoor

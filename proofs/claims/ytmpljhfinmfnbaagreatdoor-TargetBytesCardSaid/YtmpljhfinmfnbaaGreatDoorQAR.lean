/- The proof, part 18: texts that belong together, in one. -/
import Derived.Test.YtmpljhfinmfnbaaGreatDoorQAQ
import Derived.Test.YtmpljhfinmfnbaaGreatDoorQAC
import Derived.Laws.Bits64b
set_option maxRecDepth 100000
set_option maxHeartbeats 20000000
namespace Go.Proofs.YtmpljhfinmfnbaaGreatDoor
open Go.RowKit
set_option linter.unusedVariables false
set_option maxRecDepth 100000
def nuA:Nat→List UInt8→Nat→Nat→Nat × Bst
 | 0,l,_,_=>(0,(l,true))
 | _+1,[],_,_=>(0,([],true))
 | f + 1, c :: r, k, n =>
   if k=9∧1<c.toNat then (0,(r,true))
   else if c.toNat≤127 then (n ||| ((c.toNat % 128) <<< (7*k)) % 18446744073709551616,(r,decide (c.toNat=0∧0<k)))
   else nuA f r (k+1) (n ||| ((c.toNat % 128) <<< (7*k)) % 18446744073709551616)
def nuR (s:Bst):Nat × Bst:=((nuA 10 s.1 0 0).1,((nuA 10 s.1 0 0).2.1,s.2 || (nuA 10 s.1 0 0).2.2))
theorem bind_gone {P Q n:Nat} (hPQ:Q≤P) (y:Option (Nat × List UInt8)) (h:∀ x,y=some x→0<x.1):(y.bind fun x=>if n+x.1*P<Q then some (n+x.1*P,x.2) else none)=none:=by
 cases y with
 | none=>rfl
 | some x =>
   have h1:=Nat.mul_le_mul_right P (h x rfl)
   exact if_neg (by omega)
theorem le_ten:18446744073709551616≤2 ^ (7*10):=by decide
theorem dgA_ten (l:List UInt8) (n:Nat) (h:n<18446744073709551616):dgA l 10 n=none :=
 (dgA_eq l 10 n (Nat.lt_of_lt_of_le h le_ten) h).trans (bind_gone le_ten (dgN l 10) fun x hx=>(dgN_get l 10 x.1 x.2 hx).1 (by decide))
theorem nu_dg:∀ (f:Nat) (l:List UInt8) (k n:Nat),f+k=10→n<2 ^ (7*k)→n<18446744073709551616→dgA l k n=if (nuA f l k n).2.2=true then none else some ((nuA f l k n).1,(nuA f l k n).2.1)
 | 0, l, k, n, hk, h1, h2 => by
   have:k=10:=by omega
   subst this
   rw [dgA_ten l n h2]
   rfl
 | f+1,[],k,n,hk,h1,h2=>rfl
 | f + 1, c :: r, k, n, hk, h1, h2 => by
   have hc:c.toNat<256:=c.toNat_lt
   obtain ⟨d,hd⟩:∃ d,d=c.toNat % 128:=⟨_,rfl⟩
   obtain ⟨m,hm⟩:∃ m,m=n ||| (d <<< (7*k)) % 18446744073709551616:=⟨_,rfl⟩
   have hml:m<18446744073709551616:=by
    rw [hm]
    exact Nat.or_lt_two_pow (n:=64) h2 (Nat.mod_lt _ (by decide))
   unfold dgA nuA
   rw [← hd,← hm]
   by_cases h9:k=9∧1<c.toNat
   · rw [if_pos h9]
     obtain ⟨rfl,h9⟩:=h9
     simp only [if_true]
     by_cases h7:c.toNat≤127
     · rw [if_neg]
       have:m >>> (7*9)=m / 2 ^ 63:=Nat.shiftRight_eq_div_pow m 63
       rw [this]
       omega
     · rw [if_neg h7]
       split
       · exact dgA_ten r m hml
       · rfl
   · rw [if_neg h9]
     obtain ⟨p,hp⟩:∃ p,p=2 ^ (7*k):=⟨_,rfl⟩
     have hp0:0<p:=by rw [hp];exact Nat.pow_pos (by decide)
     have hdp:d*p<18446744073709551616∧(k≤8→n+d*p<128*p∧128*p<18446744073709551616):=by
      by_cases h8:k≤8
      · have h5 : p ≤ 2 ^ 56 := by rw [hp]; exact Nat.pow_le_pow_right (by decide) (by omega)
        have h6:d*p≤127*p:=Nat.mul_le_mul_right p (by omega)
        rw [← hp] at h1
        exact ⟨by omega,fun _=>⟨by omega,by omega⟩⟩
      · have h5 : k = 9 := by omega
        have h6:p=9223372036854775808:=by rw [hp,h5]
        have h7:d≤1:=by
         have:¬ 1<c.toNat:=fun q=>h9 ⟨h5,q⟩
         omega
        refine ⟨?_,fun q=>absurd q h8⟩
        have h8:d*p≤1*p:=Nat.mul_le_mul_right p h7
        omega
     have hm2:m=n+d*p:=by
      rw [hm,Nat.mod_eq_of_lt (by rw [Nat.shiftLeft_eq,← hp];exact hdp.1),dig_or n d (7*k) h1,hp]
     have hg:m >>> (7*k)=d:=by
      rw [Nat.shiftRight_eq_div_pow,← hp,hm2,Nat.add_mul_div_right _ _ hp0,Nat.div_eq_of_lt (by rw [hp];exact h1)]
      omega
     rw [if_pos hg]
     by_cases h7:c.toNat≤127
     · rw [if_pos h7, if_pos h7]
       by_cases hz:c.toNat=0∧0<k
       · rw [if_pos hz]
         simp [hz]
       · rw [if_neg hz]
         simp only [hz,decide_false,Bool.false_eq_true,if_false]
     · rw [if_neg h7, if_neg h7]
       have h8:k≤8:=by
        have:¬ (k=9∧1<c.toNat):=h9
        omega
       refine nu_dg f r (k+1) m (by omega) ?_ hml
       rw [show 7*(k+1)=7*k+7 by omega,Nat.pow_add,← hp,hm2]
       have:=(hdp.2 h8).1
       omega
theorem nu_put (n:Nat) (hn:n<18446744073709551616) (r:List UInt8):nuR (dgT n++r,false)=(n,(r,false)):=by
 have h:=nu_dg 10 (dgT n++r) 0 0 rfl (by decide) (by decide)
 rw [dig_put n hn r] at h
 unfold nuR
 split at h
 · cases h
 · rename_i hb
   injection h with h
   simp only [Prod.mk.injEq] at h
   simp only [← h.1,← h.2,Bool.not_eq_true] at hb ⊢
   rw [hb]
   rfl
theorem nu_get {s t:Bst} {n:Nat} (h:nuR s=(n,t)) (ht:t.2=false):s.2=false∧n<18446744073709551616∧s.1=dgT n++t.1:=by
 have h1:=nu_dg 10 s.1 0 0 rfl (by decide) (by decide)
 unfold nuR at h
 simp only [Prod.mk.injEq] at h
 obtain ⟨rfl,rfl⟩:=h
 simp only [Bool.or_eq_false_iff] at ht
 rw [ht.2] at h1
 simp only [Bool.false_eq_true,if_false] at h1
 have h2:=dig_get h1
 exact ⟨ht.1,h2.1,h2.2⟩
theorem nuA_lt:∀ (f:Nat) (l:List UInt8) (k n:Nat),n<18446744073709551616→(nuA f l k n).1<18446744073709551616
 | 0,l,k,n,h=>by unfold nuA;simp
 | f+1,[],k,n,h=>by unfold nuA;simp
 | f + 1, c :: r, k, n, h => by
   have hm:n ||| ((c.toNat % 128) <<< (7*k)) % 18446744073709551616<18446744073709551616:=Nat.or_lt_two_pow (n:=64) h (Nat.mod_lt _ (by decide))
   unfold nuA
   split
   · simp
   · split
     · exact hm
     · exact nuA_lt f r (k+1) _ hm
theorem nuR_lt (s:Bst):(nuR s).1<18446744073709551616:=nuA_lt 10 s.1 0 0 (by decide)
def smR (m:Int) (s:Bst):Int × Bst:=if m<((nuR s).1:Int) then (0,((nuR s).2.1,true)) else (((nuR s).1:Int),(nuR s).2)
def wdR (s:Bst):Int × Bst:=(unz (nuR s).1,(nuR s).2)
theorem rd_sm (m:Int) (hm:m≤9223372036854775807):RdY (smR m) numY (fun x=>0≤x∧x≤m):=by
 refine ⟨fun x hx r=>?_,fun s x t h ht=>?_⟩
 · obtain ⟨h0, h1⟩ := hx
   have hu:u64 x=x.toNat:=by unfold u64;omega
   unfold smR numY
   rw [nu_put _ (by omega),hu]
   simp only
   rw [if_neg (by omega)]
   simp only [Prod.mk.injEq,and_true]
   omega
 · unfold smR at h
   by_cases hb:m<((nuR s).1:Int)
   · rw [if_pos hb] at h
     simp only [Prod.mk.injEq] at h
     rw [← h.2] at ht
     cases ht
   · rw [if_neg hb] at h
     simp only [Prod.mk.injEq] at h
     obtain ⟨h1,h2⟩:=h
     have h3:=nu_get (s:=s) (n:=(nuR s).1) (t:=t) (by rw [← h2]) ht
     refine ⟨h3.1,⟨by omega,by omega⟩,?_⟩
     rw [h3.2.2,numY,← h1]
     have:u64 ((nuR s).1:Int)=(nuR s).1:=by unfold u64;omega
     rw [this]
theorem smR_bd (m:Int) (hm:0≤m) (s:Bst):0≤(smR m s).1∧(smR m s).1≤m:=by
 unfold smR
 split
 · exact ⟨Int.le_refl _,hm⟩
 · exact ⟨by simp,by simp only;omega⟩
theorem rd_wd:RdY wdR wrdY I64:=by
 refine ⟨fun x hx r=>?_,fun s x t h ht=>?_⟩
 · unfold wdR wrdY
   rw [nu_put _ (Lib.zigzag_lt hx.1 hx.2)]
   simp only [unz_zig]
 · unfold wdR at h
   simp only [Prod.mk.injEq] at h
   obtain ⟨h1,h2⟩:=h
   have h3:=nu_get (s:=s) (n:=(nuR s).1) (t:=t) (by rw [← h2]) ht
   refine ⟨h3.1,?_,?_⟩
   · have := h3.2.1
     rw [← h1]
     unfold I64 unz
     split <;> omega
   · rw [h3.2.2,wrdY,← h1,zig_unz]
open Go.RowKit
set_option linter.unusedVariables false
set_option maxRecDepth 100000
def drB (k:Int):Bool:=k==5 || (k==6 || k==7)
theorem drains_any (k:Int) (w:World):Calls Tryz.prog 37 #[.int .u8 k] w fun e w'=>e=.returned (.bool (drB k))∧w=w':=by
 unfold drB
 by_cases h5:k=5
 · subst h5
   go_enter Tryz.func37,Tryz.ntmps37
   go_wp2
   go_ret
   exact ⟨rfl,rfl⟩
 by_cases h6:k=6
 · subst h6
   go_enter Tryz.func37,Tryz.ntmps37
   go_wp2
   go_ret
   exact ⟨rfl,rfl⟩
 by_cases h7:k=7
 · subst h7
   go_enter Tryz.func37,Tryz.ntmps37
   go_wp2
   go_ret
   exact ⟨rfl,rfl⟩
 have q5:=int_f h5
 have q6:=int_f h6
 have q7:=int_f h7
 rw [q5,q6,q7]
 clear h5 h6 h7
 show Calls _ _ _ _ fun e w'=>e=.returned (.bool false)∧_
 go_enter Tryz.func37,Tryz.ntmps37
 go_wp2
 go_ret
 exact ⟨rfl,rfl⟩
open Go.RowKit
set_option linter.unusedVariables false
set_option maxRecDepth 100000
def BsA (B:Nat) (W:World) (l:List UInt8) (a:Option Addr):Prop:=l=[]∨∃ g q,a=some ⟨g,q,none⟩∧g<B∧∀ (j:Nat) (x:UInt8),l[j]? = some x→W.cell? ⟨g,q+j,none⟩=some (.int .u8 (x.toNat:Int))
theorem BsA.below {B:Nat} {W W':World} {l:List UInt8} {a:Option Addr} (h:BsA B W l a) (hb:Below B W W'):BsA B W' l a:=by
 rcases h with h | ⟨g,q,e,hg,h⟩
 · exact .inl h
 · exact .inr ⟨g,q,e,hg,fun j x hj=>(hb.cell (p:=⟨g,q+j,none⟩) hg).trans (h j x hj)⟩
structure DrP (p:Nat) (s:Bst) (a:Option Addr) (c:Nat) (W:World):Prop where
 own:Own W p 81 #[.slice a s.1.length c,.bool s.2]
 bys:BsA p W s.1 a
 cap:s.1.length≤c
 mx:s.1.length≤1152921504606846976
 cm:c≤9223372036854775807
def Dr (p:Nat) (s:Bst) (W:World):Prop:=∃ a c,DrP p s a c W
theorem DrP.lt {p:Nat} {s:Bst} {a:Option Addr} {c:Nat} {W:World} (h:DrP p s a c W):p<W.heap.size:=h.own.lt
theorem Dr.lt {p:Nat} {s:Bst} {W:World} (h:Dr p s W):p<W.heap.size:=by
 obtain ⟨a,c,h⟩:=h
 exact h.lt
theorem Dr.keep {p:Nat} {s:Bst} {W W':World} (h:Dr p s W) (hb:∀ k,k≤p→W'.heap[k]? = W.heap[k]?):Dr p s W':=by
 obtain ⟨a,c,h1,h2,h3,h4,h5⟩:=h
 refine ⟨a,c,(hb p (Nat.le_refl _)).trans h1,?_,h3,h4,h5⟩
 rcases h2 with h | ⟨g,q,e,hg,h⟩
 · exact .inl h
 · exact .inr ⟨g,q,e,hg,fun j x hj=>(World.cell?_of_block (hb g (Nat.le_of_lt hg))).trans (h j x hj)⟩
theorem Dr.below {p:Nat} {s:Bst} {W W':World} (h:Dr p s W) (hb:Below W.heap.size W W'):Dr p s W':=h.keep fun k hk=>hb.block k (Nat.lt_of_le_of_lt hk h.lt)
theorem dr_bad {p:Nat} {W:World} (h:Own W p 81 #[.slice none 0 0,.bool true]):Dr p badS W:=⟨none,0,h,.inl rfl,Nat.le_refl _,by decide,by decide⟩
structure Dq (w:World) (p:Nat) (s:Bst) (W:World):Prop where
 st:Dr p s W
 keep:Keep (fun k _=>k≠p) w W
section
variable {w W W':World} {p:Nat} {s t:Bst}
theorem dq_new (h:Dr p s w):Dq w p s w:=⟨h,Keep.refl _ _⟩
theorem Dq.trans (h:Dq w p s W) (k:Dq W p t W'):Dq w p t W':=⟨k.st,h.keep.trans k.keep⟩
theorem Dq.below (h:Dq w p s W) (hb:Below W.heap.size W W'):Dq w p s W':=⟨h.st.below hb,h.keep.trans (keep_below hb)⟩
theorem Dq.bel (h:Dq w p s W) (hp:p≤w.heap.size):Below p w W:=⟨h.keep.os,h.keep.tape,h.keep.output,h.keep.size,fun k hk=>by
 have hl:k<w.heap.size:=Nat.lt_of_lt_of_le hk hp
 rw [h.keep.block k _ (Array.getElem?_eq_getElem hl) (Nat.ne_of_lt hk),Array.getElem?_eq_getElem hl]⟩
theorem Dq.other (h:Dq w p s W) {g:Nat} {ty:TypeId} {row:Array Value} (ho:Own w g ty row) (hg:g≠p):Own W g ty row:=h.keep.block _ _ ho hg
end
theorem dr_cut {w:World} {p:Nat} {l:List UInt8} {b:Bool} {g q c:Nat} (h:DrP p (l,b) (some ⟨g,q,none⟩) c w) {k:Nat} (hk:k≤l.length) {a':Option Addr} {c':Nat} (ha:a'=some ⟨g,q+k,none⟩∨l.length-k=0) (hc:l.length-k≤c') (hm:c'≤c):Dq w p (l.drop k,b) (w.setCell ⟨p,0,none⟩ (.slice a' (l.length-k) c')):=by
 have hO:=heap_setCell_same w p 0 _ _ (.slice a' (l.length-k) c') h.own
 refine ⟨⟨a',c',?_,?_,by simp only [List.length_drop];exact hc,by have:=h.mx;simp only [List.length_drop] at this ⊢;omega,Nat.le_trans hm h.cm⟩,(Keep.refl _ _).setCell (p:=⟨p,0,none⟩) _ h.own (fun q=>q rfl)⟩
 · simp only [List.length_drop]
   exact hO
 · by_cases h0 : l.length - k = 0
   · left
     simp only
     exact List.drop_eq_nil_of_le (by omega)
   · rcases ha with ha | ha
     · rcases h.bys with e | ⟨g', q', e, hg, hb⟩
       · simp only at e;rw [e] at h0;simp at h0
       · injection e with e
         injection e with e1 e2 _
         subst e1 e2
         refine .inr ⟨g,q+k,ha,hg,fun j x hj=>?_⟩
         simp only at hj hb
         rw [List.getElem?_drop] at hj
         rw [World.cell?_of_block (w':=w.setCell ⟨p,0,none⟩ (.slice a' (l.length-k) c')) (w:=w) (Below.heap_setCell w ⟨p,0,none⟩ _ g (by show g≠p;omega)),Nat.add_assoc]
         exact hb (k+j) x hj
     · exact absurd ha h0
theorem and_dig:∀ k:Nat,k<256→bits BinOp.and IntKind.u8 (k:Int) 127=((k % 128:Nat):Int):=by decide
theorem shl_run {P:Program} (d j:Nat) (W:World):(Op.shift .shl .u64 (d:Int) .i64 ((j:Int)*7)).run P W=.ok (.int .u64 ((d <<< (7*j) % 18446744073709551616:Nat):Int)) W:=by
 have h0:¬ ((j:Int)*7<0):=by omega
 have e:IntKind.u64.wrap ((d:Int)*2 ^ min ((j:Int)*7).toNat 64)=((d <<< (7*j) % 18446744073709551616:Nat):Int):=by
  rw [IntKind.wrap_u64,Nat.shiftLeft_eq,show ((j:Int)*7).toNat=7*j by omega]
  by_cases h:7*j≤64
  · rw [Nat.min_eq_left h, Int.natCast_emod, Int.natCast_mul, Int.natCast_pow]
    rfl
  · rw [Nat.min_eq_right (by omega)]
    have h1:(d:Int)*2 ^ 64 % 18446744073709551616=0:=by omega
    have h2:d*2 ^ (7*j) % 18446744073709551616=0:=by
     rw [show 7*j=(7*j-64)+64 by omega,Nat.pow_add,← Nat.mul_assoc]
     exact Nat.mul_mod_left _ _
    rw [h1,h2]
    rfl
 have e2:IntKind.u64.bits=64:=rfl
 unfold Op.shift
 simp only [h0,if_false,e2,e,Sem.run_pure]
theorem shr_run {P:Program} (m j:Nat) (hm:m<18446744073709551616) (W:World):(Op.shift .shr .u64 (m:Int) .i64 ((j:Int)*7)).run P W=.ok (.int .u64 ((m >>> (7*j):Nat):Int)) W:=by
 have h0:¬ ((j:Int)*7<0):=by omega
 have e:(m:Int).fdiv (2 ^ min ((j:Int)*7).toNat 64)=((m >>> (7*j):Nat):Int):=by
  rw [Int.fdiv_eq_ediv_of_nonneg _ (Int.le_of_lt (Int.pow_pos (by decide))),Nat.shiftRight_eq_div_pow,show ((j:Int)*7).toNat=7*j by omega]
  by_cases h:7*j≤64
  · rw [Nat.min_eq_left h, Int.natCast_ediv, Int.natCast_pow]
    rfl
  · rw [Nat.min_eq_right (by omega)]
    have h1:(m:Int) / 2 ^ 64=0:=by omega
    have h2:m / 2 ^ (7*j)=0:=Nat.div_eq_of_lt (Nat.lt_of_lt_of_le hm (Nat.le_trans (by decide:18446744073709551616≤2 ^ 64) (Nat.pow_le_pow_right (by decide) (by omega))))
    rw [h1,h2]
    rfl
 have e2:IntKind.u64.bits=64:=rfl
 unfold Op.shift
 simp only [h0,if_false,e2,e,Sem.run_pure]
theorem b_fail {w:World} {p:Nat} {s:Bst} (h:Dr p s w):Calls Tryz.prog 114 #[.pointer (some ⟨p,0,none⟩)] w fun e w'=>e=.returned (.tuple #[])∧Dq w p badS w':=by
 obtain ⟨a,c,h⟩:=h
 have HO:=Lib.hid h.own
 have p0:w.cell? ⟨p,0,none⟩=some (.slice a s.1.length c):=by rw [cell_of_row _ _ 0 _ _ _ h.own];rfl
 have p1:w.cell? ⟨p,1,none⟩=some (.bool s.2):=by rw [cell_of_row _ _ 1 _ _ _ h.own];rfl
 have q0:w.frozen? ⟨p,0,none⟩=false:=own_frozen h.own 0
 have q1:w.frozen? ⟨p,1,none⟩=false:=own_frozen h.own 1
 clear h
 go_enter Tryz.func114,Tryz.ntmps114
 go_wp2_with (fail)
 refine bodyPost_end (results_none rfl _ _ _) rfl ⟨rfl,dr_bad ?_,?_⟩
 · exact heap_setCell_same _ p 1 _ _ _ (heap_setCell_same w p 0 _ _ _ HO.out)
 · exact ((Keep.refl _ _).setCell (p:=⟨p,0,none⟩) _ HO.out (fun q=>q rfl)).setCell (p:=⟨p,1,none⟩) _ (heap_setCell_same w p 0 _ _ _ HO.out) (fun q=>q rfl)
theorem b_digits {w:World} {p:Nat} {s:Bst} (h:Dr p s w):Calls Tryz.prog 115 #[.pointer (some ⟨p,0,none⟩)] w fun e w'=>e=.returned (.int .u64 ((digR s).1:Int))∧Dq w p (digR s).2 w':=by
 have HF:Hid (Calls Tryz.prog 114 #[.pointer (some ⟨p,0,none⟩)] w fun e w'=>e=.returned (.tuple #[])∧Dq w p badS w'):=b_fail h
 obtain ⟨a,c,h⟩:=h
 have HP:=Lib.hid h
 obtain ⟨l,b⟩:=s
 have p0:w.cell? ⟨p,0,none⟩=some (.slice a l.length c):=by rw [cell_of_row _ _ 0 _ _ _ h.own];rfl
 have hN:=h.cap
 have hM:=h.mx
 have hCM:=h.cm
 simp only at hM
 simp only at hN
 obtain ⟨N,hn⟩:∃ n,n=l.length:=⟨_,rfl⟩
 have HN:=Lib.hid hn
 clear hn h
 go_enter Tryz.func115,Tryz.ntmps115
 go_wp2_with fail
 go_loopg [3,13] (N+1) (fun m' y z X=>∃ (j n:Nat),y=.int .u64 (n:Int)∧z=.int .i64 (j:Int)∧j≤N∧m'=N-j+1∧n<18446744073709551616∧dgA l 0 0=dgA (l.drop j) j n∧w=X)
 case atStart=>exact ⟨0,0,rfl,rfl,Nat.zero_le _,by omega,by decide,rfl,rfl⟩
 case round =>
  obtain ⟨j,n,rfl,rfl,hj,hm,hn,he,rfl⟩:=hrel
  have HM:=Lib.hid hm
  have HE:=Lib.hid he
  have HNN:=Lib.hid hn
  clear hm he hn
  by_cases hjn:j<N
  · have hjl : j < l.length := by rw [← HN.out]; exact hjn
    obtain ⟨x,hx⟩:∃ x,l[j]? = some x:=⟨_,List.getElem?_eq_getElem hjl⟩
    have hdr:l.drop j=x::l.drop (j+1):=by
     rw [List.drop_eq_getElem_cons hjl]
     rw [List.getElem?_eq_getElem hjl] at hx
     injection hx with hx
     rw [hx]
    have hbs:=HP.out.bys
    rcases hbs with e | ⟨g,q,e,hg,hb⟩
    · simp only at e;rw [e] at hjl;simp at hjl
    simp only at e hb
    subst e
    have p2:=hb j x hx
    have q0:w.frozen? ⟨p,0,none⟩=false:=own_frozen HP.out.own 0
    have hjj:(j:Int)<(l.length:Int):=by omega
    have hx2:x.toNat<256:=x.toNat_lt
    have e1:IntKind.u64.wrap (bits BinOp.and IntKind.u8 (x.toNat:Int) 127)=((x.toNat % 128:Nat):Int):=by
     rw [and_dig x.toNat hx2,IntKind.wrap_u64]
     omega
    obtain ⟨xn,hxn⟩:∃ n,n=x.toNat:=⟨_,rfl⟩
    rw [← hxn] at p2 hx2 e1
    have HXN:=Lib.hid hxn
    have HB:=Lib.hid hb
    have HDR:=Lib.hid hdr
    clear hx hxn hb hdr
    obtain ⟨d,hd⟩:∃ d,d=xn % 128:=⟨_,rfl⟩
    rw [← hd] at e1
    have HD:=Lib.hid hd
    have hs1:∀ W:World,(Op.shift .shl .u64 (d:Int) .i64 ((j:Int)*7)).run Tryz.prog W=.ok (.int .u64 ((d <<< (7*j) % 18446744073709551616:Nat):Int)) W:=fun W=>shl_run d j W
    obtain ⟨e,he⟩:∃ e,e=d <<< (7*j) % 18446744073709551616:=⟨_,rfl⟩
    have hel:e<18446744073709551616:=by rw [he];exact Nat.mod_lt _ (by decide)
    rw [← he] at hs1
    have HEE:=Lib.hid he
    have hor:=bits_or_u64_nat n e HNN.out hel
    obtain ⟨m,hm⟩:∃ m,m=n ||| e:=⟨_,rfl⟩
    have hml:m<18446744073709551616:=by rw [hm];exact Nat.or_lt_two_pow (n:=64) HNN.out hel
    rw [← hm] at hor
    have hs2:∀ W:World,(Op.shift .shr .u64 (m:Int) .i64 ((j:Int)*7)).run Tryz.prog W=.ok (.int .u64 ((m >>> (7*j):Nat):Int)) W:=fun W=>shr_run m j hml W
    obtain ⟨r,hr⟩:∃ r,r=m >>> (7*j):=⟨_,rfl⟩
    rw [← hr] at hs2
    have HMM:=Lib.hid hm
    have HRR:=Lib.hid hr
    clear hd he hm hr hel
    go_upto_region 6 with (fail)
    clear e1
    have HEQ:Hid (dgA l 0 0=if r=d then (if xn≤127 then (if xn=0∧0<j then none else some (m,l.drop (j+1))) else dgA (l.drop (j+1)) (j+1) m) else none):=by
     rw [Hid,HE.out,HDR.out]
     show (if _ then _ else _)=_
     rw [← HXN.out,← HD.out,← HEE.out,← HMM.out,← HRR.out]
    have HFAIL:Hid (dgA l 0 0=none→∀ (e:Ending) (w':World),e=.returned (.int .u64 0)→Dq w p badS w'→e=.returned (.int .u64 ((digR (l,b)).1:Int))∧Dq w p (digR (l,b)).2 w'):=fun hn e w' h1 h2=>by
     have h3:digR (l,b)=(0,badS):=by unfold digR;rw [hn]
     rw [h3]
     exact ⟨h1,h2⟩
    by_cases hrd:r=d
    · have e2 : ((r : Int) != (d : Int)) = false := by rw [hrd]; simp
      rw [Hid,if_pos hrd] at HEQ
      go_upto_region 8 with (fail)
      by_cases h7:xn≤127
      · have e3 : (xn : Int) ≤ 127 := by omega
        rw [if_pos h7] at HEQ
        by_cases hz:xn=0∧0<j
        · rw [if_pos hz] at HEQ
          have e4:(xn:Int)=0:=by omega
          have e5:(0:Int)<(j:Int):=by omega
          have HEQ:=Lib.hid HEQ
          go_wp2_with (go_at_call 114;refine HF.out.mono ?_;rintro e w2 ⟨rfl,hq⟩;have HQ:=Lib.hid hq;clear hq)
          go_ret
          exact HFAIL.out HEQ.out _ _ rfl HQ.out
        · rw [if_neg hz] at HEQ
          have HEQ:=Lib.hid HEQ
          have HOK:Hid (∀ (a':Option Addr) (c':Nat),(a'=some ⟨g,q+(j+1),none⟩∨l.length-(j+1)=0)→l.length-(j+1)≤c'→c'≤c→(Ending.returned (.int .u64 (m:Int))=.returned (.int .u64 ((digR (l,b)).1:Int))∧Dq w p (digR (l,b)).2 (w.setCell ⟨p,0,none⟩ (.slice a' (l.length-(j+1)) c')))):=fun a' c' h1 h2 h3=>by
           have h4:digR (l,b)=(m,(l.drop (j+1),b)):=by unfold digR;rw [HEQ.out]
           rw [h4]
           exact ⟨rfl,dr_cut HP.out hjl h1 h2 h3⟩
          by_cases hx0:xn=0
          · have e4 : (xn : Int) = 0 := by omega
            have e5:¬ (0:Int)<(j:Int):=by omega
            go_wp2_with (fail)
            all_goals
             go_ret
             exact HOK.out _ _ (by first | exact .inl rfl | (right;omega)) (by omega) (by omega)
          · have e4 : ¬ (xn : Int) = 0 := by omega
            go_wp2_with (fail)
            all_goals
             go_ret
             exact HOK.out _ _ (by first | exact .inl rfl | (right;omega)) (by omega) (by omega)
      · rw [if_neg h7] at HEQ
        have e3:¬ (xn:Int)≤127:=by omega
        have HEQ:=Lib.hid HEQ
        go_wp2_with (fail)
        go_roundg (N-(j+1)+1)
        case measure=>have:=HM.out;omega
        case rel=>exact ⟨j+1,m,rfl,by simp,by omega,by omega,hml,HEQ.out,rfl⟩
    · have e2 : ((r : Int) != (d : Int)) = true := by simp; omega
      rw [Hid,if_neg hrd] at HEQ
      have HEQ:=Lib.hid HEQ
      go_wp2_with (go_at_call 114;refine HF.out.mono ?_;rintro e w2 ⟨rfl,hq⟩;have HQ:=Lib.hid hq;clear hq)
      go_ret
      exact HFAIL.out HEQ.out _ _ rfl HQ.out
  · have hjj : ¬ (j : Int) < (l.length : Int) := by have := HN.out; omega
    have hd0:l.drop j=[]:=List.drop_eq_nil_of_le (by have:=HN.out;omega)
    have h3:digR (l,b)=(0,badS):=by
     unfold digR
     simp only
     rw [HE.out,hd0]
     rfl
    have H3:=Lib.hid h3
    clear h3 hd0
    go_wp2_with (go_at_call 114;refine HF.out.mono ?_;rintro e w2 ⟨rfl,hq⟩;have HQ:=Lib.hid hq;clear hq)
    go_ret
    rw [H3.out]
    exact ⟨rfl,HQ.out⟩
end Go.Proofs.YtmpljhfinmfnbaaGreatDoor

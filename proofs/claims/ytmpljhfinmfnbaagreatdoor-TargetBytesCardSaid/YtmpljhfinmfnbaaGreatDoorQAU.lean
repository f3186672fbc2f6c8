/- The proof, part 21: texts that belong together, in one. -/
import Derived.Test.YtmpljhfinmfnbaaGreatDoorQAT
import Derived.Test.YtmpljhfinmfnbaaGreatDoorQAJ
import Derived.Test.YtmpljhfinmfnbaaGreatDoorQAE
set_option maxRecDepth 100000
set_option maxHeartbeats 20000000
namespace Go.Proofs.YtmpljhfinmfnbaaGreatDoor
open Go.RowKit
set_option linter.unusedVariables false
set_option maxRecDepth 100000
theorem row_slice {w:World} {B:Nat} {E:TypeId} {k:Nat} {v:Value} {n:Nat} {xs:List Value} (h:w.ownsRow B E k v n xs):∃ ao cap,v=.slice ao n cap:=by
 rcases h.2 with ⟨hv,h0⟩ | ⟨g,cap,cur,hv,_⟩
 · exact ⟨none,0,by rw [hv,h0]⟩
 · exact ⟨_,_,hv⟩
theorem rowC:RowT 70 2:=⟨_,Tryz.underlying70,rfl,by kernel_rfl⟩
def KeptP (w:World) (B:Nat) (E:TypeId) (k:Nat) (v:Value) (n:Nat) (xs:List Value) (most:Int) (news:List Value) (e:Ending) (w':World):Prop :=
 if most<(n:Int) then e=.returned v∧Below w.heap.size w w' else ∃ v' w1,e=.returned v'∧Below w.heap.size w w1∧w1.grownBy w' v.ownBlock∧w'.ownsRow B E k v' (n+1) (xs++news)
theorem info_w:(Tryz.prog.info? 2).map (fun i=>(i.zero,i.size,i.bytes))=some (some (.int .i64 0),1,8):=by kernel_rfl
theorem kept_w (x:Int) {w:World} {B:Nat} {v:Value} {n:Nat} {xs:List Value} (hown:w.ownsRow B 2 1 v n xs) (hB:B≤w.heap.size) (hn:n≤1000000) (most:Int) (hm0 : -9223372036854775808≤most) (hm1:most≤9223372036854775807) :
 Calls Tryz.prog 170 #[v,.int .i64 x,.int .i64 most] w (KeptP w B 2 1 v n xs most [.int .i64 x]):=by
 obtain ⟨i0,hi,hz0,hz1,hz2⟩:=info_parts info_w
 obtain ⟨ao,cap,rfl⟩:=row_slice hown
 by_cases hb:most<(n:Int)
 · have hk : KeptP w B 2 1 (.slice ao n cap) n xs most [.int .i64 x] = fun e w' => e = .returned (.slice ao n cap) ∧ Below w.heap.size w w' := by funext e w'; unfold KeptP; rw [if_pos hb]
   rw [hk]
   clear hk hown
   go_enter Tryz.func170,Tryz.ntmps170
   go_wp2
   go_ret
   exact ⟨rfl,Below.refl _ _⟩
 · have hk : KeptP w B 2 1 (.slice ao n cap) n xs most [.int .i64 x] = fun e w' => ∃ v' w1, e = .returned v' ∧ Below w.heap.size w w1 ∧ w1.grownBy w' (Value.slice ao n cap).ownBlock ∧ w'.ownsRow B 2 1 v' (n + 1) (xs ++ [.int .i64 x]) := by funext e w'; unfold KeptP; rw [if_neg hb]
   rw [hk]
   clear hk
   have al:=Below.refl w.heap.size w
   have hs0:=hB
   go_enter Tryz.func170,Tryz.ntmps170
   go_wp2_with (first | fail | (at_builtin;refine wpList_append_own _ rfl _ _ 22 rfl B 2 i0 _ 1 8 Tryz.underlying22 hi hz0 hz1 hz2 rfl (by decide) (.slice ao n cap) n xs rfl (hown.alloc _) ⟨w.heap.size,0,none⟩ 1 1 [.int .i64 x] rfl rfl ?c1 ?c2 ?c3 ?c4 ?c5 ?_))
   case c2=>first | rfl | simp [Value.oneCell']
   case c3=>first | (simp only [maxLen];omega) | (unfold maxLen;omega) | omega
   case c4=>omega
   case c5=>first | omega | (simp;omega)
   intro v' w2 hown' hgrow _
   have HR:=Lib.hid hown'
   have HG:=Lib.hid hgrow
   have HA:=Lib.hid (al.alloc al.size (.cells #[.int .i64 x] 2))
   clear hown' hgrow
   go_wp2
   go_ret
   exact ⟨_,_,rfl,HA.out,HG.out,HR.out⟩
theorem info_c:(Tryz.prog.info? 70).map (fun i=>(i.zero,i.size,i.bytes))=some (some (.agg #[.string ⟨#[]⟩,.slice none 0 0]),2,40):=by kernel_rfl
theorem kept_c (nm:ByteArray) (a2:Option Addr) (n2 c2:Nat) {w:World} {B:Nat} {v:Value} {n:Nat} {xs:List Value} (hown:w.ownsRow B 70 2 v n xs) (hB:B≤w.heap.size) (hn:n≤1000000) (most:Int) (hm0 : -9223372036854775808≤most) (hm1:most≤9223372036854775807) :
 Calls Tryz.prog 172 #[v,.agg #[.string nm,.slice a2 n2 c2],.int .i64 most] w (KeptP w B 70 2 v n xs most [.string nm,.slice a2 n2 c2]):=by
 obtain ⟨i0,hi,hz0,hz1,hz2⟩:=info_parts info_c
 obtain ⟨ao,cap,rfl⟩:=row_slice hown
 by_cases hb:most<(n:Int)
 · have hk : KeptP w B 70 2 (.slice ao n cap) n xs most [.string nm, .slice a2 n2 c2] = fun e w' => e = .returned (.slice ao n cap) ∧ Below w.heap.size w w' := by funext e w'; unfold KeptP; rw [if_pos hb]
   rw [hk]
   clear hk hown
   go_enter Tryz.func172,Tryz.ntmps172
   go_wp2
   go_ret
   exact ⟨rfl,(Below.refl _ w).alloc (Nat.le_refl _) _⟩
 · have hk : KeptP w B 70 2 (.slice ao n cap) n xs most [.string nm, .slice a2 n2 c2] = fun e w' => ∃ v' w1, e = .returned v' ∧ Below w.heap.size w w1 ∧ w1.grownBy w' (Value.slice ao n cap).ownBlock ∧ w'.ownsRow B 70 2 v' (n + 1) (xs ++ [.string nm, .slice a2 n2 c2]) := by funext e w'; unfold KeptP; rw [if_neg hb]
   rw [hk]
   clear hk
   have al:=(Below.refl w.heap.size w).alloc (Nat.le_refl _) (.cells #[.string nm,.slice a2 n2 c2] 70)
   have O0:=Own.new w 70 #[.string nm,.slice a2 n2 c2]
   have hown0:=row_below hown al
   have hs0:B≤(w.alloc (.cells #[.string nm,.slice a2 n2 c2] 70)).heap.size:=by simp;omega
   obtain ⟨W0,hW0⟩:∃ W,W=w.alloc (.cells #[.string nm,.slice a2 n2 c2] 70):=⟨_,rfl⟩
   rw [← hW0] at al O0 hown0 hs0
   have HW0:=Lib.hid hW0
   clear hW0 hown
   go_enter Tryz.func172,Tryz.ntmps172
   go_upto_region 1 with (fail)
   rw [← HW0.out]
   clear HW0
   go_wp2_with (first | (refine ld rowC rfl rfl rfl O0 rfl ?_) | (at_builtin;refine wpList_append_own _ rfl _ _ 23 rfl B 70 i0 _ 2 40 Tryz.underlying23 hi hz0 hz1 hz2 rfl (by decide) (.slice ao n cap) n xs rfl (hown0.alloc _) ⟨W0.heap.size,0,none⟩ 1 1 [.string nm,.slice a2 n2 c2] rfl rfl ?c1 ?c2 ?c3 ?c4 ?c5 ?_))
   case c2=>first | rfl | simp [Value.oneCell']
   case c3=>first | (simp only [maxLen];omega) | (unfold maxLen;omega) | omega
   case c4=>omega
   case c5=>first | omega | (simp;omega)
   intro v' w2 hown' hgrow _
   have HR:=Lib.hid hown'
   have HG:=Lib.hid hgrow
   have HA:=Lib.hid (al.alloc al.size (.cells #[.string nm,.slice a2 n2 c2] 70))
   clear hown' hgrow
   go_wp2
   go_ret
   exact ⟨_,_,rfl,HA.out,HG.out,HR.out⟩
theorem info_i:(Tryz.prog.info? 75).map (fun i=>(i.zero,i.size,i.bytes))=some (some (.agg #[.int .u8 0,.int .u8 0,.int .i64 0,.int .i64 0,.int .i64 0,.int .i64 0,.int .i64 0,.int .i64 0,.int .i64 0]),9,64):=by kernel_rfl
theorem kept_i (k o d a b ad tt wd fr:Int) {w:World} {B:Nat} {v:Value} {n:Nat} {xs:List Value} (hown:w.ownsRow B 75 9 v n xs) (hB:B≤w.heap.size) (hn:n≤1000000) (most:Int) (hm0 : -9223372036854775808≤most) (hm1:most≤9223372036854775807) :
 Calls Tryz.prog 176 #[v,.agg #[.int .u8 k,.int .u8 o,.int .i64 d,.int .i64 a,.int .i64 b,.int .i64 ad,.int .i64 tt,.int .i64 wd,.int .i64 fr],.int .i64 most] w (KeptP w B 75 9 v n xs most [.int .u8 k,.int .u8 o,.int .i64 d,.int .i64 a,.int .i64 b,.int .i64 ad,.int .i64 tt,.int .i64 wd,.int .i64 fr]):=by
 obtain ⟨i0,hi,hz0,hz1,hz2⟩:=info_parts info_i
 obtain ⟨ao,cap,rfl⟩:=row_slice hown
 by_cases hb:most<(n:Int)
 · have hk : KeptP w B 75 9 (.slice ao n cap) n xs most [.int .u8 k, .int .u8 o, .int .i64 d, .int .i64 a, .int .i64 b, .int .i64 ad, .int .i64 tt, .int .i64 wd, .int .i64 fr] = fun e w' => e = .returned (.slice ao n cap) ∧ Below w.heap.size w w' := by funext e w'; unfold KeptP; rw [if_pos hb]
   rw [hk]
   clear hk hown
   go_enter Tryz.func176,Tryz.ntmps176
   go_wp2
   go_ret
   exact ⟨rfl,(Below.refl _ w).alloc (Nat.le_refl _) _⟩
 · have hk : KeptP w B 75 9 (.slice ao n cap) n xs most [.int .u8 k, .int .u8 o, .int .i64 d, .int .i64 a, .int .i64 b, .int .i64 ad, .int .i64 tt, .int .i64 wd, .int .i64 fr] = fun e w' => ∃ v' w1, e = .returned v' ∧ Below w.heap.size w w1 ∧ w1.grownBy w' (Value.slice ao n cap).ownBlock ∧ w'.ownsRow B 75 9 v' (n + 1) (xs ++ [.int .u8 k, .int .u8 o, .int .i64 d, .int .i64 a, .int .i64 b, .int .i64 ad, .int .i64 tt, .int .i64 wd, .int .i64 fr]) := by funext e w'; unfold KeptP; rw [if_neg hb]
   rw [hk]
   clear hk
   have al:=(Below.refl w.heap.size w).alloc (Nat.le_refl _) (.cells #[.int .u8 k,.int .u8 o,.int .i64 d,.int .i64 a,.int .i64 b,.int .i64 ad,.int .i64 tt,.int .i64 wd,.int .i64 fr] 75)
   have O0:=Own.new w 75 #[.int .u8 k,.int .u8 o,.int .i64 d,.int .i64 a,.int .i64 b,.int .i64 ad,.int .i64 tt,.int .i64 wd,.int .i64 fr]
   have hown0:=row_below hown al
   have hs0:B≤(w.alloc (.cells #[.int .u8 k,.int .u8 o,.int .i64 d,.int .i64 a,.int .i64 b,.int .i64 ad,.int .i64 tt,.int .i64 wd,.int .i64 fr] 75)).heap.size:=by simp;omega
   obtain ⟨W0,hW0⟩:∃ W,W=w.alloc (.cells #[.int .u8 k,.int .u8 o,.int .i64 d,.int .i64 a,.int .i64 b,.int .i64 ad,.int .i64 tt,.int .i64 wd,.int .i64 fr] 75):=⟨_,rfl⟩
   rw [← hW0] at al O0 hown0 hs0
   have HW0:=Lib.hid hW0
   clear hW0 hown
   go_enter Tryz.func176,Tryz.ntmps176
   go_upto_region 1 with (fail)
   rw [← HW0.out]
   clear HW0
   go_wp2_with (first | (refine ld rowI rfl rfl rfl O0 rfl ?_) | (at_builtin;refine wpList_append_own _ rfl _ _ 68 rfl B 75 i0 _ 9 64 Tryz.underlying68 hi hz0 hz1 hz2 rfl (by decide) (.slice ao n cap) n xs rfl (hown0.alloc _) ⟨W0.heap.size,0,none⟩ 1 1 [.int .u8 k,.int .u8 o,.int .i64 d,.int .i64 a,.int .i64 b,.int .i64 ad,.int .i64 tt,.int .i64 wd,.int .i64 fr] rfl rfl ?c1 ?c2 ?c3 ?c4 ?c5 ?_))
   case c2=>first | rfl | simp [Value.oneCell']
   case c3=>first | (simp only [maxLen];omega) | (unfold maxLen;omega) | omega
   case c4=>omega
   case c5=>first | omega | (simp;omega)
   intro v' w2 hown' hgrow _
   have HR:=Lib.hid hown'
   have HG:=Lib.hid hgrow
   have HA:=Lib.hid (al.alloc al.size (.cells #[.int .u8 k,.int .u8 o,.int .i64 d,.int .i64 a,.int .i64 b,.int .i64 ad,.int .i64 tt,.int .i64 wd,.int .i64 fr] 75))
   clear hown' hgrow
   go_wp2
   go_ret
   exact ⟨_,_,rfl,HA.out,HG.out,HR.out⟩
open Go.RowKit
set_option linter.unusedVariables false
set_option maxRecDepth 100000
def keepL {α:Type} (l:List α) (x:α) (most:Nat):List α:=if most<l.length then l else l++[x]
def doneB (s:Pst):Bool:=!s.more && !s.bad
def hdF:Nat→Pst × Ob→Pst × Ob
 | 0,x=>((numS' x.1).2,{ x.2 with sh:=(numS' x.1).1 })
 | 1,x=>((numS' x.1).2,{ x.2 with lk:=(numS' x.1).1 })
 | _,x=>((numS' x.1).2,{ x.2 with bf:=(numS' x.1).1 })
def hdS:Nat→Pst × Ob→Pst × Ob
 | 0,x=>x
 | j+1,x=>hdF j (hdS j x)
def mmF (x:Pst × Ob):Pst × Ob:=((wdS x.1).2,{ x.2 with mem:=keepL x.2.mem (wdS x.1).1 4096 })
def mmS:Nat→Pst × Ob→Pst × Ob
 | 0,x=>x
 | n+1,x=>if x.1.more=true then mmS n (mmF x) else x
def coS (x:Pst × Ob):Pst × Ob:=((nextS x.1).2,{ x.2 with cores:=keepL x.2.cores ⟨(nextS x.1).1,[]⟩ 8 })
def pushI (l:List Cor) (i:Ins):List Cor:=match l.getLast? with
 | some c=>l.dropLast++[⟨c.name,keepL c.code i 16384⟩]
 | none=>l
def insS (s:Pst) (i:Ins):Pst × Ins:=bif (vS (uB i.k i.o) 6 (s,i)).1.more then ((oriS (vS (uB i.k i.o) 6 (s,i)).1).2,{ (vS (uB i.k i.o) 6 (s,i)).2 with fr:=(oriS (vS (uB i.k i.o) 6 (s,i)).1).1 }) else vS (uB i.k i.o) 6 (s,i)
def inS (t:ByteArray) (x:Pst × Ob):Bool × Ob:=bif (begS t.data.toList).2 then (doneB (insS x.1 (begS t.data.toList).1).1,{ x.2 with cores:=pushI x.2.cores (insS x.1 (begS t.data.toList).1).2 }) else (false,x.2)
def objN:List UInt8:=[111,98,106,101,99,116]
def memN:List UInt8:=[109,101,109,111,114,121]
def corN:List UInt8:=[99,111,114,101]
def lnS (k:Nat) (t:ByteArray) (o:Ob):Bool × Ob :=
 if k=0 then (if (nextS ⟨t,true,false⟩).1.data.toList=objN then (doneB (hdS 3 ((nextS ⟨t,true,false⟩).2,o)).1,(hdS 3 ((nextS ⟨t,true,false⟩).2,o)).2) else (false,o))
 else if k=1 then (if (nextS ⟨t,true,false⟩).1.data.toList=memN then (doneB (mmS (t.size+2) ((nextS ⟨t,true,false⟩).2,o)).1,(mmS (t.size+2) ((nextS ⟨t,true,false⟩).2,o)).2) else (false,o))
 else if (nextS ⟨t,true,false⟩).1.data.toList=corN then (doneB (coS ((nextS ⟨t,true,false⟩).2,o)).1,(coS ((nextS ⟨t,true,false⟩).2,o)).2)
 else if o.cores=[] then (false,o) else inS (nextS ⟨t,true,false⟩).1 ((nextS ⟨t,true,false⟩).2,o)
def txS (s:ByteArray):Nat→Nat→Nat→Ob→(Int × Bool) × Ob
 | 0,_,_,o=>((0,true),o)
 | n + 1, k, a, o => if k < 2 ∨ a < s.size then
     (if (cutA (s.extract a s.size) 10).2.2=true then
      (if (lnS k (cutA (s.extract a s.size) 10).1 o).1=true then txS s n (k+1) (a+(cutA (s.extract a s.size) 10).1.size+1) (lnS k (cutA (s.extract a s.size) 10).1 o).2
       else (((a:Int),false),(lnS k (cutA (s.extract a s.size) 10).1 o).2))
      else (((a:Int),false),o))
   else ((0,true),o)
def zOb:Ob:=⟨[],0,0,0,[]⟩
structure FitT (o:Ob):Prop where
 mem:o.mem.length≤4097
 cors:o.cores.length≤9
 code:∀ c∈o.cores,c.code.length≤16385
 name:∀ c∈o.cores,c.name.size≤140737488351232
 rg:rgO o
theorem keep_len {α:Type} (l:List α) (x:α) (n:Nat) (h:l.length≤n+1):(keepL l x n).length≤n+1:=by
 unfold keepL
 split
 · exact h
 · rw [List.length_append];simp;omega
theorem keep_all {α:Type} {P:α→Prop} {l:List α} {x:α} {n:Nat} (h:∀ y∈l,P y) (hx:P x):∀ y∈keepL l x n,P y:=by
 unfold keepL
 split
 · exact h
 · intro y hy
   rcases List.mem_append.1 hy with hy | hy
   · exact h y hy
   · obtain rfl : y = x := by simpa using hy
     exact hx
def flatC (L:List (Cor × Value)):List Value:=L.flatMap fun x=>[.string x.1.name,x.2]
def flatI (l:List Ins):List Value:=l.flatMap insC
theorem flatC_len:∀ L:List (Cor × Value),(flatC L).length=L.length*2
 | []=>rfl
 | x :: L => by
   have h:=flatC_len L
   simp only [flatC,List.flatMap_cons,List.length_append,List.length_cons,List.length_nil] at h ⊢
   omega
theorem flatC_app (L L':List (Cor × Value)):flatC (L++L')=flatC L++flatC L':=List.flatMap_append
theorem flatI_app (L L':List Ins):flatI (L++L')=flatI L++flatI L':=List.flatMap_append
theorem flatI_len:∀ L:List Ins,(flatI L).length=L.length*9
 | []=>rfl
 | x :: L => by
   have h:=flatI_len L
   simp only [flatI,List.flatMap_cons,List.length_append,List.length_cons] at h ⊢
   have h9:(insC x).length=9:=rfl
   omega
structure RdL (B:Nat) (L:List (Cor × Value)) (W:World):Prop where
 rows:∀ x∈L,W.ownsRow B 75 9 x.2 x.1.code.length (flatI x.1.code)
 last:∀ L' x,L=L'++[x]→∃ bl,B≤bl∧bl≤W.heap.size∧W.ownsRow bl 75 9 x.2 x.1.code.length (flatI x.1.code)∧∀ y∈L',∀ b,y.2.ownBlock=some b→b<bl
structure RdS (B g:Nat) (o:Ob) (v1 v5:Value) (L:List (Cor × Value)) (W:World):Prop where
 own:Own W g 166 #[v1,.int .i64 o.sh,.int .i64 o.lk,.int .i64 o.bf,v5]
 mem:W.ownsRow B 2 1 v1 o.mem.length (o.mem.map fun x=>.int .i64 x)
 fst:L.map Prod.fst=o.cores
 cors:W.ownsRow B 70 2 v5 L.length (flatC L)
 codes:RdL B L W
theorem row_apart {W:World} {base:Nat} {T U:TypeId} {n:Nat} {v:Value} {m:Nat} {xs:List Value} (h:W.ownsRow base T n v m xs) {b:Nat} {cs:Array Value} (hb:Own W b U cs) (ht:(T==U)=false):v.ownBlock≠some b:=by
 rcases h.2 with ⟨hv,h0⟩ | ⟨g,cap,cur,hv,h1,h2,h3⟩
 · rw [hv];simp [Value.ownBlock]
 · intro e
   rw [hv] at e
   have e:g=b:=by simpa [Value.ownBlock] using e
   subst e
   unfold Own at hb
   rw [h2] at hb
   injection hb with hb
   injection hb with _ hb
   subst hb
   simp at ht
theorem row_apart2 {W:World} {base base':Nat} {T U:TypeId} {n n':Nat} {v v':Value} {m m':Nat} {xs xs':List Value} (h:W.ownsRow base T n v m xs) (h':W.ownsRow base' U n' v' m' xs') (ht:(T==U)=false) (b:Nat) (hb:v'.ownBlock=some b):v.ownBlock≠some b:=by
 rcases h'.2 with ⟨hv,h0⟩ | ⟨g,cap,cur,hv,h1,h2,h3⟩
 · rw [hv] at hb;simp [Value.ownBlock] at hb
 · rw [hv] at hb
   obtain rfl:g=b:=by simpa [Value.ownBlock] using hb
   exact row_apart h (b:=g) (cs:=cur) h2 ht
theorem row_keep {W W':World} {base:Nat} {T:TypeId} {n:Nat} {v:Value} {k:Nat} {xs:List Value} {p:Nat} (h:W.ownsRow base T n v k xs) (hp:v.ownBlock≠some p) (hk:Keep (fun k _=>k≠p) W W'):W'.ownsRow base T n v k xs :=
 row_stays h fun g _ hv hlt=>by
  rw [hk.block g _ (Array.getElem?_eq_getElem hlt) (fun e=>hp (by rw [hv,e])),Array.getElem?_eq_getElem hlt]
section
variable {W W':World} {B g p:Nat} {o:Ob} {v1 v5:Value} {L:List (Cor × Value)} {row:Array Value}
theorem RdL.keep (h:RdL B L W) {ty:TypeId} (hp:Own W p ty row) (ht:(75==ty)=false) (hk:Keep (fun k _=>k≠p) W W'):RdL B L W' :=
 ⟨fun x hx=>row_keep (h.rows x hx) (row_apart (h.rows x hx) hp ht) hk,fun L' x e=>by
  obtain ⟨bl,h1,h2,h3,h4⟩:=h.last L' x e
  exact ⟨bl,h1,Nat.le_trans h2 hk.size,row_keep h3 (row_apart h3 hp ht) hk,h4⟩⟩
theorem RdS.keep (h:RdS B g o v1 v5 L W) {ty:TypeId} (hp:Own W p ty row) (hg:g≠p) (t1:(2==ty)=false) (t2:(70==ty)=false) (t3:(75==ty)=false) (hk:Keep (fun k _=>k≠p) W W'):RdS B g o v1 v5 L W' :=
 ⟨hk.block _ _ h.own hg,row_keep h.mem (row_apart h.mem hp t1) hk,h.fst,row_keep h.cors (row_apart h.cors hp t2) hk,h.codes.keep hp t3 hk⟩
theorem RdL.below (h:RdL B L W) (hb:Below W.heap.size W W'):RdL B L W' :=
 ⟨fun x hx=>row_below (h.rows x hx) hb,fun L' x e=>by
  obtain ⟨bl,h1,h2,h3,h4⟩:=h.last L' x e
  exact ⟨bl,h1,Nat.le_trans h2 hb.size,row_below h3 hb,h4⟩⟩
theorem RdS.below (h:RdS B g o v1 v5 L W) (hb:Below W.heap.size W W'):RdS B g o v1 v5 L W' :=
 ⟨h.own.below hb,row_below h.mem hb,h.fst,row_below h.cors hb,h.codes.below hb⟩
theorem RdS.setMem (h:RdS B g o v1 v5 L W) {v1':Value} {l:List Int} (hg:W.grownBy W' v1.ownBlock) (hr:W'.ownsRow B 2 1 v1' l.length (l.map fun x=>.int .i64 x)):RdS B g { o with mem:=l } v1' v5 L (W'.setCell ⟨g,0,none⟩ v1'):=by
 have e0:Own W' g 166 #[v1,.int .i64 o.sh,.int .i64 o.lk,.int .i64 o.bf,v5]:=(hg.block g h.own.lt (fun e=>row_apart h.mem h.own rfl e.symm)).trans h.own
 have hk:Keep (fun k _=>k≠g) W' (W'.setCell ⟨g,0,none⟩ v1'):=(Keep.refl _ _).setCell (p:=⟨g,0,none⟩) v1' e0 (fun q=>q rfl)
 have hc:W'.ownsRow B 70 2 v5 L.length (flatC L):=row_stays h.cors fun b _ hb hlt=>hg.block b hlt (fun e=>row_apart2 h.mem h.cors rfl b hb e.symm)
 have hrow:∀ {base:Nat} {x:Cor × Value},W.ownsRow base 75 9 x.2 x.1.code.length (flatI x.1.code)→W'.ownsRow base 75 9 x.2 x.1.code.length (flatI x.1.code):=fun hx=>row_stays hx fun b _ hb hlt=>hg.block b hlt (fun e=>row_apart2 h.mem hx rfl b hb e.symm)
 have hl:RdL B L W':=⟨fun x hx=>hrow (h.codes.rows x hx),fun L' x e=>by
  obtain ⟨bl,k1,k2,k3,k4⟩:=h.codes.last L' x e
  exact ⟨bl,k1,Nat.le_trans k2 hg.size,hrow k3,k4⟩⟩
 exact ⟨heap_setCell_same W' g 0 _ _ v1' e0,row_keep hr (row_apart hr e0 rfl) hk,h.fst,row_keep hc (row_apart hc e0 rfl) hk,hl.keep e0 rfl hk⟩
end
end Go.Proofs.YtmpljhfinmfnbaaGreatDoor

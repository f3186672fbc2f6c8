/- The proof, part 22: texts that belong together, in one. -/
import Derived.Test.YtmpljhfinmfnbaaGreatDoorQAU
import Derived.Test.YtmpljhfinmfnbaaGreatDoorQAF
set_option maxRecDepth 100000
set_option maxHeartbeats 20000000
namespace Go.Proofs.YtmpljhfinmfnbaaGreatDoor
open Go.RowKit
set_option linter.unusedVariables false
set_option maxRecDepth 100000
theorem row_at {W:World} {base:Nat} {T:TypeId} {n:Nat} {v:Value} {k:Nat} {xs:List Value} (h:W.ownsRow base T n v k xs) (hk:0<k):∃ g cap,v=.slice (some ⟨g,0,none⟩) k cap∧base≤g∧∀ (j:Nat) (u:Value),xs[j]? = some u→W.cell? ⟨g,j,none⟩=some u:=by
 rcases h.2 with ⟨hv,h0⟩ | ⟨g,cap,cur,hv,h1,h2,h3,h4,h5,h6⟩
 · omega
 · refine ⟨g, cap, hv, h1, fun j u hj => ?_⟩
   rw [← h6] at hj
   rw [List.getElem?_take] at hj
   split at hj
   · simp only [World.cell?, h2]
     simpa using hj
   · cases hj
theorem row_set {W:World} {base:Nat} {T:TypeId} {n g cap:Nat} {k:Nat} {xs:List Value} (h:W.ownsRow base T n (.slice (some ⟨g,0,none⟩) k cap) k xs) (j:Nat) (u:Value):(W.setCell ⟨g,j,none⟩ u).ownsRow base T n (.slice (some ⟨g,0,none⟩) k cap) k (xs.set j u):=by
 rcases h.2 with ⟨hv,h0⟩ | ⟨g',cap',cur,hv,h1,h2,h3,h4,h5,h6⟩
 · cases hv
 · obtain ⟨rfl, rfl⟩ : g = g' ∧ cap = cap' := by injection hv with e1 _ e2; injection e1 with e1; injection e1 with e1; exact ⟨e1, e2⟩
   refine ⟨by rw [List.length_set];exact h.1,.inr ⟨g,cap,cur.setIfInBounds j u,rfl,h1,heap_setCell_same W g j _ _ u h2,h3,h4,by rw [Array.size_setIfInBounds];exact h5,?_⟩⟩
   rw [Array.toList_setIfInBounds,List.take_set,h6]
theorem row_mono {W:World} {base base':Nat} {T:TypeId} {n:Nat} {v:Value} {k:Nat} {xs:List Value} (h:W.ownsRow base T n v k xs) (hb:base'≤base):W.ownsRow base' T n v k xs:=by
 obtain ⟨h1,h2⟩:=h
 refine ⟨h1,?_⟩
 rcases h2 with h2 | ⟨g,cap,cur,e,hg,rest⟩
 · exact .inl h2
 · exact .inr ⟨g,cap,cur,e,Nat.le_trans hb hg,rest⟩
theorem kept_use {w w':World} {B:Nat} {E:TypeId} {k:Nat} {v:Value} {n:Nat} {xs:List Value} {most:Int} {news:List Value} {e:Ending} (hown:w.ownsRow B E k v n xs) (h:KeptP w B E k v n xs most news e w'):∃ v',e=.returned v'∧w.grownBy w' v.ownBlock∧w'.ownsRow B E k v' (if most<(n:Int) then n else n+1) (if most<(n:Int) then xs else xs++news):=by
 unfold KeptP at h
 split at h
 · next hm =>
   obtain ⟨rfl,hb⟩:=h
   refine ⟨v,rfl,⟨hb.os,hb.tape,hb.output,hb.size,fun j hj _=>hb.block j hj⟩,?_⟩
   rw [if_pos hm,if_pos hm]
   exact row_below hown hb
 · next hm =>
   obtain ⟨v',w1,rfl,hb,hg,hr⟩:=h
   refine ⟨v',rfl,⟨hg.os.trans hb.os,hg.tape.trans hb.tape,hg.output.trans hb.output,Nat.le_trans hb.size hg.size,fun j hj hne=>(hg.block j (Nat.lt_of_lt_of_le hj hb.size) hne).trans (hb.block j hj)⟩,?_⟩
   rw [if_neg hm,if_neg hm]
   exact hr
theorem keep_len2 {α:Type} (l:List α) (x:α) (n:Nat):(keepL l x n).length=if (n:Int)<(l.length:Int) then l.length else l.length+1:=by
 unfold keepL
 by_cases h:n<l.length
 · rw [if_pos h,if_pos (by omega)]
 · rw [if_neg h,if_neg (by omega),List.length_append];rfl
theorem keep_mem (l:List Int) (x:Int) (n:Nat):(keepL l x n).map (fun x=>Value.int .i64 x)=if (n:Int)<(l.length:Int) then l.map (fun x=>Value.int .i64 x) else l.map (fun x=>Value.int .i64 x)++[.int .i64 x]:=by
 unfold keepL
 by_cases h:n<l.length
 · rw [if_pos h,if_pos (by omega)]
 · rw [if_neg h,if_neg (by omega),List.map_append];rfl
theorem keep_ins (l:List Ins) (i:Ins) (n:Nat):flatI (keepL l i n)=if (n:Int)<(l.length:Int) then flatI l else flatI l++insC i:=by
 unfold keepL
 by_cases h:n<l.length
 · rw [if_pos h,if_pos (by omega)]
 · rw [if_neg h,if_neg (by omega),flatI_app];simp [flatI]
theorem row_lt {W:World} {base:Nat} {T:TypeId} {n:Nat} {v:Value} {k:Nat} {xs:List Value} (h:W.ownsRow base T n v k xs) {b:Nat} (hb:v.ownBlock=some b):base≤b∧b<W.heap.size:=by
 rcases h.2 with ⟨hv,h0⟩ | ⟨g,cap,cur,hv,h1,h2,h3⟩
 · rw [hv] at hb;simp [Value.ownBlock] at hb
 · rw [hv] at hb
   obtain rfl:g=b:=by simpa [Value.ownBlock] using hb
   exact ⟨h1,(Array.getElem?_eq_some_iff.1 h2).1⟩
section
variable {W W':World} {B g:Nat} {o:Ob} {v1 v5:Value} {L:List (Cor × Value)}
theorem RdS.setCores (h:RdS B g o v1 v5 L W) {v5':Value} (nm:ByteArray) (hB:B≤W.heap.size) (hg:W.grownBy W' v5.ownBlock) (hr:W'.ownsRow B 70 2 v5' (if (8:Int)<(L.length:Int) then L.length else L.length+1) (if (8:Int)<(L.length:Int) then flatC L else flatC L++[.string nm,.slice none 0 0])) :
 ∃ L',RdS B g { o with cores:=keepL o.cores ⟨nm,[]⟩ 8 } v1 v5' L' (W'.setCell ⟨g,4,none⟩ v5'):=by
 have e0:Own W' g 166 #[v1,.int .i64 o.sh,.int .i64 o.lk,.int .i64 o.bf,v5]:=(hg.block g h.own.lt (fun e=>row_apart h.cors h.own rfl e.symm)).trans h.own
 have hk:Keep (fun k _=>k≠g) W' (W'.setCell ⟨g,4,none⟩ v5'):=(Keep.refl _ _).setCell (p:=⟨g,4,none⟩) v5' e0 (fun q=>q rfl)
 have hm:W'.ownsRow B 2 1 v1 o.mem.length (o.mem.map fun x=>.int .i64 x):=row_stays h.mem fun b _ hb hlt=>hg.block b hlt (fun e=>row_apart2 h.cors h.mem rfl b hb e.symm)
 have hrow:∀ {base:Nat} {x:Cor × Value},W.ownsRow base 75 9 x.2 x.1.code.length (flatI x.1.code)→W'.ownsRow base 75 9 x.2 x.1.code.length (flatI x.1.code):=fun hx=>row_stays hx fun b _ hb hlt=>hg.block b hlt (fun e=>row_apart2 h.cors hx rfl b hb e.symm)
 have hlen:o.cores.length=L.length:=by rw [← h.fst,List.length_map]
 have hown:=heap_setCell_same W' g 4 _ _ v5' e0
 have hm2:=row_keep hm (row_apart hm e0 rfl) hk
 by_cases hl:8<L.length
 · rw [if_pos (by omega), if_pos (by omega)] at hr
   refine ⟨L,hown,hm2,?_,row_keep hr (row_apart hr e0 rfl) hk,?_⟩
   · show _ = keepL _ _ _
     unfold keepL
     rw [if_pos (by omega)]
     exact h.fst
   · refine RdL.keep ⟨fun x hx => hrow (h.codes.rows x hx), fun L' x e => ?_⟩ e0 rfl hk
     obtain ⟨bl,k1,k2,k3,k4⟩:=h.codes.last L' x e
     exact ⟨bl,k1,Nat.le_trans k2 hg.size,hrow k3,k4⟩
 · rw [if_neg (by omega), if_neg (by omega)] at hr
   refine ⟨L++[(⟨nm,[]⟩,.slice none 0 0)],hown,hm2,?_,?_,?_⟩
   · show _ = keepL _ _ _
     unfold keepL
     rw [if_neg (by omega),List.map_append,h.fst]
     rfl
   · rw [List.length_append, flatC_app]
     exact row_keep hr (row_apart hr e0 rfl) hk
   · refine RdL.keep ⟨fun x hx => ?_, fun L' x e => ?_⟩ e0 rfl hk
     · rcases List.mem_append.1 hx with hx | hx
       · exact hrow (h.codes.rows x hx)
       · obtain rfl : x = (⟨nm, []⟩, .slice none 0 0) := by simpa using hx
         exact World.ownsRow_nil _ _ _ _
     · obtain ⟨rfl, rfl⟩ : L = L' ∧ (⟨nm, []⟩, .slice none 0 0) = x := by
        have:=List.append_inj' e rfl
        exact ⟨this.1,by simpa using this.2⟩
       refine ⟨W'.heap.size,Nat.le_trans hB hg.size,Nat.le_refl _,World.ownsRow_nil _ _ _ _,fun y hy b hb=>?_⟩
       exact Nat.lt_of_lt_of_le (row_lt (h.codes.rows y hy) hb).2 hg.size
theorem flatC_last (L0:List (Cor × Value)) (c c':Cor) (v v':Value) (hn:c'.name=c.name):(flatC (L0++[(c,v)])).set (L0.length*2+1) v'=flatC (L0++[(c',v')]):=by
 rw [flatC_app,flatC_app,List.set_append_right _ _ (by rw [flatC_len];omega),flatC_len]
 have:L0.length*2+1-L0.length*2=1:=by omega
 rw [this]
 simp [flatC,hn]
theorem RdS.setCode (h:RdS B g o v1 v5 L W) {L0:List (Cor × Value)} {c:Cor} {v v':Value} (hL:L=L0++[(c,v)]) {bl:Nat} (hB:B≤bl) (hbl:bl≤W.heap.size) (hlt:∀ y∈L0,∀ b,y.2.ownBlock=some b→b<bl) (hv:W.ownsRow bl 75 9 v c.code.length (flatI c.code)) (i:Ins) (hg:W.grownBy W' v.ownBlock) {gb cap:Nat} (h5:v5=.slice (some ⟨gb,0,none⟩) L.length cap)
 (hr:W'.ownsRow bl 75 9 v' (if (16384:Int)<(c.code.length:Int) then c.code.length else c.code.length+1) (if (16384:Int)<(c.code.length:Int) then flatI c.code else flatI c.code++insC i)) :
 RdS B g { o with cores:=pushI o.cores i } v1 v5 (L0++[(⟨c.name,keepL c.code i 16384⟩,v')]) (W'.setCell ⟨gb,L0.length*2+1,none⟩ v'):=by
 have e0:Own W' g 166 #[v1,.int .i64 o.sh,.int .i64 o.lk,.int .i64 o.bf,v5]:=(hg.block g h.own.lt (fun e=>row_apart hv h.own rfl e.symm)).trans h.own
 have hm:W'.ownsRow B 2 1 v1 o.mem.length (o.mem.map fun x=>.int .i64 x):=row_stays h.mem fun b _ hb hl=>hg.block b hl (fun e=>row_apart2 hv h.mem rfl b hb e.symm)
 have hc:W'.ownsRow B 70 2 v5 L.length (flatC L):=row_stays h.cors fun b _ hb hl=>hg.block b hl (fun e=>row_apart2 hv h.cors rfl b hb e.symm)
 have hrow:∀ y∈L0,W'.ownsRow B 75 9 y.2 y.1.code.length (flatI y.1.code):=fun y hy=>row_stays (h.codes.rows y (by rw [hL];exact List.mem_append_left _ hy)) fun b _ hb hl=>hg.block b hl (fun e=>by
  have h1:=hlt y hy b hb
  have h2:=(row_lt hv e.symm).1
  omega)
 replace hr:W'.ownsRow bl 75 9 v' (keepL c.code i 16384).length (flatI (keepL c.code i 16384)):=by
  rw [keep_len2,keep_ins]
  exact hr
 subst h5
 have hcb:∃ cur,Own W' gb 70 cur:=by
  rcases hc.2 with ⟨hv,h0⟩ | ⟨g',cap',cur,hv,h1,h2,_⟩
  · cases hv
  · obtain rfl : gb = g' := by injection hv with e1 _ e2; injection e1 with e1; injection e1 with e1
    exact ⟨cur,h2⟩
 obtain ⟨cur,hcur⟩:=hcb
 have hne:gb≠g:=fun e=>by
  subst e
  exact row_apart h.cors h.own rfl rfl
 have hk:Keep (fun k _=>k≠gb) W' (W'.setCell ⟨gb,L0.length*2+1,none⟩ v'):=(Keep.refl _ _).setCell (p:=⟨gb,L0.length*2+1,none⟩) v' hcur (fun q=>q rfl)
 have hset:=row_set hc (L0.length*2+1) v'
 have hlen:L.length=(L0++[((⟨c.name,keepL c.code i 16384⟩:Cor),v')]).length:=by rw [hL];simp
 refine ⟨hk.block _ _ e0 (fun e=>hne e.symm),row_keep hm (row_apart hm hcur rfl) hk,?_,?_,?_⟩
 · show _ = pushI o.cores i
   rw [← h.fst,hL,List.map_append,List.map_append]
   unfold pushI
   simp
 · rw [← hlen]
   rw [show (flatC L).set (L0.length*2+1) v'=flatC (L0++[((⟨c.name,keepL c.code i 16384⟩:Cor),v')]) from by rw [hL];exact flatC_last L0 c ⟨c.name,keepL c.code i 16384⟩ v v' rfl] at hset
   exact hset
 · refine RdL.keep ⟨fun x hx => ?_, fun L' x e => ?_⟩ hcur rfl hk
   · rcases List.mem_append.1 hx with hx | hx
     · exact hrow x hx
     · obtain rfl : x = (⟨c.name, keepL c.code i 16384⟩, v') := by simpa using hx
       exact row_mono hr hB
   · obtain ⟨rfl, rfl⟩ : L0 = L' ∧ (⟨c.name, keepL c.code i 16384⟩, v') = x := by
      have:=List.append_inj' e rfl
      exact ⟨this.1,by simpa using this.2⟩
     exact ⟨bl,hB,Nat.le_trans hbl hg.size,hr,hlt⟩
end
theorem flatI_get:∀ (l:List Ins) (j:Nat) (i:Ins),l[j]? = some i→∀ (m:Nat) (v:Value),(insC i)[m]? = some v→(flatI l)[j*9+m]? = some v
 | [],j,i,h,_,_,_=>by simp at h
 | x :: l, 0, i, h, m, v, hv => by
   obtain rfl:x=i:=by simpa using h
   simp only [flatI,List.flatMap_cons,Nat.zero_mul,Nat.zero_add]
   have hlt:m<(insC x).length:=(List.getElem?_eq_some_iff.1 hv).1
   rw [List.getElem?_append_left hlt]
   exact hv
 | x :: l, j + 1, i, h, m, v, hv => by
   have h':=flatI_get l j i (by simpa using h) m v hv
   simp only [flatI,List.flatMap_cons] at h' ⊢
   have h9:(insC x).length=9:=rfl
   rw [List.getElem?_append_right (by rw [h9];omega),h9]
   rw [show (j+1)*9+m-9=j*9+m by omega]
   exact h'
theorem flatC_get:∀ (L:List (Cor × Value)) (j:Nat) (x:Cor × Value),L[j]? = some x→(flatC L)[j*2]? = some (.string x.1.name)∧(flatC L)[j*2+1]? = some x.2
 | [],j,x,h=>by simp at h
 | y :: L, 0, x, h => by
   obtain rfl:y=x:=by simpa using h
   simp [flatC]
 | y :: L, j + 1, x, h => by
   have h':=flatC_get L j x (by simpa using h)
   simp only [flatC,List.flatMap_cons] at h' ⊢
   rw [List.getElem?_append_right (by simp;omega),List.getElem?_append_right (by simp;omega)]
   simp only [List.length_cons,List.length_nil]
   rw [show (j+1)*2-(0+1+1)=j*2 by omega,show (j+1)*2+1-(0+1+1)=j*2+1 by omega]
   exact h'
theorem row_ints {W:World} {base:Nat} {v:Value} {l:List Int} (h:W.ownsRow base 2 1 v l.length (l.map fun x=>.int .i64 x)):∃ a c,v=.slice a l.length c∧intsAt W l a:=by
 by_cases h0:l=[]
 · obtain ⟨a, c, e⟩ := row_slice h
   exact ⟨a,c,e,.inl h0⟩
 · obtain ⟨g, cap, e, _, h2⟩ := row_at h (List.length_pos_iff.2 h0)
   refine ⟨_,_,e,.inr ⟨g,0,rfl,fun j x hj=>?_⟩⟩
   rw [Nat.zero_add]
   exact h2 j _ (by rw [List.getElem?_map,hj];rfl)
theorem row_insAt {W:World} {base:Nat} {v:Value} {l:List Ins} (h:W.ownsRow base 75 9 v l.length (flatI l)):∃ a c,v=.slice a l.length c∧insAt W l a:=by
 by_cases h0:l=[]
 · obtain ⟨a, c, e⟩ := row_slice h
   exact ⟨a,c,e,.inl h0⟩
 · obtain ⟨g, cap, e, _, h2⟩ := row_at h (List.length_pos_iff.2 h0)
   refine ⟨_,_,e,.inr ⟨g,0,rfl,fun j i hj m u hu=>?_⟩⟩
   rw [Nat.zero_add]
   exact h2 _ _ (flatI_get l j i hj m u hu)
theorem RdS.obA {W:World} {B g:Nat} {o:Ob} {v1 v5:Value} {L:List (Cor × Value)} (h:RdS B g o v1 v5 L W):obA W o (.agg #[v1,.int .i64 o.sh,.int .i64 o.lk,.int .i64 o.bf,v5]):=by
 obtain ⟨a1,c1,rfl,h1⟩:=row_ints h.mem
 have hlen:o.cores.length=L.length:=by rw [← h.fst,List.length_map]
 obtain ⟨a5,c5,rfl⟩:=row_slice h.cors
 refine ⟨a1,c1,a5,c5,by rw [obV,hlen],h1,?_⟩
 by_cases h0:L=[]
 · left
   rw [← h.fst,h0]
   rfl
 · obtain ⟨gb, cap, e, _, h2⟩ := row_at h.cors (List.length_pos_iff.2 h0)
   right
   injection e with e1 e2 e3
   refine ⟨gb,0,e1,fun j c hj=>?_⟩
   rw [← h.fst,List.getElem?_map] at hj
   obtain ⟨x,hx,rfl⟩:=Option.map_eq_some_iff.1 hj
   obtain ⟨f1,f2⟩:=flatC_get L j x hx
   obtain ⟨a2,c2,e4,h4⟩:=row_insAt (h.codes.rows x (List.mem_of_getElem? hx))
   rw [Nat.zero_add]
   exact ⟨h2 _ _ f1,a2,c2,by rw [h2 _ _ f2,e4],h4⟩
open Go.RowKit
set_option linter.unusedVariables false
set_option maxRecDepth 100000
structure Rp (w:World) (B p g:Nat) (y:Pst × Ob) (W:World):Prop where
 own:Own W p 256 y.1.row
 rd:∃ v1 v5 L,RdS B g y.2 v1 v5 L W
 bel:Below B w W
theorem own_ne {W:World} {a b:Nat} {T U:TypeId} {x y:Array Value} (h:Own W a T x) (k:Own W b U y) (ht:(T==U)=false):a≠b:=by
 rintro rfl
 unfold Own at h k
 rw [h] at k
 injection k with k
 injection k with _ k
 subst k
 simp at ht
theorem keep_fresh {W W':World} {p:Nat} {o:Obj} (h:Keep (fun k _=>k≠p∧k≠W.heap.size) (W.alloc o) W'):Keep (fun k _=>k≠p) W W' :=
 ⟨h.os,h.tape,h.output,by have:=h.size;simp at this;omega,fun k x hk hs=>h.block k x (by
  rw [((Below.refl _ W).alloc (Nat.le_refl _) o).block k (Array.getElem?_eq_some_iff.1 hk).1]
  exact hk) ⟨hs,by have:=(Array.getElem?_eq_some_iff.1 hk).1;omega⟩⟩
section
variable {w W W':World} {B p g:Nat} {y:Pst × Ob}
theorem Rp.ne (h:Rp w B p g y W):g≠p:=by
 obtain ⟨v1,v5,L,hr⟩:=h.rd
 exact own_ne hr.own h.own rfl
theorem Rp.below (h:Rp w B p g y W) (hb:Below W.heap.size W W') (hB:B≤p):Rp w B p g y W':=by
 obtain ⟨v1,v5,L,hr⟩:=h.rd
 exact ⟨h.own.below hb,⟨v1,v5,L,hr.below hb⟩,h.bel.trans (hb.mono (by have:=h.own.lt;omega))⟩
theorem Rp.trans {w0:World} {y0:Pst × Ob} (h:Rp w0 B p g y0 w) (k:Rp w B p g y W):Rp w0 B p g y W:=⟨k.own,k.rd,h.bel.trans k.bel⟩
theorem Rp.self (h:Rp w B p g y W):Rp W B p g y W:=⟨h.own,h.rd,Below.refl _ _⟩
theorem Rp.line {s':Pst} (h:Rp w B p g y W) (ho:Own W' p 256 s'.row) (hk:Keep (fun k _=>k≠p) W W') (hb:Below B W W'):Rp w B p g (s',y.2) W':=by
 obtain ⟨v1,v5,L,hr⟩:=h.rd
 exact ⟨ho,⟨v1,v5,L,hr.keep h.own h.ne rfl rfl rfl hk⟩,h.bel.trans hb⟩
theorem row_keep2 {base:Nat} {T:TypeId} {n:Nat} {v:Value} {k:Nat} {xs:List Value} {q:Nat} (h:W.ownsRow base T n v k xs) (hp:v.ownBlock≠some p) (hq:v.ownBlock≠some q) (hk:Keep (fun k _=>k≠p∧k≠q) W W'):W'.ownsRow base T n v k xs :=
 row_stays h fun b _ hv hlt=>by
  rw [hk.block b _ (Array.getElem?_eq_getElem hlt) ⟨fun e=>hp (by rw [hv,e]),fun e=>hq (by rw [hv,e])⟩,Array.getElem?_eq_getElem hlt]
theorem RdS.num {o o':Ob} {v1 v5:Value} {L:List (Cor × Value)} {s s':Pst} {row:Array Value} (h:RdS B g o v1 v5 L W) (hp:Own W p 256 s.row) (k:P2 W B p s' g 166 row W') (he:row=#[v1,.int .i64 o'.sh,.int .i64 o'.lk,.int .i64 o'.bf,v5]) (h1:o'.mem=o.mem) (h2:o'.cores=o.cores):RdS B g o' v1 v5 L W':=by
 subst he
 have hl:∀ {base:Nat} {x:Cor × Value},W.ownsRow base 75 9 x.2 x.1.code.length (flatI x.1.code)→W'.ownsRow base 75 9 x.2 x.1.code.length (flatI x.1.code):=fun hx=>row_keep2 hx (row_apart hx hp rfl) (row_apart hx h.own rfl) k.keep
 refine ⟨k.dst,by rw [h1];exact row_keep2 h.mem (row_apart h.mem hp rfl) (row_apart h.mem h.own rfl) k.keep,by rw [h2];exact h.fst,row_keep2 h.cors (row_apart h.cors hp rfl) (row_apart h.cors h.own rfl) k.keep,fun x hx=>hl (h.codes.rows x hx),fun L' x e=>?_⟩
 obtain ⟨bl,k1,k2,k3,k4⟩:=h.codes.last L' x e
 exact ⟨bl,k1,Nat.le_trans k2 k.keep.size,hl k3,k4⟩
end
structure Rq (w:World) (B p g b:Nat) (y:Pst × Ob) (W:World):Prop where
 rp:Rp w B p g y W
 bx:Own W b 235 #[.pointer (some ⟨p,0,none⟩)]
theorem Rq.below {w W W':World} {B p g b:Nat} {y:Pst × Ob} (h:Rq w B p g b y W) (hb:Below W.heap.size W W') (hB:B≤p):Rq w B p g b y W':=⟨h.rp.below hb hB,h.bx.below hb⟩
theorem Rp.box {w W:World} {B p g:Nat} {y:Pst × Ob} (h:Rp w B p g y W) (hB:B≤p):Rq w B p g W.heap.size y (W.alloc (.cells #[.pointer (some ⟨p,0,none⟩)] 235)):=⟨h.below ((Below.refl _ W).alloc (Nat.le_refl _) _) hB,Own.new W _ _⟩
theorem hd_size (j:Nat) (y:Pst × Ob):(hdF j y).1.rest.size≤y.1.rest.size:=by
 match j with
 | 0=>exact num_size _
 | 1=>exact num_size _
 | j+2=>exact num_size _
theorem hdS_size (y:Pst × Ob):∀ j:Nat,(hdS j y).1.rest.size≤y.1.rest.size
 | 0=>Nat.le_refl _
 | j+1=>Nat.le_trans (hd_size j _) (hdS_size y j)
theorem hd_num (j:Nat) (hj:j<3) {w X:World} {B p g b:Nat} {y:Pst × Ob} (h:Rq w B p g b y X) (hs:y.1.rest.size≤4611686018427387904) (hB:B≤p) (hB2:B≤g) (hb:b≠p) (hb2:b≠g) :
 Calls Tryz.prog 166 #[.pointer (some ⟨p,0,none⟩),.pointer (some ⟨g,j+1,none⟩)] X fun e w'=>e=.returned (.tuple #[])∧Rq w B p g b (hdF j y) w':=by
 obtain ⟨v1,v5,L,hr⟩:=h.rp.rd
 match j,hj with
 | 0,_=>exact (p_number h.rp.own hs hr.own h.rp.ne (u:=.int .i64 y.2.sh) rfl hB hB2).mono fun _ _ ⟨e1,e2⟩=>⟨e1,⟨e2.own,⟨v1,v5,L,hr.num h.rp.own e2 rfl rfl rfl⟩,h.rp.bel.trans e2.bel⟩,e2.other h.bx hb hb2⟩
 | 1,_=>exact (p_number h.rp.own hs hr.own h.rp.ne (u:=.int .i64 y.2.lk) rfl hB hB2).mono fun _ _ ⟨e1,e2⟩=>⟨e1,⟨e2.own,⟨v1,v5,L,hr.num h.rp.own e2 rfl rfl rfl⟩,h.rp.bel.trans e2.bel⟩,e2.other h.bx hb hb2⟩
 | 2,_=>exact (p_number h.rp.own hs hr.own h.rp.ne (u:=.int .i64 y.2.bf) rfl hB hB2).mono fun _ _ ⟨e1,e2⟩=>⟨e1,⟨e2.own,⟨v1,v5,L,hr.num h.rp.own e2 rfl rfl rfl⟩,h.rp.bel.trans e2.bel⟩,e2.other h.bx hb hb2⟩
theorem t_head {w:World} {B p g:Nat} {y:Pst × Ob} (h:Rp w B p g y w) (hs:y.1.rest.size≤4611686018427387904) (hB:B≤p) (hB2:B≤g) :
 Calls Tryz.prog 154 #[.pointer (some ⟨g,0,none⟩),.agg #[.pointer (some ⟨p,0,none⟩)]] w fun e w'=>e=.returned (.bool (doneB (hdS 3 y).1))∧Rp w B p g (hdS 3 y) w':=by
 have hq0:=h.box hB
 have hn1:w.heap.size≠p:=by have:=h.own.lt;omega
 have hn2:w.heap.size≠g:=by
  obtain ⟨v1,v5,L,hr⟩:=h.rd
  have:=hr.own.lt;omega
 have HS:Hid (∀ j,j<3→∀ X (y:Pst × Ob),Rq w B p g w.heap.size y X→y.1.rest.size≤4611686018427387904→Calls Tryz.prog 166 #[.pointer (some ⟨p,0,none⟩),.pointer (some ⟨g,j+1,none⟩)] X fun e w'=>e=.returned (.tuple #[])∧Rq w B p g w.heap.size (hdF j y) w'):=fun j hj X y h1 h2=>hd_num j hj h1 h2 hB hB2 hn1 hn2
 have HSZ:Hid (∀ j,(hdS j y).1.rest.size≤4611686018427387904):=fun j=>Nat.le_trans (hdS_size y j) hs
 have HDN:Hid (∀ X (y:Pst × Ob),Rq w B p g w.heap.size y X→Calls Tryz.prog 167 #[.pointer (some ⟨p,0,none⟩)] X fun e w'=>e=.returned (.bool (doneB y.1))∧X=w'):=fun X y h1=>p_done h1.rp.own
 have HX:Hid (∀ (X:World) (j:Nat),j<3→(Instr.index 151 (.agg #[.pointer (some ⟨g,1,none⟩),.pointer (some ⟨g,2,none⟩),.pointer (some ⟨g,3,none⟩)]) (.int .i64 (j:Int))).run Tryz.prog X=.ok (.pointer (some ⟨g,j+1,none⟩)) X):=fun X j hj=>by
  match j,hj with
  | 0,_=>rfl
  | 1,_=>rfl
  | 2,_=>rfl
 obtain ⟨W0,hW0⟩:∃ W,W=w.alloc (.cells #[.pointer (some ⟨p,0,none⟩)] 235):=⟨_,rfl⟩
 rw [← hW0] at hq0
 have HW0:=Lib.hid hW0
 have HP0:=Lib.hid hq0
 have HBP:=Lib.hid hB
 clear h hs hB hB2 hq0 hn1 hn2 hW0
 go_enter Tryz.func154,Tryz.ntmps154
 go_upto_region 1 with (fail)
 rw [← HW0.out]
 clear HW0
 go_wp2_with fail
 go_quiet (fail)
 have HP2:=Lib.hid (HP0.out.below (below_drewN (Below.refl _ W0) nq) HBP.out)
 obtain ⟨W2,hW2⟩:∃ W,W=W0.drewN nq:=⟨_,rfl⟩
 rw [← hW2] at HP2 ⊢
 clear hW2 HP0
 go_wp2_with fail
 go_loopg [20] 4 (fun m' z X=>∃ j:Nat,z=.int .i64 (j:Int)∧j≤3∧m'=3-j+1∧Rq w B p g w.heap.size (hdS j y) X)
 case atStart=>exact ⟨0,rfl,by omega,by omega,HP2.out⟩
 case round =>
  clear HP2
  obtain ⟨j,rfl,hj,hm,hq⟩:=hrel
  have HM:=Lib.hid hm
  have HP:=Lib.hid hq
  have c0:wr.cell? ⟨w.heap.size,0,none⟩=some (.pointer (some ⟨p,0,none⟩)):=by rw [cell_of_row _ _ 0 _ _ _ hq.bx];rfl
  clear hm hq
  by_cases hj3:j<3
  · have hx := fun X => HX.out X j hj3
    have hlt:(j:Int)<3:=by omega
    go_wp2_with (go_at_call 166;refine (HS.out j hj3 _ _ HP.out (HSZ.out j)).mono ?_;rintro e w4 ⟨rfl,hz⟩;have HZ:=Lib.hid hz;clear hz)
    go_roundg (3-(j+1)+1)
    case measure=>have:=HM.out;omega
    case rel=>exact ⟨j+1,by simp,by omega,by omega,HZ.out⟩
  · obtain rfl : j = 3 := by omega
    go_wp2_with (go_at_call 167;refine (HDN.out _ _ HP.out).mono ?_;rintro e w4 ⟨rfl,rfl⟩)
    go_ret
    exact ⟨rfl,HP.out.rp⟩
open Go.RowKit
set_option linter.unusedVariables false
set_option maxRecDepth 100000
section
variable {P:Program} {ops:Array Oper} {Q:Exit→Act→World→Prop} {a:Act} {w:World}
theorem wp_callT {o:Oper} {K:Act→World→Prop} {x:Operand} {args:Array Operand} {ts:Array TypeId} (ho:o.op=.call { callee:=.value x,args:=args,argTypes:=ts }) {f:FuncId} {fst cap:Array Value} (hx:a.eval x=.func (.func f) fst cap) (hE:∀ (args:Array Value) (w:World),(callFunc f args).run P w=.ok (.enter f args) w)
 {vs:Array Value} (hv:fst++args.map a.eval++cap=vs) {R:Ending→World→Prop} (hc:Calls P f vs w R) (hk:∀ e w',R e w'→(match e with | .returned v=>K (a.put o.dst v) w' | .panicked ch=>Q (.panic ch) a w' | .outgrown=>LetsOut Q)):o.wp P a w K Q:=by
 have h1:∀ ty,resolve a.eval { callee:=.value x,args:=args,argTypes:=ts } ty=pure { target:=.fn (.func f) cap,args:=fst++args.map a.eval }:=fun ty=>by
  unfold resolve
  simp only [hx]
  rfl
 have hrun:(execOp a.eval o).run P w=.ok (.enter f vs) w:=by
  unfold execOp
  simp only [ho,h1]
  obtain ⟨us,hus⟩:∃ us,us=args.map a.eval:=⟨_,rfl⟩
  rw [← hus] at hv ⊢
  simp [invoke,go_sem,hE,hv]
 unfold Oper.wp
 rw [hrun,Oper.upon_enter]
 exact hc.mono fun e w' h=>by have:=hk e w' h;cases e <;> exact this
end
section
variable {w X W W':World} {B p g b:Nat} {y:Pst × Ob}
theorem Rq.next {s':Pst} (h:Rq w B p g b y X) (k:Pq X p s' W) (hB:B≤p) (hb:b≠p):Rq w B p g b (s',y.2) W :=
 ⟨h.rp.line k.own k.keep (k.bel.mono hB),k.other h.bx hb⟩
theorem own_grow {base:Nat} {T U:TypeId} {n:Nat} {v:Value} {m:Nat} {xs:List Value} {c:Nat} {row:Array Value} (ho:Own X c U row) (hr:X.ownsRow base T n v m xs) (ht:(T==U)=false) (hg:X.grownBy W v.ownBlock):Own W c U row:=(hg.block c ho.lt (fun e=>row_apart hr ho ht e.symm)).trans ho
theorem Rq.put (h:Rq w B p g b y X) {T:TypeId} {n:Nat} {v:Value} {m:Nat} {xs:List Value} (hr:X.ownsRow B T n v m xs) (t1:(T==256)=false) (t2:(T==235)=false) (hg:X.grownBy W v.ownBlock) {c j:Nat} {ty:TypeId} {row:Array Value} (hc:Own W c ty row) (t3:(256==ty)=false) (t4:(235==ty)=false) (hBc:B≤c) (hBp:B≤p) (u:Value) (o':Ob) (hrd:∃ v1 v5 L,RdS B g o' v1 v5 L (W.setCell ⟨c,j,none⟩ u)):Rq w B p g b (y.1,o') (W.setCell ⟨c,j,none⟩ u):=by
 have e1:=own_grow h.rp.own hr t1 hg
 have e2:=own_grow h.bx hr t2 hg
 have hbg:Below B w W:=⟨hg.os.trans h.rp.bel.os,hg.tape.trans h.rp.bel.tape,hg.output.trans h.rp.bel.output,Nat.le_trans h.rp.bel.size hg.size,fun k hk=>by
  have hk2:k<X.heap.size:=by
   have hle:=h.rp.bel.size
   by_cases e:k<w.heap.size
   · omega
   · have := h.rp.own.lt
     omega
  exact (hg.block k hk2 (fun e=>by have:=(row_lt hr e.symm).1;omega)).trans (h.rp.bel.block k hk)⟩
 exact ⟨⟨own_set_other e1 (fun e=>own_ne e1 hc t3 e.symm) u,hrd,hbg.setCell (p:=⟨c,j,none⟩) hBc u⟩,own_set_other e2 (fun e=>own_ne e2 hc t4 e.symm) u⟩
end
theorem t_Clone (s:ByteArray) (w:World) (hs:s.size≤281474976710656):Calls Tryz.prog 171 #[.string s] w fun e w'=>e=.returned (.string s)∧Below w.heap.size w w':=by
 have HC:Hid (Calls Tryz.prog 204 #[.string s] w fun e w'=>e=.returned (.string s)∧Below w.heap.size w w'):=Go.Proofs.Tryz.stringslite_Clone s w hs
 clear hs
 go_enter Tryz.func171,Tryz.ntmps171
 go_wp2_with (go_at_call 204;refine HC.out.mono ?_;rintro e w2 ⟨rfl,hb⟩)
 go_ret
 exact ⟨rfl,hb⟩
theorem t_core {w:World} {B p g:Nat} {y:Pst × Ob} (h:Rp w B p g y w) (hs:y.1.rest.size≤281474976710656) (hn:y.2.cores.length≤1000000) (hB:B≤p) (hB2:B≤g) :
 Calls Tryz.prog 156 #[.pointer (some ⟨g,0,none⟩),.agg #[.pointer (some ⟨p,0,none⟩)]] w fun e w'=>e=.returned (.bool (doneB (coS y).1))∧Rp w B p g (coS y) w':=by
 have hq0:=h.box hB
 have hn1:w.heap.size≠p:=by have:=h.own.lt;omega
 have hn2:w.heap.size≠g:=by
  obtain ⟨v1,v5,L,hr⟩:=h.rd
  have:=hr.own.lt;omega
 have HN:Hid (∀ X,Rq w B p g w.heap.size y X→Calls Tryz.prog 153 #[.pointer (some ⟨p,0,none⟩)] X fun e w'=>e=.returned (.string (nextS y.1).1)∧Rq w B p g w.heap.size ((nextS y.1).2,y.2) w'):=fun X hX=>(p_next hX.rp.own (by omega)).mono fun _ _ ⟨e1,e2⟩=>⟨e1,hX.next e2 hB hn1⟩
 have HDN:Hid (∀ X (y:Pst × Ob),Rq w B p g w.heap.size y X→Calls Tryz.prog 167 #[.pointer (some ⟨p,0,none⟩)] X fun e w'=>e=.returned (.bool (doneB y.1))∧X=w'):=fun X y h1=>p_done h1.rp.own
 have HSZ:Hid ((nextS y.1).1.size≤281474976710656):=Nat.le_trans (next_size y.1).1 hs
 have HK:Hid (∀ X (t:Pst) v1 v5 L,Rq w B p g w.heap.size (t,y.2) X→RdS B g y.2 v1 v5 L X→Calls Tryz.prog 172 #[v5,.agg #[.string (nextS y.1).1,.slice none 0 0],.int .i64 8] X fun e w'=>∃ a5 n5 c5,e=.returned (.slice a5 n5 c5)∧(∃ u,w'.cell? ⟨g,4,none⟩=some u)∧w'.frozen? ⟨g,4,none⟩=false∧Rq w B p g w.heap.size (t,(coS y).2) (w'.setCell ⟨g,4,none⟩ (.slice a5 n5 c5))):=fun X t v1 v5 L hX hr=>by
  have hBX:B≤X.heap.size:=Nat.le_trans hB (Nat.le_of_lt hX.rp.own.lt)
  have hlen:L.length=y.2.cores.length:=by rw [← hr.fst,List.length_map]
  refine (kept_c (nextS y.1).1 none 0 0 hr.cors hBX (by omega) 8 (by omega) (by omega)).mono fun e w' hk=>?_
  obtain ⟨v',rfl,hg,hr2⟩:=kept_use hr.cors hk
  obtain ⟨a5,c5,rfl⟩:=row_slice hr2
  obtain ⟨L',hL'⟩:=hr.setCores (nextS y.1).1 hBX hg hr2
  have ho:=own_grow hr.own hr.cors rfl hg
  exact ⟨_,_,_,rfl,⟨_,by rw [cell_of_row _ _ 4 _ _ _ ho];rfl⟩,own_frozen ho 4,hX.put hr.cors rfl rfl hg ho rfl rfl hB2 hB _ _ ⟨v1,_,L',hL'⟩⟩
 have hco:(coS y).1=(nextS y.1).2:=rfl
 rw [hco]
 have HCO:Hid (∀ X,Rq w B p g w.heap.size ((nextS y.1).2,(coS y).2) X→Rp w B p g (coS y) X):=fun X hX=>hX.rp
 generalize coS y=z at HK HCO ⊢
 generalize nextS y.1=r at HN HSZ HK HCO ⊢
 obtain ⟨nm,s1⟩:=r
 simp only at HN HSZ HK HCO ⊢
 obtain ⟨W0,hW0⟩:∃ W,W=w.alloc (.cells #[.pointer (some ⟨p,0,none⟩)] 235):=⟨_,rfl⟩
 rw [← hW0] at hq0
 have HW0:=Lib.hid hW0
 have HP0:=Lib.hid hq0
 have HBP:=Lib.hid hB
 have c0:W0.cell? ⟨w.heap.size,0,none⟩=some (.pointer (some ⟨p,0,none⟩)):=by rw [cell_of_row _ _ 0 _ _ _ hq0.bx];rfl
 clear h hs hB hB2 hq0 hn1 hn2 hW0 hco hn
 go_enter Tryz.func156,Tryz.ntmps156
 go_upto_region 1 with (fail)
 rw [← HW0.out]
 clear HW0
 go_wp2_with (go_at_call 153;refine (HN.out _ HP0.out).mono ?_;rintro e w2 ⟨rfl,hz⟩;have HZ:=Lib.hid hz;clear hz c0)
 go_at_call 171
 refine (t_Clone nm w2 HSZ.out).mono ?_
 rintro e w3 ⟨rfl,hb⟩
 have hz3:=HZ.out.below hb HBP.out
 have HZ3:=Lib.hid hz3
 obtain ⟨v1,v5,L,hr⟩:=hz3.rp.rd
 obtain ⟨a5,c5,rfl⟩:=row_slice hr.cors
 have HR3:=Lib.hid hr
 have c4:w3.cell? ⟨g,4,none⟩=some (.slice a5 L.length c5):=by rw [cell_of_row _ _ 4 _ _ _ hr.own];rfl
 clear hb hz3 hr HZ
 go_wp2_with fail
 go_at_call 172
 refine (HK.out _ _ _ _ _ HZ3.out HR3.out).mono ?_
 rintro e w4 ⟨a6,n6,c6,rfl,⟨u,d4⟩,f4,hz⟩
 have HZ4:=Lib.hid hz
 have e0:(w4.setCell ⟨g,4,none⟩ (.slice a6 n6 c6)).cell? ⟨w.heap.size,0,none⟩=some (.pointer (some ⟨p,0,none⟩)):=by rw [cell_of_row _ _ 0 _ _ _ hz.bx];rfl
 clear hz HZ3 HR3 c4
 go_wp2_with (go_at_call 167;refine (HDN.out _ _ HZ4.out).mono ?_;rintro e w5 ⟨rfl,rfl⟩)
 go_ret
 exact ⟨rfl,HCO.out _ HZ4.out⟩
end Go.Proofs.YtmpljhfinmfnbaaGreatDoor

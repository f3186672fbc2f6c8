/- The proof, part 16: texts that belong together, in one. -/
import Derived.Test.YtmpljhfinmfnbaaGreatDoorQAO
set_option maxRecDepth 100000
set_option maxHeartbeats 20000000
namespace Go.Proofs.YtmpljhfinmfnbaaGreatDoor
open Go.RowKit
set_option linter.unusedVariables false
set_option maxRecDepth 100000
theorem own_set_other {W:World} {b:Nat} {T:TypeId} {cs:Array Value} (h:Own W b T cs) {g o:Nat} (hg:g≠b) (v:Value):Own (W.setCell ⟨g,o,none⟩ v) b T cs:=(Below.heap_setCell W ⟨g,o,none⟩ v b (fun e=>hg e.symm)).trans h
structure P2 (w:World) (B p:Nat) (s:Pst) (g:Nat) (ty:TypeId) (row:Array Value) (W:World):Prop where
 own:Own W p 256 s.row
 dst:Own W g ty row
 keep:Keep (fun k _=>k≠p∧k≠g) w W
 bel:Below B w W
section
variable {w W W':World} {B p g:Nat} {s s':Pst} {ty:TypeId} {row row':Array Value}
theorem P2.trans {w0:World} (h:P2 w0 B p s g ty row w) (k:P2 w B p s' g ty row' W):P2 w0 B p s' g ty row' W:=⟨k.own,k.dst,h.keep.trans k.keep,h.bel.trans k.bel⟩
theorem P2.below (h:P2 w B p s g ty row W) (hb:Below W.heap.size W W') (hB:B≤p):P2 w B p s g ty row W':=⟨h.own.below hb,h.dst.below hb,h.keep.trans (keep_below hb),h.bel.trans (hb.mono (by have:=h.own.lt;omega))⟩
theorem p2_new (h:Own w p 256 s.row) (ho:Own w g ty row):P2 w B p s g ty row w:=⟨h,ho,Keep.refl _ _,Below.refl _ _⟩
theorem Pq.p2 (h:Pq w p s W) (ho:Own w g ty row) (hg:g≠p) (hB:B≤p):P2 w B p s g ty row W:=⟨h.own,h.other ho hg,h.keep.mono fun k o q=>q.1,h.bel.mono hB⟩
theorem P2.store (h:P2 w B p s g ty row W) (hg:g≠p) (hB:B≤g) (o:Nat) (v:Value):P2 w B p s g ty (row.setIfInBounds o v) (W.setCell ⟨g,o,none⟩ v) :=
 ⟨own_set_other h.own hg v,heap_setCell_same W g o _ _ v h.dst,h.keep.setCell (p:=⟨g,o,none⟩) v h.dst (fun q=>q.2 rfl),h.bel.setCell (p:=⟨g,o,none⟩) hB v⟩
theorem P2.other (h:P2 w B p s g ty row W) {k:Nat} {tz:TypeId} {rz:Array Value} (ho:Own w k tz rz) (h1:k≠p) (h2:k≠g):Own W k tz rz:=h.keep.block _ _ ho ⟨h1,h2⟩
end
theorem p_number {w:World} {B p:Nat} {s:Pst} (h:Own w p 256 s.row) (hs:s.rest.size≤4611686018427387904) {g o:Nat} {ty:TypeId} {row:Array Value} {u:Value} (ho:Own w g ty row) (hg:g≠p) (hu:row[o]? = some u) (hB:B≤p) (hB2:B≤g) :
 Calls Tryz.prog 166 #[.pointer (some ⟨p,0,none⟩),.pointer (some ⟨g,o,none⟩)] w fun e w'=>e=.returned (.tuple #[])∧P2 w B p (numS' s).2 g ty (row.setIfInBounds o (.int .i64 (numS' s).1)) w':=by
 have HA:Hid (Calls Tryz.prog 153 #[.pointer (some ⟨p,0,none⟩)] w fun e w'=>e=.returned (.string (nextS s).1)∧Pq w p (nextS s).2 w'):=p_next h hs
 have HZ:Hid (∀ X,Pq w p (nextS s).2 X→Calls Tryz.prog 202 #[.pointer (some ⟨p,0,none⟩),.string (nextS s).1] X fun e w'=>e=.returned (.int .i64 (numS' s).1)∧Pq w p (numS' s).2 w'):=fun X hX=>(p_size _ (by have:=(next_size s).1;omega) hX.own).mono fun _ _ ⟨h1,h2⟩=>⟨h1,hX.trans h2⟩
 have HG:Hid (∀ X t,Pq w p t X→P2 w B p t g ty row X∧X.cell? ⟨g,o,none⟩=some u∧X.frozen? ⟨g,o,none⟩=false):=fun X t hX=>⟨hX.p2 ho hg hB,by rw [cell_of_row _ _ o _ _ _ (hX.other ho hg)];exact hu,own_frozen (hX.other ho hg) o⟩
 have HH:=Lib.hid (And.intro hg hB2)
 generalize nextS s=n at HA HZ
 generalize numS' s=r at HZ ⊢
 obtain ⟨t,s1⟩:=n
 obtain ⟨v,s2⟩:=r
 simp only at HA HZ ⊢
 clear h hs ho hg hu hB hB2
 go_enter Tryz.func166,Tryz.ntmps166
 go_wp2_with (first | (go_at_call 153;refine HA.out.mono ?_;rintro e w2 ⟨rfl,hq⟩;have HQ:=Lib.hid hq;clear hq) | (go_at_call 202;refine (HZ.out _ HQ.out).mono ?_;rintro e w3 ⟨rfl,hq⟩;have HQ3:=Lib.hid hq;obtain ⟨_,d0,d1⟩:=HG.out _ _ hq;clear hq))
 exact bodyPost_end (results_none rfl _ _ _) rfl ⟨rfl,(HG.out _ _ HQ3.out).1.store HH.out.1 HH.out.2 o _⟩
theorem p_word {w:World} {B p:Nat} {s:Pst} (h:Own w p 256 s.row) (hs:s.rest.size≤4611686018427387904) {g o:Nat} {ty:TypeId} {row:Array Value} {u:Value} (ho:Own w g ty row) (hg:g≠p) (hu:row[o]? = some u) (hB:B≤p) (hB2:B≤g) :
 Calls Tryz.prog 169 #[.pointer (some ⟨p,0,none⟩),.pointer (some ⟨g,o,none⟩)] w fun e w'=>e=.returned (.tuple #[])∧P2 w B p (wdS s).2 g ty (row.setIfInBounds o (.int .i64 (wdS s).1)) w':=by
 have HA:Hid (Calls Tryz.prog 153 #[.pointer (some ⟨p,0,none⟩)] w fun e w'=>e=.returned (.string (nextS s).1)∧Pq w p (nextS s).2 w'):=p_next h hs
 have HZ:Hid (∀ X,Pq w p (nextS s).2 X→Calls Tryz.prog 203 #[.pointer (some ⟨p,0,none⟩),.string (nextS s).1] X fun e w'=>e=.returned (.int .i64 (wdS s).1)∧Pq w p (wdS s).2 w'):=fun X hX=>(p_value _ (by have:=(next_size s).1;omega) hX.own).mono fun _ _ ⟨h1,h2⟩=>⟨h1,hX.trans h2⟩
 have HG:Hid (∀ X t,Pq w p t X→P2 w B p t g ty row X∧X.cell? ⟨g,o,none⟩=some u∧X.frozen? ⟨g,o,none⟩=false):=fun X t hX=>⟨hX.p2 ho hg hB,by rw [cell_of_row _ _ o _ _ _ (hX.other ho hg)];exact hu,own_frozen (hX.other ho hg) o⟩
 have HH:=Lib.hid (And.intro hg hB2)
 generalize nextS s=n at HA HZ
 generalize wdS s=r at HZ ⊢
 obtain ⟨t,s1⟩:=n
 obtain ⟨v,s2⟩:=r
 simp only at HA HZ ⊢
 clear h hs ho hg hu hB hB2
 go_enter Tryz.func169,Tryz.ntmps169
 go_wp2_with (first | (go_at_call 153;refine HA.out.mono ?_;rintro e w2 ⟨rfl,hq⟩;have HQ:=Lib.hid hq;clear hq) | (go_at_call 203;refine (HZ.out _ HQ.out).mono ?_;rintro e w3 ⟨rfl,hq⟩;have HQ3:=Lib.hid hq;obtain ⟨_,d0,d1⟩:=HG.out _ _ hq;clear hq))
 exact bodyPost_end (results_none rfl _ _ _) rfl ⟨rfl,(HG.out _ _ HQ3.out).1.store HH.out.1 HH.out.2 o _⟩
def regC (c:UInt8) (s:Pst):Int × Pst:=sizS (behS c s).1 (behS c s).2
theorem p_behind (c:UInt8) {w:World} {B p:Nat} {s:Pst} (h:Own w p 256 s.row) (hs:s.rest.size≤4611686018427387904) {g o:Nat} {ty:TypeId} {row:Array Value} {u:Value} (ho:Own w g ty row) (hg:g≠p) (hu:row[o]? = some u) (hB:B≤p) (hB2:B≤g) :
 Calls Tryz.prog 205 #[.pointer (some ⟨p,0,none⟩),.string ⟨#[c]⟩,.pointer (some ⟨g,o,none⟩)] w fun e w'=>e=.returned (.tuple #[])∧P2 w B p (regC c s).2 g ty (row.setIfInBounds o (.int .i64 (regC c s).1)) w':=by
 have HN:Hid (Calls Tryz.prog 153 #[.pointer (some ⟨p,0,none⟩)] w fun e w'=>e=.returned (.string (nextS s).1)∧Pq w p (nextS s).2 w'):=p_next h hs
 have HC:Hid (∀ X,Calls Tryz.prog 215 #[.string (nextS s).1,.string ⟨#[c]⟩] X fun e w'=>e=.returned (.tuple #[.string (preA (nextS s).1 c).1,.bool (preA (nextS s).1 c).2])∧Below X.heap.size X w'):=fun X=>pre_any _ c (by have:=(next_size s).1;omega) X
 have HZ:Hid (∀ X,Pq w p (behS c s).2 X→Calls Tryz.prog 202 #[.pointer (some ⟨p,0,none⟩),.string (behS c s).1] X fun e w'=>e=.returned (.int .i64 (regC c s).1)∧Pq w p (regC c s).2 w'):=fun X hX=>(p_size _ (by have:=(beh_size c s).1;omega) hX.own).mono fun _ _ ⟨h1,h2⟩=>⟨h1,hX.trans h2⟩
 have HG:Hid (∀ X t,Pq w p t X→P2 w B p t g ty row X∧X.cell? ⟨g,o,none⟩=some u∧X.frozen? ⟨g,o,none⟩=false):=fun X t hX=>⟨hX.p2 ho hg hB,by rw [cell_of_row _ _ o _ _ _ (hX.other ho hg)];exact hu,own_frozen (hX.other ho hg) o⟩
 have HH:=Lib.hid (And.intro hg hB2)
 generalize regC c s=z at HZ ⊢
 unfold behS at HZ
 generalize nextS s=n at HN HC HZ
 obtain ⟨t,s1⟩:=n
 obtain ⟨v,s2⟩:=z
 simp only at HN HC HZ ⊢
 generalize preA t c=r at HC HZ
 obtain ⟨r1,r2⟩:=r
 replace HC:Hid (∀ X,Calls Tryz.prog 215 #[.string t,.string ⟨#[c]⟩] X fun e w'=>e=.returned (.tuple #[.string r1,.bool r2])∧Below X.heap.size X w'):=HC.out
 clear h hs ho hg hu hB hB2
 cases r2 with
 | true =>
   simp only [if_true] at HZ
   go_enter Tryz.func205,Tryz.ntmps205
   go_wp2_with (first | (go_at_call 153;refine HN.out.mono ?_;rintro e w2 ⟨rfl,hq⟩;have HQ:=Lib.hid hq;clear hq) | (go_at_call 215;refine (HC.out _).mono ?_;rintro e w3 ⟨rfl,hb⟩;have HQ3:=Lib.hid (HQ.out.below hb);clear hb) | (go_at_call 202;refine (HZ.out _ HQ3.out).mono ?_;rintro e w4 ⟨rfl,hq⟩;have HQ4:=Lib.hid hq;obtain ⟨_,d0,d1⟩:=HG.out _ _ hq;clear hq))
   exact bodyPost_end (results_none rfl _ _ _) rfl ⟨rfl,(HG.out _ _ HQ4.out).1.store HH.out.1 HH.out.2 o _⟩
 | false =>
   simp only [Bool.false_eq_true,if_false] at HZ
   go_enter Tryz.func205,Tryz.ntmps205
   go_wp2_with (first | (go_at_call 153;refine HN.out.mono ?_;rintro e w2 ⟨rfl,hq⟩;have HQ:=Lib.hid hq;clear hq) | (go_at_call 215;refine (HC.out _).mono ?_;rintro e w3 ⟨rfl,hb⟩;have HQ3:=Lib.hid (HQ.out.below hb);clear hb;obtain ⟨d0,d1,d2,dz⟩:=HQ3.out.cells;have g2:=dz 2) | (go_at_call 202;refine (HZ.out _ HQ3.out.setBad).mono ?_;rintro e w4 ⟨rfl,hq⟩;have HQ4:=Lib.hid hq;obtain ⟨_,e0,e1⟩:=HG.out _ _ hq;clear hq))
   exact bodyPost_end (results_none rfl _ _ _) rfl ⟨rfl,(HG.out _ _ HQ4.out).1.store HH.out.1 HH.out.2 o _⟩
theorem p_done {w:World} {p:Nat} {s:Pst} (h:Own w p 256 s.row):Calls Tryz.prog 167 #[.pointer (some ⟨p,0,none⟩)] w fun e w'=>e=.returned (.bool (!s.more && !s.bad))∧w=w':=by
 obtain ⟨d0,d1,d2,dz⟩:=(pq_new h).cells
 clear h dz
 obtain ⟨rest,more,bad⟩:=s
 simp only at d0 d1 d2 ⊢
 cases more <;> cases bad
 all_goals
  go_enter Tryz.func167,Tryz.ntmps167
  go_wp2
  go_ret
  exact ⟨rfl,rfl⟩
theorem p_more {w:World} {p:Nat} {s:Pst} (h:Own w p 256 s.row):Calls Tryz.prog 168 #[.pointer (some ⟨p,0,none⟩)] w fun e w'=>e=.returned (.bool s.more)∧w=w':=by
 obtain ⟨d0,d1,d2,dz⟩:=(pq_new h).cells
 clear h dz
 go_enter Tryz.func168,Tryz.ntmps168
 go_wp2
 go_ret
 exact ⟨rfl,rfl⟩
theorem p_fail {w:World} {p:Nat} {s:Pst} (h:Own w p 256 s.row):Calls Tryz.prog 206 #[.pointer (some ⟨p,0,none⟩)] w fun e w'=>e=.returned (.tuple #[])∧Pq w p { s with bad:=true } w':=by
 have HQ:=Lib.hid (pq_new h)
 obtain ⟨d0,d1,d2,dz⟩:=HQ.out.cells
 have g2:=dz 2
 clear h dz
 go_enter Tryz.func206,Tryz.ntmps206
 go_wp2
 exact bodyPost_end (results_none rfl _ _ _) rfl ⟨rfl,HQ.out.setBad⟩
theorem p_New (s:ByteArray) (w:World):Calls Tryz.prog 152 #[.string s] w fun e w'=>e=.returned (.pointer (some ⟨w.heap.size,0,none⟩))∧w'=w.alloc (.cells #[.string s,.bool true,.bool false] 256):=by
 go_enter Tryz.func152,Tryz.ntmps152
 go_wp2
 go_ret
 exact ⟨rfl,rfl⟩
theorem p_register {w:World} {B p:Nat} {s:Pst} (h:Own w p 256 s.row) (hs:s.rest.size≤4611686018427387904) {g o:Nat} {ty:TypeId} {row:Array Value} {u:Value} (ho:Own w g ty row) (hg:g≠p) (hu:row[o]? = some u) (hB:B≤p) (hB2:B≤g) :
 Calls Tryz.prog 174 #[.agg #[.pointer (some ⟨p,0,none⟩)],.pointer (some ⟨g,o,none⟩)] w fun e w'=>e=.returned (.tuple #[])∧P2 w B p (regS' s).2 g ty (row.setIfInBounds o (.int .i64 (regS' s).1)) w':=by
 have q0:P2 w B p s g ty row (w.alloc (.cells #[.pointer (some ⟨p,0,none⟩)] 235)):=(p2_new h ho).below ((Below.refl _ w).alloc (Nat.le_refl _) _) hB
 have O0:=Own.new w 235 #[.pointer (some ⟨p,0,none⟩)]
 obtain ⟨W0,hW0⟩:∃ W,W=w.alloc (.cells #[.pointer (some ⟨p,0,none⟩)] 235):=⟨_,rfl⟩
 rw [← hW0] at q0 O0
 have HW0:=Lib.hid hW0
 have HA:Hid (Calls Tryz.prog 205 #[.pointer (some ⟨p,0,none⟩),.string ⟨#[114]⟩,.pointer (some ⟨g,o,none⟩)] W0 fun e w'=>e=.returned (.tuple #[])∧P2 w B p (regS' s).2 g ty (row.setIfInBounds o (.int .i64 (regS' s).1)) w'):=(p_behind 114 q0.own hs q0.dst hg hu hB hB2).mono fun _ _ ⟨h1,h2⟩=>⟨h1,q0.trans h2⟩
 have c0:W0.cell? ⟨w.heap.size,0,none⟩=some (.pointer (some ⟨p,0,none⟩)):=by rw [cell_of_row _ _ 0 _ _ _ O0];rfl
 generalize regS' s=z at HA ⊢
 clear h hs ho hg hu hB hB2 q0 O0 hW0
 go_enter Tryz.func174,Tryz.ntmps174
 go_upto_region 1 with (fail)
 rw [← HW0.out]
 clear HW0
 go_wp2_with (go_at_call 205;refine HA.out.mono ?_;rintro e w2 ⟨rfl,hq⟩;have HQ:=Lib.hid hq;clear hq)
 exact bodyPost_end (results_none rfl _ _ _) rfl ⟨rfl,HQ.out⟩
theorem P2.bad {w W W':World} {B p g:Nat} {s:Pst} {ty:TypeId} {row:Array Value} (h:P2 w B p s g ty row W) (hg:g≠p) (hB:B≤p) (k:Pq W p { s with bad:=true } W'):P2 w B p { s with bad:=true } g ty row W':=h.trans (k.p2 h.dst hg hB)
theorem p_origin {w:World} {B p:Nat} {s:Pst} (h:Own w p 256 s.row) (hs:s.rest.size≤4611686018427387904) {g o:Nat} {ty:TypeId} {row:Array Value} {u:Value} (ho:Own w g ty row) (hg:g≠p) (hu:row[o]? = some u) (hB:B≤p) (hB2:B≤g) :
 Calls Tryz.prog 175 #[.agg #[.pointer (some ⟨p,0,none⟩)],.pointer (some ⟨g,o,none⟩)] w fun e w'=>e=.returned (.tuple #[])∧P2 w B p (oriS s).2 g ty (row.setIfInBounds o (.int .i64 (oriS s).1)) w':=by
 have q0:P2 w B p s g ty row (w.alloc (.cells #[.pointer (some ⟨p,0,none⟩)] 235)):=(p2_new h ho).below ((Below.refl _ w).alloc (Nat.le_refl _) _) hB
 have O0:=Own.new w 235 #[.pointer (some ⟨p,0,none⟩)]
 have n1:w.heap.size≠p:=by have:=h.lt;omega
 have n2:w.heap.size≠g:=by have:=ho.lt;omega
 have hol:o<row.size:=(Array.getElem?_eq_some_iff.1 hu).1
 obtain ⟨W0,hW0⟩:∃ W,W=w.alloc (.cells #[.pointer (some ⟨p,0,none⟩)] 235):=⟨_,rfl⟩
 rw [← hW0] at q0 O0
 have HW0:=Lib.hid hW0
 have HA:Hid (Calls Tryz.prog 205 #[.pointer (some ⟨p,0,none⟩),.string ⟨#[64]⟩,.pointer (some ⟨g,o,none⟩)] W0 fun e w'=>e=.returned (.tuple #[])∧P2 w B p (regC 64 s).2 g ty (row.setIfInBounds o (.int .i64 (regC 64 s).1)) w'∧w'.cell? ⟨g,o,none⟩=some (.int .i64 (regC 64 s).1)∧w'.cell? ⟨w.heap.size,0,none⟩=some (.pointer (some ⟨p,0,none⟩))):=(p_behind 64 q0.own hs q0.dst hg hu hB hB2).mono fun _ W ⟨h1,h2⟩=>⟨h1,q0.trans h2,by rw [cell_of_row _ _ o _ _ _ h2.dst,Array.getElem?_setIfInBounds_self_of_lt hol],by rw [cell_of_row _ _ 0 _ _ _ (h2.other O0 n1 n2)];rfl⟩
 have c0:W0.cell? ⟨w.heap.size,0,none⟩=some (.pointer (some ⟨p,0,none⟩)):=by rw [cell_of_row _ _ 0 _ _ _ O0];rfl
 have HF:Hid (∀ (t:Pst) (r:Array Value) X,P2 w B p t g ty r X→Calls Tryz.prog 206 #[.pointer (some ⟨p,0,none⟩)] X fun e w'=>e=.returned (.tuple #[])∧P2 w B p { t with bad:=true } g ty r w'):=fun t r X hX=>(p_fail hX.own).mono fun _ _ ⟨h1,h2⟩=>⟨h1,hX.bad hg hB h2⟩
 have hz:oriS s=((regC 64 s).1,if (regC 64 s).1=0 then { (regC 64 s).2 with bad:=true } else (regC 64 s).2):=rfl
 rw [hz]
 generalize regC 64 s=z at HA ⊢
 obtain ⟨v,s2⟩:=z
 simp only at HA ⊢
 clear h hs ho hg hu hB hB2 q0 O0 hW0 n1 n2 hol hz
 by_cases hv:v=0
 · subst hv
   rw [if_pos rfl]
   go_enter Tryz.func175,Tryz.ntmps175
   go_upto_region 1 with (fail)
   rw [← HW0.out]
   clear HW0
   go_wp2_with (first | (go_at_call 205;refine HA.out.mono ?_;rintro e w2 ⟨rfl,hq,d0,d1⟩;have HQ:=Lib.hid hq;clear hq c0) | (go_at_call 206;refine (HF.out _ _ _ HQ.out).mono ?_;rintro e w3 ⟨rfl,hq⟩;have HQ3:=Lib.hid hq;clear hq))
   exact bodyPost_end (results_none rfl _ _ _) rfl ⟨rfl,HQ3.out⟩
 · rw [if_neg hv]
   have q:(v==0)=false:=int_f hv
   go_enter Tryz.func175,Tryz.ntmps175
   go_upto_region 1 with (fail)
   rw [← HW0.out]
   clear HW0
   go_wp2_with (go_at_call 205;refine HA.out.mono ?_;rintro e w2 ⟨rfl,hq,d0,d1⟩;have HQ:=Lib.hid hq;clear hq c0)
   exact bodyPost_end (results_none rfl _ _ _) rfl ⟨rfl,HQ.out⟩
open Go.RowKit
set_option linter.unusedVariables false
set_option maxRecDepth 100000
theorem results_cell_tmp {P:Program} {fn:Func} {p t:Tmp} {ty:TypeId} (h:fn.results=#[.cell p ty,.tmp t]) (tmps:Array Value) (w:World) (g:Nat) (t0:TypeId) (cs:Array Value) (fr:Nat × Nat) (d:TypeDesc)
 (hp:tmps.getD p undef=.pointer (some ⟨g,0,none⟩)) (hg:w.heap[g]? = some (.cells cs t0 fr))
 (hu:P.underlying ty=some d) (hd:(match d with | .struct _ | .array _ _=>true | _=>false)=true) (hi:(P.info? ty).map (·.size)=some cs.size) :
 (results fn tmps).run P w=.ok (.tuple #[.agg cs,tmps.getD t undef]) w:=by
 have hp':tmps[p]?.getD undef=.pointer (some ⟨g,0,none⟩):=by simpa using hp
 simp [results,h,hp',asAddr,run_loadVar_row w g t0 ty cs fr d hg hu hd hi]
theorem p_ret2 {T:TypeId} {n:Nat} (hT:RowT T n) {fn:Func} {p t:Tmp} {R:Ending→World→Prop} (hr:fn.results=#[.cell p T,.tmp t]) {a:Act} {w:World} {g:Nat} {cs:Array Value} (hg:Own w g T cs) (hp:a.tmps.getD p undef=.pointer (some ⟨g,0,none⟩)) (hd:a.defers=[]) (hn:cs.size=n) {v:Value} (hv:a.tmps.getD t undef=v)
 (h:R (.returned (.tuple #[.agg cs,v])) w):bodyPost Tryz.prog fn R .ret a w:=by
 obtain ⟨d,h1,h2,h3⟩:=hT
 subst hv
 exact bodyPost_ret (results_cell_tmp hr _ _ g T cs (0,0) d hp hg h1 (by cases d <;> first | rfl | cases h2) (by rw [h3,hn])) hd h
def fndF (L:List (List UInt8)) (s:List UInt8):Nat→Nat→Option Nat
 | 0,_=>none
 | f+1,j=>if L.getD j []=s then some j else fndF L s f (j+1)
def insK (k o:Int):Ins:=⟨k,o,0,0,0,0,0,0,0⟩
def begS (s:List UInt8):Ins × Bool:=if s=[] then (insK 0 0,false) else match fndF formTx s 11 0 with
 | some k=>(insK k 0,true)
 | none => match fndF opTx s 19 0 with
   | some o=>(insK 2 o,true)
   | none=>(insK 0 0,false)
def begE (r:Ins × Bool):Ending:=.returned (.tuple #[insV r.1,.bool r.2])
theorem fnd_lt {L:List (List UInt8)} {s:List UInt8} : ∀ {f j k:Nat},fndF L s f j=some k→k<j+f
 | 0,j,k,h=>by cases h
 | f + 1, j, k, h => by
   unfold fndF at h
   split at h
   · injection h with h;omega
   · have:=fnd_lt h;omega
theorem eq_text {l:List UInt8} {s:ByteArray} (h:l=s.data.toList):((⟨l.toArray⟩:ByteArray).toList==s.toList)=true:=bytes_eqT (by subst h;rfl)
theorem ne_text {l:List UInt8} {s:ByteArray} (h:l≠s.data.toList):((⟨l.toArray⟩:ByteArray).toList==s.toList)=false:=bytes_eqF fun e=>h (by rw [← e])
section
variable {P:Program}
theorem run_loadVar_cells (w:World) (g:Nat) (ty:TypeId) (cs:Array Value) (d:TypeDesc) (hc:∀ (j:Nat) (v:Value),cs[j]? = some v→w.cell? ⟨g,j,none⟩=some v)
 (hu:P.underlying ty=some d) (hd:(match d with | .struct _ | .array _ _=>true | _=>false)=true) (hi:(P.info? ty).map (·.size)=some cs.size) :
 (loadVar ty ⟨g,0,none⟩).run P w=.ok (.agg cs) w:=by
 have hl:(loadCells ⟨g,0,none⟩ cs.toList.length).run P w=.ok cs.toList.toArray w :=
  run_loadCells_list (P:=P) w ⟨g,0,none⟩ cs.toList (fun j v hv=>by
   have hadd:(⟨g,0,none⟩:Addr).add j=⟨g,j,none⟩:=by unfold Addr.add;split <;> simp_all
   rw [hadd]
   exact hc j v (by simpa using hv))
 cases hq:P.info? ty with
 | none=>simp [hq] at hi
 | some i =>
   have hs:i.size=cs.size:=by simpa [hq] using hi
   have hagg:(isAgg ty).run P w=.ok true w:=by
    unfold isAgg
    rw [Sem.run_bind,run_underlying hu w]
    cases d <;> simp_all
   simp only [Array.length_toList,Array.toArray_toList] at hl
   simp [loadVar,Sem.run_bind,hagg,sizeOf,typeInfo,hq,hs,hl]
theorem ldc {ops:Array Oper} {rest:List Oper} {o:Oper} {a:Act} {w:World} {Q:Exit→Act→World→Prop} {T:TypeId} {n:Nat} (hT:RowT T n) (hgd:o.guard=none) {x:Operand} (ho:o.op=.load T x) {g:Nat} (hx:a.eval x=.pointer (some ⟨g,0,none⟩)) {cs:Array Value} (hc:∀ (j:Nat) (v:Value),cs[j]? = some v→w.cell? ⟨g,j,none⟩=some v) (hn:cs.size=n)
 (h:wpList Tryz.prog ops Q rest (a.put o.dst (.agg cs)) w):wpList Tryz.prog ops Q (o::rest) a w:=by
 obtain ⟨d,h1,h2,h3⟩:=hT
 refine wpList_plain hgd fun _ hK=>?_
 have hr:=run_loadVar_cells (P:=Tryz.prog) w g T cs d hc h1 (by cases d <;> first | rfl | cases h2) (by rw [h3,hn])
 unfold Oper.wp execOp
 simp only [ho,hx,Instr.loadAt,Instr.sureAddr,Sem.run_bind,Sem.run_pure,Result.andThen_ok,hr]
 exact hK _ _ h
end
theorem rowF:RowT 227 22:=⟨_,Tryz.underlying227,rfl,by kernel_rfl⟩
theorem rowW:RowT 253 19:=⟨_,Tryz.underlying253,rfl,by kernel_rfl⟩
theorem form_cells {W:World} (T:TgT W) (j:Nat) (v:Value) (h:(#[.string ⟨#[]⟩,.int .u64 0,.string ⟨#[115,101,116]⟩,.int .u64 66,.string ⟨#[]⟩,.int .u64 15,.string ⟨#[108,111,97,100]⟩,.int .u64 18,.string ⟨#[115,116,111,114,101]⟩,.int .u64 20,.string ⟨#[115,119,97,112]⟩,.int .u64 18,.string ⟨#[102,101,110,99,101]⟩,.int .u64 0,.string ⟨#[112,114,105,110,116]⟩,.int .u64 4,.string ⟨#[106,117,109,112]⟩,.int .u64 32,.string ⟨#[122,101,114,111]⟩,.int .u64 36,.string ⟨#[104,97,108,116]⟩,.int .u64 0]:Array Value)[j]? = some v):W.cell? ⟨0,j,none⟩=some v:=by
 match j,h with
 | 0,h=>cases h;exact T.fw 0 (by decide)
 | 1,h=>cases h;exact T.fu 0 (by decide)
 | 2,h=>cases h;exact T.fw 1 (by decide)
 | 3,h=>cases h;exact T.fu 1 (by decide)
 | 4,h=>cases h;exact T.fw 2 (by decide)
 | 5,h=>cases h;exact T.fu 2 (by decide)
 | 6,h=>cases h;exact T.fw 3 (by decide)
 | 7,h=>cases h;exact T.fu 3 (by decide)
 | 8,h=>cases h;exact T.fw 4 (by decide)
 | 9,h=>cases h;exact T.fu 4 (by decide)
 | 10,h=>cases h;exact T.fw 5 (by decide)
 | 11,h=>cases h;exact T.fu 5 (by decide)
 | 12,h=>cases h;exact T.fw 6 (by decide)
 | 13,h=>cases h;exact T.fu 6 (by decide)
 | 14,h=>cases h;exact T.fw 7 (by decide)
 | 15,h=>cases h;exact T.fu 7 (by decide)
 | 16,h=>cases h;exact T.fw 8 (by decide)
 | 17,h=>cases h;exact T.fu 8 (by decide)
 | 18,h=>cases h;exact T.fw 9 (by decide)
 | 19,h=>cases h;exact T.fu 9 (by decide)
 | 20,h=>cases h;exact T.fw 10 (by decide)
 | 21,h=>cases h;exact T.fu 10 (by decide)
 | j+22,h=>simp at h
theorem op_cells {W:World} (T:TgT W) (j:Nat) (v:Value) (h:(#[.string ⟨#[]⟩,.string ⟨#[97,100,100]⟩,.string ⟨#[115,117,98]⟩,.string ⟨#[109,117,108]⟩,.string ⟨#[100,105,118]⟩,.string ⟨#[114,101,109]⟩,.string ⟨#[97,110,100]⟩,.string ⟨#[111,114]⟩,.string ⟨#[120,111,114]⟩,.string ⟨#[115,104,108]⟩,.string ⟨#[115,104,114]⟩,.string ⟨#[105,115]⟩,.string ⟨#[105,115,110,111,116]⟩,.string ⟨#[108,101,115,115]⟩,.string ⟨#[109,111,115,116]⟩,.string ⟨#[97,98,111,118,101]⟩,.string ⟨#[108,101,97,115,116]⟩,.string ⟨#[109,105,110,117,115]⟩,.string ⟨#[110,111,116]⟩]:Array Value)[j]? = some v):W.cell? ⟨2,j,none⟩=some v:=by
 match j,h with
 | 0,h=>cases h;exact T.ow 0 (by decide)
 | 1,h=>cases h;exact T.ow 1 (by decide)
 | 2,h=>cases h;exact T.ow 2 (by decide)
 | 3,h=>cases h;exact T.ow 3 (by decide)
 | 4,h=>cases h;exact T.ow 4 (by decide)
 | 5,h=>cases h;exact T.ow 5 (by decide)
 | 6,h=>cases h;exact T.ow 6 (by decide)
 | 7,h=>cases h;exact T.ow 7 (by decide)
 | 8,h=>cases h;exact T.ow 8 (by decide)
 | 9,h=>cases h;exact T.ow 9 (by decide)
 | 10,h=>cases h;exact T.ow 10 (by decide)
 | 11,h=>cases h;exact T.ow 11 (by decide)
 | 12,h=>cases h;exact T.ow 12 (by decide)
 | 13,h=>cases h;exact T.ow 13 (by decide)
 | 14,h=>cases h;exact T.ow 14 (by decide)
 | 15,h=>cases h;exact T.ow 15 (by decide)
 | 16,h=>cases h;exact T.ow 16 (by decide)
 | 17,h=>cases h;exact T.ow 17 (by decide)
 | 18,h=>cases h;exact T.ow 18 (by decide)
 | j+19,h=>simp at h
theorem idx_form (X:World) (j:Nat) (hj:j<11):(Instr.index 227 (.agg #[.string ⟨#[]⟩,.int .u64 0,.string ⟨#[115,101,116]⟩,.int .u64 66,.string ⟨#[]⟩,.int .u64 15,.string ⟨#[108,111,97,100]⟩,.int .u64 18,.string ⟨#[115,116,111,114,101]⟩,.int .u64 20,.string ⟨#[115,119,97,112]⟩,.int .u64 18,.string ⟨#[102,101,110,99,101]⟩,.int .u64 0,.string ⟨#[112,114,105,110,116]⟩,.int .u64 4,.string ⟨#[106,117,109,112]⟩,.int .u64 32,.string ⟨#[122,101,114,111]⟩,.int .u64 36,.string ⟨#[104,97,108,116]⟩,.int .u64 0]) (.int .i64 (j:Int))).run Tryz.prog X=.ok (.agg #[.string ⟨(formTx.getD j []).toArray⟩,.int .u64 (formU j)]) X:=by
 match j,hj with
 | 0,_=>rfl
 | 1,_=>rfl
 | 2,_=>rfl
 | 3,_=>rfl
 | 4,_=>rfl
 | 5,_=>rfl
 | 6,_=>rfl
 | 7,_=>rfl
 | 8,_=>rfl
 | 9,_=>rfl
 | 10,_=>rfl
 | j+11,h=>omega
theorem idx_op (X:World) (j:Nat) (hj:j<19):(Instr.index 253 (.agg #[.string ⟨#[]⟩,.string ⟨#[97,100,100]⟩,.string ⟨#[115,117,98]⟩,.string ⟨#[109,117,108]⟩,.string ⟨#[100,105,118]⟩,.string ⟨#[114,101,109]⟩,.string ⟨#[97,110,100]⟩,.string ⟨#[111,114]⟩,.string ⟨#[120,111,114]⟩,.string ⟨#[115,104,108]⟩,.string ⟨#[115,104,114]⟩,.string ⟨#[105,115]⟩,.string ⟨#[105,115,110,111,116]⟩,.string ⟨#[108,101,115,115]⟩,.string ⟨#[109,111,115,116]⟩,.string ⟨#[97,98,111,118,101]⟩,.string ⟨#[108,101,97,115,116]⟩,.string ⟨#[109,105,110,117,115]⟩,.string ⟨#[110,111,116]⟩]) (.int .i64 (j:Int))).run Tryz.prog X=.ok (.string ⟨(opTx.getD j []).toArray⟩) X:=by
 match j,hj with
 | 0,_=>rfl
 | 1,_=>rfl
 | 2,_=>rfl
 | 3,_=>rfl
 | 4,_=>rfl
 | 5,_=>rfl
 | 6,_=>rfl
 | 7,_=>rfl
 | 8,_=>rfl
 | 9,_=>rfl
 | 10,_=>rfl
 | 11,_=>rfl
 | 12,_=>rfl
 | 13,_=>rfl
 | 14,_=>rfl
 | 15,_=>rfl
 | 16,_=>rfl
 | 17,_=>rfl
 | 18,_=>rfl
 | j+19,h=>omega
end Go.Proofs.YtmpljhfinmfnbaaGreatDoor

/- The proof, part 26: texts that belong together, in one. -/
import Derived.Test.YtmpljhfinmfnbaaGreatDoorQAY
import Derived.Test.YtmpljhfinmfnbaaGreatDoorQAJ
import Derived.Test.YtmpljhfinmfnbaaGreatDoorQAR
import Derived.Lib.BufferRead
import Derived.Laws.IdiomStrings
set_option maxRecDepth 100000
set_option maxHeartbeats 20000000
namespace Go.Proofs.YtmpljhfinmfnbaaGreatDoor
open Go.RowKit
set_option linter.unusedVariables false
set_option maxRecDepth 100000
theorem results_cell_tmp2 {P:Program} {fn:Func} {p t u:Tmp} {ty:TypeId} (h:fn.results=#[.cell p ty,.tmp t,.tmp u]) (tmps:Array Value) (w:World) (g:Nat) (t0:TypeId) (cs:Array Value) (fr:Nat × Nat) (d:TypeDesc)
 (hp:tmps.getD p undef=.pointer (some ⟨g,0,none⟩)) (hg:w.heap[g]? = some (.cells cs t0 fr))
 (hu:P.underlying ty=some d) (hd:(match d with | .struct _ | .array _ _=>true | _=>false)=true) (hi:(P.info? ty).map (·.size)=some cs.size) :
 (results fn tmps).run P w=.ok (.tuple #[.agg cs,tmps.getD t undef,tmps.getD u undef]) w:=by
 have hp':tmps[p]?.getD undef=.pointer (some ⟨g,0,none⟩):=by simpa using hp
 simp [results,h,hp',asAddr,run_loadVar_row w g t0 ty cs fr d hg hu hd hi]
theorem p_ret3 {T:TypeId} {n:Nat} (hT:RowT T n) {fn:Func} {p t u:Tmp} {R:Ending→World→Prop} (hr:fn.results=#[.cell p T,.tmp t,.tmp u]) {a:Act} {w:World} {g:Nat} {cs:Array Value} (hg:Own w g T cs) (hp:a.tmps.getD p undef=.pointer (some ⟨g,0,none⟩)) (hd:a.defers=[]) (hn:cs.size=n) {v x:Value} (hv:a.tmps.getD t undef=v) (hx:a.tmps.getD u undef=x)
 (h:R (.returned (.tuple #[.agg cs,v,x])) w):bodyPost Tryz.prog fn R .ret a w:=by
 obtain ⟨d,h1,h2,h3⟩:=hT
 subst hv hx
 exact bodyPost_ret (results_cell_tmp2 hr _ _ g T cs (0,0) d hp hg h1 (by cases d <;> first | rfl | cases h2) (by rw [h3,hn])) hd h
structure RdV (B:Nat) (o:Ob) (v1 v5:Value) (L:List (Cor × Value)) (W:World):Prop where
 mem:W.ownsRow B 2 1 v1 o.mem.length (o.mem.map fun x=>.int .i64 x)
 fst:L.map Prod.fst=o.cores
 cors:W.ownsRow B 70 2 v5 L.length (flatC L)
 codes:RdL B L W
def ObOwn (B:Nat) (o:Ob) (v:Value) (W:World):Prop:=∃ v1 v5 L,v=.agg #[v1,.int .i64 o.sh,.int .i64 o.lk,.int .i64 o.bf,v5]∧RdV B o v1 v5 L W
theorem RdV.obA {W:World} {B:Nat} {o:Ob} {v1 v5:Value} {L:List (Cor × Value)} (h:RdV B o v1 v5 L W):obA W o (.agg #[v1,.int .i64 o.sh,.int .i64 o.lk,.int .i64 o.bf,v5]):=by
 obtain ⟨a1,c1,rfl,h1⟩:=row_ints h.mem
 have hlen:o.cores.length=L.length:=by rw [← h.fst,List.length_map]
 obtain ⟨a5,c5,rfl⟩:=row_slice h.cors
 refine ⟨a1,c1,a5,c5,by rw [obV,hlen],h1,?_⟩
 by_cases h0:L=[]
 · left
   rw [← h.fst,h0]
   rfl
 · obtain ⟨gb, cap, e, _, h2⟩ := row_at h.cors (List.length_pos_iff.2 h0)
   right
   injection e with e1 e2 e3
   refine ⟨gb,0,e1,fun j c hj=>?_⟩
   rw [← h.fst,List.getElem?_map] at hj
   obtain ⟨x,hx,rfl⟩:=Option.map_eq_some_iff.1 hj
   obtain ⟨f1,f2⟩:=flatC_get L j x hx
   obtain ⟨a2,c2,e4,h4⟩:=row_insAt (h.codes.rows x (List.mem_of_getElem? hx))
   rw [Nat.zero_add]
   exact ⟨h2 _ _ f1,a2,c2,by rw [h2 _ _ f2,e4],h4⟩
theorem RdV.keep {W W':World} {B p:Nat} {o:Ob} {v1 v5:Value} {L:List (Cor × Value)} (h:RdV B o v1 v5 L W) {ty:TypeId} {row:Array Value} (hp:Own W p ty row) (t1:(2==ty)=false) (t2:(70==ty)=false) (t3:(75==ty)=false) (hk:Keep (fun k _=>k≠p) W W'):RdV B o v1 v5 L W' :=
 ⟨row_keep h.mem (row_apart h.mem hp t1) hk,h.fst,row_keep h.cors (row_apart h.cors hp t2) hk,h.codes.keep hp t3 hk⟩
theorem RdL.mono {B B':Nat} {L:List (Cor × Value)} {W:World} (h:RdL B L W) (hb:B'≤B):RdL B' L W:=⟨fun x hx=>row_mono (h.rows x hx) hb,fun L' x e=>by
 obtain ⟨bl,h1,h2,h3,h4⟩:=h.last L' x e
 exact ⟨bl,Nat.le_trans hb h1,h2,h3,h4⟩⟩
theorem RdS.v {B B' g:Nat} {o:Ob} {v1 v5:Value} {L:List (Cor × Value)} {W:World} (h:RdS B g o v1 v5 L W) (hb:B'≤B):RdV B' o v1 v5 L W:=⟨row_mono h.mem hb,h.fst,row_mono h.cors hb,h.codes.mono hb⟩
theorem rdv_zero (B:Nat) (W:World):RdV B zOb (.slice none 0 0) (.slice none 0 0) [] W:=⟨World.ownsRow_nil _ _ _ _,rfl,World.ownsRow_nil _ _ _ _,⟨fun x hx=>by simp at hx,fun L' x e=>by simp at e⟩⟩
theorem ObOwn.obA {W:World} {B:Nat} {o:Ob} {v:Value} (h:ObOwn B o v W):obA W o v:=by
 obtain ⟨v1,v5,L,rfl,h⟩:=h
 exact h.obA
theorem keep_setRow (W:World) (g:Nat) (cs:Array Value):Keep (fun k _=>k≠g) W (W.setRow g cs):=⟨rfl,rfl,rfl,by rw [size_setRow];exact Nat.le_refl _,fun k o hk hs=>(setRow_other cs hs).trans hk⟩
def parO (s:ByteArray):Ob × Int × Int :=
 if 16777216<s.size then (zOb,4,0)
 else if (txS s (s.size+2) 0 0 zOb).1.2=true then
  (if (chkO (txS s (s.size+2) 0 0 zOb).2).1=0 then ((txS s (s.size+2) 0 0 zOb).2,0,0) else (zOb,(chkO (txS s (s.size+2) 0 0 zOb).2).1,0))
 else (zOb,161,(txS s (s.size+2) 0 0 zOb).1.1)
def ParP (w:World) (r:Ob × Int × Int) (e:Ending) (w':World):Prop:=∃ v,e=.returned (.tuple #[v,.int .i64 r.2.1,.int .i64 r.2.2])∧ObOwn w.heap.size r.1 v w'∧FitT r.1∧Below w.heap.size w w'
theorem row_cellsO {W:World} {g:Nat} {T:TypeId} {cs:Array Value} (h:Own W g T cs) (j:Nat) (v:Value) (hj:cs[j]? = some v):W.cell? ⟨g,j,none⟩=some v:=by
 rw [cell_of_row _ _ j _ _ _ h]
 exact hj
theorem t_Parse (s:ByteArray) (w:World) (HT:TgT w):Calls Tryz.prog 36 #[.string s] w (ParP w (parO s)):=by
 have al0:=(Below.refl _ w).alloc (Nat.le_refl _) (.cells #[.slice none 0 0,.int .i64 0,.int .i64 0,.int .i64 0,.slice none 0 0] 25)
 have O0:=Own.new w 25 #[.slice none 0 0,.int .i64 0,.int .i64 0,.int .i64 0,.slice none 0 0]
 obtain ⟨W0,hW0⟩:∃ W,W=w.alloc (.cells #[.slice none 0 0,.int .i64 0,.int .i64 0,.int .i64 0,.slice none 0 0] 25):=⟨_,rfl⟩
 rw [← hW0] at al0 O0
 have HW0:=Lib.hid hW0
 have HO0:=Lib.hid O0
 have HB0:=Lib.hid al0
 have hT0:∀ X,Below W0.heap.size W0 X→TgT X:=fun X hX=>HT.below (al0.trans (hX.mono al0.size))
 clear hW0
 unfold parO
 by_cases hs:16777216<s.size
 · rw [if_pos hs]
   have hs':(16777216:Int)<(s.size:Int):=by omega
   clear hs HT hT0 al0
   go_enter Tryz.func36,Tryz.ntmps36
   go_upto_region 1 with fail
   rw [← HW0.out]
   clear HW0
   go_wp2_with (refine st rowO rfl rfl O0 rfl rfl (by rfl) (by rfl) (by kernel_rfl) ?_)
   refine p_ret3 rowO rfl (HO0.out.row _) rfl rfl rfl rfl rfl ?_
   exact ⟨_,rfl,⟨_,_,_,rfl,rdv_zero _ _⟩,fit_zero,Below.of_row HB0.out (Nat.le_refl _) _⟩
 rw [if_neg hs]
 have hs':s.size≤16777216:=by omega
 have hO1:=Own.new W0 166 #[.slice none 0 0,.int .i64 0,.int .i64 0,.int .i64 0,.slice none 0 0]
 have al1:=(Below.refl _ W0).alloc (Nat.le_refl _) (.cells #[.slice none 0 0,.int .i64 0,.int .i64 0,.int .i64 0,.slice none 0 0] 166)
 obtain ⟨g,hg⟩:∃ g,g=W0.heap.size:=⟨_,rfl⟩
 have hwg:w.heap.size<g:=by have:=O0.lt;omega
 have hg1:Rg W0 W0.heap.size g zOb (W0.alloc (.cells #[.slice none 0 0,.int .i64 0,.int .i64 0,.int .i64 0,.slice none 0 0] 166)):=by
  have hz:=rdv_zero W0.heap.size (W0.alloc (.cells #[.slice none 0 0,.int .i64 0,.int .i64 0,.int .i64 0,.slice none 0 0] 166))
  rw [hg]
  exact ⟨⟨_,_,_,⟨hO1,hz.mem,hz.fst,hz.cors,hz.codes⟩⟩,al1⟩
 have HOB:Hid (Calls Tryz.prog 81 #[.pointer (some ⟨g,0,none⟩),.string s] (W0.alloc (.cells #[.slice none 0 0,.int .i64 0,.int .i64 0,.int .i64 0,.slice none 0 0] 166)) fun e w'=>e=.returned (.tuple #[.int .i64 (txS s (s.size+2) 0 0 zOb).1.1,.bool (txS s (s.size+2) 0 0 zOb).1.2])∧Rg W0 W0.heap.size g (txS s (s.size+2) 0 0 zOb).2 w'∧FitT (txS s (s.size+2) 0 0 zOb).2):=t_object s hs' zOb fit_zero hg1 (by omega) hT0
 have HCK:Hid (∀ X o v,FitT o→obA X o v→Below W0.heap.size W0 X→Calls Tryz.prog 23 #[v] X fun e w'=>e=chkE (chkO o)∧Below X.heap.size X w'):=fun X o v h1 h2 h3=>check_any o h1.rg h1.fit h2 (hT0 X h3)
 generalize txS s (s.size+2) 0 0 zOb=F at HOB ⊢
 obtain ⟨⟨at',ok⟩,o⟩:=F
 simp only at HOB ⊢
 obtain ⟨W1,hW1⟩:∃ W,W=W0.alloc (.cells #[.slice none 0 0,.int .i64 0,.int .i64 0,.int .i64 0,.slice none 0 0] 166):=⟨_,rfl⟩
 rw [← hW1] at HOB
 have HW1:=Lib.hid hW1
 have HG:=Lib.hid hg
 have HWG:=Lib.hid hwg
 have HRES:Hid (∀ X,Below W0.heap.size W0 X→Own X w.heap.size 25 #[.slice none 0 0,.int .i64 0,.int .i64 0,.int .i64 0,.slice none 0 0]):=fun X hX=>hX.block _ HO0.out.lt |>.trans HO0.out
 have HBB:Hid (∀ X,Below W0.heap.size W0 X→Below w.heap.size w X):=fun X hX=>HB0.out.trans (hX.mono HB0.out.size)
 clear hs HT hT0 al0 al1 hO1 hg1 hW1 hg hwg O0
 cases ok with
 | false =>
   simp only [Bool.false_eq_true,if_false]
   go_enter Tryz.func36,Tryz.ntmps36
   go_upto_region 1 with fail
   rw [← HW0.out]
   clear HW0
   go_upto_region 4 with fail
   rw [← HW1.out,← HG.out]
   clear HW1
   go_wp2_with (first | (go_at_call 81;refine HOB.out.mono ?_;rintro e w2 ⟨rfl,hg2,hf2⟩;have O2:=HRES.out _ hg2.bel;have HO2:=Lib.hid O2;have HB2:=Lib.hid (HBB.out _ hg2.bel);clear hg2 hf2) | (refine st rowO rfl rfl O2 rfl rfl (by rfl) (by rfl) (by kernel_rfl) ?_))
   refine p_ret3 rowO rfl (HO2.out.row _) rfl rfl rfl rfl rfl ?_
   exact ⟨_,rfl,⟨_,_,_,rfl,rdv_zero _ _⟩,fit_zero,Below.of_row HB2.out (Nat.le_refl _) _⟩
 | true =>
   simp only [if_true]
   have HCO:Hid (∀ X v,FitT o→obA X o v→Below W0.heap.size W0 X→Calls Tryz.prog 23 #[v] X fun e w'=>e=.returned (.tuple #[.int .i64 (chkO o).1,.int .i64 (chkO o).2.1,.int .i64 (chkO o).2.2])∧Below X.heap.size X w'):=fun X v h1 h2 h3=>HCK.out X o v h1 h2 h3
   generalize chkO o=ck at HCO ⊢
   obtain ⟨why,q1,q2⟩:=ck
   simp only at HCO ⊢
   obtain ⟨R,hR⟩:∃ R:Ob × Int × Int,R=(if why=0 then (o,0,0) else (zOb,why,0)):=⟨_,rfl⟩
   rw [← hR]
   have HRR:=Lib.hid hR
   clear HCK hR
   go_enter Tryz.func36,Tryz.ntmps36
   go_upto_region 1 with fail
   rw [← HW0.out]
   clear HW0
   go_upto_region 4 with fail
   rw [← HW1.out,← HG.out]
   clear HW1
   go_upto_region 7 with (go_at_call 81;refine HOB.out.mono ?_;rintro e w2 ⟨rfl,hg2,hf2⟩;have HG2:=Lib.hid hg2;have HF2:=Lib.hid hf2;clear hg2 hf2)
   obtain ⟨v1,v5,L,hr⟩:=HG2.out.rd
   obtain ⟨a1,c1,rfl⟩:=row_slice hr.mem
   obtain ⟨a5,c5,rfl⟩:=row_slice hr.cors
   have HR:=Lib.hid hr
   have hc2:=row_cellsO hr.own
   have HCK2:=Lib.hid (HCO.out w2 _ HF2.out hr.obA HG2.out.bel)
   clear hr HOB HCO
   generalize hn1:o.mem.length=n1 at HR hc2 HCK2
   generalize hn5:L.length=n5 at HR hc2 HCK2
   go_wp2_with (refine ldc rowO rfl rfl rfl hc2 rfl ?_)
   go_at_call 23
   refine HCK2.out.mono ?_
   rintro e w3 ⟨rfl,hb⟩
   have HR3:=Lib.hid (HR.out.below hb)
   have hg3:=HG2.out.below hb (by have:=HG.out;omega)
   have O3:=HRES.out _ hg3.bel
   have HO3:=Lib.hid O3
   have HB3:=Lib.hid (HBB.out _ hg3.bel)
   clear hg3 hb hc2 HCK2
   by_cases hy:why=0
   · obtain rfl : R = (o, 0, 0) := by rw [HRR.out, if_pos hy]
     clear HRR
     subst hy
     have hc3:=row_cellsO HR3.out.own
     go_wp2_with (first | (refine ldc rowO rfl rfl rfl hc3 rfl ?_) | (refine st rowO rfl rfl O3 rfl rfl (by rfl) (by rfl) (by kernel_rfl) ?_))
     refine p_ret3 rowO rfl (HO3.out.row _) rfl rfl rfl rfl rfl ?_
     refine ⟨_,rfl,⟨_,_,L,rfl,?_⟩,HF2.out,Below.of_row HB3.out (Nat.le_refl _) _⟩
     subst hn1 hn5
     refine (HR3.out.v HB0.out.size).keep HO3.out rfl rfl rfl (keep_setRow _ _ _)
   · obtain rfl : R = (zOb, why, 0) := by rw [HRR.out, if_neg hy]
     have q:(why != 0)=true:=by simpa using hy
     clear hy HRR
     go_wp2_with (refine st rowO rfl rfl O3 rfl rfl (by rfl) (by rfl) (by kernel_rfl) ?_)
     refine p_ret3 rowO rfl (HO3.out.row _) rfl rfl rfl rfl rfl ?_
     exact ⟨_,rfl,⟨_,_,_,rfl,rdv_zero _ _⟩,fit_zero,Below.of_row HB3.out (Nat.le_refl _) _⟩
open Go.RowKit
set_option linter.unusedVariables false
set_option maxRecDepth 100000
structure D2 (w:World) (B p:Nat) (s:Bst) (g:Nat) (ty:TypeId) (row:Array Value) (W:World):Prop where
 st:Dr p s W
 dst:Own W g ty row
 keep:Keep (fun k _=>k≠p∧k≠g) w W
 bel:Below B w W
section
variable {w W W':World} {B p g:Nat} {s t:Bst} {ty:TypeId} {row row':Array Value}
theorem d2_new (h:Dr p s w) (ho:Own w g ty row):D2 w B p s g ty row w:=⟨h,ho,Keep.refl _ _,Below.refl _ _⟩
theorem D2.trans {w0:World} (h:D2 w0 B p s g ty row w) (k:D2 w B p t g ty row' W):D2 w0 B p t g ty row' W:=⟨k.st,k.dst,h.keep.trans k.keep,h.bel.trans k.bel⟩
theorem D2.below (h:D2 w B p s g ty row W) (hb:Below W.heap.size W W') (hB:B≤p):D2 w B p s g ty row W':=⟨h.st.below hb,h.dst.below hb,h.keep.trans (keep_below hb),h.bel.trans (hb.mono (by have:=h.st.lt;omega))⟩
theorem Dq.d2 (h:Dq w p s W) (ho:Own w g ty row) (hg:p<g) (hB:B≤p):D2 w B p s g ty row W:=⟨h.st,h.other ho (by omega),h.keep.mono fun k o q=>q.1,(h.bel (by have:=ho.lt;omega)).mono hB⟩
theorem D2.store (h:D2 w B p s g ty row W) (hg:p<g) (hB:B≤p) (o:Nat) (v:Value):D2 w B p s g ty (row.setIfInBounds o v) (W.setCell ⟨g,o,none⟩ v) :=
 ⟨h.st.keep fun k hk=>Below.heap_setCell W ⟨g,o,none⟩ v k (by show k≠g;omega),heap_setCell_same W g o _ _ v h.dst,h.keep.setCell (p:=⟨g,o,none⟩) v h.dst (fun q=>q.2 rfl),h.bel.setCell (p:=⟨g,o,none⟩) (by show B≤g;omega) v⟩
theorem D2.other (h:D2 w B p s g ty row W) {k:Nat} {tz:TypeId} {rz:Array Value} (ho:Own w k tz rz) (h1:k≠p) (h2:k≠g):Own W k tz rz:=h.keep.block _ _ ho ⟨h1,h2⟩
theorem D2.dq {o:Obj} (h:D2 (w.alloc o) B p s w.heap.size ty row W):Dq w p s W:=⟨h.st,h.keep.os,h.keep.tape,h.keep.output,Nat.le_trans (by simp) h.keep.size,fun k x hk hs=>by
 have hl:k<w.heap.size:=(Array.getElem?_eq_some_iff.1 hk).1
 exact h.keep.block k x ((heap_alloc_old w o hl).trans hk) ⟨hs,Nat.ne_of_lt hl⟩⟩
end
theorem b_number {w:World} {B p:Nat} {s:Bst} (h:Dr p s w) {g o:Nat} {ty:TypeId} {row:Array Value} {x:Int} (ho:Own w g ty row) (hg:p<g) (hu:row[o]? = some (.int .i64 x)) (hB:B≤p) :
 Calls Tryz.prog 72 #[.pointer (some ⟨p,0,none⟩),.pointer (some ⟨g,o,none⟩)] w fun e w'=>e=.returned (.tuple #[])∧D2 w B p (numR x s).2 g ty (row.setIfInBounds o (.int .i64 (numR x s).1)) w':=by
 have HA:Hid (Calls Tryz.prog 115 #[.pointer (some ⟨p,0,none⟩)] w fun e w'=>e=.returned (.int .u64 ((digR s).1:Int))∧Dq w p (digR s).2 w'):=b_digits h
 have HG:Hid (∀ X t,Dq w p t X→D2 w B p t g ty row X∧X.cell? ⟨g,o,none⟩=some (.int .i64 x)∧X.frozen? ⟨g,o,none⟩=false):=fun X t hX=>⟨hX.d2 ho hg hB,by rw [cell_of_row _ _ o _ _ _ (hX.other ho (by omega))];exact hu,own_frozen (hX.other ho (by omega)) o⟩
 have HFL:Hid (∀ X t,Dq w p t X→Calls Tryz.prog 114 #[.pointer (some ⟨p,0,none⟩)] X fun e w'=>e=.returned (.tuple #[])∧Dq w p badS w'):=fun X t hX=>(b_fail hX.st).mono fun _ _ ⟨h1,h2⟩=>⟨h1,hX.trans h2⟩
 have HH:=Lib.hid (And.intro hg hB)
 have hrow:row.setIfInBounds o (.int .i64 x)=row:=by
  apply Array.ext_getElem?
  intro i
  by_cases hi:i=o
  · subst hi
    rw [Array.getElem?_setIfInBounds_self_of_lt (Array.getElem?_eq_some_iff.1 hu).1,hu]
  · rw [Array.getElem?_setIfInBounds_ne (by omega)]
 have HRW:=Lib.hid hrow
 have HN:Hid (numR x s=if 9223372036854775807<((digR s).1:Int) then (x,badS) else (((digR s).1:Int),(digR s).2)):=rfl
 generalize digR s=r at HA HN
 obtain ⟨n,t⟩:=r
 simp only at HA HN
 clear h ho hg hu hB hrow
 by_cases hb:9223372036854775807<(n:Int)
 · have HNB : Hid (numR x s = (x, badS)) := by rw [Hid, HN.out, if_pos hb]
   clear HN
   rw [HNB.out]
   simp only
   rw [HRW.out]
   go_enter Tryz.func72,Tryz.ntmps72
   go_wp2_with (first | (go_at_call 115;refine HA.out.mono ?_;rintro e w2 ⟨rfl,hq⟩;have HQ:=Lib.hid hq;clear hq) | (go_at_call 114;refine (HFL.out _ _ HQ.out).mono ?_;rintro e w3 ⟨rfl,hq⟩;have HQ3:=Lib.hid hq;clear hq))
   exact bodyPost_ret (results_none rfl _ _ _) rfl ⟨rfl,(HG.out _ _ HQ3.out).1⟩
 · have HNB : Hid (numR x s = ((n : Int), t)) := by rw [Hid, HN.out, if_neg hb]
   clear HN
   rw [HNB.out]
   simp only
   go_enter Tryz.func72,Tryz.ntmps72
   go_wp2_with (first | (go_at_call 115;refine HA.out.mono ?_;rintro e w2 ⟨rfl,hq⟩;have HQ:=Lib.hid hq;obtain ⟨_,d0,d1⟩:=HG.out _ _ hq;clear hq))
   have hw:IntKind.i64.wrap (n:Int)=(n:Int):=by rw [IntKind.wrap_i64];omega
   try rw [hw]
   exact bodyPost_end (results_none rfl _ _ _) rfl ⟨rfl,(HG.out _ _ HQ.out).1.store HH.out.1 HH.out.2 o _⟩
theorem addr_addD (g q j:Nat):(⟨g,q,none⟩:Addr).add j=⟨g,q+j,none⟩:=by unfold Addr.add;split <;> simp_all
theorem unz_odd (n:Nat) (hn:n<18446744073709551616) (h:n % 2=1):bits .xor .i64 (-1) ((n / 2:Nat):Int)=unz n:=by
 rw [Lib.i64_not _ (by omega)]
 unfold unz
 rw [if_pos h]
theorem b_word {w:World} {B p:Nat} {s:Bst} (h:Dr p s w) {g o:Nat} {ty:TypeId} {row:Array Value} {x:Int} (ho:Own w g ty row) (hg:p<g) (hu:row[o]? = some (.int .i64 x)) (hB:B≤p) :
 Calls Tryz.prog 74 #[.pointer (some ⟨p,0,none⟩),.pointer (some ⟨g,o,none⟩)] w fun e w'=>e=.returned (.tuple #[])∧D2 w B p (wrdR s).2 g ty (row.setIfInBounds o (.int .i64 (wrdR s).1)) w':=by
 have HA:Hid (Calls Tryz.prog 115 #[.pointer (some ⟨p,0,none⟩)] w fun e w'=>e=.returned (.int .u64 ((digR s).1:Int))∧Dq w p (digR s).2 w'):=b_digits h
 have hlt:=digR_lt s
 have hset:∀ a b:Value,(row.setIfInBounds o a).setIfInBounds o b=row.setIfInBounds o b:=fun a b=>by
  apply Array.ext_getElem?
  intro i
  by_cases hi:i=o
  · subst hi
    have hl:=(Array.getElem?_eq_some_iff.1 hu).1
    rw [Array.getElem?_setIfInBounds_self_of_lt (by simpa using hl),Array.getElem?_setIfInBounds_self_of_lt hl]
  · rw [Array.getElem?_setIfInBounds_ne (by omega),Array.getElem?_setIfInBounds_ne (by omega),Array.getElem?_setIfInBounds_ne (by omega)]
 have HSET:=Lib.hid hset
 have hol:=(Array.getElem?_eq_some_iff.1 hu).1
 have HG:Hid (∀ X t,Dq w p t X→D2 w B p t g ty row X∧X.cell? ⟨g,o,none⟩=some (.int .i64 x)∧X.frozen? ⟨g,o,none⟩=false):=fun X t hX=>⟨hX.d2 ho hg hB,by rw [cell_of_row _ _ o _ _ _ (hX.other ho (by omega))];exact hu,own_frozen (hX.other ho (by omega)) o⟩
 have HH:=Lib.hid (And.intro hg hB)
 have HN:Hid (wrdR s=(unz (digR s).1,(digR s).2)):=rfl
 rw [HN.out]
 clear HN
 generalize digR s=r at HA hlt ⊢
 obtain ⟨n,t⟩:=r
 simp only at HA hlt ⊢
 have hw:IntKind.i64.wrap ((n:Int) / 2)=((n / 2:Nat):Int):=by rw [IntKind.wrap_i64];omega
 have ha:=Lib.u64_and1 (n:Int) (by omega) (by omega)
 clear h ho hg hu hB hset
 by_cases hb:n % 2=1
 · have ha2 : bits .and .u64 (n : Int) 1 = 1 := by rw [ha]; omega
   have hx2:=unz_odd n hlt hb
   have HU:=Lib.hid hx2
   clear ha hx2
   go_enter Tryz.func74,Tryz.ntmps74
   go_wp2_with (first | (go_at_call 115;refine HA.out.mono ?_;rintro e w2 ⟨rfl,hq⟩;have HQ:=Lib.hid hq;obtain ⟨_,d0,d1⟩:=HG.out _ _ hq;clear hq))
   have hq2:(n:Int) / 2=((n / 2:Nat):Int):=by omega
   rw [hq2,HU.out]
   have h2:=((HG.out _ _ HQ.out).1.store HH.out.1 HH.out.2 o (.int .i64 ((n / 2:Nat):Int))).store HH.out.1 HH.out.2 o (.int .i64 (unz n))
   rw [HSET.out] at h2
   exact bodyPost_end (results_none rfl _ _ _) rfl ⟨rfl,h2⟩
 · have hn2 : unz n = ((n / 2 : Nat) : Int) := by unfold unz; rw [if_neg hb]
   have ha2:bits .and .u64 (n:Int) 1=0:=by rw [ha];omega
   have HU:=Lib.hid hn2
   clear ha hn2
   go_enter Tryz.func74,Tryz.ntmps74
   go_wp2_with (first | (go_at_call 115;refine HA.out.mono ?_;rintro e w2 ⟨rfl,hq⟩;have HQ:=Lib.hid hq;obtain ⟨_,d0,d1⟩:=HG.out _ _ hq;clear hq))
   have hq2:(n:Int) / 2=((n / 2:Nat):Int):=by omega
   rw [hq2,← HU.out]
   exact bodyPost_end (results_none rfl _ _ _) rfl ⟨rfl,(HG.out _ _ HQ.out).1.store HH.out.1 HH.out.2 o (.int .i64 (unz n))⟩
theorem numR_bd (x:Int) (hx:I64 x) (s:Bst):I64 (numR x s).1:=by
 unfold numR
 split
 · exact hx
 · constructor <;> simp only <;> omega
theorem numR_nn (s:Bst):0≤(numR 0 s).1:=by
 unfold numR
 split
 · simp
 · simp only;omega
theorem b_count {w:World} {p:Nat} {s:Bst} (h:Dr p s w) (most:Int) (hm:0≤most) (hm2:most≤9223372036854775807) :
 Calls Tryz.prog 116 #[.pointer (some ⟨p,0,none⟩),.int .i64 most] w fun e w'=>e=.returned (.int .i64 (cntR most s).1)∧Dq w p (cntR most s).2 w':=by
 have al:Below w.heap.size w (w.alloc (.cells #[.int .i64 0] 3)):=(Below.refl _ w).alloc (Nat.le_refl _) _
 have O0:=Own.new w 3 #[.int .i64 0]
 have hpw:=h.lt
 have HA:Hid (Calls Tryz.prog 72 #[.pointer (some ⟨p,0,none⟩),.pointer (some ⟨w.heap.size,0,none⟩)] (w.alloc (.cells #[.int .i64 0] 3)) fun e w'=>e=.returned (.tuple #[])∧D2 (w.alloc (.cells #[.int .i64 0] 3)) p p (numR 0 s).2 w.heap.size 3 #[.int .i64 (numR 0 s).1] w'):=(b_number (h.below al) O0 hpw rfl (Nat.le_refl _)).mono fun _ _ ⟨h1,h2⟩=>⟨h1,by simpa using h2⟩
 have HN:Hid (cntR most s=if most<(numR 0 s).1 then (0,badS) else numR 0 s):=rfl
 have hnn:=numR_nn s
 have hbd:=numR_bd 0 ⟨by decide,by decide⟩ s
 rw [HN.out]
 clear HN
 generalize numR 0 s=r at HA hnn hbd ⊢
 obtain ⟨n,t⟩:=r
 simp only at HA hnn hbd ⊢
 have HFL:Hid (∀ X,D2 (w.alloc (.cells #[.int .i64 0] 3)) p p t w.heap.size 3 #[.int .i64 n] X→Calls Tryz.prog 114 #[.pointer (some ⟨p,0,none⟩)] X fun e w'=>e=.returned (.tuple #[])∧Dq w p badS w'):=fun X hX=>(b_fail hX.st).mono fun _ _ ⟨h1,h2⟩=>⟨h1,hX.dq.trans h2⟩
 obtain ⟨W0,hW0⟩:∃ W,W=w.alloc (.cells #[.int .i64 0] 3):=⟨_,rfl⟩
 have HDQ:Hid (∀ X,D2 W0 p p t w.heap.size 3 #[.int .i64 n] X→Dq w p t X∧X.cell? ⟨w.heap.size,0,none⟩=some (.int .i64 n)):=fun X hX=>⟨by rw [hW0] at hX;exact hX.dq,row_cellsO hX.dst 0 _ rfl⟩
 rw [← hW0] at HA HFL O0
 have HW0:=Lib.hid hW0
 have c0:W0.cell? ⟨w.heap.size,0,none⟩=some (.int .i64 0):=row_cellsO O0 0 _ rfl
 clear h al O0 hW0 hpw
 by_cases hb:most<n
 · rw [if_pos hb]
   go_enter Tryz.func116,Tryz.ntmps116
   go_upto_region 2 with fail
   rw [← HW0.out]
   clear HW0
   go_wp2_with (first | (go_at_call 72;refine HA.out.mono ?_;rintro e w2 ⟨rfl,hq⟩;have HQ:=Lib.hid hq;obtain ⟨_,d0⟩:=HDQ.out _ hq;clear hq c0) | (go_at_call 114;refine (HFL.out _ HQ.out).mono ?_;rintro e w3 ⟨rfl,hq⟩;have HQ3:=Lib.hid hq;clear hq d0))
   go_ret
   exact ⟨rfl,HQ3.out⟩
 · rw [if_neg hb]
   go_enter Tryz.func116,Tryz.ntmps116
   go_upto_region 2 with fail
   rw [← HW0.out]
   clear HW0
   go_wp2_with (first | (go_at_call 72;refine HA.out.mono ?_;rintro e w2 ⟨rfl,hq⟩;have HQ:=Lib.hid hq;obtain ⟨_,d0⟩:=HDQ.out _ hq;clear hq c0))
   go_ret
   exact ⟨rfl,(HDQ.out _ HQ.out).1⟩
theorem b_take {w:World} {p:Nat} {s:Bst} (h:Dr p s w) (k:Int) (hk:0≤k) (hk2:k≤1000000) :
 Calls Tryz.prog 71 #[.pointer (some ⟨p,0,none⟩),.int .i64 k] w fun e w'=>e=.returned (.string ⟨(takR k s).1.toArray⟩)∧Dq w p (takR k s).2 w':=by
 have HF:Hid (Calls Tryz.prog 114 #[.pointer (some ⟨p,0,none⟩)] w fun e w'=>e=.returned (.tuple #[])∧Dq w p badS w'):=b_fail h
 obtain ⟨a,c,h⟩:=h
 have HP:=Lib.hid h
 obtain ⟨l,b⟩:=s
 have p0:w.cell? ⟨p,0,none⟩=some (.slice a l.length c):=by rw [cell_of_row _ _ 0 _ _ _ h.own];rfl
 have q0:w.frozen? ⟨p,0,none⟩=false:=own_frozen h.own 0
 have hN:=h.cap
 have hM:=h.mx
 have hCM:=h.cm
 simp only at hM
 simp only at hN
 clear h
 by_cases hb:(l.length:Int)<k
 · have e1 : takR k (l, b) = ([], badS) := by unfold takR; rw [if_pos hb]
   rw [e1]
   go_enter Tryz.func71,Tryz.ntmps71
   go_wp2_with (go_at_call 114;refine HF.out.mono ?_;rintro e w3 ⟨rfl,hq⟩;have HQ3:=Lib.hid hq;clear hq)
   go_ret
   exact ⟨rfl,HQ3.out⟩
 · obtain ⟨m, rfl⟩ : ∃ m : Nat, k = (m : Int) := ⟨k.toNat, by omega⟩
   have hml:m≤l.length:=by omega
   have e1:takR (m:Int) (l,b)=(l.take m,(l.drop m,b)):=by unfold takR;rw [if_neg hb];simp
   rw [e1]
   have hcv:(convert 26 9 (.slice a m c)).run Tryz.prog w=.ok (.string ⟨(l.take m).toArray⟩) w:=by
    have hb2:=HP.out.bys
    cases a with
    | none =>
      rcases hb2 with e | ⟨g,q,e,_⟩
      · simp only at e
        subst e
        obtain rfl:m=0:=by simpa using hml
        exact Lib.run_convert_nil_bytes w _ _ _ c Tryz.underlying26 Tryz.underlying5 Tryz.underlying9
      · cases e
    | some d =>
      have hl:(l.take m).length=m:=by rw [List.length_take];omega
      have h5:=run_convert_bytes_back (P:=Tryz.prog) w 26 9 _ d c (l.take m) Tryz.underlying26 Tryz.underlying5 Tryz.underlying9 (fun j hj=>by
       rcases hb2 with e | ⟨g,q,e,_,hx⟩
       · simp only at e
         subst e
         simp at hj
       · injection e with e
         subst e
         rw [addr_addD]
         simp only at hx
         refine hx j _ ?_
         rw [List.getElem_take]
         exact List.getElem?_eq_getElem (by rw [List.length_take] at hj;omega))
      rw [hl] at h5
      exact h5
   have hms:(m:Int)≤(l.length:Int):=by omega
   have HOK:Hid (∀ (a':Option Addr) (c':Nat),(∀ g q,a=some ⟨g,q,none⟩→a'=some ⟨g,q+m,none⟩∨l.length-m=0)→l.length-m≤c'→c'≤c→Dq w p (l.drop m,b) (w.setCell ⟨p,0,none⟩ (.slice a' (l.length-m) c'))):=fun a' c' h1 h2 h3=>by
    have h4:=HP.out
    rcases h4.bys with e | ⟨g,q,e,_⟩
    · simp only at e
      subst e
      obtain rfl:m=0:=by simpa using hml
      have hO:=heap_setCell_same w p 0 _ _ (.slice a' 0 c') h4.own
      exact ⟨⟨a',c',hO,.inl rfl,Nat.zero_le _,Nat.zero_le _,Nat.le_trans h3 h4.cm⟩,(Keep.refl _ _).setCell (p:=⟨p,0,none⟩) _ h4.own (fun q=>q rfl)⟩
    · subst e
      exact dr_cut h4 hml (h1 g q rfl) h2 h3
   go_enter Tryz.func71,Tryz.ntmps71
   go_wp2_with (fail)
   all_goals
    go_ret
    exact ⟨rfl,HOK.out _ _ (by intro g q e;subst e;first | (right;omega) | (left;simp [addr_addD])) (by omega) (by omega)⟩
end Go.Proofs.YtmpljhfinmfnbaaGreatDoor

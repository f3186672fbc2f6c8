/- The proof, part 9: texts that belong together, in one. -/
import Derived.Test.YtggbkldniffbfaaGreatDoorTAH
import Derived.Deep.RegionHeldLaw
set_option maxRecDepth 100000
set_option maxHeartbeats 20000000
namespace Go.Proofs.YtggbkldniffbfaaGreatDoor
open Go.RowKit
set_option linter.unusedVariables false
def OpndC (n:Nat):Prop:=∀ (c:Par) (w:World) (k:Nat) (d:Int),Rd c w k→0≤d→d≤64→3*(c.at k).length+1≤n →
 Calls Tryz.prog 106 #[c.ptr,.int .i64 d] w (RdPost c w (opnd fnd c.L n d (c.at k)) (exR w.heap.size))
def BinC (n:Nat):Prop:=∀ (c:Par) (w:World) (k:Nat) (v d:Int),Rd c w k→1≤v→v≤9→0≤d→d≤64→3*(c.at k).length+2≤n →
 Calls Tryz.prog 64 #[c.ptr,.int .i64 v,.int .i64 d] w (RdPost c w (binE fnd c.L n v d (c.at k)) (exR w.heap.size))
structure UnG (c:Par) (w:World) (b:Nat) (op:Int) (t:Tk) (W:World) (j:Nat):Prop where
 run:At c w W j
 box:W.cell? ⟨b,0,none⟩=some (.pointer (some ⟨c.X,0,none⟩))
 opr:W.cell? ⟨b+1,0,none⟩=some (.int .u8 op)
 tok:Own W w.heap.size 111 #[.int .u8 t.kind,.string t.text,.int .i64 t.wd,.int .i64 t.pos]
 res:Own W (w.heap.size+1) 30 zEx
section
variable {c:Par} {w W W':World} {b:Nat} {op:Int} {t:Tk} {j k2:Nat}
theorem UnG.below (h:UnG c w b op t W j) (hb:Below W.heap.size W W'):UnG c w b op t W' j :=
 ⟨h.run.below hb,(hb.cell (p:=⟨b,0,none⟩) (by have:=cell_lt h.box;simpa using this)).trans h.box,(hb.cell (p:=⟨b+1,0,none⟩) (by have:=cell_lt h.opr;simpa using this)).trans h.opr,h.tok.below hb,h.res.below hb⟩
theorem UnG.alloc (h:UnG c w b op t W j) (o:Obj):UnG c w b op t (W.alloc o) j:=h.below ((Below.refl _ W).alloc (Nat.le_refl _) o)
theorem UnG.drew (h:UnG c w b op t W j):UnG c w b op t W.drew j:=⟨h.run.drew,h.box,h.opr,h.tok,h.res⟩
theorem UnG.call (h:UnG c w b op t W j) (hf:Fr c W W') (hp:At c w W' k2) (hX:c.X<w.heap.size) (h1:b≠c.X) (h2:b+1≠c.X):UnG c w b op t W' k2 :=
 ⟨hp,(hf.cell (by have:=cell_lt h.box;simpa using this) h1).trans h.box,(hf.cell (by have:=cell_lt h.opr;simpa using this) h2).trans h.opr,h.tok.fr hf (by omega),h.res.fr hf (by omega)⟩
theorem UnG.row (h:UnG c w b op t W j) (cs:Array Value) {g:Nat} (hg:w.heap.size+1<g) (hX:c.X<w.heap.size) (h1:b≠c.X) (h2:b+1≠c.X) (hb:b+1<w.heap.size):UnG c w b op t (W.setRow g cs) j:=by
 have e:∀ x,x≠g→(W.setRow g cs).cell? ⟨x,0,none⟩=W.cell? ⟨x,0,none⟩:=fun x hx=>by
  have:=setRow_other (W:=W) cs hx
  simp only [World.cell?,this]
 exact ⟨h.run.setRow (by omega) (by omega) cs,(e b (by omega)).trans h.box,(e (b+1) (by omega)).trans h.opr,h.tok.other cs (by omega),h.res.other cs (by omega)⟩
end
theorem p_unary {n:Nat} (H:OpndC n) {c:Par} {w:World} {k:Nat} (R:Rd c w k) (t:Tk) (d op:Int) (b:Nat) (h0:0≤d) (h1:d<64) (hn:3*(c.at k).length+1≤n) (hb1:Own w b 68 #[c.ptr]) (hb2:Own w (b+1) 27 #[.int .u8 op]) (hx0:b≠c.X) (hx1:b+1≠c.X) :
 Calls Tryz.prog 128 #[tkV t,.int .i64 d,.pointer (some ⟨b,0,none⟩),.pointer (some ⟨b+1,0,none⟩)] w
  (RdPost c w ((opnd fnd c.L n (d+1) (c.at k)).then fun e r=>.ok (unX op t.pos e) r) (exR w.heap.size)):=by
 obtain ⟨Y,hY⟩:∃ Y,Y=opnd fnd c.L n (d+1) (c.at k):=⟨_,rfl⟩
 have HC:Hid (∀ W,Rd c W k→Calls Tryz.prog 106 #[c.ptr,.int .i64 (d+1)] W (RdPost c W Y (exR W.heap.size))):=fun W RW=>by rw [hY];exact H c W k (d+1) RW (by omega) (by omega) hn
 have HR:=Lib.hid R
 rw [← hY]
 obtain ⟨tk,tx,tw,tp⟩:=t
 have hd:=Lib.hid (fun W=>p_deeper_ok ⟨tk,tx,tw,tp⟩ d h0 h1 W)
 have c1:w.cell? ⟨b,0,none⟩=some c.ptr:=by rw [cell_of_row w b 0 _ _ _ hb1];rfl
 have c2:w.cell? ⟨b+1,0,none⟩=some (.int .u8 op):=by rw [cell_of_row w (b+1) 0 _ _ _ hb2];rfl
 have hX:=Lib.hid R.lt
 have HX:=Lib.hid (And.intro hx0 hx1)
 have HL:=Lib.hid (And.intro hb1.lt hb2.lt)
 clear hY H R hn hb1 hb2 hx0 hx1
 unfold tkV Par.ptr at *
 go_enter Tryz.func128,Tryz.ntmps128
 go_wp2_with fail
 have G0:UnG c w b op ⟨tk,tx,tw,tp⟩ ((w.alloc (.cells #[.int .u8 tk,.string tx,.int .i64 tw,.int .i64 tp] 111)).alloc (.cells zEx 30)).drew k:=by
  have hb:=((Below.refl w.heap.size w).alloc (Nat.le_refl _) (.cells #[.int .u8 tk,.string tx,.int .i64 tw,.int .i64 tp] 111)).alloc (by simp) (.cells zEx 30)
  have o2:=Own.new (w.alloc (.cells #[.int .u8 tk,.string tx,.int .i64 tw,.int .i64 tp] 111)) 30 zEx
  rw [World.size_alloc] at o2
  exact UnG.drew ⟨((At.start HR.out).alloc _).alloc _,(hb.cell (p:=⟨b,0,none⟩) HL.out.1).trans c1,(hb.cell (p:=⟨b+1,0,none⟩) HL.out.2).trans c2,(Own.new w _ _).alloc _,o2⟩
 rename_i Q1 K1 hK1
 have tail:∀ (g:Nat) (W:World) (e0:Ex) (a4:Option Addr) (cap4 k2:Nat),Y=.ok e0 (c.at k2)→UnG c w b op ⟨tk,tx,tw,tp⟩ W k2→Own W g 30 #[.int .u8 e0.kind,.int .u8 e0.op,.int .i64 e0.wd,.string e0.name,.slice a4 e0.kids.length cap4,.int .i64 e0.pos]→w.heap.size+1<g→exsAt (fun b=>w.heap.size+1<b∧b≠g) W e0.kids a4 →
  K1 { tmps:=#[.agg #[.int .u8 tk,.string tx,.int .i64 tw,.int .i64 tp],.int .i64 d,.pointer (some ⟨b,0,none⟩),.pointer (some ⟨b+1,0,none⟩),.pointer (some ⟨w.heap.size,0,none⟩),undef,.pointer (some ⟨w.heap.size+1,0,none⟩),.pointer (some ⟨g,0,none⟩),.pointer (some ⟨c.X,0,none⟩),.agg #[.int .u8 tk,.string tx,.int .i64 tw,.int .i64 tp],.int .i64 d,.int .i64 (d+1),
   .agg #[.int .u8 e0.kind,.int .u8 e0.op,.int .i64 e0.wd,.string e0.name,.slice a4 e0.kids.length cap4,.int .i64 e0.pos],undef,undef,undef,undef,undef,undef],defers:=[] } W:=by
  intro g W e0 a4 cap4 k2 hY hG hg hlt hV
  subst hY
  have HG:=Lib.hid hG
  have HV:=Lib.hid hV
  have HLT:=Lib.hid hlt
  have co:=hG.opr
  have ct:W.cell? ⟨w.heap.size,3,none⟩=some (.int .i64 tp):=by rw [cell_of_row W w.heap.size 3 _ _ _ hG.tok];rfl
  have lt:=hG.tok.lt
  have O6:=hG.res.alloc (.cells #[.int .u8 e0.kind,.int .u8 e0.op,.int .i64 e0.wd,.string e0.name,.slice a4 e0.kids.length cap4,.int .i64 e0.pos] 30)
  have N0:=Lib.hid (Own.new W 30 #[.int .u8 e0.kind,.int .u8 e0.op,.int .i64 e0.wd,.string e0.name,.slice a4 e0.kids.length cap4,.int .i64 e0.pos])
  clear hG hV hlt
  apply hK1
  go_wp2_with (first | (refine ld rowEx rfl rfl rfl hg rfl ?_) | (refine st rowEx rfl rfl O6 rfl rfl (by rfl) (by rfl) (by kernel_rfl) ?_))
  have hsz:=HG.out.res.lt
  refine p_ret rowEx rfl (O6.row #[.int .u8 3,.int .u8 op,.int .i64 0,.string ⟨#[]⟩,.slice (some ⟨W.heap.size,0,none⟩) 1 1,.int .i64 tp]) rfl rfl rfl ?_
  have hXX:=hX.out
  have A4:=(HG.out.run.alloc (.cells #[.int .u8 e0.kind,.int .u8 e0.op,.int .i64 e0.wd,.string e0.name,.slice a4 e0.kids.length cap4,.int .i64 e0.pos] 30)).setRow (g:=w.heap.size+1) (by omega) (by omega) #[.int .u8 3,.int .u8 op,.int .i64 0,.string ⟨#[]⟩,.slice (some ⟨W.heap.size,0,none⟩) 1 1,.int .i64 tp]
  refine ⟨A4.fr,_,k2,rfl,⟨_,_,rfl,?_⟩,A4.rd HR.out,rfl⟩
  refine .inr ⟨W.heap.size,0,rfl,by omega,?_,trivial⟩
  have hst:Stays (fun b=>w.heap.size+1<b∧b≠g) W ((W.alloc (.cells #[.int .u8 e0.kind,.int .u8 e0.op,.int .i64 e0.wd,.string e0.name,.slice a4 e0.kids.length cap4,.int .i64 e0.pos] 30)).setRow (w.heap.size+1) #[.int .u8 3,.int .u8 op,.int .i64 0,.string ⟨#[]⟩,.slice (some ⟨W.heap.size,0,none⟩) 1 1,.int .i64 tp]) :=
   (stays_alloc _ W _).trans (stays_row _ _ (fun b hb=>by omega))
  refine exIn_of (vs:=exCells e0 a4 cap4) ⟨a4,cap4,rfl,exsAt_stays hst (fun b hb=>by omega) HV.out⟩ ?_
  have N1:=N0.out.other #[.int .u8 3,.int .u8 op,.int .i64 0,.string ⟨#[]⟩,.slice (some ⟨W.heap.size,0,none⟩) 1 1,.int .i64 tp] (g:=w.heap.size+1) (by omega)
  intro j v hj
  rw [Nat.zero_add,cell_of_row _ W.heap.size j _ _ _ N1,← hj]
  simp [exCells]
 refine wp_region_held (S:=fun W=>W.cell? ⟨b,0,none⟩=some (.pointer (some ⟨c.X,0,none⟩))∧Own W w.heap.size 111 #[.int .u8 tk,.string tx,.int .i64 tw,.int .i64 tp]) (by kernel_rfl) ?_
 obtain ⟨W0,hW0⟩:∃ W0,W0=((w.alloc (.cells #[.int .u8 tk,.string tx,.int .i64 tw,.int .i64 tp] 111)).alloc (.cells zEx 30)).drew:=⟨_,rfl⟩
 change wpAnyH _ _ _ _ _ _ _ _ ((w.alloc (.cells #[.int .u8 tk,.string tx,.int .i64 tw,.int .i64 tp] 111)).alloc (.cells zEx 30)).drew
 rw [← hW0] at G0 ⊢
 clear hW0
 refine dr_take 0 (.pointer (some ⟨c.X,0,none⟩)) rfl rfl (by kernel_rfl) (by kernel_rfl) (by kernel_rfl) (fun _ _ _ h=>h) ?_ ⟨G0.box,G0.tok⟩ ?_
 · rintro w' ⟨s1, s2⟩
   unfold execOp
   go_simp
 change wpAnyH _ _ _ _ _ _ _ { tmps:=#[_,_,_,_,_,_,_,_,_,_,_,_,_,_,_,_,_,_,_],defers:=[] } _
 refine dr_take 1 (.agg #[.int .u8 tk,.string tx,.int .i64 tw,.int .i64 tp]) rfl rfl (by kernel_rfl) (by kernel_rfl) (by kernel_rfl) (fun _ _ _ h=>h) ?_ ⟨G0.box,G0.tok⟩ ?_
 · rintro w' ⟨s1, s2⟩
   exact run_ld rowTok rfl rfl s2 rfl
 change wpAnyH _ _ _ _ _ _ _ { tmps:=#[_,_,_,_,_,_,_,_,_,_,_,_,_,_,_,_,_,_,_],defers:=[] } _
 refine dr_take 2 (.int .i64 d) rfl rfl (by kernel_rfl) (by kernel_rfl) (by kernel_rfl) (fun _ _ _ h=>h) (fun _ _=>rfl) ⟨G0.box,G0.tok⟩ ?_
 change wpAnyH _ _ _ _ _ _ _ { tmps:=#[_,_,_,_,_,_,_,_,_,_,_,_,_,_,_,_,_,_,_],defers:=[] } _
 refine dr_two 3 5 rfl rfl rfl rfl (by kernel_rfl) ?_ ?_
 · refine wp_call (vs := #[.agg #[.int .u8 tk, .string tx, .int .i64 tw, .int .i64 tp], .int .i64 d]) rfl rfl (enters_of Tryz.func129 (by kernel_rfl) rfl) (by simp [Act.eval]) (hd.out _) ?_
   rintro e w1 ⟨rfl,hb⟩
   have G1:=G0.below hb
   refine ⟨⟨G1.box,G1.tok⟩,?_⟩
   change wpAnyH _ _ _ _ _ _ _ { tmps:=#[_,_,_,_,_,_,_,_,_,_,_,_,_,_,_,_,_,_,_],defers:=[] } _
   refine dr_two 4 5 rfl rfl rfl rfl (by kernel_rfl) ?_ ?_
   · refine wp_call (vs := #[.pointer (some ⟨c.X, 0, none⟩), .int .i64 (d + 1)]) rfl rfl (enters_of Tryz.func106 (by kernel_rfl) rfl) (by simp [Act.eval]) (HC.out _ (G1.run.rd HR.out)) ?_
     rintro e w2 ⟨hf2,hm⟩
     rcases Y with ⟨e0,r0⟩ | ⟨p,q⟩
     rotate_left
     · obtain rfl := hm
       exact ⟨rfl,G1.run.fr.trans hf2,rfl⟩
     obtain ⟨v,k2,rfl,⟨a4,cap4,rfl,hV⟩,hR2,rfl⟩:=hm
     have G2:=G1.call hf2 (G1.run.call hf2 hR2) hX.out HX.out.1 HX.out.2
     refine ⟨⟨G2.box,G2.tok⟩,?_⟩
     change wpAnyH _ _ _ _ _ _ _ { tmps:=#[_,_,_,_,_,_,_,_,_,_,_,_,_,_,_,_,_,_,_],defers:=[] } _
     refine dr_one 5 rfl rfl (by kernel_rfl) ?_
     refine wp_alloc_ex rfl ⟨⟨(G2.alloc _).box,(G2.alloc _).tok⟩,?_⟩
     change wpAnyH _ _ _ _ _ _ _ { tmps:=#[_,_,_,_,_,_,_,_,_,_,_,_,_,_,_,_,_,_,_],defers:=[] } _
     refine dr_one 6 rfl rfl (by kernel_rfl) ?_
     have hO:=Own.new w2 30 zEx
     have hs:=G2.res.lt
     refine wp_store_row 30 _ _ rfl w2.heap.size #[.int .u8 e0.kind,.int .u8 e0.op,.int .i64 e0.wd,.string e0.name,.slice a4 e0.kids.length cap4,.int .i64 e0.pos] rfl rfl 30 zEx hO (by kernel_rfl) rfl (by kernel_rfl) ?_
     have G3:=(G2.alloc (.cells zEx 30)).row #[.int .u8 e0.kind,.int .u8 e0.op,.int .i64 e0.wd,.string e0.name,.slice a4 e0.kids.length cap4,.int .i64 e0.pos] (g:=w2.heap.size) (by omega) hX.out HX.out.1 HX.out.2 HL.out.2
     refine ⟨⟨G3.box,G3.tok⟩,wpAnyH_done (by kernel_rfl) ?_ _⟩
     refine tail w2.heap.size _ e0 a4 cap4 k2 rfl G3 (hO.row _) (by omega) ?_
     have hV2:=exsAt_stays ((stays_alloc _ w2 (.cells zEx 30)).trans (stays_row _ (g:=w2.heap.size) #[.int .u8 e0.kind,.int .u8 e0.op,.int .i64 e0.wd,.string e0.name,.slice a4 e0.kids.length cap4,.int .i64 e0.pos] (fun b hb=>by have:=hb.2;omega))) (fun b hb=>hb) (exsAt_in hV)
     exact exsAt_mono hV2 (fun b hb=>by have h1:=hb.1;have h2:=hb.2;have h3:=G1.res.lt;omega)
   · refine wp_alloc_ex rfl ⟨⟨(G1.alloc _).box, (G1.alloc _).tok⟩, ?_⟩
     change wpAnyH _ _ _ _ _ _ _ { tmps:=#[_,_,_,_,_,_,_,_,_,_,_,_,_,_,_,_,_,_,_],defers:=[] } _
     have G1':=G1.alloc (.cells zEx 30)
     have hO1:=Own.new w1 30 zEx
     have hs1:=G1.res.lt
     refine dr_one 4 rfl rfl (by kernel_rfl) ?_
     refine wp_call (vs:=#[.pointer (some ⟨c.X,0,none⟩),.int .i64 (d+1)]) rfl rfl (enters_of Tryz.func106 (by kernel_rfl) rfl) (by simp [Act.eval]) (HC.out _ (G1'.run.rd HR.out)) ?_
     rintro e w2 ⟨hf2,hm⟩
     rcases Y with ⟨e0,r0⟩ | ⟨p,q⟩
     rotate_left
     · obtain rfl := hm
       exact ⟨rfl,G1'.run.fr.trans hf2,rfl⟩
     obtain ⟨v,k2,rfl,⟨a4,cap4,rfl,hV⟩,hR2,rfl⟩:=hm
     have G2:=G1'.call hf2 (G1'.run.call hf2 hR2) hX.out HX.out.1 HX.out.2
     refine ⟨⟨G2.box,G2.tok⟩,?_⟩
     change wpAnyH _ _ _ _ _ _ _ { tmps:=#[_,_,_,_,_,_,_,_,_,_,_,_,_,_,_,_,_,_,_],defers:=[] } _
     refine dr_one 6 rfl rfl (by kernel_rfl) ?_
     have hXX:=hX.out
     have hO:=hO1.fr hf2 (by omega)
     refine wp_store_row 30 _ _ rfl w1.heap.size #[.int .u8 e0.kind,.int .u8 e0.op,.int .i64 e0.wd,.string e0.name,.slice a4 e0.kids.length cap4,.int .i64 e0.pos] rfl rfl 30 zEx hO (by kernel_rfl) rfl (by kernel_rfl) ?_
     have G3:=G2.row #[.int .u8 e0.kind,.int .u8 e0.op,.int .i64 e0.wd,.string e0.name,.slice a4 e0.kids.length cap4,.int .i64 e0.pos] (g:=w1.heap.size) (by omega) hX.out HX.out.1 HX.out.2 HL.out.2
     refine ⟨⟨G3.box,G3.tok⟩,wpAnyH_done (by kernel_rfl) ?_ _⟩
     refine tail w1.heap.size _ e0 a4 cap4 k2 rfl G3 (hO.row _) (by omega) ?_
     have hV2:=exsAt_stays (stays_row _ (g:=w1.heap.size) #[.int .u8 e0.kind,.int .u8 e0.op,.int .i64 e0.wd,.string e0.name,.slice a4 e0.kids.length cap4,.int .i64 e0.pos] (fun b hb=>by have:=hb;simp at this;omega)) (fun b hb=>hb) hV
     exact exsAt_mono hV2 (fun b hb=>by simp at hb;omega)
 · refine wp_alloc_ex rfl ⟨⟨(G0.alloc _).box, (G0.alloc _).tok⟩, ?_⟩
   change wpAnyH _ _ _ _ _ _ _ { tmps:=#[_,_,_,_,_,_,_,_,_,_,_,_,_,_,_,_,_,_,_],defers:=[] } _
   have G0':=G0.alloc (.cells zEx 30)
   have hO0:=Own.new W0 30 zEx
   have hs0:=G0.res.lt
   refine dr_one 3 rfl rfl (by kernel_rfl) ?_
   refine wp_call (vs:=#[.agg #[.int .u8 tk,.string tx,.int .i64 tw,.int .i64 tp],.int .i64 d]) rfl rfl (enters_of Tryz.func129 (by kernel_rfl) rfl) (by simp [Act.eval]) (hd.out _) ?_
   rintro e w1 ⟨rfl,hb⟩
   have G1:=G0'.below hb
   refine ⟨⟨G1.box,G1.tok⟩,?_⟩
   change wpAnyH _ _ _ _ _ _ _ { tmps:=#[_,_,_,_,_,_,_,_,_,_,_,_,_,_,_,_,_,_,_],defers:=[] } _
   have hz1:=hb.size
   have hO1:=hO0.below hb
   refine dr_one 4 rfl rfl (by kernel_rfl) ?_
   refine wp_call (vs:=#[.pointer (some ⟨c.X,0,none⟩),.int .i64 (d+1)]) rfl rfl (enters_of Tryz.func106 (by kernel_rfl) rfl) (by simp [Act.eval]) (HC.out _ (G1.run.rd HR.out)) ?_
   rintro e w2 ⟨hf2,hm⟩
   rcases Y with ⟨e0,r0⟩ | ⟨p,q⟩
   rotate_left
   · obtain rfl := hm
     exact ⟨rfl,G1.run.fr.trans hf2,rfl⟩
   obtain ⟨v,k2,rfl,⟨a4,cap4,rfl,hV⟩,hR2,rfl⟩:=hm
   have G2:=G1.call hf2 (G1.run.call hf2 hR2) hX.out HX.out.1 HX.out.2
   refine ⟨⟨G2.box,G2.tok⟩,?_⟩
   change wpAnyH _ _ _ _ _ _ _ { tmps:=#[_,_,_,_,_,_,_,_,_,_,_,_,_,_,_,_,_,_,_],defers:=[] } _
   refine dr_one 6 rfl rfl (by kernel_rfl) ?_
   have hXX:=hX.out
   have hO:=hO1.fr hf2 (by omega)
   have hl1:=hO1.lt
   refine wp_store_row 30 _ _ rfl W0.heap.size #[.int .u8 e0.kind,.int .u8 e0.op,.int .i64 e0.wd,.string e0.name,.slice a4 e0.kids.length cap4,.int .i64 e0.pos] rfl rfl 30 zEx hO (by kernel_rfl) rfl (by kernel_rfl) ?_
   have G3:=G2.row #[.int .u8 e0.kind,.int .u8 e0.op,.int .i64 e0.wd,.string e0.name,.slice a4 e0.kids.length cap4,.int .i64 e0.pos] (g:=W0.heap.size) (by omega) hX.out HX.out.1 HX.out.2 HL.out.2
   refine ⟨⟨G3.box,G3.tok⟩,wpAnyH_done (by kernel_rfl) ?_ _⟩
   refine tail W0.heap.size _ e0 a4 cap4 k2 rfl G3 (hO.row _) (by omega) ?_
   have hV2:=exsAt_stays (stays_row _ (g:=W0.heap.size) #[.int .u8 e0.kind,.int .u8 e0.op,.int .i64 e0.wd,.string e0.name,.slice a4 e0.kids.length cap4,.int .i64 e0.pos] (fun b hb=>by have:=hb;omega)) (fun b hb=>hb) hV
   exact exsAt_mono hV2 (fun b hb=>by have:=hb;omega)
open Go.RowKit
set_option linter.unusedVariables false
theorem p_unary_bad {c:Par} {w:World} {k:Nat} (R:Rd c w k) (t:Tk) (b:Nat) (op:Int) (hb1:Own w b 68 #[c.ptr]) (hb2:Own w (b+1) 27 #[.int .u8 op]) :
 Calls Tryz.prog 128 #[tkV t,.int .i64 64,.pointer (some ⟨b,0,none⟩),.pointer (some ⟨b+1,0,none⟩)] w fun e w'=>e=.panicked (flt t.pos 3)∧Fr c w w':=by
 have HR:=Lib.hid R
 obtain ⟨tk,tx,tw,tp⟩:=t
 have hd:=Lib.hid (fun W=>p_deeper_bad ⟨tk,tx,tw,tp⟩ W)
 have c1:w.cell? ⟨b,0,none⟩=some c.ptr:=by rw [cell_of_row w b 0 _ _ _ hb1];rfl
 have c2:w.cell? ⟨b+1,0,none⟩=some (.int .u8 op):=by rw [cell_of_row w (b+1) 0 _ _ _ hb2];rfl
 have HL:=Lib.hid (And.intro hb1.lt hb2.lt)
 clear R hb1 hb2
 unfold tkV Par.ptr at *
 go_enter Tryz.func128,Tryz.ntmps128
 go_wp2_with fail
 have G0:UnG c w b op ⟨tk,tx,tw,tp⟩ ((w.alloc (.cells #[.int .u8 tk,.string tx,.int .i64 tw,.int .i64 tp] 111)).alloc (.cells zEx 30)).drew k:=by
  have hb:=((Below.refl w.heap.size w).alloc (Nat.le_refl _) (.cells #[.int .u8 tk,.string tx,.int .i64 tw,.int .i64 tp] 111)).alloc (by simp) (.cells zEx 30)
  have o2:=Own.new (w.alloc (.cells #[.int .u8 tk,.string tx,.int .i64 tw,.int .i64 tp] 111)) 30 zEx
  rw [World.size_alloc] at o2
  exact UnG.drew ⟨((At.start HR.out).alloc _).alloc _,(hb.cell (p:=⟨b,0,none⟩) HL.out.1).trans c1,(hb.cell (p:=⟨b+1,0,none⟩) HL.out.2).trans c2,(Own.new w _ _).alloc _,o2⟩
 refine wp_region_held (S:=fun W=>W.cell? ⟨b,0,none⟩=some (.pointer (some ⟨c.X,0,none⟩))∧Own W w.heap.size 111 #[.int .u8 tk,.string tx,.int .i64 tw,.int .i64 tp]) (by kernel_rfl) ?_
 obtain ⟨W0,hW0⟩:∃ W0,W0=((w.alloc (.cells #[.int .u8 tk,.string tx,.int .i64 tw,.int .i64 tp] 111)).alloc (.cells zEx 30)).drew:=⟨_,rfl⟩
 change wpAnyH _ _ _ _ _ _ _ _ ((w.alloc (.cells #[.int .u8 tk,.string tx,.int .i64 tw,.int .i64 tp] 111)).alloc (.cells zEx 30)).drew
 rw [← hW0] at G0 ⊢
 clear hW0
 refine dr_take 0 (.pointer (some ⟨c.X,0,none⟩)) rfl rfl (by kernel_rfl) (by kernel_rfl) (by kernel_rfl) (fun _ _ _ h=>h) ?_ ⟨G0.box,G0.tok⟩ ?_
 · rintro w' ⟨s1, s2⟩
   unfold execOp
   go_simp
 change wpAnyH _ _ _ _ _ _ _ { tmps:=#[_,_,_,_,_,_,_,_,_,_,_,_,_,_,_,_,_,_,_],defers:=[] } _
 refine dr_take 1 (.agg #[.int .u8 tk,.string tx,.int .i64 tw,.int .i64 tp]) rfl rfl (by kernel_rfl) (by kernel_rfl) (by kernel_rfl) (fun _ _ _ h=>h) ?_ ⟨G0.box,G0.tok⟩ ?_
 · rintro w' ⟨s1, s2⟩
   exact run_ld rowTok rfl rfl s2 rfl
 change wpAnyH _ _ _ _ _ _ _ { tmps:=#[_,_,_,_,_,_,_,_,_,_,_,_,_,_,_,_,_,_,_],defers:=[] } _
 refine dr_take 2 (.int .i64 64) rfl rfl (by kernel_rfl) (by kernel_rfl) (by kernel_rfl) (fun _ _ _ h=>h) (fun _ _=>rfl) ⟨G0.box,G0.tok⟩ ?_
 change wpAnyH _ _ _ _ _ _ _ { tmps:=#[_,_,_,_,_,_,_,_,_,_,_,_,_,_,_,_,_,_,_],defers:=[] } _
 refine dr_two 3 5 rfl rfl rfl rfl (by kernel_rfl) ?_ ?_
 · refine wp_call (vs := #[.agg #[.int .u8 tk, .string tx, .int .i64 tw, .int .i64 tp], .int .i64 64]) rfl rfl (enters_of Tryz.func129 (by kernel_rfl) rfl) (by simp [Act.eval]) (hd.out _) ?_
   rintro e w1 ⟨rfl,hb⟩
   exact ⟨rfl,rfl,G0.run.fr.trans (.of_below hb)⟩
 · refine wp_alloc_ex rfl ⟨⟨(G0.alloc _).box, (G0.alloc _).tok⟩, ?_⟩
   change wpAnyH _ _ _ _ _ _ _ { tmps:=#[_,_,_,_,_,_,_,_,_,_,_,_,_,_,_,_,_,_,_],defers:=[] } _
   refine dr_one 3 rfl rfl (by kernel_rfl) ?_
   refine wp_call (vs:=#[.agg #[.int .u8 tk,.string tx,.int .i64 tw,.int .i64 tp],.int .i64 64]) rfl rfl (enters_of Tryz.func129 (by kernel_rfl) rfl) (by simp [Act.eval]) (hd.out _) ?_
   rintro e w1 ⟨rfl,hb⟩
   exact ⟨rfl,rfl,(G0.alloc (.cells zEx 30)).run.fr.trans (.of_below hb)⟩
theorem p_inner_bad {c:Par} {w:World} {k:Nat} (R:Rd c w k) (t:Tk) :
 Calls Tryz.prog 96 #[c.ptr,tkV t,.int .i64 64] w fun e w'=>e=.panicked (flt t.pos 3)∧Fr c w w':=by
 obtain ⟨tk,tx,tw,tp⟩:=t
 have hd:=Lib.hid (fun W=>p_deeper_bad ⟨tk,tx,tw,tp⟩ W)
 have O4:=(Own.new w 111 #[.int .u8 tk,.string tx,.int .i64 tw,.int .i64 tp]).alloc (.cells zEx 30)
 have A0:=Lib.hid (((At.start R).alloc (.cells #[.int .u8 tk,.string tx,.int .i64 tw,.int .i64 tp] 111)).alloc (.cells zEx 30))
 clear R
 unfold tkV Par.ptr zEx at *
 go_enter Tryz.func96,Tryz.ntmps96
 go_wp2_with (first | (refine ld rowTok rfl rfl rfl O4 rfl ?_) | (go_at_call 129;refine (hd.out _).mono ?_;rintro e w1 ⟨rfl,hb⟩;have HB:=Lib.hid hb;clear hb))
 exact ⟨rfl,rfl,A0.out.fr.trans (.of_below HB.out)⟩
theorem p_inner {n:Nat} (H:BinC n) {c:Par} {w:World} {k:Nat} (R:Rd c w k) (t:Tk) (d:Int) (h0:0≤d) (h1:d<64) (hn:3*(c.at k).length+2≤n) :
 Calls Tryz.prog 96 #[c.ptr,tkV t,.int .i64 d] w (RdPost c w ((binE fnd c.L n 1 (d+1) (c.at k)).then fun e r=>(need c.L [41] r).then fun _ r=>.ok e r) (exR w.heap.size)):=by
 obtain ⟨Y,hY⟩:∃ Y,Y=binE fnd c.L n 1 (d+1) (c.at k):=⟨_,rfl⟩
 have HC:Hid (∀ W,Rd c W k→Calls Tryz.prog 64 #[c.ptr,.int .i64 1,.int .i64 (d+1)] W (RdPost c W Y (exR W.heap.size))):=fun W RW=>by rw [hY];exact H c W k 1 (d+1) RW (by omega) (by omega) (by omega) (by omega) hn
 rw [← hY]
 obtain ⟨tk,tx,tw,tp⟩:=t
 have hd:=Lib.hid (fun W=>p_deeper_ok ⟨tk,tx,tw,tp⟩ d h0 h1 W)
 have O4:=(Own.new w 111 #[.int .u8 tk,.string tx,.int .i64 tw,.int .i64 tp]).alloc (.cells zEx 30)
 have O6:=Own.new (w.alloc (.cells #[.int .u8 tk,.string tx,.int .i64 tw,.int .i64 tp] 111)) 30 zEx
 rw [World.size_alloc] at O6
 have O66:=Lib.hid O6
 have A0:=Lib.hid (((At.start R).alloc (.cells #[.int .u8 tk,.string tx,.int .i64 tw,.int .i64 tp] 111)).alloc (.cells zEx 30))
 have HR:=Lib.hid R
 have hX:=Lib.hid R.lt
 clear hY H R hn O6
 unfold tkV Par.ptr zEx at *
 go_enter Tryz.func96,Tryz.ntmps96
 go_wp2_with (first | (refine ld rowTok rfl rfl rfl O4 rfl ?_) | (go_at_call 129;refine (hd.out _).mono ?_;rintro e w1 ⟨rfl,hb⟩;have A1:=Lib.hid (A0.out.below hb);have O1:=Lib.hid (O66.out.below hb);clear hb))
 go_at_call 64
 refine (HC.out _ (A1.out.rd HR.out)).mono ?_
 rintro e w2 ⟨hf2,hm⟩
 rcases Y with ⟨e0,r0⟩ | ⟨p,q⟩
 rotate_left
 · obtain rfl := hm
   go_wp2_with fail
   exact ⟨rfl,A1.out.fr.trans hf2,rfl⟩
 obtain ⟨v,k2,rfl,⟨a4,cap4,rfl,hV⟩,hR2,rfl⟩:=hm
 have HZ:=Lib.hid (And.intro O1.out.lt (Keep.size hf2))
 have A2:=Lib.hid ((A1.out.call hf2 hR2).alloc (.cells #[.int .u8 e0.kind,.int .u8 e0.op,.int .i64 e0.wd,.string e0.name,.slice a4 e0.kids.length cap4,.int .i64 e0.pos] 30))
 have O2:=Lib.hid ((O1.out.fr hf2 (by have:=hX.out;omega)).alloc (.cells #[.int .u8 e0.kind,.int .u8 e0.op,.int .i64 e0.wd,.string e0.name,.slice a4 e0.kids.length cap4,.int .i64 e0.pos] 30))
 have N2:=Own.new w2 30 #[.int .u8 e0.kind,.int .u8 e0.op,.int .i64 e0.wd,.string e0.name,.slice a4 e0.kids.length cap4,.int .i64 e0.pos]
 have V2:=Lib.hid (exsAt_stays (stays_alloc _ w2 (.cells #[.int .u8 e0.kind,.int .u8 e0.op,.int .i64 e0.wd,.string e0.name,.slice a4 e0.kids.length cap4,.int .i64 e0.pos] 30)) (fun b hb=>hb) (exsAt_in hV))
 clear hf2 hR2 hV O4
 go_wp2_with fail
 obtain ⟨W,hW⟩:∃ W,W=w2.alloc (.cells #[.int .u8 e0.kind,.int .u8 e0.op,.int .i64 e0.wd,.string e0.name,.slice a4 e0.kids.length cap4,.int .i64 e0.pos] 30):=⟨_,rfl⟩
 rw [← hW] at A2 O2 N2 V2 ⊢
 clear hW
 by_cases hq:isT [41] (c.at k2)=true
 · go_at_call 127
   refine (p_take_ok (A2.out.rd HR.out) ⟨#[41]⟩ (by decide) hq).mono ?_
   rintro e w3 ⟨rfl,hf3,hR3⟩
   have hXX:=hX.out
   have hZ:=HZ.out
   have A3:=Lib.hid (A2.out.call hf3 hR3)
   have N3:=N2.fr hf3 (by omega)
   have O3:=O2.out.fr hf3 (by omega)
   have V3:=Lib.hid (exsAt_stays (R:=fun b=>w1.heap.size≤b∧b<w2.heap.size) (stays_fr hf3 (fun b hb=>by omega)) (fun b hb=>hb) V2.out)
   clear hf3 hR3 hXX hZ N2 O2
   go_wp2_with (first | (refine ld rowEx rfl rfl rfl N3 rfl ?_) | (refine st rowEx rfl rfl O3 rfl rfl (by rfl) (by rfl) (by kernel_rfl) ?_))
   have hXX:=hX.out
   have hZ:=HZ.out
   have A4:=A3.out.setRow (g:=w.heap.size+1) (by omega) (by omega) #[.int .u8 e0.kind,.int .u8 e0.op,.int .i64 e0.wd,.string e0.name,.slice a4 e0.kids.length cap4,.int .i64 e0.pos]
   have V4:=exsAt_stays (R:=fun b=>w1.heap.size≤b∧b<w2.heap.size) (stays_row w3 (g:=w.heap.size+1) #[.int .u8 e0.kind,.int .u8 e0.op,.int .i64 e0.wd,.string e0.name,.slice a4 e0.kids.length cap4,.int .i64 e0.pos] (fun b hb=>by omega)) (fun b hb=>hb) V3.out
   have e1:need c.L [41] (c.at k2)=.ok () (c.at (k2+1)):=by unfold need;rw [if_pos hq,Par.at_tail]
   refine p_ret rowEx rfl (O3.row #[.int .u8 e0.kind,.int .u8 e0.op,.int .i64 e0.wd,.string e0.name,.slice a4 e0.kids.length cap4,.int .i64 e0.pos]) rfl rfl rfl ?_
   simp only [PR.then_ok,e1]
   exact ⟨A4.fr,_,k2+1,rfl,⟨a4,cap4,rfl,exsAt_mono V4 (fun b hb=>by omega)⟩,A4.rd HR.out,rfl⟩
 · have hq' : isT [41] (c.at k2) = false := by simpa using hq
   have e1:need c.L [41] (c.at k2)=.bad (hdP c.L (c.at k2)) 2:=by unfold need;rw [if_neg hq]
   go_at_call 127
   refine (p_take_bad (A2.out.rd HR.out) ⟨#[41]⟩ (by decide) hq').mono ?_
   rintro e w3 ⟨rfl,hf3⟩
   have A3:=Lib.hid (A2.out.fr.trans hf3)
   clear hf3
   go_wp2_with fail
   refine ⟨rfl,?_⟩
   simp only [PR.then_ok,e1,PR.then_bad]
   exact ⟨A3.out,rfl⟩
end Go.Proofs.YtggbkldniffbfaaGreatDoor

/- The proof, part 24: texts that belong together, in one. -/
import Derived.Test.YtmpljhfinmfnbaaGreatDoorQAW
set_option maxRecDepth 100000
set_option maxHeartbeats 20000000
namespace Go.Proofs.YtmpljhfinmfnbaaGreatDoor
open Go.RowKit
set_option linter.unusedVariables false
set_option maxRecDepth 100000
theorem wp_ldJ {o:Oper} {a:Act} {w:World} {K:Act→World→Prop} {Q:Exit→Act→World→Prop} {x:Operand} (ho:o.op=.load 68 x) {p:Addr} (hx:a.eval x=.pointer (some p)) {v:Value} (hv:w.cell? p=some v) (h:K (a.put o.dst v) w):o.wp Tryz.prog a w K Q:=by
 have hrun:(execOp a.eval o).run Tryz.prog w=.ok (.value v) w:=by
  unfold execOp
  simp only [ho,hx]
  go_simp
 unfold Oper.wp
 rw [hrun]
 exact h
theorem wp_stJ {o:Oper} {a:Act} {w:World} {K:Act→World→Prop} {Q:Exit→Act→World→Prop} {x y:Operand} (ho:o.op=.store 68 x y) {p:Addr} (hx:a.eval x=.pointer (some p)) {s:Option Addr} {n cp:Nat} (hy:a.eval y=.slice s n cp) {u:Value} (hu:w.cell? p=some u) (hf:w.frozen? p=false) (h:K (a.put o.dst undef) (w.setCell p (.slice s n cp))):o.wp Tryz.prog a w K Q:=by
 have hrun:(execOp a.eval o).run Tryz.prog w=.ok .skip (w.setCell p (.slice s n cp)):=by
  unfold execOp
  simp only [ho,hx,hy]
  go_simp
 unfold Oper.wp
 rw [hrun]
 exact h
theorem run_ldT {o:Oper} {a:Act} {w:World} {T:TypeId} {n:Nat} (hT:RowT T n) {x:Operand} (ho:o.op=.load T x) {g:Nat} (hx:a.eval x=.pointer (some ⟨g,0,none⟩)) {cs:Array Value} (hg:Own w g T cs) (hn:cs.size=n):(execOp a.eval o).run Tryz.prog w=.ok (.value (.agg cs)) w:=by
 obtain ⟨d,h1,h2,h3⟩:=hT
 unfold execOp
 simp only [ho,hx,Instr.loadAt,Instr.sureAddr,Sem.run_bind,Sem.run_pure,Result.andThen_ok,run_loadVar_row w g T T cs (0,0) d hg h1 (by cases d <;> first | rfl | cases h2) (by rw [h3,hn])]
theorem rowPt:RowT 235 1:=⟨_,Tryz.underlying235,rfl,by kernel_rfl⟩
theorem beg_rg (l:List UInt8):rgI (begS l).1:=by
 unfold begS
 split
 · simp [insK,rgI]
 · split
   · next k hk =>
     have:=fnd_lt hk
     simp only [insK,rgI]
     omega
   · split
     · next o ho =>
       have:=fnd_lt ho
       simp only [insK,rgI]
       omega
     · simp [insK,rgI]
theorem in_kept {w X:World} {B p g b ib:Nat} {t:Pst} {o:Ob} {v1 v:Value} {L L0:List (Cor × Value)} {c:Cor} {gb cap:Nat} (i:Ins) (hX:Rq w B p g b (t,o) X) (hr:RdS B g o v1 (.slice (some ⟨gb,0,none⟩) L.length cap) L X) (hL:L=L0++[(c,v)]) (hi:Own X ib 75 (insC i).toArray) (hne:v.ownBlock≠some ib) (hn:c.code.length≤1000000) (hB:B≤p) :
 Calls Tryz.prog 176 #[v,.agg #[.int .u8 i.k,.int .u8 i.o,.int .i64 i.d,.int .i64 i.a,.int .i64 i.b,.int .i64 i.ad,.int .i64 i.tt,.int .i64 i.wd,.int .i64 i.fr],.int .i64 16384] X fun e w'=>∃ a n cp,e=.returned (.slice a n cp)∧(∃ u,w'.cell? ⟨gb,L0.length*2+1,none⟩=some u)∧w'.frozen? ⟨gb,L0.length*2+1,none⟩=false∧Own w' ib 75 (insC i).toArray∧Own (w'.setCell ⟨gb,L0.length*2+1,none⟩ (.slice a n cp)) ib 75 (insC i).toArray∧Rq w B p g b (t,{ o with cores:=pushI o.cores i }) (w'.setCell ⟨gb,L0.length*2+1,none⟩ (.slice a n cp)):=by
 obtain ⟨bl,k1,k2,k3,k4⟩:=hr.codes.last L0 (c,v) hL
 refine (kept_i i.k i.o i.d i.a i.b i.ad i.tt i.wd i.fr k3 k2 hn 16384 (by omega) (by omega)).mono fun e w' hk=>?_
 obtain ⟨v',rfl,hg,hr2⟩:=kept_use k3 hk
 obtain ⟨a5,c5,rfl⟩:=row_slice hr2
 obtain ⟨hlt,cur,hcur,hat⟩:B≤gb∧∃ cur,Own X gb 70 cur∧∀ j u,(flatC L)[j]? = some u→cur[j]? = some u:=by
  rcases hr.cors.2 with ⟨hv,_⟩ | ⟨g',cap',cur,hv,h1,h2,h3,h4,h5,h6⟩
  · cases hv
  · obtain rfl : gb = g' := by injection hv with e1 _ e2; injection e1 with e1; injection e1 with e1
    refine ⟨h1,cur,h2,fun j u hj=>?_⟩
    rw [← h6,List.getElem?_take] at hj
    split at hj
    · simpa using hj
    · cases hj
 have hcur2:=own_grow hcur k3 rfl hg
 have hi2:Own w' ib 75 (insC i).toArray:=(hg.block ib hi.lt (fun e=>hne e.symm)).trans hi
 have hn2:gb≠ib:=own_ne hcur2 hi2 rfl
 have hset:=hr.setCode hL k1 k2 k4 k3 i hg rfl hr2
 have hc1:=hat (L0.length*2+1) v (by
  have:=(flatC_get L L0.length (c,v) (by rw [hL];simp)).2
  exact this)
 refine ⟨_,_,_,rfl,⟨v,by rw [cell_of_row _ _ _ _ _ _ hcur2];exact hc1⟩,own_frozen hcur2 _,hi2,own_set_other hi2 hn2 _,hX.put (row_mono k3 k1) rfl rfl hg hcur2 rfl rfl hlt hB _ _ ⟨v1,_,_,hset⟩⟩
theorem keep_fresh2 {W V:World} {p q:Nat} (h:Keep (fun k _=>k≠p∧k≠q) W V) (hq:W.heap.size≤q):Keep (fun k _=>k≠p) W V :=
 ⟨h.os,h.tape,h.output,h.size,fun k x hk hs=>h.block k x hk ⟨hs,by have:=(Array.getElem?_eq_some_iff.1 hk).1;omega⟩⟩
theorem Rq.p2 {w X W:World} {B p g b q:Nat} {y:Pst × Ob} {s':Pst} {ty:TypeId} {row:Array Value} (h:Rq w B p g b y X) (k:P2 X B p s' q ty row W) (hq:X.heap.size≤q) (hb:b≠p):Rq w B p g b (s',y.2) W :=
 ⟨h.rp.line k.own (keep_fresh2 k.keep hq) k.bel,k.other h.bx hb (by have:=h.bx.lt;omega)⟩
theorem RdS.p2 {X W:World} {B p g q:Nat} {o:Ob} {v1 v5:Value} {L:List (Cor × Value)} {s s':Pst} {ty:TypeId} {row:Array Value} (h:RdS B g o v1 v5 L X) (hp:Own X p 256 s.row) (k:P2 X B p s' q ty row W) (hq:X.heap.size≤q):RdS B g o v1 v5 L W:=h.keep hp (own_ne h.own hp rfl) rfl rfl rfl (keep_fresh2 k.keep hq)
theorem t_instruction (t:ByteArray) {w:World} {B p g:Nat} {y:Pst × Ob} (h:Rp w B p g y w) (hs:y.1.rest.size≤4611686018427387904) (hc:y.2.cores≠[]) (hf:FitT y.2) (hB:B≤p) (hB2:B≤g) (HT:∀ X,Below B w X→TgT X) :
 Calls Tryz.prog 157 #[.pointer (some ⟨g,0,none⟩),.string t,.agg #[.pointer (some ⟨p,0,none⟩)]] w fun e w'=>e=.returned (.bool (inS t y).1)∧∃ s',Rp w B p g (s',(inS t y).2) w':=by
 have hq0:=h.box hB
 have hn1:w.heap.size≠p:=by have:=h.own.lt;omega
 have hi0:=beg_rg t.data.toList
 have HBG:Hid (∀ X,Rq w B p g w.heap.size y X→Calls Tryz.prog 173 #[.string t] X fun e w'=>e=begE (begS t.data.toList)∧Rq w B p g w.heap.size y w'):=fun X hX=>(begun_any t X (HT X hX.rp.bel)).mono fun _ _ ⟨e1,e2⟩=>⟨e1,hX.below e2 hB⟩
 obtain ⟨W0,hW0⟩:∃ W,W=w.alloc (.cells #[.pointer (some ⟨p,0,none⟩)] 235):=⟨_,rfl⟩
 rw [← hW0] at hq0
 have HW0:=Lib.hid hW0
 have HBP:=Lib.hid hB
 have HP0:=Lib.hid hq0
 unfold inS
 generalize begS t.data.toList=r at hi0 HBG ⊢
 obtain ⟨i0,is⟩:=r
 have HI0:Hid (rgI i0):=hi0
 have HTT:=Lib.hid HT
 have HST:=Lib.hid (And.intro hs (And.intro hc hf))
 have HHB:=Lib.hid (And.intro hn1 hB2)
 clear hi0 HT hs hc hf h hB hB2 hq0 hn1 hW0
 cases is with
 | false =>
   show Calls _ _ _ _ fun e w'=>e=.returned (.bool false)∧∃ s',Rp w B p g (s',y.2) w'
   obtain ⟨k,o,d,a,bb,ad,tt,wd,fr⟩:=i0
   simp only [begE,insV,insC] at HBG
   go_enter Tryz.func157,Tryz.ntmps157
   go_upto_region 1 with (fail)
   rw [← HW0.out]
   clear HW0
   go_wp2_with (first | (go_at_call 173;refine (HBG.out _ HP0.out).mono ?_;rintro e w2 ⟨rfl,hq⟩;have HQ2:=Lib.hid (hq.below (Below.of_row ((Below.refl _ w2).alloc (Nat.le_refl _) (.cells #[.int .u8 0,.int .u8 0,.int .i64 0,.int .i64 0,.int .i64 0,.int .i64 0,.int .i64 0,.int .i64 0,.int .i64 0] 75)) (Nat.le_refl _) #[.int .u8 k,.int .u8 o,.int .i64 d,.int .i64 a,.int .i64 bb,.int .i64 ad,.int .i64 tt,.int .i64 wd,.int .i64 fr]) HBP.out);have O1:=Own.new w2 75 #[.int .u8 0,.int .u8 0,.int .i64 0,.int .i64 0,.int .i64 0,.int .i64 0,.int .i64 0,.int .i64 0,.int .i64 0];clear hq) | (refine st rowI rfl rfl O1 rfl rfl (by rfl) (by rfl) (by kernel_rfl) ?_))
   go_ret
   exact ⟨rfl,y.1,HQ2.out.rp⟩
 | true =>
   show Calls _ _ _ _ fun e w'=>e=.returned (.bool (doneB (insS y.1 i0).1))∧∃ s',Rp w B p g (s',{ y.2 with cores:=pushI y.2.cores (insS y.1 i0).2 }) w'
   have HV:Hid (∀ (X:World) (W:World),Rq w B p g w.heap.size y X→P2 X B p y.1 X.heap.size 75 (insC i0).toArray W→Calls Tryz.prog 113 #[.agg #[.func (.func 174) #[.agg #[.pointer (some ⟨p,0,none⟩)]] #[],.func (.func 166) #[.pointer (some ⟨p,0,none⟩)] #[],.func (.func 169) #[.pointer (some ⟨p,0,none⟩)] #[]],.pointer (some ⟨X.heap.size,0,none⟩)] W fun e w'=>e=.returned (.tuple #[])∧P2 X B p (vS (uB i0.k i0.o) 6 (y.1,i0)).1 X.heap.size 75 (insC (vS (uB i0.k i0.o) 6 (y.1,i0)).2).toArray w'):=fun X W hX k =>
    (p_visit i0 HI0.out k.own HST.out.1 k.dst (by have:=hX.rp.own.lt;omega) HBP.out (by have:=hX.rp.own.lt;have:=HBP.out;omega) (fun V hV=>HTT.out V ((hX.rp.bel.trans k.bel).trans hV))).mono fun _ _ ⟨e1,e2⟩=>⟨e1,k.trans e2⟩
   have HMO:Hid (∀ (X:World) (s:Pst),Own X p 256 s.row→Calls Tryz.prog 168 #[.pointer (some ⟨p,0,none⟩)] X fun e w'=>e=.returned (.bool s.more)∧X=w'):=fun X s h1=>p_more h1
   have HDN:Hid (∀ X (y:Pst × Ob),Rq w B p g w.heap.size y X→Calls Tryz.prog 167 #[.pointer (some ⟨p,0,none⟩)] X fun e w'=>e=.returned (.bool (doneB y.1))∧X=w'):=fun X y h1=>p_done h1.rp.own
   have HOR:Hid (∀ (X W:World) (s:Pst) (i:Ins),Rq w B p g w.heap.size y X→s.rest.size≤4611686018427387904→P2 X B p s X.heap.size 75 (insC i).toArray W→Calls Tryz.prog 175 #[.agg #[.pointer (some ⟨p,0,none⟩)],.pointer (some ⟨X.heap.size,8,none⟩)] W fun e w'=>e=.returned (.tuple #[])∧P2 X B p (oriS s).2 X.heap.size 75 (insC { i with fr:=(oriS s).1 }).toArray w'):=fun X W s i hX h2 k =>
    (p_origin k.own h2 k.dst (by have:=hX.rp.own.lt;omega) (u:=.int .i64 i.fr) rfl HBP.out (by have:=hX.rp.own.lt;have:=HBP.out;omega)).mono fun _ _ ⟨e1,e2⟩=>⟨e1,k.trans e2⟩
   have HSZ:Hid ((vS (uB i0.k i0.o) 6 (y.1,i0)).1.rest.size≤4611686018427387904):=Nat.le_trans (vS_size _ (y.1,i0) 6) HST.out.1
   unfold insS
   generalize vS (uB i0.k i0.o) 6 (y.1,i0)=z at HV HSZ ⊢
   obtain ⟨s1,i1⟩:=z
   simp only at HV HSZ ⊢
   obtain ⟨F,hF⟩:∃ F:Pst × Ins,F=(bif s1.more then ((oriS s1).2,{ i1 with fr:=(oriS s1).1 }) else (s1,i1)):=⟨_,rfl⟩
   have HFR:Hid (F=(bif s1.more then ((oriS s1).2,{ i1 with fr:=(oriS s1).1 }) else (s1,i1))):=hF
   rw [← hF]
   clear hF
   have HIV:Hid (insC i0=[.int .u8 i0.k,.int .u8 i0.o,.int .i64 i0.d,.int .i64 i0.a,.int .i64 i0.b,.int .i64 i0.ad,.int .i64 i0.tt,.int .i64 i0.wd,.int .i64 i0.fr]):=rfl
   obtain ⟨k,o,d,a,bb,ad,tt,wd,fr⟩:=i0
   simp only [begE,insV,insC] at HBG HV
   go_enter Tryz.func157,Tryz.ntmps157
   go_upto_region 1 with (fail)
   rw [← HW0.out]
   clear HW0
   go_upto_region 4 with (first | (go_at_call 173;refine (HBG.out _ HP0.out).mono ?_;rintro e w2 ⟨rfl,hq⟩;have O1:=Own.new w2 75 #[.int .u8 0,.int .u8 0,.int .i64 0,.int .i64 0,.int .i64 0,.int .i64 0,.int .i64 0,.int .i64 0,.int .i64 0];have HQ2:=Lib.hid hq;clear hq) | (refine st rowI rfl rfl O1 rfl rfl (by rfl) (by rfl) (by kernel_rfl) ?_))
   clear HP0 HBG
   have OI:=O1.row #[.int .u8 k,.int .u8 o,.int .i64 d,.int .i64 a,.int .i64 bb,.int .i64 ad,.int .i64 tt,.int .i64 wd,.int .i64 fr]
   have BI:Below w2.heap.size w2 ((w2.alloc (.cells #[.int .u8 0,.int .u8 0,.int .i64 0,.int .i64 0,.int .i64 0,.int .i64 0,.int .i64 0,.int .i64 0,.int .i64 0] 75)).setRow w2.heap.size #[.int .u8 k,.int .u8 o,.int .i64 d,.int .i64 a,.int .i64 bb,.int .i64 ad,.int .i64 tt,.int .i64 wd,.int .i64 fr]):=Below.of_row ((Below.refl _ w2).alloc (Nat.le_refl _) (.cells #[.int .u8 0,.int .u8 0,.int .i64 0,.int .i64 0,.int .i64 0,.int .i64 0,.int .i64 0,.int .i64 0,.int .i64 0] 75)) (Nat.le_refl _) #[.int .u8 k,.int .u8 o,.int .i64 d,.int .i64 a,.int .i64 bb,.int .i64 ad,.int .i64 tt,.int .i64 wd,.int .i64 fr]
   obtain ⟨W1,hW1⟩:∃ W,W=(w2.alloc (.cells #[.int .u8 0,.int .u8 0,.int .i64 0,.int .i64 0,.int .i64 0,.int .i64 0,.int .i64 0,.int .i64 0,.int .i64 0] 75)).setRow w2.heap.size #[.int .u8 k,.int .u8 o,.int .i64 d,.int .i64 a,.int .i64 bb,.int .i64 ad,.int .i64 tt,.int .i64 wd,.int .i64 fr]:=⟨_,rfl⟩
   rw [← hW1] at OI BI ⊢
   clear hW1 O1
   have HK1:Hid (P2 w2 B p y.1 w2.heap.size 75 #[.int .u8 k,.int .u8 o,.int .i64 d,.int .i64 a,.int .i64 bb,.int .i64 ad,.int .i64 tt,.int .i64 wd,.int .i64 fr] W1):=⟨HQ2.out.rp.own.below BI,OI,keep_below BI,BI.mono (by have:=HQ2.out.rp.own.lt;have:=HBP.out;omega)⟩
   have OB:=HQ2.out.bx.below BI
   have c0:W1.cell? ⟨w.heap.size,0,none⟩=some (.pointer (some ⟨p,0,none⟩)):=by rw [cell_of_row _ _ 0 _ _ _ OB];rfl
   clear OI BI
   go_wp2_with (refine ld rowPt rfl rfl rfl OB rfl ?_)
   go_at_call 113
   refine (HV.out _ _ HQ2.out HK1.out).mono ?_
   rintro e w3 ⟨rfl,hk⟩
   have HK3:=Lib.hid hk
   have OB3:=hk.other HQ2.out.bx HHB.out.1 (by have:=HQ2.out.bx.lt;omega)
   have c3:w3.cell? ⟨w.heap.size,0,none⟩=some (.pointer (some ⟨p,0,none⟩)):=by rw [cell_of_row _ _ 0 _ _ _ OB3];rfl
   have HMO3:Hid (Calls Tryz.prog 168 #[.pointer (some ⟨p,0,none⟩)] w3 fun e w'=>e=.returned (.bool s1.more)∧w3=w'):=HMO.out _ _ hk.own
   clear hk HK1 OB c0 HV HMO
   obtain ⟨v1,v5,L,hr⟩:=HQ2.out.rp.rd
   have hL0:L≠[]:=fun e=>HST.out.2.1 (by rw [← hr.fst,e];rfl)
   obtain ⟨L0,c,v,rfl⟩:∃ L0 c v,L=L0++[(c,v)]:=⟨L.dropLast,(L.getLast hL0).1,(L.getLast hL0).2,(List.dropLast_concat_getLast hL0).symm⟩
   obtain ⟨gb,cap,rfl,hgb,_⟩:=row_at hr.cors (by simp)
   have hcm:c∈y.2.cores:=by rw [← hr.fst];simp
   have HLN:Hid (c.code.length≤1000000):=by have:=HST.out.2.2.code c hcm;show _≤_;omega
   have HL9:Hid (L0.length≤8):=by
    have h1:=HST.out.2.2.cors
    rw [← hr.fst] at h1
    simp at h1
    show _≤_
    omega
   have HNE:Hid (v.ownBlock≠some w2.heap.size):=fun e=>by
    have:=(row_lt (hr.codes.rows (c,v) (by simp)) e).2
    omega
   obtain ⟨a2,c2,hv⟩:=row_slice (hr.codes.rows (c,v) (by simp))
   simp only at hv
   subst hv
   have HR2:=Lib.hid hr
   obtain ⟨m,hm⟩:∃ m,m=L0.length:=⟨_,rfl⟩
   have HM:=Lib.hid hm
   have hm8:m≤8:=by have:=HL9.out;omega
   obtain ⟨n2,hn2⟩:∃ n,n=c.code.length:=⟨_,rfl⟩
   have HN2:=Lib.hid hn2
   have HALL:Hid (∀ W,P2 w2 B p F.1 w2.heap.size 75 (insC F.2).toArray W→Rq w B p g w.heap.size (F.1,y.2) W∧RdS B g y.2 v1 (.slice (some ⟨gb,0,none⟩) (L0++[(c,Value.slice a2 c.code.length c2)]).length cap) (L0++[(c,Value.slice a2 c.code.length c2)]) W∧Own W w2.heap.size 75 (insC F.2).toArray∧W.cell? ⟨g,4,none⟩=some (.slice (some ⟨gb,0,none⟩) (m+1) cap)∧W.cell? ⟨gb,m*2+1,none⟩=some (.slice a2 n2 c2)):=fun W hk=>by
    have h4:=HR2.out.p2 HQ2.out.rp.own hk (Nat.le_refl _)
    refine ⟨HQ2.out.p2 hk (Nat.le_refl _) HHB.out.1,h4,hk.dst,?_,?_⟩
    · rw [cell_of_row _ _ 4 _ _ _ h4.own, HM.out]
      simp
    · obtain ⟨gb', cap', e, _, hat⟩ := row_at h4.cors (by simp)
      injection e with e1 _ e2
      injection e1 with e1
      injection e1 with e1
      subst e1
      rw [HM.out,HN2.out]
      exact hat _ _ (flatC_get _ L0.length (c,Value.slice a2 c.code.length c2) (by simp)).2
   have HKK:Hid (∀ X i,Rq w B p g w.heap.size (F.1,y.2) X→RdS B g y.2 v1 (.slice (some ⟨gb,0,none⟩) (L0++[(c,Value.slice a2 c.code.length c2)]).length cap) (L0++[(c,Value.slice a2 c.code.length c2)]) X→Own X w2.heap.size 75 (insC i).toArray→Calls Tryz.prog 176 #[.slice a2 n2 c2,.agg #[.int .u8 i.k,.int .u8 i.o,.int .i64 i.d,.int .i64 i.a,.int .i64 i.b,.int .i64 i.ad,.int .i64 i.tt,.int .i64 i.wd,.int .i64 i.fr],.int .i64 16384] X fun e w'=>∃ a n cp,e=.returned (.slice a n cp)∧(∃ u,w'.cell? ⟨gb,m*2+1,none⟩=some u)∧w'.frozen? ⟨gb,m*2+1,none⟩=false∧Own w' w2.heap.size 75 (insC i).toArray∧Own (w'.setCell ⟨gb,m*2+1,none⟩ (.slice a n cp)) w2.heap.size 75 (insC i).toArray∧Rq w B p g w.heap.size (F.1,{ y.2 with cores:=pushI y.2.cores i }) (w'.setCell ⟨gb,m*2+1,none⟩ (.slice a n cp))):=fun X i h1 h2 h3=>by
    rw [HM.out,HN2.out]
    exact in_kept i h1 h2 rfl h3 HNE.out HLN.out HBP.out
   clear hr hL0 hgb hcm hm hn2
   cases hmo:s1.more with
   | false =>
     have HMO4:Hid (Calls Tryz.prog 168 #[.pointer (some ⟨p,0,none⟩)] w3 fun e w'=>e=.returned (.bool false)∧w3=w'):=by rw [← hmo];exact HMO3.out
     have hF2:F=(s1,i1):=by rw [HFR.out,hmo];rfl
     have HK4:Hid (P2 w2 B p F.1 w2.heap.size 75 (insC F.2).toArray w3):=by rw [hF2];exact HK3.out
     clear hF2 hmo HMO3 HK3 HFR
     go_upto_region 7 with (go_at_call 168;refine HMO4.out.mono ?_;rintro e w' ⟨rfl,rfl⟩)
     have HW:=Lib.hid HK4.out
     clear HK4 c3 OB3
     have d4:=(HALL.out _ HW.out).2.2.2.1
     go_quiet (fail)
     have HK6:=Lib.hid ((HW.out.below (below_drewN (Below.refl _ w3) nq) HBP.out).below (below_drewN (Below.refl _ _) 1) HBP.out)
     obtain ⟨W5,hW5⟩:∃ W,W=w3.drewN nq:=⟨_,rfl⟩
     rw [← hW5] at HK6 ⊢
     clear hW5 d4 HW
     go_wp2_with fail
     refine wp_region_held (S:=fun V=>Own V w2.heap.size 75 (insC F.2).toArray) (by kernel_rfl) ?_
     change wpAnyH _ _ _ _ _ _ _ _ W5.drew
     change Hid (P2 _ _ _ _ _ _ _ W5.drew) at HK6
     obtain ⟨W6,hW6⟩:∃ W,W=W5.drew:=⟨_,rfl⟩
     rw [← hW6] at HK6 ⊢
     clear hW6
     obtain ⟨hq6,hr6,hi6,_,e6⟩:=HALL.out _ HK6.out
     have HQ6:=Lib.hid hq6
     have HR6:=Lib.hid hr6
     have HSX:=Lib.hid hi6
     clear hq6 hr6 hi6 HK6
     change wpAnyH _ _ _ _ _ _ _ { tmps:=List.toArray (_::_::_::_::_::_::_::_::_::_::_::_::_::_::_::_::_::_::_::_::_::_::_::_::_::_::_::_::_::_::_::_::_::_::_::_::_::_::_::_::_::_::_::_::_::_::_::_::_::_::_::_::_::_::_::_::_::_::[]),defers:=[] } _
     refine dr_take 0 (.pointer (some ⟨gb,m*2,none⟩)) rfl rfl (by kernel_rfl) (by kernel_rfl) (by kernel_rfl) (fun _ _ _ h=>h) (fun _ _=>by unfold execOp;go_simp) HSX.out ?_
     change wpAnyH _ _ _ _ _ _ _ { tmps:=List.toArray (_::_::_::_::_::_::_::_::_::_::_::_::_::_::_::_::_::_::_::_::_::_::_::_::_::_::_::_::_::_::_::_::_::_::_::_::_::_::_::_::_::_::_::_::_::_::_::_::_::_::_::_::_::_::_::_::_::_::[]),defers:=[] } _
     refine dr_take 1 (.pointer (some ⟨gb,m*2,none⟩)) rfl rfl (by kernel_rfl) (by kernel_rfl) (by kernel_rfl) (fun _ _ _ h=>h) (fun _ _=>by unfold execOp;go_simp) HSX.out ?_
     change wpAnyH _ _ _ _ _ _ _ { tmps:=List.toArray (_::_::_::_::_::_::_::_::_::_::_::_::_::_::_::_::_::_::_::_::_::_::_::_::_::_::_::_::_::_::_::_::_::_::_::_::_::_::_::_::_::_::_::_::_::_::_::_::_::_::_::_::_::_::_::_::_::_::[]),defers:=[] } _
     refine dr_take 2 (.pointer (some ⟨gb,m*2,none⟩)) rfl rfl (by kernel_rfl) (by kernel_rfl) (by kernel_rfl) (fun _ _ _ h=>h) (fun _ _=>by unfold execOp;go_simp) HSX.out ?_
     change wpAnyH _ _ _ _ _ _ _ { tmps:=List.toArray (_::_::_::_::_::_::_::_::_::_::_::_::_::_::_::_::_::_::_::_::_::_::_::_::_::_::_::_::_::_::_::_::_::_::_::_::_::_::_::_::_::_::_::_::_::_::_::_::_::_::_::_::_::_::_::_::_::_::[]),defers:=[] } _
     refine dr_take 3 (.pointer (some ⟨gb,m*2+1,none⟩)) rfl rfl (by kernel_rfl) (by kernel_rfl) (by kernel_rfl) (fun _ _ _ h=>h) (fun _ _=>by unfold execOp;go_simp) HSX.out ?_
     change wpAnyH _ _ _ _ _ _ _ { tmps:=List.toArray (_::_::_::_::_::_::_::_::_::_::_::_::_::_::_::_::_::_::_::_::_::_::_::_::_::_::_::_::_::_::_::_::_::_::_::_::_::_::_::_::_::_::_::_::_::_::_::_::_::_::_::_::_::_::_::_::_::_::[]),defers:=[] } _
     refine dr_take 5 (.agg #[.int .u8 F.2.k,.int .u8 F.2.o,.int .i64 F.2.d,.int .i64 F.2.a,.int .i64 F.2.b,.int .i64 F.2.ad,.int .i64 F.2.tt,.int .i64 F.2.wd,.int .i64 F.2.fr]) rfl rfl (by kernel_rfl) (by kernel_rfl) (by kernel_rfl) (fun _ _ _ h=>h) (fun _ h=>run_ldT rowI rfl rfl h rfl) HSX.out ?_
     change wpAnyH _ _ _ _ _ _ _ { tmps:=List.toArray (_::_::_::_::_::_::_::_::_::_::_::_::_::_::_::_::_::_::_::_::_::_::_::_::_::_::_::_::_::_::_::_::_::_::_::_::_::_::_::_::_::_::_::_::_::_::_::_::_::_::_::_::_::_::_::_::_::_::[]),defers:=[] } _
     refine dr_one 4 rfl rfl (by kernel_rfl) ?_
     refine wp_ldJ rfl rfl e6 ⟨HSX.out,?_⟩
     change wpAnyH _ _ _ _ _ _ _ { tmps:=List.toArray (_::_::_::_::_::_::_::_::_::_::_::_::_::_::_::_::_::_::_::_::_::_::_::_::_::_::_::_::_::_::_::_::_::_::_::_::_::_::_::_::_::_::_::_::_::_::_::_::_::_::_::_::_::_::_::_::_::_::[]),defers:=[] } _
     refine dr_one 6 rfl rfl (by kernel_rfl) ?_
     refine wp_callT (vs:=#[.slice a2 n2 c2,.agg #[.int .u8 F.2.k,.int .u8 F.2.o,.int .i64 F.2.d,.int .i64 F.2.a,.int .i64 F.2.b,.int .i64 F.2.ad,.int .i64 F.2.tt,.int .i64 F.2.wd,.int .i64 F.2.fr],.int .i64 16384]) rfl rfl (enters_of Tryz.func176 (by kernel_rfl) rfl) (by simp [Act.eval]) (HKK.out _ _ HQ6.out HR6.out HSX.out) ?_
     rintro e w7 ⟨a6,n6,c6,rfl,⟨u,d7⟩,f7,e7,e8,hq7⟩
     have HX7:=Lib.hid e7
     have HX8:=Lib.hid e8
     clear e7 e8
     refine ⟨HX7.out,?_⟩
     change wpAnyH _ _ _ _ _ _ _ { tmps:=List.toArray (_::_::_::_::_::_::_::_::_::_::_::_::_::_::_::_::_::_::_::_::_::_::_::_::_::_::_::_::_::_::_::_::_::_::_::_::_::_::_::_::_::_::_::_::_::_::_::_::_::_::_::_::_::_::_::_::_::_::[]),defers:=[] } _
     refine dr_one 7 rfl rfl (by kernel_rfl) ?_
     refine wv_val (v:=.pointer (some ⟨gb,m*2,none⟩)) (by unfold execOp;go_simp) ⟨HX7.out,?_⟩
     change wpAnyH _ _ _ _ _ _ _ { tmps:=List.toArray (_::_::_::_::_::_::_::_::_::_::_::_::_::_::_::_::_::_::_::_::_::_::_::_::_::_::_::_::_::_::_::_::_::_::_::_::_::_::_::_::_::_::_::_::_::_::_::_::_::_::_::_::_::_::_::_::_::_::[]),defers:=[] } _
     refine dr_one 8 rfl rfl (by kernel_rfl) ?_
     refine wv_val (v:=.pointer (some ⟨gb,m*2+1,none⟩)) (by unfold execOp;go_simp) ⟨HX7.out,?_⟩
     change wpAnyH _ _ _ _ _ _ _ { tmps:=List.toArray (_::_::_::_::_::_::_::_::_::_::_::_::_::_::_::_::_::_::_::_::_::_::_::_::_::_::_::_::_::_::_::_::_::_::_::_::_::_::_::_::_::_::_::_::_::_::_::_::_::_::_::_::_::_::_::_::_::_::[]),defers:=[] } _
     refine dr_one 9 rfl rfl (by kernel_rfl) ?_
     refine wp_stJ rfl rfl rfl d7 f7 ⟨HX8.out,?_⟩
     refine wpAnyH_done (by kernel_rfl) ?_ _
     have HQE:=Lib.hid hq7
     have c9:(w7.setCell ⟨gb,m*2+1,none⟩ (.slice a6 n6 c6)).cell? ⟨w.heap.size,0,none⟩=some (.pointer (some ⟨p,0,none⟩)):=by rw [cell_of_row _ _ 0 _ _ _ hq7.bx];rfl
     clear hq7 HQ6 HR6 HSX HX7 HX8 d7 f7
     go_wp2_with (go_at_call 167;refine (HDN.out _ _ HQE.out).mono ?_;rintro e w9 ⟨rfl,rfl⟩)
     go_ret
     exact ⟨rfl,F.1,HQE.out.rp⟩
   | true =>
     have HMO4:Hid (Calls Tryz.prog 168 #[.pointer (some ⟨p,0,none⟩)] w3 fun e w'=>e=.returned (.bool true)∧w3=w'):=by rw [← hmo];exact HMO3.out
     have hF2:F=((oriS s1).2,{ i1 with fr:=(oriS s1).1 }):=by rw [HFR.out,hmo];rfl
     have HO4:Hid (Calls Tryz.prog 175 #[.agg #[.pointer (some ⟨p,0,none⟩)],.pointer (some ⟨w2.heap.size,8,none⟩)] w3 fun e w'=>e=.returned (.tuple #[])∧P2 w2 B p F.1 w2.heap.size 75 (insC F.2).toArray w'):=by rw [hF2];exact HOR.out _ _ _ _ HQ2.out HSZ.out HK3.out
     clear hF2 hmo HMO3 HK3 HFR
     go_upto_region 7 with (first | (go_at_call 168;refine HMO4.out.mono ?_;rintro e w' ⟨rfl,rfl⟩) | (refine ld rowPt rfl rfl rfl OB3 rfl ?_) | (go_at_call 175;refine HO4.out.mono ?_;rintro e w4 ⟨rfl,hk⟩;have HK4:=Lib.hid hk;clear hk))
     have HW:=Lib.hid HK4.out
     clear HK4 c3 OB3
     have d4:=(HALL.out _ HW.out).2.2.2.1
     go_quiet (fail)
     have HK6:=Lib.hid ((HW.out.below (below_drewN (Below.refl _ w4) nq) HBP.out).below (below_drewN (Below.refl _ _) 1) HBP.out)
     obtain ⟨W5,hW5⟩:∃ W,W=w4.drewN nq:=⟨_,rfl⟩
     rw [← hW5] at HK6 ⊢
     clear hW5 d4 HW
     go_wp2_with fail
     refine wp_region_held (S:=fun V=>Own V w2.heap.size 75 (insC F.2).toArray) (by kernel_rfl) ?_
     change wpAnyH _ _ _ _ _ _ _ _ W5.drew
     change Hid (P2 _ _ _ _ _ _ _ W5.drew) at HK6
     obtain ⟨W6,hW6⟩:∃ W,W=W5.drew:=⟨_,rfl⟩
     rw [← hW6] at HK6 ⊢
     clear hW6
     obtain ⟨hq6,hr6,hi6,_,e6⟩:=HALL.out _ HK6.out
     have HQ6:=Lib.hid hq6
     have HR6:=Lib.hid hr6
     have HSX:=Lib.hid hi6
     clear hq6 hr6 hi6 HK6
     change wpAnyH _ _ _ _ _ _ _ { tmps:=List.toArray (_::_::_::_::_::_::_::_::_::_::_::_::_::_::_::_::_::_::_::_::_::_::_::_::_::_::_::_::_::_::_::_::_::_::_::_::_::_::_::_::_::_::_::_::_::_::_::_::_::_::_::_::_::_::_::_::_::_::[]),defers:=[] } _
     refine dr_take 0 (.pointer (some ⟨gb,m*2,none⟩)) rfl rfl (by kernel_rfl) (by kernel_rfl) (by kernel_rfl) (fun _ _ _ h=>h) (fun _ _=>by unfold execOp;go_simp) HSX.out ?_
     change wpAnyH _ _ _ _ _ _ _ { tmps:=List.toArray (_::_::_::_::_::_::_::_::_::_::_::_::_::_::_::_::_::_::_::_::_::_::_::_::_::_::_::_::_::_::_::_::_::_::_::_::_::_::_::_::_::_::_::_::_::_::_::_::_::_::_::_::_::_::_::_::_::_::[]),defers:=[] } _
     refine dr_take 1 (.pointer (some ⟨gb,m*2,none⟩)) rfl rfl (by kernel_rfl) (by kernel_rfl) (by kernel_rfl) (fun _ _ _ h=>h) (fun _ _=>by unfold execOp;go_simp) HSX.out ?_
     change wpAnyH _ _ _ _ _ _ _ { tmps:=List.toArray (_::_::_::_::_::_::_::_::_::_::_::_::_::_::_::_::_::_::_::_::_::_::_::_::_::_::_::_::_::_::_::_::_::_::_::_::_::_::_::_::_::_::_::_::_::_::_::_::_::_::_::_::_::_::_::_::_::_::[]),defers:=[] } _
     refine dr_take 2 (.pointer (some ⟨gb,m*2,none⟩)) rfl rfl (by kernel_rfl) (by kernel_rfl) (by kernel_rfl) (fun _ _ _ h=>h) (fun _ _=>by unfold execOp;go_simp) HSX.out ?_
     change wpAnyH _ _ _ _ _ _ _ { tmps:=List.toArray (_::_::_::_::_::_::_::_::_::_::_::_::_::_::_::_::_::_::_::_::_::_::_::_::_::_::_::_::_::_::_::_::_::_::_::_::_::_::_::_::_::_::_::_::_::_::_::_::_::_::_::_::_::_::_::_::_::_::[]),defers:=[] } _
     refine dr_take 3 (.pointer (some ⟨gb,m*2+1,none⟩)) rfl rfl (by kernel_rfl) (by kernel_rfl) (by kernel_rfl) (fun _ _ _ h=>h) (fun _ _=>by unfold execOp;go_simp) HSX.out ?_
     change wpAnyH _ _ _ _ _ _ _ { tmps:=List.toArray (_::_::_::_::_::_::_::_::_::_::_::_::_::_::_::_::_::_::_::_::_::_::_::_::_::_::_::_::_::_::_::_::_::_::_::_::_::_::_::_::_::_::_::_::_::_::_::_::_::_::_::_::_::_::_::_::_::_::[]),defers:=[] } _
     refine dr_take 5 (.agg #[.int .u8 F.2.k,.int .u8 F.2.o,.int .i64 F.2.d,.int .i64 F.2.a,.int .i64 F.2.b,.int .i64 F.2.ad,.int .i64 F.2.tt,.int .i64 F.2.wd,.int .i64 F.2.fr]) rfl rfl (by kernel_rfl) (by kernel_rfl) (by kernel_rfl) (fun _ _ _ h=>h) (fun _ h=>run_ldT rowI rfl rfl h rfl) HSX.out ?_
     change wpAnyH _ _ _ _ _ _ _ { tmps:=List.toArray (_::_::_::_::_::_::_::_::_::_::_::_::_::_::_::_::_::_::_::_::_::_::_::_::_::_::_::_::_::_::_::_::_::_::_::_::_::_::_::_::_::_::_::_::_::_::_::_::_::_::_::_::_::_::_::_::_::_::[]),defers:=[] } _
     refine dr_one 4 rfl rfl (by kernel_rfl) ?_
     refine wp_ldJ rfl rfl e6 ⟨HSX.out,?_⟩
     change wpAnyH _ _ _ _ _ _ _ { tmps:=List.toArray (_::_::_::_::_::_::_::_::_::_::_::_::_::_::_::_::_::_::_::_::_::_::_::_::_::_::_::_::_::_::_::_::_::_::_::_::_::_::_::_::_::_::_::_::_::_::_::_::_::_::_::_::_::_::_::_::_::_::[]),defers:=[] } _
     refine dr_one 6 rfl rfl (by kernel_rfl) ?_
     refine wp_callT (vs:=#[.slice a2 n2 c2,.agg #[.int .u8 F.2.k,.int .u8 F.2.o,.int .i64 F.2.d,.int .i64 F.2.a,.int .i64 F.2.b,.int .i64 F.2.ad,.int .i64 F.2.tt,.int .i64 F.2.wd,.int .i64 F.2.fr],.int .i64 16384]) rfl rfl (enters_of Tryz.func176 (by kernel_rfl) rfl) (by simp [Act.eval]) (HKK.out _ _ HQ6.out HR6.out HSX.out) ?_
     rintro e w7 ⟨a6,n6,c6,rfl,⟨u,d7⟩,f7,e7,e8,hq7⟩
     have HX7:=Lib.hid e7
     have HX8:=Lib.hid e8
     clear e7 e8
     refine ⟨HX7.out,?_⟩
     change wpAnyH _ _ _ _ _ _ _ { tmps:=List.toArray (_::_::_::_::_::_::_::_::_::_::_::_::_::_::_::_::_::_::_::_::_::_::_::_::_::_::_::_::_::_::_::_::_::_::_::_::_::_::_::_::_::_::_::_::_::_::_::_::_::_::_::_::_::_::_::_::_::_::[]),defers:=[] } _
     refine dr_one 7 rfl rfl (by kernel_rfl) ?_
     refine wv_val (v:=.pointer (some ⟨gb,m*2,none⟩)) (by unfold execOp;go_simp) ⟨HX7.out,?_⟩
     change wpAnyH _ _ _ _ _ _ _ { tmps:=List.toArray (_::_::_::_::_::_::_::_::_::_::_::_::_::_::_::_::_::_::_::_::_::_::_::_::_::_::_::_::_::_::_::_::_::_::_::_::_::_::_::_::_::_::_::_::_::_::_::_::_::_::_::_::_::_::_::_::_::_::[]),defers:=[] } _
     refine dr_one 8 rfl rfl (by kernel_rfl) ?_
     refine wv_val (v:=.pointer (some ⟨gb,m*2+1,none⟩)) (by unfold execOp;go_simp) ⟨HX7.out,?_⟩
     change wpAnyH _ _ _ _ _ _ _ { tmps:=List.toArray (_::_::_::_::_::_::_::_::_::_::_::_::_::_::_::_::_::_::_::_::_::_::_::_::_::_::_::_::_::_::_::_::_::_::_::_::_::_::_::_::_::_::_::_::_::_::_::_::_::_::_::_::_::_::_::_::_::_::[]),defers:=[] } _
     refine dr_one 9 rfl rfl (by kernel_rfl) ?_
     refine wp_stJ rfl rfl rfl d7 f7 ⟨HX8.out,?_⟩
     refine wpAnyH_done (by kernel_rfl) ?_ _
     have HQE:=Lib.hid hq7
     have c9:(w7.setCell ⟨gb,m*2+1,none⟩ (.slice a6 n6 c6)).cell? ⟨w.heap.size,0,none⟩=some (.pointer (some ⟨p,0,none⟩)):=by rw [cell_of_row _ _ 0 _ _ _ hq7.bx];rfl
     clear hq7 HQ6 HR6 HSX HX7 HX8 d7 f7
     go_wp2_with (go_at_call 167;refine (HDN.out _ _ HQE.out).mono ?_;rintro e w9 ⟨rfl,rfl⟩)
     go_ret
     exact ⟨rfl,F.1,HQE.out.rp⟩
end Go.Proofs.YtmpljhfinmfnbaaGreatDoor

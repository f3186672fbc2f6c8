/- The proof, part 35: texts that belong together, in one. -/
import Derived.Test.YtmpljhfinmfnbaaGreatDoorQBH
set_option maxRecDepth 100000
set_option maxHeartbeats 20000000
namespace Go.Proofs.YtmpljhfinmfnbaaGreatDoor
open Go.RowKit
set_option linter.unusedVariables false
set_option maxRecDepth 100000
structure DcV (B:Nat) (o:Ob) (v1 v5:Value) (L:List (Cor × Value)) (W:World):Prop where
 mem:W.ownsRow B 2 1 v1 o.mem.length (o.mem.map fun x=>.int .i64 x)
 fst:L.map Prod.fst=o.cores
 cors:W.ownsRow B 70 2 v5 L.length (flatC L)
 codes:∀ x∈L,W.ownsRow B 75 9 x.2 x.1.code.length (flatI x.1.code)
def DcO (B:Nat) (o:Ob) (v:Value) (W:World):Prop:=∃ v1 v5 L,v=.agg #[v1,.int .i64 o.sh,.int .i64 o.lk,.int .i64 o.bf,v5]∧DcV B o v1 v5 L W
theorem DcV.obA {W:World} {B:Nat} {o:Ob} {v1 v5:Value} {L:List (Cor × Value)} (h:DcV B o v1 v5 L W):obA W o (.agg #[v1,.int .i64 o.sh,.int .i64 o.lk,.int .i64 o.bf,v5]):=by
 obtain ⟨a1,c1,rfl,h1⟩:=row_ints h.mem
 have hlen:o.cores.length=L.length:=by rw [← h.fst,List.length_map]
 obtain ⟨a5,c5,rfl⟩:=row_slice h.cors
 refine ⟨a1,c1,a5,c5,by rw [obV,hlen],h1,?_⟩
 by_cases h0:L=[]
 · left
   rw [← h.fst,h0]
   rfl
 · obtain ⟨gb, cap, e, _, h2⟩ := row_at h.cors (List.length_pos_iff.2 h0)
   right
   injection e with e1 e2 e3
   refine ⟨gb,0,e1,fun j c hj=>?_⟩
   rw [← h.fst,List.getElem?_map] at hj
   obtain ⟨x,hx,rfl⟩:=Option.map_eq_some_iff.1 hj
   obtain ⟨f1,f2⟩:=flatC_get L j x hx
   obtain ⟨a2,c2,e4,h4⟩:=row_insAt (h.codes x (List.mem_of_getElem? hx))
   rw [Nat.zero_add]
   exact ⟨h2 _ _ f1,a2,c2,by rw [h2 _ _ f2,e4],h4⟩
theorem DcV.stays {W W':World} {B:Nat} {o:Ob} {v1 v5:Value} {L:List (Cor × Value)} (h:DcV B o v1 v5 L W) (hs:∀ b,B≤b→b<W.heap.size→W'.heap[b]? = W.heap[b]?):DcV B o v1 v5 L W' :=
 ⟨row_stays h.mem fun g hg _ hl=>hs g hg hl,h.fst,row_stays h.cors fun g hg _ hl=>hs g hg hl,fun x hx=>row_stays (h.codes x hx) fun g hg _ hl=>hs g hg hl⟩
theorem DcV.mono {W:World} {B B':Nat} {o:Ob} {v1 v5:Value} {L:List (Cor × Value)} (h:DcV B o v1 v5 L W) (hb:B'≤B):DcV B' o v1 v5 L W:=⟨row_mono h.mem hb,h.fst,row_mono h.cors hb,fun x hx=>row_mono (h.codes x hx) hb⟩
theorem dcv_zero (B:Nat) (W:World):DcV B zOb (.slice none 0 0) (.slice none 0 0) [] W:=⟨World.ownsRow_nil _ _ _ _,rfl,World.ownsRow_nil _ _ _ _,fun x hx=>by simp at hx⟩
theorem flat_one (l:List Int):(l.flatMap fun x=>[Value.int .i64 x])=l.map fun x=>.int .i64 x:=by induction l with
 | nil=>rfl
 | cons x l ih=>rw [List.flatMap_cons,List.map_cons,ih];rfl
def okS (t:Bst):Bool:=!t.2&&((t.1.length:Int)==0)
structure OsB (w:World) (p:Nat) (s:Bst) (ro:Array Value) (X:World):Prop where
 dq:Dq w p s X
 rx:Own X w.heap.size 25 #[.slice none 0 0,.int .i64 0,.int .i64 0,.int .i64 0,.slice none 0 0]
 ox:Own X (w.heap.size+1) 25 ro
 pw:p<w.heap.size
section
variable {w X Y:World} {p:Nat} {s t:Bst} {ro ro':Array Value}
theorem OsB.call (h:OsB w p s ro X) (k:Dq X p t Y):OsB w p t ro Y:=by
 have hp:=h.pw
 exact ⟨h.dq.trans k,k.other h.rx (by omega),k.other h.ox (by omega),hp⟩
theorem OsB.below (h:OsB w p s ro X) (hb:Below X.heap.size X Y):OsB w p s ro Y:=⟨h.dq.below hb,h.rx.below hb,h.ox.below hb,h.pw⟩
theorem OsB.num {B:Nat} (h:OsB w p s ro X) (k:D2 X B p t (w.heap.size+1) 25 ro' Y):OsB w p t ro' Y:=by
 have hp:=h.pw
 refine ⟨⟨k.st,?_⟩,k.other h.rx (by omega) (by omega),k.dst,hp⟩
 exact ⟨k.keep.os.trans h.dq.keep.os,k.keep.tape.trans h.dq.keep.tape,k.keep.output.trans h.dq.keep.output,Nat.le_trans h.dq.keep.size k.keep.size,fun i o hi hs=>by
  have hl:i<w.heap.size:=(Array.getElem?_eq_some_iff.1 hi).1
  exact k.keep.block i o (h.dq.keep.block i o hi hs) ⟨hs,by omega⟩⟩
theorem OsB.put (h:OsB w p s ro X) (i:Nat) (v:Value):OsB w p s (ro.setIfInBounds i v) (X.setCell ⟨w.heap.size+1,i,none⟩ v):=by
 have hp:=h.pw
 have hb:∀ k,k≠w.heap.size+1→(X.setCell ⟨w.heap.size+1,i,none⟩ v).heap[k]? = X.heap[k]?:=fun k hk=>Below.heap_setCell X ⟨w.heap.size+1,i,none⟩ v k hk
 refine ⟨⟨h.dq.st.keep fun k hk=>hb k (by omega),?_⟩,(hb _ (by omega)).trans h.rx,heap_setCell_same X _ i _ _ v h.ox,hp⟩
 exact ⟨h.dq.keep.os,h.dq.keep.tape,h.dq.keep.output,Nat.le_trans h.dq.keep.size (by simp),fun k o hk hs=>by
  have hl:k<w.heap.size:=(Array.getElem?_eq_some_iff.1 hk).1
  exact (hb k (by omega)).trans (h.dq.keep.block k o hk hs)⟩
theorem row_dq {B:Nat} {T:TypeId} {n:Nat} {v:Value} {m:Nat} {xs:List Value} (h:X.ownsRow B T n v m xs) (hp:p<B) (k:Dq X p t Y):Y.ownsRow B T n v m xs :=
 row_stays h fun g h1 _ h3=>by rw [k.keep.block g _ (Array.getElem?_eq_getElem h3) (by omega),Array.getElem?_eq_getElem h3]
end
theorem osb_new {w:World} {p:Nat} {s:Bst} (h:Dr p s w):OsB w p s #[.slice none 0 0,.int .i64 0,.int .i64 0,.int .i64 0,.slice none 0 0] ((w.alloc (.cells #[.slice none 0 0,.int .i64 0,.int .i64 0,.int .i64 0,.slice none 0 0] 25)).alloc (.cells #[.slice none 0 0,.int .i64 0,.int .i64 0,.int .i64 0,.slice none 0 0] 25)):=by
 have al:=(Below.refl _ w).alloc (Nat.le_refl _) (.cells #[.slice none 0 0,.int .i64 0,.int .i64 0,.int .i64 0,.slice none 0 0] 25)
 have al2:=(Below.refl _ (w.alloc (.cells #[.slice none 0 0,.int .i64 0,.int .i64 0,.int .i64 0,.slice none 0 0] 25))).alloc (Nat.le_refl _) (.cells #[.slice none 0 0,.int .i64 0,.int .i64 0,.int .i64 0,.slice none 0 0] 25)
 refine ⟨((dq_new h).below al).below al2,(Own.new w 25 #[.slice none 0 0,.int .i64 0,.int .i64 0,.int .i64 0,.slice none 0 0]).alloc _,?_,h.lt⟩
 have h2:=Own.new (w.alloc (.cells #[.slice none 0 0,.int .i64 0,.int .i64 0,.int .i64 0,.slice none 0 0] 25)) 25 #[.slice none 0 0,.int .i64 0,.int .i64 0,.int .i64 0,.slice none 0 0]
 rwa [World.size_alloc] at h2
section
variable {P:Program} {md:Region.Mode} {ops:Array Oper} {Q:Exit→Act→World→Prop} {S:World→Prop} {fuel:Nat} {listed:Array Bool} {a:Act} {w:World}
theorem dr_takeg (i:Nat) {oi:Oper} (v:Value) (hi:ops[i]? = some oi) (hg:Region.wanted oi (yielded ops a.tmps)=true) (hs:Region.noSelect ops=true) (hf:Region.free md ops listed i=true) (hr:(Region.ready md ops listed).contains i=true)
 (hQ:∀ c a w,Q (.panic c) (a.put oi.dst v) w→Q (.panic c) a w) (hrun:∀ w,S w→(execOp a.eval oi).run P w=.ok (.value v) w) (hS:S w)
 (h:wpAnyH P md ops Q S fuel (listed.setIfInBounds i true) (a.put oi.dst v) w):wpAnyH P md ops Q S (fuel+1) listed a w :=
 wpAnyH_take hi hs hf hr hQ (.inl ⟨hg,hrun⟩) hS h
theorem dr_skip (i:Nat) {oi:Oper} (hi:ops[i]? = some oi) (hg:Region.wanted oi (yielded ops a.tmps)=false) (hs:Region.noSelect ops=true) (hf:Region.free md ops listed i=true) (hr:(Region.ready md ops listed).contains i=true)
 (hQ:∀ c a w,Q (.panic c) (a.put oi.dst undef) w→Q (.panic c) a w) (hS:S w)
 (h:wpAnyH P md ops Q S fuel (listed.setIfInBounds i true) (a.put oi.dst undef) w):wpAnyH P md ops Q S (fuel+1) listed a w :=
 wpAnyH_take hi hs hf hr hQ (.inr ⟨hg,rfl⟩) hS h
end
theorem b_object {w:World} {p:Nat} {s:Bst} (h:Dr p s w) (HT:∀ X,Below p w X→TgT X) :
 Calls Tryz.prog 31 #[.pointer (some ⟨p,0,none⟩)] w fun e w'=>∃ v,e=.returned (.tuple #[v,.bool (okS (obS s).2)])∧DcO w.heap.size (obS s).1 v w'∧∃ t,Dq w p t w':=by
 have hos:=osb_new h
 have HOS:=Lib.hid hos
 have HPW:Hid (p<w.heap.size):=h.lt
 have hbW:∀ X ro t,OsB w p t ro X→Below p w X:=fun X ro t hX=>hX.dq.bel (Nat.le_of_lt h.lt)
 have HTX:Hid (∀ X Y ro t,OsB w p t ro X→Below p X Y→TgT Y):=fun X Y ro t hX hY=>HT Y ((hbW X ro t hX).trans hY)
 obtain ⟨W0,hW0⟩:∃ W,W=(w.alloc (.cells #[.slice none 0 0,.int .i64 0,.int .i64 0,.int .i64 0,.slice none 0 0] 25)).alloc (.cells #[.slice none 0 0,.int .i64 0,.int .i64 0,.int .i64 0,.slice none 0 0] 25):=⟨_,rfl⟩
 rw [← hW0] at hos HOS
 have HW0:=Lib.hid hW0
 have HTK:Hid (Calls Tryz.prog 71 #[.pointer (some ⟨p,0,none⟩),.int .i64 4] W0 fun e w'=>e=.returned (.string ⟨(takR 4 s).1.toArray⟩)∧OsB w p (takR 4 s).2 #[.slice none 0 0,.int .i64 0,.int .i64 0,.int .i64 0,.slice none 0 0] w'):=(b_take hos.dq.st 4 (by decide) (by decide)).mono fun _ _ ⟨h1,h2⟩=>⟨h1,hos.call h2⟩
 clear hos h HT hbW hW0
 have HEQ:Hid (obS s=if (takR 4 s).1=magic then (⟨(lstR wrdR 4096 (numR 0 (numR 0 (numR 0 (takR 4 s).2).2).2).2).1,(numR 0 (takR 4 s).2).1,(numR 0 (numR 0 (takR 4 s).2).2).1,(numR 0 (numR 0 (numR 0 (takR 4 s).2).2).2).1,(lstR corR 8 (lstR wrdR 4096 (numR 0 (numR 0 (numR 0 (takR 4 s).2).2).2).2).2).1⟩,(lstR corR 8 (lstR wrdR 4096 (numR 0 (numR 0 (numR 0 (takR 4 s).2).2).2).2).2).2) else (zOb,badS)):=rfl
 generalize obS s=R at HEQ ⊢
 generalize takR 4 s=tk at HTK HEQ
 obtain ⟨mg,s0⟩:=tk
 simp only at HTK HEQ
 obtain ⟨mt,hmt⟩:∃ t:ByteArray,t=⟨mg.toArray⟩:=⟨_,rfl⟩
 rw [← hmt] at HTK
 have hml:mt.data.toList=mg:=by rw [hmt]
 clear hmt
 by_cases hmg:mg=magic
 · rw [Hid, if_pos hmg] at HEQ
   have hne:(mt.toList==([115,116,105,108]:List UInt8))=true:=lit_t (hml.trans hmg)
   clear hml
   have HN0:Hid (∀ X,OsB w p s0 #[.slice none 0 0,.int .i64 0,.int .i64 0,.int .i64 0,.slice none 0 0] X→Calls Tryz.prog 72 #[.pointer (some ⟨p,0,none⟩),.pointer (some ⟨w.heap.size+1,1,none⟩)] X fun e w'=>e=.returned (.tuple #[])∧OsB w p (numR 0 s0).2 #[.slice none 0 0,.int .i64 (numR 0 s0).1,.int .i64 0,.int .i64 0,.slice none 0 0] w'):=fun X hX=>(b_number (B:=p) (x:=0) hX.dq.st hX.ox (by have:=HPW.out;omega) rfl (Nat.le_refl _)).mono fun _ _ ⟨h1,h2⟩=>⟨h1,hX.num h2⟩
   generalize numR 0 s0=r1 at HN0 HEQ
   obtain ⟨sh,s1⟩:=r1
   simp only at HN0 HEQ
   have HN1:Hid (∀ X,OsB w p s1 #[.slice none 0 0,.int .i64 sh,.int .i64 0,.int .i64 0,.slice none 0 0] X→Calls Tryz.prog 72 #[.pointer (some ⟨p,0,none⟩),.pointer (some ⟨w.heap.size+1,2,none⟩)] X fun e w'=>e=.returned (.tuple #[])∧OsB w p (numR 0 s1).2 #[.slice none 0 0,.int .i64 sh,.int .i64 (numR 0 s1).1,.int .i64 0,.slice none 0 0] w'):=fun X hX=>(b_number (B:=p) (x:=0) hX.dq.st hX.ox (by have:=HPW.out;omega) rfl (Nat.le_refl _)).mono fun _ _ ⟨h1,h2⟩=>⟨h1,hX.num h2⟩
   generalize numR 0 s1=r2 at HN1 HEQ
   obtain ⟨lk,s2⟩:=r2
   simp only at HN1 HEQ
   have HN2:Hid (∀ X,OsB w p s2 #[.slice none 0 0,.int .i64 sh,.int .i64 lk,.int .i64 0,.slice none 0 0] X→Calls Tryz.prog 72 #[.pointer (some ⟨p,0,none⟩),.pointer (some ⟨w.heap.size+1,3,none⟩)] X fun e w'=>e=.returned (.tuple #[])∧OsB w p (numR 0 s2).2 #[.slice none 0 0,.int .i64 sh,.int .i64 lk,.int .i64 (numR 0 s2).1,.slice none 0 0] w'):=fun X hX=>(b_number (B:=p) (x:=0) hX.dq.st hX.ox (by have:=HPW.out;omega) rfl (Nat.le_refl _)).mono fun _ _ ⟨h1,h2⟩=>⟨h1,hX.num h2⟩
   generalize numR 0 s2=r3 at HN2 HEQ
   obtain ⟨bf,s3⟩:=r3
   simp only at HN2 HEQ
   have HLW:Hid (∀ X,OsB w p s3 #[.slice none 0 0,.int .i64 sh,.int .i64 lk,.int .i64 bf,.slice none 0 0] X→Calls Tryz.prog 73 #[.pointer (some ⟨p,0,none⟩),.int .i64 4096,.func (.func 74) #[.pointer (some ⟨p,0,none⟩)] #[]] X fun e w'=>∃ a c,e=.returned (.slice a (lstR wrdR 4096 s3).1.length c)∧OsB w p (lstR wrdR 4096 s3).2 #[.slice none 0 0,.int .i64 sh,.int .i64 lk,.int .i64 bf,.slice none 0 0] w'∧w'.ownsRow (w.heap.size+2) 2 1 (.slice a (lstR wrdR 4096 s3).1.length c) (lstR wrdR 4096 s3).1.length ((lstR wrdR 4096 s3).1.map fun x=>.int .i64 x)):=fun X hX=>(b_listW hX.dq.st 4096 (by decide) (by decide)).mono fun e w' ⟨v,h1,h2,h3⟩=>by
    obtain ⟨a,c,rfl⟩:=row_slice h3
    rw [show ((lstR wrdR 4096 s3).1.flatMap fun x=>[Value.int .i64 x])=(lstR wrdR 4096 s3).1.map fun x=>.int .i64 x from flat_one _] at h3
    exact ⟨a,c,h1,hX.call h2,row_mono h3 (by have:=hX.ox.lt;omega)⟩
   generalize lstR wrdR 4096 s3=r4 at HLW HEQ
   obtain ⟨mem,s4⟩:=r4
   simp only at HLW HEQ
   have HLC:Hid (∀ X v1,OsB w p s4 #[v1,.int .i64 sh,.int .i64 lk,.int .i64 bf,.slice none 0 0] X→Calls Tryz.prog 75 #[.pointer (some ⟨p,0,none⟩),.int .i64 8,.func (.func 76) #[.pointer (some ⟨p,0,none⟩)] #[]] X fun e w'=>∃ (a:Option Addr) (c:Nat) (L:List (Cor × Value)),e=.returned (.slice a L.length c)∧Dq X p (lstR corR 8 s4).2 w'∧OsB w p (lstR corR 8 s4).2 #[v1,.int .i64 sh,.int .i64 lk,.int .i64 bf,.slice none 0 0] w'∧L.map Prod.fst=(lstR corR 8 s4).1∧w'.ownsRow (w.heap.size+2) 70 2 (.slice a L.length c) L.length (flatC L)∧∀ x∈L,w'.ownsRow (w.heap.size+2) 75 9 x.2 x.1.code.length (flatI x.1.code)):=fun X v1 hX=>(b_listC hX.dq.st 8 (by decide) (by decide) (fun Y hY=>HTX.out X Y _ _ hX hY)).mono fun e w' ⟨v,h1,h2,L,h3,h4,h5⟩=>by
    obtain ⟨a,c,rfl⟩:=row_slice h4
    have hs:w.heap.size+2≤X.heap.size:=by have:=hX.ox.lt;omega
    exact ⟨a,c,L,h1,h2,hX.call h2,h3,row_mono h4 hs,fun x hx=>row_mono (h5 x hx) hs⟩
   generalize lstR corR 8 s4=r5 at HLC HEQ
   obtain ⟨cs,s5⟩:=r5
   simp only at HLC HEQ
   have HE2:=Lib.hid HEQ
   clear HEQ
   have hx0:∀ X:World,(Instr.index 151 (.agg #[.pointer (some ⟨w.heap.size+1,1,none⟩),.pointer (some ⟨w.heap.size+1,2,none⟩),.pointer (some ⟨w.heap.size+1,3,none⟩)]) (.int .i64 0)).run Tryz.prog X=.ok (.pointer (some ⟨w.heap.size+1,1,none⟩)) X:=fun _=>rfl
   have hx1:∀ X:World,(Instr.index 151 (.agg #[.pointer (some ⟨w.heap.size+1,1,none⟩),.pointer (some ⟨w.heap.size+1,2,none⟩),.pointer (some ⟨w.heap.size+1,3,none⟩)]) (.int .i64 1)).run Tryz.prog X=.ok (.pointer (some ⟨w.heap.size+1,2,none⟩)) X:=fun _=>rfl
   have hx2:∀ X:World,(Instr.index 151 (.agg #[.pointer (some ⟨w.heap.size+1,1,none⟩),.pointer (some ⟨w.heap.size+1,2,none⟩),.pointer (some ⟨w.heap.size+1,3,none⟩)]) (.int .i64 2)).run Tryz.prog X=.ok (.pointer (some ⟨w.heap.size+1,3,none⟩)) X:=fun _=>rfl
   go_enter Tryz.func31,Tryz.ntmps31
   go_upto_region 2 with fail
   rw [← HW0.out]
   clear HW0
   go_wp2_with (go_at_call 71;refine HTK.out.mono ?_;rintro e w2 ⟨rfl,hq⟩;have HQ2:=Lib.hid hq;clear hq)
   clear HTK hne
   go_loopg [15] 4 (fun m' z X=>∃ j:Nat,z=.int .i64 (j:Int)∧j≤3∧m'=3-j+1∧((j=0∧OsB w p s0 #[.slice none 0 0,.int .i64 0,.int .i64 0,.int .i64 0,.slice none 0 0] X)∨(j=1∧OsB w p s1 #[.slice none 0 0,.int .i64 sh,.int .i64 0,.int .i64 0,.slice none 0 0] X)∨(j=2∧OsB w p s2 #[.slice none 0 0,.int .i64 sh,.int .i64 lk,.int .i64 0,.slice none 0 0] X)∨(j=3∧OsB w p s3 #[.slice none 0 0,.int .i64 sh,.int .i64 lk,.int .i64 bf,.slice none 0 0] X)))
   case atStart=>exact ⟨0,rfl,by omega,by omega,.inl ⟨rfl,HQ2.out⟩⟩
   case round =>
    clear HQ2
    obtain ⟨j,rfl,hj,hm,hq⟩:=hrel
    have HM:=Lib.hid hm
    clear hm
    rcases hq with ⟨rfl,hq⟩ | ⟨rfl,hq⟩ | ⟨rfl,hq⟩ | ⟨rfl,hq⟩
    · have HQ := Lib.hid hq
      clear hq hj
      go_wp2_with (go_at_call 72;refine (HN0.out _ HQ.out).mono ?_;rintro e w3 ⟨rfl,hq⟩;have HQ3:=Lib.hid hq;clear hq)
      go_roundg 3
      case measure=>have:=HM.out;omega
      case rel=>exact ⟨1,by simp,by omega,by omega,.inr (.inl ⟨rfl,HQ3.out⟩)⟩
    · have HQ := Lib.hid hq
      clear hq hj
      go_wp2_with (go_at_call 72;refine (HN1.out _ HQ.out).mono ?_;rintro e w3 ⟨rfl,hq⟩;have HQ3:=Lib.hid hq;clear hq)
      go_roundg 2
      case measure=>have:=HM.out;omega
      case rel=>exact ⟨2,by simp,by omega,by omega,.inr (.inr (.inl ⟨rfl,HQ3.out⟩))⟩
    · have HQ := Lib.hid hq
      clear hq hj
      go_wp2_with (go_at_call 72;refine (HN2.out _ HQ.out).mono ?_;rintro e w3 ⟨rfl,hq⟩;have HQ3:=Lib.hid hq;clear hq)
      go_roundg 1
      case measure=>have:=HM.out;omega
      case rel=>exact ⟨3,by simp,by omega,by omega,.inr (.inr (.inr ⟨rfl,HQ3.out⟩))⟩
    · have HQ := Lib.hid hq
      clear hq hj HN0 HN1 HN2 hx0 hx1 hx2 HM
      go_upto_region 10 with (go_at_call 73;refine (HLW.out _ HQ.out).mono ?_;rintro e w4 ⟨a1,c1,rfl,hq,hr⟩;have HQ4:=Lib.hid hq;have HR4:=Lib.hid hr;have d0:w4.cell? ⟨w.heap.size+1,0,none⟩=some (.slice none 0 0):=row_cellsO hq.ox 0 _ rfl;have f0:w4.frozen? ⟨w.heap.size+1,0,none⟩=false:=own_frozen hq.ox 0;clear hq hr)
      have HQ5:Hid (OsB w p s4 #[.slice a1 mem.length c1,.int .i64 sh,.int .i64 lk,.int .i64 bf,.slice none 0 0] (w4.setCell ⟨w.heap.size+1,0,none⟩ (.slice a1 mem.length c1))):=HQ4.out.put 0 _
      have HR5:=Lib.hid (row_setbelow HR4.out (by omega:w.heap.size+1<w.heap.size+2) 0 (.slice a1 mem.length c1))
      clear d0 f0 HR4 HQ4 HQ HLW
      obtain ⟨W5,hW5⟩:∃ W,W=w4.setCell ⟨w.heap.size+1,0,none⟩ (.slice a1 mem.length c1):=⟨_,rfl⟩
      rw [← hW5] at HQ5 HR5 ⊢
      clear hW5
      go_upto_region 11 with (go_at_call 75;refine (HLC.out _ _ HQ5.out).mono ?_;rintro e w6 ⟨a5,c5,L,rfl,hk,hq,hfst,hcr,hcd⟩;have HQ6:=Lib.hid hq;have HK6:=Lib.hid hk;have HFS:=Lib.hid hfst;have HCR:=Lib.hid hcr;have HCD:=Lib.hid hcd;have d0:w6.cell? ⟨w.heap.size+1,4,none⟩=some (.slice none 0 0):=row_cellsO hq.ox 4 _ rfl;have f0:w6.frozen? ⟨w.heap.size+1,4,none⟩=false:=own_frozen hq.ox 4;clear hq hk hfst hcr hcd)
      have hlt:w.heap.size+1<w.heap.size+2:=by omega
      have HQ7:Hid (OsB w p s5 #[.slice a1 mem.length c1,.int .i64 sh,.int .i64 lk,.int .i64 bf,.slice a5 L.length c5] (w6.setCell ⟨w.heap.size+1,4,none⟩ (.slice a5 L.length c5))):=HQ6.out.put 4 _
      have HV7:Hid (DcV (w.heap.size+2) ⟨mem,sh,lk,bf,cs⟩ (.slice a1 mem.length c1) (.slice a5 L.length c5) L (w6.setCell ⟨w.heap.size+1,4,none⟩ (.slice a5 L.length c5))):=⟨row_setbelow (row_dq HR5.out (by have:=HPW.out;omega) HK6.out) hlt 4 _,HFS.out,row_setbelow HCR.out hlt 4 _,fun x hx=>row_setbelow (HCD.out x hx) hlt 4 _⟩
      clear d0 f0 HR5 HQ5 HQ6 HK6 HFS HCR HCD HLC hlt
      obtain ⟨W7,hW7⟩:∃ W,W=w6.setCell ⟨w.heap.size+1,4,none⟩ (.slice a5 L.length c5):=⟨_,rfl⟩
      rw [← hW7] at HQ7 HV7 ⊢
      clear hW7
      obtain ⟨l,b⟩:=s5
      obtain ⟨ar,cr,hP⟩:=HQ7.out.dq.st
      have HP7:=Lib.hid hP.own
      clear hP
      simp only at HP7
      generalize hrow:(#[.slice a1 mem.length c1,.int .i64 sh,.int .i64 lk,.int .i64 bf,.slice a5 L.length c5]:Array Value)=row at HQ7
      have hrs:row.size=5:=by rw [← hrow];rfl
      have hro:row.all (·.oneCell')=true:=by rw [← hrow];kernel_rfl
      have HROW:=Lib.hid hrow
      clear hrow
      cases b with
      | true =>
        refine wp_region_held (S:=fun V=>Own V (w.heap.size+1) 25 row∧Own V p 81 #[.slice ar l.length cr,.bool true]) (by kernel_rfl) ?_
        change wpAnyH _ _ _ _ _ _ _ _ W7.drew
        have HQ8:=Lib.hid (HQ7.out.below (below_drewN (Below.refl _ W7) 1))
        have HV8:=Lib.hid (HV7.out.stays (W':=W7.drew) (fun b _ _=>rfl))
        change Hid (OsB _ _ _ _ W7.drew) at HQ8
        have hps:Own W7.drew p 81 #[.slice ar l.length cr,.bool true]:=HP7.out
        obtain ⟨W8,hW8⟩:∃ W,W=W7.drew:=⟨_,rfl⟩
        rw [← hW8] at HQ8 HV8 hps ⊢
        clear hW8
        have HSX:=Lib.hid (And.intro HQ8.out.ox hps)
        clear hps HQ7 HV7 HP7
        change wpAnyH _ _ _ _ _ _ _ { tmps:=List.toArray (_::_::_::_::_::_::_::_::_::_::_::_::_::_::_::_::_::_::_::_::_::_::_::_::_::_::_::_::_::_::_::_::_::_::_::_::_::_::_::_::_::_::_::_::_::_::[]),defers:=[] } _
        refine dr_take 0 (.agg row) rfl rfl (by kernel_rfl) (by kernel_rfl) (by kernel_rfl) (fun _ _ _ h=>h) (fun _ h=>run_ldT rowO rfl rfl h.1 hrs) HSX.out ?_
        change wpAnyH _ _ _ _ _ _ _ { tmps:=List.toArray (_::_::_::_::_::_::_::_::_::_::_::_::_::_::_::_::_::_::_::_::_::_::_::_::_::_::_::_::_::_::_::_::_::_::_::_::_::_::_::_::_::_::_::_::_::_::[]),defers:=[] } _
        refine dr_take 1 (.pointer (some ⟨p,0,none⟩)) rfl rfl (by kernel_rfl) (by kernel_rfl) (by kernel_rfl) (fun _ _ _ h=>h) (fun _ _=>by unfold execOp;go_simp) HSX.out ?_
        change wpAnyH _ _ _ _ _ _ _ { tmps:=List.toArray (_::_::_::_::_::_::_::_::_::_::_::_::_::_::_::_::_::_::_::_::_::_::_::_::_::_::_::_::_::_::_::_::_::_::_::_::_::_::_::_::_::_::_::_::_::_::[]),defers:=[] } _
        refine dr_take 2 (.pointer (some ⟨p,0,none⟩)) rfl rfl (by kernel_rfl) (by kernel_rfl) (by kernel_rfl) (fun _ _ _ h=>h) (fun _ _=>by unfold execOp;go_simp) HSX.out ?_
        change wpAnyH _ _ _ _ _ _ _ { tmps:=List.toArray (_::_::_::_::_::_::_::_::_::_::_::_::_::_::_::_::_::_::_::_::_::_::_::_::_::_::_::_::_::_::_::_::_::_::_::_::_::_::_::_::_::_::_::_::_::_::[]),defers:=[] } _
        refine dr_take 3 (.pointer (some ⟨p,1,none⟩)) rfl rfl (by kernel_rfl) (by kernel_rfl) (by kernel_rfl) (fun _ _ _ h=>h) (fun _ _=>by unfold execOp;go_simp) HSX.out ?_
        change wpAnyH _ _ _ _ _ _ _ { tmps:=List.toArray (_::_::_::_::_::_::_::_::_::_::_::_::_::_::_::_::_::_::_::_::_::_::_::_::_::_::_::_::_::_::_::_::_::_::_::_::_::_::_::_::_::_::_::_::_::_::[]),defers:=[] } _
        refine dr_take 4 (.bool true) rfl rfl (by kernel_rfl) (by kernel_rfl) (by kernel_rfl) (fun _ _ _ h=>h) (fun W h=>by have h2:=row_cellsO h.2 1 _ rfl;unfold execOp;go_simp) HSX.out ?_
        change wpAnyH _ _ _ _ _ _ _ { tmps:=List.toArray (_::_::_::_::_::_::_::_::_::_::_::_::_::_::_::_::_::_::_::_::_::_::_::_::_::_::_::_::_::_::_::_::_::_::_::_::_::_::_::_::_::_::_::_::_::_::[]),defers:=[] } _
        refine dr_take 5 (.bool false) rfl rfl (by kernel_rfl) (by kernel_rfl) (by kernel_rfl) (fun _ _ _ h=>h) (fun _ _=>by unfold execOp;go_simp) HSX.out ?_
        change wpAnyH _ _ _ _ _ _ _ { tmps:=List.toArray (_::_::_::_::_::_::_::_::_::_::_::_::_::_::_::_::_::_::_::_::_::_::_::_::_::_::_::_::_::_::_::_::_::_::_::_::_::_::_::_::_::_::_::_::_::_::[]),defers:=[] } _
        refine dr_take 6 (.bool false) rfl rfl (by kernel_rfl) (by kernel_rfl) (by kernel_rfl) (fun _ _ _ h=>h) (fun _ _=>by unfold execOp;go_simp) HSX.out ?_
        change wpAnyH _ _ _ _ _ _ _ { tmps:=List.toArray (_::_::_::_::_::_::_::_::_::_::_::_::_::_::_::_::_::_::_::_::_::_::_::_::_::_::_::_::_::_::_::_::_::_::_::_::_::_::_::_::_::_::_::_::_::_::[]),defers:=[] } _
        refine dr_skip 7 rfl (by kernel_rfl) (by kernel_rfl) (by kernel_rfl) (by kernel_rfl) (fun _ _ _ h=>h) HSX.out ?_
        change wpAnyH _ _ _ _ _ _ _ { tmps:=List.toArray (_::_::_::_::_::_::_::_::_::_::_::_::_::_::_::_::_::_::_::_::_::_::_::_::_::_::_::_::_::_::_::_::_::_::_::_::_::_::_::_::_::_::_::_::_::_::[]),defers:=[] } _
        refine dr_skip 8 rfl (by kernel_rfl) (by kernel_rfl) (by kernel_rfl) (by kernel_rfl) (fun _ _ _ h=>h) HSX.out ?_
        change wpAnyH _ _ _ _ _ _ _ { tmps:=List.toArray (_::_::_::_::_::_::_::_::_::_::_::_::_::_::_::_::_::_::_::_::_::_::_::_::_::_::_::_::_::_::_::_::_::_::_::_::_::_::_::_::_::_::_::_::_::_::[]),defers:=[] } _
        refine dr_skip 9 rfl (by kernel_rfl) (by kernel_rfl) (by kernel_rfl) (by kernel_rfl) (fun _ _ _ h=>h) HSX.out ?_
        change wpAnyH _ _ _ _ _ _ _ { tmps:=List.toArray (_::_::_::_::_::_::_::_::_::_::_::_::_::_::_::_::_::_::_::_::_::_::_::_::_::_::_::_::_::_::_::_::_::_::_::_::_::_::_::_::_::_::_::_::_::_::[]),defers:=[] } _
        refine dr_skip 10 rfl (by kernel_rfl) (by kernel_rfl) (by kernel_rfl) (by kernel_rfl) (fun _ _ _ h=>h) HSX.out ?_
        change wpAnyH _ _ _ _ _ _ _ { tmps:=List.toArray (_::_::_::_::_::_::_::_::_::_::_::_::_::_::_::_::_::_::_::_::_::_::_::_::_::_::_::_::_::_::_::_::_::_::_::_::_::_::_::_::_::_::_::_::_::_::[]),defers:=[] } _
        refine dr_skip 11 rfl (by kernel_rfl) (by kernel_rfl) (by kernel_rfl) (by kernel_rfl) (fun _ _ _ h=>h) HSX.out ?_
        change wpAnyH _ _ _ _ _ _ _ { tmps:=List.toArray (_::_::_::_::_::_::_::_::_::_::_::_::_::_::_::_::_::_::_::_::_::_::_::_::_::_::_::_::_::_::_::_::_::_::_::_::_::_::_::_::_::_::_::_::_::_::[]),defers:=[] } _
        refine dr_skip 12 rfl (by kernel_rfl) (by kernel_rfl) (by kernel_rfl) (by kernel_rfl) (fun _ _ _ h=>h) HSX.out ?_
        change wpAnyH _ _ _ _ _ _ _ { tmps:=List.toArray (_::_::_::_::_::_::_::_::_::_::_::_::_::_::_::_::_::_::_::_::_::_::_::_::_::_::_::_::_::_::_::_::_::_::_::_::_::_::_::_::_::_::_::_::_::_::[]),defers:=[] } _
        refine dr_take 13 (.bool false) rfl rfl (by kernel_rfl) (by kernel_rfl) (by kernel_rfl) (fun _ _ _ h=>h) (fun _ _=>by unfold execOp;go_simp) HSX.out ?_
        change wpAnyH _ _ _ _ _ _ _ { tmps:=List.toArray (_::_::_::_::_::_::_::_::_::_::_::_::_::_::_::_::_::_::_::_::_::_::_::_::_::_::_::_::_::_::_::_::_::_::_::_::_::_::_::_::_::_::_::_::_::_::[]),defers:=[] } _
        have OR:=HQ8.out.rx
        have hpw:=HPW.out
        have hsr:∀ k,k≠w.heap.size→(W8.setRow w.heap.size row).heap[k]? = W8.heap[k]?:=fun k hk=>setRow_other row hk
        have hps2:Own (W8.setRow w.heap.size row) (w.heap.size+1) 25 row∧Own (W8.setRow w.heap.size row) p 81 #[.slice ar l.length cr,.bool true]:=⟨(hsr _ (by omega)).trans HQ8.out.ox,(hsr _ (by omega)).trans HSX.out.2⟩
        have HS2:=Lib.hid hps2
        have HDQ:Hid (Dq w p (l,true) (W8.setRow w.heap.size row)):=⟨HQ8.out.dq.st.keep fun k hk=>hsr k (by omega),HQ8.out.dq.keep.os,HQ8.out.dq.keep.tape,HQ8.out.dq.keep.output,by rw [size_setRow];exact HQ8.out.dq.keep.size,fun k o hk hs=>by
         have hl:k<w.heap.size:=(Array.getElem?_eq_some_iff.1 hk).1
         exact (hsr k (by omega)).trans (HQ8.out.dq.keep.block k o hk hs)⟩
        have HDV:=Lib.hid ((HV8.out.stays (W':=W8.setRow w.heap.size row) (fun b hb _=>hsr b (by omega))).mono (by omega:w.heap.size≤w.heap.size+2))
        have HRX:=Lib.hid (OR.row row)
        clear hps2 hsr
        obtain ⟨dO,dO1,dO2,dO3⟩:=rowO
        refine dr_one 14 rfl rfl (by kernel_rfl) ?_
        refine wp_store_row 25 _ _ rfl w.heap.size row rfl rfl 25 _ OR (by rw [dO3,hrs]) (by rw [hrs];rfl) hro ⟨HS2.out,?_⟩
        change wpAnyH _ _ _ _ _ _ _ { tmps:=List.toArray (_::_::_::_::_::_::_::_::_::_::_::_::_::_::_::_::_::_::_::_::_::_::_::_::_::_::_::_::_::_::_::_::_::_::_::_::_::_::_::_::_::_::_::_::_::_::[]),defers:=[] } _
        refine dr_one 15 rfl rfl (by kernel_rfl) ?_
        refine wv_val (v:=.bool false) (by unfold execOp;go_simp) ⟨HS2.out,?_⟩
        refine wpAnyH_done (by kernel_rfl) ?_ _
        clear OR HQ8 HV8 HSX HS2 dO1 dO2 dO3
        go_wp2_with (fail)
        refine p_ret2 rowO rfl HRX.out rfl rfl hrs rfl ?_
        have hok:okS (l,true)=false:=rfl
        rw [HE2.out]
        simp only
        rw [hok]
        exact ⟨.agg row,rfl,⟨_,_,L,by rw [← HROW.out],HDV.out⟩,_,HDQ.out⟩
      | false =>
        refine wp_region_held (S:=fun V=>Own V (w.heap.size+1) 25 row∧Own V p 81 #[.slice ar l.length cr,.bool false]) (by kernel_rfl) ?_
        change wpAnyH _ _ _ _ _ _ _ _ W7.drew
        have HQ8:=Lib.hid (HQ7.out.below (below_drewN (Below.refl _ W7) 1))
        have HV8:=Lib.hid (HV7.out.stays (W':=W7.drew) (fun b _ _=>rfl))
        change Hid (OsB _ _ _ _ W7.drew) at HQ8
        have hps:Own W7.drew p 81 #[.slice ar l.length cr,.bool false]:=HP7.out
        obtain ⟨W8,hW8⟩:∃ W,W=W7.drew:=⟨_,rfl⟩
        rw [← hW8] at HQ8 HV8 hps ⊢
        clear hW8
        have HSX:=Lib.hid (And.intro HQ8.out.ox hps)
        clear hps HQ7 HV7 HP7
        change wpAnyH _ _ _ _ _ _ _ { tmps:=List.toArray (_::_::_::_::_::_::_::_::_::_::_::_::_::_::_::_::_::_::_::_::_::_::_::_::_::_::_::_::_::_::_::_::_::_::_::_::_::_::_::_::_::_::_::_::_::_::[]),defers:=[] } _
        refine dr_take 0 (.agg row) rfl rfl (by kernel_rfl) (by kernel_rfl) (by kernel_rfl) (fun _ _ _ h=>h) (fun _ h=>run_ldT rowO rfl rfl h.1 hrs) HSX.out ?_
        change wpAnyH _ _ _ _ _ _ _ { tmps:=List.toArray (_::_::_::_::_::_::_::_::_::_::_::_::_::_::_::_::_::_::_::_::_::_::_::_::_::_::_::_::_::_::_::_::_::_::_::_::_::_::_::_::_::_::_::_::_::_::[]),defers:=[] } _
        refine dr_take 1 (.pointer (some ⟨p,0,none⟩)) rfl rfl (by kernel_rfl) (by kernel_rfl) (by kernel_rfl) (fun _ _ _ h=>h) (fun _ _=>by unfold execOp;go_simp) HSX.out ?_
        change wpAnyH _ _ _ _ _ _ _ { tmps:=List.toArray (_::_::_::_::_::_::_::_::_::_::_::_::_::_::_::_::_::_::_::_::_::_::_::_::_::_::_::_::_::_::_::_::_::_::_::_::_::_::_::_::_::_::_::_::_::_::[]),defers:=[] } _
        refine dr_take 2 (.pointer (some ⟨p,0,none⟩)) rfl rfl (by kernel_rfl) (by kernel_rfl) (by kernel_rfl) (fun _ _ _ h=>h) (fun _ _=>by unfold execOp;go_simp) HSX.out ?_
        change wpAnyH _ _ _ _ _ _ _ { tmps:=List.toArray (_::_::_::_::_::_::_::_::_::_::_::_::_::_::_::_::_::_::_::_::_::_::_::_::_::_::_::_::_::_::_::_::_::_::_::_::_::_::_::_::_::_::_::_::_::_::[]),defers:=[] } _
        refine dr_take 3 (.pointer (some ⟨p,1,none⟩)) rfl rfl (by kernel_rfl) (by kernel_rfl) (by kernel_rfl) (fun _ _ _ h=>h) (fun _ _=>by unfold execOp;go_simp) HSX.out ?_
        change wpAnyH _ _ _ _ _ _ _ { tmps:=List.toArray (_::_::_::_::_::_::_::_::_::_::_::_::_::_::_::_::_::_::_::_::_::_::_::_::_::_::_::_::_::_::_::_::_::_::_::_::_::_::_::_::_::_::_::_::_::_::[]),defers:=[] } _
        refine dr_take 4 (.bool false) rfl rfl (by kernel_rfl) (by kernel_rfl) (by kernel_rfl) (fun _ _ _ h=>h) (fun W h=>by have h2:=row_cellsO h.2 1 _ rfl;unfold execOp;go_simp) HSX.out ?_
        change wpAnyH _ _ _ _ _ _ _ { tmps:=List.toArray (_::_::_::_::_::_::_::_::_::_::_::_::_::_::_::_::_::_::_::_::_::_::_::_::_::_::_::_::_::_::_::_::_::_::_::_::_::_::_::_::_::_::_::_::_::_::[]),defers:=[] } _
        refine dr_take 5 (.bool true) rfl rfl (by kernel_rfl) (by kernel_rfl) (by kernel_rfl) (fun _ _ _ h=>h) (fun _ _=>by unfold execOp;go_simp) HSX.out ?_
        change wpAnyH _ _ _ _ _ _ _ { tmps:=List.toArray (_::_::_::_::_::_::_::_::_::_::_::_::_::_::_::_::_::_::_::_::_::_::_::_::_::_::_::_::_::_::_::_::_::_::_::_::_::_::_::_::_::_::_::_::_::_::[]),defers:=[] } _
        refine dr_take 6 (.bool true) rfl rfl (by kernel_rfl) (by kernel_rfl) (by kernel_rfl) (fun _ _ _ h=>h) (fun _ _=>by unfold execOp;go_simp) HSX.out ?_
        change wpAnyH _ _ _ _ _ _ _ { tmps:=List.toArray (_::_::_::_::_::_::_::_::_::_::_::_::_::_::_::_::_::_::_::_::_::_::_::_::_::_::_::_::_::_::_::_::_::_::_::_::_::_::_::_::_::_::_::_::_::_::[]),defers:=[] } _
        refine dr_takeg 7 (.pointer (some ⟨p,0,none⟩)) rfl (by kernel_rfl) (by kernel_rfl) (by kernel_rfl) (by kernel_rfl) (fun _ _ _ h=>h) (fun _ _=>by unfold execOp;go_simp) HSX.out ?_
        change wpAnyH _ _ _ _ _ _ _ { tmps:=List.toArray (_::_::_::_::_::_::_::_::_::_::_::_::_::_::_::_::_::_::_::_::_::_::_::_::_::_::_::_::_::_::_::_::_::_::_::_::_::_::_::_::_::_::_::_::_::_::[]),defers:=[] } _
        refine dr_takeg 8 (.pointer (some ⟨p,0,none⟩)) rfl (by kernel_rfl) (by kernel_rfl) (by kernel_rfl) (by kernel_rfl) (fun _ _ _ h=>h) (fun _ _=>by unfold execOp;go_simp) HSX.out ?_
        change wpAnyH _ _ _ _ _ _ _ { tmps:=List.toArray (_::_::_::_::_::_::_::_::_::_::_::_::_::_::_::_::_::_::_::_::_::_::_::_::_::_::_::_::_::_::_::_::_::_::_::_::_::_::_::_::_::_::_::_::_::_::[]),defers:=[] } _
        refine dr_takeg 9 (.pointer (some ⟨p,0,none⟩)) rfl (by kernel_rfl) (by kernel_rfl) (by kernel_rfl) (by kernel_rfl) (fun _ _ _ h=>h) (fun _ _=>by unfold execOp;go_simp) HSX.out ?_
        change wpAnyH _ _ _ _ _ _ _ { tmps:=List.toArray (_::_::_::_::_::_::_::_::_::_::_::_::_::_::_::_::_::_::_::_::_::_::_::_::_::_::_::_::_::_::_::_::_::_::_::_::_::_::_::_::_::_::_::_::_::_::[]),defers:=[] } _
        refine dr_takeg 10 (.slice ar l.length cr) rfl (by kernel_rfl) (by kernel_rfl) (by kernel_rfl) (by kernel_rfl) (fun _ _ _ h=>h) (fun W h=>by have h2:=row_cellsO h.2 0 _ rfl;unfold execOp;go_simp) HSX.out ?_
        change wpAnyH _ _ _ _ _ _ _ { tmps:=List.toArray (_::_::_::_::_::_::_::_::_::_::_::_::_::_::_::_::_::_::_::_::_::_::_::_::_::_::_::_::_::_::_::_::_::_::_::_::_::_::_::_::_::_::_::_::_::_::[]),defers:=[] } _
        refine dr_takeg 11 (.int .i64 (l.length:Int)) rfl (by kernel_rfl) (by kernel_rfl) (by kernel_rfl) (by kernel_rfl) (fun _ _ _ h=>h) (fun _ _=>by unfold execOp;go_simp) HSX.out ?_
        change wpAnyH _ _ _ _ _ _ _ { tmps:=List.toArray (_::_::_::_::_::_::_::_::_::_::_::_::_::_::_::_::_::_::_::_::_::_::_::_::_::_::_::_::_::_::_::_::_::_::_::_::_::_::_::_::_::_::_::_::_::_::[]),defers:=[] } _
        refine dr_takeg 12 (.bool ((l.length:Int)==0)) rfl (by kernel_rfl) (by kernel_rfl) (by kernel_rfl) (by kernel_rfl) (fun _ _ _ h=>h) (fun _ _=>by unfold execOp;go_simp) HSX.out ?_
        change wpAnyH _ _ _ _ _ _ _ { tmps:=List.toArray (_::_::_::_::_::_::_::_::_::_::_::_::_::_::_::_::_::_::_::_::_::_::_::_::_::_::_::_::_::_::_::_::_::_::_::_::_::_::_::_::_::_::_::_::_::_::[]),defers:=[] } _
        refine dr_take 13 (.bool ((l.length:Int)==0)) rfl rfl (by kernel_rfl) (by kernel_rfl) (by kernel_rfl) (fun _ _ _ h=>h) (fun _ _=>by unfold execOp;go_simp) HSX.out ?_
        change wpAnyH _ _ _ _ _ _ _ { tmps:=List.toArray (_::_::_::_::_::_::_::_::_::_::_::_::_::_::_::_::_::_::_::_::_::_::_::_::_::_::_::_::_::_::_::_::_::_::_::_::_::_::_::_::_::_::_::_::_::_::[]),defers:=[] } _
        have OR:=HQ8.out.rx
        have hpw:=HPW.out
        have hsr:∀ k,k≠w.heap.size→(W8.setRow w.heap.size row).heap[k]? = W8.heap[k]?:=fun k hk=>setRow_other row hk
        have hps2:Own (W8.setRow w.heap.size row) (w.heap.size+1) 25 row∧Own (W8.setRow w.heap.size row) p 81 #[.slice ar l.length cr,.bool false]:=⟨(hsr _ (by omega)).trans HQ8.out.ox,(hsr _ (by omega)).trans HSX.out.2⟩
        have HS2:=Lib.hid hps2
        have HDQ:Hid (Dq w p (l,false) (W8.setRow w.heap.size row)):=⟨HQ8.out.dq.st.keep fun k hk=>hsr k (by omega),HQ8.out.dq.keep.os,HQ8.out.dq.keep.tape,HQ8.out.dq.keep.output,by rw [size_setRow];exact HQ8.out.dq.keep.size,fun k o hk hs=>by
         have hl:k<w.heap.size:=(Array.getElem?_eq_some_iff.1 hk).1
         exact (hsr k (by omega)).trans (HQ8.out.dq.keep.block k o hk hs)⟩
        have HDV:=Lib.hid ((HV8.out.stays (W':=W8.setRow w.heap.size row) (fun b hb _=>hsr b (by omega))).mono (by omega:w.heap.size≤w.heap.size+2))
        have HRX:=Lib.hid (OR.row row)
        clear hps2 hsr
        obtain ⟨dO,dO1,dO2,dO3⟩:=rowO
        refine dr_one 14 rfl rfl (by kernel_rfl) ?_
        refine wp_store_row 25 _ _ rfl w.heap.size row rfl rfl 25 _ OR (by rw [dO3,hrs]) (by rw [hrs];rfl) hro ⟨HS2.out,?_⟩
        change wpAnyH _ _ _ _ _ _ _ { tmps:=List.toArray (_::_::_::_::_::_::_::_::_::_::_::_::_::_::_::_::_::_::_::_::_::_::_::_::_::_::_::_::_::_::_::_::_::_::_::_::_::_::_::_::_::_::_::_::_::_::[]),defers:=[] } _
        refine dr_one 15 rfl rfl (by kernel_rfl) ?_
        refine wv_val (v:=.bool ((l.length:Int)==0)) (by unfold execOp;go_simp) ⟨HS2.out,?_⟩
        refine wpAnyH_done (by kernel_rfl) ?_ _
        clear OR HQ8 HV8 HSX HS2 dO1 dO2 dO3
        go_wp2_with (fail)
        refine p_ret2 rowO rfl HRX.out rfl rfl hrs rfl ?_
        have hok:okS (l,false)=((l.length:Int)==0):=rfl
        rw [HE2.out]
        simp only
        rw [hok]
        exact ⟨.agg row,rfl,⟨_,_,L,by rw [← HROW.out],HDV.out⟩,_,HDQ.out⟩
 · rw [Hid, if_neg hmg] at HEQ
   have HE2:=Lib.hid HEQ
   have hne:(mt.toList==([115,116,105,108]:List UInt8))=false:=lit_f (fun e=>hmg (hml.symm.trans e))
   clear hml
   go_enter Tryz.func31,Tryz.ntmps31
   go_upto_region 2 with fail
   rw [← HW0.out]
   clear HW0
   go_upto_region 3 with (go_at_call 71;refine HTK.out.mono ?_;rintro e w2 ⟨rfl,hq⟩;have HQ2:=Lib.hid hq;clear hq)
   have OX:=HQ2.out.ox
   have OR:=HQ2.out.rx
   go_wp2_with (first | (refine ld rowO rfl rfl rfl OX rfl ?_) | (refine st rowO rfl rfl OR rfl rfl (by rfl) (by rfl) (by kernel_rfl) ?_))
   have HRX:=Lib.hid (OR.row #[.slice none 0 0,.int .i64 0,.int .i64 0,.int .i64 0,.slice none 0 0])
   have hpw:=HPW.out
   have hsr:∀ k,k≠w.heap.size→(w2.setRow w.heap.size #[.slice none 0 0,.int .i64 0,.int .i64 0,.int .i64 0,.slice none 0 0]).heap[k]? = w2.heap[k]?:=fun k hk=>setRow_other _ hk
   have HDQ:Hid (Dq w p s0 (w2.setRow w.heap.size #[.slice none 0 0,.int .i64 0,.int .i64 0,.int .i64 0,.slice none 0 0])):=⟨HQ2.out.dq.st.keep fun k hk=>hsr k (by omega),HQ2.out.dq.keep.os,HQ2.out.dq.keep.tape,HQ2.out.dq.keep.output,by rw [size_setRow];exact HQ2.out.dq.keep.size,fun k o hk hs=>by
    have hl:k<w.heap.size:=(Array.getElem?_eq_some_iff.1 hk).1
    exact (hsr k (by omega)).trans (HQ2.out.dq.keep.block k o hk hs)⟩
   refine p_ret2 rowO rfl HRX.out rfl rfl rfl rfl ?_
   rw [HE2.out]
   exact ⟨_,rfl,⟨_,_,[],rfl,dcv_zero _ _⟩,_,HDQ.out⟩
end Go.Proofs.YtmpljhfinmfnbaaGreatDoor

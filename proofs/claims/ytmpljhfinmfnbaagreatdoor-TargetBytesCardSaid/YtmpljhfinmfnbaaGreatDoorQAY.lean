/- The proof, part 25: texts that belong together, in one. -/
import Derived.Test.YtmpljhfinmfnbaaGreatDoorQAX
set_option maxRecDepth 100000
set_option maxHeartbeats 20000000
namespace Go.Proofs.YtmpljhfinmfnbaaGreatDoor
open Go.RowKit
set_option linter.unusedVariables false
set_option maxRecDepth 100000
theorem siz_rg (t:ByteArray) (s:Pst) : -9223372036854775808≤(sizS t s).1∧(sizS t s).1≤9223372036854775807:=val_range t s
theorem num_rg (s:Pst) : -9223372036854775808≤(numS' s).1∧(numS' s).1≤9223372036854775807:=siz_rg (nextS s).1 (nextS s).2
theorem reg_rg (s:Pst) : -9223372036854775808≤(regS' s).1∧(regS' s).1≤9223372036854775807:=siz_rg (behS 114 s).1 (behS 114 s).2
theorem wd_rg (s:Pst) : -9223372036854775808≤(wdS s).1∧(wdS s).1≤9223372036854775807:=parse_range (nextS s).1.data.toList
theorem ori_rg (s:Pst) : -9223372036854775808≤(oriS s).1∧(oriS s).1≤9223372036854775807:=siz_rg (behS 64 s).1 (behS 64 s).2
theorem step_rg (j:Nat) (x:Pst × Ins) (h:rgI x.2):rgI (stepF j x).2:=by
 obtain ⟨h1,h2,h3,h4,h5,h6,h7,h8,h9⟩:=h
 match j with
 | 0=>exact ⟨h1,h2,reg_rg _,h4,h5,h6,h7,h8,h9⟩
 | 1=>exact ⟨h1,h2,h3,reg_rg _,h5,h6,h7,h8,h9⟩
 | 2=>exact ⟨h1,h2,h3,h4,reg_rg _,h6,h7,h8,h9⟩
 | 3=>exact ⟨h1,h2,h3,h4,h5,num_rg _,h7,h8,h9⟩
 | 4=>exact ⟨h1,h2,h3,h4,h5,h6,num_rg _,h8,h9⟩
 | j+5=>exact ⟨h1,h2,h3,h4,h5,h6,h7,wd_rg _,h9⟩
theorem vS_rg (u:Int) (x:Pst × Ins) (h:rgI x.2):∀ j:Nat,rgI (vS u j x).2
 | 0=>h
 | j + 1 => by
   have ih:=vS_rg u x h j
   unfold vS
   cases hasB u (fldB j) with
   | false=>exact ih
   | true=>exact step_rg j _ ih
theorem ins_rg (s:Pst) (i:Ins) (h:rgI i):rgI (insS s i).2:=by
 have h2:=vS_rg (uB i.k i.o) (s,i) h 6
 unfold insS
 cases (vS (uB i.k i.o) 6 (s,i)).1.more with
 | false=>exact h2
 | true =>
   obtain ⟨h1,h2,h3,h4,h5,h6,h7,h8,h9⟩:=h2
   exact ⟨h1,h2,h3,h4,h5,h6,h7,h8,ori_rg _⟩
theorem hd_fit (j:Nat) (y:Pst × Ob) (h:FitT y.2):FitT (hdF j y).2:=by
 obtain ⟨h1,h2,h3,h4,r1,r2,r3,r4,r5⟩:=h
 match j with
 | 0=>exact ⟨h1,h2,h3,h4,r1,num_rg _,r3,r4,r5⟩
 | 1=>exact ⟨h1,h2,h3,h4,r1,r2,num_rg _,r4,r5⟩
 | j+2=>exact ⟨h1,h2,h3,h4,r1,r2,r3,num_rg _,r5⟩
theorem hdS_fit (y:Pst × Ob) (h:FitT y.2):∀ j:Nat,FitT (hdS j y).2
 | 0=>h
 | j+1=>hd_fit j _ (hdS_fit y h j)
theorem mmS_fit:∀ (n:Nat) (y:Pst × Ob),FitT y.2→FitT (mmS n y).2
 | 0,y,h=>h
 | n + 1, y, h => by
   unfold mmS
   split
   · refine mmS_fit n _ ?_
     obtain ⟨h1,h2,h3,h4,r1,r2,r3,r4,r5⟩:=h
     exact ⟨keep_len _ _ 4096 h1,h2,h3,h4,keep_all r1 (wd_rg _),r2,r3,r4,r5⟩
   · exact h
theorem coS_fit (y:Pst × Ob) (h:FitT y.2) (hs:y.1.rest.size≤140737488351232):FitT (coS y).2:=by
 obtain ⟨h1,h2,h3,h4,r1,r2,r3,r4,r5⟩:=h
 refine ⟨h1,keep_len _ _ 8 h2,keep_all h3 (by simp),keep_all h4 (Nat.le_trans (next_size y.1).1 hs),r1,r2,r3,r4,keep_all r5 (by simp)⟩
theorem push_fit (o:Ob) (i:Ins) (h:FitT o) (hi:rgI i):FitT { o with cores:=pushI o.cores i }:=by
 obtain ⟨h1,h2,h3,h4,r1,r2,r3,r4,r5⟩:=h
 by_cases hc:o.cores=[]
 · have e : pushI o.cores i = o.cores := by rw [hc]; rfl
   rw [e]
   exact ⟨h1,h2,h3,h4,r1,r2,r3,r4,r5⟩
 · have e : pushI o.cores i = o.cores.dropLast ++ [⟨(o.cores.getLast hc).name, keepL (o.cores.getLast hc).code i 16384⟩] := by
    unfold pushI
    rw [List.getLast?_eq_some_getLast hc]
   have hm:=List.getLast_mem hc
   rw [e]
   have hall:∀ {P:Cor→Prop},(∀ c∈o.cores,P c)→P ⟨(o.cores.getLast hc).name,keepL (o.cores.getLast hc).code i 16384⟩→∀ c∈o.cores.dropLast++[(⟨(o.cores.getLast hc).name,keepL (o.cores.getLast hc).code i 16384⟩:Cor)],P c:=fun h k c hcm=>by
    rcases List.mem_append.1 hcm with hcm | hcm
    · exact h c (List.dropLast_subset _ hcm)
    · obtain rfl := List.mem_singleton.1 hcm
      exact k
   refine ⟨h1,?_,hall h3 (keep_len _ _ 16384 (h3 (o.cores.getLast hc) hm)),hall h4 (h4 (o.cores.getLast hc) hm),r1,r2,r3,r4,hall r5 (keep_all (r5 (o.cores.getLast hc) hm) hi)⟩
   simp only [List.length_append,List.length_dropLast,List.length_singleton]
   have:=List.length_pos_iff.2 hc
   omega
theorem in_fit (t:ByteArray) (y:Pst × Ob) (h:FitT y.2):FitT (inS t y).2:=by
 unfold inS
 cases (begS t.data.toList).2 with
 | false=>exact h
 | true=>exact push_fit y.2 _ h (ins_rg _ _ (beg_rg _))
theorem ln_fit (k:Nat) (t:ByteArray) (o:Ob) (h:FitT o) (ht:t.size≤140737488351232):FitT (lnS k t o).2:=by
 unfold lnS
 split
 · split
   · exact hdS_fit _ h 3
   · exact h
 · split
   · split
     · exact mmS_fit _ _ h
     · exact h
   · split
     · exact coS_fit _ h (Nat.le_trans (next_size _).2 ht)
     · split
       · exact h
       · exact in_fit _ _ h
theorem fit_zero:FitT zOb:=⟨by simp [zOb],by simp [zOb],by simp [zOb],by simp [zOb],by simp [zOb,rgO]⟩
theorem FitT.fit {o:Ob} (h:FitT o):fitO o:=⟨by have:=h.mem;omega,by have:=h.cors;omega,fun c hc=>⟨h.name c hc,by have:=h.code c hc;omega⟩⟩
open Go.RowKit
set_option linter.unusedVariables false
set_option maxRecDepth 100000
structure Rg (w:World) (B g:Nat) (o:Ob) (W:World):Prop where
 rd:∃ v1 v5 L,RdS B g o v1 v5 L W
 bel:Below B w W
theorem Rg.below {w W W':World} {B g:Nat} {o:Ob} (h:Rg w B g o W) (hb:Below W.heap.size W W') (hB:B≤g):Rg w B g o W':=by
 obtain ⟨v1,v5,L,hr⟩:=h.rd
 exact ⟨⟨v1,v5,L,hr.below hb⟩,h.bel.trans (hb.mono (by have:=hr.own.lt;omega))⟩
theorem Rp.rg {w W:World} {B p g:Nat} {y:Pst × Ob} (h:Rp w B p g y W):Rg w B g y.2 W:=⟨h.rd,h.bel⟩
theorem lit_t {s:ByteArray} {l:List UInt8} (h:s.data.toList=l):(s.toList==l)=true:=by
 have h2:=bytes_eqT (a:=s) (b:=⟨l.toArray⟩) (by
  cases s with
  | mk d =>
    have:d=l.toArray:=by simpa using congrArg List.toArray h
    rw [this])
 simpa using h2
theorem lit_f {s:ByteArray} {l:List UInt8} (h:s.data.toList≠l):(s.toList==l)=false:=by
 have h2:=bytes_eqF (a:=s) (b:=⟨l.toArray⟩) (by rintro rfl;exact h (by simp))
 simpa using h2
theorem nextS_le (t:ByteArray):(nextS ⟨t,true,false⟩).2.rest.size≤t.size:=(next_size _).2
theorem t_line (k:Nat) (t:ByteArray) (o:Ob) {w W:World} {B g:Nat} (h:Rg w B g o W) (hk:k≤9223372036854775807) (ht:t.size≤140737488351232) (hf:FitT o) (hB2:B≤g) (HT:∀ X,Below B w X→TgT X) :
 Calls Tryz.prog 125 #[.pointer (some ⟨g,0,none⟩),.int .i64 (k:Int),.string t] W fun e w'=>e=.returned (.bool (lnS k t o).1)∧Rg w B g (lnS k t o).2 w':=by
 have hBW:B≤W.heap.size:=by
  obtain ⟨v1,v5,L,hr⟩:=h.rd
  have:=hr.own.lt;omega
 have al1:=(Below.refl _ W).alloc (Nat.le_refl _) (.cells #[.string t,.bool true,.bool false] 256)
 have O1:=Own.new W 256 #[.string t,.bool true,.bool false]
 obtain ⟨p,hp⟩:∃ p,p=W.heap.size:=⟨_,rfl⟩
 rw [← hp] at O1 hBW
 have HNEW:Hid (Calls Tryz.prog 152 #[.string t] W fun e w'=>e=.returned (.pointer (some ⟨p,0,none⟩))∧w'=W.alloc (.cells #[.string t,.bool true,.bool false] 256)):=by rw [hp];exact p_New t W
 have hr1:Rp w B p g (⟨t,true,false⟩,o) (W.alloc (.cells #[.string t,.bool true,.bool false] 256)):=by
  obtain ⟨v1,v5,L,hr⟩:=h.rd
  exact ⟨O1,⟨v1,v5,L,hr.below al1⟩,h.bel.trans (al1.mono (by have:=hr.own.lt;omega))⟩
 obtain ⟨W1,hW1⟩:∃ X,X=W.alloc (.cells #[.string t,.bool true,.bool false] 256):=⟨_,rfl⟩
 rw [← hW1] at HNEW hr1
 have hpl:p<W1.heap.size:=hr1.own.lt
 have O2:=Own.new W1 235 #[.pointer none]
 have O3:=O2.row #[.pointer (some ⟨p,0,none⟩)]
 have al2:Below W1.heap.size W1 ((W1.alloc (.cells #[.pointer none] 235)).setRow W1.heap.size #[.pointer (some ⟨p,0,none⟩)]):=Below.of_row ((Below.refl _ W1).alloc (Nat.le_refl _) (.cells #[.pointer none] 235)) (Nat.le_refl _) #[.pointer (some ⟨p,0,none⟩)]
 have hq2:Rq w B p g W1.heap.size (⟨t,true,false⟩,o) ((W1.alloc (.cells #[.pointer none] 235)).setRow W1.heap.size #[.pointer (some ⟨p,0,none⟩)]):=⟨hr1.below al2 hBW,O3⟩
 obtain ⟨b,hb⟩:∃ b,b=W1.heap.size:=⟨_,rfl⟩
 have hbp:b≠p:=by omega
 have HNX:Hid (∀ X,Rq w B p g b (⟨t,true,false⟩,o) X→Calls Tryz.prog 153 #[.pointer (some ⟨p,0,none⟩)] X fun e w'=>e=.returned (.string (nextS ⟨t,true,false⟩).1)∧Rq w B p g b ((nextS ⟨t,true,false⟩).2,o) w'):=fun X hX=>(p_next hX.rp.own (show t.size≤_ by omega)).mono fun _ _ ⟨e1,e2⟩=>⟨e1,hX.next e2 hBW hbp⟩
 have hns:=nextS_le t
 have hcl:∀ (s1:Pst),s1.rest.size≤t.size→∀ X,Rq w B p g b (s1,o) X →
  Calls Tryz.prog 154 #[.pointer (some ⟨g,0,none⟩),.agg #[.pointer (some ⟨p,0,none⟩)]] X (fun e w'=>e=.returned (.bool (doneB (hdS 3 (s1,o)).1))∧Rg w B g (hdS 3 (s1,o)).2 w') ∧
  Calls Tryz.prog 155 #[.pointer (some ⟨g,0,none⟩),.agg #[.pointer (some ⟨p,0,none⟩)]] X (fun e w'=>e=.returned (.bool (doneB (mmS (t.size+2) (s1,o)).1))∧Rg w B g (mmS (t.size+2) (s1,o)).2 w') ∧
  Calls Tryz.prog 156 #[.pointer (some ⟨g,0,none⟩),.agg #[.pointer (some ⟨p,0,none⟩)]] X (fun e w'=>e=.returned (.bool (doneB (coS (s1,o)).1))∧Rg w B g (coS (s1,o)).2 w') ∧
  (∀ s0,o.cores≠[]→Calls Tryz.prog 157 #[.pointer (some ⟨g,0,none⟩),.string s0,.agg #[.pointer (some ⟨p,0,none⟩)]] X (fun e w'=>e=.returned (.bool (inS s0 (s1,o)).1)∧Rg w B g (inS s0 (s1,o)).2 w')):=fun s1 hs1 X hX =>
  ⟨(t_head hX.rp.self (show s1.rest.size≤_ by omega) hBW hB2).mono fun _ _ ⟨e1,e2⟩=>⟨e1,(hX.rp.trans e2).rg⟩,
   (t_memory hX.rp.self (show s1.rest.size≤_ by omega) hf.mem (t.size+2) (show s1.rest.size+1≤_ by omega) hBW hB2).mono fun _ _ ⟨e1,e2⟩=>⟨e1,(hX.rp.trans e2).rg⟩,
   (t_core hX.rp.self (show s1.rest.size≤_ by omega) (by have:=hf.cors;show o.cores.length≤_;omega) hBW hB2).mono fun _ _ ⟨e1,e2⟩=>⟨e1,(hX.rp.trans e2).rg⟩,
   fun s0 hc=>(t_instruction s0 hX.rp.self (show s1.rest.size≤_ by omega) hc hf hBW hB2 (fun V hV=>HT V (hX.rp.bel.trans hV))).mono fun _ _ ⟨e1,s',e2⟩=>⟨e1,(hX.rp.trans e2).rg⟩⟩
 have HCL:=Lib.hid (hcl _ hns)
 have HRC:Hid (∀ s1 X,Rq w B p g b (s1,o) X→∃ a5 c5,X.cell? ⟨g,4,none⟩=some (.slice a5 o.cores.length c5)∧Own X b 235 #[.pointer (some ⟨p,0,none⟩)]∧Rg w B g o X):=fun s1 X hX=>by
  obtain ⟨v1,v5,L,hr⟩:=hX.rp.rd
  obtain ⟨a5,c5,rfl⟩:=row_slice hr.cors
  exact ⟨a5,c5,by rw [cell_of_row _ _ 4 _ _ _ hr.own,← hr.fst,List.length_map];rfl,hX.bx,hX.rp.rg⟩
 have HRES:Hid (∀ e w',e=Ending.returned (.bool (lnS k t o).1)∧Rg w B g (lnS k t o).2 w'→e=Ending.returned (.bool (lnS k t o).1)∧Rg w B g (lnS k t o).2 w'):=fun _ _ h=>h
 clear hcl
 unfold lnS
 generalize nextS ⟨t,true,false⟩=r at HNX HCL hns ⊢
 obtain ⟨first,s1⟩:=r
 simp only at HNX HCL ⊢
 have HHL:Hid (o.cores.length≤9):=hf.cors
 rw [← hb] at hq2 O2
 obtain ⟨W2,hW2⟩:∃ X,X=(W1.alloc (.cells #[.pointer none] 235)).setRow b #[.pointer (some ⟨p,0,none⟩)]:=⟨_,rfl⟩
 rw [← hW2] at hq2
 have HQ2:=Lib.hid hq2
 have HW2:=Lib.hid hW2
 rw [hb] at O2 HW2
 have HB:=Lib.hid hb
 clear h hf HT al1 al2 hr1 O1 O3 hq2 hp hbp hns ht hBW hB2 hpl hW1 hW2 hb HRES
 by_cases h0:k=0
 · subst h0
   rw [if_pos rfl]
   show Calls _ _ #[.pointer (some ⟨g,0,none⟩),.int .i64 0,.string t] _ _
   by_cases hw:first.data.toList=objN
   · rw [if_pos hw]
     have q:(first.toList==([111,98,106,101,99,116]:List UInt8))=true:=lit_t hw
     clear hw
     go_enter Tryz.func125,Tryz.ntmps125
     go_upto_region 2 with (first | (go_at_call 152;refine HNEW.out.mono ?_;rintro e w2 ⟨rfl,rfl⟩) | (refine st rowPt rfl rfl O2 rfl rfl (by rfl) (by rfl) (by kernel_rfl) ?_))
     rw [← HW2.out,← HB.out]
     clear HW2 O2 HNEW
     have c0:W2.cell? ⟨b,0,none⟩=some (.pointer (some ⟨p,0,none⟩)):=by rw [cell_of_row _ _ 0 _ _ _ HQ2.out.bx];rfl
     go_upto_region 3 with (go_at_call 153;refine (HNX.out _ HQ2.out).mono ?_;rintro e w3 ⟨rfl,hq⟩;have HQ3:=Lib.hid hq;obtain ⟨a5,c5,d4,OB,hrg⟩:=HRC.out _ _ hq;have HRG:=Lib.hid hrg;clear hq hrg c0)
     have HC3:=Lib.hid (HCL.out _ HQ3.out)
     have cb:w3.cell? ⟨b,0,none⟩=some (.pointer (some ⟨p,0,none⟩)):=by rw [cell_of_row _ _ 0 _ _ _ OB];rfl
     clear HQ2 HQ3 HCL HRC HNX
     go_wp2_with (first | (refine ld rowPt rfl rfl rfl OB rfl ?_) | (go_at_call 154;refine (HC3.out.1).mono ?_;rintro e w4 ⟨rfl,hz⟩;have HZ:=Lib.hid hz;clear hz))
     go_ret
     exact ⟨rfl,HZ.out⟩
   · rw [if_neg hw]
     have q:(first.toList==([111,98,106,101,99,116]:List UInt8))=false:=lit_f hw
     clear hw
     go_enter Tryz.func125,Tryz.ntmps125
     go_upto_region 2 with (first | (go_at_call 152;refine HNEW.out.mono ?_;rintro e w2 ⟨rfl,rfl⟩) | (refine st rowPt rfl rfl O2 rfl rfl (by rfl) (by rfl) (by kernel_rfl) ?_))
     rw [← HW2.out,← HB.out]
     clear HW2 O2 HNEW
     have c0:W2.cell? ⟨b,0,none⟩=some (.pointer (some ⟨p,0,none⟩)):=by rw [cell_of_row _ _ 0 _ _ _ HQ2.out.bx];rfl
     go_upto_region 3 with (go_at_call 153;refine (HNX.out _ HQ2.out).mono ?_;rintro e w3 ⟨rfl,hq⟩;have HQ3:=Lib.hid hq;obtain ⟨a5,c5,d4,OB,hrg⟩:=HRC.out _ _ hq;have HRG:=Lib.hid hrg;clear hq hrg c0)
     have HC3:=Lib.hid (HCL.out _ HQ3.out)
     have cb:w3.cell? ⟨b,0,none⟩=some (.pointer (some ⟨p,0,none⟩)):=by rw [cell_of_row _ _ 0 _ _ _ OB];rfl
     clear HQ2 HQ3 HCL HRC HNX
     go_wp2_with (refine ld rowPt rfl rfl rfl OB rfl ?_)
     go_ret
     exact ⟨rfl,HRG.out⟩
 rw [if_neg h0]
 have q0:((k:Int)==0)=false:=int_f (by omega)
 by_cases h1:k=1
 · subst h1
   rw [if_pos rfl]
   show Calls _ _ #[.pointer (some ⟨g,0,none⟩),.int .i64 1,.string t] _ _
   clear q0 h0
   by_cases hw:first.data.toList=memN
   · rw [if_pos hw]
     have q:(first.toList==([109,101,109,111,114,121]:List UInt8))=true:=lit_t hw
     clear hw
     go_enter Tryz.func125,Tryz.ntmps125
     go_upto_region 2 with (first | (go_at_call 152;refine HNEW.out.mono ?_;rintro e w2 ⟨rfl,rfl⟩) | (refine st rowPt rfl rfl O2 rfl rfl (by rfl) (by rfl) (by kernel_rfl) ?_))
     rw [← HW2.out,← HB.out]
     clear HW2 O2 HNEW
     have c0:W2.cell? ⟨b,0,none⟩=some (.pointer (some ⟨p,0,none⟩)):=by rw [cell_of_row _ _ 0 _ _ _ HQ2.out.bx];rfl
     go_upto_region 3 with (go_at_call 153;refine (HNX.out _ HQ2.out).mono ?_;rintro e w3 ⟨rfl,hq⟩;have HQ3:=Lib.hid hq;obtain ⟨a5,c5,d4,OB,hrg⟩:=HRC.out _ _ hq;have HRG:=Lib.hid hrg;clear hq hrg c0)
     have HC3:=Lib.hid (HCL.out _ HQ3.out)
     have cb:w3.cell? ⟨b,0,none⟩=some (.pointer (some ⟨p,0,none⟩)):=by rw [cell_of_row _ _ 0 _ _ _ OB];rfl
     clear HQ2 HQ3 HCL HRC HNX
     go_wp2_with (first | (refine ld rowPt rfl rfl rfl OB rfl ?_) | (go_at_call 155;refine (HC3.out.2.1).mono ?_;rintro e w4 ⟨rfl,hz⟩;have HZ:=Lib.hid hz;clear hz))
     go_ret
     exact ⟨rfl,HZ.out⟩
   · rw [if_neg hw]
     have q:(first.toList==([109,101,109,111,114,121]:List UInt8))=false:=lit_f hw
     clear hw
     go_enter Tryz.func125,Tryz.ntmps125
     go_upto_region 2 with (first | (go_at_call 152;refine HNEW.out.mono ?_;rintro e w2 ⟨rfl,rfl⟩) | (refine st rowPt rfl rfl O2 rfl rfl (by rfl) (by rfl) (by kernel_rfl) ?_))
     rw [← HW2.out,← HB.out]
     clear HW2 O2 HNEW
     have c0:W2.cell? ⟨b,0,none⟩=some (.pointer (some ⟨p,0,none⟩)):=by rw [cell_of_row _ _ 0 _ _ _ HQ2.out.bx];rfl
     go_upto_region 3 with (go_at_call 153;refine (HNX.out _ HQ2.out).mono ?_;rintro e w3 ⟨rfl,hq⟩;have HQ3:=Lib.hid hq;obtain ⟨a5,c5,d4,OB,hrg⟩:=HRC.out _ _ hq;have HRG:=Lib.hid hrg;clear hq hrg c0)
     have HC3:=Lib.hid (HCL.out _ HQ3.out)
     have cb:w3.cell? ⟨b,0,none⟩=some (.pointer (some ⟨p,0,none⟩)):=by rw [cell_of_row _ _ 0 _ _ _ OB];rfl
     clear HQ2 HQ3 HCL HRC HNX
     go_wp2_with (refine ld rowPt rfl rfl rfl OB rfl ?_)
     go_ret
     exact ⟨rfl,HRG.out⟩
 rw [if_neg h1]
 have q1:((k:Int)==1)=false:=int_f (by omega)
 clear h0 h1
 by_cases hw:first.data.toList=corN
 · rw [if_pos hw]
   have q:(first.toList==([99,111,114,101]:List UInt8))=true:=lit_t hw
   clear hw
   go_enter Tryz.func125,Tryz.ntmps125
   go_upto_region 2 with (first | (go_at_call 152;refine HNEW.out.mono ?_;rintro e w2 ⟨rfl,rfl⟩) | (refine st rowPt rfl rfl O2 rfl rfl (by rfl) (by rfl) (by kernel_rfl) ?_))
   rw [← HW2.out,← HB.out]
   clear HW2 O2 HNEW
   have c0:W2.cell? ⟨b,0,none⟩=some (.pointer (some ⟨p,0,none⟩)):=by rw [cell_of_row _ _ 0 _ _ _ HQ2.out.bx];rfl
   go_upto_region 3 with (go_at_call 153;refine (HNX.out _ HQ2.out).mono ?_;rintro e w3 ⟨rfl,hq⟩;have HQ3:=Lib.hid hq;obtain ⟨a5,c5,d4,OB,hrg⟩:=HRC.out _ _ hq;have HRG:=Lib.hid hrg;clear hq hrg c0)
   have HC3:=Lib.hid (HCL.out _ HQ3.out)
   have cb:w3.cell? ⟨b,0,none⟩=some (.pointer (some ⟨p,0,none⟩)):=by rw [cell_of_row _ _ 0 _ _ _ OB];rfl
   clear HQ2 HQ3 HCL HRC HNX
   go_wp2_with (first | (refine ld rowPt rfl rfl rfl OB rfl ?_) | (go_at_call 156;refine (HC3.out.2.2.1).mono ?_;rintro e w4 ⟨rfl,hz⟩;have HZ:=Lib.hid hz;clear hz))
   go_ret
   exact ⟨rfl,HZ.out⟩
 rw [if_neg hw]
 have q:(first.toList==([99,111,114,101]:List UInt8))=false:=lit_f hw
 clear hw
 obtain ⟨nc,hnc⟩:∃ n,n=o.cores.length:=⟨_,rfl⟩
 rw [← hnc] at HRC HHL
 have hl9:nc≤9:=HHL.out
 by_cases hc:o.cores=[]
 · rw [if_pos hc]
   have e0:nc=0:=by rw [hnc,hc];rfl
   clear hnc hc
   subst e0
   go_enter Tryz.func125,Tryz.ntmps125
   go_upto_region 2 with (first | (go_at_call 152;refine HNEW.out.mono ?_;rintro e w2 ⟨rfl,rfl⟩) | (refine st rowPt rfl rfl O2 rfl rfl (by rfl) (by rfl) (by kernel_rfl) ?_))
   rw [← HW2.out,← HB.out]
   clear HW2 O2 HNEW
   have c0:W2.cell? ⟨b,0,none⟩=some (.pointer (some ⟨p,0,none⟩)):=by rw [cell_of_row _ _ 0 _ _ _ HQ2.out.bx];rfl
   go_upto_region 3 with (go_at_call 153;refine (HNX.out _ HQ2.out).mono ?_;rintro e w3 ⟨rfl,hq⟩;have HQ3:=Lib.hid hq;obtain ⟨a5,c5,d4,OB,hrg⟩:=HRC.out _ _ hq;have HRG:=Lib.hid hrg;clear hq hrg c0)
   have HC3:=Lib.hid (HCL.out _ HQ3.out)
   have cb:w3.cell? ⟨b,0,none⟩=some (.pointer (some ⟨p,0,none⟩)):=by rw [cell_of_row _ _ 0 _ _ _ OB];rfl
   clear HQ2 HQ3 HCL HRC HNX
   go_wp2_with (refine ld rowPt rfl rfl rfl OB rfl ?_)
   go_ret
   exact ⟨rfl,HRG.out⟩
 · rw [if_neg hc]
   have e0:0<(nc:Int):=by have:=List.length_pos_iff.2 hc;omega
   have HCC:=Lib.hid hc
   clear hnc hc
   go_enter Tryz.func125,Tryz.ntmps125
   go_upto_region 2 with (first | (go_at_call 152;refine HNEW.out.mono ?_;rintro e w2 ⟨rfl,rfl⟩) | (refine st rowPt rfl rfl O2 rfl rfl (by rfl) (by rfl) (by kernel_rfl) ?_))
   rw [← HW2.out,← HB.out]
   clear HW2 O2 HNEW
   have c0:W2.cell? ⟨b,0,none⟩=some (.pointer (some ⟨p,0,none⟩)):=by rw [cell_of_row _ _ 0 _ _ _ HQ2.out.bx];rfl
   go_upto_region 3 with (go_at_call 153;refine (HNX.out _ HQ2.out).mono ?_;rintro e w3 ⟨rfl,hq⟩;have HQ3:=Lib.hid hq;obtain ⟨a5,c5,d4,OB,hrg⟩:=HRC.out _ _ hq;have HRG:=Lib.hid hrg;clear hq hrg c0)
   have HC3:=Lib.hid (HCL.out _ HQ3.out)
   have cb:w3.cell? ⟨b,0,none⟩=some (.pointer (some ⟨p,0,none⟩)):=by rw [cell_of_row _ _ 0 _ _ _ OB];rfl
   clear HQ2 HQ3 HCL HRC HNX
   go_wp2_with (first | (refine ld rowPt rfl rfl rfl OB rfl ?_) | (go_at_call 157;refine (HC3.out.2.2.2 _ HCC.out).mono ?_;rintro e w4 ⟨rfl,hz⟩;have HZ:=Lib.hid hz;clear hz))
   go_ret
   exact ⟨rfl,HZ.out⟩
open Go.RowKit
set_option linter.unusedVariables false
set_option maxRecDepth 100000
theorem cut_first (s:ByteArray) (c:UInt8) (h:(cutA s c).2.2=true):(cutA s c).1.size+1≤s.size:=by
 have hi:=idx_lt s.data.toList c
 have h2:s.data.toList.length=s.size:=Array.length_toList
 unfold cutA at h ⊢
 split at h
 · next h0 =>
   rw [if_pos h0]
   simp only [ByteArray.size_extract]
   omega
 · simp at h
theorem txS_stop (s:ByteArray) (n k a:Nat) (o:Ob) (h:¬ (k<2∨a<s.size)):txS s n k a o=((0,true),o):=by
 cases n with
 | zero=>rfl
 | succ n=>rw [txS,if_neg h]
theorem txS_no (s:ByteArray) (n k a:Nat) (o:Ob) (h:k<2∨a<s.size) (hw:(cutA (s.extract a s.size) 10).2.2=false):txS s (n+1) k a o=(((a:Int),false),o):=by
 rw [txS,if_pos h,if_neg (by rw [hw];simp)]
theorem txS_bad (s:ByteArray) (n k a:Nat) (o:Ob) (h:k<2∨a<s.size) (hw:(cutA (s.extract a s.size) 10).2.2=true) (hl:(lnS k (cutA (s.extract a s.size) 10).1 o).1=false):txS s (n+1) k a o=(((a:Int),false),(lnS k (cutA (s.extract a s.size) 10).1 o).2):=by
 rw [txS,if_pos h,if_pos hw,if_neg (by rw [hl];simp)]
theorem txS_step (s:ByteArray) (n k a:Nat) (o:Ob) (h:k<2∨a<s.size) (hw:(cutA (s.extract a s.size) 10).2.2=true) (hl:(lnS k (cutA (s.extract a s.size) 10).1 o).1=true):txS s (n+1) k a o=txS s n (k+1) (a+(cutA (s.extract a s.size) 10).1.size+1) (lnS k (cutA (s.extract a s.size) 10).1 o).2:=by
 rw [txS,if_pos h,if_pos hw,if_pos hl]
theorem t_object (s:ByteArray) (hs:s.size≤16777216) (o:Ob) (hf:FitT o) {w W:World} {B g:Nat} (h:Rg w B g o W) (hB2:B≤g) (HT:∀ X,Below B w X→TgT X) :
 Calls Tryz.prog 81 #[.pointer (some ⟨g,0,none⟩),.string s] W fun e w'=>e=.returned (.tuple #[.int .i64 (txS s (s.size+2) 0 0 o).1.1,.bool (txS s (s.size+2) 0 0 o).1.2])∧Rg w B g (txS s (s.size+2) 0 0 o).2 w'∧FitT (txS s (s.size+2) 0 0 o).2:=by
 obtain ⟨F,hF⟩:∃ F,F=txS s (s.size+2) 0 0 o:=⟨_,rfl⟩
 rw [← hF]
 have HLN:Hid (∀ (X:World) (k:Nat) (t:ByteArray) (o':Ob),Rg w B g o' X→k≤9223372036854775807→t.size≤16777216→FitT o'→Calls Tryz.prog 125 #[.pointer (some ⟨g,0,none⟩),.int .i64 (k:Int),.string t] X fun e w'=>e=.returned (.bool (lnS k t o').1)∧Rg w B g (lnS k t o').2 w'∧FitT (lnS k t o').2):=fun X k t o' h1 h2 h3 h4=>(t_line k t o' h1 h2 (by omega) h4 hB2 HT).mono fun _ _ ⟨e1,e2⟩=>⟨e1,e2,ln_fit k t o' h4 (by omega)⟩
 have HCT:Hid (∀ X (t:ByteArray),t.size≤16777216→Calls Tryz.prog 124 #[.string t,.string ⟨#[10]⟩] X fun e w'=>e=.returned (.tuple #[.string (cutA t 10).1,.string (cutA t 10).2.1,.bool (cutA t 10).2.2])∧Below X.heap.size X w'):=fun X t ht=>cut_any t 10 (by omega) X
 have HBG:=Lib.hid hB2
 have HX0:Hid (txS s (s.size+2) 0 0 o=F∧Rg w B g o W∧FitT o):=⟨hF.symm,h,hf⟩
 have HSS:Hid (s.size≤16777216):=hs
 clear hf h hB2 HT hF
 go_enter Tryz.func81,Tryz.ntmps81
 go_upto_region 2 with fail
 go_wp2_with fail
 go_loopg [6,7] (s.size+2) (fun m' z6 z7 X=>∃ (a k:Nat) (o':Ob),z6=.int .i64 (a:Int)∧z7=.int .i64 (k:Int)∧a≤s.size∧k≤a∧s.size-a+2≤m'∧txS s m' k a o'=F∧Rg w B g o' X∧FitT o')
 case atStart=>exact ⟨0,0,o,rfl,rfl,by omega,by omega,by omega,HX0.out⟩
 case round =>
  clear HX0
  obtain ⟨a,k,o',rfl,rfl,ha,hk,hm,hf,hg,hfit⟩:=hrel
  by_cases hgo:k<2∨a<s.size
  rotate_left
  · have hstop := txS_stop s gk k a o' hgo
    rw [hstop] at hf
    subst hf
    have HG:=Lib.hid (And.intro hg hfit)
    have h1:¬ (k:Int)<2:=by omega
    have h2:¬ (a:Int)<(s.size:Int):=by omega
    clear hg hfit hgo hstop HLN HCT hm
    go_wp2_with fail
    refine bodyPost_ret (results_tmp2 rfl _ _ _) rfl ?_
    exact ⟨rfl,HG.out⟩
  obtain ⟨n,rfl⟩:∃ n,gk=n+1:=⟨gk-1,by omega⟩
  have hxs:(s.extract a s.size).size≤16777216:=by simp only [ByteArray.size_extract];omega
  have hxe:(s.extract a s.size).size=s.size-a:=by simp only [ByteArray.size_extract];omega
  have HC2:Hid (∀ X,Calls Tryz.prog 124 #[.string (s.extract a s.size),.string ⟨#[10]⟩] X fun e w'=>e=.returned (.tuple #[.string (cutA (s.extract a s.size) 10).1,.string (cutA (s.extract a s.size) 10).2.1,.bool (cutA (s.extract a s.size) 10).2.2])∧Below X.heap.size X w'):=fun X=>HCT.out X _ hxs
  have hcs:=(cut_size (s.extract a s.size) 10).1
  have hcf:=cut_first (s.extract a s.size) 10
  have t1:=txS_no s n k a o' hgo
  have t2:=txS_bad s n k a o' hgo
  have t3:=txS_step s n k a o' hgo
  rw [hf] at t1 t2 t3
  generalize cutA (s.extract a s.size) 10=c at HC2 hcs hcf t1 t2 t3
  obtain ⟨x,x2,wh⟩:=c
  simp only at HC2 hcs hcf t1 t2 t3
  have HLN2:Hid (∀ X,Rg w B g o' X→Calls Tryz.prog 125 #[.pointer (some ⟨g,0,none⟩),.int .i64 (k:Int),.string x] X fun e w'=>e=.returned (.bool (lnS k x o').1)∧Rg w B g (lnS k x o').2 w'∧FitT (lnS k x o').2):=fun X hX=>HLN.out X k x o' hX (by omega) (by omega) hfit
  generalize lnS k x o'=l at HLN2 t2 t3
  obtain ⟨ok,o2⟩:=l
  simp only at HLN2 t2 t3
  have HG:=Lib.hid (And.intro hg hfit)
  have HT1:=Lib.hid t1
  have HT2:=Lib.hid t2
  have HT3:=Lib.hid t3
  have HCF:=Lib.hid hcf
  have HM:=Lib.hid hm
  have HXE:=Lib.hid hxe
  have ha':(a:Int)≤(s.size:Int):=by omega
  have hk':(k:Int)≤16777216:=by omega
  have hx':x.size≤16777216:=by omega
  clear t1 t2 t3 hcf hm hf hg hfit hxs hxe HLN HCT hcs
  have hcond:((k:Int)<2)∨(¬ (k:Int)<2∧(a:Int)<(s.size:Int)):=by omega
  clear hgo
  rcases hcond with hc | ⟨hc,hc2⟩
  · cases wh with
    | false =>
      obtain rfl:=HT1.out rfl
      clear HT1 HT2 HT3
      go_wp2_with (go_at_call 124;refine (HC2.out _).mono ?_;rintro e w2 ⟨rfl,hb⟩;have HG2:=Lib.hid (HG.out.1.below hb HBG.out);clear hb)
      refine bodyPost_ret (results_tmp2 rfl _ _ _) rfl ?_
      exact ⟨rfl,HG2.out,HG.out.2⟩
    | true =>
      cases ok with
      | false =>
        obtain rfl:=HT2.out rfl rfl
        clear HT1 HT2 HT3
        go_wp2_with (first | (go_at_call 124;refine (HC2.out _).mono ?_;rintro e w2 ⟨rfl,hb⟩;have HG2:=Lib.hid (HG.out.1.below hb HBG.out);clear hb) | (go_at_call 125;refine (HLN2.out _ HG2.out).mono ?_;rintro e w3 ⟨rfl,hg3⟩;have HG3:=Lib.hid hg3;clear hg3))
        refine bodyPost_ret (results_tmp2 rfl _ _ _) rfl ?_
        exact ⟨rfl,HG3.out⟩
      | true =>
        have HF:=Lib.hid (HT3.out rfl rfl)
        have hx2:x.size+1≤s.size-a:=by have:=HCF.out rfl;have:=HXE.out;omega
        clear HT1 HT2 HT3
        go_wp2_with (first | (go_at_call 124;refine (HC2.out _).mono ?_;rintro e w2 ⟨rfl,hb⟩;have HG2:=Lib.hid (HG.out.1.below hb HBG.out);clear hb) | (go_at_call 125;refine (HLN2.out _ HG2.out).mono ?_;rintro e w3 ⟨rfl,hg3⟩;have HG3:=Lib.hid hg3;clear hg3))
        go_roundg n
        case measure=>omega
        case rel=>exact ⟨a+x.size+1,k+1,o2,by simp;omega,by simp,by omega,by omega,by have:=HM.out;omega,HF.out.symm,HG3.out⟩
  · cases wh with
    | false =>
      obtain rfl:=HT1.out rfl
      clear HT1 HT2 HT3
      go_wp2_with (go_at_call 124;refine (HC2.out _).mono ?_;rintro e w2 ⟨rfl,hb⟩;have HG2:=Lib.hid (HG.out.1.below hb HBG.out);clear hb)
      refine bodyPost_ret (results_tmp2 rfl _ _ _) rfl ?_
      exact ⟨rfl,HG2.out,HG.out.2⟩
    | true =>
      cases ok with
      | false =>
        obtain rfl:=HT2.out rfl rfl
        clear HT1 HT2 HT3
        go_wp2_with (first | (go_at_call 124;refine (HC2.out _).mono ?_;rintro e w2 ⟨rfl,hb⟩;have HG2:=Lib.hid (HG.out.1.below hb HBG.out);clear hb) | (go_at_call 125;refine (HLN2.out _ HG2.out).mono ?_;rintro e w3 ⟨rfl,hg3⟩;have HG3:=Lib.hid hg3;clear hg3))
        refine bodyPost_ret (results_tmp2 rfl _ _ _) rfl ?_
        exact ⟨rfl,HG3.out⟩
      | true =>
        have HF:=Lib.hid (HT3.out rfl rfl)
        have hx2:x.size+1≤s.size-a:=by have:=HCF.out rfl;have:=HXE.out;omega
        clear HT1 HT2 HT3
        go_wp2_with (first | (go_at_call 124;refine (HC2.out _).mono ?_;rintro e w2 ⟨rfl,hb⟩;have HG2:=Lib.hid (HG.out.1.below hb HBG.out);clear hb) | (go_at_call 125;refine (HLN2.out _ HG2.out).mono ?_;rintro e w3 ⟨rfl,hg3⟩;have HG3:=Lib.hid hg3;clear hg3))
        go_roundg n
        case measure=>omega
        case rel=>exact ⟨a+x.size+1,k+1,o2,by simp;omega,by simp,by omega,by omega,by have:=HM.out;omega,HF.out.symm,HG3.out⟩
end Go.Proofs.YtmpljhfinmfnbaaGreatDoor

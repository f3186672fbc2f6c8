/- The proof, part 32: texts that belong together, in one. -/
import Derived.Test.YtkheldgmpgefiaaGreatDoorRAU
import Derived.Test.YtkheldgmpgefiaaGreatDoorRAV
import Derived.Test.YtkheldgmpgefiaaGreatDoorRAW
import Derived.Test.YtkheldgmpgefiaaGreatDoorRBE
import Derived.Deep.RegionHeld3
import Derived.Test.YtkheldgmpgefiaaGreatDoorRAA
import Derived.ChangeArms
import Derived.SizedLaws
import Derived.Carry
import Derived.ChangeSame
import Derived.WideShapes
import Derived.ChangeSlices
import Derived.Test.YtkheldgmpgefiaaGreatDoorRAT
import Derived.Test.YtkheldgmpgefiaaGreatDoorRAN
set_option maxRecDepth 100000
set_option maxHeartbeats 20000000
namespace Go.Proofs.YtkheldgmpgefiaaGreatDoor
open Go.RowKit
set_option linter.unusedVariables false
theorem ctEs_ren (g:ByteArray→ByteArray):∀ l:List Ex,ctEs (exsRen g l)=ctEs l:=by
 intro l
 induction l using Exs.ind with
 | h0=>rfl
 | h1 k op wd nm ks p r ih1 ih2=>simp only [exsRen,Ex.ren,ctEs,ctE,ih1,ih2]
theorem ctSs_ren (g:ByteArray→ByteArray):∀ l:List St,ctSs (stsRen g l)=ctSs l:=by
 intro l
 induction l using Sts.ind with
 | h0=>rfl
 | h1 k n ot e b l p r ih1 ih2 ih3=>simp only [stsRen,St.ren,ctSs,ctS,ih1,ih2,ih3,ctEs_ren]
theorem ctTs_ren (g:ByteArray→ByteArray):∀ l:List Th,ctTs (l.map (Th.ren g))=ctTs l
 | []=>rfl
 | x::r=>by simp only [List.map_cons,ctTs,Th.ren,List.length_map,ctSs_ren,ctTs_ren g r]
theorem ctP_ren (g:ByteArray→ByteArray) (x:Pg):ctP (x.ren g)=ctP x:=by simp only [ctP,Pg.ren,List.length_map,ctTs_ren]
theorem nm_of_allE:∀ l:List Ex,(∀ f∈rEs l,∃ d,f d=true)→∀ s∈nmEs l,nameB s=true:=by
 intro l
 induction l using Exs.ind with
 | h0=>intro _ s hs;cases hs
 | h1 k o wd nm ks p r ih1 ih2 =>
   intro h s hs
   simp only [rEs,List.mem_cons] at h
   obtain ⟨d,hd⟩:=h _ (.inl rfl)
   simp only [rE,Bool.and_eq_true] at hd
   simp only [nmEs,nmE,List.mem_append] at hs
   rcases hs with (hs | hs) | hs
   · by_cases e : k = 2
     · rw [if_pos e] at hs
       obtain rfl:s=nm:=by simpa using hs
       have h3:=hd.2.2.1
       rw [show (k==2)=true by simpa using e] at h3
       exact h3
     · rw [if_neg e] at hs;cases hs
   · refine ih1 (fun f hf => ?_) s hs
     have h4:=hd.2.2.2
     unfold kB at h4
     split at h4
     · simp only [Bool.and_eq_true, List.isEmpty_iff] at h4
       obtain ⟨_,rfl⟩:=h4
       simp [rEs] at hf
     · split at h4
       · simp only [Bool.and_eq_true] at h4
         exact kid1_in h4.2 (rEs_len ks) f hf
       · split at h4
         · simp only [Bool.and_eq_true] at h4
           exact kid2_in h4.2 (rEs_len ks) f hf
         · cases h4
   · exact ih2 (fun f hf=>h f (.inr hf)) s hs
theorem nm_allE {l:List Ex} (h:allE l=true):∀ s∈nmEs l,nameB s=true:=by
 have hall:∀ l:List Ex,allE l=(rEs l).all (fun f=>f 0):=by
  intro l
  unfold allE
  induction l with
  | nil=>rfl
  | cons x r ih=>simp only [List.all_cons,rEs,ih]
 rw [hall,List.all_eq_true] at h
 exact nm_of_allE l fun f hf=>⟨0,h f hf⟩
theorem nmB_name {n:ByteArray} {b:Bool} (h:nmB n b=true) (hn:n≠⟨#[]⟩):nameB n=true:=by
 cases b with
 | true=>exact h
 | false=>exact absurd (bytes_same (b:=⟨#[]⟩) h) hn
theorem nm_rAll:∀ (l:List St) (d:Int),rAll l d=true→∀ s∈nmSs l,s≠⟨#[]⟩→nameB s=true:=by
 intro l
 induction l using Sts.ind with
 | h0=>intro d _ s hs;cases hs
 | h1 k n o e b l p r ih1 ih2 ih3 =>
   intro d h s hs hne
   simp only [rAll,rS,Bool.and_eq_true,Bool.or_eq_true] at h
   obtain ⟨⟨a1,a2,a3,a4,a5,a6,a7,a8,a9,a10⟩,hr⟩:=h
   simp only [nmSs,nmS,List.mem_append,List.mem_cons] at hs
   rcases hs with (rfl | rfl | hs | hs | hs) | hs
   · exact nmB_name a3 hne
   · exact nmB_name a4 hne
   · exact nm_allE a8 s hs
   · rcases a9 with a9 | a9
     · rcases a6 with a6 | a6
       · rw [a6] at a9;cases a9
       · have : b.length = 0 := by have := eq_of_beq a6; omega
         obtain rfl:b=[]:=List.eq_nil_of_length_eq_zero this
         cases hs
     · exact ih1 _ a9.2 s hs hne
   · rcases a10 with a10 | a10
     · have : l.length = 0 := by simp at a10; simp [a10]
       obtain rfl:l=[]:=List.eq_nil_of_length_eq_zero this
       cases hs
     · exact ih2 _ a10.2 s hs hne
   · exact ih3 d hr s hs hne
theorem nm_bare {l:List Dc} (h:bareB l=true):∀ s∈nmDs l,nameB s=true:=fun s hs=>by
 obtain ⟨d,hd,rfl⟩:=List.mem_map.1 hs
 have:=List.all_eq_true.1 (show l.all _=true from h) d hd
 simp only [Bool.and_eq_true] at this
 exact this.1
theorem nm_rP {x:Pg} (h:rP x=true):∀ s∈nmP x,s≠⟨#[]⟩→nameB s=true:=fun s hs hne=>by
 simp only [rP,Bool.and_eq_true] at h
 simp only [nmP,List.mem_append] at hs
 rcases hs with (hs | hs) | hs
 · obtain ⟨d, hd, rfl⟩ := List.mem_map.1 hs
   have:=List.all_eq_true.1 (show x.shared.all _=true from h.1) d hd
   simp only [Bool.and_eq_true] at this
   exact this.1
 · exact nm_bare h.2.1 s hs
 · obtain ⟨t, ht, hs⟩ := List.mem_flatMap.1 hs
   have:=List.all_eq_true.1 h.2.2 t ht
   simp only [thB,rB,Bool.and_eq_true] at this
   simp only [nmT,List.mem_cons,List.mem_append] at hs
   rcases hs with rfl | hs | hs
   · exact this.1
   · exact nm_bare this.2.1 s hs
   · exact nm_rAll _ _ this.2.2.2 s hs hne
theorem renY_back {x:Pg} {f t:ByteArray} (hr:rP x=true) (ht:nameB t=true) (hno:t ∉ nmP x) (hf0:f≠⟨#[]⟩) (hf:f∈nmP x):renY (x.ren (gR f t)) t f=.inl x:=by
 have hne:t≠f:=fun e=>hno (e ▸ hf)
 have h1:rP (x.ren (gR f t))=true:=rP_ren (fun s hs=>gR_name ht hs) (gR_empty f t) hr
 have h2:hasN (x.ren (gR f t)) f=false:=by
  cases e:hasN (x.ren (gR f t)) f with
  | false=>rfl
  | true=>exact absurd (hasN_iff.1 e) (ren_gone hf0 hne)
 rw [renY,h1,nm_rP hr f hf hf0,h2,ren_back (name_nonempty ht) hno]
 rfl
theorem ren_not {x:Pg} {f t:ByteArray} (h:¬ (f≠⟨#[]⟩∧f∈nmP x)):x.ren (gR f t)=x:=by
 by_cases e:f=⟨#[]⟩
 · refine pgRen_id fun s hs=>?_
   unfold gR
   rw [if_neg]
   rintro ⟨h1,h2⟩
   exact h2 (h1.trans e)
 · exact ren_none fun hm=>h ⟨e,hm⟩
theorem renY_inl {x y:Pg} {f t:ByteArray} (h:renY x f t=.inl y):rP x=true∧nameB t=true∧t ∉ nmP x∧y=x.ren (gR f t):=by
 unfold renY at h
 cases h1:rP x with
 | false=>rw [h1] at h;cases h
 | true =>
   rw [h1] at h
   cases h2:nameB t with
   | false=>rw [h2] at h;cases h
   | true =>
     rw [h2] at h
     cases h3:hasN x t with
     | true=>rw [h3] at h;cases h
     | false =>
       rw [h3] at h
       refine ⟨rfl,rfl,fun hm=>?_,?_⟩
       · rw [hasN_iff.2 hm] at h3;cases h3
       · exact (Sum.inl.inj h).symm
theorem renY_inr {x:Pg} {f t:ByteArray} {n:Int} (h:renY x f t=.inr n):n=40∨n=2:=by
 unfold renY at h
 cases h1:rP x with
 | false=>rw [h1] at h;exact .inl (Sum.inr.inj h).symm
 | true =>
   rw [h1] at h
   cases h2:(nameB t && !hasN x t) with
   | false=>rw [h2] at h;exact .inr (Sum.inr.inj h).symm
   | true=>rw [h2] at h;cases h
theorem bytesLess_lt:∀ (x y:List UInt8),Op.bytesLess x y=decide (x<y)
 | [],[]=>by simp [Op.bytesLess]
 | [],_::_=>by simp [Op.bytesLess]
 | _::_,[]=>by simp [Op.bytesLess]
 | a :: x, b :: y => by
   rw [Op.bytesLess,bytesLess_lt x y,Bool.eq_iff_iff]
   simp only [Bool.or_eq_true,Bool.and_eq_true,decide_eq_true_eq,beq_iff_eq,List.cons_lt_cons_iff]
structure B2 (x y:Pg) (w:World) (g:Nat) (r s:Array Value) (W:World):Prop where
 own1:Own W w.heap.size 25 r
 own2:Own W g 25 s
 t1:pA W x (.agg r)
 t2:pA W y (.agg s)
 tab:WTb W
 bel:Below w.heap.size w W
theorem B2.below {x y:Pg} {w W W':World} {g:Nat} {r s:Array Value} (h:B2 x y w g r s W) (hb:Below W.heap.size W W'):B2 x y w g r s W' :=
 ⟨h.own1.below hb,h.own2.below hb,pA_below h.t1 hb,pA_below h.t2 hb,h.tab.below hb,h.bel.trans (hb.mono h.bel.size)⟩
theorem renamed_walk (x:Pg) (okx:PrOk x) (fx:fitP x) (hct:ctP x≤1048576) (f t:ByteArray) (ht:nmOk t) {v:Value} {w:World} (hx:pA w x v) (TT:WTb w) :
 Calls Tryz.prog 4 #[v,.string f,.string t] w fun e w'=>e=.returned (.bool true)∧Below w.heap.size w w':=by
 have HBG:Hid (∀ W,WTb W→Calls Tryz.prog 12 #[] W fun e w'=>e=.returned (.bool true)∧Below W.heap.size W w'):=fun W T=>p_begins4 T
 have HRN:Hid (∀ W v,pA W x v→WTb W→Calls Tryz.prog 6 #[v,.string f,.string t] W (RnP (renY x f t) W)):=fun W v h T=>p_Rename x okx fx hct f t ht h T
 have HNX:Hid (∀ W v,pA W x v→Calls Tryz.prog 9 #[v] W (NmsP x W)):=fun W v h=>p_Names x fx okx.1 hct h
 have HX:=Lib.hid hx
 obtain ⟨a1,c1,a2,c2,a3,c3,rfl,_⟩:=hx
 obtain ⟨n1,hn1⟩:∃ n,n=x.shared.length:=⟨_,rfl⟩
 obtain ⟨n2,hn2⟩:∃ n,n=x.locks.length:=⟨_,rfl⟩
 obtain ⟨n3,hn3⟩:∃ n,n=x.threads.length:=⟨_,rfl⟩
 rw [← hn1,← hn2,← hn3] at HX ⊢
 clear hn1 hn2 hn3
 have HOK:=Lib.hid okx
 have HFX:=Lib.hid fx
 have HCT:=Lib.hid hct
 have HTT:=Lib.hid ht
 have hbel:Below w.heap.size w (w.alloc (.cells #[.slice a1 n1 c1,.slice a2 n2 c2,.slice a3 n3 c3] 25)):=(Below.refl _ w).alloc (Nat.le_refl _) _
 have O1:=Own.new w 25 #[.slice a1 n1 c1,.slice a2 n2 c2,.slice a3 n3 c3]
 have HT:=Lib.hid (TT.below hbel)
 replace HX:=Lib.hid (pA_below HX.out hbel)
 obtain ⟨W0,hW0⟩:∃ W,W=w.alloc (.cells #[.slice a1 n1 c1,.slice a2 n2 c2,.slice a3 n3 c3] 25):=⟨_,rfl⟩
 rw [← hW0] at hbel O1 HT HX
 have HB0:=Lib.hid hbel
 have HW0:=Lib.hid hW0
 have HO1:=Lib.hid O1
 clear hW0 hbel TT O1 okx fx hct ht
 go_enter Tryz.func4,Tryz.ntmps4
 go_upto_region 1 with (fail)
 rw [← HW0.out]
 clear HW0
 go_wp2_with fail
 go_at_call 12
 refine (HBG.out _ HT.out).mono ?_
 rintro e w1 ⟨rfl,hb⟩
 replace HT:=Lib.hid (HT.out.below hb)
 replace HX:=Lib.hid (pA_below HX.out hb)
 replace HO1:=Lib.hid (HO1.out.below hb)
 replace HB0:=Lib.hid (HB0.out.trans (hb.mono HB0.out.size))
 have O1:=HO1.out
 clear hb HBG
 go_wp2_with (refine ld rowPg rfl rfl rfl O1 rfl ?_)
 go_at_call 6
 refine (HRN.out _ _ HX.out HT.out).mono ?_
 rintro e w2 ⟨s1,m1,t1,s2,m2,t2,s3,m3,t3,z,rfl,hb,hq⟩
 have Z1:=Own.new w2 25 #[.slice none 0 0,.slice none 0 0,.slice none 0 0]
 have B3:=Below.of_row ((Below.refl w2.heap.size w2).alloc (Nat.le_refl _) (.cells #[.slice none 0 0,.slice none 0 0,.slice none 0 0] 25)) (g:=w2.heap.size) (Nat.le_refl _) #[.slice s1 m1 t1,.slice s2 m2 t2,.slice s3 m3 t3]
 have HO1:Hid (Own ((w2.alloc (.cells #[.slice none 0 0,.slice none 0 0,.slice none 0 0] 25)).setRow w2.heap.size #[.slice s1 m1 t1,.slice s2 m2 t2,.slice s3 m3 t3]) w.heap.size 25 #[.slice a1 n1 c1,.slice a2 n2 c2,.slice a3 n3 c3]):=(HO1.out.below hb).below B3
 have HO2:Hid (Own ((w2.alloc (.cells #[.slice none 0 0,.slice none 0 0,.slice none 0 0] 25)).setRow w2.heap.size #[.slice s1 m1 t1,.slice s2 m2 t2,.slice s3 m3 t3]) w2.heap.size 25 #[.slice s1 m1 t1,.slice s2 m2 t2,.slice s3 m3 t3]):=Z1.row _
 have HTB:Hid (WTb ((w2.alloc (.cells #[.slice none 0 0,.slice none 0 0,.slice none 0 0] 25)).setRow w2.heap.size #[.slice s1 m1 t1,.slice s2 m2 t2,.slice s3 m3 t3])):=(HT.out.below hb).below B3
 have HX3:Hid (pA ((w2.alloc (.cells #[.slice none 0 0,.slice none 0 0,.slice none 0 0] 25)).setRow w2.heap.size #[.slice s1 m1 t1,.slice s2 m2 t2,.slice s3 m3 t3]) x (.agg #[.slice a1 n1 c1,.slice a2 n2 c2,.slice a3 n3 c3])):=pA_below (pA_below HX.out hb) B3
 have HB3:Hid (Below w.heap.size w ((w2.alloc (.cells #[.slice none 0 0,.slice none 0 0,.slice none 0 0] 25)).setRow w2.heap.size #[.slice s1 m1 t1,.slice s2 m2 t2,.slice s3 m3 t3])):=(HB0.out.trans (hb.mono HB0.out.size)).trans (B3.mono (by have:=HB0.out.size;have:=hb.size;omega))
 have HQ3:Hid (match renY x f t with | .inl y=>z=0∧pA ((w2.alloc (.cells #[.slice none 0 0,.slice none 0 0,.slice none 0 0] 25)).setRow w2.heap.size #[.slice s1 m1 t1,.slice s2 m2 t2,.slice s3 m3 t3]) y (.agg #[.slice s1 m1 t1,.slice s2 m2 t2,.slice s3 m3 t3]) | .inr n=>z=n∧m3=0):=by
  cases e:renY x f t with
  | inl y=>rw [e] at hq;exact ⟨hq.1,pA_below (trP_pA hq.2.2.2.2) B3⟩
  | inr n=>rw [e] at hq;exact hq
 obtain ⟨W3,hW3⟩:∃ W,W=(w2.alloc (.cells #[.slice none 0 0,.slice none 0 0,.slice none 0 0] 25)).setRow w2.heap.size #[.slice s1 m1 t1,.slice s2 m2 t2,.slice s3 m3 t3]:=⟨_,rfl⟩
 rw [← hW3] at HO1 HO2 HTB HX3 HB3 HQ3
 have HW3:=Lib.hid hW3
 clear hW3 hb hq B3 O1 HT HX HB0 HRN
 go_upto_region 4 with (refine st rowPg rfl rfl Z1 rfl rfl (by rfl) (by rfl) (by kernel_rfl) ?_)
 rw [← HW3.out]
 clear HW3 Z1
 generalize w2.heap.size=g at HO2 HQ3 ⊢
 cases hY:renY x f t with
 | inr n =>
   have h9:=HQ3.out
   rw [hY] at h9
   obtain ⟨rfl,rfl⟩:=h9
   have hn:=renY_inr hY
   have cq:W3.cell? ⟨g,2,none⟩=some (.slice s3 0 t3):=by rw [cell_of_row _ _ 2 _ _ _ HO2.out];rfl
   clear hY HQ3 HO1 HO2 HTB HX3 HNX
   rcases hn with rfl | rfl
   all_goals
    go_wp2_with fail
    go_ret
    exact ⟨rfl,HB3.out⟩
 | inl y =>
   have h9:=HQ3.out
   rw [hY] at h9
   obtain ⟨rfl,hy⟩:=h9
   obtain ⟨hr,hnt,hno,hyy⟩:=renY_inl hY
   have HS:Hid (B2 x y w g #[.slice a1 n1 c1,.slice a2 n2 c2,.slice a3 n3 c3] #[.slice s1 m1 t1,.slice s2 m2 t2,.slice s3 m3 t3] W3):=⟨HO1.out,HO2.out,HX3.out,hy,HTB.out,HB3.out⟩
   have HR:=Lib.hid hr
   have HNT:=Lib.hid hnt
   have HNO:=Lib.hid hno
   have HYY:=Lib.hid hyy
   clear hY HQ3 HO1 HO2 HTB HX3 HB3 hy hr hnt hno hyy
   have O1:=HS.out.own1
   go_wp2_with (refine ld rowPg rfl rfl rfl O1 rfl ?_)
   go_at_call 9
   refine (HNX.out _ _ HS.out.t1).mono ?_
   rintro e w4 ⟨la,l,lc,rfl,hNL,hl2,hsh,hst,hb⟩
   replace HS:=Lib.hid (HS.out.below hb)
   have HST:=Lib.hid hst
   have HNL:=Lib.hid hNL
   obtain ⟨n,hn⟩:∃ n,n=l.length:=⟨_,rfl⟩
   rw [← hn] at hl2 ⊢
   have HN:=Lib.hid hn
   clear hn hNL hst hb hsh O1 HNX
   go_wp2_with fail
   go_loopg [9,11] (n+1) (fun m' b u X=>∃ i:Nat,u=.int .i64 (i:Int)∧b=.bool (decide (f.data.toList∈l.take i))∧i≤n∧m'=n-i+1∧Below w4.heap.size w4 X)
   case atStart=>exact ⟨0,rfl,by simp,Nat.zero_le _,by omega,Below.refl _ _⟩
   case round =>
    obtain ⟨i,rfl,rfl,hi,hm,hbx⟩:=hrel
    have HM:=Lib.hid hm
    have HBX:=Lib.hid hbx
    clear hm
    by_cases hin:i<n
    · have il : i < l.length := by have := HN.out; omega
      have g1:l[i]? = some l[i]:=List.getElem?_eq_getElem il
      have HTK:Hid (l.take (i+1)=l.take i++[l[i]]):=List.take_succ_eq_append_getElem il
      obtain ⟨g2,rfl,k1,k2,k3⟩:=HST.out i _ g1
      replace k2:wr.cell? ⟨g2,i,none⟩=some (.string ⟨l[i].toArray⟩):=by rw [hbx.cell (p:=⟨g2,i,none⟩) (cell_lt k2)];exact k2
      have hin':(i:Int)<(n:Int):=by omega
      have HP:Hid (∀ k:Nat,i=k+1→wr.cell? ⟨g2,k,none⟩=some (.string ⟨(l.getD k []).toArray⟩)∧(l.getD k [])<l[i]):=fun k hk=>by
       have hkl:k<l.length:=by omega
       have g3:l[k]? = some l[k]:=List.getElem?_eq_getElem hkl
       have e3:l.getD k []=l[k]:=by rw [List.getD_eq_getElem?_getD,g3];rfl
       obtain ⟨g4,e4,_,q2,_⟩:=HST.out k _ g3
       have e5:g2=g4:=by injection e4 with e4;injection e4
       subst e5
       rw [e3]
       refine ⟨by rw [hbx.cell (p:=⟨g2,k,none⟩) (cell_lt q2)];exact q2,?_⟩
       exact List.pairwise_iff_getElem.1 HNL.out.1 k i hkl il (by omega)
      generalize l[i]=s at k2 g1 HTK HP
      obtain ⟨u,hu⟩:∃ u,u=(⟨s.toArray⟩:ByteArray):=⟨_,rfl⟩
      rw [← hu] at k2
      have HU:=Lib.hid hu
      have HDE:Hid (∀ c:Bool,decide (f.data.toList∈l.take i)=c→decide (f.data.toList∈l.take (i+1))=(c || decide (u=f))):=fun c hc=>by
       rw [HTK.out,HU.out]
       subst hc
       rw [Bool.eq_iff_iff]
       simp only [decide_eq_true_eq,List.mem_append,List.mem_singleton,Bool.or_eq_true]
       refine or_congr Iff.rfl ⟨fun e=>?_,fun e=>?_⟩
       · exact ((bytes_mk f s).2 e).symm
       · exact (bytes_mk f s).1 e.symm
      clear hu g1 il k1 k3 hbx hi HTK
      have HGO:Hid (∀ X,Below wr.heap.size wr X→Below w4.heap.size w4 X):=fun X h=>HBX.out.trans (h.mono HBX.out.size)
      cases hc:decide (f.data.toList∈l.take i) with
      | true =>
        have HD:Hid (decide (f.data.toList∈l.take (i+1))=true):=by have:=HDE.out true hc;rw [Bool.true_or] at this;exact this
        rcases Nat.eq_zero_or_pos i with h0 | h0
        · subst h0;simp at hc
        · obtain ⟨k, rfl⟩ : ∃ k, i = k + 1 := ⟨i - 1, by omega⟩
          obtain ⟨cp,hlt⟩:=HP.out k rfl
          generalize l.getD k []=p at cp hlt
          have hbl:Op.bytesLess p u.toList=true:=by rw [HU.out,Lib.toList_data,bytesLess_lt];exact decide_eq_true hlt
          clear h0 HP hlt HU hc HDE
          go_wp2_with fail
          go_quiet (fail)
          go_wp2_with fail
          go_roundg (n-(k+1+1)+1)
          case measure=>have:=HM.out;omega
          case rel=>exact ⟨k+1+1,rfl,by rw [HD.out],by omega,by omega,HGO.out _ (by first | exact below_drewN (Below.refl _ _) _ | exact Below.refl _ _)⟩
      | false =>
        by_cases hq:u=f
        · have HD : Hid (decide (f.data.toList ∈ l.take (i + 1)) = true) := by have := HDE.out false hc; rw [decide_eq_true hq] at this; exact this
          have hq1:=bytes_eqT hq
          rcases Nat.eq_zero_or_pos i with h0 | h0
          · subst h0
            clear hc HDE hq HP HU
            go_wp2_with fail
            go_quiet (fail)
            go_wp2_with fail
            go_roundg (n-(0+1)+1)
            case measure=>have:=HM.out;omega
            case rel=>exact ⟨0+1,rfl,by rw [HD.out],by omega,by omega,HGO.out _ (by first | exact below_drewN (Below.refl _ _) _ | exact Below.refl _ _)⟩
          · obtain ⟨k, rfl⟩ : ∃ k, i = k + 1 := ⟨i - 1, by omega⟩
            obtain ⟨cp,hlt⟩:=HP.out k rfl
            generalize l.getD k []=p at cp hlt
            have hbl:Op.bytesLess p u.toList=true:=by rw [HU.out,Lib.toList_data,bytesLess_lt];exact decide_eq_true hlt
            clear h0 HP hlt HU hc HDE hq
            go_wp2_with fail
            go_quiet (fail)
            go_wp2_with fail
            go_roundg (n-(k+1+1)+1)
            case measure=>have:=HM.out;omega
            case rel=>exact ⟨k+1+1,rfl,by rw [HD.out],by omega,by omega,HGO.out _ (by first | exact below_drewN (Below.refl _ _) _ | exact Below.refl _ _)⟩
        · have HD : Hid (decide (f.data.toList ∈ l.take (i + 1)) = false) := by have := HDE.out false hc; rw [decide_eq_false hq] at this; exact this
          have hq1:=bytes_eqF hq
          rcases Nat.eq_zero_or_pos i with h0 | h0
          · subst h0
            clear hc HDE hq HP HU
            go_wp2_with fail
            go_quiet (fail)
            go_wp2_with fail
            go_roundg (n-(0+1)+1)
            case measure=>have:=HM.out;omega
            case rel=>exact ⟨0+1,rfl,by rw [HD.out],by omega,by omega,HGO.out _ (by first | exact below_drewN (Below.refl _ _) _ | exact Below.refl _ _)⟩
          · obtain ⟨k, rfl⟩ : ∃ k, i = k + 1 := ⟨i - 1, by omega⟩
            obtain ⟨cp,hlt⟩:=HP.out k rfl
            generalize l.getD k []=p at cp hlt
            have hbl:Op.bytesLess p u.toList=true:=by rw [HU.out,Lib.toList_data,bytesLess_lt];exact decide_eq_true hlt
            clear h0 HP hlt HU hc HDE hq
            go_wp2_with fail
            go_quiet (fail)
            go_wp2_with fail
            go_roundg (n-(k+1+1)+1)
            case measure=>have:=HM.out;omega
            case rel=>exact ⟨k+1+1,rfl,by rw [HD.out],by omega,by omega,HGO.out _ (by first | exact below_drewN (Below.refl _ _) _ | exact Below.refl _ _)⟩
    · have : i = n := by omega
      subst this
      have hTA:l.take i=l:=List.take_of_length_le (by have:=HN.out;omega)
      rw [hTA]
      replace HS:=Lib.hid (HS.out.below hbx)
      have hy:y=x.ren (gR f t):=HYY.out
      have fy:fitP y:=by
       rw [hy]
       refine fitP_ren (fun s hs=>?_) HFX.out
       unfold gR;split
       · exact HTT.out
       · exact hs
      have oy:PrOk y:=by rw [hy];exact prOk_ren HOK.out
      have cy:ctP y≤1048576:=by rw [hy,ctP_ren];exact HCT.out
      have HNY:Hid (∀ W v,pA W y v→Calls Tryz.prog 9 #[v] W (NmsP y W)):=fun W v h=>p_Names y fy oy.1 cy h
      have HLE:Hid (∀ m,NL (nmP y) m→m.length=i):=fun m hm=>by
       rw [hy,nmP_ren] at hm
       rw [nl_len HNL.out hm HNO.out (name_nonempty HNT.out),← HN.out]
      have HRB:Hid (f≠⟨#[]⟩∧f∈nmP x→∀ W v,pA W y v→WTb W→Calls Tryz.prog 6 #[v,.string t,.string f] W (RnP (.inl x) W)):=fun hf W v h T=>by
       have h9:=p_Rename y oy fy cy t f (fitP_nm HFX.out f hf.2) h T
       rw [hy,renY_back HR.out HNT.out HNO.out hf.1 hf.2] at h9
       exact h9
      have HNE:Hid (¬ (f≠⟨#[]⟩∧f∈nmP x)→y=x):=fun h=>by rw [hy];exact ren_not h
      have HDF:Hid (f≠⟨#[]⟩∧f∈nmP x→samePg x y=false):=fun h=>by
       rw [hy];exact ren_differs h.1 h.2 (fun e=>HNO.out (e ▸ h.2))
      have HTH:Hid (decide (f.data.toList∈l)=true↔f≠⟨#[]⟩∧f∈nmP x):=by
       rw [Hid,decide_eq_true_eq]
       constructor
       · intro h
         have h0:f≠⟨#[]⟩:=fun e=>nl_empty HNL.out (by rw [e] at h;exact h)
         exact ⟨h0,(nl_mem HNL.out h0).1 h⟩
       · rintro ⟨h0, h⟩
         exact (nl_mem HNL.out h0).2 h
      have O2:=HS.out.own2
      clear hbx HBX hTA hy fy oy cy hi hin HST HYY hl2
      go_wp2_with (refine ld rowPg rfl rfl rfl O2 rfl ?_)
      go_at_call 9
      refine (HNY.out _ _ HS.out.t2).mono ?_
      rintro e w6 ⟨ma,m,mc,he,hNM,_,_,_,hb⟩
      rw [HLE.out m hNM] at he
      subst he
      replace HS:=Lib.hid (HS.out.below hb)
      clear hb hNM HNY HLE O2
      cases hc:decide (f.data.toList∈l) with
      | false =>
        have hnot:¬ (f≠⟨#[]⟩∧f∈nmP x):=fun h=>by rw [HTH.out.2 h] at hc;cases hc
        have hyx:=HNE.out hnot
        have HXA:Hid (∀ W v u,pA W x v→pA W y u→Calls Tryz.prog 11 #[v,u] W fun e w'=>e=.returned (.bool true)∧Below W.heap.size W w'):=fun W v u h1 h2=>by
         rw [hyx] at h2;exact r_Exactly x HOK.out.1 h1 h2
        have O1:=HS.out.own1
        have O2:=HS.out.own2
        clear hc hnot hyx HNE HDF HTH HRB
        go_wp2_with (first | (refine ld rowPg rfl rfl rfl O1 rfl ?_) | (refine ld rowPg rfl rfl rfl O2 rfl ?_))
        go_at_call 11
        refine (HXA.out _ _ _ HS.out.t1 HS.out.t2).mono ?_
        rintro e w7 ⟨rfl,hb⟩
        have HF:=Lib.hid (HS.out.bel.trans (hb.mono HS.out.bel.size))
        clear hb O1 O2
        go_wp2_with fail
        go_ret
        exact ⟨rfl,HF.out⟩
      | true =>
        have hyes:=HTH.out.1 hc
        have HRB:=Lib.hid (HRB.out hyes)
        have HSM:Hid (∀ W v u,pA W x v→pA W y u→Calls Tryz.prog 13 #[v,u] W fun e w'=>e=.returned (.bool false)∧Below W.heap.size W w'):=fun W v u h1 h2=>by
         have:=r_SameG x HOK.out.1 y h1 h2
         rw [HDF.out hyes] at this
         exact this
        have HXA:Hid (∀ W v u,pA W x v→pA W x u→Calls Tryz.prog 11 #[v,u] W fun e w'=>e=.returned (.bool true)∧Below W.heap.size W w'):=fun W v u h1 h2=>r_Exactly x HOK.out.1 h1 h2
        have O2:=HS.out.own2
        clear hc hyes HNE HDF HTH
        go_wp2_with (refine ld rowPg rfl rfl rfl O2 rfl ?_)
        go_at_call 6
        refine (HRB.out _ _ HS.out.t2 HS.out.tab).mono ?_
        rintro e w7 ⟨u1,k1,v1,u2,k2,v2,u3,k3,v3,z,rfl,hb,hz,hl1,hl2,hl3,hT⟩
        subst hz
        clear hl1 hl2 hl3
        have Z1:=Own.new w7 25 #[.slice none 0 0,.slice none 0 0,.slice none 0 0]
        have B8:=Below.of_row ((Below.refl w7.heap.size w7).alloc (Nat.le_refl _) (.cells #[.slice none 0 0,.slice none 0 0,.slice none 0 0] 25)) (g:=w7.heap.size) (Nat.le_refl _) #[.slice u1 k1 v1,.slice u2 k2 v2,.slice u3 k3 v3]
        have HS8:=Lib.hid ((HS.out.below hb).below B8)
        have HO3:Hid (Own ((w7.alloc (.cells #[.slice none 0 0,.slice none 0 0,.slice none 0 0] 25)).setRow w7.heap.size #[.slice u1 k1 v1,.slice u2 k2 v2,.slice u3 k3 v3]) w7.heap.size 25 #[.slice u1 k1 v1,.slice u2 k2 v2,.slice u3 k3 v3]):=Z1.row _
        have HT3:Hid (pA ((w7.alloc (.cells #[.slice none 0 0,.slice none 0 0,.slice none 0 0] 25)).setRow w7.heap.size #[.slice u1 k1 v1,.slice u2 k2 v2,.slice u3 k3 v3]) x (.agg #[.slice u1 k1 v1,.slice u2 k2 v2,.slice u3 k3 v3])):=pA_below (trP_pA hT) B8
        obtain ⟨W8,hW8⟩:∃ W,W=(w7.alloc (.cells #[.slice none 0 0,.slice none 0 0,.slice none 0 0] 25)).setRow w7.heap.size #[.slice u1 k1 v1,.slice u2 k2 v2,.slice u3 k3 v3]:=⟨_,rfl⟩
        rw [← hW8] at HS8 HO3 HT3
        have HW8:=Lib.hid hW8
        clear hW8 hb hT B8 O2 HS HRB
        go_upto_region 20 with (refine st rowPg rfl rfl Z1 rfl rfl (by rfl) (by rfl) (by kernel_rfl) ?_)
        rw [← HW8.out]
        clear HW8 Z1
        generalize w7.heap.size=g3 at HO3 ⊢
        have HCE:Hid (∀ X,Below W8.heap.size W8 X→(X.cell? ⟨w.heap.size,0,none⟩=some (.slice a1 n1 c1)∧X.cell? ⟨w.heap.size,1,none⟩=some (.slice a2 n2 c2)∧X.cell? ⟨w.heap.size,2,none⟩=some (.slice a3 n3 c3))∧(X.cell? ⟨g,0,none⟩=some (.slice s1 m1 t1)∧X.cell? ⟨g,1,none⟩=some (.slice s2 m2 t2)∧X.cell? ⟨g,2,none⟩=some (.slice s3 m3 t3))∧X.cell? ⟨g3,0,none⟩=some (.slice u1 k1 v1)∧X.cell? ⟨g3,1,none⟩=some (.slice u2 k2 v2)∧X.cell? ⟨g3,2,none⟩=some (.slice u3 k3 v3)):=fun X hX=>by
         have o1:=HS8.out.own1.below hX
         have o2:=HS8.out.own2.below hX
         have o3:=HO3.out.below hX
         exact ⟨⟨by rw [cell_of_row _ _ 0 _ _ _ o1];rfl,by rw [cell_of_row _ _ 1 _ _ _ o1];rfl,by rw [cell_of_row _ _ 2 _ _ _ o1];rfl⟩,⟨by rw [cell_of_row _ _ 0 _ _ _ o2];rfl,by rw [cell_of_row _ _ 1 _ _ _ o2];rfl,by rw [cell_of_row _ _ 2 _ _ _ o2];rfl⟩,by rw [cell_of_row _ _ 0 _ _ _ o3];rfl,by rw [cell_of_row _ _ 1 _ _ _ o3];rfl,by rw [cell_of_row _ _ 2 _ _ _ o3];rfl⟩
        obtain ⟨⟨e1,e2,e3⟩,_,e4,e5,e6⟩:=HCE.out W8 (Below.refl _ _)
        go_wp2_with fail
        go_at_call 11
        refine (HXA.out _ _ _ HT3.out HS8.out.t1).mono ?_
        rintro e w9 ⟨rfl,hb⟩
        clear e1 e2 e3 e4 e5 e6
        obtain ⟨⟨e1,e2,e3⟩,⟨e4,e5,e6⟩,_⟩:=HCE.out w9 hb
        have HS9:=Lib.hid (HS8.out.below hb)
        clear hb
        go_wp2_with fail
        go_at_call 13
        refine (HSM.out _ _ _ HS9.out.t1 HS9.out.t2).mono ?_
        rintro e w10 ⟨rfl,hb⟩
        have HF:=Lib.hid (HS9.out.bel.trans (hb.mono HS9.out.bel.size))
        clear hb e1 e2 e3 e4 e5 e6
        go_wp2_with fail
        go_ret
        exact ⟨rfl,HF.out⟩
open Go.ChangeShapes Go.WideShapes Go.ChangeAt Go.WideMaps Go.WideElems Go.RowKit Go.ChangeShapes
set_option linter.unusedVariables false
theorem laidOut:laidOutB Tryz.prog=true:=by kernel_rfl
theorem law_post_at {H:Type} {enc:TypeId × Value→H} {P:Program} {f:Func} {s:ChangeSpec} {W W':World} {args:Array Value} {tb:TypeId} {ds:List (DataW H)} {ps:List MemPlace}
 (hW:DataW.Whole enc P f.params.toList s.vars false W args.toList ds [] ps) (hres:f.resultTypes=#[tb]) (hb:P.underlying tb=some .bool)
 (hvars:s.vars=[]) (hfn:(s.fn H (ds++[])).results=[.lit (.bool true)]) (hfa:(s.fn H (ds++[])).args=ds) (hfv:(s.fn H (ds++[])).vars=[])
 (hargs:∀ sp:Nat→Bool,(∀ p∈ps,sp p.block=true)→DataW.TrodAll enc P W' 0 sp true f.params.toList args.toList ds ps)
 (hk:Below W.heap.size W W'):s.post enc P f false true false false W args (.bool true) W':=by
 have hr:∀ (b:Nat) (sp:Nat→Bool) (hd:Bool),DataW.TrodAll enc P W' b sp hd f.resultTypes.toList ((Value.bool true).resultList f.resultTypes.size) (s.fn H (ds++[])).results []:=fun b sp hd=>by
  rw [hfn,hres]
  exact trodAll_mk1 (shut_bool hb _)
 have ha:∀ sp:Nat→Bool,(∀ p∈ps,sp p.block=true)→DataW.TrodAll enc P W' 0 sp true f.params.toList args.toList (s.fn H (ds++[])).args ps:=fun sp hsp=>by
  rw [hfa];exact hargs sp hsp
 have hv:∀ sp:Nat→Bool,DataW.TrodVars enc P W' sp s.vars (s.fn H (ds++[])).vars []:=fun sp=>by
  rw [hvars,hfv];rfl
 have hold:∀ p∈ps,(fun b=>decide (b<W.heap.size)) p.block=true:=fun p hp=>by simpa using hW.lt p hp
 have hW2:=hW
 obtain ⟨_,_,_,_,_,hz,hn⟩:=hW2
 refine ⟨ds,[],ps,[],ps,[],hW,hr _ _ _,ha _ hold,hv _,World.keptBut_mono (fun p hp=>⟨hp,Or.inr (Or.inl hp)⟩) (hk.frame (· ∈ ps)),fun _=>?_⟩
 refine ⟨ok_one hres rfl (okWide_bool_mk hb _),_,_,([]++ps)++[],⟨[]++ps,[],trodAll_append (ha _ (fun _ _=>rfl)) (hr _ _ _),hv _,rfl,?_,?_⟩,?_⟩
 · intro b off hp
   have hp':MemPlace.cell b off∈ps:=by simpa using hp
   rw [hk.frozen (p:=⟨b,off,none⟩) (hW.lt _ hp')]
   exact hz b off hp'
 · intro hx;cases hx
 · intro p hp _
   simpa using hp
open Go.RowKit
set_option linter.unusedVariables false
theorem lenDs (l:List Dc):l.length≤bkDs l:=by rw [← sumD];exact sum_len (fun x=>by unfold bkD;omega) l
theorem memT {l:List Th} {t:Th} (h:t∈l):bkT t≤bkTs l:=by
 induction l with
 | nil=>cases h
 | cons x r ih =>
   simp only [bkTs]
   rcases List.mem_cons.1 h with rfl | h
   · omega
   · have:=ih h;omega
theorem lenP_of {x:Pg} (h:bkP x≤1048576):lenP x:=by
 unfold bkP at h
 have h1:=lenDs x.shared
 have h2:=lenDs x.locks
 refine ⟨by omega,by omega,fun t ht=>?_⟩
 have h3:=memT ht
 have h4:=lenDs t.locals
 unfold bkT at h3
 omega
open Go.ChangeShapes Go.WideShapes Go.ChangeAt Go.WideMaps Go.WideElems Go.RowKit
set_option linter.unusedVariables false
abbrev PLS:List (String × DataW Unit):=[("math/bits.deBruijn32tab",Rows.laid_math_bits_deBruijn32tab),("math/bits.deBruijn64tab",Rows.laid_math_bits_deBruijn64tab),("internal/strconv.uint64pow10",Rows.laid_internal_strconv_uint64pow10),("stile/words.levels",Rows.laid_stile_words_levels),("stile/words.signs",Rows.laid_stile_words_signs),("stile/lexer.languageWords",Rows.laid_stile_lexer_languageWords),("stile/pretty.shapes",Rows.laid_stile_pretty_shapes)]
theorem wts_of_laid {W:World} (h:laidMetH Tryz.prog PLS W):WTb W:=by
 rw [MakeChecks.laidMetH_plain _ _ _ (by kernel_rfl)] at h
 obtain ⟨ps,h,_⟩:=h
 exact wtb_of_vars h (by simp) (by simp) ⟨lnm_of_vars h (by simp),tabs_of_vars h (by simp) (by simp)⟩
theorem sdoor_met (os:Os) (args:Array Value):laidMetH Tryz.prog PLS ((World.doorLaid Tryz.prog 400 os).forCall (fun _ _=>0) ⟨#[],args,[]⟩).memory :=
 laidMetH_of_parts3 (fuel:=8) (laidMet_of_run' 8 (by kernel_rfl) (by kernel_rfl)) (by kernel_rfl) (by kernel_rfl)
end Go.Proofs.YtkheldgmpgefiaaGreatDoor

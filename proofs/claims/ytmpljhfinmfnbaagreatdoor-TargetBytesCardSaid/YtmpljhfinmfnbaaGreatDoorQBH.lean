/- The proof, part 34: texts that belong together, in one. -/
import Derived.Test.YtmpljhfinmfnbaaGreatDoorQBG
set_option maxRecDepth 100000
set_option maxHeartbeats 20000000
namespace Go.Proofs.YtmpljhfinmfnbaaGreatDoor
open Go.RowKit
set_option linter.unusedVariables false
set_option maxRecDepth 100000
theorem row_setbelow {X:World} {B:Nat} {T:TypeId} {n:Nat} {v:Value} {m:Nat} {xs:List Value} (h:X.ownsRow B T n v m xs) {g:Nat} (hg:g<B) (o:Nat) (u:Value):(X.setCell ⟨g,o,none⟩ u).ownsRow B T n v m xs :=
 row_stays h fun k h1 _ _=>Below.heap_setCell X ⟨g,o,none⟩ u k (by show k≠g;omega)
theorem b_core {w:World} {B p g:Nat} {s:Bst} (h:Dr p s w) (hi:Own w g 70 #[.string ⟨#[]⟩,.slice none 0 0]) (hgp:p<g) (hB:B≤p) (HT:∀ X,Below B w X→TgT X) :
 Calls Tryz.prog 76 #[.pointer (some ⟨p,0,none⟩),.pointer (some ⟨g,0,none⟩)] w fun e w'=>e=.returned (.tuple #[])∧∃ v,D2 w B p (corR s).2 g 70 #[.string (corR s).1.name,v] w'∧w'.ownsRow w.heap.size 75 9 v (corR s).1.code.length ((corR s).1.code.flatMap insC):=by
 have hgw:=hi.lt
 have HH:=Lib.hid (And.intro hgp (And.intro hB hgw))
 have HC:Hid (Calls Tryz.prog 116 #[.pointer (some ⟨p,0,none⟩),.int .i64 32] w fun e w'=>e=.returned (.int .i64 (cntR 32 s).1)∧Dq w p (cntR 32 s).2 w'):=b_count h 32 (by decide) (by decide)
 have hcb:=cntR_bd 32 s (by decide)
 have HL:Hid (corR s=(⟨⟨(takR (cntR 32 s).1 (cntR 32 s).2).1.toArray⟩,(lstR insR 16384 (takR (cntR 32 s).1 (cntR 32 s).2).2).1⟩,(lstR insR 16384 (takR (cntR 32 s).1 (cntR 32 s).2).2).2)):=rfl
 rw [HL.out]
 clear HL
 generalize cntR 32 s=cs at HC hcb ⊢
 obtain ⟨n,s1⟩:=cs
 simp only at HC hcb ⊢
 have HTK:Hid (∀ X,Dq w p s1 X→Calls Tryz.prog 71 #[.pointer (some ⟨p,0,none⟩),.int .i64 n] X fun e w'=>e=.returned (.string ⟨(takR n s1).1.toArray⟩)∧Dq w p (takR n s1).2 w'):=fun X hX=>(b_take hX.st n hcb.1 (by omega)).mono fun _ _ ⟨h1,h2⟩=>⟨h1,hX.trans h2⟩
 generalize takR n s1=tk at HTK ⊢
 obtain ⟨tx,s2⟩:=tk
 simp only at HTK ⊢
 generalize (⟨tx.toArray⟩:ByteArray)=nm at HTK ⊢
 have HD2:Hid (∀ X,Dq w p s2 X→D2 w B p s2 g 70 #[.string ⟨#[]⟩,.slice none 0 0] X):=fun X hX=>hX.d2 hi hgp hB
 have HLI:Hid (∀ X,D2 w B p s2 g 70 #[.string nm,.slice none 0 0] X→Calls Tryz.prog 117 #[.pointer (some ⟨p,0,none⟩),.int .i64 16384,.func (.func 118) #[.pointer (some ⟨p,0,none⟩)] #[]] X fun e w'=>∃ a c,e=.returned (.slice a (lstR insR 16384 s2).1.length c)∧D2 w B p (lstR insR 16384 s2).2 g 70 #[.string nm,.slice none 0 0] w'∧w'.ownsRow w.heap.size 75 9 (.slice a (lstR insR 16384 s2).1.length c) (lstR insR 16384 s2).1.length ((lstR insR 16384 s2).1.flatMap insC)):=fun X hX=>(b_listI hX.st 16384 (by decide) (by decide) (fun Y hY=>HT Y (hX.bel.trans (hY.mono hB)))).mono fun e w' ⟨v,h1,h2,h3⟩=>by
  obtain ⟨a,c,rfl⟩:=row_slice h3
  exact ⟨a,c,h1,hX.trans (h2.d2 hX.dst hgp hB),row_mono h3 hX.keep.size⟩
 generalize lstR insR 16384 s2=li at HLI ⊢
 obtain ⟨l,s3⟩:=li
 simp only at HLI ⊢
 clear h hi hgp hB HT hcb hgw
 go_enter Tryz.func76,Tryz.ntmps76
 go_upto_region 1 with (first | (go_at_call 116;refine HC.out.mono ?_;rintro e w1 ⟨rfl,hq⟩;have HQ1:=Lib.hid hq;clear hq) | (go_at_call 71;refine (HTK.out _ HQ1.out).mono ?_;rintro e w2 ⟨rfl,hq⟩;have HQ2:=Lib.hid (HD2.out _ hq);have d0:w2.cell? ⟨g,0,none⟩=some (.string ⟨#[]⟩):=row_cellsO HQ2.out.dst 0 _ rfl;have f0:w2.frozen? ⟨g,0,none⟩=false:=own_frozen HQ2.out.dst 0;clear hq))
 have HQ3:Hid (D2 w B p s2 g 70 #[.string nm,.slice none 0 0] (w2.setCell ⟨g,0,none⟩ (.string nm))):=HQ2.out.store HH.out.1 HH.out.2.1 0 (.string nm)
 clear d0 f0 HQ2 HQ1
 obtain ⟨W3,hW3⟩:∃ W,W=w2.setCell ⟨g,0,none⟩ (.string nm):=⟨_,rfl⟩
 rw [← hW3] at HQ3 ⊢
 clear hW3
 go_wp2_with (go_at_call 117;refine (HLI.out _ HQ3.out).mono ?_;rintro e w4 ⟨a,c,rfl,hq,hr⟩;have HQ4:=Lib.hid hq;have HR4:=Lib.hid hr;have d1:w4.cell? ⟨g,1,none⟩=some (.slice none 0 0):=row_cellsO HQ4.out.dst 1 _ rfl;have f1:w4.frozen? ⟨g,1,none⟩=false:=own_frozen HQ4.out.dst 1;clear hq hr)
 exact bodyPost_end (results_none rfl _ _ _) rfl ⟨rfl,_,HQ4.out.store HH.out.1 HH.out.2.1 1 _,row_setbelow HR4.out HH.out.2.2 1 _⟩
theorem b_listC {w:World} {p:Nat} {s:Bst} (h:Dr p s w) (most:Int) (hm:0≤most) (hm2:most≤100000) (HT:∀ X,Below p w X→TgT X) :
 Calls Tryz.prog 75 #[.pointer (some ⟨p,0,none⟩),.int .i64 most,.func (.func 76) #[.pointer (some ⟨p,0,none⟩)] #[]] w fun e w'=>∃ v,e=.returned v∧Dq w p (lstR corR most s).2 w'∧∃ L:List (Cor × Value),L.map Prod.fst=(lstR corR most s).1∧w'.ownsRow w.heap.size 70 2 v L.length (flatC L)∧∀ x∈L,w'.ownsRow w.heap.size 75 9 x.2 x.1.code.length (x.1.code.flatMap insC):=by
 obtain ⟨i0,hi,hz0,hz1,hz2⟩:=info_parts info_c
 have hpw:=h.lt
 have HC:Hid (Calls Tryz.prog 116 #[.pointer (some ⟨p,0,none⟩),.int .i64 most] w fun e w'=>e=.returned (.int .i64 (cntR most s).1)∧Dq w p (cntR most s).2 w'):=b_count h most hm (by omega)
 have hcb:=cntR_bd most s hm
 have HL:Hid (lstR corR most s=repR corR (cntR most s).1.toNat (cntR most s).2):=rfl
 rw [HL.out]
 clear HL
 generalize hcs:cntR most s=cs at HC hcb ⊢
 obtain ⟨nc,s1⟩:=cs
 simp only at HC hcb ⊢
 obtain ⟨n,rfl⟩:∃ n:Nat,nc=(n:Int):=⟨nc.toNat,by omega⟩
 simp only [Int.toNat_natCast]
 have HB:=Lib.hid hcb
 have HTT:=Lib.hid HT
 have HPW:=Lib.hid hpw
 clear hcs h hcb hpw HT
 go_enter Tryz.func75,Tryz.ntmps75
 go_wp2_with (go_at_call 116;refine HC.out.mono ?_;rintro e w1 ⟨rfl,hq⟩;have HQ1:=Lib.hid hq;clear hq)
 go_loopg [7] (n+1) (fun m' z X=>∃ (xs:List (Cor × Value)) (sj:Bst),xs.length≤n∧m'=n-xs.length+1∧Dq w p sj X∧X.ownsRow w.heap.size 70 2 z xs.length (flatC xs)∧(∀ x∈xs,X.ownsRow w.heap.size 75 9 x.2 x.1.code.length (x.1.code.flatMap insC))∧repR corR n s1=(xs.map Prod.fst++(repR corR (n-xs.length) sj).1,(repR corR (n-xs.length) sj).2))
 case atStart=>exact ⟨[],s1,Nat.zero_le _,by simp,HQ1.out,World.ownsRow_nil _ _ _ _,fun x hx=>by simp at hx,by simp⟩
 case round =>
  clear HQ1
  obtain ⟨xs,sj,hl,hm',hq,hr,hrs,he⟩:=hrel
  obtain ⟨az,cz,rfl⟩:=row_slice hr
  obtain ⟨aa,ca,hP⟩:=hq.st
  have p1:wr.cell? ⟨p,1,none⟩=some (.bool sj.2):=row_cellsO hP.own 1 _ rfl
  have HM:=Lib.hid hm'
  have HQ:=Lib.hid hq
  have HR:=Lib.hid hr
  have HRS:=Lib.hid hrs
  have HE:=Lib.hid he
  clear hm' hr he hP hrs
  by_cases hjn:xs.length<n
  · cases hb : sj.2 with
    | true =>
      have HZ:Hid (repR corR n s1=(xs.map Prod.fst,sj)):=by rw [Hid,HE.out,rep_stop corR _ sj hb,List.append_nil]
      rw [hb] at p1
      clear hb hq HE
      go_wp2_with (fail)
      go_ret
      rw [HZ.out]
      exact ⟨_,rfl,HQ.out,xs,rfl,HR.out,by first | exact HRS.out | exact fun a b h=>HRS.out (a,b) h⟩
    | false =>
      rw [hb] at p1
      have al:=(Below.refl _ wr).alloc (Nat.le_refl _) (.cells #[.string ⟨#[]⟩,.slice none 0 0] 70)
      have O1:=Own.new wr 70 #[.string ⟨#[]⟩,.slice none 0 0]
      have hpc:p<wr.heap.size:=hq.st.lt
      have HRD:Hid (Calls Tryz.prog 76 #[.pointer (some ⟨p,0,none⟩),.pointer (some ⟨wr.heap.size,0,none⟩)] (wr.alloc (.cells #[.string ⟨#[]⟩,.slice none 0 0] 70)) fun e w'=>e=.returned (.tuple #[])∧∃ vc,D2 (wr.alloc (.cells #[.string ⟨#[]⟩,.slice none 0 0] 70)) p p (corR sj).2 wr.heap.size 70 #[.string (corR sj).1.name,vc] w'∧w'.ownsRow wr.heap.size 75 9 vc (corR sj).1.code.length ((corR sj).1.code.flatMap insC)):=(b_core (hq.st.below al) O1 hpc (Nat.le_refl _) (fun X hX=>HTT.out X ((hq.bel (Nat.le_of_lt HPW.out)).trans ((al.mono (Nat.le_of_lt hpc)).trans hX)))).mono fun e w2 ⟨h1,vc,h2,h3⟩=>⟨h1,vc,h2,row_mono h3 (by simp)⟩
      have hwb:w.heap.size≤wr.heap.size:=hq.keep.size
      have hst:=rep_step corR (n-xs.length-1) sj hb
      have HST:=Lib.hid hst
      clear hst
      generalize corR sj=y at HRD HST
      obtain ⟨x,s2⟩:=y
      simp only at HRD HST
      have HE2:Hid (∀ vc:Value,repR corR n s1=((xs++[(x,vc)]).map Prod.fst++(repR corR (n-(xs++[(x,vc)]).length) s2).1,(repR corR (n-(xs++[(x,vc)]).length) s2).2)):=by
       intro vc
       have e1:n-xs.length=(n-xs.length-1)+1:=by omega
       have e2:n-(xs++[(x,vc)]).length=n-xs.length-1:=by simp only [List.length_append,List.length_cons,List.length_nil];omega
       rw [HE.out,e2,e1,HST.out]
       simp
      have HOK:Hid (∀ X vc,D2 (wr.alloc (.cells #[.string ⟨#[]⟩,.slice none 0 0] 70)) p p s2 wr.heap.size 70 #[.string x.name,vc] X→Dq w p s2 X∧X.ownsRow w.heap.size 70 2 (.slice az xs.length cz) xs.length (flatC xs)∧Own X wr.heap.size 70 #[.string x.name,vc]∧w.heap.size≤X.heap.size∧∀ y∈xs,X.ownsRow w.heap.size 75 9 y.2 y.1.code.length (y.1.code.flatMap insC)):=fun X vc hX=>⟨HQ.out.trans hX.dq,row_past HR.out HPW.out rfl hX.keep,hX.dst,Nat.le_trans hwb (Nat.le_of_lt (Nat.lt_of_lt_of_le (by simp) hX.keep.size)),fun y hy=>row_past (HRS.out y hy) HPW.out rfl hX.keep⟩
      have HWB:=Lib.hid hwb
      obtain ⟨W1,hW1⟩:∃ W,W=wr.alloc (.cells #[.string ⟨#[]⟩,.slice none 0 0] 70):=⟨_,rfl⟩
      rw [← hW1] at HRD HOK
      have HW1:=Lib.hid hW1
      have hlen:xs.length≤100000:=by have:=HB.out;omega
      have HLEN:=Lib.hid hlen
      obtain ⟨nm,cd⟩:=x
      simp only at HRD HOK
      clear hb hq HE al O1 hpc hW1 hlen hwb HST
      go_upto_region 5 with (fail)
      rw [← HW1.out]
      clear HW1 p1
      go_upto_region 6 with (go_at_call 76;refine HRD.out.mono ?_;rintro e w2 ⟨rfl,vc,hd,hrc⟩;obtain ⟨h1,h2,h3,h4,h5⟩:=HOK.out _ _ hd;obtain ⟨ac,cc,rfl⟩:=row_slice hrc;have HRC:=Lib.hid (row_mono hrc HWB.out);have HQ2:=Lib.hid h1;have HR2:=Lib.hid h2;have O3:=h3;have HS2:=Lib.hid h4;have HRS2:=Lib.hid h5;clear hd hrc h1 h2 h3 h4 h5)
      have hown:=HR2.out.alloc (.cells #[.string nm,.slice ac cd.length cc] 70)
      have HOW:=Lib.hid hown
      have HNW:Hid (∀ j u,([.string nm,.slice ac cd.length cc]:List Value)[j]? = some u→(w2.alloc (.cells #[.string nm,.slice ac cd.length cc] 70)).cell? ((⟨w2.heap.size,0,none⟩:Addr).add j)=some u):=fun j u hj=>by
       rw [addr_addD,Nat.zero_add]
       exact row_cellsO (Own.new w2 70 #[.string nm,.slice ac cd.length cc]) j u (by simpa using hj)
      have hlen:=HLEN.out
      have hbs:w.heap.size≤(w2.alloc (.cells #[.string nm,.slice ac cd.length cc] 70)).heap.size:=by rw [World.size_alloc];have:=HS2.out;omega
      clear hown HRD HOK
      go_wp2_with (first | fail | (at_builtin;refine wpList_append_own _ rfl _ _ 23 rfl w.heap.size 70 i0 _ 2 40 Tryz.underlying23 hi hz0 hz1 hz2 rfl (by decide) (.slice az xs.length cz) xs.length (flatC xs) rfl ?_ ⟨w2.heap.size,0,none⟩ 1 1 [.string nm,.slice ac cd.length cc] rfl rfl ?_ (by simp [Value.oneCell']) (by simp only [maxLen];omega) (by omega) hbs ?_;(· exact HOW.out);(· exact HNW.out);intro v4 w4 hr4 hg4 _;have HR4:=Lib.hid hr4;have HG4:=Lib.hid hg4;clear hr4 hg4) | (refine ld rowC rfl rfl rfl O3 rfl ?_))
      have hq4:Dq w p s2 w4:=(HQ2.out.below ((Below.refl _ w2).alloc (Nat.le_refl _) _)).grow HPW.out HG4.out (fun k hk=>(HOW.out.lt k hk).1)
      have HQ4:=Lib.hid hq4
      have hrs4:∀ y∈xs++[(⟨nm,cd⟩,.slice ac cd.length cc)],w4.ownsRow w.heap.size 75 9 y.2 y.1.code.length (y.1.code.flatMap insC):=fun y hy=>by
       have hal:∀ {v:Value} {m:Nat} {us:List Value},w2.ownsRow w.heap.size 75 9 v m us→w4.ownsRow w.heap.size 75 9 v m us:=fun {v m us} h=>by
        have h6:=h.alloc (.cells #[.string nm,.slice ac cd.length cc] 70)
        exact row_stays h6 fun b _ hb hl=>HG4.out.block b hl (fun e=>row_apart2 HOW.out h6 rfl b hb e.symm)
       rcases List.mem_append.1 hy with hy | hy
       · exact hal (HRS2.out y hy)
       · obtain rfl := List.mem_singleton.1 hy
         exact hal HRC.out
      have HRS4:=Lib.hid hrs4
      clear hq4 hlen hbs hrs4
      go_roundg (n-(xs.length+1)+1)
      case measure=>have:=HM.out;omega
      case rel=>exact ⟨xs++[(⟨nm,cd⟩,.slice ac cd.length cc)],s2,by simp only [List.length_append,List.length_cons,List.length_nil];omega,by simp only [List.length_append,List.length_cons,List.length_nil],HQ4.out,by
       have h5:=HR4.out
       unfold flatC at h5 ⊢
       rw [List.flatMap_append]
       simpa using h5,HRS4.out,HE2.out _⟩
  · have HZ : Hid (repR corR n s1 = (xs.map Prod.fst, sj)) := by
     have e0:n-xs.length=0:=by omega
     rw [Hid,HE.out,e0]
     show (xs.map Prod.fst++[],sj)=_
     rw [List.append_nil]
    have hnn:¬ (xs.length:Int)<(n:Int):=by omega
    clear hq HE
    go_wp2_with (fail)
    go_ret
    rw [HZ.out]
    exact ⟨_,rfl,HQ.out,xs,rfl,HR.out,by first | exact HRS.out | exact fun a b h=>HRS.out (a,b) h⟩
end Go.Proofs.YtmpljhfinmfnbaaGreatDoor

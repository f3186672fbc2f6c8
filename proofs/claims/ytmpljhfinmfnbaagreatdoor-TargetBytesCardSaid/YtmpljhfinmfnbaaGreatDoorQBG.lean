/- The proof, part 33: texts that belong together, in one. -/
import Derived.Test.YtmpljhfinmfnbaaGreatDoorQBF
set_option maxRecDepth 100000
set_option maxHeartbeats 20000000
namespace Go.Proofs.YtmpljhfinmfnbaaGreatDoor
open Go.RowKit
set_option linter.unusedVariables false
set_option maxRecDepth 100000
theorem vB_eq (u k o:Int) (s:Bst):vB u 6 (s,insK k o)=(let d:=optR (hasB u 2) (numR 0) s
 let a:=optR (hasB u 4) (numR 0) d.2
 let b:=optR (hasB u 8) (numR 0) a.2
 let ad:=optR (hasB u 16) (numR 0) b.2
 let tt:=optR (hasB u 32) (numR 0) ad.2
 let wd:=optR (hasB u 64) wrdR tt.2
 (wd.2,(⟨k,o,d.1,a.1,b.1,ad.1,tt.1,wd.1,0⟩:Ins))):=by
 simp only
 have e1:vB u 1 (s,insK k o)=((optR (hasB u 2) (numR 0) s).2,(⟨k,o,(optR (hasB u 2) (numR 0) s).1,0,0,0,0,0,0⟩:Ins)):=by
  show (bif hasB u 2 then stepB 0 (s,insK k o) else (s,insK k o))=_
  cases hasB u 2 <;> rfl
 generalize optR (hasB u 2) (numR 0) s=D1 at e1 ⊢
 obtain ⟨d,s1⟩:=D1
 simp only at e1 ⊢
 have e2:vB u 2 (s,insK k o)=((optR (hasB u 4) (numR 0) s1).2,(⟨k,o,d,(optR (hasB u 4) (numR 0) s1).1,0,0,0,0,0⟩:Ins)):=by
  show (bif hasB u 4 then stepB 1 (vB u 1 (s,insK k o)) else vB u 1 (s,insK k o))=_
  rw [e1]
  cases hasB u 4 <;> rfl
 generalize optR (hasB u 4) (numR 0) s1=D2 at e2 ⊢
 obtain ⟨a,s2⟩:=D2
 simp only at e2 ⊢
 have e3:vB u 3 (s,insK k o)=((optR (hasB u 8) (numR 0) s2).2,(⟨k,o,d,a,(optR (hasB u 8) (numR 0) s2).1,0,0,0,0⟩:Ins)):=by
  show (bif hasB u 8 then stepB 2 (vB u 2 (s,insK k o)) else vB u 2 (s,insK k o))=_
  rw [e2]
  cases hasB u 8 <;> rfl
 generalize optR (hasB u 8) (numR 0) s2=D3 at e3 ⊢
 obtain ⟨b,s3⟩:=D3
 simp only at e3 ⊢
 have e4:vB u 4 (s,insK k o)=((optR (hasB u 16) (numR 0) s3).2,(⟨k,o,d,a,b,(optR (hasB u 16) (numR 0) s3).1,0,0,0⟩:Ins)):=by
  show (bif hasB u 16 then stepB 3 (vB u 3 (s,insK k o)) else vB u 3 (s,insK k o))=_
  rw [e3]
  cases hasB u 16 <;> rfl
 generalize optR (hasB u 16) (numR 0) s3=D4 at e4 ⊢
 obtain ⟨ad,s4⟩:=D4
 simp only at e4 ⊢
 have e5:vB u 5 (s,insK k o)=((optR (hasB u 32) (numR 0) s4).2,(⟨k,o,d,a,b,ad,(optR (hasB u 32) (numR 0) s4).1,0,0⟩:Ins)):=by
  show (bif hasB u 32 then stepB 4 (vB u 4 (s,insK k o)) else vB u 4 (s,insK k o))=_
  rw [e4]
  cases hasB u 32 <;> rfl
 generalize optR (hasB u 32) (numR 0) s4=D5 at e5 ⊢
 obtain ⟨tt,s5⟩:=D5
 simp only at e5 ⊢
 show (bif hasB u 64 then stepB 5 (vB u 5 (s,insK k o)) else vB u 5 (s,insK k o))=_
 rw [e5]
 cases hasB u 64 <;> rfl
theorem cntR_bd (m:Int) (s:Bst) (hm:0≤m):0≤(cntR m s).1∧(cntR m s).1≤m:=by
 have:=numR_nn s
 unfold cntR
 split
 · simp only;omega
 · omega
theorem insR_eq (s:Bst) (k o:Int) (s1 s2 s3:Bst) (i:Ins) (h1:cntR 10 s=(k,s1)) (h2:optR (hasB (uB k 0) 1) (cntR 18) s1=(o,s2)) (h3:vB (uB k o) 6 (s2,insK k o)=(s3,i)):insR s=({ i with fr:=(numR 0 s3).1 },(numR 0 s3).2)∧i.fr=0:=by
 rw [vB_eq] at h3
 simp only at h3
 unfold insR
 rw [h1]
 simp only
 rw [h2]
 simp only
 generalize optR (hasB (uB k o) 2) (numR 0) s2=d at h3 ⊢
 generalize optR (hasB (uB k o) 4) (numR 0) d.2=a at h3 ⊢
 generalize optR (hasB (uB k o) 8) (numR 0) a.2=b at h3 ⊢
 generalize optR (hasB (uB k o) 16) (numR 0) b.2=ad at h3 ⊢
 generalize optR (hasB (uB k o) 32) (numR 0) ad.2=tt at h3 ⊢
 generalize optR (hasB (uB k o) 64) wrdR tt.2=wd at h3 ⊢
 simp only [Prod.mk.injEq] at h3
 obtain ⟨rfl,rfl⟩:=h3
 exact ⟨rfl,rfl⟩
theorem rgK (k o:Int) (hk:0≤k∧k≤255) (ho:0≤o∧o≤255):rgI (insK k o):=by
 simp only [rgI,insK]
 omega
theorem b_ins {w:World} {B p g:Nat} {s:Bst} (h:Dr p s w) (hi:Own w g 75 (insC (insK 0 0)).toArray) (hgp:p<g) (hB:B≤p) (HT:∀ X,Below B w X→TgT X) :
 Calls Tryz.prog 118 #[.pointer (some ⟨p,0,none⟩),.pointer (some ⟨g,0,none⟩)] w fun e w'=>e=.returned (.tuple #[])∧D2 w B p (insR s).2 g 75 (insC (insR s).1).toArray w':=by
 have HT':=Lib.hid HT
 have HH:=Lib.hid (And.intro hgp hB)
 have HC:Hid (Calls Tryz.prog 116 #[.pointer (some ⟨p,0,none⟩),.int .i64 10] w fun e w'=>e=.returned (.int .i64 (cntR 10 s).1)∧Dq w p (cntR 10 s).2 w'):=b_count h 10 (by decide) (by decide)
 have hkb:=cntR_bd 10 s (by decide)
 have HD0:Hid (∀ X t,Dq w p t X→D2 w B p t g 75 (insC (insK 0 0)).toArray X):=fun X t hX=>hX.d2 hi hgp hB
 rcases hk:cntR 10 s with ⟨k,s1⟩
 rw [hk] at HC hkb
 simp only at HC hkb
 have HK:=Lib.hid hk
 have HUS:Hid (∀ X,Below B w X→Calls Tryz.prog 106 #[insV (insK k 0)] X fun e w'=>e=.returned (.int .u64 (uB k 0))∧Below X.heap.size X w'):=fun X hX=>usedBy_any (insK k 0) (rgK k 0 (by omega) (by omega)) X (HT X hX)
 have HHS:Hid (∀ X f,Calls Tryz.prog 108 #[.int .u64 (uB k 0),.int .u64 f] X fun e w'=>e=.returned (.bool (hasB (uB k 0) f))∧X=w'):=fun X f=>has_any _ f X
 have hkw:IntKind.u8.wrap k=k:=by rw [IntKind.wrap_u8];omega
 obtain ⟨x,hx⟩:∃ x,x=optR (hasB (uB k 0) 1) (cntR 18) s1:=⟨_,rfl⟩
 obtain ⟨o,s2⟩:=x
 have hob:0≤o∧o≤18:=by
  have h1:o=(optR (hasB (uB k 0) 1) (cntR 18) s1).1:=by rw [← hx]
  rw [h1]
  have h2:=cntR_bd 18 s1 (by decide)
  cases hasB (uB k 0) 1
  · exact ⟨Int.le_refl 0,by show (0:Int)≤18;decide⟩
  · exact h2
 have HOB:=Lib.hid hob
 obtain ⟨y,hy⟩:∃ y,y=vB (uB k o) 6 (s2,insK k o):=⟨_,rfl⟩
 obtain ⟨s3,i⟩:=y
 have hie:=insR_eq s k o s1 s2 s3 i hk hx.symm hy.symm
 rw [hie.1]
 have hfr:=hie.2
 have HFR:=Lib.hid hfr
 simp only
 have HV:Hid (∀ X,D2 w B p s2 g 75 (insC (insK k o)).toArray X→Calls Tryz.prog 113 #[.agg #[.func (.func 72) #[.pointer (some ⟨p,0,none⟩)] #[],.func (.func 72) #[.pointer (some ⟨p,0,none⟩)] #[],.func (.func 74) #[.pointer (some ⟨p,0,none⟩)] #[]],.pointer (some ⟨g,0,none⟩)] X fun e w'=>e=.returned (.tuple #[])∧D2 w B p s3 g 75 (insC i).toArray w'):=fun X hX=>(b_visit (insK k o) (rgK k o (by omega) (by omega)) hX.st hX.dst hgp hB (fun Y hY=>HT Y (hX.bel.trans hY))).mono fun _ _ ⟨e1,e2⟩=>⟨e1,by
  have e3:vB (uB (insK k o).k (insK k o).o) 6 (s2,insK k o)=(s3,i):=hy.symm
  rw [e3] at e2
  exact hX.trans e2⟩
 have HN:Hid (∀ X,D2 w B p s3 g 75 (insC i).toArray X→Calls Tryz.prog 72 #[.pointer (some ⟨p,0,none⟩),.pointer (some ⟨g,8,none⟩)] X fun e w'=>e=.returned (.tuple #[])∧D2 w B p (numR 0 s3).2 g 75 (insC { i with fr:=(numR 0 s3).1 }).toArray w'):=fun X hX=>(b_number (x:=0) hX.st hX.dst hgp (by rw [← hfr];rfl) hB).mono fun _ _ ⟨e1,e2⟩=>⟨e1,hX.trans e2⟩
 have HX:=Lib.hid hx
 clear h hi hgp hB HT hk hkb hob hx hy hie hfr
 have HST:Hid (∀ X t k o u j,D2 w B p t g 75 (insC (insK k o)).toArray X→D2 w B p t g 75 ((insC (insK k o)).toArray.setIfInBounds j u) (X.setCell ⟨g,j,none⟩ u)):=fun X t k o u j h=>h.store HH.out.1 HH.out.2 j u
 generalize (numR 0 s3).1=fr at HN ⊢
 generalize (numR 0 s3).2=s4 at HN ⊢
 cases hh:hasB (uB k 0) 1 with
 | false =>
   have hx2:=HX.out
   rw [hh] at hx2
   have hx3:((o:Int),s2)=((0:Int),s1):=hx2
   simp only [Prod.mk.injEq] at hx3
   obtain ⟨rfl,rfl⟩:=hx3
   clear hx2
   go_enter Tryz.func118,Tryz.ntmps118
   go_upto_region 1 with (go_at_call 116;refine HC.out.mono ?_;rintro e w1 ⟨rfl,hq⟩;have HQ1:=Lib.hid (HD0.out _ _ hq);have d0:w1.cell? ⟨g,0,none⟩=some (.int .u8 0):=row_cellsO HQ1.out.dst 0 _ rfl;have f0:w1.frozen? ⟨g,0,none⟩=false:=own_frozen HQ1.out.dst 0;clear hq)
   have HQ2:Hid (D2 w B p s2 g 75 (insC (insK k 0)).toArray (w1.setCell ⟨g,0,none⟩ (.int .u8 k))):=HST.out w1 _ 0 0 (.int .u8 k) 0 HQ1.out
   clear HQ1 d0 f0
   obtain ⟨W2,hW2⟩:∃ W,W=w1.setCell ⟨g,0,none⟩ (.int .u8 k):=⟨_,rfl⟩
   rw [← hW2] at HQ2 ⊢
   clear hW2
   have OI:=HQ2.out.dst
   go_wp2_with (first | (go_at_call 106;refine (HUS.out _ HQ2.out.bel).mono ?_;rintro e w3 ⟨rfl,hb⟩;have HQ3:=Lib.hid (HQ2.out.below hb HH.out.2);clear hb OI) | (go_at_call 108;refine (HHS.out _ _).mono ?_;rintro e w4 ⟨rfl,rfl⟩) | (go_at_call 113;refine (HV.out _ HQ3.out).mono ?_;rintro e w5 ⟨rfl,hq⟩;have HQ5:=Lib.hid hq;clear hq) | (go_at_call 72;refine (HN.out _ HQ5.out).mono ?_;rintro e w6 ⟨rfl,hq⟩;have HQ6:=Lib.hid hq;clear hq) | (refine ld rowI rfl rfl rfl OI rfl ?_))
   exact bodyPost_end (results_none rfl _ _ _) rfl ⟨rfl,HQ6.out⟩
 | true =>
   have HC2:Hid (∀ X,D2 w B p s1 g 75 (insC (insK k 0)).toArray X→Calls Tryz.prog 116 #[.pointer (some ⟨p,0,none⟩),.int .i64 18] X fun e w'=>e=.returned (.int .i64 o)∧D2 w B p s2 g 75 (insC (insK k 0)).toArray w'):=fun X hX=>(b_count hX.st 18 (by decide) (by decide)).mono fun _ _ ⟨e1,e2⟩=>by
    have hx2:=HX.out
    rw [hh] at hx2
    have hx3:((o:Int),s2)=cntR 18 s1:=hx2
    rw [← hx3] at e1 e2
    exact ⟨e1,hX.trans (e2.d2 hX.dst HH.out.1 HH.out.2)⟩
   have hob:=HOB.out
   have how:IntKind.u8.wrap o=o:=by rw [IntKind.wrap_u8];omega
   clear hob
   go_enter Tryz.func118,Tryz.ntmps118
   go_upto_region 1 with (go_at_call 116;refine HC.out.mono ?_;rintro e w1 ⟨rfl,hq⟩;have HQ1:=Lib.hid (HD0.out _ _ hq);have d0:w1.cell? ⟨g,0,none⟩=some (.int .u8 0):=row_cellsO HQ1.out.dst 0 _ rfl;have f0:w1.frozen? ⟨g,0,none⟩=false:=own_frozen HQ1.out.dst 0;clear hq)
   have HQ2:Hid (D2 w B p s1 g 75 (insC (insK k 0)).toArray (w1.setCell ⟨g,0,none⟩ (.int .u8 k))):=HST.out w1 _ 0 0 (.int .u8 k) 0 HQ1.out
   clear HQ1 d0 f0
   obtain ⟨W2,hW2⟩:∃ W,W=w1.setCell ⟨g,0,none⟩ (.int .u8 k):=⟨_,rfl⟩
   rw [← hW2] at HQ2 ⊢
   clear hW2
   have OI:=HQ2.out.dst
   go_upto_region 3 with (first | (go_at_call 106;refine (HUS.out _ HQ2.out.bel).mono ?_;rintro e w3 ⟨rfl,hb⟩;have HQ3:=Lib.hid (HQ2.out.below hb HH.out.2);clear hb OI) | (go_at_call 108;refine (HHS.out _ _).mono ?_;rintro e w4 ⟨rfl,rfl⟩) | (go_at_call 116;refine (HC2.out _ HQ3.out).mono ?_;rintro e w5 ⟨rfl,hq⟩;have HQ5:=Lib.hid hq;have d1:w5.cell? ⟨g,1,none⟩=some (.int .u8 0):=row_cellsO hq.dst 1 _ rfl;have f1:w5.frozen? ⟨g,1,none⟩=false:=own_frozen hq.dst 1;clear hq) | (refine ld rowI rfl rfl rfl OI rfl ?_))
   have HQ6:Hid (D2 w B p s2 g 75 (insC (insK k o)).toArray (w5.setCell ⟨g,1,none⟩ (.int .u8 o))):=HST.out w5 _ k 0 (.int .u8 o) 1 HQ5.out
   clear HQ5 HQ3 HQ2 d1 f1
   obtain ⟨W6,hW6⟩:∃ W,W=w5.setCell ⟨g,1,none⟩ (.int .u8 o):=⟨_,rfl⟩
   rw [← hW6] at HQ6 ⊢
   clear hW6
   go_wp2_with (first | (go_at_call 113;refine (HV.out _ HQ6.out).mono ?_;rintro e w7 ⟨rfl,hq⟩;have HQ7:=Lib.hid hq;clear hq) | (go_at_call 72;refine (HN.out _ HQ7.out).mono ?_;rintro e w8 ⟨rfl,hq⟩;have HQ8:=Lib.hid hq;clear hq))
   exact bodyPost_end (results_none rfl _ _ _) rfl ⟨rfl,HQ8.out⟩
open Go.RowKit
set_option linter.unusedVariables false
set_option maxRecDepth 100000
theorem Dq.grow {w X Y:World} {p:Nat} {s:Bst} {row:Option Nat} (h:Dq w p s X) (hp:p<w.heap.size) (hg:X.grownBy Y row) (hr:∀ k,row=some k→w.heap.size≤k):Dq w p s Y :=
 ⟨h.st.keep fun k hk=>hg.block k (Nat.lt_of_le_of_lt hk h.st.lt) (fun e=>by have:=hr k e.symm;omega),⟨by rw [hg.os];exact h.keep.os,by rw [hg.tape];exact h.keep.tape,by rw [hg.output];exact h.keep.output,Nat.le_trans h.keep.size hg.size,fun k o hk hs=>by
  have hl:k<w.heap.size:=(Array.getElem?_eq_some_iff.1 hk).1
  exact (hg.block k (Nat.lt_of_lt_of_le hl h.keep.size) (fun e=>by have:=hr k e.symm;omega)).trans (h.keep.block k o hk hs)⟩⟩
theorem rep_stop {α:Type} (f:Bst→α × Bst) (k:Nat) (s:Bst) (h:s.2=true):repR f k s=([],s):=by
 cases k with
 | zero=>rfl
 | succ k=>unfold repR;rw [if_pos h]
theorem rep_step {α:Type} (f:Bst→α × Bst) (k:Nat) (s:Bst) (h:s.2=false):repR f (k+1) s=((f s).1::(repR f k (f s).2).1,(repR f k (f s).2).2):=by
 show (if s.2=true then _ else _)=_
 rw [if_neg (by rw [h];simp)]
theorem row_past {X Y:World} {B:Nat} {T:TypeId} {n:Nat} {v:Value} {m:Nat} {xs:List Value} (h:X.ownsRow B T n v m xs) {p c:Nat} (hp:p<B) (hc:c=X.heap.size) {o:Obj} (hk:Keep (fun k _=>k≠p∧k≠c) (X.alloc o) Y):Y.ownsRow B T n v m xs :=
 row_stays h fun g h1 _ h3=>by
  have e:=heap_alloc_old X o h3
  rw [hk.block g _ (e.trans (Array.getElem?_eq_getElem h3)) ⟨by omega,by omega⟩,Array.getElem?_eq_getElem h3]
theorem b_listW {w:World} {p:Nat} {s:Bst} (h:Dr p s w) (most:Int) (hm:0≤most) (hm2:most≤100000) :
 Calls Tryz.prog 73 #[.pointer (some ⟨p,0,none⟩),.int .i64 most,.func (.func 74) #[.pointer (some ⟨p,0,none⟩)] #[]] w fun e w'=>∃ v,e=.returned v∧Dq w p (lstR wrdR most s).2 w'∧w'.ownsRow w.heap.size 2 1 v (lstR wrdR most s).1.length ((lstR wrdR most s).1.flatMap (fun x=>[Value.int .i64 x])):=by
 obtain ⟨i0,hi,hz0,hz1,hz2⟩:=info_parts info_w
 have hpw:=h.lt
 have HC:Hid (Calls Tryz.prog 116 #[.pointer (some ⟨p,0,none⟩),.int .i64 most] w fun e w'=>e=.returned (.int .i64 (cntR most s).1)∧Dq w p (cntR most s).2 w'):=b_count h most hm (by omega)
 have hcb:=cntR_bd most s hm
 have HL:Hid (lstR wrdR most s=repR wrdR (cntR most s).1.toNat (cntR most s).2):=rfl
 rw [HL.out]
 clear HL
 generalize hcs:cntR most s=cs at HC hcb ⊢
 obtain ⟨nc,s1⟩:=cs
 simp only at HC hcb ⊢
 obtain ⟨n,rfl⟩:∃ n:Nat,nc=(n:Int):=⟨nc.toNat,by omega⟩
 simp only [Int.toNat_natCast]
 have HB:=Lib.hid hcb
 have HPW:=Lib.hid hpw
 clear hcs h hcb hpw
 go_enter Tryz.func73,Tryz.ntmps73
 go_wp2_with (go_at_call 116;refine HC.out.mono ?_;rintro e w1 ⟨rfl,hq⟩;have HQ1:=Lib.hid hq;clear hq)
 go_loopg [7] (n+1) (fun m' z X=>∃ (xs:List Int) (sj:Bst),xs.length≤n∧m'=n-xs.length+1∧Dq w p sj X∧X.ownsRow w.heap.size 2 1 z xs.length (xs.flatMap (fun x=>[Value.int .i64 x]))∧repR wrdR n s1=(xs++(repR wrdR (n-xs.length) sj).1,(repR wrdR (n-xs.length) sj).2))
 case atStart=>exact ⟨[],s1,Nat.zero_le _,by simp,HQ1.out,World.ownsRow_nil _ _ _ _,by simp⟩
 case round =>
  clear HQ1
  obtain ⟨xs,sj,hl,hm',hq,hr,he⟩:=hrel
  obtain ⟨az,cz,rfl⟩:=row_slice hr
  obtain ⟨aa,ca,hP⟩:=hq.st
  have p1:wr.cell? ⟨p,1,none⟩=some (.bool sj.2):=row_cellsO hP.own 1 _ rfl
  have HM:=Lib.hid hm'
  have HQ:=Lib.hid hq
  have HR:=Lib.hid hr
  have HE:=Lib.hid he
  clear hm' hr he hP
  by_cases hjn:xs.length<n
  · cases hb : sj.2 with
    | true =>
      have HZ:Hid (repR wrdR n s1=(xs,sj)):=by rw [Hid,HE.out,rep_stop wrdR _ sj hb,List.append_nil]
      rw [hb] at p1
      clear hb hq HE
      go_wp2_with (fail)
      go_ret
      rw [HZ.out]
      exact ⟨_,rfl,HQ.out,HR.out⟩
    | false =>
      rw [hb] at p1
      have al:=(Below.refl _ wr).alloc (Nat.le_refl _) (.cells #[.int .i64 0] 2)
      have O1:=Own.new wr 2 #[.int .i64 0]
      have hpc:p<wr.heap.size:=hq.st.lt
      have HRD:Hid (Calls Tryz.prog 74 #[.pointer (some ⟨p,0,none⟩),.pointer (some ⟨wr.heap.size,0,none⟩)] (wr.alloc (.cells #[.int .i64 0] 2)) fun e w'=>e=.returned (.tuple #[])∧D2 (wr.alloc (.cells #[.int .i64 0] 2)) p p (wrdR sj).2 wr.heap.size 2 ((fun x:Int=>#[Value.int .i64 x]) (wrdR sj).1) w'):=(b_word (x:=0) (hq.st.below al) O1 hpc rfl (Nat.le_refl _)).mono fun _ _ ⟨h1,h2⟩=>⟨h1,by simpa using h2⟩
      have hwb:w.heap.size≤wr.heap.size:=hq.keep.size
      have hst:=rep_step wrdR (n-xs.length-1) sj hb
      have HST:=Lib.hid hst
      clear hst
      generalize wrdR sj=y at HRD HST
      obtain ⟨x,s2⟩:=y
      simp only at HRD HST
      have HE2:Hid (repR wrdR n s1=((xs++[x])++(repR wrdR (n-(xs++[x]).length) s2).1,(repR wrdR (n-(xs++[x]).length) s2).2)):=by
       have e1:n-xs.length=(n-xs.length-1)+1:=by omega
       have e2:n-(xs++[x]).length=n-xs.length-1:=by simp only [List.length_append,List.length_cons,List.length_nil];omega
       rw [Hid,HE.out,e2,e1,HST.out]
       simp
      have HOK:Hid (∀ X,D2 (wr.alloc (.cells #[.int .i64 0] 2)) p p s2 wr.heap.size 2 ((fun x:Int=>#[Value.int .i64 x]) x) X→Dq w p s2 X∧X.ownsRow w.heap.size 2 1 (.slice az xs.length cz) xs.length (xs.flatMap (fun x=>[Value.int .i64 x]))∧Own X wr.heap.size 2 ((fun x:Int=>#[Value.int .i64 x]) x)∧w.heap.size≤X.heap.size):=fun X hX=>⟨HQ.out.trans hX.dq,row_past HR.out HPW.out rfl hX.keep,hX.dst,Nat.le_trans hwb (Nat.le_of_lt (Nat.lt_of_lt_of_le (by simp) hX.keep.size))⟩
      obtain ⟨W1,hW1⟩:∃ W,W=wr.alloc (.cells #[.int .i64 0] 2):=⟨_,rfl⟩
      rw [← hW1] at HRD HOK
      have HW1:=Lib.hid hW1
      have hlen:xs.length≤100000:=by have:=HB.out;omega
      have HLEN:=Lib.hid hlen
      clear hb hq HE al O1 hpc hW1 hlen hwb HST
      go_upto_region 5 with (fail)
      rw [← HW1.out]
      clear HW1 p1
      go_upto_region 6 with (go_at_call 74;refine HRD.out.mono ?_;rintro e w2 ⟨rfl,hd⟩;obtain ⟨h1,h2,h3,h4⟩:=HOK.out _ hd;have HQ2:=Lib.hid h1;have HR2:=Lib.hid h2;have O3:=h3;have HS2:=Lib.hid h4;clear hd h1 h2 h3 h4)
      have d0:w2.cell? ⟨wr.heap.size,0,none⟩=some (.int .i64 x):=row_cellsO O3 0 _ rfl
      have hown:=HR2.out.alloc (.cells #[.int .i64 x] 2)
      have HOW:=Lib.hid hown
      have HNW:Hid (∀ j u,([.int .i64 x]:List Value)[j]? = some u→(w2.alloc (.cells #[.int .i64 x] 2)).cell? ((⟨w2.heap.size,0,none⟩:Addr).add j)=some u):=fun j u hj=>by
       rw [addr_addD,Nat.zero_add]
       exact row_cellsO (Own.new w2 2 #[.int .i64 x]) j u (by simpa using hj)
      have hlen:=HLEN.out
      have hbs:w.heap.size≤(w2.alloc (.cells #[.int .i64 x] 2)).heap.size:=by rw [World.size_alloc];have:=HS2.out;omega
      clear hown HRD HOK
      go_wp2_with (first | fail | (at_builtin;refine wpList_append_own _ rfl _ _ 22 rfl w.heap.size 2 i0 _ 1 8 Tryz.underlying22 hi hz0 hz1 hz2 rfl (by decide) (.slice az xs.length cz) xs.length (xs.flatMap (fun x=>[Value.int .i64 x])) rfl ?_ ⟨w2.heap.size,0,none⟩ 1 1 [.int .i64 x] rfl rfl ?_ (by simp [Value.oneCell']) (by simp only [maxLen];omega) (by omega) hbs ?_;(· exact HOW.out);(· exact HNW.out);intro v4 w4 hr4 hg4 _;have HR4:=Lib.hid hr4;have HG4:=Lib.hid hg4;clear hr4 hg4))
      have hq4:Dq w p s2 w4:=(HQ2.out.below ((Below.refl _ w2).alloc (Nat.le_refl _) _)).grow HPW.out HG4.out (fun k hk=>(HOW.out.lt k hk).1)
      have HQ4:=Lib.hid hq4
      clear hq4 hlen hbs
      go_roundg (n-(xs.length+1)+1)
      case measure=>have:=HM.out;omega
      case rel=>exact ⟨xs++[x],s2,by simp only [List.length_append,List.length_cons,List.length_nil];omega,by simp only [List.length_append,List.length_cons,List.length_nil],HQ4.out,by
       have h5:=HR4.out
       rw [List.flatMap_append]
       simpa using h5,HE2.out⟩
  · have HZ : Hid (repR wrdR n s1 = (xs, sj)) := by
     have e0:n-xs.length=0:=by omega
     rw [Hid,HE.out,e0]
     show (xs++[],sj)=_
     rw [List.append_nil]
    have hnn:¬ (xs.length:Int)<(n:Int):=by omega
    clear hq HE
    go_wp2_with (fail)
    go_ret
    rw [HZ.out]
    exact ⟨_,rfl,HQ.out,HR.out⟩
theorem b_listI {w:World} {p:Nat} {s:Bst} (h:Dr p s w) (most:Int) (hm:0≤most) (hm2:most≤100000) (HT:∀ X,Below p w X→TgT X) :
 Calls Tryz.prog 117 #[.pointer (some ⟨p,0,none⟩),.int .i64 most,.func (.func 118) #[.pointer (some ⟨p,0,none⟩)] #[]] w fun e w'=>∃ v,e=.returned v∧Dq w p (lstR insR most s).2 w'∧w'.ownsRow w.heap.size 75 9 v (lstR insR most s).1.length ((lstR insR most s).1.flatMap insC):=by
 obtain ⟨i0,hi,hz0,hz1,hz2⟩:=info_parts info_i
 have hpw:=h.lt
 have HC:Hid (Calls Tryz.prog 116 #[.pointer (some ⟨p,0,none⟩),.int .i64 most] w fun e w'=>e=.returned (.int .i64 (cntR most s).1)∧Dq w p (cntR most s).2 w'):=b_count h most hm (by omega)
 have hcb:=cntR_bd most s hm
 have HL:Hid (lstR insR most s=repR insR (cntR most s).1.toNat (cntR most s).2):=rfl
 rw [HL.out]
 clear HL
 generalize hcs:cntR most s=cs at HC hcb ⊢
 obtain ⟨nc,s1⟩:=cs
 simp only at HC hcb ⊢
 obtain ⟨n,rfl⟩:∃ n:Nat,nc=(n:Int):=⟨nc.toNat,by omega⟩
 simp only [Int.toNat_natCast]
 have HB:=Lib.hid hcb
 have HTT:=Lib.hid HT
 have HPW:=Lib.hid hpw
 clear hcs h hcb hpw HT
 go_enter Tryz.func117,Tryz.ntmps117
 go_wp2_with (go_at_call 116;refine HC.out.mono ?_;rintro e w1 ⟨rfl,hq⟩;have HQ1:=Lib.hid hq;clear hq)
 go_loopg [7] (n+1) (fun m' z X=>∃ (xs:List Ins) (sj:Bst),xs.length≤n∧m'=n-xs.length+1∧Dq w p sj X∧X.ownsRow w.heap.size 75 9 z xs.length (xs.flatMap insC)∧repR insR n s1=(xs++(repR insR (n-xs.length) sj).1,(repR insR (n-xs.length) sj).2))
 case atStart=>exact ⟨[],s1,Nat.zero_le _,by simp,HQ1.out,World.ownsRow_nil _ _ _ _,by simp⟩
 case round =>
  clear HQ1
  obtain ⟨xs,sj,hl,hm',hq,hr,he⟩:=hrel
  obtain ⟨az,cz,rfl⟩:=row_slice hr
  obtain ⟨aa,ca,hP⟩:=hq.st
  have p1:wr.cell? ⟨p,1,none⟩=some (.bool sj.2):=row_cellsO hP.own 1 _ rfl
  have HM:=Lib.hid hm'
  have HQ:=Lib.hid hq
  have HR:=Lib.hid hr
  have HE:=Lib.hid he
  clear hm' hr he hP
  by_cases hjn:xs.length<n
  · cases hb : sj.2 with
    | true =>
      have HZ:Hid (repR insR n s1=(xs,sj)):=by rw [Hid,HE.out,rep_stop insR _ sj hb,List.append_nil]
      rw [hb] at p1
      clear hb hq HE
      go_wp2_with (fail)
      go_ret
      rw [HZ.out]
      exact ⟨_,rfl,HQ.out,HR.out⟩
    | false =>
      rw [hb] at p1
      have al:=(Below.refl _ wr).alloc (Nat.le_refl _) (.cells #[.int .u8 0,.int .u8 0,.int .i64 0,.int .i64 0,.int .i64 0,.int .i64 0,.int .i64 0,.int .i64 0,.int .i64 0] 75)
      have O1:=Own.new wr 75 #[.int .u8 0,.int .u8 0,.int .i64 0,.int .i64 0,.int .i64 0,.int .i64 0,.int .i64 0,.int .i64 0,.int .i64 0]
      have hpc:p<wr.heap.size:=hq.st.lt
      have HRD:Hid (Calls Tryz.prog 118 #[.pointer (some ⟨p,0,none⟩),.pointer (some ⟨wr.heap.size,0,none⟩)] (wr.alloc (.cells #[.int .u8 0,.int .u8 0,.int .i64 0,.int .i64 0,.int .i64 0,.int .i64 0,.int .i64 0,.int .i64 0,.int .i64 0] 75)) fun e w'=>e=.returned (.tuple #[])∧D2 (wr.alloc (.cells #[.int .u8 0,.int .u8 0,.int .i64 0,.int .i64 0,.int .i64 0,.int .i64 0,.int .i64 0,.int .i64 0,.int .i64 0] 75)) p p (insR sj).2 wr.heap.size 75 ((fun x:Ins=>(insC x).toArray) (insR sj).1) w'):=b_ins (hq.st.below al) O1 hpc (Nat.le_refl _) (fun X hX=>HTT.out X ((hq.bel (Nat.le_of_lt HPW.out)).trans ((al.mono (Nat.le_of_lt hpc)).trans hX)))
      have hwb:w.heap.size≤wr.heap.size:=hq.keep.size
      have hst:=rep_step insR (n-xs.length-1) sj hb
      have HST:=Lib.hid hst
      clear hst
      generalize insR sj=y at HRD HST
      obtain ⟨x,s2⟩:=y
      simp only at HRD HST
      have HE2:Hid (repR insR n s1=((xs++[x])++(repR insR (n-(xs++[x]).length) s2).1,(repR insR (n-(xs++[x]).length) s2).2)):=by
       have e1:n-xs.length=(n-xs.length-1)+1:=by omega
       have e2:n-(xs++[x]).length=n-xs.length-1:=by simp only [List.length_append,List.length_cons,List.length_nil];omega
       rw [Hid,HE.out,e2,e1,HST.out]
       simp
      have HOK:Hid (∀ X,D2 (wr.alloc (.cells #[.int .u8 0,.int .u8 0,.int .i64 0,.int .i64 0,.int .i64 0,.int .i64 0,.int .i64 0,.int .i64 0,.int .i64 0] 75)) p p s2 wr.heap.size 75 ((fun x:Ins=>(insC x).toArray) x) X→Dq w p s2 X∧X.ownsRow w.heap.size 75 9 (.slice az xs.length cz) xs.length (xs.flatMap insC)∧Own X wr.heap.size 75 ((fun x:Ins=>(insC x).toArray) x)∧w.heap.size≤X.heap.size):=fun X hX=>⟨HQ.out.trans hX.dq,row_past HR.out HPW.out rfl hX.keep,hX.dst,Nat.le_trans hwb (Nat.le_of_lt (Nat.lt_of_lt_of_le (by simp) hX.keep.size))⟩
      obtain ⟨W1,hW1⟩:∃ W,W=wr.alloc (.cells #[.int .u8 0,.int .u8 0,.int .i64 0,.int .i64 0,.int .i64 0,.int .i64 0,.int .i64 0,.int .i64 0,.int .i64 0] 75):=⟨_,rfl⟩
      rw [← hW1] at HRD HOK
      have HW1:=Lib.hid hW1
      have hlen:xs.length≤100000:=by have:=HB.out;omega
      have HLEN:=Lib.hid hlen
      obtain ⟨k,o,d,a,b,ad,tt,wd,fr⟩:=x
      simp only [insC] at HRD HOK
      clear hb hq HE al O1 hpc hW1 hlen hwb HST
      go_upto_region 5 with (fail)
      rw [← HW1.out]
      clear HW1 p1
      go_upto_region 6 with (go_at_call 118;refine HRD.out.mono ?_;rintro e w2 ⟨rfl,hd⟩;obtain ⟨h1,h2,h3,h4⟩:=HOK.out _ hd;have HQ2:=Lib.hid h1;have HR2:=Lib.hid h2;have O3:=h3;have HS2:=Lib.hid h4;clear hd h1 h2 h3 h4)
      have hown:=HR2.out.alloc (.cells #[.int .u8 k,.int .u8 o,.int .i64 d,.int .i64 a,.int .i64 b,.int .i64 ad,.int .i64 tt,.int .i64 wd,.int .i64 fr] 75)
      have HOW:=Lib.hid hown
      have HNW:Hid (∀ j u,([.int .u8 k,.int .u8 o,.int .i64 d,.int .i64 a,.int .i64 b,.int .i64 ad,.int .i64 tt,.int .i64 wd,.int .i64 fr]:List Value)[j]? = some u→(w2.alloc (.cells #[.int .u8 k,.int .u8 o,.int .i64 d,.int .i64 a,.int .i64 b,.int .i64 ad,.int .i64 tt,.int .i64 wd,.int .i64 fr] 75)).cell? ((⟨w2.heap.size,0,none⟩:Addr).add j)=some u):=fun j u hj=>by
       rw [addr_addD,Nat.zero_add]
       exact row_cellsO (Own.new w2 75 #[.int .u8 k,.int .u8 o,.int .i64 d,.int .i64 a,.int .i64 b,.int .i64 ad,.int .i64 tt,.int .i64 wd,.int .i64 fr]) j u (by simpa using hj)
      have hlen:=HLEN.out
      have hbs:w.heap.size≤(w2.alloc (.cells #[.int .u8 k,.int .u8 o,.int .i64 d,.int .i64 a,.int .i64 b,.int .i64 ad,.int .i64 tt,.int .i64 wd,.int .i64 fr] 75)).heap.size:=by rw [World.size_alloc];have:=HS2.out;omega
      clear hown HRD HOK
      go_wp2_with (first | fail | (at_builtin;refine wpList_append_own _ rfl _ _ 68 rfl w.heap.size 75 i0 _ 9 64 Tryz.underlying68 hi hz0 hz1 hz2 rfl (by decide) (.slice az xs.length cz) xs.length (xs.flatMap insC) rfl ?_ ⟨w2.heap.size,0,none⟩ 1 1 [.int .u8 k,.int .u8 o,.int .i64 d,.int .i64 a,.int .i64 b,.int .i64 ad,.int .i64 tt,.int .i64 wd,.int .i64 fr] rfl rfl ?_ (by simp [Value.oneCell']) (by simp only [maxLen];omega) (by omega) hbs ?_;(· exact HOW.out);(· exact HNW.out);intro v4 w4 hr4 hg4 _;have HR4:=Lib.hid hr4;have HG4:=Lib.hid hg4;clear hr4 hg4) | (refine ld rowI rfl rfl rfl O3 rfl ?_))
      have hq4:Dq w p s2 w4:=(HQ2.out.below ((Below.refl _ w2).alloc (Nat.le_refl _) _)).grow HPW.out HG4.out (fun k hk=>(HOW.out.lt k hk).1)
      have HQ4:=Lib.hid hq4
      clear hq4 hlen hbs
      go_roundg (n-(xs.length+1)+1)
      case measure=>have:=HM.out;omega
      case rel=>exact ⟨xs++[⟨k,o,d,a,b,ad,tt,wd,fr⟩],s2,by simp only [List.length_append,List.length_cons,List.length_nil];omega,by simp only [List.length_append,List.length_cons,List.length_nil],HQ4.out,by
       have h5:=HR4.out
       rw [List.flatMap_append]
       simpa [insC] using h5,HE2.out⟩
  · have HZ : Hid (repR insR n s1 = (xs, sj)) := by
     have e0:n-xs.length=0:=by omega
     rw [Hid,HE.out,e0]
     show (xs++[],sj)=_
     rw [List.append_nil]
    have hnn:¬ (xs.length:Int)<(n:Int):=by omega
    clear hq HE
    go_wp2_with (fail)
    go_ret
    rw [HZ.out]
    exact ⟨_,rfl,HQ.out,HR.out⟩
end Go.Proofs.YtmpljhfinmfnbaaGreatDoor

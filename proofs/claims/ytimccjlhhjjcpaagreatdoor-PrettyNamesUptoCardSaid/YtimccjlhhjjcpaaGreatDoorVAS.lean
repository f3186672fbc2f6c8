/- The proof, part 19: texts that belong together, in one. -/
import Derived.Test.YtimccjlhhjjcpaaGreatDoorVAR
set_option maxRecDepth 100000
set_option maxHeartbeats 20000000
namespace Go.Proofs.YtimccjlhhjjcpaaGreatDoor
open Go.RowKit
set_option linter.unusedVariables false
theorem exsIn_mono {B:Nat} {W:World} {g:Nat} : ∀ {l:List Ex} {q:Nat},exsIn (Rf (B+1) W) W l g q→exsIn (Rf B W) W l g q
 | [],q,_=>trivial
 | x :: r, q, h => by
   obtain ⟨k,op,wd,nm,ks,ps⟩:=x
   obtain ⟨⟨c0,c1,c2,c3,⟨a,cap,c4,h4⟩,c5⟩,hr⟩:=h
   exact ⟨⟨c0,c1,c2,c3,⟨a,cap,c4,exsAt_rfw (B:=B+1) (B':=B) h4 (by omega)⟩,c5⟩,exsIn_mono hr⟩
theorem stsIn_mono {B:Nat} {W:World} {g:Nat} : ∀ {l:List St} {q:Nat},stsIn (Rf (B+1) W) W l g q→stsIn (Rf B W) W l g q
 | [],q,_=>trivial
 | x :: r, q, h => by
   obtain ⟨k,nm,ot,es,bo,el,ps⟩:=x
   obtain ⟨⟨c0,c1,c2,⟨a3,p3,c3,h3⟩,⟨a4,p4,c4,h4⟩,⟨a5,p5,c5,h5⟩,c6⟩,hr⟩:=h
   exact ⟨⟨c0,c1,c2,⟨a3,p3,c3,exsAt_rfw h3 (by omega)⟩,⟨a4,p4,c4,stsAt_rfw (B:=B+1) (B':=B) h4 (by omega)⟩,⟨a5,p5,c5,stsAt_rfw (B:=B+1) (B':=B) h5 (by omega)⟩,c6⟩,stsIn_mono hr⟩
theorem thsIn_mono {B:Nat} {W:World} {g:Nat} : ∀ {l:List Th} {q:Nat},thsIn (Rf (B+1) W) W l g q→thsIn (Rf B W) W l g q
 | [],q,_=>trivial
 | x :: r, q, h => by
   obtain ⟨⟨c0,⟨a3,p3,c3,h3⟩,⟨a4,p4,c4,h4⟩,c5⟩,hr⟩:=h
   exact ⟨⟨c0,⟨a3,p3,c3,dcsAt_rfw h3 (by omega)⟩,⟨a4,p4,c4,stsAt_rfw h4 (by omega)⟩,c5⟩,thsIn_mono hr⟩
theorem sizeEx:(Tryz.prog.info? 70).map (·.size)=some 6:=by kernel_rfl
theorem sizeDc:(Tryz.prog.info? 75).map (·.size)=some 3:=by kernel_rfl
theorem sizeSt:(Tryz.prog.info? 78).map (·.size)=some 7:=by kernel_rfl
theorem sizeTh:(Tryz.prog.info? 60).map (·.size)=some 4:=by kernel_rfl
def CpE (x:Ex):Prop:=fitE x→∀ (a:Option Addr) (c:Nat) (w:World),exsAt (fun _=>True) w x.kids a→Calls Tryz.prog 138 #[.agg (exCells x a c).toArray] w fun e w'=>∃ a' c',e=.returned (.agg (exCells x a' c').toArray)∧exsAt (Rf w.heap.size w') w' x.kids a'∧Below w.heap.size w w'
def CpEs (l:List Ex):Prop:=fitEs l→64*l.length≤140737488355328→∀ (a:Option Addr) (c:Nat) (w:World),exsAt (fun _=>True) w l a →
 Calls Tryz.prog 137 #[.slice a l.length c,.func (.func 138) #[] #[]] w fun e w'=>∃ a' c',e=.returned (.slice a' l.length c')∧exsAt (Rf w.heap.size w') w' l a'∧Below w.heap.size w w'
def CpD (x:Dc):Prop:=fitD x→∀  (w:World),Calls Tryz.prog 83 #[.agg (dcCells x).toArray] w fun e w'=>e=.returned (.agg (dcCells x).toArray)∧Below w.heap.size w w'
def CpDs (l:List Dc):Prop:=fitDs l→32*l.length≤140737488355328→∀ (a:Option Addr) (c:Nat) (w:World),dcsAt (fun _=>True) w l a →
 Calls Tryz.prog 82 #[.slice a l.length c,.func (.func 83) #[] #[]] w fun e w'=>∃ a' c',e=.returned (.slice a' l.length c')∧dcsAt (Rf w.heap.size w') w' l a'∧Below w.heap.size w w'
def CpS (x:St):Prop:=fitS x→∀ (a3:Option Addr) (c3:Nat) (a4:Option Addr) (c4:Nat) (a5:Option Addr) (c5:Nat) (w:World),exsAt (fun _=>True) w x.e a3→stsAt (fun _=>True) w x.body a4→stsAt (fun _=>True) w x.els a5→Calls Tryz.prog 110 #[.agg (stCells x a3 c3 a4 c4 a5 c5).toArray] w fun e w'=>∃ a3' c3' a4' c4' a5' c5',e=.returned (.agg (stCells x a3' c3' a4' c4' a5' c5').toArray)∧exsAt (Rf w.heap.size w') w' x.e a3'∧stsAt (Rf w.heap.size w') w' x.body a4'∧stsAt (Rf w.heap.size w') w' x.els a5'∧Below w.heap.size w w'
def CpSs (l:List St):Prop:=fitSs l→120*l.length≤140737488355328→∀ (a:Option Addr) (c:Nat) (w:World),stsAt (fun _=>True) w l a →
 Calls Tryz.prog 109 #[.slice a l.length c,.func (.func 110) #[] #[]] w fun e w'=>∃ a' c',e=.returned (.slice a' l.length c')∧stsAt (Rf w.heap.size w') w' l a'∧Below w.heap.size w w'
def CpT (x:Th):Prop:=fitT x→∀ (a1:Option Addr) (c1:Nat) (a2:Option Addr) (c2:Nat) (w:World),dcsAt (fun _=>True) w x.locals a1→stsAt (fun _=>True) w x.body a2→Calls Tryz.prog 85 #[.agg (thCells x a1 c1 a2 c2).toArray] w fun e w'=>∃ a1' c1' a2' c2',e=.returned (.agg (thCells x a1' c1' a2' c2').toArray)∧dcsAt (Rf w.heap.size w') w' x.locals a1'∧stsAt (Rf w.heap.size w') w' x.body a2'∧Below w.heap.size w w'
def CpTs (l:List Th):Prop:=fitTs l→72*l.length≤140737488355328→∀ (a:Option Addr) (c:Nat) (w:World),thsAt (fun _=>True) w l a →
 Calls Tryz.prog 84 #[.slice a l.length c,.func (.func 85) #[] #[]] w fun e w'=>∃ a' c',e=.returned (.slice a' l.length c')∧thsAt (Rf w.heap.size w') w' l a'∧Below w.heap.size w w'
theorem cp_each_E {l:List Ex} (HI:∀ x∈l,CpE x):CpEs l:=by
 intro HO hl a c w h1
 cases a with
 | none =>
   have hnil:l=[]:=by
    rcases h1 with h | ⟨g,q,h,_⟩
    · cases l with | nil=>rfl | cons=>cases h
    · cases h
   subst hnil
   have hq:=fun (w:World)=>Lib.run_eql_slice_nil (P:=Tryz.prog) w 68 70 none 0 c 0 0 Tryz.underlying68
   simp only [Option.isNone_none] at hq
   clear hl HI HO h1
   go_enter Tryz.func137,Tryz.ntmps137
   go_wp2_with fail
   go_ret
   exact ⟨none,0,rfl,.inl rfl,Below.refl _ w⟩
 | some a =>
 have HI:=Lib.hid HI
 have HO:=Lib.hid HO
 have E1:=Lib.hid h1
 obtain ⟨n,hn⟩:∃ n,n=l.length:=⟨_,rfl⟩
 rw [← hn] at hl ⊢
 have HN:=Lib.hid hn
 clear h1 hn
 obtain ⟨i0,hi,hi0,hi1,hi2⟩:=info_parts infoEx
 have hq:=fun (w:World)=>Lib.run_eql_slice_nil (P:=Tryz.prog) w 68 70 (some a) n c 0 0 Tryz.underlying68
 simp only [Option.isNone_some] at hq
 go_enter Tryz.func137,Tryz.ntmps137
 go_wp2_with (refine wpList_make_full w rfl _ _ 68 rfl w.heap.size 70 i0 (.agg zEx) 6 Tryz.underlying68 hi hi0 hi1 .i64 .i64 n n n rfl rfl rfl rfl (by rw [hi2];omega) (by unfold maxLen;omega) (Nat.le_refl _) ?_;intro w1 hown hgrow)
 have HG:=Lib.hid (made_lt hown)
 have HTH:=Lib.hid (there_made hown)
 have HUF:=Lib.hid (uf_made hown)
 have HB:=Lib.hid ((Below.refl w.heap.size w).grown hgrow (Nat.le_refl _) (fun k h=>by cases h))
 clear hown hgrow hi hi0 hi1 hi2 hq
 go_loopg [15] (n+1) (fun m' u W=>∃ i:Nat,u=.int .i64 (i:Int)∧i≤n∧m'=n-i+1∧exsIn (Rf (w.heap.size+1) W) W (l.take i) w.heap.size 0∧Uf W w.heap.size∧W.there w.heap.size 0 (n*6)∧w.heap.size<W.heap.size∧Below w.heap.size w W)
 case atStart=>exact ⟨0,rfl,Nat.zero_le _,by omega,trivial,HUF.out,HTH.out,HG.out,HB.out⟩
 case round =>
  clear HG HTH HB HUF
  obtain ⟨i,rfl,hi,hm,hI,huf,hth,hg,hb0⟩:=hrel
  have HUF:=Lib.hid huf
  have HM:=Lib.hid hm
  have HIN:=Lib.hid hI
  have HTH:=Lib.hid hth
  have HG:=Lib.hid hg
  have HB:=Lib.hid hb0
  clear hm hb0 hI hth hg huf
  by_cases hin:i<n
  · have il : i < l.length := by have := HN.out; omega
    have g1:l[i]? = some l[i]:=List.getElem?_eq_getElem il
    have hmem:l[i]∈l:=List.getElem_mem il
    generalize l[i]=x at g1 hmem
    rcases E1.out with e | ⟨g,q,e,_,e1⟩
    · cases l with
      | nil=>simp at il
      | cons=>cases e
    obtain rfl:a=⟨g,q,none⟩:=by injection e
    have x1:=exsIn_get i x e1 g1
    obtain ⟨k,o,wd,nm,ks,ps⟩:=x
    obtain ⟨f0,f1,f2,f3,⟨a,c,f4,w0⟩,f5⟩:=x1
    have lg:=lt_of_at f0
    simp only at lg
    have hin':(i:Int)<(n:Int):=by omega
    have HCX:Hid (∀ W,Below w.heap.size w W→Calls Tryz.prog 138 #[.agg #[.int .u8 k,.int .u8 o,.int .i64 wd,.string nm,.slice a ks.length c,.int .i64 ps]] W fun e' w'=>∃ a' c',e'=.returned (.agg #[.int .u8 k,.int .u8 o,.int .i64 wd,.string nm,.slice a' ks.length c',.int .i64 ps])∧exsAt (Rf W.heap.size w') w' ks a'∧Below W.heap.size W w'):=fun W hW=>HI.out _ hmem (fitEs_mem HO.out _ hmem) a c W (exsAt_below w0 hW)
    have BX:=HB.out
    have f0:wr.cell? ⟨g,q+i*6,none⟩=some (.int .u8 k):=(BX.cell (p:=⟨g,q+i*6,none⟩) lg).trans f0
    have f1:wr.cell? ⟨g,q+i*6+1,none⟩=some (.int .u8 o):=(BX.cell (p:=⟨g,q+i*6+1,none⟩) lg).trans f1
    have f2:wr.cell? ⟨g,q+i*6+2,none⟩=some (.int .i64 wd):=(BX.cell (p:=⟨g,q+i*6+2,none⟩) lg).trans f2
    have f3:wr.cell? ⟨g,q+i*6+3,none⟩=some (.string nm):=(BX.cell (p:=⟨g,q+i*6+3,none⟩) lg).trans f3
    have f4:wr.cell? ⟨g,q+i*6+4,none⟩=some (.slice a ks.length c):=(BX.cell (p:=⟨g,q+i*6+4,none⟩) lg).trans f4
    have f5:wr.cell? ⟨g,q+i*6+5,none⟩=some (.int .i64 ps):=(BX.cell (p:=⟨g,q+i*6+5,none⟩) lg).trans f5
    have HGI:=Lib.hid g1
    have HIL:=Lib.hid il
    clear g1 e1 il hmem BX w0 e
    obtain ⟨n5,hn5⟩:∃ n,n=ks.length:=⟨_,rfl⟩
    rw [← hn5] at HCX f4
    have HN5:=Lib.hid hn5
    clear hn5
    have O1:=Own.new wr 70 #[.int .u8 k,.int .u8 o,.int .i64 wd,.string nm,.slice a n5 c,.int .i64 ps]
    have HBA:=Lib.hid (HB.out.alloc HB.out.size (.cells #[.int .u8 k,.int .u8 o,.int .i64 wd,.string nm,.slice a n5 c,.int .i64 ps] 70))
    have HGA:Hid (w.heap.size<(wr.alloc (.cells #[.int .u8 k,.int .u8 o,.int .i64 wd,.string nm,.slice a n5 c,.int .i64 ps] 70)).heap.size):=by rw [Hid,World.size_alloc];have:=HG.out;omega
    have HBW:Hid (Below wr.heap.size wr (wr.alloc (.cells #[.int .u8 k,.int .u8 o,.int .i64 wd,.string nm,.slice a n5 c,.int .i64 ps] 70))):=(Below.refl _ wr).alloc (Nat.le_refl _) _
    go_wp2_with (refine ld rowEx rfl rfl rfl O1 rfl ?_)
    go_at_call 138
    refine (HCX.out _ HBA.out).mono ?_
    rintro e w3 ⟨a',c',rfl,hx0,hb3⟩
    have hb13:=HBW.out.trans (hb3.mono HBW.out.size)
    have HTH:=Lib.hid (there_below HTH.out HG.out hb13)
    have hth6:w3.there w.heap.size (i*6) 6:=there_part HTH.out (by omega)
    have HIN2:Hid (exsIn (Rf (w.heap.size+1) (w3.setCells w.heap.size (i*6) [.int .u8 k,.int .u8 o,.int .i64 wd,.string nm,.slice a' n5 c',.int .i64 ps])) (w3.setCells w.heap.size (i*6) [.int .u8 k,.int .u8 o,.int .i64 wd,.string nm,.slice a' n5 c',.int .i64 ps]) (l.take (i+1)) w.heap.size 0):=by
     rw [Hid,HN5.out];exact cp_step_E (x:=Ex.mk k o wd nm ks ps) HIL.out HGI.out (by have:=HN.out;omega) HGA.out HTH.out (exsIn_mv (B:=w.heap.size+1) (lim:=i*6) (fun o v _ hv=>by rw [hb13.cell (p:=⟨w.heap.size,o,none⟩) HG.out];exact hv) (chg_below hb13) _ 0 (by rw [List.length_take];omega) HIN.out) hx0
    have HUF2:Hid (Uf (w3.setCells w.heap.size (i*6) [.int .u8 k,.int .u8 o,.int .i64 wd,.string nm,.slice a' n5 c',.int .i64 ps]) w.heap.size):=uf_setCells _ _ _ (uf_below HUF.out hb13 HG.out)
    have HTH2:=Lib.hid (there_setCells2 HTH.out (i*6) [.int .u8 k,.int .u8 o,.int .i64 wd,.string nm,.slice a' n5 c',.int .i64 ps])
    have HB2:=Lib.hid (below_setCells (Nat.le_refl w.heap.size) [.int .u8 k,.int .u8 o,.int .i64 wd,.string nm,.slice a' n5 c',.int .i64 ps] (i*6) _ (HBA.out.trans (hb3.mono HBA.out.size)))
    have HG2:Hid (w.heap.size<(w3.setCells w.heap.size (i*6) [.int .u8 k,.int .u8 o,.int .i64 wd,.string nm,.slice a' n5 c',.int .i64 ps]).heap.size):=by rw [Hid,size_setCells];exact Nat.lt_of_lt_of_le HGA.out hb3.size
    obtain ⟨W4,hW4⟩:∃ W4,W4=w3.setCells w.heap.size (i*6) [.int .u8 k,.int .u8 o,.int .i64 wd,.string nm,.slice a' n5 c',.int .i64 ps]:=⟨_,rfl⟩
    rw [← hW4] at HIN2 HUF2 HTH2 HB2 HG2
    have HW4:Hid (w3.setCells w.heap.size (i*6) (#[.int .u8 k,.int .u8 o,.int .i64 wd,.string nm,.slice a' n5 c',.int .i64 ps]:Array Value).toList=W4):=hW4.symm
    clear hW4
    have HONE:Hid ((#[.int .u8 k,.int .u8 o,.int .i64 wd,.string nm,.slice a' n5 c',.int .i64 ps]:Array Value).all (·.oneCell')=true):=by rw [Hid];simp [Value.oneCell']
    clear hb3 hb13 O1 hx0
    go_wp2_with (refine wpList_store_mid rfl 70 _ _ rfl w.heap.size (i*6) #[.int .u8 k,.int .u8 o,.int .i64 wd,.string nm,.slice a' n5 c',.int .i64 ps] rfl rfl hth6 sizeEx HONE.out ?_;rw [HW4.out])
    go_roundg (n-(i+1)+1)
    case measure=>have:=HM.out;omega
    case rel=>exact ⟨i+1,rfl,by omega,by omega,HIN2.out,HUF2.out,HTH2.out,HG2.out,HB2.out⟩
  · have : i = n := by omega
    subst this
    have HFIN:Hid (exsAt (Rf w.heap.size wr) wr l (some ⟨w.heap.size,0,none⟩)):=by
     have:=HIN.out
     rw [List.take_of_length_le (by have:=HN.out;omega)] at this
     exact .inr ⟨_,0,rfl,⟨Nat.le_refl _,HUF.out⟩,exsIn_mono this⟩
    go_wp2_with fail
    go_ret
    exact ⟨_,_,rfl,HFIN.out,HB.out⟩
theorem cp_each_D {l:List Dc} (HI:∀ x∈l,CpD x):CpDs l:=by
 intro HO hl a c w h1
 cases a with
 | none =>
   have hnil:l=[]:=by
    rcases h1 with h | ⟨g,q,h,_⟩
    · cases l with | nil=>rfl | cons=>cases h
    · cases h
   subst hnil
   have hq:=fun (w:World)=>Lib.run_eql_slice_nil (P:=Tryz.prog) w 22 75 none 0 c 0 0 Tryz.underlying22
   simp only [Option.isNone_none] at hq
   clear hl HI HO h1
   go_enter Tryz.func82,Tryz.ntmps82
   go_wp2_with fail
   go_ret
   exact ⟨none,0,rfl,.inl rfl,Below.refl _ w⟩
 | some a =>
 have HI:=Lib.hid HI
 have HO:=Lib.hid HO
 have E1:=Lib.hid h1
 obtain ⟨n,hn⟩:∃ n,n=l.length:=⟨_,rfl⟩
 rw [← hn] at hl ⊢
 have HN:=Lib.hid hn
 clear h1 hn
 obtain ⟨i0,hi,hi0,hi1,hi2⟩:=info_parts infoDc
 have hq:=fun (w:World)=>Lib.run_eql_slice_nil (P:=Tryz.prog) w 22 75 (some a) n c 0 0 Tryz.underlying22
 simp only [Option.isNone_some] at hq
 go_enter Tryz.func82,Tryz.ntmps82
 go_wp2_with (refine wpList_make_full w rfl _ _ 22 rfl w.heap.size 75 i0 (.agg zDc) 3 Tryz.underlying22 hi hi0 hi1 .i64 .i64 n n n rfl rfl rfl rfl (by rw [hi2];omega) (by unfold maxLen;omega) (Nat.le_refl _) ?_;intro w1 hown hgrow)
 have HG:=Lib.hid (made_lt hown)
 have HTH:=Lib.hid (there_made hown)
 have HUF:=Lib.hid (uf_made hown)
 have HB:=Lib.hid ((Below.refl w.heap.size w).grown hgrow (Nat.le_refl _) (fun k h=>by cases h))
 clear hown hgrow hi hi0 hi1 hi2 hq
 go_loopg [15] (n+1) (fun m' u W=>∃ i:Nat,u=.int .i64 (i:Int)∧i≤n∧m'=n-i+1∧dcsIn W (l.take i) w.heap.size 0∧Uf W w.heap.size∧W.there w.heap.size 0 (n*3)∧w.heap.size<W.heap.size∧Below w.heap.size w W)
 case atStart=>exact ⟨0,rfl,Nat.zero_le _,by omega,trivial,HUF.out,HTH.out,HG.out,HB.out⟩
 case round =>
  clear HG HTH HB HUF
  obtain ⟨i,rfl,hi,hm,hI,huf,hth,hg,hb0⟩:=hrel
  have HUF:=Lib.hid huf
  have HM:=Lib.hid hm
  have HIN:=Lib.hid hI
  have HTH:=Lib.hid hth
  have HG:=Lib.hid hg
  have HB:=Lib.hid hb0
  clear hm hb0 hI hth hg huf
  by_cases hin:i<n
  · have il : i < l.length := by have := HN.out; omega
    have g1:l[i]? = some l[i]:=List.getElem?_eq_getElem il
    have hmem:l[i]∈l:=List.getElem_mem il
    generalize l[i]=x at g1 hmem
    rcases E1.out with e | ⟨g,q,e,_,e1⟩
    · cases l with
      | nil=>simp at il
      | cons=>cases e
    obtain rfl:a=⟨g,q,none⟩:=by injection e
    have x1:=dcsIn_get i x e1 g1
    obtain ⟨nm,wd,ps⟩:=x
    obtain ⟨f0,f1,f2⟩:=x1
    have lg:=lt_of_at f0
    simp only at lg
    have hin':(i:Int)<(n:Int):=by omega
    have HCX:Hid (∀ W,Below w.heap.size w W→Calls Tryz.prog 83 #[.agg #[.string nm,.int .i64 wd,.int .i64 ps]] W fun e' w'=>e'=.returned (.agg #[.string nm,.int .i64 wd,.int .i64 ps])∧Below W.heap.size W w'):=fun W hW=>HI.out _ hmem (fitDs_mem HO.out _ hmem) W
    have BX:=HB.out
    have f0:wr.cell? ⟨g,q+i*3,none⟩=some (.string nm):=(BX.cell (p:=⟨g,q+i*3,none⟩) lg).trans f0
    have f1:wr.cell? ⟨g,q+i*3+1,none⟩=some (.int .i64 wd):=(BX.cell (p:=⟨g,q+i*3+1,none⟩) lg).trans f1
    have f2:wr.cell? ⟨g,q+i*3+2,none⟩=some (.int .i64 ps):=(BX.cell (p:=⟨g,q+i*3+2,none⟩) lg).trans f2
    have HGI:=Lib.hid g1
    have HIL:=Lib.hid il
    clear g1 e1 il hmem BX  e
    have O1:=Own.new wr 75 #[.string nm,.int .i64 wd,.int .i64 ps]
    have HBA:=Lib.hid (HB.out.alloc HB.out.size (.cells #[.string nm,.int .i64 wd,.int .i64 ps] 75))
    have HGA:Hid (w.heap.size<(wr.alloc (.cells #[.string nm,.int .i64 wd,.int .i64 ps] 75)).heap.size):=by rw [Hid,World.size_alloc];have:=HG.out;omega
    have HBW:Hid (Below wr.heap.size wr (wr.alloc (.cells #[.string nm,.int .i64 wd,.int .i64 ps] 75))):=(Below.refl _ wr).alloc (Nat.le_refl _) _
    go_wp2_with (refine ld rowDc rfl rfl rfl O1 rfl ?_)
    go_at_call 83
    refine (HCX.out _ HBA.out).mono ?_
    rintro e w3 ⟨rfl,hb3⟩
    have hb13:=HBW.out.trans (hb3.mono HBW.out.size)
    have HTH:=Lib.hid (there_below HTH.out HG.out hb13)
    have hth6:w3.there w.heap.size (i*3) 3:=there_part HTH.out (by omega)
    have HIN2:Hid (dcsIn (w3.setCells w.heap.size (i*3) [.string nm,.int .i64 wd,.int .i64 ps]) (l.take (i+1)) w.heap.size 0):=by
     exact cp_step_D (B2:=w.heap.size+1) (x:=Dc.mk nm wd ps) HIL.out HGI.out (by have:=HN.out;omega) (Nat.le_refl _) HTH.out (dcsIn_mv (B:=w.heap.size+1) (lim:=i*3) (fun o v _ hv=>by rw [hb13.cell (p:=⟨w.heap.size,o,none⟩) HG.out];exact hv) (chg_below hb13) _ 0 (by rw [List.length_take];omega) HIN.out)
    have HUF2:Hid (Uf (w3.setCells w.heap.size (i*3) [.string nm,.int .i64 wd,.int .i64 ps]) w.heap.size):=uf_setCells _ _ _ (uf_below HUF.out hb13 HG.out)
    have HTH2:=Lib.hid (there_setCells2 HTH.out (i*3) [.string nm,.int .i64 wd,.int .i64 ps])
    have HB2:=Lib.hid (below_setCells (Nat.le_refl w.heap.size) [.string nm,.int .i64 wd,.int .i64 ps] (i*3) _ (HBA.out.trans (hb3.mono HBA.out.size)))
    have HG2:Hid (w.heap.size<(w3.setCells w.heap.size (i*3) [.string nm,.int .i64 wd,.int .i64 ps]).heap.size):=by rw [Hid,size_setCells];exact Nat.lt_of_lt_of_le HGA.out hb3.size
    obtain ⟨W4,hW4⟩:∃ W4,W4=w3.setCells w.heap.size (i*3) [.string nm,.int .i64 wd,.int .i64 ps]:=⟨_,rfl⟩
    rw [← hW4] at HIN2 HUF2 HTH2 HB2 HG2
    have HW4:Hid (w3.setCells w.heap.size (i*3) (#[.string nm,.int .i64 wd,.int .i64 ps]:Array Value).toList=W4):=hW4.symm
    clear hW4
    have HONE:Hid ((#[.string nm,.int .i64 wd,.int .i64 ps]:Array Value).all (·.oneCell')=true):=by rw [Hid];simp [Value.oneCell']
    clear hb3 hb13 O1
    go_wp2_with (refine wpList_store_mid rfl 75 _ _ rfl w.heap.size (i*3) #[.string nm,.int .i64 wd,.int .i64 ps] rfl rfl hth6 sizeDc HONE.out ?_;rw [HW4.out])
    go_roundg (n-(i+1)+1)
    case measure=>have:=HM.out;omega
    case rel=>exact ⟨i+1,rfl,by omega,by omega,HIN2.out,HUF2.out,HTH2.out,HG2.out,HB2.out⟩
  · have : i = n := by omega
    subst this
    have HFIN:Hid (dcsAt (Rf w.heap.size wr) wr l (some ⟨w.heap.size,0,none⟩)):=by
     have:=HIN.out
     rw [List.take_of_length_le (by have:=HN.out;omega)] at this
     exact .inr ⟨_,0,rfl,⟨Nat.le_refl _,HUF.out⟩,this⟩
    go_wp2_with fail
    go_ret
    exact ⟨_,_,rfl,HFIN.out,HB.out⟩
theorem cp_each_S {l:List St} (HI:∀ x∈l,CpS x):CpSs l:=by
 intro HO hl a c w h1
 cases a with
 | none =>
   have hnil:l=[]:=by
    rcases h1 with h | ⟨g,q,h,_⟩
    · cases l with | nil=>rfl | cons=>cases h
    · cases h
   subst hnil
   have hq:=fun (w:World)=>Lib.run_eql_slice_nil (P:=Tryz.prog) w 58 78 none 0 c 0 0 Tryz.underlying58
   simp only [Option.isNone_none] at hq
   clear hl HI HO h1
   go_enter Tryz.func109,Tryz.ntmps109
   go_wp2_with fail
   go_ret
   exact ⟨none,0,rfl,.inl rfl,Below.refl _ w⟩
 | some a =>
 have HI:=Lib.hid HI
 have HO:=Lib.hid HO
 have E1:=Lib.hid h1
 obtain ⟨n,hn⟩:∃ n,n=l.length:=⟨_,rfl⟩
 rw [← hn] at hl ⊢
 have HN:=Lib.hid hn
 clear h1 hn
 obtain ⟨i0,hi,hi0,hi1,hi2⟩:=info_parts infoSt
 have hq:=fun (w:World)=>Lib.run_eql_slice_nil (P:=Tryz.prog) w 58 78 (some a) n c 0 0 Tryz.underlying58
 simp only [Option.isNone_some] at hq
 go_enter Tryz.func109,Tryz.ntmps109
 go_wp2_with (refine wpList_make_full w rfl _ _ 58 rfl w.heap.size 78 i0 (.agg zSt) 7 Tryz.underlying58 hi hi0 hi1 .i64 .i64 n n n rfl rfl rfl rfl (by rw [hi2];omega) (by unfold maxLen;omega) (Nat.le_refl _) ?_;intro w1 hown hgrow)
 have HG:=Lib.hid (made_lt hown)
 have HTH:=Lib.hid (there_made hown)
 have HUF:=Lib.hid (uf_made hown)
 have HB:=Lib.hid ((Below.refl w.heap.size w).grown hgrow (Nat.le_refl _) (fun k h=>by cases h))
 clear hown hgrow hi hi0 hi1 hi2 hq
 go_loopg [15] (n+1) (fun m' u W=>∃ i:Nat,u=.int .i64 (i:Int)∧i≤n∧m'=n-i+1∧stsIn (Rf (w.heap.size+1) W) W (l.take i) w.heap.size 0∧Uf W w.heap.size∧W.there w.heap.size 0 (n*7)∧w.heap.size<W.heap.size∧Below w.heap.size w W)
 case atStart=>exact ⟨0,rfl,Nat.zero_le _,by omega,trivial,HUF.out,HTH.out,HG.out,HB.out⟩
 case round =>
  clear HG HTH HB HUF
  obtain ⟨i,rfl,hi,hm,hI,huf,hth,hg,hb0⟩:=hrel
  have HUF:=Lib.hid huf
  have HM:=Lib.hid hm
  have HIN:=Lib.hid hI
  have HTH:=Lib.hid hth
  have HG:=Lib.hid hg
  have HB:=Lib.hid hb0
  clear hm hb0 hI hth hg huf
  by_cases hin:i<n
  · have il : i < l.length := by have := HN.out; omega
    have g1:l[i]? = some l[i]:=List.getElem?_eq_getElem il
    have hmem:l[i]∈l:=List.getElem_mem il
    generalize l[i]=x at g1 hmem
    rcases E1.out with e | ⟨g,q,e,_,e1⟩
    · cases l with
      | nil=>simp at il
      | cons=>cases e
    obtain rfl:a=⟨g,q,none⟩:=by injection e
    have x1:=stsIn_get i x e1 g1
    obtain ⟨k,nm,ot,es,bo,el,ps⟩:=x
    obtain ⟨f0,f1,f2,⟨a3,c3,f3,w0⟩,⟨a4,c4,f4,w1⟩,⟨a5,c5,f5,w2⟩,f6⟩:=x1
    have lg:=lt_of_at f0
    simp only at lg
    have hin':(i:Int)<(n:Int):=by omega
    have HCX:Hid (∀ W,Below w.heap.size w W→Calls Tryz.prog 110 #[.agg #[.int .u8 k,.string nm,.string ot,.slice a3 es.length c3,.slice a4 bo.length c4,.slice a5 el.length c5,.int .i64 ps]] W fun e' w'=>∃ a3' c3' a4' c4' a5' c5',e'=.returned (.agg #[.int .u8 k,.string nm,.string ot,.slice a3' es.length c3',.slice a4' bo.length c4',.slice a5' el.length c5',.int .i64 ps])∧exsAt (Rf W.heap.size w') w' es a3'∧stsAt (Rf W.heap.size w') w' bo a4'∧stsAt (Rf W.heap.size w') w' el a5'∧Below W.heap.size W w'):=fun W hW=>HI.out _ hmem (fitSs_mem HO.out _ hmem) a3 c3 a4 c4 a5 c5 W (exsAt_below w0 hW) (stsAt_below w1 hW) (stsAt_below w2 hW)
    have BX:=HB.out
    have f0:wr.cell? ⟨g,q+i*7,none⟩=some (.int .u8 k):=(BX.cell (p:=⟨g,q+i*7,none⟩) lg).trans f0
    have f1:wr.cell? ⟨g,q+i*7+1,none⟩=some (.string nm):=(BX.cell (p:=⟨g,q+i*7+1,none⟩) lg).trans f1
    have f2:wr.cell? ⟨g,q+i*7+2,none⟩=some (.string ot):=(BX.cell (p:=⟨g,q+i*7+2,none⟩) lg).trans f2
    have f3:wr.cell? ⟨g,q+i*7+3,none⟩=some (.slice a3 es.length c3):=(BX.cell (p:=⟨g,q+i*7+3,none⟩) lg).trans f3
    have f4:wr.cell? ⟨g,q+i*7+4,none⟩=some (.slice a4 bo.length c4):=(BX.cell (p:=⟨g,q+i*7+4,none⟩) lg).trans f4
    have f5:wr.cell? ⟨g,q+i*7+5,none⟩=some (.slice a5 el.length c5):=(BX.cell (p:=⟨g,q+i*7+5,none⟩) lg).trans f5
    have f6:wr.cell? ⟨g,q+i*7+6,none⟩=some (.int .i64 ps):=(BX.cell (p:=⟨g,q+i*7+6,none⟩) lg).trans f6
    have HGI:=Lib.hid g1
    have HIL:=Lib.hid il
    clear g1 e1 il hmem BX w0 w1 w2 e
    obtain ⟨n5,hn5⟩:∃ n,n=es.length:=⟨_,rfl⟩
    rw [← hn5] at HCX f3
    have HN5:=Lib.hid hn5
    clear hn5
    obtain ⟨n6,hn6⟩:∃ n,n=bo.length:=⟨_,rfl⟩
    rw [← hn6] at HCX f4
    have HN6:=Lib.hid hn6
    clear hn6
    obtain ⟨n7,hn7⟩:∃ n,n=el.length:=⟨_,rfl⟩
    rw [← hn7] at HCX f5
    have HN7:=Lib.hid hn7
    clear hn7
    have O1:=Own.new wr 78 #[.int .u8 k,.string nm,.string ot,.slice a3 n5 c3,.slice a4 n6 c4,.slice a5 n7 c5,.int .i64 ps]
    have HBA:=Lib.hid (HB.out.alloc HB.out.size (.cells #[.int .u8 k,.string nm,.string ot,.slice a3 n5 c3,.slice a4 n6 c4,.slice a5 n7 c5,.int .i64 ps] 78))
    have HGA:Hid (w.heap.size<(wr.alloc (.cells #[.int .u8 k,.string nm,.string ot,.slice a3 n5 c3,.slice a4 n6 c4,.slice a5 n7 c5,.int .i64 ps] 78)).heap.size):=by rw [Hid,World.size_alloc];have:=HG.out;omega
    have HBW:Hid (Below wr.heap.size wr (wr.alloc (.cells #[.int .u8 k,.string nm,.string ot,.slice a3 n5 c3,.slice a4 n6 c4,.slice a5 n7 c5,.int .i64 ps] 78))):=(Below.refl _ wr).alloc (Nat.le_refl _) _
    go_wp2_with (refine ld rowSt rfl rfl rfl O1 rfl ?_)
    go_at_call 110
    refine (HCX.out _ HBA.out).mono ?_
    rintro e w3 ⟨a3',c3',a4',c4',a5',c5',rfl,hx0,hx1,hx2,hb3⟩
    have hb13:=HBW.out.trans (hb3.mono HBW.out.size)
    have HTH:=Lib.hid (there_below HTH.out HG.out hb13)
    have hth6:w3.there w.heap.size (i*7) 7:=there_part HTH.out (by omega)
    have HIN2:Hid (stsIn (Rf (w.heap.size+1) (w3.setCells w.heap.size (i*7) [.int .u8 k,.string nm,.string ot,.slice a3' n5 c3',.slice a4' n6 c4',.slice a5' n7 c5',.int .i64 ps])) (w3.setCells w.heap.size (i*7) [.int .u8 k,.string nm,.string ot,.slice a3' n5 c3',.slice a4' n6 c4',.slice a5' n7 c5',.int .i64 ps]) (l.take (i+1)) w.heap.size 0):=by
     rw [Hid,HN5.out,HN6.out,HN7.out];exact cp_step_S (x:=St.mk k nm ot es bo el ps) HIL.out HGI.out (by have:=HN.out;omega) HGA.out HTH.out (stsIn_mv (B:=w.heap.size+1) (lim:=i*7) (fun o v _ hv=>by rw [hb13.cell (p:=⟨w.heap.size,o,none⟩) HG.out];exact hv) (chg_below hb13) _ 0 (by rw [List.length_take];omega) HIN.out) hx0 hx1 hx2
    have HUF2:Hid (Uf (w3.setCells w.heap.size (i*7) [.int .u8 k,.string nm,.string ot,.slice a3' n5 c3',.slice a4' n6 c4',.slice a5' n7 c5',.int .i64 ps]) w.heap.size):=uf_setCells _ _ _ (uf_below HUF.out hb13 HG.out)
    have HTH2:=Lib.hid (there_setCells2 HTH.out (i*7) [.int .u8 k,.string nm,.string ot,.slice a3' n5 c3',.slice a4' n6 c4',.slice a5' n7 c5',.int .i64 ps])
    have HB2:=Lib.hid (below_setCells (Nat.le_refl w.heap.size) [.int .u8 k,.string nm,.string ot,.slice a3' n5 c3',.slice a4' n6 c4',.slice a5' n7 c5',.int .i64 ps] (i*7) _ (HBA.out.trans (hb3.mono HBA.out.size)))
    have HG2:Hid (w.heap.size<(w3.setCells w.heap.size (i*7) [.int .u8 k,.string nm,.string ot,.slice a3' n5 c3',.slice a4' n6 c4',.slice a5' n7 c5',.int .i64 ps]).heap.size):=by rw [Hid,size_setCells];exact Nat.lt_of_lt_of_le HGA.out hb3.size
    obtain ⟨W4,hW4⟩:∃ W4,W4=w3.setCells w.heap.size (i*7) [.int .u8 k,.string nm,.string ot,.slice a3' n5 c3',.slice a4' n6 c4',.slice a5' n7 c5',.int .i64 ps]:=⟨_,rfl⟩
    rw [← hW4] at HIN2 HUF2 HTH2 HB2 HG2
    have HW4:Hid (w3.setCells w.heap.size (i*7) (#[.int .u8 k,.string nm,.string ot,.slice a3' n5 c3',.slice a4' n6 c4',.slice a5' n7 c5',.int .i64 ps]:Array Value).toList=W4):=hW4.symm
    clear hW4
    have HONE:Hid ((#[.int .u8 k,.string nm,.string ot,.slice a3' n5 c3',.slice a4' n6 c4',.slice a5' n7 c5',.int .i64 ps]:Array Value).all (·.oneCell')=true):=by rw [Hid];simp [Value.oneCell']
    clear hb3 hb13 O1 hx0 hx1 hx2
    go_wp2_with (refine wpList_store_mid rfl 78 _ _ rfl w.heap.size (i*7) #[.int .u8 k,.string nm,.string ot,.slice a3' n5 c3',.slice a4' n6 c4',.slice a5' n7 c5',.int .i64 ps] rfl rfl hth6 sizeSt HONE.out ?_;rw [HW4.out])
    go_roundg (n-(i+1)+1)
    case measure=>have:=HM.out;omega
    case rel=>exact ⟨i+1,rfl,by omega,by omega,HIN2.out,HUF2.out,HTH2.out,HG2.out,HB2.out⟩
  · have : i = n := by omega
    subst this
    have HFIN:Hid (stsAt (Rf w.heap.size wr) wr l (some ⟨w.heap.size,0,none⟩)):=by
     have:=HIN.out
     rw [List.take_of_length_le (by have:=HN.out;omega)] at this
     exact .inr ⟨_,0,rfl,⟨Nat.le_refl _,HUF.out⟩,stsIn_mono this⟩
    go_wp2_with fail
    go_ret
    exact ⟨_,_,rfl,HFIN.out,HB.out⟩
theorem cp_each_T {l:List Th} (HI:∀ x∈l,CpT x):CpTs l:=by
 intro HO hl a c w h1
 cases a with
 | none =>
   have hnil:l=[]:=by
    rcases h1 with h | ⟨g,q,h,_⟩
    · cases l with | nil=>rfl | cons=>cases h
    · cases h
   subst hnil
   have hq:=fun (w:World)=>Lib.run_eql_slice_nil (P:=Tryz.prog) w 23 60 none 0 c 0 0 Tryz.underlying23
   simp only [Option.isNone_none] at hq
   clear hl HI HO h1
   go_enter Tryz.func84,Tryz.ntmps84
   go_wp2_with fail
   go_ret
   exact ⟨none,0,rfl,.inl rfl,Below.refl _ w⟩
 | some a =>
 have HI:=Lib.hid HI
 have HO:=Lib.hid HO
 have E1:=Lib.hid h1
 obtain ⟨n,hn⟩:∃ n,n=l.length:=⟨_,rfl⟩
 rw [← hn] at hl ⊢
 have HN:=Lib.hid hn
 clear h1 hn
 obtain ⟨i0,hi,hi0,hi1,hi2⟩:=info_parts infoTh
 have hq:=fun (w:World)=>Lib.run_eql_slice_nil (P:=Tryz.prog) w 23 60 (some a) n c 0 0 Tryz.underlying23
 simp only [Option.isNone_some] at hq
 go_enter Tryz.func84,Tryz.ntmps84
 go_wp2_with (refine wpList_make_full w rfl _ _ 23 rfl w.heap.size 60 i0 (.agg zTh) 4 Tryz.underlying23 hi hi0 hi1 .i64 .i64 n n n rfl rfl rfl rfl (by rw [hi2];omega) (by unfold maxLen;omega) (Nat.le_refl _) ?_;intro w1 hown hgrow)
 have HG:=Lib.hid (made_lt hown)
 have HTH:=Lib.hid (there_made hown)
 have HUF:=Lib.hid (uf_made hown)
 have HB:=Lib.hid ((Below.refl w.heap.size w).grown hgrow (Nat.le_refl _) (fun k h=>by cases h))
 clear hown hgrow hi hi0 hi1 hi2 hq
 go_loopg [15] (n+1) (fun m' u W=>∃ i:Nat,u=.int .i64 (i:Int)∧i≤n∧m'=n-i+1∧thsIn (Rf (w.heap.size+1) W) W (l.take i) w.heap.size 0∧Uf W w.heap.size∧W.there w.heap.size 0 (n*4)∧w.heap.size<W.heap.size∧Below w.heap.size w W)
 case atStart=>exact ⟨0,rfl,Nat.zero_le _,by omega,trivial,HUF.out,HTH.out,HG.out,HB.out⟩
 case round =>
  clear HG HTH HB HUF
  obtain ⟨i,rfl,hi,hm,hI,huf,hth,hg,hb0⟩:=hrel
  have HUF:=Lib.hid huf
  have HM:=Lib.hid hm
  have HIN:=Lib.hid hI
  have HTH:=Lib.hid hth
  have HG:=Lib.hid hg
  have HB:=Lib.hid hb0
  clear hm hb0 hI hth hg huf
  by_cases hin:i<n
  · have il : i < l.length := by have := HN.out; omega
    have g1:l[i]? = some l[i]:=List.getElem?_eq_getElem il
    have hmem:l[i]∈l:=List.getElem_mem il
    generalize l[i]=x at g1 hmem
    rcases E1.out with e | ⟨g,q,e,_,e1⟩
    · cases l with
      | nil=>simp at il
      | cons=>cases e
    obtain rfl:a=⟨g,q,none⟩:=by injection e
    have x1:=thsIn_get i x e1 g1
    obtain ⟨nm,lo,bo,ps⟩:=x
    obtain ⟨f0,⟨a1,c1,f1,w0⟩,⟨a2,c2,f2,w1⟩,f3⟩:=x1
    have lg:=lt_of_at f0
    simp only at lg
    have hin':(i:Int)<(n:Int):=by omega
    have HCX:Hid (∀ W,Below w.heap.size w W→Calls Tryz.prog 85 #[.agg #[.string nm,.slice a1 lo.length c1,.slice a2 bo.length c2,.int .i64 ps]] W fun e' w'=>∃ a1' c1' a2' c2',e'=.returned (.agg #[.string nm,.slice a1' lo.length c1',.slice a2' bo.length c2',.int .i64 ps])∧dcsAt (Rf W.heap.size w') w' lo a1'∧stsAt (Rf W.heap.size w') w' bo a2'∧Below W.heap.size W w'):=fun W hW=>HI.out _ hmem (fitTs_mem HO.out _ hmem) a1 c1 a2 c2 W (dcsAt_below w0 hW) (stsAt_below w1 hW)
    have BX:=HB.out
    have f0:wr.cell? ⟨g,q+i*4,none⟩=some (.string nm):=(BX.cell (p:=⟨g,q+i*4,none⟩) lg).trans f0
    have f1:wr.cell? ⟨g,q+i*4+1,none⟩=some (.slice a1 lo.length c1):=(BX.cell (p:=⟨g,q+i*4+1,none⟩) lg).trans f1
    have f2:wr.cell? ⟨g,q+i*4+2,none⟩=some (.slice a2 bo.length c2):=(BX.cell (p:=⟨g,q+i*4+2,none⟩) lg).trans f2
    have f3:wr.cell? ⟨g,q+i*4+3,none⟩=some (.int .i64 ps):=(BX.cell (p:=⟨g,q+i*4+3,none⟩) lg).trans f3
    have HGI:=Lib.hid g1
    have HIL:=Lib.hid il
    clear g1 e1 il hmem BX w0 w1 e
    obtain ⟨n5,hn5⟩:∃ n,n=lo.length:=⟨_,rfl⟩
    rw [← hn5] at HCX f1
    have HN5:=Lib.hid hn5
    clear hn5
    obtain ⟨n6,hn6⟩:∃ n,n=bo.length:=⟨_,rfl⟩
    rw [← hn6] at HCX f2
    have HN6:=Lib.hid hn6
    clear hn6
    have O1:=Own.new wr 60 #[.string nm,.slice a1 n5 c1,.slice a2 n6 c2,.int .i64 ps]
    have HBA:=Lib.hid (HB.out.alloc HB.out.size (.cells #[.string nm,.slice a1 n5 c1,.slice a2 n6 c2,.int .i64 ps] 60))
    have HGA:Hid (w.heap.size<(wr.alloc (.cells #[.string nm,.slice a1 n5 c1,.slice a2 n6 c2,.int .i64 ps] 60)).heap.size):=by rw [Hid,World.size_alloc];have:=HG.out;omega
    have HBW:Hid (Below wr.heap.size wr (wr.alloc (.cells #[.string nm,.slice a1 n5 c1,.slice a2 n6 c2,.int .i64 ps] 60))):=(Below.refl _ wr).alloc (Nat.le_refl _) _
    go_wp2_with (refine ld rowTh rfl rfl rfl O1 rfl ?_)
    go_at_call 85
    refine (HCX.out _ HBA.out).mono ?_
    rintro e w3 ⟨a1',c1',a2',c2',rfl,hx0,hx1,hb3⟩
    have hb13:=HBW.out.trans (hb3.mono HBW.out.size)
    have HTH:=Lib.hid (there_below HTH.out HG.out hb13)
    have hth6:w3.there w.heap.size (i*4) 4:=there_part HTH.out (by omega)
    have HIN2:Hid (thsIn (Rf (w.heap.size+1) (w3.setCells w.heap.size (i*4) [.string nm,.slice a1' n5 c1',.slice a2' n6 c2',.int .i64 ps])) (w3.setCells w.heap.size (i*4) [.string nm,.slice a1' n5 c1',.slice a2' n6 c2',.int .i64 ps]) (l.take (i+1)) w.heap.size 0):=by
     rw [Hid,HN5.out,HN6.out];exact cp_step_T (x:=Th.mk nm lo bo ps) HIL.out HGI.out (by have:=HN.out;omega) HGA.out HTH.out (thsIn_mv (B:=w.heap.size+1) (lim:=i*4) (fun o v _ hv=>by rw [hb13.cell (p:=⟨w.heap.size,o,none⟩) HG.out];exact hv) (chg_below hb13) _ 0 (by rw [List.length_take];omega) HIN.out) hx0 hx1
    have HUF2:Hid (Uf (w3.setCells w.heap.size (i*4) [.string nm,.slice a1' n5 c1',.slice a2' n6 c2',.int .i64 ps]) w.heap.size):=uf_setCells _ _ _ (uf_below HUF.out hb13 HG.out)
    have HTH2:=Lib.hid (there_setCells2 HTH.out (i*4) [.string nm,.slice a1' n5 c1',.slice a2' n6 c2',.int .i64 ps])
    have HB2:=Lib.hid (below_setCells (Nat.le_refl w.heap.size) [.string nm,.slice a1' n5 c1',.slice a2' n6 c2',.int .i64 ps] (i*4) _ (HBA.out.trans (hb3.mono HBA.out.size)))
    have HG2:Hid (w.heap.size<(w3.setCells w.heap.size (i*4) [.string nm,.slice a1' n5 c1',.slice a2' n6 c2',.int .i64 ps]).heap.size):=by rw [Hid,size_setCells];exact Nat.lt_of_lt_of_le HGA.out hb3.size
    obtain ⟨W4,hW4⟩:∃ W4,W4=w3.setCells w.heap.size (i*4) [.string nm,.slice a1' n5 c1',.slice a2' n6 c2',.int .i64 ps]:=⟨_,rfl⟩
    rw [← hW4] at HIN2 HUF2 HTH2 HB2 HG2
    have HW4:Hid (w3.setCells w.heap.size (i*4) (#[.string nm,.slice a1' n5 c1',.slice a2' n6 c2',.int .i64 ps]:Array Value).toList=W4):=hW4.symm
    clear hW4
    have HONE:Hid ((#[.string nm,.slice a1' n5 c1',.slice a2' n6 c2',.int .i64 ps]:Array Value).all (·.oneCell')=true):=by rw [Hid];simp [Value.oneCell']
    clear hb3 hb13 O1 hx0 hx1
    go_wp2_with (refine wpList_store_mid rfl 60 _ _ rfl w.heap.size (i*4) #[.string nm,.slice a1' n5 c1',.slice a2' n6 c2',.int .i64 ps] rfl rfl hth6 sizeTh HONE.out ?_;rw [HW4.out])
    go_roundg (n-(i+1)+1)
    case measure=>have:=HM.out;omega
    case rel=>exact ⟨i+1,rfl,by omega,by omega,HIN2.out,HUF2.out,HTH2.out,HG2.out,HB2.out⟩
  · have : i = n := by omega
    subst this
    have HFIN:Hid (thsAt (Rf w.heap.size wr) wr l (some ⟨w.heap.size,0,none⟩)):=by
     have:=HIN.out
     rw [List.take_of_length_le (by have:=HN.out;omega)] at this
     exact .inr ⟨_,0,rfl,⟨Nat.le_refl _,HUF.out⟩,thsIn_mono this⟩
    go_wp2_with fail
    go_ret
    exact ⟨_,_,rfl,HFIN.out,HB.out⟩
end Go.Proofs.YtimccjlhhjjcpaaGreatDoor

/- The proof, part 25: texts that belong together, in one. -/
import Derived.Test.YtkheldgmpgefiaaGreatDoorWAX
import Derived.Test.YtkheldgmpgefiaaGreatDoorWAS
import Derived.Test.YtkheldgmpgefiaaGreatDoorWAO
set_option maxRecDepth 100000
set_option maxHeartbeats 20000000
namespace Go.Proofs.YtkheldgmpgefiaaGreatDoor
open Go.RowKit
set_option linter.unusedVariables false
def StpP (x:Pg) (w:World) (e:Ending) (w':World):Prop:=∃ s1 t1 s2 t2 s3 t3,e=.returned (.agg #[.slice s1 x.shared.length t1,.slice s2 x.locks.length t2,.slice s3 x.threads.length t3])∧dcsAt (Rf w.heap.size w') w' (x.shared.map Dc.bare) s1∧dcsAt (Rf w.heap.size w') w' (x.locks.map Dc.bare) s2∧thsAt (Rf w.heap.size w') w' (x.threads.map Th.bare) s3∧Below w.heap.size w w'
theorem p_Strip (x:Pg) (hf:fitP x) (hok:okP x) {v:Value} {w:World} (hv:pA w x v):Calls Tryz.prog 15 #[v] w (StpP x w):=by
 have HCP:Hid (∀ W,Below w.heap.size w W→Calls Tryz.prog 45 #[v] W (CpyP x W)):=fun W hW=>p_CopyF x hf (pA_below hv hW)
 have HEP:Hid (∀ (W:World) s1 t1 s2 t2 s3 t3,w.heap.size+2≤W.heap.size→dcsAt (Rz (w.heap.size+2) W) W x.shared s1→dcsAt (Rz (w.heap.size+2) W) W x.locks s2→thsAt (Rz (w.heap.size+2) W) W x.threads s3→Calls Tryz.prog 26 #[.agg #[.slice s1 x.shared.length t1,.slice s2 x.locks.length t2,.slice s3 x.threads.length t3],.func (.func 46) #[] #[]] W fun e w'=>e=.returned (.tuple #[])∧∃ V,Zp (w.heap.size+2) W V w'∧dcsAt (Rf (w.heap.size+2) w') w' (x.shared.map Dc.bare) s1∧dcsAt (Rf (w.heap.size+2) w') w' (x.locks.map Dc.bare) s2∧thsAt (Rf (w.heap.size+2) w') w' (x.threads.map Th.bare) s3):=fun W s1 t1 s2 t2 s3 t3 hl h1 h2 h3 =>
  (p_eachPart (vp_zp (w.heap.size+2) W) hok h1 h2 h3 (zp_nil hl)).mono fun e w' h=>⟨h.1,_,h.2,dcsAt_zp h.2 h1 (fun z hz=>by simp [hz]),dcsAt_zp h.2 h2 (fun z hz=>by simp [hz]),thsAt_zp h.2 h3 (fun z hz=>by simp [hz])⟩
 obtain ⟨a1,c1,a2,c2,a3,c3,rfl,_⟩:=hv
 show Calls _ _ _ _ (fun e w'=>∃ s1 t1 s2 t2 s3 t3,e=.returned (.agg #[.slice s1 x.shared.length t1,.slice s2 x.locks.length t2,.slice s3 x.threads.length t3])∧dcsAt (Rf w.heap.size w') w' (x.shared.map Dc.bare) s1∧dcsAt (Rf w.heap.size w') w' (x.locks.map Dc.bare) s2∧thsAt (Rf w.heap.size w') w' (x.threads.map Th.bare) s3∧Below w.heap.size w w')
 unfold CpyP at HCP
 generalize x.shared.length=n1 at *
 generalize x.locks.length=n2 at *
 generalize x.threads.length=n3 at *
 have HX:=Lib.hid (bx_new w 25 #[.slice a1 n1 c1,.slice a2 n2 c2,.slice a3 n3 c3] zPg)
 obtain ⟨W0,hW0⟩:∃ W,W=(w.alloc (.cells #[.slice a1 n1 c1,.slice a2 n2 c2,.slice a3 n3 c3] 25)).alloc (.cells zPg 25):=⟨_,rfl⟩
 rw [← hW0] at HX
 have HW0:=Lib.hid hW0
 clear hW0 hf hok
 go_enter Tryz.func15,Tryz.ntmps15
 go_upto_region 1 with (fail)
 rw [show (#[.slice none 0 0,.slice none 0 0,.slice none 0 0]:Array Value)=zPg from rfl,← HW0.out]
 have O1:=HX.out.1
 go_wp2_with (refine ld rowPg rfl rfl rfl O1 rfl ?_)
 go_at_call 45
 refine (HCP.out _ HX.out.2.2).mono ?_
 rintro e w2 ⟨s1,t1,s2,t2,s3,t3,rfl,e1,e2,e3,hb⟩
 have HX2:=Lib.hid (bx_below HX.out hb)
 have hlt:=bx_gt HX.out
 have hs2:w.heap.size+2≤w2.heap.size:=by have:=hb.size;omega
 have O3:=Own.new w2 25 #[.slice none 0 0,.slice none 0 0,.slice none 0 0]
 have B3:Below w2.heap.size w2 ((w2.alloc (.cells #[.slice none 0 0,.slice none 0 0,.slice none 0 0] 25)).setRow w2.heap.size #[.slice s1 n1 t1,.slice s2 n2 t2,.slice s3 n3 t3]):=Below.of_row ((Below.refl _ w2).alloc (Nat.le_refl _) _) (Nat.le_refl _) _
 have R3:=O3.row #[.slice s1 n1 t1,.slice s2 n2 t2,.slice s3 n3 t3]
 have HX3:=Lib.hid (bx_below HX2.out B3)
 obtain ⟨W3,hW3⟩:∃ W,W=(w2.alloc (.cells #[.slice none 0 0,.slice none 0 0,.slice none 0 0] 25)).setRow w2.heap.size #[.slice s1 n1 t1,.slice s2 n2 t2,.slice s3 n3 t3]:=⟨_,rfl⟩
 rw [← hW3] at B3 R3 HX3
 have B3':=B3
 have HW3:=Lib.hid hW3
 have HZ1:Hid (dcsAt (Rz (w.heap.size+2) W3) W3 x.shared s1):=dcsAt_stays (Stays.refl _ _) (fun b hb=>rz_of (B':=w.heap.size+2) (Nat.le_refl _) ⟨⟨hb.1.1,hb.1.2⟩,hb.2⟩) (dcsAt_in (dcsAt_rf e1 (chg_below B3) (by omega)))
 have HZ2:Hid (dcsAt (Rz (w.heap.size+2) W3) W3 x.locks s2):=dcsAt_stays (Stays.refl _ _) (fun b hb=>rz_of (B':=w.heap.size+2) (Nat.le_refl _) ⟨⟨hb.1.1,hb.1.2⟩,hb.2⟩) (dcsAt_in (dcsAt_rf e2 (chg_below B3) (by omega)))
 have HZ3:Hid (thsAt (Rz (w.heap.size+2) W3) W3 x.threads s3):=thsAt_stays (Stays.refl _ _) (fun b hb=>rz_of (B':=w.heap.size+2) (Nat.le_refl _) ⟨⟨hb.1.1,hb.1.2⟩,hb.2⟩) (thsAt_in (thsAt_rf e3 (chg_below B3) (by omega)))
 have HG:=Lib.hid R3
 have HS2:Hid (w.heap.size+2≤W3.heap.size):=Nat.le_trans hs2 B3'.size
 clear hW3 hb e1 e2 e3 HX HX2 O1 B3 B3' HCP hlt hs2 R3
 go_upto_region 2 with (refine st rowPg rfl rfl O3 rfl rfl (by rfl) (by rfl) (by kernel_rfl) ?_)
 rw [← HW3.out]
 clear HW3 O3
 have R3:=HG.out
 go_wp2_with (refine ld rowPg rfl rfl rfl R3 rfl ?_)
 go_at_call 26
 refine (HEP.out _ _ _ _ _ _ _ HS2.out HZ1.out HZ2.out HZ3.out).mono ?_
 rintro e w4 ⟨rfl,V,hz,k1,k2,k3⟩
 have hno:∀ (o:Nat) (n:Int),(#[.slice s1 n1 t1,.slice s2 n2 t2,.slice s3 n3 t3]:Array Value)[o]? ≠ some (.int .i64 n):=fun o n h=>by
  match o,h with
  | 0,h=>cases h
  | 1,h=>cases h
  | 2,h=>cases h
  | o+3,h=>simp at h
 have hno2:∀ (o:Nat) (n:Int),(zPg:Array Value)[o]? ≠ some (.int .i64 n):=fun o n h=>by
  match o,h with
  | 0,h=>cases h
  | 1,h=>cases h
  | 2,h=>cases h
  | o+3,h=>simp [zPg] at h
 have P4:=own_zp hz R3 hno
 have Q4:=own_zp hz HX3.out.2.1 hno2
 have HB4:=Lib.hid (HX3.out.2.2.trans (hz.below.mono (by omega)))
 have HK1:=Lib.hid k1
 have HK2:=Lib.hid k2
 have HK3:=Lib.hid k3
 clear hno hno2 hz k1 k2 k3 HZ1 HZ2 HZ3 HX3 R3 HG HEP
 go_wp2_with (first | (refine ld rowPg rfl rfl rfl P4 rfl ?_) | (refine st rowPg rfl rfl Q4 rfl rfl (by rfl) (by rfl) (by kernel_rfl) ?_))
 refine p_ret rowPg rfl (Q4.row #[.slice s1 n1 t1,.slice s2 n2 t2,.slice s3 n3 t3]) rfl rfl rfl ?_
 have hst:Chg (w.heap.size+2) w4 (w4.setRow (w.heap.size+1) #[.slice s1 n1 t1,.slice s2 n2 t2,.slice s3 n3 t3]):=chg_setRow w4 _ (by omega)
 exact ⟨s1,t1,s2,t2,s3,t3,rfl,dcsAt_rf HK1.out hst (by omega),dcsAt_rf HK2.out hst (by omega),thsAt_rf HK3.out hst (by omega),Below.of_row HB4.out (by omega) _⟩
set_option linter.unusedVariables false
def O1 (d:Int) (e:Ex):Prop:=rgE e∧rE e d=true∧(e.kind=4→rE e (d+1)=true)
def B1 (v d:Int) (e:Ex):Prop:=rgE e∧rE e d=true∧(e.kind=4→v≤levelOf e.op∨rE e (d+1)=true)
section
variable {L:Int}
end
open Go.RowKit
set_option linter.unusedVariables false
theorem exsBare_len (l:List Ex):(exsBare l).length=l.length:=by rw [exsBare_map,List.length_map]
theorem stsBare_len (l:List St):(stsBare l).length=l.length:=by rw [stsBare_map,List.length_map]
theorem okEs_bare:∀ l:List Ex,okEs l→okEs (exsBare l):=by
 intro l
 induction l using Exs.ind with
 | h0=>intro _;trivial
 | h1 k o wd nm ks p r ih1 ih2 =>
   intro h
   exact ⟨⟨by rw [exsBare_len];exact h.1.1,ih1 h.1.2⟩,ih2 h.2⟩
theorem okSs_bare:∀ l:List St,okSs l→okSs (stsBare l):=by
 intro l
 induction l using Sts.ind with
 | h0=>intro _;trivial
 | h1 k n o e b l p r ih1 ih2 ih3 =>
   intro h
   obtain ⟨⟨⟨e1,e2⟩,⟨b1,b2⟩,l1,l2⟩,hr⟩:=h
   exact ⟨⟨⟨by rw [exsBare_len];exact e1,okEs_bare _ e2⟩,⟨by rw [stsBare_len];exact b1,ih1 b2⟩,by rw [stsBare_len];exact l1,ih2 l2⟩,ih3 hr⟩
theorem okP_bare {x:Pg} (h:okP x):okP x.bare:=by
 obtain ⟨h1,h2,h3,h4⟩:=h
 refine ⟨by simpa [Pg.bare] using h1,by simpa [Pg.bare] using h2,by simpa [Pg.bare] using h3,fun t ht=>?_⟩
 obtain ⟨u,hu,rfl⟩:=List.mem_map.1 (show t∈x.threads.map Th.bare from ht)
 obtain ⟨k1,k2,k3⟩:=h4 u hu
 exact ⟨by simpa [Th.bare] using k1,by simp only [Th.bare];rw [stsBare_len];exact k2,okSs_bare _ k3⟩
theorem fitEs_bare:∀ l:List Ex,fitEs l→fitEs (exsBare l):=by
 intro l
 induction l using Exs.ind with
 | h0=>intro _;trivial
 | h1 k o wd nm ks p r ih1 ih2 =>
   intro h
   exact ⟨⟨h.1.1,by rw [exsBare_len];exact h.1.2.1,ih1 h.1.2.2⟩,ih2 h.2⟩
theorem fitSs_bare:∀ l:List St,fitSs l→fitSs (stsBare l):=by
 intro l
 induction l using Sts.ind with
 | h0=>intro _;trivial
 | h1 k n o e b l p r ih1 ih2 ih3 =>
   intro h
   obtain ⟨⟨n1,n2,⟨e1,e2⟩,⟨b1,b2⟩,l1,l2⟩,hr⟩:=h
   exact ⟨⟨n1,n2,⟨by rw [exsBare_len];exact e1,fitEs_bare _ e2⟩,⟨by rw [stsBare_len];exact b1,ih1 b2⟩,by rw [stsBare_len];exact l1,ih2 l2⟩,ih3 hr⟩
theorem fitDs_bare {l:List Dc} (h:fitDs l):fitDs (l.map Dc.bare):=fun d hd=>by
 obtain ⟨u,hu,rfl⟩:=List.mem_map.1 hd
 exact h u hu
theorem fitP_bare {x:Pg} (h:fitP x):fitP x.bare:=by
 obtain ⟨⟨h1,h2⟩,⟨h3,h4⟩,h5,h6⟩:=h
 refine ⟨⟨by simpa [Pg.bare] using h1,fitDs_bare h2⟩,⟨by simpa [Pg.bare] using h3,fitDs_bare h4⟩,by simpa [Pg.bare] using h5,fun t ht=>?_⟩
 obtain ⟨u,hu,rfl⟩:=List.mem_map.1 (show t∈x.threads.map Th.bare from ht)
 obtain ⟨k0,⟨k1,k2⟩,k3,k4⟩:=h6 u hu
 exact ⟨k0,⟨by simpa [Th.bare] using k1,fitDs_bare k2⟩,by simp only [Th.bare];rw [stsBare_len];exact k3,fitSs_bare _ k4⟩
open Go.RowKit
set_option linter.unusedVariables false
mutual
def Ex.ren (g:ByteArray→ByteArray):Ex→Ex
 | .mk k o w n ks p=>.mk k o w (if k=2 then g n else n) (exsRen g ks) p
def exsRen (g:ByteArray→ByteArray):List Ex→List Ex
 | []=>[]
 | e::r=>e.ren g::exsRen g r
end
mutual
def St.ren (g:ByteArray→ByteArray):St→St
 | .mk k n o e b l p=>.mk k (g n) (g o) (exsRen g e) (stsRen g b) (stsRen g l) p
def stsRen (g:ByteArray→ByteArray):List St→List St
 | []=>[]
 | e::r=>e.ren g::stsRen g r
end
def Dc.ren (g:ByteArray→ByteArray) (d:Dc):Dc:=⟨g d.name,d.wd,d.pos⟩
def Th.ren (g:ByteArray→ByteArray) (t:Th):Th:=⟨g t.name,t.locals.map (Dc.ren g),stsRen g t.body,t.pos⟩
def Pg.ren (g:ByteArray→ByteArray) (p:Pg):Pg:=⟨p.shared.map (Dc.ren g),p.locks.map (Dc.ren g),p.threads.map (Th.ren g)⟩
mutual
def nmE:Ex→List ByteArray
 | .mk k _ _ n ks _=>(if k=2 then [n] else [])++nmEs ks
def nmEs:List Ex→List ByteArray
 | []=>[]
 | e::r=>nmE e++nmEs r
end
mutual
def nmS:St→List ByteArray
 | .mk _ n o e b l _=>n::o::(nmEs e++(nmSs b++nmSs l))
def nmSs:List St→List ByteArray
 | []=>[]
 | e::r=>nmS e++nmSs r
end
def nmDs (l:List Dc):List ByteArray:=l.map Dc.name
def nmT (t:Th):List ByteArray:=t.name::(nmDs t.locals++nmSs t.body)
def nmTs (l:List Th):List ByteArray:=l.flatMap nmT
def nmP (p:Pg):List ByteArray:=nmDs p.shared++nmDs p.locks++nmTs p.threads
theorem exsRen_map (g:ByteArray→ByteArray):∀ l:List Ex,exsRen g l=l.map (Ex.ren g)
 | []=>rfl
 | x::r=>by rw [exsRen,exsRen_map g r];rfl
theorem stsRen_map (g:ByteArray→ByteArray):∀ l:List St,stsRen g l=l.map (St.ren g)
 | []=>rfl
 | x::r=>by rw [stsRen,stsRen_map g r];rfl
theorem exsRen_len (g:ByteArray→ByteArray) (l:List Ex):(exsRen g l).length=l.length:=by rw [exsRen_map,List.length_map]
theorem stsRen_len (g:ByteArray→ByteArray) (l:List St):(stsRen g l).length=l.length:=by rw [stsRen_map,List.length_map]
section
variable {g h:ByteArray→ByteArray}
theorem bytes_same {a b:ByteArray} (h:(a.data.toList==b.data.toList)=true):a=b:=by
 have h:=eq_of_beq h
 cases a with
 | mk a => cases b with
   | mk b=>congr 1;exact Array.toList_inj.1 h
theorem okEs_ren:∀ l:List Ex,okEs l→okEs (exsRen g l):=by
 intro l
 induction l using Exs.ind with
 | h0=>intro _;trivial
 | h1 k o wd nm ks p r ih1 ih2 =>
   intro h
   exact ⟨⟨by rw [exsRen_len];exact h.1.1,ih1 h.1.2⟩,ih2 h.2⟩
theorem okSs_ren:∀ l:List St,okSs l→okSs (stsRen g l):=by
 intro l
 induction l using Sts.ind with
 | h0=>intro _;trivial
 | h1 k n o e b l p r ih1 ih2 ih3 =>
   intro h
   obtain ⟨⟨⟨e1,e2⟩,⟨b1,b2⟩,l1,l2⟩,hr⟩:=h
   exact ⟨⟨⟨by rw [exsRen_len];exact e1,okEs_ren _ e2⟩,⟨by rw [stsRen_len];exact b1,ih1 b2⟩,by rw [stsRen_len];exact l1,ih2 l2⟩,ih3 hr⟩
theorem okP_ren {x:Pg} (h:okP x):okP (x.ren g):=by
 obtain ⟨h1,h2,h3,h4⟩:=h
 refine ⟨by simpa [Pg.ren] using h1,by simpa [Pg.ren] using h2,by simpa [Pg.ren] using h3,fun t ht=>?_⟩
 obtain ⟨u,hu,rfl⟩:=List.mem_map.1 (show t∈x.threads.map (Th.ren g) from ht)
 obtain ⟨k1,k2,k3⟩:=h4 u hu
 exact ⟨by simpa [Th.ren] using k1,by simp only [Th.ren];rw [stsRen_len];exact k2,okSs_ren _ k3⟩
theorem rEs_len:∀ l:List Ex,(rEs l).length=l.length
 | []=>rfl
 | x::r=>by simp [rEs,rEs_len r]
end
def gR (f t s:ByteArray):ByteArray:=if s=f∧s≠⟨#[]⟩ then t else s
theorem gR_empty (f t:ByteArray):gR f t ⟨#[]⟩=⟨#[]⟩:=if_neg (fun h=>h.2 rfl)
theorem name_nonempty {s:ByteArray} (h:nameB s=true):s≠⟨#[]⟩:=fun e=>by subst e;revert h;decide
open Go.RowKit
set_option linter.unusedVariables false
def NL (L:List ByteArray) (l:List (List UInt8)):Prop:=l.Pairwise (· < ·)∧∀ s,s∈l↔s≠[]∧(⟨s.toArray⟩:ByteArray)∈L
theorem lt_irr (a:List UInt8):¬ a<a:=List.lt_irrefl a
theorem bytes_back (b:ByteArray):(⟨b.data.toList.toArray⟩:ByteArray)=b:=by cases b;simp
theorem nl_mem {L:List ByteArray} {l:List (List UInt8)} (hl:NL L l) {f:ByteArray} (hf:f≠⟨#[]⟩):f.data.toList∈l↔f∈L:=by
 rw [hl.2,bytes_back]
 refine ⟨fun h=>h.2,fun h=>⟨fun e=>hf (by rw [← bytes_back f,e]),h⟩⟩
theorem nl_one {L:List ByteArray} : ∀ {l m:List (List UInt8)},l.Pairwise (· < ·)→m.Pairwise (· < ·)→(∀ s,s∈l↔s∈m)→l=m
 | [],[],_,_,_=>rfl
 | [],y::s,_,_,h=>by have:=(h y).2 (.head _);cases this
 | x::r,[],_,_,h=>by have:=(h x).1 (.head _);cases this
 | x :: r, y :: s, h1, h2, h => by
   have k1:=List.pairwise_cons.1 h1
   have k2:=List.pairwise_cons.1 h2
   have e:x=y:=by
    rcases List.mem_cons.1 ((h x).1 (.head _)) with e | hx
    · exact e
    · rcases List.mem_cons.1 ((h y).2 (.head _)) with e | hy
      · exact e.symm
      · exact absurd (List.lt_trans (k2.1 x hx) (k1.1 y hy)) (lt_irr _)
   subst e
   congr 1
   refine nl_one (L:=L) k1.2 k2.2 fun z=>⟨fun hz=>?_,fun hz=>?_⟩
   · rcases List.mem_cons.1 ((h z).1 (.tail _ hz)) with e | h'
     · subst e;exact absurd (k1.1 z hz) (lt_irr _)
     · exact h'
   · rcases List.mem_cons.1 ((h z).2 (.tail _ hz)) with e | h'
     · subst e;exact absurd (k2.1 z hz) (lt_irr _)
     · exact h'
open Go.RowKit
set_option linter.unusedVariables false
structure Zn (B:Nat) (w0:World) (f:ByteArray→ByteArray) (L:List Addr) (W:World):Prop where
 low:B≤w0.heap.size
 below:Below B w0 W
 free:∀ b,Rz B w0 b→Uf W b
 ok:∀ a∈L,Rz B w0 a.block∧a.spot=none∧∃ s,w0.cell? a=some (.string s)
 done:∀ a∈L,∀ s,w0.cell? a=some (.string s)→W.cell? a=some (.string (f s))
 stay:∀ g o v,w0.cell? ⟨g,o,none⟩=some v→(∀ a∈L,a≠⟨g,o,none⟩)→W.cell? ⟨g,o,none⟩=some v
 row:∀ b,b<w0.heap.size→(∀ a∈L,a.block≠b)→W.heap[b]? = w0.heap[b]?
section
variable {B:Nat} {w0 W W':World} {f:ByteArray→ByteArray} {L:List Addr}
theorem zn_nil (h:B≤w0.heap.size):Zn B w0 f [] w0:=⟨h,Below.refl _ _,fun _ hb=>hb.2.2,fun z hz=>absurd hz (by simp),fun z hz=>absurd hz (by simp),fun _ _ _ h _=>h,fun _ _ _=>rfl⟩
theorem zn_keep (h:Zn B w0 f L W) (hb:Below W.heap.size W W'):Zn B w0 f L W':=by
 have hs:=h.below.size
 refine ⟨h.low,h.below.trans (hb.mono (Nat.le_trans h.low hs)),fun b hr=>uf_below (h.free b hr) hb (Nat.lt_of_lt_of_le hr.2.1 hs),h.ok,fun a ha s hv=>?_,fun g o v hv hn=>?_,fun b hl hn=>?_⟩
 · rw [hb.cell (p:=a) (Nat.lt_of_lt_of_le (cell_lt hv) hs)];exact h.done a ha s hv
 · rw [hb.cell (p:=⟨g,o,none⟩) (Nat.lt_of_lt_of_le (cell_lt hv) hs)];exact h.stay g o v hv hn
 · rw [hb.block b (by omega)];exact h.row b hl hn
theorem zn_name (h:Zn B w0 f L W) {g o:Nat} {s:ByteArray} (hs:w0.cell? ⟨g,o,none⟩=some (.string s)):∃ u,(u=s∨u=f s)∧W.cell? ⟨g,o,none⟩=some (.string u):=by
 by_cases hz:(⟨g,o,none⟩:Addr)∈L
 · exact ⟨f s,.inr rfl,h.done _ hz s hs⟩
 · exact ⟨s,.inl rfl,h.stay g o _ hs fun a ha e=>hz (e ▸ ha)⟩
theorem zn_other (h:Zn B w0 f L W) {g o:Nat} {v:Value} (hv:w0.cell? ⟨g,o,none⟩=some v) (hn:∀ s,v ≠ .string s):W.cell? ⟨g,o,none⟩=some v :=
 h.stay g o v hv fun a ha e=>by
  obtain ⟨_,_,s,hs⟩:=h.ok a ha
  rw [e,hv] at hs
  exact hn s (Option.some.inj hs)
theorem zn_sk (h:Zn B w0 f L W):Sk w0 W:=⟨h.below.size,fun g o v hv hk=>zn_other h hv fun s e=>by
 rcases hk with ⟨k,hk⟩ | ⟨a,l,c,hk⟩ <;> (rw [hk] at e;cases e)⟩
theorem zn_skip (h:Zn B w0 f L W) {g o:Nat} (hr:Rz B w0 g) {s:ByteArray} (hs:w0.cell? ⟨g,o,none⟩=some (.string s)) (hw:W.cell? ⟨g,o,none⟩=some (.string (f s))):Zn B w0 f (L++[⟨g,o,none⟩]) W:=by
 refine ⟨h.low,h.below,h.free,fun a ha=>?_,fun a ha u hu=>?_,fun g' o' v hv hn=>h.stay g' o' v hv fun a ha=>hn a (by simp [ha]),fun b hl hn=>h.row b hl fun a ha=>hn a (by simp [ha])⟩
 · rcases List.mem_append.1 ha with ha | ha
   · exact h.ok a ha
   · obtain rfl : a = _ := by simpa using ha
     exact ⟨hr,rfl,s,hs⟩
 · rcases List.mem_append.1 ha with ha | ha
   · exact h.done a ha u hu
   · obtain rfl : a = _ := by simpa using ha
     rw [hs] at hu
     obtain rfl:s=u:=by injection Option.some.inj hu
     exact hw
theorem zn_set (h:Zn B w0 f L W) {g o:Nat} (hr:Rz B w0 g) {s:ByteArray} (hs:w0.cell? ⟨g,o,none⟩=some (.string s)):Zn B w0 f (L++[⟨g,o,none⟩]) (W.setCell ⟨g,o,none⟩ (.string (f s))):=by
 obtain ⟨u,_,hu⟩:=zn_name h hs
 refine ⟨h.low,h.below.setCell hr.1 _,fun b hb=>uf_setCell (h.free b hb) _ _,fun a ha=>?_,fun a ha t ht=>?_,fun g' o' v hv hn=>?_,fun b hl hn=>?_⟩
 · rcases List.mem_append.1 ha with ha | ha
   · exact h.ok a ha
   · obtain rfl : a = _ := by simpa using ha
     exact ⟨hr,rfl,s,hs⟩
 · by_cases e : (⟨g, o, none⟩ : Addr) = a
   · subst e
     rw [hs] at ht
     obtain rfl:s=t:=by injection Option.some.inj ht
     exact World.cell?_setCell_same _ _ _ hu
   · rw [World.cell?_setCell_other _ _ _ _ e]
     rcases List.mem_append.1 ha with ha | ha
     · exact h.done a ha t ht
     · exact absurd (by simpa using ha:a=_).symm e
 · rw [World.cell?_setCell_other _ _ _ _ (hn ⟨g, o, none⟩ (by simp))]
   exact h.stay g' o' v hv fun a ha=>hn a (by simp [ha])
 · have hne : g ≠ b := hn ⟨g, o, none⟩ (by simp)
   rw [Below.heap_setCell _ _ _ _ (by show b≠g;omega)]
   exact h.row b hl fun a ha=>hn a (by simp [ha])
theorem own_zn (h:Zn B w0 f L W) {g:Nat} {r:Array Value} {T:TypeId} (ho:Own w0 g T r) (hr:∀ (o:Nat) (s:ByteArray),r[o]? ≠ some (Value.string s)):Own W g T r :=
 (h.row g ho.lt fun a ha e=>by
  obtain ⟨_,hs,s,hn⟩:=h.ok a ha
  obtain ⟨b,o,sp⟩:=a
  simp only at e hn hs
  subst e hs
  rw [cell_of_row _ _ o _ _ _ ho] at hn
  exact hr o s hn).trans ho
theorem rz_rfn (h:Zn B w0 f L W) {b:Nat} (hb:Rz B w0 b):Rf B W b:=⟨hb.1,h.free b hb⟩
end
mutual
def fxE (g:ByteArray→ByteArray):Ex→Prop
 | .mk k _ _ n ks _=>(k≠2→g n=n)∧fxEs g ks
def fxEs (g:ByteArray→ByteArray):List Ex→Prop
 | []=>True
 | e::r=>fxE g e∧fxEs g r
end
mutual
def fxS (g:ByteArray→ByteArray):St→Prop
 | .mk _ _ _ e b l _=>fxEs g e∧fxSs g b∧fxSs g l
def fxSs (g:ByteArray→ByteArray):List St→Prop
 | []=>True
 | e::r=>fxS g e∧fxSs g r
end
def fxP (g:ByteArray→ByteArray) (p:Pg):Prop:=∀ t∈p.threads,fxSs g t.body
theorem u8_ns {k:Int} : ∀ s,Value.int .u8 k ≠ .string s:=fun s h=>by cases h
theorem i64_ns {k:Int} : ∀ s,Value.int .i64 k ≠ .string s:=fun s h=>by cases h
theorem sl_ns {a:Option Addr} {l c:Nat} : ∀ s,Value.slice a l c ≠ .string s:=fun s h=>by cases h
def adr (V:List Vz):List Addr:=V.flatMap Vz.nm
theorem adr_app (V U:List Vz):adr (V++U)=adr V++adr U:=by simp [adr]
section
variable {B:Nat} {w0 W:World} {f:ByteArray→ByteArray} {L:List Addr}
theorem exsIn_zn (h:Zn B w0 f L W):∀ (l:List Ex) (g o:Nat),exsIn (Rz B w0) w0 l g o→fxEs f l→(∀ a∈adr (vEs w0 l g o),a∈L)→exsIn (Rf B W) W (exsRen f l) g o:=by
 intro l
 induction l using Exs.ind with
 | h0=>intro g o _ _ _;exact trivial
 | h1 k op wd nm ks p r ih1 ih2 =>
   intro g o hi hx hz
   obtain ⟨⟨c0,c1,c2,c3,⟨a,cap,c4,h4⟩,c5⟩,hr⟩:=hi
   have hk:=kE_of c4 h4
   simp only [vEs,vE] at hz
   rw [hk] at hz
   simp only [adr,List.flatMap_cons,List.flatMap_append,List.mem_append,List.cons_append] at hz
   have z0:k=2→(⟨g,o+3,none⟩:Addr)∈L:=fun e=>hz _ (.inl (by simp [e]))
   have z1:∀ z∈adr (vEsA w0 ks a),z∈L:=fun z hm=>hz z (.inr (.inl hm))
   have z2:∀ z∈adr (vEs w0 r g (o+6)),z∈L:=fun z hm=>hz z (.inr (.inr hm))
   have c3':W.cell? ⟨g,o+3,none⟩=some (.string (if k=2 then f nm else nm)):=by
    by_cases e:k=2
    · rw [if_pos e];exact h.done _ (z0 e) nm c3
    · rw [if_neg e]
      obtain ⟨u,hu,hc⟩:=zn_name h c3
      rw [hx.1.1 e,or_self] at hu
      rw [hc,hu]
   refine ⟨⟨zn_other h c0 u8_ns,zn_other h c1 u8_ns,zn_other h c2 i64_ns,c3',⟨a,cap,by rw [exsRen_len];exact zn_other h c4 sl_ns,?_⟩,zn_other h c5 i64_ns⟩,ih2 g _ hr hx.2 z2⟩
   rcases h4 with h4 | ⟨g',q,rfl,hg,hi⟩
   · obtain rfl : ks = [] := by simpa using h4
     exact .inl rfl
   · exact .inr ⟨g',q,rfl,rz_rfn h hg,ih1 g' q hi hx.1.2 z1⟩
theorem exsAt_zn (h:Zn B w0 f L W) {l:List Ex} {a:Option Addr} (hi:exsAt (Rz B w0) w0 l a) (hx:fxEs f l) (hz:∀ z∈adr (vEsA w0 l a),z∈L):exsAt (Rf B W) W (exsRen f l) a:=by
 rcases hi with h4 | ⟨g',q,rfl,hg,hi⟩
 · obtain rfl : l = [] := by simpa using h4
   exact .inl rfl
 · exact .inr ⟨g',q,rfl,rz_rfn h hg,exsIn_zn h l g' q hi hx hz⟩
theorem stsIn_zn (h:Zn B w0 f L W):∀ (l:List St) (g o:Nat),stsIn (Rz B w0) w0 l g o→fxSs f l→(∀ a∈adr (vSs w0 l g o),a∈L)→stsIn (Rf B W) W (stsRen f l) g o:=by
 intro l
 induction l using Sts.ind with
 | h0=>intro g o _ _ _;exact trivial
 | h1 k nm ot es bo el p r ih1 ih2 ih3 =>
   intro g o hi hx hz
   obtain ⟨⟨c0,c1,c2,⟨a3,p3,c3,h3⟩,⟨a4,p4,c4,h4⟩,⟨a5,p5,c5,h5⟩,c6⟩,hr⟩:=hi
   obtain ⟨⟨x1,x2,x3⟩,xr⟩:=hx
   simp only [vSs,vS] at hz
   rw [kE_of c3 h3,kS_of c4 h4,kS_of c5 h5] at hz
   simp only [adr,List.flatMap_cons,List.flatMap_append,List.mem_append,List.cons_append,List.nil_append,List.mem_cons] at hz
   have z3:∀ z∈adr (vEsA w0 es a3),z∈L:=fun z hm=>hz z (.inr (.inr (.inl (.inl hm))))
   have z4:∀ z∈adr (vSsA w0 bo a4),z∈L:=fun z hm=>hz z (.inr (.inr (.inl (.inr (.inl hm)))))
   have z5:∀ z∈adr (vSsA w0 el a5),z∈L:=fun z hm=>hz z (.inr (.inr (.inl (.inr (.inr hm)))))
   have z6:∀ z∈adr (vSs w0 r g (o+7)),z∈L:=fun z hm=>hz z (.inr (.inr (.inr hm)))
   have hk:∀ {ks:List St} {a:Option Addr} (ih:∀ (g o:Nat),stsIn (Rz B w0) w0 ks g o→fxSs f ks→(∀ z∈adr (vSs w0 ks g o),z∈L)→stsIn (Rf B W) W (stsRen f ks) g o) (h4:stsAt (Rz B w0) w0 ks a) (hx:fxSs f ks) (hz:∀ z∈adr (vSsA w0 ks a),z∈L),stsAt (Rf B W) W (stsRen f ks) a:=by
    intro ks a ih h4 hx hz
    rcases h4 with h4 | ⟨g',q,rfl,hg,hi⟩
    · obtain rfl : ks = [] := by simpa using h4
      exact .inl rfl
    · exact .inr ⟨g',q,rfl,rz_rfn h hg,ih g' q hi hx hz⟩
   exact ⟨⟨zn_other h c0 u8_ns,h.done _ (hz _ (.inl rfl)) nm c1,h.done _ (hz _ (.inr (.inl rfl))) ot c2,⟨a3,p3,by rw [exsRen_len];exact zn_other h c3 sl_ns,exsAt_zn h h3 x1 z3⟩,⟨a4,p4,by rw [stsRen_len];exact zn_other h c4 sl_ns,hk ih1 h4 x2 z4⟩,⟨a5,p5,by rw [stsRen_len];exact zn_other h c5 sl_ns,hk ih2 h5 x3 z5⟩,zn_other h c6 i64_ns⟩,ih3 g _ hr xr z6⟩
theorem stsAt_zn (h:Zn B w0 f L W) {l:List St} {a:Option Addr} (hi:stsAt (Rz B w0) w0 l a) (hx:fxSs f l) (hz:∀ z∈adr (vSsA w0 l a),z∈L):stsAt (Rf B W) W (stsRen f l) a:=by
 rcases hi with h4 | ⟨g',q,rfl,hg,hi⟩
 · obtain rfl : l = [] := by simpa using h4
   exact .inl rfl
 · exact .inr ⟨g',q,rfl,rz_rfn h hg,stsIn_zn h l g' q hi hx hz⟩
theorem dcsIn_zn (h:Zn B w0 f L W):∀ (l:List Dc) (g o:Nat),dcsIn w0 l g o→(∀ z∈adr (vDs w0 l g o),z∈L)→dcsIn W (l.map (Dc.ren f)) g o
 | [],_,_,_,_=>trivial
 | ⟨nm, wd, p⟩ :: r, g, o, ⟨⟨c0, c1, c2⟩, hr⟩, hz => by
   simp only [vDs,vD,adr,List.flatMap_cons,List.cons_append,List.nil_append,List.mem_cons] at hz
   exact ⟨⟨h.done _ (hz _ (.inl rfl)) nm c0,zn_other h c1 i64_ns,zn_other h c2 i64_ns⟩,dcsIn_zn h r g _ hr (fun z hm=>hz z (.inr hm))⟩
theorem dcsAt_zn (h:Zn B w0 f L W) {l:List Dc} {a:Option Addr} (hi:dcsAt (Rz B w0) w0 l a) (hz:∀ z∈adr (vDsA w0 l a),z∈L):dcsAt (Rf B W) W (l.map (Dc.ren f)) a:=by
 rcases hi with h4 | ⟨g',q,rfl,hg,hi⟩
 · obtain rfl : l = [] := by simpa using h4
   exact .inl rfl
 · exact .inr ⟨g',q,rfl,rz_rfn h hg,dcsIn_zn h l g' q hi hz⟩
theorem thsIn_zn (h:Zn B w0 f L W):∀ (l:List Th) (g o:Nat),thsIn (Rz B w0) w0 l g o→(∀ t∈l,fxSs f t.body)→(∀ z∈adr (vTs w0 l g o),z∈L)→thsIn (Rf B W) W (l.map (Th.ren f)) g o
 | [],_,_,_,_,_=>trivial
 | ⟨nm, lo, bo, p⟩ :: r, g, o, ⟨⟨c0, ⟨a1, p1, c1, h1⟩, ⟨a2, p2, c2, h2⟩, c3⟩, hr⟩, hx, hz => by
   simp only [vTs,vT] at hz
   rw [kD_of c1 h1,kS_of c2 h2] at hz
   simp only [adr,List.flatMap_append,List.mem_append,List.flatMap_cons,List.cons_append,List.nil_append,List.mem_cons] at hz
   have z1:∀ z∈adr (vDsA w0 lo a1),z∈L:=fun z hm=>hz z (.inr (.inl (.inl hm)))
   have z2:∀ z∈adr (vSsA w0 bo a2),z∈L:=fun z hm=>hz z (.inr (.inl (.inr hm)))
   exact ⟨⟨h.done _ (hz _ (.inl rfl)) nm c0,⟨a1,p1,by have:=zn_other h c1 sl_ns;simpa [Th.ren] using this,dcsAt_zn h h1 z1⟩,⟨a2,p2,by have:=zn_other h c2 sl_ns;simpa [Th.ren,stsRen_len] using this,stsAt_zn h h2 (hx _ (.head _)) z2⟩,zn_other h c3 i64_ns⟩,thsIn_zn h r g _ hr (fun t ht=>hx t (.tail _ ht)) (fun z hm=>hz z (.inr (.inr hm)))⟩
theorem thsAt_zn (h:Zn B w0 f L W) {l:List Th} {a:Option Addr} (hi:thsAt (Rz B w0) w0 l a) (hx:∀ t∈l,fxSs f t.body) (hz:∀ z∈adr (vTsA w0 l a),z∈L):thsAt (Rf B W) W (l.map (Th.ren f)) a:=by
 rcases hi with h4 | ⟨g',q,rfl,hg,hi⟩
 · obtain rfl : l = [] := by simpa using h4
   exact .inl rfl
 · exact .inr ⟨g',q,rfl,rz_rfn h hg,thsIn_zn h l g' q hi hx hz⟩
end
theorem kid1_in {ks:List Ex} {fs:List (Int→Bool)} {d:Int} (h:kid1 ks fs d=true) (hl:fs.length=ks.length):∀ f∈fs,∃ d,f d=true:=by
 match ks,fs,hl with
 | [x], [f], _ => exact fun g hg => by obtain rfl : g = f := by simpa using hg
                                       exact ⟨_,h⟩
 | [],_,_=>simp [kid1] at h
 | _::_::_,_,_=>simp [kid1] at h
theorem kid2_in {o:Int} {ks:List Ex} {fs:List (Int→Bool)} {d:Int} (h:kid2 o ks fs d=true) (hl:fs.length=ks.length):∀ f∈fs,∃ d,f d=true:=by
 match ks,fs,hl with
 | [x, y], [f, f2], _ =>
   simp only [kid2,Bool.and_eq_true] at h
   intro g hg
   rcases (by simpa using hg:g=f∨g=f2) with rfl | rfl
   · exact ⟨_,h.1⟩
   · exact ⟨_,h.2⟩
 | [],_,_=>simp [kid2] at h
 | [_],_,_=>simp [kid2] at h
 | _::_::_::_,_,_=>simp [kid2] at h
theorem fxEs_of {g:ByteArray→ByteArray} (h0:g ⟨#[]⟩=⟨#[]⟩):∀ l:List Ex,(∀ f∈rEs l,∃ d,f d=true)→fxEs g l:=by
 intro l
 induction l using Exs.ind with
 | h0=>intro _;trivial
 | h1 k o wd nm ks p r ih1 ih2 =>
   intro h
   simp only [rEs,List.mem_cons] at h
   refine ⟨⟨fun e=>?_,ih1 fun f hf=>?_⟩,ih2 fun f hf=>h f (.inr hf)⟩
   · obtain ⟨d, hd⟩ := h _ (.inl rfl)
     simp only [rE,Bool.and_eq_true] at hd
     have h3:=hd.2.2.1
     rw [show (k==2)=false by simpa using e] at h3
     have:nm=⟨#[]⟩:=bytes_same h3
     rw [this,h0]
   · obtain ⟨d, hd⟩ := h _ (.inl rfl)
     simp only [rE,Bool.and_eq_true] at hd
     have h4:=hd.2.2.2
     unfold kB at h4
     split at h4
     · simp only [Bool.and_eq_true, List.isEmpty_iff] at h4
       obtain ⟨_,rfl⟩:=h4
       simp [rEs] at hf
     · split at h4
       · simp only [Bool.and_eq_true] at h4
         exact kid1_in h4.2 (rEs_len ks) f hf
       · split at h4
         · simp only [Bool.and_eq_true] at h4
           exact kid2_in h4.2 (rEs_len ks) f hf
         · cases h4
theorem fxEs_all {g:ByteArray→ByteArray} (h0:g ⟨#[]⟩=⟨#[]⟩) {l:List Ex} (h:allE l=true):fxEs g l:=by
 have hall:∀ l:List Ex,allE l=(rEs l).all (fun f=>f 0):=by
  intro l
  unfold allE
  induction l with
  | nil=>rfl
  | cons x r ih=>simp only [List.all_cons,rEs,ih]
 rw [hall,List.all_eq_true] at h
 exact fxEs_of h0 l fun f hf=>⟨0,h f hf⟩
theorem fxSs_of {g:ByteArray→ByteArray} (h0:g ⟨#[]⟩=⟨#[]⟩):∀ (l:List St) (d:Int),rAll l d=true→fxSs g l:=by
 intro l
 induction l using Sts.ind with
 | h0=>intro d _;trivial
 | h1 k n o e b l p r ih1 ih2 ih3 =>
   intro d h
   simp only [rAll,rS,Bool.and_eq_true,Bool.or_eq_true] at h
   obtain ⟨⟨a1,a2,a3,a4,a5,a6,a7,a8,a9,a10⟩,hr⟩:=h
   refine ⟨⟨fxEs_all h0 a8,?_,?_⟩,ih3 d hr⟩
   · rcases a9 with a9 | a9
     · rcases a6 with a6 | a6
       · rw [a6] at a9;cases a9
       · have : b.length = 0 := by have := eq_of_beq a6; omega
         obtain rfl:b=[]:=List.eq_nil_of_length_eq_zero this
         trivial
     · exact ih1 _ a9.2
   · rcases a10 with a10 | a10
     · have : l.length = 0 := by simp at a10; simp [a10]
       obtain rfl:l=[]:=List.eq_nil_of_length_eq_zero this
       trivial
     · exact ih2 _ a10.2
theorem fxP_of {g:ByteArray→ByteArray} (h0:g ⟨#[]⟩=⟨#[]⟩) {x:Pg} (h:rP x=true):fxP g x:=fun t ht=>by
 simp only [rP,Bool.and_eq_true] at h
 have:=List.all_eq_true.1 h.2.2 t ht
 simp only [thB,rB,Bool.and_eq_true] at this
 exact fxSs_of h0 _ _ this.2.2.2
end Go.Proofs.YtkheldgmpgefiaaGreatDoor

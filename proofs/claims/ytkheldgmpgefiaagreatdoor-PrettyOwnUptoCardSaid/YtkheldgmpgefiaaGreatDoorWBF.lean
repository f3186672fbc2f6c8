/- The proof, part 32: texts that belong together, in one. -/
import Derived.Test.YtkheldgmpgefiaaGreatDoorWBE
import Derived.Test.YtkheldgmpgefiaaGreatDoorWAU
import Derived.Test.YtkheldgmpgefiaaGreatDoorWBC
import Derived.Test.YtkheldgmpgefiaaGreatDoorWAY
set_option maxRecDepth 100000
set_option maxHeartbeats 20000000
namespace Go.Proofs.YtkheldgmpgefiaaGreatDoor
open Go.RowKit
set_option linter.unusedVariables false
inductive Alt:Value→Value→Prop
 | same (v:Value):Alt v v
 | str (s t:ByteArray):Alt (.string s) (.string t)
 | num (k:IntKind) (n m:Int):Alt (.int k n) (.int k m)
 | nil (a:Option Addr) (l c:Nat):Alt (.slice a l c) (.slice none 0 0)
def Rg (lo hi:Nat) (W:World) (b:Nat):Prop:=lo≤b∧b<hi∧Uf W b
structure Sp (lo hi:Nat) (W X:World):Prop where
 below:Below lo W X
 far:∀ b,hi≤b→b<W.heap.size→X.heap[b]? = W.heap[b]?
 cel:∀ b o v,lo≤b→b<hi→W.cell? ⟨b,o,none⟩=some v→∃ u,Alt v u∧X.cell? ⟨b,o,none⟩=some u
 frz:∀ b,lo≤b→b<hi→Uf W b→Uf X b
 top:hi≤W.heap.size
section
variable {lo hi:Nat} {W X Y:World}
theorem sp_refl (h:hi≤W.heap.size):Sp lo hi W W:=⟨Below.refl _ _,fun _ _ _=>rfl,fun b o v _ _ hv=>⟨v,.same v,hv⟩,fun _ _ _ h=>h,h⟩
theorem sp_below (h:Sp lo hi W X) (hlo:lo≤hi) (hb:Below X.heap.size X Y):Sp lo hi W Y:=by
 have hs:=h.below.size
 have ht:=h.top
 refine ⟨h.below.trans (hb.mono (by omega)),fun b h1 h2=>by rw [hb.block b (by omega)];exact h.far b h1 h2,fun b o v h1 h2 hv=>?_,fun b h1 h2 hu=>uf_below (h.frz b h1 h2 hu) hb (by omega),ht⟩
 obtain ⟨u,ha,hu⟩:=h.cel b o v h1 h2 hv
 exact ⟨u,ha,by rw [hb.cell (p:=⟨b,o,none⟩) (cell_lt hu)];exact hu⟩
theorem sp_set (h:Sp lo hi W X) {g o:Nat} {v u:Value} (hg:Rg lo hi W g) (hv:W.cell? ⟨g,o,none⟩=some v) (ha:Alt v u):Sp lo hi W (X.setCell ⟨g,o,none⟩ u):=by
 refine ⟨h.below.setCell hg.1 _,fun b h1 h2=>?_,fun b o' z h1 h2 hz=>?_,fun b h1 h2 hu=>uf_setCell (h.frz b h1 h2 hu) _ _,h.top⟩
 · rw [Below.heap_setCell _ _ _ _ (by show b≠g;have:=hg.2.1;omega)];exact h.far b h1 h2
 · by_cases e : (⟨g, o, none⟩ : Addr) = ⟨b, o', none⟩
   · obtain ⟨y, _, hy⟩ := h.cel g o v hg.1 hg.2.1 hv
     have e2:v=z:=by rw [← e,hv] at hz;exact Option.some.inj hz
     refine ⟨u,e2 ▸ ha,?_⟩
     rw [← e];exact World.cell?_setCell_same _ _ _ hy
   · rw [World.cell?_setCell_other _ _ _ _ e];exact h.cel b o' z h1 h2 hz
theorem sp_str (h:Sp lo hi W X) {g o:Nat} (hg:Rg lo hi W g) {s:ByteArray} (hv:W.cell? ⟨g,o,none⟩=some (.string s)):∃ t,X.cell? ⟨g,o,none⟩=some (.string t):=by
 obtain ⟨u,ha,hu⟩:=h.cel g o _ hg.1 hg.2.1 hv
 cases ha with
 | same=>exact ⟨_,hu⟩
 | str _ t=>exact ⟨_,hu⟩
theorem sp_num (h:Sp lo hi W X) {g o:Nat} (hg:Rg lo hi W g) {k:IntKind} {n:Int} (hv:W.cell? ⟨g,o,none⟩=some (.int k n)):∃ m,X.cell? ⟨g,o,none⟩=some (.int k m):=by
 obtain ⟨u,ha,hu⟩:=h.cel g o _ hg.1 hg.2.1 hv
 cases ha with
 | same=>exact ⟨_,hu⟩
 | num _ _ m=>exact ⟨_,hu⟩
theorem sp_sl (h:Sp lo hi W X) {g o:Nat} (hg:Rg lo hi W g) {a:Option Addr} {l c:Nat} (hv:W.cell? ⟨g,o,none⟩=some (.slice a l c)):X.cell? ⟨g,o,none⟩=some (.slice a l c)∨X.cell? ⟨g,o,none⟩=some (.slice none 0 0):=by
 obtain ⟨u,ha,hu⟩:=h.cel g o _ hg.1 hg.2.1 hv
 cases ha with
 | same=>exact .inl hu
 | nil _ _ _=>exact .inr hu
theorem sp_fr (h:Sp lo hi W X) {g:Nat} (hg:Rg lo hi W g) (o:Nat):X.frozen? ⟨g,o,none⟩=false:=h.frz g hg.1 hg.2.1 hg.2.2 o
theorem sp_exs (h:Sp lo hi W X) {g o:Nat} (hg:Rg lo hi W g) {l:List Ex} {ea:Option Addr} {ec:Nat} (hc:W.cell? ⟨g,o,none⟩=some (.slice ea l.length ec)) (he:exsAt (Rg lo hi W) W l ea):∃ a n c,X.cell? ⟨g,o,none⟩=some (.slice a n c)∧n≤l.length∧∀ j,j<n→∃ g2 q2,a=some ⟨g2,q2,none⟩∧Rg lo hi W g2∧(∃ k,W.cell? ⟨g2,q2+j*6,none⟩=some (.int .u8 k))∧∃ s,W.cell? ⟨g2,q2+j*6+3,none⟩=some (.string s):=by
 rcases sp_sl h hg hc with hx | hx
 · refine ⟨_, _, _, hx, Nat.le_refl _, fun j hj => ?_⟩
   rcases he with e | ⟨g2,q2,e,hg2,hi2⟩
   · have : l = [] := by simpa using e
     subst this;simp at hj
   · have x1 := exsIn_get j l[j] hi2 (List.getElem?_eq_getElem hj)
     generalize l[j]=z at x1
     obtain ⟨k,op,wd,nm,ks,ps⟩:=z
     obtain ⟨b0,b1,b2,b3,_⟩:=x1
     exact ⟨g2,q2,e,hg2,⟨_,b0⟩,_,b3⟩
 · exact ⟨none,0,0,hx,Nat.zero_le _,fun j hj=>absurd hj (Nat.not_lt_zero _)⟩
theorem sp_sts (h:Sp lo hi W X) {g o:Nat} (hg:Rg lo hi W g) {l:List St} {ea:Option Addr} {ec:Nat} (hc:W.cell? ⟨g,o,none⟩=some (.slice ea l.length ec)) (he:stsAt (Rg lo hi W) W l ea):∃ a n c,X.cell? ⟨g,o,none⟩=some (.slice a n c)∧n≤l.length∧∀ j,j<n→∃ g2 q2 z,a=some ⟨g2,q2,none⟩∧Rg lo hi W g2∧z∈l∧stIn (Rg lo hi W) W z g2 (q2+j*7):=by
 rcases sp_sl h hg hc with hx | hx
 · refine ⟨_, _, _, hx, Nat.le_refl _, fun j hj => ?_⟩
   rcases he with e | ⟨g2,q2,e,hg2,hi2⟩
   · have : l = [] := by simpa using e
     subst this;simp at hj
   · exact ⟨g2,q2,l[j],e,hg2,List.getElem_mem hj,stsIn_get j l[j] hi2 (List.getElem?_eq_getElem hj)⟩
 · exact ⟨none,0,0,hx,Nat.zero_le _,fun j hj=>absurd hj (Nat.not_lt_zero _)⟩
theorem sp_dcs (h:Sp lo hi W X) {g o:Nat} (hg:Rg lo hi W g) {l:List Dc} {ea:Option Addr} {ec:Nat} (hc:W.cell? ⟨g,o,none⟩=some (.slice ea l.length ec)) (he:dcsAt (Rg lo hi W) W l ea):∃ a n c,X.cell? ⟨g,o,none⟩=some (.slice a n c)∧n≤l.length∧∀ j,j<n→∃ g2 q2,a=some ⟨g2,q2,none⟩∧Rg lo hi W g2∧∃ s,W.cell? ⟨g2,q2+j*3,none⟩=some (.string s):=by
 rcases sp_sl h hg hc with hx | hx
 · refine ⟨_, _, _, hx, Nat.le_refl _, fun j hj => ?_⟩
   rcases he with e | ⟨g2,q2,e,hg2,hi2⟩
   · have : l = [] := by simpa using e
     subst this;simp at hj
   · have x1 := dcsIn_get j l[j] hi2 (List.getElem?_eq_getElem hj)
     generalize l[j]=z at x1
     obtain ⟨nm,wd,ps⟩:=z
     exact ⟨g2,q2,e,hg2,_,x1.1⟩
 · exact ⟨none,0,0,hx,Nat.zero_le _,fun j hj=>absurd hj (Nat.not_lt_zero _)⟩
theorem sp_ne {g o g2 o2:Nat} {v u:Value} (h1:W.cell? ⟨g,o,none⟩=some v) (h2:W.cell? ⟨g2,o2,none⟩=some u) (hn:v≠u):(⟨g,o,none⟩:Addr)≠⟨g2,o2,none⟩:=fun e=>hn (by rw [e,h2] at h1;exact (Option.some.inj h1).symm)
end
structure Sq (lo hi:Nat) (W:World) (r:Array Value) (tb:Nat) (y:Array Value) (X:World):Prop where
 sp:Sp lo hi W X
 own:Own X W.heap.size 25 r
 th:Own X tb 60 y
 tb:hi≤tb
section
variable {lo hi:Nat} {W X:World} {r y:Array Value} {tb:Nat}
theorem sq_set (h:Sq lo hi W r tb y X) {g o:Nat} {v u:Value} (hg:Rg lo hi W g) (hv:W.cell? ⟨g,o,none⟩=some v) (ha:Alt v u):Sq lo hi W r tb y (X.setCell ⟨g,o,none⟩ u) :=
 ⟨sp_set h.sp hg hv ha,h.own.setX o u (by have:=hg.2.1;have:=h.sp.top;omega),h.th.setX o u (by have:=hg.2.1;have:=h.tb;omega),h.tb⟩
end
def SplP (lo hi:Nat) (W:World) (e:Ending) (w':World):Prop:=e=.returned (.tuple #[])∧Sp lo hi W w'
theorem r_spoil (x:Pg) (hbk:ctP x≤1048576) {lo hi:Nat} {W:World} (hlo:lo≤hi) (hhi:hi≤W.heap.size) {a1 a2 a3:Option Addr} {c1 c2 c3 n2:Nat} (h1:dcsAt (Rg lo hi W) W x.shared a1) (h3:thsAt (Rg lo hi W) W x.threads a3) :
 Calls Tryz.prog 16 #[.agg #[.slice a1 x.shared.length c1,.slice a2 n2 c2,.slice a3 x.threads.length c3]] W (SplP lo hi W):=by
 have hk:=hbk
 unfold ctP at hk
 have l1:x.shared.length≤1048576:=by omega
 have l3:x.threads.length≤1048576:=Nat.le_trans (ctTs_len _) (by omega)
 have HBT:Hid (ctTs x.threads≤1048576):=by unfold Hid;omega
 have E1:=Lib.hid h1
 have E3:=Lib.hid h3
 have HLO:=Lib.hid hlo
 clear h1 h3 hbk hk hlo
 obtain ⟨n1,hn1⟩:∃ n,n=x.shared.length:=⟨_,rfl⟩
 obtain ⟨n3,hn3⟩:∃ n,n=x.threads.length:=⟨_,rfl⟩
 rw [← hn1] at l1 ⊢
 rw [← hn3] at l3 ⊢
 have HN:=Lib.hid (And.intro hn1 hn3)
 clear hn1 hn3
 have HB0:Hid (Sp lo hi W (W.alloc (.cells #[.slice a1 n1 c1,.slice a2 n2 c2,.slice a3 n3 c3] 25))∧Own (W.alloc (.cells #[.slice a1 n1 c1,.slice a2 n2 c2,.slice a3 n3 c3] 25)) W.heap.size 25 #[.slice a1 n1 c1,.slice a2 n2 c2,.slice a3 n3 c3]):=⟨sp_below (sp_refl hhi) HLO.out ((Below.refl _ W).alloc (Nat.le_refl _) _),Own.new W _ _⟩
 have HHI:=Lib.hid hhi
 clear hhi
 go_enter Tryz.func16,Tryz.ntmps16
 go_wp2_with fail
 go_loopg [2] (n1+1) (fun m' u X=>∃ i:Nat,u=.int .i64 (i:Int)∧i≤n1∧m'=n1-i+1∧Sp lo hi W X∧Own X W.heap.size 25 #[.slice a1 n1 c1,.slice a2 n2 c2,.slice a3 n3 c3])
 case atStart=>exact ⟨0,rfl,Nat.zero_le _,by omega,HB0.out.1,HB0.out.2⟩
 case round =>
  obtain ⟨i,rfl,hi1,hm,hS,hO⟩:=hrel
  have HM:=Lib.hid hm
  have HS:=Lib.hid hS
  have HO:=Lib.hid hO
  have cb:wr.cell? ⟨W.heap.size,0,none⟩=some (.slice a1 n1 c1):=by rw [cell_of_row _ _ 0 _ _ _ hO];rfl
  clear hm hS hO
  by_cases hin:i<n1
  · have il : i < x.shared.length := by have := HN.out.1; omega
    rcases E1.out with e | ⟨g,q,e,hg,hi2⟩
    · rw [show x.shared=[] by simpa using e] at il;simp at il
    rw [e] at cb
    clear e
    have x1:=dcsIn_get i x.shared[i] hi2 (List.getElem?_eq_getElem il)
    generalize x.shared[i]=z at x1
    obtain ⟨nm,wd,ps⟩:=z
    have c0:=x1.1
    simp only at c0
    obtain ⟨s',d0⟩:=sp_str HS.out hg c0
    have f0:=sp_fr HS.out hg (q+i*3)
    have HQ:Hid (Sp lo hi W (wr.setCell ⟨g,q+i*3,none⟩ (.string ⟨#[103,111,110,101]⟩))∧Own (wr.setCell ⟨g,q+i*3,none⟩ (.string ⟨#[103,111,110,101]⟩)) W.heap.size 25 #[.slice a1 n1 c1,.slice a2 n2 c2,.slice a3 n3 c3]):=⟨sp_set HS.out hg c0 (.str _ _),HO.out.setX _ _ (by have:=hg.2.1;have:=HHI.out;omega)⟩
    have hin':(i:Int)<(n1:Int):=by omega
    clear x1 hi2 hg c0 il
    go_wp2_with fail
    go_roundg (n1-(i+1)+1)
    case measure=>have:=HM.out;omega
    case rel=>exact ⟨i+1,rfl,by omega,by omega,HQ.out.1,HQ.out.2⟩
  · have : n1 = i := by omega
    subst this
    clear HM hin hi1
    go_wp2_with fail
    clear cb
    go_loopg [3] (n3+1) (fun m' u X=>∃ i:Nat,u=.int .i64 (i:Int)∧i≤n3∧m'=n3-i+1∧Sp lo hi W X∧Own X W.heap.size 25 #[.slice a1 n1 c1,.slice a2 n2 c2,.slice a3 n3 c3])
    case atStart=>exact ⟨0,rfl,Nat.zero_le _,by omega,HS.out,HO.out⟩
    case round =>
     obtain ⟨i,rfl,hi1,hm,hS,hO⟩:=hrel
     have HM:=Lib.hid hm
     have HS:=Lib.hid hS
     have HO:=Lib.hid hO
     have cb:wr.cell? ⟨W.heap.size,2,none⟩=some (.slice a3 n3 c3):=by rw [cell_of_row _ _ 2 _ _ _ hO];rfl
     clear hm hS hO
     by_cases hin:i<n3
     · have il : i < x.threads.length := by have := HN.out.2; omega
       rcases E3.out with e | ⟨g,q,e,hg,hi2⟩
       · rw [show x.threads=[] by simpa using e] at il;simp at il
       rw [e] at cb
       clear e
       have x1:=thsIn_get i x.threads[i] hi2 (List.getElem?_eq_getElem il)
       have hby:ctT x.threads[i]≤1048576:=Nat.le_trans (ctTs_mem (List.getElem_mem il)) HBT.out
       generalize x.threads[i]=z at x1 hby
       obtain ⟨nm,lo',bo,ps⟩:=z
       obtain ⟨b0,⟨ka,kc,b1,w1⟩,⟨ma,mc,b2,w2⟩,b3⟩:=x1
       simp only at b0 b1 w1 b2 w2 b3
       simp only [ctT] at hby
       have hkS:=ctSs_len bo
       obtain ⟨s',d0⟩:=sp_str HS.out hg b0
       obtain ⟨p',d3⟩:=sp_num HS.out hg b3
       obtain ⟨la,ln,lc,d1,hln,HLOC⟩:=sp_dcs HS.out hg b1 w1
       obtain ⟨ba,bn,bc,d2,hbn,HBOD⟩:=sp_sts HS.out hg b2 w2
       have hln2:ln≤1048576:=by omega
       have hbn2:bn≤1048576:=by omega
       have f0:=sp_fr HS.out hg (q+i*4)
       have HLOC:=Lib.hid HLOC
       have HBOD:=Lib.hid HBOD
       have HBB:Hid (ctSs bo≤1048576):=by unfold Hid;omega
       have hin':(i:Int)<(n3:Int):=by omega
       have hB:=(Below.refl wr.heap.size wr).alloc (Nat.le_refl _) (.cells #[.string s',.slice la ln lc,.slice ba bn bc,.int .i64 p'] 60)
       have hsz:hi≤wr.heap.size:=Nat.le_trans HHI.out HS.out.below.size
       have hQ0:Sq lo hi W #[.slice a1 n1 c1,.slice a2 n2 c2,.slice a3 n3 c3] wr.heap.size #[.string s',.slice la ln lc,.slice ba bn bc,.int .i64 p'] (wr.alloc (.cells #[.string s',.slice la ln lc,.slice ba bn bc,.int .i64 p'] 60)):=⟨sp_below HS.out HLO.out hB,HO.out.below hB,Own.new wr _ _,hsz⟩
       have e0:(wr.alloc (.cells #[.string s',.slice la ln lc,.slice ba bn bc,.int .i64 p'] 60)).cell? ⟨g,q+i*4,none⟩=some (.string s'):=by rw [hB.cell (p:=⟨g,q+i*4,none⟩) (cell_lt d0)];exact d0
       have e1:(wr.alloc (.cells #[.string s',.slice la ln lc,.slice ba bn bc,.int .i64 p'] 60)).cell? ⟨W.heap.size,2,none⟩=some (.slice (some ⟨g,q,none⟩) n3 c3):=by rw [hB.cell (p:=⟨W.heap.size,2,none⟩) (cell_lt cb)];exact cb
       obtain ⟨W1,hW1⟩:∃ Z,Z=wr.alloc (.cells #[.string s',.slice la ln lc,.slice ba bn bc,.int .i64 p'] 60):=⟨_,rfl⟩
       rw [← hW1] at hQ0 e0 e1
       have f1:=sp_fr hQ0.sp hg (q+i*4)
       have HQ:Hid (Sq lo hi W #[.slice a1 n1 c1,.slice a2 n2 c2,.slice a3 n3 c3] wr.heap.size #[.string s',.slice la ln lc,.slice ba bn bc,.int .i64 p'] (W1.setCell ⟨g,q+i*4,none⟩ (.string ⟨#[103,111,110,101]⟩))):=sq_set hQ0 hg b0 (.str _ _)
       have HW1:=Lib.hid hW1
       clear hi2 hg b0 b1 b2 b3 w1 w2 il hby hkS hln hbn hB hsz hQ0 hW1
       go_upto_region 9 with (fail)
       rw [← HW1.out]
       clear HW1
       go_wp2_with fail
       clear f0 f1 e0 e1 d0 d1 d2 d3 cb
       generalize htb:wr.heap.size=tbv at HQ ⊢
       clear htb
       go_loopg [5] (ln+1) (fun m' u X=>∃ k:Nat,u=.int .i64 (k:Int)∧k≤ln∧m'=ln-k+1∧Sq lo hi W #[.slice a1 n1 c1,.slice a2 n2 c2,.slice a3 n3 c3] tbv #[.string s',.slice la ln lc,.slice ba bn bc,.int .i64 p'] X)
       case atStart=>exact ⟨0,rfl,Nat.zero_le _,by omega,HQ.out⟩
       case round =>
        obtain ⟨k,rfl,hk1,hm2,hQ2⟩:=hrel
        have HM2:=Lib.hid hm2
        have HQ2:=Lib.hid hQ2
        have ct:wr.cell? ⟨tbv,1,none⟩=some (.slice la ln lc):=by rw [cell_of_row _ _ 1 _ _ _ hQ2.th];rfl
        clear hm2 hQ2
        by_cases hkn:k<ln
        · obtain ⟨g2, q2, e, hg2, s2, c2⟩ := HLOC.out k hkn
          rw [e] at ct
          clear e
          obtain ⟨t2,d2⟩:=sp_str HQ2.out.sp hg2 c2
          have f2:=sp_fr HQ2.out.sp hg2 (q2+k*3)
          have HQ3:=Lib.hid (sq_set HQ2.out hg2 c2 (.str _ ⟨#[103,111,110,101]⟩))
          have hkn':(k:Int)<(ln:Int):=by omega
          clear hg2 c2
          go_wp2_with fail
          go_roundg (ln-(k+1)+1)
          case measure=>have:=HM2.out;omega
          case rel=>exact ⟨k+1,rfl,by omega,by omega,HQ3.out⟩
        · have : ln = k := by omega
          subst this
          clear HM2 hkn hk1
          go_wp2_with fail
          clear ct
          go_loopg [6] (bn+1) (fun m' u X=>∃ k:Nat,u=.int .i64 (k:Int)∧k≤bn∧m'=bn-k+1∧Sq lo hi W #[.slice a1 n1 c1,.slice a2 n2 c2,.slice a3 n3 c3] tbv #[.string s',.slice la ln lc,.slice ba bn bc,.int .i64 p'] X)
          case atStart=>exact ⟨0,rfl,Nat.zero_le _,by omega,HQ2.out⟩
          case round =>
           obtain ⟨k,rfl,hk1,hm3,hQ3⟩:=hrel
           have HM3:=Lib.hid hm3
           have HQ3:=Lib.hid hQ3
           have ct:wr.cell? ⟨tbv,2,none⟩=some (.slice ba bn bc):=by rw [cell_of_row _ _ 2 _ _ _ hQ3.th];rfl
           clear hm3 hQ3
           by_cases hkb:k<bn
           · obtain ⟨g2, q2, z, e, hg2, hz, hzi⟩ := HBOD.out k hkb
             have hbz:ctS z≤1048576:=Nat.le_trans (ctSs_mem hz) HBB.out
             have HBA:Hid (ba=some ⟨g2,q2,none⟩):=e
             rw [e] at ct
             clear e hz
             obtain ⟨kd,n1',n2',es,sb,sl,sp⟩:=z
             obtain ⟨x0,x1,x2,⟨ea,ec,x3,y3⟩,⟨ma',mc',x4,y4⟩,x5,x6⟩:=hzi
             simp only [ctS] at hbz
             have hE:=ctEs_len es
             have hB:=ctSs_len sb
             have HX0:=Lib.hid x0
             have HX3:=Lib.hid x3
             have HX4:=Lib.hid x4
             have HY3:=Lib.hid y3
             have HY4:=Lib.hid y4
             have HG2:=Lib.hid hg2
             have HEN:Hid (es.length≤1048576):=by unfold Hid;omega
             have HSN:Hid (sb.length≤1048576):=by unfold Hid;omega
             have hkb':(k:Int)<(bn:Int):=by omega
             clear x0 x1 x2 x3 x4 x5 x6 y3 y4 hbz hE hB hg2
             go_wp2_with fail
             go_loopg [7] (es.length+1) (fun m' u X=>∃ j:Nat,u=.int .i64 (j:Int)∧j≤es.length∧m'=es.length-j+1∧Sq lo hi W #[.slice a1 n1 c1,.slice a2 n2 c2,.slice a3 n3 c3] tbv #[.string s',.slice la ln lc,.slice ba bn bc,.int .i64 p'] X)
             case atStart=>exact ⟨0,rfl,Nat.zero_le _,by omega,HQ3.out⟩
             case round =>
              obtain ⟨j,rfl,hj1,hm4,hQ4⟩:=hrel
              have HM4:=Lib.hid hm4
              have HQ4:=Lib.hid hQ4
              have ct:wr.cell? ⟨tbv,2,none⟩=some (.slice (some ⟨g2,q2,none⟩) bn bc):=by rw [cell_of_row _ _ 2 _ _ _ hQ4.th,← HBA.out];rfl
              obtain ⟨fa,fn,fc,d3,hfn,HEL⟩:=sp_exs hQ4.sp HG2.out HX3.out HY3.out
              have hfn2:fn≤1048576:=Nat.le_trans hfn HEN.out
              have HEL:=Lib.hid HEL
              have HFN:=Lib.hid hfn
              clear hm4 hQ4 hfn
              by_cases hjf:j<fn
              · obtain ⟨g4, q4, e, hg4, ⟨k4, x0⟩, s4, x3⟩ := HEL.out j hjf
                rw [e] at d3
                clear e
                obtain ⟨t4,d5⟩:=sp_str HQ4.out.sp hg4 x3
                obtain ⟨m4,d6⟩:=sp_num HQ4.out.sp hg4 x0
                have f5:=sp_fr HQ4.out.sp hg4 (q4+j*6+3)
                have HR1:=sq_set HQ4.out hg4 x3 (.str _ ⟨#[103,111,110,101]⟩)
                obtain ⟨Z1,hZ1⟩:∃ Z,Z=wr.setCell ⟨g4,q4+j*6+3,none⟩ (.string ⟨#[103,111,110,101]⟩):=⟨_,rfl⟩
                rw [← hZ1] at HR1
                have ct1:Z1.cell? ⟨tbv,2,none⟩=some (.slice (some ⟨g2,q2,none⟩) bn bc):=by rw [cell_of_row _ _ 2 _ _ _ HR1.th,← HBA.out];rfl
                have d7:Z1.cell? ⟨g2,q2+k*7+3,none⟩=some (.slice (some ⟨g4,q4,none⟩) fn fc):=by
                 rw [hZ1,World.cell?_setCell_other _ _ _ _ (sp_ne x3 HX3.out (fun h=>by cases h))];exact d3
                have d8:Z1.cell? ⟨g4,q4+j*6,none⟩=some (.int .u8 m4):=by
                 rw [hZ1,World.cell?_setCell_other _ _ _ _ (sp_ne x3 x0 (fun h=>by cases h))];exact d6
                have f8:=sp_fr HR1.sp hg4 (q4+j*6)
                have HR2:=Lib.hid (sq_set HR1 hg4 x0 (.num _ _ 0))
                have hjf':(j:Int)<(fn:Int):=by omega
                have HJ:Hid (j+1≤es.length):=by have:=HFN.out;unfold Hid;omega
                have hz1:=hZ1.symm
                clear hZ1 HR1 hg4 x0 x3
                go_wp2_with fail
                go_roundg (es.length-(j+1)+1)
                case measure=>have:=HM4.out;have:=HJ.out;omega
                case rel=>exact ⟨j+1,rfl,HJ.out,by omega,HR2.out⟩
              · clear HM4
                have hjf':¬ (j:Int)<(fn:Int):=by omega
                go_wp2_with fail
                clear ct d3 hjf hjf' HEL HFN hfn2 hj1
                go_loopg [8] (sb.length+1) (fun m' u X=>∃ j:Nat,u=.int .i64 (j:Int)∧j≤sb.length∧m'=sb.length-j+1∧Sq lo hi W #[.slice a1 n1 c1,.slice a2 n2 c2,.slice a3 n3 c3] tbv #[.string s',.slice la ln lc,.slice ba bn bc,.int .i64 p'] X)
                case atStart=>exact ⟨0,rfl,Nat.zero_le _,by omega,HQ4.out⟩
                case round =>
                 obtain ⟨j,rfl,hj1,hm5,hQ5⟩:=hrel
                 have HM5:=Lib.hid hm5
                 have HQ5:=Lib.hid hQ5
                 have ct:wr.cell? ⟨tbv,2,none⟩=some (.slice (some ⟨g2,q2,none⟩) bn bc):=by rw [cell_of_row _ _ 2 _ _ _ hQ5.th,← HBA.out];rfl
                 obtain ⟨fa,fn,fc,d4,hfn,HEL⟩:=sp_sts hQ5.sp HG2.out HX4.out HY4.out
                 have hfn2:fn≤1048576:=Nat.le_trans hfn HSN.out
                 have HEL:=Lib.hid HEL
                 have HFN:=Lib.hid hfn
                 clear hm5 hQ5 hfn
                 by_cases hjf:j<fn
                 · obtain ⟨g4, q4, z4, e, hg4, _, hzi⟩ := HEL.out j hjf
                   rw [e] at d4
                   clear e
                   obtain ⟨kd4,n4,o4,es4,sb4,sl4,sp4⟩:=z4
                   obtain ⟨x0,x1,x2,⟨ea4,ec4,x3,_⟩,⟨ma4,mc4,x4,_⟩,⟨za4,zc4,x5,_⟩,x6⟩:=hzi
                   obtain ⟨m0,y0⟩:=sp_num HQ5.out.sp hg4 x0
                   obtain ⟨m1,y1⟩:=sp_str HQ5.out.sp hg4 x1
                   obtain ⟨m2,y2⟩:=sp_str HQ5.out.sp hg4 x2
                   obtain ⟨v3,y3⟩:∃ v,wr.cell? ⟨g4,q4+j*7+3,none⟩=some v:=(sp_sl HQ5.out.sp hg4 x3).elim (fun h=>⟨_,h⟩) (fun h=>⟨_,h⟩)
                   obtain ⟨v4,y4⟩:∃ v,wr.cell? ⟨g4,q4+j*7+4,none⟩=some v:=(sp_sl HQ5.out.sp hg4 x4).elim (fun h=>⟨_,h⟩) (fun h=>⟨_,h⟩)
                   obtain ⟨v5,y5⟩:∃ v,wr.cell? ⟨g4,q4+j*7+5,none⟩=some v:=(sp_sl HQ5.out.sp hg4 x5).elim (fun h=>⟨_,h⟩) (fun h=>⟨_,h⟩)
                   obtain ⟨m6,y6⟩:=sp_num HQ5.out.sp hg4 x6
                   have z0:=sp_fr HQ5.out.sp hg4 (q4+j*7)
                   have z1:=sp_fr HQ5.out.sp hg4 (q4+j*7+1)
                   have z2:=sp_fr HQ5.out.sp hg4 (q4+j*7+2)
                   have z3:=sp_fr HQ5.out.sp hg4 (q4+j*7+3)
                   have z4:=sp_fr HQ5.out.sp hg4 (q4+j*7+4)
                   have z5:=sp_fr HQ5.out.sp hg4 (q4+j*7+5)
                   have z6:=sp_fr HQ5.out.sp hg4 (q4+j*7+6)
                   have HR2:=Lib.hid (sq_set (sq_set (sq_set (sq_set (sq_set (sq_set (sq_set HQ5.out hg4 x0 (.num _ _ 0)) hg4 x1 (.str _ ⟨#[]⟩)) hg4 x2 (.str _ ⟨#[]⟩)) hg4 x3 (.nil _ _ _)) hg4 x4 (.nil _ _ _)) hg4 x5 (.nil _ _ _)) hg4 x6 (.num _ _ 0))
                   have hjf':(j:Int)<(fn:Int):=by omega
                   have HJ:Hid (j+1≤sb.length):=by have:=HFN.out;unfold Hid;omega
                   clear hg4 x0 x1 x2 x3 x4 x5 x6
                   go_wp2_with fail
                   go_roundg (sb.length-(j+1)+1)
                   case measure=>have:=HM5.out;have:=HJ.out;omega
                   case rel=>exact ⟨j+1,rfl,HJ.out,by omega,HR2.out⟩
                 · have hjf' : ¬ (j : Int) < (fn : Int) := by omega
                   obtain ⟨m0,y0⟩:=sp_num HQ5.out.sp HG2.out HX0.out
                   have z0:=sp_fr HQ5.out.sp HG2.out (q2+k*7)
                   have HR3:=Lib.hid (sq_set HQ5.out HG2.out HX0.out (.num _ _ 0))
                   go_wp2_with fail
                   go_roundg (bn-(k+1)+1)
                   case measure=>have:=HM3.out;omega
                   case rel=>exact ⟨k+1,rfl,by omega,by omega,HR3.out⟩
           · have : bn = k := by omega
             subst this
             go_wp2_with fail
             go_roundg (n3-(i+1)+1)
             case measure=>have:=HM.out;omega
             case rel=>exact ⟨i+1,rfl,by omega,by omega,HQ3.out.sp,HQ3.out.own⟩
     · have : n3 = i := by omega
       subst this
       go_wp2_with fail
       exact bodyPost_end (results_none rfl _ _ _) rfl ⟨rfl,HS.out⟩
open Go.RowKit
set_option linter.unusedVariables false
theorem nmEs_bare:∀ l:List Ex,nmEs (exsBare l)=nmEs l:=by
 intro l
 induction l using Exs.ind with
 | h0=>rfl
 | h1 k o wd nm ks p r ih1 ih2=>simp only [exsBare,Ex.bare,nmEs,nmE,ih1,ih2]
theorem nmSs_bare:∀ l:List St,nmSs (stsBare l)=nmSs l:=by
 intro l
 induction l using Sts.ind with
 | h0=>rfl
 | h1 k n o e b l p r ih1 ih2 ih3=>simp only [stsBare,St.bare,nmSs,nmS,ih1,ih2,ih3,nmEs_bare]
theorem nmDs_bare (l:List Dc):nmDs (l.map Dc.bare)=nmDs l:=by simp [nmDs,Dc.bare,Function.comp_def]
theorem nmTs_bare:∀ l:List Th,nmTs (l.map Th.bare)=nmTs l
 | []=>rfl
 | t :: r => by
   have:=nmTs_bare r
   simp only [nmTs] at this
   simp only [nmTs,List.map_cons,List.flatMap_cons,this,nmT,Th.bare,nmDs_bare,nmSs_bare]
theorem nmP_bare (x:Pg):nmP x.bare=nmP x:=by simp only [nmP,Pg.bare,nmDs_bare,nmTs_bare]
theorem ctEs_bare:∀ l:List Ex,ctEs (exsBare l)=ctEs l:=by
 intro l
 induction l using Exs.ind with
 | h0=>rfl
 | h1 k o wd nm ks p r ih1 ih2=>simp only [exsBare,Ex.bare,ctEs,ctE,ih1,ih2]
theorem ctSs_bare:∀ l:List St,ctSs (stsBare l)=ctSs l:=by
 intro l
 induction l using Sts.ind with
 | h0=>rfl
 | h1 k n o e b l p r ih1 ih2 ih3=>simp only [stsBare,St.bare,ctSs,ctS,ih1,ih2,ih3,ctEs_bare]
theorem ctTs_bare:∀ l:List Th,ctTs (l.map Th.bare)=ctTs l
 | []=>rfl
 | t::r=>by simp only [List.map_cons,ctTs,Th.bare,List.length_map,ctSs_bare,ctTs_bare r]
theorem ctP_bare (x:Pg):ctP x.bare=ctP x:=by simp only [ctP,Pg.bare,List.length_map,ctTs_bare]
def TrH (hi:Nat) (X:World) (y:Pg) (v:Value):Prop:=∃ s1 t1 s2 t2 s3 t3,v=.agg #[.slice s1 y.shared.length t1,.slice s2 y.locks.length t2,.slice s3 y.threads.length t3]∧dcsAt (fun b=>hi≤b∧b<X.heap.size) X y.shared s1∧dcsAt (fun b=>hi≤b∧b<X.heap.size) X y.locks s2∧thsAt (fun b=>hi≤b∧b<X.heap.size) X y.threads s3
theorem trH_pA {hi:Nat} {X:World} {y:Pg} {v:Value} (h:TrH hi X y v):pA X y v:=by
 obtain ⟨s1,t1,s2,t2,s3,t3,rfl,h1,h2,h3⟩:=h
 exact ⟨s1,t1,s2,t2,s3,t3,rfl,dcsAt_stays (Stays.refl _ _) (fun _ _=>trivial) h1,dcsAt_stays (Stays.refl _ _) (fun _ _=>trivial) h2,thsAt_stays (Stays.refl _ _) (fun _ _=>trivial) h3⟩
theorem trH_keep {hi:Nat} {X Y:World} {y:Pg} {v:Value} (h:TrH hi X y v) (hz:X.heap.size≤Y.heap.size) (hk:∀ b,hi≤b→b<X.heap.size→Y.heap[b]? = X.heap[b]?):TrH hi Y y v:=by
 obtain ⟨s1,t1,s2,t2,s3,t3,h0,h1,h2,h3⟩:=h
 have hs:Stays (fun b=>hi≤b∧b<X.heap.size) X Y:=fun b o u hb hu=>by rw [World.cell?_of_block (hk b hb.1 hb.2)];exact hu
 exact ⟨s1,t1,s2,t2,s3,t3,h0,dcsAt_stays hs (fun b hb=>⟨hb.1,by omega⟩) h1,dcsAt_stays hs (fun b hb=>⟨hb.1,by omega⟩) h2,thsAt_stays hs (fun b hb=>⟨hb.1,by omega⟩) h3⟩
theorem trH_below {hi:Nat} {X Y:World} {y:Pg} {v:Value} (h:TrH hi X y v) (hb:Below X.heap.size X Y):TrH hi Y y v:=trH_keep h hb.size fun b _ h2=>hb.block b h2
theorem trH_of {hi:Nat} {w X:World} {y:Pg} {s1 s2 s3:Option Addr} {t1 t2 t3:Nat} (hw:hi≤w.heap.size) (h1:dcsAt (Rf w.heap.size X) X y.shared s1) (h2:dcsAt (Rf w.heap.size X) X y.locks s2) (h3:thsAt (Rf w.heap.size X) X y.threads s3):TrH hi X y (.agg #[.slice s1 y.shared.length t1,.slice s2 y.locks.length t2,.slice s3 y.threads.length t3]) :=
 ⟨s1,t1,s2,t2,s3,t3,rfl,dcsAt_mono (dcsAt_in h1) (fun b hb=>⟨Nat.le_trans hw hb.1.1,hb.2⟩),dcsAt_mono (dcsAt_in h2) (fun b hb=>⟨Nat.le_trans hw hb.1.1,hb.2⟩),thsAt_stays (Stays.refl _ _) (fun b hb=>⟨Nat.le_trans hw hb.1.1,hb.2⟩) (thsAt_in h3)⟩
structure Bxs (w:World) (L:List (Nat × Array Value)) (X:World):Prop where
 own:∀ p∈L,Own X p.1 25 p.2
 bel:Below w.heap.size w X
theorem Bxs.below {w X Y:World} {L:List (Nat × Array Value)} (h:Bxs w L X) (hb:Below X.heap.size X Y):Bxs w L Y:=⟨fun p hp=>(h.own p hp).below hb,h.bel.trans (hb.mono h.bel.size)⟩
theorem Bxs.add {w X:World} {L:List (Nat × Array Value)} (h:Bxs w L X) (r:Array Value):Bxs w ((X.heap.size,r)::L) ((X.alloc (.cells #[.slice none 0 0,.slice none 0 0,.slice none 0 0] 25)).setRow X.heap.size r):=by
 have hB:=Below.of_row ((Below.refl X.heap.size X).alloc (Nat.le_refl _) (.cells #[.slice none 0 0,.slice none 0 0,.slice none 0 0] 25)) (g:=X.heap.size) (Nat.le_refl _) r
 refine ⟨fun p hp=>?_,(h.below hB).bel⟩
 rcases List.mem_cons.1 hp with rfl | hp
 · exact (Own.new X 25 #[.slice none 0 0,.slice none 0 0,.slice none 0 0]).row r
 · exact (h.below hB).own p hp
theorem add_below (X:World) (r:Array Value):Below X.heap.size X ((X.alloc (.cells #[.slice none 0 0,.slice none 0 0,.slice none 0 0] 25)).setRow X.heap.size r):=Below.of_row ((Below.refl X.heap.size X).alloc (Nat.le_refl _) (.cells #[.slice none 0 0,.slice none 0 0,.slice none 0 0] 25)) (g:=X.heap.size) (Nat.le_refl _) r
def Gv (x:Pg) (lo hi:Nat) (X:World) (v:Value):Prop:=∃ s1 t1 s2 t2 s3 t3,v=.agg #[.slice s1 x.shared.length t1,.slice s2 x.locks.length t2,.slice s3 x.threads.length t3]∧dcsAt (Rg lo hi X) X x.shared s1∧dcsAt (Rg lo hi X) X x.locks s2∧thsAt (Rg lo hi X) X x.threads s3
theorem gv_below {x:Pg} {lo hi:Nat} {X Y:World} {v:Value} (h:Gv x lo hi X v) (hh:hi≤X.heap.size) (hb:Below X.heap.size X Y):Gv x lo hi Y v:=by
 obtain ⟨s1,t1,s2,t2,s3,t3,h0,h1,h2,h3⟩:=h
 have hm:∀ b,Rg lo hi X b→Rg lo hi Y b:=fun b hb'=>⟨hb'.1,hb'.2.1,uf_below hb'.2.2 hb (by have:=hb'.2.1;omega)⟩
 exact ⟨s1,t1,s2,t2,s3,t3,h0,dcsAt_stays (stays_below hb) hm h1,dcsAt_stays (stays_below hb) hm h2,thsAt_stays (stays_below hb) hm h3⟩
theorem gv_pA {x:Pg} {lo hi:Nat} {X:World} {v:Value} (h:Gv x lo hi X v):pA X x v:=by
 obtain ⟨s1,t1,s2,t2,s3,t3,rfl,h1,h2,h3⟩:=h
 exact ⟨s1,t1,s2,t2,s3,t3,rfl,dcsAt_stays (Stays.refl _ _) (fun _ _=>trivial) h1,dcsAt_stays (Stays.refl _ _) (fun _ _=>trivial) h2,thsAt_stays (Stays.refl _ _) (fun _ _=>trivial) h3⟩
theorem gv_of {x:Pg} {w X:World} {s1 s2 s3:Option Addr} {t1 t2 t3:Nat} (h1:dcsAt (Rf w.heap.size X) X x.shared s1) (h2:dcsAt (Rf w.heap.size X) X x.locks s2) (h3:thsAt (Rf w.heap.size X) X x.threads s3):Gv x w.heap.size X.heap.size X (.agg #[.slice s1 x.shared.length t1,.slice s2 x.locks.length t2,.slice s3 x.threads.length t3]) :=
 ⟨s1,t1,s2,t2,s3,t3,rfl,dcsAt_mono (dcsAt_in h1) (fun b hb=>⟨hb.1.1,hb.2,hb.1.2⟩),dcsAt_mono (dcsAt_in h2) (fun b hb=>⟨hb.1.1,hb.2,hb.1.2⟩),thsAt_stays (Stays.refl _ _) (fun b hb=>⟨hb.1.1,hb.2,hb.1.2⟩) (thsAt_in h3)⟩
theorem bxs_sp {w X Y:World} {L:List (Nat × Array Value)} {lo hi:Nat} (h:Bxs w L X) (hs:Sp lo hi X Y) (hlo:w.heap.size≤lo) (hL:∀ p∈L,p.1<lo∨hi≤p.1):Bxs w L Y:=by
 refine ⟨fun p hp=>?_,h.bel.trans (hs.below.mono hlo)⟩
 have ho:=h.own p hp
 rcases hL p hp with h1 | h1
 · exact (hs.below.block _ h1).trans ho
 · exact (hs.far _ h1 ho.lt).trans ho
theorem trH_sp {X Y:World} {y:Pg} {v:Value} {lo hi:Nat} (h:TrH hi X y v) (hs:Sp lo hi X Y):TrH hi Y y v:=trH_keep h hs.below.size hs.far
theorem r_Strings {base base2:Nat} {w:World} {l:List (List UInt8)} {a a2:Option Addr} {c c2:Nat} (h:strsAt base w l a) (h2:strsAt base2 w l a2) (hl:l.length≤2097152):Calls Tryz.prog 8 #[.slice a l.length c,.slice a2 l.length c2] w fun e w'=>e=.returned (.bool true)∧Below w.heap.size w w':=by
 obtain ⟨n,hn⟩:∃ n,n=l.length:=⟨_,rfl⟩
 rw [← hn] at hl ⊢
 have HN:=Lib.hid hn
 have H:=Lib.hid h
 have H2:=Lib.hid h2
 clear h h2 hn
 go_enter Tryz.func8,Tryz.ntmps8
 go_wp2_with fail
 go_loopg [5] (n+1) (fun m' u X=>∃ i:Nat,u=.int .i64 (i:Int)∧i≤n∧m'=n-i+1∧Below w.heap.size w X)
 case atStart=>exact ⟨0,rfl,Nat.zero_le _,by omega,Below.refl _ _⟩
 case round =>
  obtain ⟨i,rfl,hi,hm,hX⟩:=hrel
  have HM:=Lib.hid hm
  have HX:=Lib.hid hX
  clear hm
  by_cases hin:i<n
  · have il : i < l.length := by have := HN.out; omega
    have g1:l[i]? = some l[i]:=List.getElem?_eq_getElem il
    obtain ⟨g,rfl,_,k2,_⟩:=H.out i _ g1
    obtain ⟨g',rfl,_,k4,_⟩:=H2.out i _ g1
    have d2:wr.cell? ⟨g,i,none⟩=some (.string ⟨l[i].toArray⟩):=by rw [hX.cell (p:=⟨g,i,none⟩) (cell_lt k2)];exact k2
    have d4:wr.cell? ⟨g',i,none⟩=some (.string ⟨l[i].toArray⟩):=by rw [hX.cell (p:=⟨g',i,none⟩) (cell_lt k4)];exact k4
    obtain ⟨u,hu⟩:∃ u,u=(⟨l[i].toArray⟩:ByteArray):=⟨_,rfl⟩
    rw [← hu] at d2 d4
    have q1:=bytes_eqT (rfl:u=u)
    have hin':(i:Int)<(n:Int):=by omega
    have HGO:Hid (∀ X,Below wr.heap.size wr X→Below w.heap.size w X):=fun X h=>HX.out.trans (h.mono HX.out.size)
    clear hu g1 il k2 k4 hX
    go_wp2_with fail
    go_quiet (fail)
    go_wp2_with fail
    go_roundg (n-(i+1)+1)
    case measure=>have:=HM.out;omega
    case rel=>exact ⟨i+1,rfl,by omega,by omega,HGO.out _ (by first | exact below_drewN (Below.refl _ _) _ | exact Below.refl _ _)⟩
  · have : i = n := by omega
    subst this
    clear hX
    go_wp2_with fail
    go_ret
    exact ⟨rfl,HX.out⟩
end Go.Proofs.YtkheldgmpgefiaaGreatDoor

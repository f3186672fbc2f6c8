/- The proof, part 33: texts that belong together, in one. -/
import Derived.Test.YtimccjlhhjjcpaaGreatDoorVBF
import Derived.Test.YtimccjlhhjjcpaaGreatDoorVAT
import Derived.Test.YtimccjlhhjjcpaaGreatDoorVAW
import Derived.Test.YtimccjlhhjjcpaaGreatDoorVBB
set_option maxRecDepth 100000
set_option maxHeartbeats 20000000
namespace Go.Proofs.YtimccjlhhjjcpaaGreatDoor
open Go.RowKit Go.Maps
set_option linter.unusedVariables false
def strsAt (base:Nat) (W:World) (l:List (List UInt8)) (a:Option Addr):Prop:=∀ i s,l[i]? = some s→∃ g,a=some ⟨g,0,none⟩∧base≤g∧W.cell? ⟨g,i,none⟩=some (.string ⟨s.toArray⟩)∧W.frozen? ⟨g,i,none⟩=false
theorem strsAt_below {base:Nat} {W W':World} {l:List (List UInt8)} {a:Option Addr} (h:strsAt base W l a) (hb:Below W.heap.size W W'):strsAt base W' l a:=fun i s hs=>by
 obtain ⟨g,e,h1,h2,h3⟩:=h i s hs
 have hl:g<W.heap.size:=cell_lt h2
 exact ⟨g,e,h1,by rw [hb.cell (p:=⟨g,i,none⟩) hl];exact h2,by rw [hb.frozen (p:=⟨g,i,none⟩) hl];exact h3⟩
theorem strsAt_same {base:Nat} {W:World} {l:List (List UInt8)} {a:Option Addr} (h:strsAt base W l a) {i:Nat} {s:List UInt8} (hi:l[i]? = some s) {g:Nat} (hg:a=some ⟨g,0,none⟩):strsAt base (W.setCell ⟨g,i,none⟩ (.string ⟨s.toArray⟩)) l a:=fun j u hu=>by
 obtain ⟨g2,e2,h1,h2,h3⟩:=h j u hu
 obtain ⟨g3,e3,k1,k2,k3⟩:=h i s hi
 refine ⟨g2,e2,h1,?_,by rw [World.frozen?_setCell];exact h3⟩
 by_cases e:(⟨g,i,none⟩:Addr)=⟨g2,j,none⟩
 · have e4 := hg.symm.trans e3
   have e5:g=g3:=by injection e4 with e4;injection e4
   rw [← e] at h2 ⊢
   rw [e5,k2] at h2
   rw [World.cell?_setCell_same _ _ _ (by rw [e5];exact k2)]
   exact h2
 · rw [World.cell?_setCell_other _ _ _ _ e];exact h2
theorem strsAt_row {base:Nat} {W:World} {v:Value} {l:List (List UInt8)} (h:W.ownsRow base 9 1 v l.length (l.map encStr)):∃ a c,v=.slice a l.length c∧strsAt base W l a:=by
 have h9:=h
 obtain ⟨hx,h | ⟨g,cap,cur,rfl,hb,hh,h1,h2,h3,h4⟩⟩:=h
 · obtain ⟨rfl, h⟩ := h
   obtain rfl:l=[]:=List.eq_nil_of_length_eq_zero h
   exact ⟨none,0,rfl,fun i s hs=>by simp at hs⟩
 · refine ⟨some ⟨g, 0, none⟩, cap, rfl, fun i s hs => ⟨g, rfl, hb, ?_, h9.frozenAt i⟩⟩
   have hi:i<l.length:=(List.getElem?_eq_some_iff.1 hs).1
   have h5:=h9.cellAt i (by omega)
   rw [h5,List.getElem?_map,hs];rfl
def NmsP (x:Pg) (w:World) (e:Ending) (w':World):Prop:=∃ a l c,e=.returned (.slice a l.length c)∧NL (nmP x) l∧l.length≤2097152∧(∀ s∈l,s.length≤140737488355328)∧strsAt w.heap.size w' l a∧Below w.heap.size w w'
structure B3 (w:World) (r:Array Value) (W:World):Prop where
 own0:Own W w.heap.size 25 r
 own1:W.heap[w.heap.size+1]? = some (.map #[] 0)
 own2:Own W (w.heap.size+2) 45 #[.map (some (w.heap.size+1))]
 bel:Below w.heap.size w W
theorem b3_new (w:World) (r:Array Value):B3 w r (((w.alloc (.cells r 25)).alloc (.map #[] 0)).alloc (.cells #[.map (some (w.heap.size+1))] 45)):=by
 have h0:=Own.new w 25 r
 have h1:((w.alloc (.cells r 25)).alloc (.map #[] 0)).heap[w.heap.size+1]? = some (.map #[] 0):=by
  have:=World.alloc_heap_new (w.alloc (.cells r 25)) (.map #[] 0)
  rw [World.size_alloc] at this;exact this
 have h2:=Own.new ((w.alloc (.cells r 25)).alloc (.map #[] 0)) 45 #[.map (some (w.heap.size+1))]
 simp only [World.size_alloc] at h2
 refine ⟨(h0.alloc _).alloc _,?_,h2,((((Below.refl _ w).alloc (Nat.le_refl _) _).alloc (by simp only [World.size_alloc];omega) _).alloc (by simp only [World.size_alloc];omega) _)⟩
 exact (((Below.refl _ ((w.alloc (.cells r 25)).alloc (.map #[] 0))).alloc (Nat.le_refl _) (.cells #[.map (some (w.heap.size+1))] 45)).block _ (by simp only [World.size_alloc];omega)).trans h1
theorem vp_nk {R:Nat→Prop} {fb m:Nat} {w0:World} : VpN (.pointer (some ⟨fb,0,none⟩)) R w0 (GdN w0) (Nk fb m w0) :=
 ⟨fun h hb=>nk_keep h hb,fun h=>nk_sk h,fun h=>gdN_pre h,fun h hv hn hg=>nk_step h hv hn hg⟩
theorem p_Names (x:Pg) (hf:fitP x) (hok:okP x) (hb:ctP x≤1048576) {v:Value} {w:World} (hv:pA w x v):Calls Tryz.prog 9 #[v] w (NmsP x w):=by
 have HCL:Hid (∀ (u:ByteArray) X,u.size≤140737488355328→Calls Tryz.prog 30 #[.string u] X fun e w'=>e=.returned (.string u)∧Below X.heap.size X w'):=fun u X hu=>p_clone u hu X
 have HEP:Hid (∀ (W:World) a1 c1 a2 c2 a3 c3,v=.agg #[.slice a1 x.shared.length c1,.slice a2 x.locks.length c2,.slice a3 x.threads.length c3]→dcsAt (fun _=>True) w x.shared a1→dcsAt (fun _=>True) w x.locks a2→thsAt (fun _=>True) w x.threads a3→B3 w #[.slice a1 x.shared.length c1,.slice a2 x.locks.length c2,.slice a3 x.threads.length c3] W →
  Calls Tryz.prog 26 #[v,.func (.func 27) #[] #[.pointer (some ⟨w.heap.size+2,0,none⟩)]] W fun e w'=>e=.returned (.tuple #[])∧w'.cell? ⟨w.heap.size+2,0,none⟩=some (.map (some (w.heap.size+1)))∧Below w.heap.size w w'∧∃ (n:Nat) (D:DataW Unit),n≤2097152∧MO w' (w.heap.size+1) n D∧∀ s,has D (.string s)=true↔s≠[]∧(⟨s.toArray⟩:ByteArray)∈nmP x):=fun W a1 c1 a2 c2 a3 c3 e h1 h2 h3 hB=>by
  subst e
  have k1:dcsAt (fun _=>True) W x.shared a1:=dcsAt_below h1 hB.bel
  have k2:dcsAt (fun _=>True) W x.locks a2:=dcsAt_below h2 hB.bel
  have k3:thsAt (fun _=>True) W x.threads a3:=thsAt_below h3 hB.bel
  have c0:W.cell? ⟨w.heap.size+2,0,none⟩=some (.map (some (w.heap.size+1))):=by rw [cell_of_row _ _ 0 _ _ _ hB.own2];rfl
  have mo:MO W (w.heap.size+1) 0 (.map []):=⟨#[],0,hB.own1,⟨by simp,Go.MapKept.stamped_empty 0,by simp⟩,Nat.le_refl _,rfl⟩
  refine (p_eachPartN vp_nk hok k1 k2 k3 (nk_nil ⟨_,_,hB.own1⟩ c0 mo) (gdN_P hb hf k1 k2 k3)).mono fun e w' h=>⟨h.1,nk_cell h.2 c0,?_,?_⟩
  · exact hB.bel.grown h.2.grown hB.bel.size (fun j hj=>by have:=Option.some.inj hj;omega)
  · obtain ⟨n, D, hn, hD, hk⟩ := h.2.map
    refine ⟨n,D,?_,hD,fun s=>(hk s).trans (and_congr Iff.rfl (nmC_P k1 k2 k3 _))⟩
    have:=vP_ct W hb a1 a2 a3
    omega
 have HNM:Hid (∀ s∈nmP x,nmOk s):=fitP_nm hf
 obtain ⟨a1,c1,a2,c2,a3,c3,rfl,h1,h2,h3⟩:=hv
 show Calls _ _ _ _ (NmsP x w)
 have HEQ:Hid (∀ (W:World),B3 w #[.slice a1 x.shared.length c1,.slice a2 x.locks.length c2,.slice a3 x.threads.length c3] W→Calls Tryz.prog 26 #[.agg #[.slice a1 x.shared.length c1,.slice a2 x.locks.length c2,.slice a3 x.threads.length c3],.func (.func 27) #[] #[.pointer (some ⟨w.heap.size+2,0,none⟩)]] W fun e w'=>e=.returned (.tuple #[])∧w'.cell? ⟨w.heap.size+2,0,none⟩=some (.map (some (w.heap.size+1)))∧Below w.heap.size w w'∧∃ (n:Nat) (D:DataW Unit),n≤2097152∧MO w' (w.heap.size+1) n D∧∀ s,has D (.string s)=true↔s≠[]∧(⟨s.toArray⟩:ByteArray)∈nmP x):=fun W hB=>HEP.out W a1 c1 a2 c2 a3 c3 rfl h1 h2 h3 hB
 clear HEP
 generalize x.shared.length=n1 at *
 generalize x.locks.length=n2 at *
 generalize x.threads.length=n3 at *
 have HX:=Lib.hid (b3_new w #[.slice a1 n1 c1,.slice a2 n2 c2,.slice a3 n3 c3])
 obtain ⟨W0,hW0⟩:∃ W,W=((w.alloc (.cells #[.slice a1 n1 c1,.slice a2 n2 c2,.slice a3 n3 c3] 25)).alloc (.map #[] 0)).alloc (.cells #[.map (some (w.heap.size+1))] 45):=⟨_,rfl⟩
 rw [← hW0] at HX
 have HW0:=Lib.hid hW0
 clear hW0 hf hok hb h1 h2 h3
 have hmm:=@run_makeMap Tryz.prog
 go_enter Tryz.func9,Tryz.ntmps9
 go_upto_region 2 with (fail)
 rw [show w.heap.size+1+1=w.heap.size+2 from rfl,← HW0.out]
 have O1:=HX.out.own0
 clear HW0 hmm
 have hmf:∀ (fn:Fn) (first cap:Array Value) (w:World),(Instr.makeFunc fn first cap).run Tryz.prog w=.ok (.func fn first cap) w:=fun _ _ _ _=>rfl
 go_wp2_with (refine ld rowPg rfl rfl rfl O1 rfl ?_)
 go_at_call 26
 refine (HEQ.out _ HX.out).mono ?_
 rintro e w4 ⟨rfl,cM,hb4,n,D,hn,hD,hk⟩
 have HS:=Lib.hid (k_sorted (w.heap.size+1) n D _ w4 hD (Nat.le_trans (size_le hD) (by unfold maxLen;omega)) (by have:=size_le hD;omega))
 have HKO:=Lib.hid (keys_of hD)
 have HSZ:=Lib.hid (size_le hD)
 have HK:=Lib.hid hk
 have HNN:=Lib.hid hn
 have HB4:=Lib.hid hb4
 clear hk hD hn hb4 O1 HX HEQ
 go_wp2_with fail
 go_at_call 29
 refine (k_keys _ _).mono ?_
 rintro e w5 ⟨rfl,rfl⟩
 go_wp2_with fail
 go_at_call 28
 refine HS.out.mono ?_
 rintro e w6 ⟨v,ss,rfl,hperm,hrow,_,hb6⟩
 obtain ⟨l,hl⟩:∃ l,l=ss.mergeSort (fun x y=>decide (x≤y)):=⟨_,rfl⟩
 have hlen:ss.length=l.length:=by rw [hl,List.length_mergeSort]
 rw [← hl,hlen] at hrow
 obtain ⟨sa,sc,rfl,hst⟩:=strsAt_row hrow
 have hpl:l.Perm (strKeys D):=by rw [hl];exact (List.mergeSort_perm _ _).trans hperm
 have hNL:NL (nmP x) l:=by
  refine ⟨?_,fun s=>?_⟩
  · rw [hl];exact sorted_rise (hperm.nodup_iff.2 HKO.out.1)
  · rw [hpl.mem_iff,HKO.out.2,HK.out]
 have hl2:l.length≤2097152:=by
  have h1:l.length=Maps.size D:=by
   rw [hpl.length_eq]
   have:∀ D:DataW Unit,(strKeys D).length=Maps.size D:=fun D=>by cases D <;> simp [strKeys,Maps.size]
   exact this D
  have:=HSZ.out;have:=HNN.out;omega
 have hshort:∀ s∈l,s.length≤140737488355328:=fun s hs=>by
  have:=HNM.out _ ((hNL.2 s).1 hs).2
  unfold nmOk at this
  simpa [ByteArray.size] using this
 have hb7:Below w.heap.size w w6:=HB4.out.trans (((Below.refl w.heap.size w4).alloc HB4.out.size (.cells #[.map (some (w.heap.size+1))] 45)).trans (hb6.mono (by have:=HB4.out.size;simp only [World.size_alloc];omega)))
 have hst7:strsAt w.heap.size w6 l sa:=fun i s hs=>by
  obtain ⟨g,e,h1,h2⟩:=hst i s hs
  exact ⟨g,e,by have:=HB4.out.size;simp only [World.size_alloc] at h1;omega,h2⟩
 have HST:=Lib.hid hst7
 have HB7:=Lib.hid hb7
 have HNL:=Lib.hid hNL
 have HL2:=Lib.hid hl2
 have HSH:=Lib.hid hshort
 obtain ⟨n,hn⟩:∃ n,n=l.length:=⟨_,rfl⟩
 have HN:=Lib.hid hn
 clear hperm hrow hb6 hl hlen hst hpl hNL hl2 hshort hb7 hst7 cM HKO HSZ HNN HK HB4 HS
 rw [← hn]
 clear hn
 have hn63:n≤2097152:=by rw [HN.out];exact HL2.out
 go_wp2_with fail
 go_loopg [15] (n+1) (fun m' u X=>∃ i:Nat,u=.int .i64 (i:Int)∧i≤n∧m'=n-i+1∧strsAt w.heap.size X l sa∧Below w.heap.size w X)
 case atStart=>exact ⟨0,rfl,Nat.zero_le _,by omega,HST.out,HB7.out⟩
 case round =>
  obtain ⟨i,rfl,hi,hm,hZ,hbz⟩:=hrel
  have HM:=Lib.hid hm
  have HZ:=Lib.hid hZ
  have HBZ:=Lib.hid hbz
  clear hm
  by_cases hin:i<n
  · have il : i < l.length := by have := HN.out; omega
    have g1:l[i]? = some l[i]:=List.getElem?_eq_getElem il
    obtain ⟨g,rfl,k1,k2,k3⟩:=hZ i _ g1
    have hsh:=HSH.out _ (List.getElem_mem il)
    generalize l[i]=s at k2 g1 hsh
    have HCS:Hid (∀ X,Calls Tryz.prog 30 #[.string ⟨s.toArray⟩] X fun e w'=>e=.returned (.string ⟨s.toArray⟩)∧Below X.heap.size X w'):=fun X=>HCL.out ⟨s.toArray⟩ X (by simpa [ByteArray.size] using hsh)
    have hin':(i:Int)<(n:Int):=by omega
    have HG1:=Lib.hid g1
    obtain ⟨u,hu⟩:∃ u,u=(⟨s.toArray⟩:ByteArray):=⟨_,rfl⟩
    rw [← hu] at k2 HCS
    have HU:=Lib.hid hu
    clear hu g1 hsh il hZ hbz
    go_wp2_with fail
    go_at_call 30
    refine (HCS.out _).mono ?_
    rintro e w8 ⟨rfl,hb⟩
    have hlt:g<wr.heap.size:=cell_lt k2
    have c8:w8.cell? ⟨g,i,none⟩=some (.string u):=by rw [hb.cell (p:=⟨g,i,none⟩) hlt];exact k2
    have f8:w8.frozen? ⟨g,i,none⟩=false:=by rw [hb.frozen (p:=⟨g,i,none⟩) hlt];exact k3
    have HQ:Hid (strsAt w.heap.size (w8.setCell ⟨g,i,none⟩ (.string u)) l (some ⟨g,0,none⟩)∧Below w.heap.size w (w8.setCell ⟨g,i,none⟩ (.string u))):=by
     refine ⟨?_,(HBZ.out.trans (hb.mono HBZ.out.size)).setCell k1 _⟩
     rw [HU.out]
     exact strsAt_same (strsAt_below HZ.out hb) HG1.out rfl
    clear hb k2 k3 hlt
    go_wp2_with fail
    go_roundg (n-(i+1)+1)
    case measure=>have:=HM.out;omega
    case rel=>exact ⟨i+1,rfl,by omega,by omega,HQ.out.1,HQ.out.2⟩
  · have : i = n := by omega
    subst this
    clear hZ hbz
    go_wp2_with fail
    go_ret
    exact ⟨sa,l,sc,by rw [← HN.out];rfl,HNL.out,HL2.out,HSH.out,HZ.out,HBZ.out⟩
open Go.RowKit
set_option linter.unusedVariables false
structure B4 (w:World) (f t:ByteArray) (r z:Array Value) (W:World):Prop where
 own0:Own W w.heap.size 25 r
 own1:Own W (w.heap.size+1) 9 #[.string f]
 own2:Own W (w.heap.size+2) 9 #[.string t]
 own3:Own W (w.heap.size+3) 25 z
 bel:Below w.heap.size w W
theorem b4_new (w:World) (f t:ByteArray) (r z:Array Value):B4 w f t r z ((((w.alloc (.cells r 25)).alloc (.cells #[.string f] 9)).alloc (.cells #[.string t] 9)).alloc (.cells z 25)):=by
 have h0:=Own.new w 25 r
 have h1:=Own.new (w.alloc (.cells r 25)) 9 #[.string f]
 have h2:=Own.new ((w.alloc (.cells r 25)).alloc (.cells #[.string f] 9)) 9 #[.string t]
 have h3:=Own.new (((w.alloc (.cells r 25)).alloc (.cells #[.string f] 9)).alloc (.cells #[.string t] 9)) 25 z
 simp only [World.size_alloc] at h1 h2 h3
 exact ⟨((h0.alloc _).alloc _).alloc _,(h1.alloc _).alloc _,h2.alloc _,h3,((((Below.refl _ w).alloc (Nat.le_refl _) _).alloc (by simp only [World.size_alloc];omega) _).alloc (by simp only [World.size_alloc];omega) _).alloc (by simp only [World.size_alloc];omega) _⟩
theorem b4_below {w W W':World} {f t:ByteArray} {r z:Array Value} (h:B4 w f t r z W) (hb:Below W.heap.size W W'):B4 w f t r z W':=⟨h.own0.below hb,h.own1.below hb,h.own2.below hb,h.own3.below hb,h.bel.trans (hb.mono h.bel.size)⟩
theorem vp_zr {B fb tb:Nat} {f t:ByteArray} {w0:World} : VpR (.pointer (some ⟨fb,0,none⟩)) (.pointer (some ⟨tb,0,none⟩)) (Rz B w0) w0 (fun l=>∀ z∈l,z.nm.length≤2) (Zr B fb tb f t w0) :=
 ⟨fun h hb=>⟨zn_keep h.zn hb,h.cf,h.ct,h.lf,h.lt,h.ok⟩,fun h=>zn_sk h.zn,fun h z hz=>h z (by simp [hz]),fun h hv hn hg=>zr_step h hv hn (hg _ (by simp))⟩
def RenP (x:Pg) (f t:ByteArray) (w:World) (e:Ending) (w':World):Prop:=∃ s1 t1 s2 t2 s3 t3,e=.returned (.agg #[.slice s1 x.shared.length t1,.slice s2 x.locks.length t2,.slice s3 x.threads.length t3])∧dcsAt (Rf w.heap.size w') w' (x.shared.map (Dc.ren (gR f t))) s1∧dcsAt (Rf w.heap.size w') w' (x.locks.map (Dc.ren (gR f t))) s2∧thsAt (Rf w.heap.size w') w' (x.threads.map (Th.ren (gR f t))) s3∧Below w.heap.size w w'
theorem p_renamed (x:Pg) (hf:fitP x) (hok:okP x) (hr:rP x=true) (f t:ByteArray) (ht:nmOk t) {v:Value} {w:World} (hv:pA w x v):Calls Tryz.prog 22 #[v,.string f,.string t] w (RenP x f t w):=by
 have HCP:Hid (∀ W,Below w.heap.size w W→Calls Tryz.prog 45 #[v] W (CpyP x W)):=fun W hW=>p_CopyF x hf (pA_below hv hW)
 have HEP:Hid (∀ (W:World) s1 t1 s2 t2 s3 t3,w.heap.size+4≤W.heap.size→W.cell? ⟨w.heap.size+1,0,none⟩=some (.string f)→W.cell? ⟨w.heap.size+2,0,none⟩=some (.string t)→dcsAt (Rz (w.heap.size+4) W) W x.shared s1→dcsAt (Rz (w.heap.size+4) W) W x.locks s2→thsAt (Rz (w.heap.size+4) W) W x.threads s3→Calls Tryz.prog 26 #[.agg #[.slice s1 x.shared.length t1,.slice s2 x.locks.length t2,.slice s3 x.threads.length t3],.func (.func 56) #[] #[.pointer (some ⟨w.heap.size+1,0,none⟩),.pointer (some ⟨w.heap.size+2,0,none⟩)]] W fun e w'=>e=.returned (.tuple #[])∧∃ L,Zn (w.heap.size+4) W (gR f t) L w'∧dcsAt (Rf (w.heap.size+4) w') w' (x.shared.map (Dc.ren (gR f t))) s1∧dcsAt (Rf (w.heap.size+4) w') w' (x.locks.map (Dc.ren (gR f t))) s2∧thsAt (Rf (w.heap.size+4) w') w' (x.threads.map (Th.ren (gR f t))) s3):=fun W s1 t1 s2 t2 s3 t3 hl c1 c2 h1 h2 h3 =>
  (p_eachPartR vp_zr hok h1 h2 h3 ⟨zn_nil hl,c1,c2,by omega,by omega,ht⟩ (vP_two W x s1 s2 s3)).mono fun e w' h=>⟨h.1,_,h.2.zn,dcsAt_zn h.2.zn h1 (fun z hz=>by simp [adr_app,hz]),dcsAt_zn h.2.zn h2 (fun z hz=>by simp [adr_app,hz]),thsAt_zn h.2.zn h3 (fxP_of (gR_empty f t) hr) (fun z hz=>by simp [adr_app,hz])⟩
 obtain ⟨a1,c1,a2,c2,a3,c3,rfl,_⟩:=hv
 show Calls _ _ _ _ (fun e w'=>∃ s1 t1 s2 t2 s3 t3,e=.returned (.agg #[.slice s1 x.shared.length t1,.slice s2 x.locks.length t2,.slice s3 x.threads.length t3])∧dcsAt (Rf w.heap.size w') w' (x.shared.map (Dc.ren (gR f t))) s1∧dcsAt (Rf w.heap.size w') w' (x.locks.map (Dc.ren (gR f t))) s2∧thsAt (Rf w.heap.size w') w' (x.threads.map (Th.ren (gR f t))) s3∧Below w.heap.size w w')
 unfold CpyP at HCP
 generalize x.shared.length=n1 at *
 generalize x.locks.length=n2 at *
 generalize x.threads.length=n3 at *
 have HX:=Lib.hid (b4_new w f t #[.slice a1 n1 c1,.slice a2 n2 c2,.slice a3 n3 c3] zPg)
 obtain ⟨W0,hW0⟩:∃ W,W=(((w.alloc (.cells #[.slice a1 n1 c1,.slice a2 n2 c2,.slice a3 n3 c3] 25)).alloc (.cells #[.string f] 9)).alloc (.cells #[.string t] 9)).alloc (.cells zPg 25):=⟨_,rfl⟩
 rw [← hW0] at HX
 have HW0:=Lib.hid hW0
 clear hW0 hf hok hr
 go_enter Tryz.func22,Tryz.ntmps22
 go_upto_region 1 with (fail)
 rw [show (#[.slice none 0 0,.slice none 0 0,.slice none 0 0]:Array Value)=zPg from rfl,← HW0.out]
 have O1:=HX.out.own0
 go_wp2_with (refine ld rowPg rfl rfl rfl O1 rfl ?_)
 go_at_call 45
 refine (HCP.out _ HX.out.bel).mono ?_
 rintro e w2 ⟨s1,t1,s2,t2,s3,t3,rfl,e1,e2,e3,hb⟩
 have HX2:=Lib.hid (b4_below HX.out hb)
 have hlt:=HX.out.own3.lt
 have hs2:w.heap.size+4≤w2.heap.size:=by have:=hb.size;omega
 have O3:=Own.new w2 25 #[.slice none 0 0,.slice none 0 0,.slice none 0 0]
 have B3:Below w2.heap.size w2 ((w2.alloc (.cells #[.slice none 0 0,.slice none 0 0,.slice none 0 0] 25)).setRow w2.heap.size #[.slice s1 n1 t1,.slice s2 n2 t2,.slice s3 n3 t3]):=Below.of_row ((Below.refl _ w2).alloc (Nat.le_refl _) _) (Nat.le_refl _) _
 have R3:=O3.row #[.slice s1 n1 t1,.slice s2 n2 t2,.slice s3 n3 t3]
 have HX3:=Lib.hid (b4_below HX2.out B3)
 obtain ⟨W3,hW3⟩:∃ W,W=(w2.alloc (.cells #[.slice none 0 0,.slice none 0 0,.slice none 0 0] 25)).setRow w2.heap.size #[.slice s1 n1 t1,.slice s2 n2 t2,.slice s3 n3 t3]:=⟨_,rfl⟩
 rw [← hW3] at B3 R3 HX3
 have B3':=B3
 have HW3:=Lib.hid hW3
 have HZ1:Hid (dcsAt (Rz (w.heap.size+4) W3) W3 x.shared s1):=dcsAt_stays (Stays.refl _ _) (fun b hb=>rz_of (B':=w.heap.size+4) (Nat.le_refl _) ⟨⟨hb.1.1,hb.1.2⟩,hb.2⟩) (dcsAt_in (dcsAt_rf e1 (chg_below B3) (by omega)))
 have HZ2:Hid (dcsAt (Rz (w.heap.size+4) W3) W3 x.locks s2):=dcsAt_stays (Stays.refl _ _) (fun b hb=>rz_of (B':=w.heap.size+4) (Nat.le_refl _) ⟨⟨hb.1.1,hb.1.2⟩,hb.2⟩) (dcsAt_in (dcsAt_rf e2 (chg_below B3) (by omega)))
 have HZ3:Hid (thsAt (Rz (w.heap.size+4) W3) W3 x.threads s3):=thsAt_stays (Stays.refl _ _) (fun b hb=>rz_of (B':=w.heap.size+4) (Nat.le_refl _) ⟨⟨hb.1.1,hb.1.2⟩,hb.2⟩) (thsAt_in (thsAt_rf e3 (chg_below B3) (by omega)))
 have HG:=Lib.hid R3
 have HS2:Hid (w.heap.size+4≤W3.heap.size):=Nat.le_trans hs2 B3'.size
 have HCF:Hid (W3.cell? ⟨w.heap.size+1,0,none⟩=some (.string f)):=by rw [Hid,cell_of_row _ _ 0 _ _ _ HX3.out.own1];rfl
 have HCT:Hid (W3.cell? ⟨w.heap.size+2,0,none⟩=some (.string t)):=by rw [Hid,cell_of_row _ _ 0 _ _ _ HX3.out.own2];rfl
 clear hW3 hb e1 e2 e3 HX HX2 O1 B3 B3' HCP hlt hs2 R3
 go_upto_region 2 with (refine st rowPg rfl rfl O3 rfl rfl (by rfl) (by rfl) (by kernel_rfl) ?_)
 rw [← HW3.out]
 clear HW3 O3
 have R3:=HG.out
 go_wp2_with (refine ld rowPg rfl rfl rfl R3 rfl ?_)
 go_at_call 26
 refine (HEP.out _ _ _ _ _ _ _ HS2.out HCF.out HCT.out HZ1.out HZ2.out HZ3.out).mono ?_
 rintro e w4 ⟨rfl,L,hz,k1,k2,k3⟩
 have hno:∀ (o:Nat) (n:ByteArray),(#[.slice s1 n1 t1,.slice s2 n2 t2,.slice s3 n3 t3]:Array Value)[o]? ≠ some (.string n):=fun o n h=>by
  match o,h with
  | 0,h=>cases h
  | 1,h=>cases h
  | 2,h=>cases h
  | o+3,h=>simp at h
 have hno2:∀ (o:Nat) (n:ByteArray),(zPg:Array Value)[o]? ≠ some (.string n):=fun o n h=>by
  match o,h with
  | 0,h=>cases h
  | 1,h=>cases h
  | 2,h=>cases h
  | o+3,h=>simp [zPg] at h
 have P4:=own_zn hz R3 hno
 have Q4:=own_zn hz HX3.out.own3 hno2
 have HB4:=Lib.hid (HX3.out.bel.trans (hz.below.mono (by omega)))
 have HK1:=Lib.hid k1
 have HK2:=Lib.hid k2
 have HK3:=Lib.hid k3
 clear hno hno2 hz k1 k2 k3 HZ1 HZ2 HZ3 HX3 R3 HG HEP HCF HCT
 go_wp2_with (first | (refine ld rowPg rfl rfl rfl P4 rfl ?_) | (refine st rowPg rfl rfl Q4 rfl rfl (by rfl) (by rfl) (by kernel_rfl) ?_))
 refine p_ret rowPg rfl (Q4.row #[.slice s1 n1 t1,.slice s2 n2 t2,.slice s3 n3 t3]) rfl rfl rfl ?_
 have hst:Chg (w.heap.size+4) w4 (w4.setRow (w.heap.size+3) #[.slice s1 n1 t1,.slice s2 n2 t2,.slice s3 n3 t3]):=chg_setRow w4 _ (by omega)
 exact ⟨s1,t1,s2,t2,s3,t3,rfl,dcsAt_rf HK1.out hst (by omega),dcsAt_rf HK2.out hst (by omega),thsAt_rf HK3.out hst (by omega),Below.of_row HB4.out (by omega) _⟩
open Go.RowKit
set_option linter.unusedVariables false
theorem bytes_mk (s:ByteArray) (l:List UInt8):s=⟨l.toArray⟩↔s.data.toList=l:=⟨fun e=>by rw [e],fun e=>by rw [← e,bytes_back]⟩
theorem p_Index {base:Nat} {w:World} {l:List (List UInt8)} {a:Option Addr} {c:Nat} (h:strsAt base w l a) (hl:l.length≤2097152) (t:ByteArray):Calls Tryz.prog 55 #[.slice a l.length c,.string t] w fun e w'=>∃ j:Int,e=.returned (.int .i64 j)∧(0≤j↔t.data.toList∈l) ∧ -1≤j∧w'=w:=by
 obtain ⟨n,hn⟩:∃ n,n=l.length:=⟨_,rfl⟩
 rw [← hn] at hl ⊢
 have HN:=Lib.hid hn
 have H:=Lib.hid h
 clear h hn
 go_enter Tryz.func55,Tryz.ntmps55
 go_wp2_with fail
 go_loopg [8] (n+1) (fun m' u X=>∃ i:Nat,u=.int .i64 (i:Int)∧i≤n∧m'=n-i+1∧X=w∧∀ k,k<i→l[k]? ≠ some t.data.toList)
 case atStart=>exact ⟨0,rfl,Nat.zero_le _,by omega,rfl,fun k hk=>by omega⟩
 case round =>
  obtain ⟨i,rfl,hi,hm,hX,hno⟩:=hrel
  subst hX
  have HM:=Lib.hid hm
  have HNO:=Lib.hid hno
  clear hm hno
  by_cases hin:i<n
  · have il : i < l.length := by have := HN.out; omega
    have g1:l[i]? = some l[i]:=List.getElem?_eq_getElem il
    obtain ⟨g,rfl,k1,k2,k3⟩:=H.out i _ g1
    generalize l[i]=s at k2 g1
    have hin':(i:Int)<(n:Int):=by omega
    have HG1:=Lib.hid g1
    obtain ⟨u,hu⟩:∃ u,u=(⟨s.toArray⟩:ByteArray):=⟨_,rfl⟩
    rw [← hu] at k2
    have HU:=Lib.hid hu
    clear hu g1 il k1 k3
    by_cases q:t=u
    · have q1 := bytes_eqT q
      have HMM:Hid (t.data.toList∈l):=by
       have h9:=HU.out
       rw [← q] at h9
       rw [(bytes_mk _ _).1 h9];exact List.mem_of_getElem? HG1.out
      clear q HU
      go_wp2_with fail
      go_ret
      exact ⟨_,rfl,⟨fun _=>HMM.out,fun _=>by omega⟩,by omega,rfl⟩
    · have q1 := bytes_eqF q
      have HQ:Hid (∀ k,k<i+1→l[k]? ≠ some t.data.toList):=fun k hk e=>by
       by_cases hki:k<i
       · exact HNO.out k hki e
       · obtain rfl : k = i := by omega
         rw [HG1.out] at e
         exact q (by rw [HU.out];exact (bytes_mk _ _).2 (Option.some.inj e).symm)
      clear q
      go_wp2_with fail
      go_roundg (n-(i+1)+1)
      case measure=>have:=HM.out;omega
      case rel=>exact ⟨i+1,rfl,by omega,by omega,rfl,HQ.out⟩
  · have : i = n := by omega
    subst this
    have HNM:Hid (t.data.toList ∉ l):=fun hm=>by
     obtain ⟨k,hk⟩:=List.getElem?_of_mem hm
     exact HNO.out k (by have:=(List.getElem?_eq_some_iff.1 hk).1;have:=HN.out;omega) hk
    go_wp2_with fail
    go_ret
    exact ⟨_,rfl,⟨fun h=>absurd h (by omega),fun h=>absurd h HNM.out⟩,by omega,rfl⟩
theorem p_Contains {base:Nat} {w:World} {l:List (List UInt8)} {a:Option Addr} {c:Nat} (h:strsAt base w l a) (hl:l.length≤2097152) (t:ByteArray):Calls Tryz.prog 21 #[.slice a l.length c,.string t] w fun e w'=>e=.returned (.bool (decide (t.data.toList∈l)))∧w'=w:=by
 have HI:=Lib.hid (p_Index (c:=c) h hl t)
 clear h hl
 generalize l.length=n at HI
 by_cases hm:t.data.toList∈l
 · have HD : Hid (decide (t.data.toList ∈ l) = true) := decide_eq_true hm
   rw [HD.out]
   go_enter Tryz.func21,Tryz.ntmps21
   go_wp2_with fail
   go_at_call 55
   refine HI.out.mono ?_
   rintro e w2 ⟨j,rfl,hj,hj1,rfl⟩
   have hj0:0≤j:=hj.2 hm
   clear hj HD hm HI
   go_wp2_with fail
   go_ret
   exact ⟨rfl,rfl⟩
 · have HD : Hid (decide (t.data.toList ∈ l) = false) := decide_eq_false hm
   rw [HD.out]
   go_enter Tryz.func21,Tryz.ntmps21
   go_wp2_with fail
   go_at_call 55
   refine HI.out.mono ?_
   rintro e w2 ⟨j,rfl,hj,hj1,rfl⟩
   have hj0:j<0:=by
    by_cases h:0≤j
    · exact absurd (hj.1 h) hm
    · omega
   have hd0:decide (0≤j)=false:=by simpa using hj0
   clear hj HD hm HI
   go_wp2_with fail
   go_ret
   exact ⟨by simp,rfl⟩
end Go.Proofs.YtimccjlhhjjcpaaGreatDoor

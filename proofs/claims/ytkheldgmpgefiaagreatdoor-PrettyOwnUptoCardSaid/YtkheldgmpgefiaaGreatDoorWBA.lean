/- The proof, part 27: texts that belong together, in one. -/
import Derived.Test.YtkheldgmpgefiaaGreatDoorWAZ
import Derived.Test.YtkheldgmpgefiaaGreatDoorWAY
import Derived.Test.YtkheldgmpgefiaaGreatDoorWAQ
import Derived.Test.YtkheldgmpgefiaaGreatDoorWAW
import Derived.Deep.RegionHeld3
import Derived.Test.YtkheldgmpgefiaaGreatDoorWAV
import Derived.Test.YtkheldgmpgefiaaGreatDoorWAT
import Derived.Test.YtkheldgmpgefiaaGreatDoorWAS
set_option maxRecDepth 100000
set_option maxHeartbeats 20000000
namespace Go.Proofs.YtkheldgmpgefiaaGreatDoor
open Go.RowKit
set_option linter.unusedVariables false
structure Zr (B fb tb:Nat) (f t:ByteArray) (w0:World) (V:List Vz) (W:World):Prop where
 zn:Zn B w0 (gR f t) (adr V) W
 cf:w0.cell? ⟨fb,0,none⟩=some (.string f)
 ct:w0.cell? ⟨tb,0,none⟩=some (.string t)
 lf:fb<B
 lt:tb<B
 ok:nmOk t
theorem bytes_eqT {a b:ByteArray} (h:a=b):(a.toList==b.toList)=true:=by subst h;simp
theorem bytes_eqF {a b:ByteArray} (h:a≠b):(a.toList==b.toList)=false:=by
 rw [Lib.toList_data,Lib.toList_data]
 exact beq_eq_false_iff_ne.2 fun e=>h (bytes_same (by rw [e];simp))
theorem nms_get {w0 W:World} {l:List Addr} {s:Value} (h:NmS w0 W l s):∃ sa,s=.slice sa l.length l.length∧∀ i x,l[i]? = some x→∃ b,sa=some ⟨b,0,none⟩∧w0.heap.size≤b∧b<W.heap.size∧W.cell? ⟨b,i,none⟩=some (.pointer (some x)):=by
 rcases h with ⟨rfl,rfl⟩ | ⟨b,rfl,h1,h2,h3⟩
 · exact ⟨none,rfl,fun i x h=>by simp at h⟩
 · exact ⟨some ⟨b,0,none⟩,rfl,fun i x h=>⟨b,rfl,h1,h2,h3 i x h⟩⟩
theorem zr_step {B fb tb:Nat} {f t:ByteArray} {w0 W:World} {V:List Vz} {v:Vz} {s:Value} (h:Zr B fb tb f t w0 V W) (hv:Vok (Rz B w0) w0 v) (hn:NmS w0 W v.nm s) (hlen:v.nm.length≤2):Calls Tryz.prog 56 #[.pointer (some v.pl),s,.pointer (some ⟨fb,0,none⟩),.pointer (some ⟨tb,0,none⟩)] W fun e W'=>e=.returned (.tuple #[])∧Zr B fb tb f t w0 (V++[v]) W'∧∀ b,w0.heap.size≤b→b<W.heap.size→W'.heap[b]? = W.heap[b]?:=by
 obtain ⟨pl,nm⟩:=v
 obtain ⟨sa,rfl,hq⟩:=nms_get hn
 simp only at hq hlen ⊢
 obtain ⟨n,hnl⟩:∃ n,n=nm.length:=⟨_,rfl⟩
 rw [← hnl] at hlen ⊢
 have HN:=Lib.hid hq
 have HNL:=Lib.hid hnl
 have HNM:Hid (∀ a∈nm,Rz B w0 a.block∧a.spot=none∧∃ u,w0.cell? a=some (.string u)):=hv.nm
 have HCL:Hid (∀ X,Calls Tryz.prog 30 #[.string t] X fun e w'=>e=.returned (.string t)∧Below X.heap.size X w'):=fun X=>p_clone t h.ok X
 have H:=Lib.hid h
 clear h hv hn hnl hq
 go_enter Tryz.func56,Tryz.ntmps56
 go_wp2_with fail
 go_loopg [10] (n+1) (fun m' u X=>∃ i:Nat,u=.int .i64 (i:Int)∧i≤n∧m'=n-i+1∧Zn B w0 (gR f t) (adr V++nm.take i) X∧W.heap.size≤X.heap.size∧∀ b,w0.heap.size≤b→b<W.heap.size→X.heap[b]? = W.heap[b]?)
 case atStart=>exact ⟨0,rfl,Nat.zero_le _,by omega,by rw [List.take_zero,List.append_nil];exact H.out.zn,Nat.le_refl _,fun _ _ _=>rfl⟩
 case round =>
  obtain ⟨i,rfl,hi,hm,hZ,hz,hst⟩:=hrel
  have HM:=Lib.hid hm
  have HZ:=Lib.hid hZ
  have HS:=Lib.hid hst
  have HZ9:=Lib.hid hz
  clear hm hst hz
  by_cases hin:i<n
  · have il : i < nm.length := by have := HNL.out; omega
    have g1:nm[i]? = some nm[i]:=List.getElem?_eq_getElem il
    have HT:Hid (∀ g o,nm[i]=(⟨g,o,none⟩:Addr)→nm.take (i+1)=nm.take i++[⟨g,o,none⟩]):=fun g o e=>by rw [List.take_succ_eq_append_getElem il,e]
    obtain ⟨b,rfl,hb1,hb2,hb3⟩:=HN.out i _ g1
    obtain ⟨hr,hsp,s0,c0⟩:=HNM.out _ (List.getElem_mem il)
    generalize nm[i]=a at hb3 hr hsp c0 HT g1
    obtain ⟨g,o,sp⟩:=a
    simp only at hr hsp
    subst hsp
    have HT2:Hid (nm.take (i+1)=nm.take i++[⟨g,o,none⟩]):=HT.out g o rfl
    have hin':(i:Int)<(n:Int):=by omega
    have cP:wr.cell? ⟨b,i,none⟩=some (.pointer (some ⟨g,o,none⟩)):=by rw [World.cell?_of_block (w:=W) (a:=⟨b,i,none⟩) (HS.out b hb1 hb2)];exact hb3
    obtain ⟨u,hu,cU⟩:=zn_name hZ c0
    have cF:wr.cell? ⟨fb,0,none⟩=some (.string f):=by rw [hZ.below.cell (p:=⟨fb,0,none⟩) H.out.lf];exact H.out.cf
    have cT:wr.cell? ⟨tb,0,none⟩=some (.string t):=by rw [hZ.below.cell (p:=⟨tb,0,none⟩) H.out.lt];exact H.out.ct
    have HG:Hid (g<w0.heap.size):=hr.2.1
    have HSK:Hid ((u=ByteArray.empty∨u≠f)→∀ X,Below wr.heap.size wr X→Zn B w0 (gR f t) (adr V++nm.take (i+1)) X):=fun hne X hX=>by
     rw [HT2.out,← List.append_assoc]
     refine zn_skip (zn_keep hZ hX) hr c0 ?_
     rw [hX.cell (p:=⟨g,o,none⟩) (cell_lt cU),cU]
     rcases hu with rfl | rfl
     · unfold gR
       rw [if_neg]
       rintro ⟨e1,e2⟩
       exact hne.elim (fun e=>e2 e) (fun e=>e e1)
     · rfl
    have HST:Hid (u≠ByteArray.empty→u=f→∀ X,Below wr.heap.size wr X→Zn B w0 (gR f t) (adr V++nm.take (i+1)) (X.setCell ⟨g,o,none⟩ (.string t))):=fun h1 h2 X hX=>by
     have e:gR f t s0=t:=by
      rcases hu with rfl | hu
      · exact if_pos ⟨h2,h1⟩
      · by_cases e : s0 = f ∧ s0 ≠ ⟨#[]⟩
        · exact if_pos e
        · have e1 : gR f t s0 = s0 := if_neg e
          rw [e1] at hu
          exact absurd ⟨hu ▸ h2,hu ▸ h1⟩ e
     have:=zn_set (zn_keep hZ hX) hr c0
     rw [e] at this
     rw [HT2.out,← List.append_assoc];exact this
    have HFR:Hid (∀ X,Below wr.heap.size wr X→X.frozen? ⟨g,o,none⟩=false∧X.cell? ⟨g,o,none⟩=some (.string u)):=fun X hX=>by
     have hlt:g<wr.heap.size:=cell_lt cU
     exact ⟨by rw [hX.frozen (p:=⟨g,o,none⟩) hlt];exact hZ.free g hr o,by rw [hX.cell (p:=⟨g,o,none⟩) hlt];exact cU⟩
    have HKP:Hid (∀ X,Below wr.heap.size wr X→W.heap.size≤X.heap.size∧(∀ b,w0.heap.size≤b→b<W.heap.size→X.heap[b]? = W.heap[b]?)∧∀ b,w0.heap.size≤b→b<W.heap.size→(X.setCell ⟨g,o,none⟩ (.string t)).heap[b]? = W.heap[b]?):=fun X hX=>by
     have hz:=HZ9.out
     refine ⟨Nat.le_trans hz hX.size,fun b h1 h2=>by rw [hX.block b (by omega)];exact HS.out b h1 h2,fun b h1 h2=>?_⟩
     have:=HG.out
     rw [Below.heap_setCell _ _ _ _ (by show b≠g;omega),hX.block b (by omega)]
     exact HS.out b h1 h2
    clear hu c0 hr HT il g1 hZ hb1 hb2 hb3
    by_cases q0:u=ByteArray.empty
    · have q1 : (u.toList == ([] : List UInt8)) = true := by rw [q0, Lib.toList_data]; rfl
      have HQ:=Lib.hid (HSK.out (.inl q0))
      clear q0 HSK HST cT
      go_wp2_with fail
      go_quiet (fail)
      go_wp2_with fail
      go_roundg (n-(i+1)+1)
      case measure=>have:=HM.out;omega
      case rel=>exact ⟨i+1,rfl,by omega,by omega,HQ.out _ (by first | exact below_drewN (Below.refl _ _) _ | exact Below.refl _ _),(HKP.out _ (by first | exact below_drewN (Below.refl _ _) _ | exact Below.refl _ _)).1,(HKP.out _ (by first | exact below_drewN (Below.refl _ _) _ | exact Below.refl _ _)).2.1⟩
    · have q1 : (u.toList == ([] : List UInt8)) = false := by have := bytes_eqF q0; simpa using this
      by_cases q2:u=f
      · have q3 := bytes_eqT q2
        have HQ:=Lib.hid (HST.out q0 q2)
        clear q0 q2 HSK HST
        go_wp2_with fail
        go_quiet (fail)
        go_wp2_with fail
        go_at_call 30
        refine (HCL.out _).mono ?_
        rintro e w3 ⟨rfl,hb⟩
        have hb9:Below wr.heap.size wr w3:=(below_drewN (Below.refl _ _) _).trans (hb.mono (by first | exact Nat.le_refl _ | simp))
        have hf3:=(HFR.out w3 hb9).1
        have hc3:=(HFR.out w3 hb9).2
        have HQ3:=Lib.hid (HQ.out w3 hb9)
        have HK3:=Lib.hid (HKP.out w3 hb9)
        clear hb hb9 HFR HKP HQ cP cU cF cT
        go_wp2_with fail
        go_roundg (n-(i+1)+1)
        case measure=>have:=HM.out;omega
        case rel=>exact ⟨i+1,rfl,by omega,by omega,HQ3.out,by rw [World.size_setCell];exact HK3.out.1,HK3.out.2.2⟩
      · have q3 := bytes_eqF q2
        have HQ:=Lib.hid (HSK.out (.inr q2))
        clear q0 q2 HSK HST
        go_wp2_with fail
        go_quiet (fail)
        go_wp2_with fail
        go_roundg (n-(i+1)+1)
        case measure=>have:=HM.out;omega
        case rel=>exact ⟨i+1,rfl,by omega,by omega,HQ.out _ (by first | exact below_drewN (Below.refl _ _) _ | exact Below.refl _ _),(HKP.out _ (by first | exact below_drewN (Below.refl _ _) _ | exact Below.refl _ _)).1,(HKP.out _ (by first | exact below_drewN (Below.refl _ _) _ | exact Below.refl _ _)).2.1⟩
  · have : i = n := by omega
    subst this
    have HPZ:Hid (Zr B fb tb f t w0 (V++[⟨pl,nm⟩]) wr):=by
     have:=HZ.out
     rw [List.take_of_length_le (by have:=HNL.out;omega)] at this
     exact ⟨by rw [adr_app];simpa [adr] using this,H.out.cf,H.out.ct,H.out.lf,H.out.lt,H.out.ok⟩
    clear hZ HZ
    go_wp2_with fail
    exact bodyPost_end (results_none rfl _ _ _) rfl ⟨rfl,HPZ.out,HS.out⟩
open Go.RowKit Go.Maps
set_option linter.unusedVariables false
def GdN (w0:World) (l:List Vz):Prop:=l.length≤1048576∧∀ z∈l,z.nm.length≤2∧∀ a∈z.nm,∀ s,w0.cell? a=some (.string s)→s.size≤maxLen
theorem gdN_pre {w0:World} {A B:List Vz} (h:GdN w0 (A++B)):GdN w0 A:=⟨by have:=h.1;rw [List.length_append] at this;omega,fun z hz=>h.2 z (by simp [hz])⟩
theorem mlaw:Keyed Tryz.prog 9:=string_keyed Tryz.underlying9
theorem mzero (w:World):(zeroValue 3).run Tryz.prog w=.ok (.int .i64 0) w:=by kernel_rfl
def Mk (m:Nat) (w0:World) (V:List Vz) (pl:Addr) (l:List Addr) (X:World):Prop:=∃ (n:Nat) (D:DataW Unit),n≤2*V.length+l.length∧MO X m n D∧∀ s,has D (.string s)=true↔s≠[]∧nmC w0 (V++[⟨pl,l⟩]) ⟨s.toArray⟩
theorem mk_same {m:Nat} {w0:World} {V:List Vz} {pl:Addr} {l:List Addr} {X Y:World} (h:Mk m w0 V pl l X) (e:Y.heap[m]? = X.heap[m]?):Mk m w0 V pl l Y:=by
 obtain ⟨n,D,hn,hD,hk⟩:=h
 exact ⟨n,D,hn,mo_same hD e,hk⟩
theorem nmC_snoc {w0:World} {V:List Vz} {pl a:Addr} {l:List Addr} {s u:ByteArray} (h:w0.cell? a=some (.string s)):nmC w0 (V++[⟨pl,l++[a]⟩]) u↔nmC w0 (V++[⟨pl,l⟩]) u∨u=s:=by
 rw [nmC_app,nmC_app,or_assoc]
 refine or_congr Iff.rfl ⟨fun ⟨b,hb,e⟩=>?_,fun k=>?_⟩
 · simp only [adr, List.flatMap_cons, List.flatMap_nil, List.append_nil, List.mem_append, List.mem_singleton] at hb
   rcases hb with hb | rfl
   · exact .inl ⟨b,by simpa [adr] using hb,e⟩
   · rw [h] at e;injection Option.some.inj e with e;exact .inr e.symm
 · rcases k with ⟨b, hb, e⟩ | rfl
   · exact ⟨b,by simp only [adr,List.flatMap_cons,List.flatMap_nil,List.append_nil,List.mem_append,List.mem_singleton] at hb ⊢;exact .inl hb,e⟩
   · exact ⟨a,by simp [adr],h⟩
theorem mk_skip {m:Nat} {w0:World} {V:List Vz} {pl a:Addr} {l:List Addr} {X:World} (h:Mk m w0 V pl l X) (hs:w0.cell? a=some (.string ByteArray.empty)):Mk m w0 V pl (l++[a]) X:=by
 obtain ⟨n,D,hn,hD,hk⟩:=h
 refine ⟨n,D,by rw [List.length_append];omega,hD,fun s=>(hk s).trans ⟨fun ⟨h1,h2⟩=>⟨h1,(nmC_snoc hs).2 (.inl h2)⟩,fun ⟨h1,h2⟩=>⟨h1,?_⟩⟩⟩
 rcases (nmC_snoc hs).1 h2 with h2 | h2
 · exact h2
 · exact absurd (by have:=congrArg (fun b:ByteArray=>b.data.toList) h2;simpa using this) h1
theorem mo_isMap {w:World} {m n:Nat} {D:DataW Unit} (h:MO w m n D):IsMap D:=by
 obtain ⟨es,c,hb,F,hs,rfl⟩:=h
 exact ⟨_,rfl⟩
theorem mk_put {m:Nat} {w0:World} {V:List Vz} {pl a:Addr} {l:List Addr} {X:World} {s:ByteArray} (h:Mk m w0 V pl l X) (hs:w0.cell? a=some (.string s)) (hne:s≠ByteArray.empty) (hlen:s.size≤maxLen) (hb:2*V.length+l.length<4194304) :
 ∃ c, (∀ Y : World, Y.heap[m]? = X.heap[m]? → (Instr.lookup 45 (.map (some m)) (.string s) false).run Tryz.prog Y = .ok (.int .i64 c) Y) ∧
   ∃ F:World→World,∀ Y:World,Y.heap[m]? = X.heap[m]? → (Instr.mapUpdate 45 (.map (some m)) (.string s) (.int .i64 (wrap64 (c+1)))).run Tryz.prog Y=.ok () (F Y)∧Mk m w0 V pl (l++[a]) (F Y)∧Y.grownBy (F Y) (some m):=by
 obtain ⟨n,D,hn,hD,hk⟩:=h
 have hkey:keyOf Tryz.prog 9 (.string s)=some (.string s.data.toList):=WideMaps.keyOf_string_mk Tryz.underlying9 hlen
 obtain ⟨c,hrun,hat,_⟩:=hD.lookup_int mlaw Tryz.underlying45 Tryz.underlying3 (mzero _) hkey
 have hlk:∀ Y:World,Y.heap[m]? = X.heap[m]? → (Instr.lookup 45 (.map (some m)) (.string s) false).run Tryz.prog Y=.ok (.int .i64 c) Y:=fun Y e=>by
  obtain ⟨c',hrun',hat',_⟩:=(mo_same hD e).lookup_int mlaw Tryz.underlying45 Tryz.underlying3 (mzero _) hkey
  rw [hat] at hat'
  have:c=c':=by simpa using hat'
  rw [hrun',this]
 refine ⟨c,hlk,?_⟩
 have hup:∀ Y:World,∃ Z:World,Y.heap[m]? = X.heap[m]? → (Instr.mapUpdate 45 (.map (some m)) (.string s) (.int .i64 (wrap64 (c+1)))).run Tryz.prog Y=.ok () Z∧Mk m w0 V pl (l++[a]) Z∧Y.grownBy Z (some m):=fun Y=>by
  by_cases e:Y.heap[m]? = X.heap[m]?
  · obtain ⟨Z, h1, h2, h3⟩ := (mo_same hD e).update mlaw Tryz.underlying45 (show n < maxLen by unfold maxLen; omega) hkey (plainElem_int Tryz.underlying3 (wrap64_wf (c + 1)))
    refine ⟨Z,fun _=>⟨h1,⟨n+1,_,by rw [List.length_append];simp only [List.length_singleton];omega,h2,fun u=>?_⟩,h3⟩⟩
    rw [has_name (mo_isMap hD) (by exact hlen),hk u,nmC_snoc hs]
    have e1:(⟨u.toArray⟩:ByteArray)=s↔u=s.data.toList:=⟨fun e=>by rw [← e],fun e=>by rw [e,bytes_back]⟩
    rw [e1]
    constructor
    · rintro (rfl | ⟨h1, h2⟩)
      · exact ⟨fun e=>hne (by rw [← bytes_back s,e];rfl),.inr rfl⟩
      · exact ⟨h1,.inl h2⟩
    · rintro ⟨h1, h2 | h2⟩
      · exact .inr ⟨h1,h2⟩
      · exact .inl h2
  · exact ⟨Y,fun h=>absurd h e⟩
 exact ⟨fun Y=>(hup Y).choose,fun Y=>(hup Y).choose_spec⟩
theorem nk_step {R:Nat→Prop} {fb m:Nat} {w0 W:World} {V:List Vz} {v:Vz} {s:Value} (h:Nk fb m w0 V W) (hv:Vok R w0 v) (hn:NmS w0 W v.nm s) (hg:GdN w0 (V++[v])):Calls Tryz.prog 27 #[.pointer (some v.pl),s,.pointer (some ⟨fb,0,none⟩)] W fun e W'=>e=.returned (.tuple #[])∧Nk fb m w0 (V++[v]) W'∧∀ b,w0.heap.size≤b→b<W.heap.size→W'.heap[b]? = W.heap[b]?:=by
 obtain ⟨pl,nm⟩:=v
 obtain ⟨sa,rfl,hq⟩:=nms_get hn
 have hlen:nm.length≤2:=(hg.2 ⟨pl,nm⟩ (by simp)).1
 have hshort:∀ a∈nm,∀ s,w0.cell? a=some (.string s)→s.size≤maxLen:=(hg.2 ⟨pl,nm⟩ (by simp)).2
 have hvl:V.length≤1048576:=by have:=hg.1;rw [List.length_append] at this;omega
 simp only at hq hlen ⊢
 obtain ⟨n,hnl⟩:∃ n,n=nm.length:=⟨_,rfl⟩
 rw [← hnl] at hlen ⊢
 have HN:=Lib.hid hq
 have HNL:=Lib.hid hnl
 have HNM:Hid (∀ a∈nm,a.spot=none∧∃ u,w0.cell? a=some (.string u)):=fun a ha=>(hv.nm a ha).2
 have HSH:=Lib.hid hshort
 have HVL:=Lib.hid hvl
 have H:=Lib.hid h
 have hmk0:Mk m w0 V pl (nm.take 0) W:=by
  obtain ⟨n,D,h1,h2,h3⟩:=h.map
  refine ⟨n,D,by simpa using h1,h2,fun s=>?_⟩
  rw [h3,List.take_zero,nmC_app]
  exact and_congr Iff.rfl ⟨.inl,fun h=>h.elim id fun h=>absurd h nmC_zero⟩
 have HMK0:=Lib.hid hmk0
 clear h hv hn hnl hg hshort hmk0 hvl hq
 go_enter Tryz.func27,Tryz.ntmps27
 go_wp2_with fail
 go_loopg [9] (n+1) (fun m' u X=>∃ i:Nat,u=.int .i64 (i:Int)∧i≤n∧m'=n-i+1∧Mk m w0 V pl (nm.take i) X∧W.grownBy X (some m))
 case atStart=>exact ⟨0,rfl,Nat.zero_le _,by omega,HMK0.out,⟨rfl,rfl,rfl,Nat.le_refl _,fun _ _ _=>rfl⟩⟩
 case round =>
  obtain ⟨i,rfl,hi,hm,hZ,hgr⟩:=hrel
  have HM:=Lib.hid hm
  have HGR:=Lib.hid hgr
  have HZ:=Lib.hid hZ
  clear hm
  by_cases hin:i<n
  · have il : i < nm.length := by have := HNL.out; omega
    have g1:nm[i]? = some nm[i]:=List.getElem?_eq_getElem il
    have HT:Hid (nm.take (i+1)=nm.take i++[nm[i]]):=List.take_succ_eq_append_getElem il
    obtain ⟨b,rfl,hb1,hb2,hb3⟩:=HN.out i _ g1
    obtain ⟨hsp,u,c0⟩:=HNM.out _ (List.getElem_mem il)
    have hsh:=HSH.out _ (List.getElem_mem il) u c0
    generalize nm[i]=a at hb3 hsp c0 HT g1 hsh
    obtain ⟨g,o,sp⟩:=a
    simp only at hsp
    subst hsp
    have hmlt:=nk_lt H.out
    have hin':(i:Int)<(n:Int):=by omega
    have hcel:∀ {a:Addr} {v:Value},w0.cell? a=some v→wr.cell? a=some v:=fun {a v} ha=>by
     have h1:=nk_cell H.out ha
     have hne:a.block≠m:=fun e=>by
      obtain ⟨es,c,h⟩:=H.out.mp
      obtain ⟨b,o,sp⟩:=a
      simp only at e;subst e
      simp [World.cell?,h] at ha
     rw [World.cell?_of_block (hgr.block a.block (cell_lt h1) fun e=>hne (Option.some.inj e))];exact h1
    have cP:wr.cell? ⟨b,i,none⟩=some (.pointer (some ⟨g,o,none⟩)):=by
     rw [World.cell?_of_block (w:=W) (a:=⟨b,i,none⟩) (hgr.block b hb2 fun e=>by have:=Option.some.inj e;omega)];exact hb3
    have cU:=hcel c0
    have cM:=hcel H.out.fd
    have HC0:=Lib.hid c0
    have HB2:Hid (2*V.length+(nm.take i).length<4194304):=by
     have:=HVL.out
     rw [Hid,List.length_take];omega
    clear hcel c0 g1 il hb1 hb2 hb3 hgr hmlt
    by_cases q0:u=ByteArray.empty
    · have q1 : (u.toList == ([] : List UInt8)) = true := by rw [q0, Lib.toList_data]; rfl
      have HQ:Hid (∀ X:World,X.heap[m]? = wr.heap[m]? → Mk m w0 V pl (nm.take (i+1)) X):=fun X e=>by
       rw [HT.out];exact mk_skip (mk_same HZ.out e) (by rw [HC0.out,q0])
      clear q0 hZ HZ cM
      go_wp2_with fail
      go_roundg (n-(i+1)+1)
      case measure=>have:=HM.out;omega
      case rel=>exact ⟨i+1,rfl,by omega,by omega,HQ.out _ rfl,HGR.out⟩
    · have q1 : (u.toList == ([] : List UInt8)) = false := by have := bytes_eqF q0; simpa using this
      obtain ⟨c,hlk,F,hF⟩:=mk_put HZ.out HC0.out q0 hsh HB2.out
      rw [← HT.out] at hF
      have hl1:=hlk wr.drew rfl
      have hu1:(Instr.mapUpdate 45 (.map (some m)) (.string u) (.int .i64 (IntKind.i64.wrap (c+1)))).run Tryz.prog wr.drew=.ok () (F wr.drew):=by rw [show IntKind.i64.wrap (c+1)=wrap64 (c+1) from by rw [IntKind.wrap_i64];unfold wrap64;omega];exact (hF wr.drew rfl).1
      have HF1:Hid (Mk m w0 V pl (nm.take (i+1)) (F wr.drew)∧wr.grownBy (F wr.drew) (some m)):=by
       have h9:=(hF wr.drew rfl).2
       exact ⟨h9.1,⟨h9.2.os,h9.2.tape,h9.2.output,h9.2.size,h9.2.block⟩⟩
      clear q0 hZ hsh hF hlk
      generalize F wr.drew=X1 at hu1 HF1
      go_wp2_with fail
      go_region_with (fail)
      all_goals
       go_wp2_with fail
       go_roundg (n-(i+1)+1)
       case measure=>have:=HM.out;omega
       case rel=>exact ⟨i+1,rfl,by omega,by omega,HF1.out.1,HGR.out.andThen HF1.out.2 (fun j hj=>.inr hj)⟩
  · have : i = n := by omega
    subst this
    have HPZ:Hid (Nk fb m w0 (V++[⟨pl,nm⟩]) wr):=by
     obtain ⟨n,D,h1,h2,h3⟩:=HZ.out
     rw [List.take_of_length_le (by have:=HNL.out;omega)] at h1 h3
     have hg:=HGR.out
     have h0:=H.out.grown
     refine ⟨H.out.mp,H.out.fd,⟨hg.os.trans h0.os,hg.tape.trans h0.tape,hg.output.trans h0.output,Nat.le_trans h0.size hg.size,fun k hk hne=>?_⟩,n,D,?_,h2,h3⟩
     · rw [hg.block k (Nat.lt_of_lt_of_le hk h0.size) hne];exact h0.block k hk hne
     · have := HNL.out
       rw [List.length_append];simp only [List.length_singleton];omega
    have HST:Hid (∀ b,w0.heap.size≤b→b<W.heap.size→wr.heap[b]? = W.heap[b]?):=fun b h1 h2=>HGR.out.block b h2 fun e=>by have:=nk_lt H.out;have:=Option.some.inj e;omega
    clear hZ HZ hgr
    go_wp2_with fail
    exact bodyPost_end (results_none rfl _ _ _) rfl ⟨rfl,HPZ.out,HST.out⟩
open Go.RowKit
set_option linter.unusedVariables false
mutual
def ctE:Ex→Nat | .mk _ _ _ _ ks _=>ctEs ks+1
def ctEs:List Ex→Nat | []=>0 | x::r=>ctE x+ctEs r
end
mutual
def ctS:St→Nat | .mk _ _ _ e b l _=>ctEs e+ctSs b+ctSs l+1
def ctSs:List St→Nat | []=>0 | x::r=>ctS x+ctSs r
end
def ctTs:List Th→Nat | []=>0 | x::r=>x.locals.length+ctSs x.body+1+ctTs r
def ctP (p:Pg):Nat:=p.shared.length+p.locks.length+ctTs p.threads
theorem vEs_ct (w:World):∀ (l:List Ex) (g o:Nat),(vEs w l g o).length=ctEs l:=by
 intro l
 induction l using Exs.ind with
 | h0=>intro g o;rfl
 | h1 k op wd nm ks p r ih1 ih2 =>
   intro g o
   simp only [vEs,vE,ctEs,ctE,List.length_append,List.length_cons,ih1,ih2]
theorem vSs_ct (w:World):∀ (l:List St) (g o:Nat),(vSs w l g o).length=ctSs l:=by
 intro l
 induction l using Sts.ind with
 | h0=>intro g o;rfl
 | h1 k n ot e b l p r ih1 ih2 ih3 =>
   intro g o
   simp only [vSs,vS,ctSs,ctS,List.length_append,List.length_cons,vEs_ct,ih1,ih2,ih3]
   omega
theorem vDs_ct (w:World):∀ (l:List Dc) (g o:Nat),(vDs w l g o).length=l.length
 | [],_,_=>rfl
 | x :: r, g, o => by
   simp only [vDs,vD,List.length_append,List.length_cons,List.length_nil,vDs_ct w r];omega
theorem vTs_ct (w:World):∀ (l:List Th) (g o:Nat),(vTs w l g o).length=ctTs l
 | [],_,_=>rfl
 | x :: r, g, o => by
   simp only [vTs,vT,ctTs,List.length_append,List.length_cons,vTs_ct w r,vDs_ct,vSs_ct]
theorem vDsA_ct (w:World) (l:List Dc) (a:Option Addr):(vDsA w l a).length≤l.length:=by
 cases a with
 | none=>exact Nat.zero_le _
 | some p=>exact Nat.le_of_eq (vDs_ct w l _ _)
theorem vTsA_ct (w:World) (l:List Th) (a:Option Addr):(vTsA w l a).length≤ctTs l:=by
 cases a with
 | none=>exact Nat.zero_le _
 | some p=>exact Nat.le_of_eq (vTs_ct w l _ _)
theorem vP_ct (w:World) {x:Pg} (h:ctP x≤1048576) (a1 a2 a3:Option Addr):(vDsA w x.shared a1++vDsA w x.locks a2++vTsA w x.threads a3).length≤1048576:=by
 have h1:=vDsA_ct w x.shared a1
 have h2:=vDsA_ct w x.locks a2
 have h3:=vTsA_ct w x.threads a3
 unfold ctP at h
 simp only [List.length_append];omega
theorem ctEs_bk:∀ l:List Ex,ctEs l≤bkEs l:=by
 intro l
 induction l using Exs.ind with
 | h0=>exact Nat.le_refl _
 | h1 k op wd nm ks p r ih1 ih2=>simp only [ctEs,ctE,bkEs,bkE];omega
theorem ctSs_bk:∀ l:List St,ctSs l≤bkSs l:=by
 intro l
 induction l using Sts.ind with
 | h0=>exact Nat.le_refl _
 | h1 k n ot e b l p r ih1 ih2 ih3 =>
   have:=ctEs_bk e
   simp only [ctSs,ctS,bkSs,bkS];omega
theorem ctTs_bk:∀ l:List Th,ctTs l≤bkTs l
 | []=>Nat.le_refl _
 | x :: r => by
   have h1:=ctTs_bk r
   have h2:=bkDs_len x.locals
   have h3:=ctSs_bk x.body
   simp only [ctTs,bkTs,bkT];omega
theorem ctP_bk (x:Pg):ctP x≤bkP x:=by
 have h1:=bkDs_len x.shared
 have h2:=bkDs_len x.locks
 have h3:=ctTs_bk x.threads
 unfold ctP bkP;omega
open Go.RowKit
set_option linter.unusedVariables false
theorem vEs_two (w:World):∀ (l:List Ex) (g o:Nat),∀ z∈vEs w l g o,z.nm.length≤2:=by
 intro l
 induction l using Exs.ind with
 | h0=>intro g o z hz;cases hz
 | h1 k op wd nm ks p r ih1 ih2 =>
   intro g o z hz
   simp only [vEs,vE,List.mem_append,List.mem_cons] at hz
   rcases hz with (rfl | hz) | hz
   · by_cases e : k = 2
     · simp [e]
     · simp [e]
   · exact ih1 _ _ z hz
   · exact ih2 _ _ z hz
theorem vSs_two (w:World):∀ (l:List St) (g o:Nat),∀ z∈vSs w l g o,z.nm.length≤2:=by
 intro l
 induction l using Sts.ind with
 | h0=>intro g o z hz;cases hz
 | h1 k n ot e b l p r ih1 ih2 ih3 =>
   intro g o z hz
   simp only [vSs,vS,List.mem_append,List.mem_cons] at hz
   rcases hz with (rfl | hz | hz | hz) | hz
   · simp
   · exact vEs_two w e _ _ z hz
   · exact ih1 _ _ z hz
   · exact ih2 _ _ z hz
   · exact ih3 _ _ z hz
theorem vDs_two (w:World):∀ (l:List Dc) (g o:Nat),∀ z∈vDs w l g o,z.nm.length≤2
 | [],_,_,z,hz=>by cases hz
 | x :: r, g, o, z, hz => by
   simp only [vDs,vD,List.mem_append,List.mem_cons,List.not_mem_nil,or_false] at hz
   rcases hz with rfl | hz
   · simp
   · exact vDs_two w r g _ z hz
theorem vTs_two (w:World):∀ (l:List Th) (g o:Nat),∀ z∈vTs w l g o,z.nm.length≤2
 | [],_,_,z,hz=>by cases hz
 | x :: r, g, o, z, hz => by
   simp only [vTs,vT,List.mem_append,List.mem_cons] at hz
   rcases hz with (rfl | hz | hz) | hz
   · simp
   · exact vDs_two w x.locals _ _ z hz
   · exact vSs_two w x.body _ _ z hz
   · exact vTs_two w r g _ z hz
theorem vP_two (w:World) (x:Pg) (a1 a2 a3:Option Addr):∀ z∈vDsA w x.shared a1++vDsA w x.locks a2++vTsA w x.threads a3,z.nm.length≤2:=by
 have hd:∀ (l:List Dc) (a:Option Addr),∀ z∈vDsA w l a,z.nm.length≤2:=fun l a z hz=>by
  cases a with
  | none=>cases hz
  | some p=>exact vDs_two w l _ _ z hz
 intro z hz
 simp only [List.mem_append] at hz
 rcases hz with (hz | hz) | hz
 · exact hd _ _ z hz
 · exact hd _ _ z hz
 · cases a3 with
   | none=>cases hz
   | some p=>exact vTs_two w x.threads _ _ z hz
theorem fitEs_nm:∀ l:List Ex,fitEs l→∀ s∈nmEs l,nmOk s:=by
 intro l
 induction l using Exs.ind with
 | h0=>intro _ s hs;cases hs
 | h1 k op wd nm ks p r ih1 ih2 =>
   intro h s hs
   simp only [nmEs,nmE,List.mem_append] at hs
   rcases hs with (hs | hs) | hs
   · by_cases e : k = 2
     · rw [if_pos e] at hs
       obtain rfl:s=nm:=by simpa using hs
       exact h.1.1
     · rw [if_neg e] at hs;cases hs
   · exact ih1 h.1.2.2 s hs
   · exact ih2 h.2 s hs
theorem fitSs_nm:∀ l:List St,fitSs l→∀ s∈nmSs l,nmOk s:=by
 intro l
 induction l using Sts.ind with
 | h0=>intro _ s hs;cases hs
 | h1 k n ot e b l p r ih1 ih2 ih3 =>
   intro h s hs
   obtain ⟨⟨n1,n2,⟨e1,e2⟩,⟨b1,b2⟩,l1,l2⟩,hr⟩:=h
   simp only [nmSs,nmS,List.mem_append,List.mem_cons] at hs
   rcases hs with (rfl | rfl | hs | hs | hs) | hs
   · exact n1
   · exact n2
   · exact fitEs_nm e e2 s hs
   · exact ih1 b2 s hs
   · exact ih2 l2 s hs
   · exact ih3 hr s hs
theorem fitDs_nm {l:List Dc} (h:fitDs l):∀ s∈nmDs l,nmOk s:=fun s hs=>by
 obtain ⟨d,hd,rfl⟩:=List.mem_map.1 hs
 exact h d hd
theorem fitP_nm {x:Pg} (h:fitP x):∀ s∈nmP x,nmOk s:=fun s hs=>by
 obtain ⟨⟨h1,h2⟩,⟨h3,h4⟩,h5,h6⟩:=h
 simp only [nmP,List.mem_append] at hs
 rcases hs with (hs | hs) | hs
 · exact fitDs_nm h2 s hs
 · exact fitDs_nm h4 s hs
 · obtain ⟨t, ht, hs⟩ := List.mem_flatMap.1 hs
   obtain ⟨k0,⟨k1,k2⟩,k3,k4⟩:=h6 t ht
   simp only [nmT,List.mem_cons,List.mem_append] at hs
   rcases hs with rfl | hs | hs
   · exact k0
   · exact fitDs_nm k2 s hs
   · exact fitSs_nm _ k4 s hs
theorem nmC_P {R:Nat→Prop} {w:World} {x:Pg} {a1 a2 a3:Option Addr} (h1:dcsAt R w x.shared a1) (h2:dcsAt R w x.locks a2) (h3:thsAt R w x.threads a3) (s:ByteArray):nmC w (vDsA w x.shared a1++vDsA w x.locks a2++vTsA w x.threads a3) s↔s∈nmP x:=by
 rw [nmC_app,nmC_app,nmC_dcsA h1,nmC_dcsA h2,nmC_thsA h3]
 simp only [nmP,List.mem_append]
theorem gdN_P {R:Nat→Prop} {w:World} {x:Pg} {a1 a2 a3:Option Addr} (hb:ctP x≤1048576) (hf:fitP x) (h1:dcsAt R w x.shared a1) (h2:dcsAt R w x.locks a2) (h3:thsAt R w x.threads a3):GdN w (vDsA w x.shared a1++vDsA w x.locks a2++vTsA w x.threads a3) :=
 ⟨vP_ct w hb a1 a2 a3,fun z hz=>⟨vP_two w x a1 a2 a3 z hz,fun a ha s hs=>by
  have h:=fitP_nm hf s ((nmC_P h1 h2 h3 s).1 ⟨a,by simp only [adr,List.mem_flatMap];exact ⟨z,hz,ha⟩,hs⟩)
  unfold nmOk at h;unfold maxLen;omega⟩⟩
open Go.RowKit
set_option linter.unusedVariables false
structure B4 (w:World) (f t:ByteArray) (r z:Array Value) (W:World):Prop where
 own0:Own W w.heap.size 25 r
 own1:Own W (w.heap.size+1) 9 #[.string f]
 own2:Own W (w.heap.size+2) 9 #[.string t]
 own3:Own W (w.heap.size+3) 25 z
 bel:Below w.heap.size w W
theorem b4_new (w:World) (f t:ByteArray) (r z:Array Value):B4 w f t r z ((((w.alloc (.cells r 25)).alloc (.cells #[.string f] 9)).alloc (.cells #[.string t] 9)).alloc (.cells z 25)):=by
 have h0:=Own.new w 25 r
 have h1:=Own.new (w.alloc (.cells r 25)) 9 #[.string f]
 have h2:=Own.new ((w.alloc (.cells r 25)).alloc (.cells #[.string f] 9)) 9 #[.string t]
 have h3:=Own.new (((w.alloc (.cells r 25)).alloc (.cells #[.string f] 9)).alloc (.cells #[.string t] 9)) 25 z
 simp only [World.size_alloc] at h1 h2 h3
 exact ⟨((h0.alloc _).alloc _).alloc _,(h1.alloc _).alloc _,h2.alloc _,h3,((((Below.refl _ w).alloc (Nat.le_refl _) _).alloc (by simp only [World.size_alloc];omega) _).alloc (by simp only [World.size_alloc];omega) _).alloc (by simp only [World.size_alloc];omega) _⟩
theorem b4_below {w W W':World} {f t:ByteArray} {r z:Array Value} (h:B4 w f t r z W) (hb:Below W.heap.size W W'):B4 w f t r z W':=⟨h.own0.below hb,h.own1.below hb,h.own2.below hb,h.own3.below hb,h.bel.trans (hb.mono h.bel.size)⟩
theorem vp_zr {B fb tb:Nat} {f t:ByteArray} {w0:World} : VpR (.pointer (some ⟨fb,0,none⟩)) (.pointer (some ⟨tb,0,none⟩)) (Rz B w0) w0 (fun l=>∀ z∈l,z.nm.length≤2) (Zr B fb tb f t w0) :=
 ⟨fun h hb=>⟨zn_keep h.zn hb,h.cf,h.ct,h.lf,h.lt,h.ok⟩,fun h=>zn_sk h.zn,fun h z hz=>h z (by simp [hz]),fun h hv hn hg=>zr_step h hv hn (hg _ (by simp))⟩
def RenP (x:Pg) (f t:ByteArray) (w:World) (e:Ending) (w':World):Prop:=∃ s1 t1 s2 t2 s3 t3,e=.returned (.agg #[.slice s1 x.shared.length t1,.slice s2 x.locks.length t2,.slice s3 x.threads.length t3])∧dcsAt (Rf w.heap.size w') w' (x.shared.map (Dc.ren (gR f t))) s1∧dcsAt (Rf w.heap.size w') w' (x.locks.map (Dc.ren (gR f t))) s2∧thsAt (Rf w.heap.size w') w' (x.threads.map (Th.ren (gR f t))) s3∧Below w.heap.size w w'
theorem p_renamed (x:Pg) (hf:fitP x) (hok:okP x) (hr:rP x=true) (f t:ByteArray) (ht:nmOk t) {v:Value} {w:World} (hv:pA w x v):Calls Tryz.prog 22 #[v,.string f,.string t] w (RenP x f t w):=by
 have HCP:Hid (∀ W,Below w.heap.size w W→Calls Tryz.prog 45 #[v] W (CpyP x W)):=fun W hW=>p_CopyF x hf (pA_below hv hW)
 have HEP:Hid (∀ (W:World) s1 t1 s2 t2 s3 t3,w.heap.size+4≤W.heap.size→W.cell? ⟨w.heap.size+1,0,none⟩=some (.string f)→W.cell? ⟨w.heap.size+2,0,none⟩=some (.string t)→dcsAt (Rz (w.heap.size+4) W) W x.shared s1→dcsAt (Rz (w.heap.size+4) W) W x.locks s2→thsAt (Rz (w.heap.size+4) W) W x.threads s3→Calls Tryz.prog 26 #[.agg #[.slice s1 x.shared.length t1,.slice s2 x.locks.length t2,.slice s3 x.threads.length t3],.func (.func 56) #[] #[.pointer (some ⟨w.heap.size+1,0,none⟩),.pointer (some ⟨w.heap.size+2,0,none⟩)]] W fun e w'=>e=.returned (.tuple #[])∧∃ L,Zn (w.heap.size+4) W (gR f t) L w'∧dcsAt (Rf (w.heap.size+4) w') w' (x.shared.map (Dc.ren (gR f t))) s1∧dcsAt (Rf (w.heap.size+4) w') w' (x.locks.map (Dc.ren (gR f t))) s2∧thsAt (Rf (w.heap.size+4) w') w' (x.threads.map (Th.ren (gR f t))) s3):=fun W s1 t1 s2 t2 s3 t3 hl c1 c2 h1 h2 h3 =>
  (p_eachPartR vp_zr hok h1 h2 h3 ⟨zn_nil hl,c1,c2,by omega,by omega,ht⟩ (vP_two W x s1 s2 s3)).mono fun e w' h=>⟨h.1,_,h.2.zn,dcsAt_zn h.2.zn h1 (fun z hz=>by simp [adr_app,hz]),dcsAt_zn h.2.zn h2 (fun z hz=>by simp [adr_app,hz]),thsAt_zn h.2.zn h3 (fxP_of (gR_empty f t) hr) (fun z hz=>by simp [adr_app,hz])⟩
 obtain ⟨a1,c1,a2,c2,a3,c3,rfl,_⟩:=hv
 show Calls _ _ _ _ (fun e w'=>∃ s1 t1 s2 t2 s3 t3,e=.returned (.agg #[.slice s1 x.shared.length t1,.slice s2 x.locks.length t2,.slice s3 x.threads.length t3])∧dcsAt (Rf w.heap.size w') w' (x.shared.map (Dc.ren (gR f t))) s1∧dcsAt (Rf w.heap.size w') w' (x.locks.map (Dc.ren (gR f t))) s2∧thsAt (Rf w.heap.size w') w' (x.threads.map (Th.ren (gR f t))) s3∧Below w.heap.size w w')
 unfold CpyP at HCP
 generalize x.shared.length=n1 at *
 generalize x.locks.length=n2 at *
 generalize x.threads.length=n3 at *
 have HX:=Lib.hid (b4_new w f t #[.slice a1 n1 c1,.slice a2 n2 c2,.slice a3 n3 c3] zPg)
 obtain ⟨W0,hW0⟩:∃ W,W=(((w.alloc (.cells #[.slice a1 n1 c1,.slice a2 n2 c2,.slice a3 n3 c3] 25)).alloc (.cells #[.string f] 9)).alloc (.cells #[.string t] 9)).alloc (.cells zPg 25):=⟨_,rfl⟩
 rw [← hW0] at HX
 have HW0:=Lib.hid hW0
 clear hW0 hf hok hr
 go_enter Tryz.func22,Tryz.ntmps22
 go_upto_region 1 with (fail)
 rw [show (#[.slice none 0 0,.slice none 0 0,.slice none 0 0]:Array Value)=zPg from rfl,← HW0.out]
 have O1:=HX.out.own0
 go_wp2_with (refine ld rowPg rfl rfl rfl O1 rfl ?_)
 go_at_call 45
 refine (HCP.out _ HX.out.bel).mono ?_
 rintro e w2 ⟨s1,t1,s2,t2,s3,t3,rfl,e1,e2,e3,hb⟩
 have HX2:=Lib.hid (b4_below HX.out hb)
 have hlt:=HX.out.own3.lt
 have hs2:w.heap.size+4≤w2.heap.size:=by have:=hb.size;omega
 have O3:=Own.new w2 25 #[.slice none 0 0,.slice none 0 0,.slice none 0 0]
 have B3:Below w2.heap.size w2 ((w2.alloc (.cells #[.slice none 0 0,.slice none 0 0,.slice none 0 0] 25)).setRow w2.heap.size #[.slice s1 n1 t1,.slice s2 n2 t2,.slice s3 n3 t3]):=Below.of_row ((Below.refl _ w2).alloc (Nat.le_refl _) _) (Nat.le_refl _) _
 have R3:=O3.row #[.slice s1 n1 t1,.slice s2 n2 t2,.slice s3 n3 t3]
 have HX3:=Lib.hid (b4_below HX2.out B3)
 obtain ⟨W3,hW3⟩:∃ W,W=(w2.alloc (.cells #[.slice none 0 0,.slice none 0 0,.slice none 0 0] 25)).setRow w2.heap.size #[.slice s1 n1 t1,.slice s2 n2 t2,.slice s3 n3 t3]:=⟨_,rfl⟩
 rw [← hW3] at B3 R3 HX3
 have B3':=B3
 have HW3:=Lib.hid hW3
 have HZ1:Hid (dcsAt (Rz (w.heap.size+4) W3) W3 x.shared s1):=dcsAt_stays (Stays.refl _ _) (fun b hb=>rz_of (B':=w.heap.size+4) (Nat.le_refl _) ⟨⟨hb.1.1,hb.1.2⟩,hb.2⟩) (dcsAt_in (dcsAt_rf e1 (chg_below B3) (by omega)))
 have HZ2:Hid (dcsAt (Rz (w.heap.size+4) W3) W3 x.locks s2):=dcsAt_stays (Stays.refl _ _) (fun b hb=>rz_of (B':=w.heap.size+4) (Nat.le_refl _) ⟨⟨hb.1.1,hb.1.2⟩,hb.2⟩) (dcsAt_in (dcsAt_rf e2 (chg_below B3) (by omega)))
 have HZ3:Hid (thsAt (Rz (w.heap.size+4) W3) W3 x.threads s3):=thsAt_stays (Stays.refl _ _) (fun b hb=>rz_of (B':=w.heap.size+4) (Nat.le_refl _) ⟨⟨hb.1.1,hb.1.2⟩,hb.2⟩) (thsAt_in (thsAt_rf e3 (chg_below B3) (by omega)))
 have HG:=Lib.hid R3
 have HS2:Hid (w.heap.size+4≤W3.heap.size):=Nat.le_trans hs2 B3'.size
 have HCF:Hid (W3.cell? ⟨w.heap.size+1,0,none⟩=some (.string f)):=by rw [Hid,cell_of_row _ _ 0 _ _ _ HX3.out.own1];rfl
 have HCT:Hid (W3.cell? ⟨w.heap.size+2,0,none⟩=some (.string t)):=by rw [Hid,cell_of_row _ _ 0 _ _ _ HX3.out.own2];rfl
 clear hW3 hb e1 e2 e3 HX HX2 O1 B3 B3' HCP hlt hs2 R3
 go_upto_region 2 with (refine st rowPg rfl rfl O3 rfl rfl (by rfl) (by rfl) (by kernel_rfl) ?_)
 rw [← HW3.out]
 clear HW3 O3
 have R3:=HG.out
 go_wp2_with (refine ld rowPg rfl rfl rfl R3 rfl ?_)
 go_at_call 26
 refine (HEP.out _ _ _ _ _ _ _ HS2.out HCF.out HCT.out HZ1.out HZ2.out HZ3.out).mono ?_
 rintro e w4 ⟨rfl,L,hz,k1,k2,k3⟩
 have hno:∀ (o:Nat) (n:ByteArray),(#[.slice s1 n1 t1,.slice s2 n2 t2,.slice s3 n3 t3]:Array Value)[o]? ≠ some (.string n):=fun o n h=>by
  match o,h with
  | 0,h=>cases h
  | 1,h=>cases h
  | 2,h=>cases h
  | o+3,h=>simp at h
 have hno2:∀ (o:Nat) (n:ByteArray),(zPg:Array Value)[o]? ≠ some (.string n):=fun o n h=>by
  match o,h with
  | 0,h=>cases h
  | 1,h=>cases h
  | 2,h=>cases h
  | o+3,h=>simp [zPg] at h
 have P4:=own_zn hz R3 hno
 have Q4:=own_zn hz HX3.out.own3 hno2
 have HB4:=Lib.hid (HX3.out.bel.trans (hz.below.mono (by omega)))
 have HK1:=Lib.hid k1
 have HK2:=Lib.hid k2
 have HK3:=Lib.hid k3
 clear hno hno2 hz k1 k2 k3 HZ1 HZ2 HZ3 HX3 R3 HG HEP HCF HCT
 go_wp2_with (first | (refine ld rowPg rfl rfl rfl P4 rfl ?_) | (refine st rowPg rfl rfl Q4 rfl rfl (by rfl) (by rfl) (by kernel_rfl) ?_))
 refine p_ret rowPg rfl (Q4.row #[.slice s1 n1 t1,.slice s2 n2 t2,.slice s3 n3 t3]) rfl rfl rfl ?_
 have hst:Chg (w.heap.size+4) w4 (w4.setRow (w.heap.size+3) #[.slice s1 n1 t1,.slice s2 n2 t2,.slice s3 n3 t3]):=chg_setRow w4 _ (by omega)
 exact ⟨s1,t1,s2,t2,s3,t3,rfl,dcsAt_rf HK1.out hst (by omega),dcsAt_rf HK2.out hst (by omega),thsAt_rf HK3.out hst (by omega),Below.of_row HB4.out (by omega) _⟩
end Go.Proofs.YtkheldgmpgefiaaGreatDoor

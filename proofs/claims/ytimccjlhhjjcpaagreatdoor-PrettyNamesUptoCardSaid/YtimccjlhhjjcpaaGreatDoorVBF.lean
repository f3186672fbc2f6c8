/- The proof, part 32: texts that belong together, in one. -/
import Derived.Test.YtimccjlhhjjcpaaGreatDoorVBC
import Derived.Test.YtimccjlhhjjcpaaGreatDoorVBD
import Derived.Test.YtimccjlhhjjcpaaGreatDoorVBE
import Derived.Deep.RegionHeld3
import Derived.Test.YtimccjlhhjjcpaaGreatDoorVAY
import Derived.Shelf.SlIter.Nil
import Derived.Shelf.SortM.Plain
import Derived.Shelf.SortM.SortNone
import Derived.Ground.GgzProg
import Derived.Ground.SlgmProg
import Derived.Test.YtimccjlhhjjcpaaGreatDoorProg
import Derived.Test.YtimccjlhhjjcpaaGreatDoorVBB
import Derived.Maps.Range
import Derived.Sort.KeysCollected
set_option maxRecDepth 100000
set_option maxHeartbeats 20000000
namespace Go.Proofs.YtimccjlhhjjcpaaGreatDoor
open Go.RowKit Go.Maps
set_option linter.unusedVariables false
def GdN (w0:World) (l:List Vz):Prop:=l.length≤1048576∧∀ z∈l,z.nm.length≤2∧∀ a∈z.nm,∀ s,w0.cell? a=some (.string s)→s.size≤maxLen
theorem gdN_pre {w0:World} {A B:List Vz} (h:GdN w0 (A++B)):GdN w0 A:=⟨by have:=h.1;rw [List.length_append] at this;omega,fun z hz=>h.2 z (by simp [hz])⟩
theorem mlaw:Keyed Tryz.prog 9:=string_keyed Tryz.underlying9
theorem mzero (w:World):(zeroValue 3).run Tryz.prog w=.ok (.int .i64 0) w:=by kernel_rfl
def Mk (m:Nat) (w0:World) (V:List Vz) (pl:Addr) (l:List Addr) (X:World):Prop:=∃ (n:Nat) (D:DataW Unit),n≤2*V.length+l.length∧MO X m n D∧∀ s,has D (.string s)=true↔s≠[]∧nmC w0 (V++[⟨pl,l⟩]) ⟨s.toArray⟩
theorem mk_same {m:Nat} {w0:World} {V:List Vz} {pl:Addr} {l:List Addr} {X Y:World} (h:Mk m w0 V pl l X) (e:Y.heap[m]? = X.heap[m]?):Mk m w0 V pl l Y:=by
 obtain ⟨n,D,hn,hD,hk⟩:=h
 exact ⟨n,D,hn,mo_same hD e,hk⟩
theorem nmC_snoc {w0:World} {V:List Vz} {pl a:Addr} {l:List Addr} {s u:ByteArray} (h:w0.cell? a=some (.string s)):nmC w0 (V++[⟨pl,l++[a]⟩]) u↔nmC w0 (V++[⟨pl,l⟩]) u∨u=s:=by
 rw [nmC_app,nmC_app,or_assoc]
 refine or_congr Iff.rfl ⟨fun ⟨b,hb,e⟩=>?_,fun k=>?_⟩
 · simp only [adr, List.flatMap_cons, List.flatMap_nil, List.append_nil, List.mem_append, List.mem_singleton] at hb
   rcases hb with hb | rfl
   · exact .inl ⟨b,by simpa [adr] using hb,e⟩
   · rw [h] at e;injection Option.some.inj e with e;exact .inr e.symm
 · rcases k with ⟨b, hb, e⟩ | rfl
   · exact ⟨b,by simp only [adr,List.flatMap_cons,List.flatMap_nil,List.append_nil,List.mem_append,List.mem_singleton] at hb ⊢;exact .inl hb,e⟩
   · exact ⟨a,by simp [adr],h⟩
theorem mk_skip {m:Nat} {w0:World} {V:List Vz} {pl a:Addr} {l:List Addr} {X:World} (h:Mk m w0 V pl l X) (hs:w0.cell? a=some (.string ByteArray.empty)):Mk m w0 V pl (l++[a]) X:=by
 obtain ⟨n,D,hn,hD,hk⟩:=h
 refine ⟨n,D,by rw [List.length_append];omega,hD,fun s=>(hk s).trans ⟨fun ⟨h1,h2⟩=>⟨h1,(nmC_snoc hs).2 (.inl h2)⟩,fun ⟨h1,h2⟩=>⟨h1,?_⟩⟩⟩
 rcases (nmC_snoc hs).1 h2 with h2 | h2
 · exact h2
 · exact absurd (by have:=congrArg (fun b:ByteArray=>b.data.toList) h2;simpa using this) h1
theorem mo_isMap {w:World} {m n:Nat} {D:DataW Unit} (h:MO w m n D):IsMap D:=by
 obtain ⟨es,c,hb,F,hs,rfl⟩:=h
 exact ⟨_,rfl⟩
theorem mk_put {m:Nat} {w0:World} {V:List Vz} {pl a:Addr} {l:List Addr} {X:World} {s:ByteArray} (h:Mk m w0 V pl l X) (hs:w0.cell? a=some (.string s)) (hne:s≠ByteArray.empty) (hlen:s.size≤maxLen) (hb:2*V.length+l.length<4194304) :
 ∃ c, (∀ Y : World, Y.heap[m]? = X.heap[m]? → (Instr.lookup 45 (.map (some m)) (.string s) false).run Tryz.prog Y = .ok (.int .i64 c) Y) ∧
   ∃ F:World→World,∀ Y:World,Y.heap[m]? = X.heap[m]? → (Instr.mapUpdate 45 (.map (some m)) (.string s) (.int .i64 (wrap64 (c+1)))).run Tryz.prog Y=.ok () (F Y)∧Mk m w0 V pl (l++[a]) (F Y)∧Y.grownBy (F Y) (some m):=by
 obtain ⟨n,D,hn,hD,hk⟩:=h
 have hkey:keyOf Tryz.prog 9 (.string s)=some (.string s.data.toList):=WideMaps.keyOf_string_mk Tryz.underlying9 hlen
 obtain ⟨c,hrun,hat,_⟩:=hD.lookup_int mlaw Tryz.underlying45 Tryz.underlying3 (mzero _) hkey
 have hlk:∀ Y:World,Y.heap[m]? = X.heap[m]? → (Instr.lookup 45 (.map (some m)) (.string s) false).run Tryz.prog Y=.ok (.int .i64 c) Y:=fun Y e=>by
  obtain ⟨c',hrun',hat',_⟩:=(mo_same hD e).lookup_int mlaw Tryz.underlying45 Tryz.underlying3 (mzero _) hkey
  rw [hat] at hat'
  have:c=c':=by simpa using hat'
  rw [hrun',this]
 refine ⟨c,hlk,?_⟩
 have hup:∀ Y:World,∃ Z:World,Y.heap[m]? = X.heap[m]? → (Instr.mapUpdate 45 (.map (some m)) (.string s) (.int .i64 (wrap64 (c+1)))).run Tryz.prog Y=.ok () Z∧Mk m w0 V pl (l++[a]) Z∧Y.grownBy Z (some m):=fun Y=>by
  by_cases e:Y.heap[m]? = X.heap[m]?
  · obtain ⟨Z, h1, h2, h3⟩ := (mo_same hD e).update mlaw Tryz.underlying45 (show n < maxLen by unfold maxLen; omega) hkey (plainElem_int Tryz.underlying3 (wrap64_wf (c + 1)))
    refine ⟨Z,fun _=>⟨h1,⟨n+1,_,by rw [List.length_append];simp only [List.length_singleton];omega,h2,fun u=>?_⟩,h3⟩⟩
    rw [has_name (mo_isMap hD) (by exact hlen),hk u,nmC_snoc hs]
    have e1:(⟨u.toArray⟩:ByteArray)=s↔u=s.data.toList:=⟨fun e=>by rw [← e],fun e=>by rw [e,bytes_back]⟩
    rw [e1]
    constructor
    · rintro (rfl | ⟨h1, h2⟩)
      · exact ⟨fun e=>hne (by rw [← bytes_back s,e];rfl),.inr rfl⟩
      · exact ⟨h1,.inl h2⟩
    · rintro ⟨h1, h2 | h2⟩
      · exact .inr ⟨h1,h2⟩
      · exact .inl h2
  · exact ⟨Y,fun h=>absurd h e⟩
 exact ⟨fun Y=>(hup Y).choose,fun Y=>(hup Y).choose_spec⟩
theorem nk_step {R:Nat→Prop} {fb m:Nat} {w0 W:World} {V:List Vz} {v:Vz} {s:Value} (h:Nk fb m w0 V W) (hv:Vok R w0 v) (hn:NmS w0 W v.nm s) (hg:GdN w0 (V++[v])):Calls Tryz.prog 27 #[.pointer (some v.pl),s,.pointer (some ⟨fb,0,none⟩)] W fun e W'=>e=.returned (.tuple #[])∧Nk fb m w0 (V++[v]) W'∧∀ b,w0.heap.size≤b→b<W.heap.size→W'.heap[b]? = W.heap[b]?:=by
 obtain ⟨pl,nm⟩:=v
 obtain ⟨sa,rfl,hq⟩:=nms_get hn
 have hlen:nm.length≤2:=(hg.2 ⟨pl,nm⟩ (by simp)).1
 have hshort:∀ a∈nm,∀ s,w0.cell? a=some (.string s)→s.size≤maxLen:=(hg.2 ⟨pl,nm⟩ (by simp)).2
 have hvl:V.length≤1048576:=by have:=hg.1;rw [List.length_append] at this;omega
 simp only at hq hlen ⊢
 obtain ⟨n,hnl⟩:∃ n,n=nm.length:=⟨_,rfl⟩
 rw [← hnl] at hlen ⊢
 have HN:=Lib.hid hq
 have HNL:=Lib.hid hnl
 have HNM:Hid (∀ a∈nm,a.spot=none∧∃ u,w0.cell? a=some (.string u)):=fun a ha=>(hv.nm a ha).2
 have HSH:=Lib.hid hshort
 have HVL:=Lib.hid hvl
 have H:=Lib.hid h
 have hmk0:Mk m w0 V pl (nm.take 0) W:=by
  obtain ⟨n,D,h1,h2,h3⟩:=h.map
  refine ⟨n,D,by simpa using h1,h2,fun s=>?_⟩
  rw [h3,List.take_zero,nmC_app]
  exact and_congr Iff.rfl ⟨.inl,fun h=>h.elim id fun h=>absurd h nmC_zero⟩
 have HMK0:=Lib.hid hmk0
 clear h hv hn hnl hg hshort hmk0 hvl hq
 go_enter Tryz.func27,Tryz.ntmps27
 go_wp2_with fail
 go_loopg [9] (n+1) (fun m' u X=>∃ i:Nat,u=.int .i64 (i:Int)∧i≤n∧m'=n-i+1∧Mk m w0 V pl (nm.take i) X∧W.grownBy X (some m))
 case atStart=>exact ⟨0,rfl,Nat.zero_le _,by omega,HMK0.out,⟨rfl,rfl,rfl,Nat.le_refl _,fun _ _ _=>rfl⟩⟩
 case round =>
  obtain ⟨i,rfl,hi,hm,hZ,hgr⟩:=hrel
  have HM:=Lib.hid hm
  have HGR:=Lib.hid hgr
  have HZ:=Lib.hid hZ
  clear hm
  by_cases hin:i<n
  · have il : i < nm.length := by have := HNL.out; omega
    have g1:nm[i]? = some nm[i]:=List.getElem?_eq_getElem il
    have HT:Hid (nm.take (i+1)=nm.take i++[nm[i]]):=List.take_succ_eq_append_getElem il
    obtain ⟨b,rfl,hb1,hb2,hb3⟩:=HN.out i _ g1
    obtain ⟨hsp,u,c0⟩:=HNM.out _ (List.getElem_mem il)
    have hsh:=HSH.out _ (List.getElem_mem il) u c0
    generalize nm[i]=a at hb3 hsp c0 HT g1 hsh
    obtain ⟨g,o,sp⟩:=a
    simp only at hsp
    subst hsp
    have hmlt:=nk_lt H.out
    have hin':(i:Int)<(n:Int):=by omega
    have hcel:∀ {a:Addr} {v:Value},w0.cell? a=some v→wr.cell? a=some v:=fun {a v} ha=>by
     have h1:=nk_cell H.out ha
     have hne:a.block≠m:=fun e=>by
      obtain ⟨es,c,h⟩:=H.out.mp
      obtain ⟨b,o,sp⟩:=a
      simp only at e;subst e
      simp [World.cell?,h] at ha
     rw [World.cell?_of_block (hgr.block a.block (cell_lt h1) fun e=>hne (Option.some.inj e))];exact h1
    have cP:wr.cell? ⟨b,i,none⟩=some (.pointer (some ⟨g,o,none⟩)):=by
     rw [World.cell?_of_block (w:=W) (a:=⟨b,i,none⟩) (hgr.block b hb2 fun e=>by have:=Option.some.inj e;omega)];exact hb3
    have cU:=hcel c0
    have cM:=hcel H.out.fd
    have HC0:=Lib.hid c0
    have HB2:Hid (2*V.length+(nm.take i).length<4194304):=by
     have:=HVL.out
     rw [Hid,List.length_take];omega
    clear hcel c0 g1 il hb1 hb2 hb3 hgr hmlt
    by_cases q0:u=ByteArray.empty
    · have q1 : (u.toList == ([] : List UInt8)) = true := by rw [q0, Lib.toList_data]; rfl
      have HQ:Hid (∀ X:World,X.heap[m]? = wr.heap[m]? → Mk m w0 V pl (nm.take (i+1)) X):=fun X e=>by
       rw [HT.out];exact mk_skip (mk_same HZ.out e) (by rw [HC0.out,q0])
      clear q0 hZ HZ cM
      go_wp2_with fail
      go_roundg (n-(i+1)+1)
      case measure=>have:=HM.out;omega
      case rel=>exact ⟨i+1,rfl,by omega,by omega,HQ.out _ rfl,HGR.out⟩
    · have q1 : (u.toList == ([] : List UInt8)) = false := by have := bytes_eqF q0; simpa using this
      obtain ⟨c,hlk,F,hF⟩:=mk_put HZ.out HC0.out q0 hsh HB2.out
      rw [← HT.out] at hF
      have hl1:=hlk wr.drew rfl
      have hu1:(Instr.mapUpdate 45 (.map (some m)) (.string u) (.int .i64 (IntKind.i64.wrap (c+1)))).run Tryz.prog wr.drew=.ok () (F wr.drew):=by rw [show IntKind.i64.wrap (c+1)=wrap64 (c+1) from by rw [IntKind.wrap_i64];unfold wrap64;omega];exact (hF wr.drew rfl).1
      have HF1:Hid (Mk m w0 V pl (nm.take (i+1)) (F wr.drew)∧wr.grownBy (F wr.drew) (some m)):=by
       have h9:=(hF wr.drew rfl).2
       exact ⟨h9.1,⟨h9.2.os,h9.2.tape,h9.2.output,h9.2.size,h9.2.block⟩⟩
      clear q0 hZ hsh hF hlk
      generalize F wr.drew=X1 at hu1 HF1
      go_wp2_with fail
      go_region_with (fail)
      all_goals
       go_wp2_with fail
       go_roundg (n-(i+1)+1)
       case measure=>have:=HM.out;omega
       case rel=>exact ⟨i+1,rfl,by omega,by omega,HF1.out.1,HGR.out.andThen HF1.out.2 (fun j hj=>.inr hj)⟩
  · have : i = n := by omega
    subst this
    have HPZ:Hid (Nk fb m w0 (V++[⟨pl,nm⟩]) wr):=by
     obtain ⟨n,D,h1,h2,h3⟩:=HZ.out
     rw [List.take_of_length_le (by have:=HNL.out;omega)] at h1 h3
     have hg:=HGR.out
     have h0:=H.out.grown
     refine ⟨H.out.mp,H.out.fd,⟨hg.os.trans h0.os,hg.tape.trans h0.tape,hg.output.trans h0.output,Nat.le_trans h0.size hg.size,fun k hk hne=>?_⟩,n,D,?_,h2,h3⟩
     · rw [hg.block k (Nat.lt_of_lt_of_le hk h0.size) hne];exact h0.block k hk hne
     · have := HNL.out
       rw [List.length_append];simp only [List.length_singleton];omega
    have HST:Hid (∀ b,w0.heap.size≤b→b<W.heap.size→wr.heap[b]? = W.heap[b]?):=fun b h1 h2=>HGR.out.block b h2 fun e=>by have:=nk_lt H.out;have:=Option.some.inj e;omega
    clear hZ HZ hgr
    go_wp2_with fail
    exact bodyPost_end (results_none rfl _ _ _) rfl ⟨rfl,HPZ.out,HST.out⟩
open Go.RowKit
set_option linter.unusedVariables false
theorem vEs_two (w:World):∀ (l:List Ex) (g o:Nat),∀ z∈vEs w l g o,z.nm.length≤2:=by
 intro l
 induction l using Exs.ind with
 | h0=>intro g o z hz;cases hz
 | h1 k op wd nm ks p r ih1 ih2 =>
   intro g o z hz
   simp only [vEs,vE,List.mem_append,List.mem_cons] at hz
   rcases hz with (rfl | hz) | hz
   · by_cases e : k = 2
     · simp [e]
     · simp [e]
   · exact ih1 _ _ z hz
   · exact ih2 _ _ z hz
theorem vSs_two (w:World):∀ (l:List St) (g o:Nat),∀ z∈vSs w l g o,z.nm.length≤2:=by
 intro l
 induction l using Sts.ind with
 | h0=>intro g o z hz;cases hz
 | h1 k n ot e b l p r ih1 ih2 ih3 =>
   intro g o z hz
   simp only [vSs,vS,List.mem_append,List.mem_cons] at hz
   rcases hz with (rfl | hz | hz | hz) | hz
   · simp
   · exact vEs_two w e _ _ z hz
   · exact ih1 _ _ z hz
   · exact ih2 _ _ z hz
   · exact ih3 _ _ z hz
theorem vDs_two (w:World):∀ (l:List Dc) (g o:Nat),∀ z∈vDs w l g o,z.nm.length≤2
 | [],_,_,z,hz=>by cases hz
 | x :: r, g, o, z, hz => by
   simp only [vDs,vD,List.mem_append,List.mem_cons,List.not_mem_nil,or_false] at hz
   rcases hz with rfl | hz
   · simp
   · exact vDs_two w r g _ z hz
theorem vTs_two (w:World):∀ (l:List Th) (g o:Nat),∀ z∈vTs w l g o,z.nm.length≤2
 | [],_,_,z,hz=>by cases hz
 | x :: r, g, o, z, hz => by
   simp only [vTs,vT,List.mem_append,List.mem_cons] at hz
   rcases hz with (rfl | hz | hz) | hz
   · simp
   · exact vDs_two w x.locals _ _ z hz
   · exact vSs_two w x.body _ _ z hz
   · exact vTs_two w r g _ z hz
theorem vP_two (w:World) (x:Pg) (a1 a2 a3:Option Addr):∀ z∈vDsA w x.shared a1++vDsA w x.locks a2++vTsA w x.threads a3,z.nm.length≤2:=by
 have hd:∀ (l:List Dc) (a:Option Addr),∀ z∈vDsA w l a,z.nm.length≤2:=fun l a z hz=>by
  cases a with
  | none=>cases hz
  | some p=>exact vDs_two w l _ _ z hz
 intro z hz
 simp only [List.mem_append] at hz
 rcases hz with (hz | hz) | hz
 · exact hd _ _ z hz
 · exact hd _ _ z hz
 · cases a3 with
   | none=>cases hz
   | some p=>exact vTs_two w x.threads _ _ z hz
theorem fitEs_nm:∀ l:List Ex,fitEs l→∀ s∈nmEs l,nmOk s:=by
 intro l
 induction l using Exs.ind with
 | h0=>intro _ s hs;cases hs
 | h1 k op wd nm ks p r ih1 ih2 =>
   intro h s hs
   simp only [nmEs,nmE,List.mem_append] at hs
   rcases hs with (hs | hs) | hs
   · by_cases e : k = 2
     · rw [if_pos e] at hs
       obtain rfl:s=nm:=by simpa using hs
       exact h.1.1
     · rw [if_neg e] at hs;cases hs
   · exact ih1 h.1.2.2 s hs
   · exact ih2 h.2 s hs
theorem fitSs_nm:∀ l:List St,fitSs l→∀ s∈nmSs l,nmOk s:=by
 intro l
 induction l using Sts.ind with
 | h0=>intro _ s hs;cases hs
 | h1 k n ot e b l p r ih1 ih2 ih3 =>
   intro h s hs
   obtain ⟨⟨n1,n2,⟨e1,e2⟩,⟨b1,b2⟩,l1,l2⟩,hr⟩:=h
   simp only [nmSs,nmS,List.mem_append,List.mem_cons] at hs
   rcases hs with (rfl | rfl | hs | hs | hs) | hs
   · exact n1
   · exact n2
   · exact fitEs_nm e e2 s hs
   · exact ih1 b2 s hs
   · exact ih2 l2 s hs
   · exact ih3 hr s hs
theorem fitDs_nm {l:List Dc} (h:fitDs l):∀ s∈nmDs l,nmOk s:=fun s hs=>by
 obtain ⟨d,hd,rfl⟩:=List.mem_map.1 hs
 exact h d hd
theorem fitP_nm {x:Pg} (h:fitP x):∀ s∈nmP x,nmOk s:=fun s hs=>by
 obtain ⟨⟨h1,h2⟩,⟨h3,h4⟩,h5,h6⟩:=h
 simp only [nmP,List.mem_append] at hs
 rcases hs with (hs | hs) | hs
 · exact fitDs_nm h2 s hs
 · exact fitDs_nm h4 s hs
 · obtain ⟨t, ht, hs⟩ := List.mem_flatMap.1 hs
   obtain ⟨k0,⟨k1,k2⟩,k3,k4⟩:=h6 t ht
   simp only [nmT,List.mem_cons,List.mem_append] at hs
   rcases hs with rfl | hs | hs
   · exact k0
   · exact fitDs_nm k2 s hs
   · exact fitSs_nm _ k4 s hs
theorem nmC_P {R:Nat→Prop} {w:World} {x:Pg} {a1 a2 a3:Option Addr} (h1:dcsAt R w x.shared a1) (h2:dcsAt R w x.locks a2) (h3:thsAt R w x.threads a3) (s:ByteArray):nmC w (vDsA w x.shared a1++vDsA w x.locks a2++vTsA w x.threads a3) s↔s∈nmP x:=by
 rw [nmC_app,nmC_app,nmC_dcsA h1,nmC_dcsA h2,nmC_thsA h3]
 simp only [nmP,List.mem_append]
theorem gdN_P {R:Nat→Prop} {w:World} {x:Pg} {a1 a2 a3:Option Addr} (hb:ctP x≤1048576) (hf:fitP x) (h1:dcsAt R w x.shared a1) (h2:dcsAt R w x.locks a2) (h3:thsAt R w x.threads a3):GdN w (vDsA w x.shared a1++vDsA w x.locks a2++vTsA w x.threads a3) :=
 ⟨vP_ct w hb a1 a2 a3,fun z hz=>⟨vP_two w x a1 a2 a3 z hz,fun a ha s hs=>by
  have h:=fitP_nm hf s ((nmC_P h1 h2 h3 s).1 ⟨a,by simp only [adr,List.mem_flatMap];exact ⟨z,hz,ha⟩,hs⟩)
  unfold nmOk at h;unfold maxLen;omega⟩⟩
end Go.Proofs.YtimccjlhhjjcpaaGreatDoor
namespace Go.Proofs
open Go.Shelf
def Tryz.keysK_ren:Go.Shelf.Ren:=⟨fun | 7=>29 | 10=>70 | n=>n,fun | 23=>45 | 26=>9 | 3=>3 | 28=>53 | 0=>0 | 27=>52 | 33=>38 | 4=>4 | n=>n,fun | n=>n⟩
theorem Tryz.keysK:Go.Proofs.SlLaysZ.n7 Tryz.prog Tryz.keysK_ren:={
 mixed:=by kernel_rfl
 f7:=⟨Tryz.f29.name,by decide,Tryz.func29.trans (congrArg some (by kernel_rfl))⟩
 f10:=⟨Tryz.f70.name,by decide,Tryz.func70.trans (congrArg some (by kernel_rfl))⟩
 t0:=Tryz.underlying0
 a0:=Tryz.isAgg0
 z0:=Tryz.sizeOf0
 v0:=Tryz.zeroValue0
 t4:=Tryz.underlying4
 a4:=Tryz.isAgg4
 z4:=Tryz.sizeOf4
 v4:=Tryz.zeroValue4
 t23:=Tryz.underlying45
 a23:=Tryz.isAgg45
 z23:=Tryz.sizeOf45
 v23:=Tryz.zeroValue45
 t26:=Tryz.underlying9
 a26:=Tryz.isAgg9
 z26:=Tryz.sizeOf9
 v26:=Tryz.zeroValue9
 t27:=Tryz.underlying52
 a27:=Tryz.isAgg52
 z27:=Tryz.sizeOf52
 v27:=Tryz.zeroValue52
 t28:=Tryz.underlying53
 a28:=Tryz.isAgg53
 z28:=Tryz.sizeOf53
 v28:=Tryz.zeroValue53
 t33:=Tryz.underlying38
 a33:=Tryz.isAgg38
 z33:=Tryz.sizeOf38
 v33:=Tryz.zeroValue38 }
def Tryz.sortedK_ren:Go.Shelf.Ren:=⟨fun | 6=>28 | 8=>68 | 9=>69 | 11=>91 | 13=>93 | 12=>92 | 23=>121 | 24=>122 | 14=>112 | 15=>113 | 16=>114 | 17=>115 | 18=>116 | 19=>117 | 20=>118 | 21=>119 | 22=>120 | 25=>142 | 26=>143 | 27=>144 | 28=>145 | 29=>146 | 30=>147 | 31=>156 | n=>n,fun | 26=>9 | 28=>53 | 24=>30 | 0=>0 | 3=>3 | 37=>116 | 48=>155 | 50=>157 | 4=>4 | 40=>147 | 39=>146 | 45=>152 | 5=>5 | 9=>9 | 51=>168 | 55=>47 | 57=>191 | 58=>192 | 33=>38 | n=>n,fun | n=>n⟩
theorem Tryz.sortedK:Go.Proofs.SlLaysZ.n6 Tryz.prog Tryz.sortedK_ren:={
 mixed:=by kernel_rfl
 f6:=⟨Tryz.f28.name,by decide,Tryz.func28.trans (congrArg some (by kernel_rfl))⟩
 f8:=⟨Tryz.f68.name,by decide,Tryz.func68.trans (congrArg some (by kernel_rfl))⟩
 f11:=⟨Tryz.f91.name,by decide,Tryz.func91.trans (congrArg some (by kernel_rfl))⟩
 t0:=Tryz.underlying0
 a0:=Tryz.isAgg0
 z0:=Tryz.sizeOf0
 v0:=Tryz.zeroValue0
 t24:=Tryz.underlying30
 a24:=Tryz.isAgg30
 z24:=Tryz.sizeOf30
 v24:=Tryz.zeroValue30
 t26:=Tryz.underlying9
 a26:=Tryz.isAgg9
 z26:=Tryz.sizeOf9
 v26:=Tryz.zeroValue9
 t28:=Tryz.underlying53
 a28:=Tryz.isAgg53
 z28:=Tryz.sizeOf53
 v28:=Tryz.zeroValue53
 i26:=by kernel_rfl }
def Tryz.sortK_ren:Go.Shelf.Ren:=⟨fun | 6=>69 | 8=>93 | 9=>92 | 19=>121 | 20=>122 | 21=>112 | 22=>113 | 23=>114 | 24=>115 | 25=>116 | 26=>117 | 27=>118 | 28=>119 | 29=>120 | 36=>142 | 31=>143 | 32=>144 | 37=>145 | 38=>146 | 39=>147 | 41=>156 | n=>n,fun | 27=>30 | 29=>9 | 3=>3 | 32=>116 | 26=>30 | 0=>0 | 44=>155 | 46=>157 | 4=>4 | 36=>147 | 35=>146 | 41=>152 | 5=>5 | 9=>9 | 53=>168 | 57=>47 | 63=>191 | 64=>192 | n=>n,fun | n=>n⟩
theorem Tryz.sortK:Go.Proofs.SlLaysM.n6 Tryz.prog Tryz.sortK_ren:={
 mixed:=by kernel_rfl
 f6:=⟨Tryz.f69.name,by decide,Tryz.func69.trans (congrArg some (by kernel_rfl))⟩
 f8:=Tryz.func93.trans (congrArg some (by kernel_rfl))
 f9:=⟨Tryz.f92.name,by decide,Tryz.func92.trans (congrArg some (by kernel_rfl))⟩
 f19:=Tryz.func121.trans (congrArg some (by kernel_rfl))
 f20:=Tryz.func122.trans (congrArg some (by kernel_rfl))
 f21:=⟨Tryz.f112.name,by decide,Tryz.func112.trans (congrArg some (by kernel_rfl))⟩
 f22:=⟨Tryz.f113.name,by decide,Tryz.func113.trans (congrArg some (by kernel_rfl))⟩
 f23:=⟨Tryz.f114.name,by decide,Tryz.func114.trans (congrArg some (by kernel_rfl))⟩
 f24:=⟨Tryz.f115.name,by decide,Tryz.func115.trans (congrArg some (by kernel_rfl))⟩
 f25:=⟨Tryz.f116.name,by decide,Tryz.func116.trans (congrArg some (by kernel_rfl))⟩
 f26:=⟨Tryz.f117.name,by decide,Tryz.func117.trans (congrArg some (by kernel_rfl))⟩
 f27:=⟨Tryz.f118.name,by decide,Tryz.func118.trans (congrArg some (by kernel_rfl))⟩
 f28:=⟨Tryz.f119.name,by decide,Tryz.func119.trans (congrArg some (by kernel_rfl))⟩
 f29:=⟨Tryz.f120.name,by decide,Tryz.func120.trans (congrArg some (by kernel_rfl))⟩
 f31:=Tryz.func143.trans (congrArg some (by kernel_rfl))
 f32:=Tryz.func144.trans (congrArg some (by kernel_rfl))
 f36:=⟨Tryz.f142.name,by decide,Tryz.func142.trans (congrArg some (by kernel_rfl))⟩
 f37:=⟨Tryz.f145.name,by decide,Tryz.func145.trans (congrArg some (by kernel_rfl))⟩
 f38:=⟨Tryz.f146.name,by decide,Tryz.func146.trans (congrArg some (by kernel_rfl))⟩
 f39:=⟨Tryz.f147.name,by decide,Tryz.func147.trans (congrArg some (by kernel_rfl))⟩
 f41:=⟨Tryz.f156.name,by decide,Tryz.func156.trans (congrArg some (by kernel_rfl))⟩
 t0:=Tryz.underlying0
 a0:=Tryz.isAgg0
 z0:=Tryz.sizeOf0
 v0:=Tryz.zeroValue0
 t3:=Tryz.underlying3
 a3:=Tryz.isAgg3
 z3:=Tryz.sizeOf3
 v3:=Tryz.zeroValue3
 t4:=Tryz.underlying4
 a4:=Tryz.isAgg4
 z4:=Tryz.sizeOf4
 v4:=Tryz.zeroValue4
 t5:=Tryz.underlying5
 a5:=Tryz.isAgg5
 z5:=Tryz.sizeOf5
 v5:=Tryz.zeroValue5
 t9:=Tryz.underlying9
 a9:=Tryz.isAgg9
 z9:=Tryz.sizeOf9
 v9:=Tryz.zeroValue9
 t26:=Tryz.underlying30
 a26:=Tryz.isAgg30
 z26:=Tryz.sizeOf30
 v26:=Tryz.zeroValue30
 t27:=Tryz.underlying30
 a27:=Tryz.isAgg30
 z27:=Tryz.sizeOf30
 v27:=Tryz.zeroValue30
 t29:=Tryz.underlying9
 a29:=Tryz.isAgg9
 z29:=Tryz.sizeOf9
 v29:=Tryz.zeroValue9
 t32:=Tryz.underlying116
 a32:=Tryz.isAgg116
 z32:=Tryz.sizeOf116
 v32:=Tryz.zeroValue116
 t35:=Tryz.underlying146
 a35:=Tryz.isAgg146
 z35:=Tryz.sizeOf146
 v35:=Tryz.zeroValue146
 t36:=Tryz.underlying147
 a36:=Tryz.isAgg147
 z36:=Tryz.sizeOf147
 v36:=Tryz.zeroValue147
 t41:=Tryz.underlying152
 a41:=Tryz.isAgg152
 z41:=Tryz.sizeOf152
 v41:=Tryz.zeroValue152
 t44:=Tryz.underlying155
 a44:=Tryz.isAgg155
 z44:=Tryz.sizeOf155
 v44:=Tryz.zeroValue155
 t46:=Tryz.underlying157
 a46:=Tryz.isAgg157
 z46:=Tryz.sizeOf157
 v46:=Tryz.zeroValue157
 t53:=Tryz.underlying168
 a53:=Tryz.isAgg168
 z53:=Tryz.sizeOf168
 v53:=Tryz.zeroValue168
 t57:=Tryz.underlying47
 a57:=Tryz.isAgg47
 z57:=Tryz.sizeOf47
 v57:=Tryz.zeroValue47
 t63:=Tryz.underlying191
 a63:=Tryz.isAgg191
 z63:=Tryz.sizeOf191
 v63:=Tryz.zeroValue191
 t64:=Tryz.underlying192
 a64:=Tryz.isAgg192
 z64:=Tryz.sizeOf192
 v64:=Tryz.zeroValue192 }
end Go.Proofs
namespace Go.Proofs.YtimccjlhhjjcpaaGreatDoor
open Go.RowKit Go.Maps Go.Sort Go.Shelf
set_option linter.unusedVariables false
theorem k_sorts (m:Nat):AnyZ.SortsIn Tryz.prog Tryz.sortedK_ren Fence.wide m :=
 ⟨fun blk off cap ss W hH hblk hsz=>callsIn_wide.2 (AnyM.slices_Sort_string Tryz.sortK blk off cap ss W hH hblk hsz),
  fun p cap W=>callsIn_wide.2 (AnyM.slices_Sort_string_none Tryz.sortK p cap W)⟩
theorem k_keys (mb:Option Nat) (W:World):Calls Tryz.prog 29 #[.map mb] W fun e w'=>e=.returned (.func (.func 70) #[] #[.pointer (some ⟨W.heap.size,0,none⟩)])∧w'=W.alloc (.cells #[.map mb] 45) :=
 callsIn_wide.1 (AnyZ.keys_in Tryz.keysK Fence.wide 5 trivial rfl mb W)
theorem k_sorted {H:Type} (b nn:Nat) (D0:DataW H) (R:Value→Option (DataW H × List MemPlace)) (w:World) (hown:w.ownsMap Tryz.prog 9 R b nn D0) (hmax:Maps.size D0≤maxLen) (hbytes:Maps.size D0*16≤140737488355328) :
 Calls Tryz.prog 28 #[.func (.func 70) #[] #[.pointer (some ⟨w.heap.size,0,none⟩)]] (w.alloc (.cells #[.map (some b)] 45)) fun e w'=>∃ (v:Value) (ss:List (List UInt8)),e=.returned v∧ss.Perm (strKeys D0) ∧
  w'.ownsRow (w.alloc (.cells #[.map (some b)] 45)).heap.size 9 1 v ss.length ((ss.mergeSort (fun x y=>decide (x≤y))).map encStr)∧(v=.slice none 0 0↔ss=[])∧Below (w.alloc (.cells #[.map (some b)] 45)).heap.size (w.alloc (.cells #[.map (some b)] 45)) w':=by
 have hbl:=hown.lt
 have hseq:SeqGives Fence.wide 2 Tryz.prog 70 #[.pointer (some ⟨w.heap.size,0,none⟩)] encStr (fun ss=>ss.Perm (strKeys D0)) (Maps.size D0) (w.alloc (.cells #[.map (some b)] 45)) :=
  AnyZ.keys_gives (ρ:=Tryz.keysK_ren) { Tryz.keysK with } Fence.wide _ trivial rfl (by omega) w.heap.size b nn D0 _ (by simp) (by simp) (by
   obtain ⟨es,clock,hb,Ft,hs,hD⟩:=hown
   exact ⟨es,clock,(Below.heap_alloc _ _ b hbl).trans hb,Ft,hs,hD⟩)
 exact callsIn_wide.1 (AnyZ.sorted_in Tryz.sortedK Fence.wide 5 trivial trivial trivial trivial rfl (by omega) (k_sorts _) (enters_of Tryz.func69 (by kernel_rfl) rfl) 70 #[.pointer (some ⟨w.heap.size,0,none⟩)] trivial (enters_of Tryz.func70 (by kernel_rfl) rfl) _ _ hmax hbytes _ hseq)
theorem keys_of {D:DataW Unit} {R:Value→Option (DataW Unit × List MemPlace)} {w:World} {b n:Nat} (hown:w.ownsMap Tryz.prog 9 R b n D):(strKeys D).Nodup∧∀ x,x∈strKeys D↔has D (.string x)=true:=by
 obtain ⟨es,hD,hpw,_⟩:=hown.entries (string_keyed Tryz.underlying9)
 obtain ⟨es',hD',hko⟩:=hown.keysOf
 obtain rfl:es=es':=by rw [hD] at hD';simpa using hD'
 subst hD
 have hk:∀ p∈es,∃ x,p.1=Lit.string x:=fun p hp=>by
  obtain ⟨v,hv⟩:=hko p hp
  obtain ⟨x,_,hx,_⟩:=Maps.keyOf_str Tryz.underlying9 hv
  exact ⟨x,hx⟩
 refine ⟨?_,fun x=>?_⟩
 · show (es.map fun p => strOf p.1).Nodup
   refine List.pairwise_map.2 (hpw.imp_of_mem fun {p q} hp' hq' hne e=>hne ?_)
   obtain ⟨a,ha⟩:=hk p hp'
   obtain ⟨b,hb⟩:=hk q hq'
   rw [ha,hb] at e ⊢
   exact congrArg _ e
 · rw [has_eq, List.any_eq_true]
   show x∈es.map (fun p=>strOf p.1)↔_
   rw [List.mem_map]
   constructor
   · rintro ⟨p, hp', rfl⟩
     obtain ⟨a,ha⟩:=hk p hp'
     exact ⟨p,hp',by rw [ha];simp [Lit.sameKey,strOf]⟩
   · rintro ⟨p, hp', hs⟩
     obtain ⟨a,ha⟩:=hk p hp'
     rw [ha] at hs
     exact ⟨p,hp',by rw [ha];simpa [Lit.sameKey,strOf] using hs⟩
theorem sorted_rise {l:List (List UInt8)} (h:l.Nodup):(l.mergeSort leB).Pairwise (· < ·):=by
 have tr:∀ a b c:List UInt8,leB a b=true→leB b c=true→leB a c=true:=fun a b c h1 h2=>by simp only [leB,decide_eq_true_eq] at *;exact List.le_trans h1 h2
 have tl:∀ a b:List UInt8,(leB a b || leB b a)=true:=fun a b=>by simp only [leB,Bool.or_eq_true,decide_eq_true_eq];exact List.le_total a b
 have h1:=List.pairwise_mergeSort tr tl l
 have h2:(l.mergeSort leB).Nodup:=(List.mergeSort_perm l leB).nodup_iff.2 h
 refine (h1.and h2).imp fun {a b} hab=>?_
 obtain ⟨h3,h4⟩:=hab
 simp only [leB,decide_eq_true_eq] at h3
 by_cases e:a<b
 · exact e
 · exact absurd (List.le_antisymm h3 (by simpa using e)) h4
theorem size_le {D:DataW Unit} {R:Value→Option (DataW Unit × List MemPlace)} {w:World} {k:TypeId} {b n:Nat} (h:w.ownsMap Tryz.prog k R b n D):Maps.size D≤n:=by
 obtain ⟨es,c,hb,F,hs,rfl⟩:=h
 show ((es.toList.map _).foldr DataW.insert []).length≤n
 rw [length_sorted];simpa using hs
end Go.Proofs.YtimccjlhhjjcpaaGreatDoor

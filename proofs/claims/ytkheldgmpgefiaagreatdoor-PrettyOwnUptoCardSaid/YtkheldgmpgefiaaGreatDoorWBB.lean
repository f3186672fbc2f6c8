/- The proof, part 28: texts that belong together, in one. -/
import Derived.Shelf.SlIter.Nil
import Derived.Shelf.SortM.Plain
import Derived.Shelf.SortM.SortNone
import Derived.Ground.GgzProg
import Derived.Ground.SlgmProg
import Derived.Test.YtkheldgmpgefiaaGreatDoorProg
import Derived.Test.YtkheldgmpgefiaaGreatDoorWAY
import Derived.Maps.Range
import Derived.Sort.KeysCollected
import Derived.Test.YtkheldgmpgefiaaGreatDoorWBA
import Derived.Test.YtkheldgmpgefiaaGreatDoorWAS
set_option maxRecDepth 100000
set_option maxHeartbeats 20000000
namespace Go.Proofs
open Go.Shelf
def Tryz.keysK_ren:Go.Shelf.Ren:=⟨fun | 7=>29 | 10=>70 | n=>n,fun | 23=>45 | 26=>9 | 3=>3 | 28=>53 | 0=>0 | 27=>52 | 33=>38 | 4=>4 | n=>n,fun | n=>n⟩
theorem Tryz.keysK:Go.Proofs.SlLaysZ.n7 Tryz.prog Tryz.keysK_ren:={
 mixed:=by kernel_rfl
 f7:=⟨Tryz.f29.name,by decide,Tryz.func29.trans (congrArg some (by kernel_rfl))⟩
 f10:=⟨Tryz.f70.name,by decide,Tryz.func70.trans (congrArg some (by kernel_rfl))⟩
 t0:=Tryz.underlying0
 a0:=Tryz.isAgg0
 z0:=Tryz.sizeOf0
 v0:=Tryz.zeroValue0
 t4:=Tryz.underlying4
 a4:=Tryz.isAgg4
 z4:=Tryz.sizeOf4
 v4:=Tryz.zeroValue4
 t23:=Tryz.underlying45
 a23:=Tryz.isAgg45
 z23:=Tryz.sizeOf45
 v23:=Tryz.zeroValue45
 t26:=Tryz.underlying9
 a26:=Tryz.isAgg9
 z26:=Tryz.sizeOf9
 v26:=Tryz.zeroValue9
 t27:=Tryz.underlying52
 a27:=Tryz.isAgg52
 z27:=Tryz.sizeOf52
 v27:=Tryz.zeroValue52
 t28:=Tryz.underlying53
 a28:=Tryz.isAgg53
 z28:=Tryz.sizeOf53
 v28:=Tryz.zeroValue53
 t33:=Tryz.underlying38
 a33:=Tryz.isAgg38
 z33:=Tryz.sizeOf38
 v33:=Tryz.zeroValue38 }
def Tryz.sortedK_ren:Go.Shelf.Ren:=⟨fun | 6=>28 | 8=>68 | 9=>69 | 11=>91 | 13=>93 | 12=>92 | 23=>121 | 24=>122 | 14=>112 | 15=>113 | 16=>114 | 17=>115 | 18=>116 | 19=>117 | 20=>118 | 21=>119 | 22=>120 | 25=>142 | 26=>143 | 27=>144 | 28=>145 | 29=>146 | 30=>147 | 31=>156 | n=>n,fun | 26=>9 | 28=>53 | 24=>30 | 0=>0 | 3=>3 | 37=>116 | 48=>155 | 50=>157 | 4=>4 | 40=>147 | 39=>146 | 45=>152 | 5=>5 | 9=>9 | 51=>168 | 55=>47 | 57=>191 | 58=>192 | 33=>38 | n=>n,fun | n=>n⟩
theorem Tryz.sortedK:Go.Proofs.SlLaysZ.n6 Tryz.prog Tryz.sortedK_ren:={
 mixed:=by kernel_rfl
 f6:=⟨Tryz.f28.name,by decide,Tryz.func28.trans (congrArg some (by kernel_rfl))⟩
 f8:=⟨Tryz.f68.name,by decide,Tryz.func68.trans (congrArg some (by kernel_rfl))⟩
 f11:=⟨Tryz.f91.name,by decide,Tryz.func91.trans (congrArg some (by kernel_rfl))⟩
 t0:=Tryz.underlying0
 a0:=Tryz.isAgg0
 z0:=Tryz.sizeOf0
 v0:=Tryz.zeroValue0
 t24:=Tryz.underlying30
 a24:=Tryz.isAgg30
 z24:=Tryz.sizeOf30
 v24:=Tryz.zeroValue30
 t26:=Tryz.underlying9
 a26:=Tryz.isAgg9
 z26:=Tryz.sizeOf9
 v26:=Tryz.zeroValue9
 t28:=Tryz.underlying53
 a28:=Tryz.isAgg53
 z28:=Tryz.sizeOf53
 v28:=Tryz.zeroValue53
 i26:=by kernel_rfl }
def Tryz.sortK_ren:Go.Shelf.Ren:=⟨fun | 6=>69 | 8=>93 | 9=>92 | 19=>121 | 20=>122 | 21=>112 | 22=>113 | 23=>114 | 24=>115 | 25=>116 | 26=>117 | 27=>118 | 28=>119 | 29=>120 | 36=>142 | 31=>143 | 32=>144 | 37=>145 | 38=>146 | 39=>147 | 41=>156 | n=>n,fun | 27=>30 | 29=>9 | 3=>3 | 32=>116 | 26=>30 | 0=>0 | 44=>155 | 46=>157 | 4=>4 | 36=>147 | 35=>146 | 41=>152 | 5=>5 | 9=>9 | 53=>168 | 57=>47 | 63=>191 | 64=>192 | n=>n,fun | n=>n⟩
theorem Tryz.sortK:Go.Proofs.SlLaysM.n6 Tryz.prog Tryz.sortK_ren:={
 mixed:=by kernel_rfl
 f6:=⟨Tryz.f69.name,by decide,Tryz.func69.trans (congrArg some (by kernel_rfl))⟩
 f8:=Tryz.func93.trans (congrArg some (by kernel_rfl))
 f9:=⟨Tryz.f92.name,by decide,Tryz.func92.trans (congrArg some (by kernel_rfl))⟩
 f19:=Tryz.func121.trans (congrArg some (by kernel_rfl))
 f20:=Tryz.func122.trans (congrArg some (by kernel_rfl))
 f21:=⟨Tryz.f112.name,by decide,Tryz.func112.trans (congrArg some (by kernel_rfl))⟩
 f22:=⟨Tryz.f113.name,by decide,Tryz.func113.trans (congrArg some (by kernel_rfl))⟩
 f23:=⟨Tryz.f114.name,by decide,Tryz.func114.trans (congrArg some (by kernel_rfl))⟩
 f24:=⟨Tryz.f115.name,by decide,Tryz.func115.trans (congrArg some (by kernel_rfl))⟩
 f25:=⟨Tryz.f116.name,by decide,Tryz.func116.trans (congrArg some (by kernel_rfl))⟩
 f26:=⟨Tryz.f117.name,by decide,Tryz.func117.trans (congrArg some (by kernel_rfl))⟩
 f27:=⟨Tryz.f118.name,by decide,Tryz.func118.trans (congrArg some (by kernel_rfl))⟩
 f28:=⟨Tryz.f119.name,by decide,Tryz.func119.trans (congrArg some (by kernel_rfl))⟩
 f29:=⟨Tryz.f120.name,by decide,Tryz.func120.trans (congrArg some (by kernel_rfl))⟩
 f31:=Tryz.func143.trans (congrArg some (by kernel_rfl))
 f32:=Tryz.func144.trans (congrArg some (by kernel_rfl))
 f36:=⟨Tryz.f142.name,by decide,Tryz.func142.trans (congrArg some (by kernel_rfl))⟩
 f37:=⟨Tryz.f145.name,by decide,Tryz.func145.trans (congrArg some (by kernel_rfl))⟩
 f38:=⟨Tryz.f146.name,by decide,Tryz.func146.trans (congrArg some (by kernel_rfl))⟩
 f39:=⟨Tryz.f147.name,by decide,Tryz.func147.trans (congrArg some (by kernel_rfl))⟩
 f41:=⟨Tryz.f156.name,by decide,Tryz.func156.trans (congrArg some (by kernel_rfl))⟩
 t0:=Tryz.underlying0
 a0:=Tryz.isAgg0
 z0:=Tryz.sizeOf0
 v0:=Tryz.zeroValue0
 t3:=Tryz.underlying3
 a3:=Tryz.isAgg3
 z3:=Tryz.sizeOf3
 v3:=Tryz.zeroValue3
 t4:=Tryz.underlying4
 a4:=Tryz.isAgg4
 z4:=Tryz.sizeOf4
 v4:=Tryz.zeroValue4
 t5:=Tryz.underlying5
 a5:=Tryz.isAgg5
 z5:=Tryz.sizeOf5
 v5:=Tryz.zeroValue5
 t9:=Tryz.underlying9
 a9:=Tryz.isAgg9
 z9:=Tryz.sizeOf9
 v9:=Tryz.zeroValue9
 t26:=Tryz.underlying30
 a26:=Tryz.isAgg30
 z26:=Tryz.sizeOf30
 v26:=Tryz.zeroValue30
 t27:=Tryz.underlying30
 a27:=Tryz.isAgg30
 z27:=Tryz.sizeOf30
 v27:=Tryz.zeroValue30
 t29:=Tryz.underlying9
 a29:=Tryz.isAgg9
 z29:=Tryz.sizeOf9
 v29:=Tryz.zeroValue9
 t32:=Tryz.underlying116
 a32:=Tryz.isAgg116
 z32:=Tryz.sizeOf116
 v32:=Tryz.zeroValue116
 t35:=Tryz.underlying146
 a35:=Tryz.isAgg146
 z35:=Tryz.sizeOf146
 v35:=Tryz.zeroValue146
 t36:=Tryz.underlying147
 a36:=Tryz.isAgg147
 z36:=Tryz.sizeOf147
 v36:=Tryz.zeroValue147
 t41:=Tryz.underlying152
 a41:=Tryz.isAgg152
 z41:=Tryz.sizeOf152
 v41:=Tryz.zeroValue152
 t44:=Tryz.underlying155
 a44:=Tryz.isAgg155
 z44:=Tryz.sizeOf155
 v44:=Tryz.zeroValue155
 t46:=Tryz.underlying157
 a46:=Tryz.isAgg157
 z46:=Tryz.sizeOf157
 v46:=Tryz.zeroValue157
 t53:=Tryz.underlying168
 a53:=Tryz.isAgg168
 z53:=Tryz.sizeOf168
 v53:=Tryz.zeroValue168
 t57:=Tryz.underlying47
 a57:=Tryz.isAgg47
 z57:=Tryz.sizeOf47
 v57:=Tryz.zeroValue47
 t63:=Tryz.underlying191
 a63:=Tryz.isAgg191
 z63:=Tryz.sizeOf191
 v63:=Tryz.zeroValue191
 t64:=Tryz.underlying192
 a64:=Tryz.isAgg192
 z64:=Tryz.sizeOf192
 v64:=Tryz.zeroValue192 }
end Go.Proofs
namespace Go.Proofs.YtkheldgmpgefiaaGreatDoor
open Go.RowKit Go.Maps Go.Sort Go.Shelf
set_option linter.unusedVariables false
theorem k_sorts (m:Nat):AnyZ.SortsIn Tryz.prog Tryz.sortedK_ren Fence.wide m :=
 ⟨fun blk off cap ss W hH hblk hsz=>callsIn_wide.2 (AnyM.slices_Sort_string Tryz.sortK blk off cap ss W hH hblk hsz),
  fun p cap W=>callsIn_wide.2 (AnyM.slices_Sort_string_none Tryz.sortK p cap W)⟩
theorem k_keys (mb:Option Nat) (W:World):Calls Tryz.prog 29 #[.map mb] W fun e w'=>e=.returned (.func (.func 70) #[] #[.pointer (some ⟨W.heap.size,0,none⟩)])∧w'=W.alloc (.cells #[.map mb] 45) :=
 callsIn_wide.1 (AnyZ.keys_in Tryz.keysK Fence.wide 5 trivial rfl mb W)
theorem k_sorted {H:Type} (b nn:Nat) (D0:DataW H) (R:Value→Option (DataW H × List MemPlace)) (w:World) (hown:w.ownsMap Tryz.prog 9 R b nn D0) (hmax:Maps.size D0≤maxLen) (hbytes:Maps.size D0*16≤140737488355328) :
 Calls Tryz.prog 28 #[.func (.func 70) #[] #[.pointer (some ⟨w.heap.size,0,none⟩)]] (w.alloc (.cells #[.map (some b)] 45)) fun e w'=>∃ (v:Value) (ss:List (List UInt8)),e=.returned v∧ss.Perm (strKeys D0) ∧
  w'.ownsRow (w.alloc (.cells #[.map (some b)] 45)).heap.size 9 1 v ss.length ((ss.mergeSort (fun x y=>decide (x≤y))).map encStr)∧(v=.slice none 0 0↔ss=[])∧Below (w.alloc (.cells #[.map (some b)] 45)).heap.size (w.alloc (.cells #[.map (some b)] 45)) w':=by
 have hbl:=hown.lt
 have hseq:SeqGives Fence.wide 2 Tryz.prog 70 #[.pointer (some ⟨w.heap.size,0,none⟩)] encStr (fun ss=>ss.Perm (strKeys D0)) (Maps.size D0) (w.alloc (.cells #[.map (some b)] 45)) :=
  AnyZ.keys_gives (ρ:=Tryz.keysK_ren) { Tryz.keysK with } Fence.wide _ trivial rfl (by omega) w.heap.size b nn D0 _ (by simp) (by simp) (by
   obtain ⟨es,clock,hb,Ft,hs,hD⟩:=hown
   exact ⟨es,clock,(Below.heap_alloc _ _ b hbl).trans hb,Ft,hs,hD⟩)
 exact callsIn_wide.1 (AnyZ.sorted_in Tryz.sortedK Fence.wide 5 trivial trivial trivial trivial rfl (by omega) (k_sorts _) (enters_of Tryz.func69 (by kernel_rfl) rfl) 70 #[.pointer (some ⟨w.heap.size,0,none⟩)] trivial (enters_of Tryz.func70 (by kernel_rfl) rfl) _ _ hmax hbytes _ hseq)
theorem keys_of {D:DataW Unit} {R:Value→Option (DataW Unit × List MemPlace)} {w:World} {b n:Nat} (hown:w.ownsMap Tryz.prog 9 R b n D):(strKeys D).Nodup∧∀ x,x∈strKeys D↔has D (.string x)=true:=by
 obtain ⟨es,hD,hpw,_⟩:=hown.entries (string_keyed Tryz.underlying9)
 obtain ⟨es',hD',hko⟩:=hown.keysOf
 obtain rfl:es=es':=by rw [hD] at hD';simpa using hD'
 subst hD
 have hk:∀ p∈es,∃ x,p.1=Lit.string x:=fun p hp=>by
  obtain ⟨v,hv⟩:=hko p hp
  obtain ⟨x,_,hx,_⟩:=Maps.keyOf_str Tryz.underlying9 hv
  exact ⟨x,hx⟩
 refine ⟨?_,fun x=>?_⟩
 · show (es.map fun p => strOf p.1).Nodup
   refine List.pairwise_map.2 (hpw.imp_of_mem fun {p q} hp' hq' hne e=>hne ?_)
   obtain ⟨a,ha⟩:=hk p hp'
   obtain ⟨b,hb⟩:=hk q hq'
   rw [ha,hb] at e ⊢
   exact congrArg _ e
 · rw [has_eq, List.any_eq_true]
   show x∈es.map (fun p=>strOf p.1)↔_
   rw [List.mem_map]
   constructor
   · rintro ⟨p, hp', rfl⟩
     obtain ⟨a,ha⟩:=hk p hp'
     exact ⟨p,hp',by rw [ha];simp [Lit.sameKey,strOf]⟩
   · rintro ⟨p, hp', hs⟩
     obtain ⟨a,ha⟩:=hk p hp'
     rw [ha] at hs
     exact ⟨p,hp',by rw [ha];simpa [Lit.sameKey,strOf] using hs⟩
theorem sorted_rise {l:List (List UInt8)} (h:l.Nodup):(l.mergeSort leB).Pairwise (· < ·):=by
 have tr:∀ a b c:List UInt8,leB a b=true→leB b c=true→leB a c=true:=fun a b c h1 h2=>by simp only [leB,decide_eq_true_eq] at *;exact List.le_trans h1 h2
 have tl:∀ a b:List UInt8,(leB a b || leB b a)=true:=fun a b=>by simp only [leB,Bool.or_eq_true,decide_eq_true_eq];exact List.le_total a b
 have h1:=List.pairwise_mergeSort tr tl l
 have h2:(l.mergeSort leB).Nodup:=(List.mergeSort_perm l leB).nodup_iff.2 h
 refine (h1.and h2).imp fun {a b} hab=>?_
 obtain ⟨h3,h4⟩:=hab
 simp only [leB,decide_eq_true_eq] at h3
 by_cases e:a<b
 · exact e
 · exact absurd (List.le_antisymm h3 (by simpa using e)) h4
theorem size_le {D:DataW Unit} {R:Value→Option (DataW Unit × List MemPlace)} {w:World} {k:TypeId} {b n:Nat} (h:w.ownsMap Tryz.prog k R b n D):Maps.size D≤n:=by
 obtain ⟨es,c,hb,F,hs,rfl⟩:=h
 show ((es.toList.map _).foldr DataW.insert []).length≤n
 rw [length_sorted];simpa using hs
open Go.RowKit Go.Maps
set_option linter.unusedVariables false
def strsAt (base:Nat) (W:World) (l:List (List UInt8)) (a:Option Addr):Prop:=∀ i s,l[i]? = some s→∃ g,a=some ⟨g,0,none⟩∧base≤g∧W.cell? ⟨g,i,none⟩=some (.string ⟨s.toArray⟩)∧W.frozen? ⟨g,i,none⟩=false
theorem strsAt_below {base:Nat} {W W':World} {l:List (List UInt8)} {a:Option Addr} (h:strsAt base W l a) (hb:Below W.heap.size W W'):strsAt base W' l a:=fun i s hs=>by
 obtain ⟨g,e,h1,h2,h3⟩:=h i s hs
 have hl:g<W.heap.size:=cell_lt h2
 exact ⟨g,e,h1,by rw [hb.cell (p:=⟨g,i,none⟩) hl];exact h2,by rw [hb.frozen (p:=⟨g,i,none⟩) hl];exact h3⟩
theorem strsAt_same {base:Nat} {W:World} {l:List (List UInt8)} {a:Option Addr} (h:strsAt base W l a) {i:Nat} {s:List UInt8} (hi:l[i]? = some s) {g:Nat} (hg:a=some ⟨g,0,none⟩):strsAt base (W.setCell ⟨g,i,none⟩ (.string ⟨s.toArray⟩)) l a:=fun j u hu=>by
 obtain ⟨g2,e2,h1,h2,h3⟩:=h j u hu
 obtain ⟨g3,e3,k1,k2,k3⟩:=h i s hi
 refine ⟨g2,e2,h1,?_,by rw [World.frozen?_setCell];exact h3⟩
 by_cases e:(⟨g,i,none⟩:Addr)=⟨g2,j,none⟩
 · have e4 := hg.symm.trans e3
   have e5:g=g3:=by injection e4 with e4;injection e4
   rw [← e] at h2 ⊢
   rw [e5,k2] at h2
   rw [World.cell?_setCell_same _ _ _ (by rw [e5];exact k2)]
   exact h2
 · rw [World.cell?_setCell_other _ _ _ _ e];exact h2
theorem strsAt_row {base:Nat} {W:World} {v:Value} {l:List (List UInt8)} (h:W.ownsRow base 9 1 v l.length (l.map encStr)):∃ a c,v=.slice a l.length c∧strsAt base W l a:=by
 have h9:=h
 obtain ⟨hx,h | ⟨g,cap,cur,rfl,hb,hh,h1,h2,h3,h4⟩⟩:=h
 · obtain ⟨rfl, h⟩ := h
   obtain rfl:l=[]:=List.eq_nil_of_length_eq_zero h
   exact ⟨none,0,rfl,fun i s hs=>by simp at hs⟩
 · refine ⟨some ⟨g, 0, none⟩, cap, rfl, fun i s hs => ⟨g, rfl, hb, ?_, h9.frozenAt i⟩⟩
   have hi:i<l.length:=(List.getElem?_eq_some_iff.1 hs).1
   have h5:=h9.cellAt i (by omega)
   rw [h5,List.getElem?_map,hs];rfl
def NmsP (x:Pg) (w:World) (e:Ending) (w':World):Prop:=∃ a l c,e=.returned (.slice a l.length c)∧NL (nmP x) l∧l.length≤2097152∧(∀ s∈l,s.length≤140737488355328)∧strsAt w.heap.size w' l a∧Below w.heap.size w w'
structure B3 (w:World) (r:Array Value) (W:World):Prop where
 own0:Own W w.heap.size 25 r
 own1:W.heap[w.heap.size+1]? = some (.map #[] 0)
 own2:Own W (w.heap.size+2) 45 #[.map (some (w.heap.size+1))]
 bel:Below w.heap.size w W
theorem b3_new (w:World) (r:Array Value):B3 w r (((w.alloc (.cells r 25)).alloc (.map #[] 0)).alloc (.cells #[.map (some (w.heap.size+1))] 45)):=by
 have h0:=Own.new w 25 r
 have h1:((w.alloc (.cells r 25)).alloc (.map #[] 0)).heap[w.heap.size+1]? = some (.map #[] 0):=by
  have:=World.alloc_heap_new (w.alloc (.cells r 25)) (.map #[] 0)
  rw [World.size_alloc] at this;exact this
 have h2:=Own.new ((w.alloc (.cells r 25)).alloc (.map #[] 0)) 45 #[.map (some (w.heap.size+1))]
 simp only [World.size_alloc] at h2
 refine ⟨(h0.alloc _).alloc _,?_,h2,((((Below.refl _ w).alloc (Nat.le_refl _) _).alloc (by simp only [World.size_alloc];omega) _).alloc (by simp only [World.size_alloc];omega) _)⟩
 exact (((Below.refl _ ((w.alloc (.cells r 25)).alloc (.map #[] 0))).alloc (Nat.le_refl _) (.cells #[.map (some (w.heap.size+1))] 45)).block _ (by simp only [World.size_alloc];omega)).trans h1
theorem vp_nk {R:Nat→Prop} {fb m:Nat} {w0:World} : VpN (.pointer (some ⟨fb,0,none⟩)) R w0 (GdN w0) (Nk fb m w0) :=
 ⟨fun h hb=>nk_keep h hb,fun h=>nk_sk h,fun h=>gdN_pre h,fun h hv hn hg=>nk_step h hv hn hg⟩
theorem p_Names (x:Pg) (hf:fitP x) (hok:okP x) (hb:ctP x≤1048576) {v:Value} {w:World} (hv:pA w x v):Calls Tryz.prog 9 #[v] w (NmsP x w):=by
 have HCL:Hid (∀ (u:ByteArray) X,u.size≤140737488355328→Calls Tryz.prog 30 #[.string u] X fun e w'=>e=.returned (.string u)∧Below X.heap.size X w'):=fun u X hu=>p_clone u hu X
 have HEP:Hid (∀ (W:World) a1 c1 a2 c2 a3 c3,v=.agg #[.slice a1 x.shared.length c1,.slice a2 x.locks.length c2,.slice a3 x.threads.length c3]→dcsAt (fun _=>True) w x.shared a1→dcsAt (fun _=>True) w x.locks a2→thsAt (fun _=>True) w x.threads a3→B3 w #[.slice a1 x.shared.length c1,.slice a2 x.locks.length c2,.slice a3 x.threads.length c3] W →
  Calls Tryz.prog 26 #[v,.func (.func 27) #[] #[.pointer (some ⟨w.heap.size+2,0,none⟩)]] W fun e w'=>e=.returned (.tuple #[])∧w'.cell? ⟨w.heap.size+2,0,none⟩=some (.map (some (w.heap.size+1)))∧Below w.heap.size w w'∧∃ (n:Nat) (D:DataW Unit),n≤2097152∧MO w' (w.heap.size+1) n D∧∀ s,has D (.string s)=true↔s≠[]∧(⟨s.toArray⟩:ByteArray)∈nmP x):=fun W a1 c1 a2 c2 a3 c3 e h1 h2 h3 hB=>by
  subst e
  have k1:dcsAt (fun _=>True) W x.shared a1:=dcsAt_below h1 hB.bel
  have k2:dcsAt (fun _=>True) W x.locks a2:=dcsAt_below h2 hB.bel
  have k3:thsAt (fun _=>True) W x.threads a3:=thsAt_below h3 hB.bel
  have c0:W.cell? ⟨w.heap.size+2,0,none⟩=some (.map (some (w.heap.size+1))):=by rw [cell_of_row _ _ 0 _ _ _ hB.own2];rfl
  have mo:MO W (w.heap.size+1) 0 (.map []):=⟨#[],0,hB.own1,⟨by simp,Go.MapKept.stamped_empty 0,by simp⟩,Nat.le_refl _,rfl⟩
  refine (p_eachPartN vp_nk hok k1 k2 k3 (nk_nil ⟨_,_,hB.own1⟩ c0 mo) (gdN_P hb hf k1 k2 k3)).mono fun e w' h=>⟨h.1,nk_cell h.2 c0,?_,?_⟩
  · exact hB.bel.grown h.2.grown hB.bel.size (fun j hj=>by have:=Option.some.inj hj;omega)
  · obtain ⟨n, D, hn, hD, hk⟩ := h.2.map
    refine ⟨n,D,?_,hD,fun s=>(hk s).trans (and_congr Iff.rfl (nmC_P k1 k2 k3 _))⟩
    have:=vP_ct W hb a1 a2 a3
    omega
 have HNM:Hid (∀ s∈nmP x,nmOk s):=fitP_nm hf
 obtain ⟨a1,c1,a2,c2,a3,c3,rfl,h1,h2,h3⟩:=hv
 show Calls _ _ _ _ (NmsP x w)
 have HEQ:Hid (∀ (W:World),B3 w #[.slice a1 x.shared.length c1,.slice a2 x.locks.length c2,.slice a3 x.threads.length c3] W→Calls Tryz.prog 26 #[.agg #[.slice a1 x.shared.length c1,.slice a2 x.locks.length c2,.slice a3 x.threads.length c3],.func (.func 27) #[] #[.pointer (some ⟨w.heap.size+2,0,none⟩)]] W fun e w'=>e=.returned (.tuple #[])∧w'.cell? ⟨w.heap.size+2,0,none⟩=some (.map (some (w.heap.size+1)))∧Below w.heap.size w w'∧∃ (n:Nat) (D:DataW Unit),n≤2097152∧MO w' (w.heap.size+1) n D∧∀ s,has D (.string s)=true↔s≠[]∧(⟨s.toArray⟩:ByteArray)∈nmP x):=fun W hB=>HEP.out W a1 c1 a2 c2 a3 c3 rfl h1 h2 h3 hB
 clear HEP
 generalize x.shared.length=n1 at *
 generalize x.locks.length=n2 at *
 generalize x.threads.length=n3 at *
 have HX:=Lib.hid (b3_new w #[.slice a1 n1 c1,.slice a2 n2 c2,.slice a3 n3 c3])
 obtain ⟨W0,hW0⟩:∃ W,W=((w.alloc (.cells #[.slice a1 n1 c1,.slice a2 n2 c2,.slice a3 n3 c3] 25)).alloc (.map #[] 0)).alloc (.cells #[.map (some (w.heap.size+1))] 45):=⟨_,rfl⟩
 rw [← hW0] at HX
 have HW0:=Lib.hid hW0
 clear hW0 hf hok hb h1 h2 h3
 have hmm:=@run_makeMap Tryz.prog
 go_enter Tryz.func9,Tryz.ntmps9
 go_upto_region 2 with (fail)
 rw [show w.heap.size+1+1=w.heap.size+2 from rfl,← HW0.out]
 have O1:=HX.out.own0
 clear HW0 hmm
 have hmf:∀ (fn:Fn) (first cap:Array Value) (w:World),(Instr.makeFunc fn first cap).run Tryz.prog w=.ok (.func fn first cap) w:=fun _ _ _ _=>rfl
 go_wp2_with (refine ld rowPg rfl rfl rfl O1 rfl ?_)
 go_at_call 26
 refine (HEQ.out _ HX.out).mono ?_
 rintro e w4 ⟨rfl,cM,hb4,n,D,hn,hD,hk⟩
 have HS:=Lib.hid (k_sorted (w.heap.size+1) n D _ w4 hD (Nat.le_trans (size_le hD) (by unfold maxLen;omega)) (by have:=size_le hD;omega))
 have HKO:=Lib.hid (keys_of hD)
 have HSZ:=Lib.hid (size_le hD)
 have HK:=Lib.hid hk
 have HNN:=Lib.hid hn
 have HB4:=Lib.hid hb4
 clear hk hD hn hb4 O1 HX HEQ
 go_wp2_with fail
 go_at_call 29
 refine (k_keys _ _).mono ?_
 rintro e w5 ⟨rfl,rfl⟩
 go_wp2_with fail
 go_at_call 28
 refine HS.out.mono ?_
 rintro e w6 ⟨v,ss,rfl,hperm,hrow,_,hb6⟩
 obtain ⟨l,hl⟩:∃ l,l=ss.mergeSort (fun x y=>decide (x≤y)):=⟨_,rfl⟩
 have hlen:ss.length=l.length:=by rw [hl,List.length_mergeSort]
 rw [← hl,hlen] at hrow
 obtain ⟨sa,sc,rfl,hst⟩:=strsAt_row hrow
 have hpl:l.Perm (strKeys D):=by rw [hl];exact (List.mergeSort_perm _ _).trans hperm
 have hNL:NL (nmP x) l:=by
  refine ⟨?_,fun s=>?_⟩
  · rw [hl];exact sorted_rise (hperm.nodup_iff.2 HKO.out.1)
  · rw [hpl.mem_iff,HKO.out.2,HK.out]
 have hl2:l.length≤2097152:=by
  have h1:l.length=Maps.size D:=by
   rw [hpl.length_eq]
   have:∀ D:DataW Unit,(strKeys D).length=Maps.size D:=fun D=>by cases D <;> simp [strKeys,Maps.size]
   exact this D
  have:=HSZ.out;have:=HNN.out;omega
 have hshort:∀ s∈l,s.length≤140737488355328:=fun s hs=>by
  have:=HNM.out _ ((hNL.2 s).1 hs).2
  unfold nmOk at this
  simpa [ByteArray.size] using this
 have hb7:Below w.heap.size w w6:=HB4.out.trans (((Below.refl w.heap.size w4).alloc HB4.out.size (.cells #[.map (some (w.heap.size+1))] 45)).trans (hb6.mono (by have:=HB4.out.size;simp only [World.size_alloc];omega)))
 have hst7:strsAt w.heap.size w6 l sa:=fun i s hs=>by
  obtain ⟨g,e,h1,h2⟩:=hst i s hs
  exact ⟨g,e,by have:=HB4.out.size;simp only [World.size_alloc] at h1;omega,h2⟩
 have HST:=Lib.hid hst7
 have HB7:=Lib.hid hb7
 have HNL:=Lib.hid hNL
 have HL2:=Lib.hid hl2
 have HSH:=Lib.hid hshort
 obtain ⟨n,hn⟩:∃ n,n=l.length:=⟨_,rfl⟩
 have HN:=Lib.hid hn
 clear hperm hrow hb6 hl hlen hst hpl hNL hl2 hshort hb7 hst7 cM HKO HSZ HNN HK HB4 HS
 rw [← hn]
 clear hn
 have hn63:n≤2097152:=by rw [HN.out];exact HL2.out
 go_wp2_with fail
 go_loopg [15] (n+1) (fun m' u X=>∃ i:Nat,u=.int .i64 (i:Int)∧i≤n∧m'=n-i+1∧strsAt w.heap.size X l sa∧Below w.heap.size w X)
 case atStart=>exact ⟨0,rfl,Nat.zero_le _,by omega,HST.out,HB7.out⟩
 case round =>
  obtain ⟨i,rfl,hi,hm,hZ,hbz⟩:=hrel
  have HM:=Lib.hid hm
  have HZ:=Lib.hid hZ
  have HBZ:=Lib.hid hbz
  clear hm
  by_cases hin:i<n
  · have il : i < l.length := by have := HN.out; omega
    have g1:l[i]? = some l[i]:=List.getElem?_eq_getElem il
    obtain ⟨g,rfl,k1,k2,k3⟩:=hZ i _ g1
    have hsh:=HSH.out _ (List.getElem_mem il)
    generalize l[i]=s at k2 g1 hsh
    have HCS:Hid (∀ X,Calls Tryz.prog 30 #[.string ⟨s.toArray⟩] X fun e w'=>e=.returned (.string ⟨s.toArray⟩)∧Below X.heap.size X w'):=fun X=>HCL.out ⟨s.toArray⟩ X (by simpa [ByteArray.size] using hsh)
    have hin':(i:Int)<(n:Int):=by omega
    have HG1:=Lib.hid g1
    obtain ⟨u,hu⟩:∃ u,u=(⟨s.toArray⟩:ByteArray):=⟨_,rfl⟩
    rw [← hu] at k2 HCS
    have HU:=Lib.hid hu
    clear hu g1 hsh il hZ hbz
    go_wp2_with fail
    go_at_call 30
    refine (HCS.out _).mono ?_
    rintro e w8 ⟨rfl,hb⟩
    have hlt:g<wr.heap.size:=cell_lt k2
    have c8:w8.cell? ⟨g,i,none⟩=some (.string u):=by rw [hb.cell (p:=⟨g,i,none⟩) hlt];exact k2
    have f8:w8.frozen? ⟨g,i,none⟩=false:=by rw [hb.frozen (p:=⟨g,i,none⟩) hlt];exact k3
    have HQ:Hid (strsAt w.heap.size (w8.setCell ⟨g,i,none⟩ (.string u)) l (some ⟨g,0,none⟩)∧Below w.heap.size w (w8.setCell ⟨g,i,none⟩ (.string u))):=by
     refine ⟨?_,(HBZ.out.trans (hb.mono HBZ.out.size)).setCell k1 _⟩
     rw [HU.out]
     exact strsAt_same (strsAt_below HZ.out hb) HG1.out rfl
    clear hb k2 k3 hlt
    go_wp2_with fail
    go_roundg (n-(i+1)+1)
    case measure=>have:=HM.out;omega
    case rel=>exact ⟨i+1,rfl,by omega,by omega,HQ.out.1,HQ.out.2⟩
  · have : i = n := by omega
    subst this
    clear hZ hbz
    go_wp2_with fail
    go_ret
    exact ⟨sa,l,sc,by rw [← HN.out];rfl,HNL.out,HL2.out,HSH.out,HZ.out,HBZ.out⟩
open Go.RowKit
set_option linter.unusedVariables false
theorem bytes_mk (s:ByteArray) (l:List UInt8):s=⟨l.toArray⟩↔s.data.toList=l:=⟨fun e=>by rw [e],fun e=>by rw [← e,bytes_back]⟩
theorem p_Index {base:Nat} {w:World} {l:List (List UInt8)} {a:Option Addr} {c:Nat} (h:strsAt base w l a) (hl:l.length≤2097152) (t:ByteArray):Calls Tryz.prog 55 #[.slice a l.length c,.string t] w fun e w'=>∃ j:Int,e=.returned (.int .i64 j)∧(0≤j↔t.data.toList∈l) ∧ -1≤j∧w'=w:=by
 obtain ⟨n,hn⟩:∃ n,n=l.length:=⟨_,rfl⟩
 rw [← hn] at hl ⊢
 have HN:=Lib.hid hn
 have H:=Lib.hid h
 clear h hn
 go_enter Tryz.func55,Tryz.ntmps55
 go_wp2_with fail
 go_loopg [8] (n+1) (fun m' u X=>∃ i:Nat,u=.int .i64 (i:Int)∧i≤n∧m'=n-i+1∧X=w∧∀ k,k<i→l[k]? ≠ some t.data.toList)
 case atStart=>exact ⟨0,rfl,Nat.zero_le _,by omega,rfl,fun k hk=>by omega⟩
 case round =>
  obtain ⟨i,rfl,hi,hm,hX,hno⟩:=hrel
  subst hX
  have HM:=Lib.hid hm
  have HNO:=Lib.hid hno
  clear hm hno
  by_cases hin:i<n
  · have il : i < l.length := by have := HN.out; omega
    have g1:l[i]? = some l[i]:=List.getElem?_eq_getElem il
    obtain ⟨g,rfl,k1,k2,k3⟩:=H.out i _ g1
    generalize l[i]=s at k2 g1
    have hin':(i:Int)<(n:Int):=by omega
    have HG1:=Lib.hid g1
    obtain ⟨u,hu⟩:∃ u,u=(⟨s.toArray⟩:ByteArray):=⟨_,rfl⟩
    rw [← hu] at k2
    have HU:=Lib.hid hu
    clear hu g1 il k1 k3
    by_cases q:t=u
    · have q1 := bytes_eqT q
      have HMM:Hid (t.data.toList∈l):=by
       have h9:=HU.out
       rw [← q] at h9
       rw [(bytes_mk _ _).1 h9];exact List.mem_of_getElem? HG1.out
      clear q HU
      go_wp2_with fail
      go_ret
      exact ⟨_,rfl,⟨fun _=>HMM.out,fun _=>by omega⟩,by omega,rfl⟩
    · have q1 := bytes_eqF q
      have HQ:Hid (∀ k,k<i+1→l[k]? ≠ some t.data.toList):=fun k hk e=>by
       by_cases hki:k<i
       · exact HNO.out k hki e
       · obtain rfl : k = i := by omega
         rw [HG1.out] at e
         exact q (by rw [HU.out];exact (bytes_mk _ _).2 (Option.some.inj e).symm)
      clear q
      go_wp2_with fail
      go_roundg (n-(i+1)+1)
      case measure=>have:=HM.out;omega
      case rel=>exact ⟨i+1,rfl,by omega,by omega,rfl,HQ.out⟩
  · have : i = n := by omega
    subst this
    have HNM:Hid (t.data.toList ∉ l):=fun hm=>by
     obtain ⟨k,hk⟩:=List.getElem?_of_mem hm
     exact HNO.out k (by have:=(List.getElem?_eq_some_iff.1 hk).1;have:=HN.out;omega) hk
    go_wp2_with fail
    go_ret
    exact ⟨_,rfl,⟨fun h=>absurd h (by omega),fun h=>absurd h HNM.out⟩,by omega,rfl⟩
theorem p_Contains {base:Nat} {w:World} {l:List (List UInt8)} {a:Option Addr} {c:Nat} (h:strsAt base w l a) (hl:l.length≤2097152) (t:ByteArray):Calls Tryz.prog 21 #[.slice a l.length c,.string t] w fun e w'=>e=.returned (.bool (decide (t.data.toList∈l)))∧w'=w:=by
 have HI:=Lib.hid (p_Index (c:=c) h hl t)
 clear h hl
 generalize l.length=n at HI
 by_cases hm:t.data.toList∈l
 · have HD : Hid (decide (t.data.toList ∈ l) = true) := decide_eq_true hm
   rw [HD.out]
   go_enter Tryz.func21,Tryz.ntmps21
   go_wp2_with fail
   go_at_call 55
   refine HI.out.mono ?_
   rintro e w2 ⟨j,rfl,hj,hj1,rfl⟩
   have hj0:0≤j:=hj.2 hm
   clear hj HD hm HI
   go_wp2_with fail
   go_ret
   exact ⟨rfl,rfl⟩
 · have HD : Hid (decide (t.data.toList ∈ l) = false) := decide_eq_false hm
   rw [HD.out]
   go_enter Tryz.func21,Tryz.ntmps21
   go_wp2_with fail
   go_at_call 55
   refine HI.out.mono ?_
   rintro e w2 ⟨j,rfl,hj,hj1,rfl⟩
   have hj0:j<0:=by
    by_cases h:0≤j
    · exact absurd (hj.1 h) hm
    · omega
   have hd0:decide (0≤j)=false:=by simpa using hj0
   clear hj HD hm HI
   go_wp2_with fail
   go_ret
   exact ⟨by simp,rfl⟩
end Go.Proofs.YtkheldgmpgefiaaGreatDoor

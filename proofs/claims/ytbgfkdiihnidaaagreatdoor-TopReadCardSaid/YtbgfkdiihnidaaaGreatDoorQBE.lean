import Derived.Shelf.SlIter.Nil
import Derived.Shelf.SortM.Plain
import Derived.Shelf.SortM.SortNone
import Derived.Ground.GgzProg
import Derived.Ground.SlgmProg
import Derived.Test.YtbgfkdiihnidaaaGreatDoorProg
import Derived.Test.YtbgfkdiihnidaaaGreatDoorQBC
import Derived.Maps.Range
import Derived.Sort.KeysCollected
import Derived.Test.YtbgfkdiihnidaaaGreatDoorQBD
import Derived.Test.YtbgfkdiihnidaaaGreatDoorQAY
import Derived.Test.YtbgfkdiihnidaaaGreatDoorQAV
set_option maxRecDepth 100000
set_option maxHeartbeats 20000000
namespace Go.Proofs
open Go.Shelf
def Tryz.keysK_ren:Go.Shelf.Ren:=⟨fun | 7=>62 | 10=>123 | n=>n,fun | 23=>125 | 26=>9 | 3=>3 | 28=>133 | 0=>0 | 27=>132 | 33=>69 | 4=>4 | n=>n,fun | n=>n⟩
theorem Tryz.keysK:Go.Proofs.SlLaysZ.n7 Tryz.prog Tryz.keysK_ren:={
 mixed:=by kernel_rfl
 f7:=⟨Tryz.f62.name,by decide,Tryz.func62.trans (congrArg some (by kernel_rfl))⟩
 f10:=⟨Tryz.f123.name,by decide,Tryz.func123.trans (congrArg some (by kernel_rfl))⟩
 t0:=Tryz.underlying0
 a0:=Tryz.isAgg0
 z0:=Tryz.sizeOf0
 v0:=Tryz.zeroValue0
 t4:=Tryz.underlying4
 a4:=Tryz.isAgg4
 z4:=Tryz.sizeOf4
 v4:=Tryz.zeroValue4
 t23:=Tryz.underlying125
 a23:=Tryz.isAgg125
 z23:=Tryz.sizeOf125
 v23:=Tryz.zeroValue125
 t26:=Tryz.underlying9
 a26:=Tryz.isAgg9
 z26:=Tryz.sizeOf9
 v26:=Tryz.zeroValue9
 t27:=Tryz.underlying132
 a27:=Tryz.isAgg132
 z27:=Tryz.sizeOf132
 v27:=Tryz.zeroValue132
 t28:=Tryz.underlying133
 a28:=Tryz.isAgg133
 z28:=Tryz.sizeOf133
 v28:=Tryz.zeroValue133
 t33:=Tryz.underlying69
 a33:=Tryz.isAgg69
 z33:=Tryz.sizeOf69
 v33:=Tryz.zeroValue69 }
def Tryz.sortedK_ren:Go.Shelf.Ren:=⟨fun | 6=>61 | 8=>121 | 9=>122 | 11=>160 | 13=>162 | 12=>161 | 23=>199 | 24=>171 | 14=>190 | 15=>191 | 16=>192 | 17=>193 | 18=>194 | 19=>195 | 20=>196 | 21=>197 | 22=>198 | 25=>211 | 26=>212 | 27=>213 | 28=>214 | 29=>215 | 30=>216 | 31=>218 | n=>n,fun | 26=>9 | 28=>133 | 24=>71 | 0=>0 | 3=>3 | 37=>179 | 48=>224 | 50=>184 | 4=>4 | 40=>240 | 39=>239 | 45=>244 | 5=>5 | 9=>9 | 51=>257 | 55=>127 | 57=>264 | 58=>37 | 33=>69 | n=>n,fun | n=>n⟩
theorem Tryz.sortedK:Go.Proofs.SlLaysZ.n6 Tryz.prog Tryz.sortedK_ren:={
 mixed:=by kernel_rfl
 f6:=⟨Tryz.f61.name,by decide,Tryz.func61.trans (congrArg some (by kernel_rfl))⟩
 f8:=⟨Tryz.f121.name,by decide,Tryz.func121.trans (congrArg some (by kernel_rfl))⟩
 f11:=⟨Tryz.f160.name,by decide,Tryz.func160.trans (congrArg some (by kernel_rfl))⟩
 t0:=Tryz.underlying0
 a0:=Tryz.isAgg0
 z0:=Tryz.sizeOf0
 v0:=Tryz.zeroValue0
 t24:=Tryz.underlying71
 a24:=Tryz.isAgg71
 z24:=Tryz.sizeOf71
 v24:=Tryz.zeroValue71
 t26:=Tryz.underlying9
 a26:=Tryz.isAgg9
 z26:=Tryz.sizeOf9
 v26:=Tryz.zeroValue9
 t28:=Tryz.underlying133
 a28:=Tryz.isAgg133
 z28:=Tryz.sizeOf133
 v28:=Tryz.zeroValue133
 i26:=by kernel_rfl }
def Tryz.sortK_ren:Go.Shelf.Ren:=⟨fun | 6=>122 | 8=>162 | 9=>161 | 19=>199 | 20=>171 | 21=>190 | 22=>191 | 23=>192 | 24=>193 | 25=>194 | 26=>195 | 27=>196 | 28=>197 | 29=>198 | 36=>211 | 31=>212 | 32=>213 | 37=>214 | 38=>215 | 39=>216 | 41=>218 | n=>n,fun | 27=>71 | 29=>9 | 3=>3 | 32=>179 | 26=>71 | 0=>0 | 44=>224 | 46=>184 | 4=>4 | 36=>240 | 35=>239 | 41=>244 | 5=>5 | 9=>9 | 53=>257 | 57=>127 | 63=>264 | 64=>37 | n=>n,fun | n=>n⟩
theorem Tryz.sortK:Go.Proofs.SlLaysM.n6 Tryz.prog Tryz.sortK_ren:={
 mixed:=by kernel_rfl
 f6:=⟨Tryz.f122.name,by decide,Tryz.func122.trans (congrArg some (by kernel_rfl))⟩
 f8:=Tryz.func162.trans (congrArg some (by kernel_rfl))
 f9:=⟨Tryz.f161.name,by decide,Tryz.func161.trans (congrArg some (by kernel_rfl))⟩
 f19:=Tryz.func199.trans (congrArg some (by kernel_rfl))
 f20:=Tryz.func171.trans (congrArg some (by kernel_rfl))
 f21:=⟨Tryz.f190.name,by decide,Tryz.func190.trans (congrArg some (by kernel_rfl))⟩
 f22:=⟨Tryz.f191.name,by decide,Tryz.func191.trans (congrArg some (by kernel_rfl))⟩
 f23:=⟨Tryz.f192.name,by decide,Tryz.func192.trans (congrArg some (by kernel_rfl))⟩
 f24:=⟨Tryz.f193.name,by decide,Tryz.func193.trans (congrArg some (by kernel_rfl))⟩
 f25:=⟨Tryz.f194.name,by decide,Tryz.func194.trans (congrArg some (by kernel_rfl))⟩
 f26:=⟨Tryz.f195.name,by decide,Tryz.func195.trans (congrArg some (by kernel_rfl))⟩
 f27:=⟨Tryz.f196.name,by decide,Tryz.func196.trans (congrArg some (by kernel_rfl))⟩
 f28:=⟨Tryz.f197.name,by decide,Tryz.func197.trans (congrArg some (by kernel_rfl))⟩
 f29:=⟨Tryz.f198.name,by decide,Tryz.func198.trans (congrArg some (by kernel_rfl))⟩
 f31:=Tryz.func212.trans (congrArg some (by kernel_rfl))
 f32:=Tryz.func213.trans (congrArg some (by kernel_rfl))
 f36:=⟨Tryz.f211.name,by decide,Tryz.func211.trans (congrArg some (by kernel_rfl))⟩
 f37:=⟨Tryz.f214.name,by decide,Tryz.func214.trans (congrArg some (by kernel_rfl))⟩
 f38:=⟨Tryz.f215.name,by decide,Tryz.func215.trans (congrArg some (by kernel_rfl))⟩
 f39:=⟨Tryz.f216.name,by decide,Tryz.func216.trans (congrArg some (by kernel_rfl))⟩
 f41:=⟨Tryz.f218.name,by decide,Tryz.func218.trans (congrArg some (by kernel_rfl))⟩
 t0:=Tryz.underlying0
 a0:=Tryz.isAgg0
 z0:=Tryz.sizeOf0
 v0:=Tryz.zeroValue0
 t3:=Tryz.underlying3
 a3:=Tryz.isAgg3
 z3:=Tryz.sizeOf3
 v3:=Tryz.zeroValue3
 t4:=Tryz.underlying4
 a4:=Tryz.isAgg4
 z4:=Tryz.sizeOf4
 v4:=Tryz.zeroValue4
 t5:=Tryz.underlying5
 a5:=Tryz.isAgg5
 z5:=Tryz.sizeOf5
 v5:=Tryz.zeroValue5
 t9:=Tryz.underlying9
 a9:=Tryz.isAgg9
 z9:=Tryz.sizeOf9
 v9:=Tryz.zeroValue9
 t26:=Tryz.underlying71
 a26:=Tryz.isAgg71
 z26:=Tryz.sizeOf71
 v26:=Tryz.zeroValue71
 t27:=Tryz.underlying71
 a27:=Tryz.isAgg71
 z27:=Tryz.sizeOf71
 v27:=Tryz.zeroValue71
 t29:=Tryz.underlying9
 a29:=Tryz.isAgg9
 z29:=Tryz.sizeOf9
 v29:=Tryz.zeroValue9
 t32:=Tryz.underlying179
 a32:=Tryz.isAgg179
 z32:=Tryz.sizeOf179
 v32:=Tryz.zeroValue179
 t35:=Tryz.underlying239
 a35:=Tryz.isAgg239
 z35:=Tryz.sizeOf239
 v35:=Tryz.zeroValue239
 t36:=Tryz.underlying240
 a36:=Tryz.isAgg240
 z36:=Tryz.sizeOf240
 v36:=Tryz.zeroValue240
 t41:=Tryz.underlying244
 a41:=Tryz.isAgg244
 z41:=Tryz.sizeOf244
 v41:=Tryz.zeroValue244
 t44:=Tryz.underlying224
 a44:=Tryz.isAgg224
 z44:=Tryz.sizeOf224
 v44:=Tryz.zeroValue224
 t46:=Tryz.underlying184
 a46:=Tryz.isAgg184
 z46:=Tryz.sizeOf184
 v46:=Tryz.zeroValue184
 t53:=Tryz.underlying257
 a53:=Tryz.isAgg257
 z53:=Tryz.sizeOf257
 v53:=Tryz.zeroValue257
 t57:=Tryz.underlying127
 a57:=Tryz.isAgg127
 z57:=Tryz.sizeOf127
 v57:=Tryz.zeroValue127
 t63:=Tryz.underlying264
 a63:=Tryz.isAgg264
 z63:=Tryz.sizeOf264
 v63:=Tryz.zeroValue264
 t64:=Tryz.underlying37
 a64:=Tryz.isAgg37
 z64:=Tryz.sizeOf37
 v64:=Tryz.zeroValue37 }
end Go.Proofs
namespace Go.Proofs.YtbgfkdiihnidaaaGreatDoor
open Go.RowKit Go.Maps Go.Sort Go.Shelf
set_option linter.unusedVariables false
theorem k_sorts (m:Nat):AnyZ.SortsIn Tryz.prog Tryz.sortedK_ren Fence.wide m :=
 ⟨fun blk off cap ss W hH hblk hsz=>callsIn_wide.2 (AnyM.slices_Sort_string Tryz.sortK blk off cap ss W hH hblk hsz),
  fun p cap W=>callsIn_wide.2 (AnyM.slices_Sort_string_none Tryz.sortK p cap W)⟩
theorem k_keys (mb:Option Nat) (W:World):Calls Tryz.prog 62 #[.map mb] W fun e w'=>e=.returned (.func (.func 123) #[] #[.pointer (some ⟨W.heap.size,0,none⟩)])/\w'=W.alloc (.cells #[.map mb] 125) :=
 callsIn_wide.1 (AnyZ.keys_in Tryz.keysK Fence.wide 5 trivial rfl mb W)
theorem k_sorted {H:Type} (b nn:Nat) (D0:DataW H) (R:Value->Option (DataW H × List MemPlace)) (w:World) (hown:w.ownsMap Tryz.prog 9 R b nn D0) (hmax:Maps.size D0<=maxLen) (hbytes:Maps.size D0*16<=140737488355328) :
 Calls Tryz.prog 61 #[.func (.func 123) #[] #[.pointer (some ⟨w.heap.size,0,none⟩)]] (w.alloc (.cells #[.map (some b)] 125)) fun e w'=>∃ (v:Value) (ss:List (List UInt8)),e=.returned v/\ss.Perm (strKeys D0) /\
  w'.ownsRow (w.alloc (.cells #[.map (some b)] 125)).heap.size 9 1 v ss.length ((ss.mergeSort (fun x y=>decide (x<=y))).map encStr)/\(v=.slice none 0 0↔ss=[])/\Below (w.alloc (.cells #[.map (some b)] 125)).heap.size (w.alloc (.cells #[.map (some b)] 125)) w':=by
 have d:=hown.lt
 have c:SeqGives Fence.wide 2 Tryz.prog 123 #[.pointer (some ⟨w.heap.size,0,none⟩)] encStr (fun ss=>ss.Perm (strKeys D0)) (Maps.size D0) (w.alloc (.cells #[.map (some b)] 125)) :=
  AnyZ.keys_gives (ρ:=Tryz.keysK_ren) { Tryz.keysK with } Fence.wide _ trivial rfl (by omega) w.heap.size b nn D0 _ (by simp) (by simp) (by
   obtain ⟨i,a,f,k,g,j⟩:=hown
   exact ⟨i,a,(Below.heap_alloc _ _ b d).trans f,k,g,j⟩)
 exact callsIn_wide.1 (AnyZ.sorted_in Tryz.sortedK Fence.wide 5 trivial trivial trivial trivial rfl (by omega) (k_sorts _) (enters_of Tryz.func122 (by kernel_rfl) rfl) 123 #[.pointer (some ⟨w.heap.size,0,none⟩)] trivial (enters_of Tryz.func123 (by kernel_rfl) rfl) _ _ hmax hbytes _ c)
theorem keys_of {D:DataW Unit} {R:Value->Option (DataW Unit × List MemPlace)} {w:World} {b n:Nat} (hown:w.ownsMap Tryz.prog 9 R b n D):(strKeys D).Nodup/\∀ x,x∈strKeys D↔has D (.string x)=true:=by
 obtain ⟨g,m,j,_⟩:=hown.entries (string_keyed Tryz.underlying9);obtain ⟨k,f,l⟩:=hown.keysOf;obtain rfl:g=k:=by rw [m] at f;simpa using f
 subst m;have i:∀ p∈g,∃ x,p.1=Lit.string x:=fun p hp=>by
  obtain ⟨v,r⟩:=l p hp;obtain ⟨x,_,t,_⟩:=Maps.keyOf_str Tryz.underlying9 r;exact ⟨x,t⟩
 refine ⟨?_,fun x=>?_⟩
 · show (g.map fun p => strOf p.1).Nodup
   refine List.pairwise_map.2 (j.imp_of_mem fun {p q} c hq' hne e=>hne ?_)
   obtain ⟨a,d⟩:=i p c;obtain ⟨b,s⟩:=i q hq';rw [d,s] at e ⊢;exact congrArg _ e
 · rw [has_eq, List.any_eq_true]
   show x∈g.map (fun p=>strOf p.1)↔_
   rw [List.mem_map];constructor
   · rintro ⟨p, c, rfl⟩
     obtain ⟨a,d⟩:=i p c;exact ⟨p,c,by rw [d];simp [Lit.sameKey,strOf]⟩
   · rintro ⟨p, c, o⟩
     obtain ⟨a,d⟩:=i p c;rw [d] at o;exact ⟨p,c,by rw [d];simpa [Lit.sameKey,strOf] using o⟩
theorem sorted_rise {l:List (List UInt8)} (h:l.Nodup):(l.mergeSort leB).Pairwise (· < ·):=by
 have k:∀ a b c:List UInt8,leB a b=true->leB b c=true->leB a c=true:=fun a b c d f=>by simp only [leB,decide_eq_true_eq] at *;exact List.le_trans d f
 have i:∀ a b:List UInt8,(leB a b || leB b a)=true:=fun a b=>by simp only [leB,Bool.or_eq_true,decide_eq_true_eq];exact List.le_total a b
 have d:=List.pairwise_mergeSort k i l;have f:(l.mergeSort leB).Nodup:=(List.mergeSort_perm l leB).nodup_iff.2 h;refine (d.and f).imp fun {a b} hab=>?_
 obtain ⟨g,j⟩:=hab;simp only [leB,decide_eq_true_eq] at g;by_cases e:a<b
 · exact e
 · exact absurd (List.le_antisymm g (by simpa using e)) j
theorem size_le {D:DataW Unit} {R:Value->Option (DataW Unit × List MemPlace)} {w:World} {k:TypeId} {b n:Nat} (h:w.ownsMap Tryz.prog k R b n D):Maps.size D<=n:=by
 obtain ⟨a,c,f,F,d,rfl⟩:=h;show ((a.toList.map _).foldr DataW.insert []).length<=n;rw [length_sorted];simpa using d
open Go.RowKit Go.Maps
def strsAt (base:Nat) (W:World) (l:List (List UInt8)) (a:Option Addr):Prop:=∀ i s,l[i]? = some s->∃ g,a=some ⟨g,0,none⟩/\base<=g/\W.cell? ⟨g,i,none⟩=some (.string ⟨s.toArray⟩)/\W.frozen? ⟨g,i,none⟩=false
theorem strsAt_below {base:Nat} {W W':World} {l:List (List UInt8)} {a:Option Addr} (h:strsAt base W l a) (hb:Below W.heap.size W W'):strsAt base W' l a:=fun i s hs=>by
 obtain ⟨g,e,h1,h2,h3⟩:=h i s hs
 have hl:g<W.heap.size:=cell_lt h2
 exact ⟨g,e,h1,by rw [hb.cell (p:=⟨g,i,none⟩) hl];exact h2,by rw [hb.frozen (p:=⟨g,i,none⟩) hl];exact h3⟩
theorem strsAt_same {base:Nat} {W:World} {l:List (List UInt8)} {a:Option Addr} (h:strsAt base W l a) {i:Nat} {s:List UInt8} (hi:l[i]? = some s) {g:Nat} (hg:a=some ⟨g,0,none⟩):strsAt base (W.setCell ⟨g,i,none⟩ (.string ⟨s.toArray⟩)) l a:=fun j u hu=>by
 obtain ⟨g2,e2,h1,h2,h3⟩:=h j u hu
 obtain ⟨g3,e3,k1,k2,k3⟩:=h i s hi
 refine ⟨g2,e2,h1,?_,by rw [World.frozen?_setCell];exact h3⟩
 by_cases e:(⟨g,i,none⟩:Addr)=⟨g2,j,none⟩
 · have e4 := hg.symm.trans e3
   have e5:g=g3:=by injection e4 with e4;injection e4
   rw [<- e] at h2 ⊢
   rw [e5,k2] at h2
   rw [World.cell?_setCell_same _ _ _ (by rw [e5];exact k2)]
   exact h2
 · rw [World.cell?_setCell_other _ _ _ _ e];exact h2
theorem strsAt_row {base:Nat} {W:World} {v:Value} {l:List (List UInt8)} (h:W.ownsRow base 9 1 v l.length (l.map encStr)):∃ a c,v=.slice a l.length c/\strsAt base W l a:=by
 have d:=h;obtain ⟨n,h | ⟨g,b,k,rfl,f,o,p,t,m,r⟩⟩:=h
 · obtain ⟨rfl, h⟩ := h
   obtain rfl:l=[]:=List.eq_nil_of_length_eq_zero h;exact ⟨none,0,rfl,fun i s hs=>by simp at hs⟩
 · refine ⟨some ⟨g, 0, none⟩, b, rfl, fun i s hs => ⟨g, rfl, f, ?_, d.frozenAt i⟩⟩
   have q:i<l.length:=(List.getElem?_eq_some_iff.1 hs).1;have j:=d.cellAt i (by omega)
   rw [j,List.getElem?_map,hs];rfl
def NmsP (x:Pg) (w:World) (e:Ending) (w':World):Prop:=∃ a l c,e=.returned (.slice a l.length c)/\NL (nmP x) l/\l.length<=2097152/\(∀ s∈l,s.length<=140737488355328)/\strsAt w.heap.size w' l a/\Below w.heap.size w w'
structure B3 (w:World) (r:Array Value) (W:World):Prop where
 own0:Own W w.heap.size 26 r
 own1:W.heap[w.heap.size+1]? = some (.map #[] 0)
 own2:Own W (w.heap.size+2) 125 #[.map (some (w.heap.size+1))]
 bel:Below w.heap.size w W
theorem b3_new (w:World) (r:Array Value):B3 w r (((w.alloc (.cells r 26)).alloc (.map #[] 0)).alloc (.cells #[.map (some (w.heap.size+1))] 125)):=by
 have b:=Own.new w 26 r;have c:((w.alloc (.cells r 26)).alloc (.map #[] 0)).heap[w.heap.size+1]? = some (.map #[] 0):=by
  have:=World.alloc_heap_new (w.alloc (.cells r 26)) (.map #[] 0);rw [World.size_alloc] at this;exact this
 have a:=Own.new ((w.alloc (.cells r 26)).alloc (.map #[] 0)) 125 #[.map (some (w.heap.size+1))];simp only [World.size_alloc] at a;refine ⟨(b.alloc _).alloc _,?_,a,((((Below.refl _ w).alloc (Nat.le_refl _) _).alloc (by simp only [World.size_alloc];omega) _).alloc (by simp only [World.size_alloc];omega) _)⟩
 exact (((Below.refl _ ((w.alloc (.cells r 26)).alloc (.map #[] 0))).alloc (Nat.le_refl _) (.cells #[.map (some (w.heap.size+1))] 125)).block _ (by simp only [World.size_alloc];omega)).trans c
theorem vp_nk {R:Nat->Prop} {fb m:Nat} {w0:World} : VpN (.pointer (some ⟨fb,0,none⟩)) R w0 (GdN w0) (Nk fb m w0) :=
 ⟨fun h hb=>nk_keep h hb,fun h=>nk_sk h,fun h=>gdN_pre h,fun h hv hn hg=>nk_step h hv hn hg⟩
theorem p_Names (x:Pg) (hf:fitP x) (hok:okP x) (hb:ctP x<=1048576) {v:Value} {w:World} (hv:pA w x v):Calls Tryz.prog 28 #[v] w (NmsP x w):=by
 have au:Hid (∀ (u:ByteArray) X,u.size<=140737488355328->Calls Tryz.prog 63 #[.string u] X fun e w'=>e=.returned (.string u)/\Below X.heap.size X w'):=fun u X U=>p_clone u U X
 have T:Hid (∀ (W:World) c q f r d o,v=.agg #[.slice c x.shared.length q,.slice f x.locks.length r,.slice d x.threads.length o]->dcsAt (fun _=>True) w x.shared c->dcsAt (fun _=>True) w x.locks f->thsAt (fun _=>True) w x.threads d->B3 w #[.slice c x.shared.length q,.slice f x.locks.length r,.slice d x.threads.length o] W ->
  Calls Tryz.prog 59 #[v,.func (.func 60) #[] #[.pointer (some ⟨w.heap.size+2,0,none⟩)]] W fun e w'=>e=.returned (.tuple #[])/\w'.cell? ⟨w.heap.size+2,0,none⟩=some (.map (some (w.heap.size+1)))/\Below w.heap.size w w'/\∃ (n:Nat) (D:DataW Unit),n<=2097152/\MO w' (w.heap.size+1) n D/\∀ s,has D (.string s)=true↔s≠[]/\(⟨s.toArray⟩:ByteArray)∈nmP x):=fun W c q f r d o e I O h3 hB=>by
  subst e;have k1:dcsAt (fun _=>True) W x.shared c:=dcsAt_below I hB.bel
  have t:dcsAt (fun _=>True) W x.locks f:=dcsAt_below O hB.bel
  have N:thsAt (fun _=>True) W x.threads d:=thsAt_below h3 hB.bel
  have c0:W.cell? ⟨w.heap.size+2,0,none⟩=some (.map (some (w.heap.size+1))):=cr hB.own2;have mo:MO W (w.heap.size+1) 0 (.map []):=⟨#[],0,hB.own1,⟨by simp,Go.MapKept.stamped_empty 0,by simp⟩,Nat.le_refl _,rfl⟩
  refine (p_eachPartN vp_nk hok k1 t N (nk_nil ⟨_,_,hB.own1⟩ c0 mo) (gdN_P hb hf k1 t N)).mono fun e w' h=>⟨h.1,nk_cell h.2 c0,?_,?_⟩
  · exact hB.bel.grown h.2.grown hB.bel.size (fun j hj=>by have:=Option.some.inj hj;omega)
  · obtain ⟨n, D, H, B, hk⟩ := h.2.map
    refine ⟨n,D,?_,B,fun s=>(hk s).trans (and_congr Iff.rfl (nmC_P k1 t N _))⟩
    have:=vP_ct W hb c f d;omega
 have aq:Hid (∀ s∈nmP x,nmOk s):=fitP_nm hf;obtain ⟨c,q,f,r,d,o,rfl,I,O,h3⟩:=hv;show Calls _ _ _ _ (NmsP x w);have Z:Hid (∀ (W:World),B3 w #[.slice c x.shared.length q,.slice f x.locks.length r,.slice d x.threads.length o] W->Calls Tryz.prog 59 #[.agg #[.slice c x.shared.length q,.slice f x.locks.length r,.slice d x.threads.length o],.func (.func 60) #[] #[.pointer (some ⟨w.heap.size+2,0,none⟩)]] W fun e w'=>e=.returned (.tuple #[])/\w'.cell? ⟨w.heap.size+2,0,none⟩=some (.map (some (w.heap.size+1)))/\Below w.heap.size w w'/\∃ (n:Nat) (D:DataW Unit),n<=2097152/\MO w' (w.heap.size+1) n D/\∀ s,has D (.string s)=true↔s≠[]/\(⟨s.toArray⟩:ByteArray)∈nmP x):=fun W hB=>T.out W c q f r d o rfl I O h3 hB
 clear T;generalize x.shared.length=n1 at *;generalize x.locks.length=n2 at *;generalize x.threads.length=n3 at *;have HX:=Hd (b3_new w #[.slice c n1 q,.slice f n2 r,.slice d n3 o]);obtain ⟨W0,K⟩:=Qx (((w.alloc (.cells #[.slice c n1 q,.slice f n2 r,.slice d n3 o] 26)).alloc (.map #[] 0)).alloc (.cells #[.map (some (w.heap.size+1))] 125));rw [<- K] at HX;have P:=Hd K;clear K hf hok hb I O h3;have ax:=@run_makeMap Tryz.prog;go_enter Tryz.func28,Tryz.ntmps28;go_upto_region 2 with (fail)
 rw [show w.heap.size+1+1=w.heap.size+2 from rfl,<- P.out]
 have O1:=HX.out.own0;clear P ax;have bi:∀ (fn:Fn) (first cap:Array Value) (w:World),(Instr.makeFunc fn first cap).run Tryz.prog w=.ok (.func fn first cap) w:=fun _ _ _ _=>rfl
 go_wp2_with (refine ld rowPg rfl rfl rfl O1 rfl ?_);go_at_call 59;refine (Z.out _ HX.out).mono ?_;rintro e w4 ⟨rfl,cM,R,n,D,H,B,hk⟩;have HS:=Hd (k_sorted (w.heap.size+1) n D _ w4 B (Nat.le_trans (size_le B) (by unfold maxLen;omega)) (by have:=size_le B;omega))
 have G:=Hd (keys_of B);have Y:=Hd (size_le B);have HK:=Hd hk;have ae:=Hd H;have m:=Hd R;clear hk B H R O1 HX Z;go_wp2_with fail;go_at_call 62;refine (k_keys _ _).mono ?_;rintro e w5 ⟨rfl,rfl⟩;go_wp2_with fail;go_at_call 61;refine HS.out.mono ?_;rintro e w6 ⟨v,ss,rfl,a,k,_,Q⟩;obtain ⟨l,hl⟩:=Qx (ss.mergeSort (fun x y=>decide (x<=y)))
 have A:ss.length=l.length:=by rw [hl,List.length_mergeSort]
 rw [<- hl,A] at k;obtain ⟨sa,sc,rfl,ab⟩:=strsAt_row k;have J:l.Perm (strKeys D):=by rw [hl];exact (List.mergeSort_perm _ _).trans a
 have E:NL (nmP x) l:=by
  refine ⟨?_,fun s=>?_⟩
  · rw [hl];exact sorted_rise (a.nodup_iff.2 G.out.1)
  · rw [J.mem_iff,G.out.2,HK.out]
 have aa:l.length<=2097152:=by
  have I:l.length=Maps.size D:=by
   rw [J.length_eq];have:∀ D:DataW Unit,(strKeys D).length=Maps.size D:=fun D=>by cases D <;> simp [strKeys,Maps.size]
   exact this D
  have:=Y.out;have:=ae.out;omega
 have b:∀ s∈l,s.length<=140737488355328:=fun s hs=>by
  have:=aq.out _ ((E.2 s).1 hs).2;unfold nmOk at this;simpa [ByteArray.size] using this
 have S:Below w.heap.size w w6:=m.out.trans (((Below.refl w.heap.size w4).alloc m.out.size (.cells #[.map (some (w.heap.size+1))] 125)).trans (Q.mono (by have:=m.out.size;simp only [World.size_alloc];omega)))
 have z:strsAt w.heap.size w6 l sa:=fun i s hs=>by
  obtain ⟨g,e,I,O⟩:=ab i s hs;exact ⟨g,e,by have:=m.out.size;simp only [World.size_alloc] at I;omega,O⟩
 have ay:=Hd z;have ap:=Hd S;have aw:=Hd E;have ag:=Hd aa;have ad:=Hd b;obtain ⟨n,H⟩:=Qx l.length;have HN:=Hd H;clear a k Q hl A ab J E aa b S z cM G Y ae HK m HS;rw [<- H];clear H;have a4:n<=2097152:=by rw [HN.out];exact ag.out
 go_wp2_with fail;go_loopg [15] (n+1) (fun m' u X=>∃ i:Nat,u=.int .i64 (i:Int)/\i<=n/\m'=n-i+1/\strsAt w.heap.size X l sa/\Below w.heap.size w X)
 case atStart=>exact ⟨0,rfl,Nat.zero_le _,by omega,ay.out,ap.out⟩
 case round =>
  obtain ⟨i,rfl,hi,hm,hZ,M⟩:=hrel;have HM:=Hd hm;have HZ:=Hd hZ;have L:=Hd M;clear hm;by_cases hin:i<n
  · have il : i < l.length := by have := HN.out; omega
    have g1:l[i]? = some l[i]:=List.getElem?_eq_getElem il;obtain ⟨g,rfl,k1,t,N⟩:=hZ i _ g1;have C:=ad.out _ (List.getElem_mem il);generalize l[i]=s at t g1 C;have V:Hid (∀ X,Calls Tryz.prog 63 #[.string ⟨s.toArray⟩] X fun e w'=>e=.returned (.string ⟨s.toArray⟩)/\Below X.heap.size X w'):=fun X=>au.out ⟨s.toArray⟩ X (by simpa [ByteArray.size] using C)
    have bc:(i:Int)<(n:Int):=by omega
    have ao:=Hd g1;obtain ⟨u,U⟩:=Qx ((⟨s.toArray⟩:ByteArray));rw [<- U] at t V;have HU:=Hd U;clear U g1 C il hZ M;go_wp2_with fail;go_at_call 63;refine (V.out _).mono ?_;rintro e w8 ⟨rfl,hb⟩;have F:g<wr.heap.size:=cell_lt t;have c8:w8.cell? ⟨g,i,none⟩=some (.string u):=by rw [hb.cell (p:=⟨g,i,none⟩) F];exact t
    have f8:w8.frozen? ⟨g,i,none⟩=false:=by rw [hb.frozen (p:=⟨g,i,none⟩) F];exact N
    have HQ:Hid (strsAt w.heap.size (w8.setCell ⟨g,i,none⟩ (.string u)) l (some ⟨g,0,none⟩)/\Below w.heap.size w (w8.setCell ⟨g,i,none⟩ (.string u))):=by
     refine ⟨?_,(L.out.trans (hb.mono L.out.size)).setCell k1 _⟩;rw [HU.out];exact strsAt_same (strsAt_below HZ.out hb) ao.out rfl
    clear hb t N F;go_wp2_with fail;go_roundg (n-(i+1)+1)
    case measure=>have:=HM.out;omega
    case rel=>exact ⟨i+1,rfl,by omega,by omega,HQ.out.1,HQ.out.2⟩
  · have : i = n := by omega
    subst this;clear hZ M;go_wp2_with fail;go_ret;exact ⟨sa,l,sc,by rw [<- HN.out];rfl,aw.out,ag.out,ad.out,HZ.out,L.out⟩
open Go.RowKit
theorem bytes_mk (s:ByteArray) (l:List UInt8):s=⟨l.toArray⟩↔s.data.toList=l:=⟨fun e=>by rw [e],fun e=>by rw [<- e,bytes_back]⟩
theorem p_Index {base:Nat} {w:World} {l:List (List UInt8)} {a:Option Addr} {c:Nat} (h:strsAt base w l a) (hl:l.length<=2097152) (t:ByteArray):Calls Tryz.prog 58 #[.slice a l.length c,.string t] w fun e w'=>∃ j:Int,e=.returned (.int .i64 j)/\(0<=j↔t.data.toList∈l) /\ -1<=j/\w'=w:=by
 obtain ⟨n,v⟩:=Qx l.length;rw [<- v] at hl ⊢;have D:=Hd v;have H:=Hd h;clear h v;go_enter Tryz.func58,Tryz.ntmps58;go_wp2_with fail;go_loopg [8] (n+1) (fun m' u X=>∃ i:Nat,u=.int .i64 (i:Int)/\i<=n/\m'=n-i+1/\X=w/\∀ k,k<i->l[k]? ≠ some t.data.toList)
 case atStart=>exact ⟨0,rfl,Nat.zero_le _,by omega,rfl,fun k p=>by omega⟩
 case round =>
  obtain ⟨i,rfl,M,o,G,b⟩:=hrel;subst G;have I:=Hd o;have f:=Hd b;clear o b;by_cases hin:i<n
  · have A : i < l.length := by have := D.out; omega
    have m:l[i]? = some l[i]:=List.getElem?_eq_getElem A;obtain ⟨g,rfl,J,C,L⟩:=H.out i _ m;generalize l[i]=s at C m;have E:(i:Int)<(n:Int):=by omega
    have d:=Hd m;obtain ⟨u,x⟩:=Qx ((⟨s.toArray⟩:ByteArray));rw [<- x] at C;have r:=Hd x;clear x m A J L;by_cases q:t=u
    · have K := bytes_eqT q
      have y:Hid (t.data.toList∈l):=by
       have B:=r.out;rw [<- q] at B;rw [(bytes_mk _ _).1 B];exact List.mem_of_getElem? d.out
      clear q r;go_wp2_with fail;go_ret;exact ⟨_,rfl,⟨fun _=>y.out,fun _=>by omega⟩,by omega,rfl⟩
    · have K := bytes_eqF q
      have F:Hid (∀ k,k<i+1->l[k]? ≠ some t.data.toList):=fun k p e=>by
       by_cases hki:k<i
       · exact f.out k hki e
       · obtain rfl : k = i := by omega
         rw [d.out] at e;exact q (by rw [r.out];exact (bytes_mk _ _).2 (Option.some.inj e).symm)
      clear q;go_wp2_with fail;go_roundg (n-(i+1)+1)
      case measure=>have:=I.out;omega
      case rel=>exact ⟨i+1,rfl,by omega,by omega,rfl,F.out⟩
  · have : i = n := by omega
    subst this;have z:Hid (t.data.toList ∉ l):=fun o=>by
     obtain ⟨k,p⟩:=List.getElem?_of_mem o;exact f.out k (by have:=(List.getElem?_eq_some_iff.1 p).1;have:=D.out;omega) p
    go_wp2_with fail;go_ret;exact ⟨_,rfl,⟨fun h=>absurd h (by omega),fun h=>absurd h z.out⟩,by omega,rfl⟩
theorem p_Contains {base:Nat} {w:World} {l:List (List UInt8)} {a:Option Addr} {c:Nat} (h:strsAt base w l a) (hl:l.length<=2097152) (t:ByteArray):Calls Tryz.prog 27 #[.slice a l.length c,.string t] w fun e w'=>e=.returned (.bool (decide (t.data.toList∈l)))/\w'=w:=by
 have b:=Hd (p_Index (c:=c) h hl t);clear h hl;generalize l.length=n at b;by_cases hm:t.data.toList∈l
 · have f : Hid (decide (t.data.toList ∈ l) = true) := decide_eq_true hm
   rw [f.out];go_enter Tryz.func27,Tryz.ntmps27;go_wp2_with fail;go_at_call 58;refine b.out.mono ?_;rintro e k ⟨j,rfl,d,i,rfl⟩;have g:0<=j:=d.2 hm;clear d f hm b;go_wp2_with fail;go_ret;exact ⟨rfl,rfl⟩
 · have f : Hid (decide (t.data.toList ∈ l) = false) := decide_eq_false hm
   rw [f.out];go_enter Tryz.func27,Tryz.ntmps27;go_wp2_with fail;go_at_call 58;refine b.out.mono ?_;rintro e k ⟨j,rfl,d,i,rfl⟩;have g:j<0:=by
    by_cases h:0<=j
    · exact absurd (d.1 h) hm
    · omega
   have m:decide (0<=j)=false:=by simpa using g
   clear d f hm b;go_wp2_with fail;go_ret;exact ⟨by simp,rfl⟩
theorem catch_pgm {w:World} {n t y:Nat} {cy z:Int} {older:List PanicEntry} (h1:Own w t 26 #[.slice none 0 0,.slice none 0 0,.slice none 0 0]) (h2:Own w y 27 #[.int .i64 cy]) (hn:n<=t/\n<=y) (hd:t≠y) :
 CallsD Tryz.prog 53 #[.pointer (some ⟨t,0,none⟩),.pointer (some ⟨y,0,none⟩)] (.panicking ({ v:=.iface 27 (.int .i64 z),recovered:=false } :: older)) w fun e u' w' =>
  e=.returned (.tuple #[])/\u'=.panicking ({ v:=.iface 27 (.int .i64 z),recovered:=true } :: older)/\Own w' t 26 #[.slice none 0 0,.slice none 0 0,.slice none 0 0]/\Own w' y 27 #[.int .i64 z]/\Below n w w':=by
 refine callsD_of_wpS Tryz.func53 rfl fun c₀ cs hu=>?_
 apply wpS_seq;apply wpS_region;simp [wpOpsS,go_sem,recoverD,hu,Tryz.ntmps53,Exit.thenS];rw [show (#[.pointer (some ⟨t,0,none⟩),.pointer (some ⟨y,0,none⟩)]++(((Array.replicate 17 undef).setIfInBounds 4 (.iface 27 (.int .i64 z))).setIfInBounds 0 (.iface 27 (.int .i64 z))):Array Value)=#[.pointer (some ⟨t,0,none⟩),.pointer (some ⟨y,0,none⟩),.iface 27 (.int .i64 z),undef,undef,undef,.iface 27 (.int .i64 z),undef,undef,undef,undef,undef,undef,undef,undef,undef,undef,undef,undef] from by kernel_rfl]
 refine wpS_of_wp ?_;generalize hQ:(fun e a' w'=>bodyPostS _ _ _ _ _ e a' _ w')=Q
 have r:=any_eql;have m:=any_err;have l:=h1.lt;have i:=h2.lt;have k:=Own.new w 26 #[.slice none 0 0,.slice none 0 0,.slice none 0 0];have b:=h1.alloc (.cells #[.slice none 0 0,.slice none 0 0,.slice none 0 0] 26);have d:=h2.alloc (.cells #[.slice none 0 0,.slice none 0 0,.slice none 0 0] 26);have c:=b.row #[.slice none 0 0,.slice none 0 0,.slice none 0 0];have a:=d.other (g:=t) #[.slice none 0 0,.slice none 0 0,.slice none 0 0] (by omega)
 have p:((w.alloc (.cells #[.slice none 0 0,.slice none 0 0,.slice none 0 0] 26)).setRow t #[.slice none 0 0,.slice none 0 0,.slice none 0 0]).cell? ⟨y,0,none⟩=some (.int .i64 cy):=cr a;have q:=own_frozen a 0;have o:((w.alloc (.cells #[.slice none 0 0,.slice none 0 0,.slice none 0 0] 26)).setRow t #[.slice none 0 0,.slice none 0 0,.slice none 0 0]).setCell ⟨y,0,none⟩ (.int .i64 z)=((w.alloc (.cells #[.slice none 0 0,.slice none 0 0,.slice none 0 0] 26)).setRow t #[.slice none 0 0,.slice none 0 0,.slice none 0 0]).setRow y #[.int .i64 z]:=setCell_row a 0 _;have j:=Hd (c.other (g:=y) #[.int .i64 z] (by omega))
 have f:=Hd (a.row #[.int .i64 z]);have B:=Hd (Below.of_row (Below.of_row ((Below.refl n w).alloc (by omega) (.cells #[.slice none 0 0,.slice none 0 0,.slice none 0 0] 26)) (g:=t) (by omega) #[.slice none 0 0,.slice none 0 0,.slice none 0 0]) (g:=y) (by omega) #[.int .i64 z])
 clear c a d l i;go_wp2_with (first | (refine ld rowPg rfl rfl rfl k rfl ?_) | (refine st rowPg rfl rfl b rfl rfl (by rfl) (by rfl) (by kernel_rfl) ?_))
 subst hQ;simp [bodyPostS,results,Tryz.results53];exact ⟨j.out,f.out,B.out⟩
theorem idle_pgm (x y:Value) (w:World):CallsD Tryz.prog 53 #[x,y] .returning w fun e u' w'=>e=.returned (.tuple #[])/\u'=.returning/\w'=w:=by
 have a:=any_nil;refine callsD_of_wpS Tryz.func53 rfl fun c₀ cs hu=>?_
 apply wpS_seq;apply wpS_region;simp [wpOpsS,go_sem,recoverD,hu,Tryz.ntmps53,Exit.thenS];rw [show (#[x,y]++(((Array.replicate 17 undef).setIfInBounds 4 .nilIface).setIfInBounds 0 .nilIface):Array Value)=#[x,y,.nilIface,undef,undef,undef,.nilIface,undef,undef,undef,undef,undef,undef,undef,undef,undef,undef,undef,undef] from by kernel_rfl]
 refine wpS_of_wp ?_;generalize hQ:(fun e a' w'=>bodyPostS _ _ _ _ _ e a' _ w')=Q
 go_wp2;subst hQ;cases c₀;simp_all [bodyPostS,results,Tryz.results53]
def TrP (x:Pg) (w:World) (v:Value) (w':World):Prop:=∃ s1 t1 s2 t2 s3 t3,v=.agg #[.slice s1 x.shared.length t1,.slice s2 x.locks.length t2,.slice s3 x.threads.length t3]/\dcsAt (Rf w.heap.size w') w' x.shared s1/\dcsAt (Rf w.heap.size w') w' x.locks s2/\thsAt (Rf w.heap.size w') w' x.threads s3
theorem trP_pA {x:Pg} {w w':World} {v:Value} (h:TrP x w v w'):pA w' x v:=by
 obtain ⟨j,d,i,f,c,b,rfl,g,k,a⟩:=h;exact ⟨j,d,i,f,c,b,rfl,dcsAt_stays (Stays.refl _ _) (fun _ _=>trivial) g,dcsAt_stays (Stays.refl _ _) (fun _ _=>trivial) k,thsAt_stays (Stays.refl _ _) (fun _ _=>trivial) a⟩
theorem trP_far {x:Pg} {w w0 w' w'':World} {v:Value} (h:TrP x w v w') (hc:Chg w.heap.size w' w'') (hw:w0.heap.size<=w.heap.size):TrP x w0 v w'':=by
 obtain ⟨k,d,j,f,c,b,i,g,l,a⟩:=h;exact ⟨k,d,j,f,c,b,i,dcsAt_rf g hc hw,dcsAt_rf l hc hw,thsAt_rf a hc hw⟩
def MkP2 (Y:Sum Pg Int) (w:World) (e:Ending) (w':World):Prop:=Below w.heap.size w w'/\match Y with | .inl y=>∃ v,e=.returned v/\TrP y w v w' | .inr n=>e=.panicked (errP n)
def AtP2 (Y:Sum Pg Int) (w:World) (e:Ending) (w':World):Prop:=Below w.heap.size w w'/\∃ v z,e=.returned (.tuple #[v,.int .i64 z])/\match Y with | .inl y=>z=0/\TrP y w v w' | .inr n=>z=n/\v=.agg #[.slice none 0 0,.slice none 0 0,.slice none 0 0]
theorem p_att_ren {pb fb tb:Nat} {w:World} {Y:Sum Pg Int} (hmk:∀ W,Below w.heap.size w W->Calls Tryz.prog 25 #[.pointer (some ⟨pb,0,none⟩),.pointer (some ⟨tb,0,none⟩),.pointer (some ⟨fb,0,none⟩)] W (MkP2 Y W)) :
 Calls Tryz.prog 24 #[.func (.func 25) #[] #[.pointer (some ⟨pb,0,none⟩),.pointer (some ⟨tb,0,none⟩),.pointer (some ⟨fb,0,none⟩)]] w (AtP2 Y w):=by
 have r:=Hd hmk;have O1:=(Own.new w 26 #[.slice none 0 0,.slice none 0 0,.slice none 0 0]).alloc (.cells #[.int .i64 0] 27);have F:=Own.new (w.alloc (.cells #[.slice none 0 0,.slice none 0 0,.slice none 0 0] 26)) 27 #[.int .i64 0];have D:Below w.heap.size w ((w.alloc (.cells #[.slice none 0 0,.slice none 0 0,.slice none 0 0] 26)).alloc (.cells #[.int .i64 0] 27)):=((Below.refl _ w).alloc (Nat.le_refl _) _).alloc (by simp only [World.size_alloc];omega) _
 have o:Hid (((w.alloc (.cells #[.slice none 0 0,.slice none 0 0,.slice none 0 0] 26)).alloc (.cells #[.int .i64 0] 27)).heap.size=w.heap.size+2):=by simp only [Hid,World.size_alloc]
 rw [World.size_alloc] at F;have J:∀ (fn:Fn) (first cap:Array Value) (w:World),(Instr.makeFunc fn first cap).run Tryz.prog w=.ok (.func fn first cap) w:=fun _ _ _ _=>rfl
 clear hmk;go_enter_defers Tryz.func24,Tryz.ntmps24;go_wp2_with fail;go_at_call 25;refine (r.out _ D).mono ?_;rintro e l ⟨a,C⟩;have L:w.heap.size+2<=l.heap.size:=by have:=a.size;have:=o.out;omega
 have z:=O1.below a;have E:=F.below a;have B1:=Hd (D.trans (a.mono (by have:=o.out;omega)))
 cases Y with
 | inr m =>
   obtain rfl:=C;clear a;go_wp2_with fail;refine leaves_cons (f:=53) (args:=#[.pointer (some ⟨w.heap.size,0,none⟩),.pointer (some ⟨w.heap.size+1,0,none⟩)]) (by simp) (by simp [go_sem]) ?_
   refine (catch_pgm (n:=w.heap.size) z E (by omega) (by omega)).mono ?_
   rintro e I P ⟨rfl,rfl,x,q,H⟩;exact ⟨_,res2s rfl rfl rfl (lv_row rowPg x rfl) (lv_err q),B1.out.trans H,_,_,rfl,rfl,rfl⟩
 | inl y =>
   obtain ⟨v,rfl,t⟩:=C;have s:=t;obtain ⟨k,c,i,d,j,b,rfl,_⟩:=s;have A:=z.row #[.slice k y.shared.length c,.slice i y.locks.length d,.slice j y.threads.length b];have p:=E.other (g:=w.heap.size) #[.slice k y.shared.length c,.slice i y.locks.length d,.slice j y.threads.length b] (by omega)
   have M:(l.setRow w.heap.size #[.slice k y.shared.length c,.slice i y.locks.length d,.slice j y.threads.length b]).cell? ⟨w.heap.size+1,0,none⟩=some (.int .i64 0):=cr p;have K:=own_frozen p 0;have O:(l.setRow w.heap.size #[.slice k y.shared.length c,.slice i y.locks.length d,.slice j y.threads.length b]).setCell ⟨w.heap.size+1,0,none⟩ (.int .i64 0)=(l.setRow w.heap.size #[.slice k y.shared.length c,.slice i y.locks.length d,.slice j y.threads.length b]).setRow (w.heap.size+1) #[.int .i64 0]:=setCell_row p 0 _;have x:=Hd (A.other (g:=w.heap.size+1) #[.int .i64 0] (by omega))
   have q:=Hd (p.row #[.int .i64 0]);have B:=Hd (B1.out.trans (Below.of_row (Below.of_row (Below.refl w.heap.size l) (g:=w.heap.size) (by omega) #[.slice k y.shared.length c,.slice i y.locks.length d,.slice j y.threads.length b]) (g:=w.heap.size+1) (by omega) #[.int .i64 0]))
   have G:Hid (TrP y w (.agg #[.slice k y.shared.length c,.slice i y.locks.length d,.slice j y.threads.length b]) ((l.setRow w.heap.size #[.slice k y.shared.length c,.slice i y.locks.length d,.slice j y.threads.length b]).setRow (w.heap.size+1) #[.int .i64 0])):=by
    exact trP_far (trP_far t (chg_setRow l #[.slice k y.shared.length c,.slice i y.locks.length d,.slice j y.threads.length b] (by have:=o.out;omega)) (Nat.le_refl _)) (chg_setRow _ #[.int .i64 0] (by have:=o.out;omega)) (by have:=o.out;omega)
   clear A p a t;go_wp2_with (refine st rowPg rfl rfl z rfl rfl (by rfl) (by rfl) (by kernel_rfl) ?_)
   refine leaves_cons (f:=53) (args:=#[.pointer (some ⟨w.heap.size,0,none⟩),.pointer (some ⟨w.heap.size+1,0,none⟩)]) (by simp) (by simp [go_sem]) ?_
   refine (idle_pgm _ _ _).mono ?_;rintro e I N ⟨rfl,rfl,rfl⟩;exact ⟨_,res2s rfl rfl rfl (lv_row rowPg x.out rfl) (lv_err q.out),B.out,_,_,rfl,rfl,G.out⟩
theorem quiet_moreR {P:Program} {f:FuncId} {args:Array Value} {w:World} {a n:Nat} {v:Value} (h:Calls P f args (w.drewN (a+n)) fun e w'=>e=.returned v/\w.drewN (a+n)=w') :
 Calls P f args (w.drewN (a+n)) fun e w''=>e=.returned v/\∃ m,w''=w.drewN (a+m) :=
 h.mono fun _ _ ⟨he,hm⟩=>⟨he,n,hm.symm⟩
theorem quiet_oneR {P:Program} {f:FuncId} {args:Array Value} {w:World} {n:Nat} {v:Value} (h:Calls P f args (w.drewN n) fun e w'=>e=.returned v/\w.drewN n=w') :
 Calls P f args (w.drewN n) fun e w''=>e=.returned v/\∃ m,w''=w.drewN m :=
 h.mono fun _ _ ⟨he,hm⟩=>⟨he,n,hm.symm⟩
def hasN (x:Pg) (t:ByteArray):Bool:=(nmP x).any fun s=>s.data.toList==t.data.toList
theorem hasN_iff {x:Pg} {t:ByteArray} : hasN x t=true↔t∈nmP x:=by
 unfold hasN;rw [List.any_eq_true];exact ⟨fun ⟨s,h,e⟩=>by rw [<- bytes_same e];exact h,fun h=>⟨t,h,by simp⟩⟩
def renY (x:Pg) (f t:ByteArray):Sum Pg Int:=bif rP x then (bif nameB t && !hasN x t then .inl (x.ren (gR f t)) else .inr 2) else .inr 40
def Cr (pb fb tb:Nat) (f t:ByteArray) (r0 r1 r2:Value) (w W:World):Prop:=W.cell? ⟨pb,0,none⟩=some r0/\W.cell? ⟨pb,1,none⟩=some r1/\W.cell? ⟨pb,2,none⟩=some r2/\W.cell? ⟨tb,0,none⟩=some (.string t)/\W.cell? ⟨fb,0,none⟩=some (.string f)/\Below w.heap.size w W
theorem cr_below {pb fb tb:Nat} {f t:ByteArray} {r0 r1 r2:Value} {w W W':World} (h:Cr pb fb tb f t r0 r1 r2 w W) (hb:Below W.heap.size W W'):Cr pb fb tb f t r0 r1 r2 w W':=by
 obtain ⟨g,b,i,a,d,c⟩:=h;exact ⟨by rw [hb.cell (p:=⟨pb,0,none⟩) (cell_lt g)];exact g,by rw [hb.cell (p:=⟨pb,1,none⟩) (cell_lt b)];exact b,by rw [hb.cell (p:=⟨pb,2,none⟩) (cell_lt i)];exact i,by rw [hb.cell (p:=⟨tb,0,none⟩) (cell_lt a)];exact a,by rw [hb.cell (p:=⟨fb,0,none⟩) (cell_lt d)];exact d,c.trans (hb.mono c.size)⟩
theorem cr_drew {pb fb tb:Nat} {f t:ByteArray} {r0 r1 r2:Value} {w W:World} (h:Cr pb fb tb f t r0 r1 r2 w W):Cr pb fb tb f t r0 r1 r2 w W.drew:=cr_below h (below_drewN (Below.refl _ W) 1)
theorem p_Rename1 (x:Pg) (okx:PrOk x) (hf:fitP x) (hb:ctP x<=1048576) (f t:ByteArray) {v:Value} {w W:World} (hx:pA w x v) (TT:WTb w) {pb fb tb:Nat} (hbw:Below w.heap.size w W) (c0:∀ r,v=.agg r->Own W pb 26 r) (c1:W.cell? ⟨tb,0,none⟩=some (.string t)) (c2:W.cell? ⟨fb,0,none⟩=some (.string f)) :
 Calls Tryz.prog 25 #[.pointer (some ⟨pb,0,none⟩),.pointer (some ⟨tb,0,none⟩),.pointer (some ⟨fb,0,none⟩)] W (MkP2 (renY x f t) W):=by
 have s:Hid (∀ W',Below W.heap.size W W'->Calls Tryz.prog 18 #[v] W' (NdP W' (rP x))):=fun W' h=>p_needProgram x okx.1 okx.2.1 v W' (pA_below hx (hbw.trans (h.mono hbw.size))) (TT.below (hbw.trans (h.mono hbw.size))).pt
 have m:Hid (∀ W',Below W.heap.size W W'->Calls Tryz.prog 26 #[.string t] W' fun e w'=>e=.returned (.bool (nameB t))/\W'=w'):=fun W' h=>isname_any t W' (TT.below (hbw.trans (h.mono hbw.size))).pt.1.1
 have F:Hid (∀ W',Below W.heap.size W W'->Calls Tryz.prog 28 #[v] W' (NmsP x W')):=fun W' h=>p_Names x hf okx.1 hb (pA_below hx (hbw.trans (h.mono hbw.size)))
 have d:Hid (rP x=true->nameB t=true->∀ W',Below W.heap.size W W'->Calls Tryz.prog 29 #[v,.string f,.string t] W' (RenP x f t W')):=fun hr hn W' h=>p_renamed x hf okx.1 hr f t (by have:=name_size hn;unfold nmOk;omega) (pA_below hx (hbw.trans (h.mono hbw.size)))
 obtain ⟨I,c,K,g,J,i,rfl,_⟩:=hx;have U:=c0 _ rfl;clear c0 TT hbw;have HL:Hid ((x.ren (gR f t)).shared.length=x.shared.length/\(x.ren (gR f t)).locks.length=x.locks.length/\(x.ren (gR f t)).threads.length=x.threads.length):=⟨by simp [Pg.ren],by simp [Pg.ren],by simp [Pg.ren]⟩
 have ag:Hid (∀ (w0:World) e w',W.heap.size<=w0.heap.size->RenP x f t w0 e w'->∃ D C z y A B,e=.returned (.agg #[.slice D x.shared.length C,.slice z x.locks.length y,.slice A x.threads.length B])/\TrP (x.ren (gR f t)) w0 (.agg #[.slice D x.shared.length C,.slice z x.locks.length y,.slice A x.threads.length B]) w'/\Below w0.heap.size w0 w'):=fun w0 e w' hle h=>by
  obtain ⟨D,C,z,y,A,B,h0,h1,h2,h3,h4⟩:=h;exact ⟨D,C,z,y,A,B,h0,⟨D,C,z,y,A,B,by rw [HL.out.1,HL.out.2.1,HL.out.2.2],h1,h2,h3⟩,h4⟩
 clear HL;have q:Hid (rP x=true->nameB t=true->∀ W',Below W.heap.size W W'->Calls Tryz.prog 29 #[.agg #[.slice I x.shared.length c,.slice K x.locks.length g,.slice J x.threads.length i],.string f,.string t] W' fun e w'=>∃ D C z y A B,e=.returned (.agg #[.slice D x.shared.length C,.slice z x.locks.length y,.slice A x.threads.length B])/\TrP (x.ren (gR f t)) W' (.agg #[.slice D x.shared.length C,.slice z x.locks.length y,.slice A x.threads.length B]) w'/\Below W'.heap.size W' w'):=fun hr hn W' h=>(d.out hr hn W' h).mono fun e w' h2=>ag.out W' e w' h.size h2
 clear d ag;generalize x.shared.length=n1 at *;generalize x.locks.length=n2 at *;generalize x.threads.length=n3 at *;have P:=Own.new W 26 #[.slice none 0 0,.slice none 0 0,.slice none 0 0];have B0:=(Below.refl W.heap.size W).alloc (Nat.le_refl _) (.cells #[.slice none 0 0,.slice none 0 0,.slice none 0 0] 26);have O1:=U.below B0;have O:Hid (Cr pb fb tb f t (.slice I n1 c) (.slice K n2 g) (.slice J n3 i) W (W.alloc (.cells #[.slice none 0 0,.slice none 0 0,.slice none 0 0] 26))):=cr_below ⟨cr U,cr U,cr U,c1,c2,Below.refl _ W⟩ B0;have p:=Hd B0;obtain ⟨W0,G⟩:=Qx (W.alloc (.cells #[.slice none 0 0,.slice none 0 0,.slice none 0 0] 26));rw [<- G] at P O1 O p;have N:=Hd G;have an:Hid (W0.heap.size=W.heap.size+1):=by rw [Hid,G,World.size_alloc]
 have bc:Hid (pb<W.heap.size):=U.lt;clear G c1 c2 U B0 hf hb okx;cases hr:rP x with
 | false =>
   have j:Hid (renY x f t=.inr 40):=by rw [Hid,renY,hr];rfl
   rw [j.out];rw [hr] at s;clear hr j q;go_enter Tryz.func25,Tryz.ntmps25;go_upto_region 1 with (fail)
   rw [<- N.out];go_wp2_with (refine ld rowPg rfl rfl rfl O1 rfl ?_);go_at_call 18;refine (s.out _ p.out).mono ?_;rintro e b hh;obtain ⟨rfl,hb⟩:=hh.bad rfl;exact ⟨rfl,p.out.trans (hb.mono p.out.size),rfl⟩
 | true =>
   rw [hr] at s;have d:=Hd (q.out hr);clear q;go_enter Tryz.func25,Tryz.ntmps25;go_upto_region 1 with (fail)
   rw [<- N.out];go_wp2_with (refine ld rowPg rfl rfl rfl O1 rfl ?_);go_at_call 18;refine (s.out _ p.out).mono ?_;rintro e b hh;obtain ⟨rfl,hb⟩:=hh.ok rfl;have a:=Hd (cr_below O.out hb);have ac:=P.below hb;have ae:=O1.below hb;have z2:W.heap.size+1<=b.heap.size:=by have:=hb.size;have:=an.out;omega
   have ar:=Hd z2;clear hb O P O1 s hh N p z2;go_upto_region 2 with (fail)
   have o:Hid (Below W.heap.size W b):=a.out.2.2.2.2.2;have a:Hid (Cr pb fb tb f t (.slice I n1 c) (.slice K n2 g) (.slice J n3 i) b b):=⟨a.out.1,a.out.2.1,a.out.2.2.1,a.out.2.2.2.1,a.out.2.2.2.2.1,Below.refl _ _⟩;have k:Hid (∀ X,Cr pb fb tb f t (.slice I n1 c) (.slice K n2 g) (.slice J n3 i) b X->Below W.heap.size W X):=fun X h=>o.out.trans (h.2.2.2.2.2.mono o.out.size)
   have ab:Hid (∀ X,Cr pb fb tb f t (.slice I n1 c) (.slice K n2 g) (.slice J n3 i) b X->Below b.heap.size b X):=fun X h=>h.2.2.2.2.2
   cases hn:nameB t with
   | false =>
     have j:Hid (renY x f t=.inr 2):=by rw [Hid,renY,hr,hn];rfl
     rw [hn] at m;clear hr hn d F;have aa:Hid (∀ n,Calls Tryz.prog 26 #[.string t] (b.drewN n) fun e w'=>e=.returned (.bool false)/\b.drewN n=w'):=fun n=>m.out _ (o.out.trans ((below_drewN (Below.refl _ b) n).mono o.out.size))
     have c1:=a.out.2.2.2.1;go_quiet ((go_at_call 26;first | (with_reducible exact quiet_oneR (aa.out _)) | (with_reducible exact quiet_moreR (aa.out _))))
     have HF:Hid (∀ n,Below W.heap.size W (b.drewN n)):=fun n=>o.out.trans ((below_drewN (Below.refl _ b) n).mono o.out.size)
     go_wp2_with fail;exact ⟨rfl,HF.out _,by rw [j.out];rfl⟩
   | true =>
     rw [hn] at m;cases hm:hasN x t with
     | true =>
       have j:Hid (renY x f t=.inr 2):=by rw [Hid,renY,hr,hn,hm];rfl
       have E:Hid (∀ {l:List (List UInt8)},NL (nmP x) l->decide (t.data.toList∈l)=true):=fun h=>decide_eq_true ((nl_mem h (name_nonempty hn)).2 (hasN_iff.1 hm))
       clear hr hn hm d
       go_region_held3 (fun X=>X.cell? ⟨pb,0,none⟩=some (.slice I n1 c)/\X.cell? ⟨pb,1,none⟩=some (.slice K n2 g)/\X.cell? ⟨pb,2,none⟩=some (.slice J n3 i)/\X.cell? ⟨tb,0,none⟩=some (.string t)/\X.cell? ⟨fb,0,none⟩=some (.string f)/\Below b.heap.size b X) (first | exact cr_drew a.out | exact cr_below (by assumption) (by assumption) | assumption) (first
        | (go_at_call 26;refine (m.out _ (k.out _ (by assumption))).mono ?_;rintro e w9 ⟨rfl,rfl⟩)
        | (go_at_call 28;refine (F.out _ (k.out _ (by assumption))).mono ?_;rintro e w9 ⟨la,l,lc,rfl,M,Q,al,R,hb⟩;have aq:=E.out M)
        | (go_at_call 27;refine (p_Contains R Q t).mono ?_;rintro e ak ⟨rfl,rfl⟩))
       have HF:=Hd (k.out _ (by assumption))
       go_wp2_with fail;exact ⟨rfl,HF.out,by rw [j.out];rfl⟩
     | false =>
       have j:Hid (renY x f t=.inl (x.ren (gR f t))):=by rw [Hid,renY,hr,hn,hm];rfl
       have E:Hid (∀ {l:List (List UInt8)},NL (nmP x) l->decide (t.data.toList∈l)=false):=fun h=>decide_eq_false (fun h2=>by
        have:=hasN_iff.2 ((nl_mem h (name_nonempty hn)).1 h2)
        rw [hm] at this;cases this)
       replace d:=Hd (d.out hn);clear hr hn hm
       go_region_held3 (fun X=>X.cell? ⟨pb,0,none⟩=some (.slice I n1 c)/\X.cell? ⟨pb,1,none⟩=some (.slice K n2 g)/\X.cell? ⟨pb,2,none⟩=some (.slice J n3 i)/\X.cell? ⟨tb,0,none⟩=some (.string t)/\X.cell? ⟨fb,0,none⟩=some (.string f)/\Below b.heap.size b X) (first | exact cr_drew a.out | exact cr_below (by assumption) (by assumption) | assumption) (first
        | (go_at_call 26;refine (m.out _ (k.out _ (by assumption))).mono ?_;rintro e w9 ⟨rfl,rfl⟩)
        | (go_at_call 28;refine (F.out _ (k.out _ (by assumption))).mono ?_;rintro e w9 ⟨la,l,lc,rfl,M,Q,al,R,hb⟩;have aq:=E.out M)
        | (go_at_call 27;refine (p_Contains R Q t).mono ?_;rintro e ak ⟨rfl,rfl⟩))
       have HQ:Hid (∀ X,Cr pb fb tb f t (.slice I n1 c) (.slice K n2 g) (.slice J n3 i) b X->Below W.heap.size W X/\Below b.heap.size b X/\X.cell? ⟨tb,0,none⟩=some (.string t)/\X.cell? ⟨fb,0,none⟩=some (.string f)):=fun X h=>⟨k.out X h,ab.out X h,h.2.2.2.1,h.2.2.2.2.1⟩
       obtain ⟨ad,H,a5,a4⟩:=HQ.out _ (by assumption)
       have Z:=ae.below H;have Y:=ac.below H;have T:=Hd ad;have am:=Hd H;clear ad H HQ a k ab m F E ae ac;go_wp2_with (refine ld rowPg rfl rfl rfl Z rfl ?_);go_at_call 29;refine (d.out _ T.out).mono ?_;rintro e a6 ⟨D,C,z,y,A,B,rfl,hT,S⟩;have L:=Y.below S;have HT:=Hd hT;have V:=Hd (T.out.trans (S.mono T.out.size));clear hT S Y Z;go_wp2_with (refine st rowPg rfl rfl L rfl rfl (by rfl) (by rfl) (by kernel_rfl) ?_)
       refine p_ret rowPg rfl (L.row #[.slice D n1 C,.slice z n2 y,.slice A n3 B]) rfl rfl rfl ?_;have hz:=ar.out;have a8:=am.out.size;refine ⟨Below.of_row V.out (Nat.le_refl _) _,?_⟩;rw [j.out];exact ⟨_,rfl,trP_far HT.out (chg_setRow _ _ (by omega)) (by omega)⟩
theorem res_ct {fn:Func} {T:TypeId} {i j:Tmp} (h:fn.results=#[.cell i T,.tmp j]) {tmps:Array Value} {P:Program} {w:World} {a:Addr} {x y:Value} (ha:tmps.getD i undef=.pointer (some a)) (hb:tmps.getD j undef=y) (h1:(loadVar T a).run P w=.ok x w):(results fn tmps).run P w=.ok (.tuple #[x,y]) w:=by
 have b:tmps[i]?.getD undef=.pointer (some a):=by simpa using ha
 have c:tmps[j]?.getD undef=y:=by simpa using hb
 simp [results,h,b,c,asAddr,h1,Result.andThen]
def RnZ (Y:Sum Pg Int) (w:World) (e:Ending) (w':World):Prop:=∃ s1 n1 t1 s2 n2 t2 s3 n3 t3 z,e=.returned (.tuple #[.agg #[.slice s1 n1 t1,.slice s2 n2 t2,.slice s3 n3 t3],.int .i64 z])/\Below w.heap.size w w'/\match Y with | .inl y=>z=0/\n1=y.shared.length/\n2=y.locks.length/\n3=y.threads.length/\TrP y w (.agg #[.slice s1 n1 t1,.slice s2 n2 t2,.slice s3 n3 t3]) w' | .inr n=>z=n/\n1=0/\n2=0/\n3=0
theorem rn_of {Y:Sum Pg Int} {w0:World} {v:Value} {z:Int} {w':World} (h:match Y with | .inl y=>z=0/\TrP y w0 v w' | .inr n=>z=n/\v=.agg #[.slice none 0 0,.slice none 0 0,.slice none 0 0]):∃ s1 n1 t1 s2 n2 t2 s3 n3 t3,v=.agg #[.slice s1 n1 t1,.slice s2 n2 t2,.slice s3 n3 t3]/\match Y with | .inl y=>z=0/\n1=y.shared.length/\n2=y.locks.length/\n3=y.threads.length/\TrP y w0 (.agg #[.slice s1 n1 t1,.slice s2 n2 t2,.slice s3 n3 t3]) w' | .inr n=>z=n/\n1=0/\n2=0/\n3=0:=by
 cases Y with
 | inl y =>
   obtain ⟨b,h⟩:=h;have a:=h;obtain ⟨s1,t1,s2,t2,s3,t3,rfl,_⟩:=a;exact ⟨s1,_,t1,s2,_,t2,s3,_,t3,rfl,b,rfl,rfl,rfl,h⟩
 | inr n=>exact ⟨none,0,0,none,0,0,none,0,0,h.2,h.1,rfl,rfl,rfl⟩
theorem p_RenameA (x:Pg) (okx:PrOk x) (hf:fitP x) (hb:ctP x<=1048576) (f t:ByteArray) {v:Value} {w:World} (hx:pA w x v) (TT:WTb w):Calls Tryz.prog 8 #[v,.string f,.string t] w (RnZ (renY x f t) w):=by
 have d:∀ W r,v=.agg r->B4 w f t r #[.slice none 0 0,.slice none 0 0,.slice none 0 0] W->Calls Tryz.prog 24 #[.func (.func 25) #[] #[.pointer (some ⟨w.heap.size,0,none⟩),.pointer (some ⟨w.heap.size+2,0,none⟩),.pointer (some ⟨w.heap.size+1,0,none⟩)]] W (AtP2 (renY x f t) W):=fun W r e hB =>
  p_att_ren fun W' hW=>p_Rename1 x okx hf hb f t hx TT (hB.bel.trans (hW.mono hB.bel.size)) (fun r' e'=>by
   have L:r'=r:=by rw [e] at e';injection e' with e';exact e'.symm
   rw [L];exact hB.own0.below hW) (by rw [cell_of_row _ _ 0 _ _ _ (hB.own2.below hW)];rfl) (by rw [cell_of_row _ _ 0 _ _ _ (hB.own1.below hW)];rfl)
 obtain ⟨o,p,l,m,k,j,rfl,_⟩:=hx;generalize x.shared.length=n1 at *;generalize x.locks.length=n2 at *;generalize x.threads.length=n3 at *;have q:Hid (∀ W,B4 w f t #[.slice o n1 p,.slice l n2 m,.slice k n3 j] #[.slice none 0 0,.slice none 0 0,.slice none 0 0] W->Calls Tryz.prog 24 #[.func (.func 25) #[] #[.pointer (some ⟨w.heap.size,0,none⟩),.pointer (some ⟨w.heap.size+2,0,none⟩),.pointer (some ⟨w.heap.size+1,0,none⟩)]] W (AtP2 (renY x f t) W)):=fun W h=>d W _ rfl h
 have b:=Hd (b4_new w f t #[.slice o n1 p,.slice l n2 m,.slice k n3 j] #[.slice none 0 0,.slice none 0 0,.slice none 0 0]);obtain ⟨M,a⟩:=Qx ((((w.alloc (.cells #[.slice o n1 p,.slice l n2 m,.slice k n3 j] 26)).alloc (.cells #[.string f] 9)).alloc (.cells #[.string t] 9)).alloc (.cells #[.slice none 0 0,.slice none 0 0,.slice none 0 0] 26));rw [<- a] at b;have g:=Hd a;have N:∀ (fn:Fn) (first cap:Array Value) (w:World),(Instr.makeFunc fn first cap).run Tryz.prog w=.ok (.func fn first cap) w:=fun _ _ _ _=>rfl
 clear a hf hb okx TT d;generalize renY x f t=Y at *;go_enter Tryz.func8,Tryz.ntmps8;go_upto_region 1 with (fail)
 rw [show w.heap.size+1+1=w.heap.size+2 from rfl,show w.heap.size+1+1+1=w.heap.size+3 from rfl,<- g.out]
 clear g;go_wp2_with fail;go_at_call 24;refine (q.out _ b.out).mono ?_;rintro e P ⟨hb,v,z,rfl,i⟩;obtain ⟨I,E,A,F,C,D,G,H,s,rfl,i⟩:=rn_of i;have B:=b.out.own3.below hb;have K:=Hd (b.out.bel.trans (hb.mono b.out.bel.size));have J:Hid (w.heap.size+3<M.heap.size):=b.out.own3.lt;have O:=Hd i;clear hb i b;go_wp2_with (refine st rowPg rfl rfl B rfl rfl (by rfl) (by rfl) (by kernel_rfl) ?_)
 refine bodyPost_ret (res_ct rfl rfl rfl (lv_row rowPg (B.row #[.slice I E A,.slice F C D,.slice G H s]) rfl)) rfl ?_;refine ⟨I,E,A,F,C,D,G,H,s,z,rfl,Below.of_row K.out (by omega) _,?_⟩
 have c:=O.out;have Q:=J.out;cases Y with
 | inl y=>exact ⟨c.1,c.2.1,c.2.2.1,c.2.2.2.1,trP_far c.2.2.2.2 (chg_setRow _ _ (by omega)) (by omega)⟩
 | inr n=>exact c
end Go.Proofs.YtbgfkdiihnidaaaGreatDoor

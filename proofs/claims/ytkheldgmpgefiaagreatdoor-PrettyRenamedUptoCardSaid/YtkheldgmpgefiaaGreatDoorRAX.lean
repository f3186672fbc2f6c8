/- The proof, part 24: texts that belong together, in one. -/
import Derived.Test.YtkheldgmpgefiaaGreatDoorRAB
set_option maxRecDepth 100000
set_option maxHeartbeats 20000000
namespace Go.Proofs.YtkheldgmpgefiaaGreatDoor
open Go.RowKit
set_option linter.unusedVariables false
structure Vz where
 pl:Addr
 nm:List Addr
def kAd (w:World) (g o:Nat):Nat × Nat:=match w.cell? ⟨g,o,none⟩ with
 | some (.slice (some ⟨h,q,_⟩) _ _)=>(h,q)
 | _=>(0,0)
theorem kAd_of {w:World} {g o h q n c:Nat} (hc:w.cell? ⟨g,o,none⟩=some (.slice (some ⟨h,q,none⟩) n c)):kAd w g o=(h,q):=by simp [kAd,hc]
mutual
def vE (w:World):Ex→Nat→Nat→List Vz
 | .mk k _ _ _ ks _,g,o=>⟨⟨g,o+5,none⟩,if k=2 then [⟨g,o+3,none⟩] else []⟩::vEs w ks (kAd w g (o+4)).1 (kAd w g (o+4)).2
def vEs (w:World):List Ex→Nat→Nat→List Vz
 | [],_,_=>[]
 | e::r,g,o=>vE w e g o++vEs w r g (o+6)
end
mutual
def vS (w:World):St→Nat→Nat→List Vz
 | .mk _ _ _ e b l _,g,o=>⟨⟨g,o+6,none⟩,[⟨g,o+1,none⟩,⟨g,o+2,none⟩]⟩::(vEs w e (kAd w g (o+3)).1 (kAd w g (o+3)).2++(vSs w b (kAd w g (o+4)).1 (kAd w g (o+4)).2++vSs w l (kAd w g (o+5)).1 (kAd w g (o+5)).2))
def vSs (w:World):List St→Nat→Nat→List Vz
 | [],_,_=>[]
 | e::r,g,o=>vS w e g o++vSs w r g (o+7)
end
def vD (w:World):Dc→Nat→Nat→List Vz
 | _,g,o=>[⟨⟨g,o+2,none⟩,[⟨g,o,none⟩]⟩]
def vDs (w:World):List Dc→Nat→Nat→List Vz
 | [],_,_=>[]
 | e::r,g,o=>vD w e g o++vDs w r g (o+3)
def vT (w:World):Th→Nat→Nat→List Vz
 | t,g,o=>⟨⟨g,o+3,none⟩,[⟨g,o,none⟩]⟩::(vDs w t.locals (kAd w g (o+1)).1 (kAd w g (o+1)).2++vSs w t.body (kAd w g (o+2)).1 (kAd w g (o+2)).2)
def vTs (w:World):List Th→Nat→Nat→List Vz
 | [],_,_=>[]
 | e::r,g,o=>vT w e g o++vTs w r g (o+4)
def vEsA (w:World) (l:List Ex) (a:Option Addr):List Vz:=match a with
 | some ⟨g,q,_⟩=>vEs w l g q
 | none=>[]
theorem vEsA_nil (w:World) (a:Option Addr):vEsA w [] a=[]:=by cases a <;> rfl
theorem vEs_app (w:World):∀ (a b:List Ex) (g o:Nat),vEs w (a++b) g o=vEs w a g o++vEs w b g (o+a.length*6)
 | [],b,g,o=>by simp [vEs]
 | x :: r, b, g, o => by
   rw [List.cons_append,vEs,vEs,vEs_app w r b g (o+6),List.append_assoc,List.length_cons,show o+6+r.length*6=o+(r.length+1)*6 by omega]
theorem vEs_take (w:World) (l:List Ex) (i g o:Nat) (x:Ex) (h:l[i]? = some x):vEs w (l.take (i+1)) g o=vEs w (l.take i) g o++vE w x g (o+i*6):=by
 have hl:=(List.getElem?_eq_some_iff.1 h).1
 have hx:=(List.getElem?_eq_some_iff.1 h).2
 rw [List.take_succ_eq_append_getElem hl,vEs_app,List.length_take,Nat.min_eq_left (by omega),hx]
 simp [vEs]
theorem kE_of {R:Nat→Prop} {w:World} {l:List Ex} {g o n c:Nat} {a:Option Addr} (hc:w.cell? ⟨g,o,none⟩=some (.slice a n c)) (h:exsAt R w l a):vEs w l (kAd w g o).1 (kAd w g o).2=vEsA w l a:=by
 rcases h with h | ⟨g',q,rfl,_⟩
 · obtain rfl : l = [] := by simpa using h
   rw [vEsA_nil];rfl
 · rw [kAd_of hc];rfl
def vSsA (w:World) (l:List St) (a:Option Addr):List Vz:=match a with
 | some ⟨g,q,_⟩=>vSs w l g q
 | none=>[]
theorem vSsA_nil (w:World) (a:Option Addr):vSsA w [] a=[]:=by cases a <;> rfl
theorem vSs_app (w:World):∀ (a b:List St) (g o:Nat),vSs w (a++b) g o=vSs w a g o++vSs w b g (o+a.length*7)
 | [],b,g,o=>by simp [vSs]
 | x :: r, b, g, o => by
   rw [List.cons_append,vSs,vSs,vSs_app w r b g (o+7),List.append_assoc,List.length_cons,show o+7+r.length*7=o+(r.length+1)*7 by omega]
theorem vSs_take (w:World) (l:List St) (i g o:Nat) (x:St) (h:l[i]? = some x):vSs w (l.take (i+1)) g o=vSs w (l.take i) g o++vS w x g (o+i*7):=by
 have hl:=(List.getElem?_eq_some_iff.1 h).1
 have hx:=(List.getElem?_eq_some_iff.1 h).2
 rw [List.take_succ_eq_append_getElem hl,vSs_app,List.length_take,Nat.min_eq_left (by omega),hx]
 simp [vSs]
theorem kS_of {R:Nat→Prop} {w:World} {l:List St} {g o n c:Nat} {a:Option Addr} (hc:w.cell? ⟨g,o,none⟩=some (.slice a n c)) (h:stsAt R w l a):vSs w l (kAd w g o).1 (kAd w g o).2=vSsA w l a:=by
 rcases h with h | ⟨g',q,rfl,_⟩
 · obtain rfl : l = [] := by simpa using h
   rw [vSsA_nil];rfl
 · rw [kAd_of hc];rfl
def vDsA (w:World) (l:List Dc) (a:Option Addr):List Vz:=match a with
 | some ⟨g,q,_⟩=>vDs w l g q
 | none=>[]
theorem vDsA_nil (w:World) (a:Option Addr):vDsA w [] a=[]:=by cases a <;> rfl
theorem vDs_app (w:World):∀ (a b:List Dc) (g o:Nat),vDs w (a++b) g o=vDs w a g o++vDs w b g (o+a.length*3)
 | [],b,g,o=>by simp [vDs]
 | x :: r, b, g, o => by
   rw [List.cons_append,vDs,vDs,vDs_app w r b g (o+3),List.append_assoc,List.length_cons,show o+3+r.length*3=o+(r.length+1)*3 by omega]
theorem vDs_take (w:World) (l:List Dc) (i g o:Nat) (x:Dc) (h:l[i]? = some x):vDs w (l.take (i+1)) g o=vDs w (l.take i) g o++vD w x g (o+i*3):=by
 have hl:=(List.getElem?_eq_some_iff.1 h).1
 have hx:=(List.getElem?_eq_some_iff.1 h).2
 rw [List.take_succ_eq_append_getElem hl,vDs_app,List.length_take,Nat.min_eq_left (by omega),hx]
 simp [vDs]
theorem kD_of {R:Nat→Prop} {w:World} {l:List Dc} {g o n c:Nat} {a:Option Addr} (hc:w.cell? ⟨g,o,none⟩=some (.slice a n c)) (h:dcsAt R w l a):vDs w l (kAd w g o).1 (kAd w g o).2=vDsA w l a:=by
 rcases h with h | ⟨g',q,rfl,_⟩
 · obtain rfl : l = [] := by simpa using h
   rw [vDsA_nil];rfl
 · rw [kAd_of hc];rfl
def vTsA (w:World) (l:List Th) (a:Option Addr):List Vz:=match a with
 | some ⟨g,q,_⟩=>vTs w l g q
 | none=>[]
theorem vTsA_nil (w:World) (a:Option Addr):vTsA w [] a=[]:=by cases a <;> rfl
theorem vTs_app (w:World):∀ (a b:List Th) (g o:Nat),vTs w (a++b) g o=vTs w a g o++vTs w b g (o+a.length*4)
 | [],b,g,o=>by simp [vTs]
 | x :: r, b, g, o => by
   rw [List.cons_append,vTs,vTs,vTs_app w r b g (o+4),List.append_assoc,List.length_cons,show o+4+r.length*4=o+(r.length+1)*4 by omega]
theorem vTs_take (w:World) (l:List Th) (i g o:Nat) (x:Th) (h:l[i]? = some x):vTs w (l.take (i+1)) g o=vTs w (l.take i) g o++vT w x g (o+i*4):=by
 have hl:=(List.getElem?_eq_some_iff.1 h).1
 have hx:=(List.getElem?_eq_some_iff.1 h).2
 rw [List.take_succ_eq_append_getElem hl,vTs_app,List.length_take,Nat.min_eq_left (by omega),hx]
 simp [vTs]
def preN (u:Value):Prop:=(∃ n,u=.int .u8 n)∨∃ s,u=.string s
def isPl (w:World) (g o:Nat):Prop:=∃ q u,o=q+1∧w.cell? ⟨g,q,none⟩=some u∧¬ preN u
structure Vok (R:Nat→Prop) (w:World) (v:Vz):Prop where
 reg:R v.pl.block
 pl:∃ n,w.cell? v.pl=some (.int .i64 n)
 spot:v.pl.spot=none
 is:isPl w v.pl.block v.pl.off
 nm:∀ a∈v.nm,R a.block∧a.spot=none∧∃ s,w.cell? a=some (.string s)
def NmS (w0 W:World) (l:List Addr) (s:Value):Prop:=(l=[]∧s=.slice none 0 0)∨∃ b,s=.slice (some ⟨b,0,none⟩) l.length l.length∧w0.heap.size≤b∧b<W.heap.size∧∀ i x,l[i]? = some x→W.cell? ⟨b,i,none⟩=some (.pointer (some x))
def Sk (w0 W:World):Prop:=w0.heap.size≤W.heap.size∧∀ g o v,w0.cell? ⟨g,o,none⟩=some v→(∃ k,v=.int .u8 k)∨(∃ a l c,v=.slice a l c)→W.cell? ⟨g,o,none⟩=some v
theorem Sk.u8 {w0 W:World} (h:Sk w0 W) {g o:Nat} {k:Int} (hc:w0.cell? ⟨g,o,none⟩=some (.int .u8 k)):W.cell? ⟨g,o,none⟩=some (.int .u8 k):=h.2 _ _ _ hc (.inl ⟨_,rfl⟩)
theorem Sk.sl {w0 W:World} (h:Sk w0 W) {g o l c:Nat} {a:Option Addr} (hc:w0.cell? ⟨g,o,none⟩=some (.slice a l c)):W.cell? ⟨g,o,none⟩=some (.slice a l c):=h.2 _ _ _ hc (.inr ⟨_,_,_,rfl⟩)
theorem sl_pre {a:Option Addr} {l c:Nat} : ¬ preN (.slice a l c):=fun h=>by rcases h with ⟨_,h⟩ | ⟨_,h⟩ <;> cases h
theorem wd_pre {n:Int} : ¬ preN (.int .i64 n):=fun h=>by rcases h with ⟨_,h⟩ | ⟨_,h⟩ <;> cases h
theorem vok_ex {R:Nat→Prop} {w:World} {k ps:Int} {nm:ByteArray} {g q kl kc:Nat} {ka:Option Addr} (hg:R g) (c3:w.cell? ⟨g,q+3,none⟩=some (.string nm)) (c4:w.cell? ⟨g,q+4,none⟩=some (.slice ka kl kc)) (c5:w.cell? ⟨g,q+5,none⟩=some (.int .i64 ps)):Vok R w ⟨⟨g,q+5,none⟩,if k=2 then [⟨g,q+3,none⟩] else []⟩ :=
 ⟨hg,⟨_,c5⟩,rfl,⟨q+4,_,rfl,c4,sl_pre⟩,fun a ha=>by
  split at ha
  · obtain rfl : a = ⟨g, q + 3, none⟩ := by simpa using ha
    exact ⟨hg,rfl,_,c3⟩
  · cases ha⟩
theorem vok_st {R:Nat→Prop} {w:World} {ps:Int} {n1 n2:ByteArray} {g q kl kc:Nat} {ka:Option Addr} (hg:R g) (c1:w.cell? ⟨g,q+1,none⟩=some (.string n1)) (c2:w.cell? ⟨g,q+2,none⟩=some (.string n2)) (c5:w.cell? ⟨g,q+5,none⟩=some (.slice ka kl kc)) (c6:w.cell? ⟨g,q+6,none⟩=some (.int .i64 ps)):Vok R w ⟨⟨g,q+6,none⟩,[⟨g,q+1,none⟩,⟨g,q+2,none⟩]⟩ :=
 ⟨hg,⟨_,c6⟩,rfl,⟨q+5,_,rfl,c5,sl_pre⟩,fun a ha=>by
  simp only [List.mem_cons,List.not_mem_nil,or_false] at ha
  rcases ha with rfl | rfl
  · exact ⟨hg,rfl,_,c1⟩
  · exact ⟨hg,rfl,_,c2⟩⟩
theorem vok_dc {R:Nat→Prop} {w:World} {wd ps:Int} {nm:ByteArray} {g q:Nat} (hg:R g) (c0:w.cell? ⟨g,q,none⟩=some (.string nm)) (c1:w.cell? ⟨g,q+1,none⟩=some (.int .i64 wd)) (c2:w.cell? ⟨g,q+2,none⟩=some (.int .i64 ps)):Vok R w ⟨⟨g,q+2,none⟩,[⟨g,q,none⟩]⟩ :=
 ⟨hg,⟨_,c2⟩,rfl,⟨q+1,_,rfl,c1,wd_pre⟩,fun a ha=>by
  obtain rfl:a=⟨g,q,none⟩:=by simpa using ha
  exact ⟨hg,rfl,_,c0⟩⟩
theorem vok_th {R:Nat→Prop} {w:World} {ps:Int} {nm:ByteArray} {g q kl kc:Nat} {ka:Option Addr} (hg:R g) (c0:w.cell? ⟨g,q,none⟩=some (.string nm)) (c2:w.cell? ⟨g,q+2,none⟩=some (.slice ka kl kc)) (c3:w.cell? ⟨g,q+3,none⟩=some (.int .i64 ps)):Vok R w ⟨⟨g,q+3,none⟩,[⟨g,q,none⟩]⟩ :=
 ⟨hg,⟨_,c3⟩,rfl,⟨q+2,_,rfl,c2,sl_pre⟩,fun a ha=>by
  obtain rfl:a=⟨g,q,none⟩:=by simpa using ha
  exact ⟨hg,rfl,_,c0⟩⟩
theorem nms_one {w0 W:World} {x:Addr} {T:TypeId} (h:w0.heap.size≤W.heap.size):NmS w0 (W.alloc (.cells #[.pointer (some x)] T)) [x] (.slice (some ⟨W.heap.size,0,none⟩) 1 1) :=
 .inr ⟨W.heap.size,rfl,h,by simp,fun i y hy=>by
  cases i with
  | zero => obtain rfl : x = y := by simpa using hy
            rw [cell_of_row _ _ 0 _ _ _ (Own.new W T #[.pointer (some x)])];rfl
  | succ i=>simp at hy⟩
theorem nms_two {w0 W:World} {x y:Addr} {T:TypeId} (h:w0.heap.size≤W.heap.size):NmS w0 (W.alloc (.cells #[.pointer (some x),.pointer (some y)] T)) [x,y] (.slice (some ⟨W.heap.size,0,none⟩) 2 2) :=
 .inr ⟨W.heap.size,rfl,h,by simp,fun i z hz=>by
  match i,hz with
  | 0, hz => obtain rfl : x = z := by simpa using hz
             rw [cell_of_row _ _ 0 _ _ _ (Own.new W T #[.pointer (some x),.pointer (some y)])];rfl
  | 1, hz => obtain rfl : y = z := by simpa using hz
             rw [cell_of_row _ _ 1 _ _ _ (Own.new W T #[.pointer (some x),.pointer (some y)])];rfl
  | i+2,hz=>simp at hz⟩
theorem nms_none {w0 W:World} : NmS w0 W [] (.slice none 0 0):=.inl ⟨rfl,rfl⟩
open Go.RowKit
set_option linter.unusedVariables false
theorem vEsA_split (w:World) (l:List Ex) (k:Nat) (a:Option Addr):∃ r,vEsA w l a=vEsA w (l.take k) a++r:=by
 cases a with
 | none=>exact ⟨[],rfl⟩
 | some p =>
   obtain ⟨g,q,s⟩:=p
   refine ⟨vEs w (l.drop k) g (q+(l.take k).length*6),?_⟩
   show vEs w l g q=vEs w (l.take k) g q++_
   conv=>lhs;rw [← List.take_append_drop k l,vEs_app]
theorem vSsA_split (w:World) (l:List St) (k:Nat) (a:Option Addr):∃ r,vSsA w l a=vSsA w (l.take k) a++r:=by
 cases a with
 | none=>exact ⟨[],rfl⟩
 | some p =>
   obtain ⟨g,q,s⟩:=p
   refine ⟨vSs w (l.drop k) g (q+(l.take k).length*7),?_⟩
   show vSs w l g q=vSs w (l.take k) g q++_
   conv=>lhs;rw [← List.take_append_drop k l,vSs_app]
theorem vDsA_split (w:World) (l:List Dc) (k:Nat) (a:Option Addr):∃ r,vDsA w l a=vDsA w (l.take k) a++r:=by
 cases a with
 | none=>exact ⟨[],rfl⟩
 | some p =>
   obtain ⟨g,q,s⟩:=p
   refine ⟨vDs w (l.drop k) g (q+(l.take k).length*3),?_⟩
   show vDs w l g q=vDs w (l.take k) g q++_
   conv=>lhs;rw [← List.take_append_drop k l,vDs_app]
theorem vTsA_split (w:World) (l:List Th) (k:Nat) (a:Option Addr):∃ r,vTsA w l a=vTsA w (l.take k) a++r:=by
 cases a with
 | none=>exact ⟨[],rfl⟩
 | some p =>
   obtain ⟨g,q,s⟩:=p
   refine ⟨vTs w (l.drop k) g (q+(l.take k).length*4),?_⟩
   show vTs w l g q=vTs w (l.take k) g q++_
   conv=>lhs;rw [← List.take_append_drop k l,vTs_app]
end Go.Proofs.YtkheldgmpgefiaaGreatDoor

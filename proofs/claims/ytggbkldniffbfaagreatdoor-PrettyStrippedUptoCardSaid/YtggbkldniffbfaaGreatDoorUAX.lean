/- The proof, part 24: texts that belong together, in one. -/
import Derived.Test.YtggbkldniffbfaaGreatDoorUAB
import Derived.Test.YtggbkldniffbfaaGreatDoorUAA
import Derived.Test.YtggbkldniffbfaaGreatDoorUAC
import Derived.Deep.RegionWith
import Derived.Deep.CutBlock
import Derived.Test.YtggbkldniffbfaaGreatDoorUAO
set_option maxRecDepth 100000
set_option maxHeartbeats 20000000
namespace Go.Proofs.YtggbkldniffbfaaGreatDoor
open Go.RowKit
set_option linter.unusedVariables false
structure Vz where
 pl:Addr
 nm:List Addr
def kAd (w:World) (g o:Nat):Nat × Nat:=match w.cell? ⟨g,o,none⟩ with
 | some (.slice (some ⟨h,q,_⟩) _ _)=>(h,q)
 | _=>(0,0)
theorem kAd_of {w:World} {g o h q n c:Nat} (hc:w.cell? ⟨g,o,none⟩=some (.slice (some ⟨h,q,none⟩) n c)):kAd w g o=(h,q):=by simp [kAd,hc]
mutual
def vE (w:World):Ex→Nat→Nat→List Vz
 | .mk k _ _ _ ks _,g,o=>⟨⟨g,o+5,none⟩,if k=2 then [⟨g,o+3,none⟩] else []⟩::vEs w ks (kAd w g (o+4)).1 (kAd w g (o+4)).2
def vEs (w:World):List Ex→Nat→Nat→List Vz
 | [],_,_=>[]
 | e::r,g,o=>vE w e g o++vEs w r g (o+6)
end
mutual
def vS (w:World):St→Nat→Nat→List Vz
 | .mk _ _ _ e b l _,g,o=>⟨⟨g,o+6,none⟩,[⟨g,o+1,none⟩,⟨g,o+2,none⟩]⟩::(vEs w e (kAd w g (o+3)).1 (kAd w g (o+3)).2++(vSs w b (kAd w g (o+4)).1 (kAd w g (o+4)).2++vSs w l (kAd w g (o+5)).1 (kAd w g (o+5)).2))
def vSs (w:World):List St→Nat→Nat→List Vz
 | [],_,_=>[]
 | e::r,g,o=>vS w e g o++vSs w r g (o+7)
end
def vD (w:World):Dc→Nat→Nat→List Vz
 | _,g,o=>[⟨⟨g,o+2,none⟩,[⟨g,o,none⟩]⟩]
def vDs (w:World):List Dc→Nat→Nat→List Vz
 | [],_,_=>[]
 | e::r,g,o=>vD w e g o++vDs w r g (o+3)
def vT (w:World):Th→Nat→Nat→List Vz
 | t,g,o=>⟨⟨g,o+3,none⟩,[⟨g,o,none⟩]⟩::(vDs w t.locals (kAd w g (o+1)).1 (kAd w g (o+1)).2++vSs w t.body (kAd w g (o+2)).1 (kAd w g (o+2)).2)
def vTs (w:World):List Th→Nat→Nat→List Vz
 | [],_,_=>[]
 | e::r,g,o=>vT w e g o++vTs w r g (o+4)
def vEsA (w:World) (l:List Ex) (a:Option Addr):List Vz:=match a with
 | some ⟨g,q,_⟩=>vEs w l g q
 | none=>[]
theorem vEsA_nil (w:World) (a:Option Addr):vEsA w [] a=[]:=by cases a <;> rfl
theorem vEs_app (w:World):∀ (a b:List Ex) (g o:Nat),vEs w (a++b) g o=vEs w a g o++vEs w b g (o+a.length*6)
 | [],b,g,o=>by simp [vEs]
 | x :: r, b, g, o => by
   rw [List.cons_append,vEs,vEs,vEs_app w r b g (o+6),List.append_assoc,List.length_cons,show o+6+r.length*6=o+(r.length+1)*6 by omega]
theorem vEs_take (w:World) (l:List Ex) (i g o:Nat) (x:Ex) (h:l[i]? = some x):vEs w (l.take (i+1)) g o=vEs w (l.take i) g o++vE w x g (o+i*6):=by
 have hl:=(List.getElem?_eq_some_iff.1 h).1
 have hx:=(List.getElem?_eq_some_iff.1 h).2
 rw [List.take_succ_eq_append_getElem hl,vEs_app,List.length_take,Nat.min_eq_left (by omega),hx]
 simp [vEs]
theorem kE_of {R:Nat→Prop} {w:World} {l:List Ex} {g o n c:Nat} {a:Option Addr} (hc:w.cell? ⟨g,o,none⟩=some (.slice a n c)) (h:exsAt R w l a):vEs w l (kAd w g o).1 (kAd w g o).2=vEsA w l a:=by
 rcases h with h | ⟨g',q,rfl,_⟩
 · obtain rfl : l = [] := by simpa using h
   rw [vEsA_nil];rfl
 · rw [kAd_of hc];rfl
def vSsA (w:World) (l:List St) (a:Option Addr):List Vz:=match a with
 | some ⟨g,q,_⟩=>vSs w l g q
 | none=>[]
theorem vSsA_nil (w:World) (a:Option Addr):vSsA w [] a=[]:=by cases a <;> rfl
theorem vSs_app (w:World):∀ (a b:List St) (g o:Nat),vSs w (a++b) g o=vSs w a g o++vSs w b g (o+a.length*7)
 | [],b,g,o=>by simp [vSs]
 | x :: r, b, g, o => by
   rw [List.cons_append,vSs,vSs,vSs_app w r b g (o+7),List.append_assoc,List.length_cons,show o+7+r.length*7=o+(r.length+1)*7 by omega]
theorem vSs_take (w:World) (l:List St) (i g o:Nat) (x:St) (h:l[i]? = some x):vSs w (l.take (i+1)) g o=vSs w (l.take i) g o++vS w x g (o+i*7):=by
 have hl:=(List.getElem?_eq_some_iff.1 h).1
 have hx:=(List.getElem?_eq_some_iff.1 h).2
 rw [List.take_succ_eq_append_getElem hl,vSs_app,List.length_take,Nat.min_eq_left (by omega),hx]
 simp [vSs]
theorem kS_of {R:Nat→Prop} {w:World} {l:List St} {g o n c:Nat} {a:Option Addr} (hc:w.cell? ⟨g,o,none⟩=some (.slice a n c)) (h:stsAt R w l a):vSs w l (kAd w g o).1 (kAd w g o).2=vSsA w l a:=by
 rcases h with h | ⟨g',q,rfl,_⟩
 · obtain rfl : l = [] := by simpa using h
   rw [vSsA_nil];rfl
 · rw [kAd_of hc];rfl
def vDsA (w:World) (l:List Dc) (a:Option Addr):List Vz:=match a with
 | some ⟨g,q,_⟩=>vDs w l g q
 | none=>[]
theorem vDsA_nil (w:World) (a:Option Addr):vDsA w [] a=[]:=by cases a <;> rfl
theorem vDs_app (w:World):∀ (a b:List Dc) (g o:Nat),vDs w (a++b) g o=vDs w a g o++vDs w b g (o+a.length*3)
 | [],b,g,o=>by simp [vDs]
 | x :: r, b, g, o => by
   rw [List.cons_append,vDs,vDs,vDs_app w r b g (o+3),List.append_assoc,List.length_cons,show o+3+r.length*3=o+(r.length+1)*3 by omega]
theorem vDs_take (w:World) (l:List Dc) (i g o:Nat) (x:Dc) (h:l[i]? = some x):vDs w (l.take (i+1)) g o=vDs w (l.take i) g o++vD w x g (o+i*3):=by
 have hl:=(List.getElem?_eq_some_iff.1 h).1
 have hx:=(List.getElem?_eq_some_iff.1 h).2
 rw [List.take_succ_eq_append_getElem hl,vDs_app,List.length_take,Nat.min_eq_left (by omega),hx]
 simp [vDs]
theorem kD_of {R:Nat→Prop} {w:World} {l:List Dc} {g o n c:Nat} {a:Option Addr} (hc:w.cell? ⟨g,o,none⟩=some (.slice a n c)) (h:dcsAt R w l a):vDs w l (kAd w g o).1 (kAd w g o).2=vDsA w l a:=by
 rcases h with h | ⟨g',q,rfl,_⟩
 · obtain rfl : l = [] := by simpa using h
   rw [vDsA_nil];rfl
 · rw [kAd_of hc];rfl
def vTsA (w:World) (l:List Th) (a:Option Addr):List Vz:=match a with
 | some ⟨g,q,_⟩=>vTs w l g q
 | none=>[]
theorem vTsA_nil (w:World) (a:Option Addr):vTsA w [] a=[]:=by cases a <;> rfl
theorem vTs_app (w:World):∀ (a b:List Th) (g o:Nat),vTs w (a++b) g o=vTs w a g o++vTs w b g (o+a.length*4)
 | [],b,g,o=>by simp [vTs]
 | x :: r, b, g, o => by
   rw [List.cons_append,vTs,vTs,vTs_app w r b g (o+4),List.append_assoc,List.length_cons,show o+4+r.length*4=o+(r.length+1)*4 by omega]
theorem vTs_take (w:World) (l:List Th) (i g o:Nat) (x:Th) (h:l[i]? = some x):vTs w (l.take (i+1)) g o=vTs w (l.take i) g o++vT w x g (o+i*4):=by
 have hl:=(List.getElem?_eq_some_iff.1 h).1
 have hx:=(List.getElem?_eq_some_iff.1 h).2
 rw [List.take_succ_eq_append_getElem hl,vTs_app,List.length_take,Nat.min_eq_left (by omega),hx]
 simp [vTs]
def preN (u:Value):Prop:=(∃ n,u=.int .u8 n)∨∃ s,u=.string s
def isPl (w:World) (g o:Nat):Prop:=∃ q u,o=q+1∧w.cell? ⟨g,q,none⟩=some u∧¬ preN u
structure Vok (R:Nat→Prop) (w:World) (v:Vz):Prop where
 reg:R v.pl.block
 pl:∃ n,w.cell? v.pl=some (.int .i64 n)
 spot:v.pl.spot=none
 is:isPl w v.pl.block v.pl.off
 nm:∀ a∈v.nm,R a.block∧a.spot=none∧∃ s,w.cell? a=some (.string s)
def NmS (w0 W:World) (l:List Addr) (s:Value):Prop:=(l=[]∧s=.slice none 0 0)∨∃ b,s=.slice (some ⟨b,0,none⟩) l.length l.length∧w0.heap.size≤b∧b<W.heap.size∧∀ i x,l[i]? = some x→W.cell? ⟨b,i,none⟩=some (.pointer (some x))
def Sk (w0 W:World):Prop:=w0.heap.size≤W.heap.size∧∀ g o v,w0.cell? ⟨g,o,none⟩=some v→(∃ k,v=.int .u8 k)∨(∃ a l c,v=.slice a l c)→W.cell? ⟨g,o,none⟩=some v
theorem Sk.u8 {w0 W:World} (h:Sk w0 W) {g o:Nat} {k:Int} (hc:w0.cell? ⟨g,o,none⟩=some (.int .u8 k)):W.cell? ⟨g,o,none⟩=some (.int .u8 k):=h.2 _ _ _ hc (.inl ⟨_,rfl⟩)
theorem Sk.sl {w0 W:World} (h:Sk w0 W) {g o l c:Nat} {a:Option Addr} (hc:w0.cell? ⟨g,o,none⟩=some (.slice a l c)):W.cell? ⟨g,o,none⟩=some (.slice a l c):=h.2 _ _ _ hc (.inr ⟨_,_,_,rfl⟩)
theorem sl_pre {a:Option Addr} {l c:Nat} : ¬ preN (.slice a l c):=fun h=>by rcases h with ⟨_,h⟩ | ⟨_,h⟩ <;> cases h
theorem wd_pre {n:Int} : ¬ preN (.int .i64 n):=fun h=>by rcases h with ⟨_,h⟩ | ⟨_,h⟩ <;> cases h
theorem vok_ex {R:Nat→Prop} {w:World} {k ps:Int} {nm:ByteArray} {g q kl kc:Nat} {ka:Option Addr} (hg:R g) (c3:w.cell? ⟨g,q+3,none⟩=some (.string nm)) (c4:w.cell? ⟨g,q+4,none⟩=some (.slice ka kl kc)) (c5:w.cell? ⟨g,q+5,none⟩=some (.int .i64 ps)):Vok R w ⟨⟨g,q+5,none⟩,if k=2 then [⟨g,q+3,none⟩] else []⟩ :=
 ⟨hg,⟨_,c5⟩,rfl,⟨q+4,_,rfl,c4,sl_pre⟩,fun a ha=>by
  split at ha
  · obtain rfl : a = ⟨g, q + 3, none⟩ := by simpa using ha
    exact ⟨hg,rfl,_,c3⟩
  · cases ha⟩
theorem vok_st {R:Nat→Prop} {w:World} {ps:Int} {n1 n2:ByteArray} {g q kl kc:Nat} {ka:Option Addr} (hg:R g) (c1:w.cell? ⟨g,q+1,none⟩=some (.string n1)) (c2:w.cell? ⟨g,q+2,none⟩=some (.string n2)) (c5:w.cell? ⟨g,q+5,none⟩=some (.slice ka kl kc)) (c6:w.cell? ⟨g,q+6,none⟩=some (.int .i64 ps)):Vok R w ⟨⟨g,q+6,none⟩,[⟨g,q+1,none⟩,⟨g,q+2,none⟩]⟩ :=
 ⟨hg,⟨_,c6⟩,rfl,⟨q+5,_,rfl,c5,sl_pre⟩,fun a ha=>by
  simp only [List.mem_cons,List.not_mem_nil,or_false] at ha
  rcases ha with rfl | rfl
  · exact ⟨hg,rfl,_,c1⟩
  · exact ⟨hg,rfl,_,c2⟩⟩
theorem vok_dc {R:Nat→Prop} {w:World} {wd ps:Int} {nm:ByteArray} {g q:Nat} (hg:R g) (c0:w.cell? ⟨g,q,none⟩=some (.string nm)) (c1:w.cell? ⟨g,q+1,none⟩=some (.int .i64 wd)) (c2:w.cell? ⟨g,q+2,none⟩=some (.int .i64 ps)):Vok R w ⟨⟨g,q+2,none⟩,[⟨g,q,none⟩]⟩ :=
 ⟨hg,⟨_,c2⟩,rfl,⟨q+1,_,rfl,c1,wd_pre⟩,fun a ha=>by
  obtain rfl:a=⟨g,q,none⟩:=by simpa using ha
  exact ⟨hg,rfl,_,c0⟩⟩
theorem vok_th {R:Nat→Prop} {w:World} {ps:Int} {nm:ByteArray} {g q kl kc:Nat} {ka:Option Addr} (hg:R g) (c0:w.cell? ⟨g,q,none⟩=some (.string nm)) (c2:w.cell? ⟨g,q+2,none⟩=some (.slice ka kl kc)) (c3:w.cell? ⟨g,q+3,none⟩=some (.int .i64 ps)):Vok R w ⟨⟨g,q+3,none⟩,[⟨g,q,none⟩]⟩ :=
 ⟨hg,⟨_,c3⟩,rfl,⟨q+2,_,rfl,c2,sl_pre⟩,fun a ha=>by
  obtain rfl:a=⟨g,q,none⟩:=by simpa using ha
  exact ⟨hg,rfl,_,c0⟩⟩
theorem nms_one {w0 W:World} {x:Addr} {T:TypeId} (h:w0.heap.size≤W.heap.size):NmS w0 (W.alloc (.cells #[.pointer (some x)] T)) [x] (.slice (some ⟨W.heap.size,0,none⟩) 1 1) :=
 .inr ⟨W.heap.size,rfl,h,by simp,fun i y hy=>by
  cases i with
  | zero => obtain rfl : x = y := by simpa using hy
            rw [cell_of_row _ _ 0 _ _ _ (Own.new W T #[.pointer (some x)])];rfl
  | succ i=>simp at hy⟩
theorem nms_two {w0 W:World} {x y:Addr} {T:TypeId} (h:w0.heap.size≤W.heap.size):NmS w0 (W.alloc (.cells #[.pointer (some x),.pointer (some y)] T)) [x,y] (.slice (some ⟨W.heap.size,0,none⟩) 2 2) :=
 .inr ⟨W.heap.size,rfl,h,by simp,fun i z hz=>by
  match i,hz with
  | 0, hz => obtain rfl : x = z := by simpa using hz
             rw [cell_of_row _ _ 0 _ _ _ (Own.new W T #[.pointer (some x),.pointer (some y)])];rfl
  | 1, hz => obtain rfl : y = z := by simpa using hz
             rw [cell_of_row _ _ 1 _ _ _ (Own.new W T #[.pointer (some x),.pointer (some y)])];rfl
  | i+2,hz=>simp at hz⟩
theorem nms_none {w0 W:World} : NmS w0 W [] (.slice none 0 0):=.inl ⟨rfl,rfl⟩
open Go.RowKit
set_option linter.unusedVariables false
structure Vp (R:Nat→Prop) (w0:World) (P:List Vz→World→Prop):Prop where
 keep:∀ {V:List Vz} {W W':World},P V W→Below W.heap.size W W'→P V W'
 sk:∀ {V:List Vz} {W:World},P V W→Sk w0 W
 step:∀ {V:List Vz} {v:Vz} {W:World} {s:Value},P V W→Vok R w0 v→NmS w0 W v.nm s→Calls Tryz.prog 37 #[.pointer (some v.pl),s] W fun e W'=>e=.returned (.tuple #[])∧P (V++[v]) W'∧∀ b,w0.heap.size≤b→b<W.heap.size→W'.heap[b]? = W.heap[b]?
theorem p_eachDecl {R:Nat→Prop} {w0:World} {P:List Vz→World→Prop} (H:Vp R w0 P) {l:List Dc} (hl:l.length≤9223372036854775807) {a:Option Addr} {c:Nat} {V:List Vz} {w:World} (h1:dcsAt R w0 l a) (h2:P V w) :
 Calls Tryz.prog 70 #[.slice a l.length c,.func (.func 37) #[] #[]] w fun e w'=>e=.returned (.tuple #[])∧P (V++vDsA w0 l a) w':=by
 have H:=Lib.hid H
 have E1:=Lib.hid h1
 have HP0:=Lib.hid h2
 obtain ⟨n,hn⟩:∃ n,n=l.length:=⟨_,rfl⟩
 rw [← hn] at hl ⊢
 have HN:=Lib.hid hn
 clear h1 h2 hn
 go_enter Tryz.func70,Tryz.ntmps70
 go_wp2_with fail
 go_loopg [7] (n+1) (fun m' u W=>∃ i:Nat,u=.int .i64 (i:Int)∧i≤n∧m'=n-i+1∧P (V++vDsA w0 (l.take i) a) W)
 case atStart=>exact ⟨0,rfl,Nat.zero_le _,by omega,by rw [List.take_zero,vDsA_nil,List.append_nil];exact HP0.out⟩
 case round =>
  obtain ⟨i,rfl,hi,hm,hP⟩:=hrel
  have HM:=Lib.hid hm
  have HP:=Lib.hid hP
  clear hm hP HP0
  by_cases hin:i<n
  · have il : i < l.length := by have := HN.out; omega
    have g1:l[i]? = some l[i]:=List.getElem?_eq_getElem il
    have hmem:l[i]∈l:=List.getElem_mem il
    generalize l[i]=x at g1 hmem
    rcases E1.out with e | ⟨g,q,e,hg,e1⟩
    · cases l with
      | nil=>simp at il
      | cons=>cases e
    obtain rfl:a=some ⟨g,q,none⟩:=e
    have x1:=dcsIn_get i x e1 g1
    have HV:Hid (vDsA w0 (l.take (i+1)) (some ⟨g,q,none⟩)=vDsA w0 (l.take i) (some ⟨g,q,none⟩)++vD w0 x g (q+i*3)):=vDs_take w0 l i g q x g1
    have hin':(i:Int)<(n:Int):=by omega
    have hSk:=H.out.sk HP.out
    have HSZ:=Lib.hid hSk.1
    obtain ⟨a0,a1,a2⟩:=x1
    have HS:Hid (∀ W,Below wr.heap.size wr W→Calls Tryz.prog 37 #[.pointer (some ⟨g,q+i*3+2,none⟩),.slice (some ⟨W.heap.size,0,none⟩) 1 1] (W.alloc (.cells #[.pointer (some ⟨g,q+i*3,none⟩)] 128)) fun e' w'=>e'=.returned (.tuple #[])∧P (V++vDsA w0 (l.take (i+1)) (some ⟨g,q,none⟩)) w'):=fun W hW=>by
     rw [HV.out,← List.append_assoc]
     exact (H.out.step (v:=⟨⟨g,q+i*3+2,none⟩,[⟨g,q+i*3,none⟩]⟩) (H.out.keep HP.out (hW.alloc hW.size _)) (vok_dc hg a0 a1 a2) (nms_one (Nat.le_trans HSZ.out hW.size))).mono fun _ _ h=>⟨h.1,h.2.1⟩
    clear g1 e1 il a0 a1 a2 hmem hSk HV hg HP
    go_wp2_with fail
    go_region_with (go_at_call 37;refine (HS.out _ (below_drewN (Below.refl _ _) _)).mono ?_;rintro e w3 ⟨rfl,hP⟩)
    have HP:=Lib.hid hP
    clear hP HS
    go_wp2_with fail
    go_roundg (n-(i+1)+1)
    case measure=>have:=HM.out;omega
    case rel=>exact ⟨i+1,rfl,by omega,by omega,HP.out⟩
  · have : i = n := by omega
    subst this
    have HPZ:Hid (P (V++vDsA w0 l a) wr):=by
     have:=HP.out
     rwa [List.take_of_length_le (by have:=HN.out;omega)] at this
    clear HP
    go_wp2_with fail
    exact bodyPost_end (results_none rfl _ _ _) rfl ⟨rfl,HPZ.out⟩
def VisE (R : Nat → Prop) (w0 : World) (P : List Vz → World → Prop) (l : List Ex) : Prop := okEs l → l.length ≤ 9223372036854775807 → ∀ (a : Option Addr) (c : Nat) (V : List Vz) (w : World), exsAt R w0 l a → P V w →
    Calls Tryz.prog 111 #[.slice a l.length c,.func (.func 37) #[] #[]] w fun e w'=>e=.returned (.tuple #[])∧P (V++vEsA w0 l a) w'
theorem vis_exs {R:Nat→Prop} {w0:World} {P:List Vz→World→Prop} (H:Vp R w0 P) {l:List Ex} (HI:∀ x∈l,VisE R w0 P x.kids):VisE R w0 P l:=by
 intro HO hl a c V w h1 h2
 have HI:=Lib.hid HI
 have HO:=Lib.hid HO
 have H:=Lib.hid H
 have E1:=Lib.hid h1
 have HP0:=Lib.hid h2
 obtain ⟨n,hn⟩:∃ n,n=l.length:=⟨_,rfl⟩
 rw [← hn] at hl ⊢
 have HN:=Lib.hid hn
 clear h1 h2 hn
 go_enter Tryz.func111,Tryz.ntmps111
 go_wp2_with fail
 go_loopg [8] (n+1) (fun m' u W=>∃ i:Nat,u=.int .i64 (i:Int)∧i≤n∧m'=n-i+1∧P (V++vEsA w0 (l.take i) a) W)
 case atStart=>exact ⟨0,rfl,Nat.zero_le _,by omega,by rw [List.take_zero,vEsA_nil,List.append_nil];exact HP0.out⟩
 case round =>
  obtain ⟨i,rfl,hi,hm,hP⟩:=hrel
  have HM:=Lib.hid hm
  have HP:=Lib.hid hP
  clear hm hP HP0
  by_cases hin:i<n
  · have il : i < l.length := by have := HN.out; omega
    have g1:l[i]? = some l[i]:=List.getElem?_eq_getElem il
    have hmem:l[i]∈l:=List.getElem_mem il
    generalize l[i]=x at g1 hmem
    rcases E1.out with e | ⟨g,q,e,hg,e1⟩
    · cases l with
      | nil=>simp at il
      | cons=>cases e
    obtain rfl:a=some ⟨g,q,none⟩:=e
    have x1:=exsIn_get i x e1 g1
    have HV:Hid (vEsA w0 (l.take (i+1)) (some ⟨g,q,none⟩)=vEsA w0 (l.take i) (some ⟨g,q,none⟩)++vE w0 x g (q+i*6)):=vEs_take w0 l i g q x g1
    have hin':(i:Int)<(n:Int):=by omega
    have hSk:=H.out.sk HP.out
    have HSZ:=Lib.hid hSk.1
    have hok:=okEs_mem HO.out x hmem
    have HX:=Lib.hid (HI.out x hmem)
    obtain ⟨k,o,wd,nm,ks,ps⟩:=x
    obtain ⟨a0,a1,a2,a3,⟨ka,kc,a4,w4⟩,a5⟩:=x1
    obtain ⟨o1,o2⟩:=hok
    by_cases hk:k=2
    · have HS : Hid (∀ W, Below wr.heap.size wr W → Calls Tryz.prog 37 #[.pointer (some ⟨g, q + i * 6 + 5, none⟩), .slice (some ⟨W.heap.size, 0, none⟩) 1 1] (W.alloc (.cells #[.pointer (some ⟨g, q + i * 6 + 3, none⟩)] 128)) fun e' w' => e' = .returned (.tuple #[]) ∧ P (V ++ vEsA w0 (l.take i) (some ⟨g, q, none⟩) ++ [⟨⟨g, q + i * 6 + 5, none⟩, [⟨g, q + i * 6 + 3, none⟩]⟩]) w') := fun W hW => by
       have hv:=vok_ex (k:=k) hg a3 a4 a5
       rw [if_pos hk] at hv
       exact (H.out.step (v:=⟨⟨g,q+i*6+5,none⟩,[⟨g,q+i*6+3,none⟩]⟩) (H.out.keep HP.out (hW.alloc hW.size _)) hv (nms_one (Nat.le_trans HSZ.out hW.size))).mono fun _ _ h=>⟨h.1,h.2.1⟩
      have HC:Hid (∀ W,P (V++vEsA w0 (l.take i) (some ⟨g,q,none⟩)++[⟨⟨g,q+i*6+5,none⟩,[⟨g,q+i*6+3,none⟩]⟩]) W→Calls Tryz.prog 111 #[.slice ka ks.length kc,.func (.func 37) #[] #[]] W fun e' w'=>e'=.returned (.tuple #[])∧P (V++vEsA w0 (l.take (i+1)) (some ⟨g,q,none⟩)) w'):=fun W hW=>by
       have this:Calls Tryz.prog 111 #[.slice ka ks.length kc,.func (.func 37) #[] #[]] W fun e' w'=>e'=.returned (.tuple #[])∧P (V++vEsA w0 (l.take i) (some ⟨g,q,none⟩)++[⟨⟨g,q+i*6+5,none⟩,[⟨g,q+i*6+3,none⟩]⟩]++vEsA w0 ks ka) w':=HX.out o2 o1 ka kc _ W w4 hW
       rw [HV.out,vE,if_pos hk,kE_of a4 w4,← List.append_assoc]
       simpa only [List.append_assoc,List.cons_append,List.nil_append] using this
      have HK:Hid (∀ W,P (V++vEsA w0 (l.take i) (some ⟨g,q,none⟩)++[⟨⟨g,q+i*6+5,none⟩,[⟨g,q+i*6+3,none⟩]⟩]) W→W.cell? ⟨g,q+i*6+4,none⟩=some (.slice ka ks.length kc)):=fun W hW=>(H.out.sk hW).sl a4
      have b0:wr.cell? ⟨g,q+i*6,none⟩=some (.int .u8 2):=by rw [← hk];exact hSk.u8 a0
      clear g1 e1 il a0 a1 a2 a3 a4 a5 hmem hSk HV hg HX w4 o1 o2 hk
      generalize ks.length=nk at *
      go_wp2_with fail
      go_region_with (go_at_call 37;refine (HS.out _ (below_drewN (Below.refl _ _) _)).mono ?_;rintro e w3 ⟨rfl,hP⟩)
      have HP:=Lib.hid hP
      have b4:=HK.out _ hP
      clear hP HS b0
      go_wp2_with fail
      go_at_call 111
      refine (HC.out _ HP.out).mono ?_
      rintro e w4 ⟨rfl,hP⟩
      have HP:=Lib.hid hP
      clear hP HC b4 HK
      go_wp2_with fail
      go_roundg (n-(i+1)+1)
      case measure=>have:=HM.out;omega
      case rel=>exact ⟨i+1,rfl,by omega,by omega,HP.out⟩
    · have HS : Hid (∀ W, Below wr.heap.size wr W → Calls Tryz.prog 37 #[.pointer (some ⟨g, q + i * 6 + 5, none⟩), .slice none 0 0] W fun e' w' => e' = .returned (.tuple #[]) ∧ P (V ++ vEsA w0 (l.take i) (some ⟨g, q, none⟩) ++ [⟨⟨g, q + i * 6 + 5, none⟩, []⟩]) w') := fun W hW => by
       have hv:=vok_ex (k:=k) hg a3 a4 a5
       rw [if_neg hk] at hv
       exact (H.out.step (v:=⟨⟨g,q+i*6+5,none⟩,[]⟩) (H.out.keep HP.out hW) hv nms_none).mono fun _ _ h=>⟨h.1,h.2.1⟩
      have HC:Hid (∀ W,P (V++vEsA w0 (l.take i) (some ⟨g,q,none⟩)++[⟨⟨g,q+i*6+5,none⟩,[]⟩]) W→Calls Tryz.prog 111 #[.slice ka ks.length kc,.func (.func 37) #[] #[]] W fun e' w'=>e'=.returned (.tuple #[])∧P (V++vEsA w0 (l.take (i+1)) (some ⟨g,q,none⟩)) w'):=fun W hW=>by
       have this:Calls Tryz.prog 111 #[.slice ka ks.length kc,.func (.func 37) #[] #[]] W fun e' w'=>e'=.returned (.tuple #[])∧P (V++vEsA w0 (l.take i) (some ⟨g,q,none⟩)++[⟨⟨g,q+i*6+5,none⟩,[]⟩]++vEsA w0 ks ka) w':=HX.out o2 o1 ka kc _ W w4 hW
       rw [HV.out,vE,if_neg hk,kE_of a4 w4,← List.append_assoc]
       simpa only [List.append_assoc,List.cons_append,List.nil_append] using this
      have HK:Hid (∀ W,P (V++vEsA w0 (l.take i) (some ⟨g,q,none⟩)++[⟨⟨g,q+i*6+5,none⟩,[]⟩]) W→W.cell? ⟨g,q+i*6+4,none⟩=some (.slice ka ks.length kc)):=fun W hW=>(H.out.sk hW).sl a4
      have b0:wr.cell? ⟨g,q+i*6,none⟩=some (.int .u8 k):=hSk.u8 a0
      clear g1 e1 il a0 a1 a2 a3 a4 a5 hmem hSk HV hg HX w4 o1 o2
      generalize ks.length=nk at *
      go_wp2_with fail
      go_at_call 37
      refine (HS.out _ (Below.refl _ _)).mono ?_
      rintro e w3 ⟨rfl,hP⟩
      have HP:=Lib.hid hP
      have b4:=HK.out _ hP
      clear hP HS b0
      go_wp2_with fail
      go_at_call 111
      refine (HC.out _ HP.out).mono ?_
      rintro e w4 ⟨rfl,hP⟩
      have HP:=Lib.hid hP
      clear hP HC b4 HK
      go_wp2_with fail
      go_roundg (n-(i+1)+1)
      case measure=>have:=HM.out;omega
      case rel=>exact ⟨i+1,rfl,by omega,by omega,HP.out⟩
  · have : i = n := by omega
    subst this
    have HPZ:Hid (P (V++vEsA w0 l a) wr):=by
     have:=HP.out
     rwa [List.take_of_length_le (by have:=HN.out;omega)] at this
    clear HP
    go_wp2_with fail
    exact bodyPost_end (results_none rfl _ _ _) rfl ⟨rfl,HPZ.out⟩
theorem vis_kids {R:Nat→Prop} {w0:World} {P:List Vz→World→Prop} (H:Vp R w0 P):∀ e:Ex,VisE R w0 P e.kids:=by
 intro e
 induction e using Ex.ind with
 | h k o w n ks a h=>exact vis_exs H h
theorem p_eachExpr {R:Nat→Prop} {w0:World} {P:List Vz→World→Prop} (H:Vp R w0 P) (l:List Ex):VisE R w0 P l:=vis_exs H fun x _=>vis_kids H x
def VisS (R : Nat → Prop) (w0 : World) (P : List Vz → World → Prop) (l : List St) : Prop := okSs l → l.length ≤ 9223372036854775807 → ∀ (a : Option Addr) (c : Nat) (V : List Vz) (w : World), stsAt R w0 l a → P V w →
    Calls Tryz.prog 71 #[.slice a l.length c,.func (.func 37) #[] #[]] w fun e w'=>e=.returned (.tuple #[])∧P (V++vSsA w0 l a) w'
theorem vis_sts {R:Nat→Prop} {w0:World} {P:List Vz→World→Prop} (H:Vp R w0 P) {l:List St} (HI:∀ x∈l,VisS R w0 P x.body∧VisS R w0 P x.els):VisS R w0 P l:=by
 intro HO hl a c V w h1 h2
 have HI:=Lib.hid HI
 have HO:=Lib.hid HO
 have H:=Lib.hid H
 have E1:=Lib.hid h1
 have HP0:=Lib.hid h2
 obtain ⟨n,hn⟩:∃ n,n=l.length:=⟨_,rfl⟩
 rw [← hn] at hl ⊢
 have HN:=Lib.hid hn
 clear h1 h2 hn
 go_enter Tryz.func71,Tryz.ntmps71
 go_wp2_with fail
 go_loopg [8] (n+1) (fun m' u W=>∃ i:Nat,u=.int .i64 (i:Int)∧i≤n∧m'=n-i+1∧P (V++vSsA w0 (l.take i) a) W)
 case atStart=>exact ⟨0,rfl,Nat.zero_le _,by omega,by rw [List.take_zero,vSsA_nil,List.append_nil];exact HP0.out⟩
 case round =>
  obtain ⟨i,rfl,hi,hm,hP⟩:=hrel
  have HM:=Lib.hid hm
  have HP:=Lib.hid hP
  clear hm hP HP0
  by_cases hin:i<n
  · have il : i < l.length := by have := HN.out; omega
    have g1:l[i]? = some l[i]:=List.getElem?_eq_getElem il
    have hmem:l[i]∈l:=List.getElem_mem il
    generalize l[i]=x at g1 hmem
    rcases E1.out with e | ⟨g,q,e,hg,e1⟩
    · cases l with
      | nil=>simp at il
      | cons=>cases e
    obtain rfl:a=some ⟨g,q,none⟩:=e
    have x1:=stsIn_get i x e1 g1
    have HV:Hid (vSsA w0 (l.take (i+1)) (some ⟨g,q,none⟩)=vSsA w0 (l.take i) (some ⟨g,q,none⟩)++vS w0 x g (q+i*7)):=vSs_take w0 l i g q x g1
    have hin':(i:Int)<(n:Int):=by omega
    have hSk:=H.out.sk HP.out
    have HSZ:=Lib.hid hSk.1
    have hok:=okSs_mem HO.out x hmem
    have HX:=Lib.hid (HI.out x hmem)
    obtain ⟨k,nm,ot,es,bo,el,ps⟩:=x
    obtain ⟨a0,a1,a2,⟨ka3,kc3,a3,w3⟩,⟨ka4,kc4,a4,w4⟩,⟨ka5,kc5,a5,w5⟩,a6⟩:=x1
    obtain ⟨⟨o1,o2⟩,⟨o3,o4⟩,o5,o6⟩:=hok
    obtain ⟨U,hU⟩:∃ U,U=V++vSsA w0 (l.take i) (some ⟨g,q,none⟩)++[⟨⟨g,q+i*7+6,none⟩,[⟨g,q+i*7+1,none⟩,⟨g,q+i*7+2,none⟩]⟩]:=⟨_,rfl⟩
    have HS:Hid (∀ W,Below wr.heap.size wr W→Calls Tryz.prog 37 #[.pointer (some ⟨g,q+i*7+6,none⟩),.slice (some ⟨W.heap.size,0,none⟩) 2 2] (W.alloc (.cells #[.pointer (some ⟨g,q+i*7+1,none⟩),.pointer (some ⟨g,q+i*7+2,none⟩)] 128)) fun e' w'=>e'=.returned (.tuple #[])∧P U w'):=fun W hW=>by
     rw [hU]
     exact (H.out.step (v:=⟨⟨g,q+i*7+6,none⟩,[⟨g,q+i*7+1,none⟩,⟨g,q+i*7+2,none⟩]⟩) (H.out.keep HP.out (hW.alloc hW.size _)) (vok_st hg a1 a2 a5 a6) (nms_two (Nat.le_trans HSZ.out hW.size))).mono fun _ _ h=>⟨h.1,h.2.1⟩
    have H3:Hid (∀ W,P U W→W.cell? ⟨g,q+i*7+3,none⟩=some (.slice ka3 es.length kc3)∧Calls Tryz.prog 111 #[.slice ka3 es.length kc3,.func (.func 37) #[] #[]] W fun e' w'=>e'=.returned (.tuple #[])∧P (U++vEsA w0 es ka3) w'):=fun W hW=>⟨(H.out.sk hW).sl a3,p_eachExpr H.out es o2 o1 ka3 kc3 _ W w3 hW⟩
    have H4:Hid (∀ W,P (U++vEsA w0 es ka3) W→W.cell? ⟨g,q+i*7+4,none⟩=some (.slice ka4 bo.length kc4)∧Calls Tryz.prog 71 #[.slice ka4 bo.length kc4,.func (.func 37) #[] #[]] W fun e' w'=>e'=.returned (.tuple #[])∧P (U++vEsA w0 es ka3++vSsA w0 bo ka4) w'):=fun W hW=>⟨(H.out.sk hW).sl a4,HX.out.1 o4 o3 ka4 kc4 _ W w4 hW⟩
    have H5:Hid (∀ W,P (U++vEsA w0 es ka3++vSsA w0 bo ka4) W→W.cell? ⟨g,q+i*7+5,none⟩=some (.slice ka5 el.length kc5)∧Calls Tryz.prog 71 #[.slice ka5 el.length kc5,.func (.func 37) #[] #[]] W fun e' w'=>e'=.returned (.tuple #[])∧P (V++vSsA w0 (l.take (i+1)) (some ⟨g,q,none⟩)) w'):=fun W hW=>⟨(H.out.sk hW).sl a5,by
     have this:Calls Tryz.prog 71 #[.slice ka5 el.length kc5,.func (.func 37) #[] #[]] W fun e' w'=>e'=.returned (.tuple #[])∧P (U++vEsA w0 es ka3++vSsA w0 bo ka4++vSsA w0 el ka5) w':=HX.out.2 o6 o5 ka5 kc5 _ W w5 hW
     rw [HV.out,vS,kE_of a3 w3,kS_of a4 w4,kS_of a5 w5,← List.append_assoc]
     rw [hU] at this
     simpa only [List.append_assoc,List.cons_append,List.nil_append] using this⟩
    clear g1 e1 il a0 a1 a2 a3 a4 a5 a6 hmem hSk HV hg HP HX w3 w4 w5 o1 o2 o3 o4 o5 o6 hU
    generalize es.length=n3 at *
    generalize bo.length=n4 at *
    generalize el.length=n5 at *
    go_wp2_with fail
    go_region_with (go_at_call 37;refine (HS.out _ (below_drewN (Below.refl _ _) _)).mono ?_;rintro e x3 ⟨rfl,hP⟩)
    have HP:=Lib.hid hP
    have b3:=(H3.out _ hP).1
    clear hP HS
    go_wp2_with fail
    go_at_call 111
    refine ((H3.out _ HP.out).2).mono ?_
    rintro e x4 ⟨rfl,hP⟩
    have HP:=Lib.hid hP
    have b4:=(H4.out _ hP).1
    clear hP H3 b3
    go_wp2_with fail
    go_at_call 71
    refine ((H4.out _ HP.out).2).mono ?_
    rintro e x5 ⟨rfl,hP⟩
    have HP:=Lib.hid hP
    have b5:=(H5.out _ hP).1
    clear hP H4 b4
    go_wp2_with fail
    go_at_call 71
    refine ((H5.out _ HP.out).2).mono ?_
    rintro e x6 ⟨rfl,hP⟩
    have HP:=Lib.hid hP
    clear hP H5 b5
    go_wp2_with fail
    go_roundg (n-(i+1)+1)
    case measure=>have:=HM.out;omega
    case rel=>exact ⟨i+1,rfl,by omega,by omega,HP.out⟩
  · have : i = n := by omega
    subst this
    have HPZ:Hid (P (V++vSsA w0 l a) wr):=by
     have:=HP.out
     rwa [List.take_of_length_le (by have:=HN.out;omega)] at this
    clear HP
    go_wp2_with fail
    exact bodyPost_end (results_none rfl _ _ _) rfl ⟨rfl,HPZ.out⟩
theorem vis_subs {R:Nat→Prop} {w0:World} {P:List Vz→World→Prop} (H:Vp R w0 P):∀ l:List St,∀ x∈l,VisS R w0 P x.body∧VisS R w0 P x.els:=by
 intro l
 induction l using Sts.ind with
 | h0=>intro x hx;cases hx
 | h1 k n o e b l a r hb hl hr =>
   intro x hx
   rcases List.mem_cons.1 hx with rfl | hx
   · exact ⟨vis_sts H hb,vis_sts H hl⟩
   · exact hr x hx
theorem p_eachStmt {R:Nat→Prop} {w0:World} {P:List Vz→World→Prop} (H:Vp R w0 P) (l:List St):VisS R w0 P l:=vis_sts H (vis_subs H l)
theorem p_eachPart {R:Nat→Prop} {w0:World} {P:List Vz→World→Prop} (H:Vp R w0 P) {x:Pg} (hok:okP x) {a1 a2 a3:Option Addr} {c1 c2 c3:Nat} {w:World} (h1:dcsAt R w0 x.shared a1) (h2:dcsAt R w0 x.locks a2) (h3:thsAt R w0 x.threads a3) (h0:P [] w) :
 Calls Tryz.prog 36 #[.agg #[.slice a1 x.shared.length c1,.slice a2 x.locks.length c2,.slice a3 x.threads.length c3],.func (.func 37) #[] #[]] w fun e w'=>e=.returned (.tuple #[])∧P (vDsA w0 x.shared a1++vDsA w0 x.locks a2++vTsA w0 x.threads a3) w':=by
 obtain ⟨sh,lk,l⟩:=x
 obtain ⟨o1,o2,hl,o4⟩:=hok
 simp only at o1 o2 hl o4 h1 h2 h3 ⊢
 obtain ⟨ga,hga⟩:∃ ga,ga=w.heap.size:=⟨_,rfl⟩
 have hgs:w0.heap.size≤ga:=by rw [hga];exact (H.sk h0).1
 obtain ⟨P',hP'⟩:∃ P':List Vz→World→Prop,P'=fun V W=>P V W∧Own W ga 25 #[.slice a1 sh.length c1,.slice a2 lk.length c2,.slice a3 l.length c3]:=⟨_,rfl⟩
 have H':Vp R w0 P':=by
  subst hP'
  refine ⟨fun h hb=>⟨H.keep h.1 hb,h.2.below hb⟩,fun h=>H.sk h.1,fun h hv hn=>(H.step h.1 hv hn).mono fun e W' k=>⟨k.1,⟨k.2.1,(k.2.2 ga hgs h.2.lt).trans h.2⟩,k.2.2⟩⟩
 have HQ:Hid (∀ V W,P' V W→P V W):=fun V W h=>by rw [hP'] at h;exact h.1
 have HOW:Hid (∀ V W,P' V W→Own W ga 25 #[.slice a1 sh.length c1,.slice a2 lk.length c2,.slice a3 l.length c3]):=fun V W h=>by rw [hP'] at h;exact h.2
 have HP0:Hid (P' [] (w.alloc (.cells #[.slice a1 sh.length c1,.slice a2 lk.length c2,.slice a3 l.length c3] 25))):=by
  rw [Hid,hP',hga]
  exact ⟨H.keep h0 ((Below.refl _ w).alloc (Nat.le_refl _) _),Own.new w _ _⟩
 have HC0:Hid (∀ V W,P' V W→W.cell? ⟨ga,0,none⟩=some (.slice a1 sh.length c1)∧W.cell? ⟨ga,1,none⟩=some (.slice a2 lk.length c2)∧W.cell? ⟨ga,2,none⟩=some (.slice a3 l.length c3)):=fun V W h=>by
  have hO:=HOW.out V W h
  exact ⟨by rw [cell_of_row _ _ 0 _ _ _ hO];rfl,by rw [cell_of_row _ _ 1 _ _ _ hO];rfl,by rw [cell_of_row _ _ 2 _ _ _ hO];rfl⟩
 obtain ⟨V,hV⟩:∃ V,V=vDsA w0 sh a1++vDsA w0 lk a2:=⟨_,rfl⟩
 have HD1:Hid (∀ W,P' [] W→Calls Tryz.prog 70 #[.slice a1 sh.length c1,.func (.func 37) #[] #[]] W fun e' w'=>e'=.returned (.tuple #[])∧P' (vDsA w0 sh a1) w'):=fun W hW=>p_eachDecl H' o1 (V:=[]) h1 hW
 have HD2:Hid (∀ W,P' (vDsA w0 sh a1) W→Calls Tryz.prog 70 #[.slice a2 lk.length c2,.func (.func 37) #[] #[]] W fun e' w'=>e'=.returned (.tuple #[])∧P' V w'):=fun W hW=>by rw [hV];exact p_eachDecl H' o2 h2 hW
 rw [← hV]
 have H:=Lib.hid H'
 have HO:=Lib.hid o4
 have E1:=Lib.hid h3
 obtain ⟨n,hn⟩:∃ n,n=l.length:=⟨_,rfl⟩
 rw [← hn] at hl ⊢ HP0 HC0
 have HN:=Lib.hid hn
 obtain ⟨W0,hW0⟩:∃ W,W=w.alloc (.cells #[.slice a1 sh.length c1,.slice a2 lk.length c2,.slice a3 n c3] 25):=⟨_,rfl⟩
 rw [← hW0] at HP0
 have HW0:=Lib.hid hW0
 have HGA:Hid (w.heap.size=ga):=hga.symm
 clear hn h1 h2 h3 h0 o1 o2 o4 hV hW0 HOW hP' hgs hga H'
 generalize sh.length=n1 at *
 generalize lk.length=n2 at *
 go_enter Tryz.func36,Tryz.ntmps36
 go_upto_region 1 with (fail)
 rw [← HW0.out,HGA.out]
 have c0:=(HC0.out _ _ HP0.out).1
 clear HW0 HGA
 go_wp2_with fail
 go_at_call 70
 refine (HD1.out _ HP0.out).mono ?_
 rintro e x1 ⟨rfl,hP⟩
 have HP:=Lib.hid hP
 clear hP HP0 c0
 have c0:=(HC0.out _ _ HP.out).2.1
 go_wp2_with fail
 go_at_call 70
 refine (HD2.out _ HP.out).mono ?_
 rintro e x2 ⟨rfl,hP⟩
 have HP0:=Lib.hid hP
 clear hP HP c0 HD1 HD2
 have c0:=(HC0.out _ _ HP0.out).2.2
 go_wp2_with fail
 clear c0
 go_loopg [17] (n+1) (fun m' u W=>∃ i:Nat,u=.int .i64 (i:Int)∧i≤n∧m'=n-i+1∧P' (V++vTsA w0 (l.take i) a3) W)
 case atStart=>exact ⟨0,rfl,Nat.zero_le _,by omega,by rw [List.take_zero,vTsA_nil,List.append_nil];exact HP0.out⟩
 case round =>
  obtain ⟨i,rfl,hi,hm,hP⟩:=hrel
  have HM:=Lib.hid hm
  have HP:=Lib.hid hP
  clear hm hP HP0
  by_cases hin:i<n
  · have il : i < l.length := by have := HN.out; omega
    have g1:l[i]? = some l[i]:=List.getElem?_eq_getElem il
    have hmem:l[i]∈l:=List.getElem_mem il
    generalize l[i]=x at g1 hmem
    rcases E1.out with e | ⟨g,q,e,hg,e1⟩
    · cases l with
      | nil=>simp at il
      | cons=>cases e
    obtain rfl:a3=some ⟨g,q,none⟩:=e
    have x1:=thsIn_get i x e1 g1
    have HV:Hid (vTsA w0 (l.take (i+1)) (some ⟨g,q,none⟩)=vTsA w0 (l.take i) (some ⟨g,q,none⟩)++vT w0 x g (q+i*4)):=vTs_take w0 l i g q x g1
    have hin':(i:Int)<(n:Int):=by omega
    have hSk:=H.out.sk HP.out
    have HSZ:=Lib.hid hSk.1
    have hok:=HO.out x hmem
    obtain ⟨nm,lo,bo,ps⟩:=x
    obtain ⟨b0,⟨ka1,kc1,b1,w1⟩,⟨ka2,kc2,b2,w2⟩,b3⟩:=x1
    obtain ⟨o1,o3,o4⟩:=hok
    simp only at b0 b1 w1 b2 w2 b3 o1 o3 o4
    obtain ⟨U,hU⟩:∃ U,U=V++vTsA w0 (l.take i) (some ⟨g,q,none⟩)++[⟨⟨g,q+i*4+3,none⟩,[⟨g,q+i*4,none⟩]⟩]:=⟨_,rfl⟩
    have HS:Hid (∀ W,Below wr.heap.size wr W→Calls Tryz.prog 37 #[.pointer (some ⟨g,q+i*4+3,none⟩),.slice (some ⟨W.heap.size,0,none⟩) 1 1] (W.alloc (.cells #[.pointer (some ⟨g,q+i*4,none⟩)] 128)) fun e' w'=>e'=.returned (.tuple #[])∧P' U w'):=fun W hW=>by
     rw [hU]
     exact (H.out.step (v:=⟨⟨g,q+i*4+3,none⟩,[⟨g,q+i*4,none⟩]⟩) (H.out.keep HP.out (hW.alloc hW.size _)) (vok_th hg b0 b2 b3) (nms_one (Nat.le_trans HSZ.out hW.size))).mono fun _ _ h=>⟨h.1,h.2.1⟩
    have H3:Hid (∀ W,P' U W→W.cell? ⟨g,q+i*4+1,none⟩=some (.slice ka1 lo.length kc1)∧Calls Tryz.prog 70 #[.slice ka1 lo.length kc1,.func (.func 37) #[] #[]] W fun e' w'=>e'=.returned (.tuple #[])∧P' (U++vDsA w0 lo ka1) w'):=fun W hW=>⟨(H.out.sk hW).sl b1,p_eachDecl H.out o1 w1 hW⟩
    have H4:Hid (∀ W,P' (U++vDsA w0 lo ka1) W→W.cell? ⟨g,q+i*4+2,none⟩=some (.slice ka2 bo.length kc2)∧Calls Tryz.prog 71 #[.slice ka2 bo.length kc2,.func (.func 37) #[] #[]] W fun e' w'=>e'=.returned (.tuple #[])∧P' (V++vTsA w0 (l.take (i+1)) (some ⟨g,q,none⟩)) w'):=fun W hW=>⟨(H.out.sk hW).sl b2,by
     have:=p_eachStmt H.out bo o4 o3 ka2 kc2 _ W w2 hW
     rw [HV.out,vT,kD_of b1 w1,kS_of b2 w2,← List.append_assoc]
     rw [hU] at this
     simpa only [List.append_assoc,List.cons_append,List.nil_append] using this⟩
    have c2:=(HC0.out _ _ HP.out).2.2
    clear g1 e1 il b0 b1 b2 b3 hmem hSk HV hg HP w1 w2 o1 o3 o4 hU
    generalize lo.length=n3 at *
    generalize bo.length=n4 at *
    go_wp2_with fail
    go_region_with (go_at_call 37;refine (HS.out _ (below_drewN (Below.refl _ _) _)).mono ?_;rintro e x3 ⟨rfl,hP⟩)
    have HP:=Lib.hid hP
    have b3:=(H3.out _ hP).1
    clear hP HS c2
    go_wp2_with fail
    go_at_call 70
    refine ((H3.out _ HP.out).2).mono ?_
    rintro e x4 ⟨rfl,hP⟩
    have HP:=Lib.hid hP
    have b4:=(H4.out _ hP).1
    clear hP H3 b3
    go_wp2_with fail
    go_at_call 71
    refine ((H4.out _ HP.out).2).mono ?_
    rintro e x5 ⟨rfl,hP⟩
    have HP:=Lib.hid hP
    clear hP H4 b4
    go_wp2_with fail
    go_roundg (n-(i+1)+1)
    case measure=>have:=HM.out;omega
    case rel=>exact ⟨i+1,rfl,by omega,by omega,HP.out⟩
  · have : i = n := by omega
    subst this
    have HPZ:Hid (P (V++vTsA w0 l a3) wr):=by
     have:=HQ.out _ _ HP.out
     rwa [List.take_of_length_le (by have:=HN.out;omega)] at this
    clear HP
    go_wp2_with fail
    exact bodyPost_end (results_none rfl _ _ _) rfl ⟨rfl,HPZ.out⟩
set_option linter.unusedVariables false
section
variable {fnd:Bs→Int × Bool} {L:Int}
end
theorem bare_same:∀ (e f:Ex),e.bare=f.bare→sameE e f=true:=by
 intro e
 induction e using Ex.ind with
 | h k o wd nm ks ps ih =>
   intro f hf
   obtain ⟨k',o',wd',nm',ks',ps'⟩:=f
   simp only [Ex.bare,Ex.mk.injEq] at hf
   obtain ⟨rfl,rfl,rfl,rfl,hk,_⟩:=hf
   simp only [sameE,beq_self_eq_true,Bool.true_and]
   clear ps ps'
   induction ks generalizing ks' with
   | nil =>
     cases ks' with
     | nil=>rfl
     | cons y s=>simp [exsBare] at hk
   | cons x r ihr =>
     cases ks' with
     | nil=>simp [exsBare] at hk
     | cons y s =>
       simp only [exsBare,List.cons.injEq] at hk
       simp only [sameEs,Bool.and_eq_true]
       exact ⟨ih x (.head _) y hk.1,ihr (fun z hz=>ih z (.tail _ hz)) s hk.2⟩
end Go.Proofs.YtggbkldniffbfaaGreatDoor

/- The proof, part 24: texts that belong together, in one. -/
import Derived.Test.YtkheldgmpgefiaaGreatDoorWAV
import Derived.Test.YtkheldgmpgefiaaGreatDoorWAB
import Derived.Test.YtkheldgmpgefiaaGreatDoorWAA
import Derived.Test.YtkheldgmpgefiaaGreatDoorWAC
import Derived.Deep.RegionWith
import Derived.Deep.CutBlock
import Derived.Test.YtkheldgmpgefiaaGreatDoorWAO
import Derived.Test.YtkheldgmpgefiaaGreatDoorWAQ
set_option maxRecDepth 100000
set_option maxHeartbeats 20000000
namespace Go.Proofs.YtkheldgmpgefiaaGreatDoor
open Go.RowKit
set_option linter.unusedVariables false
structure Vp (R:Nat→Prop) (w0:World) (P:List Vz→World→Prop):Prop where
 keep:∀ {V:List Vz} {W W':World},P V W→Below W.heap.size W W'→P V W'
 sk:∀ {V:List Vz} {W:World},P V W→Sk w0 W
 step:∀ {V:List Vz} {v:Vz} {W:World} {s:Value},P V W→Vok R w0 v→NmS w0 W v.nm s→Calls Tryz.prog 46 #[.pointer (some v.pl),s] W fun e W'=>e=.returned (.tuple #[])∧P (V++[v]) W'∧∀ b,w0.heap.size≤b→b<W.heap.size→W'.heap[b]? = W.heap[b]?
theorem p_eachDecl {R:Nat→Prop} {w0:World} {P:List Vz→World→Prop} (H:Vp R w0 P) {l:List Dc} (hl:l.length≤9223372036854775807) {a:Option Addr} {c:Nat} {V:List Vz} {w:World} (h1:dcsAt R w0 l a) (h2:P V w) :
 Calls Tryz.prog 66 #[.slice a l.length c,.func (.func 46) #[] #[]] w fun e w'=>e=.returned (.tuple #[])∧P (V++vDsA w0 l a) w':=by
 have H:=Lib.hid H
 have E1:=Lib.hid h1
 have HP0:=Lib.hid h2
 obtain ⟨n,hn⟩:∃ n,n=l.length:=⟨_,rfl⟩
 rw [← hn] at hl ⊢
 have HN:=Lib.hid hn
 clear h1 h2 hn
 go_enter Tryz.func66,Tryz.ntmps66
 go_wp2_with fail
 go_loopg [7] (n+1) (fun m' u W=>∃ i:Nat,u=.int .i64 (i:Int)∧i≤n∧m'=n-i+1∧P (V++vDsA w0 (l.take i) a) W)
 case atStart=>exact ⟨0,rfl,Nat.zero_le _,by omega,by rw [List.take_zero,vDsA_nil,List.append_nil];exact HP0.out⟩
 case round =>
  obtain ⟨i,rfl,hi,hm,hP⟩:=hrel
  have HM:=Lib.hid hm
  have HP:=Lib.hid hP
  clear hm hP HP0
  by_cases hin:i<n
  · have il : i < l.length := by have := HN.out; omega
    have g1:l[i]? = some l[i]:=List.getElem?_eq_getElem il
    have hmem:l[i]∈l:=List.getElem_mem il
    generalize l[i]=x at g1 hmem
    rcases E1.out with e | ⟨g,q,e,hg,e1⟩
    · cases l with
      | nil=>simp at il
      | cons=>cases e
    obtain rfl:a=some ⟨g,q,none⟩:=e
    have x1:=dcsIn_get i x e1 g1
    have HV:Hid (vDsA w0 (l.take (i+1)) (some ⟨g,q,none⟩)=vDsA w0 (l.take i) (some ⟨g,q,none⟩)++vD w0 x g (q+i*3)):=vDs_take w0 l i g q x g1
    have hin':(i:Int)<(n:Int):=by omega
    have hSk:=H.out.sk HP.out
    have HSZ:=Lib.hid hSk.1
    obtain ⟨a0,a1,a2⟩:=x1
    have HS:Hid (∀ W,Below wr.heap.size wr W→Calls Tryz.prog 46 #[.pointer (some ⟨g,q+i*3+2,none⟩),.slice (some ⟨W.heap.size,0,none⟩) 1 1] (W.alloc (.cells #[.pointer (some ⟨g,q+i*3,none⟩)] 49)) fun e' w'=>e'=.returned (.tuple #[])∧P (V++vDsA w0 (l.take (i+1)) (some ⟨g,q,none⟩)) w'):=fun W hW=>by
     rw [HV.out,← List.append_assoc]
     exact (H.out.step (v:=⟨⟨g,q+i*3+2,none⟩,[⟨g,q+i*3,none⟩]⟩) (H.out.keep HP.out (hW.alloc hW.size _)) (vok_dc hg a0 a1 a2) (nms_one (Nat.le_trans HSZ.out hW.size))).mono fun _ _ h=>⟨h.1,h.2.1⟩
    clear g1 e1 il a0 a1 a2 hmem hSk HV hg HP
    go_wp2_with fail
    go_region_with (go_at_call 46;refine (HS.out _ (below_drewN (Below.refl _ _) _)).mono ?_;rintro e w3 ⟨rfl,hP⟩)
    have HP:=Lib.hid hP
    clear hP HS
    go_wp2_with fail
    go_roundg (n-(i+1)+1)
    case measure=>have:=HM.out;omega
    case rel=>exact ⟨i+1,rfl,by omega,by omega,HP.out⟩
  · have : i = n := by omega
    subst this
    have HPZ:Hid (P (V++vDsA w0 l a) wr):=by
     have:=HP.out
     rwa [List.take_of_length_le (by have:=HN.out;omega)] at this
    clear HP
    go_wp2_with fail
    exact bodyPost_end (results_none rfl _ _ _) rfl ⟨rfl,HPZ.out⟩
def VisE (R : Nat → Prop) (w0 : World) (P : List Vz → World → Prop) (l : List Ex) : Prop := okEs l → l.length ≤ 9223372036854775807 → ∀ (a : Option Addr) (c : Nat) (V : List Vz) (w : World), exsAt R w0 l a → P V w →
    Calls Tryz.prog 90 #[.slice a l.length c,.func (.func 46) #[] #[]] w fun e w'=>e=.returned (.tuple #[])∧P (V++vEsA w0 l a) w'
theorem vis_exs {R:Nat→Prop} {w0:World} {P:List Vz→World→Prop} (H:Vp R w0 P) {l:List Ex} (HI:∀ x∈l,VisE R w0 P x.kids):VisE R w0 P l:=by
 intro HO hl a c V w h1 h2
 have HI:=Lib.hid HI
 have HO:=Lib.hid HO
 have H:=Lib.hid H
 have E1:=Lib.hid h1
 have HP0:=Lib.hid h2
 obtain ⟨n,hn⟩:∃ n,n=l.length:=⟨_,rfl⟩
 rw [← hn] at hl ⊢
 have HN:=Lib.hid hn
 clear h1 h2 hn
 go_enter Tryz.func90,Tryz.ntmps90
 go_wp2_with fail
 go_loopg [8] (n+1) (fun m' u W=>∃ i:Nat,u=.int .i64 (i:Int)∧i≤n∧m'=n-i+1∧P (V++vEsA w0 (l.take i) a) W)
 case atStart=>exact ⟨0,rfl,Nat.zero_le _,by omega,by rw [List.take_zero,vEsA_nil,List.append_nil];exact HP0.out⟩
 case round =>
  obtain ⟨i,rfl,hi,hm,hP⟩:=hrel
  have HM:=Lib.hid hm
  have HP:=Lib.hid hP
  clear hm hP HP0
  by_cases hin:i<n
  · have il : i < l.length := by have := HN.out; omega
    have g1:l[i]? = some l[i]:=List.getElem?_eq_getElem il
    have hmem:l[i]∈l:=List.getElem_mem il
    generalize l[i]=x at g1 hmem
    rcases E1.out with e | ⟨g,q,e,hg,e1⟩
    · cases l with
      | nil=>simp at il
      | cons=>cases e
    obtain rfl:a=some ⟨g,q,none⟩:=e
    have x1:=exsIn_get i x e1 g1
    have HV:Hid (vEsA w0 (l.take (i+1)) (some ⟨g,q,none⟩)=vEsA w0 (l.take i) (some ⟨g,q,none⟩)++vE w0 x g (q+i*6)):=vEs_take w0 l i g q x g1
    have hin':(i:Int)<(n:Int):=by omega
    have hSk:=H.out.sk HP.out
    have HSZ:=Lib.hid hSk.1
    have hok:=okEs_mem HO.out x hmem
    have HX:=Lib.hid (HI.out x hmem)
    obtain ⟨k,o,wd,nm,ks,ps⟩:=x
    obtain ⟨a0,a1,a2,a3,⟨ka,kc,a4,w4⟩,a5⟩:=x1
    obtain ⟨o1,o2⟩:=hok
    by_cases hk:k=2
    · have HS : Hid (∀ W, Below wr.heap.size wr W → Calls Tryz.prog 46 #[.pointer (some ⟨g, q + i * 6 + 5, none⟩), .slice (some ⟨W.heap.size, 0, none⟩) 1 1] (W.alloc (.cells #[.pointer (some ⟨g, q + i * 6 + 3, none⟩)] 49)) fun e' w' => e' = .returned (.tuple #[]) ∧ P (V ++ vEsA w0 (l.take i) (some ⟨g, q, none⟩) ++ [⟨⟨g, q + i * 6 + 5, none⟩, [⟨g, q + i * 6 + 3, none⟩]⟩]) w') := fun W hW => by
       have hv:=vok_ex (k:=k) hg a3 a4 a5
       rw [if_pos hk] at hv
       exact (H.out.step (v:=⟨⟨g,q+i*6+5,none⟩,[⟨g,q+i*6+3,none⟩]⟩) (H.out.keep HP.out (hW.alloc hW.size _)) hv (nms_one (Nat.le_trans HSZ.out hW.size))).mono fun _ _ h=>⟨h.1,h.2.1⟩
      have HC:Hid (∀ W,P (V++vEsA w0 (l.take i) (some ⟨g,q,none⟩)++[⟨⟨g,q+i*6+5,none⟩,[⟨g,q+i*6+3,none⟩]⟩]) W→Calls Tryz.prog 90 #[.slice ka ks.length kc,.func (.func 46) #[] #[]] W fun e' w'=>e'=.returned (.tuple #[])∧P (V++vEsA w0 (l.take (i+1)) (some ⟨g,q,none⟩)) w'):=fun W hW=>by
       have this:Calls Tryz.prog 90 #[.slice ka ks.length kc,.func (.func 46) #[] #[]] W fun e' w'=>e'=.returned (.tuple #[])∧P (V++vEsA w0 (l.take i) (some ⟨g,q,none⟩)++[⟨⟨g,q+i*6+5,none⟩,[⟨g,q+i*6+3,none⟩]⟩]++vEsA w0 ks ka) w':=HX.out o2 o1 ka kc _ W w4 hW
       rw [HV.out,vE,if_pos hk,kE_of a4 w4,← List.append_assoc]
       simpa only [List.append_assoc,List.cons_append,List.nil_append] using this
      have HK:Hid (∀ W,P (V++vEsA w0 (l.take i) (some ⟨g,q,none⟩)++[⟨⟨g,q+i*6+5,none⟩,[⟨g,q+i*6+3,none⟩]⟩]) W→W.cell? ⟨g,q+i*6+4,none⟩=some (.slice ka ks.length kc)):=fun W hW=>(H.out.sk hW).sl a4
      have b0:wr.cell? ⟨g,q+i*6,none⟩=some (.int .u8 2):=by rw [← hk];exact hSk.u8 a0
      clear g1 e1 il a0 a1 a2 a3 a4 a5 hmem hSk HV hg HX w4 o1 o2 hk
      generalize ks.length=nk at *
      go_wp2_with fail
      go_region_with (go_at_call 46;refine (HS.out _ (below_drewN (Below.refl _ _) _)).mono ?_;rintro e w3 ⟨rfl,hP⟩)
      have HP:=Lib.hid hP
      have b4:=HK.out _ hP
      clear hP HS b0
      go_wp2_with fail
      go_at_call 90
      refine (HC.out _ HP.out).mono ?_
      rintro e w4 ⟨rfl,hP⟩
      have HP:=Lib.hid hP
      clear hP HC b4 HK
      go_wp2_with fail
      go_roundg (n-(i+1)+1)
      case measure=>have:=HM.out;omega
      case rel=>exact ⟨i+1,rfl,by omega,by omega,HP.out⟩
    · have HS : Hid (∀ W, Below wr.heap.size wr W → Calls Tryz.prog 46 #[.pointer (some ⟨g, q + i * 6 + 5, none⟩), .slice none 0 0] W fun e' w' => e' = .returned (.tuple #[]) ∧ P (V ++ vEsA w0 (l.take i) (some ⟨g, q, none⟩) ++ [⟨⟨g, q + i * 6 + 5, none⟩, []⟩]) w') := fun W hW => by
       have hv:=vok_ex (k:=k) hg a3 a4 a5
       rw [if_neg hk] at hv
       exact (H.out.step (v:=⟨⟨g,q+i*6+5,none⟩,[]⟩) (H.out.keep HP.out hW) hv nms_none).mono fun _ _ h=>⟨h.1,h.2.1⟩
      have HC:Hid (∀ W,P (V++vEsA w0 (l.take i) (some ⟨g,q,none⟩)++[⟨⟨g,q+i*6+5,none⟩,[]⟩]) W→Calls Tryz.prog 90 #[.slice ka ks.length kc,.func (.func 46) #[] #[]] W fun e' w'=>e'=.returned (.tuple #[])∧P (V++vEsA w0 (l.take (i+1)) (some ⟨g,q,none⟩)) w'):=fun W hW=>by
       have this:Calls Tryz.prog 90 #[.slice ka ks.length kc,.func (.func 46) #[] #[]] W fun e' w'=>e'=.returned (.tuple #[])∧P (V++vEsA w0 (l.take i) (some ⟨g,q,none⟩)++[⟨⟨g,q+i*6+5,none⟩,[]⟩]++vEsA w0 ks ka) w':=HX.out o2 o1 ka kc _ W w4 hW
       rw [HV.out,vE,if_neg hk,kE_of a4 w4,← List.append_assoc]
       simpa only [List.append_assoc,List.cons_append,List.nil_append] using this
      have HK:Hid (∀ W,P (V++vEsA w0 (l.take i) (some ⟨g,q,none⟩)++[⟨⟨g,q+i*6+5,none⟩,[]⟩]) W→W.cell? ⟨g,q+i*6+4,none⟩=some (.slice ka ks.length kc)):=fun W hW=>(H.out.sk hW).sl a4
      have b0:wr.cell? ⟨g,q+i*6,none⟩=some (.int .u8 k):=hSk.u8 a0
      clear g1 e1 il a0 a1 a2 a3 a4 a5 hmem hSk HV hg HX w4 o1 o2
      generalize ks.length=nk at *
      go_wp2_with fail
      go_at_call 46
      refine (HS.out _ (Below.refl _ _)).mono ?_
      rintro e w3 ⟨rfl,hP⟩
      have HP:=Lib.hid hP
      have b4:=HK.out _ hP
      clear hP HS b0
      go_wp2_with fail
      go_at_call 90
      refine (HC.out _ HP.out).mono ?_
      rintro e w4 ⟨rfl,hP⟩
      have HP:=Lib.hid hP
      clear hP HC b4 HK
      go_wp2_with fail
      go_roundg (n-(i+1)+1)
      case measure=>have:=HM.out;omega
      case rel=>exact ⟨i+1,rfl,by omega,by omega,HP.out⟩
  · have : i = n := by omega
    subst this
    have HPZ:Hid (P (V++vEsA w0 l a) wr):=by
     have:=HP.out
     rwa [List.take_of_length_le (by have:=HN.out;omega)] at this
    clear HP
    go_wp2_with fail
    exact bodyPost_end (results_none rfl _ _ _) rfl ⟨rfl,HPZ.out⟩
theorem vis_kids {R:Nat→Prop} {w0:World} {P:List Vz→World→Prop} (H:Vp R w0 P):∀ e:Ex,VisE R w0 P e.kids:=by
 intro e
 induction e using Ex.ind with
 | h k o w n ks a h=>exact vis_exs H h
theorem p_eachExpr {R:Nat→Prop} {w0:World} {P:List Vz→World→Prop} (H:Vp R w0 P) (l:List Ex):VisE R w0 P l:=vis_exs H fun x _=>vis_kids H x
def VisS (R : Nat → Prop) (w0 : World) (P : List Vz → World → Prop) (l : List St) : Prop := okSs l → l.length ≤ 9223372036854775807 → ∀ (a : Option Addr) (c : Nat) (V : List Vz) (w : World), stsAt R w0 l a → P V w →
    Calls Tryz.prog 67 #[.slice a l.length c,.func (.func 46) #[] #[]] w fun e w'=>e=.returned (.tuple #[])∧P (V++vSsA w0 l a) w'
theorem vis_sts {R:Nat→Prop} {w0:World} {P:List Vz→World→Prop} (H:Vp R w0 P) {l:List St} (HI:∀ x∈l,VisS R w0 P x.body∧VisS R w0 P x.els):VisS R w0 P l:=by
 intro HO hl a c V w h1 h2
 have HI:=Lib.hid HI
 have HO:=Lib.hid HO
 have H:=Lib.hid H
 have E1:=Lib.hid h1
 have HP0:=Lib.hid h2
 obtain ⟨n,hn⟩:∃ n,n=l.length:=⟨_,rfl⟩
 rw [← hn] at hl ⊢
 have HN:=Lib.hid hn
 clear h1 h2 hn
 go_enter Tryz.func67,Tryz.ntmps67
 go_wp2_with fail
 go_loopg [8] (n+1) (fun m' u W=>∃ i:Nat,u=.int .i64 (i:Int)∧i≤n∧m'=n-i+1∧P (V++vSsA w0 (l.take i) a) W)
 case atStart=>exact ⟨0,rfl,Nat.zero_le _,by omega,by rw [List.take_zero,vSsA_nil,List.append_nil];exact HP0.out⟩
 case round =>
  obtain ⟨i,rfl,hi,hm,hP⟩:=hrel
  have HM:=Lib.hid hm
  have HP:=Lib.hid hP
  clear hm hP HP0
  by_cases hin:i<n
  · have il : i < l.length := by have := HN.out; omega
    have g1:l[i]? = some l[i]:=List.getElem?_eq_getElem il
    have hmem:l[i]∈l:=List.getElem_mem il
    generalize l[i]=x at g1 hmem
    rcases E1.out with e | ⟨g,q,e,hg,e1⟩
    · cases l with
      | nil=>simp at il
      | cons=>cases e
    obtain rfl:a=some ⟨g,q,none⟩:=e
    have x1:=stsIn_get i x e1 g1
    have HV:Hid (vSsA w0 (l.take (i+1)) (some ⟨g,q,none⟩)=vSsA w0 (l.take i) (some ⟨g,q,none⟩)++vS w0 x g (q+i*7)):=vSs_take w0 l i g q x g1
    have hin':(i:Int)<(n:Int):=by omega
    have hSk:=H.out.sk HP.out
    have HSZ:=Lib.hid hSk.1
    have hok:=okSs_mem HO.out x hmem
    have HX:=Lib.hid (HI.out x hmem)
    obtain ⟨k,nm,ot,es,bo,el,ps⟩:=x
    obtain ⟨a0,a1,a2,⟨ka3,kc3,a3,w3⟩,⟨ka4,kc4,a4,w4⟩,⟨ka5,kc5,a5,w5⟩,a6⟩:=x1
    obtain ⟨⟨o1,o2⟩,⟨o3,o4⟩,o5,o6⟩:=hok
    obtain ⟨U,hU⟩:∃ U,U=V++vSsA w0 (l.take i) (some ⟨g,q,none⟩)++[⟨⟨g,q+i*7+6,none⟩,[⟨g,q+i*7+1,none⟩,⟨g,q+i*7+2,none⟩]⟩]:=⟨_,rfl⟩
    have HS:Hid (∀ W,Below wr.heap.size wr W→Calls Tryz.prog 46 #[.pointer (some ⟨g,q+i*7+6,none⟩),.slice (some ⟨W.heap.size,0,none⟩) 2 2] (W.alloc (.cells #[.pointer (some ⟨g,q+i*7+1,none⟩),.pointer (some ⟨g,q+i*7+2,none⟩)] 49)) fun e' w'=>e'=.returned (.tuple #[])∧P U w'):=fun W hW=>by
     rw [hU]
     exact (H.out.step (v:=⟨⟨g,q+i*7+6,none⟩,[⟨g,q+i*7+1,none⟩,⟨g,q+i*7+2,none⟩]⟩) (H.out.keep HP.out (hW.alloc hW.size _)) (vok_st hg a1 a2 a5 a6) (nms_two (Nat.le_trans HSZ.out hW.size))).mono fun _ _ h=>⟨h.1,h.2.1⟩
    have H3:Hid (∀ W,P U W→W.cell? ⟨g,q+i*7+3,none⟩=some (.slice ka3 es.length kc3)∧Calls Tryz.prog 90 #[.slice ka3 es.length kc3,.func (.func 46) #[] #[]] W fun e' w'=>e'=.returned (.tuple #[])∧P (U++vEsA w0 es ka3) w'):=fun W hW=>⟨(H.out.sk hW).sl a3,p_eachExpr H.out es o2 o1 ka3 kc3 _ W w3 hW⟩
    have H4:Hid (∀ W,P (U++vEsA w0 es ka3) W→W.cell? ⟨g,q+i*7+4,none⟩=some (.slice ka4 bo.length kc4)∧Calls Tryz.prog 67 #[.slice ka4 bo.length kc4,.func (.func 46) #[] #[]] W fun e' w'=>e'=.returned (.tuple #[])∧P (U++vEsA w0 es ka3++vSsA w0 bo ka4) w'):=fun W hW=>⟨(H.out.sk hW).sl a4,HX.out.1 o4 o3 ka4 kc4 _ W w4 hW⟩
    have H5:Hid (∀ W,P (U++vEsA w0 es ka3++vSsA w0 bo ka4) W→W.cell? ⟨g,q+i*7+5,none⟩=some (.slice ka5 el.length kc5)∧Calls Tryz.prog 67 #[.slice ka5 el.length kc5,.func (.func 46) #[] #[]] W fun e' w'=>e'=.returned (.tuple #[])∧P (V++vSsA w0 (l.take (i+1)) (some ⟨g,q,none⟩)) w'):=fun W hW=>⟨(H.out.sk hW).sl a5,by
     have this:Calls Tryz.prog 67 #[.slice ka5 el.length kc5,.func (.func 46) #[] #[]] W fun e' w'=>e'=.returned (.tuple #[])∧P (U++vEsA w0 es ka3++vSsA w0 bo ka4++vSsA w0 el ka5) w':=HX.out.2 o6 o5 ka5 kc5 _ W w5 hW
     rw [HV.out,vS,kE_of a3 w3,kS_of a4 w4,kS_of a5 w5,← List.append_assoc]
     rw [hU] at this
     simpa only [List.append_assoc,List.cons_append,List.nil_append] using this⟩
    clear g1 e1 il a0 a1 a2 a3 a4 a5 a6 hmem hSk HV hg HP HX w3 w4 w5 o1 o2 o3 o4 o5 o6 hU
    generalize es.length=n3 at *
    generalize bo.length=n4 at *
    generalize el.length=n5 at *
    go_wp2_with fail
    go_region_with (go_at_call 46;refine (HS.out _ (below_drewN (Below.refl _ _) _)).mono ?_;rintro e x3 ⟨rfl,hP⟩)
    have HP:=Lib.hid hP
    have b3:=(H3.out _ hP).1
    clear hP HS
    go_wp2_with fail
    go_at_call 90
    refine ((H3.out _ HP.out).2).mono ?_
    rintro e x4 ⟨rfl,hP⟩
    have HP:=Lib.hid hP
    have b4:=(H4.out _ hP).1
    clear hP H3 b3
    go_wp2_with fail
    go_at_call 67
    refine ((H4.out _ HP.out).2).mono ?_
    rintro e x5 ⟨rfl,hP⟩
    have HP:=Lib.hid hP
    have b5:=(H5.out _ hP).1
    clear hP H4 b4
    go_wp2_with fail
    go_at_call 67
    refine ((H5.out _ HP.out).2).mono ?_
    rintro e x6 ⟨rfl,hP⟩
    have HP:=Lib.hid hP
    clear hP H5 b5
    go_wp2_with fail
    go_roundg (n-(i+1)+1)
    case measure=>have:=HM.out;omega
    case rel=>exact ⟨i+1,rfl,by omega,by omega,HP.out⟩
  · have : i = n := by omega
    subst this
    have HPZ:Hid (P (V++vSsA w0 l a) wr):=by
     have:=HP.out
     rwa [List.take_of_length_le (by have:=HN.out;omega)] at this
    clear HP
    go_wp2_with fail
    exact bodyPost_end (results_none rfl _ _ _) rfl ⟨rfl,HPZ.out⟩
theorem vis_subs {R:Nat→Prop} {w0:World} {P:List Vz→World→Prop} (H:Vp R w0 P):∀ l:List St,∀ x∈l,VisS R w0 P x.body∧VisS R w0 P x.els:=by
 intro l
 induction l using Sts.ind with
 | h0=>intro x hx;cases hx
 | h1 k n o e b l a r hb hl hr =>
   intro x hx
   rcases List.mem_cons.1 hx with rfl | hx
   · exact ⟨vis_sts H hb,vis_sts H hl⟩
   · exact hr x hx
theorem p_eachStmt {R:Nat→Prop} {w0:World} {P:List Vz→World→Prop} (H:Vp R w0 P) (l:List St):VisS R w0 P l:=vis_sts H (vis_subs H l)
theorem p_eachPart {R:Nat→Prop} {w0:World} {P:List Vz→World→Prop} (H:Vp R w0 P) {x:Pg} (hok:okP x) {a1 a2 a3:Option Addr} {c1 c2 c3:Nat} {w:World} (h1:dcsAt R w0 x.shared a1) (h2:dcsAt R w0 x.locks a2) (h3:thsAt R w0 x.threads a3) (h0:P [] w) :
 Calls Tryz.prog 26 #[.agg #[.slice a1 x.shared.length c1,.slice a2 x.locks.length c2,.slice a3 x.threads.length c3],.func (.func 46) #[] #[]] w fun e w'=>e=.returned (.tuple #[])∧P (vDsA w0 x.shared a1++vDsA w0 x.locks a2++vTsA w0 x.threads a3) w':=by
 obtain ⟨sh,lk,l⟩:=x
 obtain ⟨o1,o2,hl,o4⟩:=hok
 simp only at o1 o2 hl o4 h1 h2 h3 ⊢
 obtain ⟨ga,hga⟩:∃ ga,ga=w.heap.size:=⟨_,rfl⟩
 have hgs:w0.heap.size≤ga:=by rw [hga];exact (H.sk h0).1
 obtain ⟨P',hP'⟩:∃ P':List Vz→World→Prop,P'=fun V W=>P V W∧Own W ga 25 #[.slice a1 sh.length c1,.slice a2 lk.length c2,.slice a3 l.length c3]:=⟨_,rfl⟩
 have H':Vp R w0 P':=by
  subst hP'
  refine ⟨fun h hb=>⟨H.keep h.1 hb,h.2.below hb⟩,fun h=>H.sk h.1,fun h hv hn=>(H.step h.1 hv hn).mono fun e W' k=>⟨k.1,⟨k.2.1,(k.2.2 ga hgs h.2.lt).trans h.2⟩,k.2.2⟩⟩
 have HQ:Hid (∀ V W,P' V W→P V W):=fun V W h=>by rw [hP'] at h;exact h.1
 have HOW:Hid (∀ V W,P' V W→Own W ga 25 #[.slice a1 sh.length c1,.slice a2 lk.length c2,.slice a3 l.length c3]):=fun V W h=>by rw [hP'] at h;exact h.2
 have HP0:Hid (P' [] (w.alloc (.cells #[.slice a1 sh.length c1,.slice a2 lk.length c2,.slice a3 l.length c3] 25))):=by
  rw [Hid,hP',hga]
  exact ⟨H.keep h0 ((Below.refl _ w).alloc (Nat.le_refl _) _),Own.new w _ _⟩
 have HC0:Hid (∀ V W,P' V W→W.cell? ⟨ga,0,none⟩=some (.slice a1 sh.length c1)∧W.cell? ⟨ga,1,none⟩=some (.slice a2 lk.length c2)∧W.cell? ⟨ga,2,none⟩=some (.slice a3 l.length c3)):=fun V W h=>by
  have hO:=HOW.out V W h
  exact ⟨by rw [cell_of_row _ _ 0 _ _ _ hO];rfl,by rw [cell_of_row _ _ 1 _ _ _ hO];rfl,by rw [cell_of_row _ _ 2 _ _ _ hO];rfl⟩
 obtain ⟨V,hV⟩:∃ V,V=vDsA w0 sh a1++vDsA w0 lk a2:=⟨_,rfl⟩
 have HD1:Hid (∀ W,P' [] W→Calls Tryz.prog 66 #[.slice a1 sh.length c1,.func (.func 46) #[] #[]] W fun e' w'=>e'=.returned (.tuple #[])∧P' (vDsA w0 sh a1) w'):=fun W hW=>p_eachDecl H' o1 (V:=[]) h1 hW
 have HD2:Hid (∀ W,P' (vDsA w0 sh a1) W→Calls Tryz.prog 66 #[.slice a2 lk.length c2,.func (.func 46) #[] #[]] W fun e' w'=>e'=.returned (.tuple #[])∧P' V w'):=fun W hW=>by rw [hV];exact p_eachDecl H' o2 h2 hW
 rw [← hV]
 have H:=Lib.hid H'
 have HO:=Lib.hid o4
 have E1:=Lib.hid h3
 obtain ⟨n,hn⟩:∃ n,n=l.length:=⟨_,rfl⟩
 rw [← hn] at hl ⊢ HP0 HC0
 have HN:=Lib.hid hn
 obtain ⟨W0,hW0⟩:∃ W,W=w.alloc (.cells #[.slice a1 sh.length c1,.slice a2 lk.length c2,.slice a3 n c3] 25):=⟨_,rfl⟩
 rw [← hW0] at HP0
 have HW0:=Lib.hid hW0
 have HGA:Hid (w.heap.size=ga):=hga.symm
 clear hn h1 h2 h3 h0 o1 o2 o4 hV hW0 HOW hP' hgs hga H'
 generalize sh.length=n1 at *
 generalize lk.length=n2 at *
 go_enter Tryz.func26,Tryz.ntmps26
 go_upto_region 1 with (fail)
 rw [← HW0.out,HGA.out]
 have c0:=(HC0.out _ _ HP0.out).1
 clear HW0 HGA
 go_wp2_with fail
 go_at_call 66
 refine (HD1.out _ HP0.out).mono ?_
 rintro e x1 ⟨rfl,hP⟩
 have HP:=Lib.hid hP
 clear hP HP0 c0
 have c0:=(HC0.out _ _ HP.out).2.1
 go_wp2_with fail
 go_at_call 66
 refine (HD2.out _ HP.out).mono ?_
 rintro e x2 ⟨rfl,hP⟩
 have HP0:=Lib.hid hP
 clear hP HP c0 HD1 HD2
 have c0:=(HC0.out _ _ HP0.out).2.2
 go_wp2_with fail
 clear c0
 go_loopg [17] (n+1) (fun m' u W=>∃ i:Nat,u=.int .i64 (i:Int)∧i≤n∧m'=n-i+1∧P' (V++vTsA w0 (l.take i) a3) W)
 case atStart=>exact ⟨0,rfl,Nat.zero_le _,by omega,by rw [List.take_zero,vTsA_nil,List.append_nil];exact HP0.out⟩
 case round =>
  obtain ⟨i,rfl,hi,hm,hP⟩:=hrel
  have HM:=Lib.hid hm
  have HP:=Lib.hid hP
  clear hm hP HP0
  by_cases hin:i<n
  · have il : i < l.length := by have := HN.out; omega
    have g1:l[i]? = some l[i]:=List.getElem?_eq_getElem il
    have hmem:l[i]∈l:=List.getElem_mem il
    generalize l[i]=x at g1 hmem
    rcases E1.out with e | ⟨g,q,e,hg,e1⟩
    · cases l with
      | nil=>simp at il
      | cons=>cases e
    obtain rfl:a3=some ⟨g,q,none⟩:=e
    have x1:=thsIn_get i x e1 g1
    have HV:Hid (vTsA w0 (l.take (i+1)) (some ⟨g,q,none⟩)=vTsA w0 (l.take i) (some ⟨g,q,none⟩)++vT w0 x g (q+i*4)):=vTs_take w0 l i g q x g1
    have hin':(i:Int)<(n:Int):=by omega
    have hSk:=H.out.sk HP.out
    have HSZ:=Lib.hid hSk.1
    have hok:=HO.out x hmem
    obtain ⟨nm,lo,bo,ps⟩:=x
    obtain ⟨b0,⟨ka1,kc1,b1,w1⟩,⟨ka2,kc2,b2,w2⟩,b3⟩:=x1
    obtain ⟨o1,o3,o4⟩:=hok
    simp only at b0 b1 w1 b2 w2 b3 o1 o3 o4
    obtain ⟨U,hU⟩:∃ U,U=V++vTsA w0 (l.take i) (some ⟨g,q,none⟩)++[⟨⟨g,q+i*4+3,none⟩,[⟨g,q+i*4,none⟩]⟩]:=⟨_,rfl⟩
    have HS:Hid (∀ W,Below wr.heap.size wr W→Calls Tryz.prog 46 #[.pointer (some ⟨g,q+i*4+3,none⟩),.slice (some ⟨W.heap.size,0,none⟩) 1 1] (W.alloc (.cells #[.pointer (some ⟨g,q+i*4,none⟩)] 49)) fun e' w'=>e'=.returned (.tuple #[])∧P' U w'):=fun W hW=>by
     rw [hU]
     exact (H.out.step (v:=⟨⟨g,q+i*4+3,none⟩,[⟨g,q+i*4,none⟩]⟩) (H.out.keep HP.out (hW.alloc hW.size _)) (vok_th hg b0 b2 b3) (nms_one (Nat.le_trans HSZ.out hW.size))).mono fun _ _ h=>⟨h.1,h.2.1⟩
    have H3:Hid (∀ W,P' U W→W.cell? ⟨g,q+i*4+1,none⟩=some (.slice ka1 lo.length kc1)∧Calls Tryz.prog 66 #[.slice ka1 lo.length kc1,.func (.func 46) #[] #[]] W fun e' w'=>e'=.returned (.tuple #[])∧P' (U++vDsA w0 lo ka1) w'):=fun W hW=>⟨(H.out.sk hW).sl b1,p_eachDecl H.out o1 w1 hW⟩
    have H4:Hid (∀ W,P' (U++vDsA w0 lo ka1) W→W.cell? ⟨g,q+i*4+2,none⟩=some (.slice ka2 bo.length kc2)∧Calls Tryz.prog 67 #[.slice ka2 bo.length kc2,.func (.func 46) #[] #[]] W fun e' w'=>e'=.returned (.tuple #[])∧P' (V++vTsA w0 (l.take (i+1)) (some ⟨g,q,none⟩)) w'):=fun W hW=>⟨(H.out.sk hW).sl b2,by
     have:=p_eachStmt H.out bo o4 o3 ka2 kc2 _ W w2 hW
     rw [HV.out,vT,kD_of b1 w1,kS_of b2 w2,← List.append_assoc]
     rw [hU] at this
     simpa only [List.append_assoc,List.cons_append,List.nil_append] using this⟩
    have c2:=(HC0.out _ _ HP.out).2.2
    clear g1 e1 il b0 b1 b2 b3 hmem hSk HV hg HP w1 w2 o1 o3 o4 hU
    generalize lo.length=n3 at *
    generalize bo.length=n4 at *
    go_wp2_with fail
    go_region_with (go_at_call 46;refine (HS.out _ (below_drewN (Below.refl _ _) _)).mono ?_;rintro e x3 ⟨rfl,hP⟩)
    have HP:=Lib.hid hP
    have b3:=(H3.out _ hP).1
    clear hP HS c2
    go_wp2_with fail
    go_at_call 66
    refine ((H3.out _ HP.out).2).mono ?_
    rintro e x4 ⟨rfl,hP⟩
    have HP:=Lib.hid hP
    have b4:=(H4.out _ hP).1
    clear hP H3 b3
    go_wp2_with fail
    go_at_call 67
    refine ((H4.out _ HP.out).2).mono ?_
    rintro e x5 ⟨rfl,hP⟩
    have HP:=Lib.hid hP
    clear hP H4 b4
    go_wp2_with fail
    go_roundg (n-(i+1)+1)
    case measure=>have:=HM.out;omega
    case rel=>exact ⟨i+1,rfl,by omega,by omega,HP.out⟩
  · have : i = n := by omega
    subst this
    have HPZ:Hid (P (V++vTsA w0 l a3) wr):=by
     have:=HQ.out _ _ HP.out
     rwa [List.take_of_length_le (by have:=HN.out;omega)] at this
    clear HP
    go_wp2_with fail
    exact bodyPost_end (results_none rfl _ _ _) rfl ⟨rfl,HPZ.out⟩
open Go.RowKit
set_option linter.unusedVariables false
def Rz (B:Nat) (w0:World) (b:Nat):Prop:=B≤b∧b<w0.heap.size∧Uf w0 b
structure Zp (B:Nat) (w0:World) (V:List Vz) (W:World):Prop where
 low:B≤w0.heap.size
 below:Below B w0 W
 free:∀ b,Rz B w0 b→Uf W b
 ok:∀ z∈V,Vok (Rz B w0) w0 z
 zero:∀ z∈V,W.cell? z.pl=some (.int .i64 0)
 stay:∀ g o v,w0.cell? ⟨g,o,none⟩=some v→(∀ z∈V,z.pl≠⟨g,o,none⟩)→W.cell? ⟨g,o,none⟩=some v
 row:∀ b,b<w0.heap.size→(∀ z∈V,z.pl.block≠b)→W.heap[b]? = w0.heap[b]?
theorem zp_nil {B:Nat} {w0:World} (h:B≤w0.heap.size):Zp B w0 [] w0:=⟨h,Below.refl _ _,fun _ hb=>hb.2.2,fun z hz=>absurd hz (by simp),fun z hz=>absurd hz (by simp),fun _ _ _ h _=>h,fun _ _ _=>rfl⟩
theorem vok_lt {R:Nat→Prop} {w:World} {z:Vz} (h:Vok R w z):z.pl.block<w.heap.size:=by
 obtain ⟨n,hn⟩:=h.pl
 exact cell_lt hn
theorem zp_keep {B:Nat} {w0 W W':World} {V:List Vz} (h:Zp B w0 V W) (hb:Below W.heap.size W W'):Zp B w0 V W':=by
 have hs:=h.below.size
 refine ⟨h.low,h.below.trans (hb.mono (Nat.le_trans h.low hs)),fun b hr=>uf_below (h.free b hr) hb (Nat.lt_of_lt_of_le hr.2.1 hs),h.ok,fun z hz=>?_,fun g o v hv hn=>?_,fun b hl hn=>?_⟩
 · rw [hb.cell (p:=z.pl) (Nat.lt_of_lt_of_le (vok_lt (h.ok z hz)) hs)];exact h.zero z hz
 · rw [hb.cell (p:=⟨g,o,none⟩) (Nat.lt_of_lt_of_le (cell_lt hv) hs)];exact h.stay g o v hv hn
 · rw [hb.block b (by omega)];exact h.row b hl hn
theorem zp_sk {B:Nat} {w0 W:World} {V:List Vz} (h:Zp B w0 V W):Sk w0 W:=⟨h.below.size,fun g o v hv hk=>h.stay g o v hv fun z hz e=>by
 obtain ⟨n,hn⟩:=(h.ok z hz).pl
 rw [e,hv] at hn
 have hn:=Option.some.inj hn
 subst hn
 rcases hk with ⟨k,hk⟩ | ⟨a,l,c,hk⟩ <;> cases hk⟩
theorem zp_step {B:Nat} {w0 W:World} {V:List Vz} {v:Vz} {s:Value} (h:Zp B w0 V W) (hv:Vok (Rz B w0) w0 v):Calls Tryz.prog 46 #[.pointer (some v.pl),s] W fun e W'=>e=.returned (.tuple #[])∧Zp B w0 (V++[v]) W'∧∀ b,w0.heap.size≤b→b<W.heap.size→W'.heap[b]? = W.heap[b]?:=by
 obtain ⟨⟨g,o,sp⟩,nm⟩:=v
 obtain rfl:sp=none:=hv.spot
 obtain ⟨n,hn⟩:=hv.pl
 simp only at hn ⊢
 have hlt:g<w0.heap.size:=cell_lt hn
 have hc:∃ m,W.cell? ⟨g,o,none⟩=some (.int .i64 m):=by
  by_cases hz:∃ z∈V,z.pl=⟨g,o,none⟩
  · obtain ⟨z, hz, e⟩ := hz
    exact ⟨0,by rw [← e];exact h.zero z hz⟩
  · exact ⟨n,h.stay g o _ hn fun z hz' e=>hz ⟨z,hz',e⟩⟩
 obtain ⟨m,hm⟩:=hc
 have hf:W.frozen? ⟨g,o,none⟩=false:=h.free g hv.reg o
 have HF:Hid (Zp B w0 (V++[⟨⟨g,o,none⟩,nm⟩]) (W.setCell ⟨g,o,none⟩ (.int .i64 0))∧∀ b,w0.heap.size≤b→b<W.heap.size→(W.setCell ⟨g,o,none⟩ (.int .i64 0)).heap[b]? = W.heap[b]?):=by
  refine ⟨⟨h.low,h.below.setCell hv.reg.1 _,fun b hr=>uf_setCell (h.free b hr) _ _,fun z hz=>?_,fun z hz=>?_,fun g' o' u hu hn'=>?_,fun b hl hn'=>?_⟩,fun b hb _=>Below.heap_setCell _ _ _ _ (by show b≠g;omega)⟩
  · rcases List.mem_append.1 hz with hz | hz
    · exact h.ok z hz
    · obtain rfl : z = _ := by simpa using hz
      exact hv
  · rcases List.mem_append.1 hz with hz | hz
    · by_cases e : (⟨g, o, none⟩ : Addr) = z.pl
      · rw [← e];exact World.cell?_setCell_same _ _ _ hm
      · rw [World.cell?_setCell_other _ _ _ _ e];exact h.zero z hz
    · obtain rfl : z = _ := by simpa using hz
      exact World.cell?_setCell_same _ _ _ hm
  · have hne : (⟨g, o, none⟩ : Addr) ≠ ⟨g', o', none⟩ := hn' ⟨⟨g, o, none⟩, nm⟩ (by simp)
    rw [World.cell?_setCell_other _ _ _ _ hne]
    exact h.stay g' o' u hu fun z hz=>hn' z (by simp [hz])
  · have hne : g ≠ b := hn' ⟨⟨g, o, none⟩, nm⟩ (by simp)
    rw [Below.heap_setCell _ _ _ _ (by show b≠g;omega)]
    exact h.row b hl fun z hz=>hn' z (by simp [hz])
 clear h hv hn hlt
 go_enter Tryz.func46,Tryz.ntmps46
 go_wp2_with fail
 exact bodyPost_end (results_none rfl _ _ _) rfl ⟨rfl,HF.out⟩
theorem vp_zp (B:Nat) (w0:World):Vp (Rz B w0) w0 (Zp B w0):=⟨fun h hb=>zp_keep h hb,zp_sk,fun h hv _=>zp_step h hv⟩
theorem zp_word {B:Nat} {w0 W:World} {V:List Vz} (h:Zp B w0 V W) {g o:Nat} {u v:Value} (hu:w0.cell? ⟨g,o,none⟩=some u) (hp:preN u) (hv:w0.cell? ⟨g,o+1,none⟩=some v):W.cell? ⟨g,o+1,none⟩=some v :=
 h.stay g _ v hv fun z hz e=>by
  obtain ⟨q,u',e1,h1,h2⟩:=(h.ok z hz).is
  rw [e] at e1 h1
  simp only at e1 h1
  obtain rfl:o=q:=by omega
  rw [hu] at h1
  obtain rfl:=Option.some.inj h1
  exact h2 hp
theorem zp_other {B:Nat} {w0 W:World} {V:List Vz} (h:Zp B w0 V W) {g o:Nat} {v:Value} (hv:w0.cell? ⟨g,o,none⟩=some v) (hn:∀ n,v ≠ .int .i64 n):W.cell? ⟨g,o,none⟩=some v :=
 h.stay g _ v hv fun z hz e=>by
  obtain ⟨n,hz⟩:=(h.ok z hz).pl
  rw [e,hv] at hz
  exact hn n (Option.some.inj hz)
theorem u8_ne {k n:Int} : Value.int .u8 k ≠ .int .i64 n:=fun h=>by cases h
theorem str_ne {s:ByteArray} {n:Int} : Value.string s ≠ .int .i64 n:=fun h=>by cases h
theorem sl_ne {a:Option Addr} {l c:Nat} {n:Int} : Value.slice a l c ≠ .int .i64 n:=fun h=>by cases h
theorem exsBare_map:∀ l:List Ex,exsBare l=l.map Ex.bare
 | []=>rfl
 | x::r=>by rw [exsBare,exsBare_map r];rfl
theorem stsBare_map:∀ l:List St,stsBare l=l.map St.bare
 | []=>rfl
 | x::r=>by rw [stsBare,stsBare_map r];rfl
section
variable {B:Nat} {w0 W:World} {V:List Vz}
theorem rz_rf (h:Zp B w0 V W) {b:Nat} (hb:Rz B w0 b):Rf B W b:=⟨hb.1,h.free b hb⟩
theorem exsIn_zp (h:Zp B w0 V W):∀ (l:List Ex) (g o:Nat),exsIn (Rz B w0) w0 l g o→(∀ z∈vEs w0 l g o,z∈V)→exsIn (Rf B W) W (exsBare l) g o:=by
 intro l
 induction l using Exs.ind with
 | h0=>intro g o _ _;exact trivial
 | h1 k op wd nm ks p r ih1 ih2 =>
   intro g o hi hz
   obtain ⟨⟨c0,c1,c2,c3,⟨a,cap,c4,h4⟩,c5⟩,hr⟩:=hi
   have hk:=kE_of c4 h4
   simp only [vEs,vE] at hz
   rw [hk] at hz
   have z1:∀ z∈vEsA w0 ks a,z∈V:=fun z hm=>hz z (by simp [hm])
   refine ⟨⟨zp_other h c0 (fun _=>u8_ne),zp_other h c1 (fun _=>u8_ne),zp_word h c1 (.inl ⟨_,rfl⟩) c2,zp_other h c3 (fun _=>str_ne),⟨a,cap,by rw [exsBare_map,List.length_map];exact zp_other h c4 (fun _=>sl_ne),?_⟩,h.zero ⟨⟨g,o+5,none⟩,_⟩ (hz _ (List.mem_append_left _ List.mem_cons_self))⟩,ih2 g _ hr (fun z hm=>hz z (by simp [hm]))⟩
   rcases h4 with h4 | ⟨g',q,rfl,hg,hi⟩
   · obtain rfl : ks = [] := by simpa using h4
     exact .inl rfl
   · exact .inr ⟨g',q,rfl,rz_rf h hg,ih1 g' q hi z1⟩
theorem exsAt_zp (h:Zp B w0 V W) {l:List Ex} {a:Option Addr} (hi:exsAt (Rz B w0) w0 l a) (hz:∀ z∈vEsA w0 l a,z∈V):exsAt (Rf B W) W (exsBare l) a:=by
 rcases hi with h4 | ⟨g',q,rfl,hg,hi⟩
 · obtain rfl : l = [] := by simpa using h4
   exact .inl rfl
 · exact .inr ⟨g',q,rfl,rz_rf h hg,exsIn_zp h l g' q hi hz⟩
theorem stsIn_zp (h:Zp B w0 V W):∀ (l:List St) (g o:Nat),stsIn (Rz B w0) w0 l g o→(∀ z∈vSs w0 l g o,z∈V)→stsIn (Rf B W) W (stsBare l) g o:=by
 intro l
 induction l using Sts.ind with
 | h0=>intro g o _ _;exact trivial
 | h1 k nm ot es bo el p r ih1 ih2 ih3 =>
   intro g o hi hz
   obtain ⟨⟨c0,c1,c2,⟨a3,p3,c3,h3⟩,⟨a4,p4,c4,h4⟩,⟨a5,p5,c5,h5⟩,c6⟩,hr⟩:=hi
   simp only [vSs,vS] at hz
   rw [kE_of c3 h3,kS_of c4 h4,kS_of c5 h5] at hz
   have z3:∀ z∈vEsA w0 es a3,z∈V:=fun z hm=>hz z (by simp [hm])
   have z4:∀ z∈vSsA w0 bo a4,z∈V:=fun z hm=>hz z (by simp [hm])
   have z5:∀ z∈vSsA w0 el a5,z∈V:=fun z hm=>hz z (by simp [hm])
   have hk:∀ {ks:List St} {a:Option Addr} (ih:∀ (g o:Nat),stsIn (Rz B w0) w0 ks g o→(∀ z∈vSs w0 ks g o,z∈V)→stsIn (Rf B W) W (stsBare ks) g o) (h4:stsAt (Rz B w0) w0 ks a) (hz:∀ z∈vSsA w0 ks a,z∈V),stsAt (Rf B W) W (stsBare ks) a:=by
    intro ks a ih h4 hz
    rcases h4 with h4 | ⟨g',q,rfl,hg,hi⟩
    · obtain rfl : ks = [] := by simpa using h4
      exact .inl rfl
    · exact .inr ⟨g',q,rfl,rz_rf h hg,ih g' q hi hz⟩
   exact ⟨⟨zp_other h c0 (fun _=>u8_ne),zp_other h c1 (fun _=>str_ne),zp_other h c2 (fun _=>str_ne),⟨a3,p3,by rw [exsBare_map,List.length_map];exact zp_other h c3 (fun _=>sl_ne),exsAt_zp h h3 z3⟩,⟨a4,p4,by rw [stsBare_map,List.length_map];exact zp_other h c4 (fun _=>sl_ne),hk ih1 h4 z4⟩,⟨a5,p5,by rw [stsBare_map,List.length_map];exact zp_other h c5 (fun _=>sl_ne),hk ih2 h5 z5⟩,h.zero ⟨⟨g,o+6,none⟩,_⟩ (hz _ (List.mem_append_left _ List.mem_cons_self))⟩,ih3 g _ hr (fun z hm=>hz z (by simp [hm]))⟩
theorem stsAt_zp (h:Zp B w0 V W) {l:List St} {a:Option Addr} (hi:stsAt (Rz B w0) w0 l a) (hz:∀ z∈vSsA w0 l a,z∈V):stsAt (Rf B W) W (stsBare l) a:=by
 rcases hi with h4 | ⟨g',q,rfl,hg,hi⟩
 · obtain rfl : l = [] := by simpa using h4
   exact .inl rfl
 · exact .inr ⟨g',q,rfl,rz_rf h hg,stsIn_zp h l g' q hi hz⟩
theorem dcsIn_zp (h:Zp B w0 V W):∀ (l:List Dc) (g o:Nat),dcsIn w0 l g o→(∀ z∈vDs w0 l g o,z∈V)→dcsIn W (l.map Dc.bare) g o
 | [],_,_,_,_=>trivial
 | ⟨nm, wd, p⟩ :: r, g, o, ⟨⟨c0, c1, c2⟩, hr⟩, hz => by
   simp only [vDs,vD] at hz
   exact ⟨⟨zp_other h c0 (fun _=>str_ne),zp_word h c0 (.inr ⟨_,rfl⟩) c1,h.zero ⟨⟨g,o+2,none⟩,_⟩ (hz _ (List.mem_append_left _ List.mem_cons_self))⟩,dcsIn_zp h r g _ hr (fun z hm=>hz z (by simp [hm]))⟩
theorem dcsAt_zp (h:Zp B w0 V W) {l:List Dc} {a:Option Addr} (hi:dcsAt (Rz B w0) w0 l a) (hz:∀ z∈vDsA w0 l a,z∈V):dcsAt (Rf B W) W (l.map Dc.bare) a:=by
 rcases hi with h4 | ⟨g',q,rfl,hg,hi⟩
 · obtain rfl : l = [] := by simpa using h4
   exact .inl rfl
 · exact .inr ⟨g',q,rfl,rz_rf h hg,dcsIn_zp h l g' q hi hz⟩
theorem thsIn_zp (h:Zp B w0 V W):∀ (l:List Th) (g o:Nat),thsIn (Rz B w0) w0 l g o→(∀ z∈vTs w0 l g o,z∈V)→thsIn (Rf B W) W (l.map Th.bare) g o
 | [],_,_,_,_=>trivial
 | ⟨nm, lo, bo, p⟩ :: r, g, o, ⟨⟨c0, ⟨a1, p1, c1, h1⟩, ⟨a2, p2, c2, h2⟩, c3⟩, hr⟩, hz => by
   simp only [vTs,vT] at hz
   rw [kD_of c1 h1,kS_of c2 h2] at hz
   have z1:∀ z∈vDsA w0 lo a1,z∈V:=fun z hm=>hz z (by simp [hm])
   have z2:∀ z∈vSsA w0 bo a2,z∈V:=fun z hm=>hz z (by simp [hm])
   exact ⟨⟨zp_other h c0 (fun _=>str_ne),⟨a1,p1,by have:=zp_other h c1 (fun _=>sl_ne);simpa [Th.bare] using this,dcsAt_zp h h1 z1⟩,⟨a2,p2,by have:=zp_other h c2 (fun _=>sl_ne);simpa [Th.bare,stsBare_map] using this,stsAt_zp h h2 z2⟩,h.zero ⟨⟨g,o+3,none⟩,_⟩ (hz _ (List.mem_append_left _ List.mem_cons_self))⟩,thsIn_zp h r g _ hr (fun z hm=>hz z (by simp [hm]))⟩
theorem thsAt_zp (h:Zp B w0 V W) {l:List Th} {a:Option Addr} (hi:thsAt (Rz B w0) w0 l a) (hz:∀ z∈vTsA w0 l a,z∈V):thsAt (Rf B W) W (l.map Th.bare) a:=by
 rcases hi with h4 | ⟨g',q,rfl,hg,hi⟩
 · obtain rfl : l = [] := by simpa using h4
   exact .inl rfl
 · exact .inr ⟨g',q,rfl,rz_rf h hg,thsIn_zp h l g' q hi hz⟩
theorem own_zp (h:Zp B w0 V W) {g:Nat} {r:Array Value} {T:TypeId} (ho:Own w0 g T r) (hr:∀ (o:Nat) (n:Int),r[o]? ≠ some (Value.int .i64 n)):Own W g T r :=
 (h.row g ho.lt fun z hz e=>by
  obtain ⟨n,hn⟩:=(h.ok z hz).pl
  have hs:=(h.ok z hz).spot
  obtain ⟨⟨b,o,sp⟩,nm⟩:=z
  simp only at e hn hs
  subst e hs
  rw [cell_of_row _ _ o _ _ _ ho] at hn
  exact hr o n hn).trans ho
end
theorem rz_of {B B':Nat} {w:World} (hB:B≤B') {b:Nat} (h:Rf B' w b∧b<w.heap.size):Rz B w b:=⟨Nat.le_trans hB h.1.1,h.2,h.1.2⟩
end Go.Proofs.YtkheldgmpgefiaaGreatDoor

/- The proof, part 43: texts that belong together, in one. -/
import Derived.Test.YtmpljhfinmfnbaaGreatDoorQBP
set_option maxRecDepth 100000
set_option maxHeartbeats 20000000
namespace Go.Proofs.YtmpljhfinmfnbaaGreatDoor
open Go.RowKit
set_option linter.unusedVariables false
set_option maxRecDepth 100000
theorem eq_words (l m:List Int) (hl:l.length≤140737488351232) (hm:m.length≤140737488351232) {a b:Option Addr} {c d:Nat} {w:World} (h1:intsAt w l a) (h2:intsAt w m b):Calls Tryz.prog 28 #[.slice a l.length c,.slice b m.length d] w fun e w'=>∃ r,e=.returned (.bool r)∧(r=true↔l=m)∧Below w.heap.size w w':=by
 obtain ⟨P,hP⟩:∃ P:Prop,P↔l=m:=⟨_,Iff.rfl⟩
 simp only [← hP]
 obtain ⟨n1,hn1⟩:∃ n,n=l.length:=⟨_,rfl⟩
 obtain ⟨n2,hn2⟩:∃ n,n=m.length:=⟨_,rfl⟩
 rw [← hn1] at hl ⊢
 rw [← hn2] at hm ⊢
 have HN:=Lib.hid (And.intro hn1 hn2)
 have HP:=Lib.hid hP
 have HA:=Lib.hid h1
 have HB:=Lib.hid h2
 have HW:=Lib.hid (Below.refl w.heap.size w)
 clear hn1 hn2 hP h1 h2
 by_cases hnn:n1=n2
 rotate_left
 · have HNP : Hid (¬ P) := fun h => hnn (by rw [HN.out.1, HN.out.2, HP.out.1 h])
   have qq:((n1:Int) != (n2:Int))=true:=by simp;omega
   clear HP
   go_enter Tryz.func28,Tryz.ntmps28
   go_wp2_with fail
   go_ret
   exact ⟨false,rfl,iff_of_false (by simp) HNP.out,HW.out⟩
 subst hnn
 go_enter Tryz.func28,Tryz.ntmps28
 go_wp2_with fail
 go_loopg [13] (n1+1) (fun m' z X=>∃ t:Nat,z=.int .i64 (t:Int)∧t≤n1∧m'=n1-t+1∧l.take t=m.take t∧Below w.heap.size w X)
 case atStart=>exact ⟨0,rfl,Nat.zero_le _,by omega,by simp,HW.out⟩
 case round =>
  clear HW
  obtain ⟨t,rfl,ht,hm',htk,hx⟩:=hrel
  have HM:=Lib.hid hm'
  have HX:=Lib.hid hx
  have HTK:=Lib.hid htk
  clear hm' hx htk
  by_cases htn:t<n1
  rotate_left
  · obtain rfl : t = n1 := by omega
    have HPT:Hid P:=HP.out.2 (by
     have h:=HTK.out
     rwa [show l.take t=l by rw [HN.out.1,List.take_length],show m.take t=m by rw [HN.out.2,List.take_length]] at h)
    clear HP
    go_wp2_with fail
    go_ret
    exact ⟨true,rfl,iff_of_true rfl HPT.out,HX.out⟩
  have il:t<l.length:=by have:=HN.out.1;omega
  have il2:t<m.length:=by have:=HN.out.2;omega
  have g1:l[t]? = some l[t]:=List.getElem?_eq_getElem il
  have g2:m[t]? = some m[t]:=List.getElem?_eq_getElem il2
  generalize l[t]=x at g1
  generalize m[t]=y at g2
  rcases intsAt_below HA.out HX.out with e | ⟨g,q,rfl,e1⟩
  · subst e;simp at il
  rcases intsAt_below HB.out HX.out with e | ⟨g',q',rfl,e2⟩
  · subst e;simp at il2
  have y1:=e1 t x g1
  have y2:=e2 t y g2
  have htn':(t:Int)<(n1:Int):=by omega
  by_cases hxy:x=y
  · subst hxy
    have HTK2:=Lib.hid (take_two HTK.out g1 g2)
    clear e1 e2 g1 g2 il il2
    go_wp2_with fail
    go_quiet (fail)
    have HZ:=Lib.hid (HX.out.trans ((below_drewN (Below.refl wr.heap.size wr) nq).mono HX.out.size))
    go_wp2_with fail
    go_roundg (n1-(t+1)+1)
    case measure=>have:=HM.out;omega
    case rel=>exact ⟨t+1,by simp,by omega,by omega,HTK2.out,HZ.out⟩
  · have HNP : Hid (¬ P) := fun h => at_ne g1 g2 hxy (HP.out.1 h)
    clear e1 e2 g1 g2 il il2 HP
    have qq:(x != y)=true:=by simpa using hxy
    go_wp2_with fail
    go_quiet (fail)
    have HZ:=Lib.hid (HX.out.trans ((below_drewN (Below.refl wr.heap.size wr) nq).mono HX.out.size))
    go_wp2_with fail
    go_ret
    exact ⟨false,rfl,iff_of_false (by simp) HNP.out,HZ.out⟩
theorem eq_ins (l m:List Ins) (hl:l.length≤140737488351232) (hm:m.length≤140737488351232) {a b:Option Addr} {c d:Nat} {w:World} (h1:insAt w l a) (h2:insAt w m b):Calls Tryz.prog 70 #[.slice a l.length c,.slice b m.length d] w fun e w'=>∃ r,e=.returned (.bool r)∧(r=true↔l=m)∧Below w.heap.size w w':=by
 obtain ⟨P,hP⟩:∃ P:Prop,P↔l=m:=⟨_,Iff.rfl⟩
 simp only [← hP]
 obtain ⟨n1,hn1⟩:∃ n,n=l.length:=⟨_,rfl⟩
 obtain ⟨n2,hn2⟩:∃ n,n=m.length:=⟨_,rfl⟩
 rw [← hn1] at hl ⊢
 rw [← hn2] at hm ⊢
 have HN:=Lib.hid (And.intro hn1 hn2)
 have HP:=Lib.hid hP
 have HA:=Lib.hid h1
 have HB:=Lib.hid h2
 have HW:=Lib.hid (Below.refl w.heap.size w)
 clear hn1 hn2 hP h1 h2
 by_cases hnn:n1=n2
 rotate_left
 · have HNP : Hid (¬ P) := fun h => hnn (by rw [HN.out.1, HN.out.2, HP.out.1 h])
   have qq:((n1:Int) != (n2:Int))=true:=by simp;omega
   clear HP
   go_enter Tryz.func70,Tryz.ntmps70
   go_wp2_with fail
   go_ret
   exact ⟨false,rfl,iff_of_false (by simp) HNP.out,HW.out⟩
 subst hnn
 go_enter Tryz.func70,Tryz.ntmps70
 go_wp2_with fail
 go_loopg [13] (n1+1) (fun m' z X=>∃ t:Nat,z=.int .i64 (t:Int)∧t≤n1∧m'=n1-t+1∧l.take t=m.take t∧Below w.heap.size w X)
 case atStart=>exact ⟨0,rfl,Nat.zero_le _,by omega,by simp,HW.out⟩
 case round =>
  clear HW
  obtain ⟨t,rfl,ht,hm',htk,hx⟩:=hrel
  have HM:=Lib.hid hm'
  have HX:=Lib.hid hx
  have HTK:=Lib.hid htk
  clear hm' hx htk
  by_cases htn:t<n1
  rotate_left
  · obtain rfl : t = n1 := by omega
    have HPT:Hid P:=HP.out.2 (by
     have h:=HTK.out
     rwa [show l.take t=l by rw [HN.out.1,List.take_length],show m.take t=m by rw [HN.out.2,List.take_length]] at h)
    clear HP
    go_wp2_with fail
    go_ret
    exact ⟨true,rfl,iff_of_true rfl HPT.out,HX.out⟩
  have il:t<l.length:=by have:=HN.out.1;omega
  have il2:t<m.length:=by have:=HN.out.2;omega
  have g1:l[t]? = some l[t]:=List.getElem?_eq_getElem il
  have g2:m[t]? = some m[t]:=List.getElem?_eq_getElem il2
  generalize l[t]=x at g1
  generalize m[t]=y at g2
  rcases insAt_below HA.out HX.out with e | ⟨g,q,rfl,e1⟩
  · subst e;simp at il
  rcases insAt_below HB.out HX.out with e | ⟨g',q',rfl,e2⟩
  · subst e;simp at il2
  have f0:wr.cell? ⟨g,q+t*9,none⟩=some (.int .u8 x.k):=e1 t x g1 0 _ rfl
  have f1:wr.cell? ⟨g,q+t*9+1,none⟩=some (.int .u8 x.o):=e1 t x g1 1 _ rfl
  have f2:wr.cell? ⟨g,q+t*9+2,none⟩=some (.int .i64 x.d):=e1 t x g1 2 _ rfl
  have f3:wr.cell? ⟨g,q+t*9+3,none⟩=some (.int .i64 x.a):=e1 t x g1 3 _ rfl
  have f4:wr.cell? ⟨g,q+t*9+4,none⟩=some (.int .i64 x.b):=e1 t x g1 4 _ rfl
  have f5:wr.cell? ⟨g,q+t*9+5,none⟩=some (.int .i64 x.ad):=e1 t x g1 5 _ rfl
  have f6:wr.cell? ⟨g,q+t*9+6,none⟩=some (.int .i64 x.tt):=e1 t x g1 6 _ rfl
  have f7:wr.cell? ⟨g,q+t*9+7,none⟩=some (.int .i64 x.wd):=e1 t x g1 7 _ rfl
  have f8:wr.cell? ⟨g,q+t*9+8,none⟩=some (.int .i64 x.fr):=e1 t x g1 8 _ rfl
  have v0:wr.cell? ⟨g',q'+t*9,none⟩=some (.int .u8 y.k):=e2 t y g2 0 _ rfl
  have v1:wr.cell? ⟨g',q'+t*9+1,none⟩=some (.int .u8 y.o):=e2 t y g2 1 _ rfl
  have v2:wr.cell? ⟨g',q'+t*9+2,none⟩=some (.int .i64 y.d):=e2 t y g2 2 _ rfl
  have v3:wr.cell? ⟨g',q'+t*9+3,none⟩=some (.int .i64 y.a):=e2 t y g2 3 _ rfl
  have v4:wr.cell? ⟨g',q'+t*9+4,none⟩=some (.int .i64 y.b):=e2 t y g2 4 _ rfl
  have v5:wr.cell? ⟨g',q'+t*9+5,none⟩=some (.int .i64 y.ad):=e2 t y g2 5 _ rfl
  have v6:wr.cell? ⟨g',q'+t*9+6,none⟩=some (.int .i64 y.tt):=e2 t y g2 6 _ rfl
  have v7:wr.cell? ⟨g',q'+t*9+7,none⟩=some (.int .i64 y.wd):=e2 t y g2 7 _ rfl
  have v8:wr.cell? ⟨g',q'+t*9+8,none⟩=some (.int .i64 y.fr):=e2 t y g2 8 _ rfl
  have htn':(t:Int)<(n1:Int):=by omega
  by_cases hxy:x=y
  · subst hxy
    have HTK2:=Lib.hid (take_two HTK.out g1 g2)
    obtain ⟨k,o,d,a,b,ad,tt,wd,fr⟩:=x
    simp only at f0 f1 f2 f3 f4 f5 f6 f7 f8 v0 v1 v2 v3 v4 v5 v6 v7 v8
    clear e1 e2 g1 g2 il il2
    go_wp2_with fail
    go_quiet (fail)
    have HZ:=Lib.hid (HX.out.trans ((below_drewN (Below.refl wr.heap.size wr) nq).mono HX.out.size))
    go_wp2_with fail
    go_roundg (n1-(t+1)+1)
    case measure=>have:=HM.out;omega
    case rel=>exact ⟨t+1,by simp,by omega,by omega,HTK2.out,HZ.out⟩
  · have HNP : Hid (¬ P) := fun h => at_ne g1 g2 hxy (HP.out.1 h)
    clear e1 e2 g1 g2 il il2 HP
    obtain ⟨k,o,d,a,b,ad,tt,wd,fr⟩:=x
    obtain ⟨k2,o2,d2,a2,b2,ad2,tt2,wd2,fr2⟩:=y
    simp only at f0 f1 f2 f3 f4 f5 f6 f7 f8 v0 v1 v2 v3 v4 v5 v6 v7 v8
    by_cases hqk:k=k2
    rotate_left
    · have qq : (k == k2) = false := by simpa using hqk
      clear hxy
      go_wp2_with fail
      go_quiet (fail)
      have HZ:=Lib.hid (HX.out.trans ((below_drewN (Below.refl wr.heap.size wr) nq).mono HX.out.size))
      go_wp2_with fail
      go_ret
      exact ⟨false,rfl,iff_of_false (by simp) HNP.out,HZ.out⟩
    subst hqk
    by_cases hqo:o=o2
    rotate_left
    · have qq : (o == o2) = false := by simpa using hqo
      clear hxy
      go_wp2_with fail
      go_quiet (fail)
      have HZ:=Lib.hid (HX.out.trans ((below_drewN (Below.refl wr.heap.size wr) nq).mono HX.out.size))
      go_wp2_with fail
      go_ret
      exact ⟨false,rfl,iff_of_false (by simp) HNP.out,HZ.out⟩
    subst hqo
    by_cases hqd:d=d2
    rotate_left
    · have qq : (d == d2) = false := by simpa using hqd
      clear hxy
      go_wp2_with fail
      go_quiet (fail)
      have HZ:=Lib.hid (HX.out.trans ((below_drewN (Below.refl wr.heap.size wr) nq).mono HX.out.size))
      go_wp2_with fail
      go_ret
      exact ⟨false,rfl,iff_of_false (by simp) HNP.out,HZ.out⟩
    subst hqd
    by_cases hqa:a=a2
    rotate_left
    · have qq : (a == a2) = false := by simpa using hqa
      clear hxy
      go_wp2_with fail
      go_quiet (fail)
      have HZ:=Lib.hid (HX.out.trans ((below_drewN (Below.refl wr.heap.size wr) nq).mono HX.out.size))
      go_wp2_with fail
      go_ret
      exact ⟨false,rfl,iff_of_false (by simp) HNP.out,HZ.out⟩
    subst hqa
    by_cases hqb:b=b2
    rotate_left
    · have qq : (b == b2) = false := by simpa using hqb
      clear hxy
      go_wp2_with fail
      go_quiet (fail)
      have HZ:=Lib.hid (HX.out.trans ((below_drewN (Below.refl wr.heap.size wr) nq).mono HX.out.size))
      go_wp2_with fail
      go_ret
      exact ⟨false,rfl,iff_of_false (by simp) HNP.out,HZ.out⟩
    subst hqb
    by_cases hqad:ad=ad2
    rotate_left
    · have qq : (ad == ad2) = false := by simpa using hqad
      clear hxy
      go_wp2_with fail
      go_quiet (fail)
      have HZ:=Lib.hid (HX.out.trans ((below_drewN (Below.refl wr.heap.size wr) nq).mono HX.out.size))
      go_wp2_with fail
      go_ret
      exact ⟨false,rfl,iff_of_false (by simp) HNP.out,HZ.out⟩
    subst hqad
    by_cases hqtt:tt=tt2
    rotate_left
    · have qq : (tt == tt2) = false := by simpa using hqtt
      clear hxy
      go_wp2_with fail
      go_quiet (fail)
      have HZ:=Lib.hid (HX.out.trans ((below_drewN (Below.refl wr.heap.size wr) nq).mono HX.out.size))
      go_wp2_with fail
      go_ret
      exact ⟨false,rfl,iff_of_false (by simp) HNP.out,HZ.out⟩
    subst hqtt
    by_cases hqwd:wd=wd2
    rotate_left
    · have qq : (wd == wd2) = false := by simpa using hqwd
      clear hxy
      go_wp2_with fail
      go_quiet (fail)
      have HZ:=Lib.hid (HX.out.trans ((below_drewN (Below.refl wr.heap.size wr) nq).mono HX.out.size))
      go_wp2_with fail
      go_ret
      exact ⟨false,rfl,iff_of_false (by simp) HNP.out,HZ.out⟩
    subst hqwd
    by_cases hqfr:fr=fr2
    rotate_left
    · have qq : (fr == fr2) = false := by simpa using hqfr
      clear hxy
      go_wp2_with fail
      go_quiet (fail)
      have HZ:=Lib.hid (HX.out.trans ((below_drewN (Below.refl wr.heap.size wr) nq).mono HX.out.size))
      go_wp2_with fail
      go_ret
      exact ⟨false,rfl,iff_of_false (by simp) HNP.out,HZ.out⟩
    subst hqfr
    exact absurd rfl hxy
theorem same_core (x y:Cor) (hx:x.code.length≤140737488351232) (hy:y.code.length≤140737488351232) {a2 a3:Option Addr} {c2 c3:Nat} {w:World} (h1:insAt w x.code a2) (h2:insAt w y.code a3):Calls Tryz.prog 30 #[.agg #[.string x.name,.slice a2 x.code.length c2],.agg #[.string y.name,.slice a3 y.code.length c3]] w fun e w'=>∃ r,e=.returned (.bool r)∧(r=true↔x=y)∧Below w.heap.size w w':=by
 have HEQ:Hid (∀ X,Below w.heap.size w X→Calls Tryz.prog 70 #[.slice a2 x.code.length c2,.slice a3 y.code.length c3] X fun e w'=>∃ r,e=.returned (.bool r)∧(r=true↔x.code=y.code)∧Below X.heap.size X w'):=fun X hb=>eq_ins _ _ hx hy (insAt_below h1 hb) (insAt_below h2 hb)
 obtain ⟨nm,cd⟩:=x
 obtain ⟨nm2,cd2⟩:=y
 simp only at HEQ ⊢
 have HI:Hid ((⟨nm,cd⟩:Cor)=⟨nm2,cd2⟩↔nm=nm2∧cd=cd2):=by rw [Hid];simp
 obtain ⟨P,hP⟩:∃ P:Prop,P↔(⟨nm,cd⟩:Cor)=⟨nm2,cd2⟩:=⟨_,Iff.rfl⟩
 simp only [← hP]
 have HP:Hid (P↔nm=nm2∧cd=cd2):=hP.trans HI.out
 obtain ⟨nc,hnc⟩:∃ n,n=cd.length:=⟨_,rfl⟩
 obtain ⟨mc,hmc⟩:∃ n,n=cd2.length:=⟨_,rfl⟩
 rw [← hnc,← hmc] at HEQ ⊢
 have B0:Below w.heap.size w ((w.alloc (.cells #[.string nm,.slice a2 nc c2] 70)).alloc (.cells #[.string nm2,.slice a3 mc c3] 70)):=((Below.refl _ w).alloc (Nat.le_refl _) _).alloc (by simp) _
 have OA:Own ((w.alloc (.cells #[.string nm,.slice a2 nc c2] 70)).alloc (.cells #[.string nm2,.slice a3 mc c3] 70)) w.heap.size 70 #[.string nm,.slice a2 nc c2]:=(Own.new w 70 #[.string nm,.slice a2 nc c2]).alloc _
 have OB:Own ((w.alloc (.cells #[.string nm,.slice a2 nc c2] 70)).alloc (.cells #[.string nm2,.slice a3 mc c3] 70)) (w.heap.size+1) 70 #[.string nm2,.slice a3 mc c3]:=by
  have h:=Own.new (w.alloc (.cells #[.string nm,.slice a2 nc c2] 70)) 70 #[.string nm2,.slice a3 mc c3]
  rwa [World.size_alloc] at h
 obtain ⟨W0,hW0⟩:∃ W,W=(w.alloc (.cells #[.string nm,.slice a2 nc c2] 70)).alloc (.cells #[.string nm2,.slice a3 mc c3] 70):=⟨_,rfl⟩
 rw [← hW0] at B0 OA OB
 have HW0:=Lib.hid hW0
 have HB0:=Lib.hid B0
 have p0:=row_cellsO OA 0 _ rfl
 have p1:=row_cellsO OA 1 _ rfl
 have q0:=row_cellsO OB 0 _ rfl
 have q1:=row_cellsO OB 1 _ rfl
 clear hP hnc hmc B0 OA OB hW0 h1 h2 HI hx hy
 by_cases hnq:nm=nm2
 rotate_left
 · have HNP : Hid (¬ P) := fun h => hnq (HP.out.1 h).1
   have hnn:(nm.toList==nm2.toList)=false:=bytes_eqF hnq
   clear HP hnq HEQ
   go_enter Tryz.func30,Tryz.ntmps30
   go_upto_region 1 with fail
   rw [← HW0.out]
   clear HW0
   go_wp2_with fail
   go_ret
   exact ⟨false,rfl,iff_of_false (by simp) HNP.out,HB0.out⟩
 subst hnq
 have hnn:(nm.toList==nm.toList)=true:=by simp
 go_enter Tryz.func30,Tryz.ntmps30
 go_upto_region 1 with fail
 rw [← HW0.out]
 clear HW0
 go_wp2_with (go_at_call 70;refine (HEQ.out _ HB0.out).mono ?_;rintro e w2 ⟨r,rfl,hr,hb⟩;have HR:=Lib.hid (And.intro hr hb);clear hr hb)
 go_ret
 exact ⟨r,rfl,HR.out.1.trans ⟨fun h=>HP.out.2 ⟨by simp,h⟩,fun h=>(HP.out.1 h).2⟩,HB0.out.trans (HR.out.2.mono HB0.out.size)⟩
theorem eq_cors (l m:List Cor) (hl:l.length≤140737488351232) (hm:m.length≤140737488351232) (hlc:∀ c∈l,c.code.length≤140737488351232) (hmc:∀ c∈m,c.code.length≤140737488351232) {a b:Option Addr} {c d:Nat} {w:World} (h1:corsAt w l a) (h2:corsAt w m b):Calls Tryz.prog 29 #[.slice a l.length c,.slice b m.length d,.func (.func 30) #[] #[]] w fun e w'=>∃ r,e=.returned (.bool r)∧(r=true↔l=m)∧Below w.heap.size w w':=by
 obtain ⟨P,hP⟩:∃ P:Prop,P↔l=m:=⟨_,Iff.rfl⟩
 simp only [← hP]
 obtain ⟨n1,hn1⟩:∃ n,n=l.length:=⟨_,rfl⟩
 obtain ⟨n2,hn2⟩:∃ n,n=m.length:=⟨_,rfl⟩
 rw [← hn1] at hl ⊢
 rw [← hn2] at hm ⊢
 have HN:=Lib.hid (And.intro hn1 hn2)
 have HP:=Lib.hid hP
 have HA:=Lib.hid h1
 have HB:=Lib.hid h2
 have HLC:=Lib.hid hlc
 have HMC:=Lib.hid hmc
 have HW:=Lib.hid (Below.refl w.heap.size w)
 clear hn1 hn2 hP h1 h2 hlc hmc
 by_cases hnn:n1=n2
 rotate_left
 · have HNP : Hid (¬ P) := fun h => hnn (by rw [HN.out.1, HN.out.2, HP.out.1 h])
   have qq:((n1:Int) != (n2:Int))=true:=by simp;omega
   clear HP
   go_enter Tryz.func29,Tryz.ntmps29
   go_wp2_with fail
   go_ret
   exact ⟨false,rfl,iff_of_false (by simp) HNP.out,HW.out⟩
 subst hnn
 go_enter Tryz.func29,Tryz.ntmps29
 go_wp2_with fail
 go_loopg [17] (n1+1) (fun m' z X=>∃ t:Nat,z=.int .i64 (t:Int)∧t≤n1∧m'=n1-t+1∧l.take t=m.take t∧Below w.heap.size w X)
 case atStart=>exact ⟨0,rfl,Nat.zero_le _,by omega,by simp,HW.out⟩
 case round =>
  clear HW
  obtain ⟨t,rfl,ht,hm',htk,hx⟩:=hrel
  have HM:=Lib.hid hm'
  have HX:=Lib.hid hx
  have HTK:=Lib.hid htk
  clear hm' hx htk
  by_cases htn:t<n1
  rotate_left
  · obtain rfl : t = n1 := by omega
    have HPT:Hid P:=HP.out.2 (by
     have h:=HTK.out
     rwa [show l.take t=l by rw [HN.out.1,List.take_length],show m.take t=m by rw [HN.out.2,List.take_length]] at h)
    clear HP
    go_wp2_with fail
    go_ret
    exact ⟨true,rfl,iff_of_true rfl HPT.out,HX.out⟩
  have il:t<l.length:=by have:=HN.out.1;omega
  have il2:t<m.length:=by have:=HN.out.2;omega
  have g1:l[t]? = some l[t]:=List.getElem?_eq_getElem il
  have g2:m[t]? = some m[t]:=List.getElem?_eq_getElem il2
  have zx:=HLC.out _ (List.getElem_mem il)
  have zy:=HMC.out _ (List.getElem_mem il2)
  generalize l[t]=x at g1 zx
  generalize m[t]=y at g2 zy
  rcases corsAt_below HA.out HX.out with e | ⟨g,q,rfl,e1⟩
  · subst e;simp at il
  rcases corsAt_below HB.out HX.out with e | ⟨g',q',rfl,e2⟩
  · subst e;simp at il2
  obtain ⟨y1,a2,c2,y2,y3⟩:=e1 t x g1
  obtain ⟨z1,a3,c3,z2,z3⟩:=e2 t y g2
  have htn':(t:Int)<(n1:Int):=by omega
  have HNX:Hid (x≠y→¬ P):=fun h hp=>at_ne g1 g2 h (HP.out.1 hp)
  have HTX:Hid (x=y→l.take (t+1)=m.take (t+1)):=fun h=>by subst h;exact take_two HTK.out g1 g2
  have al1:=(Below.refl wr.heap.size wr).alloc (Nat.le_refl _) (.cells #[.string x.name,.slice a2 x.code.length c2] 70)
  have OA:=Own.new wr 70 #[.string x.name,.slice a2 x.code.length c2]
  have z1':=(al1.cell (p:=⟨g',q'+t*2,none⟩) (lt_of_at z1)).trans z1
  have z2':=(al1.cell (p:=⟨g',q'+t*2+1,none⟩) (lt_of_at z2)).trans z2
  obtain ⟨W1,hW1⟩:∃ W,W=wr.alloc (.cells #[.string x.name,.slice a2 x.code.length c2] 70):=⟨_,rfl⟩
  have hsz:W1.heap.size=wr.heap.size+1:=by rw [hW1,World.size_alloc]
  rw [← hW1] at al1 OA z1' z2'
  have HW1:=Lib.hid hW1
  have al2:=al1.alloc (by omega) (.cells #[.string y.name,.slice a3 y.code.length c3] 70)
  have OA2:Own (W1.alloc (.cells #[.string y.name,.slice a3 y.code.length c3] 70)) wr.heap.size 70 #[.string x.name,.slice a2 x.code.length c2]:=OA.alloc _
  have OB2:=Own.new W1 70 #[.string y.name,.slice a3 y.code.length c3]
  obtain ⟨W2,hW2⟩:∃ W,W=W1.alloc (.cells #[.string y.name,.slice a3 y.code.length c3] 70):=⟨_,rfl⟩
  rw [← hW2] at al2 OA2 OB2
  have HW2:=Lib.hid hW2
  have HX2:=Lib.hid (HX.out.trans (al2.mono HX.out.size))
  have HSC:Hid (Calls Tryz.prog 30 #[.agg #[.string x.name,.slice a2 x.code.length c2],.agg #[.string y.name,.slice a3 y.code.length c3]] W2 fun e w'=>∃ r,e=.returned (.bool r)∧(r=true↔x=y)∧Below W2.heap.size W2 w'):=same_core x y zx zy (insAt_below y3 al2) (insAt_below z3 al2)
  obtain ⟨nm,cd⟩:=x
  obtain ⟨nm2,cd2⟩:=y
  simp only at y1 y2 z1' z2' OA2 OB2 HSC HW1 HW2 HNX HTX
  generalize cd.length=nc at y2 HSC HW1 OA2 HW2
  generalize cd2.length=mc at z2' HSC HW2 OB2
  clear e1 e2 g1 g2 il il2 hW1 hW2 al1 OA al2 hsz y3 z3 z1 z2 zx zy HP
  go_upto_region 6 with fail
  rw [← HW1.out]
  clear HW1 y1 y2
  go_upto_region 7 with fail
  rw [← HW2.out]
  clear HW2 z1' z2'
  go_wp2_with (first | (refine ld rowC rfl rfl rfl OA2 rfl ?_) | (refine ld rowC rfl rfl rfl OB2 rfl ?_))
  go_at_call 30
  refine HSC.out.mono ?_
  rintro e w3 ⟨r,rfl,hr,hb⟩
  have HR:=Lib.hid hr
  have HX3:=Lib.hid (HX2.out.trans (hb.mono HX2.out.size))
  clear hr hb OA2 OB2 HSC
  cases r with
  | false =>
    have HNP:=Lib.hid (HNX.out (fun e=>by have h:=HR.out.2 e;cases h))
    clear HNX HTX HR
    go_wp2_with fail
    go_ret
    exact ⟨false,rfl,iff_of_false (by simp) HNP.out,HX3.out⟩
  | true =>
    have HTE:=Lib.hid (HTX.out (HR.out.1 rfl))
    go_wp2_with fail
    go_roundg (n1-(t+1)+1)
    case measure=>have:=HM.out;omega
    case rel=>exact ⟨t+1,by simp,by omega,by omega,HTE.out,HX3.out⟩
open Go.RowKit
set_option linter.unusedVariables false
set_option maxRecDepth 100000
theorem tsame_any (o p:Ob) (hf:fitO o) (hf2:fitO p) {v u:Value} {w:World} (hv:obA w o v) (hu:obA w p u):Calls Tryz.prog 8 #[v,u] w fun e w'=>∃ b,e=.returned (.bool b)∧(b=true↔o=p)∧Below w.heap.size w w':=by
 obtain ⟨P,hP⟩:∃ P:Prop,P↔o=p:=⟨_,Iff.rfl⟩
 simp only [← hP]
 obtain ⟨a1,c1,a5,c5,rfl,h1,h5⟩:=hv
 obtain ⟨b1,d1,b5,d5,rfl,k1,k5⟩:=hu
 obtain ⟨f1,f5,fc⟩:=hf
 obtain ⟨e1,e5,ec⟩:=hf2
 have HEW0:∀ X,Below w.heap.size w X→Calls Tryz.prog 28 #[.slice a1 o.mem.length c1,.slice b1 p.mem.length d1] X fun e w'=>∃ r,e=.returned (.bool r)∧(r=true↔o.mem=p.mem)∧Below X.heap.size X w':=fun X hb=>eq_words _ _ f1 e1 (intsAt_below h1 hb) (intsAt_below k1 hb)
 have HEF:Hid (∀ X,Below w.heap.size w X→Calls Tryz.prog 29 #[.slice a5 o.cores.length c5,.slice b5 p.cores.length d5,.func (.func 30) #[] #[]] X fun e w'=>∃ r,e=.returned (.bool r)∧(r=true↔o.cores=p.cores)∧Below X.heap.size X w'):=fun X hb=>eq_cors _ _ f5 e5 (fun c hc=>(fc c hc).2) (fun c hc=>(ec c hc).2) (corsAt_below h5 hb) (corsAt_below k5 hb)
 obtain ⟨mem,sh,lk,bf,cores⟩:=o
 obtain ⟨mem2,sh2,lk2,bf2,cores2⟩:=p
 simp only [obV] at *
 have HP:Hid (P↔mem=mem2∧sh=sh2∧lk=lk2∧bf=bf2∧cores=cores2):=hP.trans (by simp)
 have HEW1:mem=mem2→Hid (∀ X,Below w.heap.size w X→Calls Tryz.prog 28 #[.slice a1 mem.length c1,.slice b1 mem2.length d1] X fun e w'=>e=.returned (.bool true)∧Below X.heap.size X w'):=fun e X hb=>(HEW0 X hb).mono fun _ _ ⟨r,q1,q2,q3⟩=>⟨by rw [q1,q2.2 e],q3⟩
 have HEW2:¬ mem=mem2→Hid (∀ X,Below w.heap.size w X→Calls Tryz.prog 28 #[.slice a1 mem.length c1,.slice b1 mem2.length d1] X fun e w'=>e=.returned (.bool false)∧Below X.heap.size X w'):=fun e X hb=>(HEW0 X hb).mono fun _ _ ⟨r,q1,q2,q3⟩=>⟨by
  cases r with
  | false=>exact q1
  | true=>exact absurd (q2.1 rfl) e,q3⟩
 clear HEW0 hP
 generalize mem.length=n1 at HEW1 HEW2 f1 ⊢
 generalize cores.length=n5 at HEF f5 ⊢
 generalize mem2.length=m1 at HEW1 HEW2 e1 ⊢
 generalize cores2.length=m5 at HEF e5 ⊢
 have B0:Below w.heap.size w ((w.alloc (.cells #[.slice a1 n1 c1,.int .i64 sh,.int .i64 lk,.int .i64 bf,.slice a5 n5 c5] 25)).alloc (.cells #[.slice b1 m1 d1,.int .i64 sh2,.int .i64 lk2,.int .i64 bf2,.slice b5 m5 d5] 25)):=((Below.refl _ w).alloc (Nat.le_refl _) _).alloc (by simp) _
 have OA:Own ((w.alloc (.cells #[.slice a1 n1 c1,.int .i64 sh,.int .i64 lk,.int .i64 bf,.slice a5 n5 c5] 25)).alloc (.cells #[.slice b1 m1 d1,.int .i64 sh2,.int .i64 lk2,.int .i64 bf2,.slice b5 m5 d5] 25)) w.heap.size 25 #[.slice a1 n1 c1,.int .i64 sh,.int .i64 lk,.int .i64 bf,.slice a5 n5 c5]:=(Own.new w 25 #[.slice a1 n1 c1,.int .i64 sh,.int .i64 lk,.int .i64 bf,.slice a5 n5 c5]).alloc _
 have OB:Own ((w.alloc (.cells #[.slice a1 n1 c1,.int .i64 sh,.int .i64 lk,.int .i64 bf,.slice a5 n5 c5] 25)).alloc (.cells #[.slice b1 m1 d1,.int .i64 sh2,.int .i64 lk2,.int .i64 bf2,.slice b5 m5 d5] 25)) (w.heap.size+1) 25 #[.slice b1 m1 d1,.int .i64 sh2,.int .i64 lk2,.int .i64 bf2,.slice b5 m5 d5]:=by
  have h:=Own.new (w.alloc (.cells #[.slice a1 n1 c1,.int .i64 sh,.int .i64 lk,.int .i64 bf,.slice a5 n5 c5] 25)) 25 #[.slice b1 m1 d1,.int .i64 sh2,.int .i64 lk2,.int .i64 bf2,.slice b5 m5 d5]
  rwa [World.size_alloc] at h
 obtain ⟨W0,hW0⟩:∃ W,W=(w.alloc (.cells #[.slice a1 n1 c1,.int .i64 sh,.int .i64 lk,.int .i64 bf,.slice a5 n5 c5] 25)).alloc (.cells #[.slice b1 m1 d1,.int .i64 sh2,.int .i64 lk2,.int .i64 bf2,.slice b5 m5 d5] 25):=⟨_,rfl⟩
 rw [← hW0] at B0 OA OB
 have HW0:=Lib.hid hW0
 have HS0:Hid (Sn w #[.slice a1 n1 c1,.int .i64 sh,.int .i64 lk,.int .i64 bf,.slice a5 n5 c5] #[.slice b1 m1 d1,.int .i64 sh2,.int .i64 lk2,.int .i64 bf2,.slice b5 m5 d5] W0):=⟨OA,OB,B0⟩
 have p0:=row_cellsO HS0.out.a 0 _ rfl
 have p1:=row_cellsO HS0.out.a 1 _ rfl
 have p2:=row_cellsO HS0.out.a 2 _ rfl
 have p3:=row_cellsO HS0.out.a 3 _ rfl
 have p4:=row_cellsO HS0.out.a 4 _ rfl
 have r0:=row_cellsO HS0.out.b 0 _ rfl
 have r1:=row_cellsO HS0.out.b 1 _ rfl
 have r2:=row_cellsO HS0.out.b 2 _ rfl
 have r3:=row_cellsO HS0.out.b 3 _ rfl
 have r4:=row_cellsO HS0.out.b 4 _ rfl
 clear h1 h5 k1 k5 fc ec B0 OA OB hW0
 by_cases g1:sh=sh2
 rotate_left
 · have HNP : Hid (¬ P) := fun h => g1 (HP.out.1 h).2.1
   clear HP HEW1 HEW2 HEF
   have qq:(sh==sh2)=false:=by simpa using g1
   go_enter Tryz.func8,Tryz.ntmps8
   go_upto_region 1 with fail
   rw [← HW0.out]
   clear HW0
   go_wp2_with fail
   go_ret
   exact ⟨false,rfl,iff_of_false (by simp) HNP.out,HS0.out.bel⟩
 subst g1
 by_cases g2:lk=lk2
 rotate_left
 · have HNP : Hid (¬ P) := fun h => g2 (HP.out.1 h).2.2.1
   clear HP HEW1 HEW2 HEF
   have qq:(lk==lk2)=false:=by simpa using g2
   go_enter Tryz.func8,Tryz.ntmps8
   go_upto_region 1 with fail
   rw [← HW0.out]
   clear HW0
   go_wp2_with fail
   go_ret
   exact ⟨false,rfl,iff_of_false (by simp) HNP.out,HS0.out.bel⟩
 subst g2
 by_cases g3:bf=bf2
 rotate_left
 · have HNP : Hid (¬ P) := fun h => g3 (HP.out.1 h).2.2.2.1
   clear HP HEW1 HEW2 HEF
   have qq:(bf==bf2)=false:=by simpa using g3
   go_enter Tryz.func8,Tryz.ntmps8
   go_upto_region 1 with fail
   rw [← HW0.out]
   clear HW0
   go_wp2_with fail
   go_ret
   exact ⟨false,rfl,iff_of_false (by simp) HNP.out,HS0.out.bel⟩
 subst g3
 by_cases g4:mem=mem2
 rotate_left
 · have HNP : Hid (¬ P) := fun h => g4 (HP.out.1 h).1
   have HEW:=HEW2 g4
   clear HP HEW1 HEW2 HEF g4
   go_enter Tryz.func8,Tryz.ntmps8
   go_upto_region 1 with fail
   rw [← HW0.out]
   clear HW0
   go_wp2_with (go_at_call 28;refine (HEW.out _ HS0.out.bel).mono ?_;rintro e w2 ⟨rfl,hb⟩;have HS2:=Lib.hid (HS0.out.below hb);clear hb;have p0:=row_cellsO HS2.out.a 0 _ rfl;have p1:=row_cellsO HS2.out.a 1 _ rfl;have p2:=row_cellsO HS2.out.a 2 _ rfl;have p3:=row_cellsO HS2.out.a 3 _ rfl;have p4:=row_cellsO HS2.out.a 4 _ rfl;have r0:=row_cellsO HS2.out.b 0 _ rfl;have r1:=row_cellsO HS2.out.b 1 _ rfl;have r2:=row_cellsO HS2.out.b 2 _ rfl;have r3:=row_cellsO HS2.out.b 3 _ rfl;have r4:=row_cellsO HS2.out.b 4 _ rfl)
   go_ret
   exact ⟨false,rfl,iff_of_false (by simp) HNP.out,HS2.out.bel⟩
 have HEW:=HEW1 g4
 have HG:=Lib.hid g4
 clear HEW1 HEW2 g4
 go_enter Tryz.func8,Tryz.ntmps8
 go_upto_region 1 with fail
 rw [← HW0.out]
 clear HW0
 go_wp2_with (first | (go_at_call 28;refine (HEW.out _ HS0.out.bel).mono ?_;rintro e w2 ⟨rfl,hb⟩;have HS2:=Lib.hid (HS0.out.below hb);clear hb;have p0:=row_cellsO HS2.out.a 0 _ rfl;have p1:=row_cellsO HS2.out.a 1 _ rfl;have p2:=row_cellsO HS2.out.a 2 _ rfl;have p3:=row_cellsO HS2.out.a 3 _ rfl;have p4:=row_cellsO HS2.out.a 4 _ rfl;have r0:=row_cellsO HS2.out.b 0 _ rfl;have r1:=row_cellsO HS2.out.b 1 _ rfl;have r2:=row_cellsO HS2.out.b 2 _ rfl;have r3:=row_cellsO HS2.out.b 3 _ rfl;have r4:=row_cellsO HS2.out.b 4 _ rfl) | (go_at_call 29;refine (HEF.out _ HS2.out.bel).mono ?_;rintro e w3 ⟨r,rfl,hr,hb⟩;have HR:=Lib.hid hr;have HS3:=Lib.hid (HS2.out.below hb);clear hr hb))
 go_ret
 exact ⟨r,rfl,HR.out.trans ⟨fun h=>HP.out.2 ⟨HG.out,by simp,by simp,by simp,h⟩,fun h=>(HP.out.1 h).2.2.2.2⟩,HS3.out.bel⟩
end Go.Proofs.YtmpljhfinmfnbaaGreatDoor

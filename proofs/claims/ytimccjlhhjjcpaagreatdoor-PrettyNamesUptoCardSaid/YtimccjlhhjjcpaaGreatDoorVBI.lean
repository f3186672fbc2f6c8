/- The proof, part 35: texts that belong together, in one. -/
import Derived.Test.YtimccjlhhjjcpaaGreatDoorVAV
import Derived.Test.YtimccjlhhjjcpaaGreatDoorVBH
import Derived.Test.YtimccjlhhjjcpaaGreatDoorVBB
import Derived.Test.YtimccjlhhjjcpaaGreatDoorVBC
import Derived.Test.YtimccjlhhjjcpaaGreatDoorVBG
import Derived.Test.YtimccjlhhjjcpaaGreatDoorVAN
import Derived.Laws.AppendOwnNone
import Derived.Test.YtimccjlhhjjcpaaGreatDoorVAZ
set_option maxRecDepth 100000
set_option maxHeartbeats 20000000
namespace Go.Proofs.YtimccjlhhjjcpaaGreatDoor
open Go.RowKit
set_option linter.unusedVariables false
theorem r_Strings {base base2:Nat} {w:World} {l:List (List UInt8)} {a a2:Option Addr} {c c2:Nat} (h:strsAt base w l a) (h2:strsAt base2 w l a2) (hl:l.length≤2097152):Calls Tryz.prog 8 #[.slice a l.length c,.slice a2 l.length c2] w fun e w'=>e=.returned (.bool true)∧Below w.heap.size w w':=by
 obtain ⟨n,hn⟩:∃ n,n=l.length:=⟨_,rfl⟩
 rw [← hn] at hl ⊢
 have HN:=Lib.hid hn
 have H:=Lib.hid h
 have H2:=Lib.hid h2
 clear h h2 hn
 go_enter Tryz.func8,Tryz.ntmps8
 go_wp2_with fail
 go_loopg [5] (n+1) (fun m' u X=>∃ i:Nat,u=.int .i64 (i:Int)∧i≤n∧m'=n-i+1∧Below w.heap.size w X)
 case atStart=>exact ⟨0,rfl,Nat.zero_le _,by omega,Below.refl _ _⟩
 case round =>
  obtain ⟨i,rfl,hi,hm,hX⟩:=hrel
  have HM:=Lib.hid hm
  have HX:=Lib.hid hX
  clear hm
  by_cases hin:i<n
  · have il : i < l.length := by have := HN.out; omega
    have g1:l[i]? = some l[i]:=List.getElem?_eq_getElem il
    obtain ⟨g,rfl,_,k2,_⟩:=H.out i _ g1
    obtain ⟨g',rfl,_,k4,_⟩:=H2.out i _ g1
    have d2:wr.cell? ⟨g,i,none⟩=some (.string ⟨l[i].toArray⟩):=by rw [hX.cell (p:=⟨g,i,none⟩) (cell_lt k2)];exact k2
    have d4:wr.cell? ⟨g',i,none⟩=some (.string ⟨l[i].toArray⟩):=by rw [hX.cell (p:=⟨g',i,none⟩) (cell_lt k4)];exact k4
    obtain ⟨u,hu⟩:∃ u,u=(⟨l[i].toArray⟩:ByteArray):=⟨_,rfl⟩
    rw [← hu] at d2 d4
    have q1:=bytes_eqT (rfl:u=u)
    have hin':(i:Int)<(n:Int):=by omega
    have HGO:Hid (∀ X,Below wr.heap.size wr X→Below w.heap.size w X):=fun X h=>HX.out.trans (h.mono HX.out.size)
    clear hu g1 il k2 k4 hX
    go_wp2_with fail
    go_quiet (fail)
    go_wp2_with fail
    go_roundg (n-(i+1)+1)
    case measure=>have:=HM.out;omega
    case rel=>exact ⟨i+1,rfl,by omega,by omega,HGO.out _ (by first | exact below_drewN (Below.refl _ _) _ | exact Below.refl _ _)⟩
  · have : i = n := by omega
    subst this
    clear hX
    go_wp2_with fail
    go_ret
    exact ⟨rfl,HX.out⟩
open Go.RowKit Go.Maps
set_option linter.unusedVariables false
def LsR (base:Nat) (w:World) (l:List (List UInt8)) (v:Value):Prop:=base≤w.heap.size∧w.ownsRow base 9 1 v l.length (l.map encStr)
def PuP (s:ByteArray) (l:List (List UInt8)) (w:World) (e:Ending) (w':World):Prop:=∃ v',e=.returned v'∧(∃ base,LsR base w' (putL s.data.toList l) v')∧Below w.heap.size w w'
theorem take_cells {base:Nat} {w:World} {l:List (List UInt8)} {g n c:Nat} (h:w.ownsRow base 9 1 (.slice (some ⟨g,0,none⟩) n c) l.length (l.map encStr)) (k:Nat):∀ j u,((l.take k).map encStr)[j]? = some u→w.cell? ((⟨g,0,none⟩:Addr).add j)=some u:=fun j u hu=>by
 refine h.cells (g:=g) rfl j u ?_
 rw [List.map_take,List.getElem?_take] at hu
 split at hu
 · exact hu
 · cases hu
theorem drop_cells {base:Nat} {w:World} {l:List (List UInt8)} {g n c:Nat} (h:w.ownsRow base 9 1 (.slice (some ⟨g,0,none⟩) n c) l.length (l.map encStr)) (k:Nat):∀ j u,((l.drop k).map encStr)[j]? = some u→w.cell? ((⟨g,k,none⟩:Addr).add j)=some u:=fun j u hu=>by
 have h1:=h.cells (g:=g) rfl (k+j) u (by rw [List.map_drop,List.getElem?_drop] at hu;exact hu)
 rw [add_at] at h1 ⊢
 simpa using h1
theorem enc_one (l:List (List UInt8)):∀ u∈l.map encStr,u.oneCell'=true:=fun u hu=>by
 obtain ⟨s,_,rfl⟩:=List.mem_map.1 hu
 rfl
theorem enc_of (s:ByteArray):encStr s.data.toList=.string s:=by unfold encStr;rw [bytes_back]
theorem r_put {base:Nat} {w:World} {l:List (List UInt8)} {v:Value} (h:LsR base w l v) (hl:l.length≤2097152) (s:ByteArray):Calls Tryz.prog 32 #[v,.string s] w (PuP s l w):=by
 obtain ⟨i0,hi,hi0,hi1,hi2⟩:=info_parts infoSg
 have hst:=strsAt_row h.2
 obtain ⟨a,c,rfl,hs⟩:=hst
 obtain ⟨n,hn⟩:∃ n,n=l.length:=⟨_,rfl⟩
 have HROW:=Lib.hid h
 rw [← hn] at hl ⊢
 have HN:=Lib.hid hn
 have H:=Lib.hid hs
 clear h hn hs
 by_cases q0:s=⟨#[]⟩
 · have q1 : (s.toList == ([] : List UInt8)) = true := by have := bytes_eqT q0; simpa using this
   have HQ:=Lib.hid q0
   clear q0
   go_enter Tryz.func32,Tryz.ntmps32
   go_wp2_with fail
   go_ret
   refine ⟨_,rfl,⟨base,?_⟩,Below.refl _ _⟩
   rw [HQ.out]
   show LsR base _ (putL [] l) _
   rw [putL_empty,HN.out]
   exact HROW.out
 · have q1 : (s.toList == ([] : List UInt8)) = false := by have := bytes_eqF q0; simpa using this
   have HQ0:Hid (s.data.toList≠[]):=fun e=>q0 (by rw [← bytes_back s,e])
   clear q0
   go_enter Tryz.func32,Tryz.ntmps32
   go_wp2_with fail
   go_loopg [5] (n+1) (fun m' u X=>∃ k:Nat,u=.int .i64 (k:Int)∧k≤n∧m'=n-k+1∧X=w∧∀ i y,i<k→l[i]? = some y→y<s.data.toList)
   case atStart=>exact ⟨0,rfl,Nat.zero_le _,by omega,rfl,fun i y hi _=>by omega⟩
   case round =>
    obtain ⟨k,rfl,hk,hm,hX,hlt⟩:=hrel
    subst hX
    have HM:=Lib.hid hm
    have HLT:=Lib.hid hlt
    clear hm hlt
    by_cases hkn:k<n
    · have il : k < l.length := by have := HN.out; omega
      have g1:l[k]? = some l[k]:=List.getElem?_eq_getElem il
      obtain ⟨g,rfl,k1,k2,k3⟩:=H.out k _ g1
      generalize l[k]=y at k2 g1
      have hkn':(k:Int)<(n:Int):=by omega
      have HG1:=Lib.hid g1
      obtain ⟨u,hu⟩:∃ u,u=(⟨y.toArray⟩:ByteArray):=⟨_,rfl⟩
      rw [← hu] at k2
      have HU:=Lib.hid hu
      clear hu g1 il k1 k3
      by_cases hys:y<s.data.toList
      · have hbl : Op.bytesLess u.toList s.toList = true := by rw [HU.out, Lib.toList_data, Lib.toList_data, bytesLess_lt]; exact decide_eq_true hys
        have HLT2:Hid (∀ i z,i<k+1→l[i]? = some z→z<s.data.toList):=fun i z hi hz=>by
         by_cases e:i<k
         · exact HLT.out i z e hz
         · obtain rfl : i = k := by omega
           rw [HG1.out] at hz
           obtain rfl:=Option.some.inj hz
           exact hys
        clear hys
        go_wp2_with fail
        go_roundg (n-(k+1)+1)
        case measure=>have:=HM.out;omega
        case rel=>exact ⟨k+1,rfl,by omega,by omega,rfl,HLT2.out⟩
      · have hbl : Op.bytesLess u.toList s.toList = false := by rw [HU.out, Lib.toList_data, Lib.toList_data, bytesLess_lt]; exact decide_eq_false hys
        have HPA:=Lib.hid (putL_at HQ0.out l k HLT.out (by have:=HN.out;omega) (fun z hz=>by
         rw [HG1.out] at hz
         obtain rfl:=Option.some.inj hz
         exact hys))
        clear hys
        by_cases q:u=s
        · have q1 := bytes_eqT q
          have HE:Hid (putL s.data.toList l=l):=by
           have h9:=HPA.out
           rw [HG1.out,if_pos] at h9
           · exact h9
           · rw [← q,HU.out]
          clear q HPA
          go_wp2_with fail
          go_ret
          refine ⟨_,rfl,⟨base,?_⟩,Below.refl _ _⟩
          rw [HE.out,HN.out]
          exact HROW.out
        · have q1 := bytes_eqF q
          have HE:Hid (putL s.data.toList l=l.take k++s.data.toList::l.drop k):=by
           have h9:=HPA.out
           rw [HG1.out,if_neg] at h9
           · exact h9
           · intro e
             exact q (by rw [HU.out];exact (bytes_mk _ _).2 (Option.some.inj e))
          clear q HPA
          have hcn:n≤c:=by
           rcases HROW.out.2.2 with ⟨h1,_⟩ | ⟨g',cap,cur,h1,_,_,h2,_⟩
           · cases h1
           · have h5 : c = cap := (Value.slice.inj h1).2.2
             have:=HN.out
             omega
          have hck:¬ c=k:=by omega
          have R0:=World.ownsRow_made (base:=wr.heap.size) (e:=9) (size:=1) wr #[] 0 (Nat.le_refl _) (by decide) rfl
          have HB0:=Lib.hid ((Below.refl wr.heap.size wr).alloc (Nat.le_refl _) (.cells #[] 9))
          have HLT0:=Lib.hid (World.ownsRow.lt R0)
          have HLK:Hid (((l.take k).map encStr).length=k*1∧((l.drop k).map encStr).length=(n-k)*1):=by
           have:=HN.out
           simp only [Hid,List.length_map,List.length_take,List.length_drop]
           omega
          have hkc:(k:Int)≤(c:Int):=by omega
          have HGB:Hid (g<wr.heap.size):=(World.ownsRow.lt HROW.out.2 g rfl).2
          have RL:=Lib.hid (HROW.out.2.alloc (.cells #[] 9))
          go_wp2_with (first
           | (at_builtin;refine wpList_append_own _ rfl _ _ 30 rfl wr.heap.size 9 i0 _ 1 16 Tryz.underlying30 hi hi0 hi1 hi2 rfl (by decide) _ _ _ rfl R0 ⟨g,0,none⟩ k c ((l.take k).map encStr) rfl HLK.out.1 (take_cells RL.out k) (enc_one _) (by simp only [maxLen];omega) (by omega) (by simp only [World.size_alloc];omega) ?_;intro v4 w4 hown4 hgrow4 _;have HB4:=Lib.hid (HB0.out.grown hgrow4 HB0.out.size (fun r hr=>(HLT0.out r hr).1));have RK4:=Lib.hid (RL.out.kept hgrow4 (.inr (fun e=>by have e2:some g=some wr.heap.size:=e;have:=HGB.out;have:=Option.some.inj e2;omega)));have R4:=World.ownsRow.alloc hown4 (.cells #[.string s] 9);have N4:=Own.new w4 9 #[.string s];have HB5:=Lib.hid (HB4.out.alloc HB4.out.size (.cells #[.string s] 9));have HLT4:=Lib.hid (World.ownsRow.lt R4);have hs4:wr.heap.size≤w4.heap.size:=HB4.out.size;have RA4:=Lib.hid (RK4.out.alloc (.cells #[.string s] 9)))
           | (at_builtin;refine wpList_append_own _ rfl _ _ 30 rfl wr.heap.size 9 i0 _ 1 16 Tryz.underlying30 hi hi0 hi1 hi2 rfl (by decide) _ _ _ rfl R4 ⟨w4.heap.size,0,none⟩ 1 1 [.string s] rfl rfl (fun j u hj=>cells_oneS N4 j u hj) (by simp [Value.oneCell']) (by simp only [maxLen];omega) (by omega) (by simp only [World.size_alloc];omega) ?_;intro v5 w5 hown5 hgrow5 _;have HB55:=Lib.hid (HB5.out.grown hgrow5 HB5.out.size (fun r hr=>(HLT4.out r hr).1));have HLT5:=Lib.hid (World.ownsRow.lt hown5);have hs5:wr.heap.size≤w5.heap.size:=HB55.out.size;have RK5:=Lib.hid (RA4.out.kept hgrow5 (.inr (fun e=>by have:=HGB.out;have:=(HLT4.out g e.symm).1;omega))))
           | (at_builtin;refine wpList_append_own _ rfl _ _ 30 rfl wr.heap.size 9 i0 _ 1 16 Tryz.underlying30 hi hi0 hi1 hi2 rfl (by decide) _ _ _ rfl hown5 ⟨g,k,none⟩ (n-k) _ ((l.drop k).map encStr) rfl HLK.out.2 (drop_cells RK5.out k) (enc_one _) (by simp only [maxLen];omega) (by omega) hs5 ?_;intro v6 w6 hown6 hgrow6 _;have HB6:=Lib.hid (HB55.out.grown hgrow6 HB55.out.size (fun r hr=>(HLT5.out r hr).1))))
          go_ret
          refine ⟨_,rfl,⟨wr.heap.size,HB6.out.size,?_⟩,HB6.out⟩
          have e1:(l.take k++s.data.toList::l.drop k).length=0+k+1+(n-k):=by
           have:=HN.out
           simp only [List.length_append,List.length_cons,List.length_take,List.length_drop]
           omega
          have e2:(l.take k++s.data.toList::l.drop k).map encStr=(([]++(l.take k).map encStr)++[.string s])++(l.drop k).map encStr:=by
           simp [enc_of]
          rw [HE.out,e1,e2]
          exact hown6
    · obtain rfl : k = n := by omega
      have HE:Hid (putL s.data.toList l=l.take k++s.data.toList::l.drop k):=by
       have h9:=putL_at HQ0.out l k HLT.out (by have:=HN.out;omega) (fun z hz=>by
        have:=(List.getElem?_eq_some_iff.1 hz).1
        have:=HN.out
        omega)
       rw [Hid,h9]
       exact if_neg fun e=>by
        have:=(List.getElem?_eq_some_iff.1 e).1
        have:=HN.out
        omega
      rcases HROW.out.2.2 with ⟨h1,h2⟩ | ⟨g,cap,cur,h1,h3,h4,h2,_⟩
      · obtain ⟨rfl, _, rfl⟩ := Value.slice.inj h1
        have hk0:k=0:=by have:=HN.out;omega
        clear h1 h2
        subst hk0
        have R0:=World.ownsRow_made (base:=wr.heap.size) (e:=9) (size:=1) wr #[] 0 (Nat.le_refl _) (by decide) rfl
        have HB0:=Lib.hid ((Below.refl wr.heap.size wr).alloc (Nat.le_refl _) (.cells #[] 9))
        have HLT0:=Lib.hid (World.ownsRow.lt R0)
        have HLK:Hid (((l.take 0).map encStr).length=0*1∧((l.drop 0).map encStr).length=(0-0)*1):=by
         have:=HN.out
         simp only [Hid,List.length_map,List.length_take,List.length_drop]
         omega
        go_wp2_with (first
         | (at_builtin;refine wpList_append_own_none rfl _ _ 30 rfl wr.heap.size 9 i0 1 Tryz.underlying30 hi _ _ _ rfl R0 rfl ?_;have HB4:=HB0;have R4:=World.ownsRow.alloc R0 (.cells #[.string s] 9);have N4:=Own.new (wr.alloc (.cells #[] 9)) 9 #[.string s];have HB5:=Lib.hid (HB4.out.alloc HB4.out.size (.cells #[.string s] 9));have HLT4:=Lib.hid (World.ownsRow.lt R4);have hs4:wr.heap.size≤(wr.alloc (.cells #[] 9)).heap.size:=HB4.out.size;rw [World.size_alloc] at N4)
         | (at_builtin;refine wpList_append_own _ rfl _ _ 30 rfl wr.heap.size 9 i0 _ 1 16 Tryz.underlying30 hi hi0 hi1 hi2 rfl (by decide) _ _ _ rfl R4 ⟨wr.heap.size+1,0,none⟩ 1 1 [.string s] rfl rfl (fun j u hj=>cells_oneS N4 j u hj) (by simp [Value.oneCell']) (by simp only [maxLen];omega) (by omega) (by simp only [World.size_alloc];omega) ?_;intro v5 w5 hown5 hgrow5 _;have HB55:=Lib.hid (HB5.out.grown hgrow5 HB5.out.size (fun r hr=>(HLT4.out r hr).1));have HLT5:=Lib.hid (World.ownsRow.lt hown5);have hs5:wr.heap.size≤w5.heap.size:=HB55.out.size)
         | (at_builtin;refine wpList_append_own_none rfl _ _ 30 rfl wr.heap.size 9 i0 1 Tryz.underlying30 hi _ _ _ rfl hown5 rfl ?_;have HB6:=HB55))
        go_ret
        refine ⟨_,rfl,⟨wr.heap.size,HB6.out.size,?_⟩,HB6.out⟩
        have e3:l.drop 0=[]:=List.drop_eq_nil_of_le (by have:=HN.out;omega)
        have e1:(l.take 0++s.data.toList::l.drop 0).length=0+0+1+0:=by
         have:=HN.out
         simp only [List.length_append,List.length_cons,List.length_take,List.length_drop]
         omega
        have e2:(l.take 0++s.data.toList::l.drop 0).map encStr=(([]++(l.take 0).map encStr)++[.string s])++[]:=by
         simp [enc_of,e3]
        rw [HE.out,e1,e2]
        simpa using hown5
      · obtain ⟨rfl, _, rfl⟩ := Value.slice.inj h1
        have hcn:k≤c:=by have:=HN.out;omega
        clear h1 h2 h3 h4
        by_cases hck:c=k
        · subst hck
          have R0:=World.ownsRow_made (base:=wr.heap.size) (e:=9) (size:=1) wr #[] 0 (Nat.le_refl _) (by decide) rfl
          have HB0:=Lib.hid ((Below.refl wr.heap.size wr).alloc (Nat.le_refl _) (.cells #[] 9))
          have HLT0:=Lib.hid (World.ownsRow.lt R0)
          have HLK:Hid (((l.take c).map encStr).length=c*1∧((l.drop c).map encStr).length=(c-c)*1):=by
           have:=HN.out
           simp only [Hid,List.length_map,List.length_take,List.length_drop]
           omega
          have hkc:(c:Int)≤(c:Int):=by omega
          have HGB:Hid (g<wr.heap.size):=(World.ownsRow.lt HROW.out.2 g rfl).2
          have RL:=Lib.hid (HROW.out.2.alloc (.cells #[] 9))
          go_wp2_with (first
           | (at_builtin;refine wpList_append_own _ rfl _ _ 30 rfl wr.heap.size 9 i0 _ 1 16 Tryz.underlying30 hi hi0 hi1 hi2 rfl (by decide) _ _ _ rfl R0 ⟨g,0,none⟩ c c ((l.take c).map encStr) rfl HLK.out.1 (take_cells RL.out c) (enc_one _) (by simp only [maxLen];omega) (by omega) (by simp only [World.size_alloc];omega) ?_;intro v4 w4 hown4 hgrow4 _;have HB4:=Lib.hid (HB0.out.grown hgrow4 HB0.out.size (fun r hr=>(HLT0.out r hr).1));have RK4:=Lib.hid (RL.out.kept hgrow4 (.inr (fun e=>by have e2:some g=some wr.heap.size:=e;have:=HGB.out;have:=Option.some.inj e2;omega)));have R4:=World.ownsRow.alloc hown4 (.cells #[.string s] 9);have N4:=Own.new w4 9 #[.string s];have HB5:=Lib.hid (HB4.out.alloc HB4.out.size (.cells #[.string s] 9));have HLT4:=Lib.hid (World.ownsRow.lt R4);have hs4:wr.heap.size≤w4.heap.size:=HB4.out.size;have RA4:=Lib.hid (RK4.out.alloc (.cells #[.string s] 9)))
           | (at_builtin;refine wpList_append_own _ rfl _ _ 30 rfl wr.heap.size 9 i0 _ 1 16 Tryz.underlying30 hi hi0 hi1 hi2 rfl (by decide) _ _ _ rfl R4 ⟨w4.heap.size,0,none⟩ 1 1 [.string s] rfl rfl (fun j u hj=>cells_oneS N4 j u hj) (by simp [Value.oneCell']) (by simp only [maxLen];omega) (by omega) (by simp only [World.size_alloc];omega) ?_;intro v5 w5 hown5 hgrow5 _;have HB55:=Lib.hid (HB5.out.grown hgrow5 HB5.out.size (fun r hr=>(HLT4.out r hr).1));have HLT5:=Lib.hid (World.ownsRow.lt hown5);have hs5:wr.heap.size≤w5.heap.size:=HB55.out.size;have RK5:=Lib.hid (RA4.out.kept hgrow5 (.inr (fun e=>by have:=HGB.out;have:=(HLT4.out g e.symm).1;omega))))
           | (at_builtin;refine wpList_append_own _ rfl _ _ 30 rfl wr.heap.size 9 i0 _ 1 16 Tryz.underlying30 hi hi0 hi1 hi2 rfl (by decide) _ _ _ rfl hown5 ⟨g,0,none⟩ 0 _ [] rfl rfl (fun j u hj=>by simp at hj) (by simp) (by simp only [maxLen];omega) (by omega) hs5 ?_;intro v6 w6 hown6 hgrow6 _;have HB6:=Lib.hid (HB55.out.grown hgrow6 HB55.out.size (fun r hr=>(HLT5.out r hr).1))))
          go_ret
          refine ⟨_,rfl,⟨wr.heap.size,HB6.out.size,?_⟩,HB6.out⟩
          have e3:l.drop c=[]:=List.drop_eq_nil_of_le (by have:=HN.out;omega)
          have e1:(l.take c++s.data.toList::l.drop c).length=0+c+1+0:=by
           have:=HN.out
           simp only [List.length_append,List.length_cons,List.length_take,List.length_drop]
           omega
          have e2:(l.take c++s.data.toList::l.drop c).map encStr=(([]++(l.take c).map encStr)++[.string s])++[]:=by
           simp [enc_of,e3]
          rw [HE.out,e1,e2]
          exact hown6
        · have hck' : ¬ c = k := hck
          have R0:=World.ownsRow_made (base:=wr.heap.size) (e:=9) (size:=1) wr #[] 0 (Nat.le_refl _) (by decide) rfl
          have HB0:=Lib.hid ((Below.refl wr.heap.size wr).alloc (Nat.le_refl _) (.cells #[] 9))
          have HLT0:=Lib.hid (World.ownsRow.lt R0)
          have HLK:Hid (((l.take k).map encStr).length=k*1∧((l.drop k).map encStr).length=(k-k)*1):=by
           have:=HN.out
           simp only [Hid,List.length_map,List.length_take,List.length_drop]
           omega
          have hkc:(k:Int)≤(c:Int):=by omega
          have HGB:Hid (g<wr.heap.size):=(World.ownsRow.lt HROW.out.2 g rfl).2
          have RL:=Lib.hid (HROW.out.2.alloc (.cells #[] 9))
          go_wp2_with (first
           | (at_builtin;refine wpList_append_own _ rfl _ _ 30 rfl wr.heap.size 9 i0 _ 1 16 Tryz.underlying30 hi hi0 hi1 hi2 rfl (by decide) _ _ _ rfl R0 ⟨g,0,none⟩ k c ((l.take k).map encStr) rfl HLK.out.1 (take_cells RL.out k) (enc_one _) (by simp only [maxLen];omega) (by omega) (by simp only [World.size_alloc];omega) ?_;intro v4 w4 hown4 hgrow4 _;have HB4:=Lib.hid (HB0.out.grown hgrow4 HB0.out.size (fun r hr=>(HLT0.out r hr).1));have RK4:=Lib.hid (RL.out.kept hgrow4 (.inr (fun e=>by have e2:some g=some wr.heap.size:=e;have:=HGB.out;have:=Option.some.inj e2;omega)));have R4:=World.ownsRow.alloc hown4 (.cells #[.string s] 9);have N4:=Own.new w4 9 #[.string s];have HB5:=Lib.hid (HB4.out.alloc HB4.out.size (.cells #[.string s] 9));have HLT4:=Lib.hid (World.ownsRow.lt R4);have hs4:wr.heap.size≤w4.heap.size:=HB4.out.size;have RA4:=Lib.hid (RK4.out.alloc (.cells #[.string s] 9)))
           | (at_builtin;refine wpList_append_own _ rfl _ _ 30 rfl wr.heap.size 9 i0 _ 1 16 Tryz.underlying30 hi hi0 hi1 hi2 rfl (by decide) _ _ _ rfl R4 ⟨w4.heap.size,0,none⟩ 1 1 [.string s] rfl rfl (fun j u hj=>cells_oneS N4 j u hj) (by simp [Value.oneCell']) (by simp only [maxLen];omega) (by omega) (by simp only [World.size_alloc];omega) ?_;intro v5 w5 hown5 hgrow5 _;have HB55:=Lib.hid (HB5.out.grown hgrow5 HB5.out.size (fun r hr=>(HLT4.out r hr).1));have HLT5:=Lib.hid (World.ownsRow.lt hown5);have hs5:wr.heap.size≤w5.heap.size:=HB55.out.size;have RK5:=Lib.hid (RA4.out.kept hgrow5 (.inr (fun e=>by have:=HGB.out;have:=(HLT4.out g e.symm).1;omega))))
           | (at_builtin;refine wpList_append_own _ rfl _ _ 30 rfl wr.heap.size 9 i0 _ 1 16 Tryz.underlying30 hi hi0 hi1 hi2 rfl (by decide) _ _ _ rfl hown5 ⟨g,k,none⟩ 0 _ [] rfl rfl (fun j u hj=>by simp at hj) (by simp) (by simp only [maxLen];omega) (by omega) hs5 ?_;intro v6 w6 hown6 hgrow6 _;have HB6:=Lib.hid (HB55.out.grown hgrow6 HB55.out.size (fun r hr=>(HLT5.out r hr).1))))
          go_ret
          refine ⟨_,rfl,⟨wr.heap.size,HB6.out.size,?_⟩,HB6.out⟩
          have e3:l.drop k=[]:=List.drop_eq_nil_of_le (by have:=HN.out;omega)
          have e1:(l.take k++s.data.toList::l.drop k).length=0+k+1+0:=by
           have:=HN.out
           simp only [List.length_append,List.length_cons,List.length_take,List.length_drop]
           omega
          have e2:(l.take k++s.data.toList::l.drop k).map encStr=(([]++(l.take k).map encStr)++[.string s])++[]:=by
           simp [enc_of,e3]
          rw [HE.out,e1,e2]
          exact hown6
open Go.RowKit Go.Maps
set_option linter.unusedVariables false
theorem nl_len_le {L:List ByteArray} {l:List (List UInt8)} (h:NL L l):l.length≤L.length:=by
 have:=len_le l (L.map fun b=>b.data.toList) (nodup_of h.1) fun x hx=>List.mem_map.2 ⟨⟨x.toArray⟩,((h.2 x).1 hx).2,by simp⟩
 simpa using this
def NmR (L:List ByteArray) (w:World) (e:Ending) (w':World):Prop:=∃ base l v,e=.returned v∧LsR base w' l v∧NL L l∧Below w.heap.size w w'
theorem r_namesDecls {base:Nat} {w:World} {L:List ByteArray} {l:List (List UInt8)} {v:Value} (h:LsR base w l v) (hL:NL L l) {ds:List Dc} {a:Option Addr} {c:Nat} (hd:dcsAt (fun _=>True) w ds a) (hlen:L.length+ds.length≤2097152) :
 Calls Tryz.prog 31 #[v,.slice a ds.length c] w (NmR (L++nmDs ds) w):=by
 have HPU:Hid (∀ base X l v s,LsR base X l v→l.length≤2097152→Calls Tryz.prog 32 #[v,.string s] X (PuP s l X)):=fun base X l v s h1 h2=>r_put h1 h2 s
 have E1:=Lib.hid hd
 have H0:Hid (∃ base l',LsR base w l' v∧NL (L++nmDs (ds.take 0)) l'):=⟨base,l,h,by simpa [nmDs] using hL⟩
 obtain ⟨n,hn⟩:∃ n,n=ds.length:=⟨_,rfl⟩
 have HN:=Lib.hid hn
 rw [← hn] at hlen ⊢
 clear h hL hd hn
 go_enter Tryz.func31,Tryz.ntmps31
 go_wp2_with fail
 go_loopg [0,5] (n+1) (fun m' v u X=>∃ i:Nat,u=.int .i64 (i:Int)∧i≤n∧m'=n-i+1∧(∃ base l',LsR base X l' v∧NL (L++nmDs (ds.take i)) l')∧Below w.heap.size w X)
 case atStart=>exact ⟨0,rfl,Nat.zero_le _,by omega,H0.out,Below.refl _ _⟩
 case round =>
  obtain ⟨i,rfl,hi,hm,⟨b1,l1,hl1,hn1⟩,hX⟩:=hrel
  have HM:=Lib.hid hm
  have HX:=Lib.hid hX
  have HL1:=Lib.hid hl1
  have HN1:=Lib.hid hn1
  clear hm hX hl1 hn1
  by_cases hin:i<n
  · have il : i < ds.length := by have := HN.out; omega
    have g1:ds[i]? = some ds[i]:=List.getElem?_eq_getElem il
    have htk:ds.take (i+1)=ds.take i++[ds[i]]:=by rw [List.take_succ_eq_append_getElem il]
    generalize ds[i]=x at g1 htk
    rcases E1.out with e | ⟨g,q,e,_,e1⟩
    · cases ds with
      | nil=>simp at il
      | cons=>cases e
    obtain rfl:a=some ⟨g,q,none⟩:=e
    have x1:=dcsIn_get i x e1 g1
    obtain ⟨nm,wd,ps⟩:=x
    obtain ⟨f0,_,_⟩:=x1
    have lg:=lt_of_at f0
    simp only at lg f0
    have hin':(i:Int)<(n:Int):=by omega
    have f0:wr.cell? ⟨g,q+i*3,none⟩=some (.string nm):=(HX.out.cell (p:=⟨g,q+i*3,none⟩) lg).trans f0
    have HNX:Hid (L++nmDs (ds.take (i+1))=(L++nmDs (ds.take i))++[nm]):=by rw [Hid,htk];simp [nmDs]
    have HLEN:Hid (l1.length≤2097152):=by
     have:=nl_len_le HN1.out
     have h2:(nmDs (ds.take i)).length≤i:=by simp only [nmDs,List.length_map,List.length_take];omega
     simp only [List.length_append] at this
     unfold Hid;omega
    clear g1 il htk e1 lg
    go_wp2_with fail
    go_at_call 32
    refine (HPU.out _ _ _ _ nm HL1.out HLEN.out).mono ?_
    rintro e w5 ⟨v5,rfl,⟨b5,h5⟩,hb5⟩
    have H5:Hid (∃ base l',LsR base w5 l' v5∧NL (L++nmDs (ds.take (i+1))) l'):=⟨b5,_,h5,by rw [HNX.out];exact nl_put HN1.out nm⟩
    have HB5:=Lib.hid (HX.out.trans (hb5.mono HX.out.size))
    clear h5 hb5
    go_wp2_with fail
    go_roundg (n-(i+1)+1)
    case measure=>have:=HM.out;omega
    case rel=>exact ⟨i+1,rfl,by omega,by omega,H5.out,HB5.out⟩
  · obtain rfl : i = n := by omega
    have HF:Hid (L++nmDs (ds.take i)=L++nmDs ds):=by rw [Hid,List.take_of_length_le (by rw [← HN.out];exact Nat.le_refl _)]
    go_wp2_with fail
    go_ret
    exact ⟨b1,l1,_,rfl,HL1.out,by rw [← HF.out];exact HN1.out,HX.out⟩
open Go.RowKit Go.Maps
set_option linter.unusedVariables false
theorem nmEs_app:∀ a b:List Ex,nmEs (a++b)=nmEs a++nmEs b
 | [],b=>by simp [nmEs]
 | x::r,b=>by simp only [List.cons_append,nmEs,nmEs_app r b,List.append_assoc]
theorem nmEs_part {l:List Ex} {i:Nat} {x:Ex} (h:l[i]? = some x):nmEs (l.take (i+1))=nmEs (l.take i)++nmE x∧(nmEs (l.take i)).length+(nmE x).length≤(nmEs l).length:=by
 have il:=(List.getElem?_eq_some_iff.1 h).1
 have hx:=(List.getElem?_eq_some_iff.1 h).2
 have h1:nmEs (l.take (i+1))=nmEs (l.take i)++nmE x:=by
  rw [List.take_succ_eq_append_getElem il,nmEs_app,hx];simp [nmEs]
 refine ⟨h1,?_⟩
 have h2:nmEs l=nmEs (l.take (i+1))++nmEs (l.drop (i+1)):=by rw [← nmEs_app,List.take_append_drop]
 rw [h2,h1]
 simp only [List.length_append]
 omega
def NxE (es : List Ex) : Prop := ctEs es ≤ 1048576 → ∀ (base : Nat) (w : World) (L : List ByteArray) (l : List (List UInt8)) (v : Value) (a : Option Addr) (c : Nat), LsR base w l v → NL L l → exsAt (fun _ => True) w es a → L.length + (nmEs es).length ≤ 2097152 →
    Calls Tryz.prog 72 #[v,.slice a es.length c] w (NmR (L++nmEs es) w)
theorem nx_exs {es:List Ex} (HI:∀ x∈es,NxE x.kids):NxE es:=by
 intro hbk base w L l v a c h hL hd hlen
 have HBK:=Lib.hid hbk
 have HPU:Hid (∀ base X l v s,LsR base X l v→l.length≤2097152→Calls Tryz.prog 32 #[v,.string s] X (PuP s l X)):=fun base X l v s h1 h2=>r_put h1 h2 s
 have HI:=Lib.hid HI
 have E1:=Lib.hid hd
 have HLL:=Lib.hid hlen
 have H0:Hid (∃ base l',LsR base w l' v∧NL (L++nmEs (es.take 0)) l'):=⟨base,l,h,by simpa [nmEs] using hL⟩
 obtain ⟨n,hn⟩:∃ n,n=es.length:=⟨_,rfl⟩
 have HN:=Lib.hid hn
 have hn20:n≤1048576:=by rw [hn];exact Nat.le_trans (ctEs_len es) hbk
 rw [← hn]
 clear h hL hd hn hlen hbk
 go_enter Tryz.func72,Tryz.ntmps72
 go_wp2_with fail
 go_loopg [0,5] (n+1) (fun m' v u X=>∃ i:Nat,u=.int .i64 (i:Int)∧i≤n∧m'=n-i+1∧(∃ base l',LsR base X l' v∧NL (L++nmEs (es.take i)) l')∧Below w.heap.size w X)
 case atStart=>exact ⟨0,rfl,Nat.zero_le _,by omega,H0.out,Below.refl _ _⟩
 case round =>
  obtain ⟨i,rfl,hi,hm,⟨b1,l1,hl1,hn1⟩,hX⟩:=hrel
  have HM:=Lib.hid hm
  have HX:=Lib.hid hX
  have HL1:=Lib.hid hl1
  have HN1:=Lib.hid hn1
  clear hm hX hl1 hn1
  by_cases hin:i<n
  · have il : i < es.length := by have := HN.out; omega
    have g1:es[i]? = some es[i]:=List.getElem?_eq_getElem il
    have hmem:es[i]∈es:=List.getElem_mem il
    generalize es[i]=x at g1 hmem
    have hpt:=nmEs_part g1
    rcases E1.out with e | ⟨g,q,e,_,e1⟩
    · cases es with
      | nil=>simp at il
      | cons=>cases e
    obtain rfl:a=some ⟨g,q,none⟩:=e
    have x1:=exsIn_get i x e1 g1
    have hix:=HI.out x hmem
    have hbx:ctE x≤1048576:=Nat.le_trans (ctEs_mem hmem) HBK.out
    obtain ⟨k,op,wd,nm,ks,ps⟩:=x
    obtain ⟨a0,_,_,a3,⟨ka,kc,a4,w4⟩,_⟩:=x1
    have hin':(i:Int)<(n:Int):=by omega
    have b0:wr.cell? ⟨g,q+i*6,none⟩=some (.int .u8 k):=by rw [HX.out.cell (p:=⟨g,q+i*6,none⟩) (cell_lt a0)];exact a0
    have b3:wr.cell? ⟨g,q+i*6+3,none⟩=some (.string nm):=by rw [HX.out.cell (p:=⟨g,q+i*6+3,none⟩) (cell_lt a3)];exact a3
    obtain ⟨nk,hnk⟩:∃ z,z=ks.length:=⟨_,rfl⟩
    have HC4:Hid (∀ base X M l v,Below w.heap.size w X→LsR base X l v→NL M l→M.length+(nmEs ks).length≤2097152→Calls Tryz.prog 72 #[v,.slice ka nk kc] X (NmR (M++nmEs ks) X)):=fun base X M l v hX h1 h2 h3=>by
     rw [hnk];exact hix (show ctEs ks≤1048576 by simp only [ctE] at hbx;omega) base X M l v ka kc h1 h2 (exsAt_below w4 hX) h3
    rw [← hnk] at a4
    have HA4:Hid (∀ X,Below w.heap.size w X→X.cell? ⟨g,q+i*6+4,none⟩=some (.slice ka nk kc)):=fun X hX=>by rw [hX.cell (p:=⟨g,q+i*6+4,none⟩) (cell_lt a4)];exact a4
    have HB3:Hid (l1.length≤2097152∧(L++nmEs (es.take i)).length+(nmE (.mk k op wd nm ks ps)).length≤2097152):=by
     have h1:=nl_len_le HN1.out
     have h2:=hpt.2
     have h3:=HLL.out
     simp only [List.length_append] at h1 ⊢
     unfold Hid
     omega
    have HPT:=Lib.hid hpt.1
    clear a0 a3 a4 w4 hnk hix hbx hmem g1 il e1 hpt
    by_cases hk:k=2
    · subst hk
      have HE2:Hid (nmE (.mk 2 op wd nm ks ps)=[nm]++nmEs ks):=by simp [Hid,nmE]
      go_wp2_with fail
      go_at_call 32
      refine (HPU.out _ _ _ _ nm HL1.out HB3.out.1).mono ?_
      rintro e w5 ⟨v5,rfl,⟨b5,h5⟩,hb5⟩
      have HB5:=Lib.hid (HX.out.trans (hb5.mono HX.out.size))
      have HL5:=Lib.hid h5
      have HN5:=Lib.hid (nl_put HN1.out nm)
      have b4:=HA4.out _ HB5.out
      clear h5 hb5
      go_wp2_with fail
      go_at_call 72
      refine (HC4.out _ _ _ _ _ HB5.out HL5.out HN5.out (by have:=HB3.out.2;rw [HE2.out] at this;simp only [List.length_append,List.length_singleton] at this ⊢;omega)).mono ?_
      rintro e w6 ⟨b6,l6,v6,rfl,h6,h7,hb6⟩
      have H6:Hid (∃ base l',LsR base w6 l' v6∧NL (L++nmEs (es.take (i+1))) l'):=⟨b6,l6,h6,by rw [HPT.out,HE2.out];simpa only [List.append_assoc] using h7⟩
      have HB6:=Lib.hid (HB5.out.trans (hb6.mono HB5.out.size))
      clear h6 h7 hb6
      go_wp2_with fail
      go_roundg (n-(i+1)+1)
      case measure=>have:=HM.out;omega
      case rel=>exact ⟨i+1,rfl,by omega,by omega,H6.out,HB6.out⟩
    · have hk1 : (k == 2) = false := by simpa using hk
      have HE2:Hid (nmE (.mk k op wd nm ks ps)=nmEs ks):=by simp [Hid,nmE,hk]
      have b4:=HA4.out _ HX.out
      clear hk
      go_wp2_with fail
      go_at_call 72
      refine (HC4.out _ _ _ _ _ HX.out HL1.out HN1.out (by have:=HB3.out.2;rw [HE2.out] at this;exact this)).mono ?_
      rintro e w6 ⟨b6,l6,v6,rfl,h6,h7,hb6⟩
      have H6:Hid (∃ base l',LsR base w6 l' v6∧NL (L++nmEs (es.take (i+1))) l'):=⟨b6,l6,h6,by rw [HPT.out,HE2.out];simpa only [List.append_assoc] using h7⟩
      have HB6:=Lib.hid (HX.out.trans (hb6.mono HX.out.size))
      clear h6 h7 hb6
      go_wp2_with fail
      go_roundg (n-(i+1)+1)
      case measure=>have:=HM.out;omega
      case rel=>exact ⟨i+1,rfl,by omega,by omega,H6.out,HB6.out⟩
  · obtain rfl : i = n := by omega
    have HF:Hid (L++nmEs (es.take i)=L++nmEs es):=by rw [Hid,List.take_of_length_le (by rw [← HN.out];exact Nat.le_refl _)]
    go_wp2_with fail
    go_ret
    exact ⟨b1,l1,_,rfl,HL1.out,by rw [← HF.out];exact HN1.out,HX.out⟩
theorem nx_kids:∀ e:Ex,NxE e.kids:=by
 intro e
 induction e using Ex.ind with
 | h k o w n ks a h=>exact nx_exs h
theorem r_namesExprs (l:List Ex):NxE l:=nx_exs fun x _=>nx_kids x
end Go.Proofs.YtimccjlhhjjcpaaGreatDoor

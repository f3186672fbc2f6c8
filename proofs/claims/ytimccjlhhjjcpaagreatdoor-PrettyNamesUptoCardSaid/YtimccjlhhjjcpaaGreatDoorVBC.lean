/- The proof, part 29: texts that belong together, in one. -/
import Derived.Test.YtimccjlhhjjcpaaGreatDoorVBB
import Derived.Test.YtimccjlhhjjcpaaGreatDoorVAY
import Derived.Test.YtimccjlhhjjcpaaGreatDoorVAB
import Derived.Test.YtimccjlhhjjcpaaGreatDoorVAA
import Derived.Test.YtimccjlhhjjcpaaGreatDoorVAC
import Derived.Deep.RegionWith
import Derived.Deep.CutBlock
set_option maxRecDepth 100000
set_option maxHeartbeats 20000000
namespace Go.Proofs.YtimccjlhhjjcpaaGreatDoor
open Go.RowKit
set_option linter.unusedVariables false
def putL (s:List UInt8):List (List UInt8)→List (List UInt8)
 | []=>if s=[] then [] else [s]
 | y::r=>if s=[] then y::r else if y<s then y::putL s r else if y=s then y::r else s::y::r
theorem putL_empty:∀ l:List (List UInt8),putL [] l=l
 | []=>by simp [putL]
 | y::r=>by simp [putL]
theorem lt_or (a b:List UInt8):¬ a<b→a≠b→b<a:=fun h n=>by
 have h1:=List.not_lt.1 h
 rcases List.le_iff_lt_or_eq.1 h1 with h2 | h2
 · exact h2
 · exact absurd h2.symm n
theorem mem_putL {s:List UInt8} (h0:s≠[]) (z:List UInt8):∀ l:List (List UInt8),z∈putL s l↔z=s∨z∈l
 | []=>by simp [putL,h0]
 | y :: r => by
   have ih:=mem_putL h0 z r
   simp only [putL,h0,if_false]
   split
   · simp only [List.mem_cons,ih];exact or_left_comm
   · split
     · rename_i e
       subst e
       simp only [List.mem_cons]
       exact ⟨.inr,fun h=>by rcases h with h | h;exact .inl h;exact h⟩
     · simp only [List.mem_cons]
theorem sorted_putL (s:List UInt8):∀ l:List (List UInt8),l.Pairwise (· < ·)→(putL s l).Pairwise (· < ·)
 | [], _ => by
   unfold putL;split
   · exact .nil
   · exact List.pairwise_singleton _ _
 | y :: r, h => by
   have k:=List.pairwise_cons.1 h
   unfold putL;split
   · exact h
   rename_i h0
   split
   · rename_i hys
     refine List.pairwise_cons.2 ⟨fun z hz=>?_,sorted_putL s r k.2⟩
     rcases (mem_putL h0 z r).1 hz with e | e
     · subst e;exact hys
     · exact k.1 z e
   · split
     · exact h
     · rename_i hn he
       have hsy:=lt_or y s hn he
       refine List.pairwise_cons.2 ⟨fun z hz=>?_,h⟩
       rcases List.mem_cons.1 hz with e | e
       · subst e;exact hsy
       · exact List.lt_trans hsy (k.1 z e)
theorem nl_put {L:List ByteArray} {l:List (List UInt8)} (h:NL L l) (s:ByteArray):NL (L++[s]) (putL s.data.toList l):=by
 refine ⟨sorted_putL _ _ h.1,fun z=>?_⟩
 by_cases h0:s.data.toList=[]
 · rw [h0, putL_empty, h.2]
   refine ⟨fun k=>⟨k.1,List.mem_append_left _ k.2⟩,fun k=>⟨k.1,?_⟩⟩
   rcases List.mem_append.1 k.2 with e | e
   · exact e
   · have e := List.mem_singleton.1 e
     exact absurd (by rw [← h0,← e]) k.1
 · rw [mem_putL h0, h.2]
   refine ⟨fun k=>?_,fun k=>?_⟩
   · rcases k with e | e
     · subst e;exact ⟨h0,by rw [bytes_back];simp⟩
     · exact ⟨e.1,List.mem_append_left _ e.2⟩
   · rcases List.mem_append.1 k.2 with e | e
     · exact .inr ⟨k.1,e⟩
     · have e := List.mem_singleton.1 e
       exact .inl (by rw [← e])
theorem putL_at {s:List UInt8} (h0:s≠[]):∀ (l:List (List UInt8)) (k:Nat),(∀ i y,i<k→l[i]? = some y→y<s)→k≤l.length→(∀ y,l[k]? = some y→¬ y<s) →
 putL s l=if l[k]? = some s then l else l.take k++s::l.drop k
 | [], k, _, hk, _ => by
   have:k=0:=by simpa using hk
   subst this
   simp [putL,h0]
 | y :: r, 0, _, _, hn => by
   have:=hn y rfl
   simp only [putL,h0,if_false,this]
   simp
 | y :: r, k + 1, hl, hk, hn => by
   have hy:=hl 0 y (Nat.succ_pos _) rfl
   have ih:=putL_at h0 r k (fun i z hi hz=>hl (i+1) z (by omega) (by simpa using hz)) (by simpa using hk) (fun z hz=>hn z (by simpa using hz))
   simp only [putL,h0,if_false,hy,if_true,ih,List.getElem?_cons_succ,List.take_succ_cons,List.drop_succ_cons,List.cons_append]
   split <;> rfl
open Go.RowKit
set_option linter.unusedVariables false
structure VpN (k1:Value) (R:Nat→Prop) (w0:World) (Gd:List Vz→Prop) (P:List Vz→World→Prop):Prop where
 keep:∀ {V:List Vz} {W W':World},P V W→Below W.heap.size W W'→P V W'
 sk:∀ {V:List Vz} {W:World},P V W→Sk w0 W
 pre:∀ {A B:List Vz},Gd (A++B)→Gd A
 step:∀ {V:List Vz} {v:Vz} {W:World} {s:Value},P V W→Vok R w0 v→NmS w0 W v.nm s→Gd (V++[v])→Calls Tryz.prog 27 #[.pointer (some v.pl),s,k1] W fun e W'=>e=.returned (.tuple #[])∧P (V++[v]) W'∧∀ b,w0.heap.size≤b→b<W.heap.size→W'.heap[b]? = W.heap[b]?
theorem p_eachDeclN {k1:Value} {R:Nat→Prop} {w0:World} {Gd:List Vz→Prop} {P:List Vz→World→Prop} (H:VpN k1 R w0 Gd P) {l:List Dc} (hl:l.length≤9223372036854775807) {a:Option Addr} {c:Nat} {V:List Vz} {w:World} (h1:dcsAt R w0 l a) (h2:P V w) (hv0:Gd (V++vDsA w0 l a)) :
 Calls Tryz.prog 66 #[.slice a l.length c,.func (.func 27) #[] #[k1]] w fun e w'=>e=.returned (.tuple #[])∧P (V++vDsA w0 l a) w':=by
 have H:=Lib.hid H
 have E1:=Lib.hid h1
 have HP0:=Lib.hid h2
 have HL0:=Lib.hid hv0
 obtain ⟨n,hn⟩:∃ n,n=l.length:=⟨_,rfl⟩
 rw [← hn] at hl ⊢
 have HN:=Lib.hid hn
 clear h1 h2 hn hv0
 go_enter Tryz.func66,Tryz.ntmps66
 go_wp2_with fail
 go_loopg [7] (n+1) (fun m' u W=>∃ i:Nat,u=.int .i64 (i:Int)∧i≤n∧m'=n-i+1∧P (V++vDsA w0 (l.take i) a) W)
 case atStart=>exact ⟨0,rfl,Nat.zero_le _,by omega,by rw [List.take_zero,vDsA_nil,List.append_nil];exact HP0.out⟩
 case round =>
  obtain ⟨i,rfl,hi,hm,hP⟩:=hrel
  have HM:=Lib.hid hm
  have HP:=Lib.hid hP
  clear hm hP HP0
  by_cases hin:i<n
  · have il : i < l.length := by have := HN.out; omega
    have g1:l[i]? = some l[i]:=List.getElem?_eq_getElem il
    have hmem:l[i]∈l:=List.getElem_mem il
    generalize l[i]=x at g1 hmem
    rcases E1.out with e | ⟨g,q,e,hg,e1⟩
    · cases l with
      | nil=>simp at il
      | cons=>cases e
    obtain rfl:a=some ⟨g,q,none⟩:=e
    have x1:=dcsIn_get i x e1 g1
    have HV:Hid (vDsA w0 (l.take (i+1)) (some ⟨g,q,none⟩)=vDsA w0 (l.take i) (some ⟨g,q,none⟩)++vD w0 x g (q+i*3)):=vDs_take w0 l i g q x g1
    have HVL:Hid (Gd (V++vDsA w0 (l.take (i+1)) (some ⟨g,q,none⟩))):=by
     obtain ⟨r,hr⟩:=vDsA_split w0 l (i+1) (some ⟨g,q,none⟩)
     have h9:=HL0.out
     rw [hr,← List.append_assoc] at h9
     exact H.out.pre h9
    have hin':(i:Int)<(n:Int):=by omega
    have hSk:=H.out.sk HP.out
    have HSZ:=Lib.hid hSk.1
    obtain ⟨a0,a1,a2⟩:=x1
    have HS:Hid (∀ W,Below wr.heap.size wr W→Calls Tryz.prog 27 #[.pointer (some ⟨g,q+i*3+2,none⟩),.slice (some ⟨W.heap.size,0,none⟩) 1 1,k1] (W.alloc (.cells #[.pointer (some ⟨g,q+i*3,none⟩)] 49)) fun e' w'=>e'=.returned (.tuple #[])∧P (V++vDsA w0 (l.take (i+1)) (some ⟨g,q,none⟩)) w'):=fun W hW=>by
     rw [HV.out,← List.append_assoc]
     exact (H.out.step (v:=⟨⟨g,q+i*3+2,none⟩,[⟨g,q+i*3,none⟩]⟩) (H.out.keep HP.out (hW.alloc hW.size _)) (vok_dc hg a0 a1 a2) (nms_one (Nat.le_trans HSZ.out hW.size)) (by have h9:=HVL.out;rw [HV.out,← List.append_assoc] at h9;exact h9)).mono fun _ _ h=>⟨h.1,h.2.1⟩
    clear g1 e1 il a0 a1 a2 hmem hSk HV hg HP HVL
    go_wp2_with fail
    go_region_with (go_at_call 27;refine (HS.out _ (below_drewN (Below.refl _ _) _)).mono ?_;rintro e w3 ⟨rfl,hP⟩)
    have HP:=Lib.hid hP
    clear hP HS
    go_wp2_with fail
    go_roundg (n-(i+1)+1)
    case measure=>have:=HM.out;omega
    case rel=>exact ⟨i+1,rfl,by omega,by omega,HP.out⟩
  · have : i = n := by omega
    subst this
    have HPZ:Hid (P (V++vDsA w0 l a) wr):=by
     have:=HP.out
     rwa [List.take_of_length_le (by have:=HN.out;omega)] at this
    clear HP
    go_wp2_with fail
    exact bodyPost_end (results_none rfl _ _ _) rfl ⟨rfl,HPZ.out⟩
def VisEN (k1 : Value) (R : Nat → Prop) (w0 : World) (Gd : List Vz → Prop) (P : List Vz → World → Prop) (l : List Ex) : Prop := okEs l → l.length ≤ 9223372036854775807 → ∀ (a : Option Addr) (c : Nat) (V : List Vz) (w : World), exsAt R w0 l a → P V w → Gd (V ++ vEsA w0 l a) →
    Calls Tryz.prog 90 #[.slice a l.length c,.func (.func 27) #[] #[k1]] w fun e w'=>e=.returned (.tuple #[])∧P (V++vEsA w0 l a) w'
theorem vis_exsN {k1:Value} {R:Nat→Prop} {w0:World} {Gd:List Vz→Prop} {P:List Vz→World→Prop} (H:VpN k1 R w0 Gd P) {l:List Ex} (HI:∀ x∈l,VisEN k1 R w0 Gd P x.kids):VisEN k1 R w0 Gd P l:=by
 intro HO hl a c V w h1 h2 hv0
 have HI:=Lib.hid HI
 have HO:=Lib.hid HO
 have H:=Lib.hid H
 have E1:=Lib.hid h1
 have HP0:=Lib.hid h2
 have HL0:=Lib.hid hv0
 obtain ⟨n,hn⟩:∃ n,n=l.length:=⟨_,rfl⟩
 rw [← hn] at hl ⊢
 have HN:=Lib.hid hn
 clear h1 h2 hn hv0
 go_enter Tryz.func90,Tryz.ntmps90
 go_wp2_with fail
 go_loopg [8] (n+1) (fun m' u W=>∃ i:Nat,u=.int .i64 (i:Int)∧i≤n∧m'=n-i+1∧P (V++vEsA w0 (l.take i) a) W)
 case atStart=>exact ⟨0,rfl,Nat.zero_le _,by omega,by rw [List.take_zero,vEsA_nil,List.append_nil];exact HP0.out⟩
 case round =>
  obtain ⟨i,rfl,hi,hm,hP⟩:=hrel
  have HM:=Lib.hid hm
  have HP:=Lib.hid hP
  clear hm hP HP0
  by_cases hin:i<n
  · have il : i < l.length := by have := HN.out; omega
    have g1:l[i]? = some l[i]:=List.getElem?_eq_getElem il
    have hmem:l[i]∈l:=List.getElem_mem il
    generalize l[i]=x at g1 hmem
    rcases E1.out with e | ⟨g,q,e,hg,e1⟩
    · cases l with
      | nil=>simp at il
      | cons=>cases e
    obtain rfl:a=some ⟨g,q,none⟩:=e
    have x1:=exsIn_get i x e1 g1
    have HV:Hid (vEsA w0 (l.take (i+1)) (some ⟨g,q,none⟩)=vEsA w0 (l.take i) (some ⟨g,q,none⟩)++vE w0 x g (q+i*6)):=vEs_take w0 l i g q x g1
    have HVL:Hid (Gd (V++vEsA w0 (l.take (i+1)) (some ⟨g,q,none⟩))):=by
     obtain ⟨r,hr⟩:=vEsA_split w0 l (i+1) (some ⟨g,q,none⟩)
     have h9:=HL0.out
     rw [hr,← List.append_assoc] at h9
     exact H.out.pre h9
    have hin':(i:Int)<(n:Int):=by omega
    have hSk:=H.out.sk HP.out
    have HSZ:=Lib.hid hSk.1
    have hok:=okEs_mem HO.out x hmem
    have HX:=Lib.hid (HI.out x hmem)
    obtain ⟨k,o,wd,nm,ks,ps⟩:=x
    obtain ⟨a0,a1,a2,a3,⟨ka,kc,a4,w4⟩,a5⟩:=x1
    obtain ⟨o1,o2⟩:=hok
    by_cases hk:k=2
    · have HVN : Gd (V ++ vEsA w0 (l.take i) (some ⟨g, q, none⟩) ++ [⟨⟨g, q + i * 6 + 5, none⟩, [⟨g, q + i * 6 + 3, none⟩]⟩] ++ vEsA w0 ks ka) := by
       have h9:=HVL.out
       rw [HV.out,vE,if_pos hk,kE_of a4 w4] at h9
       simpa only [List.append_assoc,List.cons_append,List.nil_append] using h9
      have HS:Hid (∀ W,Below wr.heap.size wr W→Calls Tryz.prog 27 #[.pointer (some ⟨g,q+i*6+5,none⟩),.slice (some ⟨W.heap.size,0,none⟩) 1 1,k1] (W.alloc (.cells #[.pointer (some ⟨g,q+i*6+3,none⟩)] 49)) fun e' w'=>e'=.returned (.tuple #[])∧P (V++vEsA w0 (l.take i) (some ⟨g,q,none⟩)++[⟨⟨g,q+i*6+5,none⟩,[⟨g,q+i*6+3,none⟩]⟩]) w'):=fun W hW=>by
       have hv:=vok_ex (k:=k) hg a3 a4 a5
       rw [if_pos hk] at hv
       exact (H.out.step (v:=⟨⟨g,q+i*6+5,none⟩,[⟨g,q+i*6+3,none⟩]⟩) (H.out.keep HP.out (hW.alloc hW.size _)) hv (nms_one (Nat.le_trans HSZ.out hW.size)) (H.out.pre HVN)).mono fun _ _ h=>⟨h.1,h.2.1⟩
      have HC:Hid (∀ W,P (V++vEsA w0 (l.take i) (some ⟨g,q,none⟩)++[⟨⟨g,q+i*6+5,none⟩,[⟨g,q+i*6+3,none⟩]⟩]) W→Calls Tryz.prog 90 #[.slice ka ks.length kc,.func (.func 27) #[] #[k1]] W fun e' w'=>e'=.returned (.tuple #[])∧P (V++vEsA w0 (l.take (i+1)) (some ⟨g,q,none⟩)) w'):=fun W hW=>by
       have this:Calls Tryz.prog 90 #[.slice ka ks.length kc,.func (.func 27) #[] #[k1]] W fun e' w'=>e'=.returned (.tuple #[])∧P (V++vEsA w0 (l.take i) (some ⟨g,q,none⟩)++[⟨⟨g,q+i*6+5,none⟩,[⟨g,q+i*6+3,none⟩]⟩]++vEsA w0 ks ka) w':=HX.out o2 o1 ka kc _ W w4 hW HVN
       rw [HV.out,vE,if_pos hk,kE_of a4 w4,← List.append_assoc]
       simpa only [List.append_assoc,List.cons_append,List.nil_append] using this
      have HK:Hid (∀ W,P (V++vEsA w0 (l.take i) (some ⟨g,q,none⟩)++[⟨⟨g,q+i*6+5,none⟩,[⟨g,q+i*6+3,none⟩]⟩]) W→W.cell? ⟨g,q+i*6+4,none⟩=some (.slice ka ks.length kc)):=fun W hW=>(H.out.sk hW).sl a4
      have b0:wr.cell? ⟨g,q+i*6,none⟩=some (.int .u8 2):=by rw [← hk];exact hSk.u8 a0
      clear g1 e1 il a0 a1 a2 a3 a4 a5 hmem hSk HV hg HX w4 o1 o2 HVN HVL hk
      generalize ks.length=nk at *
      go_wp2_with fail
      go_region_with (go_at_call 27;refine (HS.out _ (below_drewN (Below.refl _ _) _)).mono ?_;rintro e w3 ⟨rfl,hP⟩)
      have HP:=Lib.hid hP
      have b4:=HK.out _ hP
      clear hP HS b0
      go_wp2_with fail
      go_at_call 90
      refine (HC.out _ HP.out).mono ?_
      rintro e w4 ⟨rfl,hP⟩
      have HP:=Lib.hid hP
      clear hP HC b4 HK
      go_wp2_with fail
      go_roundg (n-(i+1)+1)
      case measure=>have:=HM.out;omega
      case rel=>exact ⟨i+1,rfl,by omega,by omega,HP.out⟩
    · have HVN : Gd (V ++ vEsA w0 (l.take i) (some ⟨g, q, none⟩) ++ [⟨⟨g, q + i * 6 + 5, none⟩, []⟩] ++ vEsA w0 ks ka) := by
       have h9:=HVL.out
       rw [HV.out,vE,if_neg hk,kE_of a4 w4] at h9
       simpa only [List.append_assoc,List.cons_append,List.nil_append] using h9
      have HS:Hid (∀ W,Below wr.heap.size wr W→Calls Tryz.prog 27 #[.pointer (some ⟨g,q+i*6+5,none⟩),.slice none 0 0,k1] W fun e' w'=>e'=.returned (.tuple #[])∧P (V++vEsA w0 (l.take i) (some ⟨g,q,none⟩)++[⟨⟨g,q+i*6+5,none⟩,[]⟩]) w'):=fun W hW=>by
       have hv:=vok_ex (k:=k) hg a3 a4 a5
       rw [if_neg hk] at hv
       exact (H.out.step (v:=⟨⟨g,q+i*6+5,none⟩,[]⟩) (H.out.keep HP.out hW) hv nms_none (H.out.pre HVN)).mono fun _ _ h=>⟨h.1,h.2.1⟩
      have HC:Hid (∀ W,P (V++vEsA w0 (l.take i) (some ⟨g,q,none⟩)++[⟨⟨g,q+i*6+5,none⟩,[]⟩]) W→Calls Tryz.prog 90 #[.slice ka ks.length kc,.func (.func 27) #[] #[k1]] W fun e' w'=>e'=.returned (.tuple #[])∧P (V++vEsA w0 (l.take (i+1)) (some ⟨g,q,none⟩)) w'):=fun W hW=>by
       have this:Calls Tryz.prog 90 #[.slice ka ks.length kc,.func (.func 27) #[] #[k1]] W fun e' w'=>e'=.returned (.tuple #[])∧P (V++vEsA w0 (l.take i) (some ⟨g,q,none⟩)++[⟨⟨g,q+i*6+5,none⟩,[]⟩]++vEsA w0 ks ka) w':=HX.out o2 o1 ka kc _ W w4 hW HVN
       rw [HV.out,vE,if_neg hk,kE_of a4 w4,← List.append_assoc]
       simpa only [List.append_assoc,List.cons_append,List.nil_append] using this
      have HK:Hid (∀ W,P (V++vEsA w0 (l.take i) (some ⟨g,q,none⟩)++[⟨⟨g,q+i*6+5,none⟩,[]⟩]) W→W.cell? ⟨g,q+i*6+4,none⟩=some (.slice ka ks.length kc)):=fun W hW=>(H.out.sk hW).sl a4
      have b0:wr.cell? ⟨g,q+i*6,none⟩=some (.int .u8 k):=hSk.u8 a0
      clear g1 e1 il a0 a1 a2 a3 a4 a5 hmem hSk HV hg HX w4 o1 o2 HVN HVL
      generalize ks.length=nk at *
      go_wp2_with fail
      go_at_call 27
      refine (HS.out _ (Below.refl _ _)).mono ?_
      rintro e w3 ⟨rfl,hP⟩
      have HP:=Lib.hid hP
      have b4:=HK.out _ hP
      clear hP HS b0
      go_wp2_with fail
      go_at_call 90
      refine (HC.out _ HP.out).mono ?_
      rintro e w4 ⟨rfl,hP⟩
      have HP:=Lib.hid hP
      clear hP HC b4 HK
      go_wp2_with fail
      go_roundg (n-(i+1)+1)
      case measure=>have:=HM.out;omega
      case rel=>exact ⟨i+1,rfl,by omega,by omega,HP.out⟩
  · have : i = n := by omega
    subst this
    have HPZ:Hid (P (V++vEsA w0 l a) wr):=by
     have:=HP.out
     rwa [List.take_of_length_le (by have:=HN.out;omega)] at this
    clear HP
    go_wp2_with fail
    exact bodyPost_end (results_none rfl _ _ _) rfl ⟨rfl,HPZ.out⟩
theorem vis_kidsN {k1:Value} {R:Nat→Prop} {w0:World} {Gd:List Vz→Prop} {P:List Vz→World→Prop} (H:VpN k1 R w0 Gd P):∀ e:Ex,VisEN k1 R w0 Gd P e.kids:=by
 intro e
 induction e using Ex.ind with
 | h k o w n ks a h=>exact vis_exsN H h
theorem p_eachExprN {k1:Value} {R:Nat→Prop} {w0:World} {Gd:List Vz→Prop} {P:List Vz→World→Prop} (H:VpN k1 R w0 Gd P) (l:List Ex):VisEN k1 R w0 Gd P l:=vis_exsN H fun x _=>vis_kidsN H x
def VisSN (k1 : Value) (R : Nat → Prop) (w0 : World) (Gd : List Vz → Prop) (P : List Vz → World → Prop) (l : List St) : Prop := okSs l → l.length ≤ 9223372036854775807 → ∀ (a : Option Addr) (c : Nat) (V : List Vz) (w : World), stsAt R w0 l a → P V w → Gd (V ++ vSsA w0 l a) →
    Calls Tryz.prog 67 #[.slice a l.length c,.func (.func 27) #[] #[k1]] w fun e w'=>e=.returned (.tuple #[])∧P (V++vSsA w0 l a) w'
theorem vis_stsN {k1:Value} {R:Nat→Prop} {w0:World} {Gd:List Vz→Prop} {P:List Vz→World→Prop} (H:VpN k1 R w0 Gd P) {l:List St} (HI:∀ x∈l,VisSN k1 R w0 Gd P x.body∧VisSN k1 R w0 Gd P x.els):VisSN k1 R w0 Gd P l:=by
 intro HO hl a c V w h1 h2 hv0
 have HI:=Lib.hid HI
 have HO:=Lib.hid HO
 have H:=Lib.hid H
 have E1:=Lib.hid h1
 have HP0:=Lib.hid h2
 have HL0:=Lib.hid hv0
 obtain ⟨n,hn⟩:∃ n,n=l.length:=⟨_,rfl⟩
 rw [← hn] at hl ⊢
 have HN:=Lib.hid hn
 clear h1 h2 hn hv0
 go_enter Tryz.func67,Tryz.ntmps67
 go_wp2_with fail
 go_loopg [8] (n+1) (fun m' u W=>∃ i:Nat,u=.int .i64 (i:Int)∧i≤n∧m'=n-i+1∧P (V++vSsA w0 (l.take i) a) W)
 case atStart=>exact ⟨0,rfl,Nat.zero_le _,by omega,by rw [List.take_zero,vSsA_nil,List.append_nil];exact HP0.out⟩
 case round =>
  obtain ⟨i,rfl,hi,hm,hP⟩:=hrel
  have HM:=Lib.hid hm
  have HP:=Lib.hid hP
  clear hm hP HP0
  by_cases hin:i<n
  · have il : i < l.length := by have := HN.out; omega
    have g1:l[i]? = some l[i]:=List.getElem?_eq_getElem il
    have hmem:l[i]∈l:=List.getElem_mem il
    generalize l[i]=x at g1 hmem
    rcases E1.out with e | ⟨g,q,e,hg,e1⟩
    · cases l with
      | nil=>simp at il
      | cons=>cases e
    obtain rfl:a=some ⟨g,q,none⟩:=e
    have x1:=stsIn_get i x e1 g1
    have HV:Hid (vSsA w0 (l.take (i+1)) (some ⟨g,q,none⟩)=vSsA w0 (l.take i) (some ⟨g,q,none⟩)++vS w0 x g (q+i*7)):=vSs_take w0 l i g q x g1
    have HVL:Hid (Gd (V++vSsA w0 (l.take (i+1)) (some ⟨g,q,none⟩))):=by
     obtain ⟨r,hr⟩:=vSsA_split w0 l (i+1) (some ⟨g,q,none⟩)
     have h9:=HL0.out
     rw [hr,← List.append_assoc] at h9
     exact H.out.pre h9
    have hin':(i:Int)<(n:Int):=by omega
    have hSk:=H.out.sk HP.out
    have HSZ:=Lib.hid hSk.1
    have hok:=okSs_mem HO.out x hmem
    have HX:=Lib.hid (HI.out x hmem)
    obtain ⟨k,nm,ot,es,bo,el,ps⟩:=x
    obtain ⟨a0,a1,a2,⟨ka3,kc3,a3,w3⟩,⟨ka4,kc4,a4,w4⟩,⟨ka5,kc5,a5,w5⟩,a6⟩:=x1
    obtain ⟨⟨o1,o2⟩,⟨o3,o4⟩,o5,o6⟩:=hok
    obtain ⟨U,hU⟩:∃ U,U=V++vSsA w0 (l.take i) (some ⟨g,q,none⟩)++[⟨⟨g,q+i*7+6,none⟩,[⟨g,q+i*7+1,none⟩,⟨g,q+i*7+2,none⟩]⟩]:=⟨_,rfl⟩
    have HVN:Gd (U++vEsA w0 es ka3++vSsA w0 bo ka4++vSsA w0 el ka5):=by
     have h9:=HVL.out
     rw [HV.out,vS,kE_of a3 w3,kS_of a4 w4,kS_of a5 w5] at h9
     rw [hU]
     simpa only [List.append_assoc,List.cons_append,List.nil_append] using h9
    have HS:Hid (∀ W,Below wr.heap.size wr W→Calls Tryz.prog 27 #[.pointer (some ⟨g,q+i*7+6,none⟩),.slice (some ⟨W.heap.size,0,none⟩) 2 2,k1] (W.alloc (.cells #[.pointer (some ⟨g,q+i*7+1,none⟩),.pointer (some ⟨g,q+i*7+2,none⟩)] 49)) fun e' w'=>e'=.returned (.tuple #[])∧P U w'):=fun W hW=>by
     rw [hU]
     exact (H.out.step (v:=⟨⟨g,q+i*7+6,none⟩,[⟨g,q+i*7+1,none⟩,⟨g,q+i*7+2,none⟩]⟩) (H.out.keep HP.out (hW.alloc hW.size _)) (vok_st hg a1 a2 a5 a6) (nms_two (Nat.le_trans HSZ.out hW.size)) (by rw [← hU];exact H.out.pre (H.out.pre (H.out.pre HVN)))).mono fun _ _ h=>⟨h.1,h.2.1⟩
    have H3:Hid (∀ W,P U W→W.cell? ⟨g,q+i*7+3,none⟩=some (.slice ka3 es.length kc3)∧Calls Tryz.prog 90 #[.slice ka3 es.length kc3,.func (.func 27) #[] #[k1]] W fun e' w'=>e'=.returned (.tuple #[])∧P (U++vEsA w0 es ka3) w'):=fun W hW=>⟨(H.out.sk hW).sl a3,p_eachExprN H.out es o2 o1 ka3 kc3 _ W w3 hW (H.out.pre (H.out.pre HVN))⟩
    have H4:Hid (∀ W,P (U++vEsA w0 es ka3) W→W.cell? ⟨g,q+i*7+4,none⟩=some (.slice ka4 bo.length kc4)∧Calls Tryz.prog 67 #[.slice ka4 bo.length kc4,.func (.func 27) #[] #[k1]] W fun e' w'=>e'=.returned (.tuple #[])∧P (U++vEsA w0 es ka3++vSsA w0 bo ka4) w'):=fun W hW=>⟨(H.out.sk hW).sl a4,HX.out.1 o4 o3 ka4 kc4 _ W w4 hW (H.out.pre HVN)⟩
    have H5:Hid (∀ W,P (U++vEsA w0 es ka3++vSsA w0 bo ka4) W→W.cell? ⟨g,q+i*7+5,none⟩=some (.slice ka5 el.length kc5)∧Calls Tryz.prog 67 #[.slice ka5 el.length kc5,.func (.func 27) #[] #[k1]] W fun e' w'=>e'=.returned (.tuple #[])∧P (V++vSsA w0 (l.take (i+1)) (some ⟨g,q,none⟩)) w'):=fun W hW=>⟨(H.out.sk hW).sl a5,by
     have this:Calls Tryz.prog 67 #[.slice ka5 el.length kc5,.func (.func 27) #[] #[k1]] W fun e' w'=>e'=.returned (.tuple #[])∧P (U++vEsA w0 es ka3++vSsA w0 bo ka4++vSsA w0 el ka5) w':=HX.out.2 o6 o5 ka5 kc5 _ W w5 hW HVN
     rw [HV.out,vS,kE_of a3 w3,kS_of a4 w4,kS_of a5 w5,← List.append_assoc]
     rw [hU] at this
     simpa only [List.append_assoc,List.cons_append,List.nil_append] using this⟩
    clear g1 e1 il a0 a1 a2 a3 a4 a5 a6 hmem hSk HV hg HP HX w3 w4 w5 o1 o2 o3 o4 o5 o6 hU HVN HVL
    generalize es.length=n3 at *
    generalize bo.length=n4 at *
    generalize el.length=n5 at *
    go_wp2_with fail
    go_region_with (go_at_call 27;refine (HS.out _ (below_drewN (Below.refl _ _) _)).mono ?_;rintro e x3 ⟨rfl,hP⟩)
    have HP:=Lib.hid hP
    have b3:=(H3.out _ hP).1
    clear hP HS
    go_wp2_with fail
    go_at_call 90
    refine ((H3.out _ HP.out).2).mono ?_
    rintro e x4 ⟨rfl,hP⟩
    have HP:=Lib.hid hP
    have b4:=(H4.out _ hP).1
    clear hP H3 b3
    go_wp2_with fail
    go_at_call 67
    refine ((H4.out _ HP.out).2).mono ?_
    rintro e x5 ⟨rfl,hP⟩
    have HP:=Lib.hid hP
    have b5:=(H5.out _ hP).1
    clear hP H4 b4
    go_wp2_with fail
    go_at_call 67
    refine ((H5.out _ HP.out).2).mono ?_
    rintro e x6 ⟨rfl,hP⟩
    have HP:=Lib.hid hP
    clear hP H5 b5
    go_wp2_with fail
    go_roundg (n-(i+1)+1)
    case measure=>have:=HM.out;omega
    case rel=>exact ⟨i+1,rfl,by omega,by omega,HP.out⟩
  · have : i = n := by omega
    subst this
    have HPZ:Hid (P (V++vSsA w0 l a) wr):=by
     have:=HP.out
     rwa [List.take_of_length_le (by have:=HN.out;omega)] at this
    clear HP
    go_wp2_with fail
    exact bodyPost_end (results_none rfl _ _ _) rfl ⟨rfl,HPZ.out⟩
theorem vis_subsN {k1:Value} {R:Nat→Prop} {w0:World} {Gd:List Vz→Prop} {P:List Vz→World→Prop} (H:VpN k1 R w0 Gd P):∀ l:List St,∀ x∈l,VisSN k1 R w0 Gd P x.body∧VisSN k1 R w0 Gd P x.els:=by
 intro l
 induction l using Sts.ind with
 | h0=>intro x hx;cases hx
 | h1 k n o e b l a r hb hl hr =>
   intro x hx
   rcases List.mem_cons.1 hx with rfl | hx
   · exact ⟨vis_stsN H hb,vis_stsN H hl⟩
   · exact hr x hx
theorem p_eachStmtN {k1:Value} {R:Nat→Prop} {w0:World} {Gd:List Vz→Prop} {P:List Vz→World→Prop} (H:VpN k1 R w0 Gd P) (l:List St):VisSN k1 R w0 Gd P l:=vis_stsN H (vis_subsN H l)
theorem p_eachPartN {k1:Value} {R:Nat→Prop} {w0:World} {Gd:List Vz→Prop} {P:List Vz→World→Prop} (H:VpN k1 R w0 Gd P) {x:Pg} (hok:okP x) {a1 a2 a3:Option Addr} {c1 c2 c3:Nat} {w:World} (h1:dcsAt R w0 x.shared a1) (h2:dcsAt R w0 x.locks a2) (h3:thsAt R w0 x.threads a3) (h0:P [] w) (hv0:Gd (vDsA w0 x.shared a1++vDsA w0 x.locks a2++vTsA w0 x.threads a3)) :
 Calls Tryz.prog 26 #[.agg #[.slice a1 x.shared.length c1,.slice a2 x.locks.length c2,.slice a3 x.threads.length c3],.func (.func 27) #[] #[k1]] w fun e w'=>e=.returned (.tuple #[])∧P (vDsA w0 x.shared a1++vDsA w0 x.locks a2++vTsA w0 x.threads a3) w':=by
 obtain ⟨sh,lk,l⟩:=x
 obtain ⟨o1,o2,hl,o4⟩:=hok
 simp only at o1 o2 hl o4 h1 h2 h3 hv0 ⊢
 obtain ⟨ga,hga⟩:∃ ga,ga=w.heap.size:=⟨_,rfl⟩
 have hgs:w0.heap.size≤ga:=by rw [hga];exact (H.sk h0).1
 obtain ⟨P',hP'⟩:∃ P':List Vz→World→Prop,P'=fun V W=>P V W∧Own W ga 25 #[.slice a1 sh.length c1,.slice a2 lk.length c2,.slice a3 l.length c3]:=⟨_,rfl⟩
 have H':VpN k1 R w0 Gd P':=by
  subst hP'
  refine ⟨fun h hb=>⟨H.keep h.1 hb,h.2.below hb⟩,fun h=>H.sk h.1,H.pre,fun h hv hn hz=>(H.step h.1 hv hn hz).mono fun e W' k=>⟨k.1,⟨k.2.1,(k.2.2 ga hgs h.2.lt).trans h.2⟩,k.2.2⟩⟩
 have HQ:Hid (∀ V W,P' V W→P V W):=fun V W h=>by rw [hP'] at h;exact h.1
 have HOW:Hid (∀ V W,P' V W→Own W ga 25 #[.slice a1 sh.length c1,.slice a2 lk.length c2,.slice a3 l.length c3]):=fun V W h=>by rw [hP'] at h;exact h.2
 have HP0:Hid (P' [] (w.alloc (.cells #[.slice a1 sh.length c1,.slice a2 lk.length c2,.slice a3 l.length c3] 25))):=by
  rw [Hid,hP',hga]
  exact ⟨H.keep h0 ((Below.refl _ w).alloc (Nat.le_refl _) _),Own.new w _ _⟩
 have HC0:Hid (∀ V W,P' V W→W.cell? ⟨ga,0,none⟩=some (.slice a1 sh.length c1)∧W.cell? ⟨ga,1,none⟩=some (.slice a2 lk.length c2)∧W.cell? ⟨ga,2,none⟩=some (.slice a3 l.length c3)):=fun V W h=>by
  have hO:=HOW.out V W h
  exact ⟨by rw [cell_of_row _ _ 0 _ _ _ hO];rfl,by rw [cell_of_row _ _ 1 _ _ _ hO];rfl,by rw [cell_of_row _ _ 2 _ _ _ hO];rfl⟩
 obtain ⟨V,hV⟩:∃ V,V=vDsA w0 sh a1++vDsA w0 lk a2:=⟨_,rfl⟩
 have HD1:Hid (∀ W,P' [] W→Calls Tryz.prog 66 #[.slice a1 sh.length c1,.func (.func 27) #[] #[k1]] W fun e' w'=>e'=.returned (.tuple #[])∧P' (vDsA w0 sh a1) w'):=fun W hW=>p_eachDeclN H' o1 (V:=[]) h1 hW (H.pre (H.pre hv0))
 have HD2:Hid (∀ W,P' (vDsA w0 sh a1) W→Calls Tryz.prog 66 #[.slice a2 lk.length c2,.func (.func 27) #[] #[k1]] W fun e' w'=>e'=.returned (.tuple #[])∧P' V w'):=fun W hW=>by rw [hV];exact p_eachDeclN H' o2 h2 hW (H.pre hv0)
 rw [← hV]
 have HL0:Hid (Gd (V++vTsA w0 l a3)):=by
  rw [hV];exact hv0
 have H:=Lib.hid H'
 have HO:=Lib.hid o4
 have E1:=Lib.hid h3
 obtain ⟨n,hn⟩:∃ n,n=l.length:=⟨_,rfl⟩
 rw [← hn] at hl ⊢ HP0 HC0
 have HN:=Lib.hid hn
 obtain ⟨W0,hW0⟩:∃ W,W=w.alloc (.cells #[.slice a1 sh.length c1,.slice a2 lk.length c2,.slice a3 n c3] 25):=⟨_,rfl⟩
 rw [← hW0] at HP0
 have HW0:=Lib.hid hW0
 have HGA:Hid (w.heap.size=ga):=hga.symm
 clear hn h1 h2 h3 h0 o1 o2 o4 hV hW0 HOW hP' hgs hga H' hv0
 generalize sh.length=n1 at *
 generalize lk.length=n2 at *
 go_enter Tryz.func26,Tryz.ntmps26
 go_upto_region 1 with (fail)
 rw [← HW0.out,HGA.out]
 have c0:=(HC0.out _ _ HP0.out).1
 clear HW0 HGA
 go_wp2_with fail
 go_at_call 66
 refine (HD1.out _ HP0.out).mono ?_
 rintro e x1 ⟨rfl,hP⟩
 have HP:=Lib.hid hP
 clear hP HP0 c0
 have c0:=(HC0.out _ _ HP.out).2.1
 go_wp2_with fail
 go_at_call 66
 refine (HD2.out _ HP.out).mono ?_
 rintro e x2 ⟨rfl,hP⟩
 have HP0:=Lib.hid hP
 clear hP HP c0 HD1 HD2
 have c0:=(HC0.out _ _ HP0.out).2.2
 go_wp2_with fail
 clear c0
 go_loopg [17] (n+1) (fun m' u W=>∃ i:Nat,u=.int .i64 (i:Int)∧i≤n∧m'=n-i+1∧P' (V++vTsA w0 (l.take i) a3) W)
 case atStart=>exact ⟨0,rfl,Nat.zero_le _,by omega,by rw [List.take_zero,vTsA_nil,List.append_nil];exact HP0.out⟩
 case round =>
  obtain ⟨i,rfl,hi,hm,hP⟩:=hrel
  have HM:=Lib.hid hm
  have HP:=Lib.hid hP
  clear hm hP HP0
  by_cases hin:i<n
  · have il : i < l.length := by have := HN.out; omega
    have g1:l[i]? = some l[i]:=List.getElem?_eq_getElem il
    have hmem:l[i]∈l:=List.getElem_mem il
    generalize l[i]=x at g1 hmem
    rcases E1.out with e | ⟨g,q,e,hg,e1⟩
    · cases l with
      | nil=>simp at il
      | cons=>cases e
    obtain rfl:a3=some ⟨g,q,none⟩:=e
    have x1:=thsIn_get i x e1 g1
    have HV:Hid (vTsA w0 (l.take (i+1)) (some ⟨g,q,none⟩)=vTsA w0 (l.take i) (some ⟨g,q,none⟩)++vT w0 x g (q+i*4)):=vTs_take w0 l i g q x g1
    have hin':(i:Int)<(n:Int):=by omega
    have hSk:=H.out.sk HP.out
    have HSZ:=Lib.hid hSk.1
    have hok:=HO.out x hmem
    obtain ⟨nm,lo,bo,ps⟩:=x
    obtain ⟨b0,⟨ka1,kc1,b1,w1⟩,⟨ka2,kc2,b2,w2⟩,b3⟩:=x1
    obtain ⟨o1,o3,o4⟩:=hok
    simp only at b0 b1 w1 b2 w2 b3 o1 o3 o4
    obtain ⟨U,hU⟩:∃ U,U=V++vTsA w0 (l.take i) (some ⟨g,q,none⟩)++[⟨⟨g,q+i*4+3,none⟩,[⟨g,q+i*4,none⟩]⟩]:=⟨_,rfl⟩
    have HVN:Gd (U++vDsA w0 lo ka1++vSsA w0 bo ka2):=by
     obtain ⟨r,hr⟩:=vTsA_split w0 l (i+1) (some ⟨g,q,none⟩)
     have h9:=HL0.out
     rw [hr,← List.append_assoc] at h9
     have h9:=H.out.pre h9
     rw [HV.out,vT,kD_of b1 w1,kS_of b2 w2] at h9
     rw [hU]
     simpa only [List.append_assoc,List.cons_append,List.nil_append] using h9
    have HS:Hid (∀ W,Below wr.heap.size wr W→Calls Tryz.prog 27 #[.pointer (some ⟨g,q+i*4+3,none⟩),.slice (some ⟨W.heap.size,0,none⟩) 1 1,k1] (W.alloc (.cells #[.pointer (some ⟨g,q+i*4,none⟩)] 49)) fun e' w'=>e'=.returned (.tuple #[])∧P' U w'):=fun W hW=>by
     rw [hU]
     exact (H.out.step (v:=⟨⟨g,q+i*4+3,none⟩,[⟨g,q+i*4,none⟩]⟩) (H.out.keep HP.out (hW.alloc hW.size _)) (vok_th hg b0 b2 b3) (nms_one (Nat.le_trans HSZ.out hW.size)) (by rw [← hU];exact H.out.pre (H.out.pre HVN))).mono fun _ _ h=>⟨h.1,h.2.1⟩
    have H3:Hid (∀ W,P' U W→W.cell? ⟨g,q+i*4+1,none⟩=some (.slice ka1 lo.length kc1)∧Calls Tryz.prog 66 #[.slice ka1 lo.length kc1,.func (.func 27) #[] #[k1]] W fun e' w'=>e'=.returned (.tuple #[])∧P' (U++vDsA w0 lo ka1) w'):=fun W hW=>⟨(H.out.sk hW).sl b1,p_eachDeclN H.out o1 w1 hW (H.out.pre HVN)⟩
    have H4:Hid (∀ W,P' (U++vDsA w0 lo ka1) W→W.cell? ⟨g,q+i*4+2,none⟩=some (.slice ka2 bo.length kc2)∧Calls Tryz.prog 67 #[.slice ka2 bo.length kc2,.func (.func 27) #[] #[k1]] W fun e' w'=>e'=.returned (.tuple #[])∧P' (V++vTsA w0 (l.take (i+1)) (some ⟨g,q,none⟩)) w'):=fun W hW=>⟨(H.out.sk hW).sl b2,by
     have:=p_eachStmtN H.out bo o4 o3 ka2 kc2 _ W w2 hW HVN
     rw [HV.out,vT,kD_of b1 w1,kS_of b2 w2,← List.append_assoc]
     rw [hU] at this
     simpa only [List.append_assoc,List.cons_append,List.nil_append] using this⟩
    have c2:=(HC0.out _ _ HP.out).2.2
    clear g1 e1 il b0 b1 b2 b3 hmem hSk HV hg HP w1 w2 o1 o3 o4 hU HVN
    generalize lo.length=n3 at *
    generalize bo.length=n4 at *
    go_wp2_with fail
    go_region_with (go_at_call 27;refine (HS.out _ (below_drewN (Below.refl _ _) _)).mono ?_;rintro e x3 ⟨rfl,hP⟩)
    have HP:=Lib.hid hP
    have b3:=(H3.out _ hP).1
    clear hP HS c2
    go_wp2_with fail
    go_at_call 66
    refine ((H3.out _ HP.out).2).mono ?_
    rintro e x4 ⟨rfl,hP⟩
    have HP:=Lib.hid hP
    have b4:=(H4.out _ hP).1
    clear hP H3 b3
    go_wp2_with fail
    go_at_call 67
    refine ((H4.out _ HP.out).2).mono ?_
    rintro e x5 ⟨rfl,hP⟩
    have HP:=Lib.hid hP
    clear hP H4 b4
    go_wp2_with fail
    go_roundg (n-(i+1)+1)
    case measure=>have:=HM.out;omega
    case rel=>exact ⟨i+1,rfl,by omega,by omega,HP.out⟩
  · have : i = n := by omega
    subst this
    have HPZ:Hid (P (V++vTsA w0 l a3) wr):=by
     have:=HQ.out _ _ HP.out
     rwa [List.take_of_length_le (by have:=HN.out;omega)] at this
    clear HP
    go_wp2_with fail
    exact bodyPost_end (results_none rfl _ _ _) rfl ⟨rfl,HPZ.out⟩
end Go.Proofs.YtimccjlhhjjcpaaGreatDoor

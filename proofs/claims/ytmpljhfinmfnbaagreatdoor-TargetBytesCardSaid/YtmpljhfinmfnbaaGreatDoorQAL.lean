/- The proof, part 12: texts that belong together, in one. -/
import Derived.Test.YtmpljhfinmfnbaaGreatDoorQAK
set_option maxRecDepth 100000
set_option maxHeartbeats 20000000
namespace Go.Proofs.YtmpljhfinmfnbaaGreatDoor
open Go.RowKit
set_option linter.unusedVariables false
set_option maxRecDepth 100000
theorem ynum_here {w W:World} {b g o:Nat} {t:List UInt8} {x:Int} {ty:TypeId} {row:Array Value} (h:Yq w b t W) (ho:Own W g ty row) (hr:row[o]? = some (.int .i64 x)) (hg:g≠b) (hn:Nu8 ty) (hx : -9223372036854775808≤x∧x≤9223372036854775807) (hl:t.length≤70000000000000) :
 Calls Tryz.prog 111 #[.pointer (some ⟨b,0,none⟩),.pointer (some ⟨g,o,none⟩)] W fun e w'=>e=.returned (.tuple #[])∧Yq w b (t++numY x) w' :=
 (y_num (yq_new h.wt) ⟨g,o,ty,_,rfl,ho,hg,hn,hr⟩ hx hl).mono fun _ _ ⟨h1,h2⟩=>⟨h1,h.trans h2⟩
theorem ywrd_here {w W:World} {b g o:Nat} {t:List UInt8} {x:Int} {ty:TypeId} {row:Array Value} (h:Yq w b t W) (ho:Own W g ty row) (hr:row[o]? = some (.int .i64 x)) (hg:g≠b) (hn:Nu8 ty) (hx : -9223372036854775808≤x∧x≤9223372036854775807) (hl:t.length≤70000000000000) :
 Calls Tryz.prog 66 #[.pointer (some ⟨b,0,none⟩),.pointer (some ⟨g,o,none⟩)] W fun e w'=>e=.returned (.tuple #[])∧Yq w b (t++wrdY x) w' :=
 (y_wrd (yq_new h.wt) ⟨g,o,ty,_,rfl,ho,hg,hn,hr⟩ hx hl).mono fun _ _ ⟨h1,h2⟩=>⟨h1,h.trans h2⟩
theorem y_numbers {w W:World} {b g:Nat} {t:List UInt8} {l:List Int} (h:Yq w b t W) (ho:Own W g 3 (l.map fun x=>Value.int .i64 x).toArray) (hg:g≠b) (hr:∀ x∈l,-9223372036854775808≤x∧x≤9223372036854775807) (hl:l.length≤10) (ht:t.length≤60000000000000) (c:Nat) :
 Calls Tryz.prog 65 #[.pointer (some ⟨b,0,none⟩),.slice (some ⟨g,0,none⟩) l.length c] W fun e w'=>e=.returned (.tuple #[])∧Yq w b (t++l.flatMap numY) w':=by
 obtain ⟨n,hn⟩:∃ n,n=l.length:=⟨_,rfl⟩
 have HQ0:=Lib.hid (yq_new h.wt)
 have HQW:=Lib.hid h
 have HO:Hid (∀ X t,Yq W b t X→Own X g 3 (l.map fun x=>Value.int .i64 x).toArray):=fun X t h=>h.own ho hg nu_n
 have HLT:=Lib.hid ht
 have HR:=Lib.hid hr
 have HG:=Lib.hid hg
 have HFL:Hid (∀ j,((l.take j).flatMap numY).length≤1000):=fun j=>by
  have h1:=flat_len numY 100 (l.take j) fun x _=>(numY_len x).1
  have h2:(l.take j).length≤10:=by rw [List.length_take];omega
  omega
 rw [← hn] at hl ⊢
 have HN:=Lib.hid hn
 clear h ho hr ht hg hn
 go_enter Tryz.func65,Tryz.ntmps65
 go_wp2_with fail
 go_loopg [8] (n+1) (fun m' z X=>∃ j:Nat,z=.int .i64 (j:Int)∧j≤n∧m'=n-j+1∧Yq W b (t++(l.take j).flatMap numY) X)
 case atStart=>exact ⟨0,rfl,Nat.zero_le _,by omega,by simpa using HQ0.out⟩
 case round =>
  clear HQ0
  obtain ⟨j,rfl,hj,hm,hq⟩:=hrel
  have HM:=Lib.hid hm
  have HQ:=Lib.hid hq
  clear hm hq
  by_cases hjn:j<n
  · have il : j < l.length := by have := HN.out; omega
    have g1:l[j]? = some l[j]:=List.getElem?_eq_getElem il
    have hx:=HR.out _ (List.getElem_mem il)
    have htk:=take_flat numY g1
    generalize l[j]=x at g1 hx htk
    have k0:wr.cell? ⟨g,j,none⟩=some (.int .i64 x):=by
     rw [cell_of_row _ _ j _ _ _ (HO.out _ _ HQ.out)]
     simp [g1]
    have hjn':(j:Int)<(n:Int):=by omega
    have HB:=Lib.hid ((Below.refl wr.heap.size wr).alloc (Nat.le_refl _) (.cells #[.int .i64 x] 3))
    have O6:=Own.new wr 3 #[.int .i64 x]
    have hlb:=HQ.out.wt.lt
    obtain ⟨W3,hW3⟩:∃ W,W=wr.alloc (.cells #[.int .i64 x] 3):=⟨_,rfl⟩
    rw [← hW3] at HB O6
    have HW3:=Lib.hid hW3
    have hfl:=HFL.out j
    have hlt:=HLT.out
    have HNN:=Lib.hid (ynum_here (HQ.out.below HB.out) O6 (o:=0) rfl (by omega) nu_n hx (by rw [List.length_append];omega))
    rw [List.append_assoc,← htk] at HNN
    clear hW3 O6 HB HQ hlb g1 il htk hfl hlt
    go_upto_region 3 with (fail)
    rw [← HW3.out]
    clear HW3
    go_wp2_with fail
    go_at_call 111
    refine HNN.out.mono ?_
    rintro e w4 ⟨rfl,hz⟩
    have HZ:=Lib.hid hz
    clear hz
    go_wp2_with fail
    go_roundg (n-(j+1)+1)
    case measure=>have:=HM.out;omega
    case rel=>exact ⟨j+1,by simp,by omega,by omega,HZ.out⟩
  obtain rfl:n=j:=by omega
  have HF:Hid (Yq w b (t++l.flatMap numY) wr):=by
   have h:=HQW.out.trans HQ.out
   rw [show l.take n=l by rw [HN.out,List.take_length]] at h
   exact h
  go_wp2_with fail
  exact bodyPost_end (results_none rfl _ _ _) rfl ⟨rfl,HF.out⟩
theorem ynums_new {w X:World} {b n:Nat} {t:List UInt8} (l:List Int) (h:Yq w b t X) (hn:n=l.length) (hr:∀ x∈l,-9223372036854775808≤x∧x≤9223372036854775807) (hl:l.length≤10) (ht:t.length≤60000000000000) (c:Nat) :
 Calls Tryz.prog 65 #[.pointer (some ⟨b,0,none⟩),.slice (some ⟨X.heap.size,0,none⟩) n c] (X.alloc (.cells (l.map fun x=>Value.int .i64 x).toArray 3)) fun e w'=>e=.returned (.tuple #[])∧Yq w b (t++l.flatMap numY) w':=by
 subst hn
 exact y_numbers (h.below ((Below.refl X.heap.size X).alloc (Nat.le_refl _) _)) (Own.new X _ _) (by have:=h.wt.lt;omega) hr hl ht c
def insY (i:Ins):List UInt8:=numY i.k++(bif hasB (uB i.k i.o) 1 then numY i.o else [])++fldsY (uB i.k i.o) i 6++numY i.fr
theorem insY_len (i:Ins) (hg:rgI i):(insY i).length≤1000:=by
 have h1:=(numY_len i.k).1
 have h2:=(numY_len i.o).1
 have h3:=fldsY_len (uB i.k i.o) i hg 6
 have h4:=(numY_len i.fr).1
 unfold insY
 cases hasB (uB i.k i.o) 1 <;> simp <;> omega
theorem y_ins (i:Ins) (hg:rgI i) {w:World} {b:Nat} {txt:List UInt8} (hw:Yt b txt w) (hlen:txt.length≤50000000000000) (HT:∀ X,Below b w X→TgT X) :
 Calls Tryz.prog 67 #[.pointer (some ⟨b,0,none⟩),insV i] w fun e w'=>e=.returned (.tuple #[])∧Yq w b (txt++insY i) w':=by
 have HFL:=Lib.hid (fldsY_len (uB i.k i.o) i hg 6)
 have HLK:=Lib.hid (numY_len i.k).1
 have HLO:=Lib.hid (numY_len i.o).1
 have al:Below w.heap.size w (w.alloc (.cells (insC i).toArray 75)):=(Below.refl _ w).alloc (Nat.le_refl _) _
 have hq0:=(yq_new hw).below al
 have ho0:=Own.new w 75 (insC i).toArray
 have hnb:w.heap.size≠b:=by have:=hw.lt;omega
 obtain ⟨W0,hW0⟩:∃ W,W=w.alloc (.cells (insC i).toArray 75):=⟨_,rfl⟩
 rw [← hW0] at hq0 ho0
 have HQW:=Lib.hid hq0
 have B0:=hq0.bel
 have HT0:Hid (∀ X,Below b W0 X→TgT X):=fun X h=>HT X (B0.trans h)
 have HUS:Hid (∀ X,Below b W0 X→Calls Tryz.prog 106 #[insV i] X fun e w'=>e=.returned (.int .u64 (uB i.k i.o))∧Below X.heap.size X w'):=fun X h=>usedBy_any i hg X (HT0.out X h)
 have HVI:Hid (∀ X t,Yq W0 b t X→t.length≤60000000000000→Calls Tryz.prog 113 #[.agg #[.func (.func 111) #[.pointer (some ⟨b,0,none⟩)] #[],.func (.func 111) #[.pointer (some ⟨b,0,none⟩)] #[],.func (.func 66) #[.pointer (some ⟨b,0,none⟩)] #[]],.pointer (some ⟨w.heap.size,0,none⟩)] X fun e w'=>e=.returned (.tuple #[])∧Yq W0 b (t++fldsY (uB i.k i.o) i 6) w'):=fun X t h hl=>(y_visit i hg h.wt hl (h.own ho0 hnb nu_I) hnb (fun Y hY=>HT0.out Y (h.bel.trans hY))).mono fun _ _ ⟨h1,h2⟩=>⟨h1,h.trans h2⟩
 have HQ0:=Lib.hid (yq_new hq0.wt)
 have HOI:Hid (∀ X t,Yq W0 b t X→Own X w.heap.size 75 (insC i).toArray):=fun X t h=>h.own ho0 hnb nu_I
 have HNS:Hid (∀ X t x,Yq W0 b t X→(-9223372036854775808≤x∧x≤9223372036854775807)→t.length≤60000000000000→Calls Tryz.prog 65 #[.pointer (some ⟨b,0,none⟩),.slice (some ⟨X.heap.size,0,none⟩) 1 1] (X.alloc (.cells #[.int .i64 x] 3)) fun e w'=>e=.returned (.tuple #[])∧Yq W0 b (t++numY x) w'):=fun X t x h hx ht=>by
  have:=ynums_new [x] h rfl (fun y hy=>by rw [List.mem_singleton.1 hy];exact hx) (by simp) ht 1
  simpa using this
 have HHA:Hid (∀ X u f,Calls Tryz.prog 108 #[.int .u64 u,.int .u64 f] X fun e w'=>e=.returned (.bool (hasB u f))∧X=w'):=fun X u f=>has_any u f X
 unfold insY
 obtain ⟨f6,hf6⟩:∃ f,f=fldsY (uB i.k i.o) i 6:=⟨_,rfl⟩
 rw [← hf6] at HVI HFL ⊢
 obtain ⟨u,hu⟩:∃ u,u=uB i.k i.o:=⟨_,rfl⟩
 rw [← hu] at HUS ⊢
 obtain ⟨hk,ho,_,_,_,_,_,_,hfr⟩:=hg
 obtain ⟨k,o,d,a,bb,ad,tt,wd,fr⟩:=i
 simp only [insV,insC] at HOI HUS hk ho hfr hW0 HLK HLO ⊢
 have HKR:Hid (-9223372036854775808≤k∧k≤9223372036854775807):=⟨by omega,by omega⟩
 have HOR:Hid (-9223372036854775808≤o∧o≤9223372036854775807):=⟨by omega,by omega⟩
 have HFR:Hid (-9223372036854775808≤fr∧fr≤9223372036854775807):=hfr
 have HS9:Hid (∀ X t,Yq W0 b t X→(X.cell? ⟨w.heap.size,0,none⟩=some (.int .u8 k)∧X.cell? ⟨w.heap.size,1,none⟩=some (.int .u8 o)∧X.cell? ⟨w.heap.size,2,none⟩=some (.int .i64 d)∧X.cell? ⟨w.heap.size,3,none⟩=some (.int .i64 a)∧X.cell? ⟨w.heap.size,4,none⟩=some (.int .i64 bb)∧X.cell? ⟨w.heap.size,5,none⟩=some (.int .i64 ad)∧X.cell? ⟨w.heap.size,6,none⟩=some (.int .i64 tt)∧X.cell? ⟨w.heap.size,7,none⟩=some (.int .i64 wd)∧X.cell? ⟨w.heap.size,8,none⟩=some (.int .i64 fr))):=fun X t h=>by
  have O:=HOI.out X t h
  exact ⟨by rw [cell_of_row _ _ 0 _ _ _ O];rfl,by rw [cell_of_row _ _ 1 _ _ _ O];rfl,by rw [cell_of_row _ _ 2 _ _ _ O];rfl,by rw [cell_of_row _ _ 3 _ _ _ O];rfl,by rw [cell_of_row _ _ 4 _ _ _ O];rfl,by rw [cell_of_row _ _ 5 _ _ _ O];rfl,by rw [cell_of_row _ _ 6 _ _ _ O];rfl,by rw [cell_of_row _ _ 7 _ _ _ O];rfl,by rw [cell_of_row _ _ 8 _ _ _ O];rfl⟩
 have HLEN:=Lib.hid hlen
 have HW0:=Lib.hid hW0
 have hmf:∀ (fn:Fn) (first cap:Array Value) (w:World),(Instr.makeFunc fn first cap).run Tryz.prog w=.ok (.func fn first cap) w:=fun _ _ _ _=>rfl
 have e0:=(HS9.out _ _ HQ0.out).1
 clear hw hlen HT al hq0 ho0 hnb hW0 B0 HT0 hf6 hu hfr
 go_enter Tryz.func67,Tryz.ntmps67
 go_upto_region 1 with (fail)
 rw [← HW0.out]
 clear HW0
 go_wp2_with fail
 go_at_call 65
 refine (HNS.out _ _ _ HQ0.out HKR.out (by have:=HLEN.out;omega)).mono ?_
 rintro e w1 ⟨rfl,hz⟩
 have HQ1:=Lib.hid hz
 clear hz e0 HQ0
 have OI:=HOI.out _ _ HQ1.out
 go_wp2_with (refine ld rowI rfl rfl rfl OI rfl ?_)
 go_at_call 106
 refine (HUS.out _ HQ1.out.bel).mono ?_
 rintro e w2 ⟨rfl,hb⟩
 have HQ2:=Lib.hid (HQ1.out.below hb)
 clear hb OI HQ1
 have e1:=(HS9.out _ _ HQ2.out).2.1
 cases hh:hasB u 1 with
 | true =>
   go_wp2_with (go_at_call 108;refine (HHA.out _ _ _).mono ?_;rintro e w' ⟨rfl,rfl⟩)
   go_at_call 65
   refine (HNS.out _ _ _ HQ2.out HOR.out (by have:=HLEN.out;have:=HLK.out;rw [List.length_append];omega)).mono ?_
   rintro e w3 ⟨rfl,hz⟩
   have HQ3:=Lib.hid hz
   clear hz e1 HQ2
   have HL3:Hid ((txt++numY k++numY o).length≤50000000001000):=by
    have:=HLEN.out;have:=HLK.out;have:=HLO.out
    rw [Hid,List.length_append,List.length_append];omega
   go_wp2_with fail
   go_at_call 113
   refine (HVI.out _ _ HQ3.out (by have:=HL3.out;omega)).mono ?_
   rintro e w4 ⟨rfl,hz⟩
   have HQ4:=Lib.hid hz
   have e8:=(HS9.out _ _ hz).2.2.2.2.2.2.2.2
   clear hz HQ3
   go_wp2_with fail
   go_at_call 65
   refine (HNS.out _ _ _ HQ4.out HFR.out (by have:=HL3.out;have:=HFL.out;rw [List.length_append];omega)).mono ?_
   rintro e w5 ⟨rfl,hz⟩
   have HF:Hid (Yq w b (txt++(numY k++(bif true then numY o else [])++f6++numY fr)) w5):=by
    have h:=HQW.out.trans hz
    rw [Hid]
    simpa using h
   clear hz
   go_wp2_with fail
   exact bodyPost_end (results_none rfl _ _ _) rfl ⟨rfl,by rw [hh];exact HF.out⟩
 | false =>
   have HL3:Hid ((txt++numY k).length≤50000000001000):=by
    have:=HLEN.out;have:=HLK.out
    rw [Hid,List.length_append];omega
   go_wp2_with (go_at_call 108;refine (HHA.out _ _ _).mono ?_;rintro e w' ⟨rfl,rfl⟩)
   go_at_call 113
   refine (HVI.out _ _ HQ2.out (by have:=HL3.out;omega)).mono ?_
   rintro e w4 ⟨rfl,hz⟩
   have HQ4:=Lib.hid hz
   have e8:=(HS9.out _ _ hz).2.2.2.2.2.2.2.2
   clear hz e1 HQ2
   go_wp2_with fail
   go_at_call 65
   refine (HNS.out _ _ _ HQ4.out HFR.out (by have:=HL3.out;have:=HFL.out;rw [List.length_append];omega)).mono ?_
   rintro e w5 ⟨rfl,hz⟩
   have HF:Hid (Yq w b (txt++(numY k++(bif false then numY o else [])++f6++numY fr)) w5):=by
    have h:=HQW.out.trans hz
    rw [Hid]
    simpa using h
   clear hz
   go_wp2_with fail
   exact bodyPost_end (results_none rfl _ _ _) rfl ⟨rfl,by rw [hh];exact HF.out⟩
end Go.Proofs.YtmpljhfinmfnbaaGreatDoor

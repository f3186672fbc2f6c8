/- The proof, part 8: texts that belong together, in one. -/
import Derived.Test.YtmpljhfinmfnbaaGreatDoorQAG
set_option maxRecDepth 100000
set_option maxHeartbeats 20000000
namespace Go.Proofs.YtmpljhfinmfnbaaGreatDoor
open Go.RowKit
set_option linter.unusedVariables false
set_option maxRecDepth 100000
def wdT (i:Ins):List UInt8:=if i.k=2 then opTx.getD i.o.toNat [] else formTx.getD i.k.toNat []
def insT (i:Ins):List UInt8:=wdT i++fldsT (uB i.k i.o) i 6++(if i.fr=0 then [] else [32,64]++Lib.itoa i.fr)
theorem opTx_len (j:Nat):(opTx.getD j []).length≤10:=by
 by_cases h:j<19
 · have : ∀ j, j < 19 → (opTx.getD j []).length ≤ 10 := by decide
   exact this j h
 · rw [List.getD_eq_getElem?_getD,List.getElem?_eq_none (by show opTx.length≤j;show 19≤j;omega)];simp
theorem formTx_len (j:Nat):(formTx.getD j []).length≤10:=by
 by_cases h:j<11
 · have : ∀ j, j < 11 → (formTx.getD j []).length ≤ 10 := by decide
   exact this j h
 · rw [List.getD_eq_getElem?_getD,List.getElem?_eq_none (by show formTx.length≤j;show 11≤j;omega)];simp
theorem wdT_len (i:Ins):(wdT i).length≤10:=by
 unfold wdT
 split
 · exact opTx_len _
 · exact formTx_len _
theorem insT_len (i:Ins) (hg:rgI i):(insT i).length≤1000:=by
 have h1:=wdT_len i
 have h2:=fldsT_len (uB i.k i.o) i hg 6
 have h3:=Lib.itoa_length_le i.fr hg.2.2.2.2.2.2.2.2.1 hg.2.2.2.2.2.2.2.2.2
 unfold insT
 simp only [List.length_append]
 split
 · simp;omega
 · simp;omega
theorem wordOf_any (i:Ins) (hg:rgI i) (hk:kB i.k=true) (ho:opB i.k i.o=true) (w:World) (T:TgT w):Calls Tryz.prog 149 #[insV i] w fun e w'=>e=.returned (.string ⟨(wdT i).toArray⟩)∧Below w.heap.size w w':=by
 obtain ⟨k,o,d,a,b,ad,tt,wd,fr⟩:=i
 obtain ⟨_,⟨o0,o1⟩,_⟩:=hg
 simp only [insV,insC,wdT] at hk ho o0 o1 ⊢
 have al:Below w.heap.size w (w.alloc (.cells #[.int .u8 k,.int .u8 o,.int .i64 d,.int .i64 a,.int .i64 b,.int .i64 ad,.int .i64 tt,.int .i64 wd,.int .i64 fr] 75)):=(Below.refl _ w).alloc (Nat.le_refl _) _
 have HB:=Lib.hid al
 have hs1:=T.size.1
 have hs2:=T.size.2
 by_cases h2:k=2
 · subst h2
   rw [if_pos rfl]
   have hl:0<levelOf o:=by simpa [opB] using ho
   have o19:o<19:=by
    apply Int.not_le.1
    intro h
    unfold levelOf at hl
    rw [if_pos h] at hl
    exact absurd hl (by decide)
   have hc:=T.ow o.toNat (by omega)
   generalize opTx.getD o.toNat []=s at hc ⊢
   clear T hk ho al hl
   go_enter Tryz.func149,Tryz.ntmps149
   go_wp2_with fail
   go_ret
   exact ⟨rfl,HB.out⟩
 · rw [if_neg h2]
   have q:=int_f h2
   have hf:=T.fw
   clear T ho al h2
   rcases kB_iff.1 hk with rfl | rfl | rfl | rfl | rfl | rfl | rfl | rfl | rfl | rfl
   · have hc := hf 1 (by decide)
     change w.cell? ⟨0,2,none⟩=some (.string ⟨([115,101,116]:List UInt8).toArray⟩) at hc
     clear hf hk
     show Calls _ _ _ _ fun e w'=>e=.returned (.string ⟨([115,101,116]:List UInt8).toArray⟩)∧_
     go_enter Tryz.func149,Tryz.ntmps149
     go_wp2_with fail
     go_ret
     exact ⟨rfl,HB.out⟩
   · exact absurd q (by decide)
   · have hc := hf 3 (by decide)
     change w.cell? ⟨0,6,none⟩=some (.string ⟨([108,111,97,100]:List UInt8).toArray⟩) at hc
     clear hf hk
     show Calls _ _ _ _ fun e w'=>e=.returned (.string ⟨([108,111,97,100]:List UInt8).toArray⟩)∧_
     go_enter Tryz.func149,Tryz.ntmps149
     go_wp2_with fail
     go_ret
     exact ⟨rfl,HB.out⟩
   · have hc := hf 4 (by decide)
     change w.cell? ⟨0,8,none⟩=some (.string ⟨([115,116,111,114,101]:List UInt8).toArray⟩) at hc
     clear hf hk
     show Calls _ _ _ _ fun e w'=>e=.returned (.string ⟨([115,116,111,114,101]:List UInt8).toArray⟩)∧_
     go_enter Tryz.func149,Tryz.ntmps149
     go_wp2_with fail
     go_ret
     exact ⟨rfl,HB.out⟩
   · have hc := hf 5 (by decide)
     change w.cell? ⟨0,10,none⟩=some (.string ⟨([115,119,97,112]:List UInt8).toArray⟩) at hc
     clear hf hk
     show Calls _ _ _ _ fun e w'=>e=.returned (.string ⟨([115,119,97,112]:List UInt8).toArray⟩)∧_
     go_enter Tryz.func149,Tryz.ntmps149
     go_wp2_with fail
     go_ret
     exact ⟨rfl,HB.out⟩
   · have hc := hf 6 (by decide)
     change w.cell? ⟨0,12,none⟩=some (.string ⟨([102,101,110,99,101]:List UInt8).toArray⟩) at hc
     clear hf hk
     show Calls _ _ _ _ fun e w'=>e=.returned (.string ⟨([102,101,110,99,101]:List UInt8).toArray⟩)∧_
     go_enter Tryz.func149,Tryz.ntmps149
     go_wp2_with fail
     go_ret
     exact ⟨rfl,HB.out⟩
   · have hc := hf 7 (by decide)
     change w.cell? ⟨0,14,none⟩=some (.string ⟨([112,114,105,110,116]:List UInt8).toArray⟩) at hc
     clear hf hk
     show Calls _ _ _ _ fun e w'=>e=.returned (.string ⟨([112,114,105,110,116]:List UInt8).toArray⟩)∧_
     go_enter Tryz.func149,Tryz.ntmps149
     go_wp2_with fail
     go_ret
     exact ⟨rfl,HB.out⟩
   · have hc := hf 8 (by decide)
     change w.cell? ⟨0,16,none⟩=some (.string ⟨([106,117,109,112]:List UInt8).toArray⟩) at hc
     clear hf hk
     show Calls _ _ _ _ fun e w'=>e=.returned (.string ⟨([106,117,109,112]:List UInt8).toArray⟩)∧_
     go_enter Tryz.func149,Tryz.ntmps149
     go_wp2_with fail
     go_ret
     exact ⟨rfl,HB.out⟩
   · have hc := hf 9 (by decide)
     change w.cell? ⟨0,18,none⟩=some (.string ⟨([122,101,114,111]:List UInt8).toArray⟩) at hc
     clear hf hk
     show Calls _ _ _ _ fun e w'=>e=.returned (.string ⟨([122,101,114,111]:List UInt8).toArray⟩)∧_
     go_enter Tryz.func149,Tryz.ntmps149
     go_wp2_with fail
     go_ret
     exact ⟨rfl,HB.out⟩
   · have hc := hf 10 (by decide)
     change w.cell? ⟨0,20,none⟩=some (.string ⟨([104,97,108,116]:List UInt8).toArray⟩) at hc
     clear hf hk
     show Calls _ _ _ _ fun e w'=>e=.returned (.string ⟨([104,97,108,116]:List UInt8).toArray⟩)∧_
     go_enter Tryz.func149,Tryz.ntmps149
     go_wp2_with fail
     go_ret
     exact ⟨rfl,HB.out⟩
theorem w_ins (i:Ins) (hg:rgI i) (hk:kB i.k=true) (ho:opB i.k i.o=true) {w:World} {b:Nat} {txt:List UInt8} (hw:Wt b txt w) (hlen:txt.length≤50000000000000) (HT:∀ X,Below b w X→TgT X∧PwT X) :
 Calls Tryz.prog 123 #[.pointer (some ⟨b,0,none⟩),insV i] w fun e w'=>e=.returned (.tuple #[])∧Wq w b (txt++insT i) w':=by
 have HFL:=fldsT_len (uB i.k i.o) i hg 6
 have HWL:=wdT_len i
 have HFR : -9223372036854775808≤i.fr∧i.fr≤9223372036854775807:=hg.2.2.2.2.2.2.2.2
 have al:Below w.heap.size w (w.alloc (.cells (insC i).toArray 75)):=(Below.refl _ w).alloc (Nat.le_refl _) _
 have hq0:=(wq_new hw).below al
 have ho0:=Own.new w 75 (insC i).toArray
 have hnb:w.heap.size≠b:=by have:=hw.lt;omega
 obtain ⟨W0,hW0⟩:∃ W,W=w.alloc (.cells (insC i).toArray 75):=⟨_,rfl⟩
 rw [← hW0] at hq0 ho0
 have HQW:=Lib.hid hq0
 have B0:=hq0.bel
 have HT0:Hid (∀ X,Below b W0 X→TgT X∧PwT X):=fun X h=>HT X (B0.trans h)
 have HWO:Hid (∀ X,Below b W0 X→Calls Tryz.prog 149 #[insV i] X fun e w'=>e=.returned (.string ⟨(wdT i).toArray⟩)∧Below X.heap.size X w'):=fun X h=>wordOf_any i hg hk ho X (HT0.out X h).1
 have HVI:Hid (∀ X t,Wq W0 b t X→t.length≤60000000000000→Calls Tryz.prog 113 #[.agg #[.func (.func 150) #[.pointer (some ⟨b,0,none⟩)] #[],.func (.func 120) #[.pointer (some ⟨b,0,none⟩)] #[],.func (.func 121) #[.pointer (some ⟨b,0,none⟩)] #[]],.pointer (some ⟨w.heap.size,0,none⟩)] X fun e w'=>e=.returned (.tuple #[])∧Wq W0 b (t++fldsT (uB i.k i.o) i 6) w'):=fun X t h hl=>(w_visit i hg h.wt hl (h.own ho0 hnb nu_I) hnb (fun Y hY=>HT0.out Y (h.bel.trans hY))).mono fun _ _ ⟨h1,h2⟩=>⟨h1,h.trans h2⟩
 have HQ0:=Lib.hid (wq_new hq0.wt)
 unfold insT
 obtain ⟨f6,hf6⟩:∃ f,f=fldsT (uB i.k i.o) i 6:=⟨_,rfl⟩
 obtain ⟨wt,hwt⟩:∃ f,f=wdT i:=⟨_,rfl⟩
 rw [← hf6] at HVI HFL ⊢
 rw [← hwt] at HWO HWL ⊢
 obtain ⟨k,o,d,a,bb,ad,tt,wd,fr⟩:=i
 simp only [insV,insC] at HWO HFR ho0 hW0 ⊢
 have HS9:Hid (∀ X t,Wq W0 b t X→(X.cell? ⟨w.heap.size,0,none⟩=some (.int .u8 k)∧X.cell? ⟨w.heap.size,1,none⟩=some (.int .u8 o)∧X.cell? ⟨w.heap.size,2,none⟩=some (.int .i64 d)∧X.cell? ⟨w.heap.size,3,none⟩=some (.int .i64 a)∧X.cell? ⟨w.heap.size,4,none⟩=some (.int .i64 bb)∧X.cell? ⟨w.heap.size,5,none⟩=some (.int .i64 ad)∧X.cell? ⟨w.heap.size,6,none⟩=some (.int .i64 tt)∧X.cell? ⟨w.heap.size,7,none⟩=some (.int .i64 wd)∧X.cell? ⟨w.heap.size,8,none⟩=some (.int .i64 fr))):=fun X t h=>by
  have O:=h.own ho0 hnb nu_I
  exact ⟨by rw [cell_of_row _ _ 0 _ _ _ O];rfl,by rw [cell_of_row _ _ 1 _ _ _ O];rfl,by rw [cell_of_row _ _ 2 _ _ _ O];rfl,by rw [cell_of_row _ _ 3 _ _ _ O];rfl,by rw [cell_of_row _ _ 4 _ _ _ O];rfl,by rw [cell_of_row _ _ 5 _ _ _ O];rfl,by rw [cell_of_row _ _ 6 _ _ _ O];rfl,by rw [cell_of_row _ _ 7 _ _ _ O];rfl,by rw [cell_of_row _ _ 8 _ _ _ O];rfl⟩
 have HW0:=Lib.hid hW0
 obtain ⟨ws,hws⟩:∃ s:ByteArray,s=⟨wt.toArray⟩:=⟨_,rfl⟩
 rw [← hws] at HWO
 have hwsz:ws.size≤10:=by rw [hws];show wt.toArray.size≤10;rw [List.size_toArray];exact HWL
 have HWD:Hid (ws.data.toList=wt):=by rw [Hid,hws]
 have HWR:Hid (∀ X t s,Wq W0 b t X→t.length+s.size≤140737488355328→Calls Tryz.prog 119 #[.pointer (some ⟨b,0,none⟩),.string s] X fun e w'=>e=.returned (.tuple #[.int .i64 s.size,.nilIface])∧Wq W0 b (t++s.data.toList) w'):=fun X t s h hl=>wq_write h s hl
 have HLEN:=Lib.hid hlen
 have HF6:=Lib.hid HFL
 have HFRR:=Lib.hid HFR
 have HIT:Hid (∀ X,Below b W0 X→Calls Tryz.prog 147 #[.int .i64 fr] X fun e w'=>e=.returned (.string (itoaS fr))∧Below X.heap.size X w'):=fun X h=>itoa_any fr HFR.1 HFR.2 X (HT0.out X h).2
 have hmf:∀ (fn:Fn) (first cap:Array Value) (w:World),(Instr.makeFunc fn first cap).run Tryz.prog w=.ok (.func fn first cap) w:=fun _ _ _ _=>rfl
 clear hg hk ho hw hlen HT al hq0 ho0 hnb hW0 B0 HT0 hf6 hwt hws HFL HWL HFR
 go_enter Tryz.func123,Tryz.ntmps123
 go_upto_region 1 with (fail)
 rw [← HW0.out]
 clear HW0
 have hdr:=HQ0.out.below (below_drewN (Below.refl _ W0) 1)
 change Wq W0 b txt W0.drew at hdr
 have HDR:=Lib.hid hdr
 clear hdr
 go_region_held3 (fun V=>(V.cell? ⟨w.heap.size,0,none⟩=some (.int .u8 k)∧V.cell? ⟨w.heap.size,1,none⟩=some (.int .u8 o)∧V.cell? ⟨w.heap.size,2,none⟩=some (.int .i64 d)∧V.cell? ⟨w.heap.size,3,none⟩=some (.int .i64 a)∧V.cell? ⟨w.heap.size,4,none⟩=some (.int .i64 bb)∧V.cell? ⟨w.heap.size,5,none⟩=some (.int .i64 ad)∧V.cell? ⟨w.heap.size,6,none⟩=some (.int .i64 tt)∧V.cell? ⟨w.heap.size,7,none⟩=some (.int .i64 wd)∧V.cell? ⟨w.heap.size,8,none⟩=some (.int .i64 fr))∧∃ t,Wq W0 b t V) (first | exact ⟨HS9.out _ _ HDR.out,_,HDR.out⟩ | exact ⟨HS9.out _ _ HA.out,_,HA.out⟩ | exact ⟨HS9.out _ _ HZ.out,_,HZ.out⟩) (first
  | (go_at_call 149;refine (HWO.out _ HDR.out.bel).mono ?_;rintro e w2 ⟨rfl,hb⟩;have HA:=Lib.hid (HDR.out.below hb);clear hb)
  | (go_at_call 119;refine (HWR.out _ _ _ HA.out (by have:=HLEN.out;omega)).mono ?_;rintro e w3 ⟨rfl,hz⟩;have HZ:=Lib.hid hz;clear hz))
 go_upto_region 3 with (go_at_call 113;refine (HVI.out _ _ HZ.out (by rw [List.length_append,HWD.out,← HWD.out];have:=HLEN.out;show txt.length+ws.data.toList.length≤_;rw [Array.length_toList];show txt.length+ws.size≤_;omega)).mono ?_;rintro e w4 ⟨rfl,h4⟩)
 have h8:=(HS9.out _ _ h4).2.2.2.2.2.2.2.2
 have h5:Wq W0 b (txt++(wt++f6)) w4:=by rw [← HWD.out,← List.append_assoc];exact h4
 have HV:=Lib.hid h5
 have HWZ:Hid (wt.length≤10):=by rw [Hid,← HWD.out,Array.length_toList];exact hwsz
 clear h4 h5 HZ HA HDR HQ0 HVI hmf hwsz
 by_cases hf:fr=0
 · subst hf
   go_wp2_with fail
   exact bodyPost_end (results_none rfl _ _ _) rfl ⟨rfl,HQW.out.trans HV.out⟩
 · have q1 : (fr != 0) = true := by simpa using hf
   have HNZ:=Lib.hid hf
   have HIS:Hid ((itoaS fr).size≤100):=itoaS_size fr HFRR.out.1 HFRR.out.2
   have HID:=Lib.hid (itoaS_data fr)
   have hss:=HIS.out
   generalize itoaS fr=s at HIT hss HID
   have hcat:∀ V,(Op.stringOp .add ⟨#[32,64]⟩ s).run Tryz.prog V=.ok (.string (⟨#[32,64]⟩++s)) V:=fun V=>run_string_add_sum V _ _ (by show 2+s.size≤_;omega)
   have hdr:=HV.out.below (below_drewN (Below.refl _ w4) 1)
   change Wq W0 b _ w4.drew at hdr
   have HDR:=Lib.hid hdr
   have HCZ:Hid ((⟨#[32,64]⟩++s:ByteArray).size≤200):=by rw [Hid,ByteArray.size_append];show 2+s.size≤200;omega
   have HLL:Hid ((txt++(wt++f6)).length≤50000000001000):=by
    have:=HLEN.out;have:=HWZ.out;have:=HF6.out
    rw [Hid,List.length_append,List.length_append];omega
   clear hf hdr
   go_upto_region 4 with (fail)
   clear h8 q1
   go_region_held3 (fun V=>(V.cell? ⟨w.heap.size,0,none⟩=some (.int .u8 k)∧V.cell? ⟨w.heap.size,1,none⟩=some (.int .u8 o)∧V.cell? ⟨w.heap.size,2,none⟩=some (.int .i64 d)∧V.cell? ⟨w.heap.size,3,none⟩=some (.int .i64 a)∧V.cell? ⟨w.heap.size,4,none⟩=some (.int .i64 bb)∧V.cell? ⟨w.heap.size,5,none⟩=some (.int .i64 ad)∧V.cell? ⟨w.heap.size,6,none⟩=some (.int .i64 tt)∧V.cell? ⟨w.heap.size,7,none⟩=some (.int .i64 wd)∧V.cell? ⟨w.heap.size,8,none⟩=some (.int .i64 fr))∧∃ t,Wq W0 b t V) (first | exact ⟨HS9.out _ _ HDR.out,_,HDR.out⟩ | exact ⟨HS9.out _ _ HA.out,_,HA.out⟩ | exact ⟨HS9.out _ _ HZ.out,_,HZ.out⟩) (first
    | (go_at_call 147;refine (HIT.out _ HDR.out.bel).mono ?_;rintro e w5 ⟨rfl,hb⟩;have HA:=Lib.hid (HDR.out.below hb);clear hb)
    | (go_at_call 119;refine (HWR.out _ _ _ HA.out (by have:=HLL.out;have:=HCZ.out;omega)).mono ?_;rintro e w6 ⟨rfl,hz⟩;have HZ:=Lib.hid hz;clear hz))
   have HF:Hid (Wq w b (txt++(wt++f6++(if fr=0 then [] else [32,64]++Lib.itoa fr))) w6):=by
    have h:=HQW.out.trans HZ.out
    rw [ByteArray.data_append,Array.toList_append,HID.out] at h
    rw [Hid,if_neg HNZ.out,← List.append_assoc]
    exact h
   go_wp2_with fail
   exact bodyPost_end (results_none rfl _ _ _) rfl ⟨rfl,by have h:=HF.out;rw [if_neg HNZ.out] at h;simpa using h⟩
end Go.Proofs.YtmpljhfinmfnbaaGreatDoor

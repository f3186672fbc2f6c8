/- The proof, part 44: texts that belong together, in one. -/
import Derived.Test.YtmpljhfinmfnbaaGreatDoorQBL
import Derived.Test.YtmpljhfinmfnbaaGreatDoorQBC
import Derived.Test.YtmpljhfinmfnbaaGreatDoorQAN
import Derived.Test.YtmpljhfinmfnbaaGreatDoorQAZ
set_option maxRecDepth 100000
set_option maxHeartbeats 20000000
namespace Go.Proofs.YtmpljhfinmfnbaaGreatDoor
open Go.RowKit
set_option linter.unusedVariables false
set_option maxRecDepth 100000
theorem mag_new (W:World) {b:Nat} (hb:b<W.heap.size):ByQ (W.alloc (.cells #[.int .u8 115,.int .u8 116,.int .u8 105,.int .u8 108] 5)) b (.slice (some ⟨W.heap.size,0,none⟩) 4 4) ([115,116,105,108]:List UInt8) (W.alloc (.cells #[.int .u8 115,.int .u8 116,.int .u8 105,.int .u8 108] 5)) :=
 ⟨by rw [World.size_alloc];omega,⟨rfl,.inr ⟨W.heap.size,4,_,rfl,by omega,World.alloc_heap_new W _,by decide,by unfold maxLen;decide,rfl,rfl⟩⟩,Keep.refl _ _,Below.refl _ _⟩
theorem rencode_any (o:Ob) (hg:rgO o) (hf:fitO o) {v:Value} {w:World} (hv:obA w o v):Calls Tryz.prog 6 #[v] w (EncP o w):=by
 obtain ⟨i0,hi,hz0,hz1,hz2⟩:=info_parts infoU8'
 have HCK:Hid (∀ W,Below w.heap.size w W→Calls Tryz.prog 15 #[v] W fun e w'=>e=chkE (chkO o)∧Below W.heap.size W w'):=fun W hb=>rcheck_any o hg hf (obA_below hv hb)
 have hok:(chkO o).1=0→topB o=true∧∀ c∈o.cores,∀ i∈c.code,rightB i c.code.length o.mem.length=true:=fun h=>chk_ok h
 have HPR:Hid (EncP o w=fun e w'=>∃ a c,e=.returned (.tuple #[.slice a (if (chkO o).1=0 then obY o else []).length c,.int .i64 (chkO o).1])∧Below w.heap.size w w'∧w'.ownsRow w.heap.size 5 1 (.slice a (if (chkO o).1=0 then obY o else []).length c) (if (chkO o).1=0 then obY o else []).length (Lib.byteCells (if (chkO o).1=0 then obY o else []))):=rfl
 rw [HPR.out]
 clear HPR
 generalize chkO o=ck at HCK hok ⊢
 obtain ⟨r1,r2,r3⟩:=ck
 obtain ⟨a1,c1,a5,c5,rfl,h1,h5⟩:=hv
 obtain ⟨gm,gs,gk,gb,gi⟩:=hg
 replace HCK:Hid (∀ W,Below w.heap.size w W→Calls Tryz.prog 15 #[_] W fun e w'=>e=.returned (.tuple #[.int .i64 r1,.int .i64 r2,.int .i64 r3])∧Below W.heap.size W w'):=HCK.out
 obtain ⟨R,hR⟩:∃ R,R=obY o:=⟨_,rfl⟩
 rw [← hR]
 obtain ⟨mem,sh,lk,bf,cores⟩:=o
 simp only [obV] at HCK hok h1 h5 gm gs gk gb gi ⊢
 have HFIT:Hid (topB ⟨mem,sh,lk,bf,cores⟩=true→mem.length≤4096∧cores.length≤8∧∀ c∈cores,c.name.size≤32∧c.code.length≤16384):=fun h=>chk_fit h
 have hR2:R=([115,116,105,108]:List UInt8)++[sh,lk,bf,(mem.length:Int)].flatMap numY++mem.flatMap wrdY++numY cores.length++cores.flatMap corY:=hR
 generalize topB ⟨mem,sh,lk,bf,cores⟩=tb at hok HFIT
 obtain ⟨n1,hn1⟩:∃ n,n=mem.length:=⟨_,rfl⟩
 obtain ⟨n5,hn5⟩:∃ n,n=cores.length:=⟨_,rfl⟩
 rw [← hn1] at HCK hok HFIT hR2 ⊢
 rw [← hn5] at HCK HFIT hR2 ⊢
 have HN:=Lib.hid (And.intro hn1 hn5)
 have HR:=Lib.hid hR2
 have HOK:=Lib.hid hok
 have HG:=Lib.hid (And.intro gm gi)
 have E1:=Lib.hid h1
 have E5:=Lib.hid h5
 have O0:=Own.new w 25 #[.slice a1 n1 c1,.int .i64 sh,.int .i64 lk,.int .i64 bf,.slice a5 n5 c5]
 have B0:Below w.heap.size w (w.alloc (.cells #[.slice a1 n1 c1,.int .i64 sh,.int .i64 lk,.int .i64 bf,.slice a5 n5 c5] 25)):=(Below.refl _ w).alloc (Nat.le_refl _) _
 obtain ⟨W0,hW0⟩:∃ W,W=w.alloc (.cells #[.slice a1 n1 c1,.int .i64 sh,.int .i64 lk,.int .i64 bf,.slice a5 n5 c5] 25):=⟨_,rfl⟩
 rw [← hW0] at O0 B0
 have HW0:=Lib.hid hW0
 have HS0:Hid (Sq w #[.slice a1 n1 c1,.int .i64 sh,.int .i64 lk,.int .i64 bf,.slice a5 n5 c5] W0):=⟨O0,B0⟩
 clear hn1 hn5 hR hR2 hok h1 h5 gm gi hW0 B0 hf
 by_cases hr0:r1=0
 rotate_left
 · rw [if_neg hr0]
   have qr:(r1 != 0)=true:=by simpa using hr0
   clear HR HOK hr0
   go_enter Tryz.func6,Tryz.ntmps6
   go_upto_region 1 with (fail)
   rw [← HW0.out]
   clear HW0
   go_wp2_with (refine ld rowO rfl rfl rfl O0 rfl ?_)
   go_at_call 15
   refine (HCK.out _ HS0.out.bel).mono ?_
   rintro e w1 ⟨rfl,hb⟩
   have HS1:=Lib.hid (HS0.out.below hb)
   clear hb O0 HS0 HCK
   go_wp2_with fail
   refine bodyPost_ret (results_tmp2 rfl _ _ _) rfl ?_
   exact ⟨none,0,rfl,HS1.out.bel,World.ownsRow_nil _ _ _ _⟩
 subst hr0
 rw [if_pos rfl]
 obtain ⟨htb,hrt⟩:=HOK.out rfl
 obtain ⟨l1,l5,lc⟩:=HFIT.out htb
 have HRT:=Lib.hid hrt
 have HLC:=Lib.hid lc
 clear HOK HFIT hrt lc htb
 go_enter Tryz.func6,Tryz.ntmps6
 go_upto_region 1 with (fail)
 rw [← HW0.out]
 clear HW0
 go_wp2_with (refine ld rowO rfl rfl rfl O0 rfl ?_)
 go_at_call 15
 refine (HCK.out _ HS0.out.bel).mono ?_
 rintro e w1 ⟨rfl,hb⟩
 have HS1:=Lib.hid (HS0.out.below hb)
 have HS:=Lib.hid (mag_new w1 HS1.out.bx.lt)
 have hs2:=HS1.out.below ((Below.refl w1.heap.size w1).alloc (Nat.le_refl _) (.cells #[.int .u8 115,.int .u8 116,.int .u8 105,.int .u8 108] 5))
 obtain ⟨W2,hW2⟩:∃ W,W=w1.alloc (.cells #[.int .u8 115,.int .u8 116,.int .u8 105,.int .u8 108] 5):=⟨_,rfl⟩
 rw [← hW2] at HS hs2
 have HW2:=Lib.hid hW2
 have HSQ:Hid (∀ X v T,ByQ W2 w.heap.size v T X→Sq w #[.slice a1 n1 c1,.int .i64 sh,.int .i64 lk,.int .i64 bf,.slice a5 n5 c5] X):=fun X v T h=>⟨h.box hs2.bx nu_O,hs2.bel.trans (h.bel.mono (by omega))⟩
 have HPN:Hid (∀ (X:World) (v:Value) (T T':List UInt8) (x n:Int),ByQ W2 w.heap.size v T X→T'=T++numY x→T.length≤140737488300000→n=((Go.Proofs.YtmpljhfinmfnbaaGreatDoor.u64 x:Nat):Int)→Calls Tryz.prog 25 #[v,.int .u64 n] X fun e w'=>∃ a c,e=.returned (.slice a T'.length c)∧ByQ W2 w.heap.size (.slice a T'.length c) T' w'):=fun X v T T' x n h e hl hn=>by
  subst e hn
  exact (rputn_any h.new (Go.Proofs.YtmpljhfinmfnbaaGreatDoor.u64 x) (by unfold Go.Proofs.YtmpljhfinmfnbaaGreatDoor.u64;omega) (by omega)).mono fun _ _ ⟨a,c,h1,h2⟩=>⟨a,c,h1,h.trans h2⟩
 have HPW:Hid (∀ (X:World) (v:Value) (T T':List UInt8) (x:Int),ByQ W2 w.heap.size v T X→T'=T++wrdY x→T.length≤140737488300000→(-9223372036854775808≤x∧x≤9223372036854775807)→Calls Tryz.prog 26 #[v,.int .i64 x] X fun e w'=>∃ a c,e=.returned (.slice a T'.length c)∧ByQ W2 w.heap.size (.slice a T'.length c) T' w'):=fun X v T T' x h e hl hx=>by
  subst e
  exact (rputw_any h.new x hx (by omega)).mono fun _ _ ⟨a,c,h1,h2⟩=>⟨a,c,h1,h.trans h2⟩
 obtain ⟨T0,hT0⟩:∃ t:List UInt8,t=([115,116,105,108]:List UInt8):=⟨_,rfl⟩
 have hlT0:T0.length≤4:=by rw [hT0];decide
 have hv0:(4:Nat)=T0.length:=by rw [hT0];rfl
 rw [← hT0] at HS HR
 have HT0:=Lib.hid hT0
 have hgw:(some (⟨w1.heap.size,0,none⟩:Addr))=some ⟨w1.heap.size,0,none⟩:=rfl
 clear hb O0 HS0 HCK HS1 hW2 hs2 hT0 hv0 hgw
 go_upto_region 5 with fail
 rw [← HW2.out]
 clear HW2
 have z1:=row_cellsO (HSQ.out _ _ _ HS.out).bx 1 _ rfl
 obtain ⟨T1,hT1⟩:∃ t:List UInt8,t=T0++numY (sh):=⟨_,rfl⟩
 have hlT1:T1.length≤104:=by have:=(numY_len (sh)).1;rw [hT1,List.length_append];omega
 go_wp2_with fail
 go_at_call 25
 refine (HPN.out _ _ _ _ (sh) _ HS.out hT1 (by omega) ?_).mono ?_
 · first | rfl | (rw [IntKind.wrap_u64];unfold Go.Proofs.YtmpljhfinmfnbaaGreatDoor.u64;omega) | (unfold Go.Proofs.YtmpljhfinmfnbaaGreatDoor.u64;omega)
 rintro e wT1 ⟨aT1,cT1,rfl,hz⟩
 have HT1:=Lib.hid hT1
 replace HS:=Lib.hid hz
 clear hz hT1
 have z2:=row_cellsO (HSQ.out _ _ _ HS.out).bx 2 _ rfl
 obtain ⟨T2,hT2⟩:∃ t:List UInt8,t=T1++numY (lk):=⟨_,rfl⟩
 have hlT2:T2.length≤204:=by have:=(numY_len (lk)).1;rw [hT2,List.length_append];omega
 go_wp2_with fail
 go_at_call 25
 refine (HPN.out _ _ _ _ (lk) _ HS.out hT2 (by omega) ?_).mono ?_
 · first | rfl | (rw [IntKind.wrap_u64];unfold Go.Proofs.YtmpljhfinmfnbaaGreatDoor.u64;omega) | (unfold Go.Proofs.YtmpljhfinmfnbaaGreatDoor.u64;omega)
 rintro e wT2 ⟨aT2,cT2,rfl,hz⟩
 have HT2:=Lib.hid hT2
 replace HS:=Lib.hid hz
 clear hz hT2
 have z3:=row_cellsO (HSQ.out _ _ _ HS.out).bx 3 _ rfl
 obtain ⟨T3,hT3⟩:∃ t:List UInt8,t=T2++numY (bf):=⟨_,rfl⟩
 have hlT3:T3.length≤304:=by have:=(numY_len (bf)).1;rw [hT3,List.length_append];omega
 go_wp2_with fail
 go_at_call 25
 refine (HPN.out _ _ _ _ (bf) _ HS.out hT3 (by omega) ?_).mono ?_
 · first | rfl | (rw [IntKind.wrap_u64];unfold Go.Proofs.YtmpljhfinmfnbaaGreatDoor.u64;omega) | (unfold Go.Proofs.YtmpljhfinmfnbaaGreatDoor.u64;omega)
 rintro e wT3 ⟨aT3,cT3,rfl,hz⟩
 have HT3:=Lib.hid hT3
 replace HS:=Lib.hid hz
 clear hz hT3
 have z0:=row_cellsO (HSQ.out _ _ _ HS.out).bx 0 _ rfl
 obtain ⟨T4,hT4⟩:∃ t:List UInt8,t=T3++numY ((n1:Int)):=⟨_,rfl⟩
 have hlT4:T4.length≤404:=by have:=(numY_len ((n1:Int))).1;rw [hT4,List.length_append];omega
 go_wp2_with fail
 go_at_call 25
 refine (HPN.out _ _ _ _ ((n1:Int)) _ HS.out hT4 (by omega) ?_).mono ?_
 · first | rfl | (rw [IntKind.wrap_u64];unfold Go.Proofs.YtmpljhfinmfnbaaGreatDoor.u64;omega) | (unfold Go.Proofs.YtmpljhfinmfnbaaGreatDoor.u64;omega)
 rintro e wT4 ⟨aT4,cT4,rfl,hz⟩
 have HT4:=Lib.hid hT4
 replace HS:=Lib.hid hz
 clear hz hT4
 clear z0 z1 z2 z3 gs gk gb
 obtain ⟨t5,ht5⟩:∃ t:List UInt8,t=T4:=⟨_,rfl⟩
 have HT5:Hid (t5=T0++[sh,lk,bf,(n1:Int)].flatMap numY):=by
  rw [Hid,ht5,HT4.out,HT3.out,HT2.out,HT1.out]
  simp
 rw [← HT5.out] at HR
 rw [← ht5] at HS
 have hl5:t5.length≤500:=by rw [ht5];omega
 rw [← ht5]
 clear HT1 HT2 HT3 HT4 HT5 hlT0 hlT1 hlT2 hlT3 hlT4 ht5 HT0
 have HL5:=Lib.hid hl5
 clear hl5
 go_wp2_with fail
 go_loopg [7,8] (n1+1) (fun m' v z X=>∃ (j:Nat) (T:List UInt8) (ao:Option Addr) (cp:Nat),z=.int .i64 (j:Int)∧v=.slice ao T.length cp∧j≤n1∧m'=n1-j+1∧T=t5++(mem.take j).flatMap wrdY∧T.length≤1000+200*j∧ByQ W2 w.heap.size (.slice ao T.length cp) T X)
 case atStart=>exact ⟨0,t5,aT4,cT4,rfl,rfl,Nat.zero_le _,by omega,by simp,by have:=HL5.out;omega,HS.out⟩
 case round =>
  clear HS HL5
  obtain ⟨j,T,ao,cp,rfl,rfl,hj,hm,hT,hl,hp⟩:=hrel
  have HM:=Lib.hid hm
  have HT:=Lib.hid hT
  have HP:=Lib.hid hp
  have hsq:=HSQ.out _ _ _ hp
  have p0:=row_cellsO hsq.bx 0 _ rfl
  have p4:=row_cellsO hsq.bx 4 _ rfl
  clear hm hT hp
  by_cases hjn:j<n1
  · have il : j < mem.length := by have := HN.out.1; omega
    have g1:mem[j]? = some mem[j]:=List.getElem?_eq_getElem il
    have hx : -9223372036854775808≤mem[j]∧mem[j]≤9223372036854775807:=HG.out.1 _ (List.getElem_mem il)
    have htk:=take_flat wrdY g1
    generalize mem[j]=x at g1 hx htk
    rcases E1.out with e | ⟨g,q,e,e1⟩
    · subst e;simp at il
    obtain rfl:a1=some ⟨g,q,none⟩:=e
    have k0:=e1 j x g1
    have k0':wr.cell? ⟨g,q+j,none⟩=some (.int .i64 x):=(hsq.bel.cell (p:=⟨g,q+j,none⟩) (lt_of_at k0)).trans k0
    have hjn':(j:Int)<(n1:Int):=by omega
    have HTK:Hid (∀ T',T'=T++wrdY x→T'=t5++(mem.take (j+1)).flatMap wrdY):=fun T' e=>by
     rw [e,htk,HT.out,List.append_assoc]
    clear htk k0 e1 g1 il hsq
    obtain ⟨TW,hTW⟩:∃ t:List UInt8,t=T++wrdY (x):=⟨_,rfl⟩
    have hlTW:TW.length≤1000+200*(j+1):=by have:=(numY_len (x)).2;rw [hTW,List.length_append];omega
    go_wp2_with fail
    go_at_call 26
    refine (HPW.out _ _ _ _ (x) HP.out hTW (by omega) (by omega)).mono ?_
    rintro e wTW ⟨aTW,cTW,rfl,hz⟩
    have HTW:=Lib.hid hTW
    have HS:=Lib.hid hz
    clear hz hTW
    go_wp2_with fail
    go_roundg (n1-(j+1)+1)
    case measure=>have:=HM.out;omega
    case rel=>exact ⟨j+1,TW,aTW,cTW,by simp,rfl,by omega,by omega,HTK.out _ HTW.out,by omega,HS.out⟩
  obtain rfl:n1=j:=by omega
  have HS:=HP
  obtain ⟨TC,hTC⟩:∃ t:List UInt8,t=T++numY ((n5:Int)):=⟨_,rfl⟩
  have hlTC:TC.length≤900000:=by have:=(numY_len ((n5:Int))).1;rw [hTC,List.length_append];omega
  go_wp2_with fail
  go_at_call 25
  refine (HPN.out _ _ _ _ ((n5:Int)) _ HS.out hTC (by omega) ?_).mono ?_
  · first | rfl | (rw [IntKind.wrap_u64];unfold Go.Proofs.YtmpljhfinmfnbaaGreatDoor.u64;omega) | (unfold Go.Proofs.YtmpljhfinmfnbaaGreatDoor.u64;omega)
  rintro e wTC ⟨aTC,cTC,rfl,hz⟩
  have HTC:=Lib.hid hTC
  replace HS:=Lib.hid hz
  clear hz hTC
  obtain ⟨t6,ht6⟩:∃ t:List UInt8,t=TC:=⟨_,rfl⟩
  have HT6:Hid (t6=t5++mem.flatMap wrdY++numY n5):=by
   rw [Hid,ht6,HTC.out,HT.out,show mem.take n1=mem by rw [HN.out.1,List.take_length]]
  rw [← HT6.out] at HR
  rw [← ht6] at HS
  have hl6:t6.length≤1000000:=by rw [ht6];omega
  rw [← ht6]
  have HL6:=Lib.hid hl6
  clear HTC HT6 hlTC ht6 hl6 HP HT HM hl hj hjn p0 p4 hsq
  go_wp2_with fail
  go_loopg [7,9] (n5+1) (fun m' v z X=>∃ (t:Nat) (T:List UInt8) (ao:Option Addr) (cp:Nat),z=.int .i64 (t:Int)∧v=.slice ao T.length cp∧t≤n5∧m'=n5-t+1∧T=t6++(cores.take t).flatMap corY∧T.length≤1000000+20000000*t∧ByQ W2 w.heap.size (.slice ao T.length cp) T X)
  case atStart=>exact ⟨0,t6,aTC,cTC,rfl,rfl,Nat.zero_le _,by omega,by simp,by have:=HL6.out;omega,HS.out⟩
  case round =>
   clear HS HL6
   obtain ⟨t,T,ao,cp,rfl,rfl,ht,hm,hT,hl,hp⟩:=hrel
   have HM:=Lib.hid hm
   have HT:=Lib.hid hT
   have HP:=Lib.hid hp
   have hsq:=HSQ.out _ _ _ hp
   have p4:=row_cellsO hsq.bx 4 _ rfl
   clear hm hT
   by_cases htn:t<n5
   rotate_left
   · obtain rfl : n5 = t := by omega
     obtain rfl:R=T:=by rw [HR.out,HT.out,show cores.take n5=cores by rw [HN.out.2,List.take_length]]
     have HF:Hid (Below w.heap.size w wr∧wr.ownsRow w.heap.size 5 1 (.slice ao R.length cp) R.length (Lib.byteCells R)):=⟨hsq.bel,row_mono hp.own (by omega)⟩
     clear hp hsq
     go_wp2_with fail
     refine bodyPost_ret (results_tmp2 rfl _ _ _) rfl ?_
     exact ⟨ao,cp,rfl,HF.out.1,HF.out.2⟩
   have il:t<cores.length:=by have:=HN.out.2;omega
   have g1:cores[t]? = some cores[t]:=List.getElem?_eq_getElem il
   have hmem:cores[t]∈cores:=List.getElem_mem il
   have htk:=take_flat corY g1
   generalize cores[t]=x at g1 hmem htk
   rcases E5.out with e | ⟨g,q,e,e1⟩
   · subst e;simp at il
   obtain rfl:a5=some ⟨g,q,none⟩:=e
   obtain ⟨f0,a2,c2,f1,y2⟩:=e1 t x g1
   obtain ⟨lnm,lcd⟩:=HLC.out x hmem
   have HRI:Hid (∀ i∈x.code,rgI i):=HG.out.2 x hmem
   have HRX:Hid (∀ i∈x.code,rightB i x.code.length n1=true):=HRT.out x hmem
   obtain ⟨nm,cd⟩:=x
   simp only [corY] at f0 f1 y2 lnm lcd HRI HRX htk
   have htn':(t:Int)<(n5:Int):=by omega
   obtain ⟨nc,hnc⟩:∃ n,n=cd.length:=⟨_,rfl⟩
   rw [← hnc] at f1 lcd HRX htk
   have HNC:=Lib.hid hnc
   have E2:=Lib.hid y2
   have k0:wr.cell? ⟨g,q+t*2,none⟩=some (.string nm):=(hsq.bel.cell (p:=⟨g,q+t*2,none⟩) (lt_of_at f0)).trans f0
   have k1:wr.cell? ⟨g,q+t*2+1,none⟩=some (.slice a2 nc c2):=(hsq.bel.cell (p:=⟨g,q+t*2+1,none⟩) (lt_of_at f1)).trans f1
   have O1:=Own.new wr 70 #[.string nm,.slice a2 nc c2]
   have HS3:=Lib.hid (hp.below ((Below.refl wr.heap.size wr).alloc (Nat.le_refl _) (.cells #[.string nm,.slice a2 nc c2] 70)))
   obtain ⟨W3,hW3⟩:∃ W,W=wr.alloc (.cells #[.string nm,.slice a2 nc c2] 70):=⟨_,rfl⟩
   rw [← hW3] at O1 HS3
   have HW3:=Lib.hid hW3
   have HS:=Lib.hid HS3.out.new
   have HTR:Hid (∀ X v T,ByQ W3 w.heap.size v T X→ByQ W2 w.heap.size v T X):=fun X v T h=>HS3.out.trans h
   have HCX:Hid (∀ X v T,ByQ W3 w.heap.size v T X→X.cell? ⟨wr.heap.size,0,none⟩=some (.string nm)∧X.cell? ⟨wr.heap.size,1,none⟩=some (.slice a2 nc c2)):=fun X v T h=>⟨row_cellsO (h.box O1 nu_C) 0 _ rfl,row_cellsO (h.box O1 nu_C) 1 _ rfl⟩
   have HPM:Hid (∀ (X:World) (v:Value) (T T':List UInt8) (x n:Int),ByQ W3 w.heap.size v T X→T'=T++numY x→T.length≤140737488300000→n=((Go.Proofs.YtmpljhfinmfnbaaGreatDoor.u64 x:Nat):Int)→Calls Tryz.prog 25 #[v,.int .u64 n] X fun e w'=>∃ a c,e=.returned (.slice a T'.length c)∧ByQ W3 w.heap.size (.slice a T'.length c) T' w'):=fun X v T T' x n h e hl hn=>by
    subst e hn
    exact (rputn_any h.new (Go.Proofs.YtmpljhfinmfnbaaGreatDoor.u64 x) (by unfold Go.Proofs.YtmpljhfinmfnbaaGreatDoor.u64;omega) (by omega)).mono fun _ _ ⟨a,c,h1,h2⟩=>⟨a,c,h1,h.trans h2⟩
   have HTK:Hid (∀ T',T'=T++numY nm.size++nm.data.toList++numY nc++cd.flatMap insY→T'=t6++(cores.take (t+1)).flatMap corY):=fun T' e=>by
    rw [e,htk,HT.out]
    simp only [List.append_assoc]
   clear hW3 O1 hp hsq y2 e1 g1 hmem htk hnc il f0 f1
   go_upto_region 18 with fail
   rw [← HW3.out]
   clear HW3 k0 k1 p4
   generalize wr.heap.size=gc at HCX ⊢
   have q0:=(HCX.out _ _ _ HS.out).1
   obtain ⟨TN,hTN⟩:∃ t:List UInt8,t=T++numY ((nm.size:Int)):=⟨_,rfl⟩
   have hlTN:TN.length≤1000100+20000000*t:=by have:=(numY_len ((nm.size:Int))).1;rw [hTN,List.length_append];omega
   go_wp2_with fail
   go_at_call 25
   refine (HPM.out _ _ _ _ ((nm.size:Int)) _ HS.out hTN (by omega) ?_).mono ?_
   · first | rfl | (rw [IntKind.wrap_u64];unfold Go.Proofs.YtmpljhfinmfnbaaGreatDoor.u64;omega) | (unfold Go.Proofs.YtmpljhfinmfnbaaGreatDoor.u64;omega)
   rintro e wTN ⟨aTN,cTN,rfl,hz⟩
   have HTN:=Lib.hid hTN
   replace HS:=Lib.hid hz
   clear hz hTN
   have q0:=(HCX.out _ _ _ HS.out).1
   obtain ⟨TA,hTA⟩:∃ t:List UInt8,t=TN++nm.data.toList:=⟨_,rfl⟩
   have hlTA:TA.length≤1000200+20000000*t:=by
    have:nm.data.toList.length=nm.size:=Array.length_toList
    rw [hTA,List.length_append]
    omega
   have hp:=HS.out
   have hbz:=hp.lt
   have hbz2:=hp.bel.size
   go_wp2_with (at_builtin;refine Lib.wpList_append_own_string _ rfl _ _ 26 9 rfl (w.heap.size+1) 5 i0 Tryz.underlying26 Tryz.underlying9 hi hz0 hz1 hz2 _ _ _ rfl hp.own nm rfl ?c3 ?c4 ?c5 ?_)
   case c3=>unfold maxLen;omega
   case c4=>omega
   case c5=>omega
   intro v' wA ho hgr _
   obtain ⟨aA,cA,rfl,hps⟩:=hp.str hTA ho hgr
   replace HS:=Lib.hid hps
   have HTA:=Lib.hid hTA
   clear ho hgr hps hp hTA q0 hbz hbz2
   have q1:=(HCX.out _ _ _ HS.out).2
   obtain ⟨TB,hTB⟩:∃ t:List UInt8,t=TA++numY ((nc:Int)):=⟨_,rfl⟩
   have hlTB:TB.length≤1000300+20000000*t:=by have:=(numY_len ((nc:Int))).1;rw [hTB,List.length_append];omega
   go_wp2_with fail
   go_at_call 25
   refine (HPM.out _ _ _ _ ((nc:Int)) _ HS.out hTB (by omega) ?_).mono ?_
   · first | rfl | (rw [IntKind.wrap_u64];unfold Go.Proofs.YtmpljhfinmfnbaaGreatDoor.u64;omega) | (unfold Go.Proofs.YtmpljhfinmfnbaaGreatDoor.u64;omega)
   rintro e wTB ⟨aTB,cTB,rfl,hz⟩
   have HTB:=Lib.hid hTB
   replace HS:=Lib.hid hz
   clear hz hTB
   have q1:=(HCX.out _ _ _ HS.out).2
   have hlTB:TB.length≤1000300+20000000*t:=by omega
   go_wp2_with fail
   clear q1
   go_loopg [7,11] (nc+1) (fun m' v z X=>∃ (i:Nat) (T':List UInt8) (ao:Option Addr) (cp:Nat),z=.int .i64 (i:Int)∧v=.slice ao T'.length cp∧i≤nc∧m'=nc-i+1∧T'=TB++(cd.take i).flatMap insY∧T'.length≤1000300+20000000*t+1000*i∧ByQ W3 w.heap.size (.slice ao T'.length cp) T' X)
   case atStart=>exact ⟨0,TB,aTB,cTB,rfl,rfl,Nat.zero_le _,by omega,by simp,by omega,HS.out⟩
   case round =>
    clear HS
    obtain ⟨i,T',ao,cp,rfl,rfl,hi',hmi,hT',hl',hp⟩:=hrel
    have HMI:=Lib.hid hmi
    have HT':=Lib.hid hT'
    have HP:=Lib.hid hp
    have q1:=(HCX.out _ _ _ hp).2
    clear hmi hT' hp
    by_cases hin:i<nc
    rotate_left
    · obtain rfl : nc = i := by omega
      have HTE:Hid (T'=t6++(cores.take (t+1)).flatMap corY):=HTK.out _ (by
       rw [HT'.out,HTB.out,HTA.out,HTN.out,show cd.take nc=cd by rw [HNC.out,List.take_length]])
      go_wp2_with fail
      go_roundg (n5-(t+1)+1)
      case measure=>have:=HM.out;omega
      case rel=>exact ⟨t+1,T',ao,cp,by simp,rfl,by omega,by omega,HTE.out,by omega,HTR.out _ _ _ HP.out⟩
    have jl:i<cd.length:=by have:=HNC.out;omega
    have g2:cd[i]? = some cd[i]:=List.getElem?_eq_getElem jl
    have hme:cd[i]∈cd:=List.getElem_mem jl
    have htk2:=take_flat insY g2
    have hri:=HRI.out _ hme
    have hrx:=(right_k (HRX.out _ hme)).1
    generalize cd[i]=x at g2 hme htk2 hri hrx
    rcases E2.out with e | ⟨g',q',e,e2⟩
    · subst e;simp at jl
    obtain rfl:a2=some ⟨g',q',none⟩:=e
    have e3:=e2 i x g2
    have BX:=(HSQ.out _ _ _ (HTR.out _ _ _ HP.out)).bel
    have f0:wr.cell? ⟨g',q'+i*9,none⟩=some (.int .u8 x.k):=(BX.cell (p:=⟨g',q'+i*9,none⟩) (lt_of_at (e3 0 _ rfl))).trans (e3 0 _ rfl)
    have f1:wr.cell? ⟨g',q'+i*9+1,none⟩=some (.int .u8 x.o):=(BX.cell (p:=⟨g',q'+i*9+1,none⟩) (lt_of_at (e3 1 _ rfl))).trans (e3 1 _ rfl)
    have f2:wr.cell? ⟨g',q'+i*9+2,none⟩=some (.int .i64 x.d):=(BX.cell (p:=⟨g',q'+i*9+2,none⟩) (lt_of_at (e3 2 _ rfl))).trans (e3 2 _ rfl)
    have f3:wr.cell? ⟨g',q'+i*9+3,none⟩=some (.int .i64 x.a):=(BX.cell (p:=⟨g',q'+i*9+3,none⟩) (lt_of_at (e3 3 _ rfl))).trans (e3 3 _ rfl)
    have f4:wr.cell? ⟨g',q'+i*9+4,none⟩=some (.int .i64 x.b):=(BX.cell (p:=⟨g',q'+i*9+4,none⟩) (lt_of_at (e3 4 _ rfl))).trans (e3 4 _ rfl)
    have f5:wr.cell? ⟨g',q'+i*9+5,none⟩=some (.int .i64 x.ad):=(BX.cell (p:=⟨g',q'+i*9+5,none⟩) (lt_of_at (e3 5 _ rfl))).trans (e3 5 _ rfl)
    have f6:wr.cell? ⟨g',q'+i*9+6,none⟩=some (.int .i64 x.tt):=(BX.cell (p:=⟨g',q'+i*9+6,none⟩) (lt_of_at (e3 6 _ rfl))).trans (e3 6 _ rfl)
    have f7:wr.cell? ⟨g',q'+i*9+7,none⟩=some (.int .i64 x.wd):=(BX.cell (p:=⟨g',q'+i*9+7,none⟩) (lt_of_at (e3 7 _ rfl))).trans (e3 7 _ rfl)
    have f8:wr.cell? ⟨g',q'+i*9+8,none⟩=some (.int .i64 x.fr):=(BX.cell (p:=⟨g',q'+i*9+8,none⟩) (lt_of_at (e3 8 _ rfl))).trans (e3 8 _ rfl)
    have hin':(i:Int)<(nc:Int):=by omega
    obtain ⟨TD,hTD⟩:∃ t:List UInt8,t=T'++insY x:=⟨_,rfl⟩
    have HPI:Hid (Calls Tryz.prog 27 #[.slice ao T'.length cp,insV x] wr fun e w'=>∃ a c,e=.returned (.slice a TD.length c)∧ByQ W3 w.heap.size (.slice a TD.length c) TD w'):=by
     rw [hTD]
     exact (rputi_any HP.out.new x hri hrx (by omega)).mono fun _ _ ⟨a,c,h1,h2⟩=>⟨a,c,h1,HP.out.trans h2⟩
    have HTD:Hid (TD=TB++(cd.take (i+1)).flatMap insY):=by
     rw [Hid,hTD,htk2,HT'.out,List.append_assoc]
    have hlTD:TD.length≤1000300+20000000*t+1000*(i+1):=by
     have:=insY_len x hri
     rw [hTD,List.length_append]
     omega
    obtain ⟨k,o,d,a,b,ad,tt,wd,fr⟩:=x
    simp only [insC,insV] at f0 f1 f2 f3 f4 f5 f6 f7 f8 HPI
    clear hTD htk2 hri hrx g2 hme jl e2 e3 BX
    go_wp2_with (go_at_call 27;refine HPI.out.mono ?_;rintro e w2 ⟨aD,cD,rfl,hz⟩;have HS:=Lib.hid hz;clear hz f0 f1 f2 f3 f4 f5 f6 f7 f8 q1)
    go_roundg (nc-(i+1)+1)
    case measure=>have:=HMI.out;omega
    case rel=>exact ⟨i+1,TD,aD,cD,by simp,rfl,by omega,by omega,HTD.out,by omega,HS.out⟩
end Go.Proofs.YtmpljhfinmfnbaaGreatDoor

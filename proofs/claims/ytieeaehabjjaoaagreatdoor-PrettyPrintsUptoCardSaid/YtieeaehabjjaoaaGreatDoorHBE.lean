/- The proof, part 31: texts that belong together, in one. -/
import Derived.Test.YtieeaehabjjaoaaGreatDoorHBA
import Derived.Test.YtieeaehabjjaoaaGreatDoorHAP
import Derived.Test.YtieeaehabjjaoaaGreatDoorHBD
import Derived.Lib.BufferRead
import Derived.Test.YtieeaehabjjaoaaGreatDoorHAS
import Derived.Test.YtieeaehabjjaoaaGreatDoorHAT
import Derived.Test.YtieeaehabjjaoaaGreatDoorHAV
import Derived.Test.YtieeaehabjjaoaaGreatDoorHAA
import Derived.ChangeArms
import Derived.SizedLaws
import Derived.Carry
import Derived.ChangeSame
import Derived.WideShapes
import Derived.ChangeSlices
import Derived.Test.YtieeaehabjjaoaaGreatDoorHAR
import Derived.Test.YtieeaehabjjaoaaGreatDoorHAO
set_option maxRecDepth 100000
set_option maxHeartbeats 20000000
namespace Go.Proofs.YtieeaehabjjaoaaGreatDoor
open Go.RowKit
set_option linter.unusedVariables false
set_option maxRecDepth 100000
theorem conv_u {W:World} {B:Nat} {v:Value} {l:List UInt8} (h:W.ownsRow B 5 1 v l.length (Lib.byteCells l)):(convert 46 9 v).run Tryz.prog W=.ok (.string ⟨l.toArray⟩) W:=by
 rcases h.2 with ⟨rfl,h0⟩ | ⟨g,cap,cur,rfl,_,hg,_,_,_,htk⟩
 · have : l = [] := List.eq_nil_of_length_eq_zero h0
   subst this
   exact Lib.run_convert_nil_bytes W _ _ _ 0 Tryz.underlying46 Tryz.underlying5 Tryz.underlying9
 · exact run_convert_bytes_back W _ _ _ ⟨g,0,none⟩ cap l Tryz.underlying46 Tryz.underlying5 Tryz.underlying9 (Lib.bytes_of_row hg (by simpa using htk))
theorem bare_mem32 {l:List Dc} (h:bareB l=true):∀ d∈l,d.name.size≤1000 ∧ -9223372036854775808≤d.wd∧d.wd≤9223372036854775807:=fun d hd=>by
 have:=List.all_eq_true.1 h d hd
 simp only [Bool.and_eq_true,beq_iff_eq] at this
 have h1:=name_size this.1
 rw [this.2]
 exact ⟨by omega,by omega,by omega⟩
theorem shared_mem32 {l:List Dc} (h:sharedB l=true) (hr:∀ d∈l,-9223372036854775808≤d.wd∧d.wd≤9223372036854775807):∀ d∈l,d.name.size≤1000 ∧ -9223372036854775808≤d.wd∧d.wd≤9223372036854775807:=fun d hd=>by
 have:=List.all_eq_true.1 h d hd
 simp only [Bool.and_eq_true] at this
 have h1:=name_size this.1
 exact ⟨by omega,hr d hd⟩
theorem ux_new (W:World):Ux W.heap.size [] (W.alloc (.cells #[.slice none 0 0,.bool false] 48)) :=
 ⟨_,.inl ⟨Own.new W _ _,by simp,World.ownsRow_nil _ _ _ _⟩⟩
theorem r_Print {x:Pg} {v:Value} {w:World} (H:PrOk x) (fx:fitP x) (hv:pA w x v):Calls Tryz.prog 7 #[v] w (AttP w (mkY (rP x) (tP x))):=by
 have HRT:Hid (∀ W,Below w.heap.size w W→Calls Tryz.prog 21 #[v] W fun e w'=>e=.returned (.bool (rP x))∧Below W.heap.size W w'):=fun W hb=>r_Right x fx H.2.1 H.2.2.1 (pA_below hv hb)
 obtain ⟨a1,c1,a2,c2,a3,c3,rfl,h1,h2,h3⟩:=hv
 obtain ⟨hok,hrg,hD,hL⟩:=H
 obtain ⟨_,_,l3,hth⟩:=hok
 obtain ⟨l1,l2,ll⟩:=hL
 have BA:Below w.heap.size w (w.alloc (.cells #[.slice a1 x.shared.length c1,.slice a2 x.locks.length c2,.slice a3 x.threads.length c3] 25)):=(Below.refl _ w).alloc (Nat.le_refl _) _
 have OX:=Own.new w 25 #[.slice a1 x.shared.length c1,.slice a2 x.locks.length c2,.slice a3 x.threads.length c3]
 obtain ⟨W0,hW0⟩:∃ W,W=w.alloc (.cells #[.slice a1 x.shared.length c1,.slice a2 x.locks.length c2,.slice a3 x.threads.length c3] 25):=⟨_,rfl⟩
 rw [← hW0] at BA OX
 have HRT0:=Lib.hid (HRT.out W0 BA)
 obtain ⟨sh,lk,th⟩:=x
 simp only at *
 obtain ⟨rr,hrr⟩:∃ r,r=rP ⟨sh,lk,th⟩:=⟨_,rfl⟩
 rw [← hrr] at HRT0 ⊢
 obtain ⟨n1,hn1⟩:∃ n,n=sh.length:=⟨_,rfl⟩
 obtain ⟨n2,hn2⟩:∃ n,n=lk.length:=⟨_,rfl⟩
 obtain ⟨n3,hn3⟩:∃ n,n=th.length:=⟨_,rfl⟩
 rw [← hn1,← hn2,← hn3] at HRT0 OX hW0 ⊢
 have HW0:=Lib.hid hW0
 have HBA:=Lib.hid BA
 have HOX:=Lib.hid OX
 have E1:=Lib.hid h1
 have E2:=Lib.hid h2
 have E3:=Lib.hid h3
 have HTH:=Lib.hid hth
 have HRG:=Lib.hid hrg
 have HDD:=Lib.hid hD
 have HLL:=Lib.hid (And.intro l1 (And.intro l2 ll))
 have HN:=Lib.hid (And.intro hn1 (And.intro hn2 hn3))
 have HR:=Lib.hid hrr
 rw [← hn3] at l3
 clear HRT hW0 BA h1 h2 h3 hth hrg hD l1 l2 ll hn1 hn2 hn3 hrr
 cases rr with
 | false =>
   have HB:=HBA
   go_enter Tryz.func7,Tryz.ntmps7
   go_upto_region 1 with (fail)
   rw [← HW0.out]
   clear HW0 HOX
   go_wp2_with (refine ld rowPg rfl rfl rfl OX rfl ?_)
   go_at_call 21
   refine HRT0.out.mono ?_
   rintro e w2 ⟨rfl,hb⟩
   have HF:Hid (AttP w (mkY false (tP ⟨sh,lk,th⟩)) (.returned (.tuple #[.string ⟨#[]⟩,.int .i64 40])) w2):=⟨HBA.out.trans (hb.mono HBA.out.size),rfl⟩
   clear hb OX
   go_wp2_with fail
   go_ret2
   exact HF.out
 | true =>
   have hr:=HR.out.symm
   unfold rP at hr
   simp only [Bool.and_eq_true] at hr
   obtain ⟨r1,r2,r3⟩:=hr
   have HT3:=Lib.hid (List.all_eq_true.1 r3)
   have HR12:=Lib.hid (And.intro r1 r2)
   clear r1 r2 r3
   obtain ⟨tx,htx⟩:∃ t,t=tP ⟨sh,lk,th⟩:=⟨_,rfl⟩
   rw [← htx]
   have HTX:Hid (tx=tDs ⟨#[115,104,97,114,101,100]⟩ sh 0++(tDs ⟨#[108,111,99,107]⟩ lk 0++th.flatMap tT)):=htx
   clear htx
   go_enter Tryz.func7,Tryz.ntmps7
   go_upto_region 1 with (fail)
   rw [← HW0.out]
   clear HW0
   go_wp2_with (refine ld rowPg rfl rfl rfl OX rfl ?_)
   go_at_call 21
   refine HRT0.out.mono ?_
   rintro e w1 ⟨rfl,hb1⟩
   have B1:=HBA.out.trans (hb1.mono HBA.out.size)
   have HB1:=Lib.hid B1
   replace HOX:=Lib.hid (HOX.out.below hb1)
   replace E1:=Lib.hid (dcsAt_below E1.out B1)
   replace E2:=Lib.hid (dcsAt_below E2.out B1)
   replace E3:=Lib.hid (thsAt_below E3.out B1)
   have hu:=ux_new w1
   have hub:Below w1.heap.size w1 (w1.alloc (.cells #[.slice none 0 0,.bool false] 48)):=(Below.refl _ w1).alloc (Nat.le_refl _) _
   obtain ⟨b,hb⟩:∃ b,b=w1.heap.size:=⟨_,rfl⟩
   rw [← hb] at hu hub
   have HV:=Lib.hid (uv_new hu hub)
   have HB:=Lib.hid hb
   have HLB:Hid (w.heap.size<b):=by rw [Hid,hb];exact HOX.out.lt
   have HPX:Hid (∀ W,Below b w1 W→Own W w.heap.size 25 #[.slice a1 n1 c1,.slice a2 n2 c2,.slice a3 n3 c3]):=fun W h=>(h.block _ HLB.out).trans HOX.out
   have HL1:Hid (∀ t W,Uv w1 (w1.alloc (.cells #[.slice none 0 0,.bool false] 48)) b t W→Calls Tryz.prog 22 #[.pointer (some ⟨b,0,none⟩),.string ⟨#[115,104,97,114,101,100]⟩,.slice a1 n1 c1] W fun e W'=>e=.returned (.tuple #[])∧Uv w1 (w1.alloc (.cells #[.slice none 0 0,.bool false] 48)) b (t++tDs ⟨#[115,104,97,114,101,100]⟩ sh 0) W'):=fun t W h=>by
    rw [HN.out.1]
    exact (u_decls HLL.out.1 (shared_mem32 HR12.out.1 HDD.out) (by decide) E1.out hb h.2.1 h.1).mono fun _ _ hp=>uv_put h hp
   have HL2:Hid (∀ t W,Uv w1 (w1.alloc (.cells #[.slice none 0 0,.bool false] 48)) b t W→Calls Tryz.prog 22 #[.pointer (some ⟨b,0,none⟩),.string ⟨#[108,111,99,107]⟩,.slice a2 n2 c2] W fun e W'=>e=.returned (.tuple #[])∧Uv w1 (w1.alloc (.cells #[.slice none 0 0,.bool false] 48)) b (t++tDs ⟨#[108,111,99,107]⟩ lk 0) W'):=fun t W h=>by
    rw [HN.out.2.1]
    exact (u_decls HLL.out.2.1 (bare_mem32 HR12.out.2) (by decide) E2.out hb h.2.1 h.1).mono fun _ _ hp=>uv_put h hp
   obtain ⟨WU,hWU⟩:∃ W,W=w1.alloc (.cells #[.slice none 0 0,.bool false] 48):=⟨_,rfl⟩
   rw [← hWU] at HV HL1 HL2
   have HWU:=Lib.hid hWU
   generalize tDs ⟨#[115,104,97,114,101,100]⟩ sh 0=t1 at HL1 HTX
   generalize tDs ⟨#[108,111,99,107]⟩ lk 0=t2 at HL2 HTX
   clear hWU hb hu hub hb1 B1 HRT0 OX HR
   go_upto_region 5 with (fail)
   rw [← HWU.out,← HB.out]
   clear HWU
   have d0:WU.cell? ⟨w.heap.size,0,none⟩=some (.slice a1 n1 c1):=by rw [cell_of_row _ _ 0 _ _ _ (HPX.out _ HV.out.2.1)];rfl
   go_wp2_with fail
   go_at_call 22
   refine (HL1.out _ _ HV.out).mono ?_
   rintro e w2 ⟨rfl,hx⟩
   rw [List.nil_append] at hx
   have HX2:=Lib.hid hx
   have d1:w2.cell? ⟨w.heap.size,1,none⟩=some (.slice a2 n2 c2):=by rw [cell_of_row _ _ 1 _ _ _ (HPX.out _ hx.2.1)];rfl
   clear hx d0 HV HL1
   go_wp2_with fail
   go_at_call 22
   refine (HL2.out _ _ HX2.out).mono ?_
   rintro e w3 ⟨rfl,hx⟩
   have HX3:=Lib.hid hx
   clear hx d1 HX2 HL2
   go_wp2_with fail
   go_loopg [6] (n3+1) (fun m' u W=>∃ t:Nat,u=.int .i64 (t:Int)∧t≤n3∧m'=n3-t+1∧Uv w1 WU b ((t1++t2)++(th.take t).flatMap tT) W)
   case atStart=>exact ⟨0,rfl,Nat.zero_le _,by omega,by simpa using HX3.out⟩
   case round =>
    clear HX3
    obtain ⟨t,rfl,ht,hm,hx⟩:=hrel
    have HM:=Lib.hid hm
    have HX:=Lib.hid hx
    clear hm hx
    have d2:wr.cell? ⟨w.heap.size,2,none⟩=some (.slice a3 n3 c3):=by rw [cell_of_row _ _ 2 _ _ _ (HPX.out _ HX.out.2.1)];rfl
    obtain ⟨vb,hx | hx⟩:=HX.out.1
    · have b1 : wr.cell? ⟨b, 1, none⟩ = some (.bool false) := by rw [cell_of_row _ _ 1 _ _ _ hx.1]; rfl
      by_cases htn:t<n3
      · clear hx
        have il:t<th.length:=by have:=HN.out.2.2;omega
        have g1:th[t]? = some th[t]:=List.getElem?_eq_getElem il
        have hmem:th[t]∈th:=List.getElem_mem il
        have htk:th.take (t+1)=th.take t++[th[t]]:=by rw [List.take_succ_eq_append_getElem il]
        generalize th[t]=x at g1 hmem htk
        have hf1:(th.take (t+1)).flatMap tT=(th.take t).flatMap tT++tT x:=by rw [htk,flat_snoc]
        rcases E3.out with e | ⟨g,q,e,_,e1⟩
        · cases th with
          | nil=>simp at il
          | cons=>cases e
        obtain rfl:a3=some ⟨g,q,none⟩:=e
        have x1:=thsIn_get t x e1 g1
        obtain ⟨nm,lo,bo,ps⟩:=x
        obtain ⟨f0,⟨a4,c4,f1,y1⟩,⟨a5,c5,f2,y2⟩,f3⟩:=x1
        have lg:=lt_of_at f0
        simp only at lg
        rw [← HB.out] at lg
        have HLG:=Lib.hid lg
        have HTF:=Lib.hid (And.intro f0 (And.intro f1 f2))
        have htn':(t:Int)<(n3:Int):=by omega
        have r3:=HT3.out _ hmem
        simp only [thB,Bool.and_eq_true] at r3
        obtain ⟨q1,q2,q3⟩:=r3
        obtain ⟨_,o2,o3⟩:=HTH.out _ hmem
        have ol:=HLL.out.2.2 _ hmem
        have org:rgSs bo:=HRG.out _ hmem
        simp only at o2 o3 ol
        have hnz:nm.size≤100:=by have:=name_size q1;omega
        have H1:Hid (∀ tx W,Uv w1 WU b tx W→Calls Tryz.prog 22 #[.pointer (some ⟨b,0,none⟩),.string ⟨#[108,111,99,97,108]⟩,.slice a4 lo.length c4] W fun e W'=>e=.returned (.tuple #[])∧Uv w1 WU b (tx++tDs ⟨#[108,111,99,97,108]⟩ lo 0) W'):=fun tx W h=>(u_decls ol (bare_mem32 q2) (by decide) y1 HB.out h.2.1 h.1).mono fun _ _ hp=>uv_put h hp
        have H2:Hid (∀ tx W,Uv w1 WU b tx W→Calls Tryz.prog 24 #[.pointer (some ⟨b,0,none⟩),.slice a5 bo.length c5,.int .i64 1] W fun e W'=>e=.returned (.tuple #[])∧Uv w1 WU b (tx++tSs bo 1) W'):=fun tx W h=>(u_block bo 1 q3 o3 o2 org a5 c5 w1 W b tx y2 HB.out h.2.1 h.1).mono fun _ _ hp=>uv_put h hp
        have HTT:Hid (tT (.mk nm lo bo ps)=[116,104,114,101,97,100,32]++nm.data.toList++[32,123,10]++(if lo.length=0 then [] else [32,32]++tDs ⟨#[108,111,99,97,108]⟩ lo 0)++tSs bo 1++[125,10]):=by
         rw [Hid]
         show ln 0 [[116,104,114,101,97,100,32],nm.data.toList,[32,123]]++(tDs ⟨#[108,111,99,97,108]⟩ lo 1++(tSs bo 1++ln 0 [[125]]))=_
         have hl:tDs ⟨#[108,111,99,97,108]⟩ lo 1=(if lo.length=0 then [] else [32,32]++tDs ⟨#[108,111,99,97,108]⟩ lo 0):=by
          by_cases h0:lo.length=0
          · rw [if_pos h0,tDs,if_pos h0]
          · rw [if_neg h0,uDs_marg _ _ 1 h0];rfl
         rw [hl]
         simp [ln,show marg 0=[] from rfl]
        have hf2:(t1++t2)++(th.take (t+1)).flatMap tT=((t1++t2)++(th.take t).flatMap tT)++([116,104,114,101,97,100,32]++nm.data.toList++[32,123,10]++(if lo.length=0 then [] else [32,32]++tDs ⟨#[108,111,99,97,108]⟩ lo 0)++tSs bo 1++[125,10]):=by rw [hf1,HTT.out,← List.append_assoc]
        have HF2:=Lib.hid hf2
        obtain ⟨ti,hti⟩:∃ ti,ti=(t1++t2)++(th.take t).flatMap tT:=⟨_,rfl⟩
        rw [← hti] at HX HF2
        generalize tDs ⟨#[108,111,99,97,108]⟩ lo 0=s1 at H1 HF2
        generalize tSs bo 1=s2 at H2 HF2
        obtain ⟨nl,hnl⟩:∃ nl,nl=lo.length:=⟨_,rfl⟩
        rw [← hnl] at H1 HTF HF2
        generalize bo.length=nb at H2 HTF
        have G0:=HTF.out.1
        have G1:=HTF.out.2.1
        have G2:=HTF.out.2.2
        have HP:Hid (∀ t W s,Uv w1 WU b t W→s.size≤140737488289792→Calls Tryz.prog 23 #[.pointer (some ⟨b,0,none⟩),.string s] W fun e W'=>e=.returned (.tuple #[])∧Uv w1 WU b (t++s.data.toList) W'):=fun t W s h hs=>uv_putc h s hs
        have HG:=Lib.hid (And.intro G0 (And.intro G1 G2))
        clear g1 e1 il hmem htk hf1 hf2 lg q1 q2 q3 o2 o3 ol org hti hnl f0 f1 f2 f3 y1 y2 HTF G0 G1 G2 HTT
        have k0:wr.cell? ⟨g,q+t*4,none⟩=some (.string nm):=(HX.out.2.1.cell (p:=⟨g,q+t*4,none⟩) HLG.out).trans HG.out.1
        go_wp2_with fail
        go_at_call 23
        refine (HP.out _ _ _ HX.out (by simp only [ByteArray.size_append];show 7+nm.size+3≤_;omega)).mono ?_
        rintro e w5 ⟨rfl,hx⟩
        have HX5:=Lib.hid hx
        have d2:w5.cell? ⟨w.heap.size,2,none⟩=some (.slice (some ⟨g,q,none⟩) n3 c3):=by rw [cell_of_row _ _ 2 _ _ _ (HPX.out _ hx.2.1)];rfl
        have k1:w5.cell? ⟨g,q+t*4+1,none⟩=some (.slice a4 nl c4):=(hx.2.1.cell (p:=⟨g,q+t*4+1,none⟩) HLG.out).trans HG.out.2.1
        clear hx k0 b1
        by_cases hz:nl=0
        · subst hz
          have HR:Hid ((t1++t2)++(th.take (t+1)).flatMap tT=ti++([116,104,114,101,97,100,32]++nm.data.toList++[32,123,10])++s2++[125,10]):=by
           rw [Hid,HF2.out,if_pos rfl];simp only [List.append_assoc,List.nil_append]
          have k2:w5.cell? ⟨g,q+t*4+2,none⟩=some (.slice a5 nb c5):=(HX5.out.2.1.cell (p:=⟨g,q+t*4+2,none⟩) HLG.out).trans HG.out.2.2
          go_wp2_with fail
          go_at_call 24
          refine (H2.out _ _ HX5.out).mono ?_
          rintro e w6 ⟨rfl,hx⟩
          have HX6:=Lib.hid hx
          clear hx k1 k2 d2 HX5
          go_wp2_with fail
          go_at_call 23
          refine (HP.out _ _ _ HX6.out (by decide)).mono ?_
          rintro e w7 ⟨rfl,hx⟩
          have HX7:Hid (Uv w1 WU b ((t1++t2)++(th.take (t+1)).flatMap tT) w7):=by
           rw [Hid,HR.out]
           simp only [app_data] at hx
           exact hx
          clear hx HX6
          go_wp2_with fail
          go_roundg (n3-(t+1)+1)
          case measure=>have:=HM.out;omega
          case rel=>exact ⟨t+1,by simp,by omega,by omega,HX7.out⟩
        · have hz' : 0 < (nl : Int) := by omega
          have HR:Hid ((t1++t2)++(th.take (t+1)).flatMap tT=ti++([116,104,114,101,97,100,32]++nm.data.toList++[32,123,10])++[32,32]++s1++s2++[125,10]):=by
           rw [Hid,HF2.out,if_neg hz];simp only [List.append_assoc]
          go_wp2_with fail
          go_at_call 23
          refine (HP.out _ _ _ HX5.out (by decide)).mono ?_
          rintro e w6 ⟨rfl,hx⟩
          have HX6:=Lib.hid hx
          have d2':w6.cell? ⟨w.heap.size,2,none⟩=some (.slice (some ⟨g,q,none⟩) n3 c3):=by rw [cell_of_row _ _ 2 _ _ _ (HPX.out _ hx.2.1)];rfl
          have k1':w6.cell? ⟨g,q+t*4+1,none⟩=some (.slice a4 nl c4):=(hx.2.1.cell (p:=⟨g,q+t*4+1,none⟩) HLG.out).trans HG.out.2.1
          clear hx k1 d2 HX5
          go_wp2_with fail
          go_at_call 22
          refine (H1.out _ _ HX6.out).mono ?_
          rintro e w7 ⟨rfl,hx⟩
          have HX7:=Lib.hid hx
          have d2:w7.cell? ⟨w.heap.size,2,none⟩=some (.slice (some ⟨g,q,none⟩) n3 c3):=by rw [cell_of_row _ _ 2 _ _ _ (HPX.out _ hx.2.1)];rfl
          have k2:w7.cell? ⟨g,q+t*4+2,none⟩=some (.slice a5 nb c5):=(hx.2.1.cell (p:=⟨g,q+t*4+2,none⟩) HLG.out).trans HG.out.2.2
          clear hx k1' d2' HX6
          go_wp2_with fail
          go_at_call 24
          refine (H2.out _ _ HX7.out).mono ?_
          rintro e w8 ⟨rfl,hx⟩
          have HX8:=Lib.hid hx
          clear hx k2 d2 HX7
          go_wp2_with fail
          go_at_call 23
          refine (HP.out _ _ _ HX8.out (by decide)).mono ?_
          rintro e w9 ⟨rfl,hx⟩
          have HX9:Hid (Uv w1 WU b ((t1++t2)++(th.take (t+1)).flatMap tT) w9):=by
           rw [Hid,HR.out]
           simp only [app_data] at hx
           exact hx
          clear hx HX8
          go_wp2_with fail
          go_roundg (n3-(t+1)+1)
          case measure=>have:=HM.out;omega
          case rel=>exact ⟨t+1,by simp,by omega,by omega,HX9.out⟩
      · have htn2 : t = n3 := by omega
        subst htn2
        have hx':UxA b tx vb wr:=by
         have:=hx
         rw [show th.take t=th by rw [HN.out.2.2,List.take_length],List.append_assoc,← HTX.out] at this
         exact this
        have hcv:=conv_u hx'.2.2
        obtain ⟨ao,cap,rfl⟩:=u_slice hx'
        have b0:wr.cell? ⟨b,0,none⟩=some (.slice ao tx.length cap):=by rw [cell_of_row _ _ 0 _ _ _ hx'.1];rfl
        have HF:Hid (AttP w (mkY true tx) (.returned (.tuple #[.string ⟨tx.toArray⟩,.int .i64 0])) wr):=⟨HB1.out.trans (HX.out.2.1.mono (Nat.le_of_lt (by rw [← HB.out] at *;exact Nat.lt_of_lt_of_le HLB.out (Nat.le_refl _)))),by unfold mkY;rw [cond_true,if_pos hx'.2.1]⟩
        clear hx hx'
        go_wp2_with fail
        go_ret2
        exact HF.out
    · have b1 : wr.cell? ⟨b, 1, none⟩ = some (.bool true) := by rw [cell_of_row _ _ 1 _ _ _ hx.1]; rfl
      have HF:Hid (AttP w (mkY true tx) (.returned (.tuple #[.string ⟨#[]⟩,.int .i64 4])) wr):=by
       refine ⟨HB1.out.trans (HX.out.2.1.mono (Nat.le_of_lt HLB.out)),?_⟩
       have hgt:65536<tx.length:=by
        have h:=hx.2
        have hs:th.flatMap tT=(th.take t).flatMap tT++(th.drop t).flatMap tT:=by rw [← List.flatMap_append,List.take_append_drop]
        rw [HTX.out,hs,← List.append_assoc,← List.append_assoc,List.length_append]
        omega
       unfold mkY
       rw [cond_true,if_neg (by omega)]
      clear hx
      by_cases htn:t<n3
      · have htn' : (t : Int) < (n3 : Int) := by omega
        go_wp2_with fail
        go_ret2
        exact HF.out
      · have htn2 : t = n3 := by omega
        subst htn2
        go_wp2_with fail
        go_ret2
        exact HF.out
open Go.RowKit
set_option linter.unusedVariables false
structure Bpx (x:Pg) (w:World) (g:Nat) (r s:Array Value) (W:World):Prop where
 own1:Own W w.heap.size 25 r
 own2:Own W g 25 s
 t1:pA W x (.agg r)
 t2:pA W x (.agg s)
 tab:WTb W
 bel:Below w.heap.size w W
theorem Bpx.below {x:Pg} {w W W':World} {g:Nat} {r s:Array Value} (h:Bpx x w g r s W) (hb:Below W.heap.size W W'):Bpx x w g r s W' :=
 ⟨h.own1.below hb,h.own2.below hb,pA_below h.t1 hb,pA_below h.t2 hb,h.tab.below hb,h.bel.trans (hb.mono h.bel.size)⟩
def CpQ (x:Pg) (n1 n2 n3:Nat) (w:World) (e:Ending) (w':World):Prop:=∃ s1 t1 s2 t2 s3 t3,e=.returned (.agg #[.slice s1 n1 t1,.slice s2 n2 t2,.slice s3 n3 t3])∧pA w' x (.agg #[.slice s1 n1 t1,.slice s2 n2 t2,.slice s3 n3 t3])∧Below w.heap.size w w'
theorem r_CopyQ (x:Pg) (hct:ctP x≤1048576) {v:Value} {w:World} (hv:pA w x v):Calls Tryz.prog 5 #[v] w (CpQ x x.shared.length x.locks.length x.threads.length w) :=
 (r_Copy x hct hv).mono fun e w' ⟨s1,t1,s2,t2,s3,t3,h0,h1,h2,h3,hb⟩=>⟨s1,t1,s2,t2,s3,t3,h0,⟨s1,t1,s2,t2,s3,t3,rfl,dcsAt_stays (Stays.refl _ _) (fun _ _=>trivial) h1,dcsAt_stays (Stays.refl _ _) (fun _ _=>trivial) h2,thsAt_stays (Stays.refl _ _) (fun _ _=>trivial) h3⟩,hb⟩
theorem prints_walk (x:Pg) (okx:PrOk x) (fx:fitP x) (hct:ctP x≤1048576) {v:Value} {w:World} (hx:pA w x v) (TT:WTb w) :
 Calls Tryz.prog 3 #[v] w fun e w'=>e=.returned (.bool true)∧Below w.heap.size w w':=by
 have HBG:Hid (∀ W,WTb W→Calls Tryz.prog 10 #[] W fun e w'=>e=.returned (.bool true)∧Below W.heap.size W w'):=fun W T=>p_begins4 T
 obtain ⟨n1,hn1⟩:∃ n,n=x.shared.length:=⟨_,rfl⟩
 obtain ⟨n2,hn2⟩:∃ n,n=x.locks.length:=⟨_,rfl⟩
 obtain ⟨n3,hn3⟩:∃ n,n=x.threads.length:=⟨_,rfl⟩
 obtain ⟨ts,er,hts,hrs,hck⟩:∃ (ts:ByteArray) (er:Int),(∀ W v,pA W x v→WTb W→Calls Tryz.prog 6 #[v] W fun e w'=>e=.returned (.tuple #[.string ts,.int .i64 er])∧Below W.heap.size W w')∧(∀ W v,pA W x v→Calls Tryz.prog 7 #[v] W fun e w'=>e=.returned (.tuple #[.string ts,.int .i64 er])∧Below W.heap.size W w')∧(∀ W v,pA W x v→WTb W→Calls Tryz.prog 8 #[v] W fun e w'=>e=.returned (.int .i64 er)∧Below W.heap.size W w'):=by
  cases hY:mkY (rP x) (tP x) with
  | inl t=>exact ⟨⟨t.toArray⟩,0,fun W v h T=>by
   have:=p_Print okx h T;rw [hY] at this;exact this.mono fun e w' h=>⟨h.2,h.1⟩,fun W v h=>by
   have:=r_Print okx fx h;rw [hY] at this;exact this.mono fun e w' h=>⟨h.2,h.1⟩,fun W v h T=>by
   have:=p_Check okx h T;rw [hY] at this;exact this⟩
  | inr n=>exact ⟨⟨#[]⟩,n,fun W v h T=>by
   have:=p_Print okx h T;rw [hY] at this;exact this.mono fun e w' h=>⟨h.2,h.1⟩,fun W v h=>by
   have:=r_Print okx fx h;rw [hY] at this;exact this.mono fun e w' h=>⟨h.2,h.1⟩,fun W v h T=>by
   have:=p_Check okx h T;rw [hY] at this;exact this⟩
 have HPR:=Lib.hid hts
 have HRP:=Lib.hid hrs
 have HCK:=Lib.hid hck
 have HCP:Hid (∀ W v,pA W x v→Calls Tryz.prog 5 #[v] W (CpQ x n1 n2 n3 W)):=fun W v h=>by
  rw [hn1,hn2,hn3]
  exact r_CopyQ x hct h
 have HXA:Hid (∀ W v u,pA W x v→pA W x u→Calls Tryz.prog 9 #[v,u] W fun e w'=>e=.returned (.bool true)∧Below W.heap.size W w'):=fun W v u h1 h2=>r_Exactly x okx.1 h1 h2
 have HX:=Lib.hid hx
 obtain ⟨a1,c1,a2,c2,a3,c3,rfl,_⟩:=hx
 rw [← hn1,← hn2,← hn3] at HX ⊢
 clear hn1 hn2 hn3 hts hrs hck okx fx hct
 have hbel:Below w.heap.size w (w.alloc (.cells #[.slice a1 n1 c1,.slice a2 n2 c2,.slice a3 n3 c3] 25)):=(Below.refl _ w).alloc (Nat.le_refl _) _
 have O1:=Own.new w 25 #[.slice a1 n1 c1,.slice a2 n2 c2,.slice a3 n3 c3]
 have HT:=Lib.hid (TT.below hbel)
 replace HX:=Lib.hid (pA_below HX.out hbel)
 obtain ⟨W0,hW0⟩:∃ W,W=w.alloc (.cells #[.slice a1 n1 c1,.slice a2 n2 c2,.slice a3 n3 c3] 25):=⟨_,rfl⟩
 rw [← hW0] at hbel O1 HT HX
 have HB0:=Lib.hid hbel
 have HW0:=Lib.hid hW0
 have HO1:=Lib.hid O1
 clear hW0 hbel TT
 go_enter Tryz.func3,Tryz.ntmps3
 go_upto_region 1 with (fail)
 rw [← HW0.out]
 clear HW0
 go_wp2_with (refine ld rowPg rfl rfl rfl O1 rfl ?_)
 go_at_call 5
 refine (HCP.out _ _ HX.out).mono ?_
 rintro e w2 ⟨s1,t1,s2,t2,s3,t3,rfl,hq,hb⟩
 have Z1:=Own.new w2 25 #[.slice none 0 0,.slice none 0 0,.slice none 0 0]
 have B3:=Below.of_row ((Below.refl w2.heap.size w2).alloc (Nat.le_refl _) (.cells #[.slice none 0 0,.slice none 0 0,.slice none 0 0] 25)) (g:=w2.heap.size) (Nat.le_refl _) #[.slice s1 n1 t1,.slice s2 n2 t2,.slice s3 n3 t3]
 have HS:Hid (Bpx x w w2.heap.size #[.slice a1 n1 c1,.slice a2 n2 c2,.slice a3 n3 c3] #[.slice s1 n1 t1,.slice s2 n2 t2,.slice s3 n3 t3] ((w2.alloc (.cells #[.slice none 0 0,.slice none 0 0,.slice none 0 0] 25)).setRow w2.heap.size #[.slice s1 n1 t1,.slice s2 n2 t2,.slice s3 n3 t3])):=⟨(HO1.out.below hb).below B3,Z1.row _,pA_below (pA_below HX.out hb) B3,pA_below hq B3,(HT.out.below hb).below B3,(HB0.out.trans (hb.mono HB0.out.size)).trans (B3.mono (by have:=HB0.out.size;have:=hb.size;omega))⟩
 obtain ⟨W3,hW3⟩:∃ W,W=(w2.alloc (.cells #[.slice none 0 0,.slice none 0 0,.slice none 0 0] 25)).setRow w2.heap.size #[.slice s1 n1 t1,.slice s2 n2 t2,.slice s3 n3 t3]:=⟨_,rfl⟩
 rw [← hW3] at HS
 have HW3:=Lib.hid hW3
 clear hW3 hb hq B3 HO1 O1 HT HX HB0
 go_upto_region 2 with (refine Go.Proofs.YtieeaehabjjaoaaGreatDoor.st rowPg rfl rfl Z1 rfl rfl (by rfl) (by rfl) (by kernel_rfl) ?_)
 rw [← HW3.out]
 clear HW3 Z1
 generalize w2.heap.size=g at HS ⊢
 have O2:=HS.out.own2
 go_wp2_with (refine ld rowPg rfl rfl rfl O2 rfl ?_)
 go_at_call 6
 refine (HPR.out _ _ HS.out.t2 HS.out.tab).mono ?_
 rintro e w4 ⟨rfl,hb⟩
 replace HS:=Lib.hid (HS.out.below hb)
 have O1:=HS.out.own1
 clear hb O2
 go_wp2_with (refine ld rowPg rfl rfl rfl O1 rfl ?_)
 go_at_call 7
 refine (HRP.out _ _ HS.out.t1).mono ?_
 rintro e w5 ⟨rfl,hb⟩
 have HS5:=Lib.hid (HS.out.below hb)
 clear hb O1 HPR HRP HS
 have q1:(er==er)=true:=by simp
 have q2:(ts.toList==ts.toList)=true:=by simp
 have p0:w5.cell? ⟨w.heap.size,0,none⟩=some (.slice a1 n1 c1):=(by rw [cell_of_row _ _ 0 _ _ _ HS5.out.own1];rfl)
 have p1:w5.cell? ⟨w.heap.size,1,none⟩=some (.slice a2 n2 c2):=(by rw [cell_of_row _ _ 1 _ _ _ HS5.out.own1];rfl)
 have p2:w5.cell? ⟨w.heap.size,2,none⟩=some (.slice a3 n3 c3):=(by rw [cell_of_row _ _ 2 _ _ _ HS5.out.own1];rfl)
 have q0:w5.cell? ⟨g,0,none⟩=some (.slice s1 n1 t1):=(by rw [cell_of_row _ _ 0 _ _ _ HS5.out.own2];rfl)
 have q3:w5.cell? ⟨g,1,none⟩=some (.slice s2 n2 t2):=(by rw [cell_of_row _ _ 1 _ _ _ HS5.out.own2];rfl)
 have q4:w5.cell? ⟨g,2,none⟩=some (.slice s3 n3 t3):=(by rw [cell_of_row _ _ 2 _ _ _ HS5.out.own2];rfl)
 go_wp2_with fail
 go_at_call 8
 refine (HCK.out _ _ HS5.out.t1 HS5.out.tab).mono ?_
 rintro e w6 ⟨rfl,hb⟩
 have HS6:=Lib.hid (HS5.out.below hb)
 clear hb HS5 p0 p1 p2 q0 q3 q4
 have p0:w6.cell? ⟨w.heap.size,0,none⟩=some (.slice a1 n1 c1):=(by rw [cell_of_row _ _ 0 _ _ _ HS6.out.own1];rfl)
 have p1:w6.cell? ⟨w.heap.size,1,none⟩=some (.slice a2 n2 c2):=(by rw [cell_of_row _ _ 1 _ _ _ HS6.out.own1];rfl)
 have p2:w6.cell? ⟨w.heap.size,2,none⟩=some (.slice a3 n3 c3):=(by rw [cell_of_row _ _ 2 _ _ _ HS6.out.own1];rfl)
 have q0:w6.cell? ⟨g,0,none⟩=some (.slice s1 n1 t1):=(by rw [cell_of_row _ _ 0 _ _ _ HS6.out.own2];rfl)
 have q3:w6.cell? ⟨g,1,none⟩=some (.slice s2 n2 t2):=(by rw [cell_of_row _ _ 1 _ _ _ HS6.out.own2];rfl)
 have q4:w6.cell? ⟨g,2,none⟩=some (.slice s3 n3 t3):=(by rw [cell_of_row _ _ 2 _ _ _ HS6.out.own2];rfl)
 go_wp2_with fail
 go_at_call 9
 refine (HXA.out _ _ _ HS6.out.t2 HS6.out.t1).mono ?_
 rintro e w7 ⟨rfl,hb⟩
 have HS7:=Lib.hid (HS6.out.below hb)
 clear hb HS6 p0 p1 p2 q0 q3 q4
 go_wp2_with fail
 go_at_call 10
 refine (HBG.out _ HS7.out.tab).mono ?_
 rintro e w8 ⟨rfl,hb⟩
 have HF:=Lib.hid (HS7.out.bel.trans (hb.mono HS7.out.bel.size))
 clear hb HS7
 go_wp2_with fail
 go_ret
 exact ⟨rfl,HF.out⟩
open Go.ChangeShapes Go.WideShapes Go.ChangeAt Go.WideMaps Go.WideElems Go.RowKit Go.ChangeShapes
set_option linter.unusedVariables false
theorem laidOut:laidOutB Tryz.prog=true:=by kernel_rfl
theorem law_post_at {H:Type} {enc:TypeId × Value→H} {P:Program} {f:Func} {s:ChangeSpec} {W W':World} {args:Array Value} {tb:TypeId} {ds:List (DataW H)} {ps:List MemPlace}
 (hW:DataW.Whole enc P f.params.toList s.vars false W args.toList ds [] ps) (hres:f.resultTypes=#[tb]) (hb:P.underlying tb=some .bool)
 (hvars:s.vars=[]) (hfn:(s.fn H (ds++[])).results=[.lit (.bool true)]) (hfa:(s.fn H (ds++[])).args=ds) (hfv:(s.fn H (ds++[])).vars=[])
 (hargs:∀ sp:Nat→Bool,(∀ p∈ps,sp p.block=true)→DataW.TrodAll enc P W' 0 sp true f.params.toList args.toList ds ps)
 (hk:Below W.heap.size W W'):s.post enc P f false true false false W args (.bool true) W':=by
 have hr:∀ (b:Nat) (sp:Nat→Bool) (hd:Bool),DataW.TrodAll enc P W' b sp hd f.resultTypes.toList ((Value.bool true).resultList f.resultTypes.size) (s.fn H (ds++[])).results []:=fun b sp hd=>by
  rw [hfn,hres]
  exact trodAll_mk1 (shut_bool hb _)
 have ha:∀ sp:Nat→Bool,(∀ p∈ps,sp p.block=true)→DataW.TrodAll enc P W' 0 sp true f.params.toList args.toList (s.fn H (ds++[])).args ps:=fun sp hsp=>by
  rw [hfa];exact hargs sp hsp
 have hv:∀ sp:Nat→Bool,DataW.TrodVars enc P W' sp s.vars (s.fn H (ds++[])).vars []:=fun sp=>by
  rw [hvars,hfv];rfl
 have hold:∀ p∈ps,(fun b=>decide (b<W.heap.size)) p.block=true:=fun p hp=>by simpa using hW.lt p hp
 have hW2:=hW
 obtain ⟨_,_,_,_,_,hz,hn⟩:=hW2
 refine ⟨ds,[],ps,[],ps,[],hW,hr _ _ _,ha _ hold,hv _,World.keptBut_mono (fun p hp=>⟨hp,Or.inr (Or.inl hp)⟩) (hk.frame (· ∈ ps)),fun _=>?_⟩
 refine ⟨ok_one hres rfl (okWide_bool_mk hb _),_,_,([]++ps)++[],⟨[]++ps,[],trodAll_append (ha _ (fun _ _=>rfl)) (hr _ _ _),hv _,rfl,?_,?_⟩,?_⟩
 · intro b off hp
   have hp':MemPlace.cell b off∈ps:=by simpa using hp
   rw [hk.frozen (p:=⟨b,off,none⟩) (hW.lt _ hp')]
   exact hz b off hp'
 · intro hx;cases hx
 · intro p hp _
   simpa using hp
open Go.RowKit
set_option linter.unusedVariables false
theorem lenDs (l:List Dc):l.length≤bkDs l:=by rw [← sumD];exact sum_len (fun x=>by unfold bkD;omega) l
theorem memT {l:List Th} {t:Th} (h:t∈l):bkT t≤bkTs l:=by
 induction l with
 | nil=>cases h
 | cons x r ih =>
   simp only [bkTs]
   rcases List.mem_cons.1 h with rfl | h
   · omega
   · have:=ih h;omega
theorem lenP_of {x:Pg} (h:bkP x≤1048576):lenP x:=by
 unfold bkP at h
 have h1:=lenDs x.shared
 have h2:=lenDs x.locks
 refine ⟨by omega,by omega,fun t ht=>?_⟩
 have h3:=memT ht
 have h4:=lenDs t.locals
 unfold bkT at h3
 omega
open Go.ChangeShapes Go.WideShapes Go.ChangeAt Go.WideMaps Go.WideElems Go.RowKit
set_option linter.unusedVariables false
abbrev PLS:List (String × DataW Unit):=[("math/bits.deBruijn32tab",Rows.laid_math_bits_deBruijn32tab),("math/bits.deBruijn64tab",Rows.laid_math_bits_deBruijn64tab),("internal/strconv.uint64pow10",Rows.laid_internal_strconv_uint64pow10),("stile/words.levels",Rows.laid_stile_words_levels),("stile/words.signs",Rows.laid_stile_words_signs),("stile/lexer.languageWords",Rows.laid_stile_lexer_languageWords),("stile/pretty.shapes",Rows.laid_stile_pretty_shapes)]
theorem wts_of_laid {W:World} (h:laidMetH Tryz.prog PLS W):WTb W:=by
 rw [MakeChecks.laidMetH_plain _ _ _ (by kernel_rfl)] at h
 obtain ⟨ps,h,_⟩:=h
 exact wtb_of_vars h (by simp) (by simp) ⟨lnm_of_vars h (by simp),tabs_of_vars h (by simp) (by simp)⟩
theorem sdoor_met (os:Os) (args:Array Value):laidMetH Tryz.prog PLS ((World.doorLaid Tryz.prog 400 os).forCall (fun _ _=>0) ⟨#[],args,[]⟩).memory :=
 laidMetH_of_parts3 (fuel:=8) (laidMet_of_run' 8 (by kernel_rfl) (by kernel_rfl)) (by kernel_rfl) (by kernel_rfl)
end Go.Proofs.YtieeaehabjjaoaaGreatDoor

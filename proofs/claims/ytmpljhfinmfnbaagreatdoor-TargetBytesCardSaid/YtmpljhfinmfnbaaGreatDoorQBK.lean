/- The proof, part 37: texts that belong together, in one. -/
import Derived.Test.YtmpljhfinmfnbaaGreatDoorQBE
import Derived.Test.YtmpljhfinmfnbaaGreatDoorQBJ
import Derived.Test.YtmpljhfinmfnbaaGreatDoorQAZ
set_option maxRecDepth 100000
set_option maxHeartbeats 20000000
namespace Go.Proofs.YtmpljhfinmfnbaaGreatDoor
open Go.RowKit
set_option linter.unusedVariables false
set_option linter.unusedSimpArgs false
set_option maxRecDepth 100000
theorem optP_fit2 {u:Bool} {x c m:Int} (hc:c≤m+1) (h:fitB u x c=true):optP u (fun x=>0≤x∧x≤m) x:=by
 cases u with
 | true =>
   have h:inB x c=true:=h
   simp only [inB,Bool.and_eq_true,decide_eq_true_eq] at h
   exact ⟨h.1,by omega⟩
 | false =>
   have h:(x==0)=true:=h
   exact eq_of_beq h
theorem optP_rg2 {u:Bool} {x m:Int} (hm:m≤9223372036854775807) (h:optP u (fun x=>0≤x∧x≤m) x) : -9223372036854775808≤x∧x≤9223372036854775807:=by
 cases u with
 | true =>
   have h:0≤x∧x≤m:=h
   omega
 | false =>
   have h:x=0:=h
   omega
theorem gd_of {i:Ins} {code mem:Int} (hg:rgI i) (h:rightB i code mem=true):GD code mem i:=by
 simp only [rightB,Bool.and_eq_true] at h
 obtain ⟨h1,h2,h3,h4,h5,h6,h7,h8,h9⟩:=h
 obtain ⟨⟨hk0,hk1⟩,⟨ho0,ho1⟩,hd,ha,hb,had,htt,hwd,hfr⟩:=hg
 have hk:=kB_iff.1 h1
 simp only [inB,Bool.and_eq_true,decide_eq_true_eq] at h2
 refine ⟨by omega,?_,optP_fit2 (by decide) h4,optP_fit2 (by decide) h5,optP_fit2 (by decide) h6,?_,optP_fit2 (by omega) h7,optP_fit2 (by omega) h8,⟨h2.1,by omega⟩⟩
 · unfold opB at h3
   cases hq:(i.k==2) with
   | true =>
     rw [hq] at h3
     have h3:decide (0<levelOf i.o)=true:=h3
     simp only [decide_eq_true_eq] at h3
     refine ⟨ho0,?_⟩
     unfold levelOf at h3
     split at h3
     · omega
     · omega
   | false =>
     rw [hq] at h3
     have h3:(i.o==0)=true:=h3
     exact eq_of_beq h3
 · cases hq : (i.k == 1) with
   | true=>exact hwd
   | false =>
     rw [hq] at h9
     simp only [Bool.or_false] at h9
     exact eq_of_beq h9
theorem god_of {o:Ob} (hg:rgO o) (h:(chkO o).1=0):GOD o:=by
 obtain ⟨h1,h2⟩:=chk_ok h
 have hf:=few_of h1
 obtain ⟨gm,gs,gl,gb,gi⟩:=hg
 have hsh:=hf.sh
 have hlk:=hf.lk
 have hbf:=hf.bf
 have hme:=hf.mem
 have hco:=hf.cores
 exact ⟨by omega,by omega,by omega,⟨by omega,gm⟩,⟨by omega,fun c hc=>⟨by have:=hf.name c hc;omega,⟨by have:=hf.code c hc;omega,fun i hi=>gd_of (gi c hc i hi) (h2 c hc i hi)⟩⟩⟩⟩
theorem rgI_gd {i:Ins} {code mem:Int} (hc:code≤9223372036854775807) (hm:mem≤9223372036854775807) (g:GD code mem i):rgI i:=by
 have hk:=g.k
 have hf:=g.fr
 have ho:0≤i.o∧i.o≤255:=by
  have h:=g.o
  cases hq:(i.k==2) with
  | true =>
    rw [hq] at h
    have h:0≤i.o∧i.o≤19:=h
    omega
  | false =>
    rw [hq] at h
    have h:i.o=0:=h
    omega
 have hw : -9223372036854775808≤i.wd∧i.wd≤9223372036854775807:=by
  have h:=g.wd
  cases hq:(i.k==1) with
  | true =>
    rw [hq] at h
    exact h
  | false =>
    rw [hq] at h
    have h:i.wd=0:=h
    omega
 exact ⟨by omega,ho,optP_rg2 (by decide) g.d,optP_rg2 (by decide) g.a,optP_rg2 (by decide) g.b,optP_rg2 hm g.ad,optP_rg2 hc g.tt,hw,by omega⟩
theorem rgO_god {o:Ob} (g:GOD o):rgO o :=
 ⟨g.mem.2,by have:=g.sh;omega,by have:=g.lk;omega,by have:=g.bf;omega,fun c hc i hi=>rgI_gd (by have:=(g.cores.2 c hc).code.1;omega) (by have:=g.mem.1;omega) ((g.cores.2 c hc).code.2 i hi)⟩
def decD (l:List UInt8):Ob × Int :=
 if l.take 4=magic∧(obD (l.drop 4,false)).2.2=false∧(obD (l.drop 4,false)).2.1=[]∧(chkO (obD (l.drop 4,false)).1).1=0 then ((obD (l.drop 4,false)).1,0) else (⟨[],0,0,0,[]⟩,162)
theorem obY_take (o:Ob):(obY o).take 4=magic:=by
 have h:=obY_eq o []
 rw [List.append_nil] at h
 rw [h]
 exact List.take_left (l₁:=magic)
theorem decD_eq (l:List UInt8):decD l=decO l:=by
 have hd:=dec_one l
 obtain ⟨x,hx⟩:∃ x,x=decO l:=⟨_,rfl⟩
 rw [← hx] at hd ⊢
 unfold decD
 rcases hd with ⟨h1,h2,h3,h4⟩ | h
 · have hl : obY x.1 = l := by rw [← enc_ok h2]; exact h4
   have hp:=obD_put x.1 (god_of (rgO_of h3) h2) []
   rw [List.append_nil,hl] at hp
   have hm:l.take 4=magic:=by rw [← hl];exact obY_take x.1
   rw [hp,if_pos ⟨hm,rfl,rfl,h2⟩]
   exact Prod.ext rfl h1.symm
 · rcases e : obD (l.drop 4, false) with ⟨o, t⟩
   simp only
   by_cases hc:l.take 4=magic∧t.2=false∧t.1=[]∧(chkO o).1=0
   · obtain ⟨c1, c2, c3, c4⟩ := hc
     obtain ⟨_,g,k⟩:=obD_get _ _ _ e c2
     rw [c3,List.append_nil,← c1] at k
     simp only [List.take_append_drop] at k
     have hb:=dec_back (rgO_god g) c4
     rw [enc_ok c4,← k,← hx,h] at hb
     injection hb with _ hb
     cases hb
   · rw [if_neg hc,h]
open Go.RowKit
set_option linter.unusedVariables false
set_option maxRecDepth 100000
theorem rep_all {α:Type} {f:Bst→α × Bst} {P:α→Prop} (h:∀ s,P (f s).1):∀ (k:Nat) (s:Bst),(∀ x∈(repR f k s).1,P x)∧(repR f k s).1.length≤k
 | 0,s=>⟨fun x hx=>by simp [repR] at hx,by simp [repR]⟩
 | k + 1, s => by
   unfold repR
   split
   · exact ⟨fun x hx=>by simp at hx,by simp⟩
   · obtain ⟨h1, h2⟩ := rep_all h k (f s).2
     refine ⟨fun x hx=>?_,by simp only [List.length_cons];omega⟩
     rcases List.mem_cons.1 hx with rfl | hx
     · exact h s
     · exact h1 x hx
theorem wdR_in (s:Bst):I64 (wdR s).1:=by
 have:=nuR_lt s
 unfold wdR I64 unz
 simp only
 split <;> omega
theorem optR_bd (u:Bool) (m:Int) (hm:0≤m) (s:Bst):0≤(optR u (smR m) s).1∧(optR u (smR m) s).1≤m:=by
 cases u with
 | true=>exact smR_bd m hm s
 | false=>exact ⟨Int.le_refl _,hm⟩
theorem optR_wd (u:Bool) (s:Bst):I64 (optR u wdR s).1:=by
 cases u with
 | true=>exact wdR_in s
 | false =>
   show I64 0
   exact ⟨by decide,by decide⟩
theorem insD_rg (code mem:Int) (hc:0≤code∧code≤9223372036854775807) (hm:0≤mem∧mem≤9223372036854775807) (s:Bst):rgI (insD code mem s).1:=by
 unfold insD
 simp only
 refine ⟨?_,?_,?_,?_,?_,?_,?_,?_,?_⟩
 · have:=smR_bd 11 (by decide) s;simp only;omega
 · have:=optR_bd ((smR 11 s).1==2) 19 (by decide) (smR 11 s).2;simp only;omega
 · simp only
   generalize optR ((smR 11 s).1==2) (smR 19) (smR 11 s).2=y
   have:=optR_bd (dB (smR 11 s).1) 16 (by decide) y.2;omega
 · simp only
   generalize optR (dB (smR 11 s).1) (smR 16) _=y
   have:=optR_bd (aB (smR 11 s).1) 16 (by decide) y.2;omega
 · simp only
   generalize optR (aB (smR 11 s).1) (smR 16) _=y
   generalize bB _ _=u
   have:=optR_bd u 16 (by decide) y.2;omega
 · simp only
   generalize optR ((smR 11 s).1==1) wdR _=y
   have:=optR_bd (adB (smR 11 s).1) mem hm.1 y.2;omega
 · simp only
   generalize optR (adB (smR 11 s).1) (smR mem) _=y
   have:=optR_bd (toB (smR 11 s).1) code hc.1 y.2;omega
 · simp only
   exact optR_wd _ _
 · simp only
   generalize optR (toB (smR 11 s).1) (smR code) _=y
   have:=smR_bd 4096 (by decide) y.2;omega
def CokD (c:Cor):Prop:=c.name.size≤32∧c.code.length≤16384∧∀ i∈c.code,rgI i
structure FitD (o:Ob):Prop where
 sh:0≤o.sh∧o.sh≤64
 lk:0≤o.lk∧o.lk≤16
 bf:0≤o.bf∧o.bf≤16
 mem:o.mem.length≤4096∧∀ x∈o.mem,I64 x
 cores:o.cores.length≤8∧∀ c∈o.cores,CokD c
theorem FitD.rg {o:Ob} (h:FitD o):rgO o :=
 ⟨h.mem.2,by have:=h.sh;omega,by have:=h.lk;omega,by have:=h.bf;omega,fun c hc=>(h.cores.2 c hc).2.2⟩
theorem FitD.fit {o:Ob} (h:FitD o):fitO o :=
 ⟨by have:=h.mem.1;omega,by have:=h.cores.1;omega,fun c hc=>⟨by have:=(h.cores.2 c hc).1;omega,by have:=(h.cores.2 c hc).2.1;omega⟩⟩
theorem obD_of {s s1 s2 s3 s4 s5 s6:Bst} {sh lk bf n m:Int} {mem:List Int} (h1:smR 64 s=(sh,s1)) (h2:smR 16 s1=(lk,s2)) (h3:smR 16 s2=(bf,s3)) (h4:smR 4096 s3=(n,s4)) (h5:repR wdR n.toNat s4=(mem,s5)) (h6:smR 8 s5=(m,s6)):obD s=(⟨mem,sh,lk,bf,(repR (corD n) m.toNat s6).1⟩,(repR (corD n) m.toNat s6).2):=by
 unfold obD
 simp only [h1,h2,h3,h4,h5,h6]
theorem decD_go {l:List UInt8} {o:Ob} {t:Bst} (hm:l.take 4=magic) (h:obD (l.drop 4,false)=(o,t)):decD l=if t.2=false∧t.1=[]∧(chkO o).1=0 then (o,0) else (⟨[],0,0,0,[]⟩,162):=by
 unfold decD
 rw [h]
 simp only [hm,true_and]
theorem decD_no {l:List UInt8} (hm:l.take 4≠magic):decD l=(⟨[],0,0,0,[]⟩,162):=by
 unfold decD
 rw [if_neg]
 exact fun h=>hm h.1
theorem decD_bad {l:List UInt8} (h:(obD (l.drop 4,false)).2.2=true):decD l=(⟨[],0,0,0,[]⟩,162):=by
 unfold decD
 rw [if_neg]
 intro q
 rw [h] at q
 cases q.2.1
open Go.RowKit
set_option linter.unusedVariables false
set_option maxRecDepth 100000
structure Sq (w:World) (row:Array Value) (X:World):Prop where
 bx:Own X w.heap.size 25 row
 bel:Below w.heap.size w X
theorem Sq.below {w X Y:World} {row:Array Value} (h:Sq w row X) (hb:Below X.heap.size X Y):Sq w row Y:=⟨h.bx.below hb,h.bel.trans (hb.mono h.bel.size)⟩
structure Sr (w:World) (row:Array Value) (gc:Nat) (rc:Array Value) (X:World):Prop where
 sq:Sq w row X
 cx:Own X gc 70 rc
theorem Sr.below {w X Y:World} {row rc:Array Value} {gc:Nat} (h:Sr w row gc rc X) (hb:Below X.heap.size X Y):Sr w row gc rc Y:=⟨h.sq.below hb,h.cx.below hb⟩
theorem nms_take {cores:List Cor} {k:Nat} {c:Cor} (h:cores[k]? = some c) (s:List UInt8):(nmsO (cores.take (k+1))).contains s=((nmsO (cores.take k)).contains s || (c.name.data.toList==s)):=by
 have hk:k<cores.length:=(List.getElem?_eq_some_iff.1 h).1
 have e:cores[k]=c:=(List.getElem?_eq_some_iff.1 h).2
 rw [List.take_succ_eq_append_getElem hk,e]
 unfold nmsO
 rw [List.map_append,Bool.eq_iff_iff]
 simp
 constructor
 · rintro (h1 | h1)
   · exact .inl h1
   · first | exact .inr h1.symm | exact .inr h1
 · rintro (h1 | h1)
   · exact .inl h1
   · first | exact .inr h1.symm | exact .inr h1
theorem rshaped_any (o:Ob) (hf:fitO o) {v:Value} {w:World} (hv:obA w o v):Calls Tryz.prog 40 #[v] w fun e w'=>e=.returned (.bool (topB o))∧Below w.heap.size w w':=by
 obtain ⟨a1,c1,a5,c5,rfl,_,h5⟩:=hv
 obtain ⟨mem,sh,lk,bf,cores⟩:=o
 obtain ⟨l1,l5,hfc⟩:=hf
 simp only [obV] at l1 l5 hfc h5 ⊢
 obtain ⟨n1,hn1⟩:∃ n,n=mem.length:=⟨_,rfl⟩
 obtain ⟨n5,hn5⟩:∃ n,n=cores.length:=⟨_,rfl⟩
 obtain ⟨R,hR⟩:∃ R,R=topB ⟨mem,sh,lk,bf,cores⟩:=⟨_,rfl⟩
 have hR2:R=(inB sh 65&&(inB lk 17&&(decide (sh+lk≤(n1:Int))&&(decide (n1≤4096)&&(decide (1≤bf)&&(decide (bf≤16)&&(decide (n5≤8)&&corsB [] cores))))))):=by rw [hR,hn1,hn5];rfl
 rw [← hR]
 rw [← hn1] at l1 ⊢
 rw [← hn5] at l5 ⊢
 have HR:=Lib.hid hR2
 have HN5:=Lib.hid hn5
 have HFC:=Lib.hid hfc
 have E5:=Lib.hid h5
 have O0:=Own.new w 25 #[.slice a1 n1 c1,.int .i64 sh,.int .i64 lk,.int .i64 bf,.slice a5 n5 c5]
 have B0:Below w.heap.size w (w.alloc (.cells #[.slice a1 n1 c1,.int .i64 sh,.int .i64 lk,.int .i64 bf,.slice a5 n5 c5] 25)):=(Below.refl _ w).alloc (Nat.le_refl _) _
 obtain ⟨W0,hW0⟩:∃ W,W=w.alloc (.cells #[.slice a1 n1 c1,.int .i64 sh,.int .i64 lk,.int .i64 bf,.slice a5 n5 c5] 25):=⟨_,rfl⟩
 rw [← hW0] at O0 B0
 have HW0:=Lib.hid hW0
 have HS0:Hid (Sq w #[.slice a1 n1 c1,.int .i64 sh,.int .i64 lk,.int .i64 bf,.slice a5 n5 c5] W0):=⟨O0,B0⟩
 have c0:=row_cellsO O0 0 _ rfl
 have c1':=row_cellsO O0 1 _ rfl
 have c2:=row_cellsO O0 2 _ rfl
 have c3:=row_cellsO O0 3 _ rfl
 have c4:=row_cellsO O0 4 _ rfl
 clear hn1 hn5 hR hR2 hfc h5 hW0 B0 O0
 go_enter Tryz.func40,Tryz.ntmps40
 go_upto_region 1 with fail
 rw [← HW0.out]
 clear HW0
 by_cases sh0:sh<0
 · have x : inB sh 65 = false := by unfold inB; rw [b_f (by omega)]; rfl
   obtain rfl:R=false:=by
    have h:=HR.out
    rw [x,Bool.false_and] at h
    exact h
   clear HR
   go_wp2_with fail
   go_ret
   exact ⟨rfl,HS0.out.bel⟩
 by_cases sh1:64<sh
 · have x : inB sh 65 = false := by unfold inB; rw [b_f (p := sh < 65) (by omega), Bool.and_false]
   obtain rfl:R=false:=by
    have h:=HR.out
    rw [x,Bool.false_and] at h
    exact h
   clear HR
   go_wp2_with fail
   go_ret
   exact ⟨rfl,HS0.out.bel⟩
 have h:=HR.out
 rw [show inB sh 65=true by unfold inB;rw [b_t (by omega),b_t (by omega)];rfl,Bool.true_and] at h
 replace HR:=Lib.hid h
 clear h
 by_cases lk0:lk<0
 · have x : inB lk 17 = false := by unfold inB; rw [b_f (by omega)]; rfl
   obtain rfl:R=false:=by
    have h:=HR.out
    rw [x,Bool.false_and] at h
    exact h
   clear HR
   go_wp2_with fail
   go_ret
   exact ⟨rfl,HS0.out.bel⟩
 by_cases lk1:16<lk
 · have x : inB lk 17 = false := by unfold inB; rw [b_f (p := lk < 17) (by omega), Bool.and_false]
   obtain rfl:R=false:=by
    have h:=HR.out
    rw [x,Bool.false_and] at h
    exact h
   clear HR
   go_wp2_with fail
   go_ret
   exact ⟨rfl,HS0.out.bel⟩
 have h:=HR.out
 rw [show inB lk 17=true by unfold inB;rw [b_t (by omega),b_t (by omega)];rfl,Bool.true_and] at h
 replace HR:=Lib.hid h
 clear h
 by_cases s1:(n1:Int)<sh+lk
 · have x : decide (sh + lk ≤ (n1 : Int)) = false := b_f (by omega)
   obtain rfl:R=false:=by
    have h:=HR.out
    rw [x,Bool.false_and] at h
    exact h
   clear HR
   go_wp2_with fail
   go_ret
   exact ⟨rfl,HS0.out.bel⟩
 have h:=HR.out
 rw [b_t (p:=sh+lk≤(n1:Int)) (by omega),Bool.true_and] at h
 replace HR:=Lib.hid h
 clear h
 by_cases s2:(4096:Int)<(n1:Int)
 · have x : decide (n1 ≤ 4096) = false := b_f (by omega)
   obtain rfl:R=false:=by
    have h:=HR.out
    rw [x,Bool.false_and] at h
    exact h
   clear HR
   go_wp2_with fail
   go_ret
   exact ⟨rfl,HS0.out.bel⟩
 have h:=HR.out
 rw [b_t (p:=n1≤4096) (by omega),Bool.true_and] at h
 replace HR:=Lib.hid h
 clear h
 by_cases s3:bf<1
 · have x : decide (1 ≤ bf) = false := b_f (by omega)
   obtain rfl:R=false:=by
    have h:=HR.out
    rw [x,Bool.false_and] at h
    exact h
   clear HR
   go_wp2_with fail
   go_ret
   exact ⟨rfl,HS0.out.bel⟩
 have h:=HR.out
 rw [b_t (p:=1≤bf) (by omega),Bool.true_and] at h
 replace HR:=Lib.hid h
 clear h
 by_cases s4:16<bf
 · have x : decide (bf ≤ 16) = false := b_f (by omega)
   obtain rfl:R=false:=by
    have h:=HR.out
    rw [x,Bool.false_and] at h
    exact h
   clear HR
   go_wp2_with fail
   go_ret
   exact ⟨rfl,HS0.out.bel⟩
 have h:=HR.out
 rw [b_t (p:=bf≤16) (by omega),Bool.true_and] at h
 replace HR:=Lib.hid h
 clear h
 by_cases s5:(8:Int)<(n5:Int)
 · have x : decide (n5 ≤ 8) = false := b_f (by omega)
   obtain rfl:R=false:=by
    have h:=HR.out
    rw [x,Bool.false_and] at h
    exact h
   clear HR
   go_wp2_with fail
   go_ret
   exact ⟨rfl,HS0.out.bel⟩
 have h:=HR.out
 rw [b_t (p:=n5≤8) (by omega),Bool.true_and] at h
 replace HR:=Lib.hid h
 clear h
 go_wp2_with fail
 clear c0 c1' c2 c3 c4
 go_loopg [3] (n5+1) (fun m' z X=>∃ t:Nat,z=.int .i64 (t:Int)∧t≤n5∧m'=n5-t+1∧corsB [] (cores.take t)=true∧Sq w #[.slice a1 n1 c1,.int .i64 sh,.int .i64 lk,.int .i64 bf,.slice a5 n5 c5] X)
 case atStart=>exact ⟨0,rfl,Nat.zero_le _,by omega,by rw [List.take_zero];rfl,HS0.out⟩
 case round =>
  clear HS0
  obtain ⟨t,rfl,ht,hm,hpre,hx⟩:=hrel
  have HM:=Lib.hid hm
  have HX:=Lib.hid hx
  have HPRE:=Lib.hid hpre
  have p4:=row_cellsO hx.bx 4 _ rfl
  clear hm hx hpre
  by_cases htn:t<n5
  rotate_left
  · obtain rfl : t = n5 := by omega
    obtain rfl:R=true:=by
     have h:=HR.out
     rw [show cores.take t=cores by rw [HN5.out,List.take_length]] at HPRE
     rw [HPRE.out] at h
     exact h
    clear HR
    go_wp2_with fail
    go_ret
    exact ⟨rfl,HX.out.bel⟩
  have il:t<cores.length:=by have:=HN5.out;omega
  have g1:cores[t]? = some cores[t]:=List.getElem?_eq_getElem il
  have hsz:=HFC.out _ (List.getElem_mem il)
  have htk:cores.take (t+1)=cores.take t++[cores[t]]:=by rw [List.take_succ_eq_append_getElem il]
  have hdr:cores=cores.take t++(cores[t]::cores.drop (t+1)):=by rw [← List.drop_eq_getElem_cons il,List.take_append_drop]
  generalize cores[t]=x at g1 hsz htk hdr
  rcases E5.out with e | ⟨g,q,rfl,e1⟩
  · subst e;simp at il
  obtain ⟨y1,a2,c2,y2,y3⟩:=e1 t x g1
  have HE1:=Lib.hid e1
  have hbad:corB (nmsO (cores.take t)) x=false→R=false:=fun h=>by
   rw [HR.out,hdr,corsB_app,HPRE.out,Bool.true_and,List.nil_append]
   show (corB (nmsO (cores.take t)) x&&_)=false
   rw [h,Bool.false_and]
  have hgood:corB (nmsO (cores.take t)) x=true→corsB [] (cores.take (t+1))=true:=fun h=>by
   rw [htk,corsB_app,HPRE.out,Bool.true_and,List.nil_append]
   show (corB (nmsO (cores.take t)) x&&true)=true
   rw [h];rfl
  obtain ⟨nm,cd⟩:=x
  simp only at y1 y2 y3 hsz
  obtain ⟨nc,hnc⟩:∃ n,n=cd.length:=⟨_,rfl⟩
  rw [← hnc] at y2 hsz
  have HNC:=Lib.hid hnc
  have HBAD:=Lib.hid hbad
  have HGOOD:=Lib.hid hgood
  have HI:=Lib.hid y3
  have p5:wr.cell? ⟨g,q+t*2,none⟩=some (.string nm):=(HX.out.bel.cell (p:=⟨g,q+t*2,none⟩) (lt_of_at y1)).trans y1
  have p6:wr.cell? ⟨g,q+t*2+1,none⟩=some (.slice a2 nc c2):=(HX.out.bel.cell (p:=⟨g,q+t*2+1,none⟩) (lt_of_at y2)).trans y2
  have HNM:Hid (∀ X,Calls Tryz.prog 83 #[.string nm] X fun e w'=>e=.returned (.bool (nameB nm))∧X=w'):=fun X=>rname_any nm (by have:=hsz.1;omega) X
  have hnc2:nc≤140737488351232:=hsz.2
  have htn':(t:Int)<(n5:Int):=by omega
  have al:=(Below.refl _ wr).alloc (Nat.le_refl _) (.cells #[.string nm,.slice a2 nc c2] 70)
  have O1:=Own.new wr 70 #[.string nm,.slice a2 nc c2]
  have hs1:=HX.out.below al
  obtain ⟨W1,hW1⟩:∃ W,W=wr.alloc (.cells #[.string nm,.slice a2 nc c2] 70):=⟨_,rfl⟩
  rw [← hW1] at al O1 hs1
  have HW1:=Lib.hid hW1
  have HR1:Hid (Sr w #[.slice a1 n1 c1,.int .i64 sh,.int .i64 lk,.int .i64 bf,.slice (some ⟨g,q,none⟩) n5 c5] wr.heap.size #[.string nm,.slice a2 nc c2] W1):=⟨hs1,O1⟩
  have d0:=row_cellsO O1 0 _ rfl
  have HNX:Hid (corB (nmsO (cores.take t)) ⟨nm,cd⟩=((nameB nm && !(nmsO (cores.take t)).contains nm.data.toList)&&codeB cd)):=by
   show (nameB nm&&(_&&codeB cd))=_
   rw [Bool.and_assoc]
  clear al O1 hs1 hW1 y1 y2 y3 e1 g1 hnc il hbad hgood htk hdr hsz
  go_upto_region 7 with fail
  rw [← HW1.out]
  clear HW1 p4 p5 p6 HX
  generalize wr.heap.size=gc at HR1 d0 ⊢
  go_wp2_with (go_at_call 83;refine (HNM.out _).mono ?_;rintro e w' ⟨rfl,rfl⟩)
  generalize nameB nm=nb at HNX HNM
  clear d0 HNM
  go_loopg [5,6] (t+1) (fun m' z5 z6 X=>∃ k:Nat,z6=.int .i64 (k:Int)∧k≤t∧m'=t-k+1∧z5=.bool (nb && !(nmsO (cores.take k)).contains nm.data.toList)∧Sr w #[.slice a1 n1 c1,.int .i64 sh,.int .i64 lk,.int .i64 bf,.slice (some ⟨g,q,none⟩) n5 c5] gc #[.string nm,.slice a2 nc c2] X)
  case atStart=>exact ⟨0,rfl,Nat.zero_le _,by omega,by rw [List.take_zero];simp [nmsO],HR1.out⟩
  case round =>
   clear HR1
   obtain ⟨k,rfl,hk,hmk,rfl,hx⟩:=hrel
   have HMK:=Lib.hid hmk
   have HX:=Lib.hid hx
   have d0:=row_cellsO hx.cx 0 _ rfl
   have d1:=row_cellsO hx.cx 1 _ rfl
   have p4:=row_cellsO hx.sq.bx 4 _ rfl
   clear hmk hx
   by_cases hkt:k<t
   · have kl : k < cores.length := by have := HN5.out; omega
     have gk:cores[k]? = some cores[k]:=List.getElem?_eq_getElem kl
     have hnt:=nms_take gk nm.data.toList
     generalize cores[k]=y at gk hnt
     obtain ⟨z1,_⟩:=HE1.out k y gk
     obtain ⟨nk,ck⟩:=y
     simp only at z1 hnt
     have p5:wr.cell? ⟨g,q+k*2,none⟩=some (.string nk):=(HX.out.sq.bel.cell (p:=⟨g,q+k*2,none⟩) (lt_of_at z1)).trans z1
     have hkt':(k:Int)<(t:Int):=by omega
     have hkn:(k:Int)<(n5:Int):=by omega
     obtain ⟨r,hr⟩:∃ r,r=(nmsO (cores.take k)).contains nm.data.toList:=⟨_,rfl⟩
     rw [← hr] at hnt ⊢
     obtain ⟨r2,hr2⟩:∃ r2,r2=(nmsO (cores.take (k+1))).contains nm.data.toList:=⟨_,rfl⟩
     rw [← hr2] at hnt
     have HR2:=Lib.hid hr2
     have HNT:=Lib.hid hnt
     clear z1 gk hnt hr hr2 kl
     cases hv:(nb && !r) with
     | false =>
       have he:(nb && !r2)=false:=by
        rw [HNT.out]
        cases nb <;> cases r <;> simp at hv ⊢
       have HE:=Lib.hid he
       clear he hv
       go_wp2_with fail
       go_quiet (fail)
       have HZ:=Lib.hid (HX.out.below (below_drewN (Below.refl _ wr) nq))
       go_wp2_with fail
       go_roundg (t-(k+1)+1)
       case measure=>have:=HMK.out;omega
       case rel=>exact ⟨k+1,by simp,by omega,by omega,by rw [← HR2.out,HE.out],HZ.out⟩
     | true =>
       by_cases hq:nk.data.toList=nm.data.toList
       · have hq1 : (nk.toList == nm.toList) = true := by
          have:nk=nm:=bytes_same (by simpa using hq)
          subst this
          simp
         have he:(nb && !r2)=false:=by
          rw [HNT.out,show (nk.data.toList==nm.data.toList)=true by simpa using hq]
          simp
         have HE:=Lib.hid he
         clear he hv hq
         go_wp2_with fail
         go_quiet (fail)
         have HZ:=Lib.hid (HX.out.below (below_drewN (Below.refl _ wr) nq))
         go_wp2_with fail
         go_roundg (t-(k+1)+1)
         case measure=>have:=HMK.out;omega
         case rel=>exact ⟨k+1,by simp,by omega,by omega,by rw [← HR2.out,HE.out],HZ.out⟩
       · have hq1 : (nk.toList == nm.toList) = false := bytes_eqF (fun e => hq (by rw [e]))
         have he:(nb && !r2)=true:=by
          rw [HNT.out,show (nk.data.toList==nm.data.toList)=false by simpa using hq,Bool.or_false]
          exact hv
         have HE:=Lib.hid he
         clear he hv hq
         go_wp2_with fail
         go_quiet (fail)
         have HZ:=Lib.hid (HX.out.below (below_drewN (Below.refl _ wr) nq))
         go_wp2_with fail
         go_roundg (t-(k+1)+1)
         case measure=>have:=HMK.out;omega
         case rel=>exact ⟨k+1,by simp,by omega,by omega,by rw [← HR2.out,HE.out],HZ.out⟩
   obtain rfl:k=t:=by omega
   generalize (nb && !(nmsO (cores.take k)).contains nm.data.toList)=ok at HNX ⊢
   cases ok with
   | false =>
     obtain rfl:R=false:=HBAD.out (by rw [HNX.out];rfl)
     clear HR HBAD HGOOD HNX
     go_wp2_with fail
     go_ret
     exact ⟨rfl,HX.out.sq.bel⟩
   | true =>
   replace HNX:Hid (corB (nmsO (cores.take k)) ⟨nm,cd⟩=codeB cd):=HNX.out
   by_cases hc1:nc<1
   · obtain rfl : R = false := HBAD.out (by
      rw [HNX.out];unfold codeB
      rw [← HNC.out,b_f (by omega)];rfl)
     have hc1':(nc:Int)<1:=by omega
     clear HR HBAD HGOOD HNX
     go_wp2_with fail
     go_ret
     exact ⟨rfl,HX.out.sq.bel⟩
   by_cases hc2:16384<nc
   · obtain rfl : R = false := HBAD.out (by
      rw [HNX.out];unfold codeB
      rw [← HNC.out,b_f (p:=nc≤16384) (by omega),Bool.false_and,Bool.and_false])
     have hc1':¬ (nc:Int)<1:=by omega
     have hc2':(16384:Int)<(nc:Int):=by omega
     clear HR HBAD HGOOD HNX
     go_wp2_with fail
     go_ret
     exact ⟨rfl,HX.out.sq.bel⟩
   obtain ⟨m,rfl⟩:∃ m,nc=m+1:=⟨nc-1,by omega⟩
   have hml:m<cd.length:=by have:=HNC.out;omega
   have gm:cd[m]? = some cd[m]:=List.getElem?_eq_getElem hml
   have hlast:lastK cd=cd[m].k:=by
    unfold lastK
    rw [List.getLast?_eq_getElem?,show cd.length-1=m by have:=HNC.out;omega,gm]
   have hcode:codeB cd=(lastK cd==10 || lastK cd==8):=by
    unfold codeB
    rw [← HNC.out,b_t (p:=1≤m+1) (by omega),b_t (p:=m+1≤16384) (by omega),Bool.true_and,Bool.true_and]
   rw [hlast] at hcode
   generalize cd[m]=i at gm hcode
   rcases HI.out with e | ⟨g2,q2,rfl,e2⟩
   · subst e;simp at hml
   have z0:=e2 m i gm 0 (.int .u8 i.k) rfl
   have z1:wr.cell? ⟨g2,q2+m*9,none⟩=some (.int .u8 i.k):=(HX.out.sq.bel.cell (p:=⟨g2,q2+m*9,none⟩) (lt_of_at z0)).trans z0
   have hc1':¬ ((m:Int)+1<1):=by omega
   have hc2':¬ (16384:Int)<(m:Int)+1:=by omega
   have hm1:(m:Int)+1-1=(m:Int):=by omega
   obtain ⟨kk,hkk⟩:∃ kk,kk=i.k:=⟨_,rfl⟩
   rw [← hkk] at z1 hcode
   have HCO:=Lib.hid hcode
   clear e2 gm z0 hml hkk hcode hlast
   by_cases k10:kk=10
   · subst k10
     have HG:=Lib.hid (HGOOD.out (by rw [HNX.out,HCO.out];rfl))
     clear HBAD HGOOD HNX
     go_wp2_with fail
     go_roundg (n5-(k+1)+1)
     case measure=>have:=HM.out;omega
     case rel=>exact ⟨k+1,by simp,by omega,by omega,HG.out,HX.out.sq⟩
   by_cases k8:kk=8
   · subst k8
     have HG:=Lib.hid (HGOOD.out (by rw [HNX.out,HCO.out];rfl))
     clear HBAD HGOOD HNX
     go_wp2_with fail
     go_roundg (n5-(k+1)+1)
     case measure=>have:=HM.out;omega
     case rel=>exact ⟨k+1,by simp,by omega,by omega,HG.out,HX.out.sq⟩
   · have q10 : (kk != 10) = true := by simpa using k10
     have q8:(kk != 8)=true:=by simpa using k8
     obtain rfl:R=false:=HBAD.out (by rw [HNX.out,HCO.out,int_f k10,int_f k8];rfl)
     clear HR HBAD HGOOD HNX HCO
     go_wp2_with fail
     go_ret
     exact ⟨rfl,HX.out.sq.bel⟩
end Go.Proofs.YtmpljhfinmfnbaaGreatDoor

/- The proof, part 30: texts that belong together, in one. -/
import Derived.Test.YtieeaehabjjaoaaGreatDoorHBC
import Derived.Test.YtieeaehabjjaoaaGreatDoorHAG
import Derived.Test.YtieeaehabjjaoaaGreatDoorHAO
set_option maxRecDepth 100000
set_option maxHeartbeats 20000000
namespace Go.Proofs.YtieeaehabjjaoaaGreatDoor
open Go.RowKit
set_option linter.unusedVariables false
set_option maxRecDepth 100000
def RtS (x:St):Prop:=rgS x→fitS x→∀ (a3 a4 a5:Option Addr) (c3 c4 c5:Nat) (w:World) (d:Int),exsAt (fun _=>True) w x.e a3→stsAt (fun _=>True) w x.body a4→stsAt (fun _=>True) w x.els a5→0≤d→d≤64→Calls Tryz.prog 92 #[.agg (stCells x a3 c3 a4 c4 a5 c5).toArray,.int .i64 d] w fun e w'=>e=.returned (.bool (rS x d))∧Below w.heap.size w w'
def RtB (l:List St):Prop:=rgSs l→fitSs l→l.length≤4398046511104→∀ (a:Option Addr) (c:Nat) (w:World) (d:Int),stsAt (fun _=>True) w l a→0≤d→d≤1000→Calls Tryz.prog 50 #[.slice a l.length c,.int .i64 d] w fun e w'=>e=.returned (.bool (rB l d))∧Below w.heap.size w w'
theorem rs_0 {k:Int} {n ot:ByteArray} {e:List Ex} {b l:List St} {ps:Int} {a3 a4 a5:Option Addr} {c3 c4 c5:Nat} {w:World} {d:Int} (hk:0≤k) (hb:¬ (0<k∧k<8)) :
 Calls Tryz.prog 92 #[.agg #[.int .u8 k,.string n,.string ot,.slice a3 e.length c3,.slice a4 b.length c4,.slice a5 l.length c5,.int .i64 ps],.int .i64 d] w fun e' w'=>e'=.returned (.bool (rS (.mk k n ot e b l ps) d))∧Below w.heap.size w w':=by
 rw [rS_no hb]
 obtain ⟨m3,hm3⟩:∃ m,m=e.length:=⟨_,rfl⟩
 obtain ⟨m4,hm4⟩:∃ m,m=b.length:=⟨_,rfl⟩
 obtain ⟨m5,hm5⟩:∃ m,m=l.length:=⟨_,rfl⟩
 rw [← hm3,← hm4,← hm5]
 clear hm3 hm4 hm5
 have HB:=Lib.hid (bw_new w 66 #[.int .u8 k,.string n,.string ot,.slice a3 m3 c3,.slice a4 m4 c4,.slice a5 m5 c5,.int .i64 ps])
 have k1:=int_f (show k≠1 by omega)
 have k2:=int_f (show k≠2 by omega)
 have k3:=int_f (show k≠3 by omega)
 have k4:=int_f (show k≠4 by omega)
 have k5:=int_f (show k≠5 by omega)
 have k7:=int_f (show k≠7 by omega)
 by_cases qn:n=⟨#[]⟩
 rotate_left
 · have g1 := bt_f qn
   clear qn hb
   go_enter Tryz.func92,Tryz.ntmps92
   go_wp2_with fail
   go_ret
   exact ⟨rfl,HB.out.2⟩
 subst qn
 have k2':(k != 2)=true:=by simp only [bne,k2,Bool.not_false]
 by_cases qo:ot=⟨#[]⟩
 rotate_left
 · have g1 := bt_f qo
   clear qo hb
   go_enter Tryz.func92,Tryz.ntmps92
   go_wp2_with fail
   go_ret
   exact ⟨rfl,HB.out.2⟩
 subst qo
 by_cases q0:k≤0
 · have g1 : decide (k ≤ 0) = true := decide_eq_true q0
   clear hb
   go_enter Tryz.func92,Tryz.ntmps92
   go_wp2_with fail
   go_ret
   exact ⟨rfl,HB.out.2⟩
 · have g1 : decide (k ≤ 0) = false := decide_eq_false q0
   have q8:8≤k:=by omega
   have g2:decide (8≤k)=true:=decide_eq_true q8
   clear hb
   go_enter Tryz.func92,Tryz.ntmps92
   go_wp2_with fail
   go_ret
   exact ⟨rfl,HB.out.2⟩
theorem rs_step (x:St) (HB:RtB x.body) (HL:RtB x.els):RtS x:=by
 intro hrg hft a3 a4 a5 c3 c4 c5 w d h3 h4 h5 hd0 hd1
 obtain ⟨k,n,ot,e,b,l,ps⟩:=x
 obtain ⟨hk,hrE,hrb,hrl⟩:=hrg
 obtain ⟨hn,ho,⟨hle,hfE⟩,⟨hlb,hfb⟩,hll,hfl⟩:=hft
 change exsAt _ w e a3 at h3
 change stsAt _ w b a4 at h4
 change stsAt _ w l a5 at h5
 change RtB b at HB
 change RtB l at HL
 have H4:∀ W,Below w.heap.size w W→Calls Tryz.prog 50 #[.slice a4 b.length c4,.int .i64 (d+1)] W fun e' w'=>e'=.returned (.bool (rB b (d+1)))∧Below W.heap.size W w':=fun W hW=>HB hrb hfb (by omega) a4 c4 W (d+1) (stsAt_below h4 hW) (by omega) (by omega)
 have H5:∀ W,Below w.heap.size w W→Calls Tryz.prog 50 #[.slice a5 l.length c5,.int .i64 (d+1)] W fun e' w'=>e'=.returned (.bool (rB l (d+1)))∧Below W.heap.size W w':=fun W hW=>HL hrl hfl (by omega) a5 c5 W (d+1) (stsAt_below h5 hW) (by omega) (by omega)
 by_cases hb:0<k∧k<8
 · rcases (show k = 1 ∨ k = 2 ∨ k = 3 ∨ k = 4 ∨ k = 5 ∨ k = 6 ∨ k = 7 by omega) with rfl | rfl | rfl | rfl | rfl | rfl | rfl
   · exact rs_1 hd0 hd1 hn ho h3 hrE hfE H4 H5
   · exact rs_2 hd0 hd1 hn ho h3 hrE hfE H4 H5
   · exact rs_3 hd0 hd1 hn ho h3 hrE hfE H4 H5
   · exact rs_4 hd0 hd1 hn ho h3 hrE hfE H4 H5
   · exact rs_5 hd0 hd1 hn ho h3 hrE hfE H4 H5
   · exact rs_6 hd0 hd1 hn ho h3 hrE hfE H4 H5
   · exact rs_7 hd0 hd1 hn ho h3 hrE hfE H4 H5
 · exact rs_0 hk.1 hb
theorem rb_step (l:List St) (HI:∀ x∈l,RtS x):RtB l:=by
 intro hrg hft hlen a c w d h1 hd0 hd1
 by_cases hd:d≤64
 rotate_left
 · have hr : rB l d = false := by unfold rB; rw [decide_eq_false hd]; rfl
   rw [hr]
   have g1:64<d:=by omega
   obtain ⟨m,hm⟩:∃ m,m=l.length:=⟨_,rfl⟩
   rw [← hm]
   clear hr hd hm HI h1 hrg hft hlen
   go_enter Tryz.func50,Tryz.ntmps50
   go_wp2_with fail
   go_ret
   exact ⟨rfl,Below.refl _ _⟩
 have HC:Hid (∀ x∈l,∀ (a3 a4 a5:Option Addr) (c3 c4 c5:Nat) (W:World),exsAt (fun _=>True) W x.e a3→stsAt (fun _=>True) W x.body a4→stsAt (fun _=>True) W x.els a5→Calls Tryz.prog 92 #[.agg (stCells x a3 c3 a4 c4 a5 c5).toArray,.int .i64 d] W fun e w'=>e=.returned (.bool (rS x d))∧Below W.heap.size W w'):=fun x hx a3 a4 a5 c3 c4 c5 W g3 g4 g5=>HI x hx (rgSs_mem hrg x hx) (fitSs_mem hft x hx) a3 a4 a5 c3 c4 c5 W d g3 g4 g5 hd0 hd
 have E1:=Lib.hid h1
 have HOK:Hid ((∀ x∈l,rS x d=true)→rB l d=true):=fun h=>by unfold rB;rw [decide_eq_true hd,rAll_ok h];rfl
 have HNO:Hid (∀ x∈l,rS x d=false→rB l d=false):=fun x hx h=>by unfold rB;rw [rAll_bad x hx h,Bool.and_false]
 obtain ⟨R,hR⟩:∃ t,t=rB l d:=⟨_,rfl⟩
 rw [← hR] at HOK HNO ⊢
 obtain ⟨n,hn⟩:∃ n,n=l.length:=⟨_,rfl⟩
 rw [← hn] at hlen ⊢
 have HN:=Lib.hid hn
 clear hR hn h1 hrg hft HI
 go_enter Tryz.func50,Tryz.ntmps50
 go_wp2_with fail
 go_loopg [5] (n+1) (fun m' u X=>∃ i:Nat,u=.int .i64 (i:Int)∧i≤n∧m'=n-i+1∧Below w.heap.size w X∧∀ (j:Nat) (y:St),j<i→l[j]? = some y→rS y d=true)
 case atStart=>exact ⟨0,rfl,Nat.zero_le _,by omega,Below.refl _ _,fun j y h=>by omega⟩
 case round =>
  obtain ⟨i,rfl,hi,hm,hb0,hq⟩:=hrel
  have HM:=Lib.hid hm
  have HB:=Lib.hid hb0
  have HQ:=Lib.hid hq
  clear hm hb0 hq
  by_cases hin:i<n
  · have il : i < l.length := by have := HN.out; omega
    have g1:l[i]? = some l[i]:=List.getElem?_eq_getElem il
    have hmem:l[i]∈l:=List.getElem_mem il
    generalize l[i]=x at g1 hmem
    rcases E1.out with e | ⟨g,q,e,hg,e1⟩
    · cases l with
      | nil=>simp at il
      | cons=>cases e
    obtain rfl:a=some ⟨g,q,none⟩:=e
    have x1:=stsIn_get i x e1 g1
    have hin':(i:Int)<(n:Int):=by omega
    have hno:=HNO.out x hmem
    have hc:=HC.out x hmem
    have HG1:=Lib.hid g1
    obtain ⟨B,hB⟩:∃ t,t=rS x d:=⟨_,rfl⟩
    rw [← hB] at hno hc
    have HBB:=Lib.hid hB
    have HNX:=Lib.hid hno
    obtain ⟨k,nm,ot,es,bo,el,ps⟩:=x
    obtain ⟨a0,a1,a2,⟨ka,kc,a3,w3⟩,⟨ma,mc,a4,w4⟩,⟨za,zc,a5,w5⟩,a6⟩:=x1
    have hc:=hc ka ma za kc mc zc wr (exsAt_below w3 HB.out) (stsAt_below w4 HB.out) (stsAt_below w5 HB.out)
    change Calls _ _ #[.agg #[.int .u8 k,.string nm,.string ot,.slice ka es.length kc,.slice ma bo.length mc,.slice za el.length zc,.int .i64 ps],_] wr _ at hc
    obtain ⟨nk,hnk⟩:∃ z,z=es.length:=⟨_,rfl⟩
    obtain ⟨mk,hmk⟩:∃ z,z=bo.length:=⟨_,rfl⟩
    obtain ⟨zk,hzk⟩:∃ z,z=el.length:=⟨_,rfl⟩
    rw [← hnk] at a3 hc
    rw [← hmk] at a4 hc
    rw [← hzk] at a5 hc
    have HCC:=Lib.hid hc
    have b0:wr.cell? ⟨g,q+i*7,none⟩=some (.int .u8 k):=by rw [HB.out.cell (p:=⟨g,q+i*7,none⟩) (cell_lt a0)];exact a0
    have b1:wr.cell? ⟨g,q+i*7+1,none⟩=some (.string nm):=by rw [HB.out.cell (p:=⟨g,q+i*7+1,none⟩) (cell_lt a1)];exact a1
    have b2:wr.cell? ⟨g,q+i*7+2,none⟩=some (.string ot):=by rw [HB.out.cell (p:=⟨g,q+i*7+2,none⟩) (cell_lt a2)];exact a2
    have b3:wr.cell? ⟨g,q+i*7+3,none⟩=some (.slice ka nk kc):=by rw [HB.out.cell (p:=⟨g,q+i*7+3,none⟩) (cell_lt a3)];exact a3
    have b4:wr.cell? ⟨g,q+i*7+4,none⟩=some (.slice ma mk mc):=by rw [HB.out.cell (p:=⟨g,q+i*7+4,none⟩) (cell_lt a4)];exact a4
    have b5:wr.cell? ⟨g,q+i*7+5,none⟩=some (.slice za zk zc):=by rw [HB.out.cell (p:=⟨g,q+i*7+5,none⟩) (cell_lt a5)];exact a5
    have b6:wr.cell? ⟨g,q+i*7+6,none⟩=some (.int .i64 ps):=by rw [HB.out.cell (p:=⟨g,q+i*7+6,none⟩) (cell_lt a6)];exact a6
    clear hc hno hB a0 a1 a2 a3 a4 a5 a6 w3 w4 w5 hnk hmk hzk e1 hg hmem il g1
    cases B with
    | false =>
      go_wp2_with (go_at_call 92;refine (HCC.out).mono ?_;rintro e w1 ⟨rfl,hb1⟩;have HB1:=Lib.hid (HB.out.trans (hb1.mono HB.out.size));clear hb1)
      go_ret
      exact ⟨by rw [HNX.out (by first | rfl | trivial)];rfl,HB1.out⟩
    | true =>
      go_wp2_with (go_at_call 92;refine (HCC.out).mono ?_;rintro e w1 ⟨rfl,hb1⟩;have HB1:=Lib.hid (HB.out.trans (hb1.mono HB.out.size));clear hb1)
      go_roundg (n-(i+1)+1)
      case measure=>have:=HM.out;omega
      case rel =>
       refine ⟨i+1,rfl,by omega,by omega,HB1.out,fun j y hj hy=>?_⟩
       by_cases h:j<i
       · exact HQ.out j y h hy
       · obtain rfl : j = i := by omega
         have e:=HG1.out
         rw [hy] at e
         obtain rfl:=Option.some.inj e
         exact HBB.out.symm
  · have : i = n := by omega
    subst this
    have HRR:Hid (R=true):=HOK.out fun x hx=>by
     obtain ⟨j,hj⟩:=List.getElem?_of_mem hx
     exact HQ.out j x (by have:=(List.getElem?_eq_some_iff.1 hj).1;have:=HN.out;omega) hj
    go_wp2_with fail
    go_ret
    exact ⟨by rw [HRR.out];rfl,HB.out⟩
theorem rt_all:∀ l:List St,∀ x∈l,RtS x:=by
 intro l
 induction l using Sts.ind with
 | h0=>intro x hx;cases hx
 | h1 k n o e b l p r ih1 ih2 ih3 =>
   intro x hx
   rcases List.mem_cons.1 hx with rfl | hx
   · exact rs_step _ (rb_step b ih1) (rb_step l ih2)
   · exact ih3 x hx
theorem r_rightBlock (l:List St):RtB l:=rb_step l (rt_all l)
open Go.RowKit
set_option linter.unusedVariables false
set_option maxRecDepth 100000
theorem r_plain (l:List Dc) (hl:l.length≤4398046511104) (hf:fitDs l) (a:Option Addr) (c:Nat) (w:World) (h1:dcsAt (fun _=>True) w l a):Calls Tryz.prog 49 #[.slice a l.length c] w fun e w'=>e=.returned (.bool (bareB l))∧Below w.heap.size w w':=by
 have E1:=Lib.hid h1
 have HF:Hid (∀ x∈l,∀ W,Calls Tryz.prog 48 #[.string x.name] W fun e w'=>e=.returned (.bool (nameB x.name))∧W=w'):=fun x hx W=>rname_any x.name (by have:=hf x hx;unfold fitD nmOk at this;omega) W
 have HOK:Hid ((∀ (j:Nat) (y:Dc),j<l.length→l[j]? = some y→(nameB y.name&&y.wd==0)=true)→bareB l=true):=fun h=>all_ok h
 have HNO:Hid (∀ x∈l,(nameB x.name&&x.wd==0)=false→bareB l=false):=fun x hx h=>all_bad x hx h
 obtain ⟨R,hR⟩:∃ t,t=bareB l:=⟨_,rfl⟩
 rw [← hR] at HOK HNO ⊢
 obtain ⟨n,hn⟩:∃ n,n=l.length:=⟨_,rfl⟩
 rw [← hn] at hl HOK ⊢
 have HN:=Lib.hid hn
 clear hR hn h1 hf
 go_enter Tryz.func49,Tryz.ntmps49
 go_wp2_with fail
 go_loopg [3] (n+1) (fun m' u X=>∃ i:Nat,u=.int .i64 (i:Int)∧i≤n∧m'=n-i+1∧X=w∧∀ (j:Nat) (y:Dc),j<i→l[j]? = some y→(nameB y.name&&y.wd==0)=true)
 case atStart=>exact ⟨0,rfl,Nat.zero_le _,by omega,rfl,fun j y h=>by omega⟩
 case round =>
  obtain ⟨i,rfl,hi,hm,rfl,hq⟩:=hrel
  have HM:=Lib.hid hm
  have HQ:=Lib.hid hq
  clear hm hq
  by_cases hin:i<n
  · have il : i < l.length := by have := HN.out; omega
    have g1:l[i]? = some l[i]:=List.getElem?_eq_getElem il
    have hmem:l[i]∈l:=List.getElem_mem il
    generalize l[i]=x at g1 hmem
    rcases E1.out with e | ⟨g,q,e,hg,e1⟩
    · cases l with
      | nil=>simp at il
      | cons=>cases e
    obtain rfl:a=some ⟨g,q,none⟩:=e
    have x1:=dcsIn_get i x e1 g1
    have hin':(i:Int)<(n:Int):=by omega
    have hno:=HNO.out x hmem
    have hc:=HF.out x hmem
    have HG1:=Lib.hid g1
    obtain ⟨nm,wd,ps⟩:=x
    obtain ⟨a0,a1,a2⟩:=x1
    simp only at hno hc a0 a1 a2
    obtain ⟨B,hB⟩:∃ t,t=nameB nm:=⟨_,rfl⟩
    rw [← hB] at hno hc
    have HBB:=Lib.hid hB
    have HNX:=Lib.hid hno
    have HCC:=Lib.hid hc
    clear hc hno hB e1 hg hmem il g1
    cases B with
    | false =>
      go_wp2_with (go_at_call 48;refine (HCC.out _).mono ?_;rintro e w1 ⟨rfl,rfl⟩)
      go_ret
      exact ⟨by rw [HNX.out (by first | rfl | trivial)];rfl,Below.refl _ _⟩
    | true =>
      by_cases q0:wd=0
      · subst q0
        go_wp2_with (go_at_call 48;refine (HCC.out _).mono ?_;rintro e w1 ⟨rfl,rfl⟩)
        go_roundg (n-(i+1)+1)
        case measure=>have:=HM.out;omega
        case rel =>
         refine ⟨i+1,rfl,by omega,by omega,rfl,fun j y hj hy=>?_⟩
         by_cases h:j<i
         · exact HQ.out j y h hy
         · obtain rfl : j = i := by omega
           have e:=HG1.out
           rw [hy] at e
           obtain rfl:=Option.some.inj e
           show (nameB nm&&(0:Int)==0)=true
           rw [← HBB.out];rfl
      · have q1 := int_f q0
        have q2:(wd != 0)=true:=by simp only [bne,q1,Bool.not_false]
        rw [Hid,q1] at HNX
        have HNX:=Lib.hid HNX
        clear q0
        go_wp2_with (go_at_call 48;refine (HCC.out _).mono ?_;rintro e w1 ⟨rfl,rfl⟩)
        go_ret
        exact ⟨by rw [HNX.out (by first | rfl | trivial)];rfl,Below.refl _ _⟩
  · have : i = n := by omega
    subst this
    have HRR:Hid (R=true):=HOK.out fun j y hj hy=>HQ.out j y hj hy
    go_wp2_with fail
    go_ret
    exact ⟨by rw [HRR.out];rfl,Below.refl _ _⟩
theorem r_Right (x:Pg) (hf:fitP x) (hr:rgP x) (hD:rgD x.shared) {v:Value} {w:World} (hv:pA w x v):Calls Tryz.prog 21 #[v] w fun e w'=>e=.returned (.bool (rP x))∧Below w.heap.size w w':=by
 obtain ⟨a1,c1,a2,c2,a3,c3,rfl,h1,h2,h3⟩:=hv
 obtain ⟨⟨l1,f1⟩,⟨l2,f2⟩,l3,f3⟩:=hf
 have E1:=Lib.hid h1
 have E3:=Lib.hid h3
 have HF1:Hid (∀ d∈x.shared,∀ W,Calls Tryz.prog 48 #[.string d.name] W fun e w'=>e=.returned (.bool (nameB d.name))∧W=w'):=fun d hd W=>rname_any d.name (by have:=f1 d hd;unfold fitD nmOk at this;omega) W
 have HPL:Hid (∀ W,Below w.heap.size w W→Calls Tryz.prog 49 #[.slice a2 x.locks.length c2] W fun e w'=>e=.returned (.bool (bareB x.locks))∧Below W.heap.size W w'):=fun W hW=>r_plain _ (by omega) f2 a2 c2 W (dcsAt_below h2 hW)
 have HT1:Hid (∀ t∈x.threads,∀ W,Calls Tryz.prog 48 #[.string t.name] W fun e w'=>e=.returned (.bool (nameB t.name))∧W=w'):=fun t ht W=>rname_any t.name (by have:=(f3 t ht).1;unfold nmOk at this;omega) W
 have HT2:Hid (∀ t∈x.threads,∀ (a:Option Addr) (c:Nat) (W:World),dcsAt (fun _=>True) W t.locals a→Calls Tryz.prog 49 #[.slice a t.locals.length c] W fun e w'=>e=.returned (.bool (bareB t.locals))∧Below W.heap.size W w'):=fun t ht a c W h=>r_plain _ (by have:=(f3 t ht).2.1.1;omega) (f3 t ht).2.1.2 a c W h
 have HT3:Hid (∀ t∈x.threads,∀ (a:Option Addr) (c:Nat) (W:World),stsAt (fun _=>True) W t.body a→Calls Tryz.prog 50 #[.slice a t.body.length c,.int .i64 1] W fun e w'=>e=.returned (.bool (rB t.body 1))∧Below W.heap.size W w'):=fun t ht a c W h=>r_rightBlock t.body (hr t ht) (f3 t ht).2.2.2 (by have:=(f3 t ht).2.2.1;omega) a c W 1 h (by decide) (by decide)
 have HOK:Hid (∀ r1 r2 r3:Bool,sharedB x.shared=r1→bareB x.locks=r2→x.threads.all thB=r3→rP x=(r1&&(r2&&r3))):=fun r1 r2 r3 e1 e2 e3=>by unfold rP;rw [e1,e2,e3]
 have HSO:Hid ((∀ (j:Nat) (y:Dc),j<x.shared.length→x.shared[j]? = some y→(nameB y.name&&decide (-9223372036854775808<y.wd))=true)→sharedB x.shared=true):=fun h=>all_ok h
 have HSN:Hid (∀ d∈x.shared,(nameB d.name&&decide (-9223372036854775808<d.wd))=false→sharedB x.shared=false):=fun d hd h=>all_bad d hd h
 have HTO:Hid ((∀ (j:Nat) (y:Th),j<x.threads.length→x.threads[j]? = some y→thB y=true)→x.threads.all thB=true):=fun h=>all_ok h
 have HTN:Hid (∀ t∈x.threads,thB t=false→x.threads.all thB=false):=fun t ht h=>all_bad t ht h
 have HDD:=Lib.hid hD
 obtain ⟨S1,hS1⟩:∃ t,t=sharedB x.shared:=⟨_,rfl⟩
 obtain ⟨S2,hS2⟩:∃ t,t=bareB x.locks:=⟨_,rfl⟩
 obtain ⟨S3,hS3⟩:∃ t,t=x.threads.all thB:=⟨_,rfl⟩
 rw [← hS1] at HSO HSN
 rw [← hS2] at HPL
 rw [← hS3] at HTO HTN
 have HR:Hid (rP x=(S1&&(S2&&S3))):=HOK.out _ _ _ hS1.symm hS2.symm hS3.symm
 rw [HR.out]
 obtain ⟨n1,hn1⟩:∃ n,n=x.shared.length:=⟨_,rfl⟩
 obtain ⟨n2,hn2⟩:∃ n,n=x.locks.length:=⟨_,rfl⟩
 obtain ⟨n3,hn3⟩:∃ n,n=x.threads.length:=⟨_,rfl⟩
 rw [← hn1] at l1 HSO ⊢
 rw [← hn2] at l2 HPL ⊢
 rw [← hn3] at l3 HTO ⊢
 have HN:=Lib.hid (And.intro hn1 hn3)
 have HB:=Lib.hid (bw_new w 25 #[.slice a1 n1 c1,.slice a2 n2 c2,.slice a3 n3 c3])
 have HL:=Lib.hid (And.intro l1 l3)
 clear hn1 hn2 hn3 h1 h2 h3 f1 f2 f3 HOK HR hS1 hS2 hS3 hr hD l1 l2 l3
 go_enter Tryz.func21,Tryz.ntmps21
 go_wp2_with fail
 go_loopg [3] (n1+1) (fun m' u X=>∃ i:Nat,u=.int .i64 (i:Int)∧i≤n1∧m'=n1-i+1∧Bw w 25 #[.slice a1 n1 c1,.slice a2 n2 c2,.slice a3 n3 c3] X∧∀ (j:Nat) (y:Dc),j<i→x.shared[j]? = some y→(nameB y.name&&decide (-9223372036854775808<y.wd))=true)
 case atStart=>exact ⟨0,rfl,Nat.zero_le _,by omega,HB.out,fun j y h=>by omega⟩
 case round =>
  clear HB
  obtain ⟨i,rfl,hi,hm,hb,hq⟩:=hrel
  have HM:=Lib.hid hm
  have HQ:=Lib.hid hq
  have HB:=Lib.hid hb
  clear hm hq hb
  have k0:wr.cell? ⟨w.heap.size,0,none⟩=some (.slice a1 n1 c1):=by rw [cell_of_row _ _ 0 _ _ _ HB.out.1];rfl
  by_cases hin:i<n1
  · have il : i < x.shared.length := by have := HN.out.1; omega
    have g1:x.shared[i]? = some x.shared[i]:=List.getElem?_eq_getElem il
    have hmem:x.shared[i]∈x.shared:=List.getElem_mem il
    generalize x.shared[i]=y at g1 hmem
    rcases E1.out with e | ⟨g,q,e,hg,e1⟩
    · rw [show x.shared=[] by simpa using e] at il;simp at il
    obtain rfl:a1=some ⟨g,q,none⟩:=e
    have x1:=dcsIn_get i y e1 g1
    have hin':(i:Int)<(n1:Int):=by omega
    have hbig:(n1:Int)≤4398046511104:=by have:=HL.out.1;omega
    have hno:=HSN.out y hmem
    have hc:=HF1.out y hmem
    have hdd:=HDD.out y hmem
    have HG1:=Lib.hid g1
    obtain ⟨nm,wd,ps⟩:=y
    obtain ⟨a0,a1',a2'⟩:=x1
    simp only at hno hc a0 a1' a2' hdd
    have b0:wr.cell? ⟨g,q+i*3,none⟩=some (.string nm):=by rw [HB.out.2.cell (p:=⟨g,q+i*3,none⟩) (cell_lt a0)];exact a0
    have b1:wr.cell? ⟨g,q+i*3+1,none⟩=some (.int .i64 wd):=by rw [HB.out.2.cell (p:=⟨g,q+i*3+1,none⟩) (cell_lt a1')];exact a1'
    obtain ⟨B,hB⟩:∃ t,t=nameB nm:=⟨_,rfl⟩
    rw [← hB] at hno hc
    have HBB:=Lib.hid hB
    have HNX:=Lib.hid hno
    have HCC:=Lib.hid hc
    clear hc hno hB e1 hg hmem il g1 a0 a1' a2'
    cases B with
    | false =>
      go_wp2_with (go_at_call 48;refine (HCC.out _).mono ?_;rintro e w1 ⟨rfl,rfl⟩)
      go_ret
      exact ⟨by rw [HNX.out (by first | rfl | trivial)];rfl,HB.out.2⟩
    | true =>
      by_cases q0:wd = -9223372036854775808
      · subst q0
        go_wp2_with (go_at_call 48;refine (HCC.out _).mono ?_;rintro e w1 ⟨rfl,rfl⟩)
        go_ret
        exact ⟨by rw [HNX.out (by first | rfl | trivial)];rfl,HB.out.2⟩
      · have q1 := int_f q0
        have q2 : -9223372036854775808<wd:=by omega
        clear q0 hdd
        go_wp2_with (go_at_call 48;refine (HCC.out _).mono ?_;rintro e w1 ⟨rfl,rfl⟩)
        go_roundg (n1-(i+1)+1)
        case measure=>have:=HM.out;omega
        case rel =>
         refine ⟨i+1,rfl,by omega,by omega,HB.out,fun j y hj hy=>?_⟩
         by_cases h:j<i
         · exact HQ.out j y h hy
         · obtain rfl : j = i := by omega
           have e:=HG1.out
           rw [hy] at e
           obtain rfl:=Option.some.inj e
           show (nameB nm&&decide (-9223372036854775808<wd))=true
           rw [← HBB.out,decide_eq_true q2];rfl
  · have hnn : n1 = i := by omega
    subst hnn
    have HS1:Hid (S1=true):=HSO.out fun j y hj hy=>HQ.out j y hj hy
    clear HSO HSN HQ HM HF1 HDD E1 hi hin
    have k1:wr.cell? ⟨w.heap.size,1,none⟩=some (.slice a2 n2 c2):=by rw [cell_of_row _ _ 1 _ _ _ HB.out.1];rfl
    cases S2 with
    | false =>
      go_wp2_with (go_at_call 49;refine (HPL.out _ HB.out.2).mono ?_;rintro e w1 ⟨rfl,hb⟩;have HB1:=Lib.hid (bw_below HB.out hb);clear hb)
      go_ret
      exact ⟨by rw [HS1.out];rfl,HB1.out.2⟩
    | true =>
      go_wp2_with (go_at_call 49;refine (HPL.out _ HB.out.2).mono ?_;rintro e w1 ⟨rfl,hb⟩;have HB1:=Lib.hid (bw_below HB.out hb);clear hb)
      clear k0 k1 HPL
      go_loopg [4] (n3+1) (fun m' u X=>∃ j:Nat,u=.int .i64 (j:Int)∧j≤n3∧m'=n3-j+1∧Bw w 25 #[.slice a1 n1 c1,.slice a2 n2 c2,.slice a3 n3 c3] X∧∀ (k:Nat) (y:Th),k<j→x.threads[k]? = some y→thB y=true)
      case atStart=>exact ⟨0,rfl,Nat.zero_le _,by omega,HB1.out,fun j y h=>by omega⟩
      case round =>
       clear HB HB1
       obtain ⟨j,hj0,hi,hm,hb,hq⟩:=hrel
       subst hj0
       have HM:=Lib.hid hm
       have HQ:=Lib.hid hq
       have HB:=Lib.hid hb
       clear hm hq hb
       have k2:wr.cell? ⟨w.heap.size,2,none⟩=some (.slice a3 n3 c3):=by rw [cell_of_row _ _ 2 _ _ _ HB.out.1];rfl
       by_cases hjn:j<n3
       · have il : j < x.threads.length := by have := HN.out.2; omega
         have g1:x.threads[j]? = some x.threads[j]:=List.getElem?_eq_getElem il
         have hmem:x.threads[j]∈x.threads:=List.getElem_mem il
         generalize x.threads[j]=y at g1 hmem
         rcases E3.out with e | ⟨g,q,e,hg,e1⟩
         · rw [show x.threads=[] by simpa using e] at il;simp at il
         obtain rfl:a3=some ⟨g,q,none⟩:=e
         have x1:=thsIn_get j y e1 g1
         have hjn':(j:Int)<(n3:Int):=by omega
         have hbig:(n3:Int)≤4398046511104:=by have:=HL.out.2;omega
         have hno:=HTN.out y hmem
         have hc1:=HT1.out y hmem
         have hc2:=HT2.out y hmem
         have hc3:=HT3.out y hmem
         have HG1:=Lib.hid g1
         obtain ⟨nm,lo,bo,ps⟩:=y
         obtain ⟨b0,⟨ka,kc,b1,w1'⟩,⟨ma,mc,b2,w2'⟩,b3⟩:=x1
         simp only at hc1 hc2 hc3 b0 b1 w1' b2 w2' b3
         have HTB:Hid (thB ⟨nm,lo,bo,ps⟩=(nameB nm&&(bareB lo&&rB bo 1))):=rfl
         rw [HTB.out] at hno
         have hp:∀ W,Below w.heap.size w W→Calls Tryz.prog 49 #[.slice ka lo.length kc] W fun e w'=>e=.returned (.bool (bareB lo))∧Below W.heap.size W w':=fun W hW=>hc2 ka kc W (dcsAt_below w1' hW)
         have hrb:∀ W,Below w.heap.size w W→Calls Tryz.prog 50 #[.slice ma bo.length mc,.int .i64 1] W fun e w'=>e=.returned (.bool (rB bo 1))∧Below W.heap.size W w':=fun W hW=>hc3 ma mc W (stsAt_below w2' hW)
         obtain ⟨bN,hN⟩:∃ t,t=nameB nm:=⟨_,rfl⟩
         obtain ⟨bL,hL⟩:∃ t,t=bareB lo:=⟨_,rfl⟩
         obtain ⟨bB,hB⟩:∃ t,t=rB bo 1:=⟨_,rfl⟩
         have HTV:Hid (thB ⟨nm,lo,bo,ps⟩=(bN&&(bL&&bB))):=by rw [hN,hL,hB];exact HTB.out
         rw [← hN] at hno hc1
         rw [← hL] at hno hp
         rw [← hB] at hno hrb
         obtain ⟨nk,hnk⟩:∃ z,z=lo.length:=⟨_,rfl⟩
         obtain ⟨mk,hmk⟩:∃ z,z=bo.length:=⟨_,rfl⟩
         rw [← hnk] at b1 hp
         rw [← hmk] at b2 hrb
         have HC1:=Lib.hid hc1
         have HC2:=Lib.hid hp
         have HC3:=Lib.hid hrb
         have HNX:=Lib.hid hno
         have d0:wr.cell? ⟨g,q+j*4,none⟩=some (.string nm):=by rw [HB.out.2.cell (p:=⟨g,q+j*4,none⟩) (cell_lt b0)];exact b0
         have d1:wr.cell? ⟨g,q+j*4+1,none⟩=some (.slice ka nk kc):=by rw [HB.out.2.cell (p:=⟨g,q+j*4+1,none⟩) (cell_lt b1)];exact b1
         have d2:wr.cell? ⟨g,q+j*4+2,none⟩=some (.slice ma mk mc):=by rw [HB.out.2.cell (p:=⟨g,q+j*4+2,none⟩) (cell_lt b2)];exact b2
         have d3:wr.cell? ⟨g,q+j*4+3,none⟩=some (.int .i64 ps):=by rw [HB.out.2.cell (p:=⟨g,q+j*4+3,none⟩) (cell_lt b3)];exact b3
         have HT0:=Lib.hid (Own.new wr 39 #[.string nm,.slice ka nk kc,.slice ma mk mc,.int .i64 ps])
         have HB0:=Lib.hid (bw_below HB.out ((Below.refl _ wr).alloc (Nat.le_refl _) (.cells #[.string nm,.slice ka nk kc,.slice ma mk mc,.int .i64 ps] 39)))
         clear hno hc1 hc2 hc3 hp hrb hN hL hB hnk hmk b0 b1 b2 b3 w1' w2' e1 hg hmem il g1 HTB
         cases bN with
         | false =>
           go_wp2_with (go_at_call 48;refine (HC1.out _).mono ?_;rintro e w1 ⟨rfl,rfl⟩)
           go_ret
           exact ⟨by rw [HS1.out,HNX.out (by first | rfl | trivial)];rfl,HB0.out.2⟩
         | true =>
           cases bL with
           | false =>
             go_wp2_with (first | (go_at_call 48;refine (HC1.out _).mono ?_;rintro e w1 ⟨rfl,rfl⟩) | (go_at_call 49;refine (HC2.out _ HB0.out.2).mono ?_;rintro e w2 ⟨rfl,hb2⟩;have HB2:=Lib.hid (bw_below HB0.out hb2);have t2:w2.cell? ⟨wr.heap.size,2,none⟩=some (.slice ma mk mc):=(by rw [cell_of_row _ _ 2 _ _ _ (HT0.out.below hb2)];rfl);clear hb2))
             go_ret
             exact ⟨by rw [HS1.out,HNX.out (by first | rfl | trivial)];rfl,HB2.out.2⟩
           | true =>
             cases bB with
             | false =>
               go_wp2_with (first | (go_at_call 48;refine (HC1.out _).mono ?_;rintro e w1 ⟨rfl,rfl⟩) | (go_at_call 49;refine (HC2.out _ HB0.out.2).mono ?_;rintro e w2 ⟨rfl,hb2⟩;have HB2:=Lib.hid (bw_below HB0.out hb2);have t2:w2.cell? ⟨wr.heap.size,2,none⟩=some (.slice ma mk mc):=(by rw [cell_of_row _ _ 2 _ _ _ (HT0.out.below hb2)];rfl);clear hb2) | (go_at_call 50;refine (HC3.out _ HB2.out.2).mono ?_;rintro e w3 ⟨rfl,hb3⟩;have HB3:=Lib.hid (bw_below HB2.out hb3);clear hb3))
               go_ret
               exact ⟨by rw [HS1.out,HNX.out (by first | rfl | trivial)];rfl,HB3.out.2⟩
             | true =>
               go_wp2_with (first | (go_at_call 48;refine (HC1.out _).mono ?_;rintro e w1 ⟨rfl,rfl⟩) | (go_at_call 49;refine (HC2.out _ HB0.out.2).mono ?_;rintro e w2 ⟨rfl,hb2⟩;have HB2:=Lib.hid (bw_below HB0.out hb2);have t2:w2.cell? ⟨wr.heap.size,2,none⟩=some (.slice ma mk mc):=(by rw [cell_of_row _ _ 2 _ _ _ (HT0.out.below hb2)];rfl);clear hb2) | (go_at_call 50;refine (HC3.out _ HB2.out.2).mono ?_;rintro e w3 ⟨rfl,hb3⟩;have HB3:=Lib.hid (bw_below HB2.out hb3);clear hb3))
               go_roundg (n3-(j+1)+1)
               case measure=>have:=HM.out;omega
               case rel =>
                refine ⟨j+1,rfl,by omega,by omega,HB3.out,fun k y hk hy=>?_⟩
                by_cases h:k<j
                · exact HQ.out k y h hy
                · obtain rfl : k = j := by omega
                  have e:=HG1.out
                  rw [hy] at e
                  obtain rfl:=Option.some.inj e
                  exact HTV.out
       · have hnn : n3 = j := by omega
         subst hnn
         have HS3:Hid (S3=true):=HTO.out fun k y hk hy=>HQ.out k y hk hy
         go_wp2_with fail
         go_ret
         exact ⟨by rw [HS1.out,HS3.out];rfl,HB.out.2⟩
end Go.Proofs.YtieeaehabjjaoaaGreatDoor

/- The proof, part 40: texts that belong together, in one. -/
import Derived.Test.YtimccjlhhjjcpaaGreatDoorVBB
import Derived.Test.YtimccjlhhjjcpaaGreatDoorVBM
import Derived.Test.YtimccjlhhjjcpaaGreatDoorVBH
import Derived.Test.YtimccjlhhjjcpaaGreatDoorVAV
import Derived.Test.YtimccjlhhjjcpaaGreatDoorVAW
import Derived.Test.YtimccjlhhjjcpaaGreatDoorVBI
import Derived.Deep.RegionHeld3
import Derived.Test.YtimccjlhhjjcpaaGreatDoorVAA
import Derived.ChangeArms
import Derived.SizedLaws
import Derived.Carry
import Derived.ChangeSame
import Derived.WideShapes
import Derived.ChangeSlices
import Derived.Test.YtimccjlhhjjcpaaGreatDoorVAU
import Derived.Test.YtimccjlhhjjcpaaGreatDoorVAO
set_option maxRecDepth 100000
set_option maxHeartbeats 20000000
namespace Go.Proofs.YtimccjlhhjjcpaaGreatDoor
open Go.RowKit
set_option linter.unusedVariables false
theorem zero_back {T:TypeId} {n:Nat} (hT:RowT T n) {w:World} {g:Nat} {cs:Array Value} (hg:Own w g T cs) (hn:cs.size=n) {fn:Func} {p q:Tmp} {R:Ending→World→Prop} {a:Act} {y:Value} (hr:fn.results=#[.cell p T,.tmp q]) (hp:a.tmps.getD p undef=.pointer (some ⟨g,0,none⟩)) (hq:a.tmps.getD q undef=y) (hd:a.defers=[]) (h:R (.returned (.tuple #[.agg cs,y])) w):bodyPost Tryz.prog fn R .ret a w :=
 bodyPost_ret (res_ct hr hp hq (lv_row hT hg hn)) hd h
theorem r_Rename (x:Pg) (okx:PrOk x) (hf:fitP x) (hb:ctP x≤1048576) (f t:ByteArray) (ht:nmOk t) {v:Value} {w:World} (hx:pA w x v):Calls Tryz.prog 7 #[v,.string f,.string t] w (RnZ (renY x f t) w):=by
 have hrt:∀ W,Below w.heap.size w W→Calls Tryz.prog 23 #[v] W fun e w'=>e=.returned (.bool (rP x))∧Below W.heap.size W w':=fun W hW=>r_Right x hf okx.2.1 okx.2.2.1 (pA_below hx hW)
 have hns:∀ W,Below w.heap.size w W→Calls Tryz.prog 10 #[v] W (NmR (nmP x) W):=fun W hW=>r_NamesC x hb (pA_below hx hW)
 have hpg:∀ W,Below w.heap.size w W→Calls Tryz.prog 25 #[.agg #[.bool false,.string f,.string t],v] W (TuR false f t x W):=fun W hW=>r_turnProgram false f t x hb (pA_below hx hW)
 have HNM:Hid (∀ W,Calls Tryz.prog 24 #[.string t] W fun e w'=>e=.returned (.bool (nameB t))∧W=w'):=fun W=>rname_any t (by unfold nmOk at ht;omega) W
 have HCT:Hid ((nmP x).length≤2097152):=by have:=nmP_ct x;unfold Hid;omega
 have HTR:Hid (rP x=true→x.tu (gR f t) (hR false)=x.ren (gR f t)):=fun h=>pgTu_ren (fxP_of (gR_empty f t) h)
 have HY:Hid (renY x f t=bif rP x then (bif nameB t && !hasN x t then .inl (x.ren (gR f t)) else .inr 2) else .inr 40):=rfl
 rw [HY.out]
 obtain ⟨a1,c1,a2,c2,a3,c3,rfl,_⟩:=hx
 obtain ⟨n1,hn1⟩:∃ n,n=x.shared.length:=⟨_,rfl⟩
 obtain ⟨n2,hn2⟩:∃ n,n=x.locks.length:=⟨_,rfl⟩
 obtain ⟨n3,hn3⟩:∃ n,n=x.threads.length:=⟨_,rfl⟩
 rw [← hn1,← hn2,← hn3] at hrt hns hpg ⊢
 have HN:=Lib.hid (And.intro hn1 (And.intro hn2 hn3))
 obtain ⟨B,hB⟩:∃ b,b=rP x:=⟨_,rfl⟩
 rw [← hB] at hrt HTR ⊢
 have HRT:=Lib.hid hrt
 have HNS:=Lib.hid hns
 have HPG:=Lib.hid hpg
 have HB:=Lib.hid (bx_new w 25 #[.slice a1 n1 c1,.slice a2 n2 c2,.slice a3 n3 c3] zPg)
 clear hrt hns hpg HY hf hb okx ht hn1 hn2 hn3 hB
 cases B with
 | false =>
   go_enter Tryz.func7,Tryz.ntmps7
   go_wp2_with (first | (refine ld rowPg rfl rfl rfl HB.out.1 rfl ?_) | (go_at_call 23;refine (HRT.out _ HB.out.2.2).mono ?_;rintro e w1 ⟨rfl,hb⟩;have HB1:=Lib.hid (bx_below HB.out hb);clear hb) | (refine Go.Proofs.YtimccjlhhjjcpaaGreatDoor.st rowPg rfl rfl HB1.out.2.1 rfl rfl (by rfl) (by rfl) (by kernel_rfl) ?_))
   refine zero_back rowPg (HB1.out.2.1.row #[.slice none 0 0,.slice none 0 0,.slice none 0 0]) rfl rfl rfl rfl rfl ?_
   exact ⟨none,0,0,none,0,0,none,0,0,40,rfl,Below.of_row HB1.out.2.2 (by omega) _,rfl,rfl,rfl,rfl⟩
 | true =>
 change Calls _ _ _ _ (RnZ (bif nameB t && !hasN x t then .inl (x.ren (gR f t)) else .inr 2) w)
 obtain ⟨B0,hB0⟩:∃ b,b=nameB t:=⟨_,rfl⟩
 rw [← hB0] at HNM ⊢
 have HT0:Hid (B0=true→t≠⟨#[]⟩):=fun h=>name_nonempty (by rw [← hB0];exact h)
 clear hB0
 go_enter Tryz.func7,Tryz.ntmps7
 go_wp2_with (first | (refine ld rowPg rfl rfl rfl HB.out.1 rfl ?_) | (go_at_call 23;refine (HRT.out _ HB.out.2.2).mono ?_;rintro e w1 ⟨rfl,hb⟩;have HB1:=Lib.hid (bx_below HB.out hb);clear hb) | (refine ld rowPg rfl rfl rfl HB1.out.1 rfl ?_))
 clear HRT HB
 go_wp2_with (refine ld rowPg rfl rfl rfl HB1.out.1 rfl ?_)
 go_at_call 10
 refine (HNS.out _ HB1.out.2.2).mono ?_
 rintro e w2 ⟨base,l,u,rfl,hl,hnl,hb⟩
 have HB2:=Lib.hid (bx_below HB1.out hb)
 obtain ⟨la,lc,rfl,hst⟩:=strsAt_row hl.2
 have HST:=Lib.hid hst
 have HNL:=Lib.hid hnl
 have hl20:l.length≤2097152:=Nat.le_trans (nl_len_le hnl) HCT.out
 obtain ⟨n,hn⟩:∃ n,n=l.length:=⟨_,rfl⟩
 rw [← hn] at hl20 ⊢
 have HLN:=Lib.hid hn
 clear hb hl hnl hst hn HB1 HNS HCT
 go_wp2_with (go_at_call 24;refine (HNM.out _).mono ?_;rintro e w3 ⟨rfl,rfl⟩)
 clear HNM
 have HA0:Hid ((!B0 || (l.take 0).any (fun s=>s==t.data.toList)) = !B0):=by simp [Hid]
 go_loopg [10,11] (n+1) (fun m' q u X=>∃ (i:Nat) (b:Bool),q=.bool b∧u=.int .i64 (i:Int)∧i≤n∧m'=n-i+1∧X=w2∧b=(!B0 || (l.take i).any (fun s=>s==t.data.toList)))
 case atStart=>exact ⟨0,!B0,rfl,rfl,Nat.zero_le _,by omega,rfl,HA0.out.symm⟩
 case round =>
  clear HA0
  obtain ⟨i,b,rfl,rfl,hi,hm,rfl,hbv⟩:=hrel
  have HM:=Lib.hid hm
  have HBV:=Lib.hid hbv
  clear hm hbv
  by_cases hin:i<n
  · have il : i < l.length := by have := HLN.out; omega
    have g1:l[i]? = some l[i]:=List.getElem?_eq_getElem il
    have HTK:Hid ((l.take (i+1)).any (fun s=>s==t.data.toList)=((l.take i).any (fun s=>s==t.data.toList) || (l[i]==t.data.toList))):=by
     show _=_
     rw [List.take_succ_eq_append_getElem il,List.any_append];simp
    generalize l[i]=s at g1 HTK
    obtain ⟨g,rfl,_,hc,_⟩:=HST.out i s g1
    have hin':(i:Int)<(n:Int):=by omega
    cases b with
    | true =>
      clear hc
      go_wp2_with fail
      go_roundg (n-(i+1)+1)
      case measure=>have:=HM.out;omega
      case rel=>exact ⟨i+1,true,rfl,rfl,by omega,by omega,rfl,by
       rw [HTK.out,← Bool.or_assoc,← HBV.out];rfl⟩
    | false =>
      obtain ⟨z,hz⟩:∃ z:ByteArray,z=⟨s.toArray⟩:=⟨_,rfl⟩
      rw [← hz] at hc
      have hs:s=z.data.toList:=by rw [hz]
      by_cases hst:z=t
      · have q1 := bytes_eqT hst
        have HQ:Hid ((s==t.data.toList)=true):=by
         show _=_
         rw [hs,hst];simp
        clear hst hz hs
        go_wp2_with fail
        go_roundg (n-(i+1)+1)
        case measure=>have:=HM.out;omega
        case rel=>exact ⟨i+1,true,rfl,rfl,by omega,by omega,rfl,by
         rw [HTK.out,← Bool.or_assoc,← HBV.out,HQ.out];rfl⟩
      · have q1 := bytes_eqF hst
        have HQ:Hid ((s==t.data.toList)=false):=by
         show _=_
         rw [hs]
         exact beq_eq_false_iff_ne.2 fun e=>hst (bytes_same (by rw [e];simp))
        clear hst hz hs
        go_wp2_with fail
        go_roundg (n-(i+1)+1)
        case measure=>have:=HM.out;omega
        case rel=>exact ⟨i+1,false,rfl,rfl,by omega,by omega,rfl,by
         rw [HTK.out,← Bool.or_assoc,← HBV.out,HQ.out];rfl⟩
  · have hie : n = i := by omega
    subst hie
    have HTT:Hid (l.take n=l):=List.take_of_length_le (by have:=HLN.out;omega)
    have HFB:Hid (b = !(B0 && !hasN x t)):=by
     show _=_
     rw [HBV.out,HTT.out]
     cases hB:B0 with
     | false=>rfl
     | true =>
       have hm:=nl_mem HNL.out (HT0.out hB)
       have:l.any (fun s=>s==t.data.toList)=hasN x t:=by
        cases hh:hasN x t with
        | true=>exact List.any_eq_true.2 ⟨_,hm.2 (hasN_iff.1 hh),by simp⟩
        | false =>
          rw [← Bool.not_eq_true,List.any_eq_true]
          rintro ⟨s,h1,h2⟩
          obtain rfl:=eq_of_beq h2
          rw [hasN_iff.2 (hm.1 h1)] at hh
          cases hh
       rw [this];simp
    clear HTT HBV HST HNL HT0
    cases b with
    | true =>
      have HYY:Hid ((B0 && !hasN x t)=false):=by have:=HFB.out;revert this;cases (B0 && !hasN x t) <;> simp [Hid]
      go_wp2_with (refine Go.Proofs.YtimccjlhhjjcpaaGreatDoor.st rowPg rfl rfl HB2.out.2.1 rfl rfl (by rfl) (by rfl) (by kernel_rfl) ?_)
      change bodyPost _ _ _ _ _ _
      refine zero_back rowPg (HB2.out.2.1.row #[.slice none 0 0,.slice none 0 0,.slice none 0 0]) rfl rfl rfl rfl rfl ?_
      rw [HYY.out]
      exact ⟨none,0,0,none,0,0,none,0,0,2,rfl,Below.of_row HB2.out.2.2 (by omega) _,rfl,rfl,rfl,rfl⟩
    | false =>
      have HYY:Hid ((B0 && !hasN x t)=true):=by have:=HFB.out;revert this;cases (B0 && !hasN x t) <;> simp [Hid]
      have BX:=(Below.refl wr.heap.size wr).alloc (Nat.le_refl _) (.cells #[.bool false,.string f,.string t] 44)
      have HB3:=Lib.hid (bx_below HB2.out BX)
      have HO3:=Lib.hid (Own.new wr 44 #[.bool false,.string f,.string t])
      clear BX
      go_wp2_with (first | (refine ld rowTu rfl rfl rfl HO3.out rfl ?_) | (refine ld rowPg rfl rfl rfl HB3.out.1 rfl ?_))
      go_at_call 25
      refine (HPG.out _ HB3.out.2.2).mono ?_
      rintro e w4 ⟨s1,t1,s2,t2,s3,t3,rfl,h1,h2,h3,hb⟩
      have HB4:=Lib.hid (bx_below HB3.out hb)
      have HH:=Lib.hid (And.intro h1 (And.intro h2 h3))
      have HSZ:Hid (w.heap.size+1<(wr.alloc (.cells #[.bool false,.string f,.string t] 44)).heap.size):=HB3.out.2.1.lt
      clear h1 h2 h3 hb
      go_wp2_with (refine Go.Proofs.YtimccjlhhjjcpaaGreatDoor.st rowPg rfl rfl HB4.out.2.1 rfl rfl (by rfl) (by rfl) (by kernel_rfl) ?_)
      change bodyPost _ _ _ _ _ _
      refine zero_back rowPg (HB4.out.2.1.row #[.slice s1 x.shared.length t1,.slice s2 x.locks.length t2,.slice s3 x.threads.length t3]) rfl rfl rfl rfl rfl ?_
      rw [HYY.out]
      have e:=HTR.out (by first | rfl | trivial)
      obtain ⟨h1,h2,h3⟩:=HH.out
      rw [e] at h1 h2 h3
      have hsz:=HSZ.out
      refine ⟨s1,_,t1,s2,_,t2,s3,_,t3,0,rfl,Below.of_row HB4.out.2.2 (by omega) _,rfl,?_,?_,?_,s1,t1,s2,t2,s3,t3,?_,?_,?_,?_⟩
      · show _=(x.shared.map _).length;rw [List.length_map]
      · show _=(x.locks.map _).length;rw [List.length_map]
      · show _=(x.threads.map _).length;rw [List.length_map]
      · show _ = Value.agg #[.slice s1 (x.shared.map _).length t1, .slice s2 (x.locks.map _).length t2, .slice s3 (x.threads.map _).length t3]
        rw [List.length_map,List.length_map,List.length_map]
      · exact dcsAt_rf h1 (chg_setRow _ _ (by omega)) (by omega)
      · exact dcsAt_rf h2 (chg_setRow _ _ (by omega)) (by omega)
      · exact thsAt_rf h3 (chg_setRow _ _ (by omega)) (by omega)
open Go.RowKit
set_option linter.unusedVariables false
def yOf:Sum Pg Int→Pg
 | .inl y=>y
 | .inr _=>⟨[],[],[]⟩
def zOf:Sum Pg Int→Int
 | .inl _=>0
 | .inr n=>n
theorem rn_use {Y:Sum Pg Int} {w w':World} {e:Ending} (h:RnZ Y w e w'):∃ s1 n1 t1 s2 n2 t2 s3 n3 t3,e=.returned (.tuple #[.agg #[.slice s1 n1 t1,.slice s2 n2 t2,.slice s3 n3 t3],.int .i64 (zOf Y)])∧Below w.heap.size w w'∧pA w' (yOf Y) (.agg #[.slice s1 n1 t1,.slice s2 n2 t2,.slice s3 n3 t3]):=by
 obtain ⟨s1,n1,t1,s2,n2,t2,s3,n3,t3,z,h0,hb,hq⟩:=h
 cases Y with
 | inl y =>
   obtain ⟨rfl,rfl,rfl,rfl,hq⟩:=hq
   exact ⟨s1,_,t1,s2,_,t2,s3,_,t3,h0,hb,trP_pA hq⟩
 | inr n =>
   obtain ⟨rfl,rfl,rfl,rfl⟩:=hq
   exact ⟨s1,_,t1,s2,_,t2,s3,_,t3,h0,hb,s1,t1,s2,t2,s3,t3,rfl,.inl rfl,.inl rfl,.inl rfl⟩
theorem okP_yOf {x:Pg} (hx:okP x) (f t:ByteArray):okP (yOf (renY x f t)):=by
 have h0:okP ⟨[],[],[]⟩:=⟨Nat.zero_le _,Nat.zero_le _,Nat.zero_le _,fun t ht=>by cases ht⟩
 unfold renY
 cases rP x with
 | false=>exact h0
 | true =>
   cases (nameB t && !hasN x t) with
   | false=>exact h0
   | true=>exact okP_ren hx
structure N9 (x y:Pg) (w:World) (a1 a2 a3 s1 s2 s3 u1 u2 u3:Option Addr) (n1 n2 n3 c1 c2 c3 m1 m2 m3 t1 t2 t3 k1 k2 k3 v1 v2 v3 ga gb:Nat) (W:World):Prop where
 op:Own W w.heap.size 25 #[.slice a1 n1 c1,.slice a2 n2 c2,.slice a3 n3 c3]
 oa:Own W ga 25 #[.slice s1 m1 t1,.slice s2 m2 t2,.slice s3 m3 t3]
 ob:Own W gb 25 #[.slice u1 k1 v1,.slice u2 k2 v2,.slice u3 k3 v3]
 px:pA W x (.agg #[.slice a1 n1 c1,.slice a2 n2 c2,.slice a3 n3 c3])
 pa:pA W y (.agg #[.slice s1 m1 t1,.slice s2 m2 t2,.slice s3 m3 t3])
 pb:pA W y (.agg #[.slice u1 k1 v1,.slice u2 k2 v2,.slice u3 k3 v3])
 tt:WTb W
 bel:Below w.heap.size w W
section
variable {x y:Pg} {w W W':World} {a1 a2 a3 s1 s2 s3 u1 u2 u3:Option Addr} {n1 n2 n3 c1 c2 c3 m1 m2 m3 t1 t2 t3 k1 k2 k3 v1 v2 v3 ga gb:Nat}
theorem N9.below (h:N9 x y w a1 a2 a3 s1 s2 s3 u1 u2 u3 n1 n2 n3 c1 c2 c3 m1 m2 m3 t1 t2 t3 k1 k2 k3 v1 v2 v3 ga gb W) (hb:Below W.heap.size W W'):N9 x y w a1 a2 a3 s1 s2 s3 u1 u2 u3 n1 n2 n3 c1 c2 c3 m1 m2 m3 t1 t2 t3 k1 k2 k3 v1 v2 v3 ga gb W' :=
 ⟨h.op.below hb,h.oa.below hb,h.ob.below hb,pA_below h.px hb,pA_below h.pa hb,pA_below h.pb hb,h.tt.below hb,h.bel.trans (hb.mono h.bel.size)⟩
theorem n9_s (h:N9 x y w a1 a2 a3 s1 s2 s3 u1 u2 u3 n1 n2 n3 c1 c2 c3 m1 m2 m3 t1 t2 t3 k1 k2 k3 v1 v2 v3 ga gb W):(W.cell? ⟨w.heap.size,0,none⟩=some (.slice a1 n1 c1)∧W.cell? ⟨w.heap.size,1,none⟩=some (.slice a2 n2 c2)∧W.cell? ⟨w.heap.size,2,none⟩=some (.slice a3 n3 c3)∧W.cell? ⟨ga,0,none⟩=some (.slice s1 m1 t1)∧W.cell? ⟨ga,1,none⟩=some (.slice s2 m2 t2)∧W.cell? ⟨ga,2,none⟩=some (.slice s3 m3 t3)∧W.cell? ⟨gb,0,none⟩=some (.slice u1 k1 v1)∧W.cell? ⟨gb,1,none⟩=some (.slice u2 k2 v2)∧W.cell? ⟨gb,2,none⟩=some (.slice u3 k3 v3))∧N9 x y w a1 a2 a3 s1 s2 s3 u1 u2 u3 n1 n2 n3 c1 c2 c3 m1 m2 m3 t1 t2 t3 k1 k2 k3 v1 v2 v3 ga gb W :=
 ⟨⟨by rw [cell_of_row _ _ 0 _ _ _ h.op];rfl,by rw [cell_of_row _ _ 1 _ _ _ h.op];rfl,by rw [cell_of_row _ _ 2 _ _ _ h.op];rfl,by rw [cell_of_row _ _ 0 _ _ _ h.oa];rfl,by rw [cell_of_row _ _ 1 _ _ _ h.oa];rfl,by rw [cell_of_row _ _ 2 _ _ _ h.oa];rfl,by rw [cell_of_row _ _ 0 _ _ _ h.ob];rfl,by rw [cell_of_row _ _ 1 _ _ _ h.ob];rfl,by rw [cell_of_row _ _ 2 _ _ _ h.ob];rfl⟩,h⟩
theorem n9_sb (h:(W.cell? ⟨w.heap.size,0,none⟩=some (.slice a1 n1 c1)∧W.cell? ⟨w.heap.size,1,none⟩=some (.slice a2 n2 c2)∧W.cell? ⟨w.heap.size,2,none⟩=some (.slice a3 n3 c3)∧W.cell? ⟨ga,0,none⟩=some (.slice s1 m1 t1)∧W.cell? ⟨ga,1,none⟩=some (.slice s2 m2 t2)∧W.cell? ⟨ga,2,none⟩=some (.slice s3 m3 t3)∧W.cell? ⟨gb,0,none⟩=some (.slice u1 k1 v1)∧W.cell? ⟨gb,1,none⟩=some (.slice u2 k2 v2)∧W.cell? ⟨gb,2,none⟩=some (.slice u3 k3 v3))∧N9 x y w a1 a2 a3 s1 s2 s3 u1 u2 u3 n1 n2 n3 c1 c2 c3 m1 m2 m3 t1 t2 t3 k1 k2 k3 v1 v2 v3 ga gb W) (hb:Below W.heap.size W W'):(W'.cell? ⟨w.heap.size,0,none⟩=some (.slice a1 n1 c1)∧W'.cell? ⟨w.heap.size,1,none⟩=some (.slice a2 n2 c2)∧W'.cell? ⟨w.heap.size,2,none⟩=some (.slice a3 n3 c3)∧W'.cell? ⟨ga,0,none⟩=some (.slice s1 m1 t1)∧W'.cell? ⟨ga,1,none⟩=some (.slice s2 m2 t2)∧W'.cell? ⟨ga,2,none⟩=some (.slice s3 m3 t3)∧W'.cell? ⟨gb,0,none⟩=some (.slice u1 k1 v1)∧W'.cell? ⟨gb,1,none⟩=some (.slice u2 k2 v2)∧W'.cell? ⟨gb,2,none⟩=some (.slice u3 k3 v3))∧N9 x y w a1 a2 a3 s1 s2 s3 u1 u2 u3 n1 n2 n3 c1 c2 c3 m1 m2 m3 t1 t2 t3 k1 k2 k3 v1 v2 v3 ga gb W':=n9_s (h.2.below hb)
theorem n9_drew (h:N9 x y w a1 a2 a3 s1 s2 s3 u1 u2 u3 n1 n2 n3 c1 c2 c3 m1 m2 m3 t1 t2 t3 k1 k2 k3 v1 v2 v3 ga gb W):(W.drew.cell? ⟨w.heap.size,0,none⟩=some (.slice a1 n1 c1)∧W.drew.cell? ⟨w.heap.size,1,none⟩=some (.slice a2 n2 c2)∧W.drew.cell? ⟨w.heap.size,2,none⟩=some (.slice a3 n3 c3)∧W.drew.cell? ⟨ga,0,none⟩=some (.slice s1 m1 t1)∧W.drew.cell? ⟨ga,1,none⟩=some (.slice s2 m2 t2)∧W.drew.cell? ⟨ga,2,none⟩=some (.slice s3 m3 t3)∧W.drew.cell? ⟨gb,0,none⟩=some (.slice u1 k1 v1)∧W.drew.cell? ⟨gb,1,none⟩=some (.slice u2 k2 v2)∧W.drew.cell? ⟨gb,2,none⟩=some (.slice u3 k3 v3))∧N9 x y w a1 a2 a3 s1 s2 s3 u1 u2 u3 n1 n2 n3 c1 c2 c3 m1 m2 m3 t1 t2 t3 k1 k2 k3 v1 v2 v3 ga gb W.drew:=n9_s (h.below (below_drewN (Below.refl _ W) 1))
end
theorem names_walk (x:Pg) (okx:PrOk x) (fx:fitP x) (hct:ctP x≤1048576) (f t:ByteArray) (ht:nmOk t) {v:Value} {w:World} (hx:pA w x v) (TT:WTb w) :
 Calls Tryz.prog 3 #[v,.string f,.string t] w fun e w'=>e=.returned (.bool true)∧Below w.heap.size w w':=by
 have HBG:Hid (∀ W,WTb W→Calls Tryz.prog 12 #[] W fun e w'=>e=.returned (.bool true)∧Below W.heap.size W w'):=fun W T=>p_begins4 T
 have HRN:Hid (∀ W v,pA W x v→WTb W→Calls Tryz.prog 6 #[v,.string f,.string t] W (RnZ (renY x f t) W)):=fun W v h T=>p_RenameZ x okx fx hct f t ht h T
 have HRR:Hid (∀ W v,pA W x v→Calls Tryz.prog 7 #[v,.string f,.string t] W (RnZ (renY x f t) W)):=fun W v h=>r_Rename x okx fx hct f t ht h
 have HNX:Hid (∀ W v,pA W x v→Calls Tryz.prog 9 #[v] W (NmsP x W)):=fun W v h=>p_Names x fx okx.1 hct h
 have HNR:Hid (∀ W v,pA W x v→Calls Tryz.prog 10 #[v] W (NmR (nmP x) W)):=fun W v h=>r_NamesC x hct h
 have hoy:=okP_yOf okx.1 f t
 obtain ⟨Y,hY⟩:∃ Y,Y=renY x f t:=⟨_,rfl⟩
 rw [← hY] at HRN HRR hoy
 have HEX:Hid (∀ X v u,pA X (yOf Y) v→pA X (yOf Y) u→Calls Tryz.prog 11 #[v,u] X fun e w'=>e=.returned (.bool true)∧Below X.heap.size X w'):=fun X v u h1 h2=>r_Exactly (yOf Y) hoy h1 h2
 have HX:=Lib.hid hx
 obtain ⟨a1,c1,a2,c2,a3,c3,rfl,_⟩:=hx
 obtain ⟨n1,hn1⟩:∃ n,n=x.shared.length:=⟨_,rfl⟩
 obtain ⟨n2,hn2⟩:∃ n,n=x.locks.length:=⟨_,rfl⟩
 obtain ⟨n3,hn3⟩:∃ n,n=x.threads.length:=⟨_,rfl⟩
 rw [← hn1,← hn2,← hn3] at HX ⊢
 have hbel:Below w.heap.size w (w.alloc (.cells #[.slice a1 n1 c1,.slice a2 n2 c2,.slice a3 n3 c3] 25)):=(Below.refl _ w).alloc (Nat.le_refl _) _
 have O1:=Own.new w 25 #[.slice a1 n1 c1,.slice a2 n2 c2,.slice a3 n3 c3]
 have HT:=Lib.hid (TT.below hbel)
 replace HX:=Lib.hid (pA_below HX.out hbel)
 obtain ⟨W0,hW0⟩:∃ W,W=w.alloc (.cells #[.slice a1 n1 c1,.slice a2 n2 c2,.slice a3 n3 c3] 25):=⟨_,rfl⟩
 rw [← hW0] at hbel O1 HT HX
 have HB0:=Lib.hid hbel
 have HW0:=Lib.hid hW0
 have HO1:=Lib.hid O1
 clear hW0 hbel TT okx fx hct ht hn1 hn2 hn3 hoy hY
 go_enter Tryz.func3,Tryz.ntmps3
 go_upto_region 1 with (fail)
 rw [← HW0.out]
 clear HW0
 go_wp2_with (refine ld rowPg rfl rfl rfl O1 rfl ?_)
 go_at_call 6
 refine (HRN.out _ _ HX.out HT.out).mono ?_
 rintro e w2 hrn
 obtain ⟨s1,m1,t1,s2,m2,t2,s3,m3,t3,rfl,hb,hpa⟩:=rn_use hrn
 have Z1:=Own.new w2 25 #[.slice none 0 0,.slice none 0 0,.slice none 0 0]
 have B3:=Below.of_row ((Below.refl w2.heap.size w2).alloc (Nat.le_refl _) (.cells #[.slice none 0 0,.slice none 0 0,.slice none 0 0] 25)) (g:=w2.heap.size) (Nat.le_refl _) #[.slice s1 m1 t1,.slice s2 m2 t2,.slice s3 m3 t3]
 have HO1:Hid (Own ((w2.alloc (.cells #[.slice none 0 0,.slice none 0 0,.slice none 0 0] 25)).setRow w2.heap.size #[.slice s1 m1 t1,.slice s2 m2 t2,.slice s3 m3 t3]) w.heap.size 25 #[.slice a1 n1 c1,.slice a2 n2 c2,.slice a3 n3 c3]):=(HO1.out.below hb).below B3
 have HOA:Hid (Own ((w2.alloc (.cells #[.slice none 0 0,.slice none 0 0,.slice none 0 0] 25)).setRow w2.heap.size #[.slice s1 m1 t1,.slice s2 m2 t2,.slice s3 m3 t3]) w2.heap.size 25 #[.slice s1 m1 t1,.slice s2 m2 t2,.slice s3 m3 t3]):=Z1.row _
 have HT:Hid (WTb ((w2.alloc (.cells #[.slice none 0 0,.slice none 0 0,.slice none 0 0] 25)).setRow w2.heap.size #[.slice s1 m1 t1,.slice s2 m2 t2,.slice s3 m3 t3])):=(HT.out.below hb).below B3
 have HX:Hid (pA ((w2.alloc (.cells #[.slice none 0 0,.slice none 0 0,.slice none 0 0] 25)).setRow w2.heap.size #[.slice s1 m1 t1,.slice s2 m2 t2,.slice s3 m3 t3]) x (.agg #[.slice a1 n1 c1,.slice a2 n2 c2,.slice a3 n3 c3])):=pA_below (pA_below HX.out hb) B3
 have HPA:Hid (pA ((w2.alloc (.cells #[.slice none 0 0,.slice none 0 0,.slice none 0 0] 25)).setRow w2.heap.size #[.slice s1 m1 t1,.slice s2 m2 t2,.slice s3 m3 t3]) (yOf Y) (.agg #[.slice s1 m1 t1,.slice s2 m2 t2,.slice s3 m3 t3])):=pA_below hpa B3
 have HB0:Hid (Below w.heap.size w ((w2.alloc (.cells #[.slice none 0 0,.slice none 0 0,.slice none 0 0] 25)).setRow w2.heap.size #[.slice s1 m1 t1,.slice s2 m2 t2,.slice s3 m3 t3])):=(HB0.out.trans (hb.mono HB0.out.size)).trans (B3.mono (by have:=HB0.out.size;have:=hb.size;omega))
 obtain ⟨W3,hW3⟩:∃ W,W=(w2.alloc (.cells #[.slice none 0 0,.slice none 0 0,.slice none 0 0] 25)).setRow w2.heap.size #[.slice s1 m1 t1,.slice s2 m2 t2,.slice s3 m3 t3]:=⟨_,rfl⟩
 rw [← hW3] at HO1 HOA HT HX HPA HB0
 have HW3:=Lib.hid hW3
 clear hW3 hb hpa hrn B3 O1 HRN
 go_upto_region 2 with (refine Go.Proofs.YtimccjlhhjjcpaaGreatDoor.st rowPg rfl rfl Z1 rfl rfl (by rfl) (by rfl) (by kernel_rfl) ?_)
 rw [← HW3.out]
 clear HW3 Z1
 generalize w2.heap.size=ga at HOA ⊢
 have O1:=HO1.out
 go_wp2_with (refine ld rowPg rfl rfl rfl O1 rfl ?_)
 go_at_call 7
 refine (HRR.out _ _ HX.out).mono ?_
 rintro e w4 hrn
 obtain ⟨u1,k1,v1,u2,k2,v2,u3,k3,v3,rfl,hb,hpb⟩:=rn_use hrn
 have Z2:=Own.new w4 25 #[.slice none 0 0,.slice none 0 0,.slice none 0 0]
 have B5:=Below.of_row ((Below.refl w4.heap.size w4).alloc (Nat.le_refl _) (.cells #[.slice none 0 0,.slice none 0 0,.slice none 0 0] 25)) (g:=w4.heap.size) (Nat.le_refl _) #[.slice u1 k1 v1,.slice u2 k2 v2,.slice u3 k3 v3]
 have HN9:Hid (N9 x (yOf Y) w a1 a2 a3 s1 s2 s3 u1 u2 u3 n1 n2 n3 c1 c2 c3 m1 m2 m3 t1 t2 t3 k1 k2 k3 v1 v2 v3 ga w4.heap.size ((w4.alloc (.cells #[.slice none 0 0,.slice none 0 0,.slice none 0 0] 25)).setRow w4.heap.size #[.slice u1 k1 v1,.slice u2 k2 v2,.slice u3 k3 v3])) :=
  ⟨(HO1.out.below hb).below B5,(HOA.out.below hb).below B5,Z2.row _,pA_below (pA_below HX.out hb) B5,pA_below (pA_below HPA.out hb) B5,pA_below hpb B5,(HT.out.below hb).below B5,(HB0.out.trans (hb.mono HB0.out.size)).trans (B5.mono (by have:=HB0.out.size;have:=hb.size;omega))⟩
 obtain ⟨W5,hW5⟩:∃ W,W=(w4.alloc (.cells #[.slice none 0 0,.slice none 0 0,.slice none 0 0] 25)).setRow w4.heap.size #[.slice u1 k1 v1,.slice u2 k2 v2,.slice u3 k3 v3]:=⟨_,rfl⟩
 rw [← hW5] at HN9
 have HW5:=Lib.hid hW5
 clear hW5 hb hpb hrn B5 O1 HRR HO1 HOA HT HX HPA HB0
 go_upto_region 3 with (refine Go.Proofs.YtimccjlhhjjcpaaGreatDoor.st rowPg rfl rfl Z2 rfl rfl (by rfl) (by rfl) (by kernel_rfl) ?_)
 rw [← HW5.out]
 clear HW5 Z2
 generalize w4.heap.size=gb at HN9 ⊢
 obtain ⟨z,hz⟩:∃ z,z=zOf Y:=⟨_,rfl⟩
 rw [← hz]
 have hzz:(z==z)=true:=by simp
 clear hz
 have H1:Hid (∀ X,((X.cell? ⟨w.heap.size,0,none⟩=some (.slice a1 n1 c1)∧X.cell? ⟨w.heap.size,1,none⟩=some (.slice a2 n2 c2)∧X.cell? ⟨w.heap.size,2,none⟩=some (.slice a3 n3 c3)∧X.cell? ⟨ga,0,none⟩=some (.slice s1 m1 t1)∧X.cell? ⟨ga,1,none⟩=some (.slice s2 m2 t2)∧X.cell? ⟨ga,2,none⟩=some (.slice s3 m3 t3)∧X.cell? ⟨gb,0,none⟩=some (.slice u1 k1 v1)∧X.cell? ⟨gb,1,none⟩=some (.slice u2 k2 v2)∧X.cell? ⟨gb,2,none⟩=some (.slice u3 k3 v3))∧N9 x (yOf Y) w a1 a2 a3 s1 s2 s3 u1 u2 u3 n1 n2 n3 c1 c2 c3 m1 m2 m3 t1 t2 t3 k1 k2 k3 v1 v2 v3 ga gb X)→Calls Tryz.prog 9 #[.agg #[.slice a1 n1 c1,.slice a2 n2 c2,.slice a3 n3 c3]] X (NmsP x X)):=fun X h=>HNX.out X _ h.2.px
 have H2:Hid (∀ X,((X.cell? ⟨w.heap.size,0,none⟩=some (.slice a1 n1 c1)∧X.cell? ⟨w.heap.size,1,none⟩=some (.slice a2 n2 c2)∧X.cell? ⟨w.heap.size,2,none⟩=some (.slice a3 n3 c3)∧X.cell? ⟨ga,0,none⟩=some (.slice s1 m1 t1)∧X.cell? ⟨ga,1,none⟩=some (.slice s2 m2 t2)∧X.cell? ⟨ga,2,none⟩=some (.slice s3 m3 t3)∧X.cell? ⟨gb,0,none⟩=some (.slice u1 k1 v1)∧X.cell? ⟨gb,1,none⟩=some (.slice u2 k2 v2)∧X.cell? ⟨gb,2,none⟩=some (.slice u3 k3 v3))∧N9 x (yOf Y) w a1 a2 a3 s1 s2 s3 u1 u2 u3 n1 n2 n3 c1 c2 c3 m1 m2 m3 t1 t2 t3 k1 k2 k3 v1 v2 v3 ga gb X)→Calls Tryz.prog 10 #[.agg #[.slice a1 n1 c1,.slice a2 n2 c2,.slice a3 n3 c3]] X (NmR (nmP x) X)):=fun X h=>HNR.out X _ h.2.px
 have H3:Hid (∀ X,((X.cell? ⟨w.heap.size,0,none⟩=some (.slice a1 n1 c1)∧X.cell? ⟨w.heap.size,1,none⟩=some (.slice a2 n2 c2)∧X.cell? ⟨w.heap.size,2,none⟩=some (.slice a3 n3 c3)∧X.cell? ⟨ga,0,none⟩=some (.slice s1 m1 t1)∧X.cell? ⟨ga,1,none⟩=some (.slice s2 m2 t2)∧X.cell? ⟨ga,2,none⟩=some (.slice s3 m3 t3)∧X.cell? ⟨gb,0,none⟩=some (.slice u1 k1 v1)∧X.cell? ⟨gb,1,none⟩=some (.slice u2 k2 v2)∧X.cell? ⟨gb,2,none⟩=some (.slice u3 k3 v3))∧N9 x (yOf Y) w a1 a2 a3 s1 s2 s3 u1 u2 u3 n1 n2 n3 c1 c2 c3 m1 m2 m3 t1 t2 t3 k1 k2 k3 v1 v2 v3 ga gb X)→Calls Tryz.prog 11 #[.agg #[.slice s1 m1 t1,.slice s2 m2 t2,.slice s3 m3 t3],.agg #[.slice u1 k1 v1,.slice u2 k2 v2,.slice u3 k3 v3]] X fun e w'=>e=.returned (.bool true)∧Below X.heap.size X w'):=fun X h=>HEX.out X _ _ h.2.pa h.2.pb
 have H4:Hid (∀ X,((X.cell? ⟨w.heap.size,0,none⟩=some (.slice a1 n1 c1)∧X.cell? ⟨w.heap.size,1,none⟩=some (.slice a2 n2 c2)∧X.cell? ⟨w.heap.size,2,none⟩=some (.slice a3 n3 c3)∧X.cell? ⟨ga,0,none⟩=some (.slice s1 m1 t1)∧X.cell? ⟨ga,1,none⟩=some (.slice s2 m2 t2)∧X.cell? ⟨ga,2,none⟩=some (.slice s3 m3 t3)∧X.cell? ⟨gb,0,none⟩=some (.slice u1 k1 v1)∧X.cell? ⟨gb,1,none⟩=some (.slice u2 k2 v2)∧X.cell? ⟨gb,2,none⟩=some (.slice u3 k3 v3))∧N9 x (yOf Y) w a1 a2 a3 s1 s2 s3 u1 u2 u3 n1 n2 n3 c1 c2 c3 m1 m2 m3 t1 t2 t3 k1 k2 k3 v1 v2 v3 ga gb X)→Calls Tryz.prog 12 #[] X fun e w'=>e=.returned (.bool true)∧Below X.heap.size X w'):=fun X h=>HBG.out X h.2.tt
 clear HNX HNR HEX HBG
 go_region_held3 (fun X=>(X.cell? ⟨w.heap.size,0,none⟩=some (.slice a1 n1 c1)∧X.cell? ⟨w.heap.size,1,none⟩=some (.slice a2 n2 c2)∧X.cell? ⟨w.heap.size,2,none⟩=some (.slice a3 n3 c3)∧X.cell? ⟨ga,0,none⟩=some (.slice s1 m1 t1)∧X.cell? ⟨ga,1,none⟩=some (.slice s2 m2 t2)∧X.cell? ⟨ga,2,none⟩=some (.slice s3 m3 t3)∧X.cell? ⟨gb,0,none⟩=some (.slice u1 k1 v1)∧X.cell? ⟨gb,1,none⟩=some (.slice u2 k2 v2)∧X.cell? ⟨gb,2,none⟩=some (.slice u3 k3 v3))∧N9 x (yOf Y) w a1 a2 a3 s1 s2 s3 u1 u2 u3 n1 n2 n3 c1 c2 c3 m1 m2 m3 t1 t2 t3 k1 k2 k3 v1 v2 v3 ga gb X) (first | exact n9_drew HN9.out | exact n9_sb (by assumption) (by assumption)) (first
  | (go_at_call 9
     refine (H1.out _ (by assumption)).mono ?_
     rintro e w6 ⟨la,l,lc,rfl,hNL,hl2,hsh,hst,hb⟩)
  | (go_at_call 10
     refine (H2.out _ (by assumption)).mono ?_
     rintro e w7 ⟨mbs,m,mv,rfl,hls,hNM,hb⟩
     obtain ⟨ma,mc,hmv,hstm⟩:=strsAt_row hls.2
     have hml:m=l:=nl_one (L:=nmP x) hNM.1 hNL.1 (fun s=>(hNM.2 s).trans (hNL.2 s).symm)
     rw [hml] at hmv hstm
     subst hmv
     have hstl:=strsAt_below hst hb
     clear hls)
  | (go_at_call 8
     refine (r_Strings hstl hstm hl2).mono ?_
     rintro e w8 ⟨rfl,hb⟩)
  | (go_at_call 11
     refine (H3.out _ (by assumption)).mono ?_
     rintro e w9 ⟨rfl,hb⟩)
  | (go_at_call 12
     refine (H4.out _ (by assumption)).mono ?_
     rintro e w10 ⟨rfl,hb⟩))
 have HF:=Lib.hid (N9.bel (And.right (by assumption:_∧N9 x (yOf Y) w a1 a2 a3 s1 s2 s3 u1 u2 u3 n1 n2 n3 c1 c2 c3 m1 m2 m3 t1 t2 t3 k1 k2 k3 v1 v2 v3 ga gb _)))
 go_wp2_with fail
 go_ret
 exact ⟨rfl,HF.out⟩
open Go.ChangeShapes Go.WideShapes Go.ChangeAt Go.WideMaps Go.WideElems Go.RowKit Go.ChangeShapes
set_option linter.unusedVariables false
theorem laidOut:laidOutB Tryz.prog=true:=by kernel_rfl
theorem law_post_at {H:Type} {enc:TypeId × Value→H} {P:Program} {f:Func} {s:ChangeSpec} {W W':World} {args:Array Value} {tb:TypeId} {ds:List (DataW H)} {ps:List MemPlace}
 (hW:DataW.Whole enc P f.params.toList s.vars false W args.toList ds [] ps) (hres:f.resultTypes=#[tb]) (hb:P.underlying tb=some .bool)
 (hvars:s.vars=[]) (hfn:(s.fn H (ds++[])).results=[.lit (.bool true)]) (hfa:(s.fn H (ds++[])).args=ds) (hfv:(s.fn H (ds++[])).vars=[])
 (hargs:∀ sp:Nat→Bool,(∀ p∈ps,sp p.block=true)→DataW.TrodAll enc P W' 0 sp true f.params.toList args.toList ds ps)
 (hk:Below W.heap.size W W'):s.post enc P f false true false false W args (.bool true) W':=by
 have hr:∀ (b:Nat) (sp:Nat→Bool) (hd:Bool),DataW.TrodAll enc P W' b sp hd f.resultTypes.toList ((Value.bool true).resultList f.resultTypes.size) (s.fn H (ds++[])).results []:=fun b sp hd=>by
  rw [hfn,hres]
  exact trodAll_mk1 (shut_bool hb _)
 have ha:∀ sp:Nat→Bool,(∀ p∈ps,sp p.block=true)→DataW.TrodAll enc P W' 0 sp true f.params.toList args.toList (s.fn H (ds++[])).args ps:=fun sp hsp=>by
  rw [hfa];exact hargs sp hsp
 have hv:∀ sp:Nat→Bool,DataW.TrodVars enc P W' sp s.vars (s.fn H (ds++[])).vars []:=fun sp=>by
  rw [hvars,hfv];rfl
 have hold:∀ p∈ps,(fun b=>decide (b<W.heap.size)) p.block=true:=fun p hp=>by simpa using hW.lt p hp
 have hW2:=hW
 obtain ⟨_,_,_,_,_,hz,hn⟩:=hW2
 refine ⟨ds,[],ps,[],ps,[],hW,hr _ _ _,ha _ hold,hv _,World.keptBut_mono (fun p hp=>⟨hp,Or.inr (Or.inl hp)⟩) (hk.frame (· ∈ ps)),fun _=>?_⟩
 refine ⟨ok_one hres rfl (okWide_bool_mk hb _),_,_,([]++ps)++[],⟨[]++ps,[],trodAll_append (ha _ (fun _ _=>rfl)) (hr _ _ _),hv _,rfl,?_,?_⟩,?_⟩
 · intro b off hp
   have hp':MemPlace.cell b off∈ps:=by simpa using hp
   rw [hk.frozen (p:=⟨b,off,none⟩) (hW.lt _ hp')]
   exact hz b off hp'
 · intro hx;cases hx
 · intro p hp _
   simpa using hp
open Go.RowKit
set_option linter.unusedVariables false
theorem lenDs (l:List Dc):l.length≤bkDs l:=by rw [← sumD];exact sum_len (fun x=>by unfold bkD;omega) l
theorem memT {l:List Th} {t:Th} (h:t∈l):bkT t≤bkTs l:=by
 induction l with
 | nil=>cases h
 | cons x r ih =>
   simp only [bkTs]
   rcases List.mem_cons.1 h with rfl | h
   · omega
   · have:=ih h;omega
theorem lenP_of {x:Pg} (h:bkP x≤1048576):lenP x:=by
 unfold bkP at h
 have h1:=lenDs x.shared
 have h2:=lenDs x.locks
 refine ⟨by omega,by omega,fun t ht=>?_⟩
 have h3:=memT ht
 have h4:=lenDs t.locals
 unfold bkT at h3
 omega
open Go.ChangeShapes Go.WideShapes Go.ChangeAt Go.WideMaps Go.WideElems Go.RowKit
set_option linter.unusedVariables false
abbrev PLS:List (String × DataW Unit):=[("math/bits.deBruijn32tab",Rows.laid_math_bits_deBruijn32tab),("math/bits.deBruijn64tab",Rows.laid_math_bits_deBruijn64tab),("internal/strconv.uint64pow10",Rows.laid_internal_strconv_uint64pow10),("stile/words.levels",Rows.laid_stile_words_levels),("stile/words.signs",Rows.laid_stile_words_signs),("stile/lexer.languageWords",Rows.laid_stile_lexer_languageWords),("stile/pretty.shapes",Rows.laid_stile_pretty_shapes)]
theorem wts_of_laid {W:World} (h:laidMetH Tryz.prog PLS W):WTb W:=by
 rw [MakeChecks.laidMetH_plain _ _ _ (by kernel_rfl)] at h
 obtain ⟨ps,h,_⟩:=h
 exact wtb_of_vars h (by simp) (by simp) ⟨lnm_of_vars h (by simp),tabs_of_vars h (by simp) (by simp)⟩
theorem sdoor_met (os:Os) (args:Array Value):laidMetH Tryz.prog PLS ((World.doorLaid Tryz.prog 400 os).forCall (fun _ _=>0) ⟨#[],args,[]⟩).memory :=
 laidMetH_of_parts3 (fuel:=8) (laidMet_of_run' 8 (by kernel_rfl) (by kernel_rfl)) (by kernel_rfl) (by kernel_rfl)
end Go.Proofs.YtimccjlhhjjcpaaGreatDoor

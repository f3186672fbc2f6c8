/- The proof, part 27: texts that belong together, in one. -/
import Derived.Test.YtieeaehabjjaoaaGreatDoorHAZ
import Derived.Test.YtieeaehabjjaoaaGreatDoorHAN
import Derived.Test.YtieeaehabjjaoaaGreatDoorHAW
set_option maxRecDepth 100000
set_option maxHeartbeats 20000000
namespace Go.Proofs.YtieeaehabjjaoaaGreatDoor
open Go.RowKit
set_option linter.unusedVariables false
set_option maxRecDepth 100000
def uDs (word:ByteArray) (l:List Dc):List UInt8:=word.data.toList++cat (dParts spS l)
theorem uDs_nil (word:ByteArray):uDs word []=word.data.toList:=by simp [uDs,dParts,cat]
theorem uDs_snoc (word:ByteArray) (l:List Dc) (d:Dc):uDs word (l++[d])=uDs word l++(if l.length=0 then [] else [44])++([32]++d.name.data.toList)++(if d.wd=0 then [] else [32,61,32]++Lib.itoa d.wd):=by
 unfold uDs
 rw [dParts_snoc,cat_append,← List.append_assoc]
 have e:cat (dPart (if l.length=0 then spS else cmS) d)=(if l.length=0 then [] else [44])++([32]++d.name.data.toList)++(if d.wd=0 then [] else [32,61,32]++Lib.itoa d.wd):=by
  unfold dPart
  by_cases h1:l.length=0
  · rw [if_pos h1, if_pos h1]
    by_cases h2:d.wd=0
    · rw [if_pos h2,if_pos h2];simp [cat,spS]
    · rw [if_neg h2,if_neg h2];simp [cat,spS,eqS,itoaS]
  · rw [if_neg h1, if_neg h1]
    by_cases h2:d.wd=0
    · rw [if_pos h2,if_pos h2];simp [cat,cmS]
    · rw [if_neg h2,if_neg h2];simp [cat,cmS,eqS,itoaS]
 rw [e]
 simp only [List.append_assoc]
theorem uDs_all (word:ByteArray) {l:List Dc} (h:l.length≠0):tDs word l 0=uDs word l++[59,10]:=by
 unfold tDs uDs
 rw [if_neg h,cat_cons,cat_append,show marg 0=[] from rfl]
 simp [cat,smS]
theorem uDs_marg (word:ByteArray) (l:List Dc) (d:Nat) (h:l.length≠0):tDs word l d=marg d++tDs word l 0:=by
 unfold tDs
 rw [if_neg h,if_neg h,show marg 0=[] from rfl,List.nil_append,List.append_assoc]
theorem u_decls {l:List Dc} (hlen:l.length≤1073741824) (hnm:∀ d∈l,d.name.size≤1000 ∧ -9223372036854775808≤d.wd∧d.wd≤9223372036854775807) {word:ByteArray} (hwz:word.size≤140737488289792) {a:Option Addr} {c:Nat} {w0 w:World} {b:Nat} {txt:List UInt8} (h1:dcsAt (fun _=>True) w0 l a) (hb0:b=w0.heap.size) (hbw:Below b w0 w) (hw:Ux b txt w) :
 Calls Tryz.prog 22 #[.pointer (some ⟨b,0,none⟩),.string word,.slice a l.length c] w (UPut b txt (tDs word l 0) w):=by
 have HPR:Hid (∀ n W,-9223372036854775808≤n∧n≤9223372036854775807→Calls Tryz.prog 51 #[.int .i64 n] W fun e w'=>e=.returned (.string (itoaS n))∧Below W.heap.size W w'):=fun n W hn=>rprint_any n hn.1 hn.2 W
 have HP:Hid (∀ t W s,Uv w0 w b t W→s.size≤140737488289792→Calls Tryz.prog 23 #[.pointer (some ⟨b,0,none⟩),.string s] W fun e W'=>e=.returned (.tuple #[])∧Uv w0 w b (t++s.data.toList) W'):=fun t W s h hs=>uv_putc h s hs
 have HWZ:=Lib.hid hwz
 have HNM:=Lib.hid hnm
 have E1:=Lib.hid h1
 have HV:=Lib.hid (uv_new hw hbw)
 have HB0:=Lib.hid hb0
 obtain ⟨n,hn⟩:∃ n,n=l.length:=⟨_,rfl⟩
 rw [← hn] at hlen ⊢
 have HN:=Lib.hid hn
 obtain ⟨tx,htx⟩:∃ t,t=tDs word l 0:=⟨_,rfl⟩
 rw [← htx]
 have HTX:=Lib.hid htx
 clear h1 hb0 hbw hw hn hnm hwz htx
 by_cases hn0:n=0
 · subst hn0
   have hF:UPut b txt tx w (.returned (.tuple #[])) w:=uv_done (by
    rw [HTX.out,tDs,if_pos HN.out.symm,List.append_nil]
    exact HV.out)
   have HF:=Lib.hid hF
   clear hF
   go_enter Tryz.func22,Tryz.ntmps22
   go_wp2_with fail
   exact bodyPost_ret (results_none rfl _ _ _) rfl HF.out
 replace HTX:Hid (tx=uDs word l++[59,10]):=by rw [Hid,HTX.out,uDs_all word (by have:=HN.out;omega)]
 have hn1:¬ ((n:Int)=0):=by omega
 have hn2:((n:Int)==0)=false:=by simpa using hn0
 go_enter Tryz.func22,Tryz.ntmps22
 go_wp2_with fail
 go_at_call 23
 refine (HP.out _ _ _ HV.out HWZ.out).mono ?_
 rintro e w1 ⟨rfl,hx⟩
 have HX0:=Lib.hid hx
 clear hx HV hn1 hn2
 go_wp2_with fail
 go_loopg [6] (n+1) (fun m' u W=>∃ i:Nat,u=.int .i64 (i:Int)∧i≤n∧m'=n-i+1∧Uv w0 w b (txt++uDs word (l.take i)) W)
 case atStart=>exact ⟨0,rfl,Nat.zero_le _,by omega,by rw [List.take_zero,uDs_nil];exact HX0.out⟩
 case round =>
  clear HX0
  obtain ⟨i,rfl,hi,hm,hx⟩:=hrel
  have HM:=Lib.hid hm
  have HX:=Lib.hid hx
  clear hm hx
  by_cases hin:i<n
  · have il : i < l.length := by have := HN.out; omega
    have g1:l[i]? = some l[i]:=List.getElem?_eq_getElem il
    have hmem:l[i]∈l:=List.getElem_mem il
    have htk:l.take (i+1)=l.take i++[l[i]]:=by rw [List.take_succ_eq_append_getElem il]
    have htl:(l.take i).length=i:=by rw [List.length_take];omega
    generalize l[i]=x at g1 hmem htk
    have hps:uDs word (l.take (i+1))=uDs word (l.take i)++(if i=0 then [] else [44])++([32]++x.name.data.toList)++(if x.wd=0 then [] else [32,61,32]++Lib.itoa x.wd):=by rw [htk,uDs_snoc,htl]
    rcases E1.out with e | ⟨g,q,e,_,e1⟩
    · cases l with
      | nil=>simp at il
      | cons=>cases e
    obtain rfl:a=some ⟨g,q,none⟩:=e
    have x1:=dcsIn_get i x e1 g1
    obtain ⟨nm,wd,ps⟩:=x
    obtain ⟨f0,f1,f2⟩:=x1
    have lg:=lt_of_at f0
    simp only at lg
    rw [← HB0.out] at lg
    have HLG:=Lib.hid lg
    have hin':(i:Int)<(n:Int):=by omega
    obtain ⟨hnz,hwd1,hwd2⟩:=HNM.out _ hmem
    change nm.size≤1000 at hnz
    have HWD:=Lib.hid (And.intro hwd1 hwd2)
    have HF0:=Lib.hid f0
    have HF1:=Lib.hid f1
    have HPS:=Lib.hid hps
    clear g1 e1 il hmem htk htl hps hwd1 hwd2 lg f0 f1 f2
    obtain ⟨ti,hti⟩:∃ t,t=txt++uDs word (l.take i):=⟨_,rfl⟩
    rw [← hti] at HX
    have HTI:=Lib.hid hti
    clear hti
    have HIZ:Hid ((itoaS wd).size≤140737488289000):=by
     rw [Hid]
     show (Lib.itoa wd).toArray.size≤_
     rw [List.size_toArray]
     have:=Lib.itoa_length_le wd HWD.out.1 HWD.out.2
     omega
    have hiz:=HIZ.out
    by_cases hz:wd=0
    · subst hz
      simp only [if_true] at HPS
      by_cases h0:i=0
      · replace HPS : Hid (uDs word (l.take (i + 1)) = uDs word (l.take i) ++ ([32] ++ nm.data.toList)) := by rw [Hid, HPS.out, if_pos h0]; simp
        have hi0:i=0:=by omega
        subst hi0
        have G0:=HF0.out
        have G1:=HF1.out
        simp only [Nat.zero_mul,Nat.add_zero] at G0 G1
        have f0:wr.cell? ⟨g,q,none⟩=some (.string nm):=(HX.out.2.1.cell (p:=⟨g,q,none⟩) HLG.out).trans G0
        clear G0
        go_wp2_with fail
        go_at_call 23
        refine (HP.out _ _ _ HX.out (by simp only [ByteArray.size_append];show 1+nm.size≤_;omega)).mono ?_
        rintro e w3 ⟨rfl,hx⟩
        have HX3:=Lib.hid hx
        clear hx f0
        have f1:w3.cell? ⟨g,q+1,none⟩=some (.int .i64 0):=(HX3.out.2.1.cell (p:=⟨g,q+1,none⟩) HLG.out).trans G1
        clear G1
        have HR:Hid (Uv w0 w b (txt++uDs word (l.take (0+1))) w3):=by
         have h:=HX3.out
         rw [HTI.out] at h
         simp only [app_data] at h
         rw [Hid,HPS.out]
         simp only [List.append_assoc] at h ⊢
         exact h
        clear HX HX3
        go_wp2_with fail
        go_roundg (n-(0+1)+1)
        case measure=>have:=HM.out;omega
        case rel=>exact ⟨0+1,by simp,by omega,by omega,HR.out⟩
      · replace HPS : Hid (uDs word (l.take (i + 1)) = uDs word (l.take i) ++ [44] ++ ([32] ++ nm.data.toList)) := by rw [Hid, HPS.out, if_neg h0]; simp
        have hi0:0<(i:Int):=by omega
        go_wp2_with fail
        go_at_call 23
        refine (HP.out _ _ _ HX.out (by decide)).mono ?_
        rintro e w2 ⟨rfl,hx⟩
        have HX2:=Lib.hid hx
        clear hx
        have G0:=HF0.out
        have G1:=HF1.out
        have f0:w2.cell? ⟨g,q+i*3,none⟩=some (.string nm):=(HX2.out.2.1.cell (p:=⟨g,q+i*3,none⟩) HLG.out).trans G0
        clear G0
        go_wp2_with fail
        go_at_call 23
        refine (HP.out _ _ _ HX2.out (by simp only [ByteArray.size_append];show 1+nm.size≤_;omega)).mono ?_
        rintro e w3 ⟨rfl,hx⟩
        have HX3:=Lib.hid hx
        clear hx f0
        have f1:w3.cell? ⟨g,q+i*3+1,none⟩=some (.int .i64 0):=(HX3.out.2.1.cell (p:=⟨g,q+i*3+1,none⟩) HLG.out).trans G1
        clear G1
        have HR:Hid (Uv w0 w b (txt++uDs word (l.take (i+1))) w3):=by
         have h:=HX3.out
         rw [HTI.out] at h
         simp only [app_data] at h
         rw [Hid,HPS.out]
         simp only [List.append_assoc] at h ⊢
         exact h
        clear HX HX2 HX3
        go_wp2_with fail
        go_roundg (n-(i+1)+1)
        case measure=>have:=HM.out;omega
        case rel=>exact ⟨i+1,by simp,by omega,by omega,HR.out⟩
    · have hq : (wd != 0) = true := by simpa using hz
      by_cases h0:i=0
      · replace HPS : Hid (uDs word (l.take (i + 1)) = uDs word (l.take i) ++ ([32] ++ nm.data.toList) ++ ([32, 61, 32] ++ Lib.itoa wd)) := by rw [Hid, HPS.out, if_pos h0, if_neg hz]; simp
        have hi0:i=0:=by omega
        subst hi0
        have G0:=HF0.out
        have G1:=HF1.out
        simp only [Nat.zero_mul,Nat.add_zero] at G0 G1
        have f0:wr.cell? ⟨g,q,none⟩=some (.string nm):=(HX.out.2.1.cell (p:=⟨g,q,none⟩) HLG.out).trans G0
        clear G0
        go_wp2_with fail
        go_at_call 23
        refine (HP.out _ _ _ HX.out (by simp only [ByteArray.size_append];show 1+nm.size≤_;omega)).mono ?_
        rintro e w3 ⟨rfl,hx⟩
        have HX3:=Lib.hid hx
        clear hx f0
        have f1:w3.cell? ⟨g,q+1,none⟩=some (.int .i64 wd):=(HX3.out.2.1.cell (p:=⟨g,q+1,none⟩) HLG.out).trans G1
        clear G1
        go_wp2_with (first | (go_at_call 51;refine (HPR.out _ _ HWD.out).mono ?_;rintro e w4 ⟨rfl,hb4⟩))
        have HX4:=Lib.hid (uv_below HX3.out hb4)
        clear hb4
        go_at_call 23
        refine (HP.out _ _ _ HX4.out (by simp only [ByteArray.size_append];show 3+(itoaS wd).size≤_;have:=HIZ.out;omega)).mono ?_
        rintro e w5 ⟨rfl,hx⟩
        have HX5:=Lib.hid hx
        clear hx f1
        have HR:Hid (Uv w0 w b (txt++uDs word (l.take (0+1))) w5):=by
         have h:=HX5.out
         rw [HTI.out] at h
         simp only [app_data] at h
         rw [Hid,HPS.out]
         simp only [List.append_assoc] at h ⊢
         exact h
        clear HX HX3 HX4 HX5
        go_wp2_with fail
        go_roundg (n-(0+1)+1)
        case measure=>have:=HM.out;omega
        case rel=>exact ⟨0+1,by simp,by omega,by omega,HR.out⟩
      · replace HPS : Hid (uDs word (l.take (i + 1)) = uDs word (l.take i) ++ [44] ++ ([32] ++ nm.data.toList) ++ ([32, 61, 32] ++ Lib.itoa wd)) := by rw [Hid, HPS.out, if_neg h0, if_neg hz]
        have hi0:0<(i:Int):=by omega
        go_wp2_with fail
        go_at_call 23
        refine (HP.out _ _ _ HX.out (by decide)).mono ?_
        rintro e w2 ⟨rfl,hx⟩
        have HX2:=Lib.hid hx
        clear hx
        have G0:=HF0.out
        have G1:=HF1.out
        have f0:w2.cell? ⟨g,q+i*3,none⟩=some (.string nm):=(HX2.out.2.1.cell (p:=⟨g,q+i*3,none⟩) HLG.out).trans G0
        clear G0
        go_wp2_with fail
        go_at_call 23
        refine (HP.out _ _ _ HX2.out (by simp only [ByteArray.size_append];show 1+nm.size≤_;omega)).mono ?_
        rintro e w3 ⟨rfl,hx⟩
        have HX3:=Lib.hid hx
        clear hx f0
        have f1:w3.cell? ⟨g,q+i*3+1,none⟩=some (.int .i64 wd):=(HX3.out.2.1.cell (p:=⟨g,q+i*3+1,none⟩) HLG.out).trans G1
        clear G1
        go_wp2_with (first | (go_at_call 51;refine (HPR.out _ _ HWD.out).mono ?_;rintro e w4 ⟨rfl,hb4⟩))
        have HX4:=Lib.hid (uv_below HX3.out hb4)
        clear hb4
        go_at_call 23
        refine (HP.out _ _ _ HX4.out (by simp only [ByteArray.size_append];show 3+(itoaS wd).size≤_;have:=HIZ.out;omega)).mono ?_
        rintro e w5 ⟨rfl,hx⟩
        have HX5:=Lib.hid hx
        clear hx f1
        have HR:Hid (Uv w0 w b (txt++uDs word (l.take (i+1))) w5):=by
         have h:=HX5.out
         rw [HTI.out] at h
         simp only [app_data] at h
         rw [Hid,HPS.out]
         simp only [List.append_assoc] at h ⊢
         exact h
        clear HX HX2 HX3 HX4 HX5
        go_wp2_with fail
        go_roundg (n-(i+1)+1)
        case measure=>have:=HM.out;omega
        case rel=>exact ⟨i+1,by simp,by omega,by omega,HR.out⟩
  · have hin2 : i = n := by omega
    subst hin2
    have HXN:=HX.out
    rw [show l.take i=l by rw [HN.out,List.take_length]] at HXN
    have HXL:=Lib.hid HXN
    clear HXN HX
    go_wp2_with fail
    go_at_call 23
    refine (HP.out _ _ _ HXL.out (by decide)).mono ?_
    rintro e w9 ⟨rfl,hx⟩
    have HF:Hid (UPut b txt tx w (.returned (.tuple #[])) w9):=uv_done (by
     rw [HTX.out,← List.append_assoc]
     exact hx)
    clear hx
    go_wp2_with fail
    exact bodyPost_end (results_none rfl _ _ _) rfl HF.out
open Go.RowKit
set_option linter.unusedVariables false
set_option maxRecDepth 100000
theorem nm_size32 {n:ByteArray} (h:nmB n true=true):n.size≤100:=by
 have:=name_size (n:=n) h
 omega
theorem u_stmt:∀ x:St,UrS x:=by
 intro x
 induction x using St.ind with
 | h k nm ot es bo el ps ihb ihl =>
   have HWB:=u_block0 ihb
   have HWL:=u_block0 ihl
   intro dd hdd hr hok hrg v a3 a4 a5 c3 c4 c5 w0 w b txt hv h3 h4 h5 hb0 hbw hw
   subst hv
   obtain ⟨⟨hok1,hok2⟩,⟨hok3,hok4⟩,hok5,hok6⟩:=hok
   obtain ⟨_,hrg1,hrg2,hrg3⟩:=hrg
   simp only [rS,Bool.and_eq_true,decide_eq_true_eq] at hr
   obtain ⟨hk0,hk8,r1,r2,r3,r4,r5,r6,r7,r8⟩:=hr
   have HB4:rB bo ((dd:Int)+1)=true→∀ t W,Below b w0 W→Ux b t W→Calls Tryz.prog 24 #[.pointer (some ⟨b,0,none⟩),.slice a4 bo.length c4,.int .i64 ((dd+1:Nat):Int)] W (UPut b t (tSs bo (dd+1)) W):=fun hB t W h1 h2=>HWB (dd+1) (by rw [show (((dd+1:Nat)):Int)=(dd:Int)+1 by simp];exact hB) hok4 hok3 hrg2 a4 c4 w0 W b t h4 hb0 h1 h2
   have HB5:rB el ((dd:Int)+1)=true→∀ t W,Below b w0 W→Ux b t W→Calls Tryz.prog 24 #[.pointer (some ⟨b,0,none⟩),.slice a5 el.length c5,.int .i64 ((dd+1:Nat):Int)] W (UPut b t (tSs el (dd+1)) W):=fun hB t W h1 h2=>HWL (dd+1) (by rw [show (((dd+1:Nat)):Int)=(dd:Int)+1 by simp];exact hB) hok6 hok5 hrg3 a5 c5 w0 W b t h5 hb0 h1 h2
   have hel0:(shp k).2.2.2.2=false→(el.length:Int)=0:=fun h=>by
    rw [h] at r5
    simpa using r5
   rcases kind_cases hk0 hk8 with rfl | rfl | rfl | rfl | rfl | rfl | rfl
   · obtain ⟨y, hes, hy, hg⟩ := one_ex r3 rfl r6 hrg1
     exact u_assign hdd hb0 hbw hw (nm_size32 r1) h3 hes hy hg
   · obtain ⟨y, hes, hy, hg⟩ := one_ex r3 rfl r6 hrg1
     exact u_swap hdd hb0 hbw hw (nm_size32 r1) (nm_size32 r2) h3 hes hy hg
   · obtain ⟨y, hes, hy, hg⟩ := one_ex r3 rfl r6 hrg1
     have r7':rB bo ((dd:Int)+1)=true:=by
      unfold rB
      rw [Bool.and_eq_true,decide_eq_true_eq]
      simpa [shp] using r7
     have ht3:tS (.mk 3 nm ot es bo el ps) dd=ln dd [[105,102,32,40],e0T es,[41,32,123]]++tSs bo (dd+1)++(if 0<el.length then ln dd [[125,32,101,108,115,101,32,123]]++tSs el (dd+1) else [])++ln dd [[125]]:=by simp only [tS];rfl
     by_cases hel:0<(el.length:Int)
     · have r8' : rB el ((dd : Int) + 1) = true := by
        unfold rB
        rw [Bool.and_eq_true,decide_eq_true_eq]
        rw [decide_eq_true hel] at r8
        simpa using r8
       have:=u_choice2 hdd hb0 hbw hw h3 hes hy hg HB4 r7' HB5 r8' hel (c3:=c3) (nm:=nm) (ot:=ot) (ps:=ps)
       rw [ht3,if_pos (by omega)]
       exact this
     · have hel1 : (el.length : Int) = 0 := by omega
       have:=u_choice1 hdd hb0 hbw hw h3 hes hy hg HB4 r7' hel1 (c3:=c3) (nm:=nm) (ot:=ot) (ps:=ps) (a5:=a5) (c5:=c5)
       rw [ht3,if_neg (by omega),List.append_nil]
       exact this
   · obtain ⟨y, hes, hy, hg⟩ := one_ex r3 rfl r6 hrg1
     have r7':rB bo ((dd:Int)+1)=true:=by
      unfold rB
      rw [Bool.and_eq_true,decide_eq_true_eq]
      simpa [shp] using r7
     exact u_loop hdd hb0 hbw hw h3 hes hy hg HB4 r7' (hel0 rfl)
   · have r7' : rB bo ((dd : Int) + 1) = true := by
      unfold rB
      rw [Bool.and_eq_true,decide_eq_true_eq]
      simpa [shp] using r7
     exact u_guard hdd hb0 hbw hw (nm_size32 r1) HB4 r7' (hel0 rfl)
   · obtain ⟨y, hes, hy, hg⟩ := one_ex r3 rfl r6 hrg1
     exact u_print hdd hb0 hbw hw h3 hes hy hg
   · exact u_skip hdd hb0 hbw hw
theorem u_block (l:List St):UrB l:=u_block0 fun x _=>u_stmt x
open Go.RowKit
set_option linter.unusedVariables false
set_option maxRecDepth 100000
def RtE (x:Ex):Prop:=rgE x→fitE x→∀ (v:Value) (w:World) (d:Int),exA w x v→0≤d→d≤1000→Calls Tryz.prog 129 #[v,.int .i64 d] w fun e w'=>e=.returned (.bool (rE x d))∧Below w.heap.size w w'
theorem rt_1 {o wd ps:Int} {n:ByteArray} {ks:List Ex} {a:Option Addr} {cap:Nat} {w:World} {d:Int} (hd0:0≤d) (hd:d≤64) (hk:rgE (.mk 1 o wd n ks ps)) (hf:fitE (.mk 1 o wd n ks ps)) :
 Calls Tryz.prog 129 #[.agg #[.int .u8 1,.int .u8 o,.int .i64 wd,.string n,.slice a ks.length cap,.int .i64 ps],.int .i64 d] w fun e w'=>e=.returned (.bool (rE (.mk 1 o wd n ks ps) d))∧Below w.heap.size w w':=by
 obtain ⟨hk0,ho,hwd,hks⟩:=hk
 obtain ⟨hn,hlen,hfs⟩:=hf
 rw [rE_1 hd]
 have HE:Hid (ks.isEmpty=decide (ks.length=0)):=by
  show _=_
  cases ks with
  | nil=>rfl
  | cons x r=>rfl
 obtain ⟨m,hm⟩:∃ m,m=ks.length:=⟨_,rfl⟩
 rw [← hm] at HE ⊢
 rw [HE.out]
 clear hm HE
 have HB:=Lib.hid (bw_new w 59 #[.int .u8 1,.int .u8 o,.int .i64 wd,.string n,.slice a m cap,.int .i64 ps])
 by_cases q1:0≤wd
 · have g1 : decide (0 ≤ wd) = true := decide_eq_true q1
   rw [g1,Bool.true_and]
   by_cases q2:o=0
   · subst q2
     rw [show ((0:Int)==0)=true from rfl,Bool.true_and]
     by_cases q3:n=⟨#[]⟩
     · subst q3
       rw [show ((⟨#[]⟩:ByteArray).data.toList==[])=true from rfl,Bool.true_and]
       by_cases q4:m=0
       · subst q4
         rw [decide_eq_true rfl]
         go_enter Tryz.func129,Tryz.ntmps129
         go_wp2_with fail
         go_ret
         exact ⟨rfl,HB.out.2⟩
       · have g5 : ((m : Int) == 0) = false := int_f (by omega)
         rw [decide_eq_false q4]
         go_enter Tryz.func129,Tryz.ntmps129
         go_wp2_with fail
         go_ret
         exact ⟨rfl,HB.out.2⟩
     · have g3 := nm_full q3
       have g4:=bt_f q3
       rw [g3,Bool.false_and]
       go_enter Tryz.func129,Tryz.ntmps129
       go_wp2_with fail
       go_ret
       exact ⟨rfl,HB.out.2⟩
   · have g2 := int_f q2
     rw [g2,Bool.false_and]
     go_enter Tryz.func129,Tryz.ntmps129
     go_wp2_with fail
     go_ret
     exact ⟨rfl,HB.out.2⟩
 · have g1 : decide (0 ≤ wd) = false := decide_eq_false q1
   rw [g1,Bool.false_and]
   go_enter Tryz.func129,Tryz.ntmps129
   go_wp2_with fail
   go_ret
   exact ⟨rfl,HB.out.2⟩
theorem rt_2 {o wd ps:Int} {n:ByteArray} {ks:List Ex} {a:Option Addr} {cap:Nat} {w:World} {d:Int} (hd0:0≤d) (hd:d≤64) (hk:rgE (.mk 2 o wd n ks ps)) (hf:fitE (.mk 2 o wd n ks ps)) :
 Calls Tryz.prog 129 #[.agg #[.int .u8 2,.int .u8 o,.int .i64 wd,.string n,.slice a ks.length cap,.int .i64 ps],.int .i64 d] w fun e w'=>e=.returned (.bool (rE (.mk 2 o wd n ks ps) d))∧Below w.heap.size w w':=by
 obtain ⟨hk0,ho,hwd,hks⟩:=hk
 obtain ⟨hn,hlen,hfs⟩:=hf
 rw [rE_2 hd]
 have HE:Hid (ks.isEmpty=decide (ks.length=0)):=by
  show _=_
  cases ks with
  | nil=>rfl
  | cons x r=>rfl
 obtain ⟨m,hm⟩:∃ m,m=ks.length:=⟨_,rfl⟩
 rw [← hm] at HE ⊢
 rw [HE.out]
 clear hm HE
 have HB:=Lib.hid (bw_new w 59 #[.int .u8 2,.int .u8 o,.int .i64 wd,.string n,.slice a m cap,.int .i64 ps])
 have HNM:Hid (∀ W,Calls Tryz.prog 48 #[.string n] W fun e w'=>e=.returned (.bool (nameB n))∧W=w'):=fun W=>rname_any n (by unfold nmOk at hn;omega) W
 obtain ⟨b,hb⟩:∃ b,b=nameB n:=⟨_,rfl⟩
 rw [← hb] at HNM ⊢
 clear hb
 by_cases q1:b=true
 · subst q1
   rw [Bool.true_and]
   by_cases q2:o=0
   · subst q2
     rw [show ((0:Int)==0)=true from rfl,Bool.true_and]
     by_cases q3:wd=0
     · subst q3
       rw [show ((0:Int)==0)=true from rfl,Bool.true_and]
       by_cases q4:m=0
       · subst q4
         rw [decide_eq_true rfl]
         go_enter Tryz.func129,Tryz.ntmps129
         go_wp2_with (go_at_call 48;refine (HNM.out _).mono ?_;rintro e w' ⟨rfl,rfl⟩)
         go_ret
         exact ⟨rfl,HB.out.2⟩
       · have g5 : ((m : Int) == 0) = false := int_f (by omega)
         rw [decide_eq_false q4]
         go_enter Tryz.func129,Tryz.ntmps129
         go_wp2_with (go_at_call 48;refine (HNM.out _).mono ?_;rintro e w' ⟨rfl,rfl⟩)
         go_ret
         exact ⟨rfl,HB.out.2⟩
     · have g3 := int_f q3
       rw [g3,Bool.false_and]
       go_enter Tryz.func129,Tryz.ntmps129
       go_wp2_with (go_at_call 48;refine (HNM.out _).mono ?_;rintro e w' ⟨rfl,rfl⟩)
       go_ret
       exact ⟨rfl,HB.out.2⟩
   · have g2 := int_f q2
     rw [g2,Bool.false_and]
     go_enter Tryz.func129,Tryz.ntmps129
     go_wp2_with (go_at_call 48;refine (HNM.out _).mono ?_;rintro e w' ⟨rfl,rfl⟩)
     go_ret
     exact ⟨rfl,HB.out.2⟩
 · obtain rfl : b = false := by simpa using q1
   rw [Bool.false_and]
   go_enter Tryz.func129,Tryz.ntmps129
   go_wp2_with (go_at_call 48;refine (HNM.out _).mono ?_;rintro e w' ⟨rfl,rfl⟩)
   go_ret
   exact ⟨rfl,HB.out.2⟩
theorem rt_0 {k o wd ps:Int} {n:ByteArray} {ks:List Ex} {a:Option Addr} {cap:Nat} {w:World} {d:Int} (hd0:0≤d) (hd:d≤64) (hk:rgE (.mk k o wd n ks ps)) (hf:fitE (.mk k o wd n ks ps)) (h1:k≠1) (h2:k≠2) (h3:k≠3) (h4:k≠4) :
 Calls Tryz.prog 129 #[.agg #[.int .u8 k,.int .u8 o,.int .i64 wd,.string n,.slice a ks.length cap,.int .i64 ps],.int .i64 d] w fun e w'=>e=.returned (.bool (rE (.mk k o wd n ks ps) d))∧Below w.heap.size w w':=by
 obtain ⟨hk0,ho,hwd,hks⟩:=hk
 obtain ⟨hn,hlen,hfs⟩:=hf
 rw [rE_0 h1 h2 h3 h4]
 obtain ⟨m,hm⟩:∃ m,m=ks.length:=⟨_,rfl⟩
 rw [← hm]
 have HB:=Lib.hid (bw_new w 59 #[.int .u8 k,.int .u8 o,.int .i64 wd,.string n,.slice a m cap,.int .i64 ps])
 have g1:=int_f h1
 have g2:=int_f h2
 have g3:=int_f h3
 have g4:=int_f h4
 clear hm h1 h2 h3 h4
 go_enter Tryz.func129,Tryz.ntmps129
 go_wp2_with fail
 go_ret
 exact ⟨rfl,HB.out.2⟩
theorem rt_deep {k o wd ps:Int} {n:ByteArray} {ks:List Ex} {a:Option Addr} {cap:Nat} {w:World} {d:Int} (hd:¬ d≤64) :
 Calls Tryz.prog 129 #[.agg #[.int .u8 k,.int .u8 o,.int .i64 wd,.string n,.slice a ks.length cap,.int .i64 ps],.int .i64 d] w fun e w'=>e=.returned (.bool (rE (.mk k o wd n ks ps) d))∧Below w.heap.size w w':=by
 rw [rE_toodeep hd]
 obtain ⟨m,hm⟩:∃ m,m=ks.length:=⟨_,rfl⟩
 rw [← hm]
 have HB:=Lib.hid (bw_new w 59 #[.int .u8 k,.int .u8 o,.int .i64 wd,.string n,.slice a m cap,.int .i64 ps])
 have g1:64<d:=by omega
 clear hm hd
 go_enter Tryz.func129,Tryz.ntmps129
 go_wp2_with fail
 go_ret
 exact ⟨rfl,HB.out.2⟩
theorem rt_3 {o wd ps:Int} {n:ByteArray} {ks:List Ex} {a:Option Addr} {cap:Nat} {w:World} {d:Int} (hd0:0≤d) (hd:d≤64) (hk:rgE (.mk 3 o wd n ks ps)) (hf:fitE (.mk 3 o wd n ks ps)) (HI:∀ y∈ks,RtE y) (h1:exsAt (fun _=>True) w ks a) :
 Calls Tryz.prog 129 #[.agg #[.int .u8 3,.int .u8 o,.int .i64 wd,.string n,.slice a ks.length cap,.int .i64 ps],.int .i64 d] w fun e w'=>e=.returned (.bool (rE (.mk 3 o wd n ks ps) d))∧Below w.heap.size w w':=by
 obtain ⟨hk0,ho,hwd,hks⟩:=hk
 obtain ⟨hn,hlen,hfs⟩:=hf
 rw [rE_3 hd]
 have HON:Hid (∀ W,Calls Tryz.prog 169 #[.int .u8 o] W fun e w'=>e=.returned (.bool (oneB o))∧W=w'):=fun W=>r_one o W
 obtain ⟨b,hb⟩:∃ b,b=oneB o:=⟨_,rfl⟩
 rw [← hb] at HON ⊢
 clear hb
 by_cases hl:ks.length=1
 rotate_left
 · have g5 : (((ks.length : Nat) : Int) != 1) = true := by simp; omega
   have hr:kid1 ks (rEs ks) d=false:=by
    cases ks with
    | nil=>rfl
    | cons x r => cases r with
      | nil=>exact absurd rfl hl
      | cons y s=>rfl
   rw [hr]
   obtain ⟨m,hm⟩:∃ m,m=ks.length:=⟨_,rfl⟩
   rw [← hm] at g5 ⊢
   clear hr hl hm h1 HI
   have HB:=Lib.hid (bw_new w 59 #[.int .u8 3,.int .u8 o,.int .i64 wd,.string n,.slice a m cap,.int .i64 ps])
   by_cases q1:b=true
   · subst q1
     rw [Bool.true_and]
     by_cases q3:wd=0
     · subst q3
       rw [show ((0:Int)==0)=true from rfl,Bool.true_and]
       by_cases q2:n=⟨#[]⟩
       · subst q2
         rw [show ((⟨#[]⟩:ByteArray).data.toList==[])=true from rfl,Bool.true_and]
         go_enter Tryz.func129,Tryz.ntmps129
         go_wp2_with (go_at_call 169;refine (HON.out _).mono ?_;rintro e w' ⟨rfl,rfl⟩)
         go_ret
         exact ⟨rfl,HB.out.2⟩
       · have g2 := nm_full q2
         have g4:=bt_f q2
         rw [g2,Bool.false_and]
         go_enter Tryz.func129,Tryz.ntmps129
         go_wp2_with (go_at_call 169;refine (HON.out _).mono ?_;rintro e w' ⟨rfl,rfl⟩)
         go_ret
         exact ⟨rfl,HB.out.2⟩
     · have g3 := int_f q3
       have g3':(wd != 0)=true:=by simpa using q3
       rw [g3,Bool.false_and]
       go_enter Tryz.func129,Tryz.ntmps129
       go_wp2_with (go_at_call 169;refine (HON.out _).mono ?_;rintro e w' ⟨rfl,rfl⟩)
       go_ret
       exact ⟨rfl,HB.out.2⟩
   · obtain rfl : b = false := by simpa using q1
     rw [Bool.false_and]
     go_enter Tryz.func129,Tryz.ntmps129
     go_wp2_with (go_at_call 169;refine (HON.out _).mono ?_;rintro e w' ⟨rfl,rfl⟩)
     go_ret
     exact ⟨rfl,HB.out.2⟩
 obtain ⟨y,rfl⟩:∃ y,ks=[y]:=by
  match ks,hl with
  | [y],_=>exact ⟨y,rfl⟩
 rcases h1 with e | ⟨g,q,rfl,_,e1⟩
 · cases e
 have hIy:=HI y (List.mem_singleton.2 rfl) hks.1 hfs.1
 have e2:=e1.1
 obtain ⟨yk,yo,yw,yn,yks,yp⟩:=y
 obtain ⟨y0,y1,y2,y3,⟨ya,yc,y4,y5k⟩,y5⟩:=e2
 have hIy':∀ W,Below w.heap.size w W→∀ d':Int,0≤d'→d'≤1000→Calls Tryz.prog 129 #[.agg #[.int .u8 yk,.int .u8 yo,.int .i64 yw,.string yn,.slice ya yks.length yc,.int .i64 yp],.int .i64 d'] W fun e w'=>e=.returned (.bool (rE (.mk yk yo yw yn yks yp) d'))∧Below W.heap.size W w':=fun W hW d' h0 h1=>hIy _ W d' ⟨ya,yc,rfl,exsAt_below y5k hW⟩ h0 h1
 change Calls _ _ #[.agg #[.int .u8 3,.int .u8 o,.int .i64 wd,.string n,.slice (some ⟨g,q,none⟩) 1 cap,.int .i64 ps],.int .i64 d] w _
 have HK:Hid (kid1 [Ex.mk yk yo yw yn yks yp] (rEs [Ex.mk yk yo yw yn yks yp]) d=rE (.mk yk yo yw yn yks yp) (d+1+b2i (yk==4))):=rfl
 rw [HK.out]
 obtain ⟨ym,hym⟩:∃ z,z=yks.length:=⟨_,rfl⟩
 rw [← hym] at hIy' y4
 have HIY:=Lib.hid hIy'
 clear HK hym hIy hIy' hl e1 HI hks hfs y5k
 have HB:=Lib.hid (bw_new w 59 #[.int .u8 3,.int .u8 o,.int .i64 wd,.string n,.slice (some ⟨g,q,none⟩) 1 cap,.int .i64 ps])
 have yf0:(w.alloc (.cells #[.int .u8 3,.int .u8 o,.int .i64 wd,.string n,.slice (some ⟨g,q,none⟩) 1 cap,.int .i64 ps] 59)).cell? ⟨g,q,none⟩=some (.int .u8 yk):=by rw [HB.out.2.cell (p:=⟨g,q,none⟩) (cell_lt y0)];exact y0
 have yf1:(w.alloc (.cells #[.int .u8 3,.int .u8 o,.int .i64 wd,.string n,.slice (some ⟨g,q,none⟩) 1 cap,.int .i64 ps] 59)).cell? ⟨g,q+1,none⟩=some (.int .u8 yo):=by rw [HB.out.2.cell (p:=⟨g,q+1,none⟩) (cell_lt y1)];exact y1
 have yf2:(w.alloc (.cells #[.int .u8 3,.int .u8 o,.int .i64 wd,.string n,.slice (some ⟨g,q,none⟩) 1 cap,.int .i64 ps] 59)).cell? ⟨g,q+2,none⟩=some (.int .i64 yw):=by rw [HB.out.2.cell (p:=⟨g,q+2,none⟩) (cell_lt y2)];exact y2
 have yf3:(w.alloc (.cells #[.int .u8 3,.int .u8 o,.int .i64 wd,.string n,.slice (some ⟨g,q,none⟩) 1 cap,.int .i64 ps] 59)).cell? ⟨g,q+3,none⟩=some (.string yn):=by rw [HB.out.2.cell (p:=⟨g,q+3,none⟩) (cell_lt y3)];exact y3
 have yf4:(w.alloc (.cells #[.int .u8 3,.int .u8 o,.int .i64 wd,.string n,.slice (some ⟨g,q,none⟩) 1 cap,.int .i64 ps] 59)).cell? ⟨g,q+4,none⟩=some (.slice ya ym yc):=by rw [HB.out.2.cell (p:=⟨g,q+4,none⟩) (cell_lt y4)];exact y4
 have yf5:(w.alloc (.cells #[.int .u8 3,.int .u8 o,.int .i64 wd,.string n,.slice (some ⟨g,q,none⟩) 1 cap,.int .i64 ps] 59)).cell? ⟨g,q+5,none⟩=some (.int .i64 yp):=by rw [HB.out.2.cell (p:=⟨g,q+5,none⟩) (cell_lt y5)];exact y5
 clear y0 y1 y2 y3 y4 y5
 by_cases q1:b=true
 rotate_left
 · obtain rfl : b = false := by simpa using q1
   rw [Bool.false_and]
   go_enter Tryz.func129,Tryz.ntmps129
   go_wp2_with (go_at_call 169;refine (HON.out _).mono ?_;rintro e w' ⟨rfl,rfl⟩)
   go_ret
   exact ⟨rfl,HB.out.2⟩
 subst q1
 rw [Bool.true_and]
 by_cases q3:wd=0
 rotate_left
 · have g3 := int_f q3
   have g3':(wd != 0)=true:=by simpa using q3
   rw [g3,Bool.false_and]
   go_enter Tryz.func129,Tryz.ntmps129
   go_wp2_with (go_at_call 169;refine (HON.out _).mono ?_;rintro e w' ⟨rfl,rfl⟩)
   go_ret
   exact ⟨rfl,HB.out.2⟩
 subst q3
 rw [show ((0:Int)==0)=true from rfl,Bool.true_and]
 by_cases q2:n=⟨#[]⟩
 rotate_left
 · have g2 := nm_full q2
   have g4:=bt_f q2
   rw [g2,Bool.false_and]
   go_enter Tryz.func129,Tryz.ntmps129
   go_wp2_with (go_at_call 169;refine (HON.out _).mono ?_;rintro e w' ⟨rfl,rfl⟩)
   go_ret
   exact ⟨rfl,HB.out.2⟩
 subst q2
 rw [show ((⟨#[]⟩:ByteArray).data.toList==[])=true from rfl,Bool.true_and]
 by_cases q6:yk=4
 · subst q6
   rw [show b2i ((4:Int)==4)=1 from rfl]
   by_cases q7:d+1≤64
   · have hd2 : d + 2 ≤ 1000 := by omega
     rw [show d+1+1=d+2 by omega]
     have HC:=Lib.hid (HIY.out _ HB.out.2 (d+2) (by omega) hd2)
     go_enter Tryz.func129,Tryz.ntmps129
     go_wp2_with (first | (go_at_call 169;refine (HON.out _).mono ?_;rintro e w' ⟨rfl,rfl⟩) | (go_at_call 129;refine (HC.out).mono ?_;rintro e w' ⟨rfl,hb⟩;have HB2:=Lib.hid (HB.out.2.trans (hb.mono HB.out.2.size));clear hb))
     go_ret
     exact ⟨rfl,HB2.out⟩
   · have q8 : decide (d + 1 ≤ 64) = false := decide_eq_false q7
     have q9:64<d+1:=by omega
     have hr:rE (.mk 4 yo yw yn yks yp) (d+1+1)=false:=rE_toodeep (by omega)
     rw [hr]
     clear hr HIY
     go_enter Tryz.func129,Tryz.ntmps129
     go_wp2_with (go_at_call 169;refine (HON.out _).mono ?_;rintro e w' ⟨rfl,rfl⟩)
     go_ret
     exact ⟨rfl,HB.out.2⟩
 · have q7 := int_f q6
   rw [q7,show d+1+b2i false=d+1 by unfold b2i;simp]
   have HC:=Lib.hid (HIY.out _ HB.out.2 (d+1) (by omega) (by omega))
   clear q6 HIY
   go_enter Tryz.func129,Tryz.ntmps129
   go_wp2_with (first | (go_at_call 169;refine (HON.out _).mono ?_;rintro e w' ⟨rfl,rfl⟩) | (go_at_call 129;refine (HC.out).mono ?_;rintro e w' ⟨rfl,hb⟩;have HB2:=Lib.hid (HB.out.2.trans (hb.mono HB.out.2.size));clear hb))
   go_ret
   exact ⟨rfl,HB2.out⟩
end Go.Proofs.YtieeaehabjjaoaaGreatDoor

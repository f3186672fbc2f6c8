/- The proof, part 36: texts that belong together, in one. -/
import Derived.Test.YtimccjlhhjjcpaaGreatDoorVBI
import Derived.Test.YtimccjlhhjjcpaaGreatDoorVBE
import Derived.Test.YtimccjlhhjjcpaaGreatDoorVBD
set_option maxRecDepth 100000
set_option maxHeartbeats 20000000
namespace Go.Proofs.YtimccjlhhjjcpaaGreatDoor
open Go.RowKit Go.Maps
set_option linter.unusedVariables false
theorem nmSs_app:∀ a b:List St,nmSs (a++b)=nmSs a++nmSs b
 | [],b=>by simp [nmSs]
 | x::r,b=>by simp only [List.cons_append,nmSs,nmSs_app r b,List.append_assoc]
theorem nmSs_part {l:List St} {i:Nat} {x:St} (h:l[i]? = some x):nmSs (l.take (i+1))=nmSs (l.take i)++nmS x∧(nmSs (l.take i)).length+(nmS x).length≤(nmSs l).length:=by
 have il:=(List.getElem?_eq_some_iff.1 h).1
 have hx:=(List.getElem?_eq_some_iff.1 h).2
 have h1:nmSs (l.take (i+1))=nmSs (l.take i)++nmS x:=by
  rw [List.take_succ_eq_append_getElem il,nmSs_app,hx];simp [nmSs]
 refine ⟨h1,?_⟩
 have h2:nmSs l=nmSs (l.take (i+1))++nmSs (l.drop (i+1)):=by rw [← nmSs_app,List.take_append_drop]
 rw [h2,h1]
 simp only [List.length_append]
 omega
def NxS (es : List St) : Prop := ctSs es ≤ 1048576 → ∀ (base : Nat) (w : World) (L : List ByteArray) (l : List (List UInt8)) (v : Value) (a : Option Addr) (c : Nat), LsR base w l v → NL L l → stsAt (fun _ => True) w es a → L.length + (nmSs es).length ≤ 2097152 →
    Calls Tryz.prog 33 #[v,.slice a es.length c] w (NmR (L++nmSs es) w)
theorem nx_sts {es:List St} (HI:∀ x∈es,NxS x.body∧NxS x.els):NxS es:=by
 intro hbk base w L l v a c h hL hd hlen
 have HBK:=Lib.hid hbk
 have HPU:Hid (∀ base X l v s,LsR base X l v→l.length≤2097152→Calls Tryz.prog 32 #[v,.string s] X (PuP s l X)):=fun base X l v s h1 h2=>r_put h1 h2 s
 have HI:=Lib.hid HI
 have E1:=Lib.hid hd
 have HLL:=Lib.hid hlen
 have H0:Hid (∃ base l',LsR base w l' v∧NL (L++nmSs (es.take 0)) l'):=⟨base,l,h,by simpa [nmSs] using hL⟩
 obtain ⟨n,hn⟩:∃ n,n=es.length:=⟨_,rfl⟩
 have HN:=Lib.hid hn
 have hn20:n≤1048576:=by rw [hn];exact Nat.le_trans (ctSs_len es) hbk
 rw [← hn]
 clear h hL hd hn hlen hbk
 go_enter Tryz.func33,Tryz.ntmps33
 go_wp2_with fail
 go_loopg [0,5] (n+1) (fun m' v u X=>∃ i:Nat,u=.int .i64 (i:Int)∧i≤n∧m'=n-i+1∧(∃ base l',LsR base X l' v∧NL (L++nmSs (es.take i)) l')∧Below w.heap.size w X)
 case atStart=>exact ⟨0,rfl,Nat.zero_le _,by omega,H0.out,Below.refl _ _⟩
 case round =>
  obtain ⟨i,rfl,hi,hm,⟨b1,l1,hl1,hn1⟩,hX⟩:=hrel
  have HM:=Lib.hid hm
  have HX:=Lib.hid hX
  have HL1:=Lib.hid hl1
  have HN1:=Lib.hid hn1
  clear hm hX hl1 hn1
  by_cases hin:i<n
  · have il : i < es.length := by have := HN.out; omega
    have g1:es[i]? = some es[i]:=List.getElem?_eq_getElem il
    have hmem:es[i]∈es:=List.getElem_mem il
    generalize es[i]=x at g1 hmem
    have hpt:=nmSs_part g1
    rcases E1.out with e | ⟨g,q,e,_,e1⟩
    · cases es with
      | nil=>simp at il
      | cons=>cases e
    obtain rfl:a=some ⟨g,q,none⟩:=e
    have x1:=stsIn_get i x e1 g1
    have hix:=HI.out x hmem
    have hbx:ctS x≤1048576:=Nat.le_trans (ctSs_mem hmem) HBK.out
    obtain ⟨k,nm,ot,ee,bo,el,ps⟩:=x
    obtain ⟨_,a1,a2,⟨ka,kc,a3,w3⟩,⟨ma,mc,a4,w4⟩,⟨za,zc,a5,w5⟩,_⟩:=x1
    simp only [ctS] at hbx
    have hin':(i:Int)<(n:Int):=by omega
    have b1:wr.cell? ⟨g,q+i*7+1,none⟩=some (.string nm):=by rw [HX.out.cell (p:=⟨g,q+i*7+1,none⟩) (cell_lt a1)];exact a1
    obtain ⟨nk,hnk⟩:∃ z,z=ee.length:=⟨_,rfl⟩
    have HC3:Hid (∀ base X M l v,Below w.heap.size w X→LsR base X l v→NL M l→M.length+(nmEs ee).length≤2097152→Calls Tryz.prog 72 #[v,.slice ka nk kc] X (NmR (M++nmEs ee) X)):=fun base X M l v hX h1 h2 h3=>by
     rw [hnk];exact (r_namesExprs ee (by omega)) base X M l v ka kc h1 h2 (exsAt_below w3 hX) h3
    rw [← hnk] at a3
    have HA3:Hid (∀ X,Below w.heap.size w X→X.cell? ⟨g,q+i*7+3,none⟩=some (.slice ka nk kc)):=fun X hX=>by rw [hX.cell (p:=⟨g,q+i*7+3,none⟩) (cell_lt a3)];exact a3
    obtain ⟨nm2,hnm⟩:∃ z,z=bo.length:=⟨_,rfl⟩
    have HC4:Hid (∀ base X M l v,Below w.heap.size w X→LsR base X l v→NL M l→M.length+(nmSs bo).length≤2097152→Calls Tryz.prog 33 #[v,.slice ma nm2 mc] X (NmR (M++nmSs bo) X)):=fun base X M l v hX h1 h2 h3=>by
     rw [hnm];exact (hix.1 (show ctSs bo≤1048576 by omega)) base X M l v ma mc h1 h2 (stsAt_below w4 hX) h3
    rw [← hnm] at a4
    have HA4:Hid (∀ X,Below w.heap.size w X→X.cell? ⟨g,q+i*7+4,none⟩=some (.slice ma nm2 mc)):=fun X hX=>by rw [hX.cell (p:=⟨g,q+i*7+4,none⟩) (cell_lt a4)];exact a4
    obtain ⟨nz,hnz⟩:∃ z,z=el.length:=⟨_,rfl⟩
    have HC5:Hid (∀ base X M l v,Below w.heap.size w X→LsR base X l v→NL M l→M.length+(nmSs el).length≤2097152→Calls Tryz.prog 33 #[v,.slice za nz zc] X (NmR (M++nmSs el) X)):=fun base X M l v hX h1 h2 h3=>by
     rw [hnz];exact (hix.2 (show ctSs el≤1048576 by omega)) base X M l v za zc h1 h2 (stsAt_below w5 hX) h3
    rw [← hnz] at a5
    have HA5:Hid (∀ X,Below w.heap.size w X→X.cell? ⟨g,q+i*7+5,none⟩=some (.slice za nz zc)):=fun X hX=>by rw [hX.cell (p:=⟨g,q+i*7+5,none⟩) (cell_lt a5)];exact a5
    have HA2:Hid (∀ X,Below w.heap.size w X→X.cell? ⟨g,q+i*7+2,none⟩=some (.string ot)):=fun X hX=>by rw [hX.cell (p:=⟨g,q+i*7+2,none⟩) (cell_lt a2)];exact a2
    have HB3:Hid ((L++nmSs (es.take i)).length+(2+((nmEs ee).length+((nmSs bo).length+(nmSs el).length)))≤2097152):=by
     have h2:=hpt.2
     have h3:=HLL.out
     simp only [nmS,List.length_cons,List.length_append] at h2 ⊢
     unfold Hid
     omega
    have HPT:Hid (L++nmSs (es.take (i+1))=((((L++nmSs (es.take i))++[nm])++[ot])++nmEs ee)++nmSs bo++nmSs el):=by
     rw [Hid,hpt.1];simp [nmS]
    clear a1 a2 a3 a4 a5 w3 w4 w5 hnk hnm hnz hix hbx hmem g1 il e1 hpt
    generalize L++nmSs (es.take i)=M at HN1 HB3 HPT
    go_wp2_with fail
    go_at_call 32
    refine (HPU.out _ _ _ _ nm HL1.out (by have:=nl_len_le HN1.out;have:=HB3.out;omega)).mono ?_
    rintro e w5 ⟨v5,rfl,⟨b5,h5⟩,hb5⟩
    have HB5:=Lib.hid (HX.out.trans (hb5.mono HX.out.size))
    have HL5:=Lib.hid h5
    have HN5:=Lib.hid (nl_put HN1.out nm)
    have d2:=HA2.out _ HB5.out
    clear h5 hb5
    go_wp2_with fail
    go_at_call 32
    refine (HPU.out _ _ _ _ ot HL5.out (by have h9:=nl_len_le HN5.out;simp only [List.length_append,List.length_singleton] at h9;have:=HB3.out;omega)).mono ?_
    rintro e w6 ⟨v6,rfl,⟨b6,h6⟩,hb6⟩
    have HB6:=Lib.hid (HB5.out.trans (hb6.mono HB5.out.size))
    have HL6:=Lib.hid h6
    have HN6:=Lib.hid (nl_put HN5.out ot)
    have d3:=HA3.out _ HB6.out
    clear h6 hb6
    go_wp2_with fail
    go_at_call 72
    refine (HC3.out _ _ _ _ _ HB6.out HL6.out HN6.out (by have:=HB3.out;simp only [List.length_append,List.length_cons,List.length_nil];omega)).mono ?_
    rintro e w7 ⟨b7,l7,v7,rfl,h1,h2,hb⟩
    have HB7:=Lib.hid (HB6.out.trans (hb.mono HB6.out.size))
    have HL7:=Lib.hid h1
    have HN7:=Lib.hid h2
    have d4:=HA4.out _ HB7.out
    clear h1 h2 hb
    go_wp2_with fail
    go_at_call 33
    refine (HC4.out _ _ _ _ _ HB7.out HL7.out HN7.out (by have:=HB3.out;simp only [List.length_append,List.length_cons,List.length_nil];omega)).mono ?_
    rintro e w9 ⟨b9,l9,v9,rfl,h1,h2,hb⟩
    have HB9:=Lib.hid (HB7.out.trans (hb.mono HB7.out.size))
    have HL9:=Lib.hid h1
    have HN9:=Lib.hid h2
    have d5:=HA5.out _ HB9.out
    clear h1 h2 hb
    go_wp2_with fail
    go_at_call 33
    refine (HC5.out _ _ _ _ _ HB9.out HL9.out HN9.out (by have:=HB3.out;simp only [List.length_append,List.length_cons,List.length_nil];omega)).mono ?_
    rintro e w9 ⟨b9,l9,v9,rfl,h1,h2,hb⟩
    have HB9:=Lib.hid (HB9.out.trans (hb.mono HB9.out.size))
    have HL9:=Lib.hid h1
    have HN9:=Lib.hid h2
    clear h1 h2 hb
    have H9:Hid (∃ base l',LsR base w9 l' v9∧NL (L++nmSs (es.take (i+1))) l'):=⟨_,_,HL9.out,by rw [HPT.out];exact HN9.out⟩
    go_wp2_with fail
    go_roundg (n-(i+1)+1)
    case measure=>have:=HM.out;omega
    case rel=>exact ⟨i+1,rfl,by omega,by omega,H9.out,HB9.out⟩
  · obtain rfl : i = n := by omega
    have HF:Hid (L++nmSs (es.take i)=L++nmSs es):=by rw [Hid,List.take_of_length_le (by rw [← HN.out];exact Nat.le_refl _)]
    go_wp2_with fail
    go_ret
    exact ⟨b1,l1,_,rfl,HL1.out,by rw [← HF.out];exact HN1.out,HX.out⟩
theorem nx_subs:∀ l:List St,∀ x∈l,NxS x.body∧NxS x.els:=by
 intro l
 induction l using Sts.ind with
 | h0=>intro x hx;cases hx
 | h1 k n o e b l a r hb hl hr =>
   intro x hx
   rcases List.mem_cons.1 hx with rfl | hx
   · exact ⟨nx_sts hb,nx_sts hl⟩
   · exact hr x hx
theorem r_namesStmts (l:List St):NxS l:=nx_sts (nx_subs l)
open Go.RowKit Go.Maps
set_option linter.unusedVariables false
theorem nmTs_part {l:List Th} {i:Nat} {x:Th} (h:l[i]? = some x):nmTs (l.take (i+1))=nmTs (l.take i)++nmT x∧(nmTs (l.take i)).length+(nmT x).length≤(nmTs l).length:=by
 have il:=(List.getElem?_eq_some_iff.1 h).1
 have hx:=(List.getElem?_eq_some_iff.1 h).2
 have h1:nmTs (l.take (i+1))=nmTs (l.take i)++nmT x:=by
  rw [List.take_succ_eq_append_getElem il,hx];simp [nmTs]
 refine ⟨h1,?_⟩
 have h2:nmTs l=nmTs (l.take (i+1))++nmTs (l.drop (i+1)):=by
  rw [nmTs,nmTs,nmTs,← List.flatMap_append,List.take_append_drop]
 rw [h2,h1]
 simp only [List.length_append]
 omega
theorem r_Names (x:Pg) (hct:ctP x≤1048576) (hlen:(nmP x).length≤2097152) {v:Value} {w:World} (hx:pA w x v):Calls Tryz.prog 10 #[v] w (NmR (nmP x) w):=by
 have HND:Hid (∀ base X L l v (ds:List Dc) a c,LsR base X l v→NL L l→dcsAt (fun _=>True) X ds a→L.length+ds.length≤2097152→Calls Tryz.prog 31 #[v,.slice a ds.length c] X (NmR (L++nmDs ds) X)):=fun base X L l v ds a c h1 h2 h3 h4=>r_namesDecls h1 h2 h3 h4
 have HPU:Hid (∀ base X l v s,LsR base X l v→l.length≤2097152→Calls Tryz.prog 32 #[v,.string s] X (PuP s l X)):=fun base X l v s h1 h2=>r_put h1 h2 s
 have HNS:Hid (∀ es,NxS es):=r_namesStmts
 have HCT:=Lib.hid hct
 obtain ⟨a1,c1,a2,c2,a3,c3,rfl,h1,h2,h3⟩:=hx
 have E1:=Lib.hid h1
 have E2:=Lib.hid h2
 have E3:=Lib.hid h3
 have hn20:x.threads.length≤1048576:=by
  have h9:=ctTs_len x.threads
  have h8:ctTs x.threads≤ctP x:=by unfold ctP;omega
  omega
 have HL:Hid ((nmDs x.shared).length+(nmDs x.locks).length+(nmTs x.threads).length≤2097152∧x.shared.length=(nmDs x.shared).length∧x.locks.length=(nmDs x.locks).length):=by
  simp only [nmP,List.length_append] at hlen
  exact ⟨by omega,by simp [nmDs],by simp [nmDs]⟩
 have HW:=Lib.hid (rfl:w=w)
 obtain ⟨n1,hn1⟩:∃ n,n=x.shared.length:=⟨_,rfl⟩
 obtain ⟨n2,hn2⟩:∃ n,n=x.locks.length:=⟨_,rfl⟩
 obtain ⟨n3,hn3⟩:∃ n,n=x.threads.length:=⟨_,rfl⟩
 have HD1:Hid (∀ X,Below w.heap.size w X→Calls Tryz.prog 31 #[.slice none 0 0,.slice a1 n1 c1] X (NmR (nmDs x.shared) X)):=fun X hX=>by
  rw [hn1]
  have:=HND.out X.heap.size X [] [] (.slice none 0 0) x.shared a1 c1 ⟨Nat.le_refl _,World.ownsRow_nil _ _ _ _⟩ ⟨.nil,fun s=>by simp⟩ (dcsAt_below E1.out hX) (by have:=HL.out;simp only [List.length_nil];omega)
  simpa using this
 have HD2:Hid (∀ base X l v,Below w.heap.size w X→LsR base X l v→NL (nmDs x.shared) l→Calls Tryz.prog 31 #[v,.slice a2 n2 c2] X (NmR (nmDs x.shared++nmDs x.locks) X)):=fun base X l v hX q1 q2=>by
  rw [hn2]
  exact HND.out base X _ l v x.locks a2 c2 q1 q2 (dcsAt_below E2.out hX) (by have:=HL.out;omega)
 rw [← hn1,← hn2,← hn3]
 rw [← hn3] at hn20
 have HN3:=Lib.hid hn3
 obtain ⟨P,hP⟩:∃ P,P=(#[.slice a1 n1 c1,.slice a2 n2 c2,.slice a3 n3 c3]:Array Value):=⟨_,rfl⟩
 have O0:=Own.new w 25 P
 have HO0:=Lib.hid O0
 have HB0:=Lib.hid ((Below.refl w.heap.size w).alloc (Nat.le_refl _) (.cells P 25))
 have HPC:=Lib.hid hP
 have HCE:Hid (∀ X,Own X w.heap.size 25 P→X.cell? ⟨w.heap.size,1,none⟩=some (.slice a2 n2 c2)∧X.cell? ⟨w.heap.size,2,none⟩=some (.slice a3 n3 c3)):=fun X h=>by
  rw [cell_of_row _ _ 1 _ _ _ h,cell_of_row _ _ 2 _ _ _ h,hP];exact ⟨rfl,rfl⟩
 clear h1 h2 h3 hct hlen hn1 hn2 hn3 O0
 go_enter Tryz.func10,Tryz.ntmps10
 go_wp2_with fail
 rw [← HPC.out]
 go_at_call 31
 refine (HD1.out _ HB0.out).mono ?_
 rintro e w1 ⟨b1,l1,v1,rfl,hl1,hn1,hb1⟩
 have HB1:=Lib.hid (HB0.out.trans (hb1.mono HB0.out.size))
 have HO1:=Lib.hid (HO0.out.below hb1)
 have HL1:=Lib.hid hl1
 have HN1:=Lib.hid hn1
 obtain ⟨d1,d2⟩:=HCE.out _ HO1.out
 clear hb1 hl1 hn1
 go_wp2_with fail
 go_at_call 31
 refine (HD2.out _ _ _ _ HB1.out HL1.out HN1.out).mono ?_
 rintro e w2 ⟨b2,l2,v2,rfl,hl2,hn2,hb2⟩
 have HB2:=Lib.hid (HB1.out.trans (hb2.mono HB1.out.size))
 have HO2:=Lib.hid (HO1.out.below hb2)
 have H2:Hid (∃ base l',LsR base w2 l' v2∧NL (nmDs x.shared++nmDs x.locks++nmTs (x.threads.take 0)) l'):=⟨b2,l2,hl2,by simpa [nmTs] using hn2⟩
 clear hb2 hl2 hn2 d1 d2
 go_wp2_with fail
 go_loopg [3,4] (n3+1) (fun m' v u X=>∃ i:Nat,u=.int .i64 (i:Int)∧i≤n3∧m'=n3-i+1∧(∃ base l',LsR base X l' v∧NL (nmDs x.shared++nmDs x.locks++nmTs (x.threads.take i)) l')∧Own X w.heap.size 25 P∧Below w.heap.size w X)
 case atStart=>exact ⟨0,rfl,Nat.zero_le _,by omega,H2.out,HO2.out,HB2.out⟩
 case round =>
  obtain ⟨i,rfl,hi,hm,⟨b3,l3,hl3,hn3⟩,hO,hX⟩:=hrel
  have HM:=Lib.hid hm
  have HX:=Lib.hid hX
  have HO:=Lib.hid hO
  have HL3:=Lib.hid hl3
  have HN3':=Lib.hid hn3
  clear hm hX hl3 hn3 hO
  have d2:=(HCE.out _ HO.out).2
  by_cases hin:i<n3
  · have il : i < x.threads.length := by have := HN3.out; omega
    have g1:x.threads[i]? = some x.threads[i]:=List.getElem?_eq_getElem il
    have hmem:x.threads[i]∈x.threads:=List.getElem_mem il
    generalize x.threads[i]=t at g1 hmem
    have hpt:=nmTs_part g1
    rcases E3.out with e | ⟨g,q,e,_,e1⟩
    · rw [List.isEmpty_iff.1 e] at il;simp at il
    obtain rfl:a3=some ⟨g,q,none⟩:=e
    have x1:=thsIn_get i t e1 g1
    have hbx:ctT t≤1048576:=by
     have h9:=ctTs_mem hmem
     have h8:ctTs x.threads≤ctP x:=by unfold ctP;omega
     have:=HCT.out
     omega
    obtain ⟨nm,lo,bd,ps⟩:=t
    obtain ⟨t0,⟨oa,oc,t1,w1'⟩,⟨ba,bc,t2,w2'⟩,_⟩:=x1
    simp only [ctT] at hbx
    have hin':(i:Int)<(n3:Int):=by omega
    have y0:wr.cell? ⟨g,q+i*4,none⟩=some (.string nm):=by rw [HX.out.cell (p:=⟨g,q+i*4,none⟩) (cell_lt t0)];exact t0
    obtain ⟨no,hno⟩:∃ z,z=lo.length:=⟨_,rfl⟩
    obtain ⟨nb,hnb⟩:∃ z,z=bd.length:=⟨_,rfl⟩
    have HC1:Hid (∀ base X M l v,Below w.heap.size w X→LsR base X l v→NL M l→M.length+(nmDs lo).length≤2097152→Calls Tryz.prog 31 #[v,.slice oa no oc] X (NmR (M++nmDs lo) X)):=fun base X M l v hX h1 h2 h3=>by
     rw [hno];exact HND.out base X M l v lo oa oc h1 h2 (dcsAt_below w1' hX) (by simpa [nmDs] using h3)
    have HC2:Hid (∀ base X M l v,Below w.heap.size w X→LsR base X l v→NL M l→M.length+(nmSs bd).length≤2097152→Calls Tryz.prog 33 #[v,.slice ba nb bc] X (NmR (M++nmSs bd) X)):=fun base X M l v hX h1 h2 h3=>by
     rw [hnb];exact HNS.out bd (show ctSs bd≤1048576 by omega) base X M l v ba bc h1 h2 (stsAt_below w2' hX) h3
    rw [← hno] at t1
    rw [← hnb] at t2
    have HA1:Hid (∀ X,Below w.heap.size w X→X.cell? ⟨g,q+i*4+1,none⟩=some (.slice oa no oc)):=fun X hX=>by rw [hX.cell (p:=⟨g,q+i*4+1,none⟩) (cell_lt t1)];exact t1
    have HA2:Hid (∀ X,Below w.heap.size w X→X.cell? ⟨g,q+i*4+2,none⟩=some (.slice ba nb bc)):=fun X hX=>by rw [hX.cell (p:=⟨g,q+i*4+2,none⟩) (cell_lt t2)];exact t2
    have HB3:Hid ((nmDs x.shared++nmDs x.locks++nmTs (x.threads.take i)).length+(1+((nmDs lo).length+(nmSs bd).length))≤2097152):=by
     have h2:=hpt.2
     have h3:=HL.out.1
     simp only [nmT,List.length_cons,List.length_append] at h2 ⊢
     unfold Hid
     omega
    have HPT:Hid (nmDs x.shared++nmDs x.locks++nmTs (x.threads.take (i+1))=(((nmDs x.shared++nmDs x.locks++nmTs (x.threads.take i))++[nm])++nmDs lo)++nmSs bd):=by
     rw [Hid,hpt.1];simp [nmT]
    clear t0 t1 t2 w1' w2' hno hnb hbx hmem g1 il e1 hpt
    generalize nmDs x.shared++nmDs x.locks++nmTs (x.threads.take i)=M at HN3' HB3 HPT
    go_wp2_with fail
    go_at_call 32
    refine (HPU.out _ _ _ _ nm HL3.out (by have:=nl_len_le HN3'.out;have:=HB3.out;omega)).mono ?_
    rintro e w5 ⟨v5,rfl,⟨b5,h5⟩,hb5⟩
    have HB5:=Lib.hid (HX.out.trans (hb5.mono HX.out.size))
    have HO5:=Lib.hid (HO.out.below hb5)
    have HL5:=Lib.hid h5
    have HN5:=Lib.hid (nl_put HN3'.out nm)
    have z1:=HA1.out _ HB5.out
    have z2:=(HCE.out _ HO5.out).2
    clear h5 hb5 d2 y0
    go_wp2_with fail
    go_at_call 31
    refine (HC1.out _ _ _ _ _ HB5.out HL5.out HN5.out (by have:=HB3.out;simp only [List.length_append,List.length_cons,List.length_nil];omega)).mono ?_
    rintro e w6 ⟨b6,l6,v6,rfl,h1,h2,hb⟩
    have HB6:=Lib.hid (HB5.out.trans (hb.mono HB5.out.size))
    have HO6:=Lib.hid (HO5.out.below hb)
    have HL6:=Lib.hid h1
    have HN6:=Lib.hid h2
    clear z1 z2 h1 h2 hb
    have z1:=HA2.out _ HB6.out
    have z2:=(HCE.out _ HO6.out).2
    go_wp2_with fail
    go_at_call 33
    refine (HC2.out _ _ _ _ _ HB6.out HL6.out HN6.out (by have:=HB3.out;simp only [List.length_append,List.length_cons,List.length_nil];omega)).mono ?_
    rintro e w9 ⟨b9,l9,v9,rfl,h1,h2,hb⟩
    have HB9:=Lib.hid (HB6.out.trans (hb.mono HB6.out.size))
    have HO9:=Lib.hid (HO6.out.below hb)
    have H9:Hid (∃ base l',LsR base w9 l' v9∧NL (nmDs x.shared++nmDs x.locks++nmTs (x.threads.take (i+1))) l'):=⟨_,_,h1,by rw [HPT.out];exact h2⟩
    clear z1 z2 h1 h2 hb
    go_wp2_with fail
    go_roundg (n3-(i+1)+1)
    case measure=>have:=HM.out;omega
    case rel=>exact ⟨i+1,rfl,by omega,by omega,H9.out,HO9.out,HB9.out⟩
  · obtain rfl : i = n3 := by omega
    have HF:Hid (nmDs x.shared++nmDs x.locks++nmTs (x.threads.take i)=nmP x):=by rw [Hid,List.take_of_length_le (by rw [← HN3.out];exact Nat.le_refl _)];rfl
    go_wp2_with fail
    go_ret
    exact ⟨b3,l3,_,rfl,HL3.out,by rw [← HF.out];exact HN3'.out,HX.out⟩
open Go.RowKit
set_option linter.unusedVariables false
mutual
theorem nmE_ct:∀ e:Ex,(nmE e).length≤ctE e
 | .mk k o w n ks a => by
   have:=nmEs_ct ks
   simp only [nmE,ctE,List.length_append]
   split
   · simp only [List.length_singleton];omega
   · simp only [List.length_nil];omega
theorem nmEs_ct:∀ l:List Ex,(nmEs l).length≤ctEs l
 | []=>by simp [nmEs]
 | e :: r => by
   have:=nmE_ct e
   have:=nmEs_ct r
   simp only [nmEs,ctEs,List.length_append]
   omega
end
mutual
theorem nmS_ct:∀ s:St,(nmS s).length≤2*ctS s
 | .mk k n o e b l a => by
   have:=nmEs_ct e
   have:=nmSs_ct b
   have:=nmSs_ct l
   simp only [nmS,ctS,List.length_append,List.length_cons]
   omega
theorem nmSs_ct:∀ l:List St,(nmSs l).length≤2*ctSs l
 | []=>by simp [nmSs]
 | e :: r => by
   have:=nmS_ct e
   have:=nmSs_ct r
   simp only [nmSs,ctSs,List.length_append]
   omega
end
theorem nmTs_ct:∀ l:List Th,(nmTs l).length≤2*ctTs l
 | []=>by simp [nmTs]
 | t :: r => by
   have h1:=nmTs_ct r
   have h2:=nmSs_ct t.body
   simp only [nmTs] at h1
   simp only [nmTs,List.flatMap_cons,List.length_append,nmT,List.length_cons,nmDs,List.length_map,ctTs]
   omega
theorem nmP_ct (x:Pg):(nmP x).length≤2*ctP x:=by
 have:=nmTs_ct x.threads
 simp only [nmP,nmDs,ctP,List.length_append,List.length_map]
 omega
theorem r_NamesC (x:Pg) (hct:ctP x≤1048576) {v:Value} {w:World} (hx:pA w x v):Calls Tryz.prog 10 #[v] w (NmR (nmP x) w) :=
 r_Names x hct (by have:=nmP_ct x;omega) hx
open Go.RowKit
set_option linter.unusedVariables false
theorem r_turnAt (st:Bool) (f t:ByteArray) (n:Int) (w:World):Calls Tryz.prog 65 #[.agg #[.bool st,.string f,.string t],.int .i64 n] w fun e w'=>e=.returned (.int .i64 (if st then 0 else n))∧Below w.heap.size w w':=by
 have B0:=Lib.hid ((Below.refl w.heap.size w).alloc (Nat.le_refl _) (.cells #[.bool st,.string f,.string t] 44))
 cases st
 · go_enter Tryz.func65, Tryz.ntmps65
   go_wp2_with fail
   go_ret
   exact ⟨rfl,by first | exact B0.out | exact Below.refl _ _⟩
 · go_enter Tryz.func65, Tryz.ntmps65
   go_wp2_with fail
   go_ret
   exact ⟨rfl,by first | exact B0.out | exact Below.refl _ _⟩
theorem r_turnName (st:Bool) (f t s:ByteArray) (w:World):Calls Tryz.prog 63 #[.agg #[.bool st,.string f,.string t],.string s] w fun e w'=>e=.returned (.string (gR f t s))∧Below w.heap.size w w':=by
 have B0:=Lib.hid ((Below.refl w.heap.size w).alloc (Nat.le_refl _) (.cells #[.bool st,.string f,.string t] 44))
 by_cases q0:s=⟨#[]⟩
 · have HR : Hid (gR f t s = s) := by rw [Hid, q0, gR_empty]
   have q1:(s.toList==([]:List UInt8))=true:=by have:=bytes_eqT q0;simpa using this
   clear q0
   go_enter Tryz.func63,Tryz.ntmps63
   go_wp2_with fail
   go_ret
   exact ⟨by rw [HR.out];rfl,by first | exact B0.out | exact Below.refl _ _⟩
 · have q1 : (s.toList == ([] : List UInt8)) = false := by have := bytes_eqF q0; simpa using this
   by_cases q2:s=f
   · have HR : Hid (gR f t s = t) := by unfold Hid gR; rw [if_pos ⟨q2, q0⟩]
     have q3:=bytes_eqT q2
     clear q0 q2
     go_enter Tryz.func63,Tryz.ntmps63
     go_wp2_with fail
     go_ret
     exact ⟨by rw [HR.out];rfl,by first | exact B0.out | exact Below.refl _ _⟩
   · have HR : Hid (gR f t s = s) := by unfold Hid gR; rw [if_neg fun h => q2 h.1]
     have q3:=bytes_eqF q2
     clear q0 q2
     go_enter Tryz.func63,Tryz.ntmps63
     go_wp2_with fail
     go_ret
     exact ⟨by rw [HR.out];rfl,by first | exact B0.out | exact Below.refl _ _⟩
open Go.RowKit
set_option linter.unusedVariables false
mutual
def Ex.tu (g:ByteArray→ByteArray) (h:Int→Int):Ex→Ex
 | .mk k o w n ks p=>.mk k o w (g n) (exsTu g h ks) (h p)
def exsTu (g:ByteArray→ByteArray) (h:Int→Int):List Ex→List Ex
 | []=>[]
 | e::r=>e.tu g h::exsTu g h r
end
mutual
def St.tu (g:ByteArray→ByteArray) (h:Int→Int):St→St
 | .mk k n o e b l p=>.mk k (g n) (g o) (exsTu g h e) (stsTu g h b) (stsTu g h l) (h p)
def stsTu (g:ByteArray→ByteArray) (h:Int→Int):List St→List St
 | []=>[]
 | e::r=>e.tu g h::stsTu g h r
end
def Dc.tu (g:ByteArray→ByteArray) (h:Int→Int) (d:Dc):Dc:=⟨g d.name,d.wd,h d.pos⟩
def Th.tu (g:ByteArray→ByteArray) (h:Int→Int) (t:Th):Th:=⟨g t.name,t.locals.map (Dc.tu g h),stsTu g h t.body,h t.pos⟩
def Pg.tu (g:ByteArray→ByteArray) (h:Int→Int) (p:Pg):Pg:=⟨p.shared.map (Dc.tu g h),p.locks.map (Dc.tu g h),p.threads.map (Th.tu g h)⟩
def hR (st:Bool) (n:Int):Int:=if st then 0 else n
section
variable {g:ByteArray→ByteArray} {h:Int→Int}
theorem exsTu_map:∀ l:List Ex,exsTu g h l=l.map (Ex.tu g h)
 | []=>rfl
 | x::r=>by rw [exsTu,exsTu_map r];rfl
theorem stsTu_map:∀ l:List St,stsTu g h l=l.map (St.tu g h)
 | []=>rfl
 | x::r=>by rw [stsTu,stsTu_map r];rfl
theorem exsTu_len (l:List Ex):(exsTu g h l).length=l.length:=by rw [exsTu_map,List.length_map]
theorem stsTu_len (l:List St):(stsTu g h l).length=l.length:=by rw [stsTu_map,List.length_map]
theorem exsTu_ren:∀ l:List Ex,fxEs g l→exsTu g (hR false) l=exsRen g l:=by
 intro l
 induction l using Exs.ind with
 | h0=>intro _;rfl
 | h1 k o wd nm ks p r ih1 ih2 =>
   intro hx
   have h2:=hx.2
   have h1:fxE g (.mk k o wd nm ks p):=hx.1
   simp only [fxE] at h1
   simp only [exsTu,Ex.tu,exsRen,Ex.ren,ih1 h1.2,ih2 h2]
   by_cases e:k=2
   · rw [if_pos e];rfl
   · rw [if_neg e,h1.1 e];rfl
theorem stsTu_ren:∀ l:List St,fxSs g l→stsTu g (hR false) l=stsRen g l:=by
 intro l
 induction l using Sts.ind with
 | h0=>intro _;rfl
 | h1 k n o e b l p r ih1 ih2 ih3 =>
   intro hx
   have h2:=hx.2
   have h1:fxS g (.mk k n o e b l p):=hx.1
   simp only [fxS] at h1
   simp only [stsTu,St.tu,stsRen,St.ren,exsTu_ren e h1.1,ih1 h1.2.1,ih2 h1.2.2,ih3 h2]
   rfl
theorem pgTu_ren {x:Pg} (hx:fxP g x):x.tu g (hR false)=x.ren g:=by
 simp only [Pg.tu,Pg.ren,Pg.mk.injEq]
 refine ⟨rfl,rfl,List.map_congr_left fun t ht=>?_⟩
 simp only [Th.tu,Th.ren,stsTu_ren _ (hx t ht)]
 rfl
end
end Go.Proofs.YtimccjlhhjjcpaaGreatDoor

/- The proof, part 38: texts that belong together, in one. -/
import Derived.Test.YtggbkldniffbfaaGreatDoorTBK
import Derived.Test.YtggbkldniffbfaaGreatDoorTAW
import Derived.ChangeArms
import Derived.SizedLaws
import Derived.Carry
import Derived.ChangeSame
import Derived.WideShapes
import Derived.Deep.QuietTactic
import Derived.BigQuiet
import Derived.Deep.Draws
import Derived.StillTailTactics
import Derived.Deep.LoopGhost
import Derived.Test.YtggbkldniffbfaaGreatDoorTAR
import Derived.Test.YtggbkldniffbfaaGreatDoorTAG
import Derived.Test.YtggbkldniffbfaaGreatDoorTAH
import Derived.Test.YtggbkldniffbfaaGreatDoorTAK
import Derived.Deep.RegionWith
import Derived.Test.YtggbkldniffbfaaGreatDoorTAL
import Derived.Test.YtggbkldniffbfaaGreatDoorTAO
import Derived.Test.YtggbkldniffbfaaGreatDoorTAQ
set_option maxRecDepth 100000
set_option maxHeartbeats 20000000
namespace Go.Proofs.YtggbkldniffbfaaGreatDoor
set_option linter.unusedVariables false
def anyZ:Bs→Prop:=fun _=>True
theorem Cut.cast {t:Bs} {ks ls:List Bk} {ok:Bs→Prop} (h:Cut t ks ok) (e:ks=ls):Cut t ls ok:=e ▸ h
theorem Cut.castT {t u:Bs} {ks:List Bk} {ok:Bs→Prop} (h:Cut t ks ok) (e:t=u):Cut u ks ok:=e ▸ h
theorem c_sp (ok:Bs→Prop):Cut [32] [] ok:=cut_blank (by decide) ok
theorem toN {t:Bs} {ks:List Bk} (h:Cut t ks okG):Cut t ks okN:=cut_mono h fun _ hZ=>okS_of hZ
theorem c_semi:Cut [59] [sgK [59]] okG:=cut_one (by decide) (by decide) (by decide) (by decide)
theorem c_open:Cut [40] [sgK [40]] okG:=cut_one (by decide) (by decide) (by decide) (by decide)
theorem c_shut:Cut [41] [sgK [41]] okG:=cut_one (by decide) (by decide) (by decide) (by decide)
theorem c_brace:Cut [123] [sgK [123]] okG:=cut_one (by decide) (by decide) (by decide) (by decide)
theorem c_close:Cut [125] [sgK [125]] okG:=cut_one (by decide) (by decide) (by decide) (by decide)
theorem c_is:Cut [61] [sgK [61]] okG:=cut_one (by decide) (by decide) (by decide) (by decide)
theorem c_com:Cut [44] [sgK [44]] okG:=cut_one (by decide) (by decide) (by decide) (by decide)
theorem g32 {Z:Bs} : okG (32::Z):=⟨by decide,by decide,by decide,by decide⟩
theorem g59 {Z:Bs} : okG (59::Z):=⟨by decide,by decide,by decide,by decide⟩
theorem n32 {Z:Bs} : okN (32::Z):=.inl rfl
theorem n41 {Z:Bs} : okN (41::Z):=.inr (.inl rfl)
theorem n59 {Z:Bs} : okN (59::Z):=.inr (.inr (.inl rfl))
theorem n44 {Z:Bs} : okN (44::Z):=.inr (.inr (.inr (.inl rfl)))
theorem n10 {Z:Bs} : okN (10::Z):=.inr (.inr (.inr (.inr (.inl rfl))))
theorem n40 {Z:Bs} : okN (40::Z):=.inr (.inr (.inr (.inr (.inr rfl))))
theorem sp_after {t:Bs} {ks:List Bk} (h:Cut t ks okG):Cut (t++[32]) ks anyZ:=(cut_app h (c_sp anyZ) (fun _ _=>g32)).cast (by simp)
theorem spN_after {t:Bs} {ks:List Bk} (h:Cut t ks okN):Cut (t++[32]) ks anyZ:=(cut_app h (c_sp anyZ) (fun _ _=>n32)).cast (by simp)
theorem sp_ahead {t:Bs} {ks:List Bk} {ok:Bs→Prop} (h:Cut t ks ok):Cut (32::t) ks ok:=cut_app (c_sp anyZ) h (fun _ _=>trivial)
theorem c_eq:Cut [32,61,32] [sgK [61]] anyZ:=sp_ahead (sp_after c_is)
theorem c_comma:Cut [44,32] [sgK [44]] anyZ:=sp_after c_com
theorem w_of (s:Bs) (h:wordL s=true) (hp:(match s with | []=>false | c::_=>letterB (c.toNat:Int))=true) (hall:s.all (fun c=>namedB (c.toNat:Int))=true):Cut s [kW s] okN:=cut_word h hp hall
theorem c_swap:Cut [32,61,32,115,119,97,112,40] [sgK [61],kW [115,119,97,112],sgK [40]] okG :=
 cut_app c_eq (cut_app (w_of [115,119,97,112] (by decide) (by decide) (by decide)) c_open (fun _ _=>n40)) (fun _ _=>trivial)
theorem c_end2:Cut [41,59] [sgK [41],sgK [59]] okG:=cut_app c_shut c_semi (fun _ _=>g59)
theorem c_if:Cut [105,102,32,40] [kW [105,102],sgK [40]] okG:=cut_app (spN_after (w_of [105,102] (by decide) (by decide) (by decide))) c_open (fun _ _=>trivial)
theorem c_while:Cut [119,104,105,108,101,32,40] [kW [119,104,105,108,101],sgK [40]] okG:=cut_app (spN_after (w_of [119,104,105,108,101] (by decide) (by decide) (by decide))) c_open (fun _ _=>trivial)
theorem c_head:Cut [41,32,123] [sgK [41],sgK [123]] okG:=cut_app (sp_after c_shut) c_brace (fun _ _=>trivial)
theorem c_lock:Cut [108,111,99,107,32] [kW [108,111,99,107]] anyZ:=spN_after (w_of [108,111,99,107] (by decide) (by decide) (by decide))
theorem c_print:Cut [112,114,105,110,116,32] [kW [112,114,105,110,116]] anyZ:=spN_after (w_of [112,114,105,110,116] (by decide) (by decide) (by decide))
theorem c_thread:Cut [116,104,114,101,97,100,32] [kW [116,104,114,101,97,100]] anyZ:=spN_after (w_of [116,104,114,101,97,100] (by decide) (by decide) (by decide))
theorem c_obr:Cut [32,123] [sgK [123]] okG:=sp_ahead c_brace
theorem c_skip:Cut [115,107,105,112,59] [kW [115,107,105,112],sgK [59]] okG:=cut_app (w_of [115,107,105,112] (by decide) (by decide) (by decide)) c_semi (fun _ _=>n59)
theorem c_else:Cut [125,32,101,108,115,101,32,123] [sgK [125],kW [101,108,115,101],sgK [123]] okG :=
 cut_app (sp_after c_close) (cut_app (spN_after (w_of [101,108,115,101] (by decide) (by decide) (by decide))) c_brace (fun _ _=>trivial)) (fun _ _=>trivial)
theorem cut_marg:∀ d:Nat,Cut (marg d) [] anyZ
 | 0=>cut_nil anyZ
 | d+1=>cut_app (cut_app (c_sp anyZ) (c_sp anyZ) (fun _ _=>trivial)) (cut_marg d) (fun _ _=>trivial)
theorem cut_ln {d:Nat} {l:List Bs} {ks:List Bk} (h:Cut l.flatten ks okN):Cut (ln d l) ks anyZ :=
 (cut_app (cut_app (cut_marg d) h (fun _ _=>trivial)) (cut_blank (c:=10) (by decide) anyZ) (fun _ _=>n10)).cast (by simp)
theorem rs_e {y:Ex} (hy:rE y 0=true) (hg:rgE y):Cut (tE y) (kE y) okN∧begG (tE y):=cut_ex y 0 hy hg
theorem flat3 (a b c:Bs):[a,b,c].flatten=a++(b++c):=by simp
theorem flat4 (a b c d:Bs):[a,b,c,d].flatten=a++(b++(c++d)):=by simp
theorem flat6 (a b c d e f:Bs):[a,b,c,d,e,f].flatten=a++(b++(c++(d++(e++f)))):=by simp
theorem flat1 (a:Bs):[a].flatten=a:=by simp
def CutS (x:St):Prop:=∀ (dd:Nat) (d:Int),rS x d=true→rgS x→Cut (tS x dd) (kS x) anyZ
theorem cut_Ss {l:List St} (H:∀ x∈l,CutS x):∀ (dd:Nat) (d:Int),rAll l d=true→rgSs l→Cut (tSs l dd) (kSs l) anyZ:=by
 induction l with
 | nil=>intro dd d _ _;exact cut_nil anyZ
 | cons x l ih =>
   intro dd d hr hg
   simp only [rAll,Bool.and_eq_true] at hr
   simp only [tSs,kSs]
   exact cut_app (H x (.head _) dd d hr.1 hg.1) (ih (fun y hy=>H y (.tail _ hy)) dd d hr.2 hg.2) (fun _ _=>trivial)
theorem cut_stmt:∀ x:St,CutS x:=by
 intro x
 induction x using St.ind with
 | h k nm ot es bo el ps ihb ihl =>
   have HB:=cut_Ss ihb
   have HE:=cut_Ss ihl
   intro dd d hr hrg
   obtain ⟨_,hg1,hg2,hg3⟩:=hrg
   simp only [rS,Bool.and_eq_true,decide_eq_true_eq] at hr
   obtain ⟨hk0,hk8,r1,r2,r3,r4,r5,r6,r7,r8⟩:=hr
   have rb:(shp k).2.2.2.1=true→rAll bo (d+1)=true:=fun hs=>by
    rw [hs] at r7
    simp at r7
    exact r7.2
   rcases kind_cases hk0 hk8 with rfl | rfl | rfl | rfl | rfl | rfl | rfl
   · obtain ⟨y, rfl, hy⟩ := one_e r3 rfl r6
     obtain ⟨c1,c2⟩:=rs_e hy hg1.1
     have h:=cut_ln (d:=dd) (l:=[nm.data.toList,[32,61,32],tE y,[59]]) (by
      rw [flat4]
      exact cut_app (cut_name r1) (cut_app c_eq (cut_app c1 (toN c_semi) (fun _ _=>n59)) (fun _ _=>trivial)) (fun _ _=>n32))
     exact (h.castT (by simp only [tS];rfl)).cast (by simp only [kS];rfl)
   · obtain ⟨y, rfl, hy⟩ := one_e r3 rfl r6
     obtain ⟨c1,c2⟩:=rs_e hy hg1.1
     have h:=cut_ln (d:=dd) (l:=[nm.data.toList,[32,61,32,115,119,97,112,40],ot.data.toList,[44,32],tE y,[41,59]]) (by
      rw [flat6]
      exact cut_app (cut_name r1) (cut_app c_swap (cut_app (cut_name r2) (cut_app c_comma (cut_app c1 (toN c_end2) (fun _ _=>n41)) (fun _ _=>trivial)) (fun _ _=>n44)) (fun Z _=>by rw [List.append_assoc];exact begG_app (name_beg r2))) (fun _ _=>n32))
     exact (h.castT (by simp only [tS];rfl)).cast (by simp only [kS];rfl)
   · obtain ⟨y, rfl, hy⟩ := one_e r3 rfl r6
     obtain ⟨c1,c2⟩:=rs_e hy hg1.1
     have h1:=cut_ln (d:=dd) (l:=[[105,102,32,40],tE y,[41,32,123]]) (by
      rw [flat3]
      exact cut_app c_if (cut_app c1 (toN c_head) (fun _ _=>n41)) (fun Z _=>by rw [List.append_assoc];exact begG_app c2))
     have h2:=HB (dd+1) (d+1) (rb rfl) hg2
     have h3:=cut_ln (d:=dd) (l:=[[125]]) (by rw [flat1];exact toN c_close)
     by_cases hel:0<el.length
     · have h4 := cut_ln (d := dd) (l := [[125, 32, 101, 108, 115, 101, 32, 123]]) (by rw [flat1]; exact toN c_else)
       have ra:rAll el (d+1)=true:=by
        rw [decide_eq_true (show 0<(el.length:Int) by omega)] at r8
        simp at r8
        exact r8.2
       have h5:=HE (dd+1) (d+1) ra hg3
       have h:=cut_app (cut_app (cut_app h1 h2 (fun _ _=>trivial)) (cut_app h4 h5 (fun _ _=>trivial)) (fun _ _=>trivial)) h3 (fun _ _=>trivial)
       exact (h.castT (by simp only [tS];rw [if_neg (by omega),if_neg (by omega),if_pos trivial,if_pos hel];rfl)).cast (by simp only [kS];rw [if_neg (by omega),if_neg (by omega),if_pos trivial,if_pos hel];simp [e0K])
     · have h := cut_app (cut_app h1 h2 (fun _ _ => trivial)) h3 (fun _ _ => trivial)
       exact (h.castT (by simp only [tS];rw [if_neg (by omega),if_neg (by omega),if_pos trivial,if_neg hel,List.append_nil];rfl)).cast (by simp only [kS];rw [if_neg (by omega),if_neg (by omega),if_pos trivial,if_neg hel];simp [e0K])
   · obtain ⟨y, rfl, hy⟩ := one_e r3 rfl r6
     obtain ⟨c1,c2⟩:=rs_e hy hg1.1
     have h1:=cut_ln (d:=dd) (l:=[[119,104,105,108,101,32,40],tE y,[41,32,123]]) (by
      rw [flat3]
      exact cut_app c_while (cut_app c1 (toN c_head) (fun _ _=>n41)) (fun Z _=>by rw [List.append_assoc];exact begG_app c2))
     have h:=cut_app (cut_app h1 (HB (dd+1) (d+1) (rb rfl) hg2) (fun _ _=>trivial)) (cut_ln (d:=dd) (l:=[[125]]) (by rw [flat1];exact toN c_close)) (fun _ _=>trivial)
     exact (h.castT (by simp only [tS];rfl)).cast (by simp only [kS];rw [if_neg (by omega),if_neg (by omega),if_neg (by omega),if_pos trivial];simp [e0K])
   · have h1 := cut_ln (d := dd) (l := [[108, 111, 99, 107, 32], nm.data.toList, [32, 123]]) (by
      rw [flat3]
      exact cut_app c_lock (cut_app (cut_name r1) (toN c_obr) (fun _ _=>n32)) (fun _ _=>trivial))
     have h:=cut_app (cut_app h1 (HB (dd+1) (d+1) (rb rfl) hg2) (fun _ _=>trivial)) (cut_ln (d:=dd) (l:=[[125]]) (by rw [flat1];exact toN c_close)) (fun _ _=>trivial)
     exact (h.castT (by simp only [tS];rfl)).cast (by simp only [kS];rw [if_neg (by omega),if_neg (by omega),if_neg (by omega),if_neg (by omega),if_pos trivial];simp)
   · obtain ⟨y, rfl, hy⟩ := one_e r3 rfl r6
     obtain ⟨c1,c2⟩:=rs_e hy hg1.1
     have h:=cut_ln (d:=dd) (l:=[[112,114,105,110,116,32],tE y,[59]]) (by
      rw [flat3]
      exact cut_app c_print (cut_app c1 (toN c_semi) (fun _ _=>n59)) (fun _ _=>trivial))
     exact (h.castT (by simp only [tS];rfl)).cast (by simp only [kS];rfl)
   · have h := cut_ln (d := dd) (l := [[115, 107, 105, 112, 59]]) (by rw [flat1]; exact toN c_skip)
     exact (h.castT (by simp only [tS];rfl)).cast (by simp only [kS];rfl)
set_option linter.unusedVariables false
theorem cut_word_num {v:Int} (h0 : -9223372036854775808<v) (h1:v≤9223372036854775807):Cut (Lib.itoa v) (if v<0 then [sgK [45],nbK (-v)] else [nbK v]) okN:=by
 by_cases hv:v<0
 · rw [if_pos hv]
   have e:Lib.itoa v=[45]++Lib.itoa (-v):=by
    unfold Lib.itoa
    rw [if_pos hv,if_neg (by omega),show v.natAbs=(-v).toNat by omega]
    rfl
   rw [e]
   exact cut_app (cut_one (c:=45) (by decide) (by decide) (by decide) (by decide)) (cut_num (by omega) (by omega)) (fun Z _=>begG_app (num_beg (by omega) (by omega)))
 · rw [if_neg hv]
   exact cut_num (by omega) h1
def okD (d:Dc):Prop:=nameB d.name=true ∧ -9223372036854775808<d.wd∧d.wd≤9223372036854775807
theorem cut_decl {s:ByteArray} {ks:List Bk} (hs:Cut s.data.toList ks anyZ) {d:Dc} (h:okD d):Cut (cat (dPart s d)) (ks++dK d) okN:=by
 unfold dPart dK
 rw [cat_cons,cat_cons]
 by_cases hz:d.wd=0
 · rw [if_pos hz, if_pos hz]
   exact cut_app hs ((cut_name h.1).castT (by simp [cat])) (fun _ _=>trivial)
 · rw [if_neg hz, if_neg hz]
   refine cut_app hs ?_ (fun _ _=>trivial)
   refine (cut_app (cut_name h.1) (cut_app c_eq (cut_word_num h.2.1 h.2.2) (fun _ _=>trivial)) (fun _ _=>n32)).castT ?_
   simp [cat,eqS,itoaS]
theorem cut_decls:∀ (l:List Dc) (s:ByteArray) (ks:List Bk),Cut s.data.toList ks anyZ→l≠[]→(∀ d∈l,okD d)→Cut (cat (dParts s l)++[59]) (ks++dsK l) okG
 | [],s,ks,_,h0,_=>absurd rfl h0
 | [d], s, ks, hs, _, hk => by
   have h:=cut_app (cut_decl hs (hk d (.head _))) c_semi (fun _ _=>n59)
   exact (h.castT (by simp [dParts])).cast (by simp [dsK])
 | d :: e :: l, s, ks, hs, _, hk => by
   have h1:=cut_decls (e::l) cmS [sgK [44]] c_comma (by simp) (fun y hy=>hk y (.tail _ hy))
   have h:=cut_app (cut_decl hs (hk d (.head _))) h1 (fun Z _=>by
    simp only [dParts,dPart,List.cons_append,cat_cons,List.append_assoc]
    exact n44)
   refine (h.castT ?_).cast ?_
   · conv => rhs; rw [dParts, cat_append]
     rw [List.append_assoc]
   · simp [dsK]
theorem cut_line {word:ByteArray} {w:Bs} (hw:Cut word.data.toList [kW w] okN) {l:List Dc} (hk:∀ d∈l,okD d) (d:Nat):Cut (tDs word l d) (lineK w l) anyZ:=by
 unfold tDs lineK
 by_cases h0:l.length=0
 · rw [if_pos h0, if_pos h0]
   exact cut_nil anyZ
 · rw [if_neg h0, if_neg h0]
   have hl:l≠[]:=fun e=>h0 (by rw [e];rfl)
   have h1:=cut_decls l spS [] (c_sp anyZ) hl hk
   have h2:=cut_app hw (toN h1) (fun Z _=>by
    cases l with
    | nil=>exact absurd rfl hl
    | cons x r =>
      simp only [dParts,dPart,List.cons_append,cat_cons,List.append_assoc]
      exact n32)
   have h3:=cut_app (cut_app (cut_marg d) h2 (fun _ _=>trivial)) (cut_blank (c:=10) (by decide) anyZ) (fun _ _=>n10)
   refine (h3.castT ?_).cast ?_
   · rw [cat_cons, cat_append]
     simp [cat,smS]
   · simp
theorem cut_thread {x:Th} (hx:thB x=true) (hg:rgT x):Cut (tT x) (kT x) anyZ:=by
 obtain ⟨nm,lo,bo,ps⟩:=x
 simp only [thB,Bool.and_eq_true] at hx
 obtain ⟨hx1,hx2,hx3⟩:=hx
 have hra:rAll bo 1=true:=by
  unfold rB at hx3
  simp only [Bool.and_eq_true] at hx3
  exact hx3.2
 have h1:=cut_ln (d:=0) (l:=[[116,104,114,101,97,100,32],nm.data.toList,[32,123]]) (by
  rw [flat3]
  exact cut_app c_thread (cut_app (cut_name hx1) (toN c_obr) (fun _ _=>n32)) (fun _ _=>trivial))
 have hl:∀ d∈lo,okD d:=fun d hd=>by
  have:=List.all_eq_true.1 hx2 d hd
  simp only [Bool.and_eq_true,beq_iff_eq] at this
  exact ⟨this.1,by omega,by omega⟩
 have h2:=cut_line (word:=⟨#[108,111,99,97,108]⟩) (w:=[108,111,99,97,108]) (w_of _ (by decide) (by decide) (by decide)) hl 1
 have h3:=cut_Ss (fun y (_:y∈bo)=>cut_stmt y) 1 1 hra hg
 have h4:=cut_ln (d:=0) (l:=[[125]]) (by rw [flat1];exact toN c_close)
 have h:=cut_app h1 (cut_app h2 (cut_app h3 h4 (fun _ _=>trivial)) (fun _ _=>trivial)) (fun _ _=>trivial)
 exact (h.castT rfl).cast rfl
theorem cut_threads:∀ (l:List Th),(∀ t∈l,thB t=true)→(∀ t∈l,rgT t)→Cut (l.flatMap tT) (l.flatMap kT) anyZ
 | [],_,_=>cut_nil anyZ
 | x :: l, h, hg => by
   rw [List.flatMap_cons,List.flatMap_cons]
   exact cut_app (cut_thread (h x (.head _)) (hg x (.head _))) (cut_threads l (fun t ht=>h t (.tail _ ht)) (fun t ht=>hg t (.tail _ ht))) (fun _ _=>trivial)
theorem cut_prog {x:Pg} (hx:rP x=true) (hg:rgP x) (hD:rgD x.shared):Cut (tP x) (kP x) anyZ:=by
 obtain ⟨sh,lk,th⟩:=x
 simp only [rP,Bool.and_eq_true] at hx
 obtain ⟨hx1,hx2,hx3⟩:=hx
 have h1:∀ d∈sh,okD d:=fun d hd=>by
  have:=List.all_eq_true.1 hx1 d hd
  simp only [Bool.and_eq_true,decide_eq_true_eq] at this
  exact ⟨this.1,this.2,(hD d hd).2⟩
 have h2:∀ d∈lk,okD d:=fun d hd=>by
  have:=List.all_eq_true.1 hx2 d hd
  simp only [Bool.and_eq_true,beq_iff_eq] at this
  exact ⟨this.1,by omega,by omega⟩
 have c1:=cut_line (word:=⟨#[115,104,97,114,101,100]⟩) (w:=[115,104,97,114,101,100]) (w_of _ (by decide) (by decide) (by decide)) h1 0
 have c2:=cut_line (word:=⟨#[108,111,99,107]⟩) (w:=[108,111,99,107]) (w_of _ (by decide) (by decide) (by decide)) h2 0
 exact cut_app c1 (cut_app c2 (cut_threads th (List.all_eq_true.1 hx3) hg) (fun _ _=>trivial)) (fun _ _=>trivial)
set_option linter.unusedVariables false
theorem front_cut {t:Bs} {ks:List Bk} {ok:Bs→Prop} (h:Cut t ks ok) (h0:ok []):∃ xs,frontR ⟨t.toArray⟩=(xs,0,0)∧(xs.map Res.tk).map Tk.bt=ks:=by
 obtain ⟨xs,q,a1,a2⟩:=h 0 [] h0
 have hr:restL q []=([],0,0):=rfl
 rw [hr,List.append_nil,List.append_nil] at a1
 refine ⟨xs,?_,?_⟩
 · rw [front_list];exact a1
 · rw [List.map_map];exact a2
theorem size_of_list (t:Bs):(⟨t.toArray⟩:ByteArray).size=t.length:=by
 show t.toArray.size=_
 simp
theorem said_P_back {x:Pg} (hx:rP x=true) (hg:rgP x) (hD:rgD x.shared) (hl:(tP x).length≤65536):∃ y,said_P ⟨(tP x).toArray⟩=(some y,0,0,0)∧samePg x y=true:=by
 obtain ⟨xs,h1,h2⟩:=front_cut (cut_prog hx hg hD) trivial
 obtain ⟨y,a1,a2⟩:=prog_back (L:=(tP x).length) (n:=fuel (xs.map Res.tk)) hx h2 (by unfold fuel;omega)
 refine ⟨y,?_,a2⟩
 unfold said_P wholeR scanX
 rw [size_of_list,if_neg (by omega),h1]
 simp only [not_true_eq_false,if_false,if_true]
 rw [if_neg (by omega),a1]
 rfl
open Go.RowKit
set_option linter.unusedVariables false
def RSameC (e:Ex):Prop:=okE e→∀ (f:Ex) (v u:Value) (w:World),exA w e v→exA w f u→Calls Tryz.prog 12 #[v,u] w fun e' w'=>e'=.returned (.bool (sameE e f))∧Below w.heap.size w w'
theorem r_exprs {l:List Ex} (HI:∀ x∈l,RSameC x) (HO:okEs l) {m:List Ex} {a b:Option Addr} {c1 c2:Nat} {w:World} (hl:l.length≤9223372036854775807) (h1:exsAt (fun _=>True) w l a) (h2:exsAt (fun _=>True) w m b) :
 Calls Tryz.prog 32 #[.slice a l.length c1,.slice b m.length c2] w fun e w'=>e=.returned (.bool (sameEs l m))∧Below w.heap.size w w':=by
 by_cases hne:l.length=m.length
 · obtain ⟨R, hR⟩ : ∃ R, R = sameEs l m := ⟨_, rfl⟩
   rw [← hR]
   have HRR:=Lib.hid hR
   have HI:=Lib.hid HI
   have HO:=Lib.hid HO
   have HL:=Lib.hid hl
   have HLM:=Lib.hid hne
   have E1:=Lib.hid h1
   have E2:=Lib.hid h2
   rw [← hne]
   obtain ⟨n,hn⟩:∃ n,n=l.length:=⟨_,rfl⟩
   rw [← hn]
   have HN:=Lib.hid hn
   have hn6:n≤9223372036854775807:=by omega
   have hnn:((n:Int) != (n:Int))=false:=by simp
   clear hl hne h1 h2 hR hn
   go_enter Tryz.func32,Tryz.ntmps32
   go_wp2_with fail
   go_loopg [13] (n+1) (fun m' u W=>∃ i:Nat,u=.int .i64 (i:Int)∧i≤n∧m'=n-i+1∧sameFrom l m i=R∧Below w.heap.size w W)
   case atStart=>exact ⟨0,rfl,Nat.zero_le _,by omega,HRR.out.symm,Below.refl _ w⟩
   case round =>
    obtain ⟨i,rfl,hi,hm,hR,hb⟩:=hrel
    have HB:=Lib.hid hb
    have HRI:=Lib.hid hR
    have HM:=Lib.hid hm
    clear hb hR hm
    by_cases hin:i<n
    · have HIN := Lib.hid hin
      have il:i<l.length:=by have:=HN.out;omega
      have im:i<m.length:=by have:=HLM.out;omega
      have g1:l[i]? = some l[i]:=List.getElem?_eq_getElem il
      have g2:m[i]? = some m[i]:=List.getElem?_eq_getElem im
      have hmem:l[i]∈l:=List.getElem_mem il
      have hst:=sameFrom_step il im
      generalize l[i]=x at g1 hst hmem
      generalize m[i]=y at g2 hst
      have HX:=Lib.hid (HI.out x hmem (okEs_mem HO.out x hmem))
      rcases E1.out with e | ⟨g,q,rfl,_,e1⟩
      · cases l with
        | nil=>simp at il
        | cons=>cases e
      rcases E2.out with e | ⟨g',q',rfl,_,e2⟩
      · cases m with
        | nil=>simp at im
        | cons=>cases e
      have x1:=exsIn_get i x e1 g1
      have y1:=exsIn_get i y e2 g2
      have HST:=Lib.hid (HRI.out.symm.trans hst)
      obtain ⟨k,o,wd,nm,ks,ps⟩:=x
      obtain ⟨k',o',wd',nm',ks',ps'⟩:=y
      obtain ⟨a0,a1,a2,a3,⟨ka,kc,a4,hka⟩,a5⟩:=x1
      obtain ⟨b0,b1,b2,b3,⟨kb,kd,b4,hkb⟩,b5⟩:=y1
      have HKA:=Lib.hid hka
      have HKB:=Lib.hid hkb
      have lg:=lt_of_at a0
      have lg':=lt_of_at b0
      simp only at lg lg'
      have BX:=HB.out
      have a0:=(BX.cell (p:=⟨g,q+i*6,none⟩) lg).trans a0
      have a1:=(BX.cell (p:=⟨g,q+i*6+1,none⟩) lg).trans a1
      have a2:=(BX.cell (p:=⟨g,q+i*6+2,none⟩) lg).trans a2
      have a3:=(BX.cell (p:=⟨g,q+i*6+3,none⟩) lg).trans a3
      have a4:=(BX.cell (p:=⟨g,q+i*6+4,none⟩) lg).trans a4
      have a5:=(BX.cell (p:=⟨g,q+i*6+5,none⟩) lg).trans a5
      have b0:=(BX.cell (p:=⟨g',q'+i*6,none⟩) lg').trans b0
      have b1:=(BX.cell (p:=⟨g',q'+i*6+1,none⟩) lg').trans b1
      have b2:=(BX.cell (p:=⟨g',q'+i*6+2,none⟩) lg').trans b2
      have b3:=(BX.cell (p:=⟨g',q'+i*6+3,none⟩) lg').trans b3
      have b4:=(BX.cell (p:=⟨g',q'+i*6+4,none⟩) lg').trans b4
      have b5:=(BX.cell (p:=⟨g',q'+i*6+5,none⟩) lg').trans b5
      have hin':(i:Int)<(n:Int):=by omega
      have BW:Hid (Below w.heap.size w wr.drew):=below_drewN HB.out 1
      have HC:Hid (Calls Tryz.prog 12 #[.agg #[.int .u8 k,.int .u8 o,.int .i64 wd,.string nm,.slice ka ks.length kc,.int .i64 ps],.agg #[.int .u8 k',.int .u8 o',.int .i64 wd',.string nm',.slice kb ks'.length kd,.int .i64 ps']] wr.drew fun e' w'=>e'=.returned (.bool (sameE (.mk k o wd nm ks ps) (.mk k' o' wd' nm' ks' ps')))∧Below wr.drew.heap.size wr.drew w') :=
       HX.out _ _ _ _ ⟨ka,kc,rfl,exsAt_below HKA.out BW.out⟩ ⟨kb,kd,rfl,exsAt_below HKB.out BW.out⟩
      generalize sameE (.mk k o wd nm ks ps) (.mk k' o' wd' nm' ks' ps')=B at HST HC
      clear hst hmem g1 g2 e1 e2 hka hkb il im BX
      go_wp2_with fail
      go_still_tail 8,(by kernel_rfl)
      change wpList _ _ _ _ _ wr.drew
      clear a0 a1 a2 a3 a4 a5 b0 b1 b2 b3 b4 b5
      obtain ⟨W1,hW1⟩:∃ W,W=wr.drew:=⟨_,rfl⟩
      rw [← hW1] at HC BW ⊢
      clear hW1
      cases B with
      | false =>
        go_wp2_with (go_at_call 12;refine (HC.out).mono ?_;rintro e w3 ⟨rfl,hb3⟩;have HB3:=Lib.hid hb3;clear hb3)
        go_ret
        exact ⟨by rw [HST.out];rfl,BW.out.trans (HB3.out.mono (BW.out.size))⟩
      | true =>
        go_wp2_with (go_at_call 12;refine (HC.out).mono ?_;rintro e w3 ⟨rfl,hb3⟩;have HB3:=Lib.hid hb3;clear hb3)
        go_roundg (n-(i+1)+1)
        case measure=>have:=HM.out;omega
        case rel=>exact ⟨i+1,rfl,by omega,by omega,by rw [HST.out];simp,BW.out.trans (HB3.out.mono (BW.out.size))⟩
    · have : i = n := by omega
      subst this
      have hR:R=true:=by rw [← HRI.out];exact sameFrom_end (by have:=HN.out;omega) (by have:=HLM.out;have:=HN.out;omega)
      have HRT:=Lib.hid hR
      clear hR
      go_wp2_with fail
      go_ret
      exact ⟨by rw [HRT.out];rfl,HB.out⟩
 · rw [sameEs_ne hne]
   obtain ⟨n,hn⟩:∃ n,n=l.length:=⟨_,rfl⟩
   obtain ⟨k,hk⟩:∃ k,k=m.length:=⟨_,rfl⟩
   rw [← hn] at hne hl ⊢
   rw [← hk] at hne ⊢
   have hq:((n:Int) != (k:Int))=true:=by simp;omega
   clear h1 h2 HI HO hn hk
   go_enter Tryz.func32,Tryz.ntmps32
   go_wp2_with fail
   go_ret
   exact ⟨rfl,Below.refl _ w⟩
theorem rsame_no0 {k o wd ps k' o' wd' ps':Int} {nm nm':ByteArray} {n n' kc kd:Nat} {ka kb:Option Addr} (w:World) (q0:(k != k')=true) :
 Calls Tryz.prog 12 #[.agg #[.int .u8 k,.int .u8 o,.int .i64 wd,.string nm,.slice ka n kc,.int .i64 ps],.agg #[.int .u8 k',.int .u8 o',.int .i64 wd',.string nm',.slice kb n' kd,.int .i64 ps']] w fun e' w'=>e'=.returned (.bool false)∧Below w.heap.size w w':=by
 go_enter Tryz.func12,Tryz.ntmps12
 go_wp2_with fail
 go_ret
 exact ⟨rfl,(((Below.refl _ w).alloc (Nat.le_refl _) _).alloc (by rw [World.size_alloc];omega) _)⟩
theorem rsame_no1 {k o wd ps k' o' wd' ps':Int} {nm nm':ByteArray} {n n' kc kd:Nat} {ka kb:Option Addr} (w:World) (q0:(k != k')=false) (q1:(o != o')=true) :
 Calls Tryz.prog 12 #[.agg #[.int .u8 k,.int .u8 o,.int .i64 wd,.string nm,.slice ka n kc,.int .i64 ps],.agg #[.int .u8 k',.int .u8 o',.int .i64 wd',.string nm',.slice kb n' kd,.int .i64 ps']] w fun e' w'=>e'=.returned (.bool false)∧Below w.heap.size w w':=by
 go_enter Tryz.func12,Tryz.ntmps12
 go_wp2_with fail
 go_ret
 exact ⟨rfl,(((Below.refl _ w).alloc (Nat.le_refl _) _).alloc (by rw [World.size_alloc];omega) _)⟩
theorem rsame_no2 {k o wd ps k' o' wd' ps':Int} {nm nm':ByteArray} {n n' kc kd:Nat} {ka kb:Option Addr} (w:World) (q0:(k != k')=false) (q1:(o != o')=false) (q2:(wd != wd')=true) :
 Calls Tryz.prog 12 #[.agg #[.int .u8 k,.int .u8 o,.int .i64 wd,.string nm,.slice ka n kc,.int .i64 ps],.agg #[.int .u8 k',.int .u8 o',.int .i64 wd',.string nm',.slice kb n' kd,.int .i64 ps']] w fun e' w'=>e'=.returned (.bool false)∧Below w.heap.size w w':=by
 go_enter Tryz.func12,Tryz.ntmps12
 go_wp2_with fail
 go_ret
 exact ⟨rfl,(((Below.refl _ w).alloc (Nat.le_refl _) _).alloc (by rw [World.size_alloc];omega) _)⟩
theorem rsame_no3 {k o wd ps k' o' wd' ps':Int} {nm nm':ByteArray} {n n' kc kd:Nat} {ka kb:Option Addr} (w:World) (q0:(k != k')=false) (q1:(o != o')=false) (q2:(wd != wd')=false) (q3:(nm.toList != nm'.toList)=true) (q3':(nm.toList==nm'.toList)=false) :
 Calls Tryz.prog 12 #[.agg #[.int .u8 k,.int .u8 o,.int .i64 wd,.string nm,.slice ka n kc,.int .i64 ps],.agg #[.int .u8 k',.int .u8 o',.int .i64 wd',.string nm',.slice kb n' kd,.int .i64 ps']] w fun e' w'=>e'=.returned (.bool false)∧Below w.heap.size w w':=by
 go_enter Tryz.func12,Tryz.ntmps12
 go_wp2_with fail
 go_ret
 exact ⟨rfl,(((Below.refl _ w).alloc (Nat.le_refl _) _).alloc (by rw [World.size_alloc];omega) _)⟩
theorem rsame_yes {k o wd ps k' o' wd' ps':Int} {nm nm':ByteArray} {n n' kc kd:Nat} {ka kb:Option Addr} (w:World) {B:Bool} (q0:(k != k')=false) (q1:(o != o')=false) (q2:(wd != wd')=false) (q3:(nm.toList != nm'.toList)=false) (q3':(nm.toList==nm'.toList)=true) (HC:∀ W,Below w.heap.size w W→Calls Tryz.prog 32 #[.slice ka n kc,.slice kb n' kd] W fun e w'=>e=.returned (.bool B)∧Below W.heap.size W w') :
 Calls Tryz.prog 12 #[.agg #[.int .u8 k,.int .u8 o,.int .i64 wd,.string nm,.slice ka n kc,.int .i64 ps],.agg #[.int .u8 k',.int .u8 o',.int .i64 wd',.string nm',.slice kb n' kd,.int .i64 ps']] w fun e' w'=>e'=.returned (.bool B)∧Below w.heap.size w w':=by
 have HC:=Lib.hid HC
 have HB:Hid (Below w.heap.size w ((w.alloc (.cells #[.int .u8 k,.int .u8 o,.int .i64 wd,.string nm,.slice ka n kc,.int .i64 ps] 30)).alloc (.cells #[.int .u8 k',.int .u8 o',.int .i64 wd',.string nm',.slice kb n' kd,.int .i64 ps'] 30))):=(((Below.refl _ w).alloc (Nat.le_refl _) _).alloc (by rw [World.size_alloc];omega) _)
 go_enter Tryz.func12,Tryz.ntmps12
 go_wp2_with (go_at_call 32;refine (HC.out _ HB.out).mono ?_;rintro e w3 ⟨rfl,hb3⟩;have HB3:=Lib.hid hb3;clear hb3)
 go_ret
 exact ⟨rfl,HB.out.trans (HB3.out.mono HB.out.size)⟩
theorem r_same:∀ e:Ex,RSameC e:=by
 intro e
 induction e using Ex.ind with
 | h k o wd nm ks ps ih =>
   intro hok f v u w hv hu
   obtain ⟨k',o',wd',nm',ks',ps'⟩:=f
   obtain ⟨ka,kc,rfl,hka⟩:=hv
   obtain ⟨kb,kd,rfl,hkb⟩:=hu
   show Calls _ _ #[.agg #[.int .u8 k,.int .u8 o,.int .i64 wd,.string nm,.slice ka ks.length kc,.int .i64 ps],.agg #[.int .u8 k',.int .u8 o',.int .i64 wd',.string nm',.slice kb ks'.length kd,.int .i64 ps']] _ _
   simp only [sameE]
   have ne:∀ {a b:Int},¬ (a==b)=true→(a != b)=true:=fun h=>by unfold bne;simpa using h
   have eq:∀ {a b:Int},(a==b)=true→(a != b)=false:=fun h=>by unfold bne;rw [h];rfl
   by_cases h1:(k==k')=true
   · by_cases h2 : (o == o') = true
     · by_cases h3 : (wd == wd') = true
       · have hd : (nm.toList == nm'.toList) = (nm.data.toList == nm'.data.toList) := by rw [Lib.toList_data, Lib.toList_data]
         by_cases h4:(nm.data.toList==nm'.data.toList)=true
         · rw [h1, h2, h3, h4]
           simp only [Bool.true_and]
           exact rsame_yes w (eq h1) (eq h2) (eq h3) (by unfold bne;rw [hd,h4];rfl) (hd.trans h4) (fun W hb=>r_exprs (fun x hx=>ih x hx) hok.2 hok.1 (exsAt_below hka hb) (exsAt_below hkb hb))
         · have h4' : (nm.data.toList == nm'.data.toList) = false := by simpa using h4
           rw [h4']
           simp only [Bool.and_false,Bool.false_and]
           exact rsame_no3 w (eq h1) (eq h2) (eq h3) (by unfold bne;rw [hd,h4'];rfl) (hd.trans h4')
       · rw [show (wd == wd') = false by simpa using h3]
         simp only [Bool.and_false,Bool.false_and]
         exact rsame_no2 w (eq h1) (eq h2) (ne h3)
     · rw [show (o == o') = false by simpa using h2]
       simp only [Bool.and_false,Bool.false_and]
       exact rsame_no1 w (eq h1) (ne h2)
   · rw [show (k == k') = false by simpa using h1]
     simp only [Bool.false_and]
     exact rsame_no0 w (ne h1)
def placeEs:List Ex→List Ex→Bool
 | [],[]=>true
 | .mk _ _ _ _ ks p::r,.mk _ _ _ _ ks' p'::s=>p==p'&&placeEs ks ks'&&placeEs r s
 | _,_=>false
theorem placeEs_len:∀ (l m:List Ex),placeEs l m=true→l.length=m.length
 | [],[],_=>rfl
 | [],_::_,h=>by simp [placeEs] at h
 | .mk _ _ _ _ _ _::_,[],h=>by simp [placeEs] at h
 | .mk _ _ _ _ _ _ :: r, .mk _ _ _ _ _ _ :: s, h => by
   simp only [placeEs,Bool.and_eq_true] at h
   have:=placeEs_len r s h.2
   simp [this]
theorem placeEs_ne {l m:List Ex} (h:l.length≠m.length):placeEs l m=false:=by
 cases hs:placeEs l m with
 | false=>rfl
 | true=>exact absurd (placeEs_len l m hs) h
def placeFrom (l m:List Ex) (i:Nat):Bool:=placeEs (l.drop i) (m.drop i)
theorem placeFrom_step {l m:List Ex} {i:Nat} (hl:i<l.length) (hm:i<m.length):placeFrom l m i=(l[i].pos==m[i].pos&&placeEs l[i].kids m[i].kids&&placeFrom l m (i+1)):=by
 unfold placeFrom
 rw [List.drop_eq_getElem_cons hl,List.drop_eq_getElem_cons hm]
 cases l[i];cases m[i];simp only [placeEs];rfl
theorem placeFrom_end {l m:List Ex} {i:Nat} (hl:l.length≤i) (hm:m.length≤i):placeFrom l m i=true:=by
 unfold placeFrom
 rw [List.drop_of_length_le hl,List.drop_of_length_le hm]
 simp [placeEs]
theorem placeEs_self:∀ l:List Ex,placeEs l l=true:=by
 intro l
 induction l using Exs.ind with
 | h0=>simp [placeEs]
 | h1 k o w n ks a r ih1 ih2=>simp [placeEs,ih1,ih2]
def PlC (l:List Ex):Prop:=okEs l→∀ (m:List Ex) (a b:Option Addr) (c1 c2:Nat) (w:World),l.length≤9223372036854775807→exsAt (fun _=>True) w l a→exsAt (fun _=>True) w m b →
 Calls Tryz.prog 65 #[.slice a l.length c1,.slice b m.length c2] w fun e w'=>e=.returned (.bool (placeEs l m))∧∃ j,w'=w.drewN j
theorem exsAt_drewN {R:Nat→Prop} {w:World} {l:List Ex} {a:Option Addr} (h:exsAt R w l a) (n:Nat):exsAt R (w.drewN n) l a:=exsAt_stays (w:=w) (w':=w.drewN n) (fun b o v hb hv=>hv) (fun b hb=>hb) h
theorem r_places_one {l:List Ex} (HI:∀ x∈l,PlC x.kids):PlC l:=by
 intro HO m a b c1 c2 w hl h1 h2
 by_cases hne:l.length=m.length
 · obtain ⟨R, hR⟩ : ∃ R, R = placeEs l m := ⟨_, rfl⟩
   rw [← hR]
   have HRR:=Lib.hid hR
   have HI:=Lib.hid HI
   have HO:=Lib.hid HO
   have HL:=Lib.hid hl
   have HLM:=Lib.hid hne
   have E1:=Lib.hid h1
   have E2:=Lib.hid h2
   rw [← hne]
   obtain ⟨n,hn⟩:∃ n,n=l.length:=⟨_,rfl⟩
   rw [← hn]
   have HN:=Lib.hid hn
   have hn6:n≤9223372036854775807:=by omega
   have hnn:((n:Int) != (n:Int))=false:=by simp
   clear hl hne h1 h2 hR hn
   go_enter Tryz.func65,Tryz.ntmps65
   go_wp2_with fail
   go_loopg [13] (n+1) (fun m' u W=>∃ i:Nat,u=.int .i64 (i:Int)∧i≤n∧m'=n-i+1∧placeFrom l m i=R∧∃ j,W=w.drewN j)
   case atStart=>exact ⟨0,rfl,Nat.zero_le _,by omega,HRR.out.symm,0,rfl⟩
   case round =>
    obtain ⟨i,rfl,hi,hm,hR,j0,hW0⟩:=hrel
    have HRI:=Lib.hid hR
    have HM:=Lib.hid hm
    have HW:=Lib.hid hW0
    clear hR hm hW0
    by_cases hin:i<n
    · have HIN := Lib.hid hin
      have il:i<l.length:=by have:=HN.out;omega
      have im:i<m.length:=by have:=HLM.out;omega
      have g1:l[i]? = some l[i]:=List.getElem?_eq_getElem il
      have g2:m[i]? = some m[i]:=List.getElem?_eq_getElem im
      have hmem:l[i]∈l:=List.getElem_mem il
      have hst:=placeFrom_step il im
      generalize l[i]=x at g1 hst hmem
      generalize m[i]=y at g2 hst
      have hok:=okEs_mem HO.out x hmem
      have HX:=Lib.hid (HI.out x hmem)
      rcases E1.out with e | ⟨g,q,rfl,_,e1⟩
      · cases l with
        | nil=>simp at il
        | cons=>cases e
      rcases E2.out with e | ⟨g',q',rfl,_,e2⟩
      · cases m with
        | nil=>simp at im
        | cons=>cases e
      have x1:=exsIn_get i x e1 g1
      have y1:=exsIn_get i y e2 g2
      have HST:=Lib.hid (HRI.out.symm.trans hst)
      obtain ⟨k,o,wd,nm,ks,ps⟩:=x
      obtain ⟨k',o',wd',nm',ks',ps'⟩:=y
      obtain ⟨_,_,_,_,⟨ka,kc,a4,hka⟩,a5⟩:=x1
      obtain ⟨_,_,_,_,⟨kb,kd,b4,hkb⟩,b5⟩:=y1
      have hin':(i:Int)<(n:Int):=by omega
      have a4:wr.cell? ⟨g,q+i*6+4,none⟩=some (.slice ka ks.length kc):=by rw [HW.out];exact a4
      have a5:wr.cell? ⟨g,q+i*6+5,none⟩=some (.int .i64 ps):=by rw [HW.out];exact a5
      have b4:wr.cell? ⟨g',q'+i*6+4,none⟩=some (.slice kb ks'.length kd):=by rw [HW.out];exact b4
      have b5:wr.cell? ⟨g',q'+i*6+5,none⟩=some (.int .i64 ps'):=by rw [HW.out];exact b5
      have HC:Hid (∀ j,Calls Tryz.prog 65 #[.slice ka ks.length kc,.slice kb ks'.length kd] (wr.drewN j) fun e' w'=>e'=.returned (.bool (placeEs ks ks'))∧∃ t,w'=wr.drewN t):=fun j =>
       (HX.out hok.2 _ _ _ _ _ (wr.drewN j) hok.1 (exsAt_drewN (by rw [HW.out];exact exsAt_drewN hka j0) j) (exsAt_drewN (by rw [HW.out];exact exsAt_drewN hkb j0) j)).mono fun e' w' ⟨he,t,ht⟩=>⟨he,j+t,by rw [ht,World.drewN_drewN]⟩
      have HST:Hid (R=(ps==ps'&&placeEs ks ks'&&placeFrom l m (i+1))):=HST.out
      generalize placeEs ks ks'=B at HST HC
      clear hst hmem g1 g2 e1 e2 hka hkb il im hok
      by_cases hps:(ps==ps')=true
      · have hps2 : (ps != ps') = false := by unfold bne; rw [hps]; rfl
        cases B with
        | false =>
          go_wp2_with fail
          go_quiet (first | (go_at_call 65;exact HC.out _))
          go_wp2_with fail
          go_ret
          exact ⟨by rw [HST.out];simp,_,by rw [HW.out,World.drewN_drewN]⟩
        | true =>
          go_wp2_with fail
          go_quiet (first | (go_at_call 65;exact HC.out _))
          go_wp2_with fail
          go_roundg (n-(i+1)+1)
          case measure=>have:=HM.out;omega
          case rel=>exact ⟨i+1,rfl,by omega,by omega,by rw [HST.out,hps];simp,_,by rw [HW.out,World.drewN_drewN]⟩
      · have hps2 : (ps != ps') = true := by unfold bne; simpa using hps
        have hps3:(ps==ps')=false:=by simpa using hps
        clear hps
        go_wp2_with fail
        go_quiet (first | (go_at_call 65;exact HC.out _))
        go_wp2_with fail
        go_ret
        exact ⟨by rw [HST.out,hps3];rfl,_,by rw [HW.out,World.drewN_drewN]⟩
    · have : i = n := by omega
      subst this
      have hR:R=true:=by rw [← HRI.out];exact placeFrom_end (by have:=HN.out;omega) (by have:=HLM.out;have:=HN.out;omega)
      have HRT:=Lib.hid hR
      clear hR
      go_wp2_with fail
      go_ret
      exact ⟨by rw [HRT.out];rfl,_,HW.out⟩
 · rw [placeEs_ne hne]
   obtain ⟨n,hn⟩:∃ n,n=l.length:=⟨_,rfl⟩
   obtain ⟨k,hk⟩:∃ k,k=m.length:=⟨_,rfl⟩
   rw [← hn] at hne hl ⊢
   rw [← hk] at hne ⊢
   have hq:((n:Int) != (k:Int))=true:=by simp;omega
   clear h1 h2 HI HO hn hk
   go_enter Tryz.func65,Tryz.ntmps65
   go_wp2_with fail
   go_ret
   exact ⟨rfl,0,rfl⟩
theorem r_kids:∀ e:Ex,PlC e.kids:=by
 intro e
 induction e using Ex.ind with
 | h k o w n ks p ih=>exact r_places_one ih
theorem r_places (l:List Ex):PlC l:=r_places_one (fun x _=>r_kids x)
open Go.RowKit
set_option linter.unusedVariables false
structure Sr where
 ts:List Tk
 pos:Int
 rule:Int
section
variable (L:Int)
end
open Go.RowKit
set_option linter.unusedVariables false
theorem row3 {w:World} {g:Nat} {T:TypeId} {a b c:Value} (h:Own w g T #[a,b,c]) :
 (w.cell? ⟨g,0,none⟩=some a∧w.cell? ⟨g,1,none⟩=some b∧w.cell? ⟨g,2,none⟩=some c)∧(w.frozen? ⟨g,0,none⟩=false∧w.frozen? ⟨g,1,none⟩=false∧w.frozen? ⟨g,2,none⟩=false) :=
 ⟨⟨cell_of_row w g 0 _ _ _ h,cell_of_row w g 1 _ _ _ h,cell_of_row w g 2 _ _ _ h⟩,frozen_of_row w g 0 _ _ h,frozen_of_row w g 1 _ _ h,frozen_of_row w g 2 _ _ h⟩
end Go.Proofs.YtggbkldniffbfaaGreatDoor

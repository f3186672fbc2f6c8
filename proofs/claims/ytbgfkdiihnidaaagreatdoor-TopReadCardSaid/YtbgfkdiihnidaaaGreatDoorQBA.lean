import Derived.Test.YtbgfkdiihnidaaaGreatDoorQAZ
import Derived.Test.YtbgfkdiihnidaaaGreatDoorQAX
import Derived.Test.YtbgfkdiihnidaaaGreatDoorQAY
set_option maxRecDepth 100000
set_option maxHeartbeats 20000000
namespace Go.Proofs.YtbgfkdiihnidaaaGreatDoor
set_option linter.unusedVariables false
def anyZ:Bs->Prop:=fun _=>True
theorem Cut.cast {t:Bs} {ks ls:List Bk} {ok:Bs->Prop} (h:Cut t ks ok) (e:ks=ls):Cut t ls ok:=e ▸ h
theorem Cut.castT {t u:Bs} {ks:List Bk} {ok:Bs->Prop} (h:Cut t ks ok) (e:t=u):Cut u ks ok:=e ▸ h
theorem c_sp (ok:Bs->Prop):Cut [32] [] ok:=cut_blank (by decide) ok
theorem toN {t:Bs} {ks:List Bk} (h:Cut t ks okG):Cut t ks okN:=cut_mono h fun _ hZ=>okS_of hZ
theorem c_semi:Cut [59] [sgK [59]] okG:=cut_one (by decide) (by decide) (by decide) (by decide)
theorem c_open:Cut [40] [sgK [40]] okG:=cut_one (by decide) (by decide) (by decide) (by decide)
theorem c_shut:Cut [41] [sgK [41]] okG:=cut_one (by decide) (by decide) (by decide) (by decide)
theorem c_brace:Cut [123] [sgK [123]] okG:=cut_one (by decide) (by decide) (by decide) (by decide)
theorem c_close:Cut [125] [sgK [125]] okG:=cut_one (by decide) (by decide) (by decide) (by decide)
theorem c_is:Cut [61] [sgK [61]] okG:=cut_one (by decide) (by decide) (by decide) (by decide)
theorem c_com:Cut [44] [sgK [44]] okG:=cut_one (by decide) (by decide) (by decide) (by decide)
theorem g32 {Z:Bs} : okG (32::Z):=⟨by decide,by decide,by decide,by decide⟩
theorem g59 {Z:Bs} : okG (59::Z):=⟨by decide,by decide,by decide,by decide⟩
theorem n32 {Z:Bs} : okN (32::Z):=.inl rfl
theorem n41 {Z:Bs} : okN (41::Z):=.inr (.inl rfl)
theorem n59 {Z:Bs} : okN (59::Z):=.inr (.inr (.inl rfl))
theorem n44 {Z:Bs} : okN (44::Z):=.inr (.inr (.inr (.inl rfl)))
theorem n10 {Z:Bs} : okN (10::Z):=.inr (.inr (.inr (.inr (.inl rfl))))
theorem n40 {Z:Bs} : okN (40::Z):=.inr (.inr (.inr (.inr (.inr rfl))))
theorem sp_after {t:Bs} {ks:List Bk} (h:Cut t ks okG):Cut (t++[32]) ks anyZ:=(cut_app h (c_sp anyZ) (fun _ _=>g32)).cast (by simp)
theorem spN_after {t:Bs} {ks:List Bk} (h:Cut t ks okN):Cut (t++[32]) ks anyZ:=(cut_app h (c_sp anyZ) (fun _ _=>n32)).cast (by simp)
theorem sp_ahead {t:Bs} {ks:List Bk} {ok:Bs->Prop} (h:Cut t ks ok):Cut (32::t) ks ok:=cut_app (c_sp anyZ) h (fun _ _=>trivial)
theorem c_eq:Cut [32,61,32] [sgK [61]] anyZ:=sp_ahead (sp_after c_is)
theorem c_comma:Cut [44,32] [sgK [44]] anyZ:=sp_after c_com
theorem w_of (s:Bs) (h:wordL s=true) (hp:(match s with | []=>false | c::_=>letterB (c.toNat:Int))=true) (hall:s.all (fun c=>namedB (c.toNat:Int))=true):Cut s [kW s] okN:=cut_word h hp hall
theorem c_swap:Cut [32,61,32,115,119,97,112,40] [sgK [61],kW [115,119,97,112],sgK [40]] okG :=
 cut_app c_eq (cut_app (w_of [115,119,97,112] (by decide) (by decide) (by decide)) c_open (fun _ _=>n40)) (fun _ _=>trivial)
theorem c_end2:Cut [41,59] [sgK [41],sgK [59]] okG:=cut_app c_shut c_semi (fun _ _=>g59)
theorem c_if:Cut [105,102,32,40] [kW [105,102],sgK [40]] okG:=cut_app (spN_after (w_of [105,102] (by decide) (by decide) (by decide))) c_open (fun _ _=>trivial)
theorem c_while:Cut [119,104,105,108,101,32,40] [kW [119,104,105,108,101],sgK [40]] okG:=cut_app (spN_after (w_of [119,104,105,108,101] (by decide) (by decide) (by decide))) c_open (fun _ _=>trivial)
theorem c_head:Cut [41,32,123] [sgK [41],sgK [123]] okG:=cut_app (sp_after c_shut) c_brace (fun _ _=>trivial)
theorem c_lock:Cut [108,111,99,107,32] [kW [108,111,99,107]] anyZ:=spN_after (w_of [108,111,99,107] (by decide) (by decide) (by decide))
theorem c_print:Cut [112,114,105,110,116,32] [kW [112,114,105,110,116]] anyZ:=spN_after (w_of [112,114,105,110,116] (by decide) (by decide) (by decide))
theorem c_thread:Cut [116,104,114,101,97,100,32] [kW [116,104,114,101,97,100]] anyZ:=spN_after (w_of [116,104,114,101,97,100] (by decide) (by decide) (by decide))
theorem c_obr:Cut [32,123] [sgK [123]] okG:=sp_ahead c_brace
theorem c_skip:Cut [115,107,105,112,59] [kW [115,107,105,112],sgK [59]] okG:=cut_app (w_of [115,107,105,112] (by decide) (by decide) (by decide)) c_semi (fun _ _=>n59)
theorem c_else:Cut [125,32,101,108,115,101,32,123] [sgK [125],kW [101,108,115,101],sgK [123]] okG :=
 cut_app (sp_after c_close) (cut_app (spN_after (w_of [101,108,115,101] (by decide) (by decide) (by decide))) c_brace (fun _ _=>trivial)) (fun _ _=>trivial)
theorem cut_marg:∀ d:Nat,Cut (marg d) [] anyZ
 | 0=>cut_nil anyZ
 | d+1=>cut_app (cut_app (c_sp anyZ) (c_sp anyZ) (fun _ _=>trivial)) (cut_marg d) (fun _ _=>trivial)
theorem cut_ln {d:Nat} {l:List Bs} {ks:List Bk} (h:Cut l.flatten ks okN):Cut (ln d l) ks anyZ :=
 (cut_app (cut_app (cut_marg d) h (fun _ _=>trivial)) (cut_blank (c:=10) (by decide) anyZ) (fun _ _=>n10)).cast (by simp)
theorem rs_e {y:Ex} (hy:rE y 0=true) (hg:rgE y):Cut (tE y) (kE y) okN/\begG (tE y):=cut_ex y 0 hy hg
theorem flat3 (a b c:Bs):[a,b,c].flatten=a++(b++c):=by simp
theorem flat4 (a b c d:Bs):[a,b,c,d].flatten=a++(b++(c++d)):=by simp
theorem flat6 (a b c d e f:Bs):[a,b,c,d,e,f].flatten=a++(b++(c++(d++(e++f)))):=by simp
theorem flat1 (a:Bs):[a].flatten=a:=by simp
def CutS (x:St):Prop:=∀ (dd:Nat) (d:Int),rS x d=true->rgS x->Cut (tS x dd) (kS x) anyZ
theorem cut_Ss {l:List St} (H:∀ x∈l,CutS x):∀ (dd:Nat) (d:Int),rAll l d=true->rgSs l->Cut (tSs l dd) (kSs l) anyZ:=by
 induction l with
 | nil=>intro dd d _ _;exact cut_nil anyZ
 | cons x l ih =>
   intro dd d a b;simp only [rAll,Bool.and_eq_true] at a;simp only [tSs,kSs];exact cut_app (H x (.head _) dd d a.1 b.1) (ih (fun y hy=>H y (.tail _ hy)) dd d a.2 b.2) (fun _ _=>trivial)
theorem cut_stmt:∀ x:St,CutS x:=by
 intro x;induction x using St.ind with
 | h k nm ot es bo el ps ihb ihl =>
   have q:=cut_Ss ihb;have H:=cut_Ss ihl;intro a d D r;obtain ⟨_,b,g,s⟩:=r;simp only [rS,Bool.and_eq_true,decide_eq_true_eq] at D;obtain ⟨o,p,t,E,m,J,K,n,v,z⟩:=D;have A:(shp k).2.2.2.1=true->rAll bo (d+1)=true:=fun hs=>by
    rw [hs] at v;simp at v;exact v.2
   rcases kind_cases o p with rfl | rfl | rfl | rfl | rfl | rfl | rfl
   · obtain ⟨y, rfl, c⟩ := one_e m rfl n
     obtain ⟨f,i⟩:=rs_e c b.1
     have h:=cut_ln (d:=a) (l:=[nm.data.toList,[32,61,32],tE y,[59]]) (by
      rw [flat4]
      exact cut_app (cut_name t) (cut_app c_eq (cut_app f (toN c_semi) (fun _ _=>n59)) (fun _ _=>trivial)) (fun _ _=>n32))
     exact (h.castT (by simp only [tS];rfl)).cast (by simp only [kS];rfl)
   · obtain ⟨y, rfl, c⟩ := one_e m rfl n
     obtain ⟨f,i⟩:=rs_e c b.1
     have h:=cut_ln (d:=a) (l:=[nm.data.toList,[32,61,32,115,119,97,112,40],ot.data.toList,[44,32],tE y,[41,59]]) (by
      rw [flat6]
      exact cut_app (cut_name t) (cut_app c_swap (cut_app (cut_name E) (cut_app c_comma (cut_app f (toN c_end2) (fun _ _=>n41)) (fun _ _=>trivial)) (fun _ _=>n44)) (fun Z _=>by rw [List.append_assoc];exact begG_app (name_beg E))) (fun _ _=>n32))
     exact (h.castT (by simp only [tS];rfl)).cast (by simp only [kS];rfl)
   · obtain ⟨y, rfl, c⟩ := one_e m rfl n
     obtain ⟨f,i⟩:=rs_e c b.1
     have j:=cut_ln (d:=a) (l:=[[105,102,32,40],tE y,[41,32,123]]) (by
      rw [flat3]
      exact cut_app c_if (cut_app f (toN c_head) (fun _ _=>n41)) (fun Z _=>by rw [List.append_assoc];exact begG_app i))
     have B:=q (a+1) (d+1) (A rfl) g;have C:=cut_ln (d:=a) (l:=[[125]]) (by rw [flat1];exact toN c_close)
     by_cases hel:0<el.length
     · have I := cut_ln (d := a) (l := [[125, 32, 101, 108, 115, 101, 32, 123]]) (by rw [flat1]; exact toN c_else)
       have F:rAll el (d+1)=true:=by
        rw [decide_eq_true (show 0<(el.length:Int) by omega)] at z
        simp at z;exact z.2
       have G:=H (a+1) (d+1) F s;have h:=cut_app (cut_app (cut_app j B (fun _ _=>trivial)) (cut_app I G (fun _ _=>trivial)) (fun _ _=>trivial)) C (fun _ _=>trivial)
       exact (h.castT (by simp only [tS];rw [if_neg (by omega),if_neg (by omega),if_pos trivial,if_pos hel];rfl)).cast (by simp only [kS];rw [if_neg (by omega),if_neg (by omega),if_pos trivial,if_pos hel];simp [e0K])
     · have h := cut_app (cut_app j B (fun _ _ => trivial)) C (fun _ _ => trivial)
       exact (h.castT (by simp only [tS];rw [if_neg (by omega),if_neg (by omega),if_pos trivial,if_neg hel,List.append_nil];rfl)).cast (by simp only [kS];rw [if_neg (by omega),if_neg (by omega),if_pos trivial,if_neg hel];simp [e0K])
   · obtain ⟨y, rfl, c⟩ := one_e m rfl n
     obtain ⟨f,i⟩:=rs_e c b.1
     have j:=cut_ln (d:=a) (l:=[[119,104,105,108,101,32,40],tE y,[41,32,123]]) (by
      rw [flat3]
      exact cut_app c_while (cut_app f (toN c_head) (fun _ _=>n41)) (fun Z _=>by rw [List.append_assoc];exact begG_app i))
     have h:=cut_app (cut_app j (q (a+1) (d+1) (A rfl) g) (fun _ _=>trivial)) (cut_ln (d:=a) (l:=[[125]]) (by rw [flat1];exact toN c_close)) (fun _ _=>trivial)
     exact (h.castT (by simp only [tS];rfl)).cast (by simp only [kS];rw [if_neg (by omega),if_neg (by omega),if_neg (by omega),if_pos trivial];simp [e0K])
   · have j := cut_ln (d := a) (l := [[108, 111, 99, 107, 32], nm.data.toList, [32, 123]]) (by
      rw [flat3]
      exact cut_app c_lock (cut_app (cut_name t) (toN c_obr) (fun _ _=>n32)) (fun _ _=>trivial))
     have h:=cut_app (cut_app j (q (a+1) (d+1) (A rfl) g) (fun _ _=>trivial)) (cut_ln (d:=a) (l:=[[125]]) (by rw [flat1];exact toN c_close)) (fun _ _=>trivial)
     exact (h.castT (by simp only [tS];rfl)).cast (by simp only [kS];rw [if_neg (by omega),if_neg (by omega),if_neg (by omega),if_neg (by omega),if_pos trivial];simp)
   · obtain ⟨y, rfl, c⟩ := one_e m rfl n
     obtain ⟨f,i⟩:=rs_e c b.1
     have h:=cut_ln (d:=a) (l:=[[112,114,105,110,116,32],tE y,[59]]) (by
      rw [flat3]
      exact cut_app c_print (cut_app f (toN c_semi) (fun _ _=>n59)) (fun _ _=>trivial))
     exact (h.castT (by simp only [tS];rfl)).cast (by simp only [kS];rfl)
   · have h := cut_ln (d := a) (l := [[115, 107, 105, 112, 59]]) (by rw [flat1]; exact toN c_skip)
     exact (h.castT (by simp only [tS];rfl)).cast (by simp only [kS];rfl)
theorem cut_word_num {v:Int} (h0 : -9223372036854775808<v) (h1:v<=9223372036854775807):Cut (Lib.itoa v) (if v<0 then [sgK [45],nbK (-v)] else [nbK v]) okN:=by
 by_cases hv:v<0
 · rw [if_pos hv]
   have e:Lib.itoa v=[45]++Lib.itoa (-v):=by
    unfold Lib.itoa;rw [if_pos hv,if_neg (by omega),show v.natAbs=(-v).toNat by omega]
    rfl
   rw [e];exact cut_app (cut_one (c:=45) (by decide) (by decide) (by decide) (by decide)) (cut_num (by omega) (by omega)) (fun Z _=>begG_app (num_beg (by omega) (by omega)))
 · rw [if_neg hv]
   exact cut_num (by omega) h1
def okD (d:Dc):Prop:=nameB d.name=true /\ -9223372036854775808<d.wd/\d.wd<=9223372036854775807
theorem cut_decl {s:ByteArray} {ks:List Bk} (hs:Cut s.data.toList ks anyZ) {d:Dc} (h:okD d):Cut (cat (dPart s d)) (ks++dK d) okN:=by
 unfold dPart dK;rw [cat_cons,cat_cons];by_cases hz:d.wd=0
 · rw [if_pos hz, if_pos hz]
   exact cut_app hs ((cut_name h.1).castT (by simp [cat])) (fun _ _=>trivial)
 · rw [if_neg hz, if_neg hz]
   refine cut_app hs ?_ (fun _ _=>trivial)
   refine (cut_app (cut_name h.1) (cut_app c_eq (cut_word_num h.2.1 h.2.2) (fun _ _=>trivial)) (fun _ _=>n32)).castT ?_
   simp [cat,eqS,itoaS]
theorem cut_decls:∀ (l:List Dc) (s:ByteArray) (ks:List Bk),Cut s.data.toList ks anyZ->l≠[]->(∀ d∈l,okD d)->Cut (cat (dParts s l)++[59]) (ks++dsK l) okG
 | [],s,ks,_,h0,_=>absurd rfl h0
 | [d], s, ks, hs, _, hk => by
   have h:=cut_app (cut_decl hs (hk d (.head _))) c_semi (fun _ _=>n59)
   exact (h.castT (by simp [dParts])).cast (by simp [dsK])
 | d :: e :: l, s, ks, hs, _, hk => by
   have h1:=cut_decls (e::l) cmS [sgK [44]] c_comma (by simp) (fun y hy=>hk y (.tail _ hy))
   have h:=cut_app (cut_decl hs (hk d (.head _))) h1 (fun Z _=>by
    simp only [dParts,dPart,List.cons_append,cat_cons,List.append_assoc]
    exact n44)
   refine (h.castT ?_).cast ?_
   · conv => rhs; rw [dParts, cat_append]
     rw [List.append_assoc]
   · simp [dsK]
theorem cut_line {word:ByteArray} {w:Bs} (hw:Cut word.data.toList [kW w] okN) {l:List Dc} (hk:∀ d∈l,okD d) (d:Nat):Cut (tDs word l d) (lineK w l) anyZ:=by
 unfold tDs lineK;by_cases h0:l.length=0
 · rw [if_pos h0, if_pos h0]
   exact cut_nil anyZ
 · rw [if_neg h0, if_neg h0]
   have a:l≠[]:=fun e=>h0 (by rw [e];rfl)
   have f:=cut_decls l spS [] (c_sp anyZ) a hk
   have g:=cut_app hw (toN f) (fun Z _=>by
    cases l with
    | nil=>exact absurd rfl a
    | cons x r =>
      simp only [dParts,dPart,List.cons_append,cat_cons,List.append_assoc]
      exact n32)
   have b:=cut_app (cut_app (cut_marg d) g (fun _ _=>trivial)) (cut_blank (c:=10) (by decide) anyZ) (fun _ _=>n10)
   refine (b.castT ?_).cast ?_
   · rw [cat_cons, cat_append]
     simp [cat,smS]
   · simp
theorem cut_thread {x:Th} (hx:thB x=true) (hg:rgT x):Cut (tT x) (kT x) anyZ:=by
 obtain ⟨n,k,g,q⟩:=x;simp only [thB,Bool.and_eq_true] at hx;obtain ⟨c,f,a⟩:=hx;have b:rAll g 1=true:=by
  unfold rB at a;simp only [Bool.and_eq_true] at a;exact a.2
 have m:=cut_ln (d:=0) (l:=[[116,104,114,101,97,100,32],n.data.toList,[32,123]]) (by
  rw [flat3]
  exact cut_app c_thread (cut_app (cut_name c) (toN c_obr) (fun _ _=>n32)) (fun _ _=>trivial))
 have i:∀ d∈k,okD d:=fun d hd=>by
  have:=List.all_eq_true.1 f d hd;simp only [Bool.and_eq_true,beq_iff_eq] at this;exact ⟨this.1,by omega,by omega⟩
 have p:=cut_line (word:=⟨#[108,111,99,97,108]⟩) (w:=[108,111,99,97,108]) (w_of _ (by decide) (by decide) (by decide)) i 1
 have j:=cut_Ss (fun y (_:y∈g)=>cut_stmt y) 1 1 b hg
 have o:=cut_ln (d:=0) (l:=[[125]]) (by rw [flat1];exact toN c_close)
 have h:=cut_app m (cut_app p (cut_app j o (fun _ _=>trivial)) (fun _ _=>trivial)) (fun _ _=>trivial)
 exact (h.castT rfl).cast rfl
theorem cut_threads:∀ (l:List Th),(∀ t∈l,thB t=true)->(∀ t∈l,rgT t)->Cut (l.flatMap tT) (l.flatMap kT) anyZ
 | [],_,_=>cut_nil anyZ
 | x :: l, h, hg => by
   rw [List.flatMap_cons,List.flatMap_cons]
   exact cut_app (cut_thread (h x (.head _)) (hg x (.head _))) (cut_threads l (fun t ht=>h t (.tail _ ht)) (fun t ht=>hg t (.tail _ ht))) (fun _ _=>trivial)
theorem cut_prog {x:Pg} (hx:rP x=true) (hg:rgP x) (hD:rgD x.shared):Cut (tP x) (kP x) anyZ:=by
 obtain ⟨j,l,f⟩:=x;simp only [rP,Bool.and_eq_true] at hx;obtain ⟨a,b,c⟩:=hx;have g:∀ d∈j,okD d:=fun d hd=>by
  have:=List.all_eq_true.1 a d hd;simp only [Bool.and_eq_true,decide_eq_true_eq] at this;exact ⟨this.1,this.2,(hD d hd).2⟩
 have m:∀ d∈l,okD d:=fun d hd=>by
  have:=List.all_eq_true.1 b d hd;simp only [Bool.and_eq_true,beq_iff_eq] at this;exact ⟨this.1,by omega,by omega⟩
 have i:=cut_line (word:=⟨#[115,104,97,114,101,100]⟩) (w:=[115,104,97,114,101,100]) (w_of _ (by decide) (by decide) (by decide)) g 0
 have k:=cut_line (word:=⟨#[108,111,99,107]⟩) (w:=[108,111,99,107]) (w_of _ (by decide) (by decide) (by decide)) m 0
 exact cut_app i (cut_app k (cut_threads f (List.all_eq_true.1 c) hg) (fun _ _=>trivial)) (fun _ _=>trivial)
theorem front_cut {t:Bs} {ks:List Bk} {ok:Bs->Prop} (h:Cut t ks ok) (h0:ok []):∃ xs,frontR ⟨t.toArray⟩=(xs,0,0)/\(xs.map Res.tk).map Tk.bt=ks:=by
 obtain ⟨xs,q,a,b⟩:=h 0 [] h0;have c:restL q []=([],0,0):=rfl;rw [c,List.append_nil,List.append_nil] at a;refine ⟨xs,?_,?_⟩
 · rw [front_list];exact a
 · rw [List.map_map];exact b
theorem size_of_list (t:Bs):(⟨t.toArray⟩:ByteArray).size=t.length:=by
 show t.toArray.size=_;simp
theorem said_P_back {x:Pg} (hx:rP x=true) (hg:rgP x) (hD:rgD x.shared) (hl:(tP x).length<=65536):∃ y,said_P ⟨(tP x).toArray⟩=(some y,0,0,0)/\samePg x y=true:=by
 obtain ⟨c,b,f⟩:=front_cut (cut_prog hx hg hD) trivial;obtain ⟨y,d,a⟩:=prog_back (L:=(tP x).length) (n:=fuel (c.map Res.tk)) hx f (by unfold fuel;omega)
 refine ⟨y,?_,a⟩;unfold said_P wholeR scanX;rw [size_of_list,if_neg (by omega),b]
 simp only [not_true_eq_false,if_false,if_true];rw [if_neg (by omega),d]
 rfl
structure TkOk (t:Tk):Prop where
 name:t.kind=1->nameB t.text=true
 lo:0<=t.wd
 hi:t.wd<=9223372036854775807
def TksOk (l:List Tk):Prop:=∀ t∈l,TkOk t
theorem toks_tail {l:List Tk} (h:TksOk l):TksOk l.tail:=fun t ht=>h t (List.mem_of_mem_tail ht)
theorem letter_digit {c:Int} (h:letterB c=true):digitB c=false:=by
 unfold letterB at h;unfold digitB;simp only [decide_eq_true_eq] at h;simp only [decide_eq_false_iff_not];omega
theorem name_tok {x:Res} (h:TxOk x) (hk:x.kind=1):nameB x.text=true:=by
 obtain ⟨a,j,_⟩:=h;rw [hk] at a;obtain ⟨l,i⟩:=Qx x.text.data.toList;rw [<- i] at a j;obtain ⟨c,r,f⟩:∃ c r,l=c::r:=by
  cases l with
  | nil=>exact absurd rfl j
  | cons c r=>exact ⟨c,r,rfl⟩
 have b:x.text.size=x.text.data.toList.length:=by simp
 rw [<- i] at b;have o:nextL l=if letterB (c.toNat:Int)=true then nameL l else if digitB (c.toNat:Int)=true then numL l else if signB (c.toNat:Int)=true then ⟨4,aheadN l,0,0,0⟩ else ⟨0,0,0,0,1⟩:=by rw [f];rfl
 rw [o] at a;split at a
 · rename_i hc
   unfold nameL at a;split at a
   · have:=congrArg Nx.kind a;simp at this
   · rename_i hw
     split at a
     · have:=congrArg Nx.kind a;simp at this
     · rename_i h32
       have g:spanN namedB l=l.length:=congrArg Nx.n a;rw [g,List.take_length] at hw;have m:=letter_digit hc;unfold nameB;simp only [Bool.and_eq_true,decide_eq_true_eq];have d:0<x.text.size:=by rw [b,f];simp
       refine ⟨d,by omega,?_,?_,?_⟩
       · have e : PlainAid.bt x.text 0 = (c.toNat : Int) := by
          rw [<- PlainAid.get_bt x.text 0 d];have:x.text.data.toList[0]? = some c:=by rw [<- i,f];rfl
          have:x.text[0]=c:=by
           have k:x.text.data[0]? = some c:=by simpa using this
           exact (Array.getElem?_eq_some_iff.1 k).2
          rw [this]
         rw [e,m];rfl
       · rw [wordB_list]
         have:x.text.toList=l:=by rw [i,Lib.toList_data]
         rw [this];simpa using hw
       · rw [<- i,g,b]
 · split at a
   · unfold numL numK at a
     split at a
     · have:=congrArg Nx.kind a;simp at this
     · split at a
       · have:=congrArg Nx.kind a;simp at this
       · have:=congrArg Nx.kind a;simp at this
   · split at a
     · have:=congrArg Nx.kind a;simp at this
     · have:=congrArg Nx.kind a;simp at this
theorem scan_tkok {s:ByteArray} (h:(scanX s).2.1=0):TksOk ((scanX s).1.map Res.tk):=by
 intro t d;obtain ⟨x,a,rfl⟩:=List.mem_map.1 d;have b:=scanX_wd s x a;refine ⟨fun hk=>name_tok ?_ hk,b.1,b.2⟩
 unfold scanX at a h;split at a
 · cases a
 · rename_i hl
   rw [if_neg hl] at h;split at a
   · rename_i hf
     rw [front_list] at a hf;have c:(restL 0 s.data.toList).2.1=0:=goL_clean _ _ _ hf;exact toks_tx _ s.data.toList 0 _ (Nat.le_refl _) (Prod.ext rfl (Prod.ext c hf)) x a
   · cases a
theorem fndFrom_in (l:List UInt8):∀ (n k:Nat),(fndFrom l n k).2=true->∃ j:Nat,k<=j/\j<k+n/\(fndFrom l n k).1=(j:Int)
 | 0,k,h=>by simp [fndFrom] at h
 | n + 1, k, h => by
   by_cases hk:sgnAt k=l
   · refine ⟨k, by omega, by omega, ?_⟩
     simp only [fndFrom,if_pos hk]
   · simp only [fndFrom, if_neg hk] at h ⊢
     obtain ⟨j,a,b,c⟩:=fndFrom_in l n (k+1) h
     exact ⟨j,by omega,by omega,c⟩
theorem fnd_in {s:Bs} (h:(fnd s).2=true):twoB (fnd s).1=true/\levelI (fnd s).1=levelOf (fnd s).1/\1<=(fnd s).1/\(fnd s).1<=16:=by
 obtain ⟨j,a,b,c⟩:=fndFrom_in s 16 1 h;have c:(fnd s).1=(j:Int):=c;rw [c];have:∀ i:Nat,i<17->1<=i->twoB (i:Int)=true/\levelI (i:Int)=levelOf (i:Int):=by decide
 have:=this j (by omega) a
 exact ⟨this.1,this.2,by omega,by omega⟩
theorem rE_mono:∀ x:Ex,∀ d d':Int,d<=d'->rE x d'=true->rE x d=true:=by
 intro x;induction x using Ex.ind with
 | h k o wd nm ks ps ih =>
   intro d d' g h;simp only [rE,Bool.and_eq_true,decide_eq_true_eq] at h ⊢;obtain ⟨i,f,c,a⟩:=h;refine ⟨by omega,f,c,?_⟩
   unfold kB at a ⊢;by_cases hk:k=1\/k=2
   · rw [if_pos hk] at a ⊢;exact a
   rw [if_neg hk] at a ⊢;by_cases hk2:k=3
   · rw [if_pos hk2] at a ⊢
     simp only [Bool.and_eq_true] at a ⊢;refine ⟨a.1,?_⟩;cases ks with
     | nil=>exact absurd a.2 (by simp [kid1])
     | cons x r => cases r with
       | nil =>
         have b:rE x (d'+1+b2i (x.kind==4))=true:=a.2;exact ih x (.head _) _ _ (by omega) b
       | cons y r=>exact absurd a.2 (by simp [kid1])
   rw [if_neg hk2] at a ⊢;by_cases hk3:k=4
   · rw [if_pos hk3] at a ⊢
     simp only [Bool.and_eq_true] at a ⊢;refine ⟨a.1,?_⟩;cases ks with
     | nil=>exact absurd a.2 (by simp [kid2])
     | cons x r => cases r with
       | nil=>exact absurd a.2 (by simp [kid2])
       | cons y r => cases r with
         | nil =>
           have b:(rE x (d'+b2i (wrL o x))&&rE y (d'+b2i (wrR o y)))=true:=a.2;show (rE x (d+b2i (wrL o x))&&rE y (d+b2i (wrR o y)))=true;simp only [Bool.and_eq_true] at b ⊢;exact ⟨ih x (.head _) _ _ (by omega) b.1,ih y (.tail _ (.head _)) _ _ (by omega) b.2⟩
         | cons z r=>exact absurd a.2 (by simp [kid2])
   rw [if_neg hk3] at a;exact absurd a (by simp)
def O1 (d:Int) (e:Ex):Prop:=rgE e/\rE e d=true/\(e.kind=4->rE e (d+1)=true)
def B1 (v d:Int) (e:Ex):Prop:=rgE e/\rE e d=true/\(e.kind=4->v<=levelOf e.op\/rE e (d+1)=true)
theorem num_right {t:Tk} (h:TkOk t) {d:Int} (hd:d<=64):O1 d (.mk 1 0 t.wd ⟨#[]⟩ [] t.pos):=by
 have a:=h.lo;have b:=h.hi;refine ⟨⟨by omega,by omega,by omega,trivial⟩,?_,fun h=>?_⟩
 · simp only [rE, decide_eq_true hd, Bool.true_and]
   simp [wdB,nmB,kB,a]
 · have h : (1 : Int) = 4 := h
   omega
theorem var_right {t:Tk} (h:TkOk t) (hk:t.kind=1) {d:Int} (hd:d<=64):O1 d (.mk 2 0 0 t.text [] t.pos):=by
 have a:=h.name hk;refine ⟨⟨by omega,by omega,by omega,trivial⟩,?_,fun h=>?_⟩
 · simp only [rE, decide_eq_true hd, Bool.true_and]
   simp [wdB,nmB,kB,a]
 · have h : (2 : Int) = 4 := h
   omega
theorem un_right {d o p:Int} {e:Ex} (ho:oneB o=true) (h8:0<=o/\o<=255) (h:O1 (d+1) e):O1 d (unX o p e):=by
 obtain ⟨f,b,c⟩:=h;have g:=rE_deep b;refine ⟨⟨by omega,h8,by omega,f,trivial⟩,?_,fun h=>?_⟩
 · have a : kid1 [e] (rEs [e]) d = true := by
    show rE e (d+1+b2i (e.kind==4))=true;by_cases a:e.kind=4
    · rw [show (e.kind==4)=true from by rw [a];rfl];exact c a
    · rw [show (e.kind==4)=false from by simpa using a];simpa [b2i] using b
   unfold unX;simp only [rE,decide_eq_true (show d<=64 by omega),Bool.true_and]
   simp [wdB,nmB,kB,ho,a]
 · have h : (3 : Int) = 4 := h
   omega
theorem bi_right {v d o p:Int} {a b:Ex} (ho:twoB o=true) (h8:1<=o/\o<=16) (hv:v<=levelOf o) (ha:B1 v d a) (hn:a.kind=4->levelOf o<=levelOf a.op\/rE a (d+1)=true) (hb:B1 (levelOf o+1) d b):B1 v d (biX o p a b):=by
 obtain ⟨m,c,q⟩:=ha;obtain ⟨n,k,l⟩:=hb;have g:=rE_deep c;refine ⟨⟨by omega,by omega,by omega,m,n,trivial⟩,?_,fun _=>.inl hv⟩
 have i:kid2 o [a,b] (rEs [a,b]) d=true:=by
  show (rE a (d+b2i (wrL o a))&&rE b (d+b2i (wrR o b)))=true;have f:rE a (d+b2i (wrL o a))=true:=by
   cases hw:wrL o a with
   | false=>simpa [b2i] using c
   | true =>
     unfold wrL at hw;simp only [Bool.and_eq_true,decide_eq_true_eq,beq_iff_eq] at hw;rcases hn hw.1 with h | h
     · omega
     · exact h
  have j:rE b (d+b2i (wrR o b))=true:=by
   cases hw:wrR o b with
   | false=>simpa [b2i] using k
   | true =>
     unfold wrR at hw;simp only [Bool.and_eq_true,decide_eq_true_eq,beq_iff_eq] at hw;rcases l hw.1 with h | h
     · omega
     · exact h
  rw [f,j];rfl
 unfold biX;simp only [rE,decide_eq_true g,Bool.true_and];simp [wdB,nmB,kB,ho,i]
section
variable {L:Int}
theorem need_right {s:Bs} {ts:List Tk} {u:Unit} {r:List Tk} (h:need L s ts=.ok u r) (ht:TksOk ts):TksOk r:=by
 rw [(need_ok h).2.1];exact toks_tail ht
theorem ex_right:∀ n:Nat,
 (∀ d ts e r,opnd fnd L n d ts=.ok e r->0<=d->d<=64->TksOk ts->O1 d e/\TksOk r) /\
 (∀ v d ts e r,binE fnd L n v d ts=.ok e r->1<=v->0<=d->d<=64->TksOk ts->B1 v d e/\nxt r<v/\TksOk r) /\
 (∀ v d l ts e r,binL fnd L n v d l ts=.ok e r->1<=v->0<=d->d<=64->TksOk ts->B1 v d l->(l.kind=4->nxt ts<=levelOf l.op\/rE l (d+1)=true)->B1 v d e/\nxt r<v/\TksOk r):=by
 intro n;induction n with
 | zero=>exact ⟨fun d ts e r h=>by simp [opnd] at h,fun v d ts e r h=>by simp [binE] at h,fun v d l ts e r h=>by simp [binL] at h⟩
 | succ n ih =>
   obtain ⟨p,y,A⟩:=ih;refine ⟨fun d ts e r h h0 h64 ht=>?_,fun v d ts e r h hv h0 h64 ht=>?_,fun v d l ts e r h hv h0 h64 ht hl hn=>?_⟩
   · cases ts with
     | nil=>simp [opnd] at h
     | cons t q =>
       have s:TkOk t:=ht t (.head _);have j:TksOk q:=fun x hx=>ht x (.tail _ hx)
       simp only [opnd] at h;split at h
       · cases h;exact ⟨num_right s h64,j⟩
       split at h
       · rename_i hk;cases h;exact ⟨var_right s hk h64,j⟩
       split at h
       · split at h
         · cases h
         · obtain ⟨a, b, g, f⟩ := PR.then_eq_ok h
           cases f;have:=p _ _ _ _ g (by omega) (by omega) j
           exact ⟨un_right (by decide) (by omega) this.1,this.2⟩
       split at h
       · split at h
         · cases h
         · obtain ⟨a, b, g, f⟩ := PR.then_eq_ok h
           cases f;have:=p _ _ _ _ g (by omega) (by omega) j
           exact ⟨un_right (by decide) (by omega) this.1,this.2⟩
       split at h
       · split at h
         · cases h
         · obtain ⟨a, b, g, f⟩ := PR.then_eq_ok h
           obtain ⟨u,c,z,C⟩:=PR.then_eq_ok f;cases C;have:=y _ _ _ _ _ g (by omega) (by omega) (by omega) j
           exact ⟨⟨this.1.1,rE_mono _ _ _ (by omega) this.1.2.1,fun _=>this.1.2.1⟩,need_right z this.2.2⟩
       · cases h
   · simp only [binE] at h
     obtain ⟨a,b,g,f⟩:=PR.then_eq_ok h;have i:=p _ _ _ _ g h0 h64 ht;exact A _ _ _ _ _ _ f hv h0 h64 i.2 ⟨i.1.1,i.1.2.1,fun hk=>.inr (i.1.2.2 hk)⟩ (fun hk=>.inr (i.1.2.2 hk))
   · cases ts with
     | nil =>
       simp only [binL] at h;cases h;exact ⟨hl,by show (0:Int)<v;omega,ht⟩
     | cons t q =>
       have j:TksOk q:=fun x hx=>ht x (.tail _ hx)
       simp only [binL] at h;split at h
       · rename_i hc
         obtain ⟨a,b,g,f⟩:=PR.then_eq_ok h;obtain ⟨B,m,D⟩:=fnd_in hc.1;have o:nxt (t::q)=levelOf (fnd t.tx).1:=by simp only [nxt];rw [if_pos hc.1,m]
         rw [m] at g;have k:=hc.2;rw [m] at k;have E:=two_pos B;have i:=y _ _ _ _ _ g (by omega) h0 h64 j
         rw [o] at hn;exact A _ _ _ _ _ _ f hv h0 h64 i.2.2 (bi_right B D k hl hn i.1) (fun _=>.inl (by have:=i.2.1;show nxt b<=levelOf (fnd t.tx).1;omega))
       · rename_i hc
         cases h;refine ⟨hl,?_,ht⟩;simp only [nxt];split
         · rename_i f
           apply Classical.byContradiction;intro z;exact hc ⟨f,by omega⟩
         · omega
theorem binE_right {n:Nat} {ts:List Tk} {e:Ex} {r:List Tk} (h:binE fnd L n 1 0 ts=.ok e r) (ht:TksOk ts):rgE e/\rE e 0=true/\TksOk r:=by
 have:=(ex_right n).2.1 _ _ _ _ _ h (by omega) (by omega) (by omega) ht
 exact ⟨this.1.1,this.1.2.1,this.2.2⟩
end
set_option linter.unusedVariables false
section
variable {L:Int}
theorem name_right {ts:List Tk} {d:Dc} {r:List Tk} (h:nameP L ts=.ok d r) (ht:TksOk ts):(nameB d.name=true/\d.wd=0)/\TksOk r:=by
 cases ts with
 | nil=>cases h
 | cons t q =>
   simp only [nameP] at h;split at h
   · rename_i hk
     cases h;exact ⟨⟨(ht t (.head _)).name hk,rfl⟩,fun x hx=>ht x (.tail _ hx)⟩
   · cases h
theorem numP_right {ts:List Tk} {v:Int} {r:List Tk} (h:numP L ts=.ok v r) (ht:TksOk ts):0<=v/\v<=9223372036854775807/\TksOk r:=by
 cases ts with
 | nil=>cases h
 | cons t q =>
   simp only [numP] at h;split at h
   · cases h
     exact ⟨(ht t (.head _)).lo,(ht t (.head _)).hi,fun x hx=>ht x (.tail _ hx)⟩
   · cases h
def ShD (d:Dc):Prop:=nameB d.name=true /\ -9223372036854775808<d.wd/\d.wd<=9223372036854775807
def BaD (d:Dc):Prop:=nameB d.name=true/\d.wd=0
theorem first_right {ts:List Tk} {d:Dc} {r:List Tk} (h:firstP L ts=.ok d r) (ht:TksOk ts):ShD d/\TksOk r:=by
 unfold firstP at h;obtain ⟨a,b,j,f⟩:=PR.then_eq_ok h;have k:=name_right j ht;split at f
 · split at f
   · obtain ⟨c, e, g, i⟩ := PR.then_eq_ok f
     have:=numP_right g (toks_tail (toks_tail k.2));cases i;exact ⟨⟨k.1.1,by show -9223372036854775808 < -c;omega,by show -c<=9223372036854775807;omega⟩,this.2.2⟩
   · obtain ⟨c, e, g, i⟩ := PR.then_eq_ok f
     have:=numP_right g (toks_tail k.2);cases i;exact ⟨⟨k.1.1,by show -9223372036854775808<c;omega,by show c<=9223372036854775807;omega⟩,this.2.2⟩
 · cases f;exact ⟨⟨k.1.1,by rw [k.1.2];omega,by rw [k.1.2];omega⟩,k.2⟩
theorem list_right {P:Dc->Prop} {one:List Tk->PR Dc} (ho:∀ ts d r,one ts=.ok d r->TksOk ts->P d/\TksOk r):∀ (n:Nat) (acc:List Dc) (ts:List Tk) (l:List Dc) (r:List Tk),listP L one n acc ts=.ok l r->TksOk ts->(∀ d∈acc,P d)->(∀ d∈l,P d)/\TksOk r
 | 0,acc,ts,l,r,h,_,_=>by simp [listP] at h
 | n + 1, acc, ts, l, r, h, ht, ha => by
   simp only [listP] at h
   obtain ⟨a,b,h1,h2⟩:=PR.then_eq_ok h
   have k:=ho _ _ _ h1 ht
   have hs:∀ d∈acc++[a],P d:=fun d hd=>by
    rcases List.mem_append.1 hd with hd | hd
    · exact ha d hd
    · rw [List.mem_singleton] at hd;rw [hd];exact k.1
   split at h2
   · exact list_right ho n _ _ _ _ h2 (toks_tail k.2) hs
   · obtain ⟨u, c, h3, h4⟩ := PR.then_eq_ok h2
     cases h4
     exact ⟨hs,need_right h3 k.2⟩
theorem paren_right {n:Nat} {ts:List Tk} {e:Ex} {r:List Tk} (h:parenP fnd L n ts=.ok e r) (ht:TksOk ts):rgE e/\rE e 0=true/\TksOk r:=by
 unfold parenP at h;obtain ⟨u1,k,c,g⟩:=PR.then_eq_ok h;obtain ⟨u2,i,a,f⟩:=PR.then_eq_ok g;obtain ⟨u3,j,d,b⟩:=PR.then_eq_ok f;cases b;have:=binE_right a (need_right c ht);exact ⟨this.1,this.2.1,need_right d this.2.2⟩
theorem change_right {n:Nat} {t:Tk} {ts:List Tk} {s:St} {r:List Tk} (h:changeP fnd L n t ts=.ok s r) (hk:nameB t.text=true) (ht:TksOk ts) (d:Int):(rgS s/\rS s d=true)/\TksOk r:=by
 unfold changeP at h;obtain ⟨u,b,A,i⟩:=PR.then_eq_ok h;have o:=need_right A ht;split at i
 · obtain ⟨u1, H, v, z⟩ := PR.then_eq_ok i
   obtain ⟨u2,F,x,E⟩:=PR.then_eq_ok z;obtain ⟨u3,G,C,q⟩:=PR.then_eq_ok E;obtain ⟨u4,B,j,a⟩:=PR.then_eq_ok q;obtain ⟨u5,D,f,c⟩:=PR.then_eq_ok a;obtain ⟨u6,I,k,m⟩:=PR.then_eq_ok c;cases m;have p:=name_right x (need_right v (toks_tail o));have g:=binE_right j (need_right C p.2);have y:=p.1.1;have l:=g.2.1;exact ⟨⟨⟨by omega,⟨g.1,trivial⟩,trivial,trivial⟩,by simp [rS,shp,nmB,allE,hk,y,l]⟩,need_right k (need_right f g.2.2)⟩
 · obtain ⟨u4, B, j, a⟩ := PR.then_eq_ok i
   obtain ⟨u5,D,f,c⟩:=PR.then_eq_ok a;cases c;have g:=binE_right j o;have l:=g.2.1;exact ⟨⟨⟨by omega,⟨g.1,trivial⟩,trivial,trivial⟩,by simp [rS,shp,nmB,allE,hk,l]⟩,need_right f g.2.2⟩
theorem open_right {d:Int} {ts:List Tk} {u:Unit} {r:List Tk} (h:openP L d ts=.ok u r) (ht:TksOk ts):d<=64/\TksOk r:=by
 unfold openP at h;obtain ⟨a,b,f,c⟩:=PR.then_eq_ok h;split at c
 · cases c
 · cases c
   exact ⟨by omega,need_right f ht⟩
theorem sts_snoc:∀ {l:List St} {s:St} {d:Int},(rgSs l/\rAll l d=true)->(rgS s/\rS s d=true)->rgSs (l++[s])/\rAll (l++[s]) d=true
 | [],s,d,h,hs=>⟨⟨hs.1,trivial⟩,by show (rS s d&&rAll [] d)=true;rw [hs.2];rfl⟩
 | x :: r, s, d, h, hs => by
   have h2:(rS x d&&rAll r d)=true:=h.2
   simp only [Bool.and_eq_true] at h2
   have:=sts_snoc (l:=r) ⟨h.1.2,h2.2⟩ hs
   exact ⟨⟨h.1.1,this.1⟩,by show (rS x d&&rAll (r++[s]) d)=true;rw [h2.1,this.2];rfl⟩
theorem st_right:∀ n:Nat,
 (∀ d ts s r,stmtP fnd L n d ts=.ok s r->d<=64->TksOk ts->(rgS s/\rS s d=true)/\TksOk r) /\
 (∀ d acc ts l r,restP fnd L n d acc ts=.ok l r->d<=64->TksOk ts->(rgSs acc/\rAll acc d=true)->(rgSs l/\rAll l d=true)/\TksOk r):=by
 intro n;induction n with
 | zero=>exact ⟨fun d ts s r h=>by simp [stmtP] at h,fun d acc ts l r h=>by simp [restP] at h⟩
 | succ n ih =>
   obtain ⟨N,A⟩:=ih;have nil:∀ d:Int,rgSs ([]:List St)/\rAll [] d=true:=fun d=>⟨trivial,rfl⟩
   refine ⟨fun d ts s r h hd ht=>?_,fun d acc ts l r h hd ht ha=>?_⟩
   · cases ts with
     | nil=>simp [stmtP] at h
     | cons t q =>
       have J:TkOk t:=ht t (.head _);have y:TksOk q:=fun x hx=>ht x (.tail _ hx)
       simp only [stmtP] at h;split at h
       · rename_i hk;exact change_right h (J.name hk) y d
       split at h
       · obtain ⟨e, C, j, i⟩ := PR.then_eq_ok h
         obtain ⟨u2,F,m,p⟩:=PR.then_eq_ok i;obtain ⟨b,H,B,v⟩:=PR.then_eq_ok p;have f:=paren_right j y;have c:=open_right m f.2.2;have g:=A _ _ _ _ _ B c.1 c.2 (nil _);have k:=f.2.1;have z:=g.1.2;have R:=decide_eq_true c.1;split at v
         · obtain ⟨u4, P, M, I⟩ := PR.then_eq_ok v
           obtain ⟨l,Q,K,E⟩:=PR.then_eq_ok I;cases E;have G:=open_right M (toks_tail g.2);have D:=A _ _ _ _ _ K G.1 G.2 (nil _);have O:=D.1.2;exact ⟨⟨⟨by omega,⟨f.1,trivial⟩,g.1.1,D.1.1⟩,by simp [rS,shp,nmB,allE,k,z,c.1,O]⟩,D.2⟩
         · cases v
           exact ⟨⟨⟨by omega,⟨f.1,trivial⟩,g.1.1,trivial⟩,by simp [rS,shp,nmB,allE,k,z,c.1]⟩,g.2⟩
       split at h
       · obtain ⟨e, C, j, i⟩ := PR.then_eq_ok h
         obtain ⟨u2,F,m,p⟩:=PR.then_eq_ok i;obtain ⟨b,H,B,v⟩:=PR.then_eq_ok p;cases v;have f:=paren_right j y;have c:=open_right m f.2.2;have g:=A _ _ _ _ _ B c.1 c.2 (nil _);have k:=f.2.1;have z:=g.1.2;exact ⟨⟨⟨by omega,⟨f.1,trivial⟩,g.1.1,trivial⟩,by simp [rS,shp,nmB,allE,k,z,c.1]⟩,g.2⟩
       split at h
       · obtain ⟨o, C, j, i⟩ := PR.then_eq_ok h
         obtain ⟨u2,F,m,p⟩:=PR.then_eq_ok i;obtain ⟨b,H,B,v⟩:=PR.then_eq_ok p;cases v;have f:=name_right j y;have c:=open_right m f.2;have g:=A _ _ _ _ _ B c.1 c.2 (nil _);have k:=f.1.1;have z:=g.1.2;exact ⟨⟨⟨by omega,trivial,g.1.1,trivial⟩,by simp [rS,shp,nmB,allE,k,z,c.1]⟩,g.2⟩
       split at h
       · obtain ⟨e, C, j, i⟩ := PR.then_eq_ok h
         obtain ⟨u2,F,m,p⟩:=PR.then_eq_ok i;cases p;have f:=binE_right j y;have k:=f.2.1;exact ⟨⟨⟨by omega,⟨f.1,trivial⟩,trivial,trivial⟩,by simp [rS,shp,nmB,allE,k]⟩,need_right m f.2.2⟩
       split at h
       · obtain ⟨u, C, j, i⟩ := PR.then_eq_ok h
         cases i;exact ⟨⟨⟨by omega,trivial,trivial,trivial⟩,by simp [rS,shp,nmB,allE]⟩,need_right j y⟩
       · cases h
   · simp only [restP] at h
     split at h
     · cases h
       exact ⟨ha,toks_tail ht⟩
     · obtain ⟨a, b, j, i⟩ := PR.then_eq_ok h
       have c:=N _ _ _ _ j hd ht;exact A _ _ _ _ _ i hd c.2 (sts_snoc ha c.1)
theorem locals_right:∀ (n:Nat) (acc:List Dc) (ts:List Tk) (l:List Dc) (r:List Tk),localsP L n acc ts=.ok l r->TksOk ts->(∀ d∈acc,BaD d)->(∀ d∈l,BaD d)/\TksOk r
 | 0,acc,ts,l,r,h,_,_=>by simp [localsP] at h
 | n + 1, acc, ts, l, r, h, ht, ha => by
   simp only [localsP] at h
   split at h
   · obtain ⟨a, b, h1, h2⟩ := PR.then_eq_ok h
     have k1:=list_right (P:=BaD) (fun _ _ _ h ht=>name_right h ht) _ _ _ _ _ h1 (toks_tail ht) (fun d hd=>by cases hd)
     exact locals_right n _ _ _ _ h2 k1.2 (fun d hd=>by
      rcases List.mem_append.1 hd with hd | hd
      · exact ha d hd
      · exact k1.1 d hd)
   · cases h;exact ⟨ha,ht⟩
theorem bare_all {l:List Dc} (h:∀ d∈l,BaD d):bareB l=true:=List.all_eq_true.2 fun d hd=>by
 obtain ⟨h1,h2⟩:=h d hd
 rw [h1,h2];rfl
def ThR (t:Th):Prop:=thB t=true/\rgT t/\t.locals.length<=1073741824
theorem thread_right {n:Nat} {ts:List Tk} {t:Th} {r:List Tk} (h:threadP fnd L n ts=.ok t r) (ht:TksOk ts) (hl:ts.length<=65536):ThR t/\TksOk r:=by
 unfold threadP at h;obtain ⟨u1,A,g,l⟩:=PR.then_eq_ok h;obtain ⟨u2,v,b,m⟩:=PR.then_eq_ok l;obtain ⟨u3,z,f,q⟩:=PR.then_eq_ok m;obtain ⟨u4,y,p,j⟩:=PR.then_eq_ok q;cases j;have c:=name_right g ht;have o:=open_right b c.2;have i:=locals_right _ _ _ _ _ f o.2 (fun d hd=>by cases hd)
 have a:=(st_right n).2 _ _ _ _ _ p (by omega) i.2 ⟨trivial,rfl⟩
 have s:=name_ok g;have x:=open_short b;have k:=locals_ok _ _ _ _ _ f;simp at k;refine ⟨⟨?_,a.1.1,by show u3.length<=1073741824;omega⟩,a.2⟩
 show (nameB u1.name&&(bareB u3&&(decide ((1:Int)<=64)&&rAll u4 1)))=true;rw [c.1.1,bare_all i.1,a.1.2];rfl
theorem threads_right:∀ (n:Nat) (acc:List Th) (ts:List Tk) (l:List Th) (r:List Tk),threadsP fnd L n acc ts=.ok l r->TksOk ts->ts.length<=65536->(∀ t∈acc,ThR t)->∀ t∈l,ThR t
 | 0,acc,ts,l,r,h,_,_,_=>by simp [threadsP] at h
 | n + 1, acc, ts, l, r, h, ht, hl, ha => by
   simp only [threadsP] at h
   split at h
   · rename_i hi
     have:=isT_tail hi
     obtain ⟨a,b,h1,h2⟩:=PR.then_eq_ok h
     have k1:=thread_short h1
     have k2:=thread_right h1 (toks_tail ht) (by omega)
     exact threads_right n _ _ _ _ h2 k2.2 (by omega) (fun t ht=>by
      rcases List.mem_append.1 ht with ht | ht
      · exact ha t ht
      · rw [List.mem_singleton] at ht;rw [ht];exact k2.1)
   · cases h;exact ha
theorem decls_right:∀ (n:Nat) (p:Pg) (ts:List Tk) (q:Pg) (r:List Tk),declsP L n p ts=.ok q r->TksOk ts->(∀ d∈p.shared,ShD d)->(∀ d∈p.locks,BaD d)->(∀ d∈q.shared,ShD d)/\(∀ d∈q.locks,BaD d)/\TksOk r
 | 0,p,ts,q,r,h,_,_,_=>by simp [declsP] at h
 | n + 1, p, ts, q, r, h, ht, h1', h2' => by
   simp only [declsP] at h
   split at h
   · obtain ⟨a, b, h1, h2⟩ := PR.then_eq_ok h
     have k1:=list_right (P:=ShD) (fun _ _ _ h ht=>first_right h ht) _ _ _ _ _ h1 (toks_tail ht) (fun d hd=>by cases hd)
     exact decls_right n _ _ _ _ h2 k1.2 (fun d hd=>by
      rcases List.mem_append.1 hd with hd | hd
      · exact h1' d hd
      · exact k1.1 d hd) h2'
   · split at h
     · obtain ⟨a, b, h1, h2⟩ := PR.then_eq_ok h
       have k1:=list_right (P:=BaD) (fun _ _ _ h ht=>name_right h ht) _ _ _ _ _ h1 (toks_tail ht) (fun d hd=>by cases hd)
       exact decls_right n _ _ _ _ h2 k1.2 h1' (fun d hd=>by
        rcases List.mem_append.1 hd with hd | hd
        · exact h2' d hd
        · exact k1.1 d hd)
     · cases h;exact ⟨h1',h2',ht⟩
theorem prog_right {n:Nat} {ts:List Tk} {p:Pg} {r:List Tk} (h:progP fnd L n ts=.ok p r) (ht:TksOk ts) (hl:ts.length<=65536):PrOk p/\rP p=true:=by
 have f:=prog_ok h hl;unfold progP at h;obtain ⟨q,b,g,s⟩:=PR.then_eq_ok h;obtain ⟨l,v,i,m⟩:=PR.then_eq_ok s;cases m;have o:=decls_ok _ _ _ _ _ g;simp at o;have a:=decls_right _ _ _ _ _ g ht (fun d hd=>by cases hd) (fun d hd=>by cases hd)
 have c:=threads_right _ _ _ _ _ i a.2.2 (by omega) (fun t ht=>by cases ht)
 refine ⟨⟨f,fun t ht=>(c t ht).2.1,fun d hd=>⟨Int.le_of_lt (a.1 d hd).2.1,(a.1 d hd).2.2⟩,by show q.shared.length<=1073741824;omega,by show q.locks.length<=1073741824;omega,fun t ht=>(c t ht).2.2⟩,?_⟩
 show (sharedB q.shared&&(bareB q.locks&&l.all thB))=true
 rw [bare_all a.2.1,show l.all thB=true from List.all_eq_true.2 fun t ht=>(c t ht).1,show sharedB q.shared=true from List.all_eq_true.2 fun d hd=>by
  obtain ⟨j,k,_⟩:=a.1 d hd
  rw [j,decide_eq_true k];rfl]
 rfl
end
theorem said_right {s:ByteArray} {p:Pg} {a b c:Int} (h:said_P s=(some p,a,b,c)):PrOk p/\rP p=true:=by
 unfold said_P wholeR at h;split at h
 · cases h
 · rename_i hl
   split at h
   · cases h
   · rename_i hf
     generalize hX:endP (progP fnd (s.size:Int) (fuel ((scanX s).1.map Res.tk)) ((scanX s).1.map Res.tk))=X at h;cases X with
     | bad p q=>cases h
     | ok q r =>
       have f:q=p:=by simpa [endR] using congrArg Prod.fst h
       subst f;have d:(scanX s).2.1=0:=by
        unfold scanX;rw [if_neg hl];split
        · rfl
        · rename_i h2;exact absurd (Classical.byContradiction hf) h2
       exact prog_right (endP_ok hX) (scan_tkok d) (by rw [List.length_map];exact scanX_len s)
theorem same_tE:∀ x y:Ex,sameE x y=true->tE x=tE y/\x.kind=y.kind/\x.op=y.op:=by
 intro x;induction x using Ex.ind with
 | h k o wd nm ks ps ih =>
   intro y h;obtain ⟨q,p,n,f,d,j⟩:=y;simp only [sameE,Bool.and_eq_true,beq_iff_eq] at h;obtain ⟨⟨⟨⟨rfl,rfl⟩,rfl⟩,g⟩,c⟩:=h;have g:nm=f:=ByteArray.ext (Array.ext' g);subst g;refine ⟨?_,rfl,rfl⟩;have i:=sameEs_len _ _ c;simp only [tE];unfold tK;have l:kid1T ks (tEs ks)=kid1T d (tEs d):=by
    match ks,d,i,c with
    | [],[],_,_=>rfl
    | [x], [y], _, c =>
      simp only [sameEs,Bool.and_true] at c;have:=ih x (.head _) y c;show kidT (x.kind==4) (tE x)=kidT (y.kind==4) (tE y);rw [this.1,this.2.1]
    | x::y::r,x'::y'::r',_,c=>rfl
   have m:kid2T o ks (tEs ks)=kid2T o d (tEs d):=by
    match ks,d,i,c with
    | [],[],_,_=>rfl
    | [x],[y],_,c=>rfl
    | [x, z], [y, u], _, c =>
      simp only [sameEs,Bool.and_true,Bool.and_eq_true] at c;have a:=ih x (.head _) y c.1;have b:=ih z (.tail _ (.head _)) u c.2;show kidT (wrL o x) (tE x)++([32]++signOf o++[32])++kidT (wrR o z) (tE z)=kidT (wrL o y) (tE y)++([32]++signOf o++[32])++kidT (wrR o u) (tE u);unfold wrL wrR;rw [a.1,a.2.1,a.2.2,b.1,b.2.1,b.2.2]
    | x::y::z::r,x'::y'::z'::r',_,c=>rfl
   rw [l,m]
theorem same_e0:∀ l m:List Ex,sameEs l m=true->e0T l=e0T m
 | [],[],_=>rfl
 | [],_::_,h=>by simp [sameEs] at h
 | _::_,[],h=>by simp [sameEs] at h
 | x :: r, y :: s, h => by
   simp only [sameEs,Bool.and_eq_true] at h
   exact (same_tE x y h.1).1
theorem same_tSs_of:∀ (l m:List St),(∀ x∈l,∀ y,sameS x y=true->∀ d,tS x d=tS y d)->sameSs l m=true->(∀ d,tSs l d=tSs m d)/\l.length=m.length
 | [],[],_,_=>⟨fun _=>rfl,rfl⟩
 | [],_::_,_,h=>by simp [sameSs] at h
 | _::_,[],_,h=>by simp [sameSs] at h
 | x :: r, y :: s, hi, h => by
   simp only [sameSs,Bool.and_eq_true] at h
   have k:=same_tSs_of r s (fun z hz=>hi z (.tail _ hz)) h.2
   refine ⟨fun d=>?_,by simp [k.2]⟩
   show tS x d++tSs r d=tS y d++tSs s d
   rw [hi x (.head _) y h.1 d,k.1 d]
theorem same_tS:∀ x y:St,sameS x y=true->∀ d,tS x d=tS y d:=by
 intro x;induction x using St.ind with
 | h k n o e b l ps ihb ihl =>
   intro y h d;obtain ⟨q,s,v,r,p,t,z⟩:=y;simp only [sameS,Bool.and_eq_true,beq_iff_eq] at h;obtain ⟨⟨⟨⟨⟨rfl,c⟩,j⟩,m⟩,g⟩,f⟩:=h;have i:=same_tSs_of _ _ ihb g;have a:=same_tSs_of _ _ ihl f;simp only [tS,c,j,same_e0 _ _ m,i.1 (d+1),a.1 (d+1),a.2]
theorem same_tSs (l m:List St) (h:sameSs l m=true) (d:Nat):tSs l d=tSs m d:=(same_tSs_of l m (fun x _=>same_tS x) h).1 d
theorem same_dParts (s:ByteArray):∀ (l m:List Dc),sameBy sameD l m=true->dParts s l=dParts s m/\l.length=m.length:=by
 have b:∀ (l m:List Dc),sameBy sameD l m=true->∀ s,dParts s l=dParts s m/\l.length=m.length:=by
  intro l;induction l with
  | nil => intro m h s; cases m with
    | nil=>exact ⟨rfl,rfl⟩
    | cons=>simp [sameBy] at h
  | cons x r ih => intro m h s; cases m with
    | nil=>simp [sameBy] at h
    | cons y t =>
      simp only [sameBy,Bool.and_eq_true] at h;obtain ⟨n,w,p⟩:=x;obtain ⟨f,d,i⟩:=y;have a:=h.1;simp only [sameD,Bool.and_eq_true,beq_iff_eq] at a;have g:n=f:=ByteArray.ext (Array.ext' a.1);have c:w=d:=a.2;subst g c;refine ⟨?_,by simp [(ih t h.2 s).2]⟩
      simp only [dParts,dPart];rw [(ih t h.2 _).1]
 exact fun l m h=>b l m h s
theorem same_tDs (word:ByteArray) (l m:List Dc) (d:Nat) (h:sameBy sameD l m=true):tDs word l d=tDs word m d:=by
 unfold tDs;rw [(same_dParts spS l m h).1,(same_dParts spS l m h).2]
theorem same_tT (x y:Th) (h:sameT x y=true):tT x=tT y:=by
 unfold sameT at h;simp only [Bool.and_eq_true,beq_iff_eq] at h;unfold tT;rw [h.1.1,same_tDs _ _ _ _ h.1.2,same_tSs _ _ h.2]
theorem same_tTs:∀ (l m:List Th),sameBy sameT l m=true->l.flatMap tT=m.flatMap tT
 | [],[],_=>rfl
 | [],_::_,h=>by simp [sameBy] at h
 | _::_,[],h=>by simp [sameBy] at h
 | x :: r, y :: s, h => by
   simp only [sameBy,Bool.and_eq_true] at h
   rw [List.flatMap_cons,List.flatMap_cons,same_tT x y h.1,same_tTs r s h.2]
theorem same_tP {x y:Pg} (h:samePg x y=true):tP x=tP y:=by
 unfold samePg at h;simp only [Bool.and_eq_true] at h;unfold tP;rw [same_tDs _ _ _ _ h.1.1,same_tDs _ _ _ _ h.1.2,same_tTs _ _ h.2]
open Go.RowKit
set_option linter.unusedVariables false
theorem kid1_bare (ks ks':List Ex) (fs:List (Int->Bool)) (d:Int) (h:ks'.map (fun e=>(e.kind,e.op))=ks.map (fun e=>(e.kind,e.op))):kid1 ks' fs d=kid1 ks fs d:=by
 match ks,ks',fs,h with
 | [],[],_,_=>rfl
 | [x], [y], fs, h =>
   simp only [List.map_cons,List.map_nil,List.cons.injEq,Prod.mk.injEq,and_true] at h;match fs with
   | []=>rfl
   | [f]=>simp only [kid1,h.1]
   | _::_::_=>rfl
 | _::_::_,_::_::_,_,_=>rfl
 | [_],_::_::_,_,h=>exact absurd (congrArg List.length h) (by simp)
 | _::_::_,[_],_,h=>exact absurd (congrArg List.length h) (by simp)
theorem kid2_bare (o:Int) (ks ks':List Ex) (fs:List (Int->Bool)) (d:Int) (h:ks'.map (fun e=>(e.kind,e.op))=ks.map (fun e=>(e.kind,e.op))):kid2 o ks' fs d=kid2 o ks fs d:=by
 match ks,ks',fs,h with
 | [],[],_,_=>rfl
 | [_],[_],_,_=>rfl
 | [x, y], [x', y'], fs, h =>
   simp only [List.map_cons,List.map_nil,List.cons.injEq,Prod.mk.injEq,and_true] at h;match fs with
   | []=>rfl
   | [_]=>rfl
   | [f,g]=>simp only [kid2,wrL,wrR,h.1.1,h.1.2,h.2.1,h.2.2]
   | _::_::_::_=>rfl
 | _::_::_::_,_::_::_::_,_,_=>rfl
 | [_],_::_::_,_,h=>exact absurd (congrArg List.length h) (by simp)
 | [_,_],[_],_,h=>exact absurd (congrArg List.length h) (by simp)
 | [_,_],_::_::_::_,_,h=>exact absurd (congrArg List.length h) (by simp)
 | _::_::_::_,[_],_,h=>exact absurd (congrArg List.length h) (by simp)
 | _::_::_::_,[_,_],_,h=>exact absurd (congrArg List.length h) (by simp)
mutual
def Ex.ren (g:ByteArray->ByteArray):Ex->Ex
 | .mk k o w n ks p=>.mk k o w (if k=2 then g n else n) (exsRen g ks) p
def exsRen (g:ByteArray->ByteArray):List Ex->List Ex
 | []=>[]
 | e::r=>e.ren g::exsRen g r
end
mutual
def St.ren (g:ByteArray->ByteArray):St->St
 | .mk k n o e b l p=>.mk k (g n) (g o) (exsRen g e) (stsRen g b) (stsRen g l) p
def stsRen (g:ByteArray->ByteArray):List St->List St
 | []=>[]
 | e::r=>e.ren g::stsRen g r
end
def Dc.ren (g:ByteArray->ByteArray) (d:Dc):Dc:=⟨g d.name,d.wd,d.pos⟩
def Th.ren (g:ByteArray->ByteArray) (t:Th):Th:=⟨g t.name,t.locals.map (Dc.ren g),stsRen g t.body,t.pos⟩
def Pg.ren (g:ByteArray->ByteArray) (p:Pg):Pg:=⟨p.shared.map (Dc.ren g),p.locks.map (Dc.ren g),p.threads.map (Th.ren g)⟩
mutual
def nmE:Ex->List ByteArray
 | .mk k _ _ n ks _=>(if k=2 then [n] else [])++nmEs ks
def nmEs:List Ex->List ByteArray
 | []=>[]
 | e::r=>nmE e++nmEs r
end
mutual
def nmS:St->List ByteArray
 | .mk _ n o e b l _=>n::o::(nmEs e++(nmSs b++nmSs l))
def nmSs:List St->List ByteArray
 | []=>[]
 | e::r=>nmS e++nmSs r
end
def nmDs (l:List Dc):List ByteArray:=l.map Dc.name
def nmT (t:Th):List ByteArray:=t.name::(nmDs t.locals++nmSs t.body)
def nmTs (l:List Th):List ByteArray:=l.flatMap nmT
def nmP (p:Pg):List ByteArray:=nmDs p.shared++nmDs p.locks++nmTs p.threads
theorem exsRen_map (g:ByteArray->ByteArray):∀ l:List Ex,exsRen g l=l.map (Ex.ren g)
 | []=>rfl
 | x::r=>by rw [exsRen,exsRen_map g r];rfl
theorem stsRen_map (g:ByteArray->ByteArray):∀ l:List St,stsRen g l=l.map (St.ren g)
 | []=>rfl
 | x::r=>by rw [stsRen,stsRen_map g r];rfl
theorem exsRen_len (g:ByteArray->ByteArray) (l:List Ex):(exsRen g l).length=l.length:=by rw [exsRen_map,List.length_map]
theorem stsRen_len (g:ByteArray->ByteArray) (l:List St):(stsRen g l).length=l.length:=by rw [stsRen_map,List.length_map]
section
variable {g h:ByteArray->ByteArray}
theorem bytes_same {a b:ByteArray} (h:(a.data.toList==b.data.toList)=true):a=b:=by
 have h:=eq_of_beq h;cases a with
 | mk a => cases b with
   | mk b=>congr 1;exact Array.toList_inj.1 h
theorem okEs_ren:∀ l:List Ex,okEs l->okEs (exsRen g l):=by
 intro l;induction l using Exs.ind with
 | h0=>intro _;trivial
 | h1 k o wd nm ks p r ih1 ih2 =>
   intro h;exact ⟨⟨by rw [exsRen_len];exact h.1.1,ih1 h.1.2⟩,ih2 h.2⟩
theorem okSs_ren:∀ l:List St,okSs l->okSs (stsRen g l):=by
 intro l;induction l using Sts.ind with
 | h0=>intro _;trivial
 | h1 k n o e b l p r ih1 ih2 ih3 =>
   intro h;obtain ⟨⟨⟨f,i⟩,⟨m,c⟩,j,d⟩,a⟩:=h;exact ⟨⟨⟨by rw [exsRen_len];exact f,okEs_ren _ i⟩,⟨by rw [stsRen_len];exact m,ih1 c⟩,by rw [stsRen_len];exact j,ih2 d⟩,ih3 a⟩
theorem okP_ren {x:Pg} (h:okP x):okP (x.ren g):=by
 obtain ⟨c,k,a,i⟩:=h;refine ⟨by simpa [Pg.ren] using c,by simpa [Pg.ren] using k,by simpa [Pg.ren] using a,fun t ht=>?_⟩
 obtain ⟨u,f,rfl⟩:=List.mem_map.1 (show t∈x.threads.map (Th.ren g) from ht)
 obtain ⟨b,d,j⟩:=i u f;exact ⟨by simpa [Th.ren] using b,by simp only [Th.ren];rw [stsRen_len];exact d,okSs_ren _ j⟩
theorem rgEs_ren:∀ l:List Ex,rgEs l->rgEs (exsRen g l):=by
 intro l;induction l using Exs.ind with
 | h0=>intro _;trivial
 | h1 k o wd nm ks p r ih1 ih2 =>
   intro h;exact ⟨⟨h.1.1,h.1.2.1,h.1.2.2.1,ih1 h.1.2.2.2⟩,ih2 h.2⟩
theorem rgSs_ren:∀ l:List St,rgSs l->rgSs (stsRen g l):=by
 intro l;induction l using Sts.ind with
 | h0=>intro _;trivial
 | h1 k n o e b l p r ih1 ih2 ih3 =>
   intro h;exact ⟨⟨h.1.1,rgEs_ren _ h.1.2.1,ih1 h.1.2.2.1,ih2 h.1.2.2.2⟩,ih3 h.2⟩
theorem prOk_ren {x:Pg} (h:PrOk x):PrOk (x.ren g):=by
 obtain ⟨f,k,b,j,i,c⟩:=h;refine ⟨okP_ren f,fun t ht=>?_,fun d hd=>?_,by simpa [Pg.ren] using j,by simpa [Pg.ren] using i,fun t ht=>?_⟩
 · obtain ⟨u, a, rfl⟩ := List.mem_map.1 (show t ∈ x.threads.map (Th.ren g) from ht)
   exact rgSs_ren _ (k u a)
 · obtain ⟨u, a, rfl⟩ := List.mem_map.1 (show d ∈ x.shared.map (Dc.ren g) from hd)
   exact b u a
 · obtain ⟨u, a, rfl⟩ := List.mem_map.1 (show t ∈ x.threads.map (Th.ren g) from ht)
   simpa [Th.ren] using c u a
theorem kindsE_ren:∀ l:List Ex,(exsRen g l).map (fun e=>(e.kind,e.op))=l.map (fun e=>(e.kind,e.op))
 | []=>rfl
 | .mk k o wd nm ks p::r=>by simp only [exsRen,List.map_cons,kindsE_ren r];rfl
theorem nmB_ren (hg:∀ s,nameB s=true->nameB (g s)=true) (h0:g ⟨#[]⟩=⟨#[]⟩) {n:ByteArray} {b:Bool} (h:nmB n b=true):nmB (g n) b=true:=by
 cases b with
 | true=>exact hg n h
 | false =>
   have:n=⟨#[]⟩:=bytes_same h;subst this;rw [h0];rfl
theorem kid1_mono (ks:List Ex):∀ (fs fs':List (Int->Bool)) (d:Int),(fs'.length=fs.length)->(∀ (i:Nat) (f f':Int->Bool) (d:Int),fs[i]? = some f->fs'[i]? = some f'->f d=true->f' d=true)->kid1 ks fs d=true->kid1 ks fs' d=true:=by
 intro fs fs' d a b h;match ks,fs,fs',a with
 | [x],[f],[f'],_=>exact b 0 f f' _ rfl rfl h
 | [],_,_,_=>cases h
 | [_],[],_,_=>cases h
 | [_],_::_::_,_,_=>cases h
 | _::_::_,_,_,_=>simp [kid1] at h
theorem kid2_mono (o:Int) (ks:List Ex):∀ (fs fs':List (Int->Bool)) (d:Int),(fs'.length=fs.length)->(∀ (i:Nat) (f f':Int->Bool) (d:Int),fs[i]? = some f->fs'[i]? = some f'->f d=true->f' d=true)->kid2 o ks fs d=true->kid2 o ks fs' d=true:=by
 intro fs fs' d b a h;match ks,fs,fs',b with
 | [x, y], [f, f2], [f', f2'], _ =>
   simp only [kid2,Bool.and_eq_true] at h ⊢;exact ⟨a 0 f f' _ rfl rfl h.1,a 1 f2 f2' _ rfl rfl h.2⟩
 | [],_,_,_=>simp [kid2] at h
 | [_],_,_,_=>simp [kid2] at h
 | [_,_],[],_,_=>simp [kid2] at h
 | [_,_],[_],_,_=>simp [kid2] at h
 | [_,_],_::_::_::_,_,_=>simp [kid2] at h
 | _::_::_::_,_,_,_=>simp [kid2] at h
theorem rEs_len:∀ l:List Ex,(rEs l).length=l.length
 | []=>rfl
 | x::r=>by simp [rEs,rEs_len r]
theorem rEs_ren (hg:∀ s,nameB s=true->nameB (g s)=true) (h0:g ⟨#[]⟩=⟨#[]⟩):∀ l:List Ex,∀ (i:Nat) (f f':Int->Bool) (d:Int),(rEs l)[i]? = some f->(rEs (exsRen g l))[i]? = some f'->f d=true->f' d=true:=by
 intro l;induction l using Exs.ind with
 | h0=>intro i f f' d h;simp [rEs] at h
 | h1 k o wd nm ks p r ih1 ih2 =>
   intro i f f' d m c h;cases i with
   | succ i=>exact ih2 i f f' d (by simpa [rEs] using m) (by simpa [rEs,exsRen] using c) h
   | zero =>
     obtain rfl:rE (.mk k o wd nm ks p)=f:=by simpa [rEs] using m
     obtain rfl:rE (Ex.ren g (.mk k o wd nm ks p))=f':=by simpa [rEs,exsRen] using c
     simp only [Ex.ren,rE,Bool.and_eq_true] at h ⊢;obtain ⟨h1,q,j,a⟩:=h;refine ⟨h1,q,?_,?_⟩
     · split
       · exact nmB_ren hg h0 j
       · exact j
     · have b : (rEs (exsRen g ks)).length = (rEs ks).length := by rw [rEs_len, rEs_len, exsRen_len]
       have n:(exsRen g ks).isEmpty=ks.isEmpty:=by cases ks <;> rfl
       unfold kB at a ⊢;split
       · rename_i e;rw [if_pos e] at a;rw [n];exact a
       · rename_i e; rw [if_neg e] at a
         split
         · rename_i e3; rw [if_pos e3] at a
           simp only [Bool.and_eq_true] at a ⊢;refine ⟨a.1,?_⟩;rw [kid1_bare ks (exsRen g ks) _ _ (kindsE_ren ks)];exact kid1_mono ks _ _ _ b ih1 a.2
         · rename_i e3; rw [if_neg e3] at a
           split
           · rename_i e4; rw [if_pos e4] at a
             simp only [Bool.and_eq_true] at a ⊢;refine ⟨a.1,?_⟩;rw [kid2_bare o ks (exsRen g ks) _ _ (kindsE_ren ks)];exact kid2_mono o ks _ _ _ b ih1 a.2
           · rename_i e4;rw [if_neg e4] at a;exact a
theorem allE_ren (hg:∀ s,nameB s=true->nameB (g s)=true) (h0:g ⟨#[]⟩=⟨#[]⟩) (l:List Ex) (h:allE l=true):allE (exsRen g l)=true:=by
 have b:∀ l:List Ex,allE l=(rEs l).all (fun f=>f 0):=by
  intro l;unfold allE;induction l with
  | nil=>rfl
  | cons x r ih=>simp only [List.all_cons,rEs,ih]
 rw [b] at h ⊢;rw [List.all_eq_true] at h ⊢;intro k c;obtain ⟨i,j⟩:=List.getElem?_of_mem c;have a:=(List.getElem?_eq_some_iff.1 j).1;rw [rEs_len,exsRen_len] at a;have d:(rEs l)[i]? = some ((rEs l)[i]'(by rw [rEs_len];exact a)):=List.getElem?_eq_getElem _
 exact rEs_ren hg h0 l i _ k 0 d j (h _ (List.mem_of_getElem? d))
theorem rAll_ren (hg:∀ s,nameB s=true->nameB (g s)=true) (h0:g ⟨#[]⟩=⟨#[]⟩):∀ (l:List St) (d:Int),rAll l d=true->rAll (stsRen g l) d=true:=by
 intro l;induction l using Sts.ind with
 | h0=>intro d _;rfl
 | h1 k n o e b l p r ih1 ih2 ih3 =>
   intro d h;simp only [stsRen,rAll,St.ren,rS,exsRen_len,stsRen_len,Bool.and_eq_true,Bool.or_eq_true] at h ⊢;obtain ⟨⟨y,c,q,m,t,f,v,x,j,a⟩,i⟩:=h;exact ⟨⟨y,c,nmB_ren hg h0 q,nmB_ren hg h0 m,t,f,v,allE_ren hg h0 _ x,j.imp id (fun h=>⟨h.1,ih1 _ h.2⟩),a.imp id (fun h=>⟨h.1,ih2 _ h.2⟩)⟩,ih3 d i⟩
theorem bareB_ren (hg:∀ s,nameB s=true->nameB (g s)=true) {l:List Dc} (h:bareB l=true):bareB (l.map (Dc.ren g))=true:=by
 unfold bareB at h ⊢;rw [List.all_map,List.all_eq_true];intro d a;have:=List.all_eq_true.1 h d a;simp only [Function.comp,Dc.ren,Bool.and_eq_true] at this ⊢;exact ⟨hg _ this.1,this.2⟩
theorem rP_ren (hg:∀ s,nameB s=true->nameB (g s)=true) (h0:g ⟨#[]⟩=⟨#[]⟩) {x:Pg} (h:rP x=true):rP (x.ren g)=true:=by
 simp only [rP,Pg.ren,Bool.and_eq_true] at h ⊢;obtain ⟨a,i,b⟩:=h;refine ⟨?_,bareB_ren hg i,?_⟩
 · unfold sharedB at a ⊢
   rw [List.all_map,List.all_eq_true];intro d c;have:=List.all_eq_true.1 a d c;simp only [Function.comp,Dc.ren,Bool.and_eq_true] at this ⊢;exact ⟨hg _ this.1,this.2⟩
 · rw [List.all_map, List.all_eq_true]
   intro t f;have:=List.all_eq_true.1 b t f;simp only [Function.comp,thB,Th.ren,rB,Bool.and_eq_true] at this ⊢;exact ⟨hg _ this.1,bareB_ren hg this.2.1,this.2.2.1,rAll_ren hg h0 _ _ this.2.2.2⟩
end
def gR (f t s:ByteArray):ByteArray:=if s=f/\s≠⟨#[]⟩ then t else s
theorem gR_empty (f t:ByteArray):gR f t ⟨#[]⟩=⟨#[]⟩:=if_neg (fun h=>h.2 rfl)
theorem gR_name {f t:ByteArray} (ht:nameB t=true) {s:ByteArray} (hs:nameB s=true):nameB (gR f t s)=true:=by
 unfold gR;split
 · exact ht
 · exact hs
theorem name_nonempty {s:ByteArray} (h:nameB s=true):s≠⟨#[]⟩:=fun e=>by subst e;revert h;decide
end Go.Proofs.YtbgfkdiihnidaaaGreatDoor

import Derived.Test.YtbgfkdiihnidaaaGreatDoorQAY
import Derived.Test.YtbgfkdiihnidaaaGreatDoorQAX
set_option maxRecDepth 100000
set_option maxHeartbeats 20000000
namespace Go.Proofs.YtbgfkdiihnidaaaGreatDoor
set_option linter.unusedVariables false
theorem one_e {es:List Ex} {m:Int} (h:((es.length:Int)==m)=true) (hm:m=1) (ha:allE es=true):∃ y,es=[y]/\rE y 0=true:=by
 have a:es.length=1:=by have:=eq_of_beq h;omega
 obtain ⟨y,rfl⟩:=List.length_eq_one_iff.1 a;exact ⟨y,rfl,by simpa [allE] using ha⟩
theorem nil_of {α:Type} {l:List α} (h:((l.length:Int)==0)=true):l=[]:=by
 have:=eq_of_beq h;exact List.eq_nil_of_length_eq_zero (by omega)
theorem blk_back {l:List St} (H:RestB l) {L d:Int} {n:Nat} {ts r:List Tk} {t1 t2:Tk} (hr:rB l d=true) (h:ts.map Tk.bt=kSs l) (h1:t1.bt=sgK [123]) (h2:t2.bt=sgK [125]) (hn:3*(ts++t2::r).length+3<=n) :
 ∃ ss,openP L d (t1::(ts++t2::r))=.ok () (ts++t2::r)/\restP fnd L n d [] (ts++t2::r)=.ok ss r/\sameSs l ss=true:=by
 unfold rB at hr;simp only [Bool.and_eq_true,decide_eq_true_eq] at hr;obtain ⟨ss,a,b⟩:=H L d n [] ts r t2 hr.2 h h2 hn;exact ⟨ss,open_tok (bt_tx h1).2 hr.1,by simpa using a,b⟩
theorem paren_back {x:Ex} {L:Int} {n:Nat} {ts r:List Tk} {t1 t2:Tk} (hr:rE x 0=true) (h:ts.map Tk.bt=kE x) (h1:t1.bt=sgK [40]) (h2:t2.bt=sgK [41]) (hn:3*(ts++t2::r).length+2<=n) :
 ∃ e,parenP fnd L n (t1::(ts++t2::r))=.ok e r/\sameE x e=true:=by
 obtain ⟨e,a,b⟩:=ex_back (L:=L) (n:=n) (r:=r) hr h (bt_tx h2).2 (by decide) hn
 refine ⟨e,?_,b⟩;unfold parenP;rw [need_tok (bt_tx h1).2];simp only [PR.then_ok];rw [a];simp only [PR.then_ok];rw [need_tok (bt_tx h2).2];rfl
theorem dec_mem (u:Nat):∀ c∈Lib.decDigits u,48<=c.toNat/\c.toNat<=57:=by
 rw [Lib.decDigits_eq];intro c a;obtain ⟨t,_,rfl⟩:=List.mem_map.1 a;unfold Lib.dg;rw [UInt8.toNat_ofNat'];omega
theorem kE_first:∀ (y:Ex) (d:Int),rE y d=true->∃ b l,kE y=b::l/\b.2.1.data.toList≠[115,119,97,112]:=by
 intro y;induction y using Ex.ind with
 | h k o wd nm ks ps ih =>
   intro d j;simp only [rE,Bool.and_eq_true,decide_eq_true_eq] at j;obtain ⟨p,m,g,c⟩:=j;simp only [kE];unfold kK;unfold kB at c;by_cases k1:k=1
   · subst k1
     rw [if_pos rfl];refine ⟨_,_,rfl,fun e=>?_⟩
     have e:Lib.itoa wd=[115,119,97,112]:=e;have q:0<=wd:=by
      unfold wdB at m;simp at m;omega
     have f:Lib.itoa wd=Lib.decDigits wd.toNat:=by unfold Lib.itoa;rw [if_neg (by omega)]
     have:=dec_mem wd.toNat 115 (by rw [<- f,e];simp)
     revert this;decide
   by_cases k2:k=2
   · subst k2
     rw [if_neg (by omega),if_pos rfl]
     refine ⟨_,_,rfl,fun e=>?_⟩
     have e:nm.data.toList=[115,119,97,112]:=e;have:=name_noword (nm_yes g);rw [e] at this;revert this;decide
   by_cases k3:k=3
   · subst k3
     rw [if_neg (by omega),if_neg (by omega),if_pos rfl]
     refine ⟨_,_,rfl,fun e=>?_⟩
     have e:signOf o=[115,119,97,112]:=e;have:=sign_len o;rw [e] at this;simp at this
   by_cases k4:k=4
   · subst k4
     rw [if_neg (by omega),if_neg (by omega),if_neg (by omega),if_pos rfl]
     rw [if_neg (by omega),if_neg (by omega),if_pos rfl] at c
     simp only [Bool.and_eq_true] at c;match ks,c.2,ih with
     | [a, b], hkk, ih =>
       have i:rE a (d+b2i (wrL o a))=true/\rE b (d+b2i (wrR o b))=true:=by simpa [kid2,rEs] using hkk
       show ∃ b_1 l,kidK (wrL o a) (kE a)++(sgK (signOf o)::kidK (wrR o b) (kE b))=b_1::l/\_;cases hwr:wrL o a with
       | true=>exact ⟨_,_,rfl,by decide⟩
       | false =>
         obtain ⟨x,l,f,n⟩:=ih a (.head _) _ i.1;exact ⟨x,l++(sgK (signOf o)::kidK (wrR o b) (kE b)),by show kE a++_=_;rw [f];rfl,n⟩
     | [],hkk,_=>simp [kid2] at hkk
     | [_],hkk,_=>simp [kid2] at hkk
     | _::_::_::_,hkk,_=>simp [kid2] at hkk
   · rw [if_neg (by omega), if_neg k3, if_neg k4] at c
     cases c
theorem no_swap {y:Ex} {d:Int} (hr:rE y d=true) {ts r:List Tk} (h:ts.map Tk.bt=kE y):isT [115,119,97,112] (ts++r)=false:=by
 obtain ⟨b,l,a,g⟩:=kE_first y d hr;rw [a] at h;obtain ⟨t,c,rfl,f,_⟩:=List.map_eq_cons_iff.1 h;have:t.tx=b.2.1.data.toList:=by rw [<- f];rfl
 unfold isT;simpa [this] using g
theorem st_back:∀ x:St,StB x:=by
 intro x;induction x using St.ind with
 | h k nm ot es bo el ps ihb ihl =>
   have HB:=rest_back ihb;have HE:=rest_back ihl;intro L d n E r hr ah h j;obtain ⟨m,rfl⟩:∃ m,n=m+1:=⟨n-1,by omega⟩
   simp only [rS,Bool.and_eq_true,decide_eq_true_eq] at hr;obtain ⟨au,ao,r1,W,J,r4,V,r6,C,r8⟩:=hr;simp only [kS] at h;rcases kind_cases au ao with rfl | rfl | rfl | rfl | rfl | rfl | rfl
   · obtain ⟨y, rfl, z⟩ := one_e J rfl r6
     obtain rfl:bo=[]:=nil_of (by simpa [shp] using r4)
     obtain rfl:el=[]:=nil_of (by simpa [shp] using V)
     have t:ot.data.toList=[]:=nm_none W;have h:E.map Tk.bt=kN nm::sgK [61]::(kE y++[sgK [59]]):=h;obtain ⟨l,K,rfl,a,b⟩:=List.map_eq_cons_iff.1 h;obtain ⟨I,F,rfl,o,c⟩:=List.map_eq_cons_iff.1 b;obtain ⟨X,N,rfl,s,f⟩:=List.map_eq_append_iff.1 c;obtain ⟨Z,Y,rfl,v,g⟩:=List.map_eq_cons_iff.1 f;obtain rfl:Y=[]:=by simpa using g
     simp only [List.cons_append,List.append_assoc,List.nil_append] at j ⊢;obtain ⟨e,A,B⟩:=ex_back (L:=L) (n:=m) (r:=r) z s (bt_tx v).2 (by decide) (by simp at j ⊢;omega)
     refine ⟨.mk 1 l.text ⟨#[]⟩ [e] [] [] l.pos,?_,?_⟩
     · simp only [stmtP]
       rw [if_pos (bt_n a).1];unfold changeP;rw [need_tok (bt_tx o).2];simp only [PR.then_ok];rw [if_neg (by rw [no_swap z s];decide),A]
       simp only [PR.then_ok];rw [need_tok (bt_tx v).2];rfl
     · simp only [sameS,sameEs,sameSs,t,B,(bt_n a).2,beq_self_eq_true,Bool.and_self]
   · obtain ⟨y, rfl, z⟩ := one_e J rfl r6
     obtain rfl:bo=[]:=nil_of (by simpa [shp] using r4)
     obtain rfl:el=[]:=nil_of (by simpa [shp] using V)
     have h:E.map Tk.bt=kN nm::sgK [61]::kW [115,119,97,112]::sgK [40]::kN ot::sgK [44]::(kE y++[sgK [41],sgK [59]]):=h;obtain ⟨l,K,rfl,a,b⟩:=List.map_eq_cons_iff.1 h;obtain ⟨I,F,rfl,o,c⟩:=List.map_eq_cons_iff.1 b;obtain ⟨Z,N,rfl,v,f⟩:=List.map_eq_cons_iff.1 c;obtain ⟨T,Y,rfl,D,g⟩:=List.map_eq_cons_iff.1 f;obtain ⟨P,l4,rfl,H,i⟩:=List.map_eq_cons_iff.1 g;obtain ⟨t5,l5,rfl,h5,q⟩:=List.map_eq_cons_iff.1 i;obtain ⟨X,l6,rfl,s,p⟩:=List.map_eq_append_iff.1 q;obtain ⟨t6,l7,rfl,h6,O⟩:=List.map_eq_cons_iff.1 p;obtain ⟨t7,l8,rfl,h7,Q⟩:=List.map_eq_cons_iff.1 O;obtain rfl:l8=[]:=by simpa using Q
     simp only [List.cons_append,List.append_assoc,List.nil_append] at j ⊢;obtain ⟨e,A,B⟩:=ex_back (L:=L) (n:=m) (r:=t7::r) z s (bt_tx h6).2 (by decide) (by simp at j ⊢;omega)
     refine ⟨.mk 2 l.text P.text [e] [] [] l.pos,?_,?_⟩
     · simp only [stmtP]
       rw [if_pos (bt_n a).1];unfold changeP;rw [need_tok (bt_tx o).2];simp only [PR.then_ok];rw [if_pos (by unfold isT;simp [(bt_w v).2])]
       simp only [List.tail_cons];rw [need_tok (bt_tx D).2];simp only [PR.then_ok,nameP];rw [if_pos (bt_n H).1];simp only [PR.then_ok];rw [need_tok (bt_tx h5).2];simp only [PR.then_ok];rw [A];simp only [PR.then_ok];rw [need_tok (bt_tx h6).2];simp only [PR.then_ok];rw [need_tok (bt_tx h7).2];rfl
     · simp only [sameS,sameEs,sameSs,B,(bt_n a).2,(bt_n H).2,beq_self_eq_true,Bool.and_self]
   · obtain ⟨y, rfl, z⟩ := one_e J rfl r6
     have G:nm.data.toList=[]:=nm_none r1;have t:ot.data.toList=[]:=nm_none W;have C:rB bo (d+1)=true:=by
      unfold rB;rw [Bool.and_eq_true,decide_eq_true_eq];simpa [shp] using C
     by_cases hel:0<el.length
     · have h : E.map Tk.bt = kW [105, 102] :: sgK [40] :: (kE y ++ (sgK [41] :: sgK [123] :: (kSs bo ++ (sgK [125] :: kW [101, 108, 115, 101] :: sgK [123] :: (kSs el ++ [sgK [125]]))))) := by rw [if_pos hel] at h; exact h
       obtain ⟨l,K,rfl,a,b⟩:=List.map_eq_cons_iff.1 h;obtain ⟨I,F,rfl,o,c⟩:=List.map_eq_cons_iff.1 b;obtain ⟨X,N,rfl,s,f⟩:=List.map_eq_append_iff.1 c;obtain ⟨Z,Y,rfl,v,g⟩:=List.map_eq_cons_iff.1 f;obtain ⟨T,l4,rfl,D,i⟩:=List.map_eq_cons_iff.1 g;obtain ⟨x1,l5,rfl,g1,q⟩:=List.map_eq_append_iff.1 i;obtain ⟨P,l6,rfl,H,p⟩:=List.map_eq_cons_iff.1 q;obtain ⟨t5,l7,rfl,h5,O⟩:=List.map_eq_cons_iff.1 p;obtain ⟨t6,l8,rfl,h6,Q⟩:=List.map_eq_cons_iff.1 O;obtain ⟨x2,l9,rfl,g2,ap⟩:=List.map_eq_append_iff.1 Q;obtain ⟨t7,av,rfl,h7,aa⟩:=List.map_eq_cons_iff.1 ap;obtain rfl:av=[]:=by simpa using aa
       simp only [List.cons_append,List.append_assoc,List.nil_append] at j ⊢;have r8:rB el (d+1)=true:=by
        unfold rB;rw [Bool.and_eq_true,decide_eq_true_eq];have af:0<(el.length:Int):=by omega
        rw [decide_eq_true af] at r8;simpa using r8
       obtain ⟨e,A,B⟩:=paren_back (L:=L) (n:=m) (r:=T::(x1++P::t5::t6::(x2++t7::r))) z s o v (by simp at j ⊢;omega)
       obtain ⟨U,M,R,S⟩:=blk_back HB (L:=L) (n:=m) (r:=t5::t6::(x2++t7::r)) C g1 D H (by simp at j ⊢;omega)
       obtain ⟨s2,c1,c2,c3⟩:=blk_back HE (L:=L) (n:=m) (r:=r) r8 g2 h6 h7 (by simp at j ⊢;omega)
       refine ⟨.mk 3 ⟨#[]⟩ ⟨#[]⟩ [e] U s2 l.pos,?_,?_⟩
       · simp only [stmtP]
         rw [if_neg (by rw [(bt_w a).1];omega),if_pos (bt_w a).2]
         rw [A];simp only [PR.then_ok];rw [M];simp only [PR.then_ok];rw [R];simp only [PR.then_ok];rw [if_pos (by unfold isT;simp [(bt_w h5).2])]
         simp only [List.tail_cons];rw [c1];simp only [PR.then_ok];rw [c2];rfl
       · simp only [sameS,sameEs,G,t,B,S,c3,beq_self_eq_true,Bool.and_self]
     · have h : E.map Tk.bt = kW [105, 102] :: sgK [40] :: (kE y ++ (sgK [41] :: sgK [123] :: (kSs bo ++ [sgK [125]]))) := by rw [if_neg hel] at h; exact h
       obtain ⟨l,K,rfl,a,b⟩:=List.map_eq_cons_iff.1 h;obtain ⟨I,F,rfl,o,c⟩:=List.map_eq_cons_iff.1 b;obtain ⟨X,N,rfl,s,f⟩:=List.map_eq_append_iff.1 c;obtain ⟨Z,Y,rfl,v,g⟩:=List.map_eq_cons_iff.1 f;obtain ⟨T,l4,rfl,D,i⟩:=List.map_eq_cons_iff.1 g;obtain ⟨x1,l5,rfl,g1,q⟩:=List.map_eq_append_iff.1 i;obtain ⟨P,l6,rfl,H,p⟩:=List.map_eq_cons_iff.1 q;obtain rfl:l6=[]:=by simpa using p
       simp only [List.cons_append,List.append_assoc,List.nil_append] at j ⊢;obtain rfl:el=[]:=List.eq_nil_of_length_eq_zero (by omega)
       obtain ⟨e,A,B⟩:=paren_back (L:=L) (n:=m) (r:=T::(x1++P::r)) z s o v (by simp at j ⊢;omega)
       obtain ⟨U,M,R,S⟩:=blk_back HB (L:=L) (n:=m) (r:=r) C g1 D H (by simp at j ⊢;omega)
       refine ⟨.mk 3 ⟨#[]⟩ ⟨#[]⟩ [e] U [] l.pos,?_,?_⟩
       · simp only [stmtP]
         rw [if_neg (by rw [(bt_w a).1];omega),if_pos (bt_w a).2]
         rw [A];simp only [PR.then_ok];rw [M];simp only [PR.then_ok];rw [R];simp only [PR.then_ok];unfold noElse at ah;rw [if_neg (by rw [ah];decide)]
       · simp only [sameS,sameEs,sameSs,G,t,B,S,beq_self_eq_true,Bool.and_self]
   · obtain ⟨y, rfl, z⟩ := one_e J rfl r6
     obtain rfl:el=[]:=nil_of (by simpa [shp] using V)
     have G:nm.data.toList=[]:=nm_none r1;have t:ot.data.toList=[]:=nm_none W;have C:rB bo (d+1)=true:=by
      unfold rB;rw [Bool.and_eq_true,decide_eq_true_eq];simpa [shp] using C
     have h:E.map Tk.bt=kW [119,104,105,108,101]::sgK [40]::(kE y++(sgK [41]::sgK [123]::(kSs bo++[sgK [125]]))):=h;obtain ⟨l,K,rfl,a,b⟩:=List.map_eq_cons_iff.1 h;obtain ⟨I,F,rfl,o,c⟩:=List.map_eq_cons_iff.1 b;obtain ⟨X,N,rfl,s,f⟩:=List.map_eq_append_iff.1 c;obtain ⟨Z,Y,rfl,v,g⟩:=List.map_eq_cons_iff.1 f;obtain ⟨T,l4,rfl,D,i⟩:=List.map_eq_cons_iff.1 g;obtain ⟨x1,l5,rfl,g1,q⟩:=List.map_eq_append_iff.1 i;obtain ⟨P,l6,rfl,H,p⟩:=List.map_eq_cons_iff.1 q;obtain rfl:l6=[]:=by simpa using p
     simp only [List.cons_append,List.append_assoc,List.nil_append] at j ⊢;obtain ⟨e,A,B⟩:=paren_back (L:=L) (n:=m) (r:=T::(x1++P::r)) z s o v (by simp at j ⊢;omega)
     obtain ⟨U,M,R,S⟩:=blk_back HB (L:=L) (n:=m) (r:=r) C g1 D H (by simp at j ⊢;omega)
     refine ⟨.mk 4 ⟨#[]⟩ ⟨#[]⟩ [e] U [] l.pos,?_,?_⟩
     · simp only [stmtP]
       rw [if_neg (by rw [(bt_w a).1];omega),if_neg (by rw [(bt_w a).2];decide),if_pos (bt_w a).2]
       rw [A];simp only [PR.then_ok];rw [M];simp only [PR.then_ok];rw [R];rfl
     · simp only [sameS,sameEs,sameSs,G,t,B,S,beq_self_eq_true,Bool.and_self]
   · obtain rfl : es = [] := nil_of (by simpa [shp] using J)
     obtain rfl:el=[]:=nil_of (by simpa [shp] using V)
     have t:ot.data.toList=[]:=nm_none W;have C:rB bo (d+1)=true:=by
      unfold rB;rw [Bool.and_eq_true,decide_eq_true_eq];simpa [shp] using C
     have h:E.map Tk.bt=kW [108,111,99,107]::kN nm::sgK [123]::(kSs bo++[sgK [125]]):=h;obtain ⟨l,K,rfl,a,b⟩:=List.map_eq_cons_iff.1 h;obtain ⟨I,F,rfl,o,c⟩:=List.map_eq_cons_iff.1 b;obtain ⟨Z,N,rfl,v,f⟩:=List.map_eq_cons_iff.1 c;obtain ⟨X,Y,rfl,s,g⟩:=List.map_eq_append_iff.1 f;obtain ⟨T,l4,rfl,D,i⟩:=List.map_eq_cons_iff.1 g;obtain rfl:l4=[]:=by simpa using i
     simp only [List.cons_append,List.append_assoc,List.nil_append] at j ⊢;obtain ⟨U,M,R,S⟩:=blk_back HB (L:=L) (n:=m) (r:=r) C s v D (by simp at j ⊢;omega)
     refine ⟨.mk 5 I.text ⟨#[]⟩ [] U [] l.pos,?_,?_⟩
     · simp only [stmtP]
       rw [if_neg (by rw [(bt_w a).1];omega),if_neg (by rw [(bt_w a).2];decide),if_neg (by rw [(bt_w a).2];decide),if_pos (bt_w a).2]
       simp only [nameP];rw [if_pos (bt_n o).1];simp only [PR.then_ok];rw [M];simp only [PR.then_ok];rw [R];rfl
     · simp only [sameS,sameEs,sameSs,t,S,(bt_n o).2,beq_self_eq_true,Bool.and_self]
   · obtain ⟨y, rfl, z⟩ := one_e J rfl r6
     obtain rfl:bo=[]:=nil_of (by simpa [shp] using r4)
     obtain rfl:el=[]:=nil_of (by simpa [shp] using V)
     have G:nm.data.toList=[]:=nm_none r1;have t:ot.data.toList=[]:=nm_none W;have h:E.map Tk.bt=kW [112,114,105,110,116]::(kE y++[sgK [59]]):=h;obtain ⟨l,K,rfl,a,b⟩:=List.map_eq_cons_iff.1 h;obtain ⟨X,F,rfl,s,c⟩:=List.map_eq_append_iff.1 b;obtain ⟨I,N,rfl,o,f⟩:=List.map_eq_cons_iff.1 c;obtain rfl:N=[]:=by simpa using f
     simp only [List.cons_append,List.append_assoc,List.nil_append] at j ⊢;obtain ⟨e,A,B⟩:=ex_back (L:=L) (n:=m) (r:=r) z s (bt_tx o).2 (by decide) (by simp at j ⊢;omega)
     refine ⟨.mk 6 ⟨#[]⟩ ⟨#[]⟩ [e] [] [] l.pos,?_,?_⟩
     · simp only [stmtP]
       rw [if_neg (by rw [(bt_w a).1];omega),if_neg (by rw [(bt_w a).2];decide),if_neg (by rw [(bt_w a).2];decide),if_neg (by rw [(bt_w a).2];decide),if_pos (bt_w a).2]
       rw [A];simp only [PR.then_ok];rw [need_tok (bt_tx o).2];rfl
     · simp only [sameS,sameEs,sameSs,G,t,B,beq_self_eq_true,Bool.and_self]
   · obtain rfl : es = [] := nil_of (by simpa [shp] using J)
     obtain rfl:bo=[]:=nil_of (by simpa [shp] using r4)
     obtain rfl:el=[]:=nil_of (by simpa [shp] using V)
     have G:nm.data.toList=[]:=nm_none r1;have t:ot.data.toList=[]:=nm_none W;have h:E.map Tk.bt=[kW [115,107,105,112],sgK [59]]:=h;obtain ⟨l,K,rfl,a,b⟩:=List.map_eq_cons_iff.1 h;obtain ⟨I,F,rfl,o,c⟩:=List.map_eq_cons_iff.1 b;obtain rfl:F=[]:=by simpa using c
     simp only [List.cons_append,List.nil_append] at j ⊢;refine ⟨.mk 7 ⟨#[]⟩ ⟨#[]⟩ [] [] [] l.pos,?_,?_⟩
     · simp only [stmtP]
       rw [if_neg (by rw [(bt_w a).1];omega),if_neg (by rw [(bt_w a).2];decide),if_neg (by rw [(bt_w a).2];decide),if_neg (by rw [(bt_w a).2];decide),if_neg (by rw [(bt_w a).2];decide),if_pos (bt_w a).2]
       rw [need_tok (bt_tx o).2];rfl
     · simp only [sameS,sameEs,sameSs,G,t,beq_self_eq_true,Bool.and_self]
theorem block_back (l:List St):RestB l:=rest_back fun x _=>st_back x
def nbK (wd:Int):Bk:=(3,itoaS wd,wd)
def dK (d:Dc):List Bk:=kN d.name::(if d.wd=0 then [] else sgK [61]::(if d.wd<0 then [sgK [45],nbK (-d.wd)] else [nbK d.wd]))
def dsK:List Dc->List Bk
 | []=>[]
 | [d]=>dK d++[sgK [59]]
 | d::e::r=>dK d++(sgK [44]::dsK (e::r))
def lineK (w:Bs) (l:List Dc):List Bk:=if l.length=0 then [] else kW w::dsK l
def kT (t:Th):List Bk:=kW [116,104,114,101,97,100]::kN t.name::sgK [123]::(lineK [108,111,99,97,108] t.locals++(kSs t.body++[sgK [125]]))
def kP (p:Pg):List Bk:=lineK [115,104,97,114,101,100] p.shared++(lineK [108,111,99,107] p.locks++p.threads.flatMap kT)
theorem isT_ne {s u:Bs} {t:Tk} {r:List Tk} (h:t.tx=u) (hn:¬ u=s):isT s (t::r)=false:=by
 unfold isT;simpa [h] using hn
theorem isT_eq {s:Bs} {t:Tk} {r:List Tk} (h:t.tx=s):isT s (t::r)=true:=by
 unfold isT;simp [h]
def OneB (one:List Tk->PR Dc) (ok:Dc->Prop):Prop:=∀ (d:Dc) (ts r:List Tk) (t:Tk),ok d->ts.map Tk.bt=dK d->(t.tx=[44]\/t.tx=[59])->∃ e,one (ts++t::r)=.ok e (t::r)/\sameD d e=true
theorem first_back (L:Int):OneB (firstP L) (fun d=>-9223372036854775808<d.wd):=by
 intro d C r t B h j;unfold dK at h;obtain ⟨i,y,rfl,x,f⟩:=List.map_eq_cons_iff.1 h;obtain ⟨q,m⟩:=bt_n x;by_cases hz:d.wd=0
 · rw [if_pos hz] at f
   obtain rfl:y=[]:=by simpa using f
   refine ⟨⟨i.text,0,i.pos⟩,?_,by simp only [sameD,m,hz,beq_self_eq_true,Bool.and_self]⟩
   simp only [List.cons_append,List.nil_append,firstP,nameP];rw [if_pos q];simp only [PR.then_ok];rw [if_neg (by rw [show isT [61] (t::r)=false by rcases j with j | j <;> exact isT_ne j (by decide)];decide)]
 · rw [if_neg hz] at f
   obtain ⟨l,z,rfl,k,c⟩:=List.map_eq_cons_iff.1 f;by_cases hn:d.wd<0
   · rw [if_pos hn] at c
     obtain ⟨v,A,rfl,s,o⟩:=List.map_eq_cons_iff.1 c;obtain ⟨b,n,rfl,a,g⟩:=List.map_eq_cons_iff.1 o;obtain rfl:n=[]:=by simpa using g
     unfold Tk.bt nbK at a;simp only [Prod.mk.injEq] at a;refine ⟨⟨i.text,-b.wd,i.pos⟩,?_,by simp only [sameD,m,a.2.2,Int.neg_neg,beq_self_eq_true,Bool.and_self]⟩
     simp only [List.cons_append,List.nil_append,firstP,nameP];rw [if_pos q];simp only [PR.then_ok];rw [if_pos (isT_eq (bt_tx k).2),if_pos (show isT [45] (List.tail (l::v::b::t::r))=true from isT_eq (bt_tx s).2)]
     show (numP L (b::t::r)).then _=_;simp only [numP];rw [if_pos a.1];rfl
   · rw [if_neg hn] at c
     obtain ⟨b,n,rfl,a,g⟩:=List.map_eq_cons_iff.1 c;obtain rfl:n=[]:=by simpa using g
     unfold Tk.bt nbK at a;simp only [Prod.mk.injEq] at a;have p:¬ b.tx=[45]:=fun e=>by
      have e:(itoaS d.wd).data.toList=[45]:=by rw [<- e,<- a.2.1];rfl
      have e:Lib.itoa d.wd=[45]:=e;have k:Lib.itoa d.wd=Lib.decDigits d.wd.toNat:=by unfold Lib.itoa;rw [if_neg (by omega)]
      have:=dec_mem d.wd.toNat 45 (by rw [<- k,e];simp)
      revert this;decide
     refine ⟨⟨i.text,b.wd,i.pos⟩,?_,by simp only [sameD,m,a.2.2,beq_self_eq_true,Bool.and_self]⟩
     simp only [List.cons_append,List.nil_append,firstP,nameP];rw [if_pos q];simp only [PR.then_ok];rw [if_pos (isT_eq (bt_tx k).2),if_neg (show ¬ isT [45] (List.tail (l::b::t::r))=true by rw [show isT [45] (List.tail (l::b::t::r))=false from isT_ne rfl p];decide)]
     show (numP L (b::t::r)).then _=_;simp only [numP];rw [if_pos a.1];rfl
theorem name_back (L:Int):OneB (nameP L) (fun d=>d.wd=0):=by
 intro d l r t b h k;unfold dK at h;rw [if_pos b] at h;obtain ⟨c,i,rfl,j,a⟩:=List.map_eq_cons_iff.1 h;obtain rfl:i=[]:=by simpa using a
 obtain ⟨g,f⟩:=bt_n j;refine ⟨⟨c.text,0,c.pos⟩,?_,by simp only [sameD,f,b,beq_self_eq_true,Bool.and_self]⟩
 simp only [List.cons_append,List.nil_append,nameP];rw [if_pos g]
theorem list_back {L:Int} {one:List Tk->PR Dc} {ok:Dc->Prop} (H:OneB one ok):∀ (l:List Dc) (n:Nat) (acc:List Dc) (ts r:List Tk),l≠[]->(∀ d∈l,ok d)->ts.map Tk.bt=dsK l->ts.length<=n->∃ es,listP L one n acc (ts++r)=.ok (acc++es) r/\sameBy sameD l es=true
 | [],n,acc,ts,r,h0,_,_,_=>absurd rfl h0
 | [d], n, acc, ts, r, _, hk, h, hn => by
   simp only [dsK] at h
   obtain ⟨l1,l2,rfl,h1,h2⟩:=List.map_eq_append_iff.1 h
   obtain ⟨t,l3,rfl,h3,h4⟩:=List.map_eq_cons_iff.1 h2
   obtain rfl:l3=[]:=by simpa using h4
   obtain ⟨m,rfl⟩:∃ m,n=m+1:=⟨n-1,by simp at hn;omega⟩
   obtain ⟨e,b,a⟩:=H d l1 r t (hk d (.head _)) h1 (.inr (bt_tx h3).2)
   refine ⟨[e],?_,by simp only [sameBy,a,Bool.and_self]⟩
   simp only [List.append_assoc,List.cons_append,List.nil_append,listP]
   rw [b]
   simp only [PR.then_ok]
   rw [if_neg (by rw [isT_ne (bt_tx h3).2 (by decide)];decide),need_tok (bt_tx h3).2]
   rfl
 | d :: e :: l, n, acc, ts, r, _, hk, h, hn => by
   simp only [dsK] at h
   obtain ⟨l1,l2,rfl,h1,h2⟩:=List.map_eq_append_iff.1 h
   obtain ⟨t,l3,rfl,h3,h4⟩:=List.map_eq_cons_iff.1 h2
   obtain ⟨m,rfl⟩:∃ m,n=m+1:=⟨n-1,by simp at hn;omega⟩
   obtain ⟨x,b,a⟩:=H d l1 (l3++r) t (hk d (.head _)) h1 (.inl (bt_tx h3).2)
   obtain ⟨es,f,c⟩:=list_back H (e::l) m (acc++[x]) l3 r (by simp) (fun y hy=>hk y (.tail _ hy)) h4 (by simp at hn;omega)
   refine ⟨x::es,?_,by simp only [sameBy,a,Bool.true_and] at c ⊢;exact c⟩
   simp only [List.append_assoc,List.cons_append,listP]
   rw [b]
   simp only [PR.then_ok]
   rw [if_pos (isT_eq (bt_tx h3).2)]
   simp only [List.tail_cons]
   rw [f]
   simp
theorem kS_headG {s:Bs} (hs:wordL s=true) (hs5:s≠[105,102]/\s≠[119,104,105,108,101]/\s≠[108,111,99,107]/\s≠[112,114,105,110,116]/\s≠[115,107,105,112]) {x:St} {d:Int} (hr:rS x d=true) {ts r:List Tk} (h:ts.map Tk.bt=kS x):isT s (ts++r)=false:=by
 obtain ⟨k,o,I,C,G,J,M⟩:=x;simp only [rS,Bool.and_eq_true,decide_eq_true_eq] at hr;obtain ⟨f,g,i,D,E,F,H,N,K,L⟩:=hr;have a:∀ (b:Bk) (l:List Bk),ts.map Tk.bt=b::l->b.2.1.data.toList≠s->isT s (ts++r)=false:=by
  intro b l n y;obtain ⟨t,z,rfl,v,_⟩:=List.map_eq_cons_iff.1 n;have:t.tx=b.2.1.data.toList:=by rw [<- v];rfl
  exact isT_ne this y
 have c:(shp k).1=true->o.data.toList≠s:=fun h e=>by
  rw [h] at i;have j:=name_noword i;rw [e,hs] at j;cases j
 obtain ⟨B,m,q,A,p⟩:=hs5;rcases kind_cases f g with rfl | rfl | rfl | rfl | rfl | rfl | rfl
 · exact a _ _ (by rw [h];simp only [kS];rfl) (c rfl)
 · exact a _ _ (by rw [h];simp only [kS];rfl) (c rfl)
 · exact a _ _ (by rw [h];simp only [kS];rfl) B.symm
 · exact a _ _ (by rw [h];simp only [kS];rfl) m.symm
 · exact a _ _ (by rw [h];simp only [kS];rfl) q.symm
 · exact a _ _ (by rw [h];simp only [kS];rfl) A.symm
 · exact a _ _ (by rw [h];simp only [kS];rfl) p.symm
theorem kSs_headG {s:Bs} (hs:wordL s=true) (hs5:s≠[105,102]/\s≠[119,104,105,108,101]/\s≠[108,111,99,107]/\s≠[112,114,105,110,116]/\s≠[115,107,105,112]) (h125:¬ [125]=s) {l:List St} {d:Int} (hr:rAll l d=true) {ts r:List Tk} {t:Tk} (h:ts.map Tk.bt=kSs l) (ht:t.tx=[125]):isT s (ts++t::r)=false:=by
 cases l with
 | nil =>
   obtain rfl:ts=[]:=by simpa [kSs] using h
   exact isT_ne ht h125
 | cons y l =>
   simp only [kSs] at h;obtain ⟨b,c,rfl,a,f⟩:=List.map_eq_append_iff.1 h;simp only [rAll,Bool.and_eq_true] at hr;rw [List.append_assoc];exact kS_headG hs hs5 hr.1 a
theorem bare_zero {l:List Dc} (h:bareB l=true):∀ d∈l,d.wd=0:=fun d hd=>by
 have:=List.all_eq_true.1 h d hd
 simp only [Bool.and_eq_true,beq_iff_eq] at this
 exact this.2
theorem line_cases {w:Bs} {l:List Dc} {ts:List Tk} (h:ts.map Tk.bt=lineK w l):(l=[]/\ts=[])\/(l≠[]/\∃ t ts',ts=t::ts'/\t.tx=w/\ts'.map Tk.bt=dsK l):=by
 unfold lineK at h;by_cases hl:l.length=0
 · rw [if_pos hl] at h
   exact .inl ⟨List.eq_nil_of_length_eq_zero hl,by simpa using h⟩
 · rw [if_neg hl] at h
   obtain ⟨t,ts',rfl,a,b⟩:=List.map_eq_cons_iff.1 h;exact .inr ⟨fun e=>hl (by rw [e];rfl),t,ts',rfl,(bt_w a).2,b⟩
theorem locals_back {L:Int} {l:List Dc} {n:Nat} {acc:List Dc} {ts r:List Tk} (hl:bareB l=true) (h:ts.map Tk.bt=lineK [108,111,99,97,108] l) (hr:isT [108,111,99,97,108] r=false) (hn:ts.length+2<=n) :
 ∃ es,localsP L n acc (ts++r)=.ok (acc++es) r/\sameBy sameD l es=true:=by
 obtain ⟨m,rfl⟩:∃ m,n=m+1:=⟨n-1,by omega⟩
 rcases line_cases h with ⟨rfl,rfl⟩ | ⟨d,t,a,rfl,c,g⟩
 · refine ⟨[], ?_, rfl⟩
   simp only [List.nil_append,localsP,List.append_nil];rw [if_neg (by rw [hr];decide)]
 · obtain ⟨es, f, b⟩ := list_back (name_back L) l m [] a r d (bare_zero hl) g (by simp at hn; omega)
   refine ⟨es,?_,b⟩;simp only [List.cons_append,localsP];rw [if_pos (isT_eq c)];simp only [List.tail_cons];rw [f];simp only [PR.then_ok,List.nil_append];obtain ⟨i,rfl⟩:∃ k,m=k+1:=⟨m-1,by simp at hn;omega⟩
   simp only [localsP];rw [if_neg (by rw [hr];decide)]
theorem thread_back {L:Int} {x:Th} {n:Nat} {ts r:List Tk} (hx:thB x=true) (h:kW [116,104,114,101,97,100]::ts.map Tk.bt=kT x) (hn:3*(ts++r).length+5<=n) :
 ∃ y,threadP fnd L n (ts++r)=.ok y r/\sameT x y=true:=by
 obtain ⟨J,M,q,Q⟩:=x;simp only [thB,Bool.and_eq_true] at hx;obtain ⟨G,i,a⟩:=hx;unfold kT at h;have h:=(List.cons.inj h).2;simp only at h;obtain ⟨p,O,rfl,o,j⟩:=List.map_eq_cons_iff.1 h;obtain ⟨H,K,rfl,B,c⟩:=List.map_eq_cons_iff.1 j;obtain ⟨P,N,rfl,F,d⟩:=List.map_eq_append_iff.1 c;obtain ⟨s,I,rfl,l,f⟩:=List.map_eq_append_iff.1 d;obtain ⟨m,v,rfl,k,g⟩:=List.map_eq_cons_iff.1 f;obtain rfl:v=[]:=by simpa using g
 simp only [List.cons_append,List.append_assoc,List.nil_append] at hn ⊢;have b:rAll q 1=true:=by
  unfold rB at a;simp only [Bool.and_eq_true] at a;exact a.2
 obtain ⟨t,A,z⟩:=locals_back (L:=L) (n:=n) (acc:=[]) (r:=s++m::r) i F (kSs_headG (by decide) (by decide) (by decide) b l (bt_tx k).2) (by simp at hn ⊢;omega)
 obtain ⟨D,E,C⟩:=block_back q L 1 n [] s r m b l k (by simp at hn ⊢;omega)
 refine ⟨⟨p.text,t,D,p.pos⟩,?_,by simp only [sameT,(bt_n o).2,z,C,beq_self_eq_true,Bool.and_self]⟩
 unfold threadP;simp only [nameP];rw [if_pos (bt_n o).1];simp only [PR.then_ok];rw [open_tok (bt_tx B).2 (by omega)]
 simp only [PR.then_ok];rw [A];simp only [PR.then_ok];rw [E];rfl
theorem threads_back {L:Int} : ∀ (l:List Th) (n:Nat) (acc:List Th) (ts:List Tk),(∀ t∈l,thB t=true)->ts.map Tk.bt=l.flatMap kT->3*ts.length+5<=n->∃ es,threadsP fnd L n acc ts=.ok (acc++es) []/\sameBy sameT l es=true
 | [], n, acc, ts, _, h, hn => by
   obtain rfl:ts=[]:=by simpa using h
   obtain ⟨m,rfl⟩:∃ m,n=m+1:=⟨n-1,by omega⟩
   exact ⟨[],by simp [threadsP,isT],rfl⟩
 | x :: l, n, acc, ts, hk, h, hn => by
   obtain ⟨m,rfl⟩:∃ m,n=m+1:=⟨n-1,by omega⟩
   rw [List.flatMap_cons] at h
   obtain ⟨d,a,rfl,f,o⟩:=List.map_eq_append_iff.1 h
   obtain ⟨q,p,rfl,i,b⟩:=List.map_eq_cons_iff.1 (show d.map Tk.bt=kW [116,104,114,101,97,100]::_ from f)
   obtain ⟨y,j,c⟩:=thread_back (L:=L) (n:=m) (r:=a) (hk x (.head _)) (by rw [b];rfl) (by simp at hn ⊢;omega)
   obtain ⟨es,k,g⟩:=threads_back l m (acc++[y]) a (fun t ht=>hk t (.tail _ ht)) o (by simp at hn ⊢;omega)
   refine ⟨y::es,?_,by simp only [sameBy,c,g,Bool.and_self]⟩
   simp only [List.cons_append,threadsP]
   rw [if_pos (isT_eq (bt_w i).2)]
   simp only [List.tail_cons]
   rw [j]
   simp only [PR.then_ok]
   rw [k]
   simp
theorem decls_shared {L:Int} {l:List Dc} {n:Nat} {p:Pg} {ts r:List Tk} (hl:∀ d∈l,-9223372036854775808<d.wd) (h:ts.map Tk.bt=lineK [115,104,97,114,101,100] l) (hn:ts.length+1<=n) :
 ∃ m es,n<=m+1/\declsP L n p (ts++r)=declsP L m { p with shared:=p.shared++es } r/\sameBy sameD l es=true:=by
 rcases line_cases h with ⟨rfl,rfl⟩ | ⟨f,t,a,rfl,c,i⟩
 · exact ⟨n,[],by omega,by simp,rfl⟩
 · obtain ⟨m, rfl⟩ : ∃ m, n = m + 1 := ⟨n - 1, by omega⟩
   obtain ⟨es,g,b⟩:=list_back (first_back L) l m [] a r f hl i (by simp at hn;omega)
   refine ⟨m,es,by omega,?_,b⟩
   rw [List.cons_append];simp only [declsP];rw [if_pos (isT_eq c)];simp only [List.tail_cons];rw [g];rfl
theorem decls_locks {L:Int} {l:List Dc} {n:Nat} {p:Pg} {ts r:List Tk} (hl:∀ d∈l,d.wd=0) (h:ts.map Tk.bt=lineK [108,111,99,107] l) (hn:ts.length+1<=n) :
 ∃ m es,n<=m+1/\declsP L n p (ts++r)=declsP L m { p with locks:=p.locks++es } r/\sameBy sameD l es=true:=by
 rcases line_cases h with ⟨rfl,rfl⟩ | ⟨f,t,a,rfl,b,i⟩
 · exact ⟨n,[],by omega,by simp,rfl⟩
 · obtain ⟨m, rfl⟩ : ∃ m, n = m + 1 := ⟨n - 1, by omega⟩
   obtain ⟨es,g,c⟩:=list_back (name_back L) l m [] a r f hl i (by simp at hn;omega)
   refine ⟨m,es,by omega,?_,c⟩
   rw [List.cons_append];simp only [declsP];rw [if_neg (by rw [isT_ne b (by decide)];decide),if_pos (isT_eq b)]
   simp only [List.tail_cons];rw [g];rfl
theorem flat_head {l:List Th} {ts:List Tk} (h:ts.map Tk.bt=l.flatMap kT) (s:Bs) (hs:¬ [116,104,114,101,97,100]=s):isT s ts=false:=by
 cases l with
 | nil =>
   obtain rfl:ts=[]:=by simpa using h
   rfl
 | cons x l =>
   rw [List.flatMap_cons] at h;obtain ⟨d,c,rfl,a,b⟩:=List.map_eq_cons_iff.1 (show ts.map Tk.bt=kW [116,104,114,101,97,100]::_ from h)
   exact isT_ne (bt_w a).2 hs
theorem prog_back {L:Int} {x:Pg} {n:Nat} {ts:List Tk} (hx:rP x=true) (h:ts.map Tk.bt=kP x) (hn:3*ts.length+5<=n) :
 ∃ y,progP fnd L n ts=.ok y []/\samePg x y=true:=by
 obtain ⟨H,O,G⟩:=x;simp only [rP,Bool.and_eq_true] at hx;obtain ⟨g,f,a⟩:=hx;unfold kP at h;simp only at h;obtain ⟨I,J,rfl,B,o⟩:=List.map_eq_append_iff.1 h;obtain ⟨k,c,rfl,q,b⟩:=List.map_eq_append_iff.1 o;have A:∀ d∈H,-9223372036854775808<d.wd:=fun d hd=>by
  have:=List.all_eq_true.1 g d hd;simp only [Bool.and_eq_true,decide_eq_true_eq] at this;exact this.2
 obtain ⟨t,j,N,z,s⟩:=decls_shared (L:=L) (n:=n) (p:=⟨[],[],[]⟩) (r:=k++c) A B (by simp at hn;omega)
 obtain ⟨i,E,K,F,C⟩:=decls_locks (L:=L) (n:=t) (p:=⟨[]++j,[],[]⟩) (r:=c) (bare_zero f) q (by simp at hn;omega)
 obtain ⟨l,D,v⟩:=threads_back (L:=L) G n [] c (List.all_eq_true.1 a) b (by simp at hn;omega)
 obtain ⟨M,rfl⟩:∃ m,i=m+1:=⟨i-1,by simp at hn;omega⟩
 refine ⟨⟨[]++j,[]++E,[]++l⟩,?_,by simp only [samePg,List.nil_append,s,C,v,Bool.and_self]⟩
 unfold progP;rw [z];simp only;rw [F];simp only [declsP];rw [if_neg (by rw [flat_head b _ (by decide)];decide),if_neg (by rw [flat_head b _ (by decide)];decide)]
 simp only [PR.then_ok];rw [D];rfl
theorem sk_idem:∀ (l:List UInt8) (b:Bool),sk false (l.drop (sk b l))=0
 | [],b=>by cases b <;> rfl
 | c :: r, true => by
   simp only [sk]
   split
   · rw [Nat.add_comm,List.drop_succ_cons];exact sk_idem r false
   · rw [Nat.add_comm,List.drop_succ_cons];exact sk_idem r true
 | c :: r, false => by
   by_cases h1:blankB (c.toNat:Int)=true
   · have e : sk false (c :: r) = sk false r + 1 := by simp only [sk]; rw [if_pos h1, Nat.add_comm]
     rw [e,List.drop_succ_cons];exact sk_idem r false
   · by_cases h2 : c = 47 /\ r.head? = some 47
     · have e : sk false (c :: r) = sk true r + 1 := by simp only [sk]; rw [if_neg h1, if_pos h2, Nat.add_comm]
       rw [e,List.drop_succ_cons];exact sk_idem r true
     · have e : sk false (c :: r) = 0 := by simp only [sk]; rw [if_neg h1, if_neg h2]
       rw [e,List.drop_zero];exact e
theorem stop_no47 {Z:List UInt8} (h:stopH Z=true):¬ Z.head? = some 47:=by
 cases Z with
 | nil=>simp
 | cons c r =>
   intro e;have e:c=47:=by simpa using e
   subst e;exact absurd (show blankB ((47:UInt8).toNat:Int)=true from h) (by decide)
structure TxOk (x:Res):Prop where
 next:nextL x.text.data.toList=⟨x.kind,x.text.data.toList.length,x.wd,0,0⟩
 pos:¬ x.text.data.toList=[]
 quiet:∀ Z,stopH Z=true->sk false (x.text.data.toList++Z)=0
theorem nextL_clean (l:List UInt8) (h:(nextL l).fr=0):(nextL l).fa=0:=by
 cases l with
 | nil=>cases h
 | cons c r =>
   revert h;rw [show nextL (c::r)=if letterB (c.toNat:Int)=true then nameL (c::r) else if digitB (c.toNat:Int)=true then numL (c::r) else if signB (c.toNat:Int)=true then ⟨4,aheadN (c::r),0,0,0⟩ else ⟨0,0,0,0,1⟩ from rfl]
   by_cases h1:letterB (c.toNat:Int)=true
   · rw [if_pos h1]
     unfold nameL;by_cases h2:wordL ((c::r).take (spanN namedB (c::r)))=true
     · rw [if_pos h2];exact fun _=>rfl
     · rw [if_neg h2]
       by_cases h3:32<spanN namedB (c::r)
       · rw [if_pos h3];intro h;cases h
       · rw [if_neg h3];exact fun _=>rfl
   · rw [if_neg h1]
     by_cases h2:digitB (c.toNat:Int)=true
     · rw [if_pos h2]
       unfold numL;cases hv:valueO ((c::r).take (spanN digitB (c::r))) with
       | none=>intro h;cases h
       | some z =>
         simp only [numK];split
         · intro h;cases h
         · exact fun _=>rfl
     · rw [if_neg h2]
       split
       · exact fun _=>rfl
       · intro h;cases h
theorem cut_tx (q:Nat) {m:List UInt8} (hs:sk false m=0) (hf:(nextL m).fr=0):TxOk (toRes q m (nextL m)):=by
 have f:=nextL_good m hf;have b:=nextL_clean m hf;have d:(toRes q m (nextL m))=⟨(nextL m).kind,⟨(m.take (nextL m).n).toArray⟩,(nextL m).wd,q,0,0⟩:=by unfold toRes;rw [if_pos hf]
 rw [d];have a:(m.take (nextL m).n).length=(nextL m).n:=by rw [List.length_take];omega
 have c:¬ m.take (nextL m).n=[]:=by
  intro e;rw [e] at a;simp at a;omega
 have hcut:nextL (m.take (nextL m).n)=nextL m:=by
  have:=nextL_cut (p:=m.take (nextL m).n) (X:=m.drop (nextL m).n) c (by rw [List.take_append_drop];exact hf) (by rw [List.take_append_drop,a];exact Nat.le_refl _)
  rw [List.take_append_drop] at this;exact this
 refine ⟨?_,c,fun Z hZ=>?_⟩
 · show nextL (m.take (nextL m).n) = ⟨(nextL m).kind, (m.take (nextL m).n).length, (nextL m).wd, 0, 0⟩
   rw [hcut,a,<- b,<- hf]
 · show sk false (m.take (nextL m).n ++ Z) = 0
   have:=sk_in false (m.take (nextL m).n) (m.drop (nextL m).n) Z (by rw [List.take_append_drop,hs,a];omega) (stop_no47 hZ)
   rw [this,List.take_append_drop,hs]
theorem toks_tx:∀ (k:Nat) (l:List UInt8) (e:Nat) (xs:List Res),l.length<=k->restL e l=(xs,0,0)->∀ x∈xs,TxOk x:=by
 intro k;induction k with
 | zero =>
   intro l e xs i h x b;have:l=[]:=List.eq_nil_of_length_eq_zero (by omega)
   subst this;have j:restL e []=([],0,0):=rfl;rw [j] at h;cases h;cases b
 | succ k ih =>
   intro l e xs i h x b;obtain ⟨m,a⟩:∃ m,l.drop (sk false l)=m:=⟨_,rfl⟩;have o:sk false m=0:=by rw [<- a];exact sk_idem l false
   by_cases hm:m=[]
   · rw [rest_nil (by rw [a]; exact hm)] at h
     cases h;cases b
   · have c : (nextL m).fr = 0 := by
      apply Classical.byContradiction;intro c;rw [rest_fault a hm c] at h;exact c (congrArg (fun x=>x.2.2) h)
     have p:=nextL_good m c;rw [rest_tok a c] at h;have f:=congrArg Prod.fst h;have g:=congrArg Prod.snd h;simp only at f g;rw [<- f] at b;rcases List.mem_cons.1 b with rfl | b
     · exact cut_tx _ o c
     · have d : (m.drop (nextL m).n).length <= k := by
        have:m.length<=l.length:=by rw [<- a];simp
        rw [List.length_drop];omega
       exact ih _ _ _ d (by rw [<- g]) x b
theorem ndec_last (n:Nat) (h:10<=n):Lib.decDigits n=Lib.decDigits (n / 10)++[UInt8.ofNat (48+n % 10)]:=by
 rw [Lib.decDigits,dif_neg (by omega)]
theorem ndigit_nat (k:Nat) (h:k<10):((UInt8.ofNat (48+k)).toNat:Int)=48+k:=by
 rw [UInt8.toNat_ofNat'];omega
theorem digitsV_snoc (c:UInt8):∀ (l:List UInt8) (v:Int),digitsV (l++[c]) v=(match digitsV l v with | none=>none | some z=>if digitB (c.toNat:Int)=false then none else if (9223372036854775807-((c.toNat:Int)-48)) / 10<z then none else some (z*10+((c.toNat:Int)-48)))
 | [],v=>by simp only [List.nil_append,digitsV]
 | d :: l, v => by
   simp only [List.cons_append,digitsV]
   split
   · rfl
   · split
     · rfl
     · exact digitsV_snoc c l _
theorem dec_small (n:Nat) (h:n<10):Lib.decDigits n=[UInt8.ofNat (48+n)]:=by
 exact Lib.decDigits_one h
theorem dec_value:∀ (m n:Nat),n<=m->n<=9223372036854775807->digitsV (Lib.decDigits n) 0=some (n:Int)
 | 0, n, h, _ => by
   have:n=0:=by omega
   subst this
   rw [dec_small 0 (by decide)]
   decide
 | m + 1, n, h, hn => by
   by_cases h10:n<10
   · rw [dec_small n h10]
     have e:=ndigit_nat n h10
     simp only [digitsV]
     rw [e]
     have a:digitB (48+(n:Int))=true:=by unfold digitB;exact b_t (by omega)
     rw [a,if_neg (by decide),if_neg (by omega)]
     congr 1;omega
   · have b := dec_value m (n / 10) (by omega) (by omega)
     rw [ndec_last n (by omega),digitsV_snoc,b]
     have e:=ndigit_nat (n % 10) (by omega)
     simp only
     rw [e]
     have a:digitB (48+((n % 10:Nat):Int))=true:=by unfold digitB;exact b_t (by omega)
     rw [a,if_neg (by decide),if_neg (by omega)]
     congr 1;omega
theorem dec_head:∀ (m n:Nat),n<=m->0<n->∃ c r,Lib.decDigits n=c::r/\digitB (c.toNat:Int)=true/\¬ (c.toNat:Int)=48
 | 0,n,h,h0=>by omega
 | m + 1, n, h, h0 => by
   by_cases h10:n<10
   · rw [dec_small n h10]
     have e:=ndigit_nat n h10
     exact ⟨_,[],rfl,by rw [e];unfold digitB;exact b_t (by omega),by rw [e];omega⟩
   · obtain ⟨c, r, hc, hd, h48⟩ := dec_head m (n / 10) (by omega) (by omega)
     rw [ndec_last n (by omega),hc]
     exact ⟨c,r++[UInt8.ofNat (48+n % 10)],rfl,hd,h48⟩
theorem dec_valueO (n:Nat) (hn:n<=9223372036854775807):valueO (Lib.decDigits n)=some (n:Int):=by
 have b:=dec_value n n (Nat.le_refl _) hn;by_cases h0:n=0
 · subst h0
   rw [dec_small 0 (by decide)]
   decide
 · obtain ⟨c, r, d, _, a⟩ := dec_head n n (Nat.le_refl _) (by omega)
   rw [d] at b ⊢;simp only [valueO];rw [if_neg (fun h=>a h.1)]
   exact b
def okN:Bs->Prop
 | []=>True
 | c::_=>c=32\/c=41\/c=59\/c=44\/c=10\/c=40
def okG:Bs->Prop
 | []=>True
 | c::_=>c≠61/\c≠60/\c≠62/\c≠47
theorem okS_of {Z:Bs} (h:okN Z):okG Z:=by
 cases Z with
 | nil=>trivial
 | cons c r =>
   rcases h with rfl | rfl | rfl | rfl | rfl | rfl <;> exact ⟨by decide,by decide,by decide,by decide⟩
def Cut (t:Bs) (ks:List Bk) (ok:Bs->Prop):Prop:=∀ (e:Nat) (Z:Bs),ok Z->∃ xs q,restL e (t++Z)=(xs++(restL q Z).1,(restL q Z).2)/\xs.map bareR=ks
theorem cut_mono {t:Bs} {ks:List Bk} {ok ok':Bs->Prop} (h:Cut t ks ok) (hm:∀ Z,ok' Z->ok Z):Cut t ks ok':=fun e Z hZ=>h e Z (hm Z hZ)
theorem cut_nil (ok:Bs->Prop):Cut [] [] ok:=fun e Z _=>⟨[],e,rfl,rfl⟩
theorem cut_app {t u:Bs} {ks ls:List Bk} {ok1 ok2:Bs->Prop} (h1:Cut t ks ok1) (h2:Cut u ls ok2) (h:∀ Z,ok2 Z->ok1 (u++Z)):Cut (t++u) (ks++ls) ok2:=fun e Z hZ=>by
 obtain ⟨xs,q,a1,a2⟩:=h1 e (u++Z) (h Z hZ)
 obtain ⟨ys,p,b1,b2⟩:=h2 q Z hZ
 refine ⟨xs++ys,p,?_,by rw [List.map_append,a2,b2]⟩
 rw [List.append_assoc,a1,b1,List.append_assoc]
theorem cut_blank {c:UInt8} (hc:blankB (c.toNat:Int)=true) (ok:Bs->Prop):Cut [c] [] ok:=fun e Z _=>by
 refine ⟨[],e+1,?_,rfl⟩
 have hs:sk false (c::Z)=1+sk false Z:=by simp only [sk];rw [if_pos hc]
 show lexL (e+sk false (c::Z)) ((c::Z).drop (sk false (c::Z)))=_
 rw [hs,Nat.add_comm 1,List.drop_succ_cons]
 show _=lexL (e+1+sk false Z) (Z.drop (sk false Z))
 rw [show e+(sk false Z+1)=e+1+sk false Z by omega]
theorem cut_tok {p:Bs} {k wd:Int} {ok:Bs->Prop} (h1:∀ Z,ok Z->sk false (p++Z)=0) (h2:∀ Z,ok Z->nextL (p++Z)=⟨k,p.length,wd,0,0⟩):Cut p [(k,⟨p.toArray⟩,wd)] ok:=fun e Z hZ=>by
 have hf:(nextL (p++Z)).fr=0:=by rw [h2 Z hZ]
 refine ⟨[⟨k,⟨p.toArray⟩,wd,(e:Nat),0,0⟩],e+p.length,?_,rfl⟩
 rw [rest_tok (by rw [h1 Z hZ];rfl) hf,h1 Z hZ,h2 Z hZ]
 unfold toRes
 simp
theorem long_no (c d:UInt8) (h:d≠61/\d≠60/\d≠62/\d≠47):longB [c,d]=false:=by
 rw [longW_eq];simp only [longW,List.isPrefixOf_cons_cons,List.isPrefixOf_nil_left,Bool.and_true,Bool.or_eq_false_iff,Bool.and_eq_false_iff,beq_eq_false_iff_ne,ne_eq];obtain ⟨a,f,b,_⟩:=h;refine ⟨⟨⟨⟨⟨.inr (Ne.symm a),.inr (Ne.symm a)⟩,.inr (Ne.symm a)⟩,.inr (Ne.symm a)⟩,.inr (Ne.symm f)⟩,.inr (Ne.symm b)⟩
theorem cut_one {c:UInt8} (hs:signB (c.toNat:Int)=true) (hl:letterB (c.toNat:Int)=false) (hd:digitB (c.toNat:Int)=false) (hb:blankB (c.toNat:Int)=false):Cut [c] [sgK [c]] okG:=by
 refine cut_tok (fun Z hZ=>?_) (fun Z hZ=>?_)
 · show sk false (c :: Z) = 0
   simp only [sk];rw [if_neg (by rw [hb];decide),if_neg]
   rintro ⟨rfl,h⟩;cases Z with
   | nil=>simp at h
   | cons d r =>
     have:d=47:=by simpa using h
     exact hZ.2.2.2 this
 · show nextL (c :: Z) = _
   simp only [nextL];rw [if_neg (by rw [hl];decide),if_neg (by rw [hd];decide),if_pos hs]
   have:aheadN (c::Z)=1:=by
    unfold aheadN;have a:longB (c::Z)=false:=by
     cases Z with
     | nil=>exact longW_one c
     | cons d r=>rw [longW_cons];exact long_no c d hZ
    rw [a,if_neg (by decide)]
    unfold firstN;simp [hs]
   rw [this];rfl
theorem cut_op {o:Int} (h:twoB o=true):Cut (signOf o++[32]) [sgK (signOf o)] (fun _=>True):=by
 obtain ⟨_,_,g,j⟩:=fnd_two o h;have f:∀ i:Nat,1<=i->i<=16->Cut (sgn.getD i []++[32]) [sgK (sgn.getD i [])] (fun _=>True):=by
  intro i g l;have b:∀ c d:UInt8,longB [c,d]=true->signB (c.toNat:Int)=true->letterB (c.toNat:Int)=false->digitB (c.toNat:Int)=false->blankB (c.toNat:Int)=false->c≠47->Cut ([c,d]++[32]) [sgK [c,d]] (fun _=>True):=fun c d hlong hs hl hd hb h47=>by
   have h:=cut_tok (p:=[c,d]) (k:=4) (wd:=0) (ok:=fun Z=>True) (fun Z _=>by
    show sk false (c::d::Z)=0
    simp only [sk]
    rw [if_neg (by rw [hb];decide),if_neg (fun h=>h47 h.1)]) (fun Z _=>by
    show nextL (c::d::Z)=_
    simp only [nextL]
    rw [if_neg (by rw [hl];decide),if_neg (by rw [hd];decide),if_pos hs]
    unfold aheadN
    rw [longW_cons,hlong,if_pos rfl]
    rfl)
   have:=cut_app h (cut_blank (c:=32) (by decide) (fun _=>True)) (fun _ _=>trivial)
   exact this
  have a:∀ c:UInt8,signB (c.toNat:Int)=true->letterB (c.toNat:Int)=false->digitB (c.toNat:Int)=false->blankB (c.toNat:Int)=false->Cut ([c]++[32]) [sgK [c]] (fun _=>True):=fun c hs hl hd hb =>
   cut_app (cut_one hs hl hd hb) (cut_blank (c:=32) (by decide) (fun _=>True)) (fun Z _=>⟨by decide,by decide,by decide,by decide⟩)
  match i,g,l with
  | 1,_,_=>exact a 43 (by decide) (by decide) (by decide) (by decide)
  | 2,_,_=>exact a 45 (by decide) (by decide) (by decide) (by decide)
  | 3,_,_=>exact a 42 (by decide) (by decide) (by decide) (by decide)
  | 4,_,_=>exact a 47 (by decide) (by decide) (by decide) (by decide)
  | 5,_,_=>exact a 37 (by decide) (by decide) (by decide) (by decide)
  | 6,_,_=>exact a 38 (by decide) (by decide) (by decide) (by decide)
  | 7,_,_=>exact a 124 (by decide) (by decide) (by decide) (by decide)
  | 8,_,_=>exact a 94 (by decide) (by decide) (by decide) (by decide)
  | 9,_,_=>exact b 60 60 (by decide) (by decide) (by decide) (by decide) (by decide) (by decide)
  | 10,_,_=>exact b 62 62 (by decide) (by decide) (by decide) (by decide) (by decide) (by decide)
  | 11,_,_=>exact b 61 61 (by decide) (by decide) (by decide) (by decide) (by decide) (by decide)
  | 12,_,_=>exact b 33 61 (by decide) (by decide) (by decide) (by decide) (by decide) (by decide)
  | 13,_,_=>exact a 60 (by decide) (by decide) (by decide) (by decide)
  | 14,_,_=>exact b 60 61 (by decide) (by decide) (by decide) (by decide) (by decide) (by decide)
  | 15,_,_=>exact a 62 (by decide) (by decide) (by decide) (by decide)
  | 16,_,_=>exact b 62 61 (by decide) (by decide) (by decide) (by decide) (by decide) (by decide)
  | n+17,_,h=>omega
 have:=f o.toNat (by omega) (by omega)
 unfold signOf;rw [if_neg (by omega)]
 exact this
theorem span_halt {f:Int->Bool} : ∀ (p Z:Bs),(∀ c∈p,f (c.toNat:Int)=true)->(∀ c r,Z=c::r->f (c.toNat:Int)=false)->spanN f (p++Z)=p.length
 | [], Z, _, hz => by
   cases Z with
   | nil=>rfl
   | cons c r=>simp only [List.nil_append,spanN];rw [if_neg (by rw [hz c r rfl];decide)];rfl
 | c :: p, Z, hp, hz => by
   simp only [List.cons_append,spanN,List.length_cons]
   rw [if_pos (hp c (.head _)),span_halt p Z (fun d hd=>hp d (.tail _ hd)) hz]
theorem okN_named {Z:Bs} (h:okN Z):∀ c r,Z=c::r->namedB (c.toNat:Int)=false/\digitB (c.toNat:Int)=false/\letterB (c.toNat:Int)=false:=by
 rintro c r rfl;rcases h with rfl | rfl | rfl | rfl | rfl | rfl <;> exact ⟨by decide,by decide,by decide⟩
theorem named_all:∀ (l:Bs),spanN namedB l=l.length->∀ c∈l,namedB (c.toNat:Int)=true
 | [],_,c,hc=>by cases hc
 | d :: l, h, c, hc => by
   simp only [spanN,List.length_cons] at h
   by_cases hd:namedB (d.toNat:Int)=true
   · rw [if_pos hd] at h
     rcases List.mem_cons.1 hc with rfl | hc
     · exact hd
     · exact named_all l (by omega) c hc
   · rw [if_neg hd] at h
     omega
theorem letter_sk {c:UInt8} {r:Bs} (h:letterB (c.toNat:Int)=true\/digitB (c.toNat:Int)=true):sk false (c::r)=0:=by
 have a:blankB (c.toNat:Int)=false/\c≠47:=by
  refine ⟨?_,fun e=>by subst e;revert h;decide⟩
  cases hh:blankB (c.toNat:Int) with
  | false=>rfl
  | true =>
    exfalso;rcases blank_vals hh with rfl | rfl | rfl | rfl <;> revert h <;> decide
 simp only [sk];rw [if_neg (by rw [a.1];decide),if_neg (fun h=>a.2 h.1)]
theorem cut_name {n:ByteArray} (h:nameB n=true):Cut n.data.toList [kN n] okN:=by
 have s:=name_noword h;unfold nameB at h;simp only [Bool.and_eq_true,decide_eq_true_eq] at h;obtain ⟨p,z,i,_,j⟩:=h;have b:n.size=n.data.toList.length:=by simp
 have o:=p;obtain ⟨l,k⟩:=Qx n.data.toList;have v:kN n=(1,⟨l.toArray⟩,0):=by rw [k];rfl
 rw [<- k] at s j b ⊢;rw [v];have d:=named_all l (by omega)
 obtain ⟨c,r,a⟩:∃ c r,l=c::r:=by
  cases l with
  | nil=>rw [List.length_nil] at b;omega
  | cons c r=>exact ⟨c,r,rfl⟩
 have q:letterB (c.toNat:Int)=true:=by
  have m:=d c (by rw [a];exact .head _)
  have x:digitB (c.toNat:Int)=false:=by
   have e:PlainAid.bt n 0=(c.toNat:Int):=by
    have t:0<n.size:=p;rw [<- PlainAid.get_bt n 0 t];have:n.data.toList[0]? = some c:=by rw [<- k,a];rfl
    have:n[0]=c:=by
     have y:n.data[0]? = some c:=by simpa using this
     have A:=(Array.getElem?_eq_some_iff.1 y).2;exact A
    rw [this]
   rw [e] at i;simpa using i
  unfold namedB at m;rw [x] at m;simpa using m
 refine cut_tok (fun Z hZ=>?_) (fun Z hZ=>?_)
 · rw [a];exact letter_sk (.inl q)
 · have g := span_halt (f := namedB) l Z d (fun c r e => (okN_named hZ c r e).1)
   rw [a] at g ⊢;rw [<- a] at g ⊢;have:nextL (l++Z)=nameL (l++Z):=by
    rw [a];show (if letterB (c.toNat:Int)=true then _ else _)=_;rw [if_pos q];rfl
   rw [this];unfold nameL;rw [g,List.take_left',if_neg (by rw [s];decide),if_neg (by omega)]
   rfl
theorem cut_word {s:Bs} (h:wordL s=true) (hp:(match s with | []=>false | c::_=>letterB (c.toNat:Int))=true) (hall:s.all (fun c=>namedB (c.toNat:Int))=true):Cut s [kW s] okN:=by
 cases s with
 | nil=>cases hp
 | cons c r =>
   refine cut_tok (fun Z hZ=>letter_sk (.inl hp)) (fun Z hZ=>?_)
   have a:=span_halt (f:=namedB) (c::r) Z (List.all_eq_true.1 hall) (fun c r e=>(okN_named hZ c r e).1)
   have:nextL (c::r++Z)=nameL (c::r++Z):=by
    show (if letterB (c.toNat:Int)=true then _ else _)=_;rw [if_pos hp];rfl
   rw [this];unfold nameL;rw [a,List.take_left',if_pos h];rfl
theorem cut_num {v:Int} (h0:0<=v) (h1:v<=9223372036854775807):Cut (Lib.itoa v) [nbK v] okN:=by
 have e:Lib.itoa v=Lib.decDigits v.toNat:=by unfold Lib.itoa;rw [if_neg (by omega)]
 have i:=dec_valueO v.toNat (by omega)
 rw [Int.toNat_of_nonneg h0] at i;unfold nbK itoaS;rw [e];have a:∀ c∈Lib.decDigits v.toNat,digitB (c.toNat:Int)=true:=fun c g=>by
  have:=dec_mem _ c g;unfold digitB;exact b_t (by omega)
 obtain ⟨l,n⟩:=Qx (Lib.decDigits v.toNat);rw [<- n] at a i ⊢;obtain ⟨c,r,b⟩:∃ c r,l=c::r:=by
  cases l with
  | nil=>simp [valueO] at i
  | cons c r=>exact ⟨c,r,rfl⟩
 have g:digitB (c.toNat:Int)=true:=a c (by rw [b];exact .head _)
 have m:letterB (c.toNat:Int)=false:=by
  unfold digitB at g;unfold letterB;have:=of_decide_eq_true g;exact b_f (by omega)
 refine cut_tok (fun Z hZ=>?_) (fun Z hZ=>?_)
 · rw [b];exact letter_sk (.inr g)
 · have k := span_halt (f := digitB) l Z a (fun c r e => (okN_named hZ c r e).2.1)
   have:nextL (l++Z)=numL (l++Z):=by
    rw [b];show (if letterB (c.toNat:Int)=true then _ else if digitB (c.toNat:Int)=true then _ else _)=_;rw [if_neg (by rw [m];decide),if_pos g]
    rfl
   have j:letterH Z=false:=by
    cases Z with
    | nil=>rfl
    | cons d r=>exact (okN_named hZ d r rfl).2.2
   rw [this];unfold numL;rw [k,List.take_left',List.drop_left',i,j]
   · rfl
   all_goals rfl
def begG (t:Bs):Prop:=∃ c r,t=c::r/\c≠61/\c≠60/\c≠62/\c≠47
theorem begG_app {t Z:Bs} (h:begG t):okG (t++Z):=by
 obtain ⟨c,r,rfl,h⟩:=h;exact h
theorem letter_g {c:UInt8} (h:letterB (c.toNat:Int)=true\/digitB (c.toNat:Int)=true):c≠61/\c≠60/\c≠62/\c≠47:=by
 refine ⟨?_,?_,?_,?_⟩ <;> (rintro rfl;revert h;decide)
theorem begG_kid {b:Bool} {t:Bs} (h:begG t):begG (kidT b t):=by
 cases b with
 | false=>exact h
 | true=>exact ⟨40,t++[41],rfl,by decide,by decide,by decide,by decide⟩
theorem name_beg {n:ByteArray} (h:nameB n=true):begG n.data.toList:=by
 unfold nameB at h;simp only [Bool.and_eq_true,decide_eq_true_eq] at h;obtain ⟨i,f,g,_,d⟩:=h;have a:n.size=n.data.toList.length:=by simp
 generalize n.data.toList=l at d a;have b:=named_all l (by omega)
 cases l with
 | nil=>rw [List.length_nil] at a;omega
 | cons c r =>
   refine ⟨c,r,rfl,letter_g ?_⟩;have:=b c (.head _);unfold namedB at this;simpa using this
theorem num_beg {v:Int} (h0:0<=v) (h1:v<=9223372036854775807):begG (Lib.itoa v):=by
 have e:Lib.itoa v=Lib.decDigits v.toNat:=by unfold Lib.itoa;rw [if_neg (by omega)]
 have b:=dec_valueO v.toNat (by omega)
 rw [e];have a:∀ c∈Lib.decDigits v.toNat,digitB (c.toNat:Int)=true:=fun c hc=>by
  have:=dec_mem _ c hc;unfold digitB;exact b_t (by omega)
 generalize Lib.decDigits v.toNat=l at a b;cases l with
 | nil=>simp [valueO] at b
 | cons c r=>exact ⟨c,r,rfl,letter_g (.inr (a c (.head _)))⟩
theorem cut_kid {b:Bool} {t:Bs} {ks:List Bk} (h:Cut t ks okN) (hb:begG t):Cut (kidT b t) (kidK b ks) okN:=by
 cases b with
 | false=>exact h
 | true =>
   have a:=cut_app (cut_one (c:=40) (by decide) (by decide) (by decide) (by decide)) h (fun Z _=>begG_app hb)
   have d:=cut_app a (cut_mono (cut_one (c:=41) (by decide) (by decide) (by decide) (by decide)) (fun Z hZ=>okS_of hZ)) (fun Z _=>Or.inr (.inl rfl))
   exact d
theorem lit_rng {k o wd:Int} {n:ByteArray} {ks:List Ex} {ps:Int} (h:rgE (.mk k o wd n ks ps)):wd<=9223372036854775807:=h.2.2.1.2
theorem cut_ex:∀ (x:Ex) (d:Int),rE x d=true->rgE x->Cut (tE x) (kE x) okN/\begG (tE x):=by
 intro x;induction x using Ex.ind with
 | h k o wd nm ks ps ih =>
   intro d z n;have j:=lit_rng n;have i:rgEs ks:=n.2.2.2;simp only [rE,Bool.and_eq_true,decide_eq_true_eq] at z;obtain ⟨K,C,l,g⟩:=z;simp only [kE,tE];unfold kK tK;unfold kB at g;by_cases k1:k=1
   · subst k1
     rw [if_pos rfl,if_pos rfl];have A:0<=wd:=by
      unfold wdB at C;simp at C;omega
     exact ⟨cut_num A j,num_beg A j⟩
   by_cases k2:k=2
   · subst k2
     rw [if_neg (by omega),if_pos rfl,if_neg (by omega),if_pos rfl]
     exact ⟨cut_name (nm_yes l),name_beg (nm_yes l)⟩
   by_cases k3:k=3
   · subst k3
     rw [if_neg (by omega),if_neg (by omega),if_pos rfl,if_neg (by omega),if_neg (by omega),if_pos rfl]
     rw [if_neg (by omega),if_pos rfl] at g
     simp only [Bool.and_eq_true] at g;obtain ⟨q,f⟩:=g;match ks,f,ih,i with
     | [y], f, ih, i =>
       have E:rE y (d+1+b2i (y.kind==4))=true:=by simpa [kid1,rEs] using f
       obtain ⟨B,p⟩:=ih y (.head _) _ E i.1;show Cut (signOf o++kidT (y.kind==4) (tE y)) (sgK (signOf o)::kidK (y.kind==4) (kE y)) okN/\begG (signOf o++kidT (y.kind==4) (tE y));have s:o=17\/o=18:=by unfold oneB at q;simpa using q
       rcases s with rfl | rfl
       · rw [show signOf 17 = [45] by decide]
         exact ⟨cut_app (cut_one (c:=45) (by decide) (by decide) (by decide) (by decide)) (cut_kid B p) (fun Z _=>begG_app (begG_kid p)),45,_,rfl,by decide,by decide,by decide,by decide⟩
       · rw [show signOf 18 = [33] by decide]
         exact ⟨cut_app (cut_one (c:=33) (by decide) (by decide) (by decide) (by decide)) (cut_kid B p) (fun Z _=>begG_app (begG_kid p)),33,_,rfl,by decide,by decide,by decide,by decide⟩
     | [],f,_,_=>simp [kid1] at f
     | _::_::_,f,_,_=>simp [kid1] at f
   by_cases k4:k=4
   · subst k4
     rw [if_neg (by omega),if_neg (by omega),if_neg (by omega),if_pos rfl,if_neg (by omega),if_neg (by omega),if_neg (by omega),if_pos rfl]
     rw [if_neg (by omega),if_neg (by omega),if_pos rfl] at g
     simp only [Bool.and_eq_true] at g;obtain ⟨q,f⟩:=g;match ks,f,ih,i with
     | [a, b], f, ih, i =>
       have m:rE a (d+b2i (wrL o a))=true/\rE b (d+b2i (wrR o b))=true:=by simpa [kid2,rEs] using f
       obtain ⟨F,v⟩:=ih a (.head _) _ m.1 i.1;obtain ⟨J,H⟩:=ih b (.tail _ (.head _)) _ m.2 i.2.1;show Cut (kidT (wrL o a) (tE a)++([32]++signOf o++[32])++kidT (wrR o b) (tE b)) (kidK (wrL o a) (kE a)++(sgK (signOf o)::kidK (wrR o b) (kE b))) okN/\begG (kidT (wrL o a) (tE a)++([32]++signOf o++[32])++kidT (wrR o b) (tE b));have t:Cut ([32]++signOf o++[32]) [sgK (signOf o)] (fun _=>True):=by
        have:=cut_app (cut_blank (c:=32) (by decide) (fun _=>True)) (cut_op q) (fun _ _=>trivial)
        rwa [<- List.append_assoc] at this
       have G:=cut_app (cut_kid (b:=wrL o a) F v) t (fun Z _=>Or.inl rfl)
       have D:=cut_app G (cut_kid (b:=wrR o b) J H) (fun _ _=>trivial)
       refine ⟨?_,?_⟩
       · have e : kidK (wrL o a) (kE a) ++ (sgK (signOf o) :: kidK (wrR o b) (kE b)) = kidK (wrL o a) (kE a) ++ [sgK (signOf o)] ++ kidK (wrR o b) (kE b) := by simp
         rw [e];exact D
       · obtain ⟨c, r, e, I⟩ := begG_kid (b := wrL o a) v
         exact ⟨c,r++([32]++signOf o++[32])++kidT (wrR o b) (tE b),by rw [e];simp,I⟩
     | [],f,_,_=>simp [kid2] at f
     | [_],f,_,_=>simp [kid2] at f
     | _::_::_::_,f,_,_=>simp [kid2] at f
   · rw [if_neg (by omega), if_neg k3, if_neg k4] at g
     cases g
end Go.Proofs.YtbgfkdiihnidaaaGreatDoor

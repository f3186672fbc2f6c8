/- The proof, part 36: texts that belong together, in one. -/
import Derived.Test.YtggbkldniffbfaaGreatDoorTBI
import Derived.Test.YtggbkldniffbfaaGreatDoorTAW
set_option maxRecDepth 100000
set_option maxHeartbeats 20000000
namespace Go.Proofs.YtggbkldniffbfaaGreatDoor
set_option linter.unusedVariables false
theorem one_e {es:List Ex} {m:Int} (h:((es.length:Int)==m)=true) (hm:m=1) (ha:allE es=true):∃ y,es=[y]∧rE y 0=true:=by
 have hl:es.length=1:=by have:=eq_of_beq h;omega
 obtain ⟨y,rfl⟩:=List.length_eq_one_iff.1 hl
 exact ⟨y,rfl,by simpa [allE] using ha⟩
theorem nil_of {α:Type} {l:List α} (h:((l.length:Int)==0)=true):l=[]:=by
 have:=eq_of_beq h
 exact List.eq_nil_of_length_eq_zero (by omega)
theorem blk_back {l:List St} (H:RestB l) {L d:Int} {n:Nat} {ts r:List Tk} {t1 t2:Tk} (hr:rB l d=true) (h:ts.map Tk.bt=kSs l) (h1:t1.bt=sgK [123]) (h2:t2.bt=sgK [125]) (hn:3*(ts++t2::r).length+3≤n) :
 ∃ ss,openP L d (t1::(ts++t2::r))=.ok () (ts++t2::r)∧restP fnd L n d [] (ts++t2::r)=.ok ss r∧sameSs l ss=true:=by
 unfold rB at hr
 simp only [Bool.and_eq_true,decide_eq_true_eq] at hr
 obtain ⟨ss,a1,a2⟩:=H L d n [] ts r t2 hr.2 h h2 hn
 exact ⟨ss,open_tok (bt_tx h1).2 hr.1,by simpa using a1,a2⟩
theorem paren_back {x:Ex} {L:Int} {n:Nat} {ts r:List Tk} {t1 t2:Tk} (hr:rE x 0=true) (h:ts.map Tk.bt=kE x) (h1:t1.bt=sgK [40]) (h2:t2.bt=sgK [41]) (hn:3*(ts++t2::r).length+2≤n) :
 ∃ e,parenP fnd L n (t1::(ts++t2::r))=.ok e r∧sameE x e=true:=by
 obtain ⟨e,a1,a2⟩:=ex_back (L:=L) (n:=n) (r:=r) hr h (bt_tx h2).2 (by decide) hn
 refine ⟨e,?_,a2⟩
 unfold parenP
 rw [need_tok (bt_tx h1).2]
 simp only [PR.then_ok]
 rw [a1]
 simp only [PR.then_ok]
 rw [need_tok (bt_tx h2).2]
 rfl
theorem dec_mem (u:Nat):∀ c∈Lib.decDigits u,48≤c.toNat∧c.toNat≤57:=by
 rw [Lib.decDigits_eq]
 intro c hc
 obtain ⟨t,_,rfl⟩:=List.mem_map.1 hc
 unfold Lib.dg
 rw [UInt8.toNat_ofNat']
 omega
theorem kE_first:∀ (y:Ex) (d:Int),rE y d=true→∃ b l,kE y=b::l∧b.2.1.data.toList≠[115,119,97,112]:=by
 intro y
 induction y using Ex.ind with
 | h k o wd nm ks ps ih =>
   intro d hr
   simp only [rE,Bool.and_eq_true,decide_eq_true_eq] at hr
   obtain ⟨hd,hw,hn1,hkb⟩:=hr
   simp only [kE]
   unfold kK
   unfold kB at hkb
   by_cases k1:k=1
   · subst k1
     rw [if_pos rfl]
     refine ⟨_,_,rfl,fun e=>?_⟩
     have e:Lib.itoa wd=[115,119,97,112]:=e
     have h0:0≤wd:=by
      unfold wdB at hw
      simp at hw
      omega
     have h1:Lib.itoa wd=Lib.decDigits wd.toNat:=by unfold Lib.itoa;rw [if_neg (by omega)]
     have:=dec_mem wd.toNat 115 (by rw [← h1,e];simp)
     revert this;decide
   by_cases k2:k=2
   · subst k2
     rw [if_neg (by omega),if_pos rfl]
     refine ⟨_,_,rfl,fun e=>?_⟩
     have e:nm.data.toList=[115,119,97,112]:=e
     have:=name_noword (nm_yes hn1)
     rw [e] at this
     revert this;decide
   by_cases k3:k=3
   · subst k3
     rw [if_neg (by omega),if_neg (by omega),if_pos rfl]
     refine ⟨_,_,rfl,fun e=>?_⟩
     have e:signOf o=[115,119,97,112]:=e
     have:=sign_len o
     rw [e] at this
     simp at this
   by_cases k4:k=4
   · subst k4
     rw [if_neg (by omega),if_neg (by omega),if_neg (by omega),if_pos rfl]
     rw [if_neg (by omega),if_neg (by omega),if_pos rfl] at hkb
     simp only [Bool.and_eq_true] at hkb
     match ks,hkb.2,ih with
     | [a, b], hkk, ih =>
       have hab:rE a (d+b2i (wrL o a))=true∧rE b (d+b2i (wrR o b))=true:=by simpa [kid2,rEs] using hkk
       show ∃ b_1 l,kidK (wrL o a) (kE a)++(sgK (signOf o)::kidK (wrR o b) (kE b))=b_1::l∧_
       cases hwr:wrL o a with
       | true=>exact ⟨_,_,rfl,by decide⟩
       | false =>
         obtain ⟨x,l,h1,h2⟩:=ih a (.head _) _ hab.1
         exact ⟨x,l++(sgK (signOf o)::kidK (wrR o b) (kE b)),by show kE a++_=_;rw [h1];rfl,h2⟩
     | [],hkk,_=>simp [kid2] at hkk
     | [_],hkk,_=>simp [kid2] at hkk
     | _::_::_::_,hkk,_=>simp [kid2] at hkk
   · rw [if_neg (by omega), if_neg k3, if_neg k4] at hkb
     cases hkb
theorem no_swap {y:Ex} {d:Int} (hr:rE y d=true) {ts r:List Tk} (h:ts.map Tk.bt=kE y):isT [115,119,97,112] (ts++r)=false:=by
 obtain ⟨b,l,h1,h2⟩:=kE_first y d hr
 rw [h1] at h
 obtain ⟨t,ts',rfl,ht,_⟩:=List.map_eq_cons_iff.1 h
 have:t.tx=b.2.1.data.toList:=by rw [← ht];rfl
 unfold isT
 simpa [this] using h2
theorem st_back:∀ x:St,StB x:=by
 intro x
 induction x using St.ind with
 | h k nm ot es bo el ps ihb ihl =>
   have HB:=rest_back ihb
   have HE:=rest_back ihl
   intro L d n ts r hr hne h hn
   obtain ⟨m,rfl⟩:∃ m,n=m+1:=⟨n-1,by omega⟩
   simp only [rS,Bool.and_eq_true,decide_eq_true_eq] at hr
   obtain ⟨hk0,hk8,r1,r2,r3,r4,r5,r6,r7,r8⟩:=hr
   simp only [kS] at h
   rcases kind_cases hk0 hk8 with rfl | rfl | rfl | rfl | rfl | rfl | rfl
   · obtain ⟨y, rfl, hy⟩ := one_e r3 rfl r6
     obtain rfl:bo=[]:=nil_of (by simpa [shp] using r4)
     obtain rfl:el=[]:=nil_of (by simpa [shp] using r5)
     have n2:ot.data.toList=[]:=nm_none r2
     have h:ts.map Tk.bt=kN nm::sgK [61]::(kE y++[sgK [59]]):=h
     obtain ⟨t0,l0,rfl,h0,hl0⟩:=List.map_eq_cons_iff.1 h
     obtain ⟨t1,l1,rfl,h1,hl1⟩:=List.map_eq_cons_iff.1 hl0
     obtain ⟨x0,l2,rfl,g0,hl2⟩:=List.map_eq_append_iff.1 hl1
     obtain ⟨t2,l3,rfl,h2,hl3⟩:=List.map_eq_cons_iff.1 hl2
     obtain rfl:l3=[]:=by simpa using hl3
     simp only [List.cons_append,List.append_assoc,List.nil_append] at hn ⊢
     obtain ⟨e,a1,a2⟩:=ex_back (L:=L) (n:=m) (r:=r) hy g0 (bt_tx h2).2 (by decide) (by simp at hn ⊢;omega)
     refine ⟨.mk 1 t0.text ⟨#[]⟩ [e] [] [] t0.pos,?_,?_⟩
     · simp only [stmtP]
       rw [if_pos (bt_n h0).1]
       unfold changeP
       rw [need_tok (bt_tx h1).2]
       simp only [PR.then_ok]
       rw [if_neg (by rw [no_swap hy g0];decide),a1]
       simp only [PR.then_ok]
       rw [need_tok (bt_tx h2).2]
       rfl
     · simp only [sameS,sameEs,sameSs,n2,a2,(bt_n h0).2,beq_self_eq_true,Bool.and_self]
   · obtain ⟨y, rfl, hy⟩ := one_e r3 rfl r6
     obtain rfl:bo=[]:=nil_of (by simpa [shp] using r4)
     obtain rfl:el=[]:=nil_of (by simpa [shp] using r5)
     have h:ts.map Tk.bt=kN nm::sgK [61]::kW [115,119,97,112]::sgK [40]::kN ot::sgK [44]::(kE y++[sgK [41],sgK [59]]):=h
     obtain ⟨t0,l0,rfl,h0,hl0⟩:=List.map_eq_cons_iff.1 h
     obtain ⟨t1,l1,rfl,h1,hl1⟩:=List.map_eq_cons_iff.1 hl0
     obtain ⟨t2,l2,rfl,h2,hl2⟩:=List.map_eq_cons_iff.1 hl1
     obtain ⟨t3,l3,rfl,h3,hl3⟩:=List.map_eq_cons_iff.1 hl2
     obtain ⟨t4,l4,rfl,h4,hl4⟩:=List.map_eq_cons_iff.1 hl3
     obtain ⟨t5,l5,rfl,h5,hl5⟩:=List.map_eq_cons_iff.1 hl4
     obtain ⟨x0,l6,rfl,g0,hl6⟩:=List.map_eq_append_iff.1 hl5
     obtain ⟨t6,l7,rfl,h6,hl7⟩:=List.map_eq_cons_iff.1 hl6
     obtain ⟨t7,l8,rfl,h7,hl8⟩:=List.map_eq_cons_iff.1 hl7
     obtain rfl:l8=[]:=by simpa using hl8
     simp only [List.cons_append,List.append_assoc,List.nil_append] at hn ⊢
     obtain ⟨e,a1,a2⟩:=ex_back (L:=L) (n:=m) (r:=t7::r) hy g0 (bt_tx h6).2 (by decide) (by simp at hn ⊢;omega)
     refine ⟨.mk 2 t0.text t4.text [e] [] [] t0.pos,?_,?_⟩
     · simp only [stmtP]
       rw [if_pos (bt_n h0).1]
       unfold changeP
       rw [need_tok (bt_tx h1).2]
       simp only [PR.then_ok]
       rw [if_pos (by unfold isT;simp [(bt_w h2).2])]
       simp only [List.tail_cons]
       rw [need_tok (bt_tx h3).2]
       simp only [PR.then_ok,nameP]
       rw [if_pos (bt_n h4).1]
       simp only [PR.then_ok]
       rw [need_tok (bt_tx h5).2]
       simp only [PR.then_ok]
       rw [a1]
       simp only [PR.then_ok]
       rw [need_tok (bt_tx h6).2]
       simp only [PR.then_ok]
       rw [need_tok (bt_tx h7).2]
       rfl
     · simp only [sameS,sameEs,sameSs,a2,(bt_n h0).2,(bt_n h4).2,beq_self_eq_true,Bool.and_self]
   · obtain ⟨y, rfl, hy⟩ := one_e r3 rfl r6
     have n1:nm.data.toList=[]:=nm_none r1
     have n2:ot.data.toList=[]:=nm_none r2
     have r7:rB bo (d+1)=true:=by
      unfold rB
      rw [Bool.and_eq_true,decide_eq_true_eq]
      simpa [shp] using r7
     by_cases hel:0<el.length
     · have h : ts.map Tk.bt = kW [105, 102] :: sgK [40] :: (kE y ++ (sgK [41] :: sgK [123] :: (kSs bo ++ (sgK [125] :: kW [101, 108, 115, 101] :: sgK [123] :: (kSs el ++ [sgK [125]]))))) := by rw [if_pos hel] at h; exact h
       obtain ⟨t0,l0,rfl,h0,hl0⟩:=List.map_eq_cons_iff.1 h
       obtain ⟨t1,l1,rfl,h1,hl1⟩:=List.map_eq_cons_iff.1 hl0
       obtain ⟨x0,l2,rfl,g0,hl2⟩:=List.map_eq_append_iff.1 hl1
       obtain ⟨t2,l3,rfl,h2,hl3⟩:=List.map_eq_cons_iff.1 hl2
       obtain ⟨t3,l4,rfl,h3,hl4⟩:=List.map_eq_cons_iff.1 hl3
       obtain ⟨x1,l5,rfl,g1,hl5⟩:=List.map_eq_append_iff.1 hl4
       obtain ⟨t4,l6,rfl,h4,hl6⟩:=List.map_eq_cons_iff.1 hl5
       obtain ⟨t5,l7,rfl,h5,hl7⟩:=List.map_eq_cons_iff.1 hl6
       obtain ⟨t6,l8,rfl,h6,hl8⟩:=List.map_eq_cons_iff.1 hl7
       obtain ⟨x2,l9,rfl,g2,hl9⟩:=List.map_eq_append_iff.1 hl8
       obtain ⟨t7,l10,rfl,h7,hl10⟩:=List.map_eq_cons_iff.1 hl9
       obtain rfl:l10=[]:=by simpa using hl10
       simp only [List.cons_append,List.append_assoc,List.nil_append] at hn ⊢
       have r8:rB el (d+1)=true:=by
        unfold rB
        rw [Bool.and_eq_true,decide_eq_true_eq]
        have hel2:0<(el.length:Int):=by omega
        rw [decide_eq_true hel2] at r8
        simpa using r8
       obtain ⟨e,a1,a2⟩:=paren_back (L:=L) (n:=m) (r:=t3::(x1++t4::t5::t6::(x2++t7::r))) hy g0 h1 h2 (by simp at hn ⊢;omega)
       obtain ⟨s1,b1,b2,b3⟩:=blk_back HB (L:=L) (n:=m) (r:=t5::t6::(x2++t7::r)) r7 g1 h3 h4 (by simp at hn ⊢;omega)
       obtain ⟨s2,c1,c2,c3⟩:=blk_back HE (L:=L) (n:=m) (r:=r) r8 g2 h6 h7 (by simp at hn ⊢;omega)
       refine ⟨.mk 3 ⟨#[]⟩ ⟨#[]⟩ [e] s1 s2 t0.pos,?_,?_⟩
       · simp only [stmtP]
         rw [if_neg (by rw [(bt_w h0).1];omega),if_pos (bt_w h0).2]
         rw [a1]
         simp only [PR.then_ok]
         rw [b1]
         simp only [PR.then_ok]
         rw [b2]
         simp only [PR.then_ok]
         rw [if_pos (by unfold isT;simp [(bt_w h5).2])]
         simp only [List.tail_cons]
         rw [c1]
         simp only [PR.then_ok]
         rw [c2]
         rfl
       · simp only [sameS,sameEs,n1,n2,a2,b3,c3,beq_self_eq_true,Bool.and_self]
     · have h : ts.map Tk.bt = kW [105, 102] :: sgK [40] :: (kE y ++ (sgK [41] :: sgK [123] :: (kSs bo ++ [sgK [125]]))) := by rw [if_neg hel] at h; exact h
       obtain ⟨t0,l0,rfl,h0,hl0⟩:=List.map_eq_cons_iff.1 h
       obtain ⟨t1,l1,rfl,h1,hl1⟩:=List.map_eq_cons_iff.1 hl0
       obtain ⟨x0,l2,rfl,g0,hl2⟩:=List.map_eq_append_iff.1 hl1
       obtain ⟨t2,l3,rfl,h2,hl3⟩:=List.map_eq_cons_iff.1 hl2
       obtain ⟨t3,l4,rfl,h3,hl4⟩:=List.map_eq_cons_iff.1 hl3
       obtain ⟨x1,l5,rfl,g1,hl5⟩:=List.map_eq_append_iff.1 hl4
       obtain ⟨t4,l6,rfl,h4,hl6⟩:=List.map_eq_cons_iff.1 hl5
       obtain rfl:l6=[]:=by simpa using hl6
       simp only [List.cons_append,List.append_assoc,List.nil_append] at hn ⊢
       obtain rfl:el=[]:=List.eq_nil_of_length_eq_zero (by omega)
       obtain ⟨e,a1,a2⟩:=paren_back (L:=L) (n:=m) (r:=t3::(x1++t4::r)) hy g0 h1 h2 (by simp at hn ⊢;omega)
       obtain ⟨s1,b1,b2,b3⟩:=blk_back HB (L:=L) (n:=m) (r:=r) r7 g1 h3 h4 (by simp at hn ⊢;omega)
       refine ⟨.mk 3 ⟨#[]⟩ ⟨#[]⟩ [e] s1 [] t0.pos,?_,?_⟩
       · simp only [stmtP]
         rw [if_neg (by rw [(bt_w h0).1];omega),if_pos (bt_w h0).2]
         rw [a1]
         simp only [PR.then_ok]
         rw [b1]
         simp only [PR.then_ok]
         rw [b2]
         simp only [PR.then_ok]
         unfold noElse at hne
         rw [if_neg (by rw [hne];decide)]
       · simp only [sameS,sameEs,sameSs,n1,n2,a2,b3,beq_self_eq_true,Bool.and_self]
   · obtain ⟨y, rfl, hy⟩ := one_e r3 rfl r6
     obtain rfl:el=[]:=nil_of (by simpa [shp] using r5)
     have n1:nm.data.toList=[]:=nm_none r1
     have n2:ot.data.toList=[]:=nm_none r2
     have r7:rB bo (d+1)=true:=by
      unfold rB
      rw [Bool.and_eq_true,decide_eq_true_eq]
      simpa [shp] using r7
     have h:ts.map Tk.bt=kW [119,104,105,108,101]::sgK [40]::(kE y++(sgK [41]::sgK [123]::(kSs bo++[sgK [125]]))):=h
     obtain ⟨t0,l0,rfl,h0,hl0⟩:=List.map_eq_cons_iff.1 h
     obtain ⟨t1,l1,rfl,h1,hl1⟩:=List.map_eq_cons_iff.1 hl0
     obtain ⟨x0,l2,rfl,g0,hl2⟩:=List.map_eq_append_iff.1 hl1
     obtain ⟨t2,l3,rfl,h2,hl3⟩:=List.map_eq_cons_iff.1 hl2
     obtain ⟨t3,l4,rfl,h3,hl4⟩:=List.map_eq_cons_iff.1 hl3
     obtain ⟨x1,l5,rfl,g1,hl5⟩:=List.map_eq_append_iff.1 hl4
     obtain ⟨t4,l6,rfl,h4,hl6⟩:=List.map_eq_cons_iff.1 hl5
     obtain rfl:l6=[]:=by simpa using hl6
     simp only [List.cons_append,List.append_assoc,List.nil_append] at hn ⊢
     obtain ⟨e,a1,a2⟩:=paren_back (L:=L) (n:=m) (r:=t3::(x1++t4::r)) hy g0 h1 h2 (by simp at hn ⊢;omega)
     obtain ⟨s1,b1,b2,b3⟩:=blk_back HB (L:=L) (n:=m) (r:=r) r7 g1 h3 h4 (by simp at hn ⊢;omega)
     refine ⟨.mk 4 ⟨#[]⟩ ⟨#[]⟩ [e] s1 [] t0.pos,?_,?_⟩
     · simp only [stmtP]
       rw [if_neg (by rw [(bt_w h0).1];omega),if_neg (by rw [(bt_w h0).2];decide),if_pos (bt_w h0).2]
       rw [a1]
       simp only [PR.then_ok]
       rw [b1]
       simp only [PR.then_ok]
       rw [b2]
       rfl
     · simp only [sameS,sameEs,sameSs,n1,n2,a2,b3,beq_self_eq_true,Bool.and_self]
   · obtain rfl : es = [] := nil_of (by simpa [shp] using r3)
     obtain rfl:el=[]:=nil_of (by simpa [shp] using r5)
     have n2:ot.data.toList=[]:=nm_none r2
     have r7:rB bo (d+1)=true:=by
      unfold rB
      rw [Bool.and_eq_true,decide_eq_true_eq]
      simpa [shp] using r7
     have h:ts.map Tk.bt=kW [108,111,99,107]::kN nm::sgK [123]::(kSs bo++[sgK [125]]):=h
     obtain ⟨t0,l0,rfl,h0,hl0⟩:=List.map_eq_cons_iff.1 h
     obtain ⟨t1,l1,rfl,h1,hl1⟩:=List.map_eq_cons_iff.1 hl0
     obtain ⟨t2,l2,rfl,h2,hl2⟩:=List.map_eq_cons_iff.1 hl1
     obtain ⟨x0,l3,rfl,g0,hl3⟩:=List.map_eq_append_iff.1 hl2
     obtain ⟨t3,l4,rfl,h3,hl4⟩:=List.map_eq_cons_iff.1 hl3
     obtain rfl:l4=[]:=by simpa using hl4
     simp only [List.cons_append,List.append_assoc,List.nil_append] at hn ⊢
     obtain ⟨s1,b1,b2,b3⟩:=blk_back HB (L:=L) (n:=m) (r:=r) r7 g0 h2 h3 (by simp at hn ⊢;omega)
     refine ⟨.mk 5 t1.text ⟨#[]⟩ [] s1 [] t0.pos,?_,?_⟩
     · simp only [stmtP]
       rw [if_neg (by rw [(bt_w h0).1];omega),if_neg (by rw [(bt_w h0).2];decide),if_neg (by rw [(bt_w h0).2];decide),if_pos (bt_w h0).2]
       simp only [nameP]
       rw [if_pos (bt_n h1).1]
       simp only [PR.then_ok]
       rw [b1]
       simp only [PR.then_ok]
       rw [b2]
       rfl
     · simp only [sameS,sameEs,sameSs,n2,b3,(bt_n h1).2,beq_self_eq_true,Bool.and_self]
   · obtain ⟨y, rfl, hy⟩ := one_e r3 rfl r6
     obtain rfl:bo=[]:=nil_of (by simpa [shp] using r4)
     obtain rfl:el=[]:=nil_of (by simpa [shp] using r5)
     have n1:nm.data.toList=[]:=nm_none r1
     have n2:ot.data.toList=[]:=nm_none r2
     have h:ts.map Tk.bt=kW [112,114,105,110,116]::(kE y++[sgK [59]]):=h
     obtain ⟨t0,l0,rfl,h0,hl0⟩:=List.map_eq_cons_iff.1 h
     obtain ⟨x0,l1,rfl,g0,hl1⟩:=List.map_eq_append_iff.1 hl0
     obtain ⟨t1,l2,rfl,h1,hl2⟩:=List.map_eq_cons_iff.1 hl1
     obtain rfl:l2=[]:=by simpa using hl2
     simp only [List.cons_append,List.append_assoc,List.nil_append] at hn ⊢
     obtain ⟨e,a1,a2⟩:=ex_back (L:=L) (n:=m) (r:=r) hy g0 (bt_tx h1).2 (by decide) (by simp at hn ⊢;omega)
     refine ⟨.mk 6 ⟨#[]⟩ ⟨#[]⟩ [e] [] [] t0.pos,?_,?_⟩
     · simp only [stmtP]
       rw [if_neg (by rw [(bt_w h0).1];omega),if_neg (by rw [(bt_w h0).2];decide),if_neg (by rw [(bt_w h0).2];decide),if_neg (by rw [(bt_w h0).2];decide),if_pos (bt_w h0).2]
       rw [a1]
       simp only [PR.then_ok]
       rw [need_tok (bt_tx h1).2]
       rfl
     · simp only [sameS,sameEs,sameSs,n1,n2,a2,beq_self_eq_true,Bool.and_self]
   · obtain rfl : es = [] := nil_of (by simpa [shp] using r3)
     obtain rfl:bo=[]:=nil_of (by simpa [shp] using r4)
     obtain rfl:el=[]:=nil_of (by simpa [shp] using r5)
     have n1:nm.data.toList=[]:=nm_none r1
     have n2:ot.data.toList=[]:=nm_none r2
     have h:ts.map Tk.bt=[kW [115,107,105,112],sgK [59]]:=h
     obtain ⟨t0,l0,rfl,h0,hl0⟩:=List.map_eq_cons_iff.1 h
     obtain ⟨t1,l1,rfl,h1,hl1⟩:=List.map_eq_cons_iff.1 hl0
     obtain rfl:l1=[]:=by simpa using hl1
     simp only [List.cons_append,List.nil_append] at hn ⊢
     refine ⟨.mk 7 ⟨#[]⟩ ⟨#[]⟩ [] [] [] t0.pos,?_,?_⟩
     · simp only [stmtP]
       rw [if_neg (by rw [(bt_w h0).1];omega),if_neg (by rw [(bt_w h0).2];decide),if_neg (by rw [(bt_w h0).2];decide),if_neg (by rw [(bt_w h0).2];decide),if_neg (by rw [(bt_w h0).2];decide),if_pos (bt_w h0).2]
       rw [need_tok (bt_tx h1).2]
       rfl
     · simp only [sameS,sameEs,sameSs,n1,n2,beq_self_eq_true,Bool.and_self]
theorem block_back (l:List St):RestB l:=rest_back fun x _=>st_back x
set_option linter.unusedVariables false
def nbK (wd:Int):Bk:=(3,itoaS wd,wd)
def dK (d:Dc):List Bk:=kN d.name::(if d.wd=0 then [] else sgK [61]::(if d.wd<0 then [sgK [45],nbK (-d.wd)] else [nbK d.wd]))
def dsK:List Dc→List Bk
 | []=>[]
 | [d]=>dK d++[sgK [59]]
 | d::e::r=>dK d++(sgK [44]::dsK (e::r))
def lineK (w:Bs) (l:List Dc):List Bk:=if l.length=0 then [] else kW w::dsK l
def kT (t:Th):List Bk:=kW [116,104,114,101,97,100]::kN t.name::sgK [123]::(lineK [108,111,99,97,108] t.locals++(kSs t.body++[sgK [125]]))
def kP (p:Pg):List Bk:=lineK [115,104,97,114,101,100] p.shared++(lineK [108,111,99,107] p.locks++p.threads.flatMap kT)
theorem isT_ne {s u:Bs} {t:Tk} {r:List Tk} (h:t.tx=u) (hn:¬ u=s):isT s (t::r)=false:=by
 unfold isT
 simpa [h] using hn
theorem isT_eq {s:Bs} {t:Tk} {r:List Tk} (h:t.tx=s):isT s (t::r)=true:=by
 unfold isT
 simp [h]
def OneB (one:List Tk→PR Dc) (ok:Dc→Prop):Prop:=∀ (d:Dc) (ts r:List Tk) (t:Tk),ok d→ts.map Tk.bt=dK d→(t.tx=[44]∨t.tx=[59])→∃ e,one (ts++t::r)=.ok e (t::r)∧sameD d e=true
theorem first_back (L:Int):OneB (firstP L) (fun d=>-9223372036854775808<d.wd):=by
 intro d ts r t hd h ht
 unfold dK at h
 obtain ⟨t0,l0,rfl,h0,hl0⟩:=List.map_eq_cons_iff.1 h
 obtain ⟨q1,q2⟩:=bt_n h0
 by_cases hz:d.wd=0
 · rw [if_pos hz] at hl0
   obtain rfl:l0=[]:=by simpa using hl0
   refine ⟨⟨t0.text,0,t0.pos⟩,?_,by simp only [sameD,q2,hz,beq_self_eq_true,Bool.and_self]⟩
   simp only [List.cons_append,List.nil_append,firstP,nameP]
   rw [if_pos q1]
   simp only [PR.then_ok]
   rw [if_neg (by rw [show isT [61] (t::r)=false by rcases ht with ht | ht <;> exact isT_ne ht (by decide)];decide)]
 · rw [if_neg hz] at hl0
   obtain ⟨t1,l1,rfl,h1,hl1⟩:=List.map_eq_cons_iff.1 hl0
   by_cases hn:d.wd<0
   · rw [if_pos hn] at hl1
     obtain ⟨t2,l2,rfl,h2,hl2⟩:=List.map_eq_cons_iff.1 hl1
     obtain ⟨t3,l3,rfl,h3,hl3⟩:=List.map_eq_cons_iff.1 hl2
     obtain rfl:l3=[]:=by simpa using hl3
     unfold Tk.bt nbK at h3
     simp only [Prod.mk.injEq] at h3
     refine ⟨⟨t0.text,-t3.wd,t0.pos⟩,?_,by simp only [sameD,q2,h3.2.2,Int.neg_neg,beq_self_eq_true,Bool.and_self]⟩
     simp only [List.cons_append,List.nil_append,firstP,nameP]
     rw [if_pos q1]
     simp only [PR.then_ok]
     rw [if_pos (isT_eq (bt_tx h1).2),if_pos (show isT [45] (List.tail (t1::t2::t3::t::r))=true from isT_eq (bt_tx h2).2)]
     show (numP L (t3::t::r)).then _=_
     simp only [numP]
     rw [if_pos h3.1]
     rfl
   · rw [if_neg hn] at hl1
     obtain ⟨t3,l3,rfl,h3,hl3⟩:=List.map_eq_cons_iff.1 hl1
     obtain rfl:l3=[]:=by simpa using hl3
     unfold Tk.bt nbK at h3
     simp only [Prod.mk.injEq] at h3
     have hne:¬ t3.tx=[45]:=fun e=>by
      have e:(itoaS d.wd).data.toList=[45]:=by rw [← e,← h3.2.1];rfl
      have e:Lib.itoa d.wd=[45]:=e
      have h1:Lib.itoa d.wd=Lib.decDigits d.wd.toNat:=by unfold Lib.itoa;rw [if_neg (by omega)]
      have:=dec_mem d.wd.toNat 45 (by rw [← h1,e];simp)
      revert this;decide
     refine ⟨⟨t0.text,t3.wd,t0.pos⟩,?_,by simp only [sameD,q2,h3.2.2,beq_self_eq_true,Bool.and_self]⟩
     simp only [List.cons_append,List.nil_append,firstP,nameP]
     rw [if_pos q1]
     simp only [PR.then_ok]
     rw [if_pos (isT_eq (bt_tx h1).2),if_neg (show ¬ isT [45] (List.tail (t1::t3::t::r))=true by rw [show isT [45] (List.tail (t1::t3::t::r))=false from isT_ne rfl hne];decide)]
     show (numP L (t3::t::r)).then _=_
     simp only [numP]
     rw [if_pos h3.1]
     rfl
theorem name_back (L:Int):OneB (nameP L) (fun d=>d.wd=0):=by
 intro d ts r t hd h ht
 unfold dK at h
 rw [if_pos hd] at h
 obtain ⟨t0,l0,rfl,h0,hl0⟩:=List.map_eq_cons_iff.1 h
 obtain rfl:l0=[]:=by simpa using hl0
 obtain ⟨q1,q2⟩:=bt_n h0
 refine ⟨⟨t0.text,0,t0.pos⟩,?_,by simp only [sameD,q2,hd,beq_self_eq_true,Bool.and_self]⟩
 simp only [List.cons_append,List.nil_append,nameP]
 rw [if_pos q1]
theorem list_back {L:Int} {one:List Tk→PR Dc} {ok:Dc→Prop} (H:OneB one ok):∀ (l:List Dc) (n:Nat) (acc:List Dc) (ts r:List Tk),l≠[]→(∀ d∈l,ok d)→ts.map Tk.bt=dsK l→ts.length≤n→∃ es,listP L one n acc (ts++r)=.ok (acc++es) r∧sameBy sameD l es=true
 | [],n,acc,ts,r,h0,_,_,_=>absurd rfl h0
 | [d], n, acc, ts, r, _, hk, h, hn => by
   simp only [dsK] at h
   obtain ⟨l1,l2,rfl,h1,h2⟩:=List.map_eq_append_iff.1 h
   obtain ⟨t,l3,rfl,h3,h4⟩:=List.map_eq_cons_iff.1 h2
   obtain rfl:l3=[]:=by simpa using h4
   obtain ⟨m,rfl⟩:∃ m,n=m+1:=⟨n-1,by simp at hn;omega⟩
   obtain ⟨e,a1,a2⟩:=H d l1 r t (hk d (.head _)) h1 (.inr (bt_tx h3).2)
   refine ⟨[e],?_,by simp only [sameBy,a2,Bool.and_self]⟩
   simp only [List.append_assoc,List.cons_append,List.nil_append,listP]
   rw [a1]
   simp only [PR.then_ok]
   rw [if_neg (by rw [isT_ne (bt_tx h3).2 (by decide)];decide),need_tok (bt_tx h3).2]
   rfl
 | d :: e :: l, n, acc, ts, r, _, hk, h, hn => by
   simp only [dsK] at h
   obtain ⟨l1,l2,rfl,h1,h2⟩:=List.map_eq_append_iff.1 h
   obtain ⟨t,l3,rfl,h3,h4⟩:=List.map_eq_cons_iff.1 h2
   obtain ⟨m,rfl⟩:∃ m,n=m+1:=⟨n-1,by simp at hn;omega⟩
   obtain ⟨x,a1,a2⟩:=H d l1 (l3++r) t (hk d (.head _)) h1 (.inl (bt_tx h3).2)
   obtain ⟨es,b1,b2⟩:=list_back H (e::l) m (acc++[x]) l3 r (by simp) (fun y hy=>hk y (.tail _ hy)) h4 (by simp at hn;omega)
   refine ⟨x::es,?_,by simp only [sameBy,a2,Bool.true_and] at b2 ⊢;exact b2⟩
   simp only [List.append_assoc,List.cons_append,listP]
   rw [a1]
   simp only [PR.then_ok]
   rw [if_pos (isT_eq (bt_tx h3).2)]
   simp only [List.tail_cons]
   rw [b1]
   simp
set_option linter.unusedVariables false
theorem kS_headG {s:Bs} (hs:wordL s=true) (hs5:s≠[105,102]∧s≠[119,104,105,108,101]∧s≠[108,111,99,107]∧s≠[112,114,105,110,116]∧s≠[115,107,105,112]) {x:St} {d:Int} (hr:rS x d=true) {ts r:List Tk} (h:ts.map Tk.bt=kS x):isT s (ts++r)=false:=by
 obtain ⟨k,nm,ot,es,bo,el,ps⟩:=x
 simp only [rS,Bool.and_eq_true,decide_eq_true_eq] at hr
 obtain ⟨hk0,hk8,r1,r2,r3,r4,r5,r6,r7,r8⟩:=hr
 have key:∀ (b:Bk) (l:List Bk),ts.map Tk.bt=b::l→b.2.1.data.toList≠s→isT s (ts++r)=false:=by
  intro b l hb h1
  obtain ⟨t,ts',rfl,ht,_⟩:=List.map_eq_cons_iff.1 hb
  have:t.tx=b.2.1.data.toList:=by rw [← ht];rfl
  exact isT_ne this h1
 have hnm:(shp k).1=true→nm.data.toList≠s:=fun h e=>by
  rw [h] at r1
  have hw:=name_noword r1
  rw [e,hs] at hw
  cases hw
 obtain ⟨i1,i2,i3,i4,i5⟩:=hs5
 rcases kind_cases hk0 hk8 with rfl | rfl | rfl | rfl | rfl | rfl | rfl
 · exact key _ _ (by rw [h];simp only [kS];rfl) (hnm rfl)
 · exact key _ _ (by rw [h];simp only [kS];rfl) (hnm rfl)
 · exact key _ _ (by rw [h];simp only [kS];rfl) i1.symm
 · exact key _ _ (by rw [h];simp only [kS];rfl) i2.symm
 · exact key _ _ (by rw [h];simp only [kS];rfl) i3.symm
 · exact key _ _ (by rw [h];simp only [kS];rfl) i4.symm
 · exact key _ _ (by rw [h];simp only [kS];rfl) i5.symm
theorem kSs_headG {s:Bs} (hs:wordL s=true) (hs5:s≠[105,102]∧s≠[119,104,105,108,101]∧s≠[108,111,99,107]∧s≠[112,114,105,110,116]∧s≠[115,107,105,112]) (h125:¬ [125]=s) {l:List St} {d:Int} (hr:rAll l d=true) {ts r:List Tk} {t:Tk} (h:ts.map Tk.bt=kSs l) (ht:t.tx=[125]):isT s (ts++t::r)=false:=by
 cases l with
 | nil =>
   obtain rfl:ts=[]:=by simpa [kSs] using h
   exact isT_ne ht h125
 | cons y l =>
   simp only [kSs] at h
   obtain ⟨t3,t4,rfl,h3,h4⟩:=List.map_eq_append_iff.1 h
   simp only [rAll,Bool.and_eq_true] at hr
   rw [List.append_assoc]
   exact kS_headG hs hs5 hr.1 h3
theorem bare_zero {l:List Dc} (h:bareB l=true):∀ d∈l,d.wd=0:=fun d hd=>by
 have:=List.all_eq_true.1 h d hd
 simp only [Bool.and_eq_true,beq_iff_eq] at this
 exact this.2
theorem line_cases {w:Bs} {l:List Dc} {ts:List Tk} (h:ts.map Tk.bt=lineK w l):(l=[]∧ts=[])∨(l≠[]∧∃ t ts',ts=t::ts'∧t.tx=w∧ts'.map Tk.bt=dsK l):=by
 unfold lineK at h
 by_cases hl:l.length=0
 · rw [if_pos hl] at h
   exact .inl ⟨List.eq_nil_of_length_eq_zero hl,by simpa using h⟩
 · rw [if_neg hl] at h
   obtain ⟨t,ts',rfl,h1,h2⟩:=List.map_eq_cons_iff.1 h
   exact .inr ⟨fun e=>hl (by rw [e];rfl),t,ts',rfl,(bt_w h1).2,h2⟩
theorem locals_back {L:Int} {l:List Dc} {n:Nat} {acc:List Dc} {ts r:List Tk} (hl:bareB l=true) (h:ts.map Tk.bt=lineK [108,111,99,97,108] l) (hr:isT [108,111,99,97,108] r=false) (hn:ts.length+2≤n) :
 ∃ es,localsP L n acc (ts++r)=.ok (acc++es) r∧sameBy sameD l es=true:=by
 obtain ⟨m,rfl⟩:∃ m,n=m+1:=⟨n-1,by omega⟩
 rcases line_cases h with ⟨rfl,rfl⟩ | ⟨h0,t,ts',rfl,h1,h2⟩
 · refine ⟨[], ?_, rfl⟩
   simp only [List.nil_append,localsP,List.append_nil]
   rw [if_neg (by rw [hr];decide)]
 · obtain ⟨es, a1, a2⟩ := list_back (name_back L) l m [] ts' r h0 (bare_zero hl) h2 (by simp at hn; omega)
   refine ⟨es,?_,a2⟩
   simp only [List.cons_append,localsP]
   rw [if_pos (isT_eq h1)]
   simp only [List.tail_cons]
   rw [a1]
   simp only [PR.then_ok,List.nil_append]
   obtain ⟨m2,rfl⟩:∃ k,m=k+1:=⟨m-1,by simp at hn;omega⟩
   simp only [localsP]
   rw [if_neg (by rw [hr];decide)]
theorem thread_back {L:Int} {x:Th} {n:Nat} {ts r:List Tk} (hx:thB x=true) (h:kW [116,104,114,101,97,100]::ts.map Tk.bt=kT x) (hn:3*(ts++r).length+5≤n) :
 ∃ y,threadP fnd L n (ts++r)=.ok y r∧sameT x y=true:=by
 obtain ⟨nm,lo,bo,ps⟩:=x
 simp only [thB,Bool.and_eq_true] at hx
 obtain ⟨hx1,hx2,hx3⟩:=hx
 unfold kT at h
 have h:=(List.cons.inj h).2
 simp only at h
 obtain ⟨t0,l0,rfl,h0,hl0⟩:=List.map_eq_cons_iff.1 h
 obtain ⟨t1,l1,rfl,h1,hl1⟩:=List.map_eq_cons_iff.1 hl0
 obtain ⟨x0,l2,rfl,g0,hl2⟩:=List.map_eq_append_iff.1 hl1
 obtain ⟨x1,l3,rfl,g1,hl3⟩:=List.map_eq_append_iff.1 hl2
 obtain ⟨t2,l4,rfl,h2,hl4⟩:=List.map_eq_cons_iff.1 hl3
 obtain rfl:l4=[]:=by simpa using hl4
 simp only [List.cons_append,List.append_assoc,List.nil_append] at hn ⊢
 have hra:rAll bo 1=true:=by
  unfold rB at hx3
  simp only [Bool.and_eq_true] at hx3
  exact hx3.2
 obtain ⟨es,a1,a2⟩:=locals_back (L:=L) (n:=n) (acc:=[]) (r:=x1++t2::r) hx2 g0 (kSs_headG (by decide) (by decide) (by decide) hra g1 (bt_tx h2).2) (by simp at hn ⊢;omega)
 obtain ⟨ss,b1,b2⟩:=block_back bo L 1 n [] x1 r t2 hra g1 h2 (by simp at hn ⊢;omega)
 refine ⟨⟨t0.text,es,ss,t0.pos⟩,?_,by simp only [sameT,(bt_n h0).2,a2,b2,beq_self_eq_true,Bool.and_self]⟩
 unfold threadP
 simp only [nameP]
 rw [if_pos (bt_n h0).1]
 simp only [PR.then_ok]
 rw [open_tok (bt_tx h1).2 (by omega)]
 simp only [PR.then_ok]
 rw [a1]
 simp only [PR.then_ok]
 rw [b1]
 rfl
theorem threads_back {L:Int} : ∀ (l:List Th) (n:Nat) (acc:List Th) (ts:List Tk),(∀ t∈l,thB t=true)→ts.map Tk.bt=l.flatMap kT→3*ts.length+5≤n→∃ es,threadsP fnd L n acc ts=.ok (acc++es) []∧sameBy sameT l es=true
 | [], n, acc, ts, _, h, hn => by
   obtain rfl:ts=[]:=by simpa using h
   obtain ⟨m,rfl⟩:∃ m,n=m+1:=⟨n-1,by omega⟩
   exact ⟨[],by simp [threadsP,isT],rfl⟩
 | x :: l, n, acc, ts, hk, h, hn => by
   obtain ⟨m,rfl⟩:∃ m,n=m+1:=⟨n-1,by omega⟩
   rw [List.flatMap_cons] at h
   obtain ⟨t1,t2,rfl,h1,h2⟩:=List.map_eq_append_iff.1 h
   obtain ⟨t0,t3,rfl,h0,h3⟩:=List.map_eq_cons_iff.1 (show t1.map Tk.bt=kW [116,104,114,101,97,100]::_ from h1)
   obtain ⟨y,a1,a2⟩:=thread_back (L:=L) (n:=m) (r:=t2) (hk x (.head _)) (by rw [h3];rfl) (by simp at hn ⊢;omega)
   obtain ⟨es,b1,b2⟩:=threads_back l m (acc++[y]) t2 (fun t ht=>hk t (.tail _ ht)) h2 (by simp at hn ⊢;omega)
   refine ⟨y::es,?_,by simp only [sameBy,a2,b2,Bool.and_self]⟩
   simp only [List.cons_append,threadsP]
   rw [if_pos (isT_eq (bt_w h0).2)]
   simp only [List.tail_cons]
   rw [a1]
   simp only [PR.then_ok]
   rw [b1]
   simp
theorem decls_shared {L:Int} {l:List Dc} {n:Nat} {p:Pg} {ts r:List Tk} (hl:∀ d∈l,-9223372036854775808<d.wd) (h:ts.map Tk.bt=lineK [115,104,97,114,101,100] l) (hn:ts.length+1≤n) :
 ∃ m es,n≤m+1∧declsP L n p (ts++r)=declsP L m { p with shared:=p.shared++es } r∧sameBy sameD l es=true:=by
 rcases line_cases h with ⟨rfl,rfl⟩ | ⟨h0,t,ts',rfl,h1,h2⟩
 · exact ⟨n,[],by omega,by simp,rfl⟩
 · obtain ⟨m, rfl⟩ : ∃ m, n = m + 1 := ⟨n - 1, by omega⟩
   obtain ⟨es,a1,a2⟩:=list_back (first_back L) l m [] ts' r h0 hl h2 (by simp at hn;omega)
   refine ⟨m,es,by omega,?_,a2⟩
   rw [List.cons_append]
   simp only [declsP]
   rw [if_pos (isT_eq h1)]
   simp only [List.tail_cons]
   rw [a1]
   rfl
theorem decls_locks {L:Int} {l:List Dc} {n:Nat} {p:Pg} {ts r:List Tk} (hl:∀ d∈l,d.wd=0) (h:ts.map Tk.bt=lineK [108,111,99,107] l) (hn:ts.length+1≤n) :
 ∃ m es,n≤m+1∧declsP L n p (ts++r)=declsP L m { p with locks:=p.locks++es } r∧sameBy sameD l es=true:=by
 rcases line_cases h with ⟨rfl,rfl⟩ | ⟨h0,t,ts',rfl,h1,h2⟩
 · exact ⟨n,[],by omega,by simp,rfl⟩
 · obtain ⟨m, rfl⟩ : ∃ m, n = m + 1 := ⟨n - 1, by omega⟩
   obtain ⟨es,a1,a2⟩:=list_back (name_back L) l m [] ts' r h0 hl h2 (by simp at hn;omega)
   refine ⟨m,es,by omega,?_,a2⟩
   rw [List.cons_append]
   simp only [declsP]
   rw [if_neg (by rw [isT_ne h1 (by decide)];decide),if_pos (isT_eq h1)]
   simp only [List.tail_cons]
   rw [a1]
   rfl
theorem flat_head {l:List Th} {ts:List Tk} (h:ts.map Tk.bt=l.flatMap kT) (s:Bs) (hs:¬ [116,104,114,101,97,100]=s):isT s ts=false:=by
 cases l with
 | nil =>
   obtain rfl:ts=[]:=by simpa using h
   rfl
 | cons x l =>
   rw [List.flatMap_cons] at h
   obtain ⟨t0,t3,rfl,h0,h3⟩:=List.map_eq_cons_iff.1 (show ts.map Tk.bt=kW [116,104,114,101,97,100]::_ from h)
   exact isT_ne (bt_w h0).2 hs
theorem prog_back {L:Int} {x:Pg} {n:Nat} {ts:List Tk} (hx:rP x=true) (h:ts.map Tk.bt=kP x) (hn:3*ts.length+5≤n) :
 ∃ y,progP fnd L n ts=.ok y []∧samePg x y=true:=by
 obtain ⟨sh,lk,th⟩:=x
 simp only [rP,Bool.and_eq_true] at hx
 obtain ⟨hx1,hx2,hx3⟩:=hx
 unfold kP at h
 simp only at h
 obtain ⟨t1,t2,rfl,h1,h2⟩:=List.map_eq_append_iff.1 h
 obtain ⟨t3,t4,rfl,h3,h4⟩:=List.map_eq_append_iff.1 h2
 have hs:∀ d∈sh,-9223372036854775808<d.wd:=fun d hd=>by
  have:=List.all_eq_true.1 hx1 d hd
  simp only [Bool.and_eq_true,decide_eq_true_eq] at this
  exact this.2
 obtain ⟨m1,e1,a0,a1,a2⟩:=decls_shared (L:=L) (n:=n) (p:=⟨[],[],[]⟩) (r:=t3++t4) hs h1 (by simp at hn;omega)
 obtain ⟨m2,e2,b0,b1,b2⟩:=decls_locks (L:=L) (n:=m1) (p:=⟨[]++e1,[],[]⟩) (r:=t4) (bare_zero hx2) h3 (by simp at hn;omega)
 obtain ⟨es,c1,c2⟩:=threads_back (L:=L) th n [] t4 (List.all_eq_true.1 hx3) h4 (by simp at hn;omega)
 obtain ⟨m3,rfl⟩:∃ m,m2=m+1:=⟨m2-1,by simp at hn;omega⟩
 refine ⟨⟨[]++e1,[]++e2,[]++es⟩,?_,by simp only [samePg,List.nil_append,a2,b2,c2,Bool.and_self]⟩
 unfold progP
 rw [a1]
 simp only
 rw [b1]
 simp only [declsP]
 rw [if_neg (by rw [flat_head h4 _ (by decide)];decide),if_neg (by rw [flat_head h4 _ (by decide)];decide)]
 simp only [PR.then_ok]
 rw [c1]
 rfl
end Go.Proofs.YtggbkldniffbfaaGreatDoor

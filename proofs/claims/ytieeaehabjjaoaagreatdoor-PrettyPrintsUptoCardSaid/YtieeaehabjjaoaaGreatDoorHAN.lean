/- The proof, part 14: texts that belong together, in one. -/
import Derived.Test.YtieeaehabjjaoaaGreatDoorHAM
import Derived.Deep.MidRow
set_option maxRecDepth 100000
set_option maxHeartbeats 20000000
namespace Go.Proofs.YtieeaehabjjaoaaGreatDoor
open Go.RowKit
set_option linter.unusedVariables false
set_option maxRecDepth 100000
theorem rgEs_mem':∀ {l:List Ex},rgEs l→∀ x∈l,rgE x
 | y :: r, h, x, hx => by
   rcases List.mem_cons.1 hx with rfl | hx
   · exact h.1
   · exact rgEs_mem' h.2 x hx
theorem nm_size {n:ByteArray} (h:nmB n true=true):n.size≤140737488289792:=by
 have:=name_size (n:=n) h
 omega
theorem one_ex {es:List Ex} {m:Int} (h:(((es.length:Int)==m))=true) (hm:m=1) (ha:allE es=true) (hr:rgEs es):∃ y,es=[y]∧rE y 0=true∧rgE y:=by
 have hl:es.length=1:=by have:=eq_of_beq h;omega
 obtain ⟨y,rfl⟩:=List.length_eq_one_iff.1 hl
 exact ⟨y,rfl,by simpa [allE] using ha,rgEs_mem' hr y (.head _)⟩
theorem w_stmt:∀ x:St,WrS x:=by
 intro x
 induction x using St.ind with
 | h k nm ot es bo el ps ihb ihl =>
   have HWB:=p_wblock ihb
   have HWL:=p_wblock ihl
   intro dd hdd hr hok hrg a3 a4 a5 c3 c4 c5 w0 w b txt h3 h4 h5 TT hb0 hbw hw ht
   obtain ⟨⟨hok1,hok2⟩,⟨hok3,hok4⟩,hok5,hok6⟩:=hok
   obtain ⟨_,hrg1,hrg2,hrg3⟩:=hrg
   simp only [rS,Bool.and_eq_true,decide_eq_true_eq] at hr
   obtain ⟨hk0,hk8,r1,r2,r3,r4,r5,r6,r7,r8⟩:=hr
   have HB4:rB bo ((dd:Int)+1)=true→∀ t W,Below b w0 W→Wt b t dd (mFs b) W→t.length≤65536→Calls Tryz.prog 46 #[.pointer (some ⟨b,0,none⟩),.slice a4 bo.length c4] W (PutP b t (tSs bo (dd+1)) dd (mFs b) W):=fun hB t W h1 h2 h3=>HWB dd hB hok4 hok3 hrg2 a4 c4 w0 W b t h4 TT hb0 h1 h2 h3
   have HB5:rB el ((dd:Int)+1)=true→∀ t W,Below b w0 W→Wt b t dd (mFs b) W→t.length≤65536→Calls Tryz.prog 46 #[.pointer (some ⟨b,0,none⟩),.slice a5 el.length c5] W (PutP b t (tSs el (dd+1)) dd (mFs b) W):=fun hB t W h1 h2 h3=>HWL dd hB hok6 hok5 hrg3 a5 c5 w0 W b t h5 TT hb0 h1 h2 h3
   rcases kind_cases hk0 hk8 with rfl | rfl | rfl | rfl | rfl | rfl | rfl
   · obtain ⟨y, hes, hy, hg⟩ := one_ex r3 rfl r6 hrg1
     exact p_wassign hdd TT hb0 hbw hw ht h3 hes hy hg (nm_size r1)
   · obtain ⟨y, hes, hy, hg⟩ := one_ex r3 rfl r6 hrg1
     exact p_wswap hdd TT hb0 hbw hw ht h3 hes hy hg (nm_size r1) (nm_size r2)
   · obtain ⟨y, hes, hy, hg⟩ := one_ex r3 rfl r6 hrg1
     have r7':rB bo ((dd:Int)+1)=true:=by
      unfold rB
      rw [Bool.and_eq_true,decide_eq_true_eq]
      simpa [shp] using r7
     have ht3:tS (.mk 3 nm ot es bo el ps) dd=ln dd [[105,102,32,40],e0T es,[41,32,123]]++tSs bo (dd+1)++(if 0<el.length then ln dd [[125,32,101,108,115,101,32,123]]++tSs el (dd+1) else [])++ln dd [[125]]:=by simp only [tS];rfl
     by_cases hel:0<(el.length:Int)
     · have r8' : rB el ((dd : Int) + 1) = true := by
        unfold rB
        rw [Bool.and_eq_true,decide_eq_true_eq]
        rw [decide_eq_true hel] at r8
        simpa using r8
       have:=p_wchoice2 hdd TT hb0 hbw hw ht h3 hes hy hg (HB4 r7') (HB5 r8') hel (c3:=c3) (k:=3) (nm:=nm) (ot:=ot) (ps:=ps)
       rw [ht3,if_pos (by omega)]
       simp only [List.append_assoc] at this ⊢
       exact this
     · have := p_wchoice1 hdd TT hb0 hbw hw ht h3 hes hy hg (HB4 r7') hel (c3 := c3) (k := 3) (nm := nm) (ot := ot) (ps := ps) (a5 := a5) (c5 := c5)
       rw [ht3,if_neg (by omega),List.append_nil]
       exact this
   · obtain ⟨y, hes, hy, hg⟩ := one_ex r3 rfl r6 hrg1
     have r7':rB bo ((dd:Int)+1)=true:=by
      unfold rB
      rw [Bool.and_eq_true,decide_eq_true_eq]
      simpa [shp] using r7
     exact p_wloop hdd TT hb0 hbw hw ht h3 hes hy hg (HB4 r7')
   · have r7' : rB bo ((dd : Int) + 1) = true := by
      unfold rB
      rw [Bool.and_eq_true,decide_eq_true_eq]
      simpa [shp] using r7
     exact p_wguard hdd TT hb0 hbw hw ht (HB4 r7') (nm_size r1)
   · obtain ⟨y, hes, hy, hg⟩ := one_ex r3 rfl r6 hrg1
     exact p_wprint hdd TT hb0 hbw hw ht h3 hes hy hg
   · exact p_wskip hdd TT hb0 hbw hw ht
theorem w_block (l:List St):WrB l:=p_wblock fun x _=>w_stmt x
open Go.RowKit
set_option linter.unusedVariables false
set_option maxRecDepth 100000
def spS:ByteArray:=⟨#[32]⟩
def cmS:ByteArray:=⟨#[44,32]⟩
def eqS:ByteArray:=⟨#[32,61,32]⟩
def smS:ByteArray:=⟨#[59]⟩
def itoaS (n:Int):ByteArray:=⟨(Lib.itoa n).toArray⟩
def dPart (s:ByteArray) (d:Dc):List ByteArray:=s::d.name::(if d.wd=0 then [] else [eqS,itoaS d.wd])
def dParts (s:ByteArray):List Dc→List ByteArray
 | []=>[]
 | d::r=>dPart s d++dParts cmS r
theorem dParts_snoc (d:Dc):∀ (s:ByteArray) (l:List Dc),dParts s (l++[d])=dParts s l++dPart (if l.length=0 then s else cmS) d
 | s,[]=>by simp [dParts]
 | s, x :: r => by
   simp only [List.cons_append,dParts,dParts_snoc d cmS r,List.append_assoc,List.length_cons,ite_self,Nat.add_one_ne_zero,if_false]
theorem dPart_len (s:ByteArray) (d:Dc):(dPart s d).length≤4:=by unfold dPart;split <;> simp
theorem dParts_len:∀ (s:ByteArray) (l:List Dc),(dParts s l).length≤4*l.length
 | s,[]=>by simp [dParts]
 | s, x :: r => by
   have:=dPart_len s x
   have:=dParts_len cmS r
   simp only [dParts,List.length_append,List.length_cons]
   omega
def tDs (word:ByteArray) (l:List Dc) (d:Nat):List UInt8:=if l.length=0 then [] else marg d++cat (word::(dParts spS l++[smS]))++[10]
theorem itoa_size (n:Int) (h0 : -9223372036854775808≤n) (h1:n≤9223372036854775807):(itoaS n).size≤140737488289792:=by
 show (Lib.itoa n).toArray.size≤_
 rw [List.size_toArray]
 have:=Lib.itoa_length_le n h0 h1
 omega
theorem cells_twoS {W:World} {g:Nat} {a b:Value} {t:TypeId} (h:Own W g t #[a,b]) (j:Nat) (u:Value) (hj:[a,b][j]? = some u):W.cell? ((⟨g,0,none⟩:Addr).add j)=some u:=by
 have e:(⟨g,0,none⟩:Addr).add j=⟨g,j,none⟩:=by by_cases h0:j=0 <;> simp [Addr.add,h0]
 rw [e,cell_of_row W g j _ _ _ h,← hj]
 have:j<2:=(List.getElem?_eq_some_iff.1 hj).1
 match j,this with
 | 0,_=>rfl
 | 1,_=>rfl
theorem cells_oneS {W:World} {g:Nat} {a:Value} {t:TypeId} (h:Own W g t #[a]) (j:Nat) (u:Value) (hj:[a][j]? = some u):W.cell? ((⟨g,0,none⟩:Addr).add j)=some u:=by
 have e:(⟨g,0,none⟩:Addr).add j=⟨g,j,none⟩:=by by_cases h0:j=0 <;> simp [Addr.add,h0]
 rw [e,cell_of_row W g j _ _ _ h,← hj]
 have:j<1:=(List.getElem?_eq_some_iff.1 hj).1
 match j,this with
 | 0,_=>rfl
theorem infoSg:(Tryz.prog.info? 9).map (fun i=>(i.zero,i.size,i.bytes))=some (some (.string ⟨#[]⟩),1,16):=by kernel_rfl
theorem row_belowS {B:Nat} {e:TypeId} {k:Nat} {v:Value} {n:Nat} {xs:List Value} {w w':World} (h:w.ownsRow B e k v n xs) (hb:Below w.heap.size w w'):w'.ownsRow B e k v n xs:=by
 refine ⟨h.1,?_⟩
 rcases h.2 with hn | ⟨g,cap,cur,rfl,h1,hg,rest⟩
 · exact .inl hn
 · exact .inr ⟨g,cap,cur,rfl,h1,(hb.block g (Array.getElem?_eq_some_iff.1 hg).1).trans hg,rest⟩
def PtR (B:Nat) (W:World) (v:Value) (l:List ByteArray):Prop:=W.ownsRow B 9 1 v l.length (l.map Value.string)
theorem ptr_one (w:World) (s:ByteArray):PtR w.heap.size (w.alloc (.cells #[.string s] 9)) (.slice (some ⟨w.heap.size,0,none⟩) 1 1) [s] :=
 ⟨by simp,.inr ⟨w.heap.size,1,#[.string s],rfl,Nat.le_refl _,heap_alloc_new w _,Nat.le_refl _,by simp [maxLen],rfl,rfl⟩⟩
theorem ptr_sa {B b:Nat} {W:World} {v:Value} {l:List ByteArray} (h:PtR B W v l) (hb:b<B):(∃ a c,v=.slice a l.length c∧SA b W a l):=by
 obtain ⟨_,⟨rfl,h0⟩ | ⟨g,cap,cur,rfl,hg,hc,_,_,_,ht⟩⟩:=h
 · exact ⟨none,0,by rw [h0],.inl (List.eq_nil_of_length_eq_zero h0)⟩
 · refine ⟨_, _, rfl, .inr ⟨g, cur, rfl, by omega, hc, fun j s hj => ?_⟩⟩
   have h1:(cur.toList.take (l.length*1))[j]? = some (.string s):=by rw [ht,List.getElem?_map,hj];rfl
   rw [List.getElem?_take] at h1
   split at h1
   · simpa using h1
   · cases h1
theorem dParts_small {l:List Dc} (h:∀ d∈l,d.name.size≤140737488289792∧(itoaS d.wd).size≤140737488289792):∀ {s:ByteArray},s.size≤140737488289792→∀ x∈dParts s l,x.size≤140737488289792:=by
 induction l with
 | nil=>intro s hs x hx;simp [dParts] at hx
 | cons d r ih =>
   intro s hs x hx
   obtain ⟨h1,h2⟩:=h d (.head _)
   rcases List.mem_append.1 hx with hx | hx
   · unfold dPart at hx
     rcases List.mem_cons.1 hx with rfl | hx
     · exact hs
     rcases List.mem_cons.1 hx with rfl | hx
     · exact h1
     split at hx
     · simp at hx
     · rcases List.mem_cons.1 hx with rfl | hx
       · decide
       · obtain rfl : x = _ := List.mem_singleton.1 hx
         exact h2
   · exact ih (fun d hd=>h d (.tail _ hd)) (by decide) x hx
theorem p_wlist {l:List Dc} (hlen:l.length≤1073741824) (hnm:∀ d∈l,d.name.size≤140737488289792 ∧ -9223372036854775808≤d.wd∧d.wd≤9223372036854775807) {word:ByteArray} (hwz:word.size≤140737488289792) {a:Option Addr} {c:Nat} {w0 w:World} {b:Nat} {txt:List UInt8} {d:Nat} {fs:List Value} (hd:d≤1000) (h1:dcsAt (fun _=>True) w0 l a) (TT:WTb w0) (hb0:b=w0.heap.size) (hbw:Below b w0 w) (hw:Wt b txt d fs w) (ht:txt.length≤65536) :
 Calls Tryz.prog 44 #[.pointer (some ⟨b,0,none⟩),.string word,.slice a l.length c] w (PutP b txt (tDs word l d) d fs w):=by
 have HPR:Hid (∀ n W,-9223372036854775808≤n∧n≤9223372036854775807→Below b w0 W→Calls Tryz.prog 86 #[.int .i64 n] W fun e w'=>e=.returned (.string (itoaS n))∧Below W.heap.size W w'):=fun n W hn hb=>print_any n hn.1 hn.2 W (TT.below (hb0 ▸ hb))
 have HLN:Hid (∀ W,Below w.heap.size w W→∀ v,PtR w.heap.size W v (word::(dParts spS l++[smS]))→Calls Tryz.prog 45 #[.pointer (some ⟨b,0,none⟩),v] W (PutP b txt (marg d++cat (word::(dParts spS l++[smS]))++[10]) d fs W)):=fun W hB v hp=>by
  obtain ⟨a',c',rfl,hs⟩:=ptr_sa hp hw.lt
  have hl4:=dParts_len spS l
  refine p_line (hw.below hB) hd ht (by simp;omega) (fun s hs=>?_) hs
  rcases List.mem_cons.1 hs with rfl | hs
  · exact hwz
  rcases List.mem_append.1 hs with hs | hs
  · exact dParts_small (fun d hd=>⟨(hnm d hd).1,itoa_size _ (hnm d hd).2.1 (hnm d hd).2.2⟩) (by decide) s hs
  · obtain rfl : s = smS := by simpa using hs
    decide
 have HNM:=Lib.hid hnm
 have E1:=Lib.hid h1
 have HBW:=Lib.hid hbw
 have HLT:=Lib.hid (Nat.le_of_lt hw.lt)
 have HW:=Lib.hid hw
 have HB0:=Lib.hid hb0
 obtain ⟨n,hn⟩:∃ n,n=l.length:=⟨_,rfl⟩
 rw [← hn] at hlen ⊢
 have HN:=Lib.hid hn
 have HT:=Lib.hid ht
 obtain ⟨tx,htx⟩:∃ t,t=tDs word l d:=⟨_,rfl⟩
 rw [← htx]
 have HTX:=Lib.hid htx
 clear h1 TT hb0 hbw hw ht hn hd hnm hwz htx
 by_cases hn0:n=0
 · subst hn0
   have hF:PutP b txt tx d fs w (.returned (.tuple #[])) w:=by
    rw [HTX.out,tDs,if_pos HN.out.symm]
    exact ⟨Below.refl _ w,.inl ⟨by simpa using HT.out,rfl,by rw [List.append_nil];exact HW.out,Keep.refl _ w⟩⟩
   have HF:=Lib.hid hF
   clear hF
   go_enter Tryz.func44,Tryz.ntmps44
   go_wp2_with fail
   exact bodyPost_ret (results_none rfl _ _ _) rfl HF.out
 replace HTX:Hid (tx=marg d++cat (word::(dParts spS l++[smS]))++[10]):=by rw [Hid,HTX.out,tDs,if_neg (by have:=HN.out;omega)]
 obtain ⟨i0,hi,hi0,hi1,hi2⟩:=info_parts infoSg
 have hn1:¬ ((n:Int)=0):=by omega
 have hn2:((n:Int)==0)=false:=by simpa using hn0
 have HR0:=Lib.hid (ptr_one w word)
 have HA0:=Lib.hid ((Below.refl w.heap.size w).alloc (Nat.le_refl _) (.cells #[.string word] 9))
 go_enter Tryz.func44,Tryz.ntmps44
 go_wp2_with fail
 go_loopg [6,7,17] (n+1) (fun m' v s u W=>∃ i:Nat,u=.int .i64 (i:Int)∧i≤n∧m'=n-i+1∧s=.string (if i=0 then spS else cmS)∧PtR w.heap.size W v (word::dParts spS (l.take i))∧Below w.heap.size w W)
 case atStart=>exact ⟨0,rfl,Nat.zero_le _,by omega,rfl,HR0.out,HA0.out⟩
 case round =>
  obtain ⟨i,rfl,hi',hm,rfl,hp,hb'⟩:=hrel
  have HM:=Lib.hid hm
  have HR:=Lib.hid hp
  have HB:=Lib.hid hb'
  clear hm hp hb' HR0 HA0
  by_cases hin:i<n
  · have il : i < l.length := by have := HN.out; omega
    have g1:l[i]? = some l[i]:=List.getElem?_eq_getElem il
    have hmem:l[i]∈l:=List.getElem_mem il
    have htk:l.take (i+1)=l.take i++[l[i]]:=by rw [List.take_succ_eq_append_getElem il]
    have htl:(l.take i).length=i:=by rw [List.length_take];omega
    generalize l[i]=x at g1 hmem htk
    have hps:word::dParts spS (l.take (i+1))=(word::dParts spS (l.take i))++dPart (if i=0 then spS else cmS) x:=by rw [htk,dParts_snoc,htl,List.cons_append]
    have hpl:=dParts_len spS (l.take i)
    rw [htl] at hpl
    rcases E1.out with e | ⟨g,q,e,_,e1⟩
    · cases l with
      | nil=>simp at il
      | cons=>cases e
    obtain rfl:a=some ⟨g,q,none⟩:=e
    have x1:=dcsIn_get i x e1 g1
    obtain ⟨nm,wd,ps⟩:=x
    obtain ⟨f0,f1,f2⟩:=x1
    have lg:=lt_of_at f0
    simp only at lg
    rw [← HB0.out] at lg
    have hin':(i:Int)<(n:Int):=by omega
    have BX:=HBW.out.trans (HB.out.mono HLT.out)
    have f0:wr.cell? ⟨g,q+i*3,none⟩=some (.string nm):=(BX.cell (p:=⟨g,q+i*3,none⟩) lg).trans f0
    have f1:wr.cell? ⟨g,q+i*3+1,none⟩=some (.int .i64 wd):=(BX.cell (p:=⟨g,q+i*3+1,none⟩) lg).trans f1
    have f2:wr.cell? ⟨g,q+i*3+2,none⟩=some (.int .i64 ps):=(BX.cell (p:=⟨g,q+i*3+2,none⟩) lg).trans f2
    obtain ⟨_,hwd1,hwd2⟩:=HNM.out _ hmem
    have HWD:=Lib.hid (And.intro hwd1 hwd2)
    obtain ⟨sp,hsp⟩:∃ s,s=(if i=0 then spS else cmS):=⟨_,rfl⟩
    obtain ⟨pl,hpl2⟩:∃ s,s=word::dParts spS (l.take i):=⟨_,rfl⟩
    rw [← hsp,← hpl2] at hps
    rw [← hpl2] at HR
    rw [← hsp]
    have HPL:Hid (pl.length≤4*i+1):=by rw [Hid,hpl2,List.length_cons];omega
    have HPS:=Lib.hid hps
    clear g1 e1 il BX hmem htk htl hpl hpl2 hps hwd1 hwd2 lg hsp
    have O1:=Own.new wr 63 #[.string nm,.int .i64 wd,.int .i64 ps]
    have HBA:=Lib.hid ((Below.refl wr.heap.size wr).alloc (Nat.le_refl _) (.cells #[.string nm,.int .i64 wd,.int .i64 ps] 63))
    have ROW1:=World.ownsRow.alloc HR.out (.cells #[.string nm,.int .i64 wd,.int .i64 ps] 63)
    have HLTR:=Lib.hid (World.ownsRow.lt HR.out)
    obtain ⟨W1,hW1⟩:∃ W,W=wr.alloc (.cells #[.string nm,.int .i64 wd,.int .i64 ps] 63):=⟨_,rfl⟩
    rw [← hW1] at O1 HBA ROW1
    have HROW:=Lib.hid ROW1
    have HO1:=Lib.hid O1
    have HW1:=Lib.hid hW1
    have HB1:=Lib.hid (HB.out.trans (HBA.out.mono HB.out.size))
    clear hW1 O1 ROW1 HBA
    go_upto_region 6 with (fail)
    rw [← HW1.out]
    have y0:W1.cell? ⟨wr.heap.size,0,none⟩=some (.string nm):=by rw [cell_of_row _ _ 0 _ _ _ HO1.out];rfl
    have ROW2:=World.ownsRow.alloc HROW.out (.cells #[.string sp,.string nm] 9)
    have N2:=Own.new W1 9 #[.string sp,.string nm]
    have O2:=Lib.hid (HO1.out.alloc (.cells #[.string sp,.string nm] 9))
    have HB2:=Lib.hid (HB1.out.alloc HB1.out.size (.cells #[.string sp,.string nm] 9))
    have hs1:w.heap.size≤W1.heap.size:=HB1.out.size
    have hpl4:pl.length≤4*i+1:=HPL.out
    by_cases hz:wd=0
    · subst hz
      have HPS2:Hid (word::dParts spS (l.take (i+1))=pl++[sp,nm]):=by rw [Hid,HPS.out];simp [dPart]
      go_wp2_with (at_builtin;refine wpList_append_own _ rfl _ _ 122 rfl w.heap.size 9 i0 _ 1 16 Tryz.underlying122 hi hi0 hi1 hi2 rfl (by decide) _ _ _ rfl ROW2 ⟨W1.heap.size,0,none⟩ 2 2 [.string sp,.string nm] rfl rfl (fun j u hj=>cells_twoS N2 j u hj) (by simp [Value.oneCell']) (by simp only [maxLen];omega) (by omega) (by simp;omega) ?_;intro v4 w4 hown4 hgrow4 _;have HROW4:=Lib.hid hown4;have HB4:=Lib.hid (HB2.out.grown hgrow4 HB2.out.size (fun k hk=>(HLTR.out k hk).1));have O4:=own_grown O2.out hgrow4 (fun hk=>by have:=(HLTR.out _ hk).2;omega);have z1:w4.cell? ⟨wr.heap.size,1,none⟩=some (.int .i64 _):=(by rw [cell_of_row _ _ 1 _ _ _ O4];rfl);clear hown4 hgrow4 O4)
      go_roundg (n-(i+1)+1)
      case measure=>have:=HM.out;omega
      case rel =>
       refine ⟨i+1,by simp,by omega,by omega,by simp [cmS],?_,HB4.out⟩
       have:=HROW4.out
       rw [HPS2.out]
       unfold PtR
       rw [List.length_append,List.map_append]
       exact this
    · have HPS2 : Hid (word :: dParts spS (l.take (i + 1)) = (pl ++ [sp, nm]) ++ [eqS, itoaS wd]) := by rw [Hid, HPS.out]; simp [dPart, hz]
      have hq:(wd==0)=false:=by simpa using hz
      go_wp2_with (at_builtin;refine wpList_append_own _ rfl _ _ 122 rfl w.heap.size 9 i0 _ 1 16 Tryz.underlying122 hi hi0 hi1 hi2 rfl (by decide) _ _ _ rfl ROW2 ⟨W1.heap.size,0,none⟩ 2 2 [.string sp,.string nm] rfl rfl (fun j u hj=>cells_twoS N2 j u hj) (by simp [Value.oneCell']) (by simp only [maxLen];omega) (by omega) (by simp;omega) ?_;intro v4 w4 hown4 hgrow4 _;have HROW4:=Lib.hid hown4;have HB4:=Lib.hid (HB2.out.grown hgrow4 HB2.out.size (fun k hk=>(HLTR.out k hk).1));have O4:=own_grown O2.out hgrow4 (fun hk=>by have:=(HLTR.out _ hk).2;omega);have z1:w4.cell? ⟨wr.heap.size,1,none⟩=some (.int .i64 _):=(by rw [cell_of_row _ _ 1 _ _ _ O4];rfl);clear hown4 hgrow4 O4)
      go_at_call 86
      refine (HPR.out _ _ HWD.out (HBW.out.trans (HB4.out.mono HLT.out))).mono ?_
      rintro e w5 ⟨rfl,hb5⟩
      have HROW5:=Lib.hid (row_belowS HROW4.out hb5)
      have HB5:=Lib.hid (HB4.out.trans (hb5.mono HB4.out.size))
      have ROW6:=World.ownsRow.alloc HROW5.out (.cells #[.string ⟨#[32,61,32]⟩,.string (itoaS wd)] 9)
      have N6:=Own.new w5 9 #[.string ⟨#[32,61,32]⟩,.string (itoaS wd)]
      have HB6:=Lib.hid (HB5.out.alloc HB5.out.size (.cells #[.string ⟨#[32,61,32]⟩,.string (itoaS wd)] 9))
      have hs5:w.heap.size≤w5.heap.size:=HB5.out.size
      have HLTR5:=Lib.hid (World.ownsRow.lt HROW5.out)
      clear hb5
      go_wp2_with (at_builtin;refine wpList_append_own _ rfl _ _ 122 rfl w.heap.size 9 i0 _ 1 16 Tryz.underlying122 hi hi0 hi1 hi2 rfl (by decide) _ _ _ rfl ROW6 ⟨w5.heap.size,0,none⟩ 2 2 [.string ⟨#[32,61,32]⟩,.string (itoaS wd)] rfl rfl (fun j u hj=>cells_twoS N6 j u hj) (by simp [Value.oneCell']) (by simp only [maxLen];omega) (by omega) (by simp;omega) ?_;intro v7 w7 hown7 hgrow7 _;have HROW7:=Lib.hid hown7;have HB7:=Lib.hid (HB6.out.grown hgrow7 HB6.out.size (fun k hk=>(HLTR5.out k hk).1));clear hown7 hgrow7)
      go_roundg (n-(i+1)+1)
      case measure=>have:=HM.out;omega
      case rel =>
       refine ⟨i+1,by simp,by omega,by omega,by simp [cmS],?_,HB7.out⟩
       have:=HROW7.out
       rw [HPS2.out]
       unfold PtR
       rw [List.length_append,List.length_append,List.map_append,List.map_append]
       exact this
  · have hin2 : i = n := by omega
    subst hin2
    have HPL:Hid (word::dParts spS (l.take i)=word::dParts spS l):=by rw [Hid,HN.out,List.take_length]
    have hpl:=dParts_len spS l
    rw [← HN.out] at hpl
    obtain ⟨pl,hpl2⟩:∃ s,s=word::dParts spS (l.take i):=⟨_,rfl⟩
    rw [← hpl2] at HR HPL
    have HPS:Hid (word::(dParts spS l++[smS])=pl++[smS]):=by rw [Hid,HPL.out,List.cons_append]
    have hpl4:pl.length≤4*i+1:=by rw [HPL.out,List.length_cons];omega
    have ROW2:=World.ownsRow.alloc HR.out (.cells #[.string ⟨#[59]⟩] 9)
    have N2:=Own.new wr 9 #[.string ⟨#[59]⟩]
    have HB2:=Lib.hid (HB.out.alloc HB.out.size (.cells #[.string ⟨#[59]⟩] 9))
    have hs1:w.heap.size≤wr.heap.size:=HB.out.size
    have HLTR:=Lib.hid (World.ownsRow.lt HR.out)
    clear hpl hpl2
    go_wp2_with (at_builtin;refine wpList_append_own _ rfl _ _ 122 rfl w.heap.size 9 i0 _ 1 16 Tryz.underlying122 hi hi0 hi1 hi2 rfl (by decide) _ _ _ rfl ROW2 ⟨wr.heap.size,0,none⟩ 1 1 [.string ⟨#[59]⟩] rfl rfl (fun j u hj=>cells_oneS N2 j u hj) (by simp [Value.oneCell']) (by simp only [maxLen];omega) (by omega) (by simp;omega) ?_;intro v4 w4 hown4 hgrow4 _;have HROW4:=Lib.hid hown4;have HB4:=Lib.hid (HB2.out.grown hgrow4 HB2.out.size (fun k hk=>(HLTR.out k hk).1));clear hown4 hgrow4)
    go_at_call 45
    have HP8:PtR w.heap.size w4 v4 (word::(dParts spS l++[smS])):=by
     have:=HROW4.out
     rw [HPS.out]
     unfold PtR
     rw [List.length_append,List.map_append]
     exact this
    refine (HLN.out _ HB4.out _ HP8).mono ?_
    rintro e w8 hh
    rcases hh.cases with ⟨hx,rfl,hw8,hk,hb⟩ | ⟨hx,rfl,hb⟩
    rotate_left
    · go_wp2_with fail
      exact ⟨rfl,(HB4.out.mono HLT.out).trans hb,.inr ⟨by rw [HTX.out];exact hx,rfl⟩⟩
    have HF:Hid (PutP b txt tx d fs w (.returned (.tuple #[])) w8):=by
     rw [Hid,HTX.out]
     exact ⟨(HB4.out.mono HLT.out).trans hb,.inl ⟨hx,rfl,hw8,(keep_below HB4.out).trans hk⟩⟩
    clear hx hw8 hk hb
    go_wp2_with fail
    exact bodyPost_end (results_none rfl _ _ _) rfl HF.out
open Go.RowKit
set_option linter.unusedVariables false
set_option maxRecDepth 100000
theorem p_newWriter (w:World):Calls Tryz.prog 43 #[] w fun e w'=>e=.returned (.pointer (some ⟨w.heap.size,0,none⟩))∧Wt w.heap.size [] 0 (mFs w.heap.size) w'∧Below w.heap.size w w':=by
 go_enter Tryz.func43,Tryz.ntmps43
 go_wp2_with fail
 go_ret
 exact ⟨rfl,⟨_,_,Own.new w _ _,rfl,.inl rfl,fun _=>rfl,World.ownsRow_nil _ _ _ _⟩,(Below.refl _ w).alloc (Nat.le_refl _) _⟩
end Go.Proofs.YtieeaehabjjaoaaGreatDoor

/- The proof, part 5: texts that belong together, in one. -/
import Derived.Test.YtggbkldniffbfaaGreatDoorTAC
import Derived.Test.YtggbkldniffbfaaGreatDoorTAD
import Derived.Sort.QuietIn
set_option maxRecDepth 100000
set_option maxHeartbeats 20000000
namespace Go.Proofs.YtggbkldniffbfaaGreatDoor
open Go.RowKit
set_option linter.unusedVariables false
def slashes:List UInt8:=[47,47]
def stepN (l:List UInt8):Nat:=if Lib.hasPrefix l slashes=true then spanN feedB l else spanN blankB l
theorem stepN_le (l:List UInt8):stepN l≤l.length:=by
 unfold stepN;split
 · exact spanN_le _ _
 · exact spanN_le _ _
def passF:Nat→List UInt8→Nat
 | 0,_=>0
 | f+1,l=>if stepN l=0 then 0 else stepN l+passF f (l.drop (stepN l))
theorem passF_more:∀ (f g:Nat) (l:List UInt8),l.length≤f→l.length≤g→passF f l=passF g l
 | 0,0,_,_,_=>rfl
 | 0, g + 1, l, h, _ => by
   have:l=[]:=List.length_eq_zero_iff.1 (by omega)
   subst this
   rfl
 | f + 1, 0, l, _, h => by
   have:l=[]:=List.length_eq_zero_iff.1 (by omega)
   subst this
   rfl
 | f + 1, g + 1, l, hf, hg => by
   simp only [passF]
   by_cases h:stepN l=0
   · rw [if_pos h,if_pos h]
   · rw [if_neg h,if_neg h,passF_more f g (l.drop (stepN l)) (by simp;omega) (by simp;omega)]
def passN (l:List UInt8):Nat:=passF l.length l
theorem passN_stop {l:List UInt8} (h:stepN l=0):passN l=0:=by
 unfold passN
 cases hl:l.length with
 | zero=>rfl
 | succ n=>simp only [passF];rw [if_pos h]
theorem passN_step {l:List UInt8} (h:¬ stepN l=0):passN l=stepN l+passN (l.drop (stepN l)):=by
 have hle:=stepN_le l
 have e:passF l.length l=passF (l.length+1) l:=passF_more _ _ l (Nat.le_refl _) (Nat.le_succ _)
 have e2:passF (l.length+1) l=stepN l+passF l.length (l.drop (stepN l)):=by
  simp only [passF];rw [if_neg h]
 have e3:passN (l.drop (stepN l))=passF l.length (l.drop (stepN l)):=passF_more _ _ _ (Nat.le_refl _) (by simp)
 rw [e3,← e2,← e]
 rfl
theorem passN_le:∀ (n:Nat) (l:List UInt8),l.length≤n→passN l≤l.length
 | 0, l, h => by
   have:l=[]:=List.length_eq_zero_iff.1 (by omega)
   subst this
   exact Nat.le_refl _
 | n + 1, l, h => by
   by_cases h0:stepN l=0
   · rw [passN_stop h0];exact Nat.zero_le _
   · have hle := stepN_le l
     have k:=passN_le n (l.drop (stepN l)) (by simp;omega)
     rw [passN_step h0]
     simp at k
     omega
theorem from_drop (s:ByteArray) (p n:Nat):(bytesFrom s p).drop n=bytesFrom s (p+n):=by
 unfold bytesFrom;rw [List.drop_drop]
theorem from_len (s:ByteArray) (p:Nat):(bytesFrom s p).length=s.size-p:=by
 unfold bytesFrom;simp
theorem Sc.setAt {W:World} {b:Nat} {s:ByteArray} {p fa fr:Int} (h:Sc W b s p fa fr) (p':Int):Sc (W.setCell ⟨b,1,none⟩ (.int .i64 p')) b s p' fa fr :=
 heap_setCell_same W b 1 _ _ (.int .i64 p') h
def atOf (b:Nat) (w:World):Nat:=match w.cell? ⟨b,1,none⟩ with
 | some v=>(intOf v).toNat
 | none=>0
theorem Sc.atOf {W:World} {b:Nat} {s:ByteArray} {p:Nat} {fa fr:Int} (h:Sc W b s p fa fr):atOf b W=p:=by
 unfold Proofs.YtggbkldniffbfaaGreatDoor.atOf;rw [h.cells.1.2.1];simp [intOf]
theorem pass_any (b:Nat) (s:ByteArray) (p:Nat) (fa fr:Int) (w:World) (hs62:s.size≤281474976710656) (hp:p≤s.size) (hs:Sc w b s p fa fr) :
 Calls Tryz.prog 120 #[.pointer (some ⟨b,0,none⟩)] w fun e w'=>e=.returned (.tuple #[])∧Sc w' b s ((p+passN (bytesFrom s p):Nat):Int) fa fr∧Keep (fun k _=>k≠b) w w'∧w'.heap.size=w.heap.size:=by
 have HS:=Lib.hid hs
 clear hs
 obtain ⟨R,hR⟩:∃ R,Hid (R=p+passN (bytesFrom s p)):=⟨_,rfl⟩
 rw [← hR.out]
 go_enter Tryz.func120,Tryz.ntmps120
 go_wp2_with fail
 go_loopw [2,3] (fun _ _ wr=>∃ k:Nat,k≤s.size∧Sc wr b s k fa fr∧Hid (k+passN (bytesFrom s k)=R)∧Keep (fun k _=>k≠b) w wr∧wr.heap.size=w.heap.size) (fun _ _ wr=>s.size-atOf b wr)
 case atStart=>exact ⟨p,hp,HS.out,hR.out.symm,Keep.refl _ _,rfl⟩
 case round =>
  obtain ⟨k,hk,hsc,hpa,hB,hsz⟩:=hrel
  have HSC:=Lib.hid hsc
  have HSZ:=Lib.hid hsz
  obtain ⟨⟨c0,c1,c2,c3⟩,f1,f2,f3⟩:=hsc.cells
  clear hsc hsz
  obtain ⟨X0,hX0⟩:∃ X0,Hid (X0=s.extract k s.size):=⟨_,rfl⟩
  have hl0:X0.data.toList=bytesFrom s k:=by rw [hX0.out];exact tail_list s k
  have hz0:X0.size≤281474976710656:=by rw [hX0.out];simp;omega
  obtain ⟨l,hl⟩:∃ l,Hid (l=bytesFrom s k):=⟨_,rfl⟩
  rw [← hl.out] at hl0 hpa
  obtain ⟨n1,hn1⟩:∃ n,Hid (n=spanN blankB l):=⟨_,rfl⟩
  obtain ⟨n2,hn2⟩:∃ n,Hid (n=spanN feedB l):=⟨_,rfl⟩
  obtain ⟨q,hq⟩:∃ q,Hid (q=Lib.hasPrefix l slashes):=⟨_,rfl⟩
  have H1:Hid (∀ W:World,Calls Tryz.prog 74 #[.string X0,.func (.func 148) #[] #[]] W fun e w'=>e=.returned (.int .i64 n1)∧W=w'):=fun W=>by
   have k:=span_blank X0 (by omega) W
   rw [hl0,← hn1.out] at k
   exact k
  have H2:Hid (∀ W:World,Calls Tryz.prog 74 #[.string X0,.func (.func 149) #[] #[]] W fun e w'=>e=.returned (.int .i64 n2)∧W=w'):=fun W=>by
   have k:=span_feed X0 (by omega) W
   rw [hl0,← hn2.out] at k
   exact k
  have H3:Hid (∀ W:World,Calls Tryz.prog 117 #[.string X0,.string ⟨#[47,47]⟩] W fun e w'=>e=.returned (.bool q)∧w'=W):=fun W=>by
   have k:=Go.Proofs.Tryz.strings_HasPrefix X0 ⟨#[47,47]⟩ W
   rw [hl0] at k
   rw [hq.out]
   exact k
  have hlen:l.length=s.size-k:=by rw [hl.out];exact from_len s k
  have hle1:n1≤s.size-k:=by rw [hn1.out,← hlen];exact spanN_le _ _
  have hle2:n2≤s.size-k:=by rw [hn2.out,← hlen];exact spanN_le _ _
  have hst:Hid (stepN l=if q=true then n2 else n1):=by rw [Hid,hq.out,hn1.out,hn2.out];rfl
  clear hl0 hlen
  go_wp2
  go_quiet (fail)
  rw [← hX0.out]
  cases q
  · by_cases h0 : n1 = 0
    · subst h0
      have hfin:Hid (R=k):=by rw [Hid,← hpa.out,passN_stop (by rw [hst.out];rfl)];omega
      go_wp2_with (first
       | (go_at_call 74;(with_reducible refine (H1.out _).mono ?_);rintro e w' ⟨rfl,rfl⟩)
       | (go_at_call 74;(with_reducible refine (H2.out _).mono ?_);rintro e w' ⟨rfl,rfl⟩)
       | (go_at_call 117;refine (H3.out _).mono ?_;rintro e w' ⟨rfl,rfl⟩))
      refine bodyPost_ret (results_none rfl _ _ _) rfl ?_
      rw [hfin.out]
      exact ⟨rfl,HSC.out,⟨hB.os,hB.tape,hB.output,hB.size,hB.block⟩,HSZ.out⟩
    · have qn : ((n1 : Int) == 0) = false := int_f (by omega)
      have hpos:0<n1:=by omega
      have hnext:Hid (k+n1+passN (bytesFrom s (k+n1))=R):=by
       have e1:stepN l=n1:=by rw [hst.out];rfl
       have e2:=passN_step (l:=l) (by rw [e1];exact h0)
       rw [e1] at e2
       rw [Hid,← hpa.out,e2,← from_drop,← hl.out]
       omega
      clear h0
      go_wp2_with (first
       | (go_at_call 74;(with_reducible refine (H1.out _).mono ?_);rintro e w' ⟨rfl,rfl⟩)
       | (go_at_call 74;(with_reducible refine (H2.out _).mono ?_);rintro e w' ⟨rfl,rfl⟩)
       | (go_at_call 117;refine (H3.out _).mono ?_;rintro e w' ⟨rfl,rfl⟩))
      have hnew:Sc ((wr.drewN nq).setCell ⟨b,1,none⟩ (.int .i64 ((k:Int)+(n1:Int)))) b s ((k+n1:Nat):Int) fa fr:=by
       rw [Int.natCast_add]
       exact (show Sc (wr.drewN nq) b s k fa fr from HSC.out).setAt _
      go_roundw
      case rel=>exact ⟨k+n1,by omega,hnew,hnext,(show Keep (fun k _=>k≠b) w (wr.drewN nq) from ⟨hB.os,hB.tape,hB.output,hB.size,hB.block⟩).setCell (p:=⟨b,1,none⟩) _ HSC.out (fun h=>h rfl),by simp [World.setCell];exact HSZ.out⟩
      case measure =>
       rw [hnew.atOf,HSC.out.atOf]
       omega
  · by_cases h0 : n2 = 0
    · subst h0
      have hfin:Hid (R=k):=by rw [Hid,← hpa.out,passN_stop (by rw [hst.out];rfl)];omega
      go_wp2_with (first
       | (go_at_call 74;(with_reducible refine (H1.out _).mono ?_);rintro e w' ⟨rfl,rfl⟩)
       | (go_at_call 74;(with_reducible refine (H2.out _).mono ?_);rintro e w' ⟨rfl,rfl⟩)
       | (go_at_call 117;refine (H3.out _).mono ?_;rintro e w' ⟨rfl,rfl⟩))
      refine bodyPost_ret (results_none rfl _ _ _) rfl ?_
      rw [hfin.out]
      exact ⟨rfl,HSC.out,⟨hB.os,hB.tape,hB.output,hB.size,hB.block⟩,HSZ.out⟩
    · have qn : ((n2 : Int) == 0) = false := int_f (by omega)
      have hpos:0<n2:=by omega
      have hnext:Hid (k+n2+passN (bytesFrom s (k+n2))=R):=by
       have e1:stepN l=n2:=by rw [hst.out];rfl
       have e2:=passN_step (l:=l) (by rw [e1];exact h0)
       rw [e1] at e2
       rw [Hid,← hpa.out,e2,← from_drop,← hl.out]
       omega
      clear h0
      go_wp2_with (first
       | (go_at_call 74;(with_reducible refine (H1.out _).mono ?_);rintro e w' ⟨rfl,rfl⟩)
       | (go_at_call 74;(with_reducible refine (H2.out _).mono ?_);rintro e w' ⟨rfl,rfl⟩)
       | (go_at_call 117;refine (H3.out _).mono ?_;rintro e w' ⟨rfl,rfl⟩))
      have hnew:Sc ((wr.drewN nq).setCell ⟨b,1,none⟩ (.int .i64 ((k:Int)+(n2:Int)))) b s ((k+n2:Nat):Int) fa fr:=by
       rw [Int.natCast_add]
       exact (show Sc (wr.drewN nq) b s k fa fr from HSC.out).setAt _
      go_roundw
      case rel=>exact ⟨k+n2,by omega,hnew,hnext,(show Keep (fun k _=>k≠b) w (wr.drewN nq) from ⟨hB.os,hB.tape,hB.output,hB.size,hB.block⟩).setCell (p:=⟨b,1,none⟩) _ HSC.out (fun h=>h rfl),by simp [World.setCell];exact HSZ.out⟩
      case measure =>
       rw [hnew.atOf,HSC.out.atOf]
       omega
open Go.RowKit Go.Shelf
set_option linter.unusedVariables false
attribute [local go_sem] Oper.semAt_some
def IsTy (t:TypeId) (o:Obj):Prop:=∃ cs f,o=.cells cs t f
def selO (n:Nat) (k:Nat) (o:Obj):Prop:=k<n∨¬ IsTy 138 o
def selY (n:Nat) (k:Nat) (o:Obj):Prop:=k<n∨IsTy 138 o∨IsTy 180 o
def nx (s:ByteArray) (q:Nat):Nat:=q+(nextR s q).text.size+passN (bytesFrom s (q+(nextR s q).text.size))
def goH (s:ByteArray):Nat→Nat→List Res × Int × Int
 | 0,_=>([],0,0)
 | f+1,q=>if q<s.size then (if (nextR s q).fr=0 then (nextR s q::(goH s f (nx s q)).1,(goH s f (nx s q)).2) else ([],(nextR s q).fa,(nextR s q).fr)) else ([],0,0)
def frontR (s:ByteArray):List Res × Int × Int:=goH s (s.size+1) (passN (bytesFrom s 0))
theorem span_pos {p:Int→Bool} {c:UInt8} {r:List UInt8} (h:p (c.toNat:Int)=true):0<spanN p (c::r):=by
 simp only [spanN];rw [if_pos h];omega
theorem extract_size (s:ByteArray) (p n:Nat) (h:n≤s.size-p) (hp:p≤s.size):((s.extract p s.size).extract 0 n).size=n:=by
 simp;omega
theorem bt_byte (s:ByteArray) (q:Nat) (hq:q<s.size):((s[q]'hq).toNat:Int)=PlainAid.bt s q:=PlainAid.get_bt s q hq
theorem nextR_good (s:ByteArray) (q:Nat) (hq:q<s.size) (h:(nextR s q).fr=0):0<(nextR s q).text.size∧q+(nextR s q).text.size≤s.size∧(nextR s q).place=q:=by
 have hl:=from_len s q
 have hc:=bt_byte s q hq
 have hf:=from_at s q hq
 unfold nextR at h ⊢
 by_cases h0:letterB (PlainAid.bt s q)=true
 · rw [if_pos h0] at h ⊢
   have hle:=spanN_le namedB (bytesFrom s q)
   have hz:(nameX s q).size=spanN namedB (bytesFrom s q):=extract_size s q _ (by omega) (by omega)
   have hpos:0<spanN namedB (bytesFrom s q):=by
    rw [hf];exact span_pos (by rw [hc];unfold namedB;rw [h0];rfl)
   unfold nameR at h ⊢
   split
   · refine ⟨show 0<(nameX s q).size by omega,show q+(nameX s q).size≤s.size by omega,rfl⟩
   · rename_i hw
     rw [if_neg hw] at h
     split
     · rename_i h32
       rw [if_pos h32] at h
       simp at h
     · refine ⟨show 0<(nameX s q).size by omega,show q+(nameX s q).size≤s.size by omega,rfl⟩
 · rw [if_neg h0] at h ⊢
   by_cases h1:digitB (PlainAid.bt s q)=true
   · rw [if_pos h1] at h ⊢
     have hle:=spanN_le digitB (bytesFrom s q)
     have hz:(numX s q).size=spanN digitB (bytesFrom s q):=extract_size s q _ (by omega) (by omega)
     have hpos:0<spanN digitB (bytesFrom s q):=by
      rw [hf];exact span_pos (by rw [hc];exact h1)
     unfold numR at h ⊢
     cases hv:valueO (numX s q).data.toList with
     | none=>rw [hv] at h;simp [numC] at h
     | some v =>
       rw [hv] at h
       simp only [numC] at h ⊢
       by_cases hb:behindB s q=true
       · rw [if_pos hb] at h;simp at h
       · rw [if_neg hb];refine ⟨show 0<(numX s q).size by omega,show q+(numX s q).size≤s.size by omega,rfl⟩
   · rw [if_neg h1] at h ⊢
     by_cases h2:signB (PlainAid.bt s q)=true
     · rw [if_pos h2] at h ⊢
       have hle:=ahead_le (bytesFrom s q)
       have hz:(signX s q).size=aheadN (bytesFrom s q):=extract_size s q _ (by omega) (by omega)
       have hpos:0<aheadN (bytesFrom s q):=by
        unfold aheadN
        split
        · omega
        · rw [hf];simp only [firstN];rw [if_pos (by rw [hc];exact h2)];omega
       unfold signR
       refine ⟨show 0<(signX s q).size by omega,show q+(signX s q).size≤s.size by omega,rfl⟩
     · rw [if_neg h2] at h
       simp at h
theorem goH_end {s:ByteArray} {f q:Nat} (h:¬ q<s.size):goH s f q=([],0,0):=by
 cases f with
 | zero=>rfl
 | succ f=>simp only [goH];rw [if_neg h]
theorem goH_fault {s:ByteArray} {f q:Nat} (h:q<s.size) (hf:¬ (nextR s q).fr=0):goH s (f+1) q=([],(nextR s q).fa,(nextR s q).fr):=by
 simp only [goH];rw [if_pos h,if_neg hf]
theorem goH_tok {s:ByteArray} {f q:Nat} (h:q<s.size) (hf:(nextR s q).fr=0):goH s (f+1) q=(nextR s q::(goH s f (nx s q)).1,(goH s f (nx s q)).2):=by
 simp only [goH];rw [if_pos h,if_pos hf]
def okR (s:ByteArray) (pre:List Res) (x:Res):Prop:=(pre++[x]) <+: (frontR s).1
def encR (x:Res):Array Value:=#[tokV x.kind x.text x.wd x.place]
theorem Sc.keep {W W':World} {b:Nat} {s:ByteArray} {p fa fr:Int} {sel:Nat→Obj→Prop} (h:Sc W b s p fa fr) (hk:Keep sel W W') (hs:sel b (.cells #[.string s,.int .i64 p,.int .i64 fa,.int .i64 fr] 138 (0,0))):Sc W' b s p fa fr:=hk.block _ _ h hs
def Fm (W:World) (g b:Nat):Prop:=W.heap[g]? = some (.cells (famCells b) 180 (0,0))
theorem not_ty {t u:TypeId} {cs:Array Value} {f:Nat × Nat} (h:t≠u):¬ IsTy u (.cells cs t f):=fun ⟨_,_,e⟩=>by
 cases e;exact h rfl
theorem keepO_below {n:Nat} {W W':World} (h:Below W.heap.size W W'):Keep (selO n) W W':=Keep.of_below h
open Go.RowKit Go.Shelf
set_option linter.unusedVariables false
attribute [local go_sem] Oper.semAt_some
theorem keepO_ne {A B:World} {n b:Nat} {s:ByteArray} {p fa fr:Int} (h:Keep (fun k _=>k≠b) A B) (hs:Sc A b s p fa fr) (hn:n≤b):Keep (selO n) A B :=
 ⟨h.os,h.tape,h.output,h.size,fun k o hk ho=>h.block k o hk (fun e=>by
  subst e
  rw [show A.heap[k]? = _ from hs] at hk
  cases hk
  rcases ho with ho | ho
  · omega
  · exact ho ⟨_,_,rfl⟩)⟩
theorem keep_drew (sel:Nat→Obj→Prop) (W:World) (n:Nat):Keep sel W (W.drewN n):=⟨rfl,rfl,rfl,Nat.le_refl _,fun _ _ h _=>h⟩
theorem not_selO {n b:Nat} {cs:Array Value} {f:Nat × Nat} (hn:n≤b):¬ selO n b (.cells cs 138 f):=fun h=>by
 rcases h with h | h
 · omega
 · exact h ⟨_,_,rfl⟩
theorem Sc.setFault {W:World} {b:Nat} {s:ByteArray} {p fa fr:Int} (h:Sc W b s p fa fr) (fa' fr':Int):Sc ((W.setCell ⟨b,2,none⟩ (.int .i64 fa')).setCell ⟨b,3,none⟩ (.int .i64 fr')) b s p fa' fr' :=
 heap_setCell_same _ b 3 _ _ (.int .i64 fr') (heap_setCell_same W b 2 _ _ (.int .i64 fa') h)
theorem Fm.cells {w:World} {g b:Nat} (h:Fm w g b) :
 w.cell? ⟨g,0,none⟩=some (.func (.func 112) #[] #[])∧w.cell? ⟨g,1,none⟩=some (.func (.func 144) #[.pointer (some ⟨b,0,none⟩)] #[])∧w.cell? ⟨g,2,none⟩=some (.func (.func 72) #[] #[])∧w.cell? ⟨g,3,none⟩=some (.func (.func 145) #[.pointer (some ⟨b,0,none⟩)] #[])∧w.cell? ⟨g,4,none⟩=some (.func (.func 146) #[] #[])∧w.cell? ⟨g,5,none⟩=some (.func (.func 147) #[.pointer (some ⟨b,0,none⟩)] #[]) :=
 ⟨cell_of_row w g 0 _ _ _ h,cell_of_row w g 1 _ _ _ h,cell_of_row w g 2 _ _ _ h,cell_of_row w g 3 _ _ _ h,cell_of_row w g 4 _ _ _ h,cell_of_row w g 5 _ _ _ h⟩
theorem Sc.alloc {W:World} {b:Nat} {s:ByteArray} {p fa fr:Int} (h:Sc W b s p fa fr) (o:Obj):Sc (W.alloc o) b s p fa fr:=(Below.heap_alloc W o b h.lt).trans h
theorem tokens_in (n l b:Nat) (s:ByteArray) (hs:s.size≤65536) (w0:World) (T:LTabs w0) (J Jx:List Res→World→Prop)
 (hJ:∀ p A B,J p A→Keep (selO w0.heap.size) A B→J p B) (hJx:∀ p A B,Jx p A→Keep (selO w0.heap.size) A B→Jx p B)
 (hY:∀ pre x W1,J pre W1→okR s pre x→YieldAt Fence.wide (n-1) Tryz.prog l (encR x) W1 fun e W' =>
  (e=.returned (.bool true)∧J (pre++[x]) W'∧Keep (selY w0.heap.size) W1 W')∨(e=.returned (.bool false)∧Jx (pre++[x]) W'∧Keep (selY w0.heap.size) W1 W'))
 (W:World) (hW:Below w0.heap.size w0 W) (hbn:w0.heap.size≤b) (hsc:Sc W b s 0 0 0) (h0:J [] W) :
 CallsIn Fence.wide n Tryz.prog 87 #[.pointer (some ⟨b,0,none⟩),.func (.yield l) #[] #[]] W fun e W'=>(∃ v,e=.returned v) ∧
  ((∃ xs,(xs=(frontR s).1∧∃ p:Nat,Sc W' b s p (frontR s).2.1 (frontR s).2.2)∧J xs W')∨(∃ pre,True∧Jx pre W')):=by
 have HS:=Lib.hid hsc
 have HJ:=Lib.hid hJ
 have HJX:=Lib.hid hJx
 have HY:=Lib.hid hY
 have HW:=Lib.hid hW
 have HT:=Lib.hid T
 have H0:=Lib.hid h0
 clear hsc hJ hJx hY hW T h0
 refine callsIn_of_wp Tryz.func87 rfl trivial ?_ rfl
 simp only [Tryz.ntmps87,List.size_toArray,List.length_cons,List.length_nil,Nat.reduceAdd,Nat.reduceSub,Array.replicate_succ,Array.replicate_zero,List.push_toArray,List.append_toArray,List.nil_append,List.cons_append]
 gi_wp2_with ((refine ⟨trivial,(by intro h;cases h),?_⟩);first
  | (gi_at_call 119;refine (callsIn_wide.2 (families_any b _)).mono ?_;rintro e w1 ⟨rfl,hb1⟩;unfold famCells)
  | (gi_at_call 120;refine (callsIn_wide.2 (pass_any b s 0 0 0 _ (by omega) (Nat.zero_le _) ((HS.out.below hb1 HS.out.lt).alloc _))).mono ?_;rintro e w2 ⟨rfl,hs2,hk2,hz2⟩;rw [Nat.zero_add] at hs2;have HS2:=Lib.hid hs2;have HK2:=Lib.hid hk2;have HB1:=Lib.hid hb1;clear hs2 hk2 hz2 hb1))
 gi_loopw [5,6] (fun _ _ wr=>∃ (pre:List Res) (k f:Nat),k≤s.size∧s.size<f+k∧Sc wr b s k 0 0∧Fm wr w1.heap.size b∧Hid (Below w0.heap.size w0 wr)∧Hid ((frontR s).1=pre++(goH s f k).1∧(frontR s).2=(goH s f k).2)∧Hid (J pre wr)) (fun _ _ wr=>s.size-atOf b wr)
 case atStart =>
  have hbW:=HS.out.lt
  have hz1:=HB1.out.size
  refine ⟨[],passN (bytesFrom s 0),s.size+1,?_,by omega,HS2.out,HK2.out.block _ _ (World.alloc_heap_new w1 _) (by omega),?_,⟨rfl,rfl⟩,?_⟩
  · have := passN_le _ (bytesFrom s 0) (Nat.le_refl _)
    rw [from_len] at this
    omega
  · exact (HW.out.trans ((HB1.out.mono (by have:=HW.out.size;omega)).alloc (by have:=HW.out.size;omega) _)).trans (HK2.out.below (by have:=HW.out.size;simp;omega) (fun k _ hk=>by omega))
  · exact HJ.out _ _ _ H0.out (((keepO_below HB1.out).alloc _).trans (keepO_ne HK2.out ((HS.out.below HB1.out hbW).alloc _) hbn))
 case round =>
  obtain ⟨pre,k,f,hk,hf,hsc,hfm,hB,hfr,hj⟩:=hrel
  have HSC:=Lib.hid hsc
  have HFM:=Lib.hid hfm
  clear hsc hfm HS2 HK2
  obtain ⟨⟨c0,c1,c2,c3⟩,f1,f2,f3⟩:=HSC.out.cells
  have hbr:=HSC.out.lt
  by_cases hlt:k<s.size
  · obtain ⟨m0, m1, m2, m3, m4, m5⟩ := HFM.out.cells
    obtain ⟨R,hR⟩:∃ R,Hid (R=nextR s k):=⟨_,rfl⟩
    have HN:Hid (∀ m:Nat,Calls Tryz.prog 121 #[.pointer (some ⟨b,0,none⟩),.agg (famCells b)] (wr.drewN m) fun e w'=>e=.returned R.val∧Below (wr.drewN m).heap.size (wr.drewN m) w'):=fun m=>by
     rw [hR.out]
     exact next_any b s k 0 0 _ (HT.out.below (Nat.le_refl _) ⟨hB.out.os,hB.out.tape,hB.out.output,hB.out.size,hB.out.block⟩) (by omega) hlt (show Sc (wr.drewN m) b s k 0 0 from HSC.out)
    have hlt':(k:Int)<(s.size:Int):=by omega
    obtain ⟨rk,rx,rw0,rp,ra,rr⟩:=R
    have HN:Hid (∀ m:Nat,Calls Tryz.prog 121 #[.pointer (some ⟨b,0,none⟩),.agg #[.func (.func 112) #[] #[],.func (.func 144) #[.pointer (some ⟨b,0,none⟩)] #[],.func (.func 72) #[] #[],.func (.func 145) #[.pointer (some ⟨b,0,none⟩)] #[],.func (.func 146) #[] #[],.func (.func 147) #[.pointer (some ⟨b,0,none⟩)] #[]]] (wr.drewN m) fun e w'=>e=.returned (.tuple #[.agg #[.int .u8 rk,.string rx,.int .i64 rw0,.int .i64 rp],.agg #[.int .i64 ra,.int .i64 rr]])∧Below wr.heap.size wr w'):=fun m =>
     (HN.out m).mono fun _ _ h=>⟨h.1,⟨h.2.os,h.2.tape,h.2.output,h.2.size,h.2.block⟩⟩
    gi_wp2
    gi_quiet (fail)
    gi_wp2_with ((refine ⟨trivial,(by intro h;cases h),?_⟩);gi_at_call 121;refine (callsIn_wide.2 (HN.out _)).mono ?_;rintro e w3 ⟨rfl,hb3⟩;have HB3:=Lib.hid hb3;have d0:=(hb3.cell (p:=⟨b,0,none⟩) hbr).trans c0;have d1:=(hb3.cell (p:=⟨b,1,none⟩) hbr).trans c1;have d2:=(hb3.cell (p:=⟨b,2,none⟩) hbr).trans c2;have d3:=(hb3.cell (p:=⟨b,3,none⟩) hbr).trans c3;have e1:=(hb3.frozen (p:=⟨b,1,none⟩) hbr).trans f1;have e2:=(hb3.frozen (p:=⟨b,2,none⟩) hbr).trans f2;have e3:=(hb3.frozen (p:=⟨b,3,none⟩) hbr).trans f3;have hb3':b<w3.heap.size:=Nat.lt_of_lt_of_le hbr hb3.size;have hb4':b<w3.heap.size+1:=Nat.lt_succ_of_lt hb3';clear hb3)
    ·
     rename_i hrr
     have hsc3:Sc w3 b s k 0 0:=HSC.out.below HB3.out hbr
     have hne:¬ (nextR s k).fr=0:=by
      rw [← hR.out]
      intro h0
      have:(rr != 0)=true:=hrr
      rw [show rr=0 from h0] at this
      cases this
     obtain ⟨f,rfl⟩:∃ f',f=f'+1:=⟨f-1,by omega⟩
     have hg:=goH_fault (f:=f) hlt hne
     have hlow:w0.heap.size≤b:=hbn
     have hk3:=(Keep.setCell (p:=⟨b,3,none⟩) (Keep.setCell (p:=⟨b,2,none⟩) (keepO_below (n:=w0.heap.size) HB3.out) (.int .i64 ra) hsc3 (not_selO hbn)) (.int .i64 rr) (heap_setCell_same w3 b 2 _ _ (.int .i64 ra) hsc3) (not_selO hbn))
     refine bodyPost_ret (results_none rfl _ _ _) rfl ⟨⟨_,rfl⟩,.inl ⟨pre,⟨?_,k,?_⟩,HJ.out _ _ _ hj.out ((hk3.alloc _).alloc _)⟩⟩
     · rw [hfr.out.1,hg,List.append_nil]
     · rw [hfr.out.2, hg, ← hR.out]
       exact ((hsc3.setFault ra rr).alloc _).alloc _
    · have hrr : Hid ((rr != 0) = false) := by assumption
      have hr0:Hid ((nextR s k).fr=0):=by
       have h1:=hrr.out
       rw [Hid,← hR.out]
       show rr=0
       simpa using h1
      obtain ⟨g1,g2,g3⟩:=nextR_good s k hlt hr0.out
      rw [← hR.out] at g1 g2 g3
      have q1:0<rx.size:=g1
      have q2:k+rx.size≤s.size:=g2
      obtain rfl:rp=(k:Int):=g3
      clear g1 g2
      obtain ⟨f,rfl⟩:∃ f',f=f'+1:=⟨f-1,by omega⟩
      have hg:=Lib.hid (goH_tok (f:=f) hlt hr0.out)
      have hnx:Hid (nx s k=k+rx.size+passN (bytesFrom s (k+rx.size))):=by
       unfold nx
       rw [Hid,← hR.out]
      have hnx2:Hid (nx s k≤s.size):=by
       have:=passN_le _ (bytesFrom s (k+rx.size)) (Nat.le_refl _)
       rw [from_len] at this
       rw [Hid,hnx.out]
       omega
      have hnx3:Hid (k+rx.size≤nx s k):=by rw [Hid,hnx.out];omega
      gi_region
      gi_wp2
      obtain ⟨W3,hW3⟩:∃ W3,W3=(((w3.setCell { block:=b,off:=1 } (Value.int IntKind.i64 (↑k + ↑rx.size))).alloc (Obj.cells #[Value.int IntKind.u8 rk,Value.string rx,Value.int IntKind.i64 rw0,Value.int IntKind.i64 ↑k] 111)).alloc (Obj.cells #[Value.int IntKind.i64 ra,Value.int IntKind.i64 rr] 36)).drew:=⟨_,rfl⟩
      rw [← hW3]
      have hsc3:Sc w3 b s k 0 0:=HSC.out.below HB3.out hbr
      have hk3:Keep (fun k _=>k≠b) w3 W3:=by
       rw [hW3]
       have h:=(((Keep.refl (fun k _=>k≠b) w3).setCell (p:=⟨b,1,none⟩) (.int .i64 (↑k + ↑rx.size)) hsc3 (fun h=>h rfl)).alloc (Obj.cells #[Value.int IntKind.u8 rk,Value.string rx,Value.int IntKind.i64 rw0,Value.int IntKind.i64 ↑k] 111)).alloc (Obj.cells #[Value.int IntKind.i64 ra,Value.int IntKind.i64 rr] 36)
       exact ⟨h.os,h.tape,h.output,h.size,h.block⟩
      have hscW:Sc W3 b s ((k+rx.size:Nat):Int) 0 0:=by
       rw [hW3,Int.natCast_add]
       exact (((hsc3.setAt ((k:Int)+(rx.size:Int))).alloc (Obj.cells #[Value.int IntKind.u8 rk,Value.string rx,Value.int IntKind.i64 rw0,Value.int IntKind.i64 ↑k] 111)).alloc (Obj.cells #[Value.int IntKind.i64 ra,Value.int IntKind.i64 rr] 36) :)
      have hz0:=hB.out.size
      have hz0':=HW.out.size
      have hz3:=HB3.out.size
      have hz4:=hk3.size
      have hgb:w1.heap.size≠b:=fun e=>by
       have h1:=HFM.out
       have h2:=HSC.out
       unfold Fm at h1
       rw [e,show wr.heap[b]? = _ from h2] at h1
       simp at h1
      have hgl:w1.heap.size<wr.heap.size:=(Array.getElem?_eq_some_iff.1 HFM.out).1
      have hfmW:Fm W3 w1.heap.size b:=hk3.block _ _ ((HB3.out.block _ hgl).trans HFM.out) hgb
      have hBW:Below w0.heap.size w0 W3:=(hB.out.trans (HB3.out.mono (by have:=HW.out.size;omega))).trans (hk3.below (by omega) (fun k _ hk=>by omega))
      have hJ3:J pre W3:=HJ.out _ _ _ (HJ.out _ _ _ hj.out (keepO_below HB3.out)) (keepO_ne hk3 hsc3 hbn)
      have hok:okR s pre (nextR s k):=⟨(goH s f (nx s k)).1,by rw [hfr.out.1,hg.out];simp⟩
      obtain ⟨fn,tmps,assign,body,hy,hRd⟩:=HY.out pre _ W3 hJ3 hok
      rw [← hR.out] at hy
      rw [show (Instr.yield l #[Value.agg #[Value.int IntKind.u8 rk,Value.string rx,Value.int IntKind.i64 rw0,Value.int IntKind.i64 ↑k]]).run Tryz.prog W3=_ from hy]
      have HSW:=Lib.hid hscW
      have HFW:=Lib.hid hfmW
      have HBW:=Lib.hid hBW
      clear hy hscW hfmW hBW hk3 hW3 hsc3 hgb hJ3
      refine ⟨(by intro h;cases h),hRd.mono ?_⟩
      rintro e W4 (⟨rfl,hj4,hk4⟩ | ⟨rfl,hj4,hk4⟩)
      · have hsc4 : Sc W4 b s ((k + rx.size : Nat) : Int) 0 0 := HSW.out.keep hk4 (.inr (.inl ⟨_, _, rfl⟩))
        have HS4:=Lib.hid hsc4
        have HF4:Hid (Fm W4 w1.heap.size b):=hk4.block _ _ HFW.out (.inr (.inr ⟨_,_,rfl⟩))
        have HB4:Hid (Below w0.heap.size w0 W4):=HBW.out.trans (hk4.below (by omega) (fun k _ hk=>.inl hk))
        have HJ4:=Lib.hid hj4
        have hw4:w0.heap.size≤W4.heap.size:=HB4.out.size
        clear hj4 hk4 hRd
        gi_wp2_with ((refine ⟨trivial,(by intro h;cases h),?_⟩);gi_at_call 120;refine (callsIn_wide.2 (pass_any b s (k+rx.size) 0 0 W4 (by omega) q2 HS4.out)).mono ?_;rintro e w5 ⟨rfl,hs5,hk5,hz5⟩;have HS5:=Lib.hid hs5;have HK5:=Lib.hid hk5;clear hs5 hk5 hz5)
        go_roundw
        case rel =>
         refine ⟨pre++[nextR s k],nx s k,f,hnx2.out,by have:=hnx3.out;omega,?_,?_,?_,⟨?_,?_⟩,?_⟩
         · rw [hnx.out];exact HS5.out
         · exact HK5.out.block _ _ HF4.out (by
          intro e
          have h1:=HF4.out
          have h2:=HS4.out
          unfold Fm at h1
          rw [e,show W4.heap[b]? = _ from h2] at h1
          simp at h1)
         · exact HB4.out.trans (HK5.out.below (by omega) (fun k _ hk=>by omega))
         · rw [hfr.out.1,hg.out];simp
         · rw [hfr.out.2,hg.out]
         · exact HJ.out _ _ _ HJ4.out (keepO_ne HK5.out HS4.out hbn)
        case measure =>
         have h5:=HS5.out.atOf
         have h6:=HSC.out.atOf
         rw [h5,h6]
         omega
      · have HJ4 := Lib.hid hj4
        clear hj4 hk4 hRd
        gi_wp2
        refine bodyPost_ret (results_none rfl _ _ _) rfl ⟨⟨_,rfl⟩,.inr ⟨_,trivial,HJ4.out⟩⟩
  · have hd : Hid (Sc (wr.drewN 0) b s k 0 0) := HSC.out
    gi_wp2
    gi_quiet (fail)
    gi_wp2
    go_end0
    refine ⟨⟨_,rfl⟩,.inl ⟨pre,⟨?_,k,?_⟩,HJ.out _ _ _ hj.out (keep_drew _ _ _)⟩⟩
    · rw [hfr.out.1,goH_end hlt,List.append_nil]
    · rw [hfr.out.2, goH_end hlt]
      exact HSC.out
open Go.RowKit Go.Shelf
set_option linter.unusedVariables false
attribute [local go_sem] Oper.semAt_some
def tokCells (r:Res):List Value:=[.int .u8 r.kind,.string r.text,.int .i64 r.wd,.int .i64 r.place]
def rowR (xs:List Res):List Value:=xs.flatMap tokCells
theorem rowR_snoc (xs:List Res) (x:Res):rowR (xs++[x])=rowR xs++tokCells x:=by
 simp [rowR]
def selC (n:Nat) (k:Nat) (o:Obj):Prop:=k<n∨(o.isCells=true∧¬ IsTy 138 o)
def selB (n:Nat) (k:Nat) (o:Obj):Prop:=selY n k o∨o.isCells=false
theorem boxC {W W':World} {B n:Nat} {t:TypeId} {v:Value} (h:Boxed W B t v) (hk:Keep (selC n) W W') (ht:t≠138):Boxed W' B t v :=
 hk.block _ _ h (.inr ⟨rfl,not_ty ht⟩)
theorem ownsRow_keep {W W':World} {sel:Nat→Obj→Prop} {base:Nat} {e:TypeId} {size:Nat} {v:Value} {k:Nat} {xs:List Value} (h:W.ownsRow base e size v k xs) (hk:Keep sel W W') (hs:∀ g cs,base≤g→sel g (.cells cs e (0,0))):W'.ownsRow base e size v k xs:=by
 refine ⟨h.1,?_⟩
 rcases h.2 with h2 | ⟨g,cap,cur,hv,hb,hg,rest⟩
 · exact .inl h2
 · exact .inr ⟨g,cap,cur,hv,hb,hk.block _ _ hg (hs _ _ hb),rest⟩
def TokBox (W:World) (B:Nat) (x:Res):Prop:=W.heap[B]? = some (.cells #[.int .u8 x.kind,.string x.text,.int .i64 x.wd,.int .i64 x.place] 111 (0,0))
def Lst (n₀ B:Nat) (pre:List Res) (W:World):Prop :=
 ∃ v,Boxed W B 98 v∧W.ownsRow n₀ 111 4 v pre.length (rowR pre)∧(v=.slice none 0 0↔pre=[])
theorem Lst.keepC {n₀ B n:Nat} {pre:List Res} {W W':World} (h:Lst n₀ B pre W) (hk:Keep (selC n) W W'):Lst n₀ B pre W':=by
 obtain ⟨v,h1,h2,h3⟩:=h
 exact ⟨v,boxC h1 hk (by decide),ownsRow_keep h2 hk (fun g cs _=>.inr ⟨rfl,not_ty (by decide)⟩),h3⟩
theorem infoTok:(Tryz.prog.info? 111).map (fun i=>(i.zero,i.size,i.bytes))=some (some (.agg #[.int .u8 0,.string ⟨#[]⟩,.int .i64 0,.int .i64 0]),4,40):=by kernel_rfl
theorem goH_len (s:ByteArray):∀ (f q:Nat),q≤s.size→(goH s f q).1.length≤s.size-q
 | 0,q,h=>Nat.zero_le _
 | f + 1, q, h => by
   by_cases hq:q<s.size
   · by_cases hr : (nextR s q).fr = 0
     · rw [goH_tok hq hr]
       obtain ⟨g1,g2,_⟩:=nextR_good s q hq hr
       have g3:nx s q≤s.size:=by
        have:=passN_le _ (bytesFrom s (q+(nextR s q).text.size)) (Nat.le_refl _)
        rw [from_len] at this
        unfold nx
        omega
       have g4:q+(nextR s q).text.size≤nx s q:=by unfold nx;omega
       have:=goH_len s f (nx s q) g3
       simp only [List.length_cons]
       omega
     · rw [goH_fault hq hr];exact Nat.zero_le _
   · rw [goH_end hq];exact Nat.zero_le _
theorem front_len (s:ByteArray):(frontR s).1.length≤s.size:=by
 have:=passN_le _ (bytesFrom s 0) (Nat.le_refl _)
 rw [from_len] at this
 have:=goH_len s (s.size+1) (passN (bytesFrom s 0)) (by omega)
 unfold frontR
 omega
theorem okR_len {s:ByteArray} {pre:List Res} {x:Res} (h:okR s pre x) (hs:s.size≤65536):pre.length+1≤65536:=by
 obtain ⟨t,ht⟩:=h
 have:=congrArg List.length ht
 have:=front_len s
 simp at *
 omega
theorem cell_four {W:World} {g:Nat} {a b c d:Value} {t:TypeId} (h:W.heap[g]? = some (.cells #[a,b,c,d] t (0,0))) (j:Nat) (u:Value) (hj:[a,b,c,d][j]? = some u):W.cell? ((⟨g,0,none⟩:Addr).add j)=some u:=by
 obtain ⟨⟨h0,h1,h2,h3⟩,_⟩:=row4 h
 match j,hj with
 | 0,hj=>cases hj;exact h0
 | 1,hj=>cases hj;exact h1
 | 2,hj=>cases hj;exact h2
 | 3,hj=>cases hj;exact h3
theorem appended_keep {sel:Nat→Obj→Prop} {W w1:World} {n₀ B:Nat} {v v':Value} {k:Nat} {xs:List Value} {tmp:Obj}
 (hrow:W.ownsRow n₀ 111 4 v k xs) (hgrow:(W.alloc tmp).grownBy w1 v.ownBlock) (hv1:Boxed w1 B 98 v) (hs:∀ g cs,n₀≤g→¬ sel g (.cells cs 111 (0,0))) (hs2:∀ cs,¬ sel B (.cells cs 98 (0,0))) :
 Keep sel W (w1.setCell ⟨B,0,none⟩ v'):=by
 refine (((Keep.refl sel W).alloc tmp).grown hgrow fun r o er ho=>?_).setCell (p:=⟨B,0,none⟩) v' hv1 (hs2 _)
 rcases (hrow.alloc tmp).2 with ⟨rfl,_⟩ | ⟨g,cap,cur,rfl,hb,hgb,_⟩
 · simp [Value.ownBlock] at er
 · obtain rfl : g = r := by simpa [Value.ownBlock] using er
   rw [hgb] at ho;cases ho
   exact hs _ _ hb
theorem notB {n g:Nat} {cs:Array Value} {t:TypeId} (hn:n≤g) (h1:t≠138) (h2:t≠180):¬ selB n g (.cells cs t (0,0)):=fun h=>by
 rcases h with (h | h | h) | h
 · omega
 · exact not_ty h1 h
 · exact not_ty h2 h
 · cases h
end Go.Proofs.YtggbkldniffbfaaGreatDoor

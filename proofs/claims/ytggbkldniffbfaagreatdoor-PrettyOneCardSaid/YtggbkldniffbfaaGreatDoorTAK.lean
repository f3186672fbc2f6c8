/- The proof, part 11: texts that belong together, in one. -/
import Derived.Test.YtggbkldniffbfaaGreatDoorTAJ
import Derived.Deep.LoopGhost
import Derived.Laws.OwnMore
set_option maxRecDepth 100000
set_option maxHeartbeats 20000000
namespace Go.Proofs.YtggbkldniffbfaaGreatDoor
open Go.RowKit
set_option linter.unusedVariables false
theorem opnd_step {n:Nat} (H1:OpndC n) (H2:BinC n):OpndC (n+1):=by
 intro c w k d R h0 h1 hn
 by_cases hk:k<c.toks.length
 · have hat := at_nx hk
   have hl:(c.at k).length=(c.at (k+1)).length+1:=by rw [hat];rfl
   rw [hat]
   simp only [opnd]
   by_cases k3:(c.nx k).kind=3
   · rw [if_pos k3]
     exact (o_number R d k3).mono fun e w' ⟨he,hf,hr⟩=>⟨hf,_,k+1,he,⟨none,0,rfl,.inl rfl⟩,hr,rfl⟩
   rw [if_neg k3]
   by_cases k1:(c.nx k).kind=1
   · rw [if_pos k1]
     exact (o_name R d k1).mono fun e w' ⟨he,hf,hr⟩=>⟨hf,_,k+1,he,⟨none,0,rfl,.inl rfl⟩,hr,rfl⟩
   rw [if_neg k1]
   by_cases q1:(c.nx k).tx=[45]
   · rw [if_pos q1]
     by_cases hd:d=64
     · subst hd
       rw [if_pos rfl]
       exact o_minus R 64 _ ⟨k3,k1,q1⟩ fun W RW=>(p_unary_bad RW (c.nx k) c.bm 17 RW.s.b1 RW.s.b2).mono fun e w' ⟨he,hf⟩=>⟨hf,he⟩
     · rw [if_neg hd]
       exact o_minus R d _ ⟨k3,k1,q1⟩ fun W RW=>p_unary H1 RW (c.nx k) d 17 c.bm h0 (by omega) (by omega) RW.s.b1 RW.s.b2 RW.s.ne.2.2.2.1 RW.s.ne.2.2.2.2.1
   rw [if_neg q1]
   by_cases q2:(c.nx k).tx=[33]
   · rw [if_pos q2]
     by_cases hd:d=64
     · subst hd
       rw [if_pos rfl]
       exact o_not R 64 _ ⟨k3,k1,q2⟩ fun W RW=>(p_unary_bad RW (c.nx k) c.bn 18 RW.s.b3 RW.s.b4).mono fun e w' ⟨he,hf⟩=>⟨hf,he⟩
     · rw [if_neg hd]
       exact o_not R d _ ⟨k3,k1,q2⟩ fun W RW=>p_unary H1 RW (c.nx k) d 18 c.bn h0 (by omega) (by omega) RW.s.b3 RW.s.b4 RW.s.ne.2.2.2.2.2.1 RW.s.ne.2.2.2.2.2.2
   rw [if_neg q2]
   by_cases q3:(c.nx k).tx=[40]
   · rw [if_pos q3]
     by_cases hd:d=64
     · subst hd
       rw [if_pos rfl]
       exact o_paren R 64 _ ⟨k3,k1,q3⟩ fun W RW=>(p_inner_bad RW (c.nx k)).mono fun e w' ⟨he,hf⟩=>⟨hf,he⟩
     · rw [if_neg hd]
       exact o_paren R d _ ⟨k3,k1,q3⟩ fun W RW=>p_inner H2 RW (c.nx k) d h0 (by omega) (by omega)
   rw [if_neg q3]
   exact (o_none R d ⟨k3,k1,q1,q2,q3⟩).mono fun e w' ⟨he,hf⟩=>⟨hf,by rw [he,hat];rfl⟩
 · have hat := Par.at_end (c := c) (k := k) (by omega)
   have hnx:c.nx k=⟨0,⟨#[]⟩,0,c.L⟩:=by unfold Par.nx;rw [hat]
   rw [hat]
   simp only [opnd]
   exact (o_none R d (by rw [hnx];exact ⟨by show ¬ (0:Int)=3;decide,by show ¬ (0:Int)=1;decide,by show ¬ ([]:Bs)=[45];decide,by show ¬ ([]:Bs)=[33];decide,by show ¬ ([]:Bs)=[40];decide⟩)).mono fun e w' ⟨he,hf⟩=>⟨hf,by rw [he,hat];rfl⟩
theorem fnd_bd (l:Bs):0≤(fnd l).1∧(fnd l).1≤16∧((fnd l).2=true→1≤(fnd l).1):=by
 have key:∀ n k,1≤k→k+n≤17→0≤(fndFrom l n k).1∧(fndFrom l n k).1≤16∧((fndFrom l n k).2=true→1≤(fndFrom l n k).1):=by
  intro n
  induction n with
  | zero=>intro k _ _;exact ⟨Int.le_refl _,by show (0:Int)≤16;decide,fun h=>by cases h⟩
  | succ n ih =>
    intro k h1 h2
    simp only [fndFrom]
    split
    · exact ⟨by simp only;omega,by simp only;omega,fun _=>by simp only;omega⟩
    · exact ih (k+1) (by omega) (by omega)
 exact key 16 1 (by omega) (by omega)
theorem level_fnd (l:Bs):levelOf (fnd l).1=levelI (fnd l).1:=by
 have:=fnd_bd l
 unfold levelOf levelI
 rw [if_neg (by omega)]
 rfl
theorem level_bd {o:Int} (h0:1≤o) (h1:o≤16):1≤levelI o∧levelI o≤8:=by
 have:o=1∨o=2∨o=3∨o=4∨o=5∨o=6∨o=7∨o=8∨o=9∨o=10∨o=11∨o=12∨o=13∨o=14∨o=15∨o=16:=by omega
 rcases this with rfl | rfl | rfl | rfl | rfl | rfl | rfl | rfl | rfl | rfl | rfl | rfl | rfl | rfl | rfl | rfl <;> decide
theorem fnd_nil:fnd []=(0,false):=by decide
def Par.op (c:Par) (k:Nat):Int × Bool:=fnd (c.nx k).tx
def goesOn (c:Par) (k:Nat) (v:Int):Bool:=(c.op k).2&&decide (v≤levelI (c.op k).1)
theorem binL_stop {c:Par} {k n:Nat} {v d:Int} {e:Ex} (h:goesOn c k v=false):binL fnd c.L (n+1) v d e (c.at k)=.ok e (c.at k):=by
 by_cases hk:k<c.toks.length
 · rw [at_nx hk]
   simp only [binL]
   rw [if_neg]
   intro hh
   unfold goesOn Par.op at h
   rw [hh.1] at h
   simp at h
   omega
 · rw [Par.at_end (by omega)];rfl
theorem binL_go {c:Par} {k n:Nat} {v d:Int} {e:Ex} (h:goesOn c k v=true):k<c.toks.length∧binL fnd c.L (n+1) v d e (c.at k)=(binE fnd c.L n (levelI (c.op k).1+1) d (c.at (k+1))).then fun f r=>binL fnd c.L n v d (biX (c.op k).1 (c.nx k).pos e f) r:=by
 unfold goesOn at h
 simp only [Bool.and_eq_true,decide_eq_true_eq] at h
 have hk:k<c.toks.length:=nx_lt (.inr (fun e0=>by
  have:=h.1
  unfold Par.op at this
  rw [e0,fnd_nil] at this
  cases this))
 refine ⟨hk,?_⟩
 rw [at_nx hk]
 simp only [binL]
 rw [if_pos]
 · rfl
 · exact h
structure BinS (c:Par) (w:World) (b7:Nat) (e1:Ex) (a5:Option Addr) (cap5:Nat) (W:World) (j:Nat):Prop where
 run:At c w W j
 left:Own W b7 30 #[.int .u8 e1.kind,.int .u8 e1.op,.int .i64 e1.wd,.string e1.name,.slice a5 e1.kids.length cap5,.int .i64 e1.pos]
 res:Own W w.heap.size 30 zEx
 tree:exsAt (fun b=>w.heap.size<b∧b≠b7) W e1.kids a5
section
variable {c:Par} {w W W':World} {b7:Nat} {e1:Ex} {a5:Option Addr} {cap5 j k2:Nat}
theorem BinS.below (h:BinS c w b7 e1 a5 cap5 W j) (hb:Below W.heap.size W W'):BinS c w b7 e1 a5 cap5 W' j :=
 ⟨h.run.below hb,h.left.below hb,h.res.below hb,exsAt_stays (stays_below hb) (fun b hb=>hb) h.tree⟩
theorem BinS.alloc (h:BinS c w b7 e1 a5 cap5 W j) (o:Obj):BinS c w b7 e1 a5 cap5 (W.alloc o) j:=h.below ((Below.refl _ W).alloc (Nat.le_refl _) o)
theorem BinS.step (h:BinS c w b7 e1 a5 cap5 W j) (hj:j<c.toks.length) (hX:c.X<w.heap.size) (h7:w.heap.size<b7):BinS c w b7 e1 a5 cap5 (W.setCell ⟨c.X,2,none⟩ (.int .i64 ((j:Int)+1))) (j+1) :=
 ⟨h.run.step hj,h.left.setX 2 _ (by omega),h.res.setX 2 _ (by omega),exsAt_stays (stays_setX W 2 _ (fun b hb=>by omega)) (fun b hb=>hb) h.tree⟩
theorem BinS.call (h:BinS c w b7 e1 a5 cap5 W j) (hf:Fr c W W') (hp:Rd c W' k2) (hX:c.X<w.heap.size) (h7:w.heap.size<b7):BinS c w b7 e1 a5 cap5 W' k2 :=
 ⟨h.run.call hf hp,h.left.fr hf (by omega),h.res.fr hf (by omega),exsAt_stays (stays_fr hf (fun b hb=>by omega)) (fun b hb=>hb) h.tree⟩
end
def BinI (c:Par) (w:World) (b7:Nat) (v d:Int) (Y:PR Ex) (m:Nat) (W:World):Prop :=
 ∃ (j:Nat) (e1:Ex) (a5:Option Addr) (cap5:Nat),BinS c w b7 e1 a5 cap5 W j∧binL fnd c.L m v d e1 (c.at j)=Y∧3*(c.at j).length+1≤m
theorem p_binary {n:Nat} (H:∀ m,m<n+1→OpndC m∧BinC m):BinC (n+1):=by
 intro c w k v d R v0 v1 h0 h1 hn
 obtain ⟨Y0,hY0⟩:∃ Y0,Y0=opnd fnd c.L n d (c.at k):=⟨_,rfl⟩
 have HC:Hid (∀ W,Rd c W k→Calls Tryz.prog 106 #[c.ptr,.int .i64 d] W (RdPost c W Y0 (exR W.heap.size))):=fun W RW=>by rw [hY0];exact (H n (by omega)).1 c W k d RW h0 h1 (by omega)
 have HY:Hid (∀ e r,Y0=.ok e r→r.length<(c.at k).length):=fun e r h=>opnd_short (hY0.symm.trans h)
 have HB:Hid (∀ (m:Nat) (W:World) (j:Nat) (x:Int),m<n+1→Rd c W j→1≤x→x≤9→3*(c.at j).length+2≤m→Calls Tryz.prog 64 #[c.ptr,.int .i64 x,.int .i64 d] W (RdPost c W (binE fnd c.L m x d (c.at j)) (exR W.heap.size))):=fun m W j x hm RW h2 h3 h4=>(H m hm).2 c W j x d RW h2 h3 h0 h1 h4
 simp only [binE]
 rw [← hY0]
 have A0:=Lib.hid ((At.start R).alloc (.cells zEx 30))
 have O0:=Own.new w 30 zEx
 have HR:=Lib.hid R
 have hX:=Lib.hid R.lt
 have HN:=Lib.hid hn
 clear hY0 H R hn
 unfold Par.ptr zEx at *
 go_enter Tryz.func64,Tryz.ntmps64
 go_wp2_with fail
 go_at_call 106
 refine (HC.out _ (A0.out.rd HR.out)).mono ?_
 rintro e w1 ⟨hf1,hm⟩
 rcases Y0 with ⟨e0,r0⟩ | ⟨p,q⟩
 rotate_left
 · obtain rfl := hm
   have A1:=Lib.hid (A0.out.fr.trans hf1)
   clear hf1
   go_wp2_with fail
   exact ⟨rfl,A1.out,rfl⟩
 obtain ⟨v1,k1,rfl,⟨a4,cap4,rfl,hV⟩,hR1,rfl⟩:=hm
 have hlen:=HY.out _ _ rfl
 have hXX:=hX.out
 have l0:=O0.lt
 have B0:Hid (BinI c w w1.heap.size v d (binL fnd c.L n v d e0 (c.at k1)) n (w1.alloc (.cells #[.int .u8 e0.kind,.int .u8 e0.op,.int .i64 e0.wd,.string e0.name,.slice a4 e0.kids.length cap4,.int .i64 e0.pos] 30))):=by
  refine ⟨k1,e0,a4,cap4,⟨(A0.out.call hf1 hR1).alloc _,Own.new w1 _ _,(O0.fr hf1 (by omega)).alloc _,?_⟩,rfl,by have:=HN.out;omega⟩
  exact exsAt_mono (exsAt_stays (stays_alloc _ w1 _) (fun b hb=>hb) (exsAt_in hV)) (fun b hb=>by have h1:=hb.1;have h2:=hb.2;simp at h1;omega)
 have hw1:=Lib.hid (show w.heap.size<w1.heap.size by have:=Keep.size hf1;omega)
 have HM:=Lib.hid (show n<n+1 by omega)
 obtain ⟨Y,hY⟩:∃ Y,Y=binL fnd c.L n v d e0 (c.at k1):=⟨_,rfl⟩
 rw [← hY] at B0
 have HYY:=Lib.hid hY.symm
 clear hf1 hV hR1 hlen hXX l0 O0 A0 hY HY HC
 go_wp2_with fail
 go_loopg [] n (fun m W=>m<n+1∧BinI c w w1.heap.size v d Y m W)
 case atStart=>exact ⟨HM.out,B0.out⟩
 case round =>
  obtain ⟨hm,j,e1,a5,cap5,S1,hL,hfu⟩:=hrel
  obtain ⟨m,rfl⟩:∃ m,gk=m+1:=⟨gk-1,by omega⟩
  have hj6:j≤65536:=by have:=HR.out.s.small.1;have:=S1.run.le;omega
  have HS1:=Lib.hid S1
  have HFU:=Lib.hid hfu
  have HMM:=Lib.hid hm
  have HL:=Lib.hid hL
  have HNX:=Lib.hid (p_next (S1.run.rd HR.out))
  obtain ⟨t,ht⟩:∃ t,t=c.nx j:=⟨_,rfl⟩
  have HT:=Lib.hid ht
  rw [← ht] at HNX
  clear S1 hfu hm hL ht
  obtain ⟨tk,tx,tw,tp⟩:=t
  have HOP:Hid (fnd tx.data.toList=c.op j):=by show fnd tx.data.toList=fnd (c.nx j).tx;rw [← HT.out];rfl
  obtain ⟨op,hop⟩:∃ op,op=(c.op j).1:=⟨_,rfl⟩
  obtain ⟨is,his⟩:∃ is,is=(c.op j).2:=⟨_,rfl⟩
  have HFN:Hid (∀ W,Tabs W→Calls Tryz.prog 107 #[.string tx] W fun e w'=>e=.returned (.tuple #[.int .u8 op,.bool is])∧Below W.heap.size W w'):=fun W TW=>by
   have:=find_any tx W TW
   rw [HOP.out,← hop,← his] at this
   exact this
  have hb:=fnd_bd (c.nx j).tx
  have hlv:levelOf op=levelI op:=by rw [hop];exact level_fnd _
  have ho0:0≤op:=by rw [hop];exact hb.1
  have ho1:op≤16:=by rw [hop];exact hb.2.1
  have hoi:is=true→1≤op:=by rw [hop,his];exact hb.2.2
  have HG:Hid (goesOn c j v=(is&&decide (v≤levelI op))):=by unfold goesOn;rw [Hid,← hop,← his]
  obtain ⟨lv,hlvv⟩:∃ lv,lv=levelI op:=⟨_,rfl⟩
  have HLV:Hid (∀ W,Tabs W→Calls Tryz.prog 103 #[.int .u8 op] W fun e w'=>e=.returned (.int .i64 lv)∧W=w'):=fun W TW=>by
   have:=level_any op ho0 (by omega) W TW
   rw [hlv,← hlvv] at this
   exact this
  rw [← hlvv] at HG
  have hlb:Hid (is=true→1≤lv∧lv≤8):=fun h=>by rw [hlvv];exact level_bd (hoi h) ho1
  have HOP2:=Lib.hid (And.intro hop hlvv)
  clear hop his hb hlv hoi hlvv
  unfold tkV at *
  go_wp2_with fail
  go_at_call 52
  refine (HNX.out).mono ?_
  rintro e w2 ⟨rfl,hb⟩
  have S2:=Lib.hid ((HS1.out.below hb).alloc (.cells #[.int .u8 tk,.string tx,.int .i64 tw,.int .i64 tp] 111))
  have T2:=Lib.hid (Own.new w2 111 #[.int .u8 tk,.string tx,.int .i64 tw,.int .i64 tp])
  have hz2:=Lib.hid (HS1.out.below hb).left.lt
  clear hb
  go_wp2_with fail
  go_at_call 107
  refine (HFN.out _ (S2.out.run.rd HR.out).s.tabs).mono ?_
  rintro e w3 ⟨rfl,hb⟩
  have S3:=Lib.hid (S2.out.below hb)
  have T3:=Lib.hid (T2.out.below hb)
  clear hb
  by_cases hg:goesOn c j v=true
  · obtain ⟨hjlt, hsp⟩ := binL_go (n := m) (d := d) (e := e1) hg
    rw [HG.out] at hg
    obtain ⟨rfl,hvl⟩:is=true∧v≤lv:=by simpa using hg
    obtain ⟨lv1,lv8⟩:=hlb.out rfl
    obtain ⟨Z,hZ⟩:∃ Z,Z=binE fnd c.L m (lv+1) d (c.at (j+1)):=⟨_,rfl⟩
    have hlen:(c.at j).length=(c.at (j+1)).length+1:=by rw [at_nx hjlt];rfl
    have HBC:Hid (∀ W,Rd c W (j+1)→Calls Tryz.prog 64 #[.pointer (some ⟨c.X,0,none⟩),.int .i64 (lv+1),.int .i64 d] W (RdPost c W Z (exR W.heap.size))):=fun W RW=>by
     rw [hZ];exact HB.out m W (j+1) (lv+1) (by have:=HMM.out;omega) RW (by omega) (by omega) (by have:=HFU.out;omega)
    have HSP:Hid (Y=Z.then fun f r=>binL fnd c.L m v d (biX op tp e1 f) r):=by
     rw [Hid,← HL.out,hsp,hZ,← HOP2.out.1,← HOP2.out.2,← HT.out]
    have HZL:Hid (∀ e r,Z=.ok e r→r.length<(c.at (j+1)).length):=fun e r h=>binE_short (hZ.symm.trans h)
    have HLEN:=Lib.hid hlen
    have HJ:=Lib.hid hjlt
    obtain ⟨⟨_,_,x2,_⟩,xf⟩:=S3.out.run.cells
    have S4:=Lib.hid (S3.out.step hjlt hX.out hw1.out)
    have hn3:=Lib.hid (show c.X≠w2.heap.size by have:=hX.out;have:=hw1.out;have:=hz2.out;omega)
    have T4:=Lib.hid (T3.out.setX 2 (.int .i64 ((j:Int)+1)) hn3.out)
    clear hg hsp hZ hlen hjlt
    go_wp2_with (first | (go_at_call 103;refine (HLV.out _ (S3.out.run.rd HR.out).s.tabs).mono ?_;rintro e w4 ⟨rfl,rfl⟩) | (go_at_call 103;refine (HLV.out _ (S4.out.run.rd HR.out).s.tabs).mono ?_;rintro e w4 ⟨rfl,rfl⟩))
    go_at_call 64
    refine (HBC.out _ (S4.out.run.rd HR.out)).mono ?_
    rintro e w5 ⟨hf5,hm5⟩
    rcases Z with ⟨e2,r2⟩ | ⟨p,q⟩
    rotate_left
    · obtain rfl := hm5
      have A5:=Lib.hid (S4.out.run.fr.trans hf5)
      clear hf5 x2 xf
      go_wp2_with fail
      refine ⟨rfl,?_⟩
      show RdPost c w (binL fnd c.L n v d e0 (c.at k1)) _ _ _
      rw [HYY.out,HSP.out]
      exact ⟨A5.out,rfl⟩
    obtain ⟨v2,k2,rfl,⟨a6,cap6,rfl,hV⟩,hR5,rfl⟩:=hm5
    have S5:=S4.out.call hf5 hR5 hX.out hw1.out
    have T5:=T4.out.fr hf5 hn3.out
    have S6:=Lib.hid ((S5.alloc (.cells #[.int .u8 e2.kind,.int .u8 e2.op,.int .i64 e2.wd,.string e2.name,.slice a6 e2.kids.length cap6,.int .i64 e2.pos] 30)).alloc (.cells #[.int .u8 e1.kind,.int .u8 e1.op,.int .i64 e1.wd,.string e1.name,.slice a5 e1.kids.length cap5,.int .i64 e1.pos,.int .u8 e2.kind,.int .u8 e2.op,.int .i64 e2.wd,.string e2.name,.slice a6 e2.kids.length cap6,.int .i64 e2.pos] 30))
    have O7:=(S5.alloc (.cells #[.int .u8 e2.kind,.int .u8 e2.op,.int .i64 e2.wd,.string e2.name,.slice a6 e2.kids.length cap6,.int .i64 e2.pos] 30)).left
    have N6:=Own.new w5 30 #[.int .u8 e2.kind,.int .u8 e2.op,.int .i64 e2.wd,.string e2.name,.slice a6 e2.kids.length cap6,.int .i64 e2.pos]
    have N7:=Own.new (w5.alloc (.cells #[.int .u8 e2.kind,.int .u8 e2.op,.int .i64 e2.wd,.string e2.name,.slice a6 e2.kids.length cap6,.int .i64 e2.pos] 30)) 30 #[.int .u8 e1.kind,.int .u8 e1.op,.int .i64 e1.wd,.string e1.name,.slice a5 e1.kids.length cap5,.int .i64 e1.pos,.int .u8 e2.kind,.int .u8 e2.op,.int .i64 e2.wd,.string e2.name,.slice a6 e2.kids.length cap6,.int .i64 e2.pos]
    rw [World.size_alloc] at N7
    have N7:=Lib.hid N7
    have t3:w5.cell? ⟨w2.heap.size,3,none⟩=some (.int .i64 tp):=by rw [cell_of_row w5 w2.heap.size 3 _ _ _ T5];rfl
    have hl5:=T5.lt
    have O77:=S6.out.left
    have hV5:=Lib.hid (exsAt_in hV)
    have hl7:=Lib.hid (And.intro S5.left.lt (show w1.heap.size<w2.heap.size from hz2.out))
    have hsz5:=Lib.hid (Keep.size hf5)
    have hk2:=Lib.hid (HZL.out _ _ rfl)
    clear hf5 hR5 hV S5 T5 x2 xf
    go_wp2_with (first | (refine ld rowEx rfl rfl rfl O7 rfl ?_) | (refine ld rowEx rfl rfl rfl N6 rfl ?_) | (refine st rowEx rfl rfl O77 rfl rfl (by rfl) (by rfl) (by kernel_rfl) ?_))
    go_roundg m
    case measure=>omega
    case rel =>
     have hx:=hX.out
     have h17:=hw1.out
     obtain ⟨h27,h37⟩:=hl7.out
     have h5:=hsz5.out
     have h2z:=hz2.out
     have h23:=T3.out.lt
     have h4s:w3.heap.size≤w5.heap.size:=by simpa using h5
     have S7:=S6.out.run.setRow (g:=w1.heap.size) (by omega) (by omega) #[.int .u8 4,.int .u8 op,.int .i64 0,.string ⟨#[]⟩,.slice (some ⟨w5.heap.size+1,0,none⟩) 2 2,.int .i64 tp]
     have st7:Stays (fun b=>w.heap.size<b∧b≠w1.heap.size) (w5.alloc (.cells #[.int .u8 e2.kind,.int .u8 e2.op,.int .i64 e2.wd,.string e2.name,.slice a6 e2.kids.length cap6,.int .i64 e2.pos] 30)) (((w5.alloc (.cells #[.int .u8 e2.kind,.int .u8 e2.op,.int .i64 e2.wd,.string e2.name,.slice a6 e2.kids.length cap6,.int .i64 e2.pos] 30)).alloc (.cells #[.int .u8 e1.kind,.int .u8 e1.op,.int .i64 e1.wd,.string e1.name,.slice a5 e1.kids.length cap5,.int .i64 e1.pos,.int .u8 e2.kind,.int .u8 e2.op,.int .i64 e2.wd,.string e2.name,.slice a6 e2.kids.length cap6,.int .i64 e2.pos] 30)).setRow w1.heap.size #[.int .u8 4,.int .u8 op,.int .i64 0,.string ⟨#[]⟩,.slice (some ⟨w5.heap.size+1,0,none⟩) 2 2,.int .i64 tp]):=(stays_alloc _ _ _).trans (stays_row _ _ (fun b hb=>by omega))
     have N8:=N7.out.other #[.int .u8 4,.int .u8 op,.int .i64 0,.string ⟨#[]⟩,.slice (some ⟨w5.heap.size+1,0,none⟩) 2 2,.int .i64 tp] (g:=w1.heap.size) (by omega)
     refine ⟨by have:=HMM.out;omega,k2,biX op tp e1 e2,some ⟨w5.heap.size+1,0,none⟩,2,⟨S7,S6.out.left.row _,S6.out.res.other _ (by omega),?_⟩,?_,?_⟩
     · refine .inr ⟨w5.heap.size + 1, 0, rfl, ⟨by omega, by omega⟩, ?_⟩
       have v1:=exsAt_stays (stays_row _ (g:=w1.heap.size) #[.int .u8 4,.int .u8 op,.int .i64 0,.string ⟨#[]⟩,.slice (some ⟨w5.heap.size+1,0,none⟩) 2 2,.int .i64 tp] (fun b hb=>by omega)) (fun b hb=>hb) S6.out.tree
       have v2:=exsAt_mono (exsAt_stays ((stays_alloc _ w5 (.cells #[.int .u8 e2.kind,.int .u8 e2.op,.int .i64 e2.wd,.string e2.name,.slice a6 e2.kids.length cap6,.int .i64 e2.pos] 30)).trans ((stays_alloc _ _ (.cells #[.int .u8 e1.kind,.int .u8 e1.op,.int .i64 e1.wd,.string e1.name,.slice a5 e1.kids.length cap5,.int .i64 e1.pos,.int .u8 e2.kind,.int .u8 e2.op,.int .i64 e2.wd,.string e2.name,.slice a6 e2.kids.length cap6,.int .i64 e2.pos] 30)).trans (stays_row _ (g:=w1.heap.size) #[.int .u8 4,.int .u8 op,.int .i64 0,.string ⟨#[]⟩,.slice (some ⟨w5.heap.size+1,0,none⟩) 2 2,.int .i64 tp] (fun b hb=>by have h1:=hb.1;simp at h1;omega)))) (fun b hb=>hb) hV5.out) (R':=fun b=>w.heap.size<b∧b≠w1.heap.size) (fun b hb=>by have h1:=hb.1;simp at h1;omega)
       refine ⟨exIn_of (vs:=exCells e1 a5 cap5) ⟨a5,cap5,rfl,v1⟩ ?_,exIn_of (vs:=exCells e2 a6 cap6) ⟨a6,cap6,rfl,v2⟩ ?_,trivial⟩
       · intro q u hq
         have hq6:q<6:=(List.getElem?_eq_some_iff.1 hq).1
         rw [Nat.zero_add,cell_of_row _ (w5.heap.size+1) q _ _ _ N8,← hq]
         have:q=0∨q=1∨q=2∨q=3∨q=4∨q=5:=by omega
         rcases this with rfl | rfl | rfl | rfl | rfl | rfl <;> rfl
       · intro q u hq
         have hq6:q<6:=(List.getElem?_eq_some_iff.1 hq).1
         rw [cell_of_row _ (w5.heap.size+1) (0+6+q) _ _ _ N8,← hq]
         have:q=0∨q=1∨q=2∨q=3∨q=4∨q=5:=by omega
         rcases this with rfl | rfl | rfl | rfl | rfl | rfl <;> rfl
     · rw [HSP.out];rfl
     · have h1 := hk2.out
       have h2:=HFU.out
       have h3:=HLEN.out
       omega
  · have hg' : goesOn c j v = false := by simpa using hg
    have hres:Hid (Y=.ok e1 (c.at j)):=by rw [Hid,← HL.out];exact binL_stop hg'
    have fin:∀ (W:World),W=w3→RdPost c w (binL fnd c.L n v d e0 (c.at k1)) (exR w.heap.size) (.returned (.agg #[.int .u8 e1.kind,.int .u8 e1.op,.int .i64 e1.wd,.string e1.name,.slice a5 e1.kids.length cap5,.int .i64 e1.pos])) (W.setRow w.heap.size #[.int .u8 e1.kind,.int .u8 e1.op,.int .i64 e1.wd,.string e1.name,.slice a5 e1.kids.length cap5,.int .i64 e1.pos]):=by
     rintro W rfl
     rw [HYY.out,hres.out]
     have hx:=hX.out
     have S4:=S3.out.run.setRow (Nat.le_refl _) (by omega) #[.int .u8 e1.kind,.int .u8 e1.op,.int .i64 e1.wd,.string e1.name,.slice a5 e1.kids.length cap5,.int .i64 e1.pos]
     exact ⟨S4.fr,_,j,rfl,⟨a5,cap5,rfl,exsAt_mono (exsAt_stays (stays_row W (g:=w.heap.size) #[.int .u8 e1.kind,.int .u8 e1.op,.int .i64 e1.wd,.string e1.name,.slice a5 e1.kids.length cap5,.int .i64 e1.pos] (fun b hb=>by omega)) (fun b hb=>hb) S3.out.tree) (fun b hb=>by omega)⟩,S4.rd HR.out,rfl⟩
    have O7:=S3.out.left
    have O6:=S3.out.res
    have fin:=Lib.hid fin
    rw [HG.out] at hg'
    clear hg
    cases is with
    | false =>
      clear hg'
      go_wp2_with (first | (refine ld rowEx rfl rfl rfl O7 rfl ?_) | (refine st rowEx rfl rfl O6 rfl rfl (by rfl) (by rfl) (by kernel_rfl) ?_))
      exact p_ret rowEx rfl (O6.row #[.int .u8 e1.kind,.int .u8 e1.op,.int .i64 e1.wd,.string e1.name,.slice a5 e1.kids.length cap5,.int .i64 e1.pos]) rfl rfl rfl (fin.out _ rfl)
    | true =>
      have hlt:lv<v:=by simpa using hg'
      clear hg'
      go_wp2_with (first | (go_at_call 103;refine (HLV.out _ (S3.out.run.rd HR.out).s.tabs).mono ?_;rintro e w4 ⟨rfl,rfl⟩) | (refine ld rowEx rfl rfl rfl O7 rfl ?_) | (refine st rowEx rfl rfl O6 rfl rfl (by rfl) (by rfl) (by kernel_rfl) ?_))
      exact p_ret rowEx rfl (O6.row #[.int .u8 e1.kind,.int .u8 e1.op,.int .i64 e1.wd,.string e1.name,.slice a5 e1.kids.length cap5,.int .i64 e1.pos]) rfl rfl rfl (fin.out _ rfl)
theorem exprs_step {n:Nat} (H:∀ m,m<n→OpndC m∧BinC m):OpndC n∧BinC n:=by
 cases n with
 | zero=>exact ⟨fun c w k d _ _ _ h=>by omega,fun c w k v d _ _ _ _ _ h=>by omega⟩
 | succ n=>exact ⟨opnd_step (H n (by omega)).1 (H n (by omega)).2,p_binary H⟩
theorem exprs_all (n:Nat):OpndC n∧BinC n:=by
 induction n using Nat.strongRecOn with
 | ind n ih=>exact exprs_step ih
theorem p_expression {c:Par} {w:World} {k n:Nat} (R:Rd c w k) (hn:3*(c.at k).length+2≤n) :
 Calls Tryz.prog 31 #[c.ptr] w (RdPost c w (binE fnd c.L n 1 0 (c.at k)) (exR w.heap.size)):=by
 obtain ⟨Y,hY⟩:∃ Y,Y=binE fnd c.L n 1 0 (c.at k):=⟨_,rfl⟩
 have HC:Hid (∀ W,Rd c W k→Calls Tryz.prog 64 #[c.ptr,.int .i64 1,.int .i64 0] W (RdPost c W Y (exR W.heap.size))):=fun W RW=>by
  rw [hY];exact (exprs_all n).2 c W k 1 0 RW (by omega) (by omega) (by omega) (by omega) hn
 rw [← hY]
 have A0:=Lib.hid ((At.start R).alloc (.cells zEx 30))
 have O0:=Own.new w 30 zEx
 have HR:=Lib.hid R
 have hX:=Lib.hid R.lt
 clear hY R hn
 unfold Par.ptr zEx at *
 go_enter Tryz.func31,Tryz.ntmps31
 go_wp2_with fail
 go_at_call 64
 refine (HC.out _ (A0.out.rd HR.out)).mono ?_
 rintro e w1 ⟨hf1,hm⟩
 rcases Y with ⟨e0,r0⟩ | ⟨p,q⟩
 rotate_left
 · obtain rfl := hm
   have A1:=Lib.hid (A0.out.fr.trans hf1)
   clear hf1
   go_wp2_with fail
   exact ⟨rfl,A1.out,rfl⟩
 obtain ⟨v1,k1,rfl,⟨a4,cap4,rfl,hV⟩,hR1,rfl⟩:=hm
 have hx:=hX.out
 have O1:=O0.fr hf1 (by omega)
 have A1:=Lib.hid (A0.out.call hf1 hR1)
 have HV:=Lib.hid hV
 clear hf1 hV hR1 hx
 go_wp2_with (first | (refine st rowEx rfl rfl O1 rfl rfl (by rfl) (by rfl) (by kernel_rfl) ?_))
 have hx:=hX.out
 have A2:=A1.out.setRow (Nat.le_refl _) (by omega) #[.int .u8 e0.kind,.int .u8 e0.op,.int .i64 e0.wd,.string e0.name,.slice a4 e0.kids.length cap4,.int .i64 e0.pos]
 refine p_ret rowEx rfl (O1.row #[.int .u8 e0.kind,.int .u8 e0.op,.int .i64 e0.wd,.string e0.name,.slice a4 e0.kids.length cap4,.int .i64 e0.pos]) rfl rfl rfl ?_
 exact ⟨A2.fr,_,k1,rfl,⟨a4,cap4,rfl,exsAt_mono (exsAt_stays (stays_row w1 (g:=w.heap.size) _ (fun b hb=>by simp at hb;omega)) (fun b hb=>hb) HV.out) (fun b hb=>by simp at hb;omega)⟩,A2.rd HR.out,rfl⟩
open Go.RowKit
set_option linter.unusedVariables false
theorem row_stays {W W':World} {base:Nat} {T:TypeId} {n:Nat} {v:Value} {k:Nat} {xs:List Value} (h:W.ownsRow base T n v k xs) (hw:∀ g,base≤g→v.ownBlock=some g→g<W.heap.size→W'.heap[g]? = W.heap[g]?):W'.ownsRow base T n v k xs:=by
 obtain ⟨h1,h2⟩:=h
 refine ⟨h1,?_⟩
 rcases h2 with h2 | ⟨g,cap,cur,rfl,hb,hg,rest⟩
 · exact .inl h2
 · exact .inr ⟨g,cap,cur,rfl,hb,(hw g hb rfl (Array.getElem?_eq_some_iff.1 hg).1).trans hg,rest⟩
theorem row_below {W W':World} {base:Nat} {T:TypeId} {n:Nat} {v:Value} {k:Nat} {xs:List Value} (h:W.ownsRow base T n v k xs) (hb:Below W.heap.size W W'):W'.ownsRow base T n v k xs:=row_stays h fun g _ _ hg=>hb.block g hg
theorem row_fr {c:Par} {W W':World} {base:Nat} {T:TypeId} {n:Nat} {v:Value} {k:Nat} {xs:List Value} (h:W.ownsRow base T n v k xs) (hf:Fr c W W') (hx:c.X<base):W'.ownsRow base T n v k xs :=
 row_stays h fun g hb _ hg=>by
  rw [hf.block (b:=g) (Array.getElem?_eq_getElem hg) (by omega),Array.getElem?_eq_getElem hg]
theorem row_row {W:World} {base:Nat} {T:TypeId} {n:Nat} {v:Value} {k:Nat} {xs:List Value} (h:W.ownsRow base T n v k xs) {g:Nat} (cs:Array Value) (hg:v.ownBlock≠some g):(W.setRow g cs).ownsRow base T n v k xs :=
 row_stays h fun b _ hb _=>setRow_other cs (fun e=>hg (by rw [← e];exact hb))
theorem row_shape {W:World} {base:Nat} {T:TypeId} {n:Nat} {v:Value} {k:Nat} {xs:List Value} (h:W.ownsRow base T n v k xs):∃ oa cap,v=.slice oa k cap∧(k≠0→∃ g,oa=some ⟨g,0,none⟩∧base≤g):=by
 rcases h.2 with ⟨rfl,rfl⟩ | ⟨g,cap,cur,rfl,hb,_⟩
 · exact ⟨none,0,rfl,fun h=>absurd rfl h⟩
 · exact ⟨_,cap,rfl,fun _=>⟨g,rfl,hb⟩⟩
theorem row_cells {W:World} {base:Nat} {T:TypeId} {n:Nat} {v:Value} {k:Nat} {xs:List Value} (h:W.ownsRow base T n v k xs) {g:Nat} (hg:v.ownBlock=some g):cellsIn W g 0 xs:=by
 intro j u hj
 have:=h.cells hg j u hj
 rw [show (⟨g,0,none⟩:Addr).add j=⟨g,0+j,none⟩ by by_cases h0:j=0 <;> simp [Addr.add,h0]] at this
 exact this
theorem grown_fr {c:Par} {w W W':World} {k:Nat} (A:At c w W k) {row:Option Nat} (hg:W.grownBy W' row) (hr:∀ r,row=some r→w.heap.size≤r∧r≠c.X):At c w W' k:=by
 refine ⟨Keep.grown A.fr hg (fun r o e _ hs=>by have:=hr r e;have:=hs.1;omega),?_,A.le⟩
 rw [hg.block c.X A.lt (fun e=>(hr c.X e.symm).2 rfl)]
 exact A.pos
theorem own_grown {W W':World} {b:Nat} {t:TypeId} {cs:Array Value} (h:Own W b t cs) {row:Option Nat} (hg:W.grownBy W' row) (hr:row≠some b):Own W' b t cs:=(hg.block b h.lt (fun e=>hr e.symm)).trans h
theorem stays_grown {R:Nat→Prop} {W W':World} {row:Option Nat} (hg:W.grownBy W' row) (hr:∀ b,R b→row≠some b):Stays R W W':=fun b o v hb hv=>by
 have e:=hg.block b (by have:=cell_lt hv;simpa using this) (fun e=>hr b hb e.symm)
 rw [← hv];simp only [World.cell?,e]
def dcVal (d:Dc):Value:=.agg #[.string d.name,.int .i64 d.wd,.int .i64 d.pos]
theorem p_name_ok {c:Par} {w:World} {k:Nat} (R:Rd c w k) (h:(c.nx k).kind=1) :
 Calls Tryz.prog 98 #[c.ptr] w fun e w'=>e=.returned (dcVal ⟨(c.nx k).text,0,(c.nx k).pos⟩)∧Fr c w w'∧Rd c w' (k+1):=by
 have HK:Hid (∀ W,Rd c W k→Calls Tryz.prog 125 #[c.ptr,.int .u8 1] W fun e w'=>e=.returned (tkV (c.nx k))∧Fr c W w'∧Rd c w' (k+1)):=fun W RW=>p_kind_ok RW 1 h (nx_lt (.inl (by rw [h];decide)))
 obtain ⟨t,ht⟩:∃ t,t=c.nx k:=⟨_,rfl⟩
 rw [← ht] at HK ⊢
 obtain ⟨tk,tx,tw,tp⟩:=t
 have A0:=Lib.hid ((At.start R).alloc (.cells zDc 53))
 have O0:=Own.new w 53 zDc
 have HR:=Lib.hid R
 have hX:=Lib.hid R.lt
 clear ht h R
 unfold tkV Par.ptr zDc dcVal at *
 go_enter Tryz.func98,Tryz.ntmps98
 go_wp2_with fail
 go_at_call 125
 refine (HK.out _ (A0.out.rd HR.out)).mono ?_
 rintro e w1 ⟨rfl,hf1,hR1⟩
 have hx:=hX.out
 have A1:=Lib.hid ((A0.out.call hf1 hR1).alloc (.cells #[.int .u8 tk,.string tx,.int .i64 tw,.int .i64 tp] 111))
 have O1:=(O0.fr hf1 (by omega)).alloc (.cells #[.int .u8 tk,.string tx,.int .i64 tw,.int .i64 tp] 111)
 clear hf1 hR1 hx O0
 go_wp2_with (first | (refine st rowDc rfl rfl O1 rfl rfl (by rfl) (by rfl) (by kernel_rfl) ?_))
 have hx:=hX.out
 have A2:=A1.out.setRow (Nat.le_refl _) (by omega) #[.string tx,.int .i64 0,.int .i64 tp]
 exact p_ret rowDc rfl (O1.row #[.string tx,.int .i64 0,.int .i64 tp]) rfl rfl rfl ⟨rfl,A2.fr,A2.rd HR.out⟩
theorem p_name_bad {c:Par} {w:World} {k:Nat} (R:Rd c w k) (h:¬ (c.nx k).kind=1) :
 Calls Tryz.prog 98 #[c.ptr] w fun e w'=>e=.panicked (flt (hdP c.L (c.at k)) 2)∧Fr c w w':=by
 have HK:Hid (∀ W,Rd c W k→Calls Tryz.prog 125 #[c.ptr,.int .u8 1] W fun e w'=>e=.panicked (flt (hdP c.L (c.at k)) 2)∧Fr c W w'):=fun W RW=>p_kind_bad RW 1 h
 have A0:=Lib.hid ((At.start R).alloc (.cells zDc 53))
 have HR:=Lib.hid R
 clear h R
 unfold Par.ptr zDc at *
 go_enter Tryz.func98,Tryz.ntmps98
 go_wp2_with (go_at_call 125;refine (HK.out _ (A0.out.rd HR.out)).mono ?_;rintro e w1 ⟨rfl,hf1⟩;have A1:=Lib.hid (A0.out.fr.trans hf1);clear hf1)
 exact ⟨rfl,rfl,A1.out⟩
theorem nameP_at {c:Par} {k:Nat} : nameP c.L (c.at k)=if (c.nx k).kind=1 then .ok ⟨(c.nx k).text,0,(c.nx k).pos⟩ (c.at (k+1)) else .bad (hdP c.L (c.at k)) 2:=by
 by_cases hk:k<c.toks.length
 · rw [at_nx hk]
   simp only [nameP,hdP]
 · have e := Par.at_end (c := c) (k := k) (by omega)
   have:c.nx k=⟨0,⟨#[]⟩,0,c.L⟩:=by unfold Par.nx;rw [e]
   rw [e,this]
   rfl
theorem numP_at {c:Par} {k:Nat} : numP c.L (c.at k)=if (c.nx k).kind=3 then .ok (c.nx k).wd (c.at (k+1)) else .bad (hdP c.L (c.at k)) 2:=by
 by_cases hk:k<c.toks.length
 · rw [at_nx hk]
   simp only [numP,hdP]
 · have e := Par.at_end (c := c) (k := k) (by omega)
   have:c.nx k=⟨0,⟨#[]⟩,0,c.L⟩:=by unfold Par.nx;rw [e]
   rw [e,this]
   rfl
theorem p_name {c:Par} {w:World} {k:Nat} (R:Rd c w k):Calls Tryz.prog 98 #[c.ptr] w (RdPost c w (nameP c.L (c.at k)) (fun d v _=>v=dcVal d)):=by
 rw [nameP_at]
 by_cases h:(c.nx k).kind=1
 · rw [if_pos h]
   exact (p_name_ok R h).mono fun e w' ⟨he,hf,hr⟩=>⟨hf,_,k+1,he,rfl,hr,rfl⟩
 · rw [if_neg h]
   exact (p_name_bad R h).mono fun e w' ⟨he,hf⟩=>⟨hf,he⟩
end Go.Proofs.YtggbkldniffbfaaGreatDoor

/- The proof, part 3: texts that belong together, in one. -/
import Derived.Test.YtmpljhfinmfnbaaGreatDoorQAB
set_option maxRecDepth 100000
set_option maxHeartbeats 20000000
namespace Go.Proofs.YtmpljhfinmfnbaaGreatDoor
open Go.RowKit
set_option linter.unusedVariables false
set_option maxRecDepth 100000
def formTx:List (List UInt8):=[[],[115,101,116],[],[108,111,97,100],[115,116,111,114,101],[115,119,97,112],[102,101,110,99,101],[112,114,105,110,116],[106,117,109,112],[122,101,114,111],[104,97,108,116]]
def opTx:List (List UInt8):=[[],[97,100,100],[115,117,98],[109,117,108],[100,105,118],[114,101,109],[97,110,100],[111,114],[120,111,114],[115,104,108],[115,104,114],[105,115],[105,115,110,111,116],[108,101,115,115],[109,111,115,116],[97,98,111,118,101],[108,101,97,115,116],[109,105,110,117,115],[110,111,116]]
structure TgT (W:World):Prop where
 lev:Tabs W
 nm:LNm W
 size:0<W.heap.size∧2<W.heap.size
 fw:∀ j:Nat,j<11→W.cell? ⟨0,j*2,none⟩=some (.string ⟨(formTx.getD j []).toArray⟩)
 fu:∀ j:Nat,j<11→W.cell? ⟨0,j*2+1,none⟩=some (.int .u64 (formU j))
 ow:∀ j:Nat,j<19→W.cell? ⟨2,j,none⟩=some (.string ⟨(opTx.getD j []).toArray⟩)
theorem Tabs.below {W W':World} (T:Tabs W) (h:Below W.heap.size W W'):Tabs W':=⟨Nat.lt_of_lt_of_le T.size1 h.size,fun i hi=>(h.cell (p:=⟨3,i,none⟩) T.size1).trans (T.lev i hi)⟩
theorem TgT.below {W W':World} (T:TgT W) (h:Below W.heap.size W W'):TgT W' :=
 ⟨T.lev.below h,T.nm.below (Nat.le_refl _) h,⟨Nat.lt_of_lt_of_le T.size.1 h.size,Nat.lt_of_lt_of_le T.size.2 h.size⟩,fun j hj=>(h.cell (p:=⟨0,j*2,none⟩) T.size.1).trans (T.fw j hj),fun j hj=>(h.cell (p:=⟨0,j*2+1,none⟩) T.size.1).trans (T.fu j hj),fun j hj=>(h.cell (p:=⟨2,j,none⟩) T.size.2).trans (T.ow j hj)⟩
theorem has_any (u f:Int) (w:World):Calls Tryz.prog 108 #[.int .u64 u,.int .u64 f] w fun e w'=>e=.returned (.bool (hasB u f))∧w=w':=by
 go_enter Tryz.func108,Tryz.ntmps108
 go_wp2
 go_ret
 exact ⟨rfl,rfl⟩
theorem within_any (n c:Int) (w:World):Calls Tryz.prog 103 #[.int .i64 n,.int .i64 c] w fun e w'=>e=.returned (.bool (inB n c))∧w=w':=by
 unfold inB
 by_cases h:0≤n
 · rw [decide_eq_true h, Bool.true_and]
   go_enter Tryz.func103,Tryz.ntmps103
   go_wp2
   go_ret
   exact ⟨rfl,rfl⟩
 · rw [decide_eq_false h, Bool.false_and]
   go_enter Tryz.func103,Tryz.ntmps103
   go_wp2
   go_ret
   exact ⟨rfl,rfl⟩
theorem isKind_any (k:Int) (w:World):Calls Tryz.prog 109 #[.int .u8 k] w fun e w'=>e=.returned (.bool (kB k))∧w=w':=by
 unfold kB
 by_cases h:0<k
 · rw [decide_eq_true h, Bool.true_and]
   go_enter Tryz.func109,Tryz.ntmps109
   go_wp2
   go_ret
   exact ⟨rfl,rfl⟩
 · rw [decide_eq_false h, Bool.false_and]
   go_enter Tryz.func109,Tryz.ntmps109
   go_wp2
   go_ret
   exact ⟨rfl,rfl⟩
theorem usedBy_any (i:Ins) (hg:rgI i) (w:World) (T:TgT w):Calls Tryz.prog 106 #[insV i] w fun e w'=>e=.returned (.int .u64 (uB i.k i.o))∧Below w.heap.size w w':=by
 obtain ⟨k,o,d,a,b,ad,tt,wd,fr⟩:=i
 obtain ⟨_,ho,_⟩:=hg
 simp only at ho
 have HK:Hid (∀ W,Calls Tryz.prog 109 #[.int .u8 k] W fun e w'=>e=.returned (.bool (kB k))∧W=w'):=fun W=>isKind_any k W
 have al:Below w.heap.size w (w.alloc (.cells #[.int .u8 k,.int .u8 o,.int .i64 d,.int .i64 a,.int .i64 b,.int .i64 ad,.int .i64 tt,.int .i64 wd,.int .i64 fr] 75)):=(Below.refl _ w).alloc (Nat.le_refl _) _
 have HT:Hid (Calls Tryz.prog 135 #[.int .u8 o] (w.alloc (.cells #[.int .u8 k,.int .u8 o,.int .i64 d,.int .i64 a,.int .i64 b,.int .i64 ad,.int .i64 tt,.int .i64 wd,.int .i64 fr] 75)) fun e w'=>e=.returned (.bool (twoB o))∧(w.alloc (.cells #[.int .u8 k,.int .u8 o,.int .i64 d,.int .i64 a,.int .i64 b,.int .i64 ad,.int .i64 tt,.int .i64 wd,.int .i64 fr] 75))=w'):=p_two o ho.1 ho.2 _ (T.lev.below al)
 have HB:=Lib.hid al
 show Calls _ _ #[.agg #[.int .u8 k,.int .u8 o,.int .i64 d,.int .i64 a,.int .i64 b,.int .i64 ad,.int .i64 tt,.int .i64 wd,.int .i64 fr]] w _
 simp only
 cases hk:kB k with
 | false =>
   rw [hk] at HK
   have hu:uB k o=0:=by unfold uB;rw [hk];rfl
   rw [hu]
   clear hu hk al T HT
   go_enter Tryz.func106,Tryz.ntmps106
   go_wp2_with (go_at_call 109;refine (HK.out _).mono ?_;rintro e w' ⟨rfl,rfl⟩)
   go_ret
   exact ⟨rfl,HB.out⟩
 | true =>
   rw [hk] at HK
   have hu:uB k o=(bif twoB o then formU k else (if k=2 then 7 else formU k)):=by unfold uB;rw [hk];rfl
   rw [hu]
   have hf:=T.fu
   have hz:=T.size.1
   clear T al hu ho
   rcases kB_iff.1 hk with rfl | rfl | rfl | rfl | rfl | rfl | rfl | rfl | rfl | rfl
   · have hc := hf 1 (by decide)
     change w.cell? ⟨0,3,none⟩=some (.int .u64 66) at hc
     clear hf hk
     generalize twoB o=tb at HT ⊢
     cases tb
     · show Calls _ _ _ _ fun e w' => e = .returned (.int .u64 66) ∧ _
       go_enter Tryz.func106,Tryz.ntmps106
       go_wp2_with (first | (go_at_call 109;refine (HK.out _).mono ?_;rintro e w' ⟨rfl,rfl⟩) | (go_at_call 135;refine (HT.out).mono ?_;rintro e w' ⟨rfl,rfl⟩))
       go_ret
       exact ⟨by first | rfl | kernel_rfl,HB.out⟩
     · show Calls _ _ _ _ fun e w' => e = .returned (.int .u64 66) ∧ _
       go_enter Tryz.func106,Tryz.ntmps106
       go_wp2_with (first | (go_at_call 109;refine (HK.out _).mono ?_;rintro e w' ⟨rfl,rfl⟩) | (go_at_call 135;refine (HT.out).mono ?_;rintro e w' ⟨rfl,rfl⟩))
       go_ret
       exact ⟨rfl,HB.out⟩
   · have hc := hf 2 (by decide)
     change w.cell? ⟨0,5,none⟩=some (.int .u64 15) at hc
     clear hf hk
     generalize twoB o=tb at HT ⊢
     cases tb
     · show Calls _ _ _ _ fun e w' => e = .returned (.int .u64 7) ∧ _
       go_enter Tryz.func106,Tryz.ntmps106
       go_wp2_with (first | (go_at_call 109;refine (HK.out _).mono ?_;rintro e w' ⟨rfl,rfl⟩) | (go_at_call 135;refine (HT.out).mono ?_;rintro e w' ⟨rfl,rfl⟩))
       go_ret
       exact ⟨by first | rfl | kernel_rfl,HB.out⟩
     · show Calls _ _ _ _ fun e w' => e = .returned (.int .u64 15) ∧ _
       go_enter Tryz.func106,Tryz.ntmps106
       go_wp2_with (first | (go_at_call 109;refine (HK.out _).mono ?_;rintro e w' ⟨rfl,rfl⟩) | (go_at_call 135;refine (HT.out).mono ?_;rintro e w' ⟨rfl,rfl⟩))
       go_ret
       exact ⟨rfl,HB.out⟩
   · have hc := hf 3 (by decide)
     change w.cell? ⟨0,7,none⟩=some (.int .u64 18) at hc
     clear hf hk
     generalize twoB o=tb at HT ⊢
     cases tb
     · show Calls _ _ _ _ fun e w' => e = .returned (.int .u64 18) ∧ _
       go_enter Tryz.func106,Tryz.ntmps106
       go_wp2_with (first | (go_at_call 109;refine (HK.out _).mono ?_;rintro e w' ⟨rfl,rfl⟩) | (go_at_call 135;refine (HT.out).mono ?_;rintro e w' ⟨rfl,rfl⟩))
       go_ret
       exact ⟨by first | rfl | kernel_rfl,HB.out⟩
     · show Calls _ _ _ _ fun e w' => e = .returned (.int .u64 18) ∧ _
       go_enter Tryz.func106,Tryz.ntmps106
       go_wp2_with (first | (go_at_call 109;refine (HK.out _).mono ?_;rintro e w' ⟨rfl,rfl⟩) | (go_at_call 135;refine (HT.out).mono ?_;rintro e w' ⟨rfl,rfl⟩))
       go_ret
       exact ⟨rfl,HB.out⟩
   · have hc := hf 4 (by decide)
     change w.cell? ⟨0,9,none⟩=some (.int .u64 20) at hc
     clear hf hk
     generalize twoB o=tb at HT ⊢
     cases tb
     · show Calls _ _ _ _ fun e w' => e = .returned (.int .u64 20) ∧ _
       go_enter Tryz.func106,Tryz.ntmps106
       go_wp2_with (first | (go_at_call 109;refine (HK.out _).mono ?_;rintro e w' ⟨rfl,rfl⟩) | (go_at_call 135;refine (HT.out).mono ?_;rintro e w' ⟨rfl,rfl⟩))
       go_ret
       exact ⟨by first | rfl | kernel_rfl,HB.out⟩
     · show Calls _ _ _ _ fun e w' => e = .returned (.int .u64 20) ∧ _
       go_enter Tryz.func106,Tryz.ntmps106
       go_wp2_with (first | (go_at_call 109;refine (HK.out _).mono ?_;rintro e w' ⟨rfl,rfl⟩) | (go_at_call 135;refine (HT.out).mono ?_;rintro e w' ⟨rfl,rfl⟩))
       go_ret
       exact ⟨rfl,HB.out⟩
   · have hc := hf 5 (by decide)
     change w.cell? ⟨0,11,none⟩=some (.int .u64 18) at hc
     clear hf hk
     generalize twoB o=tb at HT ⊢
     cases tb
     · show Calls _ _ _ _ fun e w' => e = .returned (.int .u64 18) ∧ _
       go_enter Tryz.func106,Tryz.ntmps106
       go_wp2_with (first | (go_at_call 109;refine (HK.out _).mono ?_;rintro e w' ⟨rfl,rfl⟩) | (go_at_call 135;refine (HT.out).mono ?_;rintro e w' ⟨rfl,rfl⟩))
       go_ret
       exact ⟨by first | rfl | kernel_rfl,HB.out⟩
     · show Calls _ _ _ _ fun e w' => e = .returned (.int .u64 18) ∧ _
       go_enter Tryz.func106,Tryz.ntmps106
       go_wp2_with (first | (go_at_call 109;refine (HK.out _).mono ?_;rintro e w' ⟨rfl,rfl⟩) | (go_at_call 135;refine (HT.out).mono ?_;rintro e w' ⟨rfl,rfl⟩))
       go_ret
       exact ⟨rfl,HB.out⟩
   · have hc := hf 6 (by decide)
     change w.cell? ⟨0,13,none⟩=some (.int .u64 0) at hc
     clear hf hk
     generalize twoB o=tb at HT ⊢
     cases tb
     · show Calls _ _ _ _ fun e w' => e = .returned (.int .u64 0) ∧ _
       go_enter Tryz.func106,Tryz.ntmps106
       go_wp2_with (first | (go_at_call 109;refine (HK.out _).mono ?_;rintro e w' ⟨rfl,rfl⟩) | (go_at_call 135;refine (HT.out).mono ?_;rintro e w' ⟨rfl,rfl⟩))
       go_ret
       exact ⟨by first | rfl | kernel_rfl,HB.out⟩
     · show Calls _ _ _ _ fun e w' => e = .returned (.int .u64 0) ∧ _
       go_enter Tryz.func106,Tryz.ntmps106
       go_wp2_with (first | (go_at_call 109;refine (HK.out _).mono ?_;rintro e w' ⟨rfl,rfl⟩) | (go_at_call 135;refine (HT.out).mono ?_;rintro e w' ⟨rfl,rfl⟩))
       go_ret
       exact ⟨rfl,HB.out⟩
   · have hc := hf 7 (by decide)
     change w.cell? ⟨0,15,none⟩=some (.int .u64 4) at hc
     clear hf hk
     generalize twoB o=tb at HT ⊢
     cases tb
     · show Calls _ _ _ _ fun e w' => e = .returned (.int .u64 4) ∧ _
       go_enter Tryz.func106,Tryz.ntmps106
       go_wp2_with (first | (go_at_call 109;refine (HK.out _).mono ?_;rintro e w' ⟨rfl,rfl⟩) | (go_at_call 135;refine (HT.out).mono ?_;rintro e w' ⟨rfl,rfl⟩))
       go_ret
       exact ⟨by first | rfl | kernel_rfl,HB.out⟩
     · show Calls _ _ _ _ fun e w' => e = .returned (.int .u64 4) ∧ _
       go_enter Tryz.func106,Tryz.ntmps106
       go_wp2_with (first | (go_at_call 109;refine (HK.out _).mono ?_;rintro e w' ⟨rfl,rfl⟩) | (go_at_call 135;refine (HT.out).mono ?_;rintro e w' ⟨rfl,rfl⟩))
       go_ret
       exact ⟨rfl,HB.out⟩
   · have hc := hf 8 (by decide)
     change w.cell? ⟨0,17,none⟩=some (.int .u64 32) at hc
     clear hf hk
     generalize twoB o=tb at HT ⊢
     cases tb
     · show Calls _ _ _ _ fun e w' => e = .returned (.int .u64 32) ∧ _
       go_enter Tryz.func106,Tryz.ntmps106
       go_wp2_with (first | (go_at_call 109;refine (HK.out _).mono ?_;rintro e w' ⟨rfl,rfl⟩) | (go_at_call 135;refine (HT.out).mono ?_;rintro e w' ⟨rfl,rfl⟩))
       go_ret
       exact ⟨by first | rfl | kernel_rfl,HB.out⟩
     · show Calls _ _ _ _ fun e w' => e = .returned (.int .u64 32) ∧ _
       go_enter Tryz.func106,Tryz.ntmps106
       go_wp2_with (first | (go_at_call 109;refine (HK.out _).mono ?_;rintro e w' ⟨rfl,rfl⟩) | (go_at_call 135;refine (HT.out).mono ?_;rintro e w' ⟨rfl,rfl⟩))
       go_ret
       exact ⟨rfl,HB.out⟩
   · have hc := hf 9 (by decide)
     change w.cell? ⟨0,19,none⟩=some (.int .u64 36) at hc
     clear hf hk
     generalize twoB o=tb at HT ⊢
     cases tb
     · show Calls _ _ _ _ fun e w' => e = .returned (.int .u64 36) ∧ _
       go_enter Tryz.func106,Tryz.ntmps106
       go_wp2_with (first | (go_at_call 109;refine (HK.out _).mono ?_;rintro e w' ⟨rfl,rfl⟩) | (go_at_call 135;refine (HT.out).mono ?_;rintro e w' ⟨rfl,rfl⟩))
       go_ret
       exact ⟨by first | rfl | kernel_rfl,HB.out⟩
     · show Calls _ _ _ _ fun e w' => e = .returned (.int .u64 36) ∧ _
       go_enter Tryz.func106,Tryz.ntmps106
       go_wp2_with (first | (go_at_call 109;refine (HK.out _).mono ?_;rintro e w' ⟨rfl,rfl⟩) | (go_at_call 135;refine (HT.out).mono ?_;rintro e w' ⟨rfl,rfl⟩))
       go_ret
       exact ⟨rfl,HB.out⟩
   · have hc := hf 10 (by decide)
     change w.cell? ⟨0,21,none⟩=some (.int .u64 0) at hc
     clear hf hk
     generalize twoB o=tb at HT ⊢
     cases tb
     · show Calls _ _ _ _ fun e w' => e = .returned (.int .u64 0) ∧ _
       go_enter Tryz.func106,Tryz.ntmps106
       go_wp2_with (first | (go_at_call 109;refine (HK.out _).mono ?_;rintro e w' ⟨rfl,rfl⟩) | (go_at_call 135;refine (HT.out).mono ?_;rintro e w' ⟨rfl,rfl⟩))
       go_ret
       exact ⟨by first | rfl | kernel_rfl,HB.out⟩
     · show Calls _ _ _ _ fun e w' => e = .returned (.int .u64 0) ∧ _
       go_enter Tryz.func106,Tryz.ntmps106
       go_wp2_with (first | (go_at_call 109;refine (HK.out _).mono ?_;rintro e w' ⟨rfl,rfl⟩) | (go_at_call 135;refine (HT.out).mono ?_;rintro e w' ⟨rfl,rfl⟩))
       go_ret
       exact ⟨rfl,HB.out⟩
theorem isOperator_any (o:Int) (h0:0≤o) (h1:o≤255) (w:World) (T:Tabs w):Calls Tryz.prog 145 #[.int .u8 o] w fun e w'=>e=.returned (.bool (decide (0<levelOf o)))∧w=w':=by
 have HL:Hid (Calls Tryz.prog 158 #[.int .u8 o] w fun e w'=>e=.returned (.int .i64 (levelOf o))∧w=w'):=level_any o h0 h1 w T
 generalize levelOf o=l at HL ⊢
 go_enter Tryz.func145,Tryz.ntmps145
 go_wp2_with (go_at_call 158;refine (HL.out).mono ?_;rintro e w' ⟨rfl,rfl⟩)
 go_ret
 exact ⟨rfl,rfl⟩
theorem isRightOp_any (i:Ins) (hg:rgI i) (w:World) (T:TgT w):Calls Tryz.prog 110 #[insV i] w fun e w'=>e=.returned (.bool (opB i.k i.o))∧Below w.heap.size w w':=by
 obtain ⟨k,o,d,a,b,ad,tt,wd,fr⟩:=i
 obtain ⟨_,ho,_⟩:=hg
 simp only at ho
 have al:Below w.heap.size w (w.alloc (.cells #[.int .u8 k,.int .u8 o,.int .i64 d,.int .i64 a,.int .i64 b,.int .i64 ad,.int .i64 tt,.int .i64 wd,.int .i64 fr] 75)):=(Below.refl _ w).alloc (Nat.le_refl _) _
 have HO:Hid (Calls Tryz.prog 145 #[.int .u8 o] (w.alloc (.cells #[.int .u8 k,.int .u8 o,.int .i64 d,.int .i64 a,.int .i64 b,.int .i64 ad,.int .i64 tt,.int .i64 wd,.int .i64 fr] 75)) fun e w'=>e=.returned (.bool (decide (0<levelOf o)))∧(w.alloc (.cells #[.int .u8 k,.int .u8 o,.int .i64 d,.int .i64 a,.int .i64 b,.int .i64 ad,.int .i64 tt,.int .i64 wd,.int .i64 fr] 75))=w'):=isOperator_any o ho.1 ho.2 _ (T.lev.below al)
 have HB:=Lib.hid al
 clear al T ho
 show Calls _ _ #[.agg #[.int .u8 k,.int .u8 o,.int .i64 d,.int .i64 a,.int .i64 b,.int .i64 ad,.int .i64 tt,.int .i64 wd,.int .i64 fr]] w _
 simp only [opB]
 generalize decide (0<levelOf o)=l at HO ⊢
 by_cases h:k=2
 · subst h
   show Calls _ _ _ _ fun e w'=>e=.returned (.bool l)∧_
   go_enter Tryz.func110,Tryz.ntmps110
   go_wp2_with (go_at_call 145;refine (HO.out).mono ?_;rintro e w' ⟨rfl,rfl⟩)
   go_ret
   exact ⟨rfl,HB.out⟩
 · have q := int_f h
   rw [q]
   show Calls _ _ _ _ fun e w'=>e=.returned (.bool (o==0))∧_
   clear HO h
   go_enter Tryz.func110,Tryz.ntmps110
   go_wp2_with fail
   go_ret
   exact ⟨rfl,HB.out⟩
theorem fits_any (u f n c:Int) (g:Nat) (w:World) (hc:w.cell? ⟨g,0,none⟩=some (.int .u64 u)):Calls Tryz.prog 107 #[.int .i64 n,.int .u64 f,.int .i64 c,.pointer (some ⟨g,0,none⟩)] w fun e w'=>e=.returned (.bool (fitB (hasB u f) n c))∧w=w':=by
 have HH:Hid (∀ W,Calls Tryz.prog 108 #[.int .u64 u,.int .u64 f] W fun e w'=>e=.returned (.bool (hasB u f))∧W=w'):=fun W=>has_any u f W
 have HW:Hid (∀ W,Calls Tryz.prog 103 #[.int .i64 n,.int .i64 c] W fun e w'=>e=.returned (.bool (inB n c))∧W=w'):=fun W=>within_any n c W
 unfold fitB
 generalize inB n c=l at HW ⊢
 generalize hb:hasB u f=b at HH ⊢
 cases b with
 | false =>
   show Calls _ _ _ _ fun e w'=>e=.returned (.bool (n==0))∧_
   clear hb
   go_enter Tryz.func107,Tryz.ntmps107
   go_wp2_with (go_at_call 108;refine (HH.out _).mono ?_;rintro e w' ⟨rfl,rfl⟩)
   go_ret
   exact ⟨rfl,rfl⟩
 | true =>
   show Calls _ _ _ _ fun e w'=>e=.returned (.bool l)∧_
   clear hb
   go_enter Tryz.func107,Tryz.ntmps107
   go_wp2_with (first | (go_at_call 108;refine (HH.out _).mono ?_;rintro e w' ⟨rfl,rfl⟩) | (go_at_call 103;refine (HW.out _).mono ?_;rintro e w' ⟨rfl,rfl⟩))
   go_ret
   exact ⟨rfl,rfl⟩
open Go.RowKit
set_option linter.unusedVariables false
set_option maxRecDepth 100000
theorem rowI:RowT 75 9:=⟨_,Tryz.underlying75,rfl,by kernel_rfl⟩
def Bq (w:World) (g:Nat) (r:Array Value) (u:Int) (W:World):Prop:=Own W w.heap.size 75 r∧Own W g 191 #[.int .u64 u]∧Below w.heap.size w W
theorem bq_below {w W W':World} {g:Nat} {r:Array Value} {u:Int} (h:Bq w g r u W) (hb:Below W.heap.size W W'):Bq w g r u W':=⟨h.1.below hb,h.2.1.below hb,h.2.2.trans (hb.mono h.2.2.size)⟩
theorem right_u (i:Ins) (hg:rgI i) (code mem:Int) (w:World) (T:TgT w):Calls Tryz.prog 64 #[insV i,.int .i64 code,.int .i64 mem] w fun e w'=>e=.returned (.bool (rightU i code mem))∧Below w.heap.size w w':=by
 have HUS:Hid (∀ W,TgT W→Calls Tryz.prog 106 #[insV i] W fun e w'=>e=.returned (.int .u64 (uB i.k i.o))∧Below W.heap.size W w'):=fun W T=>usedBy_any i hg W T
 have HRO:Hid (∀ W,TgT W→Calls Tryz.prog 110 #[insV i] W fun e w'=>e=.returned (.bool (opB i.k i.o))∧Below W.heap.size W w'):=fun W T=>isRightOp_any i hg W T
 obtain ⟨k,o,d,a,b,ad,tt,wd,fr⟩:=i
 simp only [rightU,insV,insC] at HUS HRO ⊢
 have HK:Hid (∀ W,Calls Tryz.prog 109 #[.int .u8 k] W fun e w'=>e=.returned (.bool (kB k))∧W=w'):=fun W=>isKind_any k W
 have HWI:Hid (∀ W,Calls Tryz.prog 103 #[.int .i64 fr,.int .i64 4097] W fun e w'=>e=.returned (.bool (inB fr 4097))∧W=w'):=fun W=>within_any fr 4097 W
 generalize uB k o=u at HUS ⊢
 have HHS:Hid (∀ W,Calls Tryz.prog 108 #[.int .u64 u,.int .u64 64] W fun e w'=>e=.returned (.bool (hasB u 64))∧W=w'):=fun W=>has_any u 64 W
 generalize kB k=q1 at HK ⊢
 generalize inB fr 4097=q2 at HWI ⊢
 generalize opB k o=q3 at HRO ⊢
 have al:Below w.heap.size w (w.alloc (.cells #[.int .u8 k,.int .u8 o,.int .i64 d,.int .i64 a,.int .i64 b,.int .i64 ad,.int .i64 tt,.int .i64 wd,.int .i64 fr] 75)):=(Below.refl _ w).alloc (Nat.le_refl _) _
 have O1:=Own.new w 75 #[.int .u8 k,.int .u8 o,.int .i64 d,.int .i64 a,.int .i64 b,.int .i64 ad,.int .i64 tt,.int .i64 wd,.int .i64 fr]
 have HT:=Lib.hid (T.below al)
 obtain ⟨W0,hW0⟩:∃ W,W=w.alloc (.cells #[.int .u8 k,.int .u8 o,.int .i64 d,.int .i64 a,.int .i64 b,.int .i64 ad,.int .i64 tt,.int .i64 wd,.int .i64 fr] 75):=⟨_,rfl⟩
 rw [← hW0] at al O1 HT
 have HW0:=Lib.hid hW0
 have HO1:=Lib.hid O1
 have HB:=Lib.hid al
 clear hW0 al T hg
 go_enter Tryz.func64,Tryz.ntmps64
 go_upto_region 1 with (fail)
 rw [← HW0.out]
 clear HW0
 go_wp2_with (refine ld rowI rfl rfl rfl O1 rfl ?_)
 go_at_call 106
 refine (HUS.out _ HT.out).mono ?_
 rintro e w1 ⟨rfl,hb⟩
 have HT1:=Lib.hid (HT.out.below hb)
 have HO2:=Lib.hid (HO1.out.below hb)
 have HB2:=Lib.hid (HB.out.trans (hb.mono HB.out.size))
 clear hb O1 HUS HT HO1 HB
 have Q2:Bq w w1.heap.size #[.int .u8 k,.int .u8 o,.int .i64 d,.int .i64 a,.int .i64 b,.int .i64 ad,.int .i64 tt,.int .i64 wd,.int .i64 fr] u (w1.alloc (.cells #[.int .u64 u] 191)):=⟨HO2.out.alloc _,Own.new w1 _ _,HB2.out.alloc HB2.out.size _⟩
 have HT2:=Lib.hid (HT1.out.below ((Below.refl _ w1).alloc (Nat.le_refl _) (.cells #[.int .u64 u] 191)))
 obtain ⟨W2,hW2⟩:∃ W,W=w1.alloc (.cells #[.int .u64 u] 191):=⟨_,rfl⟩
 rw [← hW2] at Q2 HT2
 have HW2:=Lib.hid hW2
 have HQ:=Lib.hid Q2
 clear hW2 Q2 HT1 HO2 HB2
 go_upto_region 3 with (fail)
 rw [← HW2.out]
 clear HW2
 generalize w1.heap.size=g at HQ ⊢
 have HFT:Hid (∀ W n f c,Bq w g #[.int .u8 k,.int .u8 o,.int .i64 d,.int .i64 a,.int .i64 b,.int .i64 ad,.int .i64 tt,.int .i64 wd,.int .i64 fr] u W→Calls Tryz.prog 107 #[.int .i64 n,.int .u64 f,.int .i64 c,.pointer (some ⟨g,0,none⟩)] W fun e w'=>e=.returned (.bool (fitB (hasB u f) n c))∧W=w'):=fun W n f c h=>fits_any u f n c _ W (by rw [cell_of_row _ _ 0 _ _ _ h.2.1];rfl)
 have c0:W2.cell? ⟨w.heap.size,0,none⟩=some (.int .u8 k):=by rw [cell_of_row _ _ 0 _ _ _ HQ.out.1];rfl
 have c1:W2.cell? ⟨w.heap.size,1,none⟩=some (.int .u8 o):=by rw [cell_of_row _ _ 1 _ _ _ HQ.out.1];rfl
 have c2:W2.cell? ⟨w.heap.size,2,none⟩=some (.int .i64 d):=by rw [cell_of_row _ _ 2 _ _ _ HQ.out.1];rfl
 have c3:W2.cell? ⟨w.heap.size,3,none⟩=some (.int .i64 a):=by rw [cell_of_row _ _ 3 _ _ _ HQ.out.1];rfl
 have c4:W2.cell? ⟨w.heap.size,4,none⟩=some (.int .i64 b):=by rw [cell_of_row _ _ 4 _ _ _ HQ.out.1];rfl
 have c5:W2.cell? ⟨w.heap.size,5,none⟩=some (.int .i64 ad):=by rw [cell_of_row _ _ 5 _ _ _ HQ.out.1];rfl
 have c6:W2.cell? ⟨w.heap.size,6,none⟩=some (.int .i64 tt):=by rw [cell_of_row _ _ 6 _ _ _ HQ.out.1];rfl
 have c7:W2.cell? ⟨w.heap.size,7,none⟩=some (.int .i64 wd):=by rw [cell_of_row _ _ 7 _ _ _ HQ.out.1];rfl
 have c8:W2.cell? ⟨w.heap.size,8,none⟩=some (.int .i64 fr):=by rw [cell_of_row _ _ 8 _ _ _ HQ.out.1];rfl
 cases q1 with
 | false =>
   go_wp2_with (first | (go_at_call 109;refine (HK.out _).mono ?_;rintro e w' ⟨rfl,rfl⟩) | (go_at_call 103;refine (HWI.out _).mono ?_;rintro e w' ⟨rfl,rfl⟩))
   go_ret
   exact ⟨rfl,HQ.out.2.2⟩
 | true =>
 cases q2 with
 | false =>
   go_wp2_with (first | (go_at_call 109;refine (HK.out _).mono ?_;rintro e w' ⟨rfl,rfl⟩) | (go_at_call 103;refine (HWI.out _).mono ?_;rintro e w' ⟨rfl,rfl⟩))
   go_ret
   exact ⟨rfl,HQ.out.2.2⟩
 | true =>
 go_wp2_with (first | (go_at_call 109;refine (HK.out _).mono ?_;rintro e w' ⟨rfl,rfl⟩) | (go_at_call 103;refine (HWI.out _).mono ?_;rintro e w' ⟨rfl,rfl⟩))
 go_at_call 110
 refine (HRO.out _ HT2.out).mono ?_
 rintro e w3 ⟨rfl,hb⟩
 have HQ3:=Lib.hid (bq_below HQ.out hb)
 clear hb HQ HT2 HRO c0 c1 c2 c3 c4 c5 c6 c7 c8
 have c0:w3.cell? ⟨w.heap.size,0,none⟩=some (.int .u8 k):=by rw [cell_of_row _ _ 0 _ _ _ HQ3.out.1];rfl
 have c1:w3.cell? ⟨w.heap.size,1,none⟩=some (.int .u8 o):=by rw [cell_of_row _ _ 1 _ _ _ HQ3.out.1];rfl
 have c2:w3.cell? ⟨w.heap.size,2,none⟩=some (.int .i64 d):=by rw [cell_of_row _ _ 2 _ _ _ HQ3.out.1];rfl
 have c3:w3.cell? ⟨w.heap.size,3,none⟩=some (.int .i64 a):=by rw [cell_of_row _ _ 3 _ _ _ HQ3.out.1];rfl
 have c4:w3.cell? ⟨w.heap.size,4,none⟩=some (.int .i64 b):=by rw [cell_of_row _ _ 4 _ _ _ HQ3.out.1];rfl
 have c5:w3.cell? ⟨w.heap.size,5,none⟩=some (.int .i64 ad):=by rw [cell_of_row _ _ 5 _ _ _ HQ3.out.1];rfl
 have c6:w3.cell? ⟨w.heap.size,6,none⟩=some (.int .i64 tt):=by rw [cell_of_row _ _ 6 _ _ _ HQ3.out.1];rfl
 have c7:w3.cell? ⟨w.heap.size,7,none⟩=some (.int .i64 wd):=by rw [cell_of_row _ _ 7 _ _ _ HQ3.out.1];rfl
 have c8:w3.cell? ⟨w.heap.size,8,none⟩=some (.int .i64 fr):=by rw [cell_of_row _ _ 8 _ _ _ HQ3.out.1];rfl
 have cu:w3.cell? ⟨g,0,none⟩=some (.int .u64 u):=by rw [cell_of_row _ _ 0 _ _ _ HQ3.out.2.1];rfl
 cases q3 with
 | false =>
   go_wp2_with fail
   go_ret
   exact ⟨rfl,HQ3.out.2.2⟩
 | true =>
 cases r0:fitB (hasB u 2) d 16 with
 | false =>
   go_wp2_with (first | (go_at_call 107;refine (HFT.out _ _ _ _ HQ3.out).mono ?_;rintro e w' ⟨rfl,rfl⟩) | (go_at_call 108;refine (HHS.out _).mono ?_;rintro e w' ⟨rfl,rfl⟩))
   go_ret
   refine ⟨ret_bool ?_,HQ3.out.2.2⟩
   simp [*]
 | true =>
 cases r1:fitB (hasB u 4) a 16 with
 | false =>
   go_wp2_with (first | (go_at_call 107;refine (HFT.out _ _ _ _ HQ3.out).mono ?_;rintro e w' ⟨rfl,rfl⟩) | (go_at_call 108;refine (HHS.out _).mono ?_;rintro e w' ⟨rfl,rfl⟩))
   go_ret
   refine ⟨ret_bool ?_,HQ3.out.2.2⟩
   simp [*]
 | true =>
 cases r2:fitB (hasB u 8) b 16 with
 | false =>
   go_wp2_with (first | (go_at_call 107;refine (HFT.out _ _ _ _ HQ3.out).mono ?_;rintro e w' ⟨rfl,rfl⟩) | (go_at_call 108;refine (HHS.out _).mono ?_;rintro e w' ⟨rfl,rfl⟩))
   go_ret
   refine ⟨ret_bool ?_,HQ3.out.2.2⟩
   simp [*]
 | true =>
 cases r3:fitB (hasB u 16) ad mem with
 | false =>
   go_wp2_with (first | (go_at_call 107;refine (HFT.out _ _ _ _ HQ3.out).mono ?_;rintro e w' ⟨rfl,rfl⟩) | (go_at_call 108;refine (HHS.out _).mono ?_;rintro e w' ⟨rfl,rfl⟩))
   go_ret
   refine ⟨ret_bool ?_,HQ3.out.2.2⟩
   simp [*]
 | true =>
 cases r4:fitB (hasB u 32) tt code with
 | false =>
   go_wp2_with (first | (go_at_call 107;refine (HFT.out _ _ _ _ HQ3.out).mono ?_;rintro e w' ⟨rfl,rfl⟩) | (go_at_call 108;refine (HHS.out _).mono ?_;rintro e w' ⟨rfl,rfl⟩))
   go_ret
   refine ⟨ret_bool ?_,HQ3.out.2.2⟩
   simp [*]
 | true =>
 cases r5:(wd==0) with
 | true =>
   go_wp2_with (first | (go_at_call 107;refine (HFT.out _ _ _ _ HQ3.out).mono ?_;rintro e w' ⟨rfl,rfl⟩) | (go_at_call 108;refine (HHS.out _).mono ?_;rintro e w' ⟨rfl,rfl⟩))
   go_ret
   refine ⟨ret_bool ?_,HQ3.out.2.2⟩
   simp [*]
 | false =>
 cases r6:hasB u 64 with
 | false =>
   go_wp2_with (first | (go_at_call 107;refine (HFT.out _ _ _ _ HQ3.out).mono ?_;rintro e w' ⟨rfl,rfl⟩) | (go_at_call 108;refine (HHS.out _).mono ?_;rintro e w' ⟨rfl,rfl⟩))
   go_ret
   refine ⟨ret_bool ?_,HQ3.out.2.2⟩
   simp [*]
 | true =>
   go_wp2_with (first | (go_at_call 107;refine (HFT.out _ _ _ _ HQ3.out).mono ?_;rintro e w' ⟨rfl,rfl⟩) | (go_at_call 108;refine (HHS.out _).mono ?_;rintro e w' ⟨rfl,rfl⟩))
   go_ret
   refine ⟨ret_bool ?_,HQ3.out.2.2⟩
   simp [*]
theorem right_any (i:Ins) (hg:rgI i) (code mem:Int) (w:World) (T:TgT w):Calls Tryz.prog 64 #[insV i,.int .i64 code,.int .i64 mem] w fun e w'=>e=.returned (.bool (rightB i code mem))∧Below w.heap.size w w':=by
 rw [← rightU_eq]
 exact right_u i hg code mem w T
end Go.Proofs.YtmpljhfinmfnbaaGreatDoor

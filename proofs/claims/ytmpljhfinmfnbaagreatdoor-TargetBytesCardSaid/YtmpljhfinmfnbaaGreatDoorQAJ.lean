/- The proof, part 10: texts that belong together, in one. -/
import Derived.Test.YtmpljhfinmfnbaaGreatDoorQAI
import Derived.Lib.Zigzag
set_option maxRecDepth 100000
set_option maxHeartbeats 20000000
namespace Go.Proofs.YtmpljhfinmfnbaaGreatDoor
open Go.RowKit Go.Maps
set_option linter.unusedVariables false
set_option maxRecDepth 100000
theorem badI_none {n mem:Int} : ∀ {l:List Ins},badI n mem l=none→∀ i∈l,rightB i n mem=true
 | [],_,i,h=>by cases h
 | x :: r, e, i, h => by
   unfold badI at e
   cases hx:rightB x n mem with
   | false=>rw [hx] at e;simp at e
   | true =>
     rw [hx] at e
     rcases List.mem_cons.1 h with rfl | h
     · exact hx
     · exact badI_none (by simpa using e) i h
theorem badCs_none {mem:Int} : ∀ {l:List Cor},badCs mem l=none→∀ c∈l,∀ i∈c.code,rightB i c.code.length mem=true
 | [],_,i,h=>by cases h
 | x :: r, e, c, h => by
   unfold badCs at e
   cases hx:badI x.code.length mem x.code with
   | some k=>rw [hx] at e;cases e
   | none =>
     rw [hx] at e
     rcases List.mem_cons.1 h with rfl | h
     · exact badI_none hx
     · exact badCs_none (by simpa using e) c h
theorem chk_ok {o:Ob} (h:(chkO o).1=0):topB o=true∧∀ c∈o.cores,∀ i∈c.code,rightB i c.code.length o.mem.length=true:=by
 unfold chkO at h
 cases ht:topB o with
 | false=>rw [ht] at h;simp at h
 | true =>
   rw [ht] at h
   refine ⟨rfl,?_⟩
   cases hb:badCs o.mem.length o.cores with
   | none=>exact badCs_none hb
   | some p=>rw [hb] at h;simp at h
theorem right_k {i:Ins} {n m:Int} (h:rightB i n m=true):kB i.k=true∧opB i.k i.o=true:=by
 unfold rightB at h
 simp only [Bool.and_eq_true] at h
 exact ⟨h.1,h.2.2.1⟩
theorem wt_new (w:World):Wt w.heap.size [] (w.alloc (.cells #[.pointer none,.slice none 0 0] 162)):=by
 refine ⟨.pointer none,.slice none 0 0,Own.new w _ _,.inl rfl,fun _=>rfl,?_⟩
 exact ⟨rfl,.inl ⟨rfl,rfl⟩⟩
theorem obT_len (o:Ob) (hg:rgO o) (h1:o.mem.length≤4096) (h2:o.cores.length≤8) (h3:∀ c∈o.cores,c.name.size≤32∧c.code.length≤16384):(obT o).length≤1000000000:=by
 obtain ⟨gm,gs,gk,gb,gi⟩:=hg
 have a1:=(num_len _ gs).2.1
 have a2:=(num_len _ gk).2.1
 have a3:=(num_len _ gb).2.1
 have a4:=flat_len wrdT 100 o.mem fun x hx=>(num_len x (gm x hx)).2.2
 have a5:=flat_len corT 17000000 o.cores fun c hc=>by
  have b1:=flat_len (fun i=>insT i++[10]) 1001 c.code fun i hi=>by
   have:=insT_len i (gi c hc i hi)
   simp only [List.length_append,List.length_cons,List.length_nil];omega
  have b2:=h3 c hc
  have b3:c.name.data.toList.length=c.name.size:=Array.length_toList
  simp only [corT,codeT,List.length_append,List.length_cons,List.length_nil]
  omega
 unfold obT memT
 simp only [List.length_append,List.length_cons,List.length_nil]
 omega
def prtO (o:Ob):List UInt8 × Int:=if (chkO o).1=0 then (if (obT o).length > 16777216 then ([],4) else (obT o,0)) else ([],(chkO o).1)
def prtE (r:List UInt8 × Int):Ending:=.returned (.tuple #[.string ⟨r.1.toArray⟩,.int .i64 r.2])
theorem chk_fit {o:Ob} (ht:topB o=true):o.mem.length≤4096∧o.cores.length≤8∧∀ c∈o.cores,c.name.size≤32∧c.code.length≤16384:=by
 unfold topB at ht
 simp only [Bool.and_eq_true,decide_eq_true_eq] at ht
 obtain ⟨_,_,_,h4,_,_,h8,h9⟩:=ht
 refine ⟨h4,h8,fun c hc=>?_⟩
 have key:∀ (seen:List (List UInt8)) (l:List Cor),corsB seen l=true→∀ c∈l,c.name.size≤32∧c.code.length≤16384:=by
  intro seen l
  induction l generalizing seen with
  | nil=>intro _ c hc;cases hc
  | cons x r ih =>
    intro h c hc
    simp only [corsB,Bool.and_eq_true] at h
    rcases List.mem_cons.1 hc with rfl | hc
    · have h' := h.1
      unfold corB codeB nameB at h'
      simp only [Bool.and_eq_true,decide_eq_true_eq] at h'
      exact ⟨h'.1.2.1,h'.2.2.2.1⟩
    · exact ih _ h.2 c hc
 exact key [] _ h9 c hc
theorem print_any (o:Ob) (hg:rgO o) (hf:fitO o) {v:Value} {w:World} (hv:obA w o v) (T:TgT w) (P:PwT w):Calls Tryz.prog 35 #[v] w fun e w'=>e=prtE (prtO o)∧Below w.heap.size w w':=by
 obtain ⟨a1,c1,a5,c5,rfl,h1,h5⟩:=hv
 obtain ⟨r,hr⟩:∃ r,r=chkO o:=⟨_,rfl⟩
 have hok:r.1=0→topB o=true∧∀ c∈o.cores,∀ i∈c.code,kB i.k=true∧opB i.k i.o=true:=fun h=>by
  rw [hr] at h
  obtain ⟨q1,q2⟩:=chk_ok h
  exact ⟨q1,fun c hc i hi=>right_k (q2 c hc i hi)⟩
 have al:Below w.heap.size w (w.alloc (.cells #[.slice a1 o.mem.length c1,.int .i64 o.sh,.int .i64 o.lk,.int .i64 o.bf,.slice a5 o.cores.length c5] 25)):=(Below.refl _ w).alloc (Nat.le_refl _) _
 have O0:=Own.new w 25 #[.slice a1 o.mem.length c1,.int .i64 o.sh,.int .i64 o.lk,.int .i64 o.bf,.slice a5 o.cores.length c5]
 obtain ⟨W0,hW0⟩:∃ W,W=w.alloc (.cells #[.slice a1 o.mem.length c1,.int .i64 o.sh,.int .i64 o.lk,.int .i64 o.bf,.slice a5 o.cores.length c5] 25):=⟨_,rfl⟩
 rw [← hW0] at al O0
 have hs0:w.heap.size<W0.heap.size:=O0.lt
 have HW0:=Lib.hid hW0
 have HB0:=Lib.hid al
 have HOB:Hid (∀ X,Below w.heap.size w X→obA X o (obV o a1 c1 a5 c5)):=fun X h=>⟨a1,c1,a5,c5,rfl,intsAt_below h1 h,corsAt_below h5 h⟩
 have HCK:Hid (Calls Tryz.prog 23 #[obV o a1 c1 a5 c5] W0 fun e w'=>e=chkE r∧Below W0.heap.size W0 w'):=by
  rw [hr]
  exact check_any o hg hf (HOB.out _ al) (T.below al)
 have HOJ:Hid (r.1=0→∀ (X Y:World) (b:Nat),Below w.heap.size w X→b=X.heap.size→Below b X Y→Wt b [] Y→Calls Tryz.prog 78 #[.pointer (some ⟨b,0,none⟩),obV o a1 c1 a5 c5] Y fun e w'=>e=.returned (.tuple #[])∧Wq Y b (obT o) w'):=fun h X Y b hX hb hXY hwt=>by
  refine w_object o hg (hok h).1 (hok h).2 hb hXY (HOB.out _ hX) hwt fun Z hZ=>?_
  have hwZ:Below w.heap.size w Z:=hX.trans ((hXY.trans hZ).mono (by rw [hb];exact hX.size))
  exact ⟨T.below hwZ,P.below hwZ⟩
 have HLN:Hid (r.1=0→(obT o).length≤1000000000):=fun h=>by
  obtain ⟨z1,z2,z3⟩:=chk_fit (hok h).1
  exact obT_len o hg z1 z2 z3
 have HPR:Hid (prtO o=if r.1=0 then (if (obT o).length > 16777216 then ([],4) else (obT o,0)) else ([],r.1)):=by rw [hr];rfl
 generalize prtO o=pr at HPR ⊢
 generalize obT o=tx at HOJ HLN HPR
 clear hok hr T P hg hf h1 h5 al hW0 HOB
 obtain ⟨mem,sh,lk,bf,cores⟩:=o
 simp only [obV] at HOJ HCK O0 HW0 ⊢
 generalize mem.length=n1 at HOJ HCK O0 HW0 ⊢
 generalize cores.length=n5 at HOJ HCK O0 HW0 ⊢
 obtain ⟨r1,r2,r3⟩:=r
 simp only at HPR HOJ HLN
 replace HCK:Hid (Calls Tryz.prog 23 #[.agg #[.slice a1 n1 c1,.int .i64 sh,.int .i64 lk,.int .i64 bf,.slice a5 n5 c5]] W0 fun e w'=>e=.returned (.tuple #[.int .i64 r1,.int .i64 r2,.int .i64 r3])∧Below W0.heap.size W0 w'):=HCK.out
 have HO0:=Lib.hid O0
 by_cases hr0:r1=0
 rotate_left
 · have hpr : pr = ([], r1) := by rw [HPR.out, if_neg hr0]
   subst hpr
   have q1:(r1 != 0)=true:=by simpa using hr0
   clear HPR HOJ HLN hr0
   go_enter Tryz.func35,Tryz.ntmps35
   go_upto_region 1 with (fail)
   rw [← HW0.out]
   clear HW0
   go_wp2_with (first | (refine ld rowO rfl rfl rfl O0 rfl ?_) | (go_at_call 23;refine HCK.out.mono ?_;rintro e w1 ⟨rfl,hb1⟩))
   refine bodyPost_ret (results_tmp2 rfl _ _ _) rfl ?_
   exact ⟨rfl,HB0.out.trans (hb1.mono HB0.out.size)⟩
 · subst hr0
   have HLL:Hid (tx.length≤1000000000):=HLN.out rfl
   have HOJ0:=Lib.hid (HOJ.out rfl)
   have HPZ:Hid (pr=if tx.length > 16777216 then ([],4) else (tx,0)):=by rw [Hid,HPR.out,if_pos rfl]
   clear HPR HOJ HLN
   go_enter Tryz.func35,Tryz.ntmps35
   go_upto_region 1 with (fail)
   rw [← HW0.out]
   clear HW0
   go_upto_region 5 with (first | (refine ld rowO rfl rfl rfl O0 rfl ?_) | (go_at_call 23;refine HCK.out.mono ?_;rintro e w1 ⟨rfl,hb1⟩))
   have HB1:=Lib.hid (HB0.out.trans (hb1.mono HB0.out.size))
   have HS1:Hid (w.heap.size<w1.heap.size):=Nat.lt_of_lt_of_le hs0 hb1.size
   have HWT:=Lib.hid (wt_new w1)
   have O2:=(HO0.out.below hb1).alloc (.cells #[.pointer none,.slice none 0 0] 162)
   have HB2:=Lib.hid ((Below.refl w1.heap.size w1).alloc (Nat.le_refl _) (.cells #[.pointer none,.slice none 0 0] 162))
   have HLB:Hid (w1.heap.size<(w1.alloc (.cells #[.pointer none,.slice none 0 0] 162)).heap.size):=by rw [Hid];simp
   obtain ⟨W2,hW2⟩:∃ W,W=w1.alloc (.cells #[.pointer none,.slice none 0 0] 162):=⟨_,rfl⟩
   rw [← hW2] at HWT O2 HB2 HLB ⊢
   have HWO:=Lib.hid (HOJ0.out w1 W2 w1.heap.size HB1.out rfl HB2.out HWT.out)
   clear hW2 hb1 HOJ0 HWT HB0 HO0 O0 HCK hs0
   go_wp2_with (first | (refine ld rowO rfl rfl rfl O2 rfl ?_))
   go_at_call 78
   refine HWO.out.mono ?_
   rintro e w3 ⟨rfl,hq⟩
   have HQ:=Lib.hid hq
   clear hq O2 HWO
   by_cases hbig:16777216<(tx.length:Int)
   · have hpr : pr = ([], 4) := by rw [HPZ.out, if_pos (by omega)]
     subst hpr
     have HF:Hid (Below w.heap.size w w3):=HB1.out.trans ((HB2.out.trans HQ.out.bel).mono HB1.out.size)
     go_wp2_with (first | (go_at_call 79;refine (wt_len HQ.out.wt).mono ?_;rintro e w4 ⟨rfl,rfl⟩))
     refine bodyPost_ret (results_tmp2 rfl _ _ _) rfl ?_
     exact ⟨rfl,HF.out⟩
   · have hpr : pr = (tx, 0) := by rw [HPZ.out, if_neg (by omega)]
     subst hpr
     go_wp2_with (first | (go_at_call 79;refine (wt_len HQ.out.wt).mono ?_;rintro e w4 ⟨rfl,rfl⟩))
     go_at_call 80
     refine (wt_string HQ.out.wt).mono ?_
     rintro e w5 ⟨rfl,hb5⟩
     have HF:Hid (Below w.heap.size w w5):=HB1.out.trans ((HB2.out.trans (HQ.out.bel.trans hb5)).mono HB1.out.size)
     clear hb5
     go_wp2_with fail
     refine bodyPost_ret (results_tmp2 rfl _ _ _) rfl ?_
     exact ⟨rfl,HF.out⟩
open Go.RowKit
set_option linter.unusedVariables false
set_option maxRecDepth 100000
def YtP (b:Nat) (v:Value) (txt:List UInt8) (W:World):Prop:=Own W b 63 #[v]∧W.ownsRow (b+1) 5 1 v txt.length (Lib.byteCells txt)
def Yt (b:Nat) (txt:List UInt8) (W:World):Prop:=∃ v,YtP b v txt W
structure Yq (w:World) (b:Nat) (t:List UInt8) (W:World):Prop where
 wt:Yt b t W
 keep:Keep (selW b) w W
 bel:Below b w W
section
variable {w W W':World} {b:Nat} {t:List UInt8}
theorem Yt.lt (h:Yt b t W):b<W.heap.size:=by obtain ⟨v,h⟩:=h;exact h.1.lt
theorem Yt.below (h:Yt b t W) (hb:Below W.heap.size W W'):Yt b t W':=by
 obtain ⟨v,h1,h5⟩:=h
 exact ⟨v,h1.below hb,row_below h5 hb⟩
theorem Yq.below (h:Yq w b t W) (hb:Below W.heap.size W W'):Yq w b t W':=⟨h.wt.below hb,h.keep.trans (keep_below hb),h.bel.trans (hb.mono (Nat.le_of_lt h.wt.lt))⟩
theorem yq_new (h:Yt b t w):Yq w b t w:=⟨h,Keep.refl _ _,Below.refl _ _⟩
theorem Yq.trans {w0:World} {t':List UInt8} (h:Yq w0 b t w) (k:Yq w b t' W):Yq w0 b t' W:=⟨k.wt,h.keep.trans k.keep,h.bel.trans k.bel⟩
theorem Yq.own (h:Yq w b t W) {g:Nat} {ty:TypeId} {row:Array Value} (ho:Own w g ty row) (hg:g≠b) (hn:Nu8 ty):Own W g ty row:=h.keep.block _ _ ho ⟨hg,hn _⟩
end
def dg:Nat→Nat→List UInt8
 | 0,_=>[]
 | f+1,n=>if n≤127 then [UInt8.ofNat n] else UInt8.ofNat (n % 128+128)::dg f (n / 128)
def dgT (n:Nat):List UInt8:=dg 10 n
theorem dg_len:∀ f n,(dg f n).length≤f
 | 0,_=>by simp [dg]
 | f + 1, n => by
   have:=dg_len f (n / 128)
   unfold dg
   split <;> simp <;> omega
theorem or_dig:∀ k:Nat,k<256→bits BinOp.or IntKind.u8 (k:Int) 128=((k % 128+128:Nat):Int):=by decide
theorem y_digits {w:World} {b:Nat} {txt:List UInt8} (h:Yt b txt w) (n:Nat) (hn:n≤18446744073709551615) (hlen:txt.length≤140737488355000) :
 Calls Tryz.prog 112 #[.pointer (some ⟨b,0,none⟩),.int .u64 n] w fun e w'=>e=.returned (.tuple #[])∧Yq w b (txt++dgT n) w':=by
 obtain ⟨i0,hi,hz0,hz1,hz2⟩:=info_parts infoU8'
 have HQ0:=Lib.hid (yq_new h)
 have HLEN:=Lib.hid hlen
 clear h hlen
 go_enter Tryz.func112,Tryz.ntmps112
 go_wp2_with fail
 go_loopg [1] 10 (fun m' z X=>∃ (f m:Nat) (cur:List UInt8),z=.int .u64 (m:Int)∧m<128 ^ (f+1)∧m≤18446744073709551615∧f<10∧m'=f+1∧txt++dgT n=cur++dg (f+1) m∧cur.length+f≤txt.length+9∧Yq w b cur X)
 case atStart=>exact ⟨9,n,txt,rfl,by omega,hn,by omega,by omega,rfl,by omega,HQ0.out⟩
 case round =>
  clear HQ0
  obtain ⟨f,m,cur,rfl,hm1,hm2,hf,hm',hcat,hcl,hq⟩:=hrel
  obtain ⟨⟨v,hbk,hown⟩,hkp,hbl⟩:=hq
  have c0:wr.cell? ⟨b,0,none⟩=some v:=by rw [cell_of_row _ _ 0 _ _ _ hbk];rfl
  have hlt:b<wr.heap.size:=hbk.lt
  have HK:=Lib.hid hbk
  have HKP:=Lib.hid hkp
  have HBL:=Lib.hid hbl
  have hlb:(Lib.byteCells cur).length=cur.length:=by simp [Lib.byteCells]
  have HM:=Lib.hid hm'
  have HCT:=Lib.hid hcat
  have HLN:=HLEN.out
  clear hbk hkp hbl hm' hcat
  by_cases hbig:127<(m:Int)
  · obtain ⟨c, hc⟩ : ∃ c : Nat, c = m % 128 + 128 := ⟨_, rfl⟩
    have hor:bits BinOp.or IntKind.u8 ((m:Int) % 256) 128=(c:Int):=by
     rw [hc]
     have:=or_dig (m % 256) (by omega)
     rw [show ((m:Int) % 256)=((m % 256:Nat):Int) by omega,this]
     omega
    have hc1:c≤255:=by omega
    obtain ⟨f',rfl⟩:∃ f',f=f'+1:=by
     rcases f with _ | f
     · simp at hm1;omega
     · exact ⟨f,rfl⟩
    have HCT2:Hid (txt++dgT n=(cur++[UInt8.ofNat c])++dg (f'+1) (m / 128)):=by
     rw [Hid,HCT.out,dg,if_neg (by omega),← hc,List.append_assoc,List.singleton_append]
    have hm3:m / 128<128 ^ (f'+1):=by
     rw [Nat.div_lt_iff_lt_mul (by decide)]
     rw [Nat.pow_succ] at hm1
     exact hm1
    clear hc HCT hm1
    go_wp2_with (first | rw [hor] | (at_builtin;refine wpList_append_own _ rfl _ _ 26 rfl (b+1) 5 i0 (.int .u8 0) 1 1 Tryz.underlying26 hi hz0 hz1 hz2 rfl (by decide) v cur.length (Lib.byteCells cur) rfl (hown.alloc _) ⟨wr.heap.size,0,none⟩ 1 1 [.int .u8 (c:Int)] (by simp only [← hor];rfl) rfl ?c1 ?c2 ?c3 ?c4 ?c5 ?_))
    case c1 =>
     intro j u hj
     match j,hj with
     | 0,hj=>simp at hj;subst hj;simp [Addr.add]
    case c2=>intro u hu;simp at hu;subst hu;rfl
    case c3=>unfold maxLen;omega
    case c4=>omega
    case c5=>simp;omega
    intro v' w2 hown' hgrow _
    have hne:v.ownBlock≠some b:=by
     intro e
     obtain ⟨h1,_⟩:=hown.lt _ e
     omega
    have hb2:Own w2 b 63 #[v]:=by
     have:=hgrow.block b (by simp;omega) (fun e=>hne e.symm)
     exact this.trans (HK.out.alloc _)
    have d0:w2.cell? ⟨b,0,none⟩=some v:=by rw [cell_of_row _ _ 0 _ _ _ hb2];rfl
    have f1:w2.frozen? ⟨b,0,none⟩=false:=own_frozen hb2 0
    obtain ⟨ao,n',cap,rfl⟩:∃ ao n' cap,v'=.slice ao n' cap:=by
     rcases hown'.2 with ⟨hv,_⟩ | ⟨g,cap,cur,hv,_⟩
     · exact ⟨_,_,_,hv⟩
     · exact ⟨_,_,_,hv⟩
    have kG:Keep (selW b) w w2:=(HKP.out.trans (keep_below ((Below.refl _ wr).alloc (Nat.le_refl _) _))).grown hgrow (row_bytesW hown b (fun k o hk ho=>(Below.heap_alloc _ _ _ hk).trans ho))
    have HB2:=Lib.hid hb2
    have hcc:(UInt8.ofNat c).toNat=c:=by rw [UInt8.toNat_ofNat'];omega
    have HO:Hid (w2.ownsRow (b+1) 5 1 (.slice ao n' cap) (cur++[UInt8.ofNat c]).length (Lib.byteCells (cur++[UInt8.ofNat c]))):=by
     rw [Hid,← bytes_append,List.length_append]
     have e:Lib.byteCells [UInt8.ofNat c]=[.int .u8 (c:Int)]:=by
      simp only [Lib.byteCells,List.map_cons,List.map_nil,hcc]
     rw [e]
     exact hown'
    have HB:Hid (Below b w w2):=(HBL.out.alloc (by omega) _).grown hgrow (by simp;omega) (fun k hk=>by have:=(hown.lt k hk).1;omega)
    have HKG:=Lib.hid kG
    clear hb2 hown' hgrow hne kG hcc
    have HYQ:Hid (Yq w b (cur++[UInt8.ofNat c]) (w2.setCell ⟨b,0,none⟩ (.slice ao n' cap))) :=
     ⟨⟨_,heap_setCell_same w2 b 0 _ _ _ HB2.out,ownsRow_setCell_below HO.out (show b<b+1 by omega) _⟩,HKG.out.setCell (p:=⟨b,0,none⟩) _ HB2.out (fun hs=>hs.1 rfl),HB.out.setCell (p:=⟨b,0,none⟩) (Nat.le_refl b) _⟩
    clear HO HB HKG HB2
    go_wp2_with fail
    go_roundg (f'+1)
    case measure=>have:=HM.out;omega
    case rel=>exact ⟨f',m / 128,cur++[UInt8.ofNat c],by simp,hm3,by omega,by omega,rfl,HCT2.out,by simp;omega,HYQ.out⟩
  · have hbig2 : m ≤ 127 := by omega
    have HCT2:Hid (txt++dgT n=cur++[UInt8.ofNat m]):=by rw [Hid,HCT.out,dg,if_pos hbig2]
    go_wp2_with (at_builtin;refine wpList_append_own _ rfl _ _ 26 rfl (b+1) 5 i0 (.int .u8 0) 1 1 Tryz.underlying26 hi hz0 hz1 hz2 rfl (by decide) v cur.length (Lib.byteCells cur) rfl (hown.alloc _) ⟨wr.heap.size,0,none⟩ 1 1 [.int .u8 (m:Int)] rfl rfl ?c1 ?c2 ?c3 ?c4 ?c5 ?_)
    case c2=>rfl
    case c3=>unfold maxLen;omega
    case c4=>omega
    case c5=>omega
    intro v' w2 hown' hgrow _
    have hne:v.ownBlock≠some b:=by
     intro e
     obtain ⟨h1,_⟩:=hown.lt _ e
     omega
    have hb2:Own w2 b 63 #[v]:=by
     have:=hgrow.block b (by simp;omega) (fun e=>hne e.symm)
     exact this.trans (HK.out.alloc _)
    have d0:w2.cell? ⟨b,0,none⟩=some v:=by rw [cell_of_row _ _ 0 _ _ _ hb2];rfl
    have f1:w2.frozen? ⟨b,0,none⟩=false:=own_frozen hb2 0
    obtain ⟨ao,n',cap,rfl⟩:∃ ao n' cap,v'=.slice ao n' cap:=by
     rcases hown'.2 with ⟨hv,_⟩ | ⟨g,cap,cur,hv,_⟩
     · exact ⟨_,_,_,hv⟩
     · exact ⟨_,_,_,hv⟩
    have kG:Keep (selW b) w w2:=(HKP.out.trans (keep_below ((Below.refl _ wr).alloc (Nat.le_refl _) _))).grown hgrow (row_bytesW hown b (fun k o hk ho=>(Below.heap_alloc _ _ _ hk).trans ho))
    have HB2:=Lib.hid hb2
    have hcc:(UInt8.ofNat m).toNat=m:=by rw [UInt8.toNat_ofNat'];omega
    have HO:Hid (w2.ownsRow (b+1) 5 1 (.slice ao n' cap) (cur++[UInt8.ofNat m]).length (Lib.byteCells (cur++[UInt8.ofNat m]))):=by
     rw [Hid,← bytes_append,List.length_append]
     have e:Lib.byteCells [UInt8.ofNat m]=[.int .u8 (m:Int)]:=by
      simp only [Lib.byteCells,List.map_cons,List.map_nil,hcc]
     rw [e]
     exact hown'
    have HB:Hid (Below b w w2):=(HBL.out.alloc (by omega) _).grown hgrow (by simp;omega) (fun k hk=>by have:=(hown.lt k hk).1;omega)
    have HKG:=Lib.hid kG
    clear hb2 hown' hgrow hne kG hcc
    go_wp2
    exact bodyPost_end (results_none rfl _ _ _) rfl ⟨rfl,by
     rw [HCT2.out]
     exact ⟨⟨_,heap_setCell_same w2 b 0 _ _ _ HB2.out,ownsRow_setCell_below HO.out (show b<b+1 by omega) _⟩,HKG.out.setCell (p:=⟨b,0,none⟩) _ HB2.out (fun hs=>hs.1 rfl),HB.out.setCell (p:=⟨b,0,none⟩) (Nat.le_refl b) _⟩⟩
open Go.RowKit
set_option linter.unusedVariables false
set_option maxRecDepth 100000
theorem Yq.num {w W:World} {b:Nat} {t:List UInt8} (h:Yq w b t W) {a:Addr} {x:Int} (hx:Nm b w a x):Nm b W a x∧W.cell? a=some (.int .i64 x):=by
 obtain ⟨g,o,ty,row,rfl,ho,hg,hn,hr⟩:=hx
 have h2:=h.own ho hg hn
 exact ⟨⟨g,o,ty,row,rfl,h2,hg,hn,hr⟩,by rw [cell_of_row _ _ o _ _ _ h2];exact hr⟩
def u64 (x:Int):Nat:=(x % 18446744073709551616).toNat
def numY (x:Int):List UInt8:=dgT (u64 x)
def wrdY (x:Int):List UInt8:=dgT (Lib.zigzag x)
theorem y_num {w:World} {b:Nat} {txt:List UInt8} {W:World} (hq:Yq w b txt W) {g o:Nat} {x:Int} (hx:Nm b w ⟨g,o,none⟩ x) (h0 : -9223372036854775808≤x∧x≤9223372036854775807) (hlen:txt.length≤70000000000000) :
 Calls Tryz.prog 111 #[.pointer (some ⟨b,0,none⟩),.pointer (some ⟨g,o,none⟩)] W fun e w'=>e=.returned (.tuple #[])∧Yq w b (txt++numY x) w':=by
 have hc:=(hq.num hx).2
 have hu:((x % 18446744073709551616:Int))=((u64 x:Nat):Int):=by unfold u64;omega
 have hu2:u64 x≤18446744073709551615:=by unfold u64;omega
 have HD:Hid (∀ n:Int,n=(u64 x:Nat)→Calls Tryz.prog 112 #[.pointer (some ⟨b,0,none⟩),.int .u64 n] W fun e w'=>e=.returned (.tuple #[])∧Yq w b (txt++numY x) w'):=fun n h=>by
  subst h
  exact (y_digits hq.wt _ hu2 (by omega)).mono fun _ _ ⟨h1,h2⟩=>⟨h1,hq.trans h2⟩
 clear hx hq
 go_enter Tryz.func111,Tryz.ntmps111
 go_wp2_with fail
 go_at_call 112
 refine (HD.out _ (by rw [IntKind.wrap_u64];exact hu)).mono ?_
 rintro e w2 ⟨rfl,hz⟩
 have HZ:=Lib.hid hz
 clear hz
 go_wp2_with fail
 exact bodyPost_end (results_none rfl _ _ _) rfl ⟨rfl,HZ.out⟩
theorem y_wrd {w:World} {b:Nat} {txt:List UInt8} {W:World} (hq:Yq w b txt W) {g o:Nat} {x:Int} (hx:Nm b w ⟨g,o,none⟩ x) (h0 : -9223372036854775808≤x∧x≤9223372036854775807) (hlen:txt.length≤70000000000000) :
 Calls Tryz.prog 66 #[.pointer (some ⟨b,0,none⟩),.pointer (some ⟨g,o,none⟩)] W fun e w'=>e=.returned (.tuple #[])∧Yq w b (txt++wrdY x) w':=by
 have hc:=(hq.num hx).2
 have hu2:Lib.zigzag x≤18446744073709551615:=Nat.le_of_lt_succ (Lib.zigzag_lt h0.1 h0.2)
 have HD:Hid (∀ n:Int,n=(Lib.zigzag x:Nat)→Calls Tryz.prog 112 #[.pointer (some ⟨b,0,none⟩),.int .u64 n] W fun e w'=>e=.returned (.tuple #[])∧Yq w b (txt++wrdY x) w'):=fun n h=>by
  subst h
  exact (y_digits hq.wt _ hu2 (by omega)).mono fun _ _ ⟨h1,h2⟩=>⟨h1,hq.trans h2⟩
 clear hx hq
 by_cases hneg:x<0
 · go_enter Tryz.func66, Tryz.ntmps66
   go_wp2_with fail
   go_at_call 112
   refine (HD.out _ (Lib.zigzag_neg h0.1 hneg)).mono ?_
   rintro e w2 ⟨rfl,hz⟩
   have HZ:=Lib.hid hz
   clear hz
   go_wp2_with fail
   exact bodyPost_end (results_none rfl _ _ _) rfl ⟨rfl,HZ.out⟩
 · go_enter Tryz.func66, Tryz.ntmps66
   go_wp2_with fail
   go_at_call 112
   refine (HD.out _ ((Lib.zigzag_nonneg (by omega)).symm)).mono ?_
   rintro e w2 ⟨rfl,hz⟩
   have HZ:=Lib.hid hz
   clear hz
   go_wp2_with fail
   exact bodyPost_end (results_none rfl _ _ _) rfl ⟨rfl,HZ.out⟩
end Go.Proofs.YtmpljhfinmfnbaaGreatDoor

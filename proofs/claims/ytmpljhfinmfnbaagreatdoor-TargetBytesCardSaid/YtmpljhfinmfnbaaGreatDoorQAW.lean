/- The proof, part 23: texts that belong together, in one. -/
import Derived.Test.YtmpljhfinmfnbaaGreatDoorQAV
import Derived.Test.YtmpljhfinmfnbaaGreatDoorQAM
set_option maxRecDepth 100000
set_option maxHeartbeats 20000000
namespace Go.Proofs.YtmpljhfinmfnbaaGreatDoor
open Go.RowKit
set_option linter.unusedVariables false
set_option maxRecDepth 100000
theorem wp_ldI {o:Oper} {a:Act} {w:World} {K:Act→World→Prop} {Q:Exit→Act→World→Prop} {x:Operand} (ho:o.op=.load 22 x) {p:Addr} (hx:a.eval x=.pointer (some p)) {v:Value} (hv:w.cell? p=some v) (h:K (a.put o.dst v) w):o.wp Tryz.prog a w K Q:=by
 have hrun:(execOp a.eval o).run Tryz.prog w=.ok (.value v) w:=by
  unfold execOp
  simp only [ho,hx]
  go_simp
 unfold Oper.wp
 rw [hrun]
 exact h
theorem wp_stI {o:Oper} {a:Act} {w:World} {K:Act→World→Prop} {Q:Exit→Act→World→Prop} {x y:Operand} (ho:o.op=.store 22 x y) {p:Addr} (hx:a.eval x=.pointer (some p)) {s:Option Addr} {n cp:Nat} (hy:a.eval y=.slice s n cp) {u:Value} (hu:w.cell? p=some u) (hf:w.frozen? p=false) (h:K (a.put o.dst undef) (w.setCell p (.slice s n cp))):o.wp Tryz.prog a w K Q:=by
 have hrun:(execOp a.eval o).run Tryz.prog w=.ok .skip (w.setCell p (.slice s n cp)):=by
  unfold execOp
  simp only [ho,hx,hy]
  go_simp
 unfold Oper.wp
 rw [hrun]
 exact h
theorem mm_kept {w X:World} {B p g b c:Nat} {t:Pst} {o:Ob} {v1 v5:Value} {L:List (Cor × Value)} (x:Int) (hX:Rq w B p g b (t,o) X) (hr:RdS B g o v1 v5 L X) (hc:Own X c 2 #[.int .i64 x]) (hne:v1.ownBlock≠some c) (hn:o.mem.length≤1000000) (hB:B≤p) (hB2:B≤g) :
 Calls Tryz.prog 170 #[v1,.int .i64 x,.int .i64 4096] X fun e w'=>∃ a n cp,e=.returned (.slice a n cp)∧(∃ u,w'.cell? ⟨g,0,none⟩=some u)∧w'.frozen? ⟨g,0,none⟩=false∧w'.cell? ⟨c,0,none⟩=some (.int .i64 x)∧(w'.setCell ⟨g,0,none⟩ (.slice a n cp)).cell? ⟨c,0,none⟩=some (.int .i64 x)∧Rq w B p g b (t,{ o with mem:=keepL o.mem x 4096 }) (w'.setCell ⟨g,0,none⟩ (.slice a n cp)):=by
 have hBX:B≤X.heap.size:=Nat.le_trans hB (Nat.le_of_lt hX.rp.own.lt)
 refine (kept_w x hr.mem hBX hn 4096 (by omega) (by omega)).mono fun e w' hk=>?_
 obtain ⟨v',rfl,hg,hr2⟩:=kept_use hr.mem hk
 have hr3:w'.ownsRow B 2 1 v' (keepL o.mem x 4096).length ((keepL o.mem x 4096).map fun x=>Value.int .i64 x):=by
  rw [keep_len2,keep_mem]
  exact hr2
 obtain ⟨a1,c1,rfl⟩:=row_slice hr2
 have ho:=own_grow hr.own hr.mem rfl hg
 have hcg:Own w' c 2 #[.int .i64 x]:=(hg.block c hc.lt (fun e=>hne e.symm)).trans hc
 have hgc:g≠c:=own_ne ho hcg rfl
 exact ⟨_,_,_,rfl,⟨_,by rw [cell_of_row _ _ 0 _ _ _ ho];rfl⟩,own_frozen ho 0,by rw [cell_of_row _ _ 0 _ _ _ hcg];rfl,by rw [cell_of_row _ _ 0 _ _ _ (own_set_other hcg hgc _)];rfl,hX.put hr.mem rfl rfl hg ho rfl rfl hB2 hB _ _ ⟨_,v5,L,hr.setMem hg hr3⟩⟩
theorem cut_less (s:ByteArray) (c:UInt8) (h:(cutA s c).2.2=true):(cutA s c).2.1.size+1≤s.size:=by
 have hi:=idx_lt s.data.toList c
 have h2:s.data.toList.length=s.size:=Array.length_toList
 unfold cutA at h ⊢
 split at h
 · next h0 =>
   rw [if_pos h0]
   simp only [ByteArray.size_extract]
   omega
 · simp at h
theorem wd_less (s:Pst) (h:s.more=true) (h2:(wdS s).2.more=true):(wdS s).2.rest.size+1≤s.rest.size:=by
 have e1:∀ (t:ByteArray) (s:Pst),(valS t s).2.more=s.more:=fun t s=>by
  unfold valS
  show (if _ then _ else _:Pst).more=_
  split <;> rfl
 unfold wdS at h2 ⊢
 rw [val_size]
 rw [e1] at h2
 have hn:nextS s=((cutA s.rest 32).1,⟨(cutA s.rest 32).2.1,(cutA s.rest 32).2.2,s.bad⟩):=by unfold nextS;rw [if_pos h]
 rw [hn] at h2 ⊢
 exact cut_less _ _ h2
theorem mmS_stop (n:Nat) (y:Pst × Ob) (h:y.1.more=false):mmS n y=y:=by
 cases n with
 | zero=>rfl
 | succ n=>unfold mmS;rw [if_neg (by rw [h];simp)]
theorem mmS_step (n:Nat) (y:Pst × Ob) (h:y.1.more=true):mmS (n+1) y=mmS n (mmF y):=by
 show (if _ then _ else _)=_
 rw [if_pos h]
theorem t_memory {w:World} {B p g:Nat} {y:Pst × Ob} (h:Rp w B p g y w) (hs:y.1.rest.size≤4611686018427387904) (hn:y.2.mem.length≤4097) (N:Nat) (hN:y.1.rest.size+1≤N) (hB:B≤p) (hB2:B≤g) :
 Calls Tryz.prog 155 #[.pointer (some ⟨g,0,none⟩),.agg #[.pointer (some ⟨p,0,none⟩)]] w fun e w'=>e=.returned (.bool (doneB (mmS N y).1))∧Rp w B p g (mmS N y) w':=by
 have hq0:=h.box hB
 have hn1:w.heap.size≠p:=by have:=h.own.lt;omega
 have HW:Hid (∀ (X:World) (z:Pst × Ob) v1 v5 L,Rq w B p g w.heap.size z X→RdS B g z.2 v1 v5 L X→z.1.rest.size≤4611686018427387904→Calls Tryz.prog 169 #[.pointer (some ⟨p,0,none⟩),.pointer (some ⟨X.heap.size,0,none⟩)] (X.alloc (.cells #[.int .i64 0] 2)) fun e W=>e=.returned (.tuple #[])∧Rq w B p g w.heap.size ((wdS z.1).2,z.2) W∧RdS B g z.2 v1 v5 L W∧Own W X.heap.size 2 #[.int .i64 (wdS z.1).1]):=fun X z v1 v5 L hX hr hs=>by
  have hnp:X.heap.size≠p:=by have:=hX.rp.own.lt;omega
  have hnb:w.heap.size≠X.heap.size:=by have:=hX.bx.lt;omega
  have al:=(Below.refl _ X).alloc (Nat.le_refl _) (.cells #[.int .i64 0] 2)
  have hBX:B≤X.heap.size:=by have:=hX.rp.own.lt;omega
  refine (p_word (B:=B) (hX.rp.own.below al) hs (Own.new X 2 #[.int .i64 0]) hnp (u:=.int .i64 0) rfl hB hBX).mono fun e W ⟨e1,k⟩=>?_
  have hk:=keep_fresh k.keep
  exact ⟨e1,⟨hX.rp.line k.own hk ((al.mono hBX).trans k.bel),k.other (hX.bx.below al) hn1 hnb⟩,hr.keep hX.rp.own hX.rp.ne rfl rfl rfl hk,k.dst⟩
 have HMO:Hid (∀ X (y:Pst × Ob),Rq w B p g w.heap.size y X→Calls Tryz.prog 168 #[.pointer (some ⟨p,0,none⟩)] X fun e w'=>e=.returned (.bool y.1.more)∧X=w'):=fun X y h1=>p_more h1.rp.own
 have HDN:Hid (∀ X (y:Pst × Ob),Rq w B p g w.heap.size y X→Calls Tryz.prog 167 #[.pointer (some ⟨p,0,none⟩)] X fun e w'=>e=.returned (.bool (doneB y.1))∧X=w'):=fun X y h1=>p_done h1.rp.own
 have HK:Hid (∀ (X:World) (c:Nat) (t:Pst) (o:Ob) v1 v5 L (x:Int),Rq w B p g w.heap.size (t,o) X→RdS B g o v1 v5 L X→Own X c 2 #[.int .i64 x]→v1.ownBlock≠some c→o.mem.length≤4097→Calls Tryz.prog 170 #[v1,.int .i64 x,.int .i64 4096] X fun e w'=>∃ a n cp,e=.returned (.slice a n cp)∧(∃ u,w'.cell? ⟨g,0,none⟩=some u)∧w'.frozen? ⟨g,0,none⟩=false∧w'.cell? ⟨c,0,none⟩=some (.int .i64 x)∧(w'.setCell ⟨g,0,none⟩ (.slice a n cp)).cell? ⟨c,0,none⟩=some (.int .i64 x)∧Rq w B p g w.heap.size (t,{ o with mem:=keepL o.mem x 4096 }) (w'.setCell ⟨g,0,none⟩ (.slice a n cp))):=fun X c t o v1 v5 L x h1 h2 h3 h4 h5=>mm_kept x h1 h2 h3 h4 (by omega) hB hB2
 obtain ⟨F,hF⟩:∃ F,F=mmS N y:=⟨_,rfl⟩
 rw [← hF]
 obtain ⟨W0,hW0⟩:∃ W,W=w.alloc (.cells #[.pointer (some ⟨p,0,none⟩)] 235):=⟨_,rfl⟩
 rw [← hW0] at hq0
 have HW0:=Lib.hid hW0
 have HBP:=Lib.hid hB
 have HP0:Hid (∃ y',Rq w B p g w.heap.size y' W0∧mmS N y'=F∧(y'.1.more=true→y'.1.rest.size+1≤N)∧y'.1.rest.size≤4611686018427387904∧y'.2.mem.length≤4097):=⟨y,hq0,hF.symm,fun _=>hN,hs,hn⟩
 clear h hs hn hN hB hB2 hq0 hn1 hW0 hF
 go_enter Tryz.func155,Tryz.ntmps155
 go_upto_region 1 with (fail)
 rw [← HW0.out]
 clear HW0
 go_loopg [] N (fun m' X=>∃ y',Rq w B p g w.heap.size y' X∧mmS m' y'=F∧(y'.1.more=true→y'.1.rest.size+1≤m')∧y'.1.rest.size≤4611686018427387904∧y'.2.mem.length≤4097)
 case atStart=>exact HP0.out
 case round =>
  clear HP0
  obtain ⟨z,hq,hf,hm,hsz,hln⟩:=hrel
  have c0:wr.cell? ⟨w.heap.size,0,none⟩=some (.pointer (some ⟨p,0,none⟩)):=by rw [cell_of_row _ _ 0 _ _ _ hq.bx];rfl
  cases hmo:z.1.more with
  | false =>
    have HQ:=Lib.hid hq
    have HMO2:Hid (Calls Tryz.prog 168 #[.pointer (some ⟨p,0,none⟩)] wr fun e w'=>e=.returned (.bool false)∧wr=w'):=by rw [← hmo];exact HMO.out _ _ hq
    obtain rfl:z=F:=(mmS_stop _ _ hmo).symm.trans hf
    clear hf hm hsz hln hmo hq
    go_wp2_with (first | (go_at_call 168;refine HMO2.out.mono ?_;rintro e w' ⟨rfl,rfl⟩) | (go_at_call 167;refine (HDN.out _ _ HQ.out).mono ?_;rintro e w4 ⟨rfl,rfl⟩))
    go_ret
    exact ⟨rfl,HQ.out.rp⟩
  | true =>
    have hm2:=hm hmo
    obtain ⟨n,rfl⟩:∃ n,gk=n+1:=⟨gk-1,by omega⟩
    rw [mmS_step _ _ hmo] at hf
    have HF:=Lib.hid hf
    have HMO2:Hid (Calls Tryz.prog 168 #[.pointer (some ⟨p,0,none⟩)] wr fun e w'=>e=.returned (.bool true)∧wr=w'):=by rw [← hmo];exact HMO.out _ _ hq
    have HLESS:Hid ((wdS z.1).2.more=true→(wdS z.1).2.rest.size+1≤n):=fun h=>by have:=wd_less _ hmo h;omega
    have HSZ2:Hid ((wdS z.1).2.rest.size≤4611686018427387904):=Nat.le_trans (wd_size _) hsz
    have HLN:=Lib.hid hln
    obtain ⟨v1,v5,L,hr⟩:=hq.rp.rd
    have HWW:=Lib.hid (HW.out _ _ _ _ _ hq hr hsz)
    have HNE:Hid (v1.ownBlock≠some wr.heap.size):=fun e=>by have:=(row_lt hr.mem e).2;omega
    have hmmF:mmF z=((wdS z.1).2,{ z.2 with mem:=keepL z.2.mem (wdS z.1).1 4096 }):=rfl
    rw [hmmF] at HF
    generalize wdS z.1=r at HF HLESS HSZ2 HWW
    obtain ⟨x,s1⟩:=r
    obtain ⟨s0,o⟩:=z
    simp only at HF HLESS HSZ2 HWW HLN hr
    have al:=(Below.refl _ wr).alloc (Nat.le_refl _) (.cells #[.int .i64 0] 2)
    have c1:(wr.alloc (.cells #[.int .i64 0] 2)).cell? ⟨w.heap.size,0,none⟩=some (.pointer (some ⟨p,0,none⟩)):=by rw [cell_of_row _ _ 0 _ _ _ (hq.bx.below al)];rfl
    obtain ⟨W1,hW1⟩:∃ W,W=wr.alloc (.cells #[.int .i64 0] 2):=⟨_,rfl⟩
    rw [← hW1] at c1 HWW
    have HW1:=Lib.hid hW1
    generalize hc:wr.heap.size=c at HNE HWW
    clear hq hf hm hsz hln hmo hmmF hr al hm2 hW1
    go_upto_region 3 with (go_at_call 168;refine HMO2.out.mono ?_;rintro e w' ⟨rfl,rfl⟩)
    rw [← HW1.out]
    clear HW1 c0 HMO2 hc
    go_wp2_with (go_at_call 169;refine HWW.out.mono ?_;rintro e w2 ⟨rfl,hq2,hr2,hc2⟩)
    have HQ2:=Lib.hid (hq2.below (below_drewN (Below.refl _ w2) 1) HBP.out)
    have HR2:=Lib.hid (hr2.below (below_drewN (Below.refl _ w2) 1))
    have HC2:=Lib.hid (hc2.below (below_drewN (Below.refl _ w2) 1))
    clear hq2 hr2 hc2 HWW c1
    refine wp_region_held (S:=fun V=>V.cell? ⟨c,0,none⟩=some (.int .i64 x)) (by kernel_rfl) ?_
    change wpAnyH _ _ _ _ _ _ _ _ w2.drew
    change Hid (Rq _ _ _ _ _ _ w2.drew) at HQ2
    change Hid (RdS _ _ _ _ _ _ w2.drew) at HR2
    change Hid (Own w2.drew _ _ _) at HC2
    obtain ⟨W3,hW3⟩:∃ W,W=w2.drew:=⟨_,rfl⟩
    rw [← hW3] at HQ2 HR2 HC2 ⊢
    clear hW3
    have HSX:Hid (W3.cell? ⟨c,0,none⟩=some (.int .i64 x)):=by rw [Hid,cell_of_row _ _ 0 _ _ _ HC2.out];rfl
    obtain ⟨a1,c1,rfl⟩:=row_slice HR2.out.mem
    have d0:W3.cell? ⟨g,0,none⟩=some (.slice a1 o.mem.length c1):=by rw [cell_of_row _ _ 0 _ _ _ HR2.out.own];rfl
    change wpAnyH _ _ _ _ _ _ _ { tmps:=List.toArray (_::_::_::_::_::_::_::_::_::_::_::_::_::_::_::_::_::_::_::_::_::_::_::_::_::_::[]),defers:=[] } _
    refine dr_take 0 (.pointer (some ⟨g,0,none⟩)) rfl rfl (by kernel_rfl) (by kernel_rfl) (by kernel_rfl) (fun _ _ _ h=>h) (fun _ _=>by unfold execOp;go_simp) HSX.out ?_
    change wpAnyH _ _ _ _ _ _ _ { tmps:=List.toArray (_::_::_::_::_::_::_::_::_::_::_::_::_::_::_::_::_::_::_::_::_::_::_::_::_::_::[]),defers:=[] } _
    refine dr_take 1 (.pointer (some ⟨g,0,none⟩)) rfl rfl (by kernel_rfl) (by kernel_rfl) (by kernel_rfl) (fun _ _ _ h=>h) (fun _ _=>by unfold execOp;go_simp) HSX.out ?_
    change wpAnyH _ _ _ _ _ _ _ { tmps:=List.toArray (_::_::_::_::_::_::_::_::_::_::_::_::_::_::_::_::_::_::_::_::_::_::_::_::_::_::[]),defers:=[] } _
    refine dr_take 2 (.pointer (some ⟨g,0,none⟩)) rfl rfl (by kernel_rfl) (by kernel_rfl) (by kernel_rfl) (fun _ _ _ h=>h) (fun _ _=>by unfold execOp;go_simp) HSX.out ?_
    change wpAnyH _ _ _ _ _ _ _ { tmps:=List.toArray (_::_::_::_::_::_::_::_::_::_::_::_::_::_::_::_::_::_::_::_::_::_::_::_::_::_::[]),defers:=[] } _
    refine dr_take 3 (.pointer (some ⟨g,0,none⟩)) rfl rfl (by kernel_rfl) (by kernel_rfl) (by kernel_rfl) (fun _ _ _ h=>h) (fun _ _=>by unfold execOp;go_simp) HSX.out ?_
    change wpAnyH _ _ _ _ _ _ _ { tmps:=List.toArray (_::_::_::_::_::_::_::_::_::_::_::_::_::_::_::_::_::_::_::_::_::_::_::_::_::_::[]),defers:=[] } _
    refine dr_take 4 (.pointer (some ⟨g,0,none⟩)) rfl rfl (by kernel_rfl) (by kernel_rfl) (by kernel_rfl) (fun _ _ _ h=>h) (fun _ _=>by unfold execOp;go_simp) HSX.out ?_
    change wpAnyH _ _ _ _ _ _ _ { tmps:=List.toArray (_::_::_::_::_::_::_::_::_::_::_::_::_::_::_::_::_::_::_::_::_::_::_::_::_::_::[]),defers:=[] } _
    refine dr_take 6 (.int .i64 x) rfl rfl (by kernel_rfl) (by kernel_rfl) (by kernel_rfl) (fun _ _ _ h=>h) (fun _ h=>by unfold execOp;go_simp) HSX.out ?_
    change wpAnyH _ _ _ _ _ _ _ { tmps:=List.toArray (_::_::_::_::_::_::_::_::_::_::_::_::_::_::_::_::_::_::_::_::_::_::_::_::_::_::[]),defers:=[] } _
    refine dr_one 5 rfl rfl (by kernel_rfl) ?_
    refine wp_ldI rfl rfl d0 ⟨HSX.out,?_⟩
    change wpAnyH _ _ _ _ _ _ _ { tmps:=List.toArray (_::_::_::_::_::_::_::_::_::_::_::_::_::_::_::_::_::_::_::_::_::_::_::_::_::_::[]),defers:=[] } _
    refine dr_one 7 rfl rfl (by kernel_rfl) ?_
    refine wp_callT (vs:=#[.slice a1 o.mem.length c1,.int .i64 x,.int .i64 4096]) rfl rfl (enters_of Tryz.func170 (by kernel_rfl) rfl) (by simp [Act.eval]) (HK.out _ _ _ _ _ _ _ _ HQ2.out HR2.out HC2.out HNE.out HLN.out) ?_
    rintro e w4 ⟨a6,n6,c6,rfl,⟨u,d4⟩,f4,e4,e5,hq4⟩
    have HX4:=Lib.hid e4
    have HX5:=Lib.hid e5
    clear e4 e5
    refine ⟨HX4.out,?_⟩
    change wpAnyH _ _ _ _ _ _ _ { tmps:=List.toArray (_::_::_::_::_::_::_::_::_::_::_::_::_::_::_::_::_::_::_::_::_::_::_::_::_::_::[]),defers:=[] } _
    refine dr_one 8 rfl rfl (by kernel_rfl) ?_
    refine wv_val (v:=.pointer (some ⟨g,0,none⟩)) (by unfold execOp;go_simp) ⟨HX4.out,?_⟩
    change wpAnyH _ _ _ _ _ _ _ { tmps:=List.toArray (_::_::_::_::_::_::_::_::_::_::_::_::_::_::_::_::_::_::_::_::_::_::_::_::_::_::[]),defers:=[] } _
    refine dr_one 9 rfl rfl (by kernel_rfl) ?_
    refine wv_val (v:=.pointer (some ⟨g,0,none⟩)) (by unfold execOp;go_simp) ⟨HX4.out,?_⟩
    change wpAnyH _ _ _ _ _ _ _ { tmps:=List.toArray (_::_::_::_::_::_::_::_::_::_::_::_::_::_::_::_::_::_::_::_::_::_::_::_::_::_::[]),defers:=[] } _
    refine dr_one 10 rfl rfl (by kernel_rfl) ?_
    refine wv_val (v:=.pointer (some ⟨g,0,none⟩)) (by unfold execOp;go_simp) ⟨HX4.out,?_⟩
    change wpAnyH _ _ _ _ _ _ _ { tmps:=List.toArray (_::_::_::_::_::_::_::_::_::_::_::_::_::_::_::_::_::_::_::_::_::_::_::_::_::_::[]),defers:=[] } _
    refine dr_one 11 rfl rfl (by kernel_rfl) ?_
    refine wp_stI rfl rfl rfl d4 f4 ⟨HX5.out,?_⟩
    refine wpAnyH_done (by kernel_rfl) ?_ _
    have HQE:=Lib.hid hq4
    clear hq4 HQ2 HR2 HC2 HSX HX4 HX5 HNE
    go_wp2_with fail
    go_roundg n
    case measure=>omega
    case rel=>exact ⟨_,HQE.out,HF.out,HLESS.out,HSZ2.out,keep_len _ _ 4096 HLN.out⟩
end Go.Proofs.YtmpljhfinmfnbaaGreatDoor

/- The proof, part 41: texts that belong together, in one. -/
import Derived.Test.YtmpljhfinmfnbaaGreatDoorQBN
set_option maxRecDepth 100000
set_option maxHeartbeats 20000000
namespace Go.Proofs.YtmpljhfinmfnbaaGreatDoor
open Go.RowKit
set_option linter.unusedVariables false
set_option maxRecDepth 100000
theorem head4 {x0 x1 x2 x3:UInt8} {r:List UInt8} : (x0::x1::x2::x3::r).take 4=magic↔((x0.toNat:Int)=115∧(x1.toNat:Int)=116∧(x2.toNat:Int)=105∧(x3.toNat:Int)=108):=by
 unfold magic
 simp only [List.take_succ_cons,List.take_zero,List.cons.injEq,and_true]
 rw [← UInt8.toNat_inj,← UInt8.toNat_inj,← UInt8.toNat_inj,← UInt8.toNat_inj]
 show x0.toNat=115∧x1.toNat=116∧x2.toNat=105∧x3.toNat=108↔_
 omega
theorem four_of:∀ {l:List UInt8},¬ l.length<4→∃ x0 x1 x2 x3 r,l=x0::x1::x2::x3::r
 | [],h=>absurd (by decide) h
 | [_],h=>absurd (by simp) h
 | [_,_],h=>absurd (by simp) h
 | [_,_,_],h=>absurd (by simp) h
 | x0::x1::x2::x3::r,_=>⟨x0,x1,x2,x3,r,rfl⟩
theorem Cn.row {w X:World} {p g:Nat} {L:List UInt8} {a:Option Addr} {c:Nat} {s:Bst} {rc:Array Value} (h:Cn w p g L a c s rc X) (r2:Array Value):Cn w p g L a c s r2 (X.setRow g r2):=by
 have hw:=h.wg
 have hb:∀ k,k≠g→(X.setRow g r2).heap[k]? = X.heap[k]?:=fun k hk=>setRow_other r2 hk
 exact ⟨h.rds.past h.pw (by rw [size_setRow];exact Nat.le_refl _) rfl rfl rfl fun k hk=>hb k (by omega),h.cx.row r2,h.wg,h.pw⟩
theorem Cn.atk {w X:World} {p g:Nat} {L:List UInt8} {a:Option Addr} {c k:Nat} {d:Bool} {rc:Array Value} (h:Cn w p g L a c (L.drop k,d) rc X) (hk:k≤L.length):X.cell? ⟨p,1,none⟩=some (.int .i64 (k:Int))∧X.frozen? ⟨p,1,none⟩=false∧X.cell? ⟨p,2,none⟩=some (.bool d)∧BsA p X L a:=by
 obtain ⟨m,d2,e,hm,_,p1,p2,f1,_,hb⟩:=h.at
 injection e with e1 e2
 have:=congrArg List.length e1
 rw [List.length_drop,List.length_drop] at this
 obtain rfl:m=k:=by omega
 rw [e2]
 exact ⟨p1,f1,p2,hb⟩
theorem Ds.atk {w X:World} {p q:Nat} {L:List UInt8} {a:Option Addr} {c k:Nat} {d:Bool} {ro:Array Value} (h:Ds w p q L a c (L.drop k,d) ro X) (hk:k≤L.length):X.cell? ⟨p,1,none⟩=some (.int .i64 (k:Int))∧X.cell? ⟨p,2,none⟩=some (.bool d):=by
 obtain ⟨m,d2,e,hm,_,p1,p2,_⟩:=h.at
 injection e with e1 e2
 have:=congrArg List.length e1
 rw [List.length_drop,List.length_drop] at this
 obtain rfl:m=k:=by omega
 rw [e2]
 exact ⟨p1,p2⟩
theorem insC_one (i:Ins):∀ u∈insC i,u.oneCell'=true:=by
 intro u hu
 unfold insC at hu
 simp only [List.mem_cons,List.not_mem_nil,or_false] at hu
 rcases hu with rfl | rfl | rfl | rfl | rfl | rfl | rfl | rfl | rfl <;> rfl
theorem run_conv {o:Oper} {a:Act} {X:World} {x:Operand} (ho:o.op=.convert 26 9 x) {v:Value} (hx:a.eval x=v) {s:ByteArray} (h:(convert 26 9 v).run Tryz.prog X=.ok (.string s) X):(execOp a.eval o).run Tryz.prog X=.ok (.value (.string s)) X:=by
 unfold execOp
 simp [ho,hx,h]
theorem wp_stS {o:Oper} {a:Act} {w:World} {K:Act→World→Prop} {Q:Exit→Act→World→Prop} {x y:Operand} (ho:o.op=.store 9 x y) {p:Addr} (hx:a.eval x=.pointer (some p)) {s:ByteArray} (hy:a.eval y=.string s) {u:Value} (hu:w.cell? p=some u) (hf:w.frozen? p=false) (h:K (a.put o.dst undef) (w.setCell p (.string s))):o.wp Tryz.prog a w K Q:=by
 have hrun:(execOp a.eval o).run Tryz.prog w=.ok .skip (w.setCell p (.string s)):=by
  unfold execOp
  simp only [ho,hx,hy]
  go_simp
 unfold Oper.wp
 rw [hrun]
 exact h
theorem DcV.rds {X Y:World} {p:Nat} {L:List UInt8} {a:Option Addr} {c:Nat} {t:Bst} {B:Nat} {o:Ob} {v1 v5:Value} {xs:List (Cor × Value)} (h:DcV B o v1 v5 xs X) (hp:p<B) (k:Rds X p L a c t Y):DcV B o v1 v5 xs Y :=
 h.stays fun g h1 h3=>by rw [k.keep.block g _ (Array.getElem?_eq_getElem h3) (by omega),Array.getElem?_eq_getElem h3]
theorem run_bsW {o:Oper} {a:Act} {w:World} {x:Operand} (ho:o.op=.buildSlice 22 1 #[(0,x)]) {n:Int} (hx:a.eval x=.int .i64 n):(execOp a.eval o).run Tryz.prog w=.ok (.value (.slice (some ⟨w.heap.size,0,none⟩) 1 1)) (w.alloc (.cells #[.int .i64 n] 2)):=by
 unfold execOp
 simp [ho,hx]
 go_simp
theorem run_bsI {o:Oper} {a:Act} {w:World} {x:Operand} (ho:o.op=.buildSlice 68 1 #[(0,x)]) {i:Ins} (hx:a.eval x=insV i):(execOp a.eval o).run Tryz.prog w=.ok (.value (.slice (some ⟨w.heap.size,0,none⟩) 1 1)) (w.alloc (.cells (insC i).toArray 75)):=by
 unfold execOp
 simp [ho,hx,insV,insC]
 go_simp
theorem wp_ldQ {o:Oper} {a:Act} {w:World} {K:Act→World→Prop} {Q:Exit→Act→World→Prop} {x:Operand} (ho:o.op=.load 68 x) {p:Addr} (hx:a.eval x=.pointer (some p)) {v:Value} (hv:w.cell? p=some v) (h:K (a.put o.dst v) w):o.wp Tryz.prog a w K Q:=by
 have hrun:(execOp a.eval o).run Tryz.prog w=.ok (.value v) w:=by
  unfold execOp
  simp only [ho,hx]
  go_simp
 unfold Oper.wp
 rw [hrun]
 exact h
theorem wp_stQ {o:Oper} {a:Act} {w:World} {K:Act→World→Prop} {Q:Exit→Act→World→Prop} {x y:Operand} (ho:o.op=.store 68 x y) {p:Addr} (hx:a.eval x=.pointer (some p)) {s:Option Addr} {n cp:Nat} (hy:a.eval y=.slice s n cp) {u:Value} (hu:w.cell? p=some u) (hf:w.frozen? p=false) (h:K (a.put o.dst undef) (w.setCell p (.slice s n cp))):o.wp Tryz.prog a w K Q:=by
 have hrun:(execOp a.eval o).run Tryz.prog w=.ok .skip (w.setCell p (.slice s n cp)):=by
  unfold execOp
  simp only [ho,hx,hy]
  go_simp
 unfold Oper.wp
 rw [hrun]
 exact h
theorem r_DecodeN (l:List UInt8) {a:Option Addr} {c:Nat} {w:World} (ha:bysAt w l a) (hc:l.length≤c) (hm:l.length≤1152921504606846976) (hmg:l.take 4≠magic) :
 Calls Tryz.prog 12 #[.slice a l.length c] w fun e w'=>∃ v,e=.returned (.tuple #[v,.int .i64 (decD l).2])∧DcO w.heap.size (decD l).1 v w'∧Below w.heap.size w w':=by
 obtain ⟨i0,hi,hz0,hz1,hz2⟩:=info_parts info_w
 obtain ⟨i1,hi1,hy0,hy1,hy2⟩:=info_parts info_i
 obtain ⟨i2,hi2,hx0,hx1,hx2⟩:=info_parts info_c
 have B0:=(Below.refl w.heap.size w).alloc (Nat.le_refl _) (.cells #[.slice none 0 0,.int .i64 0,.int .i64 0,.int .i64 0,.slice none 0 0] 25)
 have OR:=Own.new w 25 #[.slice none 0 0,.int .i64 0,.int .i64 0,.int .i64 0,.slice none 0 0]
 obtain ⟨W0,hW0⟩:∃ W,W=w.alloc (.cells #[.slice none 0 0,.int .i64 0,.int .i64 0,.int .i64 0,.slice none 0 0] 25):=⟨_,rfl⟩
 have hs0:W0.heap.size=w.heap.size+1:=by rw [hW0];simp
 rw [← hW0] at B0 OR
 have HW0:=Lib.hid hW0
 have HNO:Hid (l.take 4≠magic→decD l=(zOb,162)):=fun h=>decD_no h
 clear hW0
 by_cases hl4:l.length<4
 · have hlt : (l.length : Int) < 4 := by omega
   have HE:=Lib.hid (HNO.out (fun h=>by have:=congrArg List.length h;rw [List.length_take] at this;simp [magic] at this;omega))
   clear HNO hl4 ha
   go_enter Tryz.func12,Tryz.ntmps12
   go_upto_region 1 with fail
   rw [← HW0.out]
   clear HW0
   go_wp2_with (refine st rowO rfl rfl OR rfl rfl (by rfl) (by rfl) (by kernel_rfl) ?_)
   refine p_ret2 rowO rfl (OR.row #[.slice none 0 0,.int .i64 0,.int .i64 0,.int .i64 0,.slice none 0 0]) rfl rfl rfl rfl ?_
   rw [HE.out]
   exact ⟨_,rfl,⟨_,_,[],rfl,dcv_zero _ _⟩,Below.of_row B0 (Nat.le_refl _) _⟩
 obtain ⟨x0,x1,x2,x3,r,hl⟩:=four_of hl4
 have hge:¬ (l.length:Int)<4:=by omega
 have hh4:=head4 (x0:=x0) (x1:=x1) (x2:=x2) (x3:=x3) (r:=r)
 rw [← hl] at hh4
 rcases ha with e | ⟨g0,q0,rfl,hby⟩
 · rw [e] at hl4;exact absurd (by decide) hl4
 have hg0:g0<w.heap.size:=lt_of_at (hby 0 x0 (by rw [hl];rfl))
 obtain ⟨y0,hy0'⟩:∃ y:Int,y=(x0.toNat:Int):=⟨_,rfl⟩
 obtain ⟨y1,hy1'⟩:∃ y:Int,y=(x1.toNat:Int):=⟨_,rfl⟩
 obtain ⟨y2,hy2'⟩:∃ y:Int,y=(x2.toNat:Int):=⟨_,rfl⟩
 obtain ⟨y3,hy3'⟩:∃ y:Int,y=(x3.toNat:Int):=⟨_,rfl⟩
 have c0:W0.cell? ⟨g0,q0,none⟩=some (.int .u8 y0):=by rw [hy0'];exact (B0.cell (p:=⟨g0,q0+0,none⟩) hg0).trans (hby 0 x0 (by rw [hl];rfl))
 have c1:W0.cell? ⟨g0,q0+1,none⟩=some (.int .u8 y1):=by rw [hy1'];exact (B0.cell (p:=⟨g0,q0+1,none⟩) hg0).trans (hby 1 x1 (by rw [hl];rfl))
 have c2:W0.cell? ⟨g0,q0+2,none⟩=some (.int .u8 y2):=by rw [hy2'];exact (B0.cell (p:=⟨g0,q0+2,none⟩) hg0).trans (hby 2 x2 (by rw [hl];rfl))
 have c3:W0.cell? ⟨g0,q0+3,none⟩=some (.int .u8 y3):=by rw [hy3'];exact (B0.cell (p:=⟨g0,q0+3,none⟩) hg0).trans (hby 3 x3 (by rw [hl];rfl))
 rw [← hy0',← hy1',← hy2',← hy3'] at hh4
 have l1:(1:Int)<(l.length:Int):=by omega
 have l0:(0:Int)<(l.length:Int):=by omega
 have l2:(2:Int)<(l.length:Int):=by omega
 have l3:(3:Int)<(l.length:Int):=by omega
 have HH:=Lib.hid hh4
 have HBY:Hid (BsA (W0.heap.size) W0 l (some ⟨g0,q0,none⟩)):=.inr ⟨g0,q0,rfl,by omega,fun j x hj=>(B0.cell (p:=⟨g0,q0+j,none⟩) hg0).trans (hby j x hj)⟩
 clear hh4 hy0' hy1' hy2' hy3' hby hl hl4 hg0
 by_cases h0:y0=115
 rotate_left
 · have HE := Lib.hid (HNO.out (fun h => h0 (HH.out.1 h).1))
   clear HNO HH HBY c1 c2 c3
   go_enter Tryz.func12,Tryz.ntmps12
   go_upto_region 1 with fail
   rw [← HW0.out]
   clear HW0
   go_wp2_with (refine st rowO rfl rfl OR rfl rfl (by rfl) (by rfl) (by kernel_rfl) ?_)
   refine p_ret2 rowO rfl (OR.row #[.slice none 0 0,.int .i64 0,.int .i64 0,.int .i64 0,.slice none 0 0]) rfl rfl rfl rfl ?_
   rw [HE.out]
   exact ⟨_,rfl,⟨_,_,[],rfl,dcv_zero _ _⟩,Below.of_row B0 (Nat.le_refl _) _⟩
 by_cases h1:y1=116
 rotate_left
 · have HE := Lib.hid (HNO.out (fun h => h1 (HH.out.1 h).2.1))
   subst h0
   clear HNO HH HBY c2 c3
   go_enter Tryz.func12,Tryz.ntmps12
   go_upto_region 1 with fail
   rw [← HW0.out]
   clear HW0
   go_wp2_with (refine st rowO rfl rfl OR rfl rfl (by rfl) (by rfl) (by kernel_rfl) ?_)
   refine p_ret2 rowO rfl (OR.row #[.slice none 0 0,.int .i64 0,.int .i64 0,.int .i64 0,.slice none 0 0]) rfl rfl rfl rfl ?_
   rw [HE.out]
   exact ⟨_,rfl,⟨_,_,[],rfl,dcv_zero _ _⟩,Below.of_row B0 (Nat.le_refl _) _⟩
 by_cases h2:y2=105
 rotate_left
 · have HE := Lib.hid (HNO.out (fun h => h2 (HH.out.1 h).2.2.1))
   subst h0 h1
   clear HNO HH HBY c3
   go_enter Tryz.func12,Tryz.ntmps12
   go_upto_region 1 with fail
   rw [← HW0.out]
   clear HW0
   go_wp2_with (refine st rowO rfl rfl OR rfl rfl (by rfl) (by rfl) (by kernel_rfl) ?_)
   refine p_ret2 rowO rfl (OR.row #[.slice none 0 0,.int .i64 0,.int .i64 0,.int .i64 0,.slice none 0 0]) rfl rfl rfl rfl ?_
   rw [HE.out]
   exact ⟨_,rfl,⟨_,_,[],rfl,dcv_zero _ _⟩,Below.of_row B0 (Nat.le_refl _) _⟩
 by_cases h3:y3=108
 rotate_left
 · have HE := Lib.hid (HNO.out (fun h => h3 (HH.out.1 h).2.2.2))
   subst h0 h1 h2
   clear HNO HH HBY
   go_enter Tryz.func12,Tryz.ntmps12
   go_upto_region 1 with fail
   rw [← HW0.out]
   clear HW0
   go_wp2_with (refine st rowO rfl rfl OR rfl rfl (by rfl) (by rfl) (by kernel_rfl) ?_)
   refine p_ret2 rowO rfl (OR.row #[.slice none 0 0,.int .i64 0,.int .i64 0,.int .i64 0,.slice none 0 0]) rfl rfl rfl rfl ?_
   rw [HE.out]
   exact ⟨_,rfl,⟨_,_,[],rfl,dcv_zero _ _⟩,Below.of_row B0 (Nat.le_refl _) _⟩
 exact absurd (HH.out.2 ⟨h0,h1,h2,h3⟩) hmg
theorem r_DecodeY (l:List UInt8) {a:Option Addr} {c:Nat} {w:World} (ha:bysAt w l a) (hc:l.length≤c) (hm:l.length≤1152921504606846976) (hmg:l.take 4=magic) :
 Calls Tryz.prog 12 #[.slice a l.length c] w fun e w'=>∃ v,e=.returned (.tuple #[v,.int .i64 (decD l).2])∧DcO w.heap.size (decD l).1 v w'∧Below w.heap.size w w':=by
 obtain ⟨i0,hi,hz0,hz1,hz2⟩:=info_parts info_w
 obtain ⟨i1,hi1,hy0,hy1,hy2⟩:=info_parts info_i
 obtain ⟨i2,hi2,hx0,hx1,hx2⟩:=info_parts info_c
 have B0:=(Below.refl w.heap.size w).alloc (Nat.le_refl _) (.cells #[.slice none 0 0,.int .i64 0,.int .i64 0,.int .i64 0,.slice none 0 0] 25)
 have OR:=Own.new w 25 #[.slice none 0 0,.int .i64 0,.int .i64 0,.int .i64 0,.slice none 0 0]
 obtain ⟨W0,hW0⟩:∃ W,W=w.alloc (.cells #[.slice none 0 0,.int .i64 0,.int .i64 0,.int .i64 0,.slice none 0 0] 25):=⟨_,rfl⟩
 have hs0:W0.heap.size=w.heap.size+1:=by rw [hW0];simp
 rw [← hW0] at B0 OR
 have HW0:=Lib.hid hW0
 clear hW0
 have hl4:¬ l.length<4:=fun h=>by have:=congrArg List.length hmg;rw [List.length_take] at this;simp [magic] at this;omega
 obtain ⟨x0,x1,x2,x3,r,hl⟩:=four_of hl4
 have hge:¬ (l.length:Int)<4:=by omega
 have hh4:=head4 (x0:=x0) (x1:=x1) (x2:=x2) (x3:=x3) (r:=r)
 rw [← hl] at hh4
 rcases ha with e | ⟨g0,q0,rfl,hby⟩
 · rw [e] at hl4;exact absurd (by decide) hl4
 have hg0:g0<w.heap.size:=lt_of_at (hby 0 x0 (by rw [hl];rfl))
 obtain ⟨y0,hy0'⟩:∃ y:Int,y=(x0.toNat:Int):=⟨_,rfl⟩
 obtain ⟨y1,hy1'⟩:∃ y:Int,y=(x1.toNat:Int):=⟨_,rfl⟩
 obtain ⟨y2,hy2'⟩:∃ y:Int,y=(x2.toNat:Int):=⟨_,rfl⟩
 obtain ⟨y3,hy3'⟩:∃ y:Int,y=(x3.toNat:Int):=⟨_,rfl⟩
 have c0:W0.cell? ⟨g0,q0,none⟩=some (.int .u8 y0):=by rw [hy0'];exact (B0.cell (p:=⟨g0,q0+0,none⟩) hg0).trans (hby 0 x0 (by rw [hl];rfl))
 have c1:W0.cell? ⟨g0,q0+1,none⟩=some (.int .u8 y1):=by rw [hy1'];exact (B0.cell (p:=⟨g0,q0+1,none⟩) hg0).trans (hby 1 x1 (by rw [hl];rfl))
 have c2:W0.cell? ⟨g0,q0+2,none⟩=some (.int .u8 y2):=by rw [hy2'];exact (B0.cell (p:=⟨g0,q0+2,none⟩) hg0).trans (hby 2 x2 (by rw [hl];rfl))
 have c3:W0.cell? ⟨g0,q0+3,none⟩=some (.int .u8 y3):=by rw [hy3'];exact (B0.cell (p:=⟨g0,q0+3,none⟩) hg0).trans (hby 3 x3 (by rw [hl];rfl))
 rw [← hy0',← hy1',← hy2',← hy3'] at hh4
 have l1:(1:Int)<(l.length:Int):=by omega
 have l0:(0:Int)<(l.length:Int):=by omega
 have l2:(2:Int)<(l.length:Int):=by omega
 have l3:(3:Int)<(l.length:Int):=by omega
 have HH:=Lib.hid hh4
 have HBY:Hid (BsA (W0.heap.size) W0 l (some ⟨g0,q0,none⟩)):=.inr ⟨g0,q0,rfl,by omega,fun j x hj=>(B0.cell (p:=⟨g0,q0+j,none⟩) hg0).trans (hby j x hj)⟩
 clear hh4 hy0' hy1' hy2' hy3' hby hl hl4 hg0
 obtain ⟨h0,h1,h2,h3⟩:=HH.out.1 hmg
 have HMG:Hid (l.take 4=magic):=hmg
 subst h0 h1 h2 h3
 clear HH hmg
 have hll:4≤l.length:=by omega
 obtain ⟨W1,hW1⟩:∃ W,W=W0.alloc (.cells #[.slice (some ⟨g0,q0,none⟩) l.length c,.int .i64 4,.bool false] 86):=⟨_,rfl⟩
 have HW1:=Lib.hid hW1
 have al1:=(Below.refl _ W0).alloc (Nat.le_refl _) (.cells #[.slice (some ⟨g0,q0,none⟩) l.length c,.int .i64 4,.bool false] 86)
 have HR1:Hid (Rds W1 W0.heap.size l (some ⟨g0,q0,none⟩) c (l.drop 4,false) W1):=by
  rw [hW1]
  refine rds_new ⟨4,false,rfl,Own.new W0 86 _,?_,hc,hm,hll⟩
  exact HBY.out.below al1
 have HZ1:Hid (Own W1 w.heap.size 25 #[.slice none 0 0,.int .i64 0,.int .i64 0,.int .i64 0,.slice none 0 0]∧Below w.heap.size w W1∧w.heap.size<W0.heap.size∧W0.heap.size<W1.heap.size):=by
  rw [hW1]
  exact ⟨OR.below al1,B0.trans (al1.mono B0.size),by omega,by simp⟩
 have HC:Hid (∀ (X:World) (s:Bst) (m:Int),Rst W0.heap.size l (some ⟨g0,q0,none⟩) c s X→0≤m→m≤1000000→Calls Tryz.prog 32 #[.pointer (some ⟨W0.heap.size,0,none⟩),.int .i64 m] X fun e w'=>∃ x t,smR m s=(x,t)∧e=.returned (.int .i64 x)∧(0≤x∧x≤m)∧Rds X W0.heap.size l (some ⟨g0,q0,none⟩) c t w'):=fun X s m h h0 h1=>(rds_small h m h0 (by omega)).mono fun e w' q=>⟨_,_,rfl,q.1,smR_bd m h0 s,q.2⟩
 have HWD:Hid (∀ (X:World) (s:Bst),Rst W0.heap.size l (some ⟨g0,q0,none⟩) c s X→Calls Tryz.prog 33 #[.pointer (some ⟨W0.heap.size,0,none⟩)] X fun e w'=>∃ x t,wdR s=(x,t)∧e=.returned (.int .i64 x)∧Rds X W0.heap.size l (some ⟨g0,q0,none⟩) c t w'):=fun X s h=>(rds_word h).mono fun e w' q=>⟨_,_,rfl,q.1,q.2⟩
 have HIN:Hid (∀ (X:World) (s:Bst) (k n:Int),Rst W0.heap.size l (some ⟨g0,q0,none⟩) c s X→(0≤k∧k≤1000000)→(0≤n∧n≤1000000)→Calls Tryz.prog 34 #[.pointer (some ⟨W0.heap.size,0,none⟩),.int .i64 k,.int .i64 n] X fun e w'=>∃ i t,insD k n s=(i,t)∧e=.returned (insV i)∧Rds X W0.heap.size l (some ⟨g0,q0,none⟩) c t w'):=fun X s k n h h0 h1=>(rds_instr h k n h0 h1).mono fun e w' q=>⟨_,_,rfl,q.1,q.2⟩
 have HLC:=Lib.hid (And.intro hc hm)
 clear hW1 al1 HBY hs0 B0 OR hll
 go_enter Tryz.func12,Tryz.ntmps12
 go_upto_region 1 with fail
 rw [← HW0.out]
 clear HW0
 go_upto_region 4 with fail
 rw [← HW1.out]
 clear HW1 c0 c1 c2 c3 l0 l1 l2 l3 hge
 generalize W0.heap.size=p at HR1 HZ1 HC HWD HIN ⊢
 go_upto_region 5 with (first
  | (go_at_call 32;refine (HC.out _ _ 64 HR1.out.st (by decide) (by decide)).mono ?_;rintro e w2 ⟨sh,s1,h1,rfl,hb1,hq⟩;have HR2:=Lib.hid (HR1.out.trans hq);have H1:=Lib.hid h1;have HB1:=Lib.hid hb1;clear h1 hb1 hq HR1)
  | (go_at_call 32;refine (HC.out _ _ 16 HR2.out.st (by decide) (by decide)).mono ?_;rintro e w3 ⟨lk,s2,h2,rfl,hb2,hq⟩;have HR3:=Lib.hid (HR2.out.trans hq);have H2:=Lib.hid h2;have HB2:=Lib.hid hb2;clear h2 hb2 hq HR2)
  | (go_at_call 32;refine (HC.out _ _ 16 HR3.out.st (by decide) (by decide)).mono ?_;rintro e w4 ⟨bf,s3,h3,rfl,hb3,hq⟩;have HR4:=Lib.hid (HR3.out.trans hq);have H3:=Lib.hid h3;have HB3:=Lib.hid hb3;clear h3 hb3 hq HR3;have O5:=Own.new w4 25 #[.slice none 0 0,.int .i64 0,.int .i64 0,.int .i64 0,.slice none 0 0])
  | (refine st rowO rfl rfl O5 rfl rfl (by rfl) (by rfl) (by kernel_rfl) ?_))
 have HD0:Hid (Ds w p w4.heap.size l (some ⟨g0,q0,none⟩) c s3 #[.slice none 0 0,.int .i64 sh,.int .i64 lk,.int .i64 bf,.slice none 0 0] ((w4.alloc (.cells #[.slice none 0 0,.int .i64 0,.int .i64 0,.int .i64 0,.slice none 0 0] 25)).setRow w4.heap.size #[.slice none 0 0,.int .i64 sh,.int .i64 lk,.int .i64 bf,.slice none 0 0])):=by
  have al:=(Below.refl _ w4).alloc (Nat.le_refl _) (.cells #[.slice none 0 0,.int .i64 0,.int .i64 0,.int .i64 0,.slice none 0 0] 25)
  obtain ⟨z1,z2,z3,z4⟩:=HZ1.out
  have hk:=HR4.out
  have hd:Ds w p w4.heap.size l (some ⟨g0,q0,none⟩) c s3 #[.slice none 0 0,.int .i64 0,.int .i64 0,.int .i64 0,.slice none 0 0] (w4.alloc (.cells #[.slice none 0 0,.int .i64 0,.int .i64 0,.int .i64 0,.slice none 0 0] 25)):=⟨hk.st.below al,(hk.other z1 (by omega)).below al,O5,(z2.trans ((hk.bel (by omega)).mono (by omega))).trans (al.mono (Nat.le_trans (Nat.le_of_lt (by omega:w.heap.size<W1.heap.size)) hk.keep.size)),z3,hk.st.lt⟩
  exact hd.row #[.slice none 0 0,.int .i64 sh,.int .i64 lk,.int .i64 bf,.slice none 0 0]
 clear O5 HR4 HZ1
 generalize (w4.alloc (.cells #[.slice none 0 0,.int .i64 0,.int .i64 0,.int .i64 0,.slice none 0 0] 25)).setRow w4.heap.size #[.slice none 0 0,.int .i64 sh,.int .i64 lk,.int .i64 bf,.slice none 0 0]=w5 at HD0 ⊢
 generalize w4.heap.size=q at HD0 ⊢
 go_upto_block 0 with (go_at_call 32;refine (HC.out _ _ 4096 HD0.out.rd (by decide) (by decide)).mono ?_;rintro e w6 ⟨n,s4,h4,rfl,hb4,hq⟩;have HD1:=Lib.hid (HD0.out.call hq);have H4:=Lib.hid h4;have HB4:=Lib.hid hb4;clear h4 hb4 hq HD0)
 obtain ⟨N,hN⟩:∃ N:Nat,n=(N:Int):=⟨n.toNat,by have:=HB4.out;omega⟩
 subst hN
 go_cut [] (fun wx=>∃ (mem:List Int) (s5:Bst) (a1:Option Addr) (c1:Nat),repR wdR N s4=(mem,s5)∧Ds w p q l (some ⟨g0,q0,none⟩) c s5 #[.slice a1 mem.length c1,.int .i64 sh,.int .i64 lk,.int .i64 bf,.slice none 0 0] wx∧wx.ownsRow (q+1) 2 1 (.slice a1 mem.length c1) mem.length (mem.map fun x=>.int .i64 x))
 case first =>
  as_aux_lemma =>
   go_wp2_with fail
   go_loopg [7] (N+1) (fun m' z X=>∃ (xs:List Int) (sj:Bst) (a1:Option Addr) (c1:Nat),z=.int .i64 (xs.length:Int)∧xs.length≤N∧m'=N-xs.length+1∧repR wdR N s4=(xs++(repR wdR (N-xs.length) sj).1,(repR wdR (N-xs.length) sj).2)∧Ds w p q l (some ⟨g0,q0,none⟩) c sj #[.slice a1 xs.length c1,.int .i64 sh,.int .i64 lk,.int .i64 bf,.slice none 0 0] X∧X.ownsRow (q+1) 2 1 (.slice a1 xs.length c1) xs.length (xs.map fun x=>.int .i64 x))
   case atStart=>exact ⟨[],s4,none,0,rfl,Nat.zero_le _,by simp,by simp,HD1.out,World.ownsRow_nil _ _ _ _⟩
   case round =>
    clear HD1
    obtain ⟨xs,sj,az,cz,rfl,hl,hm',he,hd,hr⟩:=hrel
    obtain ⟨mj,dj,rfl,_,_,_,p2,_,_⟩:=hd.at
    have HM:=Lib.hid hm'
    have HD:=Lib.hid hd
    have HR:=Lib.hid hr
    have HE:=Lib.hid he
    have HL:=Lib.hid hl
    clear hm' hd hr he hl
    by_cases hjn:xs.length<N
    · have hjj : (xs.length : Int) < (N : Int) := by omega
      cases dj with
      | true =>
        have HZ:Hid (repR wdR N s4=(xs,(l.drop mj,true))):=by rw [Hid,HE.out,rep_stop wdR _ (l.drop mj,true) rfl,List.append_nil]
        clear HE HM HL HC HWD HIN
        go_wp2_with fail
        go_meet
        case rel=>exact ⟨xs,_,az,cz,HZ.out,HD.out,HR.out⟩
      | false =>
        have HLEN:Hid (xs.length≤4096):=by have:=HB4.out;show _≤_;omega
        go_upto_region 9 with fail
        have HD1:=Lib.hid (HD.out.below (below_drewN (Below.refl _ wr) 1))
        have HR1:=Lib.hid (row_below HR.out (below_drewN (Below.refl _ wr) 1))
        clear p2
        refine wp_region_held (S:=fun _=>True) (by kernel_rfl) ?_
        change wpAnyH _ _ _ _ _ _ _ _ wr.drew
        change Hid (Ds _ _ _ _ _ _ _ _ wr.drew) at HD1
        change Hid (World.ownsRow wr.drew _ _ _ _ _ _) at HR1
        obtain ⟨W3,hW3⟩:∃ W,W=wr.drew:=⟨_,rfl⟩
        rw [← hW3] at HD1 HR1 ⊢
        clear hW3
        change wpAnyH _ _ _ _ _ _ _ { tmps:=List.toArray (_::_::_::_::_::_::_::_::_::_::_::_::_::_::_::_::_::_::_::_::_::_::_::_::_::_::_::_::_::_::_::_::_::_::_::_::_::_::_::_::_::_::_::_::_::_::_::_::_::_::_::_::_::_::_::_::_::_::_::_::_::_::_::_::_::_::_::_::_::_::_::_::_::_::_::_::_::_::_::_::_::_::_::_::_::_::_::_::_::_::_::_::_::_::_::_::_::_::_::_::_::_::_::_::_::_::_::_::_::_::_::_::_::_::_::_::_::_::_::_::_::_::_::_::_::_::_::_::_::_::_::_::_::_::_::_::_::_::_::_::_::_::_::_::_::_::_::_::_::_::_::_::_::_::_::_::_::_::_::_::_::_::_::_::_::_::_::_::_::_::_::_::_::_::_::_::_::_::_::_::_::_::[]),defers:=[] } _
        refine dr_take 0 (.pointer (some ⟨q,0,none⟩)) rfl rfl (by kernel_rfl) (by kernel_rfl) (by kernel_rfl) (fun _ _ _ h=>h) (fun _ _=>by unfold execOp;go_simp) trivial ?_
        change wpAnyH _ _ _ _ _ _ _ { tmps:=List.toArray (_::_::_::_::_::_::_::_::_::_::_::_::_::_::_::_::_::_::_::_::_::_::_::_::_::_::_::_::_::_::_::_::_::_::_::_::_::_::_::_::_::_::_::_::_::_::_::_::_::_::_::_::_::_::_::_::_::_::_::_::_::_::_::_::_::_::_::_::_::_::_::_::_::_::_::_::_::_::_::_::_::_::_::_::_::_::_::_::_::_::_::_::_::_::_::_::_::_::_::_::_::_::_::_::_::_::_::_::_::_::_::_::_::_::_::_::_::_::_::_::_::_::_::_::_::_::_::_::_::_::_::_::_::_::_::_::_::_::_::_::_::_::_::_::_::_::_::_::_::_::_::_::_::_::_::_::_::_::_::_::_::_::_::_::_::_::_::_::_::_::_::_::_::_::_::_::_::_::_::_::_::_::[]),defers:=[] } _
        refine dr_take 2 (.pointer (some ⟨p,0,none⟩)) rfl rfl (by kernel_rfl) (by kernel_rfl) (by kernel_rfl) (fun _ _ _ h=>h) (fun _ _=>by unfold execOp;go_simp) trivial ?_
        change wpAnyH _ _ _ _ _ _ _ { tmps:=List.toArray (_::_::_::_::_::_::_::_::_::_::_::_::_::_::_::_::_::_::_::_::_::_::_::_::_::_::_::_::_::_::_::_::_::_::_::_::_::_::_::_::_::_::_::_::_::_::_::_::_::_::_::_::_::_::_::_::_::_::_::_::_::_::_::_::_::_::_::_::_::_::_::_::_::_::_::_::_::_::_::_::_::_::_::_::_::_::_::_::_::_::_::_::_::_::_::_::_::_::_::_::_::_::_::_::_::_::_::_::_::_::_::_::_::_::_::_::_::_::_::_::_::_::_::_::_::_::_::_::_::_::_::_::_::_::_::_::_::_::_::_::_::_::_::_::_::_::_::_::_::_::_::_::_::_::_::_::_::_::_::_::_::_::_::_::_::_::_::_::_::_::_::_::_::_::_::_::_::_::_::_::_::_::[]),defers:=[] } _
        refine dr_two 1 3 rfl rfl rfl rfl (by kernel_rfl) ?_ ?_
        · refine wp_ldI rfl rfl (row_cellsO HD1.out.ox 0 _ rfl) ⟨trivial, ?_⟩
          change wpAnyH _ _ _ _ _ _ _ { tmps:=List.toArray (_::_::_::_::_::_::_::_::_::_::_::_::_::_::_::_::_::_::_::_::_::_::_::_::_::_::_::_::_::_::_::_::_::_::_::_::_::_::_::_::_::_::_::_::_::_::_::_::_::_::_::_::_::_::_::_::_::_::_::_::_::_::_::_::_::_::_::_::_::_::_::_::_::_::_::_::_::_::_::_::_::_::_::_::_::_::_::_::_::_::_::_::_::_::_::_::_::_::_::_::_::_::_::_::_::_::_::_::_::_::_::_::_::_::_::_::_::_::_::_::_::_::_::_::_::_::_::_::_::_::_::_::_::_::_::_::_::_::_::_::_::_::_::_::_::_::_::_::_::_::_::_::_::_::_::_::_::_::_::_::_::_::_::_::_::_::_::_::_::_::_::_::_::_::_::_::_::_::_::_::_::_::[]),defers:=[] } _
          refine dr_one 3 rfl rfl (by kernel_rfl) ?_
          refine wp_callT (vs:=#[.pointer (some ⟨p,0,none⟩)]) rfl rfl (enters_of Tryz.func33 (by kernel_rfl) rfl) (by simp [Act.eval]) (HWD.out _ _ HD1.out.rd) ?_
          rintro e w4 ⟨x,t1,h1,rfl,hq⟩
          have HX1:=Lib.hid h1
          have HD2:=Lib.hid (HD1.out.call hq)
          have HR2:=Lib.hid (row_rds HR1.out (by have:=HD1.out.pq;omega) hq)
          clear h1 hq
          refine ⟨trivial,?_⟩
          change wpAnyH _ _ _ _ _ _ _ { tmps:=List.toArray (_::_::_::_::_::_::_::_::_::_::_::_::_::_::_::_::_::_::_::_::_::_::_::_::_::_::_::_::_::_::_::_::_::_::_::_::_::_::_::_::_::_::_::_::_::_::_::_::_::_::_::_::_::_::_::_::_::_::_::_::_::_::_::_::_::_::_::_::_::_::_::_::_::_::_::_::_::_::_::_::_::_::_::_::_::_::_::_::_::_::_::_::_::_::_::_::_::_::_::_::_::_::_::_::_::_::_::_::_::_::_::_::_::_::_::_::_::_::_::_::_::_::_::_::_::_::_::_::_::_::_::_::_::_::_::_::_::_::_::_::_::_::_::_::_::_::_::_::_::_::_::_::_::_::_::_::_::_::_::_::_::_::_::_::_::_::_::_::_::_::_::_::_::_::_::_::_::_::_::_::_::_::[]),defers:=[] } _
          refine dr_one 4 rfl rfl (by kernel_rfl) ?_
          refine wv_val (run_bsW rfl rfl) ?_
          have al:=(Below.refl _ w4).alloc (Nat.le_refl _) (.cells #[.int .i64 x] 2)
          have HD3:=Lib.hid (HD2.out.below al)
          have HR3:=Lib.hid (row_below HR2.out al)
          have HNW:Hid (∀ j u,([.int .i64 x]:List Value)[j]? = some u→(w4.alloc (.cells #[.int .i64 x] 2)).cell? ((⟨w4.heap.size,0,none⟩:Addr).add j)=some u):=fun j u hj=>by
           rw [addr_add,Nat.zero_add]
           exact row_cellsO (Own.new w4 2 #[.int .i64 x]) j u (by simpa using hj)
          clear al
          refine ⟨trivial,?_⟩
          change wpAnyH _ _ _ _ _ _ _ { tmps:=List.toArray (_::_::_::_::_::_::_::_::_::_::_::_::_::_::_::_::_::_::_::_::_::_::_::_::_::_::_::_::_::_::_::_::_::_::_::_::_::_::_::_::_::_::_::_::_::_::_::_::_::_::_::_::_::_::_::_::_::_::_::_::_::_::_::_::_::_::_::_::_::_::_::_::_::_::_::_::_::_::_::_::_::_::_::_::_::_::_::_::_::_::_::_::_::_::_::_::_::_::_::_::_::_::_::_::_::_::_::_::_::_::_::_::_::_::_::_::_::_::_::_::_::_::_::_::_::_::_::_::_::_::_::_::_::_::_::_::_::_::_::_::_::_::_::_::_::_::_::_::_::_::_::_::_::_::_::_::_::_::_::_::_::_::_::_::_::_::_::_::_::_::_::_::_::_::_::_::_::_::_::_::_::_::[]),defers:=[] } _
          refine dr_one 5 rfl rfl (by kernel_rfl) ?_
          refine wp_append_own (w4.alloc (.cells #[.int .i64 x] 2)) _ _ 22 rfl (q+1) 2 i0 _ 1 8 Tryz.underlying22 hi hz0 hz1 hz2 rfl (by decide) (.slice az xs.length cz) xs.length (xs.map fun x=>.int .i64 x) rfl HR3.out ⟨w4.heap.size,0,none⟩ 1 1 [.int .i64 x] rfl rfl HNW.out (by simp [Value.oneCell']) (by have:=HLEN.out;simp only [maxLen];omega) (by have:=HLEN.out;omega) (by rw [World.size_alloc];have:=HD2.out.ox.lt;omega) ?_
          intro v5 W5 hr hg _
          obtain ⟨a6,c6,rfl⟩:=row_slice hr
          have HD5:=Lib.hid (HD3.out.grown hg (fun k hk=>by have:=(HR3.out.lt k hk).1;omega))
          have HR5:=Lib.hid hr
          clear hr hg
          have d0:W5.cell? ⟨q,0,none⟩=some (.slice az xs.length cz):=row_cellsO HD5.out.ox 0 _ rfl
          have f0:W5.frozen? ⟨q,0,none⟩=false:=own_frozen HD5.out.ox 0
          have HD6:Hid (Ds w p q l (some ⟨g0,q0,none⟩) c t1 #[.slice a6 (xs.length+1) c6,.int .i64 sh,.int .i64 lk,.int .i64 bf,.slice none 0 0] (W5.setCell ⟨q,0,none⟩ (.slice a6 (xs.length+1) c6))):=HD5.out.put 0 _
          have HR6:=Lib.hid (row_setbelow HR5.out (Nat.lt_succ_self q) 0 (.slice a6 (xs.length+1) c6))
          refine ⟨trivial,?_⟩
          change wpAnyH _ _ _ _ _ _ _ { tmps:=List.toArray (_::_::_::_::_::_::_::_::_::_::_::_::_::_::_::_::_::_::_::_::_::_::_::_::_::_::_::_::_::_::_::_::_::_::_::_::_::_::_::_::_::_::_::_::_::_::_::_::_::_::_::_::_::_::_::_::_::_::_::_::_::_::_::_::_::_::_::_::_::_::_::_::_::_::_::_::_::_::_::_::_::_::_::_::_::_::_::_::_::_::_::_::_::_::_::_::_::_::_::_::_::_::_::_::_::_::_::_::_::_::_::_::_::_::_::_::_::_::_::_::_::_::_::_::_::_::_::_::_::_::_::_::_::_::_::_::_::_::_::_::_::_::_::_::_::_::_::_::_::_::_::_::_::_::_::_::_::_::_::_::_::_::_::_::_::_::_::_::_::_::_::_::_::_::_::_::_::_::_::_::_::_::[]),defers:=[] } _
          refine dr_one 6 rfl rfl (by kernel_rfl) ?_
          refine wv_val (w':=W5) (v:=.pointer (some ⟨q,0,none⟩)) (by unfold execOp;go_simp) ⟨trivial,?_⟩
          change wpAnyH _ _ _ _ _ _ _ { tmps:=List.toArray (_::_::_::_::_::_::_::_::_::_::_::_::_::_::_::_::_::_::_::_::_::_::_::_::_::_::_::_::_::_::_::_::_::_::_::_::_::_::_::_::_::_::_::_::_::_::_::_::_::_::_::_::_::_::_::_::_::_::_::_::_::_::_::_::_::_::_::_::_::_::_::_::_::_::_::_::_::_::_::_::_::_::_::_::_::_::_::_::_::_::_::_::_::_::_::_::_::_::_::_::_::_::_::_::_::_::_::_::_::_::_::_::_::_::_::_::_::_::_::_::_::_::_::_::_::_::_::_::_::_::_::_::_::_::_::_::_::_::_::_::_::_::_::_::_::_::_::_::_::_::_::_::_::_::_::_::_::_::_::_::_::_::_::_::_::_::_::_::_::_::_::_::_::_::_::_::_::_::_::_::_::_::[]),defers:=[] } _
          refine dr_one 7 rfl rfl (by kernel_rfl) ?_
          refine wp_stI rfl rfl rfl d0 f0 ⟨trivial,?_⟩
          refine wpAnyH_done (by kernel_rfl) ?_ _
          have HE2:Hid (repR wdR N s4=((xs++[x])++(repR wdR (N-(xs++[x]).length) t1).1,(repR wdR (N-(xs++[x]).length) t1).2)):=by
           have e1:N-xs.length=(N-xs.length-1)+1:=by omega
           have e2:N-(xs++[x]).length=N-xs.length-1:=by simp only [List.length_append,List.length_cons,List.length_nil];omega
           have hst:=rep_step wdR (N-xs.length-1) (l.drop mj,false) rfl
           rw [HX1.out] at hst
           rw [Hid,HE.out,e2,e1,hst]
           simp
          clear d0 f0 HD5 HR5 HD3 HR3 HD2 HR2 HNW HD1 HR1 HE HD HR
          have hln:=HLEN.out
          go_wp2_with fail
          go_roundg (N-(xs.length+1)+1)
          case measure=>have:=HM.out;omega
          case rel=>exact ⟨xs++[x],t1,a6,c6,by simp,by simp only [List.length_append,List.length_cons,List.length_nil];omega,by simp only [List.length_append,List.length_cons,List.length_nil],HE2.out,by simpa using HD6.out,by simpa using HR6.out⟩
        · refine wp_callT (vs := #[.pointer (some ⟨p, 0, none⟩)]) rfl rfl (enters_of Tryz.func33 (by kernel_rfl) rfl) (by simp [Act.eval]) (HWD.out _ _ HD1.out.rd) ?_
          rintro e w4 ⟨x,t1,h1,rfl,hq⟩
          have HX1:=Lib.hid h1
          have HD2:=Lib.hid (HD1.out.call hq)
          have HR2:=Lib.hid (row_rds HR1.out (by have:=HD1.out.pq;omega) hq)
          clear h1 hq
          refine ⟨trivial,?_⟩
          change wpAnyH _ _ _ _ _ _ _ { tmps:=List.toArray (_::_::_::_::_::_::_::_::_::_::_::_::_::_::_::_::_::_::_::_::_::_::_::_::_::_::_::_::_::_::_::_::_::_::_::_::_::_::_::_::_::_::_::_::_::_::_::_::_::_::_::_::_::_::_::_::_::_::_::_::_::_::_::_::_::_::_::_::_::_::_::_::_::_::_::_::_::_::_::_::_::_::_::_::_::_::_::_::_::_::_::_::_::_::_::_::_::_::_::_::_::_::_::_::_::_::_::_::_::_::_::_::_::_::_::_::_::_::_::_::_::_::_::_::_::_::_::_::_::_::_::_::_::_::_::_::_::_::_::_::_::_::_::_::_::_::_::_::_::_::_::_::_::_::_::_::_::_::_::_::_::_::_::_::_::_::_::_::_::_::_::_::_::_::_::_::_::_::_::_::_::_::[]),defers:=[] } _
          refine dr_two 1 4 rfl rfl rfl rfl (by kernel_rfl) ?_ ?_
          · refine wp_ldI rfl rfl (row_cellsO HD2.out.ox 0 _ rfl) ⟨trivial, ?_⟩
            change wpAnyH _ _ _ _ _ _ _ { tmps:=List.toArray (_::_::_::_::_::_::_::_::_::_::_::_::_::_::_::_::_::_::_::_::_::_::_::_::_::_::_::_::_::_::_::_::_::_::_::_::_::_::_::_::_::_::_::_::_::_::_::_::_::_::_::_::_::_::_::_::_::_::_::_::_::_::_::_::_::_::_::_::_::_::_::_::_::_::_::_::_::_::_::_::_::_::_::_::_::_::_::_::_::_::_::_::_::_::_::_::_::_::_::_::_::_::_::_::_::_::_::_::_::_::_::_::_::_::_::_::_::_::_::_::_::_::_::_::_::_::_::_::_::_::_::_::_::_::_::_::_::_::_::_::_::_::_::_::_::_::_::_::_::_::_::_::_::_::_::_::_::_::_::_::_::_::_::_::_::_::_::_::_::_::_::_::_::_::_::_::_::_::_::_::_::_::[]),defers:=[] } _
            refine dr_one 4 rfl rfl (by kernel_rfl) ?_
            refine wv_val (run_bsW rfl rfl) ?_
            have al:=(Below.refl _ w4).alloc (Nat.le_refl _) (.cells #[.int .i64 x] 2)
            have HD3:=Lib.hid (HD2.out.below al)
            have HR3:=Lib.hid (row_below HR2.out al)
            have HNW:Hid (∀ j u,([.int .i64 x]:List Value)[j]? = some u→(w4.alloc (.cells #[.int .i64 x] 2)).cell? ((⟨w4.heap.size,0,none⟩:Addr).add j)=some u):=fun j u hj=>by
             rw [addr_add,Nat.zero_add]
             exact row_cellsO (Own.new w4 2 #[.int .i64 x]) j u (by simpa using hj)
            clear al
            refine ⟨trivial,?_⟩
            change wpAnyH _ _ _ _ _ _ _ { tmps:=List.toArray (_::_::_::_::_::_::_::_::_::_::_::_::_::_::_::_::_::_::_::_::_::_::_::_::_::_::_::_::_::_::_::_::_::_::_::_::_::_::_::_::_::_::_::_::_::_::_::_::_::_::_::_::_::_::_::_::_::_::_::_::_::_::_::_::_::_::_::_::_::_::_::_::_::_::_::_::_::_::_::_::_::_::_::_::_::_::_::_::_::_::_::_::_::_::_::_::_::_::_::_::_::_::_::_::_::_::_::_::_::_::_::_::_::_::_::_::_::_::_::_::_::_::_::_::_::_::_::_::_::_::_::_::_::_::_::_::_::_::_::_::_::_::_::_::_::_::_::_::_::_::_::_::_::_::_::_::_::_::_::_::_::_::_::_::_::_::_::_::_::_::_::_::_::_::_::_::_::_::_::_::_::_::[]),defers:=[] } _
            refine dr_one 5 rfl rfl (by kernel_rfl) ?_
            refine wp_append_own (w4.alloc (.cells #[.int .i64 x] 2)) _ _ 22 rfl (q+1) 2 i0 _ 1 8 Tryz.underlying22 hi hz0 hz1 hz2 rfl (by decide) (.slice az xs.length cz) xs.length (xs.map fun x=>.int .i64 x) rfl HR3.out ⟨w4.heap.size,0,none⟩ 1 1 [.int .i64 x] rfl rfl HNW.out (by simp [Value.oneCell']) (by have:=HLEN.out;simp only [maxLen];omega) (by have:=HLEN.out;omega) (by rw [World.size_alloc];have:=HD2.out.ox.lt;omega) ?_
            intro v5 W5 hr hg _
            obtain ⟨a6,c6,rfl⟩:=row_slice hr
            have HD5:=Lib.hid (HD3.out.grown hg (fun k hk=>by have:=(HR3.out.lt k hk).1;omega))
            have HR5:=Lib.hid hr
            clear hr hg
            have d0:W5.cell? ⟨q,0,none⟩=some (.slice az xs.length cz):=row_cellsO HD5.out.ox 0 _ rfl
            have f0:W5.frozen? ⟨q,0,none⟩=false:=own_frozen HD5.out.ox 0
            have HD6:Hid (Ds w p q l (some ⟨g0,q0,none⟩) c t1 #[.slice a6 (xs.length+1) c6,.int .i64 sh,.int .i64 lk,.int .i64 bf,.slice none 0 0] (W5.setCell ⟨q,0,none⟩ (.slice a6 (xs.length+1) c6))):=HD5.out.put 0 _
            have HR6:=Lib.hid (row_setbelow HR5.out (Nat.lt_succ_self q) 0 (.slice a6 (xs.length+1) c6))
            refine ⟨trivial,?_⟩
            change wpAnyH _ _ _ _ _ _ _ { tmps:=List.toArray (_::_::_::_::_::_::_::_::_::_::_::_::_::_::_::_::_::_::_::_::_::_::_::_::_::_::_::_::_::_::_::_::_::_::_::_::_::_::_::_::_::_::_::_::_::_::_::_::_::_::_::_::_::_::_::_::_::_::_::_::_::_::_::_::_::_::_::_::_::_::_::_::_::_::_::_::_::_::_::_::_::_::_::_::_::_::_::_::_::_::_::_::_::_::_::_::_::_::_::_::_::_::_::_::_::_::_::_::_::_::_::_::_::_::_::_::_::_::_::_::_::_::_::_::_::_::_::_::_::_::_::_::_::_::_::_::_::_::_::_::_::_::_::_::_::_::_::_::_::_::_::_::_::_::_::_::_::_::_::_::_::_::_::_::_::_::_::_::_::_::_::_::_::_::_::_::_::_::_::_::_::_::[]),defers:=[] } _
            refine dr_one 6 rfl rfl (by kernel_rfl) ?_
            refine wv_val (w':=W5) (v:=.pointer (some ⟨q,0,none⟩)) (by unfold execOp;go_simp) ⟨trivial,?_⟩
            change wpAnyH _ _ _ _ _ _ _ { tmps:=List.toArray (_::_::_::_::_::_::_::_::_::_::_::_::_::_::_::_::_::_::_::_::_::_::_::_::_::_::_::_::_::_::_::_::_::_::_::_::_::_::_::_::_::_::_::_::_::_::_::_::_::_::_::_::_::_::_::_::_::_::_::_::_::_::_::_::_::_::_::_::_::_::_::_::_::_::_::_::_::_::_::_::_::_::_::_::_::_::_::_::_::_::_::_::_::_::_::_::_::_::_::_::_::_::_::_::_::_::_::_::_::_::_::_::_::_::_::_::_::_::_::_::_::_::_::_::_::_::_::_::_::_::_::_::_::_::_::_::_::_::_::_::_::_::_::_::_::_::_::_::_::_::_::_::_::_::_::_::_::_::_::_::_::_::_::_::_::_::_::_::_::_::_::_::_::_::_::_::_::_::_::_::_::_::[]),defers:=[] } _
            refine dr_one 7 rfl rfl (by kernel_rfl) ?_
            refine wp_stI rfl rfl rfl d0 f0 ⟨trivial,?_⟩
            refine wpAnyH_done (by kernel_rfl) ?_ _
            have HE2:Hid (repR wdR N s4=((xs++[x])++(repR wdR (N-(xs++[x]).length) t1).1,(repR wdR (N-(xs++[x]).length) t1).2)):=by
             have e1:N-xs.length=(N-xs.length-1)+1:=by omega
             have e2:N-(xs++[x]).length=N-xs.length-1:=by simp only [List.length_append,List.length_cons,List.length_nil];omega
             have hst:=rep_step wdR (N-xs.length-1) (l.drop mj,false) rfl
             rw [HX1.out] at hst
             rw [Hid,HE.out,e2,e1,hst]
             simp
            clear d0 f0 HD5 HR5 HD3 HR3 HD2 HR2 HNW HD1 HR1 HE HD HR
            have hln:=HLEN.out
            go_wp2_with fail
            go_roundg (N-(xs.length+1)+1)
            case measure=>have:=HM.out;omega
            case rel=>exact ⟨xs++[x],t1,a6,c6,by simp,by simp only [List.length_append,List.length_cons,List.length_nil];omega,by simp only [List.length_append,List.length_cons,List.length_nil],HE2.out,by simpa using HD6.out,by simpa using HR6.out⟩
          · refine wv_val (run_bsW rfl rfl) ?_
            have al:=(Below.refl _ w4).alloc (Nat.le_refl _) (.cells #[.int .i64 x] 2)
            have HD3:=Lib.hid (HD2.out.below al)
            have HR3:=Lib.hid (row_below HR2.out al)
            have HNW:Hid (∀ j u,([.int .i64 x]:List Value)[j]? = some u→(w4.alloc (.cells #[.int .i64 x] 2)).cell? ((⟨w4.heap.size,0,none⟩:Addr).add j)=some u):=fun j u hj=>by
             rw [addr_add,Nat.zero_add]
             exact row_cellsO (Own.new w4 2 #[.int .i64 x]) j u (by simpa using hj)
            clear al
            refine ⟨trivial,?_⟩
            change wpAnyH _ _ _ _ _ _ _ { tmps:=List.toArray (_::_::_::_::_::_::_::_::_::_::_::_::_::_::_::_::_::_::_::_::_::_::_::_::_::_::_::_::_::_::_::_::_::_::_::_::_::_::_::_::_::_::_::_::_::_::_::_::_::_::_::_::_::_::_::_::_::_::_::_::_::_::_::_::_::_::_::_::_::_::_::_::_::_::_::_::_::_::_::_::_::_::_::_::_::_::_::_::_::_::_::_::_::_::_::_::_::_::_::_::_::_::_::_::_::_::_::_::_::_::_::_::_::_::_::_::_::_::_::_::_::_::_::_::_::_::_::_::_::_::_::_::_::_::_::_::_::_::_::_::_::_::_::_::_::_::_::_::_::_::_::_::_::_::_::_::_::_::_::_::_::_::_::_::_::_::_::_::_::_::_::_::_::_::_::_::_::_::_::_::_::_::[]),defers:=[] } _
            refine dr_one 1 rfl rfl (by kernel_rfl) ?_
            refine wp_ldI rfl rfl (row_cellsO HD3.out.ox 0 _ rfl) ⟨trivial,?_⟩
            change wpAnyH _ _ _ _ _ _ _ { tmps:=List.toArray (_::_::_::_::_::_::_::_::_::_::_::_::_::_::_::_::_::_::_::_::_::_::_::_::_::_::_::_::_::_::_::_::_::_::_::_::_::_::_::_::_::_::_::_::_::_::_::_::_::_::_::_::_::_::_::_::_::_::_::_::_::_::_::_::_::_::_::_::_::_::_::_::_::_::_::_::_::_::_::_::_::_::_::_::_::_::_::_::_::_::_::_::_::_::_::_::_::_::_::_::_::_::_::_::_::_::_::_::_::_::_::_::_::_::_::_::_::_::_::_::_::_::_::_::_::_::_::_::_::_::_::_::_::_::_::_::_::_::_::_::_::_::_::_::_::_::_::_::_::_::_::_::_::_::_::_::_::_::_::_::_::_::_::_::_::_::_::_::_::_::_::_::_::_::_::_::_::_::_::_::_::_::[]),defers:=[] } _
            refine dr_one 5 rfl rfl (by kernel_rfl) ?_
            refine wp_append_own (w4.alloc (.cells #[.int .i64 x] 2)) _ _ 22 rfl (q+1) 2 i0 _ 1 8 Tryz.underlying22 hi hz0 hz1 hz2 rfl (by decide) (.slice az xs.length cz) xs.length (xs.map fun x=>.int .i64 x) rfl HR3.out ⟨w4.heap.size,0,none⟩ 1 1 [.int .i64 x] rfl rfl HNW.out (by simp [Value.oneCell']) (by have:=HLEN.out;simp only [maxLen];omega) (by have:=HLEN.out;omega) (by rw [World.size_alloc];have:=HD2.out.ox.lt;omega) ?_
            intro v5 W5 hr hg _
            obtain ⟨a6,c6,rfl⟩:=row_slice hr
            have HD5:=Lib.hid (HD3.out.grown hg (fun k hk=>by have:=(HR3.out.lt k hk).1;omega))
            have HR5:=Lib.hid hr
            clear hr hg
            have d0:W5.cell? ⟨q,0,none⟩=some (.slice az xs.length cz):=row_cellsO HD5.out.ox 0 _ rfl
            have f0:W5.frozen? ⟨q,0,none⟩=false:=own_frozen HD5.out.ox 0
            have HD6:Hid (Ds w p q l (some ⟨g0,q0,none⟩) c t1 #[.slice a6 (xs.length+1) c6,.int .i64 sh,.int .i64 lk,.int .i64 bf,.slice none 0 0] (W5.setCell ⟨q,0,none⟩ (.slice a6 (xs.length+1) c6))):=HD5.out.put 0 _
            have HR6:=Lib.hid (row_setbelow HR5.out (Nat.lt_succ_self q) 0 (.slice a6 (xs.length+1) c6))
            refine ⟨trivial,?_⟩
            change wpAnyH _ _ _ _ _ _ _ { tmps:=List.toArray (_::_::_::_::_::_::_::_::_::_::_::_::_::_::_::_::_::_::_::_::_::_::_::_::_::_::_::_::_::_::_::_::_::_::_::_::_::_::_::_::_::_::_::_::_::_::_::_::_::_::_::_::_::_::_::_::_::_::_::_::_::_::_::_::_::_::_::_::_::_::_::_::_::_::_::_::_::_::_::_::_::_::_::_::_::_::_::_::_::_::_::_::_::_::_::_::_::_::_::_::_::_::_::_::_::_::_::_::_::_::_::_::_::_::_::_::_::_::_::_::_::_::_::_::_::_::_::_::_::_::_::_::_::_::_::_::_::_::_::_::_::_::_::_::_::_::_::_::_::_::_::_::_::_::_::_::_::_::_::_::_::_::_::_::_::_::_::_::_::_::_::_::_::_::_::_::_::_::_::_::_::_::[]),defers:=[] } _
            refine dr_one 6 rfl rfl (by kernel_rfl) ?_
            refine wv_val (w':=W5) (v:=.pointer (some ⟨q,0,none⟩)) (by unfold execOp;go_simp) ⟨trivial,?_⟩
            change wpAnyH _ _ _ _ _ _ _ { tmps:=List.toArray (_::_::_::_::_::_::_::_::_::_::_::_::_::_::_::_::_::_::_::_::_::_::_::_::_::_::_::_::_::_::_::_::_::_::_::_::_::_::_::_::_::_::_::_::_::_::_::_::_::_::_::_::_::_::_::_::_::_::_::_::_::_::_::_::_::_::_::_::_::_::_::_::_::_::_::_::_::_::_::_::_::_::_::_::_::_::_::_::_::_::_::_::_::_::_::_::_::_::_::_::_::_::_::_::_::_::_::_::_::_::_::_::_::_::_::_::_::_::_::_::_::_::_::_::_::_::_::_::_::_::_::_::_::_::_::_::_::_::_::_::_::_::_::_::_::_::_::_::_::_::_::_::_::_::_::_::_::_::_::_::_::_::_::_::_::_::_::_::_::_::_::_::_::_::_::_::_::_::_::_::_::_::[]),defers:=[] } _
            refine dr_one 7 rfl rfl (by kernel_rfl) ?_
            refine wp_stI rfl rfl rfl d0 f0 ⟨trivial,?_⟩
            refine wpAnyH_done (by kernel_rfl) ?_ _
            have HE2:Hid (repR wdR N s4=((xs++[x])++(repR wdR (N-(xs++[x]).length) t1).1,(repR wdR (N-(xs++[x]).length) t1).2)):=by
             have e1:N-xs.length=(N-xs.length-1)+1:=by omega
             have e2:N-(xs++[x]).length=N-xs.length-1:=by simp only [List.length_append,List.length_cons,List.length_nil];omega
             have hst:=rep_step wdR (N-xs.length-1) (l.drop mj,false) rfl
             rw [HX1.out] at hst
             rw [Hid,HE.out,e2,e1,hst]
             simp
            clear d0 f0 HD5 HR5 HD3 HR3 HD2 HR2 HNW HD1 HR1 HE HD HR
            have hln:=HLEN.out
            go_wp2_with fail
            go_roundg (N-(xs.length+1)+1)
            case measure=>have:=HM.out;omega
            case rel=>exact ⟨xs++[x],t1,a6,c6,by simp,by simp only [List.length_append,List.length_cons,List.length_nil];omega,by simp only [List.length_append,List.length_cons,List.length_nil],HE2.out,by simpa using HD6.out,by simpa using HR6.out⟩
    · have hnn : ¬ (xs.length : Int) < (N : Int) := by omega
      have HZ:Hid (repR wdR N s4=(xs,(l.drop mj,dj))):=by
       have e0:N-xs.length=0:=by omega
       rw [Hid,HE.out,e0]
       show (xs++[],(l.drop mj,dj))=_
       rw [List.append_nil]
      clear HE HM HL HC HWD HIN
      go_wp2_with fail
      go_meet
      case rel=>exact ⟨xs,_,az,cz,HZ.out,HD.out,HR.out⟩
 case rest =>
  clear HD1
  obtain ⟨mem,s5,a1,c1,hme,hd,hr⟩:=hcut
  have HME:=Lib.hid hme
  have HD2:=Lib.hid hd
  have HR2:=Lib.hid hr
  have HML:Hid (mem.length≤N∧∀ x∈mem,I64 x):=by
   have:=rep_all (P:=I64) (fun s=>wdR_in s) N s4
   rw [hme] at this
   exact ⟨this.2,this.1⟩
  clear hme hd hr
  go_upto_block 2 with (go_at_call 32;refine (HC.out _ _ 8 HD2.out.rd (by decide) (by decide)).mono ?_;rintro e w7 ⟨m,s6,h6,rfl,hb6,hq⟩;have HD3:=Lib.hid (HD2.out.call hq);have HR3:=Lib.hid (row_rds HR2.out (by have:=HD2.out.pq;omega) hq);have H6:=Lib.hid h6;have HB6:=Lib.hid hb6;clear h6 hb6 hq HD2 HR2)
  obtain ⟨M,hM⟩:∃ M:Nat,m=(M:Int):=⟨m.toNat,by have:=HB6.out;omega⟩
  subst hM
  go_cut [] (fun wx=>∃ (xs:List (Cor × Value)) (t:Bst) (a5:Option Addr) (c5:Nat),Ds w p q l (some ⟨g0,q0,none⟩) c t #[.slice a1 mem.length c1,.int .i64 sh,.int .i64 lk,.int .i64 bf,.slice a5 xs.length c5] wx∧DcV (q+1) ⟨mem,sh,lk,bf,xs.map Prod.fst⟩ (.slice a1 mem.length c1) (.slice a5 xs.length c5) xs wx∧xs.length≤M∧(∀ y∈xs,CokD y.1)∧(repR (corD N) M s6=(xs.map Prod.fst,t)∨(t.2=true∧(repR (corD N) M s6).2.2=true)))
  case first =>
   as_aux_lemma =>
    go_wp2_with fail
    go_loopg [9] (M+1) (fun m' z X=>∃ (xs:List (Cor × Value)) (sj:Bst) (a5:Option Addr) (c5:Nat),z=.int .i64 (xs.length:Int)∧xs.length≤M∧m'=M-xs.length+1∧repR (corD N) M s6=(xs.map Prod.fst++(repR (corD N) (M-xs.length) sj).1,(repR (corD N) (M-xs.length) sj).2)∧Ds w p q l (some ⟨g0,q0,none⟩) c sj #[.slice a1 mem.length c1,.int .i64 sh,.int .i64 lk,.int .i64 bf,.slice a5 xs.length c5] X∧DcV (q+1) ⟨mem,sh,lk,bf,xs.map Prod.fst⟩ (.slice a1 mem.length c1) (.slice a5 xs.length c5) xs X∧∀ y∈xs,CokD y.1)
    case atStart=>exact ⟨[],s6,none,0,rfl,Nat.zero_le _,by simp,by simp,HD3.out,⟨HR3.out,rfl,World.ownsRow_nil _ _ _ _,fun x hx=>by simp at hx⟩,fun y hy=>by simp at hy⟩
    case round =>
     clear HD3 HR3
     obtain ⟨xs,sj,az,cz,rfl,hl,hm',he,hd,hv,hok⟩:=hrel
     obtain ⟨mj,dj,rfl,_,_,_,p2,_,_⟩:=hd.at
     have HM:=Lib.hid hm'
     have HD:=Lib.hid hd
     have HV:=Lib.hid hv
     have HE:=Lib.hid he
     have HL:=Lib.hid hl
     have HOK:=Lib.hid hok
     clear hm' hd hv he hl hok
     by_cases hjn:xs.length<M
     rotate_left
     · have hnn : ¬ (xs.length : Int) < (M : Int) := by omega
       have HZ:Hid (repR (corD N) M s6=(xs.map Prod.fst,(l.drop mj,dj))):=by
        have e0:M-xs.length=0:=by omega
        rw [Hid,HE.out,e0]
        show (_++[],(l.drop mj,dj))=_
        rw [List.append_nil]
       clear HE HM HC HWD HIN
       go_wp2_with fail
       go_meet
       case rel=>exact ⟨xs,_,az,cz,HD.out,HV.out,HL.out,HOK.out,.inl HZ.out⟩
     have hjj:(xs.length:Int)<(M:Int):=by omega
     cases dj with
     | true =>
       have HZ:Hid (repR (corD N) M s6=(xs.map Prod.fst,(l.drop mj,true))):=by rw [Hid,HE.out,rep_stop (corD N) _ (l.drop mj,true) rfl,List.append_nil]
       clear HE HM HC HWD HIN
       go_wp2_with fail
       go_meet
       case rel=>exact ⟨xs,_,az,cz,HD.out,HV.out,HL.out,HOK.out,.inl HZ.out⟩
     | false =>
       have O1:=Own.new wr 70 #[.string ⟨#[]⟩,.slice none 0 0]
       have HQG:Hid (q<wr.heap.size∧p<wr.heap.size∧p<q):=⟨HD.out.ox.lt,HD.out.rd.lt,HD.out.pq⟩
       have HC0:Hid (Cn wr p wr.heap.size l (some ⟨g0,q0,none⟩) c (l.drop mj,false) #[.string ⟨#[]⟩,.slice none 0 0] ((wr.alloc (.cells #[.string ⟨#[]⟩,.slice none 0 0] 70)).setRow wr.heap.size #[.string ⟨#[]⟩,.slice none 0 0])):=by
        have hc:Cn wr p wr.heap.size l (some ⟨g0,q0,none⟩) c (l.drop mj,false) #[.string ⟨#[]⟩,.slice none 0 0] (wr.alloc (.cells #[.string ⟨#[]⟩,.slice none 0 0] 70)):=⟨(rds_new HD.out.rd).below ((Below.refl _ wr).alloc (Nat.le_refl _) _),O1,Nat.le_refl _,HD.out.rd.lt⟩
        exact hc.row #[.string ⟨#[]⟩,.slice none 0 0]
       go_upto_region 15 with (refine st rowC rfl rfl O1 rfl rfl (by rfl) (by rfl) (by kernel_rfl) ?_)
       clear O1 p2
       generalize (wr.alloc (.cells #[.string ⟨#[]⟩,.slice none 0 0] 70)).setRow wr.heap.size #[.string ⟨#[]⟩,.slice none 0 0]=W1x at HC0 ⊢
       obtain ⟨g,hg⟩:∃ g,g=wr.heap.size:=⟨_,rfl⟩
       rw [← hg] at HC0 HQG ⊢
       have HG:=Lib.hid hg
       clear hg
       go_upto_region 16 with (go_at_call 32;refine (HC.out _ _ 32 HC0.out.rds.st (by decide) (by decide)).mono ?_;rintro e w8 ⟨nn,t1,h7,rfl,hb7,hq⟩;have HC1:=Lib.hid (HC0.out.call hq);have H7:=Lib.hid h7;have HB7:=Lib.hid hb7;clear h7 hb7 hq HC0)
       obtain ⟨K,hK⟩:∃ K:Nat,nn=(K:Int):=⟨nn.toNat,by have:=HB7.out;omega⟩
       subst hK
       obtain ⟨k,d,rfl,hk,p0,p1,p2,f1,f2,hby⟩:=HC1.out.at
       have hmx:=HLC.out.2
       have hcx:=HLC.out.1
       clear hby p0
       have esub:IntKind.i64.wrap ((l.length:Int)-(k:Int))=(l.length:Int)-(k:Int):=by rw [IntKind.wrap_i64];omega
       by_cases hbig:(l.length:Int)-(k:Int)<(K:Int)
       · have hgt : (K : Int) > (l.length : Int) - (k : Int) := hbig
         have HBD:Hid ((repR (corD N) M s6).2.2=true):=by
          have e1:M-xs.length=(M-xs.length-1)+1:=by omega
          have hst:=rep_step (corD N) (M-xs.length-1) (l.drop mj,false) rfl
          have hco:(corD N (l.drop mj,false)).2=(l.drop k,true):=by
           unfold corD
           simp only [H7.out]
           rw [if_pos (by rw [List.length_drop];omega)]
          rw [Hid,HE.out,e1,hst]
          simp only
          rw [hco,rep_stop (corD N) _ (l.drop k,true) rfl]
         have HCB:=Lib.hid HC1.out.bad
         clear HE HM HC HWD HIN HC1
         go_wp2_with fail
         go_meet
         case rel=>exact ⟨xs,_,az,cz,HD.out.call HCB.out.rds,HV.out.rds (by have:=HQG.out;omega) HCB.out.rds,HL.out,HOK.out,.inr ⟨rfl,HBD.out⟩⟩
       have hgt:¬ (K:Int) > (l.length:Int)-(k:Int):=hbig
       have hkl:k+K≤l.length:=by omega
       have hkc:k+K≤c:=by omega
       have e3:IntKind.i64.wrap ((k:Int)+(K:Int))=(k:Int)+(K:Int):=by rw [IntKind.wrap_i64];omega
       obtain ⟨nm,hnm⟩:∃ nm:ByteArray,nm=⟨((l.drop k).take K).toArray⟩:=⟨_,rfl⟩
       have HNM:=Lib.hid hnm
       obtain ⟨asl,hasl⟩:∃ x:Option Addr,x=(if c=k then some ⟨g0,q0,none⟩ else some ⟨g0,q0+k,none⟩):=⟨_,rfl⟩
       have HCV:Hid (∀ V,BsA p V l (some ⟨g0,q0,none⟩)→(convert 26 9 (.slice asl (k+K-k) (c-k))).run Tryz.prog V=.ok (.string nm) V):=fun V h=>by rw [hnm,hasl];exact conv_sub h hkl hcx (by omega)
       have HAS:=Lib.hid hasl
       clear hasl
       go_upto_region 18 with fail
       have HC2:=Lib.hid (HC1.out.below (below_drewN (Below.refl _ w8) 1))
       clear p1 p2 f1 f2 HC1 hgt hnm hbig
       refine wp_region_held (S:=fun V=>V.cell? ⟨p,1,none⟩=some (.int .i64 (k:Int))∧BsA p V l (some ⟨g0,q0,none⟩)) (by kernel_rfl) ?_
       change wpAnyH _ _ _ _ _ _ _ _ w8.drew
       change Hid (Cn _ _ _ _ _ _ _ _ w8.drew) at HC2
       obtain ⟨W3,hW3⟩:∃ W,W=w8.drew:=⟨_,rfl⟩
       rw [← hW3] at HC2 ⊢
       clear hW3
       obtain ⟨p1,_,_,hby⟩:=HC2.out.atk hk
       have HSX:=Lib.hid (And.intro p1 hby)
       clear p1 hby
       change wpAnyH _ _ _ _ _ _ _ { tmps:=List.toArray (_::_::_::_::_::_::_::_::_::_::_::_::_::_::_::_::_::_::_::_::_::_::_::_::_::_::_::_::_::_::_::_::_::_::_::_::_::_::_::_::_::_::_::_::_::_::_::_::_::_::_::_::_::_::_::_::_::_::_::_::_::_::_::_::_::_::_::_::_::_::_::_::_::_::_::_::_::_::_::_::_::_::_::_::_::_::_::_::_::_::_::_::_::_::_::_::_::_::_::_::_::_::_::_::_::_::_::_::_::_::_::_::_::_::_::_::_::_::_::_::_::_::_::_::_::_::_::_::_::_::_::_::_::_::_::_::_::_::_::_::_::_::_::_::_::_::_::_::_::_::_::_::_::_::_::_::_::_::_::_::_::_::_::_::_::_::_::_::_::_::_::_::_::_::_::_::_::_::_::_::_::_::[]),defers:=[] } _
       refine dr_take 0 (.slice (some ⟨g0,q0,none⟩) l.length c) rfl rfl (by kernel_rfl) (by kernel_rfl) (by kernel_rfl) (fun _ _ _ h=>h) (fun _ _=>by unfold execOp;go_simp) HSX.out ?_
       change wpAnyH _ _ _ _ _ _ _ { tmps:=List.toArray (_::_::_::_::_::_::_::_::_::_::_::_::_::_::_::_::_::_::_::_::_::_::_::_::_::_::_::_::_::_::_::_::_::_::_::_::_::_::_::_::_::_::_::_::_::_::_::_::_::_::_::_::_::_::_::_::_::_::_::_::_::_::_::_::_::_::_::_::_::_::_::_::_::_::_::_::_::_::_::_::_::_::_::_::_::_::_::_::_::_::_::_::_::_::_::_::_::_::_::_::_::_::_::_::_::_::_::_::_::_::_::_::_::_::_::_::_::_::_::_::_::_::_::_::_::_::_::_::_::_::_::_::_::_::_::_::_::_::_::_::_::_::_::_::_::_::_::_::_::_::_::_::_::_::_::_::_::_::_::_::_::_::_::_::_::_::_::_::_::_::_::_::_::_::_::_::_::_::_::_::_::_::[]),defers:=[] } _
       refine dr_take 1 (.pointer (some ⟨p,0,none⟩)) rfl rfl (by kernel_rfl) (by kernel_rfl) (by kernel_rfl) (fun _ _ _ h=>h) (fun _ _=>by unfold execOp;go_simp) HSX.out ?_
       change wpAnyH _ _ _ _ _ _ _ { tmps:=List.toArray (_::_::_::_::_::_::_::_::_::_::_::_::_::_::_::_::_::_::_::_::_::_::_::_::_::_::_::_::_::_::_::_::_::_::_::_::_::_::_::_::_::_::_::_::_::_::_::_::_::_::_::_::_::_::_::_::_::_::_::_::_::_::_::_::_::_::_::_::_::_::_::_::_::_::_::_::_::_::_::_::_::_::_::_::_::_::_::_::_::_::_::_::_::_::_::_::_::_::_::_::_::_::_::_::_::_::_::_::_::_::_::_::_::_::_::_::_::_::_::_::_::_::_::_::_::_::_::_::_::_::_::_::_::_::_::_::_::_::_::_::_::_::_::_::_::_::_::_::_::_::_::_::_::_::_::_::_::_::_::_::_::_::_::_::_::_::_::_::_::_::_::_::_::_::_::_::_::_::_::_::_::_::[]),defers:=[] } _
       refine dr_take 2 (.pointer (some ⟨p,0,none⟩)) rfl rfl (by kernel_rfl) (by kernel_rfl) (by kernel_rfl) (fun _ _ _ h=>h) (fun _ _=>by unfold execOp;go_simp) HSX.out ?_
       change wpAnyH _ _ _ _ _ _ _ { tmps:=List.toArray (_::_::_::_::_::_::_::_::_::_::_::_::_::_::_::_::_::_::_::_::_::_::_::_::_::_::_::_::_::_::_::_::_::_::_::_::_::_::_::_::_::_::_::_::_::_::_::_::_::_::_::_::_::_::_::_::_::_::_::_::_::_::_::_::_::_::_::_::_::_::_::_::_::_::_::_::_::_::_::_::_::_::_::_::_::_::_::_::_::_::_::_::_::_::_::_::_::_::_::_::_::_::_::_::_::_::_::_::_::_::_::_::_::_::_::_::_::_::_::_::_::_::_::_::_::_::_::_::_::_::_::_::_::_::_::_::_::_::_::_::_::_::_::_::_::_::_::_::_::_::_::_::_::_::_::_::_::_::_::_::_::_::_::_::_::_::_::_::_::_::_::_::_::_::_::_::_::_::_::_::_::_::[]),defers:=[] } _
       refine dr_take 3 (.pointer (some ⟨p,1,none⟩)) rfl rfl (by kernel_rfl) (by kernel_rfl) (by kernel_rfl) (fun _ _ _ h=>h) (fun _ _=>by unfold execOp;go_simp) HSX.out ?_
       change wpAnyH _ _ _ _ _ _ _ { tmps:=List.toArray (_::_::_::_::_::_::_::_::_::_::_::_::_::_::_::_::_::_::_::_::_::_::_::_::_::_::_::_::_::_::_::_::_::_::_::_::_::_::_::_::_::_::_::_::_::_::_::_::_::_::_::_::_::_::_::_::_::_::_::_::_::_::_::_::_::_::_::_::_::_::_::_::_::_::_::_::_::_::_::_::_::_::_::_::_::_::_::_::_::_::_::_::_::_::_::_::_::_::_::_::_::_::_::_::_::_::_::_::_::_::_::_::_::_::_::_::_::_::_::_::_::_::_::_::_::_::_::_::_::_::_::_::_::_::_::_::_::_::_::_::_::_::_::_::_::_::_::_::_::_::_::_::_::_::_::_::_::_::_::_::_::_::_::_::_::_::_::_::_::_::_::_::_::_::_::_::_::_::_::_::_::_::[]),defers:=[] } _
       refine dr_take 4 (.int .i64 (k:Int)) rfl rfl (by kernel_rfl) (by kernel_rfl) (by kernel_rfl) (fun _ _ _ h=>h) (fun V h=>by have h1:=h.1;clear h;unfold execOp;go_simp) HSX.out ?_
       change wpAnyH _ _ _ _ _ _ _ { tmps:=List.toArray (_::_::_::_::_::_::_::_::_::_::_::_::_::_::_::_::_::_::_::_::_::_::_::_::_::_::_::_::_::_::_::_::_::_::_::_::_::_::_::_::_::_::_::_::_::_::_::_::_::_::_::_::_::_::_::_::_::_::_::_::_::_::_::_::_::_::_::_::_::_::_::_::_::_::_::_::_::_::_::_::_::_::_::_::_::_::_::_::_::_::_::_::_::_::_::_::_::_::_::_::_::_::_::_::_::_::_::_::_::_::_::_::_::_::_::_::_::_::_::_::_::_::_::_::_::_::_::_::_::_::_::_::_::_::_::_::_::_::_::_::_::_::_::_::_::_::_::_::_::_::_::_::_::_::_::_::_::_::_::_::_::_::_::_::_::_::_::_::_::_::_::_::_::_::_::_::_::_::_::_::_::_::[]),defers:=[] } _
       refine dr_take 5 (.pointer (some ⟨p,0,none⟩)) rfl rfl (by kernel_rfl) (by kernel_rfl) (by kernel_rfl) (fun _ _ _ h=>h) (fun _ _=>by unfold execOp;go_simp) HSX.out ?_
       change wpAnyH _ _ _ _ _ _ _ { tmps:=List.toArray (_::_::_::_::_::_::_::_::_::_::_::_::_::_::_::_::_::_::_::_::_::_::_::_::_::_::_::_::_::_::_::_::_::_::_::_::_::_::_::_::_::_::_::_::_::_::_::_::_::_::_::_::_::_::_::_::_::_::_::_::_::_::_::_::_::_::_::_::_::_::_::_::_::_::_::_::_::_::_::_::_::_::_::_::_::_::_::_::_::_::_::_::_::_::_::_::_::_::_::_::_::_::_::_::_::_::_::_::_::_::_::_::_::_::_::_::_::_::_::_::_::_::_::_::_::_::_::_::_::_::_::_::_::_::_::_::_::_::_::_::_::_::_::_::_::_::_::_::_::_::_::_::_::_::_::_::_::_::_::_::_::_::_::_::_::_::_::_::_::_::_::_::_::_::_::_::_::_::_::_::_::_::[]),defers:=[] } _
       refine dr_take 6 (.pointer (some ⟨p,0,none⟩)) rfl rfl (by kernel_rfl) (by kernel_rfl) (by kernel_rfl) (fun _ _ _ h=>h) (fun _ _=>by unfold execOp;go_simp) HSX.out ?_
       change wpAnyH _ _ _ _ _ _ _ { tmps:=List.toArray (_::_::_::_::_::_::_::_::_::_::_::_::_::_::_::_::_::_::_::_::_::_::_::_::_::_::_::_::_::_::_::_::_::_::_::_::_::_::_::_::_::_::_::_::_::_::_::_::_::_::_::_::_::_::_::_::_::_::_::_::_::_::_::_::_::_::_::_::_::_::_::_::_::_::_::_::_::_::_::_::_::_::_::_::_::_::_::_::_::_::_::_::_::_::_::_::_::_::_::_::_::_::_::_::_::_::_::_::_::_::_::_::_::_::_::_::_::_::_::_::_::_::_::_::_::_::_::_::_::_::_::_::_::_::_::_::_::_::_::_::_::_::_::_::_::_::_::_::_::_::_::_::_::_::_::_::_::_::_::_::_::_::_::_::_::_::_::_::_::_::_::_::_::_::_::_::_::_::_::_::_::_::[]),defers:=[] } _
       refine dr_take 7 (.pointer (some ⟨p,1,none⟩)) rfl rfl (by kernel_rfl) (by kernel_rfl) (by kernel_rfl) (fun _ _ _ h=>h) (fun _ _=>by unfold execOp;go_simp) HSX.out ?_
       change wpAnyH _ _ _ _ _ _ _ { tmps:=List.toArray (_::_::_::_::_::_::_::_::_::_::_::_::_::_::_::_::_::_::_::_::_::_::_::_::_::_::_::_::_::_::_::_::_::_::_::_::_::_::_::_::_::_::_::_::_::_::_::_::_::_::_::_::_::_::_::_::_::_::_::_::_::_::_::_::_::_::_::_::_::_::_::_::_::_::_::_::_::_::_::_::_::_::_::_::_::_::_::_::_::_::_::_::_::_::_::_::_::_::_::_::_::_::_::_::_::_::_::_::_::_::_::_::_::_::_::_::_::_::_::_::_::_::_::_::_::_::_::_::_::_::_::_::_::_::_::_::_::_::_::_::_::_::_::_::_::_::_::_::_::_::_::_::_::_::_::_::_::_::_::_::_::_::_::_::_::_::_::_::_::_::_::_::_::_::_::_::_::_::_::_::_::_::[]),defers:=[] } _
       refine dr_take 8 (.int .i64 (k:Int)) rfl rfl (by kernel_rfl) (by kernel_rfl) (by kernel_rfl) (fun _ _ _ h=>h) (fun V h=>by have h1:=h.1;clear h;unfold execOp;go_simp) HSX.out ?_
       change wpAnyH _ _ _ _ _ _ _ { tmps:=List.toArray (_::_::_::_::_::_::_::_::_::_::_::_::_::_::_::_::_::_::_::_::_::_::_::_::_::_::_::_::_::_::_::_::_::_::_::_::_::_::_::_::_::_::_::_::_::_::_::_::_::_::_::_::_::_::_::_::_::_::_::_::_::_::_::_::_::_::_::_::_::_::_::_::_::_::_::_::_::_::_::_::_::_::_::_::_::_::_::_::_::_::_::_::_::_::_::_::_::_::_::_::_::_::_::_::_::_::_::_::_::_::_::_::_::_::_::_::_::_::_::_::_::_::_::_::_::_::_::_::_::_::_::_::_::_::_::_::_::_::_::_::_::_::_::_::_::_::_::_::_::_::_::_::_::_::_::_::_::_::_::_::_::_::_::_::_::_::_::_::_::_::_::_::_::_::_::_::_::_::_::_::_::_::[]),defers:=[] } _
       refine dr_take 9 (.int .i64 (K:Int)) rfl rfl (by kernel_rfl) (by kernel_rfl) (by kernel_rfl) (fun _ _ _ h=>h) (fun _ _=>by unfold execOp;go_simp) HSX.out ?_
       change wpAnyH _ _ _ _ _ _ _ { tmps:=List.toArray (_::_::_::_::_::_::_::_::_::_::_::_::_::_::_::_::_::_::_::_::_::_::_::_::_::_::_::_::_::_::_::_::_::_::_::_::_::_::_::_::_::_::_::_::_::_::_::_::_::_::_::_::_::_::_::_::_::_::_::_::_::_::_::_::_::_::_::_::_::_::_::_::_::_::_::_::_::_::_::_::_::_::_::_::_::_::_::_::_::_::_::_::_::_::_::_::_::_::_::_::_::_::_::_::_::_::_::_::_::_::_::_::_::_::_::_::_::_::_::_::_::_::_::_::_::_::_::_::_::_::_::_::_::_::_::_::_::_::_::_::_::_::_::_::_::_::_::_::_::_::_::_::_::_::_::_::_::_::_::_::_::_::_::_::_::_::_::_::_::_::_::_::_::_::_::_::_::_::_::_::_::_::[]),defers:=[] } _
       refine dr_take 10 (.int .i64 ((k+K:Nat):Int)) rfl rfl (by kernel_rfl) (by kernel_rfl) (by kernel_rfl) (fun _ _ _ h=>h) (fun _ _=>by unfold execOp;go_simp <;> simp [e3]) HSX.out ?_
       change wpAnyH _ _ _ _ _ _ _ { tmps:=List.toArray (_::_::_::_::_::_::_::_::_::_::_::_::_::_::_::_::_::_::_::_::_::_::_::_::_::_::_::_::_::_::_::_::_::_::_::_::_::_::_::_::_::_::_::_::_::_::_::_::_::_::_::_::_::_::_::_::_::_::_::_::_::_::_::_::_::_::_::_::_::_::_::_::_::_::_::_::_::_::_::_::_::_::_::_::_::_::_::_::_::_::_::_::_::_::_::_::_::_::_::_::_::_::_::_::_::_::_::_::_::_::_::_::_::_::_::_::_::_::_::_::_::_::_::_::_::_::_::_::_::_::_::_::_::_::_::_::_::_::_::_::_::_::_::_::_::_::_::_::_::_::_::_::_::_::_::_::_::_::_::_::_::_::_::_::_::_::_::_::_::_::_::_::_::_::_::_::_::_::_::_::_::_::[]),defers:=[] } _
       refine dr_take 11 (.slice asl (k+K-k) (c-k)) rfl rfl (by kernel_rfl) (by kernel_rfl) (by kernel_rfl) (fun _ _ _ h=>h) (fun V _=>by rw [HAS.out];exact run_sliceB rfl rfl rfl rfl (Nat.le_add_right k K) hkc) HSX.out ?_
       change wpAnyH _ _ _ _ _ _ _ { tmps:=List.toArray (_::_::_::_::_::_::_::_::_::_::_::_::_::_::_::_::_::_::_::_::_::_::_::_::_::_::_::_::_::_::_::_::_::_::_::_::_::_::_::_::_::_::_::_::_::_::_::_::_::_::_::_::_::_::_::_::_::_::_::_::_::_::_::_::_::_::_::_::_::_::_::_::_::_::_::_::_::_::_::_::_::_::_::_::_::_::_::_::_::_::_::_::_::_::_::_::_::_::_::_::_::_::_::_::_::_::_::_::_::_::_::_::_::_::_::_::_::_::_::_::_::_::_::_::_::_::_::_::_::_::_::_::_::_::_::_::_::_::_::_::_::_::_::_::_::_::_::_::_::_::_::_::_::_::_::_::_::_::_::_::_::_::_::_::_::_::_::_::_::_::_::_::_::_::_::_::_::_::_::_::_::_::[]),defers:=[] } _
       refine dr_take 12 (.string nm) rfl rfl (by kernel_rfl) (by kernel_rfl) (by kernel_rfl) (fun _ _ _ h=>h) (fun V h=>run_conv (v:=.slice asl (k+K-k) (c-k)) rfl rfl (HCV.out V h.2)) HSX.out ?_
       change wpAnyH _ _ _ _ _ _ _ { tmps:=List.toArray (_::_::_::_::_::_::_::_::_::_::_::_::_::_::_::_::_::_::_::_::_::_::_::_::_::_::_::_::_::_::_::_::_::_::_::_::_::_::_::_::_::_::_::_::_::_::_::_::_::_::_::_::_::_::_::_::_::_::_::_::_::_::_::_::_::_::_::_::_::_::_::_::_::_::_::_::_::_::_::_::_::_::_::_::_::_::_::_::_::_::_::_::_::_::_::_::_::_::_::_::_::_::_::_::_::_::_::_::_::_::_::_::_::_::_::_::_::_::_::_::_::_::_::_::_::_::_::_::_::_::_::_::_::_::_::_::_::_::_::_::_::_::_::_::_::_::_::_::_::_::_::_::_::_::_::_::_::_::_::_::_::_::_::_::_::_::_::_::_::_::_::_::_::_::_::_::_::_::_::_::_::_::[]),defers:=[] } _
       refine dr_take 13 (.pointer (some ⟨g,0,none⟩)) rfl rfl (by kernel_rfl) (by kernel_rfl) (by kernel_rfl) (fun _ _ _ h=>h) (fun _ _=>by unfold execOp;go_simp) HSX.out ?_
       change wpAnyH _ _ _ _ _ _ _ { tmps:=List.toArray (_::_::_::_::_::_::_::_::_::_::_::_::_::_::_::_::_::_::_::_::_::_::_::_::_::_::_::_::_::_::_::_::_::_::_::_::_::_::_::_::_::_::_::_::_::_::_::_::_::_::_::_::_::_::_::_::_::_::_::_::_::_::_::_::_::_::_::_::_::_::_::_::_::_::_::_::_::_::_::_::_::_::_::_::_::_::_::_::_::_::_::_::_::_::_::_::_::_::_::_::_::_::_::_::_::_::_::_::_::_::_::_::_::_::_::_::_::_::_::_::_::_::_::_::_::_::_::_::_::_::_::_::_::_::_::_::_::_::_::_::_::_::_::_::_::_::_::_::_::_::_::_::_::_::_::_::_::_::_::_::_::_::_::_::_::_::_::_::_::_::_::_::_::_::_::_::_::_::_::_::_::_::[]),defers:=[] } _
       refine dr_one 14 rfl rfl (by kernel_rfl) ?_
       have d0:W3.cell? ⟨g,0,none⟩=some (.string ⟨#[]⟩):=row_cellsO HC2.out.cx 0 _ rfl
       have f0:W3.frozen? ⟨g,0,none⟩=false:=own_frozen HC2.out.cx 0
       have HC3:Hid (Cn wr p g l (some ⟨g0,q0,none⟩) c (l.drop k,d) #[.string nm,.slice none 0 0] (W3.setCell ⟨g,0,none⟩ (.string nm))):=HC2.out.put 0 _
       obtain ⟨p1,q1,p2,hby⟩:=HC3.out.atk hk
       have HS3:=Lib.hid (And.intro p1 hby)
       clear hby
       refine wp_stS rfl rfl rfl d0 f0 ⟨HS3.out,?_⟩
       refine wpAnyH_done (by kernel_rfl) ?_ _
       clear d0 f0 HS3 HSX HC2
       clear HCV HAS
       generalize W3.setCell ⟨g,0,none⟩ (.string nm)=W4 at HC3 p1 q1 p2 ⊢
       go_upto_region 20 with fail
       have HC4:=Lib.hid (HC3.out.go rfl p1 hk hkl)
       rw [Int.natCast_add] at HC4
       clear p1 q1 p2 HC3
       generalize W4.setCell ⟨p,1,none⟩ (.int .i64 ((k:Int)+(K:Int)))=W5 at HC4 ⊢
       go_upto_block 4 with (go_at_call 32;refine (HC.out _ _ 16384 HC4.out.rds.st (by decide) (by decide)).mono ?_;rintro e w9 ⟨kk,t3,h8,rfl,hb8,hq⟩;have HC5:=Lib.hid (HC4.out.call hq);have H8:=Lib.hid h8;have HB8:=Lib.hid hb8;clear h8 hb8 hq HC4)
       obtain ⟨KK,hKK⟩:∃ KK:Nat,kk=(KK:Int):=⟨kk.toNat,by have:=HB8.out;omega⟩
       subst hKK
       have HKN:Hid ((0≤(KK:Int)∧(KK:Int)≤1000000)∧(0≤(N:Int)∧(N:Int)≤1000000)):=by have:=HB8.out;have:=HB4.out;show _∧_;omega
       have HKM:Hid (KK≤16384):=by have:=HB8.out;show _≤_;omega
       clear esub e3
       obtain ⟨wo,rfl⟩:∃ x,x=wr:=⟨_,rfl⟩
       go_cut [] (fun wx=>∃ (cd:List Ins) (t4:Bst) (a2:Option Addr) (c2:Nat),repR (insD KK N) KK t3=(cd,t4)∧Cn wo p g l (some ⟨g0,q0,none⟩) c t4 #[.string nm,.slice a2 cd.length c2] wx∧wx.ownsRow (g+1) 75 9 (.slice a2 cd.length c2) cd.length (flatI cd))
       case first =>
        as_aux_lemma =>
         go_wp2_with fail
         go_loopg [13] (KK+1) (fun m' z X=>∃ (ys:List Ins) (sk:Bst) (a2:Option Addr) (c2:Nat),z=.int .i64 (ys.length:Int)∧ys.length≤KK∧m'=KK-ys.length+1∧repR (insD KK N) KK t3=(ys++(repR (insD KK N) (KK-ys.length) sk).1,(repR (insD KK N) (KK-ys.length) sk).2)∧Cn wo p g l (some ⟨g0,q0,none⟩) c sk #[.string nm,.slice a2 ys.length c2] X∧X.ownsRow (g+1) 75 9 (.slice a2 ys.length c2) ys.length (flatI ys))
         case atStart=>exact ⟨[],t3,none,0,rfl,Nat.zero_le _,by simp,by simp,HC5.out,World.ownsRow_nil _ _ _ _⟩
         case round =>
          clear HC5
          obtain ⟨ys,sk,ay,cy,rfl,hl3,hm3,he3,hc3,hr3⟩:=hrel
          obtain ⟨mk,dk,rfl,_,_,_,p2,_,_,_⟩:=hc3.at
          have HM3:=Lib.hid hm3
          have HC6:=Lib.hid hc3
          have HR6:=Lib.hid hr3
          have HE3:=Lib.hid he3
          clear hm3 hc3 hr3 he3
          by_cases hjn3:ys.length<KK
          rotate_left
          · have hnn3 : ¬ (ys.length : Int) < (KK : Int) := by omega
            have HZ3:Hid (repR (insD KK N) KK t3=(ys,(l.drop mk,dk))):=by
             have e0:KK-ys.length=0:=by omega
             rw [Hid,HE3.out,e0]
             show (_++[],(l.drop mk,dk))=_
             rw [List.append_nil]
            clear HE3 HM3 HC HWD HIN
            go_wp2_with fail
            go_meet
            case rel=>exact ⟨ys,_,ay,cy,HZ3.out,HC6.out,HR6.out⟩
          have hjj3:(ys.length:Int)<(KK:Int):=by omega
          cases dk with
          | true =>
            have HZ3:Hid (repR (insD KK N) KK t3=(ys,(l.drop mk,true))):=by rw [Hid,HE3.out,rep_stop (insD KK N) _ (l.drop mk,true) rfl,List.append_nil]
            clear HE3 HM3 HC HWD HIN
            go_wp2_with fail
            go_meet
            case rel=>exact ⟨ys,_,ay,cy,HZ3.out,HC6.out,HR6.out⟩
          | false =>
            have HLEN:Hid (ys.length≤16384):=by have:=HKM.out;show _≤_;omega
            go_upto_region 24 with fail
            replace HC6:=Lib.hid (HC6.out.below (below_drewN (Below.refl _ wr) 1))
            replace HR6:=Lib.hid (row_below HR6.out (below_drewN (Below.refl _ wr) 1))
            clear p2
            refine wp_region_held (S:=fun _=>True) (by kernel_rfl) ?_
            change wpAnyH _ _ _ _ _ _ _ _ wr.drew
            change Hid (Cn _ _ _ _ _ _ _ _ wr.drew) at HC6
            change Hid (World.ownsRow wr.drew _ _ _ _ _ _) at HR6
            obtain ⟨W3,hW3⟩:∃ W,W=wr.drew:=⟨_,rfl⟩
            rw [← hW3] at HC6 HR6 ⊢
            clear hW3
            change wpAnyH _ _ _ _ _ _ _ { tmps:=List.toArray (_::_::_::_::_::_::_::_::_::_::_::_::_::_::_::_::_::_::_::_::_::_::_::_::_::_::_::_::_::_::_::_::_::_::_::_::_::_::_::_::_::_::_::_::_::_::_::_::_::_::_::_::_::_::_::_::_::_::_::_::_::_::_::_::_::_::_::_::_::_::_::_::_::_::_::_::_::_::_::_::_::_::_::_::_::_::_::_::_::_::_::_::_::_::_::_::_::_::_::_::_::_::_::_::_::_::_::_::_::_::_::_::_::_::_::_::_::_::_::_::_::_::_::_::_::_::_::_::_::_::_::_::_::_::_::_::_::_::_::_::_::_::_::_::_::_::_::_::_::_::_::_::_::_::_::_::_::_::_::_::_::_::_::_::_::_::_::_::_::_::_::_::_::_::_::_::_::_::_::_::_::_::[]),defers:=[] } _
            refine dr_take 0 (.pointer (some ⟨g,1,none⟩)) rfl rfl (by kernel_rfl) (by kernel_rfl) (by kernel_rfl) (fun _ _ _ h=>h) (fun _ _=>by unfold execOp;go_simp) trivial ?_
            change wpAnyH _ _ _ _ _ _ _ { tmps:=List.toArray (_::_::_::_::_::_::_::_::_::_::_::_::_::_::_::_::_::_::_::_::_::_::_::_::_::_::_::_::_::_::_::_::_::_::_::_::_::_::_::_::_::_::_::_::_::_::_::_::_::_::_::_::_::_::_::_::_::_::_::_::_::_::_::_::_::_::_::_::_::_::_::_::_::_::_::_::_::_::_::_::_::_::_::_::_::_::_::_::_::_::_::_::_::_::_::_::_::_::_::_::_::_::_::_::_::_::_::_::_::_::_::_::_::_::_::_::_::_::_::_::_::_::_::_::_::_::_::_::_::_::_::_::_::_::_::_::_::_::_::_::_::_::_::_::_::_::_::_::_::_::_::_::_::_::_::_::_::_::_::_::_::_::_::_::_::_::_::_::_::_::_::_::_::_::_::_::_::_::_::_::_::_::[]),defers:=[] } _
            refine dr_take 2 (.pointer (some ⟨p,0,none⟩)) rfl rfl (by kernel_rfl) (by kernel_rfl) (by kernel_rfl) (fun _ _ _ h=>h) (fun _ _=>by unfold execOp;go_simp) trivial ?_
            change wpAnyH _ _ _ _ _ _ _ { tmps:=List.toArray (_::_::_::_::_::_::_::_::_::_::_::_::_::_::_::_::_::_::_::_::_::_::_::_::_::_::_::_::_::_::_::_::_::_::_::_::_::_::_::_::_::_::_::_::_::_::_::_::_::_::_::_::_::_::_::_::_::_::_::_::_::_::_::_::_::_::_::_::_::_::_::_::_::_::_::_::_::_::_::_::_::_::_::_::_::_::_::_::_::_::_::_::_::_::_::_::_::_::_::_::_::_::_::_::_::_::_::_::_::_::_::_::_::_::_::_::_::_::_::_::_::_::_::_::_::_::_::_::_::_::_::_::_::_::_::_::_::_::_::_::_::_::_::_::_::_::_::_::_::_::_::_::_::_::_::_::_::_::_::_::_::_::_::_::_::_::_::_::_::_::_::_::_::_::_::_::_::_::_::_::_::_::[]),defers:=[] } _
            refine dr_take 3 (.int .i64 (KK:Int)) rfl rfl (by kernel_rfl) (by kernel_rfl) (by kernel_rfl) (fun _ _ _ h=>h) (fun _ _=>by unfold execOp;go_simp) trivial ?_
            change wpAnyH _ _ _ _ _ _ _ { tmps:=List.toArray (_::_::_::_::_::_::_::_::_::_::_::_::_::_::_::_::_::_::_::_::_::_::_::_::_::_::_::_::_::_::_::_::_::_::_::_::_::_::_::_::_::_::_::_::_::_::_::_::_::_::_::_::_::_::_::_::_::_::_::_::_::_::_::_::_::_::_::_::_::_::_::_::_::_::_::_::_::_::_::_::_::_::_::_::_::_::_::_::_::_::_::_::_::_::_::_::_::_::_::_::_::_::_::_::_::_::_::_::_::_::_::_::_::_::_::_::_::_::_::_::_::_::_::_::_::_::_::_::_::_::_::_::_::_::_::_::_::_::_::_::_::_::_::_::_::_::_::_::_::_::_::_::_::_::_::_::_::_::_::_::_::_::_::_::_::_::_::_::_::_::_::_::_::_::_::_::_::_::_::_::_::_::[]),defers:=[] } _
            refine dr_take 4 (.int .i64 (N:Int)) rfl rfl (by kernel_rfl) (by kernel_rfl) (by kernel_rfl) (fun _ _ _ h=>h) (fun _ _=>by unfold execOp;go_simp) trivial ?_
            change wpAnyH _ _ _ _ _ _ _ { tmps:=List.toArray (_::_::_::_::_::_::_::_::_::_::_::_::_::_::_::_::_::_::_::_::_::_::_::_::_::_::_::_::_::_::_::_::_::_::_::_::_::_::_::_::_::_::_::_::_::_::_::_::_::_::_::_::_::_::_::_::_::_::_::_::_::_::_::_::_::_::_::_::_::_::_::_::_::_::_::_::_::_::_::_::_::_::_::_::_::_::_::_::_::_::_::_::_::_::_::_::_::_::_::_::_::_::_::_::_::_::_::_::_::_::_::_::_::_::_::_::_::_::_::_::_::_::_::_::_::_::_::_::_::_::_::_::_::_::_::_::_::_::_::_::_::_::_::_::_::_::_::_::_::_::_::_::_::_::_::_::_::_::_::_::_::_::_::_::_::_::_::_::_::_::_::_::_::_::_::_::_::_::_::_::_::_::[]),defers:=[] } _
            refine dr_two 1 5 rfl rfl rfl rfl (by kernel_rfl) ?_ ?_
            · refine wp_ldQ rfl rfl (row_cellsO HC6.out.cx 1 _ rfl) ⟨trivial, ?_⟩
              change wpAnyH _ _ _ _ _ _ _ { tmps:=List.toArray (_::_::_::_::_::_::_::_::_::_::_::_::_::_::_::_::_::_::_::_::_::_::_::_::_::_::_::_::_::_::_::_::_::_::_::_::_::_::_::_::_::_::_::_::_::_::_::_::_::_::_::_::_::_::_::_::_::_::_::_::_::_::_::_::_::_::_::_::_::_::_::_::_::_::_::_::_::_::_::_::_::_::_::_::_::_::_::_::_::_::_::_::_::_::_::_::_::_::_::_::_::_::_::_::_::_::_::_::_::_::_::_::_::_::_::_::_::_::_::_::_::_::_::_::_::_::_::_::_::_::_::_::_::_::_::_::_::_::_::_::_::_::_::_::_::_::_::_::_::_::_::_::_::_::_::_::_::_::_::_::_::_::_::_::_::_::_::_::_::_::_::_::_::_::_::_::_::_::_::_::_::_::[]),defers:=[] } _
              refine dr_one 5 rfl rfl (by kernel_rfl) ?_
              refine wp_callT (vs:=#[.pointer (some ⟨p,0,none⟩),.int .i64 (KK:Int),.int .i64 (N:Int)]) rfl rfl (enters_of Tryz.func34 (by kernel_rfl) rfl) (by simp [Act.eval]) (HIN.out _ _ _ _ HC6.out.rds.st HKN.out.1 HKN.out.2) ?_
              rintro e w9 ⟨i,t5,h1,rfl,hq⟩
              have HX1:=Lib.hid h1
              have HC7:=Lib.hid (HC6.out.call hq)
              have HR7:=Lib.hid (row_rds HR6.out (by have:=HC6.out.wg;have:=HC6.out.pw;omega) hq)
              clear h1 hq
              refine ⟨trivial,?_⟩
              change wpAnyH _ _ _ _ _ _ _ { tmps:=List.toArray (_::_::_::_::_::_::_::_::_::_::_::_::_::_::_::_::_::_::_::_::_::_::_::_::_::_::_::_::_::_::_::_::_::_::_::_::_::_::_::_::_::_::_::_::_::_::_::_::_::_::_::_::_::_::_::_::_::_::_::_::_::_::_::_::_::_::_::_::_::_::_::_::_::_::_::_::_::_::_::_::_::_::_::_::_::_::_::_::_::_::_::_::_::_::_::_::_::_::_::_::_::_::_::_::_::_::_::_::_::_::_::_::_::_::_::_::_::_::_::_::_::_::_::_::_::_::_::_::_::_::_::_::_::_::_::_::_::_::_::_::_::_::_::_::_::_::_::_::_::_::_::_::_::_::_::_::_::_::_::_::_::_::_::_::_::_::_::_::_::_::_::_::_::_::_::_::_::_::_::_::_::_::[]),defers:=[] } _
              refine dr_one 6 rfl rfl (by kernel_rfl) ?_
              refine wv_val (run_bsI rfl rfl) ?_
              have al:=(Below.refl _ w9).alloc (Nat.le_refl _) (.cells (insC i).toArray 75)
              have HC8:=Lib.hid (HC7.out.below al)
              have HR8:=Lib.hid (row_below HR7.out al)
              have HNW:Hid (∀ j u,(insC i)[j]? = some u→(w9.alloc (.cells (insC i).toArray 75)).cell? ((⟨w9.heap.size,0,none⟩:Addr).add j)=some u):=fun j u hj=>by
               rw [addr_add,Nat.zero_add]
               exact row_cellsO (Own.new w9 75 (insC i).toArray) j u (by simpa using hj)
              clear al
              refine ⟨trivial,?_⟩
              change wpAnyH _ _ _ _ _ _ _ { tmps:=List.toArray (_::_::_::_::_::_::_::_::_::_::_::_::_::_::_::_::_::_::_::_::_::_::_::_::_::_::_::_::_::_::_::_::_::_::_::_::_::_::_::_::_::_::_::_::_::_::_::_::_::_::_::_::_::_::_::_::_::_::_::_::_::_::_::_::_::_::_::_::_::_::_::_::_::_::_::_::_::_::_::_::_::_::_::_::_::_::_::_::_::_::_::_::_::_::_::_::_::_::_::_::_::_::_::_::_::_::_::_::_::_::_::_::_::_::_::_::_::_::_::_::_::_::_::_::_::_::_::_::_::_::_::_::_::_::_::_::_::_::_::_::_::_::_::_::_::_::_::_::_::_::_::_::_::_::_::_::_::_::_::_::_::_::_::_::_::_::_::_::_::_::_::_::_::_::_::_::_::_::_::_::_::_::[]),defers:=[] } _
              refine dr_one 7 rfl rfl (by kernel_rfl) ?_
              refine wp_append_own (w9.alloc (.cells (insC i).toArray 75)) _ _ 68 rfl (g+1) 75 i1 _ 9 64 Tryz.underlying68 hi1 hy0 hy1 hy2 rfl (by decide) (.slice ay ys.length cy) ys.length (flatI ys) rfl HR8.out ⟨w9.heap.size,0,none⟩ 1 1 (insC i) rfl rfl HNW.out (insC_one i) (by have:=HLEN.out;simp only [maxLen];omega) (by have:=HLEN.out;omega) (by rw [World.size_alloc];have:=HC7.out.cx.lt;omega) ?_
              intro v5 W5 hr hg _
              obtain ⟨a6,c6,rfl⟩:=row_slice hr
              have HC9:=Lib.hid (HC8.out.grown hg (fun k hk=>by have:=(HR8.out.lt k hk).1;omega))
              have HR9:=Lib.hid hr
              clear hr hg
              have d0:W5.cell? ⟨g,1,none⟩=some (.slice ay ys.length cy):=row_cellsO HC9.out.cx 1 _ rfl
              have f0:W5.frozen? ⟨g,1,none⟩=false:=own_frozen HC9.out.cx 1
              have HCA:Hid (Cn wo p g l (some ⟨g0,q0,none⟩) c t5 #[.string nm,.slice a6 (ys.length+1) c6] (W5.setCell ⟨g,1,none⟩ (.slice a6 (ys.length+1) c6))):=HC9.out.put 1 _
              have HRA:=Lib.hid (row_setbelow HR9.out (Nat.lt_succ_self g) 1 (.slice a6 (ys.length+1) c6))
              refine ⟨trivial,?_⟩
              change wpAnyH _ _ _ _ _ _ _ { tmps:=List.toArray (_::_::_::_::_::_::_::_::_::_::_::_::_::_::_::_::_::_::_::_::_::_::_::_::_::_::_::_::_::_::_::_::_::_::_::_::_::_::_::_::_::_::_::_::_::_::_::_::_::_::_::_::_::_::_::_::_::_::_::_::_::_::_::_::_::_::_::_::_::_::_::_::_::_::_::_::_::_::_::_::_::_::_::_::_::_::_::_::_::_::_::_::_::_::_::_::_::_::_::_::_::_::_::_::_::_::_::_::_::_::_::_::_::_::_::_::_::_::_::_::_::_::_::_::_::_::_::_::_::_::_::_::_::_::_::_::_::_::_::_::_::_::_::_::_::_::_::_::_::_::_::_::_::_::_::_::_::_::_::_::_::_::_::_::_::_::_::_::_::_::_::_::_::_::_::_::_::_::_::_::_::_::[]),defers:=[] } _
              refine dr_one 8 rfl rfl (by kernel_rfl) ?_
              refine wv_val (w':=W5) (v:=.pointer (some ⟨g,1,none⟩)) (by unfold execOp;go_simp) ⟨trivial,?_⟩
              change wpAnyH _ _ _ _ _ _ _ { tmps:=List.toArray (_::_::_::_::_::_::_::_::_::_::_::_::_::_::_::_::_::_::_::_::_::_::_::_::_::_::_::_::_::_::_::_::_::_::_::_::_::_::_::_::_::_::_::_::_::_::_::_::_::_::_::_::_::_::_::_::_::_::_::_::_::_::_::_::_::_::_::_::_::_::_::_::_::_::_::_::_::_::_::_::_::_::_::_::_::_::_::_::_::_::_::_::_::_::_::_::_::_::_::_::_::_::_::_::_::_::_::_::_::_::_::_::_::_::_::_::_::_::_::_::_::_::_::_::_::_::_::_::_::_::_::_::_::_::_::_::_::_::_::_::_::_::_::_::_::_::_::_::_::_::_::_::_::_::_::_::_::_::_::_::_::_::_::_::_::_::_::_::_::_::_::_::_::_::_::_::_::_::_::_::_::_::[]),defers:=[] } _
              refine dr_one 9 rfl rfl (by kernel_rfl) ?_
              refine wp_stQ rfl rfl rfl d0 f0 ⟨trivial,?_⟩
              refine wpAnyH_done (by kernel_rfl) ?_ _
              have HE2:Hid (repR (insD KK N) KK t3=((ys++[i])++(repR (insD KK N) (KK-(ys++[i]).length) t5).1,(repR (insD KK N) (KK-(ys++[i]).length) t5).2)):=by
               have e1:KK-ys.length=(KK-ys.length-1)+1:=by omega
               have e2:KK-(ys++[i]).length=KK-ys.length-1:=by simp only [List.length_append,List.length_cons,List.length_nil];omega
               have hst:=rep_step (insD KK N) (KK-ys.length-1) (l.drop mk,false) rfl
               rw [HX1.out] at hst
               rw [Hid,HE3.out,e2,e1,hst]
               simp
              clear d0 f0 HC9 HR9 HC8 HR8 HC7 HR7 HNW HC6 HR6 HE3
              have hln:=HLEN.out
              go_wp2_with fail
              go_roundg (KK-(ys.length+1)+1)
              case measure=>have:=HM3.out;omega
              case rel=>exact ⟨ys++[i],t5,a6,c6,by simp,by simp only [List.length_append,List.length_cons,List.length_nil];omega,by simp only [List.length_append,List.length_cons,List.length_nil],HE2.out,by simpa using HCA.out,by
               have h5:=HRA.out
               rw [flatI_app]
               simpa [flatI] using h5⟩
            · refine wp_callT (vs := #[.pointer (some ⟨p, 0, none⟩), .int .i64 (KK : Int), .int .i64 (N : Int)]) rfl rfl (enters_of Tryz.func34 (by kernel_rfl) rfl) (by simp [Act.eval]) (HIN.out _ _ _ _ HC6.out.rds.st HKN.out.1 HKN.out.2) ?_
              rintro e w9 ⟨i,t5,h1,rfl,hq⟩
              have HX1:=Lib.hid h1
              have HC7:=Lib.hid (HC6.out.call hq)
              have HR7:=Lib.hid (row_rds HR6.out (by have:=HC6.out.wg;have:=HC6.out.pw;omega) hq)
              clear h1 hq
              refine ⟨trivial,?_⟩
              change wpAnyH _ _ _ _ _ _ _ { tmps:=List.toArray (_::_::_::_::_::_::_::_::_::_::_::_::_::_::_::_::_::_::_::_::_::_::_::_::_::_::_::_::_::_::_::_::_::_::_::_::_::_::_::_::_::_::_::_::_::_::_::_::_::_::_::_::_::_::_::_::_::_::_::_::_::_::_::_::_::_::_::_::_::_::_::_::_::_::_::_::_::_::_::_::_::_::_::_::_::_::_::_::_::_::_::_::_::_::_::_::_::_::_::_::_::_::_::_::_::_::_::_::_::_::_::_::_::_::_::_::_::_::_::_::_::_::_::_::_::_::_::_::_::_::_::_::_::_::_::_::_::_::_::_::_::_::_::_::_::_::_::_::_::_::_::_::_::_::_::_::_::_::_::_::_::_::_::_::_::_::_::_::_::_::_::_::_::_::_::_::_::_::_::_::_::_::[]),defers:=[] } _
              refine dr_two 1 6 rfl rfl rfl rfl (by kernel_rfl) ?_ ?_
              · refine wp_ldQ rfl rfl (row_cellsO HC7.out.cx 1 _ rfl) ⟨trivial, ?_⟩
                change wpAnyH _ _ _ _ _ _ _ { tmps:=List.toArray (_::_::_::_::_::_::_::_::_::_::_::_::_::_::_::_::_::_::_::_::_::_::_::_::_::_::_::_::_::_::_::_::_::_::_::_::_::_::_::_::_::_::_::_::_::_::_::_::_::_::_::_::_::_::_::_::_::_::_::_::_::_::_::_::_::_::_::_::_::_::_::_::_::_::_::_::_::_::_::_::_::_::_::_::_::_::_::_::_::_::_::_::_::_::_::_::_::_::_::_::_::_::_::_::_::_::_::_::_::_::_::_::_::_::_::_::_::_::_::_::_::_::_::_::_::_::_::_::_::_::_::_::_::_::_::_::_::_::_::_::_::_::_::_::_::_::_::_::_::_::_::_::_::_::_::_::_::_::_::_::_::_::_::_::_::_::_::_::_::_::_::_::_::_::_::_::_::_::_::_::_::_::[]),defers:=[] } _
                refine dr_one 6 rfl rfl (by kernel_rfl) ?_
                refine wv_val (run_bsI rfl rfl) ?_
                have al:=(Below.refl _ w9).alloc (Nat.le_refl _) (.cells (insC i).toArray 75)
                have HC8:=Lib.hid (HC7.out.below al)
                have HR8:=Lib.hid (row_below HR7.out al)
                have HNW:Hid (∀ j u,(insC i)[j]? = some u→(w9.alloc (.cells (insC i).toArray 75)).cell? ((⟨w9.heap.size,0,none⟩:Addr).add j)=some u):=fun j u hj=>by
                 rw [addr_add,Nat.zero_add]
                 exact row_cellsO (Own.new w9 75 (insC i).toArray) j u (by simpa using hj)
                clear al
                refine ⟨trivial,?_⟩
                change wpAnyH _ _ _ _ _ _ _ { tmps:=List.toArray (_::_::_::_::_::_::_::_::_::_::_::_::_::_::_::_::_::_::_::_::_::_::_::_::_::_::_::_::_::_::_::_::_::_::_::_::_::_::_::_::_::_::_::_::_::_::_::_::_::_::_::_::_::_::_::_::_::_::_::_::_::_::_::_::_::_::_::_::_::_::_::_::_::_::_::_::_::_::_::_::_::_::_::_::_::_::_::_::_::_::_::_::_::_::_::_::_::_::_::_::_::_::_::_::_::_::_::_::_::_::_::_::_::_::_::_::_::_::_::_::_::_::_::_::_::_::_::_::_::_::_::_::_::_::_::_::_::_::_::_::_::_::_::_::_::_::_::_::_::_::_::_::_::_::_::_::_::_::_::_::_::_::_::_::_::_::_::_::_::_::_::_::_::_::_::_::_::_::_::_::_::_::[]),defers:=[] } _
                refine dr_one 7 rfl rfl (by kernel_rfl) ?_
                refine wp_append_own (w9.alloc (.cells (insC i).toArray 75)) _ _ 68 rfl (g+1) 75 i1 _ 9 64 Tryz.underlying68 hi1 hy0 hy1 hy2 rfl (by decide) (.slice ay ys.length cy) ys.length (flatI ys) rfl HR8.out ⟨w9.heap.size,0,none⟩ 1 1 (insC i) rfl rfl HNW.out (insC_one i) (by have:=HLEN.out;simp only [maxLen];omega) (by have:=HLEN.out;omega) (by rw [World.size_alloc];have:=HC7.out.cx.lt;omega) ?_
                intro v5 W5 hr hg _
                obtain ⟨a6,c6,rfl⟩:=row_slice hr
                have HC9:=Lib.hid (HC8.out.grown hg (fun k hk=>by have:=(HR8.out.lt k hk).1;omega))
                have HR9:=Lib.hid hr
                clear hr hg
                have d0:W5.cell? ⟨g,1,none⟩=some (.slice ay ys.length cy):=row_cellsO HC9.out.cx 1 _ rfl
                have f0:W5.frozen? ⟨g,1,none⟩=false:=own_frozen HC9.out.cx 1
                have HCA:Hid (Cn wo p g l (some ⟨g0,q0,none⟩) c t5 #[.string nm,.slice a6 (ys.length+1) c6] (W5.setCell ⟨g,1,none⟩ (.slice a6 (ys.length+1) c6))):=HC9.out.put 1 _
                have HRA:=Lib.hid (row_setbelow HR9.out (Nat.lt_succ_self g) 1 (.slice a6 (ys.length+1) c6))
                refine ⟨trivial,?_⟩
                change wpAnyH _ _ _ _ _ _ _ { tmps:=List.toArray (_::_::_::_::_::_::_::_::_::_::_::_::_::_::_::_::_::_::_::_::_::_::_::_::_::_::_::_::_::_::_::_::_::_::_::_::_::_::_::_::_::_::_::_::_::_::_::_::_::_::_::_::_::_::_::_::_::_::_::_::_::_::_::_::_::_::_::_::_::_::_::_::_::_::_::_::_::_::_::_::_::_::_::_::_::_::_::_::_::_::_::_::_::_::_::_::_::_::_::_::_::_::_::_::_::_::_::_::_::_::_::_::_::_::_::_::_::_::_::_::_::_::_::_::_::_::_::_::_::_::_::_::_::_::_::_::_::_::_::_::_::_::_::_::_::_::_::_::_::_::_::_::_::_::_::_::_::_::_::_::_::_::_::_::_::_::_::_::_::_::_::_::_::_::_::_::_::_::_::_::_::_::[]),defers:=[] } _
                refine dr_one 8 rfl rfl (by kernel_rfl) ?_
                refine wv_val (w':=W5) (v:=.pointer (some ⟨g,1,none⟩)) (by unfold execOp;go_simp) ⟨trivial,?_⟩
                change wpAnyH _ _ _ _ _ _ _ { tmps:=List.toArray (_::_::_::_::_::_::_::_::_::_::_::_::_::_::_::_::_::_::_::_::_::_::_::_::_::_::_::_::_::_::_::_::_::_::_::_::_::_::_::_::_::_::_::_::_::_::_::_::_::_::_::_::_::_::_::_::_::_::_::_::_::_::_::_::_::_::_::_::_::_::_::_::_::_::_::_::_::_::_::_::_::_::_::_::_::_::_::_::_::_::_::_::_::_::_::_::_::_::_::_::_::_::_::_::_::_::_::_::_::_::_::_::_::_::_::_::_::_::_::_::_::_::_::_::_::_::_::_::_::_::_::_::_::_::_::_::_::_::_::_::_::_::_::_::_::_::_::_::_::_::_::_::_::_::_::_::_::_::_::_::_::_::_::_::_::_::_::_::_::_::_::_::_::_::_::_::_::_::_::_::_::_::[]),defers:=[] } _
                refine dr_one 9 rfl rfl (by kernel_rfl) ?_
                refine wp_stQ rfl rfl rfl d0 f0 ⟨trivial,?_⟩
                refine wpAnyH_done (by kernel_rfl) ?_ _
                have HE2:Hid (repR (insD KK N) KK t3=((ys++[i])++(repR (insD KK N) (KK-(ys++[i]).length) t5).1,(repR (insD KK N) (KK-(ys++[i]).length) t5).2)):=by
                 have e1:KK-ys.length=(KK-ys.length-1)+1:=by omega
                 have e2:KK-(ys++[i]).length=KK-ys.length-1:=by simp only [List.length_append,List.length_cons,List.length_nil];omega
                 have hst:=rep_step (insD KK N) (KK-ys.length-1) (l.drop mk,false) rfl
                 rw [HX1.out] at hst
                 rw [Hid,HE3.out,e2,e1,hst]
                 simp
                clear d0 f0 HC9 HR9 HC8 HR8 HC7 HR7 HNW HC6 HR6 HE3
                have hln:=HLEN.out
                go_wp2_with fail
                go_roundg (KK-(ys.length+1)+1)
                case measure=>have:=HM3.out;omega
                case rel=>exact ⟨ys++[i],t5,a6,c6,by simp,by simp only [List.length_append,List.length_cons,List.length_nil];omega,by simp only [List.length_append,List.length_cons,List.length_nil],HE2.out,by simpa using HCA.out,by
                 have h5:=HRA.out
                 rw [flatI_app]
                 simpa [flatI] using h5⟩
              · refine wv_val (run_bsI rfl rfl) ?_
                have al:=(Below.refl _ w9).alloc (Nat.le_refl _) (.cells (insC i).toArray 75)
                have HC8:=Lib.hid (HC7.out.below al)
                have HR8:=Lib.hid (row_below HR7.out al)
                have HNW:Hid (∀ j u,(insC i)[j]? = some u→(w9.alloc (.cells (insC i).toArray 75)).cell? ((⟨w9.heap.size,0,none⟩:Addr).add j)=some u):=fun j u hj=>by
                 rw [addr_add,Nat.zero_add]
                 exact row_cellsO (Own.new w9 75 (insC i).toArray) j u (by simpa using hj)
                clear al
                refine ⟨trivial,?_⟩
                change wpAnyH _ _ _ _ _ _ _ { tmps:=List.toArray (_::_::_::_::_::_::_::_::_::_::_::_::_::_::_::_::_::_::_::_::_::_::_::_::_::_::_::_::_::_::_::_::_::_::_::_::_::_::_::_::_::_::_::_::_::_::_::_::_::_::_::_::_::_::_::_::_::_::_::_::_::_::_::_::_::_::_::_::_::_::_::_::_::_::_::_::_::_::_::_::_::_::_::_::_::_::_::_::_::_::_::_::_::_::_::_::_::_::_::_::_::_::_::_::_::_::_::_::_::_::_::_::_::_::_::_::_::_::_::_::_::_::_::_::_::_::_::_::_::_::_::_::_::_::_::_::_::_::_::_::_::_::_::_::_::_::_::_::_::_::_::_::_::_::_::_::_::_::_::_::_::_::_::_::_::_::_::_::_::_::_::_::_::_::_::_::_::_::_::_::_::_::[]),defers:=[] } _
                refine dr_one 1 rfl rfl (by kernel_rfl) ?_
                refine wp_ldQ rfl rfl (row_cellsO HC8.out.cx 1 _ rfl) ⟨trivial,?_⟩
                change wpAnyH _ _ _ _ _ _ _ { tmps:=List.toArray (_::_::_::_::_::_::_::_::_::_::_::_::_::_::_::_::_::_::_::_::_::_::_::_::_::_::_::_::_::_::_::_::_::_::_::_::_::_::_::_::_::_::_::_::_::_::_::_::_::_::_::_::_::_::_::_::_::_::_::_::_::_::_::_::_::_::_::_::_::_::_::_::_::_::_::_::_::_::_::_::_::_::_::_::_::_::_::_::_::_::_::_::_::_::_::_::_::_::_::_::_::_::_::_::_::_::_::_::_::_::_::_::_::_::_::_::_::_::_::_::_::_::_::_::_::_::_::_::_::_::_::_::_::_::_::_::_::_::_::_::_::_::_::_::_::_::_::_::_::_::_::_::_::_::_::_::_::_::_::_::_::_::_::_::_::_::_::_::_::_::_::_::_::_::_::_::_::_::_::_::_::_::[]),defers:=[] } _
                refine dr_one 7 rfl rfl (by kernel_rfl) ?_
                refine wp_append_own (w9.alloc (.cells (insC i).toArray 75)) _ _ 68 rfl (g+1) 75 i1 _ 9 64 Tryz.underlying68 hi1 hy0 hy1 hy2 rfl (by decide) (.slice ay ys.length cy) ys.length (flatI ys) rfl HR8.out ⟨w9.heap.size,0,none⟩ 1 1 (insC i) rfl rfl HNW.out (insC_one i) (by have:=HLEN.out;simp only [maxLen];omega) (by have:=HLEN.out;omega) (by rw [World.size_alloc];have:=HC7.out.cx.lt;omega) ?_
                intro v5 W5 hr hg _
                obtain ⟨a6,c6,rfl⟩:=row_slice hr
                have HC9:=Lib.hid (HC8.out.grown hg (fun k hk=>by have:=(HR8.out.lt k hk).1;omega))
                have HR9:=Lib.hid hr
                clear hr hg
                have d0:W5.cell? ⟨g,1,none⟩=some (.slice ay ys.length cy):=row_cellsO HC9.out.cx 1 _ rfl
                have f0:W5.frozen? ⟨g,1,none⟩=false:=own_frozen HC9.out.cx 1
                have HCA:Hid (Cn wo p g l (some ⟨g0,q0,none⟩) c t5 #[.string nm,.slice a6 (ys.length+1) c6] (W5.setCell ⟨g,1,none⟩ (.slice a6 (ys.length+1) c6))):=HC9.out.put 1 _
                have HRA:=Lib.hid (row_setbelow HR9.out (Nat.lt_succ_self g) 1 (.slice a6 (ys.length+1) c6))
                refine ⟨trivial,?_⟩
                change wpAnyH _ _ _ _ _ _ _ { tmps:=List.toArray (_::_::_::_::_::_::_::_::_::_::_::_::_::_::_::_::_::_::_::_::_::_::_::_::_::_::_::_::_::_::_::_::_::_::_::_::_::_::_::_::_::_::_::_::_::_::_::_::_::_::_::_::_::_::_::_::_::_::_::_::_::_::_::_::_::_::_::_::_::_::_::_::_::_::_::_::_::_::_::_::_::_::_::_::_::_::_::_::_::_::_::_::_::_::_::_::_::_::_::_::_::_::_::_::_::_::_::_::_::_::_::_::_::_::_::_::_::_::_::_::_::_::_::_::_::_::_::_::_::_::_::_::_::_::_::_::_::_::_::_::_::_::_::_::_::_::_::_::_::_::_::_::_::_::_::_::_::_::_::_::_::_::_::_::_::_::_::_::_::_::_::_::_::_::_::_::_::_::_::_::_::_::[]),defers:=[] } _
                refine dr_one 8 rfl rfl (by kernel_rfl) ?_
                refine wv_val (w':=W5) (v:=.pointer (some ⟨g,1,none⟩)) (by unfold execOp;go_simp) ⟨trivial,?_⟩
                change wpAnyH _ _ _ _ _ _ _ { tmps:=List.toArray (_::_::_::_::_::_::_::_::_::_::_::_::_::_::_::_::_::_::_::_::_::_::_::_::_::_::_::_::_::_::_::_::_::_::_::_::_::_::_::_::_::_::_::_::_::_::_::_::_::_::_::_::_::_::_::_::_::_::_::_::_::_::_::_::_::_::_::_::_::_::_::_::_::_::_::_::_::_::_::_::_::_::_::_::_::_::_::_::_::_::_::_::_::_::_::_::_::_::_::_::_::_::_::_::_::_::_::_::_::_::_::_::_::_::_::_::_::_::_::_::_::_::_::_::_::_::_::_::_::_::_::_::_::_::_::_::_::_::_::_::_::_::_::_::_::_::_::_::_::_::_::_::_::_::_::_::_::_::_::_::_::_::_::_::_::_::_::_::_::_::_::_::_::_::_::_::_::_::_::_::_::_::[]),defers:=[] } _
                refine dr_one 9 rfl rfl (by kernel_rfl) ?_
                refine wp_stQ rfl rfl rfl d0 f0 ⟨trivial,?_⟩
                refine wpAnyH_done (by kernel_rfl) ?_ _
                have HE2:Hid (repR (insD KK N) KK t3=((ys++[i])++(repR (insD KK N) (KK-(ys++[i]).length) t5).1,(repR (insD KK N) (KK-(ys++[i]).length) t5).2)):=by
                 have e1:KK-ys.length=(KK-ys.length-1)+1:=by omega
                 have e2:KK-(ys++[i]).length=KK-ys.length-1:=by simp only [List.length_append,List.length_cons,List.length_nil];omega
                 have hst:=rep_step (insD KK N) (KK-ys.length-1) (l.drop mk,false) rfl
                 rw [HX1.out] at hst
                 rw [Hid,HE3.out,e2,e1,hst]
                 simp
                clear d0 f0 HC9 HR9 HC8 HR8 HC7 HR7 HNW HC6 HR6 HE3
                have hln:=HLEN.out
                go_wp2_with fail
                go_roundg (KK-(ys.length+1)+1)
                case measure=>have:=HM3.out;omega
                case rel=>exact ⟨ys++[i],t5,a6,c6,by simp,by simp only [List.length_append,List.length_cons,List.length_nil];omega,by simp only [List.length_append,List.length_cons,List.length_nil],HE2.out,by simpa using HCA.out,by
                 have h5:=HRA.out
                 rw [flatI_app]
                 simpa [flatI] using h5⟩
       case rest =>
        clear HC5
        obtain ⟨cd,t4,a2,c2,hcd,hc,hr⟩:=hcut
        have HCO:Hid (corD N (l.drop mj,false)=(⟨nm,cd⟩,t4)):=by
         rw [Hid,HNM.out]
         unfold corD
         simp only [H7.out]
         rw [if_neg (by rw [List.length_drop];omega)]
         simp only [Int.toNat_natCast,List.drop_drop,H8.out,hcd]
        have HCK:Hid (CokD ⟨nm,cd⟩):=by
         have h9:=rep_all (P:=rgI) (fun s=>insD_rg KK N (by have:=HKN.out;omega) (by have:=HKN.out;omega) s) KK t3
         rw [hcd] at h9
         refine ⟨?_,by simp only;have:=h9.2;have:=HKM.out;simp only at *;omega,h9.1⟩
         simp only
         rw [HNM.out]
         simp only [ByteArray.size,List.size_toArray,List.length_take]
         have:=HB7.out
         omega
        have HRC:=Lib.hid (row_mono hr (by have:=HQG.out;omega:q+1≤g+1))
        have HDX:=Lib.hid (HD.out.call hc.rds)
        have HVX:=Lib.hid (HV.out.rds (by have:=HQG.out;omega) hc.rds)
        have O7:=hc.cx
        have HE2:Hid (∀ vc:Value,repR (corD N) M s6=((xs++[((⟨nm,cd⟩:Cor),vc)]).map Prod.fst++(repR (corD N) (M-(xs++[((⟨nm,cd⟩:Cor),vc)]).length) t4).1,(repR (corD N) (M-(xs++[((⟨nm,cd⟩:Cor),vc)]).length) t4).2)):=by
         intro vc
         have e1:M-xs.length=(M-xs.length-1)+1:=by omega
         have e2:M-(xs++[((⟨nm,cd⟩:Cor),vc)]).length=M-xs.length-1:=by simp only [List.length_append,List.length_cons,List.length_nil];omega
         have hst:=rep_step (corD N) (M-xs.length-1) (l.drop mj,false) rfl
         rw [HCO.out] at hst
         rw [HE.out,e2,e1,hst]
         simp
        have d4:wc.cell? ⟨q,4,none⟩=some (.slice az xs.length cz):=row_cellsO HDX.out.ox 4 _ rfl
        have HOW:=Lib.hid (HVX.out.cors.alloc (.cells #[.string nm,.slice a2 cd.length c2] 70))
        have HNW:Hid (∀ j u,([.string nm,.slice a2 cd.length c2]:List Value)[j]? = some u→(wc.alloc (.cells #[.string nm,.slice a2 cd.length c2] 70)).cell? ((⟨wc.heap.size,0,none⟩:Addr).add j)=some u):=fun j u hj=>by
         rw [addr_add,Nat.zero_add]
         exact row_cellsO (Own.new wc 70 #[.string nm,.slice a2 cd.length c2]) j u (by simpa using hj)
        have hlen:xs.length≤8:=by have:=HB6.out;omega
        have hbs:q+1≤(wc.alloc (.cells #[.string nm,.slice a2 cd.length c2] 70)).heap.size:=by rw [World.size_alloc];have:=HDX.out.ox.lt;omega
        clear hcd hc hr H7 H8 HB7 HB8 HE HD HV HC HWD HIN HNM
        go_wp2_with (first | fail | (at_builtin;refine wpList_append_own _ rfl _ _ 23 rfl (q+1) 70 i2 _ 2 40 Tryz.underlying23 hi2 hx0 hx1 hx2 rfl (by decide) (.slice az xs.length cz) xs.length (flatC xs) rfl ?_ ⟨wc.heap.size,0,none⟩ 1 1 [.string nm,.slice a2 cd.length c2] rfl rfl ?_ (by simp [Value.oneCell']) (by simp only [maxLen];omega) (by omega) hbs ?_;(· exact HOW.out);(· exact HNW.out);intro v4 w4x hr4 hg4 _;obtain ⟨a6,c6,rfl⟩:=row_slice hr4;have HR4:=Lib.hid hr4;have HG4:=Lib.hid hg4;have HDY:=Lib.hid ((HDX.out.below ((Below.refl _ wc).alloc (Nat.le_refl _) _)).grown hg4 (fun k hk=>by have:=(HOW.out.lt k hk).1;omega));have e4:w4x.cell? ⟨q,4,none⟩=some (.slice az xs.length cz):=row_cellsO HDY.out.ox 4 _ rfl;have g4:w4x.frozen? ⟨q,4,none⟩=false:=own_frozen HDY.out.ox 4;clear hr4 hg4) | (refine ld rowC rfl rfl rfl O7 rfl ?_))
        have HDZ:Hid (Ds w p q l (some ⟨g0,q0,none⟩) c t4 #[.slice a1 mem.length c1,.int .i64 sh,.int .i64 lk,.int .i64 bf,.slice a6 (xs.length+1) c6] (w4x.setCell ⟨q,4,none⟩ (.slice a6 (xs.length+1) c6))):=HDY.out.put 4 _
        have HVZ:Hid (DcV (q+1) ⟨mem,sh,lk,bf,(xs++[((⟨nm,cd⟩:Cor),(Value.slice a2 cd.length c2))]).map Prod.fst⟩ (.slice a1 mem.length c1) (.slice a6 (xs.length+1) c6) (xs++[(⟨nm,cd⟩,.slice a2 cd.length c2)]) (w4x.setCell ⟨q,4,none⟩ (.slice a6 (xs.length+1) c6))):=by
         have hal:∀ {T:TypeId} {n:Nat} {v:Value} {m:Nat} {us:List Value},(T==70)=false→wc.ownsRow (q+1) T n v m us→(w4x.setCell ⟨q,4,none⟩ (.slice a6 (xs.length+1) c6)).ownsRow (q+1) T n v m us:=fun {T n v m us} ht h=>by
          have h6:=h.alloc (.cells #[.string nm,.slice a2 cd.length c2] 70)
          have h7:w4x.ownsRow (q+1) T n v m us:=row_stays h6 fun b _ hb hl=>HG4.out.block b hl (fun e=>row_apart2 HOW.out h6 (by simpa [BEq.comm] using ht) b hb e.symm)
          exact row_setbelow h7 (Nat.lt_succ_self q) 4 _
         refine ⟨hal rfl HVX.out.mem,by simp,?_,fun y hy=>?_⟩
         · have h8 := row_setbelow HR4.out (Nat.lt_succ_self q) 4 (.slice a6 (xs.length + 1) c6)
           rw [flatC_app]
           simpa [flatC] using h8
         · rcases List.mem_append.1 hy with hy | hy
           · exact hal rfl (HVX.out.codes y hy)
           · obtain rfl := List.mem_singleton.1 hy
             exact hal rfl HRC.out
        clear HDY HOW HNW hlen hbs O7 d4 e4 g4 HG4 HR4 HDX HVX
        go_wp2_with fail
        go_roundg (M-(xs.length+1)+1)
        case measure=>have:=HM.out;omega
        case rel=>exact ⟨xs++[(⟨nm,cd⟩,.slice a2 cd.length c2)],t4,a6,c6,by simp,by simp only [List.length_append,List.length_cons,List.length_nil];omega,by simp only [List.length_append,List.length_cons,List.length_nil],HE2.out _,by simpa using HDZ.out,by simpa using HVZ.out,fun y hy=>by
         rcases List.mem_append.1 hy with hy | hy
         · exact HOK.out y hy
         · obtain rfl := List.mem_singleton.1 hy
           exact HCK.out⟩
  case rest =>
   clear HD3 HR3
   obtain ⟨xs,t,a5,c5,hd,hv,hl,hok,hor⟩:=hcut
   obtain ⟨mt,dt,rfl,hmt,_,p1,p2,_,_⟩:=hd.at
   have HOB:Hid ((obD (l.drop 4,false)=(⟨mem,sh,lk,bf,xs.map Prod.fst⟩,(l.drop mt,dt)))∨(dt=true∧(obD (l.drop 4,false)).2.2=true)):=by
    have h9:=obD_of H1.out H2.out H3.out H4.out (by rw [Int.toNat_natCast];exact HME.out) H6.out
    rw [Int.toNat_natCast] at h9
    rcases hor with h | ⟨h,h'⟩
    · left;rw [h9,h]
    · right;exact ⟨h,by rw [h9];exact h'⟩
   have HFT:Hid (FitD ⟨mem,sh,lk,bf,xs.map Prod.fst⟩):=by
    refine ⟨HB1.out,HB2.out,HB3.out,⟨by simp only;have:=HML.out.1;have:=HB4.out;omega,HML.out.2⟩,⟨by simp only [List.length_map];have:=HB6.out;omega,fun y hy=>?_⟩⟩
    obtain ⟨z,hz,rfl⟩:=List.mem_map.1 hy
    exact hok z hz
   obtain ⟨o,ho⟩:∃ o:Ob,o=⟨mem,sh,lk,bf,xs.map Prod.fst⟩:=⟨_,rfl⟩
   rw [← ho] at hv HOB HFT
   have HCH:Hid (∀ X,obA X o (.agg #[.slice a1 mem.length c1,.int .i64 sh,.int .i64 lk,.int .i64 bf,.slice a5 xs.length c5])→Calls Tryz.prog 15 #[.agg #[.slice a1 mem.length c1,.int .i64 sh,.int .i64 lk,.int .i64 bf,.slice a5 xs.length c5]] X fun e w'=>e=.returned (.tuple #[.int .i64 (chkO o).1,.int .i64 (chkO o).2.1,.int .i64 (chkO o).2.2])∧Below X.heap.size X w'):=fun X hX=>rcheck_any o HFT.out.rg HFT.out.fit hX
   have HOA:Hid (obA wc o (.agg #[.slice a1 mem.length c1,.int .i64 sh,.int .i64 lk,.int .i64 bf,.slice a5 xs.length c5])):=by
    have h9:=hv.obA
    rw [ho] at h9 ⊢
    exact h9
   have HDD:=Lib.hid hd
   have HVV:=Lib.hid hv
   have O8:=hd.ox
   have HMT:=Lib.hid hmt
   have HRO:Hid (o.sh=sh∧o.lk=lk∧o.bf=bf):=by rw [ho];exact ⟨rfl,rfl,rfl⟩
   clear hd hv hl hok hor HC HWD HIN HME HML H1 H2 H3 H4 H6 HB1 HB2 HB3 HB4 HB6 HFT ho
   have HDE:Hid (decD l=if dt=false∧l.drop mt=[]∧(chkO o).1=0 then (o,0) else (zOb,162)):=by
    rcases HOB.out with h | ⟨h,h'⟩
    · exact decD_go HMG.out h
    · rw [Hid, decD_bad h', if_neg (fun h2 => by rw [h] at h2; cases h2.1)]
      rfl
   generalize chkO o=ck at HCH HDE
   obtain ⟨why,k1,k2⟩:=ck
   simp only at HCH HDE
   clear HOB HMG
   have hlx:=HLC.out.2
   go_upto_region 27 with (first | (refine ld rowO rfl rfl rfl O8 rfl ?_) | (go_at_call 15;refine (HCH.out _ HOA.out).mono ?_;rintro e wk ⟨rfl,hb⟩;have HB:=Lib.hid hb;clear hb))
   have HDK:=Lib.hid (HDD.out.below HB.out)
   have HVK:=Lib.hid (HVV.out.stays fun b _ hb=>HB.out.block b hb)
   clear O8 HDD HVV HOA HCH p1 p2 HB
   obtain ⟨p1,p2⟩:=HDK.out.atk HMT.out
   have OZ:=HDK.out.zx
   have OX:=HDK.out.ox
   by_cases hgood:dt=false∧mt=l.length∧why=0
   · obtain ⟨rfl, rfl, rfl⟩ := hgood
     have HDF:Hid (decD l=(o,0)):=by rw [Hid,HDE.out,if_pos ⟨rfl,List.drop_length,rfl⟩]
     clear HDE
     as_aux_lemma =>
      go_upto_region 29 with fail
      go_wp2_with (first | (refine ld rowO rfl rfl rfl OX rfl ?_) | (refine st rowO rfl rfl OZ rfl rfl (by rfl) (by rfl) (by kernel_rfl) ?_))
      refine p_ret2 rowO rfl (OZ.row #[.slice a1 mem.length c1,.int .i64 sh,.int .i64 lk,.int .i64 bf,.slice a5 xs.length c5]) rfl rfl rfl rfl ?_
      rw [HDF.out]
      refine ⟨_,rfl,⟨_,_,xs,?_,(HVK.out.stays (W':=_) ?_).mono (by have:=HDK.out.wp;have:=HDK.out.pq;omega)⟩,Below.of_row HDK.out.bel (Nat.le_refl _) _⟩
      · rw [HRO.out.1,HRO.out.2.1,HRO.out.2.2]
      · exact fun b hb _=>setRow_other _ (by have:=HDK.out.wp;have:=HDK.out.pq;omega)
   · have HDF : Hid (decD l = (zOb, 162)) := by
      rw [Hid,HDE.out,if_neg]
      intro h
      refine hgood ⟨h.1,?_,h.2.2⟩
      have h9:=congrArg List.length h.2.1
      rw [List.length_drop] at h9
      simp at h9
      have:=HMT.out
      omega
     clear HDE
     cases dt with
     | true =>
       as_aux_lemma =>
        clear hgood
        go_upto_region 28 with fail
        go_wp2_with (refine st rowO rfl rfl OZ rfl rfl (by rfl) (by rfl) (by kernel_rfl) ?_)
        refine p_ret2 rowO rfl (OZ.row #[.slice none 0 0,.int .i64 0,.int .i64 0,.int .i64 0,.slice none 0 0]) rfl rfl rfl rfl ?_
        rw [HDF.out]
        exact ⟨_,rfl,⟨_,_,[],rfl,dcv_zero _ _⟩,Below.of_row HDK.out.bel (Nat.le_refl _) _⟩
     | false =>
       by_cases hmt2:mt=l.length
       · subst hmt2
         have hwhy:¬ why=0:=fun h=>hgood ⟨rfl,rfl,h⟩
         as_aux_lemma =>
          clear hgood
          go_upto_region 28 with fail
          go_wp2_with (refine st rowO rfl rfl OZ rfl rfl (by rfl) (by rfl) (by kernel_rfl) ?_)
          refine p_ret2 rowO rfl (OZ.row #[.slice none 0 0,.int .i64 0,.int .i64 0,.int .i64 0,.slice none 0 0]) rfl rfl rfl rfl ?_
          rw [HDF.out]
          exact ⟨_,rfl,⟨_,_,[],rfl,dcv_zero _ _⟩,Below.of_row HDK.out.bel (Nat.le_refl _) _⟩
       · have hmt3 : ¬ (mt : Int) = (l.length : Int) := by omega
         have hmt4:((mt:Int) != (l.length:Int))=true:=by simpa using hmt3
         have hmt5:((mt:Int)==(l.length:Int))=false:=by simpa using hmt3
         clear hmt2
         as_aux_lemma =>
          clear hgood
          go_upto_region 28 with fail
          go_wp2_with (refine st rowO rfl rfl OZ rfl rfl (by rfl) (by rfl) (by kernel_rfl) ?_)
          refine p_ret2 rowO rfl (OZ.row #[.slice none 0 0,.int .i64 0,.int .i64 0,.int .i64 0,.slice none 0 0]) rfl rfl rfl rfl ?_
          rw [HDF.out]
          exact ⟨_,rfl,⟨_,_,[],rfl,dcv_zero _ _⟩,Below.of_row HDK.out.bel (Nat.le_refl _) _⟩
theorem r_Decode (l:List UInt8) {a:Option Addr} {c:Nat} {w:World} (ha:bysAt w l a) (hc:l.length≤c) (hm:l.length≤1152921504606846976) :
 Calls Tryz.prog 12 #[.slice a l.length c] w fun e w'=>∃ v,e=.returned (.tuple #[v,.int .i64 (decD l).2])∧DcO w.heap.size (decD l).1 v w'∧Below w.heap.size w w':=by
 by_cases h:l.take 4=magic
 · exact r_DecodeY l ha hc hm h
 · exact r_DecodeN l ha hc hm h
end Go.Proofs.YtmpljhfinmfnbaaGreatDoor

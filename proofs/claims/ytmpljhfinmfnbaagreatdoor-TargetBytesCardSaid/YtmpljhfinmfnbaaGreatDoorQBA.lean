/- The proof, part 27: texts that belong together, in one. -/
import Derived.Test.YtmpljhfinmfnbaaGreatDoorQAS
import Derived.Test.YtmpljhfinmfnbaaGreatDoorQAZ
import Derived.Test.YtmpljhfinmfnbaaGreatDoorQAM
import Derived.Test.YtmpljhfinmfnbaaGreatDoorQAU
set_option maxRecDepth 100000
set_option maxHeartbeats 20000000
namespace Go.Proofs.YtmpljhfinmfnbaaGreatDoor
open Go.RowKit
set_option linter.unusedVariables false
set_option maxRecDepth 100000
def Rst (p:Nat) (L:List UInt8) (a:Option Addr) (c:Nat) (s:Bst) (W:World):Prop:=∃ m d,s=(L.drop m,d)∧RpP p L a c m d W
section
variable {w W W':World} {p:Nat} {L:List UInt8} {a:Option Addr} {c n:Nat} {b:Bool} {s t:Bst}
theorem Rds.st (h:Rds w p L a c s W):Rst p L a c s W:=by
 obtain ⟨m,d,e,h⟩:=h
 exact ⟨m,d,e,h.st⟩
theorem Rds.keep (h:Rds w p L a c s W):Keep (fun k _=>k≠p) w W:=by
 obtain ⟨m,d,e,h⟩:=h
 exact h.keep
theorem rds_new (h:Rst p L a c s w):Rds w p L a c s w:=by
 obtain ⟨m,d,e,h⟩:=h
 exact ⟨m,d,e,rdq_new h⟩
theorem Rds.trans (h:Rds w p L a c s W) (k:Rds W p L a c t W'):Rds w p L a c t W':=by
 obtain ⟨m,d,e,k⟩:=k
 exact ⟨m,d,e,k.st,h.keep.trans k.keep⟩
theorem Rds.below (h:Rds w p L a c s W) (hb:Below W.heap.size W W'):Rds w p L a c s W':=by
 obtain ⟨m,d,e,h⟩:=h
 exact ⟨m,d,e,h.below hb⟩
theorem Rds.bad (h:Rds w p L a c s W):Rds w p L a c (s.1,true) (W.setCell ⟨p,2,none⟩ (.bool true)):=by
 obtain ⟨m,d,rfl,h⟩:=h
 exact ⟨m,true,rfl,h.bad⟩
theorem Rst.lt (h:Rst p L a c s W):p<W.heap.size:=by
 obtain ⟨m,d,e,h⟩:=h
 exact h.lt
theorem Rds.cell2 (h:Rds w p L a c s W):W.cell? ⟨p,2,none⟩=some (.bool s.2)∧W.frozen? ⟨p,2,none⟩=false:=by
 obtain ⟨m,d,rfl,h⟩:=h
 exact ⟨by rw [cell_of_row _ _ 2 _ _ _ h.st.own];rfl,own_frozen h.st.own 2⟩
theorem Rds.other (h:Rds w p L a c s W) {g:Nat} {ty:TypeId} {row:Array Value} (ho:Own w g ty row) (hg:g≠p):Own W g ty row:=h.keep.block _ _ ho hg
theorem Rds.bel (h:Rds w p L a c s W) (hp:p≤w.heap.size):Below p w W:=⟨h.keep.os,h.keep.tape,h.keep.output,h.keep.size,fun k hk=>by
 have hl:k<w.heap.size:=Nat.lt_of_lt_of_le hk hp
 rw [h.keep.block k _ (Array.getElem?_eq_getElem hl) (Nat.ne_of_lt hk),Array.getElem?_eq_getElem hl]⟩
end
theorem rds_number {w:World} {p:Nat} {L:List UInt8} {a:Option Addr} {c:Nat} {s:Bst} (h:Rst p L a c s w) :
 Calls Tryz.prog 77 #[.pointer (some ⟨p,0,none⟩)] w fun e w'=>e=.returned (.int .u64 ((nuR s).1:Int))∧Rds w p L a c (nuR s).2 w':=by
 obtain ⟨m,d,rfl,h⟩:=h
 exact rd_number h
theorem rds_small {w:World} {p:Nat} {L:List UInt8} {a:Option Addr} {c:Nat} {s:Bst} (h:Rst p L a c s w) (m:Int) (h0:0≤m) (h1:m≤9223372036854775807) :
 Calls Tryz.prog 32 #[.pointer (some ⟨p,0,none⟩),.int .i64 m] w fun e w'=>e=.returned (.int .i64 (smR m s).1)∧Rds w p L a c (smR m s).2 w':=by
 have HA:Hid (Calls Tryz.prog 77 #[.pointer (some ⟨p,0,none⟩)] w fun e w'=>e=.returned (.int .u64 ((nuR s).1:Int))∧Rds w p L a c (nuR s).2 w'):=rds_number h
 have hlt:=nuR_lt s
 have hs:smR m s=if m<((nuR s).1:Int) then (0,((nuR s).2.1,true)) else (((nuR s).1:Int),(nuR s).2):=rfl
 rw [hs]
 clear hs
 generalize nuR s=r at HA hlt ⊢
 obtain ⟨n,t⟩:=r
 simp only at HA hlt ⊢
 have e1:IntKind.u64.wrap m=m:=by rw [IntKind.wrap_u64];omega
 clear h
 by_cases hb:m<(n:Int)
 · rw [if_pos hb]
   go_enter Tryz.func32,Tryz.ntmps32
   go_wp2_with (go_at_call 77;refine HA.out.mono ?_;rintro e w2 ⟨rfl,hq⟩;have HQ:=Lib.hid hq;obtain ⟨p2,q2⟩:=hq.cell2;clear hq)
   go_ret
   exact ⟨rfl,HQ.out.bad⟩
 · rw [if_neg hb]
   have e2:IntKind.i64.wrap (n:Int)=(n:Int):=by rw [IntKind.wrap_i64];omega
   go_enter Tryz.func32,Tryz.ntmps32
   go_wp2_with (go_at_call 77;refine HA.out.mono ?_;rintro e w2 ⟨rfl,hq⟩;have HQ:=Lib.hid hq;clear hq)
   go_ret
   exact ⟨rfl,HQ.out⟩
theorem rds_word {w:World} {p:Nat} {L:List UInt8} {a:Option Addr} {c:Nat} {s:Bst} (h:Rst p L a c s w) :
 Calls Tryz.prog 33 #[.pointer (some ⟨p,0,none⟩)] w fun e w'=>e=.returned (.int .i64 (wdR s).1)∧Rds w p L a c (wdR s).2 w':=by
 have HA:Hid (Calls Tryz.prog 77 #[.pointer (some ⟨p,0,none⟩)] w fun e w'=>e=.returned (.int .u64 ((nuR s).1:Int))∧Rds w p L a c (nuR s).2 w'):=rds_number h
 have hlt:=nuR_lt s
 have hs:wdR s=(unz (nuR s).1,(nuR s).2):=rfl
 rw [hs]
 clear hs
 generalize nuR s=r at HA hlt ⊢
 obtain ⟨n,t⟩:=r
 simp only at HA hlt ⊢
 have hw:IntKind.i64.wrap ((n:Int) / 2)=((n / 2:Nat):Int):=by rw [IntKind.wrap_i64];omega
 have ha:=Lib.u64_and1 (n:Int) (by omega) (by omega)
 clear h
 by_cases hb:n % 2=1
 · have ha2 : bits .and .u64 (n : Int) 1 = 1 := by rw [ha]; omega
   have HU:=Lib.hid (unz_odd n hlt hb)
   clear ha
   go_enter Tryz.func33,Tryz.ntmps33
   go_wp2_with (go_at_call 77;refine HA.out.mono ?_;rintro e w2 ⟨rfl,hq⟩;have HQ:=Lib.hid hq;clear hq)
   go_ret
   rw [← HU.out]
   refine ⟨?_,HQ.out⟩
   trace_state
   first | rfl | (have hq2 : (n : Int) / 2 = ((n / 2 : Nat) : Int) := by omega
                  rw [← hq2];rfl)
 · have hn2 : unz n = ((n / 2 : Nat) : Int) := by unfold unz; rw [if_neg hb]
   have ha2:bits .and .u64 (n:Int) 1=0:=by rw [ha];omega
   have HU:=Lib.hid hn2
   clear ha hn2
   go_enter Tryz.func33,Tryz.ntmps33
   go_wp2_with (go_at_call 77;refine HA.out.mono ?_;rintro e w2 ⟨rfl,hq⟩;have HQ:=Lib.hid hq;clear hq)
   go_ret
   rw [HU.out]
   refine ⟨?_,HQ.out⟩
   first | rfl | (have hq2 : (n : Int) / 2 = ((n / 2 : Nat) : Int) := by omega
                  rw [← hq2];rfl)
open Go.RowKit
set_option linter.unusedVariables false
set_option maxRecDepth 100000
structure ByQ (w:World) (b:Nat) (v:Value) (t:List UInt8) (X:World):Prop where
 lt:b<w.heap.size
 own:X.ownsRow (b+1) 5 1 v t.length (Lib.byteCells t)
 keep:Keep (selW b) w X
 bel:Below (b+1) w X
section
variable {w X Y:World} {b:Nat} {v v':Value} {t t':List UInt8}
theorem ByQ.below (h:ByQ w b v t X) (hb:Below X.heap.size X Y):ByQ w b v t Y :=
 ⟨h.lt,row_below h.own hb,h.keep.trans (keep_below hb),h.bel.trans (hb.mono (by have:=h.bel.size;have:=h.lt;omega))⟩
theorem ByQ.trans (h:ByQ w b v t X) (k:ByQ X b v' t' Y):ByQ w b v' t' Y:=⟨h.lt,k.own,h.keep.trans k.keep,h.bel.trans k.bel⟩
theorem ByQ.new (h:ByQ w b v t X):ByQ X b v t X:=⟨by have:=h.bel.size;have:=h.lt;omega,h.own,Keep.refl _ _,Below.refl _ _⟩
theorem ByQ.box (h:ByQ w b v t X) {ty:TypeId} {row:Array Value} {g:Nat} (ho:Own w g ty row) (hn:Nu8 ty):Own X g ty row:=by
 by_cases e:g=b
 · subst e
   exact (h.bel.block _ (by omega)).trans ho
 · exact h.keep.block _ _ ho ⟨e,hn _⟩
theorem ByQ.str {s:ByteArray} (h:ByQ w b v t X) (e:t'=t++s.data.toList) (ho:Y.ownsRow (b+1) 5 1 v' (t.length+s.size) (Lib.byteCells t++Lib.strCells s)) (hg:X.grownBy Y v.ownBlock):∃ a c,v'=.slice a t'.length c∧ByQ w b v' t' Y:=by
 have h3:t'.length=t.length+s.size:=by rw [e,List.length_append,Array.length_toList];rfl
 have hr:Y.ownsRow (b+1) 5 1 v' t'.length (Lib.byteCells t'):=by
  rw [h3,e,← bytes_append,← strCells_bytes]
  exact ho
 obtain ⟨a,c,rfl⟩:=row_slice hr
 exact ⟨a,c,rfl,h.lt,hr,h.keep.grown hg (row_bytesW h.own b (fun _ _ _ ho=>ho)),h.bel.grown hg (by have:=h.bel.size;have:=h.lt;omega) (fun k hk=>(h.own.lt k hk).1)⟩
theorem ByQ.put {m:Nat} {o:Obj} (h:ByQ w b v t X) (hm:m<256) (ho:Y.ownsRow (b+1) 5 1 v' (t.length+1) (Lib.byteCells t++[.int .u8 (m:Int)])) (hg:(X.alloc o).grownBy Y v.ownBlock):∃ a c,v'=.slice a (t++[UInt8.ofNat m]).length c∧ByQ w b v' (t++[UInt8.ofNat m]) Y:=by
 have hc:(UInt8.ofNat m).toNat=m:=by rw [UInt8.toNat_ofNat'];omega
 have e:Lib.strCells ⟨#[UInt8.ofNat m]⟩=[.int .u8 (m:Int)]:=by
  rw [strCells_bytes]
  simp only [Lib.byteCells,List.map_cons,List.map_nil,hc]
 exact (h.below ((Below.refl X.heap.size X).alloc (Nat.le_refl _) o)).str (s:=⟨#[UInt8.ofNat m]⟩) rfl (by rw [e];exact ho) hg
end
theorem and_127 (m:Nat) (h:m≤18446744073709551615):bits BinOp.and IntKind.u64 (m:Int) 127=((m % 128:Nat):Int):=by
 have h:=bits_mask .u64 64 (by decide) wraps_u64 7 (by decide) (m:Int) (by omega) (by omega)
 rw [show ((2:Int) ^ 7-1)=127 by decide,show ((2:Int) ^ 7)=128 by decide] at h
 rw [h]
 omega
theorem or_128:∀ k:Nat,k<128→bits BinOp.or IntKind.u64 (k:Int) 128=((k+128:Nat):Int):=by decide
theorem rputn_any {w:World} {b:Nat} {v:Value} {txt:List UInt8} (h:ByQ w b v txt w) (n:Nat) (hn:n≤18446744073709551615) (hlen:txt.length≤140737488355000) :
 Calls Tryz.prog 25 #[v,.int .u64 n] w fun e w'=>∃ a c,e=.returned (.slice a (txt++dgT n).length c)∧ByQ w b (.slice a (txt++dgT n).length c) (txt++dgT n) w':=by
 obtain ⟨i0,hi,hz0,hz1,hz2⟩:=info_parts infoU8'
 obtain ⟨a0,c0,rfl⟩:=row_slice h.own
 have HQ0:=Lib.hid h
 have HLEN:=Lib.hid hlen
 clear h hlen
 go_enter Tryz.func25,Tryz.ntmps25
 go_wp2_with fail
 go_loopg [0,1] 10 (fun m' v z X=>∃ (f m:Nat) (cur:List UInt8) (ao:Option Addr) (cp:Nat),v=.slice ao cur.length cp∧z=.int .u64 (m:Int)∧m<128 ^ (f+1)∧m≤18446744073709551615∧f<10∧m'=f+1∧txt++dgT n=cur++dg (f+1) m∧cur.length+f≤txt.length+9∧ByQ w b (.slice ao cur.length cp) cur X)
 case atStart=>exact ⟨9,n,txt,a0,c0,rfl,rfl,by omega,hn,by omega,by omega,rfl,by omega,HQ0.out⟩
 case round =>
  clear HQ0
  obtain ⟨f,m,cur,ao,cp,rfl,rfl,hm1,hm2,hf,hm',hcat,hcl,hq⟩:=hrel
  have hlb:(Lib.byteCells cur).length=cur.length:=by simp [Lib.byteCells]
  have HM:=Lib.hid hm'
  have HCT:=Lib.hid hcat
  have HLN:=HLEN.out
  have hbs:b+1≤wr.heap.size:=by have:=hq.bel.size;have:=hq.lt;omega
  clear hm' hcat
  by_cases hbig:127<(m:Int)
  · obtain ⟨c, hc⟩ : ∃ c : Nat, c = m % 128 + 128 := ⟨_, rfl⟩
    have hand:=and_127 m hm2
    have hor:bits BinOp.or IntKind.u64 ((m % 128:Nat):Int) 128=(c:Int):=by rw [hc];exact or_128 _ (by omega)
    have hc1:c≤255:=by omega
    generalize m % 128=mm at hand hor
    obtain ⟨f',rfl⟩:∃ f',f=f'+1:=by
     rcases f with _ | f
     · simp at hm1;omega
     · exact ⟨f,rfl⟩
    have HCT2:Hid (txt++dgT n=(cur++[UInt8.ofNat c])++dg (f'+1) (m / 128)):=by
     rw [Hid,HCT.out,dg,if_neg (by omega),hc,List.append_assoc,List.singleton_append]
    have hm3:m / 128<128 ^ (f'+1):=by
     rw [Nat.div_lt_iff_lt_mul (by decide)]
     rw [Nat.pow_succ] at hm1
     exact hm1
    clear hc HCT hm1
    go_wp2_with (first | rw [hand] | rw [hor] | (at_builtin;refine wpList_append_own _ rfl _ _ 26 rfl (b+1) 5 i0 (.int .u8 0) 1 1 Tryz.underlying26 hi hz0 hz1 hz2 rfl (by decide) (.slice ao cur.length cp) cur.length (Lib.byteCells cur) rfl (hq.own.alloc _) ⟨wr.heap.size,0,none⟩ 1 1 [.int .u8 (c:Int)] rfl rfl ?c1 ?c2 ?c3 ?c4 ?c5 ?_))
    case c1 =>
     intro j u hj
     match j,hj with
     | 0,hj=>simp at hj;subst hj;simp [Addr.add]
    case c2=>intro u hu;simp at hu;subst hu;rfl
    case c3=>unfold maxLen;omega
    case c4=>omega
    case c5=>first | omega | (simp;omega)
    intro v' w2 hown' hgrow _
    obtain ⟨a2,cp2,rfl,hps⟩:=hq.put (by omega) hown' hgrow
    have HPS:=Lib.hid hps
    clear hown' hgrow hps hq
    go_wp2_with fail
    go_roundg (f'+1)
    case measure=>have:=HM.out;omega
    case rel=>exact ⟨f',m / 128,cur++[UInt8.ofNat c],a2,cp2,rfl,by simp,hm3,by omega,by omega,rfl,HCT2.out,by simp;omega,HPS.out⟩
  · have hbig2 : m ≤ 127 := by omega
    have HCT2:Hid (txt++dgT n=cur++[UInt8.ofNat m]):=by rw [Hid,HCT.out,dg,if_pos hbig2]
    go_wp2_with (at_builtin;refine wpList_append_own _ rfl _ _ 26 rfl (b+1) 5 i0 (.int .u8 0) 1 1 Tryz.underlying26 hi hz0 hz1 hz2 rfl (by decide) (.slice ao cur.length cp) cur.length (Lib.byteCells cur) rfl (hq.own.alloc _) ⟨wr.heap.size,0,none⟩ 1 1 [.int .u8 (m:Int)] rfl rfl ?c1 ?c2 ?c3 ?c4 ?c5 ?_)
    case c2=>rfl
    case c3=>unfold maxLen;omega
    case c4=>omega
    case c5=>first | omega | (simp;omega)
    intro v' w2 hown' hgrow _
    obtain ⟨a2,cp2,rfl,hps⟩:=hq.put (by omega) hown' hgrow
    have HPS:=Lib.hid hps
    clear hown' hgrow hps hq
    go_wp2_with fail
    go_ret
    rw [HCT2.out]
    exact ⟨a2,cp2,rfl,HPS.out⟩
theorem rputw_any {w:World} {b:Nat} {v:Value} {txt:List UInt8} (h:ByQ w b v txt w) (x:Int) (h0 : -9223372036854775808≤x∧x≤9223372036854775807) (hlen:txt.length≤140737488355000) :
 Calls Tryz.prog 26 #[v,.int .i64 x] w fun e w'=>∃ a c,e=.returned (.slice a (txt++wrdY x).length c)∧ByQ w b (.slice a (txt++wrdY x).length c) (txt++wrdY x) w':=by
 have hu2:Lib.zigzag x≤18446744073709551615:=Nat.le_of_lt_succ (Lib.zigzag_lt h0.1 h0.2)
 obtain ⟨a0,c0,rfl⟩:=row_slice h.own
 have HD:Hid (∀ n:Int,n=(Lib.zigzag x:Nat)→Calls Tryz.prog 25 #[.slice a0 txt.length c0,.int .u64 n] w fun e w'=>∃ a c,e=.returned (.slice a (txt++wrdY x).length c)∧ByQ w b (.slice a (txt++wrdY x).length c) (txt++wrdY x) w'):=fun n hn=>by
  subst hn
  exact rputn_any h _ hu2 hlen
 clear h
 generalize txt++wrdY x=T2 at HD ⊢
 by_cases hneg:x<0
 · go_enter Tryz.func26, Tryz.ntmps26
   go_wp2_with fail
   go_at_call 25
   refine (HD.out _ ?_).mono ?_
   · exact Lib.zigzag_neg h0.1 hneg
   rintro e w2 ⟨a,c,rfl,hz⟩
   have HZ:=Lib.hid hz
   clear hz
   go_wp2_with fail
   go_ret
   exact ⟨a,c,rfl,HZ.out⟩
 · go_enter Tryz.func26, Tryz.ntmps26
   go_wp2_with fail
   go_at_call 25
   refine (HD.out _ ?_).mono ?_
   · exact (Lib.zigzag_nonneg (by omega)).symm
   rintro e w2 ⟨a,c,rfl,hz⟩
   have HZ:=Lib.hid hz
   clear hz
   go_wp2_with fail
   go_ret
   exact ⟨a,c,rfl,HZ.out⟩
end Go.Proofs.YtmpljhfinmfnbaaGreatDoor

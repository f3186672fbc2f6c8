/- The proof, part 37: texts that belong together, in one. -/
import Derived.Test.YtimccjlhhjjcpaaGreatDoorVAZ
import Derived.Test.YtimccjlhhjjcpaaGreatDoorVBJ
set_option maxRecDepth 100000
set_option maxHeartbeats 20000000
namespace Go.Proofs.YtimccjlhhjjcpaaGreatDoor
open Go.RowKit
set_option linter.unusedVariables false
theorem rowTu:RowT 44 3:=⟨_,Tryz.underlying44,rfl,by kernel_rfl⟩
def TuE (st:Bool) (fr tt:ByteArray) (l:List Ex):Prop:=ctEs l≤1048576→∀ (a:Option Addr) (c:Nat) (w:World),exsAt (fun _=>True) w l a→Calls Tryz.prog 89 #[.agg #[.bool st,.string fr,.string tt],.slice a l.length c] w fun e w'=>∃ s t,e=.returned (.slice s l.length t)∧exsAt (Rf w.heap.size w') w' (exsTu (gR fr tt) (hR st) l) s∧Below w.heap.size w w'
def TuS (st:Bool) (fr tt:ByteArray) (l:List St):Prop:=ctSs l≤1048576→∀ (a:Option Addr) (c:Nat) (w:World),stsAt (fun _=>True) w l a→Calls Tryz.prog 64 #[.agg #[.bool st,.string fr,.string tt],.slice a l.length c] w fun e w'=>∃ s t,e=.returned (.slice s l.length t)∧stsAt (Rf w.heap.size w') w' (stsTu (gR fr tt) (hR st) l) s∧Below w.heap.size w w'
theorem tu_exs {st:Bool} {fr tt:ByteArray} {l:List Ex} (HI:∀ x∈l,TuE st fr tt x.kids):TuE st fr tt l:=by
 intro hbk a c w h1
 have HI:=Lib.hid HI
 have HBK:=Lib.hid hbk
 have E1:=Lib.hid h1
 have HXO:=Lib.hid (Own.new w 44 #[.bool st,.string fr,.string tt])
 have HXB:=Lib.hid ((Below.refl w.heap.size w).alloc (Nat.le_refl _) (.cells #[.bool st,.string fr,.string tt] 44))
 have HNM:Hid (∀ (s:ByteArray) (X:World),Calls Tryz.prog 63 #[.agg #[.bool st,.string fr,.string tt],.string s] X fun e w'=>e=.returned (.string (gR fr tt s))∧Below X.heap.size X w'):=fun s X=>r_turnName st fr tt s X
 have HAT:Hid (∀ (n:Int) (X:World),Calls Tryz.prog 65 #[.agg #[.bool st,.string fr,.string tt],.int .i64 n] X fun e w'=>e=.returned (.int .i64 (hR st n))∧Below X.heap.size X w'):=fun n X=>r_turnAt st fr tt n X
 obtain ⟨n,hn⟩:∃ n,n=l.length:=⟨_,rfl⟩
 rw [← hn]
 have HN:=Lib.hid hn
 have hn20:n≤1048576:=by rw [hn];exact Nat.le_trans (ctEs_len l) hbk
 clear h1 hn hbk
 go_enter Tryz.func89,Tryz.ntmps89
 go_wp2_with fail
 go_loopg [5,6] (n+1) (fun m' v u X=>∃ (i:Nat) (oa:Option Addr) (cap:Nat) (xs:List Value),v=.slice oa i cap∧u=.int .i64 (i:Int)∧i≤n∧m'=n-i+1∧X.ownsRow (w.heap.size+1) 70 6 (.slice oa i cap) i xs∧exsV (RR (w.heap.size+1) (.slice oa i cap) X) X ((l.take i).map (Ex.tu (gR fr tt) (hR st))) xs∧Below w.heap.size w X∧Own X w.heap.size 44 #[.bool st,.string fr,.string tt])
 case atStart=>exact ⟨0,none,0,[],rfl,rfl,Nat.zero_le _,by omega,World.ownsRow_nil _ _ _ _,rfl,HXB.out,HXO.out⟩
 case round =>
  clear HXO HXB
  obtain ⟨i,oa,cap,xs,rfl,rfl,hi,hm,hrow,hsv,hb0,hxo⟩:=hrel
  have HM:=Lib.hid hm
  have ROW:=Lib.hid hrow
  have SV:=Lib.hid hsv
  have HB:=Lib.hid hb0
  have HXO:=Lib.hid hxo
  clear hm hrow hsv hb0 hxo
  by_cases hin:i<n
  · have il : i < l.length := by have := HN.out; omega
    have g1:l[i]? = some l[i]:=List.getElem?_eq_getElem il
    have hmem:l[i]∈l:=List.getElem_mem il
    have HTK:Hid ((l.take (i+1)).map (Ex.tu (gR fr tt) (hR st))=(l.take i).map (Ex.tu (gR fr tt) (hR st))++[Ex.tu (gR fr tt) (hR st) l[i]]):=by
     show _=_
     rw [List.take_succ_eq_append_getElem il,List.map_append];rfl
    generalize l[i]=x at g1 hmem HTK
    rcases E1.out with e | ⟨g,q,e,hg,e1⟩
    · cases l with
      | nil=>simp at il
      | cons=>cases e
    obtain rfl:a=some ⟨g,q,none⟩:=e
    have x1:=exsIn_get i x e1 g1
    have hbx:ctE x≤1048576:=Nat.le_trans (ctEs_mem hmem) HBK.out
    have hix:=HI.out x hmem
    have hin':(i:Int)<(n:Int):=by omega
    obtain ⟨k,op,wd,nm,ks,ps⟩:=x
    obtain ⟨a0,a1,a2,a3,⟨ka,kc,a4,w4⟩,a5⟩:=x1
    simp only [ctE] at hbx
    obtain ⟨nk,hnk⟩:∃ z,z=ks.length:=⟨_,rfl⟩
    have HC4:Hid (∀ X,Below w.heap.size w X→Calls Tryz.prog 89 #[.agg #[.bool st,.string fr,.string tt],.slice ka nk kc] X fun e w'=>∃ s t,e=.returned (.slice s nk t)∧exsAt (Rf X.heap.size w') w' (exsTu (gR fr tt) (hR st) ks) s∧Below X.heap.size X w'):=fun X hX=>by
     rw [hnk];exact hix (show ctEs ks≤1048576 by omega) ka kc X (exsAt_below w4 hX)
    rw [← hnk] at a4
    have HL4:Hid (nk=(exsTu (gR fr tt) (hR st) ks).length):=by
     show _=_
     rw [exsTu_len];exact hnk
    have b0:wr.cell? ⟨g,q+i*6,none⟩=some (.int .u8 k):=by rw [HB.out.cell (p:=⟨g,q+i*6,none⟩) (cell_lt a0)];exact a0
    have b1:wr.cell? ⟨g,q+i*6+1,none⟩=some (.int .u8 op):=by rw [HB.out.cell (p:=⟨g,q+i*6+1,none⟩) (cell_lt a1)];exact a1
    have b2:wr.cell? ⟨g,q+i*6+2,none⟩=some (.int .i64 wd):=by rw [HB.out.cell (p:=⟨g,q+i*6+2,none⟩) (cell_lt a2)];exact a2
    have b3:wr.cell? ⟨g,q+i*6+3,none⟩=some (.string nm):=by rw [HB.out.cell (p:=⟨g,q+i*6+3,none⟩) (cell_lt a3)];exact a3
    have b4:wr.cell? ⟨g,q+i*6+4,none⟩=some (.slice ka nk kc):=by rw [HB.out.cell (p:=⟨g,q+i*6+4,none⟩) (cell_lt a4)];exact a4
    have b5:wr.cell? ⟨g,q+i*6+5,none⟩=some (.int .i64 ps):=by rw [HB.out.cell (p:=⟨g,q+i*6+5,none⟩) (cell_lt a5)];exact a5
    have hlen:i<1048576:=by omega
    clear a0 a1 a2 a3 a4 a5 w4 hnk hbx hix hmem g1 il e1 hg
    have O0:=Own.new wr 70 #[.int .u8 k,.int .u8 op,.int .i64 wd,.string nm,.slice ka nk kc,.int .i64 ps]
    have OX0:=HXO.out.alloc (.cells #[.int .u8 k,.int .u8 op,.int .i64 wd,.string nm,.slice ka nk kc,.int .i64 ps] 70)
    have B0:=(Below.refl wr.heap.size wr).alloc (Nat.le_refl _) (.cells #[.int .u8 k,.int .u8 op,.int .i64 wd,.string nm,.slice ka nk kc,.int .i64 ps] 70)
    have hz0:Hid ((wr.alloc (.cells #[.int .u8 k,.int .u8 op,.int .i64 wd,.string nm,.slice ka nk kc,.int .i64 ps] 70)).heap.size=wr.heap.size+1):=World.size_alloc _ _
    have HB0:Hid (Below w.heap.size w (wr.alloc (.cells #[.int .u8 k,.int .u8 op,.int .i64 wd,.string nm,.slice ka nk kc,.int .i64 ps] 70))):=HB.out.trans (B0.mono HB.out.size)
    go_wp2_with (refine ld rowTu rfl rfl rfl OX0 rfl ?_)
    clear OX0
    go_at_call 63
    refine (HNM.out _ _).mono ?_
    rintro e w0 ⟨rfl,hb⟩
    have P0:=O0.below hb
    have D0:Below wr.heap.size wr w0:=B0.trans (hb.mono (by have:=B0.size;omega))
    have c0:w0.cell? ⟨wr.heap.size,3,none⟩=some (.string nm):=by rw [cell_of_row _ _ 3 _ _ _ P0];rfl
    have f0:=own_frozen P0 3
    have e0:w0.setCell ⟨wr.heap.size,3,none⟩ (.string (gR fr tt nm))=w0.setRow wr.heap.size #[.int .u8 k,.int .u8 op,.int .i64 wd,.string (gR fr tt nm),.slice ka nk kc,.int .i64 ps]:=setCell_row P0 3 _
    have O1:=P0.row #[.int .u8 k,.int .u8 op,.int .i64 wd,.string (gR fr tt nm),.slice ka nk kc,.int .i64 ps]
    have B1:=Below.of_row D0 (g:=wr.heap.size) (Nat.le_refl _) #[.int .u8 k,.int .u8 op,.int .i64 wd,.string (gR fr tt nm),.slice ka nk kc,.int .i64 ps]
    obtain ⟨X1,hX1⟩:∃ X,X=w0.setRow wr.heap.size #[.int .u8 k,.int .u8 op,.int .i64 wd,.string (gR fr tt nm),.slice ka nk kc,.int .i64 ps]:=⟨_,rfl⟩
    rw [← hX1] at e0 O1 B1
    have hz1:Hid (wr.heap.size+1≤X1.heap.size):=by have:=O1.lt;exact this
    have HB1:Hid (Below w.heap.size w X1):=HB.out.trans (B1.mono HB.out.size)
    have OX1:=HXO.out.below B1
    clear hX1 hb O0 P0 D0 B0
    have d0:X1.cell? ⟨wr.heap.size,5,none⟩=some (.int .i64 ps):=by rw [cell_of_row _ _ 5 _ _ _ O1];rfl
    go_wp2_with (refine ld rowTu rfl rfl rfl OX1 rfl ?_)
    clear OX1
    go_at_call 65
    refine (HAT.out _ _).mono ?_
    rintro e w1 ⟨rfl,hb⟩
    have P1:=O1.below hb
    have D1:Below wr.heap.size wr w1:=B1.trans (hb.mono (by have:=B1.size;omega))
    have c1:w1.cell? ⟨wr.heap.size,5,none⟩=some (.int .i64 ps):=by rw [cell_of_row _ _ 5 _ _ _ P1];rfl
    have f1:=own_frozen P1 5
    have e1:w1.setCell ⟨wr.heap.size,5,none⟩ (.int .i64 (hR st ps))=w1.setRow wr.heap.size #[.int .u8 k,.int .u8 op,.int .i64 wd,.string (gR fr tt nm),.slice ka nk kc,.int .i64 (hR st ps)]:=setCell_row P1 5 _
    have O2:=P1.row #[.int .u8 k,.int .u8 op,.int .i64 wd,.string (gR fr tt nm),.slice ka nk kc,.int .i64 (hR st ps)]
    have B2:=Below.of_row D1 (g:=wr.heap.size) (Nat.le_refl _) #[.int .u8 k,.int .u8 op,.int .i64 wd,.string (gR fr tt nm),.slice ka nk kc,.int .i64 (hR st ps)]
    obtain ⟨X2,hX2⟩:∃ X,X=w1.setRow wr.heap.size #[.int .u8 k,.int .u8 op,.int .i64 wd,.string (gR fr tt nm),.slice ka nk kc,.int .i64 (hR st ps)]:=⟨_,rfl⟩
    rw [← hX2] at e1 O2 B2
    have hz2:Hid (wr.heap.size+1≤X2.heap.size):=by have:=O2.lt;exact this
    have HB2:Hid (Below w.heap.size w X2):=HB.out.trans (B2.mono HB.out.size)
    have OX2:=HXO.out.below B2
    clear hX2 hb O1 P1 D1 B1
    have d1:X2.cell? ⟨wr.heap.size,4,none⟩=some (.slice ka nk kc):=by rw [cell_of_row _ _ 4 _ _ _ O2];rfl
    go_wp2_with (refine ld rowTu rfl rfl rfl OX2 rfl ?_)
    clear OX2
    go_at_call 89
    refine (HC4.out _ HB2.out).mono ?_
    rintro e w2 ⟨s4,t4,rfl,hx4,hb⟩
    have P2:=O2.below hb
    have D2:Below wr.heap.size wr w2:=B2.trans (hb.mono (by have:=B2.size;omega))
    have c2:w2.cell? ⟨wr.heap.size,4,none⟩=some (.slice ka nk kc):=by rw [cell_of_row _ _ 4 _ _ _ P2];rfl
    have f2:=own_frozen P2 4
    have e2:w2.setCell ⟨wr.heap.size,4,none⟩ (.slice s4 nk t4)=w2.setRow wr.heap.size #[.int .u8 k,.int .u8 op,.int .i64 wd,.string (gR fr tt nm),.slice s4 nk t4,.int .i64 (hR st ps)]:=setCell_row P2 4 _
    have O3:=P2.row #[.int .u8 k,.int .u8 op,.int .i64 wd,.string (gR fr tt nm),.slice s4 nk t4,.int .i64 (hR st ps)]
    have B3:=Below.of_row D2 (g:=wr.heap.size) (Nat.le_refl _) #[.int .u8 k,.int .u8 op,.int .i64 wd,.string (gR fr tt nm),.slice s4 nk t4,.int .i64 (hR st ps)]
    have hx4:=exsAt_rf (B':=wr.heap.size+1) hx4 (chg_setRow w2 #[.int .u8 k,.int .u8 op,.int .i64 wd,.string (gR fr tt nm),.slice s4 nk t4,.int .i64 (hR st ps)] (g:=wr.heap.size) (by have:=hz2.out;omega)) (by have:=hz2.out;omega)
    obtain ⟨X3,hX3⟩:∃ X,X=w2.setRow wr.heap.size #[.int .u8 k,.int .u8 op,.int .i64 wd,.string (gR fr tt nm),.slice s4 nk t4,.int .i64 (hR st ps)]:=⟨_,rfl⟩
    rw [← hX3] at e2 O3 B3 hx4
    have hz3:Hid (wr.heap.size+1≤X3.heap.size):=by have:=O3.lt;exact this
    have HB3:Hid (Below w.heap.size w X3):=HB.out.trans (B3.mono HB.out.size)
    have OX3:=HXO.out.below B3
    clear hX3 hb O2 P2 D2 B2
    have SV3:=exsV_stays (R':=RR (w.heap.size+1) (.slice oa i cap) X3) (stays_below B3) (fun b hb=>rr_below B3 hb) SV.out
    have hq:∀ b,Rf (wr.heap.size+1) X3 b∧b<X3.heap.size→RR (w.heap.size+1) (.slice oa i cap) X3 b:=fun b hb=>⟨by have:=HB.out.size;have:=hb.1.1;omega,hb.1.2,fun e=>by have:=(ROW.out.lt b e).2;have:=hb.1.1;omega,hb.2⟩
    have NV:exV (RR (w.heap.size+1) (.slice oa i cap) X3) X3 (Ex.tu (gR fr tt) (hR st) (.mk k op wd nm ks ps)) [.int .u8 k,.int .u8 op,.int .i64 wd,.string (gR fr tt nm),.slice s4 nk t4,.int .i64 (hR st ps)]:=by
     exact ⟨s4,t4,by rw [HL4.out];rfl,exsAt_mono (exsAt_in hx4) hq⟩
    have SVN:=exsV_snoc SV3 NV
    rw [← HTK.out] at SVN
    have SVN:=Lib.hid (exsV_stays (R':=RR (w.heap.size+1) (.slice oa i cap) (X3.alloc (.cells #[.int .u8 k,.int .u8 op,.int .i64 wd,.string (gR fr tt nm),.slice s4 nk t4,.int .i64 (hR st ps)] 70))) (stays_alloc _ X3 (.cells #[.int .u8 k,.int .u8 op,.int .i64 wd,.string (gR fr tt nm),.slice s4 nk t4,.int .i64 (hR st ps)] 70)) (fun b hb=>rr_below ((Below.refl _ X3).alloc (Nat.le_refl _) _) hb) SVN)
    have row4:=(row_below ROW.out B3).alloc (.cells #[.int .u8 k,.int .u8 op,.int .i64 wd,.string (gR fr tt nm),.slice s4 nk t4,.int .i64 (hR st ps)] 70)
    obtain ⟨i0,hi0',hi0,hi1,hi2⟩:=info_parts infoEx
    have N4:=Own.new X3 70 #[.int .u8 k,.int .u8 op,.int .i64 wd,.string (gR fr tt nm),.slice s4 nk t4,.int .i64 (hR st ps)]
    have HNEWS:Hid (∀ jj u,[.int .u8 k,.int .u8 op,.int .i64 wd,.string (gR fr tt nm),.slice s4 nk t4,.int .i64 (hR st ps)][jj]? = some u→(X3.alloc (.cells #[.int .u8 k,.int .u8 op,.int .i64 wd,.string (gR fr tt nm),.slice s4 nk t4,.int .i64 (hR st ps)] 70)).cell? ((⟨X3.heap.size,0,none⟩:Addr).add jj)=some u):=World.news_of_block N4
    have HSZ:=Lib.hid (World.size_alloc X3 (.cells #[.int .u8 k,.int .u8 op,.int .i64 wd,.string (gR fr tt nm),.slice s4 nk t4,.int .i64 (hR st ps)] 70))
    have HBA:Hid (Below w.heap.size w (X3.alloc (.cells #[.int .u8 k,.int .u8 op,.int .i64 wd,.string (gR fr tt nm),.slice s4 nk t4,.int .i64 (hR st ps)] 70))):=HB3.out.alloc HB3.out.size _
    have HOXA:=Lib.hid (OX3.alloc (.cells #[.int .u8 k,.int .u8 op,.int .i64 wd,.string (gR fr tt nm),.slice s4 nk t4,.int .i64 (hR st ps)] 70))
    clear SV3 NV hq N4 B3 OX3 hx4
    go_wp2_with (first | (refine ld rowEx rfl rfl rfl O3 rfl ?_) | (at_builtin;refine wpList_append_lies _ rfl _ _ 68 rfl (w.heap.size+1) 70 i0 _ 6 64 Tryz.underlying68 hi0' hi0 hi1 hi2 rfl (by decide) _ _ _ rfl row4 ⟨X3.heap.size,0,none⟩ 1 1 [.int .u8 k,.int .u8 op,.int .i64 wd,.string (gR fr tt nm),.slice s4 nk t4,.int .i64 (hR st ps)] rfl rfl HNEWS.out (by simp [Value.oneCell']) (by decide) (by simp only [maxLen];omega) (by omega) (by rw [HSZ.out];have:=HB3.out.size;omega) _ rfl ?_;intro g2 cap2 w9 hown' hgrow hlies hglt;have ROW4:=Lib.hid hown';have GR:=Lib.hid hgrow;have LIES:=Lib.hid hlies;clear hown' hgrow hlies))
    go_roundg (n-(i+1)+1)
    case measure=>have:=HM.out;omega
    case rel =>
     refine ⟨i+1,_,_,_,rfl,rfl,by omega,by omega,ROW4.out,?_,HBA.out.grown GR.out HBA.out.size (fun r hr=>by have:=(row4.lt r hr).1;omega),own_grown HOXA.out GR.out (fun e=>by have:=(row4.lt _ e).1;omega)⟩
     exact exsV_stays (stays_grown GR.out (fun b hb e=>hb.2.2.1 e)) (fun b hb=>rr_grown GR.out rfl LIES.out hb) SVN.out
  · have : i = n := by omega
    subst this
    obtain ⟨oa',cap',hv,hoa⟩:=row_shape ROW.out
    have HFIN:Hid (exsAt (Rf w.heap.size wr) wr (exsTu (gR fr tt) (hR st) l) oa):=by
     have hT:l.take i=l:=List.take_of_length_le (by have:=HN.out;omega)
     have hsv:=SV.out
     rw [hT,← exsTu_map] at hsv
     by_cases h0:i=0
     · have : l = [] := List.eq_nil_of_length_eq_zero (by have := HN.out; omega)
       rw [this];exact .inl rfl
     · have hr9 := ROW.out
       rcases hr9.2 with ⟨_,h9⟩ | ⟨g,cap9,cur,he,hbg,hg,_⟩
       · exact absurd h9 h0
       · have e9 : oa = some ⟨g, 0, none⟩ := by injection he
         subst e9
         exact .inr ⟨g,0,rfl,⟨by omega,fun o=>hr9.frozenAt o⟩,exsIn_of (exsV_stays (R':=Rf w.heap.size wr) (Stays.refl _ _) (fun b hb=>⟨by have:=hb.1;omega,hb.2.1⟩) hsv) (row_cells hr9 rfl)⟩
    clear hv hoa
    go_wp2_with fail
    go_ret
    exact ⟨oa,cap,rfl,HFIN.out,HB.out⟩
theorem tu_kids {st:Bool} {fr tt:ByteArray} : ∀ e:Ex,TuE st fr tt e.kids:=by
 intro e
 induction e using Ex.ind with
 | h k o w n ks a h=>exact tu_exs h
theorem r_turnExprs (st:Bool) (fr tt:ByteArray) (l:List Ex):TuE st fr tt l:=tu_exs fun x _=>tu_kids x
theorem tu_sts {st:Bool} {fr tt:ByteArray} {l:List St} (HI:∀ x∈l,TuS st fr tt x.body∧TuS st fr tt x.els) (HE:∀ l,TuE st fr tt l):TuS st fr tt l:=by
 intro hbk a c w h1
 have HI:=Lib.hid HI
 have HBK:=Lib.hid hbk
 have E1:=Lib.hid h1
 have HXO:=Lib.hid (Own.new w 44 #[.bool st,.string fr,.string tt])
 have HXB:=Lib.hid ((Below.refl w.heap.size w).alloc (Nat.le_refl _) (.cells #[.bool st,.string fr,.string tt] 44))
 have HNM:Hid (∀ (s:ByteArray) (X:World),Calls Tryz.prog 63 #[.agg #[.bool st,.string fr,.string tt],.string s] X fun e w'=>e=.returned (.string (gR fr tt s))∧Below X.heap.size X w'):=fun s X=>r_turnName st fr tt s X
 have HAT:Hid (∀ (n:Int) (X:World),Calls Tryz.prog 65 #[.agg #[.bool st,.string fr,.string tt],.int .i64 n] X fun e w'=>e=.returned (.int .i64 (hR st n))∧Below X.heap.size X w'):=fun n X=>r_turnAt st fr tt n X
 obtain ⟨n,hn⟩:∃ n,n=l.length:=⟨_,rfl⟩
 rw [← hn]
 have HN:=Lib.hid hn
 have hn20:n≤1048576:=by rw [hn];exact Nat.le_trans (ctSs_len l) hbk
 clear h1 hn hbk
 go_enter Tryz.func64,Tryz.ntmps64
 go_wp2_with fail
 go_loopg [5,6] (n+1) (fun m' v u X=>∃ (i:Nat) (oa:Option Addr) (cap:Nat) (xs:List Value),v=.slice oa i cap∧u=.int .i64 (i:Int)∧i≤n∧m'=n-i+1∧X.ownsRow (w.heap.size+1) 78 7 (.slice oa i cap) i xs∧stsV (RR (w.heap.size+1) (.slice oa i cap) X) X ((l.take i).map (St.tu (gR fr tt) (hR st))) xs∧Below w.heap.size w X∧Own X w.heap.size 44 #[.bool st,.string fr,.string tt])
 case atStart=>exact ⟨0,none,0,[],rfl,rfl,Nat.zero_le _,by omega,World.ownsRow_nil _ _ _ _,rfl,HXB.out,HXO.out⟩
 case round =>
  clear HXO HXB
  obtain ⟨i,oa,cap,xs,rfl,rfl,hi,hm,hrow,hsv,hb0,hxo⟩:=hrel
  have HM:=Lib.hid hm
  have ROW:=Lib.hid hrow
  have SV:=Lib.hid hsv
  have HB:=Lib.hid hb0
  have HXO:=Lib.hid hxo
  clear hm hrow hsv hb0 hxo
  by_cases hin:i<n
  · have il : i < l.length := by have := HN.out; omega
    have g1:l[i]? = some l[i]:=List.getElem?_eq_getElem il
    have hmem:l[i]∈l:=List.getElem_mem il
    have HTK:Hid ((l.take (i+1)).map (St.tu (gR fr tt) (hR st))=(l.take i).map (St.tu (gR fr tt) (hR st))++[St.tu (gR fr tt) (hR st) l[i]]):=by
     show _=_
     rw [List.take_succ_eq_append_getElem il,List.map_append];rfl
    generalize l[i]=x at g1 hmem HTK
    rcases E1.out with e | ⟨g,q,e,hg,e1⟩
    · cases l with
      | nil=>simp at il
      | cons=>cases e
    obtain rfl:a=some ⟨g,q,none⟩:=e
    have x1:=stsIn_get i x e1 g1
    have hbx:ctS x≤1048576:=Nat.le_trans (ctSs_mem hmem) HBK.out
    have hix:=HI.out x hmem
    have hin':(i:Int)<(n:Int):=by omega
    obtain ⟨k,nm,ot,es,bo,el,ps⟩:=x
    obtain ⟨a0,a1,a2,⟨ka,kc,a3,w3⟩,⟨ma,mc,a4,w4⟩,⟨za,zc,a5,w5⟩,a6⟩:=x1
    simp only [ctS] at hbx
    obtain ⟨nk,hnk⟩:∃ z,z=es.length:=⟨_,rfl⟩
    have HC3:Hid (∀ X,Below w.heap.size w X→Calls Tryz.prog 89 #[.agg #[.bool st,.string fr,.string tt],.slice ka nk kc] X fun e w'=>∃ s t,e=.returned (.slice s nk t)∧exsAt (Rf X.heap.size w') w' (exsTu (gR fr tt) (hR st) es) s∧Below X.heap.size X w'):=fun X hX=>by
     rw [hnk];exact HE es (show ctEs es≤1048576 by omega) ka kc X (exsAt_below w3 hX)
    rw [← hnk] at a3
    have HL3:Hid (nk=(exsTu (gR fr tt) (hR st) es).length):=by
     show _=_
     rw [exsTu_len];exact hnk
    obtain ⟨mk,hmk⟩:∃ z,z=bo.length:=⟨_,rfl⟩
    have HC4:Hid (∀ X,Below w.heap.size w X→Calls Tryz.prog 64 #[.agg #[.bool st,.string fr,.string tt],.slice ma mk mc] X fun e w'=>∃ s t,e=.returned (.slice s mk t)∧stsAt (Rf X.heap.size w') w' (stsTu (gR fr tt) (hR st) bo) s∧Below X.heap.size X w'):=fun X hX=>by
     rw [hmk];exact hix.1 (show ctSs bo≤1048576 by omega) ma mc X (stsAt_below w4 hX)
    rw [← hmk] at a4
    have HL4:Hid (mk=(stsTu (gR fr tt) (hR st) bo).length):=by
     show _=_
     rw [stsTu_len];exact hmk
    obtain ⟨zk,hzk⟩:∃ z,z=el.length:=⟨_,rfl⟩
    have HC5:Hid (∀ X,Below w.heap.size w X→Calls Tryz.prog 64 #[.agg #[.bool st,.string fr,.string tt],.slice za zk zc] X fun e w'=>∃ s t,e=.returned (.slice s zk t)∧stsAt (Rf X.heap.size w') w' (stsTu (gR fr tt) (hR st) el) s∧Below X.heap.size X w'):=fun X hX=>by
     rw [hzk];exact hix.2 (show ctSs el≤1048576 by omega) za zc X (stsAt_below w5 hX)
    rw [← hzk] at a5
    have HL5:Hid (zk=(stsTu (gR fr tt) (hR st) el).length):=by
     show _=_
     rw [stsTu_len];exact hzk
    have b0:wr.cell? ⟨g,q+i*7,none⟩=some (.int .u8 k):=by rw [HB.out.cell (p:=⟨g,q+i*7,none⟩) (cell_lt a0)];exact a0
    have b1:wr.cell? ⟨g,q+i*7+1,none⟩=some (.string nm):=by rw [HB.out.cell (p:=⟨g,q+i*7+1,none⟩) (cell_lt a1)];exact a1
    have b2:wr.cell? ⟨g,q+i*7+2,none⟩=some (.string ot):=by rw [HB.out.cell (p:=⟨g,q+i*7+2,none⟩) (cell_lt a2)];exact a2
    have b3:wr.cell? ⟨g,q+i*7+3,none⟩=some (.slice ka nk kc):=by rw [HB.out.cell (p:=⟨g,q+i*7+3,none⟩) (cell_lt a3)];exact a3
    have b4:wr.cell? ⟨g,q+i*7+4,none⟩=some (.slice ma mk mc):=by rw [HB.out.cell (p:=⟨g,q+i*7+4,none⟩) (cell_lt a4)];exact a4
    have b5:wr.cell? ⟨g,q+i*7+5,none⟩=some (.slice za zk zc):=by rw [HB.out.cell (p:=⟨g,q+i*7+5,none⟩) (cell_lt a5)];exact a5
    have b6:wr.cell? ⟨g,q+i*7+6,none⟩=some (.int .i64 ps):=by rw [HB.out.cell (p:=⟨g,q+i*7+6,none⟩) (cell_lt a6)];exact a6
    have hlen:i<1048576:=by omega
    clear a0 a1 a2 a3 a4 a5 a6 w3 w4 w5 hnk hmk hzk hbx hix hmem g1 il e1 hg
    have O0:=Own.new wr 78 #[.int .u8 k,.string nm,.string ot,.slice ka nk kc,.slice ma mk mc,.slice za zk zc,.int .i64 ps]
    have OX0:=HXO.out.alloc (.cells #[.int .u8 k,.string nm,.string ot,.slice ka nk kc,.slice ma mk mc,.slice za zk zc,.int .i64 ps] 78)
    have B0:=(Below.refl wr.heap.size wr).alloc (Nat.le_refl _) (.cells #[.int .u8 k,.string nm,.string ot,.slice ka nk kc,.slice ma mk mc,.slice za zk zc,.int .i64 ps] 78)
    have hz0:Hid ((wr.alloc (.cells #[.int .u8 k,.string nm,.string ot,.slice ka nk kc,.slice ma mk mc,.slice za zk zc,.int .i64 ps] 78)).heap.size=wr.heap.size+1):=World.size_alloc _ _
    have HB0:Hid (Below w.heap.size w (wr.alloc (.cells #[.int .u8 k,.string nm,.string ot,.slice ka nk kc,.slice ma mk mc,.slice za zk zc,.int .i64 ps] 78))):=HB.out.trans (B0.mono HB.out.size)
    go_wp2_with (refine ld rowTu rfl rfl rfl OX0 rfl ?_)
    clear OX0
    go_at_call 63
    refine (HNM.out _ _).mono ?_
    rintro e w0 ⟨rfl,hb⟩
    have P0:=O0.below hb
    have D0:Below wr.heap.size wr w0:=B0.trans (hb.mono (by have:=B0.size;omega))
    have c0:w0.cell? ⟨wr.heap.size,1,none⟩=some (.string nm):=by rw [cell_of_row _ _ 1 _ _ _ P0];rfl
    have f0:=own_frozen P0 1
    have e0:w0.setCell ⟨wr.heap.size,1,none⟩ (.string (gR fr tt nm))=w0.setRow wr.heap.size #[.int .u8 k,.string (gR fr tt nm),.string ot,.slice ka nk kc,.slice ma mk mc,.slice za zk zc,.int .i64 ps]:=setCell_row P0 1 _
    have O1:=P0.row #[.int .u8 k,.string (gR fr tt nm),.string ot,.slice ka nk kc,.slice ma mk mc,.slice za zk zc,.int .i64 ps]
    have B1:=Below.of_row D0 (g:=wr.heap.size) (Nat.le_refl _) #[.int .u8 k,.string (gR fr tt nm),.string ot,.slice ka nk kc,.slice ma mk mc,.slice za zk zc,.int .i64 ps]
    obtain ⟨X1,hX1⟩:∃ X,X=w0.setRow wr.heap.size #[.int .u8 k,.string (gR fr tt nm),.string ot,.slice ka nk kc,.slice ma mk mc,.slice za zk zc,.int .i64 ps]:=⟨_,rfl⟩
    rw [← hX1] at e0 O1 B1
    have hz1:Hid (wr.heap.size+1≤X1.heap.size):=by have:=O1.lt;exact this
    have HB1:Hid (Below w.heap.size w X1):=HB.out.trans (B1.mono HB.out.size)
    have OX1:=HXO.out.below B1
    clear hX1 hb O0 P0 D0 B0
    have d0:X1.cell? ⟨wr.heap.size,2,none⟩=some (.string ot):=by rw [cell_of_row _ _ 2 _ _ _ O1];rfl
    go_wp2_with (refine ld rowTu rfl rfl rfl OX1 rfl ?_)
    clear OX1
    go_at_call 63
    refine (HNM.out _ _).mono ?_
    rintro e w1 ⟨rfl,hb⟩
    have P1:=O1.below hb
    have D1:Below wr.heap.size wr w1:=B1.trans (hb.mono (by have:=B1.size;omega))
    have c1:w1.cell? ⟨wr.heap.size,2,none⟩=some (.string ot):=by rw [cell_of_row _ _ 2 _ _ _ P1];rfl
    have f1:=own_frozen P1 2
    have e1:w1.setCell ⟨wr.heap.size,2,none⟩ (.string (gR fr tt ot))=w1.setRow wr.heap.size #[.int .u8 k,.string (gR fr tt nm),.string (gR fr tt ot),.slice ka nk kc,.slice ma mk mc,.slice za zk zc,.int .i64 ps]:=setCell_row P1 2 _
    have O2:=P1.row #[.int .u8 k,.string (gR fr tt nm),.string (gR fr tt ot),.slice ka nk kc,.slice ma mk mc,.slice za zk zc,.int .i64 ps]
    have B2:=Below.of_row D1 (g:=wr.heap.size) (Nat.le_refl _) #[.int .u8 k,.string (gR fr tt nm),.string (gR fr tt ot),.slice ka nk kc,.slice ma mk mc,.slice za zk zc,.int .i64 ps]
    obtain ⟨X2,hX2⟩:∃ X,X=w1.setRow wr.heap.size #[.int .u8 k,.string (gR fr tt nm),.string (gR fr tt ot),.slice ka nk kc,.slice ma mk mc,.slice za zk zc,.int .i64 ps]:=⟨_,rfl⟩
    rw [← hX2] at e1 O2 B2
    have hz2:Hid (wr.heap.size+1≤X2.heap.size):=by have:=O2.lt;exact this
    have HB2:Hid (Below w.heap.size w X2):=HB.out.trans (B2.mono HB.out.size)
    have OX2:=HXO.out.below B2
    clear hX2 hb O1 P1 D1 B1
    have d1:X2.cell? ⟨wr.heap.size,3,none⟩=some (.slice ka nk kc):=by rw [cell_of_row _ _ 3 _ _ _ O2];rfl
    go_wp2_with (refine ld rowTu rfl rfl rfl OX2 rfl ?_)
    clear OX2
    go_at_call 89
    refine (HC3.out _ HB2.out).mono ?_
    rintro e w2 ⟨s3,t3,rfl,hx3,hb⟩
    have P2:=O2.below hb
    have D2:Below wr.heap.size wr w2:=B2.trans (hb.mono (by have:=B2.size;omega))
    have c2:w2.cell? ⟨wr.heap.size,3,none⟩=some (.slice ka nk kc):=by rw [cell_of_row _ _ 3 _ _ _ P2];rfl
    have f2:=own_frozen P2 3
    have e2:w2.setCell ⟨wr.heap.size,3,none⟩ (.slice s3 nk t3)=w2.setRow wr.heap.size #[.int .u8 k,.string (gR fr tt nm),.string (gR fr tt ot),.slice s3 nk t3,.slice ma mk mc,.slice za zk zc,.int .i64 ps]:=setCell_row P2 3 _
    have O3:=P2.row #[.int .u8 k,.string (gR fr tt nm),.string (gR fr tt ot),.slice s3 nk t3,.slice ma mk mc,.slice za zk zc,.int .i64 ps]
    have B3:=Below.of_row D2 (g:=wr.heap.size) (Nat.le_refl _) #[.int .u8 k,.string (gR fr tt nm),.string (gR fr tt ot),.slice s3 nk t3,.slice ma mk mc,.slice za zk zc,.int .i64 ps]
    have hx3:=exsAt_rf (B':=wr.heap.size+1) hx3 (chg_setRow w2 #[.int .u8 k,.string (gR fr tt nm),.string (gR fr tt ot),.slice s3 nk t3,.slice ma mk mc,.slice za zk zc,.int .i64 ps] (g:=wr.heap.size) (by have:=hz2.out;omega)) (by have:=hz2.out;omega)
    obtain ⟨X3,hX3⟩:∃ X,X=w2.setRow wr.heap.size #[.int .u8 k,.string (gR fr tt nm),.string (gR fr tt ot),.slice s3 nk t3,.slice ma mk mc,.slice za zk zc,.int .i64 ps]:=⟨_,rfl⟩
    rw [← hX3] at e2 O3 B3 hx3
    have hz3:Hid (wr.heap.size+1≤X3.heap.size):=by have:=O3.lt;exact this
    have HB3:Hid (Below w.heap.size w X3):=HB.out.trans (B3.mono HB.out.size)
    have OX3:=HXO.out.below B3
    clear hX3 hb O2 P2 D2 B2
    have d2:X3.cell? ⟨wr.heap.size,4,none⟩=some (.slice ma mk mc):=by rw [cell_of_row _ _ 4 _ _ _ O3];rfl
    go_wp2_with (refine ld rowTu rfl rfl rfl OX3 rfl ?_)
    clear OX3
    go_at_call 64
    refine (HC4.out _ HB3.out).mono ?_
    rintro e w3 ⟨s4,t4,rfl,hx4,hb⟩
    have P3:=O3.below hb
    have D3:Below wr.heap.size wr w3:=B3.trans (hb.mono (by have:=B3.size;omega))
    have c3:w3.cell? ⟨wr.heap.size,4,none⟩=some (.slice ma mk mc):=by rw [cell_of_row _ _ 4 _ _ _ P3];rfl
    have f3:=own_frozen P3 4
    have e3:w3.setCell ⟨wr.heap.size,4,none⟩ (.slice s4 mk t4)=w3.setRow wr.heap.size #[.int .u8 k,.string (gR fr tt nm),.string (gR fr tt ot),.slice s3 nk t3,.slice s4 mk t4,.slice za zk zc,.int .i64 ps]:=setCell_row P3 4 _
    have O4:=P3.row #[.int .u8 k,.string (gR fr tt nm),.string (gR fr tt ot),.slice s3 nk t3,.slice s4 mk t4,.slice za zk zc,.int .i64 ps]
    have B4:=Below.of_row D3 (g:=wr.heap.size) (Nat.le_refl _) #[.int .u8 k,.string (gR fr tt nm),.string (gR fr tt ot),.slice s3 nk t3,.slice s4 mk t4,.slice za zk zc,.int .i64 ps]
    have hx3:=exsAt_rf (B':=wr.heap.size+1) (exsAt_rf (B':=wr.heap.size+1) hx3 (chg_below hb) (Nat.le_refl _)) (chg_setRow w3 #[.int .u8 k,.string (gR fr tt nm),.string (gR fr tt ot),.slice s3 nk t3,.slice s4 mk t4,.slice za zk zc,.int .i64 ps] (g:=wr.heap.size) (by omega)) (Nat.le_refl _)
    have hx4:=stsAt_rf (B':=wr.heap.size+1) hx4 (chg_setRow w3 #[.int .u8 k,.string (gR fr tt nm),.string (gR fr tt ot),.slice s3 nk t3,.slice s4 mk t4,.slice za zk zc,.int .i64 ps] (g:=wr.heap.size) (by have:=hz3.out;omega)) (by have:=hz3.out;omega)
    obtain ⟨X4,hX4⟩:∃ X,X=w3.setRow wr.heap.size #[.int .u8 k,.string (gR fr tt nm),.string (gR fr tt ot),.slice s3 nk t3,.slice s4 mk t4,.slice za zk zc,.int .i64 ps]:=⟨_,rfl⟩
    rw [← hX4] at e3 O4 B4 hx3 hx4
    have hz4:Hid (wr.heap.size+1≤X4.heap.size):=by have:=O4.lt;exact this
    have HB4:Hid (Below w.heap.size w X4):=HB.out.trans (B4.mono HB.out.size)
    have OX4:=HXO.out.below B4
    clear hX4 hb O3 P3 D3 B3
    have d3:X4.cell? ⟨wr.heap.size,5,none⟩=some (.slice za zk zc):=by rw [cell_of_row _ _ 5 _ _ _ O4];rfl
    go_wp2_with (refine ld rowTu rfl rfl rfl OX4 rfl ?_)
    clear OX4
    go_at_call 64
    refine (HC5.out _ HB4.out).mono ?_
    rintro e w4 ⟨s5,t5,rfl,hx5,hb⟩
    have P4:=O4.below hb
    have D4:Below wr.heap.size wr w4:=B4.trans (hb.mono (by have:=B4.size;omega))
    have c4:w4.cell? ⟨wr.heap.size,5,none⟩=some (.slice za zk zc):=by rw [cell_of_row _ _ 5 _ _ _ P4];rfl
    have f4:=own_frozen P4 5
    have e4:w4.setCell ⟨wr.heap.size,5,none⟩ (.slice s5 zk t5)=w4.setRow wr.heap.size #[.int .u8 k,.string (gR fr tt nm),.string (gR fr tt ot),.slice s3 nk t3,.slice s4 mk t4,.slice s5 zk t5,.int .i64 ps]:=setCell_row P4 5 _
    have O5:=P4.row #[.int .u8 k,.string (gR fr tt nm),.string (gR fr tt ot),.slice s3 nk t3,.slice s4 mk t4,.slice s5 zk t5,.int .i64 ps]
    have B5:=Below.of_row D4 (g:=wr.heap.size) (Nat.le_refl _) #[.int .u8 k,.string (gR fr tt nm),.string (gR fr tt ot),.slice s3 nk t3,.slice s4 mk t4,.slice s5 zk t5,.int .i64 ps]
    have hx3:=exsAt_rf (B':=wr.heap.size+1) (exsAt_rf (B':=wr.heap.size+1) hx3 (chg_below hb) (Nat.le_refl _)) (chg_setRow w4 #[.int .u8 k,.string (gR fr tt nm),.string (gR fr tt ot),.slice s3 nk t3,.slice s4 mk t4,.slice s5 zk t5,.int .i64 ps] (g:=wr.heap.size) (by omega)) (Nat.le_refl _)
    have hx4:=stsAt_rf (B':=wr.heap.size+1) (stsAt_rf (B':=wr.heap.size+1) hx4 (chg_below hb) (Nat.le_refl _)) (chg_setRow w4 #[.int .u8 k,.string (gR fr tt nm),.string (gR fr tt ot),.slice s3 nk t3,.slice s4 mk t4,.slice s5 zk t5,.int .i64 ps] (g:=wr.heap.size) (by omega)) (Nat.le_refl _)
    have hx5:=stsAt_rf (B':=wr.heap.size+1) hx5 (chg_setRow w4 #[.int .u8 k,.string (gR fr tt nm),.string (gR fr tt ot),.slice s3 nk t3,.slice s4 mk t4,.slice s5 zk t5,.int .i64 ps] (g:=wr.heap.size) (by have:=hz4.out;omega)) (by have:=hz4.out;omega)
    obtain ⟨X5,hX5⟩:∃ X,X=w4.setRow wr.heap.size #[.int .u8 k,.string (gR fr tt nm),.string (gR fr tt ot),.slice s3 nk t3,.slice s4 mk t4,.slice s5 zk t5,.int .i64 ps]:=⟨_,rfl⟩
    rw [← hX5] at e4 O5 B5 hx3 hx4 hx5
    have hz5:Hid (wr.heap.size+1≤X5.heap.size):=by have:=O5.lt;exact this
    have HB5:Hid (Below w.heap.size w X5):=HB.out.trans (B5.mono HB.out.size)
    have OX5:=HXO.out.below B5
    clear hX5 hb O4 P4 D4 B4
    have d4:X5.cell? ⟨wr.heap.size,6,none⟩=some (.int .i64 ps):=by rw [cell_of_row _ _ 6 _ _ _ O5];rfl
    go_wp2_with (refine ld rowTu rfl rfl rfl OX5 rfl ?_)
    clear OX5
    go_at_call 65
    refine (HAT.out _ _).mono ?_
    rintro e w5 ⟨rfl,hb⟩
    have P5:=O5.below hb
    have D5:Below wr.heap.size wr w5:=B5.trans (hb.mono (by have:=B5.size;omega))
    have c5:w5.cell? ⟨wr.heap.size,6,none⟩=some (.int .i64 ps):=by rw [cell_of_row _ _ 6 _ _ _ P5];rfl
    have f5:=own_frozen P5 6
    have e5:w5.setCell ⟨wr.heap.size,6,none⟩ (.int .i64 (hR st ps))=w5.setRow wr.heap.size #[.int .u8 k,.string (gR fr tt nm),.string (gR fr tt ot),.slice s3 nk t3,.slice s4 mk t4,.slice s5 zk t5,.int .i64 (hR st ps)]:=setCell_row P5 6 _
    have O6:=P5.row #[.int .u8 k,.string (gR fr tt nm),.string (gR fr tt ot),.slice s3 nk t3,.slice s4 mk t4,.slice s5 zk t5,.int .i64 (hR st ps)]
    have B6:=Below.of_row D5 (g:=wr.heap.size) (Nat.le_refl _) #[.int .u8 k,.string (gR fr tt nm),.string (gR fr tt ot),.slice s3 nk t3,.slice s4 mk t4,.slice s5 zk t5,.int .i64 (hR st ps)]
    have hx3:=exsAt_rf (B':=wr.heap.size+1) (exsAt_rf (B':=wr.heap.size+1) hx3 (chg_below hb) (Nat.le_refl _)) (chg_setRow w5 #[.int .u8 k,.string (gR fr tt nm),.string (gR fr tt ot),.slice s3 nk t3,.slice s4 mk t4,.slice s5 zk t5,.int .i64 (hR st ps)] (g:=wr.heap.size) (by omega)) (Nat.le_refl _)
    have hx4:=stsAt_rf (B':=wr.heap.size+1) (stsAt_rf (B':=wr.heap.size+1) hx4 (chg_below hb) (Nat.le_refl _)) (chg_setRow w5 #[.int .u8 k,.string (gR fr tt nm),.string (gR fr tt ot),.slice s3 nk t3,.slice s4 mk t4,.slice s5 zk t5,.int .i64 (hR st ps)] (g:=wr.heap.size) (by omega)) (Nat.le_refl _)
    have hx5:=stsAt_rf (B':=wr.heap.size+1) (stsAt_rf (B':=wr.heap.size+1) hx5 (chg_below hb) (Nat.le_refl _)) (chg_setRow w5 #[.int .u8 k,.string (gR fr tt nm),.string (gR fr tt ot),.slice s3 nk t3,.slice s4 mk t4,.slice s5 zk t5,.int .i64 (hR st ps)] (g:=wr.heap.size) (by omega)) (Nat.le_refl _)
    obtain ⟨X6,hX6⟩:∃ X,X=w5.setRow wr.heap.size #[.int .u8 k,.string (gR fr tt nm),.string (gR fr tt ot),.slice s3 nk t3,.slice s4 mk t4,.slice s5 zk t5,.int .i64 (hR st ps)]:=⟨_,rfl⟩
    rw [← hX6] at e5 O6 B6 hx3 hx4 hx5
    have hz6:Hid (wr.heap.size+1≤X6.heap.size):=by have:=O6.lt;exact this
    have HB6:Hid (Below w.heap.size w X6):=HB.out.trans (B6.mono HB.out.size)
    have OX6:=HXO.out.below B6
    clear hX6 hb O5 P5 D5 B5
    have SV3:=stsV_stays (R':=RR (w.heap.size+1) (.slice oa i cap) X6) (stays_below B6) (fun b hb=>rr_below B6 hb) SV.out
    have hq:∀ b,Rf (wr.heap.size+1) X6 b∧b<X6.heap.size→RR (w.heap.size+1) (.slice oa i cap) X6 b:=fun b hb=>⟨by have:=HB.out.size;have:=hb.1.1;omega,hb.1.2,fun e=>by have:=(ROW.out.lt b e).2;have:=hb.1.1;omega,hb.2⟩
    have NV:stV (RR (w.heap.size+1) (.slice oa i cap) X6) X6 (St.tu (gR fr tt) (hR st) (.mk k nm ot es bo el ps)) [.int .u8 k,.string (gR fr tt nm),.string (gR fr tt ot),.slice s3 nk t3,.slice s4 mk t4,.slice s5 zk t5,.int .i64 (hR st ps)]:=by
     exact ⟨s3,t3,s4,t4,s5,t5,by rw [HL3.out,HL4.out,HL5.out];rfl,exsAt_mono (exsAt_in hx3) hq,stsAt_mono (stsAt_in hx4) hq,stsAt_mono (stsAt_in hx5) hq⟩
    have SVN:=stsV_snoc SV3 NV
    rw [← HTK.out] at SVN
    have SVN:=Lib.hid (stsV_stays (R':=RR (w.heap.size+1) (.slice oa i cap) (X6.alloc (.cells #[.int .u8 k,.string (gR fr tt nm),.string (gR fr tt ot),.slice s3 nk t3,.slice s4 mk t4,.slice s5 zk t5,.int .i64 (hR st ps)] 78))) (stays_alloc _ X6 (.cells #[.int .u8 k,.string (gR fr tt nm),.string (gR fr tt ot),.slice s3 nk t3,.slice s4 mk t4,.slice s5 zk t5,.int .i64 (hR st ps)] 78)) (fun b hb=>rr_below ((Below.refl _ X6).alloc (Nat.le_refl _) _) hb) SVN)
    have row4:=(row_below ROW.out B6).alloc (.cells #[.int .u8 k,.string (gR fr tt nm),.string (gR fr tt ot),.slice s3 nk t3,.slice s4 mk t4,.slice s5 zk t5,.int .i64 (hR st ps)] 78)
    obtain ⟨i0,hi0',hi0,hi1,hi2⟩:=info_parts infoSt
    have N4:=Own.new X6 78 #[.int .u8 k,.string (gR fr tt nm),.string (gR fr tt ot),.slice s3 nk t3,.slice s4 mk t4,.slice s5 zk t5,.int .i64 (hR st ps)]
    have HNEWS:Hid (∀ jj u,[.int .u8 k,.string (gR fr tt nm),.string (gR fr tt ot),.slice s3 nk t3,.slice s4 mk t4,.slice s5 zk t5,.int .i64 (hR st ps)][jj]? = some u→(X6.alloc (.cells #[.int .u8 k,.string (gR fr tt nm),.string (gR fr tt ot),.slice s3 nk t3,.slice s4 mk t4,.slice s5 zk t5,.int .i64 (hR st ps)] 78)).cell? ((⟨X6.heap.size,0,none⟩:Addr).add jj)=some u):=World.news_of_block N4
    have HSZ:=Lib.hid (World.size_alloc X6 (.cells #[.int .u8 k,.string (gR fr tt nm),.string (gR fr tt ot),.slice s3 nk t3,.slice s4 mk t4,.slice s5 zk t5,.int .i64 (hR st ps)] 78))
    have HBA:Hid (Below w.heap.size w (X6.alloc (.cells #[.int .u8 k,.string (gR fr tt nm),.string (gR fr tt ot),.slice s3 nk t3,.slice s4 mk t4,.slice s5 zk t5,.int .i64 (hR st ps)] 78))):=HB6.out.alloc HB6.out.size _
    have HOXA:=Lib.hid (OX6.alloc (.cells #[.int .u8 k,.string (gR fr tt nm),.string (gR fr tt ot),.slice s3 nk t3,.slice s4 mk t4,.slice s5 zk t5,.int .i64 (hR st ps)] 78))
    clear SV3 NV hq N4 B6 OX6 hx3 hx4 hx5
    go_wp2_with (first | (refine ld rowSt rfl rfl rfl O6 rfl ?_) | (at_builtin;refine wpList_append_lies _ rfl _ _ 58 rfl (w.heap.size+1) 78 i0 _ 7 120 Tryz.underlying58 hi0' hi0 hi1 hi2 rfl (by decide) _ _ _ rfl row4 ⟨X6.heap.size,0,none⟩ 1 1 [.int .u8 k,.string (gR fr tt nm),.string (gR fr tt ot),.slice s3 nk t3,.slice s4 mk t4,.slice s5 zk t5,.int .i64 (hR st ps)] rfl rfl HNEWS.out (by simp [Value.oneCell']) (by decide) (by simp only [maxLen];omega) (by omega) (by rw [HSZ.out];have:=HB6.out.size;omega) _ rfl ?_;intro g2 cap2 w9 hown' hgrow hlies hglt;have ROW4:=Lib.hid hown';have GR:=Lib.hid hgrow;have LIES:=Lib.hid hlies;clear hown' hgrow hlies))
    go_roundg (n-(i+1)+1)
    case measure=>have:=HM.out;omega
    case rel =>
     refine ⟨i+1,_,_,_,rfl,rfl,by omega,by omega,ROW4.out,?_,HBA.out.grown GR.out HBA.out.size (fun r hr=>by have:=(row4.lt r hr).1;omega),own_grown HOXA.out GR.out (fun e=>by have:=(row4.lt _ e).1;omega)⟩
     exact stsV_stays (stays_grown GR.out (fun b hb e=>hb.2.2.1 e)) (fun b hb=>rr_grown GR.out rfl LIES.out hb) SVN.out
  · have : i = n := by omega
    subst this
    obtain ⟨oa',cap',hv,hoa⟩:=row_shape ROW.out
    have HFIN:Hid (stsAt (Rf w.heap.size wr) wr (stsTu (gR fr tt) (hR st) l) oa):=by
     have hT:l.take i=l:=List.take_of_length_le (by have:=HN.out;omega)
     have hsv:=SV.out
     rw [hT,← stsTu_map] at hsv
     by_cases h0:i=0
     · have : l = [] := List.eq_nil_of_length_eq_zero (by have := HN.out; omega)
       rw [this];exact .inl rfl
     · have hr9 := ROW.out
       rcases hr9.2 with ⟨_,h9⟩ | ⟨g,cap9,cur,he,hbg,hg,_⟩
       · exact absurd h9 h0
       · have e9 : oa = some ⟨g, 0, none⟩ := by injection he
         subst e9
         exact .inr ⟨g,0,rfl,⟨by omega,fun o=>hr9.frozenAt o⟩,stsIn_of (stsV_stays (R':=Rf w.heap.size wr) (Stays.refl _ _) (fun b hb=>⟨by have:=hb.1;omega,hb.2.1⟩) hsv) (row_cells hr9 rfl)⟩
    clear hv hoa
    go_wp2_with fail
    go_ret
    exact ⟨oa,cap,rfl,HFIN.out,HB.out⟩
theorem tu_subs {st:Bool} {fr tt:ByteArray} : ∀ l:List St,∀ x∈l,TuS st fr tt x.body∧TuS st fr tt x.els:=by
 intro l
 induction l using Sts.ind with
 | h0=>intro x hx;cases hx
 | h1 k n o e b l a r hb hl hr =>
   intro x hx
   rcases List.mem_cons.1 hx with rfl | hx
   · exact ⟨tu_sts hb (r_turnExprs st fr tt),tu_sts hl (r_turnExprs st fr tt)⟩
   · exact hr x hx
theorem r_turnStmts (st:Bool) (fr tt:ByteArray) (l:List St):TuS st fr tt l:=tu_sts (tu_subs l) (r_turnExprs st fr tt)
end Go.Proofs.YtimccjlhhjjcpaaGreatDoor

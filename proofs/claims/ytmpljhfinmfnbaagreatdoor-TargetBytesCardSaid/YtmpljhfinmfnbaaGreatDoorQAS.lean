/- The proof, part 19: texts that belong together, in one. -/
import Derived.Test.YtmpljhfinmfnbaaGreatDoorQAR
import Derived.Test.YtmpljhfinmfnbaaGreatDoorQAP
set_option maxRecDepth 100000
set_option maxHeartbeats 20000000
namespace Go.Proofs.YtmpljhfinmfnbaaGreatDoor
open Go.RowKit
set_option linter.unusedVariables false
set_option maxRecDepth 100000
structure RpP (p:Nat) (L:List UInt8) (a:Option Addr) (c n:Nat) (b:Bool) (W:World):Prop where
 own:Own W p 86 #[.slice a L.length c,.int .i64 (n:Int),.bool b]
 bys:BsA p W L a
 cap:L.length≤c
 mx:L.length≤1152921504606846976
 le:n≤L.length
section
variable {w W W':World} {p:Nat} {L:List UInt8} {a:Option Addr} {c n:Nat} {b:Bool}
theorem RpP.lt (h:RpP p L a c n b W):p<W.heap.size:=h.own.lt
theorem RpP.keep (h:RpP p L a c n b W) (hb:∀ k,k≤p→W'.heap[k]? = W.heap[k]?):RpP p L a c n b W':=by
 obtain ⟨h1,h2,h3,h4,h5⟩:=h
 refine ⟨(hb p (Nat.le_refl _)).trans h1,?_,h3,h4,h5⟩
 rcases h2 with h | ⟨g,q,e,hg,h⟩
 · exact .inl h
 · exact .inr ⟨g,q,e,hg,fun j x hj=>(World.cell?_of_block (hb g (Nat.le_of_lt hg))).trans (h j x hj)⟩
theorem RpP.below (h:RpP p L a c n b W) (hb:Below W.heap.size W W'):RpP p L a c n b W':=h.keep fun k hk=>hb.block k (Nat.lt_of_le_of_lt hk h.lt)
theorem RpP.bad (h:RpP p L a c n b W):RpP p L a c n true (W.setCell ⟨p,2,none⟩ (.bool true)) :=
 ⟨heap_setCell_same W p 2 _ _ _ h.own,by
  rcases h.bys with e | ⟨g,q,e,hg,hb⟩
  · exact .inl e
  · exact .inr ⟨g,q,e,hg,fun j x hj=>(World.cell?_of_block (w':=W.setCell ⟨p,2,none⟩ (.bool true)) (w:=W) (Below.heap_setCell W ⟨p,2,none⟩ _ g (by show g≠p;omega))).trans (hb j x hj)⟩,h.cap,h.mx,h.le⟩
theorem RpP.at (h:RpP p L a c n b W) {m:Nat} (hm:m≤L.length):RpP p L a c m b (W.setCell ⟨p,1,none⟩ (.int .i64 (m:Int))) :=
 ⟨heap_setCell_same W p 1 _ _ _ h.own,by
  rcases h.bys with e | ⟨g,q,e,hg,hb⟩
  · exact .inl e
  · exact .inr ⟨g,q,e,hg,fun j x hj=>(World.cell?_of_block (w':=W.setCell ⟨p,1,none⟩ (.int .i64 (m:Int))) (w:=W) (Below.heap_setCell W ⟨p,1,none⟩ _ g (by show g≠p;omega))).trans (hb j x hj)⟩,h.cap,h.mx,hm⟩
structure Rdq (w:World) (p:Nat) (L:List UInt8) (a:Option Addr) (c:Nat) (n:Nat) (b:Bool) (W:World):Prop where
 st:RpP p L a c n b W
 keep:Keep (fun k _=>k≠p) w W
theorem rdq_new (h:RpP p L a c n b w):Rdq w p L a c n b w:=⟨h,Keep.refl _ _⟩
theorem Rdq.below (h:Rdq w p L a c n b W) (hb:Below W.heap.size W W'):Rdq w p L a c n b W':=⟨h.st.below hb,h.keep.trans (keep_below hb)⟩
theorem Rdq.bad (h:Rdq w p L a c n b W):Rdq w p L a c n true (W.setCell ⟨p,2,none⟩ (.bool true)):=⟨h.st.bad,h.keep.trans ((Keep.refl _ _).setCell (p:=⟨p,2,none⟩) _ h.st.own (fun q=>q rfl))⟩
theorem Rdq.at (h:Rdq w p L a c n b W) {m:Nat} (hm:m≤L.length):Rdq w p L a c m b (W.setCell ⟨p,1,none⟩ (.int .i64 (m:Int))):=⟨h.st.at hm,h.keep.trans ((Keep.refl _ _).setCell (p:=⟨p,1,none⟩) _ h.st.own (fun q=>q rfl))⟩
def Rds (w:World) (p:Nat) (L:List UInt8) (a:Option Addr) (c:Nat) (s:Bst) (W:World):Prop:=∃ m d,s=(L.drop m,d)∧Rdq w p L a c m d W
theorem Rds.mk {m:Nat} {d:Bool} {s:Bst} (h:Rdq w p L a c m d W) (e:s=(L.drop m,d)):Rds w p L a c s W:=⟨m,d,e,h⟩
end
theorem rd_number {w:World} {p:Nat} {L:List UInt8} {a:Option Addr} {c n0:Nat} {b:Bool} (h:RpP p L a c n0 b w) :
 Calls Tryz.prog 77 #[.pointer (some ⟨p,0,none⟩)] w fun e w'=>e=.returned (.int .u64 ((nuR (L.drop n0,b)).1:Int))∧Rds w p L a c (nuR (L.drop n0,b)).2 w':=by
 have HP:=Lib.hid h
 clear h
 go_enter Tryz.func77,Tryz.ntmps77
 go_wp2_with fail
 go_loopg [3,4] 11 (fun m' y z X=>∃ (j n v:Nat),y=.int .u64 (v:Int)∧z=.int .i64 (j:Int)∧j≤10∧m'=11-j∧v<18446744073709551616∧nuA 10 (L.drop n0) 0 0=nuA (10-j) (L.drop n) j v∧Rdq w p L a c n b X)
 case atStart=>exact ⟨0,n0,0,rfl,rfl,by decide,rfl,by decide,rfl,rdq_new HP.out⟩
 case round =>
  obtain ⟨j,n,v,rfl,rfl,hj,hm,hv,he,hq⟩:=hrel
  have HM:=Lib.hid hm
  have HE:=Lib.hid he
  have HV:=Lib.hid hv
  have HQ:=Lib.hid hq
  clear hm he hv hq
  by_cases hjn:j<10
  · have hjj : (j : Int) < 10 := by omega
    have p0:wr.cell? ⟨p,0,none⟩=some (.slice a L.length c):=by rw [cell_of_row _ _ 0 _ _ _ HQ.out.st.own];rfl
    have p1:wr.cell? ⟨p,1,none⟩=some (.int .i64 (n:Int)):=by rw [cell_of_row _ _ 1 _ _ _ HQ.out.st.own];rfl
    have hle:=HQ.out.st.le
    have hmx:=HQ.out.st.mx
    have hcp:=HQ.out.st.cap
    go_wp2_with fail
    go_quiet (fail)
    have HZ:=Lib.hid (HQ.out.below (below_drewN (Below.refl _ wr) nq))
    clear p0 p1
    generalize World.drewN wr nq=w5 at HZ ⊢
    have p0:w5.cell? ⟨p,0,none⟩=some (.slice a L.length c):=by rw [cell_of_row _ _ 0 _ _ _ HZ.out.st.own];rfl
    have p1:w5.cell? ⟨p,1,none⟩=some (.int .i64 (n:Int)):=by rw [cell_of_row _ _ 1 _ _ _ HZ.out.st.own];rfl
    have p2:w5.cell? ⟨p,2,none⟩=some (.bool b):=by rw [cell_of_row _ _ 2 _ _ _ HZ.out.st.own];rfl
    have q2:w5.frozen? ⟨p,2,none⟩=false:=own_frozen HZ.out.st.own 2
    by_cases hn:n<L.length
    · have hnn : ¬ L.length ≤ n := by omega
      obtain ⟨x,hx⟩:∃ x,L[n]? = some x:=⟨_,List.getElem?_eq_getElem hn⟩
      have hdr:L.drop n=x::L.drop (n+1):=by
       rw [List.drop_eq_getElem_cons hn]
       rw [List.getElem?_eq_getElem hn] at hx
       injection hx with hx
       rw [hx]
      rcases HZ.out.st.bys with e | ⟨g,q,e,hg,hb⟩
      · rw [e] at hn;simp at hn
      subst e
      have p3:=hb n x hx
      have hx2:x.toNat<256:=x.toNat_lt
      obtain ⟨f,hf⟩:∃ f,10-j=f+1:=⟨10-(j+1),by omega⟩
      have hf2:f=10-(j+1):=by omega
      obtain ⟨xn,hxn⟩:∃ n,n=x.toNat:=⟨_,rfl⟩
      obtain ⟨d,hd⟩:∃ d,d=xn % 128:=⟨_,rfl⟩
      obtain ⟨e,he⟩:∃ e,e=d <<< (7*j) % 18446744073709551616:=⟨_,rfl⟩
      obtain ⟨m,hm⟩:∃ m,m=v ||| e:=⟨_,rfl⟩
      have HEQ:Hid (nuA 10 (L.drop n0) 0 0=if j=9∧1<xn then (0,(L.drop (n+1),true)) else if xn≤127 then (m,(L.drop (n+1),decide (xn=0∧0<j))) else nuA (10-(j+1)) (L.drop (n+1)) (j+1) m):=by
       rw [Hid,HE.out,hf,hdr,← hf2,hm,he,hd,hxn]
       rfl
      have el:e<18446744073709551616:=by rw [he];exact Nat.mod_lt _ (by decide)
      have ml:m<18446744073709551616:=by rw [hm];exact Nat.or_lt_two_pow (n:=64) HV.out el
      have hor:=bits_or_u64_nat v e HV.out el
      rw [← hm] at hor
      rw [← hxn] at p3 hx2
      have e1:IntKind.u64.wrap (bits BinOp.and IntKind.u8 (xn:Int) 127)=((xn % 128:Nat):Int):=by
       rw [and_dig xn hx2,IntKind.wrap_u64]
       omega
      rw [← hd] at e1
      have ev:IntKind.u64.wrap ((d:Int)*2 ^ (j*7))=(e:Int):=by
       rw [he,IntKind.wrap_u64,Nat.shiftLeft_eq,Nat.mul_comm 7 j,Int.natCast_emod,Int.natCast_mul,Int.natCast_pow]
       rfl
      have E9:Hid (j=9→IntKind.u64.wrap ((d:Int)*9223372036854775808)=(e:Int)):=fun q=>by
       rw [← ev,q]
       rfl
      have hs0:∀ W:World,(Op.shift .shl .u64 (d:Int) .i64 ((j:Int)*7)).run Tryz.prog W=.ok (.int .u64 ((d <<< (7*j) % 18446744073709551616:Nat):Int)) W:=fun W=>shl_run d j W
      have hs1:∀ W:World,(Op.shift .shl .u64 (d:Int) .u64 ((j:Int)*7)).run Tryz.prog W=.ok (.int .u64 (e:Int)) W:=fun W=>by rw [he];exact shl_run d j W
      have e2:IntKind.u64.wrap ((j:Int)*7)=(j:Int)*7:=by rw [IntKind.wrap_u64];omega
      have e3:IntKind.u64.wrap (7*(j:Int))=(j:Int)*7:=by rw [IntKind.wrap_u64];omega
      have HM2:=Lib.hid ml
      clear hx hdr hb hf hf2 hxn he hm hd el ml hs0
      go_upto_region 8 with (fail)
      go_quiet (fail)
      have HY:=Lib.hid (HZ.out.below (below_drewN (Below.refl _ w5) nq))
      clear p0 p1 p2 p3 q2 HZ
      generalize World.drewN w5 nq=w8 at HY ⊢
      have p1:w8.cell? ⟨p,1,none⟩=some (.int .i64 (n:Int)):=by rw [cell_of_row _ _ 1 _ _ _ HY.out.st.own];rfl
      have q1:w8.frozen? ⟨p,1,none⟩=false:=own_frozen HY.out.st.own 1
      go_upto_region 10 with (fail)
      have HX:Hid (Rdq w p L (some ⟨g,q,none⟩) c (n+1) b (w8.setCell ⟨p,1,none⟩ (.int .i64 ((n+1:Nat):Int)))):=HY.out.at hn
      have hc1:(((n+1:Nat):Int))=(n:Int)+1:=by omega
      rw [hc1] at HX
      generalize w8.setCell ⟨p,1,none⟩ (.int .i64 ((n:Int)+1))=w9 at HX ⊢
      clear p1 q1 HY
      have p2:w9.cell? ⟨p,2,none⟩=some (.bool b):=by rw [cell_of_row _ _ 2 _ _ _ HX.out.st.own];rfl
      have q2:w9.frozen? ⟨p,2,none⟩=false:=own_frozen HX.out.st.own 2
      by_cases h9:j=9∧1<xn
      · rw [Hid, if_pos h9] at HEQ
        have hr:nuR (L.drop n0,b)=(0,(L.drop (n+1),true)):=by
         unfold nuR
         simp only
         rw [HEQ]
         simp
        have HR:=Lib.hid hr
        clear hr HEQ
        obtain ⟨rfl,h9⟩:=h9
        have h9':(xn:Int) > 1:=by omega
        go_wp2_with (fail)
        go_ret
        rw [HR.out]
        exact ⟨rfl,.mk HX.out.bad rfl⟩
      · rw [Hid, if_neg h9] at HEQ
        have HEQ:=Lib.hid HEQ
        have hcd:(decide ((j:Int)=9)&&decide ((xn:Int) > 1))=false:=by
         simp only [Bool.and_eq_false_imp,decide_eq_true_eq,decide_eq_false_iff_not]
         omega
        have HG9:Hid ((j:Int)≠9∨¬ (xn:Int) > 1∧(j:Int)=9):=by
         show _∨_
         omega
        rcases HG9.out with h10 | ⟨h11,h10⟩
        · go_upto_region 14 with (fail)
          by_cases h7:xn≤127
          · have HE7 : Hid (nuA 10 (L.drop n0) 0 0 = (m, (L.drop (n + 1), decide (xn = 0 ∧ 0 < j)))) := by
             rw [Hid,HEQ.out,if_pos h7]
            have h8:(xn:Int)<128:=by omega
            by_cases hz:xn=0∧0<j
            · have hr : nuR (L.drop n0, b) = (m, (L.drop (n + 1), true)) := by
               unfold nuR
               simp only
               rw [HE7.out]
               simp [hz]
              have HR:=Lib.hid hr
              clear hr
              obtain ⟨hz1,hz2⟩:=hz
              have hz3:(xn:Int)=0:=by omega
              have hz4:(j:Int) > 0:=by omega
              go_wp2_with (fail)
              go_ret
              rw [HR.out]
              exact ⟨rfl,.mk HX.out.bad rfl⟩
            · have hr : nuR (L.drop n0, b) = (m, (L.drop (n + 1), b)) := by
               unfold nuR
               simp only
               rw [HE7.out]
               simp only [hz,decide_false,Bool.or_false]
              have HR:=Lib.hid hr
              clear hr
              by_cases hz1:xn=0
              · have hz3 : (xn : Int) = 0 := by omega
                have hz4:¬ (j:Int) > 0:=by omega
                go_wp2_with (fail)
                go_ret
                rw [HR.out]
                exact ⟨rfl,.mk HX.out rfl⟩
              · have hz3 : ¬ (xn : Int) = 0 := by omega
                go_wp2_with (fail)
                go_ret
                rw [HR.out]
                exact ⟨rfl,.mk HX.out rfl⟩
          · have h8 : ¬ (xn : Int) < 128 := by omega
            have HE7:Hid (nuA 10 (L.drop n0) 0 0=nuA (10-(j+1)) (L.drop (n+1)) (j+1) m):=by
             rw [Hid,HEQ.out,if_neg h7]
            go_wp2_with (fail)
            go_roundg (11-(j+1))
            case measure=>have:=HM.out;omega
            case rel=>exact ⟨j+1,n+1,m,rfl,by simp,by omega,rfl,HM2.out,HE7.out,HX.out⟩
        · obtain rfl : j = 9 := by omega
          go_upto_region 14 with (fail)
          rw [E9.out rfl,hor]
          have h12:xn≤1:=by omega
          have HE7:Hid (nuA 10 (L.drop n0) 0 0=(m,(L.drop (n+1),decide (xn=0)))):=by
           rw [Hid,HEQ.out,if_pos (by omega)]
           simp
          have h8:(xn:Int)<128:=by omega
          by_cases hz:xn=0
          · have hr : nuR (L.drop n0, b) = (m, (L.drop (n + 1), true)) := by
             unfold nuR
             simp only
             rw [HE7.out]
             simp [hz]
            have HR:=Lib.hid hr
            clear hr
            have hz3:(xn:Int)=0:=by omega
            go_wp2_with (fail)
            go_ret
            rw [HR.out]
            exact ⟨rfl,.mk HX.out.bad rfl⟩
          · have hr : nuR (L.drop n0, b) = (m, (L.drop (n + 1), b)) := by
             unfold nuR
             simp only
             rw [HE7.out]
             simp [hz]
            have HR:=Lib.hid hr
            clear hr
            have hz3:¬ (xn:Int)=0:=by omega
            go_wp2_with (fail)
            go_ret
            rw [HR.out]
            exact ⟨rfl,.mk HX.out rfl⟩
    · have hnn : L.length ≤ n := by omega
      have hr:nuR (L.drop n0,b)=(0,(L.drop n,true)):=by
       obtain ⟨f,hf⟩:∃ f,10-j=f+1:=⟨10-(j+1),by omega⟩
       unfold nuR
       simp only
       rw [HE.out,hf,List.drop_eq_nil_of_le hnn]
       simp [nuA]
      have HR:=Lib.hid hr
      clear hr
      go_wp2_with fail
      go_ret
      rw [HR.out]
      exact ⟨rfl,.mk HZ.out.bad rfl⟩
  · obtain rfl : j = 10 := by omega
    have q2:wr.frozen? ⟨p,2,none⟩=false:=own_frozen HQ.out.st.own 2
    have p2:wr.cell? ⟨p,2,none⟩=some (.bool b):=by rw [cell_of_row _ _ 2 _ _ _ HQ.out.st.own];rfl
    go_wp2_with fail
    go_ret
    have hr:nuR (L.drop n0,b)=(0,(L.drop n,true)):=by
     unfold nuR
     simp only
     rw [HE.out]
     unfold nuA
     simp
    rw [hr]
    exact ⟨rfl,.mk HQ.out.bad rfl⟩
open Go.RowKit
set_option linter.unusedVariables false
set_option maxRecDepth 100000
theorem begun_any (s:ByteArray) (w:World) (T:TgT w):Calls Tryz.prog 173 #[.string s] w fun e w'=>e=begE (begS s.data.toList)∧Below w.heap.size w w':=by
 have al:Below w.heap.size w (w.alloc (.cells (insC (insK 0 0)).toArray 75)):=(Below.refl _ w).alloc (Nat.le_refl _) _
 have O0:=Own.new w 75 (insC (insK 0 0)).toArray
 obtain ⟨W0,hW0⟩:∃ W,W=w.alloc (.cells (insC (insK 0 0)).toArray 75):=⟨_,rfl⟩
 rw [← hW0] at al O0
 have T0:=T.below al
 have HT0:=Lib.hid T0
 have HB0:=Lib.hid al
 have HO0:=Lib.hid O0
 have HW0:=Lib.hid hW0
 have hsz:w.heap.size<W0.heap.size:=O0.lt
 have HXF:Hid (∀ (X:World) (j:Nat),j<11→(Instr.index 227 (.agg #[.string ⟨#[]⟩,.int .u64 0,.string ⟨#[115,101,116]⟩,.int .u64 66,.string ⟨#[]⟩,.int .u64 15,.string ⟨#[108,111,97,100]⟩,.int .u64 18,.string ⟨#[115,116,111,114,101]⟩,.int .u64 20,.string ⟨#[115,119,97,112]⟩,.int .u64 18,.string ⟨#[102,101,110,99,101]⟩,.int .u64 0,.string ⟨#[112,114,105,110,116]⟩,.int .u64 4,.string ⟨#[106,117,109,112]⟩,.int .u64 32,.string ⟨#[122,101,114,111]⟩,.int .u64 36,.string ⟨#[104,97,108,116]⟩,.int .u64 0]) (.int .i64 (j:Int))).run Tryz.prog X=.ok (.agg #[.string ⟨(formTx.getD j []).toArray⟩,.int .u64 (formU j)]) X):=idx_form
 have HXO:Hid (∀ (X:World) (j:Nat),j<19→(Instr.index 253 (.agg #[.string ⟨#[]⟩,.string ⟨#[97,100,100]⟩,.string ⟨#[115,117,98]⟩,.string ⟨#[109,117,108]⟩,.string ⟨#[100,105,118]⟩,.string ⟨#[114,101,109]⟩,.string ⟨#[97,110,100]⟩,.string ⟨#[111,114]⟩,.string ⟨#[120,111,114]⟩,.string ⟨#[115,104,108]⟩,.string ⟨#[115,104,114]⟩,.string ⟨#[105,115]⟩,.string ⟨#[105,115,110,111,116]⟩,.string ⟨#[108,101,115,115]⟩,.string ⟨#[109,111,115,116]⟩,.string ⟨#[97,98,111,118,101]⟩,.string ⟨#[108,101,97,115,116]⟩,.string ⟨#[109,105,110,117,115]⟩,.string ⟨#[110,111,116]⟩]) (.int .i64 (j:Int))).run Tryz.prog X=.ok (.string ⟨(opTx.getD j []).toArray⟩) X):=idx_op
 simp only [insC,insK] at O0 hW0 HW0 HO0
 clear hW0
 have HTW:=Lib.hid T
 obtain ⟨res,hres⟩:∃ r,r=begS s.data.toList:=⟨_,rfl⟩
 rw [← hres]
 unfold begS at hres
 by_cases he:s.data.toList=[]
 · rw [if_pos he] at hres
   subst hres
   obtain rfl:s=⟨#[]⟩:=empty_bytes he
   show Calls _ _ _ _ fun e w'=>e=.returned (.tuple #[insV (insK 0 0),.bool false])∧_
   simp only [insV,insC,insK]
   go_enter Tryz.func173,Tryz.ntmps173
   go_upto_region 1 with (fail)
   rw [← HW0.out]
   clear HW0
   go_wp2_with (refine st rowI rfl rfl O0 rfl rfl (by rfl) (by rfl) (by kernel_rfl) ?_)
   refine p_ret2 rowI rfl (O0.row _) rfl rfl rfl rfl ?_
   exact ⟨rfl,Below.of_row HB0.out (Nat.le_refl _) _⟩
 rw [if_neg he] at hres
 have hne:(s.toList==([]:List UInt8))=false:=by
  have h:=bytes_eqF (a:=s) (b:=⟨#[]⟩) (by rintro rfl;exact he rfl)
  simpa using h
 have HRES:=Lib.hid hres
 clear hres he T al
 go_enter Tryz.func173,Tryz.ntmps173
 go_upto_region 1 with (fail)
 rw [← HW0.out]
 clear HW0
 go_wp2_with (refine ldc rowF rfl rfl rfl (form_cells T0) rfl ?_)
 clear T0 HT0 O0 hne
 go_loopg [12] 12 (fun m' z X=>∃ j:Nat,z=.int .i64 (j:Int)∧j≤11∧m'=11-j+1∧fndF formTx s.data.toList 11 0=fndF formTx s.data.toList (11-j) j∧Own X w.heap.size 75 #[.int .u8 0,.int .u8 0,.int .i64 0,.int .i64 0,.int .i64 0,.int .i64 0,.int .i64 0,.int .i64 0,.int .i64 0]∧Below w.heap.size w X)
 case atStart=>exact ⟨0,rfl,by omega,by omega,rfl,HO0.out,HB0.out⟩
 case round =>
  clear HO0 HB0
  obtain ⟨j,rfl,hj,hm,hf,ho,hb⟩:=hrel
  have HM:=Lib.hid hm
  have HF:=Lib.hid hf
  have HO:=Lib.hid ho
  have HB:=Lib.hid hb
  clear hm hf ho hb
  by_cases hj11:j<11
  · have hx := fun X => HXF.out X j hj11
    have hft:fndF formTx s.data.toList (11-j) j=if formTx.getD j []=s.data.toList then some j else fndF formTx s.data.toList (11-(j+1)) (j+1):=by
     rw [show 11-j=(11-(j+1))+1 by omega];rfl
    obtain ⟨fu,hfu⟩:∃ u,u=formU j:=⟨_,rfl⟩
    obtain ⟨fw,hfw⟩:∃ u:ByteArray,u=⟨(formTx.getD j []).toArray⟩:=⟨_,rfl⟩
    rw [← hfu,← hfw] at hx
    have O3:=Own.new wr 226 #[.string fw,.int .u64 fu]
    have O4:=HO.out.alloc (.cells #[.string fw,.int .u64 fu] 226)
    have B4:=HB.out.alloc HB.out.size (.cells #[.string fw,.int .u64 fu] 226)
    obtain ⟨W3,hW3⟩:∃ W,W=wr.alloc (.cells #[.string fw,.int .u64 fu] 226):=⟨_,rfl⟩
    rw [← hW3] at O3 O4 B4
    have HW3:=Lib.hid hW3
    have d0:W3.cell? ⟨wr.heap.size,0,none⟩=some (.string fw):=by rw [cell_of_row _ _ 0 _ _ _ O3];rfl
    have HB4:=Lib.hid B4
    have HO4:=Lib.hid O4
    clear hW3 O3 B4 HB HO
    have hj':(j:Int)<11:=by omega
    by_cases hq:formTx.getD j []=s.data.toList
    · have q1 : (fw.toList == s.toList) = true := by rw [hfw]; exact eq_text hq
      have hres:res=(insK j 0,true):=by
       have h:=HRES.out
       rw [HF.out,hft,if_pos hq] at h
       exact h
      subst hres
      clear hfw hfu hft HF HRES hq
      show Code.wp _ _ _ _ _
      go_upto_region 6 with (fail)
      rw [← HW3.out]
      clear HW3
      go_wp2_with (refine st rowI rfl rfl O4 rfl rfl (by rfl) (by rfl) (by kernel_rfl) ?_)
      refine p_ret2 rowI rfl (O4.row _) rfl rfl rfl rfl ?_
      exact ⟨rfl,Below.of_row HB4.out (Nat.le_refl _) _⟩
    · have q1 : (fw.toList == s.toList) = false := by rw [hfw]; exact ne_text hq
      have HF2:Hid (fndF formTx s.data.toList 11 0=fndF formTx s.data.toList (11-(j+1)) (j+1)):=by
       rw [Hid,HF.out,hft,if_neg hq]
      clear hfw hfu hft HF hq
      go_upto_region 6 with (fail)
      rw [← HW3.out]
      clear HW3 O4
      go_wp2_with fail
      go_roundg (11-(j+1)+1)
      case measure=>have:=HM.out;omega
      case rel=>exact ⟨j+1,by simp,by omega,by omega,HF2.out,HO4.out,HB4.out⟩
  obtain rfl:j=11:=by omega
  have hn:fndF formTx s.data.toList 11 0=none:=HF.out
  have HRES2:Hid (res=match fndF opTx s.data.toList 19 0 with | some o=>(insK 2 o,true) | none=>(insK 0 0,false)):=by
   have h:=HRES.out
   rw [hn] at h
   exact h
  have T1:=HTW.out.below HB.out
  clear hn HF HRES HXF
  go_wp2_with (refine ldc rowW rfl rfl rfl (op_cells T1) rfl ?_)
  clear T1
  go_loopg [25] 20 (fun m' z X=>∃ j:Nat,z=.int .i64 (j:Int)∧j≤19∧m'=19-j+1∧fndF opTx s.data.toList 19 0=fndF opTx s.data.toList (19-j) j∧Own X w.heap.size 75 #[.int .u8 0,.int .u8 0,.int .i64 0,.int .i64 0,.int .i64 0,.int .i64 0,.int .i64 0,.int .i64 0,.int .i64 0]∧Below w.heap.size w X)
  case atStart=>exact ⟨0,rfl,by omega,by omega,rfl,HO.out,HB.out⟩
  case round =>
   clear HO HB HM
   obtain ⟨j,rfl,hj,hm,hf,ho,hb⟩:=hrel
   have HM:=Lib.hid hm
   have HF:=Lib.hid hf
   have HO:=Lib.hid ho
   have HB:=Lib.hid hb
   clear hm hf ho hb
   by_cases hj19:j<19
   · have hx := fun X => HXO.out X j hj19
     have hft:fndF opTx s.data.toList (19-j) j=if opTx.getD j []=s.data.toList then some j else fndF opTx s.data.toList (19-(j+1)) (j+1):=by
      rw [show 19-j=(19-(j+1))+1 by omega];rfl
     obtain ⟨fw,hfw⟩:∃ u:ByteArray,u=⟨(opTx.getD j []).toArray⟩:=⟨_,rfl⟩
     rw [← hfw] at hx
     have hj':(j:Int)<19:=by omega
     by_cases hq:opTx.getD j []=s.data.toList
     · have q1 : (fw.toList == s.toList) = true := by rw [hfw]; exact eq_text hq
       have hres:res=(insK 2 j,true):=by
        have h:=HRES2.out
        rw [HF.out,hft,if_pos hq] at h
        exact h
       subst hres
       have O4:=HO.out
       clear hfw hft HF HRES2 hq
       go_wp2_with (refine st rowI rfl rfl O4 rfl rfl (by rfl) (by rfl) (by kernel_rfl) ?_)
       refine p_ret2 rowI rfl (O4.row _) rfl rfl rfl rfl ?_
       exact ⟨rfl,Below.of_row HB.out (Nat.le_refl _) _⟩
     · have q1 : (fw.toList == s.toList) = false := by rw [hfw]; exact ne_text hq
       have HF2:Hid (fndF opTx s.data.toList 19 0=fndF opTx s.data.toList (19-(j+1)) (j+1)):=by
        rw [Hid,HF.out,hft,if_neg hq]
       clear hfw hft HF hq
       go_wp2_with fail
       go_roundg (19-(j+1)+1)
       case measure=>have:=HM.out;omega
       case rel=>exact ⟨j+1,by simp,by omega,by omega,HF2.out,HO.out,HB.out⟩
   obtain rfl:j=19:=by omega
   have hn:fndF opTx s.data.toList 19 0=none:=HF.out
   have hres:res=(insK 0 0,false):=by
    have h:=HRES2.out
    rw [hn] at h
    exact h
   subst hres
   have O4:=HO.out
   clear hn HF HRES2 HXO
   go_wp2_with (refine st rowI rfl rfl O4 rfl rfl (by rfl) (by rfl) (by kernel_rfl) ?_)
   refine p_ret2 rowI rfl (O4.row _) rfl rfl rfl rfl ?_
   exact ⟨rfl,Below.of_row HB.out (Nat.le_refl _) _⟩
end Go.Proofs.YtmpljhfinmfnbaaGreatDoor

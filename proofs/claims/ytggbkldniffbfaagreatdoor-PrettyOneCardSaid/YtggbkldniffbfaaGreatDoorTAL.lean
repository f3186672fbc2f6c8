/- The proof, part 12: texts that belong together, in one. -/
import Derived.Test.YtggbkldniffbfaaGreatDoorTAK
import Derived.Deep.LoopGhost
set_option maxRecDepth 100000
set_option maxHeartbeats 20000000
namespace Go.Proofs.YtggbkldniffbfaaGreatDoor
open Go.RowKit
set_option linter.unusedVariables false
theorem wd_bd {c:Par} {w:World} {k:Nat} (R:Rd c w k):0≤(c.nx k).wd∧(c.nx k).wd≤9223372036854775807:=by
 by_cases hk:k<c.toks.length
 · have : c.nx k = (c.toks[k]).tk := by unfold Par.nx; rw [Par.at_lt hk]
   rw [this]
   exact R.s.small.2.2 _ (List.getElem_mem hk)
 · have : c.nx k = ⟨0, ⟨#[]⟩, 0, c.L⟩ := by unfold Par.nx; rw [Par.at_end (by omega)]
   rw [this];exact ⟨Int.le_refl _,by show (0:Int)≤9223372036854775807;decide⟩
def firstP.go (L:Int) (d:Dc) (b:Bool) (ts:List Tk):PR Dc:=(numP L ts).then fun v r=>.ok ⟨d.name,if b then -v else v,d.pos⟩ r
theorem p_first {c:Par} {w:World} {k:Nat} (R:Rd c w k):Calls Tryz.prog 122 #[c.ptr] w (RdPost c w (firstP c.L (c.at k)) (fun d v _=>v=dcVal d)):=by
 have HK:Hid (∀ W,Rd c W k→Calls Tryz.prog 98 #[c.ptr] W (RdPost c W (nameP c.L (c.at k)) (fun d v _=>v=dcVal d))):=fun W RW=>p_name RW
 have HP:Hid (∀ W j (s:ByteArray),Rd c W j→s.data.toList≠[]→Calls Tryz.prog 53 #[c.ptr,.string s] W fun e w'=>e=.returned (.bool (isT s.data.toList (c.at j)))∧Fr c W w'∧Rd c w' (if isT s.data.toList (c.at j)=true then j+1 else j)):=fun W j s RW hs=>p_pass RW s hs
 have HT:Hid (∀ W j,Rd c W j→(c.nx j).kind=3→Calls Tryz.prog 125 #[c.ptr,.int .u8 3] W fun e w'=>e=.returned (tkV (c.nx j))∧Fr c W w'∧Rd c w' (j+1)):=fun W j RW h=>p_kind_ok RW 3 h (nx_lt (.inl (by rw [h];decide)))
 have HU:Hid (∀ W j,Rd c W j→¬ (c.nx j).kind=3→Calls Tryz.prog 125 #[c.ptr,.int .u8 3] W fun e w'=>e=.panicked (flt (hdP c.L (c.at j)) 2)∧Fr c W w'):=fun W j RW h=>p_kind_bad RW 3 h
 obtain ⟨Y,hY⟩:∃ Y,Y=nameP c.L (c.at k):=⟨_,rfl⟩
 unfold firstP
 rw [← hY] at HK ⊢
 have A0:=Lib.hid ((At.start R).alloc (.cells zDc 53))
 have O0:=Own.new w 53 zDc
 have HR:=Lib.hid R
 have hX:=Lib.hid R.lt
 clear hY R
 unfold Par.ptr zDc dcVal tkV at *
 go_enter Tryz.func122,Tryz.ntmps122
 go_wp2_with fail
 go_at_call 98
 refine (HK.out _ (A0.out.rd HR.out)).mono ?_
 rintro e w1 ⟨hf1,hm⟩
 rcases Y with ⟨d0,r0⟩ | ⟨p,q⟩
 rotate_left
 · obtain rfl := hm
   have A1:=Lib.hid (A0.out.fr.trans hf1)
   clear hf1
   go_wp2_with fail
   exact ⟨rfl,A1.out,rfl⟩
 obtain ⟨v1,k1,rfl,rfl,hR1,rfl⟩:=hm
 obtain ⟨dn,dw,dp⟩:=d0
 have hx:=hX.out
 have A1:=Lib.hid ((A0.out.call hf1 hR1).alloc (.cells #[.string dn,.int .i64 dw,.int .i64 dp] 53))
 have O1:=Lib.hid ((O0.fr hf1 (by omega)).alloc (.cells #[.string dn,.int .i64 dw,.int .i64 dp] 53))
 have N1:=Lib.hid (Own.new w1 53 #[.string dn,.int .i64 dw,.int .i64 dp])
 have hw1:=Lib.hid (O0.fr hf1 (by omega)).lt
 clear hf1 hR1 hx O0
 go_wp2_with fail
 by_cases h1:isT [61] (c.at k1)=true
 rotate_left
 · go_at_call 53
   refine (HP.out _ k1 ⟨#[61]⟩ (A1.out.rd HR.out) (by decide)).mono ?_
   have h1':isT [61] (c.at k1)=false:=by simpa using h1
   rintro e w2 ⟨he,hf2,hR2⟩
   rw [show (⟨#[61]⟩:ByteArray).data.toList=[61] from rfl,h1'] at he hR2
   rw [if_neg (by simp)] at hR2
   subst he
   have hx:=hX.out
   have hww:=hw1.out
   have A2:=Lib.hid (A1.out.call hf2 hR2)
   have O2:=O1.out.fr hf2 (by omega)
   have N2:=N1.out.fr hf2 (by omega)
   have H1:=Lib.hid h1'
   clear hf2 hR2 hx hww h1 h1'
   go_wp2_with (first | (refine ld rowDc rfl rfl rfl N2 rfl ?_) | (refine st rowDc rfl rfl O2 rfl rfl (by rfl) (by rfl) (by kernel_rfl) ?_))
   have hx:=hX.out
   have A3:=A2.out.setRow (Nat.le_refl _) (by omega) #[.string dn,.int .i64 dw,.int .i64 dp]
   refine p_ret rowDc rfl (O2.row #[.string dn,.int .i64 dw,.int .i64 dp]) rfl rfl rfl ?_
   simp only [PR.then_ok,H1.out]
   exact ⟨A3.fr,_,k1,rfl,rfl,A3.rd HR.out,rfl⟩
 go_at_call 53
 refine (HP.out _ k1 ⟨#[61]⟩ (A1.out.rd HR.out) (by decide)).mono ?_
 rintro e w2 ⟨he,hf2,hR2⟩
 rw [show (⟨#[61]⟩:ByteArray).data.toList=[61] from rfl,h1] at he hR2
 rw [if_pos rfl] at hR2
 subst he
 have hx:=hX.out
 have hww:=hw1.out
 have A2:=Lib.hid (A1.out.call hf2 hR2)
 have O2:=Lib.hid (O1.out.fr hf2 (by omega))
 have N2:=Lib.hid (N1.out.fr hf2 (by omega))
 have H1:=Lib.hid h1
 clear hf2 hR2 hx hww h1
 go_wp2_with fail
 obtain ⟨b,hb⟩:∃ b,b=isT [45] (c.at (k1+1)):=⟨_,rfl⟩
 obtain ⟨k3,hk3⟩:∃ k3,k3=if b=true then k1+1+1 else k1+1:=⟨_,rfl⟩
 have H3:Hid (RdPost c w (firstP.go c.L ⟨dn,dw,dp⟩ b (c.at k3)) (fun d v _=>v=.agg #[.string d.name,.int .i64 d.wd,.int .i64 d.pos])=RdPost c w (((PR.ok (⟨dn,dw,dp⟩:Dc) (c.at k1)).then fun d r=>if isT [61] r=true then if isT [45] r.tail=true then (numP c.L r.tail.tail).then fun v r=>.ok ⟨d.name,-v,d.pos⟩ r else (numP c.L r.tail).then fun v r=>.ok ⟨d.name,v,d.pos⟩ r else .ok d r)) (fun d v _=>v=.agg #[.string d.name,.int .i64 d.wd,.int .i64 d.pos])):=by
  rw [Hid]
  congr 1
  simp only [PR.then_ok,H1.out,if_true,Par.at_tail,← hb,hk3]
  cases b <;> rfl
 have HB:=Lib.hid (And.intro hb hk3)
 clear hb hk3
 go_at_call 53
 refine (HP.out _ (k1+1) ⟨#[45]⟩ (A2.out.rd HR.out) (by decide)).mono ?_
 rintro e w3 ⟨he,hf3,hR3⟩
 rw [show (⟨#[45]⟩:ByteArray).data.toList=[45] from rfl,← HB.out.1] at he hR3
 rw [← HB.out.2] at hR3
 subst he
 have hx:=hX.out
 have hww:=hw1.out
 have A3:=Lib.hid (A2.out.call hf3 hR3)
 have O3:=Lib.hid (O2.out.fr hf3 (by omega))
 have N3:=Lib.hid (N2.out.fr hf3 (by omega))
 clear hf3 hR3 hx hww
 go_wp2_with fail
 by_cases hkd:(c.nx k3).kind=3
 rotate_left
 · go_at_call 125
   refine (HU.out _ k3 (A3.out.rd HR.out) hkd).mono ?_
   rintro e w4 ⟨rfl,hf4⟩
   have A4:=Lib.hid (A3.out.fr.trans hf4)
   have HKD:=Lib.hid hkd
   clear hf4 hkd
   go_wp2_with fail
   refine ⟨rfl,?_⟩
   rw [← H3.out]
   unfold firstP.go
   rw [numP_at,if_neg HKD.out]
   exact ⟨A4.out,rfl⟩
 have hbd:=wd_bd (A3.out.rd HR.out)
 have HT2:=Lib.hid (HT.out _ k3 (A3.out.rd HR.out) hkd)
 obtain ⟨t,ht⟩:∃ t,t=c.nx k3:=⟨_,rfl⟩
 have HTT:=Lib.hid ht
 rw [← ht] at HT2 hbd
 have HKD:=Lib.hid hkd
 clear ht hkd
 obtain ⟨tk,tx,tw,tp⟩:=t
 simp only at hbd
 obtain ⟨tw0,tw1⟩:=hbd
 go_at_call 125
 refine (HT2.out).mono ?_
 rintro e w4 ⟨rfl,hf4,hR4⟩
 have hx:=hX.out
 have hww:=hw1.out
 have A4:=Lib.hid (A3.out.call hf4 hR4)
 have O4:=O3.out.fr hf4 (by omega)
 have N4:=N3.out.fr hf4 (by omega)
 have n0:w4.cell? ⟨w1.heap.size,0,none⟩=some (.string dn):=by rw [cell_of_row w4 w1.heap.size 0 _ _ _ N4];rfl
 have n1:w4.cell? ⟨w1.heap.size,1,none⟩=some (.int .i64 dw):=by rw [cell_of_row w4 w1.heap.size 1 _ _ _ N4];rfl
 have n2:w4.frozen? ⟨w1.heap.size,1,none⟩=false:=by simp only [World.frozen?];unfold Own at N4;rw [N4];rfl
 have F2:=tok_f2
 clear hf4 hR4 hx hww
 cases b with
 | false =>
   go_upto_region 8 with (fail)
   obtain ⟨W,hW⟩:∃ W,W=w4.setCell ⟨w1.heap.size,1,none⟩ (.int .i64 tw):=⟨_,rfl⟩
   rw [← hW]
   have hne:w1.heap.size≠w.heap.size:=by have:=hw1.out;omega
   have N5:Own W w1.heap.size 53 #[.string dn,.int .i64 tw,.int .i64 dp]:=by rw [hW];exact heap_setCell_same w4 w1.heap.size 1 _ _ (.int .i64 tw) N4
   have O5:Own W w.heap.size 53 #[.string ⟨#[]⟩,.int .i64 0,.int .i64 0]:=by rw [hW];exact O4.setX 1 _ hne
   have A5:Hid (At c w W (k3+1)):=by
    rw [hW]
    have hx:=hX.out
    have hww:=hw1.out
    exact ⟨Keep.setCell A4.out.fr (p:=⟨w1.heap.size,1,none⟩) _ N4 (fun hs=>by have:=hs.1;simp at this;omega),(Below.heap_setCell _ _ _ _ (show c.X≠w1.heap.size by omega)).trans A4.out.pos,A4.out.le⟩
   clear n0 n1 n2 hW hne O4 N4
   go_wp2_with (first | (refine ld rowDc rfl rfl rfl N5 rfl ?_) | (refine st rowDc rfl rfl O5 rfl rfl (by rfl) (by rfl) (by kernel_rfl) ?_))
   have hx:=hX.out
   have A6:=A5.out.setRow (Nat.le_refl _) (by omega) #[.string dn,.int .i64 tw,.int .i64 dp]
   refine p_ret rowDc rfl (O5.row #[.string dn,.int .i64 tw,.int .i64 dp]) rfl rfl rfl ?_
   rw [← H3.out]
   unfold firstP.go
   rw [numP_at,if_pos HKD.out,← HTT.out]
   exact ⟨A6.fr,_,k3+1,rfl,rfl,A6.rd HR.out,rfl⟩
 | true =>
   go_upto_region 8 with (fail)
   obtain ⟨W,hW⟩:∃ W,W=(w4.setCell ⟨w1.heap.size,1,none⟩ (.int .i64 tw)).setCell ⟨w1.heap.size,1,none⟩ (.int .i64 (-tw)):=⟨_,rfl⟩
   rw [← hW]
   have hne:w1.heap.size≠w.heap.size:=by have:=hw1.out;omega
   have N5:Own W w1.heap.size 53 #[.string dn,.int .i64 (-tw),.int .i64 dp]:=by rw [hW];exact heap_setCell_same _ w1.heap.size 1 _ _ (.int .i64 (-tw)) (heap_setCell_same w4 w1.heap.size 1 _ _ (.int .i64 tw) N4)
   have O5:Own W w.heap.size 53 #[.string ⟨#[]⟩,.int .i64 0,.int .i64 0]:=by rw [hW];exact (O4.setX 1 _ hne).setX 1 _ hne
   have A5:Hid (At c w W (k3+1)):=by
    rw [hW]
    have hx:=hX.out
    have hww:=hw1.out
    have N4':=heap_setCell_same w4 w1.heap.size 1 _ _ (.int .i64 tw) N4
    refine ⟨Keep.setCell (Keep.setCell A4.out.fr (p:=⟨w1.heap.size,1,none⟩) _ N4 (fun hs=>by have:=hs.1;simp at this;omega)) (p:=⟨w1.heap.size,1,none⟩) _ N4' (fun hs=>by have:=hs.1;simp at this;omega),?_,A4.out.le⟩
    exact (Below.heap_setCell _ _ _ _ (show c.X≠w1.heap.size by omega)).trans ((Below.heap_setCell _ _ _ _ (show c.X≠w1.heap.size by omega)).trans A4.out.pos)
   clear n0 n1 n2 hW hne O4 N4
   go_wp2_with (first | (refine ld rowDc rfl rfl rfl N5 rfl ?_) | (refine st rowDc rfl rfl O5 rfl rfl (by rfl) (by rfl) (by kernel_rfl) ?_))
   have hx:=hX.out
   have A6:=A5.out.setRow (Nat.le_refl _) (by omega) #[.string dn,.int .i64 (-tw),.int .i64 dp]
   refine p_ret rowDc rfl (O5.row #[.string dn,.int .i64 (-tw),.int .i64 dp]) rfl rfl rfl ?_
   rw [← H3.out]
   unfold firstP.go
   rw [numP_at,if_pos HKD.out,← HTT.out]
   exact ⟨A6.fr,_,k3+1,rfl,rfl,A6.rd HR.out,rfl⟩
open Go.RowKit
set_option linter.unusedVariables false
theorem infoDc:(Tryz.prog.info? 53).map (fun i=>(i.zero,i.size,i.bytes))=some (some (.agg zDc),3,32):=by kernel_rfl
def listR (L:Int) (one:List Tk→PR Dc) (m:Nat) (l:List Dc) (ts:List Tk):PR (List Dc):=if isT [44] ts then listP L one m l ts.tail else (need L [59] ts).then fun _ r=>.ok l r
theorem need_at {c:Par} {k:Nat} (s:Bs):need c.L s (c.at k)=if isT s (c.at k)=true then .ok () (c.at (k+1)) else .bad (hdP c.L (c.at k)) 2:=by
 unfold need
 rw [Par.at_tail]
theorem cells_three {W:World} {g:Nat} {a b d:Value} {t:TypeId} (h:Own W g t #[a,b,d]) (j:Nat) (u:Value) (hj:[a,b,d][j]? = some u):W.cell? ((⟨g,0,none⟩:Addr).add j)=some u:=by
 have e:(⟨g,0,none⟩:Addr).add j=⟨g,j,none⟩:=by by_cases h0:j=0 <;> simp [Addr.add,h0]
 rw [e,cell_of_row W g j _ _ _ h,← hj]
 have:j<3:=(List.getElem?_eq_some_iff.1 hj).1
 have h3:j=0∨j=1∨j=2:=by omega
 rcases h3 with rfl | rfl | rfl <;> rfl
def LstI (c:Par) (w:World) (one:List Tk→PR Dc) (Y:PR (List Dc)) (m:Nat) (v:Value) (W:World):Prop :=
 ∃ (j:Nat) (l:List Dc),At c w W j∧W.ownsRow w.heap.size 53 3 v l.length (dcsL l)∧l≠[]∧listR c.L one m l (c.at j)=Y∧(c.at j).length≤m∧l.length+(c.at j).length≤65536
theorem p_list_name {c:Par} {w:World} {k n:Nat} (R:Rd c w k) (hn:(c.at k).length<n):Calls Tryz.prog 100 #[c.ptr,.func (.func 98) #[c.ptr] #[]] w
 (RdPost c w (listP c.L (nameP c.L) n [] (c.at k)) (fun l v w'=>w'.ownsRow w.heap.size 53 3 v l.length (dcsL l)∧l≠[])):=by
 have HK:Hid (∀ W j,Rd c W j→Calls Tryz.prog 98 #[c.ptr] W (RdPost c W (nameP c.L (c.at j)) (fun d v _=>v=dcVal d))):=fun W j RW=>p_name RW
 have HP:Hid (∀ W j (s:ByteArray),Rd c W j→s.data.toList≠[]→Calls Tryz.prog 53 #[c.ptr,.string s] W fun e w'=>e=.returned (.bool (isT s.data.toList (c.at j)))∧Fr c W w'∧Rd c w' (if isT s.data.toList (c.at j)=true then j+1 else j)):=fun W j s RW hs=>p_pass RW s hs
 have HSH:Hid (∀ ts d r,nameP c.L ts=.ok d r→r.length<ts.length):=fun ts d r h=>nameP_short h
 obtain ⟨one,hone⟩:∃ one,one=nameP c.L:=⟨_,rfl⟩
 rw [← hone] at HK HSH ⊢
 obtain ⟨n,rfl⟩:∃ n',n=n'+1:=⟨n-1,by omega⟩
 obtain ⟨Y0,hY0⟩:∃ Y0,Y0=one (c.at k):=⟨_,rfl⟩
 have hl0:(c.at k).length≤65536:=by rw [Par.at_len];have:=R.s.small.1;omega
 have HK0:Hid (∀ W,Rd c W k→Calls Tryz.prog 98 #[c.ptr] W (RdPost c W Y0 (fun d v _=>v=dcVal d))):=fun W RW=>by rw [hY0];exact HK.out W k RW
 simp only [listP]
 rw [← hY0]
 have HY0:Hid (∀ d r,Y0=.ok d r→r.length<(c.at k).length):=fun d r h=>HSH.out _ _ _ (hY0.symm.trans h)
 have A0:=Lib.hid (At.start R)
 have HR:=Lib.hid R
 have hX:=Lib.hid R.lt
 have HN:=Lib.hid (And.intro hn hl0)
 clear hY0 R hone hn hl0
 unfold Par.ptr dcVal at *
 go_enter Tryz.func100,Tryz.ntmps100
 go_wp2_with fail
 go_at_call 98
 refine (HK0.out _ HR.out).mono ?_
 rintro e w1 ⟨hf1,hm⟩
 rcases Y0 with ⟨d0,r0⟩ | ⟨p,q⟩
 rotate_left
 · obtain rfl := hm
   have A1:=Lib.hid (A0.out.fr.trans hf1)
   clear hf1
   go_wp2_with fail
   exact ⟨rfl,A1.out,rfl⟩
 obtain ⟨v1,k1,rfl,rfl,hR1,rfl⟩:=hm
 have hlen:=HY0.out _ _ rfl
 have B0:Hid (LstI c w one (listR c.L one n ([]++[d0]) (c.at k1)) n (.slice (some ⟨w1.heap.size,0,none⟩) 1 1) (w1.alloc (.cells #[.string d0.name,.int .i64 d0.wd,.int .i64 d0.pos] 53))):=by
  have hz:=Keep.size hf1
  refine ⟨k1,[d0],(A0.out.call hf1 hR1).alloc _,⟨rfl,.inr ⟨w1.heap.size,1,_,rfl,hz,Own.new w1 _ _,Nat.le_refl _,by decide,rfl,rfl⟩⟩,by simp,rfl,by have:=HN.out.1;omega,by have:=HN.out.2;simp;omega⟩
 obtain ⟨Y,hY⟩:∃ Y,Y=listR c.L one n ([]++[d0]) (c.at k1):=⟨_,rfl⟩
 rw [← hY] at B0
 have HYY:=Lib.hid hY.symm
 clear hf1 hR1 hlen hY HY0 HK0
 go_wp2_with fail
 go_loopg [5] n (fun m u W=>LstI c w one Y m u W)
 case atStart=>exact B0.out
 case round =>
  obtain ⟨j,l,A1,hrow,hne,hL,hfu,hle⟩:=hrel
  have HA1:=Lib.hid A1
  have HROW:=Lib.hid hrow
  have HNE:=Lib.hid hne
  have HL:=Lib.hid hL
  have HFU:=Lib.hid (And.intro hfu hle)
  obtain ⟨oa,cap,rfl,hoa⟩:=row_shape hrow
  have HOA:=Lib.hid hoa
  clear A1 hrow hne hL hfu hle hoa
  by_cases h1:isT [44] (c.at j)=true
  · have hjl := Par.isT_lt h1
    have hlen1:(c.at j).length=(c.at (j+1)).length+1:=by rw [at_nx hjl];rfl
    have HLE:=Lib.hid hlen1
    obtain ⟨m,rfl⟩:∃ m,gk=m+1:=⟨gk-1,by have:=HFU.out.1;omega⟩
    have hs2:Y=(one (c.at (j+1))).then fun d r=>listR c.L one m (l++[d]) r:=by
     rw [← HL.out];unfold listR;rw [if_pos h1,Par.at_tail];rfl
    obtain ⟨Z,hZ⟩:∃ Z,Z=one (c.at (j+1)):=⟨_,rfl⟩
    rw [← hZ] at hs2
    have HSP:=Lib.hid hs2
    have HKZ:Hid (∀ W,Rd c W (j+1)→Calls Tryz.prog 98 #[.pointer (some ⟨c.X,0,none⟩)] W (RdPost c W Z (fun d v _=>v=.agg #[.string d.name,.int .i64 d.wd,.int .i64 d.pos]))):=fun W RW=>by rw [hZ];exact HK.out W (j+1) RW
    have HZL:Hid (∀ d r,Z=.ok d r→r.length<(c.at (j+1)).length):=fun d r h=>HSH.out _ _ _ (hZ.symm.trans h)
    have H1:=Lib.hid h1
    clear h1 hjl hlen1 hs2 hZ
    go_wp2_with fail
    go_at_call 53
    refine (HP.out _ j ⟨#[44]⟩ (HA1.out.rd HR.out) (by decide)).mono ?_
    rintro e w2 ⟨he,hf2,hR2⟩
    rw [show (⟨#[44]⟩:ByteArray).data.toList=[44] from rfl,H1.out] at he hR2
    rw [if_pos rfl] at hR2
    subst he
    have A2:=Lib.hid (HA1.out.call hf2 hR2)
    have ROW2:=Lib.hid (row_fr HROW.out hf2 hX.out)
    clear hf2 hR2
    go_wp2_with fail
    go_at_call 98
    refine (HKZ.out _ (A2.out.rd HR.out)).mono ?_
    rintro e w3 ⟨hf3,hm3⟩
    rcases Z with ⟨d2,r2⟩ | ⟨p,q⟩
    rotate_left
    · obtain rfl := hm3
      have A3:=Lib.hid (A2.out.fr.trans hf3)
      clear hf3
      go_wp2_with fail
      refine ⟨rfl,?_⟩
      show RdPost c w (listR c.L one n ([]++[d0]) (c.at k1)) _ _ _
      rw [HYY.out,HSP.out]
      exact ⟨A3.out,rfl⟩
    obtain ⟨v3,k3,rfl,rfl,hR3,rfl⟩:=hm3
    have A3:=Lib.hid ((A2.out.call hf3 hR3).alloc (.cells #[.string d2.name,.int .i64 d2.wd,.int .i64 d2.pos] 53))
    have row3:=(row_fr ROW2.out hf3 hX.out).alloc (.cells #[.string d2.name,.int .i64 d2.wd,.int .i64 d2.pos] 53)
    have hz3:w.heap.size≤w3.heap.size:=Keep.size (A2.out.call hf3 hR3).fr
    have hl6:l.length≤65535:=by have:=HFU.out.2;have:=HLE.out;omega
    obtain ⟨i0,hi,hi0,hi1,hi2⟩:=info_parts infoDc
    have hk3:=Lib.hid (HZL.out _ _ rfl)
    have N3:=Own.new w3 53 #[.string d2.name,.int .i64 d2.wd,.int .i64 d2.pos]
    clear hf3 hR3
    go_wp2_with (at_builtin;refine wpList_append_own _ rfl _ _ 22 rfl w.heap.size 53 i0 _ 3 32 Tryz.underlying22 hi hi0 hi1 hi2 rfl (by decide) _ _ _ rfl row3 ⟨w3.heap.size,0,none⟩ 1 1 [.string d2.name,.int .i64 d2.wd,.int .i64 d2.pos] rfl rfl (fun j u hj=>cells_three N3 j u hj) (by simp [Value.oneCell']) (by simp only [maxLen];omega) (by omega) (by simp;omega) ?_;intro v' w4 hown' hgrow _;have ROW4:=Lib.hid hown';have GR:=Lib.hid hgrow;clear hown' hgrow)
    go_roundg m
    case measure=>omega
    case rel =>
     have hx:=hX.out
     refine ⟨k3,l++[d2],grown_fr A3.out GR.out (fun r hr=>?_),?_,by simp,HSP.out.symm,by have:=HFU.out.1;have:=hk3.out;have:=HLE.out;omega,by have:=HFU.out.2;have:=hk3.out;have:=HLE.out;simp;omega⟩
     · have h2 := (row3.lt r hr).1
       exact ⟨h2,by omega⟩
     · have := ROW4.out
       rw [dcsL_snoc,List.length_append]
       exact this
  · have h1' : isT [44] (c.at j) = false := by simpa using h1
    have hs2:Y=(need c.L [59] (c.at j)).then fun _ r=>.ok l r:=by rw [← HL.out];unfold listR;rw [h1'];rfl
    have HSP:=Lib.hid hs2
    have H1:=Lib.hid h1'
    clear h1 h1' hs2
    go_wp2_with fail
    go_at_call 53
    refine (HP.out _ j ⟨#[44]⟩ (HA1.out.rd HR.out) (by decide)).mono ?_
    rintro e w2 ⟨he,hf2,hR2⟩
    rw [show (⟨#[44]⟩:ByteArray).data.toList=[44] from rfl,H1.out] at he hR2
    rw [if_neg (by simp)] at hR2
    subst he
    have A2:=Lib.hid (HA1.out.call hf2 hR2)
    have ROW2:=Lib.hid (row_fr HROW.out hf2 hX.out)
    clear hf2 hR2
    go_wp2_with fail
    by_cases h2:isT [59] (c.at j)=true
    · go_at_call 127
      refine (p_take_ok (A2.out.rd HR.out) ⟨#[59]⟩ (by decide) h2).mono ?_
      rintro e w3 ⟨rfl,hf3,hR3⟩
      have A3:=Lib.hid (A2.out.call hf3 hR3)
      have ROW3:=Lib.hid (row_fr ROW2.out hf3 hX.out)
      have H2:=Lib.hid h2
      clear hf3 hR3 h2
      go_wp2_with fail
      go_ret
      show RdPost c w (listR c.L one n ([]++[d0]) (c.at k1)) _ _ _
      rw [HYY.out,HSP.out,need_at,if_pos H2.out]
      exact ⟨A3.out.fr,_,j+1,rfl,⟨ROW3.out,HNE.out⟩,A3.out.rd HR.out,rfl⟩
    · have h2' : isT [59] (c.at j) = false := by simpa using h2
      go_at_call 127
      refine (p_take_bad (A2.out.rd HR.out) ⟨#[59]⟩ (by decide) h2').mono ?_
      rintro e w3 ⟨rfl,hf3⟩
      have A3:=Lib.hid (A2.out.fr.trans hf3)
      have H2:=Lib.hid h2'
      clear hf3 h2 h2'
      go_wp2_with fail
      refine ⟨rfl,?_⟩
      show RdPost c w (listR c.L one n ([]++[d0]) (c.at k1)) _ _ _
      rw [HYY.out,HSP.out,need_at,H2.out]
      exact ⟨A3.out,rfl⟩
theorem p_list_first {c:Par} {w:World} {k n:Nat} (R:Rd c w k) (hn:(c.at k).length<n):Calls Tryz.prog 100 #[c.ptr,.func (.func 122) #[c.ptr] #[]] w
 (RdPost c w (listP c.L (firstP c.L) n [] (c.at k)) (fun l v w'=>w'.ownsRow w.heap.size 53 3 v l.length (dcsL l)∧l≠[])):=by
 have HK:Hid (∀ W j,Rd c W j→Calls Tryz.prog 122 #[c.ptr] W (RdPost c W (firstP c.L (c.at j)) (fun d v _=>v=dcVal d))):=fun W j RW=>p_first RW
 have HP:Hid (∀ W j (s:ByteArray),Rd c W j→s.data.toList≠[]→Calls Tryz.prog 53 #[c.ptr,.string s] W fun e w'=>e=.returned (.bool (isT s.data.toList (c.at j)))∧Fr c W w'∧Rd c w' (if isT s.data.toList (c.at j)=true then j+1 else j)):=fun W j s RW hs=>p_pass RW s hs
 have HSH:Hid (∀ ts d r,firstP c.L ts=.ok d r→r.length<ts.length):=fun ts d r h=>firstP_short h
 obtain ⟨one,hone⟩:∃ one,one=firstP c.L:=⟨_,rfl⟩
 rw [← hone] at HK HSH ⊢
 obtain ⟨n,rfl⟩:∃ n',n=n'+1:=⟨n-1,by omega⟩
 obtain ⟨Y0,hY0⟩:∃ Y0,Y0=one (c.at k):=⟨_,rfl⟩
 have hl0:(c.at k).length≤65536:=by rw [Par.at_len];have:=R.s.small.1;omega
 have HK0:Hid (∀ W,Rd c W k→Calls Tryz.prog 122 #[c.ptr] W (RdPost c W Y0 (fun d v _=>v=dcVal d))):=fun W RW=>by rw [hY0];exact HK.out W k RW
 simp only [listP]
 rw [← hY0]
 have HY0:Hid (∀ d r,Y0=.ok d r→r.length<(c.at k).length):=fun d r h=>HSH.out _ _ _ (hY0.symm.trans h)
 have A0:=Lib.hid (At.start R)
 have HR:=Lib.hid R
 have hX:=Lib.hid R.lt
 have HN:=Lib.hid (And.intro hn hl0)
 clear hY0 R hone hn hl0
 unfold Par.ptr dcVal at *
 go_enter Tryz.func100,Tryz.ntmps100
 go_wp2_with fail
 go_at_call 122
 refine (HK0.out _ HR.out).mono ?_
 rintro e w1 ⟨hf1,hm⟩
 rcases Y0 with ⟨d0,r0⟩ | ⟨p,q⟩
 rotate_left
 · obtain rfl := hm
   have A1:=Lib.hid (A0.out.fr.trans hf1)
   clear hf1
   go_wp2_with fail
   exact ⟨rfl,A1.out,rfl⟩
 obtain ⟨v1,k1,rfl,rfl,hR1,rfl⟩:=hm
 have hlen:=HY0.out _ _ rfl
 have B0:Hid (LstI c w one (listR c.L one n ([]++[d0]) (c.at k1)) n (.slice (some ⟨w1.heap.size,0,none⟩) 1 1) (w1.alloc (.cells #[.string d0.name,.int .i64 d0.wd,.int .i64 d0.pos] 53))):=by
  have hz:=Keep.size hf1
  refine ⟨k1,[d0],(A0.out.call hf1 hR1).alloc _,⟨rfl,.inr ⟨w1.heap.size,1,_,rfl,hz,Own.new w1 _ _,Nat.le_refl _,by decide,rfl,rfl⟩⟩,by simp,rfl,by have:=HN.out.1;omega,by have:=HN.out.2;simp;omega⟩
 obtain ⟨Y,hY⟩:∃ Y,Y=listR c.L one n ([]++[d0]) (c.at k1):=⟨_,rfl⟩
 rw [← hY] at B0
 have HYY:=Lib.hid hY.symm
 clear hf1 hR1 hlen hY HY0 HK0
 go_wp2_with fail
 go_loopg [5] n (fun m u W=>LstI c w one Y m u W)
 case atStart=>exact B0.out
 case round =>
  obtain ⟨j,l,A1,hrow,hne,hL,hfu,hle⟩:=hrel
  have HA1:=Lib.hid A1
  have HROW:=Lib.hid hrow
  have HNE:=Lib.hid hne
  have HL:=Lib.hid hL
  have HFU:=Lib.hid (And.intro hfu hle)
  obtain ⟨oa,cap,rfl,hoa⟩:=row_shape hrow
  have HOA:=Lib.hid hoa
  clear A1 hrow hne hL hfu hle hoa
  by_cases h1:isT [44] (c.at j)=true
  · have hjl := Par.isT_lt h1
    have hlen1:(c.at j).length=(c.at (j+1)).length+1:=by rw [at_nx hjl];rfl
    have HLE:=Lib.hid hlen1
    obtain ⟨m,rfl⟩:∃ m,gk=m+1:=⟨gk-1,by have:=HFU.out.1;omega⟩
    have hs2:Y=(one (c.at (j+1))).then fun d r=>listR c.L one m (l++[d]) r:=by
     rw [← HL.out];unfold listR;rw [if_pos h1,Par.at_tail];rfl
    obtain ⟨Z,hZ⟩:∃ Z,Z=one (c.at (j+1)):=⟨_,rfl⟩
    rw [← hZ] at hs2
    have HSP:=Lib.hid hs2
    have HKZ:Hid (∀ W,Rd c W (j+1)→Calls Tryz.prog 122 #[.pointer (some ⟨c.X,0,none⟩)] W (RdPost c W Z (fun d v _=>v=.agg #[.string d.name,.int .i64 d.wd,.int .i64 d.pos]))):=fun W RW=>by rw [hZ];exact HK.out W (j+1) RW
    have HZL:Hid (∀ d r,Z=.ok d r→r.length<(c.at (j+1)).length):=fun d r h=>HSH.out _ _ _ (hZ.symm.trans h)
    have H1:=Lib.hid h1
    clear h1 hjl hlen1 hs2 hZ
    go_wp2_with fail
    go_at_call 53
    refine (HP.out _ j ⟨#[44]⟩ (HA1.out.rd HR.out) (by decide)).mono ?_
    rintro e w2 ⟨he,hf2,hR2⟩
    rw [show (⟨#[44]⟩:ByteArray).data.toList=[44] from rfl,H1.out] at he hR2
    rw [if_pos rfl] at hR2
    subst he
    have A2:=Lib.hid (HA1.out.call hf2 hR2)
    have ROW2:=Lib.hid (row_fr HROW.out hf2 hX.out)
    clear hf2 hR2
    go_wp2_with fail
    go_at_call 122
    refine (HKZ.out _ (A2.out.rd HR.out)).mono ?_
    rintro e w3 ⟨hf3,hm3⟩
    rcases Z with ⟨d2,r2⟩ | ⟨p,q⟩
    rotate_left
    · obtain rfl := hm3
      have A3:=Lib.hid (A2.out.fr.trans hf3)
      clear hf3
      go_wp2_with fail
      refine ⟨rfl,?_⟩
      show RdPost c w (listR c.L one n ([]++[d0]) (c.at k1)) _ _ _
      rw [HYY.out,HSP.out]
      exact ⟨A3.out,rfl⟩
    obtain ⟨v3,k3,rfl,rfl,hR3,rfl⟩:=hm3
    have A3:=Lib.hid ((A2.out.call hf3 hR3).alloc (.cells #[.string d2.name,.int .i64 d2.wd,.int .i64 d2.pos] 53))
    have row3:=(row_fr ROW2.out hf3 hX.out).alloc (.cells #[.string d2.name,.int .i64 d2.wd,.int .i64 d2.pos] 53)
    have hz3:w.heap.size≤w3.heap.size:=Keep.size (A2.out.call hf3 hR3).fr
    have hl6:l.length≤65535:=by have:=HFU.out.2;have:=HLE.out;omega
    obtain ⟨i0,hi,hi0,hi1,hi2⟩:=info_parts infoDc
    have hk3:=Lib.hid (HZL.out _ _ rfl)
    have N3:=Own.new w3 53 #[.string d2.name,.int .i64 d2.wd,.int .i64 d2.pos]
    clear hf3 hR3
    go_wp2_with (at_builtin;refine wpList_append_own _ rfl _ _ 22 rfl w.heap.size 53 i0 _ 3 32 Tryz.underlying22 hi hi0 hi1 hi2 rfl (by decide) _ _ _ rfl row3 ⟨w3.heap.size,0,none⟩ 1 1 [.string d2.name,.int .i64 d2.wd,.int .i64 d2.pos] rfl rfl (fun j u hj=>cells_three N3 j u hj) (by simp [Value.oneCell']) (by simp only [maxLen];omega) (by omega) (by simp;omega) ?_;intro v' w4 hown' hgrow _;have ROW4:=Lib.hid hown';have GR:=Lib.hid hgrow;clear hown' hgrow)
    go_roundg m
    case measure=>omega
    case rel =>
     have hx:=hX.out
     refine ⟨k3,l++[d2],grown_fr A3.out GR.out (fun r hr=>?_),?_,by simp,HSP.out.symm,by have:=HFU.out.1;have:=hk3.out;have:=HLE.out;omega,by have:=HFU.out.2;have:=hk3.out;have:=HLE.out;simp;omega⟩
     · have h2 := (row3.lt r hr).1
       exact ⟨h2,by omega⟩
     · have := ROW4.out
       rw [dcsL_snoc,List.length_append]
       exact this
  · have h1' : isT [44] (c.at j) = false := by simpa using h1
    have hs2:Y=(need c.L [59] (c.at j)).then fun _ r=>.ok l r:=by rw [← HL.out];unfold listR;rw [h1'];rfl
    have HSP:=Lib.hid hs2
    have H1:=Lib.hid h1'
    clear h1 h1' hs2
    go_wp2_with fail
    go_at_call 53
    refine (HP.out _ j ⟨#[44]⟩ (HA1.out.rd HR.out) (by decide)).mono ?_
    rintro e w2 ⟨he,hf2,hR2⟩
    rw [show (⟨#[44]⟩:ByteArray).data.toList=[44] from rfl,H1.out] at he hR2
    rw [if_neg (by simp)] at hR2
    subst he
    have A2:=Lib.hid (HA1.out.call hf2 hR2)
    have ROW2:=Lib.hid (row_fr HROW.out hf2 hX.out)
    clear hf2 hR2
    go_wp2_with fail
    by_cases h2:isT [59] (c.at j)=true
    · go_at_call 127
      refine (p_take_ok (A2.out.rd HR.out) ⟨#[59]⟩ (by decide) h2).mono ?_
      rintro e w3 ⟨rfl,hf3,hR3⟩
      have A3:=Lib.hid (A2.out.call hf3 hR3)
      have ROW3:=Lib.hid (row_fr ROW2.out hf3 hX.out)
      have H2:=Lib.hid h2
      clear hf3 hR3 h2
      go_wp2_with fail
      go_ret
      show RdPost c w (listR c.L one n ([]++[d0]) (c.at k1)) _ _ _
      rw [HYY.out,HSP.out,need_at,if_pos H2.out]
      exact ⟨A3.out.fr,_,j+1,rfl,⟨ROW3.out,HNE.out⟩,A3.out.rd HR.out,rfl⟩
    · have h2' : isT [59] (c.at j) = false := by simpa using h2
      go_at_call 127
      refine (p_take_bad (A2.out.rd HR.out) ⟨#[59]⟩ (by decide) h2').mono ?_
      rintro e w3 ⟨rfl,hf3⟩
      have A3:=Lib.hid (A2.out.fr.trans hf3)
      have H2:=Lib.hid h2'
      clear hf3 h2 h2'
      go_wp2_with fail
      refine ⟨rfl,?_⟩
      show RdPost c w (listR c.L one n ([]++[d0]) (c.at k1)) _ _ _
      rw [HYY.out,HSP.out,need_at,H2.out]
      exact ⟨A3.out,rfl⟩
open Go.RowKit
set_option linter.unusedVariables false
theorem setCell_row {W:World} {g:Nat} {t:TypeId} {cs:Array Value} (h:Own W g t cs) (j:Nat) (v:Value):W.setCell ⟨g,j,none⟩ v=W.setRow g (cs.setIfInBounds j v):=by
 have key:(W.setCell ⟨g,j,none⟩ v).heap=(W.setRow g (cs.setIfInBounds j v)).heap:=by
  apply Array.ext_getElem?
  intro i
  by_cases hi:i=g
  · subst hi
    rw [heap_setCell_same W i j _ _ v h,setRow_heap W i _ _ _ _ h]
  · rw [Below.heap_setCell W ⟨g,j,none⟩ v i hi,setRow_other _ hi]
 exact congrArg (fun h=>({ W with heap:=h } : World)) key
def stR (n:Nat) (p:Int) (s:St) (v:Value) (W:World):Prop :=
 ∃ a3 c3 a4 c4 a5 c5,v=.agg #[.int .u8 s.kind,.string s.name,.string s.other,.slice a3 s.e.length c3,.slice a4 s.body.length c4,.slice a5 s.els.length c5,.int .i64 p]∧exsAt (fun b=>n≤b) W s.e a3∧stsAt (fun b=>n≤b) W s.body a4∧stsAt (fun b=>n≤b) W s.els a5
def exsVal (n:Nat) (l:List Ex) (v:Value) (W:World):Prop:=∃ a cap,v=.slice a l.length cap∧exsAt (fun b=>n≤b) W l a
def stsVal (n:Nat) (l:List St) (v:Value) (W:World):Prop:=∃ a cap,v=.slice a l.length cap∧stsAt (fun b=>n≤b) W l a
theorem stsAt_mono {R R':Nat→Prop} {w:World} {l:List St} {a:Option Addr} (h:stsAt R w l a) (hm:∀ b,R b→R' b):stsAt R' w l a:=stsAt_stays (Stays.refl R w) hm h
structure StG (c:Par) (w:World) (t:Tk) (cs:Array Value) (W:World) (j:Nat):Prop where
 run:At c w W j
 tok:Own W w.heap.size 111 #[.int .u8 t.kind,.string t.text,.int .i64 t.wd,.int .i64 t.pos]
 res:Own W (w.heap.size+1) 57 zSt
 st:Own W (w.heap.size+1+1) 57 cs
section
variable {c:Par} {w W W':World} {t:Tk} {cs:Array Value} {j k2:Nat}
theorem StG.start {k:Nat} (R:Rd c w k) (t:Tk) (cs:Array Value):StG c w t cs (((w.alloc (.cells #[.int .u8 t.kind,.string t.text,.int .i64 t.wd,.int .i64 t.pos] 111)).alloc (.cells zSt 57)).alloc (.cells cs 57)) k:=by
 have o1:=Own.new (w.alloc (.cells #[.int .u8 t.kind,.string t.text,.int .i64 t.wd,.int .i64 t.pos] 111)) 57 zSt
 have o2:=Own.new ((w.alloc (.cells #[.int .u8 t.kind,.string t.text,.int .i64 t.wd,.int .i64 t.pos] 111)).alloc (.cells zSt 57)) 57 cs
 rw [World.size_alloc] at o1 o2
 rw [World.size_alloc] at o2
 exact ⟨(((At.start R).alloc _).alloc _).alloc _,((Own.new w _ _).alloc _).alloc _,o1.alloc _,o2⟩
theorem StG.call (h:StG c w t cs W j) (hf:Fr c W W') (hp:Rd c W' k2) (hX:c.X<w.heap.size):StG c w t cs W' k2 :=
 ⟨h.run.call hf hp,h.tok.fr hf (by omega),h.res.fr hf (by omega),h.st.fr hf (by omega)⟩
theorem StG.row (h:StG c w t cs W j) (ds:Array Value) (hX:c.X<w.heap.size):StG c w t ds (W.setRow (w.heap.size+1+1) ds) j :=
 ⟨h.run.setRow (by omega) (by omega) ds,h.tok.other ds (by omega),h.res.other ds (by omega),h.st.row ds⟩
theorem StG.cell (h:StG c w t cs W j) {i:Nat} {v:Value} (hv:cs[i]? = some v):W.cell? ⟨w.heap.size+1+1,i,none⟩=some v:=by rw [cell_of_row W _ i _ _ _ h.st];exact hv
theorem StG.frozen (h:StG c w t cs W j) (i:Nat):W.frozen? ⟨w.heap.size+1+1,i,none⟩=false:=by
 have:=h.st
 unfold Own at this
 simp only [World.frozen?,this];rfl
end
theorem exsAt_call {c:Par} {W W':World} {n:Nat} {l:List Ex} {a:Option Addr} (h:exsAt (fun b=>n≤b) W l a) (hf:Fr c W W') (hX:c.X<n):exsAt (fun b=>n≤b) W' l a:=exsAt_stays (stays_fr hf (fun b hb=>by omega)) (fun b hb=>hb) h
theorem stsAt_call {c:Par} {W W':World} {n:Nat} {l:List St} {a:Option Addr} (h:stsAt (fun b=>n≤b) W l a) (hf:Fr c W W') (hX:c.X<n):stsAt (fun b=>n≤b) W' l a:=stsAt_stays (stays_fr hf (fun b hb=>by omega)) (fun b hb=>hb) h
theorem exsAt_row {W:World} {n g:Nat} {l:List Ex} {a:Option Addr} (h:exsAt (fun b=>n≤b) W l a) (cs:Array Value) (hg:g<n):exsAt (fun b=>n≤b) (W.setRow g cs) l a:=exsAt_stays (stays_row W cs (fun b hb=>by omega)) (fun b hb=>hb) h
theorem stsAt_row {W:World} {n g:Nat} {l:List St} {a:Option Addr} (h:stsAt (fun b=>n≤b) W l a) (cs:Array Value) (hg:g<n):stsAt (fun b=>n≤b) (W.setRow g cs) l a:=stsAt_stays (stays_row W cs (fun b hb=>by omega)) (fun b hb=>hb) h
theorem p_value {c:Par} {w:World} {k n:Nat} (R:Rd c w k) (hn:3*(c.at k).length+2≤n) :
 Calls Tryz.prog 126 #[c.ptr] w (RdPost c w (binE fnd c.L n 1 0 (c.at k)) (fun e v w'=>exsVal w.heap.size [e] v w')):=by
 have HC:Hid (∀ W,Rd c W k→Calls Tryz.prog 31 #[c.ptr] W (RdPost c W (binE fnd c.L n 1 0 (c.at k)) (exR W.heap.size))):=fun W RW=>p_expression RW hn
 obtain ⟨Y,hY⟩:∃ Y,Y=binE fnd c.L n 1 0 (c.at k):=⟨_,rfl⟩
 rw [← hY] at HC ⊢
 have HR:=Lib.hid R
 clear hY R hn
 unfold Par.ptr at *
 go_enter Tryz.func126,Tryz.ntmps126
 go_wp2_with fail
 go_at_call 31
 refine (HC.out _ HR.out).mono ?_
 rintro e w1 ⟨hf1,hm⟩
 rcases Y with ⟨e0,r0⟩ | ⟨p,q⟩
 rotate_left
 · obtain rfl := hm
   have A1:=Lib.hid hf1
   clear hf1
   go_wp2_with fail
   exact ⟨rfl,A1.out,rfl⟩
 obtain ⟨v1,k1,rfl,⟨a4,cap4,rfl,hV⟩,hR1,rfl⟩:=hm
 have A1:=Lib.hid (((At.start HR.out).call hf1 hR1).alloc (.cells #[.int .u8 e0.kind,.int .u8 e0.op,.int .i64 e0.wd,.string e0.name,.slice a4 e0.kids.length cap4,.int .i64 e0.pos] 30))
 have N1:=Lib.hid (Own.new w1 30 #[.int .u8 e0.kind,.int .u8 e0.op,.int .i64 e0.wd,.string e0.name,.slice a4 e0.kids.length cap4,.int .i64 e0.pos])
 have HV:=Lib.hid (exsAt_stays (stays_alloc _ w1 (.cells #[.int .u8 e0.kind,.int .u8 e0.op,.int .i64 e0.wd,.string e0.name,.slice a4 e0.kids.length cap4,.int .i64 e0.pos] 30)) (fun b hb=>hb) hV)
 have hz:=Lib.hid (Keep.size hf1)
 clear hf1 hV hR1
 go_wp2_with fail
 go_ret
 refine ⟨A1.out.fr,_,k1,rfl,⟨_,_,rfl,.inr ⟨w1.heap.size,0,rfl,hz.out,exIn_of (vs:=exCells e0 a4 cap4) ⟨a4,cap4,rfl,HV.out⟩ ?_,trivial⟩⟩,A1.out.rd HR.out,rfl⟩
 intro q u hq
 have hq6:q<6:=(List.getElem?_eq_some_iff.1 hq).1
 rw [cell_of_row _ w1.heap.size (0+q) _ _ _ N1.out,← hq]
 have:q=0∨q=1∨q=2∨q=3∨q=4∨q=5:=by omega
 rcases this with rfl | rfl | rfl | rfl | rfl | rfl <;> rfl
theorem p_open {c:Par} {w:World} {k:Nat} (R:Rd c w k) (d:Int):Calls Tryz.prog 99 #[c.ptr,.int .i64 d] w (RdPost c w (openP c.L d (c.at k)) (fun _ v _=>v=.tuple #[])):=by
 have HN:Hid (∀ W,Rd c W k→Calls Tryz.prog 52 #[c.ptr] W fun e w'=>e=.returned (tkV (c.nx k))∧Below W.heap.size W w'):=fun W h=>p_next h
 have hp:=c.nx_pos k
 obtain ⟨t,ht⟩:∃ t,t=c.nx k:=⟨_,rfl⟩
 rw [← ht] at HN hp
 have HP:=Lib.hid hp
 have HR:=Lib.hid R
 have hX:=Lib.hid R.lt
 have HQ:=Lib.hid (fun w=>p_refuse t 3 w)
 unfold openP
 rw [need_at]
 obtain ⟨tk,tx,tw,tp⟩:=t
 clear ht hp R
 unfold tkV Par.ptr at *
 by_cases h1:isT [123] (c.at k)=true
 · rw [if_pos h1]
   simp only [PR.then_ok]
   have H1:=Lib.hid h1
   by_cases hd:64<d
   · rw [if_pos hd]
     clear h1
     go_enter Tryz.func99,Tryz.ntmps99
     go_wp2_with fail
     go_at_call 52
     refine (HN.out _ HR.out).mono ?_
     rintro e w1 ⟨rfl,hb⟩
     have A1:=Lib.hid (((At.start HR.out).below hb).alloc (.cells #[.int .u8 tk,.string tx,.int .i64 tw,.int .i64 tp] 111))
     have N1:=Lib.hid (Own.new w1 111 #[.int .u8 tk,.string tx,.int .i64 tw,.int .i64 tp])
     have hz:=Lib.hid hb.size
     clear hb
     go_wp2_with fail
     go_at_call 127
     refine (p_take_ok (A1.out.rd HR.out) ⟨#[123]⟩ (by decide) H1.out).mono ?_
     rintro e w2 ⟨rfl,hf2,hR2⟩
     have A2:=Lib.hid (A1.out.call hf2 hR2)
     have N2:=N1.out.fr hf2 (by have:=hX.out;have:=hz.out;omega)
     clear hf2 hR2
     go_wp2_with (first | (refine ld rowTok rfl rfl rfl N2 rfl ?_) | (go_at_call 97;refine (HQ.out _).mono ?_;rintro e w3 ⟨rfl,hb⟩;have HC:=Lib.hid hb;clear hb))
     refine ⟨rfl,A2.out.fr.trans (.of_below HC.out),?_⟩
     rw [← HP.out]
   · rw [if_neg hd]
     have hd':d≤64:=by omega
     clear h1 hd
     go_enter Tryz.func99,Tryz.ntmps99
     go_wp2_with fail
     go_at_call 52
     refine (HN.out _ HR.out).mono ?_
     rintro e w1 ⟨rfl,hb⟩
     have A1:=Lib.hid (((At.start HR.out).below hb).alloc (.cells #[.int .u8 tk,.string tx,.int .i64 tw,.int .i64 tp] 111))
     clear hb
     go_wp2_with fail
     go_at_call 127
     refine (p_take_ok (A1.out.rd HR.out) ⟨#[123]⟩ (by decide) H1.out).mono ?_
     rintro e w2 ⟨rfl,hf2,hR2⟩
     have A2:=Lib.hid (A1.out.call hf2 hR2)
     clear hf2 hR2
     go_wp2_with fail
     go_end0
     exact ⟨A2.out.fr,_,k+1,rfl,rfl,A2.out.rd HR.out,rfl⟩
 · have h1' : isT [123] (c.at k) = false := by simpa using h1
   rw [if_neg h1]
   simp only [PR.then_bad]
   have H1:=Lib.hid h1'
   clear h1 h1'
   go_enter Tryz.func99,Tryz.ntmps99
   go_wp2_with fail
   go_at_call 52
   refine (HN.out _ HR.out).mono ?_
   rintro e w1 ⟨rfl,hb⟩
   have A1:=Lib.hid (((At.start HR.out).below hb).alloc (.cells #[.int .u8 tk,.string tx,.int .i64 tw,.int .i64 tp] 111))
   clear hb
   go_wp2_with fail
   go_at_call 127
   refine (p_take_bad (A1.out.rd HR.out) ⟨#[123]⟩ (by decide) H1.out).mono ?_
   rintro e w2 ⟨rfl,hf2⟩
   have A2:=Lib.hid (A1.out.fr.trans hf2)
   clear hf2
   go_wp2_with fail
   exact ⟨rfl,A2.out,rfl⟩
end Go.Proofs.YtggbkldniffbfaaGreatDoor

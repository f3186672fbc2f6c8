/- The proof, part 17: texts that belong together, in one. -/
import Derived.Test.YtggbkldniffbfaaGreatDoorTAP
import Derived.Carry
set_option maxRecDepth 100000
set_option maxHeartbeats 20000000
namespace Go.Proofs.YtggbkldniffbfaaGreatDoor
open Go.RowKit
set_option linter.unusedVariables false
def thR (n:Nat) (t:Th) (v:Value) (W:World):Prop:=∃ a1 c1 a2 c2,v=.agg #[.string t.name,.slice a1 t.locals.length c1,.slice a2 t.body.length c2,.int .i64 t.pos]∧dcsAt (fun b=>n≤b) W t.locals a1∧stsAt (fun b=>n≤b) W t.body a2
structure ThI (c:Par) (w0:World) (tb:Nat) (nm:ByteArray) (p:Int) (vL:Value) (l:List Dc) (W:World) (k:Nat):Prop where
 run:At c w0 W k
 ge:w0.heap.size<tb
 res:Own W w0.heap.size 59 zTh
 own:Own W tb 59 #[.string nm,vL,.slice none 0 0,.int .i64 p]
 row:W.ownsRow w0.heap.size 53 3 vL l.length (dcsL l)
section
variable {c:Par} {w0 W W':World} {tb:Nat} {nm:ByteArray} {p:Int} {vL:Value} {l:List Dc} {k k2:Nat}
theorem ThI.call (h:ThI c w0 tb nm p vL l W k) (hf:Fr c W W') (hp:Rd c W' k2) (hX:c.X<w0.heap.size):ThI c w0 tb nm p vL l W' k2 :=
 ⟨h.run.call hf hp,h.ge,h.res.fr hf (by omega),h.own.fr hf (by have:=h.ge;omega),row_fr h.row hf hX⟩
theorem ThI.cell (h:ThI c w0 tb nm p vL l W k) {i:Nat} {v:Value} (hv:(#[.string nm,vL,.slice none 0 0,.int .i64 p]:Array Value)[i]? = some v):W.cell? ⟨tb,i,none⟩=some v:=by rw [cell_of_row W _ i _ _ _ h.own];exact hv
theorem ThI.drew (h:ThI c w0 tb nm p vL l W k):ThI c w0 tb nm p vL l W.drew k:=⟨h.run.drew,h.ge,h.res,h.own,h.row⟩
theorem ThI.grown (h:ThI c w0 tb nm p vL l W k) (hg:W.grownBy W' vL.ownBlock) (hX:c.X<w0.heap.size):At c w0 W' k∧Own W' w0.heap.size 59 zTh∧Own W' tb 59 #[.string nm,vL,.slice none 0 0,.int .i64 p] :=
 ⟨grown_fr h.run hg (fun r hr=>by have:=(h.row.lt r hr).1;exact ⟨this,by omega⟩),own_grown h.res hg (row_apart h.row h.res rfl),own_grown h.own hg (row_apart h.row h.own rfl)⟩
theorem ThI.end_ (h:ThI c w0 tb nm p vL l W k) {g cap:Nat} {d:List Dc} (hX:c.X<w0.heap.size) (hg:W.grownBy W' vL.ownBlock) (hown:W'.ownsRow w0.heap.size 53 3 (.slice (some ⟨g,0,none⟩) (l.length+d.length) cap) (l.length+d.length) (dcsL l++dcsL d)) :
 ThI c w0 tb nm p (.slice (some ⟨g,0,none⟩) (l.length+d.length) cap) (l++d) (W'.setRow tb #[.string nm,.slice (some ⟨g,0,none⟩) (l.length+d.length) cap,.slice none 0 0,.int .i64 p]) k:=by
 obtain ⟨h1,h2,h3⟩:=h.grown hg hX
 have ha:=row_apart hown h3 rfl
 refine ⟨h1.setRow (by have:=h.ge;omega) (by have:=h.ge;omega) _,h.ge,h2.other _ (by have:=h.ge;omega),h3.row _,?_⟩
 have:=row_row hown #[.string nm,.slice (some ⟨g,0,none⟩) (l.length+d.length) cap,.slice none 0 0,.int .i64 p] ha
 simp only [List.length_append,dcsL,List.flatMap_append] at this ⊢
 exact this
end
theorem list_both {L:Int} {one:List Tk→PR Dc} (ho:∀ ts d r,one ts=.ok d r→r.length<ts.length):∀ {n:Nat} {acc:List Dc} {ts:List Tk} {l:List Dc} {r:List Tk},listP L one n acc ts=.ok l r→l.length+r.length≤acc.length+ts.length
 | 0,acc,ts,l,r,h=>by simp [listP] at h
 | n + 1, acc, ts, l, r, h => by
   simp only [listP] at h
   obtain ⟨a,b,h1,h2⟩:=PR.then_eq_ok h
   have k:=ho _ _ _ h1
   split at h2
   · have := list_both ho h2
     rw [List.length_append,List.length_tail] at this
     simp at this
     omega
   · obtain ⟨u, c, h3, h4⟩ := PR.then_eq_ok h2
     cases h4
     have:=(need_ok h3).2.2
     rw [List.length_append]
     simp
     omega
def LocI (c:Par) (w:World) (tb:Nat) (nm:ByteArray) (p:Int) (Y:PR (List Dc)) (m:Nat) (W:World):Prop :=
 ∃ (j:Nat) (l:List Dc) (vL:Value),ThI c w tb nm p vL l W j∧localsP c.L m l (c.at j)=Y∧(c.at j).length<m∧l.length+(c.at j).length≤65536
theorem p_thread {c:Par} {w:World} {k n:Nat} (R:Rd c w k) (hn:3*(c.at k).length+2≤n) :
 Calls Tryz.prog 54 #[c.ptr] w (RdPost c w (threadP fnd c.L n (c.at k)) (fun t v w'=>thR w.heap.size t v w')):=by
 obtain ⟨Y,hY⟩:∃ Y,Y=threadP fnd c.L n (c.at k):=⟨_,rfl⟩
 obtain ⟨Y1,hY1⟩:∃ Y1,Y1=nameP c.L (c.at k):=⟨_,rfl⟩
 have HS:Hid (Y=Y1.then fun d r=>(openP c.L 1 r).then fun _ r=>(localsP c.L n [] r).then fun l r=>(restP fnd c.L n 1 [] r).then fun b r=>.ok ⟨d.name,l,b,d.pos⟩ r):=by rw [Hid,hY,hY1];rfl
 have HC1:Hid (∀ W,Rd c W k→Calls Tryz.prog 98 #[c.ptr] W (RdPost c W Y1 (fun d v _=>v=dcVal d))):=fun W RW=>by rw [hY1];exact p_name RW
 have HL1:Hid (∀ d r,Y1=.ok d r→r.length<(c.at k).length):=fun d r h=>nameP_short (hY1.symm.trans h)
 have hl0:(c.at k).length≤65536:=by rw [Par.at_len];have:=R.s.small.1;omega
 rw [← hY]
 have HP:Hid (∀ W j (s:ByteArray),Rd c W j→s.data.toList≠[]→Calls Tryz.prog 53 #[c.ptr,.string s] W fun e w'=>e=.returned (.bool (isT s.data.toList (c.at j)))∧Fr c W w'∧Rd c w' (if isT s.data.toList (c.at j)=true then j+1 else j)):=fun W j s RW hs=>p_pass RW s hs
 have HO:Hid (∀ W j,Rd c W j→Calls Tryz.prog 99 #[c.ptr,.int .i64 1] W (RdPost c W (openP c.L 1 (c.at j)) (fun _ v _=>v=.tuple #[]))):=fun W j RW=>p_open RW 1
 have HRS:Hid (∀ W j,Rd c W j→3*(c.at j).length+2≤n→Calls Tryz.prog 101 #[c.ptr,.int .i64 1] W (RdPost c W (restP fnd c.L n 1 [] (c.at j)) (fun l v w'=>stsVal W.heap.size l v w'))):=fun W j RW hf=>p_rest (fun m _=>stmt_all m) RW (by decide) (by decide) hf
 have A0:=Lib.hid ((At.start R).alloc (.cells zTh 59))
 have O0:=Own.new w 59 zTh
 have HR:=Lib.hid R
 have hX:=Lib.hid R.lt
 have HM:=Lib.hid (And.intro hn hl0)
 clear hY hY1 R hn hl0
 unfold Par.ptr dcVal zTh at *
 go_enter Tryz.func54,Tryz.ntmps54
 go_wp2_with fail
 go_at_call 98
 refine (HC1.out _ (A0.out.rd HR.out)).mono ?_
 rintro e w1 ⟨hf1,hm1⟩
 rcases Y1 with ⟨d1,r1⟩ | ⟨p,q⟩
 rotate_left
 · obtain rfl := hm1
   have AZ:=Lib.hid (A0.out.fr.trans hf1)
   clear hf1
   go_wp2_with fail
   refine ⟨rfl,?_⟩
   rw [HS.out]
   exact ⟨AZ.out,rfl⟩
 obtain ⟨v1,k1,rfl,rfl,hR1,rfl⟩:=hm1
 obtain ⟨nm,dw,dp⟩:=d1
 have HS:Hid (Y=(openP c.L 1 (c.at k1)).then fun _ r=>(localsP c.L n [] r).then fun l r=>(restP fnd c.L n 1 [] r).then fun b r=>.ok ⟨nm,l,b,dp⟩ r):=HS.out
 have hlen1:=HL1.out _ _ rfl
 have G:Hid (ThI c w (w1.heap.size+1) nm dp (.slice none 0 0) [] ((w1.alloc (.cells #[.string nm,.int .i64 dw,.int .i64 dp] 53)).alloc (.cells #[.string nm,.slice none 0 0,.slice none 0 0,.int .i64 dp] 59)) k1):=by
  have hz:=(O0.fr hf1 (by have:=hX.out;omega)).lt
  have o2:=Own.new (w1.alloc (.cells #[.string nm,.int .i64 dw,.int .i64 dp] 53)) 59 #[.string nm,.slice none 0 0,.slice none 0 0,.int .i64 dp]
  rw [World.size_alloc] at o2
  exact ⟨((A0.out.call hf1 hR1).alloc _).alloc _,by omega,((O0.fr hf1 (by have:=hX.out;omega)).alloc _).alloc _,o2,World.ownsRow_nil _ _ _ _⟩
 have HLEN:=Lib.hid hlen1
 clear hf1 hR1 hlen1 O0 A0
 go_wp2_with fail
 obtain ⟨W,hW⟩:∃ W,W=((w1.alloc (.cells #[.string nm,.int .i64 dw,.int .i64 dp] 53)).alloc (.cells #[.string nm,.slice none 0 0,.slice none 0 0,.int .i64 dp] 59)):=⟨_,rfl⟩
 rw [← hW] at G ⊢
 clear hW
 obtain ⟨TB,hTB⟩:∃ TB,TB=w1.heap.size+1:=⟨_,rfl⟩
 rw [← hTB] at G ⊢
 have HDB:Hid (w1.heap.size+1=TB):=hTB.symm
 obtain ⟨DB,hDB⟩:∃ DB,DB=w1.heap.size:=⟨_,rfl⟩
 rw [← hDB]
 clear hTB hDB
 obtain ⟨Z2,hZ2⟩:∃ Z2,Z2=openP c.L 1 (c.at k1):=⟨_,rfl⟩
 have HC2:Hid (∀ W,Rd c W k1→Calls Tryz.prog 99 #[.pointer (some ⟨c.X,0,none⟩),.int .i64 1] W (RdPost c W Z2 (fun _ v _=>v=.tuple #[]))):=fun W RW=>by rw [hZ2];exact HO.out W k1 RW
 have HL2:Hid (∀ u r,Z2=.ok u r→r.length<(c.at k1).length):=fun u r h=>by have:=open_short (hZ2.symm.trans h);omega
 have HS:Hid (Y=Z2.then fun _ r=>(localsP c.L n [] r).then fun l r=>(restP fnd c.L n 1 [] r).then fun b r=>.ok ⟨nm,l,b,dp⟩ r):=by rw [Hid,HS.out,hZ2]
 clear hZ2
 go_at_call 99
 refine (HC2.out _ (G.out.run.rd HR.out)).mono ?_
 rintro e w2 ⟨hf2,hm2⟩
 rcases Z2 with ⟨u2,r2⟩ | ⟨p,q⟩
 rotate_left
 · obtain rfl := hm2
   have AZ:=Lib.hid (G.out.run.fr.trans hf2)
   clear hf2
   go_wp2_with fail
   refine ⟨rfl,?_⟩
   rw [HS.out]
   exact ⟨AZ.out,rfl⟩
 obtain ⟨v2,k2,rfl,rfl,hR2,rfl⟩:=hm2
 have HL2:=Lib.hid (HL2.out _ _ rfl)
 have G:=Lib.hid (G.out.call hf2 hR2 hX.out)
 obtain ⟨Z3,hZ3⟩:∃ Z3,Z3=localsP c.L n [] (c.at k2):=⟨_,rfl⟩
 have HS:Hid (Y=Z3.then fun l r=>(restP fnd c.L n 1 [] r).then fun b r=>.ok ⟨nm,l,b,dp⟩ r):=by rw [Hid,HS.out,hZ3];rfl
 have HSH:Hid (∀ l r,Z3=.ok l r→r.length≤(c.at k2).length):=fun l r h=>locals_short _ _ _ _ _ (hZ3.symm.trans h)
 have B0:Hid (LocI c w TB nm dp Z3 n w2):=⟨k2,[],_,G.out,hZ3.symm,by have:=HM.out;have:=HLEN.out;have:=HL2.out;omega,by have:=HM.out;have:=HLEN.out;have:=HL2.out;simp;omega⟩
 clear hf2 hR2 hZ3 G
 go_wp2_with fail
 go_loopg [] n (fun m W=>LocI c w TB nm dp Z3 m W∧m≤n)
 case atStart=>exact ⟨B0.out,Nat.le_refl _⟩
 case round =>
  obtain ⟨⟨j,l,vL,G1,hY1,hfu,hle⟩,hgn⟩:=hrel
  have G:=Lib.hid G1
  have HFU:=Lib.hid (And.intro hfu hle)
  have HGN:=Lib.hid hgn
  have HY1:=Lib.hid hY1
  clear G1 hY1 hfu hle hgn
  obtain ⟨m,rfl⟩:∃ m,gk=m+1:=⟨gk-1,by have:=HFU.out.1;omega⟩
  obtain ⟨B,hB⟩:∃ b,b=isT [108,111,99,97,108] (c.at j):=⟨_,rfl⟩
  have HCB:Hid (∀ W,Rd c W j→Calls Tryz.prog 53 #[.pointer (some ⟨c.X,0,none⟩),.string ⟨#[108,111,99,97,108]⟩] W fun e w'=>e=.returned (.bool B)∧Fr c W w'∧Rd c w' (if B=true then j+1 else j)):=fun W RW=>by rw [hB];exact HP.out W j ⟨#[108,111,99,97,108]⟩ RW (by decide)
  cases B with
  | false =>
    have hz3:Z3=.ok l (c.at j):=by rw [← HY1.out];unfold localsP;rw [← hB];rfl
    have HZ:=Lib.hid hz3
    clear hz3 hB
    go_wp2_with fail
    go_at_call 53
    refine (HCB.out _ (G.out.run.rd HR.out)).mono ?_
    rintro e w3 ⟨rfl,hf3,hR3⟩
    have G:=Lib.hid (G.out.call hf3 (show Rd c w3 j from hR3) hX.out)
    clear hf3 hR3
    go_wp2_with fail
    have HK:=Lib.hid (HSH.out _ _ HZ.out)
    obtain ⟨Z4,hZ4⟩:∃ Z4,Z4=restP fnd c.L n 1 [] (c.at j):=⟨_,rfl⟩
    have HC4:Hid (∀ W,Rd c W j→Calls Tryz.prog 101 #[.pointer (some ⟨c.X,0,none⟩),.int .i64 1] W (RdPost c W Z4 (fun l v w'=>stsVal W.heap.size l v w'))):=fun W RW=>by rw [hZ4];exact HRS.out W j RW (by have:=HM.out.1;have:=HLEN.out;have:=HL2.out;have:=HK.out;omega)
    have HS:Hid (Y=Z4.then fun b r=>.ok ⟨nm,l,b,dp⟩ r):=by rw [Hid,HS.out,HZ.out,hZ4];rfl
    clear hZ4
    go_at_call 101
    refine (HC4.out _ (G.out.run.rd HR.out)).mono ?_
    rintro e w4 ⟨hf4,hm4⟩
    rcases Z4 with ⟨l4,r4⟩ | ⟨p,q⟩
    rotate_left
    · obtain rfl := hm4
      have AZ:=Lib.hid (G.out.run.fr.trans hf4)
      clear hf4
      go_wp2_with fail
      refine ⟨rfl,?_⟩
      show RdPost c w Y _ _ _
      rw [HS.out]
      exact ⟨AZ.out,rfl⟩
    obtain ⟨v4,k4,rfl,⟨a4,cap4,rfl,hV4⟩,hR4,rfl⟩:=hm4
    have hlt3:=G.out.own.lt
    have hge:=Lib.hid G.out.ge
    have V4:=Lib.hid (stsAt_mono (R':=fun b=>w.heap.size≤b∧b≠TB∧b≠w.heap.size) hV4 (fun b hb=>by have:=hge.out;change _≤_ at hb;omega))
    have G:=Lib.hid (G.out.call hf4 hR4 hX.out)
    clear hf4 hR4 hV4 hlt3
    obtain ⟨oa,cap,rfl,hoa⟩:=row_shape G.out.row
    have HOA:=Lib.hid hoa
    clear hoa
    have E5:w4.setCell ⟨TB,2,none⟩ (.slice a4 l4.length cap4)=w4.setRow TB #[.string nm,.slice oa l.length cap,.slice a4 l4.length cap4,.int .i64 dp]:=setCell_row G.out.own 2 _
    have c4:=G.out.cell (i:=2) (v:=.slice none 0 0) rfl
    have z4:=own_frozen G.out.own 2
    have hne:w.heap.size≠TB:=by have:=hge.out;omega
    have hnX:c.X≠TB:=by have:=hge.out;have:=hX.out;omega
    have hnX0:c.X≠w.heap.size:=by have:=hX.out;omega
    have OR:=G.out.res.other (g:=TB) #[.string nm,.slice oa l.length cap,.slice a4 l4.length cap4,.int .i64 dp] hne
    have OS:=G.out.own.row #[.string nm,.slice oa l.length cap,.slice a4 l4.length cap4,.int .i64 dp]
    have ROW:=Lib.hid (row_row G.out.row #[.string nm,.slice oa l.length cap,.slice a4 l4.length cap4,.int .i64 dp] (row_apart G.out.row G.out.own rfl))
    have RA:=Lib.hid (row_apart G.out.row G.out.res rfl)
    have V5:=Lib.hid (stsAt_stays (stays_row w4 (g:=TB) #[.string nm,.slice oa l.length cap,.slice a4 l4.length cap4,.int .i64 dp] (fun b hb=>hb.2.1)) (fun b hb=>hb) V4.out)
    have A5:=Lib.hid (G.out.run.setRow (g:=TB) (by have:=hge.out;omega) hnX #[.string nm,.slice oa l.length cap,.slice a4 l4.length cap4,.int .i64 dp])
    have hne:=Lib.hid hne
    have hnX:=Lib.hid hnX
    have hnX0:=Lib.hid hnX0
    unfold zTh at OR
    go_wp2_with (first | (refine ld rowTh rfl rfl rfl OS rfl ?_) | (refine st rowTh rfl rfl OR rfl rfl (by rfl) (by rfl) (by kernel_rfl) ?_))
    clear E5 c4 z4
    have A6:=A5.out.setRow (Nat.le_refl _) hnX0.out #[.string nm,.slice oa l.length cap,.slice a4 l4.length cap4,.int .i64 dp]
    refine p_ret rowTh rfl (OR.row #[.string nm,.slice oa l.length cap,.slice a4 l4.length cap4,.int .i64 dp]) rfl rfl rfl ?_
    show RdPost c w Y _ _ _
    rw [HS.out]
    refine ⟨A6.fr,_,k4,rfl,⟨oa,cap,a4,cap4,rfl,?_,stsAt_stays (stays_row _ (g:=w.heap.size) _ (fun b hb=>hb.2.2)) (fun b hb=>hb.1) V5.out⟩,A6.rd HR.out,rfl⟩
    have ROW6:=row_row ROW.out (g:=w.heap.size) #[.string nm,.slice oa l.length cap,.slice a4 l4.length cap4,.int .i64 dp] RA.out
    cases l with
    | nil=>exact .inl rfl
    | cons x xx =>
      obtain ⟨g,rfl,hg⟩:=HOA.out (by simp)
      exact .inr ⟨g,0,rfl,hg,dcsIn_of (row_cells ROW6 rfl)⟩
  | true =>
    obtain ⟨Z4,hZ4⟩:∃ Z4,Z4=listP c.L (nameP c.L) m [] (c.at (j+1)):=⟨_,rfl⟩
    have hjl:=Par.isT_lt hB.symm
    have hat:=at_step hjl
    have HC4:Hid (∀ W,Rd c W (j+1)→Calls Tryz.prog 100 #[.pointer (some ⟨c.X,0,none⟩),.func (.func 98) #[.pointer (some ⟨c.X,0,none⟩)] #[]] W (RdPost c W Z4 (fun l v w'=>w'.ownsRow W.heap.size 53 3 v l.length (dcsL l)∧l≠[]))):=fun W RW=>by rw [hZ4];exact p_list_name RW (by have:=HFU.out.1;omega)
    have HN4:Hid (∀ d r,Z4=.ok d r→d.length≤(c.at (j+1)).length∧d.length+r.length≤(c.at (j+1)).length):=fun d r h=>by have:=list_both (fun _ _ _=>nameP_short) (hZ4.symm.trans h);simp at this;omega
    have hz3:Z3=Z4.then fun d r=>localsP c.L m (l++d) r:=by
     rw [← HY1.out];conv=>lhs;unfold localsP
     rw [← hB,hZ4,Par.at_tail];rfl
    have HZ:=Lib.hid hz3
    have HAT:=Lib.hid hat
    clear hz3 hB hZ4 hjl hat
    go_wp2_with fail
    go_at_call 53
    refine (HCB.out _ (G.out.run.rd HR.out)).mono ?_
    rintro e w3 ⟨rfl,hf3,hR3⟩
    have G:=Lib.hid (G.out.call hf3 (show Rd c w3 (j+1) from hR3) hX.out)
    clear hf3 hR3
    go_wp2_with fail
    refine wp_region_held (S:=fun _=>True) (by kernel_rfl) ?_
    have G:=G.out.drew
    change wpAnyH _ _ _ _ _ _ _ _ w3.drew
    obtain ⟨W0,hW0⟩:∃ W0,W0=w3.drew:=⟨_,rfl⟩
    rw [← hW0] at G ⊢
    clear hW0
    refine dr_take 0 (.pointer (some ⟨TB,1,none⟩)) rfl rfl (by kernel_rfl) (by kernel_rfl) (by kernel_rfl) (fun _ _ _ h=>h) (fun _ _=>by unfold execOp;go_simp) trivial ?_
    change wpAnyH _ _ _ _ _ _ _ { tmps:=#[_,_,_,_,_,_,_,_,_,_,_,_,_,_,_,_,_,_,_,_,_,_,_,_,_,_,_,_],defers:=[] } _
    refine dr_take 2 (.pointer (some ⟨c.X,0,none⟩)) rfl rfl (by kernel_rfl) (by kernel_rfl) (by kernel_rfl) (fun _ _ _ h=>h) (fun _ _=>rfl) trivial ?_
    change wpAnyH _ _ _ _ _ _ _ { tmps:=#[_,_,_,_,_,_,_,_,_,_,_,_,_,_,_,_,_,_,_,_,_,_,_,_,_,_,_,_],defers:=[] } _
    refine dr_take 3 (.pointer (some ⟨c.X,0,none⟩)) rfl rfl (by kernel_rfl) (by kernel_rfl) (by kernel_rfl) (fun _ _ _ h=>h) (fun _ _=>rfl) trivial ?_
    change wpAnyH _ _ _ _ _ _ _ { tmps:=#[_,_,_,_,_,_,_,_,_,_,_,_,_,_,_,_,_,_,_,_,_,_,_,_,_,_,_,_],defers:=[] } _
    refine dr_take 4 (.func (.func 98) #[.pointer (some ⟨c.X,0,none⟩)] #[]) rfl rfl (by kernel_rfl) (by kernel_rfl) (by kernel_rfl) (fun _ _ _ h=>h) (fun _ _=>by unfold execOp;go_simp) trivial ?_
    change wpAnyH _ _ _ _ _ _ _ { tmps:=#[_,_,_,_,_,_,_,_,_,_,_,_,_,_,_,_,_,_,_,_,_,_,_,_,_,_,_,_],defers:=[] } _
    refine dr_two 1 5 rfl rfl rfl rfl (by kernel_rfl) ?_ ?_
    · refine wp_ld_dcs rfl rfl (G.cell (i := 1) (v := vL) rfl) ⟨trivial, ?_⟩
      change wpAnyH _ _ _ _ _ _ _ { tmps:=#[_,_,_,_,_,_,_,_,_,_,_,_,_,_,_,_,_,_,_,_,_,_,_,_,_,_,_,_],defers:=[] } _
      refine dr_one 5 rfl rfl (by kernel_rfl) ?_
      refine wp_call (vs:=#[.pointer (some ⟨c.X,0,none⟩),.func (.func 98) #[.pointer (some ⟨c.X,0,none⟩)] #[]]) rfl rfl (enters_of Tryz.func100 (by kernel_rfl) rfl) (by simp [Act.eval]) (HC4.out _ (G.run.rd HR.out)) ?_
      rintro e w4 ⟨hf4,hm⟩
      rcases Z4 with ⟨d,r⟩ | ⟨q,rl⟩
      rotate_left
      · obtain rfl := hm
        have AZ:=G.run.fr.trans hf4
        have AZ:=Lib.hid AZ
        clear hf4
        go_wp2_with fail
        refine ⟨rfl,?_⟩
        show RdPost c w Y _ _ _
        rw [HS.out,HZ.out]
        exact ⟨AZ.out,rfl⟩
      obtain ⟨v1,k3,rfl,⟨hrow1,hd1⟩,hR1,rfl⟩:=hm
      have G1:=G.call hf4 hR1 hX.out
      have hlen:=HN4.out _ _ rfl
      obtain ⟨g1,cap1,rfl,hg1,hlt1⟩:=hrow1.form (List.length_pos_iff.2 hd1)
      refine ⟨trivial,?_⟩
      change wpAnyH _ _ _ _ _ _ _ { tmps:=#[_,_,_,_,_,_,_,_,_,_,_,_,_,_,_,_,_,_,_,_,_,_,_,_,_,_,_,_],defers:=[] } _
      refine dr_one 6 rfl rfl (by kernel_rfl) ?_
      obtain ⟨i0,hi,hi0,hi1,hi2⟩:=info_parts infoDc
      refine wp_append_lies w4 _ _ 22 rfl w.heap.size 53 i0 _ 3 32 Tryz.underlying22 hi hi0 hi1 hi2 rfl (by decide) vL l.length (dcsL l) rfl G1.row ⟨g1,0,none⟩ d.length cap1 (dcsL d) rfl (dcsL_len d) (row_news hrow1) (dcsL_cells d) (List.length_pos_iff.2 hd1) (by simp only [maxLen];have:=HFU.out.2;have:=HAT.out;omega) (by have:=HFU.out.2;have:=HAT.out;omega) (by have:=G1.run.fr.size;omega) _ rfl ?_
      intro g2 cap2 w5 hown2 hgrow2 hlies2 hlt2
      refine ⟨trivial,?_⟩
      change wpAnyH _ _ _ _ _ _ _ { tmps:=#[_,_,_,_,_,_,_,_,_,_,_,_,_,_,_,_,_,_,_,_,_,_,_,_,_,_,_,_],defers:=[] } _
      refine dr_take 7 (.pointer (some ⟨TB,1,none⟩)) rfl rfl (by kernel_rfl) (by kernel_rfl) (by kernel_rfl) (fun _ _ _ h=>h) (fun _ _=>by unfold execOp;go_simp) trivial ?_
      change wpAnyH _ _ _ _ _ _ _ { tmps:=#[_,_,_,_,_,_,_,_,_,_,_,_,_,_,_,_,_,_,_,_,_,_,_,_,_,_,_,_],defers:=[] } _
      refine dr_one 8 rfl rfl (by kernel_rfl) ?_
      obtain ⟨B1,B2,B3⟩:=G1.grown hgrow2 hX.out
      refine wp_st_dcs rfl rfl rfl (u:=vL) (by rw [cell_of_row w5 _ 1 _ _ _ B3];rfl) (own_frozen B3 1) ⟨trivial,?_⟩
      rw [setCell_row B3 1 _]
      have G3:=Lib.hid (G1.end_ hX.out hgrow2 hown2)
      have HLN:=Lib.hid hlen
      refine wpAnyH_done (by kernel_rfl) ?_ _
      clear hrow1 hown2 hgrow2 hlies2 B1 B2 B3 G1 hlen
      go_wp2_with fail
      go_roundg m
      case measure=>omega
      case rel =>
       refine ⟨⟨k3,l++d,_,G3.out,HZ.out.symm,by have:=HFU.out.1;have:=HLN.out;have:=HAT.out;omega,by have:=HFU.out.2;have:=HLN.out;have:=HAT.out;rw [List.length_append];omega⟩,by have:=HGN.out;omega⟩
    · skip
      refine wp_call (vs:=#[.pointer (some ⟨c.X,0,none⟩),.func (.func 98) #[.pointer (some ⟨c.X,0,none⟩)] #[]]) rfl rfl (enters_of Tryz.func100 (by kernel_rfl) rfl) (by simp [Act.eval]) (HC4.out _ (G.run.rd HR.out)) ?_
      rintro e w4 ⟨hf4,hm⟩
      rcases Z4 with ⟨d,r⟩ | ⟨q,rl⟩
      rotate_left
      · obtain rfl := hm
        have AZ:=G.run.fr.trans hf4
        have AZ:=Lib.hid AZ
        clear hf4
        go_wp2_with fail
        refine ⟨rfl,?_⟩
        show RdPost c w Y _ _ _
        rw [HS.out,HZ.out]
        exact ⟨AZ.out,rfl⟩
      obtain ⟨v1,k3,rfl,⟨hrow1,hd1⟩,hR1,rfl⟩:=hm
      have G1:=G.call hf4 hR1 hX.out
      have hlen:=HN4.out _ _ rfl
      obtain ⟨g1,cap1,rfl,hg1,hlt1⟩:=hrow1.form (List.length_pos_iff.2 hd1)
      refine ⟨trivial,?_⟩
      change wpAnyH _ _ _ _ _ _ _ { tmps:=#[_,_,_,_,_,_,_,_,_,_,_,_,_,_,_,_,_,_,_,_,_,_,_,_,_,_,_,_],defers:=[] } _
      refine dr_one 1 rfl rfl (by kernel_rfl) ?_
      refine wp_ld_dcs rfl rfl (G1.cell (i:=1) (v:=vL) rfl) ⟨trivial,?_⟩
      change wpAnyH _ _ _ _ _ _ _ { tmps:=#[_,_,_,_,_,_,_,_,_,_,_,_,_,_,_,_,_,_,_,_,_,_,_,_,_,_,_,_],defers:=[] } _
      refine dr_one 6 rfl rfl (by kernel_rfl) ?_
      obtain ⟨i0,hi,hi0,hi1,hi2⟩:=info_parts infoDc
      refine wp_append_lies w4 _ _ 22 rfl w.heap.size 53 i0 _ 3 32 Tryz.underlying22 hi hi0 hi1 hi2 rfl (by decide) vL l.length (dcsL l) rfl G1.row ⟨g1,0,none⟩ d.length cap1 (dcsL d) rfl (dcsL_len d) (row_news hrow1) (dcsL_cells d) (List.length_pos_iff.2 hd1) (by simp only [maxLen];have:=HFU.out.2;have:=HAT.out;omega) (by have:=HFU.out.2;have:=HAT.out;omega) (by have:=G1.run.fr.size;omega) _ rfl ?_
      intro g2 cap2 w5 hown2 hgrow2 hlies2 hlt2
      refine ⟨trivial,?_⟩
      change wpAnyH _ _ _ _ _ _ _ { tmps:=#[_,_,_,_,_,_,_,_,_,_,_,_,_,_,_,_,_,_,_,_,_,_,_,_,_,_,_,_],defers:=[] } _
      refine dr_take 7 (.pointer (some ⟨TB,1,none⟩)) rfl rfl (by kernel_rfl) (by kernel_rfl) (by kernel_rfl) (fun _ _ _ h=>h) (fun _ _=>by unfold execOp;go_simp) trivial ?_
      change wpAnyH _ _ _ _ _ _ _ { tmps:=#[_,_,_,_,_,_,_,_,_,_,_,_,_,_,_,_,_,_,_,_,_,_,_,_,_,_,_,_],defers:=[] } _
      refine dr_one 8 rfl rfl (by kernel_rfl) ?_
      obtain ⟨B1,B2,B3⟩:=G1.grown hgrow2 hX.out
      refine wp_st_dcs rfl rfl rfl (u:=vL) (by rw [cell_of_row w5 _ 1 _ _ _ B3];rfl) (own_frozen B3 1) ⟨trivial,?_⟩
      rw [setCell_row B3 1 _]
      have G3:=Lib.hid (G1.end_ hX.out hgrow2 hown2)
      have HLN:=Lib.hid hlen
      refine wpAnyH_done (by kernel_rfl) ?_ _
      clear hrow1 hown2 hgrow2 hlies2 B1 B2 B3 G1 hlen
      go_wp2_with fail
      go_roundg m
      case measure=>omega
      case rel =>
       refine ⟨⟨k3,l++d,_,G3.out,HZ.out.symm,by have:=HFU.out.1;have:=HLN.out;have:=HAT.out;omega,by have:=HFU.out.2;have:=HLN.out;have:=HAT.out;rw [List.length_append];omega⟩,by have:=HGN.out;omega⟩
open Go.RowKit
set_option linter.unusedVariables false
theorem infoTh:(Tryz.prog.info? 59).map (fun i=>(i.zero,i.size,i.bytes))=some (some (.agg zTh),4,72):=by kernel_rfl
theorem dcsAt_in {R:Nat→Prop} {w:World} {l:List Dc} {a:Option Addr} (h:dcsAt R w l a):dcsAt (fun b=>R b∧b<w.heap.size) w l a:=by
 rcases h with h | ⟨g,q,rfl,hg,hi⟩
 · exact .inl h
 · cases l with
   | nil=>exact .inl rfl
   | cons d r=>exact .inr ⟨g,q,rfl,⟨hg,cell_lt hi.1.1⟩,hi⟩
theorem dcsAt_mono {R R':Nat→Prop} {w:World} {l:List Dc} {a:Option Addr} (h:dcsAt R w l a) (hm:∀ b,R b→R' b):dcsAt R' w l a:=dcsAt_stays (Stays.refl R w) hm h
theorem thV_in {R:Nat→Prop} {w:World} {t:Th} {vs:List Value} (h:thV R w t vs):thV (fun b=>R b∧b<w.heap.size) w t vs:=by
 obtain ⟨a1,c1,a2,c2,h1,h2,h3⟩:=h
 exact ⟨a1,c1,a2,c2,h1,dcsAt_in h2,stsAt_in h3⟩
theorem thsV_in {R:Nat→Prop} {w:World} : ∀ {l:List Th} {xs:List Value},thsV R w l xs→thsV (fun b=>R b∧b<w.heap.size) w l xs
 | [],xs,h=>h
 | t::r,xs,⟨us,ys,h1,h2,h3⟩=>⟨us,ys,h1,thV_in h2,thsV_in h3⟩
def pgR (n:Nat) (p:Pg) (v:Value) (W:World):Prop:=∃ a1 c1 a2 c2 a3 c3,v=.agg #[.slice a1 p.shared.length c1,.slice a2 p.locks.length c2,.slice a3 p.threads.length c3]∧dcsAt (fun b=>n≤b) W p.shared a1∧dcsAt (fun b=>n≤b) W p.locks a2∧thsAt (fun b=>n≤b) W p.threads a3
def RB (w0:World) (pb:Nat) (v:Value) (b:Nat):Prop:=w0.heap.size<b∧b≠pb∧v.ownBlock≠some b
structure PgT (c:Par) (w0:World) (pb:Nat) (a1:Option Addr) (c1:Nat) (a2:Option Addr) (c2:Nat) (vT:Value) (p:Pg) (l:List Th) (xs:List Value) (W:World) (k:Nat):Prop where
 run:At c w0 W k
 ge:w0.heap.size<pb
 res:Own W w0.heap.size 25 zPg
 own:Own W pb 25 #[.slice a1 p.shared.length c1,.slice a2 p.locks.length c2,vT]
 dS:dcsAt (RB w0 pb vT) W p.shared a1
 dL:dcsAt (RB w0 pb vT) W p.locks a2
 rT:W.ownsRow w0.heap.size 59 4 vT l.length xs
 tv:thsV (RB w0 pb vT) W l xs
theorem dcs_of_row {W:World} {w0:World} {pb:Nat} {v:Value} {l:List Dc} (h:W.ownsRow w0.heap.size 53 3 v l.length (dcsL l)) (h1:v.ownBlock≠some w0.heap.size) (h2:v.ownBlock≠some pb):∃ a cap,v=.slice a l.length cap∧dcsAt (RB w0 pb (.slice none 0 0)) W l a:=by
 obtain ⟨oa,cap,rfl,hoa⟩:=row_shape h
 refine ⟨oa,cap,rfl,?_⟩
 cases l with
 | nil=>exact .inl rfl
 | cons x r =>
   obtain ⟨g,rfl,hg⟩:=hoa (by simp)
   refine .inr ⟨g,0,rfl,⟨?_,?_,by simp [Value.ownBlock]⟩,dcsIn_of (row_cells h rfl)⟩
   · have : g ≠ w0.heap.size := fun e => h1 (by rw [e]; rfl)
     omega
   · exact fun e=>h2 (by rw [e];rfl)
theorem PgI.threads {c:Par} {w0 W:World} {pb k:Nat} {vS vL:Value} {p:Pg} (h:PgI c w0 pb vS vL p W k):∃ a1 c1 a2 c2,vS=.slice a1 p.shared.length c1∧vL=.slice a2 p.locks.length c2∧PgT c w0 pb a1 c1 a2 c2 (.slice none 0 0) p [] [] W k:=by
 obtain ⟨a1,c1,rfl,d1⟩:=dcs_of_row (pb:=pb) h.rS (row_apart h.rS h.res rfl) (row_apart h.rS h.own rfl)
 obtain ⟨a2,c2,rfl,d2⟩:=dcs_of_row (pb:=pb) h.rL (row_apart h.rL h.res rfl) (row_apart h.rL h.own rfl)
 exact ⟨a1,c1,a2,c2,rfl,rfl,h.run,h.ge,h.res,h.own,d1,d2,World.ownsRow_nil _ _ _ _,rfl⟩
section
variable {c:Par} {w0 W W':World} {pb:Nat} {a1 a2:Option Addr} {c1 c2:Nat} {vT:Value} {p:Pg} {l:List Th} {xs:List Value} {k k2:Nat}
theorem PgT.call (h:PgT c w0 pb a1 c1 a2 c2 vT p l xs W k) (hf:Fr c W W') (hp:Rd c W' k2) (hX:c.X<w0.heap.size):PgT c w0 pb a1 c1 a2 c2 vT p l xs W' k2:=by
 have st:Stays (RB w0 pb vT) W W':=stays_fr hf (fun b hb=>by have:=hb.1;omega)
 exact ⟨h.run.call hf hp,h.ge,h.res.fr hf (by omega),h.own.fr hf (by have:=h.ge;omega),dcsAt_stays st (fun _ h=>h) h.dS,dcsAt_stays st (fun _ h=>h) h.dL,row_fr h.rT hf hX,thsV_stays st (fun _ h=>h) h.tv⟩
theorem PgT.cell (h:PgT c w0 pb a1 c1 a2 c2 vT p l xs W k) {i:Nat} {v:Value} (hv:(#[.slice a1 p.shared.length c1,.slice a2 p.locks.length c2,vT]:Array Value)[i]? = some v):W.cell? ⟨pb,i,none⟩=some v:=by rw [cell_of_row W _ i _ _ _ h.own];exact hv
theorem PgT.drew (h:PgT c w0 pb a1 c1 a2 c2 vT p l xs W k):PgT c w0 pb a1 c1 a2 c2 vT p l xs W.drew k :=
 have st:Stays (RB w0 pb vT) W W.drew:=fun _ _ _ _ h=>h
 ⟨h.run.drew,h.ge,h.res,h.own,dcsAt_stays st (fun _ h=>h) h.dS,dcsAt_stays st (fun _ h=>h) h.dL,h.rT,thsV_stays st (fun _ h=>h) h.tv⟩
theorem PgT.alloc (h:PgT c w0 pb a1 c1 a2 c2 vT p l xs W k) (o:Obj) (hX:c.X<w0.heap.size) (R:Rd c w0 k2):PgT c w0 pb a1 c1 a2 c2 vT p l xs (W.alloc o) k :=
 h.call ((Fr.refl c W).alloc o) ((h.run.rd R).alloc o) hX
theorem PgT.grown (h:PgT c w0 pb a1 c1 a2 c2 vT p l xs W k) (hg:W.grownBy W' vT.ownBlock) (hX:c.X<w0.heap.size):At c w0 W' k∧Own W' w0.heap.size 25 zPg∧Own W' pb 25 #[.slice a1 p.shared.length c1,.slice a2 p.locks.length c2,vT] :=
 ⟨grown_fr h.run hg (fun r hr=>by have:=(h.rT.lt r hr).1;exact ⟨this,by omega⟩),own_grown h.res hg (row_apart h.rT h.res rfl),own_grown h.own hg (row_apart h.rT h.own rfl)⟩
theorem PgT.end_ (h:PgT c w0 pb a1 c1 a2 c2 vT p l xs W k) {t:Th} {vs:List Value} {g cap:Nat} (hX:c.X<w0.heap.size) (hv:thV (fun b=>RB w0 pb vT b∧b<W.heap.size) W t vs) (hg:W.grownBy W' vT.ownBlock)
 (hown:W'.ownsRow w0.heap.size 59 4 (.slice (some ⟨g,0,none⟩) (l.length+1) cap) (l.length+1) (xs++vs)) (hl:vT.ownBlock=some g∨g=W.heap.size) :
 PgT c w0 pb a1 c1 a2 c2 (.slice (some ⟨g,0,none⟩) (l.length+1) cap) p (l++[t]) (xs++vs) (W'.setRow pb #[.slice a1 p.shared.length c1,.slice a2 p.locks.length c2,.slice (some ⟨g,0,none⟩) (l.length+1) cap]) k:=by
 obtain ⟨h1,h2,h3⟩:=h.grown hg hX
 have ha:=row_apart hown h3 rfl
 have st1:Stays (fun b=>RB w0 pb vT b∧b<W.heap.size) W W':=stays_grown hg (fun b hb=>hb.1.2.2)
 have st2:Stays (fun b=>RB w0 pb vT b∧b<W.heap.size) W' (W'.setRow pb #[.slice a1 p.shared.length c1,.slice a2 p.locks.length c2,.slice (some ⟨g,0,none⟩) (l.length+1) cap]):=stays_row W' _ (fun b hb=>hb.1.2.1)
 have st:=st1.trans st2
 have hm:∀ b,RB w0 pb vT b∧b<W.heap.size→RB w0 pb (.slice (some ⟨g,0,none⟩) (l.length+1) cap) b:=fun b hb=>by
  refine ⟨hb.1.1,hb.1.2.1,fun e=>?_⟩
  have e:g=b:=by simpa [Value.ownBlock] using e
  subst e
  rcases hl with hl | hl
  · exact hb.1.2.2 hl
  · have:=hb.2;omega
 refine ⟨h1.setRow (by have:=h.ge;omega) (by have:=h.ge;omega) _,h.ge,h2.other _ (by have:=h.ge;omega),h3.row _,dcsAt_stays st hm (dcsAt_in h.dS),dcsAt_stays st hm (dcsAt_in h.dL),?_,thsV_stays st hm (thsV_snoc (thsV_in h.tv) hv)⟩
 have:=row_row hown #[.slice a1 p.shared.length c1,.slice a2 p.locks.length c2,.slice (some ⟨g,0,none⟩) (l.length+1) cap] ha
 rw [List.length_append]
 exact this
end
open Go.RowKit
set_option linter.unusedVariables false
def putB (w:World) (r:Nat) (o:Obj):World:={ w with heap:=w.heap.setIfInBounds r o }
theorem putB_size (w:World) (r:Nat) (o:Obj):(putB w r o).heap.size=w.heap.size:=by simp [putB]
theorem putB_same {w:World} {r:Nat} (o:Obj) (h:r<w.heap.size):(putB w r o).heap[r]? = some o:=by
 simp [putB,h]
theorem putB_other {w:World} {r b:Nat} (o:Obj) (h:b≠r):(putB w r o).heap[b]? = w.heap[b]?:=by
 simp only [putB]
 rw [Array.getElem?_setIfInBounds_ne (fun e=>h e.symm)]
theorem putB_below {n:Nat} {a w:World} {r:Nat} (o:Obj) (h:Below n a w) (hr:n≤r):Below n a (putB w r o) :=
 ⟨h.os,h.tape,h.output,by rw [putB_size];exact h.size,fun k hk=>(putB_other o (by omega)).trans (h.block k hk)⟩
theorem run_ins {P:Program} {w:World} {t k e:TypeId} {b:Nat} {es:Array MapEntry} {clock:Nat} (ht:P.underlying t=some (.map k e)) (hk:P.underlying k=some .string)
 (hb:w.heap[b]? = some (.map es clock)) (s:ByteArray) (v:Value) (hf:Instr.findNow .string (.string s) es.toList 0=some none) :
 (Instr.mapUpdate t (.map (some b)) (.string s) v).run P w=.ok () (putB w b (.map (es.push ⟨.string s,v,clock⟩) (clock+1))):=by
 have hck:(Instr.checkKey false 10000 k (.string s)).run P w=.ok () w:=MapKept.run_checkKey (d:=.string) hk (by simp [MapKept.IsKey]) false 9999
 have hf:=MapKept.run_findKey (w:=w) hk hf
 unfold Instr.mapUpdate
 simp [run_underlying ht,Result.andThen,MapKept.run_getObj_map hb,hck,hf,MapKept.run_setObj_map _ hb,putB]
theorem p_mkunary {w:World} (X:Nat) (o:Int):Calls Tryz.prog 95 #[.pointer (some ⟨X,0,none⟩),.int .u8 o] w fun e w'=>e=.returned (.func (.func 128) #[] #[.pointer (some ⟨w.heap.size,0,none⟩),.pointer (some ⟨w.heap.size+1,0,none⟩)])∧w'=(w.alloc (.cells #[.pointer (some ⟨X,0,none⟩)] 68)).alloc (.cells #[.int .u8 o] 27):=by
 go_enter Tryz.func95,Tryz.ntmps95
 go_wp2
 go_ret
 exact ⟨rfl,rfl⟩
theorem p_end {c:Par} {w:World} {k:Nat} (R:Rd c w k) :
 Calls Tryz.prog 51 #[c.ptr] w fun e w'=>Fr c w w'∧e=match c.at k with | []=>.returned (.tuple #[]) | t::_=>.panicked (flt t.pos 2):=by
 obtain ⟨⟨c0,c1,c2,_⟩,f⟩:=R.cells
 have hX:=R.lt
 have hle:=R.le
 have hsm:=R.s.small.1
 by_cases hk:k<c.toks.length
 · have hnx : c.nx k = (c.toks[k]).tk := by unfold Par.nx; rw [Par.at_lt hk]
   have HN:Hid (∀ W,Rd c W k→Calls Tryz.prog 52 #[c.ptr] W fun e w'=>e=.returned (tkV (c.nx k))∧Below W.heap.size W w'):=fun W h=>p_next h
   rw [Par.at_lt hk]
   have HQ:=Lib.hid (fun w=>p_refuse (c.nx k) 2 w)
   rw [hnx] at HN HQ
   generalize (c.toks[k]).tk=t at HN HQ ⊢
   have hkk:decide ((k:Int)<(c.toks.length:Int))=true:=b_t (by omega)
   obtain ⟨n,hn⟩:∃ n,n=c.toks.length:=⟨_,rfl⟩
   rw [← hn] at c0 hkk hk hle hsm
   have HR:=Lib.hid R
   have HD:Hid (∀ n,Rd c (w.drewN n) k):=fun n=>⟨R.s.drewN n,R.pos,R.le⟩
   clear hnx hn R
   unfold Par.ptr tkV at *
   go_enter Tryz.func51,Tryz.ntmps51
   go_wp2
   go_quiet (fail)
   have hD:=HD.out nq
   have HF:Hid (Fr c w (w.drewN nq)):=Keep.drewN (Fr.refl c w) nq
   generalize w.drewN nq=W at hD HF ⊢
   go_wp2_with (first
    | (go_at_call 52;refine (HN.out _ hD).mono ?_;rintro e w1 ⟨rfl,hb⟩;have HB:=Lib.hid hb;clear hb)
    | (go_at_call 97;refine (HQ.out _).mono ?_;rintro e w2 ⟨rfl,hb⟩;have HC:=Lib.hid hb;clear hb))
   exact ⟨rfl,(HF.out.trans (.of_below HB.out)).trans (.of_below HC.out),rfl⟩
 · rw [Par.at_end (by omega)]
   have hkk:decide ((k:Int)<(c.toks.length:Int))=false:=b_f (by omega)
   have hkn:decide (k<c.toks.length)=false:=b_f (by omega)
   obtain ⟨n,hn⟩:∃ n,n=c.toks.length:=⟨_,rfl⟩
   rw [← hn] at c0 hkk hk hle hsm hkn
   clear hn R
   unfold Par.ptr
   go_enter Tryz.func51,Tryz.ntmps51
   go_wp2
   go_quiet (fail)
   have HF:Hid (Fr c w (w.drewN nq)):=Keep.drewN (Fr.refl c w) nq
   go_wp2
   go_end0
   exact ⟨HF.out,rfl⟩
end Go.Proofs.YtggbkldniffbfaaGreatDoor

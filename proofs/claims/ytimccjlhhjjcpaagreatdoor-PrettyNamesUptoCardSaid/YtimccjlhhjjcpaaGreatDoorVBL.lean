/- The proof, part 38: texts that belong together, in one. -/
import Derived.Test.YtimccjlhhjjcpaaGreatDoorVBK
import Derived.Test.YtimccjlhhjjcpaaGreatDoorVBH
import Derived.Deep.RegionHeld3
set_option maxRecDepth 100000
set_option maxHeartbeats 20000000
namespace Go.Proofs.YtimccjlhhjjcpaaGreatDoor
open Go.RowKit
set_option linter.unusedVariables false
theorem dcsL_take {l:List Dc} {i:Nat} (il:i<l.length) (F:Dc→Dc):dcsL ((l.take (i+1)).map F)=dcsL ((l.take i).map F)++dcCells (F l[i]):=by
 rw [List.take_succ_eq_append_getElem il,List.map_append]
 simp [dcsL]
theorem dcsL_mapLen (l:List Dc) (F:Dc→Dc):(dcsL (l.map F)).length=l.length*3:=by rw [dcsL_len,List.length_map]
structure DsK (w:World) (st:Bool) (fr tt nm:ByteArray) (wd ps:Int) (g k:Nat) (oa:Option Addr) (cap i:Nat) (xs:List Value) (W:World):Prop where
 box:Own W w.heap.size 44 #[.bool st,.string fr,.string tt]
 nm:W.cell? ⟨g,k,none⟩=some (.string nm)
 wd:W.cell? ⟨g,k+1,none⟩=some (.int .i64 wd)
 ps:W.cell? ⟨g,k+2,none⟩=some (.int .i64 ps)
 row:W.ownsRow (w.heap.size+1) 75 3 (.slice oa i cap) i xs
 bel:Below w.heap.size w W
 far:g<w.heap.size
theorem grown_cell {W W':World} {row:Option Nat} (hg:W.grownBy W' row) {b o:Nat} {v:Value} (hv:W.cell? ⟨b,o,none⟩=some v) (hr:row≠some b):W'.cell? ⟨b,o,none⟩=some v :=
 (stays_grown (R:=fun c=>c=b) hg (fun c hc=>by subst hc;exact hr)) b o v rfl hv
section
variable {w W W':World} {st:Bool} {fr tt nm:ByteArray} {wd ps:Int} {g k:Nat} {oa:Option Addr} {cap i:Nat} {xs:List Value}
theorem DsK.below (h:DsK w st fr tt nm wd ps g k oa cap i xs W) (hb:Below W.heap.size W W'):DsK w st fr tt nm wd ps g k oa cap i xs W' :=
 ⟨h.box.below hb,by rw [hb.cell (p:=⟨g,k,none⟩) (cell_lt h.nm)];exact h.nm,by rw [hb.cell (p:=⟨g,k+1,none⟩) (cell_lt h.wd)];exact h.wd,by rw [hb.cell (p:=⟨g,k+2,none⟩) (cell_lt h.ps)];exact h.ps,row_below h.row hb,h.bel.trans (hb.mono h.bel.size),h.far⟩
theorem DsK.cells (h:DsK w st fr tt nm wd ps g k oa cap i xs W):W.cell? ⟨w.heap.size,0,none⟩=some (.bool st)∧W.cell? ⟨w.heap.size,1,none⟩=some (.string fr)∧W.cell? ⟨w.heap.size,2,none⟩=some (.string tt)∧W.cell? ⟨g,k,none⟩=some (.string nm)∧W.cell? ⟨g,k+1,none⟩=some (.int .i64 wd)∧W.cell? ⟨g,k+2,none⟩=some (.int .i64 ps) :=
 ⟨by rw [cell_of_row _ _ 0 _ _ _ h.box];rfl,by rw [cell_of_row _ _ 1 _ _ _ h.box];rfl,by rw [cell_of_row _ _ 2 _ _ _ h.box];rfl,h.nm,h.wd,h.ps⟩
theorem DsK.ne (h:DsK w st fr tt nm wd ps g k oa cap i xs W):(Value.slice oa i cap).ownBlock≠some g∧(Value.slice oa i cap).ownBlock≠some w.heap.size :=
 ⟨fun e=>by have:=(h.row.lt _ e).1;have:=h.far;omega,fun e=>by have:=(h.row.lt _ e).1;omega⟩
theorem DsK.grown (h:DsK w st fr tt nm wd ps g k oa cap i xs W) (hg:W.grownBy W' (Value.slice oa i cap).ownBlock):W'.cell? ⟨w.heap.size,0,none⟩=some (.bool st)∧W'.cell? ⟨w.heap.size,1,none⟩=some (.string fr)∧W'.cell? ⟨w.heap.size,2,none⟩=some (.string tt)∧W'.cell? ⟨g,k,none⟩=some (.string nm)∧W'.cell? ⟨g,k+1,none⟩=some (.int .i64 wd)∧W'.cell? ⟨g,k+2,none⟩=some (.int .i64 ps) :=
 have c:=h.cells
 ⟨grown_cell hg c.1 h.ne.2,grown_cell hg c.2.1 h.ne.2,grown_cell hg c.2.2.1 h.ne.2,grown_cell hg c.2.2.2.1 h.ne.1,grown_cell hg c.2.2.2.2.1 h.ne.1,grown_cell hg c.2.2.2.2.2 h.ne.1⟩
end
def TuDP (st:Bool) (fr tt:ByteArray) (l:List Dc) (w:World) (e:Ending) (w':World):Prop:=∃ s t,e=.returned (.slice s l.length t)∧dcsAt (Rf w.heap.size w') w' (l.map (Dc.tu (gR fr tt) (hR st))) s∧Below w.heap.size w w'
theorem r_turnDecls (st:Bool) (fr tt:ByteArray) (l:List Dc) (hl:l.length≤1048576) (a:Option Addr) (c:Nat) (w:World) (h1:dcsAt (fun _=>True) w l a):Calls Tryz.prog 62 #[.agg #[.bool st,.string fr,.string tt],.slice a l.length c] w (TuDP st fr tt l w):=by
 have E1:=Lib.hid h1
 have HXO:=Lib.hid (Own.new w 44 #[.bool st,.string fr,.string tt])
 have HXB:=Lib.hid ((Below.refl w.heap.size w).alloc (Nat.le_refl _) (.cells #[.bool st,.string fr,.string tt] 44))
 have HNM:Hid (∀ (s:ByteArray) (X:World),Calls Tryz.prog 63 #[.agg #[.bool st,.string fr,.string tt],.string s] X fun e w'=>e=.returned (.string (gR fr tt s))∧Below X.heap.size X w'):=fun s X=>r_turnName st fr tt s X
 have HAT:Hid (∀ (n:Int) (X:World),Calls Tryz.prog 65 #[.agg #[.bool st,.string fr,.string tt],.int .i64 n] X fun e w'=>e=.returned (.int .i64 (hR st n))∧Below X.heap.size X w'):=fun n X=>r_turnAt st fr tt n X
 have HP:Hid (∀ e w',(∃ s t,e=.returned (.slice s l.length t)∧dcsAt (Rf w.heap.size w') w' (l.map (Dc.tu (gR fr tt) (hR st))) s∧Below w.heap.size w w')→TuDP st fr tt l w e w'):=fun _ _ h=>h
 obtain ⟨n,hn⟩:∃ n,n=l.length:=⟨_,rfl⟩
 rw [← hn] at HP ⊢
 have HN:=Lib.hid hn
 have hn20:n≤1048576:=by rw [hn];exact hl
 clear h1 hn hl
 go_enter Tryz.func62,Tryz.ntmps62
 go_wp2_with fail
 go_loopg [5,6] (n+1) (fun m' v u X=>∃ (i:Nat) (oa:Option Addr) (cap:Nat),v=.slice oa i cap∧u=.int .i64 (i:Int)∧i≤n∧m'=n-i+1∧X.ownsRow (w.heap.size+1) 75 3 (.slice oa i cap) i (dcsL ((l.take i).map (Dc.tu (gR fr tt) (hR st))))∧Below w.heap.size w X∧Own X w.heap.size 44 #[.bool st,.string fr,.string tt])
 case atStart=>exact ⟨0,none,0,rfl,rfl,Nat.zero_le _,by omega,World.ownsRow_nil _ _ _ _,HXB.out,HXO.out⟩
 case round =>
  clear HXO HXB
  obtain ⟨i,oa,cap,rfl,rfl,hi,hm,hrow,hb0,hxo⟩:=hrel
  have HM:=Lib.hid hm
  clear hm
  by_cases hin:i<n
  · have il : i < l.length := by have := HN.out; omega
    have g1:l[i]? = some l[i]:=List.getElem?_eq_getElem il
    have HTK:Hid (dcsL ((l.take (i+1)).map (Dc.tu (gR fr tt) (hR st)))=dcsL ((l.take i).map (Dc.tu (gR fr tt) (hR st)))++dcCells (Dc.tu (gR fr tt) (hR st) l[i])):=dcsL_take il _
    have HLN:Hid ((dcsL ((l.take i).map (Dc.tu (gR fr tt) (hR st)))).length=i*3):=by
     show _=_
     rw [dcsL_mapLen,List.length_take];congr 1;omega
    generalize l[i]=x at g1 HTK
    rcases E1.out with e | ⟨g,q,e,hg,e1⟩
    · cases l with
      | nil=>simp at il
      | cons=>cases e
    obtain rfl:a=some ⟨g,q,none⟩:=e
    have x1:=dcsIn_get i x e1 g1
    have hin':(i:Int)<(n:Int):=by omega
    obtain ⟨nm,wd,ps⟩:=x
    obtain ⟨a0,a1,a2⟩:=x1
    have HK0:Hid (DsK w st fr tt nm wd ps g (q+i*3) oa cap i (dcsL ((l.take i).map (Dc.tu (gR fr tt) (hR st)))) wr.drew) :=
     DsK.below (W:=wr) ⟨hxo,by rw [hb0.cell (p:=⟨g,q+i*3,none⟩) (cell_lt a0)];exact a0,by rw [hb0.cell (p:=⟨g,q+i*3+1,none⟩) (cell_lt a1)];exact a1,by rw [hb0.cell (p:=⟨g,q+i*3+2,none⟩) (cell_lt a2)];exact a2,hrow,hb0,cell_lt a0⟩ (below_drewN (Below.refl _ wr) 1)
    have hlen:i<1048576:=by omega
    have HS0:Hid (wr.drew.cell? ⟨w.heap.size,0,none⟩=some (.bool st)∧wr.drew.cell? ⟨w.heap.size,1,none⟩=some (.string fr)∧wr.drew.cell? ⟨w.heap.size,2,none⟩=some (.string tt)∧wr.drew.cell? ⟨g,q+i*3,none⟩=some (.string nm)∧wr.drew.cell? ⟨g,q+i*3+1,none⟩=some (.int .i64 wd)∧wr.drew.cell? ⟨g,q+i*3+2,none⟩=some (.int .i64 ps)):=HK0.out.cells
    have HXS:Hid (dcsL ((l.take i).map (Dc.tu (gR fr tt) (hR st)))++[.string (gR fr tt nm),.int .i64 wd,.int .i64 (hR st ps)]=dcsL ((l.take (i+1)).map (Dc.tu (gR fr tt) (hR st)))):=HTK.out.symm
    generalize dcsL ((l.take i).map (Dc.tu (gR fr tt) (hR st)))=xs at HK0 HLN HXS
    clear a0 a1 a2 hrow hb0 hxo e1 hg g1 il HTK
    obtain ⟨i0,hi0',hi0,hi1,hi2⟩:=info_parts infoDc
    go_upto_region 5 with (fail)
    go_region_held3 (fun W=>W.cell? ⟨w.heap.size,0,none⟩=some (.bool st)∧W.cell? ⟨w.heap.size,1,none⟩=some (.string fr)∧W.cell? ⟨w.heap.size,2,none⟩=some (.string tt)∧W.cell? ⟨g,q+i*3,none⟩=some (.string nm)∧W.cell? ⟨g,q+i*3+1,none⟩=some (.int .i64 wd)∧W.cell? ⟨g,q+i*3+2,none⟩=some (.int .i64 ps)) (first | with_reducible exact HS1.out | with_reducible exact HS2.out | with_reducible exact HSA.out | with_reducible exact HSB.out | exact HS0.out) (first
     | (go_at_call 63
        refine (HNM.out _ _).mono ?_
        rintro e w5 ⟨rfl,hb⟩
        have HK1:=Lib.hid (HK0.out.below hb)
        have HS1:Hid (w5.cell? ⟨w.heap.size,0,none⟩=some (.bool st)∧w5.cell? ⟨w.heap.size,1,none⟩=some (.string fr)∧w5.cell? ⟨w.heap.size,2,none⟩=some (.string tt)∧w5.cell? ⟨g,q+i*3,none⟩=some (.string nm)∧w5.cell? ⟨g,q+i*3+1,none⟩=some (.int .i64 wd)∧w5.cell? ⟨g,q+i*3+2,none⟩=some (.int .i64 ps)):=HK1.out.cells
        clear hb)
     | (go_at_call 65
        refine (HAT.out _ _).mono ?_
        rintro e w6 ⟨rfl,hb⟩
        have HK2:=Lib.hid (HK1.out.below hb)
        have HS2:Hid (w6.cell? ⟨w.heap.size,0,none⟩=some (.bool st)∧w6.cell? ⟨w.heap.size,1,none⟩=some (.string fr)∧w6.cell? ⟨w.heap.size,2,none⟩=some (.string tt)∧w6.cell? ⟨g,q+i*3,none⟩=some (.string nm)∧w6.cell? ⟨g,q+i*3+1,none⟩=some (.int .i64 wd)∧w6.cell? ⟨g,q+i*3+2,none⟩=some (.int .i64 ps)):=HK2.out.cells
        have HKA:Hid (DsK w st fr tt nm wd ps g (q+i*3) oa cap i xs (w6.alloc (.cells #[.string (gR fr tt nm),.int .i64 wd,.int .i64 (hR st ps)] 75))):=HK2.out.below ((Below.refl _ w6).alloc (Nat.le_refl _) _)
        have HSA:Hid ((w6.alloc (.cells #[.string (gR fr tt nm),.int .i64 wd,.int .i64 (hR st ps)] 75)).cell? ⟨w.heap.size,0,none⟩=some (.bool st)∧(w6.alloc (.cells #[.string (gR fr tt nm),.int .i64 wd,.int .i64 (hR st ps)] 75)).cell? ⟨w.heap.size,1,none⟩=some (.string fr)∧(w6.alloc (.cells #[.string (gR fr tt nm),.int .i64 wd,.int .i64 (hR st ps)] 75)).cell? ⟨w.heap.size,2,none⟩=some (.string tt)∧(w6.alloc (.cells #[.string (gR fr tt nm),.int .i64 wd,.int .i64 (hR st ps)] 75)).cell? ⟨g,q+i*3,none⟩=some (.string nm)∧(w6.alloc (.cells #[.string (gR fr tt nm),.int .i64 wd,.int .i64 (hR st ps)] 75)).cell? ⟨g,q+i*3+1,none⟩=some (.int .i64 wd)∧(w6.alloc (.cells #[.string (gR fr tt nm),.int .i64 wd,.int .i64 (hR st ps)] 75)).cell? ⟨g,q+i*3+2,none⟩=some (.int .i64 ps)):=HKA.out.cells
        have row4:=HKA.out.row
        have N4:=Own.new w6 75 #[.string (gR fr tt nm),.int .i64 wd,.int .i64 (hR st ps)]
        have HNEWS:Hid (∀ jj u,([.string (gR fr tt nm),.int .i64 wd,.int .i64 (hR st ps)]:List Value)[jj]? = some u→(w6.alloc (.cells #[.string (gR fr tt nm),.int .i64 wd,.int .i64 (hR st ps)] 75)).cell? ((⟨w6.heap.size,0,none⟩:Addr).add jj)=some u):=World.news_of_block N4
        have HSZ:=Lib.hid (World.size_alloc w6 (.cells #[.string (gR fr tt nm),.int .i64 wd,.int .i64 (hR st ps)] 75))
        have HSW:Hid (w.heap.size+1≤w6.heap.size):=HK2.out.box.lt
        clear hb N4)
     | (refine step_append_lies _ rfl _ _ 22 rfl (w.heap.size + 1) 75 i0 _ 3 32 Tryz.underlying22 hi0' hi0 hi1 hi2 rfl (by decide) _ _ _ rfl row4 ⟨w6.heap.size, 0, none⟩ 1 1 [.string (gR fr tt nm), .int .i64 wd, .int .i64 (hR st ps)] rfl rfl HNEWS.out (by simp [Value.oneCell']) (by decide) (by simp only [maxLen]; omega) (by omega) (by rw [HSZ.out]; have := HSW.out; omega) _ rfl ?_
        intro g2 cap2 w9 hown' hgrow hlies hglt
        have ROW4:=Lib.hid hown'
        have GR:=Lib.hid hgrow
        have HSB:Hid (w9.cell? ⟨w.heap.size,0,none⟩=some (.bool st)∧w9.cell? ⟨w.heap.size,1,none⟩=some (.string fr)∧w9.cell? ⟨w.heap.size,2,none⟩=some (.string tt)∧w9.cell? ⟨g,q+i*3,none⟩=some (.string nm)∧w9.cell? ⟨g,q+i*3+1,none⟩=some (.int .i64 wd)∧w9.cell? ⟨g,q+i*3+2,none⟩=some (.int .i64 ps)):=HKA.out.grown hgrow
        have HO9:=Lib.hid (own_grown HKA.out.box hgrow (fun e=>by have:=(row4.lt _ e).1;omega))
        have HB9:=Lib.hid (HKA.out.bel.grown hgrow HKA.out.bel.size (fun r hr=>by have:=(row4.lt r hr).1;omega))
        clear hown' hgrow hlies))
    go_wp2_with fail
    go_roundg (n-(i+1)+1)
    case measure=>have:=HM.out;omega
    case rel =>
     refine ⟨i+1,_,_,rfl,rfl,by omega,by omega,?_,HB9.out,HO9.out⟩
     rw [← HXS.out]
     exact ROW4.out
  · have : i = n := by omega
    subst this
    have HFIN:Hid (dcsAt (Rf w.heap.size wr) wr (l.map (Dc.tu (gR fr tt) (hR st))) oa):=by
     have hT:l.take i=l:=List.take_of_length_le (by have:=HN.out;omega)
     rw [hT] at hrow
     by_cases h0:i=0
     · have : l = [] := List.eq_nil_of_length_eq_zero (by have := HN.out; omega)
       rw [this];exact .inl rfl
     · rcases hrow.2 with ⟨_, h9⟩ | ⟨g, cap9, cur, he, hbg, hg, _⟩
       · exact absurd h9 h0
       · have e9 : oa = some ⟨g, 0, none⟩ := by injection he
         subst e9
         exact .inr ⟨g,0,rfl,⟨by omega,fun o=>hrow.frozenAt o⟩,dcsIn_of (row_cells hrow rfl)⟩
    have HB:=Lib.hid hb0
    clear hrow hxo hb0
    go_wp2_with fail
    go_ret
    exact HP.out _ _ ⟨oa,cap,rfl,HFIN.out,HB.out⟩
end Go.Proofs.YtimccjlhhjjcpaaGreatDoor

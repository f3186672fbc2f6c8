/- The proof, part 34: texts that belong together, in one. -/
import Derived.Test.YtimccjlhhjjcpaaGreatDoorVBG
import Derived.Test.YtimccjlhhjjcpaaGreatDoorVAP
import Derived.Test.YtimccjlhhjjcpaaGreatDoorVAV
import Derived.Test.YtimccjlhhjjcpaaGreatDoorVAW
import Derived.Deep.RegionHeld3
import Derived.Test.YtimccjlhhjjcpaaGreatDoorVAZ
set_option maxRecDepth 100000
set_option maxHeartbeats 20000000
namespace Go.Proofs.YtimccjlhhjjcpaaGreatDoor
open Go.RowKit
set_option linter.unusedVariables false
theorem catch_pgm {w:World} {n t y:Nat} {cy z:Int} {older:List PanicEntry} (h1:Own w t 25 #[.slice none 0 0,.slice none 0 0,.slice none 0 0]) (h2:Own w y 26 #[.int .i64 cy]) (hn:n≤t∧n≤y) (hd:t≠y) :
 CallsD Tryz.prog 47 #[.pointer (some ⟨t,0,none⟩),.pointer (some ⟨y,0,none⟩)] (.panicking ({ v:=.iface 26 (.int .i64 z),recovered:=false } :: older)) w fun e u' w' =>
  e=.returned (.tuple #[])∧u'=.panicking ({ v:=.iface 26 (.int .i64 z),recovered:=true } :: older)∧Own w' t 25 #[.slice none 0 0,.slice none 0 0,.slice none 0 0]∧Own w' y 26 #[.int .i64 z]∧Below n w w':=by
 refine callsD_of_wpS Tryz.func47 rfl fun c₀ cs hu=>?_
 apply wpS_seq
 apply wpS_region
 simp [wpOpsS,go_sem,recoverD,hu,Tryz.ntmps47,Exit.thenS]
 rw [show (#[.pointer (some ⟨t,0,none⟩),.pointer (some ⟨y,0,none⟩)]++(((Array.replicate 17 undef).setIfInBounds 4 (.iface 26 (.int .i64 z))).setIfInBounds 0 (.iface 26 (.int .i64 z))):Array Value)=#[.pointer (some ⟨t,0,none⟩),.pointer (some ⟨y,0,none⟩),.iface 26 (.int .i64 z),undef,undef,undef,.iface 26 (.int .i64 z),undef,undef,undef,undef,undef,undef,undef,undef,undef,undef,undef,undef] from by kernel_rfl]
 refine wpS_of_wp ?_
 generalize hQ:(fun e a' w'=>bodyPostS _ _ _ _ _ e a' _ w')=Q
 have F1:=any_eql
 have F2:=any_err
 have l1:=h1.lt
 have l2:=h2.lt
 have o0:=Own.new w 25 #[.slice none 0 0,.slice none 0 0,.slice none 0 0]
 have p1:=h1.alloc (.cells #[.slice none 0 0,.slice none 0 0,.slice none 0 0] 25)
 have p2:=h2.alloc (.cells #[.slice none 0 0,.slice none 0 0,.slice none 0 0] 25)
 have o1:=p1.row #[.slice none 0 0,.slice none 0 0,.slice none 0 0]
 have o2:=p2.other (g:=t) #[.slice none 0 0,.slice none 0 0,.slice none 0 0] (by omega)
 have c2:((w.alloc (.cells #[.slice none 0 0,.slice none 0 0,.slice none 0 0] 25)).setRow t #[.slice none 0 0,.slice none 0 0,.slice none 0 0]).cell? ⟨y,0,none⟩=some (.int .i64 cy):=by rw [cell_of_row _ _ 0 _ _ _ o2];rfl
 have f2:=own_frozen o2 0
 have e2:((w.alloc (.cells #[.slice none 0 0,.slice none 0 0,.slice none 0 0] 25)).setRow t #[.slice none 0 0,.slice none 0 0,.slice none 0 0]).setCell ⟨y,0,none⟩ (.int .i64 z)=((w.alloc (.cells #[.slice none 0 0,.slice none 0 0,.slice none 0 0] 25)).setRow t #[.slice none 0 0,.slice none 0 0,.slice none 0 0]).setRow y #[.int .i64 z]:=setCell_row o2 0 _
 have q1:=Lib.hid (o1.other (g:=y) #[.int .i64 z] (by omega))
 have q2:=Lib.hid (o2.row #[.int .i64 z])
 have B:=Lib.hid (Below.of_row (Below.of_row ((Below.refl n w).alloc (by omega) (.cells #[.slice none 0 0,.slice none 0 0,.slice none 0 0] 25)) (g:=t) (by omega) #[.slice none 0 0,.slice none 0 0,.slice none 0 0]) (g:=y) (by omega) #[.int .i64 z])
 clear o1 o2 p2 l1 l2
 go_wp2_with (first | (refine ld rowPg rfl rfl rfl o0 rfl ?_) | (refine st rowPg rfl rfl p1 rfl rfl (by rfl) (by rfl) (by kernel_rfl) ?_))
 subst hQ
 simp [bodyPostS,results,Tryz.results47]
 exact ⟨q1.out,q2.out,B.out⟩
theorem idle_pgm (x y:Value) (w:World):CallsD Tryz.prog 47 #[x,y] .returning w fun e u' w'=>e=.returned (.tuple #[])∧u'=.returning∧w'=w:=by
 have hnil:=any_nil
 refine callsD_of_wpS Tryz.func47 rfl fun c₀ cs hu=>?_
 apply wpS_seq
 apply wpS_region
 simp [wpOpsS,go_sem,recoverD,hu,Tryz.ntmps47,Exit.thenS]
 rw [show (#[x,y]++(((Array.replicate 17 undef).setIfInBounds 4 .nilIface).setIfInBounds 0 .nilIface):Array Value)=#[x,y,.nilIface,undef,undef,undef,.nilIface,undef,undef,undef,undef,undef,undef,undef,undef,undef,undef,undef,undef] from by kernel_rfl]
 refine wpS_of_wp ?_
 generalize hQ:(fun e a' w'=>bodyPostS _ _ _ _ _ e a' _ w')=Q
 go_wp2
 subst hQ
 cases c₀
 simp_all [bodyPostS,results,Tryz.results47]
def TrP (x:Pg) (w:World) (v:Value) (w':World):Prop:=∃ s1 t1 s2 t2 s3 t3,v=.agg #[.slice s1 x.shared.length t1,.slice s2 x.locks.length t2,.slice s3 x.threads.length t3]∧dcsAt (Rf w.heap.size w') w' x.shared s1∧dcsAt (Rf w.heap.size w') w' x.locks s2∧thsAt (Rf w.heap.size w') w' x.threads s3
theorem trP_pA {x:Pg} {w w':World} {v:Value} (h:TrP x w v w'):pA w' x v:=by
 obtain ⟨s1,t1,s2,t2,s3,t3,rfl,h1,h2,h3⟩:=h
 exact ⟨s1,t1,s2,t2,s3,t3,rfl,dcsAt_stays (Stays.refl _ _) (fun _ _=>trivial) h1,dcsAt_stays (Stays.refl _ _) (fun _ _=>trivial) h2,thsAt_stays (Stays.refl _ _) (fun _ _=>trivial) h3⟩
theorem trP_far {x:Pg} {w w0 w' w'':World} {v:Value} (h:TrP x w v w') (hc:Chg w.heap.size w' w'') (hw:w0.heap.size≤w.heap.size):TrP x w0 v w'':=by
 obtain ⟨s1,t1,s2,t2,s3,t3,h0,h1,h2,h3⟩:=h
 exact ⟨s1,t1,s2,t2,s3,t3,h0,dcsAt_rf h1 hc hw,dcsAt_rf h2 hc hw,thsAt_rf h3 hc hw⟩
def MkP2 (Y:Sum Pg Int) (w:World) (e:Ending) (w':World):Prop:=Below w.heap.size w w'∧match Y with | .inl y=>∃ v,e=.returned v∧TrP y w v w' | .inr n=>e=.panicked (errP n)
def AtP2 (Y:Sum Pg Int) (w:World) (e:Ending) (w':World):Prop:=Below w.heap.size w w'∧∃ v z,e=.returned (.tuple #[v,.int .i64 z])∧match Y with | .inl y=>z=0∧TrP y w v w' | .inr n=>z=n∧v=.agg #[.slice none 0 0,.slice none 0 0,.slice none 0 0]
theorem p_att_ren {pb fb tb:Nat} {w:World} {Y:Sum Pg Int} (hmk:∀ W,Below w.heap.size w W→Calls Tryz.prog 18 #[.pointer (some ⟨pb,0,none⟩),.pointer (some ⟨tb,0,none⟩),.pointer (some ⟨fb,0,none⟩)] W (MkP2 Y W)) :
 Calls Tryz.prog 17 #[.func (.func 18) #[] #[.pointer (some ⟨pb,0,none⟩),.pointer (some ⟨tb,0,none⟩),.pointer (some ⟨fb,0,none⟩)]] w (AtP2 Y w):=by
 have HMK:=Lib.hid hmk
 have O1:=(Own.new w 25 #[.slice none 0 0,.slice none 0 0,.slice none 0 0]).alloc (.cells #[.int .i64 0] 26)
 have O2:=Own.new (w.alloc (.cells #[.slice none 0 0,.slice none 0 0,.slice none 0 0] 25)) 26 #[.int .i64 0]
 have B0:Below w.heap.size w ((w.alloc (.cells #[.slice none 0 0,.slice none 0 0,.slice none 0 0] 25)).alloc (.cells #[.int .i64 0] 26)):=((Below.refl _ w).alloc (Nat.le_refl _) _).alloc (by simp only [World.size_alloc];omega) _
 have z0:Hid (((w.alloc (.cells #[.slice none 0 0,.slice none 0 0,.slice none 0 0] 25)).alloc (.cells #[.int .i64 0] 26)).heap.size=w.heap.size+2):=by simp only [Hid,World.size_alloc]
 rw [World.size_alloc] at O2
 have hmf:∀ (fn:Fn) (first cap:Array Value) (w:World),(Instr.makeFunc fn first cap).run Tryz.prog w=.ok (.func fn first cap) w:=fun _ _ _ _=>rfl
 clear hmk
 go_enter_defers Tryz.func17,Tryz.ntmps17
 go_wp2_with fail
 go_at_call 18
 refine (HMK.out _ B0).mono ?_
 rintro e w1 ⟨hb1,hh⟩
 have z1:w.heap.size+2≤w1.heap.size:=by have:=hb1.size;have:=z0.out;omega
 have P1:=O1.below hb1
 have P2:=O2.below hb1
 have B1:=Lib.hid (B0.trans (hb1.mono (by have:=z0.out;omega)))
 cases Y with
 | inr m =>
   obtain rfl:=hh
   clear hb1
   go_wp2_with fail
   refine leaves_cons (f:=47) (args:=#[.pointer (some ⟨w.heap.size,0,none⟩),.pointer (some ⟨w.heap.size+1,0,none⟩)]) (by simp) (by simp [go_sem]) ?_
   refine (catch_pgm (n:=w.heap.size) P1 P2 (by omega) (by omega)).mono ?_
   rintro e u' w5 ⟨rfl,rfl,q1,q2,hb⟩
   exact ⟨_,res2s rfl rfl rfl (lv_row rowPg q1 rfl) (lv_err q2),B1.out.trans hb,_,_,rfl,rfl,rfl⟩
 | inl y =>
   obtain ⟨v,rfl,hT⟩:=hh
   have hT2:=hT
   obtain ⟨s1,t1,s2,t2,s3,t3,rfl,_⟩:=hT2
   have o1:=P1.row #[.slice s1 y.shared.length t1,.slice s2 y.locks.length t2,.slice s3 y.threads.length t3]
   have o2:=P2.other (g:=w.heap.size) #[.slice s1 y.shared.length t1,.slice s2 y.locks.length t2,.slice s3 y.threads.length t3] (by omega)
   have c2:(w1.setRow w.heap.size #[.slice s1 y.shared.length t1,.slice s2 y.locks.length t2,.slice s3 y.threads.length t3]).cell? ⟨w.heap.size+1,0,none⟩=some (.int .i64 0):=by rw [cell_of_row _ _ 0 _ _ _ o2];rfl
   have f2:=own_frozen o2 0
   have e2:(w1.setRow w.heap.size #[.slice s1 y.shared.length t1,.slice s2 y.locks.length t2,.slice s3 y.threads.length t3]).setCell ⟨w.heap.size+1,0,none⟩ (.int .i64 0)=(w1.setRow w.heap.size #[.slice s1 y.shared.length t1,.slice s2 y.locks.length t2,.slice s3 y.threads.length t3]).setRow (w.heap.size+1) #[.int .i64 0]:=setCell_row o2 0 _
   have q1:=Lib.hid (o1.other (g:=w.heap.size+1) #[.int .i64 0] (by omega))
   have q2:=Lib.hid (o2.row #[.int .i64 0])
   have B:=Lib.hid (B1.out.trans (Below.of_row (Below.of_row (Below.refl w.heap.size w1) (g:=w.heap.size) (by omega) #[.slice s1 y.shared.length t1,.slice s2 y.locks.length t2,.slice s3 y.threads.length t3]) (g:=w.heap.size+1) (by omega) #[.int .i64 0]))
   have HT:Hid (TrP y w (.agg #[.slice s1 y.shared.length t1,.slice s2 y.locks.length t2,.slice s3 y.threads.length t3]) ((w1.setRow w.heap.size #[.slice s1 y.shared.length t1,.slice s2 y.locks.length t2,.slice s3 y.threads.length t3]).setRow (w.heap.size+1) #[.int .i64 0])):=by
    exact trP_far (trP_far hT (chg_setRow w1 #[.slice s1 y.shared.length t1,.slice s2 y.locks.length t2,.slice s3 y.threads.length t3] (by have:=z0.out;omega)) (Nat.le_refl _)) (chg_setRow _ #[.int .i64 0] (by have:=z0.out;omega)) (by have:=z0.out;omega)
   clear o1 o2 hb1 hT
   go_wp2_with (refine st rowPg rfl rfl P1 rfl rfl (by rfl) (by rfl) (by kernel_rfl) ?_)
   refine leaves_cons (f:=47) (args:=#[.pointer (some ⟨w.heap.size,0,none⟩),.pointer (some ⟨w.heap.size+1,0,none⟩)]) (by simp) (by simp [go_sem]) ?_
   refine (idle_pgm _ _ _).mono ?_
   rintro e u' w8 ⟨rfl,rfl,rfl⟩
   exact ⟨_,res2s rfl rfl rfl (lv_row rowPg q1.out rfl) (lv_err q2.out),B.out,_,_,rfl,rfl,HT.out⟩
theorem quiet_moreR {P:Program} {f:FuncId} {args:Array Value} {w:World} {a n:Nat} {v:Value} (h:Calls P f args (w.drewN (a+n)) fun e w'=>e=.returned v∧w.drewN (a+n)=w') :
 Calls P f args (w.drewN (a+n)) fun e w''=>e=.returned v∧∃ m,w''=w.drewN (a+m) :=
 h.mono fun _ _ ⟨he,hm⟩=>⟨he,n,hm.symm⟩
theorem quiet_oneR {P:Program} {f:FuncId} {args:Array Value} {w:World} {n:Nat} {v:Value} (h:Calls P f args (w.drewN n) fun e w'=>e=.returned v∧w.drewN n=w') :
 Calls P f args (w.drewN n) fun e w''=>e=.returned v∧∃ m,w''=w.drewN m :=
 h.mono fun _ _ ⟨he,hm⟩=>⟨he,n,hm.symm⟩
def hasN (x:Pg) (t:ByteArray):Bool:=(nmP x).any fun s=>s.data.toList==t.data.toList
theorem hasN_iff {x:Pg} {t:ByteArray} : hasN x t=true↔t∈nmP x:=by
 unfold hasN
 rw [List.any_eq_true]
 exact ⟨fun ⟨s,h,e⟩=>by rw [← bytes_same e];exact h,fun h=>⟨t,h,by simp⟩⟩
def renY (x:Pg) (f t:ByteArray):Sum Pg Int:=bif rP x then (bif nameB t && !hasN x t then .inl (x.ren (gR f t)) else .inr 2) else .inr 40
def Cr (pb fb tb:Nat) (f t:ByteArray) (r0 r1 r2:Value) (w W:World):Prop:=W.cell? ⟨pb,0,none⟩=some r0∧W.cell? ⟨pb,1,none⟩=some r1∧W.cell? ⟨pb,2,none⟩=some r2∧W.cell? ⟨tb,0,none⟩=some (.string t)∧W.cell? ⟨fb,0,none⟩=some (.string f)∧Below w.heap.size w W
theorem cr_below {pb fb tb:Nat} {f t:ByteArray} {r0 r1 r2:Value} {w W W':World} (h:Cr pb fb tb f t r0 r1 r2 w W) (hb:Below W.heap.size W W'):Cr pb fb tb f t r0 r1 r2 w W':=by
 obtain ⟨h0,h1,h2,h3,h4,h5⟩:=h
 exact ⟨by rw [hb.cell (p:=⟨pb,0,none⟩) (cell_lt h0)];exact h0,by rw [hb.cell (p:=⟨pb,1,none⟩) (cell_lt h1)];exact h1,by rw [hb.cell (p:=⟨pb,2,none⟩) (cell_lt h2)];exact h2,by rw [hb.cell (p:=⟨tb,0,none⟩) (cell_lt h3)];exact h3,by rw [hb.cell (p:=⟨fb,0,none⟩) (cell_lt h4)];exact h4,h5.trans (hb.mono h5.size)⟩
theorem cr_drew {pb fb tb:Nat} {f t:ByteArray} {r0 r1 r2:Value} {w W:World} (h:Cr pb fb tb f t r0 r1 r2 w W):Cr pb fb tb f t r0 r1 r2 w W.drew:=cr_below h (below_drewN (Below.refl _ W) 1)
theorem p_Rename1 (x:Pg) (okx:PrOk x) (hf:fitP x) (hb:ctP x≤1048576) (f t:ByteArray) (ht:nmOk t) {v:Value} {w W:World} (hx:pA w x v) (TT:WTb w) {pb fb tb:Nat} (hbw:Below w.heap.size w W) (c0:∀ r,v=.agg r→Own W pb 25 r) (c1:W.cell? ⟨tb,0,none⟩=some (.string t)) (c2:W.cell? ⟨fb,0,none⟩=some (.string f)) :
 Calls Tryz.prog 18 #[.pointer (some ⟨pb,0,none⟩),.pointer (some ⟨tb,0,none⟩),.pointer (some ⟨fb,0,none⟩)] W (MkP2 (renY x f t) W):=by
 have HND:Hid (∀ W',Below W.heap.size W W'→Calls Tryz.prog 19 #[v] W' (NdP W' (rP x))):=fun W' h=>p_needProgram x okx.1 okx.2.1 v W' (pA_below hx (hbw.trans (h.mono hbw.size))) (TT.below (hbw.trans (h.mono hbw.size))).pt
 have HNM:Hid (∀ W',Below W.heap.size W W'→Calls Tryz.prog 20 #[.string t] W' fun e w'=>e=.returned (.bool (nameB t))∧W'=w'):=fun W' h=>isname_any t W' (TT.below (hbw.trans (h.mono hbw.size))).pt.1.1
 have HNS:Hid (∀ W',Below W.heap.size W W'→Calls Tryz.prog 9 #[v] W' (NmsP x W')):=fun W' h=>p_Names x hf okx.1 hb (pA_below hx (hbw.trans (h.mono hbw.size)))
 have HRN:Hid (rP x=true→∀ W',Below W.heap.size W W'→Calls Tryz.prog 22 #[v,.string f,.string t] W' (RenP x f t W')):=fun hr W' h=>p_renamed x hf okx.1 hr f t ht (pA_below hx (hbw.trans (h.mono hbw.size)))
 obtain ⟨a1,c1',a2,c2',a3,c3',rfl,_⟩:=hx
 have O0:=c0 _ rfl
 clear c0 TT hbw
 have HL:Hid ((x.ren (gR f t)).shared.length=x.shared.length∧(x.ren (gR f t)).locks.length=x.locks.length∧(x.ren (gR f t)).threads.length=x.threads.length):=⟨by simp [Pg.ren],by simp [Pg.ren],by simp [Pg.ren]⟩
 have HTR:Hid (∀ (w0:World) e w',W.heap.size≤w0.heap.size→RenP x f t w0 e w'→∃ s1 t1 s2 t2 s3 t3,e=.returned (.agg #[.slice s1 x.shared.length t1,.slice s2 x.locks.length t2,.slice s3 x.threads.length t3])∧TrP (x.ren (gR f t)) w0 (.agg #[.slice s1 x.shared.length t1,.slice s2 x.locks.length t2,.slice s3 x.threads.length t3]) w'∧Below w0.heap.size w0 w'):=fun w0 e w' hle h=>by
  obtain ⟨s1,t1,s2,t2,s3,t3,h0,h1,h2,h3,h4⟩:=h
  exact ⟨s1,t1,s2,t2,s3,t3,h0,⟨s1,t1,s2,t2,s3,t3,by rw [HL.out.1,HL.out.2.1,HL.out.2.2],h1,h2,h3⟩,h4⟩
 clear HL
 have HRN2:Hid (rP x=true→∀ W',Below W.heap.size W W'→Calls Tryz.prog 22 #[.agg #[.slice a1 x.shared.length c1',.slice a2 x.locks.length c2',.slice a3 x.threads.length c3'],.string f,.string t] W' fun e w'=>∃ s1 t1 s2 t2 s3 t3,e=.returned (.agg #[.slice s1 x.shared.length t1,.slice s2 x.locks.length t2,.slice s3 x.threads.length t3])∧TrP (x.ren (gR f t)) W' (.agg #[.slice s1 x.shared.length t1,.slice s2 x.locks.length t2,.slice s3 x.threads.length t3]) w'∧Below W'.heap.size W' w'):=fun hr W' h=>(HRN.out hr W' h).mono fun e w' h2=>HTR.out W' e w' h.size h2
 clear HRN HTR
 generalize x.shared.length=n1 at *
 generalize x.locks.length=n2 at *
 generalize x.threads.length=n3 at *
 have OR0:=Own.new W 25 #[.slice none 0 0,.slice none 0 0,.slice none 0 0]
 have B0:=(Below.refl W.heap.size W).alloc (Nat.le_refl _) (.cells #[.slice none 0 0,.slice none 0 0,.slice none 0 0] 25)
 have O1:=O0.below B0
 have HC0:Hid (Cr pb fb tb f t (.slice a1 n1 c1') (.slice a2 n2 c2') (.slice a3 n3 c3') W (W.alloc (.cells #[.slice none 0 0,.slice none 0 0,.slice none 0 0] 25))):=cr_below ⟨by rw [cell_of_row _ _ 0 _ _ _ O0];rfl,by rw [cell_of_row _ _ 1 _ _ _ O0];rfl,by rw [cell_of_row _ _ 2 _ _ _ O0];rfl,c1,c2,Below.refl _ W⟩ B0
 have HB0:=Lib.hid B0
 obtain ⟨W0,hW0⟩:∃ W0,W0=W.alloc (.cells #[.slice none 0 0,.slice none 0 0,.slice none 0 0] 25):=⟨_,rfl⟩
 rw [← hW0] at OR0 O1 HC0 HB0
 have HW0:=Lib.hid hW0
 have HWS:Hid (W0.heap.size=W.heap.size+1):=by rw [Hid,hW0,World.size_alloc]
 have HLT:Hid (pb<W.heap.size):=O0.lt
 clear hW0 c1 c2 O0 B0 hf hb ht okx
 cases hr:rP x with
 | false =>
   have HYY:Hid (renY x f t=.inr 40):=by rw [Hid,renY,hr];rfl
   rw [HYY.out]
   rw [hr] at HND
   clear hr HYY HRN2
   go_enter Tryz.func18,Tryz.ntmps18
   go_upto_region 1 with (fail)
   rw [← HW0.out]
   go_wp2_with (refine ld rowPg rfl rfl rfl O1 rfl ?_)
   go_at_call 19
   refine (HND.out _ HB0.out).mono ?_
   rintro e w2 hh
   obtain ⟨rfl,hb⟩:=hh.bad rfl
   exact ⟨rfl,HB0.out.trans (hb.mono HB0.out.size),rfl⟩
 | true =>
   rw [hr] at HND
   have HRN:=Lib.hid (HRN2.out hr)
   clear HRN2
   go_enter Tryz.func18,Tryz.ntmps18
   go_upto_region 1 with (fail)
   rw [← HW0.out]
   go_wp2_with (refine ld rowPg rfl rfl rfl O1 rfl ?_)
   go_at_call 19
   refine (HND.out _ HB0.out).mono ?_
   rintro e w2 hh
   obtain ⟨rfl,hb⟩:=hh.ok rfl
   have HC2:=Lib.hid (cr_below HC0.out hb)
   have OR2:=OR0.below hb
   have OP2:=O1.below hb
   have z2:W.heap.size+1≤w2.heap.size:=by have:=hb.size;have:=HWS.out;omega
   have HZ2:=Lib.hid z2
   clear hb HC0 OR0 O1 HND hh HW0 HB0 z2
   go_upto_region 2 with (fail)
   have HW2:Hid (Below W.heap.size W w2):=HC2.out.2.2.2.2.2
   have HC2:Hid (Cr pb fb tb f t (.slice a1 n1 c1') (.slice a2 n2 c2') (.slice a3 n3 c3') w2 w2):=⟨HC2.out.1,HC2.out.2.1,HC2.out.2.2.1,HC2.out.2.2.2.1,HC2.out.2.2.2.2.1,Below.refl _ _⟩
   have HCX:Hid (∀ X,Cr pb fb tb f t (.slice a1 n1 c1') (.slice a2 n2 c2') (.slice a3 n3 c3') w2 X→Below W.heap.size W X):=fun X h=>HW2.out.trans (h.2.2.2.2.2.mono HW2.out.size)
   have HCY:Hid (∀ X,Cr pb fb tb f t (.slice a1 n1 c1') (.slice a2 n2 c2') (.slice a3 n3 c3') w2 X→Below w2.heap.size w2 X):=fun X h=>h.2.2.2.2.2
   cases hn:nameB t with
   | false =>
     have HYY:Hid (renY x f t=.inr 2):=by rw [Hid,renY,hr,hn];rfl
     rw [hn] at HNM
     clear hr hn HRN HNS
     have HNQ:Hid (∀ n,Calls Tryz.prog 20 #[.string t] (w2.drewN n) fun e w'=>e=.returned (.bool false)∧w2.drewN n=w'):=fun n=>HNM.out _ (HW2.out.trans ((below_drewN (Below.refl _ w2) n).mono HW2.out.size))
     have c1:=HC2.out.2.2.2.1
     go_quiet ((go_at_call 20;first | (with_reducible exact quiet_oneR (HNQ.out _)) | (with_reducible exact quiet_moreR (HNQ.out _))))
     have HF:Hid (∀ n,Below W.heap.size W (w2.drewN n)):=fun n=>HW2.out.trans ((below_drewN (Below.refl _ w2) n).mono HW2.out.size)
     go_wp2_with fail
     exact ⟨rfl,HF.out _,by rw [HYY.out];rfl⟩
   | true =>
     rw [hn] at HNM
     cases hm:hasN x t with
     | true =>
       have HYY:Hid (renY x f t=.inr 2):=by rw [Hid,renY,hr,hn,hm];rfl
       have HCN:Hid (∀ {l:List (List UInt8)},NL (nmP x) l→decide (t.data.toList∈l)=true):=fun h=>decide_eq_true ((nl_mem h (name_nonempty hn)).2 (hasN_iff.1 hm))
       clear hr hn hm HRN
       go_region_held3 (fun X=>X.cell? ⟨pb,0,none⟩=some (.slice a1 n1 c1')∧X.cell? ⟨pb,1,none⟩=some (.slice a2 n2 c2')∧X.cell? ⟨pb,2,none⟩=some (.slice a3 n3 c3')∧X.cell? ⟨tb,0,none⟩=some (.string t)∧X.cell? ⟨fb,0,none⟩=some (.string f)∧Below w2.heap.size w2 X) (first | exact cr_drew HC2.out | exact cr_below (by assumption) (by assumption) | assumption) (first
        | (go_at_call 20;refine (HNM.out _ (HCX.out _ (by assumption))).mono ?_;rintro e w9 ⟨rfl,rfl⟩)
        | (go_at_call 9;refine (HNS.out _ (HCX.out _ (by assumption))).mono ?_;rintro e w9 ⟨la,l,lc,rfl,hNL,hl2,hsh,hst,hb⟩;have hdc:=HCN.out hNL)
        | (go_at_call 21;refine (p_Contains hst hl2 t).mono ?_;rintro e w10 ⟨rfl,rfl⟩))
       have HF:=Lib.hid (HCX.out _ (by assumption))
       go_wp2_with fail
       exact ⟨rfl,HF.out,by rw [HYY.out];rfl⟩
     | false =>
       have HYY:Hid (renY x f t=.inl (x.ren (gR f t))):=by rw [Hid,renY,hr,hn,hm];rfl
       have HCN:Hid (∀ {l:List (List UInt8)},NL (nmP x) l→decide (t.data.toList∈l)=false):=fun h=>decide_eq_false (fun h2=>by
        have:=hasN_iff.2 ((nl_mem h (name_nonempty hn)).1 h2)
        rw [hm] at this;cases this)
       clear hr hn hm
       go_region_held3 (fun X=>X.cell? ⟨pb,0,none⟩=some (.slice a1 n1 c1')∧X.cell? ⟨pb,1,none⟩=some (.slice a2 n2 c2')∧X.cell? ⟨pb,2,none⟩=some (.slice a3 n3 c3')∧X.cell? ⟨tb,0,none⟩=some (.string t)∧X.cell? ⟨fb,0,none⟩=some (.string f)∧Below w2.heap.size w2 X) (first | exact cr_drew HC2.out | exact cr_below (by assumption) (by assumption) | assumption) (first
        | (go_at_call 20;refine (HNM.out _ (HCX.out _ (by assumption))).mono ?_;rintro e w9 ⟨rfl,rfl⟩)
        | (go_at_call 9;refine (HNS.out _ (HCX.out _ (by assumption))).mono ?_;rintro e w9 ⟨la,l,lc,rfl,hNL,hl2,hsh,hst,hb⟩;have hdc:=HCN.out hNL)
        | (go_at_call 21;refine (p_Contains hst hl2 t).mono ?_;rintro e w10 ⟨rfl,rfl⟩))
       have HQ:Hid (∀ X,Cr pb fb tb f t (.slice a1 n1 c1') (.slice a2 n2 c2') (.slice a3 n3 c3') w2 X→Below W.heap.size W X∧Below w2.heap.size w2 X∧X.cell? ⟨tb,0,none⟩=some (.string t)∧X.cell? ⟨fb,0,none⟩=some (.string f)):=fun X h=>⟨HCX.out X h,HCY.out X h,h.2.2.2.1,h.2.2.2.2.1⟩
       obtain ⟨hx1,hx2,hx3,hx4⟩:=HQ.out _ (by assumption)
       have OPX:=OP2.below hx2
       have ORX:=OR2.below hx2
       have HX1:=Lib.hid hx1
       have HX2:=Lib.hid hx2
       clear hx1 hx2 HQ HC2 HCX HCY HNM HNS HCN OP2 OR2
       go_wp2_with (refine ld rowPg rfl rfl rfl OPX rfl ?_)
       go_at_call 22
       refine (HRN.out _ HX1.out).mono ?_
       rintro e w11 ⟨s1,t1,s2,t2,s3,t3,rfl,hT,hb9⟩
       have OR11:=ORX.below hb9
       have HT:=Lib.hid hT
       have HB11:=Lib.hid (HX1.out.trans (hb9.mono HX1.out.size))
       clear hT hb9 ORX OPX
       go_wp2_with (refine st rowPg rfl rfl OR11 rfl rfl (by rfl) (by rfl) (by kernel_rfl) ?_)
       refine p_ret rowPg rfl (OR11.row #[.slice s1 n1 t1,.slice s2 n2 t2,.slice s3 n3 t3]) rfl rfl rfl ?_
       have hz:=HZ2.out
       have hz2:=HX2.out.size
       refine ⟨Below.of_row HB11.out (Nat.le_refl _) _,?_⟩
       rw [HYY.out]
       exact ⟨_,rfl,trP_far HT.out (chg_setRow _ _ (by omega)) (by omega)⟩
open Go.RowKit
set_option linter.unusedVariables false
theorem res_ct {fn:Func} {T:TypeId} {i j:Tmp} (h:fn.results=#[.cell i T,.tmp j]) {tmps:Array Value} {P:Program} {w:World} {a:Addr} {x y:Value} (ha:tmps.getD i undef=.pointer (some a)) (hb:tmps.getD j undef=y) (h1:(loadVar T a).run P w=.ok x w):(results fn tmps).run P w=.ok (.tuple #[x,y]) w:=by
 have ha':tmps[i]?.getD undef=.pointer (some a):=by simpa using ha
 have hb':tmps[j]?.getD undef=y:=by simpa using hb
 simp [results,h,ha',hb',asAddr,h1,Result.andThen]
def RnZ (Y:Sum Pg Int) (w:World) (e:Ending) (w':World):Prop:=∃ s1 n1 t1 s2 n2 t2 s3 n3 t3 z,e=.returned (.tuple #[.agg #[.slice s1 n1 t1,.slice s2 n2 t2,.slice s3 n3 t3],.int .i64 z])∧Below w.heap.size w w'∧match Y with | .inl y=>z=0∧n1=y.shared.length∧n2=y.locks.length∧n3=y.threads.length∧TrP y w (.agg #[.slice s1 n1 t1,.slice s2 n2 t2,.slice s3 n3 t3]) w' | .inr n=>z=n∧n1=0∧n2=0∧n3=0
theorem rn_of {Y:Sum Pg Int} {w0:World} {v:Value} {z:Int} {w':World} (h:match Y with | .inl y=>z=0∧TrP y w0 v w' | .inr n=>z=n∧v=.agg #[.slice none 0 0,.slice none 0 0,.slice none 0 0]):∃ s1 n1 t1 s2 n2 t2 s3 n3 t3,v=.agg #[.slice s1 n1 t1,.slice s2 n2 t2,.slice s3 n3 t3]∧match Y with | .inl y=>z=0∧n1=y.shared.length∧n2=y.locks.length∧n3=y.threads.length∧TrP y w0 (.agg #[.slice s1 n1 t1,.slice s2 n2 t2,.slice s3 n3 t3]) w' | .inr n=>z=n∧n1=0∧n2=0∧n3=0:=by
 cases Y with
 | inl y =>
   obtain ⟨h0,h⟩:=h
   have h9:=h
   obtain ⟨s1,t1,s2,t2,s3,t3,rfl,_⟩:=h9
   exact ⟨s1,_,t1,s2,_,t2,s3,_,t3,rfl,h0,rfl,rfl,rfl,h⟩
 | inr n=>exact ⟨none,0,0,none,0,0,none,0,0,h.2,h.1,rfl,rfl,rfl⟩
theorem p_RenameZ (x:Pg) (okx:PrOk x) (hf:fitP x) (hb:ctP x≤1048576) (f t:ByteArray) (ht:nmOk t) {v:Value} {w:World} (hx:pA w x v) (TT:WTb w):Calls Tryz.prog 6 #[v,.string f,.string t] w (RnZ (renY x f t) w):=by
 have hat:∀ W r,v=.agg r→B4 w f t r #[.slice none 0 0,.slice none 0 0,.slice none 0 0] W→Calls Tryz.prog 17 #[.func (.func 18) #[] #[.pointer (some ⟨w.heap.size,0,none⟩),.pointer (some ⟨w.heap.size+2,0,none⟩),.pointer (some ⟨w.heap.size+1,0,none⟩)]] W (AtP2 (renY x f t) W):=fun W r e hB =>
  p_att_ren fun W' hW=>p_Rename1 x okx hf hb f t ht hx TT (hB.bel.trans (hW.mono hB.bel.size)) (fun r' e'=>by
   have e2:r'=r:=by rw [e] at e';injection e' with e';exact e'.symm
   rw [e2];exact hB.own0.below hW) (by rw [cell_of_row _ _ 0 _ _ _ (hB.own2.below hW)];rfl) (by rw [cell_of_row _ _ 0 _ _ _ (hB.own1.below hW)];rfl)
 obtain ⟨a1,c1,a2,c2,a3,c3,rfl,_⟩:=hx
 generalize x.shared.length=n1 at *
 generalize x.locks.length=n2 at *
 generalize x.threads.length=n3 at *
 have HAT:Hid (∀ W,B4 w f t #[.slice a1 n1 c1,.slice a2 n2 c2,.slice a3 n3 c3] #[.slice none 0 0,.slice none 0 0,.slice none 0 0] W→Calls Tryz.prog 17 #[.func (.func 18) #[] #[.pointer (some ⟨w.heap.size,0,none⟩),.pointer (some ⟨w.heap.size+2,0,none⟩),.pointer (some ⟨w.heap.size+1,0,none⟩)]] W (AtP2 (renY x f t) W)):=fun W h=>hat W _ rfl h
 have HX:=Lib.hid (b4_new w f t #[.slice a1 n1 c1,.slice a2 n2 c2,.slice a3 n3 c3] #[.slice none 0 0,.slice none 0 0,.slice none 0 0])
 obtain ⟨W0,hW0⟩:∃ W,W=(((w.alloc (.cells #[.slice a1 n1 c1,.slice a2 n2 c2,.slice a3 n3 c3] 25)).alloc (.cells #[.string f] 9)).alloc (.cells #[.string t] 9)).alloc (.cells #[.slice none 0 0,.slice none 0 0,.slice none 0 0] 25):=⟨_,rfl⟩
 rw [← hW0] at HX
 have HW0:=Lib.hid hW0
 have hmf:∀ (fn:Fn) (first cap:Array Value) (w:World),(Instr.makeFunc fn first cap).run Tryz.prog w=.ok (.func fn first cap) w:=fun _ _ _ _=>rfl
 clear hW0 hf hb okx ht TT hat
 generalize renY x f t=Y at *
 go_enter Tryz.func6,Tryz.ntmps6
 go_upto_region 1 with (fail)
 rw [show w.heap.size+1+1=w.heap.size+2 from rfl,show w.heap.size+1+1+1=w.heap.size+3 from rfl,← HW0.out]
 clear HW0
 go_wp2_with fail
 go_at_call 17
 refine (HAT.out _ HX.out).mono ?_
 rintro e w2 ⟨hb,v,z,rfl,hh⟩
 obtain ⟨s1,m1,t1,s2,m2,t2,s3,m3,t3,rfl,hh⟩:=rn_of hh
 have OR:=HX.out.own3.below hb
 have HB:=Lib.hid (HX.out.bel.trans (hb.mono HX.out.bel.size))
 have HZ:Hid (w.heap.size+3<W0.heap.size):=HX.out.own3.lt
 have HH:=Lib.hid hh
 clear hb hh HX
 go_wp2_with (refine st rowPg rfl rfl OR rfl rfl (by rfl) (by rfl) (by kernel_rfl) ?_)
 refine bodyPost_ret (res_ct rfl rfl rfl (lv_row rowPg (OR.row #[.slice s1 m1 t1,.slice s2 m2 t2,.slice s3 m3 t3]) rfl)) rfl ?_
 refine ⟨s1,m1,t1,s2,m2,t2,s3,m3,t3,z,rfl,Below.of_row HB.out (by omega) _,?_⟩
 have h9:=HH.out
 have hz:=HZ.out
 cases Y with
 | inl y=>exact ⟨h9.1,h9.2.1,h9.2.2.1,h9.2.2.2.1,trP_far h9.2.2.2.2 (chg_setRow _ _ (by omega)) (by omega)⟩
 | inr n=>exact h9
open Go.RowKit
set_option linter.unusedVariables false
theorem bytesLess_lt:∀ (x y:List UInt8),Op.bytesLess x y=decide (x<y)
 | [],[]=>by simp [Op.bytesLess]
 | [],_::_=>by simp [Op.bytesLess]
 | _::_,[]=>by simp [Op.bytesLess]
 | a :: x, b :: y => by
   rw [Op.bytesLess,bytesLess_lt x y,Bool.eq_iff_iff]
   simp only [Bool.or_eq_true,Bool.and_eq_true,decide_eq_true_eq,beq_iff_eq,List.cons_lt_cons_iff]
structure B2 (x y:Pg) (w:World) (g:Nat) (r s:Array Value) (W:World):Prop where
 own1:Own W w.heap.size 25 r
 own2:Own W g 25 s
 t1:pA W x (.agg r)
 t2:pA W y (.agg s)
 tab:WTb W
 bel:Below w.heap.size w W
open Go.RowKit
set_option linter.unusedVariables false
theorem add_at (g q j:Nat):(⟨g,q,none⟩:Addr).add j=⟨g,q+j,none⟩:=by
 cases j <;> simp [Addr.add]
def RQ (B ob lim:Nat) (X:World) (b:Nat):Prop:=B≤b∧b≠ob∧b<lim∧Uf X b
theorem rq_below {B ob lim:Nat} {X Y:World} (h:Below X.heap.size X Y) (ho:lim≤X.heap.size) {b:Nat} (hb:RQ B ob lim X b):RQ B ob lim Y b:=⟨hb.1,hb.2.1,hb.2.2.1,uf_below hb.2.2.2 h (Nat.lt_of_lt_of_le hb.2.2.1 ho)⟩
theorem rq_grown {B ob lim:Nat} {v:Value} {X Y:World} (h:X.grownBy Y v.ownBlock) (ho:lim≤X.heap.size) (hv:∀ g,v.ownBlock=some g→lim≤g) {b:Nat} (hb:RQ B ob lim X b):RQ B ob lim Y b :=
 ⟨hb.1,hb.2.1,hb.2.2.1,fun o=>by rw [World.frozen?_of_block (w:=X) (a:=⟨b,o,none⟩) (h.block b (Nat.lt_of_lt_of_le hb.2.2.1 ho) (fun e=>by have:=hv b e.symm;have:=hb.2.2.1;omega))];exact hb.2.2.2 o⟩
theorem rq_stays {B ob lim:Nat} {v:Value} {X Y:World} (h:X.grownBy Y v.ownBlock) (ho:lim≤X.heap.size) (hv:∀ g,v.ownBlock=some g→lim≤g):Stays (RQ B ob lim X) X Y:=stays_grown h fun b hb e=>by have:=hv b e;have:=hb.2.2.1;omega
structure Cq (x:Pg) (w:World) (ob lim:Nat) (p:Array Value) (s1 s2 oa:Option Addr) (t1 t2 cap n1 n2 i:Nat) (xs:List Value) (X:World):Prop where
 ge:w.heap.size+2≤ob
 lo:ob<lim
 hi:lim≤X.heap.size
 box:Own X w.heap.size 25 p
 res:Own X (w.heap.size+1) 25 #[.slice none 0 0,.slice none 0 0,.slice none 0 0]
 own:Own X ob 25 #[.slice s1 n1 t1,.slice s2 n2 t2,.slice oa i cap]
 sh:dcsAt (RQ (w.heap.size+2) ob lim X) X x.shared s1
 lk:dcsAt (RQ (w.heap.size+2) ob lim X) X x.locks s2
 row:X.ownsRow lim 60 4 (.slice oa i cap) i xs
 th:thsV (RR lim (.slice oa i cap) X) X (x.threads.take i) xs
 bel:Below w.heap.size w X
section
variable {x:Pg} {w X Y:World} {ob lim:Nat} {p:Array Value} {s1 s2 oa:Option Addr} {t1 t2 cap n1 n2 i:Nat} {xs:List Value}
theorem Cq.below (h:Cq x w ob lim p s1 s2 oa t1 t2 cap n1 n2 i xs X) (hb:Below X.heap.size X Y):Cq x w ob lim p s1 s2 oa t1 t2 cap n1 n2 i xs Y :=
 ⟨h.ge,h.lo,Nat.le_trans h.hi hb.size,h.box.below hb,h.res.below hb,h.own.below hb,dcsAt_stays (stays_below hb) (fun b=>rq_below hb h.hi) h.sh,dcsAt_stays (stays_below hb) (fun b=>rq_below hb h.hi) h.lk,row_below h.row hb,thsV_stays (stays_below hb) (fun b=>rr_below hb) h.th,h.bel.trans (hb.mono h.bel.size)⟩
end
def K3 (w:World) (v0 v1 v2:Value) (W:World):Prop:=W.cell? ⟨w.heap.size,0,none⟩=some v0∧W.cell? ⟨w.heap.size,1,none⟩=some v1∧W.cell? ⟨w.heap.size,2,none⟩=some v2∧Own W w.heap.size 25 #[v0,v1,v2]∧Own W (w.heap.size+1) 25 zPg∧Below w.heap.size w W
section
variable {w W W':World} {v0 v1 v2:Value}
theorem k3_of (h:Own W w.heap.size 25 #[v0,v1,v2]) (h2:Own W (w.heap.size+1) 25 zPg) (hb:Below w.heap.size w W):K3 w v0 v1 v2 W:=⟨by rw [cell_of_row _ _ 0 _ _ _ h];rfl,by rw [cell_of_row _ _ 1 _ _ _ h];rfl,by rw [cell_of_row _ _ 2 _ _ _ h];rfl,h,h2,hb⟩
theorem k3_below (h:K3 w v0 v1 v2 W) (hb:Below W.heap.size W W'):K3 w v0 v1 v2 W':=k3_of (h.2.2.2.1.below hb) (h.2.2.2.2.1.below hb) (h.2.2.2.2.2.trans (hb.mono h.2.2.2.2.2.size))
theorem k3_alloc (h:K3 w v0 v1 v2 W) (o:Obj):K3 w v0 v1 v2 (W.alloc o):=k3_below h ((Below.refl _ W).alloc (Nat.le_refl _) o)
theorem k3_set (h:K3 w v0 v1 v2 W) {g:Nat} (hg:w.heap.size+2≤g) (j:Nat) (v:Value):K3 w v0 v1 v2 (W.setCell ⟨g,j,none⟩ v):=k3_of (h.2.2.2.1.setX j v (by omega)) (h.2.2.2.2.1.setX j v (by omega)) (h.2.2.2.2.2.setCell (by show w.heap.size≤g;omega) v)
theorem k3_lt (h:K3 w v0 v1 v2 W):w.heap.size+2≤W.heap.size:=h.2.2.2.2.1.lt
end
theorem cq_next {x:Pg} {w X Y:World} {ob lim:Nat} {p:Array Value} {s1 s2 oa:Option Addr} {t1 t2 cap n1 n2 i:Nat} {xs news:List Value} {g2 cap2:Nat} (h:Cq x w ob lim p s1 s2 oa t1 t2 cap n1 n2 i xs X) (hr:Y.ownsRow lim 60 4 (.slice (some ⟨g2,0,none⟩) (i+1) cap2) (i+1) (xs++news)) (hg:X.grownBy Y (Value.slice oa i cap).ownBlock) (hl:(Value.slice oa i cap).ownBlock=some g2∨g2=X.heap.size) (hv:thsV (RR lim (.slice oa i cap) X) X (x.threads.take (i+1)) (xs++news)) :
 Cq x w ob lim p s1 s2 (some ⟨g2,0,none⟩) t1 t2 cap2 n1 n2 (i+1) (xs++news) (Y.setCell ⟨ob,2,none⟩ (.slice (some ⟨g2,0,none⟩) (i+1) cap2)):=by
 have hlim:∀ g,(Value.slice oa i cap).ownBlock=some g→lim≤g:=fun g hg=>(h.row.lt g hg).1
 have o0:=own_grown h.box hg (row_apart h.row h.box rfl)
 have o1:=own_grown h.res hg (row_apart h.row h.res rfl)
 have o2:=own_grown h.own hg (row_apart h.row h.own rfl)
 have hge:=h.ge
 have hlo:=h.lo
 have hst:∀ R:Nat→Prop,(∀ b,R b→b≠ob)→Stays R Y (Y.setCell ⟨ob,2,none⟩ (.slice (some ⟨g2,0,none⟩) (i+1) cap2)):=fun R hR=>stays_setX (R:=R) _ 2 _ hR
 have e:Y.setCell ⟨ob,2,none⟩ (.slice (some ⟨g2,0,none⟩) (i+1) cap2)=Y.setRow ob #[.slice s1 n1 t1,.slice s2 n2 t2,.slice (some ⟨g2,0,none⟩) (i+1) cap2]:=setCell_row o2 2 _
 have hd:∀ {l:List Dc} {a:Option Addr},dcsAt (RQ (w.heap.size+2) ob lim X) X l a→dcsAt (RQ (w.heap.size+2) ob lim (Y.setCell ⟨ob,2,none⟩ (.slice (some ⟨g2,0,none⟩) (i+1) cap2))) (Y.setCell ⟨ob,2,none⟩ (.slice (some ⟨g2,0,none⟩) (i+1) cap2)) l a:=fun hq =>
  dcsAt_stays (hst _ fun b hb=>hb.2.1) (fun b hb=>⟨hb.1,hb.2.1,hb.2.2.1,uf_setCell hb.2.2.2 _ _⟩) (dcsAt_stays (rq_stays hg h.hi hlim) (fun b hb=>rq_grown hg h.hi hlim hb) hq)
 refine ⟨hge,hlo,by rw [World.size_setCell];exact Nat.le_trans h.hi hg.size,o0.setX 2 _ (by omega),o1.setX 2 _ (by omega),o2.setJ 2 (.slice (some ⟨g2,0,none⟩) (i+1) cap2),hd h.sh,hd h.lk,?_,?_,(h.bel.grown hg h.bel.size (fun k hk=>by have:=hlim k hk;omega)).setCell (by show w.heap.size≤ob;omega) _⟩
 · rw [e];exact row_row hr _ (row_apart hr o2 rfl)
 · exact thsV_stays (hst (RR lim (.slice (some ⟨g2,0,none⟩) (i+1) cap2) Y) fun b hb=>by have:=hb.1;omega) (fun b hb=>⟨hb.1,uf_setCell hb.2.1 _ _,hb.2.2.1,by rw [World.size_setCell];exact hb.2.2.2⟩) (thsV_stays (stays_grown hg (fun b hb e=>hb.2.2.1 e)) (fun b hb=>rr_grown hg rfl hl hb) hv)
def S6 (x:Pg) (w:World) (s1 s2:Option Addr) (Q:Nat→Prop) (X:World):Prop:=dcsAt (fun b=>Rf (w.heap.size+2) X b∧Q b∧b<X.heap.size) X x.shared s1∧dcsAt (fun b=>Rf (w.heap.size+2) X b∧Q b∧b<X.heap.size) X x.locks s2
section
variable {x:Pg} {w W:World} {ob:Nat} {v0 v1 v2:Value} {s1 s2:Option Addr} {t1 t2 n1 n2:Nat}
theorem cq_alloc (hK:K3 w v0 v1 v2 W) (hS:S6 x w s1 s2 (fun _=>True) W):Cq x w W.heap.size (W.heap.size+1) #[v0,v1,v2] s1 s2 none t1 t2 0 n1 n2 0 [] (W.alloc (.cells #[.slice s1 n1 t1,.slice s2 n2 t2,.slice none 0 0] 25)):=by
 have hB:=(Below.refl W.heap.size W).alloc (Nat.le_refl _) (.cells #[.slice s1 n1 t1,.slice s2 n2 t2,.slice none 0 0] 25)
 have hK9:=k3_below hK hB
 have hm:∀ b,(Rf (w.heap.size+2) W b∧True∧b<W.heap.size)→RQ (w.heap.size+2) W.heap.size (W.heap.size+1) (W.alloc (.cells #[.slice s1 n1 t1,.slice s2 n2 t2,.slice none 0 0] 25)) b:=fun b hb=>⟨hb.1.1,by omega,by omega,uf_below hb.1.2 hB hb.2.2⟩
 exact ⟨k3_lt hK,by omega,by rw [World.size_alloc];exact Nat.le_refl _,hK9.2.2.2.1,hK9.2.2.2.2.1,Own.new W _ _,dcsAt_stays (stays_below hB) hm hS.1,dcsAt_stays (stays_below hB) hm hS.2,World.ownsRow_nil _ _ _ _,rfl,hK9.2.2.2.2.2⟩
theorem cq_sets (hK:K3 w v0 v1 v2 W) (hO:Own W ob 25 #[.slice none 0 0,.slice none 0 0,.slice none 0 0]) (hob:w.heap.size+2≤ob) (hS:S6 x w s1 s2 (fun b=>b≠ob) W):Cq x w ob W.heap.size #[v0,v1,v2] s1 s2 none t1 t2 0 n1 n2 0 [] (((W.setCell ⟨ob,0,none⟩ (.slice s1 n1 t1)).setCell ⟨ob,1,none⟩ (.slice s2 n2 t2)).setCell ⟨ob,2,none⟩ (.slice none 0 0)):=by
 have hK9:=k3_set (k3_set (k3_set hK hob 0 (.slice s1 n1 t1)) hob 1 (.slice s2 n2 t2)) hob 2 (.slice none 0 0)
 have hst:∀ R:Nat→Prop,(∀ b,R b→b≠ob)→Stays R W (((W.setCell ⟨ob,0,none⟩ (.slice s1 n1 t1)).setCell ⟨ob,1,none⟩ (.slice s2 n2 t2)).setCell ⟨ob,2,none⟩ (.slice none 0 0)):=fun R hR b o v hb hv =>
  stays_setX (R:=R) _ 2 _ hR b o v hb (stays_setX (R:=R) _ 1 _ hR b o v hb (stays_setX (R:=R) _ 0 _ hR b o v hb hv))
 have hm:∀ b,(Rf (w.heap.size+2) W b∧b≠ob∧b<W.heap.size)→RQ (w.heap.size+2) ob W.heap.size (((W.setCell ⟨ob,0,none⟩ (.slice s1 n1 t1)).setCell ⟨ob,1,none⟩ (.slice s2 n2 t2)).setCell ⟨ob,2,none⟩ (.slice none 0 0)) b:=fun b hb=>⟨hb.1.1,hb.2.1,hb.2.2,uf_setCell (uf_setCell (uf_setCell hb.1.2 _ _) _ _) _ _⟩
 exact ⟨hob,hO.lt,by simp only [World.size_setCell];exact Nat.le_refl _,hK9.2.2.2.1,hK9.2.2.2.2.1,((hO.setJ 0 (.slice s1 n1 t1)).setJ 1 (.slice s2 n2 t2)).setJ 2 (.slice none 0 0),dcsAt_stays (hst _ (fun b hb=>hb.2.1)) hm hS.1,dcsAt_stays (hst _ (fun b hb=>hb.2.1)) hm hS.2,World.ownsRow_nil _ _ _ _,rfl,hK9.2.2.2.2.2⟩
theorem s6_of {X Y w5:World} {Q:Nat→Prop} (hX:w.heap.size+2≤X.heap.size) (h1:dcsAt (Rf X.heap.size w5) w5 x.shared s1) (hY:Below w5.heap.size w5 Y) (h2:dcsAt (Rf Y.heap.size W) W x.locks s2) (hW:Below Y.heap.size Y W) (hXW:X.heap.size≤w5.heap.size) (hQ1:∀ b,X.heap.size≤b→b<w5.heap.size→Q b) (hQ2:∀ b,Y.heap.size≤b→b<W.heap.size→Q b):S6 x w s1 s2 Q W:=by
 have hz:=hY.size
 have hz2:=hW.size
 have hB:Below w5.heap.size w5 W:=hY.trans (hW.mono hz)
 refine ⟨dcsAt_stays (stays_below hB) (fun b hb=>⟨⟨by have:=hb.1.1;omega,uf_below hb.1.2 hB hb.2⟩,hQ1 b hb.1.1 hb.2,by have:=hb.2;omega⟩) (dcsAt_in h1),dcsAt_mono (dcsAt_in h2) (fun b hb=>⟨⟨by have:=hb.1.1;omega,hb.1.2⟩,hQ2 b hb.1.1 hb.2,hb.2⟩)⟩
end
end Go.Proofs.YtimccjlhhjjcpaaGreatDoor

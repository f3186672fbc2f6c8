/- The proof, part 9: texts that belong together, in one. -/
import Derived.Test.YtmpljhfinmfnbaaGreatDoorQAH
set_option maxRecDepth 100000
set_option maxHeartbeats 20000000
namespace Go.Proofs.YtmpljhfinmfnbaaGreatDoor
open Go.RowKit
set_option linter.unusedVariables false
set_option maxRecDepth 100000
def memT (l:List Int):List UInt8:=l.flatMap wrdT
def codeT (l:List Ins):List UInt8:=l.flatMap fun i=>insT i++[10]
def corT (c:Cor):List UInt8:=([99,111,114,101,32]:List UInt8)++c.name.data.toList++[10]++codeT c.code
def obT (o:Ob):List UInt8:=([111,98,106,101,99,116]:List UInt8)++(numT o.sh++(numT o.lk++numT o.bf))++([10,109,101,109,111,114,121]:List UInt8)++memT o.mem++[10]++o.cores.flatMap corT
theorem flat_len {α:Type} (f:α→List UInt8) (B:Nat):∀ l:List α,(∀ x∈l,(f x).length≤B)→(l.flatMap f).length≤B*l.length
 | [],_=>by simp
 | x :: r, h => by
   have h1:=h x (.head _)
   have h2:=flat_len f B r fun y hy=>h y (.tail _ hy)
   simp only [List.flatMap_cons,List.length_append,List.length_cons,Nat.mul_add,Nat.mul_one]
   omega
theorem flat_snoc {α:Type} (f:α→List UInt8) (l:List α) (x:α):(l++[x]).flatMap f=l.flatMap f++f x:=by simp
theorem take_flat {α:Type} (f:α→List UInt8) {l:List α} {j:Nat} {x:α} (h:l[j]? = some x):(l.take (j+1)).flatMap f=(l.take j).flatMap f++f x:=by
 obtain ⟨hl,e⟩:=List.getElem?_eq_some_iff.1 h
 rw [List.take_succ_eq_append_getElem hl,flat_snoc,e]
theorem nu_C:Nu8 70:=fun cs=>by
 rintro ⟨c,f,h⟩
 cases h
theorem nu_O:Nu8 25:=fun cs=>by
 rintro ⟨c,f,h⟩
 cases h
theorem nu_n:Nu8 3:=fun cs=>by
 rintro ⟨c,f,h⟩
 cases h
theorem nu_w:Nu8 2:=fun cs=>by
 rintro ⟨c,f,h⟩
 cases h
theorem num_here {w W:World} {b g:Nat} {t:List UInt8} {x:Int} {ty:TypeId} (h:Wq w b t W) (ho:Own W g ty #[.int .i64 x]) (hg:g≠b) (hn:Nu8 ty) (hx : -9223372036854775808≤x∧x≤9223372036854775807) (hl:t.length≤70000000000000) (HT:∀ X,Below b w X→PwT X) :
 Calls Tryz.prog 120 #[.pointer (some ⟨b,0,none⟩),.pointer (some ⟨g,0,none⟩)] W fun e w'=>e=.returned (.tuple #[])∧Wq w b (t++numT x) w' :=
 (w_num (wq_new h.wt) ⟨g,0,ty,_,rfl,ho,hg,hn,rfl⟩ hx hl (fun Y hY=>HT Y (h.bel.trans hY))).mono fun _ _ ⟨h1,h2⟩=>⟨h1,h.trans h2⟩
theorem wrd_here {w W:World} {b g:Nat} {t:List UInt8} {x:Int} {ty:TypeId} (h:Wq w b t W) (ho:Own W g ty #[.int .i64 x]) (hg:g≠b) (hn:Nu8 ty) (hx : -9223372036854775808≤x∧x≤9223372036854775807) (hl:t.length≤70000000000000) (HT:∀ X,Below b w X→PwT X) :
 Calls Tryz.prog 121 #[.pointer (some ⟨b,0,none⟩),.pointer (some ⟨g,0,none⟩)] W fun e w'=>e=.returned (.tuple #[])∧Wq w b (t++wrdT x) w' :=
 (w_wrd (wq_new h.wt) ⟨g,0,ty,_,rfl,ho,hg,hn,rfl⟩ hx hl (fun Y hY=>HT Y (h.bel.trans hY))).mono fun _ _ ⟨h1,h2⟩=>⟨h1,h.trans h2⟩
theorem w_object (o:Ob) (hg:rgO o) (ht:topB o=true) (hok:∀ c∈o.cores,∀ i∈c.code,kB i.k=true∧opB i.k i.o=true) {wt w:World} {b:Nat} {v:Value} (hb0:b=wt.heap.size) (hbw:Below b wt w) (hv:obA wt o v) (hw:Wt b [] w) (HT:∀ X,Below b w X→TgT X∧PwT X) :
 Calls Tryz.prog 78 #[.pointer (some ⟨b,0,none⟩),v] w fun e w'=>e=.returned (.tuple #[])∧Wq w b (obT o) w':=by
 obtain ⟨a1,c1,a5,c5,rfl,h1,h5⟩:=hv
 have hsz:o.mem.length≤4096∧o.cores.length≤8∧∀ c∈o.cores,c.name.size≤32∧c.code.length≤16384:=by
  unfold topB at ht
  simp only [Bool.and_eq_true,decide_eq_true_eq] at ht
  obtain ⟨_,_,_,h4,_,_,h8,h9⟩:=ht
  refine ⟨h4,h8,fun c hc=>?_⟩
  have key:∀ (seen:List (List UInt8)) (l:List Cor),corsB seen l=true→∀ c∈l,c.name.size≤32∧c.code.length≤16384:=by
   intro seen l
   induction l generalizing seen with
   | nil=>intro _ c hc;cases hc
   | cons x r ih =>
     intro h c hc
     simp only [corsB,Bool.and_eq_true] at h
     rcases List.mem_cons.1 hc with rfl | hc
     · have h' := h.1
       unfold corB codeB nameB at h'
       simp only [Bool.and_eq_true,decide_eq_true_eq] at h'
       exact ⟨h'.1.2.1,h'.2.2.2.1⟩
     · exact ih _ h.2 c hc
  exact key [] _ h9 c hc
 obtain ⟨l1,l5,lc⟩:=hsz
 obtain ⟨gm,gs,gk,gb,gi⟩:=hg
 obtain ⟨mem,sh,lk,bf,cores⟩:=o
 simp only [obV,obT] at *
 have HL1:Hid (∀ j,((mem.take j).flatMap wrdT).length≤409600):=fun j=>by
  have:=flat_len wrdT 100 (mem.take j) fun x hx=>(num_len x (gm x (List.mem_of_mem_take hx))).2.2
  have h2:(mem.take j).length≤4096:=by rw [List.length_take];omega
  omega
 have HCL:∀ c∈cores,∀ j,((c.code.take j).flatMap fun i=>insT i++[10]).length≤16400384:=fun c hc j=>by
  have:=flat_len (fun i=>insT i++[10]) 1001 (c.code.take j) fun i hi=>by
   have:=insT_len i (gi c hc i (List.mem_of_mem_take hi))
   simp only [List.length_append,List.length_cons,List.length_nil];omega
  have h2:(c.code.take j).length≤16384:=by rw [List.length_take];have:=(lc c hc).2;omega
  omega
 have HL5:Hid (∀ j,((cores.take j).flatMap corT).length≤200000000):=fun j=>by
  have:=flat_len corT 16500000 (cores.take j) fun c hc=>by
   have hc':=List.mem_of_mem_take hc
   have h1:=HCL c hc' c.code.length
   rw [List.take_length] at h1
   have h2:=(lc c hc').1
   have h3:c.name.data.toList.length=c.name.size:=Array.length_toList
   simp only [corT,codeT,List.length_append,List.length_cons,List.length_nil]
   omega
  have h2:(cores.take j).length≤8:=by rw [List.length_take];omega
  omega
 have hn1:=num_len sh gs
 have hn2:=num_len lk gk
 have hn3:=num_len bf gb
 have HNL:Hid ((numT sh).length≤100∧(numT lk).length≤100∧(numT bf).length≤100):=⟨hn1.2.1,hn2.2.1,hn3.2.1⟩
 obtain ⟨n1,hn1⟩:∃ n,n=mem.length:=⟨_,rfl⟩
 obtain ⟨n5,hn5⟩:∃ n,n=cores.length:=⟨_,rfl⟩
 rw [← hn1] at l1 ⊢
 rw [← hn5] at l5 ⊢
 have HN:=Lib.hid (And.intro hn1 hn5)
 have al:Below w.heap.size w (w.alloc (.cells #[.slice a1 n1 c1,.int .i64 sh,.int .i64 lk,.int .i64 bf,.slice a5 n5 c5] 25)):=(Below.refl _ w).alloc (Nat.le_refl _) _
 have hq0:=(wq_new hw).below al
 have ho0:=Own.new w 25 #[.slice a1 n1 c1,.int .i64 sh,.int .i64 lk,.int .i64 bf,.slice a5 n5 c5]
 have hnb:w.heap.size≠b:=by have:=hw.lt;omega
 obtain ⟨W0,hW0⟩:∃ W,W=w.alloc (.cells #[.slice a1 n1 c1,.int .i64 sh,.int .i64 lk,.int .i64 bf,.slice a5 n5 c5] 25):=⟨_,rfl⟩
 rw [← hW0] at hq0 ho0
 have HQW:=Lib.hid hq0
 have B0:=hq0.bel
 have HTT:Hid (∀ X,Below b W0 X→TgT X):=fun X h=>(HT X (B0.trans h)).1
 have HTP:Hid (∀ X,Below b W0 X→PwT X):=fun X h=>(HT X (B0.trans h)).2
 have HBT:Hid (∀ X,Below b W0 X→Below b wt X):=fun X h=>(hbw.trans B0).trans h
 have HWR:Hid (∀ X t s,Wq W0 b t X→t.length+s.size≤140737488355328→Calls Tryz.prog 119 #[.pointer (some ⟨b,0,none⟩),.string s] X fun e w'=>e=.returned (.tuple #[.int .i64 s.size,.nilIface])∧Wq W0 b (t++s.data.toList) w'):=fun X t s h hl=>wq_write h s hl
 have HBY:Hid (∀ X t,Wq W0 b t X→t.length+1≤140737488355328→Calls Tryz.prog 122 #[.pointer (some ⟨b,0,none⟩),.int .u8 10] X fun e w'=>e=.returned .nilIface∧Wq W0 b (t++[10]) w'):=fun X t h hl=>wq_byte h hl
 have HOB:Hid (∀ X t,Wq W0 b t X→Own X w.heap.size 25 #[.slice a1 n1 c1,.int .i64 sh,.int .i64 lk,.int .i64 bf,.slice a5 n5 c5]):=fun X t h=>h.own ho0 hnb nu_O
 have HQ0:=Lib.hid (wq_new hq0.wt)
 have HW0:=Lib.hid hW0
 have HG:=Lib.hid (And.intro gm (And.intro gs (And.intro gk (And.intro gb gi))))
 have HLC:=Lib.hid lc
 have HCC:=Lib.hid HCL
 have HOK:=Lib.hid hok
 have E1:=Lib.hid h1
 have E5:=Lib.hid h5
 have HB0:=Lib.hid hb0
 have HLB:Hid (b<W0.heap.size):=hq0.wt.lt
 clear hn1 hn2 hn3 hn5 hw ht hok hb0 hbw h1 h5 HT al hq0 ho0 hnb hW0 B0 gm gs gk gb gi lc HCL
 have c0:W0.cell? ⟨w.heap.size,0,none⟩=some (.slice a1 n1 c1):=by rw [cell_of_row _ _ 0 _ _ _ (HOB.out _ _ HQ0.out)];rfl
 have c1':W0.cell? ⟨w.heap.size,1,none⟩=some (.int .i64 sh):=by rw [cell_of_row _ _ 1 _ _ _ (HOB.out _ _ HQ0.out)];rfl
 have c2:W0.cell? ⟨w.heap.size,2,none⟩=some (.int .i64 lk):=by rw [cell_of_row _ _ 2 _ _ _ (HOB.out _ _ HQ0.out)];rfl
 have c3:W0.cell? ⟨w.heap.size,3,none⟩=some (.int .i64 bf):=by rw [cell_of_row _ _ 3 _ _ _ (HOB.out _ _ HQ0.out)];rfl
 have c4:W0.cell? ⟨w.heap.size,4,none⟩=some (.slice a5 n5 c5):=by rw [cell_of_row _ _ 4 _ _ _ (HOB.out _ _ HQ0.out)];rfl
 go_enter Tryz.func78,Tryz.ntmps78
 go_upto_region 1 with (fail)
 rw [← HW0.out]
 clear HW0
 go_wp2_with fail
 go_at_call 119
 refine (HWR.out _ _ _ HQ0.out (by decide)).mono ?_
 rintro e w1 ⟨rfl,hz⟩
 have HQ1:Hid (Wq W0 b ([111,98,106,101,99,116]:List UInt8) w1):=hz
 clear hz HQ0
 have c0:w1.cell? ⟨w.heap.size,0,none⟩=some (.slice a1 n1 c1):=by rw [cell_of_row _ _ 0 _ _ _ (HOB.out _ _ HQ1.out)];rfl
 have c1':w1.cell? ⟨w.heap.size,1,none⟩=some (.int .i64 sh):=by rw [cell_of_row _ _ 1 _ _ _ (HOB.out _ _ HQ1.out)];rfl
 have c2:w1.cell? ⟨w.heap.size,2,none⟩=some (.int .i64 lk):=by rw [cell_of_row _ _ 2 _ _ _ (HOB.out _ _ HQ1.out)];rfl
 have c3:w1.cell? ⟨w.heap.size,3,none⟩=some (.int .i64 bf):=by rw [cell_of_row _ _ 3 _ _ _ (HOB.out _ _ HQ1.out)];rfl
 have c4:w1.cell? ⟨w.heap.size,4,none⟩=some (.slice a5 n5 c5):=by rw [cell_of_row _ _ 4 _ _ _ (HOB.out _ _ HQ1.out)];rfl
 have hx0:∀ X:World,(Instr.index 208 (.agg #[.int .i64 sh,.int .i64 lk,.int .i64 bf]) (.int .i64 0)).run Tryz.prog X=.ok (.int .i64 sh) X:=fun _=>rfl
 have hx1:∀ X:World,(Instr.index 208 (.agg #[.int .i64 sh,.int .i64 lk,.int .i64 bf]) (.int .i64 1)).run Tryz.prog X=.ok (.int .i64 lk) X:=fun _=>rfl
 have hx2:∀ X:World,(Instr.index 208 (.agg #[.int .i64 sh,.int .i64 lk,.int .i64 bf]) (.int .i64 2)).run Tryz.prog X=.ok (.int .i64 bf) X:=fun _=>rfl
 obtain ⟨tn,htn⟩:∃ tn:Nat→List UInt8,tn=fun j=>([111,98,106,101,99,116]:List UInt8)++(match j with | 0=>[] | 1=>numT sh | 2=>numT sh++numT lk | _=>numT sh++(numT lk++numT bf)):=⟨_,rfl⟩
 have HTN:Hid (tn 0=([111,98,106,101,99,116]:List UInt8)∧tn 1=tn 0++numT sh∧tn 2=tn 1++numT lk∧tn 3=tn 2++numT bf∧tn 3=([111,98,106,101,99,116]:List UInt8)++(numT sh++(numT lk++numT bf))∧∀ j,(tn j).length≤400):=by
  rw [Hid,htn]
  refine ⟨rfl,rfl,by simp,by simp,rfl,fun j=>?_⟩
  obtain ⟨q1,q2,q3⟩:=HNL.out
  match j with
  | 0=>simp
  | 1=>simp;omega
  | 2=>simp;omega
  | j+3=>simp;omega
 clear htn
 go_wp2_with fail
 go_loopg [23] 4 (fun m' z X=>∃ j:Nat,z=.int .i64 (j:Int)∧j≤3∧m'=3-j+1∧Wq W0 b (tn j) X)
 case atStart=>exact ⟨0,rfl,by omega,by omega,by rw [HTN.out.1];exact HQ1.out⟩
 case round =>
  clear HQ1 c0 c1' c2 c3 c4
  obtain ⟨j,rfl,hj,hm,hq⟩:=hrel
  have HM:=Lib.hid hm
  have HQ:=Lib.hid hq
  clear hm hq
  rcases (show j=0∨j=1∨j=2∨j=3 by omega) with rfl | rfl | rfl | rfl
  · have HB := Lib.hid ((Below.refl wr.heap.size wr).alloc (Nat.le_refl _) (.cells #[.int .i64 sh] 3))
    have O6:=Own.new wr 3 #[.int .i64 sh]
    have hlb:=HQ.out.wt.lt
    obtain ⟨W3,hW3⟩:∃ W,W=wr.alloc (.cells #[.int .i64 sh] 3):=⟨_,rfl⟩
    rw [← hW3] at HB O6
    have HW3:=Lib.hid hW3
    have HN:=Lib.hid (num_here (HQ.out.below HB.out) O6 (by omega) nu_n HG.out.2.1 (by have:=HTN.out.2.2.2.2.2 0;omega) HTP.out)
    clear hW3 O6 HB HQ hlb
    go_upto_region 5 with (fail)
    rw [← HW3.out]
    clear HW3
    go_wp2_with fail
    go_at_call 120
    refine HN.out.mono ?_
    rintro e w4 ⟨rfl,hz⟩
    rw [← HTN.out.2.1] at hz
    have HZ:=Lib.hid hz
    clear hz
    go_wp2_with fail
    go_roundg (3-1+1)
    case measure=>have:=HM.out;omega
    case rel=>exact ⟨1,by simp,by omega,by omega,HZ.out⟩
  · have HB := Lib.hid ((Below.refl wr.heap.size wr).alloc (Nat.le_refl _) (.cells #[.int .i64 lk] 3))
    have O6:=Own.new wr 3 #[.int .i64 lk]
    have hlb:=HQ.out.wt.lt
    obtain ⟨W3,hW3⟩:∃ W,W=wr.alloc (.cells #[.int .i64 lk] 3):=⟨_,rfl⟩
    rw [← hW3] at HB O6
    have HW3:=Lib.hid hW3
    have HN:=Lib.hid (num_here (HQ.out.below HB.out) O6 (by omega) nu_n HG.out.2.2.1 (by have:=HTN.out.2.2.2.2.2 1;omega) HTP.out)
    clear hW3 O6 HB HQ hlb
    go_upto_region 5 with (fail)
    rw [← HW3.out]
    clear HW3
    go_wp2_with fail
    go_at_call 120
    refine HN.out.mono ?_
    rintro e w4 ⟨rfl,hz⟩
    rw [← HTN.out.2.2.1] at hz
    have HZ:=Lib.hid hz
    clear hz
    go_wp2_with fail
    go_roundg (3-2+1)
    case measure=>have:=HM.out;omega
    case rel=>exact ⟨2,by simp,by omega,by omega,HZ.out⟩
  · have HB := Lib.hid ((Below.refl wr.heap.size wr).alloc (Nat.le_refl _) (.cells #[.int .i64 bf] 3))
    have O6:=Own.new wr 3 #[.int .i64 bf]
    have hlb:=HQ.out.wt.lt
    obtain ⟨W3,hW3⟩:∃ W,W=wr.alloc (.cells #[.int .i64 bf] 3):=⟨_,rfl⟩
    rw [← hW3] at HB O6
    have HW3:=Lib.hid hW3
    have HN:=Lib.hid (num_here (HQ.out.below HB.out) O6 (by omega) nu_n HG.out.2.2.2.1 (by have:=HTN.out.2.2.2.2.2 2;omega) HTP.out)
    clear hW3 O6 HB HQ hlb
    go_upto_region 5 with (fail)
    rw [← HW3.out]
    clear HW3
    go_wp2_with fail
    go_at_call 120
    refine HN.out.mono ?_
    rintro e w4 ⟨rfl,hz⟩
    rw [← HTN.out.2.2.2.1] at hz
    have HZ:=Lib.hid hz
    clear hz
    go_wp2_with fail
    go_roundg (3-3+1)
    case measure=>have:=HM.out;omega
    case rel=>exact ⟨3,by simp,by omega,by omega,HZ.out⟩
  · clear HM hx0 hx1 hx2
    go_wp2_with fail
    go_at_call 119
    refine (HWR.out _ _ _ HQ.out (by have:=HTN.out.2.2.2.2.2 3;show (tn 3).length+7≤_;omega)).mono ?_
    rintro e w5 ⟨rfl,hz⟩
    obtain ⟨t5,ht5⟩:∃ t,t=tn 3++([10,109,101,109,111,114,121]:List UInt8):=⟨_,rfl⟩
    have HQ5:Hid (Wq W0 b t5 w5):=by rw [Hid,ht5];exact hz
    have HT5:Hid (t5=([111,98,106,101,99,116]:List UInt8)++(numT sh++(numT lk++numT bf))++([10,109,101,109,111,114,121]:List UInt8)∧t5.length≤500):=by
     have:=HTN.out.2.2.2.2.2 3
     rw [Hid,ht5,← HTN.out.2.2.2.2.1]
     refine ⟨rfl,?_⟩
     rw [List.length_append]
     show (tn 3).length+7≤500
     omega
    clear hz ht5 HTN HQ
    have d0:w5.cell? ⟨w.heap.size,0,none⟩=some (.slice a1 n1 c1):=by rw [cell_of_row _ _ 0 _ _ _ (HOB.out _ _ HQ5.out)];rfl
    have d1:w5.cell? ⟨w.heap.size,1,none⟩=some (.int .i64 sh):=by rw [cell_of_row _ _ 1 _ _ _ (HOB.out _ _ HQ5.out)];rfl
    have d2:w5.cell? ⟨w.heap.size,2,none⟩=some (.int .i64 lk):=by rw [cell_of_row _ _ 2 _ _ _ (HOB.out _ _ HQ5.out)];rfl
    have d3:w5.cell? ⟨w.heap.size,3,none⟩=some (.int .i64 bf):=by rw [cell_of_row _ _ 3 _ _ _ (HOB.out _ _ HQ5.out)];rfl
    have d4:w5.cell? ⟨w.heap.size,4,none⟩=some (.slice a5 n5 c5):=by rw [cell_of_row _ _ 4 _ _ _ (HOB.out _ _ HQ5.out)];rfl
    go_wp2_with fail
    go_loopg [36] (n1+1) (fun m' z X=>∃ j:Nat,z=.int .i64 (j:Int)∧j≤n1∧m'=n1-j+1∧Wq W0 b (t5++(mem.take j).flatMap wrdT) X)
    case atStart=>exact ⟨0,rfl,Nat.zero_le _,by omega,by simpa using HQ5.out⟩
    case round =>
     clear HQ5 d0 d1 d2 d3 d4
     obtain ⟨j,rfl,hj,hm,hq⟩:=hrel
     have HM:=Lib.hid hm
     have HQ:=Lib.hid hq
     clear hm hq
     by_cases hjn:j<n1
     · have il : j < mem.length := by have := HN.out.1; omega
       have g1:mem[j]? = some mem[j]:=List.getElem?_eq_getElem il
       have hx : -9223372036854775808≤mem[j]∧mem[j]≤9223372036854775807:=HG.out.1 _ (List.getElem_mem il)
       have HTK:Hid (t5++(mem.take (j+1)).flatMap wrdT=t5++(mem.take j).flatMap wrdT++wrdT mem[j]):=by rw [Hid,take_flat wrdT g1,List.append_assoc]
       generalize mem[j]=x at g1 hx HTK
       rcases E1.out with e | ⟨g,q,e,e1⟩
       · subst e;simp at il
       obtain rfl:a1=some ⟨g,q,none⟩:=e
       have k0:=e1 j x g1
       have k0':wr.cell? ⟨g,q+j,none⟩=some (.int .i64 x):=((HBT.out _ HQ.out.bel).cell (p:=⟨g,q+j,none⟩) (by rw [HB0.out];exact lt_of_at k0)).trans k0
       have hjn':(j:Int)<(n1:Int):=by omega
       have HB:=Lib.hid ((Below.refl wr.heap.size wr).alloc (Nat.le_refl _) (.cells #[.int .i64 x] 2))
       have O6:=Own.new wr 2 #[.int .i64 x]
       have hlb:=HQ.out.wt.lt
       obtain ⟨W3,hW3⟩:∃ W,W=wr.alloc (.cells #[.int .i64 x] 2):=⟨_,rfl⟩
       rw [← hW3] at HB O6
       have HW3:=Lib.hid hW3
       have hl5:=HT5.out.2
       have hl1:=HL1.out j
       have HNN:=Lib.hid (wrd_here (HQ.out.below HB.out) O6 (by omega) nu_w hx (by rw [List.length_append];omega) HTP.out)
       clear hW3 O6 HB HQ hlb k0 g1 e1 il hl5 hl1
       go_upto_region 11 with (fail)
       rw [← HW3.out]
       clear HW3
       go_wp2_with fail
       go_at_call 121
       refine HNN.out.mono ?_
       rintro e w4 ⟨rfl,hz⟩
       rw [← HTK.out] at hz
       have HZ:=Lib.hid hz
       clear hz
       go_wp2_with fail
       go_roundg (n1-(j+1)+1)
       case measure=>have:=HM.out;omega
       case rel=>exact ⟨j+1,by simp,by omega,by omega,HZ.out⟩
     obtain rfl:n1=j:=by omega
     go_wp2_with fail
     go_at_call 122
     refine (HBY.out _ _ HQ.out (by have h5:=HT5.out.2;have h1:=HL1.out n1;rw [List.length_append];omega)).mono ?_
     rintro e w6 ⟨rfl,hz⟩
     obtain ⟨t6,ht6⟩:∃ t,t=t5++(mem.take n1).flatMap wrdT++[10]:=⟨_,rfl⟩
     have HQ6:Hid (Wq W0 b t6 w6):=by rw [Hid,ht6];exact hz
     have HT6:Hid (t6=([111,98,106,101,99,116]:List UInt8)++(numT sh++(numT lk++numT bf))++([10,109,101,109,111,114,121]:List UInt8)++memT mem++[10]∧t6.length≤500000):=by
      have h5:=HT5.out.2
      have h1:=HL1.out n1
      have hm:mem.take n1=mem:=by rw [HN.out.1,List.take_length]
      refine ⟨by rw [ht6,HT5.out.1,hm];rfl,?_⟩
      rw [ht6]
      simp only [List.length_append,List.length_cons,List.length_nil]
      omega
     clear hz ht6 HQ HM HT5 hj hjn E1
     have d0:w6.cell? ⟨w.heap.size,0,none⟩=some (.slice a1 n1 c1):=by rw [cell_of_row _ _ 0 _ _ _ (HOB.out _ _ HQ6.out)];rfl
     have d1:w6.cell? ⟨w.heap.size,1,none⟩=some (.int .i64 sh):=by rw [cell_of_row _ _ 1 _ _ _ (HOB.out _ _ HQ6.out)];rfl
     have d2:w6.cell? ⟨w.heap.size,2,none⟩=some (.int .i64 lk):=by rw [cell_of_row _ _ 2 _ _ _ (HOB.out _ _ HQ6.out)];rfl
     have d3:w6.cell? ⟨w.heap.size,3,none⟩=some (.int .i64 bf):=by rw [cell_of_row _ _ 3 _ _ _ (HOB.out _ _ HQ6.out)];rfl
     have d4:w6.cell? ⟨w.heap.size,4,none⟩=some (.slice a5 n5 c5):=by rw [cell_of_row _ _ 4 _ _ _ (HOB.out _ _ HQ6.out)];rfl
     go_wp2_with fail
     go_loopg [50] (n5+1) (fun m' z X=>∃ j:Nat,z=.int .i64 (j:Int)∧j≤n5∧m'=n5-j+1∧Wq W0 b (t6++(cores.take j).flatMap corT) X)
     case atStart=>exact ⟨0,rfl,Nat.zero_le _,by omega,by simpa using HQ6.out⟩
     case round =>
      clear HQ6 d0 d1 d2 d3 d4
      obtain ⟨j,rfl,hj,hm,hq⟩:=hrel
      have HM:=Lib.hid hm
      have HQ:=Lib.hid hq
      clear hm hq
      by_cases hjn:j<n5
      · have il : j < cores.length := by have := HN.out.2; omega
        have g1:cores[j]? = some cores[j]:=List.getElem?_eq_getElem il
        have hmem:cores[j]∈cores:=List.getElem_mem il
        have htk:=take_flat corT g1
        generalize cores[j]=x at g1 hmem htk
        rcases E5.out with e | ⟨g,q,e,e1⟩
        · subst e;simp at il
        obtain rfl:a5=some ⟨g,q,none⟩:=e
        obtain ⟨f0,a2,c2,f1,y2⟩:=e1 j x g1
        have hlc:=HLC.out x hmem
        have hok:=HOK.out x hmem
        have hri:=HG.out.2.2.2.2 x hmem
        have hcl:=HCC.out x hmem
        have hl5:=HL5.out j
        obtain ⟨nm,cd⟩:=x
        simp only [corT,codeT] at f0 f1 y2 hlc hok hri hcl htk
        have BT:=HBT.out _ HQ.out.bel
        have k0':wr.cell? ⟨g,q+j*2,none⟩=some (.string nm):=(BT.cell (p:=⟨g,q+j*2,none⟩) (by rw [HB0.out];exact lt_of_at f0)).trans f0
        have k1':wr.cell? ⟨g,q+j*2+1,none⟩=some (.slice a2 cd.length c2):=(BT.cell (p:=⟨g,q+j*2+1,none⟩) (by rw [HB0.out];exact lt_of_at f1)).trans f1
        have hjn':(j:Int)<(n5:Int):=by omega
        obtain ⟨nc,hnc⟩:∃ n,n=cd.length:=⟨_,rfl⟩
        rw [← hnc] at k1' hlc
        have HNC:=Lib.hid hnc
        have ln:nc≤16384:=hlc.2
        have hqa:=HQ.out.below ((Below.refl wr.heap.size wr).alloc (Nat.le_refl _) (.cells #[.string nm,.slice a2 nc c2] 70))
        have OC:=Own.new wr 70 #[.string nm,.slice a2 nc c2]
        have hgb:wr.heap.size≠b:=by have:=HQ.out.wt.lt;omega
        obtain ⟨W3,hW3⟩:∃ W,W=wr.alloc (.cells #[.string nm,.slice a2 nc c2] 70):=⟨_,rfl⟩
        rw [← hW3] at hqa OC
        have HW3:=Lib.hid hW3
        have HQA:=Lib.hid hqa
        have hq3:=wq_new hqa.wt
        have B3:=hqa.bel
        have HTT3:Hid (∀ X,Below b W3 X→TgT X∧PwT X):=fun X h=>⟨HTT.out X (B3.trans h),HTP.out X (B3.trans h)⟩
        have HBT3:Hid (∀ X,Below b W3 X→Below b wt X):=fun X h=>HBT.out X (B3.trans h)
        have HWR3:Hid (∀ X t s,Wq W3 b t X→t.length+s.size≤140737488355328→Calls Tryz.prog 119 #[.pointer (some ⟨b,0,none⟩),.string s] X fun e w'=>e=.returned (.tuple #[.int .i64 s.size,.nilIface])∧Wq W3 b (t++s.data.toList) w'):=fun X t s h hl=>wq_write h s hl
        have HBY3:Hid (∀ X t,Wq W3 b t X→t.length+1≤140737488355328→Calls Tryz.prog 122 #[.pointer (some ⟨b,0,none⟩),.int .u8 10] X fun e w'=>e=.returned .nilIface∧Wq W3 b (t++[10]) w'):=fun X t h hl=>wq_byte h hl
        have HC01:Hid (∀ X t,Wq W3 b t X→X.cell? ⟨wr.heap.size,0,none⟩=some (.string nm)∧X.cell? ⟨wr.heap.size,1,none⟩=some (.slice a2 nc c2)):=fun X t h=>by
         have O:=h.own OC hgb nu_C
         exact ⟨by rw [cell_of_row _ _ 0 _ _ _ O];rfl,by rw [cell_of_row _ _ 1 _ _ _ O];rfl⟩
        have hdr:=hq3.below (below_drewN (Below.refl _ W3) 1)
        change Wq W3 b _ W3.drew at hdr
        have HDR:=Lib.hid hdr
        obtain ⟨s1,hs1⟩:∃ s:ByteArray,s=(⟨#[99,111,114,101,32]⟩:ByteArray)++nm:=⟨_,rfl⟩
        obtain ⟨s2,hs2⟩:∃ s:ByteArray,s=s1++⟨#[10]⟩:=⟨_,rfl⟩
        have z1:s1.size≤40:=by rw [hs1,ByteArray.size_append];show 5+nm.size≤40;omega
        have z2:s2.size≤50:=by rw [hs2,ByteArray.size_append];show s1.size+1≤50;omega
        have hcat1:∀ V,(Op.stringOp .add (⟨#[99,111,114,101,32]⟩:ByteArray) nm).run Tryz.prog V=.ok (.string s1) V:=fun V=>by rw [hs1];exact run_string_add_sum V _ _ (by show 5+nm.size≤_;omega)
        have hcat2:∀ V,(Op.stringOp .add s1 ⟨#[10]⟩).run Tryz.prog V=.ok (.string s2) V:=fun V=>by rw [hs2];exact run_string_add_sum V _ _ (by show s1.size+1≤_;omega)
        have HS2:Hid (s2.data.toList=([99,111,114,101,32]:List UInt8)++nm.data.toList++[10]):=by
         rw [Hid,hs2,hs1]
         simp only [ByteArray.data_append,Array.toList_append]
        obtain ⟨t7,ht7⟩:∃ t,t=t6++(cores.take j).flatMap corT:=⟨_,rfl⟩
        have HL7:Hid (t7.length≤300000000):=by rw [Hid,ht7,List.length_append];have:=HT6.out.2;omega
        rw [← ht7] at HDR HQA HQ
        have HTK:Hid (t6++(cores.take (j+1)).flatMap corT=t7++(([99,111,114,101,32]:List UInt8)++nm.data.toList++[10])++cd.flatMap fun i=>insT i++[10]):=by
         rw [Hid,htk,ht7]
         simp only [List.append_assoc]
        have HLC7:=Lib.hid z2
        have E2:=Lib.hid y2
        have HOKK:=Lib.hid hok
        have HRI:=Lib.hid hri
        have HCL:=Lib.hid hcl
        clear hW3 hqa OC hgb hq3 B3 hdr hs1 hs2 z1 ht7 htk y2 hok hri hcl hlc hl5 BT f0 f1 e1 g1 hmem hnc il z2 HQ
        go_upto_region 17 with (fail)
        rw [← HW3.out]
        clear HW3 k0' k1'
        go_region_held3 (fun V=>(V.cell? ⟨wr.heap.size,0,none⟩=some (.string nm))∧∃ t,Wq W3 b t V) (first | exact ⟨(HC01.out _ _ HDR.out).1,_,HDR.out⟩ | exact ⟨(HC01.out _ _ HZ.out).1,_,HZ.out⟩) (first
         | (go_at_call 119;refine (HWR3.out _ _ _ HDR.out (by have:=HL7.out;have:=HLC7.out;omega)).mono ?_;rintro e w7 ⟨rfl,hz⟩;have HZ:=Lib.hid hz;clear hz))
        obtain ⟨t8,ht8⟩:∃ t,t=t7++s2.data.toList:=⟨_,rfl⟩
        have HQ8:Hid (Wq W3 b t8 w7):=by rw [Hid,ht8];exact HZ.out
        have HT8:Hid (t8=t7++(([99,111,114,101,32]:List UInt8)++nm.data.toList++[10])∧t8.length≤300000100):=by
         refine ⟨by rw [ht8,HS2.out],?_⟩
         rw [ht8,List.length_append,Array.length_toList]
         have:=HL7.out
         have:=HLC7.out
         show t7.length+s2.size≤_
         omega
        have y1:=(HC01.out _ _ HZ.out).2
        clear ht8 HZ HDR HS2 HL7 HLC7 hcat1 hcat2 HWR3 HC01
        go_wp2_with fail
        go_loopg [65] (nc+1) (fun m' z X=>∃ i:Nat,z=.int .i64 (i:Int)∧i≤nc∧m'=nc-i+1∧Wq W3 b (t8++(cd.take i).flatMap fun i=>insT i++[10]) X)
        case atStart=>exact ⟨0,rfl,Nat.zero_le _,by omega,by simpa using HQ8.out⟩
        case round =>
         clear HQ8 y1
         obtain ⟨i,rfl,hi,hmi,hy⟩:=hrel
         have HMI:=Lib.hid hmi
         have HY:=Lib.hid hy
         clear hmi hy
         by_cases hin:i<nc
         rotate_left
         · obtain rfl : nc = i := by omega
           have HXZ:Hid (Wq W0 b (t6++(cores.take (j+1)).flatMap corT) wr):=by
            have h:=HQA.out.trans HY.out
            rw [show cd.take nc=cd by rw [HNC.out,List.take_length],HT8.out.1,← HTK.out] at h
            exact h
           go_wp2_with fail
           go_roundg (n5-(j+1)+1)
           case measure=>have:=HM.out;omega
           case rel=>exact ⟨j+1,by simp,by omega,by omega,HXZ.out⟩
         have jl:i<cd.length:=by have:=HNC.out;omega
         have g2:cd[i]? = some cd[i]:=List.getElem?_eq_getElem jl
         have hme:cd[i]∈cd:=List.getElem_mem jl
         have htk:=take_flat (fun i=>insT i++[10]) g2
         have hri:=HRI.out _ hme
         have hok:=HOKK.out _ hme
         have hcl:=HCL.out i
         generalize cd[i]=x at g2 hme htk hri hok
         rcases E2.out with e | ⟨g',q',e,e2⟩
         · subst e;simp at jl
         obtain rfl:a2=some ⟨g',q',none⟩:=e
         have e3:=e2 i x g2
         have BX:=HBT3.out _ HY.out.bel
         rw [HB0.out] at BX
         have f0:wr.cell? ⟨g',q'+i*9,none⟩=some (.int .u8 x.k):=(BX.cell (p:=⟨g',q'+i*9,none⟩) (lt_of_at (e3 0 _ rfl))).trans (e3 0 _ rfl)
         have f1:wr.cell? ⟨g',q'+i*9+1,none⟩=some (.int .u8 x.o):=(BX.cell (p:=⟨g',q'+i*9+1,none⟩) (lt_of_at (e3 1 _ rfl))).trans (e3 1 _ rfl)
         have f2:wr.cell? ⟨g',q'+i*9+2,none⟩=some (.int .i64 x.d):=(BX.cell (p:=⟨g',q'+i*9+2,none⟩) (lt_of_at (e3 2 _ rfl))).trans (e3 2 _ rfl)
         have f3:wr.cell? ⟨g',q'+i*9+3,none⟩=some (.int .i64 x.a):=(BX.cell (p:=⟨g',q'+i*9+3,none⟩) (lt_of_at (e3 3 _ rfl))).trans (e3 3 _ rfl)
         have f4:wr.cell? ⟨g',q'+i*9+4,none⟩=some (.int .i64 x.b):=(BX.cell (p:=⟨g',q'+i*9+4,none⟩) (lt_of_at (e3 4 _ rfl))).trans (e3 4 _ rfl)
         have f5:wr.cell? ⟨g',q'+i*9+5,none⟩=some (.int .i64 x.ad):=(BX.cell (p:=⟨g',q'+i*9+5,none⟩) (lt_of_at (e3 5 _ rfl))).trans (e3 5 _ rfl)
         have f6:wr.cell? ⟨g',q'+i*9+6,none⟩=some (.int .i64 x.tt):=(BX.cell (p:=⟨g',q'+i*9+6,none⟩) (lt_of_at (e3 6 _ rfl))).trans (e3 6 _ rfl)
         have f7:wr.cell? ⟨g',q'+i*9+7,none⟩=some (.int .i64 x.wd):=(BX.cell (p:=⟨g',q'+i*9+7,none⟩) (lt_of_at (e3 7 _ rfl))).trans (e3 7 _ rfl)
         have f8:wr.cell? ⟨g',q'+i*9+8,none⟩=some (.int .i64 x.fr):=(BX.cell (p:=⟨g',q'+i*9+8,none⟩) (lt_of_at (e3 8 _ rfl))).trans (e3 8 _ rfl)
         have hin':(i:Int)<(nc:Int):=by omega
         obtain ⟨W4,hW4⟩:∃ W,W=wr.alloc (.cells (insC x).toArray 75):=⟨_,rfl⟩
         have hq4:=HY.out.below ((Below.refl wr.heap.size wr).alloc (Nat.le_refl _) (.cells (insC x).toArray 75))
         have O4:=Own.new wr 75 (insC x).toArray
         rw [← hW4] at hq4 O4
         have HIN:=Lib.hid (w_ins x hri hok.1 hok.2 hq4.wt (by rw [List.length_append];have:=HT8.out.2;omega) (fun X h=>HTT3.out X (hq4.bel.trans h)))
         have HL9:Hid ((t8++(cd.take i).flatMap fun i=>insT i++[10]).length+(insT x).length≤1000000000):=by
          have h1:=insT_len x hri
          have h2:=HT8.out.2
          rw [Hid,List.length_append]
          omega
         have HTK2:Hid (t8++(cd.take (i+1)).flatMap (fun i=>insT i++[10])=(t8++(cd.take i).flatMap fun i=>insT i++[10])++insT x++[10]):=by
          rw [Hid,htk]
          simp only [List.append_assoc]
         generalize insT x=ix at HIN HL9 HTK2
         have HQ4:=Lib.hid hq4
         obtain ⟨k,o,d,a,bb,ad,tt,wd,fr⟩:=x
         simp only [insC,insV] at f0 f1 f2 f3 f4 f5 f6 f7 f8 HIN hW4 O4
         have HW4:=Lib.hid hW4
         clear hW4 hq4 BX e2 e3 g2 hme jl htk hri hok hcl HY
         go_upto_region 21 with (fail)
         rw [← HW4.out]
         clear HW4 f0 f1 f2 f3 f4 f5 f6 f7 f8
         go_wp2_with (refine ld rowI rfl rfl rfl O4 rfl ?_)
         go_at_call 123
         refine HIN.out.mono ?_
         rintro e w9 ⟨rfl,hz⟩
         have HQ9:=Lib.hid (HQ4.out.trans hz)
         clear hz O4 HQ4 HIN
         go_wp2_with fail
         go_at_call 122
         refine (HBY3.out _ _ HQ9.out (by rw [List.length_append];have:=HL9.out;omega)).mono ?_
         rintro e w10 ⟨rfl,hz⟩
         rw [← HTK2.out] at hz
         have HZ:=Lib.hid hz
         clear hz HQ9
         go_wp2_with fail
         go_roundg (nc-(i+1)+1)
         case measure=>have:=HMI.out;omega
         case rel=>exact ⟨i+1,by simp,by omega,by omega,HZ.out⟩
      obtain rfl:n5=j:=by omega
      go_wp2_with fail
      refine bodyPost_end (results_none rfl _ _ _) rfl ⟨rfl,?_⟩
      have h:=HQW.out.trans HQ.out
      rw [HT6.out.1,show cores.take n5=cores by rw [HN.out.2,List.take_length]] at h
      exact h
end Go.Proofs.YtmpljhfinmfnbaaGreatDoor

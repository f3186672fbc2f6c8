/- The proof, part 4: texts that belong together, in one. -/
import Derived.Test.YtmpljhfinmfnbaaGreatDoorQAC
import Derived.Maps.OwnIn
import Derived.Maps.Views
import Derived.Sort.KeysCollected
set_option maxRecDepth 100000
set_option maxHeartbeats 20000000
namespace Go.Proofs.YtmpljhfinmfnbaaGreatDoor
open Go.RowKit Go.Maps
set_option linter.unusedVariables false
set_option maxRecDepth 100000
structure Cor where
 name:ByteArray
 code:List Ins
structure Ob where
 mem:List Int
 sh:Int
 lk:Int
 bf:Int
 cores:List Cor
def intsAt (W:World) (l:List Int) (a:Option Addr):Prop:=l=[]∨∃ g q,a=some ⟨g,q,none⟩∧∀ (j:Nat) (x:Int),l[j]? = some x→W.cell? ⟨g,q+j,none⟩=some (.int .i64 x)
def insAt (W:World) (l:List Ins) (a:Option Addr):Prop:=l=[]∨∃ g q,a=some ⟨g,q,none⟩∧∀ (j:Nat) (i:Ins),l[j]? = some i→∀ (m:Nat) (v:Value),(insC i)[m]? = some v→W.cell? ⟨g,q+j*9+m,none⟩=some v
def corsAt (W:World) (l:List Cor) (a:Option Addr):Prop:=l=[]∨∃ g q,a=some ⟨g,q,none⟩∧∀ (j:Nat) (c:Cor),l[j]? = some c→W.cell? ⟨g,q+j*2,none⟩=some (.string c.name)∧∃ a2 c2,W.cell? ⟨g,q+j*2+1,none⟩=some (.slice a2 c.code.length c2)∧insAt W c.code a2
def obV (o:Ob) (a1:Option Addr) (c1:Nat) (a5:Option Addr) (c5:Nat):Value:=.agg #[.slice a1 o.mem.length c1,.int .i64 o.sh,.int .i64 o.lk,.int .i64 o.bf,.slice a5 o.cores.length c5]
def obA (W:World) (o:Ob) (v:Value):Prop:=∃ a1 c1 a5 c5,v=obV o a1 c1 a5 c5∧intsAt W o.mem a1∧corsAt W o.cores a5
def rgO (o:Ob):Prop:=(∀ x∈o.mem,-9223372036854775808≤x∧x≤9223372036854775807)∧(-9223372036854775808≤o.sh∧o.sh≤9223372036854775807)∧(-9223372036854775808≤o.lk∧o.lk≤9223372036854775807)∧(-9223372036854775808≤o.bf∧o.bf≤9223372036854775807)∧∀ c∈o.cores,∀ i∈c.code,rgI i
def fitO (o:Ob):Prop:=o.mem.length≤140737488351232∧o.cores.length≤140737488351232∧∀ c∈o.cores,c.name.size≤140737488351232∧c.code.length≤140737488351232
section
variable {W W':World}
theorem intsAt_below {l:List Int} {a:Option Addr} (h:intsAt W l a) (hb:Below W.heap.size W W'):intsAt W' l a:=by
 rcases h with h | ⟨g,q,e,h⟩
 · exact .inl h
 · exact .inr ⟨g,q,e,fun j x hj=>(hb.cell (p:=⟨g,q+j,none⟩) (lt_of_at (h j x hj))).trans (h j x hj)⟩
theorem insAt_below {l:List Ins} {a:Option Addr} (h:insAt W l a) (hb:Below W.heap.size W W'):insAt W' l a:=by
 rcases h with h | ⟨g,q,e,h⟩
 · exact .inl h
 · exact .inr ⟨g,q,e,fun j i hj m v hv=>(hb.cell (p:=⟨g,q+j*9+m,none⟩) (lt_of_at (h j i hj m v hv))).trans (h j i hj m v hv)⟩
theorem corsAt_below {l:List Cor} {a:Option Addr} (h:corsAt W l a) (hb:Below W.heap.size W W'):corsAt W' l a:=by
 rcases h with h | ⟨g,q,e,h⟩
 · exact .inl h
 · refine .inr ⟨g, q, e, fun j c hj => ?_⟩
   obtain ⟨h1,a2,c2,h2,h3⟩:=h j c hj
   exact ⟨(hb.cell (p:=⟨g,q+j*2,none⟩) (lt_of_at h1)).trans h1,a2,c2,(hb.cell (p:=⟨g,q+j*2+1,none⟩) (lt_of_at h2)).trans h2,insAt_below h3 hb⟩
theorem obA_below {o:Ob} {v:Value} (h:obA W o v) (hb:Below W.heap.size W W'):obA W' o v:=by
 obtain ⟨a1,c1,a5,c5,h0,h1,h2⟩:=h
 exact ⟨a1,c1,a5,c5,h0,intsAt_below h1 hb,corsAt_below h2 hb⟩
end
def lastK (l:List Ins):Int:=match l.getLast? with | some i=>i.k | none=>0
def codeB (l:List Ins):Bool:=decide (1≤l.length)&&(decide (l.length≤16384)&&(lastK l==10 || lastK l==8))
def corB (seen:List (List UInt8)) (c:Cor):Bool:=nameB c.name&&(!(seen.contains c.name.data.toList)&&codeB c.code)
def corsB:List (List UInt8)→List Cor→Bool
 | _,[]=>true
 | seen,c::r=>corB seen c&&corsB (seen++[c.name.data.toList]) r
def nmsO (l:List Cor):List (List UInt8):=l.map fun c=>c.name.data.toList
theorem corsB_app:∀ (seen:List (List UInt8)) (l r:List Cor),corsB seen (l++r)=(corsB seen l&&corsB (seen++nmsO l) r)
 | seen,[],r=>by simp [corsB,nmsO]
 | seen, c :: l, r => by
   simp only [List.cons_append,corsB,corsB_app (seen++[c.name.data.toList]) l r,Bool.and_assoc]
   rw [show seen++nmsO (c::l)=seen++[c.name.data.toList]++nmsO l by simp [nmsO]]
def topB (o:Ob):Bool:=inB o.sh 65&&(inB o.lk 17&&(decide (o.sh+o.lk≤o.mem.length)&&(decide (o.mem.length≤4096)&&(decide (1≤o.bf)&&(decide (o.bf≤16)&&(decide (o.cores.length≤8)&&corsB [] o.cores))))))
abbrev MO (w:World) (m n:Nat) (D:DataW Unit):Prop:=w.ownsMap Tryz.prog 9 (plainElem Tryz.prog 3) m n D
theorem mlaw:Keyed Tryz.prog 9:=string_keyed Tryz.underlying9
theorem mzero (w:World):(zeroValue 3).run Tryz.prog w=.ok (.int .i64 0) w:=by kernel_rfl
theorem mo_same {w w':World} {m n:Nat} {D:DataW Unit} (h:MO w m n D) (e:w'.heap[m]? = w.heap[m]?):MO w' m n D:=by
 obtain ⟨es,c,hb,r⟩:=h
 exact ⟨es,c,e.trans hb,r⟩
theorem mo_isMap {w:World} {m n:Nat} {D:DataW Unit} (h:MO w m n D):IsMap D:=by
 obtain ⟨es,c,hb,F,hs,rfl⟩:=h
 exact ⟨_,rfl⟩
def cntI (b:Bool):Int:=bif b then 1 else 0
def Nx (m:Nat) (names:List (List UInt8)) (W:World):Prop:=∃ D:DataW Unit,MO W m names.length D∧∀ s:List UInt8,D.atKey (.string s) (.lit (.int .i64 0))=.lit (.int .i64 (cntI (names.contains s)))
theorem nx_new (w:World):Nx w.heap.size [] (w.alloc (.map #[] 0)):=⟨.map [],World.ownsMap_made w _ _ _,fun s=>rfl⟩
theorem nx_same {m:Nat} {l:List (List UInt8)} {W W':World} (h:Nx m l W) (e:W'.heap[m]? = W.heap[m]?):Nx m l W':=by
 obtain ⟨D,h1,h2⟩:=h
 exact ⟨D,mo_same h1 e,h2⟩
theorem nx_look {m:Nat} {l:List (List UInt8)} {W:World} (h:Nx m l W) (s:ByteArray) (hs:s.size≤maxLen):(Instr.lookup 189 (.map (some m)) (.string s) false).run Tryz.prog W=.ok (.int .i64 (cntI (l.contains s.data.toList))) W:=by
 obtain ⟨D,hD,hk⟩:=h
 obtain ⟨c,hrun,hat,_⟩:=hD.lookup_int mlaw Tryz.underlying189 Tryz.underlying3 (mzero _) (WideMaps.keyOf_string_mk Tryz.underlying9 hs)
 rw [hk] at hat
 have:c=cntI (l.contains s.data.toList):=by simpa using hat.symm
 rw [hrun,this]
theorem nx_put {m:Nat} {l:List (List UInt8)} {W:World} (h:Nx m l W) (s:ByteArray) (hs:s.size≤maxLen) (hl:l.length<1000):∃ Z:World,(Instr.mapUpdate 189 (.map (some m)) (.string s) (.int .i64 (cntI (l.contains s.data.toList)+1))).run Tryz.prog W=.ok () Z∧W.grownBy Z (some m)∧(Instr.lookup 189 (.map (some m)) (.string s) false).run Tryz.prog Z=.ok (.int .i64 (cntI (l.contains s.data.toList)+1)) Z∧(l.contains s.data.toList=false→Nx m (l++[s.data.toList]) Z):=by
 obtain ⟨D,hD,hk⟩:=h
 have hkey:keyOf Tryz.prog 9 (.string s)=some (.string s.data.toList):=WideMaps.keyOf_string_mk Tryz.underlying9 hs
 have hwf:(Lit.int .i64 (cntI (l.contains s.data.toList)+1)).wf=true:=by cases l.contains s.data.toList <;> decide
 obtain ⟨Z,h1,h2,h3⟩:=hD.update mlaw Tryz.underlying189 (show l.length<maxLen by unfold maxLen;omega) hkey (plainElem_int Tryz.underlying3 hwf)
 have hat:∀ u:List UInt8,(D.put (.string s.data.toList) (.lit (.int .i64 (cntI (l.contains s.data.toList)+1)))).atKey (.string u) (.lit (.int .i64 0))=.lit (.int .i64 (if u=s.data.toList then cntI (l.contains s.data.toList)+1 else cntI (l.contains u))):=fun u=>by
  by_cases e:u=s.data.toList
  · rw [if_pos e,e,atKey_put_same (mo_isMap hD) (show WideAt.IsKeyLit (.string s.data.toList) from trivial)]
  · rw [if_neg e,atKey_put_other (fun h=>e (by injection h)),hk]
 refine ⟨Z,h1,h3,?_,fun hno=>⟨_,by rw [List.length_append];exact h2,fun u=>?_⟩⟩
 · obtain ⟨c, hrun, hc, _⟩ := h2.lookup_int mlaw Tryz.underlying189 Tryz.underlying3 (mzero _) hkey
   rw [hat,if_pos rfl] at hc
   have:c=cntI (l.contains s.data.toList)+1:=by simpa using hc.symm
   rw [hrun,this]
 · rw [hat]
   by_cases e:u=s.data.toList
   · rw [if_pos e, e, hno]
     simp [cntI]
   · rw [if_neg e]
     have:(l++[s.data.toList]).contains u=l.contains u:=by
      rw [Bool.eq_iff_iff]
      simp [e]
     rw [this]
open Go.RowKit Go.Maps
set_option linter.unusedVariables false
set_option maxRecDepth 100000
theorem lastK_get {l:List Ins} {i:Ins} {n:Nat} (h:l[n]? = some i) (hn:n+1=l.length):lastK l=i.k:=by
 unfold lastK
 rw [List.getLast?_eq_getElem?,show l.length-1=n by omega,h]
theorem code_any (l:List Ins) (hl:l.length≤140737488351232) {a:Option Addr} {c:Nat} {w:World} (h:insAt w l a):Calls Tryz.prog 105 #[.slice a l.length c] w fun e w'=>e=.returned (.bool (codeB l))∧w=w':=by
 obtain ⟨n,hn⟩:∃ n,n=l.length:=⟨_,rfl⟩
 have hc:codeB l=(decide (1≤n)&&(decide (n≤16384)&&(lastK l==10 || lastK l==8))):=by unfold codeB;rw [hn]
 rw [hc,← hn]
 rw [← hn] at hl
 by_cases h1:1≤n
 rotate_left
 · obtain rfl : n = 0 := by omega
   clear h hc hn
   show Calls _ _ _ _ fun e w'=>e=.returned (.bool false)∧_
   go_enter Tryz.func105,Tryz.ntmps105
   go_wp2
   go_ret
   exact ⟨rfl,rfl⟩
 by_cases h2:n≤16384
 rotate_left
 · rw [decide_eq_true h1, decide_eq_false h2]
   clear h hc hn
   show Calls _ _ _ _ fun e w'=>e=.returned (.bool false)∧_
   go_enter Tryz.func105,Tryz.ntmps105
   go_wp2
   go_ret
   exact ⟨rfl,rfl⟩
 rw [decide_eq_true h1,decide_eq_true h2]
 rcases h with e | ⟨g,q,rfl,h⟩
 · subst e;simp at hn;omega
 obtain ⟨m,rfl⟩:∃ m,n=m+1:=⟨n-1,by omega⟩
 have il:m<l.length:=by omega
 have g1:l[m]? = some l[m]:=List.getElem?_eq_getElem il
 have hk:=lastK_get g1 hn
 have f0:=h m _ g1 0 _ rfl
 rw [hk]
 generalize l[m]=i at f0
 obtain ⟨k,o,d,a,b,ad,tt,wd,fr⟩:=i
 simp only [Nat.add_zero] at f0
 clear h hc hn hk g1 il hl
 have hw:IntKind.i64.wrap (((m+1:Nat):Int)-1)=(m:Int):=by rw [show ((m+1:Nat):Int)-1=(m:Int) by omega];exact IntWalk.i64_in _ (by omega)
 show Calls _ _ _ _ fun e w'=>e=.returned (.bool (k==10 || k==8))∧_
 by_cases q1:k=10
 · subst q1
   show Calls _ _ _ _ fun e w'=>e=.returned (.bool true)∧_
   go_enter Tryz.func105,Tryz.ntmps105
   go_wp2
   go_ret
   exact ⟨rfl,rfl⟩
 · have q2 := int_f q1
   rw [q2,Bool.false_or]
   clear q1
   go_enter Tryz.func105,Tryz.ntmps105
   go_wp2
   go_ret
   exact ⟨rfl,rfl⟩
open Go.RowKit Go.Maps
set_option linter.unusedVariables false
set_option maxRecDepth 100000
def Tst (w:World) (m:Nat) (l:List Cor) (W:World):Prop:=corsB [] l=true∧Nx m (nmsO l) W∧Below w.heap.size w W
theorem top_any (o:Ob) (hf:fitO o) {v:Value} {w:World} (hv:obA w o v) (T:TgT w):Calls Tryz.prog 63 #[v] w fun e w'=>e=.returned (.bool (topB o))∧Below w.heap.size w w':=by
 obtain ⟨a1,c1,a5,c5,rfl,_,h5⟩:=hv
 obtain ⟨mem,sh,lk,bf,cores⟩:=o
 obtain ⟨l1,l5,hfc⟩:=hf
 simp only [obV,topB] at l1 l5 hfc h5 ⊢
 obtain ⟨n1,hn1⟩:∃ n,n=mem.length:=⟨_,rfl⟩
 obtain ⟨n5,hn5⟩:∃ n,n=cores.length:=⟨_,rfl⟩
 rw [← hn1] at l1 ⊢
 rw [← hn5] at l5 ⊢
 have HN5:=Lib.hid hn5
 have HFC:=Lib.hid hfc
 have E5:=Lib.hid h5
 have HT:=Lib.hid T
 obtain ⟨R,hR⟩:∃ R,R=corsB [] cores:=⟨_,rfl⟩
 rw [← hR]
 have HR:=Lib.hid hR
 have HWS:Hid (∀ W,Calls Tryz.prog 103 #[.int .i64 sh,.int .i64 65] W fun e w'=>e=.returned (.bool (inB sh 65))∧W=w'):=fun W=>within_any sh 65 W
 have HWL:Hid (∀ W,Calls Tryz.prog 103 #[.int .i64 lk,.int .i64 17] W fun e w'=>e=.returned (.bool (inB lk 17))∧W=w'):=fun W=>within_any lk 17 W
 have HS1:Hid (inB sh 65=true→0≤sh∧sh<65):=fun h=>by unfold inB at h;simpa using h
 have HS2:Hid (inB lk 17=true→0≤lk∧lk<17):=fun h=>by unfold inB at h;simpa using h
 generalize inB sh 65=t1 at HWS HS1 ⊢
 generalize inB lk 17=t2 at HWL HS2 ⊢
 have O0:=Own.new w 25 #[.slice a1 n1 c1,.int .i64 sh,.int .i64 lk,.int .i64 bf,.slice a5 n5 c5]
 have B0:Below w.heap.size w (w.alloc (.cells #[.slice a1 n1 c1,.int .i64 sh,.int .i64 lk,.int .i64 bf,.slice a5 n5 c5] 25)):=(Below.refl _ w).alloc (Nat.le_refl _) _
 obtain ⟨W0,hW0⟩:∃ W,W=w.alloc (.cells #[.slice a1 n1 c1,.int .i64 sh,.int .i64 lk,.int .i64 bf,.slice a5 n5 c5] 25):=⟨_,rfl⟩
 have hsz:W0.heap.size=w.heap.size+1:=by rw [hW0];simp
 rw [← hW0] at O0 B0
 have HW0:=Lib.hid hW0
 have HSZ:=Lib.hid hsz
 have HB0:=Lib.hid B0
 have c0:W0.cell? ⟨w.heap.size,0,none⟩=some (.slice a1 n1 c1):=by rw [cell_of_row _ _ 0 _ _ _ O0];rfl
 have c1':W0.cell? ⟨w.heap.size,1,none⟩=some (.int .i64 sh):=by rw [cell_of_row _ _ 1 _ _ _ O0];rfl
 have c2:W0.cell? ⟨w.heap.size,2,none⟩=some (.int .i64 lk):=by rw [cell_of_row _ _ 2 _ _ _ O0];rfl
 have c3:W0.cell? ⟨w.heap.size,3,none⟩=some (.int .i64 bf):=by rw [cell_of_row _ _ 3 _ _ _ O0];rfl
 have c4:W0.cell? ⟨w.heap.size,4,none⟩=some (.slice a5 n5 c5):=by rw [cell_of_row _ _ 4 _ _ _ O0];rfl
 clear hn1 hn5 hfc h5 T hR hW0 hsz B0 O0
 cases t1 with
 | false =>
   go_enter Tryz.func63,Tryz.ntmps63
   go_upto_region 1 with (fail)
   rw [← HW0.out]
   go_wp2_with (first | (go_at_call_of 103 (Value.int .i64 sh);refine (HWS.out _).mono ?_;rintro e w' ⟨rfl,rfl⟩) | (go_at_call_of 103 (Value.int .i64 lk);refine (HWL.out _).mono ?_;rintro e w' ⟨rfl,rfl⟩))
   go_ret
   exact ⟨rfl,HB0.out⟩
 | true =>
 cases t2 with
 | false =>
   go_enter Tryz.func63,Tryz.ntmps63
   go_upto_region 1 with (fail)
   rw [← HW0.out]
   go_wp2_with (first | (go_at_call_of 103 (Value.int .i64 sh);refine (HWS.out _).mono ?_;rintro e w' ⟨rfl,rfl⟩) | (go_at_call_of 103 (Value.int .i64 lk);refine (HWL.out _).mono ?_;rintro e w' ⟨rfl,rfl⟩))
   go_ret
   exact ⟨rfl,HB0.out⟩
 | true =>
 obtain ⟨s0,s1⟩:=HS1.out rfl
 obtain ⟨k0,k1⟩:=HS2.out rfl
 by_cases p3:sh+lk≤(n1:Int)
 rotate_left
 · have p3n : (n1 : Int) < sh + lk := by omega
   have hr:(true&&(true&&(decide (sh+lk≤(n1:Int))&&(decide (n1≤4096)&&(decide (1≤bf)&&(decide (bf≤16)&&(decide (n5≤8)&&R)))))))=false:=by simp [p3]
   rw [hr]
   clear hr p3
   go_enter Tryz.func63,Tryz.ntmps63
   go_upto_region 1 with (fail)
   rw [← HW0.out]
   go_wp2_with (first | (go_at_call_of 103 (Value.int .i64 sh);refine (HWS.out _).mono ?_;rintro e w' ⟨rfl,rfl⟩) | (go_at_call_of 103 (Value.int .i64 lk);refine (HWL.out _).mono ?_;rintro e w' ⟨rfl,rfl⟩))
   go_ret
   exact ⟨rfl,HB0.out⟩
 by_cases p4:n1≤4096
 rotate_left
 · have p4n : 4096 < (n1 : Int) := by omega
   have hr:(true&&(true&&(decide (sh+lk≤(n1:Int))&&(decide (n1≤4096)&&(decide (1≤bf)&&(decide (bf≤16)&&(decide (n5≤8)&&R)))))))=false:=by simp [p4]
   rw [hr]
   clear hr p4
   go_enter Tryz.func63,Tryz.ntmps63
   go_upto_region 1 with (fail)
   rw [← HW0.out]
   go_wp2_with (first | (go_at_call_of 103 (Value.int .i64 sh);refine (HWS.out _).mono ?_;rintro e w' ⟨rfl,rfl⟩) | (go_at_call_of 103 (Value.int .i64 lk);refine (HWL.out _).mono ?_;rintro e w' ⟨rfl,rfl⟩))
   go_ret
   exact ⟨rfl,HB0.out⟩
 by_cases p5:1≤bf
 rotate_left
 · have p5n : bf < 1 := by omega
   have hr:(true&&(true&&(decide (sh+lk≤(n1:Int))&&(decide (n1≤4096)&&(decide (1≤bf)&&(decide (bf≤16)&&(decide (n5≤8)&&R)))))))=false:=by simp [p5]
   rw [hr]
   clear hr p5
   go_enter Tryz.func63,Tryz.ntmps63
   go_upto_region 1 with (fail)
   rw [← HW0.out]
   go_wp2_with (first | (go_at_call_of 103 (Value.int .i64 sh);refine (HWS.out _).mono ?_;rintro e w' ⟨rfl,rfl⟩) | (go_at_call_of 103 (Value.int .i64 lk);refine (HWL.out _).mono ?_;rintro e w' ⟨rfl,rfl⟩))
   go_ret
   exact ⟨rfl,HB0.out⟩
 by_cases p6:bf≤16
 rotate_left
 · have p6n : 16 < bf := by omega
   have hr:(true&&(true&&(decide (sh+lk≤(n1:Int))&&(decide (n1≤4096)&&(decide (1≤bf)&&(decide (bf≤16)&&(decide (n5≤8)&&R)))))))=false:=by simp [p6]
   rw [hr]
   clear hr p6
   go_enter Tryz.func63,Tryz.ntmps63
   go_upto_region 1 with (fail)
   rw [← HW0.out]
   go_wp2_with (first | (go_at_call_of 103 (Value.int .i64 sh);refine (HWS.out _).mono ?_;rintro e w' ⟨rfl,rfl⟩) | (go_at_call_of 103 (Value.int .i64 lk);refine (HWL.out _).mono ?_;rintro e w' ⟨rfl,rfl⟩))
   go_ret
   exact ⟨rfl,HB0.out⟩
 by_cases p7:n5≤8
 rotate_left
 · have p7n : 8 < (n5 : Int) := by omega
   have hr:(true&&(true&&(decide (sh+lk≤(n1:Int))&&(decide (n1≤4096)&&(decide (1≤bf)&&(decide (bf≤16)&&(decide (n5≤8)&&R)))))))=false:=by simp [p7]
   rw [hr]
   clear hr p7
   go_enter Tryz.func63,Tryz.ntmps63
   go_upto_region 1 with (fail)
   rw [← HW0.out]
   go_wp2_with (first | (go_at_call_of 103 (Value.int .i64 sh);refine (HWS.out _).mono ?_;rintro e w' ⟨rfl,rfl⟩) | (go_at_call_of 103 (Value.int .i64 lk);refine (HWL.out _).mono ?_;rintro e w' ⟨rfl,rfl⟩))
   go_ret
   exact ⟨rfl,HB0.out⟩
 have hmm:=@run_makeMap Tryz.prog
 have HX0:Hid (Tst w (w.heap.size+1) [] (W0.alloc (.map #[] 0))):=by
  have:=nx_new W0
  rw [HSZ.out] at this
  exact ⟨rfl,this,HB0.out.alloc HB0.out.size _⟩
 have hs0:=HSZ.out
 go_enter Tryz.func63,Tryz.ntmps63
 go_upto_region 1 with (fail)
 rw [← HW0.out]
 go_upto_region 4 with (first | (go_at_call_of 103 (Value.int .i64 sh);refine (HWS.out _).mono ?_;rintro e w' ⟨rfl,rfl⟩) | (go_at_call_of 103 (Value.int .i64 lk);refine (HWL.out _).mono ?_;rintro e w' ⟨rfl,rfl⟩))
 obtain ⟨W1,hW1⟩:∃ W,W=W0.alloc (.map #[] 0):=⟨_,rfl⟩
 have c4:W1.cell? ⟨w.heap.size,4,none⟩=some (.slice a5 n5 c5):=by rw [hW1,((Below.refl W0.heap.size W0).alloc (Nat.le_refl _) (.map #[] 0)).cell (p:=⟨w.heap.size,4,none⟩) (lt_of_at c4)];exact c4
 rw [← hW1] at HX0 ⊢
 clear hW1 hmm hs0 HW0 c0 c1' c2 c3 HWS HWL HS1 HS2
 go_wp2_with fail
 go_loopg [53] (n5+1) (fun m' u W=>∃ t:Nat,u=.int .i64 (t:Int)∧t≤n5∧m'=n5-t+1∧Tst w (w.heap.size+1) (cores.take t) W)
 case atStart=>exact ⟨0,rfl,Nat.zero_le _,by omega,by rw [List.take_zero];exact HX0.out⟩
 case round =>
  clear HX0 c4
  obtain ⟨t,rfl,ht,hm,hx⟩:=hrel
  have HM:=Lib.hid hm
  have HX:=Lib.hid hx
  clear hm hx
  by_cases htn:t<n5
  rotate_left
  · have htn2 : t = n5 := by omega
    subst htn2
    have hr:R=true:=by
     have h:=HX.out.1
     rw [show cores.take t=cores by rw [HN5.out,List.take_length]] at h
     rw [HR.out];exact h
    go_wp2_with fail
    go_ret
    refine ⟨ret_bool ?_,HX.out.2.2⟩
    rw [hr];simp [*]
  have il:t<cores.length:=by have:=HN5.out;omega
  have g1:cores[t]? = some cores[t]:=List.getElem?_eq_getElem il
  have hmem:cores[t]∈cores:=List.getElem_mem il
  have htk:cores.take (t+1)=cores.take t++[cores[t]]:=by rw [List.take_succ_eq_append_getElem il]
  have hdr:cores=cores.take t++(cores[t]::cores.drop (t+1)):=by rw [← List.drop_eq_getElem_cons il,List.take_append_drop]
  generalize cores[t]=x at g1 hmem htk hdr
  have hbad:corB (nmsO (cores.take t)) x=false→R=false:=fun h=>by
   rw [HR.out,hdr,corsB_app,List.nil_append]
   show (_&&(corB _ x&&_))=false
   rw [h];simp
  have hgood:corB (nmsO (cores.take t)) x=true→corsB [] (cores.take (t+1))=true:=fun h=>by
   rw [htk,corsB_app,HX.out.1,List.nil_append]
   show (true&&(corB _ x&&true))=true
   rw [h];rfl
  rcases E5.out with e | ⟨g,q,e,e1⟩
  · subst e;simp at il
  obtain rfl:a5=some ⟨g,q,none⟩:=e
  obtain ⟨f0,a2,c2,f1,y2⟩:=e1 t x g1
  obtain ⟨hz1,hz2⟩:=HFC.out x hmem
  have hnml:(nmsO (cores.take t)).length=t:=by unfold nmsO;rw [List.length_map,List.length_take];omega
  have hnm1:nmsO (cores.take (t+1))=nmsO (cores.take t)++[x.name.data.toList]:=by rw [htk];simp [nmsO]
  obtain ⟨nm,cd⟩:=x
  simp only [corB] at f0 f1 y2 hz1 hz2 hbad hgood hnm1
  have HNAME:Hid (∀ W,Below w.heap.size w W→Calls Tryz.prog 104 #[.string nm] W fun e w'=>e=.returned (.bool (nameB nm))∧W=w'):=fun W h=>isname_any nm W (HT.out.nm.below (Nat.le_refl _) h)
  have HCODE:Hid (∀ W,Below w.heap.size w W→Calls Tryz.prog 105 #[.slice a2 cd.length c2] W fun e w'=>e=.returned (.bool (codeB cd))∧W=w'):=fun W h=>code_any cd hz2 (insAt_below y2 h)
  have BX:=HX.out.2.2
  have k0':wr.cell? ⟨g,q+t*2,none⟩=some (.string nm):=(BX.cell (p:=⟨g,q+t*2,none⟩) (lt_of_at f0)).trans f0
  have k1':wr.cell? ⟨g,q+t*2+1,none⟩=some (.slice a2 cd.length c2):=(BX.cell (p:=⟨g,q+t*2+1,none⟩) (lt_of_at f1)).trans f1
  have htn':(t:Int)<(n5:Int):=by omega
  obtain ⟨nc,hnc⟩:∃ n,n=cd.length:=⟨_,rfl⟩
  rw [← hnc] at HCODE k1'
  have hsz:=BX.size
  have NX1:Nx (w.heap.size+1) (nmsO (cores.take t)) (wr.alloc (.cells #[.string nm,.slice a2 nc c2] 70)):=nx_same HX.out.2.1 (((Below.refl wr.heap.size wr).alloc (Nat.le_refl _) _).block _ (by obtain ⟨D,hD,_⟩:=HX.out.2.1;exact hD.lt))
  have hml:w.heap.size+1<wr.heap.size:=by obtain ⟨D,hD,_⟩:=HX.out.2.1;exact hD.lt
  have O1:=Own.new wr 70 #[.string nm,.slice a2 nc c2]
  have B1:=BX.alloc hsz (.cells #[.string nm,.slice a2 nc c2] 70)
  have hlk:=nx_look NX1 nm (by unfold maxLen;omega)
  obtain ⟨Z,hup,hgr,hlk2,hnx⟩:=nx_put NX1 nm (by unfold maxLen;omega) (by omega)
  have OZ:Own Z wr.heap.size 70 #[.string nm,.slice a2 nc c2]:=(hgr.block _ (by simp) (fun e=>by have:=Option.some.inj e;omega)).trans O1
  have BZ:Below w.heap.size w Z:=B1.grown hgr (by simp;omega) (fun k hk=>by have:=Option.some.inj hk;omega)
  obtain ⟨W2,hW2⟩:∃ W,W=wr.alloc (.cells #[.string nm,.slice a2 nc c2] 70):=⟨_,rfl⟩
  rw [← hW2] at hlk hup O1
  have HW2:=Lib.hid hW2
  have HOZ:=Lib.hid OZ
  have HBZ:=Lib.hid BZ
  have HBAD:=Lib.hid hbad
  have HGOOD:=Lib.hid hgood
  have HNX:=Lib.hid hnx
  have HNM1:=Lib.hid hnm1
  have d0:W2.cell? ⟨wr.heap.size,0,none⟩=some (.string nm):=by rw [cell_of_row _ _ 0 _ _ _ O1];rfl
  have z0:Z.cell? ⟨wr.heap.size,0,none⟩=some (.string nm):=by rw [cell_of_row _ _ 0 _ _ _ OZ];rfl
  have z1:Z.cell? ⟨wr.heap.size,1,none⟩=some (.slice a2 nc c2):=by rw [cell_of_row _ _ 1 _ _ _ OZ];rfl
  clear hW2 OZ BZ hbad hgood hnx hnm1 B1 O1 NX1 hgr BX f0 f1 y2 e1 g1 hmem htk hdr hnc hz1 hz2 hsz hml hnml il
  generalize codeB cd=bc at HCODE HBAD HGOOD
  generalize nameB nm=bn at HNAME HBAD HGOOD
  generalize hseen:(nmsO (cores.take t)).contains nm.data.toList=sn at hlk hup hlk2 HNX HBAD HGOOD
  go_upto_region 7 with (fail)
  rw [← HW2.out]
  clear HW2 hseen
  cases sn with
  | true =>
    change _=Result.ok (Value.int .i64 1) _ at hlk
    change (Instr.mapUpdate _ _ _ (.int .i64 2)).run _ _=_ at hup
    change _=Result.ok (Value.int .i64 2) _ at hlk2
    have hr:=HBAD.out (by simp)
    cases bn with
    | false =>
      go_wp2_with (go_at_call 104;refine (HNAME.out _ HBZ.out).mono ?_;rintro e w' ⟨rfl,rfl⟩)
      go_ret
      refine ⟨ret_bool ?_,HBZ.out⟩
      rw [hr];simp
    | true =>
      go_wp2_with (go_at_call 104;refine (HNAME.out _ HBZ.out).mono ?_;rintro e w' ⟨rfl,rfl⟩)
      go_ret
      refine ⟨ret_bool ?_,HBZ.out⟩
      rw [hr];simp
  | false =>
    change _=Result.ok (Value.int .i64 0) _ at hlk
    change (Instr.mapUpdate _ _ _ (.int .i64 1)).run _ _=_ at hup
    change _=Result.ok (Value.int .i64 1) _ at hlk2
    cases bn with
    | false =>
      have hr:=HBAD.out (by simp)
      go_wp2_with (go_at_call 104;refine (HNAME.out _ HBZ.out).mono ?_;rintro e w' ⟨rfl,rfl⟩)
      go_ret
      refine ⟨ret_bool ?_,HBZ.out⟩
      rw [hr];simp
    | true =>
    cases bc with
    | false =>
      have hr:=HBAD.out (by simp)
      go_wp2_with (first | (go_at_call 104;refine (HNAME.out _ HBZ.out).mono ?_;rintro e w' ⟨rfl,rfl⟩) | (go_at_call 105;refine (HCODE.out _ HBZ.out).mono ?_;rintro e w' ⟨rfl,rfl⟩))
      go_ret
      refine ⟨ret_bool ?_,HBZ.out⟩
      rw [hr];simp
    | true =>
      have hg:=HGOOD.out (by simp)
      have HXZ:Hid (Tst w (w.heap.size+1) (cores.take (t+1)) Z):=⟨hg,by rw [HNM1.out];exact HNX.out rfl,HBZ.out⟩
      clear hg
      go_wp2_with (first | (go_at_call 104;refine (HNAME.out _ HBZ.out).mono ?_;rintro e w' ⟨rfl,rfl⟩) | (go_at_call 105;refine (HCODE.out _ HBZ.out).mono ?_;rintro e w' ⟨rfl,rfl⟩))
      go_roundg (n5-(t+1)+1)
      case measure=>have:=HM.out;omega
      case rel=>exact ⟨t+1,by simp,by omega,by omega,HXZ.out⟩
end Go.Proofs.YtmpljhfinmfnbaaGreatDoor

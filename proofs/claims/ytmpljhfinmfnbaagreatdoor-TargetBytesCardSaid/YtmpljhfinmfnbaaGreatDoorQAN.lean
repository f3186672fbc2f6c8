/- The proof, part 14: texts that belong together, in one. -/
import Derived.Test.YtmpljhfinmfnbaaGreatDoorQAM
import Derived.Shelf.Strconv.Itoa0
import Derived.Shelf.Strconv.Itoa1
import Derived.Shelf.LaysM
import Derived.Shelf.Strconv.Itoa2
import Derived.Shelf.Strconv.Itoa3
import Derived.Shelf.Strconv.Itoa4
import Derived.Shelf.Strconv.Clone
import Derived.Shelf.Strings.Search1
import Derived.Shelf.Strings.Search2
import Derived.Shelf.Strings.Prefix
import Derived.Test.YtmpljhfinmfnbaaGreatDoorProg
import Derived.Test.YtmpljhfinmfnbaaGreatDoorQAF
import Derived.StillTailTactics
import Derived.Test.YtmpljhfinmfnbaaGreatDoorQAB
import Derived.Lib.Hide
import Derived.Deep.QuietTactic
import Derived.BigQuiet
set_option maxRecDepth 100000
set_option maxHeartbeats 20000000
namespace Go.Proofs.YtmpljhfinmfnbaaGreatDoor
open Go.RowKit Go.Maps
set_option linter.unusedVariables false
set_option maxRecDepth 100000
theorem yt_new (w:World):Yt w.heap.size [] (w.alloc (.cells #[.slice none 0 0] 63)):=⟨.slice none 0 0,Own.new w _ _,⟨rfl,.inl ⟨rfl,rfl⟩⟩⟩
def encR (o:Ob):List UInt8:=if (chkO o).1=0 then obY o else []
def EncP (o:Ob) (w:World) (e:Ending) (w':World):Prop:=∃ a c,e=.returned (.tuple #[.slice a (encR o).length c,.int .i64 (chkO o).1])∧Below w.heap.size w w'∧w'.ownsRow w.heap.size 5 1 (.slice a (encR o).length c) (encR o).length (Lib.byteCells (encR o))
theorem encode_any (o:Ob) (hg:rgO o) (hf:fitO o) {v:Value} {w:World} (hv:obA w o v) (T:TgT w):Calls Tryz.prog 5 #[v] w (EncP o w):=by
 obtain ⟨a1,c1,a5,c5,rfl,h1,h5⟩:=hv
 obtain ⟨r,hr⟩:∃ r,r=chkO o:=⟨_,rfl⟩
 have hok:r.1=0→topB o=true:=fun h=>by
  rw [hr] at h
  exact (chk_ok h).1
 have al:Below w.heap.size w (w.alloc (.cells #[.slice a1 o.mem.length c1,.int .i64 o.sh,.int .i64 o.lk,.int .i64 o.bf,.slice a5 o.cores.length c5] 25)):=(Below.refl _ w).alloc (Nat.le_refl _) _
 have O0:=Own.new w 25 #[.slice a1 o.mem.length c1,.int .i64 o.sh,.int .i64 o.lk,.int .i64 o.bf,.slice a5 o.cores.length c5]
 obtain ⟨W0,hW0⟩:∃ W,W=w.alloc (.cells #[.slice a1 o.mem.length c1,.int .i64 o.sh,.int .i64 o.lk,.int .i64 o.bf,.slice a5 o.cores.length c5] 25):=⟨_,rfl⟩
 rw [← hW0] at al O0
 have hs0:w.heap.size<W0.heap.size:=O0.lt
 have HW0:=Lib.hid hW0
 have HB0:=Lib.hid al
 have HOB:Hid (∀ X,Below w.heap.size w X→obA X o (obV o a1 c1 a5 c5)):=fun X h=>⟨a1,c1,a5,c5,rfl,intsAt_below h1 h,corsAt_below h5 h⟩
 have HCK:Hid (Calls Tryz.prog 23 #[obV o a1 c1 a5 c5] W0 fun e w'=>e=chkE r∧Below W0.heap.size W0 w'):=by
  rw [hr]
  exact check_any o hg hf (HOB.out _ al) (T.below al)
 have HOJ:Hid (r.1=0→∀ (X Y:World) (b:Nat),Below w.heap.size w X→b=X.heap.size→Below b X Y→Yt b [] Y→Calls Tryz.prog 24 #[.pointer (some ⟨b,0,none⟩),obV o a1 c1 a5 c5] Y fun e w'=>e=.returned (.tuple #[])∧Yq Y b (obY o) w'):=fun h X Y b hX hb hXY hwt=>by
  refine y_object o hg (hok h) hb hXY (HOB.out _ hX) hwt fun Z hZ=>?_
  exact T.below (hX.trans ((hXY.trans hZ).mono (by rw [hb];exact hX.size)))
 have HPR:Hid (EncP o w=fun e w'=>∃ a c,e=.returned (.tuple #[.slice a (if r.1=0 then obY o else []).length c,.int .i64 r.1])∧Below w.heap.size w w'∧w'.ownsRow w.heap.size 5 1 (.slice a (if r.1=0 then obY o else []).length c) (if r.1=0 then obY o else []).length (Lib.byteCells (if r.1=0 then obY o else []))):=by rw [hr];rfl
 rw [HPR.out]
 clear HPR
 generalize obY o=tx at HOJ ⊢
 clear hok hr T hg hf h1 h5 al hW0 HOB
 obtain ⟨mem,sh,lk,bf,cores⟩:=o
 simp only [obV] at HOJ HCK O0 HW0 ⊢
 generalize mem.length=n1 at HOJ HCK O0 HW0 ⊢
 generalize cores.length=n5 at HOJ HCK O0 HW0 ⊢
 obtain ⟨r1,r2,r3⟩:=r
 simp only at HOJ ⊢
 replace HCK:Hid (Calls Tryz.prog 23 #[.agg #[.slice a1 n1 c1,.int .i64 sh,.int .i64 lk,.int .i64 bf,.slice a5 n5 c5]] W0 fun e w'=>e=.returned (.tuple #[.int .i64 r1,.int .i64 r2,.int .i64 r3])∧Below W0.heap.size W0 w'):=HCK.out
 have HO0:=Lib.hid O0
 by_cases hr0:r1=0
 rotate_left
 · simp only [if_neg hr0]
   have q1:(r1 != 0)=true:=by simpa using hr0
   clear HOJ hr0
   go_enter Tryz.func5,Tryz.ntmps5
   go_upto_region 1 with (fail)
   rw [← HW0.out]
   clear HW0
   go_wp2_with (first | (refine ld rowO rfl rfl rfl O0 rfl ?_) | (go_at_call 23;refine HCK.out.mono ?_;rintro e w1 ⟨rfl,hb1⟩))
   refine bodyPost_ret (results_tmp2 rfl _ _ _) rfl ?_
   exact ⟨none,0,rfl,HB0.out.trans (hb1.mono HB0.out.size),⟨rfl,.inl ⟨rfl,rfl⟩⟩⟩
 · subst hr0
   simp only [if_true]
   have HOJ0:=Lib.hid (HOJ.out rfl)
   clear HOJ
   go_enter Tryz.func5,Tryz.ntmps5
   go_upto_region 1 with (fail)
   rw [← HW0.out]
   clear HW0
   go_upto_region 5 with (first | (refine ld rowO rfl rfl rfl O0 rfl ?_) | (go_at_call 23;refine HCK.out.mono ?_;rintro e w1 ⟨rfl,hb1⟩))
   have HB1:=Lib.hid (HB0.out.trans (hb1.mono HB0.out.size))
   have HS1:Hid (w.heap.size<w1.heap.size):=Nat.lt_of_lt_of_le hs0 hb1.size
   have HWT:=Lib.hid (yt_new w1)
   have O2:=(HO0.out.below hb1).alloc (.cells #[.slice none 0 0] 63)
   have HB2:=Lib.hid ((Below.refl w1.heap.size w1).alloc (Nat.le_refl _) (.cells #[.slice none 0 0] 63))
   obtain ⟨W2,hW2⟩:∃ W,W=w1.alloc (.cells #[.slice none 0 0] 63):=⟨_,rfl⟩
   rw [← hW2] at HWT O2 HB2 ⊢
   have HWO:=Lib.hid (HOJ0.out w1 W2 w1.heap.size HB1.out rfl HB2.out HWT.out)
   clear hW2 hb1 HOJ0 HWT HB0 HO0 O0 HCK hs0
   go_wp2_with (first | (refine ld rowO rfl rfl rfl O2 rfl ?_))
   go_at_call 24
   refine HWO.out.mono ?_
   rintro e w3 ⟨rfl,hq⟩
   have HB3:Hid (Below w.heap.size w w3):=HB1.out.trans ((HB2.out.trans hq.bel).mono HB1.out.size)
   obtain ⟨⟨v,hbk,hrow⟩,_,_⟩:=hq
   have HR:Hid (∃ a c,v=.slice a tx.length c∧w3.ownsRow w.heap.size 5 1 (.slice a tx.length c) tx.length (Lib.byteCells tx)):=by
    have hlo:w.heap.size≤w1.heap.size+1:=by have:=HS1.out;omega
    rcases hrow with ⟨e1,⟨hv,h0⟩ | ⟨g,cap,cur,hv,hg1,hrest⟩⟩
    · exact ⟨none,0,by rw [hv,h0],⟨e1,.inl ⟨by rw [h0],h0⟩⟩⟩
    · exact ⟨_,cap,hv,⟨e1,.inr ⟨g,cap,cur,rfl,by omega,hrest⟩⟩⟩
   obtain ⟨a,c,rfl,hR⟩:=HR.out
   have HRR:=Lib.hid hR
   have c0:w3.cell? ⟨w1.heap.size,0,none⟩=some (.slice a tx.length c):=by rw [cell_of_row _ _ 0 _ _ _ hbk];rfl
   clear hbk hrow O2 HWO hR HR
   go_wp2_with fail
   refine bodyPost_ret (results_tmp2 rfl _ _ _) rfl ?_
   exact ⟨_,_,rfl,HB3.out,HRR.out⟩
end Go.Proofs.YtmpljhfinmfnbaaGreatDoor
namespace Go.Proofs
open Go.Shelf
def Tryz.lays219_ren:Go.Shelf.Ren:=⟨fun | 219=>165 | 217=>198 | 225=>199 | 224=>200 | 267=>201 | 266=>212 | 314=>213 | n=>n,fun | 9=>9 | 3=>3 | 4=>4 | 5=>5 | 46=>144 | 146=>278 | 51=>277 | n=>n,fun | 1=>4 | n=>n⟩
theorem Tryz.lays219:Go.Proofs.Lays.n219 Tryz.prog Tryz.lays219_ren:={
 mixed:=by kernel_rfl
 f217:=Tryz.func198.trans (congrArg some (by kernel_rfl))
 f219:=Tryz.func165.trans (congrArg some (by kernel_rfl))
 f224:=Tryz.func200.trans (congrArg some (by kernel_rfl))
 f225:=Tryz.func199.trans (congrArg some (by kernel_rfl))
 f266:=Tryz.func212.trans (congrArg some (by kernel_rfl))
 f267:=Tryz.func201.trans (congrArg some (by kernel_rfl))
 f314:=Tryz.func213.trans (congrArg some (by kernel_rfl))
 t3:=Tryz.underlying3
 a3:=Tryz.isAgg3
 z3:=Tryz.sizeOf3
 v3:=Tryz.zeroValue3
 t4:=Tryz.underlying4
 a4:=Tryz.isAgg4
 z4:=Tryz.sizeOf4
 v4:=Tryz.zeroValue4
 t5:=Tryz.underlying5
 a5:=Tryz.isAgg5
 z5:=Tryz.sizeOf5
 v5:=Tryz.zeroValue5
 t9:=Tryz.underlying9
 a9:=Tryz.isAgg9
 z9:=Tryz.sizeOf9
 v9:=Tryz.zeroValue9
 t46:=Tryz.underlying144
 a46:=Tryz.isAgg144
 z46:=Tryz.sizeOf144
 v46:=Tryz.zeroValue144
 t51:=Tryz.underlying277
 a51:=Tryz.isAgg277
 z51:=Tryz.sizeOf277
 v51:=Tryz.zeroValue277
 t146:=Tryz.underlying278
 a146:=Tryz.isAgg278
 z146:=Tryz.sizeOf278
 v146:=Tryz.zeroValue278
 g1:=by kernel_rfl }
open Go.RowKit Go.Lib in
theorem Tryz.stringslite_Index_one (s:ByteArray) (c:UInt8) (w:World) :
 Calls Tryz.prog 165 #[.string s,.string ⟨#[c]⟩] w fun e w'=>e=.returned (.int .i64 (Lib.indexByte s.data.toList c))∧w'=w:=Any.stringslite_Index_one Tryz.lays219 s c w
open Go.RowKit Go.Lib in
def Tryz.lays206_ren:Go.Shelf.Ren:=⟨fun | 206=>227 | n=>n,fun | 9=>9 | 4=>4 | 3=>3 | n=>n,fun | n=>n⟩
theorem Tryz.lays206:Go.Proofs.Lays.n206 Tryz.prog Tryz.lays206_ren:={
 mixed:=by kernel_rfl
 f206:=Tryz.func227.trans (congrArg some (by kernel_rfl))
 t3:=Tryz.underlying3
 a3:=Tryz.isAgg3
 z3:=Tryz.sizeOf3
 v3:=Tryz.zeroValue3
 t4:=Tryz.underlying4
 a4:=Tryz.isAgg4
 z4:=Tryz.sizeOf4
 v4:=Tryz.zeroValue4
 t9:=Tryz.underlying9
 a9:=Tryz.isAgg9
 z9:=Tryz.sizeOf9
 v9:=Tryz.zeroValue9 }
open Go.RowKit Go.Lib in
theorem Tryz.stringslite_HasPrefix (s p:ByteArray) (w:World) :
 Calls Tryz.prog 227 #[.string s,.string p] w fun e w'=>e=.returned (.bool (Lib.hasPrefix s.data.toList p.data.toList))∧w'=w:=Any.stringslite_HasPrefix Tryz.lays206 s p w
end Go.Proofs
namespace Go.Proofs.YtmpljhfinmfnbaaGreatDoor
open Go.RowKit
set_option linter.unusedVariables false
set_option maxRecDepth 100000
def cutA (s:ByteArray) (c:UInt8):ByteArray × ByteArray × Bool:=if 0≤Lib.indexByte s.data.toList c then (s.extract 0 (Lib.indexByte s.data.toList c).toNat,s.extract ((Lib.indexByte s.data.toList c).toNat+1) s.size,true) else (s,⟨#[]⟩,false)
theorem idx_lt:∀ (l:List UInt8) (c:UInt8),Lib.indexByte l c<l.length
 | [],c=>by simp [Lib.indexByte]
 | b :: l, c => by
   have h:=idx_lt l c
   simp only [Lib.indexByte,List.length_cons]
   split
   · omega
   · split <;> omega
theorem lcut_any (s:ByteArray) (c:UInt8) (hs:s.size≤4611686018427387904) (w:World):Calls Tryz.prog 151 #[.string s,.string ⟨#[c]⟩] w fun e w'=>e=.returned (.tuple #[.string (cutA s c).1,.string (cutA s c).2.1,.bool (cutA s c).2.2])∧Below w.heap.size w w':=by
 have HI:Hid (∀ X,Calls Tryz.prog 165 #[.string s,.string ⟨#[c]⟩] X fun e w'=>e=.returned (.int .i64 (Lib.indexByte s.data.toList c))∧w'=X):=fun X=>Go.Proofs.Tryz.stringslite_Index_one s c X
 have hlt:Lib.indexByte s.data.toList c<s.size:=by
  have h:=idx_lt s.data.toList c
  have h2:s.data.toList.length=s.size:=Array.length_toList
  omega
 unfold cutA
 obtain ⟨k,hk⟩:∃ k,k=Lib.indexByte s.data.toList c:=⟨_,rfl⟩
 rw [← hk] at HI hlt ⊢
 clear hk
 by_cases h0:0≤k
 · rw [if_pos h0]
   obtain ⟨n,rfl⟩:∃ n:Nat,k=(n:Int):=⟨k.toNat,by omega⟩
   have hn:n<s.size:=by omega
   clear hlt
   show Calls _ _ _ _ fun e w'=>e=.returned (.tuple #[.string (s.extract 0 n),.string (s.extract (n+1) s.size),.bool true])∧_
   go_enter Tryz.func151,Tryz.ntmps151
   go_wp2_with (go_at_call 165;refine (HI.out _).mono ?_;rintro e w' ⟨rfl,rfl⟩)
   go_quiet (fail)
   go_wp2_with fail
   go_ret3
   exact ⟨rfl,below_drewN (Below.refl _ _) _⟩
 · rw [if_neg h0]
   go_enter Tryz.func151,Tryz.ntmps151
   go_wp2_with (go_at_call 165;refine (HI.out _).mono ?_;rintro e w' ⟨rfl,rfl⟩)
   go_ret3
   exact ⟨rfl,Below.refl _ _⟩
theorem cut_any (s:ByteArray) (c:UInt8) (hs:s.size≤4611686018427387904) (w:World):Calls Tryz.prog 124 #[.string s,.string ⟨#[c]⟩] w fun e w'=>e=.returned (.tuple #[.string (cutA s c).1,.string (cutA s c).2.1,.bool (cutA s c).2.2])∧Below w.heap.size w w':=by
 have HI:Hid (∀ X,Calls Tryz.prog 151 #[.string s,.string ⟨#[c]⟩] X fun e w'=>e=.returned (.tuple #[.string (cutA s c).1,.string (cutA s c).2.1,.bool (cutA s c).2.2])∧Below X.heap.size X w'):=fun X=>lcut_any s c hs X
 generalize cutA s c=r at HI ⊢
 obtain ⟨r1,r2,r3⟩:=r
 replace HI:Hid (∀ X,Calls Tryz.prog 151 #[.string s,.string ⟨#[c]⟩] X fun e w'=>e=.returned (.tuple #[.string r1,.string r2,.bool r3])∧Below X.heap.size X w'):=HI.out
 show Calls _ _ _ _ fun e w'=>e=.returned (.tuple #[.string r1,.string r2,.bool r3])∧_
 go_enter Tryz.func124,Tryz.ntmps124
 go_wp2_with (go_at_call 151;refine (HI.out _).mono ?_;rintro e w' ⟨rfl,hb⟩)
 go_ret3
 exact ⟨rfl,hb⟩
def preA (s:ByteArray) (c:UInt8):ByteArray × Bool:=if Lib.hasPrefix s.data.toList [c]=true then (s.extract 1 s.size,true) else (s,false)
theorem has1 {s:ByteArray} {c:UInt8} (h:Lib.hasPrefix s.data.toList [c]=true):1≤s.size:=by
 have h2:s.data.toList.length=s.size:=Array.length_toList
 cases hl:s.data.toList with
 | nil=>rw [hl] at h;simp [Lib.hasPrefix] at h
 | cons a r=>rw [hl] at h2;simp at h2;omega
theorem lpre_any (s:ByteArray) (c:UInt8) (hs:s.size≤4611686018427387904) (w:World):Calls Tryz.prog 224 #[.string s,.string ⟨#[c]⟩] w fun e w'=>e=.returned (.tuple #[.string (preA s c).1,.bool (preA s c).2])∧Below w.heap.size w w':=by
 have HI:Hid (∀ X,Calls Tryz.prog 227 #[.string s,.string ⟨#[c]⟩] X fun e w'=>e=.returned (.bool (Lib.hasPrefix s.data.toList [c]))∧w'=X):=fun X=>Go.Proofs.Tryz.stringslite_HasPrefix s ⟨#[c]⟩ X
 have h1:=@has1 s c
 unfold preA
 cases hb:Lib.hasPrefix s.data.toList [c] with
 | true =>
   rw [hb] at HI
   have h2:=h1 hb
   rw [if_pos rfl]
   clear hb h1
   go_enter Tryz.func224,Tryz.ntmps224
   go_wp2_with (go_at_call 227;refine (HI.out _).mono ?_;rintro e w' ⟨rfl,rfl⟩)
   refine bodyPost_ret (results_tmp2 rfl _ _ _) rfl ?_
   exact ⟨rfl,Below.refl _ _⟩
 | false =>
   rw [hb] at HI
   rw [if_neg (by decide)]
   clear hb h1
   go_enter Tryz.func224,Tryz.ntmps224
   go_wp2_with (go_at_call 227;refine (HI.out _).mono ?_;rintro e w' ⟨rfl,rfl⟩)
   refine bodyPost_ret (results_tmp2 rfl _ _ _) rfl ?_
   exact ⟨rfl,Below.refl _ _⟩
theorem pre_any (s:ByteArray) (c:UInt8) (hs:s.size≤4611686018427387904) (w:World):Calls Tryz.prog 215 #[.string s,.string ⟨#[c]⟩] w fun e w'=>e=.returned (.tuple #[.string (preA s c).1,.bool (preA s c).2])∧Below w.heap.size w w':=by
 have HI:Hid (∀ X,Calls Tryz.prog 224 #[.string s,.string ⟨#[c]⟩] X fun e w'=>e=.returned (.tuple #[.string (preA s c).1,.bool (preA s c).2])∧Below X.heap.size X w'):=fun X=>lpre_any s c hs X
 generalize preA s c=r at HI ⊢
 obtain ⟨r1,r2⟩:=r
 replace HI:Hid (∀ X,Calls Tryz.prog 224 #[.string s,.string ⟨#[c]⟩] X fun e w'=>e=.returned (.tuple #[.string r1,.bool r2])∧Below X.heap.size X w'):=HI.out
 show Calls _ _ _ _ fun e w'=>e=.returned (.tuple #[.string r1,.bool r2])∧_
 go_enter Tryz.func215,Tryz.ntmps215
 go_wp2_with (go_at_call 224;refine (HI.out _).mono ?_;rintro e w' ⟨rfl,hb⟩)
 refine bodyPost_ret (results_tmp2 rfl _ _ _) rfl ?_
 exact ⟨rfl,hb⟩
open Go.RowKit
set_option linter.unusedVariables false
def Rd (W:World) (b:Nat) (bl:Bool) (m s d:Int):Prop:=W.heap[b]? = some (.cells #[.bool bl,.int .u64 m,.int .u64 s,.int .i64 d] 289 (0,0))
theorem Rd.cells {W:World} {b:Nat} {bl:Bool} {m s d:Int} (h:Rd W b bl m s d) :
 (W.cell? ⟨b,0,none⟩=some (.bool bl)∧W.cell? ⟨b,1,none⟩=some (.int .u64 m)∧W.cell? ⟨b,2,none⟩=some (.int .u64 s)∧W.cell? ⟨b,3,none⟩=some (.int .i64 d)) ∧
 (W.frozen? ⟨b,2,none⟩=false∧W.frozen? ⟨b,3,none⟩=false) :=
 ⟨⟨cell_of_row W b 0 _ _ _ h,cell_of_row W b 1 _ _ _ h,cell_of_row W b 2 _ _ _ h,cell_of_row W b 3 _ _ _ h⟩,frozen_of_row W b 2 _ _ h,frozen_of_row W b 3 _ _ h⟩
theorem Rd.drewN {W:World} {b:Nat} {bl:Bool} {m s d:Int} (h:Rd W b bl m s d) (n:Nat):Rd (W.drewN n) b bl m s d:=h
theorem Rd.set {W:World} {b:Nat} {bl:Bool} {m s d s' d':Int} (h:Rd W b bl m s d):Rd ((W.setCell ⟨b,2,none⟩ (.int .u64 s')).setCell ⟨b,3,none⟩ (.int .i64 d')) b bl m s' d':=by
 have e1:=heap_setCell_same W b 2 _ _ (.int .u64 s') h
 exact heap_setCell_same _ b 3 _ _ (.int .i64 d') e1
def Halts (bl:Bool) (m s d c:Int):Prop:=c<48∨57<c∨(c=48∧d=0∧bl=true)∨(0<d∧s=0)∨(m-(c-48)) / 10<s
theorem take_byte (b:Nat) (c:Int) (w:World) (h0:0≤c) (h1:c≤255) (h:c<48∨57<c) :
 Calls Tryz.prog 221 #[.pointer (some ⟨b,0,none⟩),.int .u8 c] w fun e w'=>e=.returned (.bool false)∧w=w':=by
 rcases h with h | h
 · go_enter Tryz.func221, Tryz.ntmps221
   go_wp2
   go_ret
   exact ⟨rfl,rfl⟩
 · go_enter Tryz.func221, Tryz.ntmps221
   go_wp2
   go_ret
   exact ⟨rfl,rfl⟩
theorem take_nought (b:Nat) (m s:Int) (w:World) (hr:Rd w b true m s 0) :
 Calls Tryz.prog 221 #[.pointer (some ⟨b,0,none⟩),.int .u8 48] w fun e w'=>e=.returned (.bool false)∧∃ n,w'=w.drewN n:=by
 obtain ⟨⟨c0,c1,c2,c3⟩,f2,f3⟩:=hr.cells
 clear hr
 go_enter Tryz.func221,Tryz.ntmps221
 go_wp2
 go_quiet (fail)
 go_wp2
 go_ret
 exact ⟨rfl,_,rfl⟩
theorem take_behind (b:Nat) (bl:Bool) (m d c:Int) (w:World) (hr:Rd w b bl m 0 d) (h0:48≤c) (h1:c≤57) (hd:0<d) :
 Calls Tryz.prog 221 #[.pointer (some ⟨b,0,none⟩),.int .u8 c] w fun e w'=>e=.returned (.bool false)∧∃ n,w'=w.drewN n:=by
 obtain ⟨⟨c0,c1,c2,c3⟩,f2,f3⟩:=hr.cells
 clear hr
 have hd0:(d==0)=false:=by simp;omega
 by_cases h:c=48
 · subst h
   go_enter Tryz.func221,Tryz.ntmps221
   go_wp2
   go_quiet (fail)
   go_wp2
   go_ret
   exact ⟨rfl,_,rfl⟩
 · have h48 : (c == 48) = false := by simpa using h
   go_enter Tryz.func221,Tryz.ntmps221
   go_wp2
   go_quiet (fail)
   go_wp2
   go_ret
   exact ⟨rfl,_,rfl⟩
theorem take_over1 (b:Nat) (m s:Int) (w:World) (hr:Rd w b false m s 0) (hm0:9≤m) (hm1:m≤9223372036854775808) (hs0:0≤s) (hs:(m-(48-48)) / 10<s) :
 Calls Tryz.prog 221 #[.pointer (some ⟨b,0,none⟩),.int .u8 (48)] w fun e w'=>e=.returned (.bool false)∧∃ n,w'=w.drewN n:=by
 obtain ⟨⟨c0,c1,c2,c3⟩,f2,f3⟩:=hr.cells
 clear hr
 have e1:IntKind.u64.wrap (m-(48-48))=m-(48-48):=IntWalk.u64_in _ (by omega)
 have e2:0≤m-(48-48):=by omega
 go_enter Tryz.func221,Tryz.ntmps221
 go_wp2
 go_quiet (fail)
 go_wp2
 go_ret
 exact ⟨rfl,_,rfl⟩
theorem take_over2 (b:Nat) (bl:Bool) (m s d:Int) (hd:0<d) (hd1:d≤4611686018427387904) (hs2:0<s) (w:World) (hr:Rd w b bl m s d) (hm0:9≤m) (hm1:m≤9223372036854775808) (hs0:0≤s) (hs:(m-(48-48)) / 10<s) :
 Calls Tryz.prog 221 #[.pointer (some ⟨b,0,none⟩),.int .u8 (48)] w fun e w'=>e=.returned (.bool false)∧∃ n,w'=w.drewN n:=by
 obtain ⟨⟨c0,c1,c2,c3⟩,f2,f3⟩:=hr.cells
 clear hr
 have e1:IntKind.u64.wrap (m-(48-48))=m-(48-48):=IntWalk.u64_in _ (by omega)
 have e2:0≤m-(48-48):=by omega
 have q1:(d==0)=false:=by simp;omega
 have q2:(s==0)=false:=by simp;omega
 go_enter Tryz.func221,Tryz.ntmps221
 go_wp2
 go_quiet (fail)
 go_wp2
 go_ret
 exact ⟨rfl,_,rfl⟩
theorem take_over3 (b:Nat) (bl:Bool) (m s c:Int) (hc:48<c) (hc2:c≤57) (w:World) (hr:Rd w b bl m s 0) (hm0:9≤m) (hm1:m≤9223372036854775808) (hs0:0≤s) (hs:(m-(c-48)) / 10<s) :
 Calls Tryz.prog 221 #[.pointer (some ⟨b,0,none⟩),.int .u8 (c)] w fun e w'=>e=.returned (.bool false)∧∃ n,w'=w.drewN n:=by
 obtain ⟨⟨c0,c1,c2,c3⟩,f2,f3⟩:=hr.cells
 clear hr
 have e1:IntKind.u64.wrap (m-(c-48))=m-(c-48):=IntWalk.u64_in _ (by omega)
 have e2:0≤m-(c-48):=by omega
 have q3:(c==48)=false:=by simp;omega
 go_enter Tryz.func221,Tryz.ntmps221
 go_wp2
 go_quiet (fail)
 go_wp2
 go_ret
 exact ⟨rfl,_,rfl⟩
theorem take_over4 (b:Nat) (bl:Bool) (m s d c:Int) (hc:48<c) (hc2:c≤57) (hd:0<d) (hd1:d≤4611686018427387904) (hs2:0<s) (w:World) (hr:Rd w b bl m s d) (hm0:9≤m) (hm1:m≤9223372036854775808) (hs0:0≤s) (hs:(m-(c-48)) / 10<s) :
 Calls Tryz.prog 221 #[.pointer (some ⟨b,0,none⟩),.int .u8 (c)] w fun e w'=>e=.returned (.bool false)∧∃ n,w'=w.drewN n:=by
 obtain ⟨⟨c0,c1,c2,c3⟩,f2,f3⟩:=hr.cells
 clear hr
 have e1:IntKind.u64.wrap (m-(c-48))=m-(c-48):=IntWalk.u64_in _ (by omega)
 have e2:0≤m-(c-48):=by omega
 have q1:(d==0)=false:=by simp;omega
 have q2:(s==0)=false:=by simp;omega
 have q3:(c==48)=false:=by simp;omega
 go_enter Tryz.func221,Tryz.ntmps221
 go_wp2
 go_quiet (fail)
 go_wp2
 go_ret
 exact ⟨rfl,_,rfl⟩
theorem take_yes1 (b:Nat) (m s:Int) (w:World) (hr:Rd w b false m s 0) (hm0:9≤m) (hm1:m≤9223372036854775808) (hs0:0≤s) (hs:s≤(m-(48-48)) / 10) :
 Calls Tryz.prog 221 #[.pointer (some ⟨b,0,none⟩),.int .u8 (48)] w fun e w'=>e=.returned (.bool true)∧∃ n,w'=((w.drewN n).setCell ⟨b,2,none⟩ (.int .u64 (s*10+(48-48)))).setCell ⟨b,3,none⟩ (.int .i64 (0+1)):=by
 obtain ⟨⟨c0,c1,c2,c3⟩,f2,f3⟩:=hr.cells
 clear hr
 rw [show s*10+(48-48)=s*10 from by omega]
 have e1:IntKind.u64.wrap (m-(48-48))=m-(48-48):=IntWalk.u64_in _ (by omega)
 have e2:0≤m-(48-48):=by omega
 go_enter Tryz.func221,Tryz.ntmps221
 go_wp2
 go_quiet (fail)
 go_wp2
 go_ret
 exact ⟨rfl,_,rfl⟩
theorem take_yes2 (b:Nat) (bl:Bool) (m s d:Int) (hd:0<d) (hd1:d≤4611686018427387904) (hs2:0<s) (w:World) (hr:Rd w b bl m s d) (hm0:9≤m) (hm1:m≤9223372036854775808) (hs0:0≤s) (hs:s≤(m-(48-48)) / 10) :
 Calls Tryz.prog 221 #[.pointer (some ⟨b,0,none⟩),.int .u8 (48)] w fun e w'=>e=.returned (.bool true)∧∃ n,w'=((w.drewN n).setCell ⟨b,2,none⟩ (.int .u64 (s*10+(48-48)))).setCell ⟨b,3,none⟩ (.int .i64 (d+1)):=by
 obtain ⟨⟨c0,c1,c2,c3⟩,f2,f3⟩:=hr.cells
 clear hr
 rw [show s*10+(48-48)=s*10 from by omega]
 have e1:IntKind.u64.wrap (m-(48-48))=m-(48-48):=IntWalk.u64_in _ (by omega)
 have e2:0≤m-(48-48):=by omega
 have q1:(d==0)=false:=by simp;omega
 have q2:(s==0)=false:=by simp;omega
 go_enter Tryz.func221,Tryz.ntmps221
 go_wp2
 go_quiet (fail)
 go_wp2
 go_ret
 exact ⟨rfl,_,rfl⟩
theorem take_yes3 (b:Nat) (bl:Bool) (m s c:Int) (hc:48<c) (hc2:c≤57) (w:World) (hr:Rd w b bl m s 0) (hm0:9≤m) (hm1:m≤9223372036854775808) (hs0:0≤s) (hs:s≤(m-(c-48)) / 10) :
 Calls Tryz.prog 221 #[.pointer (some ⟨b,0,none⟩),.int .u8 (c)] w fun e w'=>e=.returned (.bool true)∧∃ n,w'=((w.drewN n).setCell ⟨b,2,none⟩ (.int .u64 (s*10+(c-48)))).setCell ⟨b,3,none⟩ (.int .i64 (0+1)):=by
 obtain ⟨⟨c0,c1,c2,c3⟩,f2,f3⟩:=hr.cells
 clear hr
 have e1:IntKind.u64.wrap (m-(c-48))=m-(c-48):=IntWalk.u64_in _ (by omega)
 have e2:0≤m-(c-48):=by omega
 have q3:(c==48)=false:=by simp;omega
 go_enter Tryz.func221,Tryz.ntmps221
 go_wp2
 go_quiet (fail)
 go_wp2
 go_ret
 exact ⟨rfl,_,rfl⟩
theorem take_yes4 (b:Nat) (bl:Bool) (m s d c:Int) (hc:48<c) (hc2:c≤57) (hd:0<d) (hd1:d≤4611686018427387904) (hs2:0<s) (w:World) (hr:Rd w b bl m s d) (hm0:9≤m) (hm1:m≤9223372036854775808) (hs0:0≤s) (hs:s≤(m-(c-48)) / 10) :
 Calls Tryz.prog 221 #[.pointer (some ⟨b,0,none⟩),.int .u8 (c)] w fun e w'=>e=.returned (.bool true)∧∃ n,w'=((w.drewN n).setCell ⟨b,2,none⟩ (.int .u64 (s*10+(c-48)))).setCell ⟨b,3,none⟩ (.int .i64 (d+1)):=by
 obtain ⟨⟨c0,c1,c2,c3⟩,f2,f3⟩:=hr.cells
 clear hr
 have e1:IntKind.u64.wrap (m-(c-48))=m-(c-48):=IntWalk.u64_in _ (by omega)
 have e2:0≤m-(c-48):=by omega
 have q1:(d==0)=false:=by simp;omega
 have q2:(s==0)=false:=by simp;omega
 have q3:(c==48)=false:=by simp;omega
 go_enter Tryz.func221,Tryz.ntmps221
 go_wp2
 go_quiet (fail)
 go_wp2
 go_ret
 exact ⟨rfl,_,rfl⟩
theorem rd_below {w W:World} {b n:Nat} (hb:b<w.heap.size) (u v:Value) (e:W=((w.drewN n).setCell ⟨b,2,none⟩ u).setCell ⟨b,3,none⟩ v):Below b w W∧W.heap.size=w.heap.size:=by
 subst e
 have h0:Below b w (w.drewN n):=⟨rfl,rfl,rfl,Nat.le_refl _,fun _ _=>rfl⟩
 exact ⟨(h0.setCell (p:=⟨b,2,none⟩) (Nat.le_refl _) u).setCell (p:=⟨b,3,none⟩) (Nat.le_refl _) v,by simp [World.setCell]⟩
theorem take_no (b:Nat) (bl:Bool) (m s d c:Int) (w:World) (hr:Rd w b bl m s d) (h0:0≤c) (h1:c≤255) (hm0:9≤m) (hm1:m≤9223372036854775808) (hs0:0≤s) (hd0:0≤d) (hd1:d≤4611686018427387904) (h:Halts bl m s d c) :
 Calls Tryz.prog 221 #[.pointer (some ⟨b,0,none⟩),.int .u8 c] w fun e w'=>e=.returned (.bool false)∧Rd w' b bl m s d∧Below b w w'∧w'.heap.size=w.heap.size:=by
 have fin:∀ w' n,w'=w.drewN n→Rd w' b bl m s d∧Below b w w'∧w'.heap.size=w.heap.size:=fun w' n e=>by
  subst e
  exact ⟨hr,⟨rfl,rfl,rfl,Nat.le_refl _,fun _ _=>rfl⟩,rfl⟩
 by_cases hb:c<48∨57<c
 · exact (take_byte b c w h0 h1 hb).mono fun e w' ⟨he,hw⟩=>⟨he,by subst hw;exact ⟨hr,Below.refl _ _,rfl⟩⟩
 have k0:48≤c:=by omega
 have k1:c≤57:=by omega
 by_cases hn:c=48∧d=0∧bl=true
 · obtain ⟨rfl, rfl, rfl⟩ := hn
   exact (take_nought b m s w hr).mono fun e w' ⟨he,n,hw⟩=>⟨he,fin w' n hw⟩
 by_cases hz:0<d∧s=0
 · obtain ⟨hd, rfl⟩ := hz
   exact (take_behind b bl m d c w hr k0 k1 hd).mono fun e w' ⟨he,n,hw⟩=>⟨he,fin w' n hw⟩
 have hs:(m-(c-48)) / 10<s:=by
  rcases h with h | h | h | h | h
  · omega
  · omega
  · exact absurd h hn
  · exact absurd h hz
  · exact h
 by_cases hc:c=48
 · subst hc
   by_cases hd:d=0
   · subst hd
     have hbl:bl=false:=by cases bl <;> simp_all
     subst hbl
     exact (take_over1 b m s w hr hm0 hm1 hs0 hs).mono fun e w' ⟨he,n,hw⟩=>⟨he,fin w' n hw⟩
   · exact (take_over2 b bl m s d (by omega) hd1 (by omega) w hr hm0 hm1 hs0 hs).mono fun e w' ⟨he,n,hw⟩=>⟨he,fin w' n hw⟩
 · by_cases hd : d = 0
   · subst hd
     exact (take_over3 b bl m s c (by omega) k1 w hr hm0 hm1 hs0 hs).mono fun e w' ⟨he,n,hw⟩=>⟨he,fin w' n hw⟩
   · exact (take_over4 b bl m s d c (by omega) k1 (by omega) hd1 (by omega) w hr hm0 hm1 hs0 hs).mono fun e w' ⟨he,n,hw⟩=>⟨he,fin w' n hw⟩
theorem take_yes (b:Nat) (bl:Bool) (m s d c:Int) (w:World) (hr:Rd w b bl m s d) (h0:0≤c) (h1:c≤255) (hm0:9≤m) (hm1:m≤9223372036854775808) (hs0:0≤s) (hd0:0≤d) (hd1:d≤4611686018427387904) (h:¬ Halts bl m s d c) :
 Calls Tryz.prog 221 #[.pointer (some ⟨b,0,none⟩),.int .u8 c] w fun e w'=>e=.returned (.bool true)∧Rd w' b bl m (s*10+(c-48)) (d+1)∧Below b w w'∧w'.heap.size=w.heap.size:=by
 have hlt:b<w.heap.size:=(Array.getElem?_eq_some_iff.1 hr).1
 have fin:∀ w' n,w'=((w.drewN n).setCell ⟨b,2,none⟩ (.int .u64 (s*10+(c-48)))).setCell ⟨b,3,none⟩ (.int .i64 (d+1))→Rd w' b bl m (s*10+(c-48)) (d+1)∧Below b w w'∧w'.heap.size=w.heap.size:=fun w' n e=>by
  have k:=rd_below hlt _ _ e
  subst e
  exact ⟨(hr.drewN n).set,k.1,k.2⟩
 have k0:48≤c:=by
  apply Int.not_lt.1;intro hx;exact h (.inl hx)
 have k1:c≤57:=by
  apply Int.not_lt.1;intro hx;exact h (.inr (.inl hx))
 have hn:¬ (c=48∧d=0∧bl=true):=fun hx=>h (.inr (.inr (.inl hx)))
 have hz:¬ (0<d∧s=0):=fun hx=>h (.inr (.inr (.inr (.inl hx))))
 have hs:s≤(m-(c-48)) / 10:=by
  apply Int.not_lt.1;intro hx;exact h (.inr (.inr (.inr (.inr hx))))
 by_cases hc:c=48
 · subst hc
   by_cases hd:d=0
   · subst hd
     have hbl:bl=false:=by cases bl <;> simp_all
     subst hbl
     exact (take_yes1 b m s w hr hm0 hm1 hs0 hs).mono fun e w' ⟨he,n,hw⟩=>⟨he,fin w' n hw⟩
   · exact (take_yes2 b bl m s d (by omega) hd1 (by omega) w hr hm0 hm1 hs0 hs).mono fun e w' ⟨he,n,hw⟩=>⟨he,fin w' n hw⟩
 · by_cases hd : d = 0
   · subst hd
     exact (take_yes3 b bl m s c (by omega) k1 w hr hm0 hm1 hs0 hs).mono fun e w' ⟨he,n,hw⟩=>⟨he,fin w' n hw⟩
   · exact (take_yes4 b bl m s d c (by omega) k1 (by omega) hd1 (by omega) w hr hm0 hm1 hs0 hs).mono fun e w' ⟨he,n,hw⟩=>⟨he,fin w' n hw⟩
end Go.Proofs.YtmpljhfinmfnbaaGreatDoor

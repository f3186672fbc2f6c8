/- The proof, part 6: texts that belong together, in one. -/
import Derived.Shelf.Strconv.Itoa0
import Derived.Shelf.Strconv.Itoa1
import Derived.Shelf.LaysM
import Derived.Shelf.Strconv.Itoa2
import Derived.Shelf.Strconv.Itoa3
import Derived.Shelf.Strconv.Itoa4
import Derived.Shelf.Strconv.Clone
import Derived.Shelf.Strings.Search1
import Derived.Shelf.Strings.Search2
import Derived.Shelf.Strings.Prefix
import Derived.Test.YtmpljhfinmfnbaaGreatDoorProg
import Derived.Test.YtmpljhfinmfnbaaGreatDoorQAE
import Derived.Lib.ItoaLen
import Derived.Deep.RegionHeld3
import Derived.Laws.Concat
set_option maxRecDepth 100000
set_option maxHeartbeats 20000000
namespace Go.Proofs
open Go.Shelf
def Tryz.laysM171_ren:Go.Shelf.Ren:=⟨fun | 171=>147 | 243=>163 | 246=>197 | 283=>208 | 284=>209 | 285=>210 | 286=>211 | 129=>217 | 317=>216 | 318=>218 | 319=>219 | 320=>220 | 337=>225 | 338=>226 | n=>n,fun | 3=>3 | 9=>9 | 2=>2 | 4=>4 | 171=>272 | 0=>0 | 53=>66 | 37=>26 | 5=>5 | 173=>275 | 212=>285 | 51=>277 | 20=>20 | 213=>286 | 46=>144 | 232=>293 | 233=>294 | n=>n,fun | 17=>5 | 18=>6 | 19=>7 | n=>n⟩
theorem Tryz.laysM171:Go.Proofs.LaysM.n171 Tryz.prog Tryz.laysM171_ren:={
 mixed:=by kernel_rfl
 f129:=Tryz.func217.trans (congrArg some (by kernel_rfl))
 f171:=Tryz.func147.trans (congrArg some (by kernel_rfl))
 f243:=Tryz.func163.trans (congrArg some (by kernel_rfl))
 f246:=Tryz.func197.trans (congrArg some (by kernel_rfl))
 f283:=Tryz.func208.trans (congrArg some (by kernel_rfl))
 f284:=Tryz.func209.trans (congrArg some (by kernel_rfl))
 f285:=Tryz.func210.trans (congrArg some (by kernel_rfl))
 f286:=Tryz.func211.trans (congrArg some (by kernel_rfl))
 f317:=Tryz.func216.trans (congrArg some (by kernel_rfl))
 f318:=Tryz.func218.trans (congrArg some (by kernel_rfl))
 f319:=Tryz.func219.trans (congrArg some (by kernel_rfl))
 f320:=Tryz.func220.trans (congrArg some (by kernel_rfl))
 f337:=Tryz.func225.trans (congrArg some (by kernel_rfl))
 f338:=Tryz.func226.trans (congrArg some (by kernel_rfl))
 t0:=Tryz.underlying0
 a0:=Tryz.isAgg0
 z0:=Tryz.sizeOf0
 v0:=Tryz.zeroValue0
 t2:=Tryz.underlying2
 a2:=Tryz.isAgg2
 z2:=Tryz.sizeOf2
 v2:=Tryz.zeroValue2
 t3:=Tryz.underlying3
 a3:=Tryz.isAgg3
 z3:=Tryz.sizeOf3
 v3:=Tryz.zeroValue3
 t4:=Tryz.underlying4
 a4:=Tryz.isAgg4
 z4:=Tryz.sizeOf4
 v4:=Tryz.zeroValue4
 t5:=Tryz.underlying5
 a5:=Tryz.isAgg5
 z5:=Tryz.sizeOf5
 v5:=Tryz.zeroValue5
 t9:=Tryz.underlying9
 a9:=Tryz.isAgg9
 z9:=Tryz.sizeOf9
 v9:=Tryz.zeroValue9
 t20:=Tryz.underlying20
 a20:=Tryz.isAgg20
 z20:=Tryz.sizeOf20
 v20:=Tryz.zeroValue20
 t37:=Tryz.underlying26
 a37:=Tryz.isAgg26
 z37:=Tryz.sizeOf26
 v37:=Tryz.zeroValue26
 t46:=Tryz.underlying144
 a46:=Tryz.isAgg144
 z46:=Tryz.sizeOf144
 v46:=Tryz.zeroValue144
 t51:=Tryz.underlying277
 a51:=Tryz.isAgg277
 z51:=Tryz.sizeOf277
 v51:=Tryz.zeroValue277
 t53:=Tryz.underlying66
 a53:=Tryz.isAgg66
 z53:=Tryz.sizeOf66
 v53:=Tryz.zeroValue66
 t171:=Tryz.underlying272
 a171:=Tryz.isAgg272
 z171:=Tryz.sizeOf272
 v171:=Tryz.zeroValue272
 t173:=Tryz.underlying275
 a173:=Tryz.isAgg275
 z173:=Tryz.sizeOf275
 v173:=Tryz.zeroValue275
 t212:=Tryz.underlying285
 a212:=Tryz.isAgg285
 z212:=Tryz.sizeOf285
 v212:=Tryz.zeroValue285
 t213:=Tryz.underlying286
 a213:=Tryz.isAgg286
 z213:=Tryz.sizeOf286
 t232:=Tryz.underlying293
 a232:=Tryz.isAgg293
 z232:=Tryz.sizeOf293
 v232:=Tryz.zeroValue293
 t233:=Tryz.underlying294
 a233:=Tryz.isAgg294
 z233:=Tryz.sizeOf294
 v233:=Tryz.zeroValue294
 g17:=by kernel_rfl
 g18:=by kernel_rfl
 g19:=by kernel_rfl
 i0:=by kernel_rfl
 i2:=by kernel_rfl
 i3:=by kernel_rfl
 i4:=by kernel_rfl
 i5:=by kernel_rfl
 i9:=by kernel_rfl
 i20:=by kernel_rfl
 i37:=by kernel_rfl
 i46:=by kernel_rfl
 i51:=by kernel_rfl
 i53:=by kernel_rfl
 i171:=by kernel_rfl
 i173:=by kernel_rfl
 i212:=by kernel_rfl
 i232:=by kernel_rfl
 i233:=by kernel_rfl
 m17:=by kernel_rfl
 m18:=by kernel_rfl
 m19:=by kernel_rfl }
open Go.RowKit Go.Sort Go.Lib in
theorem Tryz.strconv_Itoa (n:Int) (h0 : -9223372036854775808≤n) (h1:n≤9223372036854775807) (w:World) (htab:Lib.TabIs Tryz.prog w "internal/strconv.uint64pow10" .u64 Lib.pow10Tab) :
 Calls Tryz.prog 147 #[.int .i64 n] w fun e w'=>e=.returned (.string ⟨(Lib.itoa n).toArray⟩)∧∃ k os,w'=grow (w.drewN k) os:=Any.strconv_Itoa Tryz.laysM171 n h0 h1 w htab
def Tryz.laysM173_ren:Go.Shelf.Ren:=⟨fun | 173=>164 | 246=>197 | 283=>208 | 284=>209 | 285=>210 | 286=>211 | 129=>217 | 317=>216 | 318=>218 | 319=>219 | 320=>220 | 337=>225 | 338=>226 | n=>n,fun | 2=>2 | 3=>3 | 9=>9 | 4=>4 | 171=>272 | 0=>0 | 53=>66 | 37=>26 | 5=>5 | 173=>275 | 212=>285 | 51=>277 | 20=>20 | 213=>286 | 46=>144 | 232=>293 | 233=>294 | n=>n,fun | 17=>5 | 18=>6 | 19=>7 | n=>n⟩
theorem Tryz.laysM173:Go.Proofs.LaysM.n173 Tryz.prog Tryz.laysM173_ren:={
 mixed:=by kernel_rfl
 f129:=Tryz.func217.trans (congrArg some (by kernel_rfl))
 f173:=Tryz.func164.trans (congrArg some (by kernel_rfl))
 f246:=Tryz.func197.trans (congrArg some (by kernel_rfl))
 f283:=Tryz.func208.trans (congrArg some (by kernel_rfl))
 f284:=Tryz.func209.trans (congrArg some (by kernel_rfl))
 f285:=Tryz.func210.trans (congrArg some (by kernel_rfl))
 f286:=Tryz.func211.trans (congrArg some (by kernel_rfl))
 f317:=Tryz.func216.trans (congrArg some (by kernel_rfl))
 f318:=Tryz.func218.trans (congrArg some (by kernel_rfl))
 f319:=Tryz.func219.trans (congrArg some (by kernel_rfl))
 f320:=Tryz.func220.trans (congrArg some (by kernel_rfl))
 f337:=Tryz.func225.trans (congrArg some (by kernel_rfl))
 f338:=Tryz.func226.trans (congrArg some (by kernel_rfl))
 t0:=Tryz.underlying0
 a0:=Tryz.isAgg0
 z0:=Tryz.sizeOf0
 v0:=Tryz.zeroValue0
 t2:=Tryz.underlying2
 a2:=Tryz.isAgg2
 z2:=Tryz.sizeOf2
 v2:=Tryz.zeroValue2
 t3:=Tryz.underlying3
 a3:=Tryz.isAgg3
 z3:=Tryz.sizeOf3
 v3:=Tryz.zeroValue3
 t4:=Tryz.underlying4
 a4:=Tryz.isAgg4
 z4:=Tryz.sizeOf4
 v4:=Tryz.zeroValue4
 t5:=Tryz.underlying5
 a5:=Tryz.isAgg5
 z5:=Tryz.sizeOf5
 v5:=Tryz.zeroValue5
 t9:=Tryz.underlying9
 a9:=Tryz.isAgg9
 z9:=Tryz.sizeOf9
 v9:=Tryz.zeroValue9
 t20:=Tryz.underlying20
 a20:=Tryz.isAgg20
 z20:=Tryz.sizeOf20
 v20:=Tryz.zeroValue20
 t37:=Tryz.underlying26
 a37:=Tryz.isAgg26
 z37:=Tryz.sizeOf26
 v37:=Tryz.zeroValue26
 t46:=Tryz.underlying144
 a46:=Tryz.isAgg144
 z46:=Tryz.sizeOf144
 v46:=Tryz.zeroValue144
 t51:=Tryz.underlying277
 a51:=Tryz.isAgg277
 z51:=Tryz.sizeOf277
 v51:=Tryz.zeroValue277
 t53:=Tryz.underlying66
 a53:=Tryz.isAgg66
 z53:=Tryz.sizeOf66
 v53:=Tryz.zeroValue66
 t171:=Tryz.underlying272
 a171:=Tryz.isAgg272
 z171:=Tryz.sizeOf272
 v171:=Tryz.zeroValue272
 t173:=Tryz.underlying275
 a173:=Tryz.isAgg275
 z173:=Tryz.sizeOf275
 v173:=Tryz.zeroValue275
 t212:=Tryz.underlying285
 a212:=Tryz.isAgg285
 z212:=Tryz.sizeOf285
 v212:=Tryz.zeroValue285
 t213:=Tryz.underlying286
 a213:=Tryz.isAgg286
 z213:=Tryz.sizeOf286
 t232:=Tryz.underlying293
 a232:=Tryz.isAgg293
 z232:=Tryz.sizeOf293
 v232:=Tryz.zeroValue293
 t233:=Tryz.underlying294
 a233:=Tryz.isAgg294
 z233:=Tryz.sizeOf294
 v233:=Tryz.zeroValue294
 g17:=by kernel_rfl
 g18:=by kernel_rfl
 g19:=by kernel_rfl
 i0:=by kernel_rfl
 i2:=by kernel_rfl
 i3:=by kernel_rfl
 i4:=by kernel_rfl
 i5:=by kernel_rfl
 i9:=by kernel_rfl
 i20:=by kernel_rfl
 i37:=by kernel_rfl
 i46:=by kernel_rfl
 i51:=by kernel_rfl
 i53:=by kernel_rfl
 i171:=by kernel_rfl
 i173:=by kernel_rfl
 i212:=by kernel_rfl
 i232:=by kernel_rfl
 i233:=by kernel_rfl
 m17:=by kernel_rfl
 m18:=by kernel_rfl
 m19:=by kernel_rfl }
open Go.RowKit Go.Sort Go.Lib in
theorem Tryz.strconv_FormatInt_10 (n:Int) (h0 : -9223372036854775808≤n) (h1:n≤9223372036854775807) (w:World) (htab:Lib.TabIs Tryz.prog w "internal/strconv.uint64pow10" .u64 Lib.pow10Tab) :
 Calls Tryz.prog 164 #[.int .i64 n,.int .i64 10] w fun e w'=>e=.returned (.string ⟨(Lib.itoa n).toArray⟩)∧∃ k os,w'=grow (w.drewN k) os:=Any.strconv_FormatInt_10 Tryz.laysM173 n h0 h1 w htab
def Tryz.laysM316_ren:Go.Shelf.Ren:=⟨fun | 316=>204 | n=>n,fun | 9=>9 | 3=>3 | 4=>4 | 37=>26 | 0=>0 | 127=>210 | 5=>5 | n=>n,fun | n=>n⟩
theorem Tryz.laysM316:Go.Proofs.LaysM.n316 Tryz.prog Tryz.laysM316_ren:={
 mixed:=by kernel_rfl
 f316:=Tryz.func204.trans (congrArg some (by kernel_rfl))
 t0:=Tryz.underlying0
 a0:=Tryz.isAgg0
 z0:=Tryz.sizeOf0
 v0:=Tryz.zeroValue0
 t3:=Tryz.underlying3
 a3:=Tryz.isAgg3
 z3:=Tryz.sizeOf3
 v3:=Tryz.zeroValue3
 t4:=Tryz.underlying4
 a4:=Tryz.isAgg4
 z4:=Tryz.sizeOf4
 v4:=Tryz.zeroValue4
 t9:=Tryz.underlying9
 a9:=Tryz.isAgg9
 z9:=Tryz.sizeOf9
 v9:=Tryz.zeroValue9
 t37:=Tryz.underlying26
 a37:=Tryz.isAgg26
 z37:=Tryz.sizeOf26
 v37:=Tryz.zeroValue26
 t127:=Tryz.underlying210
 a127:=Tryz.isAgg210
 z127:=Tryz.sizeOf210
 v127:=Tryz.zeroValue210
 t5:=Tryz.underlying5
 a5:=Tryz.isAgg5
 z5:=Tryz.sizeOf5
 v5:=Tryz.zeroValue5
 i0:=by kernel_rfl
 i3:=by kernel_rfl
 i4:=by kernel_rfl
 i5:=by kernel_rfl
 i9:=by kernel_rfl
 i37:=by kernel_rfl
 i127:=by kernel_rfl }
open Go.RowKit in
theorem Tryz.stringslite_Clone (s:ByteArray) (w:World) (hlim:s.size≤281474976710656) :
 Calls Tryz.prog 204 #[.string s] w fun e w'=>e=.returned (.string s)∧Below w.heap.size w w':=Any.stringslite_Clone Tryz.laysM316 s w hlim
end Go.Proofs
namespace Go.Proofs.YtmpljhfinmfnbaaGreatDoor
open Go.RowKit
set_option linter.unusedVariables false
set_option maxRecDepth 100000
theorem gPow:Tryz.prog.globalNamed "internal/strconv.uint64pow10" = some 5:=by kernel_rfl
structure PwT (W:World):Prop where
 pow:Lib.TabIs Tryz.prog W "internal/strconv.uint64pow10" .u64 Lib.pow10Tab
 size:5<W.heap.size
theorem PwT.below {W W':World} (T:PwT W) (h:Below W.heap.size W W'):PwT W':=⟨var?_below h gPow T.size T.pow,Nat.lt_of_lt_of_le T.size h.size⟩
theorem below_gro (w:World) (k:Nat) (os:Array Obj):Below w.heap.size w (Sort.grow (w.drewN k) os):=by
 refine ⟨rfl,rfl,rfl,?_,fun i hi=>?_⟩
 · show w.heap.size ≤ (w.heap ++ os).size
   simp
 · show (w.heap ++ os)[i]? = _
   rw [Array.getElem?_append_left hi]
def itoaS (n:Int):ByteArray:=⟨(Lib.itoa n).toArray⟩
theorem itoaS_size (n:Int) (h0 : -9223372036854775808≤n) (h1:n≤9223372036854775807):(itoaS n).size≤100:=by
 show (Lib.itoa n).toArray.size≤100
 rw [List.size_toArray]
 have:=Lib.itoa_length_le n h0 h1
 omega
theorem itoaS_data (n:Int):(itoaS n).data.toList=Lib.itoa n:=rfl
theorem itoa_any (n:Int) (h0 : -9223372036854775808≤n) (h1:n≤9223372036854775807) (w:World) (T:PwT w):Calls Tryz.prog 147 #[.int .i64 n] w fun e w'=>e=.returned (.string (itoaS n))∧Below w.heap.size w w' :=
 (Go.Proofs.Tryz.strconv_Itoa n h0 h1 w T.pow).mono fun e w' ⟨he,k,os,hw⟩=>⟨he,by rw [hw];exact below_gro w k os⟩
theorem wprint_any (n:Int) (h0 : -9223372036854775808≤n) (h1:n≤9223372036854775807) (w:World) (T:PwT w) :
 Calls Tryz.prog 148 #[.int .i64 n] w fun e w'=>e=.returned (.string (itoaS n))∧Below w.heap.size w w':=by
 have H:=Lib.hid (show Calls Tryz.prog 164 #[.int .i64 n,.int .i64 10] w fun e w'=>e=.returned (.string (itoaS n))∧Below w.heap.size w w' from
  (Go.Proofs.Tryz.strconv_FormatInt_10 n h0 h1 w T.pow).mono fun e w' ⟨he,k,os,hw⟩=>⟨he,by rw [hw];exact below_gro w k os⟩)
 obtain ⟨s,hs⟩:∃ s:ByteArray,s=itoaS n:=⟨_,rfl⟩
 rw [← hs] at H ⊢
 clear hs T
 go_enter Tryz.func148,Tryz.ntmps148
 go_wp2_with (go_at_call 164;refine (H.out).mono ?_;rintro e w' ⟨rfl,hb⟩)
 go_ret
 exact ⟨rfl,hb⟩
structure Wq (w:World) (b:Nat) (t:List UInt8) (W:World):Prop where
 wt:Wt b t W
 keep:Keep (selW b) w W
 bel:Below b w W
section
variable {w W W':World} {b:Nat} {t:List UInt8}
theorem Wt.lt (h:Wt b t W):b<W.heap.size:=by obtain ⟨p,v,h⟩:=h;exact h.1.lt
theorem Wt.below (h:Wt b t W) (hb:Below W.heap.size W W'):Wt b t W':=by
 obtain ⟨p,v,h1,h3,h4,h5⟩:=h
 exact ⟨p,v,h1.below hb,h3,h4,row_below h5 hb⟩
theorem Wq.below (h:Wq w b t W) (hb:Below W.heap.size W W'):Wq w b t W':=⟨h.wt.below hb,h.keep.trans (keep_below hb),h.bel.trans (hb.mono (Nat.le_of_lt h.wt.lt))⟩
theorem wq_new (h:Wt b t w):Wq w b t w:=⟨h,Keep.refl _ _,Below.refl _ _⟩
theorem Wq.trans {w0:World} {t':List UInt8} (h:Wq w0 b t w) (k:Wq w b t' W):Wq w0 b t' W:=⟨k.wt,h.keep.trans k.keep,h.bel.trans k.bel⟩
theorem wq_write (h:Wq w b t W) (s:ByteArray) (hlen:t.length+s.size≤140737488355328):Calls Tryz.prog 119 #[.pointer (some ⟨b,0,none⟩),.string s] W fun e w'=>e=.returned (.tuple #[.int .i64 s.size,.nilIface])∧Wq w b (t++s.data.toList) w' :=
 (wt_write h.wt s hlen).mono fun _ _ ⟨h1,h2,h3,h4⟩=>⟨h1,h2,h.keep.trans h3,h.bel.trans h4⟩
theorem wq_byte (h:Wq w b t W) (hlen:t.length+1≤140737488355328):Calls Tryz.prog 122 #[.pointer (some ⟨b,0,none⟩),.int .u8 10] W fun e w'=>e=.returned .nilIface∧Wq w b (t++[10]) w' :=
 (wt_byte h.wt 10 (by decide) (by decide) hlen).mono fun _ _ ⟨h1,h2,h3,h4⟩=>⟨h1,h2,h.keep.trans h3,h.bel.trans h4⟩
def Nu8 (ty:TypeId):Prop:=∀ cs:Array Value,¬ IsTy 5 (.cells cs ty)
theorem Wq.own (h:Wq w b t W) {g:Nat} {ty:TypeId} {row:Array Value} (ho:Own w g ty row) (hg:g≠b) (hn:Nu8 ty):Own W g ty row:=h.keep.block _ _ ho ⟨hg,hn _⟩
def Nm (b:Nat) (w:World) (a:Addr) (x:Int):Prop:=∃ g o ty row,a=⟨g,o,none⟩∧Own w g ty row∧g≠b∧Nu8 ty∧row[o]? = some (.int .i64 x)
theorem Wq.num (h:Wq w b t W) {a:Addr} {x:Int} (hx:Nm b w a x):Nm b W a x∧W.cell? a=some (.int .i64 x):=by
 obtain ⟨g,o,ty,row,rfl,ho,hg,hn,hr⟩:=hx
 have h2:=h.own ho hg hn
 exact ⟨⟨g,o,ty,row,rfl,h2,hg,hn,hr⟩,by rw [cell_of_row _ _ o _ _ _ h2];exact hr⟩
end
def regT (x:Int):List UInt8:=[32,114]++Lib.itoa x
theorem w_reg {w:World} {b:Nat} {txt:List UInt8} {W:World} (hq:Wq w b txt W) {g o:Nat} {x:Int} (hx:Nm b w ⟨g,o,none⟩ x) (h0 : -9223372036854775808≤x∧x≤9223372036854775807) (hlen:txt.length≤70000000000000) (HT:∀ V,Below b w V→PwT V) :
 Calls Tryz.prog 150 #[.pointer (some ⟨b,0,none⟩),.pointer (some ⟨g,o,none⟩)] W fun e w'=>e=.returned (.tuple #[])∧Wq w b (txt++regT x) w':=by
 have hc:=(hq.num hx).2
 have HI:Hid (∀ V,Wq w b txt V→Calls Tryz.prog 147 #[.int .i64 x] V fun e w'=>e=.returned (.string (itoaS x))∧Below V.heap.size V w'):=fun V h=>itoa_any x h0.1 h0.2 V (HT V h.bel)
 have HS:Hid ((itoaS x).size≤100):=itoaS_size x h0.1 h0.2
 have HE:Hid (regT x=(⟨#[32,114]⟩++itoaS x).data.toList):=by rw [Hid,ByteArray.data_append,Array.toList_append,itoaS_data];rfl
 rw [HE.out]
 have hss:=HS.out
 generalize itoaS x=s at HI hss ⊢
 have HQ:=Lib.hid hq
 have HX:=Lib.hid hx
 have hsz:(⟨#[32,114]⟩++s).size≤200:=by rw [ByteArray.size_append];show 2+s.size≤200;omega
 have HW:Hid (∀ V,Wq w b txt V→Calls Tryz.prog 119 #[.pointer (some ⟨b,0,none⟩),.string (⟨#[32,114]⟩++s)] V fun e w'=>e=.returned (.tuple #[.int .i64 (⟨#[32,114]⟩++s).size,.nilIface])∧Wq w b (txt++(⟨#[32,114]⟩++s).data.toList) w'):=fun V h=>wq_write h _ (by omega)
 have hcat:∀ V,(Op.stringOp .add ⟨#[32,114]⟩ s).run Tryz.prog V=.ok (.string (⟨#[32,114]⟩++s)) V:=fun V=>run_string_add_sum V _ _ (by show 2+s.size≤_;omega)
 clear hq hx HT h0 hlen HS HE hsz
 go_enter Tryz.func150,Tryz.ntmps150
 go_region_held3 (fun V=>V.cell? ⟨g,o,none⟩=some (.int .i64 x)∧∃ t,Wq w b t V) (first | exact ⟨hc,_,HQ.out.below (below_drewN (Below.refl _ _) 1)⟩ | exact ⟨((HA.out).num HX.out).2,_,HA.out⟩ | exact ⟨((HZ.out).num HX.out).2,_,HZ.out⟩) (first
  | (go_at_call 147;refine (HI.out _ (HQ.out.below (below_drewN (Below.refl _ _) 1))).mono ?_;rintro e w2 ⟨rfl,hb⟩;have HA:=Lib.hid ((HQ.out.below (below_drewN (Below.refl _ _) 1)).below hb);clear hb)
  | (go_at_call 119;refine (HW.out _ HA.out).mono ?_;rintro e w3 ⟨rfl,hz⟩;have HZ:=Lib.hid hz;clear hz))
 go_wp2_with fail
 exact bodyPost_end (results_none rfl _ _ _) rfl ⟨rfl,HZ.out⟩
def numT (x:Int):List UInt8:=[32]++Lib.itoa x
theorem w_num {w:World} {b:Nat} {txt:List UInt8} {W:World} (hq:Wq w b txt W) {g o:Nat} {x:Int} (hx:Nm b w ⟨g,o,none⟩ x) (h0 : -9223372036854775808≤x∧x≤9223372036854775807) (hlen:txt.length≤70000000000000) (HT:∀ V,Below b w V→PwT V) :
 Calls Tryz.prog 120 #[.pointer (some ⟨b,0,none⟩),.pointer (some ⟨g,o,none⟩)] W fun e w'=>e=.returned (.tuple #[])∧Wq w b (txt++numT x) w':=by
 have hc:=(hq.num hx).2
 have HI:Hid (∀ V,Wq w b txt V→Calls Tryz.prog 147 #[.int .i64 x] V fun e w'=>e=.returned (.string (itoaS x))∧Below V.heap.size V w'):=fun V h=>itoa_any x h0.1 h0.2 V (HT V h.bel)
 have HS:Hid ((itoaS x).size≤100):=itoaS_size x h0.1 h0.2
 have HE:Hid (numT x=(⟨#[32]⟩++itoaS x).data.toList):=by rw [Hid,ByteArray.data_append,Array.toList_append,itoaS_data];rfl
 rw [HE.out]
 have hss:=HS.out
 generalize itoaS x=s at HI hss ⊢
 have HQ:=Lib.hid hq
 have HX:=Lib.hid hx
 have hsz:(⟨#[32]⟩++s).size≤200:=by rw [ByteArray.size_append];show 1+s.size≤200;omega
 have HW:Hid (∀ V,Wq w b txt V→Calls Tryz.prog 119 #[.pointer (some ⟨b,0,none⟩),.string (⟨#[32]⟩++s)] V fun e w'=>e=.returned (.tuple #[.int .i64 (⟨#[32]⟩++s).size,.nilIface])∧Wq w b (txt++(⟨#[32]⟩++s).data.toList) w'):=fun V h=>wq_write h _ (by omega)
 have hcat:∀ V,(Op.stringOp .add ⟨#[32]⟩ s).run Tryz.prog V=.ok (.string (⟨#[32]⟩++s)) V:=fun V=>run_string_add_sum V _ _ (by show 1+s.size≤_;omega)
 clear hq hx HT h0 hlen HS HE hsz
 go_enter Tryz.func120,Tryz.ntmps120
 go_region_held3 (fun V=>V.cell? ⟨g,o,none⟩=some (.int .i64 x)∧∃ t,Wq w b t V) (first | exact ⟨hc,_,HQ.out.below (below_drewN (Below.refl _ _) 1)⟩ | exact ⟨((HA.out).num HX.out).2,_,HA.out⟩ | exact ⟨((HZ.out).num HX.out).2,_,HZ.out⟩) (first
  | (go_at_call 147;refine (HI.out _ (HQ.out.below (below_drewN (Below.refl _ _) 1))).mono ?_;rintro e w2 ⟨rfl,hb⟩;have HA:=Lib.hid ((HQ.out.below (below_drewN (Below.refl _ _) 1)).below hb);clear hb)
  | (go_at_call 119;refine (HW.out _ HA.out).mono ?_;rintro e w3 ⟨rfl,hz⟩;have HZ:=Lib.hid hz;clear hz))
 go_wp2_with fail
 exact bodyPost_end (results_none rfl _ _ _) rfl ⟨rfl,HZ.out⟩
def wrdT (x:Int):List UInt8:=[32]++Lib.itoa x
theorem w_wrd {w:World} {b:Nat} {txt:List UInt8} {W:World} (hq:Wq w b txt W) {g o:Nat} {x:Int} (hx:Nm b w ⟨g,o,none⟩ x) (h0 : -9223372036854775808≤x∧x≤9223372036854775807) (hlen:txt.length≤70000000000000) (HT:∀ V,Below b w V→PwT V) :
 Calls Tryz.prog 121 #[.pointer (some ⟨b,0,none⟩),.pointer (some ⟨g,o,none⟩)] W fun e w'=>e=.returned (.tuple #[])∧Wq w b (txt++wrdT x) w':=by
 have hc:=(hq.num hx).2
 have HI:Hid (∀ V,Wq w b txt V→Calls Tryz.prog 148 #[.int .i64 x] V fun e w'=>e=.returned (.string (itoaS x))∧Below V.heap.size V w'):=fun V h=>wprint_any x h0.1 h0.2 V (HT V h.bel)
 have HS:Hid ((itoaS x).size≤100):=itoaS_size x h0.1 h0.2
 have HE:Hid (wrdT x=(⟨#[32]⟩++itoaS x).data.toList):=by rw [Hid,ByteArray.data_append,Array.toList_append,itoaS_data];rfl
 rw [HE.out]
 have hss:=HS.out
 generalize itoaS x=s at HI hss ⊢
 have HQ:=Lib.hid hq
 have HX:=Lib.hid hx
 have hsz:(⟨#[32]⟩++s).size≤200:=by rw [ByteArray.size_append];show 1+s.size≤200;omega
 have HW:Hid (∀ V,Wq w b txt V→Calls Tryz.prog 119 #[.pointer (some ⟨b,0,none⟩),.string (⟨#[32]⟩++s)] V fun e w'=>e=.returned (.tuple #[.int .i64 (⟨#[32]⟩++s).size,.nilIface])∧Wq w b (txt++(⟨#[32]⟩++s).data.toList) w'):=fun V h=>wq_write h _ (by omega)
 have hcat:∀ V,(Op.stringOp .add ⟨#[32]⟩ s).run Tryz.prog V=.ok (.string (⟨#[32]⟩++s)) V:=fun V=>run_string_add_sum V _ _ (by show 1+s.size≤_;omega)
 clear hq hx HT h0 hlen HS HE hsz
 go_enter Tryz.func121,Tryz.ntmps121
 go_region_held3 (fun V=>V.cell? ⟨g,o,none⟩=some (.int .i64 x)∧∃ t,Wq w b t V) (first | exact ⟨hc,_,HQ.out.below (below_drewN (Below.refl _ _) 1)⟩ | exact ⟨((HA.out).num HX.out).2,_,HA.out⟩ | exact ⟨((HZ.out).num HX.out).2,_,HZ.out⟩) (first
  | (go_at_call 148;refine (HI.out _ (HQ.out.below (below_drewN (Below.refl _ _) 1))).mono ?_;rintro e w2 ⟨rfl,hb⟩;have HA:=Lib.hid ((HQ.out.below (below_drewN (Below.refl _ _) 1)).below hb);clear hb)
  | (go_at_call 119;refine (HW.out _ HA.out).mono ?_;rintro e w3 ⟨rfl,hz⟩;have HZ:=Lib.hid hz;clear hz))
 go_wp2_with fail
 exact bodyPost_end (results_none rfl _ _ _) rfl ⟨rfl,HZ.out⟩
end Go.Proofs.YtmpljhfinmfnbaaGreatDoor

/- strings.Builder: the library's contracts of WriteByte and WriteString, at this program. -/
import Derived.Test.YteedpojchapjgaaDoorShelf
import Derived.Test.YteedpojchapjgaaDoorLTabs
namespace Go.Proofs.YteedpojchapjgaaDoor
open Go.RowKit Go.Shelf
set_option linter.unusedVariables false

def bldRen : Go.Shelf.Ren := ⟨fun | 167 => 47 | 166 => 48 | 240 => 65 | 276 => 80 | n => n, fun | 0 => 0 | 3 => 3 | 4 => 4 | 5 => 5 | 9 => 9 | 20 => 20 | 37 => 64 | 70 => 63 | 72 => 66 | 75 => 68 | 80 => 72 | 164 => 100 | n => n, fun | n => n⟩
theorem bld167 : Go.Proofs.Lays.n167 Tryd.prog bldRen := {
  mixed := by kernel_rfl
  f167 := Tryd.func47.trans (congrArg some (by kernel_rfl))
  f240 := Tryd.func65.trans (congrArg some (by kernel_rfl))
  f276 := Tryd.func80.trans (congrArg some (by kernel_rfl))
  t0 := by first | exact Tryd.underlying0 | kernel_rfl | exact fun _ => by kernel_rfl
  a0 := by first | exact Tryd.isAgg0 | kernel_rfl | exact fun _ => by kernel_rfl
  z0 := by first | exact Tryd.sizeOf0 | kernel_rfl | exact fun _ => by kernel_rfl
  v0 := by first | exact Tryd.zeroValue0 | kernel_rfl | exact fun _ => by kernel_rfl
  t4 := by first | exact Tryd.underlying4 | kernel_rfl | exact fun _ => by kernel_rfl
  a4 := by first | exact Tryd.isAgg4 | kernel_rfl | exact fun _ => by kernel_rfl
  z4 := by first | exact Tryd.sizeOf4 | kernel_rfl | exact fun _ => by kernel_rfl
  v4 := by first | exact Tryd.zeroValue4 | kernel_rfl | exact fun _ => by kernel_rfl
  t5 := by first | exact Tryd.underlying5 | kernel_rfl | exact fun _ => by kernel_rfl
  a5 := by first | exact Tryd.isAgg5 | kernel_rfl | exact fun _ => by kernel_rfl
  z5 := by first | exact Tryd.sizeOf5 | kernel_rfl | exact fun _ => by kernel_rfl
  v5 := by first | exact Tryd.zeroValue5 | kernel_rfl | exact fun _ => by kernel_rfl
  t9 := by first | exact Tryd.underlying9 | kernel_rfl | exact fun _ => by kernel_rfl
  a9 := by first | exact Tryd.isAgg9 | kernel_rfl | exact fun _ => by kernel_rfl
  z9 := by first | exact Tryd.sizeOf9 | kernel_rfl | exact fun _ => by kernel_rfl
  v9 := by first | exact Tryd.zeroValue9 | kernel_rfl | exact fun _ => by kernel_rfl
  t20 := by first | exact Tryd.underlying20 | kernel_rfl | exact fun _ => by kernel_rfl
  a20 := by first | exact Tryd.isAgg20 | kernel_rfl | exact fun _ => by kernel_rfl
  z20 := by first | exact Tryd.sizeOf20 | kernel_rfl | exact fun _ => by kernel_rfl
  v20 := by first | exact Tryd.zeroValue20 | kernel_rfl | exact fun _ => by kernel_rfl
  t37 := by first | exact Tryd.underlying64 | kernel_rfl | exact fun _ => by kernel_rfl
  a37 := by first | exact Tryd.isAgg64 | kernel_rfl | exact fun _ => by kernel_rfl
  z37 := by first | exact Tryd.sizeOf64 | kernel_rfl | exact fun _ => by kernel_rfl
  v37 := by first | exact Tryd.zeroValue64 | kernel_rfl | exact fun _ => by kernel_rfl
  t70 := by first | exact Tryd.underlying63 | kernel_rfl | exact fun _ => by kernel_rfl
  a70 := by first | exact Tryd.isAgg63 | kernel_rfl | exact fun _ => by kernel_rfl
  z70 := by first | exact Tryd.sizeOf63 | kernel_rfl | exact fun _ => by kernel_rfl
  v70 := by first | exact Tryd.zeroValue63 | kernel_rfl | exact fun _ => by kernel_rfl
  t72 := by first | exact Tryd.underlying66 | kernel_rfl | exact fun _ => by kernel_rfl
  a72 := by first | exact Tryd.isAgg66 | kernel_rfl | exact fun _ => by kernel_rfl
  z72 := by first | exact Tryd.sizeOf66 | kernel_rfl | exact fun _ => by kernel_rfl
  v72 := by first | exact Tryd.zeroValue66 | kernel_rfl | exact fun _ => by kernel_rfl
  t75 := by first | exact Tryd.underlying68 | kernel_rfl | exact fun _ => by kernel_rfl
  a75 := by first | exact Tryd.isAgg68 | kernel_rfl | exact fun _ => by kernel_rfl
  z75 := by first | exact Tryd.sizeOf68 | kernel_rfl | exact fun _ => by kernel_rfl
  v75 := by first | exact Tryd.zeroValue68 | kernel_rfl | exact fun _ => by kernel_rfl
  t164 := by first | exact Tryd.underlying100 | kernel_rfl | exact fun _ => by kernel_rfl
  a164 := by first | exact Tryd.isAgg100 | kernel_rfl | exact fun _ => by kernel_rfl
  z164 := by first | exact Tryd.sizeOf100 | kernel_rfl | exact fun _ => by kernel_rfl
  v164 := by first | exact Tryd.zeroValue100 | kernel_rfl | exact fun _ => by kernel_rfl }
theorem bld166 : Go.Proofs.Lays.n166 Tryd.prog bldRen := {
  mixed := by kernel_rfl
  f166 := Tryd.func48.trans (congrArg some (by kernel_rfl))
  f240 := Tryd.func65.trans (congrArg some (by kernel_rfl))
  f276 := Tryd.func80.trans (congrArg some (by kernel_rfl))
  t0 := by first | exact Tryd.underlying0 | kernel_rfl | exact fun _ => by kernel_rfl
  a0 := by first | exact Tryd.isAgg0 | kernel_rfl | exact fun _ => by kernel_rfl
  z0 := by first | exact Tryd.sizeOf0 | kernel_rfl | exact fun _ => by kernel_rfl
  v0 := by first | exact Tryd.zeroValue0 | kernel_rfl | exact fun _ => by kernel_rfl
  t3 := by first | exact Tryd.underlying3 | kernel_rfl | exact fun _ => by kernel_rfl
  a3 := by first | exact Tryd.isAgg3 | kernel_rfl | exact fun _ => by kernel_rfl
  z3 := by first | exact Tryd.sizeOf3 | kernel_rfl | exact fun _ => by kernel_rfl
  v3 := by first | exact Tryd.zeroValue3 | kernel_rfl | exact fun _ => by kernel_rfl
  t4 := by first | exact Tryd.underlying4 | kernel_rfl | exact fun _ => by kernel_rfl
  a4 := by first | exact Tryd.isAgg4 | kernel_rfl | exact fun _ => by kernel_rfl
  z4 := by first | exact Tryd.sizeOf4 | kernel_rfl | exact fun _ => by kernel_rfl
  v4 := by first | exact Tryd.zeroValue4 | kernel_rfl | exact fun _ => by kernel_rfl
  t9 := by first | exact Tryd.underlying9 | kernel_rfl | exact fun _ => by kernel_rfl
  a9 := by first | exact Tryd.isAgg9 | kernel_rfl | exact fun _ => by kernel_rfl
  z9 := by first | exact Tryd.sizeOf9 | kernel_rfl | exact fun _ => by kernel_rfl
  v9 := by first | exact Tryd.zeroValue9 | kernel_rfl | exact fun _ => by kernel_rfl
  t20 := by first | exact Tryd.underlying20 | kernel_rfl | exact fun _ => by kernel_rfl
  a20 := by first | exact Tryd.isAgg20 | kernel_rfl | exact fun _ => by kernel_rfl
  z20 := by first | exact Tryd.sizeOf20 | kernel_rfl | exact fun _ => by kernel_rfl
  v20 := by first | exact Tryd.zeroValue20 | kernel_rfl | exact fun _ => by kernel_rfl
  t37 := by first | exact Tryd.underlying64 | kernel_rfl | exact fun _ => by kernel_rfl
  a37 := by first | exact Tryd.isAgg64 | kernel_rfl | exact fun _ => by kernel_rfl
  z37 := by first | exact Tryd.sizeOf64 | kernel_rfl | exact fun _ => by kernel_rfl
  v37 := by first | exact Tryd.zeroValue64 | kernel_rfl | exact fun _ => by kernel_rfl
  t70 := by first | exact Tryd.underlying63 | kernel_rfl | exact fun _ => by kernel_rfl
  a70 := by first | exact Tryd.isAgg63 | kernel_rfl | exact fun _ => by kernel_rfl
  z70 := by first | exact Tryd.sizeOf63 | kernel_rfl | exact fun _ => by kernel_rfl
  v70 := by first | exact Tryd.zeroValue63 | kernel_rfl | exact fun _ => by kernel_rfl
  t72 := by first | exact Tryd.underlying66 | kernel_rfl | exact fun _ => by kernel_rfl
  a72 := by first | exact Tryd.isAgg66 | kernel_rfl | exact fun _ => by kernel_rfl
  z72 := by first | exact Tryd.sizeOf66 | kernel_rfl | exact fun _ => by kernel_rfl
  v72 := by first | exact Tryd.zeroValue66 | kernel_rfl | exact fun _ => by kernel_rfl
  t75 := by first | exact Tryd.underlying68 | kernel_rfl | exact fun _ => by kernel_rfl
  a75 := by first | exact Tryd.isAgg68 | kernel_rfl | exact fun _ => by kernel_rfl
  z75 := by first | exact Tryd.sizeOf68 | kernel_rfl | exact fun _ => by kernel_rfl
  v75 := by first | exact Tryd.zeroValue68 | kernel_rfl | exact fun _ => by kernel_rfl
  t164 := by first | exact Tryd.underlying100 | kernel_rfl | exact fun _ => by kernel_rfl
  a164 := by first | exact Tryd.isAgg100 | kernel_rfl | exact fun _ => by kernel_rfl
  z164 := by first | exact Tryd.sizeOf100 | kernel_rfl | exact fun _ => by kernel_rfl
  v164 := by first | exact Tryd.zeroValue100 | kernel_rfl | exact fun _ => by kernel_rfl }
theorem bldX : Builder.Extra Tryd.prog bldRen := {
  sizeBuilder := by kernel_rfl
  liesBuilder := by kernel_rfl
  t5 := Tryd.underlying5
  a5 := Tryd.isAgg5
  z5 := Tryd.sizeOf5
  v5 := Tryd.zeroValue5
  infoByte := by kernel_rfl
  cellsByte := by kernel_rfl
  sizeByte := by kernel_rfl
  neB5 := by decide }
theorem writeByte_any (B b : Nat) (bs : List Value) (c : Int) (w : World) (h : Lib.IsBuilder 66 5 B b bs w) (hlen : bs.length + 1 ≤ 140737488355328) (hBw : B ≤ w.heap.size) :
    Calls Tryd.prog 47 #[.pointer (some ⟨b, 0, none⟩), .int .u8 c] w fun e w' => e = .returned .nilIface ∧ (Lib.BuilderAt 66 5 B b (.pointer (some ⟨b, 0, none⟩)) (bs ++ [.int .u8 c]) w' ∧ Below B w w') :=
  Any.Builder_WriteByte bld167 bldX B b bs c w h hlen hBw
theorem writeString_any (B b : Nat) (bs : List Value) (s : ByteArray) (w : World) (h : Lib.IsBuilder 66 5 B b bs w) (hlen : bs.length + s.size ≤ 140737488355328) (hBw : B ≤ w.heap.size) :
    Calls Tryd.prog 48 #[.pointer (some ⟨b, 0, none⟩), .string s] w fun e w' => e = .returned (.tuple #[.int .i64 s.size, .nilIface]) ∧ (Lib.BuilderAt 66 5 B b (.pointer (some ⟨b, 0, none⟩)) (bs ++ Lib.strCells s) w' ∧ Below B w w') :=
  Any.Builder_WriteString bld166 bldX B b bs s w h hlen hBw
end Go.Proofs.YteedpojchapjgaaDoor

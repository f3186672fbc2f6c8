/- The proof, part 27: texts that belong together, in one. -/
import Derived.Test.YtikaflpiephaiaaGreatDoorRAZ
set_option maxRecDepth 100000
set_option maxHeartbeats 20000000
namespace Go.Proofs.YtikaflpiephaiaaGreatDoor
open Go.RowKit
set_option linter.unusedVariables false
theorem same_d_0 {nm1 : ByteArray} {nm2 : ByteArray} {wd1 : Int} {wd2 : Int} {ps1 : Int} {ps2 : Int} (w : World) (q0 : (nm1.toList == nm2.toList) = false) :
 Calls Tryz.prog 39 #[.agg #[.string nm1, .int .i64 wd1, .int .i64 ps1], .agg #[.string nm2, .int .i64 wd2, .int .i64 ps2]] w fun e' w' => e' = .returned (.bool false) ∧ Below w.heap.size w w' := by
 have HB : Hid (Below w.heap.size w ((w.alloc (.cells #[.string nm1, .int .i64 wd1, .int .i64 ps1] 66)).alloc (.cells #[.string nm2, .int .i64 wd2, .int .i64 ps2] 66))) := (((Below.refl _ w).alloc (Nat.le_refl _) _).alloc (by rw [World.size_alloc]; omega) _)
 have O1 := Lib.hid ((Own.new w 66 #[.string nm1, .int .i64 wd1, .int .i64 ps1]).alloc (.cells #[.string nm2, .int .i64 wd2, .int .i64 ps2] 66))
 have O2 : Hid (Own ((w.alloc (.cells #[.string nm1, .int .i64 wd1, .int .i64 ps1] 66)).alloc (.cells #[.string nm2, .int .i64 wd2, .int .i64 ps2] 66)) (w.heap.size + 1) 66 #[.string nm2, .int .i64 wd2, .int .i64 ps2]) := by have := Own.new (w.alloc (.cells #[.string nm1, .int .i64 wd1, .int .i64 ps1] 66)) 66 #[.string nm2, .int .i64 wd2, .int .i64 ps2]; rw [World.size_alloc] at this; exact this
 go_enter Tryz.func39, Tryz.ntmps39
 go_wp2_with fail
 go_ret
 exact ⟨rfl, HB.out⟩
theorem same_d_1 {nm1 : ByteArray} {nm2 : ByteArray} {wd1 : Int} {wd2 : Int} {ps1 : Int} {ps2 : Int} (w : World) (q0 : (nm1.toList == nm2.toList) = true) (q1 : (wd1 == wd2) = false) :
 Calls Tryz.prog 39 #[.agg #[.string nm1, .int .i64 wd1, .int .i64 ps1], .agg #[.string nm2, .int .i64 wd2, .int .i64 ps2]] w fun e' w' => e' = .returned (.bool false) ∧ Below w.heap.size w w' := by
 have HB : Hid (Below w.heap.size w ((w.alloc (.cells #[.string nm1, .int .i64 wd1, .int .i64 ps1] 66)).alloc (.cells #[.string nm2, .int .i64 wd2, .int .i64 ps2] 66))) := (((Below.refl _ w).alloc (Nat.le_refl _) _).alloc (by rw [World.size_alloc]; omega) _)
 have O1 := Lib.hid ((Own.new w 66 #[.string nm1, .int .i64 wd1, .int .i64 ps1]).alloc (.cells #[.string nm2, .int .i64 wd2, .int .i64 ps2] 66))
 have O2 : Hid (Own ((w.alloc (.cells #[.string nm1, .int .i64 wd1, .int .i64 ps1] 66)).alloc (.cells #[.string nm2, .int .i64 wd2, .int .i64 ps2] 66)) (w.heap.size + 1) 66 #[.string nm2, .int .i64 wd2, .int .i64 ps2]) := by have := Own.new (w.alloc (.cells #[.string nm1, .int .i64 wd1, .int .i64 ps1] 66)) 66 #[.string nm2, .int .i64 wd2, .int .i64 ps2]; rw [World.size_alloc] at this; exact this
 go_enter Tryz.func39, Tryz.ntmps39
 go_wp2_with fail
 go_ret
 exact ⟨rfl, HB.out⟩
theorem same_d_2 {nm1 : ByteArray} {nm2 : ByteArray} {wd1 : Int} {wd2 : Int} {ps1 : Int} {ps2 : Int} (w : World) (q0 : (nm1.toList == nm2.toList) = true) (q1 : (wd1 == wd2) = true) :
 Calls Tryz.prog 39 #[.agg #[.string nm1, .int .i64 wd1, .int .i64 ps1], .agg #[.string nm2, .int .i64 wd2, .int .i64 ps2]] w fun e' w' => e' = .returned (.bool true) ∧ Below w.heap.size w w' := by
 have HB : Hid (Below w.heap.size w ((w.alloc (.cells #[.string nm1, .int .i64 wd1, .int .i64 ps1] 66)).alloc (.cells #[.string nm2, .int .i64 wd2, .int .i64 ps2] 66))) := (((Below.refl _ w).alloc (Nat.le_refl _) _).alloc (by rw [World.size_alloc]; omega) _)
 have O1 := Lib.hid ((Own.new w 66 #[.string nm1, .int .i64 wd1, .int .i64 ps1]).alloc (.cells #[.string nm2, .int .i64 wd2, .int .i64 ps2] 66))
 have O2 : Hid (Own ((w.alloc (.cells #[.string nm1, .int .i64 wd1, .int .i64 ps1] 66)).alloc (.cells #[.string nm2, .int .i64 wd2, .int .i64 ps2] 66)) (w.heap.size + 1) 66 #[.string nm2, .int .i64 wd2, .int .i64 ps2]) := by have := Own.new (w.alloc (.cells #[.string nm1, .int .i64 wd1, .int .i64 ps1] 66)) 66 #[.string nm2, .int .i64 wd2, .int .i64 ps2]; rw [World.size_alloc] at this; exact this
 go_enter Tryz.func39, Tryz.ntmps39
 go_wp2_with fail
 go_ret
 exact ⟨rfl, HB.out⟩
theorem same_s_0 {k1 : Int} {k2 : Int} {nm1 : ByteArray} {nm2 : ByteArray} {ot1 : ByteArray} {ot2 : ByteArray} {ea1 : Option Addr} {en1 ec1 : Nat} {ea2 : Option Addr} {en2 ec2 : Nat} {bda1 : Option Addr} {bdn1 bdc1 : Nat} {bda2 : Option Addr} {bdn2 bdc2 : Nat} {ela1 : Option Addr} {eln1 elc1 : Nat} {ela2 : Option Addr} {eln2 elc2 : Nat} {ps1 : Int} {ps2 : Int} (w : World) (q0 : (k1 == k2) = false) :
 Calls Tryz.prog 80 #[.agg #[.int .u8 k1, .string nm1, .string ot1, .slice ea1 en1 ec1, .slice bda1 bdn1 bdc1, .slice ela1 eln1 elc1, .int .i64 ps1], .agg #[.int .u8 k2, .string nm2, .string ot2, .slice ea2 en2 ec2, .slice bda2 bdn2 bdc2, .slice ela2 eln2 elc2, .int .i64 ps2]] w fun e' w' => e' = .returned (.bool false) ∧ Below w.heap.size w w' := by
 have HB : Hid (Below w.heap.size w ((w.alloc (.cells #[.int .u8 k1, .string nm1, .string ot1, .slice ea1 en1 ec1, .slice bda1 bdn1 bdc1, .slice ela1 eln1 elc1, .int .i64 ps1] 69)).alloc (.cells #[.int .u8 k2, .string nm2, .string ot2, .slice ea2 en2 ec2, .slice bda2 bdn2 bdc2, .slice ela2 eln2 elc2, .int .i64 ps2] 69))) := (((Below.refl _ w).alloc (Nat.le_refl _) _).alloc (by rw [World.size_alloc]; omega) _)
 have O1 := Lib.hid ((Own.new w 69 #[.int .u8 k1, .string nm1, .string ot1, .slice ea1 en1 ec1, .slice bda1 bdn1 bdc1, .slice ela1 eln1 elc1, .int .i64 ps1]).alloc (.cells #[.int .u8 k2, .string nm2, .string ot2, .slice ea2 en2 ec2, .slice bda2 bdn2 bdc2, .slice ela2 eln2 elc2, .int .i64 ps2] 69))
 have O2 : Hid (Own ((w.alloc (.cells #[.int .u8 k1, .string nm1, .string ot1, .slice ea1 en1 ec1, .slice bda1 bdn1 bdc1, .slice ela1 eln1 elc1, .int .i64 ps1] 69)).alloc (.cells #[.int .u8 k2, .string nm2, .string ot2, .slice ea2 en2 ec2, .slice bda2 bdn2 bdc2, .slice ela2 eln2 elc2, .int .i64 ps2] 69)) (w.heap.size + 1) 69 #[.int .u8 k2, .string nm2, .string ot2, .slice ea2 en2 ec2, .slice bda2 bdn2 bdc2, .slice ela2 eln2 elc2, .int .i64 ps2]) := by have := Own.new (w.alloc (.cells #[.int .u8 k1, .string nm1, .string ot1, .slice ea1 en1 ec1, .slice bda1 bdn1 bdc1, .slice ela1 eln1 elc1, .int .i64 ps1] 69)) 69 #[.int .u8 k2, .string nm2, .string ot2, .slice ea2 en2 ec2, .slice bda2 bdn2 bdc2, .slice ela2 eln2 elc2, .int .i64 ps2]; rw [World.size_alloc] at this; exact this
 go_enter Tryz.func80, Tryz.ntmps80
 go_wp2_with fail
 go_ret
 exact ⟨rfl, HB.out⟩
theorem same_s_1 {k1 : Int} {k2 : Int} {nm1 : ByteArray} {nm2 : ByteArray} {ot1 : ByteArray} {ot2 : ByteArray} {ea1 : Option Addr} {en1 ec1 : Nat} {ea2 : Option Addr} {en2 ec2 : Nat} {bda1 : Option Addr} {bdn1 bdc1 : Nat} {bda2 : Option Addr} {bdn2 bdc2 : Nat} {ela1 : Option Addr} {eln1 elc1 : Nat} {ela2 : Option Addr} {eln2 elc2 : Nat} {ps1 : Int} {ps2 : Int} (w : World) (q0 : (k1 == k2) = true) (q1 : (nm1.toList == nm2.toList) = false) :
 Calls Tryz.prog 80 #[.agg #[.int .u8 k1, .string nm1, .string ot1, .slice ea1 en1 ec1, .slice bda1 bdn1 bdc1, .slice ela1 eln1 elc1, .int .i64 ps1], .agg #[.int .u8 k2, .string nm2, .string ot2, .slice ea2 en2 ec2, .slice bda2 bdn2 bdc2, .slice ela2 eln2 elc2, .int .i64 ps2]] w fun e' w' => e' = .returned (.bool false) ∧ Below w.heap.size w w' := by
 have HB : Hid (Below w.heap.size w ((w.alloc (.cells #[.int .u8 k1, .string nm1, .string ot1, .slice ea1 en1 ec1, .slice bda1 bdn1 bdc1, .slice ela1 eln1 elc1, .int .i64 ps1] 69)).alloc (.cells #[.int .u8 k2, .string nm2, .string ot2, .slice ea2 en2 ec2, .slice bda2 bdn2 bdc2, .slice ela2 eln2 elc2, .int .i64 ps2] 69))) := (((Below.refl _ w).alloc (Nat.le_refl _) _).alloc (by rw [World.size_alloc]; omega) _)
 have O1 := Lib.hid ((Own.new w 69 #[.int .u8 k1, .string nm1, .string ot1, .slice ea1 en1 ec1, .slice bda1 bdn1 bdc1, .slice ela1 eln1 elc1, .int .i64 ps1]).alloc (.cells #[.int .u8 k2, .string nm2, .string ot2, .slice ea2 en2 ec2, .slice bda2 bdn2 bdc2, .slice ela2 eln2 elc2, .int .i64 ps2] 69))
 have O2 : Hid (Own ((w.alloc (.cells #[.int .u8 k1, .string nm1, .string ot1, .slice ea1 en1 ec1, .slice bda1 bdn1 bdc1, .slice ela1 eln1 elc1, .int .i64 ps1] 69)).alloc (.cells #[.int .u8 k2, .string nm2, .string ot2, .slice ea2 en2 ec2, .slice bda2 bdn2 bdc2, .slice ela2 eln2 elc2, .int .i64 ps2] 69)) (w.heap.size + 1) 69 #[.int .u8 k2, .string nm2, .string ot2, .slice ea2 en2 ec2, .slice bda2 bdn2 bdc2, .slice ela2 eln2 elc2, .int .i64 ps2]) := by have := Own.new (w.alloc (.cells #[.int .u8 k1, .string nm1, .string ot1, .slice ea1 en1 ec1, .slice bda1 bdn1 bdc1, .slice ela1 eln1 elc1, .int .i64 ps1] 69)) 69 #[.int .u8 k2, .string nm2, .string ot2, .slice ea2 en2 ec2, .slice bda2 bdn2 bdc2, .slice ela2 eln2 elc2, .int .i64 ps2]; rw [World.size_alloc] at this; exact this
 go_enter Tryz.func80, Tryz.ntmps80
 go_wp2_with fail
 go_ret
 exact ⟨rfl, HB.out⟩
theorem same_s_2 {k1 : Int} {k2 : Int} {nm1 : ByteArray} {nm2 : ByteArray} {ot1 : ByteArray} {ot2 : ByteArray} {ea1 : Option Addr} {en1 ec1 : Nat} {ea2 : Option Addr} {en2 ec2 : Nat} {bda1 : Option Addr} {bdn1 bdc1 : Nat} {bda2 : Option Addr} {bdn2 bdc2 : Nat} {ela1 : Option Addr} {eln1 elc1 : Nat} {ela2 : Option Addr} {eln2 elc2 : Nat} {ps1 : Int} {ps2 : Int} (w : World) (q0 : (k1 == k2) = true) (q1 : (nm1.toList == nm2.toList) = true) (q2 : (ot1.toList == ot2.toList) = false) :
 Calls Tryz.prog 80 #[.agg #[.int .u8 k1, .string nm1, .string ot1, .slice ea1 en1 ec1, .slice bda1 bdn1 bdc1, .slice ela1 eln1 elc1, .int .i64 ps1], .agg #[.int .u8 k2, .string nm2, .string ot2, .slice ea2 en2 ec2, .slice bda2 bdn2 bdc2, .slice ela2 eln2 elc2, .int .i64 ps2]] w fun e' w' => e' = .returned (.bool false) ∧ Below w.heap.size w w' := by
 have HB : Hid (Below w.heap.size w ((w.alloc (.cells #[.int .u8 k1, .string nm1, .string ot1, .slice ea1 en1 ec1, .slice bda1 bdn1 bdc1, .slice ela1 eln1 elc1, .int .i64 ps1] 69)).alloc (.cells #[.int .u8 k2, .string nm2, .string ot2, .slice ea2 en2 ec2, .slice bda2 bdn2 bdc2, .slice ela2 eln2 elc2, .int .i64 ps2] 69))) := (((Below.refl _ w).alloc (Nat.le_refl _) _).alloc (by rw [World.size_alloc]; omega) _)
 have O1 := Lib.hid ((Own.new w 69 #[.int .u8 k1, .string nm1, .string ot1, .slice ea1 en1 ec1, .slice bda1 bdn1 bdc1, .slice ela1 eln1 elc1, .int .i64 ps1]).alloc (.cells #[.int .u8 k2, .string nm2, .string ot2, .slice ea2 en2 ec2, .slice bda2 bdn2 bdc2, .slice ela2 eln2 elc2, .int .i64 ps2] 69))
 have O2 : Hid (Own ((w.alloc (.cells #[.int .u8 k1, .string nm1, .string ot1, .slice ea1 en1 ec1, .slice bda1 bdn1 bdc1, .slice ela1 eln1 elc1, .int .i64 ps1] 69)).alloc (.cells #[.int .u8 k2, .string nm2, .string ot2, .slice ea2 en2 ec2, .slice bda2 bdn2 bdc2, .slice ela2 eln2 elc2, .int .i64 ps2] 69)) (w.heap.size + 1) 69 #[.int .u8 k2, .string nm2, .string ot2, .slice ea2 en2 ec2, .slice bda2 bdn2 bdc2, .slice ela2 eln2 elc2, .int .i64 ps2]) := by have := Own.new (w.alloc (.cells #[.int .u8 k1, .string nm1, .string ot1, .slice ea1 en1 ec1, .slice bda1 bdn1 bdc1, .slice ela1 eln1 elc1, .int .i64 ps1] 69)) 69 #[.int .u8 k2, .string nm2, .string ot2, .slice ea2 en2 ec2, .slice bda2 bdn2 bdc2, .slice ela2 eln2 elc2, .int .i64 ps2]; rw [World.size_alloc] at this; exact this
 go_enter Tryz.func80, Tryz.ntmps80
 go_wp2_with fail
 go_ret
 exact ⟨rfl, HB.out⟩
theorem same_s_3 {k1 : Int} {k2 : Int} {nm1 : ByteArray} {nm2 : ByteArray} {ot1 : ByteArray} {ot2 : ByteArray} {ea1 : Option Addr} {en1 ec1 : Nat} {ea2 : Option Addr} {en2 ec2 : Nat} {bda1 : Option Addr} {bdn1 bdc1 : Nat} {bda2 : Option Addr} {bdn2 bdc2 : Nat} {ela1 : Option Addr} {eln1 elc1 : Nat} {ela2 : Option Addr} {eln2 elc2 : Nat} {ps1 : Int} {ps2 : Int} (w : World) (q0 : (k1 == k2) = true) (q1 : (nm1.toList == nm2.toList) = true) (q2 : (ot1.toList == ot2.toList) = true) (C3 : ∀ W, Below w.heap.size w W → Calls Tryz.prog 44 #[.slice ea1 en1 ec1, .slice ea2 en2 ec2, .func (.func 16) #[] #[]] W fun e w' => e = .returned (.bool false) ∧ Below W.heap.size W w') :
 Calls Tryz.prog 80 #[.agg #[.int .u8 k1, .string nm1, .string ot1, .slice ea1 en1 ec1, .slice bda1 bdn1 bdc1, .slice ela1 eln1 elc1, .int .i64 ps1], .agg #[.int .u8 k2, .string nm2, .string ot2, .slice ea2 en2 ec2, .slice bda2 bdn2 bdc2, .slice ela2 eln2 elc2, .int .i64 ps2]] w fun e' w' => e' = .returned (.bool false) ∧ Below w.heap.size w w' := by
 have C3 := Lib.hid C3
 have HB : Hid (Below w.heap.size w ((w.alloc (.cells #[.int .u8 k1, .string nm1, .string ot1, .slice ea1 en1 ec1, .slice bda1 bdn1 bdc1, .slice ela1 eln1 elc1, .int .i64 ps1] 69)).alloc (.cells #[.int .u8 k2, .string nm2, .string ot2, .slice ea2 en2 ec2, .slice bda2 bdn2 bdc2, .slice ela2 eln2 elc2, .int .i64 ps2] 69))) := (((Below.refl _ w).alloc (Nat.le_refl _) _).alloc (by rw [World.size_alloc]; omega) _)
 have O1 := Lib.hid ((Own.new w 69 #[.int .u8 k1, .string nm1, .string ot1, .slice ea1 en1 ec1, .slice bda1 bdn1 bdc1, .slice ela1 eln1 elc1, .int .i64 ps1]).alloc (.cells #[.int .u8 k2, .string nm2, .string ot2, .slice ea2 en2 ec2, .slice bda2 bdn2 bdc2, .slice ela2 eln2 elc2, .int .i64 ps2] 69))
 have O2 : Hid (Own ((w.alloc (.cells #[.int .u8 k1, .string nm1, .string ot1, .slice ea1 en1 ec1, .slice bda1 bdn1 bdc1, .slice ela1 eln1 elc1, .int .i64 ps1] 69)).alloc (.cells #[.int .u8 k2, .string nm2, .string ot2, .slice ea2 en2 ec2, .slice bda2 bdn2 bdc2, .slice ela2 eln2 elc2, .int .i64 ps2] 69)) (w.heap.size + 1) 69 #[.int .u8 k2, .string nm2, .string ot2, .slice ea2 en2 ec2, .slice bda2 bdn2 bdc2, .slice ela2 eln2 elc2, .int .i64 ps2]) := by have := Own.new (w.alloc (.cells #[.int .u8 k1, .string nm1, .string ot1, .slice ea1 en1 ec1, .slice bda1 bdn1 bdc1, .slice ela1 eln1 elc1, .int .i64 ps1] 69)) 69 #[.int .u8 k2, .string nm2, .string ot2, .slice ea2 en2 ec2, .slice bda2 bdn2 bdc2, .slice ela2 eln2 elc2, .int .i64 ps2]; rw [World.size_alloc] at this; exact this
 go_enter Tryz.func80, Tryz.ntmps80
 go_wp2_with fail
 go_at_call 44
 refine (C3.out _ HB.out).mono ?_
 rintro e w3 ⟨rfl, hb3⟩
 have O1 := Lib.hid (O1.out.below hb3)
 have O2 := Lib.hid (O2.out.below hb3)
 have HB := Lib.hid (HB.out.trans (hb3.mono HB.out.size))
 clear hb3
 go_wp2_with fail
 go_ret
 exact ⟨rfl, HB.out⟩
theorem same_s_4 {k1 : Int} {k2 : Int} {nm1 : ByteArray} {nm2 : ByteArray} {ot1 : ByteArray} {ot2 : ByteArray} {ea1 : Option Addr} {en1 ec1 : Nat} {ea2 : Option Addr} {en2 ec2 : Nat} {bda1 : Option Addr} {bdn1 bdc1 : Nat} {bda2 : Option Addr} {bdn2 bdc2 : Nat} {ela1 : Option Addr} {eln1 elc1 : Nat} {ela2 : Option Addr} {eln2 elc2 : Nat} {ps1 : Int} {ps2 : Int} (w : World) (q0 : (k1 == k2) = true) (q1 : (nm1.toList == nm2.toList) = true) (q2 : (ot1.toList == ot2.toList) = true) (C3 : ∀ W, Below w.heap.size w W → Calls Tryz.prog 44 #[.slice ea1 en1 ec1, .slice ea2 en2 ec2, .func (.func 16) #[] #[]] W fun e w' => e = .returned (.bool true) ∧ Below W.heap.size W w') (C4 : ∀ W, Below w.heap.size w W → Calls Tryz.prog 79 #[.slice bda1 bdn1 bdc1, .slice bda2 bdn2 bdc2, .func (.func 80) #[] #[]] W fun e w' => e = .returned (.bool false) ∧ Below W.heap.size W w') :
 Calls Tryz.prog 80 #[.agg #[.int .u8 k1, .string nm1, .string ot1, .slice ea1 en1 ec1, .slice bda1 bdn1 bdc1, .slice ela1 eln1 elc1, .int .i64 ps1], .agg #[.int .u8 k2, .string nm2, .string ot2, .slice ea2 en2 ec2, .slice bda2 bdn2 bdc2, .slice ela2 eln2 elc2, .int .i64 ps2]] w fun e' w' => e' = .returned (.bool false) ∧ Below w.heap.size w w' := by
 have C3 := Lib.hid C3
 have C4 := Lib.hid C4
 have HB : Hid (Below w.heap.size w ((w.alloc (.cells #[.int .u8 k1, .string nm1, .string ot1, .slice ea1 en1 ec1, .slice bda1 bdn1 bdc1, .slice ela1 eln1 elc1, .int .i64 ps1] 69)).alloc (.cells #[.int .u8 k2, .string nm2, .string ot2, .slice ea2 en2 ec2, .slice bda2 bdn2 bdc2, .slice ela2 eln2 elc2, .int .i64 ps2] 69))) := (((Below.refl _ w).alloc (Nat.le_refl _) _).alloc (by rw [World.size_alloc]; omega) _)
 have O1 := Lib.hid ((Own.new w 69 #[.int .u8 k1, .string nm1, .string ot1, .slice ea1 en1 ec1, .slice bda1 bdn1 bdc1, .slice ela1 eln1 elc1, .int .i64 ps1]).alloc (.cells #[.int .u8 k2, .string nm2, .string ot2, .slice ea2 en2 ec2, .slice bda2 bdn2 bdc2, .slice ela2 eln2 elc2, .int .i64 ps2] 69))
 have O2 : Hid (Own ((w.alloc (.cells #[.int .u8 k1, .string nm1, .string ot1, .slice ea1 en1 ec1, .slice bda1 bdn1 bdc1, .slice ela1 eln1 elc1, .int .i64 ps1] 69)).alloc (.cells #[.int .u8 k2, .string nm2, .string ot2, .slice ea2 en2 ec2, .slice bda2 bdn2 bdc2, .slice ela2 eln2 elc2, .int .i64 ps2] 69)) (w.heap.size + 1) 69 #[.int .u8 k2, .string nm2, .string ot2, .slice ea2 en2 ec2, .slice bda2 bdn2 bdc2, .slice ela2 eln2 elc2, .int .i64 ps2]) := by have := Own.new (w.alloc (.cells #[.int .u8 k1, .string nm1, .string ot1, .slice ea1 en1 ec1, .slice bda1 bdn1 bdc1, .slice ela1 eln1 elc1, .int .i64 ps1] 69)) 69 #[.int .u8 k2, .string nm2, .string ot2, .slice ea2 en2 ec2, .slice bda2 bdn2 bdc2, .slice ela2 eln2 elc2, .int .i64 ps2]; rw [World.size_alloc] at this; exact this
 go_enter Tryz.func80, Tryz.ntmps80
 go_wp2_with fail
 go_at_call 44
 refine (C3.out _ HB.out).mono ?_
 rintro e w3 ⟨rfl, hb3⟩
 have O1 := Lib.hid (O1.out.below hb3)
 have O2 := Lib.hid (O2.out.below hb3)
 have HB := Lib.hid (HB.out.trans (hb3.mono HB.out.size))
 clear hb3
 have x0_41 : w3.cell? ⟨w.heap.size, 4, none⟩ = some (.slice bda1 bdn1 bdc1) := by rw [cell_of_row _ _ 4 _ _ _ O1.out]; rfl
 have x0_42 : w3.cell? ⟨w.heap.size + 1, 4, none⟩ = some (.slice bda2 bdn2 bdc2) := by rw [cell_of_row _ _ 4 _ _ _ O2.out]; rfl
 go_wp2_with fail
 go_at_call 79
 refine (C4.out _ HB.out).mono ?_
 rintro e w4 ⟨rfl, hb4⟩
 have O1 := Lib.hid (O1.out.below hb4)
 have O2 := Lib.hid (O2.out.below hb4)
 have HB := Lib.hid (HB.out.trans (hb4.mono HB.out.size))
 clear hb4
 go_wp2_with fail
 go_ret
 exact ⟨rfl, HB.out⟩
theorem same_s_5 {k1 : Int} {k2 : Int} {nm1 : ByteArray} {nm2 : ByteArray} {ot1 : ByteArray} {ot2 : ByteArray} {ea1 : Option Addr} {en1 ec1 : Nat} {ea2 : Option Addr} {en2 ec2 : Nat} {bda1 : Option Addr} {bdn1 bdc1 : Nat} {bda2 : Option Addr} {bdn2 bdc2 : Nat} {ela1 : Option Addr} {eln1 elc1 : Nat} {ela2 : Option Addr} {eln2 elc2 : Nat} {ps1 : Int} {ps2 : Int} (w : World) (q0 : (k1 == k2) = true) (q1 : (nm1.toList == nm2.toList) = true) (q2 : (ot1.toList == ot2.toList) = true) (C3 : ∀ W, Below w.heap.size w W → Calls Tryz.prog 44 #[.slice ea1 en1 ec1, .slice ea2 en2 ec2, .func (.func 16) #[] #[]] W fun e w' => e = .returned (.bool true) ∧ Below W.heap.size W w') (C4 : ∀ W, Below w.heap.size w W → Calls Tryz.prog 79 #[.slice bda1 bdn1 bdc1, .slice bda2 bdn2 bdc2, .func (.func 80) #[] #[]] W fun e w' => e = .returned (.bool true) ∧ Below W.heap.size W w') (C5 : ∀ W, Below w.heap.size w W → Calls Tryz.prog 79 #[.slice ela1 eln1 elc1, .slice ela2 eln2 elc2, .func (.func 80) #[] #[]] W fun e w' => e = .returned (.bool false) ∧ Below W.heap.size W w') :
 Calls Tryz.prog 80 #[.agg #[.int .u8 k1, .string nm1, .string ot1, .slice ea1 en1 ec1, .slice bda1 bdn1 bdc1, .slice ela1 eln1 elc1, .int .i64 ps1], .agg #[.int .u8 k2, .string nm2, .string ot2, .slice ea2 en2 ec2, .slice bda2 bdn2 bdc2, .slice ela2 eln2 elc2, .int .i64 ps2]] w fun e' w' => e' = .returned (.bool false) ∧ Below w.heap.size w w' := by
 have C3 := Lib.hid C3
 have C4 := Lib.hid C4
 have C5 := Lib.hid C5
 have HB : Hid (Below w.heap.size w ((w.alloc (.cells #[.int .u8 k1, .string nm1, .string ot1, .slice ea1 en1 ec1, .slice bda1 bdn1 bdc1, .slice ela1 eln1 elc1, .int .i64 ps1] 69)).alloc (.cells #[.int .u8 k2, .string nm2, .string ot2, .slice ea2 en2 ec2, .slice bda2 bdn2 bdc2, .slice ela2 eln2 elc2, .int .i64 ps2] 69))) := (((Below.refl _ w).alloc (Nat.le_refl _) _).alloc (by rw [World.size_alloc]; omega) _)
 have O1 := Lib.hid ((Own.new w 69 #[.int .u8 k1, .string nm1, .string ot1, .slice ea1 en1 ec1, .slice bda1 bdn1 bdc1, .slice ela1 eln1 elc1, .int .i64 ps1]).alloc (.cells #[.int .u8 k2, .string nm2, .string ot2, .slice ea2 en2 ec2, .slice bda2 bdn2 bdc2, .slice ela2 eln2 elc2, .int .i64 ps2] 69))
 have O2 : Hid (Own ((w.alloc (.cells #[.int .u8 k1, .string nm1, .string ot1, .slice ea1 en1 ec1, .slice bda1 bdn1 bdc1, .slice ela1 eln1 elc1, .int .i64 ps1] 69)).alloc (.cells #[.int .u8 k2, .string nm2, .string ot2, .slice ea2 en2 ec2, .slice bda2 bdn2 bdc2, .slice ela2 eln2 elc2, .int .i64 ps2] 69)) (w.heap.size + 1) 69 #[.int .u8 k2, .string nm2, .string ot2, .slice ea2 en2 ec2, .slice bda2 bdn2 bdc2, .slice ela2 eln2 elc2, .int .i64 ps2]) := by have := Own.new (w.alloc (.cells #[.int .u8 k1, .string nm1, .string ot1, .slice ea1 en1 ec1, .slice bda1 bdn1 bdc1, .slice ela1 eln1 elc1, .int .i64 ps1] 69)) 69 #[.int .u8 k2, .string nm2, .string ot2, .slice ea2 en2 ec2, .slice bda2 bdn2 bdc2, .slice ela2 eln2 elc2, .int .i64 ps2]; rw [World.size_alloc] at this; exact this
 go_enter Tryz.func80, Tryz.ntmps80
 go_wp2_with fail
 go_at_call 44
 refine (C3.out _ HB.out).mono ?_
 rintro e w3 ⟨rfl, hb3⟩
 have O1 := Lib.hid (O1.out.below hb3)
 have O2 := Lib.hid (O2.out.below hb3)
 have HB := Lib.hid (HB.out.trans (hb3.mono HB.out.size))
 clear hb3
 have x0_41 : w3.cell? ⟨w.heap.size, 4, none⟩ = some (.slice bda1 bdn1 bdc1) := by rw [cell_of_row _ _ 4 _ _ _ O1.out]; rfl
 have x0_42 : w3.cell? ⟨w.heap.size + 1, 4, none⟩ = some (.slice bda2 bdn2 bdc2) := by rw [cell_of_row _ _ 4 _ _ _ O2.out]; rfl
 have x0_51 : w3.cell? ⟨w.heap.size, 5, none⟩ = some (.slice ela1 eln1 elc1) := by rw [cell_of_row _ _ 5 _ _ _ O1.out]; rfl
 have x0_52 : w3.cell? ⟨w.heap.size + 1, 5, none⟩ = some (.slice ela2 eln2 elc2) := by rw [cell_of_row _ _ 5 _ _ _ O2.out]; rfl
 go_wp2_with fail
 go_at_call 79
 refine (C4.out _ HB.out).mono ?_
 rintro e w4 ⟨rfl, hb4⟩
 have O1 := Lib.hid (O1.out.below hb4)
 have O2 := Lib.hid (O2.out.below hb4)
 have HB := Lib.hid (HB.out.trans (hb4.mono HB.out.size))
 clear hb4
 have x1_51 : w4.cell? ⟨w.heap.size, 5, none⟩ = some (.slice ela1 eln1 elc1) := by rw [cell_of_row _ _ 5 _ _ _ O1.out]; rfl
 have x1_52 : w4.cell? ⟨w.heap.size + 1, 5, none⟩ = some (.slice ela2 eln2 elc2) := by rw [cell_of_row _ _ 5 _ _ _ O2.out]; rfl
 go_wp2_with fail
 go_at_call 79
 refine (C5.out _ HB.out).mono ?_
 rintro e w5 ⟨rfl, hb5⟩
 have O1 := Lib.hid (O1.out.below hb5)
 have O2 := Lib.hid (O2.out.below hb5)
 have HB := Lib.hid (HB.out.trans (hb5.mono HB.out.size))
 clear hb5
 go_wp2_with fail
 go_ret
 exact ⟨rfl, HB.out⟩
theorem same_s_6 {k1 : Int} {k2 : Int} {nm1 : ByteArray} {nm2 : ByteArray} {ot1 : ByteArray} {ot2 : ByteArray} {ea1 : Option Addr} {en1 ec1 : Nat} {ea2 : Option Addr} {en2 ec2 : Nat} {bda1 : Option Addr} {bdn1 bdc1 : Nat} {bda2 : Option Addr} {bdn2 bdc2 : Nat} {ela1 : Option Addr} {eln1 elc1 : Nat} {ela2 : Option Addr} {eln2 elc2 : Nat} {ps1 : Int} {ps2 : Int} (w : World) (q0 : (k1 == k2) = true) (q1 : (nm1.toList == nm2.toList) = true) (q2 : (ot1.toList == ot2.toList) = true) (C3 : ∀ W, Below w.heap.size w W → Calls Tryz.prog 44 #[.slice ea1 en1 ec1, .slice ea2 en2 ec2, .func (.func 16) #[] #[]] W fun e w' => e = .returned (.bool true) ∧ Below W.heap.size W w') (C4 : ∀ W, Below w.heap.size w W → Calls Tryz.prog 79 #[.slice bda1 bdn1 bdc1, .slice bda2 bdn2 bdc2, .func (.func 80) #[] #[]] W fun e w' => e = .returned (.bool true) ∧ Below W.heap.size W w') (C5 : ∀ W, Below w.heap.size w W → Calls Tryz.prog 79 #[.slice ela1 eln1 elc1, .slice ela2 eln2 elc2, .func (.func 80) #[] #[]] W fun e w' => e = .returned (.bool true) ∧ Below W.heap.size W w') :
 Calls Tryz.prog 80 #[.agg #[.int .u8 k1, .string nm1, .string ot1, .slice ea1 en1 ec1, .slice bda1 bdn1 bdc1, .slice ela1 eln1 elc1, .int .i64 ps1], .agg #[.int .u8 k2, .string nm2, .string ot2, .slice ea2 en2 ec2, .slice bda2 bdn2 bdc2, .slice ela2 eln2 elc2, .int .i64 ps2]] w fun e' w' => e' = .returned (.bool true) ∧ Below w.heap.size w w' := by
 have C3 := Lib.hid C3
 have C4 := Lib.hid C4
 have C5 := Lib.hid C5
 have HB : Hid (Below w.heap.size w ((w.alloc (.cells #[.int .u8 k1, .string nm1, .string ot1, .slice ea1 en1 ec1, .slice bda1 bdn1 bdc1, .slice ela1 eln1 elc1, .int .i64 ps1] 69)).alloc (.cells #[.int .u8 k2, .string nm2, .string ot2, .slice ea2 en2 ec2, .slice bda2 bdn2 bdc2, .slice ela2 eln2 elc2, .int .i64 ps2] 69))) := (((Below.refl _ w).alloc (Nat.le_refl _) _).alloc (by rw [World.size_alloc]; omega) _)
 have O1 := Lib.hid ((Own.new w 69 #[.int .u8 k1, .string nm1, .string ot1, .slice ea1 en1 ec1, .slice bda1 bdn1 bdc1, .slice ela1 eln1 elc1, .int .i64 ps1]).alloc (.cells #[.int .u8 k2, .string nm2, .string ot2, .slice ea2 en2 ec2, .slice bda2 bdn2 bdc2, .slice ela2 eln2 elc2, .int .i64 ps2] 69))
 have O2 : Hid (Own ((w.alloc (.cells #[.int .u8 k1, .string nm1, .string ot1, .slice ea1 en1 ec1, .slice bda1 bdn1 bdc1, .slice ela1 eln1 elc1, .int .i64 ps1] 69)).alloc (.cells #[.int .u8 k2, .string nm2, .string ot2, .slice ea2 en2 ec2, .slice bda2 bdn2 bdc2, .slice ela2 eln2 elc2, .int .i64 ps2] 69)) (w.heap.size + 1) 69 #[.int .u8 k2, .string nm2, .string ot2, .slice ea2 en2 ec2, .slice bda2 bdn2 bdc2, .slice ela2 eln2 elc2, .int .i64 ps2]) := by have := Own.new (w.alloc (.cells #[.int .u8 k1, .string nm1, .string ot1, .slice ea1 en1 ec1, .slice bda1 bdn1 bdc1, .slice ela1 eln1 elc1, .int .i64 ps1] 69)) 69 #[.int .u8 k2, .string nm2, .string ot2, .slice ea2 en2 ec2, .slice bda2 bdn2 bdc2, .slice ela2 eln2 elc2, .int .i64 ps2]; rw [World.size_alloc] at this; exact this
 go_enter Tryz.func80, Tryz.ntmps80
 go_wp2_with fail
 go_at_call 44
 refine (C3.out _ HB.out).mono ?_
 rintro e w3 ⟨rfl, hb3⟩
 have O1 := Lib.hid (O1.out.below hb3)
 have O2 := Lib.hid (O2.out.below hb3)
 have HB := Lib.hid (HB.out.trans (hb3.mono HB.out.size))
 clear hb3
 have x0_41 : w3.cell? ⟨w.heap.size, 4, none⟩ = some (.slice bda1 bdn1 bdc1) := by rw [cell_of_row _ _ 4 _ _ _ O1.out]; rfl
 have x0_42 : w3.cell? ⟨w.heap.size + 1, 4, none⟩ = some (.slice bda2 bdn2 bdc2) := by rw [cell_of_row _ _ 4 _ _ _ O2.out]; rfl
 have x0_51 : w3.cell? ⟨w.heap.size, 5, none⟩ = some (.slice ela1 eln1 elc1) := by rw [cell_of_row _ _ 5 _ _ _ O1.out]; rfl
 have x0_52 : w3.cell? ⟨w.heap.size + 1, 5, none⟩ = some (.slice ela2 eln2 elc2) := by rw [cell_of_row _ _ 5 _ _ _ O2.out]; rfl
 go_wp2_with fail
 go_at_call 79
 refine (C4.out _ HB.out).mono ?_
 rintro e w4 ⟨rfl, hb4⟩
 have O1 := Lib.hid (O1.out.below hb4)
 have O2 := Lib.hid (O2.out.below hb4)
 have HB := Lib.hid (HB.out.trans (hb4.mono HB.out.size))
 clear hb4
 have x1_51 : w4.cell? ⟨w.heap.size, 5, none⟩ = some (.slice ela1 eln1 elc1) := by rw [cell_of_row _ _ 5 _ _ _ O1.out]; rfl
 have x1_52 : w4.cell? ⟨w.heap.size + 1, 5, none⟩ = some (.slice ela2 eln2 elc2) := by rw [cell_of_row _ _ 5 _ _ _ O2.out]; rfl
 go_wp2_with fail
 go_at_call 79
 refine (C5.out _ HB.out).mono ?_
 rintro e w5 ⟨rfl, hb5⟩
 have O1 := Lib.hid (O1.out.below hb5)
 have O2 := Lib.hid (O2.out.below hb5)
 have HB := Lib.hid (HB.out.trans (hb5.mono HB.out.size))
 clear hb5
 go_wp2_with fail
 go_ret
 exact ⟨rfl, HB.out⟩
theorem same_t_0 {nm1 : ByteArray} {nm2 : ByteArray} {loa1 : Option Addr} {lon1 loc1 : Nat} {loa2 : Option Addr} {lon2 loc2 : Nat} {bda1 : Option Addr} {bdn1 bdc1 : Nat} {bda2 : Option Addr} {bdn2 bdc2 : Nat} {ps1 : Int} {ps2 : Int} (w : World) (q0 : (nm1.toList == nm2.toList) = false) :
 Calls Tryz.prog 41 #[.agg #[.string nm1, .slice loa1 lon1 loc1, .slice bda1 bdn1 bdc1, .int .i64 ps1], .agg #[.string nm2, .slice loa2 lon2 loc2, .slice bda2 bdn2 bdc2, .int .i64 ps2]] w fun e' w' => e' = .returned (.bool false) ∧ Below w.heap.size w w' := by
 have HB : Hid (Below w.heap.size w ((w.alloc (.cells #[.string nm1, .slice loa1 lon1 loc1, .slice bda1 bdn1 bdc1, .int .i64 ps1] 64)).alloc (.cells #[.string nm2, .slice loa2 lon2 loc2, .slice bda2 bdn2 bdc2, .int .i64 ps2] 64))) := (((Below.refl _ w).alloc (Nat.le_refl _) _).alloc (by rw [World.size_alloc]; omega) _)
 have O1 := Lib.hid ((Own.new w 64 #[.string nm1, .slice loa1 lon1 loc1, .slice bda1 bdn1 bdc1, .int .i64 ps1]).alloc (.cells #[.string nm2, .slice loa2 lon2 loc2, .slice bda2 bdn2 bdc2, .int .i64 ps2] 64))
 have O2 : Hid (Own ((w.alloc (.cells #[.string nm1, .slice loa1 lon1 loc1, .slice bda1 bdn1 bdc1, .int .i64 ps1] 64)).alloc (.cells #[.string nm2, .slice loa2 lon2 loc2, .slice bda2 bdn2 bdc2, .int .i64 ps2] 64)) (w.heap.size + 1) 64 #[.string nm2, .slice loa2 lon2 loc2, .slice bda2 bdn2 bdc2, .int .i64 ps2]) := by have := Own.new (w.alloc (.cells #[.string nm1, .slice loa1 lon1 loc1, .slice bda1 bdn1 bdc1, .int .i64 ps1] 64)) 64 #[.string nm2, .slice loa2 lon2 loc2, .slice bda2 bdn2 bdc2, .int .i64 ps2]; rw [World.size_alloc] at this; exact this
 go_enter Tryz.func41, Tryz.ntmps41
 go_wp2_with fail
 go_ret
 exact ⟨rfl, HB.out⟩
theorem same_t_1 {nm1 : ByteArray} {nm2 : ByteArray} {loa1 : Option Addr} {lon1 loc1 : Nat} {loa2 : Option Addr} {lon2 loc2 : Nat} {bda1 : Option Addr} {bdn1 bdc1 : Nat} {bda2 : Option Addr} {bdn2 bdc2 : Nat} {ps1 : Int} {ps2 : Int} (w : World) (q0 : (nm1.toList == nm2.toList) = true) (C1 : ∀ W, Below w.heap.size w W → Calls Tryz.prog 38 #[.slice loa1 lon1 loc1, .slice loa2 lon2 loc2, .func (.func 39) #[] #[]] W fun e w' => e = .returned (.bool false) ∧ Below W.heap.size W w') :
 Calls Tryz.prog 41 #[.agg #[.string nm1, .slice loa1 lon1 loc1, .slice bda1 bdn1 bdc1, .int .i64 ps1], .agg #[.string nm2, .slice loa2 lon2 loc2, .slice bda2 bdn2 bdc2, .int .i64 ps2]] w fun e' w' => e' = .returned (.bool false) ∧ Below w.heap.size w w' := by
 have C1 := Lib.hid C1
 have HB : Hid (Below w.heap.size w ((w.alloc (.cells #[.string nm1, .slice loa1 lon1 loc1, .slice bda1 bdn1 bdc1, .int .i64 ps1] 64)).alloc (.cells #[.string nm2, .slice loa2 lon2 loc2, .slice bda2 bdn2 bdc2, .int .i64 ps2] 64))) := (((Below.refl _ w).alloc (Nat.le_refl _) _).alloc (by rw [World.size_alloc]; omega) _)
 have O1 := Lib.hid ((Own.new w 64 #[.string nm1, .slice loa1 lon1 loc1, .slice bda1 bdn1 bdc1, .int .i64 ps1]).alloc (.cells #[.string nm2, .slice loa2 lon2 loc2, .slice bda2 bdn2 bdc2, .int .i64 ps2] 64))
 have O2 : Hid (Own ((w.alloc (.cells #[.string nm1, .slice loa1 lon1 loc1, .slice bda1 bdn1 bdc1, .int .i64 ps1] 64)).alloc (.cells #[.string nm2, .slice loa2 lon2 loc2, .slice bda2 bdn2 bdc2, .int .i64 ps2] 64)) (w.heap.size + 1) 64 #[.string nm2, .slice loa2 lon2 loc2, .slice bda2 bdn2 bdc2, .int .i64 ps2]) := by have := Own.new (w.alloc (.cells #[.string nm1, .slice loa1 lon1 loc1, .slice bda1 bdn1 bdc1, .int .i64 ps1] 64)) 64 #[.string nm2, .slice loa2 lon2 loc2, .slice bda2 bdn2 bdc2, .int .i64 ps2]; rw [World.size_alloc] at this; exact this
 go_enter Tryz.func41, Tryz.ntmps41
 go_wp2_with fail
 go_at_call 38
 refine (C1.out _ HB.out).mono ?_
 rintro e w3 ⟨rfl, hb3⟩
 have O1 := Lib.hid (O1.out.below hb3)
 have O2 := Lib.hid (O2.out.below hb3)
 have HB := Lib.hid (HB.out.trans (hb3.mono HB.out.size))
 clear hb3
 go_wp2_with fail
 go_ret
 exact ⟨rfl, HB.out⟩
theorem same_t_2 {nm1 : ByteArray} {nm2 : ByteArray} {loa1 : Option Addr} {lon1 loc1 : Nat} {loa2 : Option Addr} {lon2 loc2 : Nat} {bda1 : Option Addr} {bdn1 bdc1 : Nat} {bda2 : Option Addr} {bdn2 bdc2 : Nat} {ps1 : Int} {ps2 : Int} (w : World) (q0 : (nm1.toList == nm2.toList) = true) (C1 : ∀ W, Below w.heap.size w W → Calls Tryz.prog 38 #[.slice loa1 lon1 loc1, .slice loa2 lon2 loc2, .func (.func 39) #[] #[]] W fun e w' => e = .returned (.bool true) ∧ Below W.heap.size W w') (C2 : ∀ W, Below w.heap.size w W → Calls Tryz.prog 79 #[.slice bda1 bdn1 bdc1, .slice bda2 bdn2 bdc2, .func (.func 80) #[] #[]] W fun e w' => e = .returned (.bool false) ∧ Below W.heap.size W w') :
 Calls Tryz.prog 41 #[.agg #[.string nm1, .slice loa1 lon1 loc1, .slice bda1 bdn1 bdc1, .int .i64 ps1], .agg #[.string nm2, .slice loa2 lon2 loc2, .slice bda2 bdn2 bdc2, .int .i64 ps2]] w fun e' w' => e' = .returned (.bool false) ∧ Below w.heap.size w w' := by
 have C1 := Lib.hid C1
 have C2 := Lib.hid C2
 have HB : Hid (Below w.heap.size w ((w.alloc (.cells #[.string nm1, .slice loa1 lon1 loc1, .slice bda1 bdn1 bdc1, .int .i64 ps1] 64)).alloc (.cells #[.string nm2, .slice loa2 lon2 loc2, .slice bda2 bdn2 bdc2, .int .i64 ps2] 64))) := (((Below.refl _ w).alloc (Nat.le_refl _) _).alloc (by rw [World.size_alloc]; omega) _)
 have O1 := Lib.hid ((Own.new w 64 #[.string nm1, .slice loa1 lon1 loc1, .slice bda1 bdn1 bdc1, .int .i64 ps1]).alloc (.cells #[.string nm2, .slice loa2 lon2 loc2, .slice bda2 bdn2 bdc2, .int .i64 ps2] 64))
 have O2 : Hid (Own ((w.alloc (.cells #[.string nm1, .slice loa1 lon1 loc1, .slice bda1 bdn1 bdc1, .int .i64 ps1] 64)).alloc (.cells #[.string nm2, .slice loa2 lon2 loc2, .slice bda2 bdn2 bdc2, .int .i64 ps2] 64)) (w.heap.size + 1) 64 #[.string nm2, .slice loa2 lon2 loc2, .slice bda2 bdn2 bdc2, .int .i64 ps2]) := by have := Own.new (w.alloc (.cells #[.string nm1, .slice loa1 lon1 loc1, .slice bda1 bdn1 bdc1, .int .i64 ps1] 64)) 64 #[.string nm2, .slice loa2 lon2 loc2, .slice bda2 bdn2 bdc2, .int .i64 ps2]; rw [World.size_alloc] at this; exact this
 go_enter Tryz.func41, Tryz.ntmps41
 go_wp2_with fail
 go_at_call 38
 refine (C1.out _ HB.out).mono ?_
 rintro e w3 ⟨rfl, hb3⟩
 have O1 := Lib.hid (O1.out.below hb3)
 have O2 := Lib.hid (O2.out.below hb3)
 have HB := Lib.hid (HB.out.trans (hb3.mono HB.out.size))
 clear hb3
 have x0_21 : w3.cell? ⟨w.heap.size, 2, none⟩ = some (.slice bda1 bdn1 bdc1) := by rw [cell_of_row _ _ 2 _ _ _ O1.out]; rfl
 have x0_22 : w3.cell? ⟨w.heap.size + 1, 2, none⟩ = some (.slice bda2 bdn2 bdc2) := by rw [cell_of_row _ _ 2 _ _ _ O2.out]; rfl
 go_wp2_with fail
 go_at_call 79
 refine (C2.out _ HB.out).mono ?_
 rintro e w4 ⟨rfl, hb4⟩
 have O1 := Lib.hid (O1.out.below hb4)
 have O2 := Lib.hid (O2.out.below hb4)
 have HB := Lib.hid (HB.out.trans (hb4.mono HB.out.size))
 clear hb4
 go_wp2_with fail
 go_ret
 exact ⟨rfl, HB.out⟩
theorem same_t_3 {nm1 : ByteArray} {nm2 : ByteArray} {loa1 : Option Addr} {lon1 loc1 : Nat} {loa2 : Option Addr} {lon2 loc2 : Nat} {bda1 : Option Addr} {bdn1 bdc1 : Nat} {bda2 : Option Addr} {bdn2 bdc2 : Nat} {ps1 : Int} {ps2 : Int} (w : World) (q0 : (nm1.toList == nm2.toList) = true) (C1 : ∀ W, Below w.heap.size w W → Calls Tryz.prog 38 #[.slice loa1 lon1 loc1, .slice loa2 lon2 loc2, .func (.func 39) #[] #[]] W fun e w' => e = .returned (.bool true) ∧ Below W.heap.size W w') (C2 : ∀ W, Below w.heap.size w W → Calls Tryz.prog 79 #[.slice bda1 bdn1 bdc1, .slice bda2 bdn2 bdc2, .func (.func 80) #[] #[]] W fun e w' => e = .returned (.bool true) ∧ Below W.heap.size W w') :
 Calls Tryz.prog 41 #[.agg #[.string nm1, .slice loa1 lon1 loc1, .slice bda1 bdn1 bdc1, .int .i64 ps1], .agg #[.string nm2, .slice loa2 lon2 loc2, .slice bda2 bdn2 bdc2, .int .i64 ps2]] w fun e' w' => e' = .returned (.bool true) ∧ Below w.heap.size w w' := by
 have C1 := Lib.hid C1
 have C2 := Lib.hid C2
 have HB : Hid (Below w.heap.size w ((w.alloc (.cells #[.string nm1, .slice loa1 lon1 loc1, .slice bda1 bdn1 bdc1, .int .i64 ps1] 64)).alloc (.cells #[.string nm2, .slice loa2 lon2 loc2, .slice bda2 bdn2 bdc2, .int .i64 ps2] 64))) := (((Below.refl _ w).alloc (Nat.le_refl _) _).alloc (by rw [World.size_alloc]; omega) _)
 have O1 := Lib.hid ((Own.new w 64 #[.string nm1, .slice loa1 lon1 loc1, .slice bda1 bdn1 bdc1, .int .i64 ps1]).alloc (.cells #[.string nm2, .slice loa2 lon2 loc2, .slice bda2 bdn2 bdc2, .int .i64 ps2] 64))
 have O2 : Hid (Own ((w.alloc (.cells #[.string nm1, .slice loa1 lon1 loc1, .slice bda1 bdn1 bdc1, .int .i64 ps1] 64)).alloc (.cells #[.string nm2, .slice loa2 lon2 loc2, .slice bda2 bdn2 bdc2, .int .i64 ps2] 64)) (w.heap.size + 1) 64 #[.string nm2, .slice loa2 lon2 loc2, .slice bda2 bdn2 bdc2, .int .i64 ps2]) := by have := Own.new (w.alloc (.cells #[.string nm1, .slice loa1 lon1 loc1, .slice bda1 bdn1 bdc1, .int .i64 ps1] 64)) 64 #[.string nm2, .slice loa2 lon2 loc2, .slice bda2 bdn2 bdc2, .int .i64 ps2]; rw [World.size_alloc] at this; exact this
 go_enter Tryz.func41, Tryz.ntmps41
 go_wp2_with fail
 go_at_call 38
 refine (C1.out _ HB.out).mono ?_
 rintro e w3 ⟨rfl, hb3⟩
 have O1 := Lib.hid (O1.out.below hb3)
 have O2 := Lib.hid (O2.out.below hb3)
 have HB := Lib.hid (HB.out.trans (hb3.mono HB.out.size))
 clear hb3
 have x0_21 : w3.cell? ⟨w.heap.size, 2, none⟩ = some (.slice bda1 bdn1 bdc1) := by rw [cell_of_row _ _ 2 _ _ _ O1.out]; rfl
 have x0_22 : w3.cell? ⟨w.heap.size + 1, 2, none⟩ = some (.slice bda2 bdn2 bdc2) := by rw [cell_of_row _ _ 2 _ _ _ O2.out]; rfl
 go_wp2_with fail
 go_at_call 79
 refine (C2.out _ HB.out).mono ?_
 rintro e w4 ⟨rfl, hb4⟩
 have O1 := Lib.hid (O1.out.below hb4)
 have O2 := Lib.hid (O2.out.below hb4)
 have HB := Lib.hid (HB.out.trans (hb4.mono HB.out.size))
 clear hb4
 go_wp2_with fail
 go_ret
 exact ⟨rfl, HB.out⟩
theorem same_p_0 {sha1 : Option Addr} {shn1 shc1 : Nat} {sha2 : Option Addr} {shn2 shc2 : Nat} {lka1 : Option Addr} {lkn1 lkc1 : Nat} {lka2 : Option Addr} {lkn2 lkc2 : Nat} {tha1 : Option Addr} {thn1 thc1 : Nat} {tha2 : Option Addr} {thn2 thc2 : Nat} (w : World) (C0 : ∀ W, Below w.heap.size w W → Calls Tryz.prog 38 #[.slice sha1 shn1 shc1, .slice sha2 shn2 shc2, .func (.func 39) #[] #[]] W fun e w' => e = .returned (.bool false) ∧ Below W.heap.size W w') :
 Calls Tryz.prog 14 #[.agg #[.slice sha1 shn1 shc1, .slice lka1 lkn1 lkc1, .slice tha1 thn1 thc1], .agg #[.slice sha2 shn2 shc2, .slice lka2 lkn2 lkc2, .slice tha2 thn2 thc2]] w fun e' w' => e' = .returned (.bool false) ∧ Below w.heap.size w w' := by
 have C0 := Lib.hid C0
 have HB : Hid (Below w.heap.size w ((w.alloc (.cells #[.slice sha1 shn1 shc1, .slice lka1 lkn1 lkc1, .slice tha1 thn1 thc1] 25)).alloc (.cells #[.slice sha2 shn2 shc2, .slice lka2 lkn2 lkc2, .slice tha2 thn2 thc2] 25))) := (((Below.refl _ w).alloc (Nat.le_refl _) _).alloc (by rw [World.size_alloc]; omega) _)
 have O1 := Lib.hid ((Own.new w 25 #[.slice sha1 shn1 shc1, .slice lka1 lkn1 lkc1, .slice tha1 thn1 thc1]).alloc (.cells #[.slice sha2 shn2 shc2, .slice lka2 lkn2 lkc2, .slice tha2 thn2 thc2] 25))
 have O2 : Hid (Own ((w.alloc (.cells #[.slice sha1 shn1 shc1, .slice lka1 lkn1 lkc1, .slice tha1 thn1 thc1] 25)).alloc (.cells #[.slice sha2 shn2 shc2, .slice lka2 lkn2 lkc2, .slice tha2 thn2 thc2] 25)) (w.heap.size + 1) 25 #[.slice sha2 shn2 shc2, .slice lka2 lkn2 lkc2, .slice tha2 thn2 thc2]) := by have := Own.new (w.alloc (.cells #[.slice sha1 shn1 shc1, .slice lka1 lkn1 lkc1, .slice tha1 thn1 thc1] 25)) 25 #[.slice sha2 shn2 shc2, .slice lka2 lkn2 lkc2, .slice tha2 thn2 thc2]; rw [World.size_alloc] at this; exact this
 go_enter Tryz.func14, Tryz.ntmps14
 go_wp2_with fail
 go_at_call 38
 refine (C0.out _ HB.out).mono ?_
 rintro e w3 ⟨rfl, hb3⟩
 have O1 := Lib.hid (O1.out.below hb3)
 have O2 := Lib.hid (O2.out.below hb3)
 have HB := Lib.hid (HB.out.trans (hb3.mono HB.out.size))
 clear hb3
 go_wp2_with fail
 go_ret
 exact ⟨rfl, HB.out⟩
theorem same_p_1 {sha1 : Option Addr} {shn1 shc1 : Nat} {sha2 : Option Addr} {shn2 shc2 : Nat} {lka1 : Option Addr} {lkn1 lkc1 : Nat} {lka2 : Option Addr} {lkn2 lkc2 : Nat} {tha1 : Option Addr} {thn1 thc1 : Nat} {tha2 : Option Addr} {thn2 thc2 : Nat} (w : World) (C0 : ∀ W, Below w.heap.size w W → Calls Tryz.prog 38 #[.slice sha1 shn1 shc1, .slice sha2 shn2 shc2, .func (.func 39) #[] #[]] W fun e w' => e = .returned (.bool true) ∧ Below W.heap.size W w') (C1 : ∀ W, Below w.heap.size w W → Calls Tryz.prog 38 #[.slice lka1 lkn1 lkc1, .slice lka2 lkn2 lkc2, .func (.func 39) #[] #[]] W fun e w' => e = .returned (.bool false) ∧ Below W.heap.size W w') :
 Calls Tryz.prog 14 #[.agg #[.slice sha1 shn1 shc1, .slice lka1 lkn1 lkc1, .slice tha1 thn1 thc1], .agg #[.slice sha2 shn2 shc2, .slice lka2 lkn2 lkc2, .slice tha2 thn2 thc2]] w fun e' w' => e' = .returned (.bool false) ∧ Below w.heap.size w w' := by
 have C0 := Lib.hid C0
 have C1 := Lib.hid C1
 have HB : Hid (Below w.heap.size w ((w.alloc (.cells #[.slice sha1 shn1 shc1, .slice lka1 lkn1 lkc1, .slice tha1 thn1 thc1] 25)).alloc (.cells #[.slice sha2 shn2 shc2, .slice lka2 lkn2 lkc2, .slice tha2 thn2 thc2] 25))) := (((Below.refl _ w).alloc (Nat.le_refl _) _).alloc (by rw [World.size_alloc]; omega) _)
 have O1 := Lib.hid ((Own.new w 25 #[.slice sha1 shn1 shc1, .slice lka1 lkn1 lkc1, .slice tha1 thn1 thc1]).alloc (.cells #[.slice sha2 shn2 shc2, .slice lka2 lkn2 lkc2, .slice tha2 thn2 thc2] 25))
 have O2 : Hid (Own ((w.alloc (.cells #[.slice sha1 shn1 shc1, .slice lka1 lkn1 lkc1, .slice tha1 thn1 thc1] 25)).alloc (.cells #[.slice sha2 shn2 shc2, .slice lka2 lkn2 lkc2, .slice tha2 thn2 thc2] 25)) (w.heap.size + 1) 25 #[.slice sha2 shn2 shc2, .slice lka2 lkn2 lkc2, .slice tha2 thn2 thc2]) := by have := Own.new (w.alloc (.cells #[.slice sha1 shn1 shc1, .slice lka1 lkn1 lkc1, .slice tha1 thn1 thc1] 25)) 25 #[.slice sha2 shn2 shc2, .slice lka2 lkn2 lkc2, .slice tha2 thn2 thc2]; rw [World.size_alloc] at this; exact this
 go_enter Tryz.func14, Tryz.ntmps14
 go_wp2_with fail
 go_at_call 38
 refine (C0.out _ HB.out).mono ?_
 rintro e w3 ⟨rfl, hb3⟩
 have O1 := Lib.hid (O1.out.below hb3)
 have O2 := Lib.hid (O2.out.below hb3)
 have HB := Lib.hid (HB.out.trans (hb3.mono HB.out.size))
 clear hb3
 have x0_11 : w3.cell? ⟨w.heap.size, 1, none⟩ = some (.slice lka1 lkn1 lkc1) := by rw [cell_of_row _ _ 1 _ _ _ O1.out]; rfl
 have x0_12 : w3.cell? ⟨w.heap.size + 1, 1, none⟩ = some (.slice lka2 lkn2 lkc2) := by rw [cell_of_row _ _ 1 _ _ _ O2.out]; rfl
 go_wp2_with fail
 go_at_call 38
 refine (C1.out _ HB.out).mono ?_
 rintro e w4 ⟨rfl, hb4⟩
 have O1 := Lib.hid (O1.out.below hb4)
 have O2 := Lib.hid (O2.out.below hb4)
 have HB := Lib.hid (HB.out.trans (hb4.mono HB.out.size))
 clear hb4
 go_wp2_with fail
 go_ret
 exact ⟨rfl, HB.out⟩
theorem same_p_2 {sha1 : Option Addr} {shn1 shc1 : Nat} {sha2 : Option Addr} {shn2 shc2 : Nat} {lka1 : Option Addr} {lkn1 lkc1 : Nat} {lka2 : Option Addr} {lkn2 lkc2 : Nat} {tha1 : Option Addr} {thn1 thc1 : Nat} {tha2 : Option Addr} {thn2 thc2 : Nat} (w : World) (C0 : ∀ W, Below w.heap.size w W → Calls Tryz.prog 38 #[.slice sha1 shn1 shc1, .slice sha2 shn2 shc2, .func (.func 39) #[] #[]] W fun e w' => e = .returned (.bool true) ∧ Below W.heap.size W w') (C1 : ∀ W, Below w.heap.size w W → Calls Tryz.prog 38 #[.slice lka1 lkn1 lkc1, .slice lka2 lkn2 lkc2, .func (.func 39) #[] #[]] W fun e w' => e = .returned (.bool true) ∧ Below W.heap.size W w') (C2 : ∀ W, Below w.heap.size w W → Calls Tryz.prog 40 #[.slice tha1 thn1 thc1, .slice tha2 thn2 thc2, .func (.func 41) #[] #[]] W fun e w' => e = .returned (.bool false) ∧ Below W.heap.size W w') :
 Calls Tryz.prog 14 #[.agg #[.slice sha1 shn1 shc1, .slice lka1 lkn1 lkc1, .slice tha1 thn1 thc1], .agg #[.slice sha2 shn2 shc2, .slice lka2 lkn2 lkc2, .slice tha2 thn2 thc2]] w fun e' w' => e' = .returned (.bool false) ∧ Below w.heap.size w w' := by
 have C0 := Lib.hid C0
 have C1 := Lib.hid C1
 have C2 := Lib.hid C2
 have HB : Hid (Below w.heap.size w ((w.alloc (.cells #[.slice sha1 shn1 shc1, .slice lka1 lkn1 lkc1, .slice tha1 thn1 thc1] 25)).alloc (.cells #[.slice sha2 shn2 shc2, .slice lka2 lkn2 lkc2, .slice tha2 thn2 thc2] 25))) := (((Below.refl _ w).alloc (Nat.le_refl _) _).alloc (by rw [World.size_alloc]; omega) _)
 have O1 := Lib.hid ((Own.new w 25 #[.slice sha1 shn1 shc1, .slice lka1 lkn1 lkc1, .slice tha1 thn1 thc1]).alloc (.cells #[.slice sha2 shn2 shc2, .slice lka2 lkn2 lkc2, .slice tha2 thn2 thc2] 25))
 have O2 : Hid (Own ((w.alloc (.cells #[.slice sha1 shn1 shc1, .slice lka1 lkn1 lkc1, .slice tha1 thn1 thc1] 25)).alloc (.cells #[.slice sha2 shn2 shc2, .slice lka2 lkn2 lkc2, .slice tha2 thn2 thc2] 25)) (w.heap.size + 1) 25 #[.slice sha2 shn2 shc2, .slice lka2 lkn2 lkc2, .slice tha2 thn2 thc2]) := by have := Own.new (w.alloc (.cells #[.slice sha1 shn1 shc1, .slice lka1 lkn1 lkc1, .slice tha1 thn1 thc1] 25)) 25 #[.slice sha2 shn2 shc2, .slice lka2 lkn2 lkc2, .slice tha2 thn2 thc2]; rw [World.size_alloc] at this; exact this
 go_enter Tryz.func14, Tryz.ntmps14
 go_wp2_with fail
 go_at_call 38
 refine (C0.out _ HB.out).mono ?_
 rintro e w3 ⟨rfl, hb3⟩
 have O1 := Lib.hid (O1.out.below hb3)
 have O2 := Lib.hid (O2.out.below hb3)
 have HB := Lib.hid (HB.out.trans (hb3.mono HB.out.size))
 clear hb3
 have x0_11 : w3.cell? ⟨w.heap.size, 1, none⟩ = some (.slice lka1 lkn1 lkc1) := by rw [cell_of_row _ _ 1 _ _ _ O1.out]; rfl
 have x0_12 : w3.cell? ⟨w.heap.size + 1, 1, none⟩ = some (.slice lka2 lkn2 lkc2) := by rw [cell_of_row _ _ 1 _ _ _ O2.out]; rfl
 have x0_21 : w3.cell? ⟨w.heap.size, 2, none⟩ = some (.slice tha1 thn1 thc1) := by rw [cell_of_row _ _ 2 _ _ _ O1.out]; rfl
 have x0_22 : w3.cell? ⟨w.heap.size + 1, 2, none⟩ = some (.slice tha2 thn2 thc2) := by rw [cell_of_row _ _ 2 _ _ _ O2.out]; rfl
 go_wp2_with fail
 go_at_call 38
 refine (C1.out _ HB.out).mono ?_
 rintro e w4 ⟨rfl, hb4⟩
 have O1 := Lib.hid (O1.out.below hb4)
 have O2 := Lib.hid (O2.out.below hb4)
 have HB := Lib.hid (HB.out.trans (hb4.mono HB.out.size))
 clear hb4
 have x1_21 : w4.cell? ⟨w.heap.size, 2, none⟩ = some (.slice tha1 thn1 thc1) := by rw [cell_of_row _ _ 2 _ _ _ O1.out]; rfl
 have x1_22 : w4.cell? ⟨w.heap.size + 1, 2, none⟩ = some (.slice tha2 thn2 thc2) := by rw [cell_of_row _ _ 2 _ _ _ O2.out]; rfl
 go_wp2_with fail
 go_at_call 40
 refine (C2.out _ HB.out).mono ?_
 rintro e w5 ⟨rfl, hb5⟩
 have O1 := Lib.hid (O1.out.below hb5)
 have O2 := Lib.hid (O2.out.below hb5)
 have HB := Lib.hid (HB.out.trans (hb5.mono HB.out.size))
 clear hb5
 go_wp2_with fail
 go_ret
 exact ⟨rfl, HB.out⟩
theorem same_p_3 {sha1 : Option Addr} {shn1 shc1 : Nat} {sha2 : Option Addr} {shn2 shc2 : Nat} {lka1 : Option Addr} {lkn1 lkc1 : Nat} {lka2 : Option Addr} {lkn2 lkc2 : Nat} {tha1 : Option Addr} {thn1 thc1 : Nat} {tha2 : Option Addr} {thn2 thc2 : Nat} (w : World) (C0 : ∀ W, Below w.heap.size w W → Calls Tryz.prog 38 #[.slice sha1 shn1 shc1, .slice sha2 shn2 shc2, .func (.func 39) #[] #[]] W fun e w' => e = .returned (.bool true) ∧ Below W.heap.size W w') (C1 : ∀ W, Below w.heap.size w W → Calls Tryz.prog 38 #[.slice lka1 lkn1 lkc1, .slice lka2 lkn2 lkc2, .func (.func 39) #[] #[]] W fun e w' => e = .returned (.bool true) ∧ Below W.heap.size W w') (C2 : ∀ W, Below w.heap.size w W → Calls Tryz.prog 40 #[.slice tha1 thn1 thc1, .slice tha2 thn2 thc2, .func (.func 41) #[] #[]] W fun e w' => e = .returned (.bool true) ∧ Below W.heap.size W w') :
 Calls Tryz.prog 14 #[.agg #[.slice sha1 shn1 shc1, .slice lka1 lkn1 lkc1, .slice tha1 thn1 thc1], .agg #[.slice sha2 shn2 shc2, .slice lka2 lkn2 lkc2, .slice tha2 thn2 thc2]] w fun e' w' => e' = .returned (.bool true) ∧ Below w.heap.size w w' := by
 have C0 := Lib.hid C0
 have C1 := Lib.hid C1
 have C2 := Lib.hid C2
 have HB : Hid (Below w.heap.size w ((w.alloc (.cells #[.slice sha1 shn1 shc1, .slice lka1 lkn1 lkc1, .slice tha1 thn1 thc1] 25)).alloc (.cells #[.slice sha2 shn2 shc2, .slice lka2 lkn2 lkc2, .slice tha2 thn2 thc2] 25))) := (((Below.refl _ w).alloc (Nat.le_refl _) _).alloc (by rw [World.size_alloc]; omega) _)
 have O1 := Lib.hid ((Own.new w 25 #[.slice sha1 shn1 shc1, .slice lka1 lkn1 lkc1, .slice tha1 thn1 thc1]).alloc (.cells #[.slice sha2 shn2 shc2, .slice lka2 lkn2 lkc2, .slice tha2 thn2 thc2] 25))
 have O2 : Hid (Own ((w.alloc (.cells #[.slice sha1 shn1 shc1, .slice lka1 lkn1 lkc1, .slice tha1 thn1 thc1] 25)).alloc (.cells #[.slice sha2 shn2 shc2, .slice lka2 lkn2 lkc2, .slice tha2 thn2 thc2] 25)) (w.heap.size + 1) 25 #[.slice sha2 shn2 shc2, .slice lka2 lkn2 lkc2, .slice tha2 thn2 thc2]) := by have := Own.new (w.alloc (.cells #[.slice sha1 shn1 shc1, .slice lka1 lkn1 lkc1, .slice tha1 thn1 thc1] 25)) 25 #[.slice sha2 shn2 shc2, .slice lka2 lkn2 lkc2, .slice tha2 thn2 thc2]; rw [World.size_alloc] at this; exact this
 go_enter Tryz.func14, Tryz.ntmps14
 go_wp2_with fail
 go_at_call 38
 refine (C0.out _ HB.out).mono ?_
 rintro e w3 ⟨rfl, hb3⟩
 have O1 := Lib.hid (O1.out.below hb3)
 have O2 := Lib.hid (O2.out.below hb3)
 have HB := Lib.hid (HB.out.trans (hb3.mono HB.out.size))
 clear hb3
 have x0_11 : w3.cell? ⟨w.heap.size, 1, none⟩ = some (.slice lka1 lkn1 lkc1) := by rw [cell_of_row _ _ 1 _ _ _ O1.out]; rfl
 have x0_12 : w3.cell? ⟨w.heap.size + 1, 1, none⟩ = some (.slice lka2 lkn2 lkc2) := by rw [cell_of_row _ _ 1 _ _ _ O2.out]; rfl
 have x0_21 : w3.cell? ⟨w.heap.size, 2, none⟩ = some (.slice tha1 thn1 thc1) := by rw [cell_of_row _ _ 2 _ _ _ O1.out]; rfl
 have x0_22 : w3.cell? ⟨w.heap.size + 1, 2, none⟩ = some (.slice tha2 thn2 thc2) := by rw [cell_of_row _ _ 2 _ _ _ O2.out]; rfl
 go_wp2_with fail
 go_at_call 38
 refine (C1.out _ HB.out).mono ?_
 rintro e w4 ⟨rfl, hb4⟩
 have O1 := Lib.hid (O1.out.below hb4)
 have O2 := Lib.hid (O2.out.below hb4)
 have HB := Lib.hid (HB.out.trans (hb4.mono HB.out.size))
 clear hb4
 have x1_21 : w4.cell? ⟨w.heap.size, 2, none⟩ = some (.slice tha1 thn1 thc1) := by rw [cell_of_row _ _ 2 _ _ _ O1.out]; rfl
 have x1_22 : w4.cell? ⟨w.heap.size + 1, 2, none⟩ = some (.slice tha2 thn2 thc2) := by rw [cell_of_row _ _ 2 _ _ _ O2.out]; rfl
 go_wp2_with fail
 go_at_call 40
 refine (C2.out _ HB.out).mono ?_
 rintro e w5 ⟨rfl, hb5⟩
 have O1 := Lib.hid (O1.out.below hb5)
 have O2 := Lib.hid (O2.out.below hb5)
 have HB := Lib.hid (HB.out.trans (hb5.mono HB.out.size))
 clear hb5
 go_wp2_with fail
 go_ret
 exact ⟨rfl, HB.out⟩
end Go.Proofs.YtikaflpiephaiaaGreatDoor

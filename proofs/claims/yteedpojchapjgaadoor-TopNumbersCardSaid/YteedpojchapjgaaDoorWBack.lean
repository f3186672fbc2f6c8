/- The lexer's laws: there and back. -/
import Derived.Test.YteedpojchapjgaaDoorLexBack2
import Derived.Test.YteedpojchapjgaaDoorWStands
namespace Go.Proofs.YteedpojchapjgaaDoor
open Go.RowKit
set_option linter.unusedVariables false

theorem EqToks.symm {xs ys : List Res} (h : EqToks false xs ys) : EqToks false ys xs :=
  ⟨h.1.symm, fun i x y hx hy => by
    obtain ⟨a, b, c, _⟩ := h.2 i y x hy hx
    exact ⟨a.symm, b.symm, c.symm, fun h => by cases h⟩⟩
theorem scan_of {t : ByteArray} {ys : List Res} (h : scanX t = (ys, 0, 0, 0)) {w0 w : World} (I : LInv w0 w) :
    Calls Tryd.prog 22 #[.string t] w fun e w' => ∃ u, e = .returned (.tuple #[u, .int .i64 0, .agg #[.int .i64 0, .int .i64 0]]) ∧ TokRow w' u ys ∧ Below w.heap.size w w' := by
  have k := scan_row t I
  rw [h] at k
  refine k.mono ?_
  rintro e w' ⟨u, rfl, h1, _, hb⟩
  exact ⟨u, rfl, tokRow_owns h1, hb⟩

set_option maxRecDepth 100000 in
set_option maxHeartbeats 8000000 in
theorem back_0 (v : Value) (s : ByteArray) (xs0 : List Res) (w : World) (T : LTabs w) (hv : TokRow w v xs0) (hx : ∀ x ∈ xs0, x.text.size ≤ 4611686018427387904) (hn : xs0.length ≤ 3518437208883) (h1 : (printX xs0).2 = 0) (he : ¬ (scanX s).2.1 = 0) :
    Calls Tryd.prog 8 #[v, .string s] w fun e w' => e = .returned (.bool true) ∧ LInv w w' := by
  have HT := Lib.hid T
  have HB := Lib.hid (begins_i (LInv.start T))
  have HV := Lib.hid hv
  have HP : Hid (∀ W, LTabs W → TokRow W v xs0 → Calls Tryd.prog 27 #[v] W fun e w' => e = .returned (.tuple #[.string (printX xs0).1, .int .i64 (printX xs0).2]) ∧ Below W.heap.size W w') := fun W T h => print_any W T v xs0 h hx (by omega)
  obtain ⟨ys0, hy1, hy2⟩ := print_scan h1
  have hyl : ys0.length ≤ 65536 := by have := scanX_len (printX xs0).1; rw [hy1] at this; exact this
  have HS1 : Hid (∀ W, LInv w W → Calls Tryd.prog 22 #[.string (printX xs0).1] W fun e w' => ∃ u, e = .returned (.tuple #[u, .int .i64 0, .agg #[.int .i64 0, .int .i64 0]]) ∧ TokRow w' u ys0 ∧ Below W.heap.size W w') := fun W I => scan_of hy1 I
  have HY := Lib.hid hy2
  rw [h1] at HP
  generalize (printX xs0).1 = t1 at HP HS1
  clear hy1 hy2 h1
  have HA : Hid (∀ W, LInv w W → Calls Tryd.prog 22 #[.string s] W fun e w' => e = .returned (.tuple #[.slice none 0 0, .int .i64 (scanX s).2.1, .agg #[.int .i64 (scanX s).2.2.1, .int .i64 (scanX s).2.2.2]]) ∧ Below W.heap.size W w') := fun W I => scan_none s (err_none he) I
  have hre : ((scanX s).2.1 != 0) = true := by simpa using he
  generalize (scanX s).2.1 = er at HA hre
  generalize (scanX s).2.2.1 = fa at HA
  generalize (scanX s).2.2.2 = fr at HA
  clear T hv hx he
  go_enter Tryd.func8, Tryd.ntmps8
  go_wp2_with (go_at_call 21; refine (HB.out).mono ?_; rintro e w1 ⟨rfl, hI⟩; have I1 := Lib.hid hI; clear hI)
  have V1 := Lib.hid (HV.out.keep I1.out.below)
  refine (HP.out _ I1.out.tabs V1.out).mono ?_
  rintro e w2 ⟨rfl, hb2⟩
  have I2 := Lib.hid (I1.out.next hb2)
  have V2 := Lib.hid (V1.out.keep hb2)
  clear hb2
  go_wp2_with fail
  refine (HS1.out _ I2.out).mono ?_
  rintro e w3 ⟨u3, rfl, ht3, hb3⟩
  have c3 : Below w3.heap.size w3 (w3.alloc (.cells #[.int .i64 0, .int .i64 0] 27)) := (Below.refl _ w3).alloc (Nat.le_refl _) _
  have I3 := Lib.hid ((I2.out.next hb3).next c3)
  have t3 := Lib.hid (ht3.keep c3)
  have V3 := Lib.hid ((V2.out.keep hb3).keep c3)
  clear hb3 ht3 c3
  go_wp2_with fail
  refine (same_free _ _ _ ys0 xs0 t3.out V3.out HY.out (by omega)).mono ?_
  rintro e w4 ⟨rfl, m4, rfl⟩
  have I4 := Lib.hid (I3.out.next (below_drewN (Below.refl _ _) m4))
  go_wp2_with fail
  refine (HA.out _ I4.out).mono ?_
  rintro e w5 ⟨rfl, hb5⟩
  have I5 := Lib.hid ((I4.out.next hb5).next ((Below.refl _ w5).alloc (Nat.le_refl _) (.cells #[.int .i64 fa, .int .i64 fr] 27)))
  go_wp2_with fail
  go_ret
  exact ⟨rfl, I5.out⟩
set_option maxRecDepth 100000 in
set_option maxHeartbeats 8000000 in
theorem back_1 (v : Value) (s : ByteArray) (xs0 : List Res) (w : World) (T : LTabs w) (hv : TokRow w v xs0) (hx : ∀ x ∈ xs0, x.text.size ≤ 4611686018427387904) (hn : xs0.length ≤ 3518437208883) (h1 : (printX xs0).2 = 0) (he : (scanX s).2.1 = 0) (h2 : (printX (scanX s).1).2 = 0) :
    Calls Tryd.prog 8 #[v, .string s] w fun e w' => e = .returned (.bool true) ∧ LInv w w' := by
  have HT := Lib.hid T
  have HB := Lib.hid (begins_i (LInv.start T))
  have HV := Lib.hid hv
  have HP : Hid (∀ W, LTabs W → TokRow W v xs0 → Calls Tryd.prog 27 #[v] W fun e w' => e = .returned (.tuple #[.string (printX xs0).1, .int .i64 (printX xs0).2]) ∧ Below W.heap.size W w') := fun W T h => print_any W T v xs0 h hx (by omega)
  obtain ⟨ys0, hy1, hy2⟩ := print_scan h1
  have hyl : ys0.length ≤ 65536 := by have := scanX_len (printX xs0).1; rw [hy1] at this; exact this
  have HS1 : Hid (∀ W, LInv w W → Calls Tryd.prog 22 #[.string (printX xs0).1] W fun e w' => ∃ u, e = .returned (.tuple #[u, .int .i64 0, .agg #[.int .i64 0, .int .i64 0]]) ∧ TokRow w' u ys0 ∧ Below W.heap.size W w') := fun W I => scan_of hy1 I
  have HY := Lib.hid hy2
  rw [h1] at HP
  generalize (printX xs0).1 = t1 at HP HS1
  clear hy1 hy2 h1
  have hsl := scanX_len s
  have HA : Hid (∀ W, LInv w W → Calls Tryd.prog 22 #[.string s] W fun e w' => ∃ u, e = .returned (.tuple #[u, .int .i64 0, .agg #[.int .i64 (scanX s).2.2.1, .int .i64 (scanX s).2.2.2]]) ∧ TokRow w' u (scanX s).1 ∧ Below W.heap.size W w') := fun W I => by
    refine (scan_row s I).mono ?_
    rintro e w' ⟨u, rfl, h1, _, hb⟩
    rw [he]
    exact ⟨u, rfl, tokRow_owns h1, hb⟩
  have hxs : ∀ x ∈ (scanX s).1, x.text.size ≤ 4611686018427387904 := fun x hx => by have := okT_size (scan_ok s x hx); omega
  have HP2 : Hid (∀ W u, LTabs W → TokRow W u (scanX s).1 → Calls Tryd.prog 27 #[u] W fun e w' => e = .returned (.tuple #[.string (printX (scanX s).1).1, .int .i64 (printX (scanX s).1).2]) ∧ Below W.heap.size W w') := fun W u T h => print_any W T u _ h hxs (by omega)
  obtain ⟨zs, hz1, hz2⟩ := print_scan h2
  have HS2 : Hid (∀ W, LInv w W → Calls Tryd.prog 22 #[.string (printX (scanX s).1).1] W fun e w' => ∃ u, e = .returned (.tuple #[u, .int .i64 0, .agg #[.int .i64 0, .int .i64 0]]) ∧ TokRow w' u zs ∧ Below W.heap.size W w') := fun W I => scan_of hz1 I
  have HZ := Lib.hid hz2.symm
  rw [h2] at HP2
  generalize (printX (scanX s).1).1 = t2 at HP2 HS2
  clear hz1 hz2
  clear hxs h2
  generalize (scanX s).2.2.1 = fa at HA
  generalize (scanX s).2.2.2 = fr at HA
  generalize (scanX s).1 = xs at *
  clear T hv hx he
  go_enter Tryd.func8, Tryd.ntmps8
  go_wp2_with (go_at_call 21; refine (HB.out).mono ?_; rintro e w1 ⟨rfl, hI⟩; have I1 := Lib.hid hI; clear hI)
  have V1 := Lib.hid (HV.out.keep I1.out.below)
  refine (HP.out _ I1.out.tabs V1.out).mono ?_
  rintro e w2 ⟨rfl, hb2⟩
  have I2 := Lib.hid (I1.out.next hb2)
  have V2 := Lib.hid (V1.out.keep hb2)
  clear hb2
  go_wp2_with fail
  refine (HS1.out _ I2.out).mono ?_
  rintro e w3 ⟨u3, rfl, ht3, hb3⟩
  have c3 : Below w3.heap.size w3 (w3.alloc (.cells #[.int .i64 0, .int .i64 0] 27)) := (Below.refl _ w3).alloc (Nat.le_refl _) _
  have I3 := Lib.hid ((I2.out.next hb3).next c3)
  have t3 := Lib.hid (ht3.keep c3)
  have V3 := Lib.hid ((V2.out.keep hb3).keep c3)
  clear hb3 ht3 c3
  go_wp2_with fail
  refine (same_free _ _ _ ys0 xs0 t3.out V3.out HY.out (by omega)).mono ?_
  rintro e w4 ⟨rfl, m4, rfl⟩
  have I4 := Lib.hid (I3.out.next (below_drewN (Below.refl _ _) m4))
  go_wp2_with fail
  refine (HA.out _ I4.out).mono ?_
  rintro e w5 ⟨u5, rfl, ht5, hb5⟩
  have c5 : Below w5.heap.size w5 (w5.alloc (.cells #[.int .i64 fa, .int .i64 fr] 27)) := (Below.refl _ w5).alloc (Nat.le_refl _) _
  have I5 := Lib.hid ((I4.out.next hb5).next c5)
  have t5 := Lib.hid (ht5.keep c5)
  clear hb5 ht5 c5
  go_wp2_with fail
  refine (HP2.out _ u5 I5.out.tabs t5.out).mono ?_
  rintro e w6 ⟨rfl, hb6⟩
  have I6 := Lib.hid (I5.out.next hb6)
  have t6 := Lib.hid (t5.out.keep hb6)
  clear hb6
  go_wp2_with fail
  refine (HS2.out _ I6.out).mono ?_
  rintro e w7 ⟨u7, rfl, ht7, hb7⟩
  have c7 : Below w7.heap.size w7 (w7.alloc (.cells #[.int .i64 0, .int .i64 0] 27)) := (Below.refl _ w7).alloc (Nat.le_refl _) _
  have I7 := Lib.hid ((I6.out.next hb7).next c7)
  have t7 := Lib.hid (ht7.keep c7)
  have t8 := Lib.hid ((t6.out.keep hb7).keep c7)
  clear hb7 ht7 c7
  go_wp2_with fail
  refine (same_free _ _ _ xs zs t8.out t7.out HZ.out (by omega)).mono ?_
  rintro e w8 ⟨rfl, m8, rfl⟩
  have I8 := Lib.hid (I7.out.next (below_drewN (Below.refl _ _) m8))
  go_wp2_with fail
  go_ret
  exact ⟨rfl, I8.out⟩
set_option maxRecDepth 100000 in
set_option maxHeartbeats 8000000 in
theorem back_2 (v : Value) (s : ByteArray) (xs0 : List Res) (w : World) (T : LTabs w) (hv : TokRow w v xs0) (hx : ∀ x ∈ xs0, x.text.size ≤ 4611686018427387904) (hn : xs0.length ≤ 3518437208883) (h1 : (printX xs0).2 = 0) (he : (scanX s).2.1 = 0) (h2 : (printX (scanX s).1).2 = 4) (h3 : (printX (scanX s).1).1 = ⟨#[]⟩) :
    Calls Tryd.prog 8 #[v, .string s] w fun e w' => e = .returned (.bool true) ∧ LInv w w' := by
  have HT := Lib.hid T
  have HB := Lib.hid (begins_i (LInv.start T))
  have HV := Lib.hid hv
  have HP : Hid (∀ W, LTabs W → TokRow W v xs0 → Calls Tryd.prog 27 #[v] W fun e w' => e = .returned (.tuple #[.string (printX xs0).1, .int .i64 (printX xs0).2]) ∧ Below W.heap.size W w') := fun W T h => print_any W T v xs0 h hx (by omega)
  obtain ⟨ys0, hy1, hy2⟩ := print_scan h1
  have hyl : ys0.length ≤ 65536 := by have := scanX_len (printX xs0).1; rw [hy1] at this; exact this
  have HS1 : Hid (∀ W, LInv w W → Calls Tryd.prog 22 #[.string (printX xs0).1] W fun e w' => ∃ u, e = .returned (.tuple #[u, .int .i64 0, .agg #[.int .i64 0, .int .i64 0]]) ∧ TokRow w' u ys0 ∧ Below W.heap.size W w') := fun W I => scan_of hy1 I
  have HY := Lib.hid hy2
  rw [h1] at HP
  generalize (printX xs0).1 = t1 at HP HS1
  clear hy1 hy2 h1
  have hsl := scanX_len s
  have HA : Hid (∀ W, LInv w W → Calls Tryd.prog 22 #[.string s] W fun e w' => ∃ u, e = .returned (.tuple #[u, .int .i64 0, .agg #[.int .i64 (scanX s).2.2.1, .int .i64 (scanX s).2.2.2]]) ∧ TokRow w' u (scanX s).1 ∧ Below W.heap.size W w') := fun W I => by
    refine (scan_row s I).mono ?_
    rintro e w' ⟨u, rfl, h1, _, hb⟩
    rw [he]
    exact ⟨u, rfl, tokRow_owns h1, hb⟩
  have hxs : ∀ x ∈ (scanX s).1, x.text.size ≤ 4611686018427387904 := fun x hx => by have := okT_size (scan_ok s x hx); omega
  have HP2 : Hid (∀ W u, LTabs W → TokRow W u (scanX s).1 → Calls Tryd.prog 27 #[u] W fun e w' => e = .returned (.tuple #[.string (printX (scanX s).1).1, .int .i64 (printX (scanX s).1).2]) ∧ Below W.heap.size W w') := fun W u T h => print_any W T u _ h hxs (by omega)
  rw [h2, h3] at HP2
  clear hxs h2 h3
  generalize (scanX s).2.2.1 = fa at HA
  generalize (scanX s).2.2.2 = fr at HA
  generalize (scanX s).1 = xs at *
  clear T hv hx he
  go_enter Tryd.func8, Tryd.ntmps8
  go_wp2_with (go_at_call 21; refine (HB.out).mono ?_; rintro e w1 ⟨rfl, hI⟩; have I1 := Lib.hid hI; clear hI)
  have V1 := Lib.hid (HV.out.keep I1.out.below)
  refine (HP.out _ I1.out.tabs V1.out).mono ?_
  rintro e w2 ⟨rfl, hb2⟩
  have I2 := Lib.hid (I1.out.next hb2)
  have V2 := Lib.hid (V1.out.keep hb2)
  clear hb2
  go_wp2_with fail
  refine (HS1.out _ I2.out).mono ?_
  rintro e w3 ⟨u3, rfl, ht3, hb3⟩
  have c3 : Below w3.heap.size w3 (w3.alloc (.cells #[.int .i64 0, .int .i64 0] 27)) := (Below.refl _ w3).alloc (Nat.le_refl _) _
  have I3 := Lib.hid ((I2.out.next hb3).next c3)
  have t3 := Lib.hid (ht3.keep c3)
  have V3 := Lib.hid ((V2.out.keep hb3).keep c3)
  clear hb3 ht3 c3
  go_wp2_with fail
  refine (same_free _ _ _ ys0 xs0 t3.out V3.out HY.out (by omega)).mono ?_
  rintro e w4 ⟨rfl, m4, rfl⟩
  have I4 := Lib.hid (I3.out.next (below_drewN (Below.refl _ _) m4))
  go_wp2_with fail
  refine (HA.out _ I4.out).mono ?_
  rintro e w5 ⟨u5, rfl, ht5, hb5⟩
  have c5 : Below w5.heap.size w5 (w5.alloc (.cells #[.int .i64 fa, .int .i64 fr] 27)) := (Below.refl _ w5).alloc (Nat.le_refl _) _
  have I5 := Lib.hid ((I4.out.next hb5).next c5)
  have t5 := Lib.hid (ht5.keep c5)
  clear hb5 ht5 c5
  go_wp2_with fail
  refine (HP2.out _ u5 I5.out.tabs t5.out).mono ?_
  rintro e w6 ⟨rfl, hb6⟩
  have I6 := Lib.hid (I5.out.next hb6)
  have t6 := Lib.hid (t5.out.keep hb6)
  clear hb6
  go_wp2_with fail
  go_ret
  exact ⟨rfl, I6.out⟩
set_option maxRecDepth 100000 in
set_option maxHeartbeats 8000000 in
theorem back_3 (v : Value) (s : ByteArray) (xs0 : List Res) (w : World) (T : LTabs w) (hv : TokRow w v xs0) (hx : ∀ x ∈ xs0, x.text.size ≤ 4611686018427387904) (hn : xs0.length ≤ 3518437208883) (h1 : ¬ (printX xs0).2 = 0) (he : ¬ (scanX s).2.1 = 0) :
    Calls Tryd.prog 8 #[v, .string s] w fun e w' => e = .returned (.bool true) ∧ LInv w w' := by
  have HT := Lib.hid T
  have HB := Lib.hid (begins_i (LInv.start T))
  have HV := Lib.hid hv
  have HP : Hid (∀ W, LTabs W → TokRow W v xs0 → Calls Tryd.prog 27 #[v] W fun e w' => e = .returned (.tuple #[.string (printX xs0).1, .int .i64 (printX xs0).2]) ∧ Below W.heap.size W w') := fun W T h => print_any W T v xs0 h hx (by omega)
  have hr1 : ((printX xs0).2 == 0) = false := int_f h1
  generalize (printX xs0).1 = t1 at HP
  generalize (printX xs0).2 = r1 at HP hr1 h1
  clear h1
  have HA : Hid (∀ W, LInv w W → Calls Tryd.prog 22 #[.string s] W fun e w' => e = .returned (.tuple #[.slice none 0 0, .int .i64 (scanX s).2.1, .agg #[.int .i64 (scanX s).2.2.1, .int .i64 (scanX s).2.2.2]]) ∧ Below W.heap.size W w') := fun W I => scan_none s (err_none he) I
  have hre : ((scanX s).2.1 != 0) = true := by simpa using he
  generalize (scanX s).2.1 = er at HA hre
  generalize (scanX s).2.2.1 = fa at HA
  generalize (scanX s).2.2.2 = fr at HA
  clear T hv hx he
  go_enter Tryd.func8, Tryd.ntmps8
  go_wp2_with (go_at_call 21; refine (HB.out).mono ?_; rintro e w1 ⟨rfl, hI⟩; have I1 := Lib.hid hI; clear hI)
  have V1 := Lib.hid (HV.out.keep I1.out.below)
  refine (HP.out _ I1.out.tabs V1.out).mono ?_
  rintro e w2 ⟨rfl, hb2⟩
  have I2 := Lib.hid (I1.out.next hb2)
  have V2 := Lib.hid (V1.out.keep hb2)
  clear hb2
  go_wp2_with fail
  refine (HA.out _ I2.out).mono ?_
  rintro e w5 ⟨rfl, hb5⟩
  have I5 := Lib.hid ((I2.out.next hb5).next ((Below.refl _ w5).alloc (Nat.le_refl _) (.cells #[.int .i64 fa, .int .i64 fr] 27)))
  go_wp2_with fail
  go_ret
  exact ⟨rfl, I5.out⟩
set_option maxRecDepth 100000 in
set_option maxHeartbeats 8000000 in
theorem back_4 (v : Value) (s : ByteArray) (xs0 : List Res) (w : World) (T : LTabs w) (hv : TokRow w v xs0) (hx : ∀ x ∈ xs0, x.text.size ≤ 4611686018427387904) (hn : xs0.length ≤ 3518437208883) (h1 : ¬ (printX xs0).2 = 0) (he : (scanX s).2.1 = 0) (h2 : (printX (scanX s).1).2 = 0) :
    Calls Tryd.prog 8 #[v, .string s] w fun e w' => e = .returned (.bool true) ∧ LInv w w' := by
  have HT := Lib.hid T
  have HB := Lib.hid (begins_i (LInv.start T))
  have HV := Lib.hid hv
  have HP : Hid (∀ W, LTabs W → TokRow W v xs0 → Calls Tryd.prog 27 #[v] W fun e w' => e = .returned (.tuple #[.string (printX xs0).1, .int .i64 (printX xs0).2]) ∧ Below W.heap.size W w') := fun W T h => print_any W T v xs0 h hx (by omega)
  have hr1 : ((printX xs0).2 == 0) = false := int_f h1
  generalize (printX xs0).1 = t1 at HP
  generalize (printX xs0).2 = r1 at HP hr1 h1
  clear h1
  have hsl := scanX_len s
  have HA : Hid (∀ W, LInv w W → Calls Tryd.prog 22 #[.string s] W fun e w' => ∃ u, e = .returned (.tuple #[u, .int .i64 0, .agg #[.int .i64 (scanX s).2.2.1, .int .i64 (scanX s).2.2.2]]) ∧ TokRow w' u (scanX s).1 ∧ Below W.heap.size W w') := fun W I => by
    refine (scan_row s I).mono ?_
    rintro e w' ⟨u, rfl, h1, _, hb⟩
    rw [he]
    exact ⟨u, rfl, tokRow_owns h1, hb⟩
  have hxs : ∀ x ∈ (scanX s).1, x.text.size ≤ 4611686018427387904 := fun x hx => by have := okT_size (scan_ok s x hx); omega
  have HP2 : Hid (∀ W u, LTabs W → TokRow W u (scanX s).1 → Calls Tryd.prog 27 #[u] W fun e w' => e = .returned (.tuple #[.string (printX (scanX s).1).1, .int .i64 (printX (scanX s).1).2]) ∧ Below W.heap.size W w') := fun W u T h => print_any W T u _ h hxs (by omega)
  obtain ⟨zs, hz1, hz2⟩ := print_scan h2
  have HS2 : Hid (∀ W, LInv w W → Calls Tryd.prog 22 #[.string (printX (scanX s).1).1] W fun e w' => ∃ u, e = .returned (.tuple #[u, .int .i64 0, .agg #[.int .i64 0, .int .i64 0]]) ∧ TokRow w' u zs ∧ Below W.heap.size W w') := fun W I => scan_of hz1 I
  have HZ := Lib.hid hz2.symm
  rw [h2] at HP2
  generalize (printX (scanX s).1).1 = t2 at HP2 HS2
  clear hz1 hz2
  clear hxs h2
  generalize (scanX s).2.2.1 = fa at HA
  generalize (scanX s).2.2.2 = fr at HA
  generalize (scanX s).1 = xs at *
  clear T hv hx he
  go_enter Tryd.func8, Tryd.ntmps8
  go_wp2_with (go_at_call 21; refine (HB.out).mono ?_; rintro e w1 ⟨rfl, hI⟩; have I1 := Lib.hid hI; clear hI)
  have V1 := Lib.hid (HV.out.keep I1.out.below)
  refine (HP.out _ I1.out.tabs V1.out).mono ?_
  rintro e w2 ⟨rfl, hb2⟩
  have I2 := Lib.hid (I1.out.next hb2)
  have V2 := Lib.hid (V1.out.keep hb2)
  clear hb2
  go_wp2_with fail
  refine (HA.out _ I2.out).mono ?_
  rintro e w5 ⟨u5, rfl, ht5, hb5⟩
  have c5 : Below w5.heap.size w5 (w5.alloc (.cells #[.int .i64 fa, .int .i64 fr] 27)) := (Below.refl _ w5).alloc (Nat.le_refl _) _
  have I5 := Lib.hid ((I2.out.next hb5).next c5)
  have t5 := Lib.hid (ht5.keep c5)
  clear hb5 ht5 c5
  go_wp2_with fail
  refine (HP2.out _ u5 I5.out.tabs t5.out).mono ?_
  rintro e w6 ⟨rfl, hb6⟩
  have I6 := Lib.hid (I5.out.next hb6)
  have t6 := Lib.hid (t5.out.keep hb6)
  clear hb6
  go_wp2_with fail
  refine (HS2.out _ I6.out).mono ?_
  rintro e w7 ⟨u7, rfl, ht7, hb7⟩
  have c7 : Below w7.heap.size w7 (w7.alloc (.cells #[.int .i64 0, .int .i64 0] 27)) := (Below.refl _ w7).alloc (Nat.le_refl _) _
  have I7 := Lib.hid ((I6.out.next hb7).next c7)
  have t7 := Lib.hid (ht7.keep c7)
  have t8 := Lib.hid ((t6.out.keep hb7).keep c7)
  clear hb7 ht7 c7
  go_wp2_with fail
  refine (same_free _ _ _ xs zs t8.out t7.out HZ.out (by omega)).mono ?_
  rintro e w8 ⟨rfl, m8, rfl⟩
  have I8 := Lib.hid (I7.out.next (below_drewN (Below.refl _ _) m8))
  go_wp2_with fail
  go_ret
  exact ⟨rfl, I8.out⟩
set_option maxRecDepth 100000 in
set_option maxHeartbeats 8000000 in
theorem back_5 (v : Value) (s : ByteArray) (xs0 : List Res) (w : World) (T : LTabs w) (hv : TokRow w v xs0) (hx : ∀ x ∈ xs0, x.text.size ≤ 4611686018427387904) (hn : xs0.length ≤ 3518437208883) (h1 : ¬ (printX xs0).2 = 0) (he : (scanX s).2.1 = 0) (h2 : (printX (scanX s).1).2 = 4) (h3 : (printX (scanX s).1).1 = ⟨#[]⟩) :
    Calls Tryd.prog 8 #[v, .string s] w fun e w' => e = .returned (.bool true) ∧ LInv w w' := by
  have HT := Lib.hid T
  have HB := Lib.hid (begins_i (LInv.start T))
  have HV := Lib.hid hv
  have HP : Hid (∀ W, LTabs W → TokRow W v xs0 → Calls Tryd.prog 27 #[v] W fun e w' => e = .returned (.tuple #[.string (printX xs0).1, .int .i64 (printX xs0).2]) ∧ Below W.heap.size W w') := fun W T h => print_any W T v xs0 h hx (by omega)
  have hr1 : ((printX xs0).2 == 0) = false := int_f h1
  generalize (printX xs0).1 = t1 at HP
  generalize (printX xs0).2 = r1 at HP hr1 h1
  clear h1
  have hsl := scanX_len s
  have HA : Hid (∀ W, LInv w W → Calls Tryd.prog 22 #[.string s] W fun e w' => ∃ u, e = .returned (.tuple #[u, .int .i64 0, .agg #[.int .i64 (scanX s).2.2.1, .int .i64 (scanX s).2.2.2]]) ∧ TokRow w' u (scanX s).1 ∧ Below W.heap.size W w') := fun W I => by
    refine (scan_row s I).mono ?_
    rintro e w' ⟨u, rfl, h1, _, hb⟩
    rw [he]
    exact ⟨u, rfl, tokRow_owns h1, hb⟩
  have hxs : ∀ x ∈ (scanX s).1, x.text.size ≤ 4611686018427387904 := fun x hx => by have := okT_size (scan_ok s x hx); omega
  have HP2 : Hid (∀ W u, LTabs W → TokRow W u (scanX s).1 → Calls Tryd.prog 27 #[u] W fun e w' => e = .returned (.tuple #[.string (printX (scanX s).1).1, .int .i64 (printX (scanX s).1).2]) ∧ Below W.heap.size W w') := fun W u T h => print_any W T u _ h hxs (by omega)
  rw [h2, h3] at HP2
  clear hxs h2 h3
  generalize (scanX s).2.2.1 = fa at HA
  generalize (scanX s).2.2.2 = fr at HA
  generalize (scanX s).1 = xs at *
  clear T hv hx he
  go_enter Tryd.func8, Tryd.ntmps8
  go_wp2_with (go_at_call 21; refine (HB.out).mono ?_; rintro e w1 ⟨rfl, hI⟩; have I1 := Lib.hid hI; clear hI)
  have V1 := Lib.hid (HV.out.keep I1.out.below)
  refine (HP.out _ I1.out.tabs V1.out).mono ?_
  rintro e w2 ⟨rfl, hb2⟩
  have I2 := Lib.hid (I1.out.next hb2)
  have V2 := Lib.hid (V1.out.keep hb2)
  clear hb2
  go_wp2_with fail
  refine (HA.out _ I2.out).mono ?_
  rintro e w5 ⟨u5, rfl, ht5, hb5⟩
  have c5 : Below w5.heap.size w5 (w5.alloc (.cells #[.int .i64 fa, .int .i64 fr] 27)) := (Below.refl _ w5).alloc (Nat.le_refl _) _
  have I5 := Lib.hid ((I2.out.next hb5).next c5)
  have t5 := Lib.hid (ht5.keep c5)
  clear hb5 ht5 c5
  go_wp2_with fail
  refine (HP2.out _ u5 I5.out.tabs t5.out).mono ?_
  rintro e w6 ⟨rfl, hb6⟩
  have I6 := Lib.hid (I5.out.next hb6)
  have t6 := Lib.hid (t5.out.keep hb6)
  clear hb6
  go_wp2_with fail
  go_ret
  exact ⟨rfl, I6.out⟩
theorem back_walk (v : Value) (s : ByteArray) (w : World) (h : TokArg w v) (hs : s.size ≤ reachBytes) (T : LTabs w) :
    Calls Tryd.prog 8 #[v, .string s] w fun e w' => e = .returned (.bool true) ∧ LInv w w' := by
  obtain ⟨xs0, hv, hx, hn⟩ : ∃ xs0, TokRow w v xs0 ∧ (∀ x ∈ xs0, x.text.size ≤ 4611686018427387904) ∧ xs0.length ≤ 3518437208883 := by
    rcases h with rfl | ⟨a, cap, xs, rfl, hu, hx, hn⟩
    · exact ⟨[], ⟨none, 0, rfl, by simp⟩, by simp, by simp⟩
    · exact ⟨xs, hu, hx, hn⟩
  by_cases h1 : (printX xs0).2 = 0
  · by_cases he : (scanX s).2.1 = 0
    · rcases scan_print s with h2 | ⟨h2, h3⟩
      · exact back_1 v s xs0 w T hv hx hn h1 he h2
      · exact back_2 v s xs0 w T hv hx hn h1 he h2 h3
    · exact back_0 v s xs0 w T hv hx hn h1 he
  · by_cases he : (scanX s).2.1 = 0
    · rcases scan_print s with h2 | ⟨h2, h3⟩
      · exact back_4 v s xs0 w T hv hx hn h1 he h2
      · exact back_5 v s xs0 w T hv hx hn h1 he h2 h3
    · exact back_3 v s xs0 w T hv hx hn h1 he
end Go.Proofs.YteedpojchapjgaaDoor

/- Target's text writer: numbers, registers, words. -/
import Derived.Test.YtgmcfinjlddgbaaGreatDoorTb
import Derived.Test.YtgmcfinjlddgbaaGreatDoorShelf
import Derived.Lib.ItoaLen
import Derived.Deep.RegionHeld3
import Derived.Laws.Concat
namespace Go.Proofs.YtgmcfinjlddgbaaGreatDoor
open Go.RowKit
set_option linter.unusedVariables false
set_option maxRecDepth 100000
theorem gPow : Tryz.prog.globalNamed "internal/strconv.uint64pow10" = some 5 := by kernel_rfl
/-- What writing numbers reads. -/
structure PwT (W : World) : Prop where
  pow : Lib.TabIs Tryz.prog W "internal/strconv.uint64pow10" .u64 Lib.pow10Tab
  size : 5 < W.heap.size
theorem PwT.below {W W' : World} (T : PwT W) (h : Below W.heap.size W W') : PwT W' := ⟨var?_below h gPow T.size T.pow, Nat.lt_of_lt_of_le T.size h.size⟩
theorem below_gro (w : World) (k : Nat) (os : Array Obj) : Below w.heap.size w (Sort.grow (w.drewN k) os) := by
  refine ⟨rfl, rfl, rfl, ?_, fun i hi => ?_⟩
  · show w.heap.size ≤ (w.heap ++ os).size
    simp
  · show (w.heap ++ os)[i]? = _
    rw [Array.getElem?_append_left hi]
def itoaS (n : Int) : ByteArray := ⟨(Lib.itoa n).toArray⟩
theorem itoaS_size (n : Int) (h0 : -9223372036854775808 ≤ n) (h1 : n ≤ 9223372036854775807) : (itoaS n).size ≤ 100 := by
  show (Lib.itoa n).toArray.size ≤ 100
  rw [List.size_toArray]
  have := Lib.itoa_length_le n h0 h1
  omega
theorem itoaS_data (n : Int) : (itoaS n).data.toList = Lib.itoa n := rfl
theorem itoa_any (n : Int) (h0 : -9223372036854775808 ≤ n) (h1 : n ≤ 9223372036854775807) (w : World) (T : PwT w) : Calls Tryz.prog 81 #[.int .i64 n] w fun e w' => e = .returned (.string (itoaS n)) ∧ Below w.heap.size w w' :=
  (Go.Proofs.Tryz.strconv_Itoa n h0 h1 w T.pow).mono fun e w' ⟨he, k, os, hw⟩ => ⟨he, by rw [hw]; exact below_gro w k os⟩
theorem wprint_any (n : Int) (h0 : -9223372036854775808 ≤ n) (h1 : n ≤ 9223372036854775807) (w : World) (T : PwT w) :
    Calls Tryz.prog 106 #[.int .i64 n] w fun e w' => e = .returned (.string (itoaS n)) ∧ Below w.heap.size w w' := by
  have H := Lib.hid (show Calls Tryz.prog 124 #[.int .i64 n, .int .i64 10] w fun e w' => e = .returned (.string (itoaS n)) ∧ Below w.heap.size w w' from
    (Go.Proofs.Tryz.strconv_FormatInt_10 n h0 h1 w T.pow).mono fun e w' ⟨he, k, os, hw⟩ => ⟨he, by rw [hw]; exact below_gro w k os⟩)
  obtain ⟨s, hs⟩ : ∃ s : ByteArray, s = itoaS n := ⟨_, rfl⟩
  rw [← hs] at H ⊢
  clear hs T
  go_enter Tryz.func106, Tryz.ntmps106
  go_wp2_with (go_at_call 124; refine (H.out).mono ?_; rintro e w' ⟨rfl, hb⟩)
  go_ret
  exact ⟨rfl, hb⟩
/-- What the writer's walks keep. -/
structure Wq (w : World) (b : Nat) (t : List UInt8) (W : World) : Prop where
  wt : Wt b t W
  keep : Keep (selW b) w W
  bel : Below b w W
section
variable {w W W' : World} {b : Nat} {t : List UInt8}
theorem Wt.lt (h : Wt b t W) : b < W.heap.size := by obtain ⟨p, v, h⟩ := h; exact h.1.lt
theorem Wt.below (h : Wt b t W) (hb : Below W.heap.size W W') : Wt b t W' := by
  obtain ⟨p, v, h1, h3, h4, h5⟩ := h
  exact ⟨p, v, h1.below hb, h3, h4, row_below h5 hb⟩
theorem Wq.below (h : Wq w b t W) (hb : Below W.heap.size W W') : Wq w b t W' := ⟨h.wt.below hb, h.keep.trans (keep_below hb), h.bel.trans (hb.mono (Nat.le_of_lt h.wt.lt))⟩
theorem wq_new (h : Wt b t w) : Wq w b t w := ⟨h, Keep.refl _ _, Below.refl _ _⟩
theorem Wq.trans {w0 : World} {t' : List UInt8} (h : Wq w0 b t w) (k : Wq w b t' W) : Wq w0 b t' W := ⟨k.wt, h.keep.trans k.keep, h.bel.trans k.bel⟩
theorem wq_write (h : Wq w b t W) (s : ByteArray) (hlen : t.length + s.size ≤ 140737488355328) : Calls Tryz.prog 75 #[.pointer (some ⟨b, 0, none⟩), .string s] W fun e w' => e = .returned (.tuple #[.int .i64 s.size, .nilIface]) ∧ Wq w b (t ++ s.data.toList) w' :=
  (wt_write h.wt s hlen).mono fun _ _ ⟨h1, h2, h3, h4⟩ => ⟨h1, h2, h.keep.trans h3, h.bel.trans h4⟩
theorem wq_byte (h : Wq w b t W) (hlen : t.length + 1 ≤ 140737488355328) : Calls Tryz.prog 83 #[.pointer (some ⟨b, 0, none⟩), .int .u8 10] W fun e w' => e = .returned .nilIface ∧ Wq w b (t ++ [10]) w' :=
  (wt_byte h.wt 10 (by decide) (by decide) hlen).mono fun _ _ ⟨h1, h2, h3, h4⟩ => ⟨h1, h2, h.keep.trans h3, h.bel.trans h4⟩
def Nu8 (ty : TypeId) : Prop := ∀ cs : Array Value, ¬ IsTy 5 (.cells cs ty)
theorem Wq.own (h : Wq w b t W) {g : Nat} {ty : TypeId} {row : Array Value} (ho : Own w g ty row) (hg : g ≠ b) (hn : Nu8 ty) : Own W g ty row := h.keep.block _ _ ho ⟨hg, hn _⟩
/-- A number that lies somewhere beside the writer. -/
def Nm (b : Nat) (w : World) (a : Addr) (x : Int) : Prop := ∃ g o ty row, a = ⟨g, o, none⟩ ∧ Own w g ty row ∧ g ≠ b ∧ Nu8 ty ∧ row[o]? = some (.int .i64 x)
theorem Wq.num (h : Wq w b t W) {a : Addr} {x : Int} (hx : Nm b w a x) : Nm b W a x ∧ W.cell? a = some (.int .i64 x) := by
  obtain ⟨g, o, ty, row, rfl, ho, hg, hn, hr⟩ := hx
  have h2 := h.own ho hg hn
  exact ⟨⟨g, o, ty, row, rfl, h2, hg, hn, hr⟩, by rw [cell_of_row _ _ o _ _ _ h2]; exact hr⟩
end
def regT (x : Int) : List UInt8 := [32, 114] ++ Lib.itoa x
/-- What stays while the region draws. -/
def regS (w : World) (b : Nat) (a : Addr) (x : Int) (W : World) : Prop := W.cell? a = some (.int .i64 x) ∧ ∃ t, Wq w b t W
set_option maxHeartbeats 2000000 in
theorem w_reg {w : World} {b : Nat} {txt : List UInt8} {W : World} (hq : Wq w b txt W) {g o : Nat} {x : Int} (hx : Nm b w ⟨g, o, none⟩ x) (h0 : -9223372036854775808 ≤ x ∧ x ≤ 9223372036854775807) (hlen : txt.length ≤ 70000000000000) (HT : ∀ V, Below b w V → PwT V) :
    Calls Tryz.prog 77 #[.pointer (some ⟨b, 0, none⟩), .pointer (some ⟨g, o, none⟩)] W fun e w' => e = .returned (.tuple #[]) ∧ Wq w b (txt ++ regT x) w' := by
  have hc := (hq.num hx).2
  have HI : Hid (∀ V, Wq w b txt V → Calls Tryz.prog 81 #[.int .i64 x] V fun e w' => e = .returned (.string (itoaS x)) ∧ Below V.heap.size V w') := fun V h => itoa_any x h0.1 h0.2 V (HT V h.bel)
  have HS : Hid ((itoaS x).size ≤ 100) := itoaS_size x h0.1 h0.2
  have HE : Hid (regT x = (⟨#[32, 114]⟩ ++ itoaS x).data.toList) := by rw [Hid, ByteArray.data_append, Array.toList_append, itoaS_data]; rfl
  rw [HE.out]
  have hss := HS.out
  generalize itoaS x = s at HI hss ⊢
  have HQ := Lib.hid hq
  have HX := Lib.hid hx
  have hsz : (⟨#[32, 114]⟩ ++ s).size ≤ 200 := by rw [ByteArray.size_append]; show 2 + s.size ≤ 200; omega
  have HW : Hid (∀ V, Wq w b txt V → Calls Tryz.prog 75 #[.pointer (some ⟨b, 0, none⟩), .string (⟨#[32, 114]⟩ ++ s)] V fun e w' => e = .returned (.tuple #[.int .i64 (⟨#[32, 114]⟩ ++ s).size, .nilIface]) ∧ Wq w b (txt ++ (⟨#[32, 114]⟩ ++ s).data.toList) w') := fun V h => wq_write h _ (by omega)
  have hcat : ∀ V, (Op.stringOp .add ⟨#[32, 114]⟩ s).run Tryz.prog V = .ok (.string (⟨#[32, 114]⟩ ++ s)) V := fun V => run_string_add_sum V _ _ (by show 2 + s.size ≤ _; omega)
  clear hq hx HT h0 hlen HS HE hsz
  go_enter Tryz.func77, Tryz.ntmps77
  go_region_held3 (fun V => V.cell? ⟨g, o, none⟩ = some (.int .i64 x) ∧ ∃ t, Wq w b t V) (first | exact ⟨hc, _, HQ.out.below (below_drewN (Below.refl _ _) 1)⟩ | exact ⟨((HA.out).num HX.out).2, _, HA.out⟩ | exact ⟨((HZ.out).num HX.out).2, _, HZ.out⟩) (first
    | (go_at_call 81; refine (HI.out _ (HQ.out.below (below_drewN (Below.refl _ _) 1))).mono ?_; rintro e w2 ⟨rfl, hb⟩; have HA := Lib.hid ((HQ.out.below (below_drewN (Below.refl _ _) 1)).below hb); clear hb)
    | (go_at_call 75; refine (HW.out _ HA.out).mono ?_; rintro e w3 ⟨rfl, hz⟩; have HZ := Lib.hid hz; clear hz))
  go_wp2_with fail
  exact bodyPost_end (results_none rfl _ _ _) rfl ⟨rfl, HZ.out⟩
def numT (x : Int) : List UInt8 := [32] ++ Lib.itoa x
/-- What stays while the region draws. -/
def numS (w : World) (b : Nat) (a : Addr) (x : Int) (W : World) : Prop := W.cell? a = some (.int .i64 x) ∧ ∃ t, Wq w b t W
set_option maxHeartbeats 2000000 in
theorem w_num {w : World} {b : Nat} {txt : List UInt8} {W : World} (hq : Wq w b txt W) {g o : Nat} {x : Int} (hx : Nm b w ⟨g, o, none⟩ x) (h0 : -9223372036854775808 ≤ x ∧ x ≤ 9223372036854775807) (hlen : txt.length ≤ 70000000000000) (HT : ∀ V, Below b w V → PwT V) :
    Calls Tryz.prog 78 #[.pointer (some ⟨b, 0, none⟩), .pointer (some ⟨g, o, none⟩)] W fun e w' => e = .returned (.tuple #[]) ∧ Wq w b (txt ++ numT x) w' := by
  have hc := (hq.num hx).2
  have HI : Hid (∀ V, Wq w b txt V → Calls Tryz.prog 81 #[.int .i64 x] V fun e w' => e = .returned (.string (itoaS x)) ∧ Below V.heap.size V w') := fun V h => itoa_any x h0.1 h0.2 V (HT V h.bel)
  have HS : Hid ((itoaS x).size ≤ 100) := itoaS_size x h0.1 h0.2
  have HE : Hid (numT x = (⟨#[32]⟩ ++ itoaS x).data.toList) := by rw [Hid, ByteArray.data_append, Array.toList_append, itoaS_data]; rfl
  rw [HE.out]
  have hss := HS.out
  generalize itoaS x = s at HI hss ⊢
  have HQ := Lib.hid hq
  have HX := Lib.hid hx
  have hsz : (⟨#[32]⟩ ++ s).size ≤ 200 := by rw [ByteArray.size_append]; show 1 + s.size ≤ 200; omega
  have HW : Hid (∀ V, Wq w b txt V → Calls Tryz.prog 75 #[.pointer (some ⟨b, 0, none⟩), .string (⟨#[32]⟩ ++ s)] V fun e w' => e = .returned (.tuple #[.int .i64 (⟨#[32]⟩ ++ s).size, .nilIface]) ∧ Wq w b (txt ++ (⟨#[32]⟩ ++ s).data.toList) w') := fun V h => wq_write h _ (by omega)
  have hcat : ∀ V, (Op.stringOp .add ⟨#[32]⟩ s).run Tryz.prog V = .ok (.string (⟨#[32]⟩ ++ s)) V := fun V => run_string_add_sum V _ _ (by show 1 + s.size ≤ _; omega)
  clear hq hx HT h0 hlen HS HE hsz
  go_enter Tryz.func78, Tryz.ntmps78
  go_region_held3 (fun V => V.cell? ⟨g, o, none⟩ = some (.int .i64 x) ∧ ∃ t, Wq w b t V) (first | exact ⟨hc, _, HQ.out.below (below_drewN (Below.refl _ _) 1)⟩ | exact ⟨((HA.out).num HX.out).2, _, HA.out⟩ | exact ⟨((HZ.out).num HX.out).2, _, HZ.out⟩) (first
    | (go_at_call 81; refine (HI.out _ (HQ.out.below (below_drewN (Below.refl _ _) 1))).mono ?_; rintro e w2 ⟨rfl, hb⟩; have HA := Lib.hid ((HQ.out.below (below_drewN (Below.refl _ _) 1)).below hb); clear hb)
    | (go_at_call 75; refine (HW.out _ HA.out).mono ?_; rintro e w3 ⟨rfl, hz⟩; have HZ := Lib.hid hz; clear hz))
  go_wp2_with fail
  exact bodyPost_end (results_none rfl _ _ _) rfl ⟨rfl, HZ.out⟩
def wrdT (x : Int) : List UInt8 := [32] ++ Lib.itoa x
/-- What stays while the region draws. -/
def wrdS (w : World) (b : Nat) (a : Addr) (x : Int) (W : World) : Prop := W.cell? a = some (.int .i64 x) ∧ ∃ t, Wq w b t W
set_option maxHeartbeats 2000000 in
theorem w_wrd {w : World} {b : Nat} {txt : List UInt8} {W : World} (hq : Wq w b txt W) {g o : Nat} {x : Int} (hx : Nm b w ⟨g, o, none⟩ x) (h0 : -9223372036854775808 ≤ x ∧ x ≤ 9223372036854775807) (hlen : txt.length ≤ 70000000000000) (HT : ∀ V, Below b w V → PwT V) :
    Calls Tryz.prog 79 #[.pointer (some ⟨b, 0, none⟩), .pointer (some ⟨g, o, none⟩)] W fun e w' => e = .returned (.tuple #[]) ∧ Wq w b (txt ++ wrdT x) w' := by
  have hc := (hq.num hx).2
  have HI : Hid (∀ V, Wq w b txt V → Calls Tryz.prog 106 #[.int .i64 x] V fun e w' => e = .returned (.string (itoaS x)) ∧ Below V.heap.size V w') := fun V h => wprint_any x h0.1 h0.2 V (HT V h.bel)
  have HS : Hid ((itoaS x).size ≤ 100) := itoaS_size x h0.1 h0.2
  have HE : Hid (wrdT x = (⟨#[32]⟩ ++ itoaS x).data.toList) := by rw [Hid, ByteArray.data_append, Array.toList_append, itoaS_data]; rfl
  rw [HE.out]
  have hss := HS.out
  generalize itoaS x = s at HI hss ⊢
  have HQ := Lib.hid hq
  have HX := Lib.hid hx
  have hsz : (⟨#[32]⟩ ++ s).size ≤ 200 := by rw [ByteArray.size_append]; show 1 + s.size ≤ 200; omega
  have HW : Hid (∀ V, Wq w b txt V → Calls Tryz.prog 75 #[.pointer (some ⟨b, 0, none⟩), .string (⟨#[32]⟩ ++ s)] V fun e w' => e = .returned (.tuple #[.int .i64 (⟨#[32]⟩ ++ s).size, .nilIface]) ∧ Wq w b (txt ++ (⟨#[32]⟩ ++ s).data.toList) w') := fun V h => wq_write h _ (by omega)
  have hcat : ∀ V, (Op.stringOp .add ⟨#[32]⟩ s).run Tryz.prog V = .ok (.string (⟨#[32]⟩ ++ s)) V := fun V => run_string_add_sum V _ _ (by show 1 + s.size ≤ _; omega)
  clear hq hx HT h0 hlen HS HE hsz
  go_enter Tryz.func79, Tryz.ntmps79
  go_region_held3 (fun V => V.cell? ⟨g, o, none⟩ = some (.int .i64 x) ∧ ∃ t, Wq w b t V) (first | exact ⟨hc, _, HQ.out.below (below_drewN (Below.refl _ _) 1)⟩ | exact ⟨((HA.out).num HX.out).2, _, HA.out⟩ | exact ⟨((HZ.out).num HX.out).2, _, HZ.out⟩) (first
    | (go_at_call 106; refine (HI.out _ (HQ.out.below (below_drewN (Below.refl _ _) 1))).mono ?_; rintro e w2 ⟨rfl, hb⟩; have HA := Lib.hid ((HQ.out.below (below_drewN (Below.refl _ _) 1)).below hb); clear hb)
    | (go_at_call 75; refine (HW.out _ HA.out).mono ?_; rintro e w3 ⟨rfl, hz⟩; have HZ := Lib.hid hz; clear hz))
  go_wp2_with fail
  exact bodyPost_end (results_none rfl _ _ _) rfl ⟨rfl, HZ.out⟩
end Go.Proofs.YtgmcfinjlddgbaaGreatDoor

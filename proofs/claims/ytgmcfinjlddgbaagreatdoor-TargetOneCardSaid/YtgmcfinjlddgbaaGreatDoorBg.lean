/- begins(), walked. -/
import Derived.Test.YtgmcfinjlddgbaaGreatDoorTp9
import Derived.Test.YtgmcfinjlddgbaaGreatDoorTc5
import Derived.Test.YtgmcfinjlddgbaaGreatDoorFl0
namespace Go.Proofs.YtgmcfinjlddgbaaGreatDoor
open Go.RowKit
set_option linter.unusedVariables false
set_option maxRecDepth 100000
def bgT : ByteArray := ⟨#[111, 98, 106, 101, 99, 116, 32, 48, 32, 48, 32, 49, 10, 109, 101, 109, 111, 114, 121, 32, 55, 10, 99, 111, 114, 101, 32, 65, 10, 97, 100, 100, 32, 114, 50, 32, 114, 49, 32, 114, 48, 32, 64, 51, 10, 104, 97, 108, 116, 10]⟩
def bgO : Ob := ⟨[7], 0, 0, 1, [⟨⟨#[65]⟩, [⟨2, 1, 2, 1, 0, 0, 0, 0, 3⟩, ⟨10, 0, 0, 0, 0, 0, 0, 0, 0⟩]⟩]⟩
theorem bg_txS : txS bgT (bgT.size + 2) 0 0 zOb = ((0, true), bgO) := by kernel_rfl
theorem bg_chk : chkO bgO = (0, 0, 0) := by kernel_rfl
theorem bg_par : parO bgT = (bgO, 0, 0) := by
  have hs : ¬ 16777216 < bgT.size := by show ¬ 16777216 < (50 : Nat); omega
  unfold parO
  rw [if_neg hs, bg_txS]
  simp only [if_true]
  rw [bg_chk]
  rfl
def bg0 : Ob := ⟨[], 0, 0, 1, [⟨⟨#[65]⟩, [⟨10, 0, 0, 0, 0, 0, 0, 0, 0⟩]⟩]⟩
theorem bg_prt : prtO bg0 = ([111, 98, 106, 101, 99, 116, 32, 48, 32, 48, 32, 49, 10, 109, 101, 109, 111, 114, 121, 10, 99, 111, 114, 101, 32, 65, 10, 104, 97, 108, 116, 10], 0) := by kernel_rfl
theorem bg_enc : encR bg0 = [115, 116, 105, 108, 0, 0, 1, 0, 1, 1, 65, 1, 10, 0] := by kernel_rfl
theorem bg_chk0 : chkO bg0 = (0, 0, 0) := by kernel_rfl
/-- Bytes in memory. -/
def bysAt (W : World) (l : List UInt8) (a : Option Addr) : Prop := l = [] ∨ ∃ g q, a = some ⟨g, q, none⟩ ∧ ∀ (j : Nat) (x : UInt8), l[j]? = some x → W.cell? ⟨g, q + j, none⟩ = some (.int .u8 (x.toNat : Int))
theorem bysAt_below {W W' : World} {l : List UInt8} {a : Option Addr} (h : bysAt W l a) (hb : Below W.heap.size W W') : bysAt W' l a := by
  rcases h with h | ⟨g, q, e, h⟩
  · exact .inl h
  · exact .inr ⟨g, q, e, fun j x hj => (hb.cell (p := ⟨g, q + j, none⟩) (lt_of_at (h j x hj))).trans (h j x hj)⟩
theorem row_bys {W : World} {base : Nat} {v : Value} {l : List UInt8} (h : W.ownsRow base 5 1 v l.length (Lib.byteCells l)) : ∃ a c, v = .slice a l.length c ∧ bysAt W l a := by
  by_cases h0 : l = []
  · obtain ⟨a, c, e⟩ := row_slice h
    exact ⟨a, c, e, .inl h0⟩
  · obtain ⟨g, cap, e, _, h2⟩ := row_at h (List.length_pos_iff.2 h0)
    refine ⟨_, _, e, .inr ⟨g, 0, rfl, fun j x hj => ?_⟩⟩
    rw [Nat.zero_add]
    exact h2 j _ (by unfold Lib.byteCells; rw [List.getElem?_map, hj]; rfl)
set_option maxHeartbeats 4000000 in
theorem bys_same (l : List UInt8) (hl : l.length ≤ 140737488351232) {a b : Option Addr} {c d : Nat} {w : World} (ha : bysAt w l a) (hb : bysAt w l b) : Calls Tryz.prog 34 #[.slice a l.length c, .slice b l.length d] w fun e w' => e = .returned (.bool true) ∧ Below w.heap.size w w' := by
  obtain ⟨n, hn⟩ : ∃ n, n = l.length := ⟨_, rfl⟩
  have HA := Lib.hid ha
  have HB := Lib.hid hb
  rw [← hn] at hl ⊢
  have HN := Lib.hid hn
  clear ha hb hn
  go_enter Tryz.func34, Tryz.ntmps34
  go_wp2_with fail
  go_loopg [5] (n + 1) (fun m' z X => ∃ j : Nat, z = .int .i64 (j : Int) ∧ j ≤ n ∧ m' = n - j + 1 ∧ Below w.heap.size w X)
  case atStart => exact ⟨0, rfl, Nat.zero_le _, by omega, Below.refl _ _⟩
  case round =>
    obtain ⟨j, rfl, hj, hm, hb⟩ := hrel
    have HM := Lib.hid hm
    have HW := Lib.hid hb
    clear hm hb
    by_cases hjn : j < n
    · have il : j < l.length := by have := HN.out; omega
      have g1 : l[j]? = some l[j] := List.getElem?_eq_getElem il
      generalize l[j] = x at g1
      rcases bysAt_below HA.out HW.out with e | ⟨g, q, rfl, h1⟩
      · subst e; simp at il
      rcases bysAt_below HB.out HW.out with e | ⟨g', q', rfl, h2⟩
      · subst e; simp at il
      have k1 := h1 j x g1
      have k2 := h2 j x g1
      have hjn' : (j : Int) < (n : Int) := by omega
      clear h1 h2 g1 il
      go_wp2_with fail
      go_quiet (fail)
      have HZ := Lib.hid (below_drewN HW.out nq)
      go_wp2_with fail
      go_roundg (n - (j + 1) + 1)
      case measure => have := HM.out; omega
      case rel => exact ⟨j + 1, by simp, by omega, by omega, HZ.out⟩
    obtain rfl : n = j := by omega
    go_wp2_with fail
    go_ret
    exact ⟨rfl, HW.out⟩
theorem bg0_rg : rgO bg0 := by simp [bg0, rgO, rgI]
theorem bg0_fit : fitO bg0 := ⟨by simp [bg0], by simp [bg0], fun c hc => by
  obtain rfl : c = ⟨⟨#[65]⟩, [⟨10, 0, 0, 0, 0, 0, 0, 0, 0⟩]⟩ := by simpa [bg0] using hc
  exact ⟨by show (1 : Nat) ≤ _; omega, by show (1 : Nat) ≤ _; omega⟩⟩
theorem bg0_at {W : World} {g5 g2 : Nat} (h5 : Own W g5 64 #[.string ⟨#[65]⟩, .slice (some ⟨g2, 0, none⟩) 1 1]) (h2 : Own W g2 25 #[.int .u8 10, .int .u8 0, .int .i64 0, .int .i64 0, .int .i64 0, .int .i64 0, .int .i64 0, .int .i64 0, .int .i64 0]) : obA W bg0 (.agg #[.slice none 0 0, .int .i64 0, .int .i64 0, .int .i64 1, .slice (some ⟨g5, 0, none⟩) 1 1]) := by
  refine ⟨none, 0, some ⟨g5, 0, none⟩, 1, rfl, .inl rfl, .inr ⟨g5, 0, rfl, fun j c hj => ?_⟩⟩
  match j, hj with
  | 0, hj =>
    obtain rfl : (⟨⟨#[65]⟩, [⟨10, 0, 0, 0, 0, 0, 0, 0, 0⟩]⟩ : Cor) = c := by simpa [bg0] using hj
    refine ⟨row_cellsO h5 0 _ rfl, some ⟨g2, 0, none⟩, 1, row_cellsO h5 1 _ rfl, .inr ⟨g2, 0, rfl, fun j i hj m v hv => ?_⟩⟩
    match j, hj with
    | 0, hj =>
      obtain rfl : (⟨10, 0, 0, 0, 0, 0, 0, 0, 0⟩ : Ins) = i := by simpa using hj
      have e : 0 + 0 * 9 + m = m := by omega
      rw [e]
      exact row_cellsO h2 m v (by simpa [insC] using hv)
    | j + 1, hj => simp at hj
  | j + 1, hj => simp [bg0] at hj
theorem bg_Parse (w : World) (T : TgT w) : Calls Tryz.prog 38 #[.string ⟨#[111, 98, 106, 101, 99, 116, 32, 48, 32, 48, 32, 49, 10, 109, 101, 109, 111, 114, 121, 32, 55, 10, 99, 111, 114, 101, 32, 65, 10, 97, 100, 100, 32, 114, 50, 32, 114, 49, 32, 114, 48, 32, 64, 51, 10, 104, 97, 108, 116, 10]⟩] w fun e w' => ∃ a1 c1 g5 q5 c5 g2 q2 c2, e = .returned (.tuple #[.agg #[.slice a1 1 c1, .int .i64 0, .int .i64 0, .int .i64 1, .slice (some ⟨g5, q5, none⟩) 1 c5], .int .i64 0, .int .i64 0]) ∧ w'.cell? ⟨g5, q5 + 1, none⟩ = some (.slice (some ⟨g2, q2, none⟩) 2 c2) ∧ w'.cell? ⟨g2, q2 + 8, none⟩ = some (.int .i64 3) ∧ Below w.heap.size w w' := by
  have h := t_Parse bgT w T
  rw [bg_par] at h
  refine h.mono fun e w' ⟨v, e1, ho, _, hb⟩ => ?_
  obtain ⟨a1, c1, a5, c5, rfl, _, h5⟩ := ho.obA
  rcases h5 with h5 | ⟨g5, q5, rfl, h5⟩
  · cases h5
  obtain ⟨_, a2, c2, k1, k2⟩ := h5 0 _ rfl
  rcases k2 with k2 | ⟨g2, q2, rfl, k2⟩
  · cases k2
  exact ⟨a1, c1, g5, q5, c5, g2, q2, c2, e1, by simpa using k1, by simpa using k2 0 _ rfl 8 _ rfl, hb⟩
set_option maxHeartbeats 16000000 in
theorem begins_any (w : World) (T : TgT w) (P : PwT w) : Calls Tryz.prog 18 #[] w fun e w' => e = .returned (.bool true) ∧ Below w.heap.size w w' := by
  have al : Below w.heap.size w (((w.alloc (.cells #[.int .u8 10, .int .u8 0, .int .i64 0, .int .i64 0, .int .i64 0, .int .i64 0, .int .i64 0, .int .i64 0, .int .i64 0] 25)).alloc (.cells #[.string ⟨#[65]⟩, .slice (some ⟨w.heap.size, 0, none⟩) 1 1] 64)).alloc (.cells #[.slice none 0 0, .int .i64 0, .int .i64 0, .int .i64 1, .slice (some ⟨w.heap.size + 1, 0, none⟩) 1 1] 29)) := (((Below.refl _ w).alloc (Nat.le_refl _) _).alloc (by simp) _).alloc (by simp; omega) _
  have OA : Own (((w.alloc (.cells #[.int .u8 10, .int .u8 0, .int .i64 0, .int .i64 0, .int .i64 0, .int .i64 0, .int .i64 0, .int .i64 0, .int .i64 0] 25)).alloc (.cells #[.string ⟨#[65]⟩, .slice (some ⟨w.heap.size, 0, none⟩) 1 1] 64)).alloc (.cells #[.slice none 0 0, .int .i64 0, .int .i64 0, .int .i64 1, .slice (some ⟨w.heap.size + 1, 0, none⟩) 1 1] 29)) w.heap.size 25 #[.int .u8 10, .int .u8 0, .int .i64 0, .int .i64 0, .int .i64 0, .int .i64 0, .int .i64 0, .int .i64 0, .int .i64 0] := ((Own.new w 25 #[.int .u8 10, .int .u8 0, .int .i64 0, .int .i64 0, .int .i64 0, .int .i64 0, .int .i64 0, .int .i64 0, .int .i64 0]).alloc _).alloc _
  have OB : Own (((w.alloc (.cells #[.int .u8 10, .int .u8 0, .int .i64 0, .int .i64 0, .int .i64 0, .int .i64 0, .int .i64 0, .int .i64 0, .int .i64 0] 25)).alloc (.cells #[.string ⟨#[65]⟩, .slice (some ⟨w.heap.size, 0, none⟩) 1 1] 64)).alloc (.cells #[.slice none 0 0, .int .i64 0, .int .i64 0, .int .i64 1, .slice (some ⟨w.heap.size + 1, 0, none⟩) 1 1] 29)) (w.heap.size + 1) 64 #[.string ⟨#[65]⟩, .slice (some ⟨w.heap.size, 0, none⟩) 1 1] := by
    have h := (Own.new (w.alloc (.cells #[.int .u8 10, .int .u8 0, .int .i64 0, .int .i64 0, .int .i64 0, .int .i64 0, .int .i64 0, .int .i64 0, .int .i64 0] 25)) 64 #[.string ⟨#[65]⟩, .slice (some ⟨w.heap.size, 0, none⟩) 1 1]).alloc (.cells #[.slice none 0 0, .int .i64 0, .int .i64 0, .int .i64 1, .slice (some ⟨w.heap.size + 1, 0, none⟩) 1 1] 29)
    rwa [World.size_alloc] at h
  have OC : Own (((w.alloc (.cells #[.int .u8 10, .int .u8 0, .int .i64 0, .int .i64 0, .int .i64 0, .int .i64 0, .int .i64 0, .int .i64 0, .int .i64 0] 25)).alloc (.cells #[.string ⟨#[65]⟩, .slice (some ⟨w.heap.size, 0, none⟩) 1 1] 64)).alloc (.cells #[.slice none 0 0, .int .i64 0, .int .i64 0, .int .i64 1, .slice (some ⟨w.heap.size + 1, 0, none⟩) 1 1] 29)) (w.heap.size + 1 + 1) 29 #[.slice none 0 0, .int .i64 0, .int .i64 0, .int .i64 1, .slice (some ⟨w.heap.size + 1, 0, none⟩) 1 1] := by
    have h := Own.new ((w.alloc (.cells #[.int .u8 10, .int .u8 0, .int .i64 0, .int .i64 0, .int .i64 0, .int .i64 0, .int .i64 0, .int .i64 0, .int .i64 0] 25)).alloc (.cells #[.string ⟨#[65]⟩, .slice (some ⟨w.heap.size, 0, none⟩) 1 1] 64)) 29 #[.slice none 0 0, .int .i64 0, .int .i64 0, .int .i64 1, .slice (some ⟨w.heap.size + 1, 0, none⟩) 1 1]
    rwa [World.size_alloc, World.size_alloc] at h
  have hob := bg0_at OB OA
  obtain ⟨W1, hW1⟩ : ∃ W, W = ((w.alloc (.cells #[.int .u8 10, .int .u8 0, .int .i64 0, .int .i64 0, .int .i64 0, .int .i64 0, .int .i64 0, .int .i64 0, .int .i64 0] 25)).alloc (.cells #[.string ⟨#[65]⟩, .slice (some ⟨w.heap.size, 0, none⟩) 1 1] 64)).alloc (.cells #[.slice none 0 0, .int .i64 0, .int .i64 0, .int .i64 1, .slice (some ⟨w.heap.size + 1, 0, none⟩) 1 1] 29) := ⟨_, rfl⟩
  rw [← hW1] at al OA OB OC hob
  have HW1 := Lib.hid hW1
  have HB1 := Lib.hid al
  have HOB := Lib.hid hob
  have HOC := Lib.hid OC
  have HTT : Hid (∀ X, Below w.heap.size w X → TgT X ∧ PwT X) := fun X h => ⟨T.below h, P.below h⟩
  have HPR : Hid (∀ X, Below W1.heap.size W1 X → Calls Tryz.prog 30 #[.agg #[.slice none 0 0, .int .i64 0, .int .i64 0, .int .i64 1, .slice (some ⟨w.heap.size + 1, 0, none⟩) 1 1]] X fun e w' => e = .returned (.tuple #[.string ⟨#[111, 98, 106, 101, 99, 116, 32, 48, 32, 48, 32, 49, 10, 109, 101, 109, 111, 114, 121, 10, 99, 111, 114, 101, 32, 65, 10, 104, 97, 108, 116, 10]⟩, .int .i64 0]) ∧ Below X.heap.size X w') := fun X hX => by
    have hT := HTT.out X (HB1.out.trans (hX.mono HB1.out.size))
    have h := print_any bg0 bg0_rg bg0_fit (obA_below hob hX) hT.1 hT.2
    rw [bg_prt] at h
    exact h
  have HEN : Hid (∀ X, Below W1.heap.size W1 X → Calls Tryz.prog 32 #[.agg #[.slice none 0 0, .int .i64 0, .int .i64 0, .int .i64 1, .slice (some ⟨w.heap.size + 1, 0, none⟩) 1 1]] X fun e w' => ∃ a c, e = .returned (.tuple #[.slice a 14 c, .int .i64 0]) ∧ bysAt w' [115, 116, 105, 108, 0, 0, 1, 0, 1, 1, 65, 1, 10, 0] a ∧ Below X.heap.size X w') := fun X hX => by
    have hT := HTT.out X (HB1.out.trans (hX.mono HB1.out.size))
    refine (encode_any bg0 bg0_rg bg0_fit (obA_below hob hX) hT.1).mono fun e w' h => ?_
    unfold EncP at h
    rw [bg_enc, bg_chk0] at h
    obtain ⟨a, c, e1, hb, hr⟩ := h
    obtain ⟨a', c', e2, h2⟩ := row_bys hr
    injection e2 with e3 _ e4
    subst e3
    exact ⟨a, c, e1, h2, hb⟩
  have HPA : Hid (∀ X, Below W1.heap.size W1 X → Calls Tryz.prog 38 #[.string ⟨#[111, 98, 106, 101, 99, 116, 32, 48, 32, 48, 32, 49, 10, 109, 101, 109, 111, 114, 121, 32, 55, 10, 99, 111, 114, 101, 32, 65, 10, 97, 100, 100, 32, 114, 50, 32, 114, 49, 32, 114, 48, 32, 64, 51, 10, 104, 97, 108, 116, 10]⟩] X fun e w' => ∃ a1 c1 g5 q5 c5 g2 q2 c2, e = .returned (.tuple #[.agg #[.slice a1 1 c1, .int .i64 0, .int .i64 0, .int .i64 1, .slice (some ⟨g5, q5, none⟩) 1 c5], .int .i64 0, .int .i64 0]) ∧ w'.cell? ⟨g5, q5 + 1, none⟩ = some (.slice (some ⟨g2, q2, none⟩) 2 c2) ∧ w'.cell? ⟨g2, q2 + 8, none⟩ = some (.int .i64 3) ∧ Below X.heap.size X w') := fun X hX => bg_Parse X (HTT.out X (HB1.out.trans (hX.mono HB1.out.size))).1
  have HBY : Hid (∀ (X : World) a c, bysAt X [115, 116, 105, 108, 0, 0, 1, 0, 1, 1, 65, 1, 10, 0] a → Calls Tryz.prog 34 #[.slice a 14 c, .slice (some ⟨X.heap.size, 0, none⟩) 14 14] (X.alloc (.cells #[.int .u8 115, .int .u8 116, .int .u8 105, .int .u8 108, .int .u8 0, .int .u8 0, .int .u8 1, .int .u8 0, .int .u8 1, .int .u8 1, .int .u8 65, .int .u8 1, .int .u8 10, .int .u8 0] 5)) fun e w' => e = .returned (.bool true) ∧ Below X.heap.size X w') := fun X a c h => by
    have hb : Below X.heap.size X (X.alloc (.cells #[.int .u8 115, .int .u8 116, .int .u8 105, .int .u8 108, .int .u8 0, .int .u8 0, .int .u8 1, .int .u8 0, .int .u8 1, .int .u8 1, .int .u8 65, .int .u8 1, .int .u8 10, .int .u8 0] 5)) := (Below.refl _ X).alloc (Nat.le_refl _) _
    have hn := Own.new X 5 #[.int .u8 115, .int .u8 116, .int .u8 105, .int .u8 108, .int .u8 0, .int .u8 0, .int .u8 1, .int .u8 0, .int .u8 1, .int .u8 1, .int .u8 65, .int .u8 1, .int .u8 10, .int .u8 0]
    refine (bys_same [115, 116, 105, 108, 0, 0, 1, 0, 1, 1, 65, 1, 10, 0] (by decide) (bysAt_below h hb) (.inr ⟨X.heap.size, 0, rfl, fun j x hj => ?_⟩) (c := c) (d := 14)).mono fun _ _ ⟨e1, e2⟩ => ⟨e1, hb.trans (e2.mono hb.size)⟩
    rw [Nat.zero_add]
    refine row_cellsO hn j _ ?_
    have hj2 : (List.map (fun b : UInt8 => Value.int .u8 (b.toNat : Int)) [115, 116, 105, 108, 0, 0, 1, 0, 1, 1, 65, 1, 10, 0])[j]? = some (.int .u8 (x.toNat : Int)) := by rw [List.getElem?_map, hj]; rfl
    rw [← hj2]
    rw [← Array.getElem?_toList]
    rfl
  have HDR : Hid (∀ X, Calls Tryz.prog 26 #[.int .u8 7] X fun e w' => e = .returned (.bool true) ∧ X = w') := fun X => by
    have h := drains_any 7 X
    exact h
  clear T P al OA OB hW1 hob
  go_enter Tryz.func18, Tryz.ntmps18
  go_upto_region 2 with fail
  rw [← HW1.out]
  clear HW1
  go_upto_region 3 with (first | (refine ld rowO rfl rfl rfl OC rfl ?_) | (go_at_call 30; refine (HPR.out _ (Below.refl _ _)).mono ?_; rintro e w2 ⟨rfl, hb⟩; have HB2 := Lib.hid hb; have OC2 := HOC.out.below hb; clear hb))
  clear OC
  go_upto_region 4 with (first | (refine ld rowO rfl rfl rfl OC2 rfl ?_) | (go_at_call 32; refine (HEN.out _ HB2.out).mono ?_; rintro e w3 ⟨a, c, rfl, hbs, hb⟩; have HBS := Lib.hid hbs; have HB3 := Lib.hid (HB2.out.trans (hb.mono HB2.out.size)); clear hb hbs))
  clear OC2
  go_upto_region 5 with (go_at_call 38; refine (HPA.out _ HB3.out).mono ?_; rintro e w4 ⟨a1, c1, g5, q5, c5, g2, q2, c2, rfl, k5, k2, hb⟩; have HB4 := Lib.hid (HB3.out.trans (hb.mono HB3.out.size)); have HBS4 := Lib.hid (bysAt_below HBS.out hb); clear hb)
  have al5 : Below w4.heap.size w4 (w4.alloc (.cells #[.slice a1 1 c1, .int .i64 0, .int .i64 0, .int .i64 1, .slice (some ⟨g5, q5, none⟩) 1 c5] 29)) := (Below.refl _ w4).alloc (Nat.le_refl _) _
  have OX := Own.new w4 29 #[.slice a1 1 c1, .int .i64 0, .int .i64 0, .int .i64 1, .slice (some ⟨g5, q5, none⟩) 1 c5]
  obtain ⟨b, hb⟩ : ∃ b, b = w4.heap.size := ⟨_, rfl⟩
  obtain ⟨W5, hW5⟩ : ∃ W, W = w4.alloc (.cells #[.slice a1 1 c1, .int .i64 0, .int .i64 0, .int .i64 1, .slice (some ⟨g5, q5, none⟩) 1 c5] 29) := ⟨_, rfl⟩
  rw [← hW5, ← hb] at OX
  rw [← hW5] at al5
  have HW5 := Lib.hid hW5
  have HBE := Lib.hid hb
  have HCL : Hid (∀ X, Below W5.heap.size W5 X → X.cell? ⟨b, 4, none⟩ = some (.slice (some ⟨g5, q5, none⟩) 1 c5) ∧ X.cell? ⟨b, 0, none⟩ = some (.slice a1 1 c1) ∧ X.cell? ⟨g5, q5 + 1, none⟩ = some (.slice (some ⟨g2, q2, none⟩) 2 c2) ∧ X.cell? ⟨g2, q2 + 8, none⟩ = some (.int .i64 3)) := fun X hX => by
    have hB4 := al5.trans (hX.mono al5.size)
    exact ⟨row_cellsO (OX.below hX) 4 _ rfl, row_cellsO (OX.below hX) 0 _ rfl, (hB4.cell (p := ⟨g5, q5 + 1, none⟩) (lt_of_at k5)).trans k5, (hB4.cell (p := ⟨g2, q2 + 8, none⟩) (lt_of_at k2)).trans k2⟩
  have HB5 := Lib.hid (HB1.out.trans ((HB4.out.trans (al5.mono HB4.out.size)).mono HB1.out.size))
  have HBY5 := Lib.hid (HBY.out W5 a c (bysAt_below HBS4.out al5))
  clear al5 OX k5 k2 hW5 HBS4 HBS HB4 HB3 HB2 HBY HPA HEN HPR HOC HOB HTT hb
  rw [← HW5.out, ← HBE.out]
  clear HW5
  go_wp2_with (first | (go_at_call 34; refine HBY5.out.mono ?_; rintro e w6 ⟨rfl, hz⟩; obtain ⟨d4, d0, d5, d2⟩ := HCL.out _ hz; have HZ := Lib.hid (HB5.out.trans (hz.mono HB5.out.size)); clear hz) | (go_at_call 26; refine (HDR.out _).mono ?_; rintro e w7 ⟨rfl, rfl⟩))
  go_ret
  exact ⟨rfl, HZ.out⟩
end Go.Proofs.YtgmcfinjlddgbaaGreatDoor

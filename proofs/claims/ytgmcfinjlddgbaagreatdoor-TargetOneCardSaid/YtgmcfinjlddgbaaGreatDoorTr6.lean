/- Target's lists with one more. -/
import Derived.Test.YtgmcfinjlddgbaaGreatDoorTr5
import Derived.Test.YtgmcfinjlddgbaaGreatDoorTc0
namespace Go.Proofs.YtgmcfinjlddgbaaGreatDoor
open Go.RowKit
set_option linter.unusedVariables false
set_option maxRecDepth 100000
theorem row_slice {w : World} {B : Nat} {E : TypeId} {k : Nat} {v : Value} {n : Nat} {xs : List Value} (h : w.ownsRow B E k v n xs) : ∃ ao cap, v = .slice ao n cap := by
  rcases h.2 with ⟨hv, h0⟩ | ⟨g, cap, cur, hv, _⟩
  · exact ⟨none, 0, by rw [hv, h0]⟩
  · exact ⟨_, _, hv⟩
theorem rowC : RowT 64 2 := ⟨_, Tryz.underlying64, rfl, by kernel_rfl⟩
/-- What kept leaves: the list as it was, or with one more. -/
def KeptP (w : World) (B : Nat) (E : TypeId) (k : Nat) (v : Value) (n : Nat) (xs : List Value) (most : Int) (news : List Value) (e : Ending) (w' : World) : Prop :=
  if most < (n : Int) then e = .returned v ∧ Below w.heap.size w w' else ∃ v' w1, e = .returned v' ∧ Below w.heap.size w w1 ∧ w1.grownBy w' v.ownBlock ∧ w'.ownsRow B E k v' (n + 1) (xs ++ news)
theorem info_w : (Tryz.prog.info? 2).map (fun i => (i.zero, i.size, i.bytes)) = some (some (.int .i64 0), 1, 8) := by kernel_rfl
set_option maxHeartbeats 4000000 in
theorem kept_w (x : Int) {w : World} {B : Nat} {v : Value} {n : Nat} {xs : List Value} (hown : w.ownsRow B 2 1 v n xs) (hB : B ≤ w.heap.size) (hn : n ≤ 1000000) (most : Int) (hm0 : -9223372036854775808 ≤ most) (hm1 : most ≤ 9223372036854775807) :
    Calls Tryz.prog 131 #[v, .int .i64 x, .int .i64 most] w (KeptP w B 2 1 v n xs most [.int .i64 x]) := by
  obtain ⟨i0, hi, hz0, hz1, hz2⟩ := info_parts info_w
  obtain ⟨ao, cap, rfl⟩ := row_slice hown
  by_cases hb : most < (n : Int)
  · have hk : KeptP w B 2 1 (.slice ao n cap) n xs most [.int .i64 x] = fun e w' => e = .returned (.slice ao n cap) ∧ Below w.heap.size w w' := by funext e w'; unfold KeptP; rw [if_pos hb]
    rw [hk]
    clear hk hown
    go_enter Tryz.func131, Tryz.ntmps131
    go_wp2
    go_ret
    exact ⟨rfl, Below.refl _ _⟩
  · have hk : KeptP w B 2 1 (.slice ao n cap) n xs most [.int .i64 x] = fun e w' => ∃ v' w1, e = .returned v' ∧ Below w.heap.size w w1 ∧ w1.grownBy w' (Value.slice ao n cap).ownBlock ∧ w'.ownsRow B 2 1 v' (n + 1) (xs ++ [.int .i64 x]) := by funext e w'; unfold KeptP; rw [if_neg hb]
    rw [hk]
    clear hk
    have al := Below.refl w.heap.size w
    have hs0 := hB
    go_enter Tryz.func131, Tryz.ntmps131
    go_wp2_with (first | fail | (at_builtin; refine wpList_append_own _ rfl _ _ 26 rfl B 2 i0 _ 1 8 Tryz.underlying26 hi hz0 hz1 hz2 rfl (by decide) (.slice ao n cap) n xs rfl (hown.alloc _) ⟨w.heap.size, 0, none⟩ 1 1 [.int .i64 x] rfl rfl ?c1 ?c2 ?c3 ?c4 ?c5 ?_))
    case c2 => first | rfl | simp [Value.oneCell']
    case c3 => first | (simp only [maxLen]; omega) | (unfold maxLen; omega) | omega
    case c4 => omega
    case c5 => first | omega | (simp; omega)
    intro v' w2 hown' hgrow _
    have HR := Lib.hid hown'
    have HG := Lib.hid hgrow
    have HA := Lib.hid (al.alloc al.size (.cells #[.int .i64 x] 2))
    clear hown' hgrow
    go_wp2
    go_ret
    exact ⟨_, _, rfl, HA.out, HG.out, HR.out⟩
theorem info_c : (Tryz.prog.info? 64).map (fun i => (i.zero, i.size, i.bytes)) = some (some (.agg #[.string ⟨#[]⟩, .slice none 0 0]), 2, 40) := by kernel_rfl
set_option maxHeartbeats 4000000 in
theorem kept_c (nm : ByteArray) (a2 : Option Addr) (n2 c2 : Nat) {w : World} {B : Nat} {v : Value} {n : Nat} {xs : List Value} (hown : w.ownsRow B 64 2 v n xs) (hB : B ≤ w.heap.size) (hn : n ≤ 1000000) (most : Int) (hm0 : -9223372036854775808 ≤ most) (hm1 : most ≤ 9223372036854775807) :
    Calls Tryz.prog 133 #[v, .agg #[.string nm, .slice a2 n2 c2], .int .i64 most] w (KeptP w B 64 2 v n xs most [.string nm, .slice a2 n2 c2]) := by
  obtain ⟨i0, hi, hz0, hz1, hz2⟩ := info_parts info_c
  obtain ⟨ao, cap, rfl⟩ := row_slice hown
  by_cases hb : most < (n : Int)
  · have hk : KeptP w B 64 2 (.slice ao n cap) n xs most [.string nm, .slice a2 n2 c2] = fun e w' => e = .returned (.slice ao n cap) ∧ Below w.heap.size w w' := by funext e w'; unfold KeptP; rw [if_pos hb]
    rw [hk]
    clear hk hown
    go_enter Tryz.func133, Tryz.ntmps133
    go_wp2
    go_ret
    exact ⟨rfl, (Below.refl _ w).alloc (Nat.le_refl _) _⟩
  · have hk : KeptP w B 64 2 (.slice ao n cap) n xs most [.string nm, .slice a2 n2 c2] = fun e w' => ∃ v' w1, e = .returned v' ∧ Below w.heap.size w w1 ∧ w1.grownBy w' (Value.slice ao n cap).ownBlock ∧ w'.ownsRow B 64 2 v' (n + 1) (xs ++ [.string nm, .slice a2 n2 c2]) := by funext e w'; unfold KeptP; rw [if_neg hb]
    rw [hk]
    clear hk
    have al := (Below.refl w.heap.size w).alloc (Nat.le_refl _) (.cells #[.string nm, .slice a2 n2 c2] 64)
    have O0 := Own.new w 64 #[.string nm, .slice a2 n2 c2]
    have hown0 := row_below hown al
    have hs0 : B ≤ (w.alloc (.cells #[.string nm, .slice a2 n2 c2] 64)).heap.size := by simp; omega
    obtain ⟨W0, hW0⟩ : ∃ W, W = w.alloc (.cells #[.string nm, .slice a2 n2 c2] 64) := ⟨_, rfl⟩
    rw [← hW0] at al O0 hown0 hs0
    have HW0 := Lib.hid hW0
    clear hW0 hown
    go_enter Tryz.func133, Tryz.ntmps133
    go_upto_region 1 with (fail)
    rw [← HW0.out]
    clear HW0
    go_wp2_with (first | (refine ld rowC rfl rfl rfl O0 rfl ?_) | (at_builtin; refine wpList_append_own _ rfl _ _ 27 rfl B 64 i0 _ 2 40 Tryz.underlying27 hi hz0 hz1 hz2 rfl (by decide) (.slice ao n cap) n xs rfl (hown0.alloc _) ⟨W0.heap.size, 0, none⟩ 1 1 [.string nm, .slice a2 n2 c2] rfl rfl ?c1 ?c2 ?c3 ?c4 ?c5 ?_))
    case c2 => first | rfl | simp [Value.oneCell']
    case c3 => first | (simp only [maxLen]; omega) | (unfold maxLen; omega) | omega
    case c4 => omega
    case c5 => first | omega | (simp; omega)
    intro v' w2 hown' hgrow _
    have HR := Lib.hid hown'
    have HG := Lib.hid hgrow
    have HA := Lib.hid (al.alloc al.size (.cells #[.string nm, .slice a2 n2 c2] 64))
    clear hown' hgrow
    go_wp2
    go_ret
    exact ⟨_, _, rfl, HA.out, HG.out, HR.out⟩
theorem info_i : (Tryz.prog.info? 25).map (fun i => (i.zero, i.size, i.bytes)) = some (some (.agg #[.int .u8 0, .int .u8 0, .int .i64 0, .int .i64 0, .int .i64 0, .int .i64 0, .int .i64 0, .int .i64 0, .int .i64 0]), 9, 64) := by kernel_rfl
set_option maxHeartbeats 4000000 in
theorem kept_i (k o d a b ad tt wd fr : Int) {w : World} {B : Nat} {v : Value} {n : Nat} {xs : List Value} (hown : w.ownsRow B 25 9 v n xs) (hB : B ≤ w.heap.size) (hn : n ≤ 1000000) (most : Int) (hm0 : -9223372036854775808 ≤ most) (hm1 : most ≤ 9223372036854775807) :
    Calls Tryz.prog 137 #[v, .agg #[.int .u8 k, .int .u8 o, .int .i64 d, .int .i64 a, .int .i64 b, .int .i64 ad, .int .i64 tt, .int .i64 wd, .int .i64 fr], .int .i64 most] w (KeptP w B 25 9 v n xs most [.int .u8 k, .int .u8 o, .int .i64 d, .int .i64 a, .int .i64 b, .int .i64 ad, .int .i64 tt, .int .i64 wd, .int .i64 fr]) := by
  obtain ⟨i0, hi, hz0, hz1, hz2⟩ := info_parts info_i
  obtain ⟨ao, cap, rfl⟩ := row_slice hown
  by_cases hb : most < (n : Int)
  · have hk : KeptP w B 25 9 (.slice ao n cap) n xs most [.int .u8 k, .int .u8 o, .int .i64 d, .int .i64 a, .int .i64 b, .int .i64 ad, .int .i64 tt, .int .i64 wd, .int .i64 fr] = fun e w' => e = .returned (.slice ao n cap) ∧ Below w.heap.size w w' := by funext e w'; unfold KeptP; rw [if_pos hb]
    rw [hk]
    clear hk hown
    go_enter Tryz.func137, Tryz.ntmps137
    go_wp2
    go_ret
    exact ⟨rfl, (Below.refl _ w).alloc (Nat.le_refl _) _⟩
  · have hk : KeptP w B 25 9 (.slice ao n cap) n xs most [.int .u8 k, .int .u8 o, .int .i64 d, .int .i64 a, .int .i64 b, .int .i64 ad, .int .i64 tt, .int .i64 wd, .int .i64 fr] = fun e w' => ∃ v' w1, e = .returned v' ∧ Below w.heap.size w w1 ∧ w1.grownBy w' (Value.slice ao n cap).ownBlock ∧ w'.ownsRow B 25 9 v' (n + 1) (xs ++ [.int .u8 k, .int .u8 o, .int .i64 d, .int .i64 a, .int .i64 b, .int .i64 ad, .int .i64 tt, .int .i64 wd, .int .i64 fr]) := by funext e w'; unfold KeptP; rw [if_neg hb]
    rw [hk]
    clear hk
    have al := (Below.refl w.heap.size w).alloc (Nat.le_refl _) (.cells #[.int .u8 k, .int .u8 o, .int .i64 d, .int .i64 a, .int .i64 b, .int .i64 ad, .int .i64 tt, .int .i64 wd, .int .i64 fr] 25)
    have O0 := Own.new w 25 #[.int .u8 k, .int .u8 o, .int .i64 d, .int .i64 a, .int .i64 b, .int .i64 ad, .int .i64 tt, .int .i64 wd, .int .i64 fr]
    have hown0 := row_below hown al
    have hs0 : B ≤ (w.alloc (.cells #[.int .u8 k, .int .u8 o, .int .i64 d, .int .i64 a, .int .i64 b, .int .i64 ad, .int .i64 tt, .int .i64 wd, .int .i64 fr] 25)).heap.size := by simp; omega
    obtain ⟨W0, hW0⟩ : ∃ W, W = w.alloc (.cells #[.int .u8 k, .int .u8 o, .int .i64 d, .int .i64 a, .int .i64 b, .int .i64 ad, .int .i64 tt, .int .i64 wd, .int .i64 fr] 25) := ⟨_, rfl⟩
    rw [← hW0] at al O0 hown0 hs0
    have HW0 := Lib.hid hW0
    clear hW0 hown
    go_enter Tryz.func137, Tryz.ntmps137
    go_upto_region 1 with (fail)
    rw [← HW0.out]
    clear HW0
    go_wp2_with (first | (refine ld rowI rfl rfl rfl O0 rfl ?_) | (at_builtin; refine wpList_append_own _ rfl _ _ 62 rfl B 25 i0 _ 9 64 Tryz.underlying62 hi hz0 hz1 hz2 rfl (by decide) (.slice ao n cap) n xs rfl (hown0.alloc _) ⟨W0.heap.size, 0, none⟩ 1 1 [.int .u8 k, .int .u8 o, .int .i64 d, .int .i64 a, .int .i64 b, .int .i64 ad, .int .i64 tt, .int .i64 wd, .int .i64 fr] rfl rfl ?c1 ?c2 ?c3 ?c4 ?c5 ?_))
    case c2 => first | rfl | simp [Value.oneCell']
    case c3 => first | (simp only [maxLen]; omega) | (unfold maxLen; omega) | omega
    case c4 => omega
    case c5 => first | omega | (simp; omega)
    intro v' w2 hown' hgrow _
    have HR := Lib.hid hown'
    have HG := Lib.hid hgrow
    have HA := Lib.hid (al.alloc al.size (.cells #[.int .u8 k, .int .u8 o, .int .i64 d, .int .i64 a, .int .i64 b, .int .i64 ad, .int .i64 tt, .int .i64 wd, .int .i64 fr] 25))
    clear hown' hgrow
    go_wp2
    go_ret
    exact ⟨_, _, rfl, HA.out, HG.out, HR.out⟩
end Go.Proofs.YtgmcfinjlddgbaaGreatDoor
